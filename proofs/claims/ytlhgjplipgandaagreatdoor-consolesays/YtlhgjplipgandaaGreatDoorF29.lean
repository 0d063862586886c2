/- Joined. -/
import Derived.Test.YtlhgjplipgandaaGreatDoorF28
set_option maxRecDepth 100000
set_option maxHeartbeats 8000000
set_option linter.unusedSimpArgs false
set_option linter.unusedSectionVars false
namespace Go.Proofs.YtlhgjplipgandaaGreatDoor
open Tryz
open Go.RowKit Go.BigFrame Go.Maps
def Zk(q:Sk):Nat->Sk
 |0=>q
 |k+1=>(Zk q k).aY k
theorem Vb(q:Sk):Zk q 3=q.serve:=rfl
structure PE(s:Nat)(p:Sk)(A:Rs)(w:World)(k:Nat)(wr:World)(p':Sk)(A':Rs):Prop where
 st:bH s p A p' A' w wr
 bX:A'.bX<=A.bX
 nf:p'.nf=Zk p.nf k
 inv:bg p'
 tags:p'.tags<=p.tags+k
 az:p'.az<=p.az+k
 left:aQ p'
section
variable{s:Nat}{p p':Sk}{A A':Rs}{w wr w2:World}{k:Nat}
theorem PE.next(h:PE s p A w k wr p' A')(ho:ed 0 s p' A' wr w2 (p'.nf.aY k)):∃p2 A2,PE s p A w (k+1) w2 p2 A2:=by
 obtain⟨p2,A2,hs,hn,hc⟩:=ho;have hm:=lH p'.nf k;have hi:=h.inv.nf.aY k;have pN:aQ p2:=by
  have:=h.left.nf.aY k;rw[<-hn] at this;exact this.cD
 have e:p'.nf.aY k=Zk p.nf (k+1):=by rw[h.nf];rfl
 rw[<-hn] at hm hi;refine⟨p2,A2,h.st.trans hs,by have:=h.bX;omega,by rw[hn,e],hi.cD,?_,?_,pN⟩
 ·have h1:p2.nf.tags<=p'.nf.tags+1:=hm.tags;have h2:=h.tags;have h3:p2.tags<=p'.tags+1:=h1
  omega
 ·have h1:p2.nf.az<=p'.nf.az+1:=hm.az;have h2:=h.az;have h3:p2.az<=p'.az+1:=h1
  omega
theorem N1(h:(p.ao k).kind=0):p.nf.aY k=p.nf:=by
 have e:(p.nf.ao k).kind=0:=h;unfold Sk.aY;rw[e]
 simp
theorem N2(h:(p.ao k).kind=1):p.nf.aY k=p.nf.gd k:=by
 have e:(p.nf.ao k).kind=1:=h;unfold Sk.aY;rw[aaV e]
theorem Mq(h:(p.ao k).kind=2):p.nf.aY k=p.nf.dH k:=by
 have e:(p.nf.ao k).kind=2:=h;unfold Sk.aY;rw[aaP (by rw[e];decide),aaV e]
theorem N3(h:(p.ao k).kind=3):p.nf.aY k=p.nf.eQ k:=by
 have e:(p.nf.ao k).kind=3:=h;unfold Sk.aY;rw[aaP (by rw[e];decide),aaP (by rw[e];decide),aaV e]
theorem N0(h:(p.ao k).kind=2\/(p.ao k).kind=3)(hd:p.dead=true):p.nf.aY k=p.nf.answer k bE 9:=by
 have e:p.nf.dead=true:=hd
 rcases h with h|h
 ·rw[Mq h];unfold Sk.dH;rw[aaV e]
 ·rw[N3 h];unfold Sk.eQ;rw[aaV e]
end
theorem vB(L:List Rq):(cQ (ef L)).toArray.size=32:=by
 show(cQ (ef L)).length=32;rw[cQ,abe,yd]
theorem Er(w:World):(w.alloc (.cells (cQ (List.replicate 32 false)).toArray 162)).heap[w.heap.size]?=some (.cells (cQ (List.replicate 32 false)).toArray 162 (0,0)):=acm w _
theorem Gv(w:World):(w.alloc (.cells (cQ (List.replicate 32 false)).toArray 162)).there w.heap.size 0 32:=fun j hj=>by
 refine⟨?_,cG (Er w) _⟩;rw[aR (Er w),aaX (by rw[cQ,abe,afE];omega)]
 rfl
theorem CS(w3:World)(L:List Rq):((w3.alloc (.cells (cQ (List.replicate 32 false)).toArray 162)).setCells w3.heap.size 0 (cQ (ef L))).heap[w3.heap.size]?=some (.cells (cQ (ef L)).toArray 162 (0,0))/\bL w3 ((w3.alloc (.cells (cQ (List.replicate 32 false)).toArray 162)).setCells w3.heap.size 0 (cQ (ef L))):=by
 have e:(cQ (List.replicate 32 false)).length=32:=by rw[cQ,abe,afE]
 have e2:(cQ (ef L)).length=32:=by rw[cQ,abe,yd]
 refine⟨?_,?_⟩
 ·have h1:=kQ w3.heap.size 162 (cQ (ef L)) 0 _ _ (Er w3) (by rw[e,e2];omega);have h2:splice (cQ (List.replicate 32 false)) 0 (cQ (ef L))=cQ (ef L):=by
   unfold splice;rw[afv,abJ,e2,acA oM,afd]
  rw[h2] at h1;exact h1
 ·exact(rG (F:=fun j=>w3.heap.size<=j) w3.heap.size (il (aaO _)) _ _ _ (aH.cj (aA w3 _))).below (aaO _) (fun i e=>e)
theorem Wz(w3:World)(L:List Rq)(P:Nat)(hP:P<32):((w3.alloc (.cells (cQ (List.replicate 32 false)).toArray 162)).setCells w3.heap.size 0 (cQ (ef L))).cell? ⟨w3.heap.size,P,none⟩=some (.bool (L.any fun r=>dO r.f r.m (P:Int))) :=
 (aR (CS w3 L).1 P).trans (by simpa using La L P hP)
theorem Pm(l:List Bf)(a:Option Addr)(c:Nat)(n:Int):∃(bx:Bf) (is:Bool),(is&&bx.bM)=bY l n/\∀W,bA W a l->Calls prog 99 #[.slice a l.length c,i6 n] W (rB (.tuple #[bx.val,.bool is]) W):=by
 rcases gq l n with⟨hg,gA⟩|⟨j,hj,hg,gA,_⟩
 ·exact⟨⟨0,⟨#[]⟩,false,0⟩,false,by unfold bY;rw[hg];rfl,fun W hl=>vX l a c n W hl gA⟩
 ·exact⟨l[j],true,by unfold bY;rw[hg,adA],fun W hl=>xA l a c n W hl j hj gA⟩
theorem TP:(prog.info? 3).map (fun i=>(i.zero,i.size,i.bytes))=some (some (i6 0),1,8):=kR
section
variable{s:Nat}{p:Sk}{A:Rs}{w w':World}{m':Rd}{xy:Ra}{n' c':Nat}{D':DataW Unit}
theorem aas(hs:gE A.v A.b A.bm A.m A.ra A.n A.D m' xy n' D' w w'):∀k,({ A with m:=m',ra:=xy,n:=n',D:=D',bX:=c' }:Rs).off s k->A.off s k\/w.heap.size<=k:=by
 rintro k ((e|e|e)|e)
 ·exact il (il (il e))
 ·exact(hs.ay k e).imp (fun e=>il (ir (il e))) id
 ·exact il (il (ir (ir e)))
 ·exact il (ir e)
theorem bN.KC(h:bN s p A w){r:Rq}(hr:r∈p.dev.busy):r.At w:=h.mem.cE.dev.fb.2.1 r (by rw[h.mem.busy];exact hr)
theorem bN.JX(h:bN s p A w)(hs:gE A.v A.b A.bm A.m A.ra A.n A.D m' xy n' D' w w'){r:Rq}(hr:r∈p.dev.busy):r.dB (({ A with m:=m',ra:=xy,n:=n',D:=D',bX:=c' }:Rs).off s) :=
 Rq.dB.step (h.KC hr) (h.mem.eY r (aa8 _ hr)) (aas hs)
theorem bN.GQ(h:bN s p A w)(hs:dL A.b A.m A.ra A.m.flush xy w w'):bH s p A { p with dev:=p.dev.flush } { A with m:=A.m.flush,ra:=xy } w w' :=
 bN.step (f':=p.f) p.ag A.bX h (h.mem.cE.step hs) h.mem.tied.flush h.mem.busy h.mem.nb (ach _) h.mem.map h.mem.im (fun _ hr=>h.JX (h.mem.cE.step hs) hr)
end
theorem MT(p:Sk)(k:Nat)(x:Cl)(d:ByteArray)(e:Int):({ p with cl:=p.cl.set k x }:Sk).answer k d e=p.answer k d e:=by
 unfold Sk.answer;simp only[afA]
theorem XW{s:Nat}{p:Sk}{A:Rs}{w wx:World}(h:bN s p A w){a':Option Addr}{L:List Int}(hI:eF wx a' L)(hn:∀b o,a'=some ⟨b,o,none⟩->w.heap.size<=b):L ≠ []->∀q,a'=some q->¬A.off s q.block:=fun aE q hq=>by
 rcases hI.form with e|⟨b',o',e⟩
 ·exact absurd e aE
 ·rw[e] at hq;simp only[aa4] at hq;subst hq;have:=hn b' o' e;exact fun eX=>by have:=h.ky _ eX;simp only at this;omega
theorem bH.box{s:Nat}{p p':Sk}{A A':Rs}{w wz w':World}{g j:Nat}{v:Value}(hs:bH s p A p' A' wz w')(h0:bN s p A w)(hg:w.heap.size<=g)(hc:wz.cell? ⟨g,j,none⟩=some v):w'.cell? ⟨g,j,none⟩=some v :=
 (hs.only.cell (p:=⟨g,j,none⟩) (aq hc) (fun e=>by have:=h0.bC _ e;simp only at this;omega)).trans hc
theorem ow(s:Nat)(p:Sk)(A:Rs)(w:World)(h:bN s p A w)(hI:bg p)(hL:aQ p)(hT:p.tags<=3999999999999999990)(hU:p.az<=3999999999999999990)(q:Sk)(hq:p.nf.serve=q):Calls prog 96 #[.pointer (some ⟨s,0,none⟩)] w fun e w'=>e=.returned (.tuple #[])/\ed 0 s p A w w' q:=by
 have aL:=ae h;have HI:=ae hI;have HQ:=ae hq;have HLF:=ae hL;have hl:=h.lt;clear h hI hq hL;go_enter func96,ntmps96;go_wp2
 go_loopw[2] (fun i wr=>∃(k:Nat) (p':Sk) (A':Rs),k<=3/\i=i6 k/\PE s p A w k wr p' A') (fun i _=>3-(intOf i).toNat)
 case atStart=>exact⟨0,p,A,oM,rfl,bH.cX aL.out (aX _ _),aaO _,rfl,HI.out,oM,oM,HLF.out⟩
 case round =>
  obtain⟨k,p1,A1,IN,rfl,hr⟩:=hrel;have HR:=ae hr;have Tr:=hr.st.at'.lt
  by_cases hk:k<3
  ·have yg:(0:Int)<=(k:Int):=oM;have aeK:(k:Int)<3:=oM;have HN:=ae (fun W (ho:ed 0 s p1 A1 wr W (p1.nf.aY k))=>hr.next ho);have fE:=(hr.st.at'.fE hk).1;unfold tU at fE
   cases fC:A1.ka k with
   |none =>
    rw[fC] at fE;simp only[afV] at fE;have qP:Hid (ed 0 s p1 A1 wr wr (p1.nf.aY k)):=⟨p1,A1,bH.cX hr.st.at' (aX _ _),(N1 (hr.st.at'.mem.idle k hk fC)).symm,aaO _⟩
    clear hr fC HI aL;go_wp2;go_roundw
    case rel=>obtain⟨p2,A2,h2⟩:=HN.out _ qP.out;exact⟨k+1,p2,A2,oM,gN,h2⟩
    case measure=>simp[intOf];omega
   |some ak =>
    rw[fC] at fE;simp only[afl] at fE;have lo:=hr.st.at'.mem.asks k hk ak fC;have mo:=ae lo;have Kd:=ae fC;have Hu:=ae (hr.inv.ao k);obtain⟨k0,k1,k2,k3,Pa,LC⟩:=lo.cells;have gF:(p1.ao k).kind=1\/(p1.ao k).kind=2\/(p1.ao k).kind=3:=by
     have:=lo.kind;have:=(hr.inv.ao k).kind
     omega
    have pD:=ae hr.inv;have cf:=ae hr.st;clear lo fC
    rcases gF with gF|gF
    ·have HE:=ae (N2 gF);have oC:=ae (Hu.out.pl (by rw[gF];decide));rw[gF] at k0;obtain⟨pl,bV⟩:∃pl,(p1.ao k).pl=pl:=⟨_,rfl⟩
     rw[bV] at k1 oC;have HC:=ae bV;have c2:=cf.out.at'.cell 2 _ rfl;have HH:=ae cf.out.at'.mem.hand;have HCLL:=ae pD.out.fV;have hU1:p1.az<=4000000000000000000:=by have:=hr.az;omega
     have sW:IntKind.i64.wrap (p1.az+1)=p1.az+1:=by have:=pD.out.us;rw[abr];omega
     have cy:Hid (p1.tags<=4000000000000000000):=by have:=hr.tags;show _<=_;omega
     have H8:=ae pD.out.hand.len;clear hr gF bV k2 k3 Pa;have wk:=ae cf.out.at'
     rcases gq p1.hand pl with⟨hg,gA⟩|⟨j,hj,hg,gA,hjp⟩
     ·as_aux_lemma =>
       obtain⟨P,hP⟩:∃P:Nat,pl=P:=⟨pl.toNat,by have:=oC.out;omega⟩
       subst hP;have Ee:P<32:=by have:=oC.out;omega
       have sr:=ae gA;have J8:Hid (p1.nf.aY k=if p1.held P=true then p1.nf else(p1.nf.gI P false []).2):=by
        show _=_;rw[HE.out];show(match fa p1.hand (p1.ao k).pl with|some b=>_|none=>_)=_;rw[HC.out,hg];show(if p1.nf.held (p1.ao k).pl=true then p1.nf else(p1.nf.gI (p1.ao k).pl false []).2)=_;rw[HC.out,ub]
       clear hg gA HE;go_upto_region 6 with fail
       go_region_held3 (fun w'=>w'.cell? ⟨s,2,none⟩=some (.slice A1.ha p1.hand.length A1.hc)/\w'.cell? ⟨ak,1,none⟩=some (i6 P)) (exact⟨ai (w:=wr) bQ c2,ai (w:=wr) bQ k1⟩) (first|(go_at_call 99;refine cM (vX p1.hand A1.ha A1.hc P _ (HH.out.later bQ) sr.out) ?_;intro w1 aw;have z1:wr.heap.size<=w1.heap.size:=(show bL wr w1 from bQ).size;(try(obtain⟨m0,m1,m2,m3,m4,m5,m6,m7⟩:w1.cell? ⟨wr.heap.size,0,none⟩=some (i6 0)/\w1.cell? ⟨wr.heap.size,1,none⟩=some (.string ⟨#[]⟩)/\w1.cell? ⟨wr.heap.size,2,none⟩=some (.bool false)/\w1.cell? ⟨wr.heap.size,3,none⟩=some (i6 0)/\w1.frozen? ⟨wr.heap.size,0,none⟩=false/\w1.frozen? ⟨wr.heap.size,1,none⟩=false/\w1.frozen? ⟨wr.heap.size,2,none⟩=false/\w1.frozen? ⟨wr.heap.size,3,none⟩=false;(focus((refine⟨(aw.cell (p:=⟨wr.heap.size,0,none⟩) ?_).trans ?_,(aw.cell (p:=⟨wr.heap.size,1,none⟩) ?_).trans ?_,(aw.cell (p:=⟨wr.heap.size,2,none⟩) ?_).trans ?_,(aw.cell (p:=⟨wr.heap.size,3,none⟩) ?_).trans ?_,(aw.frozen (p:=⟨wr.heap.size,0,none⟩) ?_).trans ?_,(aw.frozen (p:=⟨wr.heap.size,1,none⟩) ?_).trans ?_,(aw.frozen (p:=⟨wr.heap.size,2,none⟩) ?_).trans ?_,(aw.frozen (p:=⟨wr.heap.size,3,none⟩) ?_).trans ?_⟩);(all_goals simp);(all_goals omega)))))))
       all_goals
        refine ku (fun wz=>bL wr wz) bQ ?_;intro wz fo;have wC:=ae (bH.cX wk.out fo);clear aw z1 c2 k1 fE k0 LC;go_wp2_with fail;refine cM (se s p1 A1 _ wC.out.at' pD.out) ?_;intro w3 bo;go_upto_region 8 with(refine wpList_store_mid rfl 162 (.tmp 6) (.tmp 45) rfl w3.heap.size 0 (cQ (ef (p1.queue++p1.dev.busy))).toArray rfl rfl (by rw[vB];exact Gv w3) (by rw[vB];exact zL) (all_oneCell_toArray (Bv _)) ?_;simp only)
        refine ei (fun wy=>bL wr wy/\wy.cell? ⟨w3.heap.size,P,none⟩=some (.bool (p1.held P))) ⟨af (af fo bo) (CS w3 _).2,Wz w3 (p1.queue++p1.dev.busy) P Ee⟩ ?_;rintro wy ⟨jh,hhc⟩;have wu:=ae (bH.cX wk.out jh);have k1y:=(wu.out.at'.mem.asks k hk ak Kd.out).cells.2.1;rw[HC.out] at k1y;have ly:=wu.out.at'.lt;have lw3:=aq hhc;have hP0:(0:Int)<=(P:Int):=oM;have hP1:(P:Int)<32:=oM;clear bo fo jh wC
        cases hh:p1.held P
        ·rw[hh] at hhc;have HF:=ae hh;clear hh;go_wp2_with fail;refine cM (Gc s p1 A1 _ wu.out.at' pD.out cy.out P oC.out false [] sM none 0 (il rfl) (fun _=>rfl) (fun aE=>absurd rfl aE) (fun tb=>xS (tt pD.out P oC.out false [] (ir ⟨rfl,rfl⟩)) none 0 tb) _ _ rfl) ?_;intro w7 Tm;have qP:Hid (ed 0 s p1 A1 wr w7 (p1.nf.aY k)):=ed.before wu.out (aaO _) (by rw[J8.out,HF.out];exact Tm) (aaO _);clear Tm;go_wp2;go_roundw
         case rel=>obtain⟨p2,A2,h2⟩:=HN.out _ qP.out;exact⟨k+1,p2,A2,oM,gN,h2⟩
         case measure=>simp[intOf];omega
        ·rw[hh] at hhc;have HF:=ae hh;clear hh;have qP:Hid (ed 0 s p1 A1 wr wy (p1.nf.aY k)):=⟨p1,A1,wu.out,by rw[J8.out,HF.out];rfl,aaO _⟩
         go_wp2;go_roundw
         case rel=>obtain⟨p2,A2,h2⟩:=HN.out _ qP.out;exact⟨k+1,p2,A2,oM,gN,h2⟩
         case measure=>simp[intOf];omega
     ·as_aux_lemma =>
       obtain⟨b,nT⟩:∃b,b=p1.hand[j]:=⟨_,rfl⟩
       have J4:Hid (b=p1.hand[j]):=nT;have sr:=ae gA;have J8:Hid (p1.nf.aY k=({ p1.nf with az:=p1.az+1,hand:=kT p1.hand pl (p1.az+1) }:Sk).answer k b.data 0):=by
        show _=_;rw[HE.out,nT];show(match fa p1.hand (p1.ao k).pl with|some b=>_|none=>_)=_;rw[HC.out,hg];show({ p1.nf with az:=p1.nf.az+1,hand:=kT p1.nf.hand (p1.ao k).pl (p1.nf.az+1) }:Sk).answer k _ 0=_;rw[HC.out]
        rfl
       clear nT hg gA hjp HE;obtain⟨Yx,sC,sD,JS⟩:=b;go_upto_region 6 with fail
       go_region_held3 (fun w'=>w'.cell? ⟨s,2,none⟩=some (.slice A1.ha p1.hand.length A1.hc)/\w'.cell? ⟨ak,1,none⟩=some (i6 pl)) (exact⟨ai (w:=wr) bQ c2,ai (w:=wr) bQ k1⟩) (first|(go_at_call 99;refine(xA p1.hand A1.ha A1.hc pl _ (HH.out.later bQ) j hj sr.out).mono ?_;rw[<-J4.out];rintro e w1 ⟨rfl,aw⟩;have z1:wr.heap.size<=w1.heap.size:=(show bL wr w1 from bQ).size;(try(obtain⟨m0,m1,m2,m3,m4,m5,m6,m7⟩:w1.cell? ⟨wr.heap.size,0,none⟩=some (i6 0)/\w1.cell? ⟨wr.heap.size,1,none⟩=some (.string ⟨#[]⟩)/\w1.cell? ⟨wr.heap.size,2,none⟩=some (.bool false)/\w1.cell? ⟨wr.heap.size,3,none⟩=some (i6 0)/\w1.frozen? ⟨wr.heap.size,0,none⟩=false/\w1.frozen? ⟨wr.heap.size,1,none⟩=false/\w1.frozen? ⟨wr.heap.size,2,none⟩=false/\w1.frozen? ⟨wr.heap.size,3,none⟩=false;(focus((refine⟨(aw.cell (p:=⟨wr.heap.size,0,none⟩) ?_).trans ?_,(aw.cell (p:=⟨wr.heap.size,1,none⟩) ?_).trans ?_,(aw.cell (p:=⟨wr.heap.size,2,none⟩) ?_).trans ?_,(aw.cell (p:=⟨wr.heap.size,3,none⟩) ?_).trans ?_,(aw.frozen (p:=⟨wr.heap.size,0,none⟩) ?_).trans ?_,(aw.frozen (p:=⟨wr.heap.size,1,none⟩) ?_).trans ?_,(aw.frozen (p:=⟨wr.heap.size,2,none⟩) ?_).trans ?_,(aw.frozen (p:=⟨wr.heap.size,3,none⟩) ?_).trans ?_⟩);(all_goals simp);(all_goals omega)))))))
       refine ku (fun wz=>bL wr wz/\wz.cell? ⟨w1.heap.size,1,none⟩=some (.string sC)/\wr.heap.size<=w1.heap.size) ⟨bQ,sM,z1⟩ ?_
       rotate_left
       refine ku (fun wz=>bL wr wz/\wz.cell? ⟨wr.heap.size,1,none⟩=some (.string sC)/\wr.heap.size<=wr.heap.size) ⟨bQ,(cB (ir oM)).trans ((cB (ir oM)).trans (aa2 _ _ _ ((cB (ir oM)).trans m1))),aaO _⟩ ?_
       all_goals
        rintro wz ⟨fo,cA,mE⟩;have kG:=ae cA;have Ka:=ae mE;have wC:=ae (bH.cX wk.out fo);clear aw z1 cA mE c2 k1 fE k0 LC;go_wp2_with fail;refine cM (se s p1 A1 _ wC.out.at' pD.out) ?_;intro w3 bo;go_upto_region 8 with(refine wpList_store_mid rfl 162 (.tmp 6) (.tmp 45) rfl w3.heap.size 0 (cQ (ef (p1.queue++p1.dev.busy))).toArray rfl rfl (by rw[vB];exact Gv w3) (by rw[vB];exact zL) (all_oneCell_toArray (Bv _)) ?_;simp only)
        refine ei (fun wy=>bL wr wy/\wy.cell? ⟨_,1,none⟩=some (.string sC)) ⟨af (af fo bo) (CS w3 _).2,ai (CS w3 _).2 (ai bo kG.out)⟩ ?_;rintro wy ⟨jh,cA⟩;have aek:=ae cA;have wu:=ae (bH.cX wk.out jh);have c9:=wu.out.at'.cell 9 _ rfl;have f9:=wu.out.at'.fz 9;have ly:=wu.out.at'.lt;clear bo fo cA jh kG wC;go_upto_region 10 with fail;refine ei (fun wv=>bH s p1 A1 { p1 with az:=p1.az+1 } A1 wy wv) (wu.out.at'.o6 (p1.az+1)) ?_;intro wv iU;have jY:=ae iU;have hak:=(iU.at'.mem.asks k hk ak Kd.out).cells.2.1;rw[show({ p1 with az:=p1.az+1 }:Sk).ao k=p1.ao k from rfl,HC.out] at hak;have HS:Hid ((fun wx:World=>wx.cell? ⟨s,2,none⟩=some (.slice A1.ha p1.hand.length A1.hc)/\wx.cell? ⟨ak,1,none⟩=some (i6 pl)/\wx.cell? ⟨s,9,none⟩=some (i6 (p1.az+1))/\s<wx.heap.size) wv.drew):=⟨iU.at'.cell 2 _ rfl,hak,iU.at'.cell 9 _ rfl,iU.at'.lt⟩
        have eg:∀args w,Sem.run prog (callFunc 145 args) w=.ok (.enter 145 args) w:=by intro args w;go_simp
        clear iU c9 f9 ly hak;refine eL (S:=fun wx:World=>wx.cell? ⟨s,2,none⟩=some (.slice A1.ha p1.hand.length A1.hc)/\wx.cell? ⟨ak,1,none⟩=some (i6 pl)/\wx.cell? ⟨s,9,none⟩=some (i6 (p1.az+1))/\s<wx.heap.size) (d:=16) kR ?_;refine tK 0 rfl HS.out ?_;(try simp only[Act.put,dP]);refine tK 1 rfl HS.out ?_;(try simp only[Act.put,dP]);refine tK 2 rfl HS.out ?_;(try simp only[Act.put,dP]);refine tK 3 rfl HS.out ?_;(try simp only[Act.put,dP]);refine tK 4 rfl HS.out ?_;(try simp only[Act.put,dP]);refine tK 5 rfl HS.out ?_;(try simp only[Act.put,dP]);refine tK 6 rfl HS.out ?_;(try simp only[Act.put,dP]);refine tK 7 rfl HS.out ?_;(try simp only[Act.put,dP]);refine tK 8 rfl HS.out ?_;(try simp only[Act.put,dP]);refine tK 9 rfl HS.out ?_;(try simp only[Act.put,dP]);refine tK 10 rfl HS.out ?_;(try simp only[Act.put,dP]);refine tK 11 rfl HS.out ?_;(try simp only[Act.put,dP]);refine tK 12 rfl HS.out ?_;(try simp only[Act.put,dP]);refine bn (i:=13) rfl kR ?_;intro K hK;refine yY rfl 145 58 62 66 91 3 3 rfl eg (.slice A1.ha p1.hand.length A1.hc) (i6 pl) (i6 (p1.az+1)) rfl rfl rfl (fun r w'=>∃a' c',r=.slice a' p1.hand.length c'/\bA w' a' (kT p1.hand pl (p1.az+1))/\n8 wv.heap.size a' c' p1.hand.length/\bL wv w') ((aec p1.hand A1.ha A1.hc pl (p1.az+1) wv.drew (jY.out.at'.mem.hand.later (aX _ _).drew) jY.out.at'.mem.cU (by have:=H8.out;omega)).mono (fun e w' ⟨a',c',he,h1,h2,h3⟩=>⟨_,he,a',c',rfl,h1,h3,(aX _ _).drew.trans h2⟩)) ?_;rintro r w5 ⟨a',c',rfl,u1,⟨u4,u2,u3⟩,u5⟩;have eO:=ae (jY.out.later u5);have qR:=ae (eO.out.trans (eO.out.at'.fT (kT p1.hand pl (p1.az+1)) a' c' u1 (by rw[yF];exact u2) u4 (fun _ q' cI e=>by have:=u3 q' cI;have:=jY.out.at'.ky _ e;omega)));have v2:=eO.out.at'.cell 2 _ rfl;have x2:=eO.out.at'.fz 2;have l5:=eO.out.at'.lt;have Ws:=(eO.out.at'.mem.asks k hk ak Kd.out).cells.2.1;rw[show({ p1 with az:=p1.az+1 }:Sk).ao k=p1.ao k from rfl,HC.out] at Ws;have OJ:Hid ((fun wx:World=>wx.cell? ⟨s,2,none⟩=some (.slice A1.ha p1.hand.length A1.hc)/\wx.cell? ⟨ak,1,none⟩=some (i6 pl)/\wx.cell? ⟨s,9,none⟩=some (i6 (p1.az+1))/\s<wx.heap.size) w5):=⟨v2,Ws,eO.out.at'.cell 9 _ rfl,l5⟩
        refine hK _ _ (fun _=>OJ.out) ?_
        (try simp only[Act.put,dP])
        clear hK u1 u2 u3 u4 u5 Ws;refine bn (i:=14) rfl kR ?_;intro K hK;go_simp;refine hK _ _ (fun _=>OJ.out) ?_
        (try simp only[Act.put,dP])
        clear hK;refine bn (i:=15) rfl kR ?_;intro K hK;go_simp;refine hK _ _ (fun _=>OJ.out) ?_
        (try simp only[Act.put,dP])
        clear hK;refine bn (i:=16) rfl kR ?_;intro K hK;go_simp;refine hK _ _ (fun h=>absurd rfl h) ?_
        (try simp only[Act.put,dP])
        clear hK;refine fw kR ?_ _;refine ku (fun wx=>bH s p1 A1 { p1 with az:=p1.az+1,hand:=kT p1.hand pl (p1.az+1) } { A1 with ha:=a',hc:=c' } wy wx) (by have:=qR.out;rw[yF] at this;exact this) ?_;intro w6 pS;have mA:=ae pS;have K8:=pS.box wk.out Ka.out aek.out;have l6:=aq K8;clear pS v2 x2 l5;go_wp2_with fail;refine cM (o5 s _ _ w6 mA.out.at' k hk sC 0) ?_;intro w7 lD;have qP:Hid (ed 0 s p1 A1 wr w7 (p1.nf.aY k)):=⟨_,_,wu.out.trans (mA.out.trans lD),by rw[J8.out];rfl,aaO _⟩
        have l7:=lD.at'.lt;clear lD K8 l6;go_wp2;go_roundw
        case rel=>obtain⟨p2,A2,h2⟩:=HN.out _ qP.out;exact⟨k+1,p2,A2,oM,gN,h2⟩
        case measure=>simp[intOf];omega
    ·cases ij:p1.dead
     ·rcases gF with gF|gF
      ·have hPL:=Hu.out.pl (by rw[gF];decide);obtain⟨pl,bV⟩:∃pl,(p1.ao k).pl=pl:=⟨_,rfl⟩
       obtain⟨dt,r7⟩:∃dt,(p1.ao k).data=dt:=⟨_,rfl⟩
       have wg:=ae (And.intro gF ij);have c20:=hr.st.at'.cell 20 _ rfl;rw[ij] at c20;have c2:=cf.out.at'.cell 2 _ rfl;rw[gF] at k0;rw[bV] at k1 hPL;rw[r7] at k2;have HC:=ae (And.intro bV r7);have oC:=ae hPL;have HH:=ae cf.out.at'.mem.hand;have hU1:p1.az<=4000000000000000000:=by have:=hr.az;omega
       have sW:IntKind.i64.wrap (p1.az+1)=p1.az+1:=by have:=pD.out.us;rw[abr];omega
       have Hw:Hid (bg { p1 with az:=p1.az+1 }):=pD.out.fT p1.hand (p1.az+1) pD.out.hand pD.out.d6 (by have:=pD.out.us;omega);have wk:=ae cf.out.at';obtain⟨bx,is,S8,Lc⟩:=Pm p1.hand A1.ha A1.hc pl;have OB:=ae Lc;have Dg:=ae S8;have J6:=ae (vD p1.hand);obtain⟨dn,nV⟩:∃dn,bW p1.hand=dn:=⟨_,rfl⟩
       have lC:=ae nV;clear hr gF bV r7 k3 Pa Lc S8 nV hPL ij;obtain⟨Yx,sC,sD,JS⟩:=bx;simp only at Dg;go_upto_region 17 with fail
       go_cut[7,8] (fun s7 s8 wx=>∃Qb,s7=.pointer (some ⟨Qb,0,none⟩)/\s8=.bool is/\wx.cell? ⟨Qb,2,none⟩=some (.bool sD)/\Qb<wx.heap.size/\bL wr wx)
       case first =>
        as_aux_lemma =>
         go_region_held3 (fun w'=>w'.cell? ⟨s,2,none⟩=some (.slice A1.ha p1.hand.length A1.hc)/\w'.cell? ⟨ak,1,none⟩=some (i6 pl)) (exact⟨ai (w:=wr) bQ c2,ai (w:=wr) bQ k1⟩) (first|(go_at_call 99;refine cM (OB.out _ (HH.out.later bQ)) ?_;intro w1 aw;have z1:wr.heap.size<=w1.heap.size:=(show bL wr w1 from bQ).size;(try(obtain⟨m0,m1,m2,m3,m4,m5,m6,m7⟩:w1.cell? ⟨wr.heap.size,0,none⟩=some (i6 0)/\w1.cell? ⟨wr.heap.size,1,none⟩=some (.string ⟨#[]⟩)/\w1.cell? ⟨wr.heap.size,2,none⟩=some (.bool false)/\w1.cell? ⟨wr.heap.size,3,none⟩=some (i6 0)/\w1.frozen? ⟨wr.heap.size,0,none⟩=false/\w1.frozen? ⟨wr.heap.size,1,none⟩=false/\w1.frozen? ⟨wr.heap.size,2,none⟩=false/\w1.frozen? ⟨wr.heap.size,3,none⟩=false;(focus((refine⟨(aw.cell (p:=⟨wr.heap.size,0,none⟩) ?_).trans ?_,(aw.cell (p:=⟨wr.heap.size,1,none⟩) ?_).trans ?_,(aw.cell (p:=⟨wr.heap.size,2,none⟩) ?_).trans ?_,(aw.cell (p:=⟨wr.heap.size,3,none⟩) ?_).trans ?_,(aw.frozen (p:=⟨wr.heap.size,0,none⟩) ?_).trans ?_,(aw.frozen (p:=⟨wr.heap.size,1,none⟩) ?_).trans ?_,(aw.frozen (p:=⟨wr.heap.size,2,none⟩) ?_).trans ?_,(aw.frozen (p:=⟨wr.heap.size,3,none⟩) ?_).trans ?_⟩);(all_goals simp);(all_goals omega)))))))
         all_goals
          go_wp2
          go_meet
          case rel=>first|exact⟨_,rfl,rfl,sM,sM,bQ⟩|exact⟨_,rfl,rfl,(cB (ir oM)).trans (aa2 _ _ _ ((cB (ir oM)).trans ((cB (ir oM)).trans m2))),by have:=aq m2;simpa using this,bQ⟩
       case rest =>
        obtain⟨Qb,rfl,rfl,cA,eh,fo⟩:=hcut;clear OB;generalize Ls:wc=wz at *;clear Ls;have wC:=ae (bH.cX wk.out fo);have c2z:=wC.out.at'.cell 2 _ rfl;have HHz:=ae (HH.out.later fo);have we:=ae fo;have lsz:=wC.out.at'.lt;clear c2 c20 fE k0 LC k1 k2 fo;obtain⟨tq,htq⟩:∃tq,(!(is&&sD)&&decide (6<=dn))=tq:=⟨_,rfl⟩
        have OL:=ae htq;clear htq;go_upto_region 18 with fail
        go_cut[128] (fun sq wx=>sq=.bool tq/\bL wz wx)
        case first =>
         as_aux_lemma =>
          cases is
          ·go_wp2_with fail;refine cM (F9 p1.hand A1.ha A1.hc _ HHz.out dn (J6.out.trans lC.out)) ?_;intro w4 fk;go_wp2
           go_meet
           case rel=>exact⟨acT Value.bool (by rw[<-OL.out,ac0];simp;(try omega)),fk⟩
          ·cases sD
           ·go_wp2_with fail;refine cM (F9 p1.hand A1.ha A1.hc _ HHz.out dn (J6.out.trans lC.out)) ?_;intro w4 fk;go_wp2
            go_meet
            case rel=>exact⟨acT Value.bool (by rw[<-OL.out,ac0];simp;(try omega)),fk⟩
           ·go_wp2
            go_meet
            case rel=>exact⟨acT Value.bool (by rw[<-OL.out];rfl),aX _ _⟩
        case rest =>
         obtain⟨rfl,qy⟩:=hcut;have vq:=ae (bH.cX wk.out (af we.out qy));clear cA eh c2z wC HHz we qy lsz
         cases tq
         ·have HNG:Hid (¬(6<=bW p1.hand/\bY p1.hand pl=false)):=by
           have h1:=OL.out;rw[Dg.out] at h1;rintro⟨e1,e2⟩;rw[e2] at h1;rw[lC.out] at e1;rw[aa1 e1] at h1
           cases h1
          have c9:=vq.out.at'.cell 9 _ rfl;have f9:=vq.out.at'.fz 9;have lc:=vq.out.at'.lt;clear OL Dg J6 lC;go_upto_region 20 with fail;refine ei (fun wv=>bH s p1 A1 { p1 with az:=p1.az+1 } A1 wc wv) (vq.out.at'.o6 (p1.az+1)) ?_;intro wv iU;have jY:=ae iU;obtain⟨-,TT,TU,-⟩:=(iU.at'.mem.asks k hk ak Kd.out).cells;rw[show({ p1 with az:=p1.az+1 }:Sk).ao k=p1.ao k from rfl,HC.out.1] at TT;rw[show({ p1 with az:=p1.az+1 }:Sk).ao k=p1.ao k from rfl,HC.out.2] at TU;have YB:=iU.at'.cell 2 _ rfl;have YC:=iU.at'.cell 9 _ rfl;have lv:=iU.at'.lt;clear iU c9 f9 lc
          cases rM:jw p1.hand ⟨pl,dt,true,p1.az+1⟩ p1.held with
          |none =>
           as_aux_lemma =>
            have Bs:=ae rM;clear rM
            go_region_held3 (fun w'=>w'.cell? ⟨s,2,none⟩=some (.slice A1.ha p1.hand.length A1.hc)/\w'.cell? ⟨ak,1,none⟩=some (i6 pl)/\w'.cell? ⟨ak,2,none⟩=some (.string dt)/\w'.cell? ⟨s,9,none⟩=some (i6 (p1.az+1))) (exact⟨ai (w:=wv) bQ YB,ai (w:=wv) bQ TT,ai (w:=wv) bQ TU,ai (w:=wv) bQ YC⟩) (first|(go_at_call 98;refine(se s { p1 with az:=p1.az+1 } A1 _ (jY.out.at'.later bQ) Hw.out).mono ?_;rintro e wH ⟨rfl,O3⟩)|(go_at_call 108;refine(UQ { p1 with az:=p1.az+1 } A1.ha A1.hc _ Hw.out (jY.out.at'.mem.hand.later bQ) ⟨pl,dt,true,p1.az+1⟩ Bs.out).mono ?_;rintro e wP ⟨rfl,K6⟩))
            all_goals
             have Ov:Hid (bL wv wP):=(by show bL wv wP;exact bQ)
             have qP:Hid (ed 0 s p1 A1 wr wP (p1.nf.aY k)):=⟨_,_,(vq.out.trans jY.out).later Ov.out,(Gl wg.out.1 wg.out.2 HC.out.1 HC.out.2 HNG.out Bs.out).symm,aaO _⟩
             clear K6 YB YC TT TU;go_wp2;go_roundw
             case rel=>obtain⟨p2,A2,h2⟩:=HN.out _ qP.out;exact⟨k+1,p2,A2,oM,gN,h2⟩
             case measure=>simp[intOf];omega
          |some m =>
           as_aux_lemma =>
            have Bs:=ae rM;clear rM
            go_region_held3 (fun w'=>w'.cell? ⟨s,2,none⟩=some (.slice A1.ha p1.hand.length A1.hc)/\w'.cell? ⟨ak,1,none⟩=some (i6 pl)/\w'.cell? ⟨ak,2,none⟩=some (.string dt)/\w'.cell? ⟨s,9,none⟩=some (i6 (p1.az+1))) (exact⟨ai (w:=wv) bQ YB,ai (w:=wv) bQ TT,ai (w:=wv) bQ TU,ai (w:=wv) bQ YC⟩) (first|(go_at_call 98;refine cM (se s { p1 with az:=p1.az+1 } A1 _ (jY.out.at'.later bQ) Hw.out) ?_;intro wH O3)|(go_at_call 108;refine(Jb { p1 with az:=p1.az+1 } A1.ha A1.hc _ Hw.out (jY.out.at'.mem.hand.later bQ) ⟨pl,dt,true,p1.az+1⟩ m Bs.out).mono ?_;rintro e wP ⟨a',c',rfl,u1,u2,K6⟩))
            all_goals
             have Ov:Hid (bL wv wP):=(by show bL wv wP;exact bQ)
             have wj:=ae (jY.out.later Ov.out);have mE:wv.heap.size<=wH.heap.size:=(show bL wv wH from bQ).size;have qR:Hid (bH s p1 A1 { p1 with az:=p1.az+1,hand:=m } { A1 with ha:=a',hc:=c' } wc (wP.setCell ⟨s,2,none⟩ (.slice a' m.length c'))):=wj.out.trans (wj.out.at'.fT m a' c' u1 u2.2.1 u2.1 (fun _ q' cI e=>by have h9:=u2.2.2 q' cI;have:=jY.out.at'.ky _ e;(try simp only[World.drew] at h9);omega));have v2:=wj.out.at'.cell 2 _ rfl;have x2:=wj.out.at'.fz 2;have lp:=wj.out.at'.lt;clear K6 YB YC TT TU u1 u2 O3 mE;go_wp2_with fail;refine cM (o5 s _ _ _ qR.out.at' k hk ⟨#[]⟩ 0) ?_;intro w7 lD;have qP:Hid (ed 0 s p1 A1 wr w7 (p1.nf.aY k)):=⟨_,_,vq.out.trans (qR.out.trans lD),(Gm wg.out.1 wg.out.2 HC.out.1 HC.out.2 HNG.out Bs.out).symm,aaO _⟩
             have l7:=lD.at'.lt;clear lD v2 x2 lp;go_wp2;go_roundw
             case rel=>obtain⟨p2,A2,h2⟩:=HN.out _ qP.out;exact⟨k+1,p2,A2,oM,gN,h2⟩
             case measure=>simp[intOf];omega
         ·have qP:Hid (ed 0 s p1 A1 wr wc (p1.nf.aY k)):=by
           refine⟨p1,A1,vq.out,?_,aaO _⟩;have h1:=OL.out;rw[Dg.out,abW,afY,aba] at h1;exact(Gn wg.out.1 wg.out.2 HC.out.1 ⟨by rw[lC.out];exact h1.2,h1.1⟩).symm
          have lc:=vq.out.at'.lt;go_wp2;go_roundw
          case rel=>obtain⟨p2,A2,h2⟩:=HN.out _ qP.out;exact⟨k+1,p2,A2,oM,gN,h2⟩
          case measure=>simp[intOf];omega
      ·as_aux_lemma =>
        have wg:=ae (And.intro gF ij);have c20:=hr.st.at'.cell 20 _ rfl;rw[ij] at c20;rw[gF] at k0;obtain⟨L,YK⟩:∃L,A1.lk k=L:=⟨_,rfl⟩
        have IB:(p1.ao k).left=L:=(mo.out.left gF).symm.trans YK;have h8:L.length<=8:=by rw[<-IB];exact hr.left.ao k
        have HI0:Hid (eF wr (A1.la k) L):=by have:=mo.out.ints;rw[YK] at this;exact this
        rw[YK] at k3;have Dj:=ae IB;obtain⟨la,Tq⟩:∃la,A1.la k=la:=⟨_,rfl⟩
        rw[Tq] at k3 HI0;obtain⟨rP,hlc⟩:∃rP,A1.lc k=rP:=⟨_,rfl⟩
        rw[hlc] at k3;have c2:=cf.out.at'.cell 2 _ rfl;have HH:=ae cf.out.at'.mem.hand;have wk:=ae cf.out.at';obtain⟨iI,hiI,de,cC,cF⟩:=eS TP;have EO:=ae (⟨hiI,de,cC,cF⟩:prog.info? 3=some iI/\_/\_/\_);clear hr gF YK IB k1 k2 ij hiI de cC cF Tq hlc;generalize wr=wo at *;go_wp2
        go_loopw[11,12] (fun v i wx=>∃j:Nat,j<=L.length/\i=i6 j/\wx.ownsRow wo.heap.size 3 1 v ((L.take j).filter (bY p1.hand)).length (((L.take j).filter (bY p1.hand)).map (.int .i64))/\bL wo wx) (fun _ i _=>L.length-(intOf i).toNat)
        case atStart=>exact⟨0,oM,rfl,abg _ _ _ _,aX _ _⟩
        case round =>
         obtain⟨j,hj,rfl,bu,jN⟩:=hrel;have HB:=ae jN;have HO:=ae bu;have hzr:=jN.size;have O0:=WY L (bY p1.hand) j;have Dt:=ai jN c2;have TV:=ai jN k3;have lr:ak<wr.heap.size:=aq TV;have lsr:=aq Dt;clear bu c2 k3
         by_cases au:j<L.length
         ·as_aux_lemma =>
          have gC:(j:Int)<(L.length:Int):=oM;have uQ:(0:Int)<=(j:Int):=oM
          rcases HI0.out.form with rfl|⟨bl,ol,rfl⟩
          ·exact absurd au (aa0 _)
          have e0:=(HI0.out.later jN).at au;obtain⟨bx,is,S8,Lc⟩:=Pm p1.hand A1.ha A1.hc L[j];have OB:=ae Lc;have Dg:=ae S8;have OC:=ae (HH.out.later jN);obtain⟨x,hx⟩:∃x,L[j]=x:=⟨_,rfl⟩
          rw[hx] at e0 OB Dg;have HX:=ae hx;clear hx Lc S8 jN;obtain⟨Yx,sC,sD,JS⟩:=bx;simp only at Dg;go_upto_region 28 with fail
          go_cut[13,14] (fun s13 s14 wx=>∃Qb,s13=.pointer (some ⟨Qb,0,none⟩)/\s14=.bool is/\wx.cell? ⟨Qb,2,none⟩=some (.bool sD)/\Qb<wx.heap.size/\bL wr wx)
          case first =>
           as_aux_lemma =>
            go_region_held3 (fun w'=>w'.cell? ⟨s,2,none⟩=some (.slice A1.ha p1.hand.length A1.hc)/\w'.cell? ⟨ak,3,none⟩=some (.slice (some ⟨bl,ol,none⟩) L.length rP)/\w'.cell? ⟨bl,ol+j,none⟩=some (i6 x)) (exact⟨ai (w:=wr) bQ Dt,ai (w:=wr) bQ TV,ai (w:=wr) bQ e0⟩) (first|(go_at_call 99;refine cM (OB.out _ (OC.out.later bQ)) ?_;intro w1 aw;have z1:wr.heap.size<=w1.heap.size:=(show bL wr w1 from bQ).size;(try(obtain⟨m0,m1,m2,m3,m4,m5,m6,m7⟩:w1.cell? ⟨wr.heap.size,0,none⟩=some (i6 0)/\w1.cell? ⟨wr.heap.size,1,none⟩=some (.string ⟨#[]⟩)/\w1.cell? ⟨wr.heap.size,2,none⟩=some (.bool false)/\w1.cell? ⟨wr.heap.size,3,none⟩=some (i6 0)/\w1.frozen? ⟨wr.heap.size,0,none⟩=false/\w1.frozen? ⟨wr.heap.size,1,none⟩=false/\w1.frozen? ⟨wr.heap.size,2,none⟩=false/\w1.frozen? ⟨wr.heap.size,3,none⟩=false;(focus((refine⟨(aw.cell (p:=⟨wr.heap.size,0,none⟩) ?_).trans ?_,(aw.cell (p:=⟨wr.heap.size,1,none⟩) ?_).trans ?_,(aw.cell (p:=⟨wr.heap.size,2,none⟩) ?_).trans ?_,(aw.cell (p:=⟨wr.heap.size,3,none⟩) ?_).trans ?_,(aw.frozen (p:=⟨wr.heap.size,0,none⟩) ?_).trans ?_,(aw.frozen (p:=⟨wr.heap.size,1,none⟩) ?_).trans ?_,(aw.frozen (p:=⟨wr.heap.size,2,none⟩) ?_).trans ?_,(aw.frozen (p:=⟨wr.heap.size,3,none⟩) ?_).trans ?_⟩);(all_goals simp);(all_goals omega)))))))
            all_goals
             go_wp2
             go_meet
             case rel=>first|exact⟨_,rfl,rfl,sM,sM,bQ⟩|exact⟨_,rfl,rfl,(cB (ir oM)).trans (aa2 _ _ _ ((cB (ir oM)).trans ((cB (ir oM)).trans m2))),by have:=aq m2;simpa using this,bQ⟩
          case rest =>
           obtain⟨Qb,rfl,rfl,cA,eh,fo⟩:=hcut;clear OB;generalize Ls:wc=wz at *;clear Ls;have HZ:=ae (af HB.out fo);have Yh:=ae (mI HO.out fo);have k3z:=ai fo TV;have e0z:=ai fo e0;have lz:=fo.size;clear Dt TV e0 fo HO HB OC
           cases is
           ·have HF:Hid (bY p1.hand x=false):=Dg.out.symm;go_wp2;go_roundw
            case rel=>exact⟨j+1,oM,gN,by rw[Pc au (by rw[HX.out];exact HF.out)];exact Yh.out,HZ.out⟩
            case measure=>simp[intOf];omega
           ·cases sD
            ·have HF:Hid (bY p1.hand x=false):=Dg.out.symm;go_wp2;go_roundw
             case rel=>exact⟨j+1,oM,gN,by rw[Pc au (by rw[HX.out];exact HF.out)];exact Yh.out,HZ.out⟩
             case measure=>simp[intOf];omega
            ·have HF:Hid (bY p1.hand x=true):=Dg.out.symm;go_wp2_with(at_builtin;refine aP rfl _ _ 122 rfl wo.heap.size 3 iI (i6 0) 1 8 underlying122 EO.out.1 EO.out.2.1 EO.out.2.2.1 EO.out.2.2.2 rfl dM _ _ _ rfl (mI Yh.out bQ) _ 1 1 [i6 x] rfl (XD sM) (by unfold maxLen;omega) oM (by have:=HZ.out.size;(try simp);omega) ?_;intro v3 w3 bw bo);have mz:=ae bw;have fi:Hid (bL wo w3):=adh (by repeat(first|with_reducible exact HZ.out|with_reducible exact aX _ _|with_reducible refine ah ?_ _|with_reducible refine aj ?_)) bo;clear bw bo Yh;go_wp2;go_roundw
             case rel=>exact⟨j+1,oM,gN,by rw[WZ au (by rw[HX.out];exact HF.out),HX.out];simpa using mz.out,fi.out⟩
             case measure=>simp[intOf];omega
         ·as_aux_lemma =>
          obtain rfl:j=L.length:=oM;rw[WX (aaO _)] at HO;obtain⟨Lf,YJ⟩:∃Lf,L.filter (bY p1.hand)=Lf:=⟨_,rfl⟩
          have hLf8:Lf.length<=8:=by rw[<-YJ];exact abb (acE _ _) h8
          rw[YJ] at HO;have Vz:=ae YJ;obtain⟨a',c',rfl,hIa,oK,kC⟩:=kP HO.out rfl;have wm:=ae (bH.cX wk.out jN);have HSL:=ae (wm.out.at'.gH hk Kd.out Lf a' c' hIa oK (XW wk.out hIa kC));have aeW:=(wm.out.at'.mem.asks k hk ak Kd.out).cells.2.2.2.2.1;clear HO hIa oK kC YJ jN hzr O0;go_upto_region 32 with fail;refine ei (fun wv=>bH s p1 A1 _ _ wo wv) (wm.out.trans HSL.out) ?_;intro wv pT;have zd:=ae pT;have lv:=pT.at'.lt;have v0:=pT.at'.cell 0 _ rfl;clear pT HSL wm Dt TV lr lsr aeW
          by_cases hz:Lf=[]
          ·subst hz;go_wp2_with fail;refine cM (QU _ _ _ wv zd.out.at'.mem.cE.dev) ?_;intro w5 Bc;have eO:=ae (zd.out.trans (zd.out.at'.GQ Bc));have l5:=eO.out.at'.lt;clear Bc v0 lv;go_wp2_with fail;refine cM (o5 s _ _ w5 eO.out.at' k hk ⟨#[]⟩ 0) ?_;intro w7 lD;have qP:Hid (ed 0 s p1 A1 wo w7 (p1.nf.aY k)):=⟨_,_,eO.out.trans lD,by
            rw[Hk wg.out.1 wg.out.2 Dj.out Vz.out];exact acT Sk.nf (MT { p1 with dev:=p1.dev.flush } k _ ⟨#[]⟩ 0),aaO _⟩
           have l7:=lD.at'.lt;clear lD;go_wp2;go_roundw
           case rel=>obtain⟨p2,A2,h2⟩:=HN.out _ qP.out;exact⟨k+1,p2,A2,oM,gN,h2⟩
           case measure=>simp[intOf];omega
          ·have cC:¬Lf.length=0:=fun e=>hz (aaZ e)
           have cF:((Lf.length:Int)==0)=false:=aaU.2 oM;have HNE:Hid (¬L.filter (bY p1.hand)=[]):=by show ¬_;rw[Vz.out];exact hz
           have qP:Hid (ed 0 s p1 A1 wo wv (p1.nf.aY k)):=⟨_,_,zd.out,by
            rw[Hm wg.out.1 wg.out.2 Dj.out HNE.out,Vz.out],aaO _⟩
           clear hz;generalize Lf.length=nf at *;go_wp2;go_roundw
           case rel=>obtain⟨p2,A2,h2⟩:=HN.out _ qP.out;exact⟨k+1,p2,A2,oM,gN,h2⟩
           case measure=>simp[intOf];omega
     ·have HE:=ae (N0 gF ij);have c20:=hr.st.at'.cell 20 _ rfl;rw[ij] at c20;have hkne:((p1.ao k).kind==1)=false:=aaU.2 oM;generalize (p1.ao k).kind=kd at *;clear hr gF ij;go_wp2_with fail;refine cM (o5 s p1 A1 _ cf.out.at' k hk ⟨#[]⟩ 9) ?_;intro w2 qC;have qP:Hid (ed 0 s p1 A1 wr w2 (p1.nf.aY k)):=⟨_,_,qC,HE.out.symm,aaO _⟩
      have pN:=qC.at'.lt;clear qC;go_wp2;go_roundw
      case rel=>obtain⟨p2,A2,h2⟩:=HN.out _ qP.out;exact⟨k+1,p2,A2,oM,gN,h2⟩
      case measure=>simp[intOf];omega
  ·obtain rfl:k=3:=oM;clear hr HI aL;go_wp2;go_end0;exact⟨rfl,p1,A1,HR.out.st,by rw[HR.out.nf,Vb];exact HQ.out,HR.out.bX⟩
section
variable{s:Nat}{p p':Sk}{A A':Rs}{w w1:World}
theorem G0(hs:bH s p A p' A' w w1)(r:Rq)(xa:Option Addr)(n xc:Nat)(er:Int):bH s p A p' A' w (yV (w1.alloc (.cells #[.bool false,i6 0,i6 0,.slice none 0 0,.slice none 0 0,i6 0,.slice none 0 0,i6 0] 151)) w1.heap.size (.bool r.wr) (i6 r.f) (i6 r.m) (.slice r.da r.data.length r.dc) (.slice r.ta r.tags.length r.tc) (i6 r.born) (.slice xa n xc) (i6 er))/\dI (yV (w1.alloc (.cells #[.bool false,i6 0,i6 0,.slice none 0 0,.slice none 0 0,i6 0,.slice none 0 0,i6 0] 151)) w1.heap.size (.bool r.wr) (i6 r.f) (i6 r.m) (.slice r.da r.data.length r.dc) (.slice r.ta r.tags.length r.tc) (i6 r.born) (.slice xa n xc) (i6 er)) w1.heap.size r xa n xc er:=by
 refine⟨hs.later ?_,gw (cw (eN w1 151)) (eN w1 151).2.2⟩;exact(aA w1 _).trans ((dS _ w1.heap.size _ _ _ _ _ _ _ _).below sM (fun k e=>by have e':k=w1.heap.size:=e;omega))
theorem bN.Gh(h:bN s p A w)(hI:bg p)(hT:p.tags<=4000000000000000000){k:Nat}{r:Rq}(hk:p.dev.busy[k]?=some r):CI A.bm A.m k r (r.tags.getD 0 0):=by
 have hm:r∈p.queue++p.dev.busy:=aa8 _ (acg hk);have g:=hI.bO r hm;refine⟨by rw[h.mem.busy];exact hk,rfl,?_,g.t1,fun q hq=>?_⟩
 ·have h1:0<r.tags.length:=g.t1;have h2:r.tags.getD 0 0∈r.tags:=by
   rw[abd,aaX h1,acO];exact aa5 h1
  have h3:=hI.pz r hm _ h2;unfold cH
  omega
 ·rw[h.mem.busy] at hq;have:=h.mem.eY q (aa8 _ hq);exact⟨fun he ad ha e=>this.1 he ad ha (il (ir (il (il e)))),fun he ad ha e=>this.2 he ad ha (il (ir (il (il e))))⟩
end
theorem UT(s:Nat)(p:Sk)(A:Rs)(w:World)(h:bN s p A w)(i:Int)(fl:Bool)(hi:i<0\/(p.dev.busy.length:Int)<=i) :
 Calls prog 56 #[.pointer (some ⟨s,0,none⟩),i6 i,.bool fl] w fun e w'=>e=.returned (i6 5)/\ed 1 s p A w w' p.nf:=by
 have c1:=h.cell 1 _ rfl;have hl:=h.lt;have aL:=ae h;have HI:Hid (i<0\/(A.m.busy.length:Int)<=i):=by show _\/_;rw[h.mem.busy];exact hi
 clear h hi;go_enter func56,ntmps56;go_wp2_with fail;refine cM (aav A.v A.b A.bm A.m A.ra A.n A.D i fl w aL.out.mem.cE HI.out) ?_;intro w1 aw;have cf:=ae (bH.cX aL.out aw);clear aw;go_wp2_with(refine cc rfl (.tmp 7) (.tmp 28) rfl w1.heap.size iD none 0 0 0 rfl rfl (cw (eN w1 151)) (fun wK=>bH s p A _ _ w wK/\dI wK w1.heap.size iD none 0 0 0) (G0 cf.out iD none 0 0 0) ?_;rintro wK ⟨lE,nX⟩;have lL:=ae lE;have qQ:=ae nX;obtain⟨⟨y0,y1,y2,y3,y4,y5,y6,y7⟩,-,yl⟩:=nX;have FW:=lE.at'.lt;clear lE cf);go_ret;exact⟨rfl,_,_,lL.out,rfl,oM⟩
theorem NT(s:Nat)(p:Sk)(A:Rs)(w:World)(h:bN s p A w)(hI:bg p)(hT:p.tags<=4000000000000000000)(hA:A.bX<=240000)(k:Nat)(r:Rq)(hk:p.dev.busy[k]?=some r)(hf:p.f (r.tags.getD 0 0)<2) :
 Calls prog 56 #[.pointer (some ⟨s,0,none⟩),i6 k,.bool true] w fun e w'=>e=.returned (i6 0)/\ed 1 s p A w w' ((p.bD k).again r).nf:=by
 have c1:=h.cell 1 _ rfl;have hl:=h.lt;have aL:=ae h;have HV:=ae (h.Gh hI hT hk);have HF:Hid (0<=p.f (r.tags.getD 0 0)/\p.f (r.tags.getD 0 0)<2):=⟨(hI.fr _).1,hf⟩
 have HN:Hid (A.n<=1000000000):=by have:=h.mem.nb;show _<=_;omega
 have HK:=ae hk;clear h hI hT hA hk hf;go_enter func56,ntmps56;go_wp2_with fail;refine(XI A.v A.b A.bm A.m A.ra A.n A.D k r _ _ w aL.out.mem.cE HV.out aL.out.mem.im (aL.out.mem.map _) HF.out HN.out).mono ?_;rintro e w1 ⟨a',rfl,hv⟩;have cf:=ae (bN.step (d':={ p.dev with busy:=p.dev.busy.eraseIdx k++[r] }) (f':=fun t=>if t=r.tags.getD 0 0 then p.f t+1 else p.f t) (p.ag+1) (A.bX+1) aL.out hv (aL.out.mem.tied.busy _ _) (by show A.m.busy.eraseIdx k++[r]=p.dev.busy.eraseIdx k++[r];rw[aL.out.mem.busy]) (by have:=aL.out.mem.nb;omega) (by have:=aL.out.mem.wb;show A.m.waits.length<=_;omega) (by
  have hm:=aL.out.mem.map.put aL.out.mem.im (r.tags.getD 0 0) (p.f (r.tags.getD 0 0)+1);intro t;have:=hm t;rw[this]
  by_cases e:t=r.tags.getD 0 0
  ·simp only[e,afj]
  ·simp only[e,afr]) hv.at'.map.isMap (fun q hq=>by
   have hm:q∈p.dev.busy:=by
    rcases abh.1 hq with h'|h'
    ·exact abo h'
    ·rw[abq.1 h'];exact acg HK.out
   exact aL.out.JX hv hm))
 clear hv;go_wp2_with(refine cc rfl (.tmp 7) (.tmp 28) rfl w1.heap.size iD none 0 0 0 rfl rfl (cw (eN w1 151)) (fun wK=>bH s p A _ _ w wK/\dI wK w1.heap.size iD none 0 0 0) (G0 cf.out iD none 0 0 0) ?_;rintro wK ⟨lE,nX⟩;have lL:=ae lE;have qQ:=ae nX;obtain⟨⟨y0,y1,y2,y3,y4,y5,y6,y7⟩,-,yl⟩:=nX;have FW:=lE.at'.lt;clear lE cf);go_ret;exact⟨rfl,_,_,lL.out,rfl,aaO _⟩
theorem FJ(D:DataW Unit)(h:IsMap D)(k:Lit)(d:DataW Unit):IsMap (D.put k d):=by
 obtain⟨l,rfl⟩:=h;exact⟨_,rfl⟩
theorem PV(m:Rd)(r:Rq)(g:bz r):(m.cr r).waits.length<=m.waits.length+4:=by
 have hw:∀n,(m.cL r n).waits.length=m.waits.length+n:=fun n=>by
  induction n with
  |zero=>rfl
  |succ n ih =>
   rw[Rd.fJ];show((m.cL r n).waits++[_]).length=_;rw[aaQ,abl,ih];omega
 have:=g.GJ;unfold Rd.cr
 split
 ·rw[hw];omega
 ·omega
theorem AZ{d:Dl}{m:Rd}(h:kN d m)(r:Rq):cW d r=rR m r:=by
 unfold cW rR
 split
 ·rfl
 ·unfold ke jJ;rw[h.now]
theorem Jo{D:DataW Unit}{f:Int->Int}(h:n7 D f)(hD:IsMap D)(t c:Int)(hD2:IsMap (D.put (.int .i64 t) (.lit (.int .i64 c)))):n7 ((D.put (.int .i64 t) (.lit (.int .i64 c))).put (.int .i64 t) (.lit (.int .i64 0))) (fun x=>if x=t then 0 else f x):=by
 have h2:=(h.put hD t c).put hD2 t 0;intro x;have:=h2 x;rw[this]
 by_cases e:x=t
 ·simp only[e,afj]
 ·simp only[e,afr]
section
variable{s:Nat}{p:Sk}{A:Rs}{w w1:World}{k:Nat}{r:Rq}{a':Ra}{n':Nat}{D':DataW Unit}
theorem bN.TZ(h:bN s p A w)(hs:gE A.v A.b A.bm A.m A.ra A.n A.D { A.m with busy:=A.m.busy.eraseIdx k } a' n' D' w w1)(hn:n'<=2*(A.bX+1))(hm:n7 D' (fun x=>if x=r.tags.getD 0 0 then 0 else p.f x)):bH s p A ((p.bD k).lost r) { A with m:={ A.m with busy:=A.m.busy.eraseIdx k },ra:=a',n:=n',D:=D',bX:=A.bX+1 } w w1 :=
 bN.step (d':={ p.dev with busy:=p.dev.busy.eraseIdx k }) (f':=fun x=>if x=r.tags.getD 0 0 then 0 else p.f x) p.ag (A.bX+1) h hs (h.mem.tied.busy _ _) (by show A.m.busy.eraseIdx k=p.dev.busy.eraseIdx k;rw[h.mem.busy]) hn (by have:=h.mem.wb;show A.m.waits.length<=_;omega) hm hs.at'.map.isMap (fun q hq=>h.JX hs (abo hq))
end
theorem Q8(s:Nat)(p:Sk)(A:Rs)(w:World)(h:bN s p A w)(hI:bg p)(hL:aQ p)(hT:p.tags<=3999999999999999990)(hU:p.az<=3999999999999999990)(hA:A.bX<=240000)(k:Nat)(r:Rq)(hk:p.dev.busy[k]?=some r)(hf:¬p.f (r.tags.getD 0 0)<2)(hw:r.wr=true)(q:Sk)(hq:({ (p.bD k).lost r with dead:=true }:Sk).nf.serve=q) :
 Calls prog 56 #[.pointer (some ⟨s,0,none⟩),i6 k,.bool true] w fun e w'=>e=.returned (i6 0)/\ed 1 s p A w w' q:=by
 have c1:=h.cell 1 _ rfl;have hl:=h.lt;have aL:=ae h;have HV:=ae (h.Gh hI oM hk);have HF:Hid (2<=p.f (r.tags.getD 0 0)/\p.f (r.tags.getD 0 0)<=2):=⟨oM,(hI.fr (r.tags.getD 0 0)).2⟩
 have HN:Hid (A.n<=1000000000):=by have:=h.mem.nb;show _<=_;omega
 have Dh:=ae ((hI.bD k).lost r true);have iC:Hid (aQ ({ (p.bD k).lost r with dead:=true }:Sk)):=hL;have HQ:=ae hq;have HB:=ae (And.intro hT hU);clear h hI hT hU hk hf hq hL hA;go_enter func56,ntmps56;go_wp2_with fail;refine(Pn A.v A.b A.bm A.m A.ra A.n A.D k r _ _ w aL.out.mem.cE HV.out aL.out.mem.im (aL.out.mem.map _) HF.out HN.out).mono ?_;rintro e w1 ⟨a',rfl,hv⟩;have cf:=ae (aL.out.TZ (r:=r) hv (by have:=aL.out.mem.nb;omega) (Jo aL.out.mem.map aL.out.mem.im _ _ (FJ _ aL.out.mem.im _ _)));have Yi:Hid (s<w1.heap.size):=cf.out.at'.lt;clear hv;go_upto_region 2 with(refine cc rfl (.tmp 7) (.tmp 28) rfl w1.heap.size r none 0 0 8 rfl rfl (cw (eN w1 151)) (fun wK=>bH s p A _ _ w wK/\dI wK w1.heap.size r none 0 0 8) (G0 cf.out r none 0 0 8) ?_;rintro wK ⟨lE,nX⟩;have lL:=ae lE;have qQ:=ae nX;obtain⟨⟨y0,y1,y2,y3,y4,y5,y6,y7⟩,-,yl⟩:=nX;have FW:=lE.at'.lt;clear lE cf)
 rw[hw] at y0;have z20:wK.cell? ⟨s,20,none⟩=some (.bool p.dead):=lL.out.at'.cell 20 _ rfl;have Js:=lL.out.at'.fz 20;have HSD:=ae (lL.out.trans (lL.out.at'.vY true));have Y2:(wK.setCell ⟨s,20,none⟩ (.bool true)).cell? ⟨w1.heap.size,0,none⟩=some (.bool true):=by
  have eI:=aL.out.lt;have:=(lL.out.at'.lt)
  rw[cB (ir (by have:=Yi.out;omega))];exact y0
 have HYD:=ae Y2;clear Y2;generalize p.dead=dd at *
 cases dd
 all_goals
  go_upto_region 6 with fail;refine ei (fun wy=>bH s p A ({ (p.bD k).lost r with dead:=true }:Sk) _ w wy/\wy.cell? ⟨w1.heap.size,0,none⟩=some (.bool true)) ⟨HSD.out,HYD.out⟩ ?_;rintro wy ⟨iU,y0y⟩;have Yq:=ae iU;have ly:=iU.at'.lt;have lw1:=aq y0y;clear iU HSD HYD lL qQ y0 y1 y2 y3 y4 y5 y6 y7 yl z20 Js FW;go_wp2
  go_loopw[10] (fun x wr=>x=i6 0/\wr=wy) (fun _ _=>0)
  case atStart=>exact⟨rfl,rfl⟩
  case round =>
   obtain⟨rfl,rfl⟩:=hrel;go_wp2_with fail;refine cM (ow s _ _ _ Yq.out.at' Dh.out iC.out HB.out.1 HB.out.2 q HQ.out) ?_;intro w4 hok;have HO:Hid (ed 1 s p A w w4 q):=ed.before Yq.out (aaO _) hok (aaO _);clear hok;go_wp2;go_ret;exact⟨rfl,HO.out⟩
theorem jA.kept{s:Nat}{p p':Sk}{A A':Rs}{w w':World}{g xn xc:Nat}{r:Rq}{xa:Option Addr}{er:Int}(h:jA w g r xa xn xc er)(hs:bH s p A p' A' w w')(hg:¬A.ay s g):jA w' g r xa xn xc er:=h.C5 hs.only hg
structure pj(s:Nat)(p:Sk)(A:Rs)(w:World)(g:Nat)(r:Rq)(xa:Option Addr)(xn xc:Nat)(er:Int)(q:Sk)(wr:World)(p':Sk)(A':Rs):Prop where
 st:bH s p A p' A' w wr
 nf:p'.nf=q
 bX:A'.bX<=A.bX+1
 box:jA wr g r xa xn xc er
 new:w.heap.size<=g
 off:¬A'.ay s g
section
variable{s:Nat}{p p' p2:Sk}{A A' A2:Rs}{w wr w2:World}{g:Nat}{r:Rq}{xa:Option Addr}{xn xc:Nat}{er:Int}{q q2:Sk}
theorem pj.step(h:pj s p A w g r xa xn xc er q wr p' A')(hs:bH s p' A' p2 A2 wr w2)(hn:p2.nf=q2)(hc:A2.bX<=A'.bX):pj s p A w g r xa xn xc er q2 w2 p2 A2 :=
 ⟨h.st.trans hs,hn,by have:=h.bX;omega,h.box.kept hs h.off,h.new,fun e=>(hs.ay g e).elim h.off (fun e'=>absurd (aq h.box.1) (by show ¬g<_;omega))⟩
theorem pj.later(h:pj s p A w g r xa xn xc er q wr p' A')(hb:bL wr w2):pj s p A w g r xa xn xc er q w2 p' A':=h.step (bH.cX h.st.at' hb) h.nf (aaO _)
end
theorem Q9(s:Nat)(p:Sk)(A:Rs)(w:World)(h:bN s p A w)(hI:bg p)(hL:aQ p)(hT:p.tags<=3999999999999999990)(hU:p.az<=3999999999999999990)(hA:A.bX<=240000)(k:Nat)(r:Rq)(hk:p.dev.busy[k]?=some r)(hf:¬p.f (r.tags.getD 0 0)<2)(hw:r.wr=false)(q:Sk)(hq:(((p.bD k).lost r).nf.cO (dO r.f r.m) bE 8).serve=q) :
 Calls prog 56 #[.pointer (some ⟨s,0,none⟩),i6 k,.bool true] w fun e w'=>e=.returned (i6 0)/\ed 1 s p A w w' q:=by
 have c1:=h.cell 1 _ rfl;have hl:=h.lt;have aL:=ae h;have HV:=ae (h.Gh hI oM hk);have HF:Hid (2<=p.f (r.tags.getD 0 0)/\p.f (r.tags.getD 0 0)<=2):=⟨oM,(hI.fr (r.tags.getD 0 0)).2⟩
 have HN:Hid (A.n<=1000000000):=by have:=h.mem.nb;show _<=_;omega
 have Dh:=ae ((hI.bD k).CY r);have iC:Hid (aQ ((p.bD k).lost r)):=hL;have HQ:=ae hq;have HB:=ae (And.intro hT hU);have HG:=ae (hI.bO r (aa8 _ (acg hk)));clear h hI hT hU hk hf hq hL hA;go_enter func56,ntmps56;go_wp2_with fail;refine(Pn A.v A.b A.bm A.m A.ra A.n A.D k r _ _ w aL.out.mem.cE HV.out aL.out.mem.im (aL.out.mem.map _) HF.out HN.out).mono ?_;rintro e w1 ⟨a',rfl,hv⟩;have cf:=ae (aL.out.TZ (r:=r) hv (by have:=aL.out.mem.nb;omega) (Jo aL.out.mem.map aL.out.mem.im _ _ (FJ _ aL.out.mem.im _ _)));clear hv;have Yi:Hid (w.heap.size<=w1.heap.size/\∀j,({ A with m:={ A.m with busy:=A.m.busy.eraseIdx k },ra:=a',n:=A.n+2,D:=(A.D.put (.int .i64 (r.tags.getD 0 0)) (.lit (.int .i64 (p.f (r.tags.getD 0 0)+1)))).put (.int .i64 (r.tags.getD 0 0)) (.lit (.int .i64 0)),bX:=A.bX+1 }:Rs).ay s j->j<w1.heap.size):=⟨cf.out.only.size,fun j hj=>cf.out.at'.bC j hj⟩
 go_upto_region 2 with(refine cc rfl (.tmp 7) (.tmp 28) rfl w1.heap.size r none 0 0 8 rfl rfl (cw (eN w1 151)) (fun wK=>bH s p A _ _ w wK/\dI wK w1.heap.size r none 0 0 8) (G0 cf.out r none 0 0 8) ?_;rintro wK ⟨lE,nX⟩;have lL:=ae lE;have qQ:=ae nX;obtain⟨⟨y0,y1,y2,y3,y4,y5,y6,y7⟩,-,yl⟩:=nX;have FW:=lE.at'.lt;clear lE cf)
 have EK:Hid (pj s p A w w1.heap.size r none 0 0 8 ((p.bD k).lost r).nf wK ((p.bD k).lost r) _):=⟨lL.out,rfl,aaO _,qQ.out.1,Yi.out.1,fun e=>by have:=Yi.out.2 _ e;omega⟩
 have Ow:Hid (∃A1,pj s p A w w1.heap.size r none 0 0 8 ((p.bD k).lost r).nf (wK.setCell ⟨s,20,none⟩ (.bool p.dead)) ((p.bD k).lost r) A1):=⟨_,EK.out.step (lL.out.at'.vY p.dead) rfl (aaO _)⟩
 have z20:wK.cell? ⟨s,20,none⟩=some (.bool p.dead):=lL.out.at'.cell 20 _ rfl;have Js:=lL.out.at'.fz 20;rw[hw] at y0;clear EK lL qQ aL HV HF HN;generalize w1.heap.size=g at *;generalize ij:p.dead=dd at *;have Oz:=ae ij;clear ij;have pt:=Dh.out.fV
 cases dd
 all_goals
  go_upto_region 6 with fail;refine ei (fun wy=>∃A1,pj s p A w g r none 0 0 8 ((p.bD k).lost r).nf wy ((p.bD k).lost r) A1) Ow.out ?_;rintro wy ⟨A1,iU⟩;have Yq:=ae iU;clear iU Ow y0 y1 y2 y3 y4 y5 y6 y7 yl z20 Js FW;go_wp2
  go_loopw[10] (fun x wr=>∃(j:Nat) (p2:Sk) (A2:Rs),j<=3/\x=i6 j/\pj s p A w g r none 0 0 8 (((p.bD k).lost r).nf.dF (dO r.f r.m) bE 8 j) wr p2 A2) (fun x _=>3-(intOf x).toNat)
  case atStart=>exact⟨0,_,A1,oM,rfl,Yq.out⟩
  case round =>
   obtain⟨j,p2,A2,hj,rfl,hr⟩:=hrel;have HR:=ae hr;obtain⟨b0,b1,b2,-⟩:=id hr.box;rw[hw] at b0;have lg:=aq b0;have l2:=hr.st.at'.lt
   by_cases YT:j<3
   ·as_aux_lemma =>
    have uQ:(0:Int)<=(j:Int):=oM;have hj3':(j:Int)<3:=oM;have fE:=(hr.st.at'.fE YT).1;unfold tU at fE;have HE:Hid (p2.nf.ov (dO r.f r.m) bE 8 j=if(p2.ao j).kind=1/\dO r.f r.m (p2.ao j).pl=true then p2.nf.answer j bE 8 else p2.nf):=ae rfl;have EU:Hid (((p.bD k).lost r).nf.dF (dO r.f r.m) bE 8 (j+1)=p2.nf.ov (dO r.f r.m) bE 8 j):=by show _=_;rw[Sk.dF,<-hr.nf]
    cases fC:A2.ka j with
    |none =>
     rw[fC] at fE;simp only[afV] at fE;have Di:=ae (hr.st.at'.mem.idle j YT fC);have ko:Hid (pj s p A w g r none 0 0 8 (((p.bD k).lost r).nf.dF (dO r.f r.m) bE 8 (j+1)) wr p2 A2):=⟨hr.st,by rw[EU.out,HE.out,aaP (fun e=>by rw[Di.out] at e;cases e.1)],hr.bX,hr.box,hr.new,hr.off⟩
     clear hr fC;go_wp2_with fail
     go_region
     all_goals
      go_wp2;go_roundw
      case rel=>exact⟨j+1,p2,A2,oM,gN,ko.out.later bQ⟩
      case measure=>simp[intOf];omega
    |some ak =>
     rw[fC] at fE;simp only[afl] at fE;have lo:=hr.st.at'.mem.asks j YT ak fC;obtain⟨k0,k1,-,-,-,LC⟩:=lo.cells;have fR:0<=(p2.ao j).kind/\(p2.ao j).kind<=3/\(¬(p2.ao j).kind=0->0<=(p2.ao j).pl/\(p2.ao j).pl<=31):=by
      have h1:=rE Dh.out.nf (dO r.f r.m) bE 8 j;rw[<-hr.nf] at h1;have h2:=h1.cD.ao j;exact⟨h2.kind.1,h2.kind.2,h2.pl⟩
     have IP:=lo.kind;obtain⟨kd,gF⟩:∃kd,(p2.ao j).kind=kd:=⟨_,rfl⟩
     obtain⟨pl,bV⟩:∃pl,(p2.ao j).pl=pl:=⟨_,rfl⟩
     rw[gF] at k0 fR IP;rw[bV] at k1 fR;rw[gF,bV] at HE;clear lo fC gF bV;obtain⟨wU,kJ,DG⟩:=fR
     by_cases h1:kd=1
     ·subst h1;have bV:=DG dM;clear wU kJ DG IP;have HHB:=ae (vV r.f r.m 4 pl HG.out.ok oM);obtain⟨bb,kI⟩:∃bb,gU r.f r.m pl=bb:=⟨_,rfl⟩
      have so:=ae kI;clear kI;go_upto_region 10 with fail
      go_cut[87] (fun sv wx=>sv=.bool bb/\bL wr wx)
      case first =>
       as_aux_lemma =>
       go_region_held3 (fun w'=>w'.cell? ⟨ak,0,none⟩=some (i6 1)/\w'.cell? ⟨ak,1,none⟩=some (i6 pl)/\w'.cell? ⟨g,1,none⟩=some (i6 r.f)/\w'.cell? ⟨g,2,none⟩=some (i6 r.m)) (exact⟨ai (w:=wr) bQ k0,ai (w:=wr) bQ k1,ai (w:=wr) bQ b1,ai (w:=wr) bQ b2⟩) (first|(go_at_call 105;refine cM (Mh r.f r.m 4 pl _ HG.out.ok bb so.out) ?_;intro w4 fk))
       all_goals
        go_wp2
        go_meet
        case rel=>exact⟨rfl,bQ⟩
      case rest =>
       obtain⟨rfl,qy⟩:=hcut;have HC:=ae (HR.out.later qy);have lc:=HC.out.st.at'.lt;have xK:Hid (dO r.f r.m pl=bb):=by show _=_;rw[HHB.out,so.out]
       clear hr qy b0 b1 b2 lg fE k0 k1 LC HHB so
       cases bb
       ·have ko:Hid (pj s p A w g r none 0 0 8 (((p.bD k).lost r).nf.dF (dO r.f r.m) bE 8 (j+1)) wc p2 A2):=⟨HC.out.st,by rw[EU.out,HE.out,aaP (fun e=>by rw[xK.out] at e;cases e.2)],HC.out.bX,HC.out.box,HC.out.new,HC.out.off⟩
        go_wp2;go_roundw
        case rel=>exact⟨j+1,p2,A2,oM,gN,ko.out⟩
        case measure=>simp[intOf];omega
       ·go_wp2_with fail;refine cM (o5 s p2 A2 _ HC.out.st.at' j YT ⟨#[]⟩ 8) ?_;intro w7 lD;have ko:Hid (pj s p A w g r none 0 0 8 (((p.bD k).lost r).nf.dF (dO r.f r.m) bE 8 (j+1)) w7 (p2.answer j ⟨#[]⟩ 8) { A2 with ka:=gP A2.ka j none }):=HC.out.step lD (by rw[EU.out,HE.out,aaV (by first|exact⟨rfl,xK.out⟩|exact⟨trivial,xK.out⟩)];rfl) (aaO _);clear lD;go_wp2;go_roundw
        case rel=>exact⟨j+1,_,_,oM,gN,ko.out⟩
        case measure=>simp[intOf];omega
     ·have ko:Hid (pj s p A w g r none 0 0 8 (((p.bD k).lost r).nf.dF (dO r.f r.m) bE 8 (j+1)) wr p2 A2):=⟨hr.st,by rw[EU.out,HE.out,aaP (fun e=>h1 e.1)],hr.bX,hr.box,hr.new,hr.off⟩
      have h4:kd=2\/kd=3:=oM;clear hr h1 wU kJ DG IP
      rcases h4 with rfl|rfl
      ·go_wp2_with fail
       go_region
       all_goals
        go_wp2;go_roundw
        case rel=>exact⟨j+1,p2,A2,oM,gN,ko.out.later bQ⟩
        case measure=>simp[intOf];omega
      ·go_wp2_with fail
       go_region
       all_goals
        go_wp2;go_roundw
        case rel=>exact⟨j+1,p2,A2,oM,gN,ko.out.later bQ⟩
        case measure=>simp[intOf];omega
   ·as_aux_lemma =>
    obtain rfl:j=3:=oM;have qX:=hr.nf;rw[AL ((p.bD k).lost r).nf pt] at qX;have ES:=ae qX;have mX:Hid (bg p2):=by
     have:=Dh.out.nf.cO (dO r.f r.m) bE 8;rw[<-qX] at this;exact this.cD
    have eU:Hid (aQ p2):=by
     have:=iC.out.nf.cO (dO r.f r.m) bE 8;rw[<-qX] at this;exact this.cD
    have bT:Hid (p2.tags<=3999999999999999990/\p2.az<=3999999999999999990):=by
     have e1:p2.nf.tags=p.tags:=by rw[qX];rfl
     have e2:p2.nf.az=p.az:=by rw[qX];rfl
     exact⟨e1▸HB.out.1,e2▸HB.out.2⟩
    have mh:Hid (p2.nf.serve=q):=by
     show p2.nf.serve=q;rw[qX];exact HQ.out
    clear hr qX;go_wp2_with fail;refine cM (ow s p2 A2 _ HR.out.st.at' mX.out eU.out bT.out.1 bT.out.2 q mh.out) ?_;intro w4 hok;have HO:Hid (ed 1 s p A w w4 q):=ed.before HR.out.st HR.out.bX hok (aaO _);clear hok b0 b1 b2;go_wp2;go_ret;exact⟨rfl,HO.out⟩
theorem Dx(l:List Bf)(at':Int)(data:ByteArray):(fO l at' data).length=l.length:=by simp[fO]
structure sw(s:Nat)(p:Sk)(A:Rs)(w:World)(g:Nat)(r:Rq)(xa:Option Addr)(xn xc:Nat)(er:Int)(q:Sk)(wr:World)(p':Sk)(A':Rs):Prop where
 st:bH s p A p' A' w wr
 nf:p'.nf=q
 bX:A'.bX<=A.bX
 box:jA wr g r xa xn xc er
 new:w.heap.size<=g
 off:¬A'.ay s g
section
variable{s:Nat}{p p' p2:Sk}{A A' A2:Rs}{w wr w2:World}{g:Nat}{r:Rq}{xa:Option Addr}{xn xc:Nat}{er:Int}{q q2:Sk}
theorem sw.step(h:sw s p A w g r xa xn xc er q wr p' A')(hs:bH s p' A' p2 A2 wr w2)(hn:p2.nf=q2)(hc:A2.bX<=A'.bX):sw s p A w g r xa xn xc er q2 w2 p2 A2 :=
 ⟨h.st.trans hs,hn,by have:=h.bX;omega,h.box.kept hs h.off,h.new,fun e=>(hs.ay g e).elim h.off (fun e'=>absurd (aq h.box.1) (by show ¬g<_;omega))⟩
theorem sw.later(h:sw s p A w g r xa xn xc er q wr p' A')(hb:bL wr w2):sw s p A w g r xa xn xc er q w2 p' A':=h.step (bH.cX h.st.at' hb) h.nf (aaO _)
end
section
variable{s:Nat}{p:Sk}{A:Rs}{w w1:World}{k:Nat}{r:Rq}{m':Rd}{a':Ra}{n' c':Nat}{D':DataW Unit}
theorem Mg(hs:gE A.v A.b A.bm A.m A.ra A.n A.D m' a' n' D' w w1):∀j,({ A with m:=m',ra:=a',n:=n',D:=D',bX:=c' }:Rs).ay s j->A.ay s j\/w.heap.size<=j:=by
 rintro j (e|e|e)
 ·exact il (il e)
 ·exact(hs.ay j e).imp (fun e=>ir (il e)) id
 ·exact il (ir (ir e))
theorem bN.Vp(h:bN s p A w)(gr:bz r)(hs:gE A.v A.b A.bm A.m A.ra A.n A.D (({ A.m with busy:=A.m.busy.eraseIdx k }:Rd).cr r) a' n' D' w w1)(hn:n'<=2*(A.bX+1))(hm:n7 D' (fun x=>if x=r.tags.getD 0 0 then 0 else p.f x)):bH s p A ((p.bD k).cr r) { A with m:=(({ A.m with busy:=A.m.busy.eraseIdx k }:Rd).cr r),ra:=a',n:=n',D:=D',bX:=A.bX+1 } w w1 :=
 bN.step (d':=(({ p.dev with busy:=p.dev.busy.eraseIdx k }:Dl).cr r)) (f':=fun x=>if x=r.tags.getD 0 0 then 0 else p.f x) p.ag (A.bX+1) h hs ((h.mem.tied.busy _ _).cr r) (by rw[Rd.Ip,Dl.mR];show A.m.busy.eraseIdx k=p.dev.busy.eraseIdx k;rw[h.mem.busy]) hn (by
  have:=h.mem.wb;have h2:=PV ({ A.m with busy:=A.m.busy.eraseIdx k }:Rd) r gr;have h3:({ A.m with busy:=A.m.busy.eraseIdx k }:Rd).waits.length=A.m.waits.length:=rfl
  omega) hm hs.at'.map.isMap (fun q hq=>by
   rw[Dl.mR] at hq;exact h.JX hs (abo hq))
end
theorem US(s:Nat)(p:Sk)(A:Rs)(w:World)(h:bN s p A w)(hI:bg p)(hL:aQ p)(hS:dE p.dev)(hT:p.tags<=3999999999999999980)(hU:p.az<=3999999999999999980)(hA:A.bX<=240000)(k:Nat)(r:Rq)(hk:p.dev.busy[k]?=some r)(hw:r.wr=true)(q:Sk)(hq:(((p.bD k).cr r).nf.oB r (cW p.dev r)).serve=q) :
 Calls prog 56 #[.pointer (some ⟨s,0,none⟩),i6 k,.bool false] w fun e w'=>e=.returned (i6 0)/\ed 1 s p A w w' q:=by
 have c1:=h.cell 1 _ rfl;have hl:=h.lt;have aL:=ae h;have mq:r∈p.dev.busy:=acg hk;have HG:=ae (hI.bO r (aa8 _ mq));have HV:=ae (h.Gh hI oM hk);have pD:=ae ((hI.bD k).cr r);have Bq:Hid (aQ ((p.bD k).cr r)):=hL;have HQ:=ae hq;have HB:=ae (And.intro hT hU);have qR:=ae (jb hS r);have iJ:=ae (h.KC mq);have fD:=ae (h.mem.eY r (aa8 _ mq));have HN:Hid (A.n<=1000000000):=(by have:=h.mem.nb;show _<=_;omega);have RT:Hid (A.m.waits.length<=1000000):=(by have:=h.mem.wb;show _<=_;omega)
 clear h hI hT hU hk hq mq hS hL hA;go_enter func56,ntmps56;go_wp2_with fail;refine(Zh A.v A.b A.bm A.m A.ra A.n A.D k r _ w aL.out.mem.cE HV.out HG.out RT.out HN.out).mono ?_;rintro e w1 ⟨a',xa,xc,xs,rfl,kc,yn,kD,hv⟩;have zg:Hid (xs=cW p.dev r):=(kc.out.trans (AZ aL.out.mem.tied r).symm);have AW:=ae yn;have nQ:=ae kD;have uE:=ae (Mg (s:=s) (c':=A.bX+1) hv);have xN:Hid (r.At w1):=iJ.out.frame ⟨fun he ad ha e=>fD.out.1 he ad ha (il (ir (il e))),fun he ad ha e=>fD.out.2 he ad ha (il (ir (il e)))⟩ hv.only;have cf:=ae (aL.out.Vp HG.out hv (by have:=aL.out.mem.nb;omega) (aL.out.mem.map.put aL.out.mem.im (r.tags.getD 0 0) 0));have RI:Hid (∀j,({ A with m:=(({ A.m with busy:=A.m.busy.eraseIdx k }:Rd).cr r),ra:=a',n:=A.n+1,D:=A.D.put (.int .i64 (r.tags.getD 0 0)) (.lit (.int .i64 0)),bX:=A.bX+1 }:Rs).ay s j->j<w1.heap.size):=fun j hj=>cf.out.at'.bC j hj
 have Dn:Hid (r.dB (({ A with m:=(({ A.m with busy:=A.m.busy.eraseIdx k }:Rd).cr r),ra:=a',n:=A.n+1,D:=A.D.put (.int .i64 (r.tags.getD 0 0)) (.lit (.int .i64 0)),bX:=A.bX+1 }:Rs).ay s)):=Rq.dB.step iJ.out (fD.out.mono (fun j e=>il e)) uE.out;clear kc yn kD hv;generalize lF:xs.length=xm at *;clear lF;obtain⟨A1,KV⟩:∃A1:Rs,A1={ A with m:=(({ A.m with busy:=A.m.busy.eraseIdx k }:Rd).cr r),ra:=a',n:=A.n+1,D:=A.D.put (.int .i64 (r.tags.getD 0 0)) (.lit (.int .i64 0)),bX:=A.bX+1 }:=⟨_,rfl⟩
 have Ow:Hid (A1.bX<=A.bX+1):=by show A1.bX<=_;rw[KV];exact aaO _
 rw[<-KV] at cf RI Dn;clear KV uE aL HV iJ fD HN RT;have RW:=ae (bH.cX cf.out.at' (aX _ _));go_upto_region 2 with(refine cc rfl (.tmp 7) (.tmp 28) rfl w1.heap.size r xa xm xc 0 rfl rfl (cw (eN w1 151)) (fun wK=>bH s _ A1 _ A1 w1 wK/\dI wK w1.heap.size r xa xm xc 0) (G0 RW.out r xa xm xc 0) ?_;rintro wK ⟨lE,nX⟩;have lL:=ae lE;have qQ:=ae nX;obtain⟨⟨y0,y1,y2,y3,y4,y5,y6,y7⟩,-,yl⟩:=nX;have FW:=lE.at'.lt;clear lE RW)
 have EK:Hid (sw s ((p.bD k).cr r) A1 w1 w1.heap.size r xa xm xc 0 ((p.bD k).cr r).nf wK ((p.bD k).cr r) A1):=⟨lL.out,rfl,aaO _,qQ.out.1,aaO _,fun e=>by have:=RI.out _ e;omega⟩
 clear lL qQ;obtain⟨M,hM⟩:∃M:Nat,r.m=M:=⟨r.m.toNat,by have:=HG.out.uG;omega⟩
 have HM:=ae hM;rw[hM] at y2;have fk:=HG.out.uG;rw[hM] at fk;have kL:Hid (r.data.length=M):=by have:=HG.out.xE hw;show _=_;omega
 rw[hw] at y0;generalize w1.heap.size=g at *;go_upto_region 15 with fail
 go_loopw[12] (fun x wr=>∃(j:Nat) (p2:Sk) (A2:Rs),j<=M/\x=i6 j/\sw s ((p.bD k).cr r) A1 w1 g r xa xm xc 0 (((p.bD k).cr r).nf.cT r (cW p.dev r) j) wr p2 A2) (fun x _=>M-(intOf x).toNat)
 case atStart=>exact⟨0,_,A1,oM,rfl,EK.out⟩
 case round =>
  clear y0 y1 y2 y3 y4 y5 y6 y7 yl FW;obtain⟨j,p2,A2,hj,rfl,hr⟩:=hrel;have HR:=ae hr;obtain⟨b0,b1,b2,b3,-⟩:=id hr.box;rw[hw] at b0;rw[hM] at b2;have lg:=aq b0;have l2:=hr.st.at'.lt
  by_cases au:j<M
  ·as_aux_lemma =>
   have gC:(j:Int)<(M:Int):=oM;have uQ:(0:Int)<=(j:Int):=oM;have sW:IntKind.i64.wrap (r.f+(j:Int))=r.f+(j:Int):=by rw[abr];omega
   have cZ:=gV xN.out.data hr.st.only Dn.out.1;have r9:j<r.data.length:=by rw[kL.out];exact au
   have acD:(j:Int)<(r.data.length:Int):=oM;obtain⟨db,nS,DH⟩:∃b o,r.da=some ⟨b,o,none⟩:=by
    rcases cZ.form with e|h'
    ·rw[e] at r9;exact absurd r9 (aa0 _)
    ·exact h'
   rw[DH] at cZ b3;have e0:=cZ.at r9;have mX:Hid (bg p2):=by
    have h1:=pD.out.nf.cT r HG.out (cW p.dev r) qR.out j (by have:=HM.out;omega);rw[<-hr.nf] at h1;exact h1.cD
   have EV:Hid (((p.bD k).cr r).nf.cT r (cW p.dev r) (j+1)=({ p2 with hand:=fO p2.hand (r.f+j) r.data[j] }:Sk).nf):=by
    show _=_;rw[iZ,<-hr.nf];unfold Sk.en;rw[aaV hw,abd,aaX r9,acO]
    rfl
   obtain⟨dt,r7⟩:∃dt,r.data[j]=dt:=⟨_,rfl⟩
   rw[r7] at e0 EV;clear cZ r7 DH;have c2:=hr.st.at'.cell 2 _ rfl;have tR:=ae hr.st.at';have H8:=ae mX.out.hand.len;clear hr;go_upto_region 19 with fail;have HS:Hid ((fun wx:World=>wx.cell? ⟨s,2,none⟩=some (.slice A2.ha p2.hand.length A2.hc)/\wx.cell? ⟨g,3,none⟩=some (.slice (some ⟨db,nS,none⟩) r.data.length r.dc)/\wx.cell? ⟨db,nS+j,none⟩=some (.string dt)/\s<wx.heap.size) wr.drew):=⟨c2,b3,e0,l2⟩
   have eg:∀args w,Sem.run prog (callFunc 107 args) w=.ok (.enter 107 args) w:=by intro args w;go_simp
   refine eL (S:=fun wx:World=>wx.cell? ⟨s,2,none⟩=some (.slice A2.ha p2.hand.length A2.hc)/\wx.cell? ⟨g,3,none⟩=some (.slice (some ⟨db,nS,none⟩) r.data.length r.dc)/\wx.cell? ⟨db,nS+j,none⟩=some (.string dt)/\s<wx.heap.size) (d:=15) kR ?_;refine tK 0 rfl HS.out ?_;(try simp only[Act.put,dP]);refine tK 1 rfl HS.out ?_;(try simp only[Act.put,dP]);refine tK 2 rfl HS.out ?_;(try simp only[Act.put,dP]);refine tK 3 rfl HS.out ?_;(try simp only[Act.put,dP]);refine tK 4 rfl HS.out ?_;(try simp only[Act.put,dP]);refine tK 5 rfl HS.out ?_;(try simp only[Act.put,dP]);refine tK 6 rfl HS.out ?_;(try simp only[Act.put,dP]);refine tK 7 rfl HS.out ?_;(try simp only[Act.put,dP]);refine tK 8 rfl HS.out ?_;(try simp only[Act.put,dP]);refine tK 9 rfl HS.out ?_;(try simp only[Act.put,dP]);refine tK 10 rfl HS.out ?_;(try simp only[Act.put,dP]);refine tK 11 rfl HS.out ?_;(try simp only[Act.put,dP]);refine bn (i:=12) rfl kR ?_;intro K hK;refine yY rfl 107 114 115 121 91 3 9 rfl eg (.slice A2.ha p2.hand.length A2.hc) (i6 (r.f+(j:Int))) (.string dt) rfl rfl rfl (fun v w'=>∃a' c',v=.slice a' p2.hand.length c'/\bA w' a' (fO p2.hand (r.f+(j:Int)) dt)/\n8 wr.heap.size a' c' p2.hand.length/\bL wr w') ((aao p2.hand A2.ha A2.hc (r.f+(j:Int)) dt wr.drew (tR.out.mem.hand.later (aX _ _).drew) tR.out.mem.cU (by have:=H8.out;omega)).mono (fun e w' ⟨a',c',he,h1,h2,h3⟩=>⟨_,he,a',c',rfl,h1,h3,(aX _ _).drew.trans h2⟩)) ?_;rintro v w5 ⟨a2,wL,rfl,u1,⟨u4,u2,u3⟩,u5⟩;have eO:=ae (bH.cX tR.out u5);have abj:=ae (eO.out.at'.fT (fO p2.hand (r.f+(j:Int)) dt) a2 wL u1 (by rw[Dx];exact u2) u4 (fun _ q' cI e=>by have:=u3 q' cI;have:=tR.out.ky _ e;omega));have v2:=eO.out.at'.cell 2 _ rfl;have x2:=eO.out.at'.fz 2;have l5:=eO.out.at'.lt;have Yp:Hid ((fun wx:World=>wx.cell? ⟨s,2,none⟩=some (.slice A2.ha p2.hand.length A2.hc)/\wx.cell? ⟨g,3,none⟩=some (.slice (some ⟨db,nS,none⟩) r.data.length r.dc)/\wx.cell? ⟨db,nS+j,none⟩=some (.string dt)/\s<wx.heap.size) w5):=⟨v2,ai u5 b3,ai u5 e0,l5⟩
   refine hK _ _ (fun _=>Yp.out) ?_
   (try simp only[Act.put,dP])
   clear hK u1 u2 u3 u4;refine bn (i:=13) rfl kR ?_;intro K hK;go_simp;refine hK _ _ (fun _=>Yp.out) ?_
   (try simp only[Act.put,dP])
   clear hK;refine bn (i:=14) rfl kR ?_;intro K hK;go_simp;refine hK _ _ (fun _=>Yp.out) ?_
   (try simp only[Act.put,dP])
   clear hK;refine bn (i:=15) rfl kR ?_;intro K hK;go_simp;refine hK _ _ (fun h=>absurd rfl h) ?_
   (try simp only[Act.put,dP])
   clear hK;refine fw kR ?_ _;have ko:Hid (sw s ((p.bD k).cr r) A1 w1 g r xa xm xc 0 (((p.bD k).cr r).nf.cT r (cW p.dev r) (j+1)) (w5.setCell ⟨s,2,none⟩ (.slice a2 p2.hand.length wL)) { p2 with hand:=fO p2.hand (r.f+(j:Int)) dt } { A2 with ha:=a2,hc:=wL }):=by
    have hx:=abj.out;rw[Dx] at hx;exact HR.out.step (eO.out.trans hx) EV.out.symm (aaO _)
   clear u5 Yp HS abj eO v2 x2 b0 b1 b2 b3 e0 c2 tR;go_wp2;go_roundw
   case rel=>exact⟨j+1,_,_,oM,gN,ko.out⟩
   case measure=>simp[intOf];omega
  ·as_aux_lemma =>
   obtain rfl:j=M:=oM;have qX:=hr.nf;have sK:=oZ ((p.bD k).cr r).nf r (cW p.dev r) j;have Lh:j=r.m.toNat:=by have:=HM.out;omega
   have mX:Hid (bg p2):=by
    have h1:=pD.out.nf.cT r HG.out (cW p.dev r) qR.out j oM;rw[<-qX] at h1;exact h1.cD
   have eU:Hid (aQ p2):=by
    have h1:=Bq.out.nf.cT r (cW p.dev r) j;rw[<-qX] at h1;exact h1.cD
   have bT:Hid (p2.tags<=3999999999999999990/\p2.az<=3999999999999999990):=by
    rw[<-qX] at sK;have e1:p2.tags<=p.tags+j:=sK.tags;have e2:p2.az<=p.az+j:=sK.az;have:=HB.out;exact⟨oM,oM⟩
   have mh:Hid (p2.nf.serve=q):=by
    show p2.nf.serve=q;rw[qX,Lh];exact HQ.out
   clear hr qX sK Lh;go_wp2_with fail;refine cM (ow s p2 A2 _ HR.out.st.at' mX.out eU.out bT.out.1 bT.out.2 q mh.out) ?_;intro w4 hok;have HO:Hid (ed 1 s p A w w4 q):=ed.before (c':=0) cf.out Ow.out (ed.before (c:=0) HR.out.st HR.out.bX hok (aaO _)) (aaO _);clear hok b0 b1 b2 b3;go_wp2;go_ret;exact⟨rfl,HO.out⟩
end Go.Proofs.YtlhgjplipgandaaGreatDoor
