/- Joined texts: RStk6. -/
import Derived.Test.YtlhgjplipgandaaGreatB29
set_option maxRecDepth 100000
set_option maxHeartbeats 8000000
set_option linter.unusedSimpArgs false
namespace Go.Proofs.YtlhgjplipgandaaGreat
open Go.RowKit Go.BigFrame Go.Maps
attribute [local go_sem] ze.cell ze.frozen
def srv(q:Sk):Nat→Sk
 |0=>q
 |k+1=>(srv q k).serve1 k
theorem zpE(q:Sk):srv q 3=q.serve:=rfl
structure SrvR(s:Nat)(p:Sk)(A:Rs)(w:World)(k:Nat)(wr:World)(p':Sk)(A':Rs):Prop where
 st:zE s p A p' A' w wr
 cnt:A'.cnt≤A.cnt
 nf:p'.nf=srv p.nf k
 inv:Inv p'
 tags:p'.tags≤p.tags+k
 uses:p'.uses≤p.uses+k
 left:zp p'
section
variable{s:Nat}{p p':Sk}{A A':Rs}{w wr w2:World}{k:Nat}
theorem SrvR.next(h:SrvR s p A w k wr p' A')(ho:KOk 0 s p' A' wr w2 (p'.nf.serve1 k)):∃p2 A2,SrvR s p A w (k+1) w2 p2 A2:=by
 obtain⟨p2,A2,hs,hn,hc⟩:=ho;have hm:=zc7 p'.nf k;have hi:=h.inv.nf.serve1 k;have hl2:zp p2:=by
  have:=h.left.nf.serve1 k;rw[←hn] at this;exact this.of_nf
 have e:p'.nf.serve1 k=srv p.nf (k+1):=by rw[h.nf];rfl
 rw[←hn] at hm hi;refine⟨p2,A2,h.st.trans hs,by have:=h.cnt;omega,by rw[hn,e],hi.of_nf,?_,?_,hl2⟩
 ·have h1:p2.nf.tags≤p'.nf.tags+1:=hm.tags;have h2:=h.tags;have h3:p2.tags≤p'.tags+1:=h1
  omega
 ·have h1:p2.nf.uses≤p'.nf.uses+1:=hm.uses;have h2:=h.uses;have h3:p2.uses≤p'.uses+1:=h1
  omega
theorem zma(h:(p.client k).kind=0):p.nf.serve1 k=p.nf:=by
 have e:(p.nf.client k).kind=0:=h;unfold Sk.serve1;rw[e]
 simp
theorem zlU(h:(p.client k).kind=1):p.nf.serve1 k=p.nf.serveRead k:=by
 have e:(p.nf.client k).kind=1:=h;unfold Sk.serve1;rw[if_pos e]
theorem zkG(h:(p.client k).kind=2):p.nf.serve1 k=p.nf.serveWrite k:=by
 have e:(p.nf.client k).kind=2:=h;unfold Sk.serve1;rw[if_neg (by rw[e];decide),if_pos e]
theorem zlX(h:(p.client k).kind=3):p.nf.serve1 k=p.nf.serveSync k:=by
 have e:(p.nf.client k).kind=3:=h;unfold Sk.serve1;rw[if_neg (by rw[e];decide),if_neg (by rw[e];decide),if_pos e]
theorem zmb(h:(p.client k).kind=2∨(p.client k).kind=3)(hd:p.dead=true):p.nf.serve1 k=p.nf.answer k ByteArray.empty 9:=by
 have e:p.nf.dead=true:=hd
 rcases h with h|h
 ·rw[zkG h];unfold Sk.serveWrite;rw[if_pos e]
 ·rw[zlX h];unfold Sk.serveSync;rw[if_pos e]
end
theorem zey(L:List Rq):(zW (zav L)).toArray.size=32:=by
 show(zW (zav L)).length=32;rw[zW,List.length_map,zeT]
theorem zhL(w:World):(w.alloc (.cells (zW (List.replicate 32 false)).toArray 104)).heap[w.heap.size]?=some (.cells (zW (List.replicate 32 false)).toArray 104 (0,0)):=heap_alloc_new w _
theorem zib(w:World):(w.alloc (.cells (zW (List.replicate 32 false)).toArray 104)).there w.heap.size 0 32:=fun j hj=>by
 refine⟨?_,zac (zhL w) _⟩;rw[zy (zhL w),List.getElem?_eq_getElem (by rw[zW,List.length_map,List.length_replicate];omega)]
 rfl
theorem zgU(w3:World)(L:List Rq):((w3.alloc (.cells (zW (List.replicate 32 false)).toArray 104)).setCells w3.heap.size 0 (zW (zav L))).heap[w3.heap.size]?=some (.cells (zW (zav L)).toArray 104 (0,0))∧Below w3.heap.size w3 ((w3.alloc (.cells (zW (List.replicate 32 false)).toArray 104)).setCells w3.heap.size 0 (zW (zav L))):=by
 have e:(zW (List.replicate 32 false)).length=32:=by rw[zW,List.length_map,List.length_replicate]
 have e2:(zW (zav L)).length=32:=by rw[zW,List.length_map,zeT]
 refine⟨?_,?_⟩
 ·have h1:=zcC w3.heap.size 104 (zW (zav L)) 0 _ _ (zhL w3) (by rw[e,e2];omega);have h2:splice (zW (List.replicate 32 false)) 0 (zW (zav L))=zW (zav L):=by
   unfold splice;rw[List.take_zero,List.nil_append,e2,List.drop_eq_nil_of_le (by omega),List.append_nil]
  rw[h2] at h1;exact h1
 ·exact(zdc (F:=fun j=>w3.heap.size≤j) w3.heap.size (Or.inl (Nat.le_refl _)) _ _ _ (zo.of_below (zn w3 _))).below (Nat.le_refl _) (fun i e=>e)
theorem zq1(w3:World)(L:List Rq)(P:Nat)(hP:P<32):((w3.alloc (.cells (zW (List.replicate 32 false)).toArray 104)).setCells w3.heap.size 0 (zW (zav L))).cell? ⟨w3.heap.size,P,none⟩=some (.bool (L.any fun r=>zam r.f r.m (P:Int))) :=
 (zy (zgU w3 L).1 P).trans (by simpa using zlH L P hP)
theorem zng(l:List Bf)(a:Option Addr)(c:Nat)(n:Int):∃(bx:Bf) (is:Bool),(is&&bx.dirty)=zQ l n∧∀W,zB W a l→Calls Tryz.prog 53 #[.slice a l.length c,.int .i64 n] W fun e w'=>e=.returned (.tuple #[bx.val,.bool is])∧Below W.heap.size W w':=by
 rcases zaV l n with⟨hg,hix⟩|⟨j,hj,hg,hix,_⟩
 ·exact⟨⟨0,⟨#[]⟩,false,0⟩,false,by unfold zQ;rw[hg];rfl,fun W hl=>zeC l a c n W hl hix⟩
 ·exact⟨l[j],true,by unfold zQ;rw[hg,Bool.true_and],fun W hl=>zeI l a c n W hl j hj hix⟩
theorem zoG:(Tryz.prog.info? 3).map (fun i=>(i.zero,i.size,i.bytes))=some (some (.int .i64 0),1,8):=by kernel_rfl
section
variable{s:Nat}{p:Sk}{A:Rs}{w w':World}{m':Rd}{ra':Ra}{n' c':Nat}{D':DataW Unit}
theorem zsj(hs:zaY A.v A.b A.bm A.m A.ra A.n A.D m' ra' n' D' w w'):∀k,({ A with m:=m',ra:=ra',n:=n',D:=D',cnt:=c' }:Rs).off s k→A.off s k∨w.heap.size≤k:=by
 rintro k ((e|e|e)|e)
 ·exact Or.inl (Or.inl (Or.inl e))
 ·exact(hs.foot k e).imp (fun e=>Or.inl (Or.inr (Or.inl e))) id
 ·exact Or.inl (Or.inl (Or.inr (Or.inr e)))
 ·exact Or.inl (Or.inr e)
theorem zH.busyAt(h:zH s p A w){r:Rq}(hr:r∈p.dev.busy):r.At w:=h.mem.drv.dev.lrow.2.1 r (by rw[h.mem.busy];exact hr)
theorem zH.roffs(h:zH s p A w)(hs:zaY A.v A.b A.bm A.m A.ra A.n A.D m' ra' n' D' w w'){r:Rq}(hr:r∈p.dev.busy):r.Off (({ A with m:=m',ra:=ra',n:=n',D:=D',cnt:=c' }:Rs).off s) :=
 Rq.Off.step (h.busyAt hr) (h.mem.roff r (List.mem_append_right _ hr)) (zsj hs)
theorem zH.flushed(h:zH s p A w)(hs:zat A.b A.m A.ra A.m.flush ra' w w'):zE s p A { p with dev:=p.dev.flush } { A with m:=A.m.flush,ra:=ra' } w w' :=
 zH.step (f':=p.f) p.ag A.cnt h (h.mem.drv.step hs) h.mem.tied.flush h.mem.busy h.mem.nb (Nat.zero_le _) h.mem.map h.mem.im (fun _ hr=>h.roffs (h.mem.drv.step hs) hr)
end
theorem zmE(p:Sk)(k:Nat)(x:Cl)(d:ByteArray)(e:Int):({ p with cl:=p.cl.set k x }:Sk).answer k d e=p.answer k d e:=by
 unfold Sk.answer;simp only[List.set_set]
theorem zq2{s:Nat}{p:Sk}{A:Rs}{w wx:World}(h:zH s p A w){a':Option Addr}{L:List Int}(hI:zay wx a' L)(hn:∀b o,a'=some ⟨b,o,none⟩→w.heap.size≤b):L ≠ []→∀q,a'=some q→¬A.off s q.block:=fun hne q hq=>by
 rcases hI.form with e|⟨b',o',e⟩
 ·exact absurd e hne
 ·rw[e] at hq;simp only[Option.some.injEq] at hq;subst hq;have:=hn b' o' e;exact fun hoff=>by have:=h.offLt _ hoff;simp only at this;omega
theorem zE.box{s:Nat}{p p':Sk}{A A':Rs}{w wz w':World}{g j:Nat}{v:Value}(hs:zE s p A p' A' wz w')(h0:zH s p A w)(hg:w.heap.size≤g)(hc:wz.cell? ⟨g,j,none⟩=some v):w'.cell? ⟨g,j,none⟩=some v :=
 (hs.only.cell (p:=⟨g,j,none⟩) (zg hc) (fun e=>by have:=h0.footLt _ e;simp only at this;omega)).trans hc
theorem zcu(s:Nat)(p:Sk)(A:Rs)(w:World)(h:zH s p A w)(hI:Inv p)(hL:zp p)(hT:p.tags≤3999999999999999990)(hU:p.uses≤3999999999999999990)(q:Sk)(hq:p.nf.serve=q):Calls Tryz.prog 45 #[.pointer (some ⟨s,0,none⟩)] w fun e w'=>e=.returned (.tuple #[])∧KOk 0 s p A w w' q:=by
 have HST:=za h;have HI:=za hI;have HQ:=za hq;have HLF:=za hL;have hl:=h.lt;clear h hI hq hL;go_enter Tryz.func45,Tryz.ntmps45;go_wp2
 go_loopw[2] (fun i wr=>∃(k:Nat) (p':Sk) (A':Rs),k≤3∧i=.int .i64 k∧SrvR s p A w k wr p' A') (fun i _=>3-(intOf i).toNat)
 case atStart=>exact⟨0,p,A,by omega,rfl,zE.same' HST.out (Below.refl _ _),Nat.le_refl _,rfl,HI.out,by omega,by omega,HLF.out⟩
 case round =>
  obtain⟨k,p1,A1,hk3,rfl,hr⟩:=hrel;have HR:=za hr;have hls:=hr.st.at'.lt
  by_cases hk:k<3
  ·have hk0:(0:Int)≤(k:Int):=by omega
   have hk3':(k:Int)<3:=by omega
   have HN:=za (fun W (ho:KOk 0 s p1 A1 wr W (p1.nf.serve1 k))=>hr.next ho);have c11:=(hr.st.at'.c11 hk).1;unfold zdv at c11
   cases hka:A1.ka k with
   |none =>
    rw[hka] at c11;simp only[Option.map_none] at c11;have HKO:Hid (KOk 0 s p1 A1 wr wr (p1.nf.serve1 k)):=⟨p1,A1,zE.same' hr.st.at' (Below.refl _ _),(zma (hr.st.at'.mem.idle k hk hka)).symm,Nat.le_refl _⟩
    clear hr hka HI HST;go_wp2;go_roundw
    case rel=>obtain⟨p2,A2,h2⟩:=HN.out _ HKO.out;exact⟨k+1,p2,A2,by omega,by go_num,h2⟩
    case measure=>simp[intOf];omega
   |some ak =>
    rw[hka] at c11;simp only[Option.map_some] at c11;have hask:=hr.st.at'.mem.asks k hk ak hka;have HASK:=za hask;have HKA:=za hka;have HCL:=za (hr.inv.client k);obtain⟨k0,k1,k2,k3,k3f,klt⟩:=hask.cells;have hkd:(p1.client k).kind=1∨(p1.client k).kind=2∨(p1.client k).kind=3:=by
     have:=hask.kind;have:=(hr.inv.client k).kind
     omega
    have HI1:=za hr.inv;have HS1:=za hr.st;clear hask hka
    rcases hkd with hkd|hkd
    ·have HE:=za (zlU hkd);have HPL:=za (HCL.out.pl (by rw[hkd];decide));rw[hkd] at k0;obtain⟨pl,hpl⟩:∃pl,(p1.client k).pl=pl:=⟨_,rfl⟩
     rw[hpl] at k1 HPL;have HC:=za hpl;have c2:=HS1.out.at'.cell 2 _ rfl;have HH:=za HS1.out.at'.mem.hand;have HCLL:=za HI1.out.cl3;have hU1:p1.uses≤4000000000000000000:=by have:=hr.uses;omega
     have hwr:IntKind.i64.wrap (p1.uses+1)=p1.uses+1:=by have:=HI1.out.us;rw[IntKind.wrap_i64];omega
     have HT1:Hid (p1.tags≤4000000000000000000):=by have:=hr.tags;show _≤_;omega
     have H8:=za HI1.out.hand.len;clear hr hkd hpl k2 k3 k3f;have HST1:=za HS1.out.at'
     rcases zaV p1.hand pl with⟨hg,hix⟩|⟨j,hj,hg,hix,hjp⟩
     ·as_aux_lemma =>
       obtain⟨P,hP⟩:∃P:Nat,pl=P:=⟨pl.toNat,by have:=HPL.out;omega⟩
       subst hP;have hP32:P<32:=by have:=HPL.out;omega
       have HIX:=za hix;have HEQ:Hid (p1.nf.serve1 k=if p1.held P=true then p1.nf else(p1.nf.askQ P false []).2):=by
        show _=_;rw[HE.out];show(match zaH p1.hand (p1.client k).pl with|some b=>_|none=>_)=_;rw[HC.out,hg];show(if p1.nf.held (p1.client k).pl=true then p1.nf else(p1.nf.askQ (p1.client k).pl false []).2)=_;rw[HC.out,zdP]
       clear hg hix HE;go_upto_region 6 with fail
       go_region_held3 (fun w'=>w'.cell? ⟨s,2,none⟩=some (.slice A1.ha p1.hand.length A1.hc)∧w'.cell? ⟨ak,1,none⟩=some (.int .i64 P)) (exact⟨cellB_later' (w:=wr) (by(with_reducible repeat first|exact Below.refl _ _|refine zc ?_ _|refine zd ?_|refine bset' ?_ (by omega) _|refine zb ?_ (by assumption))) c2,cellB_later' (w:=wr) (by(with_reducible repeat first|exact Below.refl _ _|refine zc ?_ _|refine zd ?_|refine bset' ?_ (by omega) _|refine zb ?_ (by assumption))) k1⟩) (first|(go_at_call 53;refine(zeC p1.hand A1.ha A1.hc P _ (HH.out.later (by(with_reducible repeat first|exact Below.refl _ _|refine zc ?_ _|refine zd ?_|refine bset' ?_ (by omega) _|refine zb ?_ (by assumption)))) HIX.out).mono ?_;rintro e w1 ⟨rfl,hb1⟩;have z1:wr.heap.size≤w1.heap.size:=(show Below wr.heap.size wr w1 by(with_reducible repeat first|exact Below.refl _ _|refine zc ?_ _|refine zd ?_|refine bset' ?_ (by omega) _|refine zb ?_ (by assumption))).size;(try(obtain⟨m0,m1,m2,m3,m4,m5,m6,m7⟩:w1.cell? ⟨wr.heap.size,0,none⟩=some (.int .i64 0)∧w1.cell? ⟨wr.heap.size,1,none⟩=some (.string ⟨#[]⟩)∧w1.cell? ⟨wr.heap.size,2,none⟩=some (.bool false)∧w1.cell? ⟨wr.heap.size,3,none⟩=some (.int .i64 0)∧w1.frozen? ⟨wr.heap.size,0,none⟩=false∧w1.frozen? ⟨wr.heap.size,1,none⟩=false∧w1.frozen? ⟨wr.heap.size,2,none⟩=false∧w1.frozen? ⟨wr.heap.size,3,none⟩=false;(focus((refine⟨(hb1.cell (p:=⟨wr.heap.size,0,none⟩) ?_).trans ?_,(hb1.cell (p:=⟨wr.heap.size,1,none⟩) ?_).trans ?_,(hb1.cell (p:=⟨wr.heap.size,2,none⟩) ?_).trans ?_,(hb1.cell (p:=⟨wr.heap.size,3,none⟩) ?_).trans ?_,(hb1.frozen (p:=⟨wr.heap.size,0,none⟩) ?_).trans ?_,(hb1.frozen (p:=⟨wr.heap.size,1,none⟩) ?_).trans ?_,(hb1.frozen (p:=⟨wr.heap.size,2,none⟩) ?_).trans ?_,(hb1.frozen (p:=⟨wr.heap.size,3,none⟩) ?_).trans ?_⟩);(all_goals simp);(all_goals omega)))))))
       all_goals
        refine zbG (fun wz=>Below wr.heap.size wr wz) (by(with_reducible repeat first|exact Below.refl _ _|refine zc ?_ _|refine zd ?_|refine bset' ?_ (by omega) _|refine zb ?_ (by assumption))) ?_;intro wz hbz;have HSz:=za (zE.same' HST1.out hbz);clear hb1 z1 c2 k1 c11 k0 klt;go_wp2_with fail;refine(zdt s p1 A1 _ HSz.out.at' HI1.out).mono ?_;rintro e w3 ⟨rfl,hb3⟩;go_upto_region 8 with(refine wpList_store_mid rfl 104 (.tmp 6) (.tmp 45) rfl w3.heap.size 0 (zW (zav (p1.queue++p1.dev.busy))).toArray rfl rfl (by rw[zey];exact zib w3) (by rw[zey];exact zfD) (all_oneCell_toArray (zgJ _)) ?_;simp only)
        refine zai (fun wy=>Below wr.heap.size wr wy∧wy.cell? ⟨w3.heap.size,P,none⟩=some (.bool (p1.held P))) ⟨zb (zb hbz hb3) (zgU w3 _).2,zq1 w3 (p1.queue++p1.dev.busy) P hP32⟩ ?_;rintro wy ⟨hby,hhc⟩;have HSy0:=za (zE.same' HST1.out hby);have k1y:=(HSy0.out.at'.mem.asks k hk ak HKA.out).cells.2.1;rw[HC.out] at k1y;have ly:=HSy0.out.at'.lt;have lw3:=zg hhc;have hP0:(0:Int)≤(P:Int):=by omega
        have hP1:(P:Int)<32:=by omega
        clear hb3 hbz hby HSz
        cases hh:p1.held P
        ·rw[hh] at hhc;have HF:=za hh;clear hh;go_wp2_with fail;refine(zh5 s p1 A1 _ HSy0.out.at' HI1.out HT1.out P HPL.out false [] (by simp) none 0 (Or.inl rfl) (fun _=>rfl) (fun hne=>absurd rfl hne) (fun tb=>zfa (zdE HI1.out P HPL.out false [] (Or.inr ⟨rfl,rfl⟩)) none 0 tb) _ _ rfl).mono ?_;rintro e w7 ⟨rfl,hko⟩;have HKO:Hid (KOk 0 s p1 A1 wr w7 (p1.nf.serve1 k)):=KOk.before HSy0.out (Nat.le_refl _) (by rw[HEQ.out,HF.out];exact hko) (Nat.le_refl _);clear hko;go_wp2;go_roundw
         case rel=>obtain⟨p2,A2,h2⟩:=HN.out _ HKO.out;exact⟨k+1,p2,A2,by omega,by go_num,h2⟩
         case measure=>simp[intOf];omega
        ·rw[hh] at hhc;have HF:=za hh;clear hh;have HKO:Hid (KOk 0 s p1 A1 wr wy (p1.nf.serve1 k)):=⟨p1,A1,HSy0.out,by rw[HEQ.out,HF.out];rfl,Nat.le_refl _⟩
         go_wp2;go_roundw
         case rel=>obtain⟨p2,A2,h2⟩:=HN.out _ HKO.out;exact⟨k+1,p2,A2,by omega,by go_num,h2⟩
         case measure=>simp[intOf];omega
     ·as_aux_lemma =>
       obtain⟨b,hbk⟩:∃b,b=p1.hand[j]:=⟨_,rfl⟩
       have HBK:Hid (b=p1.hand[j]):=hbk;have HIX:=za hix;have HEQ:Hid (p1.nf.serve1 k=({ p1.nf with uses:=p1.uses+1,hand:=useL p1.hand pl (p1.uses+1) }:Sk).answer k b.data 0):=by
        show _=_;rw[HE.out,hbk];show(match zaH p1.hand (p1.client k).pl with|some b=>_|none=>_)=_;rw[HC.out,hg];show({ p1.nf with uses:=p1.nf.uses+1,hand:=useL p1.nf.hand (p1.client k).pl (p1.nf.uses+1) }:Sk).answer k _ 0=_;rw[HC.out]
        rfl
       clear hbk hg hix hjp HE;obtain⟨bpl,bdata,bdirty,bused⟩:=b;go_upto_region 6 with fail
       go_region_held3 (fun w'=>w'.cell? ⟨s,2,none⟩=some (.slice A1.ha p1.hand.length A1.hc)∧w'.cell? ⟨ak,1,none⟩=some (.int .i64 pl)) (exact⟨cellB_later' (w:=wr) (by(with_reducible repeat first|exact Below.refl _ _|refine zc ?_ _|refine zd ?_|refine bset' ?_ (by omega) _|refine zb ?_ (by assumption))) c2,cellB_later' (w:=wr) (by(with_reducible repeat first|exact Below.refl _ _|refine zc ?_ _|refine zd ?_|refine bset' ?_ (by omega) _|refine zb ?_ (by assumption))) k1⟩) (first|(go_at_call 53;refine(zeI p1.hand A1.ha A1.hc pl _ (HH.out.later (by(with_reducible repeat first|exact Below.refl _ _|refine zc ?_ _|refine zd ?_|refine bset' ?_ (by omega) _|refine zb ?_ (by assumption)))) j hj HIX.out).mono ?_;rw[←HBK.out];rintro e w1 ⟨rfl,hb1⟩;have z1:wr.heap.size≤w1.heap.size:=(show Below wr.heap.size wr w1 by(with_reducible repeat first|exact Below.refl _ _|refine zc ?_ _|refine zd ?_|refine bset' ?_ (by omega) _|refine zb ?_ (by assumption))).size;(try(obtain⟨m0,m1,m2,m3,m4,m5,m6,m7⟩:w1.cell? ⟨wr.heap.size,0,none⟩=some (.int .i64 0)∧w1.cell? ⟨wr.heap.size,1,none⟩=some (.string ⟨#[]⟩)∧w1.cell? ⟨wr.heap.size,2,none⟩=some (.bool false)∧w1.cell? ⟨wr.heap.size,3,none⟩=some (.int .i64 0)∧w1.frozen? ⟨wr.heap.size,0,none⟩=false∧w1.frozen? ⟨wr.heap.size,1,none⟩=false∧w1.frozen? ⟨wr.heap.size,2,none⟩=false∧w1.frozen? ⟨wr.heap.size,3,none⟩=false;(focus((refine⟨(hb1.cell (p:=⟨wr.heap.size,0,none⟩) ?_).trans ?_,(hb1.cell (p:=⟨wr.heap.size,1,none⟩) ?_).trans ?_,(hb1.cell (p:=⟨wr.heap.size,2,none⟩) ?_).trans ?_,(hb1.cell (p:=⟨wr.heap.size,3,none⟩) ?_).trans ?_,(hb1.frozen (p:=⟨wr.heap.size,0,none⟩) ?_).trans ?_,(hb1.frozen (p:=⟨wr.heap.size,1,none⟩) ?_).trans ?_,(hb1.frozen (p:=⟨wr.heap.size,2,none⟩) ?_).trans ?_,(hb1.frozen (p:=⟨wr.heap.size,3,none⟩) ?_).trans ?_⟩);(all_goals simp);(all_goals omega)))))))
       refine zbG (fun wz=>Below wr.heap.size wr wz∧wz.cell? ⟨w1.heap.size,1,none⟩=some (.string bdata)∧wr.heap.size≤w1.heap.size) ⟨by(with_reducible repeat first|exact Below.refl _ _|refine zc ?_ _|refine zd ?_|refine bset' ?_ (by omega) _|refine zb ?_ (by assumption)),by simp,z1⟩ ?_
       rotate_left
       refine zbG (fun wz=>Below wr.heap.size wr wz∧wz.cell? ⟨wr.heap.size,1,none⟩=some (.string bdata)∧wr.heap.size≤wr.heap.size) ⟨by(with_reducible repeat first|exact Below.refl _ _|refine zc ?_ _|refine zd ?_|refine bset' ?_ (by omega) _|refine zb ?_ (by assumption)),(zV (Or.inr (by omega))).trans ((zV (Or.inr (by omega))).trans (World.cell?_setCell_same _ _ _ ((zV (Or.inr (by omega))).trans m1))),Nat.le_refl _⟩ ?_
       all_goals
        rintro wz ⟨hbz,hbx,hge⟩;have HBX:=za hbx;have HGE:=za hge;have HSz:=za (zE.same' HST1.out hbz);clear hb1 z1 hbx hge c2 k1 c11 k0 klt;go_wp2_with fail;refine(zdt s p1 A1 _ HSz.out.at' HI1.out).mono ?_;rintro e w3 ⟨rfl,hb3⟩;go_upto_region 8 with(refine wpList_store_mid rfl 104 (.tmp 6) (.tmp 45) rfl w3.heap.size 0 (zW (zav (p1.queue++p1.dev.busy))).toArray rfl rfl (by rw[zey];exact zib w3) (by rw[zey];exact zfD) (all_oneCell_toArray (zgJ _)) ?_;simp only)
        refine zai (fun wy=>Below wr.heap.size wr wy∧wy.cell? ⟨_,1,none⟩=some (.string bdata)) ⟨zb (zb hbz hb3) (zgU w3 _).2,cellB_later' (zgU w3 _).2 (cellB_later' hb3 HBX.out)⟩ ?_;rintro wy ⟨hby,hbx⟩;have HBXy:=za hbx;have HSy0:=za (zE.same' HST1.out hby);have c9:=HSy0.out.at'.cell 9 _ rfl;have f9:=HSy0.out.at'.fz 9;have ly:=HSy0.out.at'.lt;clear hb3 hbz hbx hby HBX HSz;go_upto_region 10 with fail;refine zai (fun wv=>zE s p1 A1 { p1 with uses:=p1.uses+1 } A1 wy wv) (HSy0.out.at'.setUses (p1.uses+1)) ?_;intro wv hsy;have HSy:=za hsy;have hak:=(hsy.at'.mem.asks k hk ak HKA.out).cells.2.1;rw[show({ p1 with uses:=p1.uses+1 }:Sk).client k=p1.client k from rfl,HC.out] at hak;have HS:Hid ((fun wx:World=>wx.cell? ⟨s,2,none⟩=some (.slice A1.ha p1.hand.length A1.hc)∧wx.cell? ⟨ak,1,none⟩=some (.int .i64 pl)∧wx.cell? ⟨s,9,none⟩=some (.int .i64 (p1.uses+1))∧s<wx.heap.size) wv.drew):=⟨hsy.at'.cell 2 _ rfl,hak,hsy.at'.cell 9 _ rfl,hsy.at'.lt⟩
        have eg:∀args w,Sem.run Tryz.prog (callFunc 76 args) w=.ok (.enter 76 args) w:=by intro args w;go_simp
        clear hsy c9 f9 ly hak;refine zaJ (S:=fun wx:World=>wx.cell? ⟨s,2,none⟩=some (.slice A1.ha p1.hand.length A1.hc)∧wx.cell? ⟨ak,1,none⟩=some (.int .i64 pl)∧wx.cell? ⟨s,9,none⟩=some (.int .i64 (p1.uses+1))∧s<wx.heap.size) (d:=16) (by kernel_rfl) ?_;refine tk 0 ?_ rfl (Or.inl ⟨by rfl,?_⟩) HS.out ?_;rotate_left;(focus(intro w0 hSw;obtain⟨s0,s1,s2,s3⟩:=hSw;go_simp;(try with_reducible rfl)));(try simp only[Act.put,dP])
        refine tk 1 ?_ rfl (Or.inl ⟨by rfl,?_⟩) HS.out ?_;rotate_left;(focus(intro w0 hSw;obtain⟨s0,s1,s2,s3⟩:=hSw;go_simp;(try with_reducible rfl)));(try simp only[Act.put,dP])
        refine tk 2 ?_ rfl (Or.inl ⟨by rfl,?_⟩) HS.out ?_;rotate_left;(focus(intro w0 hSw;obtain⟨s0,s1,s2,s3⟩:=hSw;go_simp;(try with_reducible rfl)));(try simp only[Act.put,dP])
        refine tk 3 ?_ rfl (Or.inl ⟨by rfl,?_⟩) HS.out ?_;rotate_left;(focus(intro w0 hSw;obtain⟨s0,s1,s2,s3⟩:=hSw;go_simp;(try with_reducible rfl)));(try simp only[Act.put,dP])
        refine tk 4 ?_ rfl (Or.inl ⟨by rfl,?_⟩) HS.out ?_;rotate_left;(focus(intro w0 hSw;obtain⟨s0,s1,s2,s3⟩:=hSw;go_simp;(try with_reducible rfl)));(try simp only[Act.put,dP])
        refine tk 5 ?_ rfl (Or.inl ⟨by rfl,?_⟩) HS.out ?_;rotate_left;(focus(intro w0 hSw;obtain⟨s0,s1,s2,s3⟩:=hSw;go_simp;(try with_reducible rfl)));(try simp only[Act.put,dP])
        refine tk 6 ?_ rfl (Or.inl ⟨by rfl,?_⟩) HS.out ?_;rotate_left;(focus(intro w0 hSw;obtain⟨s0,s1,s2,s3⟩:=hSw;go_simp;(try with_reducible rfl)));(try simp only[Act.put,dP])
        refine tk 7 ?_ rfl (Or.inl ⟨by rfl,?_⟩) HS.out ?_;rotate_left;(focus(intro w0 hSw;obtain⟨s0,s1,s2,s3⟩:=hSw;go_simp;(try with_reducible rfl)));(try simp only[Act.put,dP])
        refine tk 8 ?_ rfl (Or.inl ⟨by rfl,?_⟩) HS.out ?_;rotate_left;(focus(intro w0 hSw;obtain⟨s0,s1,s2,s3⟩:=hSw;go_simp;(try with_reducible rfl)));(try simp only[Act.put,dP])
        refine tk 9 ?_ rfl (Or.inl ⟨by rfl,?_⟩) HS.out ?_;rotate_left;(focus(intro w0 hSw;obtain⟨s0,s1,s2,s3⟩:=hSw;go_simp;(try with_reducible rfl)));(try simp only[Act.put,dP])
        refine tk 10 ?_ rfl (Or.inl ⟨by rfl,?_⟩) HS.out ?_;rotate_left;(focus(intro w0 hSw;obtain⟨s0,s1,s2,s3⟩:=hSw;go_simp;(try with_reducible rfl)));(try simp only[Act.put,dP])
        refine tk 11 ?_ rfl (Or.inl ⟨by rfl,?_⟩) HS.out ?_;rotate_left;(focus(intro w0 hSw;obtain⟨s0,s1,s2,s3⟩:=hSw;go_simp;(try with_reducible rfl)));(try simp only[Act.put,dP])
        refine tk 12 ?_ rfl (Or.inl ⟨by rfl,?_⟩) HS.out ?_;rotate_left;(focus(intro w0 hSw;obtain⟨s0,s1,s2,s3⟩:=hSw;go_simp;(try with_reducible rfl)));(try simp only[Act.put,dP])
        refine zw (i:=13) rfl (by kernel_rfl) ?_;intro K hK;refine zfj rfl 76 58 62 66 56 3 3 rfl eg (.slice A1.ha p1.hand.length A1.hc) (.int .i64 pl) (.int .i64 (p1.uses+1)) rfl rfl rfl (fun r w'=>∃a' c',r=.slice a' p1.hand.length c'∧zB w' a' (useL p1.hand pl (p1.uses+1))∧zct wv.heap.size a' c' p1.hand.length∧Below wv.heap.size wv w') ((ruseN p1.hand A1.ha A1.hc pl (p1.uses+1) wv.drew (HSy.out.at'.mem.hand.later (Below.refl _ _).drew) HSy.out.at'.mem.hnil (by have:=H8.out;omega)).mono (fun e w' ⟨a',c',he,h1,h2,h3⟩=>⟨_,he,a',c',rfl,h1,h3,(Below.refl _ _).drew.trans h2⟩)) ?_;rintro r w5 ⟨a',c',rfl,u1,⟨u4,u2,u3⟩,u5⟩;have HS5:=za (HSy.out.later u5);have HSH:=za (HS5.out.trans (HS5.out.at'.setHand (useL p1.hand pl (p1.uses+1)) a' c' u1 (by rw[zfb];exact u2) u4 (fun _ q' hq' e=>by have:=u3 q' hq';have:=HSy.out.at'.offLt _ e;omega)));have v2:=HS5.out.at'.cell 2 _ rfl;have x2:=HS5.out.at'.fz 2;have l5:=HS5.out.at'.lt;have hak5:=(HS5.out.at'.mem.asks k hk ak HKA.out).cells.2.1;rw[show({ p1 with uses:=p1.uses+1 }:Sk).client k=p1.client k from rfl,HC.out] at hak5;have HS':Hid ((fun wx:World=>wx.cell? ⟨s,2,none⟩=some (.slice A1.ha p1.hand.length A1.hc)∧wx.cell? ⟨ak,1,none⟩=some (.int .i64 pl)∧wx.cell? ⟨s,9,none⟩=some (.int .i64 (p1.uses+1))∧s<wx.heap.size) w5):=⟨v2,hak5,HS5.out.at'.cell 9 _ rfl,l5⟩
        refine hK _ _ (fun _=>HS'.out) ?_
        (try simp only[Act.put,dP])
        clear hK u1 u2 u3 u4 u5 hak5;refine zw (i:=14) rfl (by kernel_rfl) ?_;intro K hK;go_simp;refine hK _ _ (fun _=>HS'.out) ?_
        (try simp only[Act.put,dP])
        clear hK;refine zw (i:=15) rfl (by kernel_rfl) ?_;intro K hK;go_simp;refine hK _ _ (fun _=>HS'.out) ?_
        (try simp only[Act.put,dP])
        clear hK;refine zw (i:=16) rfl (by kernel_rfl) ?_;intro K hK;go_simp;refine hK _ _ (fun h=>absurd rfl h) ?_
        (try simp only[Act.put,dP])
        clear hK;refine zaO (by kernel_rfl) ?_ _;refine zbG (fun wx=>zE s p1 A1 { p1 with uses:=p1.uses+1,hand:=useL p1.hand pl (p1.uses+1) } { A1 with ha:=a',hc:=c' } wy wx) (by have:=HSH.out;rw[zfb] at this;exact this) ?_;intro w6 hs6;have HS6:=za hs6;have hbx6:=hs6.box HST1.out HGE.out HBXy.out;have l6:=zg hbx6;clear hs6 v2 x2 l5;go_wp2_with fail;refine(zcE s _ _ w6 HS6.out.at' k hk bdata 0).mono ?_;rintro e w7 ⟨rfl,hs7⟩;have HKO:Hid (KOk 0 s p1 A1 wr w7 (p1.nf.serve1 k)):=⟨_,_,HSy0.out.trans (HS6.out.trans hs7),by rw[HEQ.out];rfl,Nat.le_refl _⟩
        have l7:=hs7.at'.lt;clear hs7 hbx6 l6;go_wp2;go_roundw
        case rel=>obtain⟨p2,A2,h2⟩:=HN.out _ HKO.out;exact⟨k+1,p2,A2,by omega,by go_num,h2⟩
        case measure=>simp[intOf];omega
    ·cases hdd:p1.dead
     ·rcases hkd with hkd|hkd
      ·have hPL:=HCL.out.pl (by rw[hkd];decide);obtain⟨pl,hpl⟩:∃pl,(p1.client k).pl=pl:=⟨_,rfl⟩
       obtain⟨dt,hdt⟩:∃dt,(p1.client k).data=dt:=⟨_,rfl⟩
       have HKD:=za (And.intro hkd hdd);have c20:=hr.st.at'.cell 20 _ rfl;rw[hdd] at c20;have c2:=HS1.out.at'.cell 2 _ rfl;rw[hkd] at k0;rw[hpl] at k1 hPL;rw[hdt] at k2;have HC:=za (And.intro hpl hdt);have HPL:=za hPL;have HH:=za HS1.out.at'.mem.hand;have hU1:p1.uses≤4000000000000000000:=by have:=hr.uses;omega
       have hwr:IntKind.i64.wrap (p1.uses+1)=p1.uses+1:=by have:=HI1.out.us;rw[IntKind.wrap_i64];omega
       have HIU:Hid (Inv { p1 with uses:=p1.uses+1 }):=HI1.out.setHand p1.hand (p1.uses+1) HI1.out.hand HI1.out.d6 (by have:=HI1.out.us;omega);have HST1:=za HS1.out.at';obtain⟨bx,is,hdx,hgb⟩:=zng p1.hand A1.ha A1.hc pl;have HGB:=za hgb;have HDX:=za hdx;have HDN:=za (zeo p1.hand);obtain⟨dn,hdn⟩:∃dn,zN p1.hand=dn:=⟨_,rfl⟩
       have HDB:=za hdn;clear hr hkd hpl hdt k3 k3f hgb hdx hdn hPL hdd;obtain⟨bpl,bdata,bdirty,bused⟩:=bx;simp only at HDX;go_upto_region 17 with fail
       go_cut[7,8] (fun s7 s8 wx=>∃Qb,s7=.pointer (some ⟨Qb,0,none⟩)∧s8=.bool is∧wx.cell? ⟨Qb,2,none⟩=some (.bool bdirty)∧Qb<wx.heap.size∧Below wr.heap.size wr wx)
       case first =>
        as_aux_lemma =>
        go_region_held3 (fun w'=>w'.cell? ⟨s,2,none⟩=some (.slice A1.ha p1.hand.length A1.hc)∧w'.cell? ⟨ak,1,none⟩=some (.int .i64 pl)) (exact⟨cellB_later' (w:=wr) (by(with_reducible repeat first|exact Below.refl _ _|refine zc ?_ _|refine zd ?_|refine bset' ?_ (by omega) _|refine zb ?_ (by assumption))) c2,cellB_later' (w:=wr) (by(with_reducible repeat first|exact Below.refl _ _|refine zc ?_ _|refine zd ?_|refine bset' ?_ (by omega) _|refine zb ?_ (by assumption))) k1⟩) (first|(go_at_call 53;refine(HGB.out _ (HH.out.later (by(with_reducible repeat first|exact Below.refl _ _|refine zc ?_ _|refine zd ?_|refine bset' ?_ (by omega) _|refine zb ?_ (by assumption))))).mono ?_;rintro e w1 ⟨rfl,hb1⟩;have z1:wr.heap.size≤w1.heap.size:=(show Below wr.heap.size wr w1 by(with_reducible repeat first|exact Below.refl _ _|refine zc ?_ _|refine zd ?_|refine bset' ?_ (by omega) _|refine zb ?_ (by assumption))).size;(try(obtain⟨m0,m1,m2,m3,m4,m5,m6,m7⟩:w1.cell? ⟨wr.heap.size,0,none⟩=some (.int .i64 0)∧w1.cell? ⟨wr.heap.size,1,none⟩=some (.string ⟨#[]⟩)∧w1.cell? ⟨wr.heap.size,2,none⟩=some (.bool false)∧w1.cell? ⟨wr.heap.size,3,none⟩=some (.int .i64 0)∧w1.frozen? ⟨wr.heap.size,0,none⟩=false∧w1.frozen? ⟨wr.heap.size,1,none⟩=false∧w1.frozen? ⟨wr.heap.size,2,none⟩=false∧w1.frozen? ⟨wr.heap.size,3,none⟩=false;(focus((refine⟨(hb1.cell (p:=⟨wr.heap.size,0,none⟩) ?_).trans ?_,(hb1.cell (p:=⟨wr.heap.size,1,none⟩) ?_).trans ?_,(hb1.cell (p:=⟨wr.heap.size,2,none⟩) ?_).trans ?_,(hb1.cell (p:=⟨wr.heap.size,3,none⟩) ?_).trans ?_,(hb1.frozen (p:=⟨wr.heap.size,0,none⟩) ?_).trans ?_,(hb1.frozen (p:=⟨wr.heap.size,1,none⟩) ?_).trans ?_,(hb1.frozen (p:=⟨wr.heap.size,2,none⟩) ?_).trans ?_,(hb1.frozen (p:=⟨wr.heap.size,3,none⟩) ?_).trans ?_⟩);(all_goals simp);(all_goals omega)))))))
        all_goals
         go_wp2
         go_meet
         case rel=>first|exact⟨_,rfl,rfl,by simp,by simp,by(with_reducible repeat first|exact Below.refl _ _|refine zc ?_ _|refine zd ?_|refine bset' ?_ (by omega) _|refine zb ?_ (by assumption))⟩|exact⟨_,rfl,rfl,(zV (Or.inr (by omega))).trans (World.cell?_setCell_same _ _ _ ((zV (Or.inr (by omega))).trans ((zV (Or.inr (by omega))).trans m2))),by have:=zg m2;simpa using this,by(with_reducible repeat first|exact Below.refl _ _|refine zc ?_ _|refine zd ?_|refine bset' ?_ (by omega) _|refine zb ?_ (by assumption))⟩
       case rest =>
        obtain⟨Qb,rfl,rfl,hbx,hlz,hbz⟩:=hcut;clear HGB;generalize hwz:wc=wz at *;clear hwz;have HSz:=za (zE.same' HST1.out hbz);have c2z:=HSz.out.at'.cell 2 _ rfl;have HHz:=za (HH.out.later hbz);have HBZ:=za hbz;have lsz:=HSz.out.at'.lt;clear c2 c20 c11 k0 klt k1 k2 hbz;obtain⟨tq,htq⟩:∃tq,(!(is&&bdirty)&&decide (6≤dn))=tq:=⟨_,rfl⟩
        have HTQ:=za htq;clear htq;go_upto_region 18 with fail
        go_cut[128] (fun sq wx=>sq=.bool tq∧Below wz.heap.size wz wx)
        case first =>
         as_aux_lemma =>
          cases is
          ·go_wp2_with fail;refine(ziy p1.hand A1.ha A1.hc _ HHz.out dn (HDN.out.trans HDB.out)).mono ?_;rintro e w4 ⟨rfl,hb4⟩;go_wp2
           go_meet
           case rel=>exact⟨congrArg Value.bool (by rw[←HTQ.out,Bool.eq_iff_iff];simp;(try omega)),hb4⟩
          ·cases bdirty
           ·go_wp2_with fail;refine(ziy p1.hand A1.ha A1.hc _ HHz.out dn (HDN.out.trans HDB.out)).mono ?_;rintro e w4 ⟨rfl,hb4⟩;go_wp2
            go_meet
            case rel=>exact⟨congrArg Value.bool (by rw[←HTQ.out,Bool.eq_iff_iff];simp;(try omega)),hb4⟩
           ·go_wp2
            go_meet
            case rel=>exact⟨congrArg Value.bool (by rw[←HTQ.out];rfl),Below.refl _ _⟩
        case rest =>
         obtain⟨rfl,hbc⟩:=hcut;have HSc:=za (zE.same' HST1.out (zb HBZ.out hbc));clear hbx hlz c2z HSz HHz HBZ hbc lsz
         cases tq
         ·have HNG:Hid (¬(6≤zN p1.hand∧zQ p1.hand pl=false)):=by
           have h1:=HTQ.out;rw[HDX.out] at h1;rintro⟨e1,e2⟩;rw[e2] at h1;rw[HDB.out] at e1;rw[decide_eq_true e1] at h1
           cases h1
          have c9:=HSc.out.at'.cell 9 _ rfl;have f9:=HSc.out.at'.fz 9;have lc:=HSc.out.at'.lt;clear HTQ HDX HDN HDB;go_upto_region 20 with fail;refine zai (fun wv=>zE s p1 A1 { p1 with uses:=p1.uses+1 } A1 wc wv) (HSc.out.at'.setUses (p1.uses+1)) ?_;intro wv hsy;have HSy:=za hsy;obtain⟨-,k1v,k2v,-⟩:=(hsy.at'.mem.asks k hk ak HKA.out).cells;rw[show({ p1 with uses:=p1.uses+1 }:Sk).client k=p1.client k from rfl,HC.out.1] at k1v;rw[show({ p1 with uses:=p1.uses+1 }:Sk).client k=p1.client k from rfl,HC.out.2] at k2v;have c2v:=hsy.at'.cell 2 _ rfl;have c9v:=hsy.at'.cell 9 _ rfl;have lv:=hsy.at'.lt;clear hsy c9 f9 lc
          cases hput:zbo p1.hand ⟨pl,dt,true,p1.uses+1⟩ p1.held with
          |none =>
           as_aux_lemma =>
            have HPUT:=za hput;clear hput
            go_region_held3 (fun w'=>w'.cell? ⟨s,2,none⟩=some (.slice A1.ha p1.hand.length A1.hc)∧w'.cell? ⟨ak,1,none⟩=some (.int .i64 pl)∧w'.cell? ⟨ak,2,none⟩=some (.string dt)∧w'.cell? ⟨s,9,none⟩=some (.int .i64 (p1.uses+1))) (exact⟨cellB_later' (w:=wv) (by(with_reducible repeat first|exact Below.refl _ _|refine zc ?_ _|refine zd ?_|refine bset' ?_ (by omega) _|refine zb ?_ (by assumption))) c2v,cellB_later' (w:=wv) (by(with_reducible repeat first|exact Below.refl _ _|refine zc ?_ _|refine zd ?_|refine bset' ?_ (by omega) _|refine zb ?_ (by assumption))) k1v,cellB_later' (w:=wv) (by(with_reducible repeat first|exact Below.refl _ _|refine zc ?_ _|refine zd ?_|refine bset' ?_ (by omega) _|refine zb ?_ (by assumption))) k2v,cellB_later' (w:=wv) (by(with_reducible repeat first|exact Below.refl _ _|refine zc ?_ _|refine zd ?_|refine bset' ?_ (by omega) _|refine zb ?_ (by assumption))) c9v⟩) (first|(go_at_call 52;refine(zdt s { p1 with uses:=p1.uses+1 } A1 _ (HSy.out.at'.later (by(with_reducible repeat first|exact Below.refl _ _|refine zc ?_ _|refine zd ?_|refine bset' ?_ (by omega) _|refine zb ?_ (by assumption)))) HIU.out).mono ?_;rintro e wH ⟨rfl,hbH⟩)|(go_at_call 69;refine(zp4 { p1 with uses:=p1.uses+1 } A1.ha A1.hc _ HIU.out (HSy.out.at'.mem.hand.later (by(with_reducible repeat first|exact Below.refl _ _|refine zc ?_ _|refine zd ?_|refine bset' ?_ (by omega) _|refine zb ?_ (by assumption)))) ⟨pl,dt,true,p1.uses+1⟩ HPUT.out).mono ?_;rintro e wP ⟨rfl,hbP⟩))
            all_goals
             have HBP:Hid (Below wv.heap.size wv wP):=(by show Below wv.heap.size wv wP;(with_reducible repeat first|exact Below.refl _ _|refine zc ?_ _|refine zd ?_|refine bset' ?_ (by omega) _|refine zb ?_ (by assumption)))
             have HKO:Hid (KOk 0 s p1 A1 wr wP (p1.nf.serve1 k)):=⟨_,_,(HSc.out.trans HSy.out).later HBP.out,(zh3 HKD.out.1 HKD.out.2 HC.out.1 HC.out.2 HNG.out HPUT.out).symm,Nat.le_refl _⟩
             clear hbP c2v c9v k1v k2v;go_wp2;go_roundw
             case rel=>obtain⟨p2,A2,h2⟩:=HN.out _ HKO.out;exact⟨k+1,p2,A2,by omega,by go_num,h2⟩
             case measure=>simp[intOf];omega
          |some m =>
           as_aux_lemma =>
            have HPUT:=za hput;clear hput
            go_region_held3 (fun w'=>w'.cell? ⟨s,2,none⟩=some (.slice A1.ha p1.hand.length A1.hc)∧w'.cell? ⟨ak,1,none⟩=some (.int .i64 pl)∧w'.cell? ⟨ak,2,none⟩=some (.string dt)∧w'.cell? ⟨s,9,none⟩=some (.int .i64 (p1.uses+1))) (exact⟨cellB_later' (w:=wv) (by(with_reducible repeat first|exact Below.refl _ _|refine zc ?_ _|refine zd ?_|refine bset' ?_ (by omega) _|refine zb ?_ (by assumption))) c2v,cellB_later' (w:=wv) (by(with_reducible repeat first|exact Below.refl _ _|refine zc ?_ _|refine zd ?_|refine bset' ?_ (by omega) _|refine zb ?_ (by assumption))) k1v,cellB_later' (w:=wv) (by(with_reducible repeat first|exact Below.refl _ _|refine zc ?_ _|refine zd ?_|refine bset' ?_ (by omega) _|refine zb ?_ (by assumption))) k2v,cellB_later' (w:=wv) (by(with_reducible repeat first|exact Below.refl _ _|refine zc ?_ _|refine zd ?_|refine bset' ?_ (by omega) _|refine zb ?_ (by assumption))) c9v⟩) (first|(go_at_call 52;refine(zdt s { p1 with uses:=p1.uses+1 } A1 _ (HSy.out.at'.later (by(with_reducible repeat first|exact Below.refl _ _|refine zc ?_ _|refine zd ?_|refine bset' ?_ (by omega) _|refine zb ?_ (by assumption)))) HIU.out).mono ?_;rintro e wH ⟨rfl,hbH⟩)|(go_at_call 69;refine(zj2 { p1 with uses:=p1.uses+1 } A1.ha A1.hc _ HIU.out (HSy.out.at'.mem.hand.later (by(with_reducible repeat first|exact Below.refl _ _|refine zc ?_ _|refine zd ?_|refine bset' ?_ (by omega) _|refine zb ?_ (by assumption)))) ⟨pl,dt,true,p1.uses+1⟩ m HPUT.out).mono ?_;rintro e wP ⟨a',c',rfl,u1,u2,hbP⟩))
            all_goals
             have HBP:Hid (Below wv.heap.size wv wP):=(by show Below wv.heap.size wv wP;(with_reducible repeat first|exact Below.refl _ _|refine zc ?_ _|refine zd ?_|refine bset' ?_ (by omega) _|refine zb ?_ (by assumption)))
             have HSP:=za (HSy.out.later HBP.out);have hge:wv.heap.size≤wH.heap.size:=(show Below wv.heap.size wv wH by(with_reducible repeat first|exact Below.refl _ _|refine zc ?_ _|refine zd ?_|refine bset' ?_ (by omega) _|refine zb ?_ (by assumption))).size;have HSH:Hid (zE s p1 A1 { p1 with uses:=p1.uses+1,hand:=m } { A1 with ha:=a',hc:=c' } wc (wP.setCell ⟨s,2,none⟩ (.slice a' m.length c'))):=HSP.out.trans (HSP.out.at'.setHand m a' c' u1 u2.2.1 u2.1 (fun _ q' hq' e=>by have h9:=u2.2.2 q' hq';have:=HSy.out.at'.offLt _ e;(try simp only[World.drew] at h9);omega));have v2:=HSP.out.at'.cell 2 _ rfl;have x2:=HSP.out.at'.fz 2;have lp:=HSP.out.at'.lt;clear hbP c2v c9v k1v k2v u1 u2 hbH hge;go_wp2_with fail;refine(zcE s _ _ _ HSH.out.at' k hk ⟨#[]⟩ 0).mono ?_;rintro e w7 ⟨rfl,hs7⟩;have HKO:Hid (KOk 0 s p1 A1 wr w7 (p1.nf.serve1 k)):=⟨_,_,HSc.out.trans (HSH.out.trans hs7),(zh8 HKD.out.1 HKD.out.2 HC.out.1 HC.out.2 HNG.out HPUT.out).symm,Nat.le_refl _⟩
             have l7:=hs7.at'.lt;clear hs7 v2 x2 lp;go_wp2;go_roundw
             case rel=>obtain⟨p2,A2,h2⟩:=HN.out _ HKO.out;exact⟨k+1,p2,A2,by omega,by go_num,h2⟩
             case measure=>simp[intOf];omega
         ·have HKO:Hid (KOk 0 s p1 A1 wr wc (p1.nf.serve1 k)):=by
           refine⟨p1,A1,HSc.out,?_,Nat.le_refl _⟩;have h1:=HTQ.out;rw[HDX.out,Bool.and_eq_true,Bool.not_eq_true',decide_eq_true_eq] at h1;exact(zhW HKD.out.1 HKD.out.2 HC.out.1 ⟨by rw[HDB.out];exact h1.2,h1.1⟩).symm
          have lc:=HSc.out.at'.lt;go_wp2;go_roundw
          case rel=>obtain⟨p2,A2,h2⟩:=HN.out _ HKO.out;exact⟨k+1,p2,A2,by omega,by go_num,h2⟩
          case measure=>simp[intOf];omega
      ·as_aux_lemma =>
        have HKD:=za (And.intro hkd hdd);have c20:=hr.st.at'.cell 20 _ rfl;rw[hdd] at c20;rw[hkd] at k0;obtain⟨L,hLk⟩:∃L,A1.lk k=L:=⟨_,rfl⟩
        have hLe:(p1.client k).left=L:=(HASK.out.left hkd).symm.trans hLk;have h8:L.length≤8:=by rw[←hLe];exact hr.left.client k
        have HI0:Hid (zay wr (A1.la k) L):=by have:=HASK.out.ints;rw[hLk] at this;exact this
        rw[hLk] at k3;have HLE:=za hLe;obtain⟨la,hla⟩:∃la,A1.la k=la:=⟨_,rfl⟩
        rw[hla] at k3 HI0;obtain⟨lcap,hlc⟩:∃lcap,A1.lc k=lcap:=⟨_,rfl⟩
        rw[hlc] at k3;have c2:=HS1.out.at'.cell 2 _ rfl;have HH:=za HS1.out.at'.mem.hand;have HST1:=za HS1.out.at';obtain⟨iI,hiI,hz0,hz1,hz2⟩:=zaL zoG;have HII:=za (⟨hiI,hz0,hz1,hz2⟩:Tryz.prog.info? 3=some iI∧_∧_∧_);clear hr hkd hLk hLe k1 k2 hdd hiI hz0 hz1 hz2 hla hlc;generalize wr=wo at *;go_wp2
        go_loopw[11,12] (fun v i wx=>∃j:Nat,j≤L.length∧i=.int .i64 j∧wx.ownsRow wo.heap.size 3 1 v ((L.take j).filter (zQ p1.hand)).length (((L.take j).filter (zQ p1.hand)).map (.int .i64))∧Below wo.heap.size wo wx) (fun _ i _=>L.length-(intOf i).toNat)
        case atStart=>exact⟨0,by omega,rfl,World.ownsRow_nil _ _ _ _,Below.refl _ _⟩
        case round =>
         obtain⟨j,hj,rfl,hown,hbr⟩:=hrel;have HB:=za hbr;have HO:=za hown;have hzr:=hbr.size;have hLn:=zqk L (zQ p1.hand) j;have c2r:=cellB_later' hbr c2;have k3r:=cellB_later' hbr k3;have lr:ak<wr.heap.size:=zg k3r;have lsr:=zg c2r;clear hown c2 k3
         by_cases hlt:j<L.length
         ·as_aux_lemma =>
          have hlt':(j:Int)<(L.length:Int):=by omega
          have hj0:(0:Int)≤(j:Int):=by omega
          rcases HI0.out.form with rfl|⟨bl,ol,rfl⟩
          ·exact absurd hlt (Nat.not_lt_zero _)
          have e0:=(HI0.out.later hbr).at hlt;obtain⟨bx,is,hdx,hgb⟩:=zng p1.hand A1.ha A1.hc L[j];have HGB:=za hgb;have HDX:=za hdx;have HHr:=za (HH.out.later hbr);obtain⟨x,hx⟩:∃x,L[j]=x:=⟨_,rfl⟩
          rw[hx] at e0 HGB HDX;have HX:=za hx;clear hx hgb hdx hbr;obtain⟨bpl,bdata,bdirty,bused⟩:=bx;simp only at HDX;go_upto_region 28 with fail
          go_cut[13,14] (fun s13 s14 wx=>∃Qb,s13=.pointer (some ⟨Qb,0,none⟩)∧s14=.bool is∧wx.cell? ⟨Qb,2,none⟩=some (.bool bdirty)∧Qb<wx.heap.size∧Below wr.heap.size wr wx)
          case first =>
           as_aux_lemma =>
            go_region_held3 (fun w'=>w'.cell? ⟨s,2,none⟩=some (.slice A1.ha p1.hand.length A1.hc)∧w'.cell? ⟨ak,3,none⟩=some (.slice (some ⟨bl,ol,none⟩) L.length lcap)∧w'.cell? ⟨bl,ol+j,none⟩=some (.int .i64 x)) (exact⟨cellB_later' (w:=wr) (by(with_reducible repeat first|exact Below.refl _ _|refine zc ?_ _|refine zd ?_|refine bset' ?_ (by omega) _|refine zb ?_ (by assumption))) c2r,cellB_later' (w:=wr) (by(with_reducible repeat first|exact Below.refl _ _|refine zc ?_ _|refine zd ?_|refine bset' ?_ (by omega) _|refine zb ?_ (by assumption))) k3r,cellB_later' (w:=wr) (by(with_reducible repeat first|exact Below.refl _ _|refine zc ?_ _|refine zd ?_|refine bset' ?_ (by omega) _|refine zb ?_ (by assumption))) e0⟩) (first|(go_at_call 53;refine(HGB.out _ (HHr.out.later (by(with_reducible repeat first|exact Below.refl _ _|refine zc ?_ _|refine zd ?_|refine bset' ?_ (by omega) _|refine zb ?_ (by assumption))))).mono ?_;rintro e w1 ⟨rfl,hb1⟩;have z1:wr.heap.size≤w1.heap.size:=(show Below wr.heap.size wr w1 by(with_reducible repeat first|exact Below.refl _ _|refine zc ?_ _|refine zd ?_|refine bset' ?_ (by omega) _|refine zb ?_ (by assumption))).size;(try(obtain⟨m0,m1,m2,m3,m4,m5,m6,m7⟩:w1.cell? ⟨wr.heap.size,0,none⟩=some (.int .i64 0)∧w1.cell? ⟨wr.heap.size,1,none⟩=some (.string ⟨#[]⟩)∧w1.cell? ⟨wr.heap.size,2,none⟩=some (.bool false)∧w1.cell? ⟨wr.heap.size,3,none⟩=some (.int .i64 0)∧w1.frozen? ⟨wr.heap.size,0,none⟩=false∧w1.frozen? ⟨wr.heap.size,1,none⟩=false∧w1.frozen? ⟨wr.heap.size,2,none⟩=false∧w1.frozen? ⟨wr.heap.size,3,none⟩=false;(focus((refine⟨(hb1.cell (p:=⟨wr.heap.size,0,none⟩) ?_).trans ?_,(hb1.cell (p:=⟨wr.heap.size,1,none⟩) ?_).trans ?_,(hb1.cell (p:=⟨wr.heap.size,2,none⟩) ?_).trans ?_,(hb1.cell (p:=⟨wr.heap.size,3,none⟩) ?_).trans ?_,(hb1.frozen (p:=⟨wr.heap.size,0,none⟩) ?_).trans ?_,(hb1.frozen (p:=⟨wr.heap.size,1,none⟩) ?_).trans ?_,(hb1.frozen (p:=⟨wr.heap.size,2,none⟩) ?_).trans ?_,(hb1.frozen (p:=⟨wr.heap.size,3,none⟩) ?_).trans ?_⟩);(all_goals simp);(all_goals omega)))))))
            all_goals
             go_wp2
             go_meet
             case rel=>first|exact⟨_,rfl,rfl,by simp,by simp,by(with_reducible repeat first|exact Below.refl _ _|refine zc ?_ _|refine zd ?_|refine bset' ?_ (by omega) _|refine zb ?_ (by assumption))⟩|exact⟨_,rfl,rfl,(zV (Or.inr (by omega))).trans (World.cell?_setCell_same _ _ _ ((zV (Or.inr (by omega))).trans ((zV (Or.inr (by omega))).trans m2))),by have:=zg m2;simpa using this,by(with_reducible repeat first|exact Below.refl _ _|refine zc ?_ _|refine zd ?_|refine bset' ?_ (by omega) _|refine zb ?_ (by assumption))⟩
          case rest =>
           obtain⟨Qb,rfl,rfl,hbx,hlz,hbz⟩:=hcut;clear HGB;generalize hwz:wc=wz at *;clear hwz;have HZ:=za (zb HB.out hbz);have HOZ:=za (zcc HO.out hbz);have k3z:=cellB_later' hbz k3r;have e0z:=cellB_later' hbz e0;have lz:=hbz.size;clear c2r k3r e0 hbz HO HB HHr
           cases is
           ·have HF:Hid (zQ p1.hand x=false):=HDX.out.symm;go_wp2;go_roundw
            case rel=>exact⟨j+1,by omega,by go_num,by rw[zm9 hlt (by rw[HX.out];exact HF.out)];exact HOZ.out,HZ.out⟩
            case measure=>simp[intOf];omega
           ·cases bdirty
            ·have HF:Hid (zQ p1.hand x=false):=HDX.out.symm;go_wp2;go_roundw
             case rel=>exact⟨j+1,by omega,by go_num,by rw[zm9 hlt (by rw[HX.out];exact HF.out)];exact HOZ.out,HZ.out⟩
             case measure=>simp[intOf];omega
            ·have HF:Hid (zQ p1.hand x=true):=HDX.out.symm;go_wp2_with(at_builtin;refine zq rfl _ _ 52 rfl wo.heap.size 3 iI (.int .i64 0) 1 8 Tryz.underlying52 HII.out.1 HII.out.2.1 HII.out.2.2.1 HII.out.2.2.2 rfl (by decide) _ _ _ rfl (zcc HOZ.out (by(with_reducible repeat first|exact Below.refl _ _|refine zc ?_ _|refine zd ?_|refine bset' ?_ (by omega) _|refine zb ?_ (by assumption)))) _ 1 1 [.int .i64 x] rfl (rowI (by simp)) (by unfold maxLen;omega) (by omega) (by have:=HZ.out.size;(try simp);omega) ?_;intro v3 w3 hown3 hb3);have HO3:=za hown3;have HB3:Hid (Below wo.heap.size wo w3):=Below.trans (by((with_reducible repeat first|exact Below.refl _ _|refine zc ?_ _|refine zd ?_|refine bset' ?_ (by omega) _|refine zb ?_ (by assumption)));exact HZ.out) hb3;clear hown3 hb3 HOZ;go_wp2;go_roundw
             case rel=>exact⟨j+1,by omega,by go_num,by rw[zq7 hlt (by rw[HX.out];exact HF.out),HX.out];simpa using HO3.out,HB3.out⟩
             case measure=>simp[intOf];omega
         ·as_aux_lemma =>
          obtain rfl:j=L.length:=by omega
          rw[zqI (Nat.le_refl _)] at HO;obtain⟨Lf,hLf⟩:∃Lf,L.filter (zQ p1.hand)=Lf:=⟨_,rfl⟩
          have hLf8:Lf.length≤8:=by rw[←hLf];exact Nat.le_trans (List.length_filter_le _ _) h8
          rw[hLf] at HO;have HLFF:=za hLf;obtain⟨a',c',rfl,hIa,hnn,hnew⟩:=zbO HO.out rfl;have HSr:=za (zE.same' HST1.out hbr);have HSL:=za (HSr.out.at'.setLeft hk HKA.out Lf a' c' hIa hnn (zq2 HST1.out hIa hnew));have k3f':=(HSr.out.at'.mem.asks k hk ak HKA.out).cells.2.2.2.2.1;clear HO hIa hnn hnew hLf hbr hzr hLn;go_upto_region 32 with fail;refine zai (fun wv=>zE s p1 A1 _ _ wo wv) (HSr.out.trans HSL.out) ?_;intro wv hsv;have HSV:=za hsv;have lv:=hsv.at'.lt;have v0:=hsv.at'.cell 0 _ rfl;clear hsv HSL HSr c2r k3r lr lsr k3f'
          by_cases hz:Lf=[]
          ·subst hz;go_wp2_with fail;refine(znM _ _ _ wv HSV.out.at'.mem.drv.dev).mono ?_;rintro e w5 ⟨rfl,hs5⟩;have HS5:=za (HSV.out.trans (HSV.out.at'.flushed hs5));have l5:=HS5.out.at'.lt;clear hs5 v0 lv;go_wp2_with fail;refine(zcE s _ _ w5 HS5.out.at' k hk ⟨#[]⟩ 0).mono ?_;rintro e w7 ⟨rfl,hs7⟩;have HKO:Hid (KOk 0 s p1 A1 wo w7 (p1.nf.serve1 k)):=⟨_,_,HS5.out.trans hs7,by
            rw[ziR HKD.out.1 HKD.out.2 HLE.out HLFF.out];exact congrArg Sk.nf (zmE { p1 with dev:=p1.dev.flush } k _ ⟨#[]⟩ 0),Nat.le_refl _⟩
           have l7:=hs7.at'.lt;clear hs7;go_wp2;go_roundw
           case rel=>obtain⟨p2,A2,h2⟩:=HN.out _ HKO.out;exact⟨k+1,p2,A2,by omega,by go_num,h2⟩
           case measure=>simp[intOf];omega
          ·have hz1:¬Lf.length=0:=fun e=>hz (List.eq_nil_of_length_eq_zero e)
           have hz2:((Lf.length:Int)==0)=false:=beq_eq_false_iff_ne.2 (by omega);have HNE:Hid (¬L.filter (zQ p1.hand)=[]):=by show ¬_;rw[HLFF.out];exact hz
           have HKO:Hid (KOk 0 s p1 A1 wo wv (p1.nf.serve1 k)):=⟨_,_,HSV.out,by
            rw[zi0 HKD.out.1 HKD.out.2 HLE.out HNE.out,HLFF.out],Nat.le_refl _⟩
           clear hz;generalize Lf.length=nf at *;go_wp2;go_roundw
           case rel=>obtain⟨p2,A2,h2⟩:=HN.out _ HKO.out;exact⟨k+1,p2,A2,by omega,by go_num,h2⟩
           case measure=>simp[intOf];omega
     ·have HE:=za (zmb hkd hdd);have c20:=hr.st.at'.cell 20 _ rfl;rw[hdd] at c20;have hkne:((p1.client k).kind==1)=false:=beq_eq_false_iff_ne.2 (by omega);generalize (p1.client k).kind=kd at *;clear hr hkd hdd;go_wp2_with fail;refine(zcE s p1 A1 _ HS1.out.at' k hk ⟨#[]⟩ 9).mono ?_;rintro e w2 ⟨rfl,hs2⟩;have HKO:Hid (KOk 0 s p1 A1 wr w2 (p1.nf.serve1 k)):=⟨_,_,hs2,HE.out.symm,Nat.le_refl _⟩
      have hl2:=hs2.at'.lt;clear hs2;go_wp2;go_roundw
      case rel=>obtain⟨p2,A2,h2⟩:=HN.out _ HKO.out;exact⟨k+1,p2,A2,by omega,by go_num,h2⟩
      case measure=>simp[intOf];omega
  ·obtain rfl:k=3:=by omega
   clear hr HI HST;go_wp2;go_end0;exact⟨rfl,p1,A1,HR.out.st,by rw[HR.out.nf,zpE];exact HQ.out,HR.out.cnt⟩
end Go.Proofs.YtlhgjplipgandaaGreat
