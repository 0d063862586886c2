/- Joined texts: REnd, RStk8, Stk24. -/
import Derived.Test.YtlhgjplipgandaaGreatB37
set_option maxRecDepth 100000
set_option maxHeartbeats 8000000
set_option linter.unusedSimpArgs false
namespace Go.Proofs.YtlhgjplipgandaaGreat
open Go.RowKit Go.BigFrame Go.Maps
theorem zkX(s:Nat)(p:Sk)(A:Rs)(w:World)(h:zH s p A w)(n:Nat)(hf:za7 n p.nf)(hn:n≤950000)(hA:A.cnt≤240000)(hL:zp p.nf)(i:Int)(fl:Bool)(x:Int)(q:Sk)(hq:p.nf.end' i fl=(x,q)) :
  Calls Tryz.prog 28 #[.pointer (some ⟨s,0,none⟩),.int .i64 i,.bool fl] w fun e w'=>e=.returned (.int .i64 x)∧KOk 1 s p A w w' q:=by
 have hI:=hf.fit.of_nf.inv;have hS:=hf.fit.of_nf.short;have hT:=hf.fit.of_nf.tags;have hU:=hf.fit.of_nf.uses
 by_cases hi:i<0∨(p.dev.busy.length:Int)≤i
 ·rw[zip hi] at hq
  cases hq
  exact zo8 s p A w h i fl hi
 ·obtain⟨k,rfl⟩:∃k:Nat,i=k:=⟨i.toNat,by omega⟩
  have hk:k<p.dev.busy.length:=by omega
  have hk':=List.getElem?_eq_getElem hk
  cases fl
  ·rw[zjH hk'] at hq;simp only[Prod.mk.injEq] at hq;obtain⟨rfl,hq⟩:=hq
   cases hw:p.dev.busy[k].wr
   ·exact zpi s p A w h hI hL.of_nf hf.tight hS (by omega) (by omega) hA k _ hk' hw q hq
   ·exact zo6 s p A w h hI hL.of_nf hS (by omega) (by omega) hA k _ hk' hw q hq
  ·by_cases hf2:p.f (p.dev.busy[k].tags.getD 0 0)<2
   ·rw[zgu hk' hf2] at hq
    cases hq
    exact zmo s p A w h hI (by omega) hA k _ hk' hf2
   ·cases hw:p.dev.busy[k].wr
    ·rw[zhf hk' hf2 hw] at hq;simp only[Prod.mk.injEq] at hq;obtain⟨rfl,hq⟩:=hq;exact zor s p A w h hI hL.of_nf (by omega) (by omega) hA k _ hk' hf2 hw q hq
    ·rw[zht hk' hf2 hw] at hq;simp only[Prod.mk.injEq] at hq;obtain⟨rfl,hq⟩:=hq;exact znB s p A w h hI hL.of_nf (by omega) (by omega) hA k _ hk' hf2 hw q hq
end Go.Proofs.YtlhgjplipgandaaGreat
namespace Go.Proofs.YtlhgjplipgandaaGreat
open Go.RowKit Go.BigFrame Go.Maps
attribute [local go_sem] ze.cell ze.frozen
theorem zlt{P:Program}{f:Nat}{args:Array Value}{Q:Ending→World→Prop}{w:World}(R:World→Prop)(h:R w)(k:∀w',R w'→Calls P f args w' Q):Calls P f args w Q:=k w h
def zfd(p:Sk)(k:Nat):Bool:=(List.range k).any fun j=>decide (1<(p.client j).kind)
theorem znm(p:Sk)(k:Nat):zfd p (k+1)=(zfd p k||decide (1<(p.client k).kind)):=by
 unfold zfd;rw[List.range_succ,List.any_append,List.any_cons,List.any_nil,Bool.or_false]
theorem zp0{p:Sk}(hI:Inv p):zfd p 3=p.wantsClean:=by
 obtain⟨x,y,z,e⟩:=zfP hI.cl3;have k1:=(hI.cok x (by rw[e];simp)).kind;have k2:=(hI.cok y (by rw[e];simp)).kind;have k3:=(hI.cok z (by rw[e];simp)).kind;have one:∀{c:Cl},0≤c.kind∧c.kind≤3→decide (1<c.kind)=(c.kind==2||c.kind==3):=by
  intro c hc;rw[Bool.eq_iff_iff,decide_eq_true_eq,Bool.or_eq_true,beq_iff_eq,beq_iff_eq]
  omega
 have a1:p.client 0=x:=by unfold Sk.client;rw[e];rfl
 have a2:p.client 1=y:=by unfold Sk.client;rw[e];rfl
 have a3:p.client 2=z:=by unfold Sk.client;rw[e];rfl
 unfold Sk.wantsClean;rw[e];show([0,1,2]:List Nat).any _=_;simp only[List.any_cons,List.any_nil,Bool.or_false,a1,a2,a3,one k1,one k2,one k3]
section
variable{p:Sk}
theorem zjW(h:p.dead=true∨(zN p.hand<3∧p.wantsClean=false)):p.nf.clean=(false,p.nf):=by
 have h':p.nf.dead=true∨(zN p.nf.hand<3∧p.nf.wantsClean=false):=h;unfold Sk.clean;rw[if_pos h']
theorem zqa(h:¬(p.dead=true∨(zN p.hand<3∧p.wantsClean=false)))(hp:zby p.hand p.held<0):p.nf.clean=(false,p.nf):=by
 have h':¬(p.nf.dead=true∨(zN p.nf.hand<3∧p.nf.wantsClean=false)):=h;have e4:p.nf.held=p.held:=funext (zdP p);have e5:p.nf.hand=p.hand:=rfl;unfold Sk.clean;rw[if_neg h',e4,e5,if_pos hp]
theorem zq5(h:¬(p.dead=true∨(zN p.hand<3∧p.wantsClean=false)))(hp:¬zby p.hand p.held<0){x:Bf}(hx:zaH p.hand (zby p.hand p.held)=some x):p.nf.clean=p.nf.askQ (zby p.hand p.held) true [x.data]:=by
 have h':¬(p.nf.dead=true∨(zN p.nf.hand<3∧p.nf.wantsClean=false)):=h;have e4:p.nf.held=p.held:=funext (zdP p);have e5:p.nf.hand=p.hand:=rfl;unfold Sk.clean;rw[if_neg h',e4,e5,if_neg hp,hx]
 rfl
end
theorem zhd(s:Nat)(p:Sk)(A:Rs)(w:World)(h:zH s p A w)(hI:Inv p)(hT:p.tags≤4000000000000000000)(t:Bool)(q:Sk)(hq:p.nf.clean=(t,q)):Calls Tryz.prog 24 #[.pointer (some ⟨s,0,none⟩)] w fun e w'=>e=.returned (.bool t)∧KOk 0 s p A w w' q:=by
 have HST:=za h;have HI:=za hI;have HQ:=za hq;have HH:=za h.mem.hand;have hl:=h.lt;have c2:=h.cell 2 _ rfl;have HDN:=za (zeo p.hand);obtain⟨dn,hdn⟩:∃dn,zN p.hand=dn:=⟨_,rfl⟩
 have HDB:=za hdn;clear h hI hq hdn;go_enter Tryz.func24,Tryz.ntmps24;go_wp2_with fail;refine(ziy p.hand A.ha A.hc _ HH.out dn (HDN.out.trans HDB.out)).mono ?_;rintro e w1 ⟨rfl,hb1⟩;have HB1:=za hb1;clear hb1 c2;go_wp2_with fail
 go_loopw[3,4] (fun m i wr=>∃k:Nat,k≤3∧i=.int .i64 k∧m=.bool (decide (3≤dn)||zfd p k)∧Below w.heap.size w wr) (fun _ i _=>3-(intOf i).toNat)
 case atStart=>exact⟨0,by omega,rfl,congrArg Value.bool (by rw[show zfd p 0=false from rfl,Bool.or_false,Bool.eq_iff_iff];simp;omega),HB1.out⟩
 case round =>
  obtain⟨k,hk3,rfl,rfl,hbr⟩:=hrel;have HBR:=za hbr;have HSr:=za (zE.same' HST.out hbr);have lr:=HSr.out.at'.lt;clear hbr
  by_cases hk:k<3
  ·have hk0:(0:Int)≤(k:Int):=by omega
   have hk3':(k:Int)<3:=by omega
   have HW:=za (znm p k);have c11:=(HSr.out.at'.c11 hk).1;unfold zdv at c11;generalize hm:(decide (3≤dn)||zfd p k)=mm;have HM:=za hm;clear hm
   cases mm
   ·cases hka:A.ka k with
    |none =>
     rw[hka] at c11;simp only[Option.map_none] at c11;have HZ:=za (HSr.out.at'.mem.idle k hk hka);clear hka;go_wp2;go_roundw
     case rel=>exact⟨k+1,by omega,by go_num,congrArg Value.bool (by rw[HW.out,←Bool.or_assoc,HM.out,HZ.out];rfl),HBR.out⟩
     case measure=>simp[intOf];omega
    |some ak =>
     rw[hka] at c11;simp only[Option.map_some] at c11;obtain⟨k0,-,-,-,-,klt⟩:=(HSr.out.at'.mem.asks k hk ak hka).cells;clear hka;go_wp2;go_roundw
     case rel=>exact⟨k+1,by omega,by go_num,congrArg Value.bool (by rw[HW.out,←Bool.or_assoc,HM.out];rfl),HBR.out⟩
     case measure=>simp[intOf];omega
   ·clear c11;go_wp2;go_roundw
    case rel=>exact⟨k+1,by omega,by go_num,congrArg Value.bool (by rw[HW.out,←Bool.or_assoc,HM.out];rfl),HBR.out⟩
    case measure=>simp[intOf];omega
  ·obtain rfl:k=3:=by omega
   have HWA:=za (zp0 HI.out);have c2:=HSr.out.at'.cell 2 _ rfl;have c20:=HSr.out.at'.cell 20 _ rfl;generalize hm:(decide (3≤dn)||zfd p 3)=mm;have HM:Hid ((decide (3≤dn)||p.wantsClean)=mm):=by show _=_;rw[←HWA.out];exact hm
   clear hm
   cases hdd:p.dead
   ·rw[hdd] at c20;have HDD:=za hdd;clear hdd
    cases mm
    ·have HNO:Hid (zN p.hand<3∧p.wantsClean=false):=by
      have:=HM.out;rw[Bool.or_eq_false_iff,decide_eq_false_iff_not] at this;exact⟨by rw[HDB.out];omega,this.2⟩
     have HE:=za (Prod.mk.inj ((zjW (Or.inr HNO.out)).symm.trans HQ.out));go_wp2;go_ret;exact⟨by(have h9:=HE.out.1);subst h9;rfl,p,A,HSr.out,HE.out.2,Nat.le_refl _⟩
    ·have HGO:Hid (¬(p.dead=true∨(zN p.hand<3∧p.wantsClean=false))):=by
      rintro(e|⟨e1,e2⟩)
      ·rw[HDD.out] at e;cases e
      ·have:=HM.out;rw[e2,Bool.or_false,decide_eq_true_eq] at this;rw[HDB.out] at e1
       omega
     have HHr:=za (HH.out.later HBR.out);obtain⟨pk,hpk⟩:∃pk,zby p.hand p.held=pk:=⟨_,rfl⟩
     have HPK:=za hpk;clear hpk HM;go_wp2_with fail
     go_region_held3 (fun w'=>w'.cell? ⟨s,2,none⟩=some (.slice A.ha p.hand.length A.hc)) (exact cellB_later' (w:=wr) (by(with_reducible repeat first|exact Below.refl _ _|refine zc ?_ _|refine zd ?_|refine bset' ?_ (by omega) _|refine zb ?_ (by assumption))) c2) (first|(go_at_call 52;refine(zdt s p A _ (HSr.out.at'.later (by(with_reducible repeat first|exact Below.refl _ _|refine zc ?_ _|refine zd ?_|refine bset' ?_ (by omega) _|refine zb ?_ (by assumption)))) HI.out).mono ?_;rintro e wH ⟨rfl,hbH⟩)|(go_at_call 51;refine(zpj p A.ha A.hc _ HI.out (HHr.out.later (by(with_reducible repeat first|exact Below.refl _ _|refine zc ?_ _|refine zd ?_|refine bset' ?_ (by omega) _|refine zb ?_ (by assumption)))) pk HPK.out).mono ?_;rintro e wP ⟨rfl,hbP⟩))
     all_goals
      refine zbG (fun wx=>Below wr.heap.size wr wx) (by(with_reducible repeat first|exact Below.refl _ _|refine zc ?_ _|refine zd ?_|refine bset' ?_ (by omega) _|refine zb ?_ (by assumption))) ?_;intro wc hbc;clear hbH hbP;have HSc:=za (zE.same' HST.out (zb HBR.out hbc));have lc:=HSc.out.at'.lt;have c2c:=HSc.out.at'.cell 2 _ rfl;have HHc:=za (HHr.out.later hbc);clear hbc c2 HSr HHr
      rcases zf5 p.hand p.held with⟨hp,-⟩|⟨x,hx,hp,-,-⟩
      ·have hpn:pk=-1:=HPK.out.symm.trans hp;have HE:=za (Prod.mk.inj ((zqa HGO.out (by rw[hp];decide)).symm.trans HQ.out));subst hpn;clear hp;go_wp2;go_ret;exact⟨by(have h9:=HE.out.1);subst h9;rfl,p,A,HSc.out,HE.out.2,Nat.le_refl _⟩
      ·have hxin:=HI.out.hand.in' x hx;have hpx:pk=x.pl:=HPK.out.symm.trans hp;have hg:zaH p.hand pk=some x:=by rw[hpx];exact zdi HI.out.hand.rise hx
       have hpk0:0≤pk∧pk≤31:=by omega
       have HQ2:=za (((zq5 HGO.out (by rw[HPK.out];omega) (by rw[HPK.out];exact hg)).symm.trans HQ.out))
       rcases zaV p.hand pk with⟨h1,_⟩|⟨j,hj,h1,hix,_⟩
       ·rw[hg] at h1;cases h1
       ·have hxj:x=p.hand[j]:=by rw[hg] at h1;exact Option.some.inj h1
        have HXJ:=za hxj;have HIX:=za hix;have HPI:=za hpk0;have HXS:Hid (x.data.size≤4):=hxin.2.2;have HQ3:Hid (p.nf.askQ pk true [x.data]=(t,q)):=by have:=HQ2.out;rw[HPK.out] at this;exact this
        have hk0':¬pk<0:=by omega
        clear hp hxin hpx hg h1 hxj hx hpk0 hix HQ2 HPK;obtain⟨xpl,xdata,xdirty,xused⟩:=x;go_wp2_with fail;refine(zeI p.hand A.ha A.hc pk _ HHc.out j hj HIX.out).mono ?_;rw[←HXJ.out];rintro e w3 ⟨rfl,hb3⟩;have HS3:=za (HSc.out.later hb3);have hsz3:=hb3.size;have hlw:w.heap.size≤w3.heap.size:=HS3.out.only.size;have l3:=HS3.out.at'.lt;clear hb3 c2c lc;go_wp2_with fail;refine zlt (fun wy=>zE s p A p A w wy∧zU wy (some ⟨w3.heap.size+1,0,none⟩) [xdata]) ⟨HS3.out.later (by(with_reducible repeat first|exact Below.refl _ _|refine zc ?_ _|refine zd ?_|refine bset' ?_ (by omega) _|refine zb ?_ (by assumption))),Or.inr ⟨_,_,rfl,fun i hi=>?_⟩⟩ ?_
        ·obtain rfl:i=0:=by simp at hi;omega
         simp
        ·rintro wy ⟨hsy,hstr⟩;refine(zh5 s p A wy hsy.at' HI.out hT pk HPI.out true [xdata] (by simp) (some ⟨w3.heap.size+1,0,none⟩) 1 hstr (fun e=>by cases e) (fun _ ad had e=>by have h9:=HST.out.offLt _ e;simp only[Option.some.injEq] at had;subst had;simp only at h9;omega) (fun tb=>zfa (zdE HI.out pk HPI.out true [xdata] (Or.inl ⟨rfl,rfl,fun s hs=>by rw[List.mem_singleton.1 hs];exact HXS.out⟩)) _ 1 tb) t q HQ3.out).mono ?_;rintro e w7 ⟨rfl,hko⟩;have HKO:Hid (KOk 0 s p A w w7 q):=KOk.before hsy (Nat.le_refl _) hko (Nat.le_refl _);clear hko;go_wp2;go_ret;exact⟨rfl,HKO.out⟩
   ·rw[hdd] at c20;have HE:=za (Prod.mk.inj ((zjW (Or.inl hdd)).symm.trans HQ.out));clear hdd;go_wp2;go_ret;exact⟨by(have h9:=HE.out.1);subst h9;rfl,p,A,HSr.out,HE.out.2,Nat.le_refl _⟩
def Sk.asks0(p:Sk)(i:Nat)(kind pl:Int)(data:ByteArray):Sk:={ p with cl:=p.cl.set i { p.client i with kind:=kind,pl:=pl,data:=data } }
section
variable{s:Nat}{p:Sk}{A:Sa}{w w':World}
theorem z9.asks0(h:z9 s p A w)(hl:p.cl.length=3){i:Nat}(hi:i<3)(kind pl:Int)(data:ByteArray):z9 s (p.asks0 i kind pl data) A w where
 drv:=h.drv
 map:=h.map
 im:=h.im
 nb:=h.nb
 hand:=h.hand
 hnil:=h.hnil
 hcap:=h.hcap
 queue:=h.queue
 qnil:=h.qnil
 qcap:=h.qcap
 left:=fun j hj=>by
  unfold Sk.asks0;rw[zaQ hl hi]
  by_cases hji:j=i
  ·rw[if_pos hji,hji];exact h.left i hi
  ·rw[if_neg hji];exact h.left j hj
 sv:=h.sv
 vl:=h.vl
 ll:=h.ll
 hoffX:=h.hoffX
 qoffX:=h.qoffX
 roffX:=h.roffX
 xlt:=h.xlt
def zlF(w:World)(s o:Nat)(v0 v1 v2:Value):World:=((w.setCell ⟨s,o,none⟩ v0).setCell ⟨s,o+1,none⟩ v1).setCell ⟨s,o+2,none⟩ v2
theorem zv.asks0(h:zv s p A w)(hl:p.cl.length=3){i:Nat}(hi:i<3)(kind pl:Int)(data:ByteArray):zG s p A (p.asks0 i kind pl data) A w (zlF w s (2+i*6) (.int .i64 kind) (.int .i64 pl) (.string data)):=by
 refine(h.mem.asks0 hl hi kind pl data).puts ?_ ?_ (fun k hk=>hk) ⟨rfl,rfl,rfl,rfl⟩
 ·unfold zlF;exact(((zo.refl (fun k=>k=s) w).setCell _ (Or.inl rfl) _).setCell _ (Or.inl rfl) _).setCell _ (Or.inl rfl) _
 ·unfold zlF;rw[zK (zK (zK h.blk _ _) _ _)]
  congr 2
  match i,hi with
  |0,hi=>simp[Sk.cells,Sk.head,Sk.tail,zaZ,Sk.asks0,zaQ hl hi]
  |1,hi=>simp[Sk.cells,Sk.head,Sk.tail,zaZ,Sk.asks0,zaQ hl hi]
  |2,hi=>simp[Sk.cells,Sk.head,Sk.tail,zaZ,Sk.asks0,zaQ hl hi]
theorem z9.qlt(h:z9 s p A w)(hne:p.queue ≠ []){q:Addr}(hq:A.qa=some q):q.block<w.heap.size:=by
 rcases h.queue.1 with e|⟨b',o',ha,hc⟩
 ·exact absurd e hne
 ·have:p.queue.length ≠ 0:=fun e=>hne (List.eq_nil_of_length_eq_zero e)
  have:=zg (hc 0 (by omega) 0 (by omega));rw[ha] at hq;simp only[Option.some.injEq] at hq;subst hq;exact this
theorem z9.hlt(h:z9 s p A w)(hne:p.hand ≠ []){q:Addr}(hq:A.ha=some q):q.block<w.heap.size:=by
 rcases h.hand.1 with e|⟨b',o',ha,hc⟩
 ·exact absurd e hne
 ·have:p.hand.length ≠ 0:=fun e=>hne (List.eq_nil_of_length_eq_zero e)
  have:=zg (hc 0 (by omega) 0 (by omega));rw[ha] at hq;simp only[Option.some.injEq] at hq;subst hq;exact this
theorem z9.rAt(h:z9 s p A w):∀r∈p.queue++p.dev.busy,r.At w:=fun r hr=>(List.mem_append.1 hr).elim (h.queue.2.1 r) (fun hr=>(h.drv.dev.reqs r hr).1)
def Sa.lay(A:Sa)(i:Nat)(a:Option Addr)(c:Nat):Sa:={ A with la:=fun j=>if j=i then a else A.la j,lc:=fun j=>if j=i then c else A.lc j }
theorem Sa.lay_foot(A:Sa)(i:Nat)(a:Option Addr)(c k n:Nat)(hn:∀q,a=some q→n≤q.block)(h:(A.lay i a c).foot s k):A.foot s k∨n≤k:=by
 rcases h with h|h|⟨j,hj,q,hq,e⟩
 ·exact Or.inl (Or.inl h)
 ·exact Or.inl (Or.inr (Or.inl h))
 ·by_cases hji:j=i
  ·simp only[Sa.lay,if_pos hji] at hq;exact Or.inr (by rw[e];exact hn q hq)
  ·simp only[Sa.lay,if_neg hji] at hq;exact Or.inl (Or.inr (Or.inr ⟨j,hj,q,hq,e⟩))
theorem Sa.lay_off(A:Sa)(i:Nat)(a:Option Addr)(c k n:Nat)(hn:∀q,a=some q→n≤q.block)(h:(A.lay i a c).off s k):A.off s k∨n≤k:=h.elim (fun e=>(A.lay_foot i a c k n hn e).imp Or.inl id) (fun e=>Or.inl (Or.inr e))
theorem zv.newLeft(h:zv s p A w)(hl:p.cl.length=3){i:Nat}(hi:i<3)(L:List Int)(v:Value)(hb:Below w.heap.size w w')(hown:w'.ownsRow w.heap.size 3 1 v L.length (za5 L)):∃A',zG s p A (p.setLeft i L) A' w (w'.setCell ⟨s,2+i*6+3,none⟩ v):=by
 obtain⟨a,c,rfl,hnew,hown0⟩:∃a c,v=.slice a L.length c∧(∀q,a=some q→w.heap.size≤q.block)∧w'.ownsRow 0 3 1 (.slice a L.length c) L.length (za5 L):=by
  rcases hown.2 with⟨rfl,h0⟩|⟨g,cap,cur,rfl,hg,r⟩
  ·exact⟨none,0,by rw[h0],(fun q hq=>by cases hq),hown.1,Or.inl ⟨by rw[h0],h0⟩⟩
  ·exact⟨_,cap,rfl,(fun q hq=>by simp only[Option.some.injEq] at hq;subst hq;exact hg),hown.1,Or.inr ⟨g,cap,cur,rfl,Nat.zero_le _,r⟩⟩
 have h':=h.later hb;have nf:∀q:Addr,¬A.off s q.block→q.block<w.heap.size→¬(A.lay i a c).off s q.block:=fun q h1 h2 e=>(A.lay_off i a c _ _ hnew e).elim h1 (fun h3=>by omega)
 have hm:z9 s (p.setLeft i L) (A.lay i a c) w':={
  drv:=h'.mem.drv
  map:=h'.mem.map
  im:=h'.mem.im
  nb:=h'.mem.nb
  hand:=h'.mem.hand
  hnil:=h'.mem.hnil
  hcap:=h'.mem.hcap
  queue:=h'.mem.queue
  qnil:=h'.mem.qnil
  qcap:=h'.mem.qcap
  left:=fun j hj=>by
   unfold Sk.setLeft;rw[zaQ hl hi]
   by_cases hji:j=i
   ·simp only[Sa.lay,if_pos hji];exact hown0
   ·simp only[Sa.lay,if_neg hji];exact h'.mem.left j hj
  sv:=h'.mem.sv
  vl:=fun j hj q hq=>by
   by_cases hji:j=i
   ·simp only[Sa.lay,if_pos hji] at hq;have h1:=hnew q hq;refine⟨fun e=>by have:=h.lt;omega,fun(e:q.block=A.v)=>by have:=zz h.mem.drv.blk;omega,fun e=>by have:=h.mem.drv.footLt _ e;omega⟩
   ·simp only[Sa.lay,if_neg hji] at hq;exact h'.mem.vl j hj q hq
  ll:=fun j k hj hk hne q q' hq hq'=>by
   by_cases hji:j=i
   ·have hki:¬k=i:=fun e=>hne (hji.trans e.symm)
    simp only[Sa.lay,if_pos hji] at hq;simp only[Sa.lay,if_neg hki] at hq';have h1:=hnew q hq;have h2:=h.mem.lrow hk hq'
    omega
   ·by_cases hki:k=i
    ·simp only[Sa.lay,if_neg hji] at hq;simp only[Sa.lay,if_pos hki] at hq';have h1:=hnew q' hq';have h2:=h.mem.lrow hj hq
     omega
    ·simp only[Sa.lay,if_neg hji] at hq;simp only[Sa.lay,if_neg hki] at hq';exact h'.mem.ll j k hj hk hne q q' hq hq'
  hoffX:=fun hne q hq=>nf q (h.mem.hoffX hne q hq) (h.mem.hlt hne hq)
  qoffX:=fun hne q hq=>nf q (h.mem.qoffX hne q hq) (h.mem.qlt hne hq)
  roffX:=fun r hr=>Rq.Off.step (h.mem.rAt r hr) (h.mem.roffX r hr) (fun k hk=>A.lay_off i a c k _ hnew hk)
  xlt:=h'.mem.xlt }
 have hO:zo (fun k=>k=s) w' (w'.setCell ⟨s,2+i*6+3,none⟩ (.slice a L.length c)):=zo.of_set _;refine⟨A.lay i a c,⟨⟨?_,hm.frame hO (fun k _ hne=>hne) (fun e=>hm.sv.2 e.symm) (fun hne q hq e=>hm.hoff hne q hq (Or.inl e)) (fun hne q hq e=>hm.qoff hne q hq (Or.inl e)) (fun r hr=>⟨fun he ad ha e=>(hm.roff r hr).1 he ad ha (Or.inl e),fun he ad ha e=>(hm.roff r hr).2 he ad ha (Or.inl e)⟩)⟩,?_,fun k hk=>A.lay_foot i a c k _ hnew hk,rfl,rfl,rfl,rfl⟩⟩
 ·rw[zK h'.blk]
  congr 2
  match i,hi with
  |0,hi=>simp[Sk.cells,Sk.head,Sk.tail,zaZ,Sk.setLeft,zaQ hl hi,Sa.lay]
  |1,hi=>simp[Sk.cells,Sk.head,Sk.tail,zaZ,Sk.setLeft,zaQ hl hi,Sa.lay]
  |2,hi=>simp[Sk.cells,Sk.head,Sk.tail,zaZ,Sk.setLeft,zaQ hl hi,Sa.lay]
 ·exact(zo.of_below hb).trans (hO.mono (fun k e=>Or.inl e)) (fun k hk=>Or.inl hk)
end
theorem zn3(l:List Rq)(hg:zif l)(hne:l ≠ [])(b o c:Nat)(t:Tn)(now:Int)(n0:0≤now)(n1:now≤1000000000)(hs:zaj t.s) :
  ∃(i:Nat) (T:Tn),i<l.length∧zbz l t now=((i:Int),T)∧zgg 56 b o c l t now i T:=by
 have ende:∀(i:Nat) (hi:i<l.length),zev l (i:Int)=l[i].f+l[i].m:=fun i hi=>by unfold zev;rw[Int.toNat_natCast,List.getElem?_eq_getElem hi]
 have begins:¬(0<t.g∧t.g<3∧0≤frI t.w t.p l)→∃(i:Nat) (T:Tn),i<l.length∧zbz l t now=((i:Int),T)∧zgg 56 b o c l t now i T:=by
  intro hpre;unfold zbz;rw[if_neg hpre];obtain⟨i0,hi0,hO,hw⟩:=zgb l hne t _ _ rfl rfl;generalize d1:decide (0≤zah false l)=b1 at *;generalize d2:decide (0≤zah true l)=b2 at *;obtain⟨e1,e2⟩:=zk9 b1 b2 t;obtain⟨i,hi,hway⟩:=zjN l hg (zZ b1 b2 t) now i0 hi0 hw;have g:=(hg.good i hi).bds;have hbg:zdA l (zZ b1 b2 t) now=i:=by
   unfold zdA;have hborn:zd9 l (zah (zZ b1 b2 t).w l)=l[i0].born:=by unfold zd9;rw[hO,Int.toNat_natCast,List.getElem?_eq_getElem hi0]
   rw[hborn]
   rcases hway with⟨h1,rfl⟩|⟨h1,h2|⟨h2,h3⟩⟩
   ·rw[if_pos h1];exact hO
   ·rw[if_neg (by omega),if_pos (by omega)];exact h2
   ·rw[if_neg (by omega),if_neg (by omega)];exact h3
  refine⟨i,⟨(zZ b1 b2 t).w,1,(zZ b1 b2 t).s,l[i].f+l[i].m⟩,hi,by rw[hbg,ende i hi],?_⟩;intro w hl;have:=znA l b o c t (zZ b1 b2 t) now w hl i hi ?_ (fun w' hl'=>zpg l b o c t w' hl' hs b1 b2 d1 d2) (fun w' hl'=>zoy l hg b o c _ now w' hl' n0 n1 i0 hi0 hO i hway) (by omega) (by omega) (by omega) (by omega)
  ·rw[e2] at this;exact this
  ·intro w' hl'
   by_cases hgo:t.g≤0∨3≤t.g
   ·exact zo4 l _ c t w' hgo
   ·refine ziD l _ c t w' hl' (by omega) (by omega) _ ?_
    rcases zdq t.w t.p l with⟨h1,_⟩|⟨j,hj,h1,_⟩
    ·exact h1
    ·exact absurd ⟨by omega,by omega,by omega⟩ hpre
 by_cases hgo:0<t.g∧t.g<3∧0≤frI t.w t.p l
 ·rcases zdq t.w t.p l with⟨h1,_⟩|⟨j,hj,h1,h2,_⟩
  ·omega
  ·have g:=(hg.good j hj).bds;refine⟨j,⟨t.w,t.g+1,t.s,l[j].f+l[j].m⟩,hj,by unfold zbz;rw[if_pos hgo,h1,ende j hj],fun w hl=>?_⟩;exact zrW l b o c t now w hl (by omega) (by omega) j hj h1 (by omega) (by omega) (by omega) (by omega)
 ·exact begins hgo
theorem Inv.goodsQ{p:Sk}(h:Inv p):zif p.queue:=by
 refine⟨h.goods,fun i j hi hj=>?_⟩;have hp:=List.pairwise_iff_getElem.1 h.queue.2 j i (by omega) hi hj;have h1:=h.goods i hi;have h2:=h.goods j (by omega);have:=(zhb (r:=p.queue[j]) h1 h2).2 hp.symm;exact this
theorem zmW(l:List Rq)(hg:zif l)(hne:l ≠ [])(b o c:Nat)(t:Tn)(now:Int)(n0:0≤now)(n1:now≤1000000000)(hs:zaj t.s) :
  ∃(i:Nat) (T:Tn),i<l.length∧zbz l t now=((i:Int),T)∧zgg 59 b o c l t now i T:=by
 have ende:∀(i:Nat) (hi:i<l.length),zev l (i:Int)=l[i].f+l[i].m:=fun i hi=>by unfold zev;rw[Int.toNat_natCast,List.getElem?_eq_getElem hi]
 have begins:¬(0<t.g∧t.g<3∧0≤frI t.w t.p l)→∃(i:Nat) (T:Tn),i<l.length∧zbz l t now=((i:Int),T)∧zgg 59 b o c l t now i T:=by
  intro hpre;unfold zbz;rw[if_neg hpre];obtain⟨i0,hi0,hO,hw⟩:=zgb l hne t _ _ rfl rfl;generalize d1:decide (0≤zah false l)=b1 at *;generalize d2:decide (0≤zah true l)=b2 at *;obtain⟨e1,e2⟩:=zk9 b1 b2 t;obtain⟨i,hi,hway⟩:=zjN l hg (zZ b1 b2 t) now i0 hi0 hw;have g:=(hg.good i hi).bds;have hbg:zdA l (zZ b1 b2 t) now=i:=by
   unfold zdA;have hborn:zd9 l (zah (zZ b1 b2 t).w l)=l[i0].born:=by unfold zd9;rw[hO,Int.toNat_natCast,List.getElem?_eq_getElem hi0]
   rw[hborn]
   rcases hway with⟨h1,rfl⟩|⟨h1,h2|⟨h2,h3⟩⟩
   ·rw[if_pos h1];exact hO
   ·rw[if_neg (by omega),if_pos (by omega)];exact h2
   ·rw[if_neg (by omega),if_neg (by omega)];exact h3
  refine⟨i,⟨(zZ b1 b2 t).w,1,(zZ b1 b2 t).s,l[i].f+l[i].m⟩,hi,by rw[hbg,ende i hi],?_⟩;intro w hl;have g0:=hg.good i0 hi0;rw[e1] at hway
  by_cases hgo:t.g≤0∨3≤t.g
  ·exact zmw l b o c t now w hl (by rw[beq_eq_false_iff_ne];omega) (by rw[beq_eq_false_iff_ne];omega) hs.1 _ _ rfl rfl b1 b2 d1 d2 _ _ rfl rfl i0 hi0 hO i hi n0 n1 g0.b0 g0.b1 (by omega) (by omega) (by omega) (by omega) hway
  ·have hfr:frI t.w t.p l=-1:=by
    rcases zdq t.w t.p l with⟨h1,_⟩|⟨j,hj,h1,_⟩
    ·exact h1
    ·exact absurd ⟨by omega,by omega,by omega⟩ hpre
   refine znL l b o c t now w hl _ rfl ?_ hfr hs.1 _ _ rfl rfl b1 b2 d1 d2 _ _ rfl rfl i0 hi0 hO i hi n0 n1 g0.b0 g0.b1 (by omega) (by omega) (by omega) (by omega) hway
   by_cases h1:t.g=1
   ·rw[h1];rfl
   ·obtain h2:t.g=2:=by omega
    rw[h2];rfl
 by_cases hgo:0<t.g∧t.g<3∧0≤frI t.w t.p l
 ·rcases zdq t.w t.p l with⟨h1,_⟩|⟨j,hj,h1,h2,_⟩
  ·omega
  ·have g:=(hg.good j hj).bds;refine⟨j,⟨t.w,t.g+1,t.s,l[j].f+l[j].m⟩,hj,by unfold zbz;rw[if_pos hgo,h1,ende j hj],fun w hl=>?_⟩;refine zra l b o c t now w hl _ rfl ?_ (by omega) (by omega) j hj h1 (by omega) (by omega) (by omega) (by omega)
   by_cases h3:t.g=1
   ·rw[h3];rfl
   ·obtain h4:t.g=2:=by omega
    rw[h4];rfl
 ·exact begins hgo
theorem zjM(F:Rq→Bool)(R:Rq→Int)(hF:∀r:Rq,F r.nf=F r)(hR:∀r:Rq,R r.nf=R r)(l:List Rq):∀n,zax F R (l.map Rq.nf) n=zax F R l n:=by
 have e1:∀k,zgX F (l.map Rq.nf) k=zgX F l k:=fun k=>by
  unfold zgX;rw[List.getElem?_map]
  cases l[k]? with
  |none=>rfl
  |some r=>exact hF r
 have e2:∀k,zeR R (l.map Rq.nf) k=zeR R l k:=fun k=>by
  unfold zeR;rw[List.getElem?_map]
  cases l[k]? with
  |none=>rfl
  |some r=>exact hR r
 intro n
 induction n with
 |zero=>rfl
 |succ k ih =>
  unfold zax;rw[ih,e1,e2,e2]
theorem zse(b:Bool)(l:List Rq):zah b (l.map Rq.nf)=zah b l:=by unfold zah;rw[List.length_map];exact zjM _ _ (fun _=>rfl) (fun _=>rfl) l _
theorem frI_nf(b:Bool)(a:Int)(l:List Rq):frI b a (l.map Rq.nf)=frI b a l:=by unfold frI;rw[List.length_map];exact zjM _ _ (fun _=>rfl) (fun _=>rfl) l _
theorem zqi(l:List Rq)(i:Int):zev (l.map Rq.nf) i=zev l i:=by
 unfold zev;rw[List.getElem?_map]
 cases l[i.toNat]?<;>rfl
theorem zpC(l:List Rq)(i:Int):zd9 (l.map Rq.nf) i=zd9 l i:=by
 unfold zd9;rw[List.getElem?_map]
 cases l[i.toNat]?<;>rfl
theorem zrx(l:List Rq)(t:Tn)(now:Int):zbz (l.map Rq.nf) t now=zbz l t now:=by
 unfold zbz zdA;simp only[zse,frI_nf,zqi,zpC]
theorem set4c{w:World}{b:Nat}{u0 u1 u2 u3:Value}(v0 v1 v2 v3:Value)(k0:w.cell? ⟨b,0,none⟩=some u0)(k1:w.cell? ⟨b,1,none⟩=some u1)(k2:w.cell? ⟨b,2,none⟩=some u2)(k3:w.cell? ⟨b,3,none⟩=some u3){w':World}(hw:w'=(((w.setCell ⟨b,0,none⟩ v0).setCell ⟨b,1,none⟩ v1).setCell ⟨b,2,none⟩ v2).setCell ⟨b,3,none⟩ v3) :
  w'.cell? ⟨b,0,none⟩=some v0∧w'.cell? ⟨b,1,none⟩=some v1∧w'.cell? ⟨b,2,none⟩=some v2∧w'.cell? ⟨b,3,none⟩=some v3:=by
 subst hw;refine⟨?_,?_,?_,?_⟩
 ·exact(zV (Or.inr (by omega))).trans ((zV (Or.inr (by omega))).trans ((zV (Or.inr (by omega))).trans (World.cell?_setCell_same _ _ _ k0)))
 ·exact(zV (Or.inr (by omega))).trans ((zV (Or.inr (by omega))).trans (World.cell?_setCell_same _ _ _ ((zV (Or.inr (by omega))).trans k1)))
 ·exact(zV (Or.inr (by omega))).trans (World.cell?_setCell_same _ _ _ ((zV (Or.inr (by omega))).trans ((zV (Or.inr (by omega))).trans k2)))
 ·exact World.cell?_setCell_same _ _ _ ((zV (Or.inr (by omega))).trans ((zV (Or.inr (by omega))).trans ((zV (Or.inr (by omega))).trans k3)))
section
variable{s:Nat}{p:Sk}{A:Sa}{w w':World}
theorem z9.setQT(h:z9 s p A w)(L:List Rq)(a':Option Addr)(c':Nat)(T:Tn)(hR:zs w a' L)(hcap:L.length≤c')(hnil:a'=none→c'=0)(ho:L ≠ []→∀q,a'=some q→¬A.off s q.block)(hro:∀r∈L,r.Off (A.off s)):z9 s { p with queue:=L,turn:=T } { A with qa:=a',qc:=c' } w where
 drv:=h.drv
 map:=h.map
 im:=h.im
 nb:=h.nb
 hand:=h.hand
 hnil:=h.hnil
 hcap:=h.hcap
 queue:=hR
 qnil:=hnil
 qcap:=hcap
 left:=h.left
 sv:=h.sv
 vl:=h.vl
 ll:=h.ll
 hoffX:=h.hoffX
 qoffX:=ho
 roffX:=fun r hr=>(List.mem_append.1 hr).elim (hro r) (fun h'=>h.roffX r (List.mem_append_right _ h'))
 xlt:=h.xlt
def ziT(w:World)(s:Nat)(T:Tn):World:=(((w.setCell ⟨s,22,none⟩ (.bool T.w)).setCell ⟨s,23,none⟩ (.int .i64 T.g)).setCell ⟨s,24,none⟩ (.int .i64 T.s)).setCell ⟨s,25,none⟩ (.int .i64 T.p)
theorem zv.setQT(h:zv s p A w)(L:List Rq)(a':Option Addr)(c':Nat)(T:Tn)(hR:zs w a' L)(hcap:L.length≤c')(hnil:a'=none→c'=0)(ho:L ≠ []→∀q,a'=some q→¬A.off s q.block)(hro:∀r∈L,r.Off (A.off s)) :
  zG s p A { p with queue:=L,turn:=T } { A with qa:=a',qc:=c' } w (ziT (w.setCell ⟨s,21,none⟩ (.slice a' L.length c')) s T)∧zG s p A { p with queue:=L,turn:=T } { A with qa:=a',qc:=c' } w ((ziT w s T).setCell ⟨s,21,none⟩ (.slice a' L.length c')):=by
 have hm:=h.mem.setQT L a' c' T hR hcap hnil ho hro
 constructor
 ·refine hm.puts ?_ ?_ (fun k hk=>hk) ⟨rfl,rfl,rfl,rfl⟩
  ·unfold ziT;exact(((((zo.refl (fun k=>k=s) w).setCell _ (Or.inl rfl) _).setCell _ (Or.inl rfl) _).setCell _ (Or.inl rfl) _).setCell _ (Or.inl rfl) _).setCell _ (Or.inl rfl) _
  ·unfold ziT;rw[zK (zK (zK (zK (zK h.blk _ _) _ _) _ _) _ _)]
   rfl
 ·refine hm.puts ?_ ?_ (fun k hk=>hk) ⟨rfl,rfl,rfl,rfl⟩
  ·unfold ziT;exact(((((zo.refl (fun k=>k=s) w).setCell _ (Or.inl rfl) _).setCell _ (Or.inl rfl) _).setCell _ (Or.inl rfl) _).setCell _ (Or.inl rfl) _).setCell _ (Or.inl rfl) _
  ·unfold ziT;rw[zK (zK (zK (zK (zK h.blk _ _) _ _) _ _) _ _)]
   rfl
end
theorem zi7(s:Nat)(p:Sk)(A:Sa)(w:World)(h:zv s p A w)(he:p.queue=[]) :
  Calls Tryz.prog 25 #[.pointer (some ⟨s,0,none⟩)] w fun e w'=>e=.returned (.bool false)∧SOk s p A w w' p.nf:=by
 have c21:=h.cell 21 _ rfl;rw[he] at c21;have hl:=h.lt;have HST:=za h;clear h;go_enter Tryz.func25,Tryz.ntmps25;go_wp2;go_ret;exact⟨rfl,p,A,zG.same' HST.out (Below.refl _ _),rfl⟩
theorem zi5(s:Nat)(p:Sk)(A:Sa)(w:World)(h:zv s p A w)(hq:p.queue ≠ [])(hf:2≤p.dev.busy.length) :
  Calls Tryz.prog 25 #[.pointer (some ⟨s,0,none⟩)] w fun e w'=>e=.returned (.bool false)∧SOk s p A w w' p.nf:=by
 have c21:=h.cell 21 _ rfl;have c1:=h.cell 1 _ rfl;have hl:=h.lt;have HST:=za h;have h0:¬p.queue.length=0:=fun e=>hq (List.eq_nil_of_length_eq_zero e)
 have h1:¬(p.queue.length:Int)=0:=by omega
 have h2:((p.queue.length:Int)==0)=false:=beq_eq_false_iff_ne.2 h1;have HF:Hid (decide (p.dev.busy.length<2)=false):=decide_eq_false (by omega);clear h hq hf;generalize p.queue.length=n at *;go_enter Tryz.func25,Tryz.ntmps25;go_wp2_with fail;refine(zkD A.v A.b A.bm p.dev A.an A.n A.D false w HST.out.mem.drv HF.out).mono ?_;rintro e w1 ⟨rfl,hb1⟩;go_wp2;go_ret;exact⟨rfl,p,A,zG.same' HST.out hb1,rfl⟩
def zdH(w:World)(g:Nat)(T:Tn):Prop:=w.cell? ⟨g,0,none⟩=some (.bool T.w)∧w.cell? ⟨g,1,none⟩=some (.int .i64 T.g)∧w.cell? ⟨g,2,none⟩=some (.int .i64 T.s)∧w.cell? ⟨g,3,none⟩=some (.int .i64 T.p)
theorem zdH.only{F:Nat→Prop}{w w':World}{g:Nat}{T:Tn}(h:zdH w g T)(hO:zo F w w')(hn:¬F g):zdH w' g T:=by
 obtain⟨h0,h1,h2,h3⟩:=h;have hl:=zg h0;exact⟨(hO.cell (p:=⟨g,0,none⟩) hl hn).trans h0,(hO.cell (p:=⟨g,1,none⟩) hl hn).trans h1,(hO.cell (p:=⟨g,2,none⟩) hl hn).trans h2,(hO.cell (p:=⟨g,3,none⟩) hl hn).trans h3⟩
theorem zdH.later{w w':World}{g:Nat}{T:Tn}(h:zdH w g T)(hb:Below w.heap.size w w'):zdH w' g T:=h.only (F:=fun _=>False) (zo.of_below hb) (fun e=>e)
theorem zhv{p:Sk}{i:Nat}{T:Tn}(hi:i<p.queue.length)(hne:p.queue ≠ [])(hb:p.dev.busy.length<2)(hn:zbz p.queue p.turn p.moment=((i:Int),T)):p.nf.dispatch=(true,({ p with dev:={ p.dev with busy:=p.dev.busy++[p.queue[i]] },queue:=p.queue.take i++p.queue.drop (i+1),turn:=T }:Sk).nf):=by
 unfold Sk.dispatch;have e1:zbz p.nf.queue p.nf.turn p.nf.moment=((i:Int),T):=(zrx p.queue p.turn p.moment).trans hn;rw[if_neg (by
  rintro(e|e)
  ·exact hne (List.map_eq_nil_iff.1 e)
  ·rw[show p.nf.dev.busy.length=p.dev.busy.length from List.length_map _] at e;omega),e1]
 have e2:p.nf.queue[((i:Int)).toNat]?=some p.queue[i].nf:=by
  rw[Int.toNat_natCast];show(p.queue.map Rq.nf)[i]?=_;rw[List.getElem?_map,List.getElem?_eq_getElem hi];rfl
 rw[e2];simp only[Sk.nf,Dl.nf,List.map_append,List.map_cons,List.map_nil,Int.toNat_natCast,Option.toList,List.eraseIdx_eq_take_drop_succ,List.map_take,List.map_drop]
theorem zkm(s:Nat)(p:Sk)(A:Sa)(w:World)(h:zv s p A w)(hI:Inv p)(hne:p.queue ≠ [])(hb:p.dev.busy.length<2)(q:Sk)(hq:p.nf.dispatch.2=q) :
  Calls Tryz.prog 25 #[.pointer (some ⟨s,0,none⟩)] w fun e w'=>e=.returned (.bool true)∧SOk s p A w w' q:=by
 obtain⟨bq,oq,hqa⟩:∃b o,A.qa=some ⟨b,o,none⟩:=by
  rcases h.mem.queue.1 with e|⟨b,o,e,_⟩
  ·exact absurd e hne
  ·exact⟨b,o,e⟩
 obtain⟨i,T,hi,hnx,hcall⟩:=zn3 p.queue hI.goodsQ hne bq oq A.qc p.turn p.moment hI.mom.1 hI.mom.2 (by have:=hI.ts;unfold zaj;omega);obtain⟨r,hr⟩:∃r,p.queue[i]=r:=⟨_,rfl⟩
 obtain⟨L,hL⟩:∃L,p.queue.take i++p.queue.drop (i+1)=L:=⟨_,rfl⟩
 have HQ:Hid (({ p with dev:={ p.dev with busy:=p.dev.busy++[r] },queue:=L,turn:=T }:Sk).nf=q):=by
  subst hr;subst hL;show Sk.nf _=q;rw[←hq,zhv hi hne hb hnx]
 have c21:=h.cell 21 _ rfl;rw[hqa] at c21;have c1:=h.cell 1 _ rfl;have c22:=h.cell 22 _ rfl;have c23:=h.cell 23 _ rfl;have c24:=h.cell 24 _ rfl;have c25:=h.cell 25 _ rfl;have c26:=h.cell 26 _ rfl;have hl:=h.lt;have HST:=za h;have HI:=za hI;have HCALL:=za hcall;have HRQ:Hid (zs w (some ⟨bq,oq,none⟩) p.queue):=by have:=h.mem.queue;rw[hqa] at this;exact this
 have HB:Hid (p.dev.busy.length<2):=hb;have HRM:Hid (decide (p.dev.busy.length<2)=true):=decide_eq_true hb;have h0:¬p.queue.length=0:=fun e=>hne (List.eq_nil_of_length_eq_zero e)
 have h1:¬(p.queue.length:Int)=0:=by omega
 have h2:((p.queue.length:Int)==0)=false:=beq_eq_false_iff_ne.2 h1;have HR6:Hid (p.queue.length≤6∧p.queue.length≤A.qc):=⟨hI.q6,h.mem.qcap⟩
 have HQA:=za hqa;have HI':Hid (i<p.queue.length):=hi;clear h hI hne hb hq hcall hnx hqa;obtain⟨n,hn⟩:∃n,p.queue.length=n:=⟨_,rfl⟩
 have HCALLN:Hid (∀w',zs w' (some ⟨bq,oq,none⟩) p.queue→Calls Tryz.prog 56 #[.slice (some ⟨bq,oq,none⟩) n A.qc,p.turn.val,.int .i64 p.moment] w' fun e w2=>e=.returned (.tuple #[.int .i64 i,T.val])∧Below w'.heap.size w' w2):=by
  show ∀w',zs w' (some ⟨bq,oq,none⟩) p.queue→_;rw[←hn];exact HCALL.out
 have HLL:Hid (L.length=n-1∧(∀x∈L,x∈p.queue)∧r∈p.queue):=by
  refine⟨?_,fun x hx=>?_,by rw[←hr];exact List.getElem_mem hi⟩
  ·rw[←hL,List.length_append,List.length_take,List.length_drop];omega
  ·rw[←hL] at hx
   rcases List.mem_append.1 hx with h'|h'
   ·exact List.mem_of_mem_take h'
   ·exact List.mem_of_mem_drop h'
 have HTAKE:Hid (∀w',zs w' (some ⟨bq,oq,none⟩) p.queue→Calls Tryz.prog 57 #[.slice (some ⟨bq,oq,none⟩) n A.qc,.int .i64 i] w' fun e w2=>∃a' c',e=.returned (.tuple #[.slice a' L.length c',r.val])∧zco w'.heap.size w2 a' c' L∧Below w'.heap.size w' w2):=by
  intro w' hw';have ht:=zrg p.queue bq oq A.qc w' hw' (by have:=HR6.out;omega) HR6.out.2 i hi;subst hr;subst hL;subst hn;refine ht.mono ?_;rintro e w2 ⟨v,he,hown,hb2⟩;obtain⟨a',c',rfl,hN⟩:=zb3 hown (fun x hx=>(hw'.2.1 x (HLL.out.2.1 x hx)).later hb2) (by have:=HLL.out.1;omega) (by have:=HLL.out.1;have:=HR6.out;omega);exact⟨a',c',he,hN,hb2⟩
 rw[hn] at c21 h0 h1 h2;have HN:=za hn;clear hn HCALL hr hL;obtain⟨tw,tg,ts,tp⟩:=T;go_enter Tryz.func25,Tryz.ntmps25;go_wp2_with fail;refine(zkD A.v A.b A.bm p.dev A.an A.n A.D true w HST.out.mem.drv HRM.out).mono ?_;rintro e w1 ⟨rfl,hb1⟩;have HB1:=za hb1
 replace c21:=cellB_later' hb1 c21
 replace c1:=cellB_later' hb1 c1
 replace c22:=cellB_later' hb1 c22
 replace c23:=cellB_later' hb1 c23
 replace c24:=cellB_later' hb1 c24
 replace c25:=cellB_later' hb1 c25
 replace c26:=cellB_later' hb1 c26
 replace hl:=Nat.lt_of_lt_of_le hl hb1.size
 clear hb1;go_wp2_with fail
 go_region_held3 (fun w'=>w'.cell? ⟨s,21,none⟩=some (.slice (some ⟨bq,oq,none⟩) n A.qc)∧w'.cell? ⟨s,22,none⟩=some (.bool p.turn.w)∧w'.cell? ⟨s,23,none⟩=some (.int .i64 p.turn.g)∧w'.cell? ⟨s,24,none⟩=some (.int .i64 p.turn.s)∧w'.cell? ⟨s,25,none⟩=some (.int .i64 p.turn.p)∧w'.cell? ⟨s,26,none⟩=some (.int .i64 p.moment)) (exact⟨cellB_later' (w:=w1) (by(with_reducible repeat first|exact Below.refl _ _|refine zc ?_ _|refine zd ?_|refine bset' ?_ (by omega) _|refine zb ?_ (by assumption))) c21,cellB_later' (w:=w1) (by(with_reducible repeat first|exact Below.refl _ _|refine zc ?_ _|refine zd ?_|refine bset' ?_ (by omega) _|refine zb ?_ (by assumption))) c22,cellB_later' (w:=w1) (by(with_reducible repeat first|exact Below.refl _ _|refine zc ?_ _|refine zd ?_|refine bset' ?_ (by omega) _|refine zb ?_ (by assumption))) c23,cellB_later' (w:=w1) (by(with_reducible repeat first|exact Below.refl _ _|refine zc ?_ _|refine zd ?_|refine bset' ?_ (by omega) _|refine zb ?_ (by assumption))) c24,cellB_later' (w:=w1) (by(with_reducible repeat first|exact Below.refl _ _|refine zc ?_ _|refine zd ?_|refine bset' ?_ (by omega) _|refine zb ?_ (by assumption))) c25,cellB_later' (w:=w1) (by(with_reducible repeat first|exact Below.refl _ _|refine zc ?_ _|refine zd ?_|refine bset' ?_ (by omega) _|refine zb ?_ (by assumption))) c26⟩) (first|(go_at_call 56;refine(HCALLN.out _ (HRQ.out.later (zb HB1.out (by(with_reducible repeat first|exact Below.refl _ _|refine zc ?_ _|refine zd ?_|refine bset' ?_ (by omega) _|refine zb ?_ (by assumption)))))).mono ?_;rintro e w2 ⟨rfl,hb2⟩;have z2:w1.heap.size≤w2.heap.size:=(show Below w1.heap.size w1 w2 by(with_reducible repeat first|exact Below.refl _ _|refine zc ?_ _|refine zd ?_|refine bset' ?_ (by omega) _|refine zb ?_ (by assumption))).size;(try(obtain⟨k0,k1,k2,k3,k4,k5,k6,k7⟩:w2.cell? ⟨w1.heap.size,0,none⟩=some (.bool false)∧w2.cell? ⟨w1.heap.size,1,none⟩=some (.int .i64 0)∧w2.cell? ⟨w1.heap.size,2,none⟩=some (.int .i64 0)∧w2.cell? ⟨w1.heap.size,3,none⟩=some (.int .i64 0)∧w2.frozen? ⟨w1.heap.size,0,none⟩=false∧w2.frozen? ⟨w1.heap.size,1,none⟩=false∧w2.frozen? ⟨w1.heap.size,2,none⟩=false∧w2.frozen? ⟨w1.heap.size,3,none⟩=false;(focus((refine⟨(hb2.cell (p:=⟨w1.heap.size,0,none⟩) ?_).trans ?_,(hb2.cell (p:=⟨w1.heap.size,1,none⟩) ?_).trans ?_,(hb2.cell (p:=⟨w1.heap.size,2,none⟩) ?_).trans ?_,(hb2.cell (p:=⟨w1.heap.size,3,none⟩) ?_).trans ?_,(hb2.frozen (p:=⟨w1.heap.size,0,none⟩) ?_).trans ?_,(hb2.frozen (p:=⟨w1.heap.size,1,none⟩) ?_).trans ?_,(hb2.frozen (p:=⟨w1.heap.size,2,none⟩) ?_).trans ?_,(hb2.frozen (p:=⟨w1.heap.size,3,none⟩) ?_).trans ?_⟩);(all_goals simp);(all_goals omega)))))))
 refine zbG (fun wz=>zG s p A p A w wz∧zdH wz w2.heap.size ⟨tw,tg,ts,tp⟩∧w.heap.size≤w2.heap.size) ⟨zG.same' HST.out (zb HB1.out (by(with_reducible repeat first|exact Below.refl _ _|refine zc ?_ _|refine zd ?_|refine bset' ?_ (by omega) _|refine zb ?_ (by assumption)))),⟨by simp,by simp,by simp,by simp⟩,Nat.le_trans HB1.out.size z2⟩ ?_;rintro w3 ⟨hsz,htz,hge⟩;generalize w2.heap.size=g at *
 rotate_left
 refine zbG (fun wz=>zG s p A p A w wz∧zdH wz w1.heap.size ⟨tw,tg,ts,tp⟩∧w.heap.size≤w1.heap.size) ⟨zG.same' HST.out (zb HB1.out (by(with_reducible repeat first|exact Below.refl _ _|refine zc ?_ _|refine zd ?_|refine bset' ?_ (by omega) _|refine zb ?_ (by assumption)))),set4c _ _ _ _ k0 k1 k2 k3 rfl,HB1.out.size⟩ ?_;rintro w3 ⟨hsz,htz,hge⟩;clear k0 k1 k2 k3 k4 k5 k6 k7;generalize hg:w1.heap.size=g at *;clear hg
 all_goals
  clear hb2 z2 c1 c21 c22 c23 c24 c25 c26 hl;have HSZ:=za hsz;have HTZ:=za htz;have HGE:=za hge;have g21:=hsz.at'.cell 21 _ rfl;rw[HQA.out,HN.out] at g21;have l3:=hsz.at'.lt;clear hsz htz hge;go_wp2_with fail;refine(HTAKE.out _ (by have:=HSZ.out.at'.mem.queue;rw[HQA.out] at this;exact this)).mono ?_;rintro e w4 ⟨a',c',rfl,hN,hb4⟩;have HN4:=za hN;have HS4:=za (HSZ.out.later hb4);have HT4:=za (HTZ.out.later hb4);clear hN hb4 g21 l3;go_wp2_with fail;refine zai (fun wK=>Below w4.heap.size w4 wK∧za3 wK w4.heap.size r) ⟨by(with_reducible repeat first|exact Below.refl _ _|refine zc ?_ _|refine zd ?_|refine bset' ?_ (by omega) _|refine zb ?_ (by assumption)),zb5 w4 111 r⟩ ?_;rintro w5 ⟨hb5,hbx5⟩;have HX5:=za hbx5;have HS5:=za (HS4.out.later hb5);have HT5:=za (HT4.out.later hb5);have HR5:=za (HN4.out.here.later hb5);have HAT5:Hid (∀x∈p.queue++p.dev.busy,x.At w5):=HS5.out.at'.mem.rAt;have HS:Hid ((fun wz:World=>wz.cell? ⟨s,1,none⟩=some (.pointer (some ⟨A.v,0,none⟩))∧za3 wz w4.heap.size r) w5.drew):=⟨HS5.out.at'.cell 1 _ rfl,hbx5⟩
  have eg:∀args w,Sem.run Tryz.prog (callFunc 58 args) w=.ok (.enter 58 args) w:=by intro args w;go_simp
  have HOFF:Hid (∀x∈p.queue++p.dev.busy,x.Off (A.off s)):=HST.out.mem.roffX;have HRO:Hid (r.Off (A.an.foot A.b)):=by
   have:=HOFF.out r (List.mem_append_left _ HLL.out.2.2);exact⟨fun he ad ha e=>this.1 he ad ha (Or.inl (Or.inr (Or.inl (Or.inr e)))),fun he ad ha e=>this.2 he ad ha (Or.inl (Or.inr (Or.inl (Or.inr e))))⟩
  clear hb5 hbx5;refine zaJ (S:=fun wz:World=>wz.cell? ⟨s,1,none⟩=some (.pointer (some ⟨A.v,0,none⟩))∧za3 wz w4.heap.size r) (d:=6) (by kernel_rfl) ?_;refine tk 0 ?_ rfl (Or.inl ⟨by rfl,?_⟩) HS.out ?_;rotate_left;(focus(intro w0 hSw;obtain⟨s6,s0,s1,s2,s3,s4,s5⟩:=hSw;go_simp;(try with_reducible rfl)));(try simp only[Act.put,dP])
  refine tk 1 ?_ rfl (Or.inl ⟨by rfl,?_⟩) HS.out ?_;rotate_left;(focus(intro w0 hSw;obtain⟨s6,s0,s1,s2,s3,s4,s5⟩:=hSw;go_simp;(try with_reducible rfl)));(try simp only[Act.put,dP])
  refine tk 2 ?_ rfl (Or.inl ⟨by rfl,?_⟩) HS.out ?_;rotate_left;(focus(intro w0 hSw;obtain⟨s6,s0,s1,s2,s3,s4,s5⟩:=hSw;go_simp;(try with_reducible rfl)));(try simp only[Act.put,dP])
  refine tk 3 ?_ rfl (Or.inl ⟨by rfl,?_⟩) HS.out ?_;rotate_left;(focus(intro w0 hSw;obtain⟨s6,s0,s1,s2,s3,s4,s5⟩:=hSw;go_simp;(try with_reducible rfl)));(try simp only[Act.put,dP])
  refine tk 4 ?_ rfl (Or.inl ⟨by rfl,?_⟩) HS.out ?_;rotate_left;(focus(intro w0 hSw;obtain⟨s6,s0,s1,s2,s3,s4,s5⟩:=hSw;go_simp;(try with_reducible rfl)));(try simp only[Act.put,dP])
  refine zw (i:=5) rfl (by kernel_rfl) ?_;intro K hK;refine zfh rfl 58 50 51 50 111 rfl eg (.pointer (some ⟨A.v,0,none⟩)) r.val rfl rfl (fun rr w'=>rr=.nilIface∧∃an',zbn A.v A.b A.bm p.dev A.an A.n A.D { p.dev with busy:=p.dev.busy++[r] } an' A.n A.D w5 w') ((zoQ A.v A.b A.bm p.dev A.an A.n A.D r w5.drew (HS5.out.at'.mem.drv.later (Below.refl _ _).drew) HB.out ((HAT5.out r (List.mem_append_left _ HLL.out.2.2)).later (Below.refl _ _).drew) HRO.out).mono (fun e w' ⟨an',he,hv⟩=>⟨_,he,rfl,an',(HS5.out.at'.mem.drv.step (zY.same HS5.out.at'.mem.drv.dev (Below.refl _ _).drew)).trans hv⟩)) ?_;rintro rr w6 ⟨rfl,an',hv6⟩;have HV6:=za hv6;clear hv6;have HFT:Hid (∀k,({ A with an:=an',n:=A.n,D:=A.D }:Sa).off s k→A.off s k∨w5.heap.size≤k):=zft HV6.out;have HS6:=za (HS5.out.trans (zv.step p.ag HS5.out.at'.mem.nb HS5.out.at' HV6.out HS5.out.at'.mem.map HS5.out.at'.mem.im (fun x hx=>by
   have hx':x∈p.queue++p.dev.busy:=by
    rcases List.mem_append.1 hx with h'|h'
    ·exact List.mem_append_right _ h'
    ·rw[List.mem_singleton.1 h'];exact List.mem_append_left _ HLL.out.2.2
   exact Rq.Off.step (HAT5.out x hx') (HOFF.out x hx') HFT.out)))
  have HX6:=za (HX5.out.only HV6.out.only (fun e=>by have:=HS4.out.at'.footLt _ (Or.inr (Or.inl e));omega));have HT6:=za (HT5.out.only HV6.out.only (fun e=>by have:=HST.out.footLt _ (Or.inr (Or.inl e));have:=HGE.out;omega));have HNEW:Hid (∀q',a'=some q'→w.heap.size≤q'.block∧q'.block<w5.heap.size):=by
   intro q' hq';have h1:=HN4.out.own.lt q'.block (by rw[hq'];rfl);have h2:=HSZ.out.only.size;have h3:w4.heap.size≤w5.heap.size:=by have:=zg HX5.out.1;omega
   omega
  have HR6':=za (zce HR5.out HV6.out.only (fun _ q' hq' e=>by have h1:=HNEW.out q' hq';have:=HST.out.footLt _ (Or.inr (Or.inl e));omega) (fun x hx=>by
   have:=HOFF.out x (List.mem_append_left _ (HLL.out.2.1 x hx));exact⟨fun he ad ha e=>this.1 he ad ha (Or.inl (Or.inr (Or.inl e))),fun he ad ha e=>this.2 he ad ha (Or.inl (Or.inr (Or.inl e)))⟩))
  have HFIN:=za (HS6.out.at'.setQT L a' c' ⟨tw,tg,ts,tp⟩ HR6'.out HN4.out.cap HN4.out.nil (fun _ q' hq' e=>by
   have h1:=HNEW.out q' hq'
   rcases HFT.out _ e with e'|e'
   ·have:=HST.out.offLt _ e';omega
   ·omega) (fun x hx=>Rq.Off.step (HAT5.out x (List.mem_append_left _ (HLL.out.2.1 x hx))) (HOFF.out x (List.mem_append_left _ (HLL.out.2.1 x hx))) HFT.out))
  refine hK _ _ (fun _=>⟨HS6.out.at'.cell 1 _ rfl,HX6.out⟩) ?_
  (try simp only[Act.put,dP])
  clear hK;refine zw (i:=6) rfl (by kernel_rfl) ?_;intro K hK;go_simp;refine hK _ _ (fun h=>absurd rfl h) ?_;(try simp only[Act.put,dP]);clear hK;refine zaO (by kernel_rfl) ?_ _;have y21:=HS6.out.at'.cell 21 _ rfl;have y22:=HS6.out.at'.cell 22 _ rfl;have y23:=HS6.out.at'.cell 23 _ rfl;have y24:=HS6.out.at'.cell 24 _ rfl;have y25:=HS6.out.at'.cell 25 _ rfl;have x21:=HS6.out.at'.fz 21;have x22:=HS6.out.at'.fz 22;have x23:=HS6.out.at'.fz 23;have x24:=HS6.out.at'.fz 24;have x25:=HS6.out.at'.fz 25;have l6:=HS6.out.at'.lt;obtain⟨t0,t1,t2,t3⟩:=HT6.out;have lg:=zg t0;have nsg:g ≠ s:=by have:=HST.out.lt;have:=HGE.out;omega
  have nsg':s ≠ g:=Ne.symm nsg;have HSQ:Hid (∀w',zG s { p with dev:={ p.dev with busy:=p.dev.busy++[r] },f:=p.f } { A with an:=an',n:=A.n,D:=A.D } ({ p with dev:={ p.dev with busy:=p.dev.busy++[r] },queue:=L,turn:=⟨tw,tg,ts,tp⟩ }:Sk) { A with an:=an',n:=A.n,D:=A.D,qa:=a',qc:=c' } w6 w'→SOk s p A w w' q):=fun w' h'=>⟨_,_,HS6.out.trans h',HQ.out⟩
  clear HS6 HX6 HT6 HR6' HV6 HS HAT5 HOFF HRO eg HFT HS5 HT5 HR5 HX5 HS4 HT4 HNEW HSZ HTZ HGE HTAKE HCALLN HQ;go_wp2_with fail
  go_region
  all_goals
   go_wp2;go_ret;exact⟨rfl,HSQ.out _ (HFIN.out.1.later (Below.refl _ _).drew)⟩
theorem zeg(s:Nat)(p:Sk)(A:Sa)(w:World)(h:zv s p A w)(hI:Inv p)(t:Bool)(q:Sk)(hq:p.nf.dispatch=(t,q)) :
  Calls Tryz.prog 25 #[.pointer (some ⟨s,0,none⟩)] w fun e w'=>e=.returned (.bool t)∧SOk s p A w w' q:=by
 by_cases he:p.queue=[]
 ·have e:p.nf.dispatch=(false,p.nf):=by
   unfold Sk.dispatch;exact if_pos (Or.inl (by show p.queue.map Rq.nf=[];rw[he];rfl))
  rw[e] at hq
  cases hq
  exact zi7 s p A w h he
 ·by_cases hf:2≤p.dev.busy.length
  ·have e:p.nf.dispatch=(false,p.nf):=by
    unfold Sk.dispatch;exact if_pos (Or.inr (by rw[show p.nf.dev.busy.length=p.dev.busy.length from List.length_map _];exact hf))
   rw[e] at hq
   cases hq
   exact zi5 s p A w h he hf
  ·have e1:p.nf.dispatch.1=true:=by
    unfold Sk.dispatch;rw[if_neg];rintro(e|e)
    ·exact he (List.map_eq_nil_iff.1 e)
    ·rw[show p.nf.dev.busy.length=p.dev.busy.length from List.length_map _] at e;omega
   rw[hq] at e1;obtain rfl:t=true:=e1;exact zkm s p A w h hI he (by omega) q (by rw[hq])
section
variable{s:Nat}{p:Sk}{A:Rs}{w:World}
theorem zH.setQ(h:zH s p A w)(L:List Rq)(a':Option Addr)(c':Nat)(hR:zs w a' L)(hcap:L.length≤c')(hnil:a'=none→c'=0)(ho:L ≠ []→∀q,a'=some q→¬A.off s q.block)(hro:∀r∈L,r.Off (A.off s)):zE s p A { p with queue:=L } { A with qa:=a',qc:=c' } w (w.setCell ⟨s,3,none⟩ (.slice a' L.length c')) :=
 h.put (p':={ p with queue:=L }) (A':={ A with qa:=a',qc:=c' }) (h.mem.setQueue L a' c' p.tags hR hcap hnil ho hro) 3 _ rfl (fun _ hk=>Or.inl hk) ⟨rfl,rfl,rfl,rfl⟩
theorem zH.setTurn(h:zH s p A w)(T:Tn):zE s p A { p with turn:=T } A w ((((w.setCell ⟨s,4,none⟩ (.bool T.w)).setCell ⟨s,5,none⟩ (.int .i64 T.g)).setCell ⟨s,6,none⟩ (.int .i64 T.s)).setCell ⟨s,7,none⟩ (.int .i64 T.p)):=by
 have hm:zbg s { p with turn:=T } A w:={ h.mem with }
 refine hm.puts ?_ ?_ (fun k hk=>Or.inl hk) (Or.inl rfl) ⟨rfl,rfl,rfl,rfl⟩
 ·exact((((zo.refl (fun k=>k=s) w).setCell _ (Or.inl rfl) _).setCell _ (Or.inl rfl) _).setCell _ (Or.inl rfl) _).setCell _ (Or.inl rfl) _
 ·rw[zK (zK (zK (zK h.blk _ _) _ _) _ _)]
  rfl
end
theorem zid(s:Nat)(p:Sk)(A:Rs)(w:World)(h:zH s p A w)(he:p.queue=[]):Calls Tryz.prog 26 #[.pointer (some ⟨s,0,none⟩)] w fun e w'=>e=.returned (.bool false)∧KOk 0 s p A w w' p.nf:=by
 have c3:=h.cell 3 _ rfl;rw[he] at c3;have hl:=h.lt;have HST:=za h;clear h;go_enter Tryz.func26,Tryz.ntmps26;go_wp2;go_ret;exact⟨rfl,p,A,zE.same' HST.out (Below.refl _ _),rfl,Nat.le_refl _⟩
theorem zhX(s:Nat)(p:Sk)(A:Rs)(w:World)(h:zH s p A w)(hq:p.queue ≠ [])(hf:p.dev.busy.length=2):Calls Tryz.prog 26 #[.pointer (some ⟨s,0,none⟩)] w fun e w'=>e=.returned (.bool false)∧KOk 0 s p A w w' p.nf:=by
 have c3:=h.cell 3 _ rfl;have c0:=h.cell 0 _ rfl;have c65:=h.mem.drv.dev.c65;rw[h.mem.busy,hf] at c65;have hbl:=h.mem.drv.dev.lt;have hl:=h.lt;have HST:=za h;have h0:¬p.queue.length=0:=fun e=>hq (List.eq_nil_of_length_eq_zero e)
 have h1:¬(p.queue.length:Int)=0:=by omega
 have h2:((p.queue.length:Int)==0)=false:=beq_eq_false_iff_ne.2 h1;clear h hq hf;generalize p.queue.length=n at *;go_enter Tryz.func26,Tryz.ntmps26;go_wp2;go_ret;exact⟨rfl,p,A,zE.same' HST.out (Below.refl _ _),rfl,Nat.le_refl _⟩
theorem zE.boxQ{s:Nat}{p p':Sk}{A A':Rs}{w wz w':World}{g:Nat}{r:Rq}(hs:zE s p A p' A' wz w')(h0:zH s p A w)(hg:w.heap.size≤g)(hc:zem wz g r):zem w' g r:=by
 have one:∀{j:Nat} {v:Value},wz.cell? ⟨g,j,none⟩=some v→w'.cell? ⟨g,j,none⟩=some v:=fun {j v} hc=>(hs.only.cell (p:=⟨g,j,none⟩) (zg hc) (fun e=>by have:=h0.footLt _ e;simp only at this;omega)).trans hc
 exact⟨one hc.1,one hc.2.1,one hc.2.2.1,one hc.2.2.2.1,one hc.2.2.2.2.1,one hc.2.2.2.2.2⟩
theorem zem.only{F:Nat→Prop}{w w':World}{g:Nat}{r:Rq}(hc:zem w g r)(hO:zo F w w')(hn:¬F g):zem w' g r:=by
 have one:∀{j:Nat} {v:Value},w.cell? ⟨g,j,none⟩=some v→w'.cell? ⟨g,j,none⟩=some v:=fun {j v} hc=>(hO.cell (p:=⟨g,j,none⟩) (zg hc) hn).trans hc
 exact⟨one hc.1,one hc.2.1,one hc.2.2.1,one hc.2.2.2.1,one hc.2.2.2.2.1,one hc.2.2.2.2.2⟩
theorem ziQ(s:Nat)(p:Sk)(A:Rs)(w:World)(h:zH s p A w)(hI:Inv p)(hne:p.queue ≠ [])(hb:p.dev.busy.length<2)(q:Sk)(hq:p.nf.dispatch.2=q):Calls Tryz.prog 26 #[.pointer (some ⟨s,0,none⟩)] w fun e w'=>e=.returned (.bool true)∧KOk 0 s p A w w' q:=by
 obtain⟨g,o,hqa⟩:=h.mem.queue.form.resolve_left hne;have hQ:=h.mem.queue;rw[hqa] at hQ;obtain⟨i,T,hi,hnx,hcall⟩:=zmW p.queue hI.goodsQ hne g o A.qc p.turn p.moment hI.mom.1 hI.mom.2 (by have:=hI.ts;unfold zaj;omega);rw[zhv hi hne hb hnx] at hq;obtain⟨r,hr⟩:∃r,p.queue[i]=r:=⟨_,rfl⟩
 have HR:Hid (p.queue[i]=r):=hr;have HQ:=za hq;have HCALL:=za hcall;have HQR:=za hQ;have HST:=za h;have hmem:r∈p.queue:=hr▸List.getElem_mem hi;have HRA:=za (And.intro (hQ.2.1 r hmem) (h.mem.roff r (List.mem_append_left _ hmem)));have h6:=hI.q6;have hcap:=h.mem.qcap;have c0:=h.cell 0 _ rfl;have c3:=h.cell 3 _ rfl;have c4:=h.cell 4 _ rfl;have c5:=h.cell 5 _ rfl;have c6:=h.cell 6 _ rfl;have c7:=h.cell 7 _ rfl;have c8:=h.cell 8 _ rfl;have c65:=h.mem.drv.dev.c65;rw[h.mem.busy] at c65;rw[hqa] at c3;have hbl:=h.mem.drv.dev.lt;have hl:=h.lt;have HQA:=za hqa;obtain⟨d0,d1,d2,d3,d4,d5⟩:=hQ.cells hi;rw[hr] at d0 d1 d2 d3 d4 d5;have lg:=zg d0;have HD:=za (And.intro d0 (And.intro d1 (And.intro d2 (And.intro d3 (And.intro d4 d5)))));have hn0:¬p.queue.length=0:=fun e=>hne (List.eq_nil_of_length_eq_zero e)
 have hn1:¬(p.queue.length:Int)=0:=by omega
 have hn2:((p.queue.length:Int)==0)=false:=beq_eq_false_iff_ne.2 hn1;have hb1:¬(p.dev.busy.length:Int)=2:=by omega
 have hb2:((p.dev.busy.length:Int)==2)=false:=beq_eq_false_iff_ne.2 hb1;have HB:=za hb;have hi0:(0:Int)≤(i:Int):=by omega
 have hi1:(i:Int)<(p.queue.length:Int):=by omega
 clear h hI hne hb hq hnx hcall hQ hr hmem hqa d0 d1 d2 d3 d4 d5;obtain⟨tw,tg,ts,tp⟩:=T;go_enter Tryz.func26,Tryz.ntmps26;go_upto_region 3 with fail
 go_cut[3,4] (fun s3 s4 wx=>∃Qt,s3=.int .i64 i∧s4=.pointer (some ⟨Qt,0,none⟩)∧zdH wx Qt ⟨tw,tg,ts,tp⟩∧w.heap.size≤Qt∧Below w.heap.size w wx)
 case first =>
  go_region_held3 (fun w'=>w'.cell? ⟨s,3,none⟩=some (.slice (some ⟨g,o,none⟩) p.queue.length A.qc)∧w'.cell? ⟨s,4,none⟩=some (.bool p.turn.w)∧w'.cell? ⟨s,5,none⟩=some (.int .i64 p.turn.g)∧w'.cell? ⟨s,6,none⟩=some (.int .i64 p.turn.s)∧w'.cell? ⟨s,7,none⟩=some (.int .i64 p.turn.p)∧w'.cell? ⟨s,8,none⟩=some (.int .i64 p.moment)) (exact⟨cellB_later' (w:=w) (by(with_reducible repeat first|exact Below.refl _ _|refine zc ?_ _|refine zd ?_|refine bset' ?_ (by omega) _|refine zb ?_ (by assumption))) c3,cellB_later' (w:=w) (by(with_reducible repeat first|exact Below.refl _ _|refine zc ?_ _|refine zd ?_|refine bset' ?_ (by omega) _|refine zb ?_ (by assumption))) c4,cellB_later' (w:=w) (by(with_reducible repeat first|exact Below.refl _ _|refine zc ?_ _|refine zd ?_|refine bset' ?_ (by omega) _|refine zb ?_ (by assumption))) c5,cellB_later' (w:=w) (by(with_reducible repeat first|exact Below.refl _ _|refine zc ?_ _|refine zd ?_|refine bset' ?_ (by omega) _|refine zb ?_ (by assumption))) c6,cellB_later' (w:=w) (by(with_reducible repeat first|exact Below.refl _ _|refine zc ?_ _|refine zd ?_|refine bset' ?_ (by omega) _|refine zb ?_ (by assumption))) c7,cellB_later' (w:=w) (by(with_reducible repeat first|exact Below.refl _ _|refine zc ?_ _|refine zd ?_|refine bset' ?_ (by omega) _|refine zb ?_ (by assumption))) c8⟩) (first|(go_at_call 59;refine(HCALL.out _ (HQR.out.later (by(with_reducible repeat first|exact Below.refl _ _|refine zc ?_ _|refine zd ?_|refine bset' ?_ (by omega) _|refine zb ?_ (by assumption))))).mono ?_;rintro e w1 ⟨rfl,hb1'⟩;have z1:w.heap.size≤w1.heap.size:=(show Below w.heap.size w w1 by(with_reducible repeat first|exact Below.refl _ _|refine zc ?_ _|refine zd ?_|refine bset' ?_ (by omega) _|refine zb ?_ (by assumption))).size;(try(obtain⟨m0,m1,m2,m3,m4,m5,m6,m7⟩:w1.cell? ⟨w.heap.size,0,none⟩=some (.bool false)∧w1.cell? ⟨w.heap.size,1,none⟩=some (.int .i64 0)∧w1.cell? ⟨w.heap.size,2,none⟩=some (.int .i64 0)∧w1.cell? ⟨w.heap.size,3,none⟩=some (.int .i64 0)∧w1.frozen? ⟨w.heap.size,0,none⟩=false∧w1.frozen? ⟨w.heap.size,1,none⟩=false∧w1.frozen? ⟨w.heap.size,2,none⟩=false∧w1.frozen? ⟨w.heap.size,3,none⟩=false;(focus((refine⟨(hb1'.cell (p:=⟨w.heap.size,0,none⟩) ?_).trans ?_,(hb1'.cell (p:=⟨w.heap.size,1,none⟩) ?_).trans ?_,(hb1'.cell (p:=⟨w.heap.size,2,none⟩) ?_).trans ?_,(hb1'.cell (p:=⟨w.heap.size,3,none⟩) ?_).trans ?_,(hb1'.frozen (p:=⟨w.heap.size,0,none⟩) ?_).trans ?_,(hb1'.frozen (p:=⟨w.heap.size,1,none⟩) ?_).trans ?_,(hb1'.frozen (p:=⟨w.heap.size,2,none⟩) ?_).trans ?_,(hb1'.frozen (p:=⟨w.heap.size,3,none⟩) ?_).trans ?_⟩);(all_goals simp);(all_goals omega)))))))
  all_goals
   go_wp2
   go_meet
   case rel=>first|exact⟨_,rfl,rfl,⟨by simp,by simp,by simp,by simp⟩,z1,by(with_reducible repeat first|exact Below.refl _ _|refine zc ?_ _|refine zd ?_|refine bset' ?_ (by omega) _|refine zb ?_ (by assumption))⟩|exact⟨_,rfl,rfl,set4c _ _ _ _ m0 m1 m2 m3 rfl,Nat.le_refl _,by(with_reducible repeat first|exact Below.refl _ _|refine zc ?_ _|refine zd ?_|refine bset' ?_ (by omega) _|refine zb ?_ (by assumption))⟩
 case rest =>
  obtain⟨Qt,rfl,rfl,hta,hqt,hbc⟩:=hcut;have HSc:=za (zE.same' HST.out hbc);have c3c:=cellB_later' hbc c3;obtain⟨e0,e1,e2,e3,e4,e5⟩:=HD.out;have e0:=cellB_later' hbc e0;have e1:=cellB_later' hbc e1;have e2:=cellB_later' hbc e2;have e3:=cellB_later' hbc e3;have e4:=cellB_later' hbc e4;have e5:=cellB_later' hbc e5;have lc:=HSc.out.at'.lt;have lgc:=zg e0;have hwc:=hbc.size;have HTA:=za hta;have HBC:=za hbc;clear c0 c3 c4 c5 c6 c7 c8 c65 hta hbc;go_wp2_with fail;have HBXr:Hid (zem (wc.alloc (.cells #[.bool r.wr,.int .i64 r.f,.int .i64 r.m,.slice r.da r.data.length r.dc,.slice r.ta r.tags.length r.tc,.int .i64 r.born] 111)) wc.heap.size r):=⟨by simp,by simp,by simp,by simp,by simp,by simp⟩
  refine(zdF p.queue g o A.qc i _ (HQR.out.later (by have hbc:=HBC.out;(with_reducible repeat first|exact Below.refl _ _|refine zc ?_ _|refine zd ?_|refine bset' ?_ (by omega) _|refine zb ?_ (by assumption)))) (by omega) hcap hi).mono ?_;rintro e w3 ⟨a',c',rfl,hN,hb3⟩;have hsw:wc.heap.size<(wc.alloc (.cells #[.bool r.wr,.int .i64 r.f,.int .i64 r.m,.slice r.da r.data.length r.dc,.slice r.ta r.tags.length r.tc,.int .i64 r.born] 111)).heap.size:=by simp
  have HS3:=za (HSc.out.later (zb (zn wc _) hb3));have HBX3:=za (HBXr.out.later hb3);have HTA3:=za ((HTA.out.later (zn wc _)).later hb3);have HSQ:=za (HS3.out.at'.setQ (p.queue.eraseIdx i) a' c' hN.here hN.cap hN.nil (fun _ q' hq' e=>by have h9:=hN.new q' hq';have h8:=HST.out.offLt _ e;omega) (fun x hx=>HST.out.mem.roff x (List.mem_append_left _ (List.mem_of_mem_eraseIdx hx))));have HSQT:=za (HSQ.out.trans (HSQ.out.at'.setTurn ⟨tw,tg,ts,tp⟩));obtain⟨t0,t1,t2,t3⟩:=id HTA3.out;have y3:=HS3.out.at'.cell 3 _ rfl;have y4:=HS3.out.at'.cell 4 _ rfl;have y5:=HS3.out.at'.cell 5 _ rfl;have y6:=HS3.out.at'.cell 6 _ rfl;have y7:=HS3.out.at'.cell 7 _ rfl;have x3:=HS3.out.at'.fz 3;have x4:=HS3.out.at'.fz 4;have x5:=HS3.out.at'.fz 5;have x6:=HS3.out.at'.fz 6;have x7:=HS3.out.at'.fz 7;have l3:=HS3.out.at'.lt;have hqs:Qt ≠ s:=by omega
  have hqs':s ≠ Qt:=by omega
  clear hb3 hN e0 e1 e2 e3 e4 e5 c3c;go_upto_region 7 with fail;refine zai (fun wv=>zE s p A { p with queue:=p.queue.eraseIdx i,turn:=⟨tw,tg,ts,tp⟩ } { A with qa:=a',qc:=c' } w wv∧zem wv wc.heap.size r) ⟨HS3.out.trans HSQT.out,HSQT.out.boxQ HST.out hwc HBX3.out⟩ ?_;rintro wv ⟨hsv,hqb⟩;have HSV:=za hsv;have HQB:=za hqb;have c0v:=hsv.at'.cell 0 _ rfl;have lv:=hsv.at'.lt;have HAT:Hid (r.At wv):=HRA.out.1.frame (F:=A.foot s) ⟨fun he ad ha e=>HRA.out.2.1 he ad ha (Or.inl e),fun he ad ha e=>HRA.out.2.2 he ad ha (Or.inl e)⟩ hsv.only;have HOF:Hid (r.Off (A.ra.foot A.b)):=⟨fun he ad ha e=>HRA.out.2.1 he ad ha (Or.inl (Or.inr (Or.inl (Or.inr e)))),fun he ad ha e=>HRA.out.2.2 he ad ha (Or.inl (Or.inr (Or.inl (Or.inr e))))⟩
  have HBL:Hid (A.m.busy.length<2):=by show _<_;rw[HST.out.mem.busy];exact HB.out
  clear hsv hqb t0 t1 t2 t3 y3 y4 y5 y6 y7 x3 x4 x5 x6 x7
  go_region_held3 (fun w'=>w'.cell? ⟨s,0,none⟩=some (.pointer (some ⟨A.b,0,none⟩))∧w'.cell? ⟨wc.heap.size,0,none⟩=some (.bool r.wr)∧w'.cell? ⟨wc.heap.size,1,none⟩=some (.int .i64 r.f)∧w'.cell? ⟨wc.heap.size,2,none⟩=some (.int .i64 r.m)∧w'.cell? ⟨wc.heap.size,3,none⟩=some (.slice r.da r.data.length r.dc)∧w'.cell? ⟨wc.heap.size,4,none⟩=some (.slice r.ta r.tags.length r.tc)∧w'.cell? ⟨wc.heap.size,5,none⟩=some (.int .i64 r.born)) (first|exact⟨cellB_later' (w:=wv) (Below.refl _ _) c0v,HQB.out.later (Below.refl _ _)⟩|exact⟨cellB_later' (w:=wv) (Below.refl _ _).drew c0v,HQB.out.later (Below.refl _ _).drew⟩|exact⟨by assumption,by assumption,by assumption,by assumption,by assumption,by assumption,by assumption⟩) (first|(go_at_call 61;refine(zjA A.b A.m A.ra r _ (HSV.out.at'.mem.drv.dev.later (by(with_reducible repeat first|exact Below.refl _ _|refine zc ?_ _|refine zd ?_|refine bset' ?_ (by omega) _|refine zb ?_ (by assumption)))) HBL.out (HAT.out.later (by(with_reducible repeat first|exact Below.refl _ _|refine zc ?_ _|refine zd ?_|refine bset' ?_ (by omega) _|refine zb ?_ (by assumption)))) HOF.out).mono ?_;rintro e w5 ⟨ra',rfl,hwa,hst⟩;have yy:=(hst.only.cell (p:=⟨s,0,none⟩) lv (fun e=>HST.out.mem.sv.1 (Or.inr e))).trans c0v;obtain⟨yy0,yy1,yy2,yy3,yy4,yy5⟩  :=zem.only (w:=wv.drew) HQB.out hst.only (fun e=>by have h9:=HST.out.mem.drv.dev.footLt _ e;omega)))
  all_goals
   have HD5:=za (HSV.out.later (by first|exact(Below.refl _ _).drew|exact Below.refl _ _));have HX5:Hid (KOk 0 s p A w w5 q):=by
    have H:=HD5.out.at';refine⟨_,_,HD5.out.trans (zH.step (d':={ p.dev with busy:=p.dev.busy++[r] }) (f':=p.f) p.ag A.cnt H (H.mem.drv.step hst) (H.mem.tied.busy _ _) (by show A.m.busy++[r]=p.dev.busy++[r];rw[HST.out.mem.busy]) H.mem.nb H.mem.wb H.mem.map H.mem.im ?_),by rw[←HQ.out,HR.out,List.eraseIdx_eq_take_drop_succ],Nat.le_refl _⟩;intro x hx;have hx':x∈p.dev.busy++[r]:=hx;have hF:=(H.mem.drv.step hst).foot;have hat:x.At wv.drew∧x.Off (A.off s):=by
     rcases List.mem_append.1 hx' with h'|h'
     ·exact⟨H.mem.drv.dev.lrow.2.1 x (by rw[HST.out.mem.busy];exact h'),HST.out.mem.roff x (List.mem_append_right _ h')⟩
     ·rw[List.mem_singleton.1 h'];exact⟨HAT.out.later (Below.refl _ _).drew,HRA.out.2⟩
    refine Rq.Off.step hat.1 hat.2 ?_;rintro k ((e|e|e)|e)
    ·exact Or.inl (Or.inl (Or.inl e))
    ·exact(hF k e).imp (fun e=>Or.inl (Or.inr (Or.inl e))) id
    ·exact Or.inl (Or.inl (Or.inr (Or.inr e)))
    ·exact Or.inl (Or.inr e)
   clear hst;go_wp2;go_ret;exact⟨rfl,HX5.out⟩
theorem zdT(s:Nat)(p:Sk)(A:Rs)(w:World)(h:zH s p A w)(hI:Inv p)(t:Bool)(q:Sk)(hq:p.nf.dispatch=(t,q)) :
  Calls Tryz.prog 26 #[.pointer (some ⟨s,0,none⟩)] w fun e w'=>e=.returned (.bool t)∧KOk 0 s p A w w' q:=by
 by_cases he:p.queue=[]
 ·have e:p.nf.dispatch=(false,p.nf):=by
   unfold Sk.dispatch;exact if_pos (Or.inl (by show p.queue.map Rq.nf=[];rw[he];rfl))
  rw[e] at hq
  cases hq
  exact zid s p A w h he
 ·by_cases hf:2≤p.dev.busy.length
  ·have e:p.nf.dispatch=(false,p.nf):=by
    unfold Sk.dispatch;exact if_pos (Or.inr (by rw[show p.nf.dev.busy.length=p.dev.busy.length from List.length_map _];exact hf))
   rw[e] at hq
   cases hq
   exact zhX s p A w h he (by have:=hI.b2;omega)
  ·have e1:p.nf.dispatch.1=true:=by
    unfold Sk.dispatch;rw[if_neg];rintro(e|e)
    ·exact he (List.map_eq_nil_iff.1 e)
    ·rw[show p.nf.dev.busy.length=p.dev.busy.length from List.length_map _] at e;omega
   rw[hq] at e1;obtain rfl:t=true:=e1;exact ziQ s p A w h hI he (by omega) q (by rw[hq])
end Go.Proofs.YtlhgjplipgandaaGreat
