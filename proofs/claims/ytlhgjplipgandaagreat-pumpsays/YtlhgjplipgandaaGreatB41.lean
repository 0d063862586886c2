/- Joined texts: RLaw1. -/
import Derived.Test.YtlhgjplipgandaaGreatB40
set_option maxRecDepth 100000
set_option maxHeartbeats 8000000
set_option linter.unusedSimpArgs false
namespace Go.Proofs.YtlhgjplipgandaaGreat
open Go.RowKit Go.BigFrame Go.Maps
attribute [local go_sem] ze.cell ze.frozen
structure zeL(W:World)(s k n:Nat)(q1 q2:Sk)(p p2:Sk)(A:Sa)(B:Rs)(w:World):Prop where
 both:zc1 s k p p2 A B w
 n1:p.nf=q1
 n2:p2.nf=q2
 cnt:10*B.cnt≤n
 f1:Fit n q1
 f2:za7 n q2
 left:zp q2
 got:zI q2
 w1:∀j,A.foot s j→W.heap.size≤j
 w2:∀j,B.foot k j→W.heap.size≤j
 bel:Below W.heap.size W w
def Pr(W:World)(s k n:Nat)(q:Sk)(w:World):Prop:=∃p p2 A B,zeL W s k n q q p p2 A B w
section
variable{W:World}{s k n m c:Nat}{q1 q2 q3:Sk}{p p2 p':Sk}{A A':Sa}{B B':Rs}{w w':World}
theorem zeL.later(h:zeL W s k n q1 q2 p p2 A B w)(hb:Below w.heap.size w w'):zeL W s k n q1 q2 p p2 A B w':=⟨h.both.later hb,h.n1,h.n2,h.cnt,h.f1,h.f2,h.left,h.got,h.w1,h.w2,zb h.bel hb⟩
theorem zeL.code(h:zeL W s k n q1 q2 p p2 A B w)(hs:zG s p A p' A' w w')(hn:p'.nf=q3)(hf:Fit m q3)(hm:n≤m):zeL W s k m q3 q2 p' p2 A' { B with X:=A'.foot s } w' :=
 ⟨h.both.code hs,hn,h.n2,Nat.le_trans h.cnt hm,hf,zcp h.f2 hm,h.left,h.got,fun j hj=>(hs.foot j hj).elim (h.w1 j) (fun e=>Nat.le_trans h.bel.size e),h.w2,h.bel.trans (hs.only.below h.bel.size h.w1)⟩
theorem zeL.ref(h:zeL W s k n q1 q2 p p2 A B w)(hs:zE k p2 B p' B' w w')(hn:p'.nf=q3)(hc:10*B'.cnt≤m)(hf:za7 m q3)(hm:n≤m)(hl:zp q3)(hg:zI q3):zeL W s k m q1 q3 p p' { A with X:=B'.foot k } B' w' :=
 ⟨h.both.ref hs,h.n1,hn,hc,h.f1.mono hm,hf,hl,hg,h.w1,fun j hj=>(hs.foot j hj).elim (h.w2 j) (fun e=>Nat.le_trans h.bel.size e),h.bel.trans (hs.only.below h.bel.size h.w2)⟩
theorem Pr.later{q:Sk}(h:Pr W s k n q w)(hb:Below w.heap.size w w'):Pr W s k n q w':=by
 obtain⟨p,p2,A,B,h⟩:=h;exact⟨p,p2,A,B,h.later hb⟩
theorem Pr.bel{q:Sk}(h:Pr W s k n q w):Below W.heap.size W w:=by
 obtain⟨p,p2,A,B,h⟩:=h;exact h.bel
end
theorem zd8(p:Sk)(i:Nat):p.nf.client i=p.client i:=rfl
theorem zdk(n:Int)(w:World)(h0:0≤n):Calls Tryz.prog 17 #[zae n,.int .i64 n] w fun e w'=>e=.returned (.bool true)∧Below w.heap.size w w':=by
 by_cases h:n=0
 ·subst h;exact zq6 0 w
 ·rw[show zae n=.iface 88 (.int .i64 n) by unfold zae;rw[if_neg h]];have:=zrF n n w;rw[show(decide (0<n)&&(n==n))=true by rw[decide_eq_true (by omega)];simp] at this;exact this
theorem zmc(s k:Nat)(q:Sk)(p p2:Sk)(A:Sa)(B:Rs)(w:World)(h:zc1 s k p p2 A B w)(h1:p.nf=q)(h2:p2.nf=q)(hI:Inv q)(hG:zI q) :
  Calls Tryz.prog 11 #[.pointer (some ⟨s,0,none⟩),.pointer (some ⟨k,0,none⟩)] w fun e w'=>e=.returned (.bool true)∧Below w.heap.size w w':=by
 have HB:=za h;have HC:Hid (∀i,p.client i=p2.client i):=fun i=>by rw[←zd8 p,←zd8 p2,h1,h2]
 have HW:Hid (∀i:Nat,i<3→∀t,(¬(p2.client i).kind=0↔t=true)→p.waits (i:Int)=t):=fun i hi t ht=>by
  have e:p.client i=p2.client i:=by rw[←zd8 p,←zd8 p2,h1,h2]
  cases hw:p.waits (i:Int)
  ·cases t
   ·rfl
   ·exact absurd ((zeG p i hi).1 hw) (by rw[e];exact ht.2 rfl)
  ·cases t
   ·exact absurd (ht.1 (by rw[←e];exact(zeV p i hi).1 hw)) (by decide)
   ·rfl
 have HGO:Hid (∀i,ze3 (p2.client i)):=fun i=>by rw[←zd8 p2,h2];exact hG.client i
 have HQS:Hid (zks p.queue p2.queue):=zkz (by show p.nf.queue=p2.nf.queue;rw[h1,h2]);have HBS:Hid (zks p.dev.busy p2.dev.busy):=zkz (by show p.nf.dev.busy=p2.nf.dev.busy;rw[h1,h2]);obtain⟨dn,hdn⟩:∃dn,zN p2.hand=dn:=⟨_,rfl⟩
 have HD1:Hid (zN p.hand=dn):=by show zN p.nf.hand=dn;rw[h1,←h2];exact hdn
 have HD2:Hid (zbA p2.hand p2.hand.length=dn):=(zeo p2.hand).trans hdn;obtain⟨dd,hdd⟩:∃dd,p2.dead=dd:=⟨_,rfl⟩
 have HDD:Hid (p.dead=dd):=by show p.nf.dead=dd;rw[h1,←h2];exact hdd
 have HQ6:Hid (p.queue.length≤1000):=by
  have:=hI.q6;rw[←h1] at this;have e:p.nf.queue.length=p.queue.length:=List.length_map _;show _≤_;omega
 have lk:=h.two.lt;have ls:=h.one.lt;clear h h1 h2 hI hG hdn;go_enter Tryz.func11,Tryz.ntmps11;go_wp2
 go_loopw[5] (fun x wr=>∃j:Nat,j≤3∧x=.int .i64 j∧Below w.heap.size w wr) (fun x _=>3-(intOf x).toNat)
 case atStart=>exact⟨0,by omega,rfl,Below.refl _ _⟩
 case round =>
  obtain⟨j,hj,rfl,hbr⟩:=hrel;have HBR:=za hbr;have HBr:=za (HB.out.later hbr);have lr:=HBr.out.two.lt;clear hbr
  by_cases hj3:j<3
  ·as_aux_lemma =>
   have hj0:(0:Int)≤(j:Int):=by omega
   have hj3':(j:Int)<3:=by omega
   have c11:=(HBr.out.two.c11 hj3).1;unfold zdv at c11;obtain⟨t,ht⟩:∃t:Bool,(¬(p2.client j).kind=0↔t=true)∧((t=false∧wr.cell? ⟨k,11+j,none⟩=some (.pointer none))∨(t=true∧∃a,wr.cell? ⟨k,11+j,none⟩=some (.pointer (some ⟨a,0,none⟩)))):=by
    cases hka:B.ka j with
    |none=>rw[hka] at c11;exact⟨false,⟨fun e=>absurd (HBr.out.two.mem.idle j hj3 hka) e,fun e=>(by cases e)⟩,Or.inl ⟨rfl,c11⟩⟩
    |some a=>rw[hka] at c11;exact⟨true,⟨fun _=>rfl,fun _=>(HBr.out.two.mem.asks j hj3 a hka).kind⟩,Or.inr ⟨rfl,a,c11⟩⟩
   have HT:=za (HW.out j hj3 t ht.1);obtain⟨hc0,hcc⟩:=ht;clear hc0 c11;go_upto_region 4 with fail
   go_cut[24] (fun sv wx=>sv=.bool false∧Below wr.heap.size wr wx)
   case first =>
    as_aux_lemma =>
    rcases hcc with⟨rfl,hcc⟩|⟨rfl,a,hcc⟩
    ·go_region_held3 (fun w'=>w'.cell? ⟨k,11+j,none⟩=some (.pointer none)) (exact cellB_later' (w:=wr) (by(with_reducible repeat first|exact Below.refl _ _|refine zc ?_ _|refine zd ?_|refine bset' ?_ (by omega) _|refine zb ?_ (by assumption))) hcc) (first|(go_at_call 33;refine(zcT s p A j _ (HBr.out.one.later (by(with_reducible repeat first|exact Below.refl _ _|refine zc ?_ _|refine zd ?_|refine bset' ?_ (by omega) _|refine zb ?_ (by assumption)))) false HT.out).mono ?_;rintro e w4 ⟨rfl,rfl⟩))
     all_goals
      go_wp2
      go_meet
      case rel=>exact⟨rfl,by(with_reducible repeat first|exact Below.refl _ _|refine zc ?_ _|refine zd ?_|refine bset' ?_ (by omega) _|refine zb ?_ (by assumption))⟩
    ·go_region_held3 (fun w'=>w'.cell? ⟨k,11+j,none⟩=some (.pointer (some ⟨a,0,none⟩))) (exact cellB_later' (w:=wr) (by(with_reducible repeat first|exact Below.refl _ _|refine zc ?_ _|refine zd ?_|refine bset' ?_ (by omega) _|refine zb ?_ (by assumption))) hcc) (first|(go_at_call 33;refine(zcT s p A j _ (HBr.out.one.later (by(with_reducible repeat first|exact Below.refl _ _|refine zc ?_ _|refine zd ?_|refine bset' ?_ (by omega) _|refine zb ?_ (by assumption)))) true HT.out).mono ?_;rintro e w4 ⟨rfl,rfl⟩))
     all_goals
      go_wp2
      go_meet
      case rel=>exact⟨rfl,by(with_reducible repeat first|exact Below.refl _ _|refine zc ?_ _|refine zd ?_|refine bset' ?_ (by omega) _|refine zb ?_ (by assumption))⟩
   case rest =>
    obtain⟨rfl,hbc⟩:=hcut;have HBc:=za (HBr.out.later hbc);have HBRC:=za (zb HBR.out hbc);clear hbc HBr HBR HT hcc lr;go_wp2_with fail;refine(zpe s p A j hj3 _ HBc.out.one).mono ?_;rw[HC.out j];obtain⟨g,hg⟩:∃g,(p2.client j).got=g:=⟨_,rfl⟩
    obtain⟨er,her⟩:∃er,(p2.client j).err=er:=⟨_,rfl⟩
    have HER:Hid (0≤er):=by
     show 0≤er;rw[←her]
     rcases HGO.out j with e|e
     ·omega
     ·have:=e.1;omega
    have HSM:Hid (∀w',Calls Tryz.prog 17 #[zae er,.int .i64 er] w' fun e w2=>e=.returned (.bool true)∧Below w'.heap.size w' w2):=fun w'=>zdk er w' HER.out
    have HRG:Hid (∀w',zH k p2 B w'→Calls Tryz.prog 34 #[.pointer (some ⟨k,0,none⟩),.int .i64 j] w' fun e w2=>e=.returned (.tuple #[.string g,.int .i64 er])∧Below w'.heap.size w' w2):=fun w' h'=>by
     have:=zqQ k p2 B w' h' j hj3 (HGO.out j);rw[hg,her] at this;exact this
    rw[hg,her];clear hg her;generalize zae er=ev at *;rintro e w5 ⟨rfl,hb5⟩;have HB5:=za (HBc.out.later hb5);have HBR5:=za (zb HBRC.out hb5);clear hb5 HBc HBRC;go_wp2_with fail;refine(HRG.out _ HB5.out.two).mono ?_;rintro e w6 ⟨rfl,hb6⟩;have HBR6:=za (zb HBR5.out hb6);clear hb6 HB5 HBR5 HRG;go_wp2_with fail;refine(HSM.out _).mono ?_;rintro e w7 ⟨rfl,hb7⟩;have HBR7:=za (zb HBR6.out hb7);clear hb7 HBR6 HSM;go_wp2;go_roundw
    case rel=>exact⟨j+1,by omega,by go_num,HBR7.out⟩
    case measure=>simp[intOf];omega
  ·as_aux_lemma =>
   have c0:=HBr.out.two.cell 0 _ rfl;have c2:=HBr.out.two.cell 2 _ rfl;have c3:=HBr.out.two.cell 3 _ rfl;have c20:=HBr.out.two.cell 20 _ rfl;have c65:=HBr.out.two.mem.drv.dev.c65;rw[HBr.out.two.mem.busy] at c65;rw[hdd] at c20;have hbl:=HBr.out.two.mem.drv.dev.lt;have HHN:=za HBr.out.two.mem.hand;have HQN:=za HBr.out.two.mem.queue;have HLN:=za HBr.out.two.mem.drv.dev.lrow;rw[HBr.out.two.mem.busy] at HLN;have hddq:(dd==dd)=true:=by simp
   have hdnq:((dn:Int)==(dn:Int))=true:=by simp
   clear hdd;go_upto_region 10 with fail
   go_cut[4] (fun sv wx=>sv=.bool true∧Below wr.heap.size wr wx)
   case first =>
    as_aux_lemma =>
    go_region_held3 (fun w'=>w'.cell? ⟨k,0,none⟩=some (.pointer (some ⟨B.b,0,none⟩))∧w'.cell? ⟨k,2,none⟩=some (.slice B.ha p2.hand.length B.hc)∧w'.cell? ⟨k,3,none⟩=some (.slice B.qa p2.queue.length B.qc)∧w'.cell? ⟨k,20,none⟩=some (.bool dd)∧w'.cell? ⟨B.b,65,none⟩=some (.slice B.ra.la p2.dev.busy.length B.ra.lc)) (exact⟨cellB_later' (w:=wr) (by(with_reducible repeat first|exact Below.refl _ _|refine zc ?_ _|refine zd ?_|refine bset' ?_ (by omega) _|refine zb ?_ (by assumption))) c0,cellB_later' (w:=wr) (by(with_reducible repeat first|exact Below.refl _ _|refine zc ?_ _|refine zd ?_|refine bset' ?_ (by omega) _|refine zb ?_ (by assumption))) c2,cellB_later' (w:=wr) (by(with_reducible repeat first|exact Below.refl _ _|refine zc ?_ _|refine zd ?_|refine bset' ?_ (by omega) _|refine zb ?_ (by assumption))) c3,cellB_later' (w:=wr) (by(with_reducible repeat first|exact Below.refl _ _|refine zc ?_ _|refine zd ?_|refine bset' ?_ (by omega) _|refine zb ?_ (by assumption))) c20,cellB_later' (w:=wr) (by(with_reducible repeat first|exact Below.refl _ _|refine zc ?_ _|refine zd ?_|refine bset' ?_ (by omega) _|refine zb ?_ (by assumption))) c65⟩) (first
     |(go_at_call 18;refine(zb9 s p A _ (HBr.out.one.later (by(with_reducible repeat first|exact Below.refl _ _|refine zc ?_ _|refine zd ?_|refine bset' ?_ (by omega) _|refine zb ?_ (by assumption)))) dn HD1.out).mono ?_;rintro e w4 ⟨rfl,hb4⟩)
     |(go_at_call 35;refine(ziy p2.hand B.ha B.hc _ (HHN.out.later (by(with_reducible repeat first|exact Below.refl _ _|refine zc ?_ _|refine zd ?_|refine bset' ?_ (by omega) _|refine zb ?_ (by assumption)))) dn HD2.out).mono ?_;rintro e w5 ⟨rfl,hb5⟩)
     |(go_at_call 36;refine(zrj s p A _ (HBr.out.one.later (by(with_reducible repeat first|exact Below.refl _ _|refine zc ?_ _|refine zd ?_|refine bset' ?_ (by omega) _|refine zb ?_ (by assumption))))).mono ?_;rw[HDD.out];rintro e w6 ⟨rfl,rfl⟩)
     |(go_at_call 38;refine(zf2 s p A _ (HBr.out.one.later (by(with_reducible repeat first|exact Below.refl _ _|refine zc ?_ _|refine zd ?_|refine bset' ?_ (by omega) _|refine zb ?_ (by assumption)))) HQ6.out).mono ?_;rintro e w7 ⟨a7,c7,rfl,hr7,-,hb7⟩)
     |(go_at_call 39;refine(zgF s p A _ (HBr.out.one.later (by(with_reducible repeat first|exact Below.refl _ _|refine zc ?_ _|refine zd ?_|refine bset' ?_ (by omega) _|refine zb ?_ (by assumption))))).mono ?_;rintro e w8 ⟨a8,c8,rfl,hr8,-,hb8⟩)
     |(go_at_call 37;refine(zjK p.dev.busy p2.dev.busy _ B.ra.la _ B.ra.lc _ (hr8.later (by(with_reducible repeat first|exact Below.refl _ _|refine zc ?_ _|refine zd ?_|refine bset' ?_ (by omega) _|refine zb ?_ (by assumption)))) (HLN.out.later (by(with_reducible repeat first|exact Below.refl _ _|refine zc ?_ _|refine zd ?_|refine bset' ?_ (by omega) _|refine zb ?_ (by assumption)))) HBS.out).mono ?_;rintro e w10 ⟨rfl,hb10⟩)
     |(go_at_call 37;refine(zjK p.queue p2.queue _ B.qa _ B.qc _ (hr7.later (by(with_reducible repeat first|exact Below.refl _ _|refine zc ?_ _|refine zd ?_|refine bset' ?_ (by omega) _|refine zb ?_ (by assumption)))) (HQN.out.later (by(with_reducible repeat first|exact Below.refl _ _|refine zc ?_ _|refine zd ?_|refine bset' ?_ (by omega) _|refine zb ?_ (by assumption)))) HQS.out).mono ?_;rintro e w9 ⟨rfl,hb9⟩))
    all_goals
     go_wp2
     go_meet
     case rel=>exact⟨rfl,by(with_reducible repeat first|exact Below.refl _ _|refine zc ?_ _|refine zd ?_|refine bset' ?_ (by omega) _|refine zb ?_ (by assumption))⟩
   case rest =>
    obtain⟨rfl,hbc⟩:=hcut;have HBRC:=za (zb HBR.out hbc);clear hbc;go_wp2;go_ret;exact⟨rfl,HBRC.out⟩
end Go.Proofs.YtlhgjplipgandaaGreat
