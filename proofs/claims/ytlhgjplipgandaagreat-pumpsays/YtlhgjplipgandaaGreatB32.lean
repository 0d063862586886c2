/- Joined texts: Stk12. -/
import Derived.Test.YtlhgjplipgandaaGreatB31
set_option maxRecDepth 100000
set_option maxHeartbeats 8000000
set_option linter.unusedSimpArgs false
namespace Go.Proofs.YtlhgjplipgandaaGreat
open Go.RowKit Go.BigFrame Go.Maps
attribute [local go_sem] ze.cell ze.frozen
theorem zhI(p:Sk):p.nf.held=za0 (p.queue++p.dev.busy):=funext fun n=>zdP p n
theorem zje(s:Nat)(p:Sk)(A:Sa)(w:World)(h:zv s p A w)(hl3:p.cl.length=3)(i:Nat)(hi:i<3)(hd:p.dead=false)(h8:p.hand.length≤8)(hq6:p.queue.length≤6)(hU:0≤p.uses∧p.uses≤4000000000000000000)(hc:¬(6≤zN p.hand∧zQ p.hand (p.client i).pl=false))(q:Sk)(hq:p.nf.serveWrite i=q) :
  Calls Tryz.prog 74 #[.pointer (some ⟨s,0,none⟩),.pointer (some ⟨s,2+i*6,none⟩)] w fun e w'=>e=.returned (.tuple #[])∧SOk s p A w w' q:=by
 have e1:p.nf.serveWrite i=match zbo p.hand ⟨(p.client i).pl,(p.client i).data,true,p.uses+1⟩ (za0 (p.queue++p.dev.busy)) with
  |some l=>({ p.nf with uses:=p.uses+1,hand:=l }:Sk).answer i ByteArray.empty 0
  |none=>{ p.nf with uses:=p.uses+1 }:=by
  rw[←zhI];unfold Sk.serveWrite;rw[if_neg (by rw[show p.nf.dead=false from hd];exact Bool.false_ne_true),if_neg (show ¬(6≤zN p.nf.hand∧zQ p.nf.hand (p.nf.client i).pl=false) from hc)]
  rfl
 rw[e1] at hq;have c29:=h.cell 29 _ rfl;rw[hd] at c29;have hl:=h.lt;obtain⟨-,d1,d2,-⟩:=h.client i hi;have HD1:=za d1;have HD2:=za d2;have HQ:=za hq;have HST:=za h;have HC:=za hc;have h9:zN p.hand≤8:=Nat.le_trans (List.length_filter_le _ _) h8;obtain⟨n,hnn⟩:∃n,zN p.hand=n:=⟨_,rfl⟩
 rw[hnn] at h9;have HNN:=za hnn;have hwr:IntKind.i64.wrap (p.uses+1)=p.uses+1:=by rw[IntKind.wrap_i64];omega
 clear h e1 hq hc hnn d2;generalize hpl:(p.client i).pl=pl at *;generalize hdt:(p.client i).data=dt at *;have HPL:=za hpl;have HDT:=za hdt;clear hpl hdt
 by_cases h6:6≤n
 have h6':(6:Int)≤(n:Int):=by omega
 have HDY:Hid (zQ p.hand pl=true):=by
  cases hh:zQ p.hand pl
  ·exact absurd ⟨by rw[HNN.out];exact h6,hh⟩ HC.out
  ·rfl
 go_enter Tryz.func74,Tryz.ntmps74;go_wp2_with fail;refine(zb9 s p A w HST.out n HNN.out).mono ?_;rintro e w1 ⟨rfl,hb1⟩;have HS1:=za (zG.same' HST.out hb1);have g1:=cellB_later' hb1 d1;have l1:=HS1.out.at'.lt;go_wp2_with fail;refine(zhy s p A pl w1 HS1.out.at' true HDY.out).mono ?_;rintro e w2 ⟨rfl,hb2⟩;have HS2:=za (HS1.out.later hb2);have c28:=HS2.out.at'.cell 28 _ rfl;have f28:=HS2.out.at'.fz 28;have l2:=HS2.out.at'.lt;clear hb1 hb2 g1 l1 d1;go_wp2_with fail
 rotate_left
 have h6':¬(6:Int)≤(n:Int):=by omega
 go_enter Tryz.func74,Tryz.ntmps74;go_wp2_with fail;refine(zb9 s p A w HST.out n HNN.out).mono ?_;rintro e w2 ⟨rfl,hb1⟩;have HS2:=za (zG.same' HST.out hb1);have c28:=HS2.out.at'.cell 28 _ rfl;have f28:=HS2.out.at'.fz 28;have l2:=HS2.out.at'.lt;clear hb1 d1;go_wp2_with fail
 all_goals
  refine zai (fun wy=>zG s p A { p with uses:=p.uses+1 } A w wy) (HS2.out.trans (HS2.out.at'.setUses (p.uses+1))) ?_;intro wy hsy;have HSy:=za hsy;have y20:=hsy.at'.cell 20 _ rfl;have y28:=hsy.at'.cell 28 _ rfl;have ly:=hsy.at'.lt;obtain⟨-,y1,y2,-⟩:=hsy.at'.client i hi;have HYP:Hid (({ p with uses:=p.uses+1 }:Sk).client i=p.client i):=za rfl;rw[HYP.out,HPL.out] at y1;rw[HYP.out,HDT.out] at y2;clear hsy c28 f28 l2
  cases hP:zbo p.hand ⟨pl,dt,true,p.uses+1⟩ (za0 (p.queue++p.dev.busy)) with
  |none =>
   have HP:=za hP;have HQ2:Hid ({ p.nf with uses:=p.uses+1 }=q):=by have:=HQ.out;rw[hP] at this;exact this
   clear hP HQ
   go_region_held3 (fun w'=>w'.cell? ⟨s,20,none⟩=some (.slice A.ha p.hand.length A.hc)∧w'.cell? ⟨s,28,none⟩=some (.int .i64 (p.uses+1))∧w'.cell? ⟨s,2+i*6+1,none⟩=some (.int .i64 pl)∧w'.cell? ⟨s,2+i*6+2,none⟩=some (.string dt)) (exact⟨cellB_later' (w:=wy) (by(with_reducible repeat first|exact Below.refl _ _|refine zc ?_ _|refine zd ?_|refine bset' ?_ (by omega) _|refine zb ?_ (by assumption))) y20,cellB_later' (w:=wy) (by(with_reducible repeat first|exact Below.refl _ _|refine zc ?_ _|refine zd ?_|refine bset' ?_ (by omega) _|refine zb ?_ (by assumption))) y28,cellB_later' (w:=wy) (by(with_reducible repeat first|exact Below.refl _ _|refine zc ?_ _|refine zd ?_|refine bset' ?_ (by omega) _|refine zb ?_ (by assumption))) y1,cellB_later' (w:=wy) (by(with_reducible repeat first|exact Below.refl _ _|refine zc ?_ _|refine zd ?_|refine bset' ?_ (by omega) _|refine zb ?_ (by assumption))) y2⟩) (first|(go_at_call 48;refine(zdj s { p with uses:=p.uses+1 } A _ (HSy.out.at'.later (by(with_reducible repeat first|exact Below.refl _ _|refine zc ?_ _|refine zd ?_|refine bset' ?_ (by omega) _|refine zb ?_ (by assumption)))) (by show p.queue.length≤1000;omega)).mono ?_;rintro e w3 ⟨hb,rfl,hH,hb3⟩)|(go_at_call 107;refine(zle hb (p.queue++p.dev.busy) p.hand A.ha A.hc ⟨pl,dt,true,p.uses+1⟩ _ (HSy.out.at'.mem.hand.later (by(with_reducible repeat first|exact Below.refl _ _|refine zc ?_ _|refine zd ?_|refine bset' ?_ (by omega) _|refine zb ?_ (by assumption)))) HSy.out.at'.mem.hnil h8 (zcb.later hH (by(with_reducible repeat first|exact Below.refl _ _|refine zc ?_ _|refine zd ?_|refine bset' ?_ (by omega) _|refine zb ?_ (by assumption)))) HP.out).mono ?_;rintro e w4 ⟨rfl,hb4⟩))
   all_goals
    have HS4:Hid (zG s p A { p with uses:=p.uses+1 } A w w4):=HSy.out.later (by(with_reducible repeat first|exact Below.refl _ _|refine zc ?_ _|refine zd ?_|refine bset' ?_ (by omega) _|refine zb ?_ (by assumption)));clear hb3 hb4 hH;go_wp2;refine bodyPost_ret (v:=.tuple #[]) (by simp[results,Tryz.results74,go_sem]) rfl ?_;exact⟨rfl,_,_,HS4.out,by rw[←HQ2.out];rfl⟩
  |some m =>
   have HP:=za hP;have HQ2:Hid (({ p.nf with uses:=p.uses+1,hand:=m }:Sk).answer i ByteArray.empty 0=q):=by have:=HQ.out;rw[hP] at this;exact this
   clear hP HQ
   go_region_held3 (fun w'=>w'.cell? ⟨s,20,none⟩=some (.slice A.ha p.hand.length A.hc)∧w'.cell? ⟨s,28,none⟩=some (.int .i64 (p.uses+1))∧w'.cell? ⟨s,2+i*6+1,none⟩=some (.int .i64 pl)∧w'.cell? ⟨s,2+i*6+2,none⟩=some (.string dt)) (exact⟨cellB_later' (w:=wy) (by(with_reducible repeat first|exact Below.refl _ _|refine zc ?_ _|refine zd ?_|refine bset' ?_ (by omega) _|refine zb ?_ (by assumption))) y20,cellB_later' (w:=wy) (by(with_reducible repeat first|exact Below.refl _ _|refine zc ?_ _|refine zd ?_|refine bset' ?_ (by omega) _|refine zb ?_ (by assumption))) y28,cellB_later' (w:=wy) (by(with_reducible repeat first|exact Below.refl _ _|refine zc ?_ _|refine zd ?_|refine bset' ?_ (by omega) _|refine zb ?_ (by assumption))) y1,cellB_later' (w:=wy) (by(with_reducible repeat first|exact Below.refl _ _|refine zc ?_ _|refine zd ?_|refine bset' ?_ (by omega) _|refine zb ?_ (by assumption))) y2⟩) (first|(go_at_call 48;refine(zdj s { p with uses:=p.uses+1 } A _ (HSy.out.at'.later (by(with_reducible repeat first|exact Below.refl _ _|refine zc ?_ _|refine zd ?_|refine bset' ?_ (by omega) _|refine zb ?_ (by assumption)))) (by show p.queue.length≤1000;omega)).mono ?_;rintro e w3 ⟨hb,rfl,hH,hb3⟩;have z3:wy.heap.size≤w3.heap.size:=(show Below wy.heap.size wy w3 by(with_reducible repeat first|exact Below.refl _ _|refine zc ?_ _|refine zd ?_|refine bset' ?_ (by omega) _|refine zb ?_ (by assumption))).size)|(go_at_call 107;refine(zkv hb (p.queue++p.dev.busy) p.hand A.ha A.hc ⟨pl,dt,true,p.uses+1⟩ _ (HSy.out.at'.mem.hand.later (by(with_reducible repeat first|exact Below.refl _ _|refine zc ?_ _|refine zd ?_|refine bset' ?_ (by omega) _|refine zb ?_ (by assumption)))) HSy.out.at'.mem.hnil h8 (zcb.later hH (by(with_reducible repeat first|exact Below.refl _ _|refine zc ?_ _|refine zd ?_|refine bset' ?_ (by omega) _|refine zb ?_ (by assumption)))) m HP.out).mono ?_;rintro e w4 ⟨a',c',rfl,hput,hb4⟩;have HPU:=za hput;clear hput))
   all_goals
    have HS4:Hid (zG s p A { p with uses:=p.uses+1 } A w w4):=HSy.out.later (by(with_reducible repeat first|exact Below.refl _ _|refine zc ?_ _|refine zd ?_|refine bset' ?_ (by omega) _|refine zb ?_ (by assumption)));have HS5:=za (HS4.out.trans (HS4.out.at'.setHand m a' c' HPU.out.1 HPU.out.2.1 HPU.out.2.2.2 (fun _ q' hq' e=>by have:=HPU.out.2.2.1 q' hq';have:=HSy.out.at'.offLt _ e;omega)));have v20:=HS4.out.at'.cell 20 _ rfl;have x20:=HS4.out.at'.fz 20;have l4:=HS4.out.at'.lt;clear hb3 hb4 hH y20 y28 y1 y2;go_wp2_with fail;have hans:=zcV s _ _ _ HS5.out.at' hl3 i hi ByteArray.empty 0;rw[show zae 0=.nilIface from rfl] at hans;refine hans.mono ?_;clear hans;rintro e w7 ⟨rfl,hs7⟩;have HS7:=za (HS5.out.trans hs7);clear hs7;go_wp2;go_end0;exact⟨rfl,_,_,HS7.out,by rw[←HQ2.out];rfl⟩
end Go.Proofs.YtlhgjplipgandaaGreat
