/- Joined texts: Script6. -/
import Derived.Deep.DeepCutAuto
import Derived.Test.YtlhgjplipgandaaGreatDoorD29
set_option maxRecDepth 100000
set_option maxHeartbeats 8000000
set_option linter.unusedSimpArgs false
namespace Go.Proofs.YtlhgjplipgandaaGreatDoor
open Go.RowKit Go.BigFrame Go.Maps
attribute [local go_sem] ze.cell ze.frozen
def zcX:ByteArray:=⟨#[45]⟩
def zz(x:St):Int :=
 if(zb7 x.word).isSome=false then 3 else if zei (zbx x.word).1 (zbx x.word).2 x=false then 3
 else if(zar x.a||zar x.b)=true then 1 else if 9<x.data.size then 1 else if zbm x.data=true then 3 else if x.data=zcX then 3 else 0
structure za1(x:St):Prop where
 a:zai x.a
 b:zai x.b
 word:x.word.size≤9223372036854775807
 data:x.data.size≤9223372036854775807
def ziO(q:Nat)(n:Int)(b:Bool)(w:World):Prop:=w.cell? ⟨q,0,none⟩=some (.int .i64 n)∧w.cell? ⟨q,1,none⟩=some (.bool b)∧q<w.heap.size
def zgE(q:Nat)(x:St)(w:World):Prop:=w.cell? ⟨q,0,none⟩=some (.string x.word)∧w.cell? ⟨q,1,none⟩=some (.int .i64 x.a)∧w.cell? ⟨q,2,none⟩=some (.int .i64 x.b)∧w.cell? ⟨q,3,none⟩=some (.string x.data)∧q<w.heap.size
theorem zgE.later{q:Nat}{x:St}{w w':World}(h:zgE q x w)(hb:Below w.heap.size w w'):zgE q x w':=⟨cellB_later' hb h.1,cellB_later' hb h.2.1,cellB_later' hb h.2.2.1,cellB_later' hb h.2.2.2.1,Nat.lt_of_lt_of_le h.2.2.2.2 hb.size⟩
theorem zou(w:World)(n:Int)(b:Bool)(T:TypeId):ziO w.heap.size n b (w.alloc (.cells #[.int .i64 n,.bool b] T)):=⟨by simp,by simp,by simp⟩
theorem zov{w:World}{q:Nat}{n n0:Int}{b b0:Bool}(h0:w.cell? ⟨q,0,none⟩=some (.int .i64 n0))(h1:w.cell? ⟨q,1,none⟩=some (.bool b0))(hl:q<w.heap.size):ziO q n b ((w.setCell ⟨q,0,none⟩ (.int .i64 n)).setCell ⟨q,1,none⟩ (.bool b)):=by
 have h1':(w.setCell ⟨q,0,none⟩ (.int .i64 n)).cell? ⟨q,1,none⟩=some (.bool b0):=by rw[World.cell?_setCell_other _ _ _ _ (by simp)];exact h1
 refine⟨?_,?_,by simpa using hl⟩
 ·rw[World.cell?_setCell_other _ _ _ _ (by simp)];exact World.cell?_setCell_same _ _ _ h0
 ·exact World.cell?_setCell_same _ _ _ h1'
theorem znB{P:Program}{c:Code}{Q:Exit→Act→World→Prop}{a:Act}{w:World}(R:World→Prop)(h:R w)(k:∀w',R w'→c.wp P Q a w'):c.wp P Q a w:=k w h
theorem zpc{s:ByteArray}(h:¬s=zcX):(s.toList==[45])=false:=by
 rw[beq_eq_false_iff_ne];intro e;apply h;have e2:s.data.toList=[45]:=by rw[←Lib.toList_data];exact e
 cases s
 unfold zcX
 congr 1
 apply Array.toList_inj.1;exact e2
theorem zag(x:St)(w:World)(hx:za1 x):Calls Tryz.prog 23 #[x.val] w fun e w'=>e=.returned (zI (zz x))∧Below w.heap.size w w':=by
 obtain⟨n,b,hpn,hnb⟩:=zit x.word;obtain⟨c,hpc⟩:∃c,(zb7 x.word).isSome=c:=⟨_,rfl⟩
 obtain⟨t,hft⟩:∃t,zei n b x=t:=⟨_,rfl⟩
 obtain⟨er,her⟩:∃er,zz x=er:=⟨_,rfl⟩
 have HER:Hid ((if c=false then 3 else if t=false then 3 else if(zar x.a||zar x.b)=true then 1 else if 9<x.data.size then 1 else if zbm x.data=true then 3 else if x.data=zcX then 3 else(0:Int))=er):=by
  rw[←her];show _=zz x;unfold zz;rw[hpc,hpn,hft]
 rw[her];have HFT:=za hft;have HPN:=za hpn;have HPC:=za hpc;have HX:=za hx;have HNB:=za hnb;clear her hft hpn hpc hx hnb;obtain⟨wd,xa,xb,dt⟩:=x;go_enter Tryz.func23,Tryz.ntmps23;go_wp2_with fail;refine znB (fun wz=>zgE w.heap.size ⟨wd,xa,xb,dt⟩ wz∧Below w.heap.size w wz) ⟨⟨by simp,by simp,by simp,by simp,by simp⟩,by(with_reducible repeat first|exact Below.refl _ _|refine zc ?_ _|refine zd ?_|refine bset' ?_ (by omega) _|refine zb ?_ (by assumption))⟩ ?_;rintro w0 ⟨⟨h0,h1,h2,h3,hl⟩,hb0⟩;have HBX:Hid (zgE w.heap.size ⟨wd,xa,xb,dt⟩ w0):=⟨h0,h1,h2,h3,hl⟩
 have HB0:=za hb0;clear hb0
 go_cut[3,4] (fun s3 s4 wx=>∃q,s3=.pointer (some ⟨q,0,none⟩)∧s4=.bool c∧ziO q n b wx∧Below w0.heap.size w0 wx)
 case first =>
  clear h1 h2 h3
  go_region_held3 (fun w'=>w'.cell? ⟨w.heap.size,0,none⟩=some (.string wd)) (exact cellB_later' (w:=w0) (by(with_reducible repeat first|exact Below.refl _ _|refine zc ?_ _|refine zd ?_|refine bset' ?_ (by omega) _|refine zb ?_ (by assumption))) h0) (first|(go_at_call 68;refine(zpQ _).mono ?_;rintro e w1 ⟨mb,rfl,hws⟩;have hb1:=hws.bel;have hlk:=(zkK hws (Below.refl _ _) wd HX.out.word n b HPN.out c HPC.out).1;have hlk2:=(zkK hws (zs w1 (.cells #[.int .i64 0,.bool false] 114)) wd HX.out.word n b HPN.out c HPC.out).1;have z1:=hb1.size;(try(obtain⟨k0,k1,k2,k3⟩:w1.cell? ⟨w0.heap.size,0,none⟩=some (.int .i64 0)∧w1.cell? ⟨w0.heap.size,1,none⟩=some (.bool false)∧w1.frozen? ⟨w0.heap.size,0,none⟩=false∧w1.frozen? ⟨w0.heap.size,1,none⟩=false;(focus((refine⟨(hb1.cell (p:=⟨w0.heap.size,0,none⟩) ?_).trans ?_,(hb1.cell (p:=⟨w0.heap.size,1,none⟩) ?_).trans ?_,(hb1.frozen (p:=⟨w0.heap.size,0,none⟩) ?_).trans ?_,(hb1.frozen (p:=⟨w0.heap.size,1,none⟩) ?_).trans ?_⟩);(all_goals (first|(simp;done)|omega))))))))
  all_goals
   go_wp2
   go_meet
   case rel=>exact⟨_,rfl,rfl,(by first|exact zou _ _ _ _|exact zov k0 k1 (by simp at z1;omega)),by(with_reducible repeat first|exact Below.refl _ _|refine zc ?_ _|refine zd ?_|refine bset' ?_ (by omega) _|refine zb ?_ (by assumption))⟩
 case rest =>
  obtain⟨q,rfl,rfl,hp,hbx⟩:=hcut;have HP:=za hp;have HBC:=za (HBX.out.later hbx);have HB:=za (zb HB0.out hbx);clear hp hbx h0 h1 h2 h3 hl HBX HB0;obtain⟨p0,p1,lp⟩:=id HP.out;obtain⟨b0,b1,b2,b3,lb⟩:=id HBC.out;simp only at b0 b1 b2 b3
  cases c
  ·have he:er=3:=HER.out.symm;clear HER;go_wp2;go_ret;exact⟨by rw[he];rfl,HB.out⟩
  go_wp2_with fail;refine(zpl n b ⟨wd,xa,xb,dt⟩ _ HNB.out t HFT.out).mono ?_;rintro e w2 ⟨rfl,hb2⟩;have HB2:=za (zb HB.out hb2);have HBC2:=za (HBC.out.later hb2);clear hb2 HBC HB HP p0 p1 lp b0 b1 b2 b3 lb;obtain⟨b0,b1,b2,b3,lb⟩:=id HBC2.out;simp only at b0 b1 b2 b3
  cases t
  ·have he:er=3:=HER.out.symm;clear HER;go_wp2;go_ret;exact⟨by rw[he];rfl,HB2.out⟩
  obtain⟨ob,hob⟩:∃ob,(zar xa||zar xb)=ob:=⟨_,rfl⟩
  have HER2:Hid ((if ob=true then 1 else if 9<dt.size then 1 else if zbm dt=true then 3 else if dt=zcX then 3 else(0:Int))=er):=by
   rw[←hob];exact HER.out
  have HOB:Hid ((zar xa||zar xb)=!(!ob)):=by show _=_;rw[hob,Bool.not_not]
  clear hob HER;go_wp2_with fail;refine(zjc _ xa xb (!ob) HOB.out _ (by simp) (by simp)).mono ?_;rintro e w3 ⟨rfl,hb3⟩;have HB3:=za (zb HB2.out (zb (zs w2 (.cells #[.int .i64 xa,.int .i64 xb] 3)) hb3));have HBC3:=za (HBC2.out.later (zb (zs w2 (.cells #[.int .i64 xa,.int .i64 xb] 3)) hb3));clear hb3 HBC2 HB2 b0 b1 b2 b3 lb HOB;obtain⟨b0,b1,b2,b3,lb⟩:=id HBC3.out;simp only at b0 b1 b2 b3
  cases ob
  ·by_cases h9:9<dt.size
   ·have h9':(9:Int)<(dt.size:Int):=by omega
    have he:er=1:=by rw[←HER2.out,if_neg Bool.false_ne_true,if_pos h9]
    clear HER2;go_wp2;go_ret;exact⟨by rw[he];rfl,HB3.out⟩
   ·have h9':¬(9:Int)<(dt.size:Int):=by omega
    obtain⟨bk,hbk⟩:∃bk,zbm dt=bk:=⟨_,rfl⟩
    have HER3:Hid ((if bk=true then 3 else if dt=zcX then 3 else(0:Int))=er):=by
     rw[←hbk];have:=HER2.out;rw[if_neg Bool.false_ne_true,if_neg h9] at this;exact this
    have HBK:=za hbk;clear hbk HER2;go_wp2_with fail;refine(zgK dt (by omega) bk HBK.out _).mono ?_;rintro e w4 ⟨rfl,hb4⟩;have HB4:=za (zb HB3.out hb4);have HBC4:=za (HBC3.out.later hb4);clear hb4 HBC3 HB3 b0 b1 b2 b3 lb;obtain⟨b0,b1,b2,b3,lb⟩:=id HBC4.out;simp only at b0 b1 b2 b3
    cases bk
    ·by_cases hd:dt=zcX
     ·have he:er=3:=by rw[←HER3.out,if_neg Bool.false_ne_true,if_pos hd]
      have hq:(dt.toList==[45])=true:=by rw[hd,Lib.toList_data];rfl
      clear HER3 hd;go_wp2;go_ret;exact⟨by rw[he];rfl,HB4.out⟩
     ·have he:er=0:=by rw[←HER3.out,if_neg Bool.false_ne_true,if_neg hd]
      have hq:(dt.toList==[45])=false:=zpc hd;clear HER3 hd;go_wp2;go_ret;exact⟨by rw[he];rfl,HB4.out⟩
    ·have he:er=3:=HER3.out.symm;clear HER3;go_wp2;go_ret;exact⟨by rw[he];rfl,HB4.out⟩
  ·have he:er=1:=HER2.out.symm;clear HER2;go_wp2;go_ret;exact⟨by rw[he];rfl,HB3.out⟩
end Go.Proofs.YtlhgjplipgandaaGreatDoor
