/- Joined texts: Least2. -/
import Derived.Test.YtlhgjplipgandaaGreatB8
set_option maxRecDepth 100000
set_option maxHeartbeats 8000000
set_option linter.unusedSimpArgs false
namespace Go.Proofs.YtlhgjplipgandaaGreat
open Go.RowKit Go.BigFrame
attribute [local go_sem] ze.cell ze.frozen
theorem zlQ(l:List Rq)(a:Option Addr)(c:Nat)(b':Bool)(pb po:Nat)(w:World)(hl:zs w a l)(hp:w.cell? ⟨pb,po,none⟩=some (.bool b')) :
  Calls Tryz.prog 146 #[.slice a l.length c,.func (.func 148) #[] #[.pointer (some ⟨pb,po,none⟩)],.func (.func 149) #[] #[]] w
   fun e w'=>e=.returned (.int .i64 (zax (zdC b') Rq.born l l.length))∧Below w.heap.size w w':=by
 have hb3:=hl.2.2
 rcases hl.form with rfl|⟨b,o,rfl⟩
 ·go_enter Tryz.func146,Tryz.ntmps146;go_wp2
  go_loop [7,12] (fun bi i=>i=.int .i64 0∧bi=.int .i64 (-1)) (fun _ _=>0)
  case atStart=>exact⟨rfl,rfl⟩
  case round =>
   obtain⟨rfl,rfl⟩:=hrel;go_wp2;go_ret;exact⟨rfl,by(with_reducible repeat first|exact Below.refl _ _|refine zc ?_ _|refine zd ?_|refine bset' ?_ (by omega) _|refine zb ?_ (by assumption))⟩
 go_enter Tryz.func146,Tryz.ntmps146;go_wp2
 go_loopw[7,12] (fun bi i wr=>∃(k:Nat) (B:Int),k≤l.length∧i=.int .i64 k∧bi=.int .i64 B∧zax (zdC b') Rq.born l k=B∧(B=-1∨∃j:Nat,B=j∧j<k)∧Below w.heap.size w wr) (fun _ i _=>l.length-(intOf i).toNat)
 case atStart=>exact⟨0,-1,by omega,rfl,rfl,rfl,Or.inl rfl,Below.refl _ _⟩
 case round =>
  obtain⟨k,B,hk,rfl,rfl,hB,hcase,HB⟩:=hrel;have HL:Hid (zax (zdC b') Rq.born l k=B):=hB;clear hB
  by_cases hlt:k<l.length
  ·obtain⟨c0,c1,c2,c3,c4,c5⟩:=(hl.later HB).cells hlt;have l0:=zg c0;have hpr:=cell_later' HB hp;have HB0:=HB;clear HB;have hcase':=hcase
   cases hff:zdC b' l[k]
   ·clear hcase;go_wp2_with fail;refine zj (by first|exact HB|exact zd HB|exact Below.refl _ _) (by kernel_rfl) (by kernel_rfl) ?_
    repeat(go_big_quiet_step (first|exact rfl|(go_at_call 148;exact zR (zer l[k] _ _ _ _ (cell_later' (ze.below _) (zao hpr _)) _ hff))|(go_at_call 149;exact zR (zdZ _ _))))
    refine wpQuiet_nil ?_;intro _ hw';obtain⟨p,hw''⟩:=hw';subst hw'';(try clear hc hf hz);(try clear HB);have HB:=p.below;obtain⟨hc,hf,hz⟩:=zu HB;go_wp2;go_roundw
    case rel=>exact⟨k+1,B,by omega,by go_num,rfl,zdm hlt hff HL.out,hcase'.elim (fun h=>Or.inl h) (fun⟨j,h,hj⟩=>Or.inr ⟨j,h,by omega⟩),zb (zc HB0 _) HB⟩
    case measure=>simp[intOf];omega
   ·rcases hcase with rfl|⟨j,rfl,hj⟩
    ·go_wp2_with fail;refine zj (by first|exact HB|exact zd HB|exact Below.refl _ _) (by kernel_rfl) (by kernel_rfl) ?_
     repeat(go_big_quiet_step (first|exact rfl|(go_at_call 148;exact zR (zer l[k] _ _ _ _ (cell_later' (ze.below _) (zao hpr _)) _ hff))|(go_at_call 149;exact zR (zdZ _ _))))
     refine wpQuiet_nil ?_;intro _ hw';obtain⟨p,hw''⟩:=hw';subst hw'';(try clear hc hf hz);(try clear HB);have HB:=p.below;obtain⟨hc,hf,hz⟩:=zu HB;go_wp2;go_roundw
     case rel=>exact⟨k+1,k,by omega,by go_num,rfl,zc4 hlt hff HL.out,Or.inr ⟨k,rfl,by omega⟩,zb (zc HB0 _) HB⟩
     case measure=>simp[intOf];omega
    ·have hjl:j<l.length:=by omega
     have hj0:decide ((j:Int)<0)=false:=decide_eq_false (by omega);obtain⟨d0,d1,d2,d3,d4,d5⟩:=(hl.later HB0).cells hjl
     by_cases hR:Rq.born l[k]<Rq.born l[j]
     ·go_wp2_with fail;refine zj (by first|exact HB|exact zd HB|exact Below.refl _ _) (by kernel_rfl) (by kernel_rfl) ?_
      repeat(go_big_quiet_step (first|exact rfl|(go_at_call 148;exact zR (zer l[k] _ _ _ _ (cell_later' (ze.below _) (zao hpr _)) _ hff))|(go_at_call 149;exact zR (zdZ _ _))))
      refine wpQuiet_nil ?_;intro _ hw';obtain⟨p,hw''⟩:=hw';subst hw'';(try clear hc hf hz);(try clear HB);have HB:=p.below;obtain⟨hc,hf,hz⟩:=zu HB;go_wp2;go_roundw
      case rel=>exact⟨k+1,k,by omega,by go_num,rfl,zeK hlt hjl hff HL.out hR,Or.inr ⟨k,rfl,by omega⟩,zb (zc HB0 _) HB⟩
      case measure=>simp[intOf];omega
     ·go_wp2_with fail;refine zj (by first|exact HB|exact zd HB|exact Below.refl _ _) (by kernel_rfl) (by kernel_rfl) ?_
      repeat(go_big_quiet_step (first|exact rfl|(go_at_call 148;exact zR (zer l[k] _ _ _ _ (cell_later' (ze.below _) (zao hpr _)) _ hff))|(go_at_call 149;exact zR (zdZ _ _))))
      refine wpQuiet_nil ?_;intro _ hw';obtain⟨p,hw''⟩:=hw';subst hw'';(try clear hc hf hz);(try clear HB);have HB:=p.below;obtain⟨hc,hf,hz⟩:=zu HB;go_wp2;go_roundw
      case rel=>exact⟨k+1,j,by omega,by go_num,rfl,zeQ hlt hjl hff HL.out (by omega),Or.inr ⟨j,rfl,by omega⟩,zb (zc HB0 _) HB⟩
      case measure=>simp[intOf];omega
  ·go_wp2;go_ret;exact⟨zbs (by rw[show l.length=k by omega];exact HL.out.symm),by(with_reducible repeat first|exact Below.refl _ _|refine zc ?_ _|refine zd ?_|refine bset' ?_ (by omega) _|refine zb ?_ (by assumption))⟩
theorem zkh(l:List Rq)(a:Option Addr)(c:Nat)(b':Bool)(a':Int)(pb po qb qo:Nat)(w:World)(hl:zs w a l)(hp:w.cell? ⟨pb,po,none⟩=some (.bool b'))(hq:w.cell? ⟨qb,qo,none⟩=some (.int .i64 a')) :
  Calls Tryz.prog 146 #[.slice a l.length c,.func (.func 145) #[] #[.pointer (some ⟨pb,po,none⟩),.pointer (some ⟨qb,qo,none⟩)],.func (.func 147) #[] #[]] w
   fun e w'=>e=.returned (.int .i64 (zax (zbM b' a') Rq.f l l.length))∧Below w.heap.size w w':=by
 have hb3:=hl.2.2
 rcases hl.form with rfl|⟨b,o,rfl⟩
 ·go_enter Tryz.func146,Tryz.ntmps146;go_wp2
  go_loop [7,12] (fun bi i=>i=.int .i64 0∧bi=.int .i64 (-1)) (fun _ _=>0)
  case atStart=>exact⟨rfl,rfl⟩
  case round =>
   obtain⟨rfl,rfl⟩:=hrel;go_wp2;go_ret;exact⟨rfl,by(with_reducible repeat first|exact Below.refl _ _|refine zc ?_ _|refine zd ?_|refine bset' ?_ (by omega) _|refine zb ?_ (by assumption))⟩
 go_enter Tryz.func146,Tryz.ntmps146;go_wp2
 go_loopw[7,12] (fun bi i wr=>∃(k:Nat) (B:Int),k≤l.length∧i=.int .i64 k∧bi=.int .i64 B∧zax (zbM b' a') Rq.f l k=B∧(B=-1∨∃j:Nat,B=j∧j<k)∧Below w.heap.size w wr) (fun _ i _=>l.length-(intOf i).toNat)
 case atStart=>exact⟨0,-1,by omega,rfl,rfl,rfl,Or.inl rfl,Below.refl _ _⟩
 case round =>
  obtain⟨k,B,hk,rfl,rfl,hB,hcase,HB⟩:=hrel;have HL:Hid (zax (zbM b' a') Rq.f l k=B):=hB;clear hB
  by_cases hlt:k<l.length
  ·obtain⟨c0,c1,c2,c3,c4,c5⟩:=(hl.later HB).cells hlt;have l0:=zg c0;have hpr:=cell_later' HB hp;have hqr:=cell_later' HB hq;have HB0:=HB;clear HB;have hcase':=hcase
   cases hff:zbM b' a' l[k]
   ·clear hcase;go_wp2_with fail;refine zj (by first|exact HB|exact zd HB|exact Below.refl _ _) (by kernel_rfl) (by kernel_rfl) ?_
    repeat(go_big_quiet_step (first|exact rfl|(go_at_call 145;exact zR (zd2 l[k] _ _ _ _ _ _ _ (cell_later' (ze.below _) (zao hpr _)) (cell_later' (ze.below _) (zao hqr _)) _ hff))|(go_at_call 147;exact zR (zdG _ _))))
    refine wpQuiet_nil ?_;intro _ hw';obtain⟨p,hw''⟩:=hw';subst hw'';(try clear hc hf hz);(try clear HB);have HB:=p.below;obtain⟨hc,hf,hz⟩:=zu HB;go_wp2;go_roundw
    case rel=>exact⟨k+1,B,by omega,by go_num,rfl,zdm hlt hff HL.out,hcase'.elim (fun h=>Or.inl h) (fun⟨j,h,hj⟩=>Or.inr ⟨j,h,by omega⟩),zb (zc HB0 _) HB⟩
    case measure=>simp[intOf];omega
   ·rcases hcase with rfl|⟨j,rfl,hj⟩
    ·go_wp2_with fail;refine zj (by first|exact HB|exact zd HB|exact Below.refl _ _) (by kernel_rfl) (by kernel_rfl) ?_
     repeat(go_big_quiet_step (first|exact rfl|(go_at_call 145;exact zR (zd2 l[k] _ _ _ _ _ _ _ (cell_later' (ze.below _) (zao hpr _)) (cell_later' (ze.below _) (zao hqr _)) _ hff))|(go_at_call 147;exact zR (zdG _ _))))
     refine wpQuiet_nil ?_;intro _ hw';obtain⟨p,hw''⟩:=hw';subst hw'';(try clear hc hf hz);(try clear HB);have HB:=p.below;obtain⟨hc,hf,hz⟩:=zu HB;go_wp2;go_roundw
     case rel=>exact⟨k+1,k,by omega,by go_num,rfl,zc4 hlt hff HL.out,Or.inr ⟨k,rfl,by omega⟩,zb (zc HB0 _) HB⟩
     case measure=>simp[intOf];omega
    ·have hjl:j<l.length:=by omega
     have hj0:decide ((j:Int)<0)=false:=decide_eq_false (by omega);obtain⟨d0,d1,d2,d3,d4,d5⟩:=(hl.later HB0).cells hjl
     by_cases hR:Rq.f l[k]<Rq.f l[j]
     ·go_wp2_with fail;refine zj (by first|exact HB|exact zd HB|exact Below.refl _ _) (by kernel_rfl) (by kernel_rfl) ?_
      repeat(go_big_quiet_step (first|exact rfl|(go_at_call 145;exact zR (zd2 l[k] _ _ _ _ _ _ _ (cell_later' (ze.below _) (zao hpr _)) (cell_later' (ze.below _) (zao hqr _)) _ hff))|(go_at_call 147;exact zR (zdG _ _))))
      refine wpQuiet_nil ?_;intro _ hw';obtain⟨p,hw''⟩:=hw';subst hw'';(try clear hc hf hz);(try clear HB);have HB:=p.below;obtain⟨hc,hf,hz⟩:=zu HB;go_wp2;go_roundw
      case rel=>exact⟨k+1,k,by omega,by go_num,rfl,zeK hlt hjl hff HL.out hR,Or.inr ⟨k,rfl,by omega⟩,zb (zc HB0 _) HB⟩
      case measure=>simp[intOf];omega
     ·go_wp2_with fail;refine zj (by first|exact HB|exact zd HB|exact Below.refl _ _) (by kernel_rfl) (by kernel_rfl) ?_
      repeat(go_big_quiet_step (first|exact rfl|(go_at_call 145;exact zR (zd2 l[k] _ _ _ _ _ _ _ (cell_later' (ze.below _) (zao hpr _)) (cell_later' (ze.below _) (zao hqr _)) _ hff))|(go_at_call 147;exact zR (zdG _ _))))
      refine wpQuiet_nil ?_;intro _ hw';obtain⟨p,hw''⟩:=hw';subst hw'';(try clear hc hf hz);(try clear HB);have HB:=p.below;obtain⟨hc,hf,hz⟩:=zu HB;go_wp2;go_roundw
      case rel=>exact⟨k+1,j,by omega,by go_num,rfl,zeQ hlt hjl hff HL.out (by omega),Or.inr ⟨j,rfl,by omega⟩,zb (zc HB0 _) HB⟩
      case measure=>simp[intOf];omega
  ·go_wp2;go_ret;exact⟨zbs (by rw[show l.length=k by omega];exact HL.out.symm),by(with_reducible repeat first|exact Below.refl _ _|refine zc ?_ _|refine zd ?_|refine bset' ?_ (by omega) _|refine zb ?_ (by assumption))⟩
theorem zoi(l:List Rq)(a:Option Addr)(c:Nat)(b:Bool)(w:World)(hl:zs w a l) :
  Calls Tryz.prog 127 #[.slice a l.length c,.bool b] w fun e w'=>e=.returned (.int .i64 (zax (zdC b) Rq.born l l.length))∧Below w.heap.size w w':=by
 go_enter Tryz.func127,Tryz.ntmps127;go_wp2_with fail;refine(zlQ l a c b _ _ _ (hl.later (zn _ _)) (by simp)).mono ?_;rintro e w1 ⟨rfl,HB⟩;go_wp2;go_ret;exact⟨rfl,by(with_reducible repeat first|exact Below.refl _ _|refine zc ?_ _|refine zd ?_|refine bset' ?_ (by omega) _|refine zb ?_ (by assumption))⟩
theorem zqR(l:List Rq)(a:Option Addr)(c:Nat)(b:Bool)(a':Int)(w:World)(hl:zs w a l) :
  Calls Tryz.prog 126 #[.slice a l.length c,.bool b,.int .i64 a'] w fun e w'=>e=.returned (.int .i64 (zax (zbM b a') Rq.f l l.length))∧Below w.heap.size w w':=by
 go_enter Tryz.func126,Tryz.ntmps126;go_wp2_with fail;refine(zkh l a c b a' _ _ _ _ _ (hl.later (zbm _ _ _)) (by simp) (by simp)).mono ?_;rintro e w1 ⟨rfl,HB⟩;go_wp2;go_ret;exact⟨rfl,by(with_reducible repeat first|exact Below.refl _ _|refine zc ?_ _|refine zd ?_|refine bset' ?_ (by omega) _|refine zb ?_ (by assumption))⟩
end Go.Proofs.YtlhgjplipgandaaGreat
