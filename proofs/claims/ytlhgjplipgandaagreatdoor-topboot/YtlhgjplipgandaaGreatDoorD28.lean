/- Joined texts: Script3. -/
import Derived.Test.YtlhgjplipgandaaGreatDoorShelf
import Derived.Laws.RangeAny
import Derived.Laws.Runes
import Derived.WalkMore
import Derived.Deep.RegionHeld3
import Derived.Test.YtlhgjplipgandaaGreatDoorD6
set_option maxRecDepth 100000
set_option maxHeartbeats 8000000
set_option linter.unusedSimpArgs false
namespace Go.Proofs.YtlhgjplipgandaaGreatDoor
open Go.RowKit Go.BigFrame Go.Maps
attribute [local go_sem] ze.cell ze.frozen
def zbO(x:UInt8):Bool:=x==32||x==10
def zbm(s:ByteArray):Bool:=s.data.toList.any zbO
theorem zkE(s:ByteArray)(i:Nat)(h:i<s.size):s.get! i=s[i]'h:=by
 simp[ByteArray.get!,getElem!_pos,h]
 rfl
theorem zjO(s:ByteArray)(pos:Nat)(h:pos<s.size)(h128:128≤(s[pos]'h).toNat):pos+(Utf8.decode s pos).2≤s.size∧∀k,k<(Utf8.decode s pos).2→∀h2:pos+k<s.size,128≤(s[pos+k]'h2).toNat:=by
 have e0:(s.get! (pos+0)).toNat=(s[pos]'h).toNat:=by rw[Nat.add_zero,zkE s pos h]
 have one:pos+1≤s.size∧∀k,k<1→∀h2:pos+k<s.size,128≤(s[pos+k]'h2).toNat:=⟨by omega,fun k hk h2=>by
  obtain rfl:k=0:=(by omega)
  simpa using h128⟩
 have cont:∀k,(decide (pos+k<s.size)&&(s.get! (pos+k)).toNat / 64==2)=true→∃h2:pos+k<s.size,128≤(s[pos+k]'h2).toNat:=fun k hk=>by
  simp only[Bool.and_eq_true,decide_eq_true_eq,beq_iff_eq] at hk;refine⟨hk.1,?_⟩;rw[zkE s _ hk.1] at hk
  omega
 unfold Utf8.decode;simp only;rw[if_neg (by rw[e0];omega)]
 split
 ·rename_i hc
  rw[Bool.and_eq_true] at hc;obtain⟨l1,g1⟩:=cont 1 hc.2
  split
  ·refine⟨by omega,fun k hk h2=>?_⟩;have:k=0∨k=1:=by omega
   rcases this with rfl|rfl
   ·simpa using h128
   ·exact g1
  ·exact one
 split
 ·rename_i hc
  simp only[Bool.and_eq_true] at hc;obtain⟨l1,g1⟩:=cont 1 (by simpa using hc.1.2);obtain⟨l2,g2⟩:=cont 2 (by simpa using hc.2)
  split
  ·refine⟨by omega,fun k hk h2=>?_⟩;have:k=0∨k=1∨k=2:=by omega
   rcases this with rfl|rfl|rfl
   ·simpa using h128
   ·exact g1
   ·exact g2
  ·exact one
 split
 ·rename_i hc
  simp only[Bool.and_eq_true] at hc;obtain⟨l1,g1⟩:=cont 1 (by simpa using hc.1.1.2);obtain⟨l2,g2⟩:=cont 2 (by simpa using hc.1.2);obtain⟨l3,g3⟩:=cont 3 (by simpa using hc.2)
  split
  ·refine⟨by omega,fun k hk h2=>?_⟩;have:k=0∨k=1∨k=2∨k=3:=by omega
   rcases this with rfl|rfl|rfl|rfl
   ·simpa using h128
   ·exact g1
   ·exact g2
   ·exact g3
  ·exact one
 ·exact one
theorem zk5(s:ByteArray)(pos:Nat):(Utf8.decode s pos).1≤1114111:=by
 have hb:∀k,(s.get! (pos+k)).toNat<256:=fun k=>(s.get! (pos+k)).toNat_lt
 have h0:=hb 0;have h1:=hb 1;have h2:=hb 2;have h3:=hb 3;simp only[Utf8.decode]
 repeat' split
 all_goals simp_all [Utf8.runeError,Utf8.valid]
 all_goals omega
theorem zoX(r:Int)(h:Lib.validRune r=true):Utf8.valid r=true:=by
 unfold Lib.validRune at h;unfold Utf8.valid;simp only[decide_eq_true_eq,Bool.or_eq_true,Bool.and_eq_true] at h ⊢
 omega
theorem zpD(c:Int)(w:World)(h0:128≤c)(h1:c≤1114111):Calls Tryz.prog 155 #[.string ⟨#[32,10]⟩,.int .i32 c] w fun e w'=>e=.returned (.int .i64 (-1))∧Below w.heap.size w w':=by
 have g1:decide ((0:Int)≤c)=true:=decide_eq_true (by omega);have g2:decide (c<(128:Int))=false:=decide_eq_false (by omega)
 by_cases hE:c=65533
 ·subst hE;have n0:∀ty,(Instr.next (.pointer (some ⟨w.heap.size,0,none⟩)) true ty).run Tryz.prog (w.iter ⟨#[32,10]⟩ 0)=.ok (.tuple #[.bool true,.int .i64 0,.int .i32 32]) (w.iter ⟨#[32,10]⟩ 1):=fun ty=>run_next_ascii (P:=Tryz.prog) w ⟨#[32,10]⟩ 0 ty (by decide) (by decide)
  have n1:∀ty,(Instr.next (.pointer (some ⟨w.heap.size,0,none⟩)) true ty).run Tryz.prog (w.iter ⟨#[32,10]⟩ 1)=.ok (.tuple #[.bool true,.int .i64 1,.int .i32 10]) (w.iter ⟨#[32,10]⟩ 2):=fun ty=>run_next_ascii (P:=Tryz.prog) w ⟨#[32,10]⟩ 1 ty (by decide) (by decide)
  have n2:∀ty,(Instr.next (.pointer (some ⟨w.heap.size,0,none⟩)) true ty).run Tryz.prog (w.iter ⟨#[32,10]⟩ 2)=.ok (.tuple #[.bool false]) (w.iter ⟨#[32,10]⟩ 2):=fun ty=>run_next_end (P:=Tryz.prog) w ⟨#[32,10]⟩ 2 ty (by decide)
  go_enter Tryz.func155,Tryz.ntmps155;go_wp2
  go_loopg [5,6] 2 (fun g _ _ wx=>∃i:Nat,i+g=2∧wx=w.iter ⟨#[32,10]⟩ i)
  case atStart=>exact⟨0,rfl,rfl⟩
  case round =>
   obtain⟨i,hig,rfl⟩:=hrel;have hi:i=0∨i=1∨i=2:=by omega
   rcases hi with rfl|rfl|rfl
   ·go_wp2
    go_roundg 1
    case measure=>omega
    case rel=>exact⟨1,rfl,rfl⟩
   ·go_wp2
    go_roundg 0
    case measure=>omega
    case rel=>exact⟨2,rfl,rfl⟩
   ·go_wp2;go_ret;exact⟨rfl,(Below.refl _ _).alloc (Nat.le_refl _) _⟩
 ·have ge:(c==(65533:Int))=false:=beq_eq_false_iff_ne.2 hE
  cases hv:Lib.validRune c
  ·go_enter Tryz.func155,Tryz.ntmps155;go_wp2_with fail;refine(Tryz.utf8_ValidRune c _).mono ?_;rw[hv];rintro e w1 ⟨rfl,rfl⟩;go_wp2;go_ret;exact⟨rfl,by(with_reducible repeat first|exact Below.refl _ _|refine zc ?_ _|refine zd ?_|refine bset' ?_ (by omega) _|refine zb ?_ (by assumption))⟩
  ·obtain⟨e1,e2,e3⟩:=encode_facts c (zoX c hv) h0;have HE:∃E:ByteArray,Utf8.encode c=E:=⟨_,rfl⟩
   obtain⟨E,hE2⟩:=HE;have hcv:∀w',(convert 21 9 (.int .i32 c)).run Tryz.prog w'=.ok (.string E) w':=fun w'=>by rw[←hE2];exact run_convert_int_string w' _ _ _ _ rfl Tryz.underlying9
   rw[hE2] at e1 e2 e3;clear hE2;obtain⟨⟨l⟩⟩:=E;have e1':2≤l.length:=e1;have e2':l.length≤4:=e2;clear e1 e2;go_enter Tryz.func155,Tryz.ntmps155;go_wp2_with fail;refine(Tryz.utf8_ValidRune c _).mono ?_;rw[hv];rintro e w1 ⟨rfl,rfl⟩
   rcases l with _|⟨x0,_|⟨x1,_|⟨x2,_|⟨x3,_|⟨x4,l⟩⟩⟩⟩⟩
   ·simp at e1'
   ·simp at e1'
   ·have g5:∀(k1:1<(ByteArray.mk #[32,10]).size) (k2:1<(ByteArray.mk ⟨[x0,x1]⟩).size),((((ByteArray.mk #[32,10])[1]'k1).toNat:Int) != (((ByteArray.mk ⟨[x0,x1]⟩)[1]'k2).toNat:Int))=true:=fun k1 k2=>by
     have h5:128≤((ByteArray.mk ⟨[x0,x1]⟩)[1]'k2).toNat:=e3 (by show(1:Nat)<2;omega);have h6:((ByteArray.mk #[32,10])[1]'k1).toNat=10:=rfl;simp only[bne_iff_ne,ne_eq]
     omega
    go_wp2
    go_step3
    go_wp2
    go_loopw[9] (fun i wr=>i=.int .i64 1∧Below w1.heap.size w1 wr) (fun _ _=>0)
    case atStart=>exact⟨rfl,Below.refl _ _⟩
    case round =>
     obtain⟨rfl,hb⟩:=hrel;go_wp2_with fail;have hib:∀y,Lib.indexByte [] y=-1:=fun _=>rfl
     have hw2:IntKind.i64.wrap 2=2:=by decide
     go_step3
     go_wp2_with fail
     go_region_held3 (fun w'=>Below w1.heap.size w1 w') (exact(by(with_reducible repeat first|exact Below.refl _ _|refine zc ?_ _|refine zd ?_|refine bset' ?_ (by omega) _|refine zb ?_ (by assumption)))) (fail)
     all_goals
      go_wp2_with fail
      go_region_held3 (fun w'=>Below w1.heap.size w1 w') (exact(by(with_reducible repeat first|exact Below.refl _ _|refine zc ?_ _|refine zd ?_|refine bset' ?_ (by omega) _|refine zb ?_ (by assumption)))) (first|(go_at_call 193;refine(Tryz.strings_IndexByte _ _ _).mono ?_;rintro e w2 ⟨rfl,rfl⟩))
      all_goals
       go_wp2;rw[Exit.noGoto_ret];go_wp2;rw[Exit.noGoto_ret];go_ret;exact⟨rfl,zb hb (by(with_reducible repeat first|exact Below.refl _ _|refine zc ?_ _|refine zd ?_|refine bset' ?_ (by omega) _|refine zb ?_ (by assumption)))⟩
   ·go_wp2
    go_step3
    go_wp2
    go_loopw[9] (fun i wr=>i=.int .i64 2∧Below w1.heap.size w1 wr) (fun _ _=>0)
    case atStart=>exact⟨rfl,Below.refl _ _⟩
    case round =>
     obtain⟨rfl,hb⟩:=hrel;go_wp2;rw[Exit.noGoto_ret];go_ret;exact⟨rfl,hb⟩
   ·go_wp2
    go_step3
    go_wp2
    go_loopw[9] (fun i wr=>i=.int .i64 3∧Below w1.heap.size w1 wr) (fun _ _=>0)
    case atStart=>exact⟨rfl,Below.refl _ _⟩
    case round =>
     obtain⟨rfl,hb⟩:=hrel;go_wp2;rw[Exit.noGoto_ret];go_ret;exact⟨rfl,hb⟩
   ·exact absurd e2' (by simp only[List.length_cons];omega)
end Go.Proofs.YtlhgjplipgandaaGreatDoor
