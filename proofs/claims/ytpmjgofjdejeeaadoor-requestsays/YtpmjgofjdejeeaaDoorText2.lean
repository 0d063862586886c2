/- The text of a request: the code's, into a strings.Builder. -/
import Derived.Test.YtpmjgofjdejeeaaDoorText
import Derived.Test.YtpmjgofjdejeeaaDoorBuild
namespace Go.Proofs.YtpmjgofjdejeeaaDoor
open Go.RowKit Go.BigFrame
attribute [local go_sem] Later.cell Later.frozen

theorem grown_of_below {w w' : World} (hb : Below w.heap.size w w') : w.grownBy w' none := ⟨hb.os, hb.tape, hb.output, hb.size, fun k hk _ => hb.block k hk⟩
theorem ownsRow_later {w w' : World} {base size n : Nat} {e : TypeId} {v : Value} {xs : List Value} (h : w.ownsRow base e size v n xs) (hb : Below w.heap.size w w') : w'.ownsRow base e size v n xs := by
  refine h.kept (grown_of_below hb) ?_
  cases v.ownBlock with
  | none => exact Or.inl rfl
  | some k => exact Or.inr (by simp)
theorem builder_later {T e : TypeId} {B b : Nat} {p : Value} {bs : List Value} {w w' : World} (h : Lib.BuilderAt T e B b p bs w) (hb : Below w.heap.size w w') : Lib.BuilderAt T e B b p bs w' := by
  have hl := h.lt
  obtain ⟨h1, v, h2, h3, h4⟩ := h
  exact ⟨h1, v, by rw [hb.block b hl]; exact h2, ownsRow_later h3 hb, h4⟩
theorem BuildAt.later {B b : Nat} {s : List UInt8} {w w' : World} (h : BuildAt B b s w) (hb : Below w.heap.size w w') : BuildAt B b s w' :=
  ⟨h.1.elim (fun x => Or.inl (builder_later x hb)) (fun x => Or.inr (builder_later x hb)), Nat.le_trans h.2 hb.size⟩
theorem write_l (B b : Nat) (s t : List UInt8) (w : World) (h : BuildAt B b s w) (hl : s.length + t.length ≤ 100000) :
    Calls Tryd.prog 30 #[.pointer (some ⟨b, 0, none⟩), .string ⟨t.toArray⟩] w fun e w' => e = .returned (.tuple #[.int .i64 t.length, .nilIface]) ∧ BuildAt B b (s ++ t) w' ∧ Below B w w' := by
  refine (write_any B b s ⟨t.toArray⟩ w h (by simp [ByteArray.size]; omega)).mono ?_
  rintro e w' ⟨rfl, h1, h2⟩
  exact ⟨by simp [ByteArray.size], by simpa using h1, h2⟩
theorem letter_any (r : Rq) (w : World) :
    Calls Tryd.prog 31 #[r.val] w fun e w' => e = .returned (.string ⟨(letL r).toArray⟩) ∧ Below w.heap.size w w' := by
  obtain ⟨wr, f, m, da, dc, data, ta, tc, tags, born⟩ := r
  cases wr
  all_goals
    go_enter Tryd.func31, Tryd.ntmps31
    go_wp2
    go_ret
    exact ⟨rfl, by repeat (first | with_reducible exact Below.refl _ _ | with_reducible refine balloc ?_ _ | with_reducible refine bdrew ?_ | with_reducible refine bset' ?_ (by omega) _ | with_reducible refine bthen ?_ (by assumption))⟩
theorem run_eql_func_nil {P : Program} (w : World) (t : TypeId) (ps rs : Array TypeId) (vd : Bool) (f : Fn) (x c : Array Value) (h : P.underlying t = some (.func ps rs vd)) :
    (binOp .eql t (.func f x c) .nilFunc).run P w = .ok (.bool false) w := by
  have h1 : ∀ d, (Op.equalIn (d + 1) t (.func f x c) .nilFunc).run P w = .ok false w := fun d => by simp [Op.equalIn, run_underlying h]
  simp only [binOp]
  simp [Op.equal, Op.maxDepth, h1 9999]
theorem hidT {p : Prop} (h : p) : Hid p := h
theorem bcellB {B : Nat} {W w1 : World} (hb : Below B W w1) : (∀ b o, b < B → w1.cell? ⟨b, o, none⟩ = W.cell? ⟨b, o, none⟩) := fun _ _ h => hb.cell (p := ⟨_, _, none⟩) h

set_option maxHeartbeats 1000000 in
theorem text_any (r : Rq) (w : World) (hr : r.At w) (ht : Tags64 r) (hl : r.tags.length ≤ 8) :
    Calls Tryd.prog 15 #[r.val, .func (.func 16) #[] #[]] w fun e w' => e = .returned (.string ⟨(textT r).toArray⟩) ∧ Below w.heap.size w w' := by
  have q43 : ∀ (w : World) (f : Fn) (x c : Array Value), (binOp .eql 43 (.func f x c) .nilFunc).run Tryd.prog w = .ok (.bool false) w := fun w f x c => run_eql_func_nil w _ _ _ _ f x c Tryd.underlying43
  have l1 := decL_len r.f hr.f
  have l2 := decL_len r.m hr.m
  have lh := headT_len r hr.f hr.m
  have l0 : (letL r).length = 1 := rfl
  have L1 := hidT hr.f
  have L2 := hidT hr.m
  have HT : Hid (headT r = letL r ++ decL r.f ++ [43] ++ decL r.m ++ [35]) := rfl
  have hdl := hr.tl
  have HTG := hidT hr.tags
  have HX : Hid (textT r = headT r ++ tagT r.tags r.tags.length) := rfl
  have HLT := hidT (letter_any r)
  have HTL := hidT (tagT_len r ht)
  clear hr
  obtain ⟨wr0, f, m, da, dc, data, ta, tc, tags, born⟩ := r
  simp only at *
  generalize textT ⟨wr0, f, m, da, dc, data, ta, tc, tags, born⟩ = c9 at *
  generalize headT ⟨wr0, f, m, da, dc, data, ta, tc, tags, born⟩ = c5 at *
  generalize letL ⟨wr0, f, m, da, dc, data, ta, tc, tags, born⟩ = c0 at *
  go_enter Tryd.func15, Tryd.ntmps15
  go_wp2_with fail
  refine (HLT.out _).mono ?_
  rintro e w1 ⟨rfl, hb1⟩
  have hsz : (w.alloc (.cells #[.bool wr0, .int .i64 f, .int .i64 m, .slice da data.length dc, .slice ta tags.length tc, .int .i64 born] 35)).heap.size = w.heap.size + 1 := by simp
  have BA := (build_new (w.alloc (.cells #[.bool wr0, .int .i64 f, .int .i64 m, .slice da data.length dc, .slice ta tags.length tc, .int .i64 born] 35))).later hb1
  rw [hsz] at BA
  have HB := (Below.refl (w.heap.size + 1) (w.alloc (.cells #[.bool wr0, .int .i64 f, .int .i64 m, .slice da data.length dc, .slice ta tags.length tc, .int .i64 born] 35))).trans ((bthen (balloc (Below.refl (w.alloc (.cells #[.bool wr0, .int .i64 f, .int .i64 m, .slice da data.length dc, .slice ta tags.length tc, .int .i64 born] 35)).heap.size (w.alloc (.cells #[.bool wr0, .int .i64 f, .int .i64 m, .slice da data.length dc, .slice ta tags.length tc, .int .i64 born] 35))) _) hb1).mono (Nat.le_of_eq hsz.symm))
  clear hsz
  clear hb1
  go_wp2_with fail
  refine (write_l _ _ _ (c0) _ BA (by simp; omega)).mono ?_; rintro e w2 ⟨rfl, BA2, hb2⟩; replace BA := BA2; replace HB := HB.trans hb2; clear BA2 hb2
  have c1 := (HB.cell (p := ⟨w.heap.size, 1, none⟩) (by simp)).trans (show _ = some (.int .i64 f) by simp)
  go_wp2_with fail
  clear c1
  refine (dec_l _ _ (L1.out)).mono ?_; rintro e w2 ⟨rfl, hb2⟩; replace HB := HB.trans (hb2.mono BA.2); replace BA := BA.later hb2; clear hb2
  go_wp2_with fail
  refine (write_l _ _ _ (decL f) _ BA (by simp; omega)).mono ?_; rintro e w2 ⟨rfl, BA2, hb2⟩; replace BA := BA2; replace HB := HB.trans hb2; clear BA2 hb2
  go_wp2_with fail
  refine (write_l _ _ _ ([43]) _ BA (by simp; omega)).mono ?_; rintro e w2 ⟨rfl, BA2, hb2⟩; replace BA := BA2; replace HB := HB.trans hb2; clear BA2 hb2
  have c2 := (HB.cell (p := ⟨w.heap.size, 2, none⟩) (by simp)).trans (show _ = some (.int .i64 m) by simp)
  go_wp2_with fail
  clear c2
  refine (dec_l _ _ (L2.out)).mono ?_; rintro e w2 ⟨rfl, hb2⟩; replace HB := HB.trans (hb2.mono BA.2); replace BA := BA.later hb2; clear hb2
  go_wp2_with fail
  refine (write_l _ _ _ (decL m) _ BA (by simp; omega)).mono ?_; rintro e w2 ⟨rfl, BA2, hb2⟩; replace BA := BA2; replace HB := HB.trans hb2; clear BA2 hb2
  go_wp2_with fail
  refine (write_l _ _ _ ([35]) _ BA (by simp; omega)).mono ?_; rintro e w2 ⟨rfl, BA2, hb2⟩; replace BA := BA2; replace HB := HB.trans hb2; clear BA2 hb2
  have c4 := (HB.cell (p := ⟨w.heap.size, 4, none⟩) (by simp)).trans (show _ = some (.slice ta tags.length tc) by simp)
  simp only [List.nil_append] at BA
  rw [← HT.out] at BA
  go_wp2_with fail
  go_loopw [30] (fun i wr => ∃ k : Nat, k ≤ tags.length ∧ i = .int .i64 k ∧ BuildAt (w.heap.size + 1) (w.heap.size + 1) (c5 ++ tagT tags k) wr ∧ Below (w.heap.size + 1) (w.alloc (.cells #[.bool wr0, .int .i64 f, .int .i64 m, .slice da data.length dc, .slice ta tags.length tc, .int .i64 born] 35)) wr) (fun i _ => tags.length - (intOf i).toNat)
  case atStart => exact ⟨0, by omega, rfl, by simpa [tagT] using BA, HB⟩
  case round =>
    clear BA HB c4
    obtain ⟨k, hk, rfl, BA, HB⟩ := hrel
    by_cases hlt : k < tags.length
    · obtain ⟨b, o, rfl, ct, lb⟩ := tag_cell HTG.out k hlt
      have h64 := ht k hlt
      have CT : wr.cell? ⟨b, o + k, none⟩ = some (.int .i64 (tags.getD k 0)) := by
        rw [HB.cell (p := ⟨b, o + k, none⟩) (show b < w.heap.size + 1 by omega), World.cell?_alloc_lt _ _ _ lb]; exact ct
      have lt := HTL.out k hk
      have ld := decL_len _ h64
      have HK : Hid (tagT tags (k + 1) = tagT tags k ++ (if k = 0 then [] else [44]) ++ decL (tags.getD k 0)) := rfl
      generalize tags.getD k 0 = tg at *
      generalize htk : tagT tags k = tk at *
      have HTK : Hid _ := htk
      have H64 : Hid (In64 tg) := h64
      clear ct htk h64
      by_cases hk0 : k = 0
      · subst hk0
        have CT0 : wr.cell? ⟨b, o, none⟩ = some (.int .i64 tg) := by simpa using CT
        clear CT
        go_wp2_with fail
        refine (dec_l _ _ (H64.out)).mono ?_; rintro e w2 ⟨rfl, hb2⟩; replace HB := HB.trans (hb2.mono BA.2); replace BA := BA.later hb2; clear hb2
        go_wp2_with fail
        refine (write_l _ _ _ (decL tg) _ BA (by simp; omega)).mono ?_; rintro e w2 ⟨rfl, BA2, hb2⟩; replace BA := BA2; replace HB := HB.trans hb2; clear BA2 hb2
        go_wp2
        go_roundw
        case rel => exact ⟨0 + 1, by omega, by go_num, by rw [HK.out]; simpa using BA, HB⟩
        case measure => simp [intOf]; omega
      · have hk1 : (0 : Int) < (k : Int) := by omega
        go_wp2_with fail
        refine (write_l _ _ _ ([44]) _ BA (by simp; omega)).mono ?_; rintro e w2 ⟨rfl, BA2, hb2⟩; replace BA := BA2; replace HB := HB.trans hb2; clear BA2 hb2
        go_wp2_with fail
        refine (dec_l _ _ (H64.out)).mono ?_; rintro e w2 ⟨rfl, hb2⟩; replace HB := HB.trans (hb2.mono BA.2); replace BA := BA.later hb2; clear hb2
        go_wp2_with fail
        refine (write_l _ _ _ (decL tg) _ BA (by simp; omega)).mono ?_; rintro e w2 ⟨rfl, BA2, hb2⟩; replace BA := BA2; replace HB := HB.trans hb2; clear BA2 hb2
        go_wp2
        go_roundw
        case rel => exact ⟨k + 1, by omega, by go_num, by rw [HK.out, if_neg hk0]; simpa using BA, HB⟩
        case measure => simp [intOf]; omega
    · have hkl : k = tags.length := by omega
      subst hkl
      go_wp2_with fail
      refine (string_any _ _ _ _ BA).mono ?_
      rintro e w2 ⟨rfl, hb2⟩
      replace HB := HB.trans hb2
      go_wp2
      go_ret
      refine ⟨?_, (below1 w _).trans (HB.mono (by omega))⟩
      rw [HX.out]
      rfl
end Go.Proofs.YtpmjgofjdejeeaaDoor
