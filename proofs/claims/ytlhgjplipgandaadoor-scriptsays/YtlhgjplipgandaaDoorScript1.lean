/- The words of a script's steps, and what parts they have. -/
import Derived.Test.YtlhgjplipgandaaDoorBuf
import Derived.Test.YtlhgjplipgandaaDoorHidT
import Derived.Maps.OwnSet
import Derived.Maps.OwnOps
import Derived.Maps.Views
namespace Go.Proofs.YtlhgjplipgandaaDoor
open Go.RowKit Go.BigFrame Go.Maps
attribute [local go_sem] Later.cell Later.frozen

theorem isMap_putS (D : DataW Unit) (h : IsMap D) (k : Lit) (d : DataW Unit) : IsMap (D.put k d) := by
  obtain ⟨l, rfl⟩ := h
  exact ⟨_, rfl⟩
/-- How the parts of a word read. -/
def partD (n : Int) (b : Bool) : DataW Unit := .agg [.lit (.int .i64 n), .lit (.bool b)]
def partE (v : Value) : Option (DataW Unit × List MemPlace) := match v with
  | .agg xs => match xs.toList with
    | [.int q n, .bool b] => if q = .i64 then some (partD n b, []) else none
    | _ => none
  | _ => none
theorem partE_mk (n : Int) (b : Bool) : partE (.agg #[.int .i64 n, .bool b]) = some (partD n b, []) := rfl
theorem partE_inv {v : Value} {n : Int} {b : Bool} {ps : List MemPlace} (h : partE v = some (partD n b, ps)) : v = .agg #[.int .i64 n, .bool b] := by
  unfold partE at h
  split at h
  · rename_i xs
    split at h
    · rename_i q m c hx
      split at h
      · rename_i hq
        simp only [Option.some.injEq, Prod.mk.injEq, partD, DataW.agg.injEq, List.cons.injEq, DataW.lit.injEq, Lit.int.injEq, Lit.bool.injEq, true_and, and_true] at h
        obtain ⟨⟨rfl, rfl⟩, _⟩ := h
        subst hq
        congr 1
        apply Array.toList_inj.1
        rw [hx]
      · cases h
    · cases h
  · cases h
/-- What a map of words says of each. -/
structure WIs (D : DataW Unit) (g : ByteArray → Option (Int × Bool)) : Prop where
  im : IsMap D
  at' : ∀ s : ByteArray, D.atKey (.string s.data.toList) (partD 0 false) = (match g s with | some p => partD p.1 p.2 | none => partD 0 false)
  has : ∀ s : ByteArray, Maps.has D (.string s.data.toList) = (g s).isSome
theorem wis_nil : WIs (.map []) (fun _ => none) := ⟨⟨_, rfl⟩, fun _ => rfl, fun _ => rfl⟩
theorem str_key {s t : ByteArray} (h : ¬ s = t) : (Lit.string s.data.toList) ≠ (Lit.string t.data.toList) := by
  intro e
  simp only [Lit.string.injEq] at e
  apply h
  cases s; cases t
  simp only [ByteArray.mk.injEq]
  exact Array.toList_inj.1 e
theorem WIs.put {D : DataW Unit} {g : ByteArray → Option (Int × Bool)} (h : WIs D g) (k : ByteArray) (n : Int) (b : Bool) : WIs (D.put (.string k.data.toList) (partD n b)) (fun s => if s = k then some (n, b) else g s) := by
  refine ⟨isMap_putS _ h.im _ _, fun s => ?_, fun s => ?_⟩
  · by_cases e : s = k
    · subst e
      rw [atKey_put_same h.im (by trivial), if_pos rfl]
    · rw [atKey_put_other (str_key e), if_neg e]
      exact h.at' s
  · by_cases e : s = k
    · subst e
      rw [has_put_same h.im (by trivial), if_pos rfl]; rfl
    · rw [has_put_other (str_key e), if_neg e]
      exact h.has s
theorem below_turn {bm : Nat} {W w w' : World} (h : Below W.heap.size W w) (ht : w.mapTurned w' bm) (hb : W.heap.size ≤ bm) : Below W.heap.size W w' := by
  have g := ht.grown
  have hs := h.size
  exact ⟨g.os.trans h.os, g.tape.trans h.tape, g.output.trans h.output, Nat.le_trans h.size g.size, fun k hk => (g.block k (by omega) (fun e => by have := Option.some.inj e; omega)).trans (h.block k hk)⟩
theorem wpList_insert_own {P : Program} (w : World) {ops : Array Oper} {rest : List Oper} {o : Oper} {a : Act} {Q : Exit → Act → World → Prop} (hg : o.guard = none) (m x v : Operand) (t : TypeId) (hop : o.op = Op.insert t m x v)
    (k e : TypeId) (K : Keyed P k) (ht : P.underlying t = some (.map k e)) (R : Value → Option (DataW Unit × List MemPlace)) (b n : Nat) (D : DataW Unit)
    (hm : a.eval m = .map (some b)) (hown : w.ownsMap P k R b n D) (hn : n < maxLen) (key val : Value) (kl : Lit) (hx : a.eval x = key) (hv : a.eval v = val) (hkey : keyOf P k key = some kl)
    (d : DataW Unit) (ps : List MemPlace) (hval : R val = some (d, ps))
    (hK : ∀ w', w'.ownsMap P k R b (n + 1) (D.put kl d) → w.mapTurned w' b → wpList P ops Q rest (a.put o.dst undef) w') :
    wpList P ops Q (o :: rest) a w := by
  refine wpList_plain hg fun K' hK' => ?_
  obtain ⟨w', hrun, r1, r2⟩ := hown.store K ht hn hkey hval
  unfold Oper.wp
  simp [execOp, hop, hm, hx, hv, hrun, Result.andThen]
  exact hK' _ _ (hK w' r1 r2)
/-- What stands while the words are laid. -/
def WsAt (w : World) (k : Nat) (g : ByteArray → Option (Int × Bool)) (w' : World) : Prop := ∃ D, w'.ownsMap Tryd.prog 9 partE w.heap.size k D ∧ WIs D g ∧ Below w.heap.size w w'
def swRead : ByteArray := ⟨#[114, 101, 97, 100]⟩
def swWrite : ByteArray := ⟨#[119, 114, 105, 116, 101]⟩
def swSync : ByteArray := ⟨#[115, 121, 110, 99]⟩
def swGot : ByteArray := ⟨#[103, 111, 116]⟩
def swEnd : ByteArray := ⟨#[101, 110, 100]⟩
def swFault : ByteArray := ⟨#[102, 97, 117, 108, 116]⟩
def swSettle : ByteArray := ⟨#[115, 101, 116, 116, 108, 101]⟩
def swCrash : ByteArray := ⟨#[99, 114, 97, 115, 104]⟩
def swTick : ByteArray := ⟨#[116, 105, 99, 107]⟩
def swClean : ByteArray := ⟨#[99, 108, 101, 97, 110]⟩
def swDispatch : ByteArray := ⟨#[100, 105, 115, 112, 97, 116, 99, 104]⟩
def swRound : ByteArray := ⟨#[114, 111, 117, 110, 100]⟩
def swQueue : ByteArray := ⟨#[113, 117, 101, 117, 101]⟩
def swBusy : ByteArray := ⟨#[98, 117, 115, 121]⟩
def swDirty : ByteArray := ⟨#[100, 105, 114, 116, 121]⟩
/-- The parts of a word: how many numbers, and data. -/
def wordF (s : ByteArray) : Option (Int × Bool) :=
  if s = swDirty then some (0, false) else if s = swBusy then some (0, false) else if s = swQueue then some (0, false) else if s = swRound then some (0, false) else
  if s = swDispatch then some (0, false) else if s = swClean then some (0, false) else if s = swTick then some (0, false) else if s = swCrash then some (1, false) else
  if s = swSettle then some (1, false) else if s = swFault then some (1, false) else if s = swEnd then some (1, false) else if s = swGot then some (1, false) else
  if s = swSync then some (1, false) else if s = swWrite then some (2, true) else if s = swRead then some (2, false) else none
theorem insert_step {w w' : World} {k : Nat} {g : ByteArray → Option (Int × Bool)} {D : DataW Unit} (hD : WIs D g) (hb : Below w.heap.size w w') {x : ByteArray} {n : Int} {b : Bool} {w2 : World} (h2 : w2.ownsMap Tryd.prog 9 partE w.heap.size (k + 1) (D.put (.string x.data.toList) (partD n b))) (ht : w'.mapTurned w2 w.heap.size) : WsAt w (k + 1) (fun s => if s = x then some (n, b) else g s) w2 := ⟨_, h2, hD.put x n b, below_turn hb ht (Nat.le_refl _)⟩
set_option maxRecDepth 100000 in
set_option maxHeartbeats 2000000 in
theorem words_any (w : World) : Calls Tryd.prog 14 #[] w fun e w' => e = .returned (.map (some w.heap.size)) ∧ WsAt w 15 wordF w' := by
  have h0 : WsAt w 0 (fun _ => none) (w.alloc (.map #[] 0)) := ⟨_, World.ownsMap_made w _ _ _, wis_nil, below1 w _⟩
  have H0 := hidT h0
  clear h0
  have hmm := @run_makeMap Tryd.prog
  go_enter Tryd.func14, Tryd.ntmps14
  go_wp2_with (first | (obtain ⟨D, ho, hw, hb⟩ := H0.out; have HD := hidT hw; have HB := hidT hb; clear hw hb; have hkey : keyOf Tryd.prog 9 (.string swRead) = some (.string swRead.data.toList) := WideMaps.keyOf_string_mk Tryd.underlying9 (by unfold maxLen; decide); refine wpList_insert_own _ rfl _ _ _ 44 rfl 9 43 (string_keyed Tryd.underlying9) Tryd.underlying44 partE w.heap.size 0 D rfl ho (by unfold maxLen; omega) _ _ _ rfl rfl hkey (partD 2 false) [] (partE_mk 2 false) ?_; intro w2 ho2 ht2; have H1 := hidT (insert_step HD.out HB.out ho2 ht2); clear ho ho2 ht2 HD HB hkey H0) | (obtain ⟨D, ho, hw, hb⟩ := H1.out; have HD := hidT hw; have HB := hidT hb; clear hw hb; have hkey : keyOf Tryd.prog 9 (.string swWrite) = some (.string swWrite.data.toList) := WideMaps.keyOf_string_mk Tryd.underlying9 (by unfold maxLen; decide); refine wpList_insert_own _ rfl _ _ _ 44 rfl 9 43 (string_keyed Tryd.underlying9) Tryd.underlying44 partE w.heap.size 1 D rfl ho (by unfold maxLen; omega) _ _ _ rfl rfl hkey (partD 2 true) [] (partE_mk 2 true) ?_; intro w2 ho2 ht2; have H2 := hidT (insert_step HD.out HB.out ho2 ht2); clear ho ho2 ht2 HD HB hkey H1) | (obtain ⟨D, ho, hw, hb⟩ := H2.out; have HD := hidT hw; have HB := hidT hb; clear hw hb; have hkey : keyOf Tryd.prog 9 (.string swSync) = some (.string swSync.data.toList) := WideMaps.keyOf_string_mk Tryd.underlying9 (by unfold maxLen; decide); refine wpList_insert_own _ rfl _ _ _ 44 rfl 9 43 (string_keyed Tryd.underlying9) Tryd.underlying44 partE w.heap.size 2 D rfl ho (by unfold maxLen; omega) _ _ _ rfl rfl hkey (partD 1 false) [] (partE_mk 1 false) ?_; intro w2 ho2 ht2; have H3 := hidT (insert_step HD.out HB.out ho2 ht2); clear ho ho2 ht2 HD HB hkey H2) | (obtain ⟨D, ho, hw, hb⟩ := H3.out; have HD := hidT hw; have HB := hidT hb; clear hw hb; have hkey : keyOf Tryd.prog 9 (.string swGot) = some (.string swGot.data.toList) := WideMaps.keyOf_string_mk Tryd.underlying9 (by unfold maxLen; decide); refine wpList_insert_own _ rfl _ _ _ 44 rfl 9 43 (string_keyed Tryd.underlying9) Tryd.underlying44 partE w.heap.size 3 D rfl ho (by unfold maxLen; omega) _ _ _ rfl rfl hkey (partD 1 false) [] (partE_mk 1 false) ?_; intro w2 ho2 ht2; have H4 := hidT (insert_step HD.out HB.out ho2 ht2); clear ho ho2 ht2 HD HB hkey H3) | (obtain ⟨D, ho, hw, hb⟩ := H4.out; have HD := hidT hw; have HB := hidT hb; clear hw hb; have hkey : keyOf Tryd.prog 9 (.string swEnd) = some (.string swEnd.data.toList) := WideMaps.keyOf_string_mk Tryd.underlying9 (by unfold maxLen; decide); refine wpList_insert_own _ rfl _ _ _ 44 rfl 9 43 (string_keyed Tryd.underlying9) Tryd.underlying44 partE w.heap.size 4 D rfl ho (by unfold maxLen; omega) _ _ _ rfl rfl hkey (partD 1 false) [] (partE_mk 1 false) ?_; intro w2 ho2 ht2; have H5 := hidT (insert_step HD.out HB.out ho2 ht2); clear ho ho2 ht2 HD HB hkey H4) | (obtain ⟨D, ho, hw, hb⟩ := H5.out; have HD := hidT hw; have HB := hidT hb; clear hw hb; have hkey : keyOf Tryd.prog 9 (.string swFault) = some (.string swFault.data.toList) := WideMaps.keyOf_string_mk Tryd.underlying9 (by unfold maxLen; decide); refine wpList_insert_own _ rfl _ _ _ 44 rfl 9 43 (string_keyed Tryd.underlying9) Tryd.underlying44 partE w.heap.size 5 D rfl ho (by unfold maxLen; omega) _ _ _ rfl rfl hkey (partD 1 false) [] (partE_mk 1 false) ?_; intro w2 ho2 ht2; have H6 := hidT (insert_step HD.out HB.out ho2 ht2); clear ho ho2 ht2 HD HB hkey H5) | (obtain ⟨D, ho, hw, hb⟩ := H6.out; have HD := hidT hw; have HB := hidT hb; clear hw hb; have hkey : keyOf Tryd.prog 9 (.string swSettle) = some (.string swSettle.data.toList) := WideMaps.keyOf_string_mk Tryd.underlying9 (by unfold maxLen; decide); refine wpList_insert_own _ rfl _ _ _ 44 rfl 9 43 (string_keyed Tryd.underlying9) Tryd.underlying44 partE w.heap.size 6 D rfl ho (by unfold maxLen; omega) _ _ _ rfl rfl hkey (partD 1 false) [] (partE_mk 1 false) ?_; intro w2 ho2 ht2; have H7 := hidT (insert_step HD.out HB.out ho2 ht2); clear ho ho2 ht2 HD HB hkey H6) | (obtain ⟨D, ho, hw, hb⟩ := H7.out; have HD := hidT hw; have HB := hidT hb; clear hw hb; have hkey : keyOf Tryd.prog 9 (.string swCrash) = some (.string swCrash.data.toList) := WideMaps.keyOf_string_mk Tryd.underlying9 (by unfold maxLen; decide); refine wpList_insert_own _ rfl _ _ _ 44 rfl 9 43 (string_keyed Tryd.underlying9) Tryd.underlying44 partE w.heap.size 7 D rfl ho (by unfold maxLen; omega) _ _ _ rfl rfl hkey (partD 1 false) [] (partE_mk 1 false) ?_; intro w2 ho2 ht2; have H8 := hidT (insert_step HD.out HB.out ho2 ht2); clear ho ho2 ht2 HD HB hkey H7) | (obtain ⟨D, ho, hw, hb⟩ := H8.out; have HD := hidT hw; have HB := hidT hb; clear hw hb; have hkey : keyOf Tryd.prog 9 (.string swTick) = some (.string swTick.data.toList) := WideMaps.keyOf_string_mk Tryd.underlying9 (by unfold maxLen; decide); refine wpList_insert_own _ rfl _ _ _ 44 rfl 9 43 (string_keyed Tryd.underlying9) Tryd.underlying44 partE w.heap.size 8 D rfl ho (by unfold maxLen; omega) _ _ _ rfl rfl hkey (partD 0 false) [] (partE_mk 0 false) ?_; intro w2 ho2 ht2; have H9 := hidT (insert_step HD.out HB.out ho2 ht2); clear ho ho2 ht2 HD HB hkey H8) | (obtain ⟨D, ho, hw, hb⟩ := H9.out; have HD := hidT hw; have HB := hidT hb; clear hw hb; have hkey : keyOf Tryd.prog 9 (.string swClean) = some (.string swClean.data.toList) := WideMaps.keyOf_string_mk Tryd.underlying9 (by unfold maxLen; decide); refine wpList_insert_own _ rfl _ _ _ 44 rfl 9 43 (string_keyed Tryd.underlying9) Tryd.underlying44 partE w.heap.size 9 D rfl ho (by unfold maxLen; omega) _ _ _ rfl rfl hkey (partD 0 false) [] (partE_mk 0 false) ?_; intro w2 ho2 ht2; have H10 := hidT (insert_step HD.out HB.out ho2 ht2); clear ho ho2 ht2 HD HB hkey H9) | (obtain ⟨D, ho, hw, hb⟩ := H10.out; have HD := hidT hw; have HB := hidT hb; clear hw hb; have hkey : keyOf Tryd.prog 9 (.string swDispatch) = some (.string swDispatch.data.toList) := WideMaps.keyOf_string_mk Tryd.underlying9 (by unfold maxLen; decide); refine wpList_insert_own _ rfl _ _ _ 44 rfl 9 43 (string_keyed Tryd.underlying9) Tryd.underlying44 partE w.heap.size 10 D rfl ho (by unfold maxLen; omega) _ _ _ rfl rfl hkey (partD 0 false) [] (partE_mk 0 false) ?_; intro w2 ho2 ht2; have H11 := hidT (insert_step HD.out HB.out ho2 ht2); clear ho ho2 ht2 HD HB hkey H10) | (obtain ⟨D, ho, hw, hb⟩ := H11.out; have HD := hidT hw; have HB := hidT hb; clear hw hb; have hkey : keyOf Tryd.prog 9 (.string swRound) = some (.string swRound.data.toList) := WideMaps.keyOf_string_mk Tryd.underlying9 (by unfold maxLen; decide); refine wpList_insert_own _ rfl _ _ _ 44 rfl 9 43 (string_keyed Tryd.underlying9) Tryd.underlying44 partE w.heap.size 11 D rfl ho (by unfold maxLen; omega) _ _ _ rfl rfl hkey (partD 0 false) [] (partE_mk 0 false) ?_; intro w2 ho2 ht2; have H12 := hidT (insert_step HD.out HB.out ho2 ht2); clear ho ho2 ht2 HD HB hkey H11) | (obtain ⟨D, ho, hw, hb⟩ := H12.out; have HD := hidT hw; have HB := hidT hb; clear hw hb; have hkey : keyOf Tryd.prog 9 (.string swQueue) = some (.string swQueue.data.toList) := WideMaps.keyOf_string_mk Tryd.underlying9 (by unfold maxLen; decide); refine wpList_insert_own _ rfl _ _ _ 44 rfl 9 43 (string_keyed Tryd.underlying9) Tryd.underlying44 partE w.heap.size 12 D rfl ho (by unfold maxLen; omega) _ _ _ rfl rfl hkey (partD 0 false) [] (partE_mk 0 false) ?_; intro w2 ho2 ht2; have H13 := hidT (insert_step HD.out HB.out ho2 ht2); clear ho ho2 ht2 HD HB hkey H12) | (obtain ⟨D, ho, hw, hb⟩ := H13.out; have HD := hidT hw; have HB := hidT hb; clear hw hb; have hkey : keyOf Tryd.prog 9 (.string swBusy) = some (.string swBusy.data.toList) := WideMaps.keyOf_string_mk Tryd.underlying9 (by unfold maxLen; decide); refine wpList_insert_own _ rfl _ _ _ 44 rfl 9 43 (string_keyed Tryd.underlying9) Tryd.underlying44 partE w.heap.size 13 D rfl ho (by unfold maxLen; omega) _ _ _ rfl rfl hkey (partD 0 false) [] (partE_mk 0 false) ?_; intro w2 ho2 ht2; have H14 := hidT (insert_step HD.out HB.out ho2 ht2); clear ho ho2 ht2 HD HB hkey H13) | (obtain ⟨D, ho, hw, hb⟩ := H14.out; have HD := hidT hw; have HB := hidT hb; clear hw hb; have hkey : keyOf Tryd.prog 9 (.string swDirty) = some (.string swDirty.data.toList) := WideMaps.keyOf_string_mk Tryd.underlying9 (by unfold maxLen; decide); refine wpList_insert_own _ rfl _ _ _ 44 rfl 9 43 (string_keyed Tryd.underlying9) Tryd.underlying44 partE w.heap.size 14 D rfl ho (by unfold maxLen; omega) _ _ _ rfl rfl hkey (partD 0 false) [] (partE_mk 0 false) ?_; intro w2 ho2 ht2; have H15 := hidT (insert_step HD.out HB.out ho2 ht2); clear ho ho2 ht2 HD HB hkey H14))
  go_ret
  exact ⟨rfl, H15.out⟩
end Go.Proofs.YtlhgjplipgandaaDoor
