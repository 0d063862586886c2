/- The document's answer: a device, and what ties it to the code's: the lists alone. -/
import Derived.Test.YthmeaclekedilacDev15
namespace Go.Proofs.Ythmeaclekedilac
open Go.RowKit Go.BigFrame

/-- A put that waits. -/
structure Pu where
  pl : Nat
  data : ByteArray
/-- What the document's device holds. -/
structure Rd where
  kept : List ByteArray
  now : List ByteArray
  waits : List Pu
  busy : List Rq
/-- What is kept of the puts behind the first i. -/
def applyP (kp : Int) : Nat → List Pu → List ByteArray → List ByteArray
  | _, [], G => G
  | i, x :: l, G => applyP kp (i + 1) l (if bitOn kp (i % 64) = true then G.set x.pl x.data else G)
theorem applyP_snoc (kp : Int) (l : List Pu) (x : Pu) : ∀ (i : Nat) (G : List ByteArray), applyP kp i (l ++ [x]) G = if bitOn kp ((i + l.length) % 64) = true then (applyP kp i l G).set x.pl x.data else applyP kp i l G := by
  induction l with
  | nil => intro i G; rfl
  | cons y l ih =>
    intro i G
    show applyP kp (i + 1) (l ++ [x]) _ = _
    rw [ih, List.length_cons, show i + 1 + l.length = i + (l.length + 1) by omega]
    rfl
theorem applyP_length (kp : Int) (l : List Pu) : ∀ (i : Nat) (G : List ByteArray), (applyP kp i l G).length = G.length := by
  induction l with
  | nil => intro i G; rfl
  | cons y l ih => intro i G; show (applyP kp (i + 1) l _).length = _; rw [ih]; split <;> simp
def Rd.write (m : Rd) (p : Nat) (s : ByteArray) : Rd := { m with now := m.now.set p s, waits := m.waits ++ [⟨p, s⟩] }
def Rd.flush (m : Rd) : Rd := { m with kept := m.now, waits := [] }
def Rd.crash (m : Rd) (kp : Int) : Rd := ⟨applyP kp 0 m.waits m.kept, applyP kp 0 m.waits m.kept, [], []⟩
/-- What ties them. -/
structure Tied (d : Dl) (m : Rd) : Prop where
  now : d.now = m.now
  good : d.good = m.kept
  next : d.next = m.waits.length % 64
  same : ∀ kp, d.after kp = applyP kp 0 m.waits m.kept
theorem Tied.start : Tied d0 ⟨List.replicate 32 ByteArray.empty, List.replicate 32 ByteArray.empty, [], []⟩ := ⟨rfl, rfl, rfl, fun _ => rfl⟩
theorem Tied.write {d : Dl} {m : Rd} (h : Tied d m) (p : Nat) (s : ByteArray) : Tied (d.write p s) (m.write p s) where
  now := by show d.now.set p s = m.now.set p s; rw [h.now]
  good := h.good
  next := by
    have := h.next
    show (d.next + 1) % 64 = (m.waits ++ [(⟨p, s⟩ : Pu)]).length % 64
    rw [List.length_append, List.length_singleton]; omega
  same := fun kp => by
    show (d.write p s).after kp = applyP kp 0 (m.waits ++ [⟨p, s⟩]) m.kept
    rw [after_write, applyP_snoc, h.same kp, h.next, Nat.zero_add]
theorem Tied.busy {d : Dl} {m : Rd} (h : Tied d m) (l l' : List Rq) : Tied { d with busy := l } { m with busy := l' } := ⟨h.now, h.good, h.next, h.same⟩
theorem Tied.flush {d : Dl} {m : Rd} (h : Tied d m) : Tied d.flush m.flush := ⟨h.now, h.now, rfl, fun _ => h.now⟩
theorem Tied.crash {d : Dl} {m : Rd} (h : Tied d m) (kp : Int) : Tied (d.crash kp) (m.crash kp) := ⟨h.same kp, h.same kp, rfl, fun _ => h.same kp⟩
/-- A request's writes, one by one. -/
def Rd.writesTo (m : Rd) (r : Rq) (n : Nat) : Rd := (List.range n).foldl (fun m j => m.write (r.f.toNat + j) (r.data.getD j ByteArray.empty)) m
theorem Rd.writesTo_succ (m : Rd) (r : Rq) (n : Nat) : m.writesTo r (n + 1) = (m.writesTo r n).write (r.f.toNat + n) (r.data.getD n ByteArray.empty) := by simp [Rd.writesTo, List.range_succ]
theorem Tied.writesTo {d : Dl} {m : Rd} (h : Tied d m) (r : Rq) (n : Nat) : Tied (d.writesTo r n) (m.writesTo r n) := by
  induction n with
  | zero => exact h
  | succ n ih => rw [Dl.writesTo_succ, Rd.writesTo_succ]; exact ih.write _ _
def Rd.did (m : Rd) (r : Rq) : Rd := if r.wr = true then m.writesTo r r.m.toNat else m
theorem Tied.did {d : Dl} {m : Rd} (h : Tied d m) (r : Rq) : Tied (d.did r) (m.did r) := by
  unfold Dl.did Rd.did
  split
  · exact h.writesTo r _
  · exact h
theorem Rd.writesTo_busy (m : Rd) (r : Rq) (n : Nat) : (m.writesTo r n).busy = m.busy := by
  induction n with
  | zero => rfl
  | succ n ih => rw [Rd.writesTo_succ]; exact ih
end Go.Proofs.Ythmeaclekedilac
