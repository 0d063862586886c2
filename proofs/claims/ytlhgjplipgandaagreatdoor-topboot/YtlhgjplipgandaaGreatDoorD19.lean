/- Joined texts: SplitKit. -/
import Derived.Deep.MidRow
import Derived.Test.YtlhgjplipgandaaGreatDoorD5
set_option maxRecDepth 100000
set_option maxHeartbeats 8000000
set_option linter.unusedSimpArgs false
namespace Go.Proofs.YtlhgjplipgandaaGreatDoor
open Go.RowKit Go.BigFrame
attribute [local go_sem] ze.cell ze.frozen
def TxAt(w:World)(a:Option Addr)(xs:List ByteArray):Prop:=xs=[]∨∃b o,a=some ⟨b,o,none⟩∧∀i (h:i<xs.length),w.cell? ⟨b,o+i,none⟩=some (.string xs[i])
theorem TxAt.later{w w':World}{a:Option Addr}{xs:List ByteArray}(h:TxAt w a xs)(hb:Below w.heap.size w w'):TxAt w' a xs:=by
 rcases h with h|⟨b,o,ha,hc⟩
 ·exact Or.inl h
 ·exact Or.inr ⟨b,o,ha,fun i hi=>cellB_later' hb (hc i hi)⟩
end Go.Proofs.YtlhgjplipgandaaGreatDoor
