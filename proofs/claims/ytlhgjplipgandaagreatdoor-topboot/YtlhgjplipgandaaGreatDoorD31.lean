/- Joined texts: Script7, TabW, Script8. -/
import Derived.Lib.AppendIntMem
import Derived.Lib.AtoiErrMem
import Derived.WalkSmall
import Derived.Test.YtlhgjplipgandaaGreatDoorD30
set_option maxRecDepth 100000
set_option maxHeartbeats 8000000
set_option linter.unusedSimpArgs false
namespace Go.Proofs.YtlhgjplipgandaaGreatDoor
open Go.RowKit Go.BigFrame Go.Maps
attribute [local go_sem] ze.cell ze.frozen
theorem strS(a b:List UInt8)(h:a.length+b.length≤9223372036854775807)(W:World):Sem.run Tryz.prog (Op.stringOp .add ⟨a.toArray⟩ ⟨b.toArray⟩) W=.ok (.string ⟨(a++b).toArray⟩) W:=by
 rw[run_string_add_sum]
 ·congr 2
 ·simpa [ByteArray.size] using h
structure LibW(w:World):Prop where
 tab:Lib.TabIs Tryz.prog w "internal/strconv.uint64pow10" .u64 Lib.pow10Tab
 ml:∃m,w.cell? ⟨1,0,none⟩=some (.int .i64 m)
 sx:∃tp p,w.cell? ⟨4,0,none⟩=some (.iface tp p)
 rg:∃tp p,w.cell? ⟨5,0,none⟩=some (.iface tp p)
theorem LibW.later{w w':World}(h:LibW w)(hb:Below w.heap.size w w'):LibW w' :=
 ⟨Lib.tabBelow_of_tabIs h.tab w' hb,h.ml.imp fun _ e=>cellB_later' hb e,h.sx.imp fun _ e=>e.imp fun _ e=>cellB_later' hb e,h.rg.imp fun _ e=>e.imp fun _ e=>cellB_later' hb e⟩
def numT(x y:Int):Nat→List UInt8
 |0=>[]
 |1=>32::Lib.itoa x
 |_=>32::Lib.itoa x++32::Lib.itoa y
end Go.Proofs.YtlhgjplipgandaaGreatDoor
namespace Go.Proofs.YtlhgjplipgandaaGreatDoor
open Go.RowKit
structure TabW(w:World):Prop where
 tab:Lib.TabIs Tryz.prog w "internal/strconv.uint64pow10" .u64 Lib.pow10Tab
theorem TabW.later{w w':World}(h:TabW w)(hb:Below w.heap.size w w'):TabW w':=⟨Lib.tabBelow_of_tabIs h.tab w' hb⟩
theorem zcO(n:Int)(w:World)(h:TabW w)(h0:-9223372036854775808≤n)(h1:n≤9223372036854775807):Calls Tryz.prog 43 #[.int .i64 n] w fun e w'=>e=.returned (.string ⟨(Lib.itoa n).toArray⟩)∧Below w.heap.size w w' :=
 (Tryz.strconv_Itoa n h0 h1 w h.tab).mono (fun e w' h'=>⟨h'.1,by obtain⟨k,os,e'⟩:=h'.2;rw[e'];exact Lib.below_grow _ w (Nat.le_refl _) k os⟩)
end Go.Proofs.YtlhgjplipgandaaGreatDoor
namespace Go.Proofs.YtlhgjplipgandaaGreatDoor
open Go.RowKit Go.BigFrame Go.Maps
attribute [local go_sem] ze.cell ze.frozen
def tailT(d:List UInt8):Bool→List UInt8
 |false=>[]
 |true=>32::(if d.isEmpty then [45] else d)
def St.text(x:St):List UInt8:=x.word.data.toList++numT x.a x.b (zbx x.word).1.toNat++tailT x.data.data.toList (zbx x.word).2
theorem ziV{n:Int}(h:zar n=false):0≤n∧n≤999:=by
 unfold zar at h;simp only[Bool.or_eq_false_iff,decide_eq_false_iff_not] at h
 omega
theorem zi6{x:St}(h:zz x=0):(zb7 x.word).isSome=true∧zei (zbx x.word).1 (zbx x.word).2 x=true∧(0≤x.a∧x.a≤999)∧(0≤x.b∧x.b≤999)∧x.data.size≤9∧zbm x.data=false∧¬x.data=zcX:=by
 unfold zz at h
 split at h
 ·omega
 rename_i h1
 split at h
 ·omega
 rename_i h2
 split at h
 ·omega
 rename_i h3
 split at h
 ·omega
 rename_i h4
 split at h
 ·omega
 rename_i h5
 split at h
 ·omega
 rename_i h6
 have h3':=Bool.or_eq_false_iff.1 (Bool.eq_false_iff.2 h3);exact⟨Bool.not_eq_false _▸h1,Bool.not_eq_false _▸h2,ziV h3'.1,ziV h3'.2,by omega,by simpa using h5,h6⟩
end Go.Proofs.YtlhgjplipgandaaGreatDoor
