/- Joined. -/
import Derived.Test.YtlhgjplipgandaaGreatDoorChecked
import Derived.ProofKit
import Derived.OpenShut
import Derived.Lib.SmallJoins
import Derived.Deep.Slices
import Derived.Deep.Strs
import Derived.Test.YtlhgjplipgandaaGreatDoorE1
set_option maxRecDepth 100000
set_option maxHeartbeats 8000000
set_option linter.unusedSimpArgs false
set_option linter.unusedSectionVars false
namespace Go.Proofs.YtlhgjplipgandaaGreatDoor
open Tryz
section
open Go.ChangeShapes Go.WideShapes Go.RowKit
theorem own:ownKnob prog.godebug=none:=kR
theorem laidOut:laidOutB prog=true:=kR
theorem aao{n:Int}(h:(Lit.int .i64 n).wf=true):cY n:=bounds_i64 h
section
variable{H:Type}{enc:TypeId × Value->H}{W:World}{base b0:Nat}{spare:Nat->Bool}{held:Bool}{r:Reach}{v:Value}{d:DataW H}{p:List MemPlace}
end
end
section
open Go.ChangeShapes Go.WideShapes Go.RowKit Go.Deep
theorem Je:prog.cellsOf 3=1:=kR
theorem Jf:prog.cellsOf 9=1:=kR
theorem Qd(b o i:Nat):(Addr.add ⟨b,o,none⟩ i)=⟨b,o+i,none⟩:=by
 unfold Addr.add;split
 ·rename_i h;subst h;rfl
 ·rfl
section
variable{H:Type}{enc:TypeId × Value->H}{W:World}{base b0 fuel:Nat}{spare:Nat->Bool}{held:Bool}{r:Reach}{v:Value}{d:DataW H}{p:List MemPlace}{x:DataW H × List MemPlace}{cs:List Value}
theorem Bw{fs:Array Field}{xs:List (DataW H × List MemPlace)}{n:Nat}(hf:∀(i:Nat) (f:Field),fs[i]?=some f->DataW.trod enc prog W base spare held n f.type ((cs.drop f.offset).take (prog.cellsOf f.type))=xs[i]?)
 (i T o c:Nat) (h:(fs[i]?).map (fun f=>(f.type,f.offset))=some (T,o)) (hc:prog.cellsOf T=c) (hi:i<xs.length):∃y,DataW.trod enc prog W base spare held n T ((cs.drop o).take c)=some y:=by
 cases e:fs[i]? with
 |none=>rw[e] at h;cases h
 |some f =>
  rw[e] at h;simp only[adE,ace,ada] at h;obtain⟨rfl,rfl⟩:=h;subst hc;exact⟨_,(hf i f e).trans (acb hi)⟩
theorem six{cs:List Value}(h:cs.length=6):∃a b c d e f,cs=[a,b,c,d,e,f]:=by
 match cs,h with
 |[a,b,c,d,e,f],_=>exact⟨a,b,c,d,e,f,rfl⟩
end
end
end Go.Proofs.YtlhgjplipgandaaGreatDoor
