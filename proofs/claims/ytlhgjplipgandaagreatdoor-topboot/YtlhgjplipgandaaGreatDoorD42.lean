/- Joined texts: OpenReq. -/
import Derived.Deep.Slices
import Derived.Deep.Strs
import Derived.Test.YtlhgjplipgandaaGreatDoorD41
set_option maxRecDepth 100000
set_option maxHeartbeats 8000000
set_option linter.unusedSimpArgs false
namespace Go.Proofs.YtlhgjplipgandaaGreatDoor
open Go.ChangeShapes Go.WideShapes Go.RowKit Go.Deep
theorem ziX:Tryz.prog.cellsOf 3=1:=by kernel_rfl
theorem ziY:Tryz.prog.cellsOf 9=1:=by kernel_rfl
theorem zma(b o i:Nat):(Addr.add ⟨b,o,none⟩ i)=⟨b,o+i,none⟩:=by
 unfold Addr.add;split
 ·rename_i h;subst h;rfl
 ·rfl
section
variable{H:Type}{enc:TypeId × Value→H}{W:World}{base b0 fuel:Nat}{spare:Nat→Bool}{held:Bool}{r:Reach}{v:Value}{d:DataW H}{p:List MemPlace}{x:DataW H × List MemPlace}{cs:List Value}
theorem zfK{fs:Array Field}{xs:List (DataW H × List MemPlace)}{n:Nat}(hf:∀(i:Nat) (f:Field),fs[i]?=some f→DataW.trod enc Tryz.prog W base spare held n f.type ((cs.drop f.offset).take (Tryz.prog.cellsOf f.type))=xs[i]?)
 (i T o c:Nat) (h:(fs[i]?).map (fun f=>(f.type,f.offset))=some (T,o)) (hc:Tryz.prog.cellsOf T=c) (hi:i<xs.length):∃y,DataW.trod enc Tryz.prog W base spare held n T ((cs.drop o).take c)=some y:=by
 cases e:fs[i]? with
 |none=>rw[e] at h;cases h
 |some f =>
  rw[e] at h;simp only[Option.map_some,Option.some.injEq,Prod.mk.injEq] at h;obtain⟨rfl,rfl⟩:=h;subst hc;exact⟨_,(hf i f e).trans (List.getElem?_eq_getElem hi)⟩
theorem six{cs:List Value}(h:cs.length=6):∃a b c d e f,cs=[a,b,c,d,e,f]:=by
 match cs,h with
 |[a,b,c,d,e,f],_=>exact⟨a,b,c,d,e,f,rfl⟩
end
end Go.Proofs.YtlhgjplipgandaaGreatDoor
