/- Joined. -/
import Derived.Test.YtlhgjplipgandaaGreatDoorChecked
import Derived.ProofKit
import Derived.OpenShut
import Derived.Lib.SmallJoins
import Derived.Deep.Slices
import Derived.Deep.Strs
import Derived.Test.YtlhgjplipgandaaGreatDoorF1
set_option maxRecDepth 100000
set_option maxHeartbeats 8000000
set_option linter.unusedSimpArgs false
set_option linter.unusedSectionVars false
namespace Go.Proofs.YtlhgjplipgandaaGreatDoor
open Tryz
section
open Go.ChangeShapes Go.WideShapes Go.RowKit
theorem own:ownKnob prog.godebug=none:=kR
theorem laidOut:laidOutB prog=true:=kR
section
variable{H:Type}{enc:TypeId × Value->H}{W:World}{base b0:Nat}{spare:Nat->Bool}{held:Bool}{r:Reach}{v:Value}{d:DataW H}{p:List MemPlace}
end
end
section
open Go.ChangeShapes Go.WideShapes Go.RowKit Go.Deep
theorem VX:prog.cellsOf 9=1:=kR
theorem Va{w:World}{a:Addr}{v:Value}(h:w.cell? (a.add 0)=some v):a=⟨a.block,a.off,none⟩:=by
 have:a.spot=none:=by simpa [Addr.add] using World.cell?_spot h
 cases a;simp_all
theorem abA(b o i:Nat):(Addr.add ⟨b,o,none⟩ i)=⟨b,o+i,none⟩:=by
 unfold Addr.add;split
 ·rename_i h;subst h;rfl
 ·rfl
section
variable{H:Type}{enc:TypeId × Value->H}{W:World}{base b0 fuel:Nat}{spare:Nat->Bool}{held:Bool}{r:Reach}{v:Value}{d:DataW H}{p:List MemPlace}{x:DataW H × List MemPlace}{cs:List Value}
theorem openStrs(h:DataW.trod enc prog W base spare held fuel 51 cs=some x):∃a c xs,cs=[.slice a (List.length xs) c]/\StrsAt W a xs/\List.length xs<=9223372036854775807/\(a=none->c=0):=by
 rcases open_strs underlying51 underlying9 VX h with⟨rfl,_⟩|⟨a,len,cap,m,Sx,rfl,_,hl,hm,Tt,_,hc⟩
 ·exact⟨none,0,[],rfl,il rfl,sM,fun _=>rfl⟩
 ·have hlm:len<=m:=by rw[Tt];split<;>omega
  refine⟨some a,cap,(List.range len).map Sx,sM,?_,by simp;unfold maxLen at hm;omega,sM⟩
  rcases age len with rfl|hp
  ·exact il rfl
  ·right
   have e:=Va (hc 0 oM).1;refine⟨a.block,a.off,by rw[<-e],fun i hi=>?_⟩;simp only[abe,List.length_range] at hi;have:=(hc i oM).1;rw[e,abA] at this;rw[this];simp[List.getD,hi]
theorem six{cs:List Value}(h:cs.length=6):∃a b c d e f,cs=[a,b,c,d,e,f]:=by
 match cs,h with
 |[a,b,c,d,e,f],_=>exact⟨a,b,c,d,e,f,rfl⟩
end
end
end Go.Proofs.YtlhgjplipgandaaGreatDoor
