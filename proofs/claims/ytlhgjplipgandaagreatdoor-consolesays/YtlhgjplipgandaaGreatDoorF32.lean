/- Joined. -/
import Derived.Deep.MidRow
import Derived.Test.YtlhgjplipgandaaGreatDoorF1
set_option maxRecDepth 100000
set_option maxHeartbeats 8000000
set_option linter.unusedSimpArgs false
set_option linter.unusedSectionVars false
namespace Go.Proofs.YtlhgjplipgandaaGreatDoor
open Tryz
open Go.RowKit Go.BigFrame
theorem Ly:(prog.info? 9).map (fun i=>(i.zero,i.size,i.bytes))=some (some (.string bE),1,16):=kR
def n5(l:List ByteArray):List Value:=l.map Value.string
def abw(w:World)(a:Option Addr)(xs:List ByteArray):Prop:=xs=[]\/∃b o,a=some ⟨b,o,none⟩/\∀i (h:i<xs.length),w.cell? ⟨b,o+i,none⟩=some (.string xs[i])
theorem uh{w:World}{n:Nat}(hn:w.heap.size=n)(vs:List Value)(T:TypeId)(j:Nat)(u:Value)(h:vs[j]?=some u):(w.alloc (.cells vs.toArray T)).cell? (Addr.add ⟨n,0,none⟩ j)=some u:=by
 subst hn;rw[Addr.add_mid,abc];have e:=acm w (.cells vs.toArray T);unfold World.cell?;rw[e]
 simpa using h
theorem Og{w:World}{base e n:Nat}{v:Value}{xs:List ByteArray}(h:w.ownsRow base e 1 v n (n5 xs))(hn:n=xs.length):∃a c,v=.slice a xs.length c/\abw w a xs/\(a=none->c=0)/\xs.length<=c:=by
 subst hn
 rcases h.2 with⟨rfl,h0⟩|⟨g,cap,cur,rfl,hg,hh,jO,ig,hcs,ht⟩
 ·obtain rfl:=aaZ h0;exact⟨none,0,rfl,il rfl,fun _=>rfl,aaO 0⟩
 ·refine⟨_,cap,rfl,ir ⟨g,0,rfl,fun i hi=>?_⟩,sM,jO⟩;have hc:=h.cellAt i oM;rw[abc,hc]
  simp[n5,aaX hi]
end Go.Proofs.YtlhgjplipgandaaGreatDoor
