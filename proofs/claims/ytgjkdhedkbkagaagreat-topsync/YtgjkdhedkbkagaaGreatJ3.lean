/- Two requests, two lists of requests: are they the same? -/
import Derived.Test.YtgjkdhedkbkagaaGreatJ2
namespace Go.Proofs.YtgjkdhedkbkagaaGreat
open Go.RowKit Go.BigFrame
set_option maxRecDepth 100000
attribute [local go_sem] Later.cell Later.frozen

def sameB (r s : Rq) : Bool := (r.wr == s.wr) && ((r.f == s.f) && (r.m == s.m)) && (r.born == s.born) && eqS r.data s.data && eqN r.tags s.tags

theorem Rq.At.of {w w' : World} {a : Option Addr} {l : List Rq} (h : ReqsAt w a l) {i : Nat} (hi : i < l.length) (hb : Below w.heap.size w w') : l[i].At w' := (h.2.1 _ (List.getElem_mem hi)).later hb

/-- Two lists of requests have the same. -/
def Sames (l l' : List Rq) : Prop := l.length = l'.length ∧ ∀ i (h : i < l.length) (h' : i < l'.length), sameB l[i] l'[i] = true

end Go.Proofs.YtgjkdhedkbkagaaGreat
