/- ReqFault: what is wrong with a request, by B1. -/
import Derived.Test.YtpmjgofjdejeeadReq
import Derived.Test.YtpmjgofjdejeeadSpanRef
namespace Go.Proofs.Ytpmjgofjdejeead
open Go.RowKit Go.BigFrame
attribute [local go_sem] Later.cell Later.frozen

def shapeBad (r : Rq) : Prop := (r.wr = true ∧ (r.data.length : Int) ≠ r.m) ∨ (r.wr = false ∧ 0 < r.data.length)
def tagsBad (r : Rq) : Prop := r.tags.length < 1 ∨ 4 < r.tags.length
def bornBad (r : Rq) : Prop := r.born < 0 ∨ 1000000000 < r.born
def small4 (r : Rq) : Bool := r.data.all fun s => decide (s.size ≤ 4)
/-- Of a request whose span, shape, tags and birth are all right. -/
structure Fine (r : Rq) : Prop where
  ok : okB r.f r.m 4 = true
  shape : ¬ shapeBad r
  tags : ¬ tagsBad r
  born : ¬ bornBad r

end Go.Proofs.Ytpmjgofjdejeead
