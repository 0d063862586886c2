/- Joined texts: Good. -/
import Derived.Test.YtlhgjplipgandaaGreatB3
set_option maxRecDepth 100000
set_option maxHeartbeats 8000000
set_option linter.unusedSimpArgs false
namespace Go.Proofs.YtlhgjplipgandaaGreat
open Go.RowKit Go.BigFrame
attribute [local go_sem] ze.cell ze.frozen
def zbR(r:Rq):Bool:=if r.wr then decide ((r.data.length:Int)=r.m) else decide (r.data.length=0)
def zcz(r:Rq):Int :=
 if okB r.f r.m 4=false then 1 else if zbR r=false then 3 else if r.tags.length<1∨4<r.tags.length then 3 else if r.born<0∨1000000000<r.born then 1 else zkK (zcD r)
theorem zjU(r:Rq):zb2 r↔zbR r=false:=by
 unfold zb2 zbR
 cases r.wr
 ·simp[List.length_pos_iff]
 ·simp
theorem znz(r:Rq)(w:World)(hr:r.At w)(n:Int)(hn:zcz r=n) :
  Calls Tryz.prog 123 #[r.val] w fun e w'=>e=.returned (.int .i64 n)∧Below w.heap.size w w':=by
 subst hn;unfold zcz
 by_cases h:okB r.f r.m 4=false
 ·rw[if_pos h];exact zmG r w h
 ·rw[if_neg h];have h':okB r.f r.m 4=true:=by simpa using h
  by_cases h2:zbR r=false
  ·rw[if_pos h2];exact zk0 r w hr h' ((zjU r).2 h2)
  ·rw[if_neg h2];have h2':¬zb2 r:=fun k=>h2 ((zjU r).1 k)
   by_cases h3:r.tags.length<1∨4<r.tags.length
   ·rw[if_pos h3];exact zme r w hr h' h2' h3
   ·rw[if_neg h3]
    by_cases h4:r.born<0∨1000000000<r.born
    ·rw[if_pos h4];exact zlZ r w hr h' h2' h3 h4
    ·rw[if_neg h4];exact zmY r w hr ⟨h',h2',h3,h4⟩
structure zA(r:Rq):Prop where
 ok:okB r.f r.m 4=true
 shape:zbR r=true
 t1:1≤r.tags.length
 t4:r.tags.length≤4
 b0:0≤r.born
 b1:r.born≤1000000000
 small:zcD r=true
theorem zhA(r:Rq):zcz r=0↔zA r:=by
 unfold zcz
 constructor
 ·intro h
  split at h
  ·cases h
  split at h
  ·cases h
  split at h
  ·cases h
  split at h
  ·cases h
  rename_i h1 h2 h3 h4
  have h5:zcD r=true:=by
   cases e:zcD r
   ·rw[e] at h;cases h
   ·rfl
  exact⟨by simpa using h1,by simpa using h2,by omega,by omega,by omega,by omega,h5⟩
 ·intro ⟨h1,h2,h3,h4,h5,h6,h7⟩;rw[if_neg (by simp[h1]),if_neg (by simp[h2]),if_neg (by omega),if_neg (by omega),h7];rfl
theorem zia{f m:Int}(h:okB f m 4=true):okB f m 32=true:=by
 simp only[okB,decide_eq_true_eq] at *;omega
structure zif(l:List Rq):Prop where
 good:∀i (h:i<l.length),zA l[i]
 apart:∀i j (hi:i<l.length) (hj:j<i),ze4 l[i].f l[i].m (l[j]'(by omega)).f (l[j]'(by omega)).m=false
end Go.Proofs.YtlhgjplipgandaaGreat
