/- Joined texts: Stk1, Stk2, Stk3. -/
import Derived.Test.YtlhgjplipgandaaGreatDoorD36
import Derived.Test.YtlhgjplipgandaaGreatDoorD17
set_option maxRecDepth 100000
set_option maxHeartbeats 8000000
set_option linter.unusedSimpArgs false
namespace Go.Proofs.YtlhgjplipgandaaGreatDoor
open Go.RowKit Go.BigFrame Go.Maps
attribute [local go_sem] ze.cell ze.frozen
structure Sa where
 b:Nat
 v:Nat
 bm:Nat
 an:An
 n:Nat
 D:DataW Unit
 la:Nat→Option Addr
 lc:Nat→Nat
 ha:Option Addr
 hc:Nat
 qa:Option Addr
 qc:Nat
 X:Nat→Prop
def zaA(c:Cl)(a:Option Addr)(k:Nat):List Value:=[.int .i64 c.kind,.int .i64 c.pl,.string c.data,.slice a c.left.length k,.string c.got,zI c.err]
def Sk.head(A:Sa):List Value:=[.pointer (some ⟨A.b,0,none⟩),.pointer (some ⟨A.v,0,none⟩)]
def Sk.tail(p:Sk)(A:Sa):List Value:=[.slice A.ha p.hand.length A.hc,.slice A.qa p.queue.length A.qc,.bool p.turn.w,.int .i64 p.turn.g,.int .i64 p.turn.s,.int .i64 p.turn.p,.int .i64 p.moment,.int .i64 p.tags,.int .i64 p.uses,.bool p.dead]
def Sk.cells(p:Sk)(A:Sa):List Value:=Sk.head A++(zaA (p.client 0) (A.la 0) (A.lc 0)++(zaA (p.client 1) (A.la 1) (A.lc 1)++(zaA (p.client 2) (A.la 2) (A.lc 2)++p.tail A)))
def zaP(l:List Int):List Value:=l.map fun n=>.int .i64 n
def Sa.foot(A:Sa)(s:Nat)(k:Nat):Prop:=k=s∨za4 A.b A.bm A.an k∨∃i,i<3∧∃p,A.la i=some p∧k=p.block
def Sa.off(A:Sa)(s:Nat)(k:Nat):Prop:=A.foot s k∨A.X k
structure zH(s:Nat)(p:Sk)(A:Sa)(w:World):Prop where
 drv:VAt A.v A.b A.bm p.dev A.an A.n A.D w
 map:zcU A.D p.f
 im:IsMap A.D
 nb:A.n≤p.ag
 hand:zB w A.ha p.hand
 hnil:A.ha=none→A.hc=0
 hcap:p.hand.length≤A.hc
 queue:zm w A.qa p.queue
 qnil:A.qa=none→A.qc=0
 qcap:p.queue.length≤A.qc
 left:∀i,i<3→w.ownsRow 0 3 1 (.slice (A.la i) (p.client i).left.length (A.lc i)) (p.client i).left.length (zaP (p.client i).left)
 sv:¬za4 A.b A.bm A.an s∧s ≠ A.v
 vl:∀i,i<3→∀q,A.la i=some q→q.block ≠ s∧q.block ≠ A.v∧¬za4 A.b A.bm A.an q.block
 ll:∀i j,i<3→j<3→i ≠ j→∀q q',A.la i=some q→A.la j=some q'→q.block ≠ q'.block
 hoffX:p.hand ≠ []→∀q,A.ha=some q→¬A.off s q.block
 qoffX:p.queue ≠ []→∀q,A.qa=some q→¬A.off s q.block
 roffX:∀r∈p.queue++p.dev.busy,r.Off (A.off s)
 xlt:∀k,A.X k→k<w.heap.size
theorem zH.hoff{s:Nat}{p:Sk}{A:Sa}{w:World}(h:zH s p A w):p.hand ≠ []→∀q,A.ha=some q→¬A.foot s q.block:=fun hne q hq e=>h.hoffX hne q hq (Or.inl e)
theorem zH.qoff{s:Nat}{p:Sk}{A:Sa}{w:World}(h:zH s p A w):p.queue ≠ []→∀q,A.qa=some q→¬A.foot s q.block:=fun hne q hq e=>h.qoffX hne q hq (Or.inl e)
theorem zH.roff{s:Nat}{p:Sk}{A:Sa}{w:World}(h:zH s p A w):∀r∈p.queue++p.dev.busy,r.Off (A.foot s):=fun r hr=>⟨fun he ad ha e=>(h.roffX r hr).1 he ad ha (Or.inl e),fun he ad ha e=>(h.roffX r hr).2 he ad ha (Or.inl e)⟩
structure zj(s:Nat)(p:Sk)(A:Sa)(w:World):Prop where
 blk:w.heap[s]?=some (.cells (p.cells A).toArray 127 (0,0))
 mem:zH s p A w
structure zp(s:Nat)(p:Sk)(A:Sa)(p':Sk)(A':Sa)(w w':World):Prop where
 at':zj s p' A' w'
 only:zh (A.foot s) w w'
 foot:∀k,A'.foot s k→A.foot s k∨w.heap.size≤k
 same:A'.b=A.b∧A'.v=A.v∧A'.bm=A.bm∧A'.X=A.X
theorem zp.trans{s:Nat}{p p' p2:Sk}{A A' A2:Sa}{w w' w2:World}(h:zp s p A p' A' w w')(k:zp s p' A' p2 A2 w' w2):zp s p A p2 A2 w w2 :=
 ⟨k.at',h.only.trans k.only h.foot,fun i hi=>(k.foot i hi).elim (h.foot i) (fun h'=>Or.inr (Nat.le_trans h.only.size h')),by rw[k.same.1,k.same.2.1,k.same.2.2.1,k.same.2.2.2];exact h.same⟩
theorem zb1{F:Nat→Prop}{w w':World}{a:Option Addr}{l:List Bf}(h:zB w a l)(hk:zh F w w')(hn:l ≠ []→∀q,a=some q→¬F q.block):zB w' a l:=by
 refine⟨?_,h.2⟩
 rcases h.1 with h|⟨b,o,ha,hc⟩
 ·exact Or.inl h
 ·by_cases he:l=[]
  ·exact Or.inl he
  ·refine Or.inr ⟨b,o,ha,fun i hi j hj=>?_⟩;have:=hc i hi j hj;rw[hk.cell (p:=⟨b,o+i*4+j,none⟩) (zg this) (hn he ⟨b,o,none⟩ ha)];exact this
theorem zbI{F:Nat→Prop}{w w':World}{a:Option Addr}{l:List Rq}(h:zm w a l)(hk:zh F w w')(hn:l ≠ []→∀p,a=some p→¬F p.block)(hr:∀r∈l,r.Off F):zm w' a l:=by
 obtain⟨h1,h2,h3⟩:=h;refine⟨?_,fun r hr'=>(h2 r hr').frame (hr r hr') hk,h3⟩
 rcases h1 with h|⟨b,o,ha,hc⟩
 ·exact Or.inl h
 ·by_cases he:l=[]
  ·exact Or.inl he
  ·refine Or.inr ⟨b,o,ha,fun i hi j hj=>?_⟩;have:=hc i hi j hj;rw[hk.cell (p:=⟨b,o+i*6+j,none⟩) (zg this) (hn he ⟨b,o,none⟩ ha)];exact this
section
variable{s:Nat}{p p':Sk}{A A':Sa}{w w':World}
theorem zH.lrow(h:zH s p A w){i:Nat}(hi:i<3){q:Addr}(hq:A.la i=some q):q.block<w.heap.size:=((h.left i hi).lt q.block (by rw[hq];rfl)).2
theorem zj.lt(h:zj s p A w):s<w.heap.size:=zi h.blk
theorem zj.footLt(h:zj s p A w)(k:Nat)(hk:A.foot s k):k<w.heap.size:=by
 rcases hk with rfl|hk|⟨i,hi,q,hq,rfl⟩
 ·exact h.lt
 ·exact h.mem.drv.footLt k hk
 ·exact h.mem.lrow hi hq
theorem zj.offLt(h:zj s p A w)(k:Nat)(hk:A.off s k):k<w.heap.size:=hk.elim (h.footLt k) (fun e=>h.mem.xlt k e)
theorem zH.frame{F:Nat→Prop}(h:zH s p A w)(hk:zh F w w')(hF:∀k,A.foot s k→k ≠ s→¬F k)(hv:¬F A.v)(hh:p.hand ≠ []→∀q,A.ha=some q→¬F q.block)(hq:p.queue ≠ []→∀q,A.qa=some q→¬F q.block)(hr:∀r∈p.queue++p.dev.busy,r.Off F):zH s p A w' where
 drv:=h.drv.frame hk (fun k e=>hF k (Or.inr (Or.inl e)) (fun e'=>h.sv.1 (e'▸e))) hv (fun r hr'=>hr r (List.mem_append_right _ hr'))
 map:=h.map
 im:=h.im
 nb:=h.nb
 hand:=zb1 h.hand hk hh
 hnil:=h.hnil
 hcap:=h.hcap
 queue:=zbI h.queue hk hq (fun r hr'=>hr r (List.mem_append_left _ hr'))
 qnil:=h.qnil
 qcap:=h.qcap
 left:=fun i hi=>zad (h.left i hi) fun g hg=>by
  obtain⟨q,hq,rfl⟩:=zu.1 hg;exact hk.block _ (h.lrow hi hq) (hF _ (Or.inr (Or.inr ⟨i,hi,q,hq,rfl⟩)) (h.vl i hi q hq).1)
 sv:=h.sv
 vl:=h.vl
 ll:=h.ll
 hoffX:=h.hoffX
 qoffX:=h.qoffX
 roffX:=h.roffX
 xlt:=fun k e=>Nat.lt_of_lt_of_le (h.xlt k e) hk.size
theorem zj.frame{F:Nat→Prop}(h:zj s p A w)(hk:zh F w w')(hF:∀k,A.foot s k→¬F k)(hv:¬F A.v)(hh:p.hand ≠ []→∀q,A.ha=some q→¬F q.block)(hq:p.queue ≠ []→∀q,A.qa=some q→¬F q.block)(hr:∀r∈p.queue++p.dev.busy,r.Off F):zj s p A w' :=
 ⟨by rw[hk.block s h.lt (hF s (Or.inl rfl))];exact h.blk,h.mem.frame hk (fun k e _=>hF k e) hv hh hq hr⟩
theorem zkL(r:Rq):r.Off (fun _=>False):=⟨fun _ _ _ e=>e,fun _ _ _ e=>e⟩
theorem zj.later(h:zj s p A w)(hb:Below w.heap.size w w'):zj s p A w':=h.frame (F:=fun _=>False) (zh.of_below hb) (fun _ _ e=>e) (fun e=>e) (fun _ _ _ e=>e) (fun _ _ _ e=>e) (fun r _=>zkL r)
theorem zp.same'(h:zj s p A w)(hb:Below w.heap.size w w'):zp s p A p A w w':=⟨h.later hb,zh.of_below hb,fun _ hk=>Or.inl hk,rfl,rfl,rfl,rfl⟩
theorem zp.later{w2:World}(h:zp s p A p' A' w w')(hb:Below w'.heap.size w' w2):zp s p A p' A' w w2:=h.trans (zp.same' h.at' hb)
theorem zj.put(h:zj s p A w)(hm:zH s p' A' w)(j:Nat)(u:Value)(hc:(p.cells A).set j u=p'.cells A')(hf:∀k,A'.foot s k→A.foot s k)(hsame:A'.b=A.b∧A'.v=A.v∧A'.bm=A.bm∧A'.X=A.X):zp s p A p' A' w (w.setCell ⟨s,j,none⟩ u):=by
 have hO:zh (fun k=>k=s) w (w.setCell ⟨s,j,none⟩ u):=(zh.refl (fun k=>k=s) w).setCell ⟨s,j,none⟩ (Or.inl rfl) u;refine⟨⟨by rw[zx h.blk,hc],hm.frame hO (fun k _ hne=>hne) (fun e=>hm.sv.2 e.symm) (fun hne q hq e=>hm.hoff hne q hq (Or.inl e)) (fun hne q hq e=>hm.qoff hne q hq (Or.inl e)) (fun r hr=>⟨fun he ad ha e=>(hm.roff r hr).1 he ad ha (Or.inl e),fun he ad ha e=>(hm.roff r hr).2 he ad ha (Or.inl e)⟩)⟩,hO.mono (fun k e=>Or.inl e),fun k hk=>Or.inl (hf k hk),hsame⟩
theorem zj.step{d':Dl}{an':An}{n':Nat}{D':DataW Unit}{f':Int→Int}(g':Nat)(hg:n'≤g')(h:zj s p A w)(hs:zaT A.v A.b A.bm p.dev A.an A.n A.D d' an' n' D' w w')(hm:zcU D' f')(hi:IsMap D')(hr:∀r∈d'.busy,r.Off (({ A with an:=an',n:=n',D:=D' }:Sa).off s)) :
 zp s p A { p with dev:=d',f:=f',ag:=g' } { A with an:=an',n:=n',D:=D' } w w':=by
 have hft:∀k,({ A with an:=an',n:=n',D:=D' }:Sa).foot s k→A.foot s k∨w.heap.size≤k:=by
  rintro k (e|e|e)
  ·exact Or.inl (Or.inl e)
  ·exact(hs.foot k e).imp (fun e=>Or.inr (Or.inl e)) id
  ·exact Or.inl (Or.inr (Or.inr e))
 have hfx:∀k,({ A with an:=an',n:=n',D:=D' }:Sa).off s k→A.off s k∨w.heap.size≤k:=fun k hk=>hk.elim (fun e=>(hft k e).imp Or.inl id) (fun e=>Or.inl (Or.inr e))
 have hO:zh (A.foot s) w w':=hs.only.mono (fun k e=>Or.inr (Or.inl e));have hat:∀r∈p.queue,r.At w:=h.mem.queue.2.1;have hnew:∀{q:Addr},¬za4 A.b A.bm A.an q.block→q.block<w.heap.size→¬za4 A.b A.bm an' q.block:=fun h1 h2 e=>(hs.foot _ e).elim h1 (fun h'=>by omega)
 refine⟨⟨?_,?_⟩,hO,hft,rfl,rfl,rfl,rfl⟩
 ·rw[hs.only.block s h.lt h.mem.sv.1];exact h.blk
 ·have hqlt:p.queue ≠ []→∀q,A.qa=some q→q.block<w.heap.size:=fun hne q hq=>by
   rcases h.mem.queue.1 with e|⟨b',o',ha,hc⟩
   ·exact absurd e hne
   ·have:p.queue.length ≠ 0:=fun e=>hne (List.eq_nil_of_length_eq_zero e)
    have:=zg (hc 0 (by omega) 0 (by omega));rw[ha] at hq;simp only[Option.some.injEq] at hq;subst hq;exact this
  have hhlt:p.hand ≠ []→∀q,A.ha=some q→q.block<w.heap.size:=fun hne q hq=>by
   rcases h.mem.hand.1 with e|⟨b',o',ha,hc⟩
   ·exact absurd e hne
   ·have:p.hand.length ≠ 0:=fun e=>hne (List.eq_nil_of_length_eq_zero e)
    have:=zg (hc 0 (by omega) 0 (by omega));rw[ha] at hq;simp only[Option.some.injEq] at hq;subst hq;exact this
  have nf:∀q:Addr,¬A.off s q.block→q.block<w.heap.size→¬({ A with an:=an',n:=n',D:=D' }:Sa).off s q.block:=fun q h1 h2 e=>(hfx _ e).elim h1 (fun h'=>by omega)
  exact {
   drv:=hs.at'
   map:=hm
   im:=hi
   nb:=hg
   hand:=zb1 h.mem.hand hO h.mem.hoff
   hnil:=h.mem.hnil
   hcap:=h.mem.hcap
   queue:=zbI h.mem.queue hO h.mem.qoff (fun r hr'=>h.mem.roff r (List.mem_append_left _ hr'))
   qnil:=h.mem.qnil
   qcap:=h.mem.qcap
   left:=fun i hi=>zad (h.mem.left i hi) fun g hg=>by
    obtain⟨q,hq,rfl⟩:=zu.1 hg;exact hs.only.block _ (h.mem.lrow hi hq) (h.mem.vl i hi q hq).2.2
   sv:=⟨fun e=>(hs.foot _ e).elim h.mem.sv.1 (fun h'=>by have:=h.lt;omega),h.mem.sv.2⟩
   vl:=fun i hi q hq=>⟨(h.mem.vl i hi q hq).1,(h.mem.vl i hi q hq).2.1,hnew (h.mem.vl i hi q hq).2.2 (h.mem.lrow hi hq)⟩
   ll:=h.mem.ll
   hoffX:=fun hne q hq=>nf q (h.mem.hoffX hne q hq) (hhlt hne q hq)
   qoffX:=fun hne q hq=>nf q (h.mem.qoffX hne q hq) (hqlt hne q hq)
   xlt:=fun k e=>Nat.lt_of_lt_of_le (h.mem.xlt k e) hO.size
   roffX:=fun r hr'=>by
    rcases List.mem_append.1 hr' with h'|h'
    ·exact Rq.Off.step (hat r h') (h.mem.roffX r (List.mem_append_left _ h')) hfx
    ·exact hr r h' }
theorem zeC{d':Dl}{an':An}{n':Nat}{D':DataW Unit}(h:zaT A.v A.b A.bm p.dev A.an A.n A.D d' an' n' D' w w'):∀k,({ A with an:=an',n:=n',D:=D' }:Sa).off s k→A.off s k∨w.heap.size≤k:=by
 rintro k ((e|e|e)|e)
 ·exact Or.inl (Or.inl (Or.inl e))
 ·exact(h.foot k e).imp (fun e=>Or.inl (Or.inr (Or.inl e))) id
 ·exact Or.inl (Or.inl (Or.inr (Or.inr e)))
 ·exact Or.inl (Or.inr e)
end
section
variable{s:Nat}{p:Sk}{A:Sa}{w:World}
theorem zj.cell(h:zj s p A w)(j:Nat)(u:Value)(hj:(p.cells A)[j]?=some u):w.cell? ⟨s,j,none⟩=some u:=(zk h.blk j).trans hj
theorem zj.fz(h:zj s p A w)(j:Nat):w.frozen? ⟨s,j,none⟩=false:=zK h.blk j
theorem zj.client(h:zj s p A w)(i:Nat)(hi:i<3):w.cell? ⟨s,2+i*6,none⟩=some (.int .i64 (p.client i).kind)∧w.cell? ⟨s,2+i*6+1,none⟩=some (.int .i64 (p.client i).pl)∧w.cell? ⟨s,2+i*6+2,none⟩=some (.string (p.client i).data)∧w.cell? ⟨s,2+i*6+3,none⟩=some (.slice (A.la i) (p.client i).left.length (A.lc i))∧w.cell? ⟨s,2+i*6+4,none⟩=some (.string (p.client i).got)∧w.cell? ⟨s,2+i*6+5,none⟩=some (zI (p.client i).err):=by
 match i,hi with
 |0,_=>exact⟨h.cell _ _ rfl,h.cell _ _ rfl,h.cell _ _ rfl,h.cell _ _ rfl,h.cell _ _ rfl,h.cell _ _ rfl⟩
 |1,_=>exact⟨h.cell _ _ rfl,h.cell _ _ rfl,h.cell _ _ rfl,h.cell _ _ rfl,h.cell _ _ rfl,h.cell _ _ rfl⟩
 |2,_=>exact⟨h.cell _ _ rfl,h.cell _ _ rfl,h.cell _ _ rfl,h.cell _ _ rfl,h.cell _ _ rfl,h.cell _ _ rfl⟩
end
theorem zV(c:Int)(w:World)(t:Bool)(ht:decide (0≤c∧c<3)=t):Calls Tryz.prog 76 #[.int .i64 c] w fun e w'=>e=.returned (.bool t)∧w'=w:=by
 subst ht
 by_cases h0:0≤c
 ·by_cases h3:c<3
  ·go_enter Tryz.func76,Tryz.ntmps76;go_wp2;go_ret;exact⟨zaH (by simp[h0,h3]),rfl⟩
  ·go_enter Tryz.func76,Tryz.ntmps76;go_wp2;go_ret;exact⟨zaH (by simp[h3]),rfl⟩
 ·have HC:=za h0;go_enter Tryz.func76,Tryz.ntmps76;go_wp2;go_ret;exact⟨zaH (by have:=HC.out;rw[decide_eq_false (show ¬(0:Int)≤c by omega)];rfl),rfl⟩
theorem zbZ(s:Nat)(p:Sk)(A:Sa)(c:Int)(w:World)(h:zj s p A w)(t:Bool)(ht:p.waits c=t):Calls Tryz.prog 63 #[.pointer (some ⟨s,0,none⟩),.int .i64 c] w fun e w'=>e=.returned (.bool t)∧w'=w:=by
 subst ht
 by_cases hc:0≤c∧c<3
 ·obtain⟨i,rfl⟩:∃i:Nat,c=i:=⟨c.toNat,by omega⟩
  have hi:i<3:=by omega
  have hl:=h.lt;obtain⟨c0,-⟩:=h.client i hi;have e:p.waits (i:Int)=((p.client i).kind != 0):=by
   unfold Sk.waits;rw[decide_eq_true hc,Bool.true_and,Int.toNat_natCast]
   rfl
  rw[e];have hi0:(0:Int)≤(i:Int):=by omega
  have hi3:(i:Int)<3:=by omega
  have HC:=za hc;clear h e hc;go_enter Tryz.func63,Tryz.ntmps63;go_wp2_with fail;refine(zV _ _ true (decide_eq_true HC.out)).mono ?_;rintro e w1 ⟨rfl,rfl⟩;go_wp2;go_ret;exact⟨rfl,rfl⟩
 ·have e:p.waits c=false:=by unfold Sk.waits;rw[decide_eq_false hc];rfl
  rw[e];have HC:=za hc;clear h hc;go_enter Tryz.func63,Tryz.ntmps63;go_wp2_with fail;refine(zV _ _ false (decide_eq_false HC.out)).mono ?_;rintro e w1 ⟨rfl,rfl⟩;go_wp2;go_ret;exact⟨rfl,rfl⟩
theorem znV(s:Nat)(p:Sk)(A:Sa)(w:World)(h:zj s p A w):Calls Tryz.prog 26 #[.pointer (some ⟨s,0,none⟩)] w fun e w'=>e=.returned (.bool p.dead)∧w'=w:=by
 have c:=h.cell 29 _ rfl;have hl:=h.lt;clear h;go_enter Tryz.func26,Tryz.ntmps26;go_wp2;go_ret;exact⟨rfl,rfl⟩
theorem zmC(s:Nat)(p:Sk)(A:Sa)(i:Nat)(hi:i<3)(w:World)(h:zj s p A w):Calls Tryz.prog 29 #[.pointer (some ⟨s,0,none⟩),.int .i64 i] w fun e w'=>e=.returned (.tuple #[.string (p.client i).got,zI (p.client i).err])∧Below w.heap.size w w':=by
 have hl:=h.lt;obtain⟨-,-,-,-,c4,c5⟩:=h.client i hi;have hi0:(0:Int)≤(i:Int):=by omega
 have hi3:(i:Int)<3:=by omega
 have HC:Hid (0≤(i:Int)∧(i:Int)<3):=⟨hi0,hi3⟩
 clear h;generalize zI (p.client i).err=ev at *;go_enter Tryz.func29,Tryz.ntmps29;go_wp2_with fail;refine(zV _ _ true (decide_eq_true HC.out)).mono ?_;rintro e w1 ⟨rfl,rfl⟩;go_wp2_with fail
 go_region
 go_wp2
 go_ret2
 exact⟨rfl,(Below.refl _ _).drew⟩
theorem zpm(s:Nat)(c:Int)(hc:¬(0≤c∧c<3))(w:World):Calls Tryz.prog 29 #[.pointer (some ⟨s,0,none⟩),.int .i64 c] w fun e w'=>e=.returned (.tuple #[.string ⟨#[]⟩,.iface 87 (.int .i64 5)])∧Below w.heap.size w w':=by
 have HC:=za hc;clear hc;go_enter Tryz.func29,Tryz.ntmps29;go_wp2_with fail;refine(zV _ _ false (decide_eq_false HC.out)).mono ?_;rintro e w1 ⟨rfl,rfl⟩;go_wp2
 go_ret2
 exact⟨rfl,Below.refl _ _⟩
theorem zj.blen{s:Nat}{p:Sk}{A:Sa}{w:World}(h:zj s p A w):p.dev.busy.length≤2:=h.mem.drv.dev.blen
theorem zie(s:Nat)(p:Sk)(A:Sa)(w:World)(h:zj s p A w) :
 Calls Tryz.prog 46 #[.pointer (some ⟨s,0,none⟩)] w fun e w'=>∃a' c',e=.returned (.slice a' p.dev.busy.length c')∧zm w' a' p.dev.busy∧(a'=none→c'=0)∧Below w.heap.size w w':=by
 have c:=h.cell 0 _ rfl;have hl:=h.lt;have HM:=za h.mem.drv.dev;clear h;go_enter Tryz.func46,Tryz.ntmps46;go_wp2_with fail;refine(zeT A.b p.dev A.an _ HM.out).mono ?_;rintro e w1 ⟨a',c',rfl,hR,hn,hb1⟩;go_wp2;go_ret;exact⟨a',c',rfl,hR,hn,hb1⟩
theorem zhh(s:Nat)(p:Sk)(A:Sa)(w:World)(h:zj s p A w)(h6:p.queue.length≤1000) :
 Calls Tryz.prog 45 #[.pointer (some ⟨s,0,none⟩)] w fun e w'=>∃a' c',e=.returned (.slice a' p.queue.length c')∧zm w' a' p.queue∧(a'=none→c'=0)∧Below w.heap.size w w':=by
 have c:=h.cell 21 _ rfl;have hl:=h.lt;have HM:=za h.mem;clear h;go_enter Tryz.func45,Tryz.ntmps45;go_wp2_with fail;refine(zml p.queue A.qa A.qc _ HM.out.queue HM.out.qnil (by omega)).mono ?_;rintro e w1 ⟨a',c',rfl,hR,hn,hb1⟩;go_wp2;go_ret;exact⟨a',c',rfl,hR,hn,hb1⟩
theorem zk6(l:List Bf):zbn l l.length=zE l:=by
 have:∀k,k≤l.length→zbn l k=zE (l.take k):=by
  intro k
  induction k with
  |zero=>intro _;rfl
  |succ k ih =>
   intro hk;have h:k<l.length:=by omega
   have e:=ih (by omega);unfold zE at e ⊢;rw[List.take_succ_eq_append_getElem h,List.filter_append,List.length_append,←e]
   cases hd:l[k].dirty
   ·rw[zhW h hd,List.filter_cons_of_neg (by rw[hd];exact Bool.false_ne_true)];rfl
   ·rw[zgM h hd,List.filter_cons_of_pos (by exact hd)];rfl
 have:=this l.length (Nat.le_refl _)
 rwa [List.take_length] at this
theorem zbC(s:Nat)(p:Sk)(A:Sa)(w:World)(h:zj s p A w)(n:Nat)(hn:zE p.hand=n) :
 Calls Tryz.prog 25 #[.pointer (some ⟨s,0,none⟩)] w fun e w'=>e=.returned (.int .i64 n)∧Below w.heap.size w w':=by
 have c:=h.cell 20 _ rfl;have hl:=h.lt;have HM:=za h.mem.hand;have HN:=za hn;clear h hn;go_enter Tryz.func25,Tryz.ntmps25;go_wp2_with fail;refine(zms p.hand A.ha A.hc _ HM.out n ((zk6 _).trans HN.out)).mono ?_;rintro e w1 ⟨rfl,hb1⟩;go_wp2;go_ret;exact⟨rfl,hb1⟩
theorem zgd(s:Nat)(p:Sk)(A:Sa)(pl:Int)(w:World)(h:zj s p A w)(t:Bool)(ht:zS p.hand pl=t) :
 Calls Tryz.prog 160 #[.pointer (some ⟨s,0,none⟩),.int .i64 pl] w fun e w'=>e=.returned (.bool t)∧Below w.heap.size w w':=by
 have c:=h.cell 20 _ rfl;have hl:=h.lt;have HM:=za h.mem.hand;clear h;subst ht;unfold zS
 rcases zaV p.hand pl with⟨e,hi⟩|⟨k,hk,e,hi,-⟩
 ·rw[e];have HI:=za hi;clear hi e;go_enter Tryz.func160,Tryz.ntmps160;go_wp2_with fail;refine(zgO p.hand A.ha A.hc pl _ (HM.out.later (by(with_reducible repeat first|exact Below.refl _ _|refine zc ?_ _|refine zd ?_|refine bset' ?_ (by omega) _|refine zb ?_ (by assumption)))) HI.out).mono ?_;rintro e w1 ⟨rfl,hb1⟩;go_wp2;go_ret;exact⟨rfl,by(with_reducible repeat first|exact Below.refl _ _|refine zc ?_ _|refine zd ?_|refine bset' ?_ (by omega) _|refine zb ?_ (by assumption))⟩
 ·rw[e];have HI:=za hi;clear hi e;go_enter Tryz.func160,Tryz.ntmps160;go_wp2_with fail;refine(zex p.hand A.ha A.hc pl _ (HM.out.later (by(with_reducible repeat first|exact Below.refl _ _|refine zc ?_ _|refine zd ?_|refine bset' ?_ (by omega) _|refine zb ?_ (by assumption)))) k hk HI.out).mono ?_;rintro e w1 ⟨rfl,hb1⟩;go_wp2;go_ret;exact⟨rfl,by(with_reducible repeat first|exact Below.refl _ _|refine zc ?_ _|refine zd ?_|refine bset' ?_ (by omega) _|refine zb ?_ (by assumption))⟩
theorem zm2{l:List Bf}{k:Nat}(h:k<l.length):zah (l.take (k+1))=zah (l.take k)++(if l[k].dirty=true then [l[k].pl] else []):=by
 unfold zah;rw[List.take_succ_eq_append_getElem h,List.filter_append,List.map_append]
 cases hd:l[k].dirty
 ·rw[List.filter_cons_of_neg (by rw[hd];exact Bool.false_ne_true)];rfl
 ·rw[List.filter_cons_of_pos (by exact hd)];rfl
theorem zos(l:List Bf)(k:Nat):(zah (l.take k)).length≤l.length:=by
 unfold zah;rw[List.length_map];exact Nat.le_trans (List.length_filter_le _ _) (by rw[List.length_take];omega)
theorem rowI{w:World}{b:Nat}{n:Int}(h:w.cell? ⟨b,0,none⟩=some (.int .i64 n)):zaS w 1 (some ⟨b,0,none⟩) 1 1 [.int .i64 n]:=by
 refine⟨rfl,by simp[Value.oneCell'],Or.inr ⟨_,rfl,fun j u hj=>?_⟩⟩
 match j,hj with
 |0,hj =>
  simp only[List.getElem?_cons_zero,Option.some.injEq] at hj;subst hj;exact h
theorem zhw(s:Nat)(l:List Bf)(a:Option Addr)(cp:Nat)(w:World)(c:w.cell? ⟨s,20,none⟩=some (.slice a l.length cp))(hM:zB w a l)(h8:l.length≤1000) :
 Calls Tryz.prog 74 #[.pointer (some ⟨s,0,none⟩)] w fun e w'=>∃v,e=.returned v∧w'.ownsRow w.heap.size 3 1 v (zah l).length (zaP (zah l))∧Below w.heap.size w w':=by
 have hb3:=hM.2;obtain⟨i,hi,hz0,hz1,hz2⟩:=zbA zln;go_enter Tryz.func74,Tryz.ntmps74;go_wp2
 go_loopw[3,11] (fun v i wr=>∃k:Nat,k≤l.length∧i=.int .i64 k∧wr.ownsRow w.heap.size 3 1 v (zah (l.take k)).length (zaP (zah (l.take k)))∧Below w.heap.size w wr) (fun _ i _=>l.length-(intOf i).toNat)
 case atStart=>exact⟨0,by omega,rfl,World.ownsRow_nil _ _ _ _,by(with_reducible repeat first|exact Below.refl _ _|refine zc ?_ _|refine zd ?_|refine bset' ?_ (by omega) _|refine zb ?_ (by assumption))⟩
 case round =>
  obtain⟨k,hk,rfl,hown,HB⟩:=hrel
  by_cases hlt:k<l.length
  ·have h0:l ≠ []:=fun e=>by rw[e] at hlt;exact absurd hlt (Nat.not_lt_zero _)
   obtain⟨b,o,rfl⟩:=hM.form.resolve_left h0;obtain⟨c0,c1,c2,c3⟩:=(hM.later HB).cells hlt;have ht:=zm2 hlt;have hL:=zos l k;clear h0
   cases hd:l[k].dirty
   ·rw[hd] at ht c2;have HT:=zG ht;clear ht hd;have HO:=zG hown;clear hown;go_wp2;go_roundw
    case rel=>exact⟨k+1,by omega,by go_num,by rw[HT.out];simpa using zdC HO.out (by(with_reducible repeat first|exact Below.refl _ _|refine zc ?_ _|refine zd ?_|refine bset' ?_ (by omega) _|refine zb ?_ (by assumption))),by(with_reducible repeat first|exact Below.refl _ _|refine zc ?_ _|refine zd ?_|refine bset' ?_ (by omega) _|refine zb ?_ (by assumption))⟩
    case measure=>simp[intOf];omega
   ·rw[hd] at ht c2;have HT:=zG ht;clear ht hd;have HO:=zG hown;clear hown;go_wp2_with(at_builtin;refine zR rfl _ _ 122 rfl w.heap.size 3 i (.int .i64 0) 1 8 Tryz.underlying122 hi hz0 hz1 hz2 rfl (by decide) _ _ _ rfl (zdC HO.out (by(with_reducible repeat first|exact Below.refl _ _|refine zc ?_ _|refine zd ?_|refine bset' ?_ (by omega) _|refine zb ?_ (by assumption)))) _ 1 1 [.int .i64 l[k].pl] rfl (rowI (by simp)) (by unfold maxLen;omega) (by omega) (by have:=HB.size;(try simp);omega) ?_;intro v1 w2 hown1 hb1)
    all_goals
     have HO1:=zG hown1;clear hown1;go_wp2;go_roundw
    case rel=>exact⟨k+1,by omega,by go_num,by rw[HT.out];simpa [zaP] using HO1.out,Below.trans (by(with_reducible repeat first|exact Below.refl _ _|refine zc ?_ _|refine zd ?_|refine bset' ?_ (by omega) _|refine zb ?_ (by assumption))) hb1⟩
    case measure=>simp[intOf];omega
  ·obtain rfl:k=l.length:=by omega
   rw[List.take_length] at hown;go_wp2;go_ret;exact⟨_,rfl,hown,HB⟩
theorem zim(s:Nat)(p:Sk)(A:Sa)(w:World)(h:zj s p A w)(h8:p.hand.length≤1000) :
 Calls Tryz.prog 74 #[.pointer (some ⟨s,0,none⟩)] w fun e w'=>∃v,e=.returned v∧w'.ownsRow w.heap.size 3 1 v (zah p.hand).length (zaP (zah p.hand))∧Below w.heap.size w w' :=
 zhw s p.hand A.ha A.hc w (h.cell 20 _ rfl) h.mem.hand h8
def zaB(l:List Rq)(n:Int):Bool:=l.any fun r=>zau r.f r.m n
def zbz(w:World)(hb:Nat)(l:List Rq):Prop:=∃a c,w.cell? ⟨hb,0,none⟩=some (.slice a l.length c)∧zm w a l
theorem zbz.later{w w':World}{hb:Nat}{l:List Rq}(h:zbz w hb l)(k:Below w.heap.size w w'):zbz w' hb l:=by
 obtain⟨a,c,h1,h2⟩:=h;exact⟨a,c,cellB_later' k h1,h2.later k⟩
theorem zmM(x:Rq)(pb:Nat)(n:Int)(w:World)(h:w.cell? ⟨pb,0,none⟩=some (.int .i64 n)) :
 Calls Tryz.prog 125 #[x.val,.pointer (some ⟨pb,0,none⟩)] w fun e w'=>e=.returned (.bool (zau x.f x.m n))∧Below w.heap.size w w':=by
 have h':=zU h;have hl:=zg h;go_enter Tryz.func125,Tryz.ntmps125;go_wp2_with fail;refine(zc2 x.f x.m n _ _ rfl).mono ?_;rintro e w1 ⟨rfl,hb1⟩;go_wp2;go_ret;exact⟨rfl,by(with_reducible repeat first|exact Below.refl _ _|refine zc ?_ _|refine zd ?_|refine bset' ?_ (by omega) _|refine zb ?_ (by assumption))⟩
theorem zdm(hb:Nat)(l:List Rq)(n:Int)(w:World)(h:zbz w hb l) :
 Calls Tryz.prog 123 #[.int .i64 n,.pointer (some ⟨hb,0,none⟩)] w fun e w'=>e=.returned (.bool (zaB l n))∧Below w.heap.size w w':=by
 obtain⟨a,c,h1,h2⟩:=h;have h1':=zU h1;have hl:=zg h1;have H2:=za h2;have HE:Hid (l.any (fun r=>zau r.f r.m n)=zaB l n):=za rfl;clear h2;generalize zaB l n=t at *;go_enter Tryz.func123,Tryz.ntmps123;go_wp2_with fail;refine(zdr 125 (by intro args w;go_simp) (.pointer (some ⟨w.heap.size,0,none⟩)) (fun r=>zau r.f r.m n) l a c (w.alloc (.cells #[.int .i64 n] 3)) (H2.out.later (by(with_reducible repeat first|exact Below.refl _ _|refine zc ?_ _|refine zd ?_|refine bset' ?_ (by omega) _|refine zb ?_ (by assumption)))) (fun x w' _ hb'=>zmM x w.heap.size n w' (cellB_later' hb' (by simp))) t HE.out).mono ?_;rintro e w1 ⟨rfl,hb1⟩;go_wp2;go_ret;exact⟨rfl,by(with_reducible repeat first|exact Below.refl _ _|refine zc ?_ _|refine zd ?_|refine bset' ?_ (by omega) _|refine zb ?_ (by assumption))⟩
theorem zpp{w w2 w3:World}{base hb c2:Nat}{a2:Option Addr}{l:List Rq}(hN:zbL base w2 a2 c2 l)(hAt:∀r∈l,r.At w)(hcase:hb<base∨w2.heap.size≤hb)(hO:zh (fun k=>k=hb) w2 w3)(hc:w3.cell? ⟨hb,0,none⟩=some (.slice a2 l.length c2))(hB:Below w.heap.size w w3):zbz w3 hb l:=by
 refine⟨a2,c2,hc,?_,fun r hr=>(hAt r hr).later hB,hN.here.2.2⟩
 rcases hN.here.1 with h|⟨b,o,ha,hcl⟩
 ·exact Or.inl h
 ·refine Or.inr ⟨b,o,ha,fun i hi j hj=>?_⟩;have h1:=hcl i hi j hj;have h2:=zg h1;have h3:=(hN.own.lt b (by rw[ha];rfl)).1;rw[hO.cell (p:=⟨b,o+i*6+j,none⟩) h2 (show ¬b=hb by omega)];exact h1
theorem zcN(s:Nat)(p:Sk)(A:Sa)(w:World)(h:zj s p A w)(h6:p.queue.length≤1000) :
 Calls Tryz.prog 80 #[.pointer (some ⟨s,0,none⟩)] w fun e w'=>∃hb,e=.returned (.func (.func 123) #[] #[.pointer (some ⟨hb,0,none⟩)])∧zbz w' hb (p.queue++p.dev.busy)∧Below w.heap.size w w':=by
 have c0:=h.cell 0 _ rfl;have c1:=h.cell 21 _ rfl;have hl:=h.lt;have HL:=za h.blen;have HD:=za h.mem.drv.dev;have HQ:=za h.mem.queue;have HR1:=za (h.mem.queue.rowAll' h.mem.qnil);have HAT:Hid (∀r∈p.queue++p.dev.busy,r.At w):=fun r hr=>(List.mem_append.1 hr).elim (h.mem.queue.2.1 r) (fun hr=>(h.mem.drv.dev.reqs r hr).1)
 clear h;go_enter Tryz.func80,Tryz.ntmps80;go_wp2_with fail
 go_region_held3 (fun w'=>w'.cell? ⟨s,0,none⟩=some (.pointer (some ⟨A.b,0,none⟩))∧w'.cell? ⟨s,21,none⟩=some (.slice A.qa p.queue.length A.qc)) (exact⟨cellB_later' (w:=w) (by(with_reducible repeat first|exact Below.refl _ _|refine zc ?_ _|refine zd ?_|refine bset' ?_ (by omega) _|refine zb ?_ (by assumption))) c0,cellB_later' (w:=w) (by(with_reducible repeat first|exact Below.refl _ _|refine zc ?_ _|refine zd ?_|refine bset' ?_ (by omega) _|refine zb ?_ (by assumption))) c1⟩) (first|(go_at_call 94;refine(zeT A.b p.dev A.an _ (HD.out.later (by(with_reducible repeat first|exact Below.refl _ _|refine zc ?_ _|refine zd ?_|refine bset' ?_ (by omega) _|refine zb ?_ (by assumption))))).mono ?_;rintro e w1 ⟨a',c',rfl,hR,hn,hb1⟩;have z1:w.heap.size≤w1.heap.size:=(show Below w.heap.size w w1 by(with_reducible repeat first|exact Below.refl _ _|refine zc ?_ _|refine zd ?_|refine bset' ?_ (by omega) _|refine zb ?_ (by assumption))).size;(try(obtain⟨k1a,k1b⟩:w1.cell? ⟨w.heap.size,0,none⟩=some (.slice none 0 0)∧w1.frozen? ⟨w.heap.size,0,none⟩=false;(focus((refine⟨(hb1.cell (p:=⟨w.heap.size,0,none⟩) ?_).trans ?_,(hb1.frozen (p:=⟨w.heap.size,0,none⟩) ?_).trans ?_⟩);(all_goals simp);(all_goals omega))))))|(go_at_call 122;refine(zeh _ 0 A.qa a' p.queue.length p.dev.busy.length A.qc c' (zr p.queue) (zr p.dev.busy) _ (by simp) (by simp) (HR1.out.later (by(with_reducible repeat first|exact Below.refl _ _|refine zc ?_ _|refine zd ?_|refine bset' ?_ (by omega) _|refine zb ?_ (by assumption)))) ((hR.rowAll' hn).later (by(with_reducible repeat first|exact Below.refl _ _|refine zc ?_ _|refine zd ?_|refine bset' ?_ (by omega) _|refine zb ?_ (by assumption)))) (by omega) (by have:=HL.out;omega)).mono ?_;rintro e w2 ⟨v,rfl,hown,hb2⟩;rw[←zaZ] at hown;obtain⟨a2,c2,rfl,hN2⟩:=zcM (l:=p.queue++p.dev.busy) hown (fun r hr=>(HAT.out r hr).later (by(with_reducible repeat first|exact Below.refl _ _|refine zc ?_ _|refine zd ?_|refine bset' ?_ (by omega) _|refine zb ?_ (by assumption)))) (by simp) (by have:=HL.out;simp;omega);have HN2:=za hN2;have z2:w.heap.size≤w2.heap.size:=(show Below w.heap.size w w2 by(with_reducible repeat first|exact Below.refl _ _|refine zc ?_ _|refine zd ?_|refine bset' ?_ (by omega) _|refine zb ?_ (by assumption))).size;clear hN2 hown;(try(obtain⟨k2a,k2b⟩:w2.cell? ⟨w.heap.size,0,none⟩=some (.slice none 0 0)∧w2.frozen? ⟨w.heap.size,0,none⟩=false;(focus exact⟨cellB_later' (w:=w1) (by(with_reducible repeat first|exact Below.refl _ _|refine zc ?_ _|refine zd ?_|refine bset' ?_ (by omega) _|refine zb ?_ (by assumption))) k1a,zca (w:=w1) (by(with_reducible repeat first|exact Below.refl _ _|refine zc ?_ _|refine zd ?_|refine bset' ?_ (by omega) _|refine zb ?_ (by assumption))) (zg k1a) k1b⟩)));(try(obtain⟨k3a,k3b⟩:w2.cell? ⟨w1.heap.size,0,none⟩=some (.slice none 0 0)∧w2.frozen? ⟨w1.heap.size,0,none⟩=false;(focus((refine⟨(hb2.cell (p:=⟨w1.heap.size,0,none⟩) ?_).trans ?_,(hb2.frozen (p:=⟨w1.heap.size,0,none⟩) ?_).trans ?_⟩);(all_goals simp);(all_goals omega)))));(try(obtain⟨k4a,k4b⟩:w2.cell? ⟨w1.heap.size+1,0,none⟩=some (.slice none 0 0)∧w2.frozen? ⟨w1.heap.size+1,0,none⟩=false;(focus((refine⟨(hb2.cell (p:=⟨w1.heap.size+1,0,none⟩) ?_).trans ?_,(hb2.frozen (p:=⟨w1.heap.size+1,0,none⟩) ?_).trans ?_⟩);(all_goals simp);(all_goals omega)))))))
 all_goals
  go_wp2;go_ret;refine⟨_,rfl,zpp HN2.out HAT.out ?_ ?_ ?_ ?_,?_⟩
  ·first|(left;simp;done)|(left;simp;omega)|(right;simp;done)
  ·first|(refine zh.of_below ?_;((with_reducible repeat first|exact Below.refl _ _|refine zc ?_ _|refine zd ?_|refine bset' ?_ (by omega) _|refine zb ?_ (by assumption)));done)|exact zh.of_set _
  ·rw[List.length_append]
   first|(simp;done)|exact World.cell?_setCell_same _ _ _ (by assumption)
  ·(with_reducible repeat first|exact Below.refl _ _|refine zc ?_ _|refine zd ?_|refine bset' ?_ (by omega) _|refine zb ?_ (by assumption))
  ·(with_reducible repeat first|exact Below.refl _ _|refine zc ?_ _|refine zd ?_|refine bset' ?_ (by omega) _|refine zb ?_ (by assumption))
section
variable{s:Nat}{p p':Sk}{A A':Sa}{w w':World}
theorem zH.puts(hm:zH s p' A' w)(hO:zh (fun k=>k=s) w w')(hb:w'.heap[s]?=some (.cells (p'.cells A').toArray 127 (0,0)))(hf:∀k,A'.foot s k→A.foot s k)(hsame:A'.b=A.b∧A'.v=A.v∧A'.bm=A.bm∧A'.X=A.X):zp s p A p' A' w w' :=
 ⟨⟨hb,hm.frame hO (fun _ _ hne=>hne) (fun e=>hm.sv.2 e.symm) (fun hne q hq e=>hm.hoff hne q hq (Or.inl e)) (fun hne q hq e=>hm.qoff hne q hq (Or.inl e)) (fun r hr=>⟨fun he ad ha e=>(hm.roff r hr).1 he ad ha (Or.inl e),fun he ad ha e=>(hm.roff r hr).2 he ad ha (Or.inl e)⟩)⟩,hO.mono (fun _ e=>Or.inl e),fun k hk=>Or.inl (hf k hk),hsame⟩
def Sa.drop(A:Sa)(i:Nat):Sa:={ A with la:=fun j=>if j=i then none else A.la j,lc:=fun j=>if j=i then 0 else A.lc j }
theorem Sa.drop_foot(A:Sa)(i k:Nat)(h:(A.drop i).foot s k):A.foot s k:=by
 rcases h with h|h|⟨j,hj,q,hq,e⟩
 ·exact Or.inl h
 ·exact Or.inr (Or.inl h)
 ·by_cases hji:j=i
  ·simp only[Sa.drop,if_pos hji] at hq;cases hq
  ·simp only[Sa.drop,if_neg hji] at hq;exact Or.inr (Or.inr ⟨j,hj,q,hq,e⟩)
theorem Sa.drop_off(A:Sa)(i k:Nat)(h:(A.drop i).off s k):A.off s k:=h.imp (A.drop_foot i k) id
theorem zao(hl:p.cl.length=3){i j:Nat}(hi:i<3)(c:Cl):({ p with cl:=p.cl.set i c }:Sk).client j=if j=i then c else p.client j:=by
 unfold Sk.client
 by_cases h:j=i
 ·subst h;rw[if_pos rfl]
  simp[List.getD,hl,hi]
 ·rw[if_neg h]
  simp[List.getD,Ne.symm h]
theorem zH.drop(h:zH s p A w)(hl:p.cl.length=3){i:Nat}(hi:i<3)(c:Cl)(hc:c.left=[]):zH s { p with cl:=p.cl.set i c } (A.drop i) w where
 drv:=h.drv
 map:=h.map
 im:=h.im
 nb:=h.nb
 hand:=h.hand
 hnil:=h.hnil
 hcap:=h.hcap
 queue:=h.queue
 qnil:=h.qnil
 qcap:=h.qcap
 left:=fun j hj=>by
  rw[zao hl hi]
  by_cases hji:j=i
  ·simp only[Sa.drop,if_pos hji,hc];exact World.ownsRow_nil _ _ _ _
  ·simp only[Sa.drop,if_neg hji];exact h.left j hj
 sv:=h.sv
 vl:=fun j hj q hq=>by
  by_cases hji:j=i
  ·simp only[Sa.drop,if_pos hji] at hq;cases hq
  ·simp only[Sa.drop,if_neg hji] at hq;exact h.vl j hj q hq
 ll:=fun j k hj hk hne q q' hq hq'=>by
  by_cases hji:j=i
  ·simp only[Sa.drop,if_pos hji] at hq;cases hq
  ·by_cases hki:k=i
   ·simp only[Sa.drop,if_pos hki] at hq';cases hq'
   ·simp only[Sa.drop,if_neg hji] at hq;simp only[Sa.drop,if_neg hki] at hq';exact h.ll j k hj hk hne q q' hq hq'
 hoffX:=fun hne q hq e=>h.hoffX hne q hq (A.drop_off i _ e)
 qoffX:=fun hne q hq e=>h.qoffX hne q hq (A.drop_off i _ e)
 roffX:=fun r hr=>⟨fun he ad ha e=>(h.roffX r hr).1 he ad ha (A.drop_off i _ e),fun he ad ha e=>(h.roffX r hr).2 he ad ha (A.drop_off i _ e)⟩
 xlt:=h.xlt
end
def six6(w:World)(s o:Nat)(v0 v1 v2 v3 v4 v5:Value):World:=(((((w.setCell ⟨s,o,none⟩ v0).setCell ⟨s,o+1,none⟩ v1).setCell ⟨s,o+2,none⟩ v2).setCell ⟨s,o+3,none⟩ v3).setCell ⟨s,o+4,none⟩ v4).setCell ⟨s,o+5,none⟩ v5
theorem znm{s:Nat}{p:Sk}{A:Sa}{w:World}(h:zj s p A w)(hl:p.cl.length=3)(i:Nat)(hi:i<3)(data:ByteArray)(e:Int) :
 zp s p A (p.answer i data e) (A.drop i) w (six6 w s (2+i*6) (.int .i64 0) (.int .i64 0) (.string ByteArray.empty) (.slice none 0 0) (.string data) (zI e)):=by
 refine(h.mem.drop hl hi ⟨0,0,ByteArray.empty,[],data,e⟩ rfl).puts ?_ ?_ (fun k hk=>A.drop_foot i k hk) ⟨rfl,rfl,rfl,rfl⟩
 ·unfold six6;exact((((((zh.refl (fun k=>k=s) w).setCell _ (Or.inl rfl) _).setCell _ (Or.inl rfl) _).setCell _ (Or.inl rfl) _).setCell _ (Or.inl rfl) _).setCell _ (Or.inl rfl) _).setCell _ (Or.inl rfl) _
 ·unfold six6;rw[zx (zx (zx (zx (zx (zx h.blk _ _) _ _) _ _) _ _) _ _)]
  congr 2
  match i,hi with
  |0,hi=>simp[Sk.cells,Sk.head,Sk.tail,zaA,zao hl hi,Sa.drop]
  |1,hi=>simp[Sk.cells,Sk.head,Sk.tail,zaA,zao hl hi,Sa.drop]
  |2,hi=>simp[Sk.cells,Sk.head,Sk.tail,zaA,zao hl hi,Sa.drop]
theorem zj.there{s:Nat}{p:Sk}{A:Sa}{w:World}(h:zj s p A w)(o n:Nat)(ho:o+n≤30):w.there s o n:=fun j hj=>by
 have hlen:(p.cells A).length=30:=rfl;rw[zk h.blk (o+j),List.getElem?_eq_getElem (by omega)];exact⟨rfl,zK h.blk _⟩
theorem zjT(e:Int):zI e=.nilIface∨zI e=.iface 87 (.int .i64 e):=by
 unfold zI
 split
 ·exact Or.inl rfl
 ·exact Or.inr rfl
theorem zcv(s:Nat)(p:Sk)(A:Sa)(w:World)(h:zj s p A w)(hl:p.cl.length=3)(i:Nat)(hi:i<3)(data:ByteArray)(e:Int) :
 Calls Tryz.prog 138 #[.pointer (some ⟨s,2+i*6,none⟩),.string data,zI e] w fun x w'=>x=.returned (.tuple #[])∧zp s p A (p.answer i data e) (A.drop i) w w':=by
 have HF:=za (znm h hl i hi data e);have HT:=za (h.there (2+i*6) 6 (by omega));clear h
 rcases zjT e with he|he
 all_goals
  rw[he] at HF ⊢;clear he;go_enter Tryz.func138,Tryz.ntmps138;go_wp2_with(refine wpList_store_mid rfl 124 (.tmp 10) (.tmp 9) rfl s (2+i*6) #[.int .i64 0,.int .i64 0,.string ByteArray.empty,.slice none 0 0,.string data,_] rfl rfl HT.out (by kernel_rfl) (by simp[Value.oneCell']) ?_;simp only);go_end0;exact⟨rfl,HF.out⟩
theorem zoe{o r q:Rq}(h:zeM o r q):q.nf=zd4 o.nf r.nf:=by
 have one:∀{a b:Rq},zba a b q→q.nf=zgZ a.nf b.nf:=fun {a b} h=>by
  obtain⟨h1,h2,h3,h4,h5,h6⟩:=h;obtain⟨wr,f,m,da,dc,data,ta,tc,tags,born⟩:=q;simp only at h1 h2 h3 h4 h5 h6;simp only[Rq.nf,zgZ,h1,h2,h3,h4,h5,h6]
 unfold zd4
 rcases h with⟨h1,h2⟩|⟨h1,_,h2⟩
 ·rw[if_pos (show zaK o.nf r.nf=true from h1)];exact one h2
 ·rw[if_neg (by rw[show zaK o.nf r.nf=false from h1];exact Bool.false_ne_true)];exact one h2
theorem ziS(l:List Rq)(r:Rq):(l.map Rq.nf).any (zbi r.nf)=l.any (zbi r):=by
 rw[List.any_map];rfl
theorem zmS(l:List Rq)(r:Rq):(l.map Rq.nf).findIdx? (fun o=>zbr o r.nf)=l.findIdx? (fun o=>zbr o r):=by
 rw[List.findIdx?_map];rfl
theorem zkU{l:List Rq}{r:Rq}(h:l.any (zbi r)=true):zco (l.map Rq.nf) r.nf=none:=by
 unfold zco;rw[ziS,if_pos h]
theorem zl8{l:List Rq}{r:Rq}(hm:l.any (zbi r)=false)(h:∀j (hj:j<l.length),zbr l[j] r=false)(h6:6≤l.length):zco (l.map Rq.nf) r.nf=none:=by
 have e:l.findIdx? (fun o=>zbr o r)=none:=by
  rw[List.findIdx?_eq_none_iff];intro x hx;obtain⟨j,hj,rfl⟩:=List.getElem_of_mem hx;exact h j hj
 unfold zco;rw[ziS,if_neg (by rw[hm];exact Bool.false_ne_true),zmS,e];simp only;rw[if_neg (by rw[List.length_map];omega)]
theorem zkz{base:Nat}{l L:List Rq}{r:Rq}(hm:l.any (zbi r)=false)(h:ziL base l r L):zco (l.map Rq.nf) r.nf=some (L.map Rq.nf):=by
 unfold zco;rw[ziS,if_neg (by rw[hm];exact Bool.false_ne_true),zmS]
 rcases h with⟨k,hk,q,hb,ht,hq,_,rfl⟩|⟨hb,h6,rfl⟩
 ·have e:l.findIdx? (fun o=>zbr o r)=some k:=by
   rw[List.findIdx?_eq_some_iff_getElem];exact⟨hk,ht,fun j hj=>by rw[hb j (by omega) hj];exact Bool.false_ne_true⟩
  rw[e];simp only;rw[List.map_set,zoe hq]
  congr 3
  rw[List.getD_eq_getElem?_getD,List.getElem?_map,List.getElem?_eq_getElem hk];rfl
 ·have e:l.findIdx? (fun o=>zbr o r)=none:=by
   rw[List.findIdx?_eq_none_iff];intro x hx;obtain⟨j,hj,rfl⟩:=List.getElem_of_mem hx;exact hb j hj
  rw[e];simp only;rw[if_pos (by rw[List.length_map];omega),List.map_append]
  rfl
section
variable{s:Nat}{p:Sk}{A:Sa}{w:World}
theorem zH.setQueue(h:zH s p A w)(L:List Rq)(a':Option Addr)(c':Nat)(n:Int)(hR:zm w a' L)(hcap:L.length≤c')(hnil:a'=none→c'=0)(ho:L ≠ []→∀q,a'=some q→¬A.off s q.block)(hro:∀r∈L,r.Off (A.off s)):zH s { p with queue:=L,tags:=n } { A with qa:=a',qc:=c' } w where
 drv:=h.drv
 map:=h.map
 im:=h.im
 nb:=h.nb
 hand:=h.hand
 hnil:=h.hnil
 hcap:=h.hcap
 queue:=hR
 qnil:=hnil
 qcap:=hcap
 left:=h.left
 sv:=h.sv
 vl:=h.vl
 ll:=h.ll
 hoffX:=h.hoffX
 qoffX:=ho
 roffX:=fun r hr=>(List.mem_append.1 hr).elim (hro r) (fun h'=>h.roffX r (List.mem_append_right _ h'))
 xlt:=h.xlt
theorem zj.setQueue(h:zj s p A w)(L:List Rq)(a':Option Addr)(c':Nat)(n:Int)(hR:zm w a' L)(hcap:L.length≤c')(hnil:a'=none→c'=0)(ho:L ≠ []→∀q,a'=some q→¬A.off s q.block)(hro:∀r∈L,r.Off (A.off s)):zp s p A { p with queue:=L,tags:=n } { A with qa:=a',qc:=c' } w ((w.setCell ⟨s,21,none⟩ (.slice a' L.length c')).setCell ⟨s,27,none⟩ (.int .i64 n)):=by
 refine(h.mem.setQueue L a' c' n hR hcap hnil ho hro).puts ?_ ?_ (fun k hk=>hk) ⟨rfl,rfl,rfl,rfl⟩
 ·exact((zh.refl (fun k=>k=s) w).setCell _ (Or.inl rfl) _).setCell _ (Or.inl rfl) _
 ·rw[zx (zx h.blk _ _)]
  rfl
end
theorem znG(l:List Rq)(a:Option Addr)(c:Nat)(r:Rq)(w:World)(hl:zm w a l)(hn:a=none→c=0)(hr:r.At w)(h10:l.length≤1000)(gr:zv r)(gf:zc0 r=0)(gl:∀i (h:i<l.length),zv l[i])(hN:zco (l.map Rq.nf) r.nf=none) :
 Calls Tryz.prog 128 #[.slice a l.length c,r.val] w fun e w'=>∃n,e=.returned (.tuple #[.slice none 0 0,.iface 87 (.int .i64 n)])∧Below w.heap.size w w':=by
 cases hm:l.any (zbi r)
 ·refine(zkA l a c r w hl hn hr h10 gr gl hm).mono ?_;rintro e w' ⟨⟨L,a',c',hA,_⟩|⟨_,_,he⟩,hb⟩
  ·rw[zkz hm hA] at hN;cases hN
  ·exact⟨7,he,hb⟩
 ·exact(znF l a c r w hl hr gf hm).mono fun e w' ⟨he,hb⟩=>⟨6,he,hb⟩
theorem znH(l:List Rq)(a:Option Addr)(c:Nat)(r:Rq)(w:World)(hl:zm w a l)(hn:a=none→c=0)(hr:r.At w)(h10:l.length≤1000)(gr:zv r)(gl:∀i (h:i<l.length),zv l[i])(L':List Rq)(hN:zco (l.map Rq.nf) r.nf=some L') :
 Calls Tryz.prog 128 #[.slice a l.length c,r.val] w fun e w'=>∃(L:List Rq) (a':Option Addr) (c':Nat),e=.returned (.tuple #[.slice a' L.length c',.nilIface])∧(ziL w.heap.size l r L∧L'=L.map Rq.nf∧zm w' a' L∧L.length≤c'∧(a'=none→c'=0)∧∀p,a'=some p→w.heap.size≤p.block)∧Below w.heap.size w w':=by
 cases hm:l.any (zbi r)
 ·refine(zkA l a c r w hl hn hr h10 gr gl hm).mono ?_;rintro e w' ⟨⟨L,a',c',hA,he,h1,h2,h3,h4⟩|⟨h1,h2,_⟩,hb⟩
  ·have:=zkz hm hA;rw[hN] at this;exact⟨L,a',c',he,⟨hA,Option.some.inj this,h1,h2,h3,h4⟩,hb⟩
  ·rw[zl8 hm h1 h2] at hN;cases hN
 ·rw[zkU hm] at hN;cases hN
theorem zmz{F:Nat→Prop}{w:World}{q:Rq}{n:Nat}(h:q.At w)(hf:zcB q n)(hF:∀k,F k→k<n):q.Off F:=by
 refine⟨fun he ad ha e=>?_,fun he ad ha e=>?_⟩
 ·rcases h.data with h'|⟨b,o,h',_⟩
  ·exact he h'
  ·have h1:=hf.1 b o h';rw[h'] at ha;simp only[Option.some.injEq] at ha;subst ha;have:=hF _ e;simp only at this
   omega
 ·rcases h.tags with h'|⟨b,o,h',_⟩
  ·exact he h'
  ·have h1:=hf.2 b o h';rw[h'] at ha;simp only[Option.some.injEq] at ha;subst ha;have:=hF _ e;simp only at this
   omega
def zdq(p:Sk)(pl:Int)(wr:Bool)(data:List ByteArray)(da:Option Addr)(dc tb:Nat):Rq:=⟨wr,pl,1,da,dc,data,some ⟨tb,0,none⟩,1,[p.tags+1],p.moment⟩
theorem ziU(s:Nat)(p:Sk)(A:Sa)(w:World)(h:zj s p A w)(hq:p.queue.length≤1000)(gl:∀i (h:i<p.queue.length),zv p.queue[i])(hT:0≤p.tags∧p.tags≤4000000000000000000)(hM:0≤p.moment∧p.moment≤1000000000)(pl:Int)(hpl:0≤pl∧pl≤31)(wr:Bool)(data:List ByteArray)(hdl:data.length≤4)(da:Option Addr)(dc:Nat)(hd:zP w da data)(hdn:da=none→dc=0)
 (hoff:data ≠ []→∀ad,da=some ad→¬A.off s ad.block) (gr:∀tb,zv (zdq p pl wr data da dc tb)∧zc0 (zdq p pl wr data da dc tb)=0) :
 Calls Tryz.prog 82 #[.pointer (some ⟨s,0,none⟩),.int .i64 pl,.bool wr,.slice da data.length dc] w fun e w'=>∃p' A',e=.returned (.bool (p.nf.askQ pl wr data).1)∧zp s p A p' A' w w'∧p'.nf=(p.nf.askQ pl wr data).2:=by
 have c21:=h.cell 21 _ rfl;have c26:=h.cell 26 _ rfl;have c27:=h.cell 27 _ rfl;have hl:=h.lt;have HQ:=za h.mem.queue;have HN:=za h.mem.qnil;have HST:=za h;have HGL:=za gl;have HGR:=za (gr w.heap.size);have HOFF:=za hoff;have hwr:IntKind.i64.wrap (p.tags+1)=p.tags+1:=by rw[IntKind.wrap_i64];omega
 have HAT:Hid ((zdq p pl wr data da dc w.heap.size).At ((w.alloc (.cells #[.int .i64 (p.tags+1)] 3)).drew)):=by
  refine⟨hd.later (by(with_reducible repeat first|exact Below.refl _ _|refine zc ?_ _|refine zd ?_|refine bset' ?_ (by omega) _|refine zb ?_ (by assumption))),Or.inr ⟨w.heap.size,0,rfl,fun i hi=>?_⟩,by show data.length≤_;omega,by show 1≤_;omega,?_,?_,?_,hdn,fun e=>by cases e⟩
  ·obtain rfl:i=0:=by simp[zdq] at hi;omega
   show(w.alloc (.cells #[.int .i64 (p.tags+1)] 3)).cell? ⟨w.heap.size,0,none⟩=some (.int .i64 (p.tags+1))
   simp
  ·show zai pl;unfold zai;omega
  ·show zai 1;unfold zai;omega
  ·show zai p.moment;unfold zai;omega
 clear h gl gr hoff hd;have hask:p.nf.askQ pl wr data=match zco (p.queue.map Rq.nf) (zdq p pl wr data da dc w.heap.size).nf with
  |some l=>(true,{ p.nf with queue:=l,tags:=p.tags+1 })
  |none=>(false,p.nf):=rfl
 cases hF:zco (p.queue.map Rq.nf) (zdq p pl wr data da dc w.heap.size).nf with
 |none =>
  rw[hF] at hask;simp only at hask;rw[hask];have HF:=za hF;clear hF hask;go_enter Tryz.func82,Tryz.ntmps82;go_wp2_with fail
  go_region_held3 (fun w'=>w'.cell? ⟨s,21,none⟩=some (.slice A.qa p.queue.length A.qc)∧w'.cell? ⟨s,26,none⟩=some (.int .i64 p.moment)∧w'.cell? ⟨s,27,none⟩=some (.int .i64 p.tags)) (exact⟨cellB_later' (w:=w) (by(with_reducible repeat first|exact Below.refl _ _|refine zc ?_ _|refine zd ?_|refine bset' ?_ (by omega) _|refine zb ?_ (by assumption))) c21,cellB_later' (w:=w) (by(with_reducible repeat first|exact Below.refl _ _|refine zc ?_ _|refine zd ?_|refine bset' ?_ (by omega) _|refine zb ?_ (by assumption))) c26,cellB_later' (w:=w) (by(with_reducible repeat first|exact Below.refl _ _|refine zc ?_ _|refine zd ?_|refine bset' ?_ (by omega) _|refine zb ?_ (by assumption))) c27⟩) (first|(go_at_call 128;refine(znG p.queue A.qa A.qc (zdq p pl wr data da dc w.heap.size) ((w.alloc (.cells #[.int .i64 (p.tags+1)] 3)).drew) (HQ.out.later (by(with_reducible repeat first|exact Below.refl _ _|refine zc ?_ _|refine zd ?_|refine bset' ?_ (by omega) _|refine zb ?_ (by assumption)))) HN.out HAT.out hq HGR.out.1 HGR.out.2 HGL.out HF.out).mono ?_;rintro e w2 ⟨n,rfl,hb2⟩))
  all_goals
   have HB2:Hid (Below w.heap.size w w2):=(show Below w.heap.size w w2 by(with_reducible repeat first|exact Below.refl _ _|refine zc ?_ _|refine zd ?_|refine bset' ?_ (by omega) _|refine zb ?_ (by assumption)))
   go_wp2;go_ret;exact⟨p,A,rfl,zp.same' HST.out (by have:=HB2.out;((with_reducible repeat first|exact Below.refl _ _|refine zc ?_ _|refine zd ?_|refine bset' ?_ (by omega) _|refine zb ?_ (by assumption)))),rfl⟩
 |some L' =>
  rw[hF] at hask;simp only at hask;rw[hask];have HF:=za hF;clear hF hask;go_enter Tryz.func82,Tryz.ntmps82;go_wp2_with fail
  go_region_held3 (fun w'=>w'.cell? ⟨s,21,none⟩=some (.slice A.qa p.queue.length A.qc)∧w'.cell? ⟨s,26,none⟩=some (.int .i64 p.moment)∧w'.cell? ⟨s,27,none⟩=some (.int .i64 p.tags)) (exact⟨cellB_later' (w:=w) (by(with_reducible repeat first|exact Below.refl _ _|refine zc ?_ _|refine zd ?_|refine bset' ?_ (by omega) _|refine zb ?_ (by assumption))) c21,cellB_later' (w:=w) (by(with_reducible repeat first|exact Below.refl _ _|refine zc ?_ _|refine zd ?_|refine bset' ?_ (by omega) _|refine zb ?_ (by assumption))) c26,cellB_later' (w:=w) (by(with_reducible repeat first|exact Below.refl _ _|refine zc ?_ _|refine zd ?_|refine bset' ?_ (by omega) _|refine zb ?_ (by assumption))) c27⟩) (first|(go_at_call 128;refine(znH p.queue A.qa A.qc (zdq p pl wr data da dc w.heap.size) ((w.alloc (.cells #[.int .i64 (p.tags+1)] 3)).drew) (HQ.out.later (by(with_reducible repeat first|exact Below.refl _ _|refine zc ?_ _|refine zd ?_|refine bset' ?_ (by omega) _|refine zb ?_ (by assumption)))) HN.out HAT.out hq HGR.out.1 HGL.out L' HF.out).mono ?_;rintro e w2 ⟨L,a',c',rfl,hadd,hb2⟩;have HA:=za hadd;clear hadd))
  all_goals
   have HB2:Hid (Below w.heap.size w w2):=(show Below w.heap.size w w2 by(with_reducible repeat first|exact Below.refl _ _|refine zc ?_ _|refine zd ?_|refine bset' ?_ (by omega) _|refine zb ?_ (by assumption)))
   have HS2:=za (zp.same' HST.out HB2.out);have g21:=HS2.out.at'.cell 21 _ rfl;have g27:=HS2.out.at'.cell 27 _ rfl;have f21:=HS2.out.at'.fz 21;have f27:=HS2.out.at'.fz 27;have l2:=HS2.out.at'.lt;have HX:Hid (zp s p A { p with queue:=L,tags:=p.tags+1 } { A with qa:=a',qc:=c' } w ((w2.setCell ⟨s,21,none⟩ (.slice a' L.length c')).setCell ⟨s,27,none⟩ (.int .i64 (p.tags+1)))):=by
    obtain⟨h1,-,h3,h4,h5,h6⟩:=HA.out;have hz:w.heap.size<((w.alloc (.cells #[.int .i64 (p.tags+1)] 3)).drew).heap.size:=by simp
    refine HS2.out.trans (HS2.out.at'.setQueue L a' c' (p.tags+1) h3 h4 h5 (fun _ q hq' e=>?_) (fun r hr=>?_))
    ·have:=h6 q hq';have:=HST.out.offLt _ e
     omega
    ·rcases h1 with⟨k,hk,q,_,_,_,hf,rfl⟩|⟨_,_,rfl⟩
     ·rcases List.mem_or_eq_of_mem_set hr with hr'|rfl
      ·exact HST.out.mem.roffX r (List.mem_append_left _ hr')
      ·exact zmz (h3.2.1 r hr) hf (fun k' hk'=>by have:=HST.out.offLt _ hk';omega)
     ·rcases List.mem_append.1 hr with hr'|hr'
      ·exact HST.out.mem.roffX r (List.mem_append_left _ hr')
      ·rw[List.mem_singleton.1 hr'];refine⟨HOFF.out,fun _ ad ha e=>?_⟩;have hlt:=HST.out.offLt _ e;simp only[zdq,Option.some.injEq] at ha;subst ha;exact absurd hlt (Nat.lt_irrefl _)
   have HL:Hid (L'=L.map Rq.nf):=HA.out.2.1;clear hb2 HA HS2 HST HAT;go_wp2;go_ret;exact⟨_,_,rfl,HX.out,by rw[HL.out];rfl⟩
theorem zkJ(p:Sk)(n:Int):p.nf.held n=p.held n:=by
 show((p.queue.map Rq.nf++p.dev.busy.map Rq.nf).any fun r=>zau r.f r.m n)=_;rw[←List.map_append,List.any_map]
 rfl
theorem zhR{p:Sk}{pl:Int}{wr:Bool}{data:List ByteArray}(g:zv (p.reqOf pl wr data))(da:Option Addr)(dc tb:Nat):zv (zdq p pl wr data da dc tb)∧zc0 (zdq p pl wr data da dc tb)=0:=by
 have:zv (zdq p pl wr data da dc tb):=⟨g.ok,g.shape,g.t1,g.t4,g.b0,g.b1,g.small⟩
 exact⟨this,(zi8 _).2 this⟩
theorem Inv.goods{p:Sk}(h:Inv p)(i:Nat)(hi:i<p.queue.length):zv p.queue[i]:=h.good _ (List.mem_append_left _ (List.getElem_mem hi))
def SOk(s:Nat)(p:Sk)(A:Sa)(w w':World)(q:Sk):Prop:=∃p' A',zp s p A p' A' w w'∧p'.nf=q
theorem zjx(s:Nat)(p:Sk)(A:Sa)(w:World)(h:zj s p A w)(hI:Inv p)(hT:p.tags≤4000000000000000000)(i:Nat)(hi:i<3)(hk:¬(p.client i).kind=0)(hg:zat p.hand (p.client i).pl=none)(q:Sk)(hq:p.nf.serveRead i=q) :
 Calls Tryz.prog 116 #[.pointer (some ⟨s,0,none⟩),.pointer (some ⟨s,2+i*6,none⟩)] w fun e w'=>e=.returned (.tuple #[])∧SOk s p A w w' q:=by
 have HPL:=za ((hI.client i).pl hk);have e1:p.nf.serveRead i=if p.held (p.client i).pl=true then p.nf else(p.nf.askQ (p.client i).pl false []).2:=by
  rw[←zkJ];show(match zat p.hand (p.client i).pl with|some b=>_|none=>_)=_;rw[hg];rfl
 rw[e1] at hq;have HIX:Hid (zZ (plB (p.client i).pl) p.hand=-1):=by
  rcases zaV p.hand (p.client i).pl with⟨_,h'⟩|⟨k,hk',h',_⟩
  ·exact h'
  ·rw[hg] at h';cases h'
 have HGR:=za (fun tb=>zhR (zfa hI (p.client i).pl HPL.out false [] (Or.inr ⟨rfl,rfl⟩)) none 0 tb);have HGL:=za hI.goods;have HQ6:=za hI.q6;have HTM:=za (And.intro hI.tg hI.mom);obtain⟨-,d1,-⟩:=h.client i hi;have c20:=h.cell 20 _ rfl;have hl:=h.lt;have HST:=za h;have HH:=za h.mem.hand;clear h hI e1 hg;generalize hpl:(p.client i).pl=pl at *;have HC:Hid ((p.client i).pl=pl):=hpl;have HQ:=za hq;clear hpl hq;go_enter Tryz.func116,Tryz.ntmps116;go_wp2_with fail
 go_region_held3 (fun w'=>w'.cell? ⟨s,20,none⟩=some (.slice A.ha p.hand.length A.hc)∧w'.cell? ⟨s,2+i*6+1,none⟩=some (.int .i64 pl)) (exact⟨cellB_later' (w:=w) (by(with_reducible repeat first|exact Below.refl _ _|refine zc ?_ _|refine zd ?_|refine bset' ?_ (by omega) _|refine zb ?_ (by assumption))) c20,cellB_later' (w:=w) (by(with_reducible repeat first|exact Below.refl _ _|refine zc ?_ _|refine zd ?_|refine bset' ?_ (by omega) _|refine zb ?_ (by assumption))) d1⟩) (first|(go_at_call 81;refine(zgO p.hand A.ha A.hc pl _ (HH.out.later (by(with_reducible repeat first|exact Below.refl _ _|refine zc ?_ _|refine zd ?_|refine bset' ?_ (by omega) _|refine zb ?_ (by assumption)))) HIX.out).mono ?_;rintro e w1 ⟨rfl,hb1⟩;have z1:w.heap.size≤w1.heap.size:=(show Below w.heap.size w w1 by(with_reducible repeat first|exact Below.refl _ _|refine zc ?_ _|refine zd ?_|refine bset' ?_ (by omega) _|refine zb ?_ (by assumption))).size;(try(obtain⟨k0,k1,k2,k3,k4,k5,k6,k7⟩:w1.cell? ⟨w.heap.size,0,none⟩=some (.int .i64 0)∧w1.cell? ⟨w.heap.size,1,none⟩=some (.string ⟨#[]⟩)∧w1.cell? ⟨w.heap.size,2,none⟩=some (.bool false)∧w1.cell? ⟨w.heap.size,3,none⟩=some (.int .i64 0)∧w1.frozen? ⟨w.heap.size,0,none⟩=false∧w1.frozen? ⟨w.heap.size,1,none⟩=false∧w1.frozen? ⟨w.heap.size,2,none⟩=false∧w1.frozen? ⟨w.heap.size,3,none⟩=false;(focus((refine⟨(hb1.cell (p:=⟨w.heap.size,0,none⟩) ?_).trans ?_,(hb1.cell (p:=⟨w.heap.size,1,none⟩) ?_).trans ?_,(hb1.cell (p:=⟨w.heap.size,2,none⟩) ?_).trans ?_,(hb1.cell (p:=⟨w.heap.size,3,none⟩) ?_).trans ?_,(hb1.frozen (p:=⟨w.heap.size,0,none⟩) ?_).trans ?_,(hb1.frozen (p:=⟨w.heap.size,1,none⟩) ?_).trans ?_,(hb1.frozen (p:=⟨w.heap.size,2,none⟩) ?_).trans ?_,(hb1.frozen (p:=⟨w.heap.size,3,none⟩) ?_).trans ?_⟩);(all_goals simp);(all_goals omega)))))))
 all_goals
  go_wp2_with fail;refine(zcN s p A _ (HST.out.later (by(with_reducible repeat first|exact Below.refl _ _|refine zc ?_ _|refine zd ?_|refine bset' ?_ (by omega) _|refine zb ?_ (by assumption)))) (by have:=HQ6.out;omega)).mono ?_;rintro e w2 ⟨hb,rfl,hH,hb2⟩;have HB2:Hid (Below w.heap.size w w2):=(show Below w.heap.size w w2 by(with_reducible repeat first|exact Below.refl _ _|refine zc ?_ _|refine zd ?_|refine bset' ?_ (by omega) _|refine zb ?_ (by assumption)))
  have HHO:=za hH;have HS2:=za (zp.same' HST.out HB2.out);have g1:=(HS2.out.at'.client i hi).2.1;rw[HC.out] at g1;have l2:=HS2.out.at'.lt;clear hb2 hH c20 d1;go_wp2_with fail;refine(zdm hb _ pl w2 HHO.out).mono ?_;rintro e w3 ⟨rfl,hb3⟩;have HS3:=za (HS2.out.later hb3);have g3:=(HS3.out.at'.client i hi).2.1;rw[HC.out] at g3;have l3:=HS3.out.at'.lt;have HEQ:Hid (zaB (p.queue++p.dev.busy) pl=p.held pl):=za rfl
  cases hh:zaB (p.queue++p.dev.busy) pl
  ·have HF:Hid (p.held pl=false):=HEQ.out.symm.trans hh;go_wp2_with fail;refine(ziU s p A w3 HS3.out.at' (by have:=HQ6.out;omega) HGL.out ⟨HTM.out.1,hT⟩ HTM.out.2 pl HPL.out false [] (by simp) none 0 (Or.inl rfl) (fun _=>rfl) (fun hne=>absurd rfl hne) HGR.out).mono ?_;rintro e w4 ⟨p',A',rfl,hs4,hn4⟩;have HS4:=za (HS3.out.trans hs4);have HN4:=za hn4;clear hs4 hn4;go_wp2;go_end0;exact⟨rfl,p',A',HS4.out,HN4.out.trans (by rw[←HQ.out,HF.out];rfl)⟩
  ·have HF:Hid (p.held pl=true):=HEQ.out.symm.trans hh;go_wp2;go_end0;exact⟨rfl,p,A,HS3.out,by rw[←HQ.out,HF.out];rfl⟩
theorem zcZ{K:Act→World→Prop}{Q:Exit→Act→World→Prop}{a:Act}{w:World}(R:World→Prop)(h:R w)(k:∀w',R w'→Exit.then K Q .normal a w'):Exit.then K Q .normal a w:=k w h
theorem zko{P:Program}{ops:Array Oper}{o:Oper}{a:Act}{w:World}{K:Act→World→Prop}{Q:Exit→Act→World→Prop}{E:Prop}
 (hg:o.guard=none) (f:FuncId) (x1 x2 x3:Nat) (t1 t2 t3:TypeId) (hop:o.op=Op.call { callee:=Callee.value (.func f),args:=#[.tmp x1,.tmp x2,.tmp x3],argTypes:=#[t1,t2,t3] }) (eg:∀args w,(callFunc f args).run P w=.ok (.enter f args) w)
 (v1 v2 v3:Value) (e1:a.tmps[x1]?.getD undef=v1) (e2:a.tmps[x2]?.getD undef=v2) (e3:a.tmps[x3]?.getD undef=v3) (R:Value→World→Prop) (hc:Calls P f #[v1,v2,v3] w fun e w'=>∃r,e=.returned r∧R r w') (h:∀r w',R r w'→K (a.put o.dst r) w') :
 if Region.wanted o (yielded ops a.tmps)=true then Oper.wp P o a w K Q else E:=by
 have hw:Region.wanted o (yielded ops a.tmps)=true:=by simp[Region.wanted,hg]
 rw[if_pos hw];unfold Oper.wp
 simp[execOp,hop,resolve,invoke,e1,e2,e3,eg,go_sem]
 refine hc.mono ?_;rintro _ w' ⟨r,rfl,hs⟩;exact h r w' hs
section
variable{s:Nat}{p:Sk}{A:Sa}{w:World}
theorem zH.setHand(h:zH s p A w)(l:List Bf)(a':Option Addr)(c':Nat)(hB:zB w a' l)(hcap:l.length≤c')(hnil:a'=none→c'=0)(ho:l ≠ []→∀q,a'=some q→¬A.off s q.block):zH s { p with hand:=l } { A with ha:=a',hc:=c' } w where
 drv:=h.drv
 map:=h.map
 im:=h.im
 nb:=h.nb
 hand:=hB
 hnil:=hnil
 hcap:=hcap
 queue:=h.queue
 qnil:=h.qnil
 qcap:=h.qcap
 left:=h.left
 sv:=h.sv
 vl:=h.vl
 ll:=h.ll
 hoffX:=ho
 qoffX:=h.qoffX
 roffX:=h.roffX
 xlt:=h.xlt
theorem zH.setUses(h:zH s p A w)(u:Int):zH s { p with uses:=u } A w where
 drv:=h.drv
 map:=h.map
 im:=h.im
 nb:=h.nb
 hand:=h.hand
 hnil:=h.hnil
 hcap:=h.hcap
 queue:=h.queue
 qnil:=h.qnil
 qcap:=h.qcap
 left:=h.left
 sv:=h.sv
 vl:=h.vl
 ll:=h.ll
 hoffX:=h.hoffX
 qoffX:=h.qoffX
 roffX:=h.roffX
 xlt:=h.xlt
theorem zj.setUses(h:zj s p A w)(u:Int):zp s p A { p with uses:=u } A w (w.setCell ⟨s,28,none⟩ (.int .i64 u)):=h.put (h.mem.setUses u) 28 _ rfl (fun _ hk=>hk) ⟨rfl,rfl,rfl,rfl⟩
theorem zj.setHand(h:zj s p A w)(l:List Bf)(a':Option Addr)(c':Nat)(hB:zB w a' l)(hcap:l.length≤c')(hnil:a'=none→c'=0)(ho:l ≠ []→∀q,a'=some q→¬A.off s q.block):zp s p A { p with hand:=l } { A with ha:=a',hc:=c' } w (w.setCell ⟨s,20,none⟩ (.slice a' l.length c')):=h.put (h.mem.setHand l a' c' hB hcap hnil ho) 20 _ rfl (fun _ hk=>hk) ⟨rfl,rfl,rfl,rfl⟩
end
theorem zih(l:List Bf)(pl u:Int):(useL l pl u).length=l.length:=by simp[useL]
theorem zp.box{s:Nat}{p p':Sk}{A A':Sa}{w wz w':World}{g j:Nat}{v:Value}(hs:zp s p A p' A' wz w')(h0:zj s p A w)(hg:w.heap.size≤g)(hc:wz.cell? ⟨g,j,none⟩=some v):w'.cell? ⟨g,j,none⟩=some v :=
 (hs.only.cell (p:=⟨g,j,none⟩) (zg hc) (fun e=>by have:=h0.footLt _ e;simp only at this;omega)).trans hc
theorem ziB(s:Nat)(p:Sk)(A:Sa)(w:World)(h:zj s p A w)(hI:Inv p)(hU:p.uses≤4000000000000000000)(i:Nat)(hi:i<3)(k:Nat)(hk:k<p.hand.length)(hg:zat p.hand (p.client i).pl=some p.hand[k])(hix:zZ (plB (p.client i).pl) p.hand=k)(ho:zdZ p.hand)(q:Sk)(hq:p.nf.serveRead i=q) :
 Calls Tryz.prog 116 #[.pointer (some ⟨s,0,none⟩),.pointer (some ⟨s,2+i*6,none⟩)] w fun e w'=>e=.returned (.tuple #[])∧SOk s p A w w' q:=by
 have e1:p.nf.serveRead i=({ p.nf with uses:=p.uses+1,hand:=useL p.hand (p.client i).pl (p.uses+1) }:Sk).answer i p.hand[k].data 0:=by
  show(match zat p.hand (p.client i).pl with|some b=>_|none=>_)=_;rw[hg];rfl
 rw[e1] at hq;have H8:=za hI.hand.len;have HU0:=za hI.us;have HCL:=za hI.cl3;have HIX:=za hix;have HO:=za ho;obtain⟨-,d1,-⟩:=h.client i hi;have c20:=h.cell 20 _ rfl;have hl:=h.lt;have HST:=za h;have HH:=za h.mem.hand;have hwr:IntKind.i64.wrap (p.uses+1)=p.uses+1:=by have:=hI.us;rw[IntKind.wrap_i64];omega
 clear h hI e1 hg hix ho;generalize hpl:(p.client i).pl=pl at *;have HC:Hid ((p.client i).pl=pl):=hpl;obtain⟨b,hbk⟩:∃b,b=p.hand[k]:=⟨_,rfl⟩
 rw[←hbk] at hq;have HBK:Hid (b=p.hand[k]):=hbk;have HQ:=za hq;clear hpl hq hbk;obtain⟨bpl,bdata,bdirty,bused⟩:=b;go_enter Tryz.func116,Tryz.ntmps116;go_wp2_with fail
 go_region_held3 (fun w'=>w'.cell? ⟨s,20,none⟩=some (.slice A.ha p.hand.length A.hc)∧w'.cell? ⟨s,2+i*6+1,none⟩=some (.int .i64 pl)) (exact⟨cellB_later' (w:=w) (by(with_reducible repeat first|exact Below.refl _ _|refine zc ?_ _|refine zd ?_|refine bset' ?_ (by omega) _|refine zb ?_ (by assumption))) c20,cellB_later' (w:=w) (by(with_reducible repeat first|exact Below.refl _ _|refine zc ?_ _|refine zd ?_|refine bset' ?_ (by omega) _|refine zb ?_ (by assumption))) d1⟩) (first|(go_at_call 81;refine(zex p.hand A.ha A.hc pl _ (HH.out.later (by(with_reducible repeat first|exact Below.refl _ _|refine zc ?_ _|refine zd ?_|refine bset' ?_ (by omega) _|refine zb ?_ (by assumption)))) k hk HIX.out).mono ?_;rw[←HBK.out];rintro e w1 ⟨rfl,hb1⟩;have z1:w.heap.size≤w1.heap.size:=(show Below w.heap.size w w1 by(with_reducible repeat first|exact Below.refl _ _|refine zc ?_ _|refine zd ?_|refine bset' ?_ (by omega) _|refine zb ?_ (by assumption))).size;(try(obtain⟨k0,k1,k2,k3,k4,k5,k6,k7⟩:w1.cell? ⟨w.heap.size,0,none⟩=some (.int .i64 0)∧w1.cell? ⟨w.heap.size,1,none⟩=some (.string ⟨#[]⟩)∧w1.cell? ⟨w.heap.size,2,none⟩=some (.bool false)∧w1.cell? ⟨w.heap.size,3,none⟩=some (.int .i64 0)∧w1.frozen? ⟨w.heap.size,0,none⟩=false∧w1.frozen? ⟨w.heap.size,1,none⟩=false∧w1.frozen? ⟨w.heap.size,2,none⟩=false∧w1.frozen? ⟨w.heap.size,3,none⟩=false;(focus((refine⟨(hb1.cell (p:=⟨w.heap.size,0,none⟩) ?_).trans ?_,(hb1.cell (p:=⟨w.heap.size,1,none⟩) ?_).trans ?_,(hb1.cell (p:=⟨w.heap.size,2,none⟩) ?_).trans ?_,(hb1.cell (p:=⟨w.heap.size,3,none⟩) ?_).trans ?_,(hb1.frozen (p:=⟨w.heap.size,0,none⟩) ?_).trans ?_,(hb1.frozen (p:=⟨w.heap.size,1,none⟩) ?_).trans ?_,(hb1.frozen (p:=⟨w.heap.size,2,none⟩) ?_).trans ?_,(hb1.frozen (p:=⟨w.heap.size,3,none⟩) ?_).trans ?_⟩);(all_goals simp);(all_goals omega)))))))
 refine zcZ (fun wz=>Below w.heap.size w wz∧wz.cell? ⟨w1.heap.size,1,none⟩=some (.string bdata)∧w.heap.size≤w1.heap.size) ⟨by(with_reducible repeat first|exact Below.refl _ _|refine zc ?_ _|refine zd ?_|refine bset' ?_ (by omega) _|refine zb ?_ (by assumption)),by simp,z1⟩ ?_
 rotate_left
 refine zcZ (fun wz=>Below w.heap.size w wz∧wz.cell? ⟨w.heap.size,1,none⟩=some (.string bdata)∧w.heap.size≤w.heap.size) ⟨by(with_reducible repeat first|exact Below.refl _ _|refine zc ?_ _|refine zd ?_|refine bset' ?_ (by omega) _|refine zb ?_ (by assumption)),(zL (Or.inr (by omega))).trans ((zL (Or.inr (by omega))).trans (World.cell?_setCell_same _ _ _ ((zL (Or.inr (by omega))).trans k1))),Nat.le_refl _⟩ ?_
 all_goals
  rintro wz ⟨hbz,hbx,hge⟩;have HBX:=za hbx;have HGE:=za hge;have HSz:=za (zp.same' HST.out hbz);have c28:=HSz.out.at'.cell 28 _ rfl;have f28:=HSz.out.at'.fz 28;have lz:=HSz.out.at'.lt;clear hb1 z1 hbx hge hbz c20 d1;go_wp2_with fail;refine zbD (fun wy=>zp s p A { p with uses:=p.uses+1 } A wz wy) (HSz.out.at'.setUses (p.uses+1)) ?_;intro wy hsy;have HSy:=za hsy;have HS:Hid ((fun wv:World=>wv.cell? ⟨s,20,none⟩=some (.slice A.ha p.hand.length A.hc)∧wv.cell? ⟨s,2+i*6+1,none⟩=some (.int .i64 pl)∧wv.cell? ⟨s,28,none⟩=some (.int .i64 (p.uses+1))∧s<wv.heap.size) wy.drew):=⟨hsy.at'.cell 20 _ rfl,by rw[←HC.out];exact(hsy.at'.client i hi).2.1,hsy.at'.cell 28 _ rfl,hsy.at'.lt⟩
  have eg:∀args w,Sem.run Tryz.prog (callFunc 159 args) w=.ok (.enter 159 args) w:=by intro args w;go_simp
  clear hsy c28 f28 lz;refine zbH (S:=fun wv:World=>wv.cell? ⟨s,20,none⟩=some (.slice A.ha p.hand.length A.hc)∧wv.cell? ⟨s,2+i*6+1,none⟩=some (.int .i64 pl)∧wv.cell? ⟨s,28,none⟩=some (.int .i64 (p.uses+1))∧s<wv.heap.size) (d:=16) (by kernel_rfl) ?_;refine tk 0 ?_ rfl (Or.inl ⟨by rfl,?_⟩) HS.out ?_;rotate_left;(focus(intro w0 hSw;obtain⟨s0,s1,s2,s3⟩:=hSw;go_simp;(try with_reducible rfl)));(try simp only[Act.put,dP])
  refine tk 1 ?_ rfl (Or.inl ⟨by rfl,?_⟩) HS.out ?_;rotate_left;(focus(intro w0 hSw;obtain⟨s0,s1,s2,s3⟩:=hSw;go_simp;(try with_reducible rfl)));(try simp only[Act.put,dP])
  refine tk 2 ?_ rfl (Or.inl ⟨by rfl,?_⟩) HS.out ?_;rotate_left;(focus(intro w0 hSw;obtain⟨s0,s1,s2,s3⟩:=hSw;go_simp;(try with_reducible rfl)));(try simp only[Act.put,dP])
  refine tk 3 ?_ rfl (Or.inl ⟨by rfl,?_⟩) HS.out ?_;rotate_left;(focus(intro w0 hSw;obtain⟨s0,s1,s2,s3⟩:=hSw;go_simp;(try with_reducible rfl)));(try simp only[Act.put,dP])
  refine tk 4 ?_ rfl (Or.inl ⟨by rfl,?_⟩) HS.out ?_;rotate_left;(focus(intro w0 hSw;obtain⟨s0,s1,s2,s3⟩:=hSw;go_simp;(try with_reducible rfl)));(try simp only[Act.put,dP])
  refine tk 5 ?_ rfl (Or.inl ⟨by rfl,?_⟩) HS.out ?_;rotate_left;(focus(intro w0 hSw;obtain⟨s0,s1,s2,s3⟩:=hSw;go_simp;(try with_reducible rfl)));(try simp only[Act.put,dP])
  refine tk 6 ?_ rfl (Or.inl ⟨by rfl,?_⟩) HS.out ?_;rotate_left;(focus(intro w0 hSw;obtain⟨s0,s1,s2,s3⟩:=hSw;go_simp;(try with_reducible rfl)));(try simp only[Act.put,dP])
  refine tk 7 ?_ rfl (Or.inl ⟨by rfl,?_⟩) HS.out ?_;rotate_left;(focus(intro w0 hSw;obtain⟨s0,s1,s2,s3⟩:=hSw;go_simp;(try with_reducible rfl)));(try simp only[Act.put,dP])
  refine tk 8 ?_ rfl (Or.inl ⟨by rfl,?_⟩) HS.out ?_;rotate_left;(focus(intro w0 hSw;obtain⟨s0,s1,s2,s3⟩:=hSw;go_simp;(try with_reducible rfl)));(try simp only[Act.put,dP])
  refine tk 9 ?_ rfl (Or.inl ⟨by rfl,?_⟩) HS.out ?_;rotate_left;(focus(intro w0 hSw;obtain⟨s0,s1,s2,s3⟩:=hSw;go_simp;(try with_reducible rfl)));(try simp only[Act.put,dP])
  refine tk 10 ?_ rfl (Or.inl ⟨by rfl,?_⟩) HS.out ?_;rotate_left;(focus(intro w0 hSw;obtain⟨s0,s1,s2,s3⟩:=hSw;go_simp;(try with_reducible rfl)));(try simp only[Act.put,dP])
  refine tk 11 ?_ rfl (Or.inl ⟨by rfl,?_⟩) HS.out ?_;rotate_left;(focus(intro w0 hSw;obtain⟨s0,s1,s2,s3⟩:=hSw;go_simp;(try with_reducible rfl)));(try simp only[Act.put,dP])
  refine tk 12 ?_ rfl (Or.inl ⟨by rfl,?_⟩) HS.out ?_;rotate_left;(focus(intro w0 hSw;obtain⟨s0,s1,s2,s3⟩:=hSw;go_simp;(try with_reducible rfl)));(try simp only[Act.put,dP])
  refine zN (i:=13) rfl (by kernel_rfl) ?_;intro K hK;refine zko rfl 159 31 35 39 91 3 3 rfl eg (.slice A.ha p.hand.length A.hc) (.int .i64 pl) (.int .i64 (p.uses+1)) rfl rfl rfl (fun r w'=>∃a' c',r=.slice a' p.hand.length c'∧zB w' a' (useL p.hand pl (p.uses+1))∧p.hand.length≤c'∧zc6 wy.heap.size a'∧(a'=none→c'=0)∧Below wy.heap.size wy w') ((useN p.hand A.ha A.hc pl (p.uses+1) wy.drew (HSy.out.at'.mem.hand.later (Below.refl _ _).drew) HSy.out.at'.mem.hnil (by have:=H8.out;omega) HO.out).mono (fun e w' ⟨a',c',he,h1,h2,h3,h4,h5⟩=>⟨_,he,a',c',rfl,h1,h2,h3,h4,(Below.refl _ _).drew.trans h5⟩)) ?_;rintro r w5 ⟨a',c',rfl,u1,u2,u3,u4,u5⟩;have HS5:=za (HSy.out.later u5);have HSH:=za (HS5.out.trans (HS5.out.at'.setHand (useL p.hand pl (p.uses+1)) a' c' u1 (by rw[zih];exact u2) u4 (fun _ q' hq' e=>by have:=u3 q' hq';have:=HSy.out.at'.offLt _ e;omega)));have v20:=HS5.out.at'.cell 20 _ rfl;have x20:=HS5.out.at'.fz 20;have l5:=HS5.out.at'.lt;refine hK _ _ (fun _=>⟨v20,by rw[←HC.out];exact(HS5.out.at'.client i hi).2.1,HS5.out.at'.cell 28 _ rfl,l5⟩) ?_
  (try simp only[Act.put,dP])
  have HS':Hid ((fun wv:World=>wv.cell? ⟨s,20,none⟩=some (.slice A.ha p.hand.length A.hc)∧wv.cell? ⟨s,2+i*6+1,none⟩=some (.int .i64 pl)∧wv.cell? ⟨s,28,none⟩=some (.int .i64 (p.uses+1))∧s<wv.heap.size) w5):=⟨v20,by rw[←HC.out];exact(HS5.out.at'.client i hi).2.1,HS5.out.at'.cell 28 _ rfl,l5⟩
  clear hK u1 u2 u3 u4 u5;refine zN (i:=14) rfl (by kernel_rfl) ?_;intro K hK;go_simp;refine hK _ _ (fun _=>HS'.out) ?_
  (try simp only[Act.put,dP])
  clear hK;refine zN (i:=15) rfl (by kernel_rfl) ?_;intro K hK;go_simp;refine hK _ _ (fun _=>HS'.out) ?_
  (try simp only[Act.put,dP])
  clear hK;refine zN (i:=16) rfl (by kernel_rfl) ?_;intro K hK;go_simp;refine hK _ _ (fun h=>absurd rfl h) ?_
  (try simp only[Act.put,dP])
  clear hK;refine zbX (by kernel_rfl) ?_ _;refine zcZ (fun wv=>zp s p A { p with uses:=p.uses+1,hand:=useL p.hand pl (p.uses+1) } { A with ha:=a',hc:=c' } wz wv) (by have:=HSH.out;rw[zih] at this;exact this) ?_;intro w6 hs6;have HS6:=za hs6;have hbx6:=hs6.box HST.out HGE.out HBX.out;have l6:=zg hbx6;clear hs6 v20 x20 l5;go_wp2_with fail;have hans:=zcv s _ _ w6 HS6.out.at' HCL.out i hi bdata 0;rw[show zI 0=.nilIface from rfl] at hans;refine hans.mono ?_;clear hans;rintro e w7 ⟨rfl,hs7⟩;have HS7:=za (HSz.out.trans (HS6.out.trans hs7));clear hs7 hbx6 l6;go_wp2;refine bodyPost_ret (v:=.tuple #[]) (by simp[results,Tryz.results116,go_sem]) rfl ?_;exact⟨rfl,_,_,HS7.out,by rw[←HQ.out];rfl⟩
theorem zhd(s:Nat)(p:Sk)(A:Sa)(w:World)(h:zj s p A w)(hl3:p.cl.length=3)(i:Nat)(hi:i<3)(hd:p.dead=true)(q:Sk)(hq:p.nf.serveWrite i=q) :
 Calls Tryz.prog 117 #[.pointer (some ⟨s,0,none⟩),.pointer (some ⟨s,2+i*6,none⟩)] w fun e w'=>e=.returned (.tuple #[])∧SOk s p A w w' q:=by
 have e1:p.nf.serveWrite i=p.nf.answer i ByteArray.empty 9:=by
  unfold Sk.serveWrite;rw[if_pos (show p.nf.dead=true from hd)]
 rw[e1] at hq;have c29:=h.cell 29 _ rfl;rw[hd] at c29;have hl:=h.lt;have HANS:=za (zcv s p A w h hl3 i hi ByteArray.empty 9);have HQ:=za hq;clear h e1 hq;go_enter Tryz.func117,Tryz.ntmps117;go_wp2_with fail;refine HANS.out.mono ?_;rintro e w7 ⟨rfl,hs7⟩;have HS7:=za hs7;clear hs7;go_wp2;refine bodyPost_ret (v:=.tuple #[]) (by simp[results,Tryz.results117,go_sem]) rfl ?_;exact⟨rfl,_,_,HS7.out,by rw[←HQ.out];rfl⟩
theorem zhe(s:Nat)(p:Sk)(A:Sa)(w:World)(h:zj s p A w)(i:Nat)(hi:i<3)(hd:p.dead=false)(h6:6≤zE p.hand)(h8:p.hand.length≤8)(hn:zS p.hand (p.client i).pl=false)(q:Sk)(hq:p.nf.serveWrite i=q) :
 Calls Tryz.prog 117 #[.pointer (some ⟨s,0,none⟩),.pointer (some ⟨s,2+i*6,none⟩)] w fun e w'=>e=.returned (.tuple #[])∧SOk s p A w w' q:=by
 have e1:p.nf.serveWrite i=p.nf:=by
  unfold Sk.serveWrite;rw[if_neg (by rw[show p.nf.dead=false from hd];exact Bool.false_ne_true),if_pos ⟨h6,hn⟩]
 rw[e1] at hq;have c29:=h.cell 29 _ rfl;rw[hd] at c29;have hl:=h.lt;obtain⟨-,d1,-⟩:=h.client i hi;have HQ:=za hq;have HST:=za h;have HN:=za hn;have h9:zE p.hand≤8:=Nat.le_trans (List.length_filter_le _ _) h8;obtain⟨n,hnn⟩:∃n,zE p.hand=n:=⟨_,rfl⟩
 rw[hnn] at h6 h9;have HNN:=za hnn;generalize hpl:(p.client i).pl=pl at *;have h6':(6:Int)≤(n:Int):=by omega
 clear h e1 hq hn hnn h8 hpl;go_enter Tryz.func117,Tryz.ntmps117;go_wp2_with fail;refine(zbC s p A w HST.out n HNN.out).mono ?_;rintro e w1 ⟨rfl,hb1⟩;have HS1:=za (zp.same' HST.out hb1);have g1:=cellB_later' hb1 d1;have l1:=HS1.out.at'.lt;go_wp2_with fail;refine(zgd s p A pl w1 HS1.out.at' false HN.out).mono ?_;rintro e w2 ⟨rfl,hb2⟩;have HS2:=za (HS1.out.later hb2);clear hb1 hb2;go_wp2;refine bodyPost_ret (v:=.tuple #[]) (by simp[results,Tryz.results117,go_sem]) rfl ?_;exact⟨rfl,p,A,HS2.out,HQ.out⟩
theorem zkN{l m:List Bf}{x:Bf}{H:Int→Bool}(h:zeO l x H m):zcj l x H=some m:=by
 unfold zcj
 rcases h with⟨k,hk,hi,rfl⟩|⟨hi,h8,rfl⟩|⟨hi,h8,k,hk,hl,rfl⟩
 ·rw[hi,if_pos (by omega)];simp
 ·rw[hi,if_neg (by omega),if_pos h8]
 ·rw[hi,if_neg (by omega),if_neg (by omega),hl,if_pos (by omega)];simp
theorem zoC{l:List Bf}{x:Bf}{H:Int→Bool}(hi:zZ (plB x.pl) l=-1)(h8:l.length=8)(hl:zac (zaO false H) l l.length=-1):zcj l x H=none:=by
 unfold zcj;rw[hi,if_neg (by omega),if_neg (by omega),hl,if_neg (by omega)]
theorem zjp(hb:Nat)(lq:List Rq)(l:List Bf)(a:Option Addr)(c:Nat)(x:Bf)(w:World)(hl:zB w a l)(hn:a=none→c=0)(h8:l.length≤8)(hh:zbz w hb lq)(hp:zcj l x (zaB lq)=none) :
 Calls Tryz.prog 161 #[.slice a l.length c,x.val,.func (.func 123) #[] #[.pointer (some ⟨hb,0,none⟩)]] w fun e w'=>e=.returned (.tuple #[.slice none 0 0,.iface 87 (.int .i64 7)])∧Below w.heap.size w w':=by
 refine(zjo 123 (by intro args w;go_simp) #[.pointer (some ⟨hb,0,none⟩)] (zaB lq) l a c x w hl hn h8 (fun n w' hb'=>zdm hb lq n w' (hh.later hb'))).mono ?_;rintro e w' ⟨⟨m,a',c',hm,_⟩|⟨_,_,_,he⟩,hb'⟩
 ·rw[zkN hm] at hp;cases hp
 ·exact⟨he,hb'⟩
theorem zjq(hb:Nat)(lq:List Rq)(l:List Bf)(a:Option Addr)(c:Nat)(x:Bf)(w:World)(hl:zB w a l)(hn:a=none→c=0)(h8:l.length≤8)(hh:zbz w hb lq)(m:List Bf)(hp:zcj l x (zaB lq)=some m) :
 Calls Tryz.prog 161 #[.slice a l.length c,x.val,.func (.func 123) #[] #[.pointer (some ⟨hb,0,none⟩)]] w fun e w'=>∃a' c',e=.returned (.tuple #[.slice a' m.length c',.nilIface])∧(zB w' a' m∧m.length≤c'∧zc6 w.heap.size a'∧(a'=none→c'=0))∧Below w.heap.size w w':=by
 refine(zjo 123 (by intro args w;go_simp) #[.pointer (some ⟨hb,0,none⟩)] (zaB lq) l a c x w hl hn h8 (fun n w' hb'=>zdm hb lq n w' (hh.later hb'))).mono ?_;rintro e w' ⟨⟨m',a',c',hm,he,h1⟩|⟨hi,h8',hl',_⟩,hb'⟩
 ·rw[zkN hm] at hp
  cases hp
  exact⟨a',c',he,h1,hb'⟩
 ·rw[zoC hi h8' hl'] at hp;cases hp
theorem zgo(p:Sk):p.nf.held=zaB (p.queue++p.dev.busy):=funext fun n=>zkJ p n
theorem zhL(s:Nat)(p:Sk)(A:Sa)(w:World)(h:zj s p A w)(hl3:p.cl.length=3)(i:Nat)(hi:i<3)(hd:p.dead=false)(h8:p.hand.length≤8)(hq6:p.queue.length≤6)(hU:0≤p.uses∧p.uses≤4000000000000000000)(hc:¬(6≤zE p.hand∧zS p.hand (p.client i).pl=false))(q:Sk)(hq:p.nf.serveWrite i=q) :
 Calls Tryz.prog 117 #[.pointer (some ⟨s,0,none⟩),.pointer (some ⟨s,2+i*6,none⟩)] w fun e w'=>e=.returned (.tuple #[])∧SOk s p A w w' q:=by
 have e1:p.nf.serveWrite i=match zcj p.hand ⟨(p.client i).pl,(p.client i).data,true,p.uses+1⟩ (zaB (p.queue++p.dev.busy)) with
  |some l=>({ p.nf with uses:=p.uses+1,hand:=l }:Sk).answer i ByteArray.empty 0
  |none=>{ p.nf with uses:=p.uses+1 }:=by
  rw[←zgo];unfold Sk.serveWrite;rw[if_neg (by rw[show p.nf.dead=false from hd];exact Bool.false_ne_true),if_neg (show ¬(6≤zE p.nf.hand∧zS p.nf.hand (p.nf.client i).pl=false) from hc)]
  rfl
 rw[e1] at hq;have c29:=h.cell 29 _ rfl;rw[hd] at c29;have hl:=h.lt;obtain⟨-,d1,d2,-⟩:=h.client i hi;have HD1:=za d1;have HD2:=za d2;have HQ:=za hq;have HST:=za h;have HC:=za hc;have h9:zE p.hand≤8:=Nat.le_trans (List.length_filter_le _ _) h8;obtain⟨n,hnn⟩:∃n,zE p.hand=n:=⟨_,rfl⟩
 rw[hnn] at h9;have HNN:=za hnn;have hwr:IntKind.i64.wrap (p.uses+1)=p.uses+1:=by rw[IntKind.wrap_i64];omega
 clear h e1 hq hc hnn d2;generalize hpl:(p.client i).pl=pl at *;generalize hdt:(p.client i).data=dt at *;have HPL:=za hpl;have HDT:=za hdt;clear hpl hdt
 by_cases h6:6≤n
 have h6':(6:Int)≤(n:Int):=by omega
 have HDY:Hid (zS p.hand pl=true):=by
  cases hh:zS p.hand pl
  ·exact absurd ⟨by rw[HNN.out];exact h6,hh⟩ HC.out
  ·rfl
 go_enter Tryz.func117,Tryz.ntmps117;go_wp2_with fail;refine(zbC s p A w HST.out n HNN.out).mono ?_;rintro e w1 ⟨rfl,hb1⟩;have HS1:=za (zp.same' HST.out hb1);have g1:=cellB_later' hb1 d1;have l1:=HS1.out.at'.lt;go_wp2_with fail;refine(zgd s p A pl w1 HS1.out.at' true HDY.out).mono ?_;rintro e w2 ⟨rfl,hb2⟩;have HS2:=za (HS1.out.later hb2);have c28:=HS2.out.at'.cell 28 _ rfl;have f28:=HS2.out.at'.fz 28;have l2:=HS2.out.at'.lt;clear hb1 hb2 g1 l1 d1;go_wp2_with fail
 rotate_left
 have h6':¬(6:Int)≤(n:Int):=by omega
 go_enter Tryz.func117,Tryz.ntmps117;go_wp2_with fail;refine(zbC s p A w HST.out n HNN.out).mono ?_;rintro e w2 ⟨rfl,hb1⟩;have HS2:=za (zp.same' HST.out hb1);have c28:=HS2.out.at'.cell 28 _ rfl;have f28:=HS2.out.at'.fz 28;have l2:=HS2.out.at'.lt;clear hb1 d1;go_wp2_with fail
 all_goals
  refine zbD (fun wy=>zp s p A { p with uses:=p.uses+1 } A w wy) (HS2.out.trans (HS2.out.at'.setUses (p.uses+1))) ?_;intro wy hsy;have HSy:=za hsy;have y20:=hsy.at'.cell 20 _ rfl;have y28:=hsy.at'.cell 28 _ rfl;have ly:=hsy.at'.lt;obtain⟨-,y1,y2,-⟩:=hsy.at'.client i hi;have HYP:Hid (({ p with uses:=p.uses+1 }:Sk).client i=p.client i):=za rfl;rw[HYP.out,HPL.out] at y1;rw[HYP.out,HDT.out] at y2;clear hsy c28 f28 l2
  cases hP:zcj p.hand ⟨pl,dt,true,p.uses+1⟩ (zaB (p.queue++p.dev.busy)) with
  |none =>
   have HP:=za hP;have HQ2:Hid ({ p.nf with uses:=p.uses+1 }=q):=by have:=HQ.out;rw[hP] at this;exact this
   clear hP HQ
   go_region_held3 (fun w'=>w'.cell? ⟨s,20,none⟩=some (.slice A.ha p.hand.length A.hc)∧w'.cell? ⟨s,28,none⟩=some (.int .i64 (p.uses+1))∧w'.cell? ⟨s,2+i*6+1,none⟩=some (.int .i64 pl)∧w'.cell? ⟨s,2+i*6+2,none⟩=some (.string dt)) (exact⟨cellB_later' (w:=wy) (by(with_reducible repeat first|exact Below.refl _ _|refine zc ?_ _|refine zd ?_|refine bset' ?_ (by omega) _|refine zb ?_ (by assumption))) y20,cellB_later' (w:=wy) (by(with_reducible repeat first|exact Below.refl _ _|refine zc ?_ _|refine zd ?_|refine bset' ?_ (by omega) _|refine zb ?_ (by assumption))) y28,cellB_later' (w:=wy) (by(with_reducible repeat first|exact Below.refl _ _|refine zc ?_ _|refine zd ?_|refine bset' ?_ (by omega) _|refine zb ?_ (by assumption))) y1,cellB_later' (w:=wy) (by(with_reducible repeat first|exact Below.refl _ _|refine zc ?_ _|refine zd ?_|refine bset' ?_ (by omega) _|refine zb ?_ (by assumption))) y2⟩) (first|(go_at_call 80;refine(zcN s { p with uses:=p.uses+1 } A _ (HSy.out.at'.later (by(with_reducible repeat first|exact Below.refl _ _|refine zc ?_ _|refine zd ?_|refine bset' ?_ (by omega) _|refine zb ?_ (by assumption)))) (by show p.queue.length≤1000;omega)).mono ?_;rintro e w3 ⟨hb,rfl,hH,hb3⟩)|(go_at_call 161;refine(zjp hb (p.queue++p.dev.busy) p.hand A.ha A.hc ⟨pl,dt,true,p.uses+1⟩ _ (HSy.out.at'.mem.hand.later (by(with_reducible repeat first|exact Below.refl _ _|refine zc ?_ _|refine zd ?_|refine bset' ?_ (by omega) _|refine zb ?_ (by assumption)))) HSy.out.at'.mem.hnil h8 (zbz.later hH (by(with_reducible repeat first|exact Below.refl _ _|refine zc ?_ _|refine zd ?_|refine bset' ?_ (by omega) _|refine zb ?_ (by assumption)))) HP.out).mono ?_;rintro e w4 ⟨rfl,hb4⟩))
   all_goals
    have HS4:Hid (zp s p A { p with uses:=p.uses+1 } A w w4):=HSy.out.later (by(with_reducible repeat first|exact Below.refl _ _|refine zc ?_ _|refine zd ?_|refine bset' ?_ (by omega) _|refine zb ?_ (by assumption)));clear hb3 hb4 hH;go_wp2;refine bodyPost_ret (v:=.tuple #[]) (by simp[results,Tryz.results117,go_sem]) rfl ?_;exact⟨rfl,_,_,HS4.out,by rw[←HQ2.out];rfl⟩
  |some m =>
   have HP:=za hP;have HQ2:Hid (({ p.nf with uses:=p.uses+1,hand:=m }:Sk).answer i ByteArray.empty 0=q):=by have:=HQ.out;rw[hP] at this;exact this
   clear hP HQ
   go_region_held3 (fun w'=>w'.cell? ⟨s,20,none⟩=some (.slice A.ha p.hand.length A.hc)∧w'.cell? ⟨s,28,none⟩=some (.int .i64 (p.uses+1))∧w'.cell? ⟨s,2+i*6+1,none⟩=some (.int .i64 pl)∧w'.cell? ⟨s,2+i*6+2,none⟩=some (.string dt)) (exact⟨cellB_later' (w:=wy) (by(with_reducible repeat first|exact Below.refl _ _|refine zc ?_ _|refine zd ?_|refine bset' ?_ (by omega) _|refine zb ?_ (by assumption))) y20,cellB_later' (w:=wy) (by(with_reducible repeat first|exact Below.refl _ _|refine zc ?_ _|refine zd ?_|refine bset' ?_ (by omega) _|refine zb ?_ (by assumption))) y28,cellB_later' (w:=wy) (by(with_reducible repeat first|exact Below.refl _ _|refine zc ?_ _|refine zd ?_|refine bset' ?_ (by omega) _|refine zb ?_ (by assumption))) y1,cellB_later' (w:=wy) (by(with_reducible repeat first|exact Below.refl _ _|refine zc ?_ _|refine zd ?_|refine bset' ?_ (by omega) _|refine zb ?_ (by assumption))) y2⟩) (first|(go_at_call 80;refine(zcN s { p with uses:=p.uses+1 } A _ (HSy.out.at'.later (by(with_reducible repeat first|exact Below.refl _ _|refine zc ?_ _|refine zd ?_|refine bset' ?_ (by omega) _|refine zb ?_ (by assumption)))) (by show p.queue.length≤1000;omega)).mono ?_;rintro e w3 ⟨hb,rfl,hH,hb3⟩;have z3:wy.heap.size≤w3.heap.size:=(show Below wy.heap.size wy w3 by(with_reducible repeat first|exact Below.refl _ _|refine zc ?_ _|refine zd ?_|refine bset' ?_ (by omega) _|refine zb ?_ (by assumption))).size)|(go_at_call 161;refine(zjq hb (p.queue++p.dev.busy) p.hand A.ha A.hc ⟨pl,dt,true,p.uses+1⟩ _ (HSy.out.at'.mem.hand.later (by(with_reducible repeat first|exact Below.refl _ _|refine zc ?_ _|refine zd ?_|refine bset' ?_ (by omega) _|refine zb ?_ (by assumption)))) HSy.out.at'.mem.hnil h8 (zbz.later hH (by(with_reducible repeat first|exact Below.refl _ _|refine zc ?_ _|refine zd ?_|refine bset' ?_ (by omega) _|refine zb ?_ (by assumption)))) m HP.out).mono ?_;rintro e w4 ⟨a',c',rfl,hput,hb4⟩;have HPU:=za hput;clear hput))
   all_goals
    have HS4:Hid (zp s p A { p with uses:=p.uses+1 } A w w4):=HSy.out.later (by(with_reducible repeat first|exact Below.refl _ _|refine zc ?_ _|refine zd ?_|refine bset' ?_ (by omega) _|refine zb ?_ (by assumption)));have HS5:=za (HS4.out.trans (HS4.out.at'.setHand m a' c' HPU.out.1 HPU.out.2.1 HPU.out.2.2.2 (fun _ q' hq' e=>by have:=HPU.out.2.2.1 q' hq';have:=HSy.out.at'.offLt _ e;omega)));have v20:=HS4.out.at'.cell 20 _ rfl;have x20:=HS4.out.at'.fz 20;have l4:=HS4.out.at'.lt;clear hb3 hb4 hH y20 y28 y1 y2;go_wp2_with fail;have hans:=zcv s _ _ _ HS5.out.at' hl3 i hi ByteArray.empty 0;rw[show zI 0=.nilIface from rfl] at hans;refine hans.mono ?_;clear hans;rintro e w7 ⟨rfl,hs7⟩;have HS7:=za (HS5.out.trans hs7);clear hs7;go_wp2;go_end0;exact⟨rfl,_,_,HS7.out,by rw[←HQ2.out];rfl⟩
end Go.Proofs.YtlhgjplipgandaaGreatDoor
namespace Go.Proofs.YtlhgjplipgandaaGreatDoor
open Go.RowKit Go.BigFrame Go.Maps
theorem ziA(s:Nat)(p:Sk)(A:Sa)(w:World)(h:zj s p A w)(hI:Inv p)(hT:p.tags≤4000000000000000000)(hU:p.uses≤4000000000000000000)(i:Nat)(hi:i<3)(hk:¬(p.client i).kind=0)(q:Sk)(hq:p.nf.serveRead i=q) :
 Calls Tryz.prog 116 #[.pointer (some ⟨s,0,none⟩),.pointer (some ⟨s,2+i*6,none⟩)] w fun e w'=>e=.returned (.tuple #[])∧SOk s p A w w' q:=by
 rcases zaV p.hand (p.client i).pl with⟨hg,_⟩|⟨k,hk',hg,hix,_⟩
 ·exact zjx s p A w h hI hT i hi hk hg q hq
 ·exact ziB s p A w h hI hU i hi k hk' hg hix hI.hand.once q hq
theorem zhK(s:Nat)(p:Sk)(A:Sa)(w:World)(h:zj s p A w)(hI:Inv p)(hU:p.uses≤4000000000000000000)(i:Nat)(hi:i<3)(q:Sk)(hq:p.nf.serveWrite i=q) :
 Calls Tryz.prog 117 #[.pointer (some ⟨s,0,none⟩),.pointer (some ⟨s,2+i*6,none⟩)] w fun e w'=>e=.returned (.tuple #[])∧SOk s p A w w' q:=by
 cases hd:p.dead
 ·by_cases hc:6≤zE p.hand∧zS p.hand (p.client i).pl=false
  ·exact zhe s p A w h i hi hd hc.1 hI.hand.len hc.2 q hq
  ·exact zhL s p A w h hI.cl3 i hi hd hI.hand.len hI.q6 ⟨hI.us,hU⟩ hc q hq
 ·exact zhd s p A w h hI.cl3 i hi hd q hq
end Go.Proofs.YtlhgjplipgandaaGreatDoor
namespace Go.Proofs.YtlhgjplipgandaaGreatDoor
open Go.RowKit Go.BigFrame Go.Maps
attribute [local go_sem] ze.cell ze.frozen
theorem znh(s:Nat)(l:List Bf)(a:Option Addr)(c:Nat)(n:Int)(w:World)(c20:w.cell? ⟨s,20,none⟩=some (.slice a l.length c))(hB:zB w a l)(t:Bool)(ht:zS l n=t) :
 Calls Tryz.prog 160 #[.pointer (some ⟨s,0,none⟩),.int .i64 n] w fun e w'=>e=.returned (.bool t)∧Below w.heap.size w w':=by
 have HM:=za hB;clear hB;subst ht;unfold zS
 rcases zaV l n with⟨e,hi⟩|⟨k,hk,e,hi,-⟩
 ·rw[e];have HI:=za hi;clear hi e;go_enter Tryz.func160,Tryz.ntmps160;go_wp2_with fail;refine(zgO l a c n _ (HM.out.later (by(with_reducible repeat first|exact Below.refl _ _|refine zc ?_ _|refine zd ?_|refine bset' ?_ (by omega) _|refine zb ?_ (by assumption)))) HI.out).mono ?_;rintro e w1 ⟨rfl,hb1⟩;go_wp2;go_ret;exact⟨rfl,by(with_reducible repeat first|exact Below.refl _ _|refine zc ?_ _|refine zd ?_|refine bset' ?_ (by omega) _|refine zb ?_ (by assumption))⟩
 ·rw[e];have HI:=za hi;clear hi e;go_enter Tryz.func160,Tryz.ntmps160;go_wp2_with fail;refine(zex l a c n _ (HM.out.later (by(with_reducible repeat first|exact Below.refl _ _|refine zc ?_ _|refine zd ?_|refine bset' ?_ (by omega) _|refine zb ?_ (by assumption)))) k hk HI.out).mono ?_;rintro e w1 ⟨rfl,hb1⟩;go_wp2;go_ret;exact⟨rfl,by(with_reducible repeat first|exact Below.refl _ _|refine zc ?_ _|refine zd ?_|refine bset' ?_ (by omega) _|refine zb ?_ (by assumption))⟩
theorem zns(sb s:Nat)(l:List Bf)(a:Option Addr)(c:Nat)(n:Int)(w:World)(h0:w.cell? ⟨sb,0,none⟩=some (.pointer (some ⟨s,0,none⟩)))(c20:w.cell? ⟨s,20,none⟩=some (.slice a l.length c))(hB:zB w a l)(t:Bool)(ht:(!zS l n)=t) :
 Calls Tryz.prog 163 #[.int .i64 n,.pointer (some ⟨sb,0,none⟩)] w fun e w'=>e=.returned (.bool t)∧Below w.heap.size w w':=by
 subst ht;have HB:=za hB;clear hB;obtain⟨d,hd⟩:∃d,zS l n=d:=⟨_,rfl⟩
 rw[hd];have HD:=za hd;clear hd;go_enter Tryz.func163,Tryz.ntmps163;go_wp2_with fail;refine(znh s l a c n w c20 HB.out d HD.out).mono ?_;rintro e w1 ⟨rfl,hb1⟩;go_wp2;go_ret;exact⟨rfl,hb1⟩
end Go.Proofs.YtlhgjplipgandaaGreatDoor
namespace Go.Proofs.YtlhgjplipgandaaGreatDoor
open Go.RowKit Go.BigFrame
attribute [local go_sem] ze.cell ze.frozen
def zej(p:Int→Bool)(l:List Int):Int:=match l.findIdx? p with|some k=>(k:Int)|none=>-1
theorem zgU{p:Int→Bool}{l:List Int}{k:Nat}(h:k<l.length)(hp:p l[k]=true)(hb:∀j (hj:j<k),p (l[j]'(by omega))=false):zej p l=k:=by
 have:l.findIdx? p=some k:=by
  rw[List.findIdx?_eq_some_iff_getElem];exact⟨h,hp,fun j hj=>by rw[hb j hj];exact Bool.false_ne_true⟩
 rw[zej,this]
theorem zmN{p:Int→Bool}{l:List Int}(h:∀j (hj:j<l.length),p l[j]=false):zej p l=-1:=by
 have:l.findIdx? p=none:=by
  rw[List.findIdx?_eq_none_iff];intro x hx;obtain⟨j,hj,rfl⟩:=List.getElem_of_mem hx;exact h j hj
 rw[zej,this]
theorem zgX(g:Nat)(eg:∀args w,(callFunc g args).run Tryz.prog w=.ok (.enter g args) w)(cp:Value)(p:Int→Bool)(l:List Int)(b c:Nat)(w:World)(hl:∀i (h:i<l.length),w.cell? ⟨b,i,none⟩=some (.int .i64 l[i]))(hb3:l.length≤9223372036854775807)
 (hp:∀(x:Int) w',Below w.heap.size w w'→Calls Tryz.prog g #[.int .i64 x,cp] w' fun e w''=>e=.returned (.bool (p x))∧Below w'.heap.size w' w'') :
 Calls Tryz.prog 154 #[.slice (some ⟨b,0,none⟩) l.length c,.func (.func g) #[] #[cp]] w fun e w'=>e=.returned (.int .i64 (zej p l))∧Below w.heap.size w w':=by
 have HP:=zdT hp;have HL:=zdT hl;clear hp hl;go_enter Tryz.func154,Tryz.ntmps154;go_wp2
 go_loopw[8] (fun i wr=>∃k:Nat,k≤l.length∧i=.int .i64 k∧(∀j (hj:j<l.length),j<k→p l[j]=false)∧Below w.heap.size w wr) (fun i _=>l.length-(intOf i).toNat)
 case atStart=>exact⟨0,by omega,rfl,fun j hj h=>absurd h (Nat.not_lt_zero _),Below.refl _ _⟩
 case round =>
  obtain⟨k,hk,rfl,hno,HB⟩:=hrel;have HN:=zdT hno;clear hno
  by_cases hlt:k<l.length
  ·have c0:=cellB_later' HB (HL.out k hlt);have hq:=HP.out l[k] wr HB
   cases hpk:p l[k]
   ·rw[hpk] at hq;have HQ:=zdT hq;clear hq;go_wp2_with fail;refine Calls.mono HQ.out ?_;rintro e w1 ⟨rfl,hb⟩;go_wp2;go_roundw
    case rel=>exact⟨k+1,by omega,by go_num,fun j hj h=>by by_cases e:j=k;(subst e;exact hpk);exact HN.out j hj (by omega),zb HB hb⟩
    case measure=>simp[intOf];omega
   ·rw[hpk] at hq;have HQ:=zdT hq;clear hq;go_wp2_with fail;refine Calls.mono HQ.out ?_;rintro e w1 ⟨rfl,hb⟩;go_wp2;go_ret;exact⟨zbT (zgU hlt hpk (fun j hj=>HN.out j (by omega) hj)).symm,zb HB hb⟩
  ·go_wp2;go_ret;exact⟨zbT (zmN (fun j hj=>HN.out j hj (by omega))).symm,HB⟩
def zbk(P:Int→Bool)(l:List Int):List Int:=l.filter fun x=>!P x
theorem ze2{P:Int→Bool}{l:List Int}{j:Nat}(h:j<l.length):zbk P (l.take (j+1))=zbk P (l.take j)++(if P l[j]=true then [] else [l[j]]):=by
 unfold zbk;rw[List.take_succ_eq_append_getElem h,List.filter_append]
 cases hp:P l[j]
 ·rw[List.filter_cons_of_pos (by rw[hp];rfl)];rfl
 ·rw[List.filter_cons_of_neg (by rw[hp];exact Bool.false_ne_true)];rfl
theorem zg0{P:Int→Bool}{l:List Int}(h:∀j (hj:j<l.length),P l[j]=false):zbk P l=l:=by
 unfold zbk;rw[List.filter_eq_self];intro x hx;obtain⟨j,hj,rfl⟩:=List.getElem_of_mem hx;rw[h j hj];rfl
structure zcA(P:Int→Bool)(l cs:List Int)(i j:Nat):Prop where
 len:cs.length=l.length
 lt:i<j
 le:j≤l.length
 kept:cs.take i=zbk P (l.take j)
 rest:cs.drop j=l.drop j
theorem zcA.ilen{P:Int→Bool}{l cs:List Int}{i j:Nat}(h:zcA P l cs i j):(zbk P (l.take j)).length=i:=by
 rw[←h.kept,List.length_take,h.len];have:=h.lt;have:=h.le;omega
theorem zcA.first{P:Int→Bool}{l:List Int}{k:Nat}(hk:k<l.length)(h1:P l[k]=true)(h2:∀j (hj:j<k),P (l[j]'(by omega))=false):zcA P l l k (k+1):=by
 refine⟨rfl,by omega,by omega,?_,rfl⟩;rw[ze2 hk,if_pos h1,List.append_nil,zg0];intro j hj;rw[List.length_take] at hj;rw[List.getElem_take];exact h2 j (by omega)
theorem zcA.at{P:Int→Bool}{l cs:List Int}{i j:Nat}(h:zcA P l cs i j)(hj:j<l.length):cs[j]'(by rw[h.len];exact hj)=l[j]:=by
 have e1:=List.getElem?_drop (xs:=cs) (i:=j) (j:=0);have e2:=List.getElem?_drop (xs:=l) (i:=j) (j:=0);rw[h.rest] at e1;rw[e1,Nat.add_zero,List.getElem?_eq_getElem hj,List.getElem?_eq_getElem (by rw[h.len];exact hj)] at e2;exact Option.some.inj e2
theorem zcA.out{P:Int→Bool}{l cs:List Int}{i j:Nat}(h:zcA P l cs i j)(hj:j<l.length)(hp:P l[j]=true):zcA P l cs i (j+1):=by
 refine⟨h.len,by have:=h.lt;omega,hj,?_,?_⟩
 ·rw[ze2 hj,if_pos hp,List.append_nil];exact h.kept
 ·rw[←List.drop_drop,←List.drop_drop,h.rest]
theorem zcA.put{P:Int→Bool}{l cs:List Int}{i j:Nat}(h:zcA P l cs i j)(hj:j<l.length)(hp:P l[j]=false):zcA P l (cs.set i l[j]) (i+1) (j+1):=by
 have hi:i<cs.length:=by rw[h.len];have:=h.lt;omega
 refine⟨by rw[List.length_set];exact h.len,by have:=h.lt;omega,hj,?_,?_⟩
 ·rw[ze2 hj,if_neg (by rw[hp];exact Bool.false_ne_true),←h.kept,List.take_succ_eq_append_getElem (by rw[List.length_set];exact hi),List.getElem_set_self,List.take_set_of_le (Nat.le_refl _)]
 ·rw[List.drop_set_of_lt (by have:=h.lt;omega),←List.drop_drop,←List.drop_drop,h.rest]
theorem zcA.last{P:Int→Bool}{l cs:List Int}{i:Nat}(h:zcA P l cs i l.length):cs.take i=zbk P l∧(zbk P l).length=i:=by
 have h1:=h.kept;have h2:=h.ilen;rw[List.take_length] at h1 h2;exact⟨h1,h2⟩
theorem zeroII(w:World):(zeroValue 3).run Tryz.prog w=.ok (.int .i64 0) w:=Tryz.zeroValue3 w
theorem zkk(g n c m:Nat)(w:World)(h1:m<n)(h2:n≤c):(Instr.slice 122 (.slice (some ⟨g,0,none⟩) n c) (some (.int .i64 (m:Int))) none none).run Tryz.prog w=.ok (.slice (some ⟨g,m,none⟩) (n-m) (c-m)) w:=by
 have k1:(m:Int)≤(n:Int):=by omega
 have k2:¬c=m:=by omega
 have k3:m≤n:=by omega
 simp[go_sem,k2,k3]
theorem zno(g n c m:Nat)(w:World)(h1:m<n)(h2:n≤c):(Instr.slice 122 (.slice (some ⟨g,0,none⟩) n c) none (some (.int .i64 (m:Int))) none).run Tryz.prog w=.ok (.slice (some ⟨g,0,none⟩) m c) w:=by
 have k2:m≤c:=by omega
 simp[go_sem,k2]
theorem zeA{cs:List Int}{tl:List Value}{j:Nat}(hj:j<cs.length):(zaP cs++tl)[j]?=some (.int .i64 cs[j]):=by
 unfold zaP;rw[List.getElem?_append_left (by rw[List.length_map];exact hj),List.getElem?_map,List.getElem?_eq_getElem hj];rfl
theorem zod{cs:List Int}{tl:List Value}{i:Nat}(x:Int)(hi:i<cs.length):(zaP cs++tl).set i (.int .i64 x)=zaP (cs.set i x)++tl:=by
 unfold zaP;rw[List.set_append_left _ _ (by rw[List.length_map];exact hi),List.map_set]
theorem znX(f:Nat)(eg:∀args w,(callFunc f args).run Tryz.prog w=.ok (.enter f args) w)(cp:Value)(P:Int→Bool)(l:List Int)(g c k:Nat)(tl:List Value)(w:World)(hg:w.heap[g]?=some (.cells (zaP l++tl).toArray 3 (0,0)))(htl:tl.length=c-l.length)(hnc:l.length≤c)(hlen:l.length≤9223372036854775807)
 (hp:∀(x:Int) w',zh (fun i=>i=g) w w'→Calls Tryz.prog f #[.int .i64 x,cp] w' fun e w''=>e=.returned (.bool (P x))∧Below w'.heap.size w' w'')
 (hk:k<l.length) (hk1:P l[k]=true) (hk2:∀j (hj:j<k),P (l[j]'(by omega))=false) :
 Calls Tryz.prog 162 #[.slice (some ⟨g,0,none⟩) l.length c,.func (.func f) #[] #[cp]] w fun e w' =>
  e=.returned (.slice (some ⟨g,0,none⟩) (zbk P l).length c)∧(∃cur:List Value,w'.heap[g]?=some (.cells cur.toArray 3 (0,0))∧cur.length=c∧cur.take (zbk P l).length=zaP (zbk P l))∧zh (fun i=>i=g) w w':=by
 have HG:=za hg;have HT:=za htl;have HP:=za hp;have HM0:=za (zcA.first hk hk1 hk2);have HI:=za (zgU hk hk1 hk2);clear hg hp htl hk1 hk2;go_enter Tryz.func162,Tryz.ntmps162;go_wp2_with fail;refine(zgX f eg cp P l g c _ (fun i hi=>(zk HG.out i).trans (zeA hi)) (by omega) (fun x w' hb=>HP.out x w' (zh.of_below hb))).mono ?_;rw[HI.out];rintro e w1 ⟨rfl,hb1⟩;have hne:((k:Int) == -1)=false:=by rw[beq_eq_false_iff_ne];omega
 go_wp2_with fail;have HO1:Hid (zh (fun i=>i=g) w w1):=zh.of_below hb1;have HG1:Hid (w1.heap[g]?=some (.cells (zaP l++tl).toArray 3 (0,0))):=by show _=_;rw[hb1.block g (zi HG.out)];exact HG.out
 clear hb1
 go_loopw[5,6] (fun iv jv wr=>∃(i j:Nat) (cs:List Int),zcA P l cs i j∧jv=.int .i64 (j:Int)∧iv=.int .i64 i∧wr.heap[g]?=some (.cells (zaP cs++tl).toArray 3 (0,0))∧zh (fun i=>i=g) w wr) (fun _ jv _=>l.length-(intOf jv).toNat)
 case atStart=>exact⟨k,k+1,l,HM0.out,by go_num,rfl,HG1.out,HO1.out⟩
 case round =>
  clear HG1 HO1 HM0;obtain⟨i,j,cs,hm,rfl,rfl,hgr,HO⟩:=hrel;have HGR:=za hgr;have HOR:=za HO;have HM:=za hm;have lg:=zi hgr;have hij:=hm.lt;have hjl:=hm.le;have HLE:=za hm.len;clear hgr HO hm
  by_cases hlt:j<l.length
  ·have hjc:j<cs.length:=by rw[HLE.out];exact hlt
   have hic:i<cs.length:=by omega
   have hx:=HM.out.at hlt;have c0:=(zk HGR.out j).trans (zeA hjc);have e0:=(zk HGR.out i).trans (zeA hic);rw[hx] at c0;have hq:=HP.out l[j] wr HOR.out;have HIC:=za hic;clear hx hjc
   cases hpk:P l[j]
   ·have HN:=za (HM.out.put hlt hpk);rw[hpk] at hq;have HQ:=za hq;clear hq;generalize l[j]=x at *;go_wp2_with fail;refine HQ.out.mono ?_;rintro e w2 ⟨rfl,hb2⟩;have hg2:w2.heap[g]?=some (.cells (zaP cs++tl).toArray 3 (0,0)):=by rw[hb2.block g lg];exact HGR.out
    have e2:=(zk hg2 i).trans (zeA hic);have f2:=zK hg2 i;have HG2:=za hg2;have HB2:=za hb2;have l2:=zi hg2;clear hg2 hb2 c0 e0;go_wp2;go_roundw
    case rel =>
     refine⟨i+1,j+1,_,HN.out,by go_num,by go_num,?_,(HOR.out.later HB2.out).setCell _ (Or.inl rfl) _⟩;rw[zx HG2.out,zod _ HIC.out]
    case measure=>simp[intOf];omega
   ·have HN:=za (HM.out.out hlt hpk);rw[hpk] at hq;have HQ:=za hq;clear hq;generalize l[j]=x at *;go_wp2_with fail;refine HQ.out.mono ?_;rintro e w2 ⟨rfl,hb2⟩;have hg2:w2.heap[g]?=some (.cells (zaP cs++tl).toArray 3 (0,0)):=by rw[hb2.block g lg];exact HGR.out
    have HG2:=za hg2;have HB2:=za hb2;clear hg2 hb2 c0 e0;go_wp2;go_roundw
    case rel=>exact⟨i,j+1,cs,HN.out,by go_num,rfl,HG2.out,HOR.out.later HB2.out⟩
    case measure=>simp[intOf];omega
  ·obtain rfl:j=l.length:=by omega
   have t1:¬(l.length:Int)<(l.length:Int):=by omega
   have hcl:(zaP cs++tl).length=c:=by rw[List.length_append,zaP,List.length_map,HLE.out,HT.out];omega
   obtain⟨w2,hcr,G2,hb2⟩:=zc5 (P:=Tryz.prog) wr 122 3 0 _ 1 Tryz.underlying122 zeroII rfl (by decide) g i (l.length-i) (c-i) _ 3 HGR.out (by omega) (by rw[hcl];omega) (by omega);have hsl1:=fun w=>zkk g l.length c i w hij hnc
   have hsl2:=fun w=>zno g l.length c i w hij hnc
   have HG2:=za (⟨G2,hb2,hcl⟩:_∧_∧_);clear G2 hb2 hcl;obtain⟨hl1,hl2⟩:=HM.out.last;have HL1:=za hl1;have HL2:=za hl2;clear hl1 hl2;go_wp2;go_ret;obtain⟨G2,hb2,hcl⟩:=HG2.out;refine⟨by rw[HL2.out];rfl,⟨_,G2,?_,?_⟩,HOR.out.grown hb2 (fun i e=>Or.inl (by simpa using e.symm))⟩
   ·rw[length_splice _ _ _ (by rw[hcl];simp[Builtin.zeroCells,Value.cells];omega),hcl]
   ·rw[HL2.out,zc9 _ _ _ _ (by rw[hcl];omega) (Nat.le_refl _),List.take_append_of_le_length (by rw[zaP,List.length_map,HLE.out];omega),zaP,←List.map_take,HL1.out]
    rfl
theorem zmO(p:Int→Bool)(l:List Int):(zej p l=-1∧∀j (hj:j<l.length),p l[j]=false)∨∃(k:Nat) (h:k<l.length),zej p l=k∧p l[k]=true∧∀j (hj:j<k),p (l[j]'(by omega))=false:=by
 cases e:l.findIdx? p with
 |none =>
  left
  refine⟨by rw[zej,e],fun j hj=>?_⟩;rw[List.findIdx?_eq_none_iff] at e;exact e _ (List.getElem_mem hj)
 |some k =>
  right
  have h:=e;rw[List.findIdx?_eq_some_iff_getElem] at h;obtain⟨h1,h2,h3⟩:=h;exact⟨k,h1,by rw[zej,e],h2,fun j hj=>by have:=h3 j hj;simpa using this⟩
theorem zpd(f:Nat)(eg:∀args w,(callFunc f args).run Tryz.prog w=.ok (.enter f args) w)(cp:Value)(P:Int→Bool)(l:List Int)(g c:Nat)(w:World)(hl:∀i (h:i<l.length),w.cell? ⟨g,i,none⟩=some (.int .i64 l[i]))(hlen:l.length≤9223372036854775807)
 (hp:∀(x:Int) w',Below w.heap.size w w'→Calls Tryz.prog f #[.int .i64 x,cp] w' fun e w''=>e=.returned (.bool (P x))∧Below w'.heap.size w' w'') (hi:zej P l=-1) :
 Calls Tryz.prog 162 #[.slice (some ⟨g,0,none⟩) l.length c,.func (.func f) #[] #[cp]] w fun e w'=>e=.returned (.slice (some ⟨g,0,none⟩) l.length c)∧Below w.heap.size w w':=by
 have HI:=za hi;have HL:=za hl;have HP:=za hp;clear hi hl hp;go_enter Tryz.func162,Tryz.ntmps162;go_wp2_with fail;refine(zgX f eg cp P l g c _ HL.out (by omega) HP.out).mono ?_;rw[HI.out];rintro e w1 ⟨rfl,hb1⟩;go_wp2;go_ret;exact⟨rfl,hb1⟩
theorem zlj(fv:Value)(a:Option Addr)(c:Nat)(w:World) :
 Calls Tryz.prog 154 #[.slice a 0 c,fv] w fun e w'=>e=.returned (.int .i64 (-1))∧Below w.heap.size w w':=by
 go_enter Tryz.func154,Tryz.ntmps154;go_wp2;go_loop [8] (fun i=>i=.int .i64 0) (fun _=>0);(case atStart=>rfl);(case round=>subst hrel;go_wp2;go_ret;exact⟨rfl,by(with_reducible repeat first|exact Below.refl _ _|refine zc ?_ _|refine zd ?_|refine bset' ?_ (by omega) _|refine zb ?_ (by assumption))⟩)
theorem znW(fv:Value)(a:Option Addr)(c:Nat)(w:World) :
 Calls Tryz.prog 162 #[.slice a 0 c,fv] w fun e w'=>e=.returned (.slice a 0 c)∧Below w.heap.size w w':=by
 go_enter Tryz.func162,Tryz.ntmps162;go_wp2_with fail;refine(zlj fv a c _).mono ?_;rintro e w1 ⟨rfl,hb1⟩;go_wp2;go_ret;exact⟨rfl,hb1⟩
theorem zoc(l:List Int):(zaP l).length=l.length:=by rw[zaP,List.length_map]
theorem delI(f:Nat)(eg:∀args w,(callFunc f args).run Tryz.prog w=.ok (.enter f args) w)(cp:Value)(P:Int→Bool)(l:List Int)(a:Option Addr)(c:Nat)(w:World)(h:w.ownsRow 0 3 1 (.slice a l.length c) l.length (zaP l))(hlen:l.length≤9223372036854775807)
 (hp:∀(x:Int) w',zh (zav a) w w'→Calls Tryz.prog f #[.int .i64 x,cp] w' fun e w''=>e=.returned (.bool (P x))∧Below w'.heap.size w' w'') :
 Calls Tryz.prog 162 #[.slice a l.length c,.func (.func f) #[] #[cp]] w fun e w'=>e=.returned (.slice a (zbk P l).length c)∧w'.ownsRow 0 3 1 (.slice a (zbk P l).length c) (zbk P l).length (zaP (zbk P l))∧zh (zav a) w w':=by
 cases l with
 |nil =>
  refine(znW _ a c w).mono ?_;rintro e w' ⟨rfl,hb⟩;exact⟨rfl,zad h (fun g hg=>hb.block g (h.lt g hg).2),zh.of_below hb⟩
 |cons y l0 =>
  generalize hl:y::l0=l at *;have h0:0<l.length:=by rw[←hl];simp
  clear hl
  rcases h.2 with⟨_,h0'⟩|⟨g,cap,cur,hv,hg,hh',hnc,hcm,hcs,ht⟩
  ·omega
  ·simp only[Value.slice.injEq,true_and] at hv;obtain⟨rfl,rfl⟩:=hv;have hcl:cur.toList.length=c:=by rw[Array.length_toList];simpa using hcs
   have ht':cur.toList.take l.length=zaP l:=by simpa using ht
   have ecur:cur.toList=zaP l++cur.toList.drop l.length:=by rw[←ht',List.take_append_drop]
   have hg':w.heap[g]?=some (.cells (zaP l++cur.toList.drop l.length).toArray 3 (0,0)):=by rw[←ecur,Array.toArray_toList];exact hh'
   have hrow:∀i,i=g→zav (some ⟨g,0,none⟩) i:=fun i e=>⟨_,rfl,e⟩
   rcases zmO P l with⟨hi,hno⟩|⟨k,hk,hi,hk1,hk2⟩
   ·rw[zg0 hno];refine(zpd f eg cp P l g c w (fun i hi=>(zk hg' i).trans (zeA hi)) hlen (fun x w' hb=>hp x w' (zh.of_below hb)) hi).mono ?_;rintro e w' ⟨rfl,hb⟩;exact⟨rfl,zad h (fun g hg=>hb.block g (h.lt g hg).2),zh.of_below hb⟩
   ·refine(znX f eg cp P l g c k (cur.toList.drop l.length) w hg' (by rw[List.length_drop,hcl]) hnc hlen (fun x w' ho=>hp x w' (ho.mono hrow)) hk hk1 hk2).mono ?_;rintro e w' ⟨rfl,⟨cur',g',l',t'⟩,ho⟩;have hkl:(zbk P l).length≤l.length:=List.length_filter_le _ _;refine⟨rfl,⟨by rw[zoc];omega,Or.inr ⟨g,c,cur'.toArray,rfl,Nat.zero_le _,g',by omega,hcm,by simpa using l',by simpa using t'⟩⟩,ho.mono hrow⟩
end Go.Proofs.YtlhgjplipgandaaGreatDoor
namespace Go.Proofs.YtlhgjplipgandaaGreatDoor
open Go.RowKit Go.BigFrame Go.Maps
attribute [local go_sem] ze.cell ze.frozen
theorem zjV(h:List Bf)(l:List Int):zbk (fun x=>!zS h x) l=l.filter (zS h):=by
 unfold zbk
 congr 1
 funext x
 simp
def Sk.setLeft(p:Sk)(i:Nat)(L:List Int):Sk:={ p with cl:=p.cl.set i { p.client i with left:=L } }
section
variable{s:Nat}{p:Sk}{A:Sa}{w w':World}
theorem zbB{i:Nat}(hi:i<3){k:Nat}(h:zav (A.la i) k):A.foot s k:=by
 obtain⟨q,hq,e⟩:=h;exact Or.inr (Or.inr ⟨i,hi,q,hq,e⟩)
theorem zH.setLeft(h:zH s p A w)(hl:p.cl.length=3){i:Nat}(hi:i<3)(L:List Int)(hO:zh (zav (A.la i)) w w')(hR:w'.ownsRow 0 3 1 (.slice (A.la i) L.length (A.lc i)) L.length (zaP L)):zH s (p.setLeft i L) A w' where
 drv:=h.drv.frame hO (fun k e ⟨q,hq,ek⟩=>(h.vl i hi q hq).2.2 (ek▸e)) (fun⟨q,hq,ek⟩=>(h.vl i hi q hq).2.1 ek.symm) (fun r hr=>by
  have:=h.roff r (List.mem_append_right _ hr);exact⟨fun he ad ha e=>this.1 he ad ha (zbB hi e),fun he ad ha e=>this.2 he ad ha (zbB hi e)⟩)
 map:=h.map
 im:=h.im
 nb:=h.nb
 hand:=zb1 h.hand hO (fun hne q hq e=>h.hoff hne q hq (zbB hi e))
 hnil:=h.hnil
 hcap:=h.hcap
 queue:=zbI h.queue hO (fun hne q hq e=>h.qoff hne q hq (zbB hi e)) (fun r hr=>by
  have:=h.roff r (List.mem_append_left _ hr);exact⟨fun he ad ha e=>this.1 he ad ha (zbB hi e),fun he ad ha e=>this.2 he ad ha (zbB hi e)⟩)
 qnil:=h.qnil
 qcap:=h.qcap
 left:=fun j hj=>by
  unfold Sk.setLeft;rw[zao hl hi]
  by_cases hji:j=i
  ·rw[if_pos hji,hji];exact hR
  ·rw[if_neg hji];refine zad (h.left j hj) fun g hg=>?_
   obtain⟨q,hq,rfl⟩:=zu.1 hg;exact hO.block _ (h.lrow hj hq) (fun⟨q',hq',e⟩=>h.ll j i hj hi hji q q' hq hq' e)
 sv:=h.sv
 vl:=h.vl
 ll:=h.ll
 hoffX:=h.hoffX
 qoffX:=h.qoffX
 roffX:=h.roffX
 xlt:=fun k e=>Nat.lt_of_lt_of_le (h.xlt k e) hO.size
theorem zj.setLeft(h:zj s p A w)(hl:p.cl.length=3){i:Nat}(hi:i<3)(L:List Int)(hO:zh (zav (A.la i)) w w')(hR:w'.ownsRow 0 3 1 (.slice (A.la i) L.length (A.lc i)) L.length (zaP L)):zp s p A (p.setLeft i L) A w (w'.setCell ⟨s,2+i*6+3,none⟩ (.slice (A.la i) L.length (A.lc i))):=by
 have hs:¬zav (A.la i) s:=fun⟨q,hq,e⟩=>(h.mem.vl i hi q hq).1 e.symm
 have hb:w'.heap[s]?=some (.cells (p.cells A).toArray 127 (0,0)):=by rw[hO.block s h.lt hs];exact h.blk
 have hst:=(h.mem.setLeft hl hi L hO hR).puts (A:=A) (p:=p) (w':=w'.setCell ⟨s,2+i*6+3,none⟩ (.slice (A.la i) L.length (A.lc i))) (zh.of_set _) (by
  rw[zx hb]
  congr 2
  match i,hi with
  |0,hi=>simp[Sk.cells,Sk.head,Sk.tail,zaA,Sk.setLeft,zao hl hi]
  |1,hi=>simp[Sk.cells,Sk.head,Sk.tail,zaA,Sk.setLeft,zao hl hi]
  |2,hi=>simp[Sk.cells,Sk.head,Sk.tail,zaA,Sk.setLeft,zao hl hi]) (fun _ hk=>hk) ⟨rfl,rfl,rfl,rfl⟩
 exact⟨hst.at',(hO.mono (fun k e=>zbB hi e)).trans hst.only (fun k hk=>Or.inl hk),fun k hk=>Or.inl hk,rfl,rfl,rfl,rfl⟩
end
theorem only_cell'{F:Nat→Prop}{w w':World}{g j:Nat}{v:Value}(h:zh F w w')(hn:¬F g)(hc:w.cell? ⟨g,j,none⟩=some v):w'.cell? ⟨g,j,none⟩=some v:=(h.cell (p:=⟨g,j,none⟩) (zg hc) hn).trans hc
theorem zhI(s:Nat)(p:Sk)(A:Sa)(w:World)(h:zj s p A w)(hl3:p.cl.length=3)(i:Nat)(hi:i<3)(hd:p.dead=true)(q:Sk)(hq:p.nf.serveSync i=q) :
 Calls Tryz.prog 118 #[.pointer (some ⟨s,0,none⟩),.pointer (some ⟨s,2+i*6,none⟩)] w fun e w'=>e=.returned (.tuple #[])∧SOk s p A w w' q:=by
 have e1:p.nf.serveSync i=p.nf.answer i ByteArray.empty 9:=by
  unfold Sk.serveSync;rw[if_pos (show p.nf.dead=true from hd)]
 rw[e1] at hq;have c29:=h.cell 29 _ rfl;rw[hd] at c29;have hl:=h.lt;have HST:=za h;have HQ:=za hq;clear h e1 hq;go_enter Tryz.func118,Tryz.ntmps118;go_wp2_with fail;refine(zcv s p A _ (HST.out.later (by(with_reducible repeat first|exact Below.refl _ _|refine zc ?_ _|refine zd ?_|refine bset' ?_ (by omega) _|refine zb ?_ (by assumption)))) hl3 i hi ByteArray.empty 9).mono ?_;rintro e w7 ⟨rfl,hs7⟩;have HS7:Hid (zp s p A (p.answer i ByteArray.empty 9) (A.drop i) w w7):=(zp.same' HST.out (by(with_reducible repeat first|exact Below.refl _ _|refine zc ?_ _|refine zd ?_|refine bset' ?_ (by omega) _|refine zb ?_ (by assumption)))).trans hs7;clear hs7;go_wp2;refine bodyPost_ret (v:=.tuple #[]) (by simp[results,Tryz.results118,go_sem]) rfl ?_;exact⟨rfl,_,_,HS7.out,by rw[←HQ.out];rfl⟩
theorem zhJ(s:Nat)(p:Sk)(A:Sa)(w:World)(h:zj s p A w)(hl3:p.cl.length=3)(i:Nat)(hi:i<3)(hd:p.dead=false)(q:Sk)(hq:p.nf.serveSync i=q) :
 Calls Tryz.prog 118 #[.pointer (some ⟨s,0,none⟩),.pointer (some ⟨s,2+i*6,none⟩)] w fun e w'=>e=.returned (.tuple #[])∧SOk s p A w w' q:=by
 have e1:p.nf.serveSync i=if(p.client i).left.filter (zS p.hand)=[] then({ p.nf with dev:=p.nf.dev.flush }:Sk).answer i ByteArray.empty 0 else { p.nf with cl:=p.cl.set i { p.client i with left:=(p.client i).left.filter (zS p.hand) } }:=by
  unfold Sk.serveSync;rw[if_neg (by rw[show p.nf.dead=false from hd];exact Bool.false_ne_true)]
  rfl
 rw[e1] at hq;have c29:=h.cell 29 _ rfl;rw[hd] at c29;have hl:=h.lt;obtain⟨-,-,-,d3,-⟩:=h.client i hi;obtain⟨L,hL⟩:∃L,(p.client i).left.filter (zS p.hand)=L:=⟨_,rfl⟩
 rw[hL] at hq;have HL:=za hL;have HST:=za h;have HQ:=za hq;have HLEN:Hid ((p.client i).left.length≤9223372036854775807):=by
  show(p.client i).left.length≤9223372036854775807
  rcases(h.mem.left i hi).2 with⟨_,h0⟩|⟨g,cap,cur,hv,_,_,hnc,hcm,_⟩
  ·omega
  ·unfold maxLen at hcm;omega
 clear h e1 hq hL;obtain⟨n,hn⟩:∃n,(p.client i).left.length=n:=⟨_,rfl⟩
 have HN:=za hn;rw[hn] at d3;clear hn;go_enter Tryz.func118,Tryz.ntmps118;go_wp2_with fail;have hw0:Below w.heap.size w (w.alloc (.cells #[.pointer (some ⟨s,0,none⟩)] 36)):=by(with_reducible repeat first|exact Below.refl _ _|refine zc ?_ _|refine zd ?_|refine bset' ?_ (by omega) _|refine zb ?_ (by assumption))
 have hbx:(w.alloc (.cells #[.pointer (some ⟨s,0,none⟩)] 36)).cell? ⟨w.heap.size,0,none⟩=some (.pointer (some ⟨s,0,none⟩)):=by simp
 generalize hW:w.alloc (.cells #[.pointer (some ⟨s,0,none⟩)] 36)=w0 at *;clear hW;have HS0:=za (zp.same' HST.out hw0);have HRO:Hid (¬zav (A.la i) w.heap.size):=fun⟨q',hq',e⟩=>by have:=HST.out.mem.lrow hi hq';omega
 have HRS:Hid (¬zav (A.la i) s):=fun⟨q',hq',e⟩=>(HST.out.mem.vl i hi q' hq').1 e.symm
 have hdel:=delI 163 (by intro args w;go_simp) (.pointer (some ⟨w.heap.size,0,none⟩)) (fun x=>!zS p.hand x) (p.client i).left (A.la i) (A.lc i) w0 (HS0.out.at'.mem.left i hi) HLEN.out (fun x w' hO=>zns w.heap.size s p.hand A.ha A.hc x w' (only_cell' hO HRO.out hbx) (only_cell' hO HRS.out (HS0.out.at'.cell 20 _ rfl)) (zb1 HS0.out.at'.mem.hand hO (fun hne q' hq' e=>HST.out.mem.hoff hne q' hq' (zbB hi e))) _ rfl);rw[zjV,HL.out,HN.out] at hdel;refine hdel.mono ?_;clear hdel;rintro e w1 ⟨rfl,hown,hO⟩;have HX:=za (HS0.out.trans (HS0.out.at'.setLeft hl3 hi L hO hown));have g3:=only_cell' hO HRS.out (by have:=(HS0.out.at'.client i hi).2.2.2.1;rw[HN.out] at this;exact this);have gf:w1.frozen? ⟨s,2+i*6+3,none⟩=false:=zK ((hO.block s HS0.out.at'.lt HRS.out).trans HS0.out.at'.blk) _;have gx:=only_cell' hO HRO.out hbx;have g0:=only_cell' hO HRS.out (HS0.out.at'.cell 0 _ rfl);have l1:=zg g3;have lx:=zg gx;have nsx:s ≠ w.heap.size:=by omega
 clear hown hO hw0 hbx HS0 c29 d3
 by_cases hLe:L=[]
 ·subst hLe;rw[if_pos rfl] at HQ;go_wp2_with fail;refine(zfq A.b p.dev A.an _ HX.out.at'.mem.drv.dev).mono ?_;rintro e w2 ⟨rfl,hs2⟩;have HX2:=za (HX.out.trans (zj.step p.ag HX.out.at'.mem.nb HX.out.at' (HX.out.at'.mem.drv.step hs2) HX.out.at'.mem.map HX.out.at'.mem.im (fun r hr=>Rq.Off.step (HX.out.at'.mem.drv.dev.reqs r hr).1 (HX.out.at'.mem.roffX r (List.mem_append_right _ hr)) (zeC (HX.out.at'.mem.drv.step hs2)))));clear hs2 g3 gf gx g0 l1 lx;go_wp2_with fail;have hans:=zcv s _ _ _ HX2.out.at' (show((p.setLeft i []).cl).length=3 by unfold Sk.setLeft;rw[List.length_set];exact hl3) i hi ByteArray.empty 0;rw[show zI 0=.nilIface from rfl] at hans;refine hans.mono ?_;clear hans;rintro e w7 ⟨rfl,hs7⟩;have HS7:=za (HX2.out.trans hs7);clear hs7;go_wp2;go_end0;refine⟨rfl,_,_,HS7.out,?_⟩;rw[←HQ.out];show({ p.nf with dev:=p.nf.dev.flush,cl:=((p.cl.set i { p.client i with left:=[] }).set i ⟨0,0,ByteArray.empty,[],ByteArray.empty,0⟩) }:Sk)={ p.nf with dev:=p.nf.dev.flush,cl:=(p.cl.set i ⟨0,0,ByteArray.empty,[],ByteArray.empty,0⟩) };rw[List.set_set]
 ·rw[if_neg hLe] at HQ;have h0:0<L.length:=List.length_pos_iff.2 hLe;have h0':(0:Int)<(L.length:Int):=by omega
  clear hLe;go_wp2;refine bodyPost_ret (v:=.tuple #[]) (by simp[results,Tryz.results118,go_sem]) rfl ?_;exact⟨rfl,_,_,HX.out,by rw[←HQ.out];rfl⟩
theorem ziC(s:Nat)(p:Sk)(A:Sa)(w:World)(h:zj s p A w)(hl3:p.cl.length=3)(i:Nat)(hi:i<3)(q:Sk)(hq:p.nf.serveSync i=q) :
 Calls Tryz.prog 118 #[.pointer (some ⟨s,0,none⟩),.pointer (some ⟨s,2+i*6,none⟩)] w fun e w'=>e=.returned (.tuple #[])∧SOk s p A w w' q:=by
 cases hd:p.dead
 ·exact zhJ s p A w h hl3 i hi hd q hq
 ·exact zhI s p A w h hl3 i hi hd q hq
def Sk.serveTo(p:Sk):Nat→Sk
 |0=>p
 |k+1=>(p.serveTo k).serve1 k
theorem zgj{p:Sk}(h:Inv p):∀k,Inv (p.serveTo k)
 |0=>h
 |k+1=>(zgj h k).serve1 k
theorem zfD(p:Sk):∀k,za0 k p (p.serveTo k)
 |0=>za0.refl 0 p
 |k+1=>(zfD p k).trans (zdd _ k)
def SRel(s:Nat)(p:Sk)(A:Sa)(w wr:World)(q:Sk):Prop:=∃p' A',zp s p A p' A' w wr∧p'.nf=q
theorem SOk.trans{s:Nat}{p p':Sk}{A A':Sa}{w w1 w2:World}{q:Sk}(h:zp s p A p' A' w w1)(k:SOk s p' A' w1 w2 q):SOk s p A w w2 q:=by
 obtain⟨p2,A2,h2,e⟩:=k;exact⟨p2,A2,h.trans h2,e⟩
theorem zlU(s:Nat)(p:Sk)(A:Sa)(w:World)(h:zj s p A w)(hI:Inv p)(hT:p.tags≤4000000000000000000)(hU:p.uses≤4000000000000000000)(i:Nat)(hi:i<3) :
 ((p.client i).kind=1→Calls Tryz.prog 116 #[.pointer (some ⟨s,0,none⟩),.pointer (some ⟨s,2+i*6,none⟩)] w fun e w'=>e=.returned (.tuple #[])∧SOk s p A w w' (p.nf.serve1 i)) ∧
 ((p.client i).kind=2→Calls Tryz.prog 117 #[.pointer (some ⟨s,0,none⟩),.pointer (some ⟨s,2+i*6,none⟩)] w fun e w'=>e=.returned (.tuple #[])∧SOk s p A w w' (p.nf.serve1 i)) ∧
 ((p.client i).kind=3→Calls Tryz.prog 118 #[.pointer (some ⟨s,0,none⟩),.pointer (some ⟨s,2+i*6,none⟩)] w fun e w'=>e=.returned (.tuple #[])∧SOk s p A w w' (p.nf.serve1 i)) ∧
 ((p.client i).kind=0→p.nf.serve1 i=p.nf):=by
 have ek:(p.nf.client i).kind=(p.client i).kind:=rfl;refine⟨fun hk=>?_,fun hk=>?_,fun hk=>?_,fun hk=>?_⟩
 ·refine ziA s p A w h hI hT hU i hi (by rw[hk];omega) _ ?_;unfold Sk.serve1;rw[ek,hk,if_pos rfl]
 ·refine zhK s p A w h hI hU i hi _ ?_;unfold Sk.serve1;rw[ek,hk,if_neg (by omega),if_pos rfl]
 ·refine ziC s p A w h hI.cl3 i hi _ ?_;unfold Sk.serve1;rw[ek,hk,if_neg (by omega),if_neg (by omega),if_pos rfl]
 ·unfold Sk.serve1;rw[ek,hk,if_neg (by omega),if_neg (by omega),if_neg (by omega)]
theorem zcq(s:Nat)(p:Sk)(A:Sa)(w:World)(h:zj s p A w)(hI:Inv p)(hT:p.tags≤3999999999999999990)(hU:p.uses≤3999999999999999990)(q:Sk)(hq:p.nf.serve=q) :
 Calls Tryz.prog 75 #[.pointer (some ⟨s,0,none⟩)] w fun e w'=>e=.returned (.tuple #[])∧SOk s p A w w' q:=by
 have HQ:=za hq;have HST:=za h;have HI:=za hI;have HT:=za (And.intro hT hU);clear h hI hT hU hq;go_enter Tryz.func75,Tryz.ntmps75;go_wp2
 go_loopw[4] (fun i wr=>∃k:Nat,k≤3∧i=.int .i64 k∧SRel s p A w wr (p.nf.serveTo k)) (fun i _=>3-(intOf i).toNat)
 case atStart=>exact⟨0,by omega,rfl,p,A,zp.same' HST.out (Below.refl _ _),rfl⟩
 case round =>
  obtain⟨k,hk,rfl,p',A',hs,hn⟩:=hrel;have HS:=za hs;have HN:=za hn
  by_cases hlt:k<3
  ·have hlt':(k:Int)<3:=by omega
   have HI':Hid (Inv p'):=by
    have:=zgj HI.out.nf k;rw[←hn] at this;exact this.of_nf
   have hM:=zfD p.nf k;rw[←hn] at hM;have HB:Hid (p'.tags≤4000000000000000000∧p'.uses≤4000000000000000000):=by
    have h1:p'.tags≤p.tags+k:=hM.tags;have h2:p'.uses≤p.uses+k:=hM.uses;have:=HT.out;exact⟨by omega,by omega⟩
   have HC:=za (zlU s p' A' wr hs.at' HI'.out HB.out.1 HB.out.2 k hlt);have hkd:=(HI'.out.client k).kind;have c0:=(hs.at'.client k hlt).1;have hl:=hs.at'.lt;clear hs hn hM HI' HB;obtain⟨kd,hkd'⟩:∃kd,(p'.client k).kind=kd:=⟨_,rfl⟩
   rw[hkd'] at hkd c0;have HK:=za hkd';clear hkd';have h4:kd=0∨kd=1∨kd=2∨kd=3:=by omega
   clear hkd
   rcases h4 with rfl|rfl|rfl|rfl
   ·go_wp2;go_roundw
    case rel=>exact⟨k+1,by omega,by go_num,p',A',HS.out,by rw[Sk.serveTo,←HN.out];exact(HC.out.2.2.2 HK.out).symm⟩
    case measure=>simp[intOf];omega
   ·go_wp2_with fail;refine(HC.out.1 HK.out).mono ?_;rintro e w1 ⟨rfl,hok⟩;have HO:=za (SOk.trans HS.out hok);clear hok;go_wp2;go_roundw
    case rel=>exact⟨k+1,by omega,by go_num,by rw[Sk.serveTo,←HN.out];exact HO.out⟩
    case measure=>simp[intOf];omega
   ·go_wp2_with fail;refine(HC.out.2.1 HK.out).mono ?_;rintro e w1 ⟨rfl,hok⟩;have HO:=za (SOk.trans HS.out hok);clear hok;go_wp2;go_roundw
    case rel=>exact⟨k+1,by omega,by go_num,by rw[Sk.serveTo,←HN.out];exact HO.out⟩
    case measure=>simp[intOf];omega
   ·go_wp2_with fail;refine(HC.out.2.2.1 HK.out).mono ?_;rintro e w1 ⟨rfl,hok⟩;have HO:=za (SOk.trans HS.out hok);clear hok;go_wp2;go_roundw
    case rel=>exact⟨k+1,by omega,by go_num,by rw[Sk.serveTo,←HN.out];exact HO.out⟩
    case measure=>simp[intOf];omega
  ·obtain rfl:k=3:=by omega
   clear hs hn;go_wp2;go_end0;exact⟨rfl,p',A',HS.out,HN.out.trans HQ.out⟩
theorem zpK{s:ByteArray}(l:List UInt8)(h:¬s=⟨l.toArray⟩):(s.toList==l)=false:=by
 rw[beq_eq_false_iff_ne];intro e;apply h;rw[ByteArray.toList_eq] at e
 cases s
 simp only at e;rw[←e]
theorem zio{s:ByteArray}(h:s.size=0):s=⟨#[]⟩:=by
 cases s with
 |mk a=>simp only[ByteArray.size] at h;congr 1;exact Array.eq_empty_of_size_eq_zero h
theorem zpH{s:ByteArray}(h:¬s.size=0):(s.toList==[])=false:=zpK [] (fun e=>h (by rw[e];rfl))
theorem zdF(c kind pl:Int)(data:ByteArray)(w:World)(t:Int)(ht:zY c kind pl data=t) :
 Calls Tryz.prog 73 #[.int .i64 c,.int .i64 kind,.int .i64 pl,.string data] w fun e w'=>e=.returned (zI t)∧w'=w:=by
 by_cases hc:0≤c∧c<3
 case neg =>
  obtain rfl:3=t:=by rw[←ht];unfold zY;rw[if_pos (Or.inl hc)]
  have HC:=za hc;clear hc ht;go_enter Tryz.func73,Tryz.ntmps73;go_wp2_with fail;refine(zV _ _ false (decide_eq_false HC.out)).mono ?_;rintro e w1 ⟨rfl,rfl⟩;go_wp2;go_ret;exact⟨rfl,rfl⟩
 have HC:=za hc
 by_cases hk:kind=1∨kind=2∨kind=3
 case neg =>
  obtain rfl:3=t:=by rw[←ht];unfold zY;rw[if_pos (Or.inr (by omega))]
  have k1:¬kind=1:=fun e=>hk (Or.inl e)
  have k2:¬kind=2:=fun e=>hk (Or.inr (Or.inl e))
  have k3:¬kind=3:=fun e=>hk (Or.inr (Or.inr e))
  have k4:(kind != 1)=true:=bne_iff_ne.2 k1;have k5:(kind != 2)=true:=bne_iff_ne.2 k2;have k6:(kind != 3)=true:=bne_iff_ne.2 k3;clear hc ht hk;go_enter Tryz.func73,Tryz.ntmps73;go_wp2_with fail;refine(zV _ _ true (decide_eq_true HC.out)).mono ?_;rintro e w1 ⟨rfl,rfl⟩;go_wp2;go_ret;exact⟨rfl,rfl⟩
 by_cases p0:pl<0
 case pos =>
  obtain rfl:1=t:=by rw[←ht];unfold zY;(repeat' split)<;>omega
  clear hc ht
  rcases hk with rfl|rfl|rfl
  all_goals
   go_enter Tryz.func73,Tryz.ntmps73;go_wp2_with fail;refine(zV _ _ true (decide_eq_true HC.out)).mono ?_;rintro e w1 ⟨rfl,rfl⟩;go_wp2;go_ret;exact⟨rfl,rfl⟩
 by_cases p1:32≤pl
 case pos =>
  obtain rfl:1=t:=by rw[←ht];unfold zY;(repeat' split)<;>omega
  clear hc ht
  rcases hk with rfl|rfl|rfl
  all_goals
   go_enter Tryz.func73,Tryz.ntmps73;go_wp2_with fail;refine(zV _ _ true (decide_eq_true HC.out)).mono ?_;rintro e w1 ⟨rfl,rfl⟩;go_wp2;go_ret;exact⟨rfl,rfl⟩
 by_cases p2:kind=3∧¬pl=0
 case pos =>
  obtain rfl:1=t:=by rw[←ht];unfold zY;(repeat' split)<;>omega
  obtain⟨rfl,p3⟩:=p2;have p4:(pl != 0)=true:=bne_iff_ne.2 p3;clear hc ht hk;go_enter Tryz.func73,Tryz.ntmps73;go_wp2_with fail;refine(zV _ _ true (decide_eq_true HC.out)).mono ?_;rintro e w1 ⟨rfl,rfl⟩;go_wp2;go_ret;exact⟨rfl,rfl⟩
 by_cases z4:4<data.size
 case pos =>
  obtain rfl:1=t:=by rw[←ht];unfold zY;(repeat' split)<;>omega
  have z4':(4:Int)<(data.size:Int):=by omega
  clear hc ht
  rcases hk with rfl|rfl|rfl
  ·go_enter Tryz.func73,Tryz.ntmps73;go_wp2_with fail;refine(zV _ _ true (decide_eq_true HC.out)).mono ?_;rintro e w1 ⟨rfl,rfl⟩;go_wp2;go_ret;exact⟨rfl,rfl⟩
  ·go_enter Tryz.func73,Tryz.ntmps73;go_wp2_with fail;refine(zV _ _ true (decide_eq_true HC.out)).mono ?_;rintro e w1 ⟨rfl,rfl⟩;go_wp2;go_ret;exact⟨rfl,rfl⟩
  ·obtain rfl:pl=0:=by omega
   go_enter Tryz.func73,Tryz.ntmps73;go_wp2_with fail;refine(zV _ _ true (decide_eq_true HC.out)).mono ?_;rintro e w1 ⟨rfl,rfl⟩;go_wp2;go_ret;exact⟨rfl,rfl⟩
 have z4':¬(4:Int)<(data.size:Int):=by omega
 by_cases z0:data.size=0
 case pos =>
  obtain rfl:0=t:=by rw[←ht];unfold zY;(repeat' split)<;>omega
  obtain rfl:=zio z0;clear hc ht z0 z4 z4'
  rcases hk with rfl|rfl|rfl
  ·go_enter Tryz.func73,Tryz.ntmps73;go_wp2_with fail;refine(zV _ _ true (decide_eq_true HC.out)).mono ?_;rintro e w1 ⟨rfl,rfl⟩;go_wp2;go_ret;exact⟨rfl,rfl⟩
  ·go_enter Tryz.func73,Tryz.ntmps73;go_wp2_with fail;refine(zV _ _ true (decide_eq_true HC.out)).mono ?_;rintro e w1 ⟨rfl,rfl⟩;go_wp2;go_ret;exact⟨rfl,rfl⟩
  ·obtain rfl:pl=0:=by omega
   go_enter Tryz.func73,Tryz.ntmps73;go_wp2_with fail;refine(zV _ _ true (decide_eq_true HC.out)).mono ?_;rintro e w1 ⟨rfl,rfl⟩;go_wp2;go_ret;exact⟨rfl,rfl⟩
 have z1:=zpH z0;have z2:data.toList.isEmpty=false:=by cases h:data.toList with|nil=>rw[h] at z1;cases z1|cons _ _=>rfl
 rcases hk with rfl|rfl|rfl
 ·obtain rfl:1=t:=by rw[←ht];unfold zY;(repeat' split)<;>omega
  clear hc ht z0;go_enter Tryz.func73,Tryz.ntmps73;go_wp2_with fail;refine(zV _ _ true (decide_eq_true HC.out)).mono ?_;rintro e w1 ⟨rfl,rfl⟩;go_wp2;go_ret;exact⟨rfl,rfl⟩
 ·obtain rfl:0=t:=by rw[←ht];unfold zY;(repeat' split)<;>omega
  clear hc ht z0;go_enter Tryz.func73,Tryz.ntmps73;go_wp2_with fail;refine(zV _ _ true (decide_eq_true HC.out)).mono ?_;rintro e w1 ⟨rfl,rfl⟩;go_wp2;go_ret;exact⟨rfl,rfl⟩
 ·obtain rfl:1=t:=by rw[←ht];unfold zY;(repeat' split)<;>omega
  obtain rfl:pl=0:=by omega
  clear hc ht z0;go_enter Tryz.func73,Tryz.ntmps73;go_wp2_with fail;refine(zV _ _ true (decide_eq_true HC.out)).mono ?_;rintro e w1 ⟨rfl,rfl⟩;go_wp2;go_ret;exact⟨rfl,rfl⟩
def Sk.asks0(p:Sk)(i:Nat)(kind pl:Int)(data:ByteArray):Sk:={ p with cl:=p.cl.set i { p.client i with kind:=kind,pl:=pl,data:=data } }
section
variable{s:Nat}{p:Sk}{A:Sa}{w w':World}
theorem zH.asks0(h:zH s p A w)(hl:p.cl.length=3){i:Nat}(hi:i<3)(kind pl:Int)(data:ByteArray):zH s (p.asks0 i kind pl data) A w where
 drv:=h.drv
 map:=h.map
 im:=h.im
 nb:=h.nb
 hand:=h.hand
 hnil:=h.hnil
 hcap:=h.hcap
 queue:=h.queue
 qnil:=h.qnil
 qcap:=h.qcap
 left:=fun j hj=>by
  unfold Sk.asks0;rw[zao hl hi]
  by_cases hji:j=i
  ·rw[if_pos hji,hji];exact h.left i hi
  ·rw[if_neg hji];exact h.left j hj
 sv:=h.sv
 vl:=h.vl
 ll:=h.ll
 hoffX:=h.hoffX
 qoffX:=h.qoffX
 roffX:=h.roffX
 xlt:=h.xlt
def zjC(w:World)(s o:Nat)(v0 v1 v2:Value):World:=((w.setCell ⟨s,o,none⟩ v0).setCell ⟨s,o+1,none⟩ v1).setCell ⟨s,o+2,none⟩ v2
theorem zj.asks0(h:zj s p A w)(hl:p.cl.length=3){i:Nat}(hi:i<3)(kind pl:Int)(data:ByteArray):zp s p A (p.asks0 i kind pl data) A w (zjC w s (2+i*6) (.int .i64 kind) (.int .i64 pl) (.string data)):=by
 refine(h.mem.asks0 hl hi kind pl data).puts ?_ ?_ (fun k hk=>hk) ⟨rfl,rfl,rfl,rfl⟩
 ·unfold zjC;exact(((zh.refl (fun k=>k=s) w).setCell _ (Or.inl rfl) _).setCell _ (Or.inl rfl) _).setCell _ (Or.inl rfl) _
 ·unfold zjC;rw[zx (zx (zx h.blk _ _) _ _)]
  congr 2
  match i,hi with
  |0,hi=>simp[Sk.cells,Sk.head,Sk.tail,zaA,Sk.asks0,zao hl hi]
  |1,hi=>simp[Sk.cells,Sk.head,Sk.tail,zaA,Sk.asks0,zao hl hi]
  |2,hi=>simp[Sk.cells,Sk.head,Sk.tail,zaA,Sk.asks0,zao hl hi]
theorem zH.qlt(h:zH s p A w)(hne:p.queue ≠ []){q:Addr}(hq:A.qa=some q):q.block<w.heap.size:=by
 rcases h.queue.1 with e|⟨b',o',ha,hc⟩
 ·exact absurd e hne
 ·have:p.queue.length ≠ 0:=fun e=>hne (List.eq_nil_of_length_eq_zero e)
  have:=zg (hc 0 (by omega) 0 (by omega));rw[ha] at hq;simp only[Option.some.injEq] at hq;subst hq;exact this
theorem zH.hlt(h:zH s p A w)(hne:p.hand ≠ []){q:Addr}(hq:A.ha=some q):q.block<w.heap.size:=by
 rcases h.hand.1 with e|⟨b',o',ha,hc⟩
 ·exact absurd e hne
 ·have:p.hand.length ≠ 0:=fun e=>hne (List.eq_nil_of_length_eq_zero e)
  have:=zg (hc 0 (by omega) 0 (by omega));rw[ha] at hq;simp only[Option.some.injEq] at hq;subst hq;exact this
theorem zH.rAt(h:zH s p A w):∀r∈p.queue++p.dev.busy,r.At w:=fun r hr=>(List.mem_append.1 hr).elim (h.queue.2.1 r) (fun hr=>(h.drv.dev.reqs r hr).1)
def Sa.lay(A:Sa)(i:Nat)(a:Option Addr)(c:Nat):Sa:={ A with la:=fun j=>if j=i then a else A.la j,lc:=fun j=>if j=i then c else A.lc j }
theorem Sa.lay_foot(A:Sa)(i:Nat)(a:Option Addr)(c k n:Nat)(hn:∀q,a=some q→n≤q.block)(h:(A.lay i a c).foot s k):A.foot s k∨n≤k:=by
 rcases h with h|h|⟨j,hj,q,hq,e⟩
 ·exact Or.inl (Or.inl h)
 ·exact Or.inl (Or.inr (Or.inl h))
 ·by_cases hji:j=i
  ·simp only[Sa.lay,if_pos hji] at hq;exact Or.inr (by rw[e];exact hn q hq)
  ·simp only[Sa.lay,if_neg hji] at hq;exact Or.inl (Or.inr (Or.inr ⟨j,hj,q,hq,e⟩))
theorem Sa.lay_off(A:Sa)(i:Nat)(a:Option Addr)(c k n:Nat)(hn:∀q,a=some q→n≤q.block)(h:(A.lay i a c).off s k):A.off s k∨n≤k:=h.elim (fun e=>(A.lay_foot i a c k n hn e).imp Or.inl id) (fun e=>Or.inl (Or.inr e))
theorem zj.newLeft(h:zj s p A w)(hl:p.cl.length=3){i:Nat}(hi:i<3)(L:List Int)(v:Value)(hb:Below w.heap.size w w')(hown:w'.ownsRow w.heap.size 3 1 v L.length (zaP L)):∃A',zp s p A (p.setLeft i L) A' w (w'.setCell ⟨s,2+i*6+3,none⟩ v):=by
 obtain⟨a,c,rfl,hnew,hown0⟩:∃a c,v=.slice a L.length c∧(∀q,a=some q→w.heap.size≤q.block)∧w'.ownsRow 0 3 1 (.slice a L.length c) L.length (zaP L):=by
  rcases hown.2 with⟨rfl,h0⟩|⟨g,cap,cur,rfl,hg,r⟩
  ·exact⟨none,0,by rw[h0],(fun q hq=>by cases hq),hown.1,Or.inl ⟨by rw[h0],h0⟩⟩
  ·exact⟨_,cap,rfl,(fun q hq=>by simp only[Option.some.injEq] at hq;subst hq;exact hg),hown.1,Or.inr ⟨g,cap,cur,rfl,Nat.zero_le _,r⟩⟩
 have h':=h.later hb;have nf:∀q:Addr,¬A.off s q.block→q.block<w.heap.size→¬(A.lay i a c).off s q.block:=fun q h1 h2 e=>(A.lay_off i a c _ _ hnew e).elim h1 (fun h3=>by omega)
 have hm:zH s (p.setLeft i L) (A.lay i a c) w':={
  drv:=h'.mem.drv
  map:=h'.mem.map
  im:=h'.mem.im
  nb:=h'.mem.nb
  hand:=h'.mem.hand
  hnil:=h'.mem.hnil
  hcap:=h'.mem.hcap
  queue:=h'.mem.queue
  qnil:=h'.mem.qnil
  qcap:=h'.mem.qcap
  left:=fun j hj=>by
   unfold Sk.setLeft;rw[zao hl hi]
   by_cases hji:j=i
   ·simp only[Sa.lay,if_pos hji];exact hown0
   ·simp only[Sa.lay,if_neg hji];exact h'.mem.left j hj
  sv:=h'.mem.sv
  vl:=fun j hj q hq=>by
   by_cases hji:j=i
   ·simp only[Sa.lay,if_pos hji] at hq;have h1:=hnew q hq;refine⟨fun e=>by have:=h.lt;omega,fun(e:q.block=A.v)=>by have:=zi h.mem.drv.blk;omega,fun e=>by have:=h.mem.drv.footLt _ e;omega⟩
   ·simp only[Sa.lay,if_neg hji] at hq;exact h'.mem.vl j hj q hq
  ll:=fun j k hj hk hne q q' hq hq'=>by
   by_cases hji:j=i
   ·have hki:¬k=i:=fun e=>hne (hji.trans e.symm)
    simp only[Sa.lay,if_pos hji] at hq;simp only[Sa.lay,if_neg hki] at hq';have h1:=hnew q hq;have h2:=h.mem.lrow hk hq'
    omega
   ·by_cases hki:k=i
    ·simp only[Sa.lay,if_neg hji] at hq;simp only[Sa.lay,if_pos hki] at hq';have h1:=hnew q' hq';have h2:=h.mem.lrow hj hq
     omega
    ·simp only[Sa.lay,if_neg hji] at hq;simp only[Sa.lay,if_neg hki] at hq';exact h'.mem.ll j k hj hk hne q q' hq hq'
  hoffX:=fun hne q hq=>nf q (h.mem.hoffX hne q hq) (h.mem.hlt hne hq)
  qoffX:=fun hne q hq=>nf q (h.mem.qoffX hne q hq) (h.mem.qlt hne hq)
  roffX:=fun r hr=>Rq.Off.step (h.mem.rAt r hr) (h.mem.roffX r hr) (fun k hk=>A.lay_off i a c k _ hnew hk)
  xlt:=h'.mem.xlt }
 have hO:zh (fun k=>k=s) w' (w'.setCell ⟨s,2+i*6+3,none⟩ (.slice a L.length c)):=zh.of_set _;refine⟨A.lay i a c,⟨⟨?_,hm.frame hO (fun k _ hne=>hne) (fun e=>hm.sv.2 e.symm) (fun hne q hq e=>hm.hoff hne q hq (Or.inl e)) (fun hne q hq e=>hm.qoff hne q hq (Or.inl e)) (fun r hr=>⟨fun he ad ha e=>(hm.roff r hr).1 he ad ha (Or.inl e),fun he ad ha e=>(hm.roff r hr).2 he ad ha (Or.inl e)⟩)⟩,?_,fun k hk=>A.lay_foot i a c k _ hnew hk,rfl,rfl,rfl,rfl⟩⟩
 ·rw[zx h'.blk]
  congr 2
  match i,hi with
  |0,hi=>simp[Sk.cells,Sk.head,Sk.tail,zaA,Sk.setLeft,zao hl hi,Sa.lay]
  |1,hi=>simp[Sk.cells,Sk.head,Sk.tail,zaA,Sk.setLeft,zao hl hi,Sa.lay]
  |2,hi=>simp[Sk.cells,Sk.head,Sk.tail,zaA,Sk.setLeft,zao hl hi,Sa.lay]
 ·exact(zh.of_below hb).trans (hO.mono (fun k e=>Or.inl e)) (fun k hk=>Or.inl hk)
end
end Go.Proofs.YtlhgjplipgandaaGreatDoor
