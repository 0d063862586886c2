/- Joined texts: RStk1, RStk2, RStk3. -/
import Derived.Test.YtlhgjplipgandaaGreatDoorD37
import Derived.Test.YtlhgjplipgandaaGreatDoorD18
import Derived.Test.YtlhgjplipgandaaGreatDoorD39
set_option maxRecDepth 100000
set_option maxHeartbeats 8000000
set_option linter.unusedSimpArgs false
namespace Go.Proofs.YtlhgjplipgandaaGreatDoor
open Go.RowKit Go.BigFrame Go.Maps
attribute [local go_sem] ze.cell ze.frozen
structure Rs where
 b:Nat
 v:Nat
 bm:Nat
 m:Rd
 ra:Ra
 n:Nat
 D:DataW Unit
 ka:Nat→Option Nat
 la:Nat→Option Addr
 lc:Nat→Nat
 lk:Nat→List Int
 ha:Option Addr
 hc:Nat
 qa:Option Addr
 qc:Nat
 X:Nat→Prop
 cnt:Nat
def askV(A:Rs)(i:Nat):Value:=.pointer ((A.ka i).map fun k=>⟨k,0,none⟩)
def Rs.cells(p:Sk)(A:Rs):List Value:=[.pointer (some ⟨A.b,0,none⟩),.pointer (some ⟨A.v,0,none⟩),.slice A.ha p.hand.length A.hc,.slice A.qa p.queue.length A.qc,.bool p.turn.w,.int .i64 p.turn.g,.int .i64 p.turn.s,.int .i64 p.turn.p,.int .i64 p.moment,.int .i64 p.uses,.int .i64 p.tags,askV A 0,askV A 1,askV A 2,.string (p.client 0).got,.string (p.client 1).got,.string (p.client 2).got,.int .i64 (p.client 0).err,.int .i64 (p.client 1).err,.int .i64 (p.client 2).err,.bool p.dead]
def znL(c:Cl)(a:Option Addr)(n k:Nat):List Value:=[.int .i64 c.kind,.int .i64 c.pl,.string c.data,.slice a n k]
def Rs.foot(A:Rs)(s:Nat)(k:Nat):Prop:=k=s∨zcG A.b A.bm A.ra k∨∃i,i<3∧A.ka i=some k
def Rs.off(A:Rs)(s:Nat)(k:Nat):Prop:=A.foot s k∨A.X k
structure zcT(w:World)(k:Nat)(c:Cl)(a:Option Addr)(L:List Int)(n:Nat):Prop where
 blk:w.heap[k]?=some (.cells (znL c a L.length n).toArray 160 (0,0))
 kind:c.kind ≠ 0
 ints:zax w a L
 nil:a=none→n=0
 left:c.kind=3→L=c.left
theorem zcT.frame{F:Nat→Prop}{w w':World}{k:Nat}{c:Cl}{a:Option Addr}{L:List Int}{n:Nat}(h:zcT w k c a L n)(hk:zh F w w')(hn:¬F k)(hl:L ≠ []→∀q,a=some q→¬F q.block):zcT w' k c a L n :=
 ⟨by rw[hk.block k (zi h.blk) hn];exact h.blk,h.kind,ze0 h.ints hk hl,h.nil,h.left⟩
structure zaR(s:Nat)(p:Sk)(A:Rs)(w:World):Prop where
 cl3:p.cl.length=3
 drv:zbt A.v A.b A.bm A.m A.ra A.n A.D w
 tied:zbu p.dev A.m
 busy:A.m.busy=p.dev.busy
 map:zcU A.D p.f
 im:IsMap A.D
 nb:A.n≤2*A.cnt
 wb:A.m.waits.length≤4*A.cnt
 hand:zB w A.ha p.hand
 hnil:A.ha=none→A.hc=0
 hcap:p.hand.length≤A.hc
 queue:zm w A.qa p.queue
 qnil:A.qa=none→A.qc=0
 qcap:p.queue.length≤A.qc
 asks:∀i,i<3→∀k,A.ka i=some k→zcT w k (p.client i) (A.la i) (A.lk i) (A.lc i)
 idle:∀i,i<3→A.ka i=none→(p.client i).kind=0
 sv:¬zcG A.b A.bm A.ra s∧s ≠ A.v
 kv:∀i,i<3→∀k,A.ka i=some k→k ≠ s∧k ≠ A.v∧¬zcG A.b A.bm A.ra k
 kk:∀i j,i<3→j<3→i ≠ j→∀k,A.ka i=some k→A.ka j ≠ some k
 hoff:p.hand ≠ []→∀q,A.ha=some q→¬A.off s q.block
 qoff:p.queue ≠ []→∀q,A.qa=some q→¬A.off s q.block
 roff:∀r∈p.queue++p.dev.busy,r.Off (A.off s)
 loff:∀i,i<3→∀k,A.ka i=some k→A.lk i ≠ []→∀q,A.la i=some q→¬A.off s q.block
 doff:p.dev.busy ≠ []→∀q,A.ra.la=some q→¬A.off s q.block
 xlt:∀k,A.X k→k<w.heap.size
structure zas(s:Nat)(p:Sk)(A:Rs)(w:World):Prop where
 blk:w.heap[s]?=some (.cells (Rs.cells p A).toArray 98 (0,0))
 mem:zaR s p A w
structure zaU(s:Nat)(p:Sk)(A:Rs)(p':Sk)(A':Rs)(w w':World):Prop where
 at':zas s p' A' w'
 only:zh (A.foot s) w w'
 foot:∀k,A'.foot s k→A.foot s k∨w.heap.size≤k
 same:A'.b=A.b∧A'.v=A.v∧A'.bm=A.bm∧A'.X=A.X
theorem zaU.trans{s:Nat}{p p' p2:Sk}{A A' A2:Rs}{w w' w2:World}(h:zaU s p A p' A' w w')(k:zaU s p' A' p2 A2 w' w2):zaU s p A p2 A2 w w2 :=
 ⟨k.at',h.only.trans k.only h.foot,fun i hi=>(k.foot i hi).elim (h.foot i) (fun h'=>Or.inr (Nat.le_trans h.only.size h')),by rw[k.same.1,k.same.2.1,k.same.2.2.1,k.same.2.2.2];exact h.same⟩
theorem zbt.frameK{F:Nat→Prop}{v b bm:Nat}{m:Rd}{a:Ra}{n:Nat}{D:DataW Unit}{w w':World}(h:zbt v b bm m a n D w)(hk:zh F w w')(hF:∀k,zcG b bm a k→¬F k)(hv:¬F v)(hl:m.busy ≠ []→∀p,a.la=some p→¬F p.block)(hr:∀r∈m.busy,r.Off F):zbt v b bm m a n D w' where
 dev:=h.dev.frame hk (fun k e=>hF k (Or.inr e)) hl hr
 blk:=by rw[hk.block v (zi h.blk) hv];exact h.blk
 map:=zc4 h.map (hk.block bm h.mlt (hF bm (Or.inl rfl)))
 foot:=h.foot
theorem zbt.footLt{v b bm:Nat}{m:Rd}{a:Ra}{n:Nat}{D:DataW Unit}{w:World}(h:zbt v b bm m a n D w)(k:Nat)(hk:zcG b bm a k):k<w.heap.size:=by
 rcases hk with rfl|hk
 ·exact h.mlt
 ·exact h.dev.footLt k hk
section
variable{s:Nat}{p p':Sk}{A A':Rs}{w w':World}
theorem zaR.foot(_h:zaR s p A w){k:Nat}(hk:A.foot s k):A.off s k:=Or.inl hk
theorem zas.lt(h:zas s p A w):s<w.heap.size:=zi h.blk
theorem zaR.askLt(h:zaR s p A w){i k:Nat}(hi:i<3)(hk:A.ka i=some k):k<w.heap.size:=zi (h.asks i hi k hk).blk
theorem zas.footLt(h:zas s p A w)(k:Nat)(hk:A.foot s k):k<w.heap.size:=by
 rcases hk with rfl|hk|⟨i,hi,hk⟩
 ·exact h.lt
 ·exact h.mem.drv.footLt k hk
 ·exact h.mem.askLt hi hk
theorem zas.offLt(h:zas s p A w)(k:Nat)(hk:A.off s k):k<w.heap.size:=hk.elim (h.footLt k) (fun e=>h.mem.xlt k e)
theorem zaR.frame{F:Nat→Prop}(h:zaR s p A w)(hk:zh F w w')(hF:∀k,A.foot s k→k ≠ s→¬F k)(hv:¬F A.v)(hh:p.hand ≠ []→∀q,A.ha=some q→¬F q.block)(hq:p.queue ≠ []→∀q,A.qa=some q→¬F q.block)(hr:∀r∈p.queue++p.dev.busy,r.Off F)
 (hl:∀i,i<3→∀k,A.ka i=some k→A.lk i ≠ []→∀q,A.la i=some q→¬F q.block) (hd:p.dev.busy ≠ []→∀q,A.ra.la=some q→¬F q.block):zaR s p A w' where
 cl3:=h.cl3
 drv:=h.drv.frameK hk (fun k e=>hF k (Or.inr (Or.inl e)) (fun e'=>h.sv.1 (e'▸e))) hv (by rw[h.busy];exact hd) (by rw[h.busy];exact fun r hr'=>hr r (List.mem_append_right _ hr'))
 tied:=h.tied
 busy:=h.busy
 map:=h.map
 im:=h.im
 nb:=h.nb
 wb:=h.wb
 hand:=zb1 h.hand hk hh
 hnil:=h.hnil
 hcap:=h.hcap
 queue:=zbI h.queue hk hq (fun r hr'=>hr r (List.mem_append_left _ hr'))
 qnil:=h.qnil
 qcap:=h.qcap
 asks:=fun i hi k hk'=>(h.asks i hi k hk').frame hk (hF k (Or.inr (Or.inr ⟨i,hi,hk'⟩)) (h.kv i hi k hk').1) (hl i hi k hk')
 idle:=h.idle
 sv:=h.sv
 kv:=h.kv
 kk:=h.kk
 hoff:=h.hoff
 qoff:=h.qoff
 roff:=h.roff
 loff:=h.loff
 doff:=h.doff
 xlt:=fun k e=>Nat.lt_of_lt_of_le (h.xlt k e) hk.size
theorem zas.frame{F:Nat→Prop}(h:zas s p A w)(hk:zh F w w')(hF:∀k,A.foot s k→¬F k)(hv:¬F A.v)(hh:p.hand ≠ []→∀q,A.ha=some q→¬F q.block)(hq:p.queue ≠ []→∀q,A.qa=some q→¬F q.block)(hr:∀r∈p.queue++p.dev.busy,r.Off F)
 (hl:∀i,i<3→∀k,A.ka i=some k→A.lk i ≠ []→∀q,A.la i=some q→¬F q.block) (hd:p.dev.busy ≠ []→∀q,A.ra.la=some q→¬F q.block):zas s p A w' :=
 ⟨by rw[hk.block s h.lt (hF s (Or.inl rfl))];exact h.blk,h.mem.frame hk (fun k e _=>hF k e) hv hh hq hr hl hd⟩
theorem zas.later(h:zas s p A w)(hb:Below w.heap.size w w'):zas s p A w':=h.frame (F:=fun _=>False) (zh.of_below hb) (fun _ _ e=>e) (fun e=>e) (fun _ _ _ e=>e) (fun _ _ _ e=>e) (fun r _=>zkL r) (fun _ _ _ _ _ _ _ e=>e) (fun _ _ _ e=>e)
theorem zaU.same'(h:zas s p A w)(hb:Below w.heap.size w w'):zaU s p A p A w w':=⟨h.later hb,zh.of_below hb,fun _ hk=>Or.inl hk,rfl,rfl,rfl,rfl⟩
theorem zaU.later{w2:World}(h:zaU s p A p' A' w w')(hb:Below w'.heap.size w' w2):zaU s p A p' A' w w2:=h.trans (zaU.same' h.at' hb)
theorem zaR.turned{F:Nat→Prop}(h:zaR s p A w)(hO:zh F w w')(hF:∀k,F k→A.off s k)(hn:∀k,A.foot s k→k ≠ s→¬F k)(hv:¬F A.v):zaR s p A w' :=
 h.frame hO hn hv (fun hne q hq e=>h.hoff hne q hq (hF _ e)) (fun hne q hq e=>h.qoff hne q hq (hF _ e)) (fun r hr=>⟨fun he ad ha e=>(h.roff r hr).1 he ad ha (hF _ e),fun he ad ha e=>(h.roff r hr).2 he ad ha (hF _ e)⟩) (fun i hi k hk hne q hq e=>h.loff i hi k hk hne q hq (hF _ e)) (fun hne q hq e=>h.doff hne q hq (hF _ e))
theorem zas.put(h:zas s p A w)(hm:zaR s p' A' w)(j:Nat)(u:Value)(hc:(Rs.cells p A).set j u=Rs.cells p' A')(hf:∀k,A'.foot s k→A.foot s k∨w.heap.size≤k)(hsame:A'.b=A.b∧A'.v=A.v∧A'.bm=A.bm∧A'.X=A.X):zaU s p A p' A' w (w.setCell ⟨s,j,none⟩ u):=by
 have hO:zh (fun k=>k=s) w (w.setCell ⟨s,j,none⟩ u):=(zh.refl (fun k=>k=s) w).setCell ⟨s,j,none⟩ (Or.inl rfl) u;exact⟨⟨by rw[zx h.blk,hc],hm.turned hO (fun k e=>Or.inl (Or.inl e)) (fun k _ hne=>hne) (fun e=>hm.sv.2 e.symm)⟩,hO.mono (fun k e=>Or.inl e),hf,hsame⟩
theorem zas.cell(h:zas s p A w)(j:Nat)(u:Value)(hj:(Rs.cells p A)[j]?=some u):w.cell? ⟨s,j,none⟩=some u:=(zk h.blk j).trans hj
theorem zas.fz(h:zas s p A w)(j:Nat):w.frozen? ⟨s,j,none⟩=false:=zK h.blk j
theorem zcT.cells{w:World}{k:Nat}{c:Cl}{a:Option Addr}{L:List Int}{n:Nat}(h:zcT w k c a L n):w.cell? ⟨k,0,none⟩=some (.int .i64 c.kind)∧w.cell? ⟨k,1,none⟩=some (.int .i64 c.pl)∧w.cell? ⟨k,2,none⟩=some (.string c.data)∧w.cell? ⟨k,3,none⟩=some (.slice a L.length n)∧w.frozen? ⟨k,3,none⟩=false∧k<w.heap.size :=
 ⟨by rw[zk h.blk];rfl,by rw[zk h.blk];rfl,by rw[zk h.blk];rfl,by rw[zk h.blk];rfl,zK h.blk 3,zi h.blk⟩
theorem zgn(h:p.cl.length=3):∃a b c,p.cl=[a,b,c]:=by
 match e:p.cl,h with
 |[a,b,c],_=>exact⟨a,b,c,rfl⟩
def KOk(c s:Nat)(p:Sk)(A:Rs)(w w':World)(q:Sk):Prop:=∃p' A',zaU s p A p' A' w w'∧p'.nf=q∧A'.cnt≤A.cnt+c
theorem KOk.before{c c' c2:Nat}{w2:World}{q:Sk}(h:zaU s p A p' A' w w')(hc:A'.cnt≤A.cnt+c)(k:KOk c' s p' A' w' w2 q)(hcc:c+c'≤c2):KOk c2 s p A w w2 q:=by
 obtain⟨p3,A3,h3,hn,hc3⟩:=k;exact⟨p3,A3,h.trans h3,hn,by omega⟩
end
theorem zas.step{s:Nat}{p:Sk}{A:Rs}{w w':World}{d':Dl}{m':Rd}{ra':Ra}{n':Nat}{D':DataW Unit}{f':Int→Int}(g' c':Nat)(h:zas s p A w)(hs:zcC A.v A.b A.bm A.m A.ra A.n A.D m' ra' n' D' w w')(ht:zbu d' m')(hbu:m'.busy=d'.busy)(hn:n'≤2*c')(hw:m'.waits.length≤4*c')(hm:zcU D' f')(hi:IsMap D')(hr:∀r∈d'.busy,r.Off (({ A with m:=m',ra:=ra',n:=n',D:=D',cnt:=c' }:Rs).off s)) :
 zaU s p A { p with dev:=d',f:=f',ag:=g' } { A with m:=m',ra:=ra',n:=n',D:=D',cnt:=c' } w w':=by
 have hft:∀k,({ A with m:=m',ra:=ra',n:=n',D:=D',cnt:=c' }:Rs).foot s k→A.foot s k∨w.heap.size≤k:=by
  rintro k (e|e|e)
  ·exact Or.inl (Or.inl e)
  ·exact(hs.foot k e).imp (fun e=>Or.inr (Or.inl e)) id
  ·exact Or.inl (Or.inr (Or.inr e))
 have hfx:∀k,({ A with m:=m',ra:=ra',n:=n',D:=D',cnt:=c' }:Rs).off s k→A.off s k∨w.heap.size≤k:=fun k hk=>hk.elim (fun e=>(hft k e).imp Or.inl id) (fun e=>Or.inl (Or.inr e))
 have hO:zh (A.foot s) w w':=hs.only.mono (fun k e=>Or.inr (Or.inl e));have hat:∀r∈p.queue,r.At w:=h.mem.queue.2.1;have hnew:∀{q:Nat},¬zcG A.b A.bm A.ra q→q<w.heap.size→¬zcG A.b A.bm ra' q:=fun h1 h2 e=>(hs.foot _ e).elim h1 (fun h'=>by omega)
 have nf:∀q:Addr,¬A.off s q.block→q.block<w.heap.size→¬({ A with m:=m',ra:=ra',n:=n',D:=D',cnt:=c' }:Rs).off s q.block:=fun q h1 h2 e=>(hfx _ e).elim h1 (fun h'=>by omega)
 refine⟨⟨?_,?_⟩,hO,hft,rfl,rfl,rfl,rfl⟩
 ·rw[hs.only.block s h.lt h.mem.sv.1];exact h.blk
 ·have hqlt:p.queue ≠ []→∀q,A.qa=some q→q.block<w.heap.size:=fun hne q hq=>by
   rcases h.mem.queue.1 with e|⟨b',o',ha,hc⟩
   ·exact absurd e hne
   ·have:p.queue.length ≠ 0:=fun e=>hne (List.eq_nil_of_length_eq_zero e)
    have:=zg (hc 0 (by omega) 0 (by omega));rw[ha] at hq;simp only[Option.some.injEq] at hq;subst hq;exact this
  have hhlt:p.hand ≠ []→∀q,A.ha=some q→q.block<w.heap.size:=fun hne q hq=>by
   rcases h.mem.hand.1 with e|⟨b',o',ha,hc⟩
   ·exact absurd e hne
   ·have:p.hand.length ≠ 0:=fun e=>hne (List.eq_nil_of_length_eq_zero e)
    have:=zg (hc 0 (by omega) 0 (by omega));rw[ha] at hq;simp only[Option.some.injEq] at hq;subst hq;exact this
  exact {
   cl3:=h.mem.cl3
   drv:=hs.at'
   tied:=ht
   busy:=hbu
   map:=hm
   im:=hi
   nb:=hn
   wb:=hw
   hand:=zb1 h.mem.hand hO (fun hne q hq e=>h.mem.hoff hne q hq (Or.inl e))
   hnil:=h.mem.hnil
   hcap:=h.mem.hcap
   queue:=zbI h.mem.queue hO (fun hne q hq e=>h.mem.qoff hne q hq (Or.inl e)) (fun r hr'=>⟨fun he ad ha e=>(h.mem.roff r (List.mem_append_left _ hr')).1 he ad ha (Or.inl e),fun he ad ha e=>(h.mem.roff r (List.mem_append_left _ hr')).2 he ad ha (Or.inl e)⟩)
   qnil:=h.mem.qnil
   qcap:=h.mem.qcap
   asks:=fun i hi k hk=>(h.mem.asks i hi k hk).frame hs.only (h.mem.kv i hi k hk).2.2 (fun hne q hq e=>h.mem.loff i hi k hk hne q hq (Or.inl (Or.inr (Or.inl e))))
   idle:=h.mem.idle
   sv:=⟨hnew h.mem.sv.1 h.lt,h.mem.sv.2⟩
   kv:=fun i hi k hk=>⟨(h.mem.kv i hi k hk).1,(h.mem.kv i hi k hk).2.1,hnew (h.mem.kv i hi k hk).2.2 (h.mem.askLt hi hk)⟩
   kk:=h.mem.kk
   hoff:=fun hne q hq=>nf q (h.mem.hoff hne q hq) (hhlt hne q hq)
   qoff:=fun hne q hq=>nf q (h.mem.qoff hne q hq) (hqlt hne q hq)
   loff:=fun i hi k hk hne q hq=>nf q (h.mem.loff i hi k hk hne q hq) (zcQ (h.mem.asks i hi k hk).ints hne hq)
   doff:=fun hne q hq=>by
    have hne':m'.busy ≠ []:=by rw[hbu];exact hne
    rcases hs.lan hne' q hq with⟨h1,h2⟩|h1
    ·have h1':p.dev.busy ≠ []:=by rw[←h.mem.busy];exact h1
     refine nf q (h.mem.doff h1' q h2) ?_
     rcases h.mem.drv.dev.lrow.1 with e|⟨b',o',ha,hc⟩
     ·exact absurd e h1
     ·have:A.m.busy.length ≠ 0:=fun e=>h1 (List.eq_nil_of_length_eq_zero e)
      have:=zg (hc 0 (by omega) 0 (by omega));rw[ha] at h2;simp only[Option.some.injEq] at h2;subst h2;exact this
    ·rintro((e|e|⟨i,hi,e⟩)|e)
     ·have:=h.lt;omega
     ·have hl:=hs.at'.dev.loff hne' q hq
      rcases e with e|e
      ·exact hs.at'.lm hne' q hq e
      ·exact hl e
     ·have:=h.mem.askLt hi e;omega
     ·have:=h.mem.xlt _ e;omega
   roff:=fun r hr'=>by
    rcases List.mem_append.1 hr' with h'|h'
    ·exact Rq.Off.step (hat r h') (h.mem.roff r (List.mem_append_left _ h')) hfx
    ·exact hr r h'
   xlt:=fun k e=>Nat.lt_of_lt_of_le (h.mem.xlt k e) hO.size }
def upd{α:Type}(f:Nat→α)(c:Nat)(v:α):Nat→α:=fun i=>if i=c then v else f i
theorem zbg{α:Type}(f:Nat→α)(c:Nat)(v:α):upd f c v c=v:=if_pos rfl
theorem zbU{α:Type}{f:Nat→α}{c i:Nat}{v:α}(h:i ≠ c):upd f c v i=f i:=if_neg h
section
variable{s:Nat}{p p':Sk}{A A':Rs}{w w':World}
theorem zep(h:p.cl.length=3){c:Nat}(hc:c<3)(x:Cl):({ p with cl:=p.cl.set c x }:Sk).client c=x:=by
 have:=zmk p h hc (j:=c) x
 rwa [if_pos rfl] at this
theorem zaR.puts(hm:zaR s p' A' w)(hO:zh (fun k=>k=s) w w')(hb:w'.heap[s]?=some (.cells (Rs.cells p' A').toArray 98 (0,0)))(hf:∀k,A'.foot s k→A.foot s k∨w.heap.size≤k)(hs:A.foot s s)(hsame:A'.b=A.b∧A'.v=A.v∧A'.bm=A.bm∧A'.X=A.X):zaU s p A p' A' w w' :=
 ⟨⟨hb,hm.turned hO (fun k e=>Or.inl (Or.inl e)) (fun k _ hne=>hne) (fun e=>hm.sv.2 e.symm)⟩,hO.mono (fun k e=>by rw[e];exact hs),hf,hsame⟩
theorem zcR{c:Nat}{k:Nat}(h:({ A with ka:=upd A.ka c none }:Rs).off s k):A.off s k:=by
 rcases h with(e|e|⟨i,hi,e⟩)|e
 ·exact Or.inl (Or.inl e)
 ·exact Or.inl (Or.inr (Or.inl e))
 ·by_cases hic:i=c
  ·subst hic;have e':upd A.ka i none i=some k:=e;rw[zbg] at e';cases e'
  ·have e':upd A.ka c none i=some k:=e;rw[zbU hic] at e';exact Or.inl (Or.inr (Or.inr ⟨i,hi,e'⟩))
 ·exact Or.inr e
theorem zcz{c i k:Nat}(h:upd A.ka c none i=some k):i ≠ c∧A.ka i=some k:=by
 by_cases hic:i=c
 ·subst hic;rw[zbg] at h;cases h
 ·rw[zbU hic] at h;exact⟨hic,h⟩
theorem zaR.idleCl(h:zaR s p A w){c:Nat}(hc:c<3)(x:Cl)(hx:x.kind=0):zaR s { p with cl:=p.cl.set c x } { A with ka:=upd A.ka c none } w where
 cl3:=by show(p.cl.set c x).length=3;rw[List.length_set];exact h.cl3
 drv:=h.drv
 tied:=h.tied
 busy:=h.busy
 map:=h.map
 im:=h.im
 nb:=h.nb
 wb:=h.wb
 hand:=h.hand
 hnil:=h.hnil
 hcap:=h.hcap
 queue:=h.queue
 qnil:=h.qnil
 qcap:=h.qcap
 asks:=fun i hi k hk=>by
  obtain⟨hic,hk'⟩:=zcz hk;rw[zbP p hic];exact h.asks i hi k hk'
 idle:=fun i hi hk=>by
  by_cases hic:i=c
  ·subst hic;rw[zep h.cl3 hi];exact hx
  ·rw[zbP p hic];have hk':upd A.ka c none i=none:=hk;rw[zbU hic] at hk';exact h.idle i hi hk'
 sv:=h.sv
 kv:=fun i hi k hk=>h.kv i hi k (zcz hk).2
 kk:=fun i j hi hj hij k hk hk'=>h.kk i j hi hj hij k (zcz hk).2 (zcz hk').2
 hoff:=fun hne q hq e=>h.hoff hne q hq (zcR e)
 qoff:=fun hne q hq e=>h.qoff hne q hq (zcR e)
 roff:=fun r hr=>⟨fun he ad ha e=>(h.roff r hr).1 he ad ha (zcR e),fun he ad ha e=>(h.roff r hr).2 he ad ha (zcR e)⟩
 loff:=fun i hi k hk hne q hq e=>h.loff i hi k (zcz hk).2 hne q hq (zcR e)
 doff:=fun hne q hq e=>h.doff hne q hq (zcR e)
 xlt:=h.xlt
theorem zlF{c:Nat}{k:Nat}(h:({ A with ka:=upd A.ka c none }:Rs).foot s k):A.foot s k:=by
 rcases h with e|e|⟨i,hi,e⟩
 ·exact Or.inl e
 ·exact Or.inr (Or.inl e)
 ·exact Or.inr (Or.inr ⟨i,hi,(zcz e).2⟩)
theorem zas.answer(h:zas s p A w){c:Nat}(hc:c<3)(d:ByteArray)(f:Int):zaU s p A (p.answer c d f) { A with ka:=upd A.ka c none } w (((w.setCell ⟨s,11+c,none⟩ (.pointer none)).setCell ⟨s,14+c,none⟩ (.string d)).setCell ⟨s,17+c,none⟩ (.int .i64 f)):=by
 refine(h.mem.idleCl hc ⟨0,0,ByteArray.empty,[],d,f⟩ rfl).puts ?_ ?_ (fun k hk=>Or.inl (zlF hk)) (Or.inl rfl) ⟨rfl,rfl,rfl,rfl⟩
 ·exact(((zh.refl (fun k=>k=s) w).setCell _ (Or.inl rfl) _).setCell _ (Or.inl rfl) _).setCell _ (Or.inl rfl) _
 ·rw[zx (zx (zx h.blk _ _) _ _)];obtain⟨x,y,z,e⟩:=zgn h.mem.cl3;obtain⟨dev,ff,cl,hand,queue,turn,moment,tags,uses,dead,ag⟩:=p;simp only at e;subst e
  match c,hc with
  |0,_=>rfl
  |1,_=>rfl
  |2,_=>rfl
theorem zaR.setHand(h:zaR s p A w)(l:List Bf)(a':Option Addr)(c':Nat)(u:Int)(hB:zB w a' l)(hcap:l.length≤c')(hnil:a'=none→c'=0)(ho:l ≠ []→∀q,a'=some q→¬A.off s q.block):zaR s { p with hand:=l,uses:=u } { A with ha:=a',hc:=c' } w where
 cl3:=h.cl3
 drv:=h.drv
 tied:=h.tied
 busy:=h.busy
 map:=h.map
 im:=h.im
 nb:=h.nb
 wb:=h.wb
 hand:=hB
 hnil:=hnil
 hcap:=hcap
 queue:=h.queue
 qnil:=h.qnil
 qcap:=h.qcap
 asks:=h.asks
 idle:=h.idle
 sv:=h.sv
 kv:=h.kv
 kk:=h.kk
 hoff:=ho
 qoff:=h.qoff
 roff:=h.roff
 loff:=h.loff
 doff:=h.doff
 xlt:=h.xlt
theorem zas.setUses(h:zas s p A w)(u:Int):zaU s p A { p with uses:=u } A w (w.setCell ⟨s,9,none⟩ (.int .i64 u)) :=
 h.put (p':={ p with uses:=u }) (A':=A) { h.mem with } 9 _ rfl (fun _ hk=>Or.inl hk) ⟨rfl,rfl,rfl,rfl⟩
theorem zas.setHand(h:zas s p A w)(l:List Bf)(a':Option Addr)(c':Nat)(hB:zB w a' l)(hcap:l.length≤c')(hnil:a'=none→c'=0)(ho:l ≠ []→∀q,a'=some q→¬A.off s q.block):zaU s p A { p with hand:=l } { A with ha:=a',hc:=c' } w (w.setCell ⟨s,2,none⟩ (.slice a' l.length c')) :=
 h.put (p':={ p with hand:=l }) (A':={ A with ha:=a',hc:=c' }) (h.mem.setHand l a' c' p.uses hB hcap hnil ho) 2 _ rfl (fun _ hk=>Or.inl hk) ⟨rfl,rfl,rfl,rfl⟩
theorem zaR.setQueue(h:zaR s p A w)(L:List Rq)(a':Option Addr)(c':Nat)(n:Int)(hR:zm w a' L)(hcap:L.length≤c')(hnil:a'=none→c'=0)(ho:L ≠ []→∀q,a'=some q→¬A.off s q.block)(hro:∀r∈L,r.Off (A.off s)):zaR s { p with queue:=L,tags:=n } { A with qa:=a',qc:=c' } w where
 cl3:=h.cl3
 drv:=h.drv
 tied:=h.tied
 busy:=h.busy
 map:=h.map
 im:=h.im
 nb:=h.nb
 wb:=h.wb
 hand:=h.hand
 hnil:=h.hnil
 hcap:=h.hcap
 queue:=hR
 qnil:=hnil
 qcap:=hcap
 asks:=h.asks
 idle:=h.idle
 sv:=h.sv
 kv:=h.kv
 kk:=h.kk
 hoff:=h.hoff
 qoff:=ho
 roff:=fun r hr=>(List.mem_append.1 hr).elim (hro r) (fun h'=>h.roff r (List.mem_append_right _ h'))
 loff:=h.loff
 doff:=h.doff
 xlt:=h.xlt
theorem zas.setQueue(h:zas s p A w)(L:List Rq)(a':Option Addr)(c':Nat)(n:Int)(hR:zm w a' L)(hcap:L.length≤c')(hnil:a'=none→c'=0)(ho:L ≠ []→∀q,a'=some q→¬A.off s q.block)(hro:∀r∈L,r.Off (A.off s)):zaU s p A { p with queue:=L,tags:=n } { A with qa:=a',qc:=c' } w ((w.setCell ⟨s,3,none⟩ (.slice a' L.length c')).setCell ⟨s,10,none⟩ (.int .i64 n)):=by
 refine(h.mem.setQueue L a' c' n hR hcap hnil ho hro).puts ?_ ?_ (fun k hk=>Or.inl hk) (Or.inl rfl) ⟨rfl,rfl,rfl,rfl⟩
 ·exact((zh.refl (fun k=>k=s) w).setCell _ (Or.inl rfl) _).setCell _ (Or.inl rfl) _
 ·rw[zx (zx h.blk _ _)]
  rfl
theorem zas.setMoment(h:zas s p A w)(u:Int):zaU s p A { p with moment:=u } A w (w.setCell ⟨s,8,none⟩ (.int .i64 u)) :=
 h.put (p':={ p with moment:=u }) (A':=A) { h.mem with } 8 _ rfl (fun _ hk=>Or.inl hk) ⟨rfl,rfl,rfl,rfl⟩
theorem zas.setDead(h:zas s p A w)(b:Bool):zaU s p A { p with dead:=b } A w (w.setCell ⟨s,20,none⟩ (.bool b)) :=
 h.put (p':={ p with dead:=b }) (A':=A) { h.mem with } 20 _ rfl (fun _ hk=>Or.inl hk) ⟨rfl,rfl,rfl,rfl⟩
theorem zas.setLeft(h:zas s p A w){c k:Nat}(hc:c<3)(hk:A.ka c=some k)(L:List Int)(a':Option Addr)(c':Nat)(hI:zax w a' L)(hnil:a'=none→c'=0)(ho:L ≠ []→∀q,a'=some q→¬A.off s q.block) :
 zaU s p A { p with cl:=p.cl.set c { p.client c with left:=L } } { A with la:=upd A.la c a',lc:=upd A.lc c c',lk:=upd A.lk c L } w (w.setCell ⟨k,3,none⟩ (.slice a' L.length c')):=by
 have hO:zh (fun j=>j=k) w (w.setCell ⟨k,3,none⟩ (.slice a' L.length c')):=(zh.refl (fun j=>j=k) w).setCell ⟨k,3,none⟩ (Or.inl rfl) _;have hkf:A.foot s k:=Or.inr (Or.inr ⟨c,hc,hk⟩);obtain⟨k1,k2,k3⟩:=h.mem.kv c hc k hk;have hA:=h.mem.asks c hc k hk;have offk:∀{q:Addr},¬A.off s q.block→¬q.block=k:=fun hn e=>hn (by rw[e];exact Or.inl hkf)
 refine⟨⟨?_,?_⟩,hO.mono (fun j e=>by rw[e];exact hkf),fun j hj=>Or.inl hj,rfl,rfl,rfl,rfl⟩
 ·rw[hO.block s h.lt (fun e=>k1 e.symm),h.blk]
  congr 2
  obtain⟨x,y,z,e⟩:=zgn h.mem.cl3;obtain⟨dev,ff,cl,hand,queue,turn,moment,tags,uses,dead,ag⟩:=p;simp only at e;subst e
  match c,hc with
  |0,_=>rfl
  |1,_=>rfl
  |2,_=>rfl
 ·exact {
   cl3:=by show(p.cl.set c _).length=3;rw[List.length_set];exact h.mem.cl3
   drv:=h.mem.drv.frameK hO (fun j e e'=>k3 (e'▸e)) (fun e=>k2 e.symm) (by rw[h.mem.busy];exact fun hne q hq=>offk (h.mem.doff hne q hq)) (by rw[h.mem.busy];exact fun r hr=>⟨fun he ad ha=>offk ((h.mem.roff r (List.mem_append_right _ hr)).1 he ad ha),fun he ad ha=>offk ((h.mem.roff r (List.mem_append_right _ hr)).2 he ad ha)⟩)
   tied:=h.mem.tied
   busy:=h.mem.busy
   map:=h.mem.map
   im:=h.mem.im
   nb:=h.mem.nb
   wb:=h.mem.wb
   hand:=zb1 h.mem.hand hO (fun hne q hq=>offk (h.mem.hoff hne q hq))
   hnil:=h.mem.hnil
   hcap:=h.mem.hcap
   queue:=zbI h.mem.queue hO (fun hne q hq=>offk (h.mem.qoff hne q hq)) (fun r hr=>⟨fun he ad ha=>offk ((h.mem.roff r (List.mem_append_left _ hr)).1 he ad ha),fun he ad ha=>offk ((h.mem.roff r (List.mem_append_left _ hr)).2 he ad ha)⟩)
   qnil:=h.mem.qnil
   qcap:=h.mem.qcap
   asks:=fun i hi j hj=>by
    by_cases e:i=c
    ·subst e;have hj':A.ka i=some j:=hj;rw[hk] at hj';obtain rfl:=Option.some.inj hj';rw[zep h.mem.cl3 hi];show zcT _ k { p.client i with left:=L } (upd A.la i a' i) (upd A.lk i L i) (upd A.lc i c' i);rw[zbg,zbg,zbg];refine⟨?_,hA.kind,ze0 hI hO (fun hne q hq=>offk (ho hne q hq)),hnil,fun _=>rfl⟩;rw[zx hA.blk]
     rfl
    ·rw[zbP p e];show zcT _ j (p.client i) (upd A.la c a' i) (upd A.lk c L i) (upd A.lc c c' i);rw[zbU e,zbU e,zbU e];exact(h.mem.asks i hi j hj).frame hO (fun e'=>h.mem.kk i c hi hc e j hj (by rw[e'];exact hk)) (fun hne q hq=>offk (h.mem.loff i hi j hj hne q hq))
   idle:=fun i hi hj=>by
    by_cases e:i=c
    ·subst e;have hj':A.ka i=none:=hj;rw[hk] at hj';cases hj'
    ·rw[zbP p e];exact h.mem.idle i hi hj
   sv:=h.mem.sv
   kv:=h.mem.kv
   kk:=h.mem.kk
   hoff:=h.mem.hoff
   qoff:=h.mem.qoff
   roff:=h.mem.roff
   loff:=fun i hi j hj hne q hq=>by
    by_cases e:i=c
    ·subst e;have hne':upd A.lk i L i ≠ []:=hne;have hq':upd A.la i a' i=some q:=hq;rw[zbg] at hne' hq';exact ho hne' q hq'
    ·have hne':upd A.lk c L i ≠ []:=hne;have hq':upd A.la c a' i=some q:=hq;rw[zbU e] at hne' hq';exact h.mem.loff i hi j hj hne' q hq'
   doff:=h.mem.doff
   xlt:=fun j e=>Nat.lt_of_lt_of_le (h.mem.xlt j e) hO.size }
theorem zhv{w:World}{a:Option Addr}{l:List Bf}(h:zB w a l)(hne:l ≠ []){q:Addr}(hq:a=some q):q.block<w.heap.size:=by
 rcases h.1 with e|⟨b',o',ha,hc⟩
 ·exact absurd e hne
 ·have:l.length ≠ 0:=fun e=>hne (List.eq_nil_of_length_eq_zero e)
  have:=zg (hc 0 (by omega) 0 (by omega));rw[ha] at hq;simp only[Option.some.injEq] at hq;subst hq;exact this
theorem zeD{w:World}{a:Option Addr}{l:List Rq}(h:zm w a l)(hne:l ≠ []){q:Addr}(hq:a=some q):q.block<w.heap.size:=by
 rcases h.1 with e|⟨b',o',ha,hc⟩
 ·exact absurd e hne
 ·have:l.length ≠ 0:=fun e=>hne (List.eq_nil_of_length_eq_zero e)
  have:=zg (hc 0 (by omega) 0 (by omega));rw[ha] at hq;simp only[Option.some.injEq] at hq;subst hq;exact this
theorem zas.asked(h:zas s p A w){w1:World}(hb:Below w.heap.size w w1){c k:Nat}(hc:c<3)(hk:w.heap.size≤k)(x:Cl)(L:List Int)(a':Option Addr)(n:Nat)(hA:zcT w1 k x a' L n)(ho:L ≠ []→∀q,a'=some q→w.heap.size≤q.block∧q.block ≠ k)(hx:x.got=(p.client c).got∧x.err=(p.client c).err)(hi0:A.ka c=none) :
 zaU s p A { p with cl:=p.cl.set c x } { A with ka:=upd A.ka c (some k),la:=upd A.la c a',lc:=upd A.lc c n,lk:=upd A.lk c L } w (w1.setCell ⟨s,11+c,none⟩ (.pointer (some ⟨k,0,none⟩))):=by
 have h1:=h.later hb;have hO:zh (fun j=>j=s) w1 (w1.setCell ⟨s,11+c,none⟩ (.pointer (some ⟨k,0,none⟩))):=(zh.refl (fun j=>j=s) w1).setCell ⟨s,11+c,none⟩ (Or.inl rfl) _;have hks:k ≠ s:=fun e=>by have:=h.lt;omega
 have some_cases:∀{i j:Nat},upd A.ka c (some k) i=some j→(i=c∧j=k)∨(i ≠ c∧A.ka i=some j):=by
  intro i j e
  by_cases hic:i=c
  ·subst hic;rw[zbg] at e;exact Or.inl ⟨rfl,(Option.some.inj e).symm⟩
  ·rw[zbU hic] at e;exact Or.inr ⟨hic,e⟩
 have hoff:∀j,({ A with ka:=upd A.ka c (some k),la:=upd A.la c a',lc:=upd A.lc c n,lk:=upd A.lk c L }:Rs).off s j→A.off s j∨j=k:=by
  rintro j ((e|e|⟨i,hi,e⟩)|e)
  ·exact Or.inl (Or.inl (Or.inl e))
  ·exact Or.inl (Or.inl (Or.inr (Or.inl e)))
  ·rcases some_cases e with⟨_,rfl⟩|⟨_,e'⟩
   ·exact Or.inr rfl
   ·exact Or.inl (Or.inl (Or.inr (Or.inr ⟨i,hi,e'⟩)))
  ·exact Or.inl (Or.inr e)
 have nf:∀{q:Addr},¬A.off s q.block→q.block<w.heap.size→¬({ A with ka:=upd A.ka c (some k),la:=upd A.la c a',lc:=upd A.lc c n,lk:=upd A.lk c L }:Rs).off s q.block:=fun hn hl e=>(hoff _ e).elim hn (fun e=>by omega)
 have offs:∀{q:Addr},¬A.off s q.block→¬q.block=s:=fun hn e=>hn (by rw[e];exact Or.inl (Or.inl rfl))
 have hm1:zaR s p A (w1.setCell ⟨s,11+c,none⟩ (.pointer (some ⟨k,0,none⟩))):=h1.mem.turned hO (fun j e=>Or.inl (Or.inl e)) (fun j _ hne=>hne) (fun e=>h1.mem.sv.2 e.symm);refine⟨⟨?_,?_⟩,(zh.of_below (F:=A.foot s) hb).trans hO (fun j e=>Or.inl (by rw[e];exact Or.inl rfl)),?_,rfl,rfl,rfl,rfl⟩
 ·rw[zx h1.blk]
  congr 2
  obtain⟨x0,y,z,e⟩:=zgn h.mem.cl3;obtain⟨dev,ff,cl,hand,queue,turn,moment,tags,uses,dead,ag⟩:=p;simp only at e;subst e;obtain⟨xk,xp,xd,xl,xg,xe⟩:=x;obtain⟨hx1,hx2⟩:=hx;simp only at hx1 hx2;subst hx1 hx2
  match c,hc with
  |0,_=>rfl
  |1,_=>rfl
  |2,_=>rfl
 ·exact {
   cl3:=by show(p.cl.set c _).length=3;rw[List.length_set];exact h.mem.cl3
   drv:=hm1.drv
   tied:=hm1.tied
   busy:=hm1.busy
   map:=hm1.map
   im:=hm1.im
   nb:=hm1.nb
   wb:=hm1.wb
   hand:=hm1.hand
   hnil:=hm1.hnil
   hcap:=hm1.hcap
   queue:=hm1.queue
   qnil:=hm1.qnil
   qcap:=hm1.qcap
   asks:=fun i hi j hj=>by
    rcases some_cases hj with⟨rfl,rfl⟩|⟨hic,hj'⟩
    ·rw[zep h.mem.cl3 hi];show zcT _ j x (upd A.la i a' i) (upd A.lk i L i) (upd A.lc i n i);rw[zbg,zbg,zbg];exact hA.frame hO hks (fun hne q hq e=>by have:=(ho hne q hq).1;have:=h.lt;omega)
    ·rw[zbP p hic];show zcT _ j (p.client i) (upd A.la c a' i) (upd A.lk c L i) (upd A.lc c n i);rw[zbU hic,zbU hic,zbU hic];exact hm1.asks i hi j hj'
   idle:=fun i hi hj=>by
    have hj':upd A.ka c (some k) i=none:=hj
    by_cases e:i=c
    ·subst e;rw[zbg] at hj';cases hj'
    ·rw[zbP p e];rw[zbU e] at hj';exact h.mem.idle i hi hj'
   sv:=hm1.sv
   kv:=fun i hi j hj=>by
    rcases some_cases hj with⟨rfl,rfl⟩|⟨hic,hj'⟩
    ·exact⟨hks,fun e=>by have e':j=A.v:=e;have:=zi h.mem.drv.blk;omega,fun e=>by have:=h.mem.drv.footLt _ e;omega⟩
    ·exact h.mem.kv i hi j hj'
   kk:=fun i j hi hj hij m hm hm'=>by
    rcases some_cases hm with⟨rfl,rfl⟩|⟨hic,hm1'⟩<;>rcases some_cases hm' with⟨e1,e2⟩|⟨hjc,hm2⟩
    ·exact hij e1.symm
    ·have:=h.mem.askLt hj hm2;omega
    ·have:=h.mem.askLt hi hm1';omega
    ·exact h.mem.kk i j hi hj hij m hm1' hm2
   hoff:=fun hne q hq=>nf (h.mem.hoff hne q hq) (zhv h.mem.hand hne hq)
   qoff:=fun hne q hq=>nf (h.mem.qoff hne q hq) (zeD h.mem.queue hne hq)
   roff:=fun r hr=>by
    have hat:r.At w:=by
     rcases List.mem_append.1 hr with h'|h'
     ·exact h.mem.queue.2.1 r h'
     ·have:=h.mem.drv.dev.lrow.2.1 r (by rw[h.mem.busy];exact h');exact this
    exact⟨fun he ad ha=>nf ((h.mem.roff r hr).1 he ad ha) (zeI hat.data he ha),fun he ad ha=>nf ((h.mem.roff r hr).2 he ad ha) (zcQ hat.tags he ha)⟩
   loff:=fun i hi j hj hne q hq=>by
    rcases some_cases hj with⟨rfl,rfl⟩|⟨hic,hj'⟩
    ·have hne':upd A.lk i L i ≠ []:=hne;have hq':upd A.la i a' i=some q:=hq;rw[zbg] at hne' hq';obtain⟨g1,g2⟩:=ho hne' q hq';exact fun e=>(hoff _ e).elim (fun e=>by have:=h.offLt _ e;omega) g2
    ·have hne':upd A.lk c L i ≠ []:=hne;have hq':upd A.la c a' i=some q:=hq;rw[zbU hic] at hne' hq';exact nf (h.mem.loff i hi j hj' hne' q hq') (zcQ (h.mem.asks i hi j hj').ints hne' hq')
   doff:=fun hne q hq=>nf (h.mem.doff hne q hq) (zeD h.mem.drv.dev.lrow (by rw[h.mem.busy];exact hne) hq)
   xlt:=hm1.xlt }
 ·rintro j (e|e|⟨i,hi,e⟩)
  ·exact Or.inl (Or.inl e)
  ·exact Or.inl (Or.inr (Or.inl e))
  ·rcases some_cases e with⟨_,rfl⟩|⟨_,e'⟩
   ·exact Or.inr hk
   ·exact Or.inl (Or.inr (Or.inr ⟨i,hi,e'⟩))
end
def zgG(c:Cl):Prop:=c.err=0∨(0<c.err∧c.got=ByteArray.empty)
end Go.Proofs.YtlhgjplipgandaaGreatDoor
namespace Go.Proofs.YtlhgjplipgandaaGreatDoor
open Go.RowKit
def zt(p:Sk):Prop:=∀c∈p.cl,zgG c
theorem zhx(s:ByteArray):zgG ⟨0,0,ByteArray.empty,[],s,0⟩:=Or.inl rfl
theorem zkG(e:Int)(h:0<e):zgG ⟨0,0,ByteArray.empty,[],ByteArray.empty,e⟩:=Or.inr ⟨h,rfl⟩
section
variable{p:Sk}
theorem zt.client(h:zt p)(i:Nat):zgG (p.client i):=by
 unfold Sk.client;rw[List.getD_eq_getElem?_getD]
 cases e:p.cl[i]? with
 |none=>exact Or.inl rfl
 |some c=>exact h c (List.mem_of_getElem? e)
theorem zt.set{q:Sk}(h:zt p)(i:Nat)(x:Cl)(hx:zgG x)(hq:q.cl=p.cl.set i x):zt q:=fun c hc=>by
 rw[hq] at hc;exact(List.mem_or_eq_of_mem_set hc).elim (h c) (fun e=>e▸hx)
theorem zt.same{q:Sk}(h:zt p)(hq:q.cl=p.cl):zt q:=fun c hc=>h c (hq▸hc)
theorem zt.askQ(h:zt p)(pl:Int)(wr:Bool)(data:List ByteArray):zt (p.askQ pl wr data).2:=h.same (zkB p pl wr data)
theorem zt.serve1(h:zt p)(i:Nat):zt (p.serve1 i):=by
 unfold Sk.serve1
 split
 ·unfold Sk.serveRead
  split
  ·exact h.set i _ (zhx _) rfl
  ·split
   ·exact h
   ·exact h.askQ _ _ _
 split
 ·unfold Sk.serveWrite
  split
  ·exact h.set i _ (zkG 9 (by omega)) rfl
  split
  ·exact h
  split
  ·exact h.set i _ (zhx _) rfl
  ·exact h.same rfl
 split
 ·unfold Sk.serveSync
  split
  ·exact h.set i _ (zkG 9 (by omega)) rfl
  split
  ·exact h.set i _ (zhx _) rfl
  ·exact h.set i { p.client i with left:=(p.client i).left.filter (zS p.hand) } (h.client i) rfl
 ·exact h
theorem zt.serve(h:zt p):zt p.serve:=((h.serve1 0).serve1 1).serve1 2
theorem zt.ask(h:zt p)(c kind pl:Int)(data:ByteArray):zt (p.ask c kind pl data).2:=by
 unfold Sk.ask
 split
 ·exact h
 split
 ·exact h
 ·exact zt.serve (h.set (q:=p.asks c.toNat kind pl data) c.toNat { p.client c.toNat with kind:=kind,pl:=pl,data:=data,left:=if kind=3 then zah p.hand else(p.client c.toNat).left } (h.client c.toNat) rfl)
theorem zt.tick(h:zt p):zt p.tick:=zt.serve (h.same rfl)
theorem zt.clean(h:zt p):zt p.clean.2:=by
 unfold Sk.clean
 split
 ·exact h
 split
 ·exact h
 ·exact h.askQ _ _ _
theorem zt.dispatch(h:zt p):zt p.dispatch.2:=by
 unfold Sk.dispatch
 split
 ·exact h
 ·exact h.same rfl
theorem zt.dispatches(n:Nat):∀{p:Sk},zt p→zt (p.dispatches n):=by
 induction n with
 |zero=>exact fun h=>h
 |succ n ih =>
  intro p h;unfold Sk.dispatches
  split
  ·exact ih h.dispatch
  ·exact h
theorem zt.readers(h:zt p)(F:Int→Bool)(s:ByteArray)(e:Int)(he:e=0∨(0<e∧s=ByteArray.empty)):zt (p.readers F s e):=fun c hc=>by
 obtain⟨x,hx,rfl⟩:=List.mem_map.1 hc
 split
 ·exact he
 ·exact h x hx
theorem zt.wasRead(h:zt p)(pl:Int)(s:ByteArray):zt (p.wasRead pl s):=by
 unfold Sk.wasRead
 split
 ·exact h
 split
 ·exact zt.readers (p:={ p with hand:=_,uses:=p.uses+1 }) (h.same rfl) _ _ _ (Or.inl rfl)
 ·exact h.readers _ _ _ (Or.inl rfl)
theorem zt.wentOne(h:zt p)(r:Rq)(xs:List ByteArray)(j:Nat):zt (p.wentOne r xs j):=by
 unfold Sk.wentOne
 split
 ·exact h.same rfl
 ·exact h.wasRead _ _
theorem zt.wentTo(h:zt p)(r:Rq)(xs:List ByteArray):∀n,zt (p.wentTo r xs n)
 |0=>h
 |n+1=>by rw[zbl];exact(h.wentTo r xs n).wentOne r xs n
theorem zt.end'(h:zt p)(i:Int)(fault:Bool):zt (p.end' i fault).2:=by
 unfold Sk.end'
 split
 ·exact h
 split
 ·exact h
 split
 ·exact zt.serve (zt.wentTo (p:=(p.took i.toNat).did _) (h.same rfl) _ _ _)
 split
 ·exact h.same rfl
 split
 ·exact zt.serve (h.same rfl)
 ·exact zt.serve (zt.readers (h.same rfl) _ _ _ (Or.inr ⟨by omega,rfl⟩))
theorem zt.round(h:zt p):zt p.round:=(h.tick.clean.dispatches 3).end' 0 false
theorem zt.settle(n:Nat):∀{p:Sk},zt p→zt (p.settle n).2:=by
 induction n with
 |zero=>exact fun h=>h
 |succ n ih =>
  intro p h;unfold Sk.settle
  split
  ·exact h
  ·exact ih h.round
theorem zt.nf(h:zt p):zt p.nf:=h
theorem zt.of_nf(h:zt p.nf):zt p:=h
end
def zgF(c:Cl):Prop:=0≤c.err∧c.err≤100∧c.got.size≤4
def zD(p:Sk):Prop:=∀c∈p.cl,zgF c
theorem zdS(s:ByteArray)(e:Int)(hs:s.size≤4)(h:0≤e∧e≤100):zgF ⟨0,0,ByteArray.empty,[],s,e⟩:=⟨h.1,h.2,hs⟩
theorem zeU:zgF cl0:=zdS _ _ (by rw[zb5];omega) (by omega)
section
variable{p:Sk}
theorem zD.client(h:zD p)(i:Nat):zgF (p.client i):=by
 unfold Sk.client;rw[List.getD_eq_getElem?_getD]
 cases e:p.cl[i]? with
 |none=>exact zeU
 |some c=>exact h c (List.mem_of_getElem? e)
theorem zD.set{q:Sk}(h:zD p)(i:Nat)(x:Cl)(hx:zgF x)(hq:q.cl=p.cl.set i x):zD q:=fun c hc=>by
 rw[hq] at hc;exact(List.mem_or_eq_of_mem_set hc).elim (h c) (fun e=>e▸hx)
theorem zD.same{q:Sk}(h:zD p)(hq:q.cl=p.cl):zD q:=fun c hc=>h c (hq▸hc)
theorem zD.askQ(h:zD p)(pl:Int)(wr:Bool)(data:List ByteArray):zD (p.askQ pl wr data).2:=h.same (zkB p pl wr data)
theorem zD.serve1(hI:Inv p)(h:zD p)(i:Nat):zD (p.serve1 i):=by
 have e0:ByteArray.empty.size≤4:=by rw[zb5];omega
 unfold Sk.serve1
 split
 ·unfold Sk.serveRead
  split
  ·rename_i b hb
   exact h.set i _ (zdS b.data 0 (hI.hand.in' b (List.mem_of_find?_eq_some hb)).2.2 (by omega)) rfl
  ·split
   ·exact h
   ·exact h.askQ _ _ _
 split
 ·unfold Sk.serveWrite
  split
  ·exact h.set i _ (zdS _ 9 e0 (by omega)) rfl
  split
  ·exact h
  split
  ·exact h.set i _ (zdS _ 0 e0 (by omega)) rfl
  ·exact h.same rfl
 split
 ·unfold Sk.serveSync
  split
  ·exact h.set i _ (zdS _ 9 e0 (by omega)) rfl
  split
  ·exact h.set i _ (zdS _ 0 e0 (by omega)) rfl
  ·exact h.set i { p.client i with left:=(p.client i).left.filter (zS p.hand) } (h.client i) rfl
 ·exact h
theorem zD.serve(hI:Inv p)(h:zD p):zD p.serve:=zD.serve1 ((hI.serve1 0).serve1 1) (zD.serve1 (hI.serve1 0) (zD.serve1 hI h 0) 1) 2
theorem zD.ask(hI:Inv p)(h:zD p)(c kind pl:Int)(data:ByteArray):zD (p.ask c kind pl data).2:=by
 unfold Sk.ask
 by_cases hf:zY c kind pl data=0
 ·rw[if_neg (by simpa using hf)]
  split
  ·exact h
  ·have z:=zb9 hf;exact zD.serve (hI.asks c.toNat kind pl data z.2.1 z.2.2.1 z.2.2.2.2.1) (h.set (q:=p.asks c.toNat kind pl data) c.toNat { p.client c.toNat with kind:=kind,pl:=pl,data:=data,left:=if kind=3 then zah p.hand else(p.client c.toNat).left } (h.client c.toNat) rfl)
 ·rw[if_pos hf];exact h
theorem zD.tick(hI:Inv p)(h:zD p):zD p.tick:=zD.serve (zjE hI) (h.same rfl)
theorem zD.clean(h:zD p):zD p.clean.2:=by
 unfold Sk.clean
 split
 ·exact h
 split
 ·exact h
 ·exact h.askQ _ _ _
theorem zD.dispatch(h:zD p):zD p.dispatch.2:=by
 unfold Sk.dispatch
 split
 ·exact h
 ·exact h.same rfl
theorem zD.dispatches(n:Nat):∀{p:Sk},zD p→zD (p.dispatches n):=by
 induction n with
 |zero=>exact fun h=>h
 |succ n ih =>
  intro p h;unfold Sk.dispatches
  split
  ·exact ih h.dispatch
  ·exact h
theorem zD.readers(h:zD p)(F:Int→Bool)(s:ByteArray)(e:Int)(hs:s.size≤4)(he:0≤e∧e≤100):zD (p.readers F s e):=fun c hc=>by
 obtain⟨x,hx,rfl⟩:=List.mem_map.1 hc
 split
 ·exact zdS s e hs he
 ·exact h x hx
theorem zD.wasRead(h:zD p)(pl:Int)(s:ByteArray)(hs:s.size≤4):zD (p.wasRead pl s):=by
 unfold Sk.wasRead
 split
 ·exact h
 split
 ·exact zD.readers (p:={ p with hand:=_,uses:=p.uses+1 }) (h.same rfl) _ _ _ hs (by omega)
 ·exact h.readers _ _ _ hs (by omega)
theorem zD.wentOne(h:zD p)(r:Rq)(xs:List ByteArray)(hx:∀j,(xs.getD j ByteArray.empty).size≤4)(j:Nat):zD (p.wentOne r xs j):=by
 unfold Sk.wentOne
 split
 ·exact h.same rfl
 ·exact h.wasRead _ _ (hx j)
theorem zD.wentTo(h:zD p)(r:Rq)(xs:List ByteArray)(hx:∀j,(xs.getD j ByteArray.empty).size≤4):∀n,zD (p.wentTo r xs n)
 |0=>h
 |n+1=>by rw[zbl];exact(h.wentTo r xs hx n).wentOne r xs hx n
theorem zD.end'(hI:Inv p)(hs:zQ p.dev)(h:zD p)(i:Int)(fault:Bool):zD (p.end' i fault).2:=by
 rcases zd2 p i fault with⟨_,e⟩|⟨k,hk,_,⟨_,e⟩|⟨_,hf,e⟩|⟨_,_,_,e⟩|⟨_,_,_,e⟩⟩
 ·rw[e];exact h
 ·rw[e];have gr:=hI.good _ (List.mem_append_right _ (List.getElem_mem hk));have h1:zD ((p.took k).did p.dev.busy[k]):=h.same rfl;exact zD.serve (((hI.took k).did _).wentTo _ gr _ (zbw hs _) _ (Nat.le_refl _)) (h1.wentTo _ _ (zbw hs _) _)
 ·rw[e];exact h.same rfl
 ·rw[e];exact zD.serve ((hI.took k).lost _ _) (h.same rfl)
 ·rw[e];refine zD.serve (((hI.took k).lost' _).readers _ _ _) (zD.readers (h.same rfl) _ _ _ ?_ (by omega));rw[zb5];omega
theorem zD.round{n:Nat}(hf:Fit n p)(h:zD p):zD p.round :=
 zD.end' ((hf.tick.clean.dispatches 3).inv) ((hf.tick.clean.dispatches 3).short) ((zD.tick hf.inv h).clean.dispatches 3) 0 false
theorem zD.settle(m:Nat):∀{n:Nat} {p:Sk},Fit n p→zD p→zD (p.settle m).2:=by
 induction m with
 |zero=>exact fun _ h=>h
 |succ m ih =>
  intro n p hf h;unfold Sk.settle
  split
  ·exact h
  ·exact ih hf.round (zD.round hf h)
theorem zD.of_nf(h:zD p.nf):zD p:=h
theorem zjy:zD sk0:=fun c hc=>by
 rcases List.mem_cons.1 hc with rfl|hc
 ·exact zeU
 rcases List.mem_cons.1 hc with rfl|hc
 ·exact zeU
 rcases List.mem_cons.1 hc with rfl|hc
 ·exact zeU
 ·cases hc
theorem zD.pgot(h:zD p)(i:Nat):0≤(p.client i).err∧(p.client i).err≤100∧(p.client i).got.size≤1000:=by
 have:=h.client i;exact⟨this.1,this.2.1,by have:=this.2.2;omega⟩
end
end Go.Proofs.YtlhgjplipgandaaGreatDoor
namespace Go.Proofs.YtlhgjplipgandaaGreatDoor
open Go.RowKit Go.BigFrame Go.Maps
section
variable{s:Nat}{p:Sk}{A:Rs}{w w':World}
theorem zas.foreign(h:zas s p A w)(h':zas s p A w')(X':Nat→Prop)(hX:∀k,X' k→A.X k∨w.heap.size≤k)(hl:∀k,X' k→k<w'.heap.size):zas s p { A with X:=X' } w':=by
 have hO:∀k,({ A with X:=X' }:Rs).off s k→A.off s k∨w.heap.size≤k:=fun k hk=>by
  rcases hk with hk|hk
  ·exact Or.inl (Or.inl hk)
  ·exact(hX k hk).imp Or.inr id
 have nf:∀{k:Nat},¬A.off s k→k<w.heap.size→¬({ A with X:=X' }:Rs).off s k:=fun h1 h2 e=>(hO _ e).elim h1 (fun h3=>by omega)
 exact⟨h'.blk,{
  cl3:=h'.mem.cl3
  drv:=h'.mem.drv
  tied:=h'.mem.tied
  busy:=h'.mem.busy
  map:=h'.mem.map
  im:=h'.mem.im
  nb:=h'.mem.nb
  wb:=h'.mem.wb
  hand:=h'.mem.hand
  hnil:=h'.mem.hnil
  hcap:=h'.mem.hcap
  queue:=h'.mem.queue
  qnil:=h'.mem.qnil
  qcap:=h'.mem.qcap
  asks:=h'.mem.asks
  idle:=h'.mem.idle
  sv:=h'.mem.sv
  kv:=h'.mem.kv
  kk:=h'.mem.kk
  hoff:=fun hne q hq=>nf (h.mem.hoff hne q hq) (zhv h.mem.hand hne hq)
  qoff:=fun hne q hq=>nf (h.mem.qoff hne q hq) (zeD h.mem.queue hne hq)
  roff:=fun r hr=>by
   have hat:r.At w:=by
    rcases List.mem_append.1 hr with h2|h2
    ·exact h.mem.queue.2.1 r h2
    ·rw[←h.mem.busy] at h2;exact h.mem.drv.dev.lrow.2.1 r h2
   exact Rq.Off.step hat (h.mem.roff r hr) hO
  loff:=fun i hi k hk hne q hq=>nf (h.mem.loff i hi k hk hne q hq) (zcQ (h.mem.asks i hi k hk).ints hne hq)
  doff:=fun hne q hq=>nf (h.mem.doff hne q hq) (zeD h.mem.drv.dev.lrow (by rw[h.mem.busy];exact hne) hq)
  xlt:=hl }⟩
theorem zj.foreign{A:Sa}(h:zj s p A w)(h':zj s p A w')(X':Nat→Prop)(hX:∀k,X' k→A.X k∨w.heap.size≤k)(hl:∀k,X' k→k<w'.heap.size):zj s p { A with X:=X' } w':=by
 have hO:∀k,({ A with X:=X' }:Sa).off s k→A.off s k∨w.heap.size≤k:=fun k hk=>by
  rcases hk with hk|hk
  ·exact Or.inl (Or.inl hk)
  ·exact(hX k hk).imp Or.inr id
 have nf:∀{k:Nat},¬A.off s k→k<w.heap.size→¬({ A with X:=X' }:Sa).off s k:=fun h1 h2 e=>(hO _ e).elim h1 (fun h3=>by omega)
 exact⟨h'.blk,{
  drv:=h'.mem.drv
  map:=h'.mem.map
  im:=h'.mem.im
  nb:=h'.mem.nb
  hand:=h'.mem.hand
  hnil:=h'.mem.hnil
  hcap:=h'.mem.hcap
  queue:=h'.mem.queue
  qnil:=h'.mem.qnil
  qcap:=h'.mem.qcap
  left:=h'.mem.left
  sv:=h'.mem.sv
  vl:=h'.mem.vl
  ll:=h'.mem.ll
  hoffX:=fun hne q hq=>nf (h.mem.hoffX hne q hq) (zhv h.mem.hand hne hq)
  qoffX:=fun hne q hq=>nf (h.mem.qoffX hne q hq) (zeD h.mem.queue hne hq)
  roffX:=fun r hr=>by
   have hat:r.At w:=by
    rcases List.mem_append.1 hr with h2|h2
    ·exact h.mem.queue.2.1 r h2
    ·exact(h.mem.drv.dev.reqs r h2).1
   exact Rq.Off.step hat (h.mem.roffX r hr) hO
  xlt:=hl }⟩
end
end Go.Proofs.YtlhgjplipgandaaGreatDoor
