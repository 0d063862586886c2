/- Joined texts: Only, Acts, Steps. -/
import Derived.Deep.MidRow
import Derived.Test.YtlhgjplipgandaaGreatDoorD4
import Derived.Test.YtlhgjplipgandaaGreatDoorD10
set_option maxRecDepth 100000
set_option maxHeartbeats 8000000
set_option linter.unusedSimpArgs false
namespace Go.Proofs.YtlhgjplipgandaaGreatDoor
open Go.RowKit
structure zh(F:Nat→Prop)(w w':World):Prop where
 os:w'.os=w.os
 tape:w'.tape=w.tape
 output:w'.output=w.output
 size:w.heap.size≤w'.heap.size
 block:∀k,k<w.heap.size→¬F k→w'.heap[k]?=w.heap[k]?
theorem zh.refl(F:Nat→Prop)(w:World):zh F w w:=⟨rfl,rfl,rfl,Nat.le_refl _,fun _ _ _=>rfl⟩
theorem zh.trans{F F':Nat→Prop}{a b c:World}(h:zh F a b)(k:zh F' b c)(hF:∀i,F' i→F i∨a.heap.size≤i):zh F a c :=
 ⟨k.os.trans h.os,k.tape.trans h.tape,k.output.trans h.output,Nat.le_trans h.size k.size,fun i hi hn =>
  (k.block i (Nat.lt_of_lt_of_le hi h.size) (fun e=>(hF i e).elim hn (fun h'=>by omega))).trans (h.block i hi hn)⟩
theorem zh.mono{F F':Nat→Prop}{a b:World}(h:zh F a b)(hF:∀i,F i→F' i):zh F' a b :=
 ⟨h.os,h.tape,h.output,h.size,fun i hi hn=>h.block i hi (fun e=>hn (hF i e))⟩
theorem zh.of_below{F:Nat→Prop}{a b:World}(h:Below a.heap.size a b):zh F a b:=⟨h.os,h.tape,h.output,h.size,fun i hi _=>h.block i hi⟩
theorem zh.below{F:Nat→Prop}{a b:World}{B:Nat}(h:zh F a b)(hB:B≤a.heap.size)(hF:∀i,F i→B≤i):Below B a b :=
 ⟨h.os,h.tape,h.output,h.size,fun i hi=>h.block i (by omega) (fun e=>by have:=hF i e;omega)⟩
theorem zh.grown{F:Nat→Prop}{a b c:World}{row:Option Nat}(h:zh F a b)(hg:b.grownBy c row)(hr:∀k,row=some k→F k∨a.heap.size≤k):zh F a c :=
 h.trans (F':=fun i=>row=some i) ⟨hg.os,hg.tape,hg.output,hg.size,fun k hk hn=>hg.block k hk (fun e=>hn e.symm)⟩ (fun i e=>hr i e)
theorem zh.alloc{F:Nat→Prop}{a b:World}(h:zh F a b)(o:Obj):zh F a (b.alloc o) :=
 h.trans (F':=fun _=>False) ⟨rfl,rfl,rfl,by simp,fun k hk _=>Below.heap_alloc _ _ _ hk⟩ (fun _ e=>e.elim)
theorem zh.drew{F:Nat→Prop}{a b:World}(h:zh F a b):zh F a b.drew:=⟨h.os,h.tape,h.output,h.size,h.block⟩
theorem zh.setCell{F:Nat→Prop}{a b:World}(h:zh F a b)(p:Addr)(hp:F p.block∨a.heap.size≤p.block)(u:Value):zh F a (b.setCell p u) :=
 h.trans (F':=fun i=>i=p.block) ⟨rfl,rfl,rfl,by simp[World.setCell],fun k _ hn=>Below.heap_setCell _ _ _ _ hn⟩ (fun i e=>by subst e;exact hp)
theorem zh.later{F:Nat→Prop}{a b c:World}(h:zh F a b)(k:Below b.heap.size b c):zh F a c:=h.trans (F':=fun _=>False) (zh.of_below k) (fun _ e=>e.elim)
theorem zh.cell{F:Nat→Prop}{a b:World}(h:zh F a b){p:Addr}(hp:p.block<a.heap.size)(hn:¬F p.block):b.cell? p=a.cell? p:=World.cell?_of_block (w:=a) (h.block p.block hp hn)
theorem zh.frozen{F:Nat→Prop}{a b:World}(h:zh F a b){p:Addr}(hp:p.block<a.heap.size)(hn:¬F p.block):b.frozen? p=a.frozen? p:=World.frozen?_of_block (w:=a) (h.block p.block hp hn)
theorem zx{w:World}{b:Nat}{cs:List Value}{T:TypeId}(h:w.heap[b]?=some (.cells cs.toArray T (0,0)))(j:Nat)(u:Value):(w.setCell ⟨b,j,none⟩ u).heap[b]?=some (.cells (cs.set j u).toArray T (0,0)):=by
 simp only[World.setCell,Array.getElem?_modify]
 simp[h]
theorem zcs{w:World}{b k:Nat}(j:Nat)(u:Value)(hk:k ≠ b):(w.setCell ⟨b,j,none⟩ u).heap[k]?=w.heap[k]?:=Below.heap_setCell _ _ _ _ hk
theorem zi{w:World}{b:Nat}{o:Obj}(h:w.heap[b]?=some o):b<w.heap.size:=by
 rcases Nat.lt_or_ge b w.heap.size with h'|h'
 ·exact h'
 ·rw[Array.getElem?_eq_none h'] at h;cases h
theorem zk{w:World}{b:Nat}{cs:List Value}{T:TypeId}(h:w.heap[b]?=some (.cells cs.toArray T (0,0)))(j:Nat):w.cell? ⟨b,j,none⟩=cs[j]?:=by simp[World.cell?,h]
theorem zK{w:World}{b:Nat}{cs:List Value}{T:TypeId}(h:w.heap[b]?=some (.cells cs.toArray T (0,0)))(j:Nat):w.frozen? ⟨b,j,none⟩=false:=by simp[World.frozen?,h]
theorem zdu(b:Nat)(T:TypeId):∀(vs:List Value) (o:Nat) (cs:List Value) (w:World),w.heap[b]?=some (.cells cs.toArray T (0,0))→o+vs.length≤cs.length→(w.setCells b o vs).heap[b]?=some (.cells (splice cs o vs).toArray T (0,0))
 |[],o,cs,w,h,_=>by rw[zdG];exact h
 |v::r,o,cs,w,h,hl=>by
  have hl':o+1+r.length≤(cs.set o v).length:=by simp at hl ⊢;omega
  have:=zdu b T r (o+1) (cs.set o v) _ (zx h o v) hl';rw[World.setCells,this]
  congr 3
  have ho:o<cs.length:=by simp at hl;omega
  simp only[splice];rw[List.set_eq_take_append_cons_drop,if_pos ho];have e:(cs.take o).length=o:=by rw[List.length_take];omega
  simp only[List.length_cons];rw[List.take_append,e,List.take_of_length_le (by omega:(cs.take o).length≤o+1),show o+1-o=1 by omega,List.take_succ_cons,List.take_zero,List.drop_append,e,List.drop_eq_nil_of_le (by omega:(cs.take o).length≤o+1+r.length),show o+1+r.length-o=r.length+1 by omega,List.drop_succ_cons,List.drop_drop]
  simp[Nat.add_comm,Nat.add_left_comm]
theorem zfk{F:Nat→Prop}{a:World}(b:Nat)(hb:F b∨a.heap.size≤b):∀(vs:List Value) (o:Nat) (w:World),zh F a w→zh F a (w.setCells b o vs)
 |[],_,_,h=>h
 |v::r,o,w,h=>by rw[World.setCells];exact zfk b hb r (o+1) _ (h.setCell _ hb v)
theorem zad{w w':World}{base e size n:Nat}{v:Value}{xs:List Value}(h:w.ownsRow base e size v n xs)(hk:∀g,v.ownBlock=some g→w'.heap[g]?=w.heap[g]?):w'.ownsRow base e size v n xs:=by
 refine⟨h.1,h.2.elim Or.inl ?_⟩;rintro⟨g,cap,cur,rfl,hg,hh,r⟩;exact Or.inr ⟨g,cap,cur,rfl,hg,by rw[hk g rfl];exact hh,r⟩
theorem zoI{P:Program}(w:World)(base:Nat)(t ty e:TypeId)(i:TypeInfo)(z:Value)(size bytes:Nat)(ht:P.underlying t=some (.slice e))(hi:P.info? e=some i)(hz:i.zero=some z)
 (hsize:i.size=size) (hby:i.bytes=bytes) (hzs:z.cells.size=size) (hsz:0<size)
 (v:Value) (n:Nat) (xs:List Value) (hown:w.ownsRow base e size v n xs)
 (a:Addr) (m c:Nat) (news:List Value) (hl:news.length=m*size) (hnews:∀j u,news[j]?=some u→w.cell? (a.add j)=some u) (h1:∀u∈news,u.oneCell'=true) (hm:0<m)
 (h63:n+m≤maxLen) (hbytes:(n+m)*bytes≤140737488355328) (hbase:base≤w.heap.size) :
 ∃v' w',(Builtin.append_ #[t,t] ty #[v,.slice (some a) m c]).run P w=.ok v' w'∧w'.ownsRow base e size v' (n+m) (xs++news)∧w.grownBy w' v.ownBlock∧(v'.ownBlock=v.ownBlock∨v'.ownBlock=some w.heap.size):=by
 obtain⟨v',w',hrun,r1,r2,r3⟩:=run_append_own (P:=P) w base t ty e i z size bytes ht hi hz hsize hby hzs hsz v n xs hown a m c news hl hnews h1 h63 hbytes hbase;refine⟨v',w',hrun,r1,r2,?_⟩;subst hsize;subst hby;have hsmall:n+m≤9223372036854775807:=by simp only[maxLen] at h63;omega
 rcases hown.2 with⟨rfl,rfl⟩|⟨g,cap,cur,rfl,hbg,hg,hnc,hcm,hcs,htake⟩
 ·right
  have hr:=run_append_nil (P:=P) w t ty e i z ht hi hz a m c news hl hnews (by omega) (by omega) (by have hb:=hbytes;simp only[Nat.zero_add] at hb;omega);rw[hr] at hrun;simp only[Result.ok.injEq] at hrun;rw[←hrun.1];rfl
 ·by_cases hroom:n+m≤cap
  ·left
   have hfit:n*i.size+news.length≤cur.size:=by rw[hl,hcs,←Nat.add_mul];exact Nat.mul_le_mul_right _ hroom
   have hr:=run_append_room (P:=P) w t ty e i ht hi g n cap cur hg a m c news hl hnews h1 hroom hfit;rw[hr] at hrun;simp only[Result.ok.injEq] at hrun;rw[←hrun.1];rfl
  ·right
   have holds:∀j u,xs[j]?=some u→w.cell? ((⟨g,0,none⟩:Addr).add j)=some u:=hown.cells (g:=g) rfl;have hr:=run_append_grow (P:=P) w t ty e i z ht hi hz ⟨g,0,none⟩ n cap xs hown.1 holds a m c news hl hnews (by omega) (by omega) (growslice_fits (by omega) hbytes);rw[hr] at hrun;simp only[Result.ok.injEq] at hrun;rw[←hrun.1];rfl
theorem zfF{P:Program}{ops:Array Oper}{o:Oper}{a:Act}{w:World}{K:Act→World→Prop}{Q:Exit→Act→World→Prop}{E:Prop}(hgd:o.guard=none)(s x:Operand)(t:TypeId)
 (hop:o.op=.call { callee:=.builtin .append,args:=#[s,x],argTypes:=#[t,t] }) (base:Nat) (e:TypeId) (i:TypeInfo) (z:Value) (size bytes:Nat) (ht:P.underlying t=some (.slice e)) (hi:P.info? e=some i) (hz:i.zero=some z)
 (hsize:i.size=size) (hby:i.bytes=bytes) (hzs:z.cells.size=size) (hsz:0<size)
 (v:Value) (n:Nat) (xs:List Value) (hs:a.eval s=v) (hown:w.ownsRow base e size v n xs)
 (ad:Addr) (m c:Nat) (news:List Value) (hx:a.eval x=.slice (some ad) m c) (hl:news.length=m*size) (hnews:∀j u,news[j]?=some u→w.cell? (ad.add j)=some u) (h1:∀u∈news,u.oneCell'=true) (hm:0<m)
 (h63:n+m≤maxLen) (hbytes:(n+m)*bytes≤140737488355328) (hbase:base≤w.heap.size)
 (h:∀v' w',w'.ownsRow base e size v' (n+m) (xs++news)→w.grownBy w' v.ownBlock→(v'.ownBlock=v.ownBlock∨v'.ownBlock=some w.heap.size)→K (a.put o.dst v') w') :
 if Region.wanted o (yielded ops a.tmps)=true then Oper.wp P o a w K Q else E:=by
 have hw:Region.wanted o (yielded ops a.tmps)=true:=by simp[Region.wanted,hgd]
 rw[if_pos hw];obtain⟨v',w',hrun,r1,r2,r3⟩:=zoI (P:=P) w base t o.type e i z size bytes ht hi hz hsize hby hzs hsz v n xs hown ad m c news hl hnews h1 hm h63 hbytes hbase;unfold Oper.wp
 simp[execOp,hop,resolve,invoke,builtin,hs,hx,hrun,Result.andThen]
 exact h v' w' r1 r2 r3
theorem zbq{w:World}{base e size n:Nat}{v:Value}{xs:List Value}(h:w.ownsRow base e size v n xs):∃a c,v=.slice a n c∧(a=none→c=0)∧(∀ad,a=some ad→∃g,ad=⟨g,0,none⟩)∧c≤9223372036854775807∧n≤c:=by
 rcases h.2 with⟨rfl,rfl⟩|⟨g,cap,cur,rfl,hg,hh,hnc,hcm,_⟩
 ·exact⟨none,0,rfl,fun _=>rfl,by simp,by simp,by simp⟩
 ·exact⟨_,cap,rfl,by simp,fun ad e=>⟨g,by simpa using e.symm⟩,by unfold maxLen at hcm;omega,hnc⟩
def Rq.Off(F:Nat→Prop)(r:Rq):Prop:=(r.data ≠ []→∀a,r.da=some a→¬F a.block)∧(r.tags ≠ []→∀a,r.ta=some a→¬F a.block)
theorem zb6{F:Nat→Prop}{w w':World}{a:Option Addr}{xs:List ByteArray}(h:zP w a xs)(hk:zh F w w')(hn:xs ≠ []→∀ad,a=some ad→¬F ad.block):zP w' a xs:=by
 rcases h with h|⟨b,o,ha,hc⟩
 ·exact Or.inl h
 ·by_cases he:xs=[]
  ·exact Or.inl he
  ·refine Or.inr ⟨b,o,ha,fun i hi=>?_⟩;rw[hk.cell (p:=⟨b,o+i,none⟩) (zg (hc i hi)) (hn he ⟨b,o,none⟩ ha)];exact hc i hi
theorem ze0{F:Nat→Prop}{w w':World}{a:Option Addr}{xs:List Int}(h:zax w a xs)(hk:zh F w w')(hn:xs ≠ []→∀ad,a=some ad→¬F ad.block):zax w' a xs:=by
 rcases h with h|⟨b,o,ha,hc⟩
 ·exact Or.inl h
 ·by_cases he:xs=[]
  ·exact Or.inl he
  ·refine Or.inr ⟨b,o,ha,fun i hi=>?_⟩;rw[hk.cell (p:=⟨b,o+i,none⟩) (zg (hc i hi)) (hn he ⟨b,o,none⟩ ha)];exact hc i hi
theorem Rq.At.frame{F:Nat→Prop}{w w':World}{r:Rq}(h:r.At w)(ho:r.Off F)(hk:zh F w w'):r.At w' :=
 ⟨zb6 h.data hk ho.1,ze0 h.tags hk ho.2,h.dl,h.tl,h.f,h.m,h.born,h.dn,h.tn⟩
theorem zeI{w:World}{a:Option Addr}{xs:List ByteArray}(h:zP w a xs)(he:xs ≠ []){ad:Addr}(ha:a=some ad):ad.block<w.heap.size:=by
 rcases h with h|⟨b,o,ha',hc⟩
 ·exact absurd h he
 ·rw[ha] at ha';simp only[Option.some.injEq] at ha';subst ha';have:0<xs.length:=List.length_pos_iff.2 he;exact zg (hc 0 this)
theorem zcQ{w:World}{a:Option Addr}{xs:List Int}(h:zax w a xs)(he:xs ≠ []){ad:Addr}(ha:a=some ad):ad.block<w.heap.size:=by
 rcases h with h|⟨b,o,ha',hc⟩
 ·exact absurd h he
 ·rw[ha] at ha';simp only[Option.some.injEq] at ha';subst ha';have:0<xs.length:=List.length_pos_iff.2 he;exact zg (hc 0 this)
theorem Rq.Off.step{F F':Nat→Prop}{w:World}{r:Rq}(h:r.At w)(ho:r.Off F)(hF:∀k,F' k→F k∨w.heap.size≤k):r.Off F' :=
 ⟨fun he a ha hk=>(hF _ hk).elim (ho.1 he a ha) (fun h'=>by have:=zeI h.data he ha;omega),fun he a ha hk=>(hF _ hk).elim (ho.2 he a ha) (fun h'=>by have:=zcQ h.tags he ha;omega)⟩
end Go.Proofs.YtlhgjplipgandaaGreatDoor
namespace Go.Proofs.YtlhgjplipgandaaGreatDoor
open Go.RowKit Go.BigFrame
attribute [local go_sem] ze.cell ze.frozen
structure Ac where
 kind:ByteArray
 req:Rq
 n:Int
 k:Int
def Ac.cell(x:Ac):Nat→Value
 |0=>.string x.kind
 |1=>.bool x.req.wr
 |2=>.int .i64 x.req.f
 |3=>.int .i64 x.req.m
 |4=>.slice x.req.da x.req.data.length x.req.dc
 |5=>.slice x.req.ta x.req.tags.length x.req.tc
 |6=>.int .i64 x.req.born
 |7=>.int .i64 x.n
 |_=>.int .u64 x.k
abbrev Ac.val(x:Ac):Value:=.agg #[.string x.kind,.bool x.req.wr,.int .i64 x.req.f,.int .i64 x.req.m,.slice x.req.da x.req.data.length x.req.dc,.slice x.req.ta x.req.tags.length x.req.tc,.int .i64 x.req.born,.int .i64 x.n,.int .u64 x.k]
def zdO(w:World)(a:Option Addr)(l:List Ac):Prop :=
 (l=[]∨∃b o,a=some ⟨b,o,none⟩∧∀i (h:i<l.length) j,j<9→w.cell? ⟨b,o+i*9+j,none⟩=some (l[i].cell j))∧(∀x∈l,x.req.At w)∧l.length≤9223372036854775807
theorem zdO.later{w w':World}{a:Option Addr}{l:List Ac}(h:zdO w a l)(hb:Below w.heap.size w w'):zdO w' a l:=by
 obtain⟨h1,h2,h3⟩:=h;refine⟨?_,fun r hr=>(h2 r hr).later hb,h3⟩
 rcases h1 with h|⟨b,o,ha,hc⟩
 ·exact Or.inl h
 ·exact Or.inr ⟨b,o,ha,fun i hi j hj=>cell_later' hb (hc i hi j hj)⟩
theorem zdO.form{w:World}{a:Option Addr}{l:List Ac}(h:zdO w a l):l=[]∨∃b o,a=some ⟨b,o,none⟩:=by
 rcases h.1 with h|⟨b,o,ha,_⟩
 ·exact Or.inl h
 ·exact Or.inr ⟨b,o,ha⟩
theorem zdO.cells{w:World}{b o:Nat}{l:List Ac}(h:zdO w (some ⟨b,o,none⟩) l){i:Nat}(hi:i<l.length) :
 w.cell? ⟨b,o+i*9,none⟩=some (.string l[i].kind)∧w.cell? ⟨b,o+i*9+1,none⟩=some (.bool l[i].req.wr)∧w.cell? ⟨b,o+i*9+2,none⟩=some (.int .i64 l[i].req.f)∧w.cell? ⟨b,o+i*9+3,none⟩=some (.int .i64 l[i].req.m)∧w.cell? ⟨b,o+i*9+4,none⟩=some (.slice l[i].req.da l[i].req.data.length l[i].req.dc)∧w.cell? ⟨b,o+i*9+5,none⟩=some (.slice l[i].req.ta l[i].req.tags.length l[i].req.tc)∧w.cell? ⟨b,o+i*9+6,none⟩=some (.int .i64 l[i].req.born)∧w.cell? ⟨b,o+i*9+7,none⟩=some (.int .i64 l[i].n)∧w.cell? ⟨b,o+i*9+8,none⟩=some (.int .u64 l[i].k):=by
 rcases h.1 with rfl|⟨b',o',ha,hc⟩
 ·exact absurd hi (Nat.not_lt_zero _)
 ·simp only[Option.some.injEq,Addr.mk.injEq,and_true] at ha;obtain⟨rfl,rfl⟩:=ha;exact⟨hc i hi 0 (by omega),hc i hi 1 (by omega),hc i hi 2 (by omega),hc i hi 3 (by omega),hc i hi 4 (by omega),hc i hi 5 (by omega),hc i hi 6 (by omega),hc i hi 7 (by omega),hc i hi 8 (by omega)⟩
structure Sp where
 word:ByteArray
 a:Int
 b:Int
 data:ByteArray
def Sp.cell(x:Sp):Nat→Value
 |0=>.string x.word
 |1=>.int .i64 x.a
 |2=>.int .i64 x.b
 |_=>.string x.data
abbrev Sp.val(x:Sp):Value:=.agg #[.string x.word,.int .i64 x.a,.int .i64 x.b,.string x.data]
def zc7(w:World)(a:Option Addr)(l:List Sp):Prop :=
 (l=[]∨∃b o,a=some ⟨b,o,none⟩∧∀i (h:i<l.length) j,j<4→w.cell? ⟨b,o+i*4+j,none⟩=some (l[i].cell j))∧l.length≤9223372036854775807
theorem zc7.later{w w':World}{a:Option Addr}{l:List Sp}(h:zc7 w a l)(hb:Below w.heap.size w w'):zc7 w' a l:=by
 obtain⟨h1,h3⟩:=h;refine⟨?_,h3⟩
 rcases h1 with h|⟨b,o,ha,hc⟩
 ·exact Or.inl h
 ·exact Or.inr ⟨b,o,ha,fun i hi j hj=>cell_later' hb (hc i hi j hj)⟩
theorem zc7.form{w:World}{a:Option Addr}{l:List Sp}(h:zc7 w a l):l=[]∨∃b o,a=some ⟨b,o,none⟩:=by
 rcases h.1 with h|⟨b,o,ha,_⟩
 ·exact Or.inl h
 ·exact Or.inr ⟨b,o,ha⟩
theorem zc7.cells{w:World}{b o:Nat}{l:List Sp}(h:zc7 w (some ⟨b,o,none⟩) l){i:Nat}(hi:i<l.length) :
 w.cell? ⟨b,o+i*4,none⟩=some (.string l[i].word)∧w.cell? ⟨b,o+i*4+1,none⟩=some (.int .i64 l[i].a)∧w.cell? ⟨b,o+i*4+2,none⟩=some (.int .i64 l[i].b)∧w.cell? ⟨b,o+i*4+3,none⟩=some (.string l[i].data):=by
 rcases h.1 with rfl|⟨b',o',ha,hc⟩
 ·exact absurd hi (Nat.not_lt_zero _)
 ·simp only[Option.some.injEq,Addr.mk.injEq,and_true] at ha;obtain⟨rfl,rfl⟩:=ha;exact⟨hc i hi 0 (by omega),hc i hi 1 (by omega),hc i hi 2 (by omega),hc i hi 3 (by omega)⟩
end Go.Proofs.YtlhgjplipgandaaGreatDoor
