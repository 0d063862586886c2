/- Joined texts: Dev. -/
import Derived.Test.YtlhgjplipgandaaGreatDoorD11
import Derived.Test.YtlhgjplipgandaaGreatDoorD7
set_option maxRecDepth 100000
set_option maxHeartbeats 8000000
set_option linter.unusedSimpArgs false
namespace Go.Proofs.YtlhgjplipgandaaGreatDoor
open Go.RowKit
structure Wn where
 pl:Nat
 data:ByteArray
 bit:Nat
abbrev Wn.val(x:Wn):Value:=.agg #[.int .i64 x.pl,.string x.data,.int .i64 x.bit]
def Wn.key(x:Wn):Nat:=x.pl*64+x.bit
def zX(l:List Wn):List Value:=l.flatMap fun x=>[.int .i64 x.pl,.string x.data,.int .i64 x.bit]
theorem zdg(x:Wn)(l:List Wn):zX (x::l)=.int .i64 x.pl::.string x.data::.int .i64 x.bit::zX l:=rfl
theorem zby(l:List Wn):(zX l).length=l.length*3:=by
 induction l with
 |nil=>rfl
 |cons r l ih=>rw[zdg,List.length_cons,List.length_cons,List.length_cons,ih,List.length_cons];omega
theorem zfl(l l':List Wn):zX (l++l')=zX l++zX l':=by simp[zX]
theorem zfH(l:List Wn):∀(i:Nat) (h:i<l.length),(zX l)[i*3]?=some (.int .i64 l[i].pl)∧(zX l)[i*3+1]?=some (.string l[i].data)∧(zX l)[i*3+2]?=some (.int .i64 l[i].bit):=by
 induction l with
 |nil=>intro i h;exact absurd h (Nat.not_lt_zero _)
 |cons r l ih =>
  intro i h
  cases i with
  |zero=>exact⟨rfl,rfl,rfl⟩
  |succ i =>
   have:=ih i (by simpa using h);rw[zdg,show(i+1)*3=i*3+3 by omega];exact this
theorem zku(l:List Wn)(k:Nat):(zX l).take (k*3)=zX (l.take k):=by
 by_cases hk:k≤l.length
 ·have e:=zfl (l.take k) (l.drop k);rw[List.take_append_drop] at e;have hl:(zX (l.take k)).length=k*3:=by rw[zby,List.length_take,Nat.min_eq_left hk]
  rw[e,List.take_append_of_le_length (by omega),List.take_of_length_le (by omega)]
 ·rw[List.take_of_length_le (by rw[zby];omega),List.take_of_length_le (by omega)]
structure Dl where
 now:List ByteArray
 good:List ByteArray
 wr:List Wn
 next:Nat
 busy:List Rq
structure An where
 wa:Option Addr
 wc:Nat
 ba:Option Addr
 bc:Nat
def zab(l:List ByteArray):List Value:=l.map fun s=>.string s
def Dl.cells(d:Dl)(a:An):List Value:=zab d.now++zab d.good++[.slice a.wa d.wr.length a.wc,.int .i64 d.next,.slice a.ba d.busy.length a.bc]
def An.foot(a:An)(b:Nat)(k:Nat):Prop:=k=b∨(∃p,a.wa=some p∧k=p.block)∨(∃p,a.ba=some p∧k=p.block)
structure zo(b:Nat)(d:Dl)(a:An)(w:World):Prop where
 n32:d.now.length=32
 g32:d.good.length=32
 blk:w.heap[b]?=some (.cells (d.cells a).toArray 108 (0,0))
 wrow:w.ownsRow 0 213 3 (.slice a.wa d.wr.length a.wc) d.wr.length (zX d.wr)
 brow:w.ownsRow 0 146 6 (.slice a.ba d.busy.length a.bc) d.busy.length (zr d.busy)
 sepw:∀p,a.wa=some p→p.block ≠ b
 sepb:∀p,a.ba=some p→p.block ≠ b
 sepwb:∀p q,a.wa=some p→a.ba=some q→p.block ≠ q.block
 reqs:∀r∈d.busy,r.At w∧r.Off (a.foot b)
 wfin:∀x∈d.wr,x.pl<32∧x.bit<64
 nod:(d.wr.map Wn.key).Nodup
 blen:d.busy.length≤2
 nxt:d.next<64
structure zw(b:Nat)(d:Dl)(a:An)(d':Dl)(a':An)(w w':World):Prop where
 dev:zo b d' a' w'
 only:zh (a.foot b) w w'
 foot:∀k,a'.foot b k→a.foot b k∨w.heap.size≤k
theorem zw.trans{b:Nat}{d d' d'':Dl}{a a' a'':An}{w w' w'':World}(h:zw b d a d' a' w w')(k:zw b d' a' d'' a'' w' w''):zw b d a d'' a'' w w'' :=
 ⟨k.dev,h.only.trans k.only h.foot,fun i hi=>(k.foot i hi).elim (h.foot i) (fun h'=>Or.inr (Nat.le_trans h.only.size h'))⟩
theorem zn(l:List ByteArray):(zab l).length=l.length:=by simp[zab]
theorem Dl.cells_length{d:Dl}{a:An}(h1:d.now.length=32)(h2:d.good.length=32):(d.cells a).length=67:=by simp[Dl.cells,zn,h1,h2]
theorem Dl.cell64{d:Dl}{a:An}(h1:d.now.length=32)(h2:d.good.length=32):(d.cells a)[64]?=some (.slice a.wa d.wr.length a.wc):=by
 rw[Dl.cells,List.getElem?_append_right (by simp[zn,h1,h2])];simp[zn,h1,h2]
theorem Dl.cell65{d:Dl}{a:An}(h1:d.now.length=32)(h2:d.good.length=32):(d.cells a)[65]?=some (.int .i64 d.next):=by
 rw[Dl.cells,List.getElem?_append_right (by simp[zn,h1,h2])];simp[zn,h1,h2]
theorem Dl.cell66{d:Dl}{a:An}(h1:d.now.length=32)(h2:d.good.length=32):(d.cells a)[66]?=some (.slice a.ba d.busy.length a.bc):=by
 rw[Dl.cells,List.getElem?_append_right (by simp[zn,h1,h2])];simp[zn,h1,h2]
theorem Dl.cellNow{d:Dl}{a:An}(h1:d.now.length=32)(k:Nat)(hk:k<32):(d.cells a)[k]?=some (.string (d.now.getD k ByteArray.empty)):=by
 rw[Dl.cells,List.append_assoc,List.getElem?_append_left (by rw[zn];omega)]
 simp[zab,List.getElem?_eq_getElem (show k<d.now.length by omega)]
theorem zjl:∀(n:Nat) (l:List Nat),l.Nodup→(∀x∈l,x<n)→l.length≤n
 |0,l,_,h=>by
  cases l with
  |nil=>simp
  |cons x l=>exact absurd (h x (by simp)) (Nat.not_lt_zero _)
 |n+1,l,hn,h=>by
  have h1:=zjl n (l.erase n) (hn.erase n) (fun x hx=>by
   have:=h x (List.mem_of_mem_erase hx);have hne:=(hn.mem_erase_iff).1 hx
   omega)
  have h2:l.length-1≤(l.erase n).length:=by rw[List.length_erase];split<;>omega
  omega
section
variable{b:Nat}{d:Dl}{a:An}{w:World}
theorem zo.wlen(h:zo b d a w):d.wr.length≤2048:=by
 have:=zjl 2048 _ h.nod (fun x hx=>by
  obtain⟨y,hy,rfl⟩:=List.mem_map.1 hx;have:=h.wfin y hy;unfold Wn.key;omega)
 simpa using this
theorem zo.c64(h:zo b d a w):w.cell? ⟨b,64,none⟩=some (.slice a.wa d.wr.length a.wc):=by rw[zk h.blk];exact Dl.cell64 h.n32 h.g32
theorem zo.c65(h:zo b d a w):w.cell? ⟨b,65,none⟩=some (.int .i64 d.next):=by rw[zk h.blk];exact Dl.cell65 h.n32 h.g32
theorem zo.c66(h:zo b d a w):w.cell? ⟨b,66,none⟩=some (.slice a.ba d.busy.length a.bc):=by rw[zk h.blk];exact Dl.cell66 h.n32 h.g32
theorem zo.cNow(h:zo b d a w)(k:Nat)(hk:k<32):w.cell? ⟨b,k,none⟩=some (.string (d.now.getD k ByteArray.empty)):=by rw[zk h.blk];exact Dl.cellNow h.n32 k hk
theorem zo.fz(h:zo b d a w)(j:Nat):w.frozen? ⟨b,j,none⟩=false:=zK h.blk j
theorem zo.lt(h:zo b d a w):b<w.heap.size:=zi h.blk
theorem zo.wlt(h:zo b d a w)(p:Addr)(hp:a.wa=some p):p.block<w.heap.size:=(h.wrow.lt p.block (by rw[hp];rfl)).2
theorem zo.blt(h:zo b d a w)(p:Addr)(hp:a.ba=some p):p.block<w.heap.size:=(h.brow.lt p.block (by rw[hp];rfl)).2
theorem zo.footLt(h:zo b d a w)(k:Nat)(hk:a.foot b k):k<w.heap.size:=by
 rcases hk with rfl|⟨p,hp,rfl⟩|⟨p,hp,rfl⟩
 ·exact h.lt
 ·exact h.wlt p hp
 ·exact h.blt p hp
theorem zo.frame{F:Nat→Prop}{w':World}(h:zo b d a w)(hk:zh F w w')(hF:∀k,a.foot b k→¬F k)(hr:∀r∈d.busy,r.Off F):zo b d a w' where
 n32:=h.n32
 g32:=h.g32
 blk:=by rw[hk.block b h.lt (hF b (Or.inl rfl))];exact h.blk
 wrow:=zad h.wrow fun g hg=>by
  have hl:=h.wrow.lt g hg
  cases hp:a.wa with
  |none=>rw[hp] at hg;cases hg
  |some p =>
   rw[hp] at hg;simp only[Value.ownBlock,Option.some.injEq] at hg;subst hg;exact hk.block _ hl.2 (hF _ (Or.inr (Or.inl ⟨p,hp,rfl⟩)))
 brow:=zad h.brow fun g hg=>by
  have hl:=h.brow.lt g hg
  cases hp:a.ba with
  |none=>rw[hp] at hg;cases hg
  |some p =>
   rw[hp] at hg;simp only[Value.ownBlock,Option.some.injEq] at hg;subst hg;exact hk.block _ hl.2 (hF _ (Or.inr (Or.inr ⟨p,hp,rfl⟩)))
 sepw:=h.sepw
 sepb:=h.sepb
 sepwb:=h.sepwb
 reqs:=fun r hr'=>⟨(h.reqs r hr').1.frame (hr r hr') hk,(h.reqs r hr').2⟩
 wfin:=h.wfin
 nod:=h.nod
 blen:=h.blen
 nxt:=h.nxt
theorem zo.later{w':World}(h:zo b d a w)(hk:Below w.heap.size w w'):zo b d a w' :=
 h.frame (F:=fun _=>False) (zh.of_below hk) (fun _ _ e=>e) (fun _ _=>⟨fun _ _ _ e=>e,fun _ _ _ e=>e⟩)
theorem zo.alloc(h:zo b d a w)(o:Obj):zo b d a (w.alloc o):=h.later (zs w o)
theorem zo.reqsAt(h:zo b d a w):zm w a.ba d.busy:=by
 have hl:d.busy.length≤9223372036854775807:=by have:=h.blen;omega
 obtain⟨a',c',hv,hR,_⟩:=zdt h.brow (fun r hr=>(h.reqs r hr).1) rfl (by omega);simp only[Value.slice.injEq,true_and] at hv;rw[hv.1];exact hR
end
end Go.Proofs.YtlhgjplipgandaaGreatDoor
