/- Joined texts: Part, Dev, Dev1. -/
import Derived.Lib.SliceRun
import Derived.Deep.RegionLaw
import Derived.Deep.QuietTactic
import Derived.BigQuiet
import Derived.Deep.RegionHeld
import Derived.OrdersHeld
import Derived.Test.YtlhgjplipgandaaGreatB5
set_option maxRecDepth 100000
set_option maxHeartbeats 8000000
set_option linter.unusedSimpArgs false
namespace Go.Proofs.YtlhgjplipgandaaGreat
open Go.RowKit Go.BigFrame
attribute [local go_sem] ze.cell ze.frozen
abbrev zaI(r:Rq)(xa:Option Addr)(n xc:Nat)(er:Int):Value:=.agg #[.bool r.wr,.int .i64 r.f,.int .i64 r.m,.slice r.da r.data.length r.dc,.slice r.ta r.tags.length r.tc,.int .i64 r.born,.slice xa n xc,.int .i64 er]
theorem zni(r:Rq)(xa:Option Addr)(n xc:Nat)(er p:Int)(w:World)(h:zam r.f r.m p=false) :
  Calls Tryz.prog 98 #[zaI r xa n xc er,.int .i64 p] w fun e w'=>e=.returned (.tuple #[.string ⟨#[]⟩,.bool false])∧Below w.heap.size w w':=by
 obtain⟨wr,f,m,da,dc,data,ta,tc,tags,born⟩:=r;simp only at h;go_enter Tryz.func98,Tryz.ntmps98;go_wp2_with fail
 go_at_call 85;refine(zdJ _ _ _ _ _ h).mono ?_;rintro e w1 ⟨rfl,hb⟩;(try clear hc hf hz);(first|replace HB:=zb HB hb|replace HB:=zb (zd HB) hb|have HB:=hb);clear hb;obtain⟨hc,hf,hz⟩:=zu HB
 go_wp2
 go_ret2
 exact⟨rfl,by(with_reducible repeat first|exact Below.refl _ _|refine zc ?_ _|refine zd ?_|refine bset' ?_ (by omega) _|refine zb ?_ (by assumption))⟩
theorem ziS(r:Rq)(xs:List ByteArray)(xa:Option Addr)(xc:Nat)(er p:Int)(w:World)(hx:zU w xa xs)(h:zam r.f r.m p=true)(k:Nat)(hk:wrap64 (p-r.f)=k)(hn:k<xs.length)(s:ByteArray)(hs:xs.getD k ByteArray.empty=s) :
  Calls Tryz.prog 98 #[zaI r xa xs.length xc er,.int .i64 p] w fun e w'=>e=.returned (.tuple #[.string s,.bool true])∧Below w.heap.size w w':=by
 rcases hx with rfl|⟨b,o,rfl,hcx⟩
 ·exact absurd hn (Nat.not_lt_zero _)
 have c0:=hcx k hn;have hlb:=zg c0;rw[hs] at c0;clear hcx hs;obtain⟨wr,f,m,da,dc,data,ta,tc,tags,born⟩:=r;simp only at h hk;have hn1:¬(xs.length:Int)≤(k:Int):=by omega
 go_enter Tryz.func98,Tryz.ntmps98;go_wp2_with fail
 go_at_call 85;refine(zdJ _ _ _ _ _ h).mono ?_;rintro e w1 ⟨rfl,hb⟩;(try clear hc hf hz);(first|replace HB:=zb HB hb|replace HB:=zb (zd HB) hb|have HB:=hb);clear hb;obtain⟨hc,hf,hz⟩:=zu HB
 have c1:w1.cell? ⟨b,o+k,none⟩=some (.string s):=by rw[hc _ _ (by simp;omega),World.cell?_alloc_lt _ _ _ hlb];exact c0
 go_wp2
 go_ret2
 exact⟨rfl,by(with_reducible repeat first|exact Below.refl _ _|refine zc ?_ _|refine zd ?_|refine bset' ?_ (by omega) _|refine zb ?_ (by assumption))⟩
end Go.Proofs.YtlhgjplipgandaaGreat
namespace Go.Proofs.YtlhgjplipgandaaGreat
open Go.RowKit
structure Wn where
 pl:Nat
 data:ByteArray
 bit:Nat
abbrev Wn.val(x:Wn):Value:=.agg #[.int .i64 x.pl,.string x.data,.int .i64 x.bit]
def Wn.key(x:Wn):Nat:=x.pl*64+x.bit
def zaC(l:List Wn):List Value:=l.flatMap fun x=>[.int .i64 x.pl,.string x.data,.int .i64 x.bit]
theorem zd1(x:Wn)(l:List Wn):zaC (x::l)=.int .i64 x.pl::.string x.data::.int .i64 x.bit::zaC l:=rfl
theorem zb4(l:List Wn):(zaC l).length=l.length*3:=by
 induction l with
 |nil=>rfl
 |cons r l ih=>rw[zd1,List.length_cons,List.length_cons,List.length_cons,ih,List.length_cons];omega
theorem zgk(l l':List Wn):zaC (l++l')=zaC l++zaC l':=by simp[zaC]
theorem zgn(l:List Wn):∀(i:Nat) (h:i<l.length),(zaC l)[i*3]?=some (.int .i64 l[i].pl)∧(zaC l)[i*3+1]?=some (.string l[i].data)∧(zaC l)[i*3+2]?=some (.int .i64 l[i].bit):=by
 induction l with
 |nil=>intro i h;exact absurd h (Nat.not_lt_zero _)
 |cons r l ih =>
  intro i h
  cases i with
  |zero=>exact⟨rfl,rfl,rfl⟩
  |succ i =>
   have:=ih i (by simpa using h);rw[zd1,show(i+1)*3=i*3+3 by omega];exact this
theorem zlS(l:List Wn)(k:Nat):(zaC l).take (k*3)=zaC (l.take k):=by
 by_cases hk:k≤l.length
 ·have e:=zgk (l.take k) (l.drop k);rw[List.take_append_drop] at e;have hl:(zaC (l.take k)).length=k*3:=by rw[zb4,List.length_take,Nat.min_eq_left hk]
  rw[e,List.take_append_of_le_length (by omega),List.take_of_length_le (by omega)]
 ·rw[List.take_of_length_le (by rw[zb4];omega),List.take_of_length_le (by omega)]
structure Dl where
 now:List ByteArray
 good:List ByteArray
 wr:List Wn
 next:Nat
 busy:List Rq
structure An where
 wa:Option Addr
 wc:Nat
 ba:Option Addr
 bc:Nat
def zaG(l:List ByteArray):List Value:=l.map fun s=>.string s
def Dl.cells(d:Dl)(a:An):List Value:=zaG d.now++zaG d.good++[.slice a.wa d.wr.length a.wc,.int .i64 d.next,.slice a.ba d.busy.length a.bc]
def An.foot(a:An)(b:Nat)(k:Nat):Prop:=k=b∨(∃p,a.wa=some p∧k=p.block)∨(∃p,a.ba=some p∧k=p.block)
structure zM(b:Nat)(d:Dl)(a:An)(w:World):Prop where
 n32:d.now.length=32
 g32:d.good.length=32
 blk:w.heap[b]?=some (.cells (d.cells a).toArray 63 (0,0))
 wrow:w.ownsRow 0 199 3 (.slice a.wa d.wr.length a.wc) d.wr.length (zaC d.wr)
 brow:w.ownsRow 0 111 6 (.slice a.ba d.busy.length a.bc) d.busy.length (zt d.busy)
 sepw:∀p,a.wa=some p→p.block ≠ b
 sepb:∀p,a.ba=some p→p.block ≠ b
 sepwb:∀p q,a.wa=some p→a.ba=some q→p.block ≠ q.block
 reqs:∀r∈d.busy,r.At w∧r.Off (a.foot b)
 wfin:∀x∈d.wr,x.pl<32∧x.bit<64
 nod:(d.wr.map Wn.key).Nodup
 blen:d.busy.length≤2
 nxt:d.next<64
structure zY(b:Nat)(d:Dl)(a:An)(d':Dl)(a':An)(w w':World):Prop where
 dev:zM b d' a' w'
 only:zo (a.foot b) w w'
 foot:∀k,a'.foot b k→a.foot b k∨w.heap.size≤k
theorem zY.trans{b:Nat}{d d' d'':Dl}{a a' a'':An}{w w' w'':World}(h:zY b d a d' a' w w')(k:zY b d' a' d'' a'' w' w''):zY b d a d'' a'' w w'' :=
 ⟨k.dev,h.only.trans k.only h.foot,fun i hi=>(k.foot i hi).elim (h.foot i) (fun h'=>Or.inr (Nat.le_trans h.only.size h'))⟩
theorem zC(l:List ByteArray):(zaG l).length=l.length:=by simp[zaG]
theorem Dl.cells_length{d:Dl}{a:An}(h1:d.now.length=32)(h2:d.good.length=32):(d.cells a).length=67:=by simp[Dl.cells,zC,h1,h2]
theorem Dl.cell64{d:Dl}{a:An}(h1:d.now.length=32)(h2:d.good.length=32):(d.cells a)[64]?=some (.slice a.wa d.wr.length a.wc):=by
 rw[Dl.cells,List.getElem?_append_right (by simp[zC,h1,h2])];simp[zC,h1,h2]
theorem Dl.cell65{d:Dl}{a:An}(h1:d.now.length=32)(h2:d.good.length=32):(d.cells a)[65]?=some (.int .i64 d.next):=by
 rw[Dl.cells,List.getElem?_append_right (by simp[zC,h1,h2])];simp[zC,h1,h2]
theorem Dl.cell66{d:Dl}{a:An}(h1:d.now.length=32)(h2:d.good.length=32):(d.cells a)[66]?=some (.slice a.ba d.busy.length a.bc):=by
 rw[Dl.cells,List.getElem?_append_right (by simp[zC,h1,h2])];simp[zC,h1,h2]
theorem Dl.cellNow{d:Dl}{a:An}(h1:d.now.length=32)(k:Nat)(hk:k<32):(d.cells a)[k]?=some (.string (d.now.getD k ByteArray.empty)):=by
 rw[Dl.cells,List.append_assoc,List.getElem?_append_left (by rw[zC];omega)]
 simp[zaG,List.getElem?_eq_getElem (show k<d.now.length by omega)]
theorem zkL:∀(n:Nat) (l:List Nat),l.Nodup→(∀x∈l,x<n)→l.length≤n
 |0,l,_,h=>by
  cases l with
  |nil=>simp
  |cons x l=>exact absurd (h x (by simp)) (Nat.not_lt_zero _)
 |n+1,l,hn,h=>by
  have h1:=zkL n (l.erase n) (hn.erase n) (fun x hx=>by
   have:=h x (List.mem_of_mem_erase hx);have hne:=(hn.mem_erase_iff).1 hx
   omega)
  have h2:l.length-1≤(l.erase n).length:=by rw[List.length_erase];split<;>omega
  omega
section
variable{b:Nat}{d:Dl}{a:An}{w:World}
theorem zM.wlen(h:zM b d a w):d.wr.length≤2048:=by
 have:=zkL 2048 _ h.nod (fun x hx=>by
  obtain⟨y,hy,rfl⟩:=List.mem_map.1 hx;have:=h.wfin y hy;unfold Wn.key;omega)
 simpa using this
theorem zM.c64(h:zM b d a w):w.cell? ⟨b,64,none⟩=some (.slice a.wa d.wr.length a.wc):=by rw[zy h.blk];exact Dl.cell64 h.n32 h.g32
theorem zM.c65(h:zM b d a w):w.cell? ⟨b,65,none⟩=some (.int .i64 d.next):=by rw[zy h.blk];exact Dl.cell65 h.n32 h.g32
theorem zM.c66(h:zM b d a w):w.cell? ⟨b,66,none⟩=some (.slice a.ba d.busy.length a.bc):=by rw[zy h.blk];exact Dl.cell66 h.n32 h.g32
theorem zM.cNow(h:zM b d a w)(k:Nat)(hk:k<32):w.cell? ⟨b,k,none⟩=some (.string (d.now.getD k ByteArray.empty)):=by rw[zy h.blk];exact Dl.cellNow h.n32 k hk
theorem zM.fz(h:zM b d a w)(j:Nat):w.frozen? ⟨b,j,none⟩=false:=zac h.blk j
theorem zM.lt(h:zM b d a w):b<w.heap.size:=zz h.blk
theorem zM.wlt(h:zM b d a w)(p:Addr)(hp:a.wa=some p):p.block<w.heap.size:=(h.wrow.lt p.block (by rw[hp];rfl)).2
theorem zM.blt(h:zM b d a w)(p:Addr)(hp:a.ba=some p):p.block<w.heap.size:=(h.brow.lt p.block (by rw[hp];rfl)).2
theorem zM.footLt(h:zM b d a w)(k:Nat)(hk:a.foot b k):k<w.heap.size:=by
 rcases hk with rfl|⟨p,hp,rfl⟩|⟨p,hp,rfl⟩
 ·exact h.lt
 ·exact h.wlt p hp
 ·exact h.blt p hp
theorem zM.frame{F:Nat→Prop}{w':World}(h:zM b d a w)(hk:zo F w w')(hF:∀k,a.foot b k→¬F k)(hr:∀r∈d.busy,r.Off F):zM b d a w' where
 n32:=h.n32
 g32:=h.g32
 blk:=by rw[hk.block b h.lt (hF b (Or.inl rfl))];exact h.blk
 wrow:=zau h.wrow fun g hg=>by
  have hl:=h.wrow.lt g hg
  cases hp:a.wa with
  |none=>rw[hp] at hg;cases hg
  |some p =>
   rw[hp] at hg;simp only[Value.ownBlock,Option.some.injEq] at hg;subst hg;exact hk.block _ hl.2 (hF _ (Or.inr (Or.inl ⟨p,hp,rfl⟩)))
 brow:=zau h.brow fun g hg=>by
  have hl:=h.brow.lt g hg
  cases hp:a.ba with
  |none=>rw[hp] at hg;cases hg
  |some p =>
   rw[hp] at hg;simp only[Value.ownBlock,Option.some.injEq] at hg;subst hg;exact hk.block _ hl.2 (hF _ (Or.inr (Or.inr ⟨p,hp,rfl⟩)))
 sepw:=h.sepw
 sepb:=h.sepb
 sepwb:=h.sepwb
 reqs:=fun r hr'=>⟨(h.reqs r hr').1.frame (hr r hr') hk,(h.reqs r hr').2⟩
 wfin:=h.wfin
 nod:=h.nod
 blen:=h.blen
 nxt:=h.nxt
theorem zM.later{w':World}(h:zM b d a w)(hk:Below w.heap.size w w'):zM b d a w' :=
 h.frame (F:=fun _=>False) (zo.of_below hk) (fun _ _ e=>e) (fun _ _=>⟨fun _ _ _ e=>e,fun _ _ _ e=>e⟩)
theorem zM.alloc(h:zM b d a w)(o:Obj):zM b d a (w.alloc o):=h.later (zn w o)
theorem zM.reqsAt(h:zM b d a w):zs w a.ba d.busy:=by
 have hl:d.busy.length≤9223372036854775807:=by have:=h.blen;omega
 obtain⟨a',c',hv,hR,_⟩:=zdb h.brow (fun r hr=>(h.reqs r hr).1) rfl (by omega);simp only[Value.slice.injEq,true_and] at hv;rw[hv.1];exact hR
end
end Go.Proofs.YtlhgjplipgandaaGreat
namespace Go.Proofs.YtlhgjplipgandaaGreat
open Go.RowKit Go.BigFrame
attribute [local go_sem] ze.cell ze.frozen
def d0:Dl:=⟨List.replicate 32 ByteArray.empty,List.replicate 32 ByteArray.empty,[],0,[]⟩
def an0:An:=⟨none,0,none,0⟩
theorem d0_at(w:World)(b:Nat)(h:w.heap[b]?=some (.cells (d0.cells an0).toArray 63 (0,0))):zM b d0 an0 w where
 n32:=rfl
 g32:=rfl
 blk:=h
 wrow:=World.ownsRow_nil _ _ _ _
 brow:=World.ownsRow_nil _ _ _ _
 sepw:=fun p hp=>by cases hp
 sepb:=fun p hp=>by cases hp
 sepwb:=fun p q hp=>by cases hp
 reqs:=fun r hr=>by cases hr
 wfin:=fun r hr=>by cases hr
 nod:=by simp[d0]
 blen:=by simp[d0]
 nxt:=by simp[d0]
theorem zg9(w:World):Calls Tryz.prog 8 #[] w fun e w'=>e=.returned (.pointer (some ⟨w.heap.size,0,none⟩))∧zM w.heap.size d0 an0 w'∧Below w.heap.size w w'∧w'.heap.size=w.heap.size+1:=by
 have hz:∀w',Sem.run Tryz.prog (zeroValue 63) w'=.ok (.agg (d0.cells an0).toArray) w':=fun _=>rfl
 go_enter Tryz.func8,Tryz.ntmps8;go_wp2;go_ret;refine⟨rfl,d0_at _ _ ?_,zn _ _,by simp⟩;rw[heap_alloc_new]
theorem rowAll{w:World}{a:Option Addr}{c:Nat}{l:List Rq}(h:zs w a l)(hn:a=none→c=0):zaW w 6 a l.length c (zt l):=by
 rcases h.1 with rfl|⟨b,o,rfl,hc⟩
 ·cases a with
  |none=>exact⟨rfl,by simp[zt],Or.inl ⟨rfl,rfl,hn rfl⟩⟩
  |some ad=>exact⟨rfl,by simp[zt],Or.inr ⟨ad,rfl,fun j u h=>by simp[zt] at h⟩⟩
 ·refine⟨zbf l,zdy l,Or.inr ⟨_,rfl,fun k u hk=>?_⟩⟩;obtain⟨i,j,hi,hj,rfl,rfl⟩:=zen hk;rw[add_mk',←hc i hi j hj]
  congr 2
  omega
theorem zo3(l:List Rq)(a:Option Addr)(c:Nat)(w:World)(hl:zs w a l)(hn:a=none→c=0)(h10:l.length≤100000) :
  Calls Tryz.prog 71 #[.slice a l.length c] w fun e w'=>∃a' c',e=.returned (.slice a' l.length c')∧zs w' a' l∧(a'=none→c'=0)∧Below w.heap.size w w':=by
 obtain⟨i,hi,hz0,hz1,hz2⟩:=zaL zdX;have R:=rowAll hl hn;have q22:∀(w:World) (a:Option Addr) (n c n' c':Nat),(binOp .eql 34 (.slice a n c) (.slice none n' c')).run Tryz.prog w=.ok (.bool a.isNone) w:=fun w a n c n' c'=>Lib.run_eql_slice_nil w _ _ a n c n' c' Tryz.underlying34
 cases a with
 |none =>
  obtain rfl:=hn rfl;have hl0:l=[]:=by
   rcases hl.form with h|⟨b,o,h⟩
   ·exact h
   ·cases h
  subst hl0;go_enter Tryz.func71,Tryz.ntmps71;go_wp2;go_ret;exact⟨none,0,rfl,⟨Or.inl rfl,by simp,by simp⟩,fun _=>rfl,by(with_reducible repeat first|exact Below.refl _ _|refine zc ?_ _|refine zd ?_|refine bset' ?_ (by omega) _|refine zb ?_ (by assumption))⟩
 |some ad =>
  have HL:Hid (l.length≤100000):=h10;go_enter Tryz.func71,Tryz.ntmps71;go_wp2_with(at_builtin;refine zq rfl _ _ 34 rfl w.heap.size 111 i _ 6 80 Tryz.underlying34 hi hz0 hz1 hz2 rfl (by decide) _ 0 [] rfl (World.ownsRow_made _ _ _ (Nat.le_refl _) (by unfold maxLen;omega) (by simp)) (some ad) l.length c (zt l) rfl (R.later (by(with_reducible repeat first|exact Below.refl _ _|refine zc ?_ _|refine zd ?_|refine bset' ?_ (by omega) _|refine zb ?_ (by assumption)))) (by unfold maxLen;omega) (by omega) (by simp) ?_;intro v1 w2 hown1 hb1);rw[Nat.zero_add,List.nil_append] at hown1;obtain⟨a',c',rfl,hR,_,_,hnn,_⟩:=zdb hown1 (fun r hr=>(hl.2.1 r hr).later ((zc (Below.refl _ _) _).trans hb1)) rfl (by omega);go_wp2;go_ret;exact⟨a',c',rfl,hR,hnn,(zc (Below.refl _ _) _).trans hb1⟩
theorem zM.bnil{b:Nat}{d:Dl}{a:An}{w:World}(h:zM b d a w):a.ba=none→a.bc=0:=by
 obtain⟨x,c,hv,h1,_⟩:=zba h.brow;simp only[Value.slice.injEq,true_and] at hv;obtain⟨rfl,rfl⟩:=hv;exact h1
theorem zga(b:Nat)(d:Dl)(a:An)(w:World)(h:zM b d a w) :
  Calls Tryz.prog 72 #[.pointer (some ⟨b,0,none⟩)] w fun e w'=>∃a' c',e=.returned (.slice a' d.busy.length c')∧zs w' a' d.busy∧(a'=none→c'=0)∧Below w.heap.size w w':=by
 have c:=h.c66;have hb:=h.blen;go_enter Tryz.func72,Tryz.ntmps72;go_wp2_with fail;refine(zo3 d.busy a.ba a.bc _ h.reqsAt h.bnil (by omega)).mono ?_;rintro e w1 ⟨a',c',rfl,hR,hn,hb1⟩;go_wp2;go_ret;exact⟨a',c',rfl,hR,hn,hb1⟩
theorem zmH(d:Dl)(a:An)(l:List Rq)(x:Option Addr)(c:Nat)(h1:d.now.length=32)(h2:d.good.length=32):(d.cells a).set 66 (.slice x l.length c)=({ d with busy:=l }:Dl).cells { a with ba:=x,bc:=c }:=by
 rw[Dl.cells,List.set_append_right _ _ (by simp[zC,h1,h2])]
 simp[zC,h1,h2,Dl.cells]
theorem zF{a:Option Addr}{n c:Nat}{g:Nat}:(Value.slice a n c).ownBlock=some g↔∃p,a=some p∧g=p.block:=by
 cases a with
 |none=>simp[Value.ownBlock]
 |some p=>simp[Value.ownBlock,eq_comm]
theorem zY.drewAt{b:Nat}{d d':Dl}{a a':An}{w w':World}(h:zY b d a d' a' w w'):zY b d a d' a' w w'.drew:=⟨h.dev.later (Below.refl _ _).drew,h.only.drew,h.foot⟩
theorem zM.busied{b:Nat}{d:Dl}{a:An}{w w2 w3:World}(h:zM b d a w)(hb:Below w.heap.size w w2)(l:List Rq)(hl2:l.length≤2)(hr:∀r∈l,r.At w∧r.Off (a.foot b)){v:Value}
  (hown:w3.ownsRow 0 111 6 v l.length (zt l)) (hg:w2.grownBy w3 (Value.slice a.ba d.busy.length a.bc).ownBlock) (hv:∀g,v.ownBlock=some g→(∃p,a.ba=some p∧g=p.block)∨w2.heap.size≤g) :
  ∃x c,v=.slice x l.length c∧zY b d a { d with busy:=l } { a with ba:=x,bc:=c } w (w3.setCell ⟨b,66,none⟩ v):=by
 obtain⟨x,c,rfl,_⟩:=zba hown;have hs2:=hb.size;have nb:some b ≠ (Value.slice a.ba d.busy.length a.bc).ownBlock:=fun e=>by
  obtain⟨p,hp,e'⟩:=zF.1 e.symm;exact h.sepb p hp e'.symm
 have hlt:=h.lt;have e3:w3.heap[b]?=some (.cells (d.cells a).toArray 63 (0,0)):=by
  rw[hg.block b (by omega) nb,hb.block b hlt];exact h.blk
 have xb:∀p,x=some p→p.block ≠ b:=fun p hp e=>by
  rcases hv p.block (zF.2 ⟨p,hp,rfl⟩) with⟨q,hq,e'⟩|h'
  ·exact h.sepb q hq (by omega)
  ·omega
 have hon:zo (a.foot b) w (w3.setCell ⟨b,66,none⟩ (.slice x l.length c)):=by
  refine((zo.of_below hb).grown hg (fun k hk=>Or.inl ?_)).setCell _ (Or.inl (Or.inl rfl)) _;obtain⟨p,hp,e⟩:=zF.1 hk;exact Or.inr (Or.inr ⟨p,hp,e⟩)
 have hft:∀k,({ a with ba:=x,bc:=c }:An).foot b k→a.foot b k∨w.heap.size≤k:=by
  rintro k (rfl|⟨p,hp,rfl⟩|⟨p,hp,rfl⟩)
  ·exact Or.inl (Or.inl rfl)
  ·exact Or.inl (Or.inr (Or.inl ⟨p,hp,rfl⟩))
  ·rcases hv p.block (zF.2 ⟨p,hp,rfl⟩) with⟨q,hq,e'⟩|h'
   ·exact Or.inl (Or.inr (Or.inr ⟨q,hq,e'⟩))
   ·exact Or.inr (by omega)
 refine⟨x,c,rfl,⟨?_,hon,hft⟩⟩;exact {
  n32:=h.n32
  g32:=h.g32
  blk:=by rw[zK e3,zmH d a l x c h.n32 h.g32]
  wrow:=zau h.wrow fun g hg'=>by
   obtain⟨p,hp,rfl⟩:=zF.1 hg';have hpl:=h.wlt p hp;rw[zb8 _ _ (h.sepw p hp),hg.block _ (by omega) (fun e=>?_),hb.block _ hpl];obtain⟨q,hq,e'⟩:=zF.1 e.symm;exact h.sepwb p q hp hq e'
  brow:=zau hown fun g hg'=>by
   obtain⟨p,hp,rfl⟩:=zF.1 hg';exact zb8 _ _ (xb p hp)
  sepw:=h.sepw
  sepb:=xb
  sepwb:=fun p q hp hq e=>by
   rcases hv q.block (zF.2 ⟨q,hq,rfl⟩) with⟨q',hq',e'⟩|h'
   ·exact h.sepwb p q' hp hq' (by omega)
   ·have:=h.wlt p hp;omega
  reqs:=fun r hr'=>⟨(hr r hr').1.frame (hr r hr').2 hon,(hr r hr').2.step (hr r hr').1 hft⟩
  wfin:=h.wfin
  nod:=h.nod
  blen:=hl2
  nxt:=h.nxt }
theorem zdW{w:World}{n:Nat}(hn:w.heap.size=n)(vs:List Value)(T:TypeId)(j:Nat)(u:Value)(h:vs[j]?=some u):(w.alloc (.cells vs.toArray T)).cell? (Addr.add ⟨n,0,none⟩ j)=some u:=by
 subst hn;rw[Addr.add_mid,Nat.zero_add];exact(zy (heap_alloc_new w (.cells vs.toArray T)) j).trans h
theorem zM.kept66{b:Nat}{d:Dl}{a:An}{w w2 w3:World}(h:zM b d a w)(hb:Below w.heap.size w w2)(hg:w2.grownBy w3 (Value.slice a.ba d.busy.length a.bc).ownBlock):w3.cell? ⟨b,66,none⟩=some (.slice a.ba d.busy.length a.bc)∧w3.frozen? ⟨b,66,none⟩=false∧b<w3.heap.size:=by
 have hs2:=hb.size;have hs3:=hg.size;have nb:some b ≠ (Value.slice a.ba d.busy.length a.bc).ownBlock:=fun e=>by
  obtain⟨p,hp,e'⟩:=zF.1 e.symm;exact h.sepb p hp e'.symm
 have hlt:=h.lt;have e3:w3.heap[b]?=some (.cells (d.cells a).toArray 63 (0,0)):=by
  rw[hg.block b (by omega) nb,hb.block b hlt];exact h.blk
 exact⟨by rw[zy e3];exact Dl.cell66 h.n32 h.g32,zac e3 66,zz e3⟩
theorem zmp(l:List Rq)(r:Rq):zt (l++[r])=zt l++[.bool r.wr,.int .i64 r.f,.int .i64 r.m,.slice r.da r.data.length r.dc,.slice r.ta r.tags.length r.tc,.int .i64 r.born]:=by rw[zaM];rfl
theorem zlk(b:Nat)(d:Dl)(a:An)(r:Rq)(w:World)(h:zM b d a w)(h2:d.busy.length<2)(hr:r.At w)(ho:r.Off (a.foot b)) :
  Calls Tryz.prog 93 #[.pointer (some ⟨b,0,none⟩),r.val] w fun e w'=>∃a',e=.returned .nilIface∧zY b d a { d with busy:=d.busy++[r] } a' w w':=by
 obtain⟨i,hi,hz0,hz1,hz2⟩:=zaL zdX;have HI:=za (⟨hi,hz0,hz1,hz2⟩:Tryz.prog.info? 111=some i∧_∧_∧_);have c:=h.c66;have hl:=h.lt;have h3:¬(2:Int)≤(d.busy.length:Int):=by omega
 have HD:=za h;have HR:=za (⟨hr,ho⟩:r.At w∧r.Off (a.foot b));clear h hr ho hi hz0 hz1 hz2;go_enter Tryz.func93,Tryz.ntmps93;go_wp2_with fail
 go_region_law (refine ze9 rfl (.tmp 16) (.tmp 18) 34 rfl 0 111 i _ 6 80 Tryz.underlying34 HI.out.1 HI.out.2.1 HI.out.2.2.1 HI.out.2.2.2 rfl (by decide) (.slice a.ba d.busy.length a.bc) d.busy.length (zt d.busy) (by simp[Act.eval]) (HD.out.later (by(with_reducible repeat first|exact Below.refl _ _|refine zc ?_ _|refine zd ?_|refine bset' ?_ (by omega) _|refine zb ?_ (by assumption)))).brow ⟨w.heap.size+1,0,none⟩ 1 1 [.bool r.wr,.int .i64 r.f,.int .i64 r.m,.slice r.da r.data.length r.dc,.slice r.ta r.tags.length r.tc,.int .i64 r.born] (by simp[Act.eval]) rfl (fun j u hj=>zdW (by simp) _ _ j u hj) (by simp[Value.oneCell']) (by omega) (by unfold maxLen;omega) (by omega) (Nat.zero_le _) ?_;intro v' w3 hown hg hv;obtain⟨x,cx,rfl,-⟩:=zba hown;obtain⟨c3,f3,l3⟩:=HD.out.kept66 (by(with_reducible repeat first|exact Below.refl _ _|refine zc ?_ _|refine zd ?_|refine bset' ?_ (by omega) _|refine zb ?_ (by assumption))) hg;have HG:=za (⟨hown,hg,hv⟩:_∧_∧_);clear hown hg hv)
 all_goals
  obtain⟨hown,hg,hv⟩:=HG.out;obtain⟨x',c',e',hst⟩:=HD.out.busied (w2:=_) (by(with_reducible repeat first|exact Below.refl _ _|refine zc ?_ _|refine zd ?_|refine bset' ?_ (by omega) _|refine zb ?_ (by assumption))) (d.busy++[r]) (by simp;omega) (fun q hq=>by
   rcases List.mem_append.1 hq with hq|hq
   ·exact HD.out.reqs q hq
   ·obtain rfl:=List.mem_singleton.1 hq;exact HR.out) (by rw[zmp,List.length_append];exact hown) hg (fun g hg'=>by
   rcases hv with hv|hv
   ·rw[hv] at hg';exact Or.inl (zF.1 hg')
   ·rw[hv] at hg';exact Or.inr (by simpa using Nat.le_of_eq (Option.some.inj hg')))
  have HST:=za hst;clear hown hg hv hst e';go_wp2;go_ret;exact⟨_,rfl,HST.out⟩
end Go.Proofs.YtlhgjplipgandaaGreat
namespace Go.Proofs.YtlhgjplipgandaaGreat
open Go.RowKit
theorem zj5{P:Program}(w:World)(t ty e:TypeId)(k:Nat)(g n cap:Nat)(sp:Option Addr)(m c:Nat)(cur:List Value)(tr:TypeId)(cs:List Value)
  (hu:P.underlying t=some (.slice e)) (hs:(P.info? e).map (·.size)=some k) (hg:w.heap[g]?=some (.cells cur.toArray tr (0,0))) (hn:cs.length=m*k) (hroom:n+m≤cap)
  (hpos:0<cs.length→∃ad,sp=some ad∧∀j v,cs[j]?=some v→w.cell? (ad.add j)=some v)
  (hfit:n*k+cs.length≤cur.length) (h1:∀v∈cs,v.oneCell'=true) :
  ∃w',(Builtin.append_ #[t,t] ty #[.slice (some ⟨g,0,none⟩) n cap,.slice sp m c]).run P w=.ok (.slice (some ⟨g,0,none⟩) (n+m) cap) w'∧w'.heap[g]?=some (.cells (splice cur (n*k) cs).toArray tr (0,0))∧w.grownBy w' (some g):=by
 obtain⟨i,hq,hi⟩:∃i,P.info? e=some i∧i.size=k:=by
  cases hq:P.info? e with
  |none=>simp[hq] at hs
  |some i=>exact⟨i,rfl,by simpa [hq] using hs⟩
 have hadd:(Addr.add ⟨g,0,none⟩ (n*k))=⟨g,n*k,none⟩:=by
  unfold Addr.add;split
  ·rename_i h;rw[h]
  ·simp
 by_cases h0:cs.length=0
 ·obtain rfl:cs=[]:=List.eq_nil_of_length_eq_zero h0;refine⟨w,?_,by rw[zeu];exact hg,⟨rfl,rfl,rfl,Nat.le_refl _,fun _ _ _=>rfl⟩⟩;have hm:m*k=0:=by simpa using hn.symm
  have hl:∀a,(loadCells a 0).run P w=.ok #[] w:=fun a=>by simpa using run_loadCells_list (P:=P) w a [] (by simp)
  cases sp<;>simp[Builtin.append_,run_underlying hu,Builtin.lenOf,Builtin.firstCells,sizeOf,typeInfo,hq,hi,hm,hl,hroom,storeCells]
 ·obtain⟨ad,rfl,hsrc⟩:=hpos (by omega);have hl:=run_loadCells_list (P:=P) w ad cs hsrc;have hst:=run_storeCells_at P g (n*k) tr cs 0 cur.toArray w hg (by simpa using hfit) h1;refine⟨_,?_,setRow_heap w g _ _ tr _ hg,⟨rfl,rfl,rfl,by simp,fun k _ hk=>setRow_other w g k _ (fun e=>hk (by rw[e]))⟩⟩
  simp[Builtin.append_,run_underlying hu,Builtin.lenOf,Builtin.firstCells,sizeOf,typeInfo,hq,hi,←hn,hl,hroom,hadd,hst,splice]
theorem zfz{P:Program}{ops:Array Oper}{op:Oper}{a:Act}{w:World}{K:Act→World→Prop}{Q:Exit→Act→World→Prop}{E:Prop}(hgd:op.guard=none)(s x:Operand)(t:TypeId)
  (ho:op.op=.call { callee:=.builtin .append,args:=#[s,x],argTypes:=#[t,t] }) (e:TypeId) (k:Nat) (hu:P.underlying t=some (.slice e)) (hs:(P.info? e).map (·.size)=some k)
  (g n cap:Nat) (sp:Option Addr) (m c:Nat) (hd:a.eval s=.slice (some ⟨g,0,none⟩) n cap) (hsv:a.eval x=.slice sp m c)
  (cur:List Value) (tr:TypeId) (cs:List Value) (hg:w.heap[g]?=some (.cells cur.toArray tr (0,0))) (hn:cs.length=m*k) (hroom:n+m≤cap)
  (hpos:0<cs.length→∃ad,sp=some ad∧∀j v,cs[j]?=some v→w.cell? (ad.add j)=some v)
  (hfit:n*k+cs.length≤cur.length) (h1:∀v∈cs,v.oneCell'=true)
  (h:∀w',Hid (w'.heap[g]?=some (.cells (splice cur (n*k) cs).toArray tr (0,0)))→w.grownBy w' (some g)→K (a.put op.dst (.slice (some ⟨g,0,none⟩) (n+m) cap)) w') :
  if Region.wanted op (yielded ops a.tmps)=true then Oper.wp P op a w K Q else E:=by
 have hw:Region.wanted op (yielded ops a.tmps)=true:=by simp[Region.wanted,hgd]
 rw[if_pos hw];obtain⟨w',hrun,hrow,hb⟩:=zj5 (P:=P) w t op.type e k g n cap sp m c cur tr cs hu hs hg hn hroom hpos hfit h1;unfold Oper.wp
 simp[execOp,ho,resolve,invoke,builtin,hd,hsv,hrun,Result.andThen]
 exact h w' hrow hb
theorem zdK{P:Program}(w:World)(t e ty:TypeId)(z:Value)(k:Nat)(hu:P.underlying t=some (.slice e))(hv:∀w,(zeroValue e).run P w=.ok z w)(hz:z.cells.size=k)(hz1:∀u∈z.cells.toList,u.oneCell'=true)
  (g o n c:Nat) (cur:List Value) (tr:TypeId) (hg:w.heap[g]?=some (.cells cur.toArray tr (0,0))) (hn:0<n) (hfit:o+n*k≤cur.length) (hk:0<k) :
  ∃w',(Builtin.clear_ #[t] ty #[.slice (some ⟨g,o,none⟩) n c]).run P w=.ok (.tuple #[]) w'∧w'.heap[g]?=some (.cells (splice cur o (Builtin.zeroCells z.cells n).toList).toArray tr (0,0))∧w.grownBy w' (some g):=by
 have hlen:(Builtin.zeroCells z.cells n).toList.length=n*k:=by simp[Builtin.zeroCells,hz]
 have h1:∀v∈(Builtin.zeroCells z.cells n).toList,v.oneCell'=true:=by
  intro v hv;simp only[Builtin.zeroCells,Array.toList_map,List.mem_map] at hv;obtain⟨i,_,rfl⟩:=hv;have hi:i % z.cells.size<z.cells.size:=Nat.mod_lt _ (by omega);rw[getElem!_pos z.cells _ hi];exact hz1 _ (by simp)
 have hst:=run_storeCells_at P g o tr (Builtin.zeroCells z.cells n).toList 0 cur.toArray w hg (by simp only[Nat.add_zero,List.size_toArray];omega) h1;refine⟨_,?_,setRow_heap w g _ _ tr _ hg,⟨rfl,rfl,rfl,by simp,fun k _ hk=>setRow_other w g k _ (fun e=>hk (by rw[e]))⟩⟩;obtain⟨m,rfl⟩:∃m,n=m+1:=⟨n-1,by omega⟩
 simp[Builtin.clear_,run_underlying hu,hv,hst,splice]
end Go.Proofs.YtlhgjplipgandaaGreat
namespace Go.Proofs.YtlhgjplipgandaaGreat
open Go.RowKit Go.BigFrame
attribute [local go_sem] ze.cell ze.frozen
theorem zio{a b c:World}{g:Nat}(h:a.grownBy b (some g))(k:b.grownBy c (some g)):a.grownBy c (some g) :=
 ⟨k.os.trans h.os,k.tape.trans h.tape,k.output.trans h.output,Nat.le_trans h.size k.size,fun i hi hn=>(k.block i (Nat.lt_of_lt_of_le hi h.size) hn).trans (h.block i hi hn)⟩
theorem zjR{a b:World}{row:Option Nat}(h:a.drew.grownBy b row):a.grownBy b row:=⟨h.os,h.tape,h.output,h.size,h.block⟩
theorem zeroR(w:World):(zeroValue 111).run Tryz.prog w=.ok (.agg #[.bool false,.int .i64 0,.int .i64 0,.slice none 0 0,.slice none 0 0,.int .i64 0]) w:=Tryz.zeroValue111 w
theorem sizeR:(Tryz.prog.info? 111).map (·.size)=some 6:=by kernel_rfl
theorem zmk(b n c i:Nat)(w:World)(hlt:i<n)(hce:¬c=i+1):(Instr.slice 34 (.slice (some ⟨b,0,none⟩) n c) (some (.int .i64 ((i:Int)+1))) none none).run Tryz.prog w=.ok (.slice (some ⟨b,(i+1)*6,none⟩) (n-(i+1)) (c-(i+1))) w:=by
 have h1:(0:Int)≤(i:Int)+1:=by omega
 have h2:(i:Int)+1≤(n:Int):=by omega
 simp[go_sem,h1,h2,hce]
theorem zpG(b n c i:Nat)(w:World)(hlt:i<n)(hcap:n≤c):(Instr.slice 34 (.slice (some ⟨b,0,none⟩) n c) none (some (.int .i64 (i:Int))) none).run Tryz.prog w=.ok (.slice (some ⟨b,0,none⟩) i c) w:=by
 have h2:i≤c:=by omega
 simp[go_sem,h2]
theorem znP(b n i:Nat)(w:World)(hlt:n=i+1):(Instr.slice 34 (.slice (some ⟨b,0,none⟩) n (i+1)) (some (.int .i64 ((i:Int)+1))) none none).run Tryz.prog w=.ok (.slice (some ⟨b,0,none⟩) 0 0) w:=by
 subst hlt;have h1:(0:Int)≤(i:Int)+1:=by omega
 simp[go_sem,h1]
theorem ziK(b n c i:Nat)(w:World)(hlt:i<n)(hcap:n≤c)(hm:c≤9223372036854775807):(Instr.slice 34 (.slice (some ⟨b,0,none⟩) (n-1) c) (some (.int .i64 ((n-1:Nat):Int))) (some (.int .i64 (n:Int))) none).run Tryz.prog w=.ok (.slice (some ⟨b,(n-1)*6,none⟩) 1 (c-(n-1))) w:=by
 have h1:((n-1:Nat):Int)≤(n:Int):=by omega
 have h2:¬c=n-1:=by omega
 have h3:n-(n-1)=1:=by omega
 simp[go_sem,h1,h2,h3,hcap]
def zs6:List Value:=(Builtin.zeroCells (Value.agg #[.bool false,.int .i64 0,.int .i64 0,.slice none 0 0,.slice none 0 0,.int .i64 0]).cells 1).toList
theorem znY:zs6.length=6:=by simp[zs6,Builtin.zeroCells,Value.cells]
theorem zrA{w:World}{b:Nat}{cur:List Value}{t:TypeId}(hg:w.heap[b]?=some (.cells cur.toArray t (0,0)))(o j:Nat)(v:Value)(h:cur[o+j]?=some v):w.cell? (Addr.add ⟨b,o,none⟩ j)=some v:=by
 rw[Addr.add_mid]
 simp[World.cell?,hg,h]
theorem zpU(b n c k:Nat)(cur xs:List Value)(w:World)(hg:w.heap[b]?=some (.cells cur.toArray 111 (0,0)))(hcl:cur.length=c*6)(hk:k<n)(hnc:n≤c)(hcm:c≤9223372036854775807)
  (hxl:xs.length=(n-(k+1))*6) (hx:∀j v,xs[j]?=some v→cur[(k+1)*6+j]?=some v) (h1:∀v∈xs,v.oneCell'=true) :
  Calls Tryz.prog 129 #[.slice (some ⟨b,0,none⟩) n c,.int .i64 k,.int .i64 ((k:Int)+1)] w fun e w' =>
   e=.returned (.slice (some ⟨b,0,none⟩) (n-1) c)∧w'.heap[b]?=some (.cells (splice (splice cur (k*6) xs) ((n-1)*6) zs6).toArray 111 (0,0))∧w.grownBy w' (some b):=by
 have q1:(k:Int)+1≤(n:Int):=by omega
 have q2:(0:Int)≤(k:Int)+1:=by omega
 have q3:¬((k:Int)=(k:Int)+1):=by omega
 have q4:(k:Int)≤(k:Int)+1:=by omega
 have HC:=za hcl;have HX:=za hx;have HL:=za hxl;have HG:=za hg;have H1:=za h1;clear hcl hx hxl hg h1;have hsl1:=fun w=>zpG b n c k w hk hnc
 have hsl3:=fun w=>ziK b n c k w hk hnc hcm
 have hcut:(splice cur (k*6) xs).length=c*6:=by rw[length_splice _ _ _ (by rw[HC.out,HL.out];omega),HC.out]
 have HS:=za hcut;clear hcut;have hn1:k+(n-(k+1))=n-1:=by omega
 have HN1:=za hn1;clear hn1
 by_cases hce:c=k+1
 ·have hnk:n=k+1:=by omega
  subst hce;subst hnk;clear hsl3;have hsl3:=fun w=>ziK b (k+1) (k+1) k w hk hnc hcm
  simp only[Nat.add_sub_cancel] at hsl3 HS;rw[show k+1-k=1 by omega] at hsl3;have hsl2:=fun w=>znP b (k+1) k w rfl
  obtain rfl:xs=[]:=List.eq_nil_of_length_eq_zero (by rw[HL.out];omega);go_enter Tryz.func129,Tryz.ntmps129;go_wp2_with fail
  go_region_law (refine zfz rfl (.tmp 22) (.tmp 25) 34 rfl 111 6 Tryz.underlying34 sizeR b k (k+1) (some ⟨b,0,none⟩) 0 0 (by simp[Act.eval,Act.put]) (by simp[Act.eval,Act.put]) cur 111 [] HG.out rfl (by omega) (fun h=>absurd h (Nat.not_lt_zero _)) (by rw[HC.out];simp;omega) (by simp) ?_;intro w1 G1 hb1)
  obtain⟨w2,hcl,G2,hb2⟩:=zdK (P:=Tryz.prog) w1 34 111 0 _ 6 Tryz.underlying34 zeroR rfl (by decide) b (k*6) 1 1 _ 111 G1.out (by omega) (by have:=HS.out;omega) (by omega);have HG2:=za G2;have HB2:=za hb2;clear G2 hb2;go_wp2;go_ret;exact⟨rfl,HG2.out,zio (zjR hb1) HB2.out⟩
 ·have hsl2:=fun w=>zmk b n c k w hk hce
  go_enter Tryz.func129,Tryz.ntmps129;go_wp2_with fail
  go_region_law (refine zfz rfl (.tmp 22) (.tmp 25) 34 rfl 111 6 Tryz.underlying34 sizeR b k c (some ⟨b,(k+1)*6,none⟩) (n-(k+1)) (c-(k+1)) (by simp[Act.eval,Act.put]) (by simp[Act.eval,Act.put]) cur 111 xs HG.out HL.out (by omega) (fun _=>⟨_,rfl,fun j v hj=>zrA HG.out _ _ _ (HX.out j v hj)⟩) (by rw[HC.out,HL.out];omega) H1.out ?_;intro w1 G1 hb1;rw[HN1.out])
  obtain⟨w2,hcl,G2,hb2⟩:=zdK (P:=Tryz.prog) w1 34 111 0 _ 6 Tryz.underlying34 zeroR rfl (by decide) b ((n-1)*6) 1 (c-(n-1)) _ 111 G1.out (by omega) (by rw[HS.out];omega) (by omega);have HG2:=za G2;have HB2:=za hb2;clear G2 hb2;go_wp2;go_ret;exact⟨rfl,HG2.out,zio (zjR hb1) HB2.out⟩
theorem zmO{α:Type}(L cs:List α)(o:Nat)(h:o≤L.length):(splice L o cs).take (o+cs.length)=L.take o++cs:=by
 have e:(L.take o).length=o:=by rw[List.length_take];omega
 rw[splice,←List.append_assoc,List.take_append_of_le_length (by rw[List.length_append,e];exact Nat.le_refl _),List.take_of_length_le (by rw[List.length_append,e];exact Nat.le_refl _)]
theorem zdS{α:Type}(L cs:List α)(o m:Nat)(h:o≤L.length)(hm:m≤o):(splice L o cs).take m=L.take m:=by
 have e:(L.take o).length=o:=by rw[List.length_take];omega
 rw[splice,List.take_append_of_le_length (by rw[e];exact hm),List.take_take,Nat.min_eq_left hm]
theorem zmg(l:List Rq)(k:Nat):(zt l).take (k*6)=zt (l.take k):=by
 by_cases hk:k≤l.length
 ·have e:=zaM (l.take k) (l.drop k);rw[List.take_append_drop] at e;have hl:(zt (l.take k)).length=k*6:=by rw[zbf,List.length_take,Nat.min_eq_left hk]
  rw[e,List.take_append_of_le_length (by omega),List.take_of_length_le (by omega)]
 ·rw[List.take_of_length_le (by rw[zbf];omega),List.take_of_length_le (by omega)]
theorem zlR(l:List Rq)(k j:Nat):(zt (l.drop k))[j]?=(zt l)[k*6+j]?:=by
 by_cases hk:k≤l.length
 ·have e:=zaM (l.take k) (l.drop k);rw[List.take_append_drop] at e;have hl:(zt (l.take k)).length=k*6:=by rw[zbf,List.length_take,Nat.min_eq_left hk]
  rw[e,List.getElem?_append_right (by omega),hl]
  congr 1;omega
 ·rw[List.drop_eq_nil_of_le (by omega),List.getElem?_eq_none (by simp[zt]),List.getElem?_eq_none (by rw[zbf];omega)]
theorem delR(l:List Rq)(b c k:Nat)(w:World)(hk:k<l.length)(hN:w.ownsRow 0 111 6 (.slice (some ⟨b,0,none⟩) l.length c) l.length (zt l)) :
  Calls Tryz.prog 129 #[.slice (some ⟨b,0,none⟩) l.length c,.int .i64 k,.int .i64 ((k:Int)+1)] w fun e w' =>
   e=.returned (.slice (some ⟨b,0,none⟩) (l.eraseIdx k).length c)∧w'.ownsRow 0 111 6 (.slice (some ⟨b,0,none⟩) (l.eraseIdx k).length c) (l.eraseIdx k).length (zt (l.eraseIdx k))∧w.grownBy w' (some b):=by
 rcases hN.2 with⟨h,_⟩|⟨g,cap,cur,hv,hg,hh,hnc,hcm,hcs,ht⟩
 ·cases h
 ·simp only[Value.slice.injEq,Option.some.injEq,Addr.mk.injEq,and_true,true_and] at hv;obtain⟨rfl,rfl⟩:=hv;have hcm':c≤9223372036854775807:=by unfold maxLen at hcm;omega
  have hcl:cur.toList.length=c*6:=by rw[Array.length_toList];exact hcs
  have hxl:(zt (l.drop (k+1))).length=(l.length-(k+1))*6:=by rw[zbf,List.length_drop]
  have hel:(l.eraseIdx k).length=l.length-1:=by rw[List.length_eraseIdx,if_pos hk]
  refine(zpU b l.length c k cur.toList (zt (l.drop (k+1))) w (by rw[Array.toArray_toList];exact hh) hcl hk hnc hcm' hxl (fun j v hj=>?_) (zdy _)).mono ?_
  ·rw[zlR,←ht,List.getElem?_take] at hj
   split at hj
   ·exact hj
   ·cases hj
  ·rintro e w' ⟨rfl,hrow,hB⟩;refine⟨by rw[hel],?_,hB⟩;have hsl:(splice cur.toList (k*6) (zt (l.drop (k+1)))).length=c*6:=by rw[length_splice _ _ _ (by rw[hcl,hxl];omega),hcl]
   refine⟨zbf _,Or.inr ⟨b,c,_,rfl,Nat.zero_le _,hrow,by omega,hcm,?_,?_⟩⟩
   ·rw[List.size_toArray,length_splice _ _ _ (by rw[hsl,znY];omega),hsl]
   ·rw[List.toList_toArray,hel,zdS _ _ _ _ (by rw[hsl];omega) (Nat.le_refl _),show(l.length-1)*6=k*6+(zt (l.drop (k+1))).length by rw[hxl];omega,zmO _ _ _ (by omega),List.eraseIdx_eq_take_drop_succ,zaM,←zmg,←ht,List.take_take,Nat.min_eq_left (by omega)]
def zbD(pl nx:Nat)(x:Wn):Bool:=x.pl==pl&&x.bit==nx
structure zc9(pb pd b pl nx:Nat)(w:World):Prop where
 c1:w.cell? ⟨pb,0,none⟩=some (.int .i64 pl)
 c2:w.cell? ⟨pd,0,none⟩=some (.pointer (some ⟨b,0,none⟩))
 c3:w.cell? ⟨b,65,none⟩=some (.int .i64 nx)
theorem zc9.later{pb pd b pl nx:Nat}{w w':World}(h:zc9 pb pd b pl nx w)(hb:Below w.heap.size w w'):zc9 pb pd b pl nx w':=⟨cell_later' hb h.c1,cell_later' hb h.c2,cell_later' hb h.c3⟩
theorem zc9.frame{F:Nat→Prop}{pb pd b pl nx:Nat}{w w':World}(h:zc9 pb pd b pl nx w)(hk:zo F w w')(h1:¬F pb)(h2:¬F pd)(h3:¬F b):zc9 pb pd b pl nx w' :=
 ⟨by rw[hk.cell (p:=⟨pb,0,none⟩) (zg h.c1) h1];exact h.c1,by rw[hk.cell (p:=⟨pd,0,none⟩) (zg h.c2) h2];exact h.c2,by rw[hk.cell (p:=⟨b,65,none⟩) (zg h.c3) h3];exact h.c3⟩
theorem zp2{B:Nat}{a w:World}(h:Below B a w)(n:Nat):Below B a (w.drewN n):=⟨h.os,h.tape,h.output,h.size,h.block⟩
theorem zir(x:Wn)(pb pd b pl nx:Nat)(w:World)(h:zc9 pb pd b pl nx w) :
  Calls Tryz.prog 156 #[x.val,.pointer (some ⟨pb,0,none⟩),.pointer (some ⟨pd,0,none⟩)] w fun e w'=>e=.returned (.bool (zbD pl nx x))∧Below w.heap.size w w':=by
 have c1:=zao h.c1;have c2:=zao h.c2;have c3:=zao h.c3;have l1:=zg h.c1;have l2:=zg h.c2;have l3:=zg h.c3;have d1:=h.c1;have d2:=h.c2;have d3:=h.c3;clear h;unfold zbD
 by_cases hp:x.pl=pl
 ·have e1:((x.pl:Int)==(pl:Int))=true:=by rw[beq_iff_eq];omega
  have e2:((x.bit:Int)==(nx:Int))=(x.bit==nx):=by
   rw[Bool.eq_iff_iff,beq_iff_eq,beq_iff_eq];omega
  have e3:(x.pl==pl)=true:=by rw[beq_iff_eq];exact hp
  rw[e3,Bool.true_and];have HP:=za hp;clear hp e3;go_enter Tryz.func156,Tryz.ntmps156;go_wp2_with fail
  go_quiet (fail)
  go_wp2;go_ret;exact⟨rfl,zp2 (zn _ _) _⟩
 ·have e1:((x.pl:Int)==(pl:Int))=false:=by rw[beq_eq_false_iff_ne];omega
  have e3:(x.pl==pl)=false:=by rw[beq_eq_false_iff_ne];exact hp
  rw[e3,Bool.false_and];have HP:=za hp;clear hp e3;go_enter Tryz.func156,Tryz.ntmps156;go_wp2_with fail
  go_quiet (fail)
  go_wp2;go_ret;exact⟨rfl,zp2 (zn _ _) _⟩
def zgc(w:World)(a:Option Addr)(l:List Wn):Prop:=l=[]∨∃g,a=some ⟨g,0,none⟩∧∀i (h:i<l.length),w.cell? ⟨g,i*3,none⟩=some (.int .i64 l[i].pl)∧w.cell? ⟨g,i*3+1,none⟩=some (.string l[i].data)∧w.cell? ⟨g,i*3+2,none⟩=some (.int .i64 l[i].bit)
theorem zgc.later{w w':World}{a:Option Addr}{l:List Wn}(h:zgc w a l)(hb:Below w.heap.size w w'):zgc w' a l:=by
 rcases h with h|⟨g,ha,hc⟩
 ·exact Or.inl h
 ·exact Or.inr ⟨g,ha,fun i hi=>⟨cell_later' hb (hc i hi).1,cell_later' hb (hc i hi).2.1,cell_later' hb (hc i hi).2.2⟩⟩
theorem zit{w:World}{a:Option Addr}{c:Nat}{l:List Wn}(h:w.ownsRow 0 199 3 (.slice a l.length c) l.length (zaC l)):zgc w a l:=by
 rcases h.2 with⟨h1,h2⟩|⟨g,cap,cur,hv,hg,hh,hnc,hcm,hcs,ht⟩
 ·exact Or.inl (List.eq_nil_of_length_eq_zero h2)
 ·simp only[Value.slice.injEq,true_and] at hv;obtain⟨rfl,rfl⟩:=hv;refine Or.inr ⟨g,rfl,fun i hi=>?_⟩;obtain⟨k0,k1,k2⟩:=zgn l i hi;exact⟨(h.cellAt (i*3) (by omega)).trans k0,(h.cellAt (i*3+1) (by omega)).trans k1,(h.cellAt (i*3+2) (by omega)).trans k2⟩
def zeP(p:Wn→Bool)(l:List Wn):Int:=match l.findIdx? p with|some k=>(k:Int)|none=>-1
theorem znV{p:Wn→Bool}{l:List Wn}{k:Nat}(h:k<l.length)(hp:p l[k]=true)(hb:∀j (hj:j<k),p (l[j]'(by omega))=false):zeP p l=k:=by
 have:l.findIdx? p=some k:=by
  rw[List.findIdx?_eq_some_iff_getElem];exact⟨h,hp,fun j hj=>by rw[hb j hj];exact Bool.false_ne_true⟩
 rw[zeP,this]
theorem zoY{p:Wn→Bool}{l:List Wn}(h:∀j (hj:j<l.length),p l[j]=false):zeP p l=-1:=by
 have:l.findIdx? p=none:=by
  rw[List.findIdx?_eq_none_iff];intro x hx;obtain⟨j,hj,rfl⟩:=List.getElem_of_mem hx;exact h j hj
 rw[zeP,this]
theorem zpy(p:Wn→Bool)(l:List Wn):(zeP p l=-1∧∀j (hj:j<l.length),p l[j]=false)∨∃(k:Nat) (h:k<l.length),zeP p l=k∧p l[k]=true∧∀j (hj:j<k),p (l[j]'(by omega))=false:=by
 cases e:l.findIdx? p with
 |none =>
  left
  refine⟨by rw[zeP,e],fun j hj=>?_⟩;rw[List.findIdx?_eq_none_iff] at e;exact e _ (List.getElem_mem hj)
 |some k =>
  right
  have e':=e;rw[List.findIdx?_eq_some_iff_getElem] at e;obtain⟨h1,h2,h3⟩:=e;refine⟨k,h1,by rw[zeP,e'],h2,fun j hj=>?_⟩;have:=h3 j hj
  simpa using this
theorem ziG(pb pd b pl nx:Nat)(l:List Wn)(a:Option Addr)(c:Nat)(w:World)(hl:zgc w a l)(hlen:l.length≤100000)(hh:zc9 pb pd b pl nx w) :
  Calls Tryz.prog 159 #[.slice a l.length c,.func (.func 156) #[] #[.pointer (some ⟨pb,0,none⟩),.pointer (some ⟨pd,0,none⟩)]] w fun e w'=>e=.returned (.int .i64 (zeP (zbD pl nx) l))∧Below w.heap.size w w':=by
 rcases hl with rfl|⟨g,rfl,hcs⟩
 ·clear hh;go_enter Tryz.func159,Tryz.ntmps159;go_wp2
  go_loop [8] (fun i=>i=.int .i64 0) (fun _=>0)
  case atStart=>rfl
  case round =>
   subst hrel;go_wp2;go_ret;exact⟨rfl,by(with_reducible repeat first|exact Below.refl _ _|refine zc ?_ _|refine zd ?_|refine bset' ?_ (by omega) _|refine zb ?_ (by assumption))⟩
 have HC:=za hcs;have HH:=za hh;clear hcs hh;go_enter Tryz.func159,Tryz.ntmps159;go_wp2
 go_loopw[8] (fun i wr=>∃k:Nat,k≤l.length∧i=.int .i64 k∧(∀j (hj:j<l.length),j<k→zbD pl nx l[j]=false)∧Below w.heap.size w wr) (fun i _=>l.length-(intOf i).toNat)
 case atStart=>exact⟨0,by omega,rfl,fun j hj h=>absurd h (Nat.not_lt_zero _),Below.refl _ _⟩
 case round =>
  obtain⟨k,hk,rfl,hno,HB⟩:=hrel;have HN:=za hno;clear hno
  by_cases hlt:k<l.length
  ·obtain⟨c0,c1,c2⟩:=HC.out k hlt
   replace c0:=cell_later' HB c0
   replace c1:=cell_later' HB c1
   replace c2:=cell_later' HB c2
   have hq:=zir l[k] pb pd b pl nx wr (HH.out.later HB)
   cases hpk:zbD pl nx l[k]
   ·rw[hpk] at hq;have HQ:=za hq;clear hq;go_wp2_with fail;refine Calls.mono HQ.out ?_;rintro e w1 ⟨rfl,hb⟩;go_wp2;go_roundw
    case rel=>exact⟨k+1,by omega,by go_num,fun j hj h=>by by_cases e:j=k;(subst e;exact hpk);exact HN.out j hj (by omega),zb HB hb⟩
    case measure=>simp[intOf];omega
   ·rw[hpk] at hq;have HQ:=za hq;clear hq;go_wp2_with fail;refine Calls.mono HQ.out ?_;rintro e w1 ⟨rfl,hb⟩;go_wp2;go_ret;exact⟨zbs (znV hlt hpk (fun j hj=>HN.out j (by omega) hj)).symm,zb HB hb⟩
  ·go_wp2;go_ret;exact⟨zbs (zoY (fun j hj=>HN.out j hj (by omega))).symm,HB⟩
theorem zqu{l:List Wn}(hn:(l.map Wn.key).Nodup){pl nx i j:Nat}(hi:i<l.length)(hj:j<l.length)(h1:zbD pl nx l[i]=true)(h2:zbD pl nx l[j]=true):i=j:=by
 simp only[zbD,Bool.and_eq_true,beq_iff_eq] at h1 h2;have e:(l.map Wn.key)[i]'(by simpa using hi)=(l.map Wn.key)[j]'(by simpa using hj):=by
  simp only[List.getElem_map,Wn.key];omega
 exact(List.getElem_inj hn).1 e
def zaF(pl nx:Nat)(l:List Wn):List Wn:=l.filter fun x=>!zbD pl nx x
theorem zrd{l:List Wn}{pl nx:Nat}(h:∀j (hj:j<l.length),zbD pl nx l[j]=false):zaF pl nx l=l:=by
 unfold zaF;rw[List.filter_eq_self];intro x hx;obtain⟨j,hj,rfl⟩:=List.getElem_of_mem hx
 simp[h j hj]
theorem zn2{l:List Wn}{pl nx k:Nat}(hk:k<l.length)(h1:zbD pl nx l[k]=true)(h2:∀j (hj:j<l.length),j ≠ k→zbD pl nx l[j]=false):zaF pl nx l=l.eraseIdx k:=by
 have e:l=l.take k++l[k]::l.drop (k+1):=by rw[List.getElem_cons_drop,List.take_append_drop]
 unfold zaF;rw[List.eraseIdx_eq_take_drop_succ]
 conv=>lhs;rw[e]
 rw[List.filter_append,List.filter_cons,if_neg (by simp[h1])]
 congr 1
 ·rw[List.filter_eq_self];intro x hx;obtain⟨j,hj,rfl⟩:=List.getElem_of_mem hx;simp only[List.length_take] at hj;rw[List.getElem_take]
  simp[h2 j (by omega) (by omega)]
 ·rw[List.filter_eq_self];intro x hx;obtain⟨j,hj,rfl⟩:=List.getElem_of_mem hx;simp only[List.length_drop] at hj;rw[List.getElem_drop]
  simp[h2 (k+1+j) (by omega) (by omega)]
def zcf(l:List Wn)(k j:Nat):List Wn:=(l.eraseIdx k).take (j-1)++l.drop (j-1)
theorem zog(l:List Wn)(k:Nat)(hk:k<l.length):zcf l k (k+1)=l:=by
 rw[zcf,Nat.add_sub_cancel,List.eraseIdx_eq_take_drop_succ,List.take_append_of_le_length (by rw[List.length_take];omega),List.take_take,Nat.min_self,List.take_append_drop]
theorem zmi(l:List Wn)(k j:Nat)(hk:k<l.length)(h1:k+1≤j)(h2:j≤l.length):(zcf l k j).length=l.length:=by
 rw[zcf,List.length_append,List.length_take,List.length_drop,List.length_eraseIdx,if_pos hk];omega
theorem zsv(l:List Wn)(k j:Nat)(hk:k<l.length)(h1:k+1≤j)(h2:j<l.length):(zcf l k j)[j]?=some l[j]:=by
 have e:((l.eraseIdx k).take (j-1)).length=j-1:=by rw[List.length_take,List.length_eraseIdx,if_pos hk];omega
 rw[zcf,List.getElem?_append_right (by omega),e,List.getElem?_drop,show j-1+(j-(j-1))=j by omega,List.getElem?_eq_getElem h2]
theorem zoJ(l:List Wn)(k j:Nat)(hk:k<l.length)(h1:k+1≤j)(h2:j<l.length):(zcf l k j).set (j-1) l[j]=zcf l k (j+1):=by
 have e:((l.eraseIdx k).take (j-1)).length=j-1:=by rw[List.length_take,List.length_eraseIdx,if_pos hk];omega
 have e2:(l.eraseIdx k).length=l.length-1:=by rw[List.length_eraseIdx,if_pos hk]
 have e3:(l.eraseIdx k).take j=(l.eraseIdx k).take (j-1)++[l[j]]:=by
  have h:=List.take_succ_eq_append_getElem (l:=l.eraseIdx k) (i:=j-1) (by omega);rw[show j-1+1=j by omega] at h;rw[h,List.getElem_eraseIdx_of_ge (by omega) (by omega)];simp only[show j-1+1=j by omega]
 have e4:l.drop (j-1)=l[j-1]::l.drop j:=by
  have h:=List.drop_eq_getElem_cons (l:=l) (i:=j-1) (by omega)
  rwa [show j-1+1=j by omega] at h
 rw[zcf,zcf,Nat.add_sub_cancel,List.set_append_right _ _ (by omega),e,Nat.sub_self,e4,List.set_cons_zero,e3]
 simp
theorem zoZ(l:List Wn)(k:Nat)(hk:k<l.length):(zcf l k l.length).take (l.length-1)=l.eraseIdx k:=by
 have e2:(l.eraseIdx k).length=l.length-1:=by rw[List.length_eraseIdx,if_pos hk]
 rw[zcf,List.take_append_of_le_length (by rw[List.length_take];omega),List.take_take,Nat.min_self,List.take_of_length_le (by omega)]
theorem znN(l:List Wn)(x:Wn):∀(i:Nat) (_:i<l.length) (tl:List Value),(((zaC l++tl).set (i*3) (.int .i64 x.pl)).set (i*3+1) (.string x.data)).set (i*3+2) (.int .i64 x.bit)=zaC (l.set i x)++tl:=by
 induction l with
 |nil=>intro i h;exact absurd h (Nat.not_lt_zero _)
 |cons y l ih =>
  intro i h tl
  cases i with
  |zero=>rfl
  |succ i =>
   have:=ih i (by simpa using h) tl;rw[zd1,List.set_cons_succ,zd1,show(i+1)*3=i*3+3 by omega];simp only[List.cons_append,List.set_cons_succ];rw[this]
theorem zeroW(w:World):(zeroValue 199).run Tryz.prog w=.ok (.agg #[.int .i64 0,.string ByteArray.empty,.int .i64 0]) w:=Tryz.zeroValue199 w
theorem zl9(g n c m:Nat)(w:World)(h1:m<n)(h2:n≤c):(Instr.slice 61 (.slice (some ⟨g,0,none⟩) n c) (some (.int .i64 (m:Int))) none none).run Tryz.prog w=.ok (.slice (some ⟨g,m*3,none⟩) (n-m) (c-m)) w:=by
 have k1:(m:Int)≤(n:Int):=by omega
 have k2:¬c=m:=by omega
 have k3:m≤n:=by omega
 simp[go_sem,k2,k3]
theorem zpX(g n c m:Nat)(w:World)(h1:m<n)(h2:n≤c):(Instr.slice 61 (.slice (some ⟨g,0,none⟩) n c) none (some (.int .i64 (m:Int))) none).run Tryz.prog w=.ok (.slice (some ⟨g,0,none⟩) m c) w:=by
 have k2:m≤c:=by omega
 simp[go_sem,k2]
def zaX(a:Option Addr)(k:Nat):Prop:=∃p,a=some p∧k=p.block
theorem zqp(pb pd b pl nx:Nat)(l:List Wn)(g c k:Nat)(tl:List Value)(w:World)(hg:w.heap[g]?=some (.cells (zaC l++tl).toArray 199 (0,0)))(htl:tl.length=(c-l.length)*3)(hnc:l.length≤c)(_hcm:c≤9223372036854775807)(hlen:l.length≤100000)(hh:zc9 pb pd b pl nx w)(n1:pb ≠ g)(n2:pd ≠ g)(n3:b ≠ g)
  (hk:k<l.length) (_hk1:zbD pl nx l[k]=true) (hk2:∀j (hj:j<l.length),j ≠ k→zbD pl nx l[j]=false) (hi:zeP (zbD pl nx) l=k) (hw:zgc w (some ⟨g,0,none⟩) l) :
  Calls Tryz.prog 157 #[.slice (some ⟨g,0,none⟩) l.length c,.func (.func 156) #[] #[.pointer (some ⟨pb,0,none⟩),.pointer (some ⟨pd,0,none⟩)]] w fun e w' =>
   e=.returned (.slice (some ⟨g,0,none⟩) (l.length-1) c)∧(∃cur:List Value,w'.heap[g]?=some (.cells cur.toArray 199 (0,0))∧cur.length=c*3∧cur.take ((l.length-1)*3)=zaC (l.eraseIdx k))∧zo (fun i=>i=g) w w':=by
 have HI:=za hi;have HG:=za hg;have HH:=za hh;have HW:=za hw;have HT:=za htl;have HK2:=za hk2;clear hi hg hh hw htl hk2;go_enter Tryz.func157,Tryz.ntmps157;go_wp2_with fail;refine(ziG pb pd b pl nx l _ c _ HW.out hlen HH.out).mono ?_;rw[HI.out];rintro e w1 ⟨rfl,hb1⟩;have hne:((k:Int) == -1)=false:=by rw[beq_eq_false_iff_ne];omega
 go_wp2_with fail;have HO1:Hid (zo (fun i=>i=g) w w1):=zo.of_below hb1;have HG1:Hid (w1.heap[g]?=some (.cells (zaC l++tl).toArray 199 (0,0))):=by show _=_;rw[hb1.block g (zz HG.out)];exact HG.out
 clear hb1
 go_loopw[5,6] (fun i jv wr=>∃m:Nat,k≤m∧m+1≤l.length∧jv=.int .i64 ((m:Int)+1)∧i=.int .i64 m∧wr.heap[g]?=some (.cells (zaC (zcf l k (m+1))++tl).toArray 199 (0,0))∧zo (fun i=>i=g) w wr) (fun i _ _=>l.length-(intOf i).toNat)
 case atStart=>exact⟨k,Nat.le_refl _,hk,rfl,rfl,by rw[zog l k hk];exact HG1.out,HO1.out⟩
 case round =>
  clear HG1 HO1;obtain⟨m,hm1,hm2,rfl,rfl,hgr,HO⟩:=hrel;have HGR:=za hgr;have HOR:=za HO;have lg:=zz hgr;have hml:=zmi l k (m+1) hk (by omega) hm2;have HML:=za hml;clear hgr HO hml
  by_cases hlt:m+1<l.length
  ·have hma:=zsv l k (m+1) hk (by omega) hlt;have hms:=za (zoJ l k (m+1) hk (by omega) hlt);obtain⟨k0,k1,k2⟩:=zgn (zcf l k (m+1)) (m+1) (by rw[HML.out];exact hlt);have hmx:(zcf l k (m+1))[m+1]'(by rw[HML.out];exact hlt)=l[m+1]:=by
    have:=List.getElem?_eq_getElem (l:=zcf l k (m+1)) (i:=m+1) (by rw[HML.out];exact hlt);rw[this] at hma;exact Option.some.inj hma
   rw[hmx] at k0 k1 k2;have hwl:(zaC (zcf l k (m+1))).length=l.length*3:=by rw[zb4,HML.out]
   have c0:=(zy HGR.out ((m+1)*3)).trans ((List.getElem?_append_left (by omega)).trans k0);have c1:=(zy HGR.out ((m+1)*3+1)).trans ((List.getElem?_append_left (by omega)).trans k1);have c2:=(zy HGR.out ((m+1)*3+2)).trans ((List.getElem?_append_left (by omega)).trans k2);have hnh:=HK2.out (m+1) hlt (by omega);have hhr:=za (HH.out.frame HOR.out n1 n2 n3);have t1:(m:Int)+1<(l.length:Int):=by omega
   have t2:((m:Int)+1).toNat=m+1:=by omega
   have HWL:=za hwl;clear hma hmx k0 k1 k2 hwl;generalize hx:l[m+1]=x at *;have HX:=za hx;clear hx;have T2:=za t2;clear t2;go_wp2_with fail;have hq:=zir x pb pd b pl nx _ (hhr.out.later (zn wr (.cells #[.int .i64 x.pl,.string x.data,.int .i64 x.bit] 199)));rw[hnh] at hq;refine hq.mono ?_;rintro e w2 ⟨rfl,hb2⟩;have hbw:=za (zb (zn wr (.cells #[.int .i64 x.pl,.string x.data,.int .i64 x.bit] 199)) hb2);have hg2:w2.heap[g]?=some (.cells (zaC (zcf l k (m+1))++tl).toArray 199 (0,0)):=by rw[hbw.out.block g lg];exact HGR.out
   have d0:=(hb2.cell (p:=⟨wr.heap.size,0,none⟩) (by simp)).trans (show _=some (.int .i64 x.pl) by simp);have d1:=(hb2.cell (p:=⟨wr.heap.size,1,none⟩) (by simp)).trans (show _=some (.string x.data) by simp);have d2:=(hb2.cell (p:=⟨wr.heap.size,2,none⟩) (by simp)).trans (show _=some (.int .i64 x.bit) by simp);have f0:=zac hg2 (m*3);have f1:=zac hg2 (m*3+1);have f2:=zac hg2 (m*3+2);obtain⟨k0,k1,k2⟩:=zgn (zcf l k (m+1)) m (by rw[HML.out];omega);have e0:=(zy hg2 (m*3)).trans ((List.getElem?_append_left (by rw[HWL.out];omega)).trans k0);have e1:=(zy hg2 (m*3+1)).trans ((List.getElem?_append_left (by rw[HWL.out];omega)).trans k1);have e2:=(zy hg2 (m*3+2)).trans ((List.getElem?_append_left (by rw[HWL.out];omega)).trans k2);generalize hy:(zcf l k (m+1))[m]'(by rw[HML.out];omega)=y at *;have HG2:=za hg2;have hm0:(m:Int)<(l.length:Int):=by omega
   clear hy k0 k1 k2 hg2 hq hb2 hhr hnh c0 c1 c2;go_wp2;go_roundw
   case rel =>
    refine⟨m+1,by omega,by omega,by go_num,by go_num,?_,?_⟩
    ·rw[zK (zK (zK HG2.out _ _) _ _) _ _,znN _ x m (by rw[HML.out];omega) tl];have:=hms.out;rw[Nat.add_sub_cancel] at this;rw[this]
    ·exact(((HOR.out.later hbw.out).setCell _ (Or.inl rfl) _).setCell _ (Or.inl rfl) _).setCell _ (Or.inl rfl) _
   case measure=>simp[intOf];omega
  ·have hmn:l.length=m+1:=by omega
   have t1:¬(m:Int)+1<(l.length:Int):=by omega
   have hcl:=(by rw[List.length_append,zb4,HML.out,HT.out];omega:(zaC (zcf l k (m+1))++tl).length=c*3)
   obtain⟨w2,hcr,G2,hb2⟩:=zdK (P:=Tryz.prog) wr 61 199 0 _ 3 Tryz.underlying61 zeroW rfl (by decide) g (m*3) 1 (c-m) _ 199 HGR.out (by omega) (by rw[hcl];omega) (by omega);have hsl1:=fun w=>zl9 g l.length c m w (by omega) hnc
   have hsl2:=fun w=>zpX g l.length c m w (by omega) hnc
   rw[show l.length-m=1 by omega] at hsl1;have HG2:=za (⟨G2,hb2,hcl⟩:_∧_∧_);have HMN:=za hmn;clear G2 hb2 hcl hmn;go_wp2;go_ret;obtain⟨G2,hb2,hcl⟩:=HG2.out;have hmn:=HMN.out;refine⟨by rw[hmn];rfl,⟨_,G2,?_,?_⟩,HOR.out.grown hb2 (fun i e=>Or.inl (by simpa using e.symm))⟩
   ·rw[length_splice _ _ _ (by rw[hcl];simp[Builtin.zeroCells,Value.cells];omega),hcl]
   ·have hm':l.length-1=m:=by omega
    rw[hm',zdS _ _ _ _ (by rw[hcl];omega) (Nat.le_refl _),List.take_append_of_le_length (by rw[zb4,HML.out];omega),zlS];have:=zoZ l k hk;rw[hmn,Nat.add_sub_cancel] at this;rw[this]
theorem zrZ(pb pd b pl nx:Nat)(l:List Wn)(a:Option Addr)(c:Nat)(w:World)(hlen:l.length≤100000)(hh:zc9 pb pd b pl nx w)(hi:zeP (zbD pl nx) l=-1)(hw:zgc w a l) :
  Calls Tryz.prog 157 #[.slice a l.length c,.func (.func 156) #[] #[.pointer (some ⟨pb,0,none⟩),.pointer (some ⟨pd,0,none⟩)]] w fun e w'=>e=.returned (.slice a l.length c)∧Below w.heap.size w w':=by
 have HI:=za hi;have HW:=za hw;have HH:=za hh;clear hi hw hh;go_enter Tryz.func157,Tryz.ntmps157;go_wp2_with fail;refine(ziG pb pd b pl nx l _ c _ HW.out hlen HH.out).mono ?_;rw[HI.out];rintro e w1 ⟨rfl,hb1⟩;go_wp2;go_ret;exact⟨rfl,hb1⟩
theorem delW(pb pd b pl nx:Nat)(l:List Wn)(a:Option Addr)(c:Nat)(w:World)(h:w.ownsRow 0 199 3 (.slice a l.length c) l.length (zaC l))(hlen:l.length≤100000)(hn:(l.map Wn.key).Nodup)(hh:zc9 pb pd b pl nx w)(n1:¬zaX a pb)(n2:¬zaX a pd)(n3:¬zaX a b) :
  Calls Tryz.prog 157 #[.slice a l.length c,.func (.func 156) #[] #[.pointer (some ⟨pb,0,none⟩),.pointer (some ⟨pd,0,none⟩)]] w fun e w' =>
   e=.returned (.slice a (zaF pl nx l).length c)∧w'.ownsRow 0 199 3 (.slice a (zaF pl nx l).length c) (zaF pl nx l).length (zaC (zaF pl nx l))∧zo (zaX a) w w':=by
 rcases zpy (zbD pl nx) l with⟨hi,hno⟩|⟨k,hk,hi,hk1,hk2⟩
 ·rw[zrd hno];refine(zrZ pb pd b pl nx l a c w hlen hh hi (zit h)).mono ?_;rintro e w' ⟨rfl,hb⟩;refine⟨rfl,zau h (fun g hg=>hb.block g (h.lt g hg).2),zo.of_below hb⟩
 ·have hk3:∀j (hj:j<l.length),j ≠ k→zbD pl nx l[j]=false:=fun j hj hne=>by
   cases e:zbD pl nx l[j]
   ·rfl
   ·exact absurd (zqu hn hj hk e hk1) hne
  rw[zn2 hk hk1 hk3];have hel:(l.eraseIdx k).length=l.length-1:=by rw[List.length_eraseIdx,if_pos hk]
  rcases h.2 with⟨_,h0⟩|⟨g,cap,cur,hv,hg,hh',hnc,hcm,hcs,ht⟩
  ·omega
  ·simp only[Value.slice.injEq,true_and] at hv;obtain⟨rfl,rfl⟩:=hv;have hcl:cur.toList.length=c*3:=by rw[Array.length_toList];exact hcs
   have ecur:cur.toList=zaC l++cur.toList.drop (l.length*3):=by rw[←ht,List.take_append_drop]
   refine(zqp pb pd b pl nx l g c k (cur.toList.drop (l.length*3)) w (by rw[←ecur,Array.toArray_toList];exact hh') (by rw[List.length_drop,hcl];omega) hnc (by unfold maxLen at hcm;omega) hlen hh (fun e=>n1 ⟨_,rfl,e⟩) (fun e=>n2 ⟨_,rfl,e⟩) (fun e=>n3 ⟨_,rfl,e⟩) hk hk1 hk3 hi (zit h)).mono ?_;rintro e w' ⟨rfl,⟨cur',g',l',t'⟩,ho⟩;refine⟨by rw[hel],⟨zb4 _,Or.inr ⟨g,c,cur'.toArray,rfl,Nat.zero_le _,g',by omega,hcm,by simpa using l',by rw[hel];simpa using t'⟩⟩,ho.mono (fun i e=>⟨_,rfl,e⟩)⟩
end Go.Proofs.YtlhgjplipgandaaGreat
namespace Go.Proofs.YtlhgjplipgandaaGreat
section
variable{P:Program}{ops:Array Oper}{Q:Exit→Act→World→Prop}{S:World→Prop}{d:Nat}
def zbY(P:Program)(ops:Array Oper)(Q:Exit→Act→World→Prop)(S:World→Prop)(d:Nat):Nat→Array Bool→Act→World→Prop
 |0,ls,a,w=>Region.ready .any ops ls=[]∧Q .normal a w
 |k+1,ls,a,w=>(Region.ready .any ops ls=[]→Q .normal a w)∧∀i∈Region.ready .any ops ls,wpOp P ops Q i (fun a' w'=>(i ≠ d→S w')∧zbY P ops Q S d k (ls.setIfInBounds i true) a' w') a w
theorem zhi:∀(k:Nat) (ls:Array Bool) (a:Act) (w:World),zbY P ops Q S d k ls a w→wpAny P .any ops Q k ls a w
 |0,_,_,_,h=>h
 |k+1,_,_,_,h=>⟨h.1,fun i hi=>wpOp_mono (fun a' w' h'=>zhi k _ a' w' h'.2) (h.2 i hi)⟩
theorem zaJ{id:Nat}{a:Act}{w:World}(hm:P.follows .mixedOrders=true)(h:zbY P ops Q S d ops.size (Array.replicate ops.size false) a w.drew):(Code.region id ops true).wp P Q a w :=
 wp_region_any hm (zhi _ _ _ _ h)
def zf7(ops:Array Oper)(d i:Nat):Bool:=match ops[d]? with|some o=>o.after.any fun e=>Region.binds .any e&&e.on==i|none=>false
theorem zpr{i:Nat}{ls:Array Bool}(hw:zf7 ops d i=true)(hi:i∈Region.ready .any ops ls):d ∉ Region.ready .any ops ls:=by
 intro hd;obtain⟨_,o,ho,hall⟩:=mem_ready.1 hd;simp only[zf7,ho] at hw;obtain⟨e,he,hb⟩:=Array.any_eq_true'.1 hw;simp only[Bool.and_eq_true,beq_iff_eq] at hb;have h1:=hall e he hb.1;have h0:=(mem_ready.1 hi).1;rw[hb.2] at h1
 rcases Nat.lt_or_ge i ls.size with h'|h'
 ·simp[h'] at h0 h1;rw[h0] at h1;cases h1
 ·simp[Array.getElem?_eq_none h'] at h1
theorem znR{i:Nat}{oi:Oper}{v:Value}(hi:ops[i]?=some oi)(hsel:∀(j:Nat) (o:Oper) cs b,ops[j]?=some o→o.op ≠ .select cs b)(hw:zf7 ops d i=true)
  (hQ:∀c a w,Q (.panic c) (a.put oi.dst v) w→Q (.panic c) a w):∀(k:Nat) (ls:Array Bool) (a:Act) (w:World),
   (∀j oj,ops[j]?=some oj→j ≠ i→ls.getD j true=false→(∀e∈oj.after,Region.binds .any e=true→e.on ≠ i)→oi.apart ops oj=true) →
   i∈Region.ready .any ops ls→YieldsIf P ops S oi v a→S w→zbY P ops Q S d k (ls.setIfInBounds i true) (a.put oi.dst v) w→zbY P ops Q S d (k+1) ls a w:=by
 intro k
 induction k with
 |zero =>
  intro ls a w _ hr hy hS H;refine⟨fun h=>(by rw[h] at hr;cases hr),fun j hj=>?_⟩
  by_cases e:j=i
  ·subst e;exact hy.wpOp hi hS ⟨fun _=>hS,H⟩
  ·have:=ready_mono hj e;rw[H.1] at this;cases this
 |succ k ih =>
  intro ls a w hfree hr hy hS H;refine⟨fun h=>(by rw[h] at hr;cases hr),fun j hj=>?_⟩
  by_cases e:j=i
  ·subst e;exact hy.wpOp hi hS ⟨fun _=>hS,H⟩
  have jd:j ≠ d:=fun e'=>zpr hw hr (e'▸hj)
  have h1:=H.2 j (ready_mono hj e);obtain⟨hun,oj,hoj,hall⟩:=mem_ready.1 hj;have hno:∀x∈oj.after,Region.binds .any x=true→x.on ≠ i:=fun x hx hb he=>by
   have h1:=hall x hx hb;have h0:=(mem_ready.1 hr).1;rw[he] at h1
   rcases Nat.lt_or_ge i ls.size with h'|h'
   ·simp[h'] at h0 h1;rw[h0] at h1;cases h1
   ·simp[Array.getElem?_eq_none h'] at h1
  have h2:=wpOp_putIf hoj (hfree j oj hoj e hun hno) (fun cs b=>hsel i oi cs b hi) (fun cs b=>hsel j oj cs b hoj) hQ hy h1;refine wpOp_mono (fun a' w' h3=>⟨fun _=>h3.2.1 jd,ih (ls.setIfInBounds j true) a' w' (fun m om hm hmi hmu hmn=>hfree m om hm hmi ?_ hmn) (ready_mono hr (Ne.symm e)) h3.1 (h3.2.1 jd) ?_⟩) h2
  ·by_cases hjm:j=m
   ·subst hjm;exact hun
   ·rw[getD_set_ne true hjm] at hmu;exact hmu
  ·rw[Array.setIfInBounds_comm _ _ e];exact h3.2.2
theorem zi{i:Nat}{oi:Oper}{v:Value}{k:Nat}{ls:Array Bool}{a:Act}{w:World}(hi:ops[i]?=some oi)(hs:Region.noSelect ops=true)(hf:Region.free .any ops ls i=true)(hr:(Region.ready .any ops ls).contains i=true)(hw:zf7 ops d i=true)
  (hQ:∀c a w,Q (.panic c) (a.put oi.dst v) w→Q (.panic c) a w) (hy:YieldsIf P ops S oi v a) (hS:S w) (h:zbY P ops Q S d k (ls.setIfInBounds i true) (a.put oi.dst v) w):zbY P ops Q S d (k+1) ls a w :=
 znR hi (Region.noSelect_spec hs) hw hQ k ls a w (Region.free_spec hi hf) (by simpa using hr) hy hS h
theorem tk{P:Program}{ops:Array Oper}{Q:Exit→Act→World→Prop}{S:World→Prop}{d:Nat}(i:Nat){oi:Oper}(v:Value){k:Nat}{ls:Array Bool}{a:Act}{w:World}(hi:ops[i]?=some oi)(hy:YieldsIf P ops S oi v a)(hS:S w)(h:zbY P ops Q S d k (ls.setIfInBounds i true) (a.put oi.dst v) w)(hs:Region.noSelect ops=true:=by kernel_rfl)(hf:Region.free .any ops ls i=true:=by kernel_rfl)(hr:(Region.ready .any ops ls).contains i=true:=by kernel_rfl)(hw:zf7 ops d i=true:=by kernel_rfl)(hQ:∀c a w,Q (.panic c) (a.put oi.dst v) w→Q (.panic c) a w:=by exact fun _ _ _ h=>h):zbY P ops Q S d (k+1) ls a w:=zi hi hs hf hr hw hQ hy hS h
theorem zw{i:Nat}{oi:Oper}{k:Nat}{ls:Array Bool}{a:Act}{w:World}(hi:ops[i]?=some oi)(hr:Region.ready .any ops ls=[i])
  (h:∀K,(∀a' w',(i ≠ d→S w')→zbY P ops Q S d k (ls.setIfInBounds i true) a' w'→K a' w')→if Region.wanted oi (yielded ops a.tmps)=true then Oper.wp P oi a w K Q else K (a.put oi.dst undef) w):zbY P ops Q S d (k+1) ls a w:=by
 refine⟨fun h0=>(by rw[hr] at h0;cases h0),fun j hj=>?_⟩;rw[hr] at hj;obtain rfl:=List.mem_singleton.1 hj;exact wpOp_step hi (fun K' hK=>h K' (fun a w h1 h2=>hK a w ⟨h1,h2⟩))
theorem zlh{i j:Nat}{oi oj:Oper}{k:Nat}{ls:Array Bool}{a:Act}{w:World}(hi:ops[i]?=some oi)(hj:ops[j]?=some oj)(hr:Region.ready .any ops ls=[i,j])
  (h1:∀K,(∀a' w',(i ≠ d→S w')→zbY P ops Q S d k (ls.setIfInBounds i true) a' w'→K a' w')→if Region.wanted oi (yielded ops a.tmps)=true then Oper.wp P oi a w K Q else K (a.put oi.dst undef) w)
  (h2:∀K,(∀a' w',(j ≠ d→S w')→zbY P ops Q S d k (ls.setIfInBounds j true) a' w'→K a' w')→if Region.wanted oj (yielded ops a.tmps)=true then Oper.wp P oj a w K Q else K (a.put oj.dst undef) w):zbY P ops Q S d (k+1) ls a w:=by
 refine⟨fun h0=>(by rw[hr] at h0;cases h0),fun x hx=>?_⟩;rw[hr] at hx
 rcases List.mem_cons.1 hx with rfl|hx
 ·exact wpOp_step hi (fun K' hK=>h1 K' (fun a w h1 h2=>hK a w ⟨h1,h2⟩))
 ·obtain rfl:=List.mem_singleton.1 hx;exact wpOp_step hj (fun K' hK=>h2 K' (fun a w h1 h2=>hK a w ⟨h1,h2⟩))
theorem zaO{ls:Array Bool}{a:Act}{w:World}(hr:Region.ready .any ops ls=[])(h:Q .normal a w):∀k,zbY P ops Q S d k ls a w
 |0=>⟨hr,h⟩
 |_+1=>⟨fun _=>h,by rw[hr];simp⟩
end
end Go.Proofs.YtlhgjplipgandaaGreat
