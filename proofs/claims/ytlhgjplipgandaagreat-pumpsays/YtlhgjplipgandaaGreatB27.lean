/- Joined texts: RXt, RBoth, RStk3. -/
import Derived.Test.YtlhgjplipgandaaGreatB26
set_option maxRecDepth 100000
set_option maxHeartbeats 8000000
set_option linter.unusedSimpArgs false
namespace Go.Proofs.YtlhgjplipgandaaGreat
open Go.RowKit Go.BigFrame Go.Maps
section
variable{s:Nat}{p:Sk}{A:Rs}{w w':World}
theorem zH.foreign(h:zH s p A w)(h':zH s p A w')(X':Nat→Prop)(hX:∀k,X' k→A.X k∨w.heap.size≤k)(hl:∀k,X' k→k<w'.heap.size):zH s p { A with X:=X' } w':=by
 have hO:∀k,({ A with X:=X' }:Rs).off s k→A.off s k∨w.heap.size≤k:=fun k hk=>by
  rcases hk with hk|hk
  ·exact Or.inl (Or.inl hk)
  ·exact(hX k hk).imp Or.inr id
 have nf:∀{k:Nat},¬A.off s k→k<w.heap.size→¬({ A with X:=X' }:Rs).off s k:=fun h1 h2 e=>(hO _ e).elim h1 (fun h3=>by omega)
 exact⟨h'.blk,{
  cl3:=h'.mem.cl3
  drv:=h'.mem.drv
  tied:=h'.mem.tied
  busy:=h'.mem.busy
  map:=h'.mem.map
  im:=h'.mem.im
  nb:=h'.mem.nb
  wb:=h'.mem.wb
  hand:=h'.mem.hand
  hnil:=h'.mem.hnil
  hcap:=h'.mem.hcap
  queue:=h'.mem.queue
  qnil:=h'.mem.qnil
  qcap:=h'.mem.qcap
  asks:=h'.mem.asks
  idle:=h'.mem.idle
  sv:=h'.mem.sv
  kv:=h'.mem.kv
  kk:=h'.mem.kk
  hoff:=fun hne q hq=>nf (h.mem.hoff hne q hq) (zjl h.mem.hand hne hq)
  qoff:=fun hne q hq=>nf (h.mem.qoff hne q hq) (zfu h.mem.queue hne hq)
  roff:=fun r hr=>by
   have hat:r.At w:=by
    rcases List.mem_append.1 hr with h2|h2
    ·exact h.mem.queue.2.1 r h2
    ·rw[←h.mem.busy] at h2;exact h.mem.drv.dev.lrow.2.1 r h2
   exact Rq.Off.step hat (h.mem.roff r hr) hO
  loff:=fun i hi k hk hne q hq=>nf (h.mem.loff i hi k hk hne q hq) (zdp (h.mem.asks i hi k hk).ints hne hq)
  doff:=fun hne q hq=>nf (h.mem.doff hne q hq) (zfu h.mem.drv.dev.lrow (by rw[h.mem.busy];exact hne) hq)
  xlt:=hl }⟩
theorem zv.foreign{A:Sa}(h:zv s p A w)(h':zv s p A w')(X':Nat→Prop)(hX:∀k,X' k→A.X k∨w.heap.size≤k)(hl:∀k,X' k→k<w'.heap.size):zv s p { A with X:=X' } w':=by
 have hO:∀k,({ A with X:=X' }:Sa).off s k→A.off s k∨w.heap.size≤k:=fun k hk=>by
  rcases hk with hk|hk
  ·exact Or.inl (Or.inl hk)
  ·exact(hX k hk).imp Or.inr id
 have nf:∀{k:Nat},¬A.off s k→k<w.heap.size→¬({ A with X:=X' }:Sa).off s k:=fun h1 h2 e=>(hO _ e).elim h1 (fun h3=>by omega)
 exact⟨h'.blk,{
  drv:=h'.mem.drv
  map:=h'.mem.map
  im:=h'.mem.im
  nb:=h'.mem.nb
  hand:=h'.mem.hand
  hnil:=h'.mem.hnil
  hcap:=h'.mem.hcap
  queue:=h'.mem.queue
  qnil:=h'.mem.qnil
  qcap:=h'.mem.qcap
  left:=h'.mem.left
  sv:=h'.mem.sv
  vl:=h'.mem.vl
  ll:=h'.mem.ll
  hoffX:=fun hne q hq=>nf (h.mem.hoffX hne q hq) (zjl h.mem.hand hne hq)
  qoffX:=fun hne q hq=>nf (h.mem.qoffX hne q hq) (zfu h.mem.queue hne hq)
  roffX:=fun r hr=>by
   have hat:r.At w:=by
    rcases List.mem_append.1 hr with h2|h2
    ·exact h.mem.queue.2.1 r h2
    ·exact(h.mem.drv.dev.reqs r h2).1
   exact Rq.Off.step hat (h.mem.roffX r hr) hO
  xlt:=hl }⟩
end
structure zc1(s k:Nat)(p p2:Sk)(A:Sa)(B:Rs)(w:World):Prop where
 one:zv s p A w
 two:zH k p2 B w
 xa:A.X=B.foot k
 xb:B.X=A.foot s
 apart:∀j,A.foot s j→¬B.foot k j
 av:¬B.foot k A.v
 bv:¬A.foot s B.v
section
variable{s k:Nat}{p p' p2 p2':Sk}{A A':Sa}{B B':Rs}{w w':World}
theorem zc1.later(h:zc1 s k p p2 A B w)(hb:Below w.heap.size w w'):zc1 s k p p2 A B w':=⟨h.one.later hb,h.two.later hb,h.xa,h.xb,h.apart,h.av,h.bv⟩
theorem zc1.code(h:zc1 s k p p2 A B w)(hs:zG s p A p' A' w w'):zc1 s k p' p2 A' { B with X:=A'.foot s } w':=by
 have hx:∀j,A.foot s j→B.off k j:=fun j hj=>Or.inr (by rw[h.xb];exact hj)
 have hoff:∀{q:Nat},¬B.off k q→¬A.foot s q:=fun h1 e=>h1 (hx _ e)
 have h2:zH k p2 B w':=h.two.frame hs.only (fun j hj e=>h.apart j e hj) h.bv (fun hne q hq=>hoff (h.two.mem.hoff hne q hq)) (fun hne q hq=>hoff (h.two.mem.qoff hne q hq)) (fun r hr=>(h.two.mem.roff r hr).mono hx) (fun i hi j hj hne q hq=>hoff (h.two.mem.loff i hi j hj hne q hq)) (fun hne q hq=>hoff (h.two.mem.doff hne q hq));refine⟨hs.at',h.two.foreign h2 (A'.foot s) (fun j hj=>(hs.foot j hj).imp (fun e=>by rw[h.xb];exact e) id) (fun j hj=>hs.at'.footLt j hj),by rw[hs.same.2.2.2];exact h.xa,rfl,fun j hj e=>?_,?_,fun e=>?_⟩
 ·rcases hs.foot j hj with h1|h1
  ·exact h.apart j h1 e
  ·have:=h.two.footLt j e;omega
 ·rw[hs.same.2.1];exact h.av
 ·rcases hs.foot _ e with h1|h1
  ·exact h.bv h1
  ·have h3:w.heap.size≤B.v:=h1;have:=zz h.two.mem.drv.blk;omega
theorem zc1.ref(h:zc1 s k p p2 A B w)(hs:zE k p2 B p2' B' w w'):zc1 s k p p2' { A with X:=B'.foot k } B' w':=by
 have hx:∀j,B.foot k j→A.off s j:=fun j hj=>Or.inr (by rw[h.xa];exact hj)
 have hoff:∀{q:Nat},¬A.off s q→¬B.foot k q:=fun h1 e=>h1 (hx _ e)
 have h2:zv s p A w':=h.one.frame hs.only (fun j hj e=>h.apart j hj e) h.av (fun hne q hq=>hoff (h.one.mem.hoffX hne q hq)) (fun hne q hq=>hoff (h.one.mem.qoffX hne q hq)) (fun r hr=>(h.one.mem.roffX r hr).mono hx);refine⟨h.one.foreign h2 (B'.foot k) (fun j hj=>(hs.foot j hj).imp (fun e=>by rw[h.xa];exact e) id) (fun j hj=>hs.at'.footLt j hj),hs.at',rfl,by rw[hs.same.2.2.2];exact h.xb,fun j hj e=>?_,fun e=>?_,?_⟩
 ·rcases hs.foot j e with h1|h1
  ·exact h.apart j hj h1
  ·have:=h.one.footLt j hj;omega
 ·rcases hs.foot _ e with h1|h1
  ·exact h.av h1
  ·have h3:w.heap.size≤A.v:=h1;have:=zz h.one.mem.drv.blk;omega
 ·rw[hs.same.2.1];exact h.bv
end
end Go.Proofs.YtlhgjplipgandaaGreat
namespace Go.Proofs.YtlhgjplipgandaaGreat
open Go.RowKit Go.BigFrame Go.Maps
attribute [local go_sem] ze.cell ze.frozen
theorem zcE(s:Nat)(p:Sk)(A:Rs)(w:World)(h:zH s p A w)(c:Nat)(hc:c<3)(d:ByteArray)(f:Int):Calls Tryz.prog 67 #[.pointer (some ⟨s,0,none⟩),.int .i64 c,.string d,.int .i64 f] w fun e w'=>e=.returned (.tuple #[])∧zE s p A (p.answer c d f) { A with ka:=upd A.ka c none } w w':=by
 obtain⟨a1,a2⟩:=h.c11 hc;obtain⟨b1,b2⟩:=h.c14 hc;obtain⟨c1,c2⟩:=h.c17 hc;have hl:=h.lt;have hc0:(0:Int)≤(c:Int):=by omega
 have hc3:(c:Int)<3:=by omega
 have HST:=za (h.answer hc d f);clear h;generalize zdv A c=av at *;generalize (p.client c).got=gv at *;generalize (p.client c).err=ev at *;go_enter Tryz.func67,Tryz.ntmps67;go_wp2;go_end0;exact⟨rfl,HST.out⟩
def ze3(c:Cl):Prop:=c.err=0∨(0<c.err∧c.got=ByteArray.empty)
theorem zqQ(s:Nat)(p:Sk)(A:Rs)(w:World)(h:zH s p A w)(c:Nat)(hc:c<3)(hg:ze3 (p.client c)):Calls Tryz.prog 34 #[.pointer (some ⟨s,0,none⟩),.int .i64 c] w fun e w'=>e=.returned (.tuple #[.string (p.client c).got,.int .i64 (p.client c).err])∧Below w.heap.size w w':=by
 obtain⟨b1,-⟩:=h.c14 hc;obtain⟨c1,-⟩:=h.c17 hc;have hl:=h.lt;have hc0:(0:Int)≤(c:Int):=by omega
 have hc3:(c:Int)<3:=by omega
 clear h;unfold ze3 at hg;generalize (p.client c).got=gv at *;generalize (p.client c).err=ev at *
 rcases hg with rfl|⟨h0,rfl⟩
 ·go_enter Tryz.func34,Tryz.ntmps34;go_wp2
  go_ret2
  exact⟨rfl,Below.refl _ _⟩
 ·go_enter Tryz.func34,Tryz.ntmps34;go_wp2_with fail
  go_region
  go_wp2
  go_ret2
  exact⟨rfl,(Below.refl _ _).drew⟩
def zgD(b v bm:Nat)(m:Rd)(ra:Ra)(cnt:Nat):Rs:=⟨b,v,bm,m,ra,0,.map [],fun _=>none,fun _=>none,fun _=>0,fun _=>[],none,0,none,0,fun _=>False,cnt⟩
theorem zgj(b:Nat)(d:Dl)(m:Rd)(ra:Ra)(w:World)(h:zak b m ra w)(ht:zbu d m)(hb:m.busy=[])(hd:d.busy=[])(cnt:Nat)(hw:m.waits.length≤4*cnt) :
  Calls Tryz.prog 9 #[.pointer (some ⟨b,0,none⟩)] w fun e w'=>∃s v bm,e=.returned (.pointer (some ⟨s,0,none⟩))∧zH s { sk0 with dev:=d } (zgD b v bm m ra cnt) w'∧Below w.heap.size w w'∧w.heap.size≤s∧w.heap.size≤v∧w.heap.size≤bm:=by
 have HD:=za h;have HT:=za (And.intro ht (And.intro hb (And.intro hd hw)));have hbl:=h.lt;clear h ht hb hd hw;have hmm:=@run_makeMap Tryz.prog;go_enter Tryz.func9,Tryz.ntmps9;go_wp2;go_ret;have hbA:=zn w (.map #[] 0);have hbB:=zn (w.alloc (.map #[] 0)) (.cells #[.pointer (some ⟨b,0,none⟩),.map (some w.heap.size)] 67);have hbC:=zn ((w.alloc (.map #[] 0)).alloc (.cells #[.pointer (some ⟨b,0,none⟩),.map (some w.heap.size)] 67)) (.cells (Rs.cells { sk0 with dev:=d } (zgD b (w.heap.size+1) w.heap.size m ra cnt)).toArray 73);have hbN:=zb (zb hbA hbB) hbC;have hr:zbF (w.heap.size+1) b w.heap.size m ra 0 (.map []) (((w.alloc (.map #[] 0)).alloc (.cells #[.pointer (some ⟨b,0,none⟩),.map (some w.heap.size)] 67)).alloc (.cells (Rs.cells { sk0 with dev:=d } (zgD b (w.heap.size+1) w.heap.size m ra cnt)).toArray 73)):=by
  refine⟨HD.out.later hbN,?_,?_,fun k hk=>by have:=HD.out.footLt k hk;omega⟩
  ·have:=heap_alloc_new (w.alloc (.map #[] 0)) (.cells #[.pointer (some ⟨b,0,none⟩),.map (some w.heap.size)] 67);rw[World.size_alloc] at this;rw[hbC.block _ (by simp)];exact this
  ·have:=(World.ownsMap_made w Tryz.prog 3 (plainElem (H:=Unit) Tryz.prog 3))
   exact zca (zca this (hbB.block _ (by simp))) (hbC.block _ (by simp;omega))
 refine⟨w.heap.size+1+1,w.heap.size+1,w.heap.size,by simp,⟨?_,?_⟩,hbN,by omega,by omega,by omega⟩
 ·have:=heap_alloc_new ((w.alloc (.map #[] 0)).alloc (.cells #[.pointer (some ⟨b,0,none⟩),.map (some w.heap.size)] 67)) (.cells (Rs.cells { sk0 with dev:=d } (zgD b (w.heap.size+1) w.heap.size m ra cnt)).toArray 73);rw[World.size_alloc,World.size_alloc] at this;exact this
 ·obtain⟨ht,hb,hd,hw⟩:=HT.out;exact {
   cl3:=rfl
   drv:=hr
   tied:=ht
   busy:=hb.trans hd.symm
   map:=zjn
   im:=⟨[],rfl⟩
   nb:=Nat.zero_le _
   wb:=hw
   hand:=⟨Or.inl rfl,by show 0≤_;omega⟩
   hnil:=fun _=>rfl
   hcap:=Nat.le_refl 0
   queue:=⟨Or.inl rfl,(fun r hr=>by cases hr),by show 0≤_;omega⟩
   qnil:=fun _=>rfl
   qcap:=Nat.le_refl 0
   asks:=fun i _ k hk=>by cases hk
   idle:=fun i hi _=>by
    match i,hi with
    |0,_=>rfl
    |1,_=>rfl
    |2,_=>rfl
   sv:=⟨fun e=>by
    rcases e with e|e
    ·have e':w.heap.size+1+1=w.heap.size:=e
     omega
    ·have:=HD.out.footLt _ e;omega,fun e=>by have e':w.heap.size+1+1=w.heap.size+1:=e;omega⟩
   kv:=fun i _ k hk=>by cases hk
   kk:=fun i j _ _ _ k hk=>by cases hk
   hoff:=fun hne=>absurd rfl hne
   qoff:=fun hne=>absurd rfl hne
   roff:=fun r hr=>by
    have hr':r∈([]:List Rq)++d.busy:=hr;rw[hd] at hr'
    cases hr'
   loff:=fun i _ k hk=>by cases hk
   doff:=fun hne=>absurd hd hne
   xlt:=fun _ e=>e.elim }
def zW(l:List Bool):List Value:=l.map Value.bool
theorem zgJ(l:List Bool):∀v∈zW l,v.oneCell'=true:=by
 intro v hv;simp only[zW,List.mem_map] at hv;obtain⟨s,_,rfl⟩:=hv
 rfl
theorem zfD:(Tryz.prog.info? 104).map (·.size)=some 32:=by kernel_rfl
def zav(L:List Rq):List Bool:=(List.range 32).map fun(j:Nat)=>L.any fun r=>zam r.f r.m (j:Int)
def zdg(L:List Rq)(F n:Nat):List Bool:=(List.range 32).map fun(j:Nat)=>(L.any fun r=>zam r.f r.m (j:Int))||decide (F≤j∧j<F+n)
theorem zeT(L:List Rq):(zav L).length=32:=by simp[zav]
theorem ze0(L:List Rq)(F n:Nat):(zdg L F n).length=32:=by simp[zdg]
theorem zoO:zav []=List.replicate 32 false:=by decide +kernel
theorem zn1(L:List Rq)(F:Nat):zdg L F 0=zav L:=by
 unfold zdg zav;apply List.map_congr_left;intro j _;rw[decide_eq_false (by omega),Bool.or_false]
theorem znw(L:List Rq)(F n:Nat):(zdg L F n).set (F+n) true=zdg L F (n+1):=by
 apply List.ext_getElem
 ·rw[List.length_set,ze0,ze0]
 ·intro j h1 h2;rw[List.getElem_set];have hj:j<32:=by rw[ze0] at h2;exact h2
  by_cases e:F+n=j
  ·rw[if_pos e];subst e;simp only[zdg,List.getElem_map,List.getElem_range];rw[decide_eq_true (by omega),Bool.or_true]
  ·rw[if_neg e];simp only[zdg,List.getElem_map,List.getElem_range]
   congr 1
   by_cases h3:F≤j∧j<F+n
   ·rw[decide_eq_true h3,decide_eq_true (by omega)]
   ·rw[decide_eq_false h3,decide_eq_false (by omega)]
theorem zo5(L:List Rq)(r:Rq)(gr:zA r)(F M:Nat)(hf:r.f.toNat=F)(hm:r.m.toNat=M):zdg L F M=zav (L++[r]):=by
 unfold zdg zav;apply List.map_congr_left;intro j hj;rw[List.any_append,List.any_cons,List.any_nil,Bool.or_false,zgN r gr j (List.mem_range.1 hj),hf,hm]
theorem zlH(L:List Rq)(j:Nat)(h:j<32):(zW (zav L)).toArray[j]?=some (.bool (L.any fun r=>zam r.f r.m (j:Int))):=by
 simp[zW,zav,h]
theorem hits(r:Rq)(g:zA r):∃F M:Nat,r.f=F∧r.m=M∧F+M≤32∧1≤M∧M≤4∧r.f.toNat=F∧r.m.toNat=M:=zlN r g
theorem zdt(s:Nat)(p:Sk)(A:Rs)(w:World)(h:zH s p A w)(hI:Inv p):Calls Tryz.prog 52 #[.pointer (some ⟨s,0,none⟩)] w fun e w'=>e=.returned (.agg (zW (zav (p.queue++p.dev.busy))).toArray)∧Below w.heap.size w w':=by
 obtain⟨iR,hR1,hR2,hR3,hR4⟩:=zaL zdX;have HR:=za (⟨hR1,hR2,hR3,hR4⟩:Tryz.prog.info? 111=some iR∧_∧_∧_);clear hR1 hR2 hR3 hR4;have HG:=za hI.good;have h6:=hI.q6;have h2:=hI.b2;have c0:=h.cell 0 _ rfl;have c3:=h.cell 3 _ rfl;have c65:=h.mem.drv.dev.c65;have hbl:=h.mem.drv.dev.lt;rw[h.mem.busy] at c65;have hl:=h.lt;have R1:=za (rowAll h.mem.queue h.mem.qnil);have R2:Hid (zaW w 6 A.ra.la p.dev.busy.length A.ra.lc (zt p.dev.busy)):=by
  have:=zi2 h.mem.drv.dev;rw[h.mem.busy] at this;exact this
 have HAT:Hid (∀r∈p.queue++p.dev.busy,r.At w):=fun r hr=>by
  rcases List.mem_append.1 hr with h'|h'
  ·exact h.mem.queue.2.1 r h'
  ·exact h.mem.drv.dev.lrow.2.1 r (by rw[h.mem.busy];exact h')
 clear h hI;go_enter Tryz.func52,Tryz.ntmps52;go_upto_region 2 with fail;refine zai (fun wz=>wz.heap[w.heap.size]?=some (.cells (zW (List.replicate 32 false)).toArray 104 (0,0))∧wz.heap[w.heap.size+1]?=some (.cells (zW (List.replicate 32 false)).toArray 104 (0,0))∧Below w.heap.size w wz∧w.heap.size+2≤wz.heap.size) ⟨?_,?_,by(with_reducible repeat first|exact Below.refl _ _|refine zc ?_ _|refine zd ?_|refine bset' ?_ (by omega) _|refine zb ?_ (by assumption)),by simp⟩ ?_
 ·exact((zn _ _).block _ (by simp)).trans (heap_alloc_new _ _)
 ·have:=heap_alloc_new (w.alloc (.cells (zW (List.replicate 32 false)).toArray 104)) (.cells (zW (List.replicate 32 false)).toArray 104);rw[World.size_alloc] at this;exact this
 rintro wz ⟨hr0,hq0,hbz,hsz⟩;have HR0:=za (And.intro hr0 hq0);have HBZ:=za hbz;have c0:=cellB_later' hbz c0;have c3:=cellB_later' hbz c3;have c65:=cellB_later' hbz c65;have R1z:=za (R1.out.later hbz);have R2z:=za (R2.out.later hbz);have hsl:s<wz.heap.size:=by omega
 have hbl2:A.b<wz.heap.size:=by omega
 clear hr0 hq0 R1 R2
 go_cut[4] (fun s4 wx=>∃a c,s4=.slice a (p.queue++p.dev.busy).length c∧zhP wz.heap.size wx a c (p.queue++p.dev.busy)∧Below wz.heap.size wz wx)
 case first =>
  obtain⟨hR1,hR2,hR3,hR4⟩:=HR.out
  go_region_held3 (fun w'=>w'.cell? ⟨s,3,none⟩=some (.slice A.qa p.queue.length A.qc)∧w'.cell? ⟨s,0,none⟩=some (.pointer (some ⟨A.b,0,none⟩))∧w'.cell? ⟨A.b,65,none⟩=some (.slice A.ra.la p.dev.busy.length A.ra.lc)) (exact⟨cellB_later' (w:=wz) (by(with_reducible repeat first|exact Below.refl _ _|refine zc ?_ _|refine zd ?_|refine bset' ?_ (by omega) _|refine zb ?_ (by assumption))) c3,cellB_later' (w:=wz) (by(with_reducible repeat first|exact Below.refl _ _|refine zc ?_ _|refine zd ?_|refine bset' ?_ (by omega) _|refine zb ?_ (by assumption))) c0,cellB_later' (w:=wz) (by(with_reducible repeat first|exact Below.refl _ _|refine zc ?_ _|refine zd ?_|refine bset' ?_ (by omega) _|refine zb ?_ (by assumption))) c65⟩) (first|(refine zbL (by rfl) (.const (.slice none 0 0)) (.tmp 10) 34 (by rfl) wz.heap.size 111 iR _ 6 80 Tryz.underlying34 hR1 hR2 hR3 hR4 rfl (by decide) (.slice none 0 0) 0 [] (by rfl) (World.ownsRow_nil _ _ _ _) A.qa p.queue.length A.qc (zt p.queue) (by simp[Act.eval]) (R1z.out.later (by(with_reducible repeat first|exact Below.refl _ _|refine zc ?_ _|refine zd ?_|refine bset' ?_ (by omega) _|refine zb ?_ (by assumption)))) (by unfold maxLen;omega) (by omega) (by simp) ?_;intro v1 wI hown1 hb1;rw[Nat.zero_add,List.nil_append] at hown1;have hB1:Below wz.heap.size wz wI:=Below.trans (by(with_reducible repeat first|exact Below.refl _ _|refine zc ?_ _|refine zd ?_|refine bset' ?_ (by omega) _|refine zb ?_ (by assumption))) hb1)|(refine zbL (by rfl) (.tmp 11) (.tmp 18) 34 (by rfl) wz.heap.size 111 iR _ 6 80 Tryz.underlying34 hR1 hR2 hR3 hR4 rfl (by decide) v1 p.queue.length (zt p.queue) (by simp[Act.eval]) (by first|exact hown1|exact za4 hown1) A.ra.la p.dev.busy.length A.ra.lc (zt p.dev.busy) (by simp[Act.eval]) (R2z.out.later (by(with_reducible repeat first|exact Below.refl _ _|refine zc ?_ _|refine zd ?_|refine bset' ?_ (by omega) _|refine zb ?_ (by assumption)))) (by unfold maxLen;omega) (by omega) (by have:=hB1.size;(try simp);omega) ?_;intro v2 wJ hown2 hb2;have hB2:Below wz.heap.size wz wJ:=(by first|exact hB1.trans hb2|exact hB1.drew.trans hb2);rw[←zaM] at hown2;obtain⟨a9,c9,rfl,hN9⟩:=zcB (l:=p.queue++p.dev.busy) hown2 (fun r hr=>(HAT.out r hr).later (zb HBZ.out hB2)) (by simp) (by simp;omega)))
  all_goals
   go_wp2
   go_meet
   case rel=>exact⟨a9,c9,by rw[List.length_append],hN9,hB2⟩
 case rest =>
  obtain⟨a,c,rfl,hN,hbx⟩:=hcut;have HN:=za hN;have HBX:=za hbx;have hq1:wc.heap[w.heap.size+1]?=some (.cells (zW (zav [])).toArray 104 (0,0)):=by rw[zoO,hbx.block _ (by omega)];exact HR0.out.2
  have hr1:wc.heap[w.heap.size]?=some (.cells (zW (List.replicate 32 false)).toArray 104 (0,0)):=by rw[hbx.block _ (by omega)];exact HR0.out.1
  have HR1:=za (And.intro hr1 hq1);have hcz:=hbx.size;have hLle:(p.queue++p.dev.busy).length≤8:=by rw[List.length_append];omega
  clear hN hbx hr1 hq1 c0 c3 c65 R1z R2z HR0 HAT hsl hbl2 hl hbl;generalize hLQ:p.queue++p.dev.busy=L at *;have HLQ:=za hLQ;clear hLQ;go_wp2_with fail
  go_loopw[5] (fun i wr=>∃k:Nat,k≤L.length∧i=.int .i64 k∧wr.heap[w.heap.size+1]?=some (.cells (zW (zav (L.take k))).toArray 104 (0,0))∧zo (fun j=>j=w.heap.size+1) wc wr) (fun i _=>L.length-(intOf i).toNat)
  case atStart=>exact⟨0,by omega,rfl,HR1.out.2,zo.refl _ _⟩
  case round =>
   obtain⟨k,hk,rfl,hq,hO⟩:=hrel;have HQ:=za hq;have HO:=za hO;clear hq hO
   by_cases hlt:k<L.length
   ·have hlt':(k:Int)<(L.length:Int):=by omega
    have hk0:(0:Int)≤(k:Int):=by omega
    have h0:L ≠ []:=by rintro rfl;exact absurd hlt (Nat.not_lt_zero _)
    obtain⟨g,o,ha⟩:=HN.out.here.form.resolve_left h0;subst ha;have hgw:=HN.out.new ⟨g,o,none⟩ rfl;simp only at hgw;have gr:zA L[k]:=HG.out _ (List.getElem_mem hlt);obtain⟨F,M,hF,hM,hFM,hM1,hM4,hF',hM'⟩:=hits L[k] gr;obtain⟨-,e1,e2,-,-,-⟩:=HN.out.here.cells hlt;rw[hF] at e1;rw[hM] at e2;have lg:=zg e1;have HE:=za (And.intro e1 e2);have HGR:=za (And.intro gr (And.intro hF' hM'));clear h0 e1 e2 gr hF hM hF' hM';go_wp2_with fail
    go_loopw[6] (fun i wq=>∃n:Nat,n≤M∧i=.int .i64 n∧wq.heap[w.heap.size+1]?=some (.cells (zW (zdg (L.take k) F n)).toArray 104 (0,0))∧zo (fun j=>j=w.heap.size+1) wc wq) (fun i _=>M-(intOf i).toNat)
    case atStart=>exact⟨0,by omega,rfl,by rw[zn1];exact HQ.out,HO.out⟩
    case round =>
     obtain⟨n,hn,rfl,hq,hO⟩:=hrel;have HQ2:=za hq;have HO2:=za hO;have e1:=(hO.cell (p:=⟨g,o+k*6+1,none⟩) lg (by show ¬g=_;omega)).trans HE.out.1;have e2:=(hO.cell (p:=⟨g,o+k*6+2,none⟩) lg (by show ¬g=_;omega)).trans HE.out.2;have lg2:g<wr.heap.size:=Nat.lt_of_lt_of_le lg hO.size;have hn0:(0:Int)≤(n:Int):=by omega
     by_cases hnl:n<M
     ·have hnl':(n:Int)<(M:Int):=by omega
      have hfn:F+n<32:=by omega
      have hfn0:(0:Int)≤(F:Int)+(n:Int):=by omega
      have hfn1:(F:Int)+(n:Int)<32:=by omega
      obtain⟨bb,hbb⟩:∃bb,(zdg (L.take k) F n)[F+n]?=some bb:=⟨_,List.getElem?_eq_getElem (by rw[ze0];exact hfn)⟩
      have d1:wr.cell? ⟨w.heap.size+1,F+n,none⟩=some (.bool bb):=by rw[zy hq];simp[zW,hbb]
      have d2:wr.frozen? ⟨w.heap.size+1,F+n,none⟩=false:=zac hq _;have hql:=zz hq;have HSET:=za (zK hq (F+n) (.bool true));clear hq hO hbb;go_wp2;go_roundw
      case rel =>
       refine⟨n+1,by omega,by go_num,?_,HO2.out.setCell _ (Or.inl rfl) _⟩;rw[HSET.out]
       congr 2
       rw[←znw _ _ _]
       simp[zW,List.map_set]
      case measure=>simp[intOf];omega
     ·obtain rfl:n=M:=by omega
      clear hq hO;go_wp2;go_roundw
      case rel =>
       refine⟨k+1,by omega,by go_num,?_,HO2.out⟩;rw[HQ2.out,zo5 _ _ HGR.out.1 _ _ HGR.out.2.1 HGR.out.2.2,List.take_succ_eq_append_getElem hlt]
      case measure=>simp[intOf];omega
   ·obtain rfl:k=L.length:=by omega
    rw[List.take_length] at HQ;have hq:=HQ.out;have hr:wr.heap[w.heap.size]?=some (.cells (zW (List.replicate 32 false)).toArray 104 (0,0)):=by rw[HO.out.block _ (by omega) (by omega)];exact HR1.out.1
    have HRG:Hid (wr.rangeAt (w.heap.size+1) 0 (zW (zav L))):=fun j v hv=>by rw[Nat.zero_add,zy hq];exact hv
    have HTH:Hid (wr.there w.heap.size 0 32):=fun j hj=>by
     refine⟨?_,zac hr _⟩;rw[zy hr,List.getElem?_eq_getElem (by rw[zW,List.length_map,List.length_replicate];omega)]
     rfl
    have HSZ:Hid ((zW (zav L)).length=32):=by show _=_;rw[zW,List.length_map,zeT]
    have HB9:Hid (Below w.heap.size w wr):=(zb HBZ.out HBX.out).trans (HO.out.below (by omega) (fun i e=>by omega));have HRS:Hid ((wr.setCells w.heap.size 0 (zW (zav L))).rangeAt w.heap.size 0 (zW (zav L))):=by
     have h1:=zcC w.heap.size 104 (zW (zav L)) 0 _ _ hr (by rw[HSZ.out,zW,List.length_map,List.length_replicate];omega);have h2:splice (zW (List.replicate 32 false)) 0 (zW (zav L))=zW (zav L):=by
      have e:(zW (List.replicate 32 false)).length=32:=by rw[zW,List.length_map,List.length_replicate]
      unfold splice;rw[List.take_zero,List.nil_append,HSZ.out,List.drop_eq_nil_of_le (by omega),List.append_nil]
     rw[h2] at h1;exact fun j v hv=>by rw[Nat.zero_add,zy h1];exact hv
    have hlv:=run_loadVar_mid (P:=Tryz.prog) (wr.setCells w.heap.size 0 (zW (zav L))) w.heap.size 0 104 (zW (zav L)) _ HRS.out Tryz.underlying104 rfl (by rw[HSZ.out];exact zfD);have HLV:=za hlv;clear hq hr hlv;go_wp2_with(first|(refine wpList_load_mid rfl 104 (.tmp 3) rfl (w.heap.size+1) 0 rfl (zW (zav L)) _ HRG.out Tryz.underlying104 rfl (by rw[HSZ.out];exact zfD) ?_)|(refine wpList_store_mid rfl 104 (.tmp 2) (.tmp 45) rfl w.heap.size 0 (zW (zav L)).toArray rfl rfl (by rw[show(zW (zav L)).toArray.size=32 from HSZ.out];exact HTH.out) (by rw[show(zW (zav L)).toArray.size=32 from HSZ.out];exact zfD) (all_oneCell_toArray (zgJ _)) ?_;simp only));refine bodyPost_ret (v:=.agg (zW (zav L)).toArray) (by simp[results,Tryz.results52,Act.put,asAddr,Sem.run_pure,Result.andThen,HLV.out]) rfl ⟨by rw[HLQ.out],HB9.out.trans ((zdc (F:=fun j=>w.heap.size≤j) w.heap.size (Or.inl (Nat.le_refl _)) _ _ _ (zo.refl _ _)).below (HB9.out.size) (fun i e=>e))⟩
section
variable{s:Nat}{p:Sk}{A:Sa}{w:World}
theorem zv.cell(h:zv s p A w)(j:Nat)(u:Value)(hj:(p.cells A)[j]?=some u):w.cell? ⟨s,j,none⟩=some u:=(zy h.blk j).trans hj
theorem zv.fz(h:zv s p A w)(j:Nat):w.frozen? ⟨s,j,none⟩=false:=zac h.blk j
theorem zv.client(h:zv s p A w)(i:Nat)(hi:i<3):w.cell? ⟨s,2+i*6,none⟩=some (.int .i64 (p.client i).kind)∧w.cell? ⟨s,2+i*6+1,none⟩=some (.int .i64 (p.client i).pl)∧w.cell? ⟨s,2+i*6+2,none⟩=some (.string (p.client i).data)∧w.cell? ⟨s,2+i*6+3,none⟩=some (.slice (A.la i) (p.client i).left.length (A.lc i))∧w.cell? ⟨s,2+i*6+4,none⟩=some (.string (p.client i).got)∧w.cell? ⟨s,2+i*6+5,none⟩=some (zae (p.client i).err):=by
 match i,hi with
 |0,_=>exact⟨h.cell _ _ rfl,h.cell _ _ rfl,h.cell _ _ rfl,h.cell _ _ rfl,h.cell _ _ rfl,h.cell _ _ rfl⟩
 |1,_=>exact⟨h.cell _ _ rfl,h.cell _ _ rfl,h.cell _ _ rfl,h.cell _ _ rfl,h.cell _ _ rfl,h.cell _ _ rfl⟩
 |2,_=>exact⟨h.cell _ _ rfl,h.cell _ _ rfl,h.cell _ _ rfl,h.cell _ _ rfl,h.cell _ _ rfl,h.cell _ _ rfl⟩
end
theorem zaA(c:Int)(w:World)(t:Bool)(ht:decide (0≤c∧c<3)=t):Calls Tryz.prog 43 #[.int .i64 c] w fun e w'=>e=.returned (.bool t)∧w'=w:=by
 subst ht
 by_cases h0:0≤c
 ·by_cases h3:c<3
  ·go_enter Tryz.func43,Tryz.ntmps43;go_wp2;go_ret;exact⟨zad (by simp[h0,h3]),rfl⟩
  ·go_enter Tryz.func43,Tryz.ntmps43;go_wp2;go_ret;exact⟨zad (by simp[h3]),rfl⟩
 ·have HC:=za h0;go_enter Tryz.func43,Tryz.ntmps43;go_wp2;go_ret;exact⟨zad (by have:=HC.out;rw[decide_eq_false (show ¬(0:Int)≤c by omega)];rfl),rfl⟩
theorem zcT(s:Nat)(p:Sk)(A:Sa)(c:Int)(w:World)(h:zv s p A w)(t:Bool)(ht:p.waits c=t):Calls Tryz.prog 33 #[.pointer (some ⟨s,0,none⟩),.int .i64 c] w fun e w'=>e=.returned (.bool t)∧w'=w:=by
 subst ht
 by_cases hc:0≤c∧c<3
 ·obtain⟨i,rfl⟩:∃i:Nat,c=i:=⟨c.toNat,by omega⟩
  have hi:i<3:=by omega
  have hl:=h.lt;obtain⟨c0,-⟩:=h.client i hi;have e:p.waits (i:Int)=((p.client i).kind != 0):=by
   unfold Sk.waits;rw[decide_eq_true hc,Bool.true_and,Int.toNat_natCast]
   rfl
  rw[e];have hi0:(0:Int)≤(i:Int):=by omega
  have hi3:(i:Int)<3:=by omega
  have HC:=za hc;clear h e hc;go_enter Tryz.func33,Tryz.ntmps33;go_wp2_with fail;refine(zaA _ _ true (decide_eq_true HC.out)).mono ?_;rintro e w1 ⟨rfl,rfl⟩;go_wp2;go_ret;exact⟨rfl,rfl⟩
 ·have e:p.waits c=false:=by unfold Sk.waits;rw[decide_eq_false hc];rfl
  rw[e];have HC:=za hc;clear h hc;go_enter Tryz.func33,Tryz.ntmps33;go_wp2_with fail;refine(zaA _ _ false (decide_eq_false HC.out)).mono ?_;rintro e w1 ⟨rfl,rfl⟩;go_wp2;go_ret;exact⟨rfl,rfl⟩
theorem zrj(s:Nat)(p:Sk)(A:Sa)(w:World)(h:zv s p A w):Calls Tryz.prog 36 #[.pointer (some ⟨s,0,none⟩)] w fun e w'=>e=.returned (.bool p.dead)∧w'=w:=by
 have c:=h.cell 29 _ rfl;have hl:=h.lt;clear h;go_enter Tryz.func36,Tryz.ntmps36;go_wp2;go_ret;exact⟨rfl,rfl⟩
theorem zpe(s:Nat)(p:Sk)(A:Sa)(i:Nat)(hi:i<3)(w:World)(h:zv s p A w):Calls Tryz.prog 16 #[.pointer (some ⟨s,0,none⟩),.int .i64 i] w fun e w'=>e=.returned (.tuple #[.string (p.client i).got,zae (p.client i).err])∧Below w.heap.size w w':=by
 have hl:=h.lt;obtain⟨-,-,-,-,c4,c5⟩:=h.client i hi;have hi0:(0:Int)≤(i:Int):=by omega
 have hi3:(i:Int)<3:=by omega
 have HC:Hid (0≤(i:Int)∧(i:Int)<3):=⟨hi0,hi3⟩
 clear h;generalize zae (p.client i).err=ev at *;go_enter Tryz.func16,Tryz.ntmps16;go_wp2_with fail;refine(zaA _ _ true (decide_eq_true HC.out)).mono ?_;rintro e w1 ⟨rfl,rfl⟩;go_wp2_with fail
 go_region
 go_wp2
 go_ret2
 exact⟨rfl,(Below.refl _ _).drew⟩
theorem zv.blen{s:Nat}{p:Sk}{A:Sa}{w:World}(h:zv s p A w):p.dev.busy.length≤2:=h.mem.drv.dev.blen
theorem zgF(s:Nat)(p:Sk)(A:Sa)(w:World)(h:zv s p A w) :
  Calls Tryz.prog 39 #[.pointer (some ⟨s,0,none⟩)] w fun e w'=>∃a' c',e=.returned (.slice a' p.dev.busy.length c')∧zs w' a' p.dev.busy∧(a'=none→c'=0)∧Below w.heap.size w w':=by
 have c:=h.cell 0 _ rfl;have hl:=h.lt;have HM:=za h.mem.drv.dev;clear h;go_enter Tryz.func39,Tryz.ntmps39;go_wp2_with fail;refine(zga A.b p.dev A.an _ HM.out).mono ?_;rintro e w1 ⟨a',c',rfl,hR,hn,hb1⟩;go_wp2;go_ret;exact⟨a',c',rfl,hR,hn,hb1⟩
theorem zf2(s:Nat)(p:Sk)(A:Sa)(w:World)(h:zv s p A w)(h6:p.queue.length≤1000) :
  Calls Tryz.prog 38 #[.pointer (some ⟨s,0,none⟩)] w fun e w'=>∃a' c',e=.returned (.slice a' p.queue.length c')∧zs w' a' p.queue∧(a'=none→c'=0)∧Below w.heap.size w w':=by
 have c:=h.cell 21 _ rfl;have hl:=h.lt;have HM:=za h.mem;clear h;go_enter Tryz.func38,Tryz.ntmps38;go_wp2_with fail;refine(zo3 p.queue A.qa A.qc _ HM.out.queue HM.out.qnil (by omega)).mono ?_;rintro e w1 ⟨a',c',rfl,hR,hn,hb1⟩;go_wp2;go_ret;exact⟨a',c',rfl,hR,hn,hb1⟩
theorem zeo(l:List Bf):zbA l l.length=zN l:=by
 have:∀k,k≤l.length→zbA l k=zN (l.take k):=by
  intro k
  induction k with
  |zero=>intro _;rfl
  |succ k ih =>
   intro hk;have h:k<l.length:=by omega
   have e:=ih (by omega);unfold zN at e ⊢;rw[List.take_succ_eq_append_getElem h,List.filter_append,List.length_append,←e]
   cases hd:l[k].dirty
   ·rw[zgp h hd,List.filter_cons_of_neg (by rw[hd];exact Bool.false_ne_true)];rfl
   ·rw[zgf h hd,List.filter_cons_of_pos (by exact hd)];rfl
 have:=this l.length (Nat.le_refl _)
 rwa [List.take_length] at this
theorem zb9(s:Nat)(p:Sk)(A:Sa)(w:World)(h:zv s p A w)(n:Nat)(hn:zN p.hand=n) :
  Calls Tryz.prog 18 #[.pointer (some ⟨s,0,none⟩)] w fun e w'=>e=.returned (.int .i64 n)∧Below w.heap.size w w':=by
 have c:=h.cell 20 _ rfl;have hl:=h.lt;have HM:=za h.mem.hand;have HN:=za hn;clear h hn;go_enter Tryz.func18,Tryz.ntmps18;go_wp2_with fail;refine(zpB p.hand A.ha A.hc _ HM.out n ((zeo _).trans HN.out)).mono ?_;rintro e w1 ⟨rfl,hb1⟩;go_wp2;go_ret;exact⟨rfl,hb1⟩
theorem zhy(s:Nat)(p:Sk)(A:Sa)(pl:Int)(w:World)(h:zv s p A w)(t:Bool)(ht:zQ p.hand pl=t) :
  Calls Tryz.prog 106 #[.pointer (some ⟨s,0,none⟩),.int .i64 pl] w fun e w'=>e=.returned (.bool t)∧Below w.heap.size w w':=by
 have c:=h.cell 20 _ rfl;have hl:=h.lt;have HM:=za h.mem.hand;clear h;subst ht;unfold zQ
 rcases zaV p.hand pl with⟨e,hi⟩|⟨k,hk,e,hi,-⟩
 ·rw[e];have HI:=za hi;clear hi e;go_enter Tryz.func106,Tryz.ntmps106;go_wp2_with fail;refine(zie p.hand A.ha A.hc pl _ (HM.out.later (by(with_reducible repeat first|exact Below.refl _ _|refine zc ?_ _|refine zd ?_|refine bset' ?_ (by omega) _|refine zb ?_ (by assumption)))) HI.out).mono ?_;rintro e w1 ⟨rfl,hb1⟩;go_wp2;go_ret;exact⟨rfl,by(with_reducible repeat first|exact Below.refl _ _|refine zc ?_ _|refine zd ?_|refine bset' ?_ (by omega) _|refine zb ?_ (by assumption))⟩
 ·rw[e];have HI:=za hi;clear hi e;go_enter Tryz.func106,Tryz.ntmps106;go_wp2_with fail;refine(zfA p.hand A.ha A.hc pl _ (HM.out.later (by(with_reducible repeat first|exact Below.refl _ _|refine zc ?_ _|refine zd ?_|refine bset' ?_ (by omega) _|refine zb ?_ (by assumption)))) k hk HI.out).mono ?_;rintro e w1 ⟨rfl,hb1⟩;go_wp2;go_ret;exact⟨rfl,by(with_reducible repeat first|exact Below.refl _ _|refine zc ?_ _|refine zd ?_|refine bset' ?_ (by omega) _|refine zb ?_ (by assumption))⟩
theorem zjD{l:List Bf}{k:Nat}(h:k<l.length):zL (l.take (k+1))=zL (l.take k)++(if l[k].dirty=true then [l[k].pl] else []):=by
 unfold zL;rw[List.take_succ_eq_append_getElem h,List.filter_append,List.map_append]
 cases hd:l[k].dirty
 ·rw[List.filter_cons_of_neg (by rw[hd];exact Bool.false_ne_true)];rfl
 ·rw[List.filter_cons_of_pos (by exact hd)];rfl
theorem zkY(l:List Bf)(k:Nat):(zL (l.take k)).length≤l.length:=by
 unfold zL;rw[List.length_map];exact Nat.le_trans (List.length_filter_le _ _) (by rw[List.length_take];omega)
theorem rowI{w:World}{b:Nat}{n:Int}(h:w.cell? ⟨b,0,none⟩=some (.int .i64 n)):zaW w 1 (some ⟨b,0,none⟩) 1 1 [.int .i64 n]:=by
 refine⟨rfl,by simp[Value.oneCell'],Or.inr ⟨_,rfl,fun j u hj=>?_⟩⟩
 match j,hj with
 |0,hj =>
  simp only[List.getElem?_cons_zero,Option.some.injEq] at hj;subst hj;exact h
theorem zi1(s:Nat)(l:List Bf)(a:Option Addr)(cp:Nat)(w:World)(c:w.cell? ⟨s,20,none⟩=some (.slice a l.length cp))(hM:zB w a l)(h8:l.length≤1000) :
  Calls Tryz.prog 41 #[.pointer (some ⟨s,0,none⟩)] w fun e w'=>∃v,e=.returned v∧w'.ownsRow w.heap.size 3 1 v (zL l).length (za5 (zL l))∧Below w.heap.size w w':=by
 have hb3:=hM.2;obtain⟨i,hi,hz0,hz1,hz2⟩:=zaL zf3;go_enter Tryz.func41,Tryz.ntmps41;go_wp2
 go_loopw[3,11] (fun v i wr=>∃k:Nat,k≤l.length∧i=.int .i64 k∧wr.ownsRow w.heap.size 3 1 v (zL (l.take k)).length (za5 (zL (l.take k)))∧Below w.heap.size w wr) (fun _ i _=>l.length-(intOf i).toNat)
 case atStart=>exact⟨0,by omega,rfl,World.ownsRow_nil _ _ _ _,by(with_reducible repeat first|exact Below.refl _ _|refine zc ?_ _|refine zd ?_|refine bset' ?_ (by omega) _|refine zb ?_ (by assumption))⟩
 case round =>
  obtain⟨k,hk,rfl,hown,HB⟩:=hrel
  by_cases hlt:k<l.length
  ·have h0:l ≠ []:=fun e=>by rw[e] at hlt;exact absurd hlt (Nat.not_lt_zero _)
   obtain⟨b,o,rfl⟩:=hM.form.resolve_left h0;obtain⟨c0,c1,c2,c3⟩:=(hM.later HB).cells hlt;have ht:=zjD hlt;have hL:=zkY l k;clear h0
   cases hd:l[k].dirty
   ·rw[hd] at ht c2;have HT:=zk ht;clear ht hd;have HO:=zk hown;clear hown;go_wp2;go_roundw
    case rel=>exact⟨k+1,by omega,by go_num,by rw[HT.out];simpa using zcc HO.out (by(with_reducible repeat first|exact Below.refl _ _|refine zc ?_ _|refine zd ?_|refine bset' ?_ (by omega) _|refine zb ?_ (by assumption))),by(with_reducible repeat first|exact Below.refl _ _|refine zc ?_ _|refine zd ?_|refine bset' ?_ (by omega) _|refine zb ?_ (by assumption))⟩
    case measure=>simp[intOf];omega
   ·rw[hd] at ht c2;have HT:=zk ht;clear ht hd;have HO:=zk hown;clear hown;go_wp2_with(at_builtin;refine zq rfl _ _ 52 rfl w.heap.size 3 i (.int .i64 0) 1 8 Tryz.underlying52 hi hz0 hz1 hz2 rfl (by decide) _ _ _ rfl (zcc HO.out (by(with_reducible repeat first|exact Below.refl _ _|refine zc ?_ _|refine zd ?_|refine bset' ?_ (by omega) _|refine zb ?_ (by assumption)))) _ 1 1 [.int .i64 l[k].pl] rfl (rowI (by simp)) (by unfold maxLen;omega) (by omega) (by have:=HB.size;(try simp);omega) ?_;intro v1 w2 hown1 hb1)
    all_goals
     have HO1:=zk hown1;clear hown1;go_wp2;go_roundw
    case rel=>exact⟨k+1,by omega,by go_num,by rw[HT.out];simpa [za5] using HO1.out,Below.trans (by(with_reducible repeat first|exact Below.refl _ _|refine zc ?_ _|refine zd ?_|refine bset' ?_ (by omega) _|refine zb ?_ (by assumption))) hb1⟩
    case measure=>simp[intOf];omega
  ·obtain rfl:k=l.length:=by omega
   rw[List.take_length] at hown;go_wp2;go_ret;exact⟨_,rfl,hown,HB⟩
theorem zka(s:Nat)(p:Sk)(A:Sa)(w:World)(h:zv s p A w)(h8:p.hand.length≤1000) :
  Calls Tryz.prog 41 #[.pointer (some ⟨s,0,none⟩)] w fun e w'=>∃v,e=.returned v∧w'.ownsRow w.heap.size 3 1 v (zL p.hand).length (za5 (zL p.hand))∧Below w.heap.size w w' :=
 zi1 s p.hand A.ha A.hc w (h.cell 20 _ rfl) h.mem.hand h8
def za0(l:List Rq)(n:Int):Bool:=l.any fun r=>zam r.f r.m n
def zcb(w:World)(hb:Nat)(l:List Rq):Prop:=∃a c,w.cell? ⟨hb,0,none⟩=some (.slice a l.length c)∧zs w a l
theorem zcb.later{w w':World}{hb:Nat}{l:List Rq}(h:zcb w hb l)(k:Below w.heap.size w w'):zcb w' hb l:=by
 obtain⟨a,c,h1,h2⟩:=h;exact⟨a,c,cellB_later' k h1,h2.later k⟩
theorem zpa(x:Rq)(pb:Nat)(n:Int)(w:World)(h:w.cell? ⟨pb,0,none⟩=some (.int .i64 n)) :
  Calls Tryz.prog 84 #[x.val,.pointer (some ⟨pb,0,none⟩)] w fun e w'=>e=.returned (.bool (zam x.f x.m n))∧Below w.heap.size w w':=by
 have h':=zao h;have hl:=zg h;go_enter Tryz.func84,Tryz.ntmps84;go_wp2_with fail;refine(zdJ x.f x.m n _ _ rfl).mono ?_;rintro e w1 ⟨rfl,hb1⟩;go_wp2;go_ret;exact⟨rfl,by(with_reducible repeat first|exact Below.refl _ _|refine zc ?_ _|refine zd ?_|refine bset' ?_ (by omega) _|refine zb ?_ (by assumption))⟩
theorem zeb(hb:Nat)(l:List Rq)(n:Int)(w:World)(h:zcb w hb l) :
  Calls Tryz.prog 82 #[.int .i64 n,.pointer (some ⟨hb,0,none⟩)] w fun e w'=>e=.returned (.bool (za0 l n))∧Below w.heap.size w w':=by
 obtain⟨a,c,h1,h2⟩:=h;have h1':=zao h1;have hl:=zg h1;have H2:=za h2;have HE:Hid (l.any (fun r=>zam r.f r.m n)=za0 l n):=za rfl;clear h2;generalize za0 l n=t at *;go_enter Tryz.func82,Tryz.ntmps82;go_wp2_with fail;refine(zef 84 (by intro args w;go_simp) (.pointer (some ⟨w.heap.size,0,none⟩)) (fun r=>zam r.f r.m n) l a c (w.alloc (.cells #[.int .i64 n] 3)) (H2.out.later (by(with_reducible repeat first|exact Below.refl _ _|refine zc ?_ _|refine zd ?_|refine bset' ?_ (by omega) _|refine zb ?_ (by assumption)))) (fun x w' _ hb'=>zpa x w.heap.size n w' (cellB_later' hb' (by simp))) t HE.out).mono ?_;rintro e w1 ⟨rfl,hb1⟩;go_wp2;go_ret;exact⟨rfl,by(with_reducible repeat first|exact Below.refl _ _|refine zc ?_ _|refine zd ?_|refine bset' ?_ (by omega) _|refine zb ?_ (by assumption))⟩
theorem zss{w w2 w3:World}{base hb c2:Nat}{a2:Option Addr}{l:List Rq}(hN:zco base w2 a2 c2 l)(hAt:∀r∈l,r.At w)(hcase:hb<base∨w2.heap.size≤hb)(hO:zo (fun k=>k=hb) w2 w3)(hc:w3.cell? ⟨hb,0,none⟩=some (.slice a2 l.length c2))(hB:Below w.heap.size w w3):zcb w3 hb l:=by
 refine⟨a2,c2,hc,?_,fun r hr=>(hAt r hr).later hB,hN.here.2.2⟩
 rcases hN.here.1 with h|⟨b,o,ha,hcl⟩
 ·exact Or.inl h
 ·refine Or.inr ⟨b,o,ha,fun i hi j hj=>?_⟩;have h1:=hcl i hi j hj;have h2:=zg h1;have h3:=(hN.own.lt b (by rw[ha];rfl)).1;rw[hO.cell (p:=⟨b,o+i*6+j,none⟩) h2 (show ¬b=hb by omega)];exact h1
theorem zdj(s:Nat)(p:Sk)(A:Sa)(w:World)(h:zv s p A w)(h6:p.queue.length≤1000) :
  Calls Tryz.prog 48 #[.pointer (some ⟨s,0,none⟩)] w fun e w'=>∃hb,e=.returned (.func (.func 82) #[] #[.pointer (some ⟨hb,0,none⟩)])∧zcb w' hb (p.queue++p.dev.busy)∧Below w.heap.size w w':=by
 have c0:=h.cell 0 _ rfl;have c1:=h.cell 21 _ rfl;have hl:=h.lt;have HL:=za h.blen;have HD:=za h.mem.drv.dev;have HQ:=za h.mem.queue;have HR1:=za (h.mem.queue.rowAll' h.mem.qnil);have HAT:Hid (∀r∈p.queue++p.dev.busy,r.At w):=fun r hr=>(List.mem_append.1 hr).elim (h.mem.queue.2.1 r) (fun hr=>(h.mem.drv.dev.reqs r hr).1)
 clear h;go_enter Tryz.func48,Tryz.ntmps48;go_wp2_with fail
 go_region_held3 (fun w'=>w'.cell? ⟨s,0,none⟩=some (.pointer (some ⟨A.b,0,none⟩))∧w'.cell? ⟨s,21,none⟩=some (.slice A.qa p.queue.length A.qc)) (exact⟨cellB_later' (w:=w) (by(with_reducible repeat first|exact Below.refl _ _|refine zc ?_ _|refine zd ?_|refine bset' ?_ (by omega) _|refine zb ?_ (by assumption))) c0,cellB_later' (w:=w) (by(with_reducible repeat first|exact Below.refl _ _|refine zc ?_ _|refine zd ?_|refine bset' ?_ (by omega) _|refine zb ?_ (by assumption))) c1⟩) (first|(go_at_call 72;refine(zga A.b p.dev A.an _ (HD.out.later (by(with_reducible repeat first|exact Below.refl _ _|refine zc ?_ _|refine zd ?_|refine bset' ?_ (by omega) _|refine zb ?_ (by assumption))))).mono ?_;rintro e w1 ⟨a',c',rfl,hR,hn,hb1⟩;have z1:w.heap.size≤w1.heap.size:=(show Below w.heap.size w w1 by(with_reducible repeat first|exact Below.refl _ _|refine zc ?_ _|refine zd ?_|refine bset' ?_ (by omega) _|refine zb ?_ (by assumption))).size;(try(obtain⟨k1a,k1b⟩:w1.cell? ⟨w.heap.size,0,none⟩=some (.slice none 0 0)∧w1.frozen? ⟨w.heap.size,0,none⟩=false;(focus((refine⟨(hb1.cell (p:=⟨w.heap.size,0,none⟩) ?_).trans ?_,(hb1.frozen (p:=⟨w.heap.size,0,none⟩) ?_).trans ?_⟩);(all_goals simp);(all_goals omega))))))|(go_at_call 81;refine(zfe _ 0 A.qa a' p.queue.length p.dev.busy.length A.qc c' (zt p.queue) (zt p.dev.busy) _ (by simp) (by simp) (HR1.out.later (by(with_reducible repeat first|exact Below.refl _ _|refine zc ?_ _|refine zd ?_|refine bset' ?_ (by omega) _|refine zb ?_ (by assumption)))) ((hR.rowAll' hn).later (by(with_reducible repeat first|exact Below.refl _ _|refine zc ?_ _|refine zd ?_|refine bset' ?_ (by omega) _|refine zb ?_ (by assumption)))) (by omega) (by have:=HL.out;omega)).mono ?_;rintro e w2 ⟨v,rfl,hown,hb2⟩;rw[←zaM] at hown;obtain⟨a2,c2,rfl,hN2⟩:=zb3 (l:=p.queue++p.dev.busy) hown (fun r hr=>(HAT.out r hr).later (by(with_reducible repeat first|exact Below.refl _ _|refine zc ?_ _|refine zd ?_|refine bset' ?_ (by omega) _|refine zb ?_ (by assumption)))) (by simp) (by have:=HL.out;simp;omega);have HN2:=za hN2;have z2:w.heap.size≤w2.heap.size:=(show Below w.heap.size w w2 by(with_reducible repeat first|exact Below.refl _ _|refine zc ?_ _|refine zd ?_|refine bset' ?_ (by omega) _|refine zb ?_ (by assumption))).size;clear hN2 hown;(try(obtain⟨k2a,k2b⟩:w2.cell? ⟨w.heap.size,0,none⟩=some (.slice none 0 0)∧w2.frozen? ⟨w.heap.size,0,none⟩=false;(focus exact⟨cellB_later' (w:=w1) (by(with_reducible repeat first|exact Below.refl _ _|refine zc ?_ _|refine zd ?_|refine bset' ?_ (by omega) _|refine zb ?_ (by assumption))) k1a,zcx (w:=w1) (by(with_reducible repeat first|exact Below.refl _ _|refine zc ?_ _|refine zd ?_|refine bset' ?_ (by omega) _|refine zb ?_ (by assumption))) (zg k1a) k1b⟩)));(try(obtain⟨k3a,k3b⟩:w2.cell? ⟨w1.heap.size,0,none⟩=some (.slice none 0 0)∧w2.frozen? ⟨w1.heap.size,0,none⟩=false;(focus((refine⟨(hb2.cell (p:=⟨w1.heap.size,0,none⟩) ?_).trans ?_,(hb2.frozen (p:=⟨w1.heap.size,0,none⟩) ?_).trans ?_⟩);(all_goals simp);(all_goals omega)))));(try(obtain⟨k4a,k4b⟩:w2.cell? ⟨w1.heap.size+1,0,none⟩=some (.slice none 0 0)∧w2.frozen? ⟨w1.heap.size+1,0,none⟩=false;(focus((refine⟨(hb2.cell (p:=⟨w1.heap.size+1,0,none⟩) ?_).trans ?_,(hb2.frozen (p:=⟨w1.heap.size+1,0,none⟩) ?_).trans ?_⟩);(all_goals simp);(all_goals omega)))))))
 all_goals
  go_wp2;go_ret;refine⟨_,rfl,zss HN2.out HAT.out ?_ ?_ ?_ ?_,?_⟩
  ·first|(left;simp;done)|(left;simp;omega)|(right;simp;done)
  ·first|(refine zo.of_below ?_;((with_reducible repeat first|exact Below.refl _ _|refine zc ?_ _|refine zd ?_|refine bset' ?_ (by omega) _|refine zb ?_ (by assumption)));done)|exact zo.of_set _
  ·rw[List.length_append]
   first|(simp;done)|exact World.cell?_setCell_same _ _ _ (by assumption)
  ·(with_reducible repeat first|exact Below.refl _ _|refine zc ?_ _|refine zd ?_|refine bset' ?_ (by omega) _|refine zb ?_ (by assumption))
  ·(with_reducible repeat first|exact Below.refl _ _|refine zc ?_ _|refine zd ?_|refine bset' ?_ (by omega) _|refine zb ?_ (by assumption))
section
variable{s:Nat}{p p':Sk}{A A':Sa}{w w':World}
theorem z9.puts(hm:z9 s p' A' w)(hO:zo (fun k=>k=s) w w')(hb:w'.heap[s]?=some (.cells (p'.cells A').toArray 60 (0,0)))(hf:∀k,A'.foot s k→A.foot s k)(hsame:A'.b=A.b∧A'.v=A.v∧A'.bm=A.bm∧A'.X=A.X):zG s p A p' A' w w' :=
 ⟨⟨hb,hm.frame hO (fun _ _ hne=>hne) (fun e=>hm.sv.2 e.symm) (fun hne q hq e=>hm.hoff hne q hq (Or.inl e)) (fun hne q hq e=>hm.qoff hne q hq (Or.inl e)) (fun r hr=>⟨fun he ad ha e=>(hm.roff r hr).1 he ad ha (Or.inl e),fun he ad ha e=>(hm.roff r hr).2 he ad ha (Or.inl e)⟩)⟩,hO.mono (fun _ e=>Or.inl e),fun k hk=>Or.inl (hf k hk),hsame⟩
def Sa.drop(A:Sa)(i:Nat):Sa:={ A with la:=fun j=>if j=i then none else A.la j,lc:=fun j=>if j=i then 0 else A.lc j }
theorem Sa.drop_foot(A:Sa)(i k:Nat)(h:(A.drop i).foot s k):A.foot s k:=by
 rcases h with h|h|⟨j,hj,q,hq,e⟩
 ·exact Or.inl h
 ·exact Or.inr (Or.inl h)
 ·by_cases hji:j=i
  ·simp only[Sa.drop,if_pos hji] at hq;cases hq
  ·simp only[Sa.drop,if_neg hji] at hq;exact Or.inr (Or.inr ⟨j,hj,q,hq,e⟩)
theorem Sa.drop_off(A:Sa)(i k:Nat)(h:(A.drop i).off s k):A.off s k:=h.imp (A.drop_foot i k) id
theorem zaQ(hl:p.cl.length=3){i j:Nat}(hi:i<3)(c:Cl):({ p with cl:=p.cl.set i c }:Sk).client j=if j=i then c else p.client j:=by
 unfold Sk.client
 by_cases h:j=i
 ·subst h;rw[if_pos rfl]
  simp[List.getD,hl,hi]
 ·rw[if_neg h]
  simp[List.getD,Ne.symm h]
theorem z9.drop(h:z9 s p A w)(hl:p.cl.length=3){i:Nat}(hi:i<3)(c:Cl)(hc:c.left=[]):z9 s { p with cl:=p.cl.set i c } (A.drop i) w where
 drv:=h.drv
 map:=h.map
 im:=h.im
 nb:=h.nb
 hand:=h.hand
 hnil:=h.hnil
 hcap:=h.hcap
 queue:=h.queue
 qnil:=h.qnil
 qcap:=h.qcap
 left:=fun j hj=>by
  rw[zaQ hl hi]
  by_cases hji:j=i
  ·simp only[Sa.drop,if_pos hji,hc];exact World.ownsRow_nil _ _ _ _
  ·simp only[Sa.drop,if_neg hji];exact h.left j hj
 sv:=h.sv
 vl:=fun j hj q hq=>by
  by_cases hji:j=i
  ·simp only[Sa.drop,if_pos hji] at hq;cases hq
  ·simp only[Sa.drop,if_neg hji] at hq;exact h.vl j hj q hq
 ll:=fun j k hj hk hne q q' hq hq'=>by
  by_cases hji:j=i
  ·simp only[Sa.drop,if_pos hji] at hq;cases hq
  ·by_cases hki:k=i
   ·simp only[Sa.drop,if_pos hki] at hq';cases hq'
   ·simp only[Sa.drop,if_neg hji] at hq;simp only[Sa.drop,if_neg hki] at hq';exact h.ll j k hj hk hne q q' hq hq'
 hoffX:=fun hne q hq e=>h.hoffX hne q hq (A.drop_off i _ e)
 qoffX:=fun hne q hq e=>h.qoffX hne q hq (A.drop_off i _ e)
 roffX:=fun r hr=>⟨fun he ad ha e=>(h.roffX r hr).1 he ad ha (A.drop_off i _ e),fun he ad ha e=>(h.roffX r hr).2 he ad ha (A.drop_off i _ e)⟩
 xlt:=h.xlt
end
def six6(w:World)(s o:Nat)(v0 v1 v2 v3 v4 v5:Value):World:=(((((w.setCell ⟨s,o,none⟩ v0).setCell ⟨s,o+1,none⟩ v1).setCell ⟨s,o+2,none⟩ v2).setCell ⟨s,o+3,none⟩ v3).setCell ⟨s,o+4,none⟩ v4).setCell ⟨s,o+5,none⟩ v5
theorem zpk{s:Nat}{p:Sk}{A:Sa}{w:World}(h:zv s p A w)(hl:p.cl.length=3)(i:Nat)(hi:i<3)(data:ByteArray)(e:Int) :
  zG s p A (p.answer i data e) (A.drop i) w (six6 w s (2+i*6) (.int .i64 0) (.int .i64 0) (.string ByteArray.empty) (.slice none 0 0) (.string data) (zae e)):=by
 refine(h.mem.drop hl hi ⟨0,0,ByteArray.empty,[],data,e⟩ rfl).puts ?_ ?_ (fun k hk=>A.drop_foot i k hk) ⟨rfl,rfl,rfl,rfl⟩
 ·unfold six6;exact((((((zo.refl (fun k=>k=s) w).setCell _ (Or.inl rfl) _).setCell _ (Or.inl rfl) _).setCell _ (Or.inl rfl) _).setCell _ (Or.inl rfl) _).setCell _ (Or.inl rfl) _).setCell _ (Or.inl rfl) _
 ·unfold six6;rw[zK (zK (zK (zK (zK (zK h.blk _ _) _ _) _ _) _ _) _ _)]
  congr 2
  match i,hi with
  |0,hi=>simp[Sk.cells,Sk.head,Sk.tail,zaZ,zaQ hl hi,Sa.drop]
  |1,hi=>simp[Sk.cells,Sk.head,Sk.tail,zaZ,zaQ hl hi,Sa.drop]
  |2,hi=>simp[Sk.cells,Sk.head,Sk.tail,zaZ,zaQ hl hi,Sa.drop]
theorem zv.there{s:Nat}{p:Sk}{A:Sa}{w:World}(h:zv s p A w)(o n:Nat)(ho:o+n≤30):w.there s o n:=fun j hj=>by
 have hlen:(p.cells A).length=30:=rfl;rw[zy h.blk (o+j),List.getElem?_eq_getElem (by omega)];exact⟨rfl,zac h.blk _⟩
theorem zlY(e:Int):zae e=.nilIface∨zae e=.iface 88 (.int .i64 e):=by
 unfold zae
 split
 ·exact Or.inl rfl
 ·exact Or.inr rfl
theorem zcV(s:Nat)(p:Sk)(A:Sa)(w:World)(h:zv s p A w)(hl:p.cl.length=3)(i:Nat)(hi:i<3)(data:ByteArray)(e:Int) :
  Calls Tryz.prog 101 #[.pointer (some ⟨s,2+i*6,none⟩),.string data,zae e] w fun x w'=>x=.returned (.tuple #[])∧zG s p A (p.answer i data e) (A.drop i) w w':=by
 have HF:=za (zpk h hl i hi data e);have HT:=za (h.there (2+i*6) 6 (by omega));clear h
 rcases zlY e with he|he
 all_goals
  rw[he] at HF ⊢;clear he;go_enter Tryz.func101,Tryz.ntmps101;go_wp2_with(refine wpList_store_mid rfl 54 (.tmp 10) (.tmp 9) rfl s (2+i*6) #[.int .i64 0,.int .i64 0,.string ByteArray.empty,.slice none 0 0,.string data,_] rfl rfl HT.out (by kernel_rfl) (by simp[Value.oneCell']) ?_;simp only);go_end0;exact⟨rfl,HF.out⟩
theorem zqB{o r q:Rq}(h:zew o r q):q.nf=zeW o.nf r.nf:=by
 have one:∀{a b:Rq},za9 a b q→q.nf=zh4 a.nf b.nf:=fun {a b} h=>by
  obtain⟨h1,h2,h3,h4,h5,h6⟩:=h;obtain⟨wr,f,m,da,dc,data,ta,tc,tags,born⟩:=q;simp only at h1 h2 h3 h4 h5 h6;simp only[Rq.nf,zh4,h1,h2,h3,h4,h5,h6]
 unfold zeW
 rcases h with⟨h1,h2⟩|⟨h1,_,h2⟩
 ·rw[if_pos (show zaU o.nf r.nf=true from h1)];exact one h2
 ·rw[if_neg (by rw[show zaU o.nf r.nf=false from h1];exact Bool.false_ne_true)];exact one h2
theorem zlJ(l:List Rq)(r:Rq):(l.map Rq.nf).any (zbb r.nf)=l.any (zbb r):=by
 rw[List.any_map];rfl
theorem zoU(l:List Rq)(r:Rq):(l.map Rq.nf).findIdx? (fun o=>za8 o r.nf)=l.findIdx? (fun o=>za8 o r):=by
 rw[List.findIdx?_map];rfl
theorem ziw{l:List Rq}{r:Rq}(h:l.any (zbb r)=true):zcg (l.map Rq.nf) r.nf=none:=by
 unfold zcg;rw[zlJ,if_pos h]
theorem zjF{l:List Rq}{r:Rq}(hm:l.any (zbb r)=false)(h:∀j (hj:j<l.length),za8 l[j] r=false)(h6:6≤l.length):zcg (l.map Rq.nf) r.nf=none:=by
 have e:l.findIdx? (fun o=>za8 o r)=none:=by
  rw[List.findIdx?_eq_none_iff];intro x hx;obtain⟨j,hj,rfl⟩:=List.getElem_of_mem hx;exact h j hj
 unfold zcg;rw[zlJ,if_neg (by rw[hm];exact Bool.false_ne_true),zoU,e];simp only;rw[if_neg (by rw[List.length_map];omega)]
theorem zgV{base:Nat}{l L:List Rq}{r:Rq}(hm:l.any (zbb r)=false)(h:zgS base l r L):zcg (l.map Rq.nf) r.nf=some (L.map Rq.nf):=by
 unfold zcg;rw[zlJ,if_neg (by rw[hm];exact Bool.false_ne_true),zoU]
 rcases h with⟨k,hk,q,hb,ht,hq,_,rfl⟩|⟨hb,h6,rfl⟩
 ·have e:l.findIdx? (fun o=>za8 o r)=some k:=by
   rw[List.findIdx?_eq_some_iff_getElem];exact⟨hk,ht,fun j hj=>by rw[hb j (by omega) hj];exact Bool.false_ne_true⟩
  rw[e];simp only;rw[List.map_set,zqB hq]
  congr 3
  rw[List.getD_eq_getElem?_getD,List.getElem?_map,List.getElem?_eq_getElem hk];rfl
 ·have e:l.findIdx? (fun o=>za8 o r)=none:=by
   rw[List.findIdx?_eq_none_iff];intro x hx;obtain⟨j,hj,rfl⟩:=List.getElem_of_mem hx;exact hb j hj
  rw[e];simp only;rw[if_pos (by rw[List.length_map];omega),List.map_append]
  rfl
section
variable{s:Nat}{p:Sk}{A:Sa}{w:World}
theorem z9.setQueue(h:z9 s p A w)(L:List Rq)(a':Option Addr)(c':Nat)(n:Int)(hR:zs w a' L)(hcap:L.length≤c')(hnil:a'=none→c'=0)(ho:L ≠ []→∀q,a'=some q→¬A.off s q.block)(hro:∀r∈L,r.Off (A.off s)):z9 s { p with queue:=L,tags:=n } { A with qa:=a',qc:=c' } w where
 drv:=h.drv
 map:=h.map
 im:=h.im
 nb:=h.nb
 hand:=h.hand
 hnil:=h.hnil
 hcap:=h.hcap
 queue:=hR
 qnil:=hnil
 qcap:=hcap
 left:=h.left
 sv:=h.sv
 vl:=h.vl
 ll:=h.ll
 hoffX:=h.hoffX
 qoffX:=ho
 roffX:=fun r hr=>(List.mem_append.1 hr).elim (hro r) (fun h'=>h.roffX r (List.mem_append_right _ h'))
 xlt:=h.xlt
theorem zv.setQueue(h:zv s p A w)(L:List Rq)(a':Option Addr)(c':Nat)(n:Int)(hR:zs w a' L)(hcap:L.length≤c')(hnil:a'=none→c'=0)(ho:L ≠ []→∀q,a'=some q→¬A.off s q.block)(hro:∀r∈L,r.Off (A.off s)):zG s p A { p with queue:=L,tags:=n } { A with qa:=a',qc:=c' } w ((w.setCell ⟨s,21,none⟩ (.slice a' L.length c')).setCell ⟨s,27,none⟩ (.int .i64 n)):=by
 refine(h.mem.setQueue L a' c' n hR hcap hnil ho hro).puts ?_ ?_ (fun k hk=>hk) ⟨rfl,rfl,rfl,rfl⟩
 ·exact((zo.refl (fun k=>k=s) w).setCell _ (Or.inl rfl) _).setCell _ (Or.inl rfl) _
 ·rw[zK (zK h.blk _ _)]
  rfl
end
theorem zrk(l:List Rq)(a:Option Addr)(c:Nat)(r:Rq)(w:World)(hl:zs w a l)(hn:a=none→c=0)(hr:r.At w)(h10:l.length≤1000)(gr:zA r)(gf:zcz r=0)(gl:∀i (h:i<l.length),zA l[i])(hN:zcg (l.map Rq.nf) r.nf=none) :
  Calls Tryz.prog 87 #[.slice a l.length c,r.val] w fun e w'=>∃n,e=.returned (.tuple #[.slice none 0 0,.iface 88 (.int .i64 n)])∧Below w.heap.size w w':=by
 cases hm:l.any (zbb r)
 ·refine(zm2 l a c r w hl hn hr h10 gr gl hm).mono ?_;rintro e w' ⟨⟨L,a',c',hA,_⟩|⟨_,_,he⟩,hb⟩
  ·rw[zgV hm hA] at hN;cases hN
  ·exact⟨7,he,hb⟩
 ·exact(zrI l a c r w hl hr gf hm).mono fun e w' ⟨he,hb⟩=>⟨6,he,hb⟩
theorem zrC(l:List Rq)(a:Option Addr)(c:Nat)(r:Rq)(w:World)(hl:zs w a l)(hn:a=none→c=0)(hr:r.At w)(h10:l.length≤1000)(gr:zA r)(gl:∀i (h:i<l.length),zA l[i])(L':List Rq)(hN:zcg (l.map Rq.nf) r.nf=some L') :
  Calls Tryz.prog 87 #[.slice a l.length c,r.val] w fun e w'=>∃(L:List Rq) (a':Option Addr) (c':Nat),e=.returned (.tuple #[.slice a' L.length c',.nilIface])∧(zgS w.heap.size l r L∧L'=L.map Rq.nf∧zs w' a' L∧L.length≤c'∧(a'=none→c'=0)∧∀p,a'=some p→w.heap.size≤p.block)∧Below w.heap.size w w':=by
 cases hm:l.any (zbb r)
 ·refine(zm2 l a c r w hl hn hr h10 gr gl hm).mono ?_;rintro e w' ⟨⟨L,a',c',hA,he,h1,h2,h3,h4⟩|⟨h1,h2,_⟩,hb⟩
  ·have:=zgV hm hA;rw[hN] at this;exact⟨L,a',c',he,⟨hA,Option.some.inj this,h1,h2,h3,h4⟩,hb⟩
  ·rw[zjF hm h1 h2] at hN;cases hN
 ·rw[ziw hm] at hN;cases hN
theorem zjC{F:Nat→Prop}{w:World}{q:Rq}{n:Nat}(h:q.At w)(hf:zc8 q n)(hF:∀k,F k→k<n):q.Off F:=by
 refine⟨fun he ad ha e=>?_,fun he ad ha e=>?_⟩
 ·rcases h.data with h'|⟨b,o,h',_⟩
  ·exact he h'
  ·have h1:=hf.1 b o h';rw[h'] at ha;simp only[Option.some.injEq] at ha;subst ha;have:=hF _ e;simp only at this
   omega
 ·rcases h.tags with h'|⟨b,o,h',_⟩
  ·exact he h'
  ·have h1:=hf.2 b o h';rw[h'] at ha;simp only[Option.some.injEq] at ha;subst ha;have:=hF _ e;simp only at this
   omega
def zbr(p:Sk)(pl:Int)(wr:Bool)(data:List ByteArray)(da:Option Addr)(dc tb:Nat):Rq:=⟨wr,pl,1,da,dc,data,some ⟨tb,0,none⟩,1,[p.tags+1],p.moment⟩
theorem zlM(s:Nat)(p:Sk)(A:Sa)(w:World)(h:zv s p A w)(hq:p.queue.length≤1000)(gl:∀i (h:i<p.queue.length),zA p.queue[i])(hT:0≤p.tags∧p.tags≤4000000000000000000)(hM:0≤p.moment∧p.moment≤1000000000)(pl:Int)(hpl:0≤pl∧pl≤31)(wr:Bool)(data:List ByteArray)(hdl:data.length≤4)(da:Option Addr)(dc:Nat)(hd:zU w da data)(hdn:da=none→dc=0)
  (hoff:data ≠ []→∀ad,da=some ad→¬A.off s ad.block) (gr:∀tb,zA (zbr p pl wr data da dc tb)∧zcz (zbr p pl wr data da dc tb)=0) :
  Calls Tryz.prog 50 #[.pointer (some ⟨s,0,none⟩),.int .i64 pl,.bool wr,.slice da data.length dc] w fun e w'=>∃p' A',e=.returned (.bool (p.nf.askQ pl wr data).1)∧zG s p A p' A' w w'∧p'.nf=(p.nf.askQ pl wr data).2:=by
 have c21:=h.cell 21 _ rfl;have c26:=h.cell 26 _ rfl;have c27:=h.cell 27 _ rfl;have hl:=h.lt;have HQ:=za h.mem.queue;have HN:=za h.mem.qnil;have HST:=za h;have HGL:=za gl;have HGR:=za (gr w.heap.size);have HOFF:=za hoff;have hwr:IntKind.i64.wrap (p.tags+1)=p.tags+1:=by rw[IntKind.wrap_i64];omega
 have HAT:Hid ((zbr p pl wr data da dc w.heap.size).At ((w.alloc (.cells #[.int .i64 (p.tags+1)] 3)).drew)):=by
  refine⟨hd.later (by(with_reducible repeat first|exact Below.refl _ _|refine zc ?_ _|refine zd ?_|refine bset' ?_ (by omega) _|refine zb ?_ (by assumption))),Or.inr ⟨w.heap.size,0,rfl,fun i hi=>?_⟩,by show data.length≤_;omega,by show 1≤_;omega,?_,?_,?_,hdn,fun e=>by cases e⟩
  ·obtain rfl:i=0:=by simp[zbr] at hi;omega
   show(w.alloc (.cells #[.int .i64 (p.tags+1)] 3)).cell? ⟨w.heap.size,0,none⟩=some (.int .i64 (p.tags+1))
   simp
  ·show zaj pl;unfold zaj;omega
  ·show zaj 1;unfold zaj;omega
  ·show zaj p.moment;unfold zaj;omega
 clear h gl gr hoff hd;have hask:p.nf.askQ pl wr data=match zcg (p.queue.map Rq.nf) (zbr p pl wr data da dc w.heap.size).nf with
  |some l=>(true,{ p.nf with queue:=l,tags:=p.tags+1 })
  |none=>(false,p.nf):=rfl
 cases hF:zcg (p.queue.map Rq.nf) (zbr p pl wr data da dc w.heap.size).nf with
 |none =>
  rw[hF] at hask;simp only at hask;rw[hask];have HF:=za hF;clear hF hask;go_enter Tryz.func50,Tryz.ntmps50;go_wp2_with fail
  go_region_held3 (fun w'=>w'.cell? ⟨s,21,none⟩=some (.slice A.qa p.queue.length A.qc)∧w'.cell? ⟨s,26,none⟩=some (.int .i64 p.moment)∧w'.cell? ⟨s,27,none⟩=some (.int .i64 p.tags)) (exact⟨cellB_later' (w:=w) (by(with_reducible repeat first|exact Below.refl _ _|refine zc ?_ _|refine zd ?_|refine bset' ?_ (by omega) _|refine zb ?_ (by assumption))) c21,cellB_later' (w:=w) (by(with_reducible repeat first|exact Below.refl _ _|refine zc ?_ _|refine zd ?_|refine bset' ?_ (by omega) _|refine zb ?_ (by assumption))) c26,cellB_later' (w:=w) (by(with_reducible repeat first|exact Below.refl _ _|refine zc ?_ _|refine zd ?_|refine bset' ?_ (by omega) _|refine zb ?_ (by assumption))) c27⟩) (first|(go_at_call 87;refine(zrk p.queue A.qa A.qc (zbr p pl wr data da dc w.heap.size) ((w.alloc (.cells #[.int .i64 (p.tags+1)] 3)).drew) (HQ.out.later (by(with_reducible repeat first|exact Below.refl _ _|refine zc ?_ _|refine zd ?_|refine bset' ?_ (by omega) _|refine zb ?_ (by assumption)))) HN.out HAT.out hq HGR.out.1 HGR.out.2 HGL.out HF.out).mono ?_;rintro e w2 ⟨n,rfl,hb2⟩))
  all_goals
   have HB2:Hid (Below w.heap.size w w2):=(show Below w.heap.size w w2 by(with_reducible repeat first|exact Below.refl _ _|refine zc ?_ _|refine zd ?_|refine bset' ?_ (by omega) _|refine zb ?_ (by assumption)))
   go_wp2;go_ret;exact⟨p,A,rfl,zG.same' HST.out (by have:=HB2.out;((with_reducible repeat first|exact Below.refl _ _|refine zc ?_ _|refine zd ?_|refine bset' ?_ (by omega) _|refine zb ?_ (by assumption)))),rfl⟩
 |some L' =>
  rw[hF] at hask;simp only at hask;rw[hask];have HF:=za hF;clear hF hask;go_enter Tryz.func50,Tryz.ntmps50;go_wp2_with fail
  go_region_held3 (fun w'=>w'.cell? ⟨s,21,none⟩=some (.slice A.qa p.queue.length A.qc)∧w'.cell? ⟨s,26,none⟩=some (.int .i64 p.moment)∧w'.cell? ⟨s,27,none⟩=some (.int .i64 p.tags)) (exact⟨cellB_later' (w:=w) (by(with_reducible repeat first|exact Below.refl _ _|refine zc ?_ _|refine zd ?_|refine bset' ?_ (by omega) _|refine zb ?_ (by assumption))) c21,cellB_later' (w:=w) (by(with_reducible repeat first|exact Below.refl _ _|refine zc ?_ _|refine zd ?_|refine bset' ?_ (by omega) _|refine zb ?_ (by assumption))) c26,cellB_later' (w:=w) (by(with_reducible repeat first|exact Below.refl _ _|refine zc ?_ _|refine zd ?_|refine bset' ?_ (by omega) _|refine zb ?_ (by assumption))) c27⟩) (first|(go_at_call 87;refine(zrC p.queue A.qa A.qc (zbr p pl wr data da dc w.heap.size) ((w.alloc (.cells #[.int .i64 (p.tags+1)] 3)).drew) (HQ.out.later (by(with_reducible repeat first|exact Below.refl _ _|refine zc ?_ _|refine zd ?_|refine bset' ?_ (by omega) _|refine zb ?_ (by assumption)))) HN.out HAT.out hq HGR.out.1 HGL.out L' HF.out).mono ?_;rintro e w2 ⟨L,a',c',rfl,hadd,hb2⟩;have HA:=za hadd;clear hadd))
  all_goals
   have HB2:Hid (Below w.heap.size w w2):=(show Below w.heap.size w w2 by(with_reducible repeat first|exact Below.refl _ _|refine zc ?_ _|refine zd ?_|refine bset' ?_ (by omega) _|refine zb ?_ (by assumption)))
   have HS2:=za (zG.same' HST.out HB2.out);have g21:=HS2.out.at'.cell 21 _ rfl;have g27:=HS2.out.at'.cell 27 _ rfl;have f21:=HS2.out.at'.fz 21;have f27:=HS2.out.at'.fz 27;have l2:=HS2.out.at'.lt;have HX:Hid (zG s p A { p with queue:=L,tags:=p.tags+1 } { A with qa:=a',qc:=c' } w ((w2.setCell ⟨s,21,none⟩ (.slice a' L.length c')).setCell ⟨s,27,none⟩ (.int .i64 (p.tags+1)))):=by
    obtain⟨h1,-,h3,h4,h5,h6⟩:=HA.out;have hz:w.heap.size<((w.alloc (.cells #[.int .i64 (p.tags+1)] 3)).drew).heap.size:=by simp
    refine HS2.out.trans (HS2.out.at'.setQueue L a' c' (p.tags+1) h3 h4 h5 (fun _ q hq' e=>?_) (fun r hr=>?_))
    ·have:=h6 q hq';have:=HST.out.offLt _ e
     omega
    ·rcases h1 with⟨k,hk,q,_,_,_,hf,rfl⟩|⟨_,_,rfl⟩
     ·rcases List.mem_or_eq_of_mem_set hr with hr'|rfl
      ·exact HST.out.mem.roffX r (List.mem_append_left _ hr')
      ·exact zjC (h3.2.1 r hr) hf (fun k' hk'=>by have:=HST.out.offLt _ hk';omega)
     ·rcases List.mem_append.1 hr with hr'|hr'
      ·exact HST.out.mem.roffX r (List.mem_append_left _ hr')
      ·rw[List.mem_singleton.1 hr'];refine⟨HOFF.out,fun _ ad ha e=>?_⟩;have hlt:=HST.out.offLt _ e;simp only[zbr,Option.some.injEq] at ha;subst ha;exact absurd hlt (Nat.lt_irrefl _)
   have HL:Hid (L'=L.map Rq.nf):=HA.out.2.1;clear hb2 HA HS2 HST HAT;go_wp2;go_ret;exact⟨_,_,rfl,HX.out,by rw[HL.out];rfl⟩
end Go.Proofs.YtlhgjplipgandaaGreat
