/- Joined texts: Dev6, Dev7, Dev8. -/
import Derived.Deep.RegionHeld3
import Derived.Test.YtlhgjplipgandaaGreatB6
set_option maxRecDepth 100000
set_option maxHeartbeats 8000000
set_option linter.unusedSimpArgs false
namespace Go.Proofs.YtlhgjplipgandaaGreat
open Go.RowKit Go.BigFrame
attribute [local go_sem] ze.cell ze.frozen
def Dl.write(d:Dl)(p:Nat)(s:ByteArray):Dl:={ d with now:=d.now.set p s,wr:=zaF p d.next d.wr++[⟨p,s,d.next⟩],next:=(d.next+1) % 64 }
theorem Rq.Off.mono{F F':Nat→Prop}{r:Rq}(h:r.Off F)(hF:∀k,F' k→F k):r.Off F':=⟨fun he a ha hk=>h.1 he a ha (hF _ hk),fun he a ha hk=>h.2 he a ha (hF _ hk)⟩
theorem zM.setB{b:Nat}{d d':Dl}{a:An}{w:World}(h:zM b d a w)(j:Nat)(v:Value)(hc:(d.cells a).set j v=d'.cells a)(e1:d'.wr=d.wr)(e2:d'.busy=d.busy)(n32:d'.now.length=32)(g32:d'.good.length=32)(nxt:d'.next<64):zM b d' a (w.setCell ⟨b,j,none⟩ v) where
 n32:=n32
 g32:=g32
 blk:=by rw[zK h.blk,hc]
 wrow:=by
  rw[e1];exact zau h.wrow fun g hg=>by
   obtain⟨p,hp,rfl⟩:=zF.1 hg;exact zb8 _ _ (h.sepw p hp)
 brow:=by
  rw[e2];exact zau h.brow fun g hg=>by
   obtain⟨p,hp,rfl⟩:=zF.1 hg;exact zb8 _ _ (h.sepb p hp)
 sepw:=h.sepw
 sepb:=h.sepb
 sepwb:=h.sepwb
 reqs:=fun r hr=>by
  rw[e2] at hr;have:=h.reqs r hr;exact⟨this.1.frame (F:=fun k=>k=b) (this.2.mono fun k hk=>Or.inl hk) ((zo.refl (fun k=>k=b) w).setCell ⟨b,j,none⟩ (Or.inl rfl) v),this.2⟩
 wfin:=by rw[e1];exact h.wfin
 nod:=by rw[e1];exact h.nod
 blen:=by rw[e2];exact h.blen
 nxt:=nxt
theorem zlE(d:Dl)(a:An)(k:Nat)(s:ByteArray)(h1:d.now.length=32)(hk:k<32):(d.cells a).set k (.string s)=({ d with now:=d.now.set k s }:Dl).cells a:=by
 rw[Dl.cells,List.append_assoc,List.set_append_left _ _ (by rw[zC];omega),Dl.cells,List.append_assoc]
 simp[zaG,List.map_set]
theorem zhs(d:Dl)(a:An)(n:Nat)(h1:d.now.length=32)(h2:d.good.length=32):(d.cells a).set 65 (.int .i64 n)=({ d with next:=n }:Dl).cells a:=by
 rw[Dl.cells,List.set_append_right _ _ (by simp[zC,h1,h2])]
 simp[zC,h1,h2,Dl.cells]
theorem zhm(d:Dl)(a:An)(l:List Wn)(x:Option Addr)(c:Nat)(h1:d.now.length=32)(h2:d.good.length=32):(d.cells a).set 64 (.slice x l.length c)=({ d with wr:=l }:Dl).cells { a with wa:=x,wc:=c }:=by
 rw[Dl.cells,List.set_append_right _ _ (by simp[zC,h1,h2])]
 simp[zC,h1,h2,Dl.cells]
theorem zai{P:Program}{Q:Exit→Act→World→Prop}{a:Act}{c:Code}{w:World}(R:World→Prop)(h:R w)(k:∀w',R w'→c.wp P Q a w'):c.wp P Q a w:=k w h
theorem zdN{P:Program}{ops:Array Oper}{o:Oper}{a:Act}{w:World}{K:Act→World→Prop}{Q:Exit→Act→World→Prop}{E:Prop}
  (hg:o.guard=none) (f:FuncId) (x1 x2:Nat) (t1 t2:TypeId) (hop:o.op=Op.call { callee:=Callee.value (.func f),args:=#[.tmp x1,.tmp x2],argTypes:=#[t1,t2] }) (eg:∀args w,(callFunc f args).run P w=.ok (.enter f args) w)
  (v1 v2:Value) (e1:a.tmps[x1]?.getD undef=v1) (e2:a.tmps[x2]?.getD undef=v2) (r:Value) (S:World→Prop) (hc:Calls P f #[v1,v2] w fun e w'=>e=.returned r∧S w') (h:∀w',S w'→K (a.put o.dst r) w') :
  if Region.wanted o (yielded ops a.tmps)=true then Oper.wp P o a w K Q else E:=by
 have hw:Region.wanted o (yielded ops a.tmps)=true:=by simp[Region.wanted,hg]
 rw[if_pos hw];unfold Oper.wp
 simp[execOp,hop,resolve,invoke,e1,e2,eg,go_sem]
 refine hc.mono ?_;rintro _ w' ⟨rfl,hs⟩;exact h w' hs
theorem kept3{b q:Nat}{d:Dl}{a:An}{w X w2:World}{p:Nat}(h:zM b d a w)(hX:Below w.heap.size w X)(hO:zo (zaX a.wa) X w2)(k1:w.cell? ⟨q,0,none⟩=some (.pointer (some ⟨b,0,none⟩)))(k2:w.cell? ⟨q+1,0,none⟩=some (.int .i64 p))(n1:¬zaX a.wa q)(n2:¬zaX a.wa (q+1))(n3:¬zaX a.wa b) :
  w2.cell? ⟨q,0,none⟩=some (.pointer (some ⟨b,0,none⟩))∧w2.cell? ⟨q+1,0,none⟩=some (.int .i64 p)∧w2.cell? ⟨b,64,none⟩=some (.slice a.wa d.wr.length a.wc)∧w2.cell? ⟨b,65,none⟩=some (.int .i64 d.next)∧w2.frozen? ⟨b,64,none⟩=false∧q+1<w2.heap.size∧b<w2.heap.size:=by
 have l1:=zg k1;have l2:=zg k2;have hs:=hX.size;have hs2:=hO.size;have lb:=h.lt;refine⟨?_,?_,?_,?_,?_,by omega,by omega⟩
 ·rw[hO.cell (p:=⟨q,0,none⟩) (show q<_ by omega) n1,hX.cell (p:=⟨q,0,none⟩) l1];exact k1
 ·rw[hO.cell (p:=⟨q+1,0,none⟩) (show q+1<_ by omega) n2,hX.cell (p:=⟨q+1,0,none⟩) l2];exact k2
 ·rw[hO.cell (p:=⟨b,64,none⟩) (show b<_ by omega) n3,hX.cell (p:=⟨b,64,none⟩) lb];exact h.c64
 ·rw[hO.cell (p:=⟨b,65,none⟩) (show b<_ by omega) n3,hX.cell (p:=⟨b,65,none⟩) lb];exact h.c65
 ·rw[hO.frozen (p:=⟨b,64,none⟩) (show b<_ by omega) n3,hX.frozen (p:=⟨b,64,none⟩) lb];exact h.fz 64
theorem zgG{a:Option Addr}{n c k:Nat}:(Value.slice a n c).ownBlock=some k↔zaX a k:=zF
theorem zM.rewritten{b:Nat}{d:Dl}{a:An}{w w3:World}(h:zM b d a w)(hO:zo (zaX a.wa) w w3)(l:List Wn){v:Value}(hown:w3.ownsRow 0 199 3 v l.length (zaC l))(hv:∀g,v.ownBlock=some g→zaX a.wa g∨w.heap.size≤g)
  (hf:∀x∈l,x.pl<32∧x.bit<64) (hn:(l.map Wn.key).Nodup) :
  ∃x c,v=.slice x l.length c∧zY b d a { d with wr:=l } { a with wa:=x,wc:=c } w (w3.setCell ⟨b,64,none⟩ v):=by
 obtain⟨x,c,rfl,_⟩:=zba hown;have hlt:=h.lt;have nb:¬zaX a.wa b:=fun⟨q,hq,e⟩=>h.sepw q hq e.symm
 have e3:w3.heap[b]?=some (.cells (d.cells a).toArray 63 (0,0)):=by
  rw[hO.block b hlt nb];exact h.blk
 have xb:∀p,x=some p→p.block ≠ b:=fun p hp e=>by
  rcases hv p.block (zF.2 ⟨p,hp,rfl⟩) with⟨q,hq,e'⟩|h'
  ·exact h.sepw q hq (by omega)
  ·omega
 have hon:zo (a.foot b) w (w3.setCell ⟨b,64,none⟩ (.slice x l.length c)) :=
  (hO.mono (F':=a.foot b) (fun i hi=>Or.inr (Or.inl hi))).setCell ⟨b,64,none⟩ (Or.inl (Or.inl rfl)) _
 have hft:∀k,({ a with wa:=x,wc:=c }:An).foot b k→a.foot b k∨w.heap.size≤k:=by
  rintro k (rfl|⟨p,hp,rfl⟩|⟨p,hp,rfl⟩)
  ·exact Or.inl (Or.inl rfl)
  ·rcases hv p.block (zF.2 ⟨p,hp,rfl⟩) with h'|h'
   ·exact Or.inl (Or.inr (Or.inl h'))
   ·exact Or.inr (by omega)
  ·exact Or.inl (Or.inr (Or.inr ⟨p,hp,rfl⟩))
 refine⟨x,c,rfl,⟨?_,hon,hft⟩⟩;exact {
  n32:=h.n32
  g32:=h.g32
  blk:=by rw[zK e3,zhm d a l x c h.n32 h.g32]
  wrow:=zau hown fun g hg'=>by
   obtain⟨p,hp,rfl⟩:=zF.1 hg';exact zb8 _ _ (xb p hp)
  brow:=zau h.brow fun g hg'=>by
   obtain⟨p,hp,rfl⟩:=zF.1 hg';have hpl:=h.blt p hp;rw[zb8 _ _ (h.sepb p hp),hO.block _ hpl];rintro⟨q,hq,e⟩;exact h.sepwb q p hq hp e.symm
  sepw:=xb
  sepb:=h.sepb
  sepwb:=fun p q hp hq e=>by
   rcases hv p.block (zF.2 ⟨p,hp,rfl⟩) with⟨p',hp',e'⟩|h'
   ·exact h.sepwb p' q hp' hq (by omega)
   ·have:=h.blt q hq;omega
  reqs:=fun r hr'=>⟨(h.reqs r hr').1.frame (h.reqs r hr').2 hon,(h.reqs r hr').2.step (h.reqs r hr').1 hft⟩
  wfin:=hf
  nod:=hn
  blen:=h.blen
  nxt:=h.nxt }
theorem zoE{b:Nat}{d:Dl}{a:An}{w w3:World}(h:zM b d a w)(hO:zo (zaX a.wa) w w3):w3.cell? ⟨b,64,none⟩=some (.slice a.wa d.wr.length a.wc)∧w3.frozen? ⟨b,64,none⟩=false∧b<w3.heap.size:=by
 have nb:¬zaX a.wa b:=fun⟨q,hq,e⟩=>h.sepw q hq e.symm
 have hs:=hO.size;have hl:=h.lt;exact⟨by rw[hO.cell (p:=⟨b,64,none⟩) hl nb];exact h.c64,by rw[hO.frozen (p:=⟨b,64,none⟩) hl nb];exact h.fz 64,by omega⟩
theorem zhk(l:List Wn)(x:Wn):zaC (l++[x])=zaC l++[.int .i64 x.pl,.string x.data,.int .i64 x.bit]:=by rw[zgk];rfl
theorem znk{a:Option Addr}{n c n' c':Nat}{x:Option Addr}{B W:Nat}(hv:(Value.slice x n' c').ownBlock=(Value.slice a n c).ownBlock∨(Value.slice x n' c').ownBlock=some W){g:Nat}(hg:(Value.slice x n' c').ownBlock=some g)(hB:B≤W):zaX a g∨B≤g:=by
 rcases hv with h|h
 ·rw[h] at hg;exact Or.inl (zgG.1 hg)
 ·rw[h] at hg;cases hg;exact Or.inr hB
theorem ziM{w w2:World}{F:Nat→Prop}{n:Nat}(hn:w.heap.size=n)(vs:List Value)(T:TypeId)(hO:zo F (w.alloc (.cells vs.toArray T)) w2)(hF:¬F n)(j:Nat)(u:Value)(h:vs[j]?=some u):w2.cell? (Addr.add ⟨n,0,none⟩ j)=some u:=by
 have:=zdW hn vs T j u h;rw[Addr.add_mid] at this ⊢;rw[hO.cell (p:=⟨n,0+j,none⟩) (by simp[hn]) hF];exact this
theorem zmX{w w2:World}{F:Nat→Prop}{n:Nat}(hn:w.heap.size=n)(vs:List Value)(T:TypeId)(hO:zo F (w.alloc (.cells vs.toArray T)).drew w2)(hF:¬F n)(j:Nat)(u:Value)(h:vs[j]?=some u):w2.cell? (Addr.add ⟨n,0,none⟩ j)=some u :=
 ziM hn vs T ⟨hO.os,hO.tape,hO.output,hO.size,hO.block⟩ hF j u h
def Tri(q b p nx:Nat)(sl:Value)(w:World):Prop:=w.cell? ⟨q,0,none⟩=some (.pointer (some ⟨b,0,none⟩))∧w.cell? ⟨q+1,0,none⟩=some (.int .i64 p)∧w.cell? ⟨b,65,none⟩=some (.int .i64 nx)∧w.cell? ⟨b,64,none⟩=some sl∧w.frozen? ⟨b,64,none⟩=false
theorem Tri.drew{q b p nx:Nat}{sl:Value}{w:World}(h:Tri q b p nx sl w):Tri q b p nx sl w.drew:=h
theorem Tri.only{F:Nat→Prop}{q b p nx:Nat}{sl:Value}{w w':World}(h:Tri q b p nx sl w)(hO:zo F w w')(n1:¬F q)(n2:¬F (q+1))(n3:¬F b):Tri q b p nx sl w':=by
 obtain⟨h1,h2,h3,h4,h5⟩:=h;have l1:=zg h1;have l2:=zg h2;have l3:=zg h3;exact⟨by rw[hO.cell (p:=⟨q,0,none⟩) l1 n1];exact h1,by rw[hO.cell (p:=⟨q+1,0,none⟩) l2 n2];exact h2,by rw[hO.cell (p:=⟨b,65,none⟩) l3 n3];exact h3,(hO.cell (p:=⟨b,64,none⟩) l3 n3).trans h4,by rw[hO.frozen (p:=⟨b,64,none⟩) l3 n3];exact h5⟩
theorem Tri.alloc{q b p nx:Nat}{sl:Value}{w:World}(h:Tri q b p nx sl w)(o:Obj):Tri q b p nx sl (w.alloc o):=h.only (F:=fun _=>False) ((zo.refl _ _).alloc o) (fun e=>e) (fun e=>e) (fun e=>e)
theorem zk2{l:List Wn}{p n:Nat}{s:ByteArray}(h:∀x∈l,x.pl<32∧x.bit<64)(hp:p<32)(hn:n<64):∀x∈zaF p n l++[⟨p,s,n⟩],x.pl<32∧x.bit<64:=by
 intro x hx
 rcases List.mem_append.1 hx with hx|hx
 ·exact h x (List.mem_filter.1 hx).1
 ·obtain rfl:=List.mem_singleton.1 hx;exact⟨hp,hn⟩
theorem zkB{l:List Wn}{p n:Nat}{s:ByteArray}(h:∀x∈l,x.pl<32∧x.bit<64)(hn:n<64)(hd:(l.map Wn.key).Nodup):((zaF p n l++[(⟨p,s,n⟩:Wn)]).map Wn.key).Nodup:=by
 rw[List.map_append,List.nodup_append];refine⟨hd.sublist (List.filter_sublist.map _),by simp,?_⟩;intro k hk k' hk';simp only[List.map_cons,List.map_nil,List.mem_singleton] at hk';subst hk';obtain⟨x,hx,rfl⟩:=List.mem_map.1 hk;have h1:=List.mem_filter.1 hx;have h2:=h x h1.1;simp only[Wn.key];intro e;have:zbD p n x=true:=by simp only[zbD,Bool.and_eq_true,beq_iff_eq];omega
 simp[this] at h1
theorem zlw(n:Nat):((n:Int)+1).tmod 64=(((n+1) % 64:Nat):Int):=by rw[Int.tmod_eq_emod_of_nonneg (by omega)];omega
theorem zh0{b:Nat}{d d1 d2:Dl}{a a2:An}{p:Nat}{s:ByteArray}{w wK wM:World}(hd1:d1={ d with now:=d.now.set p s })(hd2:d2={ d1 with wr:=zaF p d1.next d1.wr++[⟨p,s,d1.next⟩] })(hK:zM b d1 a wK)(hO:zo (a.foot b) w wK)(h:zY b d1 a d2 a2 wK wM):zY b d a (d.write p s) a2 w (wM.setCell ⟨b,65,none⟩ (.int .i64 ((d1.next+1) % 64:Nat))):=by
 have h1:zY b d a d1 a w wK:=⟨hK,hO,fun k hk=>Or.inl hk⟩
 have h2:=h1.trans h;refine h2.trans ⟨?_,(zo.refl (a2.foot b) wM).setCell ⟨b,65,none⟩ (Or.inl (Or.inl rfl)) _,fun k hk=>Or.inl hk⟩;have e:d.write p s={ d2 with next:=(d1.next+1) % 64 }:=by subst hd2;subst hd1;rfl
 rw[e];exact h.dev.setB 65 _ (zhs d2 a2 _ h.dev.n32 h.dev.g32) rfl rfl h.dev.n32 h.dev.g32 (Nat.mod_lt _ (by omega))
theorem infoW:(Tryz.prog.info? 199).map (fun i=>(i.zero,i.size,i.bytes))=some (some (.agg #[.int .i64 0,.string ByteArray.empty,.int .i64 0]),3,32):=by kernel_rfl
theorem zpQ(b:Nat)(d:Dl)(a:An)(p:Nat)(s:ByteArray)(w:World)(h:zM b d a w)(hp:p<32) :
  Calls Tryz.prog 150 #[.pointer (some ⟨b,0,none⟩),.int .i64 p,.string s] w fun e w'=>∃a',e=.returned (.tuple #[])∧zY b d a (d.write p s) a' w w':=by
 have hl:=h.lt;have cN:=h.cNow p hp;have fN:=h.fz p;have p1:(p:Int)<32:=by omega
 have p2:(0:Int)≤(p:Int):=by omega
 have HD:=za h;clear h;go_enter Tryz.func150,Tryz.ntmps150;go_wp2_with fail
 go_region
 go_wp2_with fail;obtain⟨d1,hd1⟩:∃d1:Dl,d1={ d with now:=d.now.set p s }:=⟨_,rfl⟩
 have HD1:=za hd1;clear hd1;refine zai (fun wK=>zM b d1 a wK∧wK.cell? ⟨w.heap.size,0,none⟩=some (.pointer (some ⟨b,0,none⟩))∧wK.cell? ⟨w.heap.size+1,0,none⟩=some (.int .i64 p)∧zo (a.foot b) w wK) ⟨?_,by simp[go_sem],by simp[go_sem],?_⟩ ?_
 ·rw[HD1.out];exact(((HD.out.setB p (.string s) (zlE d a p s HD.out.n32 hp) rfl rfl (by simpa using HD.out.n32) HD.out.g32 HD.out.nxt).alloc _).alloc _).later (Below.refl _ _).drew
 ·exact((((zo.refl (a.foot b) w).setCell ⟨b,p,none⟩ (Or.inl (Or.inl rfl)) (.string s)).alloc _).alloc _).drew
 rintro wK ⟨hK,k1,k2,hO⟩;have HK:=za hK;have HO:=za hO;have k3:=hK.c64;have k4:=hK.c65;have lb:=hK.lt;have l1:=zg k1;have l2:=zg k2;clear hK hO cN fN p1 p2;have eg:∀args w,Sem.run Tryz.prog (callFunc 157 args) w=.ok (.enter 157 args) w:=by intro args w;go_simp
 have hwl:=HK.out.wlen;have nr:∀k,k=w.heap.size∨k=w.heap.size+1∨k=b→¬zaX a.wa k:=by
  rintro k hk ⟨q,hq,rfl⟩;have h1:=HD.out.wlt q hq;have h2:=HD.out.sepw q hq
  omega
 have NR:=za nr;have HHK:Hid (zc9 (w.heap.size+1) w.heap.size b p d1.next wK):=⟨k2,k1,k4⟩
 have NRK:Hid (¬zaX a.wa wK.heap.size):=by
  rintro⟨q,hq,e⟩;have:=HK.out.wlt q hq
  omega
 clear nr;obtain⟨iW,hi,hz0,hz1,hz2⟩:=zaL infoW;have HI:=za (⟨hi,hz0,hz1,hz2⟩:Tryz.prog.info? 199=some iW∧_∧_∧_);have HKL:Hid ((zaF p d1.next d1.wr).length≤2048):=Nat.le_trans (List.length_filter_le _ _) hwl;clear hi hz0 hz1 hz2;have T0:Tri w.heap.size b p d1.next (.slice a.wa d1.wr.length a.wc) wK:=⟨k1,k2,k4,k3,HK.out.fz 64⟩
 have HS:Hid (Tri w.heap.size b p d1.next (.slice a.wa d1.wr.length a.wc) wK.drew):=T0;refine zaJ (S:=Tri w.heap.size b p d1.next (.slice a.wa d1.wr.length a.wc)) (d:=18) (by kernel_rfl) ?_;refine tk 0 ?_ rfl (Or.inl ⟨by rfl,?_⟩) HS.out ?_;rotate_left;(focus(intro w0 hSw;obtain⟨s1,s2,s3,s4,s5⟩:=hSw;go_simp;(try with_reducible rfl)));(try simp only[Act.put,dP])
 refine tk 1 ?_ rfl (Or.inl ⟨by rfl,?_⟩) HS.out ?_;rotate_left;(focus(intro w0 hSw;obtain⟨s1,s2,s3,s4,s5⟩:=hSw;go_simp;(try with_reducible rfl)));(try simp only[Act.put,dP])
 refine tk 2 ?_ rfl (Or.inl ⟨by rfl,?_⟩) HS.out ?_;rotate_left;(focus(intro w0 hSw;obtain⟨s1,s2,s3,s4,s5⟩:=hSw;go_simp;(try with_reducible rfl)));(try simp only[Act.put,dP])
 refine tk 3 ?_ rfl (Or.inl ⟨by rfl,?_⟩) HS.out ?_;rotate_left;(focus(intro w0 hSw;obtain⟨s1,s2,s3,s4,s5⟩:=hSw;go_simp;(try with_reducible rfl)));(try simp only[Act.put,dP])
 refine tk 4 ?_ rfl (Or.inl ⟨by rfl,?_⟩) HS.out ?_;rotate_left;(focus(intro w0 hSw;obtain⟨s1,s2,s3,s4,s5⟩:=hSw;go_simp;(try with_reducible rfl)));(try simp only[Act.put,dP])
 refine tk 5 ?_ rfl (Or.inl ⟨by rfl,?_⟩) HS.out ?_;rotate_left;(focus(intro w0 hSw;obtain⟨s1,s2,s3,s4,s5⟩:=hSw;go_simp;(try with_reducible rfl)));(try simp only[Act.put,dP])
 refine tk 7 ?_ rfl (Or.inl ⟨by rfl,?_⟩) HS.out ?_;rotate_left;(focus(intro w0 hSw;obtain⟨s1,s2,s3,s4,s5⟩:=hSw;go_simp;(try with_reducible rfl)));(try simp only[Act.put,dP])
 refine tk 8 ?_ rfl (Or.inl ⟨by rfl,?_⟩) HS.out ?_;rotate_left;(focus(intro w0 hSw;obtain⟨s1,s2,s3,s4,s5⟩:=hSw;go_simp;(try with_reducible rfl)));(try simp only[Act.put,dP])
 refine tk 9 ?_ rfl (Or.inl ⟨by rfl,?_⟩) HS.out ?_;rotate_left;(focus(intro w0 hSw;obtain⟨s1,s2,s3,s4,s5⟩:=hSw;go_simp;(try with_reducible rfl)));(try simp only[Act.put,dP])
 refine tk 10 ?_ rfl (Or.inl ⟨by rfl,?_⟩) HS.out ?_;rotate_left;(focus(intro w0 hSw;obtain⟨s1,s2,s3,s4,s5⟩:=hSw;go_simp;(try with_reducible rfl)));(try simp only[Act.put,dP])
 refine tk 11 ?_ rfl (Or.inl ⟨by rfl,?_⟩) HS.out ?_;rotate_left;(focus(intro w0 hSw;obtain⟨s1,s2,s3,s4,s5⟩:=hSw;go_simp;(try with_reducible rfl)));(try simp only[Act.put,dP])
 refine tk 12 ?_ rfl (Or.inl ⟨by rfl,?_⟩) HS.out ?_;rotate_left;(focus(intro w0 hSw;obtain⟨s1,s2,s3,s4,s5⟩:=hSw;go_simp;(try with_reducible rfl)));(try simp only[Act.put,dP])
 refine tk 13 ?_ rfl (Or.inl ⟨by rfl,?_⟩) HS.out ?_;rotate_left;(focus(intro w0 hSw;obtain⟨s1,s2,s3,s4,s5⟩:=hSw;go_simp;(try with_reducible rfl)));(try simp only[Act.put,dP])
 refine zlh (i:=6) (j:=14) rfl rfl (by kernel_rfl) ?_ ?_
 ·intro K hK;refine zdN rfl 157 18 19 61 200 rfl eg (.slice a.wa d1.wr.length a.wc) (.func (.func 156) #[] #[.pointer (some ⟨w.heap.size+1,0,none⟩),.pointer (some ⟨w.heap.size,0,none⟩)]) rfl rfl (.slice a.wa (zaF p d1.next d1.wr).length a.wc) (fun w'=>w'.ownsRow 0 199 3 (.slice a.wa (zaF p d1.next d1.wr).length a.wc) (zaF p d1.next d1.wr).length (zaC (zaF p d1.next d1.wr))∧zo (zaX a.wa) _ w') (delW (w.heap.size+1) w.heap.size b p d1.next d1.wr a.wa a.wc _ (HK.out.later (by(with_reducible repeat first|exact Below.refl _ _|refine zc ?_ _|refine zd ?_|refine bset' ?_ (by omega) _|refine zb ?_ (by assumption)))).wrow (by omega) HK.out.nod (HHK.out.later (by(with_reducible repeat first|exact Below.refl _ _|refine zc ?_ _|refine zd ?_|refine bset' ?_ (by omega) _|refine zb ?_ (by assumption)))) (NR.out _ (by omega)) (NR.out _ (by omega)) (NR.out _ (by omega))) ?_;rintro w2 ⟨hown2,hO2⟩;obtain⟨q1,q2,q3,q4,q5,q6,q7⟩:=kept3 HK.out (by(with_reducible repeat first|exact Below.refl _ _|refine zc ?_ _|refine zd ?_|refine bset' ?_ (by omega) _|refine zb ?_ (by assumption))) hO2 k1 k2 (NR.out _ (by omega)) (NR.out _ (by omega)) (NR.out _ (by omega));have HO2:=za (⟨hown2,hO2⟩:_∧_);have T2:Tri w.heap.size b p d1.next (.slice a.wa d1.wr.length a.wc) w2:=⟨q1,q2,q4,q3,q5⟩;clear hown2 hO2;refine hK _ _ (fun _=>T2) ?_;(try simp only[Act.put,dP]);clear hK;refine zw (i:=14) rfl (by kernel_rfl) ?_;intro K hK;go_simp;refine hK _ _ (fun _=>T2.alloc _) ?_;(try simp only[Act.put,dP]);clear hK;refine zw (i:=15) rfl (by kernel_rfl) ?_;intro K hK;refine ze9 rfl (.tmp 20) (.tmp 28) 61 rfl 0 199 iW _ 3 32 Tryz.underlying61 HI.out.1 HI.out.2.1 HI.out.2.2.1 HI.out.2.2.2 rfl (by decide) (.slice a.wa (zaF p d1.next d1.wr).length a.wc) (zaF p d1.next d1.wr).length (zaC (zaF p d1.next d1.wr)) rfl (HO2.out.1.alloc _) ⟨w2.heap.size,0,none⟩ 1 1 [.int .i64 p,.string s,.int .i64 d1.next] rfl rfl (fun j u hj=>zdW rfl _ _ j u hj) (by simp[Value.oneCell']) (by omega) (by have:=HKL.out;unfold maxLen;omega) (by have:=HKL.out;omega) (Nat.zero_le _) ?_;intro v3 w3 hown3 hg3 hv3;have hO3:zo (zaX a.wa) wK w3:=(((zo.of_below (by(with_reducible repeat first|exact Below.refl _ _|refine zc ?_ _|refine zd ?_|refine bset' ?_ (by omega) _|refine zb ?_ (by assumption)))).trans HO2.out.2 (fun _ e=>Or.inl e)).alloc _).grown hg3 (fun k hk=>Or.inl (zgG.1 hk));obtain⟨x3,c3,rfl,-⟩:=zba hown3;obtain⟨r1,r2,r3⟩:=zoE HK.out hO3;have hv4:∀g,(Value.slice x3 ((zaF p d1.next d1.wr).length+1) c3).ownBlock=some g→zaX a.wa g∨wK.heap.size≤g:=fun g hg=>znk hv3 hg (by have:=HO2.out.2.size;simp at this;simp;omega);have T3:Tri w.heap.size b p d1.next (.slice a.wa d1.wr.length a.wc) w3:=T0.only hO3 (NR.out _ (by omega)) (NR.out _ (by omega)) (NR.out _ (by omega));have HP3:=za (⟨hown3,hO3,hv4⟩:_∧_∧_);clear hown3 hO3 hv3 hg3 hv4;refine hK _ _ (fun _=>T3) ?_;(try simp only[Act.put,dP]);clear hK;refine zw (i:=16) rfl (by kernel_rfl) ?_;intro K hK;go_simp;refine hK _ _ (fun _=>T3) ?_;(try simp only[Act.put,dP]);clear hK;refine zw (i:=17) rfl (by kernel_rfl) ?_;intro K hK;go_simp;refine hK _ _ (fun _=>T3) ?_;(try simp only[Act.put,dP]);clear hK;refine zw (i:=18) rfl (by kernel_rfl) ?_;intro K hK;go_simp;refine hK _ _ (fun h=>absurd rfl h) ?_;(try simp only[Act.put,dP]);clear hK;refine zaO (by kernel_rfl) ?_ _
  obtain⟨hown3,hO3,hv4⟩:=HP3.out;obtain⟨x4,c4,e4,hst⟩:=HK.out.rewritten hO3 (zaF p d1.next d1.wr++[⟨p,s,d1.next⟩]) (by rw[zhk,List.length_append];exact hown3) hv4 (zk2 HK.out.wfin hp HK.out.nxt) (zkB HK.out.wfin HK.out.nxt HK.out.nod);obtain⟨d2,hd2⟩:∃d2:Dl,d2={ d1 with wr:=zaF p d1.next d1.wr++[⟨p,s,d1.next⟩] }:=⟨_,rfl⟩;rw[←hd2] at hst;have HST:=za hst;have HN2:Hid (d2.next=d1.next):=(by rw[hd2];rfl);have HD2:=za hd2;clear hown3 hO3 hv4 hst hd2 r1 r2 r3;go_wp2_with fail;refine zai (fun wM=>zY b d1 a d2 { a with wa:=x4,wc:=c4 } wK wM∧wM.cell? ⟨w.heap.size,0,none⟩=some (.pointer (some ⟨b,0,none⟩))) ⟨HST.out,(by rw[World.cell?_setCell_other _ _ _ _ (fun e=>absurd (congrArg Addr.block e) (by simp;omega))];exact T3.1)⟩ ?_;rintro wM ⟨hM,m1⟩;have m2:=hM.dev.c65;rw[HN2.out] at m2;have m3:=hM.dev.fz 65;have m4:=hM.dev.lt;have m5:=zg m1;have hnx:=HK.out.nxt;have hw1:IntKind.i64.wrap ((d1.next:Int)+1)=(d1.next:Int)+1:=(by rw[IntKind.wrap_i64];omega);have hw2:=zlw d1.next;have hw3:IntKind.i64.wrap (((d1.next+1) % 64:Nat):Int)=(((d1.next+1) % 64:Nat):Int):=(by rw[IntKind.wrap_i64];omega);have HM:=za (zh0 HD1.out HD2.out HK.out HO.out hM);clear hM;generalize (d1.next+1) % 64=nn at *
  go_region
  go_end0;exact⟨_,rfl,HM.out.drewAt⟩
 ·intro K hK;go_simp;refine hK _ _ (fun _=>HS.out.alloc _) ?_
  (try simp only[Act.put,dP])
  clear hK;refine zw (i:=6) rfl (by kernel_rfl) ?_;intro K hK;refine zdN rfl 157 18 19 61 200 rfl eg (.slice a.wa d1.wr.length a.wc) (.func (.func 156) #[] #[.pointer (some ⟨w.heap.size+1,0,none⟩),.pointer (some ⟨w.heap.size,0,none⟩)]) rfl rfl (.slice a.wa (zaF p d1.next d1.wr).length a.wc) (fun w'=>w'.ownsRow 0 199 3 (.slice a.wa (zaF p d1.next d1.wr).length a.wc) (zaF p d1.next d1.wr).length (zaC (zaF p d1.next d1.wr))∧zo (zaX a.wa) _ w') (delW (w.heap.size+1) w.heap.size b p d1.next d1.wr a.wa a.wc _ (HK.out.later (by(with_reducible repeat first|exact Below.refl _ _|refine zc ?_ _|refine zd ?_|refine bset' ?_ (by omega) _|refine zb ?_ (by assumption)))).wrow (by omega) HK.out.nod (HHK.out.later (by(with_reducible repeat first|exact Below.refl _ _|refine zc ?_ _|refine zd ?_|refine bset' ?_ (by omega) _|refine zb ?_ (by assumption)))) (NR.out _ (by omega)) (NR.out _ (by omega)) (NR.out _ (by omega))) ?_;rintro w2 ⟨hown2,hO2⟩;obtain⟨q1,q2,q3,q4,q5,q6,q7⟩:=kept3 HK.out (by(with_reducible repeat first|exact Below.refl _ _|refine zc ?_ _|refine zd ?_|refine bset' ?_ (by omega) _|refine zb ?_ (by assumption))) hO2 k1 k2 (NR.out _ (by omega)) (NR.out _ (by omega)) (NR.out _ (by omega));have HO2:=za (⟨hown2,hO2⟩:_∧_);have T2:Tri w.heap.size b p d1.next (.slice a.wa d1.wr.length a.wc) w2:=⟨q1,q2,q4,q3,q5⟩;clear hown2 hO2;refine hK _ _ (fun _=>T2) ?_;(try simp only[Act.put,dP]);clear hK;refine zw (i:=15) rfl (by kernel_rfl) ?_;intro K hK;refine ze9 rfl (.tmp 20) (.tmp 28) 61 rfl 0 199 iW _ 3 32 Tryz.underlying61 HI.out.1 HI.out.2.1 HI.out.2.2.1 HI.out.2.2.2 rfl (by decide) (.slice a.wa (zaF p d1.next d1.wr).length a.wc) (zaF p d1.next d1.wr).length (zaC (zaF p d1.next d1.wr)) rfl HO2.out.1 ⟨wK.heap.size,0,none⟩ 1 1 [.int .i64 p,.string s,.int .i64 d1.next] rfl rfl (by first|exact ziM rfl _ _ HO2.out.2 NRK.out|exact zmX rfl _ _ HO2.out.2 NRK.out) (by simp[Value.oneCell']) (by omega) (by have:=HKL.out;unfold maxLen;omega) (by have:=HKL.out;omega) (Nat.zero_le _) ?_;intro v3 w3 hown3 hg3 hv3;have hO3:zo (zaX a.wa) wK w3:=((zo.of_below (by(with_reducible repeat first|exact Below.refl _ _|refine zc ?_ _|refine zd ?_|refine bset' ?_ (by omega) _|refine zb ?_ (by assumption)))).trans HO2.out.2 (fun _ e=>Or.inl e)).grown hg3 (fun k hk=>Or.inl (zgG.1 hk));obtain⟨x3,c3,rfl,-⟩:=zba hown3;obtain⟨r1,r2,r3⟩:=zoE HK.out hO3;have hv4:∀g,(Value.slice x3 ((zaF p d1.next d1.wr).length+1) c3).ownBlock=some g→zaX a.wa g∨wK.heap.size≤g:=fun g hg=>znk hv3 hg (by have:=HO2.out.2.size;simp at this;simp;omega);have T3:Tri w.heap.size b p d1.next (.slice a.wa d1.wr.length a.wc) w3:=T0.only hO3 (NR.out _ (by omega)) (NR.out _ (by omega)) (NR.out _ (by omega));have HP3:=za (⟨hown3,hO3,hv4⟩:_∧_∧_);clear hown3 hO3 hv3 hg3 hv4;refine hK _ _ (fun _=>T3) ?_;(try simp only[Act.put,dP]);clear hK;refine zw (i:=16) rfl (by kernel_rfl) ?_;intro K hK;go_simp;refine hK _ _ (fun _=>T3) ?_;(try simp only[Act.put,dP]);clear hK;refine zw (i:=17) rfl (by kernel_rfl) ?_;intro K hK;go_simp;refine hK _ _ (fun _=>T3) ?_;(try simp only[Act.put,dP]);clear hK;refine zw (i:=18) rfl (by kernel_rfl) ?_;intro K hK;go_simp;refine hK _ _ (fun h=>absurd rfl h) ?_;(try simp only[Act.put,dP]);clear hK;refine zaO (by kernel_rfl) ?_ _
  obtain⟨hown3,hO3,hv4⟩:=HP3.out;obtain⟨x4,c4,e4,hst⟩:=HK.out.rewritten hO3 (zaF p d1.next d1.wr++[⟨p,s,d1.next⟩]) (by rw[zhk,List.length_append];exact hown3) hv4 (zk2 HK.out.wfin hp HK.out.nxt) (zkB HK.out.wfin HK.out.nxt HK.out.nod);obtain⟨d2,hd2⟩:∃d2:Dl,d2={ d1 with wr:=zaF p d1.next d1.wr++[⟨p,s,d1.next⟩] }:=⟨_,rfl⟩;rw[←hd2] at hst;have HST:=za hst;have HN2:Hid (d2.next=d1.next):=(by rw[hd2];rfl);have HD2:=za hd2;clear hown3 hO3 hv4 hst hd2 r1 r2 r3;go_wp2_with fail;refine zai (fun wM=>zY b d1 a d2 { a with wa:=x4,wc:=c4 } wK wM∧wM.cell? ⟨w.heap.size,0,none⟩=some (.pointer (some ⟨b,0,none⟩))) ⟨HST.out,(by rw[World.cell?_setCell_other _ _ _ _ (fun e=>absurd (congrArg Addr.block e) (by simp;omega))];exact T3.1)⟩ ?_;rintro wM ⟨hM,m1⟩;have m2:=hM.dev.c65;rw[HN2.out] at m2;have m3:=hM.dev.fz 65;have m4:=hM.dev.lt;have m5:=zg m1;have hnx:=HK.out.nxt;have hw1:IntKind.i64.wrap ((d1.next:Int)+1)=(d1.next:Int)+1:=(by rw[IntKind.wrap_i64];omega);have hw2:=zlw d1.next;have hw3:IntKind.i64.wrap (((d1.next+1) % 64:Nat):Int)=(((d1.next+1) % 64:Nat):Int):=(by rw[IntKind.wrap_i64];omega);have HM:=za (zh0 HD1.out HD2.out HK.out HO.out hM);clear hM;generalize (d1.next+1) % 64=nn at *
  go_region
  go_end0;exact⟨_,rfl,HM.out.drewAt⟩
theorem zA.bndD{r:Rq}(h:zA r):0≤r.f∧r.f≤31∧1≤r.m∧r.m≤4∧r.m≤32-r.f:=by
 have:=h.ok;simp only[okB,decide_eq_true_eq] at this
 omega
theorem zfF{w:World}{base e n:Nat}{v:Value}{xs:List ByteArray}(h:w.ownsRow base e 1 v n (zaG xs))(hn:n=xs.length):∃a c,v=.slice a xs.length c∧zU w a xs∧(a=none→c=0)∧∀ad,a=some ad→base≤ad.block:=by
 subst hn
 rcases h.2 with⟨rfl,h0⟩|⟨g,cap,cur,rfl,hg,hh,hnc,hcm,hcs,ht⟩
 ·obtain rfl:=List.eq_nil_of_length_eq_zero h0;exact⟨none,0,rfl,Or.inl rfl,fun _=>rfl,by simp⟩
 ·refine⟨_,cap,rfl,Or.inr ⟨g,0,rfl,fun i hi=>?_⟩,by simp,fun ad e=>?_⟩
  ·have hc:=h.cellAt i (by omega);rw[Nat.zero_add,hc]
   simp[zaG,List.getElem?_eq_getElem hi]
  ·simp only[Option.some.injEq] at e;subst e;exact hg
def zbB(d:Dl)(f n:Nat):List ByteArray:=(List.range n).map fun j=>d.now.getD (f+j) ByteArray.empty
theorem zmN(d:Dl)(f n:Nat):zbB d f (n+1)=zbB d f n++[d.now.getD (f+n) ByteArray.empty]:=by simp[zbB,List.range_succ]
theorem zeh(d:Dl)(f n:Nat):(zbB d f n).length=n:=by simp[zbB]
theorem zgN(r:Rq)(gr:zA r)(k:Nat)(hk:k<32):zam r.f r.m k=decide (r.f.toNat≤k∧k<r.f.toNat+r.m.toNat):=by
 have:=gr.bndD;rw[zeD r.f r.m 4 k gr.ok (by omega),za1]
 congr 1
 simp only[eq_iff_iff]
 omega
def below(f m k:Nat):Nat:=min (k-f) m
theorem zfO{f m k:Nat}(h1:f≤k)(h2:k<f+m):below f m (k+1)=below f m k+1∧f+below f m k=k:=by unfold below;omega
theorem ze6{f m k:Nat}(h:¬(f≤k∧k<f+m)):below f m (k+1)=below f m k:=by unfold below;omega
theorem zeU{f m:Nat}(h:f+m≤32):below f m 32=m:=by unfold below;omega
theorem zr6(b:Nat)(d:Dl)(a:An)(r:Rq)(w:World)(h:zM b d a w)(gr:zA r)(hw:r.wr=false) :
  Calls Tryz.prog 130 #[.pointer (some ⟨b,0,none⟩),r.val] w fun e w'=>∃xa xc,e=.returned (.slice xa (zbB d r.f.toNat r.m.toNat).length xc)∧zU w' xa (zbB d r.f.toNat r.m.toNat)∧(xa=none→xc=0)∧(∀ad,xa=some ad→w.heap.size≤ad.block)∧Below w.heap.size w w':=by
 obtain⟨iS,hi,hz0,hz1,hz2⟩:=zaL zfc;have HI:=za (⟨hi,hz0,hz1,hz2⟩:Tryz.prog.info? 9=some iS∧_∧_∧_);have HB0:=za gr.bndD;have HHAS:=za (zgN r gr);have HD:=za h;have hl:=h.lt;clear hi hz0 hz1 hz2 h gr;obtain⟨wr0,f,m,da,dc,data,ta,tc,tags,born⟩:=r;simp only at *;subst hw;go_enter Tryz.func130,Tryz.ntmps130;go_wp2_with fail;have hB0:=za (zn w (.cells #[.bool false,.int .i64 f,.int .i64 m,.slice da data.length dc,.slice ta tags.length tc,.int .i64 born] 111));have hc0:Hid (∀wr,Below (w.heap.size+1) (w.alloc (.cells #[.bool false,.int .i64 f,.int .i64 m,.slice da data.length dc,.slice ta tags.length tc,.int .i64 born] 111)) wr→wr.cell? ⟨w.heap.size,0,none⟩=some (.bool false)∧wr.cell? ⟨w.heap.size,1,none⟩=some (.int .i64 f)∧wr.cell? ⟨w.heap.size,2,none⟩=some (.int .i64 m)):=fun wr hb =>
  ⟨(hb.cell (p:=⟨w.heap.size,0,none⟩) (by simp)).trans (by simp),(hb.cell (p:=⟨w.heap.size,1,none⟩) (by simp)).trans (by simp),(hb.cell (p:=⟨w.heap.size,2,none⟩) (by simp)).trans (by simp)⟩
 generalize hW1:w.alloc (.cells #[.bool false,.int .i64 f,.int .i64 m,.slice da data.length dc,.slice ta tags.length tc,.int .i64 born] 111)=w1 at *;have hs1:w1.heap.size=w.heap.size+1:=by rw[←hW1];simp
 have HS1:=za hs1;clear hW1 hs1
 go_loopw[5,9] (fun v i wr=>∃k:Nat,k≤32∧i=.int .i64 k∧wr.ownsRow (w.heap.size+1) 9 1 v (below f.toNat m.toNat k) (zaG (zbB d f.toNat (below f.toNat m.toNat k)))∧Below (w.heap.size+1) w1 wr) (fun _ i _=>32-(intOf i).toNat)
 case atStart=>exact⟨0,by omega,rfl,by simpa [below,zbB,zaG] using World.ownsRow_nil w1 (w.heap.size+1) 9 1,Below.refl _ _⟩
 case round =>
  obtain⟨k,hk,rfl,hown,HB⟩:=hrel;have HOWN:=za hown;obtain⟨c0,c1,c2⟩:=hc0.out wr HB;have hsz:=HB.size;rw[HS1.out] at hsz;clear hown
  by_cases hlt:k<32
  ·have hhs:=HHAS.out k hlt;have hlt':(k:Int)<32:=by omega
   by_cases hin:f.toNat≤k∧k<f.toNat+m.toNat
   ·rw[decide_eq_true hin] at hhs;obtain⟨e1,e2⟩:=zfO hin.1 hin.2;have HE:=za (⟨e1,e2⟩:_∧_);have hbm:below f.toNat m.toNat k≤32:=by unfold below;omega
    clear e1 e2 hin;go_wp2_with fail;refine(zdJ _ _ _ _ _ hhs).mono ?_;rintro e w2 ⟨rfl,hb2⟩;have HB2:=HB.trans (hb2.mono hsz);have hown2:=za (zau HOWN.out (fun g hg=>hb2.block g (HOWN.out.lt g hg).2));obtain⟨c0',c1',c2'⟩:=hc0.out w2 HB2;have hsz2:=HB2.size;rw[HS1.out] at hsz2;have hdev:zM b d a w2:=HD.out.later (zb hB0.out (HB2.mono (by rw[HS1.out];omega)));have cn:=hdev.cNow k hlt;have lbb:=hdev.lt;have HBL:=za hbm;clear hdev hb2 hhs hbm c0 c1 c2;generalize hs:d.now.getD k ByteArray.empty=s at *;have HSS:=za hs;clear hs;go_wp2_with(at_builtin;refine zq rfl _ _ 109 rfl (w.heap.size+1) 9 iS _ 1 16 Tryz.underlying109 HI.out.1 HI.out.2.1 HI.out.2.2.1 HI.out.2.2.2 rfl (by decide) _ (below f.toNat m.toNat k) (zaG (zbB d f.toNat (below f.toNat m.toNat k))) rfl (hown2.out.alloc _) (some ⟨w2.heap.size,0,none⟩) 1 1 [.string s] rfl ⟨rfl,by simp[Value.oneCell'],Or.inr ⟨_,rfl,fun j u hj=>zdW rfl _ _ j u hj⟩⟩ (by have:=HBL.out;unfold maxLen;omega) (by have:=HBL.out;omega) (by simp;omega) ?_;intro v3 w3 hown3 hb3);go_roundw
    case rel =>
     refine⟨k+1,by omega,by go_num,?_,HB2.trans (((Below.refl _ _).alloc (by omega) _).trans hb3)⟩;rw[HE.out.1,zmN,HE.out.2,HSS.out]
     simpa [zaG] using hown3
    case measure=>simp[intOf];omega
   ·rw[decide_eq_false hin] at hhs;have HE:=za (ze6 hin);clear hin;go_wp2_with fail;refine(zdJ _ _ _ _ _ hhs).mono ?_;rintro e w2 ⟨rfl,hb2⟩;have HB2:=HB.trans (hb2.mono hsz);have hown2:=za (zau HOWN.out (fun g hg=>hb2.block g (HOWN.out.lt g hg).2));clear hb2 hhs c0 c1 c2;go_wp2;go_roundw
    case rel=>exact⟨k+1,by omega,by go_num,by rw[HE.out];exact hown2.out,HB2⟩
    case measure=>simp[intOf];omega
  ·have hk32:k=32:=by omega
   subst hk32;obtain⟨b1,b2,b3,b4,b5⟩:=HB0.out;have hall:below f.toNat m.toNat 32=m.toNat:=zeU (by omega);rw[hall] at HOWN;obtain⟨xa,xc,rfl,hst,hnn,had⟩:=zfF HOWN.out (zeh _ _ _).symm;have HST:=za (⟨hst,hnn,had⟩:_∧_∧_);clear hst hnn had b1 b2 b3 b4 b5 hall;go_wp2;go_ret;exact⟨xa,xc,rfl,HST.out.1,HST.out.2.1,fun ad e=>Nat.le_of_succ_le (HST.out.2.2 ad e),hB0.out.trans (HB.mono (by omega))⟩
def Dl.writesTo(d:Dl)(r:Rq)(n:Nat):Dl:=(List.range n).foldl (fun d j=>d.write (r.f.toNat+j) (r.data.getD j ByteArray.empty)) d
theorem Dl.writesTo_succ(d:Dl)(r:Rq)(n:Nat):d.writesTo r (n+1)=(d.writesTo r n).write (r.f.toNat+n) (r.data.getD n ByteArray.empty):=by simp[Dl.writesTo,List.range_succ]
theorem zY.later{b:Nat}{d d':Dl}{a a':An}{w w' w'':World}(h:zY b d a d' a' w w')(hb:Below w'.heap.size w' w''):zY b d a d' a' w w'':=⟨h.dev.later hb,h.only.later hb,h.foot⟩
theorem zY.same{b:Nat}{d:Dl}{a:An}{w w':World}(h:zM b d a w)(hb:Below w.heap.size w w'):zY b d a d a w w':=⟨h.later hb,zo.of_below hb,fun _ hk=>Or.inl hk⟩
def za3(w:World)(q:Nat)(r:Rq):Prop:=w.cell? ⟨q,0,none⟩=some (.bool r.wr)∧w.cell? ⟨q,1,none⟩=some (.int .i64 r.f)∧w.cell? ⟨q,2,none⟩=some (.int .i64 r.m)∧w.cell? ⟨q,3,none⟩=some (.slice r.da r.data.length r.dc)∧w.cell? ⟨q,4,none⟩=some (.slice r.ta r.tags.length r.tc)∧w.cell? ⟨q,5,none⟩=some (.int .i64 r.born)
theorem za3.only{F:Nat→Prop}{w w':World}{q:Nat}{r:Rq}(h:za3 w q r)(hO:zo F w w')(hn:¬F q):za3 w' q r:=by
 obtain⟨h0,h1,h2,h3,h4,h5⟩:=h;have hl:=zg h0;exact⟨(hO.cell (p:=⟨q,0,none⟩) hl hn).trans h0,(hO.cell (p:=⟨q,1,none⟩) hl hn).trans h1,(hO.cell (p:=⟨q,2,none⟩) hl hn).trans h2,(hO.cell (p:=⟨q,3,none⟩) hl hn).trans h3,(hO.cell (p:=⟨q,4,none⟩) hl hn).trans h4,(hO.cell (p:=⟨q,5,none⟩) hl hn).trans h5⟩
theorem za3.later{w w':World}{q:Nat}{r:Rq}(h:za3 w q r)(hb:Below w.heap.size w w'):za3 w' q r:=h.only (F:=fun _=>False) (zo.of_below hb) (fun e=>e)
theorem zb5(w:World)(T:TypeId)(r:Rq):za3 (w.alloc (.cells #[.bool r.wr,.int .i64 r.f,.int .i64 r.m,.slice r.da r.data.length r.dc,.slice r.ta r.tags.length r.tc,.int .i64 r.born] T)) w.heap.size r:=by
 refine⟨?_,?_,?_,?_,?_,?_⟩<;>simp
theorem zqz(b:Nat)(d:Dl)(a:An)(r:Rq)(w:World)(h:zM b d a w)(gr:zA r)(hw:r.wr=true)(hr:r.At w)(ho:r.Off (a.foot b)) :
  Calls Tryz.prog 130 #[.pointer (some ⟨b,0,none⟩),r.val] w fun e w'=>∃a',e=.returned (.slice none 0 0)∧zY b d a (d.writesTo r r.m.toNat) a' w w':=by
 have HB0:=za gr.bndD;have HHAS:=za (zgN r gr);have hdl:(r.data.length:Int)=r.m:=by
  have:=gr.shape;simp only[zbR,hw,if_true,decide_eq_true_eq] at this;exact this
 have HDL:=za hdl;have HD:=za h;have hl:=h.lt;have hB1:=zn w (.cells #[.bool r.wr,.int .i64 r.f,.int .i64 r.m,.slice r.da r.data.length r.dc,.slice r.ta r.tags.length r.tc,.int .i64 r.born] 111);have hX:=zb5 w 111 r;have HR:=za (hr.later hB1);have HO:=za ho;have HW:=za hw;clear h gr hdl hr ho hw;go_enter Tryz.func130,Tryz.ntmps130;go_wp2_with fail;generalize hW1:w.alloc (.cells #[.bool r.wr,.int .i64 r.f,.int .i64 r.m,.slice r.da r.data.length r.dc,.slice r.ta r.tags.length r.tc,.int .i64 r.born] 111)=w1 at *;have hs1:w1.heap.size=w.heap.size+1:=by rw[←hW1];simp
 have HS1:=za hs1;have HX:=za hX;have HB1:=za hB1;clear hW1 hs1 hX hB1
 go_loopw[5,9] (fun v i wr=>∃(k:Nat) (a':An),k≤32∧i=.int .i64 k∧v=.slice none 0 0∧zY b d a (d.writesTo r (below r.f.toNat r.m.toNat k)) a' w1 wr) (fun _ i _=>32-(intOf i).toNat)
 case atStart=>exact⟨0,a,by omega,rfl,rfl,by simpa [below,Dl.writesTo] using zY.same (HD.out.later HB1.out) (Below.refl _ _)⟩
 case round =>
  obtain⟨k,a',hk,rfl,rfl,hst⟩:=hrel;have HST:=za hst;have nq:¬a.foot b w.heap.size:=fun e=>by have:=HD.out.footLt _ e;omega
  have hbx:=HX.out.only HST.out.only nq;have hra:=za (HR.out.frame HO.out HST.out.only);clear hst nq
  by_cases hlt:k<32
  ·have hhs:=HHAS.out k hlt;have hlt':(k:Int)<32:=by omega
   obtain⟨b1,b2,b3,b4,b5⟩:=HB0.out
   by_cases hin:r.f.toNat≤k∧k<r.f.toNat+r.m.toNat
   ·rw[decide_eq_true hin] at hhs;obtain⟨e1,e2⟩:=zfO hin.1 hin.2;have HE:=za (⟨e1,e2⟩:_∧_);have hwp:wrap64 ((k:Int)-r.f)=((below r.f.toNat r.m.toNat k:Nat):Int):=by unfold wrap64;omega
    have hjl:below r.f.toNat r.m.toNat k<r.data.length:=by have:=HDL.out;omega
    have HWP:=za hwp;have HHS:=za hhs;obtain⟨x0,x1,x2,x3,x4,x5⟩:=id hbx;have lx:=zg x0;rw[HW.out] at x0;clear e1 e2 hin hwp b1 b2 b3 b4 b5 hhs;go_wp2_with fail;refine(zdJ _ _ _ _ _ HHS.out).mono ?_;rintro e w2 ⟨rfl,hb2⟩;obtain⟨y0,y1,y2,y3,y4,y5⟩:=hbx.later hb2;rw[HW.out] at y0;clear x0 x1 x2 x3 x4 x5;go_wp2_with fail;refine(ziS { r with wr:=true } r.data r.da r.dc 0 k _ (hra.out.data.later hb2) HHS.out _ HWP.out hjl _ rfl).mono ?_;rintro e w3 ⟨rfl,hb3⟩;have hst3:=za ((HST.out.later hb2).later hb3);go_wp2_with fail;refine(zpQ b _ a' k _ _ hst3.out.dev hlt).mono ?_;rintro e w4 ⟨a4,rfl,hst4⟩;have HST4:=za (hst3.out.trans hst4);clear hst4 hb2 hb3 y0 y1 y2 y3 y4 y5 hra hbx;go_wp2;go_roundw
    case rel =>
     refine⟨k+1,a4,by omega,by go_num,rfl,?_⟩;rw[HE.out.1,Dl.writesTo_succ,HE.out.2,List.getD_eq_getElem?_getD,List.getElem?_eq_getElem hjl,Option.getD_some];exact HST4.out
    case measure=>simp[intOf];omega
   ·rw[decide_eq_false hin] at hhs;have HE:=za (ze6 hin);have HHS:=za hhs;obtain⟨x0,x1,x2,x3,x4,x5⟩:=id hbx;clear hin b1 b2 b3 b4 b5 hhs;go_wp2_with fail;refine(zdJ _ _ _ _ _ HHS.out).mono ?_;rintro e w2 ⟨rfl,hb2⟩;have HST2:=za (HST.out.later hb2);clear hb2 x0 x1 x2 x3 x4 x5 hra hbx;go_wp2;go_roundw
    case rel=>exact⟨k+1,a',by omega,by go_num,rfl,by rw[HE.out];exact HST2.out⟩
    case measure=>simp[intOf];omega
  ·have hk32:k=32:=by omega
   subst hk32;obtain⟨b1,b2,b3,b4,b5⟩:=HB0.out;have hall:below r.f.toNat r.m.toNat 32=r.m.toNat:=zeU (by omega);rw[hall] at HST;clear hall b1 b2 b3 b4 b5 hra hbx;go_wp2;go_ret;exact⟨a',rfl,(zY.same HD.out HB1.out).trans HST.out⟩
def Dl.flush(d:Dl):Dl:={ d with good:=d.now,wr:=[],next:=0 }
theorem zkZ(l:List ByteArray):∀v∈zaG l,v.oneCell'=true:=by
 intro v hv;simp only[zaG,List.mem_map] at hv;obtain⟨s,_,rfl⟩:=hv
 rfl
theorem znI(d:Dl)(a:An)(l:List ByteArray)(h1:d.now.length=32)(h2:d.good.length=32)(h3:l.length=32):splice (d.cells a) 32 (zaG l)=({ d with good:=l }:Dl).cells a:=by
 have e1:(zaG d.now).length=32:=by rw[zC,h1]
 have e2:(zaG d.good).length=32:=by rw[zC,h2]
 have e3:(zaG l).length=32:=by rw[zC,h3]
 rw[splice,Dl.cells,Dl.cells,e3,List.append_assoc,List.take_append_of_le_length (by omega),List.take_of_length_le (by omega),List.drop_append,List.drop_eq_nil_of_le (by omega),List.nil_append,e1,show 32+32-32=32 by omega,List.drop_append,List.drop_eq_nil_of_le (by omega),List.nil_append,e2,Nat.sub_self,List.drop_zero,List.append_assoc]
theorem zM.reblock{b:Nat}{d d':Dl}{a a':An}{w w':World}(h:zM b d a w)(hO:zo (fun k=>k=b) w w')(hblk:w'.heap[b]?=some (.cells (d'.cells a').toArray 63 (0,0)))
  (hw:(d'.wr=d.wr∧a'.wa=a.wa∧a'.wc=a.wc)∨(d'.wr=[]∧a'.wa=none∧a'.wc=0)) (hb:(d'.busy=d.busy∧a'.ba=a.ba∧a'.bc=a.bc)∨(d'.busy=[]∧a'.ba=none∧a'.bc=0)) (n32:d'.now.length=32) (g32:d'.good.length=32) (nxt:d'.next<64):zY b d a d' a' w w':=by
 have hft:∀k,a'.foot b k→a.foot b k:=by
  rintro k (e|⟨p,hp,e⟩|⟨p,hp,e⟩)
  ·exact Or.inl e
  ·rcases hw with⟨_,h2,_⟩|⟨_,h2,_⟩
   ·rw[h2] at hp;exact Or.inr (Or.inl ⟨p,hp,e⟩)
   ·rw[h2] at hp;cases hp
  ·rcases hb with⟨_,h2,_⟩|⟨_,h2,_⟩
   ·rw[h2] at hp;exact Or.inr (Or.inr ⟨p,hp,e⟩)
   ·rw[h2] at hp;cases hp
 refine⟨?_,hO.mono (fun k hk=>Or.inl hk),fun k hk=>Or.inl (hft k hk)⟩;exact {
  n32:=n32
  g32:=g32
  blk:=hblk
  wrow:=by
   rcases hw with⟨h1,h2,h3⟩|⟨h1,h2,h3⟩
   ·rw[h1,h2,h3];exact zau h.wrow fun g hg=>by
     obtain⟨p,hp,rfl⟩:=zF.1 hg;exact hO.block _ (h.wlt p hp) (h.sepw p hp)
   ·rw[h1,h2,h3];exact World.ownsRow_nil _ _ _ _
  brow:=by
   rcases hb with⟨h1,h2,h3⟩|⟨h1,h2,h3⟩
   ·rw[h1,h2,h3];exact zau h.brow fun g hg=>by
     obtain⟨p,hp,rfl⟩:=zF.1 hg;exact hO.block _ (h.blt p hp) (h.sepb p hp)
   ·rw[h1,h2,h3];exact World.ownsRow_nil _ _ _ _
  sepw:=fun p hp=>by
   rcases hw with⟨_,h2,_⟩|⟨_,h2,_⟩
   ·rw[h2] at hp;exact h.sepw p hp
   ·rw[h2] at hp;cases hp
  sepb:=fun p hp=>by
   rcases hb with⟨_,h2,_⟩|⟨_,h2,_⟩
   ·rw[h2] at hp;exact h.sepb p hp
   ·rw[h2] at hp;cases hp
  sepwb:=fun p q hp hq=>by
   rcases hw with⟨_,h2,_⟩|⟨_,h2,_⟩
   ·rcases hb with⟨_,k2,_⟩|⟨_,k2,_⟩
    ·rw[h2] at hp;rw[k2] at hq;exact h.sepwb p q hp hq
    ·rw[k2] at hq;cases hq
   ·rw[h2] at hp;cases hp
  reqs:=fun r hr=>by
   rcases hb with⟨h1,_,_⟩|⟨h1,_,_⟩
   ·rw[h1] at hr;have:=h.reqs r hr;exact⟨this.1.frame (F:=fun k=>k=b) (this.2.mono fun k hk=>Or.inl hk) hO,this.2.mono hft⟩
   ·rw[h1] at hr;cases hr
  wfin:=by
   rcases hw with⟨h1,_,_⟩|⟨h1,_,_⟩
   ·rw[h1];exact h.wfin
   ·rw[h1];simp
  nod:=by
   rcases hw with⟨h1,_,_⟩|⟨h1,_,_⟩
   ·rw[h1];exact h.nod
   ·rw[h1];simp
  blen:=by
   rcases hb with⟨h1,_,_⟩|⟨h1,_,_⟩
   ·rw[h1];exact h.blen
   ·rw[h1];simp
  nxt:=nxt }
theorem zM.rangeNow{b:Nat}{d:Dl}{a:An}{w:World}(h:zM b d a w):w.rangeAt b 0 (zaG d.now):=fun j v hv=>by
 have hj:j<32:=by
  have:=(List.getElem?_eq_some_iff.1 hv).1;rw[zC,h.n32] at this;exact this
 rw[Nat.zero_add,zy h.blk,Dl.cells,List.append_assoc,List.getElem?_append_left (by rw[zC,h.n32];exact hj)];exact hv
theorem zM.there{b:Nat}{d:Dl}{a:An}{w:World}(h:zM b d a w)(o n:Nat)(ho:o+n≤67):w.there b o n:=fun j hj=>by
 refine⟨?_,h.fz _⟩;rw[zy h.blk,List.getElem?_eq_getElem (by rw[Dl.cells_length h.n32 h.g32];omega)]
 rfl
theorem ziI:(Tryz.prog.info? 32).map (·.size)=some 32:=by kernel_rfl
theorem zfI(b:Nat)(vs:List Value)(o:Nat)(w:World):zo (fun k=>k=b) w (w.setCells b o vs):=zdc (F:=fun k=>k=b) b (Or.inl rfl) vs o w (zo.refl _ _)
theorem zpP(b:Nat)(d:Dl)(a:An)(w:World)(h:zM b d a w) :
  Calls Tryz.prog 110 #[.pointer (some ⟨b,0,none⟩)] w fun e w'=>e=.returned (.tuple #[])∧zY b d a d.flush { a with wa:=none,wc:=0 } w w':=by
 have HD:=za h;have hl:=h.lt;have e32:(zaG d.now).length=32:=by rw[zC];exact h.n32
 have HE:=za e32;have blk1:=zcC b 63 (zaG d.now) 32 (d.cells a) w h.blk (by rw[e32,Dl.cells_length h.n32 h.g32];omega);rw[znI d a d.now h.n32 h.g32 h.n32] at blk1;have c64:=(zy blk1 64).trans (Dl.cell64 h.n32 h.n32);have c65:=(zy blk1 65).trans (Dl.cell65 h.n32 h.n32);have f64:=zac blk1 64;have f65:=zac blk1 65;have HB1:=za blk1;clear h e32 blk1;go_enter Tryz.func110,Tryz.ntmps110;go_wp2_with(first|(refine wpList_load_mid rfl 32 (.tmp 5) rfl b 0 rfl (zaG d.now) _ HD.out.rangeNow Tryz.underlying32 rfl (by rw[HE.out];exact ziI) ?_)|(refine wpList_store_mid rfl 32 (.tmp 8) (.tmp 6) rfl b 32 (zaG d.now).toArray rfl rfl (by rw[List.size_toArray,HE.out];exact HD.out.there 32 32 (by omega)) (by rw[List.size_toArray,HE.out];exact ziI) (all_oneCell_toArray (zkZ _)) ?_;simp only));go_end0;refine⟨rfl,HD.out.reblock (((zfI b (zaG d.now) 32 w).setCell ⟨b,64,none⟩ (Or.inl rfl) _).setCell ⟨b,65,none⟩ (Or.inl rfl) _) ?_ (Or.inr ⟨rfl,rfl,rfl⟩) (Or.inl ⟨rfl,rfl,rfl⟩) HD.out.n32 HD.out.n32 (by simp[Dl.flush])⟩;rw[zK (zK HB1.out 64 _) 65 _];have e1:=zhm ({ d with good:=d.now }:Dl) a [] none 0 HD.out.n32 HD.out.n32;have e2:=zhs ({ d with good:=d.now,wr:=[] }:Dl) { a with wa:=none,wc:=0 } 0 HD.out.n32 HD.out.n32;simp only[List.length_nil] at e1;rw[e1];exact congrArg (fun l:List Value=>some (Obj.cells l.toArray 63 (0,0))) e2
def zdD(kp:Int)(n:Nat):Bool:=bits BinOp.and IntKind.u64 (kp / 2 ^ n) 1==1
def zb1(kp:Int)(l:List Wn)(now:List ByteArray):List ByteArray:=l.foldl (fun n x=>if zdD kp x.bit=true then n.set x.pl x.data else n) now
def Dl.crash(d:Dl)(kp:Int):Dl:=({ d with busy:=[],now:=zb1 kp d.wr d.good }:Dl).flush
theorem zl3(kp:Int)(l:List Wn)(x:Wn)(now:List ByteArray):zb1 kp (l++[x]) now=if zdD kp x.bit=true then(zb1 kp l now).set x.pl x.data else zb1 kp l now:=by simp[zb1]
abbrev zcM:Value:=.agg #[.bool false,.int .i64 0,.int .i64 0,.slice none 0 0,.slice none 0 0,.int .i64 0,.slice none 0 0,.int .i64 0]
theorem zqo(b:Nat)(d:Dl)(a:An)(i:Int)(fl:Bool)(w:World)(h:zM b d a w)(hi:i<0∨(d.busy.length:Int)≤i) :
  Calls Tryz.prog 96 #[.pointer (some ⟨b,0,none⟩),.int .i64 i,.bool fl] w fun e w'=>e=.returned (.tuple #[zcM,.iface 88 (.int .i64 5)])∧Below w.heap.size w w':=by
 have c:=h.c66;have hl:=h.lt;clear h
 by_cases h0:i<0
 ·go_enter Tryz.func96,Tryz.ntmps96;go_wp2;exact bodyPost_ret (v:=.tuple #[zcM,.iface 88 (.int .i64 5)]) (by simp[results,Tryz.results96,go_sem]) rfl ⟨rfl,by(with_reducible repeat first|exact Below.refl _ _|refine zc ?_ _|refine zd ?_|refine bset' ?_ (by omega) _|refine zb ?_ (by assumption))⟩
 ·have h1:(d.busy.length:Int)≤i:=by omega
  go_enter Tryz.func96,Tryz.ntmps96;go_wp2;exact bodyPost_ret (v:=.tuple #[zcM,.iface 88 (.int .i64 5)]) (by simp[results,Tryz.results96,go_sem]) rfl ⟨rfl,by(with_reducible repeat first|exact Below.refl _ _|refine zc ?_ _|refine zd ?_|refine bset' ?_ (by omega) _|refine zb ?_ (by assumption))⟩
theorem zo.of_set{w:World}{q o:Nat}(v:Value):zo (fun k=>k=q) w (w.setCell ⟨q,o,none⟩ v):=(zo.refl (fun k=>k=q) w).setCell ⟨q,o,none⟩ (Or.inl rfl) v
theorem zY.setNew{b:Nat}{d d':Dl}{a a':An}{w w':World}(h:zY b d a d' a' w w')(hd:zM b d a w)(hs:∀r∈d'.busy,r∈d.busy){q:Nat}(hq:w.heap.size≤q)(hn:¬a'.foot b q)(o:Nat)(v:Value):zY b d a d' a' w (w'.setCell ⟨q,o,none⟩ v) :=
 ⟨h.dev.frame (zo.of_set v) (fun k hk e=>hn (e▸hk)) (fun r hr=>by
  have hat:=(hd.reqs r (hs r hr)).1;exact⟨fun he ad ha e=>by have:=zfC hat.data he ha;omega,fun he ad ha e=>by have:=zdp hat.tags he ha;omega⟩),
  h.only.setCell ⟨q,o,none⟩ (Or.inr hq) v,h.foot⟩
def zcj(w:World)(q:Nat):Prop:=(w.cell? ⟨q,0,none⟩=some (.bool false)∧w.cell? ⟨q,1,none⟩=some (.int .i64 0)∧w.cell? ⟨q,2,none⟩=some (.int .i64 0)∧w.cell? ⟨q,3,none⟩=some (.slice none 0 0)∧w.cell? ⟨q,4,none⟩=some (.slice none 0 0)∧w.cell? ⟨q,5,none⟩=some (.int .i64 0)∧w.cell? ⟨q,6,none⟩=some (.slice none 0 0)∧w.cell? ⟨q,7,none⟩=some (.int .i64 0))∧(∀o,w.frozen? ⟨q,o,none⟩=false)∧q<w.heap.size
theorem zcj.only{F:Nat→Prop}{w w':World}{q:Nat}(h:zcj w q)(hO:zo F w w')(hn:¬F q):zcj w' q:=by
 obtain⟨⟨h0,h1,h2,h3,h4,h5,h6,h7⟩,hf,hl⟩:=h;exact⟨⟨(hO.cell (p:=⟨q,0,none⟩) hl hn).trans h0,(hO.cell (p:=⟨q,1,none⟩) hl hn).trans h1,(hO.cell (p:=⟨q,2,none⟩) hl hn).trans h2,(hO.cell (p:=⟨q,3,none⟩) hl hn).trans h3,(hO.cell (p:=⟨q,4,none⟩) hl hn).trans h4,(hO.cell (p:=⟨q,5,none⟩) hl hn).trans h5,(hO.cell (p:=⟨q,6,none⟩) hl hn).trans h6,(hO.cell (p:=⟨q,7,none⟩) hl hn).trans h7⟩,fun o=>(hO.frozen (p:=⟨q,o,none⟩) hl hn).trans (hf o),Nat.lt_of_lt_of_le hl hO.size⟩
theorem zaE(w:World)(T:TypeId):zcj (w.alloc (.cells #[.bool false,.int .i64 0,.int .i64 0,.slice none 0 0,.slice none 0 0,.int .i64 0,.slice none 0 0,.int .i64 0] T)) w.heap.size:=by
 refine⟨⟨?_,?_,?_,?_,?_,?_,?_,?_⟩,fun o=>?_,?_⟩<;>simp
theorem zM.place{b:Nat}{d:Dl}{a:An}{w:World}(h:zM b d a w){k:Nat}(hk:k<d.busy.length):∃g,a.ba=some ⟨g,0,none⟩∧g<w.heap.size:=by
 obtain⟨x,cx,hv,h1,h2,_⟩:=zba h.brow;simp only[Value.slice.injEq,true_and] at hv;obtain⟨rfl,rfl⟩:=hv
 cases ha:a.ba with
 |none =>
  have:=h.reqsAt.form;rw[ha] at this
  rcases this with e|⟨_,_,e⟩
  ·rw[e] at hk;exact absurd hk (Nat.not_lt_zero _)
  ·cases e
 |some ad =>
  obtain⟨g,rfl⟩:=h2 ad ha;exact⟨g,rfl,h.blt _ ha⟩
theorem zkr{b:Nat}{d:Dl}{a:An}{w w2 w3:World}{k g:Nat}{r:Rq}(h:zM b d a w)(hk:k<d.busy.length)(hg0:a.ba=some ⟨g,0,none⟩)(hb:Below w.heap.size w w2)(hz:zcj w2 w.heap.size)(hx:za3 w2 (w.heap.size+1) r)
  (hown:w3.ownsRow 0 111 6 (.slice (some ⟨g,0,none⟩) (d.busy.eraseIdx k).length a.bc) (d.busy.eraseIdx k).length (zt (d.busy.eraseIdx k))) (hg:w2.grownBy w3 (some g)) :
  (w3.cell? ⟨b,66,none⟩=some (.slice (some ⟨g,0,none⟩) d.busy.length a.bc)∧w3.frozen? ⟨b,66,none⟩=false∧b<w3.heap.size)∧∃a',zY b d a { d with busy:=d.busy.eraseIdx k } a' w (w3.setCell ⟨b,66,none⟩ (.slice (some ⟨g,0,none⟩) (d.busy.eraseIdx k).length a.bc))∧zcj (w3.setCell ⟨b,66,none⟩ (.slice (some ⟨g,0,none⟩) (d.busy.eraseIdx k).length a.bc)) w.heap.size∧za3 (w3.setCell ⟨b,66,none⟩ (.slice (some ⟨g,0,none⟩) (d.busy.eraseIdx k).length a.bc)) (w.heap.size+1) r∧¬a'.foot b w.heap.size∧¬a'.foot b (w.heap.size+1):=by
 have hob:(Value.slice a.ba d.busy.length a.bc).ownBlock=some g:=zF.2 ⟨_,hg0,rfl⟩;have k66:=h.kept66 hb (by rw[hob];exact hg);rw[hg0] at k66;have hlt:=h.lt;have hgl:=h.blt _ hg0;have hel:(d.busy.eraseIdx k).length≤2:=by rw[List.length_eraseIdx,if_pos hk];have:=h.blen;omega
 obtain⟨x,c,e,hst⟩:=h.busied hb (d.busy.eraseIdx k) hel (fun q hq=>h.reqs q (List.mem_of_mem_eraseIdx hq)) hown (by rw[hob];exact hg) (fun g' hg'=>Or.inl ⟨_,hg0,by simpa [Value.ownBlock] using hg'.symm⟩);simp only[Value.slice.injEq,true_and] at e;obtain⟨rfl,rfl⟩:=e;have hO:zo (fun i=>i=g∨i=b) w2 (w3.setCell ⟨b,66,none⟩ (.slice (some ⟨g,0,none⟩) (d.busy.eraseIdx k).length a.bc)) :=
  ((zo.refl (fun i=>i=g∨i=b) w2).grown hg (fun i hi=>Or.inl (Or.inl (by simpa using hi.symm)))).setCell ⟨b,66,none⟩ (Or.inl (Or.inr rfl)) _
 have hft:∀q,w.heap.size≤q→¬({ a with ba:=some ⟨g,0,none⟩,bc:=a.bc }:An).foot b q:=by
  rintro q hq (e|⟨p,hp,e⟩|⟨p,hp,e⟩)
  ·omega
  ·have:=h.wlt p hp;omega
  ·simp only[Option.some.injEq] at hp;subst hp;simp only at e hgl;omega
 exact⟨k66,_,hst,hz.only hO (by simp only at hgl;omega),hx.only hO (by simp only at hgl;omega),hft _ (Nat.le_refl _),hft _ (by omega)⟩
theorem zqc(b:Nat)(d:Dl)(a:An)(k:Nat)(hk:k<d.busy.length)(w:World)(h:zM b d a w) :
  Calls Tryz.prog 96 #[.pointer (some ⟨b,0,none⟩),.int .i64 k,.bool true] w fun e w'=>∃a',e=.returned (.tuple #[zaI d.busy[k] none 0 0 8,.nilIface])∧zY b d a { d with busy:=d.busy.eraseIdx k } a' w w':=by
 have hl:=h.lt;have HD:=za h;have h0:¬(k:Int)<0:=(by omega);have h1:¬(d.busy.length:Int)≤(k:Int):=(by omega);have h2:(k:Int)<(d.busy.length:Int):=(by omega);have hk2:(k:Int)≤1:=(by have:=h.blen;omega);have hR:=h.reqsAt;have c:=h.c66;obtain⟨g,hg0,lg⟩:=h.place hk;rw[hg0] at hR c;obtain⟨r0,r1,r2,r3,r4,r5⟩:=hR.cells hk;simp only[Nat.zero_add] at r0 r1 r2 r3 r4 r5;have HG0:=za hg0;clear h hR hg0;generalize hr:d.busy[k]=r at *;have HRR:=za hr;clear hr;go_enter Tryz.func96,Tryz.ntmps96;go_wp2_with fail;have hbr:=(HD.out.later (zbm w (.cells #[.bool false,.int .i64 0,.int .i64 0,.slice none 0 0,.slice none 0 0,.int .i64 0,.slice none 0 0,.int .i64 0] 120) (.cells #[.bool r.wr,.int .i64 r.f,.int .i64 r.m,.slice r.da r.data.length r.dc,.slice r.ta r.tags.length r.tc,.int .i64 r.born] 111))).brow;rw[HG0.out] at hbr;refine(delR d.busy g a.bc k _ hk hbr).mono ?_;rintro e w3 ⟨rfl,hown3,hg3⟩;have hz2:=(zaE w 120).only (F:=fun _=>False) ((zo.refl _ _).alloc (.cells #[.bool r.wr,.int .i64 r.f,.int .i64 r.m,.slice r.da r.data.length r.dc,.slice r.ta r.tags.length r.tc,.int .i64 r.born] 111)) (fun e=>e);have hx2:=zb5 (w.alloc (.cells #[.bool false,.int .i64 0,.int .i64 0,.slice none 0 0,.slice none 0 0,.int .i64 0,.slice none 0 0,.int .i64 0] 120)) 111 r;rw[World.size_alloc] at hx2;obtain⟨⟨c3,f3,l3⟩,a',hst,hz4,hx4,nf6,nf8⟩:=zkr HD.out hk HG0.out (zbm w _ _) hz2 hx2 hown3 hg3;clear hz2 hx2 hbr hown3 hg3 r0 r1 r2 r3 r4 r5 c;obtain⟨⟨z0,z1,z2,z3,z4,z5,z6,z7⟩,zf,zl⟩:=hz4;obtain⟨x0,x1,x2,x3,x4,x5⟩:=hx4;have HST:=za hst;clear hst;generalize hW:w3.setCell ⟨b,66,none⟩ (.slice (some ⟨g,0,none⟩) (d.busy.eraseIdx k).length a.bc)=w4 at *;go_wp2;refine bodyPost_ret (v:=.tuple #[zaI r none 0 0 8,.nilIface]) (by simp[results,Tryz.results96,go_sem,z0,z1,z2,z3,z4,z5,z6,z7]) rfl ⟨a',rfl,?_⟩
 repeat(first|with_reducible exact HST.out|with_reducible refine zY.setNew ?_ HD.out (fun q hq=>List.mem_of_mem_eraseIdx hq) (Nat.le_refl _) nf6 _ _|with_reducible refine zY.drewAt ?_)
end Go.Proofs.YtlhgjplipgandaaGreat
