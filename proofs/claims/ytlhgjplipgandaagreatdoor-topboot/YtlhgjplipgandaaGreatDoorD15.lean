/- Joined texts: Dev6, Dev7, Dev8. -/
import Derived.Deep.RegionHeld3
import Derived.Test.YtlhgjplipgandaaGreatDoorD14
import Derived.Test.YtlhgjplipgandaaGreatDoorD9
set_option maxRecDepth 100000
set_option maxHeartbeats 8000000
set_option linter.unusedSimpArgs false
namespace Go.Proofs.YtlhgjplipgandaaGreatDoor
open Go.RowKit Go.BigFrame
attribute [local go_sem] ze.cell ze.frozen
def Dl.write(d:Dl)(p:Nat)(s:ByteArray):Dl:={ d with now:=d.now.set p s,wr:=z8 p d.next d.wr++[⟨p,s,d.next⟩],next:=(d.next+1) % 64 }
theorem Rq.Off.mono{F F':Nat→Prop}{r:Rq}(h:r.Off F)(hF:∀k,F' k→F k):r.Off F':=⟨fun he a ha hk=>h.1 he a ha (hF _ hk),fun he a ha hk=>h.2 he a ha (hF _ hk)⟩
theorem zo.setB{b:Nat}{d d':Dl}{a:An}{w:World}(h:zo b d a w)(j:Nat)(v:Value)(hc:(d.cells a).set j v=d'.cells a)(e1:d'.wr=d.wr)(e2:d'.busy=d.busy)(n32:d'.now.length=32)(g32:d'.good.length=32)(nxt:d'.next<64):zo b d' a (w.setCell ⟨b,j,none⟩ v) where
 n32:=n32
 g32:=g32
 blk:=by rw[zx h.blk,hc]
 wrow:=by
  rw[e1];exact zad h.wrow fun g hg=>by
   obtain⟨p,hp,rfl⟩:=zu.1 hg;exact zcs _ _ (h.sepw p hp)
 brow:=by
  rw[e2];exact zad h.brow fun g hg=>by
   obtain⟨p,hp,rfl⟩:=zu.1 hg;exact zcs _ _ (h.sepb p hp)
 sepw:=h.sepw
 sepb:=h.sepb
 sepwb:=h.sepwb
 reqs:=fun r hr=>by
  rw[e2] at hr;have:=h.reqs r hr;exact⟨this.1.frame (F:=fun k=>k=b) (this.2.mono fun k hk=>Or.inl hk) ((zh.refl (fun k=>k=b) w).setCell ⟨b,j,none⟩ (Or.inl rfl) v),this.2⟩
 wfin:=by rw[e1];exact h.wfin
 nod:=by rw[e1];exact h.nod
 blen:=by rw[e2];exact h.blen
 nxt:=nxt
theorem zfo(d:Dl)(a:An)(k:Nat)(s:ByteArray)(h1:d.now.length=32)(hk:k<32):(d.cells a).set k (.string s)=({ d with now:=d.now.set k s }:Dl).cells a:=by
 rw[Dl.cells,List.append_assoc,List.set_append_left _ _ (by rw[zn];omega),Dl.cells,List.append_assoc]
 simp[zab,List.map_set]
theorem zf9(d:Dl)(a:An)(n:Nat)(h1:d.now.length=32)(h2:d.good.length=32):(d.cells a).set 65 (.int .i64 n)=({ d with next:=n }:Dl).cells a:=by
 rw[Dl.cells,List.set_append_right _ _ (by simp[zn,h1,h2])]
 simp[zn,h1,h2,Dl.cells]
theorem zf8(d:Dl)(a:An)(l:List Wn)(x:Option Addr)(c:Nat)(h1:d.now.length=32)(h2:d.good.length=32):(d.cells a).set 64 (.slice x l.length c)=({ d with wr:=l }:Dl).cells { a with wa:=x,wc:=c }:=by
 rw[Dl.cells,List.set_append_right _ _ (by simp[zn,h1,h2])]
 simp[zn,h1,h2,Dl.cells]
theorem zbD{P:Program}{Q:Exit→Act→World→Prop}{a:Act}{c:Code}{w:World}(R:World→Prop)(h:R w)(k:∀w',R w'→c.wp P Q a w'):c.wp P Q a w:=k w h
theorem zdH{P:Program}{ops:Array Oper}{o:Oper}{a:Act}{w:World}{K:Act→World→Prop}{Q:Exit→Act→World→Prop}{E:Prop}
 (hg:o.guard=none) (f:FuncId) (x1 x2:Nat) (t1 t2:TypeId) (hop:o.op=Op.call { callee:=Callee.value (.func f),args:=#[.tmp x1,.tmp x2],argTypes:=#[t1,t2] }) (eg:∀args w,(callFunc f args).run P w=.ok (.enter f args) w)
 (v1 v2:Value) (e1:a.tmps[x1]?.getD undef=v1) (e2:a.tmps[x2]?.getD undef=v2) (r:Value) (S:World→Prop) (hc:Calls P f #[v1,v2] w fun e w'=>e=.returned r∧S w') (h:∀w',S w'→K (a.put o.dst r) w') :
 if Region.wanted o (yielded ops a.tmps)=true then Oper.wp P o a w K Q else E:=by
 have hw:Region.wanted o (yielded ops a.tmps)=true:=by simp[Region.wanted,hg]
 rw[if_pos hw];unfold Oper.wp
 simp[execOp,hop,resolve,invoke,e1,e2,eg,go_sem]
 refine hc.mono ?_;rintro _ w' ⟨rfl,hs⟩;exact h w' hs
theorem kept3{b q:Nat}{d:Dl}{a:An}{w X w2:World}{p:Nat}(h:zo b d a w)(hX:Below w.heap.size w X)(hO:zh (zav a.wa) X w2)(k1:w.cell? ⟨q,0,none⟩=some (.pointer (some ⟨b,0,none⟩)))(k2:w.cell? ⟨q+1,0,none⟩=some (.int .i64 p))(n1:¬zav a.wa q)(n2:¬zav a.wa (q+1))(n3:¬zav a.wa b) :
 w2.cell? ⟨q,0,none⟩=some (.pointer (some ⟨b,0,none⟩))∧w2.cell? ⟨q+1,0,none⟩=some (.int .i64 p)∧w2.cell? ⟨b,64,none⟩=some (.slice a.wa d.wr.length a.wc)∧w2.cell? ⟨b,65,none⟩=some (.int .i64 d.next)∧w2.frozen? ⟨b,64,none⟩=false∧q+1<w2.heap.size∧b<w2.heap.size:=by
 have l1:=zg k1;have l2:=zg k2;have hs:=hX.size;have hs2:=hO.size;have lb:=h.lt;refine⟨?_,?_,?_,?_,?_,by omega,by omega⟩
 ·rw[hO.cell (p:=⟨q,0,none⟩) (show q<_ by omega) n1,hX.cell (p:=⟨q,0,none⟩) l1];exact k1
 ·rw[hO.cell (p:=⟨q+1,0,none⟩) (show q+1<_ by omega) n2,hX.cell (p:=⟨q+1,0,none⟩) l2];exact k2
 ·rw[hO.cell (p:=⟨b,64,none⟩) (show b<_ by omega) n3,hX.cell (p:=⟨b,64,none⟩) lb];exact h.c64
 ·rw[hO.cell (p:=⟨b,65,none⟩) (show b<_ by omega) n3,hX.cell (p:=⟨b,65,none⟩) lb];exact h.c65
 ·rw[hO.frozen (p:=⟨b,64,none⟩) (show b<_ by omega) n3,hX.frozen (p:=⟨b,64,none⟩) lb];exact h.fz 64
theorem zfB{a:Option Addr}{n c k:Nat}:(Value.slice a n c).ownBlock=some k↔zav a k:=zu
theorem zo.rewritten{b:Nat}{d:Dl}{a:An}{w w3:World}(h:zo b d a w)(hO:zh (zav a.wa) w w3)(l:List Wn){v:Value}(hown:w3.ownsRow 0 213 3 v l.length (zX l))(hv:∀g,v.ownBlock=some g→zav a.wa g∨w.heap.size≤g)
 (hf:∀x∈l,x.pl<32∧x.bit<64) (hn:(l.map Wn.key).Nodup) :
 ∃x c,v=.slice x l.length c∧zw b d a { d with wr:=l } { a with wa:=x,wc:=c } w (w3.setCell ⟨b,64,none⟩ v):=by
 obtain⟨x,c,rfl,_⟩:=zbq hown;have hlt:=h.lt;have nb:¬zav a.wa b:=fun⟨q,hq,e⟩=>h.sepw q hq e.symm
 have e3:w3.heap[b]?=some (.cells (d.cells a).toArray 108 (0,0)):=by
  rw[hO.block b hlt nb];exact h.blk
 have xb:∀p,x=some p→p.block ≠ b:=fun p hp e=>by
  rcases hv p.block (zu.2 ⟨p,hp,rfl⟩) with⟨q,hq,e'⟩|h'
  ·exact h.sepw q hq (by omega)
  ·omega
 have hon:zh (a.foot b) w (w3.setCell ⟨b,64,none⟩ (.slice x l.length c)) :=
  (hO.mono (F':=a.foot b) (fun i hi=>Or.inr (Or.inl hi))).setCell ⟨b,64,none⟩ (Or.inl (Or.inl rfl)) _
 have hft:∀k,({ a with wa:=x,wc:=c }:An).foot b k→a.foot b k∨w.heap.size≤k:=by
  rintro k (rfl|⟨p,hp,rfl⟩|⟨p,hp,rfl⟩)
  ·exact Or.inl (Or.inl rfl)
  ·rcases hv p.block (zu.2 ⟨p,hp,rfl⟩) with h'|h'
   ·exact Or.inl (Or.inr (Or.inl h'))
   ·exact Or.inr (by omega)
  ·exact Or.inl (Or.inr (Or.inr ⟨p,hp,rfl⟩))
 refine⟨x,c,rfl,⟨?_,hon,hft⟩⟩;exact {
  n32:=h.n32
  g32:=h.g32
  blk:=by rw[zx e3,zf8 d a l x c h.n32 h.g32]
  wrow:=zad hown fun g hg'=>by
   obtain⟨p,hp,rfl⟩:=zu.1 hg';exact zcs _ _ (xb p hp)
  brow:=zad h.brow fun g hg'=>by
   obtain⟨p,hp,rfl⟩:=zu.1 hg';have hpl:=h.blt p hp;rw[zcs _ _ (h.sepb p hp),hO.block _ hpl];rintro⟨q,hq,e⟩;exact h.sepwb q p hq hp e.symm
  sepw:=xb
  sepb:=h.sepb
  sepwb:=fun p q hp hq e=>by
   rcases hv p.block (zu.2 ⟨p,hp,rfl⟩) with⟨p',hp',e'⟩|h'
   ·exact h.sepwb p' q hp' hq (by omega)
   ·have:=h.blt q hq;omega
  reqs:=fun r hr'=>⟨(h.reqs r hr').1.frame (h.reqs r hr').2 hon,(h.reqs r hr').2.step (h.reqs r hr').1 hft⟩
  wfin:=hf
  nod:=hn
  blen:=h.blen
  nxt:=h.nxt }
theorem zmU{b:Nat}{d:Dl}{a:An}{w w3:World}(h:zo b d a w)(hO:zh (zav a.wa) w w3):w3.cell? ⟨b,64,none⟩=some (.slice a.wa d.wr.length a.wc)∧w3.frozen? ⟨b,64,none⟩=false∧b<w3.heap.size:=by
 have nb:¬zav a.wa b:=fun⟨q,hq,e⟩=>h.sepw q hq e.symm
 have hs:=hO.size;have hl:=h.lt;exact⟨by rw[hO.cell (p:=⟨b,64,none⟩) hl nb];exact h.c64,by rw[hO.frozen (p:=⟨b,64,none⟩) hl nb];exact h.fz 64,by omega⟩
theorem zgl(l:List Wn)(x:Wn):zX (l++[x])=zX l++[.int .i64 x.pl,.string x.data,.int .i64 x.bit]:=by rw[zfl];rfl
theorem zkT{a:Option Addr}{n c n' c':Nat}{x:Option Addr}{B W:Nat}(hv:(Value.slice x n' c').ownBlock=(Value.slice a n c).ownBlock∨(Value.slice x n' c').ownBlock=some W){g:Nat}(hg:(Value.slice x n' c').ownBlock=some g)(hB:B≤W):zav a g∨B≤g:=by
 rcases hv with h|h
 ·rw[h] at hg;exact Or.inl (zfB.1 hg)
 ·rw[h] at hg;cases hg;exact Or.inr hB
theorem zg8{w w2:World}{F:Nat→Prop}{n:Nat}(hn:w.heap.size=n)(vs:List Value)(T:TypeId)(hO:zh F (w.alloc (.cells vs.toArray T)) w2)(hF:¬F n)(j:Nat)(u:Value)(h:vs[j]?=some u):w2.cell? (Addr.add ⟨n,0,none⟩ j)=some u:=by
 have:=ze6 hn vs T j u h;rw[Addr.add_mid] at this ⊢;rw[hO.cell (p:=⟨n,0+j,none⟩) (by simp[hn]) hF];exact this
theorem zj3{w w2:World}{F:Nat→Prop}{n:Nat}(hn:w.heap.size=n)(vs:List Value)(T:TypeId)(hO:zh F (w.alloc (.cells vs.toArray T)).drew w2)(hF:¬F n)(j:Nat)(u:Value)(h:vs[j]?=some u):w2.cell? (Addr.add ⟨n,0,none⟩ j)=some u :=
 zg8 hn vs T ⟨hO.os,hO.tape,hO.output,hO.size,hO.block⟩ hF j u h
def Tri(q b p nx:Nat)(sl:Value)(w:World):Prop:=w.cell? ⟨q,0,none⟩=some (.pointer (some ⟨b,0,none⟩))∧w.cell? ⟨q+1,0,none⟩=some (.int .i64 p)∧w.cell? ⟨b,65,none⟩=some (.int .i64 nx)∧w.cell? ⟨b,64,none⟩=some sl∧w.frozen? ⟨b,64,none⟩=false
theorem Tri.drew{q b p nx:Nat}{sl:Value}{w:World}(h:Tri q b p nx sl w):Tri q b p nx sl w.drew:=h
theorem Tri.only{F:Nat→Prop}{q b p nx:Nat}{sl:Value}{w w':World}(h:Tri q b p nx sl w)(hO:zh F w w')(n1:¬F q)(n2:¬F (q+1))(n3:¬F b):Tri q b p nx sl w':=by
 obtain⟨h1,h2,h3,h4,h5⟩:=h;have l1:=zg h1;have l2:=zg h2;have l3:=zg h3;exact⟨by rw[hO.cell (p:=⟨q,0,none⟩) l1 n1];exact h1,by rw[hO.cell (p:=⟨q+1,0,none⟩) l2 n2];exact h2,by rw[hO.cell (p:=⟨b,65,none⟩) l3 n3];exact h3,(hO.cell (p:=⟨b,64,none⟩) l3 n3).trans h4,by rw[hO.frozen (p:=⟨b,64,none⟩) l3 n3];exact h5⟩
theorem Tri.alloc{q b p nx:Nat}{sl:Value}{w:World}(h:Tri q b p nx sl w)(o:Obj):Tri q b p nx sl (w.alloc o):=h.only (F:=fun _=>False) ((zh.refl _ _).alloc o) (fun e=>e) (fun e=>e) (fun e=>e)
theorem zje{l:List Wn}{p n:Nat}{s:ByteArray}(h:∀x∈l,x.pl<32∧x.bit<64)(hp:p<32)(hn:n<64):∀x∈z8 p n l++[⟨p,s,n⟩],x.pl<32∧x.bit<64:=by
 intro x hx
 rcases List.mem_append.1 hx with hx|hx
 ·exact h x (List.mem_filter.1 hx).1
 ·obtain rfl:=List.mem_singleton.1 hx;exact⟨hp,hn⟩
theorem zjf{l:List Wn}{p n:Nat}{s:ByteArray}(h:∀x∈l,x.pl<32∧x.bit<64)(hn:n<64)(hd:(l.map Wn.key).Nodup):((z8 p n l++[(⟨p,s,n⟩:Wn)]).map Wn.key).Nodup:=by
 rw[List.map_append,List.nodup_append];refine⟨hd.sublist (List.filter_sublist.map _),by simp,?_⟩;intro k hk k' hk';simp only[List.map_cons,List.map_nil,List.mem_singleton] at hk';subst hk';obtain⟨x,hx,rfl⟩:=List.mem_map.1 hk;have h1:=List.mem_filter.1 hx;have h2:=h x h1.1;simp only[Wn.key];intro e;have:za7 p n x=true:=by simp only[za7,Bool.and_eq_true,beq_iff_eq];omega
 simp[this] at h1
theorem zjk(n:Nat):((n:Int)+1).tmod 64=(((n+1) % 64:Nat):Int):=by rw[Int.tmod_eq_emod_of_nonneg (by omega)];omega
theorem zhq{b:Nat}{d d1 d2:Dl}{a a2:An}{p:Nat}{s:ByteArray}{w wK wM:World}(hd1:d1={ d with now:=d.now.set p s })(hd2:d2={ d1 with wr:=z8 p d1.next d1.wr++[⟨p,s,d1.next⟩] })(hK:zo b d1 a wK)(hO:zh (a.foot b) w wK)(h:zw b d1 a d2 a2 wK wM):zw b d a (d.write p s) a2 w (wM.setCell ⟨b,65,none⟩ (.int .i64 ((d1.next+1) % 64:Nat))):=by
 have h1:zw b d a d1 a w wK:=⟨hK,hO,fun k hk=>Or.inl hk⟩
 have h2:=h1.trans h;refine h2.trans ⟨?_,(zh.refl (a2.foot b) wM).setCell ⟨b,65,none⟩ (Or.inl (Or.inl rfl)) _,fun k hk=>Or.inl hk⟩;have e:d.write p s={ d2 with next:=(d1.next+1) % 64 }:=by subst hd2;subst hd1;rfl
 rw[e];exact h.dev.setB 65 _ (zf9 d2 a2 _ h.dev.n32 h.dev.g32) rfl rfl h.dev.n32 h.dev.g32 (Nat.mod_lt _ (by omega))
theorem infoW:(Tryz.prog.info? 213).map (fun i=>(i.zero,i.size,i.bytes))=some (some (.agg #[.int .i64 0,.string ByteArray.empty,.int .i64 0]),3,32):=by kernel_rfl
theorem znC(b:Nat)(d:Dl)(a:An)(p:Nat)(s:ByteArray)(w:World)(h:zo b d a w)(hp:p<32) :
 Calls Tryz.prog 213 #[.pointer (some ⟨b,0,none⟩),.int .i64 p,.string s] w fun e w'=>∃a',e=.returned (.tuple #[])∧zw b d a (d.write p s) a' w w':=by
 have hl:=h.lt;have cN:=h.cNow p hp;have fN:=h.fz p;have p1:(p:Int)<32:=by omega
 have p2:(0:Int)≤(p:Int):=by omega
 have HD:=za h;clear h;go_enter Tryz.func213,Tryz.ntmps213;go_wp2_with fail
 go_region
 go_wp2_with fail;obtain⟨d1,hd1⟩:∃d1:Dl,d1={ d with now:=d.now.set p s }:=⟨_,rfl⟩
 have HD1:=za hd1;clear hd1;refine zbD (fun wK=>zo b d1 a wK∧wK.cell? ⟨w.heap.size,0,none⟩=some (.pointer (some ⟨b,0,none⟩))∧wK.cell? ⟨w.heap.size+1,0,none⟩=some (.int .i64 p)∧zh (a.foot b) w wK) ⟨?_,by simp[go_sem],by simp[go_sem],?_⟩ ?_
 ·rw[HD1.out];exact(((HD.out.setB p (.string s) (zfo d a p s HD.out.n32 hp) rfl rfl (by simpa using HD.out.n32) HD.out.g32 HD.out.nxt).alloc _).alloc _).later (Below.refl _ _).drew
 ·exact((((zh.refl (a.foot b) w).setCell ⟨b,p,none⟩ (Or.inl (Or.inl rfl)) (.string s)).alloc _).alloc _).drew
 rintro wK ⟨hK,k1,k2,hO⟩;have HK:=za hK;have HO:=za hO;have k3:=hK.c64;have k4:=hK.c65;have lb:=hK.lt;have l1:=zg k1;have l2:=zg k2;clear hK hO cN fN p1 p2;have eg:∀args w,Sem.run Tryz.prog (callFunc 232 args) w=.ok (.enter 232 args) w:=by intro args w;go_simp
 have hwl:=HK.out.wlen;have nr:∀k,k=w.heap.size∨k=w.heap.size+1∨k=b→¬zav a.wa k:=by
  rintro k hk ⟨q,hq,rfl⟩;have h1:=HD.out.wlt q hq;have h2:=HD.out.sepw q hq
  omega
 have NR:=za nr;have HHK:Hid (zcI (w.heap.size+1) w.heap.size b p d1.next wK):=⟨k2,k1,k4⟩
 have NRK:Hid (¬zav a.wa wK.heap.size):=by
  rintro⟨q,hq,e⟩;have:=HK.out.wlt q hq
  omega
 clear nr;obtain⟨iW,hi,hz0,hz1,hz2⟩:=zbA infoW;have HI:=za (⟨hi,hz0,hz1,hz2⟩:Tryz.prog.info? 213=some iW∧_∧_∧_);have HKL:Hid ((z8 p d1.next d1.wr).length≤2048):=Nat.le_trans (List.length_filter_le _ _) hwl;clear hi hz0 hz1 hz2;have T0:Tri w.heap.size b p d1.next (.slice a.wa d1.wr.length a.wc) wK:=⟨k1,k2,k4,k3,HK.out.fz 64⟩
 have HS:Hid (Tri w.heap.size b p d1.next (.slice a.wa d1.wr.length a.wc) wK.drew):=T0;refine zbH (S:=Tri w.heap.size b p d1.next (.slice a.wa d1.wr.length a.wc)) (d:=18) (by kernel_rfl) ?_;refine tk 0 ?_ rfl (Or.inl ⟨by rfl,?_⟩) HS.out ?_;rotate_left;(focus(intro w0 hSw;obtain⟨s1,s2,s3,s4,s5⟩:=hSw;go_simp;(try with_reducible rfl)));(try simp only[Act.put,dP])
 refine tk 1 ?_ rfl (Or.inl ⟨by rfl,?_⟩) HS.out ?_;rotate_left;(focus(intro w0 hSw;obtain⟨s1,s2,s3,s4,s5⟩:=hSw;go_simp;(try with_reducible rfl)));(try simp only[Act.put,dP])
 refine tk 2 ?_ rfl (Or.inl ⟨by rfl,?_⟩) HS.out ?_;rotate_left;(focus(intro w0 hSw;obtain⟨s1,s2,s3,s4,s5⟩:=hSw;go_simp;(try with_reducible rfl)));(try simp only[Act.put,dP])
 refine tk 3 ?_ rfl (Or.inl ⟨by rfl,?_⟩) HS.out ?_;rotate_left;(focus(intro w0 hSw;obtain⟨s1,s2,s3,s4,s5⟩:=hSw;go_simp;(try with_reducible rfl)));(try simp only[Act.put,dP])
 refine tk 4 ?_ rfl (Or.inl ⟨by rfl,?_⟩) HS.out ?_;rotate_left;(focus(intro w0 hSw;obtain⟨s1,s2,s3,s4,s5⟩:=hSw;go_simp;(try with_reducible rfl)));(try simp only[Act.put,dP])
 refine tk 5 ?_ rfl (Or.inl ⟨by rfl,?_⟩) HS.out ?_;rotate_left;(focus(intro w0 hSw;obtain⟨s1,s2,s3,s4,s5⟩:=hSw;go_simp;(try with_reducible rfl)));(try simp only[Act.put,dP])
 refine tk 7 ?_ rfl (Or.inl ⟨by rfl,?_⟩) HS.out ?_;rotate_left;(focus(intro w0 hSw;obtain⟨s1,s2,s3,s4,s5⟩:=hSw;go_simp;(try with_reducible rfl)));(try simp only[Act.put,dP])
 refine tk 8 ?_ rfl (Or.inl ⟨by rfl,?_⟩) HS.out ?_;rotate_left;(focus(intro w0 hSw;obtain⟨s1,s2,s3,s4,s5⟩:=hSw;go_simp;(try with_reducible rfl)));(try simp only[Act.put,dP])
 refine tk 9 ?_ rfl (Or.inl ⟨by rfl,?_⟩) HS.out ?_;rotate_left;(focus(intro w0 hSw;obtain⟨s1,s2,s3,s4,s5⟩:=hSw;go_simp;(try with_reducible rfl)));(try simp only[Act.put,dP])
 refine tk 10 ?_ rfl (Or.inl ⟨by rfl,?_⟩) HS.out ?_;rotate_left;(focus(intro w0 hSw;obtain⟨s1,s2,s3,s4,s5⟩:=hSw;go_simp;(try with_reducible rfl)));(try simp only[Act.put,dP])
 refine tk 11 ?_ rfl (Or.inl ⟨by rfl,?_⟩) HS.out ?_;rotate_left;(focus(intro w0 hSw;obtain⟨s1,s2,s3,s4,s5⟩:=hSw;go_simp;(try with_reducible rfl)));(try simp only[Act.put,dP])
 refine tk 12 ?_ rfl (Or.inl ⟨by rfl,?_⟩) HS.out ?_;rotate_left;(focus(intro w0 hSw;obtain⟨s1,s2,s3,s4,s5⟩:=hSw;go_simp;(try with_reducible rfl)));(try simp only[Act.put,dP])
 refine tk 13 ?_ rfl (Or.inl ⟨by rfl,?_⟩) HS.out ?_;rotate_left;(focus(intro w0 hSw;obtain⟨s1,s2,s3,s4,s5⟩:=hSw;go_simp;(try with_reducible rfl)));(try simp only[Act.put,dP])
 refine zoU (i:=6) (j:=14) rfl rfl (by kernel_rfl) ?_ ?_
 ·intro K hK;refine zdH rfl 232 18 19 106 289 rfl eg (.slice a.wa d1.wr.length a.wc) (.func (.func 231) #[] #[.pointer (some ⟨w.heap.size+1,0,none⟩),.pointer (some ⟨w.heap.size,0,none⟩)]) rfl rfl (.slice a.wa (z8 p d1.next d1.wr).length a.wc) (fun w'=>w'.ownsRow 0 213 3 (.slice a.wa (z8 p d1.next d1.wr).length a.wc) (z8 p d1.next d1.wr).length (zX (z8 p d1.next d1.wr))∧zh (zav a.wa) _ w') (delW (w.heap.size+1) w.heap.size b p d1.next d1.wr a.wa a.wc _ (HK.out.later (by(with_reducible repeat first|exact Below.refl _ _|refine zc ?_ _|refine zd ?_|refine bset' ?_ (by omega) _|refine zb ?_ (by assumption)))).wrow (by omega) HK.out.nod (HHK.out.later (by(with_reducible repeat first|exact Below.refl _ _|refine zc ?_ _|refine zd ?_|refine bset' ?_ (by omega) _|refine zb ?_ (by assumption)))) (NR.out _ (by omega)) (NR.out _ (by omega)) (NR.out _ (by omega))) ?_;rintro w2 ⟨hown2,hO2⟩;obtain⟨q1,q2,q3,q4,q5,q6,q7⟩:=kept3 HK.out (by(with_reducible repeat first|exact Below.refl _ _|refine zc ?_ _|refine zd ?_|refine bset' ?_ (by omega) _|refine zb ?_ (by assumption))) hO2 k1 k2 (NR.out _ (by omega)) (NR.out _ (by omega)) (NR.out _ (by omega));have HO2:=za (⟨hown2,hO2⟩:_∧_);have T2:Tri w.heap.size b p d1.next (.slice a.wa d1.wr.length a.wc) w2:=⟨q1,q2,q4,q3,q5⟩;clear hown2 hO2;refine hK _ _ (fun _=>T2) ?_;(try simp only[Act.put,dP]);clear hK;refine zN (i:=14) rfl (by kernel_rfl) ?_;intro K hK;go_simp;refine hK _ _ (fun _=>T2.alloc _) ?_;(try simp only[Act.put,dP]);clear hK;refine zN (i:=15) rfl (by kernel_rfl) ?_;intro K hK;refine zfF rfl (.tmp 20) (.tmp 28) 106 rfl 0 213 iW _ 3 32 Tryz.underlying106 HI.out.1 HI.out.2.1 HI.out.2.2.1 HI.out.2.2.2 rfl (by decide) (.slice a.wa (z8 p d1.next d1.wr).length a.wc) (z8 p d1.next d1.wr).length (zX (z8 p d1.next d1.wr)) rfl (HO2.out.1.alloc _) ⟨w2.heap.size,0,none⟩ 1 1 [.int .i64 p,.string s,.int .i64 d1.next] rfl rfl (fun j u hj=>ze6 rfl _ _ j u hj) (by simp[Value.oneCell']) (by omega) (by have:=HKL.out;unfold maxLen;omega) (by have:=HKL.out;omega) (Nat.zero_le _) ?_;intro v3 w3 hown3 hg3 hv3;have hO3:zh (zav a.wa) wK w3:=(((zh.of_below (by(with_reducible repeat first|exact Below.refl _ _|refine zc ?_ _|refine zd ?_|refine bset' ?_ (by omega) _|refine zb ?_ (by assumption)))).trans HO2.out.2 (fun _ e=>Or.inl e)).alloc _).grown hg3 (fun k hk=>Or.inl (zfB.1 hk));obtain⟨x3,c3,rfl,-⟩:=zbq hown3;obtain⟨r1,r2,r3⟩:=zmU HK.out hO3;have hv4:∀g,(Value.slice x3 ((z8 p d1.next d1.wr).length+1) c3).ownBlock=some g→zav a.wa g∨wK.heap.size≤g:=fun g hg=>zkT hv3 hg (by have:=HO2.out.2.size;simp at this;simp;omega);have T3:Tri w.heap.size b p d1.next (.slice a.wa d1.wr.length a.wc) w3:=T0.only hO3 (NR.out _ (by omega)) (NR.out _ (by omega)) (NR.out _ (by omega));have HP3:=za (⟨hown3,hO3,hv4⟩:_∧_∧_);clear hown3 hO3 hv3 hg3 hv4;refine hK _ _ (fun _=>T3) ?_;(try simp only[Act.put,dP]);clear hK;refine zN (i:=16) rfl (by kernel_rfl) ?_;intro K hK;go_simp;refine hK _ _ (fun _=>T3) ?_;(try simp only[Act.put,dP]);clear hK;refine zN (i:=17) rfl (by kernel_rfl) ?_;intro K hK;go_simp;refine hK _ _ (fun _=>T3) ?_;(try simp only[Act.put,dP]);clear hK;refine zN (i:=18) rfl (by kernel_rfl) ?_;intro K hK;go_simp;refine hK _ _ (fun h=>absurd rfl h) ?_;(try simp only[Act.put,dP]);clear hK;refine zbX (by kernel_rfl) ?_ _
  obtain⟨hown3,hO3,hv4⟩:=HP3.out;obtain⟨x4,c4,e4,hst⟩:=HK.out.rewritten hO3 (z8 p d1.next d1.wr++[⟨p,s,d1.next⟩]) (by rw[zgl,List.length_append];exact hown3) hv4 (zje HK.out.wfin hp HK.out.nxt) (zjf HK.out.wfin HK.out.nxt HK.out.nod);obtain⟨d2,hd2⟩:∃d2:Dl,d2={ d1 with wr:=z8 p d1.next d1.wr++[⟨p,s,d1.next⟩] }:=⟨_,rfl⟩;rw[←hd2] at hst;have HST:=za hst;have HN2:Hid (d2.next=d1.next):=(by rw[hd2];rfl);have HD2:=za hd2;clear hown3 hO3 hv4 hst hd2 r1 r2 r3;go_wp2_with fail;refine zbD (fun wM=>zw b d1 a d2 { a with wa:=x4,wc:=c4 } wK wM∧wM.cell? ⟨w.heap.size,0,none⟩=some (.pointer (some ⟨b,0,none⟩))) ⟨HST.out,(by rw[World.cell?_setCell_other _ _ _ _ (fun e=>absurd (congrArg Addr.block e) (by simp;omega))];exact T3.1)⟩ ?_;rintro wM ⟨hM,m1⟩;have m2:=hM.dev.c65;rw[HN2.out] at m2;have m3:=hM.dev.fz 65;have m4:=hM.dev.lt;have m5:=zg m1;have hnx:=HK.out.nxt;have hw1:IntKind.i64.wrap ((d1.next:Int)+1)=(d1.next:Int)+1:=(by rw[IntKind.wrap_i64];omega);have hw2:=zjk d1.next;have hw3:IntKind.i64.wrap (((d1.next+1) % 64:Nat):Int)=(((d1.next+1) % 64:Nat):Int):=(by rw[IntKind.wrap_i64];omega);have HM:=za (zhq HD1.out HD2.out HK.out HO.out hM);clear hM;generalize (d1.next+1) % 64=nn at *
  go_region
  go_end0;exact⟨_,rfl,HM.out.drewAt⟩
 ·intro K hK;go_simp;refine hK _ _ (fun _=>HS.out.alloc _) ?_
  (try simp only[Act.put,dP])
  clear hK;refine zN (i:=6) rfl (by kernel_rfl) ?_;intro K hK;refine zdH rfl 232 18 19 106 289 rfl eg (.slice a.wa d1.wr.length a.wc) (.func (.func 231) #[] #[.pointer (some ⟨w.heap.size+1,0,none⟩),.pointer (some ⟨w.heap.size,0,none⟩)]) rfl rfl (.slice a.wa (z8 p d1.next d1.wr).length a.wc) (fun w'=>w'.ownsRow 0 213 3 (.slice a.wa (z8 p d1.next d1.wr).length a.wc) (z8 p d1.next d1.wr).length (zX (z8 p d1.next d1.wr))∧zh (zav a.wa) _ w') (delW (w.heap.size+1) w.heap.size b p d1.next d1.wr a.wa a.wc _ (HK.out.later (by(with_reducible repeat first|exact Below.refl _ _|refine zc ?_ _|refine zd ?_|refine bset' ?_ (by omega) _|refine zb ?_ (by assumption)))).wrow (by omega) HK.out.nod (HHK.out.later (by(with_reducible repeat first|exact Below.refl _ _|refine zc ?_ _|refine zd ?_|refine bset' ?_ (by omega) _|refine zb ?_ (by assumption)))) (NR.out _ (by omega)) (NR.out _ (by omega)) (NR.out _ (by omega))) ?_;rintro w2 ⟨hown2,hO2⟩;obtain⟨q1,q2,q3,q4,q5,q6,q7⟩:=kept3 HK.out (by(with_reducible repeat first|exact Below.refl _ _|refine zc ?_ _|refine zd ?_|refine bset' ?_ (by omega) _|refine zb ?_ (by assumption))) hO2 k1 k2 (NR.out _ (by omega)) (NR.out _ (by omega)) (NR.out _ (by omega));have HO2:=za (⟨hown2,hO2⟩:_∧_);have T2:Tri w.heap.size b p d1.next (.slice a.wa d1.wr.length a.wc) w2:=⟨q1,q2,q4,q3,q5⟩;clear hown2 hO2;refine hK _ _ (fun _=>T2) ?_;(try simp only[Act.put,dP]);clear hK;refine zN (i:=15) rfl (by kernel_rfl) ?_;intro K hK;refine zfF rfl (.tmp 20) (.tmp 28) 106 rfl 0 213 iW _ 3 32 Tryz.underlying106 HI.out.1 HI.out.2.1 HI.out.2.2.1 HI.out.2.2.2 rfl (by decide) (.slice a.wa (z8 p d1.next d1.wr).length a.wc) (z8 p d1.next d1.wr).length (zX (z8 p d1.next d1.wr)) rfl HO2.out.1 ⟨wK.heap.size,0,none⟩ 1 1 [.int .i64 p,.string s,.int .i64 d1.next] rfl rfl (by first|exact zg8 rfl _ _ HO2.out.2 NRK.out|exact zj3 rfl _ _ HO2.out.2 NRK.out) (by simp[Value.oneCell']) (by omega) (by have:=HKL.out;unfold maxLen;omega) (by have:=HKL.out;omega) (Nat.zero_le _) ?_;intro v3 w3 hown3 hg3 hv3;have hO3:zh (zav a.wa) wK w3:=((zh.of_below (by(with_reducible repeat first|exact Below.refl _ _|refine zc ?_ _|refine zd ?_|refine bset' ?_ (by omega) _|refine zb ?_ (by assumption)))).trans HO2.out.2 (fun _ e=>Or.inl e)).grown hg3 (fun k hk=>Or.inl (zfB.1 hk));obtain⟨x3,c3,rfl,-⟩:=zbq hown3;obtain⟨r1,r2,r3⟩:=zmU HK.out hO3;have hv4:∀g,(Value.slice x3 ((z8 p d1.next d1.wr).length+1) c3).ownBlock=some g→zav a.wa g∨wK.heap.size≤g:=fun g hg=>zkT hv3 hg (by have:=HO2.out.2.size;simp at this;simp;omega);have T3:Tri w.heap.size b p d1.next (.slice a.wa d1.wr.length a.wc) w3:=T0.only hO3 (NR.out _ (by omega)) (NR.out _ (by omega)) (NR.out _ (by omega));have HP3:=za (⟨hown3,hO3,hv4⟩:_∧_∧_);clear hown3 hO3 hv3 hg3 hv4;refine hK _ _ (fun _=>T3) ?_;(try simp only[Act.put,dP]);clear hK;refine zN (i:=16) rfl (by kernel_rfl) ?_;intro K hK;go_simp;refine hK _ _ (fun _=>T3) ?_;(try simp only[Act.put,dP]);clear hK;refine zN (i:=17) rfl (by kernel_rfl) ?_;intro K hK;go_simp;refine hK _ _ (fun _=>T3) ?_;(try simp only[Act.put,dP]);clear hK;refine zN (i:=18) rfl (by kernel_rfl) ?_;intro K hK;go_simp;refine hK _ _ (fun h=>absurd rfl h) ?_;(try simp only[Act.put,dP]);clear hK;refine zbX (by kernel_rfl) ?_ _
  obtain⟨hown3,hO3,hv4⟩:=HP3.out;obtain⟨x4,c4,e4,hst⟩:=HK.out.rewritten hO3 (z8 p d1.next d1.wr++[⟨p,s,d1.next⟩]) (by rw[zgl,List.length_append];exact hown3) hv4 (zje HK.out.wfin hp HK.out.nxt) (zjf HK.out.wfin HK.out.nxt HK.out.nod);obtain⟨d2,hd2⟩:∃d2:Dl,d2={ d1 with wr:=z8 p d1.next d1.wr++[⟨p,s,d1.next⟩] }:=⟨_,rfl⟩;rw[←hd2] at hst;have HST:=za hst;have HN2:Hid (d2.next=d1.next):=(by rw[hd2];rfl);have HD2:=za hd2;clear hown3 hO3 hv4 hst hd2 r1 r2 r3;go_wp2_with fail;refine zbD (fun wM=>zw b d1 a d2 { a with wa:=x4,wc:=c4 } wK wM∧wM.cell? ⟨w.heap.size,0,none⟩=some (.pointer (some ⟨b,0,none⟩))) ⟨HST.out,(by rw[World.cell?_setCell_other _ _ _ _ (fun e=>absurd (congrArg Addr.block e) (by simp;omega))];exact T3.1)⟩ ?_;rintro wM ⟨hM,m1⟩;have m2:=hM.dev.c65;rw[HN2.out] at m2;have m3:=hM.dev.fz 65;have m4:=hM.dev.lt;have m5:=zg m1;have hnx:=HK.out.nxt;have hw1:IntKind.i64.wrap ((d1.next:Int)+1)=(d1.next:Int)+1:=(by rw[IntKind.wrap_i64];omega);have hw2:=zjk d1.next;have hw3:IntKind.i64.wrap (((d1.next+1) % 64:Nat):Int)=(((d1.next+1) % 64:Nat):Int):=(by rw[IntKind.wrap_i64];omega);have HM:=za (zhq HD1.out HD2.out HK.out HO.out hM);clear hM;generalize (d1.next+1) % 64=nn at *
  go_region
  go_end0;exact⟨_,rfl,HM.out.drewAt⟩
theorem zv.bndD{r:Rq}(h:zv r):0≤r.f∧r.f≤31∧1≤r.m∧r.m≤4∧r.m≤32-r.f:=by
 have:=h.ok;simp only[okB,decide_eq_true_eq] at this
 omega
theorem zhO{w:World}{base e n:Nat}{v:Value}{xs:List ByteArray}(h:w.ownsRow base e 1 v n (zab xs))(hn:n=xs.length):∃a c,v=.slice a xs.length c∧zP w a xs∧(a=none→c=0)∧∀ad,a=some ad→base≤ad.block:=by
 subst hn
 rcases h.2 with⟨rfl,h0⟩|⟨g,cap,cur,rfl,hg,hh,hnc,hcm,hcs,ht⟩
 ·obtain rfl:=List.eq_nil_of_length_eq_zero h0;exact⟨none,0,rfl,Or.inl rfl,fun _=>rfl,by simp⟩
 ·refine⟨_,cap,rfl,Or.inr ⟨g,0,rfl,fun i hi=>?_⟩,by simp,fun ad e=>?_⟩
  ·have hc:=h.cellAt i (by omega);rw[Nat.zero_add,hc]
   simp[zab,List.getElem?_eq_getElem hi]
  ·simp only[Option.some.injEq] at e;subst e;exact hg
def zbc(d:Dl)(f n:Nat):List ByteArray:=(List.range n).map fun j=>d.now.getD (f+j) ByteArray.empty
theorem zkf(d:Dl)(f n:Nat):zbc d f (n+1)=zbc d f n++[d.now.getD (f+n) ByteArray.empty]:=by simp[zbc,List.range_succ]
theorem zfg(d:Dl)(f n:Nat):(zbc d f n).length=n:=by simp[zbc]
theorem zgS(r:Rq)(gr:zv r)(k:Nat)(hk:k<32):zau r.f r.m k=decide (r.f.toNat≤k∧k<r.f.toNat+r.m.toNat):=by
 have:=gr.bndD;rw[zey r.f r.m 4 k gr.ok (by omega),zbh]
 congr 1
 simp only[eq_iff_iff]
 omega
def below(f m k:Nat):Nat:=min (k-f) m
theorem zeS{f m k:Nat}(h1:f≤k)(h2:k<f+m):below f m (k+1)=below f m k+1∧f+below f m k=k:=by unfold below;omega
theorem zd1{f m k:Nat}(h:¬(f≤k∧k<f+m)):below f m (k+1)=below f m k:=by unfold below;omega
theorem zd0{f m:Nat}(h:f+m≤32):below f m 32=m:=by unfold below;omega
theorem zpg(b:Nat)(d:Dl)(a:An)(r:Rq)(w:World)(h:zo b d a w)(gr:zv r)(hw:r.wr=false) :
 Calls Tryz.prog 180 #[.pointer (some ⟨b,0,none⟩),r.val] w fun e w'=>∃xa xc,e=.returned (.slice xa (zbc d r.f.toNat r.m.toNat).length xc)∧zP w' xa (zbc d r.f.toNat r.m.toNat)∧(xa=none→xc=0)∧(∀ad,xa=some ad→w.heap.size≤ad.block)∧Below w.heap.size w w':=by
 obtain⟨iS,hi,hz0,hz1,hz2⟩:=zbA zlo;have HI:=za (⟨hi,hz0,hz1,hz2⟩:Tryz.prog.info? 9=some iS∧_∧_∧_);have HB0:=za gr.bndD;have HHAS:=za (zgS r gr);have HD:=za h;have hl:=h.lt;clear hi hz0 hz1 hz2 h gr;obtain⟨wr0,f,m,da,dc,data,ta,tc,tags,born⟩:=r;simp only at *;subst hw;go_enter Tryz.func180,Tryz.ntmps180;go_wp2_with fail;have hB0:=za (zs w (.cells #[.bool false,.int .i64 f,.int .i64 m,.slice da data.length dc,.slice ta tags.length tc,.int .i64 born] 146));have hc0:Hid (∀wr,Below (w.heap.size+1) (w.alloc (.cells #[.bool false,.int .i64 f,.int .i64 m,.slice da data.length dc,.slice ta tags.length tc,.int .i64 born] 146)) wr→wr.cell? ⟨w.heap.size,0,none⟩=some (.bool false)∧wr.cell? ⟨w.heap.size,1,none⟩=some (.int .i64 f)∧wr.cell? ⟨w.heap.size,2,none⟩=some (.int .i64 m)):=fun wr hb =>
  ⟨(hb.cell (p:=⟨w.heap.size,0,none⟩) (by simp)).trans (by simp),(hb.cell (p:=⟨w.heap.size,1,none⟩) (by simp)).trans (by simp),(hb.cell (p:=⟨w.heap.size,2,none⟩) (by simp)).trans (by simp)⟩
 generalize hW1:w.alloc (.cells #[.bool false,.int .i64 f,.int .i64 m,.slice da data.length dc,.slice ta tags.length tc,.int .i64 born] 146)=w1 at *;have hs1:w1.heap.size=w.heap.size+1:=by rw[←hW1];simp
 have HS1:=za hs1;clear hW1 hs1
 go_loopw[5,9] (fun v i wr=>∃k:Nat,k≤32∧i=.int .i64 k∧wr.ownsRow (w.heap.size+1) 9 1 v (below f.toNat m.toNat k) (zab (zbc d f.toNat (below f.toNat m.toNat k)))∧Below (w.heap.size+1) w1 wr) (fun _ i _=>32-(intOf i).toNat)
 case atStart=>exact⟨0,by omega,rfl,by simpa [below,zbc,zab] using World.ownsRow_nil w1 (w.heap.size+1) 9 1,Below.refl _ _⟩
 case round =>
  obtain⟨k,hk,rfl,hown,HB⟩:=hrel;have HOWN:=za hown;obtain⟨c0,c1,c2⟩:=hc0.out wr HB;have hsz:=HB.size;rw[HS1.out] at hsz;clear hown
  by_cases hlt:k<32
  ·have hhs:=HHAS.out k hlt;have hlt':(k:Int)<32:=by omega
   by_cases hin:f.toNat≤k∧k<f.toNat+m.toNat
   ·rw[decide_eq_true hin] at hhs;obtain⟨e1,e2⟩:=zeS hin.1 hin.2;have HE:=za (⟨e1,e2⟩:_∧_);have hbm:below f.toNat m.toNat k≤32:=by unfold below;omega
    clear e1 e2 hin;go_wp2_with fail;refine(zc2 _ _ _ _ _ hhs).mono ?_;rintro e w2 ⟨rfl,hb2⟩;have HB2:=HB.trans (hb2.mono hsz);have hown2:=za (zad HOWN.out (fun g hg=>hb2.block g (HOWN.out.lt g hg).2));obtain⟨c0',c1',c2'⟩:=hc0.out w2 HB2;have hsz2:=HB2.size;rw[HS1.out] at hsz2;have hdev:zo b d a w2:=HD.out.later (zb hB0.out (HB2.mono (by rw[HS1.out];omega)));have cn:=hdev.cNow k hlt;have lbb:=hdev.lt;have HBL:=za hbm;clear hdev hb2 hhs hbm c0 c1 c2;generalize hs:d.now.getD k ByteArray.empty=s at *;have HSS:=za hs;clear hs;go_wp2_with(at_builtin;refine zR rfl _ _ 51 rfl (w.heap.size+1) 9 iS _ 1 16 Tryz.underlying51 HI.out.1 HI.out.2.1 HI.out.2.2.1 HI.out.2.2.2 rfl (by decide) _ (below f.toNat m.toNat k) (zab (zbc d f.toNat (below f.toNat m.toNat k))) rfl (hown2.out.alloc _) (some ⟨w2.heap.size,0,none⟩) 1 1 [.string s] rfl ⟨rfl,by simp[Value.oneCell'],Or.inr ⟨_,rfl,fun j u hj=>ze6 rfl _ _ j u hj⟩⟩ (by have:=HBL.out;unfold maxLen;omega) (by have:=HBL.out;omega) (by simp;omega) ?_;intro v3 w3 hown3 hb3);go_roundw
    case rel =>
     refine⟨k+1,by omega,by go_num,?_,HB2.trans (((Below.refl _ _).alloc (by omega) _).trans hb3)⟩;rw[HE.out.1,zkf,HE.out.2,HSS.out]
     simpa [zab] using hown3
    case measure=>simp[intOf];omega
   ·rw[decide_eq_false hin] at hhs;have HE:=za (zd1 hin);clear hin;go_wp2_with fail;refine(zc2 _ _ _ _ _ hhs).mono ?_;rintro e w2 ⟨rfl,hb2⟩;have HB2:=HB.trans (hb2.mono hsz);have hown2:=za (zad HOWN.out (fun g hg=>hb2.block g (HOWN.out.lt g hg).2));clear hb2 hhs c0 c1 c2;go_wp2;go_roundw
    case rel=>exact⟨k+1,by omega,by go_num,by rw[HE.out];exact hown2.out,HB2⟩
    case measure=>simp[intOf];omega
  ·have hk32:k=32:=by omega
   subst hk32;obtain⟨b1,b2,b3,b4,b5⟩:=HB0.out;have hall:below f.toNat m.toNat 32=m.toNat:=zd0 (by omega);rw[hall] at HOWN;obtain⟨xa,xc,rfl,hst,hnn,had⟩:=zhO HOWN.out (zfg _ _ _).symm;have HST:=za (⟨hst,hnn,had⟩:_∧_∧_);clear hst hnn had b1 b2 b3 b4 b5 hall;go_wp2;go_ret;exact⟨xa,xc,rfl,HST.out.1,HST.out.2.1,fun ad e=>Nat.le_of_succ_le (HST.out.2.2 ad e),hB0.out.trans (HB.mono (by omega))⟩
def Dl.writesTo(d:Dl)(r:Rq)(n:Nat):Dl:=(List.range n).foldl (fun d j=>d.write (r.f.toNat+j) (r.data.getD j ByteArray.empty)) d
theorem Dl.writesTo_succ(d:Dl)(r:Rq)(n:Nat):d.writesTo r (n+1)=(d.writesTo r n).write (r.f.toNat+n) (r.data.getD n ByteArray.empty):=by simp[Dl.writesTo,List.range_succ]
theorem zw.later{b:Nat}{d d':Dl}{a a':An}{w w' w'':World}(h:zw b d a d' a' w w')(hb:Below w'.heap.size w' w''):zw b d a d' a' w w'':=⟨h.dev.later hb,h.only.later hb,h.foot⟩
theorem zw.same{b:Nat}{d:Dl}{a:An}{w w':World}(h:zo b d a w)(hb:Below w.heap.size w w'):zw b d a d a w w':=⟨h.later hb,zh.of_below hb,fun _ hk=>Or.inl hk⟩
def zaL(w:World)(q:Nat)(r:Rq):Prop:=w.cell? ⟨q,0,none⟩=some (.bool r.wr)∧w.cell? ⟨q,1,none⟩=some (.int .i64 r.f)∧w.cell? ⟨q,2,none⟩=some (.int .i64 r.m)∧w.cell? ⟨q,3,none⟩=some (.slice r.da r.data.length r.dc)∧w.cell? ⟨q,4,none⟩=some (.slice r.ta r.tags.length r.tc)∧w.cell? ⟨q,5,none⟩=some (.int .i64 r.born)
theorem zaL.only{F:Nat→Prop}{w w':World}{q:Nat}{r:Rq}(h:zaL w q r)(hO:zh F w w')(hn:¬F q):zaL w' q r:=by
 obtain⟨h0,h1,h2,h3,h4,h5⟩:=h;have hl:=zg h0;exact⟨(hO.cell (p:=⟨q,0,none⟩) hl hn).trans h0,(hO.cell (p:=⟨q,1,none⟩) hl hn).trans h1,(hO.cell (p:=⟨q,2,none⟩) hl hn).trans h2,(hO.cell (p:=⟨q,3,none⟩) hl hn).trans h3,(hO.cell (p:=⟨q,4,none⟩) hl hn).trans h4,(hO.cell (p:=⟨q,5,none⟩) hl hn).trans h5⟩
theorem zaL.later{w w':World}{q:Nat}{r:Rq}(h:zaL w q r)(hb:Below w.heap.size w w'):zaL w' q r:=h.only (F:=fun _=>False) (zh.of_below hb) (fun e=>e)
theorem zdL(w:World)(T:TypeId)(r:Rq):zaL (w.alloc (.cells #[.bool r.wr,.int .i64 r.f,.int .i64 r.m,.slice r.da r.data.length r.dc,.slice r.ta r.tags.length r.tc,.int .i64 r.born] T)) w.heap.size r:=by
 refine⟨?_,?_,?_,?_,?_,?_⟩<;>simp
theorem zn0(b:Nat)(d:Dl)(a:An)(r:Rq)(w:World)(h:zo b d a w)(gr:zv r)(hw:r.wr=true)(hr:r.At w)(ho:r.Off (a.foot b)) :
 Calls Tryz.prog 180 #[.pointer (some ⟨b,0,none⟩),r.val] w fun e w'=>∃a',e=.returned (.slice none 0 0)∧zw b d a (d.writesTo r r.m.toNat) a' w w':=by
 have HB0:=za gr.bndD;have HHAS:=za (zgS r gr);have hdl:(r.data.length:Int)=r.m:=by
  have:=gr.shape;simp only[zcb,hw,if_true,decide_eq_true_eq] at this;exact this
 have HDL:=za hdl;have HD:=za h;have hl:=h.lt;have hB1:=zs w (.cells #[.bool r.wr,.int .i64 r.f,.int .i64 r.m,.slice r.da r.data.length r.dc,.slice r.ta r.tags.length r.tc,.int .i64 r.born] 146);have hX:=zdL w 146 r;have HR:=za (hr.later hB1);have HO:=za ho;have HW:=za hw;clear h gr hdl hr ho hw;go_enter Tryz.func180,Tryz.ntmps180;go_wp2_with fail;generalize hW1:w.alloc (.cells #[.bool r.wr,.int .i64 r.f,.int .i64 r.m,.slice r.da r.data.length r.dc,.slice r.ta r.tags.length r.tc,.int .i64 r.born] 146)=w1 at *;have hs1:w1.heap.size=w.heap.size+1:=by rw[←hW1];simp
 have HS1:=za hs1;have HX:=za hX;have HB1:=za hB1;clear hW1 hs1 hX hB1
 go_loopw[5,9] (fun v i wr=>∃(k:Nat) (a':An),k≤32∧i=.int .i64 k∧v=.slice none 0 0∧zw b d a (d.writesTo r (below r.f.toNat r.m.toNat k)) a' w1 wr) (fun _ i _=>32-(intOf i).toNat)
 case atStart=>exact⟨0,a,by omega,rfl,rfl,by simpa [below,Dl.writesTo] using zw.same (HD.out.later HB1.out) (Below.refl _ _)⟩
 case round =>
  obtain⟨k,a',hk,rfl,rfl,hst⟩:=hrel;have HST:=za hst;have nq:¬a.foot b w.heap.size:=fun e=>by have:=HD.out.footLt _ e;omega
  have hbx:=HX.out.only HST.out.only nq;have hra:=za (HR.out.frame HO.out HST.out.only);clear hst nq
  by_cases hlt:k<32
  ·have hhs:=HHAS.out k hlt;have hlt':(k:Int)<32:=by omega
   obtain⟨b1,b2,b3,b4,b5⟩:=HB0.out
   by_cases hin:r.f.toNat≤k∧k<r.f.toNat+r.m.toNat
   ·rw[decide_eq_true hin] at hhs;obtain⟨e1,e2⟩:=zeS hin.1 hin.2;have HE:=za (⟨e1,e2⟩:_∧_);have hwp:wrap64 ((k:Int)-r.f)=((below r.f.toNat r.m.toNat k:Nat):Int):=by unfold wrap64;omega
    have hjl:below r.f.toNat r.m.toNat k<r.data.length:=by have:=HDL.out;omega
    have HWP:=za hwp;have HHS:=za hhs;obtain⟨x0,x1,x2,x3,x4,x5⟩:=id hbx;have lx:=zg x0;rw[HW.out] at x0;clear e1 e2 hin hwp b1 b2 b3 b4 b5 hhs;go_wp2_with fail;refine(zc2 _ _ _ _ _ HHS.out).mono ?_;rintro e w2 ⟨rfl,hb2⟩;obtain⟨y0,y1,y2,y3,y4,y5⟩:=hbx.later hb2;rw[HW.out] at y0;clear x0 x1 x2 x3 x4 x5;go_wp2_with fail;refine(zhE { r with wr:=true } r.data r.da r.dc 0 k _ (hra.out.data.later hb2) HHS.out _ HWP.out hjl _ rfl).mono ?_;rintro e w3 ⟨rfl,hb3⟩;have hst3:=za ((HST.out.later hb2).later hb3);go_wp2_with fail;refine(znC b _ a' k _ _ hst3.out.dev hlt).mono ?_;rintro e w4 ⟨a4,rfl,hst4⟩;have HST4:=za (hst3.out.trans hst4);clear hst4 hb2 hb3 y0 y1 y2 y3 y4 y5 hra hbx;go_wp2;go_roundw
    case rel =>
     refine⟨k+1,a4,by omega,by go_num,rfl,?_⟩;rw[HE.out.1,Dl.writesTo_succ,HE.out.2,List.getD_eq_getElem?_getD,List.getElem?_eq_getElem hjl,Option.getD_some];exact HST4.out
    case measure=>simp[intOf];omega
   ·rw[decide_eq_false hin] at hhs;have HE:=za (zd1 hin);have HHS:=za hhs;obtain⟨x0,x1,x2,x3,x4,x5⟩:=id hbx;clear hin b1 b2 b3 b4 b5 hhs;go_wp2_with fail;refine(zc2 _ _ _ _ _ HHS.out).mono ?_;rintro e w2 ⟨rfl,hb2⟩;have HST2:=za (HST.out.later hb2);clear hb2 x0 x1 x2 x3 x4 x5 hra hbx;go_wp2;go_roundw
    case rel=>exact⟨k+1,a',by omega,by go_num,rfl,by rw[HE.out];exact HST2.out⟩
    case measure=>simp[intOf];omega
  ·have hk32:k=32:=by omega
   subst hk32;obtain⟨b1,b2,b3,b4,b5⟩:=HB0.out;have hall:below r.f.toNat r.m.toNat 32=r.m.toNat:=zd0 (by omega);rw[hall] at HST;clear hall b1 b2 b3 b4 b5 hra hbx;go_wp2;go_ret;exact⟨a',rfl,(zw.same HD.out HB1.out).trans HST.out⟩
def Dl.flush(d:Dl):Dl:={ d with good:=d.now,wr:=[],next:=0 }
theorem zgy(l:List ByteArray):∀v∈zab l,v.oneCell'=true:=by
 intro v hv;simp only[zab,List.mem_map] at hv;obtain⟨s,_,rfl⟩:=hv
 rfl
theorem zkZ(d:Dl)(a:An)(l:List ByteArray)(h1:d.now.length=32)(h2:d.good.length=32)(h3:l.length=32):splice (d.cells a) 32 (zab l)=({ d with good:=l }:Dl).cells a:=by
 have e1:(zab d.now).length=32:=by rw[zn,h1]
 have e2:(zab d.good).length=32:=by rw[zn,h2]
 have e3:(zab l).length=32:=by rw[zn,h3]
 rw[splice,Dl.cells,Dl.cells,e3,List.append_assoc,List.take_append_of_le_length (by omega),List.take_of_length_le (by omega),List.drop_append,List.drop_eq_nil_of_le (by omega),List.nil_append,e1,show 32+32-32=32 by omega,List.drop_append,List.drop_eq_nil_of_le (by omega),List.nil_append,e2,Nat.sub_self,List.drop_zero,List.append_assoc]
theorem zmg(d:Dl)(a:An)(l:List ByteArray)(h1:d.now.length=32)(h3:l.length=32):splice (d.cells a) 0 (zab l)=({ d with now:=l }:Dl).cells a:=by
 have e1:(zab d.now).length=32:=by rw[zn,h1]
 have e3:(zab l).length=32:=by rw[zn,h3]
 rw[splice,Dl.cells,Dl.cells,e3,List.take_zero,List.nil_append,List.append_assoc,List.drop_append,List.drop_eq_nil_of_le (by omega),List.nil_append,e1,show 0+32-32=0 by omega,List.drop_zero,List.append_assoc]
theorem zo.reblock{b:Nat}{d d':Dl}{a a':An}{w w':World}(h:zo b d a w)(hO:zh (fun k=>k=b) w w')(hblk:w'.heap[b]?=some (.cells (d'.cells a').toArray 108 (0,0)))
 (hw:(d'.wr=d.wr∧a'.wa=a.wa∧a'.wc=a.wc)∨(d'.wr=[]∧a'.wa=none∧a'.wc=0)) (hb:(d'.busy=d.busy∧a'.ba=a.ba∧a'.bc=a.bc)∨(d'.busy=[]∧a'.ba=none∧a'.bc=0)) (n32:d'.now.length=32) (g32:d'.good.length=32) (nxt:d'.next<64):zw b d a d' a' w w':=by
 have hft:∀k,a'.foot b k→a.foot b k:=by
  rintro k (e|⟨p,hp,e⟩|⟨p,hp,e⟩)
  ·exact Or.inl e
  ·rcases hw with⟨_,h2,_⟩|⟨_,h2,_⟩
   ·rw[h2] at hp;exact Or.inr (Or.inl ⟨p,hp,e⟩)
   ·rw[h2] at hp;cases hp
  ·rcases hb with⟨_,h2,_⟩|⟨_,h2,_⟩
   ·rw[h2] at hp;exact Or.inr (Or.inr ⟨p,hp,e⟩)
   ·rw[h2] at hp;cases hp
 refine⟨?_,hO.mono (fun k hk=>Or.inl hk),fun k hk=>Or.inl (hft k hk)⟩;exact {
  n32:=n32
  g32:=g32
  blk:=hblk
  wrow:=by
   rcases hw with⟨h1,h2,h3⟩|⟨h1,h2,h3⟩
   ·rw[h1,h2,h3];exact zad h.wrow fun g hg=>by
     obtain⟨p,hp,rfl⟩:=zu.1 hg;exact hO.block _ (h.wlt p hp) (h.sepw p hp)
   ·rw[h1,h2,h3];exact World.ownsRow_nil _ _ _ _
  brow:=by
   rcases hb with⟨h1,h2,h3⟩|⟨h1,h2,h3⟩
   ·rw[h1,h2,h3];exact zad h.brow fun g hg=>by
     obtain⟨p,hp,rfl⟩:=zu.1 hg;exact hO.block _ (h.blt p hp) (h.sepb p hp)
   ·rw[h1,h2,h3];exact World.ownsRow_nil _ _ _ _
  sepw:=fun p hp=>by
   rcases hw with⟨_,h2,_⟩|⟨_,h2,_⟩
   ·rw[h2] at hp;exact h.sepw p hp
   ·rw[h2] at hp;cases hp
  sepb:=fun p hp=>by
   rcases hb with⟨_,h2,_⟩|⟨_,h2,_⟩
   ·rw[h2] at hp;exact h.sepb p hp
   ·rw[h2] at hp;cases hp
  sepwb:=fun p q hp hq=>by
   rcases hw with⟨_,h2,_⟩|⟨_,h2,_⟩
   ·rcases hb with⟨_,k2,_⟩|⟨_,k2,_⟩
    ·rw[h2] at hp;rw[k2] at hq;exact h.sepwb p q hp hq
    ·rw[k2] at hq;cases hq
   ·rw[h2] at hp;cases hp
  reqs:=fun r hr=>by
   rcases hb with⟨h1,_,_⟩|⟨h1,_,_⟩
   ·rw[h1] at hr;have:=h.reqs r hr;exact⟨this.1.frame (F:=fun k=>k=b) (this.2.mono fun k hk=>Or.inl hk) hO,this.2.mono hft⟩
   ·rw[h1] at hr;cases hr
  wfin:=by
   rcases hw with⟨h1,_,_⟩|⟨h1,_,_⟩
   ·rw[h1];exact h.wfin
   ·rw[h1];simp
  nod:=by
   rcases hw with⟨h1,_,_⟩|⟨h1,_,_⟩
   ·rw[h1];exact h.nod
   ·rw[h1];simp
  blen:=by
   rcases hb with⟨h1,_,_⟩|⟨h1,_,_⟩
   ·rw[h1];exact h.blen
   ·rw[h1];simp
  nxt:=nxt }
theorem zo.rangeNow{b:Nat}{d:Dl}{a:An}{w:World}(h:zo b d a w):w.rangeAt b 0 (zab d.now):=fun j v hv=>by
 have hj:j<32:=by
  have:=(List.getElem?_eq_some_iff.1 hv).1;rw[zn,h.n32] at this;exact this
 rw[Nat.zero_add,zk h.blk,Dl.cells,List.append_assoc,List.getElem?_append_left (by rw[zn,h.n32];exact hj)];exact hv
theorem zo.rangeGood{b:Nat}{d:Dl}{a:An}{w:World}(h:zo b d a w):w.rangeAt b 32 (zab d.good):=fun j v hv=>by
 have hj:j<32:=by
  have:=(List.getElem?_eq_some_iff.1 hv).1;rw[zn,h.g32] at this;exact this
 rw[zk h.blk,Dl.cells,List.append_assoc,List.getElem?_append_right (by rw[zn,h.n32];omega),zn,h.n32,show 32+j-32=j by omega,List.getElem?_append_left (by rw[zn,h.g32];exact hj)];exact hv
theorem zo.there{b:Nat}{d:Dl}{a:An}{w:World}(h:zo b d a w)(o n:Nat)(ho:o+n≤67):w.there b o n:=fun j hj=>by
 refine⟨?_,h.fz _⟩;rw[zk h.blk,List.getElem?_eq_getElem (by rw[Dl.cells_length h.n32 h.g32];omega)]
 rfl
theorem zeF:(Tryz.prog.info? 45).map (·.size)=some 32:=by kernel_rfl
theorem zeE(b:Nat)(vs:List Value)(o:Nat)(w:World):zh (fun k=>k=b) w (w.setCells b o vs):=zfk (F:=fun k=>k=b) b (Or.inl rfl) vs o w (zh.refl _ _)
theorem zfq(b:Nat)(d:Dl)(a:An)(w:World)(h:zo b d a w) :
 Calls Tryz.prog 144 #[.pointer (some ⟨b,0,none⟩)] w fun e w'=>e=.returned (.tuple #[])∧zw b d a d.flush { a with wa:=none,wc:=0 } w w':=by
 have HD:=za h;have hl:=h.lt;have e32:(zab d.now).length=32:=by rw[zn];exact h.n32
 have HE:=za e32;have blk1:=zdu b 108 (zab d.now) 32 (d.cells a) w h.blk (by rw[e32,Dl.cells_length h.n32 h.g32];omega);rw[zkZ d a d.now h.n32 h.g32 h.n32] at blk1;have c64:=(zk blk1 64).trans (Dl.cell64 h.n32 h.n32);have c65:=(zk blk1 65).trans (Dl.cell65 h.n32 h.n32);have f64:=zK blk1 64;have f65:=zK blk1 65;have HB1:=za blk1;clear h e32 blk1;go_enter Tryz.func144,Tryz.ntmps144;go_wp2_with(first|(refine wpList_load_mid rfl 45 (.tmp 5) rfl b 0 rfl (zab d.now) _ HD.out.rangeNow Tryz.underlying45 rfl (by rw[HE.out];exact zeF) ?_)|(refine wpList_store_mid rfl 45 (.tmp 8) (.tmp 6) rfl b 32 (zab d.now).toArray rfl rfl (by rw[List.size_toArray,HE.out];exact HD.out.there 32 32 (by omega)) (by rw[List.size_toArray,HE.out];exact zeF) (all_oneCell_toArray (zgy _)) ?_;simp only));go_end0;refine⟨rfl,HD.out.reblock (((zeE b (zab d.now) 32 w).setCell ⟨b,64,none⟩ (Or.inl rfl) _).setCell ⟨b,65,none⟩ (Or.inl rfl) _) ?_ (Or.inr ⟨rfl,rfl,rfl⟩) (Or.inl ⟨rfl,rfl,rfl⟩) HD.out.n32 HD.out.n32 (by simp[Dl.flush])⟩;rw[zx (zx HB1.out 64 _) 65 _];have e1:=zf8 ({ d with good:=d.now }:Dl) a [] none 0 HD.out.n32 HD.out.n32;have e2:=zf9 ({ d with good:=d.now,wr:=[] }:Dl) { a with wa:=none,wc:=0 } 0 HD.out.n32 HD.out.n32;simp only[List.length_nil] at e1;rw[e1];exact congrArg (fun l:List Value=>some (Obj.cells l.toArray 108 (0,0))) e2
def zcn(kp:Int)(n:Nat):Bool:=bits BinOp.and IntKind.u64 (kp / 2 ^ n) 1==1
def zaw(kp:Int)(l:List Wn)(now:List ByteArray):List ByteArray:=l.foldl (fun n x=>if zcn kp x.bit=true then n.set x.pl x.data else n) now
def Dl.crash(d:Dl)(kp:Int):Dl:=({ d with busy:=[],now:=zaw kp d.wr d.good }:Dl).flush
theorem zik(kp:Int)(l:List Wn):∀now,(zaw kp l now).length=now.length:=by
 induction l with
 |nil=>intro now;rfl
 |cons x l ih =>
  intro now;show(zaw kp l (if zcn kp x.bit=true then now.set x.pl x.data else now)).length=_;rw[ih];split<;>simp
theorem zef(kp:Int)(l:List Wn)(x:Wn)(now:List ByteArray):zaw kp (l++[x]) now=if zcn kp x.bit=true then(zaw kp l now).set x.pl x.data else zaw kp l now:=by simp[zaw]
theorem zw.setNow{b:Nat}{d0 d:Dl}{a0 a:An}{w w':World}(h:zw b d0 a0 d a w w'){p:Nat}(hp:p<32)(s:ByteArray):zw b d0 a0 { d with now:=d.now.set p s } a w (w'.setCell ⟨b,p,none⟩ (.string s)) :=
 h.trans ⟨h.dev.setB p _ (zfo d a p s h.dev.n32 hp) rfl rfl (by simpa using h.dev.n32) h.dev.g32 h.dev.nxt,(zh.refl (a.foot b) w').setCell ⟨b,p,none⟩ (Or.inl (Or.inl rfl)) _,fun k hk=>Or.inl hk⟩
theorem zcf{b:Nat}{d:Dl}{a:An}{w:World}(h:zo b d a w):zw b d a { d with busy:=[],now:=d.good } { a with ba:=none,bc:=0 } w ((w.setCell ⟨b,66,none⟩ (.slice none 0 0)).setCells b 0 (zab d.good))∧zo b { d with busy:=[] } { a with ba:=none,bc:=0 } (w.setCell ⟨b,66,none⟩ (.slice none 0 0)):=by
 have S1:zw b d a { d with busy:=[] } { a with ba:=none,bc:=0 } w (w.setCell ⟨b,66,none⟩ (.slice none 0 0)) :=
  h.reblock ((zh.refl (fun k=>k=b) w).setCell ⟨b,66,none⟩ (Or.inl rfl) _) (by rw[zx h.blk,←zga d a [] none 0 h.n32 h.g32];rfl) (Or.inl ⟨rfl,rfl,rfl⟩) (Or.inr ⟨rfl,rfl,rfl⟩) h.n32 h.g32 h.nxt
 have eg:(zab d.good).length=32:=by rw[zn];exact h.g32
 have blk2:=zdu b 108 (zab d.good) 0 _ _ S1.dev.blk (by rw[eg,Dl.cells_length S1.dev.n32 S1.dev.g32];omega);rw[zmg _ _ d.good S1.dev.n32 S1.dev.g32] at blk2;exact⟨S1.trans (S1.dev.reblock (zeE b (zab d.good) 0 _) blk2 (Or.inl ⟨rfl,rfl,rfl⟩) (Or.inl ⟨rfl,rfl,rfl⟩) h.g32 h.g32 h.nxt),S1.dev⟩
theorem zk3(b:Nat)(d:Dl)(g wc:Nat)(ba:Option Addr)(bc:Nat)(kp:Int)(_hkp:0≤kp∧kp≤18446744073709551615)(w:World)(h:zo b d ⟨some ⟨g,0,none⟩,wc,ba,bc⟩ w) :
 Calls Tryz.prog 95 #[.pointer (some ⟨b,0,none⟩),.int .u64 kp] w fun e w'=>∃a',e=.returned (.tuple #[])∧zw b d ⟨some ⟨g,0,none⟩,wc,ba,bc⟩ (d.crash kp) a' w w':=by
 have HD:=za h;have hl:=h.lt;have c66:=h.c66;have f66:=h.fz 66;have HE:Hid ((zab d.good).length=32):=(by show _=_;rw[zn];exact h.g32);have S2:=za (zcf h).1;have HS1:=za (zcf h).2;have c64:=(zcf h).1.dev.c64;clear h;go_enter Tryz.func95,Tryz.ntmps95;go_wp2_with(first|(refine wpList_load_mid rfl 45 (.tmp 12) rfl b 32 rfl (zab d.good) _ HS1.out.rangeGood Tryz.underlying45 rfl (by rw[HE.out];exact zeF) ?_)|(refine wpList_store_mid rfl 45 (.tmp 15) (.tmp 13) rfl b 0 (zab d.good).toArray rfl rfl (by rw[List.size_toArray,HE.out];exact HS1.out.there 0 32 (by omega)) (by rw[List.size_toArray,HE.out];exact zeF) (all_oneCell_toArray (zgy _)) ?_;simp only));refine zbD (fun wK=>zw b d ⟨some ⟨g,0,none⟩,wc,ba,bc⟩ { d with busy:=[],now:=d.good } ⟨some ⟨g,0,none⟩,wc,none,0⟩ w wK) S2.out ?_;clear S2 HS1 c64 c66 f66;intro w2 h2;have H2:=za h2;clear h2
 go_loopw[21] (fun i wr=>∃k:Nat,k≤d.wr.length∧i=.int .i64 k∧zw b d ⟨some ⟨g,0,none⟩,wc,ba,bc⟩ { d with busy:=[],now:=zaw kp (d.wr.take k) d.good } ⟨some ⟨g,0,none⟩,wc,none,0⟩ w wr) (fun i _=>d.wr.length-(intOf i).toNat)
 case atStart=>exact⟨0,by omega,rfl,H2.out⟩
 case round =>
  obtain⟨k,hk,rfl,hs⟩:=hrel;have HS:=za hs;have hws:=zdJ hs.dev.wrow;have hfin:=hs.dev.wfin;have lbr:=hs.dev.lt;have hwl:=hs.dev.wlen;simp only at hws hfin hwl;clear hs
  by_cases hlt:k<d.wr.length
  ·rcases hws with e|⟨g',hg,hcs⟩
   ·rw[e] at hlt;exact absurd hlt (Nat.not_lt_zero _)
   simp only[Option.some.injEq,Addr.mk.injEq,and_true] at hg;obtain rfl:=hg;obtain⟨c0,c1,c2⟩:=hcs k hlt;obtain⟨p1,p2⟩:=hfin _ (List.getElem_mem hlt);clear hcs hfin;have lg:=zg c0;have htk:d.wr.take (k+1)=d.wr.take k++[d.wr[k]]:=List.take_succ_eq_append_getElem hlt;have HTK:=za htk;generalize d.wr[k]=x at *;have hlt':(k:Int)<(d.wr.length:Int):=by omega
   have p1':(x.pl:Int)<32:=by omega
   have cN:=HS.out.dev.cNow x.pl p1;have fN:=HS.out.dev.fz x.pl;clear htk
   cases hbt:zcn kp x.bit
   ·have hb':(bits BinOp.and IntKind.u64 (kp / 2 ^ x.bit) 1==1)=false:=hbt;have HBT:=za hbt;clear hbt;go_wp2;refine⟨⟨k+1,by omega,by go_num,?_⟩,by simp[intOf];omega⟩;rw[HTK.out,zef,HBT.out,if_neg (by simp)];exact HS.out.later (zs _ _)
   ·have hb':(bits BinOp.and IntKind.u64 (kp / 2 ^ x.bit) 1==1)=true:=hbt;have HBT:=za hbt;clear hbt;go_wp2_with fail
    go_region
    go_wp2;refine⟨⟨k+1,by omega,by go_num,?_⟩,by simp[intOf];omega⟩;rw[HTK.out,zef,if_pos HBT.out];exact((HS.out.setNow p1 x.data).later (zs _ _)).drewAt
  ·have hkl:k=d.wr.length:=by omega
   subst hkl;rw[List.take_length] at HS;go_wp2_with fail;refine(zfq b _ _ _ HS.out.dev).mono ?_;rintro e w3 ⟨rfl,hs3⟩;have HS3:=za (HS.out.trans hs3);clear hs3;go_wp2;go_end0;exact⟨_,rfl,HS3.out⟩
theorem zmn(b:Nat)(d:Dl)(a:An)(kp:Int)(_hkp:0≤kp∧kp≤18446744073709551615)(w:World)(h:zo b d a w)(h0:d.wr=[]) :
 Calls Tryz.prog 95 #[.pointer (some ⟨b,0,none⟩),.int .u64 kp] w fun e w'=>∃a',e=.returned (.tuple #[])∧zw b d a (d.crash kp) a' w w':=by
 have hl0:d.wr.length=0:=by rw[h0];rfl
 have H0:=za h0;clear h0;have HD:=za h;have hl:=h.lt;have c66:=h.c66;have f66:=h.fz 66;have HE:Hid ((zab d.good).length=32):=(by show _=_;rw[zn];exact h.g32);have S2:=za (zcf h).1;have HS1:=za (zcf h).2;have c64:=(zcf h).1.dev.c64;clear h;go_enter Tryz.func95,Tryz.ntmps95;go_wp2_with(first|(refine wpList_load_mid rfl 45 (.tmp 12) rfl b 32 rfl (zab d.good) _ HS1.out.rangeGood Tryz.underlying45 rfl (by rw[HE.out];exact zeF) ?_)|(refine wpList_store_mid rfl 45 (.tmp 15) (.tmp 13) rfl b 0 (zab d.good).toArray rfl rfl (by rw[List.size_toArray,HE.out];exact HS1.out.there 0 32 (by omega)) (by rw[List.size_toArray,HE.out];exact zeF) (all_oneCell_toArray (zgy _)) ?_;simp only));have eg:zaw kp d.wr d.good=d.good:=by rw[H0.out];rfl
 refine zbD (fun wK=>zw b d a { d with busy:=[],now:=zaw kp d.wr d.good } { a with ba:=none,bc:=0 } w wK) (by rw[eg];exact S2.out) ?_;clear S2 HS1 c64 c66 f66 eg;intro w2 h2;have H2:=za h2;clear h2
 go_loopw[21] (fun i wr=>i=.int .i64 0∧zw b d a { d with busy:=[],now:=zaw kp d.wr d.good } { a with ba:=none,bc:=0 } w wr) (fun _ _=>0)
 case atStart=>exact⟨rfl,H2.out⟩
 case round =>
  obtain⟨rfl,hs⟩:=hrel;have HS:=za hs;clear hs;go_wp2_with fail;refine(zfq b _ _ _ HS.out.dev).mono ?_;rintro e w3 ⟨rfl,hs3⟩;have HS3:=za (HS.out.trans hs3);clear hs3;go_wp2;go_end0;exact⟨_,rfl,HS3.out⟩
theorem zmm(b:Nat)(d:Dl)(a:An)(kp:Int)(hkp:0≤kp∧kp≤18446744073709551615)(w:World)(h:zo b d a w) :
 Calls Tryz.prog 95 #[.pointer (some ⟨b,0,none⟩),.int .u64 kp] w fun e w'=>∃a',e=.returned (.tuple #[])∧zw b d a (d.crash kp) a' w w':=by
 rcases zdJ h.wrow with e|⟨g,hg,_⟩
 ·exact zmn b d a kp hkp w h e
 ·obtain⟨wa,wc,ba,bc⟩:=a;simp only at hg;subst hg;exact zk3 b d g wc ba bc kp hkp w h
abbrev ze7:Value:=.agg #[.bool false,.int .i64 0,.int .i64 0,.slice none 0 0,.slice none 0 0,.int .i64 0,.slice none 0 0,.int .i64 0]
theorem zn2(b:Nat)(d:Dl)(a:An)(i:Int)(fl:Bool)(w:World)(h:zo b d a w)(hi:i<0∨(d.busy.length:Int)≤i) :
 Calls Tryz.prog 133 #[.pointer (some ⟨b,0,none⟩),.int .i64 i,.bool fl] w fun e w'=>e=.returned (.tuple #[ze7,.iface 87 (.int .i64 5)])∧Below w.heap.size w w':=by
 have c:=h.c66;have hl:=h.lt;clear h
 by_cases h0:i<0
 ·go_enter Tryz.func133,Tryz.ntmps133;go_wp2;exact bodyPost_ret (v:=.tuple #[ze7,.iface 87 (.int .i64 5)]) (by simp[results,Tryz.results133,go_sem]) rfl ⟨rfl,by(with_reducible repeat first|exact Below.refl _ _|refine zc ?_ _|refine zd ?_|refine bset' ?_ (by omega) _|refine zb ?_ (by assumption))⟩
 ·have h1:(d.busy.length:Int)≤i:=by omega
  go_enter Tryz.func133,Tryz.ntmps133;go_wp2;exact bodyPost_ret (v:=.tuple #[ze7,.iface 87 (.int .i64 5)]) (by simp[results,Tryz.results133,go_sem]) rfl ⟨rfl,by(with_reducible repeat first|exact Below.refl _ _|refine zc ?_ _|refine zd ?_|refine bset' ?_ (by omega) _|refine zb ?_ (by assumption))⟩
theorem zh.of_set{w:World}{q o:Nat}(v:Value):zh (fun k=>k=q) w (w.setCell ⟨q,o,none⟩ v):=(zh.refl (fun k=>k=q) w).setCell ⟨q,o,none⟩ (Or.inl rfl) v
theorem zw.setNew{b:Nat}{d d':Dl}{a a':An}{w w':World}(h:zw b d a d' a' w w')(hd:zo b d a w)(hs:∀r∈d'.busy,r∈d.busy){q:Nat}(hq:w.heap.size≤q)(hn:¬a'.foot b q)(o:Nat)(v:Value):zw b d a d' a' w (w'.setCell ⟨q,o,none⟩ v) :=
 ⟨h.dev.frame (zh.of_set v) (fun k hk e=>hn (e▸hk)) (fun r hr=>by
  have hat:=(hd.reqs r (hs r hr)).1;exact⟨fun he ad ha e=>by have:=zeI hat.data he ha;omega,fun he ad ha e=>by have:=zcQ hat.tags he ha;omega⟩),
  h.only.setCell ⟨q,o,none⟩ (Or.inr hq) v,h.foot⟩
def zdi(w:World)(q:Nat):Prop:=(w.cell? ⟨q,0,none⟩=some (.bool false)∧w.cell? ⟨q,1,none⟩=some (.int .i64 0)∧w.cell? ⟨q,2,none⟩=some (.int .i64 0)∧w.cell? ⟨q,3,none⟩=some (.slice none 0 0)∧w.cell? ⟨q,4,none⟩=some (.slice none 0 0)∧w.cell? ⟨q,5,none⟩=some (.int .i64 0)∧w.cell? ⟨q,6,none⟩=some (.slice none 0 0)∧w.cell? ⟨q,7,none⟩=some (.int .i64 0))∧(∀o,w.frozen? ⟨q,o,none⟩=false)∧q<w.heap.size
theorem zdi.only{F:Nat→Prop}{w w':World}{q:Nat}(h:zdi w q)(hO:zh F w w')(hn:¬F q):zdi w' q:=by
 obtain⟨⟨h0,h1,h2,h3,h4,h5,h6,h7⟩,hf,hl⟩:=h;exact⟨⟨(hO.cell (p:=⟨q,0,none⟩) hl hn).trans h0,(hO.cell (p:=⟨q,1,none⟩) hl hn).trans h1,(hO.cell (p:=⟨q,2,none⟩) hl hn).trans h2,(hO.cell (p:=⟨q,3,none⟩) hl hn).trans h3,(hO.cell (p:=⟨q,4,none⟩) hl hn).trans h4,(hO.cell (p:=⟨q,5,none⟩) hl hn).trans h5,(hO.cell (p:=⟨q,6,none⟩) hl hn).trans h6,(hO.cell (p:=⟨q,7,none⟩) hl hn).trans h7⟩,fun o=>(hO.frozen (p:=⟨q,o,none⟩) hl hn).trans (hf o),Nat.lt_of_lt_of_le hl hO.size⟩
theorem zcP(w:World)(T:TypeId):zdi (w.alloc (.cells #[.bool false,.int .i64 0,.int .i64 0,.slice none 0 0,.slice none 0 0,.int .i64 0,.slice none 0 0,.int .i64 0] T)) w.heap.size:=by
 refine⟨⟨?_,?_,?_,?_,?_,?_,?_,?_⟩,fun o=>?_,?_⟩<;>simp
theorem zo.place{b:Nat}{d:Dl}{a:An}{w:World}(h:zo b d a w){k:Nat}(hk:k<d.busy.length):∃g,a.ba=some ⟨g,0,none⟩∧g<w.heap.size:=by
 obtain⟨x,cx,hv,h1,h2,_⟩:=zbq h.brow;simp only[Value.slice.injEq,true_and] at hv;obtain⟨rfl,rfl⟩:=hv
 cases ha:a.ba with
 |none =>
  have:=h.reqsAt.form;rw[ha] at this
  rcases this with e|⟨_,_,e⟩
  ·rw[e] at hk;exact absurd hk (Nat.not_lt_zero _)
  ·cases e
 |some ad =>
  obtain⟨g,rfl⟩:=h2 ad ha;exact⟨g,rfl,h.blt _ ha⟩
theorem zk9{b:Nat}{d:Dl}{a:An}{w w2 w3:World}{k g:Nat}{r:Rq}(h:zo b d a w)(hk:k<d.busy.length)(hg0:a.ba=some ⟨g,0,none⟩)(hb:Below w.heap.size w w2)(hz:zdi w2 w.heap.size)(hx:zaL w2 (w.heap.size+1) r)
 (hown:w3.ownsRow 0 146 6 (.slice (some ⟨g,0,none⟩) (d.busy.eraseIdx k).length a.bc) (d.busy.eraseIdx k).length (zr (d.busy.eraseIdx k))) (hg:w2.grownBy w3 (some g)) :
 (w3.cell? ⟨b,66,none⟩=some (.slice (some ⟨g,0,none⟩) d.busy.length a.bc)∧w3.frozen? ⟨b,66,none⟩=false∧b<w3.heap.size)∧∃a',zw b d a { d with busy:=d.busy.eraseIdx k } a' w (w3.setCell ⟨b,66,none⟩ (.slice (some ⟨g,0,none⟩) (d.busy.eraseIdx k).length a.bc))∧zdi (w3.setCell ⟨b,66,none⟩ (.slice (some ⟨g,0,none⟩) (d.busy.eraseIdx k).length a.bc)) w.heap.size∧zaL (w3.setCell ⟨b,66,none⟩ (.slice (some ⟨g,0,none⟩) (d.busy.eraseIdx k).length a.bc)) (w.heap.size+1) r∧¬a'.foot b w.heap.size∧¬a'.foot b (w.heap.size+1):=by
 have hob:(Value.slice a.ba d.busy.length a.bc).ownBlock=some g:=zu.2 ⟨_,hg0,rfl⟩;have k66:=h.kept66 hb (by rw[hob];exact hg);rw[hg0] at k66;have hlt:=h.lt;have hgl:=h.blt _ hg0;have hel:(d.busy.eraseIdx k).length≤2:=by rw[List.length_eraseIdx,if_pos hk];have:=h.blen;omega
 obtain⟨x,c,e,hst⟩:=h.busied hb (d.busy.eraseIdx k) hel (fun q hq=>h.reqs q (List.mem_of_mem_eraseIdx hq)) hown (by rw[hob];exact hg) (fun g' hg'=>Or.inl ⟨_,hg0,by simpa [Value.ownBlock] using hg'.symm⟩);simp only[Value.slice.injEq,true_and] at e;obtain⟨rfl,rfl⟩:=e;have hO:zh (fun i=>i=g∨i=b) w2 (w3.setCell ⟨b,66,none⟩ (.slice (some ⟨g,0,none⟩) (d.busy.eraseIdx k).length a.bc)) :=
  ((zh.refl (fun i=>i=g∨i=b) w2).grown hg (fun i hi=>Or.inl (Or.inl (by simpa using hi.symm)))).setCell ⟨b,66,none⟩ (Or.inl (Or.inr rfl)) _
 have hft:∀q,w.heap.size≤q→¬({ a with ba:=some ⟨g,0,none⟩,bc:=a.bc }:An).foot b q:=by
  rintro q hq (e|⟨p,hp,e⟩|⟨p,hp,e⟩)
  ·omega
  ·have:=h.wlt p hp;omega
  ·simp only[Option.some.injEq] at hp;subst hp;simp only at e hgl;omega
 exact⟨k66,_,hst,hz.only hO (by simp only at hgl;omega),hx.only hO (by simp only at hgl;omega),hft _ (Nat.le_refl _),hft _ (by omega)⟩
theorem zmt(b:Nat)(d:Dl)(a:An)(k:Nat)(hk:k<d.busy.length)(w:World)(h:zo b d a w) :
 Calls Tryz.prog 133 #[.pointer (some ⟨b,0,none⟩),.int .i64 k,.bool true] w fun e w'=>∃a',e=.returned (.tuple #[zaC d.busy[k] none 0 0 8,.nilIface])∧zw b d a { d with busy:=d.busy.eraseIdx k } a' w w':=by
 have hl:=h.lt;have HD:=za h;have h0:¬(k:Int)<0:=(by omega);have h1:¬(d.busy.length:Int)≤(k:Int):=(by omega);have h2:(k:Int)<(d.busy.length:Int):=(by omega);have hk2:(k:Int)≤1:=(by have:=h.blen;omega);have hR:=h.reqsAt;have c:=h.c66;obtain⟨g,hg0,lg⟩:=h.place hk;rw[hg0] at hR c;obtain⟨r0,r1,r2,r3,r4,r5⟩:=hR.cells hk;simp only[Nat.zero_add] at r0 r1 r2 r3 r4 r5;have HG0:=za hg0;clear h hR hg0;generalize hr:d.busy[k]=r at *;have HRR:=za hr;clear hr;go_enter Tryz.func133,Tryz.ntmps133;go_wp2_with fail;have hbr:=(HD.out.later (zbN w (.cells #[.bool false,.int .i64 0,.int .i64 0,.slice none 0 0,.slice none 0 0,.int .i64 0,.slice none 0 0,.int .i64 0] 151) (.cells #[.bool r.wr,.int .i64 r.f,.int .i64 r.m,.slice r.da r.data.length r.dc,.slice r.ta r.tags.length r.tc,.int .i64 r.born] 146))).brow;rw[HG0.out] at hbr;refine(delR d.busy g a.bc k _ hk hbr).mono ?_;rintro e w3 ⟨rfl,hown3,hg3⟩;have hz2:=(zcP w 151).only (F:=fun _=>False) ((zh.refl _ _).alloc (.cells #[.bool r.wr,.int .i64 r.f,.int .i64 r.m,.slice r.da r.data.length r.dc,.slice r.ta r.tags.length r.tc,.int .i64 r.born] 146)) (fun e=>e);have hx2:=zdL (w.alloc (.cells #[.bool false,.int .i64 0,.int .i64 0,.slice none 0 0,.slice none 0 0,.int .i64 0,.slice none 0 0,.int .i64 0] 151)) 146 r;rw[World.size_alloc] at hx2;obtain⟨⟨c3,f3,l3⟩,a',hst,hz4,hx4,nf6,nf8⟩:=zk9 HD.out hk HG0.out (zbN w _ _) hz2 hx2 hown3 hg3;clear hz2 hx2 hbr hown3 hg3 r0 r1 r2 r3 r4 r5 c;obtain⟨⟨z0,z1,z2,z3,z4,z5,z6,z7⟩,zf,zl⟩:=hz4;obtain⟨x0,x1,x2,x3,x4,x5⟩:=hx4;have HST:=za hst;clear hst;generalize hW:w3.setCell ⟨b,66,none⟩ (.slice (some ⟨g,0,none⟩) (d.busy.eraseIdx k).length a.bc)=w4 at *;go_wp2;refine bodyPost_ret (v:=.tuple #[zaC r none 0 0 8,.nilIface]) (by simp[results,Tryz.results133,go_sem,z0,z1,z2,z3,z4,z5,z6,z7]) rfl ⟨a',rfl,?_⟩
 repeat(first|with_reducible exact HST.out|with_reducible refine zw.setNew ?_ HD.out (fun q hq=>List.mem_of_mem_eraseIdx hq) (Nat.le_refl _) nf6 _ _|with_reducible refine zw.drewAt ?_)
theorem zet{P:Program}{ops:Array Oper}{o:Oper}{a:Act}{w:World}{K:Act→World→Prop}{Q:Exit→Act→World→Prop}{E:Prop}
 (hg:o.guard=none) (f:FuncId) (x1 x2:Nat) (t1 t2:TypeId) (hop:o.op=Op.call { callee:=Callee.value (.func f),args:=#[.tmp x1,.tmp x2],argTypes:=#[t1,t2] }) (eg:∀args w,(callFunc f args).run P w=.ok (.enter f args) w)
 (v1 v2:Value) (e1:a.tmps[x1]?.getD undef=v1) (e2:a.tmps[x2]?.getD undef=v2) (R:Value→World→Prop) (hc:Calls P f #[v1,v2] w fun e w'=>∃r,e=.returned r∧R r w') (h:∀r w',R r w'→K (a.put o.dst r) w') :
 if Region.wanted o (yielded ops a.tmps)=true then Oper.wp P o a w K Q else E:=by
 have hw:Region.wanted o (yielded ops a.tmps)=true:=by simp[Region.wanted,hg]
 rw[if_pos hw];unfold Oper.wp
 simp[execOp,hop,resolve,invoke,e1,e2,eg,go_sem]
 refine hc.mono ?_;rintro _ w' ⟨r,rfl,hs⟩;exact h r w' hs
theorem zdj{w:World}{q q' o:Nat}{r:Rq}{v:Value}(h:zaL w q r)(hn:q ≠ q'):zaL (w.setCell ⟨q',o,none⟩ v) q r:=h.only (zh.of_set v) hn
theorem box8{w:World}{q:Nat}{r:Rq}{v0 v1 v2 v3 v4 v5 v6 v7:Value}(h:zaL w (q+1) r):zaL ((((((((w.setCell ⟨q,0,none⟩ v0).setCell ⟨q,1,none⟩ v1).setCell ⟨q,2,none⟩ v2).setCell ⟨q,3,none⟩ v3).setCell ⟨q,4,none⟩ v4).setCell ⟨q,5,none⟩ v5).setCell ⟨q,6,none⟩ v6).setCell ⟨q,7,none⟩ v7) (q+1) r :=
 zdj (zdj (zdj (zdj (zdj (zdj (zdj (zdj h (by omega)) (by omega)) (by omega)) (by omega)) (by omega)) (by omega)) (by omega)) (by omega)
theorem Dl.writesTo_busy(d:Dl)(r:Rq)(n:Nat):(d.writesTo r n).busy=d.busy:=by
 induction n with
 |zero=>rfl
 |succ n ih=>rw[Dl.writesTo_succ];exact ih
theorem zmv(b:Nat)(d:Dl)(a:An)(k:Nat)(hk:k<d.busy.length)(w:World)(h:zo b d a w)(gr:zv d.busy[k])(hw:d.busy[k].wr=true) :
 Calls Tryz.prog 133 #[.pointer (some ⟨b,0,none⟩),.int .i64 k,.bool false] w fun e w'=>∃a',e=.returned (.tuple #[zaC d.busy[k] none 0 0 0,.nilIface])∧zw b d a (({ d with busy:=d.busy.eraseIdx k }:Dl).writesTo d.busy[k] d.busy[k].m.toNat) a' w w':=by
 have HRA:=za (h.reqs _ (List.getElem_mem hk));have GR:=za gr;have HW:=za hw;clear gr hw;have hl:=h.lt;have HD:=za h;have h0:¬(k:Int)<0:=(by omega);have h1:¬(d.busy.length:Int)≤(k:Int):=(by omega);have h2:(k:Int)<(d.busy.length:Int):=(by omega);have hk2:(k:Int)≤1:=(by have:=h.blen;omega);have hR:=h.reqsAt;have c:=h.c66;obtain⟨g,hg0,lg⟩:=h.place hk;rw[hg0] at hR c;obtain⟨r0,r1,r2,r3,r4,r5⟩:=hR.cells hk;simp only[Nat.zero_add] at r0 r1 r2 r3 r4 r5;have HG0:=za hg0;clear h hR hg0;generalize hr:d.busy[k]=r at *;have HRR:=za hr;clear hr;go_enter Tryz.func133,Tryz.ntmps133;go_wp2_with fail;have hbr:=(HD.out.later (zbN w (.cells #[.bool false,.int .i64 0,.int .i64 0,.slice none 0 0,.slice none 0 0,.int .i64 0,.slice none 0 0,.int .i64 0] 151) (.cells #[.bool r.wr,.int .i64 r.f,.int .i64 r.m,.slice r.da r.data.length r.dc,.slice r.ta r.tags.length r.tc,.int .i64 r.born] 146))).brow;rw[HG0.out] at hbr;refine(delR d.busy g a.bc k _ hk hbr).mono ?_;rintro e w3 ⟨rfl,hown3,hg3⟩;have hz2:=(zcP w 151).only (F:=fun _=>False) ((zh.refl _ _).alloc (.cells #[.bool r.wr,.int .i64 r.f,.int .i64 r.m,.slice r.da r.data.length r.dc,.slice r.ta r.tags.length r.tc,.int .i64 r.born] 146)) (fun e=>e);have hx2:=zdL (w.alloc (.cells #[.bool false,.int .i64 0,.int .i64 0,.slice none 0 0,.slice none 0 0,.int .i64 0,.slice none 0 0,.int .i64 0] 151)) 146 r;rw[World.size_alloc] at hx2;obtain⟨⟨c3,f3,l3⟩,a',hst,hz4,hx4,nf6,nf8⟩:=zk9 HD.out hk HG0.out (zbN w _ _) hz2 hx2 hown3 hg3;clear hz2 hx2 hbr hown3 hg3 r0 r1 r2 r3 r4 r5 c;have HST:=za hst;generalize hW:w3.setCell ⟨b,66,none⟩ (.slice (some ⟨g,0,none⟩) (d.busy.eraseIdx k).length a.bc)=w4 at *;clear hst;have HS:Hid (zaL w4.drew (w.heap.size+1) r):=hx4;have egd:∀args w,Sem.run Tryz.prog (callFunc 180 args) w=.ok (.enter 180 args) w:=(by intro args w;go_simp);go_wp2_with fail;refine zbH (S:=fun wz=>zaL wz (w.heap.size+1) r) (d:=5) (by kernel_rfl) ?_;refine tk 0 ?_ rfl (Or.inl ⟨by rfl,?_⟩) HS.out ?_;rotate_left;(focus(intro w0 hSw;obtain⟨s0,s1,s2,s3,s4,s5⟩:=hSw;go_simp;(try with_reducible rfl)));(try simp only[Act.put,dP]);refine tk 1 ?_ rfl (Or.inl ⟨by rfl,?_⟩) HS.out ?_;rotate_left;(focus(intro w0 hSw;obtain⟨s0,s1,s2,s3,s4,s5⟩:=hSw;go_simp;(try with_reducible rfl)));(try simp only[Act.put,dP]);refine tk 2 ?_ rfl (Or.inl ⟨by rfl,?_⟩) HS.out ?_;rotate_left;(focus(intro w0 hSw;obtain⟨s0,s1,s2,s3,s4,s5⟩:=hSw;go_simp;(try with_reducible rfl)));(try simp only[Act.put,dP]);refine zN (i:=3) rfl (by kernel_rfl) ?_;intro K hK
 refine zet rfl 180 44 45 42 146 rfl egd (.pointer (some ⟨b,0,none⟩)) r.val rfl rfl (fun v w5=>v=.slice none 0 0∧∃a5,zw b { d with busy:=d.busy.eraseIdx k } a' (({ d with busy:=d.busy.eraseIdx k }:Dl).writesTo r r.m.toNat) a5 w4.drew w5) ((zn0 b _ a' r _ (HST.out.dev.later (Below.refl _ _).drew) GR.out HW.out ((HRA.out.1.frame HRA.out.2 HST.out.only).later (Below.refl _ _).drew) (HRA.out.2.step HRA.out.1 HST.out.foot)).mono fun e w' ⟨a5,he,hs⟩=>⟨_,he,rfl,a5,hs⟩) ?_;rintro v w5 ⟨rfl,a5,hst5⟩;have hz5:=(hz4.only (F:=fun _=>False) (zh.refl _ w4).drew (fun e=>e)).only hst5.only nf6;have HX5:=za (HS.out.only hst5.only nf8);have HST5:=za (HST.out.drewAt.trans hst5);have nf6':¬a5.foot b w.heap.size:=fun e=>(hst5.foot _ e).elim nf6 (fun h'=>by have:=hz4.2.2;simp at h';omega)
 refine hK _ _ (fun _=>HX5.out) ?_
 (try simp only[Act.put,dP])
 clear hK hst5 hz4;obtain⟨⟨z0,z1,z2,z3,z4,z5,z6,z7⟩,zf,zl⟩:=hz5;refine zN (i:=4) rfl (by kernel_rfl) ?_;intro K hK;go_simp;refine hK _ _ (fun _=>HX5.out) ?_;(try simp only[Act.put,dP]);clear hK;refine zN (i:=5) rfl (by kernel_rfl) ?_;intro K hK;go_simp;refine hK _ _ (fun h=>absurd rfl h) ?_;(try simp only[Act.put,dP]);clear hK;refine zN (i:=6) rfl (by kernel_rfl) ?_;intro K hK;go_simp;refine hK _ _ (fun _=>box8 HX5.out) ?_;(try simp only[Act.put,dP]);clear hK;refine zbX (by kernel_rfl) ?_ _;go_wp2;refine bodyPost_ret (v:=.tuple #[zaC r none 0 0 0,.nilIface]) (by simp[results,Tryz.results133,go_sem,z0,z1,z2,z3,z4,z5,z6,z7]) rfl ⟨a5,rfl,?_⟩
 repeat(first|with_reducible exact HST5.out|with_reducible refine zw.setNew ?_ HD.out (fun q hq=>List.mem_of_mem_eraseIdx (by rw[Dl.writesTo_busy] at hq;exact hq)) (Nat.le_refl _) nf6' _ _|with_reducible refine zw.drewAt ?_)
theorem zoR{w:World}{q o:Nat}{v:Value}{xa:Option Addr}{xs:List ByteArray}(h:zP w xa xs)(hn:∀ad,xa=some ad→ad.block ≠ q):zP (w.setCell ⟨q,o,none⟩ v) xa xs:=zb6 h (zh.of_set v) (fun _ ad ha=>hn ad ha)
theorem zn3(b:Nat)(d:Dl)(a:An)(k:Nat)(hk:k<d.busy.length)(w:World)(h:zo b d a w)(gr:zv d.busy[k])(hw:d.busy[k].wr=false) :
 Calls Tryz.prog 133 #[.pointer (some ⟨b,0,none⟩),.int .i64 k,.bool false] w fun e w'=>∃a' xa xc,e=.returned (.tuple #[zaC d.busy[k] xa (zbc d d.busy[k].f.toNat d.busy[k].m.toNat).length xc 0,.nilIface])∧zP w' xa (zbc d d.busy[k].f.toNat d.busy[k].m.toNat)∧(xa=none→xc=0)∧(∀ad,xa=some ad→w.heap.size≤ad.block∧¬a'.foot b ad.block)∧zw b d a { d with busy:=d.busy.eraseIdx k } a' w w':=by
 have HRA:=za (h.reqs _ (List.getElem_mem hk));have GR:=za gr;have HW:=za hw;clear gr hw;have hl:=h.lt;have HD:=za h;have h0:¬(k:Int)<0:=(by omega);have h1:¬(d.busy.length:Int)≤(k:Int):=(by omega);have h2:(k:Int)<(d.busy.length:Int):=(by omega);have hk2:(k:Int)≤1:=(by have:=h.blen;omega);have hR:=h.reqsAt;have c:=h.c66;obtain⟨g,hg0,lg⟩:=h.place hk;rw[hg0] at hR c;obtain⟨r0,r1,r2,r3,r4,r5⟩:=hR.cells hk;simp only[Nat.zero_add] at r0 r1 r2 r3 r4 r5;have HG0:=za hg0;clear h hR hg0;generalize hr:d.busy[k]=r at *;have HRR:=za hr;clear hr;go_enter Tryz.func133,Tryz.ntmps133;go_wp2_with fail;have hbr:=(HD.out.later (zbN w (.cells #[.bool false,.int .i64 0,.int .i64 0,.slice none 0 0,.slice none 0 0,.int .i64 0,.slice none 0 0,.int .i64 0] 151) (.cells #[.bool r.wr,.int .i64 r.f,.int .i64 r.m,.slice r.da r.data.length r.dc,.slice r.ta r.tags.length r.tc,.int .i64 r.born] 146))).brow;rw[HG0.out] at hbr;refine(delR d.busy g a.bc k _ hk hbr).mono ?_;rintro e w3 ⟨rfl,hown3,hg3⟩;have hz2:=(zcP w 151).only (F:=fun _=>False) ((zh.refl _ _).alloc (.cells #[.bool r.wr,.int .i64 r.f,.int .i64 r.m,.slice r.da r.data.length r.dc,.slice r.ta r.tags.length r.tc,.int .i64 r.born] 146)) (fun e=>e);have hx2:=zdL (w.alloc (.cells #[.bool false,.int .i64 0,.int .i64 0,.slice none 0 0,.slice none 0 0,.int .i64 0,.slice none 0 0,.int .i64 0] 151)) 146 r;rw[World.size_alloc] at hx2;obtain⟨⟨c3,f3,l3⟩,a',hst,hz4,hx4,nf6,nf8⟩:=zk9 HD.out hk HG0.out (zbN w _ _) hz2 hx2 hown3 hg3;clear hz2 hx2 hbr hown3 hg3 r0 r1 r2 r3 r4 r5 c;have HST:=za hst;generalize hW:w3.setCell ⟨b,66,none⟩ (.slice (some ⟨g,0,none⟩) (d.busy.eraseIdx k).length a.bc)=w4 at *;clear hst;have HS:Hid (zaL w4.drew (w.heap.size+1) r):=hx4;have egd:∀args w,Sem.run Tryz.prog (callFunc 180 args) w=.ok (.enter 180 args) w:=(by intro args w;go_simp);go_wp2_with fail;refine zbH (S:=fun wz=>zaL wz (w.heap.size+1) r) (d:=5) (by kernel_rfl) ?_;refine tk 0 ?_ rfl (Or.inl ⟨by rfl,?_⟩) HS.out ?_;rotate_left;(focus(intro w0 hSw;obtain⟨s0,s1,s2,s3,s4,s5⟩:=hSw;go_simp;(try with_reducible rfl)));(try simp only[Act.put,dP]);refine tk 1 ?_ rfl (Or.inl ⟨by rfl,?_⟩) HS.out ?_;rotate_left;(focus(intro w0 hSw;obtain⟨s0,s1,s2,s3,s4,s5⟩:=hSw;go_simp;(try with_reducible rfl)));(try simp only[Act.put,dP]);refine tk 2 ?_ rfl (Or.inl ⟨by rfl,?_⟩) HS.out ?_;rotate_left;(focus(intro w0 hSw;obtain⟨s0,s1,s2,s3,s4,s5⟩:=hSw;go_simp;(try with_reducible rfl)));(try simp only[Act.put,dP]);refine zN (i:=3) rfl (by kernel_rfl) ?_;intro K hK
 refine zet rfl 180 44 45 42 146 rfl egd (.pointer (some ⟨b,0,none⟩)) r.val rfl rfl (fun v w5=>∃xa xc,v=.slice xa (zbc d r.f.toNat r.m.toNat).length xc∧zP w5 xa (zbc d r.f.toNat r.m.toNat)∧(xa=none→xc=0)∧(∀ad,xa=some ad→w4.heap.size≤ad.block)∧Below w4.heap.size w4.drew w5) ((zpg b _ a' r _ (HST.out.dev.later (Below.refl _ _).drew) GR.out HW.out).mono fun e w' ⟨xa,xc,he,h1,h2,h3,h4⟩=>⟨_,he,xa,xc,rfl,h1,h2,h3,h4⟩) ?_;rintro v w5 ⟨xa,xc,rfl,hxs,hxn,hxb,hb5⟩;have hz5:=hz4.only (F:=fun _=>False) (zh.of_below ((Below.refl w4.heap.size w4).drew.trans hb5)) (fun e=>e);have HX5:=za (HS.out.later hb5);have HST5:=za (HST.out.drewAt.later hb5);have HXB:=za (⟨hxs,hxn,hxb⟩:_∧_∧_);have zl4:=hz4.2.2;refine hK _ _ (fun _=>HX5.out) ?_
 (try simp only[Act.put,dP])
 clear hK hz4 hxs hxn hxb hb5;obtain⟨⟨z0,z1,z2,z3,z4,z5,z6,z7⟩,zf,zl⟩:=hz5;refine zN (i:=4) rfl (by kernel_rfl) ?_;intro K hK;go_simp;refine hK _ _ (fun _=>HX5.out) ?_;(try simp only[Act.put,dP]);clear hK;refine zN (i:=5) rfl (by kernel_rfl) ?_;intro K hK;go_simp;refine hK _ _ (fun h=>absurd rfl h) ?_;(try simp only[Act.put,dP]);clear hK;refine zN (i:=6) rfl (by kernel_rfl) ?_;intro K hK;go_simp;refine hK _ _ (fun _=>box8 HX5.out) ?_;(try simp only[Act.put,dP]);clear hK;refine zbX (by kernel_rfl) ?_ _;go_wp2;obtain⟨hxs,hxn,hxb⟩:=HXB.out;refine bodyPost_ret (v:=.tuple #[zaC r xa (zbc d r.f.toNat r.m.toNat).length xc 0,.nilIface]) (by simp[results,Tryz.results133,go_sem,z0,z1,z2,z3,z4,z5,z6,z7]) rfl ⟨a',xa,xc,rfl,?_,hxn,fun ad had=>⟨by have:=hxb ad had;omega,fun e=>?_⟩,?_⟩
 ·repeat(first|with_reducible exact hxs|with_reducible refine zoR ?_ (fun ad had=>by have:=hxb ad had;omega))
 ·have h1:=HST.out.dev.footLt _ e;have h2:=hxb ad had
  omega
 ·repeat(first|with_reducible exact HST5.out|with_reducible refine zw.setNew ?_ HD.out (fun q hq=>List.mem_of_mem_eraseIdx hq) (Nat.le_refl _) nf6 _ _|with_reducible refine zw.drewAt ?_)
def Dl.did(d:Dl)(r:Rq):Dl:=if r.wr=true then d.writesTo r r.m.toNat else d
theorem Dl.did_busy(d:Dl)(r:Rq):(d.did r).busy=d.busy:=by unfold Dl.did;split;exact Dl.writesTo_busy _ _ _;rfl
theorem noBusy(d:Dl)(h:d.busy=[]):({ d with busy:=[] }:Dl)=d:=by cases d;simp only at h;subst h;rfl
def zaG(d:Dl)(r:Rq):List ByteArray:=if r.wr=true then [] else zbc d r.f.toNat r.m.toNat
def ziK(w:World)(q:Nat)(x:Ac):Prop:=w.cell? ⟨q,1,none⟩=some (.bool x.req.wr)∧w.cell? ⟨q,2,none⟩=some (.int .i64 x.req.f)∧w.cell? ⟨q,3,none⟩=some (.int .i64 x.req.m)∧w.cell? ⟨q,4,none⟩=some (.slice x.req.da x.req.data.length x.req.dc)∧w.cell? ⟨q,5,none⟩=some (.slice x.req.ta x.req.tags.length x.req.tc)∧w.cell? ⟨q,6,none⟩=some (.int .i64 x.req.born)
theorem ziK.later{w w':World}{q:Nat}{x:Ac}(h:ziK w q x)(hb:Below w.heap.size w w'):ziK w' q x:=by
 obtain⟨h0,h1,h2,h3,h4,h5⟩:=h;exact⟨cell_later' hb h0,cell_later' hb h1,cell_later' hb h2,cell_later' hb h3,cell_later' hb h4,cell_later' hb h5⟩
theorem zcF{F:Nat→Prop}{w:World}{r:Rq}(h:r.At w)(hF:∀k,F k→w.heap.size≤k):r.Off F :=
 ⟨fun he ad ha hk=>by have h1:=zeI h.data he ha;have h2:=hF _ hk;omega,fun he ad ha hk=>by have h1:=zcQ h.tags he ha;have h2:=hF _ hk;omega⟩
theorem ziR{b k:Nat}(h:an0.foot b k):k=b:=by
 rcases h with h|⟨p,hp,_⟩|⟨p,hp,_⟩
 ·exact h
 ·cases hp
 ·cases hp
def zcV(w:World)(q:Nat)(r:Rq)(xa:Option Addr)(n xc:Nat)(er:Int):Prop:=w.cell? ⟨q,0,none⟩=some (.bool r.wr)∧w.cell? ⟨q,1,none⟩=some (.int .i64 r.f)∧w.cell? ⟨q,2,none⟩=some (.int .i64 r.m)∧w.cell? ⟨q,3,none⟩=some (.slice r.da r.data.length r.dc)∧w.cell? ⟨q,4,none⟩=some (.slice r.ta r.tags.length r.tc)∧w.cell? ⟨q,5,none⟩=some (.int .i64 r.born)∧w.cell? ⟨q,6,none⟩=some (.slice xa n xc)∧w.cell? ⟨q,7,none⟩=some (.int .i64 er)
theorem zcV.later{w w':World}{q n xc:Nat}{r:Rq}{xa:Option Addr}{er:Int}(h:zcV w q r xa n xc er)(hb:Below w.heap.size w w'):zcV w' q r xa n xc er:=by
 obtain⟨h0,h1,h2,h3,h4,h5,h6,h7⟩:=h;exact⟨cell_later' hb h0,cell_later' hb h1,cell_later' hb h2,cell_later' hb h3,cell_later' hb h4,cell_later' hb h5,cell_later' hb h6,cell_later' hb h7⟩
theorem zkP(w:World)(T:TypeId)(r:Rq)(xa:Option Addr)(n xc:Nat)(er:Int):zcV (w.alloc (.cells #[.bool r.wr,.int .i64 r.f,.int .i64 r.m,.slice r.da r.data.length r.dc,.slice r.ta r.tags.length r.tc,.int .i64 r.born,.slice xa n xc,.int .i64 er] T)) w.heap.size r xa n xc er:=by
 refine⟨?_,?_,?_,?_,?_,?_,?_,?_⟩<;>simp
structure Mine(w w2:World)(b:Nat)(d:Dl)(a:An)(wr:World):Prop where
 step:zw b d0 an0 d a w2 wr
 none:d.busy=[]
theorem Mine.below{w w2 wr:World}{b:Nat}{d:Dl}{a:An}(h:Mine w w2 b d a wr)(hb:w.heap.size≤b)(hw:Below w.heap.size w w2):Below w.heap.size w wr :=
 hw.trans (h.step.only.below hw.size (fun k hk=>by rw[ziR hk];exact hb))
theorem Mine.foot{w w2 wr:World}{b:Nat}{d:Dl}{a:An}(h:Mine w w2 b d a wr)(hb:w.heap.size≤b)(hw:Below w.heap.size w w2):∀k,a.foot b k→w.heap.size≤k:=fun k hk =>
 (h.step.foot k hk).elim (fun e=>by rw[ziR e];exact hb) (fun h'=>Nat.le_trans hw.size h')
theorem zph(b:Nat)(d:Dl)(a:An)(k:Nat)(hk:k<d.busy.length)(w:World)(h:zo b d a w)(gr:zv d.busy[k]) :
 Calls Tryz.prog 133 #[.pointer (some ⟨b,0,none⟩),.int .i64 k,.bool false] w fun e w'=>∃a' xa xc xs,e=.returned (.tuple #[zaC d.busy[k] xa (List.length xs) xc 0,.nilIface])∧Hid (xs=zaG d d.busy[k])∧zP w' xa xs∧(∀ad,xa=some ad→w.heap.size≤ad.block∧¬a'.foot b ad.block)∧zw b d a (({ d with busy:=d.busy.eraseIdx k }:Dl).did d.busy[k]) a' w w':=by
 by_cases hw:d.busy[k].wr=true
 ·refine(zmv b d a k hk w h gr hw).mono ?_;rintro e w' ⟨a',rfl,hs⟩;refine⟨a',none,0,[],rfl,by show _=_;rw[zaG,if_pos hw],Or.inl rfl,by simp,?_⟩;rw[Dl.did,if_pos hw];exact hs
 ·have hw':d.busy[k].wr=false:=by simpa using hw
  refine(zn3 b d a k hk w h gr hw').mono ?_;rintro e w' ⟨a',xa,xc,rfl,h1,h2,h3,hs⟩;refine⟨a',xa,xc,_,rfl,by show _=_;rw[zaG,if_neg hw],h1,h3,?_⟩;rw[Dl.did,if_neg hw];exact hs
theorem end_at(b:Nat)(d:Dl)(a:An)(l:List Rq)(k:Nat)(r:Rq)(hb:d.busy=l)(hk:l[k]?=some r)(w:World)(h:zo b d a w)(gr:zv r) :
 Calls Tryz.prog 133 #[.pointer (some ⟨b,0,none⟩),.int .i64 k,.bool false] w fun e w'=>∃a' xa xc xs,e=.returned (.tuple #[zaC r xa (List.length xs) xc 0,.nilIface])∧Hid (xs=zaG d r)∧zP w' xa xs∧(∀ad,xa=some ad→w.heap.size≤ad.block∧¬a'.foot b ad.block)∧zw b d a (({ d with busy:=l.eraseIdx k }:Dl).did r) a' w w':=by
 subst hb;obtain⟨hk',rfl⟩:=List.getElem?_eq_some_iff.1 hk;exact zph b d a k hk' w h gr
def Dl.has(d:Dl)(p:Nat):ByteArray:=d.now.getD p ByteArray.empty
theorem znD(d:Dl)(q:Nat)(s:ByteArray):(d.write q s).now.length=d.now.length:=by simp[Dl.write]
theorem zjG(d:Dl)(r:Rq)(n:Nat):(d.writesTo r n).now.length=d.now.length:=by
 induction n with
 |zero=>rfl
 |succ n ih=>rw[Dl.writesTo_succ,znD,ih]
theorem zpf(d:Dl)(r:Rq):(d.did r).now.length=d.now.length:=by unfold Dl.did;split;exact zjG _ _ _;rfl
structure Two(w:World)(bc:Nat)(dc:Dl)(ac:An)(bd:Nat)(dd:Dl)(ad:An)(wr:World):Prop where
 c:zo bc dc ac wr
 d:zo bd dd ad wr
 apart:∀k,ac.foot bc k→ad.foot bd k→False
 fc:∀k,ac.foot bc k→w.heap.size≤k
 fd:∀k,ad.foot bd k→w.heap.size≤k
 rc:∀r∈dc.busy,r.At w
 rd:∀r∈dd.busy,r.At w
 bel:Below w.heap.size w wr
theorem Two.stepC{w wr wr':World}{bc bd:Nat}{dc dc' dd:Dl}{ac ac' ad:An}(h:Two w bc dc ac bd dd ad wr)(hs:zw bc dc ac dc' ac' wr wr')(hr:∀r∈dc'.busy,r.At w):Two w bc dc' ac' bd dd ad wr' where
 c:=hs.dev
 d:=h.d.frame hs.only (fun k hk hc=>h.apart k hc hk) (fun r hr'=>zcF (h.rd r hr') h.fc)
 apart:=fun k hc hd=>(hs.foot k hc).elim (fun hc'=>h.apart k hc' hd) (fun h'=>by have:=h.d.footLt k hd;omega)
 fc:=fun k hk=>(hs.foot k hk).elim (h.fc k) (fun h'=>Nat.le_trans h.bel.size h')
 fd:=h.fd
 rc:=hr
 rd:=h.rd
 bel:=h.bel.trans (hs.only.below h.bel.size h.fc)
theorem Two.swap{w wr:World}{bc bd:Nat}{dc dd:Dl}{ac ad:An}(h:Two w bc dc ac bd dd ad wr):Two w bd dd ad bc dc ac wr:=⟨h.d,h.c,fun k h1 h2=>h.apart k h2 h1,h.fd,h.fc,h.rd,h.rc,h.bel⟩
theorem Two.later{w wr wr':World}{bc bd:Nat}{dc dd:Dl}{ac ad:An}(h:Two w bc dc ac bd dd ad wr)(hb:Below wr.heap.size wr wr'):Two w bc dc ac bd dd ad wr':=⟨h.c.later hb,h.d.later hb,h.apart,h.fc,h.fd,h.rc,h.rd,zb h.bel hb⟩
theorem zcd(kp:Int)(x:Wn)(l:List Wn)(G:List ByteArray):zaw kp (x::l) G=zaw kp l (if zcn kp x.bit=true then G.set x.pl x.data else G):=rfl
theorem zg1(p n:Nat)(x:Wn)(l:List Wn):z8 p n (x::l)=if za7 p n x=true then z8 p n l else x::z8 p n l:=by
 unfold z8;rw[List.filter_cons]
 cases za7 p n x<;>simp
theorem zmL{p n:Nat}{x:Wn}(h:za7 p n x=true):x.pl=p∧x.bit=n:=by simpa [za7] using h
theorem zmb(kp:Int)(p n:Nat)(h:zcn kp n=false)(l:List Wn):∀G,zaw kp (z8 p n l) G=zaw kp l G:=by
 induction l with
 |nil=>intro G;rfl
 |cons x l ih =>
  intro G;rw[zg1]
  by_cases e:za7 p n x=true
  ·rw[if_pos e,ih,zcd,(zmL e).2,h];rfl
  ·rw[if_neg e,zcd,zcd,ih]
theorem znK(kp:Int)(p n:Nat)(s:ByteArray)(l:List Wn):∀G H:List ByteArray,G.set p s=H.set p s→(zaw kp (z8 p n l) G).set p s=(zaw kp l H).set p s:=by
 induction l with
 |nil=>intro G H h;exact h
 |cons x l ih =>
  intro G H h;rw[zg1]
  by_cases e:za7 p n x=true
  ·rw[if_pos e,zcd];refine ih _ _ ?_
   by_cases hb:zcn kp x.bit=true
   ·rw[if_pos hb,(zmL e).1,List.set_set];exact h
   ·rw[if_neg hb];exact h
  ·rw[if_neg e,zcd,zcd];refine ih _ _ ?_
   by_cases hb:zcn kp x.bit=true
   ·rw[if_pos hb,if_pos hb]
    by_cases hq:x.pl=p
    ·rw[hq,List.set_set,List.set_set];exact h
    ·rw[List.set_comm _ _ hq,List.set_comm _ _ hq,h]
   ·rw[if_neg hb,if_neg hb];exact h
theorem zjK(kp:Int)(p n:Nat)(s:ByteArray)(l:List Wn)(G:List ByteArray):zaw kp (z8 p n l++[⟨p,s,n⟩]) G=if zcn kp n=true then(zaw kp l G).set p s else zaw kp l G:=by
 rw[zef]
 by_cases hb:zcn kp n=true
 ·rw[if_pos hb,if_pos hb];exact znK kp p n s l G G rfl
 ·rw[if_neg hb,if_neg hb];exact zmb kp p n (by simpa using hb) l G
def Dl.after(d:Dl)(kp:Int):List ByteArray:=zaw kp d.wr d.good
theorem zjI(d:Dl)(kp:Int)(p:Nat)(s:ByteArray):(d.write p s).after kp=if zcn kp d.next=true then(d.after kp).set p s else d.after kp:=zjK kp p d.next s d.wr d.good
theorem ziE(d:Dl)(r:Rq)(n:Nat):(d.writesTo r n).good=d.good:=by
 induction n with
 |zero=>rfl
 |succ n ih=>rw[Dl.writesTo_succ];exact ih
structure Ph(w:World)(b q:Nat)(d:Dl)(a:An)(l:List ByteArray)(wr:World):Prop where
 dev:zo b d a wr
 idle:d.busy=[]
 foot:∀k,a.foot b k→w.heap.size≤k∧k ≠ q
 want:wr.heap[q]?=some (.cells (zab l).toArray 45 (0,0))
 len:l.length=32
 qb:w.heap.size≤q
 bel:Below w.heap.size w wr
theorem Ph.step{w wr wr':World}{b q:Nat}{d d':Dl}{a a':An}{l:List ByteArray}(h:Ph w b q d a l wr)(hs:zw b d a d' a' wr wr')(hn:d'.busy=[]):Ph w b q d' a' l wr' where
 dev:=hs.dev
 idle:=hn
 foot:=fun k hk=>(hs.foot k hk).elim (h.foot k) (fun h'=>⟨Nat.le_trans h.bel.size h',fun e=>by have:=zi h.want;omega⟩)
 want:=by rw[hs.only.block q (zi h.want) (fun e=>(h.foot q e).2 rfl)];exact h.want
 len:=h.len
 qb:=h.qb
 bel:=h.bel.trans (hs.only.below h.bel.size (fun k hk=>(h.foot k hk).1))
theorem Ph.later{w wr wr':World}{b q:Nat}{d:Dl}{a:An}{l:List ByteArray}(h:Ph w b q d a l wr)(hb:Below wr.heap.size wr wr'):Ph w b q d a l wr':=h.step (zw.same h.dev hb) h.idle
theorem zoP(l:List ByteArray)(p:Nat)(s:ByteArray):(zab l).set p (.string s)=zab (l.set p s):=by simp[zab,List.map_set]
theorem Ph.set{w wr:World}{b q:Nat}{d:Dl}{a:An}{l:List ByteArray}(h:Ph w b q d a l wr)(p:Nat)(s:ByteArray):Ph w b q d a (l.set p s) (wr.setCell ⟨q,p,none⟩ (.string s)) where
 dev:=h.dev.frame (zh.of_set _) (fun k hk e=>(h.foot k hk).2 e) (fun r hr=>by rw[h.idle] at hr;cases hr)
 idle:=h.idle
 foot:=h.foot
 want:=by rw[zx h.want,zoP]
 len:=by simpa using h.len
 qb:=h.qb
 bel:=h.bel.setCell h.qb _
theorem Ph.cell{w wr:World}{b q:Nat}{d:Dl}{a:An}{l:List ByteArray}(h:Ph w b q d a l wr){p:Nat}(hp:p<32):wr.cell? ⟨q,p,none⟩=some (.string (l.getD p ByteArray.empty))∧wr.frozen? ⟨q,p,none⟩=false∧q<wr.heap.size:=by
 refine⟨?_,zK h.want p,zi h.want⟩;rw[zk h.want]
 simp[zab,List.getElem?_eq_getElem (show p<l.length by rw[h.len];exact hp)]
end Go.Proofs.YtlhgjplipgandaaGreatDoor
namespace Go.Proofs.YtlhgjplipgandaaGreatDoor
open Go.RowKit Go.BigFrame
structure Pu where
 pl:Nat
 data:ByteArray
structure Rd where
 kept:List ByteArray
 now:List ByteArray
 waits:List Pu
 busy:List Rq
def zcW(kp:Int):Nat→List Pu→List ByteArray→List ByteArray
 |_,[],G=>G
 |i,x::l,G=>zcW kp (i+1) l (if zcn kp (i % 64)=true then G.set x.pl x.data else G)
theorem zjJ(kp:Int)(l:List Pu)(x:Pu):∀(i:Nat) (G:List ByteArray),zcW kp i (l++[x]) G=if zcn kp ((i+l.length) % 64)=true then(zcW kp i l G).set x.pl x.data else zcW kp i l G:=by
 induction l with
 |nil=>intro i G;rfl
 |cons y l ih =>
  intro i G;show zcW kp (i+1) (l++[x]) _=_;rw[ih,List.length_cons,show i+1+l.length=i+(l.length+1) by omega]
  rfl
def Rd.write(m:Rd)(p:Nat)(s:ByteArray):Rd:={ m with now:=m.now.set p s,waits:=m.waits++[⟨p,s⟩] }
def Rd.flush(m:Rd):Rd:={ m with kept:=m.now,waits:=[] }
def Rd.crash(m:Rd)(kp:Int):Rd:=⟨zcW kp 0 m.waits m.kept,zcW kp 0 m.waits m.kept,[],[]⟩
structure zbu(d:Dl)(m:Rd):Prop where
 now:d.now=m.now
 good:d.good=m.kept
 next:d.next=m.waits.length % 64
 same:∀kp,d.after kp=zcW kp 0 m.waits m.kept
theorem zbu.write{d:Dl}{m:Rd}(h:zbu d m)(p:Nat)(s:ByteArray):zbu (d.write p s) (m.write p s) where
 now:=by show d.now.set p s=m.now.set p s;rw[h.now]
 good:=h.good
 next:=by
  have:=h.next;show(d.next+1) % 64=(m.waits++[(⟨p,s⟩:Pu)]).length % 64;rw[List.length_append,List.length_singleton];omega
 same:=fun kp=>by
  show(d.write p s).after kp=zcW kp 0 (m.waits++[⟨p,s⟩]) m.kept;rw[zjI,zjJ,h.same kp,h.next,Nat.zero_add]
theorem zbu.busy{d:Dl}{m:Rd}(h:zbu d m)(l l':List Rq):zbu { d with busy:=l } { m with busy:=l' }:=⟨h.now,h.good,h.next,h.same⟩
theorem zbu.flush{d:Dl}{m:Rd}(h:zbu d m):zbu d.flush m.flush:=⟨h.now,h.now,rfl,fun _=>h.now⟩
theorem zbu.crash{d:Dl}{m:Rd}(h:zbu d m)(kp:Int):zbu (d.crash kp) (m.crash kp):=⟨h.same kp,h.same kp,rfl,fun _=>h.same kp⟩
def Rd.writesTo(m:Rd)(r:Rq)(n:Nat):Rd:=(List.range n).foldl (fun m j=>m.write (r.f.toNat+j) (r.data.getD j ByteArray.empty)) m
theorem Rd.writesTo_succ(m:Rd)(r:Rq)(n:Nat):m.writesTo r (n+1)=(m.writesTo r n).write (r.f.toNat+n) (r.data.getD n ByteArray.empty):=by simp[Rd.writesTo,List.range_succ]
theorem zbu.writesTo{d:Dl}{m:Rd}(h:zbu d m)(r:Rq)(n:Nat):zbu (d.writesTo r n) (m.writesTo r n):=by
 induction n with
 |zero=>exact h
 |succ n ih=>rw[Dl.writesTo_succ,Rd.writesTo_succ];exact ih.write _ _
def Rd.did(m:Rd)(r:Rq):Rd:=if r.wr=true then m.writesTo r r.m.toNat else m
theorem zbu.did{d:Dl}{m:Rd}(h:zbu d m)(r:Rq):zbu (d.did r) (m.did r):=by
 unfold Dl.did Rd.did
 split
 ·exact h.writesTo r _
 ·exact h
theorem Rd.writesTo_busy(m:Rd)(r:Rq)(n:Nat):(m.writesTo r n).busy=m.busy:=by
 induction n with
 |zero=>rfl
 |succ n ih=>rw[Rd.writesTo_succ];exact ih
abbrev Pu.val(x:Pu):Value:=.agg #[.int .i64 x.pl,.string x.data]
def pcells(l:List Pu):List Value:=l.flatMap fun x=>[.int .i64 x.pl,.string x.data]
structure Ra where
 wa:Option Addr
 wc:Nat
 la:Option Addr
 lc:Nat
def Rd.cells(m:Rd)(a:Ra):List Value:=zab m.kept++zab m.now++[.slice a.wa m.waits.length a.wc,.slice a.la m.busy.length a.lc]
def Ra.foot(a:Ra)(b:Nat)(k:Nat):Prop:=k=b∨(∃p,a.wa=some p∧k=p.block)
structure zay(b:Nat)(m:Rd)(a:Ra)(w:World):Prop where
 k32:m.kept.length=32
 n32:m.now.length=32
 blk:w.heap[b]?=some (.cells (m.cells a).toArray 49 (0,0))
 wrow:w.ownsRow 0 178 2 (.slice a.wa m.waits.length a.wc) m.waits.length (pcells m.waits)
 lrow:zm w a.la m.busy
 lnil:a.la=none→a.lc=0
 lcap:m.busy.length≤a.lc
 loff:m.busy ≠ []→∀p,a.la=some p→¬a.foot b p.block
 sepw:∀p,a.wa=some p→p.block ≠ b
 reqs:∀r∈m.busy,r.Off (a.foot b)
 wfin:∀x∈m.waits,x.pl<32
 blen:m.busy.length≤2
structure za2(b:Nat)(m:Rd)(a:Ra)(m':Rd)(a':Ra)(w w':World):Prop where
 dev:zay b m' a' w'
 only:zh (a.foot b) w w'
 foot:∀k,a'.foot b k→a.foot b k∨w.heap.size≤k
 lan:m'.busy ≠ []→∀p,a'.la=some p→(m.busy ≠ []∧a.la=some p)∨w.heap.size≤p.block
theorem za2.trans{b:Nat}{d d' d'':Rd}{a a' a'':Ra}{w w' w'':World}(h:za2 b d a d' a' w w')(k:za2 b d' a' d'' a'' w' w''):za2 b d a d'' a'' w w'' :=
 ⟨k.dev,h.only.trans k.only h.foot,fun i hi=>(k.foot i hi).elim (h.foot i) (fun h'=>Or.inr (Nat.le_trans h.only.size h')),fun hne p hp=>(k.lan hne p hp).elim (fun e=>h.lan e.1 p e.2) (fun h'=>Or.inr (Nat.le_trans h.only.size h'))⟩
theorem Rd.cells_length{d:Rd}{a:Ra}(h1:d.kept.length=32)(h2:d.now.length=32):(d.cells a).length=66:=by simp[Rd.cells,zn,h1,h2]
theorem Rd.cell64{d:Rd}{a:Ra}(h1:d.kept.length=32)(h2:d.now.length=32):(d.cells a)[64]?=some (.slice a.wa d.waits.length a.wc):=by
 rw[Rd.cells,List.getElem?_append_right (by simp[zn,h1,h2])];simp[zn,h1,h2]
theorem Rd.cell65{d:Rd}{a:Ra}(h1:d.kept.length=32)(h2:d.now.length=32):(d.cells a)[65]?=some (.slice a.la d.busy.length a.lc):=by
 rw[Rd.cells,List.getElem?_append_right (by simp[zn,h1,h2])];simp[zn,h1,h2]
theorem Rd.cellNow{d:Rd}{a:Ra}(h1:d.kept.length=32)(h2:d.now.length=32)(k:Nat)(hk:k<32):(d.cells a)[32+k]?=some (.string (d.now.getD k ByteArray.empty)):=by
 rw[Rd.cells,List.append_assoc,List.getElem?_append_right (by rw[zn];omega),zn,h1,List.getElem?_append_left (by rw[zn];omega)]
 simp[zab,List.getElem?_eq_getElem (show k<d.now.length by omega)]
section
variable{b:Nat}{d:Rd}{a:Ra}{w:World}
theorem zay.c64(h:zay b d a w):w.cell? ⟨b,64,none⟩=some (.slice a.wa d.waits.length a.wc):=by rw[zk h.blk];exact Rd.cell64 h.k32 h.n32
theorem zay.c65(h:zay b d a w):w.cell? ⟨b,65,none⟩=some (.slice a.la d.busy.length a.lc):=by rw[zk h.blk];exact Rd.cell65 h.k32 h.n32
theorem zay.cNow(h:zay b d a w)(k:Nat)(hk:k<32):w.cell? ⟨b,32+k,none⟩=some (.string (d.now.getD k ByteArray.empty)):=by rw[zk h.blk];exact Rd.cellNow h.k32 h.n32 k hk
theorem zay.fz(h:zay b d a w)(j:Nat):w.frozen? ⟨b,j,none⟩=false:=zK h.blk j
theorem zay.lt(h:zay b d a w):b<w.heap.size:=zi h.blk
theorem zay.wlt(h:zay b d a w)(p:Addr)(hp:a.wa=some p):p.block<w.heap.size:=(h.wrow.lt p.block (by rw[hp];rfl)).2
theorem zay.footLt(h:zay b d a w)(k:Nat)(hk:a.foot b k):k<w.heap.size:=by
 rcases hk with rfl|⟨p,hp,rfl⟩
 ·exact h.lt
 ·exact h.wlt p hp
theorem zfb{F:Nat→Prop}{w w':World}{a:Option Addr}{l:List Rq}(h:zm w a l)(hk:zh F w w')(hn:l ≠ []→∀p,a=some p→¬F p.block)(hr:∀r∈l,r.Off F):zm w' a l:=by
 obtain⟨h1,h2,h3⟩:=h;refine⟨?_,fun r hr'=>(h2 r hr').frame (hr r hr') hk,h3⟩
 rcases h1 with h|⟨b,o,ha,hc⟩
 ·exact Or.inl h
 ·by_cases he:l=[]
  ·exact Or.inl he
  ·refine Or.inr ⟨b,o,ha,fun i hi j hj=>?_⟩;have:=hc i hi j hj;rw[hk.cell (p:=⟨b,o+i*6+j,none⟩) (zg this) (hn he ⟨b,o,none⟩ ha)];exact this
theorem zay.frame{F:Nat→Prop}{w':World}(h:zay b d a w)(hk:zh F w w')(hF:∀k,a.foot b k→¬F k)(hl:d.busy ≠ []→∀p,a.la=some p→¬F p.block)(hr:∀r∈d.busy,r.Off F):zay b d a w' where
 k32:=h.k32
 n32:=h.n32
 blk:=by rw[hk.block b h.lt (hF b (Or.inl rfl))];exact h.blk
 wrow:=zad h.wrow fun g hg=>by
  obtain⟨p,hp,rfl⟩:=zu.1 hg;exact hk.block _ (h.wlt p hp) (hF _ (Or.inr ⟨p,hp,rfl⟩))
 lrow:=zfb h.lrow hk hl hr
 lnil:=h.lnil
 lcap:=h.lcap
 loff:=h.loff
 sepw:=h.sepw
 reqs:=h.reqs
 wfin:=h.wfin
 blen:=h.blen
theorem zay.later{w':World}(h:zay b d a w)(hk:Below w.heap.size w w'):zay b d a w' :=
 h.frame (F:=fun _=>False) (zh.of_below hk) (fun _ _ e=>e) (fun _ _ _ e=>e) (fun _ _=>⟨fun _ _ _ e=>e,fun _ _ _ e=>e⟩)
end
theorem za2.later{b:Nat}{d d':Rd}{a a':Ra}{w w' w'':World}(h:za2 b d a d' a' w w')(hb:Below w'.heap.size w' w''):za2 b d a d' a' w w'':=⟨h.dev.later hb,h.only.later hb,h.foot,h.lan⟩
theorem za2.drewAt{b:Nat}{d d':Rd}{a a':Ra}{w w':World}(h:za2 b d a d' a' w w'):za2 b d a d' a' w w'.drew:=h.later (Below.refl _ _).drew
theorem za2.same{b:Nat}{d:Rd}{a:Ra}{w w':World}(h:zay b d a w)(hb:Below w.heap.size w w'):za2 b d a d a w w':=⟨h.later hb,zh.of_below hb,fun _ hk=>Or.inl hk,fun hne _ hp=>Or.inl ⟨hne,hp⟩⟩
theorem zjr(d:Rd)(a:Ra)(l:List Rq)(x:Option Addr)(c:Nat)(h1:d.kept.length=32)(h2:d.now.length=32):(d.cells a).set 65 (.slice x l.length c)=({ d with busy:=l }:Rd).cells { a with la:=x,lc:=c }:=by
 rw[Rd.cells,List.set_append_right _ _ (by simp[zn,h1,h2])]
 simp[zn,h1,h2,Rd.cells]
theorem zay.busied{b:Nat}{d:Rd}{a:Ra}{w w3:World}(h:zay b d a w)(hb:Below w.heap.size w w3)(l:List Rq)(hl2:l.length≤2)(x:Option Addr)(c:Nat)(hl:zm w3 x l)(hn:x=none→c=0)(hc:l.length≤c)(hx:l ≠ []→∀p,x=some p→w.heap.size≤p.block)(hr:∀r∈l,r.At w∧r.Off (a.foot b)) :
 za2 b d a { d with busy:=l } { a with la:=x,lc:=c } w (w3.setCell ⟨b,65,none⟩ (.slice x l.length c)):=by
 have h3:=h.later hb;have hon:zh (a.foot b) w (w3.setCell ⟨b,65,none⟩ (.slice x l.length c)):=(zh.of_below hb).setCell _ (Or.inl (Or.inl rfl)) _;have hon3:zh (fun k=>k=b) w3 (w3.setCell ⟨b,65,none⟩ (.slice x l.length c)):=(zh.refl (fun k=>k=b) w3).setCell ⟨b,65,none⟩ (Or.inl rfl) _;have hxb:l ≠ []→∀p,x=some p→¬a.foot b p.block:=fun hne p hp hk=>by
  have:=h.footLt _ hk;have:=hx hne p hp
  omega
 refine⟨?_,hon,fun k hk=>Or.inl hk,fun hne p hp=>Or.inr (hx hne p hp)⟩;exact {
  k32:=h.k32
  n32:=h.n32
  blk:=by rw[zx h3.blk,zjr d a l x c h.k32 h.n32]
  wrow:=zad h3.wrow fun g hg=>by
   obtain⟨p,hp,rfl⟩:=zu.1 hg;exact zcs _ _ (h.sepw p hp)
  lrow:=zfb hl hon3 (fun hne p hp e=>hxb hne p hp (Or.inl e)) (fun r hr'=>⟨fun he ad ha e=>(hr r hr').2.1 he ad ha (Or.inl e),fun he ad ha e=>(hr r hr').2.2 he ad ha (Or.inl e)⟩)
  lnil:=hn
  lcap:=hc
  loff:=hxb
  sepw:=h.sepw
  reqs:=fun r hr'=>(hr r hr').2
  wfin:=h.wfin
  blen:=hl2 }
theorem zay.reblock{b:Nat}{d d':Rd}{a:Ra}{w w':World}(h:zay b d a w)(hO:zh (fun k=>k=b) w w')(hblk:w'.heap[b]?=some (.cells (d'.cells a).toArray 49 (0,0)))(hw:d'.waits=d.waits)(hb:d'.busy=d.busy)(k32:d'.kept.length=32)(n32:d'.now.length=32):za2 b d a d' a w w':=by
 refine⟨?_,hO.mono (fun k hk=>Or.inl hk),fun k hk=>Or.inl hk,fun hne p hp=>Or.inl ⟨by rw[←hb];exact hne,hp⟩⟩;exact {
  k32:=k32
  n32:=n32
  blk:=hblk
  wrow:=by
   rw[hw];exact zad h.wrow fun g hg=>by
    obtain⟨p,hp,rfl⟩:=zu.1 hg;exact hO.block _ (h.wlt p hp) (h.sepw p hp)
  lrow:=by
   rw[hb];exact zfb h.lrow hO (fun hne p hp e=>h.loff hne p hp (Or.inl e)) (fun r hr'=>⟨fun he ad ha e=>(h.reqs r hr').1 he ad ha (Or.inl e),fun he ad ha e=>(h.reqs r hr').2 he ad ha (Or.inl e)⟩)
  lnil:=h.lnil
  lcap:=by rw[hb];exact h.lcap
  loff:=by rw[hb];exact h.loff
  sepw:=h.sepw
  reqs:=by rw[hb];exact h.reqs
  wfin:=by rw[hw];exact h.wfin
  blen:=by rw[hb];exact h.blen }
end Go.Proofs.YtlhgjplipgandaaGreatDoor
namespace Go.Proofs.YtlhgjplipgandaaGreatDoor
open Go.RowKit Go.BigFrame
attribute [local go_sem] ze.cell ze.frozen
structure NewL(base:Nat)(w:World)(a:Option Addr)(c:Nat)(l:List Rq):Prop where
 here:zm w a l
 nil:a=none→c=0
 cap:l.length≤c
 new:∀p,a=some p→base≤p.block
theorem NewL.later{base:Nat}{w w':World}{a:Option Addr}{c:Nat}{l:List Rq}(h:NewL base w a c l)(hb:Below w.heap.size w w'):NewL base w' a c l:=⟨h.here.later hb,h.nil,h.cap,h.new⟩
def DBox(w':World)(b j q:Nat)(v:Value)(r:Rq):Prop:=w'.cell? ⟨b,j,none⟩=some v∧w'.frozen? ⟨b,j,none⟩=false∧b<w'.heap.size∧q<w'.heap.size∧zaL w' q r
theorem DBox.later{w w':World}{b j q:Nat}{v:Value}{r:Rq}(h:DBox w b j q v r)(hb:Below w.heap.size w w'):DBox w' b j q v r :=
 ⟨zT hb h.1,by rw[hb.frozen (p:=⟨b,j,none⟩) h.2.2.1];exact h.2.1,Nat.lt_of_lt_of_le h.2.2.1 hb.size,Nat.lt_of_lt_of_le h.2.2.2.1 hb.size,h.2.2.2.2.later hb⟩
theorem zay.rangeNow{b:Nat}{d:Rd}{a:Ra}{w:World}(h:zay b d a w):w.rangeAt b 32 (zab d.now):=fun j v hv=>by
 have hj:j<32:=by
  have:=(List.getElem?_eq_some_iff.1 hv).1;rw[zn,h.n32] at this;exact this
 rw[zk h.blk,Rd.cells,List.append_assoc,List.getElem?_append_right (by rw[zn,h.k32];omega),zn,h.k32,show 32+j-32=j by omega,List.getElem?_append_left (by rw[zn,h.n32];exact hj)];exact hv
theorem zay.there{b:Nat}{d:Rd}{a:Ra}{w:World}(h:zay b d a w)(o n:Nat)(ho:o+n≤66):w.there b o n:=fun j hj=>by
 refine⟨?_,h.fz _⟩;rw[zk h.blk,List.getElem?_eq_getElem (by rw[Rd.cells_length h.k32 h.n32];omega)]
 rfl
theorem zay.noBusy{b:Nat}{d:Rd}{a:Ra}{w:World}(h:zay b d a w):za2 b d a { d with busy:=[] } { a with la:=none,lc:=0 } w (w.setCell ⟨b,65,none⟩ (.slice none 0 0)) :=
 h.busied (Below.refl _ _) [] (by simp) none 0 ⟨Or.inl rfl,by simp,by simp⟩ (fun _=>rfl) (by simp) (fun h=>absurd rfl h) (by simp)

structure Ph0(w:World)(b:Nat)(d:Dl)(a:An)(wr:World):Prop where
 dev:zo b d a wr
 idle:d.busy=[]
 foot:∀k,a.foot b k→w.heap.size≤k
 bel:Below w.heap.size w wr
theorem Ph0.step{w wr wr':World}{b:Nat}{d d':Dl}{a a':An}(h:Ph0 w b d a wr)(hs:zw b d a d' a' wr wr')(hn:d'.busy=[]):Ph0 w b d' a' wr' where
 dev:=hs.dev
 idle:=hn
 foot:=fun k hk=>(hs.foot k hk).elim (h.foot k) (fun h'=>Nat.le_trans h.bel.size h')
 bel:=h.bel.trans (hs.only.below h.bel.size h.foot)
theorem Ph0.later{w wr wr':World}{b:Nat}{d:Dl}{a:An}(h:Ph0 w b d a wr)(hb:Below wr.heap.size wr wr'):Ph0 w b d a wr':=h.step (zw.same h.dev hb) h.idle
theorem Ph0.want{w wr:World}{b:Nat}{d:Dl}{a:An}(h:Ph0 w b d a wr)(o:Obj)(ho:o=.cells (zab (List.replicate 32 ByteArray.empty)).toArray 45):Ph w b wr.heap.size d a (List.replicate 32 ByteArray.empty) (wr.alloc o):=by
 subst ho;have h':=h.later (zs wr (.cells (zab (List.replicate 32 ByteArray.empty)).toArray 45));exact⟨h'.dev,h.idle,fun k hk=>⟨h.foot k hk,fun e=>by have:=h.dev.footLt k hk;omega⟩,heap_alloc_new _ _,rfl,h.bel.size,h'.bel⟩
end Go.Proofs.YtlhgjplipgandaaGreatDoor
