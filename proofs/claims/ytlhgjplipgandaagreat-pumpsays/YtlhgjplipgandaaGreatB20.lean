/- Joined texts: Pure4, Drv1, Drv2. -/
import Derived.Maps.Own
import Derived.Maps.OwnOps
import Derived.Maps.OwnSet
import Derived.Maps.Views
import Derived.Test.YtlhgjplipgandaaGreatB19
set_option maxRecDepth 100000
set_option maxHeartbeats 8000000
set_option linter.unusedSimpArgs false
namespace Go.Proofs.YtlhgjplipgandaaGreat
open Go.RowKit
theorem fr_lt(b:Bool)(a:Int)(l:List Rq):frI b a l=-1∨∃j:Nat,j<l.length∧frI b a l=j:=by
 rcases zdq b a l with⟨h,_⟩|⟨j,hj,h,_⟩
 ·exact Or.inl h
 ·exact Or.inr ⟨j,hj,h⟩
theorem zst(b1 b2:Bool)(t:Tn)(h:0≤t.s∧t.s≤2):0≤(zZ b1 b2 t).s∧(zZ b1 b2 t).s≤2:=by
 unfold zZ
 split
 ·exact h
 ·split
  ·exact⟨by show(0:Int)≤0;omega,by show(0:Int)≤2;omega⟩
  ·rename_i _ h2
   have:¬2≤t.s:=fun h'=>h2 (Or.inr h')
   exact⟨by show 0≤t.s+1;omega,by show t.s+1≤2;omega⟩
theorem zqy(l:List Rq)(hne:l ≠ [])(hf:∀r∈l,0≤r.f)(t:Tn)(now:Int)(hs:0≤t.s∧t.s≤2):∃i:Nat,i<l.length∧(zbz l t now).1=i∧0≤(zbz l t now).2.s∧(zbz l t now).2.s≤2:=by
 unfold zbz
 split
 ·rename_i h
  rcases fr_lt t.w t.p l with h'|⟨j,hj,h'⟩
  ·omega
  ·exact⟨j,hj,h',hs⟩
 ·obtain⟨i0,hi0,hO,hw⟩:=zgb l hne t _ _ rfl rfl;have hbs:=zst (decide (0≤zah false l)) (decide (0≤zah true l)) t hs;generalize zZ (decide (0≤zah false l)) (decide (0≤zah true l)) t=T at *;have:∃i:Nat,i<l.length∧zdA l T now=i:=by
   unfold zdA
   split
   ·exact⟨i0,hi0,hO⟩
   ·split
    ·rename_i h2
     rcases fr_lt T.w T.p l with h'|⟨j,hj,h'⟩
     ·omega
     ·exact⟨j,hj,h'⟩
    ·rcases zdq T.w 0 l with⟨h',h3⟩|⟨j,hj,h',_⟩
     ·have:=h3 i0 hi0 hw;have:=hf _ (List.getElem_mem hi0)
      omega
     ·exact⟨j,hj,h'⟩
  obtain⟨i,hi,e⟩:=this;exact⟨i,hi,e,hbs⟩
section
variable{p:Sk}
theorem zbE(h:Inv p):((p.queue=[]∨2≤p.dev.busy.length)∧p.dispatch=(false,p))∨∃(i:Nat) (hi:i<p.queue.length) (T:Tn),p.queue ≠ []∧p.dev.busy.length<2∧(zbz p.queue p.turn p.moment).1=i∧(0≤T.s∧T.s≤2)∧p.dispatch=(true,{ p with dev:={ p.dev with busy:=p.dev.busy++[p.queue[i]] },queue:=p.queue.eraseIdx i,turn:=T }):=by
 unfold Sk.dispatch
 by_cases hc:p.queue=[]∨2≤p.dev.busy.length
 ·rw[if_pos hc];exact Or.inl ⟨hc,rfl⟩
 ·rw[if_neg hc];have h1:p.queue ≠ []:=fun e=>hc (Or.inl e)
  obtain⟨i,hi,e,hs⟩:=zqy p.queue h1 (fun r hr=>(h.queue.1 r hr).bds.1) p.turn p.moment h.ts;refine Or.inr ⟨i,hi,(zbz p.queue p.turn p.moment).2,h1,by omega,e,hs,?_⟩;rw[e,Int.toNat_natCast,List.getElem?_eq_getElem hi]
  rfl
theorem zfR{l m:List Rq}(hp:l.Perm m)(h:l.Pairwise zcy):m.Pairwise zcy:=(List.Perm.pairwise_iff (fun hxy=>hxy.symm) hp).1 h
theorem zeA(l:List Rq)(i:Nat)(hi:i<l.length):(l.eraseIdx i++[l[i]]).Perm l:=by
 have e:l=l.take i++l[i]::l.drop (i+1):=by rw[List.getElem_cons_drop,List.take_append_drop]
 have h:(l.take i++(l.drop (i+1)++[l[i]])).Perm (l.take i++([l[i]]++l.drop (i+1))):=List.Perm.append_left _ List.perm_append_comm;rw[List.eraseIdx_eq_take_drop_succ,List.append_assoc];refine h.trans ?_;rw[List.singleton_append,←e]
theorem zis(q b:List Rq)(i:Nat)(hi:i<q.length):(q++b).Perm (q.eraseIdx i++(b++[q[i]])):=by
 have h1:=zeA q i hi;have h2:(q++b).Perm ((q.eraseIdx i++[q[i]])++b):=h1.symm.append_right b;refine h2.trans ?_;rw[List.append_assoc];exact List.Perm.append_left _ List.perm_append_comm
theorem Inv.moved(h:Inv p)(i:Nat)(hi:i<p.queue.length)(T:Tn)(hT:0≤T.s∧T.s≤2)(hb:p.dev.busy.length<2):Inv { p with dev:={ p.dev with busy:=p.dev.busy++[p.queue[i]] },queue:=p.queue.eraseIdx i,turn:=T }:=by
 have P:=zis p.queue p.dev.busy i hi;refine⟨h.cl3,h.cok,h.hand,h.d6,fun r hr=>h.good r (P.mem_iff.2 hr),zfR P h.apart,?_,?_,h.mom,h.tg,h.us,fun r hr=>h.tin r (P.mem_iff.2 hr),h.n32,h.g32,hT,h.fr⟩
 ·show(p.queue.eraseIdx i).length≤6;have:=h.q6;rw[List.length_eraseIdx];split<;>omega
 ·show(p.dev.busy++[p.queue[i]]).length≤2;rw[List.length_append,List.length_singleton];omega
theorem Inv.dispatch(h:Inv p):Inv p.dispatch.2:=by
 rcases zbE h with⟨_,e⟩|⟨i,hi,T,_,hb,_,hT,e⟩
 ·rw[e];exact h
 ·rw[e];exact h.moved i hi T hT hb
theorem Inv.dispatches(n:Nat):∀{p:Sk},Inv p→Inv (p.dispatches n):=by
 induction n with
 |zero=>intro p h;exact h
 |succ n ih =>
  intro p h;unfold Sk.dispatches
  split
  ·exact ih h.dispatch
  ·exact h
theorem Inv.readers(h:Inv p)(F:Int→Bool)(s:ByteArray)(e:Int):Inv (p.readers F s e) :=
 ⟨by show(List.map _ p.cl).length=3;rw[List.length_map];exact h.cl3,fun c hc=>by
  obtain⟨x,hx,rfl⟩:=List.mem_map.1 hc;show zi8 (if _ then _ else _)
  split
  ·exact zlL s e
  ·exact h.cok x hx,h.hand,h.d6,h.good,h.apart,h.q6,h.b2,h.mom,h.tg,h.us,h.tin,h.n32,h.g32,h.ts,h.fr⟩
theorem Inv.wasRead(h:Inv p)(pl:Int)(s:ByteArray)(hpl:0≤pl∧pl≤31)(hs:s.size≤4):Inv (p.wasRead pl s):=by
 unfold Sk.wasRead
 cases zaH p.hand pl with
 |some _=>exact h
 |none =>
  simp only
  cases e:zbo p.hand ⟨pl,s,false,p.uses+1⟩ p.held with
  |none=>exact h.readers _ _ _
  |some l =>
   have P:=zd6 h.hand e;have hd:=P.dirty;simp only[Bool.false_eq_true,if_false] at hd;exact(h.setHand l _ (P.ok ⟨hpl.1,hpl.2,hs⟩) (by have:=h.d6;omega) (by have:=h.us;omega)).readers _ _ _
theorem Inv.wentOne(h:Inv p)(r:Rq)(gr:zA r)(xs:List ByteArray)(j:Nat)(hj:j<r.m.toNat)(hx:(xs.getD j ByteArray.empty).size≤4):Inv (p.wentOne r xs j):=by
 unfold Sk.wentOne;have:=gr.bds
 split
 ·exact h.setHand _ _ (h.hand.cleanL _ _) (Nat.le_trans (zlc _ _ _) h.d6) h.us
 ·exact h.wasRead _ _ (by omega) hx
theorem zbp(p:Sk)(r:Rq)(xs:List ByteArray)(n:Nat):p.wentTo r xs (n+1)=(p.wentTo r xs n).wentOne r xs n:=by simp[Sk.wentTo,List.range_succ]
theorem Inv.wentTo(h:Inv p)(r:Rq)(gr:zA r)(xs:List ByteArray)(hx:∀j,(xs.getD j ByteArray.empty).size≤4):∀n,n≤r.m.toNat→Inv (p.wentTo r xs n)
 |0,_=>h
 |n+1,hn=>by rw[zbp];exact(h.wentTo r gr xs hx n (by omega)).wentOne r gr xs n (by omega) (hx n)
def zar(d:Dl):Prop:=(∀s∈d.now,s.size≤4)∧(∀s∈d.good,s.size≤4)∧∀x∈d.wr,x.data.size≤4
theorem zfZ{l:List ByteArray}(h:∀s∈l,s.size≤4)(j:Nat):(l.getD j ByteArray.empty).size≤4:=by
 rw[List.getD_eq_getElem?_getD]
 cases e:l[j]? with
 |none=>show ByteArray.empty.size≤4;rw[zez];omega
 |some s=>exact h s (List.mem_of_getElem? e)
theorem zbN{d:Dl}(h:zar d)(r:Rq)(j:Nat):((zX d r).getD j ByteArray.empty).size≤4:=by
 refine zfZ (fun s hs=>?_) j;unfold zX at hs
 split at hs
 ·cases hs
 ·unfold zbB at hs;obtain⟨i,_,rfl⟩:=List.mem_map.1 hs;exact zfZ h.1 _
theorem Inv.took(h:Inv p)(k:Nat):Inv (p.took k):=by
 have S:(p.queue++p.dev.busy.eraseIdx k).Sublist (p.queue++p.dev.busy):=List.Sublist.append_left (List.eraseIdx_sublist _ _) _;refine⟨h.cl3,h.cok,h.hand,h.d6,fun r hr=>h.good r (S.subset hr),h.apart.sublist S,h.q6,?_,h.mom,h.tg,h.us,fun r hr=>h.tin r (S.subset hr),h.n32,h.g32,h.ts,h.fr⟩;show(p.dev.busy.eraseIdx k).length≤2;have:=h.b2;rw[List.length_eraseIdx];split<;>omega
theorem zqL(d:Dl)(r:Rq):(d.did r).good=d.good:=by
 unfold Dl.did;split
 ·exact zkl _ _ _
 ·rfl
theorem Inv.did(h:Inv p)(r:Rq):Inv (p.did r):=by
 refine⟨h.cl3,h.cok,h.hand,h.d6,?_,?_,h.q6,?_,h.mom,h.tg,h.us,?_,?_,?_,h.ts,fun t=>?_⟩
 ·show ∀x∈p.queue++(p.dev.did r).busy,zA x;rw[Dl.did_busy];exact h.good
 ·show(p.queue++(p.dev.did r).busy).Pairwise zcy;rw[Dl.did_busy];exact h.apart
 ·show(p.dev.did r).busy.length≤2;rw[Dl.did_busy];exact h.b2
 ·show ∀x∈p.queue++(p.dev.did r).busy,_;rw[Dl.did_busy];exact h.tin
 ·show(p.dev.did r).now.length=32;rw[zsb];exact h.n32
 ·show(p.dev.did r).good.length=32;rw[zqL];exact h.g32
 ·have:=h.fr t;show 0≤(if t=r.tags.getD 0 0 then 0 else p.f t)∧(if t=r.tags.getD 0 0 then 0 else p.f t)≤2
  split<;>omega
theorem Inv.lost(h:Inv p)(r:Rq)(b:Bool):Inv { p.lost r with dead:=b } :=
 ⟨h.cl3,h.cok,h.hand,h.d6,h.good,h.apart,h.q6,h.b2,h.mom,h.tg,h.us,h.tin,h.n32,h.g32,h.ts,fun t=>by
  have:=h.fr t;show 0≤(if t=r.tags.getD 0 0 then 0 else p.f t)∧(if t=r.tags.getD 0 0 then 0 else p.f t)≤2
  split<;>omega⟩
theorem Inv.again(h:Inv p)(k:Nat)(hk:k<p.dev.busy.length)(hf:p.f (p.dev.busy[k].tags.getD 0 0)<2):Inv ((p.took k).again p.dev.busy[k]):=by
 have P:(p.queue++p.dev.busy).Perm (p.queue++(p.dev.busy.eraseIdx k++[p.dev.busy[k]])):=List.Perm.append_left _ (zeA p.dev.busy k hk).symm;refine⟨h.cl3,h.cok,h.hand,h.d6,fun r hr=>h.good r (P.mem_iff.2 hr),zfR P h.apart,h.q6,?_,h.mom,h.tg,h.us,fun r hr=>h.tin r (P.mem_iff.2 hr),h.n32,h.g32,h.ts,fun t=>?_⟩
 ·show(p.dev.busy.eraseIdx k++[p.dev.busy[k]]).length≤2;have:=h.b2;rw[List.length_append,List.length_singleton,List.length_eraseIdx,if_pos hk];omega
 ·have h1:=h.fr t;show 0≤(if t=p.dev.busy[k].tags.getD 0 0 then p.f t+1 else p.f t)∧(if t=p.dev.busy[k].tags.getD 0 0 then p.f t+1 else p.f t)≤2
  split
  ·rename_i e;rw[←e] at hf;omega
  ·exact h1
theorem Inv.lost'(h:Inv p)(r:Rq):Inv (p.lost r):=h.lost r p.dead
theorem zgy(p:Sk)(i:Int)(fault:Bool):((i<0∨(p.dev.busy.length:Int)≤i)∧p.end' i fault=(5,p))∨∃(k:Nat) (hk:k<p.dev.busy.length),i=k ∧
  ((fault=false∧p.end' i fault=(0,(((p.took k).did p.dev.busy[k]).wentWell p.dev.busy[k] (zX p.dev p.dev.busy[k])).serve)) ∨
   (fault=true∧p.f (p.dev.busy[k].tags.getD 0 0)<2∧p.end' i fault=(0,(p.took k).again p.dev.busy[k])) ∨
   (fault=true∧¬p.f (p.dev.busy[k].tags.getD 0 0)<2∧p.dev.busy[k].wr=true∧p.end' i fault=(0,({ (p.took k).lost p.dev.busy[k] with dead:=true }:Sk).serve)) ∨
   (fault=true∧¬p.f (p.dev.busy[k].tags.getD 0 0)<2∧p.dev.busy[k].wr=false∧p.end' i fault=(0,(((p.took k).lost p.dev.busy[k]).readers (fun x=>zam p.dev.busy[k].f p.dev.busy[k].m x) ByteArray.empty 8).serve))):=by
 unfold Sk.end'
 by_cases h0:i<0
 ·rw[if_pos h0];exact Or.inl ⟨Or.inl h0,rfl⟩
 rw[if_neg h0]
 by_cases h1:i.toNat<p.dev.busy.length
 ·refine Or.inr ⟨i.toNat,h1,by omega,?_⟩;rw[List.getElem?_eq_getElem h1];simp only
  cases fault with
  |false=>exact Or.inl ⟨rfl,rfl⟩
  |true =>
   rw[if_neg (by simp)]
   by_cases h2:p.f (p.dev.busy[i.toNat].tags.getD 0 0)<2
   ·rw[if_pos h2];exact Or.inr (Or.inl ⟨rfl,h2,rfl⟩)
   ·rw[if_neg h2]
    by_cases h3:p.dev.busy[i.toNat].wr=true
    ·rw[if_pos h3];exact Or.inr (Or.inr (Or.inl ⟨rfl,h2,h3,rfl⟩))
    ·rw[if_neg h3];exact Or.inr (Or.inr (Or.inr ⟨rfl,h2,by simpa using h3,rfl⟩))
 ·rw[List.getElem?_eq_none (by omega)];exact Or.inl ⟨Or.inr (by omega),rfl⟩
theorem Inv.end'(h:Inv p)(hd:zar p.dev)(i:Int)(fault:Bool):Inv (p.end' i fault).2:=by
 rcases zgy p i fault with⟨_,e⟩|⟨k,hk,_,⟨_,e⟩|⟨_,hf,e⟩|⟨_,_,_,e⟩|⟨_,_,_,e⟩⟩
 ·rw[e];exact h
 ·rw[e];have gr:=h.good _ (List.mem_append_right _ (List.getElem_mem hk));exact((((h.took k).did _).wentTo _ gr _ (zbN hd _) _ (Nat.le_refl _)).serve)
 ·rw[e];exact h.again k hk hf
 ·rw[e];exact((h.took k).lost _ _).serve
 ·rw[e];exact((((h.took k).lost' _).readers _ _ _).serve)
end
end Go.Proofs.YtlhgjplipgandaaGreat
namespace Go.Proofs.YtlhgjplipgandaaGreat
open Go.RowKit Go.BigFrame Go.Maps
attribute [local go_sem] ze.cell ze.frozen
theorem zdU:Keyed Tryz.prog 3:=int_keyed Tryz.underlying3
theorem zg4(w:World):(zeroValue 3).run Tryz.prog w=.ok (.int .i64 0) w:=by kernel_rfl
structure VAt(v b bm:Nat)(d:Dl)(a:An)(n:Nat)(D:DataW Unit)(w:World):Prop where
 dev:zM b d a w
 blk:w.heap[v]?=some (.cells [.pointer (some ⟨b,0,none⟩),.map (some bm)].toArray 93 (0,0))
 map:w.ownsMap Tryz.prog 3 (plainElem Tryz.prog 3) bm n D
 foot:∀k,a.foot b k→k ≠ v∧k ≠ bm
def zbx(b bm:Nat)(a:An)(k:Nat):Prop:=k=bm∨a.foot b k
structure zbn(v b bm:Nat)(d:Dl)(a:An)(n:Nat)(D:DataW Unit)(d':Dl)(a':An)(n':Nat)(D':DataW Unit)(w w':World):Prop where
 at':VAt v b bm d' a' n' D' w'
 only:zo (zbx b bm a) w w'
 foot:∀k,zbx b bm a' k→zbx b bm a k∨w.heap.size≤k
theorem zca{w w':World}{bm n:Nat}{D:DataW Unit}(h:w.ownsMap Tryz.prog 3 (plainElem Tryz.prog 3) bm n D)(e:w'.heap[bm]?=w.heap[bm]?):w'.ownsMap Tryz.prog 3 (plainElem Tryz.prog 3) bm n D:=by
 obtain⟨es,clock,hb,F,hs,hD⟩:=h;exact⟨es,clock,e.trans hb,F,hs,hD⟩
theorem VAt.mlt{v b bm:Nat}{d:Dl}{a:An}{n:Nat}{D:DataW Unit}{w:World}(h:VAt v b bm d a n D w):bm<w.heap.size:=h.map.lt
theorem VAt.ne{v b bm:Nat}{d:Dl}{a:An}{n:Nat}{D:DataW Unit}{w:World}(h:VAt v b bm d a n D w):v ≠ bm:=by
 rintro rfl;obtain⟨es,clock,hb,_⟩:=h.map;rw[h.blk] at hb
 cases hb
theorem VAt.step{v b bm:Nat}{d d':Dl}{a a':An}{n:Nat}{D:DataW Unit}{w w':World}(h:VAt v b bm d a n D w)(hs:zY b d a d' a' w w'):zbn v b bm d a n D d' a' n D w w' where
 at':=⟨hs.dev,by rw[hs.only.block v (zz h.blk) (fun e=>(h.foot v e).1 rfl)];exact h.blk,zca h.map (hs.only.block bm h.mlt (fun e=>(h.foot bm e).2 rfl)),fun k hk=>(hs.foot k hk).elim (h.foot k) (fun h'=>by have:=zz h.blk;have:=h.mlt;omega)⟩
 only:=hs.only.mono (fun _ e=>Or.inr e)
 foot:=fun k hk=>hk.elim (fun e=>Or.inl (Or.inl e)) (fun e=>(hs.foot k e).elim (fun h'=>Or.inl (Or.inr h')) Or.inr)
theorem zbn.trans{v b bm:Nat}{d d' d2:Dl}{a a' a2:An}{n n' n2:Nat}{D D' D2:DataW Unit}{w w' w2:World}(h:zbn v b bm d a n D d' a' n' D' w w')(k:zbn v b bm d' a' n' D' d2 a2 n2 D2 w' w2):zbn v b bm d a n D d2 a2 n2 D2 w w2 :=
 ⟨k.at',h.only.trans k.only h.foot,fun i hi=>(k.foot i hi).elim (h.foot i) (fun h'=>Or.inr (Nat.le_trans h.only.size h'))⟩
theorem VAt.later{v b bm:Nat}{d:Dl}{a:An}{n:Nat}{D:DataW Unit}{w w':World}(h:VAt v b bm d a n D w)(hb:Below w.heap.size w w'):VAt v b bm d a n D w':=(h.step (zY.same h.dev hb)).at'
theorem zbn.later{v b bm:Nat}{d d':Dl}{a a':An}{n n':Nat}{D D':DataW Unit}{w w' w2:World}(h:zbn v b bm d a n D d' a' n' D' w w')(hb:Below w'.heap.size w' w2):zbn v b bm d a n D d' a' n' D' w w2:=h.trans (h.at'.step (zY.same h.at'.dev hb))
theorem VAt.turn{v b bm:Nat}{d:Dl}{a:An}{n n':Nat}{D D':DataW Unit}{w w':World}(h:VAt v b bm d a n D w)(ho:zo (fun k=>k=bm) w w')(hm:w'.ownsMap Tryz.prog 3 (plainElem Tryz.prog 3) bm n' D')(hr:∀r∈d.busy,r.Off (fun k=>k=bm)):zbn v b bm d a n D d a n' D' w w' where
 at':=⟨h.dev.frame ho (fun k hk=>(h.foot k hk).2) hr,by rw[ho.block v (zz h.blk) h.ne];exact h.blk,hm,h.foot⟩
 only:=ho.mono (fun _ e=>Or.inl e)
 foot:=fun _ hk=>Or.inl hk
theorem zaq{w w':World}{bm:Nat}(h:w.grownBy w' (some bm)):zo (fun k=>k=bm) w w':=⟨h.os,h.tape,h.output,h.size,fun k hk hn=>h.block k hk (fun e=>hn (Option.some.inj e))⟩
theorem VAt.cells{v b bm:Nat}{d:Dl}{a:An}{n:Nat}{D:DataW Unit}{w:World}(h:VAt v b bm d a n D w):w.cell? ⟨v,0,none⟩=some (.pointer (some ⟨b,0,none⟩))∧w.cell? ⟨v,1,none⟩=some (.map (some bm)):=⟨by rw[zy h.blk];rfl,by rw[zy h.blk];rfl⟩
theorem zrb(b:Nat)(d:Dl)(a:An)(w:World)(h:zM b d a w):Calls Tryz.prog 19 #[.pointer (some ⟨b,0,none⟩)] w fun e w'=>e=.returned (.pointer (some ⟨w.heap.size+1,0,none⟩))∧VAt (w.heap.size+1) b w.heap.size d a 0 (.map []) w'∧Below w.heap.size w w':=by
 have HD:=za h;clear h;have hmm:=@run_makeMap Tryz.prog;go_enter Tryz.func19,Tryz.ntmps19;go_wp2;go_ret;have hb:=zbm w (.map #[] 0) (.cells [.pointer (some ⟨b,0,none⟩),.map (some w.heap.size)].toArray 93);refine⟨rfl,⟨HD.out.later hb,?_,(World.ownsMap_made _ _ _ _).alloc _,fun k hk=>?_⟩,hb⟩
 ·have:=heap_alloc_new (w.alloc (.map #[] 0)) (.cells [.pointer (some ⟨b,0,none⟩),.map (some w.heap.size)].toArray 93);rw[show(w.alloc (.map #[] 0)).heap.size=w.heap.size+1 by simp] at this;exact this
 ·have:=HD.out.footLt k hk;omega
theorem zrl(v b bm:Nat)(d:Dl)(a:An)(n:Nat)(D:DataW Unit)(w:World)(h:VAt v b bm d a n D w)(h2:d.busy.length<2):Calls Tryz.prog 55 #[.pointer (some ⟨v,0,none⟩)] w fun e w'=>e=.returned (.bool true)∧Below w.heap.size w w':=by
 obtain⟨c0,c1⟩:=h.cells;have HV:=za h;have h2':(d.busy.length:Int)<2:=by omega
 clear h c1;go_enter Tryz.func55,Tryz.ntmps55;go_wp2_with fail;refine(zga b d a _ HV.out.dev).mono ?_;rintro e w1 ⟨xa,xc,rfl,-,-,hb⟩;go_wp2;go_ret;exact⟨rfl,hb⟩
theorem zoQ(v b bm:Nat)(d:Dl)(a:An)(n:Nat)(D:DataW Unit)(r:Rq)(w:World)(h:VAt v b bm d a n D w)(h2:d.busy.length<2)(hr:r.At w)(ho:r.Off (a.foot b)) :
  Calls Tryz.prog 58 #[.pointer (some ⟨v,0,none⟩),r.val] w fun e w'=>∃a',e=.returned .nilIface∧zbn v b bm d a n D { d with busy:=d.busy++[r] } a' n D w w':=by
 obtain⟨c0,c1⟩:=h.cells;have HV:=za h;have HR:=za hr;have HO:=za ho;have hv:=zz h.blk;clear h c1 hr ho;have hb0:=za (zn w (.cells #[.bool r.wr,.int .i64 r.f,.int .i64 r.m,.slice r.da r.data.length r.dc,.slice r.ta r.tags.length r.tc,.int .i64 r.born] 111));go_enter Tryz.func58,Tryz.ntmps58;go_wp2_with fail;have hS0:(w.alloc (.cells #[.bool r.wr,.int .i64 r.f,.int .i64 r.m,.slice r.da r.data.length r.dc,.slice r.ta r.tags.length r.tc,.int .i64 r.born] 111)).drew.cell? ⟨v,0,none⟩=some (.pointer (some ⟨b,0,none⟩))∧za3 (w.alloc (.cells #[.bool r.wr,.int .i64 r.f,.int .i64 r.m,.slice r.da r.data.length r.dc,.slice r.ta r.tags.length r.tc,.int .i64 r.born] 111)).drew w.heap.size r:=⟨(hb0.out.drew.cell (p:=⟨v,0,none⟩) hv).trans c0,(zb5 w 111 r).later (Below.refl _ _).drew⟩
 have HS:=za hS0;have eg:∀args w,Sem.run Tryz.prog (callFunc 93 args) w=.ok (.enter 93 args) w:=by intro args w;go_simp
 clear hS0;refine zaJ (S:=fun wz=>wz.cell? ⟨v,0,none⟩=some (.pointer (some ⟨b,0,none⟩))∧za3 wz w.heap.size r) (d:=6) (by kernel_rfl) ?_;refine tk 0 ?_ rfl (Or.inl ⟨by rfl,?_⟩) HS.out ?_;rotate_left;(focus(intro w0 hSw;obtain⟨s6,s0,s1,s2,s3,s4,s5⟩:=hSw;go_simp;(try with_reducible rfl)));(try simp only[Act.put,dP])
 refine tk 1 ?_ rfl (Or.inl ⟨by rfl,?_⟩) HS.out ?_;rotate_left;(focus(intro w0 hSw;obtain⟨s6,s0,s1,s2,s3,s4,s5⟩:=hSw;go_simp;(try with_reducible rfl)));(try simp only[Act.put,dP])
 refine tk 2 ?_ rfl (Or.inl ⟨by rfl,?_⟩) HS.out ?_;rotate_left;(focus(intro w0 hSw;obtain⟨s6,s0,s1,s2,s3,s4,s5⟩:=hSw;go_simp;(try with_reducible rfl)));(try simp only[Act.put,dP])
 refine tk 3 ?_ rfl (Or.inl ⟨by rfl,?_⟩) HS.out ?_;rotate_left;(focus(intro w0 hSw;obtain⟨s6,s0,s1,s2,s3,s4,s5⟩:=hSw;go_simp;(try with_reducible rfl)));(try simp only[Act.put,dP])
 refine tk 4 ?_ rfl (Or.inl ⟨by rfl,?_⟩) HS.out ?_;rotate_left;(focus(intro w0 hSw;obtain⟨s6,s0,s1,s2,s3,s4,s5⟩:=hSw;go_simp;(try with_reducible rfl)));(try simp only[Act.put,dP])
 refine zw (i:=5) rfl (by kernel_rfl) ?_;intro K hK;refine zdN rfl 93 8 9 27 111 rfl eg (.pointer (some ⟨b,0,none⟩)) r.val rfl rfl .nilIface (fun w'=>∃a',zY b d a { d with busy:=d.busy++[r] } a' w w'∧za3 w' w.heap.size r) ((zlk b d a r _ (HV.out.dev.later hb0.out.drew) h2 (HR.out.later hb0.out.drew) HO.out).mono ?_) ?_
 ·rintro e w1 ⟨a',he,hs⟩;exact⟨he,a',(zY.same HV.out.dev hb0.out.drew).trans hs,HS.out.2.only hs.only (fun e=>by have:=HV.out.dev.footLt _ e;omega)⟩
 rintro w1 ⟨a',hs,hbx⟩;have HVS:=za (HV.out.step hs);have hS1:w1.cell? ⟨v,0,none⟩=some (.pointer (some ⟨b,0,none⟩)):=HVS.out.at'.cells.1;refine hK _ _ (fun _=>⟨hS1,hbx⟩) ?_
 (try simp only[Act.put,dP])
 clear hK;refine zw (i:=6) rfl (by kernel_rfl) ?_;intro K hK;go_simp;refine hK _ _ (fun h=>absurd rfl h) ?_
 (try simp only[Act.put,dP])
 clear hK;refine zaO (by kernel_rfl) ?_ _;go_wp2;go_ret;exact⟨a',rfl,HVS.out⟩
theorem zpH(r:Rq)(w:World)(hr:r.At w)(h1:1≤r.tags.length):Calls Tryz.prog 97 #[r.val] w fun e w'=>e=.returned (.int .i64 (r.tags.getD 0 0))∧Below w.heap.size w w':=by
 obtain⟨wr,f,m,da,dc,data,ta,tc,tags,born⟩:=r
 rcases hr.tags with h|⟨tb,tof,h,hc⟩
 ·simp only at h h1;rw[h] at h1;simp at h1
 simp only at h h1 hc;subst h;have c0:=hc 0 (by omega);have lt:=zg c0;obtain⟨x,hx⟩:∃x,tags.getD 0 0=x:=⟨_,rfl⟩
 rw[hx] at c0;simp only[Nat.add_zero] at c0;have h1':¬(tags.length:Int)=0:=by omega
 have h2':(0:Int)<(tags.length:Int):=by omega
 show Calls Tryz.prog 97 #[(Rq.mk wr f m da dc data (some ⟨tb,tof,none⟩) tc tags born).val] w fun e w'=>e=.returned (.int .i64 (tags.getD 0 0))∧Below w.heap.size w w'
 rw[hx];clear hr hc hx;go_enter Tryz.func97,Tryz.ntmps97;go_wp2;go_ret;exact⟨rfl,by(with_reducible repeat first|exact Below.refl _ _|refine zc ?_ _|refine zd ?_|refine bset' ?_ (by omega) _|refine zb ?_ (by assumption))⟩
def zal(w:World)(q:Nat)(r:Rq)(xa:Option Addr)(n xc:Nat)(er:Int):Prop:=za6 w q r xa n xc er∧w.there q 0 8∧q<w.heap.size
theorem znW{F:Nat→Prop}{w w':World}{q:Nat}(h:w.there q 0 8)(hl:q<w.heap.size)(hO:zo F w w')(hn:¬F q):w'.there q 0 8:=fun j hj=>by
 rw[hO.cell (p:=⟨q,0+j,none⟩) hl hn,hO.frozen (p:=⟨q,0+j,none⟩) hl hn];exact h j hj
theorem zal.only{F:Nat→Prop}{w w':World}{q n xc:Nat}{r:Rq}{xa:Option Addr}{er:Int}(h:zal w q r xa n xc er)(hO:zo F w w')(hn:¬F q):zal w' q r xa n xc er:=by
 obtain⟨⟨h0,h1,h2,h3,h4,h5,h6,h7⟩,hf,hl⟩:=h;exact⟨⟨(hO.cell (p:=⟨q,0,none⟩) hl hn).trans h0,(hO.cell (p:=⟨q,1,none⟩) hl hn).trans h1,(hO.cell (p:=⟨q,2,none⟩) hl hn).trans h2,(hO.cell (p:=⟨q,3,none⟩) hl hn).trans h3,(hO.cell (p:=⟨q,4,none⟩) hl hn).trans h4,(hO.cell (p:=⟨q,5,none⟩) hl hn).trans h5,(hO.cell (p:=⟨q,6,none⟩) hl hn).trans h6,(hO.cell (p:=⟨q,7,none⟩) hl hn).trans h7⟩,znW hf hl hO hn,Nat.lt_of_lt_of_le hl hO.size⟩
theorem zal.later{w w':World}{q n xc:Nat}{r:Rq}{xa:Option Addr}{er:Int}(h:zal w q r xa n xc er)(hb:Below w.heap.size w w'):zal w' q r xa n xc er:=h.only (F:=fun _=>False) (zo.of_below hb) (fun e=>e)
theorem zT{w:World}{q:Nat}(h:zcj w q):w.there q 0 8:=by
 obtain⟨⟨z0,z1,z2,z3,z4,z5,z6,z7⟩,zf,zl⟩:=h;intro j hj;refine⟨?_,zf _⟩
 match j,hj with
 |0,_=>simp[z0]
 |1,_=>simp[z1]
 |2,_=>simp[z2]
 |3,_=>simp[z3]
 |4,_=>simp[z4]
 |5,_=>simp[z5]
 |6,_=>simp[z6]
 |7,_=>simp[z7]
def zfk(w:World)(q:Nat)(v0 v1 v2 v3 v4 v5 v6 v7:Value):World:=(((((((w.setCell ⟨q,0,none⟩ v0).setCell ⟨q,1,none⟩ v1).setCell ⟨q,2,none⟩ v2).setCell ⟨q,3,none⟩ v3).setCell ⟨q,4,none⟩ v4).setCell ⟨q,5,none⟩ v5).setCell ⟨q,6,none⟩ v6).setCell ⟨q,7,none⟩ v7
theorem zan(w:World)(q:Nat)(v0 v1 v2 v3 v4 v5 v6 v7:Value):zo (fun k=>k=q) w (zfk w q v0 v1 v2 v3 v4 v5 v6 v7) :=
 ((((((((zo.refl (fun k=>k=q) w).setCell ⟨q,0,none⟩ (Or.inl rfl) v0).setCell ⟨q,1,none⟩ (Or.inl rfl) v1).setCell ⟨q,2,none⟩ (Or.inl rfl) v2).setCell ⟨q,3,none⟩ (Or.inl rfl) v3).setCell ⟨q,4,none⟩ (Or.inl rfl) v4).setCell ⟨q,5,none⟩ (Or.inl rfl) v5).setCell ⟨q,6,none⟩ (Or.inl rfl) v6).setCell ⟨q,7,none⟩ (Or.inl rfl) v7
theorem zaT{w:World}{q n xc:Nat}{r:Rq}{xa:Option Addr}{er:Int}(h:w.there q 0 8)(hl:q<w.heap.size):zal (zfk w q (.bool r.wr) (.int .i64 r.f) (.int .i64 r.m) (.slice r.da r.data.length r.dc) (.slice r.ta r.tags.length r.tc) (.int .i64 r.born) (.slice xa n xc) (.int .i64 er)) q r xa n xc er:=by
 have hs:=World.rangeAt_setCells_same w q 0 [.bool r.wr,.int .i64 r.f,.int .i64 r.m,.slice r.da r.data.length r.dc,.slice r.ta r.tags.length r.tc,.int .i64 r.born,.slice xa n xc,.int .i64 er] h;exact⟨⟨hs 0 _ rfl,hs 1 _ rfl,hs 2 _ rfl,hs 3 _ rfl,hs 4 _ rfl,hs 5 _ rfl,hs 6 _ rfl,hs 7 _ rfl⟩,World.there_setCells h q 0 [.bool r.wr,.int .i64 r.f,.int .i64 r.m,.slice r.da r.data.length r.dc,.slice r.ta r.tags.length r.tc,.int .i64 r.born,.slice xa n xc,.int .i64 er],by simpa [zfk] using hl⟩
theorem zP{ops:Array Oper}{rest:List Oper}{op:Oper}{a:Act}{w:World}{Q:Exit→Act→World→Prop}(hgd:op.guard=none)(x y:Operand)(ho:op.op=.store 120 x y)
  (q:Nat) (r:Rq) (xa:Option Addr) (n xc:Nat) (er:Int) (hx:a.eval x=.pointer (some ⟨q,0,none⟩)) (hy:a.eval y=zaI r xa n xc er) (ht:w.there q 0 8)
  (R:World→Prop) (hR:R (zfk w q (.bool r.wr) (.int .i64 r.f) (.int .i64 r.m) (.slice r.da r.data.length r.dc) (.slice r.ta r.tags.length r.tc) (.int .i64 r.born) (.slice xa n xc) (.int .i64 er)))
  (h:∀w',R w'→wpList Tryz.prog ops Q rest (a.put op.dst undef) w'):wpList Tryz.prog ops Q (op::rest) a w :=
 wpList_store_mid hgd 120 x y ho q 0 _ hx hy ht (by kernel_rfl) (by simp[Value.oneCell']) (h _ hR)
def rq0:Rq:=⟨false,0,0,none,0,[],none,0,[],0⟩
theorem zg7{v b bm:Nat}{d d':Dl}{a a':An}{n n':Nat}{D D':DataW Unit}{w w':World}(h:zbn v b bm d a n D d' a' n' D' w w')(q:Nat)(hq:w.heap.size≤q)(hq':¬zbx b bm a' q)(hqv:q ≠ v)(hr:∀r∈d'.busy,r.Off (fun k=>k=q))(v0 v1 v2 v3 v4 v5 v6 v7:Value):zbn v b bm d a n D d' a' n' D' w (zfk w' q v0 v1 v2 v3 v4 v5 v6 v7) where
 at':=⟨h.at'.dev.frame (zan w' q _ _ _ _ _ _ _ _) (fun k hk e=>hq' (by rw[←e];exact Or.inr hk)) hr,by rw[(zan w' q v0 v1 v2 v3 v4 v5 v6 v7).block v (zz h.at'.blk) (Ne.symm hqv)];exact h.at'.blk,zca h.at'.map ((zan w' q v0 v1 v2 v3 v4 v5 v6 v7).block bm h.at'.mlt (fun e=>hq' (Or.inl e.symm))),h.at'.foot⟩
 only:=h.only.trans (zan w' q v0 v1 v2 v3 v4 v5 v6 v7) (fun i e=>Or.inr (by subst e;exact hq))
 foot:=h.foot
theorem zgT(r:Rq)(tg:Int)(ht:r.tags.getD 0 0=tg)(w:World)(hr:r.At w)(h1:1≤r.tags.length):Calls Tryz.prog 97 #[r.val] w fun e w'=>e=.returned (.int .i64 tg)∧Below w.heap.size w w':=by
 rw[←ht];exact zpH r w hr h1
theorem zfi{b:Nat}{d d':Dl}{a a':An}{w w':World}{o:Obj}(hs:zY b d a d' a' (w.alloc o) w')(hl:∀k,a.foot b k→k<w.heap.size):¬a'.foot b w.heap.size:=by
 intro e
 rcases hs.foot _ e with e|e
 ·have:=hl _ e;omega
 ·rw[World.size_alloc] at e;omega
theorem zi9{ops:Array Oper}{o:Oper}{a:Act}{w:World}{K:Act→World→Prop}{Q:Exit→Act→World→Prop}{E:Prop}(hg:o.guard=none)(x y:Operand)(ho:o.op=.store 120 x y)
  (q:Nat) (r:Rq) (xa:Option Addr) (n xc:Nat) (er:Int) (hx:a.eval x=.pointer (some ⟨q,0,none⟩)) (hy:a.eval y=zaI r xa n xc er) (ht:w.there q 0 8)
  (h:K (a.put o.dst undef) (zfk w q (.bool r.wr) (.int .i64 r.f) (.int .i64 r.m) (.slice r.da r.data.length r.dc) (.slice r.ta r.tags.length r.tc) (.int .i64 r.born) (.slice xa n xc) (.int .i64 er))) :
  if Region.wanted o (yielded ops a.tmps)=true then Oper.wp Tryz.prog o a w K Q else E:=by
 have hw:Region.wanted o (yielded ops a.tmps)=true:=by simp[Region.wanted,hg]
 rw[if_pos hw];exact wp_store_mid 120 x y ho q 0 _ hx hy ht (by kernel_rfl) (by simp[Value.oneCell']) h
def zcr(D:DataW Unit)(f:Int→Int):Prop:=∀t,D.atKey (.int .i64 t) (.lit (.int .i64 0))=.lit (.int .i64 (f t))
theorem zjn:zcr (.map []) (fun _=>0):=fun _=>rfl
theorem zcr.put{D:DataW Unit}{f:Int→Int}(h:zcr D f)(hD:IsMap D)(t c:Int):zcr (D.put (.int .i64 t) (.lit (.int .i64 c))) (fun x=>if x=t then c else f x):=fun x=>by
 by_cases e:x=t
 ·subst e;rw[atKey_put_same hD (by trivial)];simp
 ·rw[atKey_put_other (by simpa using e)];simp[e,h x]
theorem zcr.del{D:DataW Unit}{f:Int→Int}(h:zcr D f)(t:Int):zcr (D.del (.int .i64 t)) (fun x=>if x=t then 0 else f x):=fun x=>by
 by_cases e:x=t
 ·subst e;rw[atKey_del_same];simp
 ·rw[atKey_del_other (by simpa using e)];simp[e,h x]
theorem zii(b:Nat)(d:Dl)(a:An)(l:List Rq)(k:Nat)(r:Rq)(hb:d.busy=l)(hk:l[k]?=some r)(w:World)(h:zM b d a w) :
  Calls Tryz.prog 96 #[.pointer (some ⟨b,0,none⟩),.int .i64 k,.bool true] w fun e w'=>∃a',e=.returned (.tuple #[zaI r none 0 0 8,.nilIface])∧zY b d a { d with busy:=d.busy.eraseIdx k } a' w w':=by
 subst hb;obtain⟨hk',rfl⟩:=List.getElem?_eq_some_iff.1 hk;exact zqc b d a k hk' w h
theorem zsx(v b bm:Nat)(d:Dl)(a:An)(n:Nat)(D:DataW Unit)(i:Int)(fl:Bool)(w:World)(h:VAt v b bm d a n D w)(hi:i<0∨(d.busy.length:Int)≤i) :
  Calls Tryz.prog 62 #[.pointer (some ⟨v,0,none⟩),.int .i64 i,.bool fl] w fun e w'=>e=.returned (.tuple #[zcM,.bool false,.iface 88 (.int .i64 5)])∧Below w.heap.size w w':=by
 obtain⟨c0,c1⟩:=h.cells;have HV:=za h;have hv:=zz h.blk;have hm:=h.mlt;have hbv:=h.dev.lt;have hb0:=za (zn w (.cells #[.bool false,.int .i64 0,.int .i64 0,.slice none 0 0,.slice none 0 0,.int .i64 0,.slice none 0 0,.int .i64 0] 120));clear h;have HI:=za hi;clear hi;go_enter Tryz.func62,Tryz.ntmps62;go_wp2_with fail;refine(zqo b d a i fl _ (HV.out.dev.later hb0.out) HI.out).mono ?_;rintro e w1 ⟨rfl,hb1⟩;have hz1:=(zaE w 120).only (F:=fun _=>False) (zo.of_below hb1) (fun e=>e);have hB1:=hb0.out.trans (hb1.mono hb0.out.size);have HZ1:=za hz1;have HB1:=za hB1;clear hb1 hB1 hz1;go_wp2_with(first
  |(refine zP rfl (.tmp 6) (.tmp 18) rfl w.heap.size rq0 none 0 0 0 rfl rfl (zT HZ1.out) (fun wK=>Below w.heap.size w wK∧zal wK w.heap.size rq0 none 0 0 0) ⟨HB1.out.trans ((zan w1 w.heap.size _ _ _ _ _ _ _ _).below HB1.out.size (fun i e=>by omega)),zaT (zT HZ1.out) HZ1.out.2.2⟩ ?_;rintro w2 ⟨hb2,hr2⟩;have HB2:=za hb2;have HR2:=za hr2;clear hb2 hr2 HB1 HZ1)
  |(refine zP rfl (.tmp 6) (.tmp 22) rfl w.heap.size rq0 none 0 0 0 rfl rfl HR2.out.2.1 (fun wK=>Below w.heap.size w wK∧zal wK w.heap.size rq0 none 0 0 0) ⟨HB2.out.trans ((zan w2 w.heap.size _ _ _ _ _ _ _ _).below HB2.out.size (fun i e=>by omega)),zaT HR2.out.2.1 HR2.out.2.2⟩ ?_;rintro w3 ⟨hb3,⟨z0,z1,z2,z3,z4,z5,z6,z7⟩,-,-⟩;have HB3:=za hb3;clear hb3 HB2 HR2))
 exact bodyPost_ret (v:=.tuple #[zcM,.bool false,.iface 88 (.int .i64 5)]) (by simp[results,Tryz.results62,go_sem,z0,z1,z2,z3,z4,z5,z6,z7,rq0]) rfl ⟨rfl,HB3.out⟩
structure zi4(bm:Nat)(d:Dl)(k:Nat)(r:Rq)(tg:Int):Prop where
 at':d.busy[k]?=some r
 tag:r.tags.getD 0 0=tg
 in':zaj tg
 some':1≤r.tags.length
 off:∀q∈d.busy,q.Off (fun j=>j=bm)
theorem zi4.mem{bm:Nat}{d:Dl}{k:Nat}{r:Rq}{tg:Int}(h:zi4 bm d k r tg):r∈d.busy:=List.mem_of_getElem? h.at'
theorem znj(v b bm:Nat)(d:Dl)(a:An)(n:Nat)(D:DataW Unit)(k:Nat)(r:Rq)(tg c:Int)(w:World)(h:VAt v b bm d a n D w)(hr:zi4 bm d k r tg)(hc:D.atKey (.int .i64 tg) (.lit (.int .i64 0))=.lit (.int .i64 c))(hc2:2≤c∧c≤100) :
  Calls Tryz.prog 62 #[.pointer (some ⟨v,0,none⟩),.int .i64 k,.bool true] w fun e w'=>∃a',e=.returned (.tuple #[zaI r none 0 0 8,.bool true,.nilIface])∧zbn v b bm d a n D { d with busy:=d.busy.eraseIdx k } a' n (D.del (.int .i64 tg)) w w':=by
 have HA0:=za (h.dev.reqs r hr.mem).1;have HMEM:=za hr.mem;have HRQ:=za hr;have HC:=za hc;have hkey:keyOf Tryz.prog 3 (.int .i64 tg)=some (.int .i64 tg):=keyOf_int_mk Tryz.underlying3 (WalkArith.wf_i64 hr.in');have h1:=hr.some';have hc3:¬c+1<3:=by omega
 obtain⟨hc4,hc5⟩:=hc2;clear hc hr;obtain⟨c0,c1⟩:=h.cells;have HV:=za h;have hv:=zz h.blk;have hm:=h.mlt;have hbv:=h.dev.lt;have hb0:=za (zn w (.cells #[.bool false,.int .i64 0,.int .i64 0,.slice none 0 0,.slice none 0 0,.int .i64 0,.slice none 0 0,.int .i64 0] 120));clear h;go_enter Tryz.func62,Tryz.ntmps62;go_wp2_with fail;refine(zii b d a _ k r rfl HRQ.out.at' _ (HV.out.dev.later hb0.out)).mono ?_;rintro e w1 ⟨a1,rfl,hs1⟩;have hs1n:¬a1.foot b w.heap.size:=zfi hs1 HV.out.dev.footLt;obtain⟨d1,hd1⟩:∃d1:Dl,d1={ d with busy:=d.busy.eraseIdx k }:=⟨_,rfl⟩
 have HD1:=za hd1;rw[←hd1] at hs1;have HO1:Hid (∀q∈d1.busy,q.Off (fun j=>j=w.heap.size)):=fun q hq=>by rw[HD1.out] at hq;exact zcd (HV.out.dev.reqs q (List.mem_of_mem_eraseIdx hq)).1 (fun j e=>by omega)
 have HOQ:=HO1;have HOB:Hid (∀q∈d1.busy,q.Off (fun j=>j=bm)):=fun q hq=>by rw[HD1.out] at hq;exact HRQ.out.off q (List.mem_of_mem_eraseIdx hq)
 have HNF:Hid (¬zbx b bm a1 w.heap.size):=fun e=>e.elim (fun e=>by omega) hs1n
 clear hd1;have HS1:=za (HV.out.step ((zY.same HV.out.dev hb0.out).trans hs1));have HZ1:=za ((zaE w 120).only hs1.only (fun e=>by have:=HV.out.dev.footLt _ e;omega));have HN1:Hid (¬zbx b bm a1 w.heap.size):=(fun e=>e.elim (fun e=>by omega) (fun e=>(HS1.out.foot _ (Or.inr e)).elim (fun e=>e.elim (fun e=>by omega) (fun e=>by have:=HV.out.dev.footLt _ e;omega)) (fun _=>hs1n e)));have HA1:=za ((HA0.out.later hb0.out).frame (HV.out.dev.reqs r (HMEM.out)).2 hs1.only);clear hs1 hs1n;go_wp2_with(refine zP rfl (.tmp 6) (.tmp 18) rfl w.heap.size r none 0 0 8 rfl rfl (zT HZ1.out) (fun wK=>zbn v b bm d a n D d1 a1 n D w wK∧zal wK w.heap.size r none 0 0 8∧r.At wK) ⟨zg7 HS1.out w.heap.size (Nat.le_refl _) HN1.out (by omega) HO1.out _ _ _ _ _ _ _ _,zaT (zT HZ1.out) HZ1.out.2.2,HA1.out.frame (zcd HA0.out (fun k e=>by omega)) (zan w1 w.heap.size _ _ _ _ _ _ _ _)⟩ ?_;rintro wK ⟨hsK,hrK,haK⟩;have HSK:=za hsK;have HRK:=za hrK;have HAK:=za haK;obtain⟨⟨y0,y1,y2,y3,y4,y5,y6,y7⟩,-,yl⟩:=hrK;clear hsK haK HS1 HN1 HO1 HZ1 HA1);refine(zgT r tg HRQ.out.tag _ HAK.out h1).mono ?_;rintro e w2 ⟨rfl,hb2⟩;have HS2:=za (HSK.out.later hb2);have HR2:=za (HRK.out.later hb2);have HA2:=za (HAK.out.later hb2);clear HSK HRK HAK hb2 y0 y1 y2 y3 y4 y5 y6 y7 yl;obtain⟨⟨x0,x1,x2,x3,x4,x5,x6,x7⟩,-,xl⟩:=id HR2.out;obtain⟨p0,p1⟩:=HS2.out.at'.cells;have hmp:=HS2.out.at'.map;have hvl:=zz HS2.out.at'.blk;obtain⟨c',hrun,hat,-⟩:=hmp.lookup_int zdU Tryz.underlying65 Tryz.underlying3 (zg4 _) hkey;obtain rfl:c'=c:=by rw[HC.out] at hat;injection hat with e;injection e with _ e;exact e.symm
 have HAT:=za hat;clear hat;go_wp2_with(first|(at_delete;refine wpList_delete_own _ rfl _ _ 65 3 rfl 3 zdU Tryz.underlying65 _ bm n D rfl hmp _ _ rfl hkey ?_;intro w3 hown3 hturn3;have HS3:=za (HS2.out.trans (HS2.out.at'.turn (zaq hturn3.grown) hown3 HOB.out));have HR3:=za (HR2.out.only (zaq hturn3.grown) (by omega));obtain⟨⟨m0,m1,m2,m3,m4,m5,m6,m7⟩,-,ml⟩:=id HR3.out;have HN3:Hid (¬zbx b bm a1 w.heap.size):=HNF.out;clear hown3 hturn3 hmp HS2 HR2 HA2 x0 x1 x2 x3 x4 x5 x6 x7 xl p0 p1 hvl)|(refine zP rfl (.tmp 6) (.tmp 60) rfl w.heap.size r none 0 0 8 rfl rfl HR3.out.2.1 (fun wK=>zbn v b bm d a n D d1 a1 n (D.del (.int .i64 tg)) w wK∧zal wK w.heap.size r none 0 0 8) ⟨zg7 HS3.out w.heap.size (Nat.le_refl _) HN3.out (by omega) HOQ.out _ _ _ _ _ _ _ _,zaT HR3.out.2.1 HR3.out.2.2⟩ ?_;rintro w4 ⟨hs4,⟨k0,k1,k2,k3,k4,k5,k6,k7⟩,-,-⟩;have HS4:=za hs4;clear hs4 HS3 HR3 HN3 m0 m1 m2 m3 m4 m5 m6 m7 ml));refine bodyPost_ret (v:=.tuple #[zaI r none 0 0 8,.bool true,.nilIface]) (by simp[results,Tryz.results62,go_sem,k0,k1,k2,k3,k4,k5,k6,k7]) rfl ⟨a1,rfl,?_⟩;rw[←HD1.out];exact HS4.out
theorem vg_ok(v b bm:Nat)(d:Dl)(a:An)(n:Nat)(D:DataW Unit)(k:Nat)(r:Rq)(tg:Int)(w:World)(h:VAt v b bm d a n D w)(hr:zi4 bm d k r tg)(gr:zA r) :
  Calls Tryz.prog 62 #[.pointer (some ⟨v,0,none⟩),.int .i64 k,.bool false] w fun e w'=>∃a' xa xc xs,e=.returned (.tuple #[zaI r xa (List.length xs) xc 0,.bool true,.nilIface])∧Hid (xs=zX d r)∧zU w' xa xs∧(∀ad,xa=some ad→w.heap.size≤ad.block∧¬zbx b bm a' ad.block)∧zbn v b bm d a n D (({ d with busy:=d.busy.eraseIdx k }:Dl).did r) a' n (D.del (.int .i64 tg)) w w':=by
 have HA0:=za (h.dev.reqs r hr.mem).1;have HMEM:=za hr.mem;have HRQ:=za hr;have HG:=za gr;have hkey:keyOf Tryz.prog 3 (.int .i64 tg)=some (.int .i64 tg):=keyOf_int_mk Tryz.underlying3 (WalkArith.wf_i64 hr.in');have h1:=hr.some';clear gr hr;obtain⟨c0,c1⟩:=h.cells;have HV:=za h;have hv:=zz h.blk;have hm:=h.mlt;have hbv:=h.dev.lt;have hb0:=za (zn w (.cells #[.bool false,.int .i64 0,.int .i64 0,.slice none 0 0,.slice none 0 0,.int .i64 0,.slice none 0 0,.int .i64 0] 120));clear h;go_enter Tryz.func62,Tryz.ntmps62;go_wp2_with fail;refine(end_at b d a _ k r rfl HRQ.out.at' _ (HV.out.dev.later hb0.out) HG.out).mono ?_;rintro e w1 ⟨a1,xa,xc,xs,rfl,hxs,hst,hnew,hs1⟩;have hs1n:¬a1.foot b w.heap.size:=zfi hs1 HV.out.dev.footLt;obtain⟨d1,hd1⟩:∃d1:Dl,d1=(({ d with busy:=d.busy.eraseIdx k }:Dl).did r):=⟨_,rfl⟩
 have HD1:=za hd1;rw[←hd1] at hs1;have HBY:Hid (∀q∈d1.busy,q∈d.busy):=fun q hq=>by rw[HD1.out,Dl.did_busy] at hq;exact List.mem_of_mem_eraseIdx hq
 have HO1:Hid (∀q∈d1.busy,q.Off (fun j=>j=w.heap.size)):=fun q hq=>zcd (HV.out.dev.reqs q (HBY.out q hq)).1 (fun j e=>by omega)
 have HOQ:=HO1;have HOB:Hid (∀q∈d1.busy,q.Off (fun j=>j=bm)):=fun q hq=>HRQ.out.off q (HBY.out q hq)
 have HNF:Hid (¬zbx b bm a1 w.heap.size):=fun e=>e.elim (fun e=>by omega) hs1n
 have hxn:∀ad,xa=some ad→ad.block ≠ w.heap.size∧ad.block ≠ bm:=fun ad e=>by have:=(hnew ad e).1;rw[World.size_alloc] at this;omega
 have HXN:=za hxn;have HNW:Hid (∀ad,xa=some ad→w.heap.size≤ad.block∧¬zbx b bm a1 ad.block):=fun ad e=>⟨by have:=(hnew ad e).1;rw[World.size_alloc] at this;omega,fun hk=>hk.elim (hxn ad e).2 (hnew ad e).2⟩
 have HX1:=za hst;have HXS:=hxs;clear hd1 hxn hst hnew hxs;have HS1:=za (HV.out.step ((zY.same HV.out.dev hb0.out).trans hs1));have HZ1:=za ((zaE w 120).only hs1.only (fun e=>by have:=HV.out.dev.footLt _ e;omega));have HN1:Hid (¬zbx b bm a1 w.heap.size):=(fun e=>e.elim (fun e=>by omega) (fun e=>(HS1.out.foot _ (Or.inr e)).elim (fun e=>e.elim (fun e=>by omega) (fun e=>by have:=HV.out.dev.footLt _ e;omega)) (fun _=>hs1n e)));have HA1:=za ((HA0.out.later hb0.out).frame (HV.out.dev.reqs r (HMEM.out)).2 hs1.only);clear hs1 hs1n;generalize hxl:xs.length=xm at *;go_wp2_with(refine zP rfl (.tmp 6) (.tmp 18) rfl w.heap.size r xa xm xc 0 rfl rfl (zT HZ1.out) (fun wK=>zbn v b bm d a n D d1 a1 n D w wK∧zal wK w.heap.size r xa xm xc 0∧r.At wK∧zU wK xa xs) ⟨zg7 HS1.out w.heap.size (Nat.le_refl _) HN1.out (by omega) HO1.out _ _ _ _ _ _ _ _,zaT (zT HZ1.out) HZ1.out.2.2,HA1.out.frame (zcd HA0.out (fun k e=>by omega)) (zan w1 w.heap.size _ _ _ _ _ _ _ _),za2 HX1.out (zan w1 w.heap.size _ _ _ _ _ _ _ _) (fun _ ad e=>(HXN.out ad e).1)⟩ ?_;rintro wK ⟨hsK,hrK,haK,hxK⟩;have HXK:=za hxK;clear hxK;have HSK:=za hsK;have HRK:=za hrK;have HAK:=za haK;obtain⟨⟨y0,y1,y2,y3,y4,y5,y6,y7⟩,-,yl⟩:=hrK;clear hsK haK HS1 HN1 HO1 HZ1 HA1);refine(zgT r tg HRQ.out.tag _ HAK.out h1).mono ?_;rintro e w2 ⟨rfl,hb2⟩;have HX2:=za (HXK.out.later hb2);have HS2:=za (HSK.out.later hb2);have HR2:=za (HRK.out.later hb2);have HA2:=za (HAK.out.later hb2);clear HSK HRK HAK hb2 y0 y1 y2 y3 y4 y5 y6 y7 yl;obtain⟨⟨x0,x1,x2,x3,x4,x5,x6,x7⟩,-,xl⟩:=id HR2.out;obtain⟨p0,p1⟩:=HS2.out.at'.cells;have hmp:=HS2.out.at'.map;have hvl:=zz HS2.out.at'.blk;go_wp2_with(first|(at_delete;refine wpList_delete_own _ rfl _ _ 65 3 rfl 3 zdU Tryz.underlying65 _ bm n D rfl hmp _ _ rfl hkey ?_;intro w3 hown3 hturn3;have HX3:=za (za2 HX2.out (zaq hturn3.grown) (fun _ ad e=>(HXN.out ad e).2));have HS3:=za (HS2.out.trans (HS2.out.at'.turn (zaq hturn3.grown) hown3 HOB.out));have HR3:=za (HR2.out.only (zaq hturn3.grown) (by omega));obtain⟨⟨m0,m1,m2,m3,m4,m5,m6,m7⟩,-,ml⟩:=id HR3.out;have HN3:Hid (¬zbx b bm a1 w.heap.size):=HNF.out;clear hown3 hturn3 hmp HS2 HR2 HA2 x0 x1 x2 x3 x4 x5 x6 x7 xl p0 p1 hvl)|(refine zP rfl (.tmp 6) (.tmp 60) rfl w.heap.size r xa xm xc 0 rfl rfl HR3.out.2.1 (fun wK=>zbn v b bm d a n D d1 a1 n (D.del (.int .i64 tg)) w wK∧zal wK w.heap.size r xa xm xc 0∧zU wK xa xs) ⟨zg7 HS3.out w.heap.size (Nat.le_refl _) HN3.out (by omega) HOQ.out _ _ _ _ _ _ _ _,zaT HR3.out.2.1 HR3.out.2.2,za2 HX3.out (zan _ w.heap.size _ _ _ _ _ _ _ _) (fun _ ad e=>(HXN.out ad e).1)⟩ ?_;rintro w4 ⟨hs4,⟨⟨k0,k1,k2,k3,k4,k5,k6,k7⟩,-,-⟩,hx4⟩;have HX4:=za hx4;clear hx4;have HS4:=za hs4;clear hs4 HS3 HR3 HN3 m0 m1 m2 m3 m4 m5 m6 m7 ml));refine bodyPost_ret (v:=.tuple #[zaI r xa xm xc 0,.bool true,.nilIface]) (by simp[results,Tryz.results62,go_sem,k0,k1,k2,k3,k4,k5,k6,k7]) rfl ⟨a1,xa,xc,xs,by rw[hxl],HXS,HX4.out,HNW.out,?_⟩;rw[←HD1.out];exact HS4.out
theorem zqE(v b bm:Nat)(d:Dl)(a:An)(n:Nat)(D:DataW Unit)(k:Nat)(r:Rq)(tg c:Int)(w:World)(h:VAt v b bm d a n D w)(hr:zi4 bm d k r tg)(hc:D.atKey (.int .i64 tg) (.lit (.int .i64 0))=.lit (.int .i64 c))(hc2:0≤c∧c<2)(hn:n≤1000000000) :
  Calls Tryz.prog 62 #[.pointer (some ⟨v,0,none⟩),.int .i64 k,.bool true] w fun e w'=>∃a',e=.returned (.tuple #[zcM,.bool false,.nilIface])∧zbn v b bm d a n D { d with busy:=d.busy.eraseIdx k++[r] } a' (n+1) (D.put (.int .i64 tg) (.lit (.int .i64 (c+1)))) w w':=by
 have HA0:=za (h.dev.reqs r hr.mem).1;have HMEM:=za hr.mem;have HRQ:=za hr;have HC:=za hc;have hkey:keyOf Tryz.prog 3 (.int .i64 tg)=some (.int .i64 tg):=keyOf_int_mk Tryz.underlying3 (WalkArith.wf_i64 hr.in');have h1:=hr.some';have hc3:c+1<3:=by omega
 obtain⟨hc4,hc5⟩:=hc2;have HOR:=za (hr.off r hr.mem);have HLE:Hid ((d.busy.eraseIdx k).length<2):=by
  show _<_;have h2:=h.dev.blen;have h3:=(List.getElem?_eq_some_iff.1 hr.at').1;rw[List.length_eraseIdx,if_pos h3];omega
 clear hc hr;obtain⟨c0,c1⟩:=h.cells;have HV:=za h;have hv:=zz h.blk;have hm:=h.mlt;have hbv:=h.dev.lt;have hb0:=za (zn w (.cells #[.bool false,.int .i64 0,.int .i64 0,.slice none 0 0,.slice none 0 0,.int .i64 0,.slice none 0 0,.int .i64 0] 120));clear h;go_enter Tryz.func62,Tryz.ntmps62;go_wp2_with fail;refine(zii b d a _ k r rfl HRQ.out.at' _ (HV.out.dev.later hb0.out)).mono ?_;rintro e w1 ⟨a1,rfl,hs1⟩;have hs1n:¬a1.foot b w.heap.size:=zfi hs1 HV.out.dev.footLt;obtain⟨d1,hd1⟩:∃d1:Dl,d1={ d with busy:=d.busy.eraseIdx k }:=⟨_,rfl⟩
 have HD1:=za hd1;rw[←hd1] at hs1;have HBY:Hid (∀q∈d1.busy,q∈d.busy):=fun q hq=>by rw[HD1.out] at hq;exact List.mem_of_mem_eraseIdx hq
 have HL1:Hid (d1.busy.length<2):=by show _<_;rw[HD1.out];exact HLE.out
 have HO1:Hid (∀q∈d1.busy,q.Off (fun j=>j=w.heap.size)):=fun q hq=>zcd (HV.out.dev.reqs q (HBY.out q hq)).1 (fun j e=>by omega)
 have HOQ:=HO1;have HOB:Hid (∀q∈d1.busy,q.Off (fun j=>j=bm)):=fun q hq=>HRQ.out.off q (HBY.out q hq)
 clear hd1;have HNF:Hid (¬zbx b bm a1 w.heap.size):=fun e=>e.elim (fun e=>by omega) hs1n
 have HOF:Hid (r.Off (a1.foot b)):=⟨fun he ad ha hk=>(hs1.foot _ hk).elim ((HV.out.dev.reqs r (HMEM.out)).2.1 he ad ha) (fun h'=>by have:=zfC HA0.out.data he ha;rw[World.size_alloc] at h';omega),fun he ad ha hk=>(hs1.foot _ hk).elim ((HV.out.dev.reqs r (HMEM.out)).2.2 he ad ha) (fun h'=>by have:=zdp HA0.out.tags he ha;rw[World.size_alloc] at h';omega)⟩
 have HS1:=za (HV.out.step ((zY.same HV.out.dev hb0.out).trans hs1));have HZ1:=za ((zaE w 120).only hs1.only (fun e=>by have:=HV.out.dev.footLt _ e;omega));have HN1:Hid (¬zbx b bm a1 w.heap.size):=(fun e=>e.elim (fun e=>by omega) (fun e=>(HS1.out.foot _ (Or.inr e)).elim (fun e=>e.elim (fun e=>by omega) (fun e=>by have:=HV.out.dev.footLt _ e;omega)) (fun _=>hs1n e)));have HA1:=za ((HA0.out.later hb0.out).frame (HV.out.dev.reqs r (HMEM.out)).2 hs1.only);clear hs1 hs1n;go_wp2_with(refine zP rfl (.tmp 6) (.tmp 18) rfl w.heap.size r none 0 0 8 rfl rfl (zT HZ1.out) (fun wK=>zbn v b bm d a n D d1 a1 n D w wK∧zal wK w.heap.size r none 0 0 8∧r.At wK) ⟨zg7 HS1.out w.heap.size (Nat.le_refl _) HN1.out (by omega) HO1.out _ _ _ _ _ _ _ _,zaT (zT HZ1.out) HZ1.out.2.2,HA1.out.frame (zcd HA0.out (fun k e=>by omega)) (zan w1 w.heap.size _ _ _ _ _ _ _ _)⟩ ?_;rintro wK ⟨hsK,hrK,haK⟩;have HSK:=za hsK;have HRK:=za hrK;have HAK:=za haK;obtain⟨⟨y0,y1,y2,y3,y4,y5,y6,y7⟩,-,yl⟩:=hrK;clear hsK haK HS1 HN1 HO1 HZ1 HA1);refine(zgT r tg HRQ.out.tag _ HAK.out h1).mono ?_;rintro e w2 ⟨rfl,hb2⟩;have HS2:=za (HSK.out.later hb2);have HR2:=za (HRK.out.later hb2);have HA2:=za (HAK.out.later hb2);clear HSK HRK HAK hb2 y0 y1 y2 y3 y4 y5 y6 y7 yl;obtain⟨⟨x0,x1,x2,x3,x4,x5,x6,x7⟩,-,xl⟩:=id HR2.out;obtain⟨p0,p1⟩:=HS2.out.at'.cells;have hmp:=HS2.out.at'.map;have hvl:=zz HS2.out.at'.blk;obtain⟨c',hrun,hat,-⟩:=hmp.lookup_int zdU Tryz.underlying65 Tryz.underlying3 (zg4 _) hkey;obtain rfl:c'=c:=by rw[HC.out] at hat;injection hat with e;injection e with _ e;exact e.symm
 have HAT:=za hat;clear hat;go_wp2_with(at_mapUpdate;refine wpList_mapUpdate_own _ rfl _ _ _ 65 rfl 3 3 zdU Tryz.underlying65 _ bm n D rfl hmp (by unfold maxLen;omega) _ _ _ rfl rfl hkey _ [] (plainElem_int Tryz.underlying3 (WalkArith.wf_i64 (by omega))) ?_;intro w3 hown3 hgrow3;have HS3:=za (HS2.out.trans (HS2.out.at'.turn (zaq hgrow3) hown3 HOB.out));have HR3:=za (HR2.out.only (zaq hgrow3) (by omega));have HA3:=za (HA2.out.frame HOR.out (zaq hgrow3));clear hown3 hgrow3 hmp HS2 HR2 HA2 x0 x1 x2 x3 x4 x5 x6 x7 xl p0 p1 hvl);have hd3:Below w3.heap.size w3 w3.drew:=(Below.refl _ _).drew;have HS3d:=za (HS3.out.later hd3);have HR3d:=za (HR3.out.later hd3);have HA3d:=za (HA3.out.later hd3);have HS:Hid (w3.drew.cell? ⟨v,0,none⟩=some (.pointer (some ⟨b,0,none⟩))):=HS3d.out.at'.cells.1;have eg:∀args w,Sem.run Tryz.prog (callFunc 93 args) w=.ok (.enter 93 args) w:=by intro args w;go_simp
 clear HS3 HR3 HA3 hd3
 (try simp only[Act.put,dP])
 refine zaJ (S:=fun wz=>wz.cell? ⟨v,0,none⟩=some (.pointer (some ⟨b,0,none⟩))) (d:=10) (by kernel_rfl) ?_;generalize w3.drew=w3 at *;refine tk 0 ?_ rfl (Or.inl ⟨by rfl,?_⟩) HS.out ?_;rotate_left;(focus(intro w0 s6;go_simp;(try with_reducible rfl)));(try simp only[Act.put,dP])
 refine tk 1 ?_ rfl (Or.inl ⟨by rfl,?_⟩) HS.out ?_;rotate_left;(focus(intro w0 s6;go_simp;(try with_reducible rfl)));(try simp only[Act.put,dP])
 refine tk 2 ?_ rfl (Or.inl ⟨by rfl,?_⟩) HS.out ?_;rotate_left;(focus(intro w0 s6;go_simp;(try with_reducible rfl)));(try simp only[Act.put,dP])
 refine tk 3 ?_ rfl (Or.inl ⟨by rfl,?_⟩) HS.out ?_;rotate_left;(focus(intro w0 s6;go_simp;(try with_reducible rfl)));(try simp only[Act.put,dP])
 refine tk 4 ?_ rfl (Or.inl ⟨by rfl,?_⟩) HS.out ?_;rotate_left;(focus(intro w0 s6;go_simp;(try with_reducible rfl)));(try simp only[Act.put,dP])
 refine tk 5 ?_ rfl (Or.inl ⟨by rfl,?_⟩) HS.out ?_;rotate_left;(focus(intro w0 s6;go_simp;(try with_reducible rfl)));(try simp only[Act.put,dP])
 obtain⟨⟨x0,x1,x2,x3,x4,x5,x6,x7⟩,-,xl⟩:=id HR3d.out;refine zw (i:=6) rfl (by kernel_rfl) ?_;intro K hK;go_simp;refine hK _ _ (fun _=>HS.out) ?_
 (try simp only[Act.put,dP])
 clear hK;refine zw (i:=7) rfl (by kernel_rfl) ?_;intro K hK;refine zdN rfl 93 51 53 27 111 rfl eg (.pointer (some ⟨b,0,none⟩)) r.val rfl rfl .nilIface (fun w'=>∃a',zY b d1 a1 { d1 with busy:=d1.busy++[r] } a' w3 w') ((zlk b d1 a1 r _ HS3d.out.at'.dev HL1.out HA3d.out HOF.out).mono (fun e w' ⟨a',he,hs⟩=>⟨he,a',hs⟩)) ?_;rintro w4 ⟨a4,hs4⟩;have hq4:¬zbx b bm a4 w.heap.size:=by
  rintro(e|e)
  ·omega
  ·rcases hs4.foot _ e with e|e
   ·exact HNF.out (Or.inr e)
   ·omega
 have HS4:=za (HS3d.out.trans (HS3d.out.at'.step hs4));have HR4:=za (HR3d.out.only hs4.only (fun e=>HNF.out (Or.inr e)));have HQ4:=za hq4;refine hK _ _ (fun _=>HS4.out.at'.cells.1) ?_
 (try simp only[Act.put,dP])
 clear hK hs4 hq4 x0 x1 x2 x3 x4 x5 x6 x7 xl HS3d HR3d HA3d HS;refine zw (i:=8) rfl (by kernel_rfl) ?_;intro K hK;refine zi9 rfl (.tmp 6) (.tmp 47) rfl w.heap.size rq0 none 0 0 0 rfl rfl HR4.out.2.1 ?_;have HS5:=za (zg7 HS4.out w.heap.size (Nat.le_refl _) HQ4.out (by omega) (fun q hq=>by rcases List.mem_append.1 hq with hq'|hq';exact HOQ.out q hq';(rw[List.mem_singleton.1 hq'];exact zcd HA0.out (fun k e=>by omega))) (.bool rq0.wr) (.int .i64 rq0.f) (.int .i64 rq0.m) (.slice rq0.da rq0.data.length rq0.dc) (.slice rq0.ta rq0.tags.length rq0.tc) (.int .i64 rq0.born) (.slice none 0 0) (.int .i64 0));have HR5:=za (zaT (r:=rq0) (xa:=none) (n:=0) (xc:=0) (er:=0) HR4.out.2.1 HR4.out.2.2);refine hK _ _ (fun _=>HS5.out.at'.cells.1) ?_
 (try simp only[Act.put,dP])
 clear hK;generalize zfk w4 w.heap.size (.bool rq0.wr) (.int .i64 rq0.f) (.int .i64 rq0.m) (.slice rq0.da rq0.data.length rq0.dc) (.slice rq0.ta rq0.tags.length rq0.tc) (.int .i64 rq0.born) (.slice none 0 0) (.int .i64 0)=w5 at *;clear HS4 HR4 HQ4;refine zw (i:=9) rfl (by kernel_rfl) ?_;intro K hK;go_simp;refine hK _ _ (fun _=>HS5.out.at'.cells.1) ?_;(try simp only[Act.put,dP]);clear hK;refine zw (i:=10) rfl (by kernel_rfl) ?_;intro K hK;go_simp;refine hK _ _ (fun _=>HS5.out.at'.cells.1) ?_;(try simp only[Act.put,dP]);clear hK;refine zaO (by kernel_rfl) ?_ _;obtain⟨⟨k0,k1,k2,k3,k4,k5,k6,k7⟩,-,-⟩:=id HR5.out;go_wp2;exact bodyPost_ret (v:=.tuple #[zcM,.bool false,.nilIface]) (by simp[results,Tryz.results62,go_sem,k0,k1,k2,k3,k4,k5,k6,k7,rq0]) rfl ⟨a4,rfl,by have:=HS5.out;rw[HD1.out] at this;exact this⟩
theorem zkD(v b bm:Nat)(d:Dl)(a:An)(n:Nat)(D:DataW Unit)(t:Bool)(w:World)(h:VAt v b bm d a n D w)(ht:decide (d.busy.length<2)=t):Calls Tryz.prog 55 #[.pointer (some ⟨v,0,none⟩)] w fun e w'=>e=.returned (.bool t)∧Below w.heap.size w w':=by
 cases t with
 |true=>exact zrl v b bm d a n D w h (of_decide_eq_true ht)
 |false =>
  obtain⟨c0,c1⟩:=h.cells;have HV:=za h;have h2:=of_decide_eq_false ht;have h2':¬(d.busy.length:Int)<2:=by omega
  clear h c1 ht h2;go_enter Tryz.func55,Tryz.ntmps55;go_wp2_with fail;refine(zga b d a _ HV.out.dev).mono ?_;rintro e w1 ⟨xa,xc,rfl,-,-,hb⟩;go_wp2;go_ret;exact⟨zad (decide_eq_false (by omega)),hb⟩
theorem VAt.frame{F:Nat→Prop}{v b bm:Nat}{d:Dl}{a:An}{n:Nat}{D:DataW Unit}{w w':World}(h:VAt v b bm d a n D w)(hk:zo F w w')(hF:∀k,zbx b bm a k→¬F k)(hv:¬F v)(hr:∀r∈d.busy,r.Off F):VAt v b bm d a n D w' :=
 ⟨h.dev.frame hk (fun k e=>hF k (Or.inr e)) hr,by rw[hk.block v (zz h.blk) hv];exact h.blk,zca h.map (hk.block bm h.mlt (hF bm (Or.inl rfl))),h.foot⟩
theorem VAt.footLt{v b bm:Nat}{d:Dl}{a:An}{n:Nat}{D:DataW Unit}{w:World}(h:VAt v b bm d a n D w)(k:Nat)(hk:zbx b bm a k):k<w.heap.size:=hk.elim (fun e=>by rw[e];exact h.mlt) (h.dev.footLt k)
end Go.Proofs.YtlhgjplipgandaaGreat
namespace Go.Proofs.YtlhgjplipgandaaGreat
open Go.RowKit Go.BigFrame
attribute [local go_sem] ze.cell ze.frozen
theorem zrU(o r:Rq)(w:World)(go:zA o)(gr:zA r)(ho:o.At w)(hr:r.At w)(h:za8 o r=true) :
  Calls Tryz.prog 122 #[o.val,r.val] w fun e w'=>∃q:Rq,e=.returned (.tuple #[q.val,.bool true])∧zew o r q∧q.At w'∧zc8 q w.heap.size∧Below w.heap.size w w':=by
 cases h1:zaU o r
 ·have h2:zaU r o=true:=by simpa [za8,h1] using h
  exact(merge_trueN' r o w gr go hr ho h2).mono fun e w' ⟨q,he,hq,ha,hf,hb⟩=>⟨q,he,Or.inr ⟨h1,h2,hq⟩,ha,hf,hb⟩
 ·exact(zl8 o r w go gr ho hr h1).mono fun e w' ⟨q,he,hq,ha,hf,hb⟩=>⟨q,he,Or.inl ⟨h1,hq⟩,ha,hf,hb⟩
def zgS(base:Nat)(l:List Rq)(r:Rq)(L:List Rq):Prop :=
 (∃(k:Nat) (hk:k<l.length) (q:Rq),(∀j (hj:j<l.length),j<k→za8 l[j] r=false)∧za8 l[k] r=true∧zew l[k] r q∧zc8 q base∧L=l.set k q) ∨
 ((∀j (hj:j<l.length),za8 l[j] r=false)∧l.length<6∧L=l++[r])
def zsm(base:Nat)(l:List Rq)(r:Rq)(w':World)(e:Ending):Prop :=
 (∃(L:List Rq) (a':Option Addr) (c':Nat),zgS base l r L∧e=.returned (.tuple #[.slice a' L.length c',.nilIface])∧zs w' a' L∧L.length≤c'∧(a'=none→c'=0)∧∀p,a'=some p→base≤p.block) ∨
 ((∀j (hj:j<l.length),za8 l[j] r=false)∧6≤l.length∧e=.returned (.tuple #[.slice none 0 0,.iface 88 (.int .i64 7)]))
theorem zm2(l:List Rq)(a:Option Addr)(c:Nat)(r:Rq)(w:World)(hl:zs w a l)(hn:a=none→c=0)(hr:r.At w)(h10:l.length≤1000)(gr:zA r)(gl:∀i (h:i<l.length),zA l[i])(hm:l.any (zbb r)=false) :
  Calls Tryz.prog 87 #[.slice a l.length c,r.val] w fun e w'=>zsm w.heap.size l r w' e∧Below w.heap.size w w':=by
 obtain⟨i,hi,hz0,hz1,hz2⟩:=zaL zdX;have HI:=zaa (⟨hi,hz0,hz1,hz2⟩:Tryz.prog.info? 111=some i∧_∧_∧_);clear hi hz0 hz1 hz2;have HGL:=zaa gl;clear gl;go_enter Tryz.func87,Tryz.ntmps87;go_wp2_with fail;refine(zhn r _ (hr.later (zn _ _)) ((zhA r).2 gr)).mono ?_;rintro e w1 ⟨rfl,hb⟩;have S:=(zcs w 111 r).later hb;have HS:=zaa S;go_wp2_with fail;refine(zef 120 (by intro args w;go_simp) (.pointer (some ⟨w.heap.size,0,none⟩)) (zbb r) l a c _ (hl.later (by(with_reducible repeat first|exact Below.refl _ _|refine zc ?_ _|refine zd ?_|refine bset' ?_ (by omega) _|refine zb ?_ (by assumption)))) (fun x w' _ hb'=>zjy x r w.heap.size w' (cell_later' hb' HS.out.2.1) (cell_later' hb' HS.out.2.2.1)) false hm).mono ?_;rintro e w2 ⟨rfl,hb2⟩;have S2:Six w2 w.heap.size r:=S.later hb2;have HB2:Below w.heap.size w w2:=by(with_reducible repeat first|exact Below.refl _ _|refine zc ?_ _|refine zd ?_|refine bset' ?_ (by omega) _|refine zb ?_ (by assumption))
 have hl2:=hl.later HB2;have hlen:=hl.2.2;clear S HS hb hb2 hm;go_wp2_with fail
 go_loopw[25] (fun iv wr=>∃n:Nat,n≤l.length∧iv=.int .i64 n∧(∀j (hj:j<l.length),j<n→za8 l[j] r=false)∧Below w2.heap.size w2 wr) (fun iv _=>l.length-(intOf iv).toNat)
 case atStart=>exact⟨0,by omega,rfl,fun j hj h=>absurd h (Nat.not_lt_zero _),Below.refl _ _⟩
 case round =>
  obtain⟨n,hnl,rfl,hno,HB⟩:=hrel;have HN:=zaa hno;clear hno;have S3:=S2.later HB;have hl3:=hl2.later HB;have HB3:=zb HB2 HB;have HR:=zaa HB;clear HB S2;obtain⟨s0,s1,s2,s3,s4,s5⟩:=id S3;have ls:=zg s0
  by_cases hlt:n<l.length
  ·have h0:l ≠ []:=by rintro rfl;exact absurd hlt (Nat.not_lt_zero _)
   have H0:=zaa h0;obtain⟨b,o,rfl⟩:=hl3.form.resolve_left h0;clear h0;obtain⟨c0,c1,c2,c3,c4,c5⟩:=hl3.cells hlt;have lc:=zg c0
   cases ht:za8 l[n] r
   ·go_wp2_with fail;refine(mergeN l[n] r _ (HGL.out n hlt) gr ht).mono ?_;rintro e w4 ⟨rfl,hb4⟩;go_wp2;go_roundw
    case rel=>exact⟨n+1,by omega,by go_num,fun j hj h=>by by_cases e:j=n;(subst e;exact ht);exact HN.out j hj (by omega),zb HR.out (by(with_reducible repeat first|exact Below.refl _ _|refine zc ?_ _|refine zd ?_|refine bset' ?_ (by omega) _|refine zb ?_ (by assumption)))⟩
    case measure=>simp[intOf];omega
   ·go_wp2_with fail;refine(zrU l[n] r _ (HGL.out n hlt) gr (Rq.At.of hl hlt (by(with_reducible repeat first|exact Below.refl _ _|refine zc ?_ _|refine zd ?_|refine bset' ?_ (by omega) _|refine zb ?_ (by assumption)))) (hr.later (by(with_reducible repeat first|exact Below.refl _ _|refine zc ?_ _|refine zd ?_|refine bset' ?_ (by omega) _|refine zb ?_ (by assumption)))) ht).mono ?_;rintro e w4 ⟨q,rfl,hq,hqa,hqf,hb4⟩;have HB4:Below w.heap.size w w4:=by(with_reducible repeat first|exact Below.refl _ _|refine zc ?_ _|refine zd ?_|refine bset' ?_ (by omega) _|refine zb ?_ (by assumption))
    have HQ:=zaa hq;have hw4s:w.heap.size≤wr.heap.size:=HB3.size;have HQF:Hid (zc8 q w.heap.size):=⟨fun b o e=>by have:=hqf.1 b o e;rw[World.size_alloc] at this;omega,fun b o e=>by have:=hqf.2 b o e;rw[World.size_alloc] at this;omega⟩
    clear hqf hw4s;clear hq hb4 c0 c1 c2 c3 c4 c5 lc s0 s1 s2 s3 s4 s5 ls S3 hl3;go_wp2_with fail;refine(zh9 l _ c _ (hl.later (by(with_reducible repeat first|exact Below.refl _ _|refine zc ?_ _|refine zd ?_|refine bset' ?_ (by omega) _|refine zb ?_ (by assumption)))) hn (by omega)).mono ?_;rintro e w5 ⟨a5,c5,rfl,hN,hb5⟩;obtain⟨b5,rfl,hbb,hlt5,hfz⟩:=hN.place H0.out;rw[World.size_alloc] at hbb;have Sq:Six w5 w4.heap.size q:=(zcs w4 111 q).later hb5;obtain⟨s0,s1,s2,s3,s4,s5⟩:=id Sq;have ls:=zg s0;obtain⟨d0,d1,d2,d3,d4,d5⟩:=hN.here.cells hlt;rw[Nat.zero_add] at d0 d1 d2 d3 d4 d5;have f0:=hfz (n*6);have f1:=hfz (n*6+1);have f2:=hfz (n*6+2);have f3:=hfz (n*6+3);have f4:=hfz (n*6+4);have f5:=hfz (n*6+5);have nb:b5 ≠ w4.heap.size:=by omega
    have hcap:=hN.cap;have HH:=zaa hN.here;have hB5:Below w4.heap.size w4 w5:=by(with_reducible repeat first|exact Below.refl _ _|refine zc ?_ _|refine zd ?_|refine bset' ?_ (by omega) _|refine zb ?_ (by assumption))
    clear hb5 hfz Sq hN;have hz4:=HB4.size;go_wp2
    go_ret2
    refine⟨Or.inl ⟨l.set n q,_,c5,Or.inl ⟨n,hlt,q,HN.out,ht,HQ.out,HQF.out,rfl⟩,(by show Ending.returned (.tuple #[.slice (some ⟨b5,0,none⟩) l.length c5,.nilIface])=_;rw[List.length_set]),HH.out.put hlt (fun r' hr'=>(hl.2.1 r' hr').later ?_) (hqa.later ?_) rfl,by rw[List.length_set];exact hcap,by simp,fun p e=>by simp only[Option.some.injEq] at e;subst e;simp only;omega⟩,?_⟩
    all_goals (with_reducible repeat first|exact Below.refl _ _|refine zc ?_ _|refine zd ?_|refine bset' ?_ (by omega) _|refine zb ?_ (by assumption))
  ·have hnn:n=l.length:=by omega
   subst hnn
   by_cases h6:6≤l.length
   ·go_wp2
    go_ret2
    exact⟨Or.inr ⟨fun j hj=>HN.out j hj hj,h6,rfl⟩,by(with_reducible repeat first|exact Below.refl _ _|refine zc ?_ _|refine zd ?_|refine bset' ?_ (by omega) _|refine zb ?_ (by assumption))⟩
   ·go_wp2_with fail;obtain⟨hi,hz0,hz1,hz2⟩:=HI.out
    go_region_held3 (fun w'=>w'.cell? ⟨w.heap.size,0,none⟩=some (.bool r.wr)∧w'.cell? ⟨w.heap.size,1,none⟩=some (.int .i64 r.f)∧w'.cell? ⟨w.heap.size,2,none⟩=some (.int .i64 r.m)∧w'.cell? ⟨w.heap.size,3,none⟩=some (.slice r.da r.data.length r.dc)∧w'.cell? ⟨w.heap.size,4,none⟩=some (.slice r.ta r.tags.length r.tc)∧w'.cell? ⟨w.heap.size,5,none⟩=some (.int .i64 r.born)) (exact(show Six _ _ r by first|((repeat(first|with_reducible exact S3|with_reducible refine Six.drew ?_|with_reducible refine Six.alloc ?_ _|with_reducible refine Six.later ?_ (by assumption)|with_reducible refine Six.set ?_ (by omega) _));done)|(refine Six.belowB ?_ (by assumption) ls;(repeat(first|with_reducible exact S3|with_reducible refine Six.drew ?_|with_reducible refine Six.alloc ?_ _|with_reducible refine Six.later ?_ (by assumption)|with_reducible refine Six.set ?_ (by omega) _));done))) (first|(go_at_call 71;refine(zh9 l a c _ (hl.later (by(with_reducible repeat first|exact Below.refl _ _|refine zc ?_ _|refine zd ?_|refine bset' ?_ (by omega) _|refine zb ?_ (by assumption)))) hn (by omega)).mono ?_;rintro e w4 ⟨a4,c4,rfl,hN,hb4⟩)|(refine zaD (by rfl) (.tmp 50) (.tmp 52) 34 (by rfl) wr.heap.size 111 i _ 6 80 Tryz.underlying34 hi hz0 hz1 hz2 rfl (by decide) (.slice a4 l.length c4) l.length (zt l) (by simp[Act.eval,Act.put]) (ownsRow_le' (zcc hN.own (by(with_reducible repeat first|exact Below.refl _ _|refine zc ?_ _|refine zd ?_|refine bset' ?_ (by omega) _|refine zb ?_ (by assumption)))) (by simp)) _ 1 1 (zt [r]) (by simp[Act.eval,Act.put];rfl) (by first|(refine zhB r ?_;simp[Six];done)|(refine zhB r (Six.later ?_ hb4);simp[Six];done)) (by unfold maxLen;omega) (by omega) (by have:=hb4.size;simp at this ⊢;omega) ?_;intro v5 w5 hown5 hb5))
    all_goals
     rw[←zaM] at hown5;have HB5:Below w.heap.size w w5:=by have hq5:Below wr.heap.size wr w5:=Below.trans (by(with_reducible repeat first|exact Below.refl _ _|refine zc ?_ _|refine zd ?_|refine bset' ?_ (by omega) _|refine zb ?_ (by assumption))) hb5;exact zb HB3 hq5
     obtain⟨a5,c5,rfl,hN5⟩:=zb3 hown5 (fun r' hr'=>by rcases List.mem_append.1 hr' with h|h;exact(hl.2.1 r' h).later HB5;(rw[List.mem_singleton.1 h];exact hr.later HB5)) (by simp) (by simp;omega);have HN5:=zaa hN5;have HNB:Hid (∀p,a5=some p→w.heap.size≤p.block):=fun p e=>by have:=(hN5.own.lt p.block (by rw[e];rfl)).1;have:=HB3.size;omega
     clear hown5 hN5 hN hi hz0 hz1 hz2;go_wp2
     go_ret2
     exact⟨Or.inl ⟨l++[r],a5,c5,Or.inr ⟨fun j hj=>HN.out j hj hj,by omega,rfl⟩,rfl,HN5.out.here,HN5.out.cap,HN5.out.nil,fun p e=>HNB.out p e⟩,HB5⟩
end Go.Proofs.YtlhgjplipgandaaGreat
