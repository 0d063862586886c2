/- Joined texts: Pure0, Pure1, Pure2. -/
import Derived.Test.YtlhgjplipgandaaGreatDoorD15
import Derived.Test.YtlhgjplipgandaaGreatDoorD3
import Derived.Test.YtlhgjplipgandaaGreatDoorD35
import Derived.Test.YtlhgjplipgandaaGreatDoorD27
set_option maxRecDepth 100000
set_option maxHeartbeats 8000000
set_option linter.unusedSimpArgs false
namespace Go.Proofs.YtlhgjplipgandaaGreatDoor
open Go.RowKit
def Rq.nf(r:Rq):Rq:={ r with da:=none,dc:=0,ta:=none,tc:=0 }
structure Cl where
 kind:Int
 pl:Int
 data:ByteArray
 left:List Int
 got:ByteArray
 err:Int
def cl0:Cl:=⟨0,0,ByteArray.empty,[],ByteArray.empty,0⟩
structure Sk where
 dev:Dl
 f:Int→Int
 cl:List Cl
 hand:List Bf
 queue:List Rq
 turn:Tn
 moment:Int
 tags:Int
 uses:Int
 dead:Bool
 ag:Nat
def Dl.nf(d:Dl):Dl:={ d with busy:=d.busy.map Rq.nf }
def Sk.nf(s:Sk):Sk:={ s with dev:=s.dev.nf,queue:=s.queue.map Rq.nf }
def Sk.client(p:Sk)(i:Nat):Cl:=p.cl.getD i cl0
def Sk.held(p:Sk)(pl:Int):Bool:=(p.queue++p.dev.busy).any fun r=>zau r.f r.m pl
def zat(l:List Bf)(pl:Int):Option Bf:=l.find? (plB pl)
def zE(l:List Bf):Nat:=(l.filter fun x=>x.dirty).length
def zS(l:List Bf)(pl:Int):Bool:=match zat l pl with|some x=>x.dirty|none=>false
def zcj(l:List Bf)(x:Bf)(H:Int→Bool):Option (List Bf) :=
 if 0≤zZ (plB x.pl) l then some (l.set (zZ (plB x.pl) l).toNat x)
 else if l.length<8 then some (zci l x)
 else if 0≤zac (zaO false H) l l.length then some (zci (l.eraseIdx (zac (zaO false H) l l.length).toNat) x)
 else none
def zgZ(a b:Rq):Rq:=⟨a.wr,a.f,a.m+b.m,none,0,a.data++b.data,none,0,a.tags++b.tags,min a.born b.born⟩
def zd4(o r:Rq):Rq:=if zaK o r=true then zgZ o r else zgZ r o
def zco(l:List Rq)(r:Rq):Option (List Rq) :=
 if l.any (zbi r)=true then none else match l.findIdx? (fun o=>zbr o r) with
  |some k=>some (l.set k (zd4 (l.getD k r) r))
  |none=>if l.length<6 then some (l++[r]) else none
def Sk.reqOf(p:Sk)(pl:Int)(wr:Bool)(data:List ByteArray):Rq:=⟨wr,pl,1,none,0,data,none,0,[p.tags+1],p.moment⟩
def Sk.askQ(p:Sk)(pl:Int)(wr:Bool)(data:List ByteArray):Bool × Sk:=match zco p.queue (p.reqOf pl wr data) with
 |some l=>(true,{ p with queue:=l,tags:=p.tags+1 })
 |none=>(false,p)
def Sk.answer(p:Sk)(i:Nat)(s:ByteArray)(e:Int):Sk:={ p with cl:=p.cl.set i ⟨0,0,ByteArray.empty,[],s,e⟩ }
def Sk.serveRead(p:Sk)(i:Nat):Sk:=match zat p.hand (p.client i).pl with
 |some b=>({ p with uses:=p.uses+1,hand:=useL p.hand (p.client i).pl (p.uses+1) }:Sk).answer i b.data 0
 |none=>if p.held (p.client i).pl=true then p else(p.askQ (p.client i).pl false []).2
def Sk.serveWrite(p:Sk)(i:Nat):Sk :=
 if p.dead=true then p.answer i ByteArray.empty 9
 else if 6≤zE p.hand∧zS p.hand (p.client i).pl=false then p
 else match zcj p.hand ⟨(p.client i).pl,(p.client i).data,true,p.uses+1⟩ p.held with
  |some l=>({ p with uses:=p.uses+1,hand:=l }:Sk).answer i ByteArray.empty 0
  |none=>{ p with uses:=p.uses+1 }
def Sk.serveSync(p:Sk)(i:Nat):Sk :=
 if p.dead=true then p.answer i ByteArray.empty 9
 else if(p.client i).left.filter (zS p.hand)=[] then({ p with dev:=p.dev.flush }:Sk).answer i ByteArray.empty 0
 else { p with cl:=p.cl.set i { p.client i with left:=(p.client i).left.filter (zS p.hand) } }
def Sk.serve1(p:Sk)(i:Nat):Sk :=
 if(p.client i).kind=1 then p.serveRead i else if(p.client i).kind=2 then p.serveWrite i else if(p.client i).kind=3 then p.serveSync i else p
def Sk.serve(p:Sk):Sk:=((p.serve1 0).serve1 1).serve1 2
def Sk.waits(p:Sk)(c:Int):Bool:=decide (0≤c∧c<3)&&!((p.client c.toNat).kind==0)
def zY(c kind pl:Int)(data:ByteArray):Int :=
 if ¬(0≤c∧c<3)∨¬(1≤kind∧kind≤3) then 3
 else if pl<0∨32≤pl∨(kind=3∧¬pl=0) then 1
 else if 4<data.size∨(¬kind=2∧¬data.size=0) then 1
 else 0
def zah(l:List Bf):List Int:=(l.filter fun x=>x.dirty).map Bf.pl
def Sk.asks(p:Sk)(c:Nat)(kind pl:Int)(data:ByteArray):Sk :=
 { p with cl:=p.cl.set c { p.client c with kind:=kind,pl:=pl,data:=data,left:=if kind=3 then zah p.hand else(p.client c).left } }
def Sk.ask(p:Sk)(c kind pl:Int)(data:ByteArray):Int × Sk :=
 if ¬zY c kind pl data=0 then(zY c kind pl data,p)
 else if p.waits c=true then(6,p)
 else(0,(p.asks c.toNat kind pl data).serve)
def Sk.tick(p:Sk):Sk:=({ p with moment:=if p.moment+1<1000000000 then p.moment+1 else 1000000000 }:Sk).serve
def Sk.wantsClean(p:Sk):Bool:=p.cl.any fun c=>(c.kind==2)||(c.kind==3)
def zb4(l:List Bf)(H:Int→Bool):Int:=if 0≤zac (zaO true H) l l.length then(l.getD (zac (zaO true H) l l.length).toNat ⟨0,ByteArray.empty,false,0⟩).pl else -1
def Sk.clean(p:Sk):Bool × Sk :=
 if p.dead=true∨(zE p.hand<3∧p.wantsClean=false) then(false,p)
 else if zb4 p.hand p.held<0 then(false,p)
 else p.askQ (zb4 p.hand p.held) true [((zat p.hand (zb4 p.hand p.held)).getD ⟨0,ByteArray.empty,false,0⟩).data]
def zeX(l:List Rq)(i:Int):Int:=match l[i.toNat]? with|some r=>r.f+r.m|none=>0
def zev(l:List Rq)(i:Int):Int:=match l[i.toNat]? with|some r=>r.born|none=>0
def zdP(l:List Rq)(T:Tn)(now:Int):Int :=
 if zds T.w≤now-zev l (zaa T.w l) then zaa T.w l else if 0≤frI T.w T.p l then frI T.w T.p l else frI T.w 0 l
def zbs(l:List Rq)(t:Tn)(now:Int):Int × Tn :=
 if 0<t.g∧t.g<3∧0≤frI t.w t.p l then(frI t.w t.p l,⟨t.w,t.g+1,t.s,zeX l (frI t.w t.p l)⟩)
 else
  (zdP l (zaf (decide (0≤zaa false l)) (decide (0≤zaa true l)) t) now,⟨(zaf (decide (0≤zaa false l)) (decide (0≤zaa true l)) t).w,1,(zaf (decide (0≤zaa false l)) (decide (0≤zaa true l)) t).s,zeX l (zdP l (zaf (decide (0≤zaa false l)) (decide (0≤zaa true l)) t) now)⟩)
def Sk.dispatch(p:Sk):Bool × Sk :=
 if p.queue=[]∨2≤p.dev.busy.length then(false,p)
 else(true,{ p with dev:={ p.dev with busy:=p.dev.busy++(p.queue[(zbs p.queue p.turn p.moment).1.toNat]?).toList },queue:=p.queue.eraseIdx (zbs p.queue p.turn p.moment).1.toNat,turn:=(zbs p.queue p.turn p.moment).2 })
def Sk.readers(p:Sk)(F:Int→Bool)(s:ByteArray)(e:Int):Sk:={ p with cl:=p.cl.map fun c=>if c.kind=1∧F c.pl=true then⟨0,0,ByteArray.empty,[],s,e⟩ else c }
def Sk.wasRead(p:Sk)(pl:Int)(s:ByteArray):Sk :=
 match zat p.hand pl with
 |some _=>p
 |none=>match zcj p.hand ⟨pl,s,false,p.uses+1⟩ p.held with
  |some l=>({ p with hand:=l,uses:=p.uses+1 }:Sk).readers (fun x=>x==pl) s 0
  |none=>p.readers (fun x=>x==pl) s 0
def Sk.wentOne(r:Rq)(xs:List ByteArray)(p:Sk)(j:Nat):Sk :=
 if r.wr=true then { p with hand:=cleanL p.hand (r.f+j) (r.data.getD j ByteArray.empty) } else p.wasRead (r.f+j) (xs.getD j ByteArray.empty)
def Sk.wentTo(p:Sk)(r:Rq)(xs:List ByteArray)(n:Nat):Sk:=(List.range n).foldl (fun q j=>q.wentOne r xs j) p
def Sk.wentWell(p:Sk)(r:Rq)(xs:List ByteArray):Sk:=p.wentTo r xs r.m.toNat
def Sk.took(p:Sk)(k:Nat):Sk:={ p with dev:={ p.dev with busy:=p.dev.busy.eraseIdx k } }
def Sk.did(p:Sk)(r:Rq):Sk:={ p with dev:=p.dev.did r,f:=fun t=>if t=r.tags.getD 0 0 then 0 else p.f t }
def Sk.again(p:Sk)(r:Rq):Sk:={ p with dev:={ p.dev with busy:=p.dev.busy++[r] },f:=fun t=>if t=r.tags.getD 0 0 then p.f t+1 else p.f t,ag:=p.ag+1 }
def Sk.lost(p:Sk)(r:Rq):Sk:={ p with f:=fun t=>if t=r.tags.getD 0 0 then 0 else p.f t }
def Sk.end'(p:Sk)(i:Int)(fault:Bool):Int × Sk :=
 if i<0 then(5,p) else match p.dev.busy[i.toNat]? with
 |none=>(5,p)
 |some r =>
  if fault=false then(0,(((p.took i.toNat).did r).wentWell r (zaG p.dev r)).serve)
  else if p.f (r.tags.getD 0 0)<2 then(0,(p.took i.toNat).again r)
  else if r.wr=true then(0,({ (p.took i.toNat).lost r with dead:=true }:Sk).serve)
  else(0,(((p.took i.toNat).lost r).readers (fun x=>zau r.f r.m x) ByteArray.empty 8).serve)
def Sk.quiet(p:Sk):Bool:=(!(p.waits 0)&&(!(p.waits 1)&&!(p.waits 2)))&&(p.queue.isEmpty&&p.dev.busy.isEmpty)
def Sk.dispatches(p:Sk):Nat→Sk
 |0=>p
 |n+1=>if p.dispatch.1=true then p.dispatch.2.dispatches n else p
def Sk.round(p:Sk):Sk:=(p.tick.clean.2.dispatches 3).end' 0 false |>.2
def Sk.settle(p:Sk):Nat→Nat × Sk
 |0=>(0,p)
 |n+1=>if p.quiet=true then(0,p) else((p.round.settle n).1+1,(p.round.settle n).2)
def sk0:Sk:=⟨d0,fun _=>0,[cl0,cl0,cl0],[],[],⟨false,0,0,0⟩,0,0,0,false,0⟩
theorem zaV(l:List Bf)(pl:Int):(zat l pl=none∧zZ (plB pl) l=-1)∨∃(k:Nat) (hk:k<l.length),zat l pl=some l[k]∧zZ (plB pl) l=k∧l[k].pl=pl:=by
 rcases za8 (plB pl) l with⟨h1,h2⟩|⟨k,hk,h1,h2,h3⟩
 ·refine Or.inl ⟨?_,h1⟩;rw[zat,List.find?_eq_none];intro x hx;obtain⟨j,hj,rfl⟩:=List.getElem_of_mem hx;rw[h2 j hj];simp
 ·refine Or.inr ⟨k,hk,?_,h1,by simpa [plB] using h2⟩;rw[zat,List.find?_eq_some_iff_getElem];exact⟨h2,k,hk,rfl,fun j hj=>by rw[h3 j hj];rfl⟩
theorem zfr{l:List Bf}{pl:Int}{x:Bf}(h:zat l pl=some x):x∈l∧x.pl=pl:=by
 rcases zaV l pl with⟨h1,_⟩|⟨k,hk,h1,_,h3⟩
 ·rw[h1] at h;cases h
 ·rw[h1] at h;obtain rfl:=Option.some.inj h;exact⟨List.getElem_mem hk,h3⟩
theorem zmA{l:List Bf}{pl:Int}(h:zat l pl=none):∀x∈l,x.pl ≠ pl:=fun x hx e=>by
 rw[zat,List.find?_eq_none] at h;have:=h x hx
 simp[plB,e] at this
theorem zdR{l:List Bf}(hr:l.Pairwise ltB){x:Bf}(hx:x∈l):zat l x.pl=some x:=by
 obtain⟨j,hj,hi,e⟩:=at_mem hr hx
 rcases zaV l x.pl with⟨_,h2⟩|⟨k,hk,h1,h2,_⟩
 ·rw[h2] at hi;omega
 ·obtain rfl:k=j:=by omega
  rw[h1,e]
theorem zlQ{l:List Bf}{x:Bf}{H:Int→Bool}{m:List Bf}(h8:l.length≤8)(h:zcj l x H=some m):zeO l x H m:=by
 unfold zcj at h
 rcases zaV l x.pl with⟨_,h2⟩|⟨k,hk,_,h2,_⟩
 ·rw[h2,if_neg (by omega)] at h
  by_cases h3:l.length<8
  ·rw[if_pos h3] at h;exact Or.inr (Or.inl ⟨h2,h3,(Option.some.inj h).symm⟩)
  ·rw[if_neg h3] at h
   rcases zbF (zaO false H) l l.length (Nat.le_refl _) with⟨hr,_⟩|⟨k,hk,_,hr,_⟩
   ·rw[hr,if_neg (by omega)] at h;cases h
   ·rw[hr,if_pos (by omega)] at h;exact Or.inr (Or.inr ⟨h2,by omega,k,hk,hr,(Option.some.inj h).symm⟩)
 ·rw[h2,if_pos (by omega)] at h;exact Or.inl ⟨k,hk,h2,(Option.some.inj h).symm⟩
structure za9(l:List Bf):Prop where
 rise:l.Pairwise ltB
 len:l.length≤8
 in':∀x∈l,0≤x.pl∧x.pl≤31∧x.data.size≤4
theorem za9.goodB{l:List Bf}(h:za9 l):zcm l:=by
 refine⟨h.len,fun i hi=>?_,fun i hi=>?_⟩
 ·have:=h.in' _ (List.getElem_mem hi)
  omega
 ·exact List.pairwise_iff_getElem.1 h.rise i (i+1) (by omega) hi (by omega)
theorem za9.once{l:List Bf}(h:za9 l):zdZ l:=h.goodB.once
theorem zaJ(l:List Bf):zE l=l.countP (fun x=>x.dirty):=by rw[zE,List.countP_eq_length_filter]
theorem zgc(l:List Bf)(x:Bf):zE (zci l x)=zE l+if x.dirty=true then 1 else 0:=by
 have e:zE l=(l.take (zbo x.pl l)).countP (fun x=>x.dirty)+(l.drop (zbo x.pl l)).countP (fun x=>x.dirty):=by rw[zaJ,←List.countP_append,List.take_append_drop]
 rw[e,zaJ,zci,List.countP_append,List.countP_cons]
 omega
theorem zgL{l:List Bf}{k:Nat}(hk:k<l.length)(x:Bf):zE (l.set k x)+(if l[k].dirty=true then 1 else 0)=zE l+if x.dirty=true then 1 else 0:=by
 have e:zE l=(l.take k).countP (fun x=>x.dirty)+((l.drop (k+1)).countP (fun x=>x.dirty)+if l[k].dirty=true then 1 else 0):=by
  have:=List.countP_append (p:=fun x:Bf=>x.dirty) (l₁:=l.take k) (l₂:=l.drop k);rw[List.take_append_drop,List.drop_eq_getElem_cons hk,List.countP_cons] at this;rw[zaJ];exact this
 rw[e,zaJ,List.set_eq_take_append_cons_drop,if_pos hk,List.countP_append,List.countP_cons]
 omega
theorem zi0{l:List Bf}{k:Nat}(hk:k<l.length)(hd:l[k].dirty=false):zE (l.eraseIdx k)=zE l:=by
 have e:zE l=(l.take k).countP (fun x=>x.dirty)+((l.drop (k+1)).countP (fun x=>x.dirty)+if l[k].dirty=true then 1 else 0):=by
  have:=List.countP_append (p:=fun x:Bf=>x.dirty) (l₁:=l.take k) (l₂:=l.drop k);rw[List.take_append_drop,List.drop_eq_getElem_cons hk,List.countP_cons] at this;rw[zaJ];exact this
 rw[e,hd,zaJ,List.eraseIdx_eq_take_drop_succ,List.countP_append]
 simp
theorem zjU{l:List Bf}{pl:Int}:zS l pl=true↔∃x,zat l pl=some x∧x.dirty=true:=by
 unfold zS
 cases zat l pl with
 |none=>simp
 |some x=>simp
theorem zla{H:Int→Bool}{x:Bf}(h:zaO false H x=true):x.dirty=false∧H x.pl=false:=by
 simp only[zaO,Bool.and_eq_true,beq_iff_eq,Bool.not_eq_true'] at h;exact h
theorem zmy{H:Int→Bool}{x:Bf}:zaO true H x=true↔x.dirty=true∧H x.pl=false:=by
 simp only[zaO,Bool.and_eq_true,beq_iff_eq,Bool.not_eq_true']
structure Puts(l:List Bf)(x:Bf)(H:Int→Bool)(m:List Bf):Prop where
 ok:(0≤x.pl∧x.pl≤31∧x.data.size≤4)→za9 m
 same:zat m x.pl=some x
 other:∀pl,pl ≠ x.pl→zat m pl=zat l pl∨(zat m pl=none∧l.length=8∧∃y,zat l pl=some y∧y.dirty=false∧H pl=false)
 mem:∀y∈m,y=x∨y∈l
 dirty:zE m≤zE l+if x.dirty=true then 1 else 0
 dirty':zS l x.pl=true→zE m≤zE l
theorem zd7{l:List Bf}{x:Bf}{H:Int→Bool}{m:List Bf}(h:za9 l)(hp:zcj l x H=some m):Puts l x H m:=by
 have hM:=zlQ h.len hp;obtain⟨K,F⟩:=hM.facts h.goodB;have hmem:∀y∈m,y=x∨y∈l:=by
  intro y hy
  rcases hM with⟨k,hk,_,rfl⟩|⟨_,_,rfl⟩|⟨_,_,k,hk,_,rfl⟩
  ·rcases List.mem_or_eq_of_mem_set hy with h'|h'
   ·exact Or.inr h'
   ·exact Or.inl h'
  ·exact zb3.1 hy
  ·exact(zb3.1 hy).imp id List.mem_of_mem_eraseIdx
 have hsame:zat m x.pl=some x:=zdR F.rise F.has;refine⟨fun hx=>⟨F.rise,F.len,fun y hy=>?_⟩,hsame,fun pl hne=>?_,hmem,?_,?_⟩
 ·rcases hmem y hy with rfl|h'
  ·exact hx
  ·exact h.in' y h'
 ·cases hl:zat l pl with
  |none =>
   left
   cases hm:zat m pl with
   |none=>rfl
   |some y =>
    obtain⟨h1,h2⟩:=zfr hm
    rcases hmem y h1 with rfl|h'
    ·exact absurd h2.symm hne
    ·exact absurd h2 (zmA hl y h')
  |some y =>
   obtain⟨h1,h2⟩:=zfr hl;obtain⟨i,hi,rfl⟩:=List.getElem_of_mem h1
   by_cases e:i=K
   ·subst e;obtain⟨g1,g2,g3,g4,g5⟩:=F.gone hi
    right
    refine⟨?_,g1,l[i],rfl,g2,by rw[←h2];exact g3⟩;rw[h2] at g4
    rcases zaV m pl with⟨k1,_⟩|⟨k,hk,_,k2,_⟩
    ·exact k1
    ·omega
   ·left
    have:=zdR F.rise (F.kept i hi (by rw[h2];exact hne) e);rw[h2] at this;exact this
 ·rcases hM with⟨k,hk,_,rfl⟩|⟨_,_,rfl⟩|⟨_,_,k,hk,hr,rfl⟩
  ·have:=zgL hk x;omega
  ·rw[zgc];omega
  ·have hf:zaO false H l[k]=true:=by
    rcases zbF (zaO false H) l l.length (Nat.le_refl _) with⟨h1,_⟩|⟨k',hk',_,h1,h2,_⟩
    ·omega
    ·obtain rfl:k=k':=by omega
     exact h2
   rw[zgc,zi0 hk (zla hf).1];omega
 ·intro hd;obtain⟨y,hy,hyd⟩:=zjU.1 hd
  rcases hM with⟨k,hk,hi,rfl⟩|⟨hi,_,rfl⟩|⟨hi,_,k,hk,hr,rfl⟩
  ·rcases zaV l x.pl with⟨k1,_⟩|⟨k',hk',k1,k2,_⟩
   ·rw[k1] at hy;cases hy
   ·obtain rfl:k=k':=by omega
    rw[k1] at hy;obtain rfl:=Option.some.inj hy;have:=zgL hk x;rw[hyd] at this;simp only[if_true] at this
    split at this<;>omega
  ·rcases zaV l x.pl with⟨k1,_⟩|⟨k',hk',k1,k2,_⟩
   ·rw[k1] at hy;cases hy
   ·omega
  ·rcases zaV l x.pl with⟨k1,_⟩|⟨k',hk',k1,k2,_⟩
   ·rw[k1] at hy;cases hy
   ·omega
theorem zoj(l:List Bf)(g:Bf→Bf)(hg:∀x,(g x).pl=x.pl)(pl:Int):zat (l.map g) pl=(zat l pl).map g:=by
 unfold zat;rw[List.find?_map]
 congr 2
 funext x
 simp[plB,hg]
theorem za9.map{l:List Bf}(h:za9 l)(g:Bf→Bf)(hg:∀x,(g x).pl=x.pl∧(g x).data=x.data):za9 (l.map g):=by
 refine⟨?_,by rw[List.length_map];exact h.len,fun y hy=>?_⟩
 ·rw[List.pairwise_map];exact h.rise.imp (fun {a b} hab=>by simp only[ltB,(hg a).1,(hg b).1] at *;exact hab)
 ·obtain⟨x,hx,rfl⟩:=List.mem_map.1 hy;rw[(hg x).1,(hg x).2];exact h.in' x hx
theorem za9.useL{l:List Bf}(h:za9 l)(pl u:Int):za9 (useL l pl u):=h.map _ (fun x=>by split<;>exact⟨rfl,rfl⟩)
theorem za9.cleanL{l:List Bf}(h:za9 l)(pl:Int)(s:ByteArray):za9 (cleanL l pl s):=h.map _ (fun x=>by split<;>exact⟨rfl,rfl⟩)
theorem zi3(l:List Bf)(g:Bf→Bf)(hg:∀x,(g x).dirty=x.dirty):zE (l.map g)=zE l:=by
 rw[zaJ,zaJ,List.countP_map]
 congr 1
 funext x
 exact hg x
theorem zi4(l:List Bf)(g:Bf→Bf)(hg:∀x,(g x).dirty=true→x.dirty=true):zE (l.map g)≤zE l:=by
 rw[zaJ,zaJ,List.countP_map];exact List.countP_mono_left (fun x _ hx=>hg x hx)
theorem zk7(l:List Bf)(pl u:Int):zE (useL l pl u)=zE l:=zi3 l _ (fun x=>by split<;>rfl)
theorem zi2(l:List Bf)(pl:Int)(s:ByteArray):zE (cleanL l pl s)≤zE l:=zi4 l _ (fun x=>by split<;>simp)
def Rq.on(q:Rq)(a:Int):Prop:=q.f≤a∧a<q.f+q.m
def zcD(q:Rq)(a:Int):ByteArray:=q.data.getD (a-q.f).toNat ByteArray.empty
def zb8(x y:Rq):Prop:=∀a:Int,x.on a→y.on a→False
theorem zb8.symm{x y:Rq}(h:zb8 x y):zb8 y x:=fun a h1 h2=>h a h2 h1
theorem zgg{o r:Rq}(go:zv o)(gr:zv r):zbi r o=false↔zb8 o r:=by
 rw[zbi,zok _ _ _ _ (zm1 go.ok) (zm1 gr.ok),decide_eq_false_iff_not];have h1:=go.bds;have h2:=gr.bds
 constructor
 ·intro h a ⟨a1,a2⟩ ⟨a3,a4⟩;exact h ⟨by omega,by omega⟩
 ·intro h ⟨h3,h4⟩
  by_cases e:o.f≤r.f
  ·exact h r.f ⟨e,by omega⟩ ⟨by omega,by omega⟩
  ·exact h o.f ⟨by omega,by omega⟩ ⟨by omega,by omega⟩
theorem zmK{r:Rq}(gr:zv r)(a:Int)(ha:a≤9223372036854775807):zau r.f r.m a=true↔r.on a:=by
 rw[zey r.f r.m 4 a gr.ok ha]
 simp[zbh,Rq.on]
theorem zlr{o r:Rq}(h:zbr o r=true):zeM o r (zd4 o r):=by
 have hb:∀a b:Rq,zba a b (zgZ a b):=fun a b=>⟨rfl,rfl,rfl,rfl,rfl,rfl⟩
 unfold zd4
 by_cases h1:zaK o r=true
 ·rw[if_pos h1];exact Or.inl ⟨h1,hb o r⟩
 ·rw[if_neg h1];have h1':zaK o r=false:=by simpa using h1
  have h2:zaK r o=true:=by simpa [zbr,h1'] using h
  exact Or.inr ⟨h1',h2,hb r o⟩
theorem zls(o r:Rq):∀t∈(zd4 o r).tags,t∈o.tags∨t∈r.tags:=by
 unfold zd4;intro t ht
 split at ht
 ·exact List.mem_append.1 ht
 ·exact(List.mem_append.1 ht).symm
theorem on_in{q:Rq}{a:Int}:zbh q.f q.m a=true↔q.on a:=by simp[zbh,Rq.on]
theorem Joined.on{a b q:Rq}(h:Joined a b q)(x:Int):q.on x↔a.on x∨b.on x:=by
 rw[←on_in,←on_in,←on_in,h.has,Bool.or_eq_true]
theorem Joined.dataA{a b q:Rq}(ga:zv a)(h:Joined a b q){x:Int}(hx:a.on x):zcD q x=zcD a x:=by
 cases hw:q.wr with
 |true =>
  obtain⟨i,j,e1,e2,hi,hj,e⟩:=h.ina hw x (on_in.2 hx);unfold zcD;rw[e1,e2,Int.toNat_natCast,Int.toNat_natCast,List.getD_eq_getElem?_getD,List.getD_eq_getElem?_getD,List.getElem?_eq_getElem hi,List.getElem?_eq_getElem hj,Option.getD_some,Option.getD_some,e]
 |false =>
  have h1:=h.good.shapeR hw;have h2:=ga.shapeR (h.wra▸hw);unfold zcD;rw[h1,h2];rfl
theorem Joined.dataB{a b q:Rq}(gb:zv b)(h:Joined a b q){x:Int}(hx:b.on x):zcD q x=zcD b x:=h.swap.dataA gb hx
structure Adds(l:List Rq)(r:Rq)(L:List Rq):Prop where
 good:∀q∈L,zv q
 apart:L.Pairwise zb8
 len:L.length≤6∨L.length=l.length
 from':∀q∈L,∀a,q.on a→∃q'∈r::l,q'.on a∧q'.wr=q.wr∧zcD q' a=zcD q a
 to':∀q'∈r::l,∀a,q'.on a→∃q∈L,q.on a∧q.wr=q'.wr∧zcD q a=zcD q' a
 tags:∀q∈L,∀t∈q.tags,∃q'∈r::l,t∈q'.tags
 ne:L ≠ []
theorem zl9{l L:List Rq}{r:Rq}(gl:∀q∈l,zv q)(gr:zv r)(ha:l.Pairwise zb8)(h:zco l r=some L):Adds l r L:=by
 unfold zco at h
 by_cases hm:l.any (zbi r)=true
 ·rw[if_pos hm] at h;cases h
 rw[if_neg hm] at h;have hr:∀q∈l,zb8 q r:=fun q hq=>(zgg (gl q hq) gr).1 (by
  cases e:zbi r q with
  |false=>rfl
  |true=>exact absurd (List.any_eq_true.2 ⟨q,hq,e⟩) hm)
 have hp:=List.pairwise_iff_getElem.1 ha
 cases hf:l.findIdx? (fun o=>zbr o r) with
 |some k =>
  rw[hf] at h;obtain⟨hk,ht,_⟩:=List.findIdx?_eq_some_iff_getElem.1 hf;have eg:l.getD k r=l[k]:=by rw[List.getD_eq_getElem?_getD,List.getElem?_eq_getElem hk,Option.getD_some]
  simp only[eg] at h;obtain rfl:=Option.some.inj h;have J:=(zlr ht).joined (gl _ (List.getElem_mem hk)) gr;have gk:=gl _ (List.getElem_mem hk);generalize hq:zd4 l[k] r=Q at *;have hset:∀i (hi:i<(l.set k Q).length),(i=k∧(l.set k Q)[i]=Q)∨(i ≠ k∧∃hi':i<l.length,(l.set k Q)[i]=l[i]):=fun i hi=>by
   rw[List.length_set] at hi
   by_cases e:i=k
   ·subst e;exact Or.inl ⟨rfl,by simp⟩
   ·exact Or.inr ⟨e,hi,by rw[List.getElem_set_ne (fun h=>e h.symm)]⟩
  have hQm:Q∈l.set k Q:=List.mem_set hk Q;have hkeep:∀i (hi:i<l.length),i ≠ k→l[i]∈l.set k Q:=fun i hi e=>by
   have hi':i<(l.set k Q).length:=by rw[List.length_set];exact hi
   have:=List.getElem_mem hi';rw[List.getElem_set_ne (fun h=>e h.symm)] at this;exact this
  refine⟨fun q hq'=>?_,?_,Or.inr (by rw[List.length_set]),fun q hq' a ha'=>?_,fun q' hq' a ha'=>?_,fun q hq' t ht'=>?_,fun e=>by rw[e] at hQm;cases hQm⟩
  ·rcases List.mem_or_eq_of_mem_set hq' with h'|rfl
   ·exact gl q h'
   ·exact J.good
  ·rw[List.pairwise_iff_getElem];intro i j hi hj hij
   rcases hset i hi with⟨e1,e2⟩|⟨e1,hi',e2⟩<;>rcases hset j hj with⟨f1,f2⟩|⟨f1,hj',f2⟩
   ·omega
   ·rw[e2,f2];intro a h1 h2;subst e1
    rcases(J.on a).1 h1 with h3|h3
    ·exact hp i j hk hj' hij a h3 h2
    ·exact hr _ (List.getElem_mem hj') a h2 h3
   ·rw[e2,f2];intro a h1 h2;subst f1
    rcases(J.on a).1 h2 with h3|h3
    ·exact hp i j hi' hk hij a h1 h3
    ·exact hr _ (List.getElem_mem hi') a h1 h3
   ·rw[e2,f2];exact hp i j hi' hj' hij
  ·rcases List.mem_or_eq_of_mem_set hq' with h'|rfl
   ·exact⟨q,List.mem_cons_of_mem _ h',ha',rfl,rfl⟩
   ·rcases(J.on a).1 ha' with h1|h1
    ·exact⟨l[k],List.mem_cons_of_mem _ (List.getElem_mem hk),h1,J.wra.symm,(J.dataA gk h1).symm⟩
    ·exact⟨r,List.mem_cons_self,h1,J.wrb.symm,(J.dataB gr h1).symm⟩
  ·rcases List.mem_cons.1 hq' with rfl|h'
   ·exact⟨Q,hQm,(J.on a).2 (Or.inr ha'),J.wrb,J.dataB gr ha'⟩
   ·obtain⟨i,hi,rfl⟩:=List.getElem_of_mem h'
    by_cases e:i=k
    ·subst e;exact⟨Q,hQm,(J.on a).2 (Or.inl ha'),J.wra,J.dataA gk ha'⟩
    ·exact⟨l[i],hkeep i hi e,ha',rfl,rfl⟩
  ·rcases List.mem_or_eq_of_mem_set hq' with h'|rfl
   ·exact⟨q,List.mem_cons_of_mem _ h',ht'⟩
   ·rw[←hq] at ht'
    rcases zls _ _ t ht' with h1|h1
    ·exact⟨l[k],List.mem_cons_of_mem _ (List.getElem_mem hk),h1⟩
    ·exact⟨r,List.mem_cons_self,h1⟩
 |none =>
  rw[hf] at h;simp only at h
  by_cases h6:l.length<6
  ·rw[if_pos h6] at h;obtain rfl:=Option.some.inj h;refine⟨fun q hq=>?_,?_,Or.inl (by simp;omega),fun q hq a ha'=>?_,fun q' hq' a ha'=>?_,fun q hq t ht=>?_,by simp⟩
   ·rcases List.mem_append.1 hq with h'|h'
    ·exact gl q h'
    ·rw[List.mem_singleton.1 h'];exact gr
   ·rw[List.pairwise_append];exact⟨ha,List.pairwise_singleton _ _,fun a ha' b hb'=>by rw[List.mem_singleton.1 hb'];exact hr a ha'⟩
   ·refine⟨q,?_,ha',rfl,rfl⟩
    rcases List.mem_append.1 hq with h'|h'
    ·exact List.mem_cons_of_mem _ h'
    ·rw[List.mem_singleton.1 h'];exact List.mem_cons_self
   ·refine⟨q',?_,ha',rfl,rfl⟩
    rcases List.mem_cons.1 hq' with rfl|h'
    ·exact List.mem_append_right _ List.mem_cons_self
    ·exact List.mem_append_left _ h'
   ·refine⟨q,?_,ht⟩
    rcases List.mem_append.1 hq with h'|h'
    ·exact List.mem_cons_of_mem _ h'
    ·rw[List.mem_singleton.1 h'];exact List.mem_cons_self
  ·rw[if_neg h6] at h;cases h
structure zhs(c:Cl):Prop where
 kind:0≤c.kind∧c.kind≤3
 pl:¬c.kind=0→0≤c.pl∧c.pl≤31
 data:c.data.size≤4
 left:∀t∈c.left,0≤t∧t≤31
theorem zb5:ByteArray.empty.size=0:=rfl
theorem zja(s:ByteArray)(e:Int):zhs ⟨0,0,ByteArray.empty,[],s,e⟩:=⟨⟨Int.le_refl 0,by show(0:Int)≤3;omega⟩,fun h=>absurd rfl h,by show ByteArray.empty.size≤4;rw[zb5];omega,fun t ht=>by cases ht⟩
theorem zmh:zhs cl0:=zja _ _
structure Inv(p:Sk):Prop where
 cl3:p.cl.length=3
 cok:∀c∈p.cl,zhs c
 hand:za9 p.hand
 d6:zE p.hand≤6
 good:∀r∈p.queue++p.dev.busy,zv r
 apart:(p.queue++p.dev.busy).Pairwise zb8
 q6:p.queue.length≤6
 b2:p.dev.busy.length≤2
 mom:0≤p.moment∧p.moment≤1000000000
 tg:0≤p.tags
 us:0≤p.uses
 tin:∀r∈p.queue++p.dev.busy,∀t∈r.tags,1≤t∧t≤p.tags
 n32:p.dev.now.length=32
 g32:p.dev.good.length=32
 ts:0≤p.turn.s∧p.turn.s≤2
 fr:∀t,0≤p.f t∧p.f t≤2
section
variable{p:Sk}
theorem Inv.client(h:Inv p)(i:Nat):zhs (p.client i):=by
 unfold Sk.client;rw[List.getD_eq_getElem?_getD]
 cases e:p.cl[i]? with
 |none=>exact zmh
 |some c=>exact h.cok c (List.mem_of_getElem? e)
theorem Inv.setCl(h:Inv p)(i:Nat)(c:Cl)(hc:zhs c):Inv { p with cl:=p.cl.set i c } :=
 ⟨by show(p.cl.set i c).length=3;rw[List.length_set];exact h.cl3,fun x hx=>(List.mem_or_eq_of_mem_set hx).elim (h.cok x) (fun e=>e▸hc),h.hand,h.d6,h.good,h.apart,h.q6,h.b2,h.mom,h.tg,h.us,h.tin,h.n32,h.g32,h.ts,h.fr⟩
theorem Inv.answer(h:Inv p)(i:Nat)(s:ByteArray)(e:Int):Inv (p.answer i s e):=h.setCl i _ (zja s e)
theorem Inv.setHand(h:Inv p)(l:List Bf)(u:Int)(hl:za9 l)(hd:zE l≤6)(hu:0≤u):Inv { p with hand:=l,uses:=u } :=
 ⟨h.cl3,h.cok,hl,hd,h.good,h.apart,h.q6,h.b2,h.mom,h.tg,hu,h.tin,h.n32,h.g32,h.ts,h.fr⟩
theorem zi9(h:Inv p)(pl:Int)(hpl:pl≤31):p.held pl=false↔∀r∈p.queue++p.dev.busy,¬r.on pl:=by
 unfold Sk.held;rw[List.any_eq_false]
 constructor
 ·intro h1 r hr ho;exact h1 r hr ((zmK (h.good r hr) pl (by omega)).2 ho)
 ·intro h1 r hr ho;exact h1 r hr ((zmK (h.good r hr) pl (by omega)).1 ho)
theorem zfa(h:Inv p)(pl:Int)(hpl:0≤pl∧pl≤31)(wr:Bool)(data:List ByteArray)(hd:(wr=true∧data.length=1∧∀s∈data,s.size≤4)∨(wr=false∧data=[])):zv (p.reqOf pl wr data):=by
 refine⟨by show okB pl 1 4=true;simp only[okB,decide_eq_true_eq];omega,?_,by simp[Sk.reqOf],by simp[Sk.reqOf],h.mom.1,h.mom.2,?_⟩
 ·rcases hd with⟨rfl,h1,_⟩|⟨rfl,rfl⟩
  ·simp[Sk.reqOf,zcb,h1]
  ·simp[Sk.reqOf,zcb]
 ·rcases hd with⟨_,_,h2⟩|⟨_,rfl⟩
  ·simp only[Sk.reqOf,zcH,List.all_eq_true,decide_eq_true_eq];exact h2
  ·rfl
theorem zjt(pl:Int)(wr:Bool)(data:List ByteArray)(a:Int):(p.reqOf pl wr data).on a↔a=pl:=by
 simp only[Rq.on,Sk.reqOf];omega
theorem zdx(pl:Int)(wr:Bool)(data:List ByteArray):(zco p.queue (p.reqOf pl wr data)=none∧p.askQ pl wr data=(false,p))∨∃L,zco p.queue (p.reqOf pl wr data)=some L∧p.askQ pl wr data=(true,{ p with queue:=L,tags:=p.tags+1 }):=by
 unfold Sk.askQ
 cases e:zco p.queue (p.reqOf pl wr data) with
 |none=>exact Or.inl ⟨rfl,rfl⟩
 |some L=>exact Or.inr ⟨L,rfl,rfl⟩
theorem Inv.queue(h:Inv p):(∀q∈p.queue,zv q)∧p.queue.Pairwise zb8:=⟨fun q hq=>h.good q (List.mem_append_left _ hq),(List.pairwise_append.1 h.apart).1⟩
theorem Inv.adds(h:Inv p){pl:Int}(hpl:0≤pl∧pl≤31){wr:Bool}{data:List ByteArray}(hd:(wr=true∧data.length=1∧∀s∈data,s.size≤4)∨(wr=false∧data=[])){L:List Rq}(e:zco p.queue (p.reqOf pl wr data)=some L):Adds p.queue (p.reqOf pl wr data) L :=
 zl9 h.queue.1 (zfa h pl hpl wr data hd) h.queue.2 e
theorem Inv.askQ(h:Inv p)(pl:Int)(hpl:0≤pl∧pl≤31)(wr:Bool)(data:List ByteArray)(hd:(wr=true∧data.length=1∧∀s∈data,s.size≤4)∨(wr=false∧data=[]))(hh:p.held pl=false):Inv (p.askQ pl wr data).2:=by
 rcases zdx (p:=p) pl wr data with⟨_,e⟩|⟨L,e1,e⟩
 ·rw[e];exact h
 ·rw[e];have A:=h.adds hpl hd e1;have hno:=(zi9 h pl hpl.2).1 hh;have hap:=List.pairwise_append.1 h.apart;refine⟨h.cl3,h.cok,h.hand,h.d6,fun r hr=>?_,?_,?_,h.b2,h.mom,by show 0≤p.tags+1;have:=h.tg;omega,h.us,fun r hr t ht=>?_,h.n32,h.g32,h.ts,h.fr⟩
  ·rcases List.mem_append.1 hr with h'|h'
   ·exact A.good r h'
   ·exact h.good r (List.mem_append_right _ h')
  ·refine List.pairwise_append.2 ⟨A.apart,hap.2.1,fun q hq b hb a h1 h2=>?_⟩;obtain⟨q',hq',h3,_,_⟩:=A.from' q hq a h1
   rcases List.mem_cons.1 hq' with rfl|h4
   ·rw[zjt] at h3;subst h3;exact hno b (List.mem_append_right _ hb) h2
   ·exact hap.2.2 q' h4 b hb a h3 h2
  ·have:=h.q6;show L.length≤6
   rcases A.len with h'|h'<;>omega
  ·have htg:∀r∈p.queue++p.dev.busy,∀t∈r.tags,1≤t∧t≤p.tags+1:=fun r hr t ht=>by have:=h.tin r hr t ht;omega
   rcases List.mem_append.1 hr with h'|h'
   ·obtain⟨q',hq',ht'⟩:=A.tags r h' t ht
    rcases List.mem_cons.1 hq' with rfl|h4
    ·have:t=p.tags+1:=by simpa [Sk.reqOf] using ht'
     have:=h.tg;show 1≤t∧t≤p.tags+1
     omega
    ·exact htg q' (List.mem_append_left _ h4) t ht'
   ·exact htg r (List.mem_append_right _ h') t ht
theorem Inv.serveRead(h:Inv p)(i:Nat)(hk:(p.client i).kind=1):Inv (p.serveRead i):=by
 have hc:=h.client i;have hpl:=hc.pl (by rw[hk];omega);unfold Sk.serveRead
 cases e:zat p.hand (p.client i).pl with
 |some b=>exact(h.setHand _ _ (h.hand.useL _ _) (by rw[zk7];exact h.d6) (by have:=h.us;omega)).answer i _ _
 |none =>
  by_cases hh:p.held (p.client i).pl=true
  ·simp only[hh,if_true];exact h
  ·simp only[hh];exact h.askQ _ hpl _ _ (Or.inr ⟨rfl,rfl⟩) (by simpa using hh)
theorem Inv.serveWrite(h:Inv p)(i:Nat)(hk:(p.client i).kind=2):Inv (p.serveWrite i):=by
 have hc:=h.client i;have hpl:=hc.pl (by rw[hk];omega);have hu:0≤p.uses+1:=by have:=h.us;omega
 unfold Sk.serveWrite
 by_cases hd:p.dead=true
 ·rw[if_pos hd];exact h.answer i _ _
 rw[if_neg hd]
 by_cases h6:6≤zE p.hand∧zS p.hand (p.client i).pl=false
 ·rw[if_pos h6];exact h
 rw[if_neg h6]
 cases e:zcj p.hand ⟨(p.client i).pl,(p.client i).data,true,p.uses+1⟩ p.held with
 |none=>exact h.setHand p.hand _ h.hand h.d6 hu
 |some l =>
  have P:=zd7 h.hand e;refine(h.setHand l _ (P.ok ⟨hpl.1,hpl.2,hc.data⟩) ?_ hu).answer i _ _
  by_cases h7:zS p.hand (p.client i).pl=true
  ·have:=P.dirty' h7;have:=h.d6
   omega
  ·have:=P.dirty;simp only[if_true] at this;have:¬6≤zE p.hand:=fun h'=>h6 ⟨h',by simpa using h7⟩
   omega
theorem Inv.flushed(h:Inv p):Inv { p with dev:=p.dev.flush } :=
 ⟨h.cl3,h.cok,h.hand,h.d6,h.good,h.apart,h.q6,h.b2,h.mom,h.tg,h.us,h.tin,h.n32,h.n32,h.ts,h.fr⟩
theorem Inv.serveSync(h:Inv p)(i:Nat):Inv (p.serveSync i):=by
 have hc:=h.client i;unfold Sk.serveSync
 by_cases hd:p.dead=true
 ·rw[if_pos hd];exact h.answer i _ _
 rw[if_neg hd]
 split
 ·exact h.flushed.answer i _ _
 ·exact h.setCl i _ ⟨hc.kind,hc.pl,hc.data,fun t ht=>hc.left t ((List.mem_filter.1 ht).1)⟩
theorem Inv.serve1(h:Inv p)(i:Nat):Inv (p.serve1 i):=by
 unfold Sk.serve1
 split
 ·exact h.serveRead i (by assumption)
 ·split
  ·exact h.serveWrite i (by assumption)
  ·split
   ·exact h.serveSync i
   ·exact h
theorem Inv.serve(h:Inv p):Inv p.serve:=((h.serve1 0).serve1 1).serve1 2
theorem zi1(h:Inv p):∀t∈zah p.hand,0≤t∧t≤31:=fun t ht=>by
 unfold zah at ht;obtain⟨x,hx,rfl⟩:=List.mem_map.1 ht;have:=h.hand.in' x ((List.mem_filter.1 hx).1)
 omega
theorem zb9{c kind pl:Int}{data:ByteArray}(h:zY c kind pl data=0):(0≤c∧c<3)∧(1≤kind∧kind≤3)∧(0≤pl∧pl≤31)∧(kind=3→pl=0)∧data.size≤4∧(¬kind=2→data.size=0):=by
 unfold zY at h
 split at h
 ·omega
 ·split at h
  ·omega
  ·split at h
   ·omega
   ·omega
theorem Inv.asks(h:Inv p)(c:Nat)(kind pl:Int)(data:ByteArray)(hk:1≤kind∧kind≤3)(hpl:0≤pl∧pl≤31)(hd:data.size≤4):Inv (p.asks c kind pl data):=by
 refine h.setCl c _ ⟨⟨by show 0≤kind;omega,hk.2⟩,fun _=>hpl,hd,fun t ht=>?_⟩;have ht':t∈(if kind=3 then zah p.hand else(p.client c).left):=ht
 split at ht'
 ·exact zi1 h t ht'
 ·exact(h.client c).left t ht'
theorem Inv.ask(h:Inv p)(c kind pl:Int)(data:ByteArray):Inv (p.ask c kind pl data).2:=by
 unfold Sk.ask
 by_cases hf:zY c kind pl data=0
 ·rw[if_neg (by simpa using hf)]
  split
  ·exact h
  ·have:=zb9 hf;exact(h.asks c.toNat kind pl data this.2.1 this.2.2.1 this.2.2.2.2.1).serve
 ·rw[if_pos hf];exact h
theorem Inv.tick(h:Inv p):Inv p.tick:=by
 refine Inv.serve (p:={ p with moment:=if p.moment+1<1000000000 then p.moment+1 else 1000000000 }) ⟨h.cl3,h.cok,h.hand,h.d6,h.good,h.apart,h.q6,h.b2,?_,h.tg,h.us,h.tin,h.n32,h.g32,h.ts,h.fr⟩;have:=h.mom;show 0≤(if p.moment+1<1000000000 then p.moment+1 else 1000000000)∧(if p.moment+1<1000000000 then p.moment+1 else 1000000000)≤1000000000
 split<;>omega
theorem zg9(l:List Bf)(H:Int→Bool):(zb4 l H=-1∧∀x∈l,x.dirty=true→H x.pl=true)∨∃x∈l,zb4 l H=x.pl∧x.dirty=true∧H x.pl=false:=by
 unfold zb4
 rcases zbF (zaO true H) l l.length (Nat.le_refl _) with⟨h1,h2⟩|⟨k,hk,_,h1,h2,_⟩
 ·rw[h1,if_neg (by omega)];refine Or.inl ⟨rfl,fun x hx hd=>?_⟩;obtain⟨j,hj,rfl⟩:=List.getElem_of_mem hx;have:=h2 j hj hj;simp only[zaO,hd] at this
  simpa using this
 ·rw[h1,if_pos (by omega)];have e:l.getD ((k:Int).toNat) ⟨0,ByteArray.empty,false,0⟩=l[k]:=by rw[Int.toNat_natCast,List.getD_eq_getElem?_getD,List.getElem?_eq_getElem hk,Option.getD_some]
  rw[e];exact Or.inr ⟨l[k],List.getElem_mem hk,rfl,zmy.1 h2⟩
theorem Inv.clean(h:Inv p):Inv p.clean.2:=by
 unfold Sk.clean
 split
 ·exact h
 split
 ·exact h
 ·rename_i _ hp
  rcases zg9 p.hand p.held with⟨e,_⟩|⟨x,hx,e,hd,hh⟩
  ·rw[e] at hp;omega
  ·have hin:=h.hand.in' x hx;rw[e,zdR h.hand.rise hx];exact h.askQ _ ⟨hin.1,hin.2.1⟩ _ _ (Or.inl ⟨rfl,rfl,fun s hs=>by rw[List.mem_singleton.1 hs];exact hin.2.2⟩) hh
end
theorem fr_lt(b:Bool)(a:Int)(l:List Rq):frI b a l=-1∨∃j:Nat,j<l.length∧frI b a l=j:=by
 rcases zdM b a l with⟨h,_⟩|⟨j,hj,h,_⟩
 ·exact Or.inl h
 ·exact Or.inr ⟨j,hj,h⟩
theorem zpa(b1 b2:Bool)(t:Tn)(h:0≤t.s∧t.s≤2):0≤(zaf b1 b2 t).s∧(zaf b1 b2 t).s≤2:=by
 unfold zaf
 split
 ·exact h
 ·split
  ·exact⟨by show(0:Int)≤0;omega,by show(0:Int)≤2;omega⟩
  ·rename_i _ h2
   have:¬2≤t.s:=fun h'=>h2 (Or.inr h')
   exact⟨by show 0≤t.s+1;omega,by show t.s+1≤2;omega⟩
theorem zon(l:List Rq)(hne:l ≠ [])(hf:∀r∈l,0≤r.f)(t:Tn)(now:Int)(hs:0≤t.s∧t.s≤2):∃i:Nat,i<l.length∧(zbs l t now).1=i∧0≤(zbs l t now).2.s∧(zbs l t now).2.s≤2:=by
 unfold zbs
 split
 ·rename_i h
  rcases fr_lt t.w t.p l with h'|⟨j,hj,h'⟩
  ·omega
  ·exact⟨j,hj,h',hs⟩
 ·obtain⟨i0,hi0,hO,hw⟩:=zg2 l hne t _ _ rfl rfl;have hbs:=zpa (decide (0≤zaa false l)) (decide (0≤zaa true l)) t hs;generalize zaf (decide (0≤zaa false l)) (decide (0≤zaa true l)) t=T at *;have:∃i:Nat,i<l.length∧zdP l T now=i:=by
   unfold zdP
   split
   ·exact⟨i0,hi0,hO⟩
   ·split
    ·rename_i h2
     rcases fr_lt T.w T.p l with h'|⟨j,hj,h'⟩
     ·omega
     ·exact⟨j,hj,h'⟩
    ·rcases zdM T.w 0 l with⟨h',h3⟩|⟨j,hj,h',_⟩
     ·have:=h3 i0 hi0 hw;have:=hf _ (List.getElem_mem hi0)
      omega
     ·exact⟨j,hj,h'⟩
  obtain⟨i,hi,e⟩:=this;exact⟨i,hi,e,hbs⟩
section
variable{p:Sk}
theorem zbQ(h:Inv p):((p.queue=[]∨2≤p.dev.busy.length)∧p.dispatch=(false,p))∨∃(i:Nat) (hi:i<p.queue.length) (T:Tn),p.queue ≠ []∧p.dev.busy.length<2∧(zbs p.queue p.turn p.moment).1=i∧(0≤T.s∧T.s≤2)∧p.dispatch=(true,{ p with dev:={ p.dev with busy:=p.dev.busy++[p.queue[i]] },queue:=p.queue.eraseIdx i,turn:=T }):=by
 unfold Sk.dispatch
 by_cases hc:p.queue=[]∨2≤p.dev.busy.length
 ·rw[if_pos hc];exact Or.inl ⟨hc,rfl⟩
 ·rw[if_neg hc];have h1:p.queue ≠ []:=fun e=>hc (Or.inl e)
  obtain⟨i,hi,e,hs⟩:=zon p.queue h1 (fun r hr=>(h.queue.1 r hr).bds.1) p.turn p.moment h.ts;refine Or.inr ⟨i,hi,(zbs p.queue p.turn p.moment).2,h1,by omega,e,hs,?_⟩;rw[e,Int.toNat_natCast,List.getElem?_eq_getElem hi]
  rfl
theorem zeQ{l m:List Rq}(hp:l.Perm m)(h:l.Pairwise zb8):m.Pairwise zb8:=(List.Perm.pairwise_iff (fun hxy=>hxy.symm) hp).1 h
theorem zdz(l:List Rq)(i:Nat)(hi:i<l.length):(l.eraseIdx i++[l[i]]).Perm l:=by
 have e:l=l.take i++l[i]::l.drop (i+1):=by rw[List.getElem_cons_drop,List.take_append_drop]
 have h:(l.take i++(l.drop (i+1)++[l[i]])).Perm (l.take i++([l[i]]++l.drop (i+1))):=List.Perm.append_left _ List.perm_append_comm;rw[List.eraseIdx_eq_take_drop_succ,List.append_assoc];refine h.trans ?_;rw[List.singleton_append,←e]
theorem zg7(q b:List Rq)(i:Nat)(hi:i<q.length):(q++b).Perm (q.eraseIdx i++(b++[q[i]])):=by
 have h1:=zdz q i hi;have h2:(q++b).Perm ((q.eraseIdx i++[q[i]])++b):=h1.symm.append_right b;refine h2.trans ?_;rw[List.append_assoc];exact List.Perm.append_left _ List.perm_append_comm
theorem Inv.moved(h:Inv p)(i:Nat)(hi:i<p.queue.length)(T:Tn)(hT:0≤T.s∧T.s≤2)(hb:p.dev.busy.length<2):Inv { p with dev:={ p.dev with busy:=p.dev.busy++[p.queue[i]] },queue:=p.queue.eraseIdx i,turn:=T }:=by
 have P:=zg7 p.queue p.dev.busy i hi;refine⟨h.cl3,h.cok,h.hand,h.d6,fun r hr=>h.good r (P.mem_iff.2 hr),zeQ P h.apart,?_,?_,h.mom,h.tg,h.us,fun r hr=>h.tin r (P.mem_iff.2 hr),h.n32,h.g32,hT,h.fr⟩
 ·show(p.queue.eraseIdx i).length≤6;have:=h.q6;rw[List.length_eraseIdx];split<;>omega
 ·show(p.dev.busy++[p.queue[i]]).length≤2;rw[List.length_append,List.length_singleton];omega
theorem Inv.dispatch(h:Inv p):Inv p.dispatch.2:=by
 rcases zbQ h with⟨_,e⟩|⟨i,hi,T,_,hb,_,hT,e⟩
 ·rw[e];exact h
 ·rw[e];exact h.moved i hi T hT hb
theorem Inv.dispatches(n:Nat):∀{p:Sk},Inv p→Inv (p.dispatches n):=by
 induction n with
 |zero=>intro p h;exact h
 |succ n ih =>
  intro p h;unfold Sk.dispatches
  split
  ·exact ih h.dispatch
  ·exact h
theorem Inv.readers(h:Inv p)(F:Int→Bool)(s:ByteArray)(e:Int):Inv (p.readers F s e) :=
 ⟨by show(List.map _ p.cl).length=3;rw[List.length_map];exact h.cl3,fun c hc=>by
  obtain⟨x,hx,rfl⟩:=List.mem_map.1 hc;show zhs (if _ then _ else _)
  split
  ·exact zja s e
  ·exact h.cok x hx,h.hand,h.d6,h.good,h.apart,h.q6,h.b2,h.mom,h.tg,h.us,h.tin,h.n32,h.g32,h.ts,h.fr⟩
theorem Inv.wasRead(h:Inv p)(pl:Int)(s:ByteArray)(hpl:0≤pl∧pl≤31)(hs:s.size≤4):Inv (p.wasRead pl s):=by
 unfold Sk.wasRead
 cases zat p.hand pl with
 |some _=>exact h
 |none =>
  simp only
  cases e:zcj p.hand ⟨pl,s,false,p.uses+1⟩ p.held with
  |none=>exact h.readers _ _ _
  |some l =>
   have P:=zd7 h.hand e;have hd:=P.dirty;simp only[Bool.false_eq_true,if_false] at hd;exact(h.setHand l _ (P.ok ⟨hpl.1,hpl.2,hs⟩) (by have:=h.d6;omega) (by have:=h.us;omega)).readers _ _ _
theorem Inv.wentOne(h:Inv p)(r:Rq)(gr:zv r)(xs:List ByteArray)(j:Nat)(hj:j<r.m.toNat)(hx:(xs.getD j ByteArray.empty).size≤4):Inv (p.wentOne r xs j):=by
 unfold Sk.wentOne;have:=gr.bds
 split
 ·exact h.setHand _ _ (h.hand.cleanL _ _) (Nat.le_trans (zi2 _ _ _) h.d6) h.us
 ·exact h.wasRead _ _ (by omega) hx
theorem zbl(p:Sk)(r:Rq)(xs:List ByteArray)(n:Nat):p.wentTo r xs (n+1)=(p.wentTo r xs n).wentOne r xs n:=by simp[Sk.wentTo,List.range_succ]
theorem Inv.wentTo(h:Inv p)(r:Rq)(gr:zv r)(xs:List ByteArray)(hx:∀j,(xs.getD j ByteArray.empty).size≤4):∀n,n≤r.m.toNat→Inv (p.wentTo r xs n)
 |0,_=>h
 |n+1,hn=>by rw[zbl];exact(h.wentTo r gr xs hx n (by omega)).wentOne r gr xs n (by omega) (hx n)
def zQ(d:Dl):Prop:=(∀s∈d.now,s.size≤4)∧(∀s∈d.good,s.size≤4)∧∀x∈d.wr,x.data.size≤4
theorem zeZ{l:List ByteArray}(h:∀s∈l,s.size≤4)(j:Nat):(l.getD j ByteArray.empty).size≤4:=by
 rw[List.getD_eq_getElem?_getD]
 cases e:l[j]? with
 |none=>show ByteArray.empty.size≤4;rw[zb5];omega
 |some s=>exact h s (List.mem_of_getElem? e)
theorem zbw{d:Dl}(h:zQ d)(r:Rq)(j:Nat):((zaG d r).getD j ByteArray.empty).size≤4:=by
 refine zeZ (fun s hs=>?_) j;unfold zaG at hs
 split at hs
 ·cases hs
 ·unfold zbc at hs;obtain⟨i,_,rfl⟩:=List.mem_map.1 hs;exact zeZ h.1 _
theorem Inv.took(h:Inv p)(k:Nat):Inv (p.took k):=by
 have S:(p.queue++p.dev.busy.eraseIdx k).Sublist (p.queue++p.dev.busy):=List.Sublist.append_left (List.eraseIdx_sublist _ _) _;refine⟨h.cl3,h.cok,h.hand,h.d6,fun r hr=>h.good r (S.subset hr),h.apart.sublist S,h.q6,?_,h.mom,h.tg,h.us,fun r hr=>h.tin r (S.subset hr),h.n32,h.g32,h.ts,h.fr⟩;show(p.dev.busy.eraseIdx k).length≤2;have:=h.b2;rw[List.length_eraseIdx];split<;>omega
theorem znZ(d:Dl)(r:Rq):(d.did r).good=d.good:=by
 unfold Dl.did;split
 ·exact ziE _ _ _
 ·rfl
theorem Inv.did(h:Inv p)(r:Rq):Inv (p.did r):=by
 refine⟨h.cl3,h.cok,h.hand,h.d6,?_,?_,h.q6,?_,h.mom,h.tg,h.us,?_,?_,?_,h.ts,fun t=>?_⟩
 ·show ∀x∈p.queue++(p.dev.did r).busy,zv x;rw[Dl.did_busy];exact h.good
 ·show(p.queue++(p.dev.did r).busy).Pairwise zb8;rw[Dl.did_busy];exact h.apart
 ·show(p.dev.did r).busy.length≤2;rw[Dl.did_busy];exact h.b2
 ·show ∀x∈p.queue++(p.dev.did r).busy,_;rw[Dl.did_busy];exact h.tin
 ·show(p.dev.did r).now.length=32;rw[zpf];exact h.n32
 ·show(p.dev.did r).good.length=32;rw[znZ];exact h.g32
 ·have:=h.fr t;show 0≤(if t=r.tags.getD 0 0 then 0 else p.f t)∧(if t=r.tags.getD 0 0 then 0 else p.f t)≤2
  split<;>omega
theorem Inv.lost(h:Inv p)(r:Rq)(b:Bool):Inv { p.lost r with dead:=b } :=
 ⟨h.cl3,h.cok,h.hand,h.d6,h.good,h.apart,h.q6,h.b2,h.mom,h.tg,h.us,h.tin,h.n32,h.g32,h.ts,fun t=>by
  have:=h.fr t;show 0≤(if t=r.tags.getD 0 0 then 0 else p.f t)∧(if t=r.tags.getD 0 0 then 0 else p.f t)≤2
  split<;>omega⟩
theorem Inv.again(h:Inv p)(k:Nat)(hk:k<p.dev.busy.length)(hf:p.f (p.dev.busy[k].tags.getD 0 0)<2):Inv ((p.took k).again p.dev.busy[k]):=by
 have P:(p.queue++p.dev.busy).Perm (p.queue++(p.dev.busy.eraseIdx k++[p.dev.busy[k]])):=List.Perm.append_left _ (zdz p.dev.busy k hk).symm;refine⟨h.cl3,h.cok,h.hand,h.d6,fun r hr=>h.good r (P.mem_iff.2 hr),zeQ P h.apart,h.q6,?_,h.mom,h.tg,h.us,fun r hr=>h.tin r (P.mem_iff.2 hr),h.n32,h.g32,h.ts,fun t=>?_⟩
 ·show(p.dev.busy.eraseIdx k++[p.dev.busy[k]]).length≤2;have:=h.b2;rw[List.length_append,List.length_singleton,List.length_eraseIdx,if_pos hk];omega
 ·have h1:=h.fr t;show 0≤(if t=p.dev.busy[k].tags.getD 0 0 then p.f t+1 else p.f t)∧(if t=p.dev.busy[k].tags.getD 0 0 then p.f t+1 else p.f t)≤2
  split
  ·rename_i e;rw[←e] at hf;omega
  ·exact h1
theorem Inv.lost'(h:Inv p)(r:Rq):Inv (p.lost r):=h.lost r p.dead
theorem zd2(p:Sk)(i:Int)(fault:Bool):((i<0∨(p.dev.busy.length:Int)≤i)∧p.end' i fault=(5,p))∨∃(k:Nat) (hk:k<p.dev.busy.length),i=k ∧
 ((fault=false∧p.end' i fault=(0,(((p.took k).did p.dev.busy[k]).wentWell p.dev.busy[k] (zaG p.dev p.dev.busy[k])).serve)) ∨
  (fault=true∧p.f (p.dev.busy[k].tags.getD 0 0)<2∧p.end' i fault=(0,(p.took k).again p.dev.busy[k])) ∨
  (fault=true∧¬p.f (p.dev.busy[k].tags.getD 0 0)<2∧p.dev.busy[k].wr=true∧p.end' i fault=(0,({ (p.took k).lost p.dev.busy[k] with dead:=true }:Sk).serve)) ∨
  (fault=true∧¬p.f (p.dev.busy[k].tags.getD 0 0)<2∧p.dev.busy[k].wr=false∧p.end' i fault=(0,(((p.took k).lost p.dev.busy[k]).readers (fun x=>zau p.dev.busy[k].f p.dev.busy[k].m x) ByteArray.empty 8).serve))):=by
 unfold Sk.end'
 by_cases h0:i<0
 ·rw[if_pos h0];exact Or.inl ⟨Or.inl h0,rfl⟩
 rw[if_neg h0]
 by_cases h1:i.toNat<p.dev.busy.length
 ·refine Or.inr ⟨i.toNat,h1,by omega,?_⟩;rw[List.getElem?_eq_getElem h1];simp only
  cases fault with
  |false=>exact Or.inl ⟨rfl,rfl⟩
  |true =>
   rw[if_neg (by simp)]
   by_cases h2:p.f (p.dev.busy[i.toNat].tags.getD 0 0)<2
   ·rw[if_pos h2];exact Or.inr (Or.inl ⟨rfl,h2,rfl⟩)
   ·rw[if_neg h2]
    by_cases h3:p.dev.busy[i.toNat].wr=true
    ·rw[if_pos h3];exact Or.inr (Or.inr (Or.inl ⟨rfl,h2,h3,rfl⟩))
    ·rw[if_neg h3];exact Or.inr (Or.inr (Or.inr ⟨rfl,h2,by simpa using h3,rfl⟩))
 ·rw[List.getElem?_eq_none (by omega)];exact Or.inl ⟨Or.inr (by omega),rfl⟩
theorem Inv.end'(h:Inv p)(hd:zQ p.dev)(i:Int)(fault:Bool):Inv (p.end' i fault).2:=by
 rcases zd2 p i fault with⟨_,e⟩|⟨k,hk,_,⟨_,e⟩|⟨_,hf,e⟩|⟨_,_,_,e⟩|⟨_,_,_,e⟩⟩
 ·rw[e];exact h
 ·rw[e];have gr:=h.good _ (List.mem_append_right _ (List.getElem_mem hk));exact((((h.took k).did _).wentTo _ gr _ (zbw hd _) _ (Nat.le_refl _)).serve)
 ·rw[e];exact h.again k hk hf
 ·rw[e];exact((h.took k).lost _ _).serve
 ·rw[e];exact((((h.took k).lost' _).readers _ _ _).serve)
end
theorem zkF(r:Rq):zv r.nf↔zv r:=⟨fun g=>⟨g.ok,g.shape,g.t1,g.t4,g.b0,g.b1,g.small⟩,fun g=>⟨g.ok,g.shape,g.t1,g.t4,g.b0,g.b1,g.small⟩⟩
theorem zeB(p:Sk):p.nf.queue++p.nf.dev.busy=(p.queue++p.dev.busy).map Rq.nf:=(List.map_append).symm
theorem Inv.nf{p:Sk}(h:Inv p):Inv p.nf where
 cl3:=h.cl3
 cok:=h.cok
 hand:=h.hand
 d6:=h.d6
 good:=fun r hr=>by
  rw[zeB] at hr;obtain⟨x,hx,rfl⟩:=List.mem_map.1 hr;exact(zkF x).2 (h.good x hx)
 apart:=by rw[zeB,List.pairwise_map];exact h.apart
 q6:=by show(p.queue.map Rq.nf).length≤6;rw[List.length_map];exact h.q6
 b2:=by show(p.dev.busy.map Rq.nf).length≤2;rw[List.length_map];exact h.b2
 mom:=h.mom
 tg:=h.tg
 us:=h.us
 tin:=fun r hr=>by
  rw[zeB] at hr;obtain⟨x,hx,rfl⟩:=List.mem_map.1 hr;exact h.tin x hx
 n32:=h.n32
 g32:=h.g32
 ts:=h.ts
 fr:=h.fr
theorem Inv.of_nf{p:Sk}(h:Inv p.nf):Inv p where
 cl3:=h.cl3
 cok:=h.cok
 hand:=h.hand
 d6:=h.d6
 good:=fun r hr=>(zkF r).1 (h.good r.nf (by rw[zeB];exact List.mem_map.2 ⟨r,hr,rfl⟩))
 apart:=by have:=h.apart;rw[zeB,List.pairwise_map] at this;exact this
 q6:=by have:=h.q6;rw[show p.nf.queue.length=p.queue.length from List.length_map _] at this;exact this
 b2:=by have:=h.b2;rw[show p.nf.dev.busy.length=p.dev.busy.length from List.length_map _] at this;exact this
 mom:=h.mom
 tg:=h.tg
 us:=h.us
 tin:=fun r hr=>h.tin r.nf (by rw[zeB];exact List.mem_map.2 ⟨r,hr,rfl⟩)
 n32:=h.n32
 g32:=h.g32
 ts:=h.ts
 fr:=h.fr
theorem zQ.flush{d:Dl}(h:zQ d):zQ d.flush:=⟨h.1,h.1,fun x hx=>by cases hx⟩
theorem zQ.busy{d:Dl}(h:zQ d)(l:List Rq):zQ { d with busy:=l }:=h
theorem zQ.write{d:Dl}(h:zQ d)(k:Nat)(s:ByteArray)(hs:s.size≤4):zQ (d.write k s):=by
 refine⟨fun x hx=>?_,h.2.1,fun x hx=>?_⟩
 ·rcases List.mem_or_eq_of_mem_set hx with h'|rfl
  ·exact h.1 x h'
  ·exact hs
 ·rcases List.mem_append.1 hx with h'|h'
  ·exact h.2.2 x (List.mem_filter.1 h').1
  ·rw[List.mem_singleton.1 h'];exact hs
theorem zQ.writesTo{d:Dl}(h:zQ d)(r:Rq)(hr:∀s∈r.data,s.size≤4):∀n,zQ (d.writesTo r n)
 |0=>h
 |n+1=>by rw[Dl.writesTo_succ];exact(h.writesTo r hr n).write _ _ (zeZ hr n)
theorem zlb{r:Rq}(g:zv r):∀s∈r.data,s.size≤4:=by
 have:=g.small;simp only[zcH,List.all_eq_true,decide_eq_true_eq] at this;exact this
theorem zQ.did{d:Dl}(h:zQ d)(r:Rq)(g:zv r):zQ (d.did r):=by
 unfold Dl.did
 split
 ·exact h.writesTo r (zlb g) _
 ·exact h
theorem znU:zQ d0:=⟨fun s hs=>by rw[(List.mem_replicate.1 hs).2,zb5];omega,fun s hs=>by rw[(List.mem_replicate.1 hs).2,zb5];omega,fun x hx=>by cases hx⟩
structure za0(n:Nat)(p p':Sk):Prop where
 dev:p'.dev=p.dev∨p'.dev=p.dev.flush
 tags:p'.tags≤p.tags+n
 uses:p'.uses≤p.uses+n
 dead:p'.dead=p.dead
 f:p'.f=p.f
 mom:p'.moment=p.moment
 turn:p'.turn=p.turn
 ag:p'.ag=p.ag
theorem za0.refl(n:Nat)(p:Sk):za0 n p p:=⟨Or.inl rfl,by omega,by omega,rfl,rfl,rfl,rfl,rfl⟩
theorem za0.trans{n m:Nat}{p p' p2:Sk}(h:za0 n p p')(k:za0 m p' p2):za0 (n+m) p p2:=by
 refine⟨?_,?_,?_,k.dead.trans h.dead,k.f.trans h.f,k.mom.trans h.mom,k.turn.trans h.turn,k.ag.trans h.ag⟩
 ·rcases h.dev with h1|h1<;>rcases k.dev with k1|k1
  ·exact Or.inl (k1.trans h1)
  ·exact Or.inr (by rw[k1,h1])
  ·exact Or.inr (k1.trans h1)
  ·exact Or.inr (by rw[k1,h1];rfl)
 ·have:=h.tags;have:=k.tags;omega
 ·have:=h.uses;have:=k.uses;omega
theorem zh7(p:Sk)(pl:Int)(wr:Bool)(data:List ByteArray):za0 1 p (p.askQ pl wr data).2:=by
 rcases zdx (p:=p) pl wr data with⟨_,e⟩|⟨L,_,e⟩
 ·rw[e];exact za0.refl 1 p
 ·rw[e];exact⟨Or.inl rfl,by show p.tags+1≤p.tags+1;omega,by show p.uses≤p.uses+1;omega,rfl,rfl,rfl,rfl,rfl⟩
theorem zhB(p:Sk)(i:Nat):za0 1 p (p.serveRead i):=by
 unfold Sk.serveRead
 cases zat p.hand (p.client i).pl with
 |some b=>exact⟨Or.inl rfl,by show p.tags≤p.tags+1;omega,by show p.uses+1≤p.uses+1;omega,rfl,rfl,rfl,rfl,rfl⟩
 |none =>
  simp only
  split
  ·exact za0.refl 1 p
  ·exact zh7 p _ _ _
theorem zg6(p:Sk)(i:Nat):za0 1 p (p.serveWrite i):=by
 unfold Sk.serveWrite
 split
 ·exact⟨Or.inl rfl,by show p.tags≤p.tags+1;omega,by show p.uses≤p.uses+1;omega,rfl,rfl,rfl,rfl,rfl⟩
 split
 ·exact za0.refl 1 p
 ·split
  ·exact⟨Or.inl rfl,by show p.tags≤p.tags+1;omega,by show p.uses+1≤p.uses+1;omega,rfl,rfl,rfl,rfl,rfl⟩
  ·exact⟨Or.inl rfl,by show p.tags≤p.tags+1;omega,by show p.uses+1≤p.uses+1;omega,rfl,rfl,rfl,rfl,rfl⟩
theorem zhC(p:Sk)(i:Nat):za0 1 p (p.serveSync i):=by
 unfold Sk.serveSync
 split
 ·exact⟨Or.inl rfl,by show p.tags≤p.tags+1;omega,by show p.uses≤p.uses+1;omega,rfl,rfl,rfl,rfl,rfl⟩
 split
 ·exact⟨Or.inr rfl,by show p.tags≤p.tags+1;omega,by show p.uses≤p.uses+1;omega,rfl,rfl,rfl,rfl,rfl⟩
 ·exact⟨Or.inl rfl,by show p.tags≤p.tags+1;omega,by show p.uses≤p.uses+1;omega,rfl,rfl,rfl,rfl,rfl⟩
theorem zdd(p:Sk)(i:Nat):za0 1 p (p.serve1 i):=by
 unfold Sk.serve1
 split
 ·exact zhB p i
 split
 ·exact zg6 p i
 split
 ·exact zhC p i
 ·exact za0.refl 1 p
theorem zcy(p:Sk):za0 3 p p.serve:=((zdd p 0).trans (zdd _ 1)).trans (zdd _ 2)
theorem zji(p:Sk)(pl:Int)(s:ByteArray):za0 1 p (p.wasRead pl s):=by
 unfold Sk.wasRead
 split
 ·exact za0.refl 1 p
 ·split
  ·exact⟨Or.inl rfl,by show p.tags≤p.tags+1;omega,by show p.uses+1≤p.uses+1;omega,rfl,rfl,rfl,rfl,rfl⟩
  ·exact⟨Or.inl rfl,by show p.tags≤p.tags+1;omega,by show p.uses≤p.uses+1;omega,rfl,rfl,rfl,rfl,rfl⟩
theorem zjj(p:Sk)(r:Rq)(xs:List ByteArray)(j:Nat):za0 1 p (p.wentOne r xs j):=by
 unfold Sk.wentOne
 split
 ·exact⟨Or.inl rfl,by show p.tags≤p.tags+1;omega,by show p.uses≤p.uses+1;omega,rfl,rfl,rfl,rfl,rfl⟩
 ·exact zji p _ _
theorem zde(p:Sk)(r:Rq)(xs:List ByteArray):∀n,za0 n p (p.wentTo r xs n)
 |0=>za0.refl 0 p
 |n+1=>by rw[zbl];exact(zde p r xs n).trans (zjj _ r xs n)
structure Fit(n:Nat)(p:Sk):Prop where
 inv:Inv p
 short:zQ p.dev
 tags:p.tags≤n
 uses:p.uses≤n
 ag:p.ag≤n
theorem Fit.mono{n m:Nat}{p:Sk}(h:Fit n p)(hm:n≤m):Fit m p:=⟨h.inv,h.short,by have:=h.tags;omega,by have:=h.uses;omega,by have:=h.ag;omega⟩
theorem Fit.nf{n:Nat}{p:Sk}(h:Fit n p):Fit n p.nf:=⟨h.inv.nf,h.short,h.tags,h.uses,h.ag⟩
theorem Fit.of_nf{n:Nat}{p:Sk}(h:Fit n p.nf):Fit n p:=⟨h.inv.of_nf,h.short,h.tags,h.uses,h.ag⟩
theorem Fit.mild{n m:Nat}{p p':Sk}(h:Fit n p)(hi:Inv p')(k:za0 m p p'):Fit (n+m) p':=by
 refine⟨hi,?_,by have:=h.tags;have:=k.tags;omega,by have:=h.uses;have:=k.uses;omega,by have:=h.ag;have:=k.ag;omega⟩
 rcases k.dev with e|e
 ·rw[e];exact h.short
 ·rw[e];exact h.short.flush
theorem Fit.serve{n:Nat}{p:Sk}(h:Fit n p):Fit (n+3) p.serve:=h.mild h.inv.serve (zcy p)
theorem Fit.ask{n:Nat}{p:Sk}(h:Fit n p)(c kind pl:Int)(data:ByteArray):Fit (n+3) (p.ask c kind pl data).2:=by
 refine h.mild (h.inv.ask c kind pl data) ?_;unfold Sk.ask
 split
 ·exact za0.refl 3 p
 split
 ·exact za0.refl 3 p
 ·have:=zcy (p.asks c.toNat kind pl data);exact⟨this.dev,this.tags,this.uses,this.dead,this.f,this.mom,this.turn,this.ag⟩
theorem Fit.tick{n:Nat}{p:Sk}(h:Fit n p):Fit (n+3) p.tick:=by
 have k:=zcy ({ p with moment:=if p.moment+1<1000000000 then p.moment+1 else 1000000000 }:Sk);refine⟨h.inv.tick,?_,by have:=h.tags;have:=k.tags;show _≤_;exact Int.le_trans k.tags (by show p.tags+_≤_;omega),Int.le_trans k.uses (by have:=h.uses;show p.uses+_≤_;omega),by have h1:=h.ag;have h2:(Sk.serve _).ag=p.ag:=k.ag;show(Sk.serve _).ag≤_;rw[h2];omega⟩
 rcases k.dev with e|e
 ·show zQ (Sk.serve _).dev;rw[e];exact h.short
 ·show zQ (Sk.serve _).dev;rw[e];exact h.short.flush
theorem Fit.clean{n:Nat}{p:Sk}(h:Fit n p):Fit (n+1) p.clean.2:=by
 refine h.mild h.inv.clean ?_;unfold Sk.clean
 split
 ·exact za0.refl 1 p
 split
 ·exact za0.refl 1 p
 ·exact zh7 p _ _ _
theorem Fit.dispatch{n:Nat}{p:Sk}(h:Fit n p):Fit n p.dispatch.2:=by
 rcases zbQ h.inv with⟨_,e⟩|⟨i,hi,T,_,hb,_,hT,e⟩
 ·rw[e];exact h
 ·rw[e];exact⟨h.inv.moved i hi T hT hb,h.short,h.tags,h.uses,h.ag⟩
theorem Fit.dispatches(m:Nat):∀{n:Nat} {p:Sk},Fit n p→Fit n (p.dispatches m):=by
 induction m with
 |zero=>intro n p h;exact h
 |succ m ih =>
  intro n p h;unfold Sk.dispatches
  split
  ·exact ih h.dispatch
  ·exact h
theorem Fit.end'{n:Nat}{p:Sk}(h:Fit n p)(i:Int)(fault:Bool):Fit (n+7) (p.end' i fault).2:=by
 have hI:=h.inv.end' h.short i fault
 rcases zd2 p i fault with⟨_,e⟩|⟨k,hk,_,⟨_,e⟩|⟨_,hf,e⟩|⟨_,_,_,e⟩|⟨_,_,_,e⟩⟩
 ·rw[e];exact h.mono (by omega)
 ·rw[e] at hI ⊢;have gr:=h.inv.good _ (List.mem_append_right _ (List.getElem_mem hk));have h0:Fit n ((p.took k).did p.dev.busy[k]):=⟨(h.inv.took k).did _,(zQ.busy h.short _).did _ gr,h.tags,h.uses,h.ag⟩
  have:=gr.bds;have k:=(zde ((p.took k).did p.dev.busy[k]) p.dev.busy[k] (zaG p.dev p.dev.busy[k]) p.dev.busy[k].m.toNat).trans (zcy _);exact(h0.mild hI k).mono (by omega)
 ·rw[e] at hI ⊢;exact⟨hI,h.short,by have:=h.tags;show p.tags≤_;omega,by have:=h.uses;show p.uses≤_;omega,by have:=h.ag;show p.ag+1≤_;omega⟩
 ·rw[e] at hI ⊢;have h0:Fit n ({ (p.took k).lost p.dev.busy[k] with dead:=true }:Sk):=⟨(h.inv.took k).lost _ _,h.short,h.tags,h.uses,h.ag⟩
  exact(h0.mild hI (zcy _)).mono (by omega)
 ·rw[e] at hI ⊢;have h0:Fit n (((p.took k).lost p.dev.busy[k]).readers (fun x=>zau p.dev.busy[k].f p.dev.busy[k].m x) ByteArray.empty 8):=⟨((h.inv.took k).lost' _).readers _ _ _,h.short,h.tags,h.uses,h.ag⟩
  exact(h0.mild hI (zcy _)).mono (by omega)
theorem Fit.round{n:Nat}{p:Sk}(h:Fit n p):Fit (n+11) p.round:=((h.tick.clean.dispatches 3).end' 0 false).mono (by omega)
theorem Fit.settle(m:Nat):∀{n:Nat} {p:Sk},Fit n p→Fit (n+11*m) (p.settle m).2:=by
 induction m with
 |zero=>intro n p h;exact h
 |succ m ih =>
  intro n p h;unfold Sk.settle
  split
  ·exact h.mono (by omega)
  ·exact(ih h.round).mono (by omega)
theorem zkQ:Fit 0 sk0:=by
 refine⟨⟨rfl,fun c hc=>?_,⟨List.Pairwise.nil,Nat.zero_le _,(fun x hx=>by cases hx)⟩,Nat.zero_le _,(fun r hr=>by cases hr),List.Pairwise.nil,Nat.zero_le _,Nat.zero_le _,⟨Int.le_refl 0,by show(0:Int)≤1000000000;omega⟩,Int.le_refl 0,Int.le_refl 0,(fun r hr=>by cases hr),rfl,rfl,⟨Int.le_refl 0,by show(0:Int)≤2;omega⟩,fun t=>⟨Int.le_refl 0,by show(0:Int)≤2;omega⟩⟩,znU,Int.le_refl 0,Int.le_refl 0,Nat.le_refl 0⟩;have:c=cl0:=by simpa [sk0] using hc
 rw[this];exact zmh
theorem zmk(p:Sk)(hl:p.cl.length=3){i j:Nat}(hi:i<3)(c:Cl):({ p with cl:=p.cl.set i c }:Sk).client j=if j=i then c else p.client j:=by
 unfold Sk.client
 by_cases h:j=i
 ·subst h;rw[if_pos rfl]
  simp[List.getD,hl,hi]
 ·rw[if_neg h]
  simp[List.getD,Ne.symm h]
theorem zbP(p:Sk){i j:Nat}(h:j ≠ i)(c:Cl):({ p with cl:=p.cl.set i c }:Sk).client j=p.client j:=by
 unfold Sk.client
 simp[List.getD,Ne.symm h]
theorem zkB(p:Sk)(pl:Int)(wr:Bool)(data:List ByteArray):(p.askQ pl wr data).2.cl=p.cl:=by
 rcases zdx (p:=p) pl wr data with⟨_,e⟩|⟨L,_,e⟩<;>rw[e]
theorem zii(p:Sk)(i:Nat)(hi:i<3):p.waits (i:Int)=true↔¬(p.client i).kind=0:=by
 unfold Sk.waits;rw[decide_eq_true (show(0:Int)≤i∧(i:Int)<3 by omega),Bool.true_and,Int.toNat_natCast]
 simp
theorem zgC(p:Sk)(i:Nat)(hi:i<3):p.waits (i:Int)=false↔(p.client i).kind=0:=by
 have:=zii p i hi
 cases h:p.waits (i:Int)
 ·rw[h] at this
  simp at this
  simp[this]
 ·rw[h] at this
  simp at this
  simp[this]
theorem znd(p:Sk):p.quiet=true↔(∀i,i<3→(p.client i).kind=0)∧p.queue=[]∧p.dev.busy=[]:=by
 have h0:p.waits 0=false↔(p.client 0).kind=0:=zgC p 0 (by omega);have h1:p.waits 1=false↔(p.client 1).kind=0:=zgC p 1 (by omega);have h2:p.waits 2=false↔(p.client 2).kind=0:=zgC p 2 (by omega);unfold Sk.quiet;simp only[Bool.and_eq_true,Bool.not_eq_true',List.isEmpty_iff];rw[h0,h1,h2]
 constructor
 ·rintro⟨⟨a,b,c⟩,d⟩;refine⟨fun i hi=>?_,d⟩
  match i,hi with
  |0,_=>exact a
  |1,_=>exact b
  |2,_=>exact c
 ·rintro⟨a,d⟩;exact⟨⟨a 0 (by omega),a 1 (by omega),a 2 (by omega)⟩,d⟩
theorem zly{p:Sk}(hl:p.cl.length=3){c:Cl}(hc:c∈p.cl):∃i,i<3∧p.client i=c:=by
 obtain⟨i,hi,rfl⟩:=List.getElem_of_mem hc;exact⟨i,by omega,by unfold Sk.client;rw[List.getD_eq_getElem?_getD,List.getElem?_eq_getElem hi,Option.getD_some]⟩
theorem zk2{p:Sk}(hl:p.cl.length=3){i:Nat}(hi:i<3):p.client i∈p.cl:=by
 unfold Sk.client;rw[List.getD_eq_getElem?_getD,List.getElem?_eq_getElem (by omega),Option.getD_some];exact List.getElem_mem _
def wRead:ByteArray:=⟨#[114,101,97,100]⟩
def wWrite:ByteArray:=⟨#[119,114,105,116,101]⟩
def wSync:ByteArray:=⟨#[115,121,110,99]⟩
def wTick:ByteArray:=⟨#[116,105,99,107]⟩
def wClean:ByteArray:=⟨#[99,108,101,97,110]⟩
def znz:ByteArray:=⟨#[100,105,115,112,97,116,99,104]⟩
def wEnd:ByteArray:=⟨#[101,110,100]⟩
def wFault:ByteArray:=⟨#[102,97,117,108,116]⟩
def wRound:ByteArray:=⟨#[114,111,117,110,100]⟩
def Sk.doStep(p:Sk)(x:Sp):Int × Sk :=
 if x.word=wRead then p.ask x.a 1 x.b ByteArray.empty
 else if x.word=wWrite then p.ask x.a 2 x.b x.data
 else if x.word=wSync then p.ask x.a 3 0 ByteArray.empty
 else if x.word=wTick then(0,p.tick)
 else if x.word=wClean then(0,p.clean.2)
 else if x.word=znz then(0,p.dispatch.2)
 else if x.word=wEnd then p.end' x.a false
 else if x.word=wFault then p.end' x.a true
 else if x.word=wRound then(0,p.round)
 else(0,p)
def Sk.steps(p:Sk)(l:List Sp):Sk:=l.foldl (fun q x=>(q.doStep x).2) p
theorem Fit.doStep{n:Nat}{p:Sk}(h:Fit n p)(x:Sp):Fit (n+11) (p.doStep x).2:=by
 unfold Sk.doStep
 split
 ·exact(h.ask _ _ _ _).mono (by omega)
 split
 ·exact(h.ask _ _ _ _).mono (by omega)
 split
 ·exact(h.ask _ _ _ _).mono (by omega)
 split
 ·exact h.tick.mono (by omega)
 split
 ·exact h.clean.mono (by omega)
 split
 ·exact h.dispatch.mono (by omega)
 split
 ·exact(h.end' _ _).mono (by omega)
 split
 ·exact(h.end' _ _).mono (by omega)
 split
 ·exact h.round
 ·exact h.mono (by omega)
theorem Fit.steps(l:List Sp):∀{n:Nat} {p:Sk},Fit n p→Fit (n+11*l.length) (p.steps l):=by
 induction l with
 |nil=>intro n p h;exact h
 |cons x l ih=>intro n p h;exact(ih (h.doStep x)).mono (by rw[List.length_cons];omega)
def Sk.all(p:Sk):List Rq:=p.queue++p.dev.busy
def zA(p:Sk):Prop:=∀r∈p.all,∀a:Int,r.on a→(∀x,zat p.hand a=some x→x.dirty=true)∧(r.wr=true→∃x,zat p.hand a=some x)
theorem zv.on_in{r:Rq}(g:zv r){a:Int}(h:r.on a):0≤a∧a≤31:=by
 have:=g.bds;obtain⟨h1,h2⟩:=h
 omega
theorem zpn{p:Sk}(hI:Inv p){r:Rq}(hr:r∈p.all){a:Int}(h:r.on a):p.held a=true:=by
 cases e:p.held a
 ·exact absurd h ((zi9 hI a ((hI.good r hr).on_in h).2).1 e r hr)
 ·rfl
section
variable{p:Sk}
theorem zA.congr{q:Sk}(h:zA p)(hh:q.hand=p.hand)(ha:∀r∈q.all,r∈p.all):zA q:=fun r hr a ho=>by rw[hh];exact h r (ha r hr) a ho
theorem zA.map(h:zA p)(g:Bf→Bf)(hg:∀x,(g x).pl=x.pl){q:Sk}(hh:q.hand=p.hand.map g)(ha:∀r∈q.all,r∈p.all∧∀a,r.on a→∀x,x.pl=a→(g x).dirty=x.dirty):zA q:=by
 intro r hr a ho;obtain⟨h1,h2⟩:=ha r hr;obtain⟨t1,t2⟩:=h r h1 a ho;rw[hh,zoj _ g hg];refine⟨fun x hx=>?_,fun hw=>?_⟩
 ·obtain⟨y,hy,rfl⟩:=Option.map_eq_some_iff.1 hx;rw[h2 a ho y (zfr hy).2];exact t1 y hy
 ·obtain⟨y,hy⟩:=t2 hw;exact⟨g y,by rw[hy];rfl⟩
theorem zA.put(hI:Inv p)(h:zA p){x:Bf}{m:List Bf}(hp:zcj p.hand x p.held=some m)(hx:x.dirty=true∨∀r∈p.all,¬r.on x.pl){q:Sk}(hh:q.hand=m)(ha:q.all=p.all):zA q:=by
 intro r hr a ho;rw[ha] at hr;obtain⟨t1,t2⟩:=h r hr a ho;have P:=zd7 hI.hand hp;have hheld:=zpn hI hr ho;rw[hh]
 by_cases e:a=x.pl
 ·rcases hx with hx|hx
  ·rw[e,P.same];exact⟨fun y hy=>by obtain rfl:=Option.some.inj hy;exact hx,fun _=>⟨x,rfl⟩⟩
  ·exact absurd (e▸ho) (hx r hr)
 ·rcases P.other a e with e1|⟨_,_,y,_,_,hf⟩
  ·rw[e1];exact⟨t1,t2⟩
  ·rw[hheld] at hf;cases hf
theorem zA.askQ(hI:Inv p)(h:zA p)(pl:Int)(hpl:0≤pl∧pl≤31)(wr:Bool)(data:List ByteArray)(hd:(wr=true∧data.length=1∧∀s∈data,s.size≤4)∨(wr=false∧data=[]))(h1:∀x,zat p.hand pl=some x→x.dirty=true)(h2:wr=true→∃x,zat p.hand pl=some x):zA (p.askQ pl wr data).2:=by
 rcases zdx (p:=p) pl wr data with⟨_,e⟩|⟨L,e1,e⟩
 ·rw[e];exact h
 ·rw[e];have A:=hI.adds hpl hd e1;intro r hr a ho
  rcases List.mem_append.1 hr with h'|h'
  ·obtain⟨q',hq',ho',hw',_⟩:=A.from' r h' a ho
   rcases List.mem_cons.1 hq' with rfl|h4
   ·rw[zjt] at ho';subst ho';exact⟨h1,fun hw=>h2 (hw'.trans hw)⟩
   ·obtain⟨t1,t2⟩:=h q' (List.mem_append_left _ h4) a ho';exact⟨t1,fun hw=>t2 (hw'.trans hw)⟩
  ·exact h r (List.mem_append_right _ h') a ho
theorem zA.serve1(hI:Inv p)(h:zA p)(i:Nat):zA (p.serve1 i):=by
 have hc:=hI.client i;unfold Sk.serve1
 split
 ·rename_i hk
  have hpl:=hc.pl (by rw[hk];omega);unfold Sk.serveRead
  cases e:zat p.hand (p.client i).pl with
  |some b=>exact h.map (fun x=>if x.pl=(p.client i).pl then { x with used:=p.uses+1 } else x) (fun x=>by split<;>rfl) rfl (fun _ hr=>⟨hr,fun a _ x _=>by split<;>rfl⟩)
  |none =>
   simp only
   split
   ·exact h
   ·exact h.askQ hI _ hpl false [] (Or.inr ⟨rfl,rfl⟩) (fun x hx=>by rw[e] at hx;cases hx) (fun hw=>by cases hw)
 split
 ·rename_i hk
  unfold Sk.serveWrite
  split
  ·exact h.congr rfl (fun _ hr=>hr)
  split
  ·exact h
  split
  ·rename_i l e
   exact zA.put hI h e (Or.inl rfl) rfl rfl
  ·exact h.congr rfl (fun _ hr=>hr)
 split
 ·unfold Sk.serveSync
  split
  ·exact h.congr rfl (fun _ hr=>hr)
  split
  ·exact h.congr rfl (fun _ hr=>hr)
  ·exact h.congr rfl (fun _ hr=>hr)
 ·exact h
theorem zA.serve(hI:Inv p)(h:zA p):zA p.serve:=zA.serve1 ((hI.serve1 0).serve1 1) (zA.serve1 (hI.serve1 0) (zA.serve1 hI h 0) 1) 2
theorem zjE(hI:Inv p):Inv ({ p with moment:=if p.moment+1<1000000000 then p.moment+1 else 1000000000 }:Sk):=by
 refine⟨hI.cl3,hI.cok,hI.hand,hI.d6,hI.good,hI.apart,hI.q6,hI.b2,?_,hI.tg,hI.us,hI.tin,hI.n32,hI.g32,hI.ts,hI.fr⟩;have:=hI.mom;show 0≤(if p.moment+1<1000000000 then p.moment+1 else 1000000000)∧(if p.moment+1<1000000000 then p.moment+1 else 1000000000)≤1000000000
 split<;>omega
theorem zA.tick(hI:Inv p)(h:zA p):zA p.tick:=zA.serve (zjE hI) (h.congr rfl (fun _ hr=>hr))
theorem zA.ask(hI:Inv p)(h:zA p)(c kind pl:Int)(data:ByteArray):zA (p.ask c kind pl data).2:=by
 unfold Sk.ask
 by_cases hf:zY c kind pl data=0
 ·rw[if_neg (by simpa using hf)]
  split
  ·exact h
  ·have z:=zb9 hf;exact zA.serve (hI.asks c.toNat kind pl data z.2.1 z.2.2.1 z.2.2.2.2.1) (h.congr rfl (fun _ hr=>hr))
 ·rw[if_pos hf];exact h
theorem zA.clean(hI:Inv p)(h:zA p):zA p.clean.2:=by
 unfold Sk.clean
 split
 ·exact h
 split
 ·exact h
 ·rename_i _ hp
  rcases zg9 p.hand p.held with⟨e,_⟩|⟨x,hx,e,hd,hh⟩
  ·rw[e] at hp;omega
  ·have hin:=hI.hand.in' x hx;have hg:=zdR hI.hand.rise hx;rw[e,hg];exact h.askQ hI _ ⟨hin.1,hin.2.1⟩ true [x.data] (Or.inl ⟨rfl,rfl,fun s hs=>by rw[List.mem_singleton.1 hs];exact hin.2.2⟩) (fun y hy=>by rw[hg] at hy;obtain rfl:=Option.some.inj hy;exact hd) (fun _=>⟨x,hg⟩)
theorem zA.dispatch(hI:Inv p)(h:zA p):zA p.dispatch.2:=by
 rcases zbQ hI with⟨_,e⟩|⟨i,hi,T,_,hb,_,hT,e⟩
 ·rw[e];exact h
 ·rw[e];refine h.congr rfl (fun r hr=>?_);exact(zg7 p.queue p.dev.busy i hi).mem_iff.2 hr
theorem zA.dispatches(n:Nat):∀{p:Sk},Inv p→zA p→zA (p.dispatches n):=by
 induction n with
 |zero=>intro p _ h;exact h
 |succ n ih =>
  intro p hI h;unfold Sk.dispatches
  split
  ·exact ih hI.dispatch (zA.dispatch hI h)
  ·exact h
end
def ziF(p:Sk)(r:Rq):Prop:=∀r'∈p.all,∀a,r.on a→¬r'.on a
theorem zoV{p:Sk}{k:Nat}(hk:k<p.dev.busy.length):(p.all).Perm ((p.took k).all++[p.dev.busy[k]]):=by
 have P:=(zdz p.dev.busy k hk).symm;have:=List.Perm.append_left p.queue P;rw[←List.append_assoc] at this;exact this
theorem zl1{p:Sk}(hI:Inv p){k:Nat}(hk:k<p.dev.busy.length):ziF (p.took k) p.dev.busy[k]:=by
 have P:=zeQ (zoV hk) hI.apart;have h2:=(List.pairwise_append.1 P).2.2;intro r' hr' a h1 h3;exact h2 r' hr' _ List.mem_cons_self a h3 h1
theorem zgB{p:Sk}(k:Nat):∀r∈(p.took k).all,r∈p.all:=fun r hr=>by
 rcases List.mem_append.1 hr with h|h
 ·exact List.mem_append_left _ h
 ·exact List.mem_append_right _ (List.mem_of_mem_eraseIdx h)
theorem zkD(p:Sk)(r:Rq):(p.did r).all=p.all:=by
 show p.queue++(p.dev.did r).busy=_;rw[Dl.did_busy];rfl
theorem zkr(p:Sk)(pl:Int)(s:ByteArray):(p.wasRead pl s).all=p.all:=by
 unfold Sk.wasRead
 split
 ·rfl
 ·split<;>rfl
theorem zkv(p:Sk)(r:Rq)(xs:List ByteArray)(j:Nat):(p.wentOne r xs j).all=p.all:=by
 unfold Sk.wentOne
 split
 ·rfl
 ·exact zkr p _ _
theorem zhp(p:Sk)(r:Rq)(xs:List ByteArray):∀n,(p.wentTo r xs n).all=p.all
 |0=>rfl
 |n+1=>by rw[zbl,zkv];exact zhp p r xs n
theorem zA.wasRead{p:Sk}(hI:Inv p)(h:zA p)(pl:Int)(s:ByteArray)(hf:∀r∈p.all,¬r.on pl):zA (p.wasRead pl s):=by
 unfold Sk.wasRead
 split
 ·exact h
 ·split
  ·rename_i l e
   exact zA.put hI h e (Or.inr hf) rfl rfl
  ·exact h.congr rfl (fun _ hr=>hr)
theorem zA.wentTo{p:Sk}(hI:Inv p)(h:zA p)(r:Rq)(gr:zv r)(hf:ziF p r)(xs:List ByteArray)(hx:∀j,(xs.getD j ByteArray.empty).size≤4):∀n,n≤r.m.toNat→zA (p.wentTo r xs n)
 |0,_=>h
 |n+1,hn=>by
  rw[zbl];have ih:=zA.wentTo hI h r gr hf xs hx n (by omega);have hIn:=hI.wentTo r gr xs hx n (by omega);have:=gr.bds;have hon:r.on (r.f+n):=⟨by omega,by omega⟩
  have hfr:∀r'∈(p.wentTo r xs n).all,¬r'.on (r.f+n):=fun r' hr'=>by rw[zhp] at hr';exact hf r' hr' _ hon
  unfold Sk.wentOne
  split
  ·refine ih.map (fun x=>if x.pl=r.f+n∧x.data=r.data.getD n ByteArray.empty then { x with dirty:=false } else x) (fun x=>by split<;>rfl) rfl (fun r' hr'=>⟨hr',fun a ho x hx'=>?_⟩);rw[if_neg];rintro⟨e,_⟩;exact hfr r' hr' (by rw[←e,hx'];exact ho)
  ·exact zA.wasRead hIn ih _ _ hfr
theorem zA.end'{p:Sk}(hI:Inv p)(hs:zQ p.dev)(h:zA p)(i:Int)(fault:Bool):zA (p.end' i fault).2:=by
 rcases zd2 p i fault with⟨_,e⟩|⟨k,hk,_,⟨_,e⟩|⟨_,hf,e⟩|⟨_,_,_,e⟩|⟨_,_,_,e⟩⟩
 ·rw[e];exact h
 ·rw[e];have gr:=hI.good _ (List.mem_append_right _ (List.getElem_mem hk));have hI1:=(hI.took k).did p.dev.busy[k];have h1:zA ((p.took k).did p.dev.busy[k]):=h.congr rfl (fun r hr=>by rw[zkD] at hr;exact zgB k r hr);have hf:ziF ((p.took k).did p.dev.busy[k]) p.dev.busy[k]:=by unfold ziF;rw[zkD];exact zl1 hI hk
  exact zA.serve (hI1.wentTo _ gr _ (zbw hs _) _ (Nat.le_refl _)) (zA.wentTo hI1 h1 _ gr hf _ (zbw hs _) _ (Nat.le_refl _))
 ·rw[e];refine h.congr rfl (fun r hr=>?_);have P:(p.queue++p.dev.busy).Perm (p.queue++(p.dev.busy.eraseIdx k++[p.dev.busy[k]])):=List.Perm.append_left _ (zdz p.dev.busy k hk).symm;exact P.mem_iff.2 hr
 ·rw[e];exact zA.serve ((hI.took k).lost _ _) (h.congr rfl (fun r hr=>zgB (p:=p) k r hr))
 ·rw[e];exact zA.serve (((hI.took k).lost' _).readers _ _ _) (h.congr rfl (fun r hr=>zgB (p:=p) k r hr))
structure zeN(n:Nat)(p:Sk):Prop where
 fit:Fit n p
 tight:zA p
theorem zeN.round{n:Nat}{p:Sk}(h:zeN n p):zeN (n+11) p.round:=⟨h.fit.round,zA.end' ((h.fit.tick.clean.dispatches 3).inv) ((h.fit.tick.clean.dispatches 3).short) (zA.dispatches 3 h.fit.tick.clean.inv (zA.clean h.fit.tick.inv (zA.tick h.fit.inv h.tight))) 0 false⟩
theorem zeN.doStep{n:Nat}{p:Sk}(h:zeN n p)(x:Sp):zeN (n+11) (p.doStep x).2:=by
 refine⟨h.fit.doStep x,?_⟩;unfold Sk.doStep
 split
 ·exact zA.ask h.fit.inv h.tight _ _ _ _
 split
 ·exact zA.ask h.fit.inv h.tight _ _ _ _
 split
 ·exact zA.ask h.fit.inv h.tight _ _ _ _
 split
 ·exact zA.tick h.fit.inv h.tight
 split
 ·exact zA.clean h.fit.inv h.tight
 split
 ·exact zA.dispatch h.fit.inv h.tight
 split
 ·exact zA.end' h.fit.inv h.fit.short h.tight _ _
 split
 ·exact zA.end' h.fit.inv h.fit.short h.tight _ _
 split
 ·exact h.round.tight
 ·exact h.tight
theorem zeN.steps(l:List Sp):∀{n:Nat} {p:Sk},zeN n p→zeN (n+11*l.length) (p.steps l):=by
 induction l with
 |nil=>intro n p h;exact h
 |cons x l ih =>
  intro n p h;have:=ih (h.doStep x);exact⟨this.fit.mono (by rw[List.length_cons];omega),this.tight⟩
end Go.Proofs.YtlhgjplipgandaaGreatDoor
