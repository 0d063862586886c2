/- Joined. -/
import Derived.Deep.RegionLawGrows
import Derived.Test.YtlhgjplipgandaaGreatDoorF22
import Derived.Test.YtlhgjplipgandaaGreatDoorF5
import Derived.Test.YtlhgjplipgandaaGreatDoorF14
set_option maxRecDepth 100000
set_option maxHeartbeats 8000000
set_option linter.unusedSimpArgs false
set_option linter.unusedSectionVars false
namespace Go.Proofs.YtlhgjplipgandaaGreatDoor
open Tryz
section
open Go.RowKit Go.BigFrame
theorem eM{P:Program}{ops:Array Oper}{o:Oper}{a:Act}{w:World}{K:Act->World->Prop}{Q:Exit->Act->World->Prop}{E:Prop}
 (hg:o.guard=none) (s x:Operand) (t:TypeId) (qY:o.op=Op.call { callee:=Callee.builtin Builtin.append,args:=#[s,x],argTypes:=#[t,t] })
 (base:Nat) (e:TypeId) (i:TypeInfo) (z:Value) (size bytes:Nat) (ht:P.underlying t=some (.slice e)) (hi:P.info? e=some i) (hz:i.zero=some z)
 (sU:i.size=size) (jh:i.bytes=bytes) (zD:z.cells.size=size) (iV:0<size)
 (v:Value) (n:Nat) (xs:List Value) (hs:a.eval s=v) (bu:w.ownsRow base e size v n xs)
 (ad:Option Addr) (m c:Nat) (news:List Value) (hx:a.eval x=.slice ad m c) (gX:gg w size ad m c news)
 (BK:n+m<=maxLen) (oI:(n+m)*bytes<=140737488355328) (kx:base<=w.heap.size)
 (h:∀v' w',w'.ownsRow base e size v' (n+m) (xs++news)->Below base w w'->K (a.put o.dst v') w') :
 if Region.wanted o (yielded ops a.tmps)=true then Oper.wp P o a w K Q else E:=by
 have hw:Region.wanted o (yielded ops a.tmps)=true:=by simp[Region.wanted,hg]
 rw[aaV hw];obtain⟨h1,h2,h3⟩:=gX
 rcases h3 with⟨rfl,rfl,rfl⟩|⟨R0,rfl,hc⟩
 ·obtain rfl:news=[]:=aaZ (by rw[h1];simp);have hr:=agt (P:=P) w base t o.type e i size ht hi v n xs bu;unfold Oper.wp
  simp[execOp,qY,resolve,invoke,builtin,hs,hx,hr,Result.andThen]
  exact h v w (by simpa using bu) (aX _ _)
 ·obtain⟨v',w',gY,r1,r2,_⟩:=run_append_own (P:=P) w base t o.type e i z size bytes ht hi hz sU jh zD iV v n xs bu R0 m c news h1 hc h2 BK oI kx;unfold Oper.wp
  simp[execOp,qY,resolve,invoke,builtin,hs,hx,gY,Result.andThen]
  exact h v' w' r1 ((aX _ _).grown r2 kx fun k hk=>(bu.lt k hk).1)
theorem mI{w w':World}{B e size n:Nat}{v:Value}{xs:List Value}(h:w.ownsRow B e size v n xs)(hb:bL w w'):w'.ownsRow B e size v n xs:=by
 refine⟨h.1,h.2.elim il ?_⟩;rintro⟨g,cap,cur,hv,hg,hh,r⟩;refine ir ⟨g,cap,cur,hv,hg,?_,r⟩;have:g<w.heap.size:=by
  rcases adI g w.heap.size with h'|h'
  ·exact h'
  ·rw[ac9 h'] at hh;cases hh
 rw[hb.block g this];exact hh
theorem Ev{w:World}{b c:Nat}(q:Rq)(h:bj w b q):gg w 6 (some ⟨b,0,none⟩) 1 c (a8 [q]):=by
 refine⟨rfl,tm _,ir ⟨_,rfl,fun k u hk=>?_⟩⟩;obtain⟨i,j,hi,hj,rfl,rfl⟩:=vM hk;have:i=0:=by simp at hi;exact hi
 subst this;rw[vU];obtain⟨h0,h1,h2,h3,h4,h5⟩:=h
 match j,hj with
 |0,_=>exact h0
 |1,_=>exact h1
 |2,_=>exact h2
 |3,_=>exact h3
 |4,_=>exact h4
 |5,_=>exact h5
theorem bj.eG{w w':World}{b B:Nat}{q:Rq}(h:bj w b q)(hb:Below B w w')(hl:b<B):bj w' b q:=by
 obtain⟨h0,h1,h2,h3,h4,h5⟩:=h;refine⟨?_,?_,?_,?_,?_,?_⟩<;>(rw[hb.cell hl];assumption)
end
section
open Go.RowKit
def Rq.nf(r:Rq):Rq:={ r with da:=none,dc:=0,ta:=none,tc:=0 }
structure Cl where
 kind:Int
 pl:Int
 data:ByteArray
 left:List Int
 gO:ByteArray
 err:Int
def zn:Cl:=⟨0,0,bE,[],bE,0⟩
structure Sk where
 dev:Dl
 f:Int->Int
 cl:List Cl
 hand:List Bf
 queue:List Rq
 dQ:Tn
 bI:Int
 tags:Int
 az:Int
 dead:Bool
 ag:Nat
def Dl.nf(d:Dl):Dl:={ d with busy:=d.busy.map Rq.nf }
def Sk.nf(s:Sk):Sk:={ s with dev:=s.dev.nf,queue:=s.queue.map Rq.nf }
def Sk.ao(p:Sk)(i:Nat):Cl:=p.cl.getD i zn
def Sk.held(p:Sk)(pl:Int):Bool:=(p.queue++p.dev.busy).any fun r=>dO r.f r.m pl
def fa(l:List Bf)(pl:Int):Option Bf:=l.find? (eP pl)
def bW(l:List Bf):Nat:=(l.filter fun x=>x.bM).length
def bY(l:List Bf)(pl:Int):Bool:=match fa l pl with|some x=>x.bM|none=>false
def jw(l:List Bf)(x:Bf)(H:Int->Bool):Option (List Bf) :=
 if 0<=ej (eP x.pl) l then some (l.set (ej (eP x.pl) l).toNat x)
 else if l.length<8 then some (pV l x)
 else if 0<=dz (eu false H) l l.length then some (pV (l.eraseIdx (dz (eu false H) l l.length).toNat) x)
 else none
def FK(a b:Rq):Rq:=⟨a.wr,a.f,a.m+b.m,none,0,a.data++b.data,none,0,a.tags++b.tags,min a.born b.born⟩
def yv(o r:Rq):Rq:=if gy o r=true then FK o r else FK r o
def mP(l:List Rq)(r:Rq):Option (List Rq) :=
 if l.any (iX r)=true then none else match l.findIdx? (fun o=>jx o r) with
  |some k=>some (l.set k (yv (l.getD k r) r))
  |none=>if l.length<6 then some (l++[r]) else none
def Sk.ni(p:Sk)(pl:Int)(wr:Bool)(data:List ByteArray):Rq:=⟨wr,pl,1,none,0,data,none,0,[p.tags+1],p.bI⟩
def Sk.gI(p:Sk)(pl:Int)(wr:Bool)(data:List ByteArray):Bool × Sk:=match mP p.queue (p.ni pl wr data) with
 |some l=>(true,{ p with queue:=l,tags:=p.tags+1 })
 |none=>(false,p)
def Sk.answer(p:Sk)(i:Nat)(s:ByteArray)(e:Int):Sk:={ p with cl:=p.cl.set i ⟨0,0,bE,[],s,e⟩ }
def Sk.gd(p:Sk)(i:Nat):Sk:=match fa p.hand (p.ao i).pl with
 |some b=>({ p with az:=p.az+1,hand:=kT p.hand (p.ao i).pl (p.az+1) }:Sk).answer i b.data 0
 |none=>if p.held (p.ao i).pl=true then p else(p.gI (p.ao i).pl false []).2
def Sk.dH(p:Sk)(i:Nat):Sk :=
 if p.dead=true then p.answer i bE 9
 else if 6<=bW p.hand/\bY p.hand (p.ao i).pl=false then p
 else match jw p.hand ⟨(p.ao i).pl,(p.ao i).data,true,p.az+1⟩ p.held with
  |some l=>({ p with az:=p.az+1,hand:=l }:Sk).answer i bE 0
  |none=>{ p with az:=p.az+1 }
def Sk.eQ(p:Sk)(i:Nat):Sk :=
 if p.dead=true then p.answer i bE 9
 else if(p.ao i).left.filter (bY p.hand)=[] then({ p with dev:=p.dev.flush }:Sk).answer i bE 0
 else { p with cl:=p.cl.set i { p.ao i with left:=(p.ao i).left.filter (bY p.hand) } }
def Sk.aY(p:Sk)(i:Nat):Sk :=
 if(p.ao i).kind=1 then p.gd i else if(p.ao i).kind=2 then p.dH i else if(p.ao i).kind=3 then p.eQ i else p
def Sk.serve(p:Sk):Sk:=((p.aY 0).aY 1).aY 2
def Sk.waits(p:Sk)(c:Int):Bool:=decide (0<=c/\c<3)&&!((p.ao c.toNat).kind==0)
def dy(c kind pl:Int)(data:ByteArray):Int :=
 if ¬(0<=c/\c<3)\/¬(1<=kind/\kind<=3) then 3
 else if pl<0\/32<=pl\/(kind=3/\¬pl=0) then 1
 else if 4<data.size\/(¬kind=2/\¬data.size=0) then 1
 else 0
def bU(l:List Bf):List Int:=(l.filter fun x=>x.bM).map Bf.pl
def Sk.asks(p:Sk)(c:Nat)(kind pl:Int)(data:ByteArray):Sk :=
 { p with cl:=p.cl.set c { p.ao c with kind:=kind,pl:=pl,data:=data,left:=if kind=3 then bU p.hand else(p.ao c).left } }
def Sk.ask(p:Sk)(c kind pl:Int)(data:ByteArray):Int × Sk :=
 if ¬dy c kind pl data=0 then(dy c kind pl data,p)
 else if p.waits c=true then(6,p)
 else(0,(p.asks c.toNat kind pl data).serve)
def Sk.tick(p:Sk):Sk:=({ p with bI:=if p.bI+1<1000000000 then p.bI+1 else 1000000000 }:Sk).serve
def Sk.ec(p:Sk):Bool:=p.cl.any fun c=>(c.kind==2)||(c.kind==3)
def jT(l:List Bf)(H:Int->Bool):Int:=if 0<=dz (eu true H) l l.length then(l.getD (dz (eu true H) l l.length).toNat ⟨0,bE,false,0⟩).pl else -1
def Sk.clean(p:Sk):Bool × Sk :=
 if p.dead=true\/(bW p.hand<3/\p.ec=false) then(false,p)
 else if jT p.hand p.held<0 then(false,p)
 else p.gI (jT p.hand p.held) true [((fa p.hand (jT p.hand p.held)).getD ⟨0,bE,false,0⟩).data]
def vE(l:List Rq)(i:Int):Int:=match l[i.toNat]? with|some r=>r.f+r.m|none=>0
def uH(l:List Rq)(i:Int):Int:=match l[i.toNat]? with|some r=>r.born|none=>0
def sE(l:List Rq)(T:Tn)(now:Int):Int :=
 if lB T.w<=now-uH l (dG T.w l) then dG T.w l else if 0<=fX T.w T.p l then fX T.w T.p l else fX T.w 0 l
def jR(l:List Rq)(t:Tn)(now:Int):Int × Tn :=
 if 0<t.g/\t.g<3/\0<=fX t.w t.p l then(fX t.w t.p l,⟨t.w,t.g+1,t.s,vE l (fX t.w t.p l)⟩)
 else
  (sE l (dh (decide (0<=dG false l)) (decide (0<=dG true l)) t) now,⟨(dh (decide (0<=dG false l)) (decide (0<=dG true l)) t).w,1,(dh (decide (0<=dG false l)) (decide (0<=dG true l)) t).s,vE l (sE l (dh (decide (0<=dG false l)) (decide (0<=dG true l)) t) now)⟩)
def Sk.bf(p:Sk):Bool × Sk :=
 if p.queue=[]\/2<=p.dev.busy.length then(false,p)
 else(true,{ p with dev:={ p.dev with busy:=p.dev.busy++(p.queue[(jR p.queue p.dQ p.bI).1.toNat]?).toList },queue:=p.queue.eraseIdx (jR p.queue p.dQ p.bI).1.toNat,dQ:=(jR p.queue p.dQ p.bI).2 })
def Sk.cO(p:Sk)(F:Int->Bool)(s:ByteArray)(e:Int):Sk:={ p with cl:=p.cl.map fun c=>if c.kind=1/\F c.pl=true then⟨0,0,bE,[],s,e⟩ else c }
def Sk.dJ(p:Sk)(pl:Int)(s:ByteArray):Sk :=
 match fa p.hand pl with
 |some _=>p
 |none=>match jw p.hand ⟨pl,s,false,p.az+1⟩ p.held with
  |some l=>({ p with hand:=l,az:=p.az+1 }:Sk).cO (fun x=>x==pl) s 0
  |none=>p.cO (fun x=>x==pl) s 0
def Sk.en(r:Rq)(xs:List ByteArray)(p:Sk)(j:Nat):Sk :=
 if r.wr=true then { p with hand:=fO p.hand (r.f+j) (r.data.getD j bE) } else p.dJ (r.f+j) (xs.getD j bE)
def Sk.cT(p:Sk)(r:Rq)(xs:List ByteArray)(n:Nat):Sk:=(List.range n).foldl (fun q j=>q.en r xs j) p
def Sk.oB(p:Sk)(r:Rq)(xs:List ByteArray):Sk:=p.cT r xs r.m.toNat
def Sk.bD(p:Sk)(k:Nat):Sk:={ p with dev:={ p.dev with busy:=p.dev.busy.eraseIdx k } }
def Sk.cr(p:Sk)(r:Rq):Sk:={ p with dev:=p.dev.cr r,f:=fun t=>if t=r.tags.getD 0 0 then 0 else p.f t }
def Sk.again(p:Sk)(r:Rq):Sk:={ p with dev:={ p.dev with busy:=p.dev.busy++[r] },f:=fun t=>if t=r.tags.getD 0 0 then p.f t+1 else p.f t,ag:=p.ag+1 }
def Sk.lost(p:Sk)(r:Rq):Sk:={ p with f:=fun t=>if t=r.tags.getD 0 0 then 0 else p.f t }
def Sk.cz(p:Sk)(i:Int)(fault:Bool):Int × Sk :=
 if i<0 then(5,p) else match p.dev.busy[i.toNat]? with
 |none=>(5,p)
 |some r =>
  if fault=false then(0,(((p.bD i.toNat).cr r).oB r (cW p.dev r)).serve)
  else if p.f (r.tags.getD 0 0)<2 then(0,(p.bD i.toNat).again r)
  else if r.wr=true then(0,({ (p.bD i.toNat).lost r with dead:=true }:Sk).serve)
  else(0,(((p.bD i.toNat).lost r).cO (fun x=>dO r.f r.m x) bE 8).serve)
def Sk.quiet(p:Sk):Bool:=(!(p.waits 0)&&(!(p.waits 1)&&!(p.waits 2)))&&(p.queue.isEmpty&&p.dev.busy.isEmpty)
def Sk.bP(p:Sk):Nat->Sk
 |0=>p
 |n+1=>if p.bf.1=true then p.bf.2.bP n else p
def Sk.round(p:Sk):Sk:=(p.tick.clean.2.bP 3).cz 0 false |>.2
def Sk.settle(p:Sk):Nat->Nat × Sk
 |0=>(0,p)
 |n+1=>if p.quiet=true then(0,p) else((p.round.settle n).1+1,(p.round.settle n).2)
def oQ:Sk:=⟨d0,fun _=>0,[zn,zn,zn],[],[],⟨false,0,0,0⟩,0,0,0,false,0⟩
theorem gq(l:List Bf)(pl:Int):(fa l pl=none/\ej (eP pl) l=-1)\/∃(k:Nat) (hk:k<l.length),fa l pl=some l[k]/\ej (eP pl) l=k/\l[k].pl=pl:=by
 rcases jF (eP pl) l with⟨h1,h2⟩|⟨k,hk,h1,h2,h3⟩
 ·refine il ⟨?_,h1⟩;rw[fa,List.find?_eq_none];intro x hx;obtain⟨j,hj,rfl⟩:=abM hx;rw[h2 j hj];simp
 ·refine ir ⟨k,hk,?_,h1,by simpa [eP] using h2⟩;rw[fa,List.find?_eq_some_iff_getElem];exact⟨h2,k,hk,rfl,fun j hj=>by rw[h3 j hj];rfl⟩
theorem BH{l:List Bf}{pl:Int}{x:Bf}(h:fa l pl=some x):x∈l/\x.pl=pl:=by
 rcases gq l pl with⟨h1,_⟩|⟨k,hk,h1,_,h3⟩
 ·rw[h1] at h;cases h
 ·rw[h1] at h;obtain rfl:=abY h;exact⟨aa5 hk,h3⟩
theorem SI{l:List Bf}{pl:Int}(h:fa l pl=none):∀x∈l,x.pl ≠ pl:=fun x hx e=>by
 rw[fa,List.find?_eq_none] at h;have:=h x hx
 simp[eP,e] at this
theorem rJ{l:List Bf}(hr:l.Pairwise rj){x:Bf}(hx:x∈l):fa l x.pl=some x:=by
 obtain⟨j,hj,hi,e⟩:=abE hr hx
 rcases gq l x.pl with⟨_,h2⟩|⟨k,hk,h1,h2,_⟩
 ·rw[h2] at hi;omega
 ·obtain rfl:k=j:=oM;rw[h1,e]
theorem F8{l:List Bf}{x:Bf}{H:Int->Bool}{m:List Bf}(h8:l.length<=8)(h:jw l x H=some m):CG l x H m:=by
 unfold jw at h
 rcases gq l x.pl with⟨_,h2⟩|⟨k,hk,_,h2,_⟩
 ·rw[h2,aaP oM] at h
  by_cases h3:l.length<8
  ·rw[aaV h3] at h;exact ir (il ⟨h2,h3,(abY h).symm⟩)
  ·rw[aaP h3] at h
   rcases jz (eu false H) l l.length (aaO _) with⟨hr,_⟩|⟨k,hk,_,hr,_⟩
   ·rw[hr,aaP oM] at h;cases h
   ·rw[hr,aaV oM] at h;exact ir (ir ⟨h2,oM,k,hk,hr,(abY h).symm⟩)
 ·rw[h2,aaV oM] at h;exact il ⟨k,hk,h2,(abY h).symm⟩
structure jZ(l:List Bf):Prop where
 mr:l.Pairwise rj
 len:l.length<=8
 sY:∀x∈l,0<=x.pl/\x.pl<=31/\x.data.size<=4
theorem jZ.Fg{l:List Bf}(h:jZ l):kZ l:=by
 refine⟨h.len,fun i hi=>?_,fun i hi=>?_⟩
 ·have:=h.sY _ (aa5 hi)
  omega
 ·exact ac7.1 h.mr i (i+1) oM hi oM
theorem jZ.once{l:List Bf}(h:jZ l):xQ l:=h.Fg.once
theorem iQ(l:List Bf):bW l=l.countP (fun x=>x.bM):=by rw[bW,List.countP_eq_length_filter]
theorem Dy(l:List Bf)(x:Bf):bW (pV l x)=bW l+if x.bM=true then 1 else 0:=by
 have e:bW l=(l.take (lQ x.pl l)).countP (fun x=>x.bM)+(l.drop (lQ x.pl l)).countP (fun x=>x.bM):=by rw[iQ,<-afx,ab8]
 rw[e,iQ,pV,afx,agq]
 omega
theorem E8{l:List Bf}{k:Nat}(hk:k<l.length)(x:Bf):bW (l.set k x)+(if l[k].bM=true then 1 else 0)=bW l+if x.bM=true then 1 else 0:=by
 have e:bW l=(l.take k).countP (fun x=>x.bM)+((l.drop (k+1)).countP (fun x=>x.bM)+if l[k].bM=true then 1 else 0):=by
  have:=afx (p:=fun x:Bf=>x.bM) (l₁:=l.take k) (l₂:=l.drop k);rw[ab8,afq hk,agq] at this;rw[iQ];exact this
 rw[e,iQ,agl,aaV hk,afx,agq]
 omega
theorem KL{l:List Bf}{k:Nat}(hk:k<l.length)(hd:l[k].bM=false):bW (l.eraseIdx k)=bW l:=by
 have e:bW l=(l.take k).countP (fun x=>x.bM)+((l.drop (k+1)).countP (fun x=>x.bM)+if l[k].bM=true then 1 else 0):=by
  have:=afx (p:=fun x:Bf=>x.bM) (l₁:=l.take k) (l₂:=l.drop k);rw[ab8,afq hk,agq] at this;rw[iQ];exact this
 rw[e,hd,iQ,ack,afx]
 simp
theorem M5{l:List Bf}{pl:Int}:bY l pl=true↔∃x,fa l pl=some x/\x.bM=true:=by
 unfold bY
 cases fa l pl with
 |none=>simp
 |some x=>simp
theorem PY{H:Int->Bool}{x:Bf}(h:eu false H x=true):x.bM=false/\H x.pl=false:=by
 simp only[eu,abW,ac3,afY] at h;exact h
theorem SG{H:Int->Bool}{x:Bf}:eu true H x=true↔x.bM=true/\H x.pl=false:=by
 simp only[eu,abW,ac3,afY]
structure aeq(l:List Bf)(x:Bf)(H:Int->Bool)(m:List Bf):Prop where
 ok:(0<=x.pl/\x.pl<=31/\x.data.size<=4)->jZ m
 same:fa m x.pl=some x
 other:∀pl,pl ≠ x.pl->fa m pl=fa l pl\/(fa m pl=none/\l.length=8/\∃y,fa l pl=some y/\y.bM=false/\H pl=false)
 mem:∀y∈m,y=x\/y∈l
 bM:bW m<=bW l+if x.bM=true then 1 else 0
 abR:bY l x.pl=true->bW m<=bW l
theorem uW{l:List Bf}{x:Bf}{H:Int->Bool}{m:List Bf}(h:jZ l)(hp:jw l x H=some m):aeq l x H m:=by
 have hM:=F8 h.len hp;obtain⟨K,F⟩:=hM.facts h.Fg;have mq:∀y∈m,y=x\/y∈l:=by
  intro y hy
  rcases hM with⟨k,hk,_,rfl⟩|⟨_,_,rfl⟩|⟨_,_,k,hk,_,rfl⟩
  ·rcases acb hy with h'|h'
   ·exact ir h'
   ·exact il h'
  ·exact ou.1 hy
  ·exact(ou.1 hy).imp id abo
 have vK:fa m x.pl=some x:=rJ F.mr F.has;refine⟨fun hx=>⟨F.mr,F.len,fun y hy=>?_⟩,vK,fun pl aE=>?_,mq,?_,?_⟩
 ·rcases mq y hy with rfl|h'
  ·exact hx
  ·exact h.sY y h'
 ·cases hl:fa l pl with
  |none =>
   left
   cases hm:fa m pl with
   |none=>rfl
   |some y =>
    obtain⟨h1,h2⟩:=BH hm
    rcases mq y h1 with rfl|h'
    ·exact absurd h2.symm aE
    ·exact absurd h2 (SI hl y h')
  |some y =>
   obtain⟨h1,h2⟩:=BH hl;obtain⟨i,hi,rfl⟩:=abM h1
   by_cases e:i=K
   ·subst e;obtain⟨g1,g2,g3,g4,g5⟩:=F.gone hi
    right
    refine⟨?_,g1,l[i],rfl,g2,by rw[<-h2];exact g3⟩;rw[h2] at g4
    rcases gq m pl with⟨k1,_⟩|⟨k,hk,_,k2,_⟩
    ·exact k1
    ·omega
   ·left
    have:=rJ F.mr (F.kept i hi (by rw[h2];exact aE) e);rw[h2] at this;exact this
 ·rcases hM with⟨k,hk,_,rfl⟩|⟨_,_,rfl⟩|⟨_,_,k,hk,hr,rfl⟩
  ·have:=E8 hk x;omega
  ·rw[Dy];omega
  ·have hf:eu false H l[k]=true:=by
    rcases jz (eu false H) l l.length (aaO _) with⟨h1,_⟩|⟨k',eH,_,h1,h2,_⟩
    ·omega
    ·obtain rfl:k=k':=oM;exact h2
   rw[Dy,KL hk (PY hf).1];omega
 ·intro hd;obtain⟨y,hy,Y2⟩:=M5.1 hd
  rcases hM with⟨k,hk,hi,rfl⟩|⟨hi,_,rfl⟩|⟨hi,_,k,hk,hr,rfl⟩
  ·rcases gq l x.pl with⟨k1,_⟩|⟨k',eH,k1,k2,_⟩
   ·rw[k1] at hy;cases hy
   ·obtain rfl:k=k':=oM;rw[k1] at hy;obtain rfl:=abY hy;have:=E8 hk x;rw[Y2] at this;simp only[afj] at this
    split at this<;>omega
  ·rcases gq l x.pl with⟨k1,_⟩|⟨k',eH,k1,k2,_⟩
   ·rw[k1] at hy;cases hy
   ·omega
  ·rcases gq l x.pl with⟨k1,_⟩|⟨k',eH,k1,k2,_⟩
   ·rw[k1] at hy;cases hy
   ·omega
theorem Uo{l:List Bf}{x:Bf}{H:Int->Bool}(h:jZ l)(hp:jw l x H=none):fa l x.pl=none/\l.length=8/\∀y∈l,y.bM=false->H y.pl=true:=by
 unfold jw at hp
 rcases gq l x.pl with⟨h1,h2⟩|⟨k,hk,_,h2,_⟩
 ·rw[h2,aaP oM] at hp
  by_cases h3:l.length<8
  ·rw[aaV h3] at hp;cases hp
  ·rw[aaP h3] at hp;have:=h.len;refine⟨h1,oM,fun y hy hd=>?_⟩
   rcases jz (eu false H) l l.length (aaO _) with⟨_,h4⟩|⟨k,hk,_,hr,_⟩
   ·obtain⟨j,hj,rfl⟩:=abM hy;have:=h4 j hj hj;simp only[eu,hd] at this
    simpa using this
   ·rw[hr,aaV oM] at hp;cases hp
 ·rw[h2,aaV oM] at hp;cases hp
theorem W3(l:List Bf)(g:Bf->Bf)(hg:∀x,(g x).pl=x.pl)(pl:Int):fa (l.map g) pl=(fa l pl).map g:=by
 unfold fa;rw[List.find?_map]
 congr 2
 funext x
 simp[eP,hg]
theorem jZ.map{l:List Bf}(h:jZ l)(g:Bf->Bf)(hg:∀x,(g x).pl=x.pl/\(g x).data=x.data):jZ (l.map g):=by
 refine⟨?_,by rw[abe];exact h.len,fun y hy=>?_⟩
 ·rw[agL];exact h.mr.imp (fun {a b} hab=>by simp only[rj,(hg a).1,(hg b).1] at *;exact hab)
 ·obtain⟨x,hx,rfl⟩:=acM.1 hy;rw[(hg x).1,(hg x).2];exact h.sY x hx
theorem jZ.kT{l:List Bf}(h:jZ l)(pl u:Int):jZ (kT l pl u):=h.map _ (fun x=>by split<;>exact⟨rfl,rfl⟩)
theorem jZ.fO{l:List Bf}(h:jZ l)(pl:Int)(s:ByteArray):jZ (fO l pl s):=h.map _ (fun x=>by split<;>exact⟨rfl,rfl⟩)
theorem KO(l:List Bf)(g:Bf->Bf)(hg:∀x,(g x).bM=x.bM):bW (l.map g)=bW l:=by
 rw[iQ,iQ,List.countP_map]
 congr 1
 funext x
 exact hg x
theorem KP(l:List Bf)(g:Bf->Bf)(hg:∀x,(g x).bM=true->x.bM=true):bW (l.map g)<=bW l:=by
 rw[iQ,iQ,List.countP_map];exact List.countP_mono_left (fun x _ hx=>hg x hx)
theorem PW(l:List Bf)(pl u:Int):bW (kT l pl u)=bW l:=KO l _ (fun x=>by split<;>rfl)
theorem KN(l:List Bf)(pl:Int)(s:ByteArray):bW (fO l pl s)<=bW l:=KP l _ (fun x=>by split<;>simp)
def Rq.on(q:Rq)(a:Int):Prop:=q.f<=a/\a<q.f+q.m
def qT(q:Rq)(a:Int):ByteArray:=q.data.getD (a-q.f).toNat bE
def oD(x y:Rq):Prop:=∀a:Int,x.on a->y.on a->False
theorem oD.symm{x y:Rq}(h:oD x y):oD y x:=fun a h1 h2=>h a h2 h1
theorem DS{o r:Rq}(go:bz o)(gr:bz r):iX r o=false↔oD o r:=by
 rw[iX,LJ _ _ _ _ (F6 go.ok) (F6 gr.ok),acv];have h1:=go.uG;have h2:=gr.uG
 constructor
 ·intro h a ⟨a1,a2⟩ ⟨a3,a4⟩;exact h ⟨oM,oM⟩
 ·intro h ⟨h3,h4⟩
  by_cases e:o.f<=r.f
  ·exact h r.f ⟨e,oM⟩ ⟨oM,oM⟩
  ·exact h o.f ⟨oM,oM⟩ ⟨oM,oM⟩
theorem K5{r:Rq}(gr:bz r)(a:Int)(ha:a<=9223372036854775807):dO r.f r.m a=true↔r.on a:=by
 rw[vV r.f r.m 4 a gr.ok ha]
 simp[gU,Rq.on]
theorem Ql{o r:Rq}(h:jx o r=true):xJ o r (yv o r):=by
 have hb:∀a b:Rq,j6 a b (FK a b):=fun a b=>⟨rfl,rfl,rfl,rfl,rfl,rfl⟩
 unfold yv
 by_cases h1:gy o r=true
 ·rw[aaV h1];exact il ⟨h1,hb o r⟩
 ·rw[aaP h1];have tH:gy o r=false:=by simpa using h1
  have h2:gy r o=true:=by simpa [jx,tH] using h
  exact ir ⟨tH,h2,hb r o⟩
theorem Qm(o r:Rq):∀t∈(yv o r).tags,t∈o.tags\/t∈r.tags:=by
 unfold yv;intro t ht
 split at ht
 ·exact abh.1 ht
 ·exact(abh.1 ht).symm
theorem C0{q:Rq}{a:Int}:gU q.f q.m a=true↔q.on a:=by simp[gU,Rq.on]
theorem Joined.on{a b q:Rq}(h:Joined a b q)(x:Int):q.on x↔a.on x\/b.on x:=by
 rw[<-C0,<-C0,<-C0,h.has,afS]
theorem Joined.PR{a b q:Rq}(ga:bz a)(h:Joined a b q){x:Int}(hx:a.on x):qT q x=qT a x:=by
 cases hw:q.wr with
 |true =>
  obtain⟨i,j,e1,e2,hi,hj,e⟩:=h.ina hw x (C0.2 hx);unfold qT;rw[e1,e2,abG,abG,abd,abd,aaX hi,aaX hj,acO,acO,e]
 |false =>
  have h1:=h.bO.Gp hw;have h2:=ga.Gp (h.Zn▸hw);unfold qT;rw[h1,h2];rfl
theorem Joined.YE{a b q:Rq}(gb:bz b)(h:Joined a b q){x:Int}(hx:b.on x):qT q x=qT b x:=h.swap.PR gb hx
structure aaN(l:List Rq)(r:Rq)(L:List Rq):Prop where
 bO:∀q∈L,bz q
 apart:L.Pairwise oD
 len:L.length<=6\/L.length=l.length
 gS:∀q∈L,∀a,q.on a->∃q'∈r::l,q'.on a/\q'.wr=q.wr/\qT q' a=qT q a
 to':∀q'∈r::l,∀a,q'.on a->∃q∈L,q.on a/\q.wr=q'.wr/\qT q a=qT q' a
 tags:∀q∈L,∀t∈q.tags,∃q'∈r::l,t∈q'.tags
 ne:L ≠ []
theorem R3{l L:List Rq}{r:Rq}(gl:∀q∈l,bz q)(gr:bz r)(ha:l.Pairwise oD)(h:mP l r=some L):aaN l r L:=by
 unfold mP at h
 by_cases hm:l.any (iX r)=true
 ·rw[aaV hm] at h;cases h
 rw[aaP hm] at h;have hr:∀q∈l,oD q r:=fun q hq=>(DS (gl q hq) gr).1 (by
  cases e:iX r q with
  |false=>rfl
  |true=>exact absurd (afo.2 ⟨q,hq,e⟩) hm)
 have hp:=ac7.1 ha
 cases hf:l.findIdx? (fun o=>jx o r) with
 |some k =>
  rw[hf] at h;obtain⟨hk,ht,_⟩:=abX.1 hf;have eg:l.getD k r=l[k]:=by rw[abd,aaX hk,acO]
  simp only[eg] at h;obtain rfl:=abY h;have J:=(Ql ht).FM (gl _ (aa5 hk)) gr;have gk:=gl _ (aa5 hk);generalize hq:yv l[k] r=Q at *;have acU:∀i (hi:i<(l.set k Q).length),(i=k/\(l.set k Q)[i]=Q)\/(i ≠ k/\∃pL:i<l.length,(l.set k Q)[i]=l[i]):=fun i hi=>by
   rw[abS] at hi
   by_cases e:i=k
   ·subst e;exact il ⟨rfl,sM⟩
   ·exact ir ⟨e,hi,by rw[afb (fun h=>e h.symm)]⟩
  have YM:Q∈l.set k Q:=List.mem_set hk Q;have adZ:∀i (hi:i<l.length),i ≠ k->l[i]∈l.set k Q:=fun i hi e=>by
   have pL:i<(l.set k Q).length:=by rw[abS];exact hi
   have:=aa5 pL;rw[afb (fun h=>e h.symm)] at this;exact this
  refine⟨fun q cI=>?_,?_,ir (by rw[abS]),fun q cI a qw=>?_,fun q' cI a qw=>?_,fun q cI t yk=>?_,fun e=>by rw[e] at YM;cases YM⟩
  ·rcases acb cI with h'|rfl
   ·exact gl q h'
   ·exact J.bO
  ·rw[ac7];intro i j hi hj qB
   rcases acU i hi with⟨e1,e2⟩|⟨e1,pL,e2⟩<;>rcases acU j hj with⟨f1,f2⟩|⟨f1,nB,f2⟩
   ·omega
   ·rw[e2,f2];intro a h1 h2;subst e1
    rcases(J.on a).1 h1 with h3|h3
    ·exact hp i j hk nB qB a h3 h2
    ·exact hr _ (aa5 nB) a h2 h3
   ·rw[e2,f2];intro a h1 h2;subst f1
    rcases(J.on a).1 h2 with h3|h3
    ·exact hp i j pL hk qB a h1 h3
    ·exact hr _ (aa5 pL) a h1 h3
   ·rw[e2,f2];exact hp i j pL nB qB
  ·rcases acb cI with h'|rfl
   ·exact⟨q,acs _ h',qw,rfl,rfl⟩
   ·rcases(J.on a).1 qw with h1|h1
    ·exact⟨l[k],acs _ (aa5 hk),h1,J.Zn.symm,(J.PR gk h1).symm⟩
    ·exact⟨r,acd,h1,J.wrb.symm,(J.YE gr h1).symm⟩
  ·rcases acj.1 cI with rfl|h'
   ·exact⟨Q,YM,(J.on a).2 (ir qw),J.wrb,J.YE gr qw⟩
   ·obtain⟨i,hi,rfl⟩:=abM h'
    by_cases e:i=k
    ·subst e;exact⟨Q,YM,(J.on a).2 (il qw),J.Zn,J.PR gk qw⟩
    ·exact⟨l[i],adZ i hi e,qw,rfl,rfl⟩
  ·rcases acb cI with h'|rfl
   ·exact⟨q,acs _ h',yk⟩
   ·rw[<-hq] at yk
    rcases Qm _ _ t yk with h1|h1
    ·exact⟨l[k],acs _ (aa5 hk),h1⟩
    ·exact⟨r,acd,h1⟩
 |none =>
  rw[hf] at h;simp only at h
  by_cases h6:l.length<6
  ·rw[aaV h6] at h;obtain rfl:=abY h;refine⟨fun q hq=>?_,?_,il (by simp;omega),fun q hq a qw=>?_,fun q' cI a qw=>?_,fun q hq t ht=>?_,sM⟩
   ·rcases abh.1 hq with h'|h'
    ·exact gl q h'
    ·rw[abq.1 h'];exact gr
   ·rw[ac6];exact⟨ha,afR _ _,fun a qw b hJ=>by rw[abq.1 hJ];exact hr a qw⟩
   ·refine⟨q,?_,qw,rfl,rfl⟩
    rcases abh.1 hq with h'|h'
    ·exact acs _ h'
    ·rw[abq.1 h'];exact acd
   ·refine⟨q',?_,qw,rfl,rfl⟩
    rcases acj.1 cI with rfl|h'
    ·exact aa8 _ acd
    ·exact abn _ h'
   ·refine⟨q,?_,ht⟩
    rcases abh.1 hq with h'|h'
    ·exact acs _ h'
    ·rw[abq.1 h'];exact acd
  ·rw[aaP h6] at h;cases h
structure GC(c:Cl):Prop where
 kind:0<=c.kind/\c.kind<=3
 pl:¬c.kind=0->0<=c.pl/\c.pl<=31
 data:c.data.size<=4
 left:∀t∈c.left,0<=t/\t<=31
theorem oz:ByteArray.empty.size=0:=rfl
theorem Lu(s:ByteArray)(e:Int):GC ⟨0,0,bE,[],s,e⟩:=⟨⟨afw 0,by show(0:Int)<=3;omega⟩,fun h=>absurd rfl h,by show ByteArray.empty.size<=4;rw[oz];omega,fun t ht=>by cases ht⟩
theorem Sf:GC zn:=Lu _ _
structure bg(p:Sk):Prop where
 fV:p.cl.length=3
 oE:∀c∈p.cl,GC c
 hand:jZ p.hand
 d6:bW p.hand<=6
 bO:∀r∈p.queue++p.dev.busy,bz r
 apart:(p.queue++p.dev.busy).Pairwise oD
 q6:p.queue.length<=6
 b2:p.dev.busy.length<=2
 kr:0<=p.bI/\p.bI<=1000000000
 tg:0<=p.tags
 us:0<=p.az
 pz:∀r∈p.queue++p.dev.busy,∀t∈r.tags,1<=t/\t<=p.tags
 dv:p.dev.now.length=32
 fY:p.dev.bO.length=32
 ts:0<=p.dQ.s/\p.dQ.s<=2
 fr:∀t,0<=p.f t/\p.f t<=2
section
variable{p:Sk}
theorem bg.ao(h:bg p)(i:Nat):GC (p.ao i):=by
 unfold Sk.ao;rw[abd]
 cases e:p.cl[i]? with
 |none=>exact Sf
 |some c=>exact h.oE c (acg e)
theorem bg.Rh(h:bg p)(i:Nat)(c:Cl)(hc:GC c):bg { p with cl:=p.cl.set i c } :=
 ⟨by show(p.cl.set i c).length=3;rw[abS];exact h.fV,fun x hx=>(acb hx).elim (h.oE x) (fun e=>e▸hc),h.hand,h.d6,h.bO,h.apart,h.q6,h.b2,h.kr,h.tg,h.us,h.pz,h.dv,h.fY,h.ts,h.fr⟩
theorem bg.answer(h:bg p)(i:Nat)(s:ByteArray)(e:Int):bg (p.answer i s e):=h.Rh i _ (Lu s e)
theorem bg.fT(h:bg p)(l:List Bf)(u:Int)(hl:jZ l)(hd:bW l<=6)(hu:0<=u):bg { p with hand:=l,az:=u } :=
 ⟨h.fV,h.oE,hl,hd,h.bO,h.apart,h.q6,h.b2,h.kr,h.tg,hu,h.pz,h.dv,h.fY,h.ts,h.fr⟩
theorem Lb(h:bg p)(pl:Int)(bV:pl<=31):p.held pl=false↔∀r∈p.queue++p.dev.busy,¬r.on pl:=by
 unfold Sk.held;rw[afZ]
 constructor
 ·intro h1 r hr ho;exact h1 r hr ((K5 (h.bO r hr) pl oM).2 ho)
 ·intro h1 r hr ho;exact h1 r hr ((K5 (h.bO r hr) pl oM).1 ho)
theorem tt(h:bg p)(pl:Int)(bV:0<=pl/\pl<=31)(wr:Bool)(data:List ByteArray)(hd:(wr=true/\data.length=1/\∀s∈data,s.size<=4)\/(wr=false/\data=[])):bz (p.ni pl wr data):=by
 refine⟨by show gK pl 1 4=true;simp only[gK,aba];omega,?_,by simp[Sk.ni],by simp[Sk.ni],h.kr.1,h.kr.2,?_⟩
 ·rcases hd with⟨rfl,h1,_⟩|⟨rfl,rfl⟩
  ·simp[Sk.ni,kY,h1]
  ·simp[Sk.ni,kY]
 ·rcases hd with⟨_,_,h2⟩|⟨_,rfl⟩
  ·simp only[Sk.ni,oR,agp,aba];exact h2
  ·rfl
theorem Md(pl:Int)(wr:Bool)(data:List ByteArray)(a:Int):(p.ni pl wr data).on a↔a=pl:=by
 simp only[Rq.on,Sk.ni];omega
theorem vz(pl:Int)(wr:Bool)(data:List ByteArray):(mP p.queue (p.ni pl wr data)=none/\p.gI pl wr data=(false,p))\/∃L,mP p.queue (p.ni pl wr data)=some L/\p.gI pl wr data=(true,{ p with queue:=L,tags:=p.tags+1 }):=by
 unfold Sk.gI
 cases e:mP p.queue (p.ni pl wr data) with
 |none=>exact il ⟨rfl,rfl⟩
 |some L=>exact ir ⟨L,rfl,rfl⟩
theorem bg.queue(h:bg p):(∀q∈p.queue,bz q)/\p.queue.Pairwise oD:=⟨fun q hq=>h.bO q (abn _ hq),(ac6.1 h.apart).1⟩
theorem bg.abB(h:bg p){pl:Int}(bV:0<=pl/\pl<=31){wr:Bool}{data:List ByteArray}(hd:(wr=true/\data.length=1/\∀s∈data,s.size<=4)\/(wr=false/\data=[])){L:List Rq}(e:mP p.queue (p.ni pl wr data)=some L):aaN p.queue (p.ni pl wr data) L :=
 R3 h.queue.1 (tt h pl bV wr data hd) h.queue.2 e
theorem bg.gI(h:bg p)(pl:Int)(bV:0<=pl/\pl<=31)(wr:Bool)(data:List ByteArray)(hd:(wr=true/\data.length=1/\∀s∈data,s.size<=4)\/(wr=false/\data=[]))(hh:p.held pl=false):bg (p.gI pl wr data).2:=by
 rcases vz (p:=p) pl wr data with⟨_,e⟩|⟨L,e1,e⟩
 ·rw[e];exact h
 ·rw[e];have A:=h.abB bV hd e1;have dV:=(Lb h pl bV.2).1 hh;have hap:=ac6.1 h.apart;refine⟨h.fV,h.oE,h.hand,h.d6,fun r hr=>?_,?_,?_,h.b2,h.kr,by show 0<=p.tags+1;have:=h.tg;omega,h.us,fun r hr t ht=>?_,h.dv,h.fY,h.ts,h.fr⟩
  ·rcases abh.1 hr with h'|h'
   ·exact A.bO r h'
   ·exact h.bO r (aa8 _ h')
  ·refine ac6.2 ⟨A.apart,hap.2.1,fun q hq b hb a h1 h2=>?_⟩;obtain⟨q',cI,h3,_,_⟩:=A.gS q hq a h1
   rcases acj.1 cI with rfl|h4
   ·rw[Md] at h3;subst h3;exact dV b (aa8 _ hb) h2
   ·exact hap.2.2 q' h4 b hb a h3 h2
  ·have:=h.q6;show L.length<=6
   rcases A.len with h'|h'<;>omega
  ·have TA:∀r∈p.queue++p.dev.busy,∀t∈r.tags,1<=t/\t<=p.tags+1:=fun r hr t ht=>by have:=h.pz r hr t ht;omega
   rcases abh.1 hr with h'|h'
   ·obtain⟨q',cI,yk⟩:=A.tags r h' t ht
    rcases acj.1 cI with rfl|h4
    ·have:t=p.tags+1:=by simpa [Sk.ni] using yk
     have:=h.tg;show 1<=t/\t<=p.tags+1
     omega
    ·exact TA q' (abn _ h4) t yk
   ·exact TA r (aa8 _ h') t ht
theorem bg.gd(h:bg p)(i:Nat)(hk:(p.ao i).kind=1):bg (p.gd i):=by
 have hc:=h.ao i;have bV:=hc.pl (by rw[hk];omega);unfold Sk.gd
 cases e:fa p.hand (p.ao i).pl with
 |some b=>exact(h.fT _ _ (h.hand.kT _ _) (by rw[PW];exact h.d6) (by have:=h.us;omega)).answer i _ _
 |none =>
  by_cases hh:p.held (p.ao i).pl=true
  ·simp only[hh,afj];exact h
  ·simp only[hh];exact h.gI _ bV _ _ (ir ⟨rfl,rfl⟩) (by simpa using hh)
theorem bg.dH(h:bg p)(i:Nat)(hk:(p.ao i).kind=2):bg (p.dH i):=by
 have hc:=h.ao i;have bV:=hc.pl (by rw[hk];omega);have hu:0<=p.az+1:=by have:=h.us;omega
 unfold Sk.dH
 by_cases hd:p.dead=true
 ·rw[aaV hd];exact h.answer i _ _
 rw[aaP hd]
 by_cases h6:6<=bW p.hand/\bY p.hand (p.ao i).pl=false
 ·rw[aaV h6];exact h
 rw[aaP h6]
 cases e:jw p.hand ⟨(p.ao i).pl,(p.ao i).data,true,p.az+1⟩ p.held with
 |none=>exact h.fT p.hand _ h.hand h.d6 hu
 |some l =>
  have P:=uW h.hand e;refine(h.fT l _ (P.ok ⟨bV.1,bV.2,hc.data⟩) ?_ hu).answer i _ _
  by_cases h7:bY p.hand (p.ao i).pl=true
  ·have:=P.abR h7;have:=h.d6
   omega
  ·have:=P.bM;simp only[afj] at this;have:¬6<=bW p.hand:=fun h'=>h6 ⟨h',by simpa using h7⟩
   omega
theorem bg.GQ(h:bg p):bg { p with dev:=p.dev.flush } :=
 ⟨h.fV,h.oE,h.hand,h.d6,h.bO,h.apart,h.q6,h.b2,h.kr,h.tg,h.us,h.pz,h.dv,h.dv,h.ts,h.fr⟩
theorem bg.eQ(h:bg p)(i:Nat):bg (p.eQ i):=by
 have hc:=h.ao i;unfold Sk.eQ
 by_cases hd:p.dead=true
 ·rw[aaV hd];exact h.answer i _ _
 rw[aaP hd]
 split
 ·exact h.GQ.answer i _ _
 ·exact h.Rh i _ ⟨hc.kind,hc.pl,hc.data,fun t ht=>hc.left t ((af8.1 ht).1)⟩
theorem bg.aY(h:bg p)(i:Nat):bg (p.aY i):=by
 unfold Sk.aY
 split
 ·exact h.gd i aM
 ·split
  ·exact h.dH i aM
  ·split
   ·exact h.eQ i
   ·exact h
theorem bg.serve(h:bg p):bg p.serve:=((h.aY 0).aY 1).aY 2
theorem KM(h:bg p):∀t∈bU p.hand,0<=t/\t<=31:=fun t ht=>by
 unfold bU at ht;obtain⟨x,hx,rfl⟩:=acM.1 ht;have:=h.hand.sY x ((af8.1 hx).1)
 omega
theorem mu{c kind pl:Int}{data:ByteArray}(h:dy c kind pl data=0):(0<=c/\c<3)/\(1<=kind/\kind<=3)/\(0<=pl/\pl<=31)/\(kind=3->pl=0)/\data.size<=4/\(¬kind=2->data.size=0):=by
 unfold dy at h
 split at h
 ·omega
 ·split at h
  ·omega
  ·split at h
   ·omega
   ·omega
theorem bg.asks(h:bg p)(c:Nat)(kind pl:Int)(data:ByteArray)(hk:1<=kind/\kind<=3)(bV:0<=pl/\pl<=31)(hd:data.size<=4):bg (p.asks c kind pl data):=by
 refine h.Rh c _ ⟨⟨by show 0<=kind;omega,hk.2⟩,fun _=>bV,hd,fun t ht=>?_⟩;have yk:t∈(if kind=3 then bU p.hand else(p.ao c).left):=ht
 split at yk
 ·exact KM h t yk
 ·exact(h.ao c).left t yk
theorem bg.ask(h:bg p)(c kind pl:Int)(data:ByteArray):bg (p.ask c kind pl data).2:=by
 unfold Sk.ask
 by_cases hf:dy c kind pl data=0
 ·rw[aaP (by simpa using hf)]
  split
  ·exact h
  ·have:=mu hf;exact(h.asks c.toNat kind pl data this.2.1 this.2.2.1 this.2.2.2.2.1).serve
 ·rw[aaV hf];exact h
theorem bg.tick(h:bg p):bg p.tick:=by
 refine bg.serve (p:={ p with bI:=if p.bI+1<1000000000 then p.bI+1 else 1000000000 }) ⟨h.fV,h.oE,h.hand,h.d6,h.bO,h.apart,h.q6,h.b2,?_,h.tg,h.us,h.pz,h.dv,h.fY,h.ts,h.fr⟩;have:=h.kr;show 0<=(if p.bI+1<1000000000 then p.bI+1 else 1000000000)/\(if p.bI+1<1000000000 then p.bI+1 else 1000000000)<=1000000000
 split<;>omega
theorem AJ(l:List Bf)(H:Int->Bool):(jT l H=-1/\∀x∈l,x.bM=true->H x.pl=true)\/∃x∈l,jT l H=x.pl/\x.bM=true/\H x.pl=false:=by
 unfold jT
 rcases jz (eu true H) l l.length (aaO _) with⟨h1,h2⟩|⟨k,hk,_,h1,h2,_⟩
 ·rw[h1,aaP oM];refine il ⟨rfl,fun x hx hd=>?_⟩;obtain⟨j,hj,rfl⟩:=abM hx;have:=h2 j hj hj;simp only[eu,hd] at this
  simpa using this
 ·rw[h1,aaV oM];have e:l.getD ((k:Int).toNat) ⟨0,bE,false,0⟩=l[k]:=by rw[abG,abd,aaX hk,acO]
  rw[e];exact ir ⟨l[k],aa5 hk,rfl,SG.1 h2⟩
theorem bg.clean(h:bg p):bg p.clean.2:=by
 unfold Sk.clean
 split
 ·exact h
 split
 ·exact h
 ·rename_i _ hp
  rcases AJ p.hand p.held with⟨e,_⟩|⟨x,hx,e,hd,hh⟩
  ·rw[e] at hp;omega
  ·have hY:=h.hand.sY x hx;rw[e,rJ h.hand.mr hx];exact h.gI _ ⟨hY.1,hY.2.1⟩ _ _ (il ⟨rfl,rfl,fun s hs=>by rw[abq.1 hs];exact hY.2.2⟩) hh
end
theorem YG(b:Bool)(a:Int)(l:List Rq):fX b a l=-1\/∃j:Nat,j<l.length/\fX b a l=j:=by
 rcases rZ b a l with⟨h,_⟩|⟨j,hj,h,_⟩
 ·exact il h
 ·exact ir ⟨j,hj,h⟩
theorem ZA(b1 b2:Bool)(t:Tn)(h:0<=t.s/\t.s<=2):0<=(dh b1 b2 t).s/\(dh b1 b2 t).s<=2:=by
 unfold dh
 split
 ·exact h
 ·split
  ·exact⟨by show(0:Int)<=0;omega,by show(0:Int)<=2;omega⟩
  ·rename_i _ h2
   have:¬2<=t.s:=fun h'=>h2 (ir h')
   exact⟨by show 0<=t.s+1;omega,by show t.s+1<=2;omega⟩
theorem W8(l:List Rq)(aE:l ≠ [])(hf:∀r∈l,0<=r.f)(t:Tn)(now:Int)(hs:0<=t.s/\t.s<=2):∃i:Nat,i<l.length/\(jR l t now).1=i/\0<=(jR l t now).2.s/\(jR l t now).2.s<=2:=by
 unfold jR
 split
 ·rename_i h
  rcases YG t.w t.p l with h'|⟨j,hj,h'⟩
  ·omega
  ·exact⟨j,hj,h',hs⟩
 ·obtain⟨i0,iT,hO,hw⟩:=AD l aE t _ _ rfl rfl;have YR:=ZA (decide (0<=dG false l)) (decide (0<=dG true l)) t hs;generalize dh (decide (0<=dG false l)) (decide (0<=dG true l)) t=T at *;have:∃i:Nat,i<l.length/\sE l T now=i:=by
   unfold sE
   split
   ·exact⟨i0,iT,hO⟩
   ·split
    ·rename_i h2
     rcases YG T.w T.p l with h'|⟨j,hj,h'⟩
     ·omega
     ·exact⟨j,hj,h'⟩
    ·rcases rZ T.w 0 l with⟨h',h3⟩|⟨j,hj,h',_⟩
     ·have:=h3 i0 iT hw;have:=hf _ (aa5 iT)
      omega
     ·exact⟨j,hj,h'⟩
  obtain⟨i,hi,e⟩:=this;exact⟨i,hi,e,YR⟩
section
variable{p:Sk}
theorem lJ(h:bg p):((p.queue=[]\/2<=p.dev.busy.length)/\p.bf=(false,p))\/∃(i:Nat) (hi:i<p.queue.length) (T:Tn),p.queue ≠ []/\p.dev.busy.length<2/\(jR p.queue p.dQ p.bI).1=i/\(0<=T.s/\T.s<=2)/\p.bf=(true,{ p with dev:={ p.dev with busy:=p.dev.busy++[p.queue[i]] },queue:=p.queue.eraseIdx i,dQ:=T }):=by
 unfold Sk.bf
 by_cases hc:p.queue=[]\/2<=p.dev.busy.length
 ·rw[aaV hc];exact il ⟨hc,rfl⟩
 ·rw[aaP hc];have h1:p.queue ≠ []:=fun e=>hc (il e)
  obtain⟨i,hi,e,hs⟩:=W8 p.queue h1 (fun r hr=>(h.queue.1 r hr).uG.1) p.dQ p.bI h.ts;refine ir ⟨i,hi,(jR p.queue p.dQ p.bI).2,h1,oM,e,hs,?_⟩;rw[e,abG,aaX hi]
  rfl
theorem Ab{l m:List Rq}(hp:l.Perm m)(h:l.Pairwise oD):m.Pairwise oD:=(List.Perm.pairwise_iff (fun hxy=>hxy.symm) hp).1 h
theorem vF(l:List Rq)(i:Nat)(hi:i<l.length):(l.eraseIdx i++[l[i]]).Perm l:=by
 have e:l=l.take i++l[i]::l.drop (i+1):=by rw[afW,ab8]
 have h:(l.take i++(l.drop (i+1)++[l[i]])).Perm (l.take i++([l[i]]++l.drop (i+1))):=afD _ List.perm_append_comm;rw[ack,abp];refine h.trans ?_;rw[afF,<-e]
theorem FY(q b:List Rq)(i:Nat)(hi:i<q.length):(q++b).Perm (q.eraseIdx i++(b++[q[i]])):=by
 have h1:=vF q i hi;have h2:(q++b).Perm ((q.eraseIdx i++[q[i]])++b):=h1.symm.append_right b;refine h2.trans ?_;rw[abp];exact afD _ List.perm_append_comm
theorem bg.Zd(h:bg p)(i:Nat)(hi:i<p.queue.length)(T:Tn)(hT:0<=T.s/\T.s<=2)(hb:p.dev.busy.length<2):bg { p with dev:={ p.dev with busy:=p.dev.busy++[p.queue[i]] },queue:=p.queue.eraseIdx i,dQ:=T }:=by
 have P:=FY p.queue p.dev.busy i hi;refine⟨h.fV,h.oE,h.hand,h.d6,fun r hr=>h.bO r (P.mem_iff.2 hr),Ab P h.apart,?_,?_,h.kr,h.tg,h.us,fun r hr=>h.pz r (P.mem_iff.2 hr),h.dv,h.fY,hT,h.fr⟩
 ·show(p.queue.eraseIdx i).length<=6;have:=h.q6;rw[ab7];split<;>omega
 ·show(p.dev.busy++[p.queue[i]]).length<=2;rw[aaQ,abl];omega
theorem bg.bf(h:bg p):bg p.bf.2:=by
 rcases lJ h with⟨_,e⟩|⟨i,hi,T,_,hb,_,hT,e⟩
 ·rw[e];exact h
 ·rw[e];exact h.Zd i hi T hT hb
theorem bg.cO(h:bg p)(F:Int->Bool)(s:ByteArray)(e:Int):bg (p.cO F s e) :=
 ⟨by show(List.map _ p.cl).length=3;rw[abe];exact h.fV,fun c hc=>by
  obtain⟨x,hx,rfl⟩:=acM.1 hc;show GC (if _ then _ else _)
  split
  ·exact Lu s e
  ·exact h.oE x hx,h.hand,h.d6,h.bO,h.apart,h.q6,h.b2,h.kr,h.tg,h.us,h.pz,h.dv,h.fY,h.ts,h.fr⟩
theorem bg.dJ(h:bg p)(pl:Int)(s:ByteArray)(bV:0<=pl/\pl<=31)(hs:s.size<=4):bg (p.dJ pl s):=by
 unfold Sk.dJ
 cases fa p.hand pl with
 |some _=>exact h
 |none =>
  simp only
  cases e:jw p.hand ⟨pl,s,false,p.az+1⟩ p.held with
  |none=>exact h.cO _ _ _
  |some l =>
   have P:=uW h.hand e;have hd:=P.bM;simp only[adi,afr] at hd;exact(h.fT l _ (P.ok ⟨bV.1,bV.2,hs⟩) (by have:=h.d6;omega) (by have:=h.us;omega)).cO _ _ _
theorem bg.en(h:bg p)(r:Rq)(gr:bz r)(xs:List ByteArray)(j:Nat)(hj:j<r.m.toNat)(hx:(xs.getD j bE).size<=4):bg (p.en r xs j):=by
 unfold Sk.en;have:=gr.uG
 split
 ·exact h.fT _ _ (h.hand.fO _ _) (abb (KN _ _ _) h.d6) h.us
 ·exact h.dJ _ _ oM hx
theorem iZ(p:Sk)(r:Rq)(xs:List ByteArray)(n:Nat):p.cT r xs (n+1)=(p.cT r xs n).en r xs n:=by simp[Sk.cT,afU]
theorem bg.cT(h:bg p)(r:Rq)(gr:bz r)(xs:List ByteArray)(hx:∀j,(xs.getD j bE).size<=4):∀n,n<=r.m.toNat->bg (p.cT r xs n)
 |0,_=>h
 |n+1,hn=>by rw[iZ];exact(h.cT r gr xs hx n oM).en r gr xs n oM (hx n)
def dE(d:Dl):Prop:=(∀s∈d.now,s.size<=4)/\(∀s∈d.bO,s.size<=4)/\∀x∈d.wr,x.data.size<=4
theorem Ap{l:List ByteArray}(h:∀s∈l,s.size<=4)(j:Nat):(l.getD j bE).size<=4:=by
 rw[abd]
 cases e:l[j]? with
 |none=>show ByteArray.empty.size<=4;rw[oz];omega
 |some s=>exact h s (acg e)
theorem jb{d:Dl}(h:dE d)(r:Rq)(j:Nat):((cW d r).getD j bE).size<=4:=by
 refine Ap (fun s hs=>?_) j;unfold cW at hs
 split at hs
 ·cases hs
 ·unfold ke at hs;obtain⟨i,_,rfl⟩:=acM.1 hs;exact Ap h.1 _
theorem bg.bD(h:bg p)(k:Nat):bg (p.bD k):=by
 have S:(p.queue++p.dev.busy.eraseIdx k).Sublist (p.queue++p.dev.busy):=List.Sublist.append_left (List.eraseIdx_sublist _ _) _;refine⟨h.fV,h.oE,h.hand,h.d6,fun r hr=>h.bO r (S.subset hr),h.apart.sublist S,h.q6,?_,h.kr,h.tg,h.us,fun r hr=>h.pz r (S.subset hr),h.dv,h.fY,h.ts,h.fr⟩;show(p.dev.busy.eraseIdx k).length<=2;have:=h.b2;rw[ab7];split<;>omega
theorem Wc(d:Dl)(r:Rq):(d.cr r).bO=d.bO:=by
 unfold Dl.cr;split
 ·exact JO _ _ _
 ·rfl
theorem bg.cr(h:bg p)(r:Rq):bg (p.cr r):=by
 refine⟨h.fV,h.oE,h.hand,h.d6,?_,?_,h.q6,?_,h.kr,h.tg,h.us,?_,?_,?_,h.ts,fun t=>?_⟩
 ·show ∀x∈p.queue++(p.dev.cr r).busy,bz x;rw[Dl.mR];exact h.bO
 ·show(p.queue++(p.dev.cr r).busy).Pairwise oD;rw[Dl.mR];exact h.apart
 ·show(p.dev.cr r).busy.length<=2;rw[Dl.mR];exact h.b2
 ·show ∀x∈p.queue++(p.dev.cr r).busy,_;rw[Dl.mR];exact h.pz
 ·show(p.dev.cr r).now.length=32;rw[ZI];exact h.dv
 ·show(p.dev.cr r).bO.length=32;rw[Wc];exact h.fY
 ·have:=h.fr t;show 0<=(if t=r.tags.getD 0 0 then 0 else p.f t)/\(if t=r.tags.getD 0 0 then 0 else p.f t)<=2
  split<;>omega
theorem bg.lost(h:bg p)(r:Rq)(b:Bool):bg { p.lost r with dead:=b } :=
 ⟨h.fV,h.oE,h.hand,h.d6,h.bO,h.apart,h.q6,h.b2,h.kr,h.tg,h.us,h.pz,h.dv,h.fY,h.ts,fun t=>by
  have:=h.fr t;show 0<=(if t=r.tags.getD 0 0 then 0 else p.f t)/\(if t=r.tags.getD 0 0 then 0 else p.f t)<=2
  split<;>omega⟩
theorem bg.again(h:bg p)(k:Nat)(hk:k<p.dev.busy.length)(hf:p.f (p.dev.busy[k].tags.getD 0 0)<2):bg ((p.bD k).again p.dev.busy[k]):=by
 have P:(p.queue++p.dev.busy).Perm (p.queue++(p.dev.busy.eraseIdx k++[p.dev.busy[k]])):=afD _ (vF p.dev.busy k hk).symm;refine⟨h.fV,h.oE,h.hand,h.d6,fun r hr=>h.bO r (P.mem_iff.2 hr),Ab P h.apart,h.q6,?_,h.kr,h.tg,h.us,fun r hr=>h.pz r (P.mem_iff.2 hr),h.dv,h.fY,h.ts,fun t=>?_⟩
 ·show(p.dev.busy.eraseIdx k++[p.dev.busy[k]]).length<=2;have:=h.b2;rw[aaQ,abl,ab7,aaV hk];omega
 ·have h1:=h.fr t;show 0<=(if t=p.dev.busy[k].tags.getD 0 0 then p.f t+1 else p.f t)/\(if t=p.dev.busy[k].tags.getD 0 0 then p.f t+1 else p.f t)<=2
  split
  ·rename_i e;rw[<-e] at hf;omega
  ·exact h1
theorem bg.CY(h:bg p)(r:Rq):bg (p.lost r):=h.lost r p.dead
theorem xW(p:Sk)(i:Int)(fault:Bool):((i<0\/(p.dev.busy.length:Int)<=i)/\p.cz i fault=(5,p))\/∃(k:Nat) (hk:k<p.dev.busy.length),i=k /\
 ((fault=false/\p.cz i fault=(0,(((p.bD k).cr p.dev.busy[k]).oB p.dev.busy[k] (cW p.dev p.dev.busy[k])).serve)) \/
  (fault=true/\p.f (p.dev.busy[k].tags.getD 0 0)<2/\p.cz i fault=(0,(p.bD k).again p.dev.busy[k])) \/
  (fault=true/\¬p.f (p.dev.busy[k].tags.getD 0 0)<2/\p.dev.busy[k].wr=true/\p.cz i fault=(0,({ (p.bD k).lost p.dev.busy[k] with dead:=true }:Sk).serve)) \/
  (fault=true/\¬p.f (p.dev.busy[k].tags.getD 0 0)<2/\p.dev.busy[k].wr=false/\p.cz i fault=(0,(((p.bD k).lost p.dev.busy[k]).cO (fun x=>dO p.dev.busy[k].f p.dev.busy[k].m x) bE 8).serve))):=by
 unfold Sk.cz
 by_cases h0:i<0
 ·rw[aaV h0];exact il ⟨il h0,rfl⟩
 rw[aaP h0]
 by_cases h1:i.toNat<p.dev.busy.length
 ·refine ir ⟨i.toNat,h1,oM,?_⟩;rw[aaX h1];simp only
  cases fault with
  |false=>exact il ⟨rfl,rfl⟩
  |true =>
   rw[aaP sM]
   by_cases h2:p.f (p.dev.busy[i.toNat].tags.getD 0 0)<2
   ·rw[aaV h2];exact ir (il ⟨rfl,h2,rfl⟩)
   ·rw[aaP h2]
    by_cases h3:p.dev.busy[i.toNat].wr=true
    ·rw[aaV h3];exact ir (ir (il ⟨rfl,h2,h3,rfl⟩))
    ·rw[aaP h3];exact ir (ir (ir ⟨rfl,h2,by simpa using h3,rfl⟩))
 ·rw[acC oM];exact il ⟨ir oM,rfl⟩
theorem bg.cz(h:bg p)(hd:dE p.dev)(i:Int)(fault:Bool):bg (p.cz i fault).2:=by
 rcases xW p i fault with⟨_,e⟩|⟨k,hk,_,⟨_,e⟩|⟨_,hf,e⟩|⟨_,_,_,e⟩|⟨_,_,_,e⟩⟩
 ·rw[e];exact h
 ·rw[e];have gr:=h.bO _ (aa8 _ (aa5 hk));exact((((h.bD k).cr _).cT _ gr _ (jb hd _) _ (aaO _)).serve)
 ·rw[e];exact h.again k hk hf
 ·rw[e];exact((h.bD k).lost _ _).serve
 ·rw[e];exact((((h.bD k).CY _).cO _ _ _).serve)
end
end
section
open Go.RowKit Go.BigFrame
theorem aaa(o r:Rq)(w:World)(go:bz o)(gr:bz r)(ho:o.At w)(hr:r.At w)(h:jx o r=true) :
 Calls prog 175 #[o.val,r.val] w fun e w'=>∃q:Rq,e=.returned (.tuple #[q.val,.bool true])/\xJ o r q/\q.At w'/\qL q w.heap.size/\bL w w':=by
 cases h1:gy o r
 ·have h2:gy r o=true:=by simpa [jx,h1] using h
  exact(LK r o w gr go hr ho h2).mono fun e w' ⟨q,he,hq,ha,hf,hb⟩=>⟨q,he,ir ⟨h1,h2,hq⟩,ha,hf,hb⟩
 ·exact(Nk o r w go gr ho hr h1).mono fun e w' ⟨q,he,hq,ha,hf,hb⟩=>⟨q,he,il ⟨h1,hq⟩,ha,hf,hb⟩
def Bk(base:Nat)(l:List Rq)(r:Rq)(L:List Rq):Prop :=
 (∃(k:Nat) (hk:k<l.length) (q:Rq),(∀j (hj:j<l.length),j<k->jx l[j] r=false)/\jx l[k] r=true/\xJ l[k] r q/\qL q base/\L=l.set k q) \/
 ((∀j (hj:j<l.length),jx l[j] r=false)/\l.length<6/\L=l++[r])
def Zr(base:Nat)(l:List Rq)(r:Rq)(w':World)(e:Ending):Prop :=
 (∃(L:List Rq) (a':Option Addr) (c':Nat),Bk base l r L/\e=.returned (.tuple #[.slice a' L.length c',.nilIface])/\aW w' a' L/\L.length<=c'/\(a'=none->c'=0)/\∀p,a'=some p->base<=p.block) \/
 ((∀j (hj:j<l.length),jx l[j] r=false)/\6<=l.length/\e=.returned (.tuple #[.slice none 0 0,.iface 87 (i6 7)]))
theorem OQ(l:List Rq)(a:Option Addr)(c:Nat)(r:Rq)(w:World)(hl:aW w a l)(hn:a=none->c=0)(hr:r.At w)(mj:l.length<=1000)(gr:bz r)(gl:∀i (h:i<l.length),bz l[i])(hm:l.any (iX r)=false) :
 Calls prog 128 #[.slice a l.length c,r.val] w fun e w'=>Zr w.heap.size l r w' e/\bL w w':=by
 obtain⟨i,hi,de,cC,cF⟩:=eS uy;have HI:=dr (⟨hi,de,cC,cF⟩:prog.info? 146=some i/\_/\_/\_);clear hi de cC cF;have tE:=dr gl;clear gl;go_enter func128,ntmps128;go_wp2_with fail;refine cM (DU r _ (hr.later (aA _ _)) ((Ed r).2 gr)) ?_;intro w1 hb;have S:=(oy w 146 r).later hb;have HS:=dr S;go_wp2_with fail;refine cM (vf 173 (by intro args w;go_simp) (.pointer (some ⟨w.heap.size,0,none⟩)) (iX r) l a c _ (hl.later bQ) (fun x w' _ hJ=>IZ x r w.heap.size w' (aF hJ HS.out.2.1) (aF hJ HS.out.2.2.1)) false hm) ?_;intro w2 aC;have S2:bj w2 w.heap.size r:=S.later aC;have bT:bL w w2:=bQ;have pN:=hl.later bT;have hlen:=hl.2.2;clear S HS hb aC hm;go_wp2_with fail
 go_loopw[25] (fun iv wr=>∃n:Nat,n<=l.length/\iv=i6 n/\(∀j (hj:j<l.length),j<n->jx l[j] r=false)/\bL w2 wr) (fun iv _=>l.length-(intOf iv).toNat)
 case atStart=>exact⟨0,oM,rfl,fun j hj h=>absurd h (aa0 _),aX _ _⟩
 case round =>
  obtain⟨n,yi,rfl,dV,HB⟩:=hrel;have HN:=dr dV;clear dV;have S3:=S2.later HB;have pt:=pN.later HB;have fi:=af bT HB;have HR:=dr HB;clear HB S2;obtain⟨s0,s1,s2,s3,s4,s5⟩:=id S3;have ls:=aq s0
  by_cases au:n<l.length
  ·have h0:l ≠ []:=by rintro rfl;exact absurd au (aa0 _)
   have H0:=dr h0;obtain⟨b,o,rfl⟩:=pt.form.resolve_left h0;clear h0;obtain⟨c0,c1,c2,c3,c4,c5⟩:=pt.cells au;have lc:=aq c0
   cases ht:jx l[n] r
   ·go_wp2_with fail;refine cM (adj l[n] r _ (tE.out n au) gr ht) ?_;intro w4 fk;go_wp2;go_roundw
    case rel=>exact⟨n+1,oM,gN,fun j hj h=>by by_cases e:j=n;(subst e;exact ht);exact HN.out j hj oM,af HR.out bQ⟩
    case measure=>simp[intOf];omega
   ·go_wp2_with fail;refine(aaa l[n] r _ (tE.out n au) gr (Rq.At.of hl au bQ) (hr.later bQ) ht).mono ?_;rintro e w4 ⟨q,rfl,hq,du,DL,fk⟩;have jV:bL w w4:=bQ;have HQ:=dr hq;have aeT:w.heap.size<=wr.heap.size:=fi.size;have HQF:Hid (qL q w.heap.size):=⟨fun b o e=>by have:=DL.1 b o e;rw[aaW] at this;omega,fun b o e=>by have:=DL.2 b o e;rw[aaW] at this;omega⟩
    clear DL aeT;clear hq fk c0 c1 c2 c3 c4 c5 lc s0 s1 s2 s3 s4 s5 ls S3 pt;go_wp2_with fail;refine(E6 l _ c _ (hl.later bQ) hn oM).mono ?_;rintro e w5 ⟨a5,c5,rfl,hN,fm⟩;obtain⟨b5,rfl,kI,hlt5,hfz⟩:=hN.place H0.out;rw[aaW] at kI;have Sq:bj w5 w4.heap.size q:=(oy w4 146 q).later fm;obtain⟨s0,s1,s2,s3,s4,s5⟩:=id Sq;have ls:=aq s0;obtain⟨d0,d1,d2,d3,d4,d5⟩:=hN.here.cells au;rw[abc] at d0 d1 d2 d3 d4 d5;have f0:=hfz (n*6);have f1:=hfz (n*6+1);have f2:=hfz (n*6+2);have f3:=hfz (n*6+3);have f4:=hfz (n*6+4);have f5:=hfz (n*6+5);have nb:b5 ≠ w4.heap.size:=oM;have bS:=hN.cap;have HH:=dr hN.here;have hB5:bL w4 w5:=bQ;clear fm hfz Sq hN;have DN:=jV.size;go_wp2
    go_ret2
    refine⟨il ⟨l.set n q,_,c5,il ⟨n,au,q,HN.out,ht,HQ.out,HQF.out,rfl⟩,(by show Ending.returned (.tuple #[.slice (some ⟨b5,0,none⟩) l.length c5,.nilIface])=_;rw[abS]),HH.out.put au (fun r' dj=>(hl.2.1 r' dj).later ?_) (du.later ?_) rfl,by rw[abS];exact bS,sM,fun p e=>by simp only[aa4] at e;subst e;simp only;omega⟩,?_⟩
    all_goals exact bQ
  ·have oK:n=l.length:=oM;subst oK
   by_cases h6:6<=l.length
   ·go_wp2
    go_ret2
    exact⟨ir ⟨fun j hj=>HN.out j hj hj,h6,rfl⟩,bQ⟩
   ·go_wp2_with fail;obtain⟨hi,de,cC,cF⟩:=HI.out
    go_region_held3 (fun w'=>w'.cell? ⟨w.heap.size,0,none⟩=some (.bool r.wr)/\w'.cell? ⟨w.heap.size,1,none⟩=some (i6 r.f)/\w'.cell? ⟨w.heap.size,2,none⟩=some (i6 r.m)/\w'.cell? ⟨w.heap.size,3,none⟩=some (.slice r.da r.data.length r.dc)/\w'.cell? ⟨w.heap.size,4,none⟩=some (.slice r.ta r.tags.length r.tc)/\w'.cell? ⟨w.heap.size,5,none⟩=some (i6 r.born)) (exact(show bj _ _ r by first|((repeat(first|with_reducible exact S3|with_reducible refine bj.drew ?_|with_reducible refine bj.alloc ?_ _|with_reducible refine bj.later ?_ aM|with_reducible refine bj.set ?_ oM _));done)|(refine bj.eG ?_ aM ls;(repeat(first|with_reducible exact S3|with_reducible refine bj.drew ?_|with_reducible refine bj.alloc ?_ _|with_reducible refine bj.later ?_ aM|with_reducible refine bj.set ?_ oM _));done))) (first|(go_at_call 93;refine(E6 l a c _ (hl.later bQ) hn oM).mono ?_;rintro e w4 ⟨a4,c4,rfl,hN,fk⟩)|(refine eM (by rfl) (.tmp 50) (.tmp 52) 47 (by rfl) wr.heap.size 146 i _ 6 80 underlying47 hi de cC cF rfl dM (.slice a4 l.length c4) l.length (a8 l) (by simp[Act.eval,Act.put]) (rm (mI hN.own bQ) sM) _ 1 1 (a8 [r]) (by simp[Act.eval,Act.put];rfl) (by first|(refine Ev r ?_;simp[bj];done)|(refine Ev r (bj.later ?_ fk);simp[bj];done)) (by unfold maxLen;omega) oM (by have:=fk.size;simp at this ⊢;omega) ?_;intro v5 w5 CW fm))
    all_goals
     rw[<-fI] at CW;have iM:bL w w5:=by have hq5:bL wr w5:=adh bQ fm;exact af fi hq5
     obtain⟨a5,c5,rfl,ID⟩:=mw CW (fun r' dj=>by rcases abh.1 dj with h|h;exact(hl.2.1 r' h).later iM;(rw[abq.1 h];exact hr.later iM)) sM (by simp;omega);have HN5:=dr ID;have HNB:Hid (∀p,a5=some p->w.heap.size<=p.block):=fun p e=>by have:=(ID.own.lt p.block (by rw[e];rfl)).1;have:=fi.size;omega
     clear CW ID hN hi de cC cF;go_wp2
     go_ret2
     exact⟨il ⟨l++[r],a5,c5,ir ⟨fun j hj=>HN.out j hj hj,oM,rfl⟩,rfl,HN5.out.here,HN5.out.cap,HN5.out.nil,fun p e=>HNB.out p e⟩,iM⟩
end
section
open Go.RowKit Go.BigFrame Go.Maps
structure Sa where
 b:Nat
 v:Nat
 bm:Nat
 an:An
 n:Nat
 D:DataW Unit
 la:Nat->Option Addr
 lc:Nat->Nat
 ha:Option Addr
 hc:Nat
 qa:Option Addr
 qc:Nat
 X:Nat->Prop
def gL(c:Cl)(a:Option Addr)(k:Nat):List Value:=[i6 c.kind,i6 c.pl,.string c.data,.slice a c.left.length k,.string c.gO,dm c.err]
def Sk.head(A:Sa):List Value:=[.pointer (some ⟨A.b,0,none⟩),.pointer (some ⟨A.v,0,none⟩)]
def Sk.tail(p:Sk)(A:Sa):List Value:=[.slice A.ha p.hand.length A.hc,.slice A.qa p.queue.length A.qc,.bool p.dQ.w,i6 p.dQ.g,i6 p.dQ.s,i6 p.dQ.p,i6 p.bI,i6 p.tags,i6 p.az,.bool p.dead]
def Sk.cells(p:Sk)(A:Sa):List Value:=Sk.head A++(gL (p.ao 0) (A.la 0) (A.lc 0)++(gL (p.ao 1) (A.la 1) (A.lc 1)++(gL (p.ao 2) (A.la 2) (A.lc 2)++p.tail A)))
def iw(l:List Int):List Value:=l.map fun n=>i6 n
def Sa.ay(A:Sa)(s:Nat)(k:Nat):Prop:=k=s\/jU A.b A.bm A.an k\/∃i,i<3/\∃p,A.la i=some p/\k=p.block
def Sa.off(A:Sa)(s:Nat)(k:Nat):Prop:=A.ay s k\/A.X k
structure dk(s:Nat)(p:Sk)(A:Sa)(w:World):Prop where
 cE:mY A.v A.b A.bm p.dev A.an A.n A.D w
 map:n7 A.D p.f
 im:IsMap A.D
 nb:A.n<=p.ag
 hand:bA w A.ha p.hand
 cU:A.ha=none->A.hc=0
 bS:p.hand.length<=A.hc
 queue:aW w A.qa p.queue
 fe:A.qa=none->A.qc=0
 fA:p.queue.length<=A.qc
 left:∀i,i<3->w.ownsRow 0 3 1 (.slice (A.la i) (p.ao i).left.length (A.lc i)) (p.ao i).left.length (iw (p.ao i).left)
 sv:¬jU A.b A.bm A.an s/\s ≠ A.v
 vl:∀i,i<3->∀q,A.la i=some q->q.block ≠ s/\q.block ≠ A.v/\¬jU A.b A.bm A.an q.block
 ll:∀i j,i<3->j<3->i ≠ j->∀q q',A.la i=some q->A.la j=some q'->q.block ≠ q'.block
 ia:p.hand ≠ []->∀q,A.ha=some q->¬A.off s q.block
 iH:p.queue ≠ []->∀q,A.qa=some q->¬A.off s q.block
 fh:∀r∈p.queue++p.dev.busy,r.dB (A.off s)
 gW:∀k,A.X k->k<w.heap.size
theorem dk.eX{s:Nat}{p:Sk}{A:Sa}{w:World}(h:dk s p A w):p.hand ≠ []->∀q,A.ha=some q->¬A.ay s q.block:=fun aE q hq e=>h.ia aE q hq (il e)
theorem dk.km{s:Nat}{p:Sk}{A:Sa}{w:World}(h:dk s p A w):p.queue ≠ []->∀q,A.qa=some q->¬A.ay s q.block:=fun aE q hq e=>h.iH aE q hq (il e)
theorem dk.eY{s:Nat}{p:Sk}{A:Sa}{w:World}(h:dk s p A w):∀r∈p.queue++p.dev.busy,r.dB (A.ay s):=fun r hr=>⟨fun he ad ha e=>(h.fh r hr).1 he ad ha (il e),fun he ad ha e=>(h.fh r hr).2 he ad ha (il e)⟩
structure bp(s:Nat)(p:Sk)(A:Sa)(w:World):Prop where
 a7:w.heap[s]?=some (.cells (p.cells A).toArray 127 (0,0))
 mem:dk s p A w
structure bK(s:Nat)(p:Sk)(A:Sa)(p':Sk)(A':Sa)(w w':World):Prop where
 at':bp s p' A' w'
 only:aH (A.ay s) w w'
 ay:∀k,A'.ay s k->A.ay s k\/w.heap.size<=k
 same:A'.b=A.b/\A'.v=A.v/\A'.bm=A.bm/\A'.X=A.X
theorem bK.trans{s:Nat}{p p' p2:Sk}{A A' A2:Sa}{w w' w2:World}(h:bK s p A p' A' w w')(k:bK s p' A' p2 A2 w' w2):bK s p A p2 A2 w w2 :=
 ⟨k.at',h.only.trans k.only h.ay,fun i hi=>(k.ay i hi).elim (h.ay i) (fun h'=>ir (abb h.only.size h')),by rw[k.same.1,k.same.2.1,k.same.2.2.1,k.same.2.2.2];exact h.same⟩
theorem oc{F:Nat->Prop}{w w':World}{a:Option Addr}{l:List Bf}(h:bA w a l)(hk:aH F w w')(hn:l ≠ []->∀q,a=some q->¬F q.block):bA w' a l:=by
 refine⟨?_,h.2⟩
 rcases h.1 with h|⟨b,o,ha,hc⟩
 ·exact il h
 ·by_cases he:l=[]
  ·exact il he
  ·refine ir ⟨b,o,ha,fun i hi j hj=>?_⟩;have:=hc i hi j hj;rw[hk.cell (p:=⟨b,o+i*4+j,none⟩) (aq this) (hn he ⟨b,o,none⟩ ha)];exact this
theorem mW{F:Nat->Prop}{w w':World}{a:Option Addr}{l:List Rq}(h:aW w a l)(hk:aH F w w')(hn:l ≠ []->∀p,a=some p->¬F p.block)(hr:∀r∈l,r.dB F):aW w' a l:=by
 obtain⟨h1,h2,h3⟩:=h;refine⟨?_,fun r dj=>(h2 r dj).frame (hr r dj) hk,h3⟩
 rcases h1 with h|⟨b,o,ha,hc⟩
 ·exact il h
 ·by_cases he:l=[]
  ·exact il he
  ·refine ir ⟨b,o,ha,fun i hi j hj=>?_⟩;have:=hc i hi j hj;rw[hk.cell (p:=⟨b,o+i*6+j,none⟩) (aq this) (hn he ⟨b,o,none⟩ ha)];exact this
section
variable{s:Nat}{p p':Sk}{A A':Sa}{w w':World}
theorem dk.fb(h:dk s p A w){i:Nat}(hi:i<3){q:Addr}(hq:A.la i=some q):q.block<w.heap.size:=((h.left i hi).lt q.block (by rw[hq];rfl)).2
theorem bp.lt(h:bp s p A w):s<w.heap.size:=aK h.a7
theorem bp.bC(h:bp s p A w)(k:Nat)(hk:A.ay s k):k<w.heap.size:=by
 rcases hk with rfl|hk|⟨i,hi,q,hq,rfl⟩
 ·exact h.lt
 ·exact h.mem.cE.bC k hk
 ·exact h.mem.fb hi hq
theorem bp.ky(h:bp s p A w)(k:Nat)(hk:A.off s k):k<w.heap.size:=hk.elim (h.bC k) (fun e=>h.mem.gW k e)
theorem dk.frame{F:Nat->Prop}(h:dk s p A w)(hk:aH F w w')(hF:∀k,A.ay s k->k ≠ s->¬F k)(hv:¬F A.v)(hh:p.hand ≠ []->∀q,A.ha=some q->¬F q.block)(hq:p.queue ≠ []->∀q,A.qa=some q->¬F q.block)(hr:∀r∈p.queue++p.dev.busy,r.dB F):dk s p A w' where
 cE:=h.cE.frame hk (fun k e=>hF k (ir (il e)) (fun e'=>h.sv.1 (e'▸e))) hv (fun r dj=>hr r (aa8 _ dj))
 map:=h.map
 im:=h.im
 nb:=h.nb
 hand:=oc h.hand hk hh
 cU:=h.cU
 bS:=h.bS
 queue:=mW h.queue hk hq (fun r dj=>hr r (abn _ dj))
 fe:=h.fe
 fA:=h.fA
 left:=fun i hi=>dR (h.left i hi) fun g hg=>by
  obtain⟨q,hq,rfl⟩:=bG.1 hg;exact hk.block _ (h.fb hi hq) (hF _ (ir (ir ⟨i,hi,q,hq,rfl⟩)) (h.vl i hi q hq).1)
 sv:=h.sv
 vl:=h.vl
 ll:=h.ll
 ia:=h.ia
 iH:=h.iH
 fh:=h.fh
 gW:=fun k e=>abF (h.gW k e) hk.size
theorem bp.frame{F:Nat->Prop}(h:bp s p A w)(hk:aH F w w')(hF:∀k,A.ay s k->¬F k)(hv:¬F A.v)(hh:p.hand ≠ []->∀q,A.ha=some q->¬F q.block)(hq:p.queue ≠ []->∀q,A.qa=some q->¬F q.block)(hr:∀r∈p.queue++p.dev.busy,r.dB F):bp s p A w' :=
 ⟨by rw[hk.block s h.lt (hF s (il rfl))];exact h.a7,h.mem.frame hk (fun k e _=>hF k e) hv hh hq hr⟩
theorem Pg(r:Rq):r.dB (fun _=>False):=⟨fun _ _ _ e=>e,fun _ _ _ e=>e⟩
theorem bp.later(h:bp s p A w)(hb:bL w w'):bp s p A w':=h.frame (F:=fun _=>False) (aH.cj hb) (fun _ _ e=>e) (fun e=>e) (fun _ _ _ e=>e) (fun _ _ _ e=>e) (fun r _=>Pg r)
theorem bK.cX(h:bp s p A w)(hb:bL w w'):bK s p A p A w w':=⟨h.later hb,aH.cj hb,fun _ hk=>il hk,rfl,rfl,rfl,rfl⟩
theorem bK.later{w2:World}(h:bK s p A p' A' w w')(hb:bL w' w2):bK s p A p' A' w w2:=h.trans (bK.cX h.at' hb)
theorem bp.put(h:bp s p A w)(hm:dk s p' A' w)(j:Nat)(u:Value)(hc:(p.cells A).set j u=p'.cells A')(hf:∀k,A'.ay s k->A.ay s k)(vK:A'.b=A.b/\A'.v=A.v/\A'.bm=A.bm/\A'.X=A.X):bK s p A p' A' w (w.setCell ⟨s,j,none⟩ u):=by
 have hO:aH (fun k=>k=s) w (w.setCell ⟨s,j,none⟩ u):=(aH.refl (fun k=>k=s) w).setCell ⟨s,j,none⟩ (il rfl) u;refine⟨⟨by rw[bJ h.a7,hc],hm.frame hO (fun k _ aE=>aE) (fun e=>hm.sv.2 e.symm) (fun aE q hq e=>hm.eX aE q hq (il e)) (fun aE q hq e=>hm.km aE q hq (il e)) (fun r hr=>⟨fun he ad ha e=>(hm.eY r hr).1 he ad ha (il e),fun he ad ha e=>(hm.eY r hr).2 he ad ha (il e)⟩)⟩,hO.mono (fun k e=>il e),fun k hk=>il (hf k hk),vK⟩
theorem bp.step{d':Dl}{nR:An}{n':Nat}{D':DataW Unit}{f':Int->Int}(g':Nat)(hg:n'<=g')(h:bp s p A w)(hs:jt A.v A.b A.bm p.dev A.an A.n A.D d' nR n' D' w w')(hm:n7 D' f')(hi:IsMap D')(hr:∀r∈d'.busy,r.dB (({ A with an:=nR,n:=n',D:=D' }:Sa).off s)) :
 bK s p A { p with dev:=d',f:=f',ag:=g' } { A with an:=nR,n:=n',D:=D' } w w':=by
 have mD:∀k,({ A with an:=nR,n:=n',D:=D' }:Sa).ay s k->A.ay s k\/w.heap.size<=k:=by
  rintro k (e|e|e)
  ·exact il (il e)
  ·exact(hs.ay k e).imp (fun e=>ir (il e)) id
  ·exact il (ir (ir e))
 have Tf:∀k,({ A with an:=nR,n:=n',D:=D' }:Sa).off s k->A.off s k\/w.heap.size<=k:=fun k hk=>hk.elim (fun e=>(mD k e).imp il id) (fun e=>il (ir e))
 have hO:aH (A.ay s) w w':=hs.only.mono (fun k e=>ir (il e));have eB:∀r∈p.queue,r.At w:=h.mem.queue.2.1;have kC:∀{q:Addr},¬jU A.b A.bm A.an q.block->q.block<w.heap.size->¬jU A.b A.bm nR q.block:=fun h1 h2 e=>(hs.ay _ e).elim h1 (fun h'=>oM)
 refine⟨⟨?_,?_⟩,hO,mD,rfl,rfl,rfl,rfl⟩
 ·rw[hs.only.block s h.lt h.mem.sv.1];exact h.a7
 ·have WI:p.queue ≠ []->∀q,A.qa=some q->q.block<w.heap.size:=fun aE q hq=>by
   rcases h.mem.queue.1 with e|⟨b',o',ha,hc⟩
   ·exact absurd e aE
   ·have:p.queue.length ≠ 0:=fun e=>aE (aaZ e)
    have:=aq (hc 0 oM 0 oM);rw[ha] at hq;simp only[aa4] at hq;subst hq;exact this
  have WB:p.hand ≠ []->∀q,A.ha=some q->q.block<w.heap.size:=fun aE q hq=>by
   rcases h.mem.hand.1 with e|⟨b',o',ha,hc⟩
   ·exact absurd e aE
   ·have:p.hand.length ≠ 0:=fun e=>aE (aaZ e)
    have:=aq (hc 0 oM 0 oM);rw[ha] at hq;simp only[aa4] at hq;subst hq;exact this
  have nf:∀q:Addr,¬A.off s q.block->q.block<w.heap.size->¬({ A with an:=nR,n:=n',D:=D' }:Sa).off s q.block:=fun q h1 h2 e=>(Tf _ e).elim h1 (fun h'=>oM)
  exact {
   cE:=hs.at'
   map:=hm
   im:=hi
   nb:=hg
   hand:=oc h.mem.hand hO h.mem.eX
   cU:=h.mem.cU
   bS:=h.mem.bS
   queue:=mW h.mem.queue hO h.mem.km (fun r dj=>h.mem.eY r (abn _ dj))
   fe:=h.mem.fe
   fA:=h.mem.fA
   left:=fun i hi=>dR (h.mem.left i hi) fun g hg=>by
    obtain⟨q,hq,rfl⟩:=bG.1 hg;exact hs.only.block _ (h.mem.fb hi hq) (h.mem.vl i hi q hq).2.2
   sv:=⟨fun e=>(hs.ay _ e).elim h.mem.sv.1 (fun h'=>by have:=h.lt;omega),h.mem.sv.2⟩
   vl:=fun i hi q hq=>⟨(h.mem.vl i hi q hq).1,(h.mem.vl i hi q hq).2.1,kC (h.mem.vl i hi q hq).2.2 (h.mem.fb hi hq)⟩
   ll:=h.mem.ll
   ia:=fun aE q hq=>nf q (h.mem.ia aE q hq) (WB aE q hq)
   iH:=fun aE q hq=>nf q (h.mem.iH aE q hq) (WI aE q hq)
   gW:=fun k e=>abF (h.mem.gW k e) hO.size
   fh:=fun r dj=>by
    rcases abh.1 dj with h'|h'
    ·exact Rq.dB.step (eB r h') (h.mem.fh r (abn _ h')) Tf
    ·exact hr r h' }
theorem zG{d':Dl}{nR:An}{n':Nat}{D':DataW Unit}(h:jt A.v A.b A.bm p.dev A.an A.n A.D d' nR n' D' w w'):∀k,({ A with an:=nR,n:=n',D:=D' }:Sa).off s k->A.off s k\/w.heap.size<=k:=by
 rintro k ((e|e|e)|e)
 ·exact il (il (il e))
 ·exact(h.ay k e).imp (fun e=>il (ir (il e))) id
 ·exact il (il (ir (ir e)))
 ·exact il (ir e)
end
section
variable{s:Nat}{p:Sk}{A:Sa}{w:World}
theorem bp.cell(h:bp s p A w)(j:Nat)(u:Value)(hj:(p.cells A)[j]?=some u):w.cell? ⟨s,j,none⟩=some u:=(aR h.a7 j).trans hj
theorem bp.fz(h:bp s p A w)(j:Nat):w.frozen? ⟨s,j,none⟩=false:=cG h.a7 j
theorem bp.ao(h:bp s p A w)(i:Nat)(hi:i<3):w.cell? ⟨s,2+i*6,none⟩=some (i6 (p.ao i).kind)/\w.cell? ⟨s,2+i*6+1,none⟩=some (i6 (p.ao i).pl)/\w.cell? ⟨s,2+i*6+2,none⟩=some (.string (p.ao i).data)/\w.cell? ⟨s,2+i*6+3,none⟩=some (.slice (A.la i) (p.ao i).left.length (A.lc i))/\w.cell? ⟨s,2+i*6+4,none⟩=some (.string (p.ao i).gO)/\w.cell? ⟨s,2+i*6+5,none⟩=some (dm (p.ao i).err):=by
 match i,hi with
 |0,_=>exact⟨h.cell _ _ rfl,h.cell _ _ rfl,h.cell _ _ rfl,h.cell _ _ rfl,h.cell _ _ rfl,h.cell _ _ rfl⟩
 |1,_=>exact⟨h.cell _ _ rfl,h.cell _ _ rfl,h.cell _ _ rfl,h.cell _ _ rfl,h.cell _ _ rfl,h.cell _ _ rfl⟩
 |2,_=>exact⟨h.cell _ _ rfl,h.cell _ _ rfl,h.cell _ _ rfl,h.cell _ _ rfl,h.cell _ _ rfl,h.cell _ _ rfl⟩
end
theorem ee(c:Int)(w:World)(t:Bool)(ht:decide (0<=c/\c<3)=t):Calls prog 76 #[i6 c] w fun e w'=>e=.returned (.bool t)/\w'=w:=by
 subst ht
 by_cases h0:0<=c
 ·by_cases h3:c<3
  ·go_enter func76,ntmps76;go_wp2;go_ret;exact⟨ey (by simp[h0,h3]),rfl⟩
  ·go_enter func76,ntmps76;go_wp2;go_ret;exact⟨ey (by simp[h3]),rfl⟩
 ·have HC:=ae h0;go_enter func76,ntmps76;go_wp2;go_ret;exact⟨ey (by have:=HC.out;rw[aa9 (show ¬(0:Int)<=c from oM)];rfl),rfl⟩
theorem n6(s:Nat)(p:Sk)(A:Sa)(c:Int)(w:World)(h:bp s p A w)(t:Bool)(ht:p.waits c=t):Calls prog 63 #[.pointer (some ⟨s,0,none⟩),i6 c] w fun e w'=>e=.returned (.bool t)/\w'=w:=by
 subst ht
 by_cases hc:0<=c/\c<3
 ·obtain⟨i,rfl⟩:∃i:Nat,c=i:=⟨c.toNat,oM⟩
  have hi:i<3:=oM;have hl:=h.lt;obtain⟨c0,-⟩:=h.ao i hi;have e:p.waits (i:Int)=((p.ao i).kind != 0):=by
   unfold Sk.waits;rw[aa1 hc,adA,abG]
   rfl
  rw[e];have iT:(0:Int)<=(i:Int):=oM;have DJ:(i:Int)<3:=oM;have HC:=ae hc;clear h e hc;go_enter func63,ntmps63;go_wp2_with fail;refine cM (ee _ _ true (aa1 HC.out)) ?_;intro w1 rfl;go_wp2;go_ret;exact⟨rfl,rfl⟩
 ·have e:p.waits c=false:=by unfold Sk.waits;rw[aa9 hc];rfl
  rw[e];have HC:=ae hc;clear h hc;go_enter func63,ntmps63;go_wp2_with fail;refine cM (ee _ _ false (aa9 HC.out)) ?_;intro w1 rfl;go_wp2;go_ret;exact⟨rfl,rfl⟩
theorem ab4(s:Nat)(p:Sk)(A:Sa)(i:Nat)(hi:i<3)(w:World)(h:bp s p A w):Calls prog 29 #[.pointer (some ⟨s,0,none⟩),i6 i] w (rB (.tuple #[.string (p.ao i).gO,dm (p.ao i).err]) w):=by
 have hl:=h.lt;obtain⟨-,-,-,-,c4,c5⟩:=h.ao i hi;have iT:(0:Int)<=(i:Int):=oM;have DJ:(i:Int)<3:=oM;have HC:Hid (0<=(i:Int)/\(i:Int)<3):=⟨iT,DJ⟩
 clear h;generalize dm (p.ao i).err=ev at *;go_enter func29,ntmps29;go_wp2_with fail;refine cM (ee _ _ true (aa1 HC.out)) ?_;intro w1 rfl;go_wp2_with fail
 go_region
 go_wp2
 go_ret2
 exact⟨rfl,(aX _ _).drew⟩
theorem ZS(s:Nat)(c:Int)(hc:¬(0<=c/\c<3))(w:World):Calls prog 29 #[.pointer (some ⟨s,0,none⟩),i6 c] w (rB (.tuple #[.string ⟨#[]⟩,.iface 87 (i6 5)]) w):=by
 have HC:=ae hc;clear hc;go_enter func29,ntmps29;go_wp2_with fail;refine cM (ee _ _ false (aa9 HC.out)) ?_;intro w1 rfl;go_wp2
 go_ret2
 exact⟨rfl,aX _ _⟩
theorem bp.gQ{s:Nat}{p:Sk}{A:Sa}{w:World}(h:bp s p A w):p.dev.busy.length<=2:=h.mem.cE.dev.gQ
theorem Je(s:Nat)(p:Sk)(A:Sa)(w:World)(h:bp s p A w) :
 Calls prog 46 #[.pointer (some ⟨s,0,none⟩)] w fun e w'=>∃a' c',e=.returned (.slice a' p.dev.busy.length c')/\aW w' a' p.dev.busy/\(a'=none->c'=0)/\bL w w':=by
 have c:=h.cell 0 _ rfl;have hl:=h.lt;have HM:=ae h.mem.cE.dev;clear h;go_enter func46,ntmps46;go_wp2_with fail;refine(Af A.b p.dev A.an _ HM.out).mono ?_;rintro e w1 ⟨a',c',rfl,hR,hn,aw⟩;go_wp2;go_ret;exact⟨a',c',rfl,hR,hn,aw⟩
theorem Gt(s:Nat)(p:Sk)(A:Sa)(w:World)(h:bp s p A w)(h6:p.queue.length<=1000) :
 Calls prog 45 #[.pointer (some ⟨s,0,none⟩)] w fun e w'=>∃a' c',e=.returned (.slice a' p.queue.length c')/\aW w' a' p.queue/\(a'=none->c'=0)/\bL w w':=by
 have c:=h.cell 21 _ rfl;have hl:=h.lt;have HM:=ae h.mem;clear h;go_enter func45,ntmps45;go_wp2_with fail;refine(Sm p.queue A.qa A.qc _ HM.out.queue HM.out.fe oM).mono ?_;rintro e w1 ⟨a',c',rfl,hR,hn,aw⟩;go_wp2;go_ret;exact⟨a',c',rfl,hR,hn,aw⟩
theorem vD(l:List Bf):j9 l l.length=bW l:=by
 have:∀k,k<=l.length->j9 l k=bW (l.take k):=by
  intro k
  induction k with
  |zero=>intro _;rfl
  |succ k ih =>
   intro hk;have h:k<l.length:=oM;have e:=ih oM;unfold bW at e ⊢;rw[abz h,afy,aaQ,<-e]
   cases hd:l[k].bM
   ·rw[BB h hd,afP (by rw[hd];exact aa7)];rfl
   ·rw[Ak h hd,afQ (by exact hd)];rfl
 have:=this l.length (aaO _)
 rwa [aff] at this
theorem ox(s:Nat)(p:Sk)(A:Sa)(w:World)(h:bp s p A w)(n:Nat)(hn:bW p.hand=n) :
 Calls prog 25 #[.pointer (some ⟨s,0,none⟩)] w (rB (i6 n) w):=by
 have c:=h.cell 20 _ rfl;have hl:=h.lt;have HM:=ae h.mem.hand;have HN:=ae hn;clear h hn;go_enter func25,ntmps25;go_wp2_with fail;refine cM (SA p.hand A.ha A.hc _ HM.out n ((vD _).trans HN.out)) ?_;intro w1 aw;go_wp2;go_ret;exact⟨rfl,aw⟩
theorem DO(s:Nat)(p:Sk)(A:Sa)(pl:Int)(w:World)(h:bp s p A w)(t:Bool)(ht:bY p.hand pl=t) :
 Calls prog 160 #[.pointer (some ⟨s,0,none⟩),i6 pl] w (rB (.bool t) w):=by
 have c:=h.cell 20 _ rfl;have hl:=h.lt;have HM:=ae h.mem.hand;clear h;subst ht;unfold bY
 rcases gq p.hand pl with⟨e,hi⟩|⟨k,hk,e,hi,-⟩
 ·rw[e];have HI:=ae hi;clear hi e;go_enter func160,ntmps160;go_wp2_with fail;refine cM (Fe p.hand A.ha A.hc pl _ (HM.out.later bQ) HI.out) ?_;intro w1 aw;go_wp2;go_ret;exact⟨rfl,bQ⟩
 ·rw[e];have HI:=ae hi;clear hi e;go_enter func160,ntmps160;go_wp2_with fail;refine cM (zr p.hand A.ha A.hc pl _ (HM.out.later bQ) k hk HI.out) ?_;intro w1 aw;go_wp2;go_ret;exact⟨rfl,bQ⟩
theorem I2{l:List Bf}{k:Nat}(h:k<l.length):bU (l.take (k+1))=bU (l.take k)++(if l[k].bM=true then [l[k].pl] else []):=by
 unfold bU;rw[abz h,afy,aca]
 cases hd:l[k].bM
 ·rw[afP (by rw[hd];exact aa7)];rfl
 ·rw[afQ (by exact hd)];rfl
theorem LY(l:List Bf)(k:Nat):(bU (l.take k)).length<=l.length:=by
 unfold bU;rw[abe];exact abb (acE _ _) (by rw[abm];omega)
theorem XD{w:World}{b:Nat}{n:Int}(h:w.cell? ⟨b,0,none⟩=some (i6 n)):gg w 1 (some ⟨b,0,none⟩) 1 1 [i6 n]:=by
 refine⟨rfl,by simp[Value.oneCell'],ir ⟨_,rfl,fun j u hj=>?_⟩⟩
 match j,hj with
 |0,hj =>
  simp only[List.getElem?_cons_zero,aa4] at hj;subst hj;exact h
theorem GP(s:Nat)(l:List Bf)(a:Option Addr)(cp:Nat)(w:World)(c:w.cell? ⟨s,20,none⟩=some (.slice a l.length cp))(hM:bA w a l)(h8:l.length<=1000) :
 Calls prog 74 #[.pointer (some ⟨s,0,none⟩)] w fun e w'=>∃v,e=.returned v/\w'.ownsRow w.heap.size 3 1 v (bU l).length (iw (bU l))/\bL w w':=by
 have bo:=hM.2;obtain⟨i,hi,de,cC,cF⟩:=eS Ax;go_enter func74,ntmps74;go_wp2
 go_loopw[3,11] (fun v i wr=>∃k:Nat,k<=l.length/\i=i6 k/\wr.ownsRow w.heap.size 3 1 v (bU (l.take k)).length (iw (bU (l.take k)))/\bL w wr) (fun _ i _=>l.length-(intOf i).toNat)
 case atStart=>exact⟨0,oM,rfl,abg _ _ _ _,bQ⟩
 case round =>
  obtain⟨k,hk,rfl,bu,HB⟩:=hrel
  by_cases au:k<l.length
  ·have h0:l ≠ []:=fun e=>by rw[e] at au;exact absurd au (aa0 _)
   obtain⟨b,o,rfl⟩:=hM.form.resolve_left h0;obtain⟨c0,c1,c2,c3⟩:=(hM.later HB).cells au;have ht:=I2 au;have hL:=LY l k;clear h0
   cases hd:l[k].bM
   ·rw[hd] at ht c2;have HT:=aB ht;clear ht hd;have HO:=aB bu;clear bu;go_wp2;go_roundw
    case rel=>exact⟨k+1,oM,gN,by rw[HT.out];simpa using mI HO.out bQ,bQ⟩
    case measure=>simp[intOf];omega
   ·rw[hd] at ht c2;have HT:=aB ht;clear ht hd;have HO:=aB bu;clear bu;go_wp2_with(at_builtin;refine aP rfl _ _ 122 rfl w.heap.size 3 i (i6 0) 1 8 underlying122 hi de cC cF rfl dM _ _ _ rfl (mI HO.out bQ) _ 1 1 [i6 l[k].pl] rfl (XD sM) (by unfold maxLen;omega) oM (by have:=HB.size;(try simp);omega) ?_;intro v1 w2 aO aw)
    all_goals
     have jL:=aB aO;clear aO;go_wp2;go_roundw
    case rel=>exact⟨k+1,oM,gN,by rw[HT.out];simpa [iw] using jL.out,adh bQ aw⟩
    case measure=>simp[intOf];omega
  ·obtain rfl:k=l.length:=oM;rw[aff] at bu;go_wp2;go_ret;exact⟨_,rfl,bu,HB⟩
theorem Jw(s:Nat)(p:Sk)(A:Sa)(w:World)(h:bp s p A w)(h8:p.hand.length<=1000) :
 Calls prog 74 #[.pointer (some ⟨s,0,none⟩)] w fun e w'=>∃v,e=.returned v/\w'.ownsRow w.heap.size 3 1 v (bU p.hand).length (iw (bU p.hand))/\bL w w' :=
 GP s p.hand A.ha A.hc w (h.cell 20 _ rfl) h.mem.hand h8
end
end Go.Proofs.YtlhgjplipgandaaGreatDoor
