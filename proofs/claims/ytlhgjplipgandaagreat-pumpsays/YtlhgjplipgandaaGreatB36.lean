/- Joined texts: Live1, REnd3. -/
import Derived.Test.YtlhgjplipgandaaGreatB35
set_option maxRecDepth 100000
set_option maxHeartbeats 8000000
set_option linter.unusedSimpArgs false
namespace Go.Proofs.YtlhgjplipgandaaGreat
open Go.RowKit
def Sk.all(p:Sk):List Rq:=p.queue++p.dev.busy
def zJ(p:Sk):Prop:=∀r∈p.all,∀a:Int,r.on a→(∀x,zaH p.hand a=some x→x.dirty=true)∧(r.wr=true→∃x,zaH p.hand a=some x)
theorem zA.on_in{r:Rq}(g:zA r){a:Int}(h:r.on a):0≤a∧a≤31:=by
 have:=g.bds;obtain⟨h1,h2⟩:=h
 omega
theorem zrS{p:Sk}(hI:Inv p){r:Rq}(hr:r∈p.all){a:Int}(h:r.on a):p.held a=true:=by
 cases e:p.held a
 ·exact absurd h ((zlv hI a ((hI.good r hr).on_in h).2).1 e r hr)
 ·rfl
section
variable{p:Sk}
theorem zJ.congr{q:Sk}(h:zJ p)(hh:q.hand=p.hand)(ha:∀r∈q.all,r∈p.all):zJ q:=fun r hr a ho=>by rw[hh];exact h r (ha r hr) a ho
theorem zJ.map(h:zJ p)(g:Bf→Bf)(hg:∀x,(g x).pl=x.pl){q:Sk}(hh:q.hand=p.hand.map g)(ha:∀r∈q.all,r∈p.all∧∀a,r.on a→∀x,x.pl=a→(g x).dirty=x.dirty):zJ q:=by
 intro r hr a ho;obtain⟨h1,h2⟩:=ha r hr;obtain⟨t1,t2⟩:=h r h1 a ho;rw[hh,zrq _ g hg];refine⟨fun x hx=>?_,fun hw=>?_⟩
 ·obtain⟨y,hy,rfl⟩:=Option.map_eq_some_iff.1 hx;rw[h2 a ho y (zgP hy).2];exact t1 y hy
 ·obtain⟨y,hy⟩:=t2 hw;exact⟨g y,by rw[hy];rfl⟩
theorem zJ.put(hI:Inv p)(h:zJ p){x:Bf}{m:List Bf}(hp:zbo p.hand x p.held=some m)(hx:x.dirty=true∨∀r∈p.all,¬r.on x.pl){q:Sk}(hh:q.hand=m)(ha:q.all=p.all):zJ q:=by
 intro r hr a ho;rw[ha] at hr;obtain⟨t1,t2⟩:=h r hr a ho;have P:=zd6 hI.hand hp;have hheld:=zrS hI hr ho;rw[hh]
 by_cases e:a=x.pl
 ·rcases hx with hx|hx
  ·rw[e,P.same];exact⟨fun y hy=>by obtain rfl:=Option.some.inj hy;exact hx,fun _=>⟨x,rfl⟩⟩
  ·exact absurd (e▸ho) (hx r hr)
 ·rcases P.other a e with e1|⟨_,_,y,_,_,hf⟩
  ·rw[e1];exact⟨t1,t2⟩
  ·rw[hheld] at hf;cases hf
theorem zJ.askQ(hI:Inv p)(h:zJ p)(pl:Int)(hpl:0≤pl∧pl≤31)(wr:Bool)(data:List ByteArray)(hd:(wr=true∧data.length=1∧∀s∈data,s.size≤4)∨(wr=false∧data=[]))(h1:∀x,zaH p.hand pl=some x→x.dirty=true)(h2:wr=true→∃x,zaH p.hand pl=some x):zJ (p.askQ pl wr data).2:=by
 rcases zex (p:=p) pl wr data with⟨_,e⟩|⟨L,e1,e⟩
 ·rw[e];exact h
 ·rw[e];have A:=hI.adds hpl hd e1;intro r hr a ho
  rcases List.mem_append.1 hr with h'|h'
  ·obtain⟨q',hq',ho',hw',_⟩:=A.from' r h' a ho
   rcases List.mem_cons.1 hq' with rfl|h4
   ·rw[zkJ] at ho';subst ho';exact⟨h1,fun hw=>h2 (hw'.trans hw)⟩
   ·obtain⟨t1,t2⟩:=h q' (List.mem_append_left _ h4) a ho';exact⟨t1,fun hw=>t2 (hw'.trans hw)⟩
  ·exact h r (List.mem_append_right _ h') a ho
theorem zJ.serve1(hI:Inv p)(h:zJ p)(i:Nat):zJ (p.serve1 i):=by
 have hc:=hI.client i;unfold Sk.serve1
 split
 ·rename_i hk
  have hpl:=hc.pl (by rw[hk];omega);unfold Sk.serveRead
  cases e:zaH p.hand (p.client i).pl with
  |some b=>exact h.map (fun x=>if x.pl=(p.client i).pl then { x with used:=p.uses+1 } else x) (fun x=>by split<;>rfl) rfl (fun _ hr=>⟨hr,fun a _ x _=>by split<;>rfl⟩)
  |none =>
   simp only
   split
   ·exact h
   ·exact h.askQ hI _ hpl false [] (Or.inr ⟨rfl,rfl⟩) (fun x hx=>by rw[e] at hx;cases hx) (fun hw=>by cases hw)
 split
 ·rename_i hk
  unfold Sk.serveWrite
  split
  ·exact h.congr rfl (fun _ hr=>hr)
  split
  ·exact h
  split
  ·rename_i l e
   exact zJ.put hI h e (Or.inl rfl) rfl rfl
  ·exact h.congr rfl (fun _ hr=>hr)
 split
 ·unfold Sk.serveSync
  split
  ·exact h.congr rfl (fun _ hr=>hr)
  split
  ·exact h.congr rfl (fun _ hr=>hr)
  ·exact h.congr rfl (fun _ hr=>hr)
 ·exact h
theorem zJ.serve(hI:Inv p)(h:zJ p):zJ p.serve:=zJ.serve1 ((hI.serve1 0).serve1 1) (zJ.serve1 (hI.serve1 0) (zJ.serve1 hI h 0) 1) 2
theorem zrB(hI:Inv p):Inv ({ p with moment:=if p.moment+1<1000000000 then p.moment+1 else 1000000000 }:Sk):=by
 refine⟨hI.cl3,hI.cok,hI.hand,hI.d6,hI.good,hI.apart,hI.q6,hI.b2,?_,hI.tg,hI.us,hI.tin,hI.n32,hI.g32,hI.ts,hI.fr⟩;have:=hI.mom;show 0≤(if p.moment+1<1000000000 then p.moment+1 else 1000000000)∧(if p.moment+1<1000000000 then p.moment+1 else 1000000000)≤1000000000
 split<;>omega
theorem zJ.tick(hI:Inv p)(h:zJ p):zJ p.tick:=zJ.serve (zrB hI) (h.congr rfl (fun _ hr=>hr))
theorem zJ.ask(hI:Inv p)(h:zJ p)(c kind pl:Int)(data:ByteArray):zJ (p.ask c kind pl data).2:=by
 unfold Sk.ask
 by_cases hf:zag c kind pl data=0
 ·rw[if_neg (by simpa using hf)]
  split
  ·exact h
  ·have z:=zcw hf;exact zJ.serve (hI.asks c.toNat kind pl data z.2.1 z.2.2.1 z.2.2.2.2.1) (h.congr rfl (fun _ hr=>hr))
 ·rw[if_pos hf];exact h
theorem zJ.clean(hI:Inv p)(h:zJ p):zJ p.clean.2:=by
 unfold Sk.clean
 split
 ·exact h
 split
 ·exact h
 ·rename_i _ hp
  rcases zf5 p.hand p.held with⟨e,_⟩|⟨x,hx,e,hd,hh⟩
  ·rw[e] at hp;omega
  ·have hin:=hI.hand.in' x hx;have hg:=zdi hI.hand.rise hx;rw[e,hg];exact h.askQ hI _ ⟨hin.1,hin.2.1⟩ true [x.data] (Or.inl ⟨rfl,rfl,fun s hs=>by rw[List.mem_singleton.1 hs];exact hin.2.2⟩) (fun y hy=>by rw[hg] at hy;obtain rfl:=Option.some.inj hy;exact hd) (fun _=>⟨x,hg⟩)
theorem zJ.dispatch(hI:Inv p)(h:zJ p):zJ p.dispatch.2:=by
 rcases zbE hI with⟨_,e⟩|⟨i,hi,T,_,hb,_,hT,e⟩
 ·rw[e];exact h
 ·rw[e];refine h.congr rfl (fun r hr=>?_);exact(zis p.queue p.dev.busy i hi).mem_iff.2 hr
theorem zJ.dispatches(n:Nat):∀{p:Sk},Inv p→zJ p→zJ (p.dispatches n):=by
 induction n with
 |zero=>intro p _ h;exact h
 |succ n ih =>
  intro p hI h;unfold Sk.dispatches
  split
  ·exact ih hI.dispatch (zJ.dispatch hI h)
  ·exact h
end
def zgW(p:Sk)(r:Rq):Prop:=∀r'∈p.all,∀a,r.on a→¬r'.on a
theorem zqC{p:Sk}{k:Nat}(hk:k<p.dev.busy.length):(p.all).Perm ((p.took k).all++[p.dev.busy[k]]):=by
 have P:=(zeA p.dev.busy k hk).symm;have:=List.Perm.append_left p.queue P;rw[←List.append_assoc] at this;exact this
theorem ziJ{p:Sk}(hI:Inv p){k:Nat}(hk:k<p.dev.busy.length):zgW (p.took k) p.dev.busy[k]:=by
 have P:=zfR (zqC hk) hI.apart;have h2:=(List.pairwise_append.1 P).2.2;intro r' hr' a h1 h3;exact h2 r' hr' _ List.mem_cons_self a h3 h1
theorem zfS{p:Sk}(k:Nat):∀r∈(p.took k).all,r∈p.all:=fun r hr=>by
 rcases List.mem_append.1 hr with h|h
 ·exact List.mem_append_left _ h
 ·exact List.mem_append_right _ (List.mem_of_mem_eraseIdx h)
theorem zg8(p:Sk)(r:Rq):(p.did r).all=p.all:=by
 show p.queue++(p.dev.did r).busy=_;rw[Dl.did_busy];rfl
theorem zmz(p:Sk)(pl:Int)(s:ByteArray):(p.wasRead pl s).all=p.all:=by
 unfold Sk.wasRead
 split
 ·rfl
 ·split<;>rfl
theorem zmy(p:Sk)(r:Rq)(xs:List ByteArray)(j:Nat):(p.wentOne r xs j).all=p.all:=by
 unfold Sk.wentOne
 split
 ·rfl
 ·exact zmz p _ _
theorem ziC(p:Sk)(r:Rq)(xs:List ByteArray):∀n,(p.wentTo r xs n).all=p.all
 |0=>rfl
 |n+1=>by rw[zbp,zmy];exact ziC p r xs n
theorem zJ.wasRead{p:Sk}(hI:Inv p)(h:zJ p)(pl:Int)(s:ByteArray)(hf:∀r∈p.all,¬r.on pl):zJ (p.wasRead pl s):=by
 unfold Sk.wasRead
 split
 ·exact h
 ·split
  ·rename_i l e
   exact zJ.put hI h e (Or.inr hf) rfl rfl
  ·exact h.congr rfl (fun _ hr=>hr)
theorem zJ.wentTo{p:Sk}(hI:Inv p)(h:zJ p)(r:Rq)(gr:zA r)(hf:zgW p r)(xs:List ByteArray)(hx:∀j,(xs.getD j ByteArray.empty).size≤4):∀n,n≤r.m.toNat→zJ (p.wentTo r xs n)
 |0,_=>h
 |n+1,hn=>by
  rw[zbp];have ih:=zJ.wentTo hI h r gr hf xs hx n (by omega);have hIn:=hI.wentTo r gr xs hx n (by omega);have:=gr.bds;have hon:r.on (r.f+n):=⟨by omega,by omega⟩
  have hfr:∀r'∈(p.wentTo r xs n).all,¬r'.on (r.f+n):=fun r' hr'=>by rw[ziC] at hr';exact hf r' hr' _ hon
  unfold Sk.wentOne
  split
  ·refine ih.map (fun x=>if x.pl=r.f+n∧x.data=r.data.getD n ByteArray.empty then { x with dirty:=false } else x) (fun x=>by split<;>rfl) rfl (fun r' hr'=>⟨hr',fun a ho x hx'=>?_⟩);rw[if_neg];rintro⟨e,_⟩;exact hfr r' hr' (by rw[←e,hx'];exact ho)
  ·exact zJ.wasRead hIn ih _ _ hfr
theorem zJ.end'{p:Sk}(hI:Inv p)(hs:zar p.dev)(h:zJ p)(i:Int)(fault:Bool):zJ (p.end' i fault).2:=by
 rcases zgy p i fault with⟨_,e⟩|⟨k,hk,_,⟨_,e⟩|⟨_,hf,e⟩|⟨_,_,_,e⟩|⟨_,_,_,e⟩⟩
 ·rw[e];exact h
 ·rw[e];have gr:=hI.good _ (List.mem_append_right _ (List.getElem_mem hk));have hI1:=(hI.took k).did p.dev.busy[k];have h1:zJ ((p.took k).did p.dev.busy[k]):=h.congr rfl (fun r hr=>by rw[zg8] at hr;exact zfS k r hr);have hf:zgW ((p.took k).did p.dev.busy[k]) p.dev.busy[k]:=by unfold zgW;rw[zg8];exact ziJ hI hk
  exact zJ.serve (hI1.wentTo _ gr _ (zbN hs _) _ (Nat.le_refl _)) (zJ.wentTo hI1 h1 _ gr hf _ (zbN hs _) _ (Nat.le_refl _))
 ·rw[e];refine h.congr rfl (fun r hr=>?_);have P:(p.queue++p.dev.busy).Perm (p.queue++(p.dev.busy.eraseIdx k++[p.dev.busy[k]])):=List.Perm.append_left _ (zeA p.dev.busy k hk).symm;exact P.mem_iff.2 hr
 ·rw[e];exact zJ.serve ((hI.took k).lost _ _) (h.congr rfl (fun r hr=>zfS (p:=p) k r hr))
 ·rw[e];exact zJ.serve (((hI.took k).lost' _).readers _ _ _) (h.congr rfl (fun r hr=>zfS (p:=p) k r hr))
structure za7(n:Nat)(p:Sk):Prop where
 fit:Fit n p
 tight:zJ p
theorem za7.round{n:Nat}{p:Sk}(h:za7 n p):za7 (n+11) p.round:=⟨h.fit.round,zJ.end' ((h.fit.tick.clean.dispatches 3).inv) ((h.fit.tick.clean.dispatches 3).short) (zJ.dispatches 3 h.fit.tick.clean.inv (zJ.clean h.fit.tick.inv (zJ.tick h.fit.inv h.tight))) 0 false⟩
theorem za7.doStep{n:Nat}{p:Sk}(h:za7 n p)(x:Sp):za7 (n+11) (p.doStep x).2:=by
 refine⟨h.fit.doStep x,?_⟩;unfold Sk.doStep
 split
 ·exact zJ.ask h.fit.inv h.tight _ _ _ _
 split
 ·exact zJ.ask h.fit.inv h.tight _ _ _ _
 split
 ·exact zJ.ask h.fit.inv h.tight _ _ _ _
 split
 ·exact zJ.tick h.fit.inv h.tight
 split
 ·exact zJ.clean h.fit.inv h.tight
 split
 ·exact zJ.dispatch h.fit.inv h.tight
 split
 ·exact zJ.end' h.fit.inv h.fit.short h.tight _ _
 split
 ·exact zJ.end' h.fit.inv h.fit.short h.tight _ _
 split
 ·exact h.round.tight
 ·exact h.tight
theorem za7.steps(l:List Sp):∀{n:Nat} {p:Sk},za7 n p→za7 (n+11*l.length) (p.steps l):=by
 induction l with
 |nil=>intro n p h;exact h
 |cons x l ih =>
  intro n p h;have:=ih (h.doStep x);exact⟨this.fit.mono (by rw[List.length_cons];omega),this.tight⟩
theorem zqZ:za7 0 sk0:=⟨zeF,fun r hr=>by cases hr⟩
end Go.Proofs.YtlhgjplipgandaaGreat
namespace Go.Proofs.YtlhgjplipgandaaGreat
open Go.RowKit Go.BigFrame Go.Maps
attribute [local go_sem] ze.cell ze.frozen
theorem zhj(l:List Bf)(at':Int)(data:ByteArray):(cleanL l at' data).length=l.length:=by simp[cleanL]
structure RdB(s:Nat)(p:Sk)(A:Rs)(w:World)(g:Nat)(r:Rq)(xa:Option Addr)(xn xc:Nat)(er:Int)(q:Sk)(wr:World)(p':Sk)(A':Rs):Prop where
 st:zE s p A p' A' w wr
 nf:p'.nf=q
 cnt:A'.cnt≤A.cnt
 box:za6 wr g r xa xn xc er
 new:w.heap.size≤g
 off:¬A'.foot s g
section
variable{s:Nat}{p p' p2:Sk}{A A' A2:Rs}{w wr w2:World}{g:Nat}{r:Rq}{xa:Option Addr}{xn xc:Nat}{er:Int}{q q2:Sk}
theorem RdB.step(h:RdB s p A w g r xa xn xc er q wr p' A')(hs:zE s p' A' p2 A2 wr w2)(hn:p2.nf=q2)(hc:A2.cnt≤A'.cnt):RdB s p A w g r xa xn xc er q2 w2 p2 A2 :=
 ⟨h.st.trans hs,hn,by have:=h.cnt;omega,h.box.kept hs h.off,h.new,fun e=>(hs.foot g e).elim h.off (fun e'=>absurd (zg h.box.1) (by show ¬g<_;omega))⟩
theorem RdB.later(h:RdB s p A w g r xa xn xc er q wr p' A')(hb:Below wr.heap.size wr w2):RdB s p A w g r xa xn xc er q w2 p' A':=h.step (zE.same' h.st.at' hb) h.nf (Nat.le_refl _)
end
section
variable{s:Nat}{p:Sk}{A:Rs}{w w1:World}{k:Nat}{r:Rq}{m':Rd}{a':Ra}{n' c':Nat}{D':DataW Unit}
theorem zkQ(hs:zaY A.v A.b A.bm A.m A.ra A.n A.D m' a' n' D' w w1):∀j,({ A with m:=m',ra:=a',n:=n',D:=D',cnt:=c' }:Rs).foot s j→A.foot s j∨w.heap.size≤j:=by
 rintro j (e|e|e)
 ·exact Or.inl (Or.inl e)
 ·exact(hs.foot j e).imp (fun e=>Or.inr (Or.inl e)) id
 ·exact Or.inl (Or.inr (Or.inr e))
theorem zH.wentAt(h:zH s p A w)(gr:zA r)(hs:zaY A.v A.b A.bm A.m A.ra A.n A.D (({ A.m with busy:=A.m.busy.eraseIdx k }:Rd).did r) a' n' D' w w1)(hn:n'≤2*(A.cnt+1))(hm:zcr D' (fun x=>if x=r.tags.getD 0 0 then 0 else p.f x)):zE s p A ((p.took k).did r) { A with m:=(({ A.m with busy:=A.m.busy.eraseIdx k }:Rd).did r),ra:=a',n:=n',D:=D',cnt:=A.cnt+1 } w w1 :=
 zH.step (d':=(({ p.dev with busy:=p.dev.busy.eraseIdx k }:Dl).did r)) (f':=fun x=>if x=r.tags.getD 0 0 then 0 else p.f x) p.ag (A.cnt+1) h hs ((h.mem.tied.busy _ _).did r) (by rw[Rd.did_busyR,Dl.did_busy];show A.m.busy.eraseIdx k=p.dev.busy.eraseIdx k;rw[h.mem.busy]) hn (by
  have:=h.mem.wb;have h2:=znn ({ A.m with busy:=A.m.busy.eraseIdx k }:Rd) r gr;have h3:({ A.m with busy:=A.m.busy.eraseIdx k }:Rd).waits.length=A.m.waits.length:=rfl
  omega) hm hs.at'.map.isMap (fun q hq=>by
   rw[Dl.did_busy] at hq;exact h.roffs hs (List.mem_of_mem_eraseIdx hq))
end
theorem zo6(s:Nat)(p:Sk)(A:Rs)(w:World)(h:zH s p A w)(hI:Inv p)(hL:zp p)(hS:zar p.dev)(hT:p.tags≤3999999999999999980)(hU:p.uses≤3999999999999999980)(hA:A.cnt≤240000)(k:Nat)(r:Rq)(hk:p.dev.busy[k]?=some r)(hw:r.wr=true)(q:Sk)(hq:(((p.took k).did r).nf.wentWell r (zX p.dev r)).serve=q) :
  Calls Tryz.prog 28 #[.pointer (some ⟨s,0,none⟩),.int .i64 k,.bool false] w fun e w'=>e=.returned (.int .i64 0)∧KOk 1 s p A w w' q:=by
 have c1:=h.cell 1 _ rfl;have hl:=h.lt;have HST:=za h;have hmem:r∈p.dev.busy:=List.mem_of_getElem? hk;have HG:=za (hI.good r (List.mem_append_right _ hmem));have HV:=za (h.rvreq hI (by omega) hk);have HI1:=za ((hI.took k).did r);have HL1:Hid (zp ((p.took k).did r)):=hL;have HQ:=za hq;have HB:=za (And.intro hT hU);have HSH:=za (zbN hS r);have HAT:=za (h.busyAt hmem);have HOF:=za (h.mem.roff r (List.mem_append_right _ hmem));have HN:Hid (A.n≤1000000000):=(by have:=h.mem.nb;show _≤_;omega);have HW4:Hid (A.m.waits.length≤1000000):=(by have:=h.mem.wb;show _≤_;omega)
 clear h hI hT hU hk hq hmem hS hL hA;go_enter Tryz.func28,Tryz.ntmps28;go_wp2_with fail;refine(rv_ok A.v A.b A.bm A.m A.ra A.n A.D k r _ w HST.out.mem.drv HV.out HG.out HW4.out HN.out).mono ?_;rintro e w1 ⟨a',xa,xc,xs,rfl,hxs,hx1,hx2,hv⟩;have HXS:Hid (xs=zX p.dev r):=(hxs.out.trans (zgh HST.out.mem.tied r).symm);have HX1:=za hx1;have HX2:=za hx2;have HFT:=za (zkQ (s:=s) (c':=A.cnt+1) hv);have HR1:Hid (r.At w1):=HAT.out.frame ⟨fun he ad ha e=>HOF.out.1 he ad ha (Or.inl (Or.inr (Or.inl e))),fun he ad ha e=>HOF.out.2 he ad ha (Or.inl (Or.inr (Or.inl e)))⟩ hv.only;have HS1:=za (HST.out.wentAt HG.out hv (by have:=HST.out.mem.nb;omega) (HST.out.mem.map.put HST.out.mem.im (r.tags.getD 0 0) 0));have HFL:Hid (∀j,({ A with m:=(({ A.m with busy:=A.m.busy.eraseIdx k }:Rd).did r),ra:=a',n:=A.n+1,D:=A.D.put (.int .i64 (r.tags.getD 0 0)) (.lit (.int .i64 0)),cnt:=A.cnt+1 }:Rs).foot s j→j<w1.heap.size):=fun j hj=>HS1.out.at'.footLt j hj
 have HRO:Hid (r.Off (({ A with m:=(({ A.m with busy:=A.m.busy.eraseIdx k }:Rd).did r),ra:=a',n:=A.n+1,D:=A.D.put (.int .i64 (r.tags.getD 0 0)) (.lit (.int .i64 0)),cnt:=A.cnt+1 }:Rs).foot s)):=Rq.Off.step HAT.out (HOF.out.mono (fun j e=>Or.inl e)) HFT.out;clear hxs hx1 hx2 hv;generalize hxl:xs.length=xm at *;clear hxl;obtain⟨A1,hA1⟩:∃A1:Rs,A1={ A with m:=(({ A.m with busy:=A.m.busy.eraseIdx k }:Rd).did r),ra:=a',n:=A.n+1,D:=A.D.put (.int .i64 (r.tags.getD 0 0)) (.lit (.int .i64 0)),cnt:=A.cnt+1 }:=⟨_,rfl⟩
 have HC1:Hid (A1.cnt≤A.cnt+1):=by show A1.cnt≤_;rw[hA1];exact Nat.le_refl _
 rw[←hA1] at HS1 HFL HRO;clear hA1 HFT HST HV HAT HOF HN HW4;have HZ0:=za (zE.same' HS1.out.at' (Below.refl _ _));go_upto_region 2 with(refine zP rfl (.tmp 7) (.tmp 28) rfl w1.heap.size r xa xm xc 0 rfl rfl (zT (zaE w1 120)) (fun wK=>zE s _ A1 _ A1 w1 wK∧zal wK w1.heap.size r xa xm xc 0) (zjd HZ0.out r xa xm xc 0) ?_;rintro wK ⟨hsK,hrK⟩;have HSK:=za hsK;have HRK:=za hrK;obtain⟨⟨y0,y1,y2,y3,y4,y5,y6,y7⟩,-,yl⟩:=hrK;have lsK:=hsK.at'.lt;clear hsK HZ0)
 have HC0:Hid (RdB s ((p.took k).did r) A1 w1 w1.heap.size r xa xm xc 0 ((p.took k).did r).nf wK ((p.took k).did r) A1):=⟨HSK.out,rfl,Nat.le_refl _,HRK.out.1,Nat.le_refl _,fun e=>by have:=HFL.out _ e;omega⟩
 clear HSK HRK;obtain⟨M,hM⟩:∃M:Nat,r.m=M:=⟨r.m.toNat,by have:=HG.out.bds;omega⟩
 have HM:=za hM;rw[hM] at y2;have hb4:=HG.out.bds;rw[hM] at hb4;have HLEN:Hid (r.data.length=M):=by have:=HG.out.shapeW hw;show _=_;omega
 rw[hw] at y0;generalize w1.heap.size=g at *;go_upto_region 15 with fail
 go_loopw[12] (fun x wr=>∃(j:Nat) (p2:Sk) (A2:Rs),j≤M∧x=.int .i64 j∧RdB s ((p.took k).did r) A1 w1 g r xa xm xc 0 (((p.took k).did r).nf.wentTo r (zX p.dev r) j) wr p2 A2) (fun x _=>M-(intOf x).toNat)
 case atStart=>exact⟨0,_,A1,by omega,rfl,HC0.out⟩
 case round =>
  clear y0 y1 y2 y3 y4 y5 y6 y7 yl lsK;obtain⟨j,p2,A2,hj,rfl,hr⟩:=hrel;have HR:=za hr;obtain⟨b0,b1,b2,b3,-⟩:=id hr.box;rw[hw] at b0;rw[hM] at b2;have lg:=zg b0;have l2:=hr.st.at'.lt
  by_cases hlt:j<M
  ·as_aux_lemma =>
   have hlt':(j:Int)<(M:Int):=by omega
   have hj0:(0:Int)≤(j:Int):=by omega
   have hwr:IntKind.i64.wrap (r.f+(j:Int))=r.f+(j:Int):=by rw[IntKind.wrap_i64];omega
   have hst:=za2 HR1.out.data hr.st.only HRO.out.1;have hjd:j<r.data.length:=by rw[HLEN.out];exact hlt
   have hjd':(j:Int)<(r.data.length:Int):=by omega
   obtain⟨db,do',hda⟩:∃b o,r.da=some ⟨b,o,none⟩:=by
    rcases hst.form with e|h'
    ·rw[e] at hjd;exact absurd hjd (Nat.not_lt_zero _)
    ·exact h'
   rw[hda] at hst b3;have e0:=hst.at hjd;have HIN:Hid (Inv p2):=by
    have h1:=HI1.out.nf.wentTo r HG.out (zX p.dev r) HSH.out j (by have:=HM.out;omega);rw[←hr.nf] at h1;exact h1.of_nf
   have HWN:Hid (((p.took k).did r).nf.wentTo r (zX p.dev r) (j+1)=({ p2 with hand:=cleanL p2.hand (r.f+j) r.data[j] }:Sk).nf):=by
    show _=_;rw[zbp,←hr.nf];unfold Sk.wentOne;rw[if_pos hw,List.getD_eq_getElem?_getD,List.getElem?_eq_getElem hjd,Option.getD_some]
    rfl
   obtain⟨dt,hdt⟩:∃dt,r.data[j]=dt:=⟨_,rfl⟩
   rw[hdt] at e0 HWN;clear hst hdt hda;have c2:=hr.st.at'.cell 2 _ rfl;have HST2:=za hr.st.at';have H8:=za HIN.out.hand.len;clear hr;go_upto_region 19 with fail;have HS:Hid ((fun wx:World=>wx.cell? ⟨s,2,none⟩=some (.slice A2.ha p2.hand.length A2.hc)∧wx.cell? ⟨g,3,none⟩=some (.slice (some ⟨db,do',none⟩) r.data.length r.dc)∧wx.cell? ⟨db,do'+j,none⟩=some (.string dt)∧s<wx.heap.size) wr.drew):=⟨c2,b3,e0,l2⟩
   have eg:∀args w,Sem.run Tryz.prog (callFunc 68 args) w=.ok (.enter 68 args) w:=by intro args w;go_simp
   refine zaJ (S:=fun wx:World=>wx.cell? ⟨s,2,none⟩=some (.slice A2.ha p2.hand.length A2.hc)∧wx.cell? ⟨g,3,none⟩=some (.slice (some ⟨db,do',none⟩) r.data.length r.dc)∧wx.cell? ⟨db,do'+j,none⟩=some (.string dt)∧s<wx.heap.size) (d:=15) (by kernel_rfl) ?_;refine tk 0 ?_ rfl (Or.inl ⟨by rfl,?_⟩) HS.out ?_;rotate_left;(focus(intro w0 hSw;obtain⟨s0,s1,s2,s3⟩:=hSw;go_simp;(try with_reducible rfl)));(try simp only[Act.put,dP])
   refine tk 1 ?_ rfl (Or.inl ⟨by rfl,?_⟩) HS.out ?_;rotate_left;(focus(intro w0 hSw;obtain⟨s0,s1,s2,s3⟩:=hSw;go_simp;(try with_reducible rfl)));(try simp only[Act.put,dP])
   refine tk 2 ?_ rfl (Or.inl ⟨by rfl,?_⟩) HS.out ?_;rotate_left;(focus(intro w0 hSw;obtain⟨s0,s1,s2,s3⟩:=hSw;go_simp;(try with_reducible rfl)));(try simp only[Act.put,dP])
   refine tk 3 ?_ rfl (Or.inl ⟨by rfl,?_⟩) HS.out ?_;rotate_left;(focus(intro w0 hSw;obtain⟨s0,s1,s2,s3⟩:=hSw;go_simp;(try with_reducible rfl)));(try simp only[Act.put,dP])
   refine tk 4 ?_ rfl (Or.inl ⟨by rfl,?_⟩) HS.out ?_;rotate_left;(focus(intro w0 hSw;obtain⟨s0,s1,s2,s3⟩:=hSw;go_simp;(try with_reducible rfl)));(try simp only[Act.put,dP])
   refine tk 5 ?_ rfl (Or.inl ⟨by rfl,?_⟩) HS.out ?_;rotate_left;(focus(intro w0 hSw;obtain⟨s0,s1,s2,s3⟩:=hSw;go_simp;(try with_reducible rfl)));(try simp only[Act.put,dP])
   refine tk 6 ?_ rfl (Or.inl ⟨by rfl,?_⟩) HS.out ?_;rotate_left;(focus(intro w0 hSw;obtain⟨s0,s1,s2,s3⟩:=hSw;go_simp;(try with_reducible rfl)));(try simp only[Act.put,dP])
   refine tk 7 ?_ rfl (Or.inl ⟨by rfl,?_⟩) HS.out ?_;rotate_left;(focus(intro w0 hSw;obtain⟨s0,s1,s2,s3⟩:=hSw;go_simp;(try with_reducible rfl)));(try simp only[Act.put,dP])
   refine tk 8 ?_ rfl (Or.inl ⟨by rfl,?_⟩) HS.out ?_;rotate_left;(focus(intro w0 hSw;obtain⟨s0,s1,s2,s3⟩:=hSw;go_simp;(try with_reducible rfl)));(try simp only[Act.put,dP])
   refine tk 9 ?_ rfl (Or.inl ⟨by rfl,?_⟩) HS.out ?_;rotate_left;(focus(intro w0 hSw;obtain⟨s0,s1,s2,s3⟩:=hSw;go_simp;(try with_reducible rfl)));(try simp only[Act.put,dP])
   refine tk 10 ?_ rfl (Or.inl ⟨by rfl,?_⟩) HS.out ?_;rotate_left;(focus(intro w0 hSw;obtain⟨s0,s1,s2,s3⟩:=hSw;go_simp;(try with_reducible rfl)));(try simp only[Act.put,dP])
   refine tk 11 ?_ rfl (Or.inl ⟨by rfl,?_⟩) HS.out ?_;rotate_left;(focus(intro w0 hSw;obtain⟨s0,s1,s2,s3⟩:=hSw;go_simp;(try with_reducible rfl)));(try simp only[Act.put,dP])
   refine zw (i:=12) rfl (by kernel_rfl) ?_;intro K hK;refine zfj rfl 68 114 115 121 56 3 9 rfl eg (.slice A2.ha p2.hand.length A2.hc) (.int .i64 (r.f+(j:Int))) (.string dt) rfl rfl rfl (fun v w'=>∃a' c',v=.slice a' p2.hand.length c'∧zB w' a' (cleanL p2.hand (r.f+(j:Int)) dt)∧zct wr.heap.size a' c' p2.hand.length∧Below wr.heap.size wr w') ((zsf p2.hand A2.ha A2.hc (r.f+(j:Int)) dt wr.drew (HST2.out.mem.hand.later (Below.refl _ _).drew) HST2.out.mem.hnil (by have:=H8.out;omega)).mono (fun e w' ⟨a',c',he,h1,h2,h3⟩=>⟨_,he,a',c',rfl,h1,h3,(Below.refl _ _).drew.trans h2⟩)) ?_;rintro v w5 ⟨a2,c2',rfl,u1,⟨u4,u2,u3⟩,u5⟩;have HS5:=za (zE.same' HST2.out u5);have HSH5:=za (HS5.out.at'.setHand (cleanL p2.hand (r.f+(j:Int)) dt) a2 c2' u1 (by rw[zhj];exact u2) u4 (fun _ q' hq' e=>by have:=u3 q' hq';have:=HST2.out.offLt _ e;omega));have v2:=HS5.out.at'.cell 2 _ rfl;have x2:=HS5.out.at'.fz 2;have l5:=HS5.out.at'.lt;have HSX:Hid ((fun wx:World=>wx.cell? ⟨s,2,none⟩=some (.slice A2.ha p2.hand.length A2.hc)∧wx.cell? ⟨g,3,none⟩=some (.slice (some ⟨db,do',none⟩) r.data.length r.dc)∧wx.cell? ⟨db,do'+j,none⟩=some (.string dt)∧s<wx.heap.size) w5):=⟨v2,cellB_later' u5 b3,cellB_later' u5 e0,l5⟩
   refine hK _ _ (fun _=>HSX.out) ?_
   (try simp only[Act.put,dP])
   clear hK u1 u2 u3 u4;refine zw (i:=13) rfl (by kernel_rfl) ?_;intro K hK;go_simp;refine hK _ _ (fun _=>HSX.out) ?_
   (try simp only[Act.put,dP])
   clear hK;refine zw (i:=14) rfl (by kernel_rfl) ?_;intro K hK;go_simp;refine hK _ _ (fun _=>HSX.out) ?_
   (try simp only[Act.put,dP])
   clear hK;refine zw (i:=15) rfl (by kernel_rfl) ?_;intro K hK;go_simp;refine hK _ _ (fun h=>absurd rfl h) ?_
   (try simp only[Act.put,dP])
   clear hK;refine zaO (by kernel_rfl) ?_ _;have HN2:Hid (RdB s ((p.took k).did r) A1 w1 g r xa xm xc 0 (((p.took k).did r).nf.wentTo r (zX p.dev r) (j+1)) (w5.setCell ⟨s,2,none⟩ (.slice a2 p2.hand.length c2')) { p2 with hand:=cleanL p2.hand (r.f+(j:Int)) dt } { A2 with ha:=a2,hc:=c2' }):=by
    have hx:=HSH5.out;rw[zhj] at hx;exact HR.out.step (HS5.out.trans hx) HWN.out.symm (Nat.le_refl _)
   clear u5 HSX HS HSH5 HS5 v2 x2 b0 b1 b2 b3 e0 c2 HST2;go_wp2;go_roundw
   case rel=>exact⟨j+1,_,_,by omega,by go_num,HN2.out⟩
   case measure=>simp[intOf];omega
  ·as_aux_lemma =>
   obtain rfl:j=M:=by omega
   have hnf:=hr.nf;have hmil:=zcI ((p.took k).did r).nf r (zX p.dev r) j;have hje:j=r.m.toNat:=by have:=HM.out;omega
   have HIN:Hid (Inv p2):=by
    have h1:=HI1.out.nf.wentTo r HG.out (zX p.dev r) HSH.out j (by omega);rw[←hnf] at h1;exact h1.of_nf
   have HLN:Hid (zp p2):=by
    have h1:=HL1.out.nf.wentTo r (zX p.dev r) j;rw[←hnf] at h1;exact h1.of_nf
   have HB2:Hid (p2.tags≤3999999999999999990∧p2.uses≤3999999999999999990):=by
    rw[←hnf] at hmil;have e1:p2.tags≤p.tags+j:=hmil.tags;have e2:p2.uses≤p.uses+j:=hmil.uses;have:=HB.out;exact⟨by omega,by omega⟩
   have HQ2:Hid (p2.nf.serve=q):=by
    show p2.nf.serve=q;rw[hnf,hje];exact HQ.out
   clear hr hnf hmil hje;go_wp2_with fail;refine(zcu s p2 A2 _ HR.out.st.at' HIN.out HLN.out HB2.out.1 HB2.out.2 q HQ2.out).mono ?_;rintro e w4 ⟨rfl,hok⟩;have HO:Hid (KOk 1 s p A w w4 q):=KOk.before (c':=0) HS1.out HC1.out (KOk.before (c:=0) HR.out.st HR.out.cnt hok (Nat.le_refl _)) (Nat.le_refl _);clear hok b0 b1 b2 b3;go_wp2;go_ret;exact⟨rfl,HO.out⟩
end Go.Proofs.YtlhgjplipgandaaGreat
