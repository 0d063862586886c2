/- Joined. -/
import Derived.Deep.RegionWith
import Derived.Test.YtlhgjplipgandaaGreatDoorE36
set_option maxRecDepth 100000
set_option maxHeartbeats 8000000
set_option linter.unusedSimpArgs false
set_option linter.unusedSectionVars false
namespace Go.Proofs.YtlhgjplipgandaaGreatDoor
open Tryz
section
open Go.RowKit Go.BigFrame Go.Maps
structure sj(W:World)(g s e k:Nat)(p p2:Sk)(A:Sa)(B:Rs)(w:World):Prop where
 one:kF g s p A w
 two:jg e k p2 B w
 xa:A.X=jS e k B
 xb:B.X=ko g s A
 apart:∀j,ko g s A j->¬jS e k B j
 av:¬jS e k B A.v
 bv:¬ko g s A B.v
 bel:bL W w
 f1:∀j,ko g s A j->W.heap.size<=j
 f2:∀j,jS e k B j->W.heap.size<=j
section
variable{W:World}{g s s' e k k' c:Nat}{p p' p2 q:Sk}{A A':Sa}{B B':Rs}{w w':World}
theorem sj.later(h:sj W g s e k p p2 A B w)(hb:bL w w'):sj W g s e k p p2 A B w':=⟨h.one.later hb,h.two.later hb,h.xa,h.xb,h.apart,h.av,h.bv,ab h.bel hb,h.f1,h.f2⟩
theorem sj.code(h:sj W g s e k p p2 A B w)(hs:Ac g s A w q s' p' A' w'):sj W g s' e k p' p2 A' { B with X:=ko g s' A' } w':=by
 have hx:∀j,ko g s A j->B.off k j:=fun j hj=>ir (by rw[h.xb];exact hj)
 have fj:∀{j:Nat},¬B.off k j->¬ko g s A j:=fun h1 e=>h1 (hx _ e)
 have ye:∀j,ko g s' A' j->ko g s A j\/w.heap.size<=j:=by
  rintro j (e|e)
  ·exact(hs.au j e).imp il id
  ·exact il (ir e)
 have h2:bK k p2 B w':=h.two.st.frame hs.only (fun j hj e=>h.apart j e (il hj)) h.bv (fun aE q hq=>fj (h.two.st.mem.fj aE q hq)) (fun aE q hq=>fj (h.two.st.mem.jW aE q hq)) (fun r hr=>(h.two.st.mem.eX r hr).mono hx) (fun i hi j hj aE q hq=>fj (h.two.st.mem.ij i hi j hj aE q hq)) (fun aE q hq=>fj (h.two.st.mem.mx aE q hq));have aq:∀j,ko g s' A' j->j<w'.heap.size:=fun j hj=>hs.at'.zJ j hj
 have qd:¬ko g s A e:=fun e2=>h.apart e e2 (ir rfl)
 refine⟨hs.at',⟨h.two.st.uC h2 (ko g s' A') (fun j hj=>(ye j hj).imp (fun e=>by rw[h.xb];exact e) id) aq,?_,h.two.off⟩,by rw[hs.X];exact h.xa,rfl,fun j hj e=>?_,?_,fun e=>?_,?_,?_,h.f2⟩
 ·rw[hs.only.block e (aH h.two.aW) qd];exact h.two.aW
 ·rcases ye j hj with h1|h1
  ·exact h.apart j h1 e
  ·have:=h.two.zJ j e;omega
 ·rcases hs.v with e1|e1
  ·rw[e1];exact h.av
  ·intro e2;have:=h.two.zJ _ e2;omega
 ·rcases ye _ e with h1|h1
  ·exact h.bv h1
  ·have h3:w.heap.size<=B.v:=h1;have:=aH h.two.st.mem.cz.aW;omega
 ·exact h.bel.trans (hs.only.below h.bel.size h.f1)
 ·intro j hj
  rcases ye j hj with h1|h1
  ·exact h.f1 j h1
  ·exact acv h.bel.size h1
theorem sj.ref(h:sj W g s e k p p2 A B w)(hs:xN c e k B w q k' p' B' w'):sj W g s e k' p p' { A with X:=jS e k' B' } B' w':=by
 have hx:∀j,jS e k B j->A.off s j:=fun j hj=>ir (by rw[h.xa];exact hj)
 have fj:∀{j:Nat},¬A.off s j->¬jS e k B j:=fun h1 e=>h1 (hx _ e)
 have ye:∀j,jS e k' B' j->jS e k B j\/w.heap.size<=j:=by
  rintro j (e|e)
  ·exact(hs.au j e).imp il id
  ·exact il (ir e)
 have h2:bo s p A w':=h.one.st.frame hs.only (fun j hj e=>h.apart j (il hj) e) h.av (fun aE q hq=>fj (h.one.st.mem.gX aE q hq)) (fun aE q hq=>fj (h.one.st.mem.iu aE q hq)) (fun r hr=>(h.one.st.mem.fe r hr).mono hx);have aq:∀j,jS e k' B' j->j<w'.heap.size:=fun j hj=>hs.at'.zJ j hj
 have qd:¬jS e k B g:=fun e2=>h.apart g (ir rfl) e2
 refine⟨⟨h.one.st.uC h2 (jS e k' B') (fun j hj=>(ye j hj).imp (fun e=>by rw[h.xa];exact e) id) aq,?_,h.one.off⟩,hs.at',rfl,by rw[hs.X];exact h.xb,fun j hj e=>?_,fun e=>?_,?_,?_,h.f1,?_⟩
 ·rw[hs.only.block g (aH h.one.aW) qd];exact h.one.aW
 ·rcases ye j e with h1|h1
  ·exact h.apart j hj h1
  ·have:=h.one.zJ j hj;omega
 ·rcases ye _ e with h1|h1
  ·exact h.av h1
  ·have h3:w.heap.size<=A.v:=h1;have:=aH h.one.st.mem.cz.aW;omega
 ·rcases hs.v with e1|e1
  ·rw[e1];exact h.bv
  ·intro e2;have:=h.one.zJ _ e2;omega
 ·exact h.bel.trans (hs.only.below h.bel.size h.f2)
 ·intro j hj
  rcases ye j hj with h1|h1
  ·exact h.f2 j h1
  ·exact acv h.bel.size h1
end
theorem Ub{w w1 w2:World}{g s e k:Nat}{p p2:Sk}{A:Sa}{B:Rs}{X:Nat->Prop}(h1:DE g s p A X w w1)(h2:IV e k p2 B (ko g s A) w1 w2):sj w g s e k p p2 { A with X:=jS e k B } B w2:=by
 have aq:=h1.at'.zJ;have rH:=h1.at'.later h2.bel;have jm:=h1.bel.size;refine⟨⟨h1.at'.st.uC rH.st (jS e k B) (fun j hj=>ir (h2.au j hj)) h2.at'.zJ,rH.aW,rH.off⟩,h2.at',rfl,h2.X,fun j hj e=>?_,fun e=>?_,fun e=>?_,ab h1.bel h2.bel,h1.au,fun j hj=>acv jm (h2.au j hj)⟩
 ·have a:=aq j hj;have b:=h2.au j e
  omega
 ·have a:A.v<w1.heap.size:=aH h1.at'.st.mem.cz.aW;have b:w1.heap.size<=A.v:=h2.au _ e
  omega
 ·have a:=aq _ e;have b:=h2.v
  omega
section
variable{W:World}{g s e k:Nat}{p p2 q:Sk}{A:Sa}{B:Rs}{w:World}
theorem sj.both(h:sj W g s e k p p2 A B w):Iy s k p p2 { A with X:=B.au k } { B with X:=A.au s } w :=
 ⟨h.one.st.uC h.one.st (B.au k) (fun j hj=>il (by rw[h.xa];exact il hj)) (fun j hj=>h.two.st.bz j hj),h.two.st.uC h.two.st (A.au s) (fun j hj=>il (by rw[h.xb];exact il hj)) (fun j hj=>h.one.st.bz j hj),rfl,rfl,fun j hj e=>h.apart j (il hj) (il e),fun e=>h.av (il e),fun e=>h.bv (il e)⟩
end
end
section
open Go.RowKit
structure pq(n:Nat)(q:Sk):Prop where
 jD:ig n q
 left:aL q
 gG:cd q
 su:cr q
theorem pq.mono{n m:Nat}{q:Sk}(h:pq n q)(hm:n<=m):pq m q:=⟨iz h.jD hm,h.left,h.gG,h.su⟩
theorem Ha:pq 0 lL:=⟨Vy,KJ,NC,zm⟩
theorem pq.fk{n:Nat}{q:Sk}(h:pq n q)(kp:Int):pq 0 (vy (q.dev.fk kp)):=⟨⟨h.jD.fit.fk kp,fun r hr=>by cases hr⟩,KJ,NC,zm⟩
abbrev tV(n:Nat)(z:List UInt8 × Sk):Prop:=pq (n+10989) z.2
theorem pq.step{n:Nat}{q:Sk}(h:pq n q)(x:St)(hx:x.a<=999):pq (n+10989) (iD q x).2:=by
 have key:tV n (iD q x):=by
  unfold iD;refine df (P:=tV n) (fun _=>⟨iz (CQ h.jD _ _ _ _) oM,h.left.ask h.jD.fit.inv.hand.len _ _ _ _,h.gG.ask _ _ _ _,cr.ask h.jD.fit.inv h.su _ _ _ _⟩) (fun _=>?_);refine df (P:=tV n) (fun _=>⟨iz (CQ h.jD _ _ _ _) oM,h.left.ask h.jD.fit.inv.hand.len _ _ _ _,h.gG.ask _ _ _ _,cr.ask h.jD.fit.inv h.su _ _ _ _⟩) (fun _=>?_);refine df (P:=tV n) (fun _=>⟨iz (CQ h.jD _ _ _ _) oM,h.left.ask h.jD.fit.inv.hand.len _ _ _ _,h.gG.ask _ _ _ _,cr.ask h.jD.fit.inv h.su _ _ _ _⟩) (fun _=>?_);refine df (P:=tV n) (fun _=>h.mono oM) (fun _=>?_);refine df (P:=tV n) (fun _=>⟨iz (Gk h.jD) oM,h.left.tick,h.gG.tick,cr.tick h.jD.fit.inv h.su⟩) (fun _=>?_);refine df (P:=tV n) (fun _=>⟨iz h.jD.round oM,h.left.round,h.gG.round,cr.round h.jD.fit h.su⟩) (fun _=>?_);refine df (P:=tV n) (fun _=>⟨iz (DP h.jD) oM,h.left.clean,h.gG.clean,cr.clean h.su⟩) (fun _=>?_);refine df (P:=tV n) (fun _=>⟨iz (zC h.jD) oM,h.left.bf,h.gG.bf,cr.bf h.su⟩) (fun _=>?_);refine df (P:=tV n) (fun _=>⟨iz (Jo h.jD _ _) oM,h.left.cA _ _,h.gG.cA _ _,cr.cA h.jD.fit.inv h.jD.fit.short h.su _ _⟩) (fun _=>?_);refine df (P:=tV n) (fun _=>⟨iz (Jo h.jD _ _) oM,h.left.cA _ _,h.gG.cA _ _,cr.cA h.jD.fit.inv h.jD.fit.short h.su _ _⟩) (fun _=>?_);refine df (P:=tV n) (fun _=>⟨iz (Lh _ h.jD) oM,h.left.settle _,h.gG.settle _,cr.settle _ h.jD.fit h.su⟩) (fun _=>?_);refine df (P:=tV n) (fun _=>h.mono oM) (fun _=>?_);refine df (P:=tV n) (fun _=>h.mono oM) (fun _=>?_);refine df (P:=tV n) (fun _=>h.mono oM) (fun _=>?_);refine df (P:=tV n) (fun _=>(h.fk _).mono oM) (fun _=>?_);exact h.mono oM
 exact key
end
section
open Go.RowKit Go.BigFrame
def St.cell(x:St):Nat->Value
 |0=>.string x.word
 |1=>i6 x.a
 |2=>i6 x.b
 |_=>.string x.data
def qs(w:World)(a:Option Addr)(l:List St):Prop :=
 (l=[]\/∃b o,a=some ⟨b,o,none⟩/\∀i (h:i<l.length) j,j<4->w.cell? ⟨b,o+i*4+j,none⟩=some (l[i].cell j))/\l.length<=9223372036854775807
theorem qs.later{w w':World}{a:Option Addr}{l:List St}(h:qs w a l)(hb:bL w w'):qs w' a l:=by
 obtain⟨h1,h3⟩:=h;refine⟨?_,h3⟩
 rcases h1 with h|⟨b,o,ha,hc⟩
 ·exact il h
 ·exact ir ⟨b,o,ha,fun i hi j hj=>aC hb (hc i hi j hj)⟩
theorem qs.form{w:World}{a:Option Addr}{l:List St}(h:qs w a l):l=[]\/∃b o,a=some ⟨b,o,none⟩:=by
 rcases h.1 with h|⟨b,o,ha,_⟩
 ·exact il h
 ·exact ir ⟨b,o,ha⟩
theorem qs.cells{w:World}{b o:Nat}{l:List St}(h:qs w (some ⟨b,o,none⟩) l){i:Nat}(hi:i<l.length) :
 w.cell? ⟨b,o+i*4,none⟩=some (.string l[i].word)/\w.cell? ⟨b,o+i*4+1,none⟩=some (i6 l[i].a)/\w.cell? ⟨b,o+i*4+2,none⟩=some (i6 l[i].b)/\w.cell? ⟨b,o+i*4+3,none⟩=some (.string l[i].data):=by
 rcases h.1 with rfl|⟨b',o',ha,hc⟩
 ·exact absurd hi (acg _)
 ·simp only[ace,acV,adh] at ha;obtain⟨rfl,rfl⟩:=ha;exact⟨hc i hi 0 oM,hc i hi 1 oM,hc i hi 2 oM,hc i hi 3 oM⟩
def tI(x:St):Bool:=decide (x.word.size<=20)&&decide (x.data.size<=20)
def ym(l:List St)(n:Nat):Bool:=decide (l.length<=n)&&l.all tI
theorem J4(l:List St)(a:Option Addr)(c n:Nat)(w:World)(_h3:l.length<=9223372036854775807)(h1:n<l.length) :
 Calls prog 8 #[.slice a l.length c,i6 n] w (rB (.bool false) w):=by
 have rH:(n:Int)<(l.length:Int):=oM;go_enter func8,ntmps8;go_wp2;go_ret;exact⟨rfl,bQ⟩
theorem Ht(l:List St)(a:Option Addr)(c n:Nat)(w:World)(hl:qs w a l)(h1:l.length<=n)(hn:n<=1000) :
 Calls prog 8 #[.slice a l.length c,i6 n] w (rB (.bool (l.all tI)) w):=by
 have rH:¬(n:Int)<(l.length:Int):=oM
 rcases hl.form with rfl|⟨b,o,rfl⟩
 ·go_enter func8,ntmps8;go_wp2
  go_loop [5] (fun i=>i=i6 0) (fun _=>0)
  case atStart=>rfl
  case round =>
   subst hrel;go_wp2;go_ret;exact⟨rfl,bQ⟩
 have HL:Hid (qs w (some ⟨b,o,none⟩) l):=hl;have hlen:=hl.2;clear hl;go_enter func8,ntmps8;go_wp2
 go_loopw[5] (fun i wr=>∃k:Nat,k<=l.length/\i=i6 k/\((l.take k).all tI)=true/\bL w wr) (fun i _=>l.length-(intOf i).toNat)
 case atStart=>exact⟨0,oM,rfl,rfl,aQ _ _⟩
 case round =>
  obtain⟨k,hk,rfl,dS,HB⟩:=hrel;have HN:Hid (((l.take k).all tI)=true):=dS;clear dS
  by_cases aq:k<l.length
  ·obtain⟨c0,c1,c2,c3⟩:=(HL.out.later HB).cells aq;have fM:(k:Int)<(l.length:Int):=oM;have HE:Hid (tI l[k]=(decide (l[k].word.size<=20)&&decide (l[k].data.size<=20))):=(show _=_ from rfl)
   generalize hwd:l[k].word=wd at *;generalize pH:l[k].data=dt at *;clear hwd pH
   by_cases g1:wd.size<=20
   ·have g1':¬(20:Int)<(wd.size:Int):=oM
    by_cases g2:dt.size<=20
    ·have g2':¬(20:Int)<(dt.size:Int):=oM;have hb:Hid (tI l[k]=true):=HE.out.trans (by rw[acf g1,acf g2];rfl);clear HE;go_wp2;go_roundw
     case rel=>exact⟨k+1,oM,gN,IY aq HN.out hb.out,HB⟩
     case measure=>simp[intOf];omega
    ·have g2':(20:Int)<(dt.size:Int):=oM;have hb:Hid (tI l[k]=false):=HE.out.trans (by rw[acf g1,aci g2];rfl);clear HE;go_wp2;go_ret;exact⟨dN (CN aq hb.out).symm,HB⟩
   ·have g1':(20:Int)<(wd.size:Int):=oM;have hb:Hid (tI l[k]=false):=HE.out.trans (by rw[aci g1];rfl);clear HE;go_wp2;go_ret;exact⟨dN (CN aq hb.out).symm,HB⟩
  ·go_wp2;go_ret;exact⟨dN (MV oM HN.out).symm,HB⟩
theorem Cx(l:List St)(a:Option Addr)(c n:Nat)(w:World)(hl:qs w a l)(hn:n<=1000)(b:Bool)(hb:ym l n=b) :
 Calls prog 8 #[.slice a l.length c,i6 n] w (rB (.bool b) w):=by
 subst hb;unfold ym
 by_cases h:l.length<=n
 ·rw[acf h,adJ];exact Ht l a c n w hl h hn
 ·rw[aci h,aeX];exact J4 l a c n w hl.2 oM
end
section
open Go.RowKit Go.BigFrame Go.Maps
section
variable{W:World}{g1 g2 n1 n2:Nat}{q1 q2:Sk}{w w':World}
end
def Ab(W:World)(g n:Nat)(q:Sk)(w:World):Prop:=∃s p A,kF g s p A w/\p.nf=q/\mF n q/\bL W w/\(∀j,ko g s A j->W.heap.size<=j)
section
variable{W:World}{g n:Nat}{q:Sk}{w w':World}
theorem Ab.bel(h:Ab W g n q w):bL W w:=by
 obtain⟨s,p,A,_,_,_,hb,_⟩:=h;exact hb
theorem DE.abW{s:Nat}{p:Sk}{A:Sa}{X:Nat->Prop}(h:DE g s p A X w w')(hb:bL W w):Ab W g 0 lL w':=⟨s,p,A,h.at',h.nf,SV,ab hb h.bel,fun j hj=>acv hb.size (h.au j hj)⟩
theorem GP(h:Ab W g n q w)(hn:n<=3880000)(hT:TabW W)(x:St)(hx:jC x) :
 Calls prog 12 #[.pointer (some ⟨g,0,none⟩),x.val] w fun e w'=>e=.returned (.string ⟨(nM q x).1.toArray⟩)/\Ab W g (n+10989) (nM q x).2 w':=by
 obtain⟨s,p,A,h1,rfl,h3,h4,h5⟩:=h;refine(Kh W g s p A w h1 n h3 hn hT h4 (fun j hj=>h5 j (il hj)) (h5 g (ir rfl)) x hx).mono ?_;rintro e w' ⟨he,s',p',A',hs⟩;refine⟨he,s',p',A',hs.at',hs.nf,h3.abY x,h4.trans (hs.only.below h4.size h5),?_⟩;rintro j (hj|hj)
 ·rcases hs.au j hj with e|e
  ·exact h5 j (il e)
  ·exact acv h4.size e
 ·exact h5 j (ir hj)
end
def rF:St:=⟨⟨#[100,105,114,116,121]⟩,0,0,⟨#[]⟩⟩
theorem QC:jC rF:=⟨by unfold cY rF;decide,by unfold cY rF;decide,by unfold rF;decide,by unfold rF;decide⟩
theorem XT(g s:Nat)(w:World)(h:w.cell? ⟨g,1,none⟩=some (.pointer (some ⟨s,0,none⟩))):Calls prog 15 #[.pointer (some ⟨g,0,none⟩)] w fun e w'=>e=.returned (.pointer (some ⟨s,0,none⟩))/\w'=w:=by
 have lg:=al h;go_enter func15,ntmps15;go_wp2;go_ret;exact⟨rfl,rfl⟩
theorem XP(g b:Nat)(w:World)(h:w.cell? ⟨g,0,none⟩=some (.pointer (some ⟨b,0,none⟩))):Calls prog 16 #[.pointer (some ⟨g,0,none⟩)] w fun e w'=>e=.returned (.pointer (some ⟨b,0,none⟩))/\w'=w:=by
 have lg:=al h;go_enter func16,ntmps16;go_wp2;go_ret;exact⟨rfl,rfl⟩
structure sW(W:World)(g e n c:Nat)(q1 q2:Sk)(s k:Nat)(p p2:Sk)(A:Sa)(B:Rs)(w:World):Prop where
 du:sj W g s e k p p2 A B w
 n1:p.nf=q1
 n2:p2.nf=q2
 f1:pq n q1
 f2:pq n q2
 bX:B.bX<=c
def uH(W:World)(g e n c:Nat)(q1 q2:Sk)(w:World):Prop:=∃s k p p2 A B,sW W g e n c q1 q2 s k p p2 A B w
section
variable{W:World}{g e n m c d:Nat}{q q1 q2:Sk}{w w':World}
theorem uH.bel(h:uH W g e n c q1 q2 w):bL W w:=by
 obtain⟨s,k,p,p2,A,B,h⟩:=h;exact h.du.bel
theorem uH.later(h:uH W g e n c q1 q2 w)(hb:bL w w'):uH W g e n c q1 q2 w':=by
 obtain⟨s,k,p,p2,A,B,h⟩:=h;exact⟨s,k,p,p2,A,B,h.du.later hb,h.n1,h.n2,h.f1,h.f2,h.bX⟩
theorem uH.mono(h:uH W g e n c q1 q2 w)(hn:n<=m)(hc:c<=d):uH W g e m d q1 q2 w:=by
 obtain⟨s,k,p,p2,A,B,h⟩:=h;exact⟨s,k,p,p2,A,B,h.du,h.n1,h.n2,h.f1.mono hn,h.f2.mono hn,acv h.bX hc⟩
theorem XS(q:Sk)(x:St)(h0:bY x=0):nM q x=iD q x:=aca h0
end
theorem Xn{w w1 w2:World}{g s e k:Nat}{p p2:Sk}{A:Sa}{B:Rs}{X:Nat->Prop}(h1:DE g s p A X w w1)(h2:IV e k p2 B (ko g s A) w1 w2):uH w g e 0 0 lL lL w2 :=
 ⟨s,k,p,p2,_,B,Ub h1 h2,h1.nf,h2.nf,Ha,Ha,afc h2.bX⟩
section
variable{W:World}{g e n c s k:Nat}{q:Sk}{p p2:Sk}{A:Sa}{B:Rs}{w:World}
theorem sW.now(h:sW W g e n c q q s k p p2 A B w)(i:Nat)(hi:i<32):∃x:ByteArray,p.dev.now.getD i bE=x/\w.cell? ⟨B.b,32+i,none⟩=some (.string x):=by
 refine⟨_,rfl,?_⟩;have h1:p.nf.dev.now=p2.nf.dev.now:=by rw[h.n1,h.n2]
 have e1:p.dev.now=B.m.now:=(show p.dev.now=p2.dev.now from h1).trans h.du.two.st.mem.tied.now;rw[e1];exact h.du.two.st.mem.cz.dev.Ae i hi
theorem sW.abX(h:sW W g e n c q q s k p p2 A B w)(i:Nat)(hi:i<32)(x:ByteArray)(hx:p.dev.now.getD i bE=x):Calls prog 17 #[.pointer (some ⟨A.b,0,none⟩),i6 i] w fun e' w'=>e'=.returned (.string x)/\bL w w':=XQ A.b p.dev A.an i w h.du.one.st.mem.cz.dev hi x hx
theorem sW.as(h:sW W g e n c q q s k p p2 A B w):Calls prog 14 #[.pointer (some ⟨s,0,none⟩),.pointer (some ⟨k,0,none⟩)] w fun e' w'=>e'=.returned (.bool true)/\bL w w':=La s k q p p2 _ _ w h.du.both h.n1 h.n2 h.f1.jD.fit.inv h.f1.gG
theorem sW.later{w':World}(h:sW W g e n c q q s k p p2 A B w)(hb:bL w w'):sW W g e n c q q s k p p2 A B w':=⟨h.du.later hb,h.n1,h.n2,h.f1,h.f2,h.bX⟩
theorem sW.QE(h:sW W g e n c q q s k p p2 A B w):uH W g e n c q q w:=⟨s,k,p,p2,A,B,h⟩
end
structure Iz(q:Nat)(x:St)(w:World):Prop where
 box:lU q x w
 f0:w.frozen? ⟨q,0,none⟩=false
 f1:w.frozen? ⟨q,1,none⟩=false
 f2:w.frozen? ⟨q,2,none⟩=false
 f3:w.frozen? ⟨q,3,none⟩=false
theorem Iz.later{q:Nat}{x:St}{w w':World}(h:Iz q x w)(hb:bL w w'):Iz q x w' :=
 ⟨h.box.later hb,(hb.frozen (p:=⟨q,0,none⟩) h.box.2.2.2.2).trans h.f0,(hb.frozen (p:=⟨q,1,none⟩) h.box.2.2.2.2).trans h.f1,(hb.frozen (p:=⟨q,2,none⟩) h.box.2.2.2.2).trans h.f2,(hb.frozen (p:=⟨q,3,none⟩) h.box.2.2.2.2).trans h.f3⟩
theorem I6(w:World)(x:St)(T:TypeId):Iz w.heap.size x (w.alloc (.cells #[.string x.word,i6 x.a,i6 x.b,.string x.data] T)):=⟨⟨sM,sM,sM,sM,sM⟩,sM,sM,sM,sM⟩
def tW(W:World)(g e n c b:Nat)(q1 q2:Sk)(w:World):Prop:=∃s k p p2 A B,sW W g e n c q1 q2 s k p p2 A B w/\¬ko g s A b/\¬jS e k B b/\b<w.heap.size
section
variable{W:World}{g e n m c d b:Nat}{q q1 q2:Sk}{w w':World}{x:St}
theorem tW.QE(h:tW W g e n c b q1 q2 w):uH W g e n c q1 q2 w:=by
 obtain⟨s,k,p,p2,A,B,h,_⟩:=h;exact⟨s,k,p,p2,A,B,h⟩
theorem tW.bel(h:tW W g e n c b q1 q2 w):bL W w:=h.QE.bel
theorem tW.later(h:tW W g e n c b q1 q2 w)(hb:bL w w'):tW W g e n c b q1 q2 w':=by
 obtain⟨s,k,p,p2,A,B,h,h1,h2,h3⟩:=h;exact⟨s,k,p,p2,A,B,⟨h.du.later hb,h.n1,h.n2,h.f1,h.f2,h.bX⟩,h1,h2,acD h3 hb.size⟩
theorem uH.box(h:uH W g e n c q1 q2 w)(hb:bL w w')(h1:w.heap.size<=b)(h2:b<w'.heap.size):tW W g e n c b q1 q2 w':=by
 obtain⟨s,k,p,p2,A,B,h⟩:=h;exact⟨s,k,p,p2,A,B,⟨h.du.later hb,h.n1,h.n2,h.f1,h.f2,h.bX⟩,fun e'=>by have:=h.du.one.zJ _ e';omega,fun e'=>by have:=h.du.two.zJ _ e';omega,h2⟩
theorem I7{F:Nat->Prop}(hx:lU b x w)(hO:aG F w w')(hn:¬F b):lU b x w':=by
 obtain⟨h0,h1,h2,h3,hl⟩:=hx;exact⟨(hO.cell (p:=⟨b,0,none⟩) hl hn).trans h0,(hO.cell (p:=⟨b,1,none⟩) hl hn).trans h1,(hO.cell (p:=⟨b,2,none⟩) hl hn).trans h2,(hO.cell (p:=⟨b,3,none⟩) hl hn).trans h3,acD hl hO.size⟩
theorem Uc(h:tW W g e n c b q1 q2 w)(hx:lU b x w)(hn:n<=3800000)(hT:TabW W)(y:St)(hy:jC y)(h0:bY y=0) :
 Calls prog 12 #[.pointer (some ⟨g,0,none⟩),y.val] w fun e' w'=>e'=.returned (.string ⟨(iD q1 y).1.toArray⟩)/\tW W g e (n+10989) c b (iD q1 y).2 q2 w'/\lU b x w':=by
 obtain⟨s,k,p,p2,A,B,h,b1,b2,b3⟩:=h;obtain⟨hd,rfl,h2,f1,f2,hc⟩:=h;have:=Kh W g s p A w hd.one n ⟨f1.jD.fit,f1.su⟩ oM hT hd.bel (fun j hj=>hd.f1 j (il hj)) (hd.f1 g (ir rfl)) y hy;rw[XS _ _ h0] at this;refine this.mono ?_;rintro e' w' ⟨he,s',p',A',hs⟩;have ye:¬ko g s' A' b:=fun e2=>by
  rcases e2 with e2|e2
  ·rcases hs.au b e2 with e3|e3
   ·exact b1 (il e3)
   ·omega
  ·exact b1 (ir e2)
 exact⟨he,⟨s',k,p',p2,A',_,⟨hd.code hs,hs.nf,h2,f1.step y (TB y h0),f2.mono oM,hc⟩,ye,b2,acD b3 hs.only.size⟩,I7 hx hs.only b1⟩
theorem Xo(h:tW W g e n c b q1 q2 w)(hx:lU b x w)(hn:n<=3800000)(hc:c<=229000)(y:St)(h0:bY y=0) :
 Calls prog 13 #[.pointer (some ⟨e,0,none⟩),y.val] w fun e' w'=>e'=.returned (.string ⟨(iD q2 y).1.toArray⟩)/\tW W g e (n+10989) (c+999) b q1 (iD q2 y).2 w'/\lU b x w':=by
 obtain⟨s,k,p,p2,A,B,h,b1,b2,b3⟩:=h;obtain⟨hd,h1,rfl,f1,f2,Gy⟩:=h;refine(SE e k p2 B w hd.two n f2.jD f2.left f2.gG f2.su oM oM y h0).mono ?_;rintro e' w' ⟨he,k',p',B',hs⟩;have ye:¬jS e k' B' b:=fun e2=>by
  rcases e2 with e2|e2
  ·rcases hs.au b e2 with e3|e3
   ·exact b2 (il e3)
   ·omega
  ·exact b2 (ir e2)
 exact⟨he,⟨s,k',p,p',_,B',⟨hd.ref hs,h1,hs.nf,f1.mono oM,f2.step y (TB y h0),acv hs.bX oM⟩,b1,ye,acD b3 hs.only.size⟩,I7 hx hs.only b2⟩
end
def qp:St:=⟨⟨#[119,114,105,116,101]⟩,0,3,⟨#[120]⟩⟩
theorem Tk:jC qp:=⟨by unfold cY qp;decide,by unfold cY qp;decide,by unfold qp;decide,by unfold qp;decide⟩
theorem VN:(nM lL qp).1=[111,107]:=by
 unfold nM;rw[aca (show bY qp=0 from dK)];unfold iD;rw[ab6 dK,aca dK]
 decide +kernel
theorem VO:(nM (nM lL qp).2 rF).1=[49]:=by
 unfold nM;rw[aca (show bY rF=0 from dK)];unfold iD
 iterate 13 rw[ab6 dK]
 rw[aca dK]
 decide +kernel
theorem Sf(w:World)(hLW:TabW w):Calls prog 7 #[] w (rB (.bool true) w):=by
 have iy:=aa hLW;clear hLW;go_enter func7,ntmps7;go_wp2_with fail;refine(Ki _ (fun _=>False) (fun _ h=>h.elim)).mono ?_;rintro e w0 ⟨g,s,p,A,rfl,hp⟩;have HP:=aa (hp.abW (W:=w) (aQ _ _));clear hp;obtain⟨q,hq⟩:∃q,(nM lL qp).2=q:=⟨_,rfl⟩
 have dF:Hid (∀w',Ab w g 0 lL w'->Calls prog 12 #[.pointer (some ⟨g,0,none⟩),.agg #[.string ⟨#[119,114,105,116,101]⟩,i6 0,i6 3,.string ⟨#[120]⟩]] w' fun e w2=>e=.returned (.string ⟨#[111,107]⟩)/\Ab w g 10989 q w2):=fun w' h=>by
  have:=GP h oM iy.out qp Tk;rw[VN,hq] at this;exact this
 have HP2:Hid (∀w',Ab w g 10989 q w'->Calls prog 12 #[.pointer (some ⟨g,0,none⟩),.agg #[.string ⟨#[100,105,114,116,121]⟩,i6 0,i6 0,.string ⟨#[]⟩]] w' fun e w2=>e=.returned (.string ⟨#[49]⟩)/\bL w w2):=fun w' h=>by
  have:=GP h oM iy.out rF QC;rw[show(nM q rF).1=[49] by rw[<-hq];exact VO] at this;exact this.mono fun e w2 hh=>⟨hh.1,hh.2.bel⟩
 clear hq;go_wp2_with fail;refine cM (dF.out _ HP.out) ?_;intro w1 Nj;have MJ:=aa Nj;clear Nj dF HP;go_wp2_with fail;refine cM (HP2.out _ MJ.out) ?_;intro w2 aA;have cw:=aa aA;clear aA HP2 MJ;go_wp2;go_ret;exact⟨rfl,cw.out⟩
theorem jV{s x:ByteArray}(h:¬s=x):(s.toList==x.data.toList)=false:=by
 rw[ab8,ad0];intro e;apply h
 cases s
 cases x
 congr 1
 exact adM.1 e
def lD(n:Int)(b:Bool):ByteArray:=if n=0 then⟨#[]⟩ else if n=1 then⟨#[97]⟩ else if b=true then⟨#[97,98,100]⟩ else⟨#[97,98]⟩
theorem Oa(s:ByteArray)(w:World):Calls prog 33 #[.string s] w (rB (.tuple #[.string (lD (di s).1 (di s).2),.bool (fJ s).isSome]) w):=by
 have dS:(¬s=pc/\¬s=nc/\¬s=pe/\¬s=r9/\¬s=r8/\¬s=mY/\¬s=lC/\¬s=mW/\¬s=pf/\¬s=mV/\¬s=jw/\¬s=na/\¬s=mZ/\¬s=pa/\¬s=mX)->fJ s=none:=by
  rintro⟨h1,h2,h3,h4,h5,h6,h7,h8,h9,mC,h11,h12,h13,h14,h15⟩;unfold fJ;simp only[h1,h2,h3,h4,h5,h6,h7,h8,h9,mC,h11,h12,h13,h14,h15,adU]
 by_cases k1:s=pc
 ·subst k1;have e1:(Value.tuple #[.string (lD (di pc).1 (di pc).2),.bool (fJ pc).isSome])=.tuple #[.string ⟨#[97,98]⟩,.bool true]:=kR;rw[e1];clear e1 dS;unfold pc;(go_enter func33,ntmps33);go_wp2;go_ret2;exact⟨rfl,aQ _ _⟩
 by_cases k2:s=nc
 ·subst k2;have e1:(Value.tuple #[.string (lD (di nc).1 (di nc).2),.bool (fJ nc).isSome])=.tuple #[.string ⟨#[97,98,100]⟩,.bool true]:=kR;rw[e1];clear e1 dS;unfold nc;(go_enter func33,ntmps33);go_wp2;go_ret2;exact⟨rfl,aQ _ _⟩
 by_cases k3:s=pe
 ·subst k3;have e1:(Value.tuple #[.string (lD (di pe).1 (di pe).2),.bool (fJ pe).isSome])=.tuple #[.string ⟨#[97]⟩,.bool true]:=kR;rw[e1];clear e1 dS;unfold pe;(go_enter func33,ntmps33);go_wp2;go_ret2;exact⟨rfl,aQ _ _⟩
 by_cases k4:s=r9
 ·subst k4;have e1:(Value.tuple #[.string (lD (di r9).1 (di r9).2),.bool (fJ r9).isSome])=.tuple #[.string ⟨#[97]⟩,.bool true]:=kR;rw[e1];clear e1 dS;unfold r9;(go_enter func33,ntmps33);go_wp2;go_ret2;exact⟨rfl,aQ _ _⟩
 by_cases k5:s=r8
 ·subst k5;have e1:(Value.tuple #[.string (lD (di r8).1 (di r8).2),.bool (fJ r8).isSome])=.tuple #[.string ⟨#[97]⟩,.bool true]:=kR;rw[e1];clear e1 dS;unfold r8;(go_enter func33,ntmps33);go_wp2;go_ret2;exact⟨rfl,aQ _ _⟩
 by_cases k6:s=mY
 ·subst k6;have e1:(Value.tuple #[.string (lD (di mY).1 (di mY).2),.bool (fJ mY).isSome])=.tuple #[.string ⟨#[97]⟩,.bool true]:=kR;rw[e1];clear e1 dS;unfold mY;(go_enter func33,ntmps33);go_wp2;go_ret2;exact⟨rfl,aQ _ _⟩
 by_cases k7:s=lC
 ·subst k7;have e1:(Value.tuple #[.string (lD (di lC).1 (di lC).2),.bool (fJ lC).isSome])=.tuple #[.string ⟨#[97]⟩,.bool true]:=kR;rw[e1];clear e1 dS;unfold lC;(go_enter func33,ntmps33);go_wp2;go_ret2;exact⟨rfl,aQ _ _⟩
 by_cases k8:s=mW
 ·subst k8;have e1:(Value.tuple #[.string (lD (di mW).1 (di mW).2),.bool (fJ mW).isSome])=.tuple #[.string ⟨#[97]⟩,.bool true]:=kR;rw[e1];clear e1 dS;unfold mW;(go_enter func33,ntmps33);go_wp2;go_ret2;exact⟨rfl,aQ _ _⟩
 by_cases k9:s=pf
 ·subst k9;have e1:(Value.tuple #[.string (lD (di pf).1 (di pf).2),.bool (fJ pf).isSome])=.tuple #[.string ⟨#[]⟩,.bool true]:=kR;rw[e1];clear e1 dS;unfold pf;(go_enter func33,ntmps33);go_wp2;go_ret2;exact⟨rfl,aQ _ _⟩
 by_cases WG:s=mV
 ·subst WG;have e1:(Value.tuple #[.string (lD (di mV).1 (di mV).2),.bool (fJ mV).isSome])=.tuple #[.string ⟨#[]⟩,.bool true]:=kR;rw[e1];clear e1 dS;unfold mV;(go_enter func33,ntmps33);go_wp2;go_ret2;exact⟨rfl,aQ _ _⟩
 by_cases WH:s=jw
 ·subst WH;have e1:(Value.tuple #[.string (lD (di jw).1 (di jw).2),.bool (fJ jw).isSome])=.tuple #[.string ⟨#[]⟩,.bool true]:=kR;rw[e1];clear e1 dS;unfold jw;(go_enter func33,ntmps33);go_wp2;go_ret2;exact⟨rfl,aQ _ _⟩
 by_cases WI:s=na
 ·subst WI;have e1:(Value.tuple #[.string (lD (di na).1 (di na).2),.bool (fJ na).isSome])=.tuple #[.string ⟨#[]⟩,.bool true]:=kR;rw[e1];clear e1 dS;unfold na;(go_enter func33,ntmps33);go_wp2;go_ret2;exact⟨rfl,aQ _ _⟩
 by_cases WJ:s=mZ
 ·subst WJ;have e1:(Value.tuple #[.string (lD (di mZ).1 (di mZ).2),.bool (fJ mZ).isSome])=.tuple #[.string ⟨#[]⟩,.bool true]:=kR;rw[e1];clear e1 dS;unfold mZ;(go_enter func33,ntmps33);go_wp2;go_ret2;exact⟨rfl,aQ _ _⟩
 by_cases WK:s=pa
 ·subst WK;have e1:(Value.tuple #[.string (lD (di pa).1 (di pa).2),.bool (fJ pa).isSome])=.tuple #[.string ⟨#[]⟩,.bool true]:=kR;rw[e1];clear e1 dS;unfold pa;(go_enter func33,ntmps33);go_wp2;go_ret2;exact⟨rfl,aQ _ _⟩
 by_cases WL:s=mX
 ·subst WL;have e1:(Value.tuple #[.string (lD (di mX).1 (di mX).2),.bool (fJ mX).isSome])=.tuple #[.string ⟨#[]⟩,.bool true]:=kR;rw[e1];clear e1 dS;unfold mX;(go_enter func33,ntmps33);go_wp2;go_ret2;exact⟨rfl,aQ _ _⟩
 have hn:=dS ⟨k1,k2,k3,k4,k5,k6,k7,k8,k9,WG,WH,WI,WJ,WK,WL⟩;have q1:=jV k1;have q2:=jV k2;have q3:=jV k3;have q4:=jV k4;have q5:=jV k5;have q6:=jV k6;have q7:=jV k7;have q8:=jV k8;have q9:=jV k9;have q10:=jV WG;have q11:=jV WH;have q12:=jV WI;have q13:=jV WJ;have q14:=jV WK;have q15:=jV WL;simp only[pc,nc,pe,r9,r8,mY,lC,mW,pf,mV,jw,na,mZ,pa,mX] at q1 q2 q3 q4 q5 q6 q7 q8 q9 q10 q11 q12 q13 q14 q15;rw[show di s=(0,false) by unfold di;rw[hn];rfl,hn];clear dS hn k1 k2 k3 k4 k5 k6 k7 k8 k9 WG WH WI WJ WK WL;go_enter func33,ntmps33;go_wp2
 go_ret2
 exact⟨rfl,aQ _ _⟩
structure aaV(a b:World):Prop where
 same:a=b
theorem wb1(z:UInt8):kA z=(decide ((z.toNat:Int)=32)||decide ((z.toNat:Int)=10)):=by
 unfold kA;have e1:(z==32)=decide ((z.toNat:Int)=32):=by
  rw[ado,adt,aco,<-UInt8.toNat_inj];simp;omega
 have e2:(z==10)=decide ((z.toNat:Int)=10):=by
  rw[ado,adt,aco,<-UInt8.toNat_inj];simp;omega
 rw[e1,e2]
theorem aaP(n:Int):n=0\/((n != 0)=true/\(n==0)=false):=by
 by_cases h:n=0
 ·exact il h
 ·exact ir ⟨adP.2 h,ab8.2 h⟩
theorem abA(s:ByteArray):s=⟨#[]⟩\/(s.toList.isEmpty=false/\s.data.toList.isEmpty=false):=by
 obtain⟨l,rfl⟩:=NT s
 cases l with
 |nil=>exact il rfl
 |cons c l=>exact ir ⟨by rw[ad0];rfl,rfl⟩
theorem Px(x:St)(w:World)(hx:jC x):Calls prog 11 #[x.val] w (rB (i6 (bY x)) w):=by
 obtain⟨n,b,Eb,Ro⟩:=zI x.word;obtain⟨c,JL⟩:∃c,(fJ x.word).isSome=c:=⟨_,rfl⟩
 obtain⟨t,l9⟩:∃t,ss n b x=t:=⟨_,rfl⟩
 obtain⟨er,pI⟩:∃er,bY x=er:=⟨_,rfl⟩
 have rk:Hid ((if c=false then 3 else if t=false then 3 else if(fF x.a||fF x.b)=true then 1 else if 9<x.data.size then 1 else if kY x.data=true then 3 else if x.data=rC then 3 else(0:Int))=er):=by
  rw[<-pI];show _=bY x;unfold bY;rw[JL,Eb,l9]
 rw[pI];have Yu:=fun W=>Oa x.word W
 rw[Eb,JL] at Yu;have sY:=aa l9;have HX:=aa hx;clear pI l9 Eb JL hx;obtain⟨wd,xa,xb,dt⟩:=x;go_enter func11,ntmps11;go_wp2_with fail;refine cM (Yu _) ?_;intro w1 aw;have kx:=aa (lU.later (w:=w.alloc (.cells #[.string wd,i6 xa,i6 xb,.string dt] 31)) (x:=⟨wd,xa,xb,dt⟩) (q:=w.heap.size) ⟨sM,sM,sM,sM,sM⟩ aw);have HB:=aa (ab (aB _ _) aw);clear aw Yu;obtain⟨F,hF⟩:∃F,lD n b=F:=⟨_,rfl⟩
 rw[hF];obtain⟨b0,b1,b2,b3,lb⟩:=id kx.out;simp only at b0 b1 b2 b3;go_upto_region 2 with fail
 go_cut[42] (fun s42 wx=>s42=.bool (!(c&&t))/\wx=w1)
 case first =>
  clear rk b0 b3;have H:=sY.out;clear sY;unfold ss at H;simp only at H;have b3:=(kx.out).2.2.2.1;simp only at b3;clear kx HX;have ha:=aaP xa;have hb:=aaP xb;have hd:=abA dt;rw[ad0] at H
  rcases Ro with⟨rfl,rfl⟩|⟨rfl,rfl⟩|⟨rfl,rfl⟩|⟨rfl,rfl⟩
  all_goals
   subst hF
   rcases ha with rfl|⟨ha,ha2⟩<;>rcases hb with rfl|⟨hb,aA⟩<;>rcases hd with rfl|⟨hd,vT⟩<;>cases c
  all_goals
   (try rw[ha2] at H)
   (try rw[aA] at H)
   (try rw[vT] at H)
   (try clear ha2)
   (try clear aA)
   (try clear vT)
   have HH:=aa H;clear H;simp only[lD];go_wp2
   go_meet
   case rel=>exact⟨by rw[<-HH.out];rfl,rfl⟩
 case rest =>
  obtain⟨rfl,rfl⟩:=hcut;clear Ro hF sY
  cases c
  ·have he:er=3:=rk.out.symm;rw[show(!(false&&t))=true from rfl];clear rk;go_wp2;go_ret;exact⟨by rw[he];rfl,HB.out⟩
  cases t
  ·have he:er=3:=rk.out.symm;rw[show(!(true&&false))=true from rfl];clear rk;go_wp2;go_ret;exact⟨by rw[he];rfl,HB.out⟩
  rw[show(!(true&&true))=false from rfl];obtain⟨v,hv⟩:∃v,(fF xa||fF xb||decide (9<dt.size))=v:=⟨_,rfl⟩
  have HV:=aa hv;clear hv;go_upto_region 4 with fail
  go_cut[66] (fun s66 wx=>s66=.bool v/\wx=wc)
  case first =>
   clear rk kx HX;have hA:xa<0\/(¬xa<0/\999<xa)\/(¬xa<0/\¬999<xa):=oM;have hB:xb<0\/(¬xb<0/\999<xb)\/(¬xb<0/\¬999<xb):=oM;have h9:(9:Int)<(dt.size:Int)\/¬(9:Int)<(dt.size:Int):=oM
   rcases hA with hA|⟨hA,Cj⟩|⟨hA,Cj⟩<;>rcases hB with hB|⟨hB,cX⟩|⟨hB,cX⟩<;>rcases h9 with h9|h9
   all_goals
    go_wp2
    go_meet
    case rel=>exact⟨adI Value.bool (by rw[<-HV.out,ado];simp[fF];omega),rfl⟩
  case rest =>
   obtain⟨rfl,rfl⟩:=hcut
   cases v
   ·have ke:=adF.1 HV.out;have pO:Hid ((if kY dt=true then 3 else if dt=rC then 3 else(0:Int))=er):=by
     have h9:=ke.2;have:=rk.out;rw[ab6 dM,ab6 dM,ab6 (by rw[ke.1];decide),ab6 (by simpa using h9)] at this;exact this
    clear rk HV ke;go_wp2
    go_loopw[5] (fun i wr=>∃j:Nat,j<=dt.size/\i=i6 j/\Fb dt j/\aaV wr wc) (fun i _=>dt.size-(intOf i).toNat)
    case atStart=>exact⟨0,oM,rfl,fun j hj=>absurd hj (acg _),⟨rfl⟩⟩
    case round =>
     obtain⟨j,hj,rfl,dS,hw⟩:=hrel;have qh:=hw.same;clear hw;subst qh;have HN:=aa dS;clear dS
     by_cases aq:j<dt.size
     ·have fM:(j:Int)<(dt.size:Int):=oM;have vZ:(0:Int)<=(j:Int):=oM;obtain⟨z,hz⟩:∃z:Nat,(dt[j]'aq).toNat=z:=⟨_,rfl⟩
      have HZ:=aa hz;have HW:Hid (kA (dt[j]'aq)=(decide ((z:Int)=32)||decide ((z:Int)=10))):=by show _=_;rw[<-hz];exact wb1 _
      by_cases h1:(z:Int)=32
      ·have he:er=3:=by
        have:=pO.out;rw[aca (I8 aq (by rw[HW.out,acf h1];rfl))] at this;exact this.symm
       have rH:z=32:=oM;subst rH;clear pO HW HN;go_wp2;go_ret;exact⟨by rw[he];rfl,HB.out⟩
      ·by_cases h2:(z:Int)=10
       ·have he:er=3:=by
         have:=pO.out;rw[aca (I8 aq (by rw[HW.out,acf h2,Bool.or_true]))] at this;exact this.symm
        have pE:z=10:=oM;subst pE;clear pO HW HN;go_wp2;go_ret;exact⟨by rw[he];rfl,HB.out⟩
       ·have ky:Hid (Fb dt (j+1)):=by
         intro i hi h
         rcases Nat.lt_or_eq_of_le (Nat.le_of_lt_succ hi) with pK|rfl
         ·exact HN.out i pK h
         ·rw[HW.out,aci h1,aci h2];rfl
        have rH:¬z=32:=oM;have pE:¬z=10:=oM;have q1:((z:Int)==32)=false:=ab8.2 h1;have q2:((z:Int)==10)=false:=ab8.2 h2;have kQ:=HX.out.data;simp only at kQ;clear pO HW HN;go_wp2;go_roundw
        case rel=>exact⟨j+1,oM,gN,ky.out,⟨rfl⟩⟩
        case measure=>simp[intOf];omega
     ·have JJ:j=dt.size:=oM;have oQ:kY dt=false:=Kc (JJ▸HN.out)
      by_cases hd:dt=rC
      ·have he:er=3:=by rw[<-pO.out,oQ,ab6 acn,aca hd]
       have hq:(dt.toList==[45])=true:=by rw[hd,ad0];rfl
       clear pO hd HN oQ;go_wp2;go_ret;exact⟨by rw[he];rfl,HB.out⟩
      ·have he:er=0:=by rw[<-pO.out,oQ,ab6 acn,ab6 hd]
       have hq:(dt.toList==[45])=false:=M0 hd;clear pO hd HN oQ;go_wp2;go_ret;exact⟨by rw[he];rfl,HB.out⟩
   ·have he:er=1:=by
     have hv:=HV.out;rw[aeh] at hv;have:=rk.out;rw[ab6 dM,ab6 dM] at this
     rcases hv with hv|hv
     ·rw[aca hv] at this;exact this.symm
     ·rw[aca (ae6 hv)] at this;rw[<-this];split<;>rfl
    clear rk HV;go_wp2;go_ret;exact⟨by rw[he];rfl,HB.out⟩
theorem J3{l:List St}{n:Nat}(h:ym l n=true):l.length<=n:=by
 unfold ym at h;simp only[ac2,aco] at h;exact h.1
theorem playerSays_walk(l:List St)(la:Option Addr)(lc:Nat)(w:World)(hl:qs w la l/\∀x∈l,jC x)(hLW:TabW w) :
 Calls prog 3 #[.slice la l.length lc] w (rB (.bool true) w):=by
 have HL:=aa hl.1;have lG:=aa hl.2;have iy:=aa hLW;clear hl hLW;go_enter func3,ntmps3;go_wp2_with fail;refine cM (Sf _ iy.out) ?_;intro w1 aw;have aU:=aa aw;clear aw;go_wp2_with fail
 cases hb:ym l 100
 ·refine cM (Cx l la lc 100 _ (HL.out.later aU.out) oM false hb) ?_;intro w2 aA;go_wp2;go_ret;exact⟨rfl,ab aU.out aA⟩
 refine cM (Cx l la lc 100 _ (HL.out.later aU.out) oM true hb) ?_;intro w2 aA;have h100:=J3 hb;have cw:=aa (ab aU.out aA);clear aA hb aU;go_wp2_with fail;refine(Ki _ (fun _=>False) (fun _ h=>h.elim)).mono ?_;rintro e w3 ⟨g,s1,p1,A1,rfl,Nj⟩;have dF:=aa Nj;clear Nj;go_wp2_with fail;refine(SH _ (ko g s1 A1) dF.out.at'.zJ).mono ?_;rintro e w4 ⟨m,k1,p2,B1,rfl,hp2⟩;have HDU:=aa (Xn dF.out hp2);clear hp2 dF;go_wp2
 go_loopw[6] (fun i wr=>∃(j:Nat) (q:Sk),j<=l.length/\i=i6 j/\uH w2 g m (21978*j) (999*j) q q wr) (fun i _=>l.length-(intOf i).toNat)
 case atStart=>exact⟨0,lL,oM,rfl,HDU.out⟩
 case round =>
  clear HDU;obtain⟨j,q,hj,rfl,hp⟩:=hrel;have HP:=aa hp;have nj:=ab cw.out hp.bel;have cO:=aa (iy.out.later cw.out);clear hp
  by_cases aq:j<l.length
  ·have fM:(j:Int)<(l.length:Int):=oM;have vZ:(0:Int)<=(j:Int):=oM
   rcases HL.out.form with rfl|⟨bl,ol,rfl⟩
   ·exact absurd aq (acg _)
   obtain⟨c0,c1,c2,c3⟩:=(HL.out.later nj).cells aq;have C5:=lG.out _ (ach aq);have PT:Hid (∀w',bL w2 w'->w'.cell? ⟨bl,ol+j*4,none⟩=some (.string l[j].word)/\w'.cell? ⟨bl,ol+j*4+1,none⟩=some (i6 l[j].a)/\w'.cell? ⟨bl,ol+j*4+2,none⟩=some (i6 l[j].b)/\w'.cell? ⟨bl,ol+j*4+3,none⟩=some (.string l[j].data)):=fun w' gP=>(HL.out.later (ab cw.out gP)).cells aq
   generalize hx:l[j]=x at *;clear hx;obtain⟨wd,xa,xb,dt⟩:=x;simp only at c0 c1 c2 c3;have ML:=aa (fun w'=>Px ⟨wd,xa,xb,dt⟩ w' C5);have HDr:=aa HP.out.bel;generalize hn:21978*j=n at *;generalize hc:999*j=c at *;go_upto_region 9 with fail
   go_cut[7] (fun sv wx=>∃bx,sv=.pointer (some ⟨bx,0,none⟩)/\wr.heap.size<=bx/\Iz bx ⟨wd,xa,xb,dt⟩ wx/\bL wr wx)
   case first =>
    as_aux_lemma =>
    go_region_held3 (fun w'=>w'.cell? ⟨bl,ol+j*4,none⟩=some (.string wd)/\w'.cell? ⟨bl,ol+j*4+1,none⟩=some (i6 xa)/\w'.cell? ⟨bl,ol+j*4+2,none⟩=some (i6 xb)/\w'.cell? ⟨bl,ol+j*4+3,none⟩=some (.string dt)) (exact⟨af (w:=wr) bQ c0,af (w:=wr) bQ c1,af (w:=wr) bQ c2,af (w:=wr) bQ c3⟩) (first|fail)
    all_goals
     go_wp2
     go_meet
     case rel=>first|exact⟨_,rfl,ab5 _,(I6 wr ⟨wd,xa,xb,dt⟩ 31).later (aQ _ _).drew,bQ⟩|exact⟨_,rfl,ab5 _,I6 wr ⟨wd,xa,xb,dt⟩ 31,bQ⟩
   case rest =>
    obtain⟨bx,rfl,cF,CW,ke⟩:=hcut;have sZ:=aa (HP.out.box ke cF CW.box.2.2.2.2);have kx:=aa CW.box;clear cF CW ke HP c0 c1 c2 c3;obtain⟨x0,x1,x2,x3,xl⟩:=kx.out;simp only at x0 x1 x2 x3;have oB:=aa (wU ⟨wd,xa,xb,dt⟩)
    by_cases h0:bY ⟨wd,xa,xb,dt⟩=0
    ·rw[h0] at ML;clear oB;have H1:Hid (∀w',tW w2 g m n c bx q q w'->lU bx ⟨wd,xa,xb,dt⟩ w'->Calls prog 12 #[.pointer (some ⟨g,0,none⟩),.agg #[.string wd,i6 xa,i6 xb,.string dt]] w' fun e eu=>e=.returned (.string ⟨(iD q ⟨wd,xa,xb,dt⟩).1.toArray⟩)/\tW w2 g m (n+10989) c bx (iD q ⟨wd,xa,xb,dt⟩).2 q eu/\lU bx ⟨wd,xa,xb,dt⟩ eu):=fun w' h hx=>Uc h hx oM cO.out ⟨wd,xa,xb,dt⟩ C5 h0
     have H2:Hid (∀q' w',tW w2 g m (n+10989) c bx q' q w'->lU bx ⟨wd,xa,xb,dt⟩ w'->Calls prog 13 #[.pointer (some ⟨m,0,none⟩),.agg #[.string wd,i6 xa,i6 xb,.string dt]] w' fun e eu=>e=.returned (.string ⟨(iD q ⟨wd,xa,xb,dt⟩).1.toArray⟩)/\tW w2 g m (n+10989+10989) (c+999) bx q' (iD q ⟨wd,xa,xb,dt⟩).2 eu/\lU bx ⟨wd,xa,xb,dt⟩ eu):=fun q' w' h hx=>Xo h hx oM oM ⟨wd,xa,xb,dt⟩ h0
     obtain⟨T,hT⟩:∃T,(iD q ⟨wd,xa,xb,dt⟩).1=T:=⟨_,rfl⟩
     obtain⟨q',cE⟩:∃q',(iD q ⟨wd,xa,xb,dt⟩).2=q':=⟨_,rfl⟩
     rw[hT,cE] at H1 H2;clear h0 C5 hT cE;go_wp2_with fail;refine cM (ML.out _) ?_;intro w5 fT;have pD:=aa (sZ.out.later fT);have Tr:=aa (kx.out.later fT);clear fT ML sZ kx x0 x1 x2 x3 xl;obtain⟨x0,x1,x2,x3,xl⟩:=Tr.out;obtain⟨d0,d1,d2,d3⟩:=PT.out _ pD.out.bel;simp only at x0 x1 x2 x3 d0 d1 d2 d3;go_upto_region 11 with fail
     go_cut[69] (fun sv wx=>sv=.bool false/\uH w2 g m (n+10989+10989) (c+999) q' q' wx)
     case first =>
      as_aux_lemma =>
      go_region_with (first
       |(go_at_call 14;refine cM ((HQ.out.later bQ).as) ?_;intro wC Na;have HCC:=aa (HB.out.later Na);obtain⟨e0,e1,e2,e3⟩:=PT.out _ HCC.out.bel;obtain⟨z0,z1,z2,z3,zl⟩:=YS.out.later Na;simp only at e0 e1 e2 e3 z0 z1 z2 z3)
       |(go_at_call 15;refine cM (XT g s' _ ((HQ.out.later bQ).du.one.cells.2.1)) ?_;intro wS rfl)
       |(go_at_call 13;refine(H2.out _ _ (HA.out.later bQ) (P5.out.later bQ)).mono ?_;rintro e wB ⟨rfl,hp,n5⟩;have HB:=aa hp;have YS:=aa n5;obtain⟨b0,b1,b2,b3⟩:=PT.out _ hp.bel;obtain⟨y0,y1,y2,y3,yl⟩:=id n5;obtain⟨s',k',p',Nu,A',B',hq,-,-,-⟩:=hp;have HQ:=aa hq;have t1:=hq.du.two.cells.2.1;have tl:=hq.du.two.cells.2.2.2;clear n5 hq;simp only at b0 b1 b2 b3 y0 y1 y2 y3)
       |(go_at_call 12;refine(H1.out _ (pD.out.later bQ) (Tr.out.later bQ)).mono ?_;rintro e wA ⟨rfl,hp,tE⟩;have HA:=aa hp;have P5:=aa tE;obtain⟨m0,m1,m2,m3⟩:=PT.out _ hp.bel;obtain⟨v0,v1,v2,v3,vl⟩:=id tE;clear hp tE;simp only at m0 m1 m2 m3 v0 v1 v2 v3))
      all_goals
       go_wp2
       go_meet
       case rel=>exact⟨rfl,(HCC.out.QE).later bQ⟩
     case rest =>
      obtain⟨rfl,s',k',p',Nu,A',B',hq⟩:=hcut;have HQ:=aa hq;clear hq x0 x1 x2 x3 xl d0 d1 d2 d3 pD Tr H1 H2 PT;go_wp2
      go_loopw[8] (fun v wi=>∃i:Nat,i<=32/\v=i6 i/\sW w2 g m (n+10989+10989) (c+999) q' q' s' k' p' Nu A' B' wi) (fun v _=>32-(intOf v).toNat)
      case atStart=>exact⟨0,oM,rfl,HQ.out⟩
      case round =>
       clear HQ;obtain⟨i,hi,rfl,hq⟩:=hrel;have HQ:=aa hq;clear hq
       by_cases Zs:i<32
       ·have h32':(i:Int)<32:=oM;have iB:(0:Int)<=(i:Int):=oM;obtain⟨x,hx,Nd⟩:=HQ.out.now i Zs;have zY:=aa (fun w' (h:sW w2 g m (n+10989+10989) (c+999) q' q' s' k' p' Nu A' B' w')=>h.abX i Zs x hx);have Ys:=aa (fun w' (h:sW w2 g m (n+10989+10989) (c+999) q' q' s' k' p' Nu A' B' w')=>XP g A'.b w' h.du.one.cells.1);have t0:=HQ.out.du.two.cells.1;have lt0:=al t0;have ltx:=al Nd;clear hx;generalize B'.b=bB at t0 Nd lt0 ltx;generalize A'.b=bA at zY Ys;go_upto_region 16 with fail
        go_cut[87] (fun sv wx=>sv=.bool false/\sW w2 g m (n+10989+10989) (c+999) q' q' s' k' p' Nu A' B' wx)
        case first =>
         as_aux_lemma =>
         go_region_held3 (fun w'=>w'.cell? ⟨m,0,none⟩=some (.pointer (some ⟨bB,0,none⟩))/\w'.cell? ⟨bB,32+i,none⟩=some (.string x)) (exact⟨af (w:=wr) bQ t0,af (w:=wr) bQ Nd⟩) (first
          |(go_at_call 17;refine cM (zY.out _ (HQ.out.later bQ)) ?_;intro w4 gj)
          |(go_at_call 16;refine cM (Ys.out _ (HQ.out.later bQ)) ?_;intro w5 rfl))
         all_goals
          go_wp2
          go_meet
          case rel=>exact⟨rfl,HQ.out.later bQ⟩
        case rest =>
         obtain⟨rfl,hq⟩:=hcut;have kN:=aa hq;clear hq zY Ys HQ;go_wp2;go_roundw
         case rel=>exact⟨i+1,oM,gN,kN.out⟩
         case measure=>simp[intOf];omega
       ·go_wp2;go_roundw
        case rel=>exact⟨j+1,q',oM,gN,(HQ.out.QE).mono oM oM⟩
        case measure=>simp[intOf];omega
    ·obtain⟨er,pI⟩:∃er,bY ⟨wd,xa,xb,dt⟩=er:=⟨_,rfl⟩
     rw[pI] at ML oB;have abG:(0:Int)<er:=by have:=oB.out;omega
     clear h0 C5 pI oB;go_wp2_with fail;refine cM (ML.out _) ?_;intro w5 fT;have pD:=aa (sZ.out.later fT);clear fT ML sZ kx x0 x1 x2 x3 xl;go_wp2;go_roundw
     case rel=>exact⟨j+1,q,oM,gN,(pD.out.QE).mono oM oM⟩
     case measure=>simp[intOf];omega
  ·go_wp2;go_ret;exact⟨rfl,nj⟩
end
end Go.Proofs.YtlhgjplipgandaaGreatDoor
