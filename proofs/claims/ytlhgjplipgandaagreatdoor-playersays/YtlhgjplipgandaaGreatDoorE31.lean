/- Joined. -/
import Derived.Test.YtlhgjplipgandaaGreatDoorE30
set_option maxRecDepth 100000
set_option maxHeartbeats 8000000
set_option linter.unusedSimpArgs false
set_option linter.unusedSectionVars false
namespace Go.Proofs.YtlhgjplipgandaaGreatDoor
open Tryz
section
open Go.RowKit Go.BigFrame Go.Maps
section
variable{W:World}{s k n m c:Nat}{q1 q2 q3:Sk}{p p2 p':Sk}{A A':Sa}{B B':Rs}{w w':World}
end
theorem tj(p:Sk)(i:Nat):p.nf.aj i=p.aj i:=rfl
theorem Vq(n:Int)(w:World)(h0:0<=n):Calls prog 20 #[dz n,i6 n] w (rB (.bool true) w):=by
 by_cases h:n=0
 ·subst h;exact Vr 0 w
 ·rw[show dz n=.iface 87 (i6 n) by unfold dz;rw[ab6 h]];have:=Vp n n w;rw[show(decide (0<n)&&(n==n))=true by rw[acf oM];simp] at this;exact this
theorem La(s k:Nat)(q:Sk)(p p2:Sk)(A:Sa)(B:Rs)(w:World)(h:Iy s k p p2 A B w)(h1:p.nf=q)(h2:p2.nf=q)(hI:aZ q)(hG:cd q) :
 Calls prog 14 #[.pointer (some ⟨s,0,none⟩),.pointer (some ⟨k,0,none⟩)] w (rB (.bool true) w):=by
 have HB:=aa h;have HC:Hid (∀i,p.aj i=p2.aj i):=fun i=>by rw[<-tj p,<-tj p2,h1,h2]
 have HW:Hid (∀i:Nat,i<3->∀t,(¬(p2.aj i).kind=0↔t=true)->p.waits (i:Int)=t):=fun i hi t ht=>by
  have e:p.aj i=p2.aj i:=by rw[<-tj p,<-tj p2,h1,h2]
  cases hw:p.waits (i:Int)
  ·cases t
   ·rfl
   ·exact absurd ((vC p i hi).1 hw) (by rw[e];exact ht.2 rfl)
  ·cases t
   ·exact absurd (ht.1 (by rw[<-e];exact(wZ p i hi).1 hw)) dM
   ·rfl
 have FU:Hid (∀i,vE (p2.aj i)):=fun i=>by rw[<-tj p2,h2];exact hG.aj i
 have MK:Hid (Io p.queue p2.queue):=KE (by show p.nf.queue=p2.nf.queue;rw[h1,h2]);have HBS:Hid (Io p.dev.busy p2.dev.busy):=KE (by show p.nf.dev.busy=p2.nf.dev.busy;rw[h1,h2]);obtain⟨dn,lJ⟩:∃dn,bT p2.hand=dn:=⟨_,rfl⟩
 have oJ:Hid (bT p.hand=dn):=by show bT p.nf.hand=dn;rw[h1,<-h2];exact lJ
 have nk:Hid (jt p2.hand p2.hand.length=dn):=(rE p2.hand).trans lJ;obtain⟨dd,gH⟩:∃dd,p2.dead=dd:=⟨_,rfl⟩
 have FT:Hid (p.dead=dd):=by show p.nf.dead=dd;rw[h1,<-h2];exact gH
 have VX:Hid (p.queue.length<=1000):=by
  have:=hI.q6;rw[<-h1] at this;have e:p.nf.queue.length=p.queue.length:=acp _;show _<=_;omega
 have lk:=h.two.lt;have ls:=h.one.lt;clear h h1 h2 hI hG lJ;go_enter func14,ntmps14;go_wp2
 go_loopw[5] (fun x wr=>∃j:Nat,j<=3/\x=i6 j/\bL w wr) (fun x _=>3-(intOf x).toNat)
 case atStart=>exact⟨0,oM,rfl,aQ _ _⟩
 case round =>
  obtain⟨j,hj,rfl,iT⟩:=hrel;have sa:=aa iT;have nj:=aa (HB.out.later iT);have lr:=nj.out.two.lt;clear iT
  by_cases AH:j<3
  ·as_aux_lemma =>
   have vZ:(0:Int)<=(j:Int):=oM;have abI:(j:Int)<3:=oM;have eQ:=(nj.out.two.eQ AH).1;unfold ru at eQ;obtain⟨t,ht⟩:∃t:Bool,(¬(p2.aj j).kind=0↔t=true)/\((t=false/\wr.cell? ⟨k,11+j,none⟩=some (.pointer none))\/(t=true/\∃a,wr.cell? ⟨k,11+j,none⟩=some (.pointer (some ⟨a,0,none⟩)))):=by
    cases eY:B.ka j with
    |none=>rw[eY] at eQ;exact⟨false,⟨fun e=>absurd (nj.out.two.mem.idle j AH eY) e,fun e=>(by cases e)⟩,il ⟨rfl,eQ⟩⟩
    |some a=>rw[eY] at eQ;exact⟨true,⟨fun _=>rfl,fun _=>(nj.out.two.mem.asks j AH a eY).kind⟩,ir ⟨rfl,a,eQ⟩⟩
   have HT:=aa (HW.out j AH t ht.1);obtain⟨yd,Gy⟩:=ht;clear yd eQ;go_upto_region 4 with fail
   go_cut[24] (fun sv wx=>sv=.bool false/\bL wr wx)
   case first =>
    as_aux_lemma =>
    rcases Gy with⟨rfl,Gy⟩|⟨rfl,a,Gy⟩
    ·go_region_held3 (fun w'=>w'.cell? ⟨k,11+j,none⟩=some (.pointer none)) (exact af (w:=wr) (by(with_reducible repeat first|exact Below.refl _ _|refine ae ?_ _|refine ah ?_|refine ai ?_ (by omega) _|refine ab ?_ (by assumption))) Gy) (first|(go_at_call 63;refine(kU s p A j _ (nj.out.one.later (by(with_reducible repeat first|exact Below.refl _ _|refine ae ?_ _|refine ah ?_|refine ai ?_ (by omega) _|refine ab ?_ (by assumption)))) false HT.out).mono ?_;rintro e w4 ⟨rfl,rfl⟩))
     all_goals
      go_wp2
      go_meet
      case rel=>exact⟨rfl,bQ⟩
    ·go_region_held3 (fun w'=>w'.cell? ⟨k,11+j,none⟩=some (.pointer (some ⟨a,0,none⟩))) (exact af (w:=wr) (by(with_reducible repeat first|exact Below.refl _ _|refine ae ?_ _|refine ah ?_|refine ai ?_ (by omega) _|refine ab ?_ (by assumption))) Gy) (first|(go_at_call 63;refine(kU s p A j _ (nj.out.one.later (by(with_reducible repeat first|exact Below.refl _ _|refine ae ?_ _|refine ah ?_|refine ai ?_ (by omega) _|refine ab ?_ (by assumption)))) true HT.out).mono ?_;rintro e w4 ⟨rfl,rfl⟩))
     all_goals
      go_wp2
      go_meet
      case rel=>exact⟨rfl,bQ⟩
   case rest =>
    obtain⟨rfl,l8⟩:=hcut;have ic:=aa (nj.out.later l8);have NK:=aa (ab sa.out l8);clear l8 nj sa HT Gy lr;go_wp2_with fail;refine(QP s p A j AH _ ic.out.one).mono ?_;rw[HC.out j];obtain⟨g,hg⟩:∃g,(p2.aj j).gG=g:=⟨_,rfl⟩
    obtain⟨er,pI⟩:∃er,(p2.aj j).err=er:=⟨_,rfl⟩
    have rk:Hid (0<=er):=by
     show 0<=er;rw[<-pI]
     rcases FU.out j with e|e
     ·omega
     ·have:=e.1;omega
    have HSM:Hid (∀w',Calls prog 20 #[dz er,i6 er] w' (rB (.bool true) w')):=fun w'=>Vq er w' rk.out
    have vH:Hid (∀w',bK k p2 B w'->Calls prog 51 #[.pointer (some ⟨k,0,none⟩),i6 j] w' (rB (.tuple #[.string g,i6 er]) w')):=fun w' h'=>by
     have:=Ku k p2 B w' h' j AH (FU.out j);rw[hg,pI] at this;exact this
    rw[hg,pI];clear hg pI;generalize dz er=ev at *;rintro e w5 ⟨rfl,fT⟩;have lW:=aa (ic.out.later fT);have Yj:=aa (ab NK.out fT);clear fT ic NK;go_wp2_with fail;refine cM (vH.out _ lW.out.two) ?_;intro w6 Wr;have Yk:=aa (ab Yj.out Wr);clear Wr lW Yj vH;go_wp2_with fail;refine cM (HSM.out _) ?_;intro w7 M9;have abl:=aa (ab Yk.out M9);clear M9 Yk HSM;go_wp2;go_roundw
    case rel=>exact⟨j+1,oM,gN,abl.out⟩
    case measure=>simp[intOf];omega
  ·as_aux_lemma =>
   have c0:=nj.out.two.cell 0 _ rfl;have c2:=nj.out.two.cell 2 _ rfl;have c3:=nj.out.two.cell 3 _ rfl;have c20:=nj.out.two.cell 20 _ rfl;have jb:=nj.out.two.mem.cz.dev.jb;rw[nj.out.two.mem.busy] at jb;rw[gH] at c20;have qU:=nj.out.two.mem.cz.dev.lt;have HHN:=aa nj.out.two.mem.hand;have HQN:=aa nj.out.two.mem.queue;have eO:=aa nj.out.two.mem.cz.dev.eW;rw[nj.out.two.mem.busy] at eO;have hddq:(dd==dd)=true:=sM;have hdnq:((dn:Int)==(dn:Int))=true:=sM;clear gH;go_upto_region 10 with fail
   go_cut[4] (fun sv wx=>sv=.bool true/\bL wr wx)
   case first =>
    as_aux_lemma =>
    go_region_held3 (fun w'=>w'.cell? ⟨k,0,none⟩=some (.pointer (some ⟨B.b,0,none⟩))/\w'.cell? ⟨k,2,none⟩=some (.slice B.ha p2.hand.length B.hc)/\w'.cell? ⟨k,3,none⟩=some (.slice B.qa p2.queue.length B.qc)/\w'.cell? ⟨k,20,none⟩=some (.bool dd)/\w'.cell? ⟨B.b,65,none⟩=some (.slice B.ra.la p2.dev.busy.length B.ra.lc)) (exact⟨af (w:=wr) (by(with_reducible repeat first|exact Below.refl _ _|refine ae ?_ _|refine ah ?_|refine ai ?_ (by omega) _|refine ab ?_ (by assumption))) c0,af (w:=wr) (by(with_reducible repeat first|exact Below.refl _ _|refine ae ?_ _|refine ah ?_|refine ai ?_ (by omega) _|refine ab ?_ (by assumption))) c2,af (w:=wr) (by(with_reducible repeat first|exact Below.refl _ _|refine ae ?_ _|refine ah ?_|refine ai ?_ (by omega) _|refine ab ?_ (by assumption))) c3,af (w:=wr) (by(with_reducible repeat first|exact Below.refl _ _|refine ae ?_ _|refine ah ?_|refine ai ?_ (by omega) _|refine ab ?_ (by assumption))) c20,af (w:=wr) (by(with_reducible repeat first|exact Below.refl _ _|refine ae ?_ _|refine ah ?_|refine ai ?_ (by omega) _|refine ab ?_ (by assumption))) jb⟩) (first
     |(go_at_call 25;refine(mr s p A _ (nj.out.one.later (by(with_reducible repeat first|exact Below.refl _ _|refine ae ?_ _|refine ah ?_|refine ai ?_ (by omega) _|refine ab ?_ (by assumption)))) dn oJ.out).mono ?_;rintro e w4 ⟨rfl,gj⟩)
     |(go_at_call 61;refine(AW p2.hand B.ha B.hc _ (HHN.out.later (by(with_reducible repeat first|exact Below.refl _ _|refine ae ?_ _|refine ah ?_|refine ai ?_ (by omega) _|refine ab ?_ (by assumption)))) dn nk.out).mono ?_;rintro e w5 ⟨rfl,fT⟩)
     |(go_at_call 26;refine(TX s p A _ (nj.out.one.later (by(with_reducible repeat first|exact Below.refl _ _|refine ae ?_ _|refine ah ?_|refine ai ?_ (by omega) _|refine ab ?_ (by assumption))))).mono ?_;rw[FT.out];rintro e w6 ⟨rfl,rfl⟩)
     |(go_at_call 45;refine(zn s p A _ (nj.out.one.later (by(with_reducible repeat first|exact Below.refl _ _|refine ae ?_ _|refine ah ?_|refine ai ?_ (by omega) _|refine ab ?_ (by assumption)))) VX.out).mono ?_;rintro e w7 ⟨a7,c7,rfl,WA,-,M9⟩)
     |(go_at_call 46;refine(A8 s p A _ (nj.out.one.later (by(with_reducible repeat first|exact Below.refl _ _|refine ae ?_ _|refine ah ?_|refine ai ?_ (by omega) _|refine ab ?_ (by assumption))))).mono ?_;rintro e w8 ⟨a8,c8,rfl,Cr,-,hb8⟩)
     |(go_at_call 64;refine(G7 p.dev.busy p2.dev.busy _ B.ra.la _ B.ra.lc _ (Cr.later (by(with_reducible repeat first|exact Below.refl _ _|refine ae ?_ _|refine ah ?_|refine ai ?_ (by omega) _|refine ab ?_ (by assumption)))) (eO.out.later (by(with_reducible repeat first|exact Below.refl _ _|refine ae ?_ _|refine ah ?_|refine ai ?_ (by omega) _|refine ab ?_ (by assumption)))) HBS.out).mono ?_;rintro e w10 ⟨rfl,hb10⟩)
     |(go_at_call 64;refine(G7 p.queue p2.queue _ B.qa _ B.qc _ (WA.later (by(with_reducible repeat first|exact Below.refl _ _|refine ae ?_ _|refine ah ?_|refine ai ?_ (by omega) _|refine ab ?_ (by assumption)))) (HQN.out.later (by(with_reducible repeat first|exact Below.refl _ _|refine ae ?_ _|refine ah ?_|refine ai ?_ (by omega) _|refine ab ?_ (by assumption)))) MK.out).mono ?_;rintro e w9 ⟨rfl,hb9⟩))
    all_goals
     go_wp2
     go_meet
     case rel=>exact⟨rfl,bQ⟩
   case rest =>
    obtain⟨rfl,l8⟩:=hcut;have NK:=aa (ab sa.out l8);clear l8;go_wp2;go_ret;exact⟨rfl,NK.out⟩
structure MT where
 p:Sk
 A:Sa
 w:World
def iE(R:MT)(s b:Nat)(q:Sk)(wr:World):Prop:=∃p A,bN s R.p R.A p A R.w wr/\p.nf=q/\R.A.b=b
section
variable{W:MT}{wr w':World}{s b:Nat}{q q':Sk}
theorem iE.later(h:iE W s b q wr)(hb:bL wr w'):iE W s b q w':=by
 obtain⟨p,A,h1,h2,h3⟩:=h;exact⟨p,A,h1.later hb,h2,h3⟩
theorem iE.of{p:Sk}{A:Sa}(h3:W.A.b=b)(hs:bN s W.p W.A p A W.w wr)(h:fE s p A wr w' q'):iE W s b q' w':=by
 obtain⟨p',A',h',hn⟩:=h;exact⟨p',A',hs.trans h',hn,h3⟩
theorem EE(h:iE W s b q wr):Ja wr b=q.dev.busy.length:=by
 obtain⟨p,A,hs,rfl,rfl⟩:=h;unfold Ja;rw[<-hs.same.1,hs.at'.mem.cz.dev.xS];exact(acp _).symm
end
section
variable(W:MT)(w:World)(s b:Nat)(q:Sk)(n:Nat)
theorem GY(h:iE W s b q w)(c:Int)(t:Bool)(ht:q.waits c=t):Calls prog 63 #[.pointer (some ⟨s,0,none⟩),i6 c] w fun e w'=>e=.returned (.bool t)/\w'=w:=by
 obtain⟨p,A,hs,rfl,_⟩:=h;have h1:=hs.at';exact kU s p A c w h1 t ht
theorem GW(h:iE W s b q w)(h6:q.queue.length<=1000):Calls prog 45 #[.pointer (some ⟨s,0,none⟩)] w fun e w'=>∃a' c' l,e=.returned (.slice a' q.queue.length c')/\aS w' a' l/\l.map Rq.nf=q.queue/\(a'=none->c'=0)/\bL w w':=by
 obtain⟨p,A,hs,rfl,_⟩:=h;have h1:=hs.at';have e:p.nf.queue.length=p.queue.length:=acp _;rw[e] at h6 ⊢;refine(zn s p A w h1 h6).mono ?_;rintro x w' ⟨a',c',rfl,hR,hn,hb⟩;exact⟨a',c',p.queue,rfl,hR,rfl,hn,hb⟩
theorem U9(h:iE W s b q w):Calls prog 46 #[.pointer (some ⟨s,0,none⟩)] w fun e w'=>∃a' c' l,e=.returned (.slice a' q.dev.busy.length c')/\aS w' a' l/\l.map Rq.nf=q.dev.busy/\(a'=none->c'=0)/\bL w w':=by
 obtain⟨p,A,hs,rfl,_⟩:=h;have h1:=hs.at';have e:p.nf.dev.busy.length=p.dev.busy.length:=acp _;rw[e];refine(A8 s p A w h1).mono ?_;rintro x w' ⟨a',c',rfl,hR,hn,hb⟩;exact⟨a',c',p.dev.busy,rfl,hR,rfl,hn,hb⟩
theorem ab2(h:iE W s b q w)(hf:eU n q)(hn:n<=4000000)(c kind pl:Int)(data:ByteArray)(x:Int)(q':Sk)(hq:q.ask c kind pl data=(x,q')):Calls prog 27 #[.pointer (some ⟨s,0,none⟩),i6 c,i6 kind,i6 pl,.string data] w fun e w'=>e=.returned (dz x)/\iE W s b q' w':=by
 obtain⟨p,A,hs,rfl,h3⟩:=h;have h1:=hs.at';have sg:=hf.cD;refine(Bt s p A w h1 sg.inv (by have:=sg.tags;omega) (by have:=sg.ax;omega) c kind pl data x q' hq).mono ?_;rintro e w' ⟨he,hok⟩;exact⟨he,iE.of h3 hs hok⟩
theorem Va(h:iE W s b q w)(hf:eU n q)(hn:n<=4000000)(q':Sk)(hq:q.tick=q'):Calls prog 37 #[.pointer (some ⟨s,0,none⟩)] w fun e w'=>e=.returned (.tuple #[])/\iE W s b q' w':=by
 obtain⟨p,A,hs,rfl,h3⟩:=h;have h1:=hs.at';have sg:=hf.cD;refine(KQ s p A w h1 sg.inv (by have:=sg.tags;omega) (by have:=sg.ax;omega) q' hq).mono ?_;rintro e w' ⟨he,hok⟩;exact⟨he,iE.of h3 hs hok⟩
theorem Sx(h:iE W s b q w)(hf:eU n q)(hn:n<=4000000)(t:Bool)(q':Sk)(hq:q.clean=(t,q')):Calls prog 40 #[.pointer (some ⟨s,0,none⟩)] w fun e w'=>e=.returned (.bool t)/\iE W s b q' w':=by
 obtain⟨p,A,hs,rfl,h3⟩:=h;have h1:=hs.at';have sg:=hf.cD;refine(EO s p A w h1 sg.inv (by have:=sg.tags;omega) t q' hq).mono ?_;rintro e w' ⟨he,hok⟩;exact⟨he,iE.of h3 hs hok⟩
theorem AY(h:iE W s b q w)(hf:eU n q)(t:Bool)(q':Sk)(hq:q.bf=(t,q')):Calls prog 41 #[.pointer (some ⟨s,0,none⟩)] w fun e w'=>e=.returned (.bool t)/\iE W s b q' w':=by
 obtain⟨p,A,hs,rfl,h3⟩:=h;have h1:=hs.at';have sg:=hf.cD;refine(zM s p A w h1 sg.inv t q' hq).mono ?_;rintro e w' ⟨he,hok⟩;exact⟨he,iE.of h3 hs hok⟩
theorem XW(h:iE W s b q w)(hf:eU n q)(hn:n<=4000000)(i:Int)(fl:Bool)(x:Int)(q':Sk)(hq:q.cA i fl=(x,q')):Calls prog 42 #[.pointer (some ⟨s,0,none⟩),i6 i,.bool fl] w fun e w'=>e=.returned (dz x)/\iE W s b q' w':=by
 obtain⟨p,A,hs,rfl,h3⟩:=h;have h1:=hs.at';have sg:=hf.cD;refine(Df s p A w h1 sg.inv sg.short (by have:=sg.tags;omega) (by have:=sg.ax;omega) (by have:=sg.ag;omega) i fl x q' hq).mono ?_;rintro e w' ⟨he,hok⟩;exact⟨he,iE.of h3 hs hok⟩
end
theorem wO(W:MT)(w:World)(s b:Nat)(q:Sk)(h:iE W s b q w)(h6:q.queue.length<=1000)(t:Bool)(ht:q.quiet=t) :
 Calls prog 24 #[.pointer (some ⟨s,0,none⟩)] w (rB (.bool t) w):=by
 have HO:=aa h;have H6:=aa h6;have HT:=aa ht;clear h h6 ht;go_enter func24,ntmps24;go_wp2
 go_loopw[4] (fun i wr=>∃k:Nat,k<=3/\i=i6 k/\(∀j:Nat,j<k->q.waits (j:Int)=false)/\bL w wr) (fun i _=>3-(intOf i).toNat)
 case atStart=>exact⟨0,oM,rfl,fun j hj=>absurd hj (acg _),aQ _ _⟩
 case round =>
  obtain⟨k,hk,rfl,dS,iT⟩:=hrel;have sa:=aa iT;have jL:=aa (HO.out.later iT);clear iT;have HN:=aa dS;clear dS
  by_cases aq:k<3
  ·have fM:(k:Int)<3:=oM
   cases RC:q.waits (k:Int)
   ·have HW:=aa RC;clear RC;go_wp2_with fail;refine cM (GY W wr s b q jL.out k false HW.out) ?_;intro w1 rfl;go_wp2;go_roundw
    case rel=>exact⟨k+1,oM,gN,fun j hj=>by by_cases e:j=k;(subst e;exact HW.out);exact HN.out j oM,sa.out⟩
    case measure=>simp[intOf];omega
   ·have HW:=aa RC;have HF:Hid (false=t):=(Sp aq RC).symm.trans HT.out;clear RC;go_wp2_with fail;refine cM (GY W wr s b q jL.out k true HW.out) ?_;intro w1 rfl;go_wp2;go_ret;exact⟨dN HF.out,sa.out⟩
  ·obtain rfl:k=3:=oM;have HE:Hid ((q.queue.isEmpty&&q.dev.busy.isEmpty)=t):=(Sn (fun i hi=>HN.out i hi)).symm.trans HT.out
   cases hq:q.queue.isEmpty
   ·have HF:Hid (false=t):=by have:=HE.out;rw[hq] at this;exact this
    have dL:((q.queue.length:Int)==0)=false:=(Cv _).symm.trans hq;have hq3:¬(q.queue.length:Int)=0:=ab8.1 dL;have Nk:¬q.queue.length=0:=oM;clear hq;go_wp2_with fail;refine(GW W wr s b q jL.out H6.out).mono ?_;rintro e w1 ⟨a',c',l,rfl,-,-,-,aw⟩;generalize q.queue.length=n at *;go_wp2;go_ret;exact⟨dN HF.out,ab sa.out aw⟩
   ·have HF:Hid (q.dev.busy.isEmpty=t):=by have:=HE.out;rw[hq] at this;exact this
    have dL:q.queue=[]:=afb.1 hq;have HQL:Hid (q.queue.length=0):=by show q.queue.length=0;rw[dL];rfl
    clear hq dL;go_wp2_with fail;refine(GW W wr s b q jL.out H6.out).mono ?_;rw[HQL.out];rintro e w1 ⟨a',c',l,rfl,-,-,-,aw⟩;go_wp2_with fail;refine(U9 W w1 s b q (jL.out.later aw)).mono ?_;rintro e w2 ⟨a2,c2,l2,rfl,-,-,-,aA⟩;have PV:Hid (((q.dev.busy.length:Int)==0)=t):=(Cv _).symm.trans HF.out;generalize q.dev.busy.length=n at *;go_wp2;go_ret;exact⟨dN PV.out,ab sa.out (ab aw aA)⟩
theorem GX(W:MT)(w:World)(s b:Nat)(q:Sk)(n:Nat)(h:iE W s b q w)(hf:eU n q)(hn:n<=3900000)(q':Sk)(hq:q.round=q') :
 Calls prog 38 #[.pointer (some ⟨s,0,none⟩)] w fun e w'=>e=.returned (.tuple #[])/\iE W s b q' w':=by
 have HO:=aa h;have HF:=aa hf;have HQ:=aa hq;clear h hf hq;go_enter func38,ntmps38;go_wp2_with fail;refine cM (Va W w s b q n HO.out HF.out oM _ rfl) ?_;intro w1 h1;have jB:=aa h1;clear h1;go_wp2_with fail;refine cM (Sx W w1 s b q.tick (n+3) jB.out HF.out.tick oM q.tick.clean.1 q.tick.clean.2 rfl) ?_;intro w2 h2;have eB:=aa h2;have PV:=aa HF.out.tick.clean;have kN:Hid (((q.tick.clean.2.bS 3).cA 0 false).2=q'):=HQ.out;clear h2 HQ jB;generalize q.tick.clean.1=t at *;generalize q.tick.clean.2=q2 at *;go_wp2
 go_loopw[] (fun wr=>∃(j:Nat) (r:Sk),iE W s b r wr/\eU (n+3+1) r/\r.bS j=q2.bS 3/\3<=r.dev.busy.length+j) (fun wr=>3-Ja wr b)
 case atStart=>exact⟨3,q2,eB.out,PV.out,rfl,oM⟩
 case round =>
  obtain⟨j,r,ho,pJ,hd,hj⟩:=hrel;have jL:=aa ho;have eE:=aa pJ;have HD:=aa hd;have aA:=pJ.inv.b2;obtain⟨i,rfl⟩:∃i,j=i+1:=⟨j-1,oM⟩
  have HJ:=aa hj;have cw:=aa aA;clear ho pJ hd hj aA
  cases ht:r.bf.1
  ·have HE:Hid (r=q2.bS 3):=by
    have:=HD.out;unfold Sk.bS at this;rw[ht,ab6 acn] at this;exact this
   have HS:Hid (r.bf=(false,r)):=by
    rcases kV eE.out.inv with⟨_,e⟩|⟨_,_,_,_,_,_,_,e⟩
    ·exact e
    ·rw[e] at ht;cases ht
   clear ht;go_wp2_with fail;refine cM (AY W wr s b r _ jL.out eE.out false r HS.out) ?_;intro w3 h3;have lX:=aa h3;clear h3;go_wp2_with fail;refine(XW W w3 s b r _ lX.out eE.out oM 0 false (r.cA 0 false).1 q' (by rw[afd];exact⟨rfl,by show(r.cA 0 false).2=q';rw[HE.out];exact kN.out⟩)).mono ?_;generalize (r.cA 0 false).1=x;rintro e w4 ⟨rfl,h4⟩;generalize dz x=ev;go_wp2;go_end0;exact⟨rfl,h4⟩
  ·have HE:Hid (r.bf.2.bS i=q2.bS 3):=by
    have:=HD.out;unfold Sk.bS at this;rw[ht,aca rfl] at this;exact this
   have HM:=aa (zA eE.out.inv ht);have HT:=aa ht;clear ht;go_wp2_with fail;refine cM (AY W wr s b r _ jL.out eE.out true r.bf.2 (by rw[afd];exact⟨HT.out,rfl⟩)) ?_;intro w3 h3;have lX:=aa h3;clear h3;go_wp2;go_roundw
   case rel=>exact⟨i,r.bf.2,lX.out,eE.out.bf,HE.out,by have:=HM.out;have:=HJ.out;omega⟩
   case measure=>rw[EE jL.out,EE lX.out];have:=HM.out;have:=cw.out;omega
theorem O4(W:MT)(w:World)(s b:Nat)(q:Sk)(n m:Nat)(h:iE W s b q w)(hf:eU n q)(hn:n+11*m<=3900000)(x:Nat)(q':Sk)(hq:q.settle m=(x,q'))(t:Bool)(ht:q'.quiet=t) :
 Calls prog 28 #[.pointer (some ⟨s,0,none⟩),i6 m] w fun e w'=>e=.returned (.tuple #[i6 x,.bool t])/\iE W s b q' w':=by
 have HO:=aa h;have HF:=aa hf;have HQ:=aa hq;have HT:=aa ht;clear h hf hq ht;go_enter func28,ntmps28;go_wp2
 go_loopw[6] (fun i wr=>∃(k:Nat) (r:Sk),k<=m/\i=i6 k/\iE W s b r wr/\eU (n+11*k) r/\q.settle m=((r.settle (m-k)).1+k,(r.settle (m-k)).2)) (fun i _=>m-(intOf i).toNat)
 case atStart=>exact⟨0,q,oM,rfl,HO.out,HF.out,rfl⟩
 case round =>
  obtain⟨k,r,hk,rfl,ho,pJ,hd⟩:=hrel;have jL:=aa ho;have eE:=aa pJ;have HD:=aa (hd.symm.trans HQ.out);have H6:Hid (r.queue.length<=1000):=by have:=pJ.inv.q6;show r.queue.length<=1000;omega
  clear ho pJ hd
  by_cases aq:k<m
  ·have fM:(k:Int)<(m:Int):=oM;obtain⟨i,hi⟩:∃i,m-k=i+1:=⟨m-k-1,oM⟩
   have HI:=aa hi;rw[hi] at HD
   cases sh:r.quiet
   ·have nk:Hid (((r.round.settle i).1+(k+1),(r.round.settle i).2)=(x,q')):=by
     have:=HD.out;unfold Sk.settle at this;rw[ab6 (by rw[sh];exact acn)] at this;show _=_;rw[<-this];simp only[ada,adh]
     omega
    have xK:=aa sh;clear sh hi;go_wp2_with fail;refine cM (wO W wr s b r jL.out H6.out false xK.out) ?_;intro w1 aw;have jB:=aa (jL.out.later aw);clear aw;go_wp2_with fail;refine cM (GX W w1 s b r _ jB.out eE.out oM _ rfl) ?_;intro w2 h2;have eB:=aa h2;clear h2;go_wp2;go_roundw
    case rel=>exact⟨k+1,r.round,oM,gN,eB.out,eE.out.round.mono oM,by
     have e:m-(k+1)=i:=by have:=HI.out;omega
     rw[e];exact HQ.out.trans nk.out.symm⟩
    case measure=>simp[intOf];omega
   ·have nk:Hid (k=x/\r=q'):=by
     show k=x/\r=q';have:=HD.out;unfold Sk.settle at this;rw[aca sh] at this
     simpa using this
    have xK:=aa sh;have YF:Hid (true=t):=by have:=HT.out;rw[<-nk.out.2,sh] at this;exact this
    clear sh hi;go_wp2_with fail;refine cM (wO W wr s b r jL.out H6.out true xK.out) ?_;intro w1 aw;have jB:=aa (jL.out.later aw);clear aw;go_wp2_with fail;refine cM (wO W w1 s b r jB.out H6.out true xK.out) ?_;intro w2 aA;have eB:=aa (jB.out.later aA);clear aA;go_wp2;refine ack (v:=.tuple #[i6 k,.bool true]) (by simp[results,results28,go_sem]) rfl ?_;exact⟨by rw[<-nk.out.1,YF.out],by rw[<-nk.out.2];exact eB.out⟩
  ·obtain rfl:k=m:=oM;have nk:Hid (k=x/\r=q'):=by
    show k=x/\r=q';have:=HD.out;rw[aeB] at this;unfold Sk.settle at this
    simpa using this
   have xK:Hid (r.quiet=t):=by have:=HT.out;rw[<-nk.out.2] at this;exact this
   go_wp2_with fail;refine cM (wO W wr s b r jL.out H6.out t xK.out) ?_;intro w1 aw;have jB:=aa (jL.out.later aw);clear aw;go_wp2;refine ack (v:=.tuple #[i6 k,.bool t]) (by simp[results,results28,go_sem]) rfl ?_;exact⟨by rw[<-nk.out.1],by rw[<-nk.out.2];exact jB.out⟩
def NB(b v bm:Nat)(an:An)(X:Nat->Prop):Sa:=⟨b,v,bm,an,0,.map [],fun _=>none,fun _=>0,none,0,none,0,X⟩
def vy(d:Dl):Sk:={ lL with dev:=d }
theorem SW(d:Dl)(h:d.busy=[]):(vy d).nf=vy d:=by
 unfold vy Sk.nf Dl.nf lL;simp only[h,aep]
 congr 1
 cases d
 simp only at h;subst h
 rfl
theorem He(b:Nat)(d:Dl)(an:An)(w:World)(h:bR b d an w)(fw:d.busy=[])(X:Nat->Prop)(hX:∀j,X j->j<w.heap.size) :
 Calls prog 31 #[.pointer (some ⟨b,0,none⟩)] w fun e w'=>∃s v bm,e=.returned (.pointer (some ⟨s,0,none⟩))/\bo s (vy d) (NB b v bm an X) w'/\bL w w'/\w.heap.size<=s/\w.heap.size<=v/\w.heap.size<=bm:=by
 have HD:=aa h;have eN:=aa fw;have P6:=aa hX;clear h fw hX;have hzv:∀w',Sem.run prog (zeroValue 127) w'=.ok (.agg (([Value.pointer none,Value.pointer none]:List Value)++(gJ xT none 0++(gJ xT none 0++(gJ xT none 0++lL.tail (sa0 0 0 0))))).toArray) w':=fun _=>rfl
 go_enter func31,ntmps31;go_wp2_with fail;refine(VM b d an w HD.out).mono ?_;rintro e w1 ⟨rfl,hv,aw⟩;have HV:=aa hv;have aU:=aa aw;clear hv aw;go_wp2;go_ret;have aA:=aB w1 (.cells ((Value.pointer (some ⟨b,0,none⟩)::Value.pointer (some ⟨w.heap.size+1,0,none⟩)::(gJ xT none 0++(gJ xT none 0++(gJ xT none 0++lL.tail (sa0 0 0 0))))).toArray) 127);have qg:=aH HV.out.aW;have jm:=aU.out.size;refine⟨w1.heap.size,w.heap.size+1,w.heap.size,rfl,⟨ac8 _ _,?_⟩,ab aU.out aA,oM,oM,oM⟩;exact {
  cz:=HV.out.later aA
  map:=GL
  im:=HV.out.map.isMap
  nb:=ab5 0
  hand:=⟨il rfl,by show 0<=_;omega⟩
  cU:=fun _=>rfl
  bU:=ab5 0
  queue:=⟨il rfl,(fun r hr=>by cases hr),by show 0<=_;omega⟩
  fa:=fun _=>rfl
  fq:=ab5 0
  left:=fun i hi=>by
   have e:((vy d).aj i).left=[]:=by
    match i,hi with
    |0,_=>rfl
    |1,_=>rfl
    |2,_=>rfl
   rw[e];exact acx _ _ _ _
  sv:=⟨fun e=>by have:=HV.out.bz _ e;omega,fun(e:w1.heap.size=w.heap.size+1)=>oM⟩
  vl:=fun i _ q' cE=>by cases cE
  ll:=fun i j _ _ _ q' _ cE=>by cases cE
  gX:=fun aE=>absurd rfl aE
  iu:=fun aE=>absurd rfl aE
  fe:=fun r hr=>by
   have dh:r∈([]:List Rq)++d.busy:=hr;rw[eN.out] at dh
   cases dh
  gU:=fun j e=>acD (P6.out j e) (by simp;omega) }
end
section
open Go.RowKit
def Dq(c:Cl):Prop:=0<=c.err/\c.err<=100/\c.gG.size<=4
def cr(p:Sk):Prop:=∀c∈p.cl,Dq c
theorem uU(s:ByteArray)(e:Int)(hs:s.size<=4)(h:0<=e/\e<=100):Dq ⟨0,0,bE,[],s,e⟩:=⟨h.1,h.2,hs⟩
theorem yL:Dq xT:=uU _ _ (by rw[nQ];omega) oM
section
variable{p:Sk}
theorem cr.aj(h:cr p)(i:Nat):Dq (p.aj i):=by
 unfold Sk.aj;rw[acr]
 cases e:p.cl[i]? with
 |none=>exact yL
 |some c=>exact h c (acX e)
theorem cr.set{q:Sk}(h:cr p)(i:Nat)(x:Cl)(hx:Dq x)(hq:q.cl=p.cl.set i x):cr q:=fun c hc=>by
 rw[hq] at hc;exact(acW hc).elim (h c) (fun e=>e▸hx)
theorem cr.same{q:Sk}(h:cr p)(hq:q.cl=p.cl):cr q:=fun c hc=>h c (hq▸hc)
theorem cr.gF(h:cr p)(pl:Int)(wr:Bool)(data:List ByteArray):cr (p.gF pl wr data).2:=h.same (Bs p pl wr data)
theorem cr.aV(hI:aZ p)(h:cr p)(i:Nat):cr (p.aV i):=by
 have e0:ByteArray.empty.size<=4:=by rw[nQ];omega
 unfold Sk.aV
 split
 ·unfold Sk.fX
  split
  ·rename_i b hb
   exact h.set i _ (uU b.data 0 (hI.hand.rS b (List.mem_of_find?_eq_some hb)).2.2 oM) rfl
  ·split
   ·exact h
   ·exact h.gF _ _ _
 split
 ·unfold Sk.dJ
  split
  ·exact h.set i _ (uU _ 9 e0 oM) rfl
  split
  ·exact h
  split
  ·exact h.set i _ (uU _ 0 e0 oM) rfl
  ·exact h.same rfl
 split
 ·unfold Sk.eS
  split
  ·exact h.set i _ (uU _ 9 e0 oM) rfl
  split
  ·exact h.set i _ (uU _ 0 e0 oM) rfl
  ·exact h.set i { p.aj i with left:=(p.aj i).left.filter (bZ p.hand) } (h.aj i) rfl
 ·exact h
theorem cr.serve(hI:aZ p)(h:cr p):cr p.serve:=cr.aV ((hI.aV 0).aV 1) (cr.aV (hI.aV 0) (cr.aV hI h 0) 1) 2
theorem cr.ask(hI:aZ p)(h:cr p)(c kind pl:Int)(data:ByteArray):cr (p.ask c kind pl data).2:=by
 unfold Sk.ask
 by_cases hf:dx c kind pl data=0
 ·rw[ab6 (by simpa using hf)]
  split
  ·exact h
  ·have z:=lQ hf;exact cr.serve (hI.asks c.toNat kind pl data z.2.1 z.2.2.1 z.2.2.2.2.1) (h.set (q:=p.asks c.toNat kind pl data) c.toNat { p.aj c.toNat with kind:=kind,pl:=pl,data:=data,left:=if kind=3 then bV p.hand else(p.aj c.toNat).left } (h.aj c.toNat) rfl)
 ·rw[aca hf];exact h
theorem cr.tick(hI:aZ p)(h:cr p):cr p.tick:=cr.serve (KR hI) (h.same rfl)
theorem cr.clean(h:cr p):cr p.clean.2:=by
 unfold Sk.clean
 split
 ·exact h
 split
 ·exact h
 ·exact h.gF _ _ _
theorem cr.bf(h:cr p):cr p.bf.2:=by
 unfold Sk.bf
 split
 ·exact h
 ·exact h.same rfl
theorem cr.bS(n:Nat):∀{p:Sk},cr p->cr (p.bS n):=by
 induction n with
 |zero=>exact fun h=>h
 |succ n ih =>
  intro p h;unfold Sk.bS
  split
  ·exact ih h.bf
  ·exact h
theorem cr.cH(h:cr p)(F:Int->Bool)(s:ByteArray)(e:Int)(hs:s.size<=4)(he:0<=e/\e<=100):cr (p.cH F s e):=fun c hc=>by
 obtain⟨x,hx,rfl⟩:=adn.1 hc
 split
 ·exact uU s e hs he
 ·exact h x hx
theorem cr.dQ(h:cr p)(pl:Int)(s:ByteArray)(hs:s.size<=4):cr (p.dQ pl s):=by
 unfold Sk.dQ
 split
 ·exact h
 split
 ·exact cr.cH (p:={ p with hand:=_,ax:=p.ax+1 }) (h.same rfl) _ _ _ hs oM
 ·exact h.cH _ _ _ hs oM
theorem cr.eo(h:cr p)(r:Rq)(xs:List ByteArray)(hx:∀j,(xs.getD j bE).size<=4)(j:Nat):cr (p.eo r xs j):=by
 unfold Sk.eo
 split
 ·exact h.same rfl
 ·exact h.dQ _ _ (hx j)
theorem cr.cR(h:cr p)(r:Rq)(xs:List ByteArray)(hx:∀j,(xs.getD j bE).size<=4):∀n,cr (p.cR r xs n)
 |0=>h
 |n+1=>by rw[iL];exact(h.cR r xs hx n).eo r xs hx n
theorem cr.cA(hI:aZ p)(hs:dG p.dev)(h:cr p)(i:Int)(fault:Bool):cr (p.cA i fault).2:=by
 rcases vP p i fault with⟨_,e⟩|⟨k,hk,_,⟨_,e⟩|⟨_,hf,e⟩|⟨_,_,_,e⟩|⟨_,_,_,e⟩⟩
 ·rw[e];exact h
 ·rw[e];have gr:=hI.bP _ (acj _ (ach hk));have h1:cr ((p.bD k).cq p.dev.busy[k]):=h.same rfl;exact cr.serve (((hI.bD k).cq _).cR _ gr _ (iN hs _) _ (ab5 _)) (h1.cR _ _ (iN hs _) _)
 ·rw[e];exact h.same rfl
 ·rw[e];exact cr.serve ((hI.bD k).lost _ _) (h.same rfl)
 ·rw[e];refine cr.serve (((hI.bD k).BF _).cH _ _ _) (cr.cH (h.same rfl) _ _ _ ?_ oM);rw[nQ];omega
theorem cr.round{n:Nat}(hf:eU n p)(h:cr p):cr p.round :=
 cr.cA ((hf.tick.clean.bS 3).inv) ((hf.tick.clean.bS 3).short) ((cr.tick hf.inv h).clean.bS 3) 0 false
theorem cr.settle(m:Nat):∀{n:Nat} {p:Sk},eU n p->cr p->cr (p.settle m).2:=by
 induction m with
 |zero=>exact fun _ h=>h
 |succ m ih =>
  intro n p hf h;unfold Sk.settle
  split
  ·exact h
  ·exact ih hf.round (cr.round hf h)
theorem zm:cr lL:=fun c hc=>by
 rcases ac3.1 hc with rfl|hc
 ·exact yL
 rcases ac3.1 hc with rfl|hc
 ·exact yL
 rcases ac3.1 hc with rfl|hc
 ·exact yL
 ·cases hc
theorem cr.aax(h:cr p)(i:Nat):0<=(p.aj i).err/\(p.aj i).err<=100/\(p.aj i).gG.size<=1000:=by
 have:=h.aj i;exact⟨this.1,this.2.1,by have:=this.2.2;omega⟩
end
end
end Go.Proofs.YtlhgjplipgandaaGreatDoor
