/- Joined. -/
import Derived.Deep.DeepCutAuto
import Derived.Test.YtlhgjplipgandaaGreatDoorF2
set_option maxRecDepth 100000
set_option maxHeartbeats 8000000
set_option linter.unusedSimpArgs false
set_option linter.unusedSectionVars false
namespace Go.Proofs.YtlhgjplipgandaaGreatDoor
open Tryz
section
open Go.RowKit Go.BigFrame
theorem qp(l:List Rq)(a:Option Addr)(c:Nat)(b:Bool)(w:World)(hl:aW w a l)(n:Int)(hn:dG b l=n) :
 Calls prog 150 #[.slice a l.length c,.bool b] w (rB (i6 n) w):=by
 subst hn;exact NJ l a c b w hl
theorem pZ(l:List Rq)(a:Option Addr)(c:Nat)(b:Bool)(a':Int)(w:World)(hl:aW w a l)(n:Int)(hn:fX b a' l=n) :
 Calls prog 149 #[.slice a l.length c,.bool b,i6 a'] w (rB (i6 n) w):=by
 subst hn;exact UG l a c b a' w hl
theorem NI(l:List Rq)(b o:Nat)(c:Nat)(t:Tn)(now:Int)(w:World)(hl:aW w (some ⟨b,o,none⟩) l)(g1:(t.g==1)=false)(g2:(t.g==2)=false)
 (hs:-9223372036854775808<=t.s) (n1 n2:Int) (h1:dG false l=n1) (h2:dG true l=n2) (b1 b2:Bool) (d1:decide (0<=n1)=b1) (d2:decide (0<=n2)=b2) (TW:Bool) (TS:Int) (SX:(dh b1 b2 t).w=TW) (SW:(dh b1 b2 t).s=TS) (i0:Nat) (iT:i0<l.length) (hO:dG TW l=i0) (i:Nat) (hi:i<l.length)
 (n0:0<=now) (n3:now<=1000000000) (b0:0<=l[i0].born) (b3:l[i0].born<=1000000000) (f0:0<=l[i].f) (f1:l[i].f<=31) (m0:1<=l[i].m) (m1:l[i].m<=32)
 (rN:(lB TW<=now-l[i0].born/\i=i0)\/(now-l[i0].born<lB TW/\(fX TW t.p l=i\/(fX TW t.p l=-1/\fX TW 0 l=i)))) :
 Calls prog 101 #[.slice (some ⟨b,o,none⟩) l.length c,t.val,i6 now] w (rB (.tuple #[i6 i,Tn.val ⟨TW,1,TS,l[i].f+l[i].m⟩]) w):=by
 have bo:=hl.2.2;obtain⟨c0,c1,c2,c3,c4,c5⟩:=hl.cells hi;have l0:=aq c0;have H1:Hid (dG false l=n1):=h1;have H2:Hid (dG true l=n2):=h2;have H3:Hid (dG TW l=i0):=hO;have HW:Hid ((lB TW<=now-l[i0].born/\i=i0)\/(now-l[i0].born<lB TW/\(fX TW t.p l=i\/(fX TW t.p l=-1/\fX TW 0 l=i)))):=rN;have HT:Hid ((dh b1 b2 t).w=TW/\(dh b1 b2 t).s=TS):=⟨SX,SW⟩
 clear h1 h2 hO rN SX SW;go_enter func101,ntmps101;go_wp2_with fail;refine cM (qp l _ c _ _ (hl.later bQ) n1 H1.out) ?_;intro w1 HB;go_wp2_with fail;refine cM (qp l _ c _ _ (hl.later bQ) n2 H2.out) ?_;intro w2 hb
 replace HB:=af HB hb
 clear hb;obtain⟨⟨p0,p1,p2,p3⟩,⟨k0,k1,k2,k3⟩,q,e,z0,z1⟩:=vG HB;have et:bL w w2:=bQ;have F1:jm w2 w.heap.size (.bool t.w) (i6 t.g) (i6 t.s) (i6 t.p):=⟨⟨p0,p1,p2,p3⟩,⟨k0,k1,k2,k3⟩⟩
 have F2:jm w2 (w.heap.size+1) (.bool false) (i6 0) (i6 0) (i6 0):=⟨q,e⟩
 clear q e
 go_upto_if 56 with(fail)
 go_cut[9] (fun s9 wx=>s9=.bool b1/\bL w wx/\jm wx w.heap.size (.bool TW) (i6 t.g) (i6 TS) (i6 t.p)/\jm wx (w.heap.size+1) (.bool false) (i6 0) (i6 0) (i6 0))
 case first =>
  obtain⟨t1,t2⟩:=HT.out;clear HT H1 H2 H3 HW
  cases b2
  ·obtain rfl:false=TW:=t1;obtain rfl:t.s=TS:=t2;go_wp2
   go_meet
   case rel=>exact⟨rfl,bQ,F1.Cr _,F2.other oM _⟩
  ·cases b1
   ·obtain rfl:true=TW:=t1;obtain rfl:0=TS:=t2;go_wp2
    go_meet
    case rel=>exact⟨rfl,bQ,(F1.Cr _).Cs _,(F2.other oM _).other oM _⟩
   ·by_cases cZ:2<=t.s
    ·have e1:dh true true t=⟨true,1,0,t.p⟩:=by simp[dh,cZ]
     rw[e1] at t1 t2;subst t1 t2;clear e1;go_wp2
     go_meet
     case rel=>exact⟨rfl,bQ,(F1.Cr _).Cs _,(F2.other oM _).other oM _⟩
    ·have e1:dh true true t=⟨false,1,t.s+1,t.p⟩:=by simp[dh,cZ]
     rw[e1] at t1 t2;subst t1 t2;clear e1;go_wp2
     go_meet
     case rel=>exact⟨rfl,bQ,(F1.Cr _).Cs _,(F2.other oM _).other oM _⟩
 case rest =>
  obtain⟨rfl,jg,G1,G2⟩:=hcut;have RD:=H3.out;have HW':=HW.out;clear HT H1 H2 H3 HW F1 F2 p0 p1 p2 p3 k0 k1 k2 k3 HB et z0 z1 d1 d2 c0 c3 c4 c5;have H3:Hid (dG TW l=i0):=RD;clear RD;obtain⟨_,d1,d2,_,_,d5⟩:=hl.cells iT;have ll0:=aq c1;obtain⟨⟨x0,x1,x2,x3⟩,⟨y0,y1,y2,y3⟩⟩:=id G1;go_wp2_with fail;refine cM (qp l _ c _ _ (hl.later jg) _ H3.out) ?_;intro w3 hb;clear x0 x1 x2 x3 y0 y1 y2 y3
  replace G1:=G1.later hb
  replace G2:=G2.later hb
  replace jg:=af jg hb
  clear hb
  replace d5:=aF jg d5
  rcases HW' with⟨gu,rfl⟩|⟨gu,pU⟩
  ·clear d1 d2
   cases TW
   all_goals
    simp only[lB,afj,afr,adi] at gu;obtain⟨⟨x0,x1,x2,x3⟩,⟨y0,y1,y2,y3⟩⟩:=G1;obtain⟨⟨r0,r1,r2,r3⟩,⟨s0,s1,s2,s3⟩⟩:=G2
    replace c1:=aF jg c1
    replace c2:=aF jg c2
    have l1:=aq c1;have l2:=aq x0;have l3:=aq r0;have B0:¬b=w.heap.size+1:=oM;have uc:¬b=w.heap.size:=oM;have Ei:¬w.heap.size=b:=oM;have Ej:¬w.heap.size+1=b:=oM;go_wp2_with fail
    go_region
    go_wp2_with fail
    go_region
    go_wp2;refine aaY (v:=.tuple #[i6 i,Tn.val ⟨_,1,TS,l[i].f+l[i].m⟩]) ?_ rfl ⟨rfl,bQ⟩
    simp[results,results101,go_sem,r0,r1,r2,r3]
  ·rcases pU with pU|⟨pU,IU⟩
   ·have HK:Hid (fX TW t.p l=i):=pU;clear pU d1 d2;have hii:decide ((i:Int)<0)=false:=aa9 oM
    cases TW
    all_goals
     simp only[lB,afj,afr,adi] at gu;obtain⟨⟨x0,x1,x2,x3⟩,⟨y0,y1,y2,y3⟩⟩:=id G1;go_wp2_with fail;refine cM (pZ l _ c _ _ _ (hl.later jg) _ HK.out) ?_;intro w4 hb;clear x0 x1 x2 x3 y0 y1 y2 y3 d5
     replace G1:=G1.later hb
     replace G2:=G2.later hb
     replace jg:=af jg hb
     clear hb;obtain⟨⟨x0,x1,x2,x3⟩,⟨y0,y1,y2,y3⟩⟩:=G1;obtain⟨⟨r0,r1,r2,r3⟩,⟨s0,s1,s2,s3⟩⟩:=G2
     replace c1:=aF jg c1
     replace c2:=aF jg c2
     have l1:=aq c1;have l2:=aq x0;have l3:=aq r0;have B0:¬b=w.heap.size+1:=oM;have uc:¬b=w.heap.size:=oM;have Ei:¬w.heap.size=b:=oM;have Ej:¬w.heap.size+1=b:=oM;go_wp2_with fail
     go_region
     go_wp2_with fail
     go_region
     go_wp2;refine aaY (v:=.tuple #[i6 i,Tn.val ⟨_,1,TS,l[i].f+l[i].m⟩]) ?_ rfl ⟨rfl,bQ⟩
     simp[results,results101,go_sem,r0,r1,r2,r3]
   ·have HK:Hid (fX TW t.p l=-1):=pU;have Kc:Hid (fX TW 0 l=i):=IU;clear pU IU d1 d2
    cases TW
    all_goals
     simp only[lB,afj,afr,adi] at gu;obtain⟨⟨x0,x1,x2,x3⟩,⟨y0,y1,y2,y3⟩⟩:=id G1;go_wp2_with fail;refine cM (pZ l _ c _ _ _ (hl.later jg) _ HK.out) ?_;intro w4 hb;clear x0 x1 x2 x3 y0 y1 y2 y3 d5
     replace G1:=G1.later hb
     replace G2:=G2.later hb
     replace jg:=af jg hb
     clear hb;obtain⟨⟨x0,x1,x2,x3⟩,⟨y0,y1,y2,y3⟩⟩:=id G1;go_wp2_with fail;refine cM (pZ l _ c _ _ _ (hl.later jg) _ Kc.out) ?_;intro w5 hb;clear x0 x1 x2 x3 y0 y1 y2 y3
     replace G1:=G1.later hb
     replace G2:=G2.later hb
     replace jg:=af jg hb
     clear hb;obtain⟨⟨x0,x1,x2,x3⟩,⟨y0,y1,y2,y3⟩⟩:=G1;obtain⟨⟨r0,r1,r2,r3⟩,⟨s0,s1,s2,s3⟩⟩:=G2
     replace c1:=aF jg c1
     replace c2:=aF jg c2
     have l1:=aq c1;have l2:=aq x0;have l3:=aq r0;have B0:¬b=w.heap.size+1:=oM;have uc:¬b=w.heap.size:=oM;have Ei:¬w.heap.size=b:=oM;have Ej:¬w.heap.size+1=b:=oM;go_wp2_with fail
     go_region
     go_wp2_with fail
     go_region
     go_wp2;refine aaY (v:=.tuple #[i6 i,Tn.val ⟨_,1,TS,l[i].f+l[i].m⟩]) ?_ rfl ⟨rfl,bQ⟩
     simp[results,results101,go_sem,r0,r1,r2,r3]
theorem XB(l:List Rq)(b o:Nat)(c:Nat)(t:Tn)(now:Int)(w:World)(hl:aW w (some ⟨b,o,none⟩) l)(x:Bool)(g1:(t.g==1)=x)(g2:(t.g==2)=!x)(g3:0<t.g)(g4:t.g<3)(i:Nat)(hi:i<l.length)(h1:fX t.w t.p l=i)
 (f0:0<=l[i].f) (f1:l[i].f<=31) (m0:1<=l[i].m) (m1:l[i].m<=32) :
 Calls prog 101 #[.slice (some ⟨b,o,none⟩) l.length c,t.val,i6 now] w (rB (.tuple #[i6 i,Tn.val ⟨t.w,t.g+1,t.s,l[i].f+l[i].m⟩]) w):=by
 have bo:=hl.2.2;have iT:decide ((0:Int)<=(i:Int))=true:=aa1 oM;obtain⟨c0,c1,c2,c3,c4,c5⟩:=hl.cells hi;have l0:=aq c0;have HX:Hid (fX t.w t.p l=i):=h1;clear h1 c0 c3 c4 c5
 cases x
 all_goals
  simp only[Bool.not_true,Bool.not_false] at g2;go_enter func101,ntmps101;go_wp2_with fail;refine cM (pZ l _ c _ _ _ (hl.later bQ) _ HX.out) ?_;intro w1 HB;have jg:bL w w1:=bQ;obtain⟨⟨x0,x1,x2,x3⟩,⟨y0,y1,y2,y3⟩,⟨r0,r1,r2,r3⟩,⟨s0,s1,s2,s3⟩,z0,z1⟩:=vG HB;clear HB
  replace c1:=aF jg c1
  replace c2:=aF jg c2
  have l1:=aq c1;have B0:¬b=w.heap.size+1:=oM;have uc:¬b=w.heap.size:=oM;have Ei:¬w.heap.size=b:=oM;have Ej:¬w.heap.size+1=b:=oM;go_wp2_with fail
  go_region
  go_wp2_with fail
  go_region
  go_wp2;refine aaY (v:=.tuple #[i6 i,Tn.val ⟨t.w,t.g+1,t.s,l[i].f+l[i].m⟩]) ?_ rfl ⟨rfl,bQ⟩
  simp[results,results101,go_sem,r0,r1,r2,r3]
theorem QY(l:List Rq)(b o:Nat)(c:Nat)(t:Tn)(now:Int)(w:World)(hl:aW w (some ⟨b,o,none⟩) l)(x:Bool)(g1:(t.g==1)=x)(g2:(t.g==2)=!x)(qA:fX t.w t.p l=-1)
 (hs:-9223372036854775808<=t.s) (n1 n2:Int) (h1:dG false l=n1) (h2:dG true l=n2) (b1 b2:Bool) (d1:decide (0<=n1)=b1) (d2:decide (0<=n2)=b2) (TW:Bool) (TS:Int) (SX:(dh b1 b2 t).w=TW) (SW:(dh b1 b2 t).s=TS) (i0:Nat) (iT:i0<l.length) (hO:dG TW l=i0) (i:Nat) (hi:i<l.length)
 (n0:0<=now) (n3:now<=1000000000) (b0:0<=l[i0].born) (b3:l[i0].born<=1000000000) (f0:0<=l[i].f) (f1:l[i].f<=31) (m0:1<=l[i].m) (m1:l[i].m<=32)
 (rN:(lB TW<=now-l[i0].born/\i=i0)\/(now-l[i0].born<lB TW/\(fX TW t.p l=i\/(fX TW t.p l=-1/\fX TW 0 l=i)))) :
 Calls prog 101 #[.slice (some ⟨b,o,none⟩) l.length c,t.val,i6 now] w (rB (.tuple #[i6 i,Tn.val ⟨TW,1,TS,l[i].f+l[i].m⟩]) w):=by
 have bo:=hl.2.2;obtain⟨c0,c1,c2,c3,c4,c5⟩:=hl.cells hi;have l0:=aq c0;have H1:Hid (dG false l=n1):=h1;have H2:Hid (dG true l=n2):=h2;have H3:Hid (dG TW l=i0):=hO;have HW:Hid ((lB TW<=now-l[i0].born/\i=i0)\/(now-l[i0].born<lB TW/\(fX TW t.p l=i\/(fX TW t.p l=-1/\fX TW 0 l=i)))):=rN;have HT:Hid ((dh b1 b2 t).w=TW/\(dh b1 b2 t).s=TS):=⟨SX,SW⟩
 clear h1 h2 hO rN SX SW;have HX:Hid (fX t.w t.p l=-1):=qA;clear qA
 cases x
 all_goals
  simp only[Bool.not_true,Bool.not_false] at g2;go_enter func101,ntmps101;go_wp2_with fail;refine cM (pZ l _ c _ _ _ (hl.later bQ) _ HX.out) ?_;intro wf HF;go_wp2_with fail;refine cM (qp l _ c _ _ (hl.later bQ) n1 H1.out) ?_;intro w1 hb;have HB:=af HF hb;clear hb;go_wp2_with fail;refine cM (qp l _ c _ _ (hl.later bQ) n2 H2.out) ?_;intro w2 hb
  replace HB:=af HB hb
  clear hb;obtain⟨⟨p0,p1,p2,p3⟩,⟨k0,k1,k2,k3⟩,q,e,z0,z1⟩:=vG HB;have et:bL w w2:=bQ;have F1:jm w2 w.heap.size (.bool t.w) (i6 t.g) (i6 t.s) (i6 t.p):=⟨⟨p0,p1,p2,p3⟩,⟨k0,k1,k2,k3⟩⟩
  have F2:jm w2 (w.heap.size+1) (.bool false) (i6 0) (i6 0) (i6 0):=⟨q,e⟩
  clear q e
  go_upto_if 56 with(fail)
  go_cut[9] (fun s9 wx=>s9=.bool b1/\bL w wx/\jm wx w.heap.size (.bool TW) (i6 t.g) (i6 TS) (i6 t.p)/\jm wx (w.heap.size+1) (.bool false) (i6 0) (i6 0) (i6 0))
  case first =>
   obtain⟨t1,t2⟩:=HT.out;clear HT H1 H2 H3 HW
   cases b2
   ·obtain rfl:false=TW:=t1;obtain rfl:t.s=TS:=t2;go_wp2
    go_meet
    case rel=>exact⟨rfl,bQ,F1.Cr _,F2.other oM _⟩
   ·cases b1
    ·obtain rfl:true=TW:=t1;obtain rfl:0=TS:=t2;go_wp2
     go_meet
     case rel=>exact⟨rfl,bQ,(F1.Cr _).Cs _,(F2.other oM _).other oM _⟩
    ·by_cases cZ:2<=t.s
     ·have e1:dh true true t=⟨true,1,0,t.p⟩:=by simp[dh,cZ]
      rw[e1] at t1 t2;subst t1 t2;clear e1;go_wp2
      go_meet
      case rel=>exact⟨rfl,bQ,(F1.Cr _).Cs _,(F2.other oM _).other oM _⟩
     ·have e1:dh true true t=⟨false,1,t.s+1,t.p⟩:=by simp[dh,cZ]
      rw[e1] at t1 t2;subst t1 t2;clear e1;go_wp2
      go_meet
      case rel=>exact⟨rfl,bQ,(F1.Cr _).Cs _,(F2.other oM _).other oM _⟩
  case rest =>
   obtain⟨rfl,jg,G1,G2⟩:=hcut;have RD:=H3.out;have HW':=HW.out;clear HT H1 H2 H3 HW F1 F2 p0 p1 p2 p3 k0 k1 k2 k3 HB et z0 z1 d1 d2 c0 c3 c4 c5;have H3:Hid (dG TW l=i0):=RD;clear RD;obtain⟨_,d1,d2,_,_,d5⟩:=hl.cells iT;have ll0:=aq c1;obtain⟨⟨x0,x1,x2,x3⟩,⟨y0,y1,y2,y3⟩⟩:=id G1;go_wp2_with fail;refine cM (qp l _ c _ _ (hl.later jg) _ H3.out) ?_;intro w3 hb;clear x0 x1 x2 x3 y0 y1 y2 y3
   replace G1:=G1.later hb
   replace G2:=G2.later hb
   replace jg:=af jg hb
   clear hb
   replace d5:=aF jg d5
   rcases HW' with⟨gu,rfl⟩|⟨gu,pU⟩
   ·clear d1 d2
    cases TW
    all_goals
     simp only[lB,afj,afr,adi] at gu;obtain⟨⟨x0,x1,x2,x3⟩,⟨y0,y1,y2,y3⟩⟩:=G1;obtain⟨⟨r0,r1,r2,r3⟩,⟨s0,s1,s2,s3⟩⟩:=G2
     replace c1:=aF jg c1
     replace c2:=aF jg c2
     have l1:=aq c1;have l2:=aq x0;have l3:=aq r0;have B0:¬b=w.heap.size+1:=oM;have uc:¬b=w.heap.size:=oM;have Ei:¬w.heap.size=b:=oM;have Ej:¬w.heap.size+1=b:=oM;go_wp2_with fail
     go_region
     go_wp2_with fail
     go_region
     go_wp2;refine aaY (v:=.tuple #[i6 i,Tn.val ⟨_,1,TS,l[i].f+l[i].m⟩]) ?_ rfl ⟨rfl,bQ⟩
     simp[results,results101,go_sem,r0,r1,r2,r3]
   ·rcases pU with pU|⟨pU,IU⟩
    ·have HK:Hid (fX TW t.p l=i):=pU;clear pU d1 d2;have hii:decide ((i:Int)<0)=false:=aa9 oM
     cases TW
     all_goals
      simp only[lB,afj,afr,adi] at gu;obtain⟨⟨x0,x1,x2,x3⟩,⟨y0,y1,y2,y3⟩⟩:=id G1;go_wp2_with fail;refine cM (pZ l _ c _ _ _ (hl.later jg) _ HK.out) ?_;intro w4 hb;clear x0 x1 x2 x3 y0 y1 y2 y3 d5
      replace G1:=G1.later hb
      replace G2:=G2.later hb
      replace jg:=af jg hb
      clear hb;obtain⟨⟨x0,x1,x2,x3⟩,⟨y0,y1,y2,y3⟩⟩:=G1;obtain⟨⟨r0,r1,r2,r3⟩,⟨s0,s1,s2,s3⟩⟩:=G2
      replace c1:=aF jg c1
      replace c2:=aF jg c2
      have l1:=aq c1;have l2:=aq x0;have l3:=aq r0;have B0:¬b=w.heap.size+1:=oM;have uc:¬b=w.heap.size:=oM;have Ei:¬w.heap.size=b:=oM;have Ej:¬w.heap.size+1=b:=oM;go_wp2_with fail
      go_region
      go_wp2_with fail
      go_region
      go_wp2;refine aaY (v:=.tuple #[i6 i,Tn.val ⟨_,1,TS,l[i].f+l[i].m⟩]) ?_ rfl ⟨rfl,bQ⟩
      simp[results,results101,go_sem,r0,r1,r2,r3]
    ·have HK:Hid (fX TW t.p l=-1):=pU;have Kc:Hid (fX TW 0 l=i):=IU;clear pU IU d1 d2
     cases TW
     all_goals
      simp only[lB,afj,afr,adi] at gu;obtain⟨⟨x0,x1,x2,x3⟩,⟨y0,y1,y2,y3⟩⟩:=id G1;go_wp2_with fail;refine cM (pZ l _ c _ _ _ (hl.later jg) _ HK.out) ?_;intro w4 hb;clear x0 x1 x2 x3 y0 y1 y2 y3 d5
      replace G1:=G1.later hb
      replace G2:=G2.later hb
      replace jg:=af jg hb
      clear hb;obtain⟨⟨x0,x1,x2,x3⟩,⟨y0,y1,y2,y3⟩⟩:=id G1;go_wp2_with fail;refine cM (pZ l _ c _ _ _ (hl.later jg) _ Kc.out) ?_;intro w5 hb;clear x0 x1 x2 x3 y0 y1 y2 y3
      replace G1:=G1.later hb
      replace G2:=G2.later hb
      replace jg:=af jg hb
      clear hb;obtain⟨⟨x0,x1,x2,x3⟩,⟨y0,y1,y2,y3⟩⟩:=G1;obtain⟨⟨r0,r1,r2,r3⟩,⟨s0,s1,s2,s3⟩⟩:=G2
      replace c1:=aF jg c1
      replace c2:=aF jg c2
      have l1:=aq c1;have l2:=aq x0;have l3:=aq r0;have B0:¬b=w.heap.size+1:=oM;have uc:¬b=w.heap.size:=oM;have Ei:¬w.heap.size=b:=oM;have Ej:¬w.heap.size+1=b:=oM;go_wp2_with fail
      go_region
      go_wp2_with fail
      go_region
      go_wp2;refine aaY (v:=.tuple #[i6 i,Tn.val ⟨_,1,TS,l[i].f+l[i].m⟩]) ?_ rfl ⟨rfl,bQ⟩
      simp[results,results101,go_sem,r0,r1,r2,r3]
end
section
open Go.RowKit
theorem bz.uG{r:Rq}(h:bz r):0<=r.f/\r.f<=31/\1<=r.m/\r.m<=4/\r.m<=32-r.f:=by
 have:=h.ok;simp only[gK,aba] at this
 omega
theorem Ky(b1 b2:Bool)(t:Tn):(dh b1 b2 t).p=t.p/\(dh b1 b2 t).g=1:=by
 unfold dh;split
 ·exact⟨rfl,rfl⟩
 ·split<;>exact⟨rfl,rfl⟩
theorem AD(l:List Rq)(aE:l ≠ [])(t:Tn)(b1 b2:Bool)(d1:decide (0<=dG false l)=b1)(d2:decide (0<=dG true l)=b2):∃i0,∃h:i0<l.length,dG (dh b1 b2 t).w l=i0/\l[i0].wr=(dh b1 b2 t).w:=by
 have sS:0<l.length:=afi.2 aE;have key:∀x:Bool,(∃i0,∃h:i0<l.length,dG x l=i0/\l[i0].wr=x)\/(dG x l=-1/\∀i (h:i<l.length),l[i].wr=!x):=fun x=>by
  rcases Xb x l with h|⟨j,hj,h1,h2⟩
  ·exact ir h
  ·exact il ⟨j,hj,h1,h2⟩
 cases b2
 ·have e:(dh b1 false t).w=false:=rfl;rw[e]
  rcases key false with h|⟨_,h⟩
  ·exact h
  ·exfalso
   rcases key true with⟨j,hj,h1,_⟩|⟨_,h'⟩
   ·rw[h1] at d2;simp only[acv] at d2;omega
   ·have a:=h 0 sS;have b:=h' 0 sS;rw[a] at b;cases b
 ·have h2:0<=dG true l:=by simpa using d2
  have ht:∃i0,∃h:i0<l.length,dG true l=i0/\l[i0].wr=true:=by
   rcases key true with h|⟨h,_⟩
   ·exact h
   ·omega
  by_cases hc:b1=false\/2<=t.s
  ·have e:(dh b1 true t).w=true:=by simp[dh,hc]
   rw[e];exact ht
  ·have e:(dh b1 true t).w=false:=by simp[dh,hc]
   rw[e];have h1:0<=dG false l:=by
    cases b1
    ·exact absurd (il rfl) hc
    ·simpa using d1
   rcases key false with h|⟨h,_⟩
   ·exact h
   ·omega
theorem R8(l:List Rq)(b o c:Nat)(t:Tn)(w:World)(hl:aW w (some ⟨b,o,none⟩) l)(hs:cH t.s)(b1 b2:Bool)(d1:decide (0<=dG false l)=b1)(d2:decide (0<=dG true l)=b2) :
 Calls prog 130 #[.slice (some ⟨b,o,none⟩) l.length c,t.val] w fun e w'=>e=.returned (dh b1 b2 t).val/\bL w w':=by
 cases b2
 ·exact Zw l _ c t w hl b1 _ _ rfl rfl d1 d2
 ·cases b1
  ·exact Zx l _ c t w hl _ _ rfl rfl d1 d2
  ·by_cases h:2<=t.s
   ·have e:dh true true t=⟨true,1,0,t.p⟩:=by simp[dh,h]
    rw[e];exact Zy l _ c t w hl _ _ rfl rfl d1 d2 h
   ·have e:dh true true t=⟨false,1,t.s+1,t.p⟩:=by simp[dh,h]
    rw[e];exact Zz l _ c t w hl _ _ rfl rfl d1 d2 oM hs.1
def Aa(F:Nat)(b o c:Nat)(l:List Rq)(t:Tn)(now:Int)(i:Nat)(T:Tn):Prop :=
 ∀w,aW w (some ⟨b,o,none⟩) l->Calls prog F #[.slice (some ⟨b,o,none⟩) l.length c,t.val,i6 now] w (rB (.tuple #[i6 i,T.val]) w)
theorem Iw(l:List Rq)(hg:EI l)(t:Tn)(now:Int)(i0:Nat)(iT:i0<l.length)(hw:l[i0].wr=t.w) :
 ∃i,i<l.length/\((lB t.w<=now-l[i0].born/\i=i0)\/(now-l[i0].born<lB t.w/\(fX t.w t.p l=i\/(fX t.w t.p l=-1/\fX t.w 0 l=i)))):=by
 by_cases h:lB t.w<=now-l[i0].born
 ·exact⟨i0,iT,il ⟨h,rfl⟩⟩
 ·rcases rZ t.w t.p l with⟨h1,_⟩|⟨j,hj,h1,_⟩
  ·rcases rZ t.w 0 l with⟨_,h2⟩|⟨j,hj,h2,_⟩
   ·exfalso
    have:=h2 i0 iT hw;have:=(hg.bO i0 iT).uG
    omega
   ·exact⟨j,hj,ir ⟨oM,ir ⟨h1,h2⟩⟩⟩
  ·exact⟨j,hj,ir ⟨oM,il h1⟩⟩
theorem QA(l:List Rq)(hg:EI l)(b o c:Nat)(t:Tn)(now:Int)(w:World)(hl:aW w (some ⟨b,o,none⟩) l)(n0:0<=now)(n1:now<=1000000000)(i0:Nat)(iT:i0<l.length)(hO:dG t.w l=i0)(i:Nat)
 (rN:(lB t.w<=now-l[i0].born/\i=i0)\/(now-l[i0].born<lB t.w/\(fX t.w t.p l=i\/(fX t.w t.p l=-1/\fX t.w 0 l=i)))) :
 Calls prog 131 #[.slice (some ⟨b,o,none⟩) l.length c,t.val,i6 now] w (rB (i6 i) w):=by
 have g:=hg.bO i0 iT
 rcases rN with⟨h,rfl⟩|⟨h,h1|⟨h1,h2⟩⟩
 ·exact ZN l b o c t now w hl i iT hO n0 n1 g.b0 g.b1 _ rfl h
 ·exact ZO l b o c t now w hl i0 iT hO n0 n1 g.b0 g.b1 _ rfl h i h1
 ·exact ZP l b o c t now w hl i0 iT hO n0 n1 g.b0 g.b1 _ rfl h h1 _ h2
end
end Go.Proofs.YtlhgjplipgandaaGreatDoor
