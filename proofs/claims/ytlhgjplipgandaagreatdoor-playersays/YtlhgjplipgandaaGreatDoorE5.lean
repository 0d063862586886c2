/- Joined. -/
import Derived.Deep.DeepCutAuto
import Derived.Test.YtlhgjplipgandaaGreatDoorE2
set_option maxRecDepth 100000
set_option maxHeartbeats 8000000
set_option linter.unusedSimpArgs false
set_option linter.unusedSectionVars false
namespace Go.Proofs.YtlhgjplipgandaaGreatDoor
open Tryz
section
open Go.RowKit Go.BigFrame
theorem pw(l:List Rq)(a:Option Addr)(c:Nat)(b:Bool)(w:World)(hl:aS w a l)(n:Int)(hn:dI b l=n) :
 Calls prog 150 #[.slice a l.length c,.bool b] w (rB (i6 n) w):=by
 subst hn;exact LY l a c b w hl
theorem o7(l:List Rq)(a:Option Addr)(c:Nat)(b:Bool)(a':Int)(w:World)(hl:aS w a l)(n:Int)(hn:fU b a' l=n) :
 Calls prog 149 #[.slice a l.length c,.bool b,i6 a'] w (rB (i6 n) w):=by
 subst hn;exact SA l a c b a' w hl
theorem LX(l:List Rq)(b o:Nat)(c:Nat)(t:Tn)(now:Int)(w:World)(hl:aS w (some ⟨b,o,none⟩) l)(g1:(t.g==1)=false)(g2:(t.g==2)=false)
 (hs:-9223372036854775808<=t.s) (n1 n2:Int) (h1:dI false l=n1) (h2:dI true l=n2) (b1 b2:Bool) (d1:decide (0<=n1)=b1) (d2:decide (0<=n2)=b2) (TW:Bool) (TS:Int) (Q0:(de b1 b2 t).w=TW) (QZ:(de b1 b2 t).s=TS) (i0:Nat) (iB:i0<l.length) (hO:dI TW l=i0) (i:Nat) (hi:i<l.length)
 (n0:0<=now) (n3:now<=1000000000) (b0:0<=l[i0].born) (b3:l[i0].born<=1000000000) (f0:0<=l[i].f) (f1:l[i].f<=31) (m0:1<=l[i].m) (m1:l[i].m<=32)
 (qH:(kL TW<=now-l[i0].born/\i=i0)\/(now-l[i0].born<kL TW/\(fU TW t.p l=i\/(fU TW t.p l=-1/\fU TW 0 l=i)))) :
 Calls prog 101 #[.slice (some ⟨b,o,none⟩) l.length c,t.val,i6 now] w (rB (.tuple #[i6 i,Tn.val ⟨TW,1,TS,l[i].f+l[i].m⟩]) w):=by
 have bC:=hl.2.2;obtain⟨c0,c1,c2,c3,c4,c5⟩:=hl.cells hi;have l0:=al c0;have H1:Hid (dI false l=n1):=h1;have H2:Hid (dI true l=n2):=h2;have H3:Hid (dI TW l=i0):=hO;have HW:Hid ((kL TW<=now-l[i0].born/\i=i0)\/(now-l[i0].born<kL TW/\(fU TW t.p l=i\/(fU TW t.p l=-1/\fU TW 0 l=i)))):=qH;have HT:Hid ((de b1 b2 t).w=TW/\(de b1 b2 t).s=TS):=⟨Q0,QZ⟩
 clear h1 h2 hO qH Q0 QZ;go_enter func101,ntmps101;go_wp2_with fail;refine cM (pw l _ c _ _ (hl.later bQ) n1 H1.out) ?_;intro w1 HB;go_wp2_with fail;refine cM (pw l _ c _ _ (hl.later bQ) n2 H2.out) ?_;intro w2 hb
 replace HB:=ab HB hb
 clear hb;obtain⟨⟨p0,p1,p2,p3⟩,⟨k0,k1,k2,k3⟩,q,e,z0,z1⟩:=uo HB;have eN:bL w w2:=bQ;have F1:iY w2 w.heap.size (.bool t.w) (i6 t.g) (i6 t.s) (i6 t.p):=⟨⟨p0,p1,p2,p3⟩,⟨k0,k1,k2,k3⟩⟩
 have F2:iY w2 (w.heap.size+1) (.bool false) (i6 0) (i6 0) (i6 0):=⟨q,e⟩
 clear q e
 go_upto_if 56 with(fail)
 go_cut[9] (fun s9 wx=>s9=.bool b1/\bL w wx/\iY wx w.heap.size (.bool TW) (i6 t.g) (i6 TS) (i6 t.p)/\iY wx (w.heap.size+1) (.bool false) (i6 0) (i6 0) (i6 0))
 case first =>
  obtain⟨t1,t2⟩:=HT.out;clear HT H1 H2 H3 HW
  cases b2
  ·obtain rfl:false=TW:=t1;obtain rfl:t.s=TS:=t2;go_wp2
   go_meet
   case rel=>exact⟨rfl,bQ,F1.Bb _,F2.other oM _⟩
  ·cases b1
   ·obtain rfl:true=TW:=t1;obtain rfl:0=TS:=t2;go_wp2
    go_meet
    case rel=>exact⟨rfl,bQ,(F1.Bb _).FM _,(F2.other oM _).other oM _⟩
   ·by_cases dA:2<=t.s
    ·have e1:de true true t=⟨true,1,0,t.p⟩:=by simp[de,dA]
     rw[e1] at t1 t2;subst t1 t2;clear e1;go_wp2
     go_meet
     case rel=>exact⟨rfl,bQ,(F1.Bb _).FM _,(F2.other oM _).other oM _⟩
    ·have e1:de true true t=⟨false,1,t.s+1,t.p⟩:=by simp[de,dA]
     rw[e1] at t1 t2;subst t1 t2;clear e1;go_wp2
     go_meet
     case rel=>exact⟨rfl,bQ,(F1.Bb _).FM _,(F2.other oM _).other oM _⟩
 case rest =>
  obtain⟨rfl,ic,G1,G2⟩:=hcut;have PO:=H3.out;have YQ:=HW.out;clear HT H1 H2 H3 HW F1 F2 p0 p1 p2 p3 k0 k1 k2 k3 HB eN z0 z1 d1 d2 c0 c3 c4 c5;have H3:Hid (dI TW l=i0):=PO;clear PO;obtain⟨_,d1,d2,_,_,d5⟩:=hl.cells iB;have ll0:=al c1;obtain⟨⟨x0,x1,x2,x3⟩,⟨y0,y1,y2,y3⟩⟩:=id G1;go_wp2_with fail;refine cM (pw l _ c _ _ (hl.later ic) _ H3.out) ?_;intro w3 hb;clear x0 x1 x2 x3 y0 y1 y2 y3
  replace G1:=G1.later hb
  replace G2:=G2.later hb
  replace ic:=ab ic hb
  clear hb
  replace d5:=aC ic d5
  rcases YQ with⟨gm,rfl⟩|⟨gm,qh⟩
  ·clear d1 d2
   cases TW
   all_goals
    simp only[kL,adR,adU,adw] at gm;obtain⟨⟨x0,x1,x2,x3⟩,⟨y0,y1,y2,y3⟩⟩:=G1;obtain⟨⟨r0,r1,r2,r3⟩,⟨s0,s1,s2,s3⟩⟩:=G2
    replace c1:=aC ic c1
    replace c2:=aC ic c2
    have l1:=al c1;have l2:=al x0;have l3:=al r0;have AJ:¬b=w.heap.size+1:=oM;have AK:¬b=w.heap.size:=oM;have CZ:¬w.heap.size=b:=oM;have C0:¬w.heap.size+1=b:=oM;go_wp2_with fail
    go_region
    go_wp2_with fail
    go_region
    go_wp2;refine ack (v:=.tuple #[i6 i,Tn.val ⟨_,1,TS,l[i].f+l[i].m⟩]) ?_ rfl ⟨rfl,bQ⟩
    simp[results,results101,go_sem,r0,r1,r2,r3]
  ·rcases qh with qh|⟨qh,GH⟩
   ·have HK:Hid (fU TW t.p l=i):=qh;clear qh d1 d2;have hii:decide ((i:Int)<0)=false:=aci oM
    cases TW
    all_goals
     simp only[kL,adR,adU,adw] at gm;obtain⟨⟨x0,x1,x2,x3⟩,⟨y0,y1,y2,y3⟩⟩:=id G1;go_wp2_with fail;refine cM (o7 l _ c _ _ _ (hl.later ic) _ HK.out) ?_;intro w4 hb;clear x0 x1 x2 x3 y0 y1 y2 y3 d5
     replace G1:=G1.later hb
     replace G2:=G2.later hb
     replace ic:=ab ic hb
     clear hb;obtain⟨⟨x0,x1,x2,x3⟩,⟨y0,y1,y2,y3⟩⟩:=G1;obtain⟨⟨r0,r1,r2,r3⟩,⟨s0,s1,s2,s3⟩⟩:=G2
     replace c1:=aC ic c1
     replace c2:=aC ic c2
     have l1:=al c1;have l2:=al x0;have l3:=al r0;have AJ:¬b=w.heap.size+1:=oM;have AK:¬b=w.heap.size:=oM;have CZ:¬w.heap.size=b:=oM;have C0:¬w.heap.size+1=b:=oM;go_wp2_with fail
     go_region
     go_wp2_with fail
     go_region
     go_wp2;refine ack (v:=.tuple #[i6 i,Tn.val ⟨_,1,TS,l[i].f+l[i].m⟩]) ?_ rfl ⟨rfl,bQ⟩
     simp[results,results101,go_sem,r0,r1,r2,r3]
   ·have HK:Hid (fU TW t.p l=-1):=qh;have IL:Hid (fU TW 0 l=i):=GH;clear qh GH d1 d2
    cases TW
    all_goals
     simp only[kL,adR,adU,adw] at gm;obtain⟨⟨x0,x1,x2,x3⟩,⟨y0,y1,y2,y3⟩⟩:=id G1;go_wp2_with fail;refine cM (o7 l _ c _ _ _ (hl.later ic) _ HK.out) ?_;intro w4 hb;clear x0 x1 x2 x3 y0 y1 y2 y3 d5
     replace G1:=G1.later hb
     replace G2:=G2.later hb
     replace ic:=ab ic hb
     clear hb;obtain⟨⟨x0,x1,x2,x3⟩,⟨y0,y1,y2,y3⟩⟩:=id G1;go_wp2_with fail;refine cM (o7 l _ c _ _ _ (hl.later ic) _ IL.out) ?_;intro w5 hb;clear x0 x1 x2 x3 y0 y1 y2 y3
     replace G1:=G1.later hb
     replace G2:=G2.later hb
     replace ic:=ab ic hb
     clear hb;obtain⟨⟨x0,x1,x2,x3⟩,⟨y0,y1,y2,y3⟩⟩:=G1;obtain⟨⟨r0,r1,r2,r3⟩,⟨s0,s1,s2,s3⟩⟩:=G2
     replace c1:=aC ic c1
     replace c2:=aC ic c2
     have l1:=al c1;have l2:=al x0;have l3:=al r0;have AJ:¬b=w.heap.size+1:=oM;have AK:¬b=w.heap.size:=oM;have CZ:¬w.heap.size=b:=oM;have C0:¬w.heap.size+1=b:=oM;go_wp2_with fail
     go_region
     go_wp2_with fail
     go_region
     go_wp2;refine ack (v:=.tuple #[i6 i,Tn.val ⟨_,1,TS,l[i].f+l[i].m⟩]) ?_ rfl ⟨rfl,bQ⟩
     simp[results,results101,go_sem,r0,r1,r2,r3]
theorem Vi(l:List Rq)(b o:Nat)(c:Nat)(t:Tn)(now:Int)(w:World)(hl:aS w (some ⟨b,o,none⟩) l)(x:Bool)(g1:(t.g==1)=x)(g2:(t.g==2)=!x)(g3:0<t.g)(g4:t.g<3)(i:Nat)(hi:i<l.length)(h1:fU t.w t.p l=i)
 (f0:0<=l[i].f) (f1:l[i].f<=31) (m0:1<=l[i].m) (m1:l[i].m<=32) :
 Calls prog 101 #[.slice (some ⟨b,o,none⟩) l.length c,t.val,i6 now] w (rB (.tuple #[i6 i,Tn.val ⟨t.w,t.g+1,t.s,l[i].f+l[i].m⟩]) w):=by
 have bC:=hl.2.2;have iB:decide ((0:Int)<=(i:Int))=true:=acf oM;obtain⟨c0,c1,c2,c3,c4,c5⟩:=hl.cells hi;have l0:=al c0;have HX:Hid (fU t.w t.p l=i):=h1;clear h1 c0 c3 c4 c5
 cases x
 all_goals
  simp only[Bool.not_true,Bool.not_false] at g2;go_enter func101,ntmps101;go_wp2_with fail;refine cM (o7 l _ c _ _ _ (hl.later bQ) _ HX.out) ?_;intro w1 HB;have ic:bL w w1:=bQ;obtain⟨⟨x0,x1,x2,x3⟩,⟨y0,y1,y2,y3⟩,⟨r0,r1,r2,r3⟩,⟨s0,s1,s2,s3⟩,z0,z1⟩:=uo HB;clear HB
  replace c1:=aC ic c1
  replace c2:=aC ic c2
  have l1:=al c1;have AJ:¬b=w.heap.size+1:=oM;have AK:¬b=w.heap.size:=oM;have CZ:¬w.heap.size=b:=oM;have C0:¬w.heap.size+1=b:=oM;go_wp2_with fail
  go_region
  go_wp2_with fail
  go_region
  go_wp2;refine ack (v:=.tuple #[i6 i,Tn.val ⟨t.w,t.g+1,t.s,l[i].f+l[i].m⟩]) ?_ rfl ⟨rfl,bQ⟩
  simp[results,results101,go_sem,r0,r1,r2,r3]
theorem Pc(l:List Rq)(b o:Nat)(c:Nat)(t:Tn)(now:Int)(w:World)(hl:aS w (some ⟨b,o,none⟩) l)(x:Bool)(g1:(t.g==1)=x)(g2:(t.g==2)=!x)(pJ:fU t.w t.p l=-1)
 (hs:-9223372036854775808<=t.s) (n1 n2:Int) (h1:dI false l=n1) (h2:dI true l=n2) (b1 b2:Bool) (d1:decide (0<=n1)=b1) (d2:decide (0<=n2)=b2) (TW:Bool) (TS:Int) (Q0:(de b1 b2 t).w=TW) (QZ:(de b1 b2 t).s=TS) (i0:Nat) (iB:i0<l.length) (hO:dI TW l=i0) (i:Nat) (hi:i<l.length)
 (n0:0<=now) (n3:now<=1000000000) (b0:0<=l[i0].born) (b3:l[i0].born<=1000000000) (f0:0<=l[i].f) (f1:l[i].f<=31) (m0:1<=l[i].m) (m1:l[i].m<=32)
 (qH:(kL TW<=now-l[i0].born/\i=i0)\/(now-l[i0].born<kL TW/\(fU TW t.p l=i\/(fU TW t.p l=-1/\fU TW 0 l=i)))) :
 Calls prog 101 #[.slice (some ⟨b,o,none⟩) l.length c,t.val,i6 now] w (rB (.tuple #[i6 i,Tn.val ⟨TW,1,TS,l[i].f+l[i].m⟩]) w):=by
 have bC:=hl.2.2;obtain⟨c0,c1,c2,c3,c4,c5⟩:=hl.cells hi;have l0:=al c0;have H1:Hid (dI false l=n1):=h1;have H2:Hid (dI true l=n2):=h2;have H3:Hid (dI TW l=i0):=hO;have HW:Hid ((kL TW<=now-l[i0].born/\i=i0)\/(now-l[i0].born<kL TW/\(fU TW t.p l=i\/(fU TW t.p l=-1/\fU TW 0 l=i)))):=qH;have HT:Hid ((de b1 b2 t).w=TW/\(de b1 b2 t).s=TS):=⟨Q0,QZ⟩
 clear h1 h2 hO qH Q0 QZ;have HX:Hid (fU t.w t.p l=-1):=pJ;clear pJ
 cases x
 all_goals
  simp only[Bool.not_true,Bool.not_false] at g2;go_enter func101,ntmps101;go_wp2_with fail;refine cM (o7 l _ c _ _ _ (hl.later bQ) _ HX.out) ?_;intro wf HF;go_wp2_with fail;refine cM (pw l _ c _ _ (hl.later bQ) n1 H1.out) ?_;intro w1 hb;have HB:=ab HF hb;clear hb;go_wp2_with fail;refine cM (pw l _ c _ _ (hl.later bQ) n2 H2.out) ?_;intro w2 hb
  replace HB:=ab HB hb
  clear hb;obtain⟨⟨p0,p1,p2,p3⟩,⟨k0,k1,k2,k3⟩,q,e,z0,z1⟩:=uo HB;have eN:bL w w2:=bQ;have F1:iY w2 w.heap.size (.bool t.w) (i6 t.g) (i6 t.s) (i6 t.p):=⟨⟨p0,p1,p2,p3⟩,⟨k0,k1,k2,k3⟩⟩
  have F2:iY w2 (w.heap.size+1) (.bool false) (i6 0) (i6 0) (i6 0):=⟨q,e⟩
  clear q e
  go_upto_if 56 with(fail)
  go_cut[9] (fun s9 wx=>s9=.bool b1/\bL w wx/\iY wx w.heap.size (.bool TW) (i6 t.g) (i6 TS) (i6 t.p)/\iY wx (w.heap.size+1) (.bool false) (i6 0) (i6 0) (i6 0))
  case first =>
   obtain⟨t1,t2⟩:=HT.out;clear HT H1 H2 H3 HW
   cases b2
   ·obtain rfl:false=TW:=t1;obtain rfl:t.s=TS:=t2;go_wp2
    go_meet
    case rel=>exact⟨rfl,bQ,F1.Bb _,F2.other oM _⟩
   ·cases b1
    ·obtain rfl:true=TW:=t1;obtain rfl:0=TS:=t2;go_wp2
     go_meet
     case rel=>exact⟨rfl,bQ,(F1.Bb _).FM _,(F2.other oM _).other oM _⟩
    ·by_cases dA:2<=t.s
     ·have e1:de true true t=⟨true,1,0,t.p⟩:=by simp[de,dA]
      rw[e1] at t1 t2;subst t1 t2;clear e1;go_wp2
      go_meet
      case rel=>exact⟨rfl,bQ,(F1.Bb _).FM _,(F2.other oM _).other oM _⟩
     ·have e1:de true true t=⟨false,1,t.s+1,t.p⟩:=by simp[de,dA]
      rw[e1] at t1 t2;subst t1 t2;clear e1;go_wp2
      go_meet
      case rel=>exact⟨rfl,bQ,(F1.Bb _).FM _,(F2.other oM _).other oM _⟩
  case rest =>
   obtain⟨rfl,ic,G1,G2⟩:=hcut;have PO:=H3.out;have YQ:=HW.out;clear HT H1 H2 H3 HW F1 F2 p0 p1 p2 p3 k0 k1 k2 k3 HB eN z0 z1 d1 d2 c0 c3 c4 c5;have H3:Hid (dI TW l=i0):=PO;clear PO;obtain⟨_,d1,d2,_,_,d5⟩:=hl.cells iB;have ll0:=al c1;obtain⟨⟨x0,x1,x2,x3⟩,⟨y0,y1,y2,y3⟩⟩:=id G1;go_wp2_with fail;refine cM (pw l _ c _ _ (hl.later ic) _ H3.out) ?_;intro w3 hb;clear x0 x1 x2 x3 y0 y1 y2 y3
   replace G1:=G1.later hb
   replace G2:=G2.later hb
   replace ic:=ab ic hb
   clear hb
   replace d5:=aC ic d5
   rcases YQ with⟨gm,rfl⟩|⟨gm,qh⟩
   ·clear d1 d2
    cases TW
    all_goals
     simp only[kL,adR,adU,adw] at gm;obtain⟨⟨x0,x1,x2,x3⟩,⟨y0,y1,y2,y3⟩⟩:=G1;obtain⟨⟨r0,r1,r2,r3⟩,⟨s0,s1,s2,s3⟩⟩:=G2
     replace c1:=aC ic c1
     replace c2:=aC ic c2
     have l1:=al c1;have l2:=al x0;have l3:=al r0;have AJ:¬b=w.heap.size+1:=oM;have AK:¬b=w.heap.size:=oM;have CZ:¬w.heap.size=b:=oM;have C0:¬w.heap.size+1=b:=oM;go_wp2_with fail
     go_region
     go_wp2_with fail
     go_region
     go_wp2;refine ack (v:=.tuple #[i6 i,Tn.val ⟨_,1,TS,l[i].f+l[i].m⟩]) ?_ rfl ⟨rfl,bQ⟩
     simp[results,results101,go_sem,r0,r1,r2,r3]
   ·rcases qh with qh|⟨qh,GH⟩
    ·have HK:Hid (fU TW t.p l=i):=qh;clear qh d1 d2;have hii:decide ((i:Int)<0)=false:=aci oM
     cases TW
     all_goals
      simp only[kL,adR,adU,adw] at gm;obtain⟨⟨x0,x1,x2,x3⟩,⟨y0,y1,y2,y3⟩⟩:=id G1;go_wp2_with fail;refine cM (o7 l _ c _ _ _ (hl.later ic) _ HK.out) ?_;intro w4 hb;clear x0 x1 x2 x3 y0 y1 y2 y3 d5
      replace G1:=G1.later hb
      replace G2:=G2.later hb
      replace ic:=ab ic hb
      clear hb;obtain⟨⟨x0,x1,x2,x3⟩,⟨y0,y1,y2,y3⟩⟩:=G1;obtain⟨⟨r0,r1,r2,r3⟩,⟨s0,s1,s2,s3⟩⟩:=G2
      replace c1:=aC ic c1
      replace c2:=aC ic c2
      have l1:=al c1;have l2:=al x0;have l3:=al r0;have AJ:¬b=w.heap.size+1:=oM;have AK:¬b=w.heap.size:=oM;have CZ:¬w.heap.size=b:=oM;have C0:¬w.heap.size+1=b:=oM;go_wp2_with fail
      go_region
      go_wp2_with fail
      go_region
      go_wp2;refine ack (v:=.tuple #[i6 i,Tn.val ⟨_,1,TS,l[i].f+l[i].m⟩]) ?_ rfl ⟨rfl,bQ⟩
      simp[results,results101,go_sem,r0,r1,r2,r3]
    ·have HK:Hid (fU TW t.p l=-1):=qh;have IL:Hid (fU TW 0 l=i):=GH;clear qh GH d1 d2
     cases TW
     all_goals
      simp only[kL,adR,adU,adw] at gm;obtain⟨⟨x0,x1,x2,x3⟩,⟨y0,y1,y2,y3⟩⟩:=id G1;go_wp2_with fail;refine cM (o7 l _ c _ _ _ (hl.later ic) _ HK.out) ?_;intro w4 hb;clear x0 x1 x2 x3 y0 y1 y2 y3 d5
      replace G1:=G1.later hb
      replace G2:=G2.later hb
      replace ic:=ab ic hb
      clear hb;obtain⟨⟨x0,x1,x2,x3⟩,⟨y0,y1,y2,y3⟩⟩:=id G1;go_wp2_with fail;refine cM (o7 l _ c _ _ _ (hl.later ic) _ IL.out) ?_;intro w5 hb;clear x0 x1 x2 x3 y0 y1 y2 y3
      replace G1:=G1.later hb
      replace G2:=G2.later hb
      replace ic:=ab ic hb
      clear hb;obtain⟨⟨x0,x1,x2,x3⟩,⟨y0,y1,y2,y3⟩⟩:=G1;obtain⟨⟨r0,r1,r2,r3⟩,⟨s0,s1,s2,s3⟩⟩:=G2
      replace c1:=aC ic c1
      replace c2:=aC ic c2
      have l1:=al c1;have l2:=al x0;have l3:=al r0;have AJ:¬b=w.heap.size+1:=oM;have AK:¬b=w.heap.size:=oM;have CZ:¬w.heap.size=b:=oM;have C0:¬w.heap.size+1=b:=oM;go_wp2_with fail
      go_region
      go_wp2_with fail
      go_region
      go_wp2;refine ack (v:=.tuple #[i6 i,Tn.val ⟨_,1,TS,l[i].f+l[i].m⟩]) ?_ rfl ⟨rfl,bQ⟩
      simp[results,results101,go_sem,r0,r1,r2,r3]
end
section
open Go.RowKit
theorem bu.te{r:Rq}(h:bu r):0<=r.f/\r.f<=31/\1<=r.m/\r.m<=4/\r.m<=32-r.f:=by
 have:=h.ok;simp only[gI,aco] at this
 omega
theorem I3(b1 b2:Bool)(t:Tn):(de b1 b2 t).p=t.p/\(de b1 b2 t).g=1:=by
 unfold de;split
 ·exact⟨rfl,rfl⟩
 ·split<;>exact⟨rfl,rfl⟩
theorem zb(l:List Rq)(aE:l ≠ [])(t:Tn)(b1 b2:Bool)(d1:decide (0<=dI false l)=b1)(d2:decide (0<=dI true l)=b2):∃i0,∃h:i0<l.length,dI (de b1 b2 t).w l=i0/\l[i0].wr=(de b1 b2 t).w:=by
 have rP:0<l.length:=adH.2 aE;have key:∀x:Bool,(∃i0,∃h:i0<l.length,dI x l=i0/\l[i0].wr=x)\/(dI x l=-1/\∀i (h:i<l.length),l[i].wr=!x):=fun x=>by
  rcases US x l with h|⟨j,hj,h1,h2⟩
  ·exact ir h
  ·exact il ⟨j,hj,h1,h2⟩
 cases b2
 ·have e:(de b1 false t).w=false:=rfl;rw[e]
  rcases key false with h|⟨_,h⟩
  ·exact h
  ·exfalso
   rcases key true with⟨j,hj,h1,_⟩|⟨_,h'⟩
   ·rw[h1] at d2;simp only[ac4] at d2;omega
   ·have a:=h 0 rP;have b:=h' 0 rP;rw[a] at b;cases b
 ·have h2:0<=dI true l:=by simpa using d2
  have ht:∃i0,∃h:i0<l.length,dI true l=i0/\l[i0].wr=true:=by
   rcases key true with h|⟨h,_⟩
   ·exact h
   ·omega
  by_cases hc:b1=false\/2<=t.s
  ·have e:(de b1 true t).w=true:=by simp[de,hc]
   rw[e];exact ht
  ·have e:(de b1 true t).w=false:=by simp[de,hc]
   rw[e];have h1:0<=dI false l:=by
    cases b1
    ·exact absurd (il rfl) hc
    ·simpa using d1
   rcases key false with h|⟨h,_⟩
   ·exact h
   ·omega
theorem Qi(l:List Rq)(b o c:Nat)(t:Tn)(w:World)(hl:aS w (some ⟨b,o,none⟩) l)(hs:cY t.s)(b1 b2:Bool)(d1:decide (0<=dI false l)=b1)(d2:decide (0<=dI true l)=b2) :
 Calls prog 130 #[.slice (some ⟨b,o,none⟩) l.length c,t.val] w fun e w'=>e=.returned (de b1 b2 t).val/\bL w w':=by
 cases b2
 ·exact W9 l _ c t w hl b1 _ _ rfl rfl d1 d2
 ·cases b1
  ·exact Xa l _ c t w hl _ _ rfl rfl d1 d2
  ·by_cases h:2<=t.s
   ·have e:de true true t=⟨true,1,0,t.p⟩:=by simp[de,h]
    rw[e];exact Xb l _ c t w hl _ _ rfl rfl d1 d2 h
   ·have e:de true true t=⟨false,1,t.s+1,t.p⟩:=by simp[de,h]
    rw[e];exact Xc l _ c t w hl _ _ rfl rfl d1 d2 oM hs.1
def yG(F:Nat)(b o c:Nat)(l:List Rq)(t:Tn)(now:Int)(i:Nat)(T:Tn):Prop :=
 ∀w,aS w (some ⟨b,o,none⟩) l->Calls prog F #[.slice (some ⟨b,o,none⟩) l.length c,t.val,i6 now] w (rB (.tuple #[i6 i,T.val]) w)
theorem Gl(l:List Rq)(hg:Dp l)(t:Tn)(now:Int)(i0:Nat)(iB:i0<l.length)(hw:l[i0].wr=t.w) :
 ∃i,i<l.length/\((kL t.w<=now-l[i0].born/\i=i0)\/(now-l[i0].born<kL t.w/\(fU t.w t.p l=i\/(fU t.w t.p l=-1/\fU t.w 0 l=i)))):=by
 by_cases h:kL t.w<=now-l[i0].born
 ·exact⟨i0,iB,il ⟨h,rfl⟩⟩
 ·rcases qS t.w t.p l with⟨h1,_⟩|⟨j,hj,h1,_⟩
  ·rcases qS t.w 0 l with⟨_,h2⟩|⟨j,hj,h2,_⟩
   ·exfalso
    have:=h2 i0 iB hw;have:=(hg.bP i0 iB).te
    omega
   ·exact⟨j,hj,ir ⟨oM,ir ⟨h1,h2⟩⟩⟩
  ·exact⟨j,hj,ir ⟨oM,il h1⟩⟩
theorem OO(l:List Rq)(hg:Dp l)(b o c:Nat)(t:Tn)(now:Int)(w:World)(hl:aS w (some ⟨b,o,none⟩) l)(n0:0<=now)(n1:now<=1000000000)(i0:Nat)(iB:i0<l.length)(hO:dI t.w l=i0)(i:Nat)
 (qH:(kL t.w<=now-l[i0].born/\i=i0)\/(now-l[i0].born<kL t.w/\(fU t.w t.p l=i\/(fU t.w t.p l=-1/\fU t.w 0 l=i)))) :
 Calls prog 131 #[.slice (some ⟨b,o,none⟩) l.length c,t.val,i6 now] w (rB (i6 i) w):=by
 have g:=hg.bP i0 iB
 rcases qH with⟨h,rfl⟩|⟨h,h1|⟨h1,h2⟩⟩
 ·exact Xq l b o c t now w hl i iB hO n0 n1 g.b0 g.b1 _ rfl h
 ·exact Xr l b o c t now w hl i0 iB hO n0 n1 g.b0 g.b1 _ rfl h i h1
 ·exact Xs l b o c t now w hl i0 iB hO n0 n1 g.b0 g.b1 _ rfl h h1 _ h2
end
end Go.Proofs.YtlhgjplipgandaaGreatDoor
