/- Joined. -/
import Derived.Test.YtlhgjplipgandaaGreatDoorF26
import Derived.Test.YtlhgjplipgandaaGreatDoorF16
import Derived.Test.YtlhgjplipgandaaGreatDoorF12
set_option maxRecDepth 100000
set_option maxHeartbeats 8000000
set_option linter.unusedSimpArgs false
set_option linter.unusedSectionVars false
namespace Go.Proofs.YtlhgjplipgandaaGreatDoor
open Tryz
section
open Go.RowKit Go.BigFrame
theorem aZ.eG{w w':World}{n B:Nat}(h:aZ w n)(hb:Below B w w')(hl:n<B):aZ w' n:=by
 obtain⟨⟨h0,h1,h2,h3,h4,h5⟩,⟨f0,f1,f2,f3,f4,f5⟩⟩:=h;have c:=fun o=>hb.cell (p:=⟨n,o,none⟩) hl
 have f:=fun o=>hb.frozen (p:=⟨n,o,none⟩) hl
 exact⟨⟨bF ((c 0).trans h0),bF ((c 1).trans h1),bF ((c 2).trans h2),bF ((c 3).trans h3),bF ((c 4).trans h4),bF ((c 5).trans h5)⟩,⟨(f 0).trans f0,(f 1).trans f1,(f 2).trans f2,(f 3).trans f3,(f 4).trans f4,(f 5).trans f5⟩⟩
theorem sB{w:World}{b:Nat}{q:Rq}(h:bj w b q:=by with_reducible repeat first|assumption|refine bj.drew ?_|refine bj.alloc ?_ _|refine bj.later ?_ aM|refine bj.eG ?_ aM (by(try simp);omega)|refine bj.set ?_ oM _):bj w b q:=h
theorem zB{w:World}{n:Nat}(h:aZ w n:=by with_reducible repeat first|assumption|refine aZ.drew ?_|refine aZ.alloc ?_ _|refine aZ.later ?_ aM|refine aZ.eG ?_ aM (by(try simp);omega)|refine aZ.set ?_ _ _):aZ w n:=h
theorem Dd(w:World)(T:TypeId)(v0 v1 v2 v3 v4 v5:Value):aZ (w.alloc (.cells #[v0,v1,v2,v3,v4,v5] T)) w.heap.size:=by
 refine⟨⟨bF (v:=v0) sM,bF (v:=v1) sM,bF (v:=v2) sM,bF (v:=v3) sM,bF (v:=v4) sM,bF (v:=v5) sM⟩,⟨?_,?_,?_,?_,?_,?_⟩⟩<;>simp
theorem Mt{w:World}{X:Obj}(T:TypeId)(a:Rq):bj ((w.alloc X).alloc (.cells #[.bool a.wr,i6 a.f,i6 a.m,.slice a.da a.data.length a.dc,.slice a.ta a.tags.length a.tc,i6 a.born] T)) (w.heap.size+1) a:=by
 have:=oy (w.alloc X) T a
 rwa [aaW] at this
theorem MQ{w:World}{X Y:Obj}(T:TypeId)(v0 v1 v2 v3 v4 v5:Value):aZ (((w.alloc X).alloc Y).alloc (.cells #[v0,v1,v2,v3,v4,v5] T)) (w.heap.size+1+1):=by
 have:=Dd ((w.alloc X).alloc Y) T v0 v1 v2 v3 v4 v5
 rwa [aaW,aaW] at this
theorem MR{w:World}{X Y Z:Obj}(T:TypeId)(v0 v1 v2 v3 v4 v5:Value):aZ ((((w.alloc X).alloc Y).alloc Z).alloc (.cells #[v0,v1,v2,v3,v4,v5] T)) (w.heap.size+1+1+1):=by
 have:=Dd (((w.alloc X).alloc Y).alloc Z) T v0 v1 v2 v3 v4 v5
 rwa [aaW,aaW,aaW] at this
def nP(w:World)(n:Nat)(v0 v1 v2 v3 v4 v5:Value):Prop:=w.cell? ⟨n,0,none⟩=some v0/\w.cell? ⟨n,1,none⟩=some v1/\w.cell? ⟨n,2,none⟩=some v2/\w.cell? ⟨n,3,none⟩=some v3/\w.cell? ⟨n,4,none⟩=some v4/\w.cell? ⟨n,5,none⟩=some v5
theorem GM(w:World)(T:TypeId)(v0 v1 v2 v3 v4 v5:Value):nP (w.alloc (.cells #[v0,v1,v2,v3,v4,v5] T)) w.heap.size v0 v1 v2 v3 v4 v5:=by
 refine⟨?_,?_,?_,?_,?_,?_⟩<;>simp
theorem KG{w:World}{X Y Z:Obj}(T:TypeId)(v0 v1 v2 v3 v4 v5:Value):nP ((((w.alloc X).alloc Y).alloc Z).alloc (.cells #[v0,v1,v2,v3,v4,v5] T)) (w.heap.size+1+1+1) v0 v1 v2 v3 v4 v5:=by
 have:=GM (((w.alloc X).alloc Y).alloc Z) T v0 v1 v2 v3 v4 v5
 rwa [aaW,aaW,aaW] at this
theorem nP.later{w w':World}{n:Nat}{v0 v1 v2 v3 v4 v5:Value}(h:nP w n v0 v1 v2 v3 v4 v5)(hb:bL w w'):nP w' n v0 v1 v2 v3 v4 v5:=by
 obtain⟨h0,h1,h2,h3,h4,h5⟩:=h;exact⟨aF hb h0,aF hb h1,aF hb h2,aF hb h3,aF hb h4,aF hb h5⟩
theorem nP.Rg{w:World}{n:Nat}{v0 v1 v2 v3 v4 v5:Value}(h:nP w n v0 v1 v2 v3 v4 v5)(u:Value):nP (w.setCell ⟨n,3,none⟩ u) n v0 v1 v2 u v4 v5:=by
 have ne:∀j:Nat,3 ≠ j->(w.setCell ⟨n,3,none⟩ u).cell? ⟨n,j,none⟩=w.cell? ⟨n,j,none⟩:=fun j hj=>aa6 _ _ _ _ (fun e=>hj (by injection e))
 obtain⟨h0,h1,h2,h3,h4,h5⟩:=h;exact⟨(ne 0 dM).trans h0,(ne 1 dM).trans h1,(ne 2 dM).trans h2,aa2 _ _ _ h3,(ne 4 dM).trans h4,(ne 5 dM).trans h5⟩
theorem nP.Ct{w:World}{n:Nat}{v0 v1 v2 v3 v4 v5:Value}(h:nP w n v0 v1 v2 v3 v4 v5)(u:Value):nP (w.setCell ⟨n,4,none⟩ u) n v0 v1 v2 v3 u v5:=by
 have ne:∀j:Nat,4 ≠ j->(w.setCell ⟨n,4,none⟩ u).cell? ⟨n,j,none⟩=w.cell? ⟨n,j,none⟩:=fun j hj=>aa6 _ _ _ _ (fun e=>hj (by injection e))
 obtain⟨h0,h1,h2,h3,h4,h5⟩:=h;exact⟨(ne 0 dM).trans h0,(ne 1 dM).trans h1,(ne 2 dM).trans h2,(ne 3 dM).trans h3,aa2 _ _ _ h4,(ne 5 dM).trans h5⟩
theorem qi{P:Program}{Q:Exit->Act->World->Prop}{a:Act}{c:Code}{w:World}(R:World->Prop)(h:R w)(k:∀w',R w'->c.wp P Q a w'):c.wp P Q a w:=k w h
theorem Jt{w:World}{n:Nat}(hn:w.heap.size=n)(T:TypeId)(v0 v1 v2 v3 v4 v5:Value):aZ (w.alloc (.cells #[v0,v1,v2,v3,v4,v5] T)) n:=by
 subst hn;exact Dd w T v0 v1 v2 v3 v4 v5
theorem Il{w:World}{n:Nat}(hn:w.heap.size=n)(T:TypeId)(v0 v1 v2 v3 v4 v5:Value):nP (w.alloc (.cells #[v0,v1,v2,v3,v4,v5] T)) n v0 v1 v2 v3 v4 v5:=by
 subst hn;exact GM w T v0 v1 v2 v3 v4 v5
def sn(q:Rq)(n:Nat):Prop:=(∀b o,q.da=some ⟨b,o,none⟩->n<=b)/\(∀b o,q.ta=some ⟨b,o,none⟩->n<=b)
theorem rV{F:World->Prop}{w:World}(R:World->Prop)(h:R w)(k:∀w',R w'->F w'):F w:=k w h
theorem Mi(a b:Rq)(w:World)(ga:bz a)(gb:bz b)(ha:a.At w)(hb:b.At w)(h2:gy a b=true)(hm:b.born<a.born)(D:List ByteArray)(hD:Hid (D=a.data++b.data))(G:List Int)(hG:Hid (G=a.tags++b.tags)) :
 Calls prog 190 #[a.val,b.val] w fun e w'=>∃q:Rq,e=.returned (.tuple #[q.val,.bool true])/\j6 a b q/\q.At w'/\sn q w.heap.size/\bL w w':=by
 obtain⟨x1,x2,x3,x4,x5⟩:=ga.mi;obtain⟨y1,y2,y3,y4,y5⟩:=gb.mi;have OR:=ga.t4;have OS:=gb.t4;have ad4:=ga.d4;have bd4:=gb.d4;obtain⟨c1,c2,c3,c4⟩:=sh.1 h2;have h1:(b.f+b.m==a.f)=false:=by rw[aaU];omega
 have g1:(a.f+a.m != b.f)=false:=by rw[ace];exact c1
 have g2:(a.wr != b.wr)=false:=by rw[ace];exact c2
 have g3:decide (4<a.m+b.m)=false:=aa9 oM;have g4:(a.tags.length:Int)+(b.tags.length:Int)<=4:=oM;have HI:Hid (cH a.f/\cH (a.m+b.m)/\cH a.born/\cH b.born/\D.length<=9223372036854775807/\G.length<=9223372036854775807):=by
  refine⟨ha.f,⟨oM,oM⟩,ha.born,hb.born,?_,?_⟩
  ·rw[hD.out,aaQ];omega
  ·rw[hG.out,aaQ];omega
 obtain⟨iS,zv,r6,BP,wR⟩:=eS yr;obtain⟨iI,xZ,BL,BM,BN⟩:=eS Ax;have HW:=dr c2;clear c1 h2 c2;go_enter func190,ntmps190;go_wp2_with fail;refine qi (fun wx=>bj wx w.heap.size { a with wr:=b.wr }/\bj wx (w.heap.size+1) b/\aZ wx (w.heap.size+1+1)/\aZ wx (w.heap.size+1+1+1)/\nP wx (w.heap.size+1+1+1) (.bool b.wr) (i6 a.f) (i6 (a.m+b.m)) (.slice none 0 0) (.slice none 0 0) (i6 b.born)/\bL w wx/\w.heap.size+4<=wx.heap.size) ⟨(((oy w _ { a with wr:=b.wr }).alloc _).alloc _).alloc _,((Mt _ b).alloc _).alloc _,(MQ _ _ _ _ _ _ _).alloc _,MR _ _ _ _ _ _ _,KG _ _ _ _ _ _ _,bQ,sM⟩ ?_;rintro wx ⟨S1,S2,Z2,Z3,C3,HB,oN⟩;have zx:=Z3.1.2.2.2.1;have fx:=Z3.2.2.2.2.1;obtain⟨p0,p1,p2,p3,p4,p5⟩:=id S1;obtain⟨q0,q1,q2,q3,q4,q5⟩:=id S2
 go_region_held3 (fun w'=>w'.cell? ⟨w.heap.size,3,none⟩=some (.slice a.da a.data.length a.dc)/\w'.cell? ⟨w.heap.size+1,3,none⟩=some (.slice b.da b.data.length b.dc)/\w'.cell? ⟨w.heap.size+1+1+1,3,none⟩=some (df w' ⟨w.heap.size+1+1+1,3,none⟩)/\w'.frozen? ⟨w.heap.size+1+1+1,3,none⟩=false) (exact⟨(show bj _ w.heap.size { a with wr:=b.wr } by repeat(first|with_reducible exact S1|with_reducible refine bj.drew ?_|with_reducible refine bj.alloc ?_ _|with_reducible refine bj.later ?_ aM|with_reducible refine bj.eG ?_ aM (by(try simp);omega)|with_reducible refine bj.set ?_ oM _)).2.2.2.1,(show bj _ (w.heap.size+1) b by repeat(first|with_reducible exact S2|with_reducible refine bj.drew ?_|with_reducible refine bj.alloc ?_ _|with_reducible refine bj.later ?_ aM|with_reducible refine bj.eG ?_ aM (by(try simp);omega)|with_reducible refine bj.set ?_ oM _)).2.2.2.1,(show aZ _ (w.heap.size+1+1+1) by repeat(first|with_reducible exact Z3|with_reducible refine aZ.drew ?_|with_reducible refine aZ.alloc ?_ _|with_reducible refine aZ.later ?_ aM|with_reducible refine aZ.eG ?_ aM (by(try simp);omega)|with_reducible refine aZ.set ?_ _ _)).1.2.2.2.1,(show aZ _ (w.heap.size+1+1+1) by repeat(first|with_reducible exact Z3|with_reducible refine aZ.drew ?_|with_reducible refine aZ.alloc ?_ _|with_reducible refine aZ.later ?_ aM|with_reducible refine aZ.eG ?_ aM (by(try simp);omega)|with_reducible refine aZ.set ?_ _ _)).2.2.2.2.1⟩) (first|(refine eM (by rfl) (.const (.slice none 0 0)) (.tmp 79) 51 (by rfl) wx.heap.size 9 iS _ 1 16 underlying51 zv r6 BP wR rfl dM (.slice none 0 0) 0 [] (by rfl) (abg _ _ _ _) a.da a.data.length a.dc (a.data.map .string) (by simp[Act.eval,Act.put]) ((ha.data.later bQ).row ha.dn) (by unfold maxLen;omega) oM sM ?_;intro v1 w4 aO aw;rw[abc,abJ] at aO;have eA:bL wx w4:=adh bQ aw)|(refine eM (by rfl) (.tmp 80) (.tmp 82) 51 (by rfl) wx.heap.size 9 iS _ 1 16 underlying51 zv r6 BP wR rfl dM v1 a.data.length (a.data.map .string) (by simp[Act.eval,Act.put]) (by first|exact aO|exact iy aO) b.da b.data.length b.dc (b.data.map .string) (by simp[Act.eval,Act.put]) ((hb.data.later bQ).row hb.dn) (by unfold maxLen;omega) oM (by have:=eA.size;(try simp);omega) ?_;intro v2 w5 aT aC;have cY:bL wx w5:=(by first|exact eA.trans aC|exact eA.drew.trans aC);rw[<-aca,<-hD.out] at aT;obtain⟨da,dc,rfl,lR,nV,wV⟩:=mx aT (by rw[hD.out,aaQ])))
 have qf:=cY.size;clear p0 p1 p2 p3 p4 p5 q0 q1 q2 q3 q4 q5 zx fx;go_wp2_with fail;refine qi (fun wy=>bj wy w.heap.size { a with wr:=b.wr }/\bj wy (w.heap.size+1) b/\aZ wy (w.heap.size+1+1)/\aZ wy (w.heap.size+1+1+1)/\nP wy (w.heap.size+1+1+1) (.bool b.wr) (i6 a.f) (i6 (a.m+b.m)) (.slice da D.length dc) (.slice none 0 0) (i6 b.born)/\StrsAt wy da D/\bL w wy/\wx.heap.size<=wy.heap.size)
  ⟨(S1.later cY).set oM _,(S2.later cY).set oM _,(Z2.later cY).set _ _,(Z3.later cY).set _ _,(C3.later cY).Rg _,lR.set (fun b' o' hh=>by have:=wV b' o' hh;omega) _,al (af HB cY) oM _,by rw[adk];exact qf⟩ ?_
 have lC:=dr (⟨wV,nV⟩:_/\_);clear S1 S2 Z2 Z3 C3 HB aO aw eA aC cY aT lR nV wV qf;rintro wy ⟨S1,S2,Z2,Z3,C3,lR,HB,hwy⟩;have zx:=Z3.1.2.2.2.2.1;have fx:=Z3.2.2.2.2.2.1;obtain⟨p0,p1,p2,p3,p4,p5⟩:=id S1;obtain⟨q0,q1,q2,q3,q4,q5⟩:=id S2
 go_region_held3 (fun w'=>w'.cell? ⟨w.heap.size,4,none⟩=some (.slice a.ta a.tags.length a.tc)/\w'.cell? ⟨w.heap.size+1,4,none⟩=some (.slice b.ta b.tags.length b.tc)/\w'.cell? ⟨w.heap.size+1+1+1,4,none⟩=some (df w' ⟨w.heap.size+1+1+1,4,none⟩)/\w'.frozen? ⟨w.heap.size+1+1+1,4,none⟩=false) (exact⟨(show bj _ w.heap.size { a with wr:=b.wr } by repeat(first|with_reducible exact S1|with_reducible refine bj.drew ?_|with_reducible refine bj.alloc ?_ _|with_reducible refine bj.later ?_ aM|with_reducible refine bj.eG ?_ aM (by(try simp);omega)|with_reducible refine bj.set ?_ oM _)).2.2.2.2.1,(show bj _ (w.heap.size+1) b by repeat(first|with_reducible exact S2|with_reducible refine bj.drew ?_|with_reducible refine bj.alloc ?_ _|with_reducible refine bj.later ?_ aM|with_reducible refine bj.eG ?_ aM (by(try simp);omega)|with_reducible refine bj.set ?_ oM _)).2.2.2.2.1,(show aZ _ (w.heap.size+1+1+1) by repeat(first|with_reducible exact Z3|with_reducible refine aZ.drew ?_|with_reducible refine aZ.alloc ?_ _|with_reducible refine aZ.later ?_ aM|with_reducible refine aZ.eG ?_ aM (by(try simp);omega)|with_reducible refine aZ.set ?_ _ _)).1.2.2.2.2.1,(show aZ _ (w.heap.size+1+1+1) by repeat(first|with_reducible exact Z3|with_reducible refine aZ.drew ?_|with_reducible refine aZ.alloc ?_ _|with_reducible refine aZ.later ?_ aM|with_reducible refine aZ.eG ?_ aM (by(try simp);omega)|with_reducible refine aZ.set ?_ _ _)).2.2.2.2.2.1⟩) (first|(refine eM (by rfl) (.const (.slice none 0 0)) (.tmp 86) 122 (by rfl) wy.heap.size 3 iI _ 1 8 underlying122 xZ BL BM BN rfl dM (.slice none 0 0) 0 [] (by rfl) (abg _ _ _ _) a.ta a.tags.length a.tc (a.tags.map (.int .i64)) (by simp[Act.eval,Act.put]) ((ha.tags.later bQ).row ha.tn) (by unfold maxLen;omega) oM sM ?_;intro v1 w6 aO aw;rw[abc,abJ] at aO;have eA:bL wy w6:=adh bQ aw)|(refine eM (by rfl) (.tmp 87) (.tmp 89) 122 (by rfl) wy.heap.size 3 iI _ 1 8 underlying122 xZ BL BM BN rfl dM v1 a.tags.length (a.tags.map (.int .i64)) (by simp[Act.eval,Act.put]) (by first|exact aO|exact iy aO) b.ta b.tags.length b.tc (b.tags.map (.int .i64)) (by simp[Act.eval,Act.put]) ((hb.tags.later bQ).row hb.tn) (by unfold maxLen;omega) oM (by have:=eA.size;(try simp);omega) ?_;intro v2 w7 aT aC;have cY:bL wy w7:=(by first|exact eA.trans aC|exact eA.drew.trans aC);rw[<-aca,<-hG.out] at aT;obtain⟨ta,tc,rfl,sV,zA,xi⟩:=kP aT (by rw[hG.out,aaQ])))
 have qf:=cY.size;clear p0 p1 p2 p3 p4 p5 q0 q1 q2 q3 q4 q5 zx fx;refine rV (F:=fun w=>Exit.then _ _ Exit.normal _ w) (fun wz=>aZ wz (w.heap.size+1+1)/\nP wz (w.heap.size+1+1+1) (.bool b.wr) (i6 a.f) (i6 (a.m+b.m)) (.slice da D.length dc) (.slice ta G.length tc) (i6 b.born)/\StrsAt wz da D/\eF wz ta G/\bL w wz/\wy.heap.size<=wz.heap.size)
  ⟨(Z2.later cY).set _ _,(C3.later cY).Ct _,(lR.later cY).set (fun b' o' hh=>by have:=lC.out.1 b' o' hh;omega) _,sV.set (fun b' o' hh=>by have:=xi b' o' hh;omega) _,al (af HB cY) oM _,by rw[adk];exact qf⟩ ?_
 have wE:=dr (⟨xi,zA⟩:_/\_);clear S1 S2 Z2 Z3 C3 HB aO aw eA aC cY aT lR sV zA xi qf;rintro wz ⟨Z2,C3,lR,sV,HB,Ls⟩;obtain⟨k0,k1,k2,k3,k4,k5⟩:=id C3;obtain⟨⟨z0,z1,z2,z3,z4,z5⟩,⟨f0,f1,f2,f3,f4,f5⟩⟩:=id Z2;obtain⟨m0,m1,m2,m3,m4,m5⟩:=gj Z2 (.bool b.wr) (i6 a.f) (i6 (a.m+b.m)) (.slice da D.length dc) (.slice ta G.length tc) (i6 b.born);unfold eC at m0 m1 m2 m3 m4 m5;have HM:=dr (⟨m0,m1,m2,m3,m4,m5⟩:_/\_/\_/\_/\_/\_);clear m0 m1 m2 m3 m4 m5;go_wp2;refine aaY (v:=.tuple #[(Rq.mk b.wr a.f (a.m+b.m) da dc D ta tc G b.born).val,.bool true]) ?_ rfl ⟨_,rfl,⟨HW.out.symm,rfl,rfl,hD.out,hG.out,(by simp only;omega)⟩,(show Rq.At _ (eC wz (w.heap.size+1+1) _ _ _ _ _ _) from⟨jr lR (fun b' o' hh=>by have:=lC.out.1 b' o' hh;omega) _ _ _ _ _ _,jq sV (fun b' o' hh=>by have:=wE.out.1 b' o' hh;omega) _ _ _ _ _ _,HI.out.2.2.2.2.1,HI.out.2.2.2.2.2,HI.out.1,HI.out.2.1,(by first|exact HI.out.2.2.1|exact HI.out.2.2.2.1),lC.out.2,wE.out.2⟩),⟨fun b' o' hh=>by have:=lC.out.1 b' o' hh;omega,fun b' o' hh=>by have:=wE.out.1 b' o' hh;omega⟩,bQ⟩;obtain⟨m0,m1,m2,m3,m4,m5⟩:=HM.out
 simp[results,results190,go_sem,m0,m1,m2,m3,m4,m5]
theorem Mj(a b:Rq)(w:World)(ga:bz a)(gb:bz b)(ha:a.At w)(hb:b.At w)(h2:gy a b=true)(hm:¬b.born<a.born)(D:List ByteArray)(hD:Hid (D=a.data++b.data))(G:List Int)(hG:Hid (G=a.tags++b.tags)) :
 Calls prog 190 #[a.val,b.val] w fun e w'=>∃q:Rq,e=.returned (.tuple #[q.val,.bool true])/\j6 a b q/\q.At w'/\sn q w.heap.size/\bL w w':=by
 obtain⟨x1,x2,x3,x4,x5⟩:=ga.mi;obtain⟨y1,y2,y3,y4,y5⟩:=gb.mi;have OR:=ga.t4;have OS:=gb.t4;have ad4:=ga.d4;have bd4:=gb.d4;obtain⟨c1,c2,c3,c4⟩:=sh.1 h2;have h1:(b.f+b.m==a.f)=false:=by rw[aaU];omega
 have g1:(a.f+a.m != b.f)=false:=by rw[ace];exact c1
 have g2:(a.wr != b.wr)=false:=by rw[ace];exact c2
 have g3:decide (4<a.m+b.m)=false:=aa9 oM;have g4:(a.tags.length:Int)+(b.tags.length:Int)<=4:=oM;have HI:Hid (cH a.f/\cH (a.m+b.m)/\cH a.born/\cH b.born/\D.length<=9223372036854775807/\G.length<=9223372036854775807):=by
  refine⟨ha.f,⟨oM,oM⟩,ha.born,hb.born,?_,?_⟩
  ·rw[hD.out,aaQ];omega
  ·rw[hG.out,aaQ];omega
 obtain⟨iS,zv,r6,BP,wR⟩:=eS yr;obtain⟨iI,xZ,BL,BM,BN⟩:=eS Ax;have HW:=dr c2;clear c1 h2 c2;go_enter func190,ntmps190;go_wp2_with fail;refine qi (fun wx=>bj wx w.heap.size { a with wr:=b.wr }/\bj wx (w.heap.size+1) b/\aZ wx (w.heap.size+1+1)/\aZ wx (w.heap.size+1+1+1)/\nP wx (w.heap.size+1+1+1) (.bool b.wr) (i6 a.f) (i6 (a.m+b.m)) (.slice none 0 0) (.slice none 0 0) (i6 a.born)/\bL w wx/\w.heap.size+4<=wx.heap.size) ⟨(((oy w _ { a with wr:=b.wr }).alloc _).alloc _).alloc _,((Mt _ b).alloc _).alloc _,(MQ _ _ _ _ _ _ _).alloc _,MR _ _ _ _ _ _ _,KG _ _ _ _ _ _ _,bQ,sM⟩ ?_;rintro wx ⟨S1,S2,Z2,Z3,C3,HB,oN⟩;have zx:=Z3.1.2.2.2.1;have fx:=Z3.2.2.2.2.1;obtain⟨p0,p1,p2,p3,p4,p5⟩:=id S1;obtain⟨q0,q1,q2,q3,q4,q5⟩:=id S2
 go_region_held3 (fun w'=>w'.cell? ⟨w.heap.size,3,none⟩=some (.slice a.da a.data.length a.dc)/\w'.cell? ⟨w.heap.size+1,3,none⟩=some (.slice b.da b.data.length b.dc)/\w'.cell? ⟨w.heap.size+1+1+1,3,none⟩=some (df w' ⟨w.heap.size+1+1+1,3,none⟩)/\w'.frozen? ⟨w.heap.size+1+1+1,3,none⟩=false) (exact⟨(show bj _ w.heap.size { a with wr:=b.wr } by repeat(first|with_reducible exact S1|with_reducible refine bj.drew ?_|with_reducible refine bj.alloc ?_ _|with_reducible refine bj.later ?_ aM|with_reducible refine bj.eG ?_ aM (by(try simp);omega)|with_reducible refine bj.set ?_ oM _)).2.2.2.1,(show bj _ (w.heap.size+1) b by repeat(first|with_reducible exact S2|with_reducible refine bj.drew ?_|with_reducible refine bj.alloc ?_ _|with_reducible refine bj.later ?_ aM|with_reducible refine bj.eG ?_ aM (by(try simp);omega)|with_reducible refine bj.set ?_ oM _)).2.2.2.1,(show aZ _ (w.heap.size+1+1+1) by repeat(first|with_reducible exact Z3|with_reducible refine aZ.drew ?_|with_reducible refine aZ.alloc ?_ _|with_reducible refine aZ.later ?_ aM|with_reducible refine aZ.eG ?_ aM (by(try simp);omega)|with_reducible refine aZ.set ?_ _ _)).1.2.2.2.1,(show aZ _ (w.heap.size+1+1+1) by repeat(first|with_reducible exact Z3|with_reducible refine aZ.drew ?_|with_reducible refine aZ.alloc ?_ _|with_reducible refine aZ.later ?_ aM|with_reducible refine aZ.eG ?_ aM (by(try simp);omega)|with_reducible refine aZ.set ?_ _ _)).2.2.2.2.1⟩) (first|(refine eM (by rfl) (.const (.slice none 0 0)) (.tmp 79) 51 (by rfl) wx.heap.size 9 iS _ 1 16 underlying51 zv r6 BP wR rfl dM (.slice none 0 0) 0 [] (by rfl) (abg _ _ _ _) a.da a.data.length a.dc (a.data.map .string) (by simp[Act.eval,Act.put]) ((ha.data.later bQ).row ha.dn) (by unfold maxLen;omega) oM sM ?_;intro v1 w4 aO aw;rw[abc,abJ] at aO;have eA:bL wx w4:=adh bQ aw)|(refine eM (by rfl) (.tmp 80) (.tmp 82) 51 (by rfl) wx.heap.size 9 iS _ 1 16 underlying51 zv r6 BP wR rfl dM v1 a.data.length (a.data.map .string) (by simp[Act.eval,Act.put]) (by first|exact aO|exact iy aO) b.da b.data.length b.dc (b.data.map .string) (by simp[Act.eval,Act.put]) ((hb.data.later bQ).row hb.dn) (by unfold maxLen;omega) oM (by have:=eA.size;(try simp);omega) ?_;intro v2 w5 aT aC;have cY:bL wx w5:=(by first|exact eA.trans aC|exact eA.drew.trans aC);rw[<-aca,<-hD.out] at aT;obtain⟨da,dc,rfl,lR,nV,wV⟩:=mx aT (by rw[hD.out,aaQ])))
 have qf:=cY.size;clear p0 p1 p2 p3 p4 p5 q0 q1 q2 q3 q4 q5 zx fx;go_wp2_with fail;refine qi (fun wy=>bj wy w.heap.size { a with wr:=b.wr }/\bj wy (w.heap.size+1) b/\aZ wy (w.heap.size+1+1)/\aZ wy (w.heap.size+1+1+1)/\nP wy (w.heap.size+1+1+1) (.bool b.wr) (i6 a.f) (i6 (a.m+b.m)) (.slice da D.length dc) (.slice none 0 0) (i6 a.born)/\StrsAt wy da D/\bL w wy/\wx.heap.size<=wy.heap.size)
  ⟨(S1.later cY).set oM _,(S2.later cY).set oM _,(Z2.later cY).set _ _,(Z3.later cY).set _ _,(C3.later cY).Rg _,lR.set (fun b' o' hh=>by have:=wV b' o' hh;omega) _,al (af HB cY) oM _,by rw[adk];exact qf⟩ ?_
 have lC:=dr (⟨wV,nV⟩:_/\_);clear S1 S2 Z2 Z3 C3 HB aO aw eA aC cY aT lR nV wV qf;rintro wy ⟨S1,S2,Z2,Z3,C3,lR,HB,hwy⟩;have zx:=Z3.1.2.2.2.2.1;have fx:=Z3.2.2.2.2.2.1;obtain⟨p0,p1,p2,p3,p4,p5⟩:=id S1;obtain⟨q0,q1,q2,q3,q4,q5⟩:=id S2
 go_region_held3 (fun w'=>w'.cell? ⟨w.heap.size,4,none⟩=some (.slice a.ta a.tags.length a.tc)/\w'.cell? ⟨w.heap.size+1,4,none⟩=some (.slice b.ta b.tags.length b.tc)/\w'.cell? ⟨w.heap.size+1+1+1,4,none⟩=some (df w' ⟨w.heap.size+1+1+1,4,none⟩)/\w'.frozen? ⟨w.heap.size+1+1+1,4,none⟩=false) (exact⟨(show bj _ w.heap.size { a with wr:=b.wr } by repeat(first|with_reducible exact S1|with_reducible refine bj.drew ?_|with_reducible refine bj.alloc ?_ _|with_reducible refine bj.later ?_ aM|with_reducible refine bj.eG ?_ aM (by(try simp);omega)|with_reducible refine bj.set ?_ oM _)).2.2.2.2.1,(show bj _ (w.heap.size+1) b by repeat(first|with_reducible exact S2|with_reducible refine bj.drew ?_|with_reducible refine bj.alloc ?_ _|with_reducible refine bj.later ?_ aM|with_reducible refine bj.eG ?_ aM (by(try simp);omega)|with_reducible refine bj.set ?_ oM _)).2.2.2.2.1,(show aZ _ (w.heap.size+1+1+1) by repeat(first|with_reducible exact Z3|with_reducible refine aZ.drew ?_|with_reducible refine aZ.alloc ?_ _|with_reducible refine aZ.later ?_ aM|with_reducible refine aZ.eG ?_ aM (by(try simp);omega)|with_reducible refine aZ.set ?_ _ _)).1.2.2.2.2.1,(show aZ _ (w.heap.size+1+1+1) by repeat(first|with_reducible exact Z3|with_reducible refine aZ.drew ?_|with_reducible refine aZ.alloc ?_ _|with_reducible refine aZ.later ?_ aM|with_reducible refine aZ.eG ?_ aM (by(try simp);omega)|with_reducible refine aZ.set ?_ _ _)).2.2.2.2.2.1⟩) (first|(refine eM (by rfl) (.const (.slice none 0 0)) (.tmp 86) 122 (by rfl) wy.heap.size 3 iI _ 1 8 underlying122 xZ BL BM BN rfl dM (.slice none 0 0) 0 [] (by rfl) (abg _ _ _ _) a.ta a.tags.length a.tc (a.tags.map (.int .i64)) (by simp[Act.eval,Act.put]) ((ha.tags.later bQ).row ha.tn) (by unfold maxLen;omega) oM sM ?_;intro v1 w6 aO aw;rw[abc,abJ] at aO;have eA:bL wy w6:=adh bQ aw)|(refine eM (by rfl) (.tmp 87) (.tmp 89) 122 (by rfl) wy.heap.size 3 iI _ 1 8 underlying122 xZ BL BM BN rfl dM v1 a.tags.length (a.tags.map (.int .i64)) (by simp[Act.eval,Act.put]) (by first|exact aO|exact iy aO) b.ta b.tags.length b.tc (b.tags.map (.int .i64)) (by simp[Act.eval,Act.put]) ((hb.tags.later bQ).row hb.tn) (by unfold maxLen;omega) oM (by have:=eA.size;(try simp);omega) ?_;intro v2 w7 aT aC;have cY:bL wy w7:=(by first|exact eA.trans aC|exact eA.drew.trans aC);rw[<-aca,<-hG.out] at aT;obtain⟨ta,tc,rfl,sV,zA,xi⟩:=kP aT (by rw[hG.out,aaQ])))
 have qf:=cY.size;clear p0 p1 p2 p3 p4 p5 q0 q1 q2 q3 q4 q5 zx fx;refine rV (F:=fun w=>Exit.then _ _ Exit.normal _ w) (fun wz=>aZ wz (w.heap.size+1+1)/\nP wz (w.heap.size+1+1+1) (.bool b.wr) (i6 a.f) (i6 (a.m+b.m)) (.slice da D.length dc) (.slice ta G.length tc) (i6 a.born)/\StrsAt wz da D/\eF wz ta G/\bL w wz/\wy.heap.size<=wz.heap.size)
  ⟨(Z2.later cY).set _ _,(C3.later cY).Ct _,(lR.later cY).set (fun b' o' hh=>by have:=lC.out.1 b' o' hh;omega) _,sV.set (fun b' o' hh=>by have:=xi b' o' hh;omega) _,al (af HB cY) oM _,by rw[adk];exact qf⟩ ?_
 have wE:=dr (⟨xi,zA⟩:_/\_);clear S1 S2 Z2 Z3 C3 HB aO aw eA aC cY aT lR sV zA xi qf;rintro wz ⟨Z2,C3,lR,sV,HB,Ls⟩;obtain⟨k0,k1,k2,k3,k4,k5⟩:=id C3;obtain⟨⟨z0,z1,z2,z3,z4,z5⟩,⟨f0,f1,f2,f3,f4,f5⟩⟩:=id Z2;obtain⟨m0,m1,m2,m3,m4,m5⟩:=gj Z2 (.bool b.wr) (i6 a.f) (i6 (a.m+b.m)) (.slice da D.length dc) (.slice ta G.length tc) (i6 a.born);unfold eC at m0 m1 m2 m3 m4 m5;have HM:=dr (⟨m0,m1,m2,m3,m4,m5⟩:_/\_/\_/\_/\_/\_);clear m0 m1 m2 m3 m4 m5;go_wp2;refine aaY (v:=.tuple #[(Rq.mk b.wr a.f (a.m+b.m) da dc D ta tc G a.born).val,.bool true]) ?_ rfl ⟨_,rfl,⟨HW.out.symm,rfl,rfl,hD.out,hG.out,(by simp only;omega)⟩,(show Rq.At _ (eC wz (w.heap.size+1+1) _ _ _ _ _ _) from⟨jr lR (fun b' o' hh=>by have:=lC.out.1 b' o' hh;omega) _ _ _ _ _ _,jq sV (fun b' o' hh=>by have:=wE.out.1 b' o' hh;omega) _ _ _ _ _ _,HI.out.2.2.2.2.1,HI.out.2.2.2.2.2,HI.out.1,HI.out.2.1,(by first|exact HI.out.2.2.1|exact HI.out.2.2.2.1),lC.out.2,wE.out.2⟩),⟨fun b' o' hh=>by have:=lC.out.1 b' o' hh;omega,fun b' o' hh=>by have:=wE.out.1 b' o' hh;omega⟩,bQ⟩;obtain⟨m0,m1,m2,m3,m4,m5⟩:=HM.out
 simp[results,results190,go_sem,m0,m1,m2,m3,m4,m5]
theorem JG(a b:Rq)(w:World)(ga:bz a)(gb:bz b)(ha:a.At w)(hb:b.At w)(h2:gy a b=true)(hm:b.born<a.born)(D:List ByteArray)(hD:Hid (D=a.data++b.data))(G:List Int)(hG:Hid (G=a.tags++b.tags)) :
 Calls prog 190 #[b.val,a.val] w fun e w'=>∃q:Rq,e=.returned (.tuple #[q.val,.bool true])/\j6 a b q/\q.At w'/\sn q w.heap.size/\bL w w':=by
 obtain⟨x1,x2,x3,x4,x5⟩:=ga.mi;obtain⟨y1,y2,y3,y4,y5⟩:=gb.mi;have OR:=ga.t4;have OS:=gb.t4;have ad4:=ga.d4;have bd4:=gb.d4;obtain⟨c1,c2,c3,c4⟩:=sh.1 h2;have h1:(a.f+a.m==b.f)=true:=by rw[ac3];exact c1
 have g1:(a.f+a.m != b.f)=false:=by rw[ace];exact c1
 have g2:(a.wr != b.wr)=false:=by rw[ace];exact c2
 have g3:decide (4<a.m+b.m)=false:=aa9 oM;have g4:(a.tags.length:Int)+(b.tags.length:Int)<=4:=oM;have HI:Hid (cH a.f/\cH (a.m+b.m)/\cH a.born/\cH b.born/\D.length<=9223372036854775807/\G.length<=9223372036854775807):=by
  refine⟨ha.f,⟨oM,oM⟩,ha.born,hb.born,?_,?_⟩
  ·rw[hD.out,aaQ];omega
  ·rw[hG.out,aaQ];omega
 obtain⟨iS,zv,r6,BP,wR⟩:=eS yr;obtain⟨iI,xZ,BL,BM,BN⟩:=eS Ax;have HW:=dr c2;clear c1 h2 c2;go_enter func190,ntmps190;go_wp2_with fail;refine qi (fun wx=>bj wx w.heap.size { a with wr:=b.wr }/\bj wx (w.heap.size+1) b/\aZ wx (w.heap.size+1+1)/\aZ wx (w.heap.size+1+1+1)/\nP wx (w.heap.size+1+1+1) (.bool b.wr) (i6 a.f) (i6 (a.m+b.m)) (.slice none 0 0) (.slice none 0 0) (i6 b.born)/\bL w wx/\w.heap.size+4<=wx.heap.size) ⟨(by refine⟨?_,?_,?_,?_,?_,?_⟩<;>simp[go_sem]),(by refine⟨?_,?_,?_,?_,?_,?_⟩<;>simp[go_sem]),⟨⟨bF (v:=.bool false) (by simp[go_sem]),bF (v:=i6 0) (by simp[go_sem]),bF (v:=i6 0) (by simp[go_sem]),bF (v:=.slice none 0 0) (by simp[go_sem]),bF (v:=.slice none 0 0) (by simp[go_sem]),bF (v:=i6 0) (by simp[go_sem])⟩,(by refine⟨?_,?_,?_,?_,?_,?_⟩<;>simp[go_sem])⟩,Jt sM _ _ _ _ _ _ _,Il sM _ _ _ _ _ _ _,bQ,sM⟩ ?_;rintro wx ⟨S1,S2,Z2,Z3,C3,HB,oN⟩;have zx:=Z3.1.2.2.2.1;have fx:=Z3.2.2.2.2.1;obtain⟨p0,p1,p2,p3,p4,p5⟩:=id S1;obtain⟨q0,q1,q2,q3,q4,q5⟩:=id S2
 go_region_held3 (fun w'=>w'.cell? ⟨w.heap.size,3,none⟩=some (.slice a.da a.data.length a.dc)/\w'.cell? ⟨w.heap.size+1,3,none⟩=some (.slice b.da b.data.length b.dc)/\w'.cell? ⟨w.heap.size+1+1+1,3,none⟩=some (df w' ⟨w.heap.size+1+1+1,3,none⟩)/\w'.frozen? ⟨w.heap.size+1+1+1,3,none⟩=false) (exact⟨(show bj _ w.heap.size { a with wr:=b.wr } by repeat(first|with_reducible exact S1|with_reducible refine bj.drew ?_|with_reducible refine bj.alloc ?_ _|with_reducible refine bj.later ?_ aM|with_reducible refine bj.eG ?_ aM (by(try simp);omega)|with_reducible refine bj.set ?_ oM _)).2.2.2.1,(show bj _ (w.heap.size+1) b by repeat(first|with_reducible exact S2|with_reducible refine bj.drew ?_|with_reducible refine bj.alloc ?_ _|with_reducible refine bj.later ?_ aM|with_reducible refine bj.eG ?_ aM (by(try simp);omega)|with_reducible refine bj.set ?_ oM _)).2.2.2.1,(show aZ _ (w.heap.size+1+1+1) by repeat(first|with_reducible exact Z3|with_reducible refine aZ.drew ?_|with_reducible refine aZ.alloc ?_ _|with_reducible refine aZ.later ?_ aM|with_reducible refine aZ.eG ?_ aM (by(try simp);omega)|with_reducible refine aZ.set ?_ _ _)).1.2.2.2.1,(show aZ _ (w.heap.size+1+1+1) by repeat(first|with_reducible exact Z3|with_reducible refine aZ.drew ?_|with_reducible refine aZ.alloc ?_ _|with_reducible refine aZ.later ?_ aM|with_reducible refine aZ.eG ?_ aM (by(try simp);omega)|with_reducible refine aZ.set ?_ _ _)).2.2.2.2.1⟩) (first|(refine eM (by rfl) (.const (.slice none 0 0)) (.tmp 79) 51 (by rfl) wx.heap.size 9 iS _ 1 16 underlying51 zv r6 BP wR rfl dM (.slice none 0 0) 0 [] (by rfl) (abg _ _ _ _) a.da a.data.length a.dc (a.data.map .string) (by simp[Act.eval,Act.put]) ((ha.data.later bQ).row ha.dn) (by unfold maxLen;omega) oM sM ?_;intro v1 w4 aO aw;rw[abc,abJ] at aO;have eA:bL wx w4:=adh bQ aw)|(refine eM (by rfl) (.tmp 80) (.tmp 82) 51 (by rfl) wx.heap.size 9 iS _ 1 16 underlying51 zv r6 BP wR rfl dM v1 a.data.length (a.data.map .string) (by simp[Act.eval,Act.put]) (by first|exact aO|exact iy aO) b.da b.data.length b.dc (b.data.map .string) (by simp[Act.eval,Act.put]) ((hb.data.later bQ).row hb.dn) (by unfold maxLen;omega) oM (by have:=eA.size;(try simp);omega) ?_;intro v2 w5 aT aC;have cY:bL wx w5:=(by first|exact eA.trans aC|exact eA.drew.trans aC);rw[<-aca,<-hD.out] at aT;obtain⟨da,dc,rfl,lR,nV,wV⟩:=mx aT (by rw[hD.out,aaQ])))
 have qf:=cY.size;clear p0 p1 p2 p3 p4 p5 q0 q1 q2 q3 q4 q5 zx fx;go_wp2_with fail;refine qi (fun wy=>bj wy w.heap.size { a with wr:=b.wr }/\bj wy (w.heap.size+1) b/\aZ wy (w.heap.size+1+1)/\aZ wy (w.heap.size+1+1+1)/\nP wy (w.heap.size+1+1+1) (.bool b.wr) (i6 a.f) (i6 (a.m+b.m)) (.slice da D.length dc) (.slice none 0 0) (i6 b.born)/\StrsAt wy da D/\bL w wy/\wx.heap.size<=wy.heap.size)
  ⟨(S1.later cY).set oM _,(S2.later cY).set oM _,(Z2.later cY).set _ _,(Z3.later cY).set _ _,(C3.later cY).Rg _,lR.set (fun b' o' hh=>by have:=wV b' o' hh;omega) _,al (af HB cY) oM _,by rw[adk];exact qf⟩ ?_
 have lC:=dr (⟨wV,nV⟩:_/\_);clear S1 S2 Z2 Z3 C3 HB aO aw eA aC cY aT lR nV wV qf;rintro wy ⟨S1,S2,Z2,Z3,C3,lR,HB,hwy⟩;have zx:=Z3.1.2.2.2.2.1;have fx:=Z3.2.2.2.2.2.1;obtain⟨p0,p1,p2,p3,p4,p5⟩:=id S1;obtain⟨q0,q1,q2,q3,q4,q5⟩:=id S2
 go_region_held3 (fun w'=>w'.cell? ⟨w.heap.size,4,none⟩=some (.slice a.ta a.tags.length a.tc)/\w'.cell? ⟨w.heap.size+1,4,none⟩=some (.slice b.ta b.tags.length b.tc)/\w'.cell? ⟨w.heap.size+1+1+1,4,none⟩=some (df w' ⟨w.heap.size+1+1+1,4,none⟩)/\w'.frozen? ⟨w.heap.size+1+1+1,4,none⟩=false) (exact⟨(show bj _ w.heap.size { a with wr:=b.wr } by repeat(first|with_reducible exact S1|with_reducible refine bj.drew ?_|with_reducible refine bj.alloc ?_ _|with_reducible refine bj.later ?_ aM|with_reducible refine bj.eG ?_ aM (by(try simp);omega)|with_reducible refine bj.set ?_ oM _)).2.2.2.2.1,(show bj _ (w.heap.size+1) b by repeat(first|with_reducible exact S2|with_reducible refine bj.drew ?_|with_reducible refine bj.alloc ?_ _|with_reducible refine bj.later ?_ aM|with_reducible refine bj.eG ?_ aM (by(try simp);omega)|with_reducible refine bj.set ?_ oM _)).2.2.2.2.1,(show aZ _ (w.heap.size+1+1+1) by repeat(first|with_reducible exact Z3|with_reducible refine aZ.drew ?_|with_reducible refine aZ.alloc ?_ _|with_reducible refine aZ.later ?_ aM|with_reducible refine aZ.eG ?_ aM (by(try simp);omega)|with_reducible refine aZ.set ?_ _ _)).1.2.2.2.2.1,(show aZ _ (w.heap.size+1+1+1) by repeat(first|with_reducible exact Z3|with_reducible refine aZ.drew ?_|with_reducible refine aZ.alloc ?_ _|with_reducible refine aZ.later ?_ aM|with_reducible refine aZ.eG ?_ aM (by(try simp);omega)|with_reducible refine aZ.set ?_ _ _)).2.2.2.2.2.1⟩) (first|(refine eM (by rfl) (.const (.slice none 0 0)) (.tmp 86) 122 (by rfl) wy.heap.size 3 iI _ 1 8 underlying122 xZ BL BM BN rfl dM (.slice none 0 0) 0 [] (by rfl) (abg _ _ _ _) a.ta a.tags.length a.tc (a.tags.map (.int .i64)) (by simp[Act.eval,Act.put]) ((ha.tags.later bQ).row ha.tn) (by unfold maxLen;omega) oM sM ?_;intro v1 w6 aO aw;rw[abc,abJ] at aO;have eA:bL wy w6:=adh bQ aw)|(refine eM (by rfl) (.tmp 87) (.tmp 89) 122 (by rfl) wy.heap.size 3 iI _ 1 8 underlying122 xZ BL BM BN rfl dM v1 a.tags.length (a.tags.map (.int .i64)) (by simp[Act.eval,Act.put]) (by first|exact aO|exact iy aO) b.ta b.tags.length b.tc (b.tags.map (.int .i64)) (by simp[Act.eval,Act.put]) ((hb.tags.later bQ).row hb.tn) (by unfold maxLen;omega) oM (by have:=eA.size;(try simp);omega) ?_;intro v2 w7 aT aC;have cY:bL wy w7:=(by first|exact eA.trans aC|exact eA.drew.trans aC);rw[<-aca,<-hG.out] at aT;obtain⟨ta,tc,rfl,sV,zA,xi⟩:=kP aT (by rw[hG.out,aaQ])))
 have qf:=cY.size;clear p0 p1 p2 p3 p4 p5 q0 q1 q2 q3 q4 q5 zx fx;refine rV (F:=fun w=>Exit.then _ _ Exit.normal _ w) (fun wz=>aZ wz (w.heap.size+1+1)/\nP wz (w.heap.size+1+1+1) (.bool b.wr) (i6 a.f) (i6 (a.m+b.m)) (.slice da D.length dc) (.slice ta G.length tc) (i6 b.born)/\StrsAt wz da D/\eF wz ta G/\bL w wz/\wy.heap.size<=wz.heap.size)
  ⟨(Z2.later cY).set _ _,(C3.later cY).Ct _,(lR.later cY).set (fun b' o' hh=>by have:=lC.out.1 b' o' hh;omega) _,sV.set (fun b' o' hh=>by have:=xi b' o' hh;omega) _,al (af HB cY) oM _,by rw[adk];exact qf⟩ ?_
 have wE:=dr (⟨xi,zA⟩:_/\_);clear S1 S2 Z2 Z3 C3 HB aO aw eA aC cY aT lR sV zA xi qf;rintro wz ⟨Z2,C3,lR,sV,HB,Ls⟩;obtain⟨k0,k1,k2,k3,k4,k5⟩:=id C3;obtain⟨⟨z0,z1,z2,z3,z4,z5⟩,⟨f0,f1,f2,f3,f4,f5⟩⟩:=id Z2;obtain⟨m0,m1,m2,m3,m4,m5⟩:=gj Z2 (.bool b.wr) (i6 a.f) (i6 (a.m+b.m)) (.slice da D.length dc) (.slice ta G.length tc) (i6 b.born);unfold eC at m0 m1 m2 m3 m4 m5;have HM:=dr (⟨m0,m1,m2,m3,m4,m5⟩:_/\_/\_/\_/\_/\_);clear m0 m1 m2 m3 m4 m5;go_wp2;refine aaY (v:=.tuple #[(Rq.mk b.wr a.f (a.m+b.m) da dc D ta tc G b.born).val,.bool true]) ?_ rfl ⟨_,rfl,⟨HW.out.symm,rfl,rfl,hD.out,hG.out,(by simp only;omega)⟩,(show Rq.At _ (eC wz (w.heap.size+1+1) _ _ _ _ _ _) from⟨jr lR (fun b' o' hh=>by have:=lC.out.1 b' o' hh;omega) _ _ _ _ _ _,jq sV (fun b' o' hh=>by have:=wE.out.1 b' o' hh;omega) _ _ _ _ _ _,HI.out.2.2.2.2.1,HI.out.2.2.2.2.2,HI.out.1,HI.out.2.1,(by first|exact HI.out.2.2.1|exact HI.out.2.2.2.1),lC.out.2,wE.out.2⟩),⟨fun b' o' hh=>by have:=lC.out.1 b' o' hh;omega,fun b' o' hh=>by have:=wE.out.1 b' o' hh;omega⟩,bQ⟩;obtain⟨m0,m1,m2,m3,m4,m5⟩:=HM.out
 simp[results,results190,go_sem,m0,m1,m2,m3,m4,m5]
theorem JH(a b:Rq)(w:World)(ga:bz a)(gb:bz b)(ha:a.At w)(hb:b.At w)(h2:gy a b=true)(hm:¬b.born<a.born)(D:List ByteArray)(hD:Hid (D=a.data++b.data))(G:List Int)(hG:Hid (G=a.tags++b.tags)) :
 Calls prog 190 #[b.val,a.val] w fun e w'=>∃q:Rq,e=.returned (.tuple #[q.val,.bool true])/\j6 a b q/\q.At w'/\sn q w.heap.size/\bL w w':=by
 obtain⟨x1,x2,x3,x4,x5⟩:=ga.mi;obtain⟨y1,y2,y3,y4,y5⟩:=gb.mi;have OR:=ga.t4;have OS:=gb.t4;have ad4:=ga.d4;have bd4:=gb.d4;obtain⟨c1,c2,c3,c4⟩:=sh.1 h2;have h1:(a.f+a.m==b.f)=true:=by rw[ac3];exact c1
 have g1:(a.f+a.m != b.f)=false:=by rw[ace];exact c1
 have g2:(a.wr != b.wr)=false:=by rw[ace];exact c2
 have g3:decide (4<a.m+b.m)=false:=aa9 oM;have g4:(a.tags.length:Int)+(b.tags.length:Int)<=4:=oM;have HI:Hid (cH a.f/\cH (a.m+b.m)/\cH a.born/\cH b.born/\D.length<=9223372036854775807/\G.length<=9223372036854775807):=by
  refine⟨ha.f,⟨oM,oM⟩,ha.born,hb.born,?_,?_⟩
  ·rw[hD.out,aaQ];omega
  ·rw[hG.out,aaQ];omega
 obtain⟨iS,zv,r6,BP,wR⟩:=eS yr;obtain⟨iI,xZ,BL,BM,BN⟩:=eS Ax;have HW:=dr c2;clear c1 h2 c2;go_enter func190,ntmps190;go_wp2_with fail;refine qi (fun wx=>bj wx w.heap.size { a with wr:=b.wr }/\bj wx (w.heap.size+1) b/\aZ wx (w.heap.size+1+1)/\aZ wx (w.heap.size+1+1+1)/\nP wx (w.heap.size+1+1+1) (.bool b.wr) (i6 a.f) (i6 (a.m+b.m)) (.slice none 0 0) (.slice none 0 0) (i6 a.born)/\bL w wx/\w.heap.size+4<=wx.heap.size) ⟨(by refine⟨?_,?_,?_,?_,?_,?_⟩<;>simp[go_sem]),(by refine⟨?_,?_,?_,?_,?_,?_⟩<;>simp[go_sem]),⟨⟨bF (v:=.bool false) (by simp[go_sem]),bF (v:=i6 0) (by simp[go_sem]),bF (v:=i6 0) (by simp[go_sem]),bF (v:=.slice none 0 0) (by simp[go_sem]),bF (v:=.slice none 0 0) (by simp[go_sem]),bF (v:=i6 0) (by simp[go_sem])⟩,(by refine⟨?_,?_,?_,?_,?_,?_⟩<;>simp[go_sem])⟩,Jt sM _ _ _ _ _ _ _,Il sM _ _ _ _ _ _ _,bQ,sM⟩ ?_;rintro wx ⟨S1,S2,Z2,Z3,C3,HB,oN⟩;have zx:=Z3.1.2.2.2.1;have fx:=Z3.2.2.2.2.1;obtain⟨p0,p1,p2,p3,p4,p5⟩:=id S1;obtain⟨q0,q1,q2,q3,q4,q5⟩:=id S2
 go_region_held3 (fun w'=>w'.cell? ⟨w.heap.size,3,none⟩=some (.slice a.da a.data.length a.dc)/\w'.cell? ⟨w.heap.size+1,3,none⟩=some (.slice b.da b.data.length b.dc)/\w'.cell? ⟨w.heap.size+1+1+1,3,none⟩=some (df w' ⟨w.heap.size+1+1+1,3,none⟩)/\w'.frozen? ⟨w.heap.size+1+1+1,3,none⟩=false) (exact⟨(show bj _ w.heap.size { a with wr:=b.wr } by repeat(first|with_reducible exact S1|with_reducible refine bj.drew ?_|with_reducible refine bj.alloc ?_ _|with_reducible refine bj.later ?_ aM|with_reducible refine bj.eG ?_ aM (by(try simp);omega)|with_reducible refine bj.set ?_ oM _)).2.2.2.1,(show bj _ (w.heap.size+1) b by repeat(first|with_reducible exact S2|with_reducible refine bj.drew ?_|with_reducible refine bj.alloc ?_ _|with_reducible refine bj.later ?_ aM|with_reducible refine bj.eG ?_ aM (by(try simp);omega)|with_reducible refine bj.set ?_ oM _)).2.2.2.1,(show aZ _ (w.heap.size+1+1+1) by repeat(first|with_reducible exact Z3|with_reducible refine aZ.drew ?_|with_reducible refine aZ.alloc ?_ _|with_reducible refine aZ.later ?_ aM|with_reducible refine aZ.eG ?_ aM (by(try simp);omega)|with_reducible refine aZ.set ?_ _ _)).1.2.2.2.1,(show aZ _ (w.heap.size+1+1+1) by repeat(first|with_reducible exact Z3|with_reducible refine aZ.drew ?_|with_reducible refine aZ.alloc ?_ _|with_reducible refine aZ.later ?_ aM|with_reducible refine aZ.eG ?_ aM (by(try simp);omega)|with_reducible refine aZ.set ?_ _ _)).2.2.2.2.1⟩) (first|(refine eM (by rfl) (.const (.slice none 0 0)) (.tmp 79) 51 (by rfl) wx.heap.size 9 iS _ 1 16 underlying51 zv r6 BP wR rfl dM (.slice none 0 0) 0 [] (by rfl) (abg _ _ _ _) a.da a.data.length a.dc (a.data.map .string) (by simp[Act.eval,Act.put]) ((ha.data.later bQ).row ha.dn) (by unfold maxLen;omega) oM sM ?_;intro v1 w4 aO aw;rw[abc,abJ] at aO;have eA:bL wx w4:=adh bQ aw)|(refine eM (by rfl) (.tmp 80) (.tmp 82) 51 (by rfl) wx.heap.size 9 iS _ 1 16 underlying51 zv r6 BP wR rfl dM v1 a.data.length (a.data.map .string) (by simp[Act.eval,Act.put]) (by first|exact aO|exact iy aO) b.da b.data.length b.dc (b.data.map .string) (by simp[Act.eval,Act.put]) ((hb.data.later bQ).row hb.dn) (by unfold maxLen;omega) oM (by have:=eA.size;(try simp);omega) ?_;intro v2 w5 aT aC;have cY:bL wx w5:=(by first|exact eA.trans aC|exact eA.drew.trans aC);rw[<-aca,<-hD.out] at aT;obtain⟨da,dc,rfl,lR,nV,wV⟩:=mx aT (by rw[hD.out,aaQ])))
 have qf:=cY.size;clear p0 p1 p2 p3 p4 p5 q0 q1 q2 q3 q4 q5 zx fx;go_wp2_with fail;refine qi (fun wy=>bj wy w.heap.size { a with wr:=b.wr }/\bj wy (w.heap.size+1) b/\aZ wy (w.heap.size+1+1)/\aZ wy (w.heap.size+1+1+1)/\nP wy (w.heap.size+1+1+1) (.bool b.wr) (i6 a.f) (i6 (a.m+b.m)) (.slice da D.length dc) (.slice none 0 0) (i6 a.born)/\StrsAt wy da D/\bL w wy/\wx.heap.size<=wy.heap.size)
  ⟨(S1.later cY).set oM _,(S2.later cY).set oM _,(Z2.later cY).set _ _,(Z3.later cY).set _ _,(C3.later cY).Rg _,lR.set (fun b' o' hh=>by have:=wV b' o' hh;omega) _,al (af HB cY) oM _,by rw[adk];exact qf⟩ ?_
 have lC:=dr (⟨wV,nV⟩:_/\_);clear S1 S2 Z2 Z3 C3 HB aO aw eA aC cY aT lR nV wV qf;rintro wy ⟨S1,S2,Z2,Z3,C3,lR,HB,hwy⟩;have zx:=Z3.1.2.2.2.2.1;have fx:=Z3.2.2.2.2.2.1;obtain⟨p0,p1,p2,p3,p4,p5⟩:=id S1;obtain⟨q0,q1,q2,q3,q4,q5⟩:=id S2
 go_region_held3 (fun w'=>w'.cell? ⟨w.heap.size,4,none⟩=some (.slice a.ta a.tags.length a.tc)/\w'.cell? ⟨w.heap.size+1,4,none⟩=some (.slice b.ta b.tags.length b.tc)/\w'.cell? ⟨w.heap.size+1+1+1,4,none⟩=some (df w' ⟨w.heap.size+1+1+1,4,none⟩)/\w'.frozen? ⟨w.heap.size+1+1+1,4,none⟩=false) (exact⟨(show bj _ w.heap.size { a with wr:=b.wr } by repeat(first|with_reducible exact S1|with_reducible refine bj.drew ?_|with_reducible refine bj.alloc ?_ _|with_reducible refine bj.later ?_ aM|with_reducible refine bj.eG ?_ aM (by(try simp);omega)|with_reducible refine bj.set ?_ oM _)).2.2.2.2.1,(show bj _ (w.heap.size+1) b by repeat(first|with_reducible exact S2|with_reducible refine bj.drew ?_|with_reducible refine bj.alloc ?_ _|with_reducible refine bj.later ?_ aM|with_reducible refine bj.eG ?_ aM (by(try simp);omega)|with_reducible refine bj.set ?_ oM _)).2.2.2.2.1,(show aZ _ (w.heap.size+1+1+1) by repeat(first|with_reducible exact Z3|with_reducible refine aZ.drew ?_|with_reducible refine aZ.alloc ?_ _|with_reducible refine aZ.later ?_ aM|with_reducible refine aZ.eG ?_ aM (by(try simp);omega)|with_reducible refine aZ.set ?_ _ _)).1.2.2.2.2.1,(show aZ _ (w.heap.size+1+1+1) by repeat(first|with_reducible exact Z3|with_reducible refine aZ.drew ?_|with_reducible refine aZ.alloc ?_ _|with_reducible refine aZ.later ?_ aM|with_reducible refine aZ.eG ?_ aM (by(try simp);omega)|with_reducible refine aZ.set ?_ _ _)).2.2.2.2.2.1⟩) (first|(refine eM (by rfl) (.const (.slice none 0 0)) (.tmp 86) 122 (by rfl) wy.heap.size 3 iI _ 1 8 underlying122 xZ BL BM BN rfl dM (.slice none 0 0) 0 [] (by rfl) (abg _ _ _ _) a.ta a.tags.length a.tc (a.tags.map (.int .i64)) (by simp[Act.eval,Act.put]) ((ha.tags.later bQ).row ha.tn) (by unfold maxLen;omega) oM sM ?_;intro v1 w6 aO aw;rw[abc,abJ] at aO;have eA:bL wy w6:=adh bQ aw)|(refine eM (by rfl) (.tmp 87) (.tmp 89) 122 (by rfl) wy.heap.size 3 iI _ 1 8 underlying122 xZ BL BM BN rfl dM v1 a.tags.length (a.tags.map (.int .i64)) (by simp[Act.eval,Act.put]) (by first|exact aO|exact iy aO) b.ta b.tags.length b.tc (b.tags.map (.int .i64)) (by simp[Act.eval,Act.put]) ((hb.tags.later bQ).row hb.tn) (by unfold maxLen;omega) oM (by have:=eA.size;(try simp);omega) ?_;intro v2 w7 aT aC;have cY:bL wy w7:=(by first|exact eA.trans aC|exact eA.drew.trans aC);rw[<-aca,<-hG.out] at aT;obtain⟨ta,tc,rfl,sV,zA,xi⟩:=kP aT (by rw[hG.out,aaQ])))
 have qf:=cY.size;clear p0 p1 p2 p3 p4 p5 q0 q1 q2 q3 q4 q5 zx fx;refine rV (F:=fun w=>Exit.then _ _ Exit.normal _ w) (fun wz=>aZ wz (w.heap.size+1+1)/\nP wz (w.heap.size+1+1+1) (.bool b.wr) (i6 a.f) (i6 (a.m+b.m)) (.slice da D.length dc) (.slice ta G.length tc) (i6 a.born)/\StrsAt wz da D/\eF wz ta G/\bL w wz/\wy.heap.size<=wz.heap.size)
  ⟨(Z2.later cY).set _ _,(C3.later cY).Ct _,(lR.later cY).set (fun b' o' hh=>by have:=lC.out.1 b' o' hh;omega) _,sV.set (fun b' o' hh=>by have:=xi b' o' hh;omega) _,al (af HB cY) oM _,by rw[adk];exact qf⟩ ?_
 have wE:=dr (⟨xi,zA⟩:_/\_);clear S1 S2 Z2 Z3 C3 HB aO aw eA aC cY aT lR sV zA xi qf;rintro wz ⟨Z2,C3,lR,sV,HB,Ls⟩;obtain⟨k0,k1,k2,k3,k4,k5⟩:=id C3;obtain⟨⟨z0,z1,z2,z3,z4,z5⟩,⟨f0,f1,f2,f3,f4,f5⟩⟩:=id Z2;obtain⟨m0,m1,m2,m3,m4,m5⟩:=gj Z2 (.bool b.wr) (i6 a.f) (i6 (a.m+b.m)) (.slice da D.length dc) (.slice ta G.length tc) (i6 a.born);unfold eC at m0 m1 m2 m3 m4 m5;have HM:=dr (⟨m0,m1,m2,m3,m4,m5⟩:_/\_/\_/\_/\_/\_);clear m0 m1 m2 m3 m4 m5;go_wp2;refine aaY (v:=.tuple #[(Rq.mk b.wr a.f (a.m+b.m) da dc D ta tc G a.born).val,.bool true]) ?_ rfl ⟨_,rfl,⟨HW.out.symm,rfl,rfl,hD.out,hG.out,(by simp only;omega)⟩,(show Rq.At _ (eC wz (w.heap.size+1+1) _ _ _ _ _ _) from⟨jr lR (fun b' o' hh=>by have:=lC.out.1 b' o' hh;omega) _ _ _ _ _ _,jq sV (fun b' o' hh=>by have:=wE.out.1 b' o' hh;omega) _ _ _ _ _ _,HI.out.2.2.2.2.1,HI.out.2.2.2.2.2,HI.out.1,HI.out.2.1,(by first|exact HI.out.2.2.1|exact HI.out.2.2.2.1),lC.out.2,wE.out.2⟩),⟨fun b' o' hh=>by have:=lC.out.1 b' o' hh;omega,fun b' o' hh=>by have:=wE.out.1 b' o' hh;omega⟩,bQ⟩;obtain⟨m0,m1,m2,m3,m4,m5⟩:=HM.out
 simp[results,results190,go_sem,m0,m1,m2,m3,m4,m5]
theorem Xy(o r:Rq)(w:World)(go:bz o)(gr:bz r)(ho:o.At w)(hr:r.At w)(h:jx o r=true) :
 Calls prog 190 #[o.val,r.val] w fun e w'=>∃q:Rq,e=.returned (.tuple #[q.val,.bool true])/\xJ o r q/\q.At w'/\sn q w.heap.size/\bL w w':=by
 cases h1:gy o r
 ·have h2:gy r o=true:=by simpa [jx,h1] using h
  rcases agP (o.born<r.born) with hm|hm
  ·exact(JG r o w gr go hr ho h2 hm _ rfl _ rfl).mono fun e w' ⟨q,he,hq,ha,hf,hb⟩=>⟨q,he,ir ⟨h1,h2,hq⟩,ha,hf,hb⟩
  ·exact(JH r o w gr go hr ho h2 hm _ rfl _ rfl).mono fun e w' ⟨q,he,hq,ha,hf,hb⟩=>⟨q,he,ir ⟨h1,h2,hq⟩,ha,hf,hb⟩
 ·rcases agP (r.born<o.born) with hm|hm
  ·exact(Mi o r w go gr ho hr h1 hm _ rfl _ rfl).mono fun e w' ⟨q,he,hq,ha,hf,hb⟩=>⟨q,he,il ⟨h1,hq⟩,ha,hf,hb⟩
  ·exact(Mj o r w go gr ho hr h1 hm _ rfl _ rfl).mono fun e w' ⟨q,he,hq,ha,hf,hb⟩=>⟨q,he,il ⟨h1,hq⟩,ha,hf,hb⟩
theorem Xz(o r:Rq)(w:World)(go:bz o)(gr:bz r)(h:jx o r=false) :
 Calls prog 190 #[o.val,r.val] w (rB (.tuple #[nh,.bool false]) w):=by
 simp only[jx,afe] at h
 cases h1:(r.f+r.m==o.f)
 ·exact QX o r w go gr h1 h.1
 ·exact NH r o w gr go h1 h.2
def lN(w:World)(b p:Nat)(q:Rq):Prop :=
 w.cell? ⟨b,p,none⟩=some (.bool q.wr)/\w.cell? ⟨b,p+1,none⟩=some (i6 q.f)/\w.cell? ⟨b,p+2,none⟩=some (i6 q.m)/\w.cell? ⟨b,p+3,none⟩=some (.slice q.da q.data.length q.dc)/\w.cell? ⟨b,p+4,none⟩=some (.slice q.ta q.tags.length q.tc)/\w.cell? ⟨b,p+5,none⟩=some (i6 q.born)
theorem lN.later{w w':World}{b p:Nat}{q:Rq}(h:lN w b p q)(hb:bL w w'):lN w' b p q:=by
 obtain⟨h0,h1,h2,h3,h4,h5⟩:=h;exact⟨ea hb h0,ea hb h1,ea hb h2,ea hb h3,ea hb h4,ea hb h5⟩
theorem lN.drew{w:World}{b p:Nat}{q:Rq}(h:lN w b p q):lN w.drew b p q:=h
theorem lN.alloc{w:World}{b p:Nat}{q:Rq}(h:lN w b p q)(x:Obj):lN (w.alloc x) b p q:=h.later (aA w x)
theorem lN.set{w:World}{b p:Nat}{q:Rq}(h:lN w b p q){c o:Nat}(hn:b ≠ c)(u:Value):lN (w.setCell ⟨c,o,none⟩ u) b p q:=by
 obtain⟨h0,h1,h2,h3,h4,h5⟩:=h;have k:∀i,(w.setCell ⟨c,o,none⟩ u).cell? ⟨b,i,none⟩=w.cell? ⟨b,i,none⟩:=fun i=>aa6 _ _ _ _ (fun e=>hn (by injection e with e _;exact e.symm))
 exact⟨(k _).trans h0,(k _).trans h1,(k _).trans h2,(k _).trans h3,(k _).trans h4,(k _).trans h5⟩
theorem np.later{base:Nat}{w w':World}{a:Option Addr}{c:Nat}{l:List Rq}(h:np base w a c l)(hb:bL w w'):np base w' a c l :=
 ⟨h.here.later hb,h.cap,h.KF,h.nil,mI h.own hb⟩
theorem QL{w w1:World}{v0 v1 v2 v3 v4 v5:Value}{T:TypeId}(HB:Below (w.alloc (.cells #[v0,v1,v2,v3,v4,v5] T)).heap.size (w.alloc (.cells #[v0,v1,v2,v3,v4,v5] T)) w1) :
 nP w1 w.heap.size v0 v1 v2 v3 v4 v5/\(w1.frozen? ⟨w.heap.size,0,none⟩=false/\w1.frozen? ⟨w.heap.size,1,none⟩=false/\w1.frozen? ⟨w.heap.size,2,none⟩=false/\w1.frozen? ⟨w.heap.size,3,none⟩=false/\w1.frozen? ⟨w.heap.size,4,none⟩=false/\w1.frozen? ⟨w.heap.size,5,none⟩=false) :=
 ⟨(GM w T v0 v1 v2 v3 v4 v5).later HB,((Dd w T v0 v1 v2 v3 v4 v5).later HB).2⟩
theorem Ut{w w1:World}{v0 v1 v2 v3 v4 v5:Value}{T:TypeId}(HB:Below (w.alloc (.cells #[v0,v1,v2,v3,v4,v5] T)).drew.heap.size (w.alloc (.cells #[v0,v1,v2,v3,v4,v5] T)).drew w1) :
 nP w1 w.heap.size v0 v1 v2 v3 v4 v5/\(w1.frozen? ⟨w.heap.size,0,none⟩=false/\w1.frozen? ⟨w.heap.size,1,none⟩=false/\w1.frozen? ⟨w.heap.size,2,none⟩=false/\w1.frozen? ⟨w.heap.size,3,none⟩=false/\w1.frozen? ⟨w.heap.size,4,none⟩=false/\w1.frozen? ⟨w.heap.size,5,none⟩=false) :=
 QL (af (aj (aX _ _)) HB)
theorem Rq.At.vQ{q:Rq}{w:World}{b p B:Nat}{v0 v1 v2 v3 v4 v5:Value}(h:q.At w)(hf:sn q B)(hb:b<B):q.At (vQ w b p v0 v1 v2 v3 v4 v5):=by
 have n1:∀b' o,q.da=some ⟨b',o,none⟩->b' ≠ b:=fun b' o hh=>by have:=hf.1 b' o hh;omega
 have n2:∀b' o,q.ta=some ⟨b',o,none⟩->b' ≠ b:=fun b' o hh=>by have:=hf.2 b' o hh;omega
 exact⟨(((((h.data.set n1 v0).set n1 v1).set n1 v2).set n1 v3).set n1 v4).set n1 v5,(((((h.tags.set n2 v0).set n2 v1).set n2 v2).set n2 v3).set n2 v4).set n2 v5,h.dl,h.tl,h.f,h.m,h.born,h.dn,h.tn⟩
def JZ(base:Nat)(l:List Rq)(r:Rq)(L:List Rq):Prop :=
 (∃(k:Nat) (hk:k<l.length) (q:Rq),(∀j (hj:j<l.length),j<k->jx l[j] r=false)/\jx l[k] r=true/\xJ l[k] r q/\sn q base/\L=l.set k q) \/
 ((∀j (hj:j<l.length),jx l[j] r=false)/\l.length<6/\L=l++[r])
theorem DD{q:Rq}{n m:Nat}(h:sn q n)(hm:m<=n):sn q m:=⟨fun b o e=>abb hm (h.1 b o e),fun b o e=>abb hm (h.2 b o e)⟩
def Zs(base:Nat)(l:List Rq)(r:Rq)(w':World)(e:Ending):Prop :=
 (∃(L:List Rq) (a':Option Addr) (c':Nat),JZ base l r L/\e=.returned (.tuple #[.slice a' L.length c',i6 0])/\aW w' a' L/\n8 base a' c' L.length) \/
 ((∀j (hj:j<l.length),jx l[j] r=false)/\6<=l.length/\e=.returned (.tuple #[.slice none 0 0,i6 7]))
theorem L8(l:List Rq)(a:Option Addr)(c:Nat)(r:Rq)(w:World)(hl:aW w a l)(hn:a=none->c=0)(hr:r.At w)(mj:l.length<=1000)(gr:bz r)(gl:∀i (h:i<l.length),bz l[i]) :
 Calls prog 148 #[.slice a l.length c,r.val] w fun e w'=>((l.any (iX r)=true/\e=.returned (.tuple #[.slice none 0 0,i6 6]))\/(l.any (iX r)=false/\Zs w.heap.size l r w' e))/\bL w w':=by
 obtain⟨i,hi,de,cC,cF⟩:=eS uy;have HI:=dr (⟨hi,de,cC,cF⟩:prog.info? 146=some i/\_/\_/\_);clear hi de cC cF;have tE:=dr gl;clear gl;have hlen:=hl.2.2;go_enter func148,ntmps148;go_wp2_with fail;refine cM (QT r _ (hr.later (aA _ _)) 0 ((Ed r).2 gr)) ?_;intro w1 hb;have S:=(oy w 146 r).later hb;have aN:bL w w1:=bQ;have mG:=hl.later aN;clear hb;go_wp2_with fail
 go_loopw[7] (fun iv wr=>∃n:Nat,n<=l.length/\iv=i6 n/\(∀j (hj:j<l.length),j<n->iX r l[j]=false)/\bL w1 wr) (fun iv _=>l.length-(intOf iv).toNat)
 case atStart=>exact⟨0,oM,rfl,fun j hj h=>absurd h (aa0 _),aX _ _⟩
 case round =>
  obtain⟨n,yi,rfl,dV,HR⟩:=hrel;have HN:=dr dV;clear dV;have S2:=S.later HR;have pN:=mG.later HR;have bT:=af aN HR;obtain⟨s0,s1,s2,s3,s4,s5⟩:=id S2;have ls:=aq s0;have qv:=dr HR
  by_cases au:n<l.length
  ·have h0:l ≠ []:=by rintro rfl;exact absurd au (aa0 _)
   obtain⟨b,o,rfl⟩:=pN.form.resolve_left h0;obtain⟨c0,c1,c2,c3,c4,c5⟩:=pN.cells au;have lc:=aq c0;have k0:(0:Int)<=(n:Int):=oM;have k1:(n:Int)<(l.length:Int):=oM;have o1:=F6 (tE.out n au).ok;have o2:=F6 gr.ok;have HW:=dr bT;clear h0 HR aN bT mG pN
   cases hm:iX r l[n]
   ·go_wp2_with fail;refine wQ ?_
    repeat(go_big_quiet_step (first|exact rfl|(go_at_call 189;exact cg (Ja _ _ _ _ _ o1 o2 _ hm))))
    refine qE ?_;(try clear hc hf hz);(try clear HB);intro p HB hc hf hz;go_wp2;go_roundw
    case rel=>exact⟨n+1,oM,gN,fun j hj h=>by by_cases e:j=n;(subst e;exact hm);exact HN.out j hj oM,af qv.out HB⟩
    case measure=>simp[intOf];omega
   ·go_wp2_with fail;refine wQ ?_
    repeat(go_big_quiet_step (first|exact rfl|(go_at_call 189;exact cg (Ja _ _ _ _ _ o1 o2 _ hm))))
    refine qE ?_;(try clear hc hf hz);(try clear HB);intro p HB hc hf hz;go_wp2
    go_ret2
    exact⟨il ⟨by rw[afo];exact⟨l[n],aa5 au,hm⟩,rfl⟩,af HW.out HB⟩
  ·have acn:l.any (iX r)=false:=by
    rw[afZ];intro x hx;obtain⟨j,hj,rfl⟩:=abM hx;rw[HN.out j hj oM];exact aa7
   have HA:=dr acn;have aeM:=pN;clear acn HN HR qv S mG aN;obtain⟨hi,de,cC,cF⟩:=HI.out;have R:=pN.C7 hn;go_wp2_with(at_builtin;refine aP rfl _ _ 47 rfl wr.heap.size 146 i _ 6 80 underlying47 hi de cC cF rfl dM _ 0 [] rfl (abg _ _ _ _) a l.length c (a8 l) rfl R (by unfold maxLen;omega) oM (aaO _) ?_;intro v3 w3 bw bo);rw[abc,abJ] at bw;have fi:bL w w3:=af bT bo;obtain⟨a9,c9,rfl,hN⟩:=mw bw (fun r' dj=>(hl.2.1 r' dj).later fi) rfl oM;have S3:=S2.later bo;have ud:=bo.size;have hsw:=bT.size;clear hi de cC cF R bw S2 s0 s1 s2 s3 s4 s5 pN aeM bT;have jy:=dr hN;have OF:=dr (hN.newAt.mono (show w.heap.size<=wr.heap.size from hsw));clear hN;go_wp2_with fail;clear yi au ls
   go_loopw[10] (fun iv wq=>∃n:Nat,n<=l.length/\iv=i6 n/\(∀j (hj:j<l.length),j<n->jx l[j] r=false)/\bL w3 wq) (fun iv _=>l.length-(intOf iv).toNat)
   case atStart=>exact⟨0,oM,rfl,fun j hj h=>absurd h (aa0 _),aX _ _⟩
   case round =>
    obtain⟨n,yi,rfl,dV,HR⟩:=hrel;have HN:=dr dV;clear dV
    replace S3:=S3.later HR
    have jV:=af fi HR;have Tp:=hl.later jV;obtain⟨s0,s1,s2,s3,s4,s5⟩:=id S3;have ls:=aq s0;have qv:=dr HR
    by_cases au:n<l.length
    ·have h0:l ≠ []:=by rintro rfl;exact absurd au (aa0 _)
     have H0:=dr h0;obtain⟨b,o,rfl⟩:=Tp.form.resolve_left h0;obtain⟨c0,c1,c2,c3,c4,c5⟩:=Tp.cells au;have lc:=aq c0;have k0:(0:Int)<=(n:Int):=oM;have k1:(n:Int)<(l.length:Int):=oM;clear h0 HR;have SL:lN wr b (o+n*6) l[n]:=⟨c0,c1,c2,c3,c4,c5⟩
     cases ht:jx l[n] r
     ·go_wp2_with fail
      go_region_held3 (fun w'=>(w'.cell? ⟨b,o+n*6,none⟩=some (.bool l[n].wr)/\w'.cell? ⟨b,o+n*6+1,none⟩=some (i6 l[n].f)/\w'.cell? ⟨b,o+n*6+2,none⟩=some (i6 l[n].m)/\w'.cell? ⟨b,o+n*6+3,none⟩=some (.slice l[n].da l[n].data.length l[n].dc)/\w'.cell? ⟨b,o+n*6+4,none⟩=some (.slice l[n].ta l[n].tags.length l[n].tc)/\w'.cell? ⟨b,o+n*6+5,none⟩=some (i6 l[n].born))/\(w'.cell? ⟨w.heap.size,0,none⟩=some (.bool r.wr)/\w'.cell? ⟨w.heap.size,1,none⟩=some (i6 r.f)/\w'.cell? ⟨w.heap.size,2,none⟩=some (i6 r.m)/\w'.cell? ⟨w.heap.size,3,none⟩=some (.slice r.da r.data.length r.dc)/\w'.cell? ⟨w.heap.size,4,none⟩=some (.slice r.ta r.tags.length r.tc)/\w'.cell? ⟨w.heap.size,5,none⟩=some (i6 r.born))) (exact⟨(show lN _ b (o+n*6) l[n] by repeat(first|with_reducible exact SL|with_reducible refine lN.drew ?_|with_reducible refine lN.alloc ?_ _|with_reducible refine lN.later ?_ aM|with_reducible refine lN.set ?_ oM _)),(show bj _ w.heap.size r by repeat(first|with_reducible exact S3|with_reducible refine bj.drew ?_|with_reducible refine bj.alloc ?_ _|with_reducible refine bj.later ?_ aM|with_reducible refine bj.set ?_ oM _))⟩) (first|(go_at_call 190;refine cM (Xz l[n] r _ (tE.out n au) gr ht) ?_;intro w4 fk;have kX:=fk.size;(try simp at kX);(first|(have ZQ:=QL fk;obtain⟨⟨z0,z1,z2,z3,z4,z5⟩,⟨f0,f1,f2,f3,f4,f5⟩⟩:=ZQ;(try simp only[agx] at z0 z1 z2 z3 z4 z5 f0 f1 f2 f3 f4 f5))|(have ZQ:=Ut fk;obtain⟨⟨z0,z1,z2,z3,z4,z5⟩,⟨f0,f1,f2,f3,f4,f5⟩⟩:=ZQ;(try simp only[agx] at z0 z1 z2 z3 z4 z5 f0 f1 f2 f3 f4 f5))|skip)))
      all_goals
       go_wp2;go_roundw
       case rel=>exact⟨n+1,oM,gN,fun j hj h=>by by_cases e:j=n;(subst e;exact ht);exact HN.out j hj oM,af qv.out bQ⟩
       case measure=>simp[intOf];omega
     ·obtain⟨b9,rfl,hbb9,acH,acw⟩:=jy.out.place H0.out;have HFZ:=dr acw;have hsr:=qv.out.size;clear acw;go_wp2_with fail
      go_region_held3 (fun w'=>(w'.cell? ⟨b,o+n*6,none⟩=some (.bool l[n].wr)/\w'.cell? ⟨b,o+n*6+1,none⟩=some (i6 l[n].f)/\w'.cell? ⟨b,o+n*6+2,none⟩=some (i6 l[n].m)/\w'.cell? ⟨b,o+n*6+3,none⟩=some (.slice l[n].da l[n].data.length l[n].dc)/\w'.cell? ⟨b,o+n*6+4,none⟩=some (.slice l[n].ta l[n].tags.length l[n].tc)/\w'.cell? ⟨b,o+n*6+5,none⟩=some (i6 l[n].born))/\(w'.cell? ⟨w.heap.size,0,none⟩=some (.bool r.wr)/\w'.cell? ⟨w.heap.size,1,none⟩=some (i6 r.f)/\w'.cell? ⟨w.heap.size,2,none⟩=some (i6 r.m)/\w'.cell? ⟨w.heap.size,3,none⟩=some (.slice r.da r.data.length r.dc)/\w'.cell? ⟨w.heap.size,4,none⟩=some (.slice r.ta r.tags.length r.tc)/\w'.cell? ⟨w.heap.size,5,none⟩=some (i6 r.born))) (exact⟨(show lN _ b (o+n*6) l[n] by repeat(first|with_reducible exact SL|with_reducible refine lN.drew ?_|with_reducible refine lN.alloc ?_ _|with_reducible refine lN.later ?_ aM|with_reducible refine lN.set ?_ oM _)),(show bj _ w.heap.size r by repeat(first|with_reducible exact S3|with_reducible refine bj.drew ?_|with_reducible refine bj.alloc ?_ _|with_reducible refine bj.later ?_ aM|with_reducible refine bj.set ?_ oM _))⟩) (first|(go_at_call 190;refine(Xy l[n] r _ (tE.out n au) gr (Rq.At.of hl au bQ) (hr.later bQ) ht).mono ?_;rintro e w4 ⟨q,rfl,hq,du,DL,fk⟩;have kX:=fk.size;(try simp at kX);(first|(have ZQ:=QL fk;obtain⟨⟨z0,z1,z2,z3,z4,z5⟩,⟨f0,f1,f2,f3,f4,f5⟩⟩:=ZQ;(try simp only[agx] at z0 z1 z2 z3 z4 z5 f0 f1 f2 f3 f4 f5))|(have ZQ:=Ut fk;obtain⟨⟨z0,z1,z2,z3,z4,z5⟩,⟨f0,f1,f2,f3,f4,f5⟩⟩:=ZQ;(try simp only[agx] at z0 z1 z2 z3 z4 z5 f0 f1 f2 f3 f4 f5))|skip)))
      ·refine rV (F:=fun w=>Exit.then _ _ Exit.normal _ w) (fun wz=>bj wz w4.heap.size q/\aW wz (some ⟨b9,0,none⟩) l/\(∀o,wz.frozen? ⟨b9,o,none⟩=false)/\q.At wz/\bL w wz/\b9<wz.heap.size) ⟨oy w4 _ q,jy.out.here.later (af qv.out bQ),fun o=>kB (af qv.out bQ) (HFZ.out o) acH,du.later bQ,bQ,by(try simp);omega⟩ ?_;rintro wz ⟨Sq,KX,hfz,hqz,qM,jE⟩;obtain⟨s0,s1,s2,s3,s4,s5⟩:=id Sq;have lsq:=aq s0;obtain⟨d0,d1,d2,d3,d4,d5⟩:=KX.cells au;rw[abc] at d0 d1 d2 d3 d4 d5;have f0:=hfz (n*6);have f1:=hfz (n*6+1);have f2:=hfz (n*6+2);have f3:=hfz (n*6+3);have f4:=hfz (n*6+4);have f5:=hfz (n*6+5);have nb:b9 ≠ w4.heap.size:=oM;have HLZ:=dr KX;have hzz:=qM.size;clear KX hfz;go_wp2;go_ret2;refine⟨ir ⟨HA.out,il ⟨l.set n q,_,c9,il ⟨n,au,q,HN.out,ht,hq,DD DL (by(try simp);omega),rfl⟩,(by show Ending.returned (.tuple #[.slice (some ⟨b9,0,none⟩) l.length c9,i6 0])=_;rw[abS]),HLZ.out.put au (fun r' dj=>(hl.2.1 r' dj).later ?_) (hqz.vQ DL (by(try simp);omega)) rfl,(by rw[abS];exact OF.out)⟩⟩,?_⟩;all_goals exact bQ
      ·have ZZ:aZ w4 wr.heap.size:=⟨⟨bF z0,bF z1,bF z2,bF z3,bF z4,bF z5⟩,⟨f0,f1,f2,f3,f4,f5⟩⟩
       have hqs:∀b' o',q.da=some ⟨b',o',none⟩->b' ≠ wr.heap.size:=fun b' o' hh=>by have:=DL.1 b' o' hh;(try simp at this);omega
       have tP:∀b' o',q.ta=some ⟨b',o',none⟩->b' ≠ wr.heap.size:=fun b' o' hh=>by have:=DL.2 b' o' hh;(try simp at this);omega
       refine rV (F:=fun w=>Exit.then _ _ Exit.normal _ w) (fun wz=>bj wz wr.heap.size q/\aW wz (some ⟨b9,0,none⟩) l/\(∀o,wz.frozen? ⟨b9,o,none⟩=false)/\q.At wz/\bL w wz/\b9<wz.heap.size) ⟨gj ZZ _ _ _ _ _ _,jy.out.here.later (af qv.out bQ),fun o=>kB (af qv.out bQ) (HFZ.out o) acH,⟨jr du.data hqs _ _ _ _ _ _,jq du.tags tP _ _ _ _ _ _,du.dl,du.tl,du.f,du.m,du.born,du.dn,du.tn⟩,bQ,by(try simp);omega⟩ ?_;clear z0 z1 z2 z3 z4 z5 f0 f1 f2 f3 f4 f5;rintro wz ⟨Sq,KX,hfz,hqz,qM,jE⟩;obtain⟨s0,s1,s2,s3,s4,s5⟩:=id Sq;have lsq:=aq s0;obtain⟨d0,d1,d2,d3,d4,d5⟩:=KX.cells au;rw[abc] at d0 d1 d2 d3 d4 d5;have f0:=hfz (n*6);have f1:=hfz (n*6+1);have f2:=hfz (n*6+2);have f3:=hfz (n*6+3);have f4:=hfz (n*6+4);have f5:=hfz (n*6+5);have nb:b9 ≠ wr.heap.size:=oM;have HLZ:=dr KX;have hzz:=qM.size;clear KX hfz;go_wp2;go_ret2;refine⟨ir ⟨HA.out,il ⟨l.set n q,_,c9,il ⟨n,au,q,HN.out,ht,hq,DD DL (by(try simp);omega),rfl⟩,(by show Ending.returned (.tuple #[.slice (some ⟨b9,0,none⟩) l.length c9,i6 0])=_;rw[abS]),HLZ.out.put au (fun r' dj=>(hl.2.1 r' dj).later ?_) (hqz.vQ DL (by(try simp);omega)) rfl,(by rw[abS];exact OF.out)⟩⟩,?_⟩;all_goals exact bQ
    ·have oK:n=l.length:=oM;subst oK
     by_cases h6:6<=l.length
     ·go_wp2
      go_ret2
      exact⟨ir ⟨HA.out,ir ⟨fun j hj=>HN.out j hj hj,h6,rfl⟩⟩,bQ⟩
     ·obtain⟨hi,de,cC,cF⟩:=HI.out;have bu:=(jy.out.later qv.out).own;go_wp2_with(at_builtin;refine aP rfl _ _ 47 rfl w.heap.size 146 i _ 6 80 underlying47 hi de cC cF rfl dM (.slice a9 l.length c9) l.length (a8 l) rfl (rm (mI bu bQ) oM) (some ⟨wr.heap.size,0,none⟩) 1 1 (a8 [r]) rfl (Ev r (oy wr _ r)) (by unfold maxLen;omega) oM (by simp;omega) ?_;intro v5 w5 CW fm);have iM:bL w w5:=(ah jV _).trans fm;rw[<-fI] at CW;obtain⟨a5,c5,rfl,ID⟩:=mw CW (fun r' dj=>by rcases abh.1 dj with h|h;exact(hl.2.1 r' h).later iM;(rw[abq.1 h];exact hr.later iM)) sM (by simp;omega)
      go_ret2
      exact⟨ir ⟨HA.out,il ⟨l++[r],a5,c5,ir ⟨fun j hj=>HN.out j hj hj,oM,rfl⟩,rfl,ID.here,ID.newAt⟩⟩,iM⟩
end
section
open Go.RowKit Go.BigFrame Go.Maps
structure Rs where
 b:Nat
 v:Nat
 bm:Nat
 m:Rd
 ra:Ra
 n:Nat
 D:DataW Unit
 ka:Nat->Option Nat
 la:Nat->Option Addr
 lc:Nat->Nat
 lk:Nat->List Int
 ha:Option Addr
 hc:Nat
 qa:Option Addr
 qc:Nat
 X:Nat->Prop
 bX:Nat
def tU(A:Rs)(i:Nat):Value:=.pointer ((A.ka i).map fun k=>⟨k,0,none⟩)
def Rs.cells(p:Sk)(A:Rs):List Value:=[.pointer (some ⟨A.b,0,none⟩),.pointer (some ⟨A.v,0,none⟩),.slice A.ha p.hand.length A.hc,.slice A.qa p.queue.length A.qc,.bool p.dQ.w,i6 p.dQ.g,i6 p.dQ.s,i6 p.dQ.p,i6 p.bI,i6 p.az,i6 p.tags,tU A 0,tU A 1,tU A 2,.string (p.ao 0).gO,.string (p.ao 1).gO,.string (p.ao 2).gO,i6 (p.ao 0).err,i6 (p.ao 1).err,i6 (p.ao 2).err,.bool p.dead]
def rH(c:Cl)(a:Option Addr)(n k:Nat):List Value:=[i6 c.kind,i6 c.pl,.string c.data,.slice a n k]
def Rs.ay(A:Rs)(s:Nat)(k:Nat):Prop:=k=s\/mM A.b A.bm A.ra k\/∃i,i<3/\A.ka i=some k
def Rs.off(A:Rs)(s:Nat)(k:Nat):Prop:=A.ay s k\/A.X k
structure sk(w:World)(k:Nat)(c:Cl)(a:Option Addr)(L:List Int)(n:Nat):Prop where
 a7:w.heap[k]?=some (.cells (rH c a L.length n).toArray 160 (0,0))
 kind:c.kind ≠ 0
 ints:eF w a L
 nil:a=none->n=0
 left:c.kind=3->L=c.left
theorem sk.frame{F:Nat->Prop}{w w':World}{k:Nat}{c:Cl}{a:Option Addr}{L:List Int}{n:Nat}(h:sk w k c a L n)(hk:aH F w w')(hn:¬F k)(hl:L ≠ []->∀q,a=some q->¬F q.block):sk w' k c a L n :=
 ⟨by rw[hk.block k (aK h.a7) hn];exact h.a7,h.kind,Ay h.ints hk hl,h.nil,h.left⟩
structure jB(s:Nat)(p:Sk)(A:Rs)(w:World):Prop where
 fV:p.cl.length=3
 cE:lj A.v A.b A.bm A.m A.ra A.n A.D w
 tied:kN p.dev A.m
 busy:A.m.busy=p.dev.busy
 map:n7 A.D p.f
 im:IsMap A.D
 nb:A.n<=2*A.bX
 wb:A.m.waits.length<=4*A.bX
 hand:bA w A.ha p.hand
 cU:A.ha=none->A.hc=0
 bS:p.hand.length<=A.hc
 queue:aW w A.qa p.queue
 fe:A.qa=none->A.qc=0
 fA:p.queue.length<=A.qc
 asks:∀i,i<3->∀k,A.ka i=some k->sk w k (p.ao i) (A.la i) (A.lk i) (A.lc i)
 idle:∀i,i<3->A.ka i=none->(p.ao i).kind=0
 sv:¬mM A.b A.bm A.ra s/\s ≠ A.v
 kv:∀i,i<3->∀k,A.ka i=some k->k ≠ s/\k ≠ A.v/\¬mM A.b A.bm A.ra k
 kk:∀i j,i<3->j<3->i ≠ j->∀k,A.ka i=some k->A.ka j ≠ some k
 eX:p.hand ≠ []->∀q,A.ha=some q->¬A.off s q.block
 km:p.queue ≠ []->∀q,A.qa=some q->¬A.off s q.block
 eY:∀r∈p.queue++p.dev.busy,r.dB (A.off s)
 iF:∀i,i<3->∀k,A.ka i=some k->A.lk i ≠ []->∀q,A.la i=some q->¬A.off s q.block
 mS:p.dev.busy ≠ []->∀q,A.ra.la=some q->¬A.off s q.block
 gW:∀k,A.X k->k<w.heap.size
structure bN(s:Nat)(p:Sk)(A:Rs)(w:World):Prop where
 a7:w.heap[s]?=some (.cells (Rs.cells p A).toArray 98 (0,0))
 mem:jB s p A w
structure bH(s:Nat)(p:Sk)(A:Rs)(p':Sk)(A':Rs)(w w':World):Prop where
 at':bN s p' A' w'
 only:aH (A.ay s) w w'
 ay:∀k,A'.ay s k->A.ay s k\/w.heap.size<=k
 same:A'.b=A.b/\A'.v=A.v/\A'.bm=A.bm/\A'.X=A.X
theorem bH.trans{s:Nat}{p p' p2:Sk}{A A' A2:Rs}{w w' w2:World}(h:bH s p A p' A' w w')(k:bH s p' A' p2 A2 w' w2):bH s p A p2 A2 w w2 :=
 ⟨k.at',h.only.trans k.only h.ay,fun i hi=>(k.ay i hi).elim (h.ay i) (fun h'=>ir (abb h.only.size h')),by rw[k.same.1,k.same.2.1,k.same.2.2.1,k.same.2.2.2];exact h.same⟩
theorem lj.SH{F:Nat->Prop}{v b bm:Nat}{m:Rd}{a:Ra}{n:Nat}{D:DataW Unit}{w w':World}(h:lj v b bm m a n D w)(hk:aH F w w')(hF:∀k,mM b bm a k->¬F k)(hv:¬F v)(hl:m.busy ≠ []->∀p,a.la=some p->¬F p.block)(hr:∀r∈m.busy,r.dB F):lj v b bm m a n D w' where
 dev:=h.dev.frame hk (fun k e=>hF k (ir e)) hl hr
 a7:=by rw[hk.block v (aK h.a7) hv];exact h.a7
 map:=mJ h.map (hk.block bm h.mlt (hF bm (il rfl)))
 ay:=h.ay
theorem lj.bC{v b bm:Nat}{m:Rd}{a:Ra}{n:Nat}{D:DataW Unit}{w:World}(h:lj v b bm m a n D w)(k:Nat)(hk:mM b bm a k):k<w.heap.size:=by
 rcases hk with rfl|hk
 ·exact h.mlt
 ·exact h.dev.bC k hk
section
variable{s:Nat}{p p':Sk}{A A':Rs}{w w':World}
theorem bN.lt(h:bN s p A w):s<w.heap.size:=aK h.a7
theorem jB.CK(h:jB s p A w){i k:Nat}(hi:i<3)(hk:A.ka i=some k):k<w.heap.size:=aK (h.asks i hi k hk).a7
theorem bN.bC(h:bN s p A w)(k:Nat)(hk:A.ay s k):k<w.heap.size:=by
 rcases hk with rfl|hk|⟨i,hi,hk⟩
 ·exact h.lt
 ·exact h.mem.cE.bC k hk
 ·exact h.mem.CK hi hk
theorem bN.ky(h:bN s p A w)(k:Nat)(hk:A.off s k):k<w.heap.size:=hk.elim (h.bC k) (fun e=>h.mem.gW k e)
theorem jB.frame{F:Nat->Prop}(h:jB s p A w)(hk:aH F w w')(hF:∀k,A.ay s k->k ≠ s->¬F k)(hv:¬F A.v)(hh:p.hand ≠ []->∀q,A.ha=some q->¬F q.block)(hq:p.queue ≠ []->∀q,A.qa=some q->¬F q.block)(hr:∀r∈p.queue++p.dev.busy,r.dB F)
 (hl:∀i,i<3->∀k,A.ka i=some k->A.lk i ≠ []->∀q,A.la i=some q->¬F q.block) (hd:p.dev.busy ≠ []->∀q,A.ra.la=some q->¬F q.block):jB s p A w' where
 fV:=h.fV
 cE:=h.cE.SH hk (fun k e=>hF k (ir (il e)) (fun e'=>h.sv.1 (e'▸e))) hv (by rw[h.busy];exact hd) (by rw[h.busy];exact fun r dj=>hr r (aa8 _ dj))
 tied:=h.tied
 busy:=h.busy
 map:=h.map
 im:=h.im
 nb:=h.nb
 wb:=h.wb
 hand:=oc h.hand hk hh
 cU:=h.cU
 bS:=h.bS
 queue:=mW h.queue hk hq (fun r dj=>hr r (abn _ dj))
 fe:=h.fe
 fA:=h.fA
 asks:=fun i hi k eH=>(h.asks i hi k eH).frame hk (hF k (ir (ir ⟨i,hi,eH⟩)) (h.kv i hi k eH).1) (hl i hi k eH)
 idle:=h.idle
 sv:=h.sv
 kv:=h.kv
 kk:=h.kk
 eX:=h.eX
 km:=h.km
 eY:=h.eY
 iF:=h.iF
 mS:=h.mS
 gW:=fun k e=>abF (h.gW k e) hk.size
theorem bN.frame{F:Nat->Prop}(h:bN s p A w)(hk:aH F w w')(hF:∀k,A.ay s k->¬F k)(hv:¬F A.v)(hh:p.hand ≠ []->∀q,A.ha=some q->¬F q.block)(hq:p.queue ≠ []->∀q,A.qa=some q->¬F q.block)(hr:∀r∈p.queue++p.dev.busy,r.dB F)
 (hl:∀i,i<3->∀k,A.ka i=some k->A.lk i ≠ []->∀q,A.la i=some q->¬F q.block) (hd:p.dev.busy ≠ []->∀q,A.ra.la=some q->¬F q.block):bN s p A w' :=
 ⟨by rw[hk.block s h.lt (hF s (il rfl))];exact h.a7,h.mem.frame hk (fun k e _=>hF k e) hv hh hq hr hl hd⟩
theorem bN.later(h:bN s p A w)(hb:bL w w'):bN s p A w':=h.frame (F:=fun _=>False) (aH.cj hb) (fun _ _ e=>e) (fun e=>e) (fun _ _ _ e=>e) (fun _ _ _ e=>e) (fun r _=>Pg r) (fun _ _ _ _ _ _ _ e=>e) (fun _ _ _ e=>e)
theorem bH.cX(h:bN s p A w)(hb:bL w w'):bH s p A p A w w':=⟨h.later hb,aH.cj hb,fun _ hk=>il hk,rfl,rfl,rfl,rfl⟩
theorem bH.later{w2:World}(h:bH s p A p' A' w w')(hb:bL w' w2):bH s p A p' A' w w2:=h.trans (bH.cX h.at' hb)
theorem jB.MH{F:Nat->Prop}(h:jB s p A w)(hO:aH F w w')(hF:∀k,F k->A.off s k)(hn:∀k,A.ay s k->k ≠ s->¬F k)(hv:¬F A.v):jB s p A w' :=
 h.frame hO hn hv (fun aE q hq e=>h.eX aE q hq (hF _ e)) (fun aE q hq e=>h.km aE q hq (hF _ e)) (fun r hr=>⟨fun he ad ha e=>(h.eY r hr).1 he ad ha (hF _ e),fun he ad ha e=>(h.eY r hr).2 he ad ha (hF _ e)⟩) (fun i hi k hk aE q hq e=>h.iF i hi k hk aE q hq (hF _ e)) (fun aE q hq e=>h.mS aE q hq (hF _ e))
theorem bN.put(h:bN s p A w)(hm:jB s p' A' w)(j:Nat)(u:Value)(hc:(Rs.cells p A).set j u=Rs.cells p' A')(hf:∀k,A'.ay s k->A.ay s k\/w.heap.size<=k)(vK:A'.b=A.b/\A'.v=A.v/\A'.bm=A.bm/\A'.X=A.X):bH s p A p' A' w (w.setCell ⟨s,j,none⟩ u):=by
 have hO:aH (fun k=>k=s) w (w.setCell ⟨s,j,none⟩ u):=(aH.refl (fun k=>k=s) w).setCell ⟨s,j,none⟩ (il rfl) u;exact⟨⟨by rw[bJ h.a7,hc],hm.MH hO (fun k e=>il (il e)) (fun k _ aE=>aE) (fun e=>hm.sv.2 e.symm)⟩,hO.mono (fun k e=>il e),hf,vK⟩
theorem bN.cell(h:bN s p A w)(j:Nat)(u:Value)(hj:(Rs.cells p A)[j]?=some u):w.cell? ⟨s,j,none⟩=some u:=(aR h.a7 j).trans hj
theorem bN.fz(h:bN s p A w)(j:Nat):w.frozen? ⟨s,j,none⟩=false:=cG h.a7 j
theorem sk.cells{w:World}{k:Nat}{c:Cl}{a:Option Addr}{L:List Int}{n:Nat}(h:sk w k c a L n):w.cell? ⟨k,0,none⟩=some (i6 c.kind)/\w.cell? ⟨k,1,none⟩=some (i6 c.pl)/\w.cell? ⟨k,2,none⟩=some (.string c.data)/\w.cell? ⟨k,3,none⟩=some (.slice a L.length n)/\w.frozen? ⟨k,3,none⟩=false/\k<w.heap.size :=
 ⟨by rw[aR h.a7];rfl,by rw[aR h.a7];rfl,by rw[aR h.a7];rfl,by rw[aR h.a7];rfl,cG h.a7 3,aK h.a7⟩
theorem Ah(h:p.cl.length=3):∃a b c,p.cl=[a,b,c]:=by
 match e:p.cl,h with
 |[a,b,c],_=>exact⟨a,b,c,rfl⟩
def ed(c s:Nat)(p:Sk)(A:Rs)(w w':World)(q:Sk):Prop:=∃p' A',bH s p A p' A' w w'/\p'.nf=q/\A'.bX<=A.bX+c
theorem ed.before{c c' c2:Nat}{w2:World}{q:Sk}(h:bH s p A p' A' w w')(hc:A'.bX<=A.bX+c)(k:ed c' s p' A' w' w2 q)(hcc:c+c'<=c2):ed c2 s p A w w2 q:=by
 obtain⟨p3,A3,h3,hn,DG⟩:=k;exact⟨p3,A3,h.trans h3,hn,oM⟩
end
theorem bN.step{s:Nat}{p:Sk}{A:Rs}{w w':World}{d':Dl}{m':Rd}{xy:Ra}{n':Nat}{D':DataW Unit}{f':Int->Int}(g' c':Nat)(h:bN s p A w)(hs:gE A.v A.b A.bm A.m A.ra A.n A.D m' xy n' D' w w')(ht:kN d' m')(hbu:m'.busy=d'.busy)(hn:n'<=2*c')(hw:m'.waits.length<=4*c')(hm:n7 D' f')(hi:IsMap D')(hr:∀r∈d'.busy,r.dB (({ A with m:=m',ra:=xy,n:=n',D:=D',bX:=c' }:Rs).off s)) :
 bH s p A { p with dev:=d',f:=f',ag:=g' } { A with m:=m',ra:=xy,n:=n',D:=D',bX:=c' } w w':=by
 have mD:∀k,({ A with m:=m',ra:=xy,n:=n',D:=D',bX:=c' }:Rs).ay s k->A.ay s k\/w.heap.size<=k:=by
  rintro k (e|e|e)
  ·exact il (il e)
  ·exact(hs.ay k e).imp (fun e=>ir (il e)) id
  ·exact il (ir (ir e))
 have Tf:∀k,({ A with m:=m',ra:=xy,n:=n',D:=D',bX:=c' }:Rs).off s k->A.off s k\/w.heap.size<=k:=fun k hk=>hk.elim (fun e=>(mD k e).imp il id) (fun e=>il (ir e))
 have hO:aH (A.ay s) w w':=hs.only.mono (fun k e=>ir (il e));have eB:∀r∈p.queue,r.At w:=h.mem.queue.2.1;have kC:∀{q:Nat},¬mM A.b A.bm A.ra q->q<w.heap.size->¬mM A.b A.bm xy q:=fun h1 h2 e=>(hs.ay _ e).elim h1 (fun h'=>oM)
 have nf:∀q:Addr,¬A.off s q.block->q.block<w.heap.size->¬({ A with m:=m',ra:=xy,n:=n',D:=D',bX:=c' }:Rs).off s q.block:=fun q h1 h2 e=>(Tf _ e).elim h1 (fun h'=>oM)
 refine⟨⟨?_,?_⟩,hO,mD,rfl,rfl,rfl,rfl⟩
 ·rw[hs.only.block s h.lt h.mem.sv.1];exact h.a7
 ·have WI:p.queue ≠ []->∀q,A.qa=some q->q.block<w.heap.size:=fun aE q hq=>by
   rcases h.mem.queue.1 with e|⟨b',o',ha,hc⟩
   ·exact absurd e aE
   ·have:p.queue.length ≠ 0:=fun e=>aE (aaZ e)
    have:=aq (hc 0 oM 0 oM);rw[ha] at hq;simp only[aa4] at hq;subst hq;exact this
  have WB:p.hand ≠ []->∀q,A.ha=some q->q.block<w.heap.size:=fun aE q hq=>by
   rcases h.mem.hand.1 with e|⟨b',o',ha,hc⟩
   ·exact absurd e aE
   ·have:p.hand.length ≠ 0:=fun e=>aE (aaZ e)
    have:=aq (hc 0 oM 0 oM);rw[ha] at hq;simp only[aa4] at hq;subst hq;exact this
  exact {
   fV:=h.mem.fV
   cE:=hs.at'
   tied:=ht
   busy:=hbu
   map:=hm
   im:=hi
   nb:=hn
   wb:=hw
   hand:=oc h.mem.hand hO (fun aE q hq e=>h.mem.eX aE q hq (il e))
   cU:=h.mem.cU
   bS:=h.mem.bS
   queue:=mW h.mem.queue hO (fun aE q hq e=>h.mem.km aE q hq (il e)) (fun r dj=>⟨fun he ad ha e=>(h.mem.eY r (abn _ dj)).1 he ad ha (il e),fun he ad ha e=>(h.mem.eY r (abn _ dj)).2 he ad ha (il e)⟩)
   fe:=h.mem.fe
   fA:=h.mem.fA
   asks:=fun i hi k hk=>(h.mem.asks i hi k hk).frame hs.only (h.mem.kv i hi k hk).2.2 (fun aE q hq e=>h.mem.iF i hi k hk aE q hq (il (ir (il e))))
   idle:=h.mem.idle
   sv:=⟨kC h.mem.sv.1 h.lt,h.mem.sv.2⟩
   kv:=fun i hi k hk=>⟨(h.mem.kv i hi k hk).1,(h.mem.kv i hi k hk).2.1,kC (h.mem.kv i hi k hk).2.2 (h.mem.CK hi hk)⟩
   kk:=h.mem.kk
   eX:=fun aE q hq=>nf q (h.mem.eX aE q hq) (WB aE q hq)
   km:=fun aE q hq=>nf q (h.mem.km aE q hq) (WI aE q hq)
   iF:=fun i hi k hk aE q hq=>nf q (h.mem.iF i hi k hk aE q hq) (sa (h.mem.asks i hi k hk).ints aE hq)
   mS:=fun aE q hq=>by
    have qJ:m'.busy ≠ []:=by rw[hbu];exact aE
    rcases hs.uU qJ q hq with⟨h1,h2⟩|h1
    ·have tH:p.dev.busy ≠ []:=by rw[<-h.mem.busy];exact h1
     refine nf q (h.mem.mS tH q h2) ?_
     rcases h.mem.cE.dev.fb.1 with e|⟨b',o',ha,hc⟩
     ·exact absurd e h1
     ·have:A.m.busy.length ≠ 0:=fun e=>h1 (aaZ e)
      have:=aq (hc 0 oM 0 oM);rw[ha] at h2;simp only[aa4] at h2;subst h2;exact this
    ·rintro((e|e|⟨i,hi,e⟩)|e)
     ·have:=h.lt;omega
     ·have hl:=hs.at'.dev.iF qJ q hq
      rcases e with e|e
      ·exact hs.at'.lm qJ q hq e
      ·exact hl e
     ·have:=h.mem.CK hi e;omega
     ·have:=h.mem.gW _ e;omega
   eY:=fun r dj=>by
    rcases abh.1 dj with h'|h'
    ·exact Rq.dB.step (eB r h') (h.mem.eY r (abn _ h')) Tf
    ·exact hr r h'
   gW:=fun k e=>abF (h.mem.gW k e) hO.size }
end
end Go.Proofs.YtlhgjplipgandaaGreatDoor
