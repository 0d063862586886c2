/- Joined. -/
import Derived.Deep.RegionHeld3
import Derived.Test.YtlhgjplipgandaaGreatDoorE19
import Derived.Test.YtlhgjplipgandaaGreatDoorE20
import Derived.Test.YtlhgjplipgandaaGreatDoorE21
set_option maxRecDepth 100000
set_option maxHeartbeats 8000000
set_option linter.unusedSimpArgs false
set_option linter.unusedSectionVars false
namespace Go.Proofs.YtlhgjplipgandaaGreatDoor
open Tryz
section
open Go.RowKit Go.BigFrame
theorem Lt(a b:Rq)(w:World)(ga:bu a)(gb:bu b)(ha:a.At w)(hb:b.At w)(h1:(wrap64 (a.f+a.m)==b.f)=true)(h2:gp a b=true)(D:List ByteArray)(hD:Hid (D=a.data++b.data))(G:List Int)(hG:Hid (G=a.tags++b.tags))(hm:¬b.born<a.born) :
 Calls prog 175 #[b.val,a.val] w fun e w'=>∃q:Rq,e=.returned (.tuple #[q.val,.bool true])/\jP a b q/\q.At w'/\pU q w.heap.size/\bL w w':=by
 obtain⟨x1,x2,x3,x4,x5⟩:=ga.lH;obtain⟨y1,y2,y3,y4,y5⟩:=gb.lH;have la:a.data.length<=100000:=by have:=ga.d4;omega
 have lb:b.data.length<=100000:=by have:=gb.d4;omega
 have ma:a.tags.length<=100000:=by have:=ga.t4;omega
 have mb:b.tags.length<=100000:=by have:=gb.t4;omega
 have e2:IntKind.i64.wrap (a.m+b.m)=a.m+b.m:=by rw[acC];omega
 have HI:Hid (cY a.f/\cY (a.m+b.m)/\cY a.born/\cY b.born/\D.length<=9223372036854775807/\G.length<=9223372036854775807):=by
  refine⟨ha.f,⟨oM,oM⟩,ha.born,hb.born,?_,?_⟩
  ·rw[hD.out,ab7];omega
  ·rw[hG.out,ab7];omega
 go_enter func175,ntmps175;go_wp2_with fail;(go_at_call 204;refine(ov _ _ _ _ _ _ h1).mono ?_;rintro e w0 ⟨rfl,fw⟩);obtain⟨T1,T2,T3,hw0⟩:=yA b a fw;obtain⟨U1,U2⟩:=FQ b a fw;have eN:bL w w0:=bQ;clear fw;obtain⟨p0,p1,p2,p3,p4,p5⟩:=id T1;obtain⟨q0,q1,q2,q3,q4,q5⟩:=id T2;obtain⟨i0,i1,i2,i3,i4,i5⟩:=U1.2;obtain⟨j0,j1,j2,j3,j4,j5⟩:=U2.2;go_wp2_with fail;refine(yB a b _ ga gb _ h2).mono ?_;rintro e w1 ⟨rfl,aw⟩;have aU:bL w w1:=bQ;have eI:=aw.size;simp only[adv] at eI;have my:Below (eD (eD w0 w.heap.size (.bool a.wr) (i6 a.f) (i6 a.m) (.slice a.da a.data.length a.dc) (.slice a.ta a.tags.length a.tc) (i6 a.born)) (w.heap.size+1) (.bool b.wr) (i6 b.f) (i6 b.m) (.slice b.da b.data.length b.dc) (.slice b.ta b.tags.length b.tc) (i6 b.born)).heap.size (eD (eD w0 w.heap.size (.bool a.wr) (i6 a.f) (i6 a.m) (.slice a.da a.data.length a.dc) (.slice a.ta a.tags.length a.tc) (i6 a.born)) (w.heap.size+1) (.bool b.wr) (i6 b.f) (i6 b.m) (.slice b.da b.data.length b.dc) (.slice b.ta b.tags.length b.tc) (i6 b.born)) w1:=aw;obtain⟨S1,S2,S3⟩:=Dj a b U1 U2 T3 my;have uf:w.heap.size+3<=w1.heap.size:=oM;clear aw my eN T1 T2 T3 U1 U2 p0 p1 p2 p3 p4 p5 q0 q1 q2 q3 q4 q5 i0 i1 i2 i3 i4 i5 j0 j1 j2 j3 j4 j5;go_wp2_with fail;obtain⟨p0,p1,p2,p3,p4,p5⟩:=id S1;obtain⟨q0,q1,q2,q3,q4,q5⟩:=id S2;obtain⟨⟨z0,z1,z2,z3,z4,z5⟩,⟨f0,f1,f2,f3,f4,f5⟩⟩:=id S3
 go_region_held3 (fun w'=>(w'.cell? ⟨w.heap.size,0,none⟩=some (.bool a.wr)/\w'.cell? ⟨w.heap.size,1,none⟩=some (i6 a.f)/\w'.cell? ⟨w.heap.size,2,none⟩=some (i6 a.m)/\w'.cell? ⟨w.heap.size,3,none⟩=some (.slice a.da a.data.length a.dc)/\w'.cell? ⟨w.heap.size,4,none⟩=some (.slice a.ta a.tags.length a.tc)/\w'.cell? ⟨w.heap.size,5,none⟩=some (i6 a.born))/\(w'.cell? ⟨w.heap.size+1,0,none⟩=some (.bool b.wr)/\w'.cell? ⟨w.heap.size+1,1,none⟩=some (i6 b.f)/\w'.cell? ⟨w.heap.size+1,2,none⟩=some (i6 b.m)/\w'.cell? ⟨w.heap.size+1,3,none⟩=some (.slice b.da b.data.length b.dc)/\w'.cell? ⟨w.heap.size+1,4,none⟩=some (.slice b.ta b.tags.length b.tc)/\w'.cell? ⟨w.heap.size+1,5,none⟩=some (i6 b.born))/\(w'.cell? ⟨w.heap.size+2,0,none⟩=some (cZ w' ⟨w.heap.size+2,0,none⟩)/\w'.cell? ⟨w.heap.size+2,1,none⟩=some (cZ w' ⟨w.heap.size+2,1,none⟩)/\w'.cell? ⟨w.heap.size+2,2,none⟩=some (cZ w' ⟨w.heap.size+2,2,none⟩)/\w'.cell? ⟨w.heap.size+2,3,none⟩=some (cZ w' ⟨w.heap.size+2,3,none⟩)/\w'.cell? ⟨w.heap.size+2,4,none⟩=some (cZ w' ⟨w.heap.size+2,4,none⟩)/\w'.cell? ⟨w.heap.size+2,5,none⟩=some (cZ w' ⟨w.heap.size+2,5,none⟩))/\(w'.frozen? ⟨w.heap.size+2,0,none⟩=false/\w'.frozen? ⟨w.heap.size+2,1,none⟩=false/\w'.frozen? ⟨w.heap.size+2,2,none⟩=false/\w'.frozen? ⟨w.heap.size+2,3,none⟩=false/\w'.frozen? ⟨w.heap.size+2,4,none⟩=false/\w'.frozen? ⟨w.heap.size+2,5,none⟩=false)) (exact Is w.heap.size a b sX sX zX) (first|(go_at_call 206;refine(yO a.data b.data D hD _ a.da b.da a.dc b.dc _ (by first|(simp;done)|exact aC aM sM) (by first|(simp;done)|exact aC aM sM) (ha.data.later bQ) (hb.data.later bQ) ha.dn hb.dn la lb).mono ?_;rintro e w2 ⟨xa,xc,rfl,jQ,oF,n5,ZF⟩;have nI:=dm n5;clear n5)|(go_at_call 207;refine(yN a.tags b.tags G hG _ a.ta b.ta a.tc b.tc _ (by first|(simp;done)|exact aC aM sM) (by first|(simp;done)|exact aC aM sM) (ha.tags.later bQ) (hb.tags.later bQ) ha.tn hb.tn ma mb).mono ?_;rintro e w3 ⟨ya,yc,rfl,wD,AO,AN,tz⟩;have nJ:=dm AN;clear AN))
 all_goals first|(have qF:bL w2 w3:=bQ;clear qF;go_wp2;have Z:aX w3 (w.heap.size+1+1):=zX;obtain⟨m0,m1,m2,m3,m4,m5⟩:=fY Z (.bool a.wr) (i6 a.f) (i6 (a.m+b.m)) (.slice xa D.length xc) (.slice ya G.length yc) (i6 a.born);have aA:=(show bL w1 w2 from bQ).size;have bC:=(show bL w1 w3 from bQ).size;refine ack (v:=.tuple #[(Rq.mk a.wr a.f (a.m+b.m) xa xc D ya yc G a.born).val,.bool true]) ?_ rfl ⟨_,rfl,⟨rfl,rfl,rfl,hD.out,hG.out,(by simp only;omega)⟩,(show Rq.At _ (eD w3 (w.heap.size+1+1) _ _ _ _ _ _) from⟨jf (jQ.later bQ) (fun b' o' hh=>by have:=nI.out b' o' hh;(try simp at this);omega) _ _ _ _ _ _,je (wD.later bQ) (fun b' o' hh=>by have:=nJ.out b' o' hh;(try simp at this);omega) _ _ _ _ _ _,HI.out.2.2.2.2.1,HI.out.2.2.2.2.2,HI.out.1,HI.out.2.1,(by first|exact HI.out.2.2.1|exact HI.out.2.2.2.1),oF,AO⟩),⟨(fun b' o' hh=>by have:=nI.out b' o' hh;(try simp at this);omega),(fun b' o' hh=>by have:=nJ.out b' o' hh;(try simp at this);omega)⟩,bQ⟩;(unfold eD at m0 m1 m2 m3 m4 m5;simp[results,results175,go_sem,m0,m1,m2,m3,m4,m5]))|(have qF:bL w3 w2:=bQ;clear qF;go_wp2;have Z:aX w2 (w.heap.size+1+1):=zX;obtain⟨m0,m1,m2,m3,m4,m5⟩:=fY Z (.bool a.wr) (i6 a.f) (i6 (a.m+b.m)) (.slice xa D.length xc) (.slice ya G.length yc) (i6 a.born);have aA:=(show bL w1 w2 from bQ).size;have bC:=(show bL w1 w3 from bQ).size;refine ack (v:=.tuple #[(Rq.mk a.wr a.f (a.m+b.m) xa xc D ya yc G a.born).val,.bool true]) ?_ rfl ⟨_,rfl,⟨rfl,rfl,rfl,hD.out,hG.out,(by simp only;omega)⟩,(show Rq.At _ (eD w2 (w.heap.size+1+1) _ _ _ _ _ _) from⟨jf (jQ.later bQ) (fun b' o' hh=>by have:=nI.out b' o' hh;(try simp at this);omega) _ _ _ _ _ _,je (wD.later bQ) (fun b' o' hh=>by have:=nJ.out b' o' hh;(try simp at this);omega) _ _ _ _ _ _,HI.out.2.2.2.2.1,HI.out.2.2.2.2.2,HI.out.1,HI.out.2.1,(by first|exact HI.out.2.2.1|exact HI.out.2.2.2.1),oF,AO⟩),⟨(fun b' o' hh=>by have:=nI.out b' o' hh;(try simp at this);omega),(fun b' o' hh=>by have:=nJ.out b' o' hh;(try simp at this);omega)⟩,bQ⟩;(unfold eD at m0 m1 m2 m3 m4 m5;simp[results,results175,go_sem,m0,m1,m2,m3,m4,m5]))
end
section
open Go.RowKit
theorem re{a b:Rq}:gp a b=true↔a.f+a.m=b.f/\a.wr=b.wr/\a.m+b.m<=4/\a.tags.length+b.tags.length<=4:=by
 simp only[gp,ac2,aco,adt]
theorem bu.vx{r:Rq}(h:bu r)(hw:r.wr=true):(r.data.length:Int)=r.m:=by
 have:=h.shape
 simpa [kD,hw] using this
theorem bu.EV{r:Rq}(h:bu r)(hw:r.wr=false):r.data=[]:=by
 have:=h.shape
 simpa [kD,hw] using this
theorem jP.bP{a b q:Rq}(ga:bu a)(gb:bu b)(h:jP a b q)(ht:gp a b=true):bu q:=by
 obtain⟨t1,t2,t3,t4⟩:=re.1 ht;have ba:=ga.lH;have bb:=gb.lH;have hm:=h.m;have hf:=h.f;refine⟨?_,?_,?_,?_,?_,?_,?_⟩
 ·simp only[gI,aco];omega
 ·unfold kD;rw[h.wr,h.data,ab7,hm]
  cases hw:a.wr
  ·rw[ga.EV hw,gb.EV (t2▸hw)];rfl
  ·have:=ga.vx hw;have:=gb.vx (t2▸hw);simp only[adR,aco];omega
 ·rw[h.tags,ab7];have:=ga.t1;omega
 ·rw[h.tags,ab7];omega
 ·rw[h.born];have:=ga.b0;have:=gb.b0;omega
 ·rw[h.born];have:=ga.b1;omega
 ·have s1:=ga.small;have s2:=gb.small;unfold n8 at *;rw[h.data,List.all_append,s1,s2];rfl
structure Joined(a b q:Rq):Prop where
 bP:bu q
 WZ:q.wr=a.wr
 wrb:q.wr=b.wr
 m:q.m=a.m+b.m
 tags:q.tags.length=a.tags.length+b.tags.length
 aaX:q.born<=a.born
 aaY:q.born<=b.born
 has:∀at':Int,gS q.f q.m at'=(gS a.f a.m at'||gS b.f b.m at')
 ina:q.wr=true->∀at':Int,gS a.f a.m at'=true->∃i j:Nat,at'-a.f=i/\at'-q.f=j/\∃(hi:i<a.data.length) (hj:j<q.data.length),q.data[j]=a.data[i]
 inb:q.wr=true->∀at':Int,gS b.f b.m at'=true->∃i j:Nat,at'-b.f=i/\at'-q.f=j/\∃(hi:i<b.data.length) (hj:j<q.data.length),q.data[j]=b.data[i]
theorem jP.Eo{a b q:Rq}(ga:bu a)(gb:bu b)(h:jP a b q)(ht:gp a b=true):Joined a b q:=by
 obtain⟨t1,t2,t3,t4⟩:=re.1 ht;have ba:=ga.lH;have bb:=gb.lH;refine⟨h.bP ga gb ht,h.wr,h.wr.trans t2,h.m,by rw[h.tags,ab7],?_,?_,?_,?_,?_⟩
 ·rw[h.born];omega
 ·rw[h.born];omega
 ·intro at';rw[h.f,h.m,ado];simp only[gS,aeh,aco]
  omega
 ·intro hw at' fS;simp only[gS,aco] at fS;have l1:=ga.vx (h.wr▸hw);refine⟨(at'-a.f).toNat,(at'-a.f).toNat,oM,by rw[h.f];omega,oM,by rw[h.data,ab7];omega,?_⟩;simp only[h.data];rw[List.getElem_append_left oM]
 ·intro hw at' fS;simp only[gS,aco] at fS;have l1:=ga.vx (h.wr▸hw);have l2:=gb.vx (t2▸(h.wr▸hw));refine⟨(at'-b.f).toNat,(at'-a.f).toNat,oM,by rw[h.f];omega,oM,by rw[h.data,ab7];omega,?_⟩;simp only[h.data];rw[aeu oM]
  congr 1
  omega
theorem Joined.swap{a b q:Rq}(h:Joined a b q):Joined b a q :=
 ⟨h.bP,h.wrb,h.WZ,by rw[h.m];omega,by rw[h.tags];omega,h.aaY,h.aaX,fun at'=>by rw[h.has,Bool.or_comm],h.inb,h.ina⟩
theorem BM{a b:Rq}(ga:bu a)(gb:bu b)(h:gp a b=true):(wrap64 (b.f+b.m)==a.f)=false/\(wrap64 (a.f+a.m)==b.f)=true:=by
 obtain⟨t1,_⟩:=re.1 h;have ba:=ga.lH;have bb:=gb.lH;rw[Dm oM oM oM oM,Dm oM oM oM oM]
 constructor
 ·rw[ab8];omega
 ·rw[adt];exact t1
end
section
open Go.RowKit Go.BigFrame
theorem RX(a b:Rq)(w:World)(ga:bu a)(gb:bu b)(h1:(wrap64 (a.f+a.m)==b.f)=true)(h2:gp a b=false) :
 Calls prog 175 #[b.val,a.val] w (rB (.tuple #[mH,.bool false]) w):=by
 go_enter func175,ntmps175;go_wp2_with fail;(go_at_call 204;refine(ov _ _ _ _ _ _ h1).mono ?_;rintro e w0 ⟨rfl,fw⟩);obtain⟨T1,T2,T3,hw0⟩:=yA b a fw;obtain⟨U1,U2⟩:=FQ b a fw;have eN:bL w w0:=bQ;clear fw;obtain⟨p0,p1,p2,p3,p4,p5⟩:=id T1;obtain⟨q0,q1,q2,q3,q4,q5⟩:=id T2;obtain⟨i0,i1,i2,i3,i4,i5⟩:=U1.2;obtain⟨j0,j1,j2,j3,j4,j5⟩:=U2.2;go_wp2_with fail;refine(yB a b _ ga gb _ h2).mono ?_;rintro e w1 ⟨rfl,aw⟩;have aU:bL w w1:=bQ;have eI:=aw.size;simp only[adv] at eI;have my:Below (eD (eD w0 w.heap.size (.bool a.wr) (i6 a.f) (i6 a.m) (.slice a.da a.data.length a.dc) (.slice a.ta a.tags.length a.tc) (i6 a.born)) (w.heap.size+1) (.bool b.wr) (i6 b.f) (i6 b.m) (.slice b.da b.data.length b.dc) (.slice b.ta b.tags.length b.tc) (i6 b.born)).heap.size (eD (eD w0 w.heap.size (.bool a.wr) (i6 a.f) (i6 a.m) (.slice a.da a.data.length a.dc) (.slice a.ta a.tags.length a.tc) (i6 a.born)) (w.heap.size+1) (.bool b.wr) (i6 b.f) (i6 b.m) (.slice b.da b.data.length b.dc) (.slice b.ta b.tags.length b.tc) (i6 b.born)) w1:=aw;obtain⟨S1,S2,S3⟩:=Dj a b U1 U2 T3 my;have uf:w.heap.size+3<=w1.heap.size:=oM;clear aw my eN T1 T2 T3 U1 U2 p0 p1 p2 p3 p4 p5 q0 q1 q2 q3 q4 q5 i0 i1 i2 i3 i4 i5 j0 j1 j2 j3 j4 j5;obtain⟨p0,p1,p2,p3,p4,p5⟩:=id S1;obtain⟨q0,q1,q2,q3,q4,q5⟩:=id S2;obtain⟨⟨z0,z1,z2,z3,z4,z5⟩,⟨f0,f1,f2,f3,f4,f5⟩⟩:=id S3;have Z:aX w1 (w.heap.size+1+1):=S3;obtain⟨m0,m1,m2,m3,m4,m5⟩:=fY Z (.bool false) (i6 0) (i6 0) (.slice none 0 0) (.slice none 0 0) (i6 0);unfold eD at m0 m1 m2 m3 m4 m5;go_wp2;refine ack (v:=.tuple #[mH,.bool false]) ?_ rfl ⟨rfl,bQ⟩
 simp[results,results175,go_sem,m0,m1,m2,m3,m4,m5]
theorem Lr(a b:Rq)(w:World)(ga:bu a)(gb:bu b)(h:gp a b=false)(h':gp b a=false) :
 Calls prog 175 #[a.val,b.val] w (rB (.tuple #[mH,.bool false]) w):=by
 cases h1:(wrap64 (b.f+b.m)==a.f)
 ·exact UO a b w ga gb h1 h
 ·exact RX b a w gb ga h1 h'
theorem Lu(a b:Rq)(w:World)(ga:bu a)(gb:bu b)(ha:a.At w)(hb:b.At w)(h:gp a b=true) :
 Calls prog 175 #[a.val,b.val] w fun e w'=>∃q:Rq,e=.returned (.tuple #[q.val,.bool true])/\jP a b q/\q.At w'/\pU q w.heap.size/\bL w w':=by
 rcases ae9 (b.born<a.born) with hm|hm
 ·exact OI a b w ga gb ha hb (BM ga gb h).1 h _ rfl _ rfl hm
 ·exact OJ a b w ga gb ha hb (BM ga gb h).1 h _ rfl _ rfl hm
theorem J7(a b:Rq)(w:World)(ga:bu a)(gb:bu b)(ha:a.At w)(hb:b.At w)(h:gp a b=true) :
 Calls prog 175 #[b.val,a.val] w fun e w'=>∃q:Rq,e=.returned (.tuple #[q.val,.bool true])/\jP a b q/\q.At w'/\pU q w.heap.size/\bL w w':=by
 rcases ae9 (b.born<a.born) with hm|hm
 ·exact Ls a b w ga gb ha hb (BM ga gb h).2 h _ rfl _ rfl hm
 ·exact Lt a b w ga gb ha hb (BM ga gb h).2 h _ rfl _ rfl hm
def jk(o r:Rq):Bool:=gp o r||gp r o
def vD(o r q:Rq):Prop:=(gp o r=true/\jP o r q)\/(gp o r=false/\gp r o=true/\jP r o q)
theorem vD.Eo{o r q:Rq}(go:bu o)(gr:bu r)(h:vD o r q):Joined o r q:=by
 rcases h with⟨h1,h2⟩|⟨_,h1,h2⟩
 ·exact h2.Eo go gr h1
 ·exact(h2.Eo gr go h1).swap
theorem aau(o r:Rq)(w:World)(go:bu o)(gr:bu r)(h:jk o r=false) :
 Calls prog 175 #[o.val,r.val] w (rB (.tuple #[mH,.bool false]) w):=by
 simp only[jk,adF] at h;exact Lr o r w go gr h.1 h.2
def iH(r o:Rq):Bool:=wL o.f o.m r.f r.m
theorem nP(w:World)(T:TypeId)(a:Rq):bg (w.alloc (.cells #[.bool a.wr,i6 a.f,i6 a.m,.slice a.da a.data.length a.dc,.slice a.ta a.tags.length a.tc,i6 a.born] T)) w.heap.size a:=by
 refine⟨?_,?_,?_,?_,?_,?_⟩<;>simp
theorem CB(r:Rq)(w:World)(hr:r.At w)(hn:nV r=0):Calls prog 172 #[r.val] w (rB .nilIface w):=O2 r w hr 0 hn
theorem TC(l:List Rq)(a:Option Addr)(c:Nat)(r:Rq)(w:World)(hl:aS w a l)(hr:r.At w)(hn:nV r=0)(hm:l.any (iH r)=true) :
 Calls prog 128 #[.slice a l.length c,r.val] w (rB (.tuple #[.slice none 0 0,.iface 87 (i6 6)]) w):=by
 go_enter func128,ntmps128;go_wp2_with fail;refine cM (CB r _ (hr.later (aB _ _)) hn) ?_;intro w1 hb;have S:=(nP w 146 r).later hb;have HS:=dm S;go_wp2_with fail;refine cM (tR 173 (by intro args w;go_simp) (.pointer (some ⟨w.heap.size,0,none⟩)) (iH r) l a c _ (hl.later bQ) (fun x w' _ gP=>GM x r w.heap.size w' (aC gP HS.out.2.1) (aC gP HS.out.2.2.1)) true hm) ?_;intro w2 aA;go_wp2
 go_ret2
 exact⟨rfl,bQ⟩
def uy(w:World)(b p:Nat)(v0 v1 v2 v3 v4 v5:Value):World:=(((((w.setCell ⟨b,p,none⟩ v0).setCell ⟨b,p+1,none⟩ v1).setCell ⟨b,p+2,none⟩ v2).setCell ⟨b,p+3,none⟩ v3).setCell ⟨b,p+4,none⟩ v4).setCell ⟨b,p+5,none⟩ v5
theorem SS{w:World}{b p:Nat}{v0 v1 v2 v3 v4 v5:Value}{o:Nat}(h:o<p\/p+6<=o):(uy w b p v0 v1 v2 v3 v4 v5).cell? ⟨b,o,none⟩=w.cell? ⟨b,o,none⟩:=by
 have ne:∀i:Nat,i<6->∀(W:World) (u:Value),(W.setCell ⟨b,p+i,none⟩ u).cell? ⟨b,o,none⟩=W.cell? ⟨b,o,none⟩:=fun i hi W u=>acL _ _ _ _ (fun e=>by injection e with _ e _;omega)
 unfold uy;rw[ne 5 dM,ne 4 dM,ne 3 dM,ne 2 dM,ne 1 dM];exact ne 0 dM _ _
theorem Vu{w:World}{b p:Nat}(v:Nat->Value)(h:∀j,j<6->∃u,w.cell? ⟨b,p+j,none⟩=some u)(j:Nat)(hj:j<6):(uy w b p (v 0) (v 1) (v 2) (v 3) (v 4) (v 5)).cell? ⟨b,p+j,none⟩=some (v j):=by
 have ne:∀i j:Nat,i ≠ j->∀(W:World) (u:Value),(W.setCell ⟨b,p+i,none⟩ u).cell? ⟨b,p+j,none⟩=W.cell? ⟨b,p+j,none⟩:=fun i j pL W u=>acL _ _ _ _ (fun e=>pL (by injection e with _ e _;omega))
 have R0:∀j:Nat,0 ≠ j->∀(W:World) (u:Value),(W.setCell ⟨b,p,none⟩ u).cell? ⟨b,p+j,none⟩=W.cell? ⟨b,p+j,none⟩:=fun j hj W u=>ne 0 j hj W u
 obtain⟨u,hu⟩:=h j hj;unfold uy
 match j,hj with
 |0,_=>rw[ne 5 0 dM,ne 4 0 dM,ne 3 0 dM,ne 2 0 dM,ne 1 0 dM];exact acm _ _ _ hu
 |1,_=>rw[ne 5 1 dM,ne 4 1 dM,ne 3 1 dM,ne 2 1 dM];exact acm _ _ _ ((R0 1 dM _ _).trans hu)
 |2,_=>rw[ne 5 2 dM,ne 4 2 dM,ne 3 2 dM];exact acm _ _ _ ((ne 1 2 dM _ _).trans ((R0 2 dM _ _).trans hu))
 |3,_=>rw[ne 5 3 dM,ne 4 3 dM];exact acm _ _ _ ((ne 2 3 dM _ _).trans ((ne 1 3 dM _ _).trans ((R0 3 dM _ _).trans hu)))
 |4,_=>rw[ne 5 4 dM];exact acm _ _ _ ((ne 3 4 dM _ _).trans ((ne 2 4 dM _ _).trans ((ne 1 4 dM _ _).trans ((R0 4 dM _ _).trans hu))))
 |5,_=>exact acm _ _ _ ((ne 4 5 dM _ _).trans ((ne 3 5 dM _ _).trans ((ne 2 5 dM _ _).trans ((ne 1 5 dM _ _).trans ((R0 5 dM _ _).trans hu)))))
theorem aS.put{w W:World}{b k:Nat}{l:List Rq}{q:Rq}(h:aS w (some ⟨b,0,none⟩) l)(hk:k<l.length)(fS:∀r∈l,r.At W)(hq:q.At W)(e:W=uy w b (k*6) (q.cell 0) (q.cell 1) (q.cell 2) (q.cell 3) (q.cell 4) (q.cell 5)):aS W (some ⟨b,0,none⟩) (l.set k q):=by
 rcases h.1 with rfl|⟨b',o',ha,hc⟩
 ·exact absurd hk (acg _)
 ·simp only[ace,acV,adh] at ha;obtain⟨rfl,rfl⟩:=ha;refine⟨ir ⟨b,0,rfl,fun i hi m hm=>?_⟩,fun r hr=>?_,by rw[acK];exact h.2.2⟩
  ·have pK:i<l.length:=by simpa using hi
   by_cases ik:i=k
   ·subst ik;rw[adB,e,acq];exact Vu (fun j=>q.cell j) (fun j hj=>⟨_,by have:=hc i pK j hj;rwa [acq] at this⟩) m hm
   ·rw[adA (fun h=>ik h.symm),e,SS oM];exact hc i pK m hm
  ·rcases acW hr with hr|rfl
   ·exact fS r hr
   ·exact hq
end
end Go.Proofs.YtlhgjplipgandaaGreatDoor
