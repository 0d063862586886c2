/- Joined. -/
import Derived.Deep.RegionHeld3
import Derived.Test.YtlhgjplipgandaaGreatDoorF19
import Derived.Test.YtlhgjplipgandaaGreatDoorF20
import Derived.Test.YtlhgjplipgandaaGreatDoorF21
set_option maxRecDepth 100000
set_option maxHeartbeats 8000000
set_option linter.unusedSimpArgs false
set_option linter.unusedSectionVars false
namespace Go.Proofs.YtlhgjplipgandaaGreatDoor
open Tryz
section
open Go.RowKit Go.BigFrame
theorem Nj(a b:Rq)(w:World)(ga:bz a)(gb:bz b)(ha:a.At w)(hb:b.At w)(h1:(wrap64 (a.f+a.m)==b.f)=true)(h2:gy a b=true)(D:List ByteArray)(hD:Hid (D=a.data++b.data))(G:List Int)(hG:Hid (G=a.tags++b.tags))(hm:¬b.born<a.born) :
 Calls prog 175 #[b.val,a.val] w fun e w'=>∃q:Rq,e=.returned (.tuple #[q.val,.bool true])/\j6 a b q/\q.At w'/\qL q w.heap.size/\bL w w':=by
 obtain⟨x1,x2,x3,x4,x5⟩:=ga.mi;obtain⟨y1,y2,y3,y4,y5⟩:=gb.mi;have la:a.data.length<=100000:=by have:=ga.d4;omega
 have lb:b.data.length<=100000:=by have:=gb.d4;omega
 have ma:a.tags.length<=100000:=by have:=ga.t4;omega
 have mb:b.tags.length<=100000:=by have:=gb.t4;omega
 have e2:IntKind.i64.wrap (a.m+b.m)=a.m+b.m:=by rw[abr];omega
 have HI:Hid (cH a.f/\cH (a.m+b.m)/\cH a.born/\cH b.born/\D.length<=9223372036854775807/\G.length<=9223372036854775807):=by
  refine⟨ha.f,⟨oM,oM⟩,ha.born,hb.born,?_,?_⟩
  ·rw[hD.out,aaQ];omega
  ·rw[hG.out,aaQ];omega
 go_enter func175,ntmps175;go_wp2_with fail;(go_at_call 204;refine(o4 _ _ _ _ _ _ h1).mono ?_;rintro e w0 ⟨rfl,fq⟩);obtain⟨T1,T2,T3,hw0⟩:=zS b a fq;obtain⟨U1,U2⟩:=Hs b a fq;have et:bL w w0:=bQ;clear fq;obtain⟨p0,p1,p2,p3,p4,p5⟩:=id T1;obtain⟨q0,q1,q2,q3,q4,q5⟩:=id T2;obtain⟨i0,i1,i2,i3,i4,i5⟩:=U1.2;obtain⟨j0,j1,j2,j3,j4,j5⟩:=U2.2;go_wp2_with fail;refine(zT a b _ ga gb _ h2).mono ?_;rintro e w1 ⟨rfl,aw⟩;have aN:bL w w1:=bQ;have eI:=aw.size;simp only[adk] at eI;have mT:Below (eC (eC w0 w.heap.size (.bool a.wr) (i6 a.f) (i6 a.m) (.slice a.da a.data.length a.dc) (.slice a.ta a.tags.length a.tc) (i6 a.born)) (w.heap.size+1) (.bool b.wr) (i6 b.f) (i6 b.m) (.slice b.da b.data.length b.dc) (.slice b.ta b.tags.length b.tc) (i6 b.born)).heap.size (eC (eC w0 w.heap.size (.bool a.wr) (i6 a.f) (i6 a.m) (.slice a.da a.data.length a.dc) (.slice a.ta a.tags.length a.tc) (i6 a.born)) (w.heap.size+1) (.bool b.wr) (i6 b.f) (i6 b.m) (.slice b.da b.data.length b.dc) (.slice b.ta b.tags.length b.tc) (i6 b.born)) w1:=aw;obtain⟨S1,S2,S3⟩:=EE a b U1 U2 T3 mT;have oN:w.heap.size+3<=w1.heap.size:=oM;clear aw mT et T1 T2 T3 U1 U2 p0 p1 p2 p3 p4 p5 q0 q1 q2 q3 q4 q5 i0 i1 i2 i3 i4 i5 j0 j1 j2 j3 j4 j5;go_wp2_with fail;obtain⟨p0,p1,p2,p3,p4,p5⟩:=id S1;obtain⟨q0,q1,q2,q3,q4,q5⟩:=id S2;obtain⟨⟨z0,z1,z2,z3,z4,z5⟩,⟨f0,f1,f2,f3,f4,f5⟩⟩:=id S3
 go_region_held3 (fun w'=>(w'.cell? ⟨w.heap.size,0,none⟩=some (.bool a.wr)/\w'.cell? ⟨w.heap.size,1,none⟩=some (i6 a.f)/\w'.cell? ⟨w.heap.size,2,none⟩=some (i6 a.m)/\w'.cell? ⟨w.heap.size,3,none⟩=some (.slice a.da a.data.length a.dc)/\w'.cell? ⟨w.heap.size,4,none⟩=some (.slice a.ta a.tags.length a.tc)/\w'.cell? ⟨w.heap.size,5,none⟩=some (i6 a.born))/\(w'.cell? ⟨w.heap.size+1,0,none⟩=some (.bool b.wr)/\w'.cell? ⟨w.heap.size+1,1,none⟩=some (i6 b.f)/\w'.cell? ⟨w.heap.size+1,2,none⟩=some (i6 b.m)/\w'.cell? ⟨w.heap.size+1,3,none⟩=some (.slice b.da b.data.length b.dc)/\w'.cell? ⟨w.heap.size+1,4,none⟩=some (.slice b.ta b.tags.length b.tc)/\w'.cell? ⟨w.heap.size+1,5,none⟩=some (i6 b.born))/\(w'.cell? ⟨w.heap.size+2,0,none⟩=some (df w' ⟨w.heap.size+2,0,none⟩)/\w'.cell? ⟨w.heap.size+2,1,none⟩=some (df w' ⟨w.heap.size+2,1,none⟩)/\w'.cell? ⟨w.heap.size+2,2,none⟩=some (df w' ⟨w.heap.size+2,2,none⟩)/\w'.cell? ⟨w.heap.size+2,3,none⟩=some (df w' ⟨w.heap.size+2,3,none⟩)/\w'.cell? ⟨w.heap.size+2,4,none⟩=some (df w' ⟨w.heap.size+2,4,none⟩)/\w'.cell? ⟨w.heap.size+2,5,none⟩=some (df w' ⟨w.heap.size+2,5,none⟩))/\(w'.frozen? ⟨w.heap.size+2,0,none⟩=false/\w'.frozen? ⟨w.heap.size+2,1,none⟩=false/\w'.frozen? ⟨w.heap.size+2,2,none⟩=false/\w'.frozen? ⟨w.heap.size+2,3,none⟩=false/\w'.frozen? ⟨w.heap.size+2,4,none⟩=false/\w'.frozen? ⟨w.heap.size+2,5,none⟩=false)) (exact JU w.heap.size a b sX sX zX) (first|(go_at_call 206;refine(Aj a.data b.data D hD _ a.da b.da a.dc b.dc _ (by first|(simp;done)|exact aF aM sM) (by first|(simp;done)|exact aF aM sM) (ha.data.later bQ) (hb.data.later bQ) ha.dn hb.dn la lb).mono ?_;rintro e w2 ⟨xa,xc,rfl,kc,pw,re,hbd⟩;have og:=dr re;clear re)|(go_at_call 207;refine(Ai a.tags b.tags G hG _ a.ta b.ta a.tc b.tc _ (by first|(simp;done)|exact aF aM sM) (by first|(simp;done)|exact aF aM sM) (ha.tags.later bQ) (hb.tags.later bQ) ha.tn hb.tn ma mb).mono ?_;rintro e w3 ⟨ya,yc,rfl,yp,B6,B5,uN⟩;have oo:=dr B5;clear B5))
 all_goals first|(have rL:bL w2 w3:=bQ;clear rL;go_wp2;have Z:aZ w3 (w.heap.size+1+1):=zX;obtain⟨m0,m1,m2,m3,m4,m5⟩:=gj Z (.bool a.wr) (i6 a.f) (i6 (a.m+b.m)) (.slice xa D.length xc) (.slice ya G.length yc) (i6 a.born);have aC:=(show bL w1 w2 from bQ).size;have bo:=(show bL w1 w3 from bQ).size;refine aaY (v:=.tuple #[(Rq.mk a.wr a.f (a.m+b.m) xa xc D ya yc G a.born).val,.bool true]) ?_ rfl ⟨_,rfl,⟨rfl,rfl,rfl,hD.out,hG.out,(by simp only;omega)⟩,(show Rq.At _ (eC w3 (w.heap.size+1+1) _ _ _ _ _ _) from⟨jr (kc.later bQ) (fun b' o' hh=>by have:=og.out b' o' hh;(try simp at this);omega) _ _ _ _ _ _,jq (yp.later bQ) (fun b' o' hh=>by have:=oo.out b' o' hh;(try simp at this);omega) _ _ _ _ _ _,HI.out.2.2.2.2.1,HI.out.2.2.2.2.2,HI.out.1,HI.out.2.1,(by first|exact HI.out.2.2.1|exact HI.out.2.2.2.1),pw,B6⟩),⟨(fun b' o' hh=>by have:=og.out b' o' hh;(try simp at this);omega),(fun b' o' hh=>by have:=oo.out b' o' hh;(try simp at this);omega)⟩,bQ⟩;(unfold eC at m0 m1 m2 m3 m4 m5;simp[results,results175,go_sem,m0,m1,m2,m3,m4,m5]))|(have rL:bL w3 w2:=bQ;clear rL;go_wp2;have Z:aZ w2 (w.heap.size+1+1):=zX;obtain⟨m0,m1,m2,m3,m4,m5⟩:=gj Z (.bool a.wr) (i6 a.f) (i6 (a.m+b.m)) (.slice xa D.length xc) (.slice ya G.length yc) (i6 a.born);have aC:=(show bL w1 w2 from bQ).size;have bo:=(show bL w1 w3 from bQ).size;refine aaY (v:=.tuple #[(Rq.mk a.wr a.f (a.m+b.m) xa xc D ya yc G a.born).val,.bool true]) ?_ rfl ⟨_,rfl,⟨rfl,rfl,rfl,hD.out,hG.out,(by simp only;omega)⟩,(show Rq.At _ (eC w2 (w.heap.size+1+1) _ _ _ _ _ _) from⟨jr (kc.later bQ) (fun b' o' hh=>by have:=og.out b' o' hh;(try simp at this);omega) _ _ _ _ _ _,jq (yp.later bQ) (fun b' o' hh=>by have:=oo.out b' o' hh;(try simp at this);omega) _ _ _ _ _ _,HI.out.2.2.2.2.1,HI.out.2.2.2.2.2,HI.out.1,HI.out.2.1,(by first|exact HI.out.2.2.1|exact HI.out.2.2.2.1),pw,B6⟩),⟨(fun b' o' hh=>by have:=og.out b' o' hh;(try simp at this);omega),(fun b' o' hh=>by have:=oo.out b' o' hh;(try simp at this);omega)⟩,bQ⟩;(unfold eC at m0 m1 m2 m3 m4 m5;simp[results,results175,go_sem,m0,m1,m2,m3,m4,m5]))
end
section
open Go.RowKit
theorem sh{a b:Rq}:gy a b=true↔a.f+a.m=b.f/\a.wr=b.wr/\a.m+b.m<=4/\a.tags.length+b.tags.length<=4:=by
 simp only[gy,abW,aba,ac3]
theorem bz.xE{r:Rq}(h:bz r)(hw:r.wr=true):(r.data.length:Int)=r.m:=by
 have:=h.shape
 simpa [kY,hw] using this
theorem bz.Gp{r:Rq}(h:bz r)(hw:r.wr=false):r.data=[]:=by
 have:=h.shape
 simpa [kY,hw] using this
theorem j6.bO{a b q:Rq}(ga:bz a)(gb:bz b)(h:j6 a b q)(ht:gy a b=true):bz q:=by
 obtain⟨t1,t2,t3,t4⟩:=sh.1 ht;have ba:=ga.mi;have bb:=gb.mi;have hm:=h.m;have hf:=h.f;refine⟨?_,?_,?_,?_,?_,?_,?_⟩
 ·simp only[gK,aba];omega
 ·unfold kY;rw[h.wr,h.data,aaQ,hm]
  cases hw:a.wr
  ·rw[ga.Gp hw,gb.Gp (t2▸hw)];rfl
  ·have:=ga.xE hw;have:=gb.xE (t2▸hw);simp only[afj,aba];omega
 ·rw[h.tags,aaQ];have:=ga.t1;omega
 ·rw[h.tags,aaQ];omega
 ·rw[h.born];have:=ga.b0;have:=gb.b0;omega
 ·rw[h.born];have:=ga.b1;omega
 ·have s1:=ga.small;have s2:=gb.small;unfold oR at *;rw[h.data,List.all_append,s1,s2];rfl
structure Joined(a b q:Rq):Prop where
 bO:bz q
 Zn:q.wr=a.wr
 wrb:q.wr=b.wr
 m:q.m=a.m+b.m
 tags:q.tags.length=a.tags.length+b.tags.length
 adN:q.born<=a.born
 adO:q.born<=b.born
 has:∀at':Int,gU q.f q.m at'=(gU a.f a.m at'||gU b.f b.m at')
 ina:q.wr=true->∀at':Int,gU a.f a.m at'=true->∃i j:Nat,at'-a.f=i/\at'-q.f=j/\∃(hi:i<a.data.length) (hj:j<q.data.length),q.data[j]=a.data[i]
 inb:q.wr=true->∀at':Int,gU b.f b.m at'=true->∃i j:Nat,at'-b.f=i/\at'-q.f=j/\∃(hi:i<b.data.length) (hj:j<q.data.length),q.data[j]=b.data[i]
theorem j6.FM{a b q:Rq}(ga:bz a)(gb:bz b)(h:j6 a b q)(ht:gy a b=true):Joined a b q:=by
 obtain⟨t1,t2,t3,t4⟩:=sh.1 ht;have ba:=ga.mi;have bb:=gb.mi;refine⟨h.bO ga gb ht,h.wr,h.wr.trans t2,h.m,by rw[h.tags,aaQ],?_,?_,?_,?_,?_⟩
 ·rw[h.born];omega
 ·rw[h.born];omega
 ·intro at';rw[h.f,h.m,ac0];simp only[gU,afS,aba]
  omega
 ·intro hw at' eB;simp only[gU,aba] at eB;have l1:=ga.xE (h.wr▸hw);refine⟨(at'-a.f).toNat,(at'-a.f).toNat,oM,by rw[h.f];omega,oM,by rw[h.data,aaQ];omega,?_⟩;simp only[h.data];rw[List.getElem_append_left oM]
 ·intro hw at' eB;simp only[gU,aba] at eB;have l1:=ga.xE (h.wr▸hw);have l2:=gb.xE (t2▸(h.wr▸hw));refine⟨(at'-b.f).toNat,(at'-a.f).toNat,oM,by rw[h.f];omega,oM,by rw[h.data,aaQ];omega,?_⟩;simp only[h.data];rw[af6 oM]
  congr 1
  omega
theorem Joined.swap{a b q:Rq}(h:Joined a b q):Joined b a q :=
 ⟨h.bO,h.wrb,h.Zn,by rw[h.m];omega,by rw[h.tags];omega,h.adO,h.adN,fun at'=>by rw[h.has,Bool.or_comm],h.inb,h.ina⟩
theorem C9{a b:Rq}(ga:bz a)(gb:bz b)(h:gy a b=true):(wrap64 (b.f+b.m)==a.f)=false/\(wrap64 (a.f+a.m)==b.f)=true:=by
 obtain⟨t1,_⟩:=sh.1 h;have ba:=ga.mi;have bb:=gb.mi;rw[EG oM oM oM oM,EG oM oM oM oM]
 constructor
 ·rw[aaU];omega
 ·rw[ac3];exact t1
end
section
open Go.RowKit Go.BigFrame
theorem T5(a b:Rq)(w:World)(ga:bz a)(gb:bz b)(h1:(wrap64 (a.f+a.m)==b.f)=true)(h2:gy a b=false) :
 Calls prog 175 #[b.val,a.val] w (rB (.tuple #[nh,.bool false]) w):=by
 go_enter func175,ntmps175;go_wp2_with fail;(go_at_call 204;refine(o4 _ _ _ _ _ _ h1).mono ?_;rintro e w0 ⟨rfl,fq⟩);obtain⟨T1,T2,T3,hw0⟩:=zS b a fq;obtain⟨U1,U2⟩:=Hs b a fq;have et:bL w w0:=bQ;clear fq;obtain⟨p0,p1,p2,p3,p4,p5⟩:=id T1;obtain⟨q0,q1,q2,q3,q4,q5⟩:=id T2;obtain⟨i0,i1,i2,i3,i4,i5⟩:=U1.2;obtain⟨j0,j1,j2,j3,j4,j5⟩:=U2.2;go_wp2_with fail;refine(zT a b _ ga gb _ h2).mono ?_;rintro e w1 ⟨rfl,aw⟩;have aN:bL w w1:=bQ;have eI:=aw.size;simp only[adk] at eI;have mT:Below (eC (eC w0 w.heap.size (.bool a.wr) (i6 a.f) (i6 a.m) (.slice a.da a.data.length a.dc) (.slice a.ta a.tags.length a.tc) (i6 a.born)) (w.heap.size+1) (.bool b.wr) (i6 b.f) (i6 b.m) (.slice b.da b.data.length b.dc) (.slice b.ta b.tags.length b.tc) (i6 b.born)).heap.size (eC (eC w0 w.heap.size (.bool a.wr) (i6 a.f) (i6 a.m) (.slice a.da a.data.length a.dc) (.slice a.ta a.tags.length a.tc) (i6 a.born)) (w.heap.size+1) (.bool b.wr) (i6 b.f) (i6 b.m) (.slice b.da b.data.length b.dc) (.slice b.ta b.tags.length b.tc) (i6 b.born)) w1:=aw;obtain⟨S1,S2,S3⟩:=EE a b U1 U2 T3 mT;have oN:w.heap.size+3<=w1.heap.size:=oM;clear aw mT et T1 T2 T3 U1 U2 p0 p1 p2 p3 p4 p5 q0 q1 q2 q3 q4 q5 i0 i1 i2 i3 i4 i5 j0 j1 j2 j3 j4 j5;obtain⟨p0,p1,p2,p3,p4,p5⟩:=id S1;obtain⟨q0,q1,q2,q3,q4,q5⟩:=id S2;obtain⟨⟨z0,z1,z2,z3,z4,z5⟩,⟨f0,f1,f2,f3,f4,f5⟩⟩:=id S3;have Z:aZ w1 (w.heap.size+1+1):=S3;obtain⟨m0,m1,m2,m3,m4,m5⟩:=gj Z (.bool false) (i6 0) (i6 0) (.slice none 0 0) (.slice none 0 0) (i6 0);unfold eC at m0 m1 m2 m3 m4 m5;go_wp2;refine aaY (v:=.tuple #[nh,.bool false]) ?_ rfl ⟨rfl,bQ⟩
 simp[results,results175,go_sem,m0,m1,m2,m3,m4,m5]
theorem Nh(a b:Rq)(w:World)(ga:bz a)(gb:bz b)(h:gy a b=false)(h':gy b a=false) :
 Calls prog 175 #[a.val,b.val] w (rB (.tuple #[nh,.bool false]) w):=by
 cases h1:(wrap64 (b.f+b.m)==a.f)
 ·exact W5 a b w ga gb h1 h
 ·exact T5 b a w gb ga h1 h'
theorem Nk(a b:Rq)(w:World)(ga:bz a)(gb:bz b)(ha:a.At w)(hb:b.At w)(h:gy a b=true) :
 Calls prog 175 #[a.val,b.val] w fun e w'=>∃q:Rq,e=.returned (.tuple #[q.val,.bool true])/\j6 a b q/\q.At w'/\qL q w.heap.size/\bL w w':=by
 rcases agP (b.born<a.born) with hm|hm
 ·exact Qu a b w ga gb ha hb (C9 ga gb h).1 h _ rfl _ rfl hm
 ·exact Qv a b w ga gb ha hb (C9 ga gb h).1 h _ rfl _ rfl hm
theorem LK(a b:Rq)(w:World)(ga:bz a)(gb:bz b)(ha:a.At w)(hb:b.At w)(h:gy a b=true) :
 Calls prog 175 #[b.val,a.val] w fun e w'=>∃q:Rq,e=.returned (.tuple #[q.val,.bool true])/\j6 a b q/\q.At w'/\qL q w.heap.size/\bL w w':=by
 rcases agP (b.born<a.born) with hm|hm
 ·exact Ni a b w ga gb ha hb (C9 ga gb h).2 h _ rfl _ rfl hm
 ·exact Nj a b w ga gb ha hb (C9 ga gb h).2 h _ rfl _ rfl hm
def jx(o r:Rq):Bool:=gy o r||gy r o
def xJ(o r q:Rq):Prop:=(gy o r=true/\j6 o r q)\/(gy o r=false/\gy r o=true/\j6 r o q)
theorem xJ.FM{o r q:Rq}(go:bz o)(gr:bz r)(h:xJ o r q):Joined o r q:=by
 rcases h with⟨h1,h2⟩|⟨_,h1,h2⟩
 ·exact h2.FM go gr h1
 ·exact(h2.FM gr go h1).swap
theorem adj(o r:Rq)(w:World)(go:bz o)(gr:bz r)(h:jx o r=false) :
 Calls prog 175 #[o.val,r.val] w (rB (.tuple #[nh,.bool false]) w):=by
 simp only[jx,afe] at h;exact Nh o r w go gr h.1 h.2
def iX(r o:Rq):Bool:=yx o.f o.m r.f r.m
theorem oy(w:World)(T:TypeId)(a:Rq):bj (w.alloc (.cells #[.bool a.wr,i6 a.f,i6 a.m,.slice a.da a.data.length a.dc,.slice a.ta a.tags.length a.tc,i6 a.born] T)) w.heap.size a:=by
 refine⟨?_,?_,?_,?_,?_,?_⟩<;>simp
theorem DU(r:Rq)(w:World)(hr:r.At w)(hn:oF r=0):Calls prog 172 #[r.val] w (rB .nilIface w):=QO r w hr 0 hn
theorem VI(l:List Rq)(a:Option Addr)(c:Nat)(r:Rq)(w:World)(hl:aW w a l)(hr:r.At w)(hn:oF r=0)(hm:l.any (iX r)=true) :
 Calls prog 128 #[.slice a l.length c,r.val] w (rB (.tuple #[.slice none 0 0,.iface 87 (i6 6)]) w):=by
 go_enter func128,ntmps128;go_wp2_with fail;refine cM (DU r _ (hr.later (aA _ _)) hn) ?_;intro w1 hb;have S:=(oy w 146 r).later hb;have HS:=dr S;go_wp2_with fail;refine cM (vf 173 (by intro args w;go_simp) (.pointer (some ⟨w.heap.size,0,none⟩)) (iX r) l a c _ (hl.later bQ) (fun x w' _ hJ=>IZ x r w.heap.size w' (aF hJ HS.out.2.1) (aF hJ HS.out.2.2.1)) true hm) ?_;intro w2 aC;go_wp2
 go_ret2
 exact⟨rfl,bQ⟩
def vQ(w:World)(b p:Nat)(v0 v1 v2 v3 v4 v5:Value):World:=(((((w.setCell ⟨b,p,none⟩ v0).setCell ⟨b,p+1,none⟩ v1).setCell ⟨b,p+2,none⟩ v2).setCell ⟨b,p+3,none⟩ v3).setCell ⟨b,p+4,none⟩ v4).setCell ⟨b,p+5,none⟩ v5
theorem UZ{w:World}{b p:Nat}{v0 v1 v2 v3 v4 v5:Value}{o:Nat}(h:o<p\/p+6<=o):(vQ w b p v0 v1 v2 v3 v4 v5).cell? ⟨b,o,none⟩=w.cell? ⟨b,o,none⟩:=by
 have ne:∀i:Nat,i<6->∀(W:World) (u:Value),(W.setCell ⟨b,p+i,none⟩ u).cell? ⟨b,o,none⟩=W.cell? ⟨b,o,none⟩:=fun i hi W u=>aa6 _ _ _ _ (fun e=>by injection e with _ e _;omega)
 unfold vQ;rw[ne 5 dM,ne 4 dM,ne 3 dM,ne 2 dM,ne 1 dM];exact ne 0 dM _ _
theorem XM{w:World}{b p:Nat}(v:Nat->Value)(h:∀j,j<6->∃u,w.cell? ⟨b,p+j,none⟩=some u)(j:Nat)(hj:j<6):(vQ w b p (v 0) (v 1) (v 2) (v 3) (v 4) (v 5)).cell? ⟨b,p+j,none⟩=some (v j):=by
 have ne:∀i j:Nat,i ≠ j->∀(W:World) (u:Value),(W.setCell ⟨b,p+i,none⟩ u).cell? ⟨b,p+j,none⟩=W.cell? ⟨b,p+j,none⟩:=fun i j qB W u=>aa6 _ _ _ _ (fun e=>qB (by injection e with _ e _;omega))
 have Ua:∀j:Nat,0 ≠ j->∀(W:World) (u:Value),(W.setCell ⟨b,p,none⟩ u).cell? ⟨b,p+j,none⟩=W.cell? ⟨b,p+j,none⟩:=fun j hj W u=>ne 0 j hj W u
 obtain⟨u,hu⟩:=h j hj;unfold vQ
 match j,hj with
 |0,_=>rw[ne 5 0 dM,ne 4 0 dM,ne 3 0 dM,ne 2 0 dM,ne 1 0 dM];exact aa2 _ _ _ hu
 |1,_=>rw[ne 5 1 dM,ne 4 1 dM,ne 3 1 dM,ne 2 1 dM];exact aa2 _ _ _ ((Ua 1 dM _ _).trans hu)
 |2,_=>rw[ne 5 2 dM,ne 4 2 dM,ne 3 2 dM];exact aa2 _ _ _ ((ne 1 2 dM _ _).trans ((Ua 2 dM _ _).trans hu))
 |3,_=>rw[ne 5 3 dM,ne 4 3 dM];exact aa2 _ _ _ ((ne 2 3 dM _ _).trans ((ne 1 3 dM _ _).trans ((Ua 3 dM _ _).trans hu)))
 |4,_=>rw[ne 5 4 dM];exact aa2 _ _ _ ((ne 3 4 dM _ _).trans ((ne 2 4 dM _ _).trans ((ne 1 4 dM _ _).trans ((Ua 4 dM _ _).trans hu))))
 |5,_=>exact aa2 _ _ _ ((ne 4 5 dM _ _).trans ((ne 3 5 dM _ _).trans ((ne 2 5 dM _ _).trans ((ne 1 5 dM _ _).trans ((Ua 5 dM _ _).trans hu)))))
theorem aW.put{w W:World}{b k:Nat}{l:List Rq}{q:Rq}(h:aW w (some ⟨b,0,none⟩) l)(hk:k<l.length)(eB:∀r∈l,r.At W)(hq:q.At W)(e:W=vQ w b (k*6) (q.cell 0) (q.cell 1) (q.cell 2) (q.cell 3) (q.cell 4) (q.cell 5)):aW W (some ⟨b,0,none⟩) (l.set k q):=by
 rcases h.1 with rfl|⟨b',o',ha,hc⟩
 ·exact absurd hk (aa0 _)
 ·simp only[aa4,aci,acS] at ha;obtain⟨rfl,rfl⟩:=ha;refine⟨ir ⟨b,0,rfl,fun i hi m hm=>?_⟩,fun r hr=>?_,by rw[abS];exact h.2.2⟩
  ·have pL:i<l.length:=by simpa using hi
   by_cases ik:i=k
   ·subst ik;rw[afc,e,abc];exact XM (fun j=>q.cell j) (fun j hj=>⟨_,by have:=hc i pL j hj;rwa [abc] at this⟩) m hm
   ·rw[afb (fun h=>ik h.symm),e,UZ oM];exact hc i pL m hm
  ·rcases acb hr with hr|rfl
   ·exact eB r hr
   ·exact hq
end
end Go.Proofs.YtlhgjplipgandaaGreatDoor
