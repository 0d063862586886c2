/- Joined texts: Merge8, Both, Merge9. -/
import Derived.Test.YtlhgjplipgandaaGreatDoorD22
import Derived.Test.YtlhgjplipgandaaGreatDoorD23
import Derived.Test.YtlhgjplipgandaaGreatDoorD24
set_option maxRecDepth 100000
set_option maxHeartbeats 8000000
set_option linter.unusedSimpArgs false
namespace Go.Proofs.YtlhgjplipgandaaGreatDoor
open Go.RowKit Go.BigFrame
attribute [local go_sem] ze.cell ze.frozen
theorem zj0(a b:Rq)(w:World)(ga:zv a)(gb:zv b)(ha:a.At w)(hb:b.At w)(h1:(wrap64 (a.f+a.m)==b.f)=true)(h2:zaK a b=true)(D:List ByteArray)(hD:Hid (D=a.data++b.data))(G:List Int)(hG:Hid (G=a.tags++b.tags))(hm:¬b.born<a.born) :
 Calls Tryz.prog 175 #[b.val,a.val] w fun e w'=>∃q:Rq,e=.returned (.tuple #[q.val,.bool true])∧zba a b q∧q.At w'∧zcB q w.heap.size∧Below w.heap.size w w':=by
 obtain⟨x1,x2,x3,x4,x5⟩:=ga.bnd;obtain⟨y1,y2,y3,y4,y5⟩:=gb.bnd;have la:a.data.length≤100000:=by have:=ga.d4;omega
 have lb:b.data.length≤100000:=by have:=gb.d4;omega
 have ma:a.tags.length≤100000:=by have:=ga.t4;omega
 have mb:b.tags.length≤100000:=by have:=gb.t4;omega
 have e2:IntKind.i64.wrap (a.m+b.m)=a.m+b.m:=by rw[IntKind.wrap_i64];omega
 have HI:Hid (zai a.f∧zai (a.m+b.m)∧zai a.born∧zai b.born∧D.length≤9223372036854775807∧G.length≤9223372036854775807):=by
  refine⟨ha.f,⟨by omega,by omega⟩,ha.born,hb.born,?_,?_⟩
  ·rw[hD.out,List.length_append];omega
  ·rw[hG.out,List.length_append];omega
 go_enter Tryz.func175,Tryz.ntmps175;go_wp2_with fail;(go_at_call 204;refine(zch _ _ _ _ _ _ h1).mono ?_;rintro e w0 ⟨rfl,hb0⟩);obtain⟨T1,T2,T3,hw0⟩:=zeK b a hb0;obtain⟨U1,U2⟩:=zhP b a hb0;have HB0:Below w.heap.size w w0:=(by(with_reducible repeat first|exact Below.refl _ _|refine zc ?_ _|refine zd ?_|refine bset' ?_ (by omega) _|refine zb ?_ (by assumption)));clear hb0;obtain⟨p0,p1,p2,p3,p4,p5⟩:=id T1;obtain⟨q0,q1,q2,q3,q4,q5⟩:=id T2;obtain⟨i0,i1,i2,i3,i4,i5⟩:=U1.2;obtain⟨j0,j1,j2,j3,j4,j5⟩:=U2.2;go_wp2_with fail;refine(zeL a b _ ga gb _ h2).mono ?_;rintro e w1 ⟨rfl,hb1⟩;have HB1:Below w.heap.size w w1:=(by(with_reducible repeat first|exact Below.refl _ _|refine zc ?_ _|refine zd ?_|refine bset' ?_ (by omega) _|refine zb ?_ (by assumption)));have hs1:=hb1.size;simp only[World.size_setCell] at hs1;have hb1':Below (zap (zap w0 w.heap.size (.bool a.wr) (.int .i64 a.f) (.int .i64 a.m) (.slice a.da a.data.length a.dc) (.slice a.ta a.tags.length a.tc) (.int .i64 a.born)) (w.heap.size+1) (.bool b.wr) (.int .i64 b.f) (.int .i64 b.m) (.slice b.da b.data.length b.dc) (.slice b.ta b.tags.length b.tc) (.int .i64 b.born)).heap.size (zap (zap w0 w.heap.size (.bool a.wr) (.int .i64 a.f) (.int .i64 a.m) (.slice a.da a.data.length a.dc) (.slice a.ta a.tags.length a.tc) (.int .i64 a.born)) (w.heap.size+1) (.bool b.wr) (.int .i64 b.f) (.int .i64 b.m) (.slice b.da b.data.length b.dc) (.slice b.ta b.tags.length b.tc) (.int .i64 b.born)) w1:=hb1;obtain⟨S1,S2,S3⟩:=zgA a b U1 U2 T3 hb1';have hws:w.heap.size+3≤w1.heap.size:=(by omega);clear hb1 hb1' HB0 T1 T2 T3 U1 U2 p0 p1 p2 p3 p4 p5 q0 q1 q2 q3 q4 q5 i0 i1 i2 i3 i4 i5 j0 j1 j2 j3 j4 j5;go_wp2_with fail;obtain⟨p0,p1,p2,p3,p4,p5⟩:=id S1;obtain⟨q0,q1,q2,q3,q4,q5⟩:=id S2;obtain⟨⟨z0,z1,z2,z3,z4,z5⟩,⟨f0,f1,f2,f3,f4,f5⟩⟩:=id S3
 go_region_held3 (fun w'=>(w'.cell? ⟨w.heap.size,0,none⟩=some (.bool a.wr)∧w'.cell? ⟨w.heap.size,1,none⟩=some (.int .i64 a.f)∧w'.cell? ⟨w.heap.size,2,none⟩=some (.int .i64 a.m)∧w'.cell? ⟨w.heap.size,3,none⟩=some (.slice a.da a.data.length a.dc)∧w'.cell? ⟨w.heap.size,4,none⟩=some (.slice a.ta a.tags.length a.tc)∧w'.cell? ⟨w.heap.size,5,none⟩=some (.int .i64 a.born))∧(w'.cell? ⟨w.heap.size+1,0,none⟩=some (.bool b.wr)∧w'.cell? ⟨w.heap.size+1,1,none⟩=some (.int .i64 b.f)∧w'.cell? ⟨w.heap.size+1,2,none⟩=some (.int .i64 b.m)∧w'.cell? ⟨w.heap.size+1,3,none⟩=some (.slice b.da b.data.length b.dc)∧w'.cell? ⟨w.heap.size+1,4,none⟩=some (.slice b.ta b.tags.length b.tc)∧w'.cell? ⟨w.heap.size+1,5,none⟩=some (.int .i64 b.born))∧(w'.cell? ⟨w.heap.size+2,0,none⟩=some (zM w' ⟨w.heap.size+2,0,none⟩)∧w'.cell? ⟨w.heap.size+2,1,none⟩=some (zM w' ⟨w.heap.size+2,1,none⟩)∧w'.cell? ⟨w.heap.size+2,2,none⟩=some (zM w' ⟨w.heap.size+2,2,none⟩)∧w'.cell? ⟨w.heap.size+2,3,none⟩=some (zM w' ⟨w.heap.size+2,3,none⟩)∧w'.cell? ⟨w.heap.size+2,4,none⟩=some (zM w' ⟨w.heap.size+2,4,none⟩)∧w'.cell? ⟨w.heap.size+2,5,none⟩=some (zM w' ⟨w.heap.size+2,5,none⟩))∧(w'.frozen? ⟨w.heap.size+2,0,none⟩=false∧w'.frozen? ⟨w.heap.size+2,1,none⟩=false∧w'.frozen? ⟨w.heap.size+2,2,none⟩=false∧w'.frozen? ⟨w.heap.size+2,3,none⟩=false∧w'.frozen? ⟨w.heap.size+2,4,none⟩=false∧w'.frozen? ⟨w.heap.size+2,5,none⟩=false)) (exact ziH w.heap.size a b (by repeat(first|with_reducible exact S1|with_reducible refine Six.drew ?_|with_reducible refine Six.alloc ?_ _|with_reducible refine Six.later ?_ (by assumption)|with_reducible refine Six.set ?_ (by omega) _)) (by repeat(first|with_reducible exact S2|with_reducible refine Six.drew ?_|with_reducible refine Six.alloc ?_ _|with_reducible refine Six.later ?_ (by assumption)|with_reducible refine Six.set ?_ (by omega) _)) (by repeat(first|with_reducible exact S3|with_reducible refine Zix.drew ?_|with_reducible refine Zix.alloc ?_ _|with_reducible refine Zix.later ?_ (by assumption)|with_reducible refine Zix.set ?_ _ _))) (first|(go_at_call 206;refine(zeW a.data b.data D hD _ a.da b.da a.dc b.dc _ (by first|(simp;done)|exact cell_later' (by assumption) (by simp)) (by first|(simp;done)|exact cell_later' (by assumption) (by simp)) (ha.data.later (by(with_reducible repeat first|exact Below.refl _ _|refine zc ?_ _|refine zd ?_|refine bset' ?_ (by omega) _|refine zb ?_ (by assumption)))) (hb.data.later (by(with_reducible repeat first|exact Below.refl _ _|refine zc ?_ _|refine zd ?_|refine bset' ?_ (by omega) _|refine zb ?_ (by assumption)))) ha.dn hb.dn la lb).mono ?_;rintro e w2 ⟨xa,xc,rfl,hxs,hxn,hxb,hbd⟩;have hxb':=za5 hxb;clear hxb)|(go_at_call 207;refine(zeV a.tags b.tags G hG _ a.ta b.ta a.tc b.tc _ (by first|(simp;done)|exact cell_later' (by assumption) (by simp)) (by first|(simp;done)|exact cell_later' (by assumption) (by simp)) (ha.tags.later (by(with_reducible repeat first|exact Below.refl _ _|refine zc ?_ _|refine zd ?_|refine bset' ?_ (by omega) _|refine zb ?_ (by assumption)))) (hb.tags.later (by(with_reducible repeat first|exact Below.refl _ _|refine zc ?_ _|refine zd ?_|refine bset' ?_ (by omega) _|refine zb ?_ (by assumption)))) ha.tn hb.tn ma mb).mono ?_;rintro e w3 ⟨ya,yc,rfl,hys,hyn,hyb,hbt⟩;have hyb':=za5 hyb;clear hyb))
 all_goals first|(have hord:Below w2.heap.size w2 w3:=(by(with_reducible repeat first|exact Below.refl _ _|refine zc ?_ _|refine zd ?_|refine bset' ?_ (by omega) _|refine zb ?_ (by assumption)));clear hord;go_wp2;have Z:Zix w3 (w.heap.size+1+1):=(by repeat(first|with_reducible exact S3|with_reducible refine Zix.drew ?_|with_reducible refine Zix.alloc ?_ _|with_reducible refine Zix.later ?_ (by assumption)|with_reducible refine Zix.set ?_ _ _));obtain⟨m0,m1,m2,m3,m4,m5⟩:=zaX Z (.bool a.wr) (.int .i64 a.f) (.int .i64 (a.m+b.m)) (.slice xa D.length xc) (.slice ya G.length yc) (.int .i64 a.born);have hb2:=(show Below w1.heap.size w1 w2 by(with_reducible repeat first|exact Below.refl _ _|refine zc ?_ _|refine zd ?_|refine bset' ?_ (by omega) _|refine zb ?_ (by assumption))).size;have hb3:=(show Below w1.heap.size w1 w3 by(with_reducible repeat first|exact Below.refl _ _|refine zc ?_ _|refine zd ?_|refine bset' ?_ (by omega) _|refine zb ?_ (by assumption))).size;refine bodyPost_ret (v:=.tuple #[(Rq.mk a.wr a.f (a.m+b.m) xa xc D ya yc G a.born).val,.bool true]) ?_ rfl ⟨_,rfl,⟨rfl,rfl,rfl,hD.out,hG.out,(by simp only;omega)⟩,(show Rq.At _ (zap w3 (w.heap.size+1+1) _ _ _ _ _ _) from⟨zbW (hxs.later (by(with_reducible repeat first|exact Below.refl _ _|refine zc ?_ _|refine zd ?_|refine bset' ?_ (by omega) _|refine zb ?_ (by assumption)))) (fun b' o' hh=>by have:=hxb'.out b' o' hh;(try simp at this);omega) _ _ _ _ _ _,zbV (hys.later (by(with_reducible repeat first|exact Below.refl _ _|refine zc ?_ _|refine zd ?_|refine bset' ?_ (by omega) _|refine zb ?_ (by assumption)))) (fun b' o' hh=>by have:=hyb'.out b' o' hh;(try simp at this);omega) _ _ _ _ _ _,HI.out.2.2.2.2.1,HI.out.2.2.2.2.2,HI.out.1,HI.out.2.1,(by first|exact HI.out.2.2.1|exact HI.out.2.2.2.1),hxn,hyn⟩),⟨(fun b' o' hh=>by have:=hxb'.out b' o' hh;(try simp at this);omega),(fun b' o' hh=>by have:=hyb'.out b' o' hh;(try simp at this);omega)⟩,(by(with_reducible repeat first|exact Below.refl _ _|refine zc ?_ _|refine zd ?_|refine bset' ?_ (by omega) _|refine zb ?_ (by assumption)))⟩;(unfold zap at m0 m1 m2 m3 m4 m5;simp[results,Tryz.results175,go_sem,m0,m1,m2,m3,m4,m5]))|(have hord:Below w3.heap.size w3 w2:=(by(with_reducible repeat first|exact Below.refl _ _|refine zc ?_ _|refine zd ?_|refine bset' ?_ (by omega) _|refine zb ?_ (by assumption)));clear hord;go_wp2;have Z:Zix w2 (w.heap.size+1+1):=(by repeat(first|with_reducible exact S3|with_reducible refine Zix.drew ?_|with_reducible refine Zix.alloc ?_ _|with_reducible refine Zix.later ?_ (by assumption)|with_reducible refine Zix.set ?_ _ _));obtain⟨m0,m1,m2,m3,m4,m5⟩:=zaX Z (.bool a.wr) (.int .i64 a.f) (.int .i64 (a.m+b.m)) (.slice xa D.length xc) (.slice ya G.length yc) (.int .i64 a.born);have hb2:=(show Below w1.heap.size w1 w2 by(with_reducible repeat first|exact Below.refl _ _|refine zc ?_ _|refine zd ?_|refine bset' ?_ (by omega) _|refine zb ?_ (by assumption))).size;have hb3:=(show Below w1.heap.size w1 w3 by(with_reducible repeat first|exact Below.refl _ _|refine zc ?_ _|refine zd ?_|refine bset' ?_ (by omega) _|refine zb ?_ (by assumption))).size;refine bodyPost_ret (v:=.tuple #[(Rq.mk a.wr a.f (a.m+b.m) xa xc D ya yc G a.born).val,.bool true]) ?_ rfl ⟨_,rfl,⟨rfl,rfl,rfl,hD.out,hG.out,(by simp only;omega)⟩,(show Rq.At _ (zap w2 (w.heap.size+1+1) _ _ _ _ _ _) from⟨zbW (hxs.later (by(with_reducible repeat first|exact Below.refl _ _|refine zc ?_ _|refine zd ?_|refine bset' ?_ (by omega) _|refine zb ?_ (by assumption)))) (fun b' o' hh=>by have:=hxb'.out b' o' hh;(try simp at this);omega) _ _ _ _ _ _,zbV (hys.later (by(with_reducible repeat first|exact Below.refl _ _|refine zc ?_ _|refine zd ?_|refine bset' ?_ (by omega) _|refine zb ?_ (by assumption)))) (fun b' o' hh=>by have:=hyb'.out b' o' hh;(try simp at this);omega) _ _ _ _ _ _,HI.out.2.2.2.2.1,HI.out.2.2.2.2.2,HI.out.1,HI.out.2.1,(by first|exact HI.out.2.2.1|exact HI.out.2.2.2.1),hxn,hyn⟩),⟨(fun b' o' hh=>by have:=hxb'.out b' o' hh;(try simp at this);omega),(fun b' o' hh=>by have:=hyb'.out b' o' hh;(try simp at this);omega)⟩,(by(with_reducible repeat first|exact Below.refl _ _|refine zc ?_ _|refine zd ?_|refine bset' ?_ (by omega) _|refine zb ?_ (by assumption)))⟩;(unfold zap at m0 m1 m2 m3 m4 m5;simp[results,Tryz.results175,go_sem,m0,m1,m2,m3,m4,m5]))
end Go.Proofs.YtlhgjplipgandaaGreatDoor
namespace Go.Proofs.YtlhgjplipgandaaGreatDoor
open Go.RowKit
theorem zhQ{a b:Rq}:zaK a b=true↔a.f+a.m=b.f∧a.wr=b.wr∧a.m+b.m≤4∧a.tags.length+b.tags.length≤4:=by
 simp only[zaK,Bool.and_eq_true,decide_eq_true_eq,beq_iff_eq]
theorem zv.shapeW{r:Rq}(h:zv r)(hw:r.wr=true):(r.data.length:Int)=r.m:=by
 have:=h.shape
 simpa [zcb,hw] using this
theorem zv.shapeR{r:Rq}(h:zv r)(hw:r.wr=false):r.data=[]:=by
 have:=h.shape
 simpa [zcb,hw] using this
theorem zba.good{a b q:Rq}(ga:zv a)(gb:zv b)(h:zba a b q)(ht:zaK a b=true):zv q:=by
 obtain⟨t1,t2,t3,t4⟩:=zhQ.1 ht;have ba:=ga.bnd;have bb:=gb.bnd;have hm:=h.m;have hf:=h.f;refine⟨?_,?_,?_,?_,?_,?_,?_⟩
 ·simp only[okB,decide_eq_true_eq];omega
 ·unfold zcb;rw[h.wr,h.data,List.length_append,hm]
  cases hw:a.wr
  ·rw[ga.shapeR hw,gb.shapeR (t2▸hw)];rfl
  ·have:=ga.shapeW hw;have:=gb.shapeW (t2▸hw);simp only[if_true,decide_eq_true_eq];omega
 ·rw[h.tags,List.length_append];have:=ga.t1;omega
 ·rw[h.tags,List.length_append];omega
 ·rw[h.born];have:=ga.b0;have:=gb.b0;omega
 ·rw[h.born];have:=ga.b1;omega
 ·have s1:=ga.small;have s2:=gb.small;unfold zcH at *;rw[h.data,List.all_append,s1,s2];rfl
structure Joined(a b q:Rq):Prop where
 good:zv q
 wra:q.wr=a.wr
 wrb:q.wr=b.wr
 m:q.m=a.m+b.m
 tags:q.tags.length=a.tags.length+b.tags.length
 borna:q.born≤a.born
 bornb:q.born≤b.born
 has:∀at':Int,zbh q.f q.m at'=(zbh a.f a.m at'||zbh b.f b.m at')
 ina:q.wr=true→∀at':Int,zbh a.f a.m at'=true→∃i j:Nat,at'-a.f=i∧at'-q.f=j∧∃(hi:i<a.data.length) (hj:j<q.data.length),q.data[j]=a.data[i]
 inb:q.wr=true→∀at':Int,zbh b.f b.m at'=true→∃i j:Nat,at'-b.f=i∧at'-q.f=j∧∃(hi:i<b.data.length) (hj:j<q.data.length),q.data[j]=b.data[i]
theorem zba.joined{a b q:Rq}(ga:zv a)(gb:zv b)(h:zba a b q)(ht:zaK a b=true):Joined a b q:=by
 obtain⟨t1,t2,t3,t4⟩:=zhQ.1 ht;have ba:=ga.bnd;have bb:=gb.bnd;refine⟨h.good ga gb ht,h.wr,h.wr.trans t2,h.m,by rw[h.tags,List.length_append],?_,?_,?_,?_,?_⟩
 ·rw[h.born];omega
 ·rw[h.born];omega
 ·intro at';rw[h.f,h.m,Bool.eq_iff_iff];simp only[zbh,Bool.or_eq_true,decide_eq_true_eq]
  omega
 ·intro hw at' hat;simp only[zbh,decide_eq_true_eq] at hat;have l1:=ga.shapeW (h.wr▸hw);refine⟨(at'-a.f).toNat,(at'-a.f).toNat,by omega,by rw[h.f];omega,by omega,by rw[h.data,List.length_append];omega,?_⟩;simp only[h.data];rw[List.getElem_append_left (by omega)]
 ·intro hw at' hat;simp only[zbh,decide_eq_true_eq] at hat;have l1:=ga.shapeW (h.wr▸hw);have l2:=gb.shapeW (t2▸(h.wr▸hw));refine⟨(at'-b.f).toNat,(at'-a.f).toNat,by omega,by rw[h.f];omega,by omega,by rw[h.data,List.length_append];omega,?_⟩;simp only[h.data];rw[List.getElem_append_right (by omega)]
  congr 1
  omega
theorem Joined.swap{a b q:Rq}(h:Joined a b q):Joined b a q :=
 ⟨h.good,h.wrb,h.wra,by rw[h.m];omega,by rw[h.tags];omega,h.bornb,h.borna,fun at'=>by rw[h.has,Bool.or_comm],h.inb,h.ina⟩
theorem zba.same{a b q r:Rq}(h:zba a b q)(k:zba a b r):sameB q r=true:=by
 unfold sameB eqS eqN;rw[h.wr,h.f,h.m,h.data,h.tags,h.born,k.wr,k.f,k.m,k.data,k.tags,k.born]
 simp
theorem zf1{a b:Rq}(ga:zv a)(gb:zv b)(h:zaK a b=true):(wrap64 (b.f+b.m)==a.f)=false∧(wrap64 (a.f+a.m)==b.f)=true:=by
 obtain⟨t1,_⟩:=zhQ.1 h;have ba:=ga.bnd;have bb:=gb.bnd;rw[zgD (by omega) (by omega) (by omega) (by omega),zgD (by omega) (by omega) (by omega) (by omega)]
 constructor
 ·rw[beq_eq_false_iff_ne];omega
 ·rw[beq_iff_eq];exact t1
end Go.Proofs.YtlhgjplipgandaaGreatDoor
namespace Go.Proofs.YtlhgjplipgandaaGreatDoor
open Go.RowKit Go.BigFrame
attribute [local go_sem] ze.cell ze.frozen
theorem zmX(a b:Rq)(w:World)(ga:zv a)(gb:zv b)(h1:(wrap64 (a.f+a.m)==b.f)=true)(h2:zaK a b=false) :
 Calls Tryz.prog 175 #[b.val,a.val] w fun e w'=>e=.returned (.tuple #[zfT,.bool false])∧Below w.heap.size w w':=by
 go_enter Tryz.func175,Tryz.ntmps175;go_wp2_with fail;(go_at_call 204;refine(zch _ _ _ _ _ _ h1).mono ?_;rintro e w0 ⟨rfl,hb0⟩);obtain⟨T1,T2,T3,hw0⟩:=zeK b a hb0;obtain⟨U1,U2⟩:=zhP b a hb0;have HB0:Below w.heap.size w w0:=(by(with_reducible repeat first|exact Below.refl _ _|refine zc ?_ _|refine zd ?_|refine bset' ?_ (by omega) _|refine zb ?_ (by assumption)));clear hb0;obtain⟨p0,p1,p2,p3,p4,p5⟩:=id T1;obtain⟨q0,q1,q2,q3,q4,q5⟩:=id T2;obtain⟨i0,i1,i2,i3,i4,i5⟩:=U1.2;obtain⟨j0,j1,j2,j3,j4,j5⟩:=U2.2;go_wp2_with fail;refine(zeL a b _ ga gb _ h2).mono ?_;rintro e w1 ⟨rfl,hb1⟩;have HB1:Below w.heap.size w w1:=(by(with_reducible repeat first|exact Below.refl _ _|refine zc ?_ _|refine zd ?_|refine bset' ?_ (by omega) _|refine zb ?_ (by assumption)));have hs1:=hb1.size;simp only[World.size_setCell] at hs1;have hb1':Below (zap (zap w0 w.heap.size (.bool a.wr) (.int .i64 a.f) (.int .i64 a.m) (.slice a.da a.data.length a.dc) (.slice a.ta a.tags.length a.tc) (.int .i64 a.born)) (w.heap.size+1) (.bool b.wr) (.int .i64 b.f) (.int .i64 b.m) (.slice b.da b.data.length b.dc) (.slice b.ta b.tags.length b.tc) (.int .i64 b.born)).heap.size (zap (zap w0 w.heap.size (.bool a.wr) (.int .i64 a.f) (.int .i64 a.m) (.slice a.da a.data.length a.dc) (.slice a.ta a.tags.length a.tc) (.int .i64 a.born)) (w.heap.size+1) (.bool b.wr) (.int .i64 b.f) (.int .i64 b.m) (.slice b.da b.data.length b.dc) (.slice b.ta b.tags.length b.tc) (.int .i64 b.born)) w1:=hb1;obtain⟨S1,S2,S3⟩:=zgA a b U1 U2 T3 hb1';have hws:w.heap.size+3≤w1.heap.size:=(by omega);clear hb1 hb1' HB0 T1 T2 T3 U1 U2 p0 p1 p2 p3 p4 p5 q0 q1 q2 q3 q4 q5 i0 i1 i2 i3 i4 i5 j0 j1 j2 j3 j4 j5;obtain⟨p0,p1,p2,p3,p4,p5⟩:=id S1;obtain⟨q0,q1,q2,q3,q4,q5⟩:=id S2;obtain⟨⟨z0,z1,z2,z3,z4,z5⟩,⟨f0,f1,f2,f3,f4,f5⟩⟩:=id S3;have Z:Zix w1 (w.heap.size+1+1):=S3;obtain⟨m0,m1,m2,m3,m4,m5⟩:=zaX Z (.bool false) (.int .i64 0) (.int .i64 0) (.slice none 0 0) (.slice none 0 0) (.int .i64 0);unfold zap at m0 m1 m2 m3 m4 m5;go_wp2;refine bodyPost_ret (v:=.tuple #[zfT,.bool false]) ?_ rfl ⟨rfl,by(with_reducible repeat first|exact Below.refl _ _|refine zc ?_ _|refine zd ?_|refine bset' ?_ (by omega) _|refine zb ?_ (by assumption))⟩
 simp[results,Tryz.results175,go_sem,m0,m1,m2,m3,m4,m5]
theorem zjY(a b:Rq)(w:World)(ga:zv a)(gb:zv b)(h:zaK a b=false)(h':zaK b a=false) :
 Calls Tryz.prog 175 #[a.val,b.val] w fun e w'=>e=.returned (.tuple #[zfT,.bool false])∧Below w.heap.size w w':=by
 cases h1:(wrap64 (b.f+b.m)==a.f)
 ·exact zom a b w ga gb h1 h
 ·exact zmX b a w gb ga h1 h'
theorem zj1(a b:Rq)(w:World)(ga:zv a)(gb:zv b)(ha:a.At w)(hb:b.At w)(h:zaK a b=true) :
 Calls Tryz.prog 175 #[a.val,b.val] w fun e w'=>∃q:Rq,e=.returned (.tuple #[q.val,.bool true])∧zba a b q∧q.At w'∧zcB q w.heap.size∧Below w.heap.size w w':=by
 rcases Decidable.em (b.born<a.born) with hm|hm
 ·exact zlz a b w ga gb ha hb (zf1 ga gb h).1 h _ rfl _ rfl hm
 ·exact zlA a b w ga gb ha hb (zf1 ga gb h).1 h _ rfl _ rfl hm
theorem merge_trueN'(a b:Rq)(w:World)(ga:zv a)(gb:zv b)(ha:a.At w)(hb:b.At w)(h:zaK a b=true) :
 Calls Tryz.prog 175 #[b.val,a.val] w fun e w'=>∃q:Rq,e=.returned (.tuple #[q.val,.bool true])∧zba a b q∧q.At w'∧zcB q w.heap.size∧Below w.heap.size w w':=by
 rcases Decidable.em (b.born<a.born) with hm|hm
 ·exact zjZ a b w ga gb ha hb (zf1 ga gb h).2 h _ rfl _ rfl hm
 ·exact zj0 a b w ga gb ha hb (zf1 ga gb h).2 h _ rfl _ rfl hm
end Go.Proofs.YtlhgjplipgandaaGreatDoor
