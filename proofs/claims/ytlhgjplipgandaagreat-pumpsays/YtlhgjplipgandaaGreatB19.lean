/- Joined texts: Both, Merge9, Meets. -/
import Derived.Lib.SliceRun
import Derived.Deep.RegionHeld3
import Derived.Deep.RegionLawGrows
import Derived.Test.YtlhgjplipgandaaGreatB15
import Derived.Test.YtlhgjplipgandaaGreatB16
import Derived.Test.YtlhgjplipgandaaGreatB17
import Derived.Test.YtlhgjplipgandaaGreatB18
set_option maxRecDepth 100000
set_option maxHeartbeats 8000000
set_option linter.unusedSimpArgs false
namespace Go.Proofs.YtlhgjplipgandaaGreat
open Go.RowKit
theorem zds{a b:Rq}:zaU a b=true↔a.f+a.m=b.f∧a.wr=b.wr∧a.m+b.m≤4∧a.tags.length+b.tags.length≤4:=by
 simp only[zaU,Bool.and_eq_true,decide_eq_true_eq,beq_iff_eq]
theorem zA.shapeW{r:Rq}(h:zA r)(hw:r.wr=true):(r.data.length:Int)=r.m:=by
 have:=h.shape
 simpa [zbR,hw] using this
theorem zA.shapeR{r:Rq}(h:zA r)(hw:r.wr=false):r.data=[]:=by
 have:=h.shape
 simpa [zbR,hw] using this
theorem za9.good{a b q:Rq}(ga:zA a)(gb:zA b)(h:za9 a b q)(ht:zaU a b=true):zA q:=by
 obtain⟨t1,t2,t3,t4⟩:=zds.1 ht;have ba:=ga.bnd;have bb:=gb.bnd;have hm:=h.m;have hf:=h.f;refine⟨?_,?_,?_,?_,?_,?_,?_⟩
 ·simp only[okB,decide_eq_true_eq];omega
 ·unfold zbR;rw[h.wr,h.data,List.length_append,hm]
  cases hw:a.wr
  ·rw[ga.shapeR hw,gb.shapeR (t2▸hw)];rfl
  ·have:=ga.shapeW hw;have:=gb.shapeW (t2▸hw);simp only[if_true,decide_eq_true_eq];omega
 ·rw[h.tags,List.length_append];have:=ga.t1;omega
 ·rw[h.tags,List.length_append];omega
 ·rw[h.born];have:=ga.b0;have:=gb.b0;omega
 ·rw[h.born];have:=ga.b1;omega
 ·have s1:=ga.small;have s2:=gb.small;unfold zcD at *;rw[h.data,List.all_append,s1,s2];rfl
structure Joined(a b q:Rq):Prop where
 good:zA q
 wra:q.wr=a.wr
 wrb:q.wr=b.wr
 m:q.m=a.m+b.m
 tags:q.tags.length=a.tags.length+b.tags.length
 borna:q.born≤a.born
 bornb:q.born≤b.born
 has:∀at':Int,za1 q.f q.m at'=(za1 a.f a.m at'||za1 b.f b.m at')
 ina:q.wr=true→∀at':Int,za1 a.f a.m at'=true→∃i j:Nat,at'-a.f=i∧at'-q.f=j∧∃(hi:i<a.data.length) (hj:j<q.data.length),q.data[j]=a.data[i]
 inb:q.wr=true→∀at':Int,za1 b.f b.m at'=true→∃i j:Nat,at'-b.f=i∧at'-q.f=j∧∃(hi:i<b.data.length) (hj:j<q.data.length),q.data[j]=b.data[i]
theorem za9.joined{a b q:Rq}(ga:zA a)(gb:zA b)(h:za9 a b q)(ht:zaU a b=true):Joined a b q:=by
 obtain⟨t1,t2,t3,t4⟩:=zds.1 ht;have ba:=ga.bnd;have bb:=gb.bnd;refine⟨h.good ga gb ht,h.wr,h.wr.trans t2,h.m,by rw[h.tags,List.length_append],?_,?_,?_,?_,?_⟩
 ·rw[h.born];omega
 ·rw[h.born];omega
 ·intro at';rw[h.f,h.m,Bool.eq_iff_iff];simp only[za1,Bool.or_eq_true,decide_eq_true_eq]
  omega
 ·intro hw at' hat;simp only[za1,decide_eq_true_eq] at hat;have l1:=ga.shapeW (h.wr▸hw);refine⟨(at'-a.f).toNat,(at'-a.f).toNat,by omega,by rw[h.f];omega,by omega,by rw[h.data,List.length_append];omega,?_⟩;simp only[h.data];rw[List.getElem_append_left (by omega)]
 ·intro hw at' hat;simp only[za1,decide_eq_true_eq] at hat;have l1:=ga.shapeW (h.wr▸hw);have l2:=gb.shapeW (t2▸(h.wr▸hw));refine⟨(at'-b.f).toNat,(at'-a.f).toNat,by omega,by rw[h.f];omega,by omega,by rw[h.data,List.length_append];omega,?_⟩;simp only[h.data];rw[List.getElem_append_right (by omega)]
  congr 1
  omega
theorem Joined.swap{a b q:Rq}(h:Joined a b q):Joined b a q :=
 ⟨h.good,h.wrb,h.wra,by rw[h.m];omega,by rw[h.tags];omega,h.bornb,h.borna,fun at'=>by rw[h.has,Bool.or_comm],h.inb,h.ina⟩
theorem za9.same{a b q r:Rq}(h:za9 a b q)(k:za9 a b r):zf0 q r=true:=by
 unfold zf0 eqS eqN;rw[h.wr,h.f,h.m,h.data,h.tags,h.born,k.wr,k.f,k.m,k.data,k.tags,k.born]
 simp
theorem zgY{a b:Rq}(ga:zA a)(gb:zA b)(h:zaU a b=true):(wrap64 (b.f+b.m)==a.f)=false∧(wrap64 (a.f+a.m)==b.f)=true:=by
 obtain⟨t1,_⟩:=zds.1 h;have ba:=ga.bnd;have bb:=gb.bnd;rw[zhQ (by omega) (by omega) (by omega) (by omega),zhQ (by omega) (by omega) (by omega) (by omega)]
 constructor
 ·rw[beq_eq_false_iff_ne];omega
 ·rw[beq_iff_eq];exact t1
end Go.Proofs.YtlhgjplipgandaaGreat
namespace Go.Proofs.YtlhgjplipgandaaGreat
open Go.RowKit Go.BigFrame
attribute [local go_sem] ze.cell ze.frozen
theorem zoS(a b:Rq)(w:World)(ga:zA a)(gb:zA b)(h1:(wrap64 (a.f+a.m)==b.f)=true)(h2:zaU a b=false) :
  Calls Tryz.prog 122 #[b.val,a.val] w fun e w'=>e=.returned (.tuple #[zch,.bool false])∧Below w.heap.size w w':=by
 go_enter Tryz.func122,Tryz.ntmps122;go_wp2_with fail;(go_at_call 140;refine(zcG _ _ _ _ _ _ h1).mono ?_;rintro e w0 ⟨rfl,hb0⟩);obtain⟨T1,T2,T3,hw0⟩:=zfL b a hb0;obtain⟨U1,U2⟩:=ziU b a hb0;have HB0:Below w.heap.size w w0:=(by(with_reducible repeat first|exact Below.refl _ _|refine zc ?_ _|refine zd ?_|refine bset' ?_ (by omega) _|refine zb ?_ (by assumption)));clear hb0;obtain⟨p0,p1,p2,p3,p4,p5⟩:=id T1;obtain⟨q0,q1,q2,q3,q4,q5⟩:=id T2;obtain⟨i0,i1,i2,i3,i4,i5⟩:=U1.2;obtain⟨j0,j1,j2,j3,j4,j5⟩:=U2.2;go_wp2_with fail;refine(zfJ a b _ ga gb _ h2).mono ?_;rintro e w1 ⟨rfl,hb1⟩;have HB1:Below w.heap.size w w1:=(by(with_reducible repeat first|exact Below.refl _ _|refine zc ?_ _|refine zd ?_|refine bset' ?_ (by omega) _|refine zb ?_ (by assumption)));have hs1:=hb1.size;simp only[World.size_setCell] at hs1;have hb1':Below (zaB (zaB w0 w.heap.size (.bool a.wr) (.int .i64 a.f) (.int .i64 a.m) (.slice a.da a.data.length a.dc) (.slice a.ta a.tags.length a.tc) (.int .i64 a.born)) (w.heap.size+1) (.bool b.wr) (.int .i64 b.f) (.int .i64 b.m) (.slice b.da b.data.length b.dc) (.slice b.ta b.tags.length b.tc) (.int .i64 b.born)).heap.size (zaB (zaB w0 w.heap.size (.bool a.wr) (.int .i64 a.f) (.int .i64 a.m) (.slice a.da a.data.length a.dc) (.slice a.ta a.tags.length a.tc) (.int .i64 a.born)) (w.heap.size+1) (.bool b.wr) (.int .i64 b.f) (.int .i64 b.m) (.slice b.da b.data.length b.dc) (.slice b.ta b.tags.length b.tc) (.int .i64 b.born)) w1:=hb1;obtain⟨S1,S2,S3⟩:=zhH a b U1 U2 T3 hb1';have hws:w.heap.size+3≤w1.heap.size:=(by omega);clear hb1 hb1' HB0 T1 T2 T3 U1 U2 p0 p1 p2 p3 p4 p5 q0 q1 q2 q3 q4 q5 i0 i1 i2 i3 i4 i5 j0 j1 j2 j3 j4 j5;obtain⟨p0,p1,p2,p3,p4,p5⟩:=id S1;obtain⟨q0,q1,q2,q3,q4,q5⟩:=id S2;obtain⟨⟨z0,z1,z2,z3,z4,z5⟩,⟨f0,f1,f2,f3,f4,f5⟩⟩:=id S3;have Z:Zix w1 (w.heap.size+1+1):=S3;obtain⟨m0,m1,m2,m3,m4,m5⟩:=zaS Z (.bool false) (.int .i64 0) (.int .i64 0) (.slice none 0 0) (.slice none 0 0) (.int .i64 0);unfold zaB at m0 m1 m2 m3 m4 m5;go_wp2;refine bodyPost_ret (v:=.tuple #[zch,.bool false]) ?_ rfl ⟨rfl,by(with_reducible repeat first|exact Below.refl _ _|refine zc ?_ _|refine zd ?_|refine bset' ?_ (by omega) _|refine zb ?_ (by assumption))⟩
 simp[results,Tryz.results122,go_sem,m0,m1,m2,m3,m4,m5]
theorem zmR(a b:Rq)(w:World)(ga:zA a)(gb:zA b)(h:zaU a b=false)(h':zaU b a=false) :
  Calls Tryz.prog 122 #[a.val,b.val] w fun e w'=>e=.returned (.tuple #[zch,.bool false])∧Below w.heap.size w w':=by
 cases h1:(wrap64 (b.f+b.m)==a.f)
 ·exact zq4 a b w ga gb h1 h
 ·exact zoS b a w gb ga h1 h'
theorem zl8(a b:Rq)(w:World)(ga:zA a)(gb:zA b)(ha:a.At w)(hb:b.At w)(h:zaU a b=true) :
  Calls Tryz.prog 122 #[a.val,b.val] w fun e w'=>∃q:Rq,e=.returned (.tuple #[q.val,.bool true])∧za9 a b q∧q.At w'∧zc8 q w.heap.size∧Below w.heap.size w w':=by
 rcases Decidable.em (b.born<a.born) with hm|hm
 ·exact zok a b w ga gb ha hb (zgY ga gb h).1 h _ rfl _ rfl hm
 ·exact znT a b w ga gb ha hb (zgY ga gb h).1 h _ rfl _ rfl hm
theorem merge_trueN'(a b:Rq)(w:World)(ga:zA a)(gb:zA b)(ha:a.At w)(hb:b.At w)(h:zaU a b=true) :
  Calls Tryz.prog 122 #[b.val,a.val] w fun e w'=>∃q:Rq,e=.returned (.tuple #[q.val,.bool true])∧za9 a b q∧q.At w'∧zc8 q w.heap.size∧Below w.heap.size w w':=by
 rcases Decidable.em (b.born<a.born) with hm|hm
 ·exact zmP a b w ga gb ha hb (zgY ga gb h).2 h _ rfl _ rfl hm
 ·exact zmn a b w ga gb ha hb (zgY ga gb h).2 h _ rfl _ rfl hm
theorem zeJ{p:Prop}(h:p):Hid p:=h
def zgB(p:Rq→Bool)(l:List Rq):Int:=match l.findIdx? p with|some k=>(k:Int)|none=>-1
theorem zn4{p:Rq→Bool}{l:List Rq}{k:Nat}(h:k<l.length)(hp:p l[k]=true)(hb:∀j (hj:j<k),p (l[j]'(by omega))=false):zgB p l=k:=by
 have:l.findIdx? p=some k:=by
  rw[List.findIdx?_eq_some_iff_getElem];exact⟨h,hp,fun j hj=>by rw[hb j hj];exact Bool.false_ne_true⟩
 rw[zgB,this]
theorem zoI{p:Rq→Bool}{l:List Rq}(h:∀j (hj:j<l.length),p l[j]=false):zgB p l=-1:=by
 have:l.findIdx? p=none:=by
  rw[List.findIdx?_eq_none_iff];intro x hx;obtain⟨j,hj,rfl⟩:=List.getElem_of_mem hx;exact h j hj
 rw[zgB,this]
theorem zrz(p:Rq→Bool)(l:List Rq):decide (0≤zgB p l)=l.any p:=by
 cases e:l.findIdx? p with
 |none =>
  rw[zgB,e];rw[List.findIdx?_eq_none_iff] at e;have:l.any p=false:=by rw[List.any_eq_false];intro x hx;rw[e x hx];exact Bool.false_ne_true
  rw[this];rfl
 |some k =>
  rw[zgB,e];rw[List.findIdx?_eq_some_iff_getElem] at e;obtain⟨h1,h2,_⟩:=e;have:l.any p=true:=by rw[List.any_eq_true];exact⟨l[k],List.getElem_mem h1,h2⟩
  rw[this];simp
theorem znZ(g:Nat)(eg:∀args w,(callFunc g args).run Tryz.prog w=.ok (.enter g args) w)(cp:Value)(p:Rq→Bool)(l:List Rq)(a:Option Addr)(c:Nat)(w:World)(hl:zs w a l)
  (hp:∀(x:Rq) w',x∈l→Below w.heap.size w w'→Calls Tryz.prog g #[x.val,cp] w' fun e w''=>e=.returned (.bool (p x))∧Below w'.heap.size w' w'') :
  Calls Tryz.prog 116 #[.slice a l.length c,.func (.func g) #[] #[cp]] w fun e w'=>e=.returned (.int .i64 (zgB p l))∧Below w.heap.size w w':=by
 have hb3:=hl.2.2
 rcases hl.form with rfl|⟨b,o,rfl⟩
 ·clear hp;go_enter Tryz.func116,Tryz.ntmps116;go_wp2
  go_loop [8] (fun i=>i=.int .i64 0) (fun _=>0)
  case atStart=>rfl
  case round =>
   subst hrel;go_wp2;go_ret;exact⟨rfl,by(with_reducible repeat first|exact Below.refl _ _|refine zc ?_ _|refine zd ?_|refine bset' ?_ (by omega) _|refine zb ?_ (by assumption))⟩
 have HP:=zeJ hp;clear hp;go_enter Tryz.func116,Tryz.ntmps116;go_wp2
 go_loopw[8] (fun i wr=>∃k:Nat,k≤l.length∧i=.int .i64 k∧(∀j (hj:j<l.length),j<k→p l[j]=false)∧Below w.heap.size w wr) (fun i _=>l.length-(intOf i).toNat)
 case atStart=>exact⟨0,by omega,rfl,fun j hj h=>absurd h (Nat.not_lt_zero _),Below.refl _ _⟩
 case round =>
  obtain⟨k,hk,rfl,hno,HB⟩:=hrel;have HN:=zeJ hno;clear hno
  by_cases hlt:k<l.length
  ·obtain⟨c0,c1,c2,c3,c4,c5⟩:=(hl.later HB).cells hlt;have hq:=HP.out l[k] wr (List.getElem_mem hlt) HB
   cases hpk:p l[k]
   ·rw[hpk] at hq;have HQ:=zeJ hq;clear hq;go_wp2_with fail;refine Calls.mono HQ.out ?_;rintro e w1 ⟨rfl,hb⟩;go_wp2;go_roundw
    case rel=>exact⟨k+1,by omega,by go_num,fun j hj h=>by by_cases e:j=k;(subst e;exact hpk);exact HN.out j hj (by omega),zb HB hb⟩
    case measure=>simp[intOf];omega
   ·rw[hpk] at hq;have HQ:=zeJ hq;clear hq;go_wp2_with fail;refine Calls.mono HQ.out ?_;rintro e w1 ⟨rfl,hb⟩;go_wp2;go_ret;exact⟨zbs (zn4 hlt hpk (fun j hj=>HN.out j (by omega) hj)).symm,zb HB hb⟩
  ·go_wp2;go_ret;exact⟨zbs (zoI (fun j hj=>HN.out j hj (by omega))).symm,HB⟩
theorem zef(g:Nat)(eg:∀args w,(callFunc g args).run Tryz.prog w=.ok (.enter g args) w)(cp:Value)(p:Rq→Bool)(l:List Rq)(a:Option Addr)(c:Nat)(w:World)(hl:zs w a l)
  (hp:∀(x:Rq) w',x∈l→Below w.heap.size w w'→Calls Tryz.prog g #[x.val,cp] w' fun e w''=>e=.returned (.bool (p x))∧Below w'.heap.size w' w'') (t:Bool) (ht:l.any p=t) :
  Calls Tryz.prog 83 #[.slice a l.length c,.func (.func g) #[] #[cp]] w fun e w'=>e=.returned (.bool t)∧Below w.heap.size w w':=by
 have HT:=zeJ ((zrz p l).trans ht);clear ht;have HP:=zeJ hp;clear hp;go_enter Tryz.func83,Tryz.ntmps83;go_wp2_with fail;refine(znZ g eg cp p l a c _ hl HP.out).mono ?_;rintro e w1 ⟨rfl,HB⟩;go_wp2;go_ret;exact⟨zad HT.out,by(with_reducible repeat first|exact Below.refl _ _|refine zc ?_ _|refine zd ?_|refine bset' ?_ (by omega) _|refine zb ?_ (by assumption))⟩
theorem zjy(x r:Rq)(pb:Nat)(w:World)(h1:w.cell? ⟨pb,1,none⟩=some (.int .i64 r.f))(h2:w.cell? ⟨pb,2,none⟩=some (.int .i64 r.m)) :
  Calls Tryz.prog 120 #[x.val,.pointer (some ⟨pb,0,none⟩)] w fun e w'=>e=.returned (.bool (ze4 x.f x.m r.f r.m))∧Below w.heap.size w w':=by
 have h1':=zao h1;have h2':=zao h2;go_enter Tryz.func120,Tryz.ntmps120;go_wp2_with fail
 go_at_call 121;refine(zsp _ _ _ _ _ _ rfl).mono ?_;rintro e w1 ⟨rfl,hb⟩;(try clear hc hf hz);(first|replace HB:=zb HB hb|replace HB:=zb (zd HB) hb|have HB:=hb);clear hb;obtain⟨hc,hf,hz⟩:=zu HB
 go_wp2;go_ret;exact⟨rfl,by(with_reducible repeat first|exact Below.refl _ _|refine zc ?_ _|refine zd ?_|refine bset' ?_ (by omega) _|refine zb ?_ (by assumption))⟩
structure zco(base:Nat)(w:World)(a:Option Addr)(c:Nat)(l:List Rq):Prop where
 here:zs w a l
 cap:l.length≤c
 capM:c≤9223372036854775807
 nil:a=none→c=0
 own:w.ownsRow base 111 6 (.slice a l.length c) l.length (zt l)
theorem zb3{w:World}{base:Nat}{v:Value}{l:List Rq}{n:Nat}(h:w.ownsRow base 111 6 v n (zt l))(hat:∀r∈l,r.At w)(hn:n=l.length)(hb:l.length≤9223372036854775807) :
  ∃a c,v=.slice a l.length c∧zco base w a c l:=by
 have h':=h;obtain⟨a,c,rfl,h1,h2,h3,h4,_⟩:=zdb h hat hn hb;subst hn;exact⟨a,c,rfl,⟨h1,h2,h3,h4,h'⟩⟩
theorem zco.place{base:Nat}{w:World}{a:Option Addr}{c:Nat}{l:List Rq}(h:zco base w a c l)(hl:l ≠ []):∃b,a=some ⟨b,0,none⟩∧base≤b∧b<w.heap.size∧∀o,w.frozen? ⟨b,o,none⟩=false:=by
 rcases h.own.2 with⟨h1,h2⟩|⟨g,cap,cur,h1,hg,hh,hnc,hcm,hcs,ht⟩
 ·exact absurd (List.eq_nil_of_length_eq_zero h2) hl
 ·simp only[Value.slice.injEq] at h1;refine⟨g,h1.1,hg,?_,fun o=>by simp[World.frozen?,hh]⟩
  rcases Nat.lt_or_ge g w.heap.size with h'|h'
  ·exact h'
  ·rw[Array.getElem?_eq_none h'] at hh;cases hh
theorem zs.rowAll'{w:World}{a:Option Addr}{c:Nat}{l:List Rq}(h:zs w a l)(hn:a=none→c=0):zaW w 6 a l.length c (zt l):=by
 rcases h.1 with rfl|⟨b,o,rfl,hc⟩
 ·cases a with
  |none=>exact⟨rfl,by simp[zt],Or.inl ⟨rfl,rfl,hn rfl⟩⟩
  |some ad=>exact⟨rfl,by simp[zt],Or.inr ⟨ad,rfl,fun j u h=>by simp[zt] at h⟩⟩
 ·have:=h.row (c:=c) [] l [] (by simp)
  simpa using this
theorem zh9(l:List Rq)(a:Option Addr)(c:Nat)(w:World)(hl:zs w a l)(hn:a=none→c=0)(h10:l.length≤100000) :
  Calls Tryz.prog 71 #[.slice a l.length c] w fun e w'=>∃a' c',e=.returned (.slice a' l.length c')∧zco w.heap.size w' a' c' l∧Below w.heap.size w w':=by
 obtain⟨i,hi,hz0,hz1,hz2⟩:=zaL zdX;have R:=hl.rowAll' hn;have q22:∀(w:World) (a:Option Addr) (n c n' c':Nat),(binOp .eql 34 (.slice a n c) (.slice none n' c')).run Tryz.prog w=.ok (.bool a.isNone) w:=fun w a n c n' c'=>Lib.run_eql_slice_nil w _ _ a n c n' c' Tryz.underlying34
 cases a with
 |none =>
  obtain rfl:=hn rfl;have hl0:l=[]:=by
   rcases hl.form with h|⟨b,o,h⟩
   ·exact h
   ·cases h
  subst hl0;go_enter Tryz.func71,Tryz.ntmps71;go_wp2;go_ret;exact⟨none,0,rfl,⟨⟨Or.inl rfl,by simp,by simp⟩,by simp,by simp,fun _=>rfl,World.ownsRow_nil _ _ _ _⟩,by(with_reducible repeat first|exact Below.refl _ _|refine zc ?_ _|refine zd ?_|refine bset' ?_ (by omega) _|refine zb ?_ (by assumption))⟩
 |some ad =>
  go_enter Tryz.func71,Tryz.ntmps71;go_wp2_with(at_builtin;refine zq rfl _ _ 34 rfl w.heap.size 111 i _ 6 80 Tryz.underlying34 hi hz0 hz1 hz2 rfl (by decide) _ 0 [] rfl (World.ownsRow_made _ _ _ (Nat.le_refl _) (by unfold maxLen;omega) (by simp)) (some ad) l.length c (zt l) rfl (R.later (by(with_reducible repeat first|exact Below.refl _ _|refine zc ?_ _|refine zd ?_|refine bset' ?_ (by omega) _|refine zb ?_ (by assumption)))) (by unfold maxLen;omega) (by omega) (by simp) ?_;intro v1 w2 hown1 hb1);rw[Nat.zero_add,List.nil_append] at hown1;have HB:Below w.heap.size w w2:=(zc (Below.refl _ _) _).trans hb1;obtain⟨a',c',rfl,hN⟩:=zb3 hown1 (fun r hr=>(hl.2.1 r hr).later HB) rfl (by omega);go_wp2;go_ret;exact⟨a',c',rfl,hN,HB⟩
def za8(o r:Rq):Bool:=zaU o r||zaU r o
def zew(o r q:Rq):Prop:=(zaU o r=true∧za9 o r q)∨(zaU o r=false∧zaU r o=true∧za9 r o q)
theorem zew.joined{o r q:Rq}(go:zA o)(gr:zA r)(h:zew o r q):Joined o r q:=by
 rcases h with⟨h1,h2⟩|⟨_,h1,h2⟩
 ·exact h2.joined go gr h1
 ·exact(h2.joined gr go h1).swap
theorem mergeN(o r:Rq)(w:World)(go:zA o)(gr:zA r)(h:za8 o r=false) :
  Calls Tryz.prog 122 #[o.val,r.val] w fun e w'=>e=.returned (.tuple #[zch,.bool false])∧Below w.heap.size w w':=by
 simp only[za8,Bool.or_eq_false_iff] at h;exact zmR o r w go gr h.1 h.2
def zbb(r o:Rq):Bool:=ze4 o.f o.m r.f r.m
theorem zcs(w:World)(T:TypeId)(a:Rq):Six (w.alloc (.cells #[.bool a.wr,.int .i64 a.f,.int .i64 a.m,.slice a.da a.data.length a.dc,.slice a.ta a.tags.length a.tc,.int .i64 a.born] T)) w.heap.size a:=by
 refine⟨?_,?_,?_,?_,?_,?_⟩<;>simp
theorem zhn(r:Rq)(w:World)(hr:r.At w)(hn:zcz r=0):Calls Tryz.prog 119 #[r.val] w fun e w'=>e=.returned .nilIface∧Below w.heap.size w w':=zn9 r w hr 0 hn
theorem zrI(l:List Rq)(a:Option Addr)(c:Nat)(r:Rq)(w:World)(hl:zs w a l)(hr:r.At w)(hn:zcz r=0)(hm:l.any (zbb r)=true) :
  Calls Tryz.prog 87 #[.slice a l.length c,r.val] w fun e w'=>e=.returned (.tuple #[.slice none 0 0,.iface 88 (.int .i64 6)])∧Below w.heap.size w w':=by
 go_enter Tryz.func87,Tryz.ntmps87;go_wp2_with fail;refine(zhn r _ (hr.later (zn _ _)) hn).mono ?_;rintro e w1 ⟨rfl,hb⟩;have S:=(zcs w 111 r).later hb;have HS:=zaa S;go_wp2_with fail;refine(zef 120 (by intro args w;go_simp) (.pointer (some ⟨w.heap.size,0,none⟩)) (zbb r) l a c _ (hl.later (by(with_reducible repeat first|exact Below.refl _ _|refine zc ?_ _|refine zd ?_|refine bset' ?_ (by omega) _|refine zb ?_ (by assumption)))) (fun x w' _ hb'=>zjy x r w.heap.size w' (cell_later' hb' HS.out.2.1) (cell_later' hb' HS.out.2.2.1)) true hm).mono ?_;rintro e w2 ⟨rfl,hb2⟩;go_wp2
 go_ret2
 exact⟨rfl,by(with_reducible repeat first|exact Below.refl _ _|refine zc ?_ _|refine zd ?_|refine bset' ?_ (by omega) _|refine zb ?_ (by assumption))⟩
def set6o(w:World)(b p:Nat)(v0 v1 v2 v3 v4 v5:Value):World:=(((((w.setCell ⟨b,p,none⟩ v0).setCell ⟨b,p+1,none⟩ v1).setCell ⟨b,p+2,none⟩ v2).setCell ⟨b,p+3,none⟩ v3).setCell ⟨b,p+4,none⟩ v4).setCell ⟨b,p+5,none⟩ v5
theorem zp8{w:World}{b p:Nat}{v0 v1 v2 v3 v4 v5:Value}{o:Nat}(h:o<p∨p+6≤o):(set6o w b p v0 v1 v2 v3 v4 v5).cell? ⟨b,o,none⟩=w.cell? ⟨b,o,none⟩:=by
 have ne:∀i:Nat,i<6→∀(W:World) (u:Value),(W.setCell ⟨b,p+i,none⟩ u).cell? ⟨b,o,none⟩=W.cell? ⟨b,o,none⟩:=fun i hi W u=>World.cell?_setCell_other _ _ _ _ (fun e=>by injection e with _ e _;omega)
 unfold set6o;rw[ne 5 (by decide),ne 4 (by decide),ne 3 (by decide),ne 2 (by decide),ne 1 (by decide)];exact ne 0 (by decide) _ _
theorem zqM{w:World}{b p:Nat}(v:Nat→Value)(h:∀j,j<6→∃u,w.cell? ⟨b,p+j,none⟩=some u)(j:Nat)(hj:j<6):(set6o w b p (v 0) (v 1) (v 2) (v 3) (v 4) (v 5)).cell? ⟨b,p+j,none⟩=some (v j):=by
 have ne:∀i j:Nat,i ≠ j→∀(W:World) (u:Value),(W.setCell ⟨b,p+i,none⟩ u).cell? ⟨b,p+j,none⟩=W.cell? ⟨b,p+j,none⟩:=fun i j hij W u=>World.cell?_setCell_other _ _ _ _ (fun e=>hij (by injection e with _ e _;omega))
 have ne0:∀j:Nat,0 ≠ j→∀(W:World) (u:Value),(W.setCell ⟨b,p,none⟩ u).cell? ⟨b,p+j,none⟩=W.cell? ⟨b,p+j,none⟩:=fun j hj W u=>ne 0 j hj W u
 obtain⟨u,hu⟩:=h j hj;unfold set6o
 match j,hj with
 |0,_=>rw[ne 5 0 (by decide),ne 4 0 (by decide),ne 3 0 (by decide),ne 2 0 (by decide),ne 1 0 (by decide)];exact World.cell?_setCell_same _ _ _ hu
 |1,_=>rw[ne 5 1 (by decide),ne 4 1 (by decide),ne 3 1 (by decide),ne 2 1 (by decide)];exact World.cell?_setCell_same _ _ _ ((ne0 1 (by decide) _ _).trans hu)
 |2,_=>rw[ne 5 2 (by decide),ne 4 2 (by decide),ne 3 2 (by decide)];exact World.cell?_setCell_same _ _ _ ((ne 1 2 (by decide) _ _).trans ((ne0 2 (by decide) _ _).trans hu))
 |3,_=>rw[ne 5 3 (by decide),ne 4 3 (by decide)];exact World.cell?_setCell_same _ _ _ ((ne 2 3 (by decide) _ _).trans ((ne 1 3 (by decide) _ _).trans ((ne0 3 (by decide) _ _).trans hu)))
 |4,_=>rw[ne 5 4 (by decide)];exact World.cell?_setCell_same _ _ _ ((ne 3 4 (by decide) _ _).trans ((ne 2 4 (by decide) _ _).trans ((ne 1 4 (by decide) _ _).trans ((ne0 4 (by decide) _ _).trans hu))))
 |5,_=>exact World.cell?_setCell_same _ _ _ ((ne 4 5 (by decide) _ _).trans ((ne 3 5 (by decide) _ _).trans ((ne 2 5 (by decide) _ _).trans ((ne 1 5 (by decide) _ _).trans ((ne0 5 (by decide) _ _).trans hu)))))
theorem zs.put{w W:World}{b k:Nat}{l:List Rq}{q:Rq}(h:zs w (some ⟨b,0,none⟩) l)(hk:k<l.length)(hat:∀r∈l,r.At W)(hq:q.At W)(e:W=set6o w b (k*6) (q.cell 0) (q.cell 1) (q.cell 2) (q.cell 3) (q.cell 4) (q.cell 5)):zs W (some ⟨b,0,none⟩) (l.set k q):=by
 rcases h.1 with rfl|⟨b',o',ha,hc⟩
 ·exact absurd hk (Nat.not_lt_zero _)
 ·simp only[Option.some.injEq,Addr.mk.injEq,and_true] at ha;obtain⟨rfl,rfl⟩:=ha;refine⟨Or.inr ⟨b,0,rfl,fun i hi m hm=>?_⟩,fun r hr=>?_,by rw[List.length_set];exact h.2.2⟩
  ·have hi':i<l.length:=by simpa using hi
   by_cases ik:i=k
   ·subst ik;rw[List.getElem_set_self,e,Nat.zero_add];exact zqM (fun j=>q.cell j) (fun j hj=>⟨_,by have:=hc i hi' j hj;rwa [Nat.zero_add] at this⟩) m hm
   ·rw[List.getElem_set_ne (fun h=>ik h.symm),e,zp8 (by omega)];exact hc i hi' m hm
  ·rcases List.mem_or_eq_of_mem_set hr with hr|rfl
   ·exact hat r hr
   ·exact hq
theorem zaD{P:Program}{ops:Array Oper}{o:Oper}{a:Act}{w:World}{K:Act→World→Prop}{Q:Exit→Act→World→Prop}{E:Prop}
  (hg:o.guard=none) (s x:Operand) (t:TypeId) (hop:o.op=Op.call { callee:=Callee.builtin Builtin.append,args:=#[s,x],argTypes:=#[t,t] })
  (base:Nat) (e:TypeId) (i:TypeInfo) (z:Value) (size bytes:Nat) (ht:P.underlying t=some (.slice e)) (hi:P.info? e=some i) (hz:i.zero=some z)
  (hsize:i.size=size) (hby:i.bytes=bytes) (hzs:z.cells.size=size) (hsz:0<size)
  (v:Value) (n:Nat) (xs:List Value) (hs:a.eval s=v) (hown:w.ownsRow base e size v n xs)
  (ad:Option Addr) (m c:Nat) (news:List Value) (hx:a.eval x=.slice ad m c) (hrow:zaW w size ad m c news)
  (h63:n+m≤maxLen) (hbytes:(n+m)*bytes≤140737488355328) (hbase:base≤w.heap.size)
  (h:∀v' w',w'.ownsRow base e size v' (n+m) (xs++news)→Below base w w'→K (a.put o.dst v') w') :
  if Region.wanted o (yielded ops a.tmps)=true then Oper.wp P o a w K Q else E:=by
 have hw:Region.wanted o (yielded ops a.tmps)=true:=by simp[Region.wanted,hg]
 rw[if_pos hw];obtain⟨h1,h2,h3⟩:=hrow
 rcases h3 with⟨rfl,rfl,rfl⟩|⟨ad',rfl,hc⟩
 ·obtain rfl:news=[]:=List.eq_nil_of_length_eq_zero (by rw[h1];simp);have hr:=run_append_owned_none (P:=P) w base t o.type e i size ht hi v n xs hown;unfold Oper.wp
  simp[execOp,hop,resolve,invoke,builtin,hs,hx,hr,Result.andThen]
  exact h v w (by simpa using hown) (Below.refl _ _)
 ·obtain⟨v',w',hrun,r1,r2,_⟩:=run_append_own (P:=P) w base t o.type e i z size bytes ht hi hz hsize hby hzs hsz v n xs hown ad' m c news h1 hc h2 h63 hbytes hbase;unfold Oper.wp
  simp[execOp,hop,resolve,invoke,builtin,hs,hx,hrun,Result.andThen]
  exact h v' w' r1 ((Below.refl _ _).grown r2 hbase fun k hk=>(hown.lt k hk).1)
theorem zcc{w w':World}{B e size n:Nat}{v:Value}{xs:List Value}(h:w.ownsRow B e size v n xs)(hb:Below w.heap.size w w'):w'.ownsRow B e size v n xs:=by
 refine⟨h.1,h.2.elim Or.inl ?_⟩;rintro⟨g,cap,cur,hv,hg,hh,r⟩;refine Or.inr ⟨g,cap,cur,hv,hg,?_,r⟩;have:g<w.heap.size:=by
  rcases Nat.lt_or_ge g w.heap.size with h'|h'
  ·exact h'
  ·rw[Array.getElem?_eq_none h'] at hh;cases hh
 rw[hb.block g this];exact hh
theorem zhB{w:World}{b c:Nat}(q:Rq)(h:Six w b q):zaW w 6 (some ⟨b,0,none⟩) 1 c (zt [q]):=by
 refine⟨rfl,zdy _,Or.inr ⟨_,rfl,fun k u hk=>?_⟩⟩;obtain⟨i,j,hi,hj,rfl,rfl⟩:=zen hk;have:i=0:=by simp at hi;exact hi
 subst this;rw[add_mk'];obtain⟨h0,h1,h2,h3,h4,h5⟩:=h
 match j,hj with
 |0,_=>exact h0
 |1,_=>exact h1
 |2,_=>exact h2
 |3,_=>exact h3
 |4,_=>exact h4
 |5,_=>exact h5
theorem Six.belowB{w w':World}{b B:Nat}{q:Rq}(h:Six w b q)(hb:Below B w w')(hl:b<B):Six w' b q:=by
 obtain⟨h0,h1,h2,h3,h4,h5⟩:=h;refine⟨?_,?_,?_,?_,?_,?_⟩<;>(rw[hb.cell hl];assumption)
def Added(l:List Rq)(r:Rq)(L:List Rq):Prop :=
 (∃(k:Nat) (hk:k<l.length) (q:Rq),(∀j (hj:j<l.length),j<k→za8 l[j] r=false)∧za8 l[k] r=true∧zew l[k] r q∧L=l.set k q) ∨
 ((∀j (hj:j<l.length),za8 l[j] r=false)∧l.length<6∧L=l++[r])
end Go.Proofs.YtlhgjplipgandaaGreat
namespace Go.Proofs.YtlhgjplipgandaaGreat
open Go.RowKit
def Rq.nf(r:Rq):Rq:={ r with da:=none,dc:=0,ta:=none,tc:=0 }
structure Cl where
 kind:Int
 pl:Int
 data:ByteArray
 left:List Int
 got:ByteArray
 err:Int
def cl0:Cl:=⟨0,0,ByteArray.empty,[],ByteArray.empty,0⟩
structure Sk where
 dev:Dl
 f:Int→Int
 cl:List Cl
 hand:List Bf
 queue:List Rq
 turn:Tn
 moment:Int
 tags:Int
 uses:Int
 dead:Bool
 ag:Nat
def Dl.nf(d:Dl):Dl:={ d with busy:=d.busy.map Rq.nf }
def Sk.nf(s:Sk):Sk:={ s with dev:=s.dev.nf,queue:=s.queue.map Rq.nf }
def Sk.client(p:Sk)(i:Nat):Cl:=p.cl.getD i cl0
def Sk.held(p:Sk)(pl:Int):Bool:=(p.queue++p.dev.busy).any fun r=>zam r.f r.m pl
def zaH(l:List Bf)(pl:Int):Option Bf:=l.find? (plB pl)
def zN(l:List Bf):Nat:=(l.filter fun x=>x.dirty).length
def zQ(l:List Bf)(pl:Int):Bool:=match zaH l pl with|some x=>x.dirty|none=>false
def zbo(l:List Bf)(x:Bf)(H:Int→Bool):Option (List Bf) :=
 if 0≤zap (plB x.pl) l then some (l.set (zap (plB x.pl) l).toNat x)
 else if l.length<8 then some (zcL l x)
 else if 0≤zab (zaw false H) l l.length then some (zcL (l.eraseIdx (zab (zaw false H) l l.length).toNat) x)
 else none
def zh4(a b:Rq):Rq:=⟨a.wr,a.f,a.m+b.m,none,0,a.data++b.data,none,0,a.tags++b.tags,min a.born b.born⟩
def zeW(o r:Rq):Rq:=if zaU o r=true then zh4 o r else zh4 r o
def zcg(l:List Rq)(r:Rq):Option (List Rq) :=
 if l.any (zbb r)=true then none else match l.findIdx? (fun o=>za8 o r) with
  |some k=>some (l.set k (zeW (l.getD k r) r))
  |none=>if l.length<6 then some (l++[r]) else none
def Sk.reqOf(p:Sk)(pl:Int)(wr:Bool)(data:List ByteArray):Rq:=⟨wr,pl,1,none,0,data,none,0,[p.tags+1],p.moment⟩
def Sk.askQ(p:Sk)(pl:Int)(wr:Bool)(data:List ByteArray):Bool × Sk:=match zcg p.queue (p.reqOf pl wr data) with
 |some l=>(true,{ p with queue:=l,tags:=p.tags+1 })
 |none=>(false,p)
def Sk.answer(p:Sk)(i:Nat)(s:ByteArray)(e:Int):Sk:={ p with cl:=p.cl.set i ⟨0,0,ByteArray.empty,[],s,e⟩ }
def Sk.serveRead(p:Sk)(i:Nat):Sk:=match zaH p.hand (p.client i).pl with
 |some b=>({ p with uses:=p.uses+1,hand:=useL p.hand (p.client i).pl (p.uses+1) }:Sk).answer i b.data 0
 |none=>if p.held (p.client i).pl=true then p else(p.askQ (p.client i).pl false []).2
def Sk.serveWrite(p:Sk)(i:Nat):Sk :=
 if p.dead=true then p.answer i ByteArray.empty 9
 else if 6≤zN p.hand∧zQ p.hand (p.client i).pl=false then p
 else match zbo p.hand ⟨(p.client i).pl,(p.client i).data,true,p.uses+1⟩ p.held with
  |some l=>({ p with uses:=p.uses+1,hand:=l }:Sk).answer i ByteArray.empty 0
  |none=>{ p with uses:=p.uses+1 }
def Sk.serveSync(p:Sk)(i:Nat):Sk :=
 if p.dead=true then p.answer i ByteArray.empty 9
 else if(p.client i).left.filter (zQ p.hand)=[] then({ p with dev:=p.dev.flush }:Sk).answer i ByteArray.empty 0
 else { p with cl:=p.cl.set i { p.client i with left:=(p.client i).left.filter (zQ p.hand) } }
def Sk.serve1(p:Sk)(i:Nat):Sk :=
 if(p.client i).kind=1 then p.serveRead i else if(p.client i).kind=2 then p.serveWrite i else if(p.client i).kind=3 then p.serveSync i else p
def Sk.serve(p:Sk):Sk:=((p.serve1 0).serve1 1).serve1 2
def Sk.waits(p:Sk)(c:Int):Bool:=decide (0≤c∧c<3)&&!((p.client c.toNat).kind==0)
def zag(c kind pl:Int)(data:ByteArray):Int :=
 if ¬(0≤c∧c<3)∨¬(1≤kind∧kind≤3) then 3
 else if pl<0∨32≤pl∨(kind=3∧¬pl=0) then 1
 else if 4<data.size∨(¬kind=2∧¬data.size=0) then 1
 else 0
def zL(l:List Bf):List Int:=(l.filter fun x=>x.dirty).map Bf.pl
def Sk.asks(p:Sk)(c:Nat)(kind pl:Int)(data:ByteArray):Sk :=
 { p with cl:=p.cl.set c { p.client c with kind:=kind,pl:=pl,data:=data,left:=if kind=3 then zL p.hand else(p.client c).left } }
def Sk.ask(p:Sk)(c kind pl:Int)(data:ByteArray):Int × Sk :=
 if ¬zag c kind pl data=0 then(zag c kind pl data,p)
 else if p.waits c=true then(6,p)
 else(0,(p.asks c.toNat kind pl data).serve)
def Sk.tick(p:Sk):Sk:=({ p with moment:=if p.moment+1<1000000000 then p.moment+1 else 1000000000 }:Sk).serve
def Sk.wantsClean(p:Sk):Bool:=p.cl.any fun c=>(c.kind==2)||(c.kind==3)
def zby(l:List Bf)(H:Int→Bool):Int:=if 0≤zab (zaw true H) l l.length then(l.getD (zab (zaw true H) l l.length).toNat ⟨0,ByteArray.empty,false,0⟩).pl else -1
def Sk.clean(p:Sk):Bool × Sk :=
 if p.dead=true∨(zN p.hand<3∧p.wantsClean=false) then(false,p)
 else if zby p.hand p.held<0 then(false,p)
 else p.askQ (zby p.hand p.held) true [((zaH p.hand (zby p.hand p.held)).getD ⟨0,ByteArray.empty,false,0⟩).data]
def zev(l:List Rq)(i:Int):Int:=match l[i.toNat]? with|some r=>r.f+r.m|none=>0
def zd9(l:List Rq)(i:Int):Int:=match l[i.toNat]? with|some r=>r.born|none=>0
def zdA(l:List Rq)(T:Tn)(now:Int):Int :=
 if zbK T.w≤now-zd9 l (zah T.w l) then zah T.w l else if 0≤frI T.w T.p l then frI T.w T.p l else frI T.w 0 l
def zbz(l:List Rq)(t:Tn)(now:Int):Int × Tn :=
 if 0<t.g∧t.g<3∧0≤frI t.w t.p l then(frI t.w t.p l,⟨t.w,t.g+1,t.s,zev l (frI t.w t.p l)⟩)
 else
  (zdA l (zZ (decide (0≤zah false l)) (decide (0≤zah true l)) t) now,⟨(zZ (decide (0≤zah false l)) (decide (0≤zah true l)) t).w,1,(zZ (decide (0≤zah false l)) (decide (0≤zah true l)) t).s,zev l (zdA l (zZ (decide (0≤zah false l)) (decide (0≤zah true l)) t) now)⟩)
def Sk.dispatch(p:Sk):Bool × Sk :=
 if p.queue=[]∨2≤p.dev.busy.length then(false,p)
 else(true,{ p with dev:={ p.dev with busy:=p.dev.busy++(p.queue[(zbz p.queue p.turn p.moment).1.toNat]?).toList },queue:=p.queue.eraseIdx (zbz p.queue p.turn p.moment).1.toNat,turn:=(zbz p.queue p.turn p.moment).2 })
def Sk.readers(p:Sk)(F:Int→Bool)(s:ByteArray)(e:Int):Sk:={ p with cl:=p.cl.map fun c=>if c.kind=1∧F c.pl=true then⟨0,0,ByteArray.empty,[],s,e⟩ else c }
def Sk.wasRead(p:Sk)(pl:Int)(s:ByteArray):Sk :=
 match zaH p.hand pl with
 |some _=>p
 |none=>match zbo p.hand ⟨pl,s,false,p.uses+1⟩ p.held with
  |some l=>({ p with hand:=l,uses:=p.uses+1 }:Sk).readers (fun x=>x==pl) s 0
  |none=>p.readers (fun x=>x==pl) s 0
def Sk.wentOne(r:Rq)(xs:List ByteArray)(p:Sk)(j:Nat):Sk :=
 if r.wr=true then { p with hand:=cleanL p.hand (r.f+j) (r.data.getD j ByteArray.empty) } else p.wasRead (r.f+j) (xs.getD j ByteArray.empty)
def Sk.wentTo(p:Sk)(r:Rq)(xs:List ByteArray)(n:Nat):Sk:=(List.range n).foldl (fun q j=>q.wentOne r xs j) p
def Sk.wentWell(p:Sk)(r:Rq)(xs:List ByteArray):Sk:=p.wentTo r xs r.m.toNat
def Sk.took(p:Sk)(k:Nat):Sk:={ p with dev:={ p.dev with busy:=p.dev.busy.eraseIdx k } }
def Sk.did(p:Sk)(r:Rq):Sk:={ p with dev:=p.dev.did r,f:=fun t=>if t=r.tags.getD 0 0 then 0 else p.f t }
def Sk.again(p:Sk)(r:Rq):Sk:={ p with dev:={ p.dev with busy:=p.dev.busy++[r] },f:=fun t=>if t=r.tags.getD 0 0 then p.f t+1 else p.f t,ag:=p.ag+1 }
def Sk.lost(p:Sk)(r:Rq):Sk:={ p with f:=fun t=>if t=r.tags.getD 0 0 then 0 else p.f t }
def Sk.end'(p:Sk)(i:Int)(fault:Bool):Int × Sk :=
 if i<0 then(5,p) else match p.dev.busy[i.toNat]? with
 |none=>(5,p)
 |some r =>
  if fault=false then(0,(((p.took i.toNat).did r).wentWell r (zX p.dev r)).serve)
  else if p.f (r.tags.getD 0 0)<2 then(0,(p.took i.toNat).again r)
  else if r.wr=true then(0,({ (p.took i.toNat).lost r with dead:=true }:Sk).serve)
  else(0,(((p.took i.toNat).lost r).readers (fun x=>zam r.f r.m x) ByteArray.empty 8).serve)
def Sk.quiet(p:Sk):Bool:=(!(p.waits 0)&&(!(p.waits 1)&&!(p.waits 2)))&&(p.queue.isEmpty&&p.dev.busy.isEmpty)
def Sk.dispatches(p:Sk):Nat→Sk
 |0=>p
 |n+1=>if p.dispatch.1=true then p.dispatch.2.dispatches n else p
def Sk.round(p:Sk):Sk:=(p.tick.clean.2.dispatches 3).end' 0 false |>.2
def Sk.settle(p:Sk):Nat→Nat × Sk
 |0=>(0,p)
 |n+1=>if p.quiet=true then(0,p) else((p.round.settle n).1+1,(p.round.settle n).2)
def sk0:Sk:=⟨d0,fun _=>0,[cl0,cl0,cl0],[],[],⟨false,0,0,0⟩,0,0,0,false,0⟩
theorem zaV(l:List Bf)(pl:Int):(zaH l pl=none∧zap (plB pl) l=-1)∨∃(k:Nat) (hk:k<l.length),zaH l pl=some l[k]∧zap (plB pl) l=k∧l[k].pl=pl:=by
 rcases zbi (plB pl) l with⟨h1,h2⟩|⟨k,hk,h1,h2,h3⟩
 ·refine Or.inl ⟨?_,h1⟩;rw[zaH,List.find?_eq_none];intro x hx;obtain⟨j,hj,rfl⟩:=List.getElem_of_mem hx;rw[h2 j hj];simp
 ·refine Or.inr ⟨k,hk,?_,h1,by simpa [plB] using h2⟩;rw[zaH,List.find?_eq_some_iff_getElem];exact⟨h2,k,hk,rfl,fun j hj=>by rw[h3 j hj];rfl⟩
theorem zgP{l:List Bf}{pl:Int}{x:Bf}(h:zaH l pl=some x):x∈l∧x.pl=pl:=by
 rcases zaV l pl with⟨h1,_⟩|⟨k,hk,h1,_,h3⟩
 ·rw[h1] at h;cases h
 ·rw[h1] at h;obtain rfl:=Option.some.inj h;exact⟨List.getElem_mem hk,h3⟩
theorem zqb{l:List Bf}{pl:Int}(h:zaH l pl=none):∀x∈l,x.pl ≠ pl:=fun x hx e=>by
 rw[zaH,List.find?_eq_none] at h;have:=h x hx
 simp[plB,e] at this
theorem zdi{l:List Bf}(hr:l.Pairwise ltB){x:Bf}(hx:x∈l):zaH l x.pl=some x:=by
 obtain⟨j,hj,hi,e⟩:=at_mem hr hx
 rcases zaV l x.pl with⟨_,h2⟩|⟨k,hk,h1,h2,_⟩
 ·rw[h2] at hi;omega
 ·obtain rfl:k=j:=by omega
  rw[h1,e]
theorem zik{l:List Bf}{x:Bf}{H:Int→Bool}{m:List Bf}(h8:l.length≤8)(h:zbo l x H=some m):zeX l x H m:=by
 unfold zbo at h
 rcases zaV l x.pl with⟨_,h2⟩|⟨k,hk,_,h2,_⟩
 ·rw[h2,if_neg (by omega)] at h
  by_cases h3:l.length<8
  ·rw[if_pos h3] at h;exact Or.inr (Or.inl ⟨h2,h3,(Option.some.inj h).symm⟩)
  ·rw[if_neg h3] at h
   rcases zbd (zaw false H) l l.length (Nat.le_refl _) with⟨hr,_⟩|⟨k,hk,_,hr,_⟩
   ·rw[hr,if_neg (by omega)] at h;cases h
   ·rw[hr,if_pos (by omega)] at h;exact Or.inr (Or.inr ⟨h2,by omega,k,hk,hr,(Option.some.inj h).symm⟩)
 ·rw[h2,if_pos (by omega)] at h;exact Or.inl ⟨k,hk,h2,(Option.some.inj h).symm⟩
structure zbC(l:List Bf):Prop where
 rise:l.Pairwise ltB
 len:l.length≤8
 in':∀x∈l,0≤x.pl∧x.pl≤31∧x.data.size≤4
theorem zbC.goodB{l:List Bf}(h:zbC l):zbq l:=by
 refine⟨h.len,fun i hi=>?_,fun i hi=>?_⟩
 ·have:=h.in' _ (List.getElem_mem hi)
  omega
 ·exact List.pairwise_iff_getElem.1 h.rise i (i+1) (by omega) hi (by omega)
theorem zbC.once{l:List Bf}(h:zbC l):zeY l:=h.goodB.once
theorem zbe(l:List Bf):zN l=l.countP (fun x=>x.dirty):=by rw[zN,List.countP_eq_length_filter]
theorem zhl(l:List Bf)(x:Bf):zN (zcL l x)=zN l+if x.dirty=true then 1 else 0:=by
 have e:zN l=(l.take (zbX x.pl l)).countP (fun x=>x.dirty)+(l.drop (zbX x.pl l)).countP (fun x=>x.dirty):=by rw[zbe,←List.countP_append,List.take_append_drop]
 rw[e,zbe,zcL,List.countP_append,List.countP_cons]
 omega
theorem zim{l:List Bf}{k:Nat}(hk:k<l.length)(x:Bf):zN (l.set k x)+(if l[k].dirty=true then 1 else 0)=zN l+if x.dirty=true then 1 else 0:=by
 have e:zN l=(l.take k).countP (fun x=>x.dirty)+((l.drop (k+1)).countP (fun x=>x.dirty)+if l[k].dirty=true then 1 else 0):=by
  have:=List.countP_append (p:=fun x:Bf=>x.dirty) (l₁:=l.take k) (l₂:=l.drop k);rw[List.take_append_drop,List.drop_eq_getElem_cons hk,List.countP_cons] at this;rw[zbe];exact this
 rw[e,zbe,List.set_eq_take_append_cons_drop,if_pos hk,List.countP_append,List.countP_cons]
 omega
theorem zkS{l:List Bf}{k:Nat}(hk:k<l.length)(hd:l[k].dirty=false):zN (l.eraseIdx k)=zN l:=by
 have e:zN l=(l.take k).countP (fun x=>x.dirty)+((l.drop (k+1)).countP (fun x=>x.dirty)+if l[k].dirty=true then 1 else 0):=by
  have:=List.countP_append (p:=fun x:Bf=>x.dirty) (l₁:=l.take k) (l₂:=l.drop k);rw[List.take_append_drop,List.drop_eq_getElem_cons hk,List.countP_cons] at this;rw[zbe];exact this
 rw[e,hd,zbe,List.eraseIdx_eq_take_drop_succ,List.countP_append]
 simp
theorem zmm{l:List Bf}{pl:Int}:zQ l pl=true↔∃x,zaH l pl=some x∧x.dirty=true:=by
 unfold zQ
 cases zaH l pl with
 |none=>simp
 |some x=>simp
theorem zos{H:Int→Bool}{x:Bf}(h:zaw false H x=true):x.dirty=false∧H x.pl=false:=by
 simp only[zaw,Bool.and_eq_true,beq_iff_eq,Bool.not_eq_true'] at h;exact h
theorem zpn{H:Int→Bool}{x:Bf}:zaw true H x=true↔x.dirty=true∧H x.pl=false:=by
 simp only[zaw,Bool.and_eq_true,beq_iff_eq,Bool.not_eq_true']
structure Puts(l:List Bf)(x:Bf)(H:Int→Bool)(m:List Bf):Prop where
 ok:(0≤x.pl∧x.pl≤31∧x.data.size≤4)→zbC m
 same:zaH m x.pl=some x
 other:∀pl,pl ≠ x.pl→zaH m pl=zaH l pl∨(zaH m pl=none∧l.length=8∧∃y,zaH l pl=some y∧y.dirty=false∧H pl=false)
 mem:∀y∈m,y=x∨y∈l
 dirty:zN m≤zN l+if x.dirty=true then 1 else 0
 dirty':zQ l x.pl=true→zN m≤zN l
theorem zd6{l:List Bf}{x:Bf}{H:Int→Bool}{m:List Bf}(h:zbC l)(hp:zbo l x H=some m):Puts l x H m:=by
 have hM:=zik h.len hp;obtain⟨K,F⟩:=hM.facts h.goodB;have hmem:∀y∈m,y=x∨y∈l:=by
  intro y hy
  rcases hM with⟨k,hk,_,rfl⟩|⟨_,_,rfl⟩|⟨_,_,k,hk,_,rfl⟩
  ·rcases List.mem_or_eq_of_mem_set hy with h'|h'
   ·exact Or.inr h'
   ·exact Or.inl h'
  ·exact zbZ.1 hy
  ·exact(zbZ.1 hy).imp id List.mem_of_mem_eraseIdx
 have hsame:zaH m x.pl=some x:=zdi F.rise F.has;refine⟨fun hx=>⟨F.rise,F.len,fun y hy=>?_⟩,hsame,fun pl hne=>?_,hmem,?_,?_⟩
 ·rcases hmem y hy with rfl|h'
  ·exact hx
  ·exact h.in' y h'
 ·cases hl:zaH l pl with
  |none =>
   left
   cases hm:zaH m pl with
   |none=>rfl
   |some y =>
    obtain⟨h1,h2⟩:=zgP hm
    rcases hmem y h1 with rfl|h'
    ·exact absurd h2.symm hne
    ·exact absurd h2 (zqb hl y h')
  |some y =>
   obtain⟨h1,h2⟩:=zgP hl;obtain⟨i,hi,rfl⟩:=List.getElem_of_mem h1
   by_cases e:i=K
   ·subst e;obtain⟨g1,g2,g3,g4,g5⟩:=F.gone hi
    right
    refine⟨?_,g1,l[i],rfl,g2,by rw[←h2];exact g3⟩;rw[h2] at g4
    rcases zaV m pl with⟨k1,_⟩|⟨k,hk,_,k2,_⟩
    ·exact k1
    ·omega
   ·left
    have:=zdi F.rise (F.kept i hi (by rw[h2];exact hne) e);rw[h2] at this;exact this
 ·rcases hM with⟨k,hk,_,rfl⟩|⟨_,_,rfl⟩|⟨_,_,k,hk,hr,rfl⟩
  ·have:=zim hk x;omega
  ·rw[zhl];omega
  ·have hf:zaw false H l[k]=true:=by
    rcases zbd (zaw false H) l l.length (Nat.le_refl _) with⟨h1,_⟩|⟨k',hk',_,h1,h2,_⟩
    ·omega
    ·obtain rfl:k=k':=by omega
     exact h2
   rw[zhl,zkS hk (zos hf).1];omega
 ·intro hd;obtain⟨y,hy,hyd⟩:=zmm.1 hd
  rcases hM with⟨k,hk,hi,rfl⟩|⟨hi,_,rfl⟩|⟨hi,_,k,hk,hr,rfl⟩
  ·rcases zaV l x.pl with⟨k1,_⟩|⟨k',hk',k1,k2,_⟩
   ·rw[k1] at hy;cases hy
   ·obtain rfl:k=k':=by omega
    rw[k1] at hy;obtain rfl:=Option.some.inj hy;have:=zim hk x;rw[hyd] at this;simp only[if_true] at this
    split at this<;>omega
  ·rcases zaV l x.pl with⟨k1,_⟩|⟨k',hk',k1,k2,_⟩
   ·rw[k1] at hy;cases hy
   ·omega
  ·rcases zaV l x.pl with⟨k1,_⟩|⟨k',hk',k1,k2,_⟩
   ·rw[k1] at hy;cases hy
   ·omega
theorem zo2{l:List Bf}{x:Bf}{H:Int→Bool}(h:zbC l)(hp:zbo l x H=none):zaH l x.pl=none∧l.length=8∧∀y∈l,y.dirty=false→H y.pl=true:=by
 unfold zbo at hp
 rcases zaV l x.pl with⟨h1,h2⟩|⟨k,hk,_,h2,_⟩
 ·rw[h2,if_neg (by omega)] at hp
  by_cases h3:l.length<8
  ·rw[if_pos h3] at hp;cases hp
  ·rw[if_neg h3] at hp;have:=h.len;refine⟨h1,by omega,fun y hy hd=>?_⟩
   rcases zbd (zaw false H) l l.length (Nat.le_refl _) with⟨_,h4⟩|⟨k,hk,_,hr,_⟩
   ·obtain⟨j,hj,rfl⟩:=List.getElem_of_mem hy;have:=h4 j hj hj;simp only[zaw,hd] at this
    simpa using this
   ·rw[hr,if_pos (by omega)] at hp;cases hp
 ·rw[h2,if_pos (by omega)] at hp;cases hp
theorem zrq(l:List Bf)(g:Bf→Bf)(hg:∀x,(g x).pl=x.pl)(pl:Int):zaH (l.map g) pl=(zaH l pl).map g:=by
 unfold zaH;rw[List.find?_map]
 congr 2
 funext x
 simp[plB,hg]
theorem zbC.map{l:List Bf}(h:zbC l)(g:Bf→Bf)(hg:∀x,(g x).pl=x.pl∧(g x).data=x.data):zbC (l.map g):=by
 refine⟨?_,by rw[List.length_map];exact h.len,fun y hy=>?_⟩
 ·rw[List.pairwise_map];exact h.rise.imp (fun {a b} hab=>by simp only[ltB,(hg a).1,(hg b).1] at *;exact hab)
 ·obtain⟨x,hx,rfl⟩:=List.mem_map.1 hy;rw[(hg x).1,(hg x).2];exact h.in' x hx
theorem zbC.useL{l:List Bf}(h:zbC l)(pl u:Int):zbC (useL l pl u):=h.map _ (fun x=>by split<;>exact⟨rfl,rfl⟩)
theorem zbC.cleanL{l:List Bf}(h:zbC l)(pl:Int)(s:ByteArray):zbC (cleanL l pl s):=h.map _ (fun x=>by split<;>exact⟨rfl,rfl⟩)
theorem zli(l:List Bf)(g:Bf→Bf)(hg:∀x,(g x).dirty=x.dirty):zN (l.map g)=zN l:=by
 rw[zbe,zbe,List.countP_map]
 congr 1
 funext x
 exact hg x
theorem zky(l:List Bf)(g:Bf→Bf)(hg:∀x,(g x).dirty=true→x.dirty=true):zN (l.map g)≤zN l:=by
 rw[zbe,zbe,List.countP_map];exact List.countP_mono_left (fun x _ hx=>hg x hx)
theorem znt(l:List Bf)(pl u:Int):zN (useL l pl u)=zN l:=zli l _ (fun x=>by split<;>rfl)
theorem zlc(l:List Bf)(pl:Int)(s:ByteArray):zN (cleanL l pl s)≤zN l:=zky l _ (fun x=>by split<;>simp)
def Rq.on(q:Rq)(a:Int):Prop:=q.f≤a∧a<q.f+q.m
def zc6(q:Rq)(a:Int):ByteArray:=q.data.getD (a-q.f).toNat ByteArray.empty
def zcy(x y:Rq):Prop:=∀a:Int,x.on a→y.on a→False
theorem zcy.symm{x y:Rq}(h:zcy x y):zcy y x:=fun a h1 h2=>h a h2 h1
theorem zhb{o r:Rq}(go:zA o)(gr:zA r):zbb r o=false↔zcy o r:=by
 rw[zbb,zlI _ _ _ _ (zia go.ok) (zia gr.ok),decide_eq_false_iff_not];have h1:=go.bds;have h2:=gr.bds
 constructor
 ·intro h a ⟨a1,a2⟩ ⟨a3,a4⟩;exact h ⟨by omega,by omega⟩
 ·intro h ⟨h3,h4⟩
  by_cases e:o.f≤r.f
  ·exact h r.f ⟨e,by omega⟩ ⟨by omega,by omega⟩
  ·exact h o.f ⟨by omega,by omega⟩ ⟨by omega,by omega⟩
theorem zku{r:Rq}(gr:zA r)(a:Int)(ha:a≤9223372036854775807):zam r.f r.m a=true↔r.on a:=by
 rw[zeD r.f r.m 4 a gr.ok ha]
 simp[za1,Rq.on]
theorem zom{o r:Rq}(h:za8 o r=true):zew o r (zeW o r):=by
 have hb:∀a b:Rq,za9 a b (zh4 a b):=fun a b=>⟨rfl,rfl,rfl,rfl,rfl,rfl⟩
 unfold zeW
 by_cases h1:zaU o r=true
 ·rw[if_pos h1];exact Or.inl ⟨h1,hb o r⟩
 ·rw[if_neg h1];have h1':zaU o r=false:=by simpa using h1
  have h2:zaU r o=true:=by simpa [za8,h1'] using h
  exact Or.inr ⟨h1',h2,hb r o⟩
theorem znS(o r:Rq):∀t∈(zeW o r).tags,t∈o.tags∨t∈r.tags:=by
 unfold zeW;intro t ht
 split at ht
 ·exact List.mem_append.1 ht
 ·exact(List.mem_append.1 ht).symm
theorem on_in{q:Rq}{a:Int}:za1 q.f q.m a=true↔q.on a:=by simp[za1,Rq.on]
theorem Joined.on{a b q:Rq}(h:Joined a b q)(x:Int):q.on x↔a.on x∨b.on x:=by
 rw[←on_in,←on_in,←on_in,h.has,Bool.or_eq_true]
theorem Joined.dataA{a b q:Rq}(ga:zA a)(h:Joined a b q){x:Int}(hx:a.on x):zc6 q x=zc6 a x:=by
 cases hw:q.wr with
 |true =>
  obtain⟨i,j,e1,e2,hi,hj,e⟩:=h.ina hw x (on_in.2 hx);unfold zc6;rw[e1,e2,Int.toNat_natCast,Int.toNat_natCast,List.getD_eq_getElem?_getD,List.getD_eq_getElem?_getD,List.getElem?_eq_getElem hi,List.getElem?_eq_getElem hj,Option.getD_some,Option.getD_some,e]
 |false =>
  have h1:=h.good.shapeR hw;have h2:=ga.shapeR (h.wra▸hw);unfold zc6;rw[h1,h2];rfl
theorem Joined.dataB{a b q:Rq}(gb:zA b)(h:Joined a b q){x:Int}(hx:b.on x):zc6 q x=zc6 b x:=h.swap.dataA gb hx
structure Adds(l:List Rq)(r:Rq)(L:List Rq):Prop where
 good:∀q∈L,zA q
 apart:L.Pairwise zcy
 len:L.length≤6∨L.length=l.length
 from':∀q∈L,∀a,q.on a→∃q'∈r::l,q'.on a∧q'.wr=q.wr∧zc6 q' a=zc6 q a
 to':∀q'∈r::l,∀a,q'.on a→∃q∈L,q.on a∧q.wr=q'.wr∧zc6 q a=zc6 q' a
 tags:∀q∈L,∀t∈q.tags,∃q'∈r::l,t∈q'.tags
 ne:L ≠ []
theorem zpz{l L:List Rq}{r:Rq}(gl:∀q∈l,zA q)(gr:zA r)(ha:l.Pairwise zcy)(h:zcg l r=some L):Adds l r L:=by
 unfold zcg at h
 by_cases hm:l.any (zbb r)=true
 ·rw[if_pos hm] at h;cases h
 rw[if_neg hm] at h;have hr:∀q∈l,zcy q r:=fun q hq=>(zhb (gl q hq) gr).1 (by
  cases e:zbb r q with
  |false=>rfl
  |true=>exact absurd (List.any_eq_true.2 ⟨q,hq,e⟩) hm)
 have hp:=List.pairwise_iff_getElem.1 ha
 cases hf:l.findIdx? (fun o=>za8 o r) with
 |some k =>
  rw[hf] at h;obtain⟨hk,ht,_⟩:=List.findIdx?_eq_some_iff_getElem.1 hf;have eg:l.getD k r=l[k]:=by rw[List.getD_eq_getElem?_getD,List.getElem?_eq_getElem hk,Option.getD_some]
  simp only[eg] at h;obtain rfl:=Option.some.inj h;have J:=(zom ht).joined (gl _ (List.getElem_mem hk)) gr;have gk:=gl _ (List.getElem_mem hk);generalize hq:zeW l[k] r=Q at *;have hset:∀i (hi:i<(l.set k Q).length),(i=k∧(l.set k Q)[i]=Q)∨(i ≠ k∧∃hi':i<l.length,(l.set k Q)[i]=l[i]):=fun i hi=>by
   rw[List.length_set] at hi
   by_cases e:i=k
   ·subst e;exact Or.inl ⟨rfl,by simp⟩
   ·exact Or.inr ⟨e,hi,by rw[List.getElem_set_ne (fun h=>e h.symm)]⟩
  have hQm:Q∈l.set k Q:=List.mem_set hk Q;have hkeep:∀i (hi:i<l.length),i ≠ k→l[i]∈l.set k Q:=fun i hi e=>by
   have hi':i<(l.set k Q).length:=by rw[List.length_set];exact hi
   have:=List.getElem_mem hi';rw[List.getElem_set_ne (fun h=>e h.symm)] at this;exact this
  refine⟨fun q hq'=>?_,?_,Or.inr (by rw[List.length_set]),fun q hq' a ha'=>?_,fun q' hq' a ha'=>?_,fun q hq' t ht'=>?_,fun e=>by rw[e] at hQm;cases hQm⟩
  ·rcases List.mem_or_eq_of_mem_set hq' with h'|rfl
   ·exact gl q h'
   ·exact J.good
  ·rw[List.pairwise_iff_getElem];intro i j hi hj hij
   rcases hset i hi with⟨e1,e2⟩|⟨e1,hi',e2⟩<;>rcases hset j hj with⟨f1,f2⟩|⟨f1,hj',f2⟩
   ·omega
   ·rw[e2,f2];intro a h1 h2;subst e1
    rcases(J.on a).1 h1 with h3|h3
    ·exact hp i j hk hj' hij a h3 h2
    ·exact hr _ (List.getElem_mem hj') a h2 h3
   ·rw[e2,f2];intro a h1 h2;subst f1
    rcases(J.on a).1 h2 with h3|h3
    ·exact hp i j hi' hk hij a h1 h3
    ·exact hr _ (List.getElem_mem hi') a h1 h3
   ·rw[e2,f2];exact hp i j hi' hj' hij
  ·rcases List.mem_or_eq_of_mem_set hq' with h'|rfl
   ·exact⟨q,List.mem_cons_of_mem _ h',ha',rfl,rfl⟩
   ·rcases(J.on a).1 ha' with h1|h1
    ·exact⟨l[k],List.mem_cons_of_mem _ (List.getElem_mem hk),h1,J.wra.symm,(J.dataA gk h1).symm⟩
    ·exact⟨r,List.mem_cons_self,h1,J.wrb.symm,(J.dataB gr h1).symm⟩
  ·rcases List.mem_cons.1 hq' with rfl|h'
   ·exact⟨Q,hQm,(J.on a).2 (Or.inr ha'),J.wrb,J.dataB gr ha'⟩
   ·obtain⟨i,hi,rfl⟩:=List.getElem_of_mem h'
    by_cases e:i=k
    ·subst e;exact⟨Q,hQm,(J.on a).2 (Or.inl ha'),J.wra,J.dataA gk ha'⟩
    ·exact⟨l[i],hkeep i hi e,ha',rfl,rfl⟩
  ·rcases List.mem_or_eq_of_mem_set hq' with h'|rfl
   ·exact⟨q,List.mem_cons_of_mem _ h',ht'⟩
   ·rw[←hq] at ht'
    rcases znS _ _ t ht' with h1|h1
    ·exact⟨l[k],List.mem_cons_of_mem _ (List.getElem_mem hk),h1⟩
    ·exact⟨r,List.mem_cons_self,h1⟩
 |none =>
  rw[hf] at h;simp only at h
  by_cases h6:l.length<6
  ·rw[if_pos h6] at h;obtain rfl:=Option.some.inj h;refine⟨fun q hq=>?_,?_,Or.inl (by simp;omega),fun q hq a ha'=>?_,fun q' hq' a ha'=>?_,fun q hq t ht=>?_,by simp⟩
   ·rcases List.mem_append.1 hq with h'|h'
    ·exact gl q h'
    ·rw[List.mem_singleton.1 h'];exact gr
   ·rw[List.pairwise_append];exact⟨ha,List.pairwise_singleton _ _,fun a ha' b hb'=>by rw[List.mem_singleton.1 hb'];exact hr a ha'⟩
   ·refine⟨q,?_,ha',rfl,rfl⟩
    rcases List.mem_append.1 hq with h'|h'
    ·exact List.mem_cons_of_mem _ h'
    ·rw[List.mem_singleton.1 h'];exact List.mem_cons_self
   ·refine⟨q',?_,ha',rfl,rfl⟩
    rcases List.mem_cons.1 hq' with rfl|h'
    ·exact List.mem_append_right _ List.mem_cons_self
    ·exact List.mem_append_left _ h'
   ·refine⟨q,?_,ht⟩
    rcases List.mem_append.1 hq with h'|h'
    ·exact List.mem_cons_of_mem _ h'
    ·rw[List.mem_singleton.1 h'];exact List.mem_cons_self
  ·rw[if_neg h6] at h;cases h
structure zi8(c:Cl):Prop where
 kind:0≤c.kind∧c.kind≤3
 pl:¬c.kind=0→0≤c.pl∧c.pl≤31
 data:c.data.size≤4
 left:∀t∈c.left,0≤t∧t≤31
theorem zez:ByteArray.empty.size=0:=rfl
theorem zlL(s:ByteArray)(e:Int):zi8 ⟨0,0,ByteArray.empty,[],s,e⟩:=⟨⟨Int.le_refl 0,by show(0:Int)≤3;omega⟩,fun h=>absurd rfl h,by show ByteArray.empty.size≤4;rw[zez];omega,fun t ht=>by cases ht⟩
theorem zoK:zi8 cl0:=zlL _ _
structure Inv(p:Sk):Prop where
 cl3:p.cl.length=3
 cok:∀c∈p.cl,zi8 c
 hand:zbC p.hand
 d6:zN p.hand≤6
 good:∀r∈p.queue++p.dev.busy,zA r
 apart:(p.queue++p.dev.busy).Pairwise zcy
 q6:p.queue.length≤6
 b2:p.dev.busy.length≤2
 mom:0≤p.moment∧p.moment≤1000000000
 tg:0≤p.tags
 us:0≤p.uses
 tin:∀r∈p.queue++p.dev.busy,∀t∈r.tags,1≤t∧t≤p.tags
 n32:p.dev.now.length=32
 g32:p.dev.good.length=32
 ts:0≤p.turn.s∧p.turn.s≤2
 fr:∀t,0≤p.f t∧p.f t≤2
section
variable{p:Sk}
theorem Inv.client(h:Inv p)(i:Nat):zi8 (p.client i):=by
 unfold Sk.client;rw[List.getD_eq_getElem?_getD]
 cases e:p.cl[i]? with
 |none=>exact zoK
 |some c=>exact h.cok c (List.mem_of_getElem? e)
theorem Inv.setCl(h:Inv p)(i:Nat)(c:Cl)(hc:zi8 c):Inv { p with cl:=p.cl.set i c } :=
 ⟨by show(p.cl.set i c).length=3;rw[List.length_set];exact h.cl3,fun x hx=>(List.mem_or_eq_of_mem_set hx).elim (h.cok x) (fun e=>e▸hc),h.hand,h.d6,h.good,h.apart,h.q6,h.b2,h.mom,h.tg,h.us,h.tin,h.n32,h.g32,h.ts,h.fr⟩
theorem Inv.answer(h:Inv p)(i:Nat)(s:ByteArray)(e:Int):Inv (p.answer i s e):=h.setCl i _ (zlL s e)
theorem Inv.setHand(h:Inv p)(l:List Bf)(u:Int)(hl:zbC l)(hd:zN l≤6)(hu:0≤u):Inv { p with hand:=l,uses:=u } :=
 ⟨h.cl3,h.cok,hl,hd,h.good,h.apart,h.q6,h.b2,h.mom,h.tg,hu,h.tin,h.n32,h.g32,h.ts,h.fr⟩
theorem zlv(h:Inv p)(pl:Int)(hpl:pl≤31):p.held pl=false↔∀r∈p.queue++p.dev.busy,¬r.on pl:=by
 unfold Sk.held;rw[List.any_eq_false]
 constructor
 ·intro h1 r hr ho;exact h1 r hr ((zku (h.good r hr) pl (by omega)).2 ho)
 ·intro h1 r hr ho;exact h1 r hr ((zku (h.good r hr) pl (by omega)).1 ho)
theorem zdE(h:Inv p)(pl:Int)(hpl:0≤pl∧pl≤31)(wr:Bool)(data:List ByteArray)(hd:(wr=true∧data.length=1∧∀s∈data,s.size≤4)∨(wr=false∧data=[])):zA (p.reqOf pl wr data):=by
 refine⟨by show okB pl 1 4=true;simp only[okB,decide_eq_true_eq];omega,?_,by simp[Sk.reqOf],by simp[Sk.reqOf],h.mom.1,h.mom.2,?_⟩
 ·rcases hd with⟨rfl,h1,_⟩|⟨rfl,rfl⟩
  ·simp[Sk.reqOf,zbR,h1]
  ·simp[Sk.reqOf,zbR]
 ·rcases hd with⟨_,_,h2⟩|⟨_,rfl⟩
  ·simp only[Sk.reqOf,zcD,List.all_eq_true,decide_eq_true_eq];exact h2
  ·rfl
theorem zkJ(pl:Int)(wr:Bool)(data:List ByteArray)(a:Int):(p.reqOf pl wr data).on a↔a=pl:=by
 simp only[Rq.on,Sk.reqOf];omega
theorem zex(pl:Int)(wr:Bool)(data:List ByteArray):(zcg p.queue (p.reqOf pl wr data)=none∧p.askQ pl wr data=(false,p))∨∃L,zcg p.queue (p.reqOf pl wr data)=some L∧p.askQ pl wr data=(true,{ p with queue:=L,tags:=p.tags+1 }):=by
 unfold Sk.askQ
 cases e:zcg p.queue (p.reqOf pl wr data) with
 |none=>exact Or.inl ⟨rfl,rfl⟩
 |some L=>exact Or.inr ⟨L,rfl,rfl⟩
theorem Inv.queue(h:Inv p):(∀q∈p.queue,zA q)∧p.queue.Pairwise zcy:=⟨fun q hq=>h.good q (List.mem_append_left _ hq),(List.pairwise_append.1 h.apart).1⟩
theorem Inv.adds(h:Inv p){pl:Int}(hpl:0≤pl∧pl≤31){wr:Bool}{data:List ByteArray}(hd:(wr=true∧data.length=1∧∀s∈data,s.size≤4)∨(wr=false∧data=[])){L:List Rq}(e:zcg p.queue (p.reqOf pl wr data)=some L):Adds p.queue (p.reqOf pl wr data) L :=
 zpz h.queue.1 (zdE h pl hpl wr data hd) h.queue.2 e
theorem Inv.askQ(h:Inv p)(pl:Int)(hpl:0≤pl∧pl≤31)(wr:Bool)(data:List ByteArray)(hd:(wr=true∧data.length=1∧∀s∈data,s.size≤4)∨(wr=false∧data=[]))(hh:p.held pl=false):Inv (p.askQ pl wr data).2:=by
 rcases zex (p:=p) pl wr data with⟨_,e⟩|⟨L,e1,e⟩
 ·rw[e];exact h
 ·rw[e];have A:=h.adds hpl hd e1;have hno:=(zlv h pl hpl.2).1 hh;have hap:=List.pairwise_append.1 h.apart;refine⟨h.cl3,h.cok,h.hand,h.d6,fun r hr=>?_,?_,?_,h.b2,h.mom,by show 0≤p.tags+1;have:=h.tg;omega,h.us,fun r hr t ht=>?_,h.n32,h.g32,h.ts,h.fr⟩
  ·rcases List.mem_append.1 hr with h'|h'
   ·exact A.good r h'
   ·exact h.good r (List.mem_append_right _ h')
  ·refine List.pairwise_append.2 ⟨A.apart,hap.2.1,fun q hq b hb a h1 h2=>?_⟩;obtain⟨q',hq',h3,_,_⟩:=A.from' q hq a h1
   rcases List.mem_cons.1 hq' with rfl|h4
   ·rw[zkJ] at h3;subst h3;exact hno b (List.mem_append_right _ hb) h2
   ·exact hap.2.2 q' h4 b hb a h3 h2
  ·have:=h.q6;show L.length≤6
   rcases A.len with h'|h'<;>omega
  ·have htg:∀r∈p.queue++p.dev.busy,∀t∈r.tags,1≤t∧t≤p.tags+1:=fun r hr t ht=>by have:=h.tin r hr t ht;omega
   rcases List.mem_append.1 hr with h'|h'
   ·obtain⟨q',hq',ht'⟩:=A.tags r h' t ht
    rcases List.mem_cons.1 hq' with rfl|h4
    ·have:t=p.tags+1:=by simpa [Sk.reqOf] using ht'
     have:=h.tg;show 1≤t∧t≤p.tags+1
     omega
    ·exact htg q' (List.mem_append_left _ h4) t ht'
   ·exact htg r (List.mem_append_right _ h') t ht
theorem Inv.serveRead(h:Inv p)(i:Nat)(hk:(p.client i).kind=1):Inv (p.serveRead i):=by
 have hc:=h.client i;have hpl:=hc.pl (by rw[hk];omega);unfold Sk.serveRead
 cases e:zaH p.hand (p.client i).pl with
 |some b=>exact(h.setHand _ _ (h.hand.useL _ _) (by rw[znt];exact h.d6) (by have:=h.us;omega)).answer i _ _
 |none =>
  by_cases hh:p.held (p.client i).pl=true
  ·simp only[hh,if_true];exact h
  ·simp only[hh];exact h.askQ _ hpl _ _ (Or.inr ⟨rfl,rfl⟩) (by simpa using hh)
theorem Inv.serveWrite(h:Inv p)(i:Nat)(hk:(p.client i).kind=2):Inv (p.serveWrite i):=by
 have hc:=h.client i;have hpl:=hc.pl (by rw[hk];omega);have hu:0≤p.uses+1:=by have:=h.us;omega
 unfold Sk.serveWrite
 by_cases hd:p.dead=true
 ·rw[if_pos hd];exact h.answer i _ _
 rw[if_neg hd]
 by_cases h6:6≤zN p.hand∧zQ p.hand (p.client i).pl=false
 ·rw[if_pos h6];exact h
 rw[if_neg h6]
 cases e:zbo p.hand ⟨(p.client i).pl,(p.client i).data,true,p.uses+1⟩ p.held with
 |none=>exact h.setHand p.hand _ h.hand h.d6 hu
 |some l =>
  have P:=zd6 h.hand e;refine(h.setHand l _ (P.ok ⟨hpl.1,hpl.2,hc.data⟩) ?_ hu).answer i _ _
  by_cases h7:zQ p.hand (p.client i).pl=true
  ·have:=P.dirty' h7;have:=h.d6
   omega
  ·have:=P.dirty;simp only[if_true] at this;have:¬6≤zN p.hand:=fun h'=>h6 ⟨h',by simpa using h7⟩
   omega
theorem Inv.flushed(h:Inv p):Inv { p with dev:=p.dev.flush } :=
 ⟨h.cl3,h.cok,h.hand,h.d6,h.good,h.apart,h.q6,h.b2,h.mom,h.tg,h.us,h.tin,h.n32,h.n32,h.ts,h.fr⟩
theorem Inv.serveSync(h:Inv p)(i:Nat):Inv (p.serveSync i):=by
 have hc:=h.client i;unfold Sk.serveSync
 by_cases hd:p.dead=true
 ·rw[if_pos hd];exact h.answer i _ _
 rw[if_neg hd]
 split
 ·exact h.flushed.answer i _ _
 ·exact h.setCl i _ ⟨hc.kind,hc.pl,hc.data,fun t ht=>hc.left t ((List.mem_filter.1 ht).1)⟩
theorem Inv.serve1(h:Inv p)(i:Nat):Inv (p.serve1 i):=by
 unfold Sk.serve1
 split
 ·exact h.serveRead i (by assumption)
 ·split
  ·exact h.serveWrite i (by assumption)
  ·split
   ·exact h.serveSync i
   ·exact h
theorem Inv.serve(h:Inv p):Inv p.serve:=((h.serve1 0).serve1 1).serve1 2
theorem zls(h:Inv p):∀t∈zL p.hand,0≤t∧t≤31:=fun t ht=>by
 unfold zL at ht;obtain⟨x,hx,rfl⟩:=List.mem_map.1 ht;have:=h.hand.in' x ((List.mem_filter.1 hx).1)
 omega
theorem zcw{c kind pl:Int}{data:ByteArray}(h:zag c kind pl data=0):(0≤c∧c<3)∧(1≤kind∧kind≤3)∧(0≤pl∧pl≤31)∧(kind=3→pl=0)∧data.size≤4∧(¬kind=2→data.size=0):=by
 unfold zag at h
 split at h
 ·omega
 ·split at h
  ·omega
  ·split at h
   ·omega
   ·omega
theorem Inv.asks(h:Inv p)(c:Nat)(kind pl:Int)(data:ByteArray)(hk:1≤kind∧kind≤3)(hpl:0≤pl∧pl≤31)(hd:data.size≤4):Inv (p.asks c kind pl data):=by
 refine h.setCl c _ ⟨⟨by show 0≤kind;omega,hk.2⟩,fun _=>hpl,hd,fun t ht=>?_⟩;have ht':t∈(if kind=3 then zL p.hand else(p.client c).left):=ht
 split at ht'
 ·exact zls h t ht'
 ·exact(h.client c).left t ht'
theorem Inv.ask(h:Inv p)(c kind pl:Int)(data:ByteArray):Inv (p.ask c kind pl data).2:=by
 unfold Sk.ask
 by_cases hf:zag c kind pl data=0
 ·rw[if_neg (by simpa using hf)]
  split
  ·exact h
  ·have:=zcw hf;exact(h.asks c.toNat kind pl data this.2.1 this.2.2.1 this.2.2.2.2.1).serve
 ·rw[if_pos hf];exact h
theorem Inv.tick(h:Inv p):Inv p.tick:=by
 refine Inv.serve (p:={ p with moment:=if p.moment+1<1000000000 then p.moment+1 else 1000000000 }) ⟨h.cl3,h.cok,h.hand,h.d6,h.good,h.apart,h.q6,h.b2,?_,h.tg,h.us,h.tin,h.n32,h.g32,h.ts,h.fr⟩;have:=h.mom;show 0≤(if p.moment+1<1000000000 then p.moment+1 else 1000000000)∧(if p.moment+1<1000000000 then p.moment+1 else 1000000000)≤1000000000
 split<;>omega
theorem zf5(l:List Bf)(H:Int→Bool):(zby l H=-1∧∀x∈l,x.dirty=true→H x.pl=true)∨∃x∈l,zby l H=x.pl∧x.dirty=true∧H x.pl=false:=by
 unfold zby
 rcases zbd (zaw true H) l l.length (Nat.le_refl _) with⟨h1,h2⟩|⟨k,hk,_,h1,h2,_⟩
 ·rw[h1,if_neg (by omega)];refine Or.inl ⟨rfl,fun x hx hd=>?_⟩;obtain⟨j,hj,rfl⟩:=List.getElem_of_mem hx;have:=h2 j hj hj;simp only[zaw,hd] at this
  simpa using this
 ·rw[h1,if_pos (by omega)];have e:l.getD ((k:Int).toNat) ⟨0,ByteArray.empty,false,0⟩=l[k]:=by rw[Int.toNat_natCast,List.getD_eq_getElem?_getD,List.getElem?_eq_getElem hk,Option.getD_some]
  rw[e];exact Or.inr ⟨l[k],List.getElem_mem hk,rfl,zpn.1 h2⟩
theorem Inv.clean(h:Inv p):Inv p.clean.2:=by
 unfold Sk.clean
 split
 ·exact h
 split
 ·exact h
 ·rename_i _ hp
  rcases zf5 p.hand p.held with⟨e,_⟩|⟨x,hx,e,hd,hh⟩
  ·rw[e] at hp;omega
  ·have hin:=h.hand.in' x hx;rw[e,zdi h.hand.rise hx];exact h.askQ _ ⟨hin.1,hin.2.1⟩ _ _ (Or.inl ⟨rfl,rfl,fun s hs=>by rw[List.mem_singleton.1 hs];exact hin.2.2⟩) hh
end
end Go.Proofs.YtlhgjplipgandaaGreat
