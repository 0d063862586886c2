/- Joined texts: Add2, AddN, RMerge. -/
import Derived.Deep.RegionLawGrows
import Derived.Test.YtlhgjplipgandaaGreatDoorD26
set_option maxRecDepth 100000
set_option maxHeartbeats 8000000
set_option linter.unusedSimpArgs false
namespace Go.Proofs.YtlhgjplipgandaaGreatDoor
open Go.RowKit Go.BigFrame
attribute [local go_sem] ze.cell ze.frozen
theorem zkn{P:Program}{ops:Array Oper}{o:Oper}{a:Act}{w:World}{K:Act→World→Prop}{Q:Exit→Act→World→Prop}{E:Prop}
 (hg:o.guard=none) (s x:Operand) (t:TypeId) (hop:o.op=Op.call { callee:=Callee.builtin Builtin.append,args:=#[s,x],argTypes:=#[t,t] })
 (base:Nat) (e:TypeId) (i:TypeInfo) (z:Value) (size bytes:Nat) (ht:P.underlying t=some (.slice e)) (hi:P.info? e=some i) (hz:i.zero=some z)
 (hsize:i.size=size) (hby:i.bytes=bytes) (hzs:z.cells.size=size) (hsz:0<size)
 (v:Value) (n:Nat) (xs:List Value) (hs:a.eval s=v) (hown:w.ownsRow base e size v n xs)
 (ad:Option Addr) (m c:Nat) (news:List Value) (hx:a.eval x=.slice ad m c) (hrow:zaS w size ad m c news)
 (h63:n+m≤maxLen) (hbytes:(n+m)*bytes≤140737488355328) (hbase:base≤w.heap.size)
 (h:∀v' w',w'.ownsRow base e size v' (n+m) (xs++news)→Below base w w'→K (a.put o.dst v') w') :
 if Region.wanted o (yielded ops a.tmps)=true then Oper.wp P o a w K Q else E:=by
 have hw:Region.wanted o (yielded ops a.tmps)=true:=by simp[Region.wanted,hg]
 rw[if_pos hw];obtain⟨h1,h2,h3⟩:=hrow
 rcases h3 with⟨rfl,rfl,rfl⟩|⟨ad',rfl,hc⟩
 ·obtain rfl:news=[]:=List.eq_nil_of_length_eq_zero (by rw[h1];simp);have hr:=run_append_owned_none (P:=P) w base t o.type e i size ht hi v n xs hown;unfold Oper.wp
  simp[execOp,hop,resolve,invoke,builtin,hs,hx,hr,Result.andThen]
  exact h v w (by simpa using hown) (Below.refl _ _)
 ·obtain⟨v',w',hrun,r1,r2,_⟩:=run_append_own (P:=P) w base t o.type e i z size bytes ht hi hz hsize hby hzs hsz v n xs hown ad' m c news h1 hc h2 h63 hbytes hbase;unfold Oper.wp
  simp[execOp,hop,resolve,invoke,builtin,hs,hx,hrun,Result.andThen]
  exact h v' w' r1 ((Below.refl _ _).grown r2 hbase fun k hk=>(hown.lt k hk).1)
theorem zdC{w w':World}{B e size n:Nat}{v:Value}{xs:List Value}(h:w.ownsRow B e size v n xs)(hb:Below w.heap.size w w'):w'.ownsRow B e size v n xs:=by
 refine⟨h.1,h.2.elim Or.inl ?_⟩;rintro⟨g,cap,cur,hv,hg,hh,r⟩;refine Or.inr ⟨g,cap,cur,hv,hg,?_,r⟩;have:g<w.heap.size:=by
  rcases Nat.lt_or_ge g w.heap.size with h'|h'
  ·exact h'
  ·rw[Array.getElem?_eq_none h'] at hh;cases hh
 rw[hb.block g this];exact hh
theorem zjw{w:World}{b c:Nat}(q:Rq)(h:Six w b q):zaS w 6 (some ⟨b,0,none⟩) 1 c (zr [q]):=by
 refine⟨rfl,zdD _,Or.inr ⟨_,rfl,fun k u hk=>?_⟩⟩;obtain⟨i,j,hi,hj,rfl,rfl⟩:=ze9 hk;have:i=0:=by simp at hi;exact hi
 subst this;rw[add_mk'];obtain⟨h0,h1,h2,h3,h4,h5⟩:=h
 match j,hj with
 |0,_=>exact h0
 |1,_=>exact h1
 |2,_=>exact h2
 |3,_=>exact h3
 |4,_=>exact h4
 |5,_=>exact h5
theorem Six.belowB{w w':World}{b B:Nat}{q:Rq}(h:Six w b q)(hb:Below B w w')(hl:b<B):Six w' b q:=by
 obtain⟨h0,h1,h2,h3,h4,h5⟩:=h;refine⟨?_,?_,?_,?_,?_,?_⟩<;>(rw[hb.cell hl];assumption)
def Added(l:List Rq)(r:Rq)(L:List Rq):Prop :=
 (∃(k:Nat) (hk:k<l.length) (q:Rq),(∀j (hj:j<l.length),j<k→zbr l[j] r=false)∧zbr l[k] r=true∧zeM l[k] r q∧L=l.set k q) ∨
 ((∀j (hj:j<l.length),zbr l[j] r=false)∧l.length<6∧L=l++[r])
theorem zps(o r:Rq)(w:World)(go:zv o)(gr:zv r)(ho:o.At w)(hr:r.At w)(h:zbr o r=true) :
 Calls Tryz.prog 175 #[o.val,r.val] w fun e w'=>∃q:Rq,e=.returned (.tuple #[q.val,.bool true])∧zeM o r q∧q.At w'∧zcB q w.heap.size∧Below w.heap.size w w':=by
 cases h1:zaK o r
 ·have h2:zaK r o=true:=by simpa [zbr,h1] using h
  exact(merge_trueN' r o w gr go hr ho h2).mono fun e w' ⟨q,he,hq,ha,hf,hb⟩=>⟨q,he,Or.inr ⟨h1,h2,hq⟩,ha,hf,hb⟩
 ·exact(zj1 o r w go gr ho hr h1).mono fun e w' ⟨q,he,hq,ha,hf,hb⟩=>⟨q,he,Or.inl ⟨h1,hq⟩,ha,hf,hb⟩
def ziL(base:Nat)(l:List Rq)(r:Rq)(L:List Rq):Prop :=
 (∃(k:Nat) (hk:k<l.length) (q:Rq),(∀j (hj:j<l.length),j<k→zbr l[j] r=false)∧zbr l[k] r=true∧zeM l[k] r q∧zcB q base∧L=l.set k q) ∨
 ((∀j (hj:j<l.length),zbr l[j] r=false)∧l.length<6∧L=l++[r])
def zo2(base:Nat)(l:List Rq)(r:Rq)(w':World)(e:Ending):Prop :=
 (∃(L:List Rq) (a':Option Addr) (c':Nat),ziL base l r L∧e=.returned (.tuple #[.slice a' L.length c',.nilIface])∧zm w' a' L∧L.length≤c'∧(a'=none→c'=0)∧∀p,a'=some p→base≤p.block) ∨
 ((∀j (hj:j<l.length),zbr l[j] r=false)∧6≤l.length∧e=.returned (.tuple #[.slice none 0 0,.iface 87 (.int .i64 7)]))
theorem zkA(l:List Rq)(a:Option Addr)(c:Nat)(r:Rq)(w:World)(hl:zm w a l)(hn:a=none→c=0)(hr:r.At w)(h10:l.length≤1000)(gr:zv r)(gl:∀i (h:i<l.length),zv l[i])(hm:l.any (zbi r)=false) :
 Calls Tryz.prog 128 #[.slice a l.length c,r.val] w fun e w'=>zo2 w.heap.size l r w' e∧Below w.heap.size w w':=by
 obtain⟨i,hi,hz0,hz1,hz2⟩:=zbA zfP;have HI:=za5 (⟨hi,hz0,hz1,hz2⟩:Tryz.prog.info? 146=some i∧_∧_∧_);clear hi hz0 hz1 hz2;have HGL:=za5 gl;clear gl;go_enter Tryz.func128,Tryz.ntmps128;go_wp2_with fail;refine(zgh r _ (hr.later (zs _ _)) ((zi8 r).2 gr)).mono ?_;rintro e w1 ⟨rfl,hb⟩;have S:=(zgx w 146 r).later hb;have HS:=za5 S;go_wp2_with fail;refine(zdr 173 (by intro args w;go_simp) (.pointer (some ⟨w.heap.size,0,none⟩)) (zbi r) l a c _ (hl.later (by(with_reducible repeat first|exact Below.refl _ _|refine zc ?_ _|refine zd ?_|refine bset' ?_ (by omega) _|refine zb ?_ (by assumption)))) (fun x w' _ hb'=>zh6 x r w.heap.size w' (cell_later' hb' HS.out.2.1) (cell_later' hb' HS.out.2.2.1)) false hm).mono ?_;rintro e w2 ⟨rfl,hb2⟩;have S2:Six w2 w.heap.size r:=S.later hb2;have HB2:Below w.heap.size w w2:=by(with_reducible repeat first|exact Below.refl _ _|refine zc ?_ _|refine zd ?_|refine bset' ?_ (by omega) _|refine zb ?_ (by assumption))
 have hl2:=hl.later HB2;have hlen:=hl.2.2;clear S HS hb hb2 hm;go_wp2_with fail
 go_loopw[25] (fun iv wr=>∃n:Nat,n≤l.length∧iv=.int .i64 n∧(∀j (hj:j<l.length),j<n→zbr l[j] r=false)∧Below w2.heap.size w2 wr) (fun iv _=>l.length-(intOf iv).toNat)
 case atStart=>exact⟨0,by omega,rfl,fun j hj h=>absurd h (Nat.not_lt_zero _),Below.refl _ _⟩
 case round =>
  obtain⟨n,hnl,rfl,hno,HB⟩:=hrel;have HN:=za5 hno;clear hno;have S3:=S2.later HB;have hl3:=hl2.later HB;have HB3:=zb HB2 HB;have HR:=za5 HB;clear HB S2;obtain⟨s0,s1,s2,s3,s4,s5⟩:=id S3;have ls:=zg s0
  by_cases hlt:n<l.length
  ·have h0:l ≠ []:=by rintro rfl;exact absurd hlt (Nat.not_lt_zero _)
   have H0:=za5 h0;obtain⟨b,o,rfl⟩:=hl3.form.resolve_left h0;clear h0;obtain⟨c0,c1,c2,c3,c4,c5⟩:=hl3.cells hlt;have lc:=zg c0
   cases ht:zbr l[n] r
   ·go_wp2_with fail;refine(mergeN l[n] r _ (HGL.out n hlt) gr ht).mono ?_;rintro e w4 ⟨rfl,hb4⟩;go_wp2;go_roundw
    case rel=>exact⟨n+1,by omega,by go_num,fun j hj h=>by by_cases e:j=n;(subst e;exact ht);exact HN.out j hj (by omega),zb HR.out (by(with_reducible repeat first|exact Below.refl _ _|refine zc ?_ _|refine zd ?_|refine bset' ?_ (by omega) _|refine zb ?_ (by assumption)))⟩
    case measure=>simp[intOf];omega
   ·go_wp2_with fail;refine(zps l[n] r _ (HGL.out n hlt) gr (Rq.At.of hl hlt (by(with_reducible repeat first|exact Below.refl _ _|refine zc ?_ _|refine zd ?_|refine bset' ?_ (by omega) _|refine zb ?_ (by assumption)))) (hr.later (by(with_reducible repeat first|exact Below.refl _ _|refine zc ?_ _|refine zd ?_|refine bset' ?_ (by omega) _|refine zb ?_ (by assumption)))) ht).mono ?_;rintro e w4 ⟨q,rfl,hq,hqa,hqf,hb4⟩;have HB4:Below w.heap.size w w4:=by(with_reducible repeat first|exact Below.refl _ _|refine zc ?_ _|refine zd ?_|refine bset' ?_ (by omega) _|refine zb ?_ (by assumption))
    have HQ:=za5 hq;have hw4s:w.heap.size≤wr.heap.size:=HB3.size;have HQF:Hid (zcB q w.heap.size):=⟨fun b o e=>by have:=hqf.1 b o e;rw[World.size_alloc] at this;omega,fun b o e=>by have:=hqf.2 b o e;rw[World.size_alloc] at this;omega⟩
    clear hqf hw4s;clear hq hb4 c0 c1 c2 c3 c4 c5 lc s0 s1 s2 s3 s4 s5 ls S3 hl3;go_wp2_with fail;refine(zgJ l _ c _ (hl.later (by(with_reducible repeat first|exact Below.refl _ _|refine zc ?_ _|refine zd ?_|refine bset' ?_ (by omega) _|refine zb ?_ (by assumption)))) hn (by omega)).mono ?_;rintro e w5 ⟨a5,c5,rfl,hN,hb5⟩;obtain⟨b5,rfl,hbb,hlt5,hfz⟩:=hN.place H0.out;rw[World.size_alloc] at hbb;have Sq:Six w5 w4.heap.size q:=(zgx w4 146 q).later hb5;obtain⟨s0,s1,s2,s3,s4,s5⟩:=id Sq;have ls:=zg s0;obtain⟨d0,d1,d2,d3,d4,d5⟩:=hN.here.cells hlt;rw[Nat.zero_add] at d0 d1 d2 d3 d4 d5;have f0:=hfz (n*6);have f1:=hfz (n*6+1);have f2:=hfz (n*6+2);have f3:=hfz (n*6+3);have f4:=hfz (n*6+4);have f5:=hfz (n*6+5);have nb:b5 ≠ w4.heap.size:=by omega
    have hcap:=hN.cap;have HH:=za5 hN.here;have hB5:Below w4.heap.size w4 w5:=by(with_reducible repeat first|exact Below.refl _ _|refine zc ?_ _|refine zd ?_|refine bset' ?_ (by omega) _|refine zb ?_ (by assumption))
    clear hb5 hfz Sq hN;have hz4:=HB4.size;go_wp2
    go_ret2
    refine⟨Or.inl ⟨l.set n q,_,c5,Or.inl ⟨n,hlt,q,HN.out,ht,HQ.out,HQF.out,rfl⟩,(by show Ending.returned (.tuple #[.slice (some ⟨b5,0,none⟩) l.length c5,.nilIface])=_;rw[List.length_set]),HH.out.put hlt (fun r' hr'=>(hl.2.1 r' hr').later ?_) (hqa.later ?_) rfl,by rw[List.length_set];exact hcap,by simp,fun p e=>by simp only[Option.some.injEq] at e;subst e;simp only;omega⟩,?_⟩
    all_goals (with_reducible repeat first|exact Below.refl _ _|refine zc ?_ _|refine zd ?_|refine bset' ?_ (by omega) _|refine zb ?_ (by assumption))
  ·have hnn:n=l.length:=by omega
   subst hnn
   by_cases h6:6≤l.length
   ·go_wp2
    go_ret2
    exact⟨Or.inr ⟨fun j hj=>HN.out j hj hj,h6,rfl⟩,by(with_reducible repeat first|exact Below.refl _ _|refine zc ?_ _|refine zd ?_|refine bset' ?_ (by omega) _|refine zb ?_ (by assumption))⟩
   ·go_wp2_with fail;obtain⟨hi,hz0,hz1,hz2⟩:=HI.out
    go_region_held3 (fun w'=>w'.cell? ⟨w.heap.size,0,none⟩=some (.bool r.wr)∧w'.cell? ⟨w.heap.size,1,none⟩=some (.int .i64 r.f)∧w'.cell? ⟨w.heap.size,2,none⟩=some (.int .i64 r.m)∧w'.cell? ⟨w.heap.size,3,none⟩=some (.slice r.da r.data.length r.dc)∧w'.cell? ⟨w.heap.size,4,none⟩=some (.slice r.ta r.tags.length r.tc)∧w'.cell? ⟨w.heap.size,5,none⟩=some (.int .i64 r.born)) (exact(show Six _ _ r by first|((repeat(first|with_reducible exact S3|with_reducible refine Six.drew ?_|with_reducible refine Six.alloc ?_ _|with_reducible refine Six.later ?_ (by assumption)|with_reducible refine Six.set ?_ (by omega) _));done)|(refine Six.belowB ?_ (by assumption) ls;(repeat(first|with_reducible exact S3|with_reducible refine Six.drew ?_|with_reducible refine Six.alloc ?_ _|with_reducible refine Six.later ?_ (by assumption)|with_reducible refine Six.set ?_ (by omega) _));done))) (first|(go_at_call 93;refine(zgJ l a c _ (hl.later (by(with_reducible repeat first|exact Below.refl _ _|refine zc ?_ _|refine zd ?_|refine bset' ?_ (by omega) _|refine zb ?_ (by assumption)))) hn (by omega)).mono ?_;rintro e w4 ⟨a4,c4,rfl,hN,hb4⟩)|(refine zkn (by rfl) (.tmp 50) (.tmp 52) 47 (by rfl) wr.heap.size 146 i _ 6 80 Tryz.underlying47 hi hz0 hz1 hz2 rfl (by decide) (.slice a4 l.length c4) l.length (zr l) (by simp[Act.eval,Act.put]) (ownsRow_le' (zdC hN.own (by(with_reducible repeat first|exact Below.refl _ _|refine zc ?_ _|refine zd ?_|refine bset' ?_ (by omega) _|refine zb ?_ (by assumption)))) (by simp)) _ 1 1 (zr [r]) (by simp[Act.eval,Act.put];rfl) (by first|(refine zjw r ?_;simp[Six];done)|(refine zjw r (Six.later ?_ hb4);simp[Six];done)) (by unfold maxLen;omega) (by omega) (by have:=hb4.size;simp at this ⊢;omega) ?_;intro v5 w5 hown5 hb5))
    all_goals
     rw[←zaZ] at hown5;have HB5:Below w.heap.size w w5:=by have hq5:Below wr.heap.size wr w5:=Below.trans (by(with_reducible repeat first|exact Below.refl _ _|refine zc ?_ _|refine zd ?_|refine bset' ?_ (by omega) _|refine zb ?_ (by assumption))) hb5;exact zb HB3 hq5
     obtain⟨a5,c5,rfl,hN5⟩:=zcM hown5 (fun r' hr'=>by rcases List.mem_append.1 hr' with h|h;exact(hl.2.1 r' h).later HB5;(rw[List.mem_singleton.1 h];exact hr.later HB5)) (by simp) (by simp;omega);have HN5:=za5 hN5;have HNB:Hid (∀p,a5=some p→w.heap.size≤p.block):=fun p e=>by have:=(hN5.own.lt p.block (by rw[e];rfl)).1;have:=HB3.size;omega
     clear hown5 hN5 hN hi hz0 hz1 hz2;go_wp2
     go_ret2
     exact⟨Or.inl ⟨l++[r],a5,c5,Or.inr ⟨fun j hj=>HN.out j hj hj,by omega,rfl⟩,rfl,HN5.out.here,HN5.out.cap,HN5.out.nil,fun p e=>HNB.out p e⟩,HB5⟩


theorem Zix.belowB{w w':World}{n B:Nat}(h:Zix w n)(hb:Below B w w')(hl:n<B):Zix w' n:=by
 obtain⟨⟨h0,h1,h2,h3,h4,h5⟩,⟨f0,f1,f2,f3,f4,f5⟩⟩:=h;have c:=fun o=>hb.cell (p:=⟨n,o,none⟩) hl
 have f:=fun o=>hb.frozen (p:=⟨n,o,none⟩) hl
 exact⟨⟨zO ((c 0).trans h0),zO ((c 1).trans h1),zO ((c 2).trans h2),zO ((c 3).trans h3),zO ((c 4).trans h4),zO ((c 5).trans h5)⟩,⟨(f 0).trans f0,(f 1).trans f1,(f 2).trans f2,(f 3).trans f3,(f 4).trans f4,(f 5).trans f5⟩⟩
def Cel(w:World)(n:Nat)(v0 v1 v2 v3 v4 v5:Value):Prop:=w.cell? ⟨n,0,none⟩=some v0∧w.cell? ⟨n,1,none⟩=some v1∧w.cell? ⟨n,2,none⟩=some v2∧w.cell? ⟨n,3,none⟩=some v3∧w.cell? ⟨n,4,none⟩=some v4∧w.cell? ⟨n,5,none⟩=some v5
theorem Cel.later{w w':World}{n:Nat}{v0 v1 v2 v3 v4 v5:Value}(h:Cel w n v0 v1 v2 v3 v4 v5)(hb:Below w.heap.size w w'):Cel w' n v0 v1 v2 v3 v4 v5:=by
 obtain⟨h0,h1,h2,h3,h4,h5⟩:=h;exact⟨cell_later' hb h0,cell_later' hb h1,cell_later' hb h2,cell_later' hb h3,cell_later' hb h4,cell_later' hb h5⟩
theorem Cel.set4{w:World}{n:Nat}{v0 v1 v2 v3 v4 v5:Value}(h:Cel w n v0 v1 v2 v3 v4 v5)(u:Value):Cel (w.setCell ⟨n,4,none⟩ u) n v0 v1 v2 v3 u v5:=by
 have ne:∀j:Nat,4 ≠ j→(w.setCell ⟨n,4,none⟩ u).cell? ⟨n,j,none⟩=w.cell? ⟨n,j,none⟩:=fun j hj=>World.cell?_setCell_other _ _ _ _ (fun e=>hj (by injection e))
 obtain⟨h0,h1,h2,h3,h4,h5⟩:=h;exact⟨(ne 0 (by decide)).trans h0,(ne 1 (by decide)).trans h1,(ne 2 (by decide)).trans h2,(ne 3 (by decide)).trans h3,World.cell?_setCell_same _ _ _ h4,(ne 5 (by decide)).trans h5⟩
def FreshL(q:Rq)(n:Nat):Prop:=(∀b o,q.da=some ⟨b,o,none⟩→n≤b)∧(∀b o,q.ta=some ⟨b,o,none⟩→n≤b)


def zdp(w:World)(b p:Nat)(q:Rq):Prop :=
 w.cell? ⟨b,p,none⟩=some (.bool q.wr)∧w.cell? ⟨b,p+1,none⟩=some (.int .i64 q.f)∧w.cell? ⟨b,p+2,none⟩=some (.int .i64 q.m)∧w.cell? ⟨b,p+3,none⟩=some (.slice q.da q.data.length q.dc)∧w.cell? ⟨b,p+4,none⟩=some (.slice q.ta q.tags.length q.tc)∧w.cell? ⟨b,p+5,none⟩=some (.int .i64 q.born)
theorem zdp.later{w w':World}{b p:Nat}{q:Rq}(h:zdp w b p q)(hb:Below w.heap.size w w'):zdp w' b p q:=by
 obtain⟨h0,h1,h2,h3,h4,h5⟩:=h;exact⟨zT hb h0,zT hb h1,zT hb h2,zT hb h3,zT hb h4,zT hb h5⟩
theorem zdp.drew{w:World}{b p:Nat}{q:Rq}(h:zdp w b p q):zdp w.drew b p q:=h
theorem zdp.alloc{w:World}{b p:Nat}{q:Rq}(h:zdp w b p q)(x:Obj):zdp (w.alloc x) b p q:=h.later (zs w x)
theorem zdp.set{w:World}{b p:Nat}{q:Rq}(h:zdp w b p q){c o:Nat}(hn:b ≠ c)(u:Value):zdp (w.setCell ⟨c,o,none⟩ u) b p q:=by
 obtain⟨h0,h1,h2,h3,h4,h5⟩:=h;have k:∀i,(w.setCell ⟨c,o,none⟩ u).cell? ⟨b,i,none⟩=w.cell? ⟨b,i,none⟩:=fun i=>World.cell?_setCell_other _ _ _ _ (fun e=>hn (by injection e with e _;exact e.symm))
 exact⟨(k _).trans h0,(k _).trans h1,(k _).trans h2,(k _).trans h3,(k _).trans h4,(k _).trans h5⟩
theorem zbL.later{base:Nat}{w w':World}{a:Option Addr}{c:Nat}{l:List Rq}(h:zbL base w a c l)(hb:Below w.heap.size w w'):zbL base w' a c l :=
 ⟨h.here.later hb,h.cap,h.capM,h.nil,zdC h.own hb⟩
theorem Rq.At.set6o{q:Rq}{w:World}{b p B:Nat}{v0 v1 v2 v3 v4 v5:Value}(h:q.At w)(hf:FreshL q B)(hb:b<B):q.At (set6o w b p v0 v1 v2 v3 v4 v5):=by
 have n1:∀b' o,q.da=some ⟨b',o,none⟩→b' ≠ b:=fun b' o hh=>by have:=hf.1 b' o hh;omega
 have n2:∀b' o,q.ta=some ⟨b',o,none⟩→b' ≠ b:=fun b' o hh=>by have:=hf.2 b' o hh;omega
 exact⟨(((((h.data.set n1 v0).set n1 v1).set n1 v2).set n1 v3).set n1 v4).set n1 v5,(((((h.tags.set n2 v0).set n2 v1).set n2 v2).set n2 v3).set n2 v4).set n2 v5,h.dl,h.tl,h.f,h.m,h.born,h.dn,h.tn⟩
end Go.Proofs.YtlhgjplipgandaaGreatDoor
