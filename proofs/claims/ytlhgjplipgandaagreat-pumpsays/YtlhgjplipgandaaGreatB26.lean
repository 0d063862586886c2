/- Joined texts: RAdd2, Pure5, Pure6. -/
import Derived.Test.YtlhgjplipgandaaGreatB25
set_option maxRecDepth 100000
set_option maxHeartbeats 8000000
set_option linter.unusedSimpArgs false
namespace Go.Proofs.YtlhgjplipgandaaGreat
open Go.RowKit Go.BigFrame
attribute [local go_sem] ze.cell ze.frozen
theorem zoc{w w1:World}{v0 v1 v2 v3 v4 v5:Value}{T:TypeId}(HB:Below (w.alloc (.cells #[v0,v1,v2,v3,v4,v5] T)).heap.size (w.alloc (.cells #[v0,v1,v2,v3,v4,v5] T)) w1) :
  Cel w1 w.heap.size v0 v1 v2 v3 v4 v5∧(w1.frozen? ⟨w.heap.size,0,none⟩=false∧w1.frozen? ⟨w.heap.size,1,none⟩=false∧w1.frozen? ⟨w.heap.size,2,none⟩=false∧w1.frozen? ⟨w.heap.size,3,none⟩=false∧w1.frozen? ⟨w.heap.size,4,none⟩=false∧w1.frozen? ⟨w.heap.size,5,none⟩=false) :=
 ⟨(zjj w T v0 v1 v2 v3 v4 v5).later HB,((zha w T v0 v1 v2 v3 v4 v5).later HB).2⟩
theorem zp7{w w1:World}{v0 v1 v2 v3 v4 v5:Value}{T:TypeId}(HB:Below (w.alloc (.cells #[v0,v1,v2,v3,v4,v5] T)).drew.heap.size (w.alloc (.cells #[v0,v1,v2,v3,v4,v5] T)).drew w1) :
  Cel w1 w.heap.size v0 v1 v2 v3 v4 v5∧(w1.frozen? ⟨w.heap.size,0,none⟩=false∧w1.frozen? ⟨w.heap.size,1,none⟩=false∧w1.frozen? ⟨w.heap.size,2,none⟩=false∧w1.frozen? ⟨w.heap.size,3,none⟩=false∧w1.frozen? ⟨w.heap.size,4,none⟩=false∧w1.frozen? ⟨w.heap.size,5,none⟩=false) :=
 zoc (zb (zd (Below.refl _ _)) HB)
theorem Rq.At.set6o{q:Rq}{w:World}{b p B:Nat}{v0 v1 v2 v3 v4 v5:Value}(h:q.At w)(hf:zdM q B)(hb:b<B):q.At (set6o w b p v0 v1 v2 v3 v4 v5):=by
 have n1:∀b' o,q.da=some ⟨b',o,none⟩→b' ≠ b:=fun b' o hh=>by have:=hf.1 b' o hh;omega
 have n2:∀b' o,q.ta=some ⟨b',o,none⟩→b' ≠ b:=fun b' o hh=>by have:=hf.2 b' o hh;omega
 exact⟨(((((h.data.set n1 v0).set n1 v1).set n1 v2).set n1 v3).set n1 v4).set n1 v5,(((((h.tags.set n2 v0).set n2 v1).set n2 v2).set n2 v3).set n2 v4).set n2 v5,h.dl,h.tl,h.f,h.m,h.born,h.dn,h.tn⟩
def zkx(base:Nat)(l:List Rq)(r:Rq)(L:List Rq):Prop :=
 (∃(k:Nat) (hk:k<l.length) (q:Rq),(∀j (hj:j<l.length),j<k→za8 l[j] r=false)∧za8 l[k] r=true∧zew l[k] r q∧zdM q base∧L=l.set k q) ∨
 ((∀j (hj:j<l.length),za8 l[j] r=false)∧l.length<6∧L=l++[r])
theorem zhw{q:Rq}{n m:Nat}(h:zdM q n)(hm:m≤n):zdM q m:=⟨fun b o e=>Nat.le_trans hm (h.1 b o e),fun b o e=>Nat.le_trans hm (h.2 b o e)⟩
def zsi(base:Nat)(l:List Rq)(r:Rq)(w':World)(e:Ending):Prop :=
 (∃(L:List Rq) (a':Option Addr) (c':Nat),zkx base l r L∧e=.returned (.tuple #[.slice a' L.length c',.int .i64 0])∧zs w' a' L∧zct base a' c' L.length) ∨
 ((∀j (hj:j<l.length),za8 l[j] r=false)∧6≤l.length∧e=.returned (.tuple #[.slice none 0 0,.int .i64 7]))
theorem zly(l:List Rq)(a:Option Addr)(c:Nat)(r:Rq)(w:World)(hl:zs w a l)(hn:a=none→c=0)(hr:r.At w)(h10:l.length≤1000)(gr:zA r)(gl:∀i (h:i<l.length),zA l[i]) :
  Calls Tryz.prog 89 #[.slice a l.length c,r.val] w fun e w'=>((l.any (zbb r)=true∧e=.returned (.tuple #[.slice none 0 0,.int .i64 6]))∨(l.any (zbb r)=false∧zsi w.heap.size l r w' e))∧Below w.heap.size w w':=by
 obtain⟨i,hi,hz0,hz1,hz2⟩:=zaL zdX;have HI:=zaa (⟨hi,hz0,hz1,hz2⟩:Tryz.prog.info? 111=some i∧_∧_∧_);clear hi hz0 hz1 hz2;have HGL:=zaa gl;clear gl;have hlen:=hl.2.2;go_enter Tryz.func89,Tryz.ntmps89;go_wp2_with fail;refine(znz r _ (hr.later (zn _ _)) 0 ((zhA r).2 gr)).mono ?_;rintro e w1 ⟨rfl,hb⟩;have S:=(zcs w 111 r).later hb;have HB1:Below w.heap.size w w1:=by(with_reducible repeat first|exact Below.refl _ _|refine zc ?_ _|refine zd ?_|refine bset' ?_ (by omega) _|refine zb ?_ (by assumption))
 have hl1:=hl.later HB1;clear hb;go_wp2_with fail
 go_loopw[7] (fun iv wr=>∃n:Nat,n≤l.length∧iv=.int .i64 n∧(∀j (hj:j<l.length),j<n→zbb r l[j]=false)∧Below w1.heap.size w1 wr) (fun iv _=>l.length-(intOf iv).toNat)
 case atStart=>exact⟨0,by omega,rfl,fun j hj h=>absurd h (Nat.not_lt_zero _),Below.refl _ _⟩
 case round =>
  obtain⟨n,hnl,rfl,hno,HR⟩:=hrel;have HN:=zaa hno;clear hno;have S2:=S.later HR;have hl2:=hl1.later HR;have HB2:=zb HB1 HR;obtain⟨s0,s1,s2,s3,s4,s5⟩:=id S2;have ls:=zg s0;have HRR:=zaa HR
  by_cases hlt:n<l.length
  ·have h0:l ≠ []:=by rintro rfl;exact absurd hlt (Nat.not_lt_zero _)
   obtain⟨b,o,rfl⟩:=hl2.form.resolve_left h0;obtain⟨c0,c1,c2,c3,c4,c5⟩:=hl2.cells hlt;have lc:=zg c0;have k0:(0:Int)≤(n:Int):=by omega
   have k1:(n:Int)<(l.length:Int):=by omega
   have o1:=zia (HGL.out n hlt).ok;have o2:=zia gr.ok;have HW:=zaa HB2;clear h0 HR HB1 HB2 hl1 hl2
   cases hm:zbb r l[n]
   ·go_wp2_with fail;refine zj (by first|exact HB|exact zd HB|exact Below.refl _ _) (by kernel_rfl) (by kernel_rfl) ?_
    repeat(go_big_quiet_step (first|exact rfl|(go_at_call 124;exact zR (zjm _ _ _ _ _ o1 o2 _ hm))))
    refine wpQuiet_nil ?_;intro _ hw';obtain⟨p,hw''⟩:=hw';subst hw'';(try clear hc hf hz);(try clear HB);have HB:=p.below;obtain⟨hc,hf,hz⟩:=zu HB;go_wp2;go_roundw
    case rel=>exact⟨n+1,by omega,by go_num,fun j hj h=>by by_cases e:j=n;(subst e;exact hm);exact HN.out j hj (by omega),zb HRR.out HB⟩
    case measure=>simp[intOf];omega
   ·go_wp2_with fail;refine zj (by first|exact HB|exact zd HB|exact Below.refl _ _) (by kernel_rfl) (by kernel_rfl) ?_
    repeat(go_big_quiet_step (first|exact rfl|(go_at_call 124;exact zR (zjm _ _ _ _ _ o1 o2 _ hm))))
    refine wpQuiet_nil ?_;intro _ hw';obtain⟨p,hw''⟩:=hw';subst hw'';(try clear hc hf hz);(try clear HB);have HB:=p.below;obtain⟨hc,hf,hz⟩:=zu HB;go_wp2
    go_ret2
    exact⟨Or.inl ⟨by rw[List.any_eq_true];exact⟨l[n],List.getElem_mem hlt,hm⟩,rfl⟩,zb HW.out HB⟩
  ·have hany:l.any (zbb r)=false:=by
    rw[List.any_eq_false];intro x hx;obtain⟨j,hj,rfl⟩:=List.getElem_of_mem hx;rw[HN.out j hj (by omega)];exact Bool.false_ne_true
   have HA:=zaa hany;have hl2w:=hl2;clear hany HN HR HRR S hl1 HB1;obtain⟨hi,hz0,hz1,hz2⟩:=HI.out;have R:=hl2.rowAll' hn;go_wp2_with(at_builtin;refine zq rfl _ _ 34 rfl wr.heap.size 111 i _ 6 80 Tryz.underlying34 hi hz0 hz1 hz2 rfl (by decide) _ 0 [] rfl (World.ownsRow_nil _ _ _ _) a l.length c (zt l) rfl R (by unfold maxLen;omega) (by omega) (Nat.le_refl _) ?_;intro v3 w3 hown3 hb3);rw[Nat.zero_add,List.nil_append] at hown3;have HB3:Below w.heap.size w w3:=zb HB2 hb3;obtain⟨a9,c9,rfl,hN⟩:=zb3 hown3 (fun r' hr'=>(hl.2.1 r' hr').later HB3) rfl (by omega);have S3:=S2.later hb3;have hsz3:=hb3.size;have hsw:=HB2.size;clear hi hz0 hz1 hz2 R hown3 S2 s0 s1 s2 s3 s4 s5 hl2 hl2w HB2;have HNN:=zaa hN;have HNA:=zaa (hN.newAt.mono (show w.heap.size≤wr.heap.size from hsw));clear hN;go_wp2_with fail;clear hnl hlt ls
   go_loopw[10] (fun iv wq=>∃n:Nat,n≤l.length∧iv=.int .i64 n∧(∀j (hj:j<l.length),j<n→za8 l[j] r=false)∧Below w3.heap.size w3 wq) (fun iv _=>l.length-(intOf iv).toNat)
   case atStart=>exact⟨0,by omega,rfl,fun j hj h=>absurd h (Nat.not_lt_zero _),Below.refl _ _⟩
   case round =>
    obtain⟨n,hnl,rfl,hno,HR⟩:=hrel;have HN:=zaa hno;clear hno
    replace S3:=S3.later HR
    have HB4:=zb HB3 HR;have hl4:=hl.later HB4;obtain⟨s0,s1,s2,s3,s4,s5⟩:=id S3;have ls:=zg s0;have HRR:=zaa HR
    by_cases hlt:n<l.length
    ·have h0:l ≠ []:=by rintro rfl;exact absurd hlt (Nat.not_lt_zero _)
     have H0:=zaa h0;obtain⟨b,o,rfl⟩:=hl4.form.resolve_left h0;obtain⟨c0,c1,c2,c3,c4,c5⟩:=hl4.cells hlt;have lc:=zg c0;have k0:(0:Int)≤(n:Int):=by omega
     have k1:(n:Int)<(l.length:Int):=by omega
     clear h0 HR;have SL:zb0 wr b (o+n*6) l[n]:=⟨c0,c1,c2,c3,c4,c5⟩
     cases ht:za8 l[n] r
     ·go_wp2_with fail
      go_region_held3 (fun w'=>(w'.cell? ⟨b,o+n*6,none⟩=some (.bool l[n].wr)∧w'.cell? ⟨b,o+n*6+1,none⟩=some (.int .i64 l[n].f)∧w'.cell? ⟨b,o+n*6+2,none⟩=some (.int .i64 l[n].m)∧w'.cell? ⟨b,o+n*6+3,none⟩=some (.slice l[n].da l[n].data.length l[n].dc)∧w'.cell? ⟨b,o+n*6+4,none⟩=some (.slice l[n].ta l[n].tags.length l[n].tc)∧w'.cell? ⟨b,o+n*6+5,none⟩=some (.int .i64 l[n].born))∧(w'.cell? ⟨w.heap.size,0,none⟩=some (.bool r.wr)∧w'.cell? ⟨w.heap.size,1,none⟩=some (.int .i64 r.f)∧w'.cell? ⟨w.heap.size,2,none⟩=some (.int .i64 r.m)∧w'.cell? ⟨w.heap.size,3,none⟩=some (.slice r.da r.data.length r.dc)∧w'.cell? ⟨w.heap.size,4,none⟩=some (.slice r.ta r.tags.length r.tc)∧w'.cell? ⟨w.heap.size,5,none⟩=some (.int .i64 r.born))) (exact⟨(show zb0 _ b (o+n*6) l[n] by repeat(first|with_reducible exact SL|with_reducible refine zb0.drew ?_|with_reducible refine zb0.alloc ?_ _|with_reducible refine zb0.later ?_ (by assumption)|with_reducible refine zb0.set ?_ (by omega) _)),(show Six _ w.heap.size r by repeat(first|with_reducible exact S3|with_reducible refine Six.drew ?_|with_reducible refine Six.alloc ?_ _|with_reducible refine Six.later ?_ (by assumption)|with_reducible refine Six.set ?_ (by omega) _))⟩) (first|(go_at_call 125;refine(zqX l[n] r _ (HGL.out n hlt) gr ht).mono ?_;rintro e w4 ⟨rfl,hb4⟩;have hs4:=hb4.size;(try simp at hs4);(first|(have ZQ:=zoc hb4;obtain⟨⟨z0,z1,z2,z3,z4,z5⟩,⟨f0,f1,f2,f3,f4,f5⟩⟩:=ZQ;(try simp only[World.size_drew] at z0 z1 z2 z3 z4 z5 f0 f1 f2 f3 f4 f5))|(have ZQ:=zp7 hb4;obtain⟨⟨z0,z1,z2,z3,z4,z5⟩,⟨f0,f1,f2,f3,f4,f5⟩⟩:=ZQ;(try simp only[World.size_drew] at z0 z1 z2 z3 z4 z5 f0 f1 f2 f3 f4 f5))|skip)))
      all_goals
       go_wp2;go_roundw
       case rel=>exact⟨n+1,by omega,by go_num,fun j hj h=>by by_cases e:j=n;(subst e;exact ht);exact HN.out j hj (by omega),zb HRR.out (by(with_reducible repeat first|exact Below.refl _ _|refine zc ?_ _|refine zd ?_|refine bset' ?_ (by omega) _|refine zb ?_ (by assumption)))⟩
       case measure=>simp[intOf];omega
     ·obtain⟨b9,rfl,hbb9,hlt9,hfz9⟩:=HNN.out.place H0.out;have HFZ:=zaa hfz9;have hsr:=HRR.out.size;clear hfz9;go_wp2_with fail
      go_region_held3 (fun w'=>(w'.cell? ⟨b,o+n*6,none⟩=some (.bool l[n].wr)∧w'.cell? ⟨b,o+n*6+1,none⟩=some (.int .i64 l[n].f)∧w'.cell? ⟨b,o+n*6+2,none⟩=some (.int .i64 l[n].m)∧w'.cell? ⟨b,o+n*6+3,none⟩=some (.slice l[n].da l[n].data.length l[n].dc)∧w'.cell? ⟨b,o+n*6+4,none⟩=some (.slice l[n].ta l[n].tags.length l[n].tc)∧w'.cell? ⟨b,o+n*6+5,none⟩=some (.int .i64 l[n].born))∧(w'.cell? ⟨w.heap.size,0,none⟩=some (.bool r.wr)∧w'.cell? ⟨w.heap.size,1,none⟩=some (.int .i64 r.f)∧w'.cell? ⟨w.heap.size,2,none⟩=some (.int .i64 r.m)∧w'.cell? ⟨w.heap.size,3,none⟩=some (.slice r.da r.data.length r.dc)∧w'.cell? ⟨w.heap.size,4,none⟩=some (.slice r.ta r.tags.length r.tc)∧w'.cell? ⟨w.heap.size,5,none⟩=some (.int .i64 r.born))) (exact⟨(show zb0 _ b (o+n*6) l[n] by repeat(first|with_reducible exact SL|with_reducible refine zb0.drew ?_|with_reducible refine zb0.alloc ?_ _|with_reducible refine zb0.later ?_ (by assumption)|with_reducible refine zb0.set ?_ (by omega) _)),(show Six _ w.heap.size r by repeat(first|with_reducible exact S3|with_reducible refine Six.drew ?_|with_reducible refine Six.alloc ?_ _|with_reducible refine Six.later ?_ (by assumption)|with_reducible refine Six.set ?_ (by omega) _))⟩) (first|(go_at_call 125;refine(zrv l[n] r _ (HGL.out n hlt) gr (Rq.At.of hl hlt (by(with_reducible repeat first|exact Below.refl _ _|refine zc ?_ _|refine zd ?_|refine bset' ?_ (by omega) _|refine zb ?_ (by assumption)))) (hr.later (by(with_reducible repeat first|exact Below.refl _ _|refine zc ?_ _|refine zd ?_|refine bset' ?_ (by omega) _|refine zb ?_ (by assumption)))) ht).mono ?_;rintro e w4 ⟨q,rfl,hq,hqa,hqf,hb4⟩;have hs4:=hb4.size;(try simp at hs4);(first|(have ZQ:=zoc hb4;obtain⟨⟨z0,z1,z2,z3,z4,z5⟩,⟨f0,f1,f2,f3,f4,f5⟩⟩:=ZQ;(try simp only[World.size_drew] at z0 z1 z2 z3 z4 z5 f0 f1 f2 f3 f4 f5))|(have ZQ:=zp7 hb4;obtain⟨⟨z0,z1,z2,z3,z4,z5⟩,⟨f0,f1,f2,f3,f4,f5⟩⟩:=ZQ;(try simp only[World.size_drew] at z0 z1 z2 z3 z4 z5 f0 f1 f2 f3 f4 f5))|skip)))
      ·refine zdu (F:=fun w=>Exit.then _ _ Exit.normal _ w) (fun wz=>Six wz w4.heap.size q∧zs wz (some ⟨b9,0,none⟩) l∧(∀o,wz.frozen? ⟨b9,o,none⟩=false)∧q.At wz∧Below w.heap.size w wz∧b9<wz.heap.size) ⟨zcs w4 _ q,HNN.out.here.later (zb HRR.out (by(with_reducible repeat first|exact Below.refl _ _|refine zc ?_ _|refine zd ?_|refine bset' ?_ (by omega) _|refine zb ?_ (by assumption)))),fun o=>zbI (zb HRR.out (by(with_reducible repeat first|exact Below.refl _ _|refine zc ?_ _|refine zd ?_|refine bset' ?_ (by omega) _|refine zb ?_ (by assumption)))) (HFZ.out o) hlt9,hqa.later (by(with_reducible repeat first|exact Below.refl _ _|refine zc ?_ _|refine zd ?_|refine bset' ?_ (by omega) _|refine zb ?_ (by assumption))),by(with_reducible repeat first|exact Below.refl _ _|refine zc ?_ _|refine zd ?_|refine bset' ?_ (by omega) _|refine zb ?_ (by assumption)),by(try simp);omega⟩ ?_;rintro wz ⟨Sq,hLz,hfz,hqz,HBz,hb9⟩;obtain⟨s0,s1,s2,s3,s4,s5⟩:=id Sq;have lsq:=zg s0;obtain⟨d0,d1,d2,d3,d4,d5⟩:=hLz.cells hlt;rw[Nat.zero_add] at d0 d1 d2 d3 d4 d5;have f0:=hfz (n*6);have f1:=hfz (n*6+1);have f2:=hfz (n*6+2);have f3:=hfz (n*6+3);have f4:=hfz (n*6+4);have f5:=hfz (n*6+5);have nb:b9 ≠ w4.heap.size:=(by omega);have HLZ:=zaa hLz;have hzz:=HBz.size;clear hLz hfz;go_wp2;go_ret2;refine⟨Or.inr ⟨HA.out,Or.inl ⟨l.set n q,_,c9,Or.inl ⟨n,hlt,q,HN.out,ht,hq,zhw hqf (by(try simp);omega),rfl⟩,(by show Ending.returned (.tuple #[.slice (some ⟨b9,0,none⟩) l.length c9,.int .i64 0])=_;rw[List.length_set]),HLZ.out.put hlt (fun r' hr'=>(hl.2.1 r' hr').later ?_) (hqz.set6o hqf (by(try simp);omega)) rfl,(by rw[List.length_set];exact HNA.out)⟩⟩,?_⟩;all_goals (with_reducible repeat first|exact Below.refl _ _|refine zc ?_ _|refine zd ?_|refine bset' ?_ (by omega) _|refine zb ?_ (by assumption))
      ·have ZZ:Zix w4 wr.heap.size:=⟨⟨zD z0,zD z1,zD z2,zD z3,zD z4,zD z5⟩,⟨f0,f1,f2,f3,f4,f5⟩⟩
       have hqs:∀b' o',q.da=some ⟨b',o',none⟩→b' ≠ wr.heap.size:=fun b' o' hh=>by have:=hqf.1 b' o' hh;(try simp at this);omega
       have hqt:∀b' o',q.ta=some ⟨b',o',none⟩→b' ≠ wr.heap.size:=fun b' o' hh=>by have:=hqf.2 b' o' hh;(try simp at this);omega
       refine zdu (F:=fun w=>Exit.then _ _ Exit.normal _ w) (fun wz=>Six wz wr.heap.size q∧zs wz (some ⟨b9,0,none⟩) l∧(∀o,wz.frozen? ⟨b9,o,none⟩=false)∧q.At wz∧Below w.heap.size w wz∧b9<wz.heap.size) ⟨zaS ZZ _ _ _ _ _ _,HNN.out.here.later (zb HRR.out (by(with_reducible repeat first|exact Below.refl _ _|refine zc ?_ _|refine zd ?_|refine bset' ?_ (by omega) _|refine zb ?_ (by assumption)))),fun o=>zbI (zb HRR.out (by(with_reducible repeat first|exact Below.refl _ _|refine zc ?_ _|refine zd ?_|refine bset' ?_ (by omega) _|refine zb ?_ (by assumption)))) (HFZ.out o) hlt9,⟨zbk hqa.data hqs _ _ _ _ _ _,zbj hqa.tags hqt _ _ _ _ _ _,hqa.dl,hqa.tl,hqa.f,hqa.m,hqa.born,hqa.dn,hqa.tn⟩,by(with_reducible repeat first|exact Below.refl _ _|refine zc ?_ _|refine zd ?_|refine bset' ?_ (by omega) _|refine zb ?_ (by assumption)),by(try simp);omega⟩ ?_;clear z0 z1 z2 z3 z4 z5 f0 f1 f2 f3 f4 f5;rintro wz ⟨Sq,hLz,hfz,hqz,HBz,hb9⟩;obtain⟨s0,s1,s2,s3,s4,s5⟩:=id Sq;have lsq:=zg s0;obtain⟨d0,d1,d2,d3,d4,d5⟩:=hLz.cells hlt;rw[Nat.zero_add] at d0 d1 d2 d3 d4 d5;have f0:=hfz (n*6);have f1:=hfz (n*6+1);have f2:=hfz (n*6+2);have f3:=hfz (n*6+3);have f4:=hfz (n*6+4);have f5:=hfz (n*6+5);have nb:b9 ≠ wr.heap.size:=(by omega);have HLZ:=zaa hLz;have hzz:=HBz.size;clear hLz hfz;go_wp2;go_ret2;refine⟨Or.inr ⟨HA.out,Or.inl ⟨l.set n q,_,c9,Or.inl ⟨n,hlt,q,HN.out,ht,hq,zhw hqf (by(try simp);omega),rfl⟩,(by show Ending.returned (.tuple #[.slice (some ⟨b9,0,none⟩) l.length c9,.int .i64 0])=_;rw[List.length_set]),HLZ.out.put hlt (fun r' hr'=>(hl.2.1 r' hr').later ?_) (hqz.set6o hqf (by(try simp);omega)) rfl,(by rw[List.length_set];exact HNA.out)⟩⟩,?_⟩;all_goals (with_reducible repeat first|exact Below.refl _ _|refine zc ?_ _|refine zd ?_|refine bset' ?_ (by omega) _|refine zb ?_ (by assumption))
    ·have hnn:n=l.length:=by omega
     subst hnn
     by_cases h6:6≤l.length
     ·go_wp2
      go_ret2
      exact⟨Or.inr ⟨HA.out,Or.inr ⟨fun j hj=>HN.out j hj hj,h6,rfl⟩⟩,by(with_reducible repeat first|exact Below.refl _ _|refine zc ?_ _|refine zd ?_|refine bset' ?_ (by omega) _|refine zb ?_ (by assumption))⟩
     ·obtain⟨hi,hz0,hz1,hz2⟩:=HI.out;have hown:=(HNN.out.later HRR.out).own;go_wp2_with(at_builtin;refine zq rfl _ _ 34 rfl w.heap.size 111 i _ 6 80 Tryz.underlying34 hi hz0 hz1 hz2 rfl (by decide) (.slice a9 l.length c9) l.length (zt l) rfl (ownsRow_le' (zcc hown (by(with_reducible repeat first|exact Below.refl _ _|refine zc ?_ _|refine zd ?_|refine bset' ?_ (by omega) _|refine zb ?_ (by assumption)))) (by omega)) (some ⟨wr.heap.size,0,none⟩) 1 1 (zt [r]) rfl (zhB r (zcs wr _ r)) (by unfold maxLen;omega) (by omega) (by simp;omega) ?_;intro v5 w5 hown5 hb5);have HB5:Below w.heap.size w w5:=(zc HB4 _).trans hb5;rw[←zaM] at hown5;obtain⟨a5,c5,rfl,hN5⟩:=zb3 hown5 (fun r' hr'=>by rcases List.mem_append.1 hr' with h|h;exact(hl.2.1 r' h).later HB5;(rw[List.mem_singleton.1 h];exact hr.later HB5)) (by simp) (by simp;omega)
      go_ret2
      exact⟨Or.inr ⟨HA.out,Or.inl ⟨l++[r],a5,c5,Or.inr ⟨fun j hj=>HN.out j hj hj,by omega,rfl⟩,rfl,hN5.here,hN5.newAt⟩⟩,HB5⟩
end Go.Proofs.YtlhgjplipgandaaGreat
namespace Go.Proofs.YtlhgjplipgandaaGreat
open Go.RowKit
theorem zjb(r:Rq):zA r.nf↔zA r:=⟨fun g=>⟨g.ok,g.shape,g.t1,g.t4,g.b0,g.b1,g.small⟩,fun g=>⟨g.ok,g.shape,g.t1,g.t4,g.b0,g.b1,g.small⟩⟩
theorem zeO(p:Sk):p.nf.queue++p.nf.dev.busy=(p.queue++p.dev.busy).map Rq.nf:=(List.map_append).symm
theorem Inv.nf{p:Sk}(h:Inv p):Inv p.nf where
 cl3:=h.cl3
 cok:=h.cok
 hand:=h.hand
 d6:=h.d6
 good:=fun r hr=>by
  rw[zeO] at hr;obtain⟨x,hx,rfl⟩:=List.mem_map.1 hr;exact(zjb x).2 (h.good x hx)
 apart:=by rw[zeO,List.pairwise_map];exact h.apart
 q6:=by show(p.queue.map Rq.nf).length≤6;rw[List.length_map];exact h.q6
 b2:=by show(p.dev.busy.map Rq.nf).length≤2;rw[List.length_map];exact h.b2
 mom:=h.mom
 tg:=h.tg
 us:=h.us
 tin:=fun r hr=>by
  rw[zeO] at hr;obtain⟨x,hx,rfl⟩:=List.mem_map.1 hr;exact h.tin x hx
 n32:=h.n32
 g32:=h.g32
 ts:=h.ts
 fr:=h.fr
theorem Inv.of_nf{p:Sk}(h:Inv p.nf):Inv p where
 cl3:=h.cl3
 cok:=h.cok
 hand:=h.hand
 d6:=h.d6
 good:=fun r hr=>(zjb r).1 (h.good r.nf (by rw[zeO];exact List.mem_map.2 ⟨r,hr,rfl⟩))
 apart:=by have:=h.apart;rw[zeO,List.pairwise_map] at this;exact this
 q6:=by have:=h.q6;rw[show p.nf.queue.length=p.queue.length from List.length_map _] at this;exact this
 b2:=by have:=h.b2;rw[show p.nf.dev.busy.length=p.dev.busy.length from List.length_map _] at this;exact this
 mom:=h.mom
 tg:=h.tg
 us:=h.us
 tin:=fun r hr=>h.tin r.nf (by rw[zeO];exact List.mem_map.2 ⟨r,hr,rfl⟩)
 n32:=h.n32
 g32:=h.g32
 ts:=h.ts
 fr:=h.fr
theorem zar.flush{d:Dl}(h:zar d):zar d.flush:=⟨h.1,h.1,fun x hx=>by cases hx⟩
theorem zar.busy{d:Dl}(h:zar d)(l:List Rq):zar { d with busy:=l }:=h
theorem zar.write{d:Dl}(h:zar d)(k:Nat)(s:ByteArray)(hs:s.size≤4):zar (d.write k s):=by
 refine⟨fun x hx=>?_,h.2.1,fun x hx=>?_⟩
 ·rcases List.mem_or_eq_of_mem_set hx with h'|rfl
  ·exact h.1 x h'
  ·exact hs
 ·rcases List.mem_append.1 hx with h'|h'
  ·exact h.2.2 x (List.mem_filter.1 h').1
  ·rw[List.mem_singleton.1 h'];exact hs
theorem zar.writesTo{d:Dl}(h:zar d)(r:Rq)(hr:∀s∈r.data,s.size≤4):∀n,zar (d.writesTo r n)
 |0=>h
 |n+1=>by rw[Dl.writesTo_succ];exact(h.writesTo r hr n).write _ _ (zfZ hr n)
theorem zn8{r:Rq}(g:zA r):∀s∈r.data,s.size≤4:=by
 have:=g.small;simp only[zcD,List.all_eq_true,decide_eq_true_eq] at this;exact this
theorem zar.did{d:Dl}(h:zar d)(r:Rq)(g:zA r):zar (d.did r):=by
 unfold Dl.did
 split
 ·exact h.writesTo r (zn8 g) _
 ·exact h
theorem zqG:zar d0:=⟨fun s hs=>by rw[(List.mem_replicate.1 hs).2,zez];omega,fun s hs=>by rw[(List.mem_replicate.1 hs).2,zez];omega,fun x hx=>by cases hx⟩
structure zbw(n:Nat)(p p':Sk):Prop where
 dev:p'.dev=p.dev∨p'.dev=p.dev.flush
 tags:p'.tags≤p.tags+n
 uses:p'.uses≤p.uses+n
 dead:p'.dead=p.dead
 f:p'.f=p.f
 mom:p'.moment=p.moment
 turn:p'.turn=p.turn
 ag:p'.ag=p.ag
theorem zbw.refl(n:Nat)(p:Sk):zbw n p p:=⟨Or.inl rfl,by omega,by omega,rfl,rfl,rfl,rfl,rfl⟩
theorem zbw.trans{n m:Nat}{p p' p2:Sk}(h:zbw n p p')(k:zbw m p' p2):zbw (n+m) p p2:=by
 refine⟨?_,?_,?_,k.dead.trans h.dead,k.f.trans h.f,k.mom.trans h.mom,k.turn.trans h.turn,k.ag.trans h.ag⟩
 ·rcases h.dev with h1|h1<;>rcases k.dev with k1|k1
  ·exact Or.inl (k1.trans h1)
  ·exact Or.inr (by rw[k1,h1])
  ·exact Or.inr (k1.trans h1)
  ·exact Or.inr (by rw[k1,h1];rfl)
 ·have:=h.tags;have:=k.tags;omega
 ·have:=h.uses;have:=k.uses;omega
theorem zjr(p:Sk)(pl:Int)(wr:Bool)(data:List ByteArray):zbw 1 p (p.askQ pl wr data).2:=by
 rcases zex (p:=p) pl wr data with⟨_,e⟩|⟨L,_,e⟩
 ·rw[e];exact zbw.refl 1 p
 ·rw[e];exact⟨Or.inl rfl,by show p.tags+1≤p.tags+1;omega,by show p.uses≤p.uses+1;omega,rfl,rfl,rfl,rfl,rfl⟩
theorem ziZ(p:Sk)(i:Nat):zbw 1 p (p.serveRead i):=by
 unfold Sk.serveRead
 cases zaH p.hand (p.client i).pl with
 |some b=>exact⟨Or.inl rfl,by show p.tags≤p.tags+1;omega,by show p.uses+1≤p.uses+1;omega,rfl,rfl,rfl,rfl,rfl⟩
 |none =>
  simp only
  split
  ·exact zbw.refl 1 p
  ·exact zjr p _ _ _
theorem ziB(p:Sk)(i:Nat):zbw 1 p (p.serveWrite i):=by
 unfold Sk.serveWrite
 split
 ·exact⟨Or.inl rfl,by show p.tags≤p.tags+1;omega,by show p.uses≤p.uses+1;omega,rfl,rfl,rfl,rfl,rfl⟩
 split
 ·exact zbw.refl 1 p
 ·split
  ·exact⟨Or.inl rfl,by show p.tags≤p.tags+1;omega,by show p.uses+1≤p.uses+1;omega,rfl,rfl,rfl,rfl,rfl⟩
  ·exact⟨Or.inl rfl,by show p.tags≤p.tags+1;omega,by show p.uses+1≤p.uses+1;omega,rfl,rfl,rfl,rfl,rfl⟩
theorem zjk(p:Sk)(i:Nat):zbw 1 p (p.serveSync i):=by
 unfold Sk.serveSync
 split
 ·exact⟨Or.inl rfl,by show p.tags≤p.tags+1;omega,by show p.uses≤p.uses+1;omega,rfl,rfl,rfl,rfl,rfl⟩
 split
 ·exact⟨Or.inr rfl,by show p.tags≤p.tags+1;omega,by show p.uses≤p.uses+1;omega,rfl,rfl,rfl,rfl,rfl⟩
 ·exact⟨Or.inl rfl,by show p.tags≤p.tags+1;omega,by show p.uses≤p.uses+1;omega,rfl,rfl,rfl,rfl,rfl⟩
theorem zc7(p:Sk)(i:Nat):zbw 1 p (p.serve1 i):=by
 unfold Sk.serve1
 split
 ·exact ziZ p i
 split
 ·exact ziB p i
 split
 ·exact zjk p i
 ·exact zbw.refl 1 p
theorem zcX(p:Sk):zbw 3 p p.serve:=((zc7 p 0).trans (zc7 _ 1)).trans (zc7 _ 2)
theorem zlK(p:Sk)(pl:Int)(s:ByteArray):zbw 1 p (p.wasRead pl s):=by
 unfold Sk.wasRead
 split
 ·exact zbw.refl 1 p
 ·split
  ·exact⟨Or.inl rfl,by show p.tags≤p.tags+1;omega,by show p.uses+1≤p.uses+1;omega,rfl,rfl,rfl,rfl,rfl⟩
  ·exact⟨Or.inl rfl,by show p.tags≤p.tags+1;omega,by show p.uses≤p.uses+1;omega,rfl,rfl,rfl,rfl,rfl⟩
theorem zkA(p:Sk)(r:Rq)(xs:List ByteArray)(j:Nat):zbw 1 p (p.wentOne r xs j):=by
 unfold Sk.wentOne
 split
 ·exact⟨Or.inl rfl,by show p.tags≤p.tags+1;omega,by show p.uses≤p.uses+1;omega,rfl,rfl,rfl,rfl,rfl⟩
 ·exact zlK p _ _
theorem zcI(p:Sk)(r:Rq)(xs:List ByteArray):∀n,zbw n p (p.wentTo r xs n)
 |0=>zbw.refl 0 p
 |n+1=>by rw[zbp];exact(zcI p r xs n).trans (zkA _ r xs n)
structure Fit(n:Nat)(p:Sk):Prop where
 inv:Inv p
 short:zar p.dev
 tags:p.tags≤n
 uses:p.uses≤n
 ag:p.ag≤n
theorem Fit.mono{n m:Nat}{p:Sk}(h:Fit n p)(hm:n≤m):Fit m p:=⟨h.inv,h.short,by have:=h.tags;omega,by have:=h.uses;omega,by have:=h.ag;omega⟩
theorem Fit.nf{n:Nat}{p:Sk}(h:Fit n p):Fit n p.nf:=⟨h.inv.nf,h.short,h.tags,h.uses,h.ag⟩
theorem Fit.of_nf{n:Nat}{p:Sk}(h:Fit n p.nf):Fit n p:=⟨h.inv.of_nf,h.short,h.tags,h.uses,h.ag⟩
theorem Fit.mild{n m:Nat}{p p':Sk}(h:Fit n p)(hi:Inv p')(k:zbw m p p'):Fit (n+m) p':=by
 refine⟨hi,?_,by have:=h.tags;have:=k.tags;omega,by have:=h.uses;have:=k.uses;omega,by have:=h.ag;have:=k.ag;omega⟩
 rcases k.dev with e|e
 ·rw[e];exact h.short
 ·rw[e];exact h.short.flush
theorem Fit.serve{n:Nat}{p:Sk}(h:Fit n p):Fit (n+3) p.serve:=h.mild h.inv.serve (zcX p)
theorem Fit.ask{n:Nat}{p:Sk}(h:Fit n p)(c kind pl:Int)(data:ByteArray):Fit (n+3) (p.ask c kind pl data).2:=by
 refine h.mild (h.inv.ask c kind pl data) ?_;unfold Sk.ask
 split
 ·exact zbw.refl 3 p
 split
 ·exact zbw.refl 3 p
 ·have:=zcX (p.asks c.toNat kind pl data);exact⟨this.dev,this.tags,this.uses,this.dead,this.f,this.mom,this.turn,this.ag⟩
theorem Fit.tick{n:Nat}{p:Sk}(h:Fit n p):Fit (n+3) p.tick:=by
 have k:=zcX ({ p with moment:=if p.moment+1<1000000000 then p.moment+1 else 1000000000 }:Sk);refine⟨h.inv.tick,?_,by have:=h.tags;have:=k.tags;show _≤_;exact Int.le_trans k.tags (by show p.tags+_≤_;omega),Int.le_trans k.uses (by have:=h.uses;show p.uses+_≤_;omega),by have h1:=h.ag;have h2:(Sk.serve _).ag=p.ag:=k.ag;show(Sk.serve _).ag≤_;rw[h2];omega⟩
 rcases k.dev with e|e
 ·show zar (Sk.serve _).dev;rw[e];exact h.short
 ·show zar (Sk.serve _).dev;rw[e];exact h.short.flush
theorem Fit.clean{n:Nat}{p:Sk}(h:Fit n p):Fit (n+1) p.clean.2:=by
 refine h.mild h.inv.clean ?_;unfold Sk.clean
 split
 ·exact zbw.refl 1 p
 split
 ·exact zbw.refl 1 p
 ·exact zjr p _ _ _
theorem Fit.dispatch{n:Nat}{p:Sk}(h:Fit n p):Fit n p.dispatch.2:=by
 rcases zbE h.inv with⟨_,e⟩|⟨i,hi,T,_,hb,_,hT,e⟩
 ·rw[e];exact h
 ·rw[e];exact⟨h.inv.moved i hi T hT hb,h.short,h.tags,h.uses,h.ag⟩
theorem Fit.dispatches(m:Nat):∀{n:Nat} {p:Sk},Fit n p→Fit n (p.dispatches m):=by
 induction m with
 |zero=>intro n p h;exact h
 |succ m ih =>
  intro n p h;unfold Sk.dispatches
  split
  ·exact ih h.dispatch
  ·exact h
theorem Fit.end'{n:Nat}{p:Sk}(h:Fit n p)(i:Int)(fault:Bool):Fit (n+7) (p.end' i fault).2:=by
 have hI:=h.inv.end' h.short i fault
 rcases zgy p i fault with⟨_,e⟩|⟨k,hk,_,⟨_,e⟩|⟨_,hf,e⟩|⟨_,_,_,e⟩|⟨_,_,_,e⟩⟩
 ·rw[e];exact h.mono (by omega)
 ·rw[e] at hI ⊢;have gr:=h.inv.good _ (List.mem_append_right _ (List.getElem_mem hk));have h0:Fit n ((p.took k).did p.dev.busy[k]):=⟨(h.inv.took k).did _,(zar.busy h.short _).did _ gr,h.tags,h.uses,h.ag⟩
  have:=gr.bds;have k:=(zcI ((p.took k).did p.dev.busy[k]) p.dev.busy[k] (zX p.dev p.dev.busy[k]) p.dev.busy[k].m.toNat).trans (zcX _);exact(h0.mild hI k).mono (by omega)
 ·rw[e] at hI ⊢;exact⟨hI,h.short,by have:=h.tags;show p.tags≤_;omega,by have:=h.uses;show p.uses≤_;omega,by have:=h.ag;show p.ag+1≤_;omega⟩
 ·rw[e] at hI ⊢;have h0:Fit n ({ (p.took k).lost p.dev.busy[k] with dead:=true }:Sk):=⟨(h.inv.took k).lost _ _,h.short,h.tags,h.uses,h.ag⟩
  exact(h0.mild hI (zcX _)).mono (by omega)
 ·rw[e] at hI ⊢;have h0:Fit n (((p.took k).lost p.dev.busy[k]).readers (fun x=>zam p.dev.busy[k].f p.dev.busy[k].m x) ByteArray.empty 8):=⟨((h.inv.took k).lost' _).readers _ _ _,h.short,h.tags,h.uses,h.ag⟩
  exact(h0.mild hI (zcX _)).mono (by omega)
theorem Fit.round{n:Nat}{p:Sk}(h:Fit n p):Fit (n+11) p.round:=((h.tick.clean.dispatches 3).end' 0 false).mono (by omega)
theorem Fit.settle(m:Nat):∀{n:Nat} {p:Sk},Fit n p→Fit (n+11*m) (p.settle m).2:=by
 induction m with
 |zero=>intro n p h;exact h
 |succ m ih =>
  intro n p h;unfold Sk.settle
  split
  ·exact h.mono (by omega)
  ·exact(ih h.round).mono (by omega)
theorem zeF:Fit 0 sk0:=by
 refine⟨⟨rfl,fun c hc=>?_,⟨List.Pairwise.nil,Nat.zero_le _,(fun x hx=>by cases hx)⟩,Nat.zero_le _,(fun r hr=>by cases hr),List.Pairwise.nil,Nat.zero_le _,Nat.zero_le _,⟨Int.le_refl 0,by show(0:Int)≤1000000000;omega⟩,Int.le_refl 0,Int.le_refl 0,(fun r hr=>by cases hr),rfl,rfl,⟨Int.le_refl 0,by show(0:Int)≤2;omega⟩,fun t=>⟨Int.le_refl 0,by show(0:Int)≤2;omega⟩⟩,zqG,Int.le_refl 0,Int.le_refl 0,Nat.le_refl 0⟩;have:c=cl0:=by simpa [sk0] using hc
 rw[this];exact zoK
theorem zp9(p:Sk)(hl:p.cl.length=3){i j:Nat}(hi:i<3)(c:Cl):({ p with cl:=p.cl.set i c }:Sk).client j=if j=i then c else p.client j:=by
 unfold Sk.client
 by_cases h:j=i
 ·subst h;rw[if_pos rfl]
  simp[List.getD,hl,hi]
 ·rw[if_neg h]
  simp[List.getD,Ne.symm h]
theorem zcm(p:Sk){i j:Nat}(h:j ≠ i)(c:Cl):({ p with cl:=p.cl.set i c }:Sk).client j=p.client j:=by
 unfold Sk.client
 simp[List.getD,Ne.symm h]
theorem zm5(p:Sk)(pl:Int)(wr:Bool)(data:List ByteArray):(p.askQ pl wr data).2.cl=p.cl:=by
 rcases zex (p:=p) pl wr data with⟨_,e⟩|⟨L,_,e⟩<;>rw[e]
theorem zeV(p:Sk)(i:Nat)(hi:i<3):p.waits (i:Int)=true↔¬(p.client i).kind=0:=by
 unfold Sk.waits;rw[decide_eq_true (show(0:Int)≤i∧(i:Int)<3 by omega),Bool.true_and,Int.toNat_natCast]
 simp
theorem zeG(p:Sk)(i:Nat)(hi:i<3):p.waits (i:Int)=false↔(p.client i).kind=0:=by
 have:=zeV p i hi
 cases h:p.waits (i:Int)
 ·rw[h] at this
  simp at this
  simp[this]
 ·rw[h] at this
  simp at this
  simp[this]
theorem zqd(p:Sk):p.quiet=true↔(∀i,i<3→(p.client i).kind=0)∧p.queue=[]∧p.dev.busy=[]:=by
 have h0:p.waits 0=false↔(p.client 0).kind=0:=zeG p 0 (by omega);have h1:p.waits 1=false↔(p.client 1).kind=0:=zeG p 1 (by omega);have h2:p.waits 2=false↔(p.client 2).kind=0:=zeG p 2 (by omega);unfold Sk.quiet;simp only[Bool.and_eq_true,Bool.not_eq_true',List.isEmpty_iff];rw[h0,h1,h2]
 constructor
 ·rintro⟨⟨a,b,c⟩,d⟩;refine⟨fun i hi=>?_,d⟩
  match i,hi with
  |0,_=>exact a
  |1,_=>exact b
  |2,_=>exact c
 ·rintro⟨a,d⟩;exact⟨⟨a 0 (by omega),a 1 (by omega),a 2 (by omega)⟩,d⟩
theorem znq{p:Sk}(hl:p.cl.length=3){c:Cl}(hc:c∈p.cl):∃i,i<3∧p.client i=c:=by
 obtain⟨i,hi,rfl⟩:=List.getElem_of_mem hc;exact⟨i,by omega,by unfold Sk.client;rw[List.getD_eq_getElem?_getD,List.getElem?_eq_getElem hi,Option.getD_some]⟩
theorem zoe{p:Sk}(hl:p.cl.length=3){i:Nat}(hi:i<3):p.client i∈p.cl:=by
 unfold Sk.client;rw[List.getD_eq_getElem?_getD,List.getElem?_eq_getElem (by omega),Option.getD_some];exact List.getElem_mem _
end Go.Proofs.YtlhgjplipgandaaGreat
namespace Go.Proofs.YtlhgjplipgandaaGreat
open Go.RowKit Go.BigFrame Go.Maps
attribute [local go_sem] ze.cell ze.frozen
structure Rs where
 b:Nat
 v:Nat
 bm:Nat
 m:Rd
 ra:Ra
 n:Nat
 D:DataW Unit
 ka:Nat→Option Nat
 la:Nat→Option Addr
 lc:Nat→Nat
 lk:Nat→List Int
 ha:Option Addr
 hc:Nat
 qa:Option Addr
 qc:Nat
 X:Nat→Prop
 cnt:Nat
def zdv(A:Rs)(i:Nat):Value:=.pointer ((A.ka i).map fun k=>⟨k,0,none⟩)
def Rs.cells(p:Sk)(A:Rs):List Value:=[.pointer (some ⟨A.b,0,none⟩),.pointer (some ⟨A.v,0,none⟩),.slice A.ha p.hand.length A.hc,.slice A.qa p.queue.length A.qc,.bool p.turn.w,.int .i64 p.turn.g,.int .i64 p.turn.s,.int .i64 p.turn.p,.int .i64 p.moment,.int .i64 p.uses,.int .i64 p.tags,zdv A 0,zdv A 1,zdv A 2,.string (p.client 0).got,.string (p.client 1).got,.string (p.client 2).got,.int .i64 (p.client 0).err,.int .i64 (p.client 1).err,.int .i64 (p.client 2).err,.bool p.dead]
def zdl(c:Cl)(a:Option Addr)(n k:Nat):List Value:=[.int .i64 c.kind,.int .i64 c.pl,.string c.data,.slice a n k]
def Rs.foot(A:Rs)(s:Nat)(k:Nat):Prop:=k=s∨zb7 A.b A.bm A.ra k∨∃i,i<3∧A.ka i=some k
def Rs.off(A:Rs)(s:Nat)(k:Nat):Prop:=A.foot s k∨A.X k
structure zdB(w:World)(k:Nat)(c:Cl)(a:Option Addr)(L:List Int)(n:Nat):Prop where
 blk:w.heap[k]?=some (.cells (zdl c a L.length n).toArray 95 (0,0))
 kind:c.kind ≠ 0
 ints:zay w a L
 nil:a=none→n=0
 left:c.kind=3→L=c.left
theorem zdB.frame{F:Nat→Prop}{w w':World}{k:Nat}{c:Cl}{a:Option Addr}{L:List Int}{n:Nat}(h:zdB w k c a L n)(hk:zo F w w')(hn:¬F k)(hl:L ≠ []→∀q,a=some q→¬F q.block):zdB w' k c a L n :=
 ⟨by rw[hk.block k (zz h.blk) hn];exact h.blk,h.kind,zge h.ints hk hl,h.nil,h.left⟩
structure zbg(s:Nat)(p:Sk)(A:Rs)(w:World):Prop where
 cl3:p.cl.length=3
 drv:zbF A.v A.b A.bm A.m A.ra A.n A.D w
 tied:zbu p.dev A.m
 busy:A.m.busy=p.dev.busy
 map:zcr A.D p.f
 im:IsMap A.D
 nb:A.n≤2*A.cnt
 wb:A.m.waits.length≤4*A.cnt
 hand:zB w A.ha p.hand
 hnil:A.ha=none→A.hc=0
 hcap:p.hand.length≤A.hc
 queue:zs w A.qa p.queue
 qnil:A.qa=none→A.qc=0
 qcap:p.queue.length≤A.qc
 asks:∀i,i<3→∀k,A.ka i=some k→zdB w k (p.client i) (A.la i) (A.lk i) (A.lc i)
 idle:∀i,i<3→A.ka i=none→(p.client i).kind=0
 sv:¬zb7 A.b A.bm A.ra s∧s ≠ A.v
 kv:∀i,i<3→∀k,A.ka i=some k→k ≠ s∧k ≠ A.v∧¬zb7 A.b A.bm A.ra k
 kk:∀i j,i<3→j<3→i ≠ j→∀k,A.ka i=some k→A.ka j ≠ some k
 hoff:p.hand ≠ []→∀q,A.ha=some q→¬A.off s q.block
 qoff:p.queue ≠ []→∀q,A.qa=some q→¬A.off s q.block
 roff:∀r∈p.queue++p.dev.busy,r.Off (A.off s)
 loff:∀i,i<3→∀k,A.ka i=some k→A.lk i ≠ []→∀q,A.la i=some q→¬A.off s q.block
 doff:p.dev.busy ≠ []→∀q,A.ra.la=some q→¬A.off s q.block
 xlt:∀k,A.X k→k<w.heap.size
structure zH(s:Nat)(p:Sk)(A:Rs)(w:World):Prop where
 blk:w.heap[s]?=some (.cells (Rs.cells p A).toArray 73 (0,0))
 mem:zbg s p A w
structure zE(s:Nat)(p:Sk)(A:Rs)(p':Sk)(A':Rs)(w w':World):Prop where
 at':zH s p' A' w'
 only:zo (A.foot s) w w'
 foot:∀k,A'.foot s k→A.foot s k∨w.heap.size≤k
 same:A'.b=A.b∧A'.v=A.v∧A'.bm=A.bm∧A'.X=A.X
theorem zE.trans{s:Nat}{p p' p2:Sk}{A A' A2:Rs}{w w' w2:World}(h:zE s p A p' A' w w')(k:zE s p' A' p2 A2 w' w2):zE s p A p2 A2 w w2 :=
 ⟨k.at',h.only.trans k.only h.foot,fun i hi=>(k.foot i hi).elim (h.foot i) (fun h'=>Or.inr (Nat.le_trans h.only.size h')),by rw[k.same.1,k.same.2.1,k.same.2.2.1,k.same.2.2.2];exact h.same⟩
theorem zbF.frameK{F:Nat→Prop}{v b bm:Nat}{m:Rd}{a:Ra}{n:Nat}{D:DataW Unit}{w w':World}(h:zbF v b bm m a n D w)(hk:zo F w w')(hF:∀k,zb7 b bm a k→¬F k)(hv:¬F v)(hl:m.busy ≠ []→∀p,a.la=some p→¬F p.block)(hr:∀r∈m.busy,r.Off F):zbF v b bm m a n D w' where
 dev:=h.dev.frame hk (fun k e=>hF k (Or.inr e)) hl hr
 blk:=by rw[hk.block v (zz h.blk) hv];exact h.blk
 map:=zca h.map (hk.block bm h.mlt (hF bm (Or.inl rfl)))
 foot:=h.foot
theorem zbF.footLt{v b bm:Nat}{m:Rd}{a:Ra}{n:Nat}{D:DataW Unit}{w:World}(h:zbF v b bm m a n D w)(k:Nat)(hk:zb7 b bm a k):k<w.heap.size:=by
 rcases hk with rfl|hk
 ·exact h.mlt
 ·exact h.dev.footLt k hk
section
variable{s:Nat}{p p':Sk}{A A':Rs}{w w':World}
theorem zbg.foot(_h:zbg s p A w){k:Nat}(hk:A.foot s k):A.off s k:=Or.inl hk
theorem zH.lt(h:zH s p A w):s<w.heap.size:=zz h.blk
theorem zbg.askLt(h:zbg s p A w){i k:Nat}(hi:i<3)(hk:A.ka i=some k):k<w.heap.size:=zz (h.asks i hi k hk).blk
theorem zH.footLt(h:zH s p A w)(k:Nat)(hk:A.foot s k):k<w.heap.size:=by
 rcases hk with rfl|hk|⟨i,hi,hk⟩
 ·exact h.lt
 ·exact h.mem.drv.footLt k hk
 ·exact h.mem.askLt hi hk
theorem zH.offLt(h:zH s p A w)(k:Nat)(hk:A.off s k):k<w.heap.size:=hk.elim (h.footLt k) (fun e=>h.mem.xlt k e)
theorem zbg.frame{F:Nat→Prop}(h:zbg s p A w)(hk:zo F w w')(hF:∀k,A.foot s k→k ≠ s→¬F k)(hv:¬F A.v)(hh:p.hand ≠ []→∀q,A.ha=some q→¬F q.block)(hq:p.queue ≠ []→∀q,A.qa=some q→¬F q.block)(hr:∀r∈p.queue++p.dev.busy,r.Off F)
  (hl:∀i,i<3→∀k,A.ka i=some k→A.lk i ≠ []→∀q,A.la i=some q→¬F q.block) (hd:p.dev.busy ≠ []→∀q,A.ra.la=some q→¬F q.block):zbg s p A w' where
 cl3:=h.cl3
 drv:=h.drv.frameK hk (fun k e=>hF k (Or.inr (Or.inl e)) (fun e'=>h.sv.1 (e'▸e))) hv (by rw[h.busy];exact hd) (by rw[h.busy];exact fun r hr'=>hr r (List.mem_append_right _ hr'))
 tied:=h.tied
 busy:=h.busy
 map:=h.map
 im:=h.im
 nb:=h.nb
 wb:=h.wb
 hand:=zcq h.hand hk hh
 hnil:=h.hnil
 hcap:=h.hcap
 queue:=zce h.queue hk hq (fun r hr'=>hr r (List.mem_append_left _ hr'))
 qnil:=h.qnil
 qcap:=h.qcap
 asks:=fun i hi k hk'=>(h.asks i hi k hk').frame hk (hF k (Or.inr (Or.inr ⟨i,hi,hk'⟩)) (h.kv i hi k hk').1) (hl i hi k hk')
 idle:=h.idle
 sv:=h.sv
 kv:=h.kv
 kk:=h.kk
 hoff:=h.hoff
 qoff:=h.qoff
 roff:=h.roff
 loff:=h.loff
 doff:=h.doff
 xlt:=fun k e=>Nat.lt_of_lt_of_le (h.xlt k e) hk.size
theorem zH.frame{F:Nat→Prop}(h:zH s p A w)(hk:zo F w w')(hF:∀k,A.foot s k→¬F k)(hv:¬F A.v)(hh:p.hand ≠ []→∀q,A.ha=some q→¬F q.block)(hq:p.queue ≠ []→∀q,A.qa=some q→¬F q.block)(hr:∀r∈p.queue++p.dev.busy,r.Off F)
  (hl:∀i,i<3→∀k,A.ka i=some k→A.lk i ≠ []→∀q,A.la i=some q→¬F q.block) (hd:p.dev.busy ≠ []→∀q,A.ra.la=some q→¬F q.block):zH s p A w' :=
 ⟨by rw[hk.block s h.lt (hF s (Or.inl rfl))];exact h.blk,h.mem.frame hk (fun k e _=>hF k e) hv hh hq hr hl hd⟩
theorem zH.later(h:zH s p A w)(hb:Below w.heap.size w w'):zH s p A w':=h.frame (F:=fun _=>False) (zo.of_below hb) (fun _ _ e=>e) (fun e=>e) (fun _ _ _ e=>e) (fun _ _ _ e=>e) (fun r _=>zm3 r) (fun _ _ _ _ _ _ _ e=>e) (fun _ _ _ e=>e)
theorem zE.same'(h:zH s p A w)(hb:Below w.heap.size w w'):zE s p A p A w w':=⟨h.later hb,zo.of_below hb,fun _ hk=>Or.inl hk,rfl,rfl,rfl,rfl⟩
theorem zE.later{w2:World}(h:zE s p A p' A' w w')(hb:Below w'.heap.size w' w2):zE s p A p' A' w w2:=h.trans (zE.same' h.at' hb)
theorem zbg.turned{F:Nat→Prop}(h:zbg s p A w)(hO:zo F w w')(hF:∀k,F k→A.off s k)(hn:∀k,A.foot s k→k ≠ s→¬F k)(hv:¬F A.v):zbg s p A w' :=
 h.frame hO hn hv (fun hne q hq e=>h.hoff hne q hq (hF _ e)) (fun hne q hq e=>h.qoff hne q hq (hF _ e)) (fun r hr=>⟨fun he ad ha e=>(h.roff r hr).1 he ad ha (hF _ e),fun he ad ha e=>(h.roff r hr).2 he ad ha (hF _ e)⟩) (fun i hi k hk hne q hq e=>h.loff i hi k hk hne q hq (hF _ e)) (fun hne q hq e=>h.doff hne q hq (hF _ e))
theorem zH.put(h:zH s p A w)(hm:zbg s p' A' w)(j:Nat)(u:Value)(hc:(Rs.cells p A).set j u=Rs.cells p' A')(hf:∀k,A'.foot s k→A.foot s k∨w.heap.size≤k)(hsame:A'.b=A.b∧A'.v=A.v∧A'.bm=A.bm∧A'.X=A.X):zE s p A p' A' w (w.setCell ⟨s,j,none⟩ u):=by
 have hO:zo (fun k=>k=s) w (w.setCell ⟨s,j,none⟩ u):=(zo.refl (fun k=>k=s) w).setCell ⟨s,j,none⟩ (Or.inl rfl) u;exact⟨⟨by rw[zK h.blk,hc],hm.turned hO (fun k e=>Or.inl (Or.inl e)) (fun k _ hne=>hne) (fun e=>hm.sv.2 e.symm)⟩,hO.mono (fun k e=>Or.inl e),hf,hsame⟩
theorem zH.cell(h:zH s p A w)(j:Nat)(u:Value)(hj:(Rs.cells p A)[j]?=some u):w.cell? ⟨s,j,none⟩=some u:=(zy h.blk j).trans hj
theorem zH.fz(h:zH s p A w)(j:Nat):w.frozen? ⟨s,j,none⟩=false:=zac h.blk j
theorem zdB.cells{w:World}{k:Nat}{c:Cl}{a:Option Addr}{L:List Int}{n:Nat}(h:zdB w k c a L n):w.cell? ⟨k,0,none⟩=some (.int .i64 c.kind)∧w.cell? ⟨k,1,none⟩=some (.int .i64 c.pl)∧w.cell? ⟨k,2,none⟩=some (.string c.data)∧w.cell? ⟨k,3,none⟩=some (.slice a L.length n)∧w.frozen? ⟨k,3,none⟩=false∧k<w.heap.size :=
 ⟨by rw[zy h.blk];rfl,by rw[zy h.blk];rfl,by rw[zy h.blk];rfl,by rw[zy h.blk];rfl,zac h.blk 3,zz h.blk⟩
theorem zfP(h:p.cl.length=3):∃a b c,p.cl=[a,b,c]:=by
 match e:p.cl,h with
 |[a,b,c],_=>exact⟨a,b,c,rfl⟩
def KOk(c s:Nat)(p:Sk)(A:Rs)(w w':World)(q:Sk):Prop:=∃p' A',zE s p A p' A' w w'∧p'.nf=q∧A'.cnt≤A.cnt+c
theorem KOk.before{c c' c2:Nat}{w2:World}{q:Sk}(h:zE s p A p' A' w w')(hc:A'.cnt≤A.cnt+c)(k:KOk c' s p' A' w' w2 q)(hcc:c+c'≤c2):KOk c2 s p A w w2 q:=by
 obtain⟨p3,A3,h3,hn,hc3⟩:=k;exact⟨p3,A3,h.trans h3,hn,by omega⟩
end
theorem zH.step{s:Nat}{p:Sk}{A:Rs}{w w':World}{d':Dl}{m':Rd}{ra':Ra}{n':Nat}{D':DataW Unit}{f':Int→Int}(g' c':Nat)(h:zH s p A w)(hs:zaY A.v A.b A.bm A.m A.ra A.n A.D m' ra' n' D' w w')(ht:zbu d' m')(hbu:m'.busy=d'.busy)(hn:n'≤2*c')(hw:m'.waits.length≤4*c')(hm:zcr D' f')(hi:IsMap D')(hr:∀r∈d'.busy,r.Off (({ A with m:=m',ra:=ra',n:=n',D:=D',cnt:=c' }:Rs).off s)) :
  zE s p A { p with dev:=d',f:=f',ag:=g' } { A with m:=m',ra:=ra',n:=n',D:=D',cnt:=c' } w w':=by
 have hft:∀k,({ A with m:=m',ra:=ra',n:=n',D:=D',cnt:=c' }:Rs).foot s k→A.foot s k∨w.heap.size≤k:=by
  rintro k (e|e|e)
  ·exact Or.inl (Or.inl e)
  ·exact(hs.foot k e).imp (fun e=>Or.inr (Or.inl e)) id
  ·exact Or.inl (Or.inr (Or.inr e))
 have hfx:∀k,({ A with m:=m',ra:=ra',n:=n',D:=D',cnt:=c' }:Rs).off s k→A.off s k∨w.heap.size≤k:=fun k hk=>hk.elim (fun e=>(hft k e).imp Or.inl id) (fun e=>Or.inl (Or.inr e))
 have hO:zo (A.foot s) w w':=hs.only.mono (fun k e=>Or.inr (Or.inl e));have hat:∀r∈p.queue,r.At w:=h.mem.queue.2.1;have hnew:∀{q:Nat},¬zb7 A.b A.bm A.ra q→q<w.heap.size→¬zb7 A.b A.bm ra' q:=fun h1 h2 e=>(hs.foot _ e).elim h1 (fun h'=>by omega)
 have nf:∀q:Addr,¬A.off s q.block→q.block<w.heap.size→¬({ A with m:=m',ra:=ra',n:=n',D:=D',cnt:=c' }:Rs).off s q.block:=fun q h1 h2 e=>(hfx _ e).elim h1 (fun h'=>by omega)
 refine⟨⟨?_,?_⟩,hO,hft,rfl,rfl,rfl,rfl⟩
 ·rw[hs.only.block s h.lt h.mem.sv.1];exact h.blk
 ·have hqlt:p.queue ≠ []→∀q,A.qa=some q→q.block<w.heap.size:=fun hne q hq=>by
   rcases h.mem.queue.1 with e|⟨b',o',ha,hc⟩
   ·exact absurd e hne
   ·have:p.queue.length ≠ 0:=fun e=>hne (List.eq_nil_of_length_eq_zero e)
    have:=zg (hc 0 (by omega) 0 (by omega));rw[ha] at hq;simp only[Option.some.injEq] at hq;subst hq;exact this
  have hhlt:p.hand ≠ []→∀q,A.ha=some q→q.block<w.heap.size:=fun hne q hq=>by
   rcases h.mem.hand.1 with e|⟨b',o',ha,hc⟩
   ·exact absurd e hne
   ·have:p.hand.length ≠ 0:=fun e=>hne (List.eq_nil_of_length_eq_zero e)
    have:=zg (hc 0 (by omega) 0 (by omega));rw[ha] at hq;simp only[Option.some.injEq] at hq;subst hq;exact this
  exact {
   cl3:=h.mem.cl3
   drv:=hs.at'
   tied:=ht
   busy:=hbu
   map:=hm
   im:=hi
   nb:=hn
   wb:=hw
   hand:=zcq h.mem.hand hO (fun hne q hq e=>h.mem.hoff hne q hq (Or.inl e))
   hnil:=h.mem.hnil
   hcap:=h.mem.hcap
   queue:=zce h.mem.queue hO (fun hne q hq e=>h.mem.qoff hne q hq (Or.inl e)) (fun r hr'=>⟨fun he ad ha e=>(h.mem.roff r (List.mem_append_left _ hr')).1 he ad ha (Or.inl e),fun he ad ha e=>(h.mem.roff r (List.mem_append_left _ hr')).2 he ad ha (Or.inl e)⟩)
   qnil:=h.mem.qnil
   qcap:=h.mem.qcap
   asks:=fun i hi k hk=>(h.mem.asks i hi k hk).frame hs.only (h.mem.kv i hi k hk).2.2 (fun hne q hq e=>h.mem.loff i hi k hk hne q hq (Or.inl (Or.inr (Or.inl e))))
   idle:=h.mem.idle
   sv:=⟨hnew h.mem.sv.1 h.lt,h.mem.sv.2⟩
   kv:=fun i hi k hk=>⟨(h.mem.kv i hi k hk).1,(h.mem.kv i hi k hk).2.1,hnew (h.mem.kv i hi k hk).2.2 (h.mem.askLt hi hk)⟩
   kk:=h.mem.kk
   hoff:=fun hne q hq=>nf q (h.mem.hoff hne q hq) (hhlt hne q hq)
   qoff:=fun hne q hq=>nf q (h.mem.qoff hne q hq) (hqlt hne q hq)
   loff:=fun i hi k hk hne q hq=>nf q (h.mem.loff i hi k hk hne q hq) (zdp (h.mem.asks i hi k hk).ints hne hq)
   doff:=fun hne q hq=>by
    have hne':m'.busy ≠ []:=by rw[hbu];exact hne
    rcases hs.lan hne' q hq with⟨h1,h2⟩|h1
    ·have h1':p.dev.busy ≠ []:=by rw[←h.mem.busy];exact h1
     refine nf q (h.mem.doff h1' q h2) ?_
     rcases h.mem.drv.dev.lrow.1 with e|⟨b',o',ha,hc⟩
     ·exact absurd e h1
     ·have:A.m.busy.length ≠ 0:=fun e=>h1 (List.eq_nil_of_length_eq_zero e)
      have:=zg (hc 0 (by omega) 0 (by omega));rw[ha] at h2;simp only[Option.some.injEq] at h2;subst h2;exact this
    ·rintro((e|e|⟨i,hi,e⟩)|e)
     ·have:=h.lt;omega
     ·have hl:=hs.at'.dev.loff hne' q hq
      rcases e with e|e
      ·exact hs.at'.lm hne' q hq e
      ·exact hl e
     ·have:=h.mem.askLt hi e;omega
     ·have:=h.mem.xlt _ e;omega
   roff:=fun r hr'=>by
    rcases List.mem_append.1 hr' with h'|h'
    ·exact Rq.Off.step (hat r h') (h.mem.roff r (List.mem_append_left _ h')) hfx
    ·exact hr r h'
   xlt:=fun k e=>Nat.lt_of_lt_of_le (h.mem.xlt k e) hO.size }
def upd{α:Type}(f:Nat→α)(c:Nat)(v:α):Nat→α:=fun i=>if i=c then v else f i
theorem zbP{α:Type}(f:Nat→α)(c:Nat)(v:α):upd f c v c=v:=if_pos rfl
theorem zcl{α:Type}{f:Nat→α}{c i:Nat}{v:α}(h:i ≠ c):upd f c v i=f i:=if_neg h
section
variable{s:Nat}{p p':Sk}{A A':Rs}{w w':World}
theorem zfs(h:p.cl.length=3){c:Nat}(hc:c<3)(x:Cl):({ p with cl:=p.cl.set c x }:Sk).client c=x:=by
 have:=zp9 p h hc (j:=c) x
 rwa [if_pos rfl] at this
theorem zbg.puts(hm:zbg s p' A' w)(hO:zo (fun k=>k=s) w w')(hb:w'.heap[s]?=some (.cells (Rs.cells p' A').toArray 73 (0,0)))(hf:∀k,A'.foot s k→A.foot s k∨w.heap.size≤k)(hs:A.foot s s)(hsame:A'.b=A.b∧A'.v=A.v∧A'.bm=A.bm∧A'.X=A.X):zE s p A p' A' w w' :=
 ⟨⟨hb,hm.turned hO (fun k e=>Or.inl (Or.inl e)) (fun k _ hne=>hne) (fun e=>hm.sv.2 e.symm)⟩,hO.mono (fun k e=>by rw[e];exact hs),hf,hsame⟩
theorem zdn{c:Nat}{k:Nat}(h:({ A with ka:=upd A.ka c none }:Rs).off s k):A.off s k:=by
 rcases h with(e|e|⟨i,hi,e⟩)|e
 ·exact Or.inl (Or.inl e)
 ·exact Or.inl (Or.inr (Or.inl e))
 ·by_cases hic:i=c
  ·subst hic;have e':upd A.ka i none i=some k:=e;rw[zbP] at e';cases e'
  ·have e':upd A.ka c none i=some k:=e;rw[zcl hic] at e';exact Or.inl (Or.inr (Or.inr ⟨i,hi,e'⟩))
 ·exact Or.inr e
theorem zcZ{c i k:Nat}(h:upd A.ka c none i=some k):i ≠ c∧A.ka i=some k:=by
 by_cases hic:i=c
 ·subst hic;rw[zbP] at h;cases h
 ·rw[zcl hic] at h;exact⟨hic,h⟩
theorem zbg.idleCl(h:zbg s p A w){c:Nat}(hc:c<3)(x:Cl)(hx:x.kind=0):zbg s { p with cl:=p.cl.set c x } { A with ka:=upd A.ka c none } w where
 cl3:=by show(p.cl.set c x).length=3;rw[List.length_set];exact h.cl3
 drv:=h.drv
 tied:=h.tied
 busy:=h.busy
 map:=h.map
 im:=h.im
 nb:=h.nb
 wb:=h.wb
 hand:=h.hand
 hnil:=h.hnil
 hcap:=h.hcap
 queue:=h.queue
 qnil:=h.qnil
 qcap:=h.qcap
 asks:=fun i hi k hk=>by
  obtain⟨hic,hk'⟩:=zcZ hk;rw[zcm p hic];exact h.asks i hi k hk'
 idle:=fun i hi hk=>by
  by_cases hic:i=c
  ·subst hic;rw[zfs h.cl3 hi];exact hx
  ·rw[zcm p hic];have hk':upd A.ka c none i=none:=hk;rw[zcl hic] at hk';exact h.idle i hi hk'
 sv:=h.sv
 kv:=fun i hi k hk=>h.kv i hi k (zcZ hk).2
 kk:=fun i j hi hj hij k hk hk'=>h.kk i j hi hj hij k (zcZ hk).2 (zcZ hk').2
 hoff:=fun hne q hq e=>h.hoff hne q hq (zdn e)
 qoff:=fun hne q hq e=>h.qoff hne q hq (zdn e)
 roff:=fun r hr=>⟨fun he ad ha e=>(h.roff r hr).1 he ad ha (zdn e),fun he ad ha e=>(h.roff r hr).2 he ad ha (zdn e)⟩
 loff:=fun i hi k hk hne q hq e=>h.loff i hi k (zcZ hk).2 hne q hq (zdn e)
 doff:=fun hne q hq e=>h.doff hne q hq (zdn e)
 xlt:=h.xlt
theorem zow{c:Nat}{k:Nat}(h:({ A with ka:=upd A.ka c none }:Rs).foot s k):A.foot s k:=by
 rcases h with e|e|⟨i,hi,e⟩
 ·exact Or.inl e
 ·exact Or.inr (Or.inl e)
 ·exact Or.inr (Or.inr ⟨i,hi,(zcZ e).2⟩)
theorem zH.answer(h:zH s p A w){c:Nat}(hc:c<3)(d:ByteArray)(f:Int):zE s p A (p.answer c d f) { A with ka:=upd A.ka c none } w (((w.setCell ⟨s,11+c,none⟩ (.pointer none)).setCell ⟨s,14+c,none⟩ (.string d)).setCell ⟨s,17+c,none⟩ (.int .i64 f)):=by
 refine(h.mem.idleCl hc ⟨0,0,ByteArray.empty,[],d,f⟩ rfl).puts ?_ ?_ (fun k hk=>Or.inl (zow hk)) (Or.inl rfl) ⟨rfl,rfl,rfl,rfl⟩
 ·exact(((zo.refl (fun k=>k=s) w).setCell _ (Or.inl rfl) _).setCell _ (Or.inl rfl) _).setCell _ (Or.inl rfl) _
 ·rw[zK (zK (zK h.blk _ _) _ _)];obtain⟨x,y,z,e⟩:=zfP h.mem.cl3;obtain⟨dev,ff,cl,hand,queue,turn,moment,tags,uses,dead,ag⟩:=p;simp only at e;subst e
  match c,hc with
  |0,_=>rfl
  |1,_=>rfl
  |2,_=>rfl
theorem zH.c11(h:zH s p A w){c:Nat}(hc:c<3):w.cell? ⟨s,11+c,none⟩=some (zdv A c)∧w.frozen? ⟨s,11+c,none⟩=false:=by
 refine⟨?_,h.fz _⟩
 match c,hc with
 |0,_=>exact h.cell _ _ rfl
 |1,_=>exact h.cell _ _ rfl
 |2,_=>exact h.cell _ _ rfl
theorem zH.c14(h:zH s p A w){c:Nat}(hc:c<3):w.cell? ⟨s,14+c,none⟩=some (.string (p.client c).got)∧w.frozen? ⟨s,14+c,none⟩=false:=by
 refine⟨?_,h.fz _⟩
 match c,hc with
 |0,_=>exact h.cell _ _ rfl
 |1,_=>exact h.cell _ _ rfl
 |2,_=>exact h.cell _ _ rfl
theorem zH.c17(h:zH s p A w){c:Nat}(hc:c<3):w.cell? ⟨s,17+c,none⟩=some (.int .i64 (p.client c).err)∧w.frozen? ⟨s,17+c,none⟩=false:=by
 refine⟨?_,h.fz _⟩
 match c,hc with
 |0,_=>exact h.cell _ _ rfl
 |1,_=>exact h.cell _ _ rfl
 |2,_=>exact h.cell _ _ rfl
theorem zbg.setHand(h:zbg s p A w)(l:List Bf)(a':Option Addr)(c':Nat)(u:Int)(hB:zB w a' l)(hcap:l.length≤c')(hnil:a'=none→c'=0)(ho:l ≠ []→∀q,a'=some q→¬A.off s q.block):zbg s { p with hand:=l,uses:=u } { A with ha:=a',hc:=c' } w where
 cl3:=h.cl3
 drv:=h.drv
 tied:=h.tied
 busy:=h.busy
 map:=h.map
 im:=h.im
 nb:=h.nb
 wb:=h.wb
 hand:=hB
 hnil:=hnil
 hcap:=hcap
 queue:=h.queue
 qnil:=h.qnil
 qcap:=h.qcap
 asks:=h.asks
 idle:=h.idle
 sv:=h.sv
 kv:=h.kv
 kk:=h.kk
 hoff:=ho
 qoff:=h.qoff
 roff:=h.roff
 loff:=h.loff
 doff:=h.doff
 xlt:=h.xlt
theorem zH.setUses(h:zH s p A w)(u:Int):zE s p A { p with uses:=u } A w (w.setCell ⟨s,9,none⟩ (.int .i64 u)) :=
 h.put (p':={ p with uses:=u }) (A':=A) { h.mem with } 9 _ rfl (fun _ hk=>Or.inl hk) ⟨rfl,rfl,rfl,rfl⟩
theorem zH.setHand(h:zH s p A w)(l:List Bf)(a':Option Addr)(c':Nat)(hB:zB w a' l)(hcap:l.length≤c')(hnil:a'=none→c'=0)(ho:l ≠ []→∀q,a'=some q→¬A.off s q.block):zE s p A { p with hand:=l } { A with ha:=a',hc:=c' } w (w.setCell ⟨s,2,none⟩ (.slice a' l.length c')) :=
 h.put (p':={ p with hand:=l }) (A':={ A with ha:=a',hc:=c' }) (h.mem.setHand l a' c' p.uses hB hcap hnil ho) 2 _ rfl (fun _ hk=>Or.inl hk) ⟨rfl,rfl,rfl,rfl⟩
theorem zbg.setQueue(h:zbg s p A w)(L:List Rq)(a':Option Addr)(c':Nat)(n:Int)(hR:zs w a' L)(hcap:L.length≤c')(hnil:a'=none→c'=0)(ho:L ≠ []→∀q,a'=some q→¬A.off s q.block)(hro:∀r∈L,r.Off (A.off s)):zbg s { p with queue:=L,tags:=n } { A with qa:=a',qc:=c' } w where
 cl3:=h.cl3
 drv:=h.drv
 tied:=h.tied
 busy:=h.busy
 map:=h.map
 im:=h.im
 nb:=h.nb
 wb:=h.wb
 hand:=h.hand
 hnil:=h.hnil
 hcap:=h.hcap
 queue:=hR
 qnil:=hnil
 qcap:=hcap
 asks:=h.asks
 idle:=h.idle
 sv:=h.sv
 kv:=h.kv
 kk:=h.kk
 hoff:=h.hoff
 qoff:=ho
 roff:=fun r hr=>(List.mem_append.1 hr).elim (hro r) (fun h'=>h.roff r (List.mem_append_right _ h'))
 loff:=h.loff
 doff:=h.doff
 xlt:=h.xlt
theorem zH.setQueue(h:zH s p A w)(L:List Rq)(a':Option Addr)(c':Nat)(n:Int)(hR:zs w a' L)(hcap:L.length≤c')(hnil:a'=none→c'=0)(ho:L ≠ []→∀q,a'=some q→¬A.off s q.block)(hro:∀r∈L,r.Off (A.off s)):zE s p A { p with queue:=L,tags:=n } { A with qa:=a',qc:=c' } w ((w.setCell ⟨s,3,none⟩ (.slice a' L.length c')).setCell ⟨s,10,none⟩ (.int .i64 n)):=by
 refine(h.mem.setQueue L a' c' n hR hcap hnil ho hro).puts ?_ ?_ (fun k hk=>Or.inl hk) (Or.inl rfl) ⟨rfl,rfl,rfl,rfl⟩
 ·exact((zo.refl (fun k=>k=s) w).setCell _ (Or.inl rfl) _).setCell _ (Or.inl rfl) _
 ·rw[zK (zK h.blk _ _)]
  rfl
theorem zH.setMoment(h:zH s p A w)(u:Int):zE s p A { p with moment:=u } A w (w.setCell ⟨s,8,none⟩ (.int .i64 u)) :=
 h.put (p':={ p with moment:=u }) (A':=A) { h.mem with } 8 _ rfl (fun _ hk=>Or.inl hk) ⟨rfl,rfl,rfl,rfl⟩
theorem zH.setDead(h:zH s p A w)(b:Bool):zE s p A { p with dead:=b } A w (w.setCell ⟨s,20,none⟩ (.bool b)) :=
 h.put (p':={ p with dead:=b }) (A':=A) { h.mem with } 20 _ rfl (fun _ hk=>Or.inl hk) ⟨rfl,rfl,rfl,rfl⟩
theorem zH.setLeft(h:zH s p A w){c k:Nat}(hc:c<3)(hk:A.ka c=some k)(L:List Int)(a':Option Addr)(c':Nat)(hI:zay w a' L)(hnil:a'=none→c'=0)(ho:L ≠ []→∀q,a'=some q→¬A.off s q.block) :
  zE s p A { p with cl:=p.cl.set c { p.client c with left:=L } } { A with la:=upd A.la c a',lc:=upd A.lc c c',lk:=upd A.lk c L } w (w.setCell ⟨k,3,none⟩ (.slice a' L.length c')):=by
 have hO:zo (fun j=>j=k) w (w.setCell ⟨k,3,none⟩ (.slice a' L.length c')):=(zo.refl (fun j=>j=k) w).setCell ⟨k,3,none⟩ (Or.inl rfl) _;have hkf:A.foot s k:=Or.inr (Or.inr ⟨c,hc,hk⟩);obtain⟨k1,k2,k3⟩:=h.mem.kv c hc k hk;have hA:=h.mem.asks c hc k hk;have offk:∀{q:Addr},¬A.off s q.block→¬q.block=k:=fun hn e=>hn (by rw[e];exact Or.inl hkf)
 refine⟨⟨?_,?_⟩,hO.mono (fun j e=>by rw[e];exact hkf),fun j hj=>Or.inl hj,rfl,rfl,rfl,rfl⟩
 ·rw[hO.block s h.lt (fun e=>k1 e.symm),h.blk]
  congr 2
  obtain⟨x,y,z,e⟩:=zfP h.mem.cl3;obtain⟨dev,ff,cl,hand,queue,turn,moment,tags,uses,dead,ag⟩:=p;simp only at e;subst e
  match c,hc with
  |0,_=>rfl
  |1,_=>rfl
  |2,_=>rfl
 ·exact {
   cl3:=by show(p.cl.set c _).length=3;rw[List.length_set];exact h.mem.cl3
   drv:=h.mem.drv.frameK hO (fun j e e'=>k3 (e'▸e)) (fun e=>k2 e.symm) (by rw[h.mem.busy];exact fun hne q hq=>offk (h.mem.doff hne q hq)) (by rw[h.mem.busy];exact fun r hr=>⟨fun he ad ha=>offk ((h.mem.roff r (List.mem_append_right _ hr)).1 he ad ha),fun he ad ha=>offk ((h.mem.roff r (List.mem_append_right _ hr)).2 he ad ha)⟩)
   tied:=h.mem.tied
   busy:=h.mem.busy
   map:=h.mem.map
   im:=h.mem.im
   nb:=h.mem.nb
   wb:=h.mem.wb
   hand:=zcq h.mem.hand hO (fun hne q hq=>offk (h.mem.hoff hne q hq))
   hnil:=h.mem.hnil
   hcap:=h.mem.hcap
   queue:=zce h.mem.queue hO (fun hne q hq=>offk (h.mem.qoff hne q hq)) (fun r hr=>⟨fun he ad ha=>offk ((h.mem.roff r (List.mem_append_left _ hr)).1 he ad ha),fun he ad ha=>offk ((h.mem.roff r (List.mem_append_left _ hr)).2 he ad ha)⟩)
   qnil:=h.mem.qnil
   qcap:=h.mem.qcap
   asks:=fun i hi j hj=>by
    by_cases e:i=c
    ·subst e;have hj':A.ka i=some j:=hj;rw[hk] at hj';obtain rfl:=Option.some.inj hj';rw[zfs h.mem.cl3 hi];show zdB _ k { p.client i with left:=L } (upd A.la i a' i) (upd A.lk i L i) (upd A.lc i c' i);rw[zbP,zbP,zbP];refine⟨?_,hA.kind,zge hI hO (fun hne q hq=>offk (ho hne q hq)),hnil,fun _=>rfl⟩;rw[zK hA.blk]
     rfl
    ·rw[zcm p e];show zdB _ j (p.client i) (upd A.la c a' i) (upd A.lk c L i) (upd A.lc c c' i);rw[zcl e,zcl e,zcl e];exact(h.mem.asks i hi j hj).frame hO (fun e'=>h.mem.kk i c hi hc e j hj (by rw[e'];exact hk)) (fun hne q hq=>offk (h.mem.loff i hi j hj hne q hq))
   idle:=fun i hi hj=>by
    by_cases e:i=c
    ·subst e;have hj':A.ka i=none:=hj;rw[hk] at hj';cases hj'
    ·rw[zcm p e];exact h.mem.idle i hi hj
   sv:=h.mem.sv
   kv:=h.mem.kv
   kk:=h.mem.kk
   hoff:=h.mem.hoff
   qoff:=h.mem.qoff
   roff:=h.mem.roff
   loff:=fun i hi j hj hne q hq=>by
    by_cases e:i=c
    ·subst e;have hne':upd A.lk i L i ≠ []:=hne;have hq':upd A.la i a' i=some q:=hq;rw[zbP] at hne' hq';exact ho hne' q hq'
    ·have hne':upd A.lk c L i ≠ []:=hne;have hq':upd A.la c a' i=some q:=hq;rw[zcl e] at hne' hq';exact h.mem.loff i hi j hj hne' q hq'
   doff:=h.mem.doff
   xlt:=fun j e=>Nat.lt_of_lt_of_le (h.mem.xlt j e) hO.size }
theorem zjl{w:World}{a:Option Addr}{l:List Bf}(h:zB w a l)(hne:l ≠ []){q:Addr}(hq:a=some q):q.block<w.heap.size:=by
 rcases h.1 with e|⟨b',o',ha,hc⟩
 ·exact absurd e hne
 ·have:l.length ≠ 0:=fun e=>hne (List.eq_nil_of_length_eq_zero e)
  have:=zg (hc 0 (by omega) 0 (by omega));rw[ha] at hq;simp only[Option.some.injEq] at hq;subst hq;exact this
theorem zfu{w:World}{a:Option Addr}{l:List Rq}(h:zs w a l)(hne:l ≠ []){q:Addr}(hq:a=some q):q.block<w.heap.size:=by
 rcases h.1 with e|⟨b',o',ha,hc⟩
 ·exact absurd e hne
 ·have:l.length ≠ 0:=fun e=>hne (List.eq_nil_of_length_eq_zero e)
  have:=zg (hc 0 (by omega) 0 (by omega));rw[ha] at hq;simp only[Option.some.injEq] at hq;subst hq;exact this
theorem zH.asked(h:zH s p A w){w1:World}(hb:Below w.heap.size w w1){c k:Nat}(hc:c<3)(hk:w.heap.size≤k)(x:Cl)(L:List Int)(a':Option Addr)(n:Nat)(hA:zdB w1 k x a' L n)(ho:L ≠ []→∀q,a'=some q→w.heap.size≤q.block∧q.block ≠ k)(hx:x.got=(p.client c).got∧x.err=(p.client c).err)(hi0:A.ka c=none) :
  zE s p A { p with cl:=p.cl.set c x } { A with ka:=upd A.ka c (some k),la:=upd A.la c a',lc:=upd A.lc c n,lk:=upd A.lk c L } w (w1.setCell ⟨s,11+c,none⟩ (.pointer (some ⟨k,0,none⟩))):=by
 have h1:=h.later hb;have hO:zo (fun j=>j=s) w1 (w1.setCell ⟨s,11+c,none⟩ (.pointer (some ⟨k,0,none⟩))):=(zo.refl (fun j=>j=s) w1).setCell ⟨s,11+c,none⟩ (Or.inl rfl) _;have hks:k ≠ s:=fun e=>by have:=h.lt;omega
 have some_cases:∀{i j:Nat},upd A.ka c (some k) i=some j→(i=c∧j=k)∨(i ≠ c∧A.ka i=some j):=by
  intro i j e
  by_cases hic:i=c
  ·subst hic;rw[zbP] at e;exact Or.inl ⟨rfl,(Option.some.inj e).symm⟩
  ·rw[zcl hic] at e;exact Or.inr ⟨hic,e⟩
 have hoff:∀j,({ A with ka:=upd A.ka c (some k),la:=upd A.la c a',lc:=upd A.lc c n,lk:=upd A.lk c L }:Rs).off s j→A.off s j∨j=k:=by
  rintro j ((e|e|⟨i,hi,e⟩)|e)
  ·exact Or.inl (Or.inl (Or.inl e))
  ·exact Or.inl (Or.inl (Or.inr (Or.inl e)))
  ·rcases some_cases e with⟨_,rfl⟩|⟨_,e'⟩
   ·exact Or.inr rfl
   ·exact Or.inl (Or.inl (Or.inr (Or.inr ⟨i,hi,e'⟩)))
  ·exact Or.inl (Or.inr e)
 have nf:∀{q:Addr},¬A.off s q.block→q.block<w.heap.size→¬({ A with ka:=upd A.ka c (some k),la:=upd A.la c a',lc:=upd A.lc c n,lk:=upd A.lk c L }:Rs).off s q.block:=fun hn hl e=>(hoff _ e).elim hn (fun e=>by omega)
 have offs:∀{q:Addr},¬A.off s q.block→¬q.block=s:=fun hn e=>hn (by rw[e];exact Or.inl (Or.inl rfl))
 have hm1:zbg s p A (w1.setCell ⟨s,11+c,none⟩ (.pointer (some ⟨k,0,none⟩))):=h1.mem.turned hO (fun j e=>Or.inl (Or.inl e)) (fun j _ hne=>hne) (fun e=>h1.mem.sv.2 e.symm);refine⟨⟨?_,?_⟩,(zo.of_below (F:=A.foot s) hb).trans hO (fun j e=>Or.inl (by rw[e];exact Or.inl rfl)),?_,rfl,rfl,rfl,rfl⟩
 ·rw[zK h1.blk]
  congr 2
  obtain⟨x0,y,z,e⟩:=zfP h.mem.cl3;obtain⟨dev,ff,cl,hand,queue,turn,moment,tags,uses,dead,ag⟩:=p;simp only at e;subst e;obtain⟨xk,xp,xd,xl,xg,xe⟩:=x;obtain⟨hx1,hx2⟩:=hx;simp only at hx1 hx2;subst hx1 hx2
  match c,hc with
  |0,_=>rfl
  |1,_=>rfl
  |2,_=>rfl
 ·exact {
   cl3:=by show(p.cl.set c _).length=3;rw[List.length_set];exact h.mem.cl3
   drv:=hm1.drv
   tied:=hm1.tied
   busy:=hm1.busy
   map:=hm1.map
   im:=hm1.im
   nb:=hm1.nb
   wb:=hm1.wb
   hand:=hm1.hand
   hnil:=hm1.hnil
   hcap:=hm1.hcap
   queue:=hm1.queue
   qnil:=hm1.qnil
   qcap:=hm1.qcap
   asks:=fun i hi j hj=>by
    rcases some_cases hj with⟨rfl,rfl⟩|⟨hic,hj'⟩
    ·rw[zfs h.mem.cl3 hi];show zdB _ j x (upd A.la i a' i) (upd A.lk i L i) (upd A.lc i n i);rw[zbP,zbP,zbP];exact hA.frame hO hks (fun hne q hq e=>by have:=(ho hne q hq).1;have:=h.lt;omega)
    ·rw[zcm p hic];show zdB _ j (p.client i) (upd A.la c a' i) (upd A.lk c L i) (upd A.lc c n i);rw[zcl hic,zcl hic,zcl hic];exact hm1.asks i hi j hj'
   idle:=fun i hi hj=>by
    have hj':upd A.ka c (some k) i=none:=hj
    by_cases e:i=c
    ·subst e;rw[zbP] at hj';cases hj'
    ·rw[zcm p e];rw[zcl e] at hj';exact h.mem.idle i hi hj'
   sv:=hm1.sv
   kv:=fun i hi j hj=>by
    rcases some_cases hj with⟨rfl,rfl⟩|⟨hic,hj'⟩
    ·exact⟨hks,fun e=>by have e':j=A.v:=e;have:=zz h.mem.drv.blk;omega,fun e=>by have:=h.mem.drv.footLt _ e;omega⟩
    ·exact h.mem.kv i hi j hj'
   kk:=fun i j hi hj hij m hm hm'=>by
    rcases some_cases hm with⟨rfl,rfl⟩|⟨hic,hm1'⟩<;>rcases some_cases hm' with⟨e1,e2⟩|⟨hjc,hm2⟩
    ·exact hij e1.symm
    ·have:=h.mem.askLt hj hm2;omega
    ·have:=h.mem.askLt hi hm1';omega
    ·exact h.mem.kk i j hi hj hij m hm1' hm2
   hoff:=fun hne q hq=>nf (h.mem.hoff hne q hq) (zjl h.mem.hand hne hq)
   qoff:=fun hne q hq=>nf (h.mem.qoff hne q hq) (zfu h.mem.queue hne hq)
   roff:=fun r hr=>by
    have hat:r.At w:=by
     rcases List.mem_append.1 hr with h'|h'
     ·exact h.mem.queue.2.1 r h'
     ·have:=h.mem.drv.dev.lrow.2.1 r (by rw[h.mem.busy];exact h');exact this
    exact⟨fun he ad ha=>nf ((h.mem.roff r hr).1 he ad ha) (zfC hat.data he ha),fun he ad ha=>nf ((h.mem.roff r hr).2 he ad ha) (zdp hat.tags he ha)⟩
   loff:=fun i hi j hj hne q hq=>by
    rcases some_cases hj with⟨rfl,rfl⟩|⟨hic,hj'⟩
    ·have hne':upd A.lk i L i ≠ []:=hne;have hq':upd A.la i a' i=some q:=hq;rw[zbP] at hne' hq';obtain⟨g1,g2⟩:=ho hne' q hq';exact fun e=>(hoff _ e).elim (fun e=>by have:=h.offLt _ e;omega) g2
    ·have hne':upd A.lk c L i ≠ []:=hne;have hq':upd A.la c a' i=some q:=hq;rw[zcl hic] at hne' hq';exact nf (h.mem.loff i hi j hj' hne' q hq') (zdp (h.mem.asks i hi j hj').ints hne' hq')
   doff:=fun hne q hq=>nf (h.mem.doff hne q hq) (zfu h.mem.drv.dev.lrow (by rw[h.mem.busy];exact hne) hq)
   xlt:=hm1.xlt }
 ·rintro j (e|e|⟨i,hi,e⟩)
  ·exact Or.inl (Or.inl e)
  ·exact Or.inl (Or.inr (Or.inl e))
  ·rcases some_cases e with⟨_,rfl⟩|⟨_,e'⟩
   ·exact Or.inr hk
   ·exact Or.inl (Or.inr (Or.inr ⟨i,hi,e'⟩))
end
end Go.Proofs.YtlhgjplipgandaaGreat
