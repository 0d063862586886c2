/- Joined texts: Elev, Elev2, Elev3. -/
import Derived.BigRegion
import Derived.Deep.DeepCutAuto
import Derived.Test.YtlhgjplipgandaaGreatB9
set_option maxRecDepth 100000
set_option maxHeartbeats 8000000
set_option linter.unusedSimpArgs false
namespace Go.Proofs.YtlhgjplipgandaaGreat
open Go.RowKit Go.BigFrame
attribute [local go_sem] ze.cell ze.frozen
structure Tn where
 w:Bool
 g:Int
 s:Int
 p:Int
abbrev Tn.val(t:Tn):Value:=.agg #[.bool t.w,.int .i64 t.g,.int .i64 t.s,.int .i64 t.p]
def zah(b:Bool)(l:List Rq):Int:=zax (zdC b) Rq.born l l.length
def frI(b:Bool)(a:Int)(l:List Rq):Int:=zax (zbM b a) Rq.f l l.length
theorem zbJ(l:List Rq)(a:Option Addr)(c:Nat)(b:Bool)(w:World)(hl:zs w a l)(n:Int)(hn:zah b l=n) :
  Calls Tryz.prog 127 #[.slice a l.length c,.bool b] w fun e w'=>e=.returned (.int .i64 n)∧Below w.heap.size w w':=by
 subst hn;exact zoi l a c b w hl
theorem zg5(l:List Rq)(a:Option Addr)(c:Nat)(b:Bool)(a':Int)(w:World)(hl:zs w a l)(n:Int)(hn:frI b a' l=n) :
  Calls Tryz.prog 126 #[.slice a l.length c,.bool b,.int .i64 a'] w fun e w'=>e=.returned (.int .i64 n)∧Below w.heap.size w w':=by
 subst hn;exact zqR l a c b a' w hl
theorem zet{w w2:World}{a0 a1 a2 a3 b0 b1 b2 b3:Value}{T T':TypeId}(HB:Below ((w.alloc (.cells #[a0,a1,a2,a3] T)).alloc (.cells #[b0,b1,b2,b3] T')).heap.size ((w.alloc (.cells #[a0,a1,a2,a3] T)).alloc (.cells #[b0,b1,b2,b3] T')) w2) :
  (w2.cell? ⟨w.heap.size,0,none⟩=some a0∧w2.cell? ⟨w.heap.size,1,none⟩=some a1∧w2.cell? ⟨w.heap.size,2,none⟩=some a2∧w2.cell? ⟨w.heap.size,3,none⟩=some a3) ∧
  (w2.frozen? ⟨w.heap.size,0,none⟩=false∧w2.frozen? ⟨w.heap.size,1,none⟩=false∧w2.frozen? ⟨w.heap.size,2,none⟩=false∧w2.frozen? ⟨w.heap.size,3,none⟩=false) ∧
  (w2.cell? ⟨w.heap.size+1,0,none⟩=some b0∧w2.cell? ⟨w.heap.size+1,1,none⟩=some b1∧w2.cell? ⟨w.heap.size+1,2,none⟩=some b2∧w2.cell? ⟨w.heap.size+1,3,none⟩=some b3) ∧
  (w2.frozen? ⟨w.heap.size+1,0,none⟩=false∧w2.frozen? ⟨w.heap.size+1,1,none⟩=false∧w2.frozen? ⟨w.heap.size+1,2,none⟩=false∧w2.frozen? ⟨w.heap.size+1,3,none⟩=false) ∧
  w.heap.size<w2.heap.size∧w.heap.size+1<w2.heap.size:=by
 have hz:=HB.size;simp only[World.size_alloc] at hz;have c:=fun o=>HB.cell (p:=⟨w.heap.size,o,none⟩) (by simp only[World.size_alloc];omega)
 have f:=fun o=>HB.frozen (p:=⟨w.heap.size,o,none⟩) (by simp only[World.size_alloc];omega)
 have c':=fun o=>HB.cell (p:=⟨w.heap.size+1,o,none⟩) (by simp only[World.size_alloc];omega)
 have f':=fun o=>HB.frozen (p:=⟨w.heap.size+1,o,none⟩) (by simp only[World.size_alloc];omega)
 refine⟨⟨?_,?_,?_,?_⟩,⟨?_,?_,?_,?_⟩,⟨?_,?_,?_,?_⟩,⟨?_,?_,?_,?_⟩,by omega,by omega⟩
 all_goals first|rw[c]|rw[f]|rw[c']|rw[f']
 all_goals simp
theorem zlu(b:Bool)(w:World):Calls Tryz.prog 128 #[.bool b] w fun e w'=>e=.returned (.int .i64 (if b=true then 8 else 4))∧Below w.heap.size w w':=by
 cases b
 all_goals
  go_enter Tryz.func128,Tryz.ntmps128;go_wp2;go_ret;exact⟨rfl,Below.refl _ _⟩
theorem zo4(l:List Rq)(a:Option Addr)(c:Nat)(t:Tn)(w:World)(h:t.g≤0∨3≤t.g) :
  Calls Tryz.prog 90 #[.slice a l.length c,t.val] w fun e w'=>e=.returned (.int .i64 (-1))∧Below w.heap.size w w':=by
 rcases h with h|h
 ·go_enter Tryz.func90,Tryz.ntmps90;go_wp2;go_ret;exact⟨rfl,by(with_reducible repeat first|exact Below.refl _ _|refine zc ?_ _|refine zd ?_|refine bset' ?_ (by omega) _|refine zb ?_ (by assumption))⟩
 ·have h':¬t.g≤0:=by omega
  go_enter Tryz.func90,Tryz.ntmps90;go_wp2;go_ret;exact⟨rfl,by(with_reducible repeat first|exact Below.refl _ _|refine zc ?_ _|refine zd ?_|refine bset' ?_ (by omega) _|refine zb ?_ (by assumption))⟩
theorem ziD(l:List Rq)(a:Option Addr)(c:Nat)(t:Tn)(w:World)(hl:zs w a l)(h:0<t.g)(h2:t.g<3)(n:Int)(hn:frI t.w t.p l=n) :
  Calls Tryz.prog 90 #[.slice a l.length c,t.val] w fun e w'=>e=.returned (.int .i64 n)∧Below w.heap.size w w':=by
 go_enter Tryz.func90,Tryz.ntmps90;go_wp2_with fail;refine(zg5 l a c _ _ _ (hl.later (zn _ _)) n hn).mono ?_;rintro e w1 ⟨rfl,HB⟩;go_wp2;go_ret;exact⟨rfl,by(with_reducible repeat first|exact Below.refl _ _|refine zc ?_ _|refine zd ?_|refine bset' ?_ (by omega) _|refine zb ?_ (by assumption))⟩
theorem zsh(l:List Rq)(a:Option Addr)(c:Nat)(t:Tn)(w:World)(hl:zs w a l)(b1:Bool)(n1 n2:Int)(h1:zah false l=n1)(h2:zah true l=n2)(d1:decide (0≤n1)=b1)(d2:decide (0≤n2)=false) :
  Calls Tryz.prog 91 #[.slice a l.length c,t.val] w fun e w'=>e=.returned (Tn.val ⟨false,1,t.s,t.p⟩)∧Below w.heap.size w w':=by
 go_enter Tryz.func91,Tryz.ntmps91;go_wp2_with fail;refine(zbJ l a c _ _ (hl.later (by(with_reducible repeat first|exact Below.refl _ _|refine zc ?_ _|refine zd ?_|refine bset' ?_ (by omega) _|refine zb ?_ (by assumption)))) n1 h1).mono ?_;rintro e w1 ⟨rfl,HB⟩;go_wp2_with fail;refine(zbJ l a c _ _ (hl.later (by(with_reducible repeat first|exact Below.refl _ _|refine zc ?_ _|refine zd ?_|refine bset' ?_ (by omega) _|refine zb ?_ (by assumption)))) n2 h2).mono ?_;rintro e w2 ⟨rfl,hb⟩
 replace HB:=zb HB hb
 clear hb h1 h2;obtain⟨⟨p0,p1,p2,p3⟩,⟨f0,f1,f2,f3⟩,⟨q0,q1,q2,q3⟩,⟨g0,g1,g2,g3⟩,z0,z1⟩:=zet HB;go_wp2;exact bodyPost_ret (v:=Tn.val ⟨false,1,t.s,t.p⟩) (by simp[results,Tryz.results91,go_sem,q0,q1,q2,q3]) rfl ⟨rfl,by(with_reducible repeat first|exact Below.refl _ _|refine zc ?_ _|refine zd ?_|refine bset' ?_ (by omega) _|refine zb ?_ (by assumption))⟩
theorem zr9(l:List Rq)(a:Option Addr)(c:Nat)(t:Tn)(w:World)(hl:zs w a l)(n1 n2:Int)(h1:zah false l=n1)(h2:zah true l=n2)(d1:decide (0≤n1)=false)(d2:decide (0≤n2)=true) :
  Calls Tryz.prog 91 #[.slice a l.length c,t.val] w fun e w'=>e=.returned (Tn.val ⟨true,1,0,t.p⟩)∧Below w.heap.size w w':=by
 go_enter Tryz.func91,Tryz.ntmps91;go_wp2_with fail;refine(zbJ l a c _ _ (hl.later (by(with_reducible repeat first|exact Below.refl _ _|refine zc ?_ _|refine zd ?_|refine bset' ?_ (by omega) _|refine zb ?_ (by assumption)))) n1 h1).mono ?_;rintro e w1 ⟨rfl,HB⟩;go_wp2_with fail;refine(zbJ l a c _ _ (hl.later (by(with_reducible repeat first|exact Below.refl _ _|refine zc ?_ _|refine zd ?_|refine bset' ?_ (by omega) _|refine zb ?_ (by assumption)))) n2 h2).mono ?_;rintro e w2 ⟨rfl,hb⟩
 replace HB:=zb HB hb
 clear hb h1 h2;obtain⟨⟨p0,p1,p2,p3⟩,⟨f0,f1,f2,f3⟩,⟨q0,q1,q2,q3⟩,⟨g0,g1,g2,g3⟩,z0,z1⟩:=zet HB;go_wp2;exact bodyPost_ret (v:=Tn.val ⟨true,1,0,t.p⟩) (by simp[results,Tryz.results91,go_sem,q0,q1,q2,q3]) rfl ⟨rfl,by(with_reducible repeat first|exact Below.refl _ _|refine zc ?_ _|refine zd ?_|refine bset' ?_ (by omega) _|refine zb ?_ (by assumption))⟩
theorem zsd(l:List Rq)(a:Option Addr)(c:Nat)(t:Tn)(w:World)(hl:zs w a l)(n1 n2:Int)(h1:zah false l=n1)(h2:zah true l=n2)(d1:decide (0≤n1)=true)(d2:decide (0≤n2)=true)(hs:2≤t.s) :
  Calls Tryz.prog 91 #[.slice a l.length c,t.val] w fun e w'=>e=.returned (Tn.val ⟨true,1,0,t.p⟩)∧Below w.heap.size w w':=by
 go_enter Tryz.func91,Tryz.ntmps91;go_wp2_with fail;refine(zbJ l a c _ _ (hl.later (by(with_reducible repeat first|exact Below.refl _ _|refine zc ?_ _|refine zd ?_|refine bset' ?_ (by omega) _|refine zb ?_ (by assumption)))) n1 h1).mono ?_;rintro e w1 ⟨rfl,HB⟩;go_wp2_with fail;refine(zbJ l a c _ _ (hl.later (by(with_reducible repeat first|exact Below.refl _ _|refine zc ?_ _|refine zd ?_|refine bset' ?_ (by omega) _|refine zb ?_ (by assumption)))) n2 h2).mono ?_;rintro e w2 ⟨rfl,hb⟩
 replace HB:=zb HB hb
 clear hb h1 h2;obtain⟨⟨p0,p1,p2,p3⟩,⟨f0,f1,f2,f3⟩,⟨q0,q1,q2,q3⟩,⟨g0,g1,g2,g3⟩,z0,z1⟩:=zet HB;go_wp2;exact bodyPost_ret (v:=Tn.val ⟨true,1,0,t.p⟩) (by simp[results,Tryz.results91,go_sem,q0,q1,q2,q3]) rfl ⟨rfl,by(with_reducible repeat first|exact Below.refl _ _|refine zc ?_ _|refine zd ?_|refine bset' ?_ (by omega) _|refine zb ?_ (by assumption))⟩
theorem zsl(l:List Rq)(a:Option Addr)(c:Nat)(t:Tn)(w:World)(hl:zs w a l)(n1 n2:Int)(h1:zah false l=n1)(h2:zah true l=n2)(d1:decide (0≤n1)=true)(d2:decide (0≤n2)=true)(hs:t.s<2)(hlo:-9223372036854775808≤t.s) :
  Calls Tryz.prog 91 #[.slice a l.length c,t.val] w fun e w'=>e=.returned (Tn.val ⟨false,1,t.s+1,t.p⟩)∧Below w.heap.size w w':=by
 go_enter Tryz.func91,Tryz.ntmps91;go_wp2_with fail;refine(zbJ l a c _ _ (hl.later (by(with_reducible repeat first|exact Below.refl _ _|refine zc ?_ _|refine zd ?_|refine bset' ?_ (by omega) _|refine zb ?_ (by assumption)))) n1 h1).mono ?_;rintro e w1 ⟨rfl,HB⟩;go_wp2_with fail;refine(zbJ l a c _ _ (hl.later (by(with_reducible repeat first|exact Below.refl _ _|refine zc ?_ _|refine zd ?_|refine bset' ?_ (by omega) _|refine zb ?_ (by assumption)))) n2 h2).mono ?_;rintro e w2 ⟨rfl,hb⟩
 replace HB:=zb HB hb
 clear hb h1 h2;obtain⟨⟨p0,p1,p2,p3⟩,⟨f0,f1,f2,f3⟩,⟨q0,q1,q2,q3⟩,⟨g0,g1,g2,g3⟩,z0,z1⟩:=zet HB;go_wp2;exact bodyPost_ret (v:=Tn.val ⟨false,1,t.s+1,t.p⟩) (by simp[results,Tryz.results91,go_sem,q0,q1,q2,q3]) rfl ⟨rfl,by(with_reducible repeat first|exact Below.refl _ _|refine zc ?_ _|refine zd ?_|refine bset' ?_ (by omega) _|refine zb ?_ (by assumption))⟩
def zZ(b1 b2:Bool)(t:Tn):Tn:=if b2=false then⟨false,1,t.s,t.p⟩ else if b1=false∨2≤t.s then⟨true,1,0,t.p⟩ else⟨false,1,t.s+1,t.p⟩
theorem ziL(F:Rq→Bool)(R:Rq→Int)(l:List Rq):∀k,k≤l.length→(zax F R l k=-1∧∀i (h:i<l.length),i<k→F l[i]=false)∨∃j,∃h:j<l.length,zax F R l k=j∧j<k∧F l[j]=true:=by
 intro k
 induction k with
 |zero=>intro _;exact Or.inl ⟨rfl,fun i _ hi=>absurd hi (Nat.not_lt_zero _)⟩
 |succ k ih =>
  intro hk;have hlt:k<l.length:=by omega
  rcases ih (by omega) with⟨h1,h2⟩|⟨j,hj,h1,h2,h3⟩
  ·cases hF:F l[k]
   ·left
    refine⟨zdm hlt hF h1,fun i h hi=>?_⟩
    by_cases e:i=k
    ·subst e;exact hF
    ·exact h2 i h (by omega)
   ·exact Or.inr ⟨k,hlt,zc4 hlt hF h1,by omega,hF⟩
  ·cases hF:F l[k]
   ·exact Or.inr ⟨j,hj,zdm hlt hF h1,by omega,h3⟩
   ·by_cases hR:R l[k]<R l[j]
    ·exact Or.inr ⟨k,hlt,zeK hlt hj hF h1 hR,by omega,hF⟩
    ·exact Or.inr ⟨j,hj,zeQ hlt hj hF h1 hR,by omega,h3⟩
theorem zqs(b:Bool)(l:List Rq):(zah b l=-1∧∀i (h:i<l.length),l[i].wr=!b)∨∃j,∃h:j<l.length,zah b l=j∧l[j].wr=b:=by
 rcases ziL (zdC b) Rq.born l l.length (Nat.le_refl _) with⟨h1,h2⟩|⟨j,hj,h1,_,h3⟩
 ·refine Or.inl ⟨h1,fun i h=>?_⟩;have:=h2 i h h;simp only[zdC,beq_eq_false_iff_ne] at this
  revert this;cases l[i].wr<;>cases b<;>simp
 ·exact Or.inr ⟨j,hj,h1,by simpa [zdC] using h3⟩
theorem zdq(b:Bool)(a:Int)(l:List Rq):(frI b a l=-1∧∀i (h:i<l.length),l[i].wr=b→l[i].f<a)∨∃j,∃h:j<l.length,frI b a l=j∧l[j].wr=b∧a≤l[j].f:=by
 rcases ziL (zbM b a) Rq.f l l.length (Nat.le_refl _) with⟨h1,h2⟩|⟨j,hj,h1,_,h3⟩
 ·refine Or.inl ⟨h1,fun i h hw=>?_⟩;have:=h2 i h h;simp only[zbM,hw,beq_self_eq_true,Bool.true_and,decide_eq_false_iff_not] at this
  omega
 ·refine Or.inr ⟨j,hj,h1,?_⟩
  simpa [zbM] using h3
def zbK(b:Bool):Int:=if b=true then 8 else 4
theorem zfo(b:Bool)(w:World)(n:Int)(hn:zbK b=n):Calls Tryz.prog 128 #[.bool b] w fun e w'=>e=.returned (.int .i64 n)∧Below w.heap.size w w':=by
 subst hn;exact zlu b w
theorem zrP(l:List Rq)(b o:Nat)(c:Nat)(t:Tn)(now:Int)(w:World)(hl:zs w (some ⟨b,o,none⟩) l)(i:Nat)(hi:i<l.length)(h1:zah t.w l=i)
  (n0:0≤now) (n1:now≤1000000000) (b0:0≤l[i].born) (b1:l[i].born≤1000000000) (P:Int) (hP:zbK t.w=P) (hn:P≤now-l[i].born) :
  Calls Tryz.prog 92 #[.slice (some ⟨b,o,none⟩) l.length c,t.val,.int .i64 now] w fun e w'=>e=.returned (.int .i64 i)∧Below w.heap.size w w':=by
 have hb3:=hl.2.2;have hi0:decide ((0:Int)≤(i:Int))=true:=decide_eq_true (by omega);go_enter Tryz.func92,Tryz.ntmps92;go_wp2_with fail;refine(zbJ l _ c _ _ (hl.later (by(with_reducible repeat first|exact Below.refl _ _|refine zc ?_ _|refine zd ?_|refine bset' ?_ (by omega) _|refine zb ?_ (by assumption)))) _ h1).mono ?_;rintro e w1 ⟨rfl,HB⟩;have HB0:=zb (zn _ _) HB;obtain⟨c0,c1,c2,c3,c4,c5⟩:=hl.cells hi;have l0:=zg c0;have HH:Hid (zah t.w l=i):=h1;clear h1;go_wp2_with fail;refine zj (by first|exact HB|exact zd HB|exact Below.refl _ _) (by kernel_rfl) (by kernel_rfl) ?_
 repeat(go_big_quiet_step (first|exact rfl|(go_at_call 128;exact zR (zfo _ _ _ hP))))
 refine wpQuiet_nil ?_;intro _ hw';obtain⟨p,hw''⟩:=hw';subst hw'';(try clear hc hf hz);(try clear HB);have HB:=p.below;obtain⟨hc,hf,hz⟩:=zu HB;go_wp2;go_ret;exact⟨rfl,by(with_reducible repeat first|exact Below.refl _ _|refine zc ?_ _|refine zd ?_|refine bset' ?_ (by omega) _|refine zb ?_ (by assumption))⟩
theorem zso(l:List Rq)(b o:Nat)(c:Nat)(t:Tn)(now:Int)(w:World)(hl:zs w (some ⟨b,o,none⟩) l)(i:Nat)(hi:i<l.length)(h1:zah t.w l=i)
  (n0:0≤now) (n1:now≤1000000000) (b0:0≤l[i].born) (b1:l[i].born≤1000000000) (P:Int) (hP:zbK t.w=P) (hn:now-l[i].born<P) (j:Nat) (hj:frI t.w t.p l=j) :
  Calls Tryz.prog 92 #[.slice (some ⟨b,o,none⟩) l.length c,t.val,.int .i64 now] w fun e w'=>e=.returned (.int .i64 j)∧Below w.heap.size w w':=by
 have hb3:=hl.2.2;have hi0:decide ((0:Int)≤(i:Int))=true:=decide_eq_true (by omega);have hj0:decide ((0:Int)≤(j:Int))=true:=decide_eq_true (by omega);go_enter Tryz.func92,Tryz.ntmps92;go_wp2_with fail;refine(zbJ l _ c _ _ (hl.later (by(with_reducible repeat first|exact Below.refl _ _|refine zc ?_ _|refine zd ?_|refine bset' ?_ (by omega) _|refine zb ?_ (by assumption)))) _ h1).mono ?_;rintro e w1 ⟨rfl,HB⟩;obtain⟨c0,c1,c2,c3,c4,c5⟩:=hl.cells hi;have l0:=zg c0;have HJ:Hid (frI t.w t.p l=j):=hj;clear h1 hj;go_wp2_with fail;refine zj (by first|exact HB|exact zd HB|exact Below.refl _ _) (by kernel_rfl) (by kernel_rfl) ?_
 repeat(go_big_quiet_step (first|exact rfl|(go_at_call 128;exact zR (zfo _ _ _ hP))))
 refine wpQuiet_nil ?_;intro _ hw';obtain⟨p,hw''⟩:=hw';subst hw'';(try clear hc hf hz);(try clear HB);have HB:=p.below;obtain⟨hc,hf,hz⟩:=zu HB;go_wp2_with fail;refine(zg5 l _ c _ _ _ (hl.later (by(with_reducible repeat first|exact Below.refl _ _|refine zc ?_ _|refine zd ?_|refine bset' ?_ (by omega) _|refine zb ?_ (by assumption)))) _ HJ.out).mono ?_;rintro e w2 ⟨rfl,hb⟩;go_wp2;go_ret;exact⟨rfl,by(with_reducible repeat first|exact Below.refl _ _|refine zc ?_ _|refine zd ?_|refine bset' ?_ (by omega) _|refine zb ?_ (by assumption))⟩
theorem zrO(l:List Rq)(b o:Nat)(c:Nat)(t:Tn)(now:Int)(w:World)(hl:zs w (some ⟨b,o,none⟩) l)(i:Nat)(hi:i<l.length)(h1:zah t.w l=i)
  (n0:0≤now) (n1:now≤1000000000) (b0:0≤l[i].born) (b1:l[i].born≤1000000000) (P:Int) (hP:zbK t.w=P) (hn:now-l[i].born<P) (hj:frI t.w t.p l=-1) (n:Int) (hn2:frI t.w 0 l=n) :
  Calls Tryz.prog 92 #[.slice (some ⟨b,o,none⟩) l.length c,t.val,.int .i64 now] w fun e w'=>e=.returned (.int .i64 n)∧Below w.heap.size w w':=by
 have hb3:=hl.2.2;have hi0:decide ((0:Int)≤(i:Int))=true:=decide_eq_true (by omega);go_enter Tryz.func92,Tryz.ntmps92;go_wp2_with fail;refine(zbJ l _ c _ _ (hl.later (by(with_reducible repeat first|exact Below.refl _ _|refine zc ?_ _|refine zd ?_|refine bset' ?_ (by omega) _|refine zb ?_ (by assumption)))) _ h1).mono ?_;rintro e w1 ⟨rfl,HB⟩;obtain⟨c0,c1,c2,c3,c4,c5⟩:=hl.cells hi;have l0:=zg c0;have HJ:Hid (frI t.w t.p l=-1):=hj;have HK:Hid (frI t.w 0 l=n):=hn2;clear h1 hj hn2;go_wp2_with fail;refine zj (by first|exact HB|exact zd HB|exact Below.refl _ _) (by kernel_rfl) (by kernel_rfl) ?_
 repeat(go_big_quiet_step (first|exact rfl|(go_at_call 128;exact zR (zfo _ _ _ hP))))
 refine wpQuiet_nil ?_;intro _ hw';obtain⟨p,hw''⟩:=hw';subst hw'';(try clear hc hf hz);(try clear HB);have HB:=p.below;obtain⟨hc,hf,hz⟩:=zu HB;go_wp2_with fail;refine(zg5 l _ c _ _ _ (hl.later (by(with_reducible repeat first|exact Below.refl _ _|refine zc ?_ _|refine zd ?_|refine bset' ?_ (by omega) _|refine zb ?_ (by assumption)))) _ HJ.out).mono ?_;rintro e w2 ⟨rfl,hb⟩
 replace HB:=zb HB hb
 clear hb hc hf hz;obtain⟨hc,hf,hz⟩:=zu HB;go_wp2_with fail;refine(zg5 l _ c _ _ _ (hl.later (by(with_reducible repeat first|exact Below.refl _ _|refine zc ?_ _|refine zd ?_|refine bset' ?_ (by omega) _|refine zb ?_ (by assumption)))) _ HK.out).mono ?_;rintro e w3 ⟨rfl,hb⟩;go_wp2;go_ret;exact⟨rfl,by(with_reducible repeat first|exact Below.refl _ _|refine zc ?_ _|refine zd ?_|refine bset' ?_ (by omega) _|refine zb ?_ (by assumption))⟩
theorem zrW(l:List Rq)(b o:Nat)(c:Nat)(t:Tn)(now:Int)(w:World)(hl:zs w (some ⟨b,o,none⟩) l)(g0:0<t.g)(g1:t.g<3)(j:Nat)(hj:j<l.length)(h1:frI t.w t.p l=j)
  (f0:0≤l[j].f) (f1:l[j].f≤31) (m0:1≤l[j].m) (m1:l[j].m≤32) :
  Calls Tryz.prog 56 #[.slice (some ⟨b,o,none⟩) l.length c,t.val,.int .i64 now] w fun e w'=>e=.returned (.tuple #[.int .i64 j,Tn.val ⟨t.w,t.g+1,t.s,l[j].f+l[j].m⟩])∧Below w.heap.size w w':=by
 have hb3:=hl.2.2;have hi0:decide ((0:Int)≤(j:Int))=true:=decide_eq_true (by omega);have hi1:decide ((j:Int)<0)=false:=decide_eq_false (by omega);obtain⟨c0,c1,c2,c3,c4,c5⟩:=hl.cells hj;have l0:=zg c0;go_enter Tryz.func56,Tryz.ntmps56;go_wp2_with fail;refine(ziD l _ c t _ (hl.later (by(with_reducible repeat first|exact Below.refl _ _|refine zc ?_ _|refine zd ?_|refine bset' ?_ (by omega) _|refine zb ?_ (by assumption)))) g0 g1 _ h1).mono ?_;rintro e w1 ⟨rfl,HB⟩;clear h1;have HB0:Below w.heap.size w w1:=by(with_reducible repeat first|exact Below.refl _ _|refine zc ?_ _|refine zd ?_|refine bset' ?_ (by omega) _|refine zb ?_ (by assumption))
 obtain⟨⟨p0,p1,p2,p3⟩,⟨k0,k1,k2,k3⟩,⟨q0,q1,q2,q3⟩,⟨e0,e1,e2,e3⟩,z0,z1⟩:=zet HB
 replace c1:=cell_later' HB0 c1
 replace c2:=cell_later' HB0 c2
 have l1:b<w1.heap.size:=zg c1;have hne:¬b=w.heap.size:=by omega
 have hne1:¬b=w.heap.size+1:=by omega
 have hne2:¬b=w1.heap.size:=by omega
 clear c0 c3 c4 c5 HB0;go_wp2_with fail
 go_region
 go_wp2_with fail
 go_region
 go_wp2;refine bodyPost_ret (v:=.tuple #[.int .i64 j,Tn.val ⟨t.w,t.g+1,t.s,l[j].f+l[j].m⟩]) ?_ rfl ⟨rfl,by(with_reducible repeat first|exact Below.refl _ _|refine zc ?_ _|refine zd ?_|refine bset' ?_ (by omega) _|refine zb ?_ (by assumption))⟩
 simp[results,Tryz.results56,go_sem,q0,q1,q2,q3,z1]
theorem four1{w1 w2:World}{a0 a1 a2 a3:Value}{T:TypeId}(HB:Below (w1.alloc (.cells #[a0,a1,a2,a3] T)).heap.size (w1.alloc (.cells #[a0,a1,a2,a3] T)) w2) :
  (w2.cell? ⟨w1.heap.size,0,none⟩=some a0∧w2.cell? ⟨w1.heap.size,1,none⟩=some a1∧w2.cell? ⟨w1.heap.size,2,none⟩=some a2∧w2.cell? ⟨w1.heap.size,3,none⟩=some a3) ∧
  (w2.frozen? ⟨w1.heap.size,0,none⟩=false∧w2.frozen? ⟨w1.heap.size,1,none⟩=false∧w2.frozen? ⟨w1.heap.size,2,none⟩=false∧w2.frozen? ⟨w1.heap.size,3,none⟩=false) ∧
  w1.heap.size<w2.heap.size:=by
 have hz:=HB.size;simp only[World.size_alloc] at hz;have c:=fun o=>HB.cell (p:=⟨w1.heap.size,o,none⟩) (by simp only[World.size_alloc];omega)
 have f:=fun o=>HB.frozen (p:=⟨w1.heap.size,o,none⟩) (by simp only[World.size_alloc];omega)
 refine⟨⟨?_,?_,?_,?_⟩,⟨?_,?_,?_,?_⟩,by omega⟩
 all_goals first|rw[c]|rw[f]
 all_goals simp
theorem zcx{w w':World}{b o:Nat}{x:Bool}(hb:Below w.heap.size w w')(hlt:b<w.heap.size)(h:w.frozen? ⟨b,o,none⟩=x):w'.frozen? ⟨b,o,none⟩=x:=by
 rw[hb.frozen (p:=⟨b,o,none⟩) hlt];exact h
theorem zep{w w':World}{b:Nat}{a0 a1 a2 a3:Value}(hb:Below w.heap.size w w')
  (h:(w.cell? ⟨b,0,none⟩=some a0∧w.cell? ⟨b,1,none⟩=some a1∧w.cell? ⟨b,2,none⟩=some a2∧w.cell? ⟨b,3,none⟩=some a3)∧(w.frozen? ⟨b,0,none⟩=false∧w.frozen? ⟨b,1,none⟩=false∧w.frozen? ⟨b,2,none⟩=false∧w.frozen? ⟨b,3,none⟩=false)) :
  (w'.cell? ⟨b,0,none⟩=some a0∧w'.cell? ⟨b,1,none⟩=some a1∧w'.cell? ⟨b,2,none⟩=some a2∧w'.cell? ⟨b,3,none⟩=some a3)∧(w'.frozen? ⟨b,0,none⟩=false∧w'.frozen? ⟨b,1,none⟩=false∧w'.frozen? ⟨b,2,none⟩=false∧w'.frozen? ⟨b,3,none⟩=false):=by
 obtain⟨⟨c0,c1,c2,c3⟩,⟨f0,f1,f2,f3⟩⟩:=h;have hlt:=zg c0;exact⟨⟨cell_later' hb c0,cell_later' hb c1,cell_later' hb c2,cell_later' hb c3⟩,⟨zcx hb hlt f0,zcx hb hlt f1,zcx hb hlt f2,zcx hb hlt f3⟩⟩
theorem zV{w:World}{b o b' o':Nat}{v:Value}(h:b' ≠ b∨o' ≠ o):(w.setCell ⟨b,o,none⟩ v).cell? ⟨b',o',none⟩=w.cell? ⟨b',o',none⟩:=by
 apply World.cell?_setCell_other;intro e;simp only[Addr.mk.injEq,and_true] at e
 rcases h with h|h
 ·exact h e.1.symm
 ·exact h e.2.symm
theorem set4{w:World}{b:Nat}{a0 a1 a2 a3:Value}(v0 v1 v2 v3:Value)
  (h:(w.cell? ⟨b,0,none⟩=some a0∧w.cell? ⟨b,1,none⟩=some a1∧w.cell? ⟨b,2,none⟩=some a2∧w.cell? ⟨b,3,none⟩=some a3)∧(w.frozen? ⟨b,0,none⟩=false∧w.frozen? ⟨b,1,none⟩=false∧w.frozen? ⟨b,2,none⟩=false∧w.frozen? ⟨b,3,none⟩=false)) :
  ∀X,X=(((w.setCell ⟨b,0,none⟩ v0).setCell ⟨b,1,none⟩ v1).setCell ⟨b,2,none⟩ v2).setCell ⟨b,3,none⟩ v3 →
  ((X.cell? ⟨b,0,none⟩=some v0∧X.cell? ⟨b,1,none⟩=some v1∧X.cell? ⟨b,2,none⟩=some v2∧X.cell? ⟨b,3,none⟩=some v3)∧(X.frozen? ⟨b,0,none⟩=false∧X.frozen? ⟨b,1,none⟩=false∧X.frozen? ⟨b,2,none⟩=false∧X.frozen? ⟨b,3,none⟩=false)) ∧
  (∀b' o',b' ≠ b→X.cell? ⟨b',o',none⟩=w.cell? ⟨b',o',none⟩)∧(∀b' o',b' ≠ b→X.frozen? ⟨b',o',none⟩=w.frozen? ⟨b',o',none⟩)∧X.heap.size=w.heap.size:=by
 obtain⟨⟨c0,c1,c2,c3⟩,⟨f0,f1,f2,f3⟩⟩:=h;intro X hX;subst hX;refine⟨⟨⟨?_,?_,?_,?_⟩,⟨?_,?_,?_,?_⟩⟩,?_,?_,?_⟩
 ·rw[zV (Or.inr (by decide)),zV (Or.inr (by decide)),zV (Or.inr (by decide))];exact World.cell?_setCell_same _ _ _ c0
 ·rw[zV (Or.inr (by decide)),zV (Or.inr (by decide))];exact World.cell?_setCell_same _ _ _ (by rw[zV (Or.inr (by decide))];exact c1)
 ·rw[zV (Or.inr (by decide))];exact World.cell?_setCell_same _ _ _ (by rw[zV (Or.inr (by decide)),zV (Or.inr (by decide))];exact c2)
 ·exact World.cell?_setCell_same _ _ _ (by rw[zV (Or.inr (by decide)),zV (Or.inr (by decide)),zV (Or.inr (by decide))];exact c3)
 ·simpa using f0
 ·simpa using f1
 ·simpa using f2
 ·simpa using f3
 ·intro b' o' hb;rw[zV (Or.inl hb),zV (Or.inl hb),zV (Or.inl hb),zV (Or.inl hb)]
 ·intro b' o' _;simp
 ·simp
theorem znA(l:List Rq)(b o:Nat)(c:Nat)(t T:Tn)(now:Int)(w:World)(hl:zs w (some ⟨b,o,none⟩) l)(i:Nat)(hi:i<l.length)
  (Hg:∀w',zs w' (some ⟨b,o,none⟩) l→Calls Tryz.prog 90 #[.slice (some ⟨b,o,none⟩) l.length c,t.val] w' fun e w''=>e=.returned (.int .i64 (-1))∧Below w'.heap.size w' w'')
  (Hb:∀w',zs w' (some ⟨b,o,none⟩) l→Calls Tryz.prog 91 #[.slice (some ⟨b,o,none⟩) l.length c,t.val] w' fun e w''=>e=.returned T.val∧Below w'.heap.size w' w'')
  (Hf:∀w',zs w' (some ⟨b,o,none⟩) l→Calls Tryz.prog 92 #[.slice (some ⟨b,o,none⟩) l.length c,T.val,.int .i64 now] w' fun e w''=>e=.returned (.int .i64 i)∧Below w'.heap.size w' w'')
  (f0:0≤l[i].f) (f1:l[i].f≤31) (m0:1≤l[i].m) (m1:l[i].m≤32) :
  Calls Tryz.prog 56 #[.slice (some ⟨b,o,none⟩) l.length c,t.val,.int .i64 now] w fun e w'=>e=.returned (.tuple #[.int .i64 i,Tn.val ⟨T.w,T.g,T.s,l[i].f+l[i].m⟩])∧Below w.heap.size w w':=by
 have hb3:=hl.2.2;have hi0:decide ((0:Int)≤(i:Int))=true:=decide_eq_true (by omega);have hi1:decide ((i:Int)<0)=false:=decide_eq_false (by omega);obtain⟨c0,c1,c2,c3,c4,c5⟩:=hl.cells hi;have l0:=zg c0;clear c0 c3 c4 c5;have HG:Hid (∀w',zs w' (some ⟨b,o,none⟩) l→Calls Tryz.prog 90 #[.slice (some ⟨b,o,none⟩) l.length c,t.val] w' fun e w''=>e=.returned (.int .i64 (-1))∧Below w'.heap.size w' w''):=Hg;have HE:Hid (∀w',zs w' (some ⟨b,o,none⟩) l→Calls Tryz.prog 91 #[.slice (some ⟨b,o,none⟩) l.length c,t.val] w' fun e w''=>e=.returned T.val∧Below w'.heap.size w' w''):=Hb;have HF:Hid (∀w',zs w' (some ⟨b,o,none⟩) l→Calls Tryz.prog 92 #[.slice (some ⟨b,o,none⟩) l.length c,T.val,.int .i64 now] w' fun e w''=>e=.returned (.int .i64 i)∧Below w'.heap.size w' w''):=Hf;clear Hg Hb Hf;go_enter Tryz.func56,Tryz.ntmps56;go_wp2_with fail;refine(HG.out _ (hl.later (by(with_reducible repeat first|exact Below.refl _ _|refine zc ?_ _|refine zd ?_|refine bset' ?_ (by omega) _|refine zb ?_ (by assumption))))).mono ?_;rintro e w1 ⟨rfl,HB⟩;have HB0:Below w.heap.size w w1:=by(with_reducible repeat first|exact Below.refl _ _|refine zc ?_ _|refine zd ?_|refine bset' ?_ (by omega) _|refine zb ?_ (by assumption))
 obtain⟨p,k,q,e,z0,z1⟩:=zet HB;clear HB;obtain⟨⟨p0,p1,p2,p3⟩,⟨k0,k1,k2,k3⟩⟩:=(⟨p,k⟩:_∧_)
 go_wp2_with fail;refine(HE.out _ (hl.later (by(with_reducible repeat first|exact Below.refl _ _|refine zc ?_ _|refine zd ?_|refine bset' ?_ (by omega) _|refine zb ?_ (by assumption))))).mono ?_;rintro e' w2 ⟨rfl,HB⟩;clear p0 p1 p2 p3 k0 k1 k2 k3;obtain⟨⟨p0,p1,p2,p3⟩,⟨k0,k1,k2,k3⟩,y0⟩:=four1 HB;obtain⟨q,e⟩:=zep (zb (zn _ _) HB) ⟨q,e⟩;obtain⟨⟨q0,q1,q2,q3⟩,⟨e0,e1,e2,e3⟩⟩:=(⟨q,e⟩:_∧_)
 have HB1:Below w.heap.size w w2:=zb HB0 (zb (zn _ _) HB);go_wp2_with fail;obtain⟨⟨s0,s1⟩,s2,s3,s4⟩:=set4 (Value.bool T.w) (Value.int .i64 T.g) (Value.int .i64 T.s) (Value.int .i64 T.p) ⟨⟨p0,p1,p2,p3⟩,⟨k0,k1,k2,k3⟩⟩ _ rfl;have hq:=fun o'=>s2 (w.heap.size+1) o' (by omega)
 have he:=fun o'=>s3 (w.heap.size+1) o' (by omega)
 have HB2:Below w.heap.size w _:=bset' (bset' (bset' (bset' HB1 (b:=w1.heap.size) (o:=0) (by omega) (Value.bool T.w)) (b:=w1.heap.size) (o:=1) (by omega) (Value.int .i64 T.g)) (b:=w1.heap.size) (o:=2) (by omega) (Value.int .i64 T.s)) (b:=w1.heap.size) (o:=3) (by omega) (Value.int .i64 T.p);refine(HF.out _ (hl.later HB2)).mono ?_;rintro e' w3 ⟨rfl,HB3⟩;obtain⟨⟨r0,r1,r2,r3⟩,⟨x0,x1,x2,x3⟩⟩:=zep HB3 ⟨s0,s1⟩;obtain⟨⟨t0,t1,t2,t3⟩,⟨y0',y1',y2',y3'⟩⟩:=zep (b:=w.heap.size+1) HB3 ⟨⟨(hq 0).trans q0,(hq 1).trans q1,(hq 2).trans q2,(hq 3).trans q3⟩,⟨(he 0).trans e0,(he 1).trans e1,(he 2).trans e2,(he 3).trans e3⟩⟩;have HB4:Below w.heap.size w w3:=zb HB2 HB3
 replace c1:=cell_later' HB4 c1
 replace c2:=cell_later' HB4 c2
 have l1:b<w3.heap.size:=zg c1;have z3:w1.heap.size<w3.heap.size:=zg r0;have z4:w.heap.size+1<w3.heap.size:=zg t0;have hne1:¬b=w.heap.size+1:=by omega
 have hne2:¬b=w1.heap.size:=by omega
 have hne3:¬w.heap.size+1=w1.heap.size:=by omega
 have hne4:¬w1.heap.size=w.heap.size+1:=by omega
 have hne5:¬w1.heap.size=b:=by omega
 have hne6:¬w.heap.size+1=b:=by omega
 clear p0 p1 p2 p3 k0 k1 k2 k3 q0 q1 q2 q3 e0 e1 e2 e3 s0 s1 s2 s3 s4 hq he HB2 HB3 HB HB1 HB0 y0 z1 l0 hl HG HE HF;go_wp2_with fail
 go_region
 go_wp2_with fail
 go_region
 go_wp2;refine bodyPost_ret (v:=.tuple #[.int .i64 i,Tn.val ⟨T.w,T.g,T.s,l[i].f+l[i].m⟩]) ?_ rfl ⟨rfl,by(with_reducible repeat first|exact Below.refl _ _|refine zc ?_ _|refine zd ?_|refine bset' ?_ (by omega) _|refine zb ?_ (by assumption))⟩
 simp[results,Tryz.results56,go_sem,t0,t1,t2,t3]
def zbl(w:World)(b:Nat)(a0 a1 a2 a3:Value):Prop :=
 (w.cell? ⟨b,0,none⟩=some a0∧w.cell? ⟨b,1,none⟩=some a1∧w.cell? ⟨b,2,none⟩=some a2∧w.cell? ⟨b,3,none⟩=some a3)∧(w.frozen? ⟨b,0,none⟩=false∧w.frozen? ⟨b,1,none⟩=false∧w.frozen? ⟨b,2,none⟩=false∧w.frozen? ⟨b,3,none⟩=false)
section
variable{w w':World}{b b' o:Nat}{a0 a1 a2 a3:Value}
theorem zbl.later(h:zbl w b a0 a1 a2 a3)(hb:Below w.heap.size w w'):zbl w' b a0 a1 a2 a3:=zep hb h
theorem zbl.other(h:zbl w b a0 a1 a2 a3)(hne:b ≠ b')(v:Value):zbl (w.setCell ⟨b',o,none⟩ v) b a0 a1 a2 a3:=by
 obtain⟨⟨c0,c1,c2,c3⟩,⟨f0,f1,f2,f3⟩⟩:=h;refine⟨⟨?_,?_,?_,?_⟩,⟨?_,?_,?_,?_⟩⟩
 all_goals first|(rw[zV (Or.inl hne)];assumption)|(rw[World.frozen?_setCell];assumption)
theorem zbl.set0(h:zbl w b a0 a1 a2 a3)(v:Value):zbl (w.setCell ⟨b,0,none⟩ v) b v a1 a2 a3:=by
 obtain⟨⟨c0,c1,c2,c3⟩,⟨f0,f1,f2,f3⟩⟩:=h;refine⟨⟨World.cell?_setCell_same _ _ _ c0,?_,?_,?_⟩,⟨?_,?_,?_,?_⟩⟩
 all_goals first|(rw[zV (Or.inr (by decide))];assumption)|(rw[World.frozen?_setCell];assumption)
theorem zbl.set2(h:zbl w b a0 a1 a2 a3)(v:Value):zbl (w.setCell ⟨b,2,none⟩ v) b a0 a1 v a3:=by
 obtain⟨⟨c0,c1,c2,c3⟩,⟨f0,f1,f2,f3⟩⟩:=h;refine⟨⟨?_,?_,World.cell?_setCell_same _ _ _ c2,?_⟩,⟨?_,?_,?_,?_⟩⟩
 all_goals first|(rw[zV (Or.inr (by decide))];assumption)|(rw[World.frozen?_setCell];assumption)
end
theorem zmC(l:List Rq)(a:Option Addr)(c:Nat)(b':Bool)(w:World)(hl:zs w a l) :
  Calls Tryz.prog 95 #[.slice a l.length c,.bool b'] w fun e w'=>e=.returned (.int .i64 (zax (zdC b') Rq.born l l.length))∧Below w.heap.size w w':=by
 have hb3:=hl.2.2
 rcases hl.form with rfl|⟨b,o,rfl⟩
 ·go_enter Tryz.func95,Tryz.ntmps95;go_wp2
  go_loop [5,6] (fun bi i=>i=.int .i64 0∧bi=.int .i64 (-1)) (fun _ _=>0)
  case atStart=>exact⟨rfl,rfl⟩
  case round =>
   obtain⟨rfl,rfl⟩:=hrel;go_wp2;go_ret;exact⟨rfl,by(with_reducible repeat first|exact Below.refl _ _|refine zc ?_ _|refine zd ?_|refine bset' ?_ (by omega) _|refine zb ?_ (by assumption))⟩
 go_enter Tryz.func95,Tryz.ntmps95;go_wp2
 go_loopw[5,6] (fun bi i wr=>∃(k:Nat) (B:Int),k≤l.length∧i=.int .i64 k∧bi=.int .i64 B∧zax (zdC b') Rq.born l k=B∧(B=-1∨∃j:Nat,B=j∧j<k)∧Below w.heap.size w wr) (fun _ i _=>l.length-(intOf i).toNat)
 case atStart=>exact⟨0,-1,by omega,rfl,rfl,rfl,Or.inl rfl,Below.refl _ _⟩
 case round =>
  obtain⟨k,B,hk,rfl,rfl,hB,hcase,HB⟩:=hrel;have HL:Hid (zax (zdC b') Rq.born l k=B):=hB;clear hB
  by_cases hlt:k<l.length
  ·obtain⟨c0,c1,c2,c3,c4,c5⟩:=hl.cells hlt;have l0:=zg c0;obtain⟨hc,hf,hz⟩:=zu HB
   cases hff:(l[k].wr==b')
   ·have hcase':=hcase;clear hcase;go_wp2_with fail;refine zj (by first|exact HB|exact zd HB|exact Below.refl _ _) (by kernel_rfl) (by kernel_rfl) ?_
    repeat(go_big_quiet_step (exact rfl))
    refine wpQuiet_nil ?_;intro _ hw';obtain⟨p,hw''⟩:=hw';subst hw'';(try clear hc hf hz);(try clear HB);have HB:=p.below;obtain⟨hc,hf,hz⟩:=zu HB;go_wp2;go_roundw
    case rel=>exact⟨k+1,B,by omega,by go_num,rfl,zdm hlt (hff) HL.out,hcase'.elim (fun h=>Or.inl h) (fun⟨j,h,hj⟩=>Or.inr ⟨j,h,by omega⟩),HB⟩
    case measure=>simp[intOf];omega
   ·have hff':zdC b' l[k]=true:=hff
    rcases hcase with rfl|⟨j,rfl,hj⟩
    ·go_wp2_with fail;refine zj (by first|exact HB|exact zd HB|exact Below.refl _ _) (by kernel_rfl) (by kernel_rfl) ?_
     repeat(go_big_quiet_step (exact rfl))
     refine wpQuiet_nil ?_;intro _ hw';obtain⟨p,hw''⟩:=hw';subst hw'';(try clear hc hf hz);(try clear HB);have HB:=p.below;obtain⟨hc,hf,hz⟩:=zu HB;go_wp2;go_roundw
     case rel=>exact⟨k+1,k,by omega,by go_num,rfl,zc4 hlt (hff') HL.out,Or.inr ⟨k,rfl,by omega⟩,HB⟩
     case measure=>simp[intOf];omega
    ·have hjl:j<l.length:=by omega
     have hj0:decide ((j:Int)<0)=false:=decide_eq_false (by omega);obtain⟨d0,d1,d2,d3,d4,d5⟩:=hl.cells hjl
     by_cases hR:Rq.born l[k]<Rq.born l[j]
     ·go_wp2_with fail;refine zj (by first|exact HB|exact zd HB|exact Below.refl _ _) (by kernel_rfl) (by kernel_rfl) ?_
      repeat(go_big_quiet_step (exact rfl))
      refine wpQuiet_nil ?_;intro _ hw';obtain⟨p,hw''⟩:=hw';subst hw'';(try clear hc hf hz);(try clear HB);have HB:=p.below;obtain⟨hc,hf,hz⟩:=zu HB;go_wp2;go_roundw
      case rel=>exact⟨k+1,k,by omega,by go_num,rfl,zeK hlt hjl (hff') HL.out hR,Or.inr ⟨k,rfl,by omega⟩,HB⟩
      case measure=>simp[intOf];omega
     ·go_wp2_with fail;refine zj (by first|exact HB|exact zd HB|exact Below.refl _ _) (by kernel_rfl) (by kernel_rfl) ?_
      repeat(go_big_quiet_step (exact rfl))
      refine wpQuiet_nil ?_;intro _ hw';obtain⟨p,hw''⟩:=hw';subst hw'';(try clear hc hf hz);(try clear HB);have HB:=p.below;obtain⟨hc,hf,hz⟩:=zu HB;go_wp2;go_roundw
      case rel=>exact⟨k+1,j,by omega,by go_num,rfl,zeQ hlt hjl (hff') HL.out (by omega),Or.inr ⟨j,rfl,by omega⟩,HB⟩
      case measure=>simp[intOf];omega
  ·go_wp2;go_ret;exact⟨zbs (by rw[show l.length=k by omega];exact HL.out.symm),by(with_reducible repeat first|exact Below.refl _ _|refine zc ?_ _|refine zd ?_|refine bset' ?_ (by omega) _|refine zb ?_ (by assumption))⟩
theorem zoV(l:List Rq)(a:Option Addr)(c:Nat)(b':Bool)(a':Int)(w:World)(hl:zs w a l) :
  Calls Tryz.prog 94 #[.slice a l.length c,.bool b',.int .i64 a'] w fun e w'=>e=.returned (.int .i64 (zax (zbM b' a') Rq.f l l.length))∧Below w.heap.size w w':=by
 have hb3:=hl.2.2
 rcases hl.form with rfl|⟨b,o,rfl⟩
 ·go_enter Tryz.func94,Tryz.ntmps94;go_wp2
  go_loop [7,8] (fun bi i=>i=.int .i64 0∧bi=.int .i64 (-1)) (fun _ _=>0)
  case atStart=>exact⟨rfl,rfl⟩
  case round =>
   obtain⟨rfl,rfl⟩:=hrel;go_wp2;go_ret;exact⟨rfl,by(with_reducible repeat first|exact Below.refl _ _|refine zc ?_ _|refine zd ?_|refine bset' ?_ (by omega) _|refine zb ?_ (by assumption))⟩
 go_enter Tryz.func94,Tryz.ntmps94;go_wp2
 go_loopw[7,8] (fun bi i wr=>∃(k:Nat) (B:Int),k≤l.length∧i=.int .i64 k∧bi=.int .i64 B∧zax (zbM b' a') Rq.f l k=B∧(B=-1∨∃j:Nat,B=j∧j<k)∧Below w.heap.size w wr) (fun _ i _=>l.length-(intOf i).toNat)
 case atStart=>exact⟨0,-1,by omega,rfl,rfl,rfl,Or.inl rfl,Below.refl _ _⟩
 case round =>
  obtain⟨k,B,hk,rfl,rfl,hB,hcase,HB⟩:=hrel;have HL:Hid (zax (zbM b' a') Rq.f l k=B):=hB;clear hB
  by_cases hlt:k<l.length
  ·obtain⟨c0,c1,c2,c3,c4,c5⟩:=hl.cells hlt;have l0:=zg c0;obtain⟨hc,hf,hz⟩:=zu HB
   by_cases hw:l[k].wr=b'
   ·by_cases hlo:l[k].f<a'
    ·have hcase':=hcase;clear hcase;go_wp2;go_roundw
     case rel=>exact⟨k+1,B,by omega,by go_num,rfl,zdm hlt (by simp only[zbM];rw[decide_eq_false (by omega),Bool.and_false]) HL.out,hcase'.elim (fun h=>Or.inl h) (fun⟨j,h,hj⟩=>Or.inr ⟨j,h,by omega⟩),HB⟩
     case measure=>simp[intOf];omega
    ·have hff':zbM b' a' l[k]=true:=by
      simp only[zbM,hw,beq_self_eq_true,Bool.true_and,decide_eq_true_eq];omega
     have HF:Hid (zbM b' a' l[k]=true):=hff';clear hff'
     rcases hcase with rfl|⟨j,rfl,hj⟩
     ·go_wp2_with fail;refine zj (by first|exact HB|exact zd HB|exact Below.refl _ _) (by kernel_rfl) (by kernel_rfl) ?_
      repeat(go_big_quiet_step (exact rfl))
      refine wpQuiet_nil ?_;intro _ hw';obtain⟨p,hw''⟩:=hw';subst hw'';(try clear hc hf hz);(try clear HB);have HB:=p.below;obtain⟨hc,hf,hz⟩:=zu HB;go_wp2;go_roundw
      case rel=>exact⟨k+1,k,by omega,by go_num,rfl,zc4 hlt (HF.out) HL.out,Or.inr ⟨k,rfl,by omega⟩,HB⟩
      case measure=>simp[intOf];omega
     ·have hjl:j<l.length:=by omega
      have hj0:decide ((j:Int)<0)=false:=decide_eq_false (by omega);obtain⟨d0,d1,d2,d3,d4,d5⟩:=hl.cells hjl
      by_cases hR:Rq.f l[k]<Rq.f l[j]
      ·go_wp2_with fail;refine zj (by first|exact HB|exact zd HB|exact Below.refl _ _) (by kernel_rfl) (by kernel_rfl) ?_
       repeat(go_big_quiet_step (exact rfl))
       refine wpQuiet_nil ?_;intro _ hw';obtain⟨p,hw''⟩:=hw';subst hw'';(try clear hc hf hz);(try clear HB);have HB:=p.below;obtain⟨hc,hf,hz⟩:=zu HB;go_wp2;go_roundw
       case rel=>exact⟨k+1,k,by omega,by go_num,rfl,zeK hlt hjl (HF.out) HL.out hR,Or.inr ⟨k,rfl,by omega⟩,HB⟩
       case measure=>simp[intOf];omega
      ·go_wp2_with fail;refine zj (by first|exact HB|exact zd HB|exact Below.refl _ _) (by kernel_rfl) (by kernel_rfl) ?_
       repeat(go_big_quiet_step (exact rfl))
       refine wpQuiet_nil ?_;intro _ hw';obtain⟨p,hw''⟩:=hw';subst hw'';(try clear hc hf hz);(try clear HB);have HB:=p.below;obtain⟨hc,hf,hz⟩:=zu HB;go_wp2;go_roundw
       case rel=>exact⟨k+1,j,by omega,by go_num,rfl,zeQ hlt hjl (HF.out) HL.out (by omega),Or.inr ⟨j,rfl,by omega⟩,HB⟩
       case measure=>simp[intOf];omega
   ·have hcase':=hcase;clear hcase;go_wp2;go_roundw
    case rel=>exact⟨k+1,B,by omega,by go_num,rfl,zdm hlt (by simp only[zbM];rw[beq_eq_false_iff_ne.2 hw,Bool.false_and]) HL.out,hcase'.elim (fun h=>Or.inl h) (fun⟨j,h,hj⟩=>Or.inr ⟨j,h,by omega⟩),HB⟩
    case measure=>simp[intOf];omega
  ·go_wp2;go_ret;exact⟨zbs (by rw[show l.length=k by omega];exact HL.out.symm),by(with_reducible repeat first|exact Below.refl _ _|refine zc ?_ _|refine zd ?_|refine bset' ?_ (by omega) _|refine zb ?_ (by assumption))⟩
theorem zcY(l:List Rq)(a:Option Addr)(c:Nat)(b:Bool)(w:World)(hl:zs w a l)(n:Int)(hn:zah b l=n) :
  Calls Tryz.prog 95 #[.slice a l.length c,.bool b] w fun e w'=>e=.returned (.int .i64 n)∧Below w.heap.size w w':=by
 subst hn;exact zmC l a c b w hl
theorem zcQ(l:List Rq)(a:Option Addr)(c:Nat)(b:Bool)(a':Int)(w:World)(hl:zs w a l)(n:Int)(hn:frI b a' l=n) :
  Calls Tryz.prog 94 #[.slice a l.length c,.bool b,.int .i64 a'] w fun e w'=>e=.returned (.int .i64 n)∧Below w.heap.size w w':=by
 subst hn;exact zoV l a c b a' w hl
theorem zmw(l:List Rq)(b o:Nat)(c:Nat)(t:Tn)(now:Int)(w:World)(hl:zs w (some ⟨b,o,none⟩) l)(g1:(t.g==1)=false)(g2:(t.g==2)=false)
  (hs:-9223372036854775808≤t.s) (n1 n2:Int) (h1:zah false l=n1) (h2:zah true l=n2) (b1 b2:Bool) (d1:decide (0≤n1)=b1) (d2:decide (0≤n2)=b2) (TW:Bool) (TS:Int) (hTW:(zZ b1 b2 t).w=TW) (hTS:(zZ b1 b2 t).s=TS) (i0:Nat) (hi0:i0<l.length) (hO:zah TW l=i0) (i:Nat) (hi:i<l.length)
  (n0:0≤now) (n3:now≤1000000000) (b0:0≤l[i0].born) (b3:l[i0].born≤1000000000) (f0:0≤l[i].f) (f1:l[i].f≤31) (m0:1≤l[i].m) (m1:l[i].m≤32)
  (hway:(zbK TW≤now-l[i0].born∧i=i0)∨(now-l[i0].born<zbK TW∧(frI TW t.p l=i∨(frI TW t.p l=-1∧frI TW 0 l=i)))) :
  Calls Tryz.prog 59 #[.slice (some ⟨b,o,none⟩) l.length c,t.val,.int .i64 now] w fun e w'=>e=.returned (.tuple #[.int .i64 i,Tn.val ⟨TW,1,TS,l[i].f+l[i].m⟩])∧Below w.heap.size w w':=by
 have hb3:=hl.2.2;obtain⟨c0,c1,c2,c3,c4,c5⟩:=hl.cells hi;have l0:=zg c0;have H1:Hid (zah false l=n1):=h1;have H2:Hid (zah true l=n2):=h2;have H3:Hid (zah TW l=i0):=hO;have HW:Hid ((zbK TW≤now-l[i0].born∧i=i0)∨(now-l[i0].born<zbK TW∧(frI TW t.p l=i∨(frI TW t.p l=-1∧frI TW 0 l=i)))):=hway;have HT:Hid ((zZ b1 b2 t).w=TW∧(zZ b1 b2 t).s=TS):=⟨hTW,hTS⟩
 clear h1 h2 hO hway hTW hTS;go_enter Tryz.func59,Tryz.ntmps59;go_wp2_with fail;refine(zcY l _ c _ _ (hl.later (by(with_reducible repeat first|exact Below.refl _ _|refine zc ?_ _|refine zd ?_|refine bset' ?_ (by omega) _|refine zb ?_ (by assumption)))) n1 H1.out).mono ?_;rintro e w1 ⟨rfl,HB⟩;go_wp2_with fail;refine(zcY l _ c _ _ (hl.later (by(with_reducible repeat first|exact Below.refl _ _|refine zc ?_ _|refine zd ?_|refine bset' ?_ (by omega) _|refine zb ?_ (by assumption)))) n2 H2.out).mono ?_;rintro e w2 ⟨rfl,hb⟩
 replace HB:=zb HB hb
 clear hb;obtain⟨⟨p0,p1,p2,p3⟩,⟨k0,k1,k2,k3⟩,q,e,z0,z1⟩:=zet HB;have HB0:Below w.heap.size w w2:=by(with_reducible repeat first|exact Below.refl _ _|refine zc ?_ _|refine zd ?_|refine bset' ?_ (by omega) _|refine zb ?_ (by assumption))
 have F1:zbl w2 w.heap.size (.bool t.w) (.int .i64 t.g) (.int .i64 t.s) (.int .i64 t.p):=⟨⟨p0,p1,p2,p3⟩,⟨k0,k1,k2,k3⟩⟩
 have F2:zbl w2 (w.heap.size+1) (.bool false) (.int .i64 0) (.int .i64 0) (.int .i64 0):=⟨q,e⟩
 clear q e
 go_upto_if 56 with(fail)
 go_cut[9] (fun s9 wx=>s9=.bool b1∧Below w.heap.size w wx∧zbl wx w.heap.size (.bool TW) (.int .i64 t.g) (.int .i64 TS) (.int .i64 t.p)∧zbl wx (w.heap.size+1) (.bool false) (.int .i64 0) (.int .i64 0) (.int .i64 0))
 case first =>
  obtain⟨t1,t2⟩:=HT.out;clear HT H1 H2 H3 HW
  cases b2
  ·obtain rfl:false=TW:=t1;obtain rfl:t.s=TS:=t2;go_wp2
   go_meet
   case rel=>exact⟨rfl,by(with_reducible repeat first|exact Below.refl _ _|refine zc ?_ _|refine zd ?_|refine bset' ?_ (by omega) _|refine zb ?_ (by assumption)),F1.set0 _,F2.other (by omega) _⟩
  ·cases b1
   ·obtain rfl:true=TW:=t1;obtain rfl:0=TS:=t2;go_wp2
    go_meet
    case rel=>exact⟨rfl,by(with_reducible repeat first|exact Below.refl _ _|refine zc ?_ _|refine zd ?_|refine bset' ?_ (by omega) _|refine zb ?_ (by assumption)),(F1.set0 _).set2 _,(F2.other (by omega) _).other (by omega) _⟩
   ·by_cases hst:2≤t.s
    ·have e1:zZ true true t=⟨true,1,0,t.p⟩:=by simp[zZ,hst]
     rw[e1] at t1 t2;subst t1 t2;clear e1;go_wp2
     go_meet
     case rel=>exact⟨rfl,by(with_reducible repeat first|exact Below.refl _ _|refine zc ?_ _|refine zd ?_|refine bset' ?_ (by omega) _|refine zb ?_ (by assumption)),(F1.set0 _).set2 _,(F2.other (by omega) _).other (by omega) _⟩
    ·have e1:zZ true true t=⟨false,1,t.s+1,t.p⟩:=by simp[zZ,hst]
     rw[e1] at t1 t2;subst t1 t2;clear e1;go_wp2
     go_meet
     case rel=>exact⟨rfl,by(with_reducible repeat first|exact Below.refl _ _|refine zc ?_ _|refine zd ?_|refine bset' ?_ (by omega) _|refine zb ?_ (by assumption)),(F1.set0 _).set2 _,(F2.other (by omega) _).other (by omega) _⟩
 case rest =>
  obtain⟨rfl,HBc,G1,G2⟩:=hcut;have H3':=H3.out;have HW':=HW.out;clear HT H1 H2 H3 HW F1 F2 p0 p1 p2 p3 k0 k1 k2 k3 HB HB0 z0 z1 d1 d2 c0 c3 c4 c5;have H3:Hid (zah TW l=i0):=H3';clear H3';obtain⟨_,d1,d2,_,_,d5⟩:=hl.cells hi0;have ll0:=zg c1;obtain⟨⟨x0,x1,x2,x3⟩,⟨y0,y1,y2,y3⟩⟩:=id G1;go_wp2_with fail;refine(zcY l _ c _ _ (hl.later HBc) _ H3.out).mono ?_;rintro e w3 ⟨rfl,hb⟩;clear x0 x1 x2 x3 y0 y1 y2 y3
  replace G1:=G1.later hb
  replace G2:=G2.later hb
  replace HBc:=zb HBc hb
  clear hb
  replace d5:=cell_later' HBc d5
  rcases HW' with⟨hw1,rfl⟩|⟨hw1,hw2⟩
  ·clear d1 d2
   cases TW
   all_goals
    simp only[zbK,if_true,if_false,Bool.false_eq_true] at hw1;obtain⟨⟨x0,x1,x2,x3⟩,⟨y0,y1,y2,y3⟩⟩:=G1;obtain⟨⟨r0,r1,r2,r3⟩,⟨s0,s1,s2,s3⟩⟩:=G2
    replace c1:=cell_later' HBc c1
    replace c2:=cell_later' HBc c2
    have l1:=zg c1;have l2:=zg x0;have l3:=zg r0;have hne1:¬b=w.heap.size+1:=by omega
    have hne2:¬b=w.heap.size:=by omega
    have hne3:¬w.heap.size=b:=by omega
    have hne4:¬w.heap.size+1=b:=by omega
    go_wp2_with fail
    go_region
    go_wp2_with fail
    go_region
    go_wp2;refine bodyPost_ret (v:=.tuple #[.int .i64 i,Tn.val ⟨_,1,TS,l[i].f+l[i].m⟩]) ?_ rfl ⟨rfl,by(with_reducible repeat first|exact Below.refl _ _|refine zc ?_ _|refine zd ?_|refine bset' ?_ (by omega) _|refine zb ?_ (by assumption))⟩
    simp[results,Tryz.results59,go_sem,r0,r1,r2,r3]
  ·rcases hw2 with hw2|⟨hw2,hw3⟩
   ·have HK:Hid (frI TW t.p l=i):=hw2;clear hw2 d1 d2;have hii:decide ((i:Int)<0)=false:=decide_eq_false (by omega)
    cases TW
    all_goals
     simp only[zbK,if_true,if_false,Bool.false_eq_true] at hw1;obtain⟨⟨x0,x1,x2,x3⟩,⟨y0,y1,y2,y3⟩⟩:=id G1;go_wp2_with fail;refine(zcQ l _ c _ _ _ (hl.later HBc) _ HK.out).mono ?_;rintro e w4 ⟨rfl,hb⟩;clear x0 x1 x2 x3 y0 y1 y2 y3 d5
     replace G1:=G1.later hb
     replace G2:=G2.later hb
     replace HBc:=zb HBc hb
     clear hb;obtain⟨⟨x0,x1,x2,x3⟩,⟨y0,y1,y2,y3⟩⟩:=G1;obtain⟨⟨r0,r1,r2,r3⟩,⟨s0,s1,s2,s3⟩⟩:=G2
     replace c1:=cell_later' HBc c1
     replace c2:=cell_later' HBc c2
     have l1:=zg c1;have l2:=zg x0;have l3:=zg r0;have hne1:¬b=w.heap.size+1:=by omega
     have hne2:¬b=w.heap.size:=by omega
     have hne3:¬w.heap.size=b:=by omega
     have hne4:¬w.heap.size+1=b:=by omega
     go_wp2_with fail
     go_region
     go_wp2_with fail
     go_region
     go_wp2;refine bodyPost_ret (v:=.tuple #[.int .i64 i,Tn.val ⟨_,1,TS,l[i].f+l[i].m⟩]) ?_ rfl ⟨rfl,by(with_reducible repeat first|exact Below.refl _ _|refine zc ?_ _|refine zd ?_|refine bset' ?_ (by omega) _|refine zb ?_ (by assumption))⟩
     simp[results,Tryz.results59,go_sem,r0,r1,r2,r3]
   ·have HK:Hid (frI TW t.p l=-1):=hw2;have HK2:Hid (frI TW 0 l=i):=hw3;clear hw2 hw3 d1 d2
    cases TW
    all_goals
     simp only[zbK,if_true,if_false,Bool.false_eq_true] at hw1;obtain⟨⟨x0,x1,x2,x3⟩,⟨y0,y1,y2,y3⟩⟩:=id G1;go_wp2_with fail;refine(zcQ l _ c _ _ _ (hl.later HBc) _ HK.out).mono ?_;rintro e w4 ⟨rfl,hb⟩;clear x0 x1 x2 x3 y0 y1 y2 y3 d5
     replace G1:=G1.later hb
     replace G2:=G2.later hb
     replace HBc:=zb HBc hb
     clear hb;obtain⟨⟨x0,x1,x2,x3⟩,⟨y0,y1,y2,y3⟩⟩:=id G1;go_wp2_with fail;refine(zcQ l _ c _ _ _ (hl.later HBc) _ HK2.out).mono ?_;rintro e w5 ⟨rfl,hb⟩;clear x0 x1 x2 x3 y0 y1 y2 y3
     replace G1:=G1.later hb
     replace G2:=G2.later hb
     replace HBc:=zb HBc hb
     clear hb;obtain⟨⟨x0,x1,x2,x3⟩,⟨y0,y1,y2,y3⟩⟩:=G1;obtain⟨⟨r0,r1,r2,r3⟩,⟨s0,s1,s2,s3⟩⟩:=G2
     replace c1:=cell_later' HBc c1
     replace c2:=cell_later' HBc c2
     have l1:=zg c1;have l2:=zg x0;have l3:=zg r0;have hne1:¬b=w.heap.size+1:=by omega
     have hne2:¬b=w.heap.size:=by omega
     have hne3:¬w.heap.size=b:=by omega
     have hne4:¬w.heap.size+1=b:=by omega
     go_wp2_with fail
     go_region
     go_wp2_with fail
     go_region
     go_wp2;refine bodyPost_ret (v:=.tuple #[.int .i64 i,Tn.val ⟨_,1,TS,l[i].f+l[i].m⟩]) ?_ rfl ⟨rfl,by(with_reducible repeat first|exact Below.refl _ _|refine zc ?_ _|refine zd ?_|refine bset' ?_ (by omega) _|refine zb ?_ (by assumption))⟩
     simp[results,Tryz.results59,go_sem,r0,r1,r2,r3]
theorem zra(l:List Rq)(b o:Nat)(c:Nat)(t:Tn)(now:Int)(w:World)(hl:zs w (some ⟨b,o,none⟩) l)(x:Bool)(g1:(t.g==1)=x)(g2:(t.g==2)=!x)(g3:0<t.g)(g4:t.g<3)(i:Nat)(hi:i<l.length)(h1:frI t.w t.p l=i)
  (f0:0≤l[i].f) (f1:l[i].f≤31) (m0:1≤l[i].m) (m1:l[i].m≤32) :
  Calls Tryz.prog 59 #[.slice (some ⟨b,o,none⟩) l.length c,t.val,.int .i64 now] w fun e w'=>e=.returned (.tuple #[.int .i64 i,Tn.val ⟨t.w,t.g+1,t.s,l[i].f+l[i].m⟩])∧Below w.heap.size w w':=by
 have hb3:=hl.2.2;have hi0:decide ((0:Int)≤(i:Int))=true:=decide_eq_true (by omega);obtain⟨c0,c1,c2,c3,c4,c5⟩:=hl.cells hi;have l0:=zg c0;have HX:Hid (frI t.w t.p l=i):=h1;clear h1 c0 c3 c4 c5
 cases x
 all_goals
  simp only[Bool.not_true,Bool.not_false] at g2;go_enter Tryz.func59,Tryz.ntmps59;go_wp2_with fail;refine(zcQ l _ c _ _ _ (hl.later (by(with_reducible repeat first|exact Below.refl _ _|refine zc ?_ _|refine zd ?_|refine bset' ?_ (by omega) _|refine zb ?_ (by assumption)))) _ HX.out).mono ?_;rintro e w1 ⟨rfl,HB⟩;have HBc:Below w.heap.size w w1:=by(with_reducible repeat first|exact Below.refl _ _|refine zc ?_ _|refine zd ?_|refine bset' ?_ (by omega) _|refine zb ?_ (by assumption))
  obtain⟨⟨x0,x1,x2,x3⟩,⟨y0,y1,y2,y3⟩,⟨r0,r1,r2,r3⟩,⟨s0,s1,s2,s3⟩,z0,z1⟩:=zet HB;clear HB
  replace c1:=cell_later' HBc c1
  replace c2:=cell_later' HBc c2
  have l1:=zg c1;have hne1:¬b=w.heap.size+1:=by omega
  have hne2:¬b=w.heap.size:=by omega
  have hne3:¬w.heap.size=b:=by omega
  have hne4:¬w.heap.size+1=b:=by omega
  go_wp2_with fail
  go_region
  go_wp2_with fail
  go_region
  go_wp2;refine bodyPost_ret (v:=.tuple #[.int .i64 i,Tn.val ⟨t.w,t.g+1,t.s,l[i].f+l[i].m⟩]) ?_ rfl ⟨rfl,by(with_reducible repeat first|exact Below.refl _ _|refine zc ?_ _|refine zd ?_|refine bset' ?_ (by omega) _|refine zb ?_ (by assumption))⟩
  simp[results,Tryz.results59,go_sem,r0,r1,r2,r3]
theorem znL(l:List Rq)(b o:Nat)(c:Nat)(t:Tn)(now:Int)(w:World)(hl:zs w (some ⟨b,o,none⟩) l)(x:Bool)(g1:(t.g==1)=x)(g2:(t.g==2)=!x)(hfr:frI t.w t.p l=-1)
  (hs:-9223372036854775808≤t.s) (n1 n2:Int) (h1:zah false l=n1) (h2:zah true l=n2) (b1 b2:Bool) (d1:decide (0≤n1)=b1) (d2:decide (0≤n2)=b2) (TW:Bool) (TS:Int) (hTW:(zZ b1 b2 t).w=TW) (hTS:(zZ b1 b2 t).s=TS) (i0:Nat) (hi0:i0<l.length) (hO:zah TW l=i0) (i:Nat) (hi:i<l.length)
  (n0:0≤now) (n3:now≤1000000000) (b0:0≤l[i0].born) (b3:l[i0].born≤1000000000) (f0:0≤l[i].f) (f1:l[i].f≤31) (m0:1≤l[i].m) (m1:l[i].m≤32)
  (hway:(zbK TW≤now-l[i0].born∧i=i0)∨(now-l[i0].born<zbK TW∧(frI TW t.p l=i∨(frI TW t.p l=-1∧frI TW 0 l=i)))) :
  Calls Tryz.prog 59 #[.slice (some ⟨b,o,none⟩) l.length c,t.val,.int .i64 now] w fun e w'=>e=.returned (.tuple #[.int .i64 i,Tn.val ⟨TW,1,TS,l[i].f+l[i].m⟩])∧Below w.heap.size w w':=by
 have hb3:=hl.2.2;obtain⟨c0,c1,c2,c3,c4,c5⟩:=hl.cells hi;have l0:=zg c0;have H1:Hid (zah false l=n1):=h1;have H2:Hid (zah true l=n2):=h2;have H3:Hid (zah TW l=i0):=hO;have HW:Hid ((zbK TW≤now-l[i0].born∧i=i0)∨(now-l[i0].born<zbK TW∧(frI TW t.p l=i∨(frI TW t.p l=-1∧frI TW 0 l=i)))):=hway;have HT:Hid ((zZ b1 b2 t).w=TW∧(zZ b1 b2 t).s=TS):=⟨hTW,hTS⟩
 clear h1 h2 hO hway hTW hTS;have HX:Hid (frI t.w t.p l=-1):=hfr;clear hfr
 cases x
 all_goals
  simp only[Bool.not_true,Bool.not_false] at g2;go_enter Tryz.func59,Tryz.ntmps59;go_wp2_with fail;refine(zcQ l _ c _ _ _ (hl.later (by(with_reducible repeat first|exact Below.refl _ _|refine zc ?_ _|refine zd ?_|refine bset' ?_ (by omega) _|refine zb ?_ (by assumption)))) _ HX.out).mono ?_;rintro e wf ⟨rfl,HF⟩;go_wp2_with fail;refine(zcY l _ c _ _ (hl.later (by(with_reducible repeat first|exact Below.refl _ _|refine zc ?_ _|refine zd ?_|refine bset' ?_ (by omega) _|refine zb ?_ (by assumption)))) n1 H1.out).mono ?_;rintro e w1 ⟨rfl,hb⟩;have HB:=zb HF hb;clear hb;go_wp2_with fail;refine(zcY l _ c _ _ (hl.later (by(with_reducible repeat first|exact Below.refl _ _|refine zc ?_ _|refine zd ?_|refine bset' ?_ (by omega) _|refine zb ?_ (by assumption)))) n2 H2.out).mono ?_;rintro e w2 ⟨rfl,hb⟩
  replace HB:=zb HB hb
  clear hb;obtain⟨⟨p0,p1,p2,p3⟩,⟨k0,k1,k2,k3⟩,q,e,z0,z1⟩:=zet HB;have HB0:Below w.heap.size w w2:=by(with_reducible repeat first|exact Below.refl _ _|refine zc ?_ _|refine zd ?_|refine bset' ?_ (by omega) _|refine zb ?_ (by assumption))
  have F1:zbl w2 w.heap.size (.bool t.w) (.int .i64 t.g) (.int .i64 t.s) (.int .i64 t.p):=⟨⟨p0,p1,p2,p3⟩,⟨k0,k1,k2,k3⟩⟩
  have F2:zbl w2 (w.heap.size+1) (.bool false) (.int .i64 0) (.int .i64 0) (.int .i64 0):=⟨q,e⟩
  clear q e
  go_upto_if 56 with(fail)
  go_cut[9] (fun s9 wx=>s9=.bool b1∧Below w.heap.size w wx∧zbl wx w.heap.size (.bool TW) (.int .i64 t.g) (.int .i64 TS) (.int .i64 t.p)∧zbl wx (w.heap.size+1) (.bool false) (.int .i64 0) (.int .i64 0) (.int .i64 0))
  case first =>
   obtain⟨t1,t2⟩:=HT.out;clear HT H1 H2 H3 HW
   cases b2
   ·obtain rfl:false=TW:=t1;obtain rfl:t.s=TS:=t2;go_wp2
    go_meet
    case rel=>exact⟨rfl,by(with_reducible repeat first|exact Below.refl _ _|refine zc ?_ _|refine zd ?_|refine bset' ?_ (by omega) _|refine zb ?_ (by assumption)),F1.set0 _,F2.other (by omega) _⟩
   ·cases b1
    ·obtain rfl:true=TW:=t1;obtain rfl:0=TS:=t2;go_wp2
     go_meet
     case rel=>exact⟨rfl,by(with_reducible repeat first|exact Below.refl _ _|refine zc ?_ _|refine zd ?_|refine bset' ?_ (by omega) _|refine zb ?_ (by assumption)),(F1.set0 _).set2 _,(F2.other (by omega) _).other (by omega) _⟩
    ·by_cases hst:2≤t.s
     ·have e1:zZ true true t=⟨true,1,0,t.p⟩:=by simp[zZ,hst]
      rw[e1] at t1 t2;subst t1 t2;clear e1;go_wp2
      go_meet
      case rel=>exact⟨rfl,by(with_reducible repeat first|exact Below.refl _ _|refine zc ?_ _|refine zd ?_|refine bset' ?_ (by omega) _|refine zb ?_ (by assumption)),(F1.set0 _).set2 _,(F2.other (by omega) _).other (by omega) _⟩
     ·have e1:zZ true true t=⟨false,1,t.s+1,t.p⟩:=by simp[zZ,hst]
      rw[e1] at t1 t2;subst t1 t2;clear e1;go_wp2
      go_meet
      case rel=>exact⟨rfl,by(with_reducible repeat first|exact Below.refl _ _|refine zc ?_ _|refine zd ?_|refine bset' ?_ (by omega) _|refine zb ?_ (by assumption)),(F1.set0 _).set2 _,(F2.other (by omega) _).other (by omega) _⟩
  case rest =>
   obtain⟨rfl,HBc,G1,G2⟩:=hcut;have H3':=H3.out;have HW':=HW.out;clear HT H1 H2 H3 HW F1 F2 p0 p1 p2 p3 k0 k1 k2 k3 HB HB0 z0 z1 d1 d2 c0 c3 c4 c5;have H3:Hid (zah TW l=i0):=H3';clear H3';obtain⟨_,d1,d2,_,_,d5⟩:=hl.cells hi0;have ll0:=zg c1;obtain⟨⟨x0,x1,x2,x3⟩,⟨y0,y1,y2,y3⟩⟩:=id G1;go_wp2_with fail;refine(zcY l _ c _ _ (hl.later HBc) _ H3.out).mono ?_;rintro e w3 ⟨rfl,hb⟩;clear x0 x1 x2 x3 y0 y1 y2 y3
   replace G1:=G1.later hb
   replace G2:=G2.later hb
   replace HBc:=zb HBc hb
   clear hb
   replace d5:=cell_later' HBc d5
   rcases HW' with⟨hw1,rfl⟩|⟨hw1,hw2⟩
   ·clear d1 d2
    cases TW
    all_goals
     simp only[zbK,if_true,if_false,Bool.false_eq_true] at hw1;obtain⟨⟨x0,x1,x2,x3⟩,⟨y0,y1,y2,y3⟩⟩:=G1;obtain⟨⟨r0,r1,r2,r3⟩,⟨s0,s1,s2,s3⟩⟩:=G2
     replace c1:=cell_later' HBc c1
     replace c2:=cell_later' HBc c2
     have l1:=zg c1;have l2:=zg x0;have l3:=zg r0;have hne1:¬b=w.heap.size+1:=by omega
     have hne2:¬b=w.heap.size:=by omega
     have hne3:¬w.heap.size=b:=by omega
     have hne4:¬w.heap.size+1=b:=by omega
     go_wp2_with fail
     go_region
     go_wp2_with fail
     go_region
     go_wp2;refine bodyPost_ret (v:=.tuple #[.int .i64 i,Tn.val ⟨_,1,TS,l[i].f+l[i].m⟩]) ?_ rfl ⟨rfl,by(with_reducible repeat first|exact Below.refl _ _|refine zc ?_ _|refine zd ?_|refine bset' ?_ (by omega) _|refine zb ?_ (by assumption))⟩
     simp[results,Tryz.results59,go_sem,r0,r1,r2,r3]
   ·rcases hw2 with hw2|⟨hw2,hw3⟩
    ·have HK:Hid (frI TW t.p l=i):=hw2;clear hw2 d1 d2;have hii:decide ((i:Int)<0)=false:=decide_eq_false (by omega)
     cases TW
     all_goals
      simp only[zbK,if_true,if_false,Bool.false_eq_true] at hw1;obtain⟨⟨x0,x1,x2,x3⟩,⟨y0,y1,y2,y3⟩⟩:=id G1;go_wp2_with fail;refine(zcQ l _ c _ _ _ (hl.later HBc) _ HK.out).mono ?_;rintro e w4 ⟨rfl,hb⟩;clear x0 x1 x2 x3 y0 y1 y2 y3 d5
      replace G1:=G1.later hb
      replace G2:=G2.later hb
      replace HBc:=zb HBc hb
      clear hb;obtain⟨⟨x0,x1,x2,x3⟩,⟨y0,y1,y2,y3⟩⟩:=G1;obtain⟨⟨r0,r1,r2,r3⟩,⟨s0,s1,s2,s3⟩⟩:=G2
      replace c1:=cell_later' HBc c1
      replace c2:=cell_later' HBc c2
      have l1:=zg c1;have l2:=zg x0;have l3:=zg r0;have hne1:¬b=w.heap.size+1:=by omega
      have hne2:¬b=w.heap.size:=by omega
      have hne3:¬w.heap.size=b:=by omega
      have hne4:¬w.heap.size+1=b:=by omega
      go_wp2_with fail
      go_region
      go_wp2_with fail
      go_region
      go_wp2;refine bodyPost_ret (v:=.tuple #[.int .i64 i,Tn.val ⟨_,1,TS,l[i].f+l[i].m⟩]) ?_ rfl ⟨rfl,by(with_reducible repeat first|exact Below.refl _ _|refine zc ?_ _|refine zd ?_|refine bset' ?_ (by omega) _|refine zb ?_ (by assumption))⟩
      simp[results,Tryz.results59,go_sem,r0,r1,r2,r3]
    ·have HK:Hid (frI TW t.p l=-1):=hw2;have HK2:Hid (frI TW 0 l=i):=hw3;clear hw2 hw3 d1 d2
     cases TW
     all_goals
      simp only[zbK,if_true,if_false,Bool.false_eq_true] at hw1;obtain⟨⟨x0,x1,x2,x3⟩,⟨y0,y1,y2,y3⟩⟩:=id G1;go_wp2_with fail;refine(zcQ l _ c _ _ _ (hl.later HBc) _ HK.out).mono ?_;rintro e w4 ⟨rfl,hb⟩;clear x0 x1 x2 x3 y0 y1 y2 y3 d5
      replace G1:=G1.later hb
      replace G2:=G2.later hb
      replace HBc:=zb HBc hb
      clear hb;obtain⟨⟨x0,x1,x2,x3⟩,⟨y0,y1,y2,y3⟩⟩:=id G1;go_wp2_with fail;refine(zcQ l _ c _ _ _ (hl.later HBc) _ HK2.out).mono ?_;rintro e w5 ⟨rfl,hb⟩;clear x0 x1 x2 x3 y0 y1 y2 y3
      replace G1:=G1.later hb
      replace G2:=G2.later hb
      replace HBc:=zb HBc hb
      clear hb;obtain⟨⟨x0,x1,x2,x3⟩,⟨y0,y1,y2,y3⟩⟩:=G1;obtain⟨⟨r0,r1,r2,r3⟩,⟨s0,s1,s2,s3⟩⟩:=G2
      replace c1:=cell_later' HBc c1
      replace c2:=cell_later' HBc c2
      have l1:=zg c1;have l2:=zg x0;have l3:=zg r0;have hne1:¬b=w.heap.size+1:=by omega
      have hne2:¬b=w.heap.size:=by omega
      have hne3:¬w.heap.size=b:=by omega
      have hne4:¬w.heap.size+1=b:=by omega
      go_wp2_with fail
      go_region
      go_wp2_with fail
      go_region
      go_wp2;refine bodyPost_ret (v:=.tuple #[.int .i64 i,Tn.val ⟨_,1,TS,l[i].f+l[i].m⟩]) ?_ rfl ⟨rfl,by(with_reducible repeat first|exact Below.refl _ _|refine zc ?_ _|refine zd ?_|refine bset' ?_ (by omega) _|refine zb ?_ (by assumption))⟩
      simp[results,Tryz.results59,go_sem,r0,r1,r2,r3]
end Go.Proofs.YtlhgjplipgandaaGreat
