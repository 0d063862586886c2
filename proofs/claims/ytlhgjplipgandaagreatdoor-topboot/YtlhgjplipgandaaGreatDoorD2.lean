/- Joined texts: Elev, Elev2, Elev3. -/
import Derived.BigRegion
import Derived.Test.YtlhgjplipgandaaGreatDoorD1
set_option maxRecDepth 100000
set_option maxHeartbeats 8000000
set_option linter.unusedSimpArgs false
namespace Go.Proofs.YtlhgjplipgandaaGreatDoor
open Go.RowKit Go.BigFrame
attribute [local go_sem] ze.cell ze.frozen
structure Tn where
 w:Bool
 g:Int
 s:Int
 p:Int
abbrev Tn.val(t:Tn):Value:=.agg #[.bool t.w,.int .i64 t.g,.int .i64 t.s,.int .i64 t.p]
def zaa(b:Bool)(l:List Rq):Int:=zaj (zen b) Rq.born l l.length
def frI(b:Bool)(a:Int)(l:List Rq):Int:=zaj (zcJ b a) Rq.f l l.length
theorem zbb(l:List Rq)(a:Option Addr)(c:Nat)(b:Bool)(w:World)(hl:zm w a l)(n:Int)(hn:zaa b l=n) :
 Calls Tryz.prog 177 #[.slice a l.length c,.bool b] w fun e w'=>e=.returned (.int .i64 n)∧Below w.heap.size w w':=by
 subst hn;exact zlG l a c b w hl
theorem zfN(l:List Rq)(a:Option Addr)(c:Nat)(b:Bool)(a':Int)(w:World)(hl:zm w a l)(n:Int)(hn:frI b a' l=n) :
 Calls Tryz.prog 176 #[.slice a l.length c,.bool b,.int .i64 a'] w fun e w'=>e=.returned (.int .i64 n)∧Below w.heap.size w w':=by
 subst hn;exact zn5 l a c b a' w hl
theorem zfM{w w2:World}{a0 a1 a2 a3 b0 b1 b2 b3:Value}{T T':TypeId}(HB:Below ((w.alloc (.cells #[a0,a1,a2,a3] T)).alloc (.cells #[b0,b1,b2,b3] T')).heap.size ((w.alloc (.cells #[a0,a1,a2,a3] T)).alloc (.cells #[b0,b1,b2,b3] T')) w2) :
 (w2.cell? ⟨w.heap.size,0,none⟩=some a0∧w2.cell? ⟨w.heap.size,1,none⟩=some a1∧w2.cell? ⟨w.heap.size,2,none⟩=some a2∧w2.cell? ⟨w.heap.size,3,none⟩=some a3) ∧
 (w2.frozen? ⟨w.heap.size,0,none⟩=false∧w2.frozen? ⟨w.heap.size,1,none⟩=false∧w2.frozen? ⟨w.heap.size,2,none⟩=false∧w2.frozen? ⟨w.heap.size,3,none⟩=false) ∧
 (w2.cell? ⟨w.heap.size+1,0,none⟩=some b0∧w2.cell? ⟨w.heap.size+1,1,none⟩=some b1∧w2.cell? ⟨w.heap.size+1,2,none⟩=some b2∧w2.cell? ⟨w.heap.size+1,3,none⟩=some b3) ∧
 (w2.frozen? ⟨w.heap.size+1,0,none⟩=false∧w2.frozen? ⟨w.heap.size+1,1,none⟩=false∧w2.frozen? ⟨w.heap.size+1,2,none⟩=false∧w2.frozen? ⟨w.heap.size+1,3,none⟩=false) ∧
 w.heap.size<w2.heap.size∧w.heap.size+1<w2.heap.size:=by
 have hz:=HB.size;simp only[World.size_alloc] at hz;have c:=fun o=>HB.cell (p:=⟨w.heap.size,o,none⟩) (by simp only[World.size_alloc];omega)
 have f:=fun o=>HB.frozen (p:=⟨w.heap.size,o,none⟩) (by simp only[World.size_alloc];omega)
 have c':=fun o=>HB.cell (p:=⟨w.heap.size+1,o,none⟩) (by simp only[World.size_alloc];omega)
 have f':=fun o=>HB.frozen (p:=⟨w.heap.size+1,o,none⟩) (by simp only[World.size_alloc];omega)
 refine⟨⟨?_,?_,?_,?_⟩,⟨?_,?_,?_,?_⟩,⟨?_,?_,?_,?_⟩,⟨?_,?_,?_,?_⟩,by omega,by omega⟩
 all_goals first|rw[c]|rw[f]|rw[c']|rw[f']
 all_goals simp
theorem zjm(b:Bool)(w:World):Calls Tryz.prog 178 #[.bool b] w fun e w'=>e=.returned (.int .i64 (if b=true then 8 else 4))∧Below w.heap.size w w':=by
 cases b
 all_goals
  go_enter Tryz.func178,Tryz.ntmps178;go_wp2;go_ret;exact⟨rfl,Below.refl _ _⟩
theorem zmB(l:List Rq)(a:Option Addr)(c:Nat)(t:Tn)(w:World)(h:t.g≤0∨3≤t.g) :
 Calls Tryz.prog 129 #[.slice a l.length c,t.val] w fun e w'=>e=.returned (.int .i64 (-1))∧Below w.heap.size w w':=by
 rcases h with h|h
 ·go_enter Tryz.func129,Tryz.ntmps129;go_wp2;go_ret;exact⟨rfl,by(with_reducible repeat first|exact Below.refl _ _|refine zc ?_ _|refine zd ?_|refine bset' ?_ (by omega) _|refine zb ?_ (by assumption))⟩
 ·have h':¬t.g≤0:=by omega
  go_enter Tryz.func129,Tryz.ntmps129;go_wp2;go_ret;exact⟨rfl,by(with_reducible repeat first|exact Below.refl _ _|refine zc ?_ _|refine zd ?_|refine bset' ?_ (by omega) _|refine zb ?_ (by assumption))⟩
theorem zgP(l:List Rq)(a:Option Addr)(c:Nat)(t:Tn)(w:World)(hl:zm w a l)(h:0<t.g)(h2:t.g<3)(n:Int)(hn:frI t.w t.p l=n) :
 Calls Tryz.prog 129 #[.slice a l.length c,t.val] w fun e w'=>e=.returned (.int .i64 n)∧Below w.heap.size w w':=by
 go_enter Tryz.func129,Tryz.ntmps129;go_wp2_with fail;refine(zfN l a c _ _ _ (hl.later (zs _ _)) n hn).mono ?_;rintro e w1 ⟨rfl,HB⟩;go_wp2;go_ret;exact⟨rfl,by(with_reducible repeat first|exact Below.refl _ _|refine zc ?_ _|refine zd ?_|refine bset' ?_ (by omega) _|refine zb ?_ (by assumption))⟩
theorem zo6(l:List Rq)(a:Option Addr)(c:Nat)(t:Tn)(w:World)(hl:zm w a l)(b1:Bool)(n1 n2:Int)(h1:zaa false l=n1)(h2:zaa true l=n2)(d1:decide (0≤n1)=b1)(d2:decide (0≤n2)=false) :
 Calls Tryz.prog 130 #[.slice a l.length c,t.val] w fun e w'=>e=.returned (Tn.val ⟨false,1,t.s,t.p⟩)∧Below w.heap.size w w':=by
 go_enter Tryz.func130,Tryz.ntmps130;go_wp2_with fail;refine(zbb l a c _ _ (hl.later (by(with_reducible repeat first|exact Below.refl _ _|refine zc ?_ _|refine zd ?_|refine bset' ?_ (by omega) _|refine zb ?_ (by assumption)))) n1 h1).mono ?_;rintro e w1 ⟨rfl,HB⟩;go_wp2_with fail;refine(zbb l a c _ _ (hl.later (by(with_reducible repeat first|exact Below.refl _ _|refine zc ?_ _|refine zd ?_|refine bset' ?_ (by omega) _|refine zb ?_ (by assumption)))) n2 h2).mono ?_;rintro e w2 ⟨rfl,hb⟩
 replace HB:=zb HB hb
 clear hb h1 h2;obtain⟨⟨p0,p1,p2,p3⟩,⟨f0,f1,f2,f3⟩,⟨q0,q1,q2,q3⟩,⟨g0,g1,g2,g3⟩,z0,z1⟩:=zfM HB;go_wp2;exact bodyPost_ret (v:=Tn.val ⟨false,1,t.s,t.p⟩) (by simp[results,Tryz.results130,go_sem,q0,q1,q2,q3]) rfl ⟨rfl,by(with_reducible repeat first|exact Below.refl _ _|refine zc ?_ _|refine zd ?_|refine bset' ?_ (by omega) _|refine zb ?_ (by assumption))⟩
theorem zo7(l:List Rq)(a:Option Addr)(c:Nat)(t:Tn)(w:World)(hl:zm w a l)(n1 n2:Int)(h1:zaa false l=n1)(h2:zaa true l=n2)(d1:decide (0≤n1)=false)(d2:decide (0≤n2)=true) :
 Calls Tryz.prog 130 #[.slice a l.length c,t.val] w fun e w'=>e=.returned (Tn.val ⟨true,1,0,t.p⟩)∧Below w.heap.size w w':=by
 go_enter Tryz.func130,Tryz.ntmps130;go_wp2_with fail;refine(zbb l a c _ _ (hl.later (by(with_reducible repeat first|exact Below.refl _ _|refine zc ?_ _|refine zd ?_|refine bset' ?_ (by omega) _|refine zb ?_ (by assumption)))) n1 h1).mono ?_;rintro e w1 ⟨rfl,HB⟩;go_wp2_with fail;refine(zbb l a c _ _ (hl.later (by(with_reducible repeat first|exact Below.refl _ _|refine zc ?_ _|refine zd ?_|refine bset' ?_ (by omega) _|refine zb ?_ (by assumption)))) n2 h2).mono ?_;rintro e w2 ⟨rfl,hb⟩
 replace HB:=zb HB hb
 clear hb h1 h2;obtain⟨⟨p0,p1,p2,p3⟩,⟨f0,f1,f2,f3⟩,⟨q0,q1,q2,q3⟩,⟨g0,g1,g2,g3⟩,z0,z1⟩:=zfM HB;go_wp2;exact bodyPost_ret (v:=Tn.val ⟨true,1,0,t.p⟩) (by simp[results,Tryz.results130,go_sem,q0,q1,q2,q3]) rfl ⟨rfl,by(with_reducible repeat first|exact Below.refl _ _|refine zc ?_ _|refine zd ?_|refine bset' ?_ (by omega) _|refine zb ?_ (by assumption))⟩
theorem zo8(l:List Rq)(a:Option Addr)(c:Nat)(t:Tn)(w:World)(hl:zm w a l)(n1 n2:Int)(h1:zaa false l=n1)(h2:zaa true l=n2)(d1:decide (0≤n1)=true)(d2:decide (0≤n2)=true)(hs:2≤t.s) :
 Calls Tryz.prog 130 #[.slice a l.length c,t.val] w fun e w'=>e=.returned (Tn.val ⟨true,1,0,t.p⟩)∧Below w.heap.size w w':=by
 go_enter Tryz.func130,Tryz.ntmps130;go_wp2_with fail;refine(zbb l a c _ _ (hl.later (by(with_reducible repeat first|exact Below.refl _ _|refine zc ?_ _|refine zd ?_|refine bset' ?_ (by omega) _|refine zb ?_ (by assumption)))) n1 h1).mono ?_;rintro e w1 ⟨rfl,HB⟩;go_wp2_with fail;refine(zbb l a c _ _ (hl.later (by(with_reducible repeat first|exact Below.refl _ _|refine zc ?_ _|refine zd ?_|refine bset' ?_ (by omega) _|refine zb ?_ (by assumption)))) n2 h2).mono ?_;rintro e w2 ⟨rfl,hb⟩
 replace HB:=zb HB hb
 clear hb h1 h2;obtain⟨⟨p0,p1,p2,p3⟩,⟨f0,f1,f2,f3⟩,⟨q0,q1,q2,q3⟩,⟨g0,g1,g2,g3⟩,z0,z1⟩:=zfM HB;go_wp2;exact bodyPost_ret (v:=Tn.val ⟨true,1,0,t.p⟩) (by simp[results,Tryz.results130,go_sem,q0,q1,q2,q3]) rfl ⟨rfl,by(with_reducible repeat first|exact Below.refl _ _|refine zc ?_ _|refine zd ?_|refine bset' ?_ (by omega) _|refine zb ?_ (by assumption))⟩
theorem zo9(l:List Rq)(a:Option Addr)(c:Nat)(t:Tn)(w:World)(hl:zm w a l)(n1 n2:Int)(h1:zaa false l=n1)(h2:zaa true l=n2)(d1:decide (0≤n1)=true)(d2:decide (0≤n2)=true)(hs:t.s<2)(hlo:-9223372036854775808≤t.s) :
 Calls Tryz.prog 130 #[.slice a l.length c,t.val] w fun e w'=>e=.returned (Tn.val ⟨false,1,t.s+1,t.p⟩)∧Below w.heap.size w w':=by
 go_enter Tryz.func130,Tryz.ntmps130;go_wp2_with fail;refine(zbb l a c _ _ (hl.later (by(with_reducible repeat first|exact Below.refl _ _|refine zc ?_ _|refine zd ?_|refine bset' ?_ (by omega) _|refine zb ?_ (by assumption)))) n1 h1).mono ?_;rintro e w1 ⟨rfl,HB⟩;go_wp2_with fail;refine(zbb l a c _ _ (hl.later (by(with_reducible repeat first|exact Below.refl _ _|refine zc ?_ _|refine zd ?_|refine bset' ?_ (by omega) _|refine zb ?_ (by assumption)))) n2 h2).mono ?_;rintro e w2 ⟨rfl,hb⟩
 replace HB:=zb HB hb
 clear hb h1 h2;obtain⟨⟨p0,p1,p2,p3⟩,⟨f0,f1,f2,f3⟩,⟨q0,q1,q2,q3⟩,⟨g0,g1,g2,g3⟩,z0,z1⟩:=zfM HB;go_wp2;exact bodyPost_ret (v:=Tn.val ⟨false,1,t.s+1,t.p⟩) (by simp[results,Tryz.results130,go_sem,q0,q1,q2,q3]) rfl ⟨rfl,by(with_reducible repeat first|exact Below.refl _ _|refine zc ?_ _|refine zd ?_|refine bset' ?_ (by omega) _|refine zb ?_ (by assumption))⟩
def zaf(b1 b2:Bool)(t:Tn):Tn:=if b2=false then⟨false,1,t.s,t.p⟩ else if b1=false∨2≤t.s then⟨true,1,0,t.p⟩ else⟨false,1,t.s+1,t.p⟩
theorem zg5(F:Rq→Bool)(R:Rq→Int)(l:List Rq):∀k,k≤l.length→(zaj F R l k=-1∧∀i (h:i<l.length),i<k→F l[i]=false)∨∃j,∃h:j<l.length,zaj F R l k=j∧j<k∧F l[j]=true:=by
 intro k
 induction k with
 |zero=>intro _;exact Or.inl ⟨rfl,fun i _ hi=>absurd hi (Nat.not_lt_zero _)⟩
 |succ k ih =>
  intro hk;have hlt:k<l.length:=by omega
  rcases ih (by omega) with⟨h1,h2⟩|⟨j,hj,h1,h2,h3⟩
  ·cases hF:F l[k]
   ·left
    refine⟨ze4 hlt hF h1,fun i h hi=>?_⟩
    by_cases e:i=k
    ·subst e;exact hF
    ·exact h2 i h (by omega)
   ·exact Or.inr ⟨k,hlt,zek hlt hF h1,by omega,hF⟩
  ·cases hF:F l[k]
   ·exact Or.inr ⟨j,hj,ze4 hlt hF h1,by omega,h3⟩
   ·by_cases hR:R l[k]<R l[j]
    ·exact Or.inr ⟨k,hlt,zgs hlt hj hF h1 hR,by omega,hF⟩
    ·exact Or.inr ⟨j,hj,zgr hlt hj hF h1 hR,by omega,h3⟩
theorem zor(b:Bool)(l:List Rq):(zaa b l=-1∧∀i (h:i<l.length),l[i].wr=!b)∨∃j,∃h:j<l.length,zaa b l=j∧l[j].wr=b:=by
 rcases zg5 (zen b) Rq.born l l.length (Nat.le_refl _) with⟨h1,h2⟩|⟨j,hj,h1,_,h3⟩
 ·refine Or.inl ⟨h1,fun i h=>?_⟩;have:=h2 i h h;simp only[zen,beq_eq_false_iff_ne] at this
  revert this;cases l[i].wr<;>cases b<;>simp
 ·exact Or.inr ⟨j,hj,h1,by simpa [zen] using h3⟩
theorem zdM(b:Bool)(a:Int)(l:List Rq):(frI b a l=-1∧∀i (h:i<l.length),l[i].wr=b→l[i].f<a)∨∃j,∃h:j<l.length,frI b a l=j∧l[j].wr=b∧a≤l[j].f:=by
 rcases zg5 (zcJ b a) Rq.f l l.length (Nat.le_refl _) with⟨h1,h2⟩|⟨j,hj,h1,_,h3⟩
 ·refine Or.inl ⟨h1,fun i h hw=>?_⟩;have:=h2 i h h;simp only[zcJ,hw,beq_self_eq_true,Bool.true_and,decide_eq_false_iff_not] at this
  omega
 ·refine Or.inr ⟨j,hj,h1,?_⟩
  simpa [zcJ] using h3
def zds(b:Bool):Int:=if b=true then 8 else 4
theorem zeo(b:Bool)(w:World)(n:Int)(hn:zds b=n):Calls Tryz.prog 178 #[.bool b] w fun e w'=>e=.returned (.int .i64 n)∧Below w.heap.size w w':=by
 subst hn;exact zjm b w
theorem zpi(l:List Rq)(b o:Nat)(c:Nat)(t:Tn)(now:Int)(w:World)(hl:zm w (some ⟨b,o,none⟩) l)(i:Nat)(hi:i<l.length)(h1:zaa t.w l=i)
 (n0:0≤now) (n1:now≤1000000000) (b0:0≤l[i].born) (b1:l[i].born≤1000000000) (P:Int) (hP:zds t.w=P) (hn:P≤now-l[i].born) :
 Calls Tryz.prog 131 #[.slice (some ⟨b,o,none⟩) l.length c,t.val,.int .i64 now] w fun e w'=>e=.returned (.int .i64 i)∧Below w.heap.size w w':=by
 have hb3:=hl.2.2;have hi0:decide ((0:Int)≤(i:Int))=true:=decide_eq_true (by omega);go_enter Tryz.func131,Tryz.ntmps131;go_wp2_with fail;refine(zbb l _ c _ _ (hl.later (by(with_reducible repeat first|exact Below.refl _ _|refine zc ?_ _|refine zd ?_|refine bset' ?_ (by omega) _|refine zb ?_ (by assumption)))) _ h1).mono ?_;rintro e w1 ⟨rfl,HB⟩;have HB0:=zb (zs _ _) HB;obtain⟨c0,c1,c2,c3,c4,c5⟩:=hl.cells hi;have l0:=zg c0;have HH:Hid (zaa t.w l=i):=h1;clear h1;go_wp2_with fail;refine zF (by first|exact HB|exact zd HB|exact Below.refl _ _) (by kernel_rfl) (by kernel_rfl) ?_
 repeat(go_big_quiet_step (first|exact rfl|(go_at_call 178;exact zy (zeo _ _ _ hP))))
 refine wpQuiet_nil ?_;intro _ hw';obtain⟨p,hw''⟩:=hw';subst hw'';(try clear hc hf hz);(try clear HB);have HB:=p.below;obtain⟨hc,hf,hz⟩:=zW HB;go_wp2;go_ret;exact⟨rfl,by(with_reducible repeat first|exact Below.refl _ _|refine zc ?_ _|refine zd ?_|refine bset' ?_ (by omega) _|refine zb ?_ (by assumption))⟩
theorem zpj(l:List Rq)(b o:Nat)(c:Nat)(t:Tn)(now:Int)(w:World)(hl:zm w (some ⟨b,o,none⟩) l)(i:Nat)(hi:i<l.length)(h1:zaa t.w l=i)
 (n0:0≤now) (n1:now≤1000000000) (b0:0≤l[i].born) (b1:l[i].born≤1000000000) (P:Int) (hP:zds t.w=P) (hn:now-l[i].born<P) (j:Nat) (hj:frI t.w t.p l=j) :
 Calls Tryz.prog 131 #[.slice (some ⟨b,o,none⟩) l.length c,t.val,.int .i64 now] w fun e w'=>e=.returned (.int .i64 j)∧Below w.heap.size w w':=by
 have hb3:=hl.2.2;have hi0:decide ((0:Int)≤(i:Int))=true:=decide_eq_true (by omega);have hj0:decide ((0:Int)≤(j:Int))=true:=decide_eq_true (by omega);go_enter Tryz.func131,Tryz.ntmps131;go_wp2_with fail;refine(zbb l _ c _ _ (hl.later (by(with_reducible repeat first|exact Below.refl _ _|refine zc ?_ _|refine zd ?_|refine bset' ?_ (by omega) _|refine zb ?_ (by assumption)))) _ h1).mono ?_;rintro e w1 ⟨rfl,HB⟩;obtain⟨c0,c1,c2,c3,c4,c5⟩:=hl.cells hi;have l0:=zg c0;have HJ:Hid (frI t.w t.p l=j):=hj;clear h1 hj;go_wp2_with fail;refine zF (by first|exact HB|exact zd HB|exact Below.refl _ _) (by kernel_rfl) (by kernel_rfl) ?_
 repeat(go_big_quiet_step (first|exact rfl|(go_at_call 178;exact zy (zeo _ _ _ hP))))
 refine wpQuiet_nil ?_;intro _ hw';obtain⟨p,hw''⟩:=hw';subst hw'';(try clear hc hf hz);(try clear HB);have HB:=p.below;obtain⟨hc,hf,hz⟩:=zW HB;go_wp2_with fail;refine(zfN l _ c _ _ _ (hl.later (by(with_reducible repeat first|exact Below.refl _ _|refine zc ?_ _|refine zd ?_|refine bset' ?_ (by omega) _|refine zb ?_ (by assumption)))) _ HJ.out).mono ?_;rintro e w2 ⟨rfl,hb⟩;go_wp2;go_ret;exact⟨rfl,by(with_reducible repeat first|exact Below.refl _ _|refine zc ?_ _|refine zd ?_|refine bset' ?_ (by omega) _|refine zb ?_ (by assumption))⟩
theorem zpk(l:List Rq)(b o:Nat)(c:Nat)(t:Tn)(now:Int)(w:World)(hl:zm w (some ⟨b,o,none⟩) l)(i:Nat)(hi:i<l.length)(h1:zaa t.w l=i)
 (n0:0≤now) (n1:now≤1000000000) (b0:0≤l[i].born) (b1:l[i].born≤1000000000) (P:Int) (hP:zds t.w=P) (hn:now-l[i].born<P) (hj:frI t.w t.p l=-1) (n:Int) (hn2:frI t.w 0 l=n) :
 Calls Tryz.prog 131 #[.slice (some ⟨b,o,none⟩) l.length c,t.val,.int .i64 now] w fun e w'=>e=.returned (.int .i64 n)∧Below w.heap.size w w':=by
 have hb3:=hl.2.2;have hi0:decide ((0:Int)≤(i:Int))=true:=decide_eq_true (by omega);go_enter Tryz.func131,Tryz.ntmps131;go_wp2_with fail;refine(zbb l _ c _ _ (hl.later (by(with_reducible repeat first|exact Below.refl _ _|refine zc ?_ _|refine zd ?_|refine bset' ?_ (by omega) _|refine zb ?_ (by assumption)))) _ h1).mono ?_;rintro e w1 ⟨rfl,HB⟩;obtain⟨c0,c1,c2,c3,c4,c5⟩:=hl.cells hi;have l0:=zg c0;have HJ:Hid (frI t.w t.p l=-1):=hj;have HK:Hid (frI t.w 0 l=n):=hn2;clear h1 hj hn2;go_wp2_with fail;refine zF (by first|exact HB|exact zd HB|exact Below.refl _ _) (by kernel_rfl) (by kernel_rfl) ?_
 repeat(go_big_quiet_step (first|exact rfl|(go_at_call 178;exact zy (zeo _ _ _ hP))))
 refine wpQuiet_nil ?_;intro _ hw';obtain⟨p,hw''⟩:=hw';subst hw'';(try clear hc hf hz);(try clear HB);have HB:=p.below;obtain⟨hc,hf,hz⟩:=zW HB;go_wp2_with fail;refine(zfN l _ c _ _ _ (hl.later (by(with_reducible repeat first|exact Below.refl _ _|refine zc ?_ _|refine zd ?_|refine bset' ?_ (by omega) _|refine zb ?_ (by assumption)))) _ HJ.out).mono ?_;rintro e w2 ⟨rfl,hb⟩
 replace HB:=zb HB hb
 clear hb hc hf hz;obtain⟨hc,hf,hz⟩:=zW HB;go_wp2_with fail;refine(zfN l _ c _ _ _ (hl.later (by(with_reducible repeat first|exact Below.refl _ _|refine zc ?_ _|refine zd ?_|refine bset' ?_ (by omega) _|refine zb ?_ (by assumption)))) _ HK.out).mono ?_;rintro e w3 ⟨rfl,hb⟩;go_wp2;go_ret;exact⟨rfl,by(with_reducible repeat first|exact Below.refl _ _|refine zc ?_ _|refine zd ?_|refine bset' ?_ (by omega) _|refine zb ?_ (by assumption))⟩
theorem zpv(l:List Rq)(b o:Nat)(c:Nat)(t:Tn)(now:Int)(w:World)(hl:zm w (some ⟨b,o,none⟩) l)(g0:0<t.g)(g1:t.g<3)(j:Nat)(hj:j<l.length)(h1:frI t.w t.p l=j)
 (f0:0≤l[j].f) (f1:l[j].f≤31) (m0:1≤l[j].m) (m1:l[j].m≤32) :
 Calls Tryz.prog 84 #[.slice (some ⟨b,o,none⟩) l.length c,t.val,.int .i64 now] w fun e w'=>e=.returned (.tuple #[.int .i64 j,Tn.val ⟨t.w,t.g+1,t.s,l[j].f+l[j].m⟩])∧Below w.heap.size w w':=by
 have hb3:=hl.2.2;have hi0:decide ((0:Int)≤(j:Int))=true:=decide_eq_true (by omega);have hi1:decide ((j:Int)<0)=false:=decide_eq_false (by omega);obtain⟨c0,c1,c2,c3,c4,c5⟩:=hl.cells hj;have l0:=zg c0;go_enter Tryz.func84,Tryz.ntmps84;go_wp2_with fail;refine(zgP l _ c t _ (hl.later (by(with_reducible repeat first|exact Below.refl _ _|refine zc ?_ _|refine zd ?_|refine bset' ?_ (by omega) _|refine zb ?_ (by assumption)))) g0 g1 _ h1).mono ?_;rintro e w1 ⟨rfl,HB⟩;clear h1;have HB0:Below w.heap.size w w1:=by(with_reducible repeat first|exact Below.refl _ _|refine zc ?_ _|refine zd ?_|refine bset' ?_ (by omega) _|refine zb ?_ (by assumption))
 obtain⟨⟨p0,p1,p2,p3⟩,⟨k0,k1,k2,k3⟩,⟨q0,q1,q2,q3⟩,⟨e0,e1,e2,e3⟩,z0,z1⟩:=zfM HB
 replace c1:=cell_later' HB0 c1
 replace c2:=cell_later' HB0 c2
 have l1:b<w1.heap.size:=zg c1;have hne:¬b=w.heap.size:=by omega
 have hne1:¬b=w.heap.size+1:=by omega
 have hne2:¬b=w1.heap.size:=by omega
 clear c0 c3 c4 c5 HB0;go_wp2_with fail
 go_region
 go_wp2_with fail
 go_region
 go_wp2;refine bodyPost_ret (v:=.tuple #[.int .i64 j,Tn.val ⟨t.w,t.g+1,t.s,l[j].f+l[j].m⟩]) ?_ rfl ⟨rfl,by(with_reducible repeat first|exact Below.refl _ _|refine zc ?_ _|refine zd ?_|refine bset' ?_ (by omega) _|refine zb ?_ (by assumption))⟩
 simp[results,Tryz.results84,go_sem,q0,q1,q2,q3,z1]
theorem four1{w1 w2:World}{a0 a1 a2 a3:Value}{T:TypeId}(HB:Below (w1.alloc (.cells #[a0,a1,a2,a3] T)).heap.size (w1.alloc (.cells #[a0,a1,a2,a3] T)) w2) :
 (w2.cell? ⟨w1.heap.size,0,none⟩=some a0∧w2.cell? ⟨w1.heap.size,1,none⟩=some a1∧w2.cell? ⟨w1.heap.size,2,none⟩=some a2∧w2.cell? ⟨w1.heap.size,3,none⟩=some a3) ∧
 (w2.frozen? ⟨w1.heap.size,0,none⟩=false∧w2.frozen? ⟨w1.heap.size,1,none⟩=false∧w2.frozen? ⟨w1.heap.size,2,none⟩=false∧w2.frozen? ⟨w1.heap.size,3,none⟩=false) ∧
 w1.heap.size<w2.heap.size:=by
 have hz:=HB.size;simp only[World.size_alloc] at hz;have c:=fun o=>HB.cell (p:=⟨w1.heap.size,o,none⟩) (by simp only[World.size_alloc];omega)
 have f:=fun o=>HB.frozen (p:=⟨w1.heap.size,o,none⟩) (by simp only[World.size_alloc];omega)
 refine⟨⟨?_,?_,?_,?_⟩,⟨?_,?_,?_,?_⟩,by omega⟩
 all_goals first|rw[c]|rw[f]
 all_goals simp
theorem zca{w w':World}{b o:Nat}{x:Bool}(hb:Below w.heap.size w w')(hlt:b<w.heap.size)(h:w.frozen? ⟨b,o,none⟩=x):w'.frozen? ⟨b,o,none⟩=x:=by
 rw[hb.frozen (p:=⟨b,o,none⟩) hlt];exact h
theorem zdA{w w':World}{b:Nat}{a0 a1 a2 a3:Value}(hb:Below w.heap.size w w')
 (h:(w.cell? ⟨b,0,none⟩=some a0∧w.cell? ⟨b,1,none⟩=some a1∧w.cell? ⟨b,2,none⟩=some a2∧w.cell? ⟨b,3,none⟩=some a3)∧(w.frozen? ⟨b,0,none⟩=false∧w.frozen? ⟨b,1,none⟩=false∧w.frozen? ⟨b,2,none⟩=false∧w.frozen? ⟨b,3,none⟩=false)) :
 (w'.cell? ⟨b,0,none⟩=some a0∧w'.cell? ⟨b,1,none⟩=some a1∧w'.cell? ⟨b,2,none⟩=some a2∧w'.cell? ⟨b,3,none⟩=some a3)∧(w'.frozen? ⟨b,0,none⟩=false∧w'.frozen? ⟨b,1,none⟩=false∧w'.frozen? ⟨b,2,none⟩=false∧w'.frozen? ⟨b,3,none⟩=false):=by
 obtain⟨⟨c0,c1,c2,c3⟩,⟨f0,f1,f2,f3⟩⟩:=h;have hlt:=zg c0;exact⟨⟨cell_later' hb c0,cell_later' hb c1,cell_later' hb c2,cell_later' hb c3⟩,⟨zca hb hlt f0,zca hb hlt f1,zca hb hlt f2,zca hb hlt f3⟩⟩
theorem zL{w:World}{b o b' o':Nat}{v:Value}(h:b' ≠ b∨o' ≠ o):(w.setCell ⟨b,o,none⟩ v).cell? ⟨b',o',none⟩=w.cell? ⟨b',o',none⟩:=by
 apply World.cell?_setCell_other;intro e;simp only[Addr.mk.injEq,and_true] at e
 rcases h with h|h
 ·exact h e.1.symm
 ·exact h e.2.symm
theorem set4{w:World}{b:Nat}{a0 a1 a2 a3:Value}(v0 v1 v2 v3:Value)
 (h:(w.cell? ⟨b,0,none⟩=some a0∧w.cell? ⟨b,1,none⟩=some a1∧w.cell? ⟨b,2,none⟩=some a2∧w.cell? ⟨b,3,none⟩=some a3)∧(w.frozen? ⟨b,0,none⟩=false∧w.frozen? ⟨b,1,none⟩=false∧w.frozen? ⟨b,2,none⟩=false∧w.frozen? ⟨b,3,none⟩=false)) :
 ∀X,X=(((w.setCell ⟨b,0,none⟩ v0).setCell ⟨b,1,none⟩ v1).setCell ⟨b,2,none⟩ v2).setCell ⟨b,3,none⟩ v3 →
 ((X.cell? ⟨b,0,none⟩=some v0∧X.cell? ⟨b,1,none⟩=some v1∧X.cell? ⟨b,2,none⟩=some v2∧X.cell? ⟨b,3,none⟩=some v3)∧(X.frozen? ⟨b,0,none⟩=false∧X.frozen? ⟨b,1,none⟩=false∧X.frozen? ⟨b,2,none⟩=false∧X.frozen? ⟨b,3,none⟩=false)) ∧
 (∀b' o',b' ≠ b→X.cell? ⟨b',o',none⟩=w.cell? ⟨b',o',none⟩)∧(∀b' o',b' ≠ b→X.frozen? ⟨b',o',none⟩=w.frozen? ⟨b',o',none⟩)∧X.heap.size=w.heap.size:=by
 obtain⟨⟨c0,c1,c2,c3⟩,⟨f0,f1,f2,f3⟩⟩:=h;intro X hX;subst hX;refine⟨⟨⟨?_,?_,?_,?_⟩,⟨?_,?_,?_,?_⟩⟩,?_,?_,?_⟩
 ·rw[zL (Or.inr (by decide)),zL (Or.inr (by decide)),zL (Or.inr (by decide))];exact World.cell?_setCell_same _ _ _ c0
 ·rw[zL (Or.inr (by decide)),zL (Or.inr (by decide))];exact World.cell?_setCell_same _ _ _ (by rw[zL (Or.inr (by decide))];exact c1)
 ·rw[zL (Or.inr (by decide))];exact World.cell?_setCell_same _ _ _ (by rw[zL (Or.inr (by decide)),zL (Or.inr (by decide))];exact c2)
 ·exact World.cell?_setCell_same _ _ _ (by rw[zL (Or.inr (by decide)),zL (Or.inr (by decide)),zL (Or.inr (by decide))];exact c3)
 ·simpa using f0
 ·simpa using f1
 ·simpa using f2
 ·simpa using f3
 ·intro b' o' hb;rw[zL (Or.inl hb),zL (Or.inl hb),zL (Or.inl hb),zL (Or.inl hb)]
 ·intro b' o' _;simp
 ·simp
theorem zlD(l:List Rq)(b o:Nat)(c:Nat)(t T:Tn)(now:Int)(w:World)(hl:zm w (some ⟨b,o,none⟩) l)(i:Nat)(hi:i<l.length)
 (Hg:∀w',zm w' (some ⟨b,o,none⟩) l→Calls Tryz.prog 129 #[.slice (some ⟨b,o,none⟩) l.length c,t.val] w' fun e w''=>e=.returned (.int .i64 (-1))∧Below w'.heap.size w' w'')
 (Hb:∀w',zm w' (some ⟨b,o,none⟩) l→Calls Tryz.prog 130 #[.slice (some ⟨b,o,none⟩) l.length c,t.val] w' fun e w''=>e=.returned T.val∧Below w'.heap.size w' w'')
 (Hf:∀w',zm w' (some ⟨b,o,none⟩) l→Calls Tryz.prog 131 #[.slice (some ⟨b,o,none⟩) l.length c,T.val,.int .i64 now] w' fun e w''=>e=.returned (.int .i64 i)∧Below w'.heap.size w' w'')
 (f0:0≤l[i].f) (f1:l[i].f≤31) (m0:1≤l[i].m) (m1:l[i].m≤32) :
 Calls Tryz.prog 84 #[.slice (some ⟨b,o,none⟩) l.length c,t.val,.int .i64 now] w fun e w'=>e=.returned (.tuple #[.int .i64 i,Tn.val ⟨T.w,T.g,T.s,l[i].f+l[i].m⟩])∧Below w.heap.size w w':=by
 have hb3:=hl.2.2;have hi0:decide ((0:Int)≤(i:Int))=true:=decide_eq_true (by omega);have hi1:decide ((i:Int)<0)=false:=decide_eq_false (by omega);obtain⟨c0,c1,c2,c3,c4,c5⟩:=hl.cells hi;have l0:=zg c0;clear c0 c3 c4 c5;have HG:Hid (∀w',zm w' (some ⟨b,o,none⟩) l→Calls Tryz.prog 129 #[.slice (some ⟨b,o,none⟩) l.length c,t.val] w' fun e w''=>e=.returned (.int .i64 (-1))∧Below w'.heap.size w' w''):=Hg;have HE:Hid (∀w',zm w' (some ⟨b,o,none⟩) l→Calls Tryz.prog 130 #[.slice (some ⟨b,o,none⟩) l.length c,t.val] w' fun e w''=>e=.returned T.val∧Below w'.heap.size w' w''):=Hb;have HF:Hid (∀w',zm w' (some ⟨b,o,none⟩) l→Calls Tryz.prog 131 #[.slice (some ⟨b,o,none⟩) l.length c,T.val,.int .i64 now] w' fun e w''=>e=.returned (.int .i64 i)∧Below w'.heap.size w' w''):=Hf;clear Hg Hb Hf;go_enter Tryz.func84,Tryz.ntmps84;go_wp2_with fail;refine(HG.out _ (hl.later (by(with_reducible repeat first|exact Below.refl _ _|refine zc ?_ _|refine zd ?_|refine bset' ?_ (by omega) _|refine zb ?_ (by assumption))))).mono ?_;rintro e w1 ⟨rfl,HB⟩;have HB0:Below w.heap.size w w1:=by(with_reducible repeat first|exact Below.refl _ _|refine zc ?_ _|refine zd ?_|refine bset' ?_ (by omega) _|refine zb ?_ (by assumption))
 obtain⟨p,k,q,e,z0,z1⟩:=zfM HB;clear HB;obtain⟨⟨p0,p1,p2,p3⟩,⟨k0,k1,k2,k3⟩⟩:=(⟨p,k⟩:_∧_)
 go_wp2_with fail;refine(HE.out _ (hl.later (by(with_reducible repeat first|exact Below.refl _ _|refine zc ?_ _|refine zd ?_|refine bset' ?_ (by omega) _|refine zb ?_ (by assumption))))).mono ?_;rintro e' w2 ⟨rfl,HB⟩;clear p0 p1 p2 p3 k0 k1 k2 k3;obtain⟨⟨p0,p1,p2,p3⟩,⟨k0,k1,k2,k3⟩,y0⟩:=four1 HB;obtain⟨q,e⟩:=zdA (zb (zs _ _) HB) ⟨q,e⟩;obtain⟨⟨q0,q1,q2,q3⟩,⟨e0,e1,e2,e3⟩⟩:=(⟨q,e⟩:_∧_)
 have HB1:Below w.heap.size w w2:=zb HB0 (zb (zs _ _) HB);go_wp2_with fail;obtain⟨⟨s0,s1⟩,s2,s3,s4⟩:=set4 (Value.bool T.w) (Value.int .i64 T.g) (Value.int .i64 T.s) (Value.int .i64 T.p) ⟨⟨p0,p1,p2,p3⟩,⟨k0,k1,k2,k3⟩⟩ _ rfl;have hq:=fun o'=>s2 (w.heap.size+1) o' (by omega)
 have he:=fun o'=>s3 (w.heap.size+1) o' (by omega)
 have HB2:Below w.heap.size w _:=bset' (bset' (bset' (bset' HB1 (b:=w1.heap.size) (o:=0) (by omega) (Value.bool T.w)) (b:=w1.heap.size) (o:=1) (by omega) (Value.int .i64 T.g)) (b:=w1.heap.size) (o:=2) (by omega) (Value.int .i64 T.s)) (b:=w1.heap.size) (o:=3) (by omega) (Value.int .i64 T.p);refine(HF.out _ (hl.later HB2)).mono ?_;rintro e' w3 ⟨rfl,HB3⟩;obtain⟨⟨r0,r1,r2,r3⟩,⟨x0,x1,x2,x3⟩⟩:=zdA HB3 ⟨s0,s1⟩;obtain⟨⟨t0,t1,t2,t3⟩,⟨y0',y1',y2',y3'⟩⟩:=zdA (b:=w.heap.size+1) HB3 ⟨⟨(hq 0).trans q0,(hq 1).trans q1,(hq 2).trans q2,(hq 3).trans q3⟩,⟨(he 0).trans e0,(he 1).trans e1,(he 2).trans e2,(he 3).trans e3⟩⟩;have HB4:Below w.heap.size w w3:=zb HB2 HB3
 replace c1:=cell_later' HB4 c1
 replace c2:=cell_later' HB4 c2
 have l1:b<w3.heap.size:=zg c1;have z3:w1.heap.size<w3.heap.size:=zg r0;have z4:w.heap.size+1<w3.heap.size:=zg t0;have hne1:¬b=w.heap.size+1:=by omega
 have hne2:¬b=w1.heap.size:=by omega
 have hne3:¬w.heap.size+1=w1.heap.size:=by omega
 have hne4:¬w1.heap.size=w.heap.size+1:=by omega
 have hne5:¬w1.heap.size=b:=by omega
 have hne6:¬w.heap.size+1=b:=by omega
 clear p0 p1 p2 p3 k0 k1 k2 k3 q0 q1 q2 q3 e0 e1 e2 e3 s0 s1 s2 s3 s4 hq he HB2 HB3 HB HB1 HB0 y0 z1 l0 hl HG HE HF;go_wp2_with fail
 go_region
 go_wp2_with fail
 go_region
 go_wp2;refine bodyPost_ret (v:=.tuple #[.int .i64 i,Tn.val ⟨T.w,T.g,T.s,l[i].f+l[i].m⟩]) ?_ rfl ⟨rfl,by(with_reducible repeat first|exact Below.refl _ _|refine zc ?_ _|refine zd ?_|refine bset' ?_ (by omega) _|refine zb ?_ (by assumption))⟩
 simp[results,Tryz.results84,go_sem,t0,t1,t2,t3]
def zeu(w:World)(b:Nat)(a0 a1 a2 a3:Value):Prop :=
 (w.cell? ⟨b,0,none⟩=some a0∧w.cell? ⟨b,1,none⟩=some a1∧w.cell? ⟨b,2,none⟩=some a2∧w.cell? ⟨b,3,none⟩=some a3)∧(w.frozen? ⟨b,0,none⟩=false∧w.frozen? ⟨b,1,none⟩=false∧w.frozen? ⟨b,2,none⟩=false∧w.frozen? ⟨b,3,none⟩=false)
section
variable{w w':World}{b b' o:Nat}{a0 a1 a2 a3:Value}
theorem zeu.later(h:zeu w b a0 a1 a2 a3)(hb:Below w.heap.size w w'):zeu w' b a0 a1 a2 a3:=zdA hb h
theorem zeu.other(h:zeu w b a0 a1 a2 a3)(hne:b ≠ b')(v:Value):zeu (w.setCell ⟨b',o,none⟩ v) b a0 a1 a2 a3:=by
 obtain⟨⟨c0,c1,c2,c3⟩,⟨f0,f1,f2,f3⟩⟩:=h;refine⟨⟨?_,?_,?_,?_⟩,⟨?_,?_,?_,?_⟩⟩
 all_goals first|(rw[zL (Or.inl hne)];assumption)|(rw[World.frozen?_setCell];assumption)
end
end Go.Proofs.YtlhgjplipgandaaGreatDoor
