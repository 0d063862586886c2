/- Joined texts: Cache2. -/
import Derived.Test.YtlhgjplipgandaaGreatB11
set_option maxRecDepth 100000
set_option maxHeartbeats 8000000
set_option linter.unusedSimpArgs false
namespace Go.Proofs.YtlhgjplipgandaaGreat
open Go.RowKit Go.BigFrame
attribute [local go_sem] ze.cell ze.frozen
theorem zk{p:Prop}(h:p):Hid p:=h
theorem zbW(l:List Bf)(a:Option Addr)(c:Nat)(at':Int)(w:World)(hl:zB w a l)(r:Int)(hr:zap (plB at') l=r) :
  Calls Tryz.prog 86 #[.slice a l.length c,.int .i64 at'] w fun e w'=>e=.returned (.int .i64 r)∧Below w.heap.size w w':=by
 subst hr;exact zpW l a c at' w hl
abbrev zkt:Value:=.agg #[.int .i64 0,.string ⟨#[]⟩,.bool false,.int .i64 0]
theorem zg2{w w1:World}{a0 a1 a2 a3:Value}{T:TypeId}(HB:Below (w.alloc (.cells #[a0,a1,a2,a3] T)).heap.size (w.alloc (.cells #[a0,a1,a2,a3] T)) w1) :
  (w1.cell? ⟨w.heap.size,0,none⟩=some a0∧w1.cell? ⟨w.heap.size,1,none⟩=some a1∧w1.cell? ⟨w.heap.size,2,none⟩=some a2∧w1.cell? ⟨w.heap.size,3,none⟩=some a3) ∧
  (w1.frozen? ⟨w.heap.size,0,none⟩=false∧w1.frozen? ⟨w.heap.size,1,none⟩=false∧w1.frozen? ⟨w.heap.size,2,none⟩=false∧w1.frozen? ⟨w.heap.size,3,none⟩=false)∧w.heap.size<w1.heap.size:=by
 have hz:=HB.size;simp only[World.size_alloc] at hz;have c:=fun o=>HB.cell (p:=⟨w.heap.size,o,none⟩) (by simp only[World.size_alloc];omega)
 have f:=fun o=>HB.frozen (p:=⟨w.heap.size,o,none⟩) (by simp only[World.size_alloc];omega)
 refine⟨⟨?_,?_,?_,?_⟩,⟨?_,?_,?_,?_⟩,by omega⟩
 all_goals first|rw[c]|rw[f]
 all_goals simp
theorem zie(l:List Bf)(a:Option Addr)(c:Nat)(at':Int)(w:World)(hl:zB w a l)(h:zap (plB at') l=-1) :
  Calls Tryz.prog 49 #[.slice a l.length c,.int .i64 at'] w fun e w'=>e=.returned (.tuple #[zkt,.bool false])∧Below w.heap.size w w':=by
 go_enter Tryz.func49,Tryz.ntmps49;go_wp2_with fail;refine(zbW l a c at' _ (hl.later (zn _ _)) _ h).mono ?_;rintro e w1 ⟨rfl,HB⟩;obtain⟨⟨m0,m1,m2,m3⟩,⟨f0,f1,f2,f3⟩,hz⟩:=zg2 HB;have HB1:Below w.heap.size w w1:=by(with_reducible repeat first|exact Below.refl _ _|refine zc ?_ _|refine zd ?_|refine bset' ?_ (by omega) _|refine zb ?_ (by assumption))
 clear HB h;go_wp2;refine bodyPost_ret (v:=.tuple #[zkt,.bool false]) ?_ rfl ⟨rfl,by(with_reducible repeat first|exact Below.refl _ _|refine zc ?_ _|refine zd ?_|refine bset' ?_ (by omega) _|refine zb ?_ (by assumption))⟩
 simp[results,Tryz.results49,go_sem,m0,m1,m2,m3]
theorem zfA(l:List Bf)(a:Option Addr)(c:Nat)(at':Int)(w:World)(hl:zB w a l)(k:Nat)(hk:k<l.length)(h:zap (plB at') l=k) :
  Calls Tryz.prog 49 #[.slice a l.length c,.int .i64 at'] w fun e w'=>e=.returned (.tuple #[l[k].val,.bool true])∧Below w.heap.size w w':=by
 have h0:l ≠ []:=by rintro rfl;exact absurd hk (Nat.not_lt_zero _)
 obtain⟨b,o,rfl⟩:=hl.form.resolve_left h0;have hb3:=hl.2;go_enter Tryz.func49,Tryz.ntmps49;go_wp2_with fail;refine(zbW l _ c at' _ (hl.later (zn _ _)) _ h).mono ?_;rintro e w1 ⟨rfl,HB⟩;obtain⟨⟨m0,m1,m2,m3⟩,⟨f0,f1,f2,f3⟩,hz⟩:=zg2 HB;have HB1:Below w.heap.size w w1:=by(with_reducible repeat first|exact Below.refl _ _|refine zc ?_ _|refine zd ?_|refine bset' ?_ (by omega) _|refine zb ?_ (by assumption))
 obtain⟨c0,c1,c2,c3⟩:=(hl.later HB1).cells hk;have l0:=zh c0;have l1:=zh (hl.cells hk).1;have n1:b ≠ w.heap.size:=by omega
 clear HB h h0;go_wp2;refine bodyPost_ret (v:=.tuple #[l[k].val,.bool true]) ?_ rfl ⟨rfl,by(with_reducible repeat first|exact Below.refl _ _|refine zc ?_ _|refine zd ?_|refine bset' ?_ (by omega) _|refine zb ?_ (by assumption))⟩
 simp[results,Tryz.results49,go_sem,m0,m1,m2,m3]
def zh2(l:List Bf)(i:Nat):Int:=match l[i]? with|some r=>r.used|none=>0
def zkP(F:Bf→Bool)(l:List Bf)(i:Nat):Bool:=match l[i]? with|some r=>F r|none=>false
def zab(F:Bf→Bool)(l:List Bf):Nat→Int
 |0=>-1
 |k+1=>if zkP F l k=true∧(zab F l k<0∨zh2 l k<zh2 l (zab F l k).toNat) then k else zab F l k
section
variable{F:Bf→Bool}{l:List Bf}{k j:Nat}
theorem zdo(h:k<l.length):zkP F l k=F l[k]:=by simp[zkP,h]
theorem ze7(h:k<l.length):zh2 l k=l[k].used:=by simp[zh2,h]
theorem zea{B:Int}(h:k<l.length)(hF:F l[k]=false)(hB:zab F l k=B):zab F l (k+1)=B:=by
 rw[zab,zdo h,hF,if_neg (by simp),hB]
theorem zeN(h:k<l.length)(hF:F l[k]=true)(hB:zab F l k=-1):zab F l (k+1)=k:=by
 rw[zab,zdo h,hF,hB,if_pos (by simp)]
theorem zgH(h:k<l.length)(hj:j<l.length)(hF:F l[k]=true)(hB:zab F l k=j)(hR:l[k].used<l[j].used):zab F l (k+1)=k:=by
 rw[zab,zdo h,hF,hB,ze7 h,Int.toNat_natCast,ze7 hj,if_pos ⟨rfl,Or.inr hR⟩]
theorem zgo(h:k<l.length)(hj:j<l.length)(hF:F l[k]=true)(hB:zab F l k=j)(hR:¬l[k].used<l[j].used):zab F l (k+1)=j:=by
 rw[zab,zdo h,hF,hB,ze7 h,Int.toNat_natCast,ze7 hj,if_neg (by rintro⟨_,h'|h'⟩;omega;exact hR h')]
theorem zbd(F:Bf→Bool)(l:List Bf):∀n,n≤l.length→(zab F l n=-1∧∀j (hj:j<l.length),j<n→F l[j]=false)∨∃(k:Nat) (h:k<l.length),k<n∧zab F l n=k∧F l[k]=true∧(∀j (hj:j<l.length),j<n→F l[j]=true→l[k].used≤l[j].used)∧∀j (hj:j<k),F (l[j]'(by omega))=true→l[k].used<(l[j]'(by omega)).used:=by
 intro n
 induction n with
 |zero=>intro _;exact Or.inl ⟨rfl,fun j _ h=>absurd h (Nat.not_lt_zero _)⟩
 |succ n ih =>
  intro hn;have hn':n<l.length:=by omega
  rcases ih (by omega) with⟨h1,h2⟩|⟨k,hk,hkn,h1,h2,h3,h4⟩
  ·cases hF:F l[n]
   ·left
    refine⟨zea hn' hF h1,fun j hj hjn=>?_⟩
    by_cases e:j=n
    ·subst e;exact hF
    ·exact h2 j hj (by omega)
   ·right
    refine⟨n,hn',by omega,zeN hn' hF h1,hF,fun j hj hjn hFj=>?_,fun j hj hFj=>?_⟩
    ·by_cases e:j=n
     ·subst e;exact Int.le_refl _
     ·rw[h2 j hj (by omega)] at hFj;cases hFj
    ·rw[h2 j (by omega) (by omega)] at hFj;cases hFj
  ·right
   cases hF:F l[n]
   ·refine⟨k,hk,by omega,zea hn' hF h1,h2,fun j hj hjn hFj=>?_,h4⟩
    by_cases e:j=n
    ·subst e;rw[hF] at hFj;cases hFj
    ·exact h3 j hj (by omega) hFj
   ·by_cases hR:l[n].used<l[k].used
    ·refine⟨n,hn',by omega,zgH hn' hk hF h1 hR,hF,fun j hj hjn hFj=>?_,fun j hj hFj=>?_⟩
     ·by_cases e:j=n
      ·subst e;exact Int.le_refl _
      ·have:=h3 j hj (by omega) hFj;omega
     ·have:=h3 j (by omega) (by omega) hFj;omega
    ·refine⟨k,hk,by omega,zgo hn' hk hF h1 hR,h2,fun j hj hjn hFj=>?_,h4⟩
     by_cases e:j=n
     ·subst e;omega
     ·exact h3 j hj (by omega) hFj
end
theorem zf8(r:Bf)(w:World) :
  Calls Tryz.prog 114 #[r.val] w fun e w'=>e=.returned (.int .i64 r.used)∧Below w.heap.size w w':=by
 go_enter Tryz.func114,Tryz.ntmps114;go_wp2;go_ret;exact⟨rfl,by(with_reducible repeat first|exact Below.refl _ _|refine zc ?_ _|refine zd ?_|refine bset' ?_ (by omega) _|refine zb ?_ (by assumption))⟩
theorem znC(z1 z2:Value)(F:Bf→Bool)(l:List Bf)(a:Option Addr)(c:Nat)(w:World)(hl:zB w a l)
  (hp:∀(x:Bf) w',Below w.heap.size w w'→Calls Tryz.prog 112 #[x.val,z1,z2] w' fun e w''=>e=.returned (.bool (F x))∧Below w'.heap.size w' w'') :
  Calls Tryz.prog 113 #[.slice a l.length c,.func (.func 112) #[] #[z1,z2],.func (.func 114) #[] #[]] w
   fun e w'=>e=.returned (.int .i64 (zab F l l.length))∧Below w.heap.size w w':=by
 have hb3:=hl.2
 rcases hl.form with rfl|⟨b,o,rfl⟩
 ·clear hp;go_enter Tryz.func113,Tryz.ntmps113;go_wp2
  go_loop [7,12] (fun bi i=>i=.int .i64 0∧bi=.int .i64 (-1)) (fun _ _=>0)
  case atStart=>exact⟨rfl,rfl⟩
  case round =>
   obtain⟨rfl,rfl⟩:=hrel;go_wp2;go_ret;exact⟨rfl,by(with_reducible repeat first|exact Below.refl _ _|refine zc ?_ _|refine zd ?_|refine bset' ?_ (by omega) _|refine zb ?_ (by assumption))⟩
 have HP:Hid (∀(x:Bf) w',Below w.heap.size w w'→Calls Tryz.prog 112 #[x.val,z1,z2] w' fun e w''=>e=.returned (.bool (F x))∧Below w'.heap.size w' w''):=hp;clear hp;go_enter Tryz.func113,Tryz.ntmps113;go_wp2
 go_loopw[7,12] (fun bi i wr=>∃(k:Nat) (B:Int),k≤l.length∧i=.int .i64 k∧bi=.int .i64 B∧zab F l k=B∧(B=-1∨∃j:Nat,B=j∧j<k)∧Below w.heap.size w wr) (fun _ i _=>l.length-(intOf i).toNat)
 case atStart=>exact⟨0,-1,by omega,rfl,rfl,rfl,Or.inl rfl,Below.refl _ _⟩
 case round =>
  obtain⟨k,B,hk,rfl,rfl,hB,hcase,HB⟩:=hrel;have HL:Hid (zab F l k=B):=hB;clear hB
  by_cases hlt:k<l.length
  ·obtain⟨c0,c1,c2,c3⟩:=(hl.later HB).cells hlt;have l0:=zh c0;have HB0:=HB;clear HB;have hcase':=hcase;have HK0:=HP.out l[k]
   cases hff:F l[k]
   ·rw[hff] at HK0;have HK:=zk HK0;clear HK0;clear hcase;go_wp2_with fail;refine zj (by first|exact HB|exact zd HB|exact Below.refl _ _) (by kernel_rfl) (by kernel_rfl) ?_
    repeat(go_big_quiet_step (first|exact rfl|(go_at_call 114;exact zR (zf8 _ _))|(go_at_call 112;exact zR (HK.out _ (zb (zc HB0 _) (ze.below _))))))
    refine wpQuiet_nil ?_;intro _ hw';obtain⟨p,hw''⟩:=hw';subst hw'';(try clear hc hf hz);(try clear HB);have HB:=p.below;obtain⟨hc,hf,hz⟩:=zu HB;go_wp2;go_roundw
    case rel=>exact⟨k+1,B,by omega,by go_num,rfl,zea hlt hff HL.out,hcase'.elim (fun h=>Or.inl h) (fun⟨j,h,hj⟩=>Or.inr ⟨j,h,by omega⟩),zb (zc HB0 _) HB⟩
    case measure=>simp[intOf];omega
   ·rw[hff] at HK0;have HK:=zk HK0;clear HK0
    rcases hcase with rfl|⟨j,rfl,hj⟩
    ·go_wp2_with fail;refine zj (by first|exact HB|exact zd HB|exact Below.refl _ _) (by kernel_rfl) (by kernel_rfl) ?_
     repeat(go_big_quiet_step (first|exact rfl|(go_at_call 114;exact zR (zf8 _ _))|(go_at_call 112;exact zR (HK.out _ (zb (zc HB0 _) (ze.below _))))))
     refine wpQuiet_nil ?_;intro _ hw';obtain⟨p,hw''⟩:=hw';subst hw'';(try clear hc hf hz);(try clear HB);have HB:=p.below;obtain⟨hc,hf,hz⟩:=zu HB;go_wp2;go_roundw
     case rel=>exact⟨k+1,k,by omega,by go_num,rfl,zeN hlt hff HL.out,Or.inr ⟨k,rfl,by omega⟩,zb (zc HB0 _) HB⟩
     case measure=>simp[intOf];omega
    ·have hjl:j<l.length:=by omega
     have hj0:decide ((j:Int)<0)=false:=decide_eq_false (by omega);obtain⟨d0,d1,d2,d3⟩:=(hl.later HB0).cells hjl
     by_cases hR:l[k].used<l[j].used
     ·go_wp2_with fail;refine zj (by first|exact HB|exact zd HB|exact Below.refl _ _) (by kernel_rfl) (by kernel_rfl) ?_
      repeat(go_big_quiet_step (first|exact rfl|(go_at_call 114;exact zR (zf8 _ _))|(go_at_call 112;exact zR (HK.out _ (zb (zc HB0 _) (ze.below _))))))
      refine wpQuiet_nil ?_;intro _ hw';obtain⟨p,hw''⟩:=hw';subst hw'';(try clear hc hf hz);(try clear HB);have HB:=p.below;obtain⟨hc,hf,hz⟩:=zu HB;go_wp2;go_roundw
      case rel=>exact⟨k+1,k,by omega,by go_num,rfl,zgH hlt hjl hff HL.out hR,Or.inr ⟨k,rfl,by omega⟩,zb (zc HB0 _) HB⟩
      case measure=>simp[intOf];omega
     ·go_wp2_with fail;refine zj (by first|exact HB|exact zd HB|exact Below.refl _ _) (by kernel_rfl) (by kernel_rfl) ?_
      repeat(go_big_quiet_step (first|exact rfl|(go_at_call 114;exact zR (zf8 _ _))|(go_at_call 112;exact zR (HK.out _ (zb (zc HB0 _) (ze.below _))))))
      refine wpQuiet_nil ?_;intro _ hw';obtain⟨p,hw''⟩:=hw';subst hw'';(try clear hc hf hz);(try clear HB);have HB:=p.below;obtain⟨hc,hf,hz⟩:=zu HB;go_wp2;go_roundw
      case rel=>exact⟨k+1,j,by omega,by go_num,rfl,zgo hlt hjl hff HL.out (by omega),Or.inr ⟨j,rfl,by omega⟩,zb (zc HB0 _) HB⟩
      case measure=>simp[intOf];omega
  ·go_wp2;go_ret;exact⟨zbs (by rw[show l.length=k by omega];exact HL.out.symm),by(with_reducible repeat first|exact Below.refl _ _|refine zc ?_ _|refine zd ?_|refine bset' ?_ (by omega) _|refine zb ?_ (by assumption))⟩
end Go.Proofs.YtlhgjplipgandaaGreat
