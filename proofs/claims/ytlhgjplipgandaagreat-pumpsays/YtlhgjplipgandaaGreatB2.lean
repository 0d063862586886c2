/- Joined texts: Fault, Same. -/
import Derived.Test.YtlhgjplipgandaaGreatB1
set_option maxRecDepth 100000
set_option maxHeartbeats 8000000
set_option linter.unusedSimpArgs false
namespace Go.Proofs.YtlhgjplipgandaaGreat
open Go.RowKit Go.BigFrame
attribute [local go_sem] ze.cell ze.frozen
def zb2(r:Rq):Prop:=(r.wr=true∧(r.data.length:Int) ≠ r.m)∨(r.wr=false∧0<r.data.length)
def zeE(r:Rq):Prop:=r.tags.length<1∨4<r.tags.length
def zg6(r:Rq):Prop:=r.born<0∨1000000000<r.born
def zcD(r:Rq):Bool:=r.data.all fun s=>decide (s.size≤4)
structure Fine(r:Rq):Prop where
 ok:okB r.f r.m 4=true
 shape:¬zb2 r
 tags:¬zeE r
 born:¬zg6 r
theorem zmG(r:Rq)(w:World)(h:okB r.f r.m 4=false) :
  Calls Tryz.prog 123 #[r.val] w fun e w'=>e=.returned (.int .i64 1)∧Below w.heap.size w w':=by
 obtain⟨wr,f,m,da,dc,data,ta,tc,tags,born⟩:=r;simp only[Rq.val];simp only at h;go_enter Tryz.func123,Tryz.ntmps123;go_wp2_with(go_at_call 144;refine(zrK _ _ _ _ h).mono ?_;rintro e w1 ⟨rfl,hb⟩;(try clear hc hf hz);(first|replace HB:=zb HB hb|replace HB:=zb (zd HB) hb|have HB:=hb);clear hb;obtain⟨hc,hf,hz⟩:=zu HB);go_ret;exact⟨rfl,by(with_reducible repeat first|exact Below.refl _ _|refine zc ?_ _|refine zd ?_|refine bset' ?_ (by omega) _|refine zb ?_ (by assumption))⟩
theorem zk0(r:Rq)(w:World)(hr:r.At w)(h:okB r.f r.m 4=true)(h2:zb2 r) :
  Calls Tryz.prog 123 #[r.val] w fun e w'=>e=.returned (.int .i64 3)∧Below w.heap.size w w':=by
 obtain⟨wr,f,m,da,dc,data,ta,tc,tags,born⟩:=r;have l1:=hr.dl;simp only[Rq.val];simp only[zb2] at h h2 l1
 rcases h2 with⟨rfl,h2⟩|⟨rfl,h2⟩
 ·have h3:((data.length:Int) != m)=true:=by simp only[bne_iff_ne];exact h2
  go_enter Tryz.func123,Tryz.ntmps123;go_wp2_with(go_at_call 144;refine(zdr _ _ _ _ h).mono ?_;rintro e w1 ⟨rfl,hb⟩;(try clear hc hf hz);(first|replace HB:=zb HB hb|replace HB:=zb (zd HB) hb|have HB:=hb);clear hb;obtain⟨hc,hf,hz⟩:=zu HB);go_ret;exact⟨rfl,by(with_reducible repeat first|exact Below.refl _ _|refine zc ?_ _|refine zd ?_|refine bset' ?_ (by omega) _|refine zb ?_ (by assumption))⟩
 ·go_enter Tryz.func123,Tryz.ntmps123;go_wp2_with(go_at_call 144;refine(zdr _ _ _ _ h).mono ?_;rintro e w1 ⟨rfl,hb⟩;(try clear hc hf hz);(first|replace HB:=zb HB hb|replace HB:=zb (zd HB) hb|have HB:=hb);clear hb;obtain⟨hc,hf,hz⟩:=zu HB);go_ret;exact⟨rfl,by(with_reducible repeat first|exact Below.refl _ _|refine zc ?_ _|refine zd ?_|refine bset' ?_ (by omega) _|refine zb ?_ (by assumption))⟩
theorem zme(r:Rq)(w:World)(hr:r.At w)(h:okB r.f r.m 4=true)(h2:¬zb2 r)(h3:zeE r) :
  Calls Tryz.prog 123 #[r.val] w fun e w'=>e=.returned (.int .i64 3)∧Below w.heap.size w w':=by
 obtain⟨wr,f,m,da,dc,data,ta,tc,tags,born⟩:=r;have l1:=hr.dl;have l2:=hr.tl;simp only[Rq.val];simp only[zb2,zeE] at h h2 h3 l1 l2;have h2':(wr=true∧((data.length:Int) != m)=false)∨(wr=false∧¬(0:Int)<(data.length:Int)):=by
  cases wr
  ·right;refine⟨rfl,fun h'=>h2 (Or.inr ⟨rfl,by omega⟩)⟩
  ·left;refine⟨rfl,?_⟩;rw[bne_eq_false_iff_eq];rcases Int.decEq (data.length:Int) m with h'|h';exact absurd (Or.inl ⟨rfl,h'⟩) h2;exact h'
 clear h2
 rcases h3 with h3|h3
 all_goals
  rcases h2' with⟨rfl,h3'⟩|⟨rfl,h3'⟩
  all_goals
   go_enter Tryz.func123,Tryz.ntmps123;go_wp2_with(go_at_call 144;refine(zdr _ _ _ _ h).mono ?_;rintro e w1 ⟨rfl,hb⟩;(try clear hc hf hz);(first|replace HB:=zb HB hb|replace HB:=zb (zd HB) hb|have HB:=hb);clear hb;obtain⟨hc,hf,hz⟩:=zu HB);go_ret;exact⟨rfl,by(with_reducible repeat first|exact Below.refl _ _|refine zc ?_ _|refine zd ?_|refine bset' ?_ (by omega) _|refine zb ?_ (by assumption))⟩
theorem zlZ(r:Rq)(w:World)(hr:r.At w)(h:okB r.f r.m 4=true)(h2:¬zb2 r)(h3:¬zeE r)(h4:zg6 r) :
  Calls Tryz.prog 123 #[r.val] w fun e w'=>e=.returned (.int .i64 1)∧Below w.heap.size w w':=by
 obtain⟨wr,f,m,da,dc,data,ta,tc,tags,born⟩:=r;have l1:=hr.dl;have l2:=hr.tl;simp only[Rq.val];simp only[zb2,zeE,zg6] at h h2 h3 h4 l1 l2;have h2':(wr=true∧((data.length:Int) != m)=false)∨(wr=false∧¬(0:Int)<(data.length:Int)):=by
  cases wr
  ·right;refine⟨rfl,fun h'=>h2 (Or.inr ⟨rfl,by omega⟩)⟩
  ·left;refine⟨rfl,?_⟩;rw[bne_eq_false_iff_eq];rcases Int.decEq (data.length:Int) m with h'|h';exact absurd (Or.inl ⟨rfl,h'⟩) h2;exact h'
 clear h2;have t1:¬tags.length<1:=fun h'=>h3 (Or.inl h')
 have t2:¬4<tags.length:=fun h'=>h3 (Or.inr h')
 clear h3
 rcases h4 with h4|h4
 all_goals
  rcases h2' with⟨rfl,h3'⟩|⟨rfl,h3'⟩
  all_goals
   go_enter Tryz.func123,Tryz.ntmps123;go_wp2_with(go_at_call 144;refine(zdr _ _ _ _ h).mono ?_;rintro e w1 ⟨rfl,hb⟩;(try clear hc hf hz);(first|replace HB:=zb HB hb|replace HB:=zb (zd HB) hb|have HB:=hb);clear hb;obtain⟨hc,hf,hz⟩:=zu HB);go_ret;exact⟨rfl,by(with_reducible repeat first|exact Below.refl _ _|refine zc ?_ _|refine zd ?_|refine bset' ?_ (by omega) _|refine zb ?_ (by assumption))⟩
theorem zmY(r:Rq)(w:World)(hr:r.At w)(hfine:Fine r) :
  Calls Tryz.prog 123 #[r.val] w fun e w'=>e=.returned (.int .i64 (zkK (zcD r)))∧Below w.heap.size w w':=by
 obtain⟨h,h2,h3,h4⟩:=hfine;obtain⟨wr,f,m,da,dc,data,ta,tc,tags,born⟩:=r;have l1:=hr.dl;have l2:=hr.tl;simp only[Rq.val];simp only[zb2,zeE,zg6] at h h2 h3 h4 l1 l2;have h2':(wr=true∧((data.length:Int) != m)=false)∨(wr=false∧¬(0:Int)<(data.length:Int)):=by
  cases wr
  ·right;refine⟨rfl,fun h'=>h2 (Or.inr ⟨rfl,by omega⟩)⟩
  ·left;refine⟨rfl,?_⟩;rw[bne_eq_false_iff_eq];rcases Int.decEq (data.length:Int) m with h'|h';exact absurd (Or.inl ⟨rfl,h'⟩) h2;exact h'
 clear h2;have hs:=hr.data;simp only at hs;have t1:¬tags.length<1:=fun h'=>h3 (Or.inl h')
 have t2:¬4<tags.length:=fun h'=>h3 (Or.inr h')
 have t3:¬born<0:=fun h'=>h4 (Or.inl h')
 have t4:¬1000000000<born:=fun h'=>h4 (Or.inr h')
 clear h3 h4 hr;simp only[zcD]
 rcases h2' with⟨rfl,h3'⟩|⟨rfl,h3'⟩
 ·rcases hs with rfl|⟨b,o,rfl,hcell⟩
  ·exfalso
   simp only[okB,decide_eq_true_eq] at h;simp only[List.length_nil,bne_eq_false_iff_eq] at h3'
   omega
  ·have HA:Hid (∀i,i<data.length→w.cell? ⟨b,o+i,none⟩=some (.string (data.getD i ByteArray.empty))):=hcell;clear hcell;go_enter Tryz.func123,Tryz.ntmps123;go_wp2_with(go_at_call 144;refine(zdr _ _ _ _ h).mono ?_;rintro e w1 ⟨rfl,hb⟩;(try clear hc hf hz);(first|replace HB:=zb HB hb|replace HB:=zb (zd HB) hb|have HB:=hb);clear hb;obtain⟨hc,hf,hz⟩:=zu HB)
   go_loopw[4] (fun i wr=>∃k:Nat,k≤data.length∧i=.int .i64 k∧(data.take k).all (fun s=>decide (s.size≤4))=true∧wr=w1) (fun i _=>data.length-(intOf i).toNat)
   case atStart=>exact⟨0,by omega,rfl,by simp,rfl⟩
   case round =>
    clear h l2 t1 t2 t3 t4;obtain⟨k,hk,rfl,hall,rfl⟩:=hrel;have HL:Hid ((data.take k).all (fun s=>decide (s.size≤4))=true):=hall;clear hall
    by_cases hlt:k<data.length
    ·have hck:=HA.out k hlt;have hcl:=zao hck;have l0:=zg hck;go_wp2
     ·go_ret;exact⟨zbs (by rw[zhU hlt (by simp only[decide_eq_false_iff_not];omega)];rfl),by(with_reducible repeat first|exact Below.refl _ _|refine zc ?_ _|refine zd ?_|refine bset' ?_ (by omega) _|refine zb ?_ (by assumption))⟩
     ·go_roundw
      case rel=>exact⟨k+1,by omega,by go_num,zlq hlt HL.out (by simp only[decide_eq_true_eq];omega),trivial⟩
      case measure=>simp[intOf];omega
    ·go_wp2;go_ret;exact⟨zbs (by rw[zna (by omega) HL.out];rfl),by(with_reducible repeat first|exact Below.refl _ _|refine zc ?_ _|refine zd ?_|refine bset' ?_ (by omega) _|refine zb ?_ (by assumption))⟩
 ·obtain rfl:data=[]:=List.eq_nil_of_length_eq_zero (by omega);go_enter Tryz.func123,Tryz.ntmps123;go_wp2_with(go_at_call 144;refine(zdr _ _ _ _ h).mono ?_;rintro e w1 ⟨rfl,hb⟩;(try clear hc hf hz);(first|replace HB:=zb HB hb|replace HB:=zb (zd HB) hb|have HB:=hb);clear hb;obtain⟨hc,hf,hz⟩:=zu HB)
  go_loop [4] (fun i=>i=.int .i64 0) (fun _=>0)
  case atStart=>rfl
  case round =>
   subst hrel;go_wp2;go_ret;exact⟨rfl,by(with_reducible repeat first|exact Below.refl _ _|refine zc ?_ _|refine zd ?_|refine bset' ?_ (by omega) _|refine zb ?_ (by assumption))⟩
theorem zU.form{w:World}{a:Option Addr}{l:List ByteArray}(h:zU w a l):l=[]∨∃b o,a=some ⟨b,o,none⟩:=by
 rcases h with h|⟨b,o,ha,_⟩
 ·exact Or.inl h
 ·exact Or.inr ⟨b,o,ha⟩
theorem zay.form{w:World}{a:Option Addr}{l:List Int}(h:zay w a l):l=[]∨∃b o,a=some ⟨b,o,none⟩:=by
 rcases h with h|⟨b,o,ha,_⟩
 ·exact Or.inl h
 ·exact Or.inr ⟨b,o,ha⟩
theorem zU.at{w:World}{b o:Nat}{l:List ByteArray}(h:zU w (some ⟨b,o,none⟩) l){i:Nat}(hi:i<l.length):w.cell? ⟨b,o+i,none⟩=some (.string l[i]):=by
 rcases h with rfl|⟨b',o',ha,hc⟩
 ·exact absurd hi (Nat.not_lt_zero _)
 ·simp only[Option.some.injEq,Addr.mk.injEq,and_true] at ha;obtain⟨rfl,rfl⟩:=ha
  simpa [List.getD,hi] using hc i hi
theorem zay.at{w:World}{b o:Nat}{l:List Int}(h:zay w (some ⟨b,o,none⟩) l){i:Nat}(hi:i<l.length):w.cell? ⟨b,o+i,none⟩=some (.int .i64 l[i]):=by
 rcases h with rfl|⟨b',o',ha,hc⟩
 ·exact absurd hi (Nat.not_lt_zero _)
 ·simp only[Option.some.injEq,Addr.mk.injEq,and_true] at ha;obtain⟨rfl,rfl⟩:=ha
  simpa [List.getD,hi] using hc i hi
theorem zgx{α:Type}{xs ys:List α}{k:Nat}(h1:k<xs.length)(h2:k<ys.length)(h:xs.take k=ys.take k)(he:xs[k]=ys[k]):xs.take (k+1)=ys.take (k+1):=by
 rw[List.take_succ_eq_append_getElem h1,List.take_succ_eq_append_getElem h2,h,he]
theorem ne_at{α:Type}{xs ys:List α}{k:Nat}(h1:k<xs.length)(h2:k<ys.length)(he:¬xs[k]=ys[k]):¬xs=ys:=by
 rintro rfl;exact he rfl
theorem zhp{α:Type}{xs ys:List α}{k:Nat}(h1:xs.length≤k)(h2:ys.length≤k)(h:xs.take k=ys.take k):xs=ys:=by
 rwa [List.take_of_length_le h1,List.take_of_length_le h2] at h
theorem str_ne{s t:ByteArray}(h:¬s=t):(s.toList==t.toList)=false:=by
 rw[beq_eq_false_iff_ne];intro e;apply h;rw[ByteArray.toList_eq,ByteArray.toList_eq] at e;have e':s.data=t.data:=by rw[←Array.toList_inj];exact e
 cases s;cases t;simp_all
def eqS(xs ys:List ByteArray):Bool:=decide (xs=ys)
def eqN(xs ys:List Int):Bool:=decide (xs=ys)
theorem zmS(xs ys:List ByteArray)(a a':Option Addr)(c c':Nat)(w:World)(hx:zU w a xs)(hy:zU w a' ys)(hl:xs.length≤9223372036854775807)(he:((xs.length:Int) != (ys.length:Int))=false) :
  Calls Tryz.prog 103 #[.slice a xs.length c,.slice a' ys.length c'] w fun e w'=>e=.returned (.bool (eqS xs ys))∧Below w.heap.size w w':=by
 have hlen:xs.length=ys.length:=by simp only[bne_eq_false_iff_eq] at he;omega
 have HE:Hid (xs.length=ys.length):=hlen
 rcases hx.form with rfl|⟨b,o,rfl⟩
 ·obtain rfl:ys=[]:=List.eq_nil_of_length_eq_zero hlen.symm;go_enter Tryz.func103,Tryz.ntmps103;go_wp2;go_loop [5] (fun i=>i=.int .i64 0) (fun _=>0);(case atStart=>rfl);(case round=>subst hrel;go_wp2;go_ret;exact⟨rfl,by(with_reducible repeat first|exact Below.refl _ _|refine zc ?_ _|refine zd ?_|refine bset' ?_ (by omega) _|refine zb ?_ (by assumption))⟩)
 rcases hy.form with rfl|⟨b',o',rfl⟩
 ·obtain rfl:xs=[]:=List.eq_nil_of_length_eq_zero hlen;go_enter Tryz.func103,Tryz.ntmps103;go_wp2;go_loop [5] (fun i=>i=.int .i64 0) (fun _=>0);(case atStart=>rfl);(case round=>subst hrel;go_wp2;go_ret;exact⟨rfl,by(with_reducible repeat first|exact Below.refl _ _|refine zc ?_ _|refine zd ?_|refine bset' ?_ (by omega) _|refine zb ?_ (by assumption))⟩)
 clear hlen;go_enter Tryz.func103,Tryz.ntmps103;go_wp2
 go_loopw[5] (fun i wr=>∃k:Nat,k≤xs.length∧i=.int .i64 k∧xs.take k=ys.take k∧Below w.heap.size w wr) (fun i _=>xs.length-(intOf i).toNat)
 case atStart=>exact⟨0,by omega,rfl,by simp,Below.refl _ _⟩
 case round =>
  obtain⟨k,hk,rfl,hall,HB⟩:=hrel;have HL:Hid (xs.take k=ys.take k):=hall;clear hall
  by_cases hlt:k<xs.length
  ·have hlt':k<ys.length:=by have:=HE.out;omega
   have c0:=hx.at hlt;have c1:=hy.at hlt';have l0:=zg c0;have l1:=zg c1
   by_cases hq:xs[k]=ys[k]
   ·go_wp2_with fail;refine zj (by first|exact HB|exact zd HB|exact Below.refl _ _) (by kernel_rfl) (by kernel_rfl) ?_
    repeat(go_big_quiet_step (exact rfl))
    refine wpQuiet_nil ?_;intro _ hw';obtain⟨p,hw''⟩:=hw';subst hw'';(try clear hc hf hz);(try clear HB);have HB:=p.below;obtain⟨hc,hf,hz⟩:=zu HB;go_wp2;go_roundw
    case rel=>exact⟨k+1,by omega,by go_num,zgx hlt hlt' HL.out hq,HB⟩
    case measure=>simp[intOf];omega
   ·have hq':(xs[k].toList==ys[k].toList)=false:=str_ne hq;go_wp2_with fail;refine zj (by first|exact HB|exact zd HB|exact Below.refl _ _) (by kernel_rfl) (by kernel_rfl) ?_
    repeat(go_big_quiet_step (exact rfl))
    refine wpQuiet_nil ?_;intro _ hw';obtain⟨p,hw''⟩:=hw';subst hw'';(try clear hc hf hz);(try clear HB);have HB:=p.below;obtain⟨hc,hf,hz⟩:=zu HB;go_wp2;go_ret;exact⟨zad (decide_eq_false (ne_at hlt hlt' hq)).symm,by(with_reducible repeat first|exact Below.refl _ _|refine zc ?_ _|refine zd ?_|refine bset' ?_ (by omega) _|refine zb ?_ (by assumption))⟩
  ·go_wp2;go_ret;exact⟨zad (decide_eq_true (zhp (by omega) (by have:=HE.out;omega) HL.out)).symm,by(with_reducible repeat first|exact Below.refl _ _|refine zc ?_ _|refine zd ?_|refine bset' ?_ (by omega) _|refine zb ?_ (by assumption))⟩
theorem zn6(xs ys:List ByteArray)(a a':Option Addr)(c c':Nat)(w:World)(he:((xs.length:Int) != (ys.length:Int))=true) :
  Calls Tryz.prog 103 #[.slice a xs.length c,.slice a' ys.length c'] w fun e w'=>e=.returned (.bool false)∧Below w.heap.size w w':=by
 go_enter Tryz.func103,Tryz.ntmps103;go_wp2;go_ret;exact⟨rfl,Below.refl _ _⟩
theorem zpK(xs ys:List ByteArray)(a a':Option Addr)(c c':Nat)(w:World)(hx:zU w a xs)(hy:zU w a' ys)(hl:xs.length≤9223372036854775807) :
  Calls Tryz.prog 103 #[.slice a xs.length c,.slice a' ys.length c'] w fun e w'=>e=.returned (.bool (eqS xs ys))∧Below w.heap.size w w':=by
 cases he:((xs.length:Int) != (ys.length:Int))
 ·exact zmS xs ys a a' c c' w hx hy hl he
 ·have:eqS xs ys=false:=decide_eq_false (by rintro rfl;simp at he);rw[this];exact zn6 xs ys a a' c c' w he
theorem zkn(xs ys:List Int)(a a':Option Addr)(c c':Nat)(w:World)(hx:zay w a xs)(hy:zay w a' ys)(hl:xs.length≤9223372036854775807)(he:((xs.length:Int) != (ys.length:Int))=false) :
  Calls Tryz.prog 104 #[.slice a xs.length c,.slice a' ys.length c'] w fun e w'=>e=.returned (.bool (eqN xs ys))∧Below w.heap.size w w':=by
 have hlen:xs.length=ys.length:=by simp only[bne_eq_false_iff_eq] at he;omega
 have HE:Hid (xs.length=ys.length):=hlen
 rcases hx.form with rfl|⟨b,o,rfl⟩
 ·obtain rfl:ys=[]:=List.eq_nil_of_length_eq_zero hlen.symm;go_enter Tryz.func104,Tryz.ntmps104;go_wp2;go_loop [5] (fun i=>i=.int .i64 0) (fun _=>0);(case atStart=>rfl);(case round=>subst hrel;go_wp2;go_ret;exact⟨rfl,by(with_reducible repeat first|exact Below.refl _ _|refine zc ?_ _|refine zd ?_|refine bset' ?_ (by omega) _|refine zb ?_ (by assumption))⟩)
 rcases hy.form with rfl|⟨b',o',rfl⟩
 ·obtain rfl:xs=[]:=List.eq_nil_of_length_eq_zero hlen;go_enter Tryz.func104,Tryz.ntmps104;go_wp2;go_loop [5] (fun i=>i=.int .i64 0) (fun _=>0);(case atStart=>rfl);(case round=>subst hrel;go_wp2;go_ret;exact⟨rfl,by(with_reducible repeat first|exact Below.refl _ _|refine zc ?_ _|refine zd ?_|refine bset' ?_ (by omega) _|refine zb ?_ (by assumption))⟩)
 clear hlen;go_enter Tryz.func104,Tryz.ntmps104;go_wp2
 go_loopw[5] (fun i wr=>∃k:Nat,k≤xs.length∧i=.int .i64 k∧xs.take k=ys.take k∧Below w.heap.size w wr) (fun i _=>xs.length-(intOf i).toNat)
 case atStart=>exact⟨0,by omega,rfl,by simp,Below.refl _ _⟩
 case round =>
  obtain⟨k,hk,rfl,hall,HB⟩:=hrel;have HL:Hid (xs.take k=ys.take k):=hall;clear hall
  by_cases hlt:k<xs.length
  ·have hlt':k<ys.length:=by have:=HE.out;omega
   have c0:=hx.at hlt;have c1:=hy.at hlt';have l0:=zg c0;have l1:=zg c1
   by_cases hq:xs[k]=ys[k]
   ·go_wp2_with fail;refine zj (by first|exact HB|exact zd HB|exact Below.refl _ _) (by kernel_rfl) (by kernel_rfl) ?_
    repeat(go_big_quiet_step (exact rfl))
    refine wpQuiet_nil ?_;intro _ hw';obtain⟨p,hw''⟩:=hw';subst hw'';(try clear hc hf hz);(try clear HB);have HB:=p.below;obtain⟨hc,hf,hz⟩:=zu HB;go_wp2;go_roundw
    case rel=>exact⟨k+1,by omega,by go_num,zgx hlt hlt' HL.out hq,HB⟩
    case measure=>simp[intOf];omega
   ·go_wp2_with fail;refine zj (by first|exact HB|exact zd HB|exact Below.refl _ _) (by kernel_rfl) (by kernel_rfl) ?_
    repeat(go_big_quiet_step (exact rfl))
    refine wpQuiet_nil ?_;intro _ hw';obtain⟨p,hw''⟩:=hw';subst hw'';(try clear hc hf hz);(try clear HB);have HB:=p.below;obtain⟨hc,hf,hz⟩:=zu HB;go_wp2;go_ret;exact⟨zad (decide_eq_false (ne_at hlt hlt' hq)).symm,by(with_reducible repeat first|exact Below.refl _ _|refine zc ?_ _|refine zd ?_|refine bset' ?_ (by omega) _|refine zb ?_ (by assumption))⟩
  ·go_wp2;go_ret;exact⟨zad (decide_eq_true (zhp (by omega) (by have:=HE.out;omega) HL.out)).symm,by(with_reducible repeat first|exact Below.refl _ _|refine zc ?_ _|refine zd ?_|refine bset' ?_ (by omega) _|refine zb ?_ (by assumption))⟩
theorem zkI(xs ys:List Int)(a a':Option Addr)(c c':Nat)(w:World)(he:((xs.length:Int) != (ys.length:Int))=true) :
  Calls Tryz.prog 104 #[.slice a xs.length c,.slice a' ys.length c'] w fun e w'=>e=.returned (.bool false)∧Below w.heap.size w w':=by
 go_enter Tryz.func104,Tryz.ntmps104;go_wp2;go_ret;exact⟨rfl,Below.refl _ _⟩
theorem zl5(xs ys:List Int)(a a':Option Addr)(c c':Nat)(w:World)(hx:zay w a xs)(hy:zay w a' ys)(hl:xs.length≤9223372036854775807) :
  Calls Tryz.prog 104 #[.slice a xs.length c,.slice a' ys.length c'] w fun e w'=>e=.returned (.bool (eqN xs ys))∧Below w.heap.size w w':=by
 cases he:((xs.length:Int) != (ys.length:Int))
 ·exact zkn xs ys a a' c c' w hx hy hl he
 ·have:eqN xs ys=false:=decide_eq_false (by rintro rfl;simp at he);rw[this];exact zkI xs ys a a' c c' w he
end Go.Proofs.YtlhgjplipgandaaGreat
