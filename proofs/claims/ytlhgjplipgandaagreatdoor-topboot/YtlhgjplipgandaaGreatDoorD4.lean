/- Joined texts: Append, Concat, Merge. -/
import Derived.Lib.AppendZerosOnto
import Derived.Test.YtlhgjplipgandaaGreatDoorD1
set_option maxRecDepth 100000
set_option maxHeartbeats 8000000
set_option linter.unusedSimpArgs false
namespace Go.Proofs.YtlhgjplipgandaaGreatDoor
open Go.RowKit
def zaS(w:World)(size:Nat)(a:Option Addr)(n c:Nat)(xs:List Value):Prop :=
 xs.length=n*size∧(∀u∈xs,u.oneCell'=true)∧((a=none∧n=0∧c=0)∨∃ad:Addr,a=some ad∧∀j u,xs[j]?=some u→w.cell? (ad.add j)=some u)
theorem zcg{w:World}{a:Addr}{v:Value}(h:w.cell? a=some v):a.block<w.heap.size:=by
 rcases Nat.lt_or_ge a.block w.heap.size with h'|h'
 ·exact h'
 ·simp[World.cell?,Array.getElem?_eq_none h'] at h
theorem zT{w w':World}{a:Addr}{v:Value}(hb:Below w.heap.size w w')(h:w.cell? a=some v):w'.cell? a=some v:=by
 rw[hb.cell (zcg h)];exact h
theorem zaS.later{w w':World}{size n c:Nat}{a:Option Addr}{xs:List Value}(h:zaS w size a n c xs)(hb:Below w.heap.size w w'):zaS w' size a n c xs:=by
 obtain⟨h1,h2,h3⟩:=h;refine⟨h1,h2,?_⟩
 rcases h3 with h|⟨ad,ha,hc⟩
 ·exact Or.inl h
 ·exact Or.inr ⟨ad,ha,fun j u hj=>zT hb (hc j u hj)⟩
theorem zR{P:Program}{ops:Array Oper}{rest:List Oper}{o:Oper}{a:Act}{Q:Exit→Act→World→Prop}{w:World}(hgd:o.guard=none)(s x:Operand)(t:TypeId)
 (ho:o.op=.call { callee:=.builtin .append,args:=#[s,x],argTypes:=#[t,t] })
 (base:Nat) (e:TypeId) (i:TypeInfo) (z:Value) (size bytes:Nat) (ht:P.underlying t=some (.slice e)) (hi:P.info? e=some i) (hz:i.zero=some z)
 (hsize:i.size=size) (hby:i.bytes=bytes) (hzs:z.cells.size=size) (hsz:0<size)
 (v:Value) (n:Nat) (xs:List Value) (hs:a.eval s=v) (hown:w.ownsRow base e size v n xs)
 (ad:Option Addr) (m c:Nat) (news:List Value) (hx:a.eval x=.slice ad m c) (hrow:zaS w size ad m c news)
 (h63:n+m≤maxLen) (hbytes:(n+m)*bytes≤140737488355328) (hbase:base≤w.heap.size)
 (h:∀v' w',w'.ownsRow base e size v' (n+m) (xs++news)→Below base w w'→wpList P ops Q rest (a.put o.dst v') w'):wpList P ops Q (o::rest) a w:=by
 obtain⟨h1,h2,h3⟩:=hrow
 rcases h3 with⟨rfl,rfl,rfl⟩|⟨ad',rfl,hc⟩
 ·obtain rfl:news=[]:=List.eq_nil_of_length_eq_zero (by rw[h1];simp);have hr:=run_append_owned_none (P:=P) w base t o.type e i size ht hi v n xs hown;refine wpList_plain hgd fun K hK=>?_
  unfold Oper.wp execOp;simp only[ho,resolve,invoke,builtin,Sem.run_bind,Sem.run_pure,Result.andThen_ok,List.map_toArray,List.map_cons,List.map_nil,hs,hx,hr];exact hK _ _ (h v w (by simpa using hown) (Below.refl _ _))
 ·refine wpList_append_own w hgd s x t ho base e i z size bytes ht hi hz hsize hby hzs hsz v n xs hs hown ad' m c news hx h1 hc h2 h63 hbytes hbase ?_;intro v' w' h4 h5 _;exact h v' w' h4 ((Below.refl _ _).grown h5 hbase fun k hk=>(hown.lt k hk).1)
theorem zcl{P:Program}{ops:Array Oper}{rest:List Oper}{o:Oper}{a:Act}{Q:Exit→Act→World→Prop}{w:World}(hgd:o.guard=none)(s x:Operand)(t tn:TypeId)
 (ho:o.op=.call { callee:=.builtin .append,args:=#[s,x],argTypes:=#[t,tn] })
 (e:TypeId) (i:TypeInfo) (z:Value) (size bytes:Nat) (ht:P.underlying t=some (.slice e)) (htn:P.underlying tn=some (.int .i64)) (hi:P.info? e=some i) (hz:i.zero=some z)
 (hsize:i.size=size) (hby:i.bytes=bytes) (hzs:z.cells.size=size) (hsz:0<size)
 (n:Nat) (h0:0<n) (hs:a.eval s=.slice none 0 0) (hx:a.eval x=.int .i64 n) (h63:n≤4611686018427387904) (hbytes:n*bytes≤140737488355328)
 (h:∀cap w',w'.ownsRow w.heap.size e size (.slice (some ⟨w.heap.size,0,none⟩) 0 cap) 0 []→Below w.heap.size w w'→n≤cap→cap≤9223372036854775807→wpList P ops Q rest (a.put o.dst (.slice (some ⟨w.heap.size,0,none⟩) n cap)) w'):wpList P ops Q (o::rest) a w:=by
 have hr:=Lib.run_append_nil_zeros (P:=P) w t tn o.type e i z .i64 .i64 ht htn hi hz n h0 (by omega) (by omega) (by rw[hby];omega);refine wpList_plain hgd fun K hK=>?_
 unfold Oper.wp execOp;simp only[ho,resolve,invoke,builtin,Sem.run_bind,Sem.run_pure,Result.andThen_ok,List.map_toArray,List.map_cons,List.map_nil,hs,hx,hr];have hge:=grownCap_ge w n 0 e;have hcm:grownCap w n 0 e≤maxLen:=grownCap_le_maxLen w n 0 e (by unfold maxLen;omega);refine hK _ _ (h _ _ ⟨by simp,Or.inr ⟨w.heap.size,_,_,rfl,Nat.le_refl _,heap_alloc_new w.drew _,Nat.zero_le _,hcm,?_,by simp⟩⟩ ?_ hge (by unfold maxLen at hcm;omega))
 ·simp only[Array.size_append,size_zeroCells,hzs,←Nat.add_mul]
  congr 1
  omega
 ·exact((Below.refl _ _).drew).alloc (Nat.le_refl _) _
theorem zbA{P:Program}{e:TypeId}{z:Value}{size bytes:Nat}(h:(P.info? e).map (fun i=>(i.zero,i.size,i.bytes))=some (some z,size,bytes)):∃i,P.info? e=some i∧i.zero=some z∧i.size=size∧i.bytes=bytes:=by
 cases h':P.info? e with
 |none=>rw[h'] at h;cases h
 |some i =>
  rw[h'] at h;simp only[Option.map_some,Option.some.injEq,Prod.mk.injEq] at h;exact⟨i,rfl,h.1,h.2.1,h.2.2⟩
theorem zfP:(Tryz.prog.info? 146).map (fun i=>(i.zero,i.size,i.bytes))=some (some (.agg #[.bool false,.int .i64 0,.int .i64 0,.slice none 0 0,.slice none 0 0,.int .i64 0]),6,80):=by kernel_rfl
theorem zld(w:World):Calls Tryz.prog 168 #[.slice none 0 0,.int .i64 0] w fun e w'=>e=.returned (.slice none 0 0)∧Below w.heap.size w w':=by
 go_enter Tryz.func168,Tryz.ntmps168;go_wp2;go_ret;exact⟨rfl,Below.refl _ _⟩
theorem zmG(n:Nat)(w:World)(h0:0<n)(hn:n≤1000000):Calls Tryz.prog 168 #[.slice none 0 0,.int .i64 n] w fun e w'=>∃v,e=.returned v∧w'.ownsRow w.heap.size 146 6 v 0 []∧Below w.heap.size w w':=by
 obtain⟨i,hi,hz0,hz1,hz2⟩:=zbA zfP;go_enter Tryz.func168,Tryz.ntmps168;go_wp2_with(at_builtin;refine zcl rfl _ _ 47 3 rfl 146 i (.agg #[.bool false,.int .i64 0,.int .i64 0,.slice none 0 0,.slice none 0 0,.int .i64 0]) 6 80 Tryz.underlying47 Tryz.underlying3 hi hz0 hz1 hz2 rfl (by decide) n h0 rfl rfl (by omega) (by omega) ?_;intro cap w1 hown HB hcap hcm);go_ret;exact⟨_,rfl,hown,by(with_reducible repeat first|exact Below.refl _ _|refine zc ?_ _|refine zd ?_|refine bset' ?_ (by omega) _|refine zb ?_ (by assumption))⟩
theorem zmF(n:Nat)(w:World)(hn:n≤1000000):Calls Tryz.prog 168 #[.slice none 0 0,.int .i64 n] w fun e w'=>∃v,e=.returned v∧w'.ownsRow w.heap.size 146 6 v 0 []∧Below w.heap.size w w':=by
 rcases Nat.eq_zero_or_pos n with rfl|h
 ·exact(zld w).mono fun e w' ⟨he,hb⟩=>⟨_,he,World.ownsRow_nil _ _ _ _,hb⟩
 ·exact zmG n w h hn
theorem zlo:(Tryz.prog.info? 9).map (fun i=>(i.zero,i.size,i.bytes))=some (some (.string ByteArray.empty),1,16):=by kernel_rfl
theorem zle(w:World):Calls Tryz.prog 229 #[.slice none 0 0,.int .i64 0] w fun e w'=>e=.returned (.slice none 0 0)∧Below w.heap.size w w':=by
 go_enter Tryz.func229,Tryz.ntmps229;go_wp2;go_ret;exact⟨rfl,Below.refl _ _⟩
theorem zmI(n:Nat)(w:World)(h0:0<n)(hn:n≤1000000):Calls Tryz.prog 229 #[.slice none 0 0,.int .i64 n] w fun e w'=>∃v,e=.returned v∧w'.ownsRow w.heap.size 9 1 v 0 []∧Below w.heap.size w w':=by
 obtain⟨i,hi,hz0,hz1,hz2⟩:=zbA zlo;go_enter Tryz.func229,Tryz.ntmps229;go_wp2_with(at_builtin;refine zcl rfl _ _ 51 3 rfl 9 i (.string ByteArray.empty) 1 16 Tryz.underlying51 Tryz.underlying3 hi hz0 hz1 hz2 rfl (by decide) n h0 rfl rfl (by omega) (by omega) ?_;intro cap w1 hown HB hcap hcm);go_ret;exact⟨_,rfl,hown,by(with_reducible repeat first|exact Below.refl _ _|refine zc ?_ _|refine zd ?_|refine bset' ?_ (by omega) _|refine zb ?_ (by assumption))⟩
theorem zmH(n:Nat)(w:World)(hn:n≤1000000):Calls Tryz.prog 229 #[.slice none 0 0,.int .i64 n] w fun e w'=>∃v,e=.returned v∧w'.ownsRow w.heap.size 9 1 v 0 []∧Below w.heap.size w w':=by
 rcases Nat.eq_zero_or_pos n with rfl|h
 ·exact(zle w).mono fun e w' ⟨he,hb⟩=>⟨_,he,World.ownsRow_nil _ _ _ _,hb⟩
 ·exact zmI n w h hn
theorem zln:(Tryz.prog.info? 3).map (fun i=>(i.zero,i.size,i.bytes))=some (some (.int .i64 0),1,8):=by kernel_rfl
theorem zlc(w:World):Calls Tryz.prog 230 #[.slice none 0 0,.int .i64 0] w fun e w'=>e=.returned (.slice none 0 0)∧Below w.heap.size w w':=by
 go_enter Tryz.func230,Tryz.ntmps230;go_wp2;go_ret;exact⟨rfl,Below.refl _ _⟩
theorem zmE(n:Nat)(w:World)(h0:0<n)(hn:n≤1000000):Calls Tryz.prog 230 #[.slice none 0 0,.int .i64 n] w fun e w'=>∃v,e=.returned v∧w'.ownsRow w.heap.size 3 1 v 0 []∧Below w.heap.size w w':=by
 obtain⟨i,hi,hz0,hz1,hz2⟩:=zbA zln;go_enter Tryz.func230,Tryz.ntmps230;go_wp2_with(at_builtin;refine zcl rfl _ _ 122 3 rfl 3 i (.int .i64 0) 1 8 Tryz.underlying122 Tryz.underlying3 hi hz0 hz1 hz2 rfl (by decide) n h0 rfl rfl (by omega) (by omega) ?_;intro cap w1 hown HB hcap hcm);go_ret;exact⟨_,rfl,hown,by(with_reducible repeat first|exact Below.refl _ _|refine zc ?_ _|refine zd ?_|refine bset' ?_ (by omega) _|refine zb ?_ (by assumption))⟩
theorem zmD(n:Nat)(w:World)(hn:n≤1000000):Calls Tryz.prog 230 #[.slice none 0 0,.int .i64 n] w fun e w'=>∃v,e=.returned v∧w'.ownsRow w.heap.size 3 1 v 0 []∧Below w.heap.size w w':=by
 rcases Nat.eq_zero_or_pos n with rfl|h
 ·exact(zlc w).mono fun e w' ⟨he,hb⟩=>⟨_,he,World.ownsRow_nil _ _ _ _,hb⟩
 ·exact zmE n w h hn
theorem zce{w w':World}{b o:Nat}{v:Value}(hb:Below w.heap.size w w')(h:w.cell? ⟨b,o,none⟩=some v):w'.cell? ⟨b,o,none⟩=some v:=zT hb h
theorem zeh(g o:Nat)(a1 a2:Option Addr)(n1 n2 c1 c2:Nat)(xs1 xs2:List Value)(w:World)(h0:w.cell? ⟨g,o,none⟩=some (.slice a1 n1 c1))(h1:w.cell? ⟨g,o+1,none⟩=some (.slice a2 n2 c2))
 (r1:zaS w 6 a1 n1 c1 xs1) (r2:zaS w 6 a2 n2 c2 xs2) (b1:n1≤100000) (b2:n2≤100000) :
 Calls Tryz.prog 122 #[.slice (some ⟨g,o,none⟩) 2 2] w fun e w'=>∃v,e=.returned v∧w'.ownsRow w.heap.size 146 6 v (n1+n2) (xs1++xs2)∧Below w.heap.size w w':=by
 obtain⟨i,hi,hz0,hz1,hz2⟩:=zbA zfP;have hl0:=zcg h0;go_enter Tryz.func122,Tryz.ntmps122;go_wp2
 go_loopw[3,11] (fun sz ix wr=>w=wr∧((ix=.int .i64 0∧sz=.int .i64 0)∨(ix=.int .i64 1∧sz=.int .i64 (n1:Int))∨(ix=.int .i64 2∧sz=.int .i64 ((n1:Int)+(n2:Int))))) (fun _ ix _=>(2-intOf ix).toNat)
 case atStart=>exact⟨rfl,Or.inl ⟨rfl,rfl⟩⟩
 case round =>
  obtain⟨rfl,⟨rfl,rfl⟩|⟨rfl,rfl⟩|⟨rfl,rfl⟩⟩:=hrel
  ·go_wp2;go_roundw
   case rel=>simp
   case measure=>simp[intOf]
  ·go_wp2;go_roundw
   case rel=>simp
   case measure=>simp[intOf]
  ·go_wp2_with fail;rw[show((n1:Int)+(n2:Int))=((n1+n2:Nat):Int) by omega];refine(zmF (n1+n2) _ (by omega)).mono ?_;rintro e w1 ⟨v,rfl,hown,HB⟩;go_wp2_with fail
   go_loopw[6,27] (fun nv ix w2=>Below w.heap.size w w2∧((ix=.int .i64 0∧w2.ownsRow w.heap.size 146 6 nv 0 [])∨(ix=.int .i64 1∧w2.ownsRow w.heap.size 146 6 nv n1 xs1)∨(ix=.int .i64 2∧w2.ownsRow w.heap.size 146 6 nv (n1+n2) (xs1++xs2)))) (fun _ ix _=>(2-intOf ix).toNat)
   case atStart=>exact⟨HB,Or.inl ⟨rfl,hown⟩⟩
   case round =>
    clear HB hown;obtain⟨HB,⟨rfl,hown⟩|⟨rfl,hown⟩|⟨rfl,hown⟩⟩:=hrel
    ·have k0:=zce HB h0;have q1:=r1.later HB;go_wp2_with(at_builtin;refine zR rfl _ _ 47 rfl w.heap.size 146 i (.agg #[.bool false,.int .i64 0,.int .i64 0,.slice none 0 0,.slice none 0 0,.int .i64 0]) 6 80 Tryz.underlying47 hi hz0 hz1 hz2 rfl (by decide) _ _ _ rfl hown a1 n1 c1 xs1 rfl q1 (by unfold maxLen;omega) (by omega) HB.size ?_;intro v' w3 hown' HB');go_roundw
     case rel=>exact⟨HB.trans HB',Or.inr (Or.inl ⟨rfl,by simpa using hown'⟩)⟩
     case measure=>simp[intOf]
    ·have k0:=zce HB h1;have q1:=r2.later HB;go_wp2_with(at_builtin;refine zR rfl _ _ 47 rfl w.heap.size 146 i (.agg #[.bool false,.int .i64 0,.int .i64 0,.slice none 0 0,.slice none 0 0,.int .i64 0]) 6 80 Tryz.underlying47 hi hz0 hz1 hz2 rfl (by decide) _ _ _ rfl hown a2 n2 c2 xs2 rfl q1 (by unfold maxLen;omega) (by omega) HB.size ?_;intro v' w3 hown' HB');go_roundw
     case rel=>exact⟨HB.trans HB',Or.inr (Or.inr ⟨rfl,hown'⟩)⟩
     case measure=>simp[intOf]
    ·go_wp2;go_ret;exact⟨_,rfl,hown,HB⟩
theorem zjN(g o:Nat)(a1 a2:Option Addr)(n1 n2 c1 c2:Nat)(xs1 xs2:List Value)(w:World)(h0:w.cell? ⟨g,o,none⟩=some (.slice a1 n1 c1))(h1:w.cell? ⟨g,o+1,none⟩=some (.slice a2 n2 c2))
 (r1:zaS w 1 a1 n1 c1 xs1) (r2:zaS w 1 a2 n2 c2 xs2) (b1:n1≤100000) (b2:n2≤100000) :
 Calls Tryz.prog 206 #[.slice (some ⟨g,o,none⟩) 2 2] w fun e w'=>∃v,e=.returned v∧w'.ownsRow w.heap.size 9 1 v (n1+n2) (xs1++xs2)∧Below w.heap.size w w':=by
 obtain⟨i,hi,hz0,hz1,hz2⟩:=zbA zlo;have hl0:=zcg h0;go_enter Tryz.func206,Tryz.ntmps206;go_wp2
 go_loopw[3,11] (fun sz ix wr=>w=wr∧((ix=.int .i64 0∧sz=.int .i64 0)∨(ix=.int .i64 1∧sz=.int .i64 (n1:Int))∨(ix=.int .i64 2∧sz=.int .i64 ((n1:Int)+(n2:Int))))) (fun _ ix _=>(2-intOf ix).toNat)
 case atStart=>exact⟨rfl,Or.inl ⟨rfl,rfl⟩⟩
 case round =>
  obtain⟨rfl,⟨rfl,rfl⟩|⟨rfl,rfl⟩|⟨rfl,rfl⟩⟩:=hrel
  ·go_wp2;go_roundw
   case rel=>simp
   case measure=>simp[intOf]
  ·go_wp2;go_roundw
   case rel=>simp
   case measure=>simp[intOf]
  ·go_wp2_with fail;rw[show((n1:Int)+(n2:Int))=((n1+n2:Nat):Int) by omega];refine(zmH (n1+n2) _ (by omega)).mono ?_;rintro e w1 ⟨v,rfl,hown,HB⟩;go_wp2_with fail
   go_loopw[6,27] (fun nv ix w2=>Below w.heap.size w w2∧((ix=.int .i64 0∧w2.ownsRow w.heap.size 9 1 nv 0 [])∨(ix=.int .i64 1∧w2.ownsRow w.heap.size 9 1 nv n1 xs1)∨(ix=.int .i64 2∧w2.ownsRow w.heap.size 9 1 nv (n1+n2) (xs1++xs2)))) (fun _ ix _=>(2-intOf ix).toNat)
   case atStart=>exact⟨HB,Or.inl ⟨rfl,hown⟩⟩
   case round =>
    clear HB hown;obtain⟨HB,⟨rfl,hown⟩|⟨rfl,hown⟩|⟨rfl,hown⟩⟩:=hrel
    ·have k0:=zce HB h0;have q1:=r1.later HB;go_wp2_with(at_builtin;refine zR rfl _ _ 51 rfl w.heap.size 9 i (.string ByteArray.empty) 1 16 Tryz.underlying51 hi hz0 hz1 hz2 rfl (by decide) _ _ _ rfl hown a1 n1 c1 xs1 rfl q1 (by unfold maxLen;omega) (by omega) HB.size ?_;intro v' w3 hown' HB');go_roundw
     case rel=>exact⟨HB.trans HB',Or.inr (Or.inl ⟨rfl,by simpa using hown'⟩)⟩
     case measure=>simp[intOf]
    ·have k0:=zce HB h1;have q1:=r2.later HB;go_wp2_with(at_builtin;refine zR rfl _ _ 51 rfl w.heap.size 9 i (.string ByteArray.empty) 1 16 Tryz.underlying51 hi hz0 hz1 hz2 rfl (by decide) _ _ _ rfl hown a2 n2 c2 xs2 rfl q1 (by unfold maxLen;omega) (by omega) HB.size ?_;intro v' w3 hown' HB');go_roundw
     case rel=>exact⟨HB.trans HB',Or.inr (Or.inr ⟨rfl,hown'⟩)⟩
     case measure=>simp[intOf]
    ·go_wp2;go_ret;exact⟨_,rfl,hown,HB⟩
theorem zjM(g o:Nat)(a1 a2:Option Addr)(n1 n2 c1 c2:Nat)(xs1 xs2:List Value)(w:World)(h0:w.cell? ⟨g,o,none⟩=some (.slice a1 n1 c1))(h1:w.cell? ⟨g,o+1,none⟩=some (.slice a2 n2 c2))
 (r1:zaS w 1 a1 n1 c1 xs1) (r2:zaS w 1 a2 n2 c2 xs2) (b1:n1≤100000) (b2:n2≤100000) :
 Calls Tryz.prog 207 #[.slice (some ⟨g,o,none⟩) 2 2] w fun e w'=>∃v,e=.returned v∧w'.ownsRow w.heap.size 3 1 v (n1+n2) (xs1++xs2)∧Below w.heap.size w w':=by
 obtain⟨i,hi,hz0,hz1,hz2⟩:=zbA zln;have hl0:=zcg h0;go_enter Tryz.func207,Tryz.ntmps207;go_wp2
 go_loopw[3,11] (fun sz ix wr=>w=wr∧((ix=.int .i64 0∧sz=.int .i64 0)∨(ix=.int .i64 1∧sz=.int .i64 (n1:Int))∨(ix=.int .i64 2∧sz=.int .i64 ((n1:Int)+(n2:Int))))) (fun _ ix _=>(2-intOf ix).toNat)
 case atStart=>exact⟨rfl,Or.inl ⟨rfl,rfl⟩⟩
 case round =>
  obtain⟨rfl,⟨rfl,rfl⟩|⟨rfl,rfl⟩|⟨rfl,rfl⟩⟩:=hrel
  ·go_wp2;go_roundw
   case rel=>simp
   case measure=>simp[intOf]
  ·go_wp2;go_roundw
   case rel=>simp
   case measure=>simp[intOf]
  ·go_wp2_with fail;rw[show((n1:Int)+(n2:Int))=((n1+n2:Nat):Int) by omega];refine(zmD (n1+n2) _ (by omega)).mono ?_;rintro e w1 ⟨v,rfl,hown,HB⟩;go_wp2_with fail
   go_loopw[6,27] (fun nv ix w2=>Below w.heap.size w w2∧((ix=.int .i64 0∧w2.ownsRow w.heap.size 3 1 nv 0 [])∨(ix=.int .i64 1∧w2.ownsRow w.heap.size 3 1 nv n1 xs1)∨(ix=.int .i64 2∧w2.ownsRow w.heap.size 3 1 nv (n1+n2) (xs1++xs2)))) (fun _ ix _=>(2-intOf ix).toNat)
   case atStart=>exact⟨HB,Or.inl ⟨rfl,hown⟩⟩
   case round =>
    clear HB hown;obtain⟨HB,⟨rfl,hown⟩|⟨rfl,hown⟩|⟨rfl,hown⟩⟩:=hrel
    ·have k0:=zce HB h0;have q1:=r1.later HB;go_wp2_with(at_builtin;refine zR rfl _ _ 122 rfl w.heap.size 3 i (.int .i64 0) 1 8 Tryz.underlying122 hi hz0 hz1 hz2 rfl (by decide) _ _ _ rfl hown a1 n1 c1 xs1 rfl q1 (by unfold maxLen;omega) (by omega) HB.size ?_;intro v' w3 hown' HB');go_roundw
     case rel=>exact⟨HB.trans HB',Or.inr (Or.inl ⟨rfl,by simpa using hown'⟩)⟩
     case measure=>simp[intOf]
    ·have k0:=zce HB h1;have q1:=r2.later HB;go_wp2_with(at_builtin;refine zR rfl _ _ 122 rfl w.heap.size 3 i (.int .i64 0) 1 8 Tryz.underlying122 hi hz0 hz1 hz2 rfl (by decide) _ _ _ rfl hown a2 n2 c2 xs2 rfl q1 (by unfold maxLen;omega) (by omega) HB.size ?_;intro v' w3 hown' HB');go_roundw
     case rel=>exact⟨HB.trans HB',Or.inr (Or.inr ⟨rfl,hown'⟩)⟩
     case measure=>simp[intOf]
    ·go_wp2;go_ret;exact⟨_,rfl,hown,HB⟩
end Go.Proofs.YtlhgjplipgandaaGreatDoor
namespace Go.Proofs.YtlhgjplipgandaaGreatDoor
open Go.RowKit Go.BigFrame
attribute [local go_sem] ze.cell ze.frozen
def zaK(a b:Rq):Bool:=decide (a.f+a.m=b.f)&&((a.wr==b.wr)&&(decide (a.m+b.m≤4)&&decide (a.tags.length+b.tags.length≤4)))
theorem zv.bnd{r:Rq}(h:zv r):0≤r.f∧r.f≤31∧1≤r.m∧r.m≤4∧r.m≤32-r.f:=by
 have:=h.ok;simp only[okB,decide_eq_true_eq] at this
 omega
theorem zgD{f m:Int}(h0:0≤f)(h1:f≤100)(h2:0≤m)(h3:m≤100):wrap64 (f+m)=f+m:=by
 unfold wrap64;omega
theorem zpM(a b:Rq)(w:World)(ha:zv a)(hb:zv b) :
 Calls Tryz.prog 205 #[a.val,b.val] w fun e w'=>e=.returned (.bool (zaK a b))∧Below w.heap.size w w':=by
 obtain⟨x1,x2,x3,x4,x5⟩:=ha.bnd;obtain⟨y1,y2,y3,y4,y5⟩:=hb.bnd;have at4:=ha.t4;have bt4:=hb.t4;have e1:wrap64 (a.f+a.m)=a.f+a.m:=zgD (by omega) (by omega) (by omega) (by omega);have hn:(wrap64 (a.f+a.m)==b.f)=decide (a.f+a.m=b.f):=by rw[e1];rfl
 clear ha hb e1;have HT:Hid (zaK a b=(decide (a.f+a.m=b.f)&&((a.wr==b.wr)&&(decide (a.m+b.m≤4)&&decide (a.tags.length+b.tags.length≤4))))):=rfl;generalize zaK a b=R at HT ⊢;have e2:IntKind.i64.wrap (a.m+b.m)=a.m+b.m:=by rw[IntKind.wrap_i64];omega
 have e3:IntKind.i64.wrap ((a.tags.length:Int)+(b.tags.length:Int))=(a.tags.length:Int)+(b.tags.length:Int):=by rw[IntKind.wrap_i64];omega
 have e4:decide (a.tags.length+b.tags.length≤4)=decide ((a.tags.length:Int)+(b.tags.length:Int)≤4):=by rw[decide_eq_decide];omega
 replace HT:Hid (R=(decide (a.f+a.m=b.f)&&((a.wr==b.wr)&&(decide (a.m+b.m≤4)&&decide ((a.tags.length:Int)+(b.tags.length:Int)≤4))))):=by rw[←e4];exact HT
 clear e4
 cases h1:decide (a.f+a.m=b.f)
 ·rw[h1] at hn;rw[h1] at HT;clear h1;obtain rfl:R=false:=HT.out;clear HT;go_enter Tryz.func205,Tryz.ntmps205;go_wp2_with fail
  go_at_call 204;refine(zch _ _ _ _ _ _ hn).mono ?_;rintro e w1 ⟨rfl,hb⟩;(try clear hc hf hz);(first|replace HB:=zb HB hb|replace HB:=zb (zd HB) hb|have HB:=hb);clear hb;obtain⟨hc,hf,hz⟩:=zW HB
  go_wp2;go_ret;exact⟨rfl,by(with_reducible repeat first|exact Below.refl _ _|refine zc ?_ _|refine zd ?_|refine bset' ?_ (by omega) _|refine zb ?_ (by assumption))⟩
 ·rw[h1] at hn HT;clear h1
  cases h2:(a.wr==b.wr)
  ·rw[h2] at HT;obtain rfl:R=false:=HT.out;clear HT;go_enter Tryz.func205,Tryz.ntmps205;go_wp2_with fail
   go_at_call 204;refine(zch _ _ _ _ _ _ hn).mono ?_;rintro e w1 ⟨rfl,hb⟩;(try clear hc hf hz);(first|replace HB:=zb HB hb|replace HB:=zb (zd HB) hb|have HB:=hb);clear hb;obtain⟨hc,hf,hz⟩:=zW HB
   go_wp2;go_ret;exact⟨rfl,by(with_reducible repeat first|exact Below.refl _ _|refine zc ?_ _|refine zd ?_|refine bset' ?_ (by omega) _|refine zb ?_ (by assumption))⟩
  ·rw[h2] at HT
   cases h3:decide (a.m+b.m≤4)
   ·rw[h3] at HT;obtain rfl:R=false:=HT.out;clear HT;go_enter Tryz.func205,Tryz.ntmps205;go_wp2_with fail
    go_at_call 204;refine(zch _ _ _ _ _ _ hn).mono ?_;rintro e w1 ⟨rfl,hb⟩;(try clear hc hf hz);(first|replace HB:=zb HB hb|replace HB:=zb (zd HB) hb|have HB:=hb);clear hb;obtain⟨hc,hf,hz⟩:=zW HB
    go_wp2;go_ret;exact⟨rfl,by(with_reducible repeat first|exact Below.refl _ _|refine zc ?_ _|refine zd ?_|refine bset' ?_ (by omega) _|refine zb ?_ (by assumption))⟩
   ·rw[h3] at HT;obtain rfl:R=decide ((a.tags.length:Int)+(b.tags.length:Int)≤4):=HT.out;clear HT;go_enter Tryz.func205,Tryz.ntmps205;go_wp2_with fail
    go_at_call 204;refine(zch _ _ _ _ _ _ hn).mono ?_;rintro e w1 ⟨rfl,hb⟩;(try clear hc hf hz);(first|replace HB:=zb HB hb|replace HB:=zb (zd HB) hb|have HB:=hb);clear hb;obtain⟨hc,hf,hz⟩:=zW HB
    go_wp2;go_ret;exact⟨rfl,by(with_reducible repeat first|exact Below.refl _ _|refine zc ?_ _|refine zd ?_|refine bset' ?_ (by omega) _|refine zb ?_ (by assumption))⟩
end Go.Proofs.YtlhgjplipgandaaGreatDoor
