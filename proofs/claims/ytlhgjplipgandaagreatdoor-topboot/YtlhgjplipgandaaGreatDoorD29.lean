/- Joined texts: Script4, Script5. -/
import Derived.Deep.LoopGhost
import Derived.Lib.OthersKept
import Derived.Laws.RangeAny
import Derived.Test.YtlhgjplipgandaaGreatDoorD28
set_option maxRecDepth 100000
set_option maxHeartbeats 8000000
set_option linter.unusedSimpArgs false
namespace Go.Proofs.YtlhgjplipgandaaGreatDoor
open Go.RowKit Go.BigFrame Go.Maps
attribute [local go_sem] ze.cell ze.frozen
def NoBr(s:ByteArray)(i:Nat):Prop:=∀j,j<i→∀h:j<s.size,zbO (s[j]'h)=false
theorem zoq{s:ByteArray}(h:NoBr s s.size):zbm s=false:=by
 unfold zbm;rw[List.any_eq_false];intro x hx;obtain⟨j,hj,rfl⟩:=List.getElem_of_mem hx;have:=h j hj hj;intro e;have e2:zbO (s[j]'hj)=true:=e;rw[this] at e2;cases e2
theorem br_hit{s:ByteArray}{i:Nat}(h:i<s.size)(hb:zbO (s[i]'h)=true):zbm s=true:=by
 unfold zbm;rw[List.any_eq_true];exact⟨s.data.toList[i]'h,List.getElem_mem h,hb⟩
theorem zpo{x:UInt8}(h:128≤x.toNat):zbO x=false:=by
 unfold zbO;rw[Bool.or_eq_false_iff]
 constructor<;>(rw[beq_eq_false_iff_ne];intro e;subst e;revert h;decide)
theorem zhT(x:UInt8):decide ((0:Int)≤Lib.indexByte [32,10] x)=zbO x:=by
 have h:=Lib.contains_iff_indexByte [32,10] x;rw[←h];simp only[zbO,List.contains_cons,List.contains_nil,Bool.or_false]
theorem zdQ{W w:World}{k:Nat}{s:ByteArray}{pos:Nat}(h:Below W.heap.size W w)(hk:W.heap.size≤k):Below W.heap.size W (w.iterAt k s pos):=by
 refine⟨h.os,h.tape,h.output,by simpa [World.iterAt] using h.size,fun i hi=>?_⟩;have:(w.iterAt k s pos).heap[i]?=w.heap[i]?:=by
  simp only[World.iterAt];rw[Array.getElem?_setIfInBounds_ne (by omega)]
 rw[this];exact h.block i hi
theorem zft{w:World}{k:Nat}{s:ByteArray}{p pos:Nat}(h:w.heap[k]?=some (.stringIter s p)):(w.iterAt k s pos).heap[k]?=some (.stringIter s pos):=by
 have hl:=(Array.getElem?_eq_some_iff.1 h).1
 simp[World.iterAt,hl]
theorem zhA(s:ByteArray)(h8:s.size≤8)(w:World):Calls Tryz.prog 115 #[.string s,.string ⟨#[32,10]⟩] w fun e w'=>∃n:Int,e=.returned (.int .i64 n)∧decide (0≤n)=zbm s∧Below w.heap.size w w':=by
 have h8z:decide ((8:Int)<(s.size:Int))=false:=decide_eq_false (by omega);go_enter Tryz.func115,Tryz.ntmps115;go_wp2_with(go_at_call 156;refine(Tryz.strings_shouldUseASCIISet _ _).mono ?_;rintro e w' ⟨rfl,hw⟩;rw[hw,h8z])
 go_loopg [9,10] s.size (fun g _ _ wx=>∃i:Nat,i≤s.size∧s.size≤i+g∧Below w.heap.size w wx∧wx.heap[w.heap.size]?=some (.stringIter s i)∧NoBr s i)
 case atStart=>exact⟨0,by omega,by omega,(Below.refl _ _).alloc (Nat.le_refl _) _,w.iter_heap s 0,fun j hj=>absurd hj (Nat.not_lt_zero _)⟩
 case round =>
  obtain⟨i,hi,hig,hb,hit,hno⟩:=hrel;have HN:Hid (NoBr s i):=hno;have HB:=za hb;have HI:=za hit;clear hno hb
  by_cases hlt:i<s.size
  ·cases gk with
   |zero=>omega
   |succ g =>
   by_cases hx:(s[i]'hlt).toNat<128
   ·have hnx:=fun ty=>Lib.run_next_ascii_at (P:=Tryz.prog) wr w.heap.size s i ty hit hlt hx
    obtain⟨x,hxe⟩:∃x,s[i]'hlt=x:=⟨_,rfl⟩
    rw[hxe] at hnx hx;have HX:Hid (s[i]'hlt=x):=hxe;have hback:((x.toNat:Int)).toNat.toUInt8=x:=by simp
    clear hxe hit
    cases hbk:zbO x
    ·have hlt0:¬((0:Int)≤Lib.indexByte [32,10] x):=of_decide_eq_false ((zhT x).trans hbk);go_wp2_with(go_at_call 155;refine(Tryz.strings_IndexRune_ascii _ _ _ (by omega) (by omega)).mono ?_;rintro e w' ⟨rfl,hw⟩;rw[hw,hback])
     go_roundg g
     case measure=>omega
     case rel=>exact⟨i+1,by omega,by omega,zdQ HB.out (Nat.le_refl _),zft HI.out,fun j hj h=>by
      by_cases e:j=i
      ·subst e;rw[HX.out];exact hbk
      ·exact HN.out j (by omega) h⟩
    ·have hge:(0:Int)≤Lib.indexByte [32,10] x:=of_decide_eq_true ((zhT x).trans hbk);go_wp2_with(go_at_call 155;refine(Tryz.strings_IndexRune_ascii _ _ _ (by omega) (by omega)).mono ?_;rintro e w' ⟨rfl,hw⟩;rw[hw,hback]);go_ret;exact⟨_,rfl,by rw[br_hit hlt (by rw[HX.out];exact hbk)];exact decide_eq_true (by omega),zdQ HB.out (Nat.le_refl _)⟩
   ·have h128:128≤(s[i]'hlt).toNat:=by omega
    have hnx:=fun ty=>Lib.run_next_any_at (P:=Tryz.prog) wr w.heap.size s i ty hit hlt
    have hd:=decode_high s i hlt h128;have hp:=zjO s i hlt h128;have hm:=zk5 s i;obtain⟨c,hc⟩:∃c,(Utf8.decode s i).1=c:=⟨_,rfl⟩
    obtain⟨n,hn⟩:∃n,(Utf8.decode s i).2=n:=⟨_,rfl⟩
    rw[hc,hn] at hnx;rw[hc,hn] at hd;rw[hn] at hp;rw[hc] at hm;have HP:=za hp.2;have hp1:=hp.1;clear hc hn hp hit h128 hx;go_wp2_with fail;refine(zpD c _ (by omega) (by omega)).mono ?_;rintro e w1 ⟨rfl,hb1⟩;have HB1:=za (zb (zdQ (s:=s) (pos:=i+n) HB.out (Nat.le_refl _)) hb1);have HI1:Hid (w1.heap[w.heap.size]?=some (.stringIter s (i+n))):=(hb1.block _ (Array.getElem?_eq_some_iff.1 (zft (pos:=i+n) HI.out)).1).trans (zft HI.out);clear hb1 hnx;go_wp2
    go_roundg g
    case measure=>omega
    case rel=>exact⟨i+n,by omega,by omega,HB1.out,HI1.out,fun j hj h=>by
     by_cases e:j<i
     ·exact HN.out j e h
     ·obtain⟨k,rfl⟩:∃k,j=i+k:=⟨j-i,by omega⟩
      exact zpo (HP.out k (by omega) h)⟩
  ·have hnx:=fun ty=>Lib.run_next_end_at (P:=Tryz.prog) wr w.heap.size s i ty hit hlt
   go_wp2;go_ret;exact⟨_,rfl,by rw[zoq (show NoBr s s.size from fun j hj h=>HN.out j (by omega) h)];rfl,HB.out⟩
theorem retB{x y:Bool}(h:x=y):Ending.returned (.bool x)=Ending.returned (.bool y):=by rw[h]
theorem retI{x y:Int}(h:x=y):Ending.returned (.int .i64 x)=Ending.returned (.int .i64 y):=by rw[h]
theorem zip(l:List UInt8):decide (0≤Lib.indexAny l [32,10])=l.any zbO:=by
 induction l with
 |nil=>rfl
 |cons b l ih =>
  have hge:=Lib.indexAny_ge [32,10] l;have hc:[32,10].contains b=zbO b:=by simp only[zbO,List.contains_cons,List.contains_nil,Bool.or_false]
  rw[List.any_cons,Lib.indexAny,hc]
  cases hb:zbO b
  ·rw[if_neg Bool.false_ne_true,Bool.false_or,←ih]
   split
   ·rename_i e
    have:Lib.indexAny l [32,10]=-1:=by simpa using e
    rw[this]
   ·rename_i e
    have:¬Lib.indexAny l [32,10]=-1:=by simpa using e
    rw[decide_eq_true (by omega),decide_eq_true (by omega)]
  ·rfl
theorem zo1(w:World):(zeroValue 227).run Tryz.prog w=.ok (.agg (Array.replicate 256 (.bool false))) w:=by kernel_rfl
theorem zjd(s:ByteArray)(h9:s.size≤9)(w:World):Calls Tryz.prog 115 #[.string s,.string ⟨#[32,10]⟩] w fun e w'=>∃n:Int,e=.returned (.int .i64 n)∧decide (0≤n)=zbm s∧Below w.heap.size w w':=by
 by_cases h8:s.size≤8
 ·exact zhA s h8 w
 ·refine(Tryz.strings_IndexAny_long zo1 s ⟨#[32,10]⟩ w (by decide) (by omega) (by omega) (by decide) (fun j b hb=>?_)).mono ?_
  ·match j,hb with
   |0,hb=>cases hb;decide
   |1,hb=>cases hb;decide
  ·rintro e w' ⟨rfl,rfl⟩;exact⟨_,rfl,zip _,((Below.refl _ _).alloc (Nat.le_refl _) _).alloc (by simp) _⟩
theorem zgK(s:ByteArray)(h9:s.size≤9)(t:Bool)(ht:zbm s=t)(w:World):Calls Tryz.prog 71 #[.string s,.string ⟨#[32,10]⟩] w fun e w'=>e=.returned (.bool t)∧Below w.heap.size w w':=by
 go_enter Tryz.func71,Tryz.ntmps71;go_wp2_with fail;refine(zjd s h9 _).mono ?_;rintro e w1 ⟨n,rfl,hn,hb⟩;rw[ht] at hn;have HN:=za hn;have HB:=za hb;clear hn hb ht;go_wp2;go_ret;exact⟨retB HN.out,HB.out⟩
def zar(n:Int):Bool:=decide (n<0)||decide (999<n)
theorem zdy(n:Int)(t:Bool)(ht:zar n=t)(w:World):Calls Tryz.prog 114 #[.int .i64 n] w fun e w'=>e=.returned (.bool t)∧Below w.heap.size w w':=by
 subst ht;unfold zar
 cases g1:decide (n<0)<;>cases g2:decide ((999:Int)<n)
 all_goals
  go_enter Tryz.func114,Tryz.ntmps114;go_wp2;go_ret;exact⟨rfl,Below.refl _ _⟩
def zgp(x y:Int):Int:=if zar x=true then 0 else if zar y=true then 1 else -1
theorem zlh(b:Nat)(x y:Int)(w:World)(h0:w.cell? ⟨b,0,none⟩=some (.int .i64 x))(h1:w.cell? ⟨b,1,none⟩=some (.int .i64 y)):Calls Tryz.prog 154 #[.slice (some ⟨b,0,none⟩) 2 2,.func (.func 114) #[] #[]] w fun e w'=>e=.returned (.int .i64 (zgp x y))∧Below w.heap.size w w':=by
 have eg:∀args w,(callFunc 114 args).run Tryz.prog w=.ok (.enter 114 args) w:=by intro args w;go_simp
 have H0:=za h0;have H1:=za h1;clear h0 h1;go_enter Tryz.func154,Tryz.ntmps154;go_wp2
 go_loopw[8] (fun i wr=>∃k:Nat,k≤2∧i=.int .i64 k∧(1≤k→zar x=false)∧(2≤k→zar y=false)∧Below w.heap.size w wr) (fun i _=>2-(intOf i).toNat)
 case atStart=>exact⟨0,by omega,rfl,fun h=>by omega,fun h=>by omega,Below.refl _ _⟩
 case round =>
  obtain⟨k,hk,rfl,hx,hy,hb⟩:=hrel;have HX:=za hx;have HY:=za hy;have HB:=za hb;have c0:=cellB_later' hb H0.out;have c1:=cellB_later' hb H1.out;clear hx hy hb;have hk3:k=0∨k=1∨k=2:=by omega
  rcases hk3 with rfl|rfl|rfl
  ·obtain⟨tx,hbx⟩:∃t,zar x=t:=⟨_,rfl⟩
   cases tx
   ·go_wp2_with fail;refine(zdy x _ hbx _).mono ?_;rintro e w1 ⟨rfl,hb1⟩;have HB1:=za (zb HB.out hb1);have HBX:=za hbx;clear hb1 hbx;go_wp2;go_roundw
    case rel=>exact⟨1,by omega,by first|rfl|go_num,fun _=>HBX.out,fun h=>by omega,HB1.out⟩
    case measure=>simp[intOf]
   ·go_wp2_with fail;refine(zdy x _ hbx _).mono ?_;rintro e w1 ⟨rfl,hb1⟩;have HB1:=za (zb HB.out hb1);have HBX:=za hbx;clear hb1 hbx;go_wp2;go_ret;exact⟨retI (by unfold zgp;rw[if_pos HBX.out]),HB1.out⟩
  ·obtain⟨ty,hby⟩:∃t,zar y=t:=⟨_,rfl⟩
   cases ty
   ·go_wp2_with fail;refine(zdy y _ hby _).mono ?_;rintro e w1 ⟨rfl,hb1⟩;have HB1:=za (zb HB.out hb1);have HBY:=za hby;clear hb1 hby;go_wp2;go_roundw
    case rel=>exact⟨2,by omega,by first|rfl|go_num,fun _=>HX.out (by omega),fun _=>HBY.out,HB1.out⟩
    case measure=>simp[intOf]
   ·go_wp2_with fail;refine(zdy y _ hby _).mono ?_;rintro e w1 ⟨rfl,hb1⟩;have HB1:=za (zb HB.out hb1);have HBY:=za hby;clear hb1 hby;go_wp2;go_ret;exact⟨retI (by unfold zgp;rw[HX.out (by omega),if_neg Bool.false_ne_true,if_pos HBY.out]),HB1.out⟩
  ·go_wp2;go_ret;exact⟨retI (by unfold zgp;rw[HX.out (by omega),HY.out (by omega),if_neg Bool.false_ne_true,if_neg Bool.false_ne_true]),HB.out⟩
theorem zil(b:Nat)(x y:Int)(t:Bool)(ht:(zar x||zar y)=t)(w:World)(h0:w.cell? ⟨b,0,none⟩=some (.int .i64 x))(h1:w.cell? ⟨b,1,none⟩=some (.int .i64 y)):Calls Tryz.prog 113 #[.slice (some ⟨b,0,none⟩) 2 2,.func (.func 114) #[] #[]] w fun e w'=>e=.returned (.bool t)∧Below w.heap.size w w':=by
 have hi:decide (0≤zgp x y)=t:=by
  rw[←ht];unfold zgp
  cases zar x<;>cases zar y<;>rfl
 have HI:=za hi;clear hi ht;go_enter Tryz.func113,Tryz.ntmps113;go_wp2_with fail;refine(zlh b x y _ h0 h1).mono ?_;generalize zgp x y=n at *;rintro e w1 ⟨rfl,hb1⟩;have HB1:=za hb1;clear hb1;go_wp2;go_ret;exact⟨retB HI.out,HB1.out⟩
theorem zjc(b:Nat)(x y:Int)(t:Bool)(ht:(zar x||zar y)=!t)(w:World)(h0:w.cell? ⟨b,0,none⟩=some (.int .i64 x))(h1:w.cell? ⟨b,1,none⟩=some (.int .i64 y)):Calls Tryz.prog 70 #[.slice (some ⟨b,0,none⟩) 2 2] w fun e w'=>e=.returned (.bool t)∧Below w.heap.size w w':=by
 go_enter Tryz.func70,Tryz.ntmps70;go_wp2_with fail;refine(zil b x y _ ht _ h0 h1).mono ?_;rintro e w1 ⟨rfl,hb1⟩;have HB1:=za hb1;clear hb1;go_wp2;go_ret;exact⟨retB (by cases t<;>rfl),HB1.out⟩
end Go.Proofs.YtlhgjplipgandaaGreatDoor
