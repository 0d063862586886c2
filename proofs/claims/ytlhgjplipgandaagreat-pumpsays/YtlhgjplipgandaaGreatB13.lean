/- Joined texts: Cache3, Cache7, Cache8. -/
import Derived.Deep.RegionLaw
import Derived.Lib.Overlaps
import Derived.Lib.AppendZeros
import Derived.Deep.RegionHeld3
import Derived.Test.YtlhgjplipgandaaGreatB12
set_option maxRecDepth 100000
set_option maxHeartbeats 8000000
set_option linter.unusedSimpArgs false
namespace Go.Proofs.YtlhgjplipgandaaGreat
open Go.RowKit Go.BigFrame
attribute [local go_sem] ze.cell ze.frozen
theorem zhR{P:Program}(w:World)(t:TypeId)(ps rs:Array TypeId)(vd:Bool)(f:Fn)(x c:Array Value)(h:P.underlying t=some (.func ps rs vd)) :
  (binOp .eql t (.func f x c) .nilFunc).run P w=.ok (.bool false) w:=by
 have h1:∀d,(Op.equalIn (d+1) t (.func f x c) .nilFunc).run P w=.ok false w:=fun d=>by simp[Op.equalIn,run_underlying h]
 simp only[binOp]
 simp[Op.equal,Op.maxDepth,h1 9999]
def zaw(d:Bool)(H:Int→Bool)(x:Bf):Bool:=(x.dirty==d)&&!H x.pl
theorem zrw(x:Bf)(d:Bool)(gh:Nat)(egh:∀args w,(callFunc gh args).run Tryz.prog w=.ok (.enter gh args) w)(hc:Array Value)(H:Int→Bool)(b1 o1 b2 o2:Nat)(w:World)
  (h1:w.cell? ⟨b1,o1,none⟩=some (.bool d)) (h2:w.cell? ⟨b2,o2,none⟩=some (.func (.func gh) #[] hc))
  (hh:∀w',Below w.heap.size w w'→Calls Tryz.prog gh (#[.int .i64 x.pl]++hc) w' fun e w''=>e=.returned (.bool (H x.pl))∧Below w'.heap.size w' w'') :
  Calls Tryz.prog 112 #[x.val,.pointer (some ⟨b1,o1,none⟩),.pointer (some ⟨b2,o2,none⟩)] w fun e w'=>e=.returned (.bool (zaw d H x))∧Below w.heap.size w w':=by
 have q51:∀(w:World) (f:Fn) (x c:Array Value),(binOp .eql 82 (.func f x c) .nilFunc).run Tryz.prog w=.ok (.bool false) w:=fun w f x c=>zhR w _ _ _ _ f x c Tryz.underlying82
 have h1':=zdY h1;have h2':=zdY h2;unfold zaw
 cases hd:(x.dirty==d)
 ·clear hh;go_enter Tryz.func112,Tryz.ntmps112;go_wp2;go_ret;exact⟨rfl,by(with_reducible repeat first|exact Below.refl _ _|refine zc ?_ _|refine zd ?_|refine bset' ?_ (by omega) _|refine zb ?_ (by assumption))⟩
 ·have hq:=hh (w.alloc (.cells #[.int .i64 x.pl,.string x.data,.bool x.dirty,.int .i64 x.used] 97)) (zn _ _);clear hh
  cases hH:H x.pl
  all_goals
   rw[hH] at hq;have HQ:=zk hq;clear hq;go_enter Tryz.func112,Tryz.ntmps112;go_wp2_with fail;refine Calls.mono HQ.out ?_;rintro e w1 ⟨rfl,hb⟩;go_wp2;go_ret;exact⟨rfl,by(with_reducible repeat first|exact Below.refl _ _|refine zc ?_ _|refine zd ?_|refine bset' ?_ (by omega) _|refine zb ?_ (by assumption))⟩
theorem zda(d:Bool)(gh:Nat)(egh:∀args w,(callFunc gh args).run Tryz.prog w=.ok (.enter gh args) w)(hc:Array Value)(H:Int→Bool)(l:List Bf)(a:Option Addr)(c:Nat)(w:World)(hl:zB w a l)
  (hh:∀n w',Below w.heap.size w w'→Calls Tryz.prog gh (#[.int .i64 n]++hc) w' fun e w''=>e=.returned (.bool (H n))∧Below w'.heap.size w' w'') (r:Int) (hr:zab (zaw d H) l l.length=r) :
  Calls Tryz.prog 80 #[.slice a l.length c,.bool d,.func (.func gh) #[] hc] w fun e w'=>e=.returned (.int .i64 r)∧Below w.heap.size w w':=by
 subst hr;have HH:=zk hh;clear hh;go_enter Tryz.func80,Tryz.ntmps80;go_wp2_with fail;refine(znC (.pointer (some ⟨w.heap.size,0,none⟩)) (.pointer (some ⟨w.heap.size+1,0,none⟩)) (zaw d H) l a c _ (hl.later (zbm _ _ _)) (fun x w' hb=>zrw x d gh egh hc H w.heap.size 0 (w.heap.size+1) 0 w' (cellB_later' hb (by simp)) (cellB_later' hb (by simp)) (fun w'' hb'=>HH.out x.pl w'' (zb (zb (zbm _ _ _) hb) hb')))).mono ?_;rintro e w1 ⟨rfl,HB⟩;go_wp2;go_ret;exact⟨rfl,by(with_reducible repeat first|exact Below.refl _ _|refine zc ?_ _|refine zd ?_|refine bset' ?_ (by omega) _|refine zb ?_ (by assumption))⟩
theorem zsk(gh:Nat)(egh:∀args w,(callFunc gh args).run Tryz.prog w=.ok (.enter gh args) w)(hc:Array Value)(H:Int→Bool)(l:List Bf)(a:Option Addr)(c:Nat)(w:World)(hl:zB w a l)
  (hh:∀n w',Below w.heap.size w w'→Calls Tryz.prog gh (#[.int .i64 n]++hc) w' fun e w''=>e=.returned (.bool (H n))∧Below w'.heap.size w' w'') (hr:zab (zaw true H) l l.length=-1) :
  Calls Tryz.prog 47 #[.slice a l.length c,.func (.func gh) #[] hc] w fun e w'=>e=.returned (.int .i64 (-1))∧Below w.heap.size w w':=by
 have HH:=zk hh;have HR:=zk hr;clear hh hr;go_enter Tryz.func47,Tryz.ntmps47;go_wp2_with fail;refine(zda true gh egh hc H l a c _ hl HH.out _ HR.out).mono ?_;rintro e w1 ⟨rfl,HB⟩;go_wp2;go_ret;exact⟨rfl,by(with_reducible repeat first|exact Below.refl _ _|refine zc ?_ _|refine zd ?_|refine bset' ?_ (by omega) _|refine zb ?_ (by assumption))⟩
theorem zrn(gh:Nat)(egh:∀args w,(callFunc gh args).run Tryz.prog w=.ok (.enter gh args) w)(hc:Array Value)(H:Int→Bool)(l:List Bf)(a:Option Addr)(c:Nat)(w:World)(hl:zB w a l)
  (hh:∀n w',Below w.heap.size w w'→Calls Tryz.prog gh (#[.int .i64 n]++hc) w' fun e w''=>e=.returned (.bool (H n))∧Below w'.heap.size w' w'') (k:Nat) (hk:k<l.length) (hr:zab (zaw true H) l l.length=k) :
  Calls Tryz.prog 47 #[.slice a l.length c,.func (.func gh) #[] hc] w fun e w'=>e=.returned (.int .i64 l[k].pl)∧Below w.heap.size w w':=by
 have h0:l ≠ []:=by rintro rfl;exact absurd hk (Nat.not_lt_zero _)
 obtain⟨b,o,rfl⟩:=hl.form.resolve_left h0;have hb3:=hl.2;have HH:=zk hh;have HR:=zk hr;clear hh hr h0;go_enter Tryz.func47,Tryz.ntmps47;go_wp2_with fail;refine(zda true gh egh hc H l _ c _ hl HH.out _ HR.out).mono ?_;rintro e w1 ⟨rfl,HB⟩;obtain⟨c0,c1,c2,c3⟩:=(hl.later HB).cells hk;go_wp2;go_ret;exact⟨rfl,by(with_reducible repeat first|exact Below.refl _ _|refine zc ?_ _|refine zd ?_|refine bset' ?_ (by omega) _|refine zb ?_ (by assumption))⟩
theorem zm0{s t:ByteArray}(h:¬s=t):(s.toList==t.toList)=false:=by
 rw[beq_eq_false_iff_ne];intro e;apply h;rw[ByteArray.toList_eq,ByteArray.toList_eq] at e;have e':s.data=t.data:=by rw[←Array.toList_inj];exact e
 cases s;cases t;simp_all
theorem zne{s t:ByteArray}(h:s=t):(s.toList==t.toList)=true:=by rw[h];simp
theorem zB.set{w:World}{b o:Nat}{l:List Bf}(h:zB w (some ⟨b,o,none⟩) l){k:Nat}(hk:k<l.length)(j:Nat)(hj:j<4)(x:Bf)(u:Value)(hu:x.cell j=u)(hx:∀i,i<4→i ≠ j→x.cell i=l[k].cell i) :
  zB (w.setCell ⟨b,o+k*4+j,none⟩ u) (some ⟨b,o,none⟩) (l.set k x):=by
 rcases h.1 with rfl|⟨b',o',ha,hc⟩
 ·exact absurd hk (Nat.not_lt_zero _)
 ·simp only[Option.some.injEq,Addr.mk.injEq,and_true] at ha;obtain⟨rfl,rfl⟩:=ha;refine⟨Or.inr ⟨b,o,rfl,fun i hi m hm=>?_⟩,by rw[List.length_set];exact h.2⟩;have hi':i<l.length:=by simpa using hi
  by_cases e:i=k
  ·subst e;rw[List.getElem_set_self]
   by_cases e':m=j
   ·subst e';rw[hu];exact World.cell?_setCell_same _ _ _ (hc i hi' m hm)
   ·rw[hx m hm e',World.cell?_setCell_other _ _ _ _ (fun e=>by injection e with _ e2 _;omega)];exact hc i hi' m hm
  ·rw[List.getElem_set_ne (fun h=>e h.symm),World.cell?_setCell_other _ _ _ _ (fun e3=>by injection e3 with _ e2 _;omega)];exact hc i hi' m hm
def cleanL(l:List Bf)(at':Int)(data:ByteArray):List Bf:=l.map fun x=>if x.pl=at'∧x.data=data then { x with dirty:=false } else x
def zeY(l:List Bf):Prop:=∀i j (hi:i<l.length) (hj:j<l.length),l[i].pl=l[j].pl→i=j
theorem zqq{l:List Bf}{at':Int}{data:ByteArray}(h:zap (plB at') l=-1):cleanL l at' data=l:=by
 rcases zbi (plB at') l with⟨_,h1⟩|⟨k,hk,e,_⟩
 ·apply List.ext_getElem (by simp[cleanL]);intro i hi h2;simp only[cleanL,List.getElem_map];have:=h1 i h2;simp only[plB,beq_eq_false_iff_ne] at this;rw[if_neg (fun h=>this h.1)]
 ·rw[h] at e;omega
theorem zl7{l:List Bf}{at':Int}{data:ByteArray}{k:Nat}(hk:k<l.length)(ho:zeY l)(h:zap (plB at') l=k)(hd:¬l[k].data=data):cleanL l at' data=l:=by
 have hp:l[k].pl=at':=by
  rcases zbi (plB at') l with⟨e,_⟩|⟨k',hk',e,h2,_⟩
  ·rw[h] at e;omega
  ·have:k'=k:=by omega
   subst this
   simpa [plB] using h2
 apply List.ext_getElem (by simp[cleanL]);intro i hi h2;simp only[cleanL,List.getElem_map]
 by_cases c:l[i].pl=at'∧l[i].data=data
 ·have:=ho i k h2 hk (c.1.trans hp.symm);subst this;exact absurd c.2 hd
 ·rw[if_neg c]
theorem zpI{l:List Bf}{at':Int}{data:ByteArray}{k:Nat}(hk:k<l.length)(ho:zeY l)(h:zap (plB at') l=k)(hd:l[k].data=data):cleanL l at' data=l.set k { l[k] with dirty:=false }:=by
 have hp:l[k].pl=at':=by
  rcases zbi (plB at') l with⟨e,_⟩|⟨k',hk',e,h2,_⟩
  ·rw[h] at e;omega
  ·have:k'=k:=by omega
   subst this
   simpa [plB] using h2
 apply List.ext_getElem (by simp[cleanL]);intro i hi h2;rw[List.length_set] at h2;simp only[cleanL,List.getElem_map]
 by_cases e:i=k
 ·subst e;rw[List.getElem_set_self,if_pos ⟨hp,hd⟩]
 ·rw[List.getElem_set_ne (fun h=>e h.symm),if_neg (fun c=>e (ho i k h2 hk (c.1.trans hp.symm)))]
theorem zeroB(w:World):(zeroValue 97).run Tryz.prog w=.ok (.agg #[.int .i64 0,.string ByteArray.empty,.bool false,.int .i64 0]) w:=Tryz.zeroValue97 w
theorem zgZ:(Tryz.prog.info? 97).map (·.size)=some 4:=by kernel_rfl
theorem zfn(b n c i:Nat)(w:World)(hlt:i<n)(hce:¬c=i+1):(Instr.slice 56 (.slice (some ⟨b,0,none⟩) n c) (some (.int .i64 ((i:Int)+1))) none none).run Tryz.prog w=.ok (.slice (some ⟨b,(i+1)*4,none⟩) (n-(i+1)) (c-(i+1))) w:=by
 have h1:(0:Int)≤(i:Int)+1:=by omega
 have h2:(i:Int)+1≤(n:Int):=by omega
 simp[go_sem,h1,h2,hce]
theorem zju(b n c i:Nat)(w:World)(hlt:i<n)(hcap:n≤c):(Instr.slice 56 (.slice (some ⟨b,0,none⟩) n c) none (some (.int .i64 (i:Int))) none).run Tryz.prog w=.ok (.slice (some ⟨b,0,none⟩) i c) w:=by
 have h2:i≤c:=by omega
 simp[go_sem,h2]
theorem zoB(b n i:Nat)(w:World)(hlt:n=i+1):(Instr.slice 56 (.slice (some ⟨b,0,none⟩) n (i+1)) (some (.int .i64 ((i:Int)+1))) none none).run Tryz.prog w=.ok (.slice (some ⟨b,0,none⟩) 0 0) w:=by
 subst hlt;have h1:(0:Int)≤(i:Int)+1:=by omega
 simp[go_sem,h1]
theorem ziz(b n c i:Nat)(w:World)(hlt:i<n)(hcap:n≤c)(hm:c≤9223372036854775807):(Instr.slice 56 (.slice (some ⟨b,0,none⟩) (n-1) c) (some (.int .i64 ((n-1:Nat):Int))) (some (.int .i64 (n:Int))) none).run Tryz.prog w=.ok (.slice (some ⟨b,(n-1)*4,none⟩) 1 (c-(n-1))) w:=by
 have h1:((n-1:Nat):Int)≤(n:Int):=by omega
 have h2:¬c=n-1:=by omega
 have h3:n-(n-1)=1:=by omega
 simp[go_sem,h1,h2,h3,hcap]
def zs4:List Value:=(Builtin.zeroCells (Value.agg #[.int .i64 0,.string ByteArray.empty,.bool false,.int .i64 0]).cells 1).toList
theorem zoh:zs4.length=4:=by simp[zs4,Builtin.zeroCells,Value.cells]
theorem zcS{w:World}{b:Nat}{cur:List Value}{t:TypeId}(hg:w.heap[b]?=some (.cells cur.toArray t (0,0)))(o j:Nat)(v:Value)(h:cur[o+j]?=some v):w.cell? (Addr.add ⟨b,o,none⟩ j)=some v:=by
 rw[zdQ]
 simp[World.cell?,hg,h]
theorem zpc(b n c k:Nat)(cur xs:List Value)(base:Nat)(w:World)(hbb:base≤b)(hg:w.heap[b]?=some (.cells cur.toArray 97 (0,0)))(hcl:cur.length=c*4)(hk:k<n)(hnc:n≤c)(hcm:c≤9223372036854775807)
  (hxl:xs.length=(n-(k+1))*4) (hx:∀j v,xs[j]?=some v→cur[(k+1)*4+j]?=some v) (h1:∀v∈xs,v.oneCell'=true) :
  Calls Tryz.prog 132 #[.slice (some ⟨b,0,none⟩) n c,.int .i64 k,.int .i64 ((k:Int)+1)] w fun e w' =>
   e=.returned (.slice (some ⟨b,0,none⟩) (n-1) c)∧w'.heap[b]?=some (.cells (splice (splice cur (k*4) xs) ((n-1)*4) zs4).toArray 97 (0,0))∧Below base w w':=by
 have q1:(k:Int)+1≤(n:Int):=by omega
 have q2:(0:Int)≤(k:Int)+1:=by omega
 have q3:¬((k:Int)=(k:Int)+1):=by omega
 have q4:(k:Int)≤(k:Int)+1:=by omega
 have HC:=zk hcl;have HX:=zk hx;have HL:=zk hxl;have HG:=zk hg;have H1:=zk h1;clear hcl hx hxl hg h1;have hsl1:=fun w=>zju b n c k w hk hnc
 have hsl3:=fun w=>ziz b n c k w hk hnc hcm
 have hcut:(splice cur (k*4) xs).length=c*4:=by rw[length_splice _ _ _ (by rw[HC.out,HL.out];omega),HC.out]
 have HS:=zk hcut;clear hcut;have hn1:k+(n-(k+1))=n-1:=by omega
 have HN1:=zk hn1;clear hn1
 by_cases hce:c=k+1
 ·have hnk:n=k+1:=by omega
  subst hce;subst hnk;clear hsl3;have hsl3:=fun w=>ziz b (k+1) (k+1) k w hk hnc hcm
  simp only[Nat.add_sub_cancel] at hsl3 HS;rw[show k+1-k=1 by omega] at hsl3;have hsl2:=fun w=>zoB b (k+1) k w rfl
  obtain rfl:xs=[]:=List.eq_nil_of_length_eq_zero (by rw[HL.out];omega);go_enter Tryz.func132,Tryz.ntmps132;go_wp2_with fail
  go_region_law (refine zfx rfl (.tmp 22) (.tmp 25) 56 rfl 97 4 Tryz.underlying56 zgZ b k (k+1) (some ⟨b,0,none⟩) 0 0 (by simp[Act.eval,Act.put]) (by simp[Act.eval,Act.put]) cur 97 [] HG.out rfl (by omega) (fun h=>absurd h (Nat.not_lt_zero _)) (by rw[HC.out];simp;omega) (by simp) base hbb ?_;intro w1 G1 hb1)
  obtain⟨w2,hcl,G2,hb2⟩:=zgz (P:=Tryz.prog) w1 56 97 0 _ 4 Tryz.underlying56 zeroB rfl (by decide) b (k*4) 1 1 _ 97 G1.out (by omega) (by have:=HS.out;omega) (by omega);have HG2:=zk G2;have HB2:=zk (hb2 base hbb);clear G2 hb2;go_wp2;go_ret;exact⟨rfl,HG2.out,((Below.refl _ _).drew.trans hb1).trans HB2.out⟩
 ·have hsl2:=fun w=>zfn b n c k w hk hce
  go_enter Tryz.func132,Tryz.ntmps132;go_wp2_with fail
  go_region_law (refine zfx rfl (.tmp 22) (.tmp 25) 56 rfl 97 4 Tryz.underlying56 zgZ b k c (some ⟨b,(k+1)*4,none⟩) (n-(k+1)) (c-(k+1)) (by simp[Act.eval,Act.put]) (by simp[Act.eval,Act.put]) cur 97 xs HG.out HL.out (by omega) (fun _=>⟨_,rfl,fun j v hj=>zcS HG.out _ _ _ (HX.out j v hj)⟩) (by rw[HC.out,HL.out];omega) H1.out base hbb ?_;intro w1 G1 hb1;rw[HN1.out])
  obtain⟨w2,hcl,G2,hb2⟩:=zgz (P:=Tryz.prog) w1 56 97 0 _ 4 Tryz.underlying56 zeroB rfl (by decide) b ((n-1)*4) 1 (c-(n-1)) _ 97 G1.out (by omega) (by rw[HS.out];omega) (by omega);have HG2:=zk G2;have HB2:=zk (hb2 base hbb);clear G2 hb2;go_wp2;go_ret;exact⟨rfl,HG2.out,((Below.refl _ _).drew.trans hb1).trans HB2.out⟩
theorem zeM{α:Type}(L cs:List α)(o:Nat)(h:o≤L.length):(splice L o cs).take (o+cs.length)=L.take o++cs:=by
 have e:(L.take o).length=o:=by rw[List.length_take];omega
 rw[splice,←List.append_assoc,List.take_append_of_le_length (by rw[List.length_append,e];exact Nat.le_refl _),List.take_of_length_le (by rw[List.length_append,e];exact Nat.le_refl _)]
theorem ze8{α:Type}(L cs:List α)(o m:Nat)(h:o≤L.length)(hm:m≤o):(splice L o cs).take m=L.take m:=by
 have e:(L.take o).length=o:=by rw[List.length_take];omega
 rw[splice,List.take_append_of_le_length (by rw[e];exact hm),List.take_take,Nat.min_eq_left hm]
theorem zhg(l:List Bf)(k:Nat):(zr l).take (k*4)=zr (l.take k):=by
 by_cases hk:k≤l.length
 ·have e:=zO (l.take k) (l.drop k);rw[List.take_append_drop] at e;have hl:(zr (l.take k)).length=k*4:=by rw[zaK,List.length_take,Nat.min_eq_left hk]
  rw[e,List.take_append_of_le_length (by omega),List.take_of_length_le (by omega)]
 ·rw[List.take_of_length_le (by rw[zaK];omega),List.take_of_length_le (by omega)]
theorem zhc(l:List Bf)(k j:Nat):(zr (l.drop k))[j]?=(zr l)[k*4+j]?:=by
 by_cases hk:k≤l.length
 ·have e:=zO (l.take k) (l.drop k);rw[List.take_append_drop] at e;have hl:(zr (l.take k)).length=k*4:=by rw[zaK,List.length_take,Nat.min_eq_left hk]
  rw[e,List.getElem?_append_right (by omega),hl]
  congr 1;omega
 ·rw[List.drop_eq_nil_of_le (by omega),List.getElem?_eq_none (by simp[zr]),List.getElem?_eq_none (by rw[zaK];omega)]
theorem delB(l:List Bf)(b c k base:Nat)(w:World)(hk:k<l.length)(hN:zaN base w (some ⟨b,0,none⟩) c l) :
  Calls Tryz.prog 132 #[.slice (some ⟨b,0,none⟩) l.length c,.int .i64 k,.int .i64 ((k:Int)+1)] w fun e w' =>
   e=.returned (.slice (some ⟨b,0,none⟩) (l.length-1) c)∧zaN base w' (some ⟨b,0,none⟩) c (l.eraseIdx k)∧Below base w w':=by
 have hb:=hN.here.2
 rcases hN.own.2 with⟨h,_⟩|⟨g,cap,cur,hv,hg,hh,hnc,hcm,hcs,ht⟩
 ·cases h
 ·simp only[Value.slice.injEq,Option.some.injEq,Addr.mk.injEq,and_true,true_and] at hv;obtain⟨rfl,rfl⟩:=hv;have hcm':c≤9223372036854775807:=by unfold maxLen at hcm;omega
  have hcl:cur.toList.length=c*4:=by rw[Array.length_toList];exact hcs
  have hxl:(zr (l.drop (k+1))).length=(l.length-(k+1))*4:=by rw[zaK,List.length_drop]
  refine(zpc b l.length c k cur.toList (zr (l.drop (k+1))) base w hg (by rw[Array.toArray_toList];exact hh) hcl hk hnc hcm' hxl (fun j v hj=>?_) (zcv _)).mono ?_
  ·rw[zhc,←ht,List.getElem?_take] at hj
   split at hj
   ·exact hj
   ·cases hj
  ·rintro e w' ⟨rfl,hrow,hB⟩;refine⟨rfl,?_,hB⟩;have hel:(l.eraseIdx k).length=l.length-1:=by rw[List.length_eraseIdx,if_pos hk]
   have hsl:(splice cur.toList (k*4) (zr (l.drop (k+1)))).length=c*4:=by rw[length_splice _ _ _ (by rw[hcl,hxl];omega),hcl]
   have ho:w'.ownsRow base 97 4 (.slice (some ⟨b,0,none⟩) (l.eraseIdx k).length c) (l.eraseIdx k).length (zr (l.eraseIdx k)):=by
    refine⟨zaK _,Or.inr ⟨b,c,_,rfl,hg,hrow,by omega,hcm,?_,?_⟩⟩
    ·rw[List.size_toArray,length_splice _ _ _ (by rw[hsl,zoh];omega),hsl]
    ·rw[List.toList_toArray,hel,ze8 _ _ _ _ (by rw[hsl];omega) (Nat.le_refl _),show(l.length-1)*4=k*4+(zr (l.drop (k+1))).length by rw[hxl];omega,zeM _ _ _ (by omega),List.eraseIdx_eq_take_drop_succ,zO,←zhg,←ht,List.take_take,Nat.min_eq_left (by omega)]
   obtain⟨a',c',hv,hN'⟩:=zaP ho rfl (by omega);simp only[Value.slice.injEq,true_and] at hv;obtain⟨rfl,rfl⟩:=hv;exact hN'
def bcs(x:Bf):List Value:=[x.cell 0,x.cell 1,x.cell 2,x.cell 3]
theorem zfW(x:Bf):zr [x]=bcs x:=rfl
theorem zrM(l:List Bf)(a:Option Addr)(c base vb:Nat)(x:Bf)(tv:TypeId)(w:World)(h8:l.length≤1000)(hbase:base≤w.heap.size)(hN:zaN base w a c l)(hv:w.heap[vb]?=some (.cells (bcs x).toArray tv (0,0))) :
  Calls Tryz.prog 134 #[.slice a l.length c,.int .i64 l.length,.slice (some ⟨vb,0,none⟩) 1 1] w fun e w' =>
   ∃a' c',e=.returned (.slice a' (l.length+1) c')∧zaN base w' a' c' (l++[x])∧Below base w w':=by
 obtain⟨i,hi,hz0,hz1,hz2⟩:=zaL ze5;have R:zaW w 4 (some ⟨vb,0,none⟩) 1 1 (zr [x]):=⟨rfl,zcv _,Or.inr ⟨_,rfl,fun j u hj=>by rw[zfW] at hj;exact zcS hv 0 j u (by simpa using hj)⟩⟩
 have HL:Hid (l.length≤1000):=h8;have HO:=zk hN.own;have HNil:=zk hN.nil;have cp:=hN.cap;clear hN hv
 cases a with
 |none =>
  obtain rfl:=HNil.out rfl;have h0:l.length=0:=by omega
  obtain rfl:=List.eq_nil_of_length_eq_zero h0;go_enter Tryz.func134,Tryz.ntmps134;go_wp2_with(at_builtin;refine zq rfl _ _ 56 rfl base 97 i _ 4 40 Tryz.underlying56 hi hz0 hz1 hz2 rfl (by decide) _ 0 [] rfl HO.out (some ⟨vb,0,none⟩) 1 1 (zr [x]) rfl R (by unfold maxLen;omega) (by omega) hbase ?_;intro v1 w2 hown1 hb1)
  all_goals
   rw[Nat.zero_add,List.nil_append] at hown1;obtain⟨a',c',rfl,hN'⟩:=zaP (l:=[x]) hown1 rfl (by simp;try omega);have HN:=zk hN';clear hN';go_wp2;go_ret;exact⟨a',c',rfl,HN.out,hb1⟩
 |some ad =>
  go_enter Tryz.func134,Tryz.ntmps134;go_wp2_with(at_builtin;refine zq rfl _ _ 56 rfl base 97 i _ 4 40 Tryz.underlying56 hi hz0 hz1 hz2 rfl (by decide) _ l.length (zr l) rfl HO.out (some ⟨vb,0,none⟩) 1 1 (zr [x]) rfl R (by unfold maxLen;omega) (by omega) hbase ?_;intro v1 w2 hown1 hb1)
  all_goals
   rw[←zO] at hown1;obtain⟨a',c',rfl,hN'⟩:=zaP (l:=l++[x]) hown1 (by simp) (by simp;try omega);have e:(l++[x]).length=l.length+1:=by simp
   have HN:=zk hN';clear hN';rw[e];clear e;go_wp2;go_ret;exact⟨a',c',rfl,HN.out,hb1⟩
theorem overB(vb b o lb cb:Nat)(w:World)(X cur:List Value)(tv tr:TypeId)(hne:vb ≠ b)(hv:w.heap[vb]?=some (.cells X.toArray tv (0,0)))(hg:w.heap[b]?=some (.cells cur.toArray tr (0,0)))(h0:cur.length ≠ 0) :
  (callFunc 151 #[.slice (some ⟨vb,0,none⟩) 1 1,.slice (some ⟨b,o,none⟩) lb cb]).run Tryz.prog w=.ok (.value (.bool false)) w:=by
 rw[run_callFunc_extern Tryz.func151 (by kernel_rfl) (by kernel_rfl) (by kernel_rfl) (e:=Extern.SlicesOverlaps.overlaps #[56,56] #[4]) (by kernel_rfl),
  Lib.run_overlaps_apart w 56 4 97 Tryz.underlying56 4 Tryz.sizeOf97 ⟨vb,0,none⟩ ⟨b,o,none⟩ 1 1 lb cb hne tv tr X.length cur.length (by simp[World.shape?,hv]) (by simp[World.shape?,hg]) h0 (by simp[World.frozen?,hv]) (by simp[World.frozen?,hv])]
 rfl
theorem zmq(b n c:Nat)(w:World)(hroom:n+1≤c):(Instr.slice 56 (.slice (some ⟨b,0,none⟩) n c) none (some (.int .i64 ((n:Int)+1))) none).run Tryz.prog w=.ok (.slice (some ⟨b,0,none⟩) (n+1) c) w:=by
 have h1:(0:Int)≤(n:Int)+1:=by omega
 have h2:(n:Int)+1≤(c:Int):=by omega
 have h3:((n:Int)+1).toNat=n+1:=by omega
 simp[go_sem,h1,h2,h3]
theorem ze1(b n c i:Nat)(w:World)(hlt:i<n)(hcap:n≤c):(Instr.slice 56 (.slice (some ⟨b,0,none⟩) n c) (some (.int .i64 (i:Int))) none none).run Tryz.prog w=.ok (.slice (some ⟨b,i*4,none⟩) (n-i) (c-i)) w:=by
 have h1:i≤n:=by omega
 have h2:¬c=i:=by omega
 simp[go_sem,h1,h2]
theorem zoC(b n c i vb:Nat)(cur xs X:List Value)(tv:TypeId)(base:Nat)(w:World)(hbb:base≤b)(hne:vb ≠ b)(hg:w.heap[b]?=some (.cells cur.toArray 97 (0,0)))(hcl:cur.length=c*4)(hi:i<n)(hroom:n+1≤c)(hcm:c≤9223372036854775807)
  (hxl:xs.length=(n-i)*4) (hx:∀j v,xs[j]?=some v→cur[i*4+j]?=some v) (h1:∀v∈xs,v.oneCell'=true) (hv:w.heap[vb]?=some (.cells X.toArray tv (0,0))) (hXl:X.length=4) (hX1:∀v∈X,v.oneCell'=true) :
  Calls Tryz.prog 134 #[.slice (some ⟨b,0,none⟩) n c,.int .i64 i,.slice (some ⟨vb,0,none⟩) 1 1] w fun e w' =>
   e=.returned (.slice (some ⟨b,0,none⟩) (n+1) c)∧w'.heap[b]?=some (.cells (splice (splice cur ((i+1)*4) xs) (i*4) X).toArray 97 (0,0))∧Below base w w':=by
 have q1:¬((i:Int)=(n:Int)):=by omega
 have q2:¬((c:Int)<(n:Int)+1):=by omega
 have hwr:IntKind.i64.wrap ((n:Int)+1)=(n:Int)+1:=by rw[IntKind.wrap_i64];omega
 have hwi:IntKind.i64.wrap ((i:Int)+1)=(i:Int)+1:=by rw[IntKind.wrap_i64];omega
 have hov:=fun o lb cb=>overB vb b o lb cb w X cur tv 97 hne hv hg (by omega)
 have hs1:=fun w=>zmq b n c w hroom
 have hs2:=fun w=>zfn b (n+1) c i w (by omega) (by omega)
 have hs3:=fun w=>ze1 b (n+1) c i w (by omega) hroom
 have hs4:=fun w=>ze1 b n c i w hi (by omega)
 have e1:cur.length=c*4∧xs.length=(n-i)*4∧X.length=4:=⟨hcl,hxl,hXl⟩
 have HE:=zk e1;have HX:=zk hx;have HG:=zk hg;have H1:=zk h1;have HV:=zk hv;have HX1:=zk hX1;have HM:Hid (Nat.min (n+1-i) (n+1-(i+1))=n-i):=(by show Nat.min (n+1-i) (n+1-(i+1))=n-i;simp only[Nat.min_def];split<;>omega)
 have HM2:Hid (Nat.min 1 (n+1-i)=1):=(by show Nat.min 1 (n+1-i)=1;simp only[Nat.min_def];split<;>omega)
 clear e1 hcl hx hxl hg h1 hv hXl hX1;go_enter Tryz.func134,Tryz.ntmps134;go_wp2_with fail
 go_region_law (refine zgv rfl (.tmp 73) (.tmp 76) 56 56 rfl 97 4 Tryz.underlying56 zgZ (some ⟨b,(i+1)*4,none⟩) (some ⟨b,i*4,none⟩) (n+1-(i+1)) (c-(i+1)) (n+1-i) (c-i) (by simp[Act.eval,Act.put]) (by simp[Act.eval,Act.put]) b ((i+1)*4) cur 97 xs HG.out (by rw[HE.out.2.1,HM.out]) (fun _=>⟨rfl,_,rfl,fun j v hj=>zcS HG.out _ _ _ (HX.out j v hj)⟩) (by rw[HE.out.1,HE.out.2.1];omega) H1.out base hbb ?_;intro w1 n1 G1 hb1 K1)
 have HV1:Hid (w1.heap[vb]?=some (.cells X.toArray tv (0,0))):=(K1.out vb hne).trans HV.out;have HS:Hid ((splice cur ((i+1)*4) xs).length=c*4):=(by show _=_;rw[length_splice _ _ _ (by rw[HE.out.1,HE.out.2.1];omega),HE.out.1])
 obtain⟨w2,hcp,G2,hb2,K2⟩:=zfl (P:=Tryz.prog) w1 56 56 3 97 4 (some ⟨b,i*4,none⟩) (some ⟨vb,0,none⟩) (n+1-i) (c-i) 1 1 b (i*4) _ 97 X Tryz.underlying56 zgZ G1.out (by rw[HE.out.2.2,HM2.out]) (fun _=>⟨rfl,_,rfl,fun j v hj=>zcS HV1.out _ _ _ (by simpa using hj)⟩) (by rw[HS.out,HE.out.2.2];omega) HX1.out;have HG2:=zk G2;have HB2:=zk (hb2 base hbb);clear G2 hb2 K2;go_wp2;go_ret;exact⟨rfl,HG2.out,((Below.refl _ _).drew.trans hb1).trans HB2.out⟩
theorem zqh(b n i vb:Nat)(ys xs X:List Value)(tv:TypeId)(w:World)(hi:i<n)(hn:n≤1000)
  (hyl:ys.length=i*4) (hy:∀j v,ys[j]?=some v→w.cell? ⟨b,j,none⟩=some v) (hlt:b<w.heap.size)
  (hxl:xs.length=(n-i)*4) (hx:∀j v,xs[j]?=some v→w.cell? ⟨b,i*4+j,none⟩=some v) (h1:∀v∈xs,v.oneCell'=true) (hv:w.heap[vb]?=some (.cells X.toArray tv (0,0))) (hvl:vb<w.heap.size) (hXl:X.length=4) (hX1:∀v∈X,v.oneCell'=true) :
  Calls Tryz.prog 134 #[.slice (some ⟨b,0,none⟩) n n,.int .i64 i,.slice (some ⟨vb,0,none⟩) 1 1] w fun e w' =>
   ∃G ROW,e=.returned (.slice (some ⟨w.heap.size,0,none⟩) (n+1) G)∧n+1≤G∧G≤maxLen∧ROW.length=G*4∧ROW.take (i*4)=ys∧w'.heap[w.heap.size]?=some (.cells (splice (splice ROW (i*4) X) ((i+1)*4) xs).toArray 97 (0,0))∧Below w.heap.size w w':=by
 have q1:¬((i:Int)=(n:Int)):=by omega
 have q2:((n:Int)<(n:Int)+1):=by omega
 have hwr:IntKind.i64.wrap ((n:Int)+1)=(n:Int)+1:=by rw[IntKind.wrap_i64];omega
 have hwi:IntKind.i64.wrap ((i:Int)+1)=(i:Int)+1:=by rw[IntKind.wrap_i64];omega
 have hws:IntKind.i64.wrap ((n:Int)+1-(i:Int))=(n:Int)+1-(i:Int):=by rw[IntKind.wrap_i64];omega
 obtain⟨i0,hi0,hz0,hzs,hzb⟩:=zaL ze5;have hold:(Builtin.firstCells i0.size i (.slice (some ⟨b,0,none⟩) i n)).run Tryz.prog w.drew=.ok ys.toArray w.drew:=by
  rw[hzs];exact run_firstCells_some w.drew 4 i ⟨b,0,none⟩ i n ys (by omega) (fun j v hj=>by rw[zdQ,Nat.zero_add];exact hy j v hj)
 have hik:i+(n+1-i)=n+1:=by omega
 have hkk:(n:Int)+1-(i:Int)=((n+1-i:Nat):Int):=by omega
 obtain⟨G,hG⟩:∃G,G=grownCap w (n+1) n 97:=⟨_,rfl⟩
 obtain⟨ROW,hROW⟩:∃ROW:List Value,ROW=(ys.toArray++(Builtin.zeroCells (Value.agg #[.int .i64 0,.string ByteArray.empty,.bool false,.int .i64 0]).cells (n+1-i))++(Builtin.zeroCells (Value.agg #[.int .i64 0,.string ByteArray.empty,.bool false,.int .i64 0]).cells (G-(n+1)))).toList:=⟨_,rfl⟩
 have hrz:∀ty,(Builtin.append_ #[56,3] ty #[.slice (some ⟨b,0,none⟩) i n,.int .i64 ((n:Int)+1-(i:Int))]).run Tryz.prog w =
   .ok (.slice (some ⟨w.heap.size,0,none⟩) (n+1) G) (w.drew.alloc (.cells ROW.toArray 97)):=fun ty=>by
  have h:=Lib.run_append_grow_zeros w 56 3 ty 97 i0 _ .i64 .i64 Tryz.underlying56 Tryz.underlying3 hi0 hz0 (some ⟨b,0,none⟩) i n ys hold (n+1-i) (by omega) (by omega) (by omega) (by omega) (by rw[hzb];omega) (by rw[hzb,hik];exact growslice_fits (by omega) (by omega));rw[hik,←hG] at h;rw[hkk,h,hROW,Array.toArray_toList]
 have hge:n+1≤G:=by rw[hG];exact grownCap_ge w _ _ _
 have hGm:G≤maxLen:=by rw[hG];exact grownCap_le_maxLen w (n+1) n _ (by unfold maxLen;omega)
 have hG63:G≤9223372036854775807:=by unfold maxLen at hGm;omega
 have hRl:ROW.length=G*4:=by
  rw[hROW];simp only[Array.size_append,Array.length_toList,size_zeroCells,List.size_toArray,hyl]
  simp[Value.cells]
  omega
 have hRt:ROW.take (i*4)=ys:=by rw[hROW,Array.toList_append,Array.toList_append,List.toList_toArray,List.append_assoc,List.take_append_of_le_length (by omega),List.take_of_length_le (by omega)]
 clear hROW hold hG hkk hik;obtain⟨W1,hW1⟩:∃W1,W1=w.drew.alloc (.cells ROW.toArray 97):=⟨_,rfl⟩
 rw[←hW1] at hrz;have g1:W1.heap[w.heap.size]?=some (.cells ROW.toArray 97 (0,0)):=by rw[hW1];exact heap_alloc_new w.drew _
 have b1:Below w.heap.size w W1:=by rw[hW1];exact((Below.refl _ _).drew).alloc (Nat.le_refl _) _
 have o1:∀k,k<w.heap.size→W1.heap[k]?=w.heap[k]?:=fun k hk=>by rw[hW1];exact Below.heap_alloc w.drew _ k hk
 have z1:W1.heap.size=w.heap.size+1:=by rw[hW1];simp
 have e1:ROW.length=G*4∧xs.length=(n-i)*4∧X.length=4:=⟨hRl,hxl,hXl⟩
 clear hW1;have hM2:Nat.min 1 (n+1-i)=1:=by simp only[Nat.min_def];split<;>omega
 have hM:Nat.min (n-i) (n+1-(i+1))=n-i:=by simp only[Nat.min_def];split<;>omega
 have hv1:W1.heap[vb]?=some (.cells X.toArray tv (0,0)):=(o1 vb hvl).trans hv;obtain⟨W2,hc1,g2,bb2,o2⟩:=zfl (P:=Tryz.prog) W1 56 56 3 97 4 (some ⟨w.heap.size,i*4,none⟩) (some ⟨vb,0,none⟩) (n+1-i) (G-i) 1 1 w.heap.size (i*4) _ 97 X Tryz.underlying56 zgZ g1 (by rw[hM2,hXl]) (fun _=>⟨rfl,_,rfl,fun j v hj=>zcS hv1 _ _ _ (by simpa using hj)⟩) (by rw[hRl,hXl];omega) hX1;have s2:(splice ROW (i*4) X).length=G*4:=by rw[length_splice _ _ _ (by rw[hRl,hXl];omega),hRl]
 have src:∀j v,xs[j]?=some v→W2.cell? (Addr.add ⟨b,i*4,none⟩ j)=some v:=fun j v hj=>by
  rw[zdQ];have:=hx j v hj;simp only[World.cell?] at this ⊢;rw[o2 b (by omega),o1 b hlt];exact this
 have HE:=zk e1;have HS:=zk src;have HG2:=zk g2;have H1:=zk h1;have HT:=zk hRt;have HB:=zk (b1.trans (bb2 w.heap.size (Nat.le_refl _)));have HL2:=zk s2;have HM:=zk hM;have hs1:=fun w'=>zju b n n i w' hi (Nat.le_refl _)
 have hs2:=fun w'=>ze1 w.heap.size (n+1) G i w' (by omega) hge
 have hs3:=fun w'=>zfn w.heap.size (n+1) G i w' (by omega) (by omega)
 have hs4:=fun w'=>ze1 b n n i w' hi (Nat.le_refl _)
 have hcp1:=hc1;clear hc1 e1 src g2 h1 hRt b1 bb2 s2 hM o1 o2 z1 hRl hxl hXl hx hy hyl hv hv1 g1 hX1 hM2 hG63;go_enter Tryz.func134,Tryz.ntmps134;go_wp2_with(at_builtin;refine Lib.wpList_append_run _ rfl _ _ _ _ rfl _ _ rfl rfl _ _ (hrz _) ?_)
 go_region_law (refine zgv rfl (.tmp 50) (.tmp 53) 56 56 rfl 97 4 Tryz.underlying56 zgZ (some ⟨w.heap.size,(i+1)*4,none⟩) (some ⟨b,i*4,none⟩) (n+1-(i+1)) (G-(i+1)) (n-i) (n-i) (by simp[Act.eval,Act.put]) (by simp[Act.eval,Act.put]) w.heap.size ((i+1)*4) (splice ROW (i*4) X) 97 xs HG2.out (by rw[HE.out.2.1,HM.out]) (fun _=>⟨rfl,_,rfl,HS.out⟩) (by rw[HL2.out,HE.out.2.1];omega) H1.out w.heap.size (Nat.le_refl _) ?_;intro w3 n3 G3 hb3 K3)
 go_wp2;go_ret;exact⟨G,ROW,rfl,hge,hGm,HE.out.1,HT.out,G3.out,(HB.out.drew).trans hb3⟩
theorem insB(l:List Bf)(a:Option Addr)(c base vb i:Nat)(x:Bf)(tv:TypeId)(w:World)(hi:i≤l.length)(h8:l.length≤1000)(hbase:base≤w.heap.size)(hN:zaN base w a c l)(hv:w.heap[vb]?=some (.cells (bcs x).toArray tv (0,0)))
  (hne:∀b,a=some ⟨b,0,none⟩→vb ≠ b) :
  Calls Tryz.prog 134 #[.slice a l.length c,.int .i64 i,.slice (some ⟨vb,0,none⟩) 1 1] w fun e w' =>
   ∃a' c',e=.returned (.slice a' (l.length+1) c')∧zaN base w' a' c' (l.take i++x::l.drop i)∧Below base w w':=by
 have hvl:vb<w.heap.size:=by
  rcases Nat.lt_or_ge vb w.heap.size with h'|h'
  ·exact h'
  ·rw[Array.getElem?_eq_none h'] at hv;cases hv
 by_cases hin:i=l.length
 ·subst hin;rw[List.take_length,List.drop_length];exact zrM l a c base vb x tv w h8 hbase hN hv
 ·have hlt:i<l.length:=by omega
  have h0:l ≠ []:=by rintro rfl;exact absurd hlt (Nat.not_lt_zero _)
  obtain⟨b,rfl,hbb,hblt,hfz⟩:=hN.place h0;have hne:=hne b rfl;have hnl:(l.take i++x::l.drop i).length=l.length+1:=by simp;omega
  have hcells:zr (l.take i++x::l.drop i)=zr (l.take i)++bcs x++zr (l.drop i):=by
   rw[show l.take i++x::l.drop i=l.take i++[x]++l.drop i by simp,zO,zO,zfW]
  have hdl:(zr (l.drop i)).length=(l.length-i)*4:=by rw[zaK,List.length_drop]
  have hX1:∀v∈bcs x,v.oneCell'=true:=by rw[←zfW];exact zcv _
  rcases hN.own.2 with⟨h,_⟩|⟨g,cap,cur,hvv,hg,hh,hnc,hcm,hcs,ht⟩
  ·cases h
  ·simp only[Value.slice.injEq,Option.some.injEq,Addr.mk.injEq,and_true,true_and] at hvv;obtain⟨rfl,rfl⟩:=hvv;have hcm':c≤9223372036854775807:=by unfold maxLen at hcm;omega
   have hcl:cur.toList.length=c*4:=by rw[Array.length_toList];exact hcs
   have hh':w.heap[b]?=some (.cells cur.toList.toArray 97 (0,0)):=by rw[Array.toArray_toList];exact hh
   have hxs:∀j v,(zr (l.drop i))[j]?=some v→cur.toList[i*4+j]?=some v:=fun j v hj=>by
    rw[zhc,←ht,List.getElem?_take] at hj
    split at hj
    ·exact hj
    ·cases hj
   have hys:(zr (l.take i))=cur.toList.take (i*4):=by rw[←zhg,←ht,List.take_take,Nat.min_eq_left (by omega)]
   by_cases hroom:l.length+1≤c
   ·refine(zoC b l.length c i vb cur.toList (zr (l.drop i)) (bcs x) tv base w hg hne hh' hcl hlt hroom hcm' hdl hxs (zcv _) hv rfl hX1).mono ?_;rintro e w' ⟨rfl,hrow,hB⟩;have hsl:(splice cur.toList ((i+1)*4) (zr (l.drop i))).length=c*4:=by rw[length_splice _ _ _ (by rw[hcl,hdl];omega),hcl]
    have hX4:(bcs x).length=4:=rfl;have ho:w'.ownsRow base 97 4 (.slice (some ⟨b,0,none⟩) (l.take i++x::l.drop i).length c) (l.take i++x::l.drop i).length (zr (l.take i++x::l.drop i)):=by
     refine⟨zaK _,Or.inr ⟨b,c,_,rfl,hg,hrow,by omega,hcm,?_,?_⟩⟩
     ·rw[List.size_toArray,length_splice _ _ _ (by rw[hsl,hX4];omega),hsl]
     ·rw[List.toList_toArray,hnl,hcells];have e1:(splice (splice cur.toList ((i+1)*4) (zr (l.drop i))) (i*4) (bcs x))=cur.toList.take (i*4)++(bcs x++(splice cur.toList ((i+1)*4) (zr (l.drop i))).drop ((i+1)*4)):=by
       rw[splice,ze8 _ _ _ _ (by omega) (by omega),hX4,show i*4+4=(i+1)*4 by omega]
      have e2:(splice cur.toList ((i+1)*4) (zr (l.drop i))).drop ((i+1)*4)=zr (l.drop i)++cur.toList.drop ((i+1)*4+(zr (l.drop i)).length):=by
       rw[splice,List.drop_append_of_le_length (by rw[List.length_take];omega),List.drop_eq_nil_of_le (by rw[List.length_take];omega),List.nil_append]
      rw[e1,e2,←hys,←List.append_assoc,←List.append_assoc,List.take_append_of_le_length (by simp only[List.length_append,hX4,hdl,zaK,List.length_take];omega),List.take_of_length_le (by simp only[List.length_append,hX4,hdl,zaK,List.length_take];omega)]
    obtain⟨a',c',hv',hN'⟩:=zaP ho rfl (by omega);simp only[Value.slice.injEq,true_and] at hv';obtain⟨rfl,rfl⟩:=hv';exact⟨_,_,rfl,hN',hB⟩
   ·obtain rfl:c=l.length:=by omega
    refine(zqh b l.length i vb (zr (l.take i)) (zr (l.drop i)) (bcs x) tv w hlt h8 (by rw[zaK,List.length_take];omega) (fun j v hj=>?_) hblt hdl (fun j v hj=>?_) (zcv _) hv hvl rfl hX1).mono ?_
    ·have:=zcS hh' 0 j v (by
      rw[hys,List.getElem?_take] at hj
      split at hj
      ·simpa using hj
      ·cases hj)
     rw[zdQ,Nat.zero_add] at this;exact this
    ·have:=zcS hh' (i*4) j v (hxs j v hj);rw[zdQ] at this;exact this
    ·rintro e w' ⟨G,ROW,rfl,hge,hGm,hRl,hRt,hrow,hB⟩;have hX4:(bcs x).length=4:=rfl;have hsl:(splice ROW (i*4) (bcs x)).length=G*4:=by rw[length_splice _ _ _ (by rw[hRl,hX4];omega),hRl]
     have ho:w'.ownsRow base 97 4 (.slice (some ⟨w.heap.size,0,none⟩) (l.take i++x::l.drop i).length G) (l.take i++x::l.drop i).length (zr (l.take i++x::l.drop i)):=by
      refine⟨zaK _,Or.inr ⟨w.heap.size,G,_,rfl,hbase,hrow,by omega,hGm,?_,?_⟩⟩
      ·rw[List.size_toArray,length_splice _ _ _ (by rw[hsl,hdl];omega),hsl]
      ·rw[List.toList_toArray,hnl,hcells,show(l.length+1)*4=(i+1)*4+(zr (l.drop i)).length by rw[hdl];omega,zeM _ _ _ (by rw[hsl];omega),show(i+1)*4=i*4+(bcs x).length by rw[hX4];omega,zeM _ _ _ (by rw[hRl];omega),hRt]
     obtain⟨a',c',hv',hN'⟩:=zaP ho rfl (by omega);simp only[Value.slice.injEq,true_and] at hv';obtain⟨rfl,rfl⟩:=hv';refine⟨_,_,?_,hN',hB.mono hbase⟩
     rfl
theorem zm{w w':World}{base size n:Nat}{e:TypeId}{v:Value}{xs:List Value}(h:w.ownsRow base e size v n xs)(hb:Below w.heap.size w w'):w'.ownsRow base e size v n xs:=by
 refine⟨h.1,h.2.elim Or.inl (fun⟨g,cap,cur,hv,hg,hh,r⟩=>Or.inr ⟨g,cap,cur,hv,hg,?_,r⟩)⟩;have hlt:g<w.heap.size:=by
  rcases Nat.lt_or_ge g w.heap.size with h'|h'
  ·exact h'
  ·rw[Array.getElem?_eq_none h'] at hh;cases hh
 rw[hb.block g hlt];exact hh
theorem zaN.later{base:Nat}{w w':World}{a:Option Addr}{c:Nat}{l:List Bf}(h:zaN base w a c l)(hb:Below w.heap.size w w'):zaN base w' a c l :=
 ⟨h.here.later hb,h.cap,h.capM,h.nil,zm h.own hb⟩
theorem zaN.lt{base:Nat}{w:World}{a:Option Addr}{c:Nat}{l:List Bf}(h:zaN base w a c l)(b:Nat)(hb:a=some ⟨b,0,none⟩):b<w.heap.size:=by
 subst hb
 rcases h.own.2 with⟨h1,_⟩|⟨g,cap,cur,h1,hg,hh,_⟩
 ·cases h1
 ·simp only[Value.slice.injEq,Option.some.injEq,Addr.mk.injEq,and_true] at h1;obtain⟨rfl,_⟩:=h1
  rcases Nat.lt_or_ge b w.heap.size with h'|h'
  ·exact h'
  ·rw[Array.getElem?_eq_none h'] at hh;cases hh
theorem insP(l:List Bf)(a:Option Addr)(c base i:Nat)(x:Bf)(w:World)(hi:i≤l.length)(h8:l.length≤1000)(hbase:base≤w.heap.size)(hN:zaN base w a c l) :
  Calls Tryz.prog 134 #[.slice a l.length c,.int .i64 i,.slice (some ⟨w.heap.size,0,none⟩) 1 1] (w.alloc (.cells #[.int .i64 x.pl,.string x.data,.bool x.dirty,.int .i64 x.used] 97)) fun e w' =>
   ∃a' c',e=.returned (.slice a' (l.length+1) c')∧zaN base w' a' c' (l.take i++x::l.drop i)∧Below base w w'∧l.length+1≤c':=by
 refine(insB l a c base w.heap.size i x 97 _ hi h8 (by simp;omega) (hN.later (zn _ _)) (heap_alloc_new _ _) (fun b hb=>?_)).mono ?_
 ·have:=hN.lt b hb;omega
 ·rintro e w' ⟨a',c',he,h1,h2⟩;refine⟨a',c',he,h1,((zn _ _).mono hbase).trans h2,?_⟩;have:=h1.cap;rw[show(l.take i++x::l.drop i).length=l.length+1 by simp;omega] at this;exact this
def zbh(w:World)(b:Nat)(x:Bf):Prop:=w.cell? ⟨b,0,none⟩=some (.int .i64 x.pl)∧w.cell? ⟨b,1,none⟩=some (.string x.data)∧w.cell? ⟨b,2,none⟩=some (.bool x.dirty)∧w.cell? ⟨b,3,none⟩=some (.int .i64 x.used)
theorem zbh.later{w w':World}{b:Nat}{x:Bf}(h:zbh w b x)(hb:Below w.heap.size w w'):zbh w' b x :=
 ⟨cellB_later' hb h.1,cellB_later' hb h.2.1,cellB_later' hb h.2.2.1,cellB_later' hb h.2.2.2⟩
theorem zbh.below{w w':World}{b base:Nat}{x:Bf}(h:zbh w b x)(hb:Below base w w')(hlt:b<base):zbh w' b x :=
 ⟨by rw[hb.cell hlt];exact h.1,by rw[hb.cell hlt];exact h.2.1,by rw[hb.cell hlt];exact h.2.2.1,by rw[hb.cell hlt];exact h.2.2.2⟩
def gtB(at':Int)(x:Bf):Bool:=decide (at'<x.pl)
theorem zre(y x:Bf)(pb:Nat)(w:World)(hp:zbh w pb x) :
  Calls Tryz.prog 133 #[y.val,.pointer (some ⟨pb,0,none⟩)] w fun e w'=>e=.returned (.bool (gtB x.pl y))∧Below w.heap.size w w':=by
 have hp':=zdY hp.1;clear hp;go_enter Tryz.func133,Tryz.ntmps133;go_wp2;go_ret;exact⟨rfl,by(with_reducible repeat first|exact Below.refl _ _|refine zc ?_ _|refine zd ?_|refine bset' ?_ (by omega) _|refine zb ?_ (by assumption))⟩
theorem zjq(x:Bf)(pb:Nat)(l:List Bf)(a:Option Addr)(c:Nat)(w:World)(hl:zB w a l)(hp:zbh w pb x)(r:Int)(hr:zap (gtB x.pl) l=r) :
  Calls Tryz.prog 117 #[.slice a l.length c,.func (.func 133) #[] #[.pointer (some ⟨pb,0,none⟩)]] w fun e w'=>e=.returned (.int .i64 r)∧Below w.heap.size w w':=by
 subst hr;exact zhZ 133 (by intro args w;go_simp) (.pointer (some ⟨pb,0,none⟩)) (gtB x.pl) l a c w hl (fun y w' hb=>zre y x pb w' (hp.later hb))
def zbX(at':Int)(l:List Bf):Nat:=match l.findIdx? (gtB at') with|some k=>k|none=>l.length
def zcL(l:List Bf)(x:Bf):List Bf:=l.take (zbX x.pl l)++x::l.drop (zbX x.pl l)
theorem zi6(at':Int)(l:List Bf):zbX at' l≤l.length:=by
 unfold zbX
 cases e:l.findIdx? (gtB at') with
 |none=>exact Nat.le_refl _
 |some k =>
  rw[List.findIdx?_eq_some_iff_getElem] at e;exact Nat.le_of_lt e.1
theorem gt_idx(at':Int)(l:List Bf):(zap (gtB at') l=-1∧zbX at' l=l.length)∨zap (gtB at') l=(zbX at' l:Int):=by
 unfold zap zbX
 cases e:l.findIdx? (gtB at') with
 |none=>exact Or.inl ⟨rfl,rfl⟩
 |some k=>exact Or.inr rfl
theorem zm4(at':Int)(l:List Bf):(zap (gtB at') l=-1∧zbX at' l=l.length)∨(zap (gtB at') l=(zbX at' l:Int)∧zbX at' l=zbX at' l):=(gt_idx at' l).imp id (fun h=>⟨h,rfl⟩)
theorem zB.set4{w:World}{b:Nat}{l:List Bf}(h:zB w (some ⟨b,0,none⟩) l){k:Nat}(hk:k<l.length)(x:Bf) :
  zB ((((w.setCell ⟨b,k*4,none⟩ (.int .i64 x.pl)).setCell ⟨b,k*4+1,none⟩ (.string x.data)).setCell ⟨b,k*4+2,none⟩ (.bool x.dirty)).setCell ⟨b,k*4+3,none⟩ (.int .i64 x.used)) (some ⟨b,0,none⟩) (l.set k x):=by
 have h1:=h.set hk 0 (by omega) { l[k] with pl:=x.pl } (.int .i64 x.pl) rfl (fun i hi hne=>by rcases(show i=1∨i=2∨i=3 by omega) with rfl|rfl|rfl<;>rfl);have h2:=h1.set (k:=k) (by simpa using hk) 1 (by omega) { l[k] with pl:=x.pl,data:=x.data } (.string x.data) rfl (fun i hi hne=>by rw[List.getElem_set_self];rcases(show i=0∨i=2∨i=3 by omega) with rfl|rfl|rfl<;>rfl);rw[List.set_set] at h2;have h3:=h2.set (k:=k) (by simpa using hk) 2 (by omega) { x with used:=l[k].used } (.bool x.dirty) rfl (fun i hi hne=>by rw[List.getElem_set_self];rcases(show i=0∨i=1∨i=3 by omega) with rfl|rfl|rfl<;>rfl);rw[List.set_set] at h3;have h4:=h3.set (k:=k) (by simpa using hk) 3 (by omega) x (.int .i64 x.used) rfl (fun i hi hne=>by rw[List.getElem_set_self];rcases(show i=0∨i=1∨i=2 by omega) with rfl|rfl|rfl<;>rfl);rw[List.set_set] at h4
 simpa using h4
theorem zqN(gh:Nat)(egh:∀args w,(callFunc gh args).run Tryz.prog w=.ok (.enter gh args) w)(hc:Array Value)(H:Int→Bool)(l:List Bf)(a:Option Addr)(c:Nat)(x:Bf)(w:World)(hl:zB w a l)(hn:a=none→c=0)(h8:l.length=8)(hi:zap (plB x.pl) l=-1)
  (hh:∀n w',Below w.heap.size w w'→Calls Tryz.prog gh (#[.int .i64 n]++hc) w' fun e w''=>e=.returned (.bool (H n))∧Below w'.heap.size w' w'') (hr:zab (zaw false H) l l.length=-1) :
  Calls Tryz.prog 107 #[.slice a l.length c,x.val,.func (.func gh) #[] hc] w fun e w'=>e=.returned (.tuple #[.slice none 0 0,.iface 88 (.int .i64 7)])∧Below w.heap.size w w':=by
 have HI:=zk hi;have HH:=zk hh;have HR:=zk hr;have H8:=zk h8;have h8':(8:Int)≤(l.length:Int):=by omega
 clear hi hh hr h8;have b0:=zn w (.cells #[.int .i64 x.pl,.string x.data,.bool x.dirty,.int .i64 x.used] 97);go_enter Tryz.func107,Tryz.ntmps107;go_wp2_with fail;refine(zbU l a c _ (hl.later b0) hn (by have:=H8.out;omega)).mono ?_;rintro e w1 ⟨a1,c1,rfl,hN,hb1⟩;have F1:zbh w1 w.heap.size x:=zbh.later ⟨by simp,by simp,by simp,by simp⟩ hb1;have HB1:Below w.heap.size w w1:=zb b0 hb1;have hN1:zaN (w.heap.size+1) w1 a1 c1 l:=by simpa using hN
 clear hN hb1 b0;obtain⟨p0,p1,p2,p3⟩:=id F1;go_wp2_with fail;refine(zbW l a1 c1 x.pl _ hN1.here _ HI.out).mono ?_;rintro e w2 ⟨rfl,hb2⟩;have HB2:=zb HB1 hb2;have hN2:=hN1.later hb2;clear hb2 HB1 F1 p0 p1 p2 p3 hN1;go_wp2_with fail;refine(zda false gh egh hc H l a1 c1 _ hN2.here (fun n w' hb=>HH.out n w' (zb HB2 hb)) _ HR.out).mono ?_;rintro e w3 ⟨rfl,hb3⟩;have HB3:=zb HB2 hb3;clear hb3 HB2 hN2;go_wp2
 go_ret2
 exact⟨rfl,HB3⟩
structure zbq(l:List Bf):Prop where
 len:l.length≤8
 ok:∀i (h:i<l.length),0≤l[i].pl∧l[i].pl≤31∧l[i].data.size≤10
 rise:∀i (h:i+1<l.length),l[i].pl<l[i+1].pl
theorem zbq.lt{l:List Bf}(h:zbq l):∀(d i:Nat) (hj:i+d+1<l.length),l[i].pl<l[i+d+1].pl:=by
 intro d
 induction d with
 |zero=>intro i hj;exact h.rise i hj
 |succ d ih =>
  intro i hj;have a:=ih i (by omega);have b:=h.rise (i+d+1) (by omega);have e:i+(d+1)+1=i+d+1+1:=by omega
  simp only[e]
  omega
theorem zbq.lt'{l:List Bf}(h:zbq l)(i j:Nat)(hij:i<j)(hj:j<l.length):(l[i]'(by omega)).pl<l[j].pl:=by
 have:=h.lt (j-i-1) i (by omega);have e:i+(j-i-1)+1=j:=by omega
 simp only[e] at this;exact this
theorem zbq.once{l:List Bf}(h:zbq l):zeY l:=by
 intro i j hi hj e
 rcases Nat.lt_trichotomy i j with h'|h'|h'
 ·have:=h.lt' i j h' hj;omega
 ·exact h'
 ·have:=h.lt' j i h' hi;omega
def zin(w:World)(pb:Nat)(B:Nat→Bool):Prop:=∀i,i<32→w.cell? ⟨pb,i,none⟩=some (.bool (B i))
theorem zin.later{w w':World}{pb:Nat}{B:Nat→Bool}(h:zin w pb B)(hb:Below w.heap.size w w'):zin w' pb B:=fun i hi=>cellB_later' hb (h i hi)
def zbT(B:Nat→Bool)(n:Int):Bool:=decide (0≤n)&&(decide (n<32)&&B n.toNat)
theorem zbq.neg{l:List Bf}(h:zbq l):zap (plB (-1)) l=-1:=by
 apply zhT;intro j hj;have:=(h.ok j hj).1;simp only[plB,beq_eq_false_iff_ne];omega
theorem zbq.at{l:List Bf}(h:zbq l)(j:Nat)(hj:j<l.length):zap (plB l[j].pl) l=j:=by
 apply zj0 hj (by simp[plB]);intro i hi;have:=h.lt' i j hi hj;simp only[plB,beq_eq_false_iff_ne];omega
def zeX(l:List Bf)(x:Bf)(H:Int→Bool)(m:List Bf):Prop :=
 (∃k:Nat,∃_:k<l.length,zap (plB x.pl) l=k∧m=l.set k x) ∨
 (zap (plB x.pl) l=-1∧l.length<8∧m=zcL l x) ∨
 (zap (plB x.pl) l=-1∧l.length=8∧∃k:Nat,∃_:k<l.length,zab (zaw false H) l l.length=k∧m=zcL (l.eraseIdx k) x)
theorem zc5(l:List Bf)(x:Bf):(zcL l x).length=l.length+1:=by
 have:=zi6 x.pl l
 simp[zcL];omega
theorem zbZ{l:List Bf}{x y:Bf}:y∈zcL l x↔y=x∨y∈l:=by
 rw[zcL,List.mem_append,List.mem_cons]
 constructor
 ·rintro(h|h|h)
  ·exact Or.inr (List.mem_of_mem_take h)
  ·exact Or.inl h
  ·exact Or.inr (List.mem_of_mem_drop h)
 ·rintro(h|h)
  ·exact Or.inr (Or.inl h)
  ·rw[←List.take_append_drop (zbX x.pl l) l,List.mem_append] at h;exact h.imp id Or.inr
theorem zfK{l:List Bf}{y:Bf}(h:y∈l):∃k:Nat,∃_:k<l.length,zap (plB y.pl) l=k:=by
 rcases zbi (plB y.pl) l with⟨_,h1⟩|⟨k,hk,e,_⟩
 ·obtain⟨j,hj,rfl⟩:=List.getElem_of_mem h;have:=h1 j hj
  simp[plB] at this
 ·exact⟨k,hk,e⟩
theorem zgI{l:List Bf}{at':Int}{k:Nat}(hk:k<l.length)(h:zap (plB at') l=k):l[k].pl=at':=by
 rcases zbi (plB at') l with⟨e,_⟩|⟨k',hk',e,h2,_⟩
 ·rw[h] at e;omega
 ·have:k'=k:=by omega
  subst this
  simpa [plB] using h2
theorem zeX.lately{l:List Bf}{x:Bf}{H:Int→Bool}{m:List Bf}(h:zeX l x H m)(hH:∀n,H n=false)(i:Nat)(hi:i<l.length) :
  (∃k:Nat,∃_:k<m.length,zap (plB l[i].pl) m=k)∨(zap (plB l[i].pl) m=-1∧∀n (hn:n<l.length),l[n].dirty=false→decide (l[n].used<l[i].used)=false):=by
 rcases h with⟨k,hk,hix,rfl⟩|⟨_,_,rfl⟩|⟨_,_,k,hk,hr,rfl⟩
 ·left
  by_cases e:i=k
  ·subst e;have hm:x∈l.set i x:=List.mem_set hk x;have:=zfK hm;rw[←zgI hk hix] at this;exact this
  ·have hi':i<(l.set k x).length:=by rw[List.length_set];exact hi
   have hm:=List.getElem_mem hi';rw[List.getElem_set_ne (fun h=>e h.symm)] at hm;exact zfK hm
 ·exact Or.inl (zfK (zbZ.2 (Or.inr (List.getElem_mem hi))))
 ·by_cases e:i=k
  ·subst e
   rcases zbi (plB l[i].pl) (zcL (l.eraseIdx i) x) with⟨e1,_⟩|⟨k,hk,e1,_⟩
   ·right
    refine⟨e1,fun n hn hd=>?_⟩
    rcases zbd (zaw false H) l l.length (Nat.le_refl _) with⟨e2,_⟩|⟨k',hk',_,e2,_,hmin,_⟩
    ·rw[hr] at e2;omega
    ·have:k'=i:=by rw[hr] at e2;omega
     subst this;have:=hmin n hn hn (by simp[zaw,hd,hH]);exact decide_eq_false (by omega)
   ·exact Or.inl ⟨k,hk,e1⟩
  ·left
   apply zfK;rw[zbZ]
   right
   rw[List.mem_eraseIdx_iff_getElem];exact⟨i,hi,e,rfl⟩
end Go.Proofs.YtlhgjplipgandaaGreat
namespace Go.Proofs.YtlhgjplipgandaaGreat
def ltB(a b:Bf):Prop:=a.pl<b.pl
theorem zbq.pair{l:List Bf}(h:zbq l):l.Pairwise ltB:=by
 rw[List.pairwise_iff_getElem];intro i j hi hj hij;exact h.lt' i j hij hj
theorem zps(at':Int)(l:List Bf):(∀j (hj:j<l.length),j<zbX at' l→l[j].pl≤at')∧(∀(h:zbX at' l<l.length),at'<l[zbX at' l].pl):=by
 unfold zbX
 cases e:l.findIdx? (gtB at') with
 |none =>
  rw[List.findIdx?_eq_none_iff] at e;refine⟨fun j hj _=>?_,fun h=>absurd h (Nat.lt_irrefl _)⟩;have:=e _ (List.getElem_mem hj);simp only[gtB,decide_eq_false_iff_not] at this
  omega
 |some k =>
  rw[List.findIdx?_eq_some_iff_getElem] at e;obtain⟨h1,h2,h3⟩:=e;refine⟨fun j hj hjk=>?_,fun h=>by simpa [gtB] using h2⟩;have:=h3 j hjk;simp only[gtB,decide_eq_true_eq] at this
  omega
theorem zjt{l:List Bf}{x:Bf}(h:l.Pairwise ltB)(hx:∀y∈l,y.pl ≠ x.pl):(zcL l x).Pairwise ltB:=by
 obtain⟨s1,s2⟩:=zps x.pl l;have hp:=List.pairwise_iff_getElem.1 h;have h1:∀y∈l.take (zbX x.pl l),y.pl<x.pl:=by
  intro y hy;obtain⟨j,hj,rfl⟩:=List.getElem_of_mem hy;rw[List.length_take] at hj;rw[List.getElem_take];have a:=s1 j (by omega) (by omega);have b:=hx _ (List.getElem_mem (show j<l.length by omega))
  omega
 have h2:∀y∈l.drop (zbX x.pl l),x.pl<y.pl:=by
  intro y hy;obtain⟨j,hj,rfl⟩:=List.getElem_of_mem hy;rw[List.length_drop] at hj;rw[List.getElem_drop];have hg:zbX x.pl l<l.length:=by omega
  have a:=s2 hg
  by_cases e:j=0
  ·subst e;simpa using a
  ·have b:=hp (zbX x.pl l) (zbX x.pl l+j) hg (by omega) (by omega);simp only[ltB] at b
   omega
 rw[zcL,List.pairwise_append];refine⟨h.sublist (List.take_sublist _ _),?_,?_⟩
 ·rw[List.pairwise_cons];exact⟨h2,h.sublist (List.drop_sublist _ _)⟩
 ·intro a ha b hb;rw[List.mem_cons] at hb
  rcases hb with rfl|hb
  ·exact h1 a ha
  ·have:=h1 a ha;have:=h2 b hb;simp only[ltB];omega
theorem at_mem{m:List Bf}(hr:m.Pairwise ltB){y:Bf}(hy:y∈m):∃j:Nat,∃hj:j<m.length,zap (plB y.pl) m=j∧m[j]=y:=by
 obtain⟨j,hj,e⟩:=zfK hy;refine⟨j,hj,e,?_⟩;have hp:=zgI hj e;obtain⟨n,hn,rfl⟩:=List.getElem_of_mem hy;have hq:=List.pairwise_iff_getElem.1 hr
 rcases Nat.lt_trichotomy j n with h|h|h
 ·have:=hq j n hj hn h;simp only[ltB] at this;omega
 ·subst h;rfl
 ·have:=hq n j hn hj h;simp only[ltB] at this;omega
structure zrp(l:List Bf)(x:Bf)(H:Int→Bool)(m:List Bf)(K:Nat):Prop where
 rise:m.Pairwise ltB
 len:m.length≤8
 has:x∈m
 kle:K≤l.length
 kept:∀i (hi:i<l.length),l[i].pl ≠ x.pl→i ≠ K→l[i]∈m
 gone:∀(hK:K<l.length),l.length=8∧l[K].dirty=false∧H l[K].pl=false∧zap (plB l[K].pl) m=-1∧l[K].pl ≠ x.pl
theorem zgA{l:List Bf}{at':Int}(h:zap (plB at') l=-1):∀y∈l,y.pl ≠ at':=by
 intro y hy
 rcases zbi (plB at') l with⟨_,h1⟩|⟨k,hk,e,_⟩
 ·obtain⟨j,hj,rfl⟩:=List.getElem_of_mem hy;have:=h1 j hj
  simpa [plB] using this
 ·rw[h] at e;omega
theorem zeX.facts{l:List Bf}{x:Bf}{H:Int→Bool}{m:List Bf}(h:zeX l x H m)(G:zbq l):∃K,zrp l x H m K:=by
 have hp:=G.pair
 rcases h with⟨k,hk,hix,rfl⟩|⟨hix,h8,rfl⟩|⟨hix,h8,k,hk,hr,rfl⟩
 ·refine⟨l.length,⟨?_,by rw[List.length_set];exact G.len,List.mem_set hk x,Nat.le_refl _,fun i hi hne _=>?_,fun h=>absurd h (Nat.lt_irrefl _)⟩⟩
  ·have hpl:=zgI hk hix;rw[List.pairwise_iff_getElem];intro i j hi hj hij;rw[List.length_set] at hi hj;have:=G.lt' i j hij hj;simp only[ltB,List.getElem_set]
   split<;>split
   ·omega
   ·rename_i e1 _;subst e1;omega
   ·rename_i _ e2;subst e2;omega
   ·exact this
  ·by_cases e:i=k
   ·subst e;exact absurd (zgI hk hix) hne
   ·have hi':i<(l.set k x).length:=by rw[List.length_set];exact hi
    have hm:=List.getElem_mem hi';rw[List.getElem_set_ne (fun h=>e h.symm)] at hm;exact hm
 ·refine⟨l.length,⟨zjt hp (zgA hix),by rw[zc5];omega,zbZ.2 (Or.inl rfl),Nat.le_refl _,fun i hi _ _=>zbZ.2 (Or.inr (List.getElem_mem hi)),fun h=>absurd h (Nat.lt_irrefl _)⟩⟩
 ·have hno:∀y∈l.eraseIdx k,y.pl ≠ x.pl:=fun y hy=>zgA hix y (List.mem_of_mem_eraseIdx hy)
  refine⟨k,⟨zjt (hp.sublist (List.eraseIdx_sublist _ _)) hno,by rw[zc5,List.length_eraseIdx,if_pos hk];omega,zbZ.2 (Or.inl rfl),Nat.le_of_lt hk,fun i hi _ hne=>?_,fun _=>?_⟩⟩
  ·rw[zbZ,List.mem_eraseIdx_iff_getElem];exact Or.inr ⟨i,hi,hne,rfl⟩
  ·have hf:zaw false H l[k]=true:=by
    rcases zbd (zaw false H) l l.length (Nat.le_refl _) with⟨e2,_⟩|⟨k',hk',_,e2,hf,_⟩
    ·rw[hr] at e2;omega
    ·have:k'=k:=by rw[hr] at e2;omega
     subst this;exact hf
   rw[zaw,Bool.and_eq_true] at hf;have hx:=zgA hix _ (List.getElem_mem hk);refine⟨h8,by simpa using hf.1,by simpa using hf.2,?_,hx⟩;apply zhT;intro j hj;simp only[plB,beq_eq_false_iff_ne];have hm:=List.getElem_mem hj;rw[zbZ,List.mem_eraseIdx_iff_getElem] at hm
   rcases hm with hm|⟨n,hn,hne,hm⟩
   ·rw[hm];exact fun h=>hx h.symm
   ·rw[←hm]
    rcases Nat.lt_or_gt_of_ne hne with h|h
    ·have:=G.lt' n k h hk;omega
    ·have:=G.lt' k n h hn;omega
end Go.Proofs.YtlhgjplipgandaaGreat
namespace Go.Proofs.YtlhgjplipgandaaGreat
open Go.RowKit Go.BigFrame
attribute [local go_sem] ze.cell ze.frozen
def useL(l:List Bf)(at' now:Int):List Bf:=l.map fun x=>if x.pl=at' then { x with used:=now } else x
theorem use_no{l:List Bf}{at' now:Int}(h:zap (plB at') l=-1):useL l at' now=l:=by
 rcases zbi (plB at') l with⟨_,h1⟩|⟨k,hk,e,_⟩
 ·apply List.ext_getElem (by simp[useL]);intro i hi h2;simp only[useL,List.getElem_map];have:=h1 i h2;simp only[plB,beq_eq_false_iff_ne] at this;rw[if_neg this]
 ·rw[h] at e;omega
theorem zrX{l:List Bf}{at' now:Int}{k:Nat}(hk:k<l.length)(ho:zeY l)(h:zap (plB at') l=k):useL l at' now=l.set k { l[k] with used:=now }:=by
 have hp:l[k].pl=at':=by
  rcases zbi (plB at') l with⟨e,_⟩|⟨k',hk',e,h2,_⟩
  ·rw[h] at e;omega
  ·have:k'=k:=by omega
   subst this
   simpa [plB] using h2
 apply List.ext_getElem (by simp[useL]);intro i hi h2;rw[List.length_set] at h2;simp only[useL,List.getElem_map]
 by_cases e:i=k
 ·subst e;rw[List.getElem_set_self,if_pos hp]
 ·rw[List.getElem_set_ne (fun h=>e h.symm),if_neg (fun c=>e (ho i k h2 hk (c.trans hp.symm)))]
def zaU(a b:Rq):Bool:=decide (a.f+a.m=b.f)&&((a.wr==b.wr)&&(decide (a.m+b.m≤4)&&decide (a.tags.length+b.tags.length≤4)))
theorem zA.bnd{r:Rq}(h:zA r):0≤r.f∧r.f≤31∧1≤r.m∧r.m≤4∧r.m≤32-r.f:=by
 have:=h.ok;simp only[okB,decide_eq_true_eq] at this
 omega
theorem zhQ{f m:Int}(h0:0≤f)(h1:f≤100)(h2:0≤m)(h3:m≤100):wrap64 (f+m)=f+m:=by
 unfold wrap64;omega
theorem zsq(a b:Rq)(w:World)(ha:zA a)(hb:zA b) :
  Calls Tryz.prog 141 #[a.val,b.val] w fun e w'=>e=.returned (.bool (zaU a b))∧Below w.heap.size w w':=by
 obtain⟨x1,x2,x3,x4,x5⟩:=ha.bnd;obtain⟨y1,y2,y3,y4,y5⟩:=hb.bnd;have at4:=ha.t4;have bt4:=hb.t4;have e1:wrap64 (a.f+a.m)=a.f+a.m:=zhQ (by omega) (by omega) (by omega) (by omega);have hn:(wrap64 (a.f+a.m)==b.f)=decide (a.f+a.m=b.f):=by rw[e1];rfl
 clear ha hb e1;have HT:Hid (zaU a b=(decide (a.f+a.m=b.f)&&((a.wr==b.wr)&&(decide (a.m+b.m≤4)&&decide (a.tags.length+b.tags.length≤4))))):=rfl;generalize zaU a b=R at HT ⊢;have e2:IntKind.i64.wrap (a.m+b.m)=a.m+b.m:=by rw[IntKind.wrap_i64];omega
 have e3:IntKind.i64.wrap ((a.tags.length:Int)+(b.tags.length:Int))=(a.tags.length:Int)+(b.tags.length:Int):=by rw[IntKind.wrap_i64];omega
 have e4:decide (a.tags.length+b.tags.length≤4)=decide ((a.tags.length:Int)+(b.tags.length:Int)≤4):=by rw[decide_eq_decide];omega
 replace HT:Hid (R=(decide (a.f+a.m=b.f)&&((a.wr==b.wr)&&(decide (a.m+b.m≤4)&&decide ((a.tags.length:Int)+(b.tags.length:Int)≤4))))):=by rw[←e4];exact HT
 clear e4
 cases h1:decide (a.f+a.m=b.f)
 ·rw[h1] at hn;rw[h1] at HT;clear h1;obtain rfl:R=false:=HT.out;clear HT;go_enter Tryz.func141,Tryz.ntmps141;go_wp2_with fail
  go_at_call 140;refine(zcG _ _ _ _ _ _ hn).mono ?_;rintro e w1 ⟨rfl,hb⟩;(try clear hc hf hz);(first|replace HB:=zb HB hb|replace HB:=zb (zd HB) hb|have HB:=hb);clear hb;obtain⟨hc,hf,hz⟩:=zu HB
  go_wp2;go_ret;exact⟨rfl,by(with_reducible repeat first|exact Below.refl _ _|refine zc ?_ _|refine zd ?_|refine bset' ?_ (by omega) _|refine zb ?_ (by assumption))⟩
 ·rw[h1] at hn HT;clear h1
  cases h2:(a.wr==b.wr)
  ·rw[h2] at HT;obtain rfl:R=false:=HT.out;clear HT;go_enter Tryz.func141,Tryz.ntmps141;go_wp2_with fail
   go_at_call 140;refine(zcG _ _ _ _ _ _ hn).mono ?_;rintro e w1 ⟨rfl,hb⟩;(try clear hc hf hz);(first|replace HB:=zb HB hb|replace HB:=zb (zd HB) hb|have HB:=hb);clear hb;obtain⟨hc,hf,hz⟩:=zu HB
   go_wp2;go_ret;exact⟨rfl,by(with_reducible repeat first|exact Below.refl _ _|refine zc ?_ _|refine zd ?_|refine bset' ?_ (by omega) _|refine zb ?_ (by assumption))⟩
  ·rw[h2] at HT
   cases h3:decide (a.m+b.m≤4)
   ·rw[h3] at HT;obtain rfl:R=false:=HT.out;clear HT;go_enter Tryz.func141,Tryz.ntmps141;go_wp2_with fail
    go_at_call 140;refine(zcG _ _ _ _ _ _ hn).mono ?_;rintro e w1 ⟨rfl,hb⟩;(try clear hc hf hz);(first|replace HB:=zb HB hb|replace HB:=zb (zd HB) hb|have HB:=hb);clear hb;obtain⟨hc,hf,hz⟩:=zu HB
    go_wp2;go_ret;exact⟨rfl,by(with_reducible repeat first|exact Below.refl _ _|refine zc ?_ _|refine zd ?_|refine bset' ?_ (by omega) _|refine zb ?_ (by assumption))⟩
   ·rw[h3] at HT;obtain rfl:R=decide ((a.tags.length:Int)+(b.tags.length:Int)≤4):=HT.out;clear HT;go_enter Tryz.func141,Tryz.ntmps141;go_wp2_with fail
    go_at_call 140;refine(zcG _ _ _ _ _ _ hn).mono ?_;rintro e w1 ⟨rfl,hb⟩;(try clear hc hf hz);(first|replace HB:=zb HB hb|replace HB:=zb (zd HB) hb|have HB:=hb);clear hb;obtain⟨hc,hf,hz⟩:=zu HB
    go_wp2;go_ret;exact⟨rfl,by(with_reducible repeat first|exact Below.refl _ _|refine zc ?_ _|refine zd ?_|refine bset' ?_ (by omega) _|refine zb ?_ (by assumption))⟩
abbrev zch:Value:=.agg #[.bool false,.int .i64 0,.int .i64 0,.slice none 0 0,.slice none 0 0,.int .i64 0]
theorem zr4{w w1:World}{a0 a1 a2 a3 a4 a5:Value}{T:TypeId}(HB:Below (w.alloc (.cells #[a0,a1,a2,a3,a4,a5] T)).heap.size (w.alloc (.cells #[a0,a1,a2,a3,a4,a5] T)) w1) :
  w1.cell? ⟨w.heap.size,0,none⟩=some a0∧w1.cell? ⟨w.heap.size,1,none⟩=some a1∧w1.cell? ⟨w.heap.size,2,none⟩=some a2∧w1.cell? ⟨w.heap.size,3,none⟩=some a3∧w1.cell? ⟨w.heap.size,4,none⟩=some a4∧w1.cell? ⟨w.heap.size,5,none⟩=some a5:=by
 have c:=fun o=>HB.cell (p:=⟨w.heap.size,o,none⟩) (by simp only[World.size_alloc];omega)
 refine⟨?_,?_,?_,?_,?_,?_⟩
 all_goals rw[c]
 all_goals simp
theorem zfJ(a b:Rq)(w:World)(ha:zA a)(hb:zA b)(t:Bool)(ht:zaU a b=t) :
  Calls Tryz.prog 141 #[a.val,b.val] w fun e w'=>e=.returned (.bool t)∧Below w.heap.size w w':=by
 subst ht;exact zsq a b w ha hb
theorem zq4(a b:Rq)(w:World)(ha:zA a)(hb:zA b)(h1:(wrap64 (b.f+b.m)==a.f)=false)(h2:zaU a b=false) :
  Calls Tryz.prog 122 #[a.val,b.val] w fun e w'=>e=.returned (.tuple #[zch,.bool false])∧Below w.heap.size w w':=by
 go_enter Tryz.func122,Tryz.ntmps122;go_wp2_with fail
 go_at_call 140;refine(zcG _ _ _ _ _ _ h1).mono ?_;rintro e w1 ⟨rfl,hb⟩;(try clear hc hf hz);(first|replace HB:=zb HB hb|replace HB:=zb (zd HB) hb|have HB:=hb);clear hb;obtain⟨hc,hf,hz⟩:=zu HB
 go_wp2_with fail
 go_at_call 141;refine(zfJ a b _ ha hb _ h2).mono ?_;rintro e w1 ⟨rfl,hb⟩;(try clear hc hf hz);(first|replace HB:=zb HB hb|replace HB:=zb (zd HB) hb|have HB:=hb);clear hb;obtain⟨hc,hf,hz⟩:=zu HB
 go_wp2;refine bodyPost_ret (v:=.tuple #[zch,.bool false]) ?_ rfl ⟨rfl,by(with_reducible repeat first|exact Below.refl _ _|refine zc ?_ _|refine zd ?_|refine bset' ?_ (by omega) _|refine zb ?_ (by assumption))⟩;have m:=zr4 HB;rw[World.size_alloc,World.size_alloc] at m;obtain⟨m0,m1,m2,m3,m4,m5⟩:=m;clear hc hf hz HB
 simp[results,Tryz.results122,go_sem,m0,m1,m2,m3,m4,m5]
theorem zU.row{w:World}{a:Option Addr}{xs:List ByteArray}{c:Nat}(h:zU w a xs)(hn:a=none→c=0):zaW w 1 a xs.length c (xs.map .string):=by
 refine⟨by simp,by simp[Value.oneCell'],?_⟩
 rcases h with rfl|⟨b,o,rfl,hc⟩
 ·cases a with
  |none=>exact Or.inl ⟨rfl,rfl,hn rfl⟩
  |some ad=>exact Or.inr ⟨ad,rfl,fun j u h=>by simp at h⟩
 ·refine Or.inr ⟨_,rfl,fun j u hj=>?_⟩;rw[List.getElem?_map] at hj
  cases hx:xs[j]? with
  |none=>rw[hx] at hj;cases hj
  |some x =>
   rw[hx] at hj;simp only[Option.map_some,Option.some.injEq] at hj;have hlt:j<xs.length:=by
    rcases Nat.lt_or_ge j xs.length with h|h
    ·exact h
    ·rw[List.getElem?_eq_none h] at hx;cases hx
   rw[add_mk',hc j hlt,←hj,List.getD,hx];rfl
theorem zay.row{w:World}{a:Option Addr}{xs:List Int}{c:Nat}(h:zay w a xs)(hn:a=none→c=0):zaW w 1 a xs.length c (xs.map (.int .i64)):=by
 refine⟨by simp,by simp[Value.oneCell'],?_⟩
 rcases h with rfl|⟨b,o,rfl,hc⟩
 ·cases a with
  |none=>exact Or.inl ⟨rfl,rfl,hn rfl⟩
  |some ad=>exact Or.inr ⟨ad,rfl,fun j u h=>by simp at h⟩
 ·refine Or.inr ⟨_,rfl,fun j u hj=>?_⟩;rw[List.getElem?_map] at hj
  cases hx:xs[j]? with
  |none=>rw[hx] at hj;cases hj
  |some x =>
   rw[hx] at hj;simp only[Option.map_some,Option.some.injEq] at hj;have hlt:j<xs.length:=by
    rcases Nat.lt_or_ge j xs.length with h|h
    ·exact h
    ·rw[List.getElem?_eq_none h] at hx;cases hx
   rw[add_mk',hc j hlt,←hj,List.getD,hx];rfl
end Go.Proofs.YtlhgjplipgandaaGreat
