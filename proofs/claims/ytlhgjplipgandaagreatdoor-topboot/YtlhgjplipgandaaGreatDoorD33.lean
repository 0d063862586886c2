/- Joined texts: Cache7. -/
import Derived.Deep.RegionLaw
import Derived.Test.YtlhgjplipgandaaGreatDoorD5
import Derived.Test.YtlhgjplipgandaaGreatDoorD10
set_option maxRecDepth 100000
set_option maxHeartbeats 8000000
set_option linter.unusedSimpArgs false
namespace Go.Proofs.YtlhgjplipgandaaGreatDoor
open Go.RowKit Go.BigFrame
attribute [local go_sem] ze.cell ze.frozen
theorem zeroB(w:World):(zeroValue 137).run Tryz.prog w=.ok (.agg #[.int .i64 0,.string ByteArray.empty,.bool false,.int .i64 0]) w:=Tryz.zeroValue137 w
theorem zfU:(Tryz.prog.info? 137).map (·.size)=some 4:=by kernel_rfl
theorem zes(b n c i:Nat)(w:World)(hlt:i<n)(hce:¬c=i+1):(Instr.slice 91 (.slice (some ⟨b,0,none⟩) n c) (some (.int .i64 ((i:Int)+1))) none none).run Tryz.prog w=.ok (.slice (some ⟨b,(i+1)*4,none⟩) (n-(i+1)) (c-(i+1))) w:=by
 have h1:(0:Int)≤(i:Int)+1:=by omega
 have h2:(i:Int)+1≤(n:Int):=by omega
 simp[go_sem,h1,h2,hce]
theorem zif(b n c i:Nat)(w:World)(hlt:i<n)(hcap:n≤c):(Instr.slice 91 (.slice (some ⟨b,0,none⟩) n c) none (some (.int .i64 (i:Int))) none).run Tryz.prog w=.ok (.slice (some ⟨b,0,none⟩) i c) w:=by
 have h2:i≤c:=by omega
 simp[go_sem,h2]
theorem zlV(b n i:Nat)(w:World)(hlt:n=i+1):(Instr.slice 91 (.slice (some ⟨b,0,none⟩) n (i+1)) (some (.int .i64 ((i:Int)+1))) none none).run Tryz.prog w=.ok (.slice (some ⟨b,0,none⟩) 0 0) w:=by
 subst hlt;have h1:(0:Int)≤(i:Int)+1:=by omega
 simp[go_sem,h1]
theorem zhf(b n c i:Nat)(w:World)(hlt:i<n)(hcap:n≤c)(hm:c≤9223372036854775807):(Instr.slice 91 (.slice (some ⟨b,0,none⟩) (n-1) c) (some (.int .i64 ((n-1:Nat):Int))) (some (.int .i64 (n:Int))) none).run Tryz.prog w=.ok (.slice (some ⟨b,(n-1)*4,none⟩) 1 (c-(n-1))) w:=by
 have h1:((n-1:Nat):Int)≤(n:Int):=by omega
 have h2:¬c=n-1:=by omega
 have h3:n-(n-1)=1:=by omega
 simp[go_sem,h1,h2,h3,hcap]
def zs4:List Value:=(Builtin.zeroCells (Value.agg #[.int .i64 0,.string ByteArray.empty,.bool false,.int .i64 0]).cells 1).toList
theorem zl6:zs4.length=4:=by simp[zs4,Builtin.zeroCells,Value.cells]
theorem zcp{w:World}{b:Nat}{cur:List Value}{t:TypeId}(hg:w.heap[b]?=some (.cells cur.toArray t (0,0)))(o j:Nat)(v:Value)(h:cur[o+j]?=some v):w.cell? (Addr.add ⟨b,o,none⟩ j)=some v:=by
 rw[zdK]
 simp[World.cell?,hg,h]
theorem zmo(b n c k:Nat)(cur xs:List Value)(base:Nat)(w:World)(hbb:base≤b)(hg:w.heap[b]?=some (.cells cur.toArray 137 (0,0)))(hcl:cur.length=c*4)(hk:k<n)(hnc:n≤c)(hcm:c≤9223372036854775807)
 (hxl:xs.length=(n-(k+1))*4) (hx:∀j v,xs[j]?=some v→cur[(k+1)*4+j]?=some v) (h1:∀v∈xs,v.oneCell'=true) :
 Calls Tryz.prog 197 #[.slice (some ⟨b,0,none⟩) n c,.int .i64 k,.int .i64 ((k:Int)+1)] w fun e w' =>
  e=.returned (.slice (some ⟨b,0,none⟩) (n-1) c)∧w'.heap[b]?=some (.cells (splice (splice cur (k*4) xs) ((n-1)*4) zs4).toArray 137 (0,0))∧Below base w w':=by
 have q1:(k:Int)+1≤(n:Int):=by omega
 have q2:(0:Int)≤(k:Int)+1:=by omega
 have q3:¬((k:Int)=(k:Int)+1):=by omega
 have q4:(k:Int)≤(k:Int)+1:=by omega
 have HC:=zG hcl;have HX:=zG hx;have HL:=zG hxl;have HG:=zG hg;have H1:=zG h1;clear hcl hx hxl hg h1;have hsl1:=fun w=>zif b n c k w hk hnc
 have hsl3:=fun w=>zhf b n c k w hk hnc hcm
 have hcut:(splice cur (k*4) xs).length=c*4:=by rw[length_splice _ _ _ (by rw[HC.out,HL.out];omega),HC.out]
 have HS:=zG hcut;clear hcut;have hn1:k+(n-(k+1))=n-1:=by omega
 have HN1:=zG hn1;clear hn1
 by_cases hce:c=k+1
 ·have hnk:n=k+1:=by omega
  subst hce;subst hnk;clear hsl3;have hsl3:=fun w=>zhf b (k+1) (k+1) k w hk hnc hcm
  simp only[Nat.add_sub_cancel] at hsl3 HS;rw[show k+1-k=1 by omega] at hsl3;have hsl2:=fun w=>zlV b (k+1) k w rfl
  obtain rfl:xs=[]:=List.eq_nil_of_length_eq_zero (by rw[HL.out];omega);go_enter Tryz.func197,Tryz.ntmps197;go_wp2_with fail
  go_region_law (refine zeH rfl (.tmp 22) (.tmp 25) 91 rfl 137 4 Tryz.underlying91 zfU b k (k+1) (some ⟨b,0,none⟩) 0 0 (by simp[Act.eval,Act.put]) (by simp[Act.eval,Act.put]) cur 137 [] HG.out rfl (by omega) (fun h=>absurd h (Nat.not_lt_zero _)) (by rw[HC.out];simp;omega) (by simp) base hbb ?_;intro w1 G1 hb1)
  obtain⟨w2,hcl,G2,hb2⟩:=zfC (P:=Tryz.prog) w1 91 137 0 _ 4 Tryz.underlying91 zeroB rfl (by decide) b (k*4) 1 1 _ 137 G1.out (by omega) (by have:=HS.out;omega) (by omega);have HG2:=zG G2;have HB2:=zG (hb2 base hbb);clear G2 hb2;go_wp2;go_ret;exact⟨rfl,HG2.out,((Below.refl _ _).drew.trans hb1).trans HB2.out⟩
 ·have hsl2:=fun w=>zes b n c k w hk hce
  go_enter Tryz.func197,Tryz.ntmps197;go_wp2_with fail
  go_region_law (refine zeH rfl (.tmp 22) (.tmp 25) 91 rfl 137 4 Tryz.underlying91 zfU b k c (some ⟨b,(k+1)*4,none⟩) (n-(k+1)) (c-(k+1)) (by simp[Act.eval,Act.put]) (by simp[Act.eval,Act.put]) cur 137 xs HG.out HL.out (by omega) (fun _=>⟨_,rfl,fun j v hj=>zcp HG.out _ _ _ (HX.out j v hj)⟩) (by rw[HC.out,HL.out];omega) H1.out base hbb ?_;intro w1 G1 hb1;rw[HN1.out])
  obtain⟨w2,hcl,G2,hb2⟩:=zfC (P:=Tryz.prog) w1 91 137 0 _ 4 Tryz.underlying91 zeroB rfl (by decide) b ((n-1)*4) 1 (c-(n-1)) _ 137 G1.out (by omega) (by rw[HS.out];omega) (by omega);have HG2:=zG G2;have HB2:=zG (hb2 base hbb);clear G2 hb2;go_wp2;go_ret;exact⟨rfl,HG2.out,((Below.refl _ _).drew.trans hb1).trans HB2.out⟩
theorem zdX{α:Type}(L cs:List α)(o:Nat)(h:o≤L.length):(splice L o cs).take (o+cs.length)=L.take o++cs:=by
 have e:(L.take o).length=o:=by rw[List.length_take];omega
 rw[splice,←List.append_assoc,List.take_append_of_le_length (by rw[List.length_append,e];exact Nat.le_refl _),List.take_of_length_le (by rw[List.length_append,e];exact Nat.le_refl _)]
theorem zeb{α:Type}(L cs:List α)(o m:Nat)(h:o≤L.length)(hm:m≤o):(splice L o cs).take m=L.take m:=by
 have e:(L.take o).length=o:=by rw[List.length_take];omega
 rw[splice,List.take_append_of_le_length (by rw[e];exact hm),List.take_take,Nat.min_eq_left hm]
theorem zf7(l:List Bf)(k:Nat):(zC l).take (k*4)=zC (l.take k):=by
 by_cases hk:k≤l.length
 ·have e:=zbv (l.take k) (l.drop k);rw[List.take_append_drop] at e;have hl:(zC (l.take k)).length=k*4:=by rw[zae,List.length_take,Nat.min_eq_left hk]
  rw[e,List.take_append_of_le_length (by omega),List.take_of_length_le (by omega)]
 ·rw[List.take_of_length_le (by rw[zae];omega),List.take_of_length_le (by omega)]
theorem zf6(l:List Bf)(k j:Nat):(zC (l.drop k))[j]?=(zC l)[k*4+j]?:=by
 by_cases hk:k≤l.length
 ·have e:=zbv (l.take k) (l.drop k);rw[List.take_append_drop] at e;have hl:(zC (l.take k)).length=k*4:=by rw[zae,List.length_take,Nat.min_eq_left hk]
  rw[e,List.getElem?_append_right (by omega),hl]
  congr 1;omega
 ·rw[List.drop_eq_nil_of_le (by omega),List.getElem?_eq_none (by simp[zC]),List.getElem?_eq_none (by rw[zae];omega)]
theorem delB(l:List Bf)(b c k base:Nat)(w:World)(hk:k<l.length)(hN:zal base w (some ⟨b,0,none⟩) c l) :
 Calls Tryz.prog 197 #[.slice (some ⟨b,0,none⟩) l.length c,.int .i64 k,.int .i64 ((k:Int)+1)] w fun e w' =>
  e=.returned (.slice (some ⟨b,0,none⟩) (l.length-1) c)∧zal base w' (some ⟨b,0,none⟩) c (l.eraseIdx k)∧Below base w w':=by
 have hb:=hN.here.2
 rcases hN.own.2 with⟨h,_⟩|⟨g,cap,cur,hv,hg,hh,hnc,hcm,hcs,ht⟩
 ·cases h
 ·simp only[Value.slice.injEq,Option.some.injEq,Addr.mk.injEq,and_true,true_and] at hv;obtain⟨rfl,rfl⟩:=hv;have hcm':c≤9223372036854775807:=by unfold maxLen at hcm;omega
  have hcl:cur.toList.length=c*4:=by rw[Array.length_toList];exact hcs
  have hxl:(zC (l.drop (k+1))).length=(l.length-(k+1))*4:=by rw[zae,List.length_drop]
  refine(zmo b l.length c k cur.toList (zC (l.drop (k+1))) base w hg (by rw[Array.toArray_toList];exact hh) hcl hk hnc hcm' hxl (fun j v hj=>?_) (zcx _)).mono ?_
  ·rw[zf6,←ht,List.getElem?_take] at hj
   split at hj
   ·exact hj
   ·cases hj
  ·rintro e w' ⟨rfl,hrow,hB⟩;refine⟨rfl,?_,hB⟩;have hel:(l.eraseIdx k).length=l.length-1:=by rw[List.length_eraseIdx,if_pos hk]
   have hsl:(splice cur.toList (k*4) (zC (l.drop (k+1)))).length=c*4:=by rw[length_splice _ _ _ (by rw[hcl,hxl];omega),hcl]
   have ho:w'.ownsRow base 137 4 (.slice (some ⟨b,0,none⟩) (l.eraseIdx k).length c) (l.eraseIdx k).length (zC (l.eraseIdx k)):=by
    refine⟨zae _,Or.inr ⟨b,c,_,rfl,hg,hrow,by omega,hcm,?_,?_⟩⟩
    ·rw[List.size_toArray,length_splice _ _ _ (by rw[hsl,zl6];omega),hsl]
    ·rw[List.toList_toArray,hel,zeb _ _ _ _ (by rw[hsl];omega) (Nat.le_refl _),show(l.length-1)*4=k*4+(zC (l.drop (k+1))).length by rw[hxl];omega,zdX _ _ _ (by omega),List.eraseIdx_eq_take_drop_succ,zbv,←zf7,←ht,List.take_take,Nat.min_eq_left (by omega)]
   obtain⟨a',c',hv,hN'⟩:=zbS ho rfl (by omega);simp only[Value.slice.injEq,true_and] at hv;obtain⟨rfl,rfl⟩:=hv;exact hN'
end Go.Proofs.YtlhgjplipgandaaGreatDoor
