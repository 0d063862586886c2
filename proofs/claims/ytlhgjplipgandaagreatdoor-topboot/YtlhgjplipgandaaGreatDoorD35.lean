/- Joined texts: Cache10, Cache11, Cache12. -/
import Derived.Lib.AppendZeros
import Derived.Test.YtlhgjplipgandaaGreatDoorD34
set_option maxRecDepth 100000
set_option maxHeartbeats 8000000
set_option linter.unusedSimpArgs false
namespace Go.Proofs.YtlhgjplipgandaaGreatDoor
open Go.RowKit Go.BigFrame
attribute [local go_sem] ze.cell ze.frozen
theorem zmT(b n i vb:Nat)(ys xs X:List Value)(tv:TypeId)(w:World)(hi:i<n)(hn:n≤1000)
 (hyl:ys.length=i*4) (hy:∀j v,ys[j]?=some v→w.cell? ⟨b,j,none⟩=some v) (hlt:b<w.heap.size)
 (hxl:xs.length=(n-i)*4) (hx:∀j v,xs[j]?=some v→w.cell? ⟨b,i*4+j,none⟩=some v) (h1:∀v∈xs,v.oneCell'=true) (hv:w.heap[vb]?=some (.cells X.toArray tv (0,0))) (hvl:vb<w.heap.size) (hXl:X.length=4) (hX1:∀v∈X,v.oneCell'=true) :
 Calls Tryz.prog 199 #[.slice (some ⟨b,0,none⟩) n n,.int .i64 i,.slice (some ⟨vb,0,none⟩) 1 1] w fun e w' =>
  ∃G ROW,e=.returned (.slice (some ⟨w.heap.size,0,none⟩) (n+1) G)∧n+1≤G∧G≤maxLen∧ROW.length=G*4∧ROW.take (i*4)=ys∧w'.heap[w.heap.size]?=some (.cells (splice (splice ROW (i*4) X) ((i+1)*4) xs).toArray 137 (0,0))∧Below w.heap.size w w':=by
 have q1:¬((i:Int)=(n:Int)):=by omega
 have q2:((n:Int)<(n:Int)+1):=by omega
 have hwr:IntKind.i64.wrap ((n:Int)+1)=(n:Int)+1:=by rw[IntKind.wrap_i64];omega
 have hwi:IntKind.i64.wrap ((i:Int)+1)=(i:Int)+1:=by rw[IntKind.wrap_i64];omega
 have hws:IntKind.i64.wrap ((n:Int)+1-(i:Int))=(n:Int)+1-(i:Int):=by rw[IntKind.wrap_i64];omega
 obtain⟨i0,hi0,hz0,hzs,hzb⟩:=zbA zlm;have hold:(Builtin.firstCells i0.size i (.slice (some ⟨b,0,none⟩) i n)).run Tryz.prog w.drew=.ok ys.toArray w.drew:=by
  rw[hzs];exact run_firstCells_some w.drew 4 i ⟨b,0,none⟩ i n ys (by omega) (fun j v hj=>by rw[zdK,Nat.zero_add];exact hy j v hj)
 have hik:i+(n+1-i)=n+1:=by omega
 have hkk:(n:Int)+1-(i:Int)=((n+1-i:Nat):Int):=by omega
 obtain⟨G,hG⟩:∃G,G=grownCap w (n+1) n 137:=⟨_,rfl⟩
 obtain⟨ROW,hROW⟩:∃ROW:List Value,ROW=(ys.toArray++(Builtin.zeroCells (Value.agg #[.int .i64 0,.string ByteArray.empty,.bool false,.int .i64 0]).cells (n+1-i))++(Builtin.zeroCells (Value.agg #[.int .i64 0,.string ByteArray.empty,.bool false,.int .i64 0]).cells (G-(n+1)))).toList:=⟨_,rfl⟩
 have hrz:∀ty,(Builtin.append_ #[91,3] ty #[.slice (some ⟨b,0,none⟩) i n,.int .i64 ((n:Int)+1-(i:Int))]).run Tryz.prog w =
  .ok (.slice (some ⟨w.heap.size,0,none⟩) (n+1) G) (w.drew.alloc (.cells ROW.toArray 137)):=fun ty=>by
  have h:=Lib.run_append_grow_zeros w 91 3 ty 137 i0 _ .i64 .i64 Tryz.underlying91 Tryz.underlying3 hi0 hz0 (some ⟨b,0,none⟩) i n ys hold (n+1-i) (by omega) (by omega) (by omega) (by omega) (by rw[hzb];omega) (by rw[hzb,hik];exact growslice_fits (by omega) (by omega));rw[hik,←hG] at h;rw[hkk,h,hROW,Array.toArray_toList]
 have hge:n+1≤G:=by rw[hG];exact grownCap_ge w _ _ _
 have hGm:G≤maxLen:=by rw[hG];exact grownCap_le_maxLen w (n+1) n _ (by unfold maxLen;omega)
 have hG63:G≤9223372036854775807:=by unfold maxLen at hGm;omega
 have hRl:ROW.length=G*4:=by
  rw[hROW];simp only[Array.size_append,Array.length_toList,size_zeroCells,List.size_toArray,hyl]
  simp[Value.cells]
  omega
 have hRt:ROW.take (i*4)=ys:=by rw[hROW,Array.toList_append,Array.toList_append,List.toList_toArray,List.append_assoc,List.take_append_of_le_length (by omega),List.take_of_length_le (by omega)]
 clear hROW hold hG hkk hik;obtain⟨W1,hW1⟩:∃W1,W1=w.drew.alloc (.cells ROW.toArray 137):=⟨_,rfl⟩
 rw[←hW1] at hrz;have g1:W1.heap[w.heap.size]?=some (.cells ROW.toArray 137 (0,0)):=by rw[hW1];exact heap_alloc_new w.drew _
 have b1:Below w.heap.size w W1:=by rw[hW1];exact((Below.refl _ _).drew).alloc (Nat.le_refl _) _
 have o1:∀k,k<w.heap.size→W1.heap[k]?=w.heap[k]?:=fun k hk=>by rw[hW1];exact Below.heap_alloc w.drew _ k hk
 have z1:W1.heap.size=w.heap.size+1:=by rw[hW1];simp
 have e1:ROW.length=G*4∧xs.length=(n-i)*4∧X.length=4:=⟨hRl,hxl,hXl⟩
 clear hW1;have hM2:Nat.min 1 (n+1-i)=1:=by simp only[Nat.min_def];split<;>omega
 have hM:Nat.min (n-i) (n+1-(i+1))=n-i:=by simp only[Nat.min_def];split<;>omega
 have hv1:W1.heap[vb]?=some (.cells X.toArray tv (0,0)):=(o1 vb hvl).trans hv;obtain⟨W2,hc1,g2,bb2,o2⟩:=zer (P:=Tryz.prog) W1 91 91 3 137 4 (some ⟨w.heap.size,i*4,none⟩) (some ⟨vb,0,none⟩) (n+1-i) (G-i) 1 1 w.heap.size (i*4) _ 137 X Tryz.underlying91 zfU g1 (by rw[hM2,hXl]) (fun _=>⟨rfl,_,rfl,fun j v hj=>zcp hv1 _ _ _ (by simpa using hj)⟩) (by rw[hRl,hXl];omega) hX1;have s2:(splice ROW (i*4) X).length=G*4:=by rw[length_splice _ _ _ (by rw[hRl,hXl];omega),hRl]
 have src:∀j v,xs[j]?=some v→W2.cell? (Addr.add ⟨b,i*4,none⟩ j)=some v:=fun j v hj=>by
  rw[zdK];have:=hx j v hj;simp only[World.cell?] at this ⊢;rw[o2 b (by omega),o1 b hlt];exact this
 have HE:=zG e1;have HS:=zG src;have HG2:=zG g2;have H1:=zG h1;have HT:=zG hRt;have HB:=zG (b1.trans (bb2 w.heap.size (Nat.le_refl _)));have HL2:=zG s2;have HM:=zG hM;have hs1:=fun w'=>zif b n n i w' hi (Nat.le_refl _)
 have hs2:=fun w'=>zea w.heap.size (n+1) G i w' (by omega) hge
 have hs3:=fun w'=>zes w.heap.size (n+1) G i w' (by omega) (by omega)
 have hs4:=fun w'=>zea b n n i w' hi (Nat.le_refl _)
 have hcp1:=hc1;clear hc1 e1 src g2 h1 hRt b1 bb2 s2 hM o1 o2 z1 hRl hxl hXl hx hy hyl hv hv1 g1 hX1 hM2 hG63;go_enter Tryz.func199,Tryz.ntmps199;go_wp2_with(at_builtin;refine Lib.wpList_append_run _ rfl _ _ _ _ rfl _ _ rfl rfl _ _ (hrz _) ?_)
 go_region_law (refine zfE rfl (.tmp 50) (.tmp 53) 91 91 rfl 137 4 Tryz.underlying91 zfU (some ⟨w.heap.size,(i+1)*4,none⟩) (some ⟨b,i*4,none⟩) (n+1-(i+1)) (G-(i+1)) (n-i) (n-i) (by simp[Act.eval,Act.put]) (by simp[Act.eval,Act.put]) w.heap.size ((i+1)*4) (splice ROW (i*4) X) 137 xs HG2.out (by rw[HE.out.2.1,HM.out]) (fun _=>⟨rfl,_,rfl,HS.out⟩) (by rw[HL2.out,HE.out.2.1];omega) H1.out w.heap.size (Nat.le_refl _) ?_;intro w3 n3 G3 hb3 K3)
 go_wp2;go_ret;exact⟨G,ROW,rfl,hge,hGm,HE.out.1,HT.out,G3.out,(HB.out.drew).trans hb3⟩
theorem insB(l:List Bf)(a:Option Addr)(c base vb i:Nat)(x:Bf)(tv:TypeId)(w:World)(hi:i≤l.length)(h8:l.length≤1000)(hbase:base≤w.heap.size)(hN:zal base w a c l)(hv:w.heap[vb]?=some (.cells (bcs x).toArray tv (0,0)))
 (hne:∀b,a=some ⟨b,0,none⟩→vb ≠ b) :
 Calls Tryz.prog 199 #[.slice a l.length c,.int .i64 i,.slice (some ⟨vb,0,none⟩) 1 1] w fun e w' =>
  ∃a' c',e=.returned (.slice a' (l.length+1) c')∧zal base w' a' c' (l.take i++x::l.drop i)∧Below base w w':=by
 have hvl:vb<w.heap.size:=by
  rcases Nat.lt_or_ge vb w.heap.size with h'|h'
  ·exact h'
  ·rw[Array.getElem?_eq_none h'] at hv;cases hv
 by_cases hin:i=l.length
 ·subst hin;rw[List.take_length,List.drop_length];exact zob l a c base vb x tv w h8 hbase hN hv
 ·have hlt:i<l.length:=by omega
  have h0:l ≠ []:=by rintro rfl;exact absurd hlt (Nat.not_lt_zero _)
  obtain⟨b,rfl,hbb,hblt,hfz⟩:=hN.place h0;have hne:=hne b rfl;have hnl:(l.take i++x::l.drop i).length=l.length+1:=by simp;omega
  have hcells:zC (l.take i++x::l.drop i)=zC (l.take i)++bcs x++zC (l.drop i):=by
   rw[show l.take i++x::l.drop i=l.take i++[x]++l.drop i by simp,zbv,zbv,zeR]
  have hdl:(zC (l.drop i)).length=(l.length-i)*4:=by rw[zae,List.length_drop]
  have hX1:∀v∈bcs x,v.oneCell'=true:=by rw[←zeR];exact zcx _
  rcases hN.own.2 with⟨h,_⟩|⟨g,cap,cur,hvv,hg,hh,hnc,hcm,hcs,ht⟩
  ·cases h
  ·simp only[Value.slice.injEq,Option.some.injEq,Addr.mk.injEq,and_true,true_and] at hvv;obtain⟨rfl,rfl⟩:=hvv;have hcm':c≤9223372036854775807:=by unfold maxLen at hcm;omega
   have hcl:cur.toList.length=c*4:=by rw[Array.length_toList];exact hcs
   have hh':w.heap[b]?=some (.cells cur.toList.toArray 137 (0,0)):=by rw[Array.toArray_toList];exact hh
   have hxs:∀j v,(zC (l.drop i))[j]?=some v→cur.toList[i*4+j]?=some v:=fun j v hj=>by
    rw[zf6,←ht,List.getElem?_take] at hj
    split at hj
    ·exact hj
    ·cases hj
   have hys:(zC (l.take i))=cur.toList.take (i*4):=by rw[←zf7,←ht,List.take_take,Nat.min_eq_left (by omega)]
   by_cases hroom:l.length+1≤c
   ·refine(zlp b l.length c i vb cur.toList (zC (l.drop i)) (bcs x) tv base w hg hne hh' hcl hlt hroom hcm' hdl hxs (zcx _) hv rfl hX1).mono ?_;rintro e w' ⟨rfl,hrow,hB⟩;have hsl:(splice cur.toList ((i+1)*4) (zC (l.drop i))).length=c*4:=by rw[length_splice _ _ _ (by rw[hcl,hdl];omega),hcl]
    have hX4:(bcs x).length=4:=rfl;have ho:w'.ownsRow base 137 4 (.slice (some ⟨b,0,none⟩) (l.take i++x::l.drop i).length c) (l.take i++x::l.drop i).length (zC (l.take i++x::l.drop i)):=by
     refine⟨zae _,Or.inr ⟨b,c,_,rfl,hg,hrow,by omega,hcm,?_,?_⟩⟩
     ·rw[List.size_toArray,length_splice _ _ _ (by rw[hsl,hX4];omega),hsl]
     ·rw[List.toList_toArray,hnl,hcells];have e1:(splice (splice cur.toList ((i+1)*4) (zC (l.drop i))) (i*4) (bcs x))=cur.toList.take (i*4)++(bcs x++(splice cur.toList ((i+1)*4) (zC (l.drop i))).drop ((i+1)*4)):=by
       rw[splice,zeb _ _ _ _ (by omega) (by omega),hX4,show i*4+4=(i+1)*4 by omega]
      have e2:(splice cur.toList ((i+1)*4) (zC (l.drop i))).drop ((i+1)*4)=zC (l.drop i)++cur.toList.drop ((i+1)*4+(zC (l.drop i)).length):=by
       rw[splice,List.drop_append_of_le_length (by rw[List.length_take];omega),List.drop_eq_nil_of_le (by rw[List.length_take];omega),List.nil_append]
      rw[e1,e2,←hys,←List.append_assoc,←List.append_assoc,List.take_append_of_le_length (by simp only[List.length_append,hX4,hdl,zae,List.length_take];omega),List.take_of_length_le (by simp only[List.length_append,hX4,hdl,zae,List.length_take];omega)]
    obtain⟨a',c',hv',hN'⟩:=zbS ho rfl (by omega);simp only[Value.slice.injEq,true_and] at hv';obtain⟨rfl,rfl⟩:=hv';exact⟨_,_,rfl,hN',hB⟩
   ·obtain rfl:c=l.length:=by omega
    refine(zmT b l.length i vb (zC (l.take i)) (zC (l.drop i)) (bcs x) tv w hlt h8 (by rw[zae,List.length_take];omega) (fun j v hj=>?_) hblt hdl (fun j v hj=>?_) (zcx _) hv hvl rfl hX1).mono ?_
    ·have:=zcp hh' 0 j v (by
      rw[hys,List.getElem?_take] at hj
      split at hj
      ·simpa using hj
      ·cases hj)
     rw[zdK,Nat.zero_add] at this;exact this
    ·have:=zcp hh' (i*4) j v (hxs j v hj);rw[zdK] at this;exact this
    ·rintro e w' ⟨G,ROW,rfl,hge,hGm,hRl,hRt,hrow,hB⟩;have hX4:(bcs x).length=4:=rfl;have hsl:(splice ROW (i*4) (bcs x)).length=G*4:=by rw[length_splice _ _ _ (by rw[hRl,hX4];omega),hRl]
     have ho:w'.ownsRow base 137 4 (.slice (some ⟨w.heap.size,0,none⟩) (l.take i++x::l.drop i).length G) (l.take i++x::l.drop i).length (zC (l.take i++x::l.drop i)):=by
      refine⟨zae _,Or.inr ⟨w.heap.size,G,_,rfl,hbase,hrow,by omega,hGm,?_,?_⟩⟩
      ·rw[List.size_toArray,length_splice _ _ _ (by rw[hsl,hdl];omega),hsl]
      ·rw[List.toList_toArray,hnl,hcells,show(l.length+1)*4=(i+1)*4+(zC (l.drop i)).length by rw[hdl];omega,zdX _ _ _ (by rw[hsl];omega),show(i+1)*4=i*4+(bcs x).length by rw[hX4];omega,zdX _ _ _ (by rw[hRl];omega),hRt]
     obtain⟨a',c',hv',hN'⟩:=zbS ho rfl (by omega);simp only[Value.slice.injEq,true_and] at hv';obtain⟨rfl,rfl⟩:=hv';refine⟨_,_,?_,hN',hB.mono hbase⟩
     rfl
theorem zhD{w w':World}{base size n:Nat}{e:TypeId}{v:Value}{xs:List Value}(h:w.ownsRow base e size v n xs)(hb:Below w.heap.size w w'):w'.ownsRow base e size v n xs:=by
 refine⟨h.1,h.2.elim Or.inl (fun⟨g,cap,cur,hv,hg,hh,r⟩=>Or.inr ⟨g,cap,cur,hv,hg,?_,r⟩)⟩;have hlt:g<w.heap.size:=by
  rcases Nat.lt_or_ge g w.heap.size with h'|h'
  ·exact h'
  ·rw[Array.getElem?_eq_none h'] at hh;cases hh
 rw[hb.block g hlt];exact hh
theorem zal.later{base:Nat}{w w':World}{a:Option Addr}{c:Nat}{l:List Bf}(h:zal base w a c l)(hb:Below w.heap.size w w'):zal base w' a c l :=
 ⟨h.here.later hb,h.cap,h.capM,h.nil,zhD h.own hb⟩
theorem zal.lt{base:Nat}{w:World}{a:Option Addr}{c:Nat}{l:List Bf}(h:zal base w a c l)(b:Nat)(hb:a=some ⟨b,0,none⟩):b<w.heap.size:=by
 subst hb
 rcases h.own.2 with⟨h1,_⟩|⟨g,cap,cur,h1,hg,hh,_⟩
 ·cases h1
 ·simp only[Value.slice.injEq,Option.some.injEq,Addr.mk.injEq,and_true] at h1;obtain⟨rfl,_⟩:=h1
  rcases Nat.lt_or_ge b w.heap.size with h'|h'
  ·exact h'
  ·rw[Array.getElem?_eq_none h'] at hh;cases hh
theorem insP(l:List Bf)(a:Option Addr)(c base i:Nat)(x:Bf)(w:World)(hi:i≤l.length)(h8:l.length≤1000)(hbase:base≤w.heap.size)(hN:zal base w a c l) :
 Calls Tryz.prog 199 #[.slice a l.length c,.int .i64 i,.slice (some ⟨w.heap.size,0,none⟩) 1 1] (w.alloc (.cells #[.int .i64 x.pl,.string x.data,.bool x.dirty,.int .i64 x.used] 137)) fun e w' =>
  ∃a' c',e=.returned (.slice a' (l.length+1) c')∧zal base w' a' c' (l.take i++x::l.drop i)∧Below base w w'∧l.length+1≤c':=by
 refine(insB l a c base w.heap.size i x 137 _ hi h8 (by simp;omega) (hN.later (zs _ _)) (heap_alloc_new _ _) (fun b hb=>?_)).mono ?_
 ·have:=hN.lt b hb;omega
 ·rintro e w' ⟨a',c',he,h1,h2⟩;refine⟨a',c',he,h1,((zs _ _).mono hbase).trans h2,?_⟩;have:=h1.cap;rw[show(l.take i++x::l.drop i).length=l.length+1 by simp;omega] at this;exact this
def zbJ(w:World)(b:Nat)(x:Bf):Prop:=w.cell? ⟨b,0,none⟩=some (.int .i64 x.pl)∧w.cell? ⟨b,1,none⟩=some (.string x.data)∧w.cell? ⟨b,2,none⟩=some (.bool x.dirty)∧w.cell? ⟨b,3,none⟩=some (.int .i64 x.used)
theorem zbJ.later{w w':World}{b:Nat}{x:Bf}(h:zbJ w b x)(hb:Below w.heap.size w w'):zbJ w' b x :=
 ⟨cellB_later' hb h.1,cellB_later' hb h.2.1,cellB_later' hb h.2.2.1,cellB_later' hb h.2.2.2⟩
theorem zbJ.below{w w':World}{b base:Nat}{x:Bf}(h:zbJ w b x)(hb:Below base w w')(hlt:b<base):zbJ w' b x :=
 ⟨by rw[hb.cell hlt];exact h.1,by rw[hb.cell hlt];exact h.2.1,by rw[hb.cell hlt];exact h.2.2.1,by rw[hb.cell hlt];exact h.2.2.2⟩
def gtB(at':Int)(x:Bf):Bool:=decide (at'<x.pl)
theorem zoB(y x:Bf)(pb:Nat)(w:World)(hp:zbJ w pb x) :
 Calls Tryz.prog 198 #[y.val,.pointer (some ⟨pb,0,none⟩)] w fun e w'=>e=.returned (.bool (gtB x.pl y))∧Below w.heap.size w w':=by
 have hp':=zda hp.1;clear hp;go_enter Tryz.func198,Tryz.ntmps198;go_wp2;go_ret;exact⟨rfl,by(with_reducible repeat first|exact Below.refl _ _|refine zc ?_ _|refine zd ?_|refine bset' ?_ (by omega) _|refine zb ?_ (by assumption))⟩
theorem zhZ(x:Bf)(pb:Nat)(l:List Bf)(a:Option Addr)(c:Nat)(w:World)(hl:zB w a l)(hp:zbJ w pb x)(r:Int)(hr:zZ (gtB x.pl) l=r) :
 Calls Tryz.prog 170 #[.slice a l.length c,.func (.func 198) #[] #[.pointer (some ⟨pb,0,none⟩)]] w fun e w'=>e=.returned (.int .i64 r)∧Below w.heap.size w w':=by
 subst hr;exact zgW 198 (by intro args w;go_simp) (.pointer (some ⟨pb,0,none⟩)) (gtB x.pl) l a c w hl (fun y w' hb=>zoB y x pb w' (hp.later hb))
def zbo(at':Int)(l:List Bf):Nat:=match l.findIdx? (gtB at') with|some k=>k|none=>l.length
def zci(l:List Bf)(x:Bf):List Bf:=l.take (zbo x.pl l)++x::l.drop (zbo x.pl l)
theorem zhy(at':Int)(l:List Bf):zbo at' l≤l.length:=by
 unfold zbo
 cases e:l.findIdx? (gtB at') with
 |none=>exact Nat.le_refl _
 |some k =>
  rw[List.findIdx?_eq_some_iff_getElem] at e;exact Nat.le_of_lt e.1
theorem gt_idx(at':Int)(l:List Bf):(zZ (gtB at') l=-1∧zbo at' l=l.length)∨zZ (gtB at') l=(zbo at' l:Int):=by
 unfold zZ zbo
 cases e:l.findIdx? (gtB at') with
 |none=>exact Or.inl ⟨rfl,rfl⟩
 |some k=>exact Or.inr rfl
theorem zkH(at':Int)(l:List Bf):(zZ (gtB at') l=-1∧zbo at' l=l.length)∨(zZ (gtB at') l=(zbo at' l:Int)∧zbo at' l=zbo at' l):=(gt_idx at' l).imp id (fun h=>⟨h,rfl⟩)
theorem zB.set4{w:World}{b:Nat}{l:List Bf}(h:zB w (some ⟨b,0,none⟩) l){k:Nat}(hk:k<l.length)(x:Bf) :
 zB ((((w.setCell ⟨b,k*4,none⟩ (.int .i64 x.pl)).setCell ⟨b,k*4+1,none⟩ (.string x.data)).setCell ⟨b,k*4+2,none⟩ (.bool x.dirty)).setCell ⟨b,k*4+3,none⟩ (.int .i64 x.used)) (some ⟨b,0,none⟩) (l.set k x):=by
 have h1:=h.set hk 0 (by omega) { l[k] with pl:=x.pl } (.int .i64 x.pl) rfl (fun i hi hne=>by rcases(show i=1∨i=2∨i=3 by omega) with rfl|rfl|rfl<;>rfl);have h2:=h1.set (k:=k) (by simpa using hk) 1 (by omega) { l[k] with pl:=x.pl,data:=x.data } (.string x.data) rfl (fun i hi hne=>by rw[List.getElem_set_self];rcases(show i=0∨i=2∨i=3 by omega) with rfl|rfl|rfl<;>rfl);rw[List.set_set] at h2;have h3:=h2.set (k:=k) (by simpa using hk) 2 (by omega) { x with used:=l[k].used } (.bool x.dirty) rfl (fun i hi hne=>by rw[List.getElem_set_self];rcases(show i=0∨i=1∨i=3 by omega) with rfl|rfl|rfl<;>rfl);rw[List.set_set] at h3;have h4:=h3.set (k:=k) (by simpa using hk) 3 (by omega) x (.int .i64 x.used) rfl (fun i hi hne=>by rw[List.getElem_set_self];rcases(show i=0∨i=1∨i=2 by omega) with rfl|rfl|rfl<;>rfl);rw[List.set_set] at h4
 simpa using h4
theorem zoD(gh:Nat)(egh:∀args w,(callFunc gh args).run Tryz.prog w=.ok (.enter gh args) w)(hc:Array Value)(H:Int→Bool)(l:List Bf)(a:Option Addr)(c:Nat)(x:Bf)(w:World)(hl:zB w a l)(hn:a=none→c=0)(h8:l.length=8)(hi:zZ (plB x.pl) l=-1)
 (hh:∀n w',Below w.heap.size w w'→Calls Tryz.prog gh (#[.int .i64 n]++hc) w' fun e w''=>e=.returned (.bool (H n))∧Below w'.heap.size w' w'') (hr:zac (zaO false H) l l.length=-1) :
 Calls Tryz.prog 161 #[.slice a l.length c,x.val,.func (.func gh) #[] hc] w fun e w'=>e=.returned (.tuple #[.slice none 0 0,.iface 87 (.int .i64 7)])∧Below w.heap.size w w':=by
 have HI:=zG hi;have HH:=zG hh;have HR:=zG hr;have H8:=zG h8;have h8':(8:Int)≤(l.length:Int):=by omega
 clear hi hh hr h8;have b0:=zs w (.cells #[.int .i64 x.pl,.string x.data,.bool x.dirty,.int .i64 x.used] 137);go_enter Tryz.func161,Tryz.ntmps161;go_wp2_with fail;refine(zbj l a c _ (hl.later b0) hn (by have:=H8.out;omega)).mono ?_;rintro e w1 ⟨a1,c1,rfl,hN,hb1⟩;have F1:zbJ w1 w.heap.size x:=zbJ.later ⟨by simp,by simp,by simp,by simp⟩ hb1;have HB1:Below w.heap.size w w1:=zb b0 hb1;have hN1:zal (w.heap.size+1) w1 a1 c1 l:=by simpa using hN
 clear hN hb1 b0;obtain⟨p0,p1,p2,p3⟩:=id F1;go_wp2_with fail;refine(zbp l a1 c1 x.pl _ hN1.here _ HI.out).mono ?_;rintro e w2 ⟨rfl,hb2⟩;have HB2:=zb HB1 hb2;have hN2:=hN1.later hb2;clear hb2 HB1 F1 p0 p1 p2 p3 hN1;go_wp2_with fail;refine(zcK false gh egh hc H l a1 c1 _ hN2.here (fun n w' hb=>HH.out n w' (zb HB2 hb)) _ HR.out).mono ?_;rintro e w3 ⟨rfl,hb3⟩;have HB3:=zb HB2 hb3;clear hb3 HB2 hN2;go_wp2
 go_ret2
 exact⟨rfl,HB3⟩
def zeO(l:List Bf)(x:Bf)(H:Int→Bool)(m:List Bf):Prop :=
 (∃k:Nat,∃_:k<l.length,zZ (plB x.pl) l=k∧m=l.set k x) ∨
 (zZ (plB x.pl) l=-1∧l.length<8∧m=zci l x) ∨
 (zZ (plB x.pl) l=-1∧l.length=8∧∃k:Nat,∃_:k<l.length,zac (zaO false H) l l.length=k∧m=zci (l.eraseIdx k) x)
theorem zcE(l:List Bf)(x:Bf):(zci l x).length=l.length+1:=by
 have:=zhy x.pl l
 simp[zci];omega
theorem zb3{l:List Bf}{x y:Bf}:y∈zci l x↔y=x∨y∈l:=by
 rw[zci,List.mem_append,List.mem_cons]
 constructor
 ·rintro(h|h|h)
  ·exact Or.inr (List.mem_of_mem_take h)
  ·exact Or.inl h
  ·exact Or.inr (List.mem_of_mem_drop h)
 ·rintro(h|h)
  ·exact Or.inr (Or.inl h)
  ·rw[←List.take_append_drop (zbo x.pl l) l,List.mem_append] at h;exact h.imp id Or.inr
theorem zez{l:List Bf}{y:Bf}(h:y∈l):∃k:Nat,∃_:k<l.length,zZ (plB y.pl) l=k:=by
 rcases za8 (plB y.pl) l with⟨_,h1⟩|⟨k,hk,e,_⟩
 ·obtain⟨j,hj,rfl⟩:=List.getElem_of_mem h;have:=h1 j hj
  simp[plB] at this
 ·exact⟨k,hk,e⟩
theorem zgV{l:List Bf}{at':Int}{k:Nat}(hk:k<l.length)(h:zZ (plB at') l=k):l[k].pl=at':=by
 rcases za8 (plB at') l with⟨e,_⟩|⟨k',hk',e,h2,_⟩
 ·rw[h] at e;omega
 ·have:k'=k:=by omega
  subst this
  simpa [plB] using h2
theorem zeO.lately{l:List Bf}{x:Bf}{H:Int→Bool}{m:List Bf}(h:zeO l x H m)(hH:∀n,H n=false)(i:Nat)(hi:i<l.length) :
 (∃k:Nat,∃_:k<m.length,zZ (plB l[i].pl) m=k)∨(zZ (plB l[i].pl) m=-1∧∀n (hn:n<l.length),l[n].dirty=false→decide (l[n].used<l[i].used)=false):=by
 rcases h with⟨k,hk,hix,rfl⟩|⟨_,_,rfl⟩|⟨_,_,k,hk,hr,rfl⟩
 ·left
  by_cases e:i=k
  ·subst e;have hm:x∈l.set i x:=List.mem_set hk x;have:=zez hm;rw[←zgV hk hix] at this;exact this
  ·have hi':i<(l.set k x).length:=by rw[List.length_set];exact hi
   have hm:=List.getElem_mem hi';rw[List.getElem_set_ne (fun h=>e h.symm)] at hm;exact zez hm
 ·exact Or.inl (zez (zb3.2 (Or.inr (List.getElem_mem hi))))
 ·by_cases e:i=k
  ·subst e
   rcases za8 (plB l[i].pl) (zci (l.eraseIdx i) x) with⟨e1,_⟩|⟨k,hk,e1,_⟩
   ·right
    refine⟨e1,fun n hn hd=>?_⟩
    rcases zbF (zaO false H) l l.length (Nat.le_refl _) with⟨e2,_⟩|⟨k',hk',_,e2,_,hmin,_⟩
    ·rw[hr] at e2;omega
    ·have:k'=i:=by rw[hr] at e2;omega
     subst this;have:=hmin n hn hn (by simp[zaO,hd,hH]);exact decide_eq_false (by omega)
   ·exact Or.inl ⟨k,hk,e1⟩
  ·left
   apply zez;rw[zb3]
   right
   rw[List.mem_eraseIdx_iff_getElem];exact⟨i,hi,e,rfl⟩
end Go.Proofs.YtlhgjplipgandaaGreatDoor
namespace Go.Proofs.YtlhgjplipgandaaGreatDoor
def ltB(a b:Bf):Prop:=a.pl<b.pl
theorem zcm.pair{l:List Bf}(h:zcm l):l.Pairwise ltB:=by
 rw[List.pairwise_iff_getElem];intro i j hi hj hij;exact h.lt' i j hij hj
theorem zmJ(at':Int)(l:List Bf):(∀j (hj:j<l.length),j<zbo at' l→l[j].pl≤at')∧(∀(h:zbo at' l<l.length),at'<l[zbo at' l].pl):=by
 unfold zbo
 cases e:l.findIdx? (gtB at') with
 |none =>
  rw[List.findIdx?_eq_none_iff] at e;refine⟨fun j hj _=>?_,fun h=>absurd h (Nat.lt_irrefl _)⟩;have:=e _ (List.getElem_mem hj);simp only[gtB,decide_eq_false_iff_not] at this
  omega
 |some k =>
  rw[List.findIdx?_eq_some_iff_getElem] at e;obtain⟨h1,h2,h3⟩:=e;refine⟨fun j hj hjk=>?_,fun h=>by simpa [gtB] using h2⟩;have:=h3 j hjk;simp only[gtB,decide_eq_true_eq] at this
  omega
theorem zh2{l:List Bf}{x:Bf}(h:l.Pairwise ltB)(hx:∀y∈l,y.pl ≠ x.pl):(zci l x).Pairwise ltB:=by
 obtain⟨s1,s2⟩:=zmJ x.pl l;have hp:=List.pairwise_iff_getElem.1 h;have h1:∀y∈l.take (zbo x.pl l),y.pl<x.pl:=by
  intro y hy;obtain⟨j,hj,rfl⟩:=List.getElem_of_mem hy;rw[List.length_take] at hj;rw[List.getElem_take];have a:=s1 j (by omega) (by omega);have b:=hx _ (List.getElem_mem (show j<l.length by omega))
  omega
 have h2:∀y∈l.drop (zbo x.pl l),x.pl<y.pl:=by
  intro y hy;obtain⟨j,hj,rfl⟩:=List.getElem_of_mem hy;rw[List.length_drop] at hj;rw[List.getElem_drop];have hg:zbo x.pl l<l.length:=by omega
  have a:=s2 hg
  by_cases e:j=0
  ·subst e;simpa using a
  ·have b:=hp (zbo x.pl l) (zbo x.pl l+j) hg (by omega) (by omega);simp only[ltB] at b
   omega
 rw[zci,List.pairwise_append];refine⟨h.sublist (List.take_sublist _ _),?_,?_⟩
 ·rw[List.pairwise_cons];exact⟨h2,h.sublist (List.drop_sublist _ _)⟩
 ·intro a ha b hb;rw[List.mem_cons] at hb
  rcases hb with rfl|hb
  ·exact h1 a ha
  ·have:=h1 a ha;have:=h2 b hb;simp only[ltB];omega
theorem at_mem{m:List Bf}(hr:m.Pairwise ltB){y:Bf}(hy:y∈m):∃j:Nat,∃hj:j<m.length,zZ (plB y.pl) m=j∧m[j]=y:=by
 obtain⟨j,hj,e⟩:=zez hy;refine⟨j,hj,e,?_⟩;have hp:=zgV hj e;obtain⟨n,hn,rfl⟩:=List.getElem_of_mem hy;have hq:=List.pairwise_iff_getElem.1 hr
 rcases Nat.lt_trichotomy j n with h|h|h
 ·have:=hq j n hj hn h;simp only[ltB] at this;omega
 ·subst h;rfl
 ·have:=hq n j hn hj h;simp only[ltB] at this;omega
structure znE(l:List Bf)(x:Bf)(H:Int→Bool)(m:List Bf)(K:Nat):Prop where
 rise:m.Pairwise ltB
 len:m.length≤8
 has:x∈m
 kle:K≤l.length
 kept:∀i (hi:i<l.length),l[i].pl ≠ x.pl→i ≠ K→l[i]∈m
 gone:∀(hK:K<l.length),l.length=8∧l[K].dirty=false∧H l[K].pl=false∧zZ (plB l[K].pl) m=-1∧l[K].pl ≠ x.pl
theorem zjb{l:List Bf}{at':Int}(h:zZ (plB at') l=-1):∀y∈l,y.pl ≠ at':=by
 intro y hy
 rcases za8 (plB at') l with⟨_,h1⟩|⟨k,hk,e,_⟩
 ·obtain⟨j,hj,rfl⟩:=List.getElem_of_mem hy;have:=h1 j hj
  simpa [plB] using this
 ·rw[h] at e;omega
theorem zeO.facts{l:List Bf}{x:Bf}{H:Int→Bool}{m:List Bf}(h:zeO l x H m)(G:zcm l):∃K,znE l x H m K:=by
 have hp:=G.pair
 rcases h with⟨k,hk,hix,rfl⟩|⟨hix,h8,rfl⟩|⟨hix,h8,k,hk,hr,rfl⟩
 ·refine⟨l.length,⟨?_,by rw[List.length_set];exact G.len,List.mem_set hk x,Nat.le_refl _,fun i hi hne _=>?_,fun h=>absurd h (Nat.lt_irrefl _)⟩⟩
  ·have hpl:=zgV hk hix;rw[List.pairwise_iff_getElem];intro i j hi hj hij;rw[List.length_set] at hi hj;have:=G.lt' i j hij hj;simp only[ltB,List.getElem_set]
   split<;>split
   ·omega
   ·rename_i e1 _;subst e1;omega
   ·rename_i _ e2;subst e2;omega
   ·exact this
  ·by_cases e:i=k
   ·subst e;exact absurd (zgV hk hix) hne
   ·have hi':i<(l.set k x).length:=by rw[List.length_set];exact hi
    have hm:=List.getElem_mem hi';rw[List.getElem_set_ne (fun h=>e h.symm)] at hm;exact hm
 ·refine⟨l.length,⟨zh2 hp (zjb hix),by rw[zcE];omega,zb3.2 (Or.inl rfl),Nat.le_refl _,fun i hi _ _=>zb3.2 (Or.inr (List.getElem_mem hi)),fun h=>absurd h (Nat.lt_irrefl _)⟩⟩
 ·have hno:∀y∈l.eraseIdx k,y.pl ≠ x.pl:=fun y hy=>zjb hix y (List.mem_of_mem_eraseIdx hy)
  refine⟨k,⟨zh2 (hp.sublist (List.eraseIdx_sublist _ _)) hno,by rw[zcE,List.length_eraseIdx,if_pos hk];omega,zb3.2 (Or.inl rfl),Nat.le_of_lt hk,fun i hi _ hne=>?_,fun _=>?_⟩⟩
  ·rw[zb3,List.mem_eraseIdx_iff_getElem];exact Or.inr ⟨i,hi,hne,rfl⟩
  ·have hf:zaO false H l[k]=true:=by
    rcases zbF (zaO false H) l l.length (Nat.le_refl _) with⟨e2,_⟩|⟨k',hk',_,e2,hf,_⟩
    ·rw[hr] at e2;omega
    ·have:k'=k:=by rw[hr] at e2;omega
     subst this;exact hf
   rw[zaO,Bool.and_eq_true] at hf;have hx:=zjb hix _ (List.getElem_mem hk);refine⟨h8,by simpa using hf.1,by simpa using hf.2,?_,hx⟩;apply zgq;intro j hj;simp only[plB,beq_eq_false_iff_ne];have hm:=List.getElem_mem hj;rw[zb3,List.mem_eraseIdx_iff_getElem] at hm
   rcases hm with hm|⟨n,hn,hne,hm⟩
   ·rw[hm];exact fun h=>hx h.symm
   ·rw[←hm]
    rcases Nat.lt_or_gt_of_ne hne with h|h
    ·have:=G.lt' n k h hk;omega
    ·have:=G.lt' k n h hn;omega
end Go.Proofs.YtlhgjplipgandaaGreatDoor
namespace Go.Proofs.YtlhgjplipgandaaGreatDoor
open Go.RowKit Go.BigFrame
attribute [local go_sem] ze.cell ze.frozen
def zc6(base:Nat)(a:Option Addr):Prop:=∀p,a=some p→base≤p.block
theorem zal.newA{base:Nat}{w:World}{a:Option Addr}{c:Nat}{l:List Bf}(h:zal base w a c l):zc6 base a:=fun p e=>(h.own.lt p.block (by rw[e];rfl)).1
theorem zfS{base b o:Nat}(h:base≤b):zc6 base (some ⟨b,o,none⟩):=fun p e=>by simp only[Option.some.injEq] at e;subst e;exact h
theorem zc6.mono{base base':Nat}{a:Option Addr}(h:zc6 base a)(hb:base'≤base):zc6 base' a:=fun p e=>Nat.le_trans hb (h p e)
theorem cleanN(l:List Bf)(a:Option Addr)(c:Nat)(at':Int)(data:ByteArray)(w:World)(hl:zB w a l)(hn:a=none→c=0)(h10:l.length≤1000)(ho:zdZ l) :
 Calls Tryz.prog 136 #[.slice a l.length c,.int .i64 at',.string data] w fun e w'=>∃a' c',e=.returned (.slice a' l.length c')∧zB w' a' (cleanL l at' data)∧l.length≤c'∧zc6 w.heap.size a'∧(a'=none→c'=0)∧Below w.heap.size w w':=by
 have HO:=zG ho;clear ho
 rcases za8 (plB at') l with⟨h,_⟩|⟨k,hk,h,_,_⟩
 ·have HC:=zG (znS (data:=data) h);go_enter Tryz.func136,Tryz.ntmps136;go_wp2_with fail;refine(zbj l a c _ hl hn (by omega)).mono ?_;rintro e w1 ⟨a',c',rfl,hN,hb1⟩;go_wp2_with fail;refine(zbp l a' c' at' _ hN.here _ h).mono ?_;rintro e w2 ⟨rfl,hb2⟩;have R:=hN.here.later hb2;have cp:=hN.cap;have nw:=hN.newA;have nn:=hN.nil;clear hN h;go_wp2;go_ret;exact⟨a',c',rfl,by rw[HC.out];exact R,cp,nw,nn,zb hb1 hb2⟩
 ·have h0:l ≠ []:=by rintro rfl;exact absurd hk (Nat.not_lt_zero _)
  have H0:=zG h0;clear h0
  by_cases hd:l[k].data=data
  ·have HC:=zG (zmj hk HO.out h hd);have hs:=zpI hd;go_enter Tryz.func136,Tryz.ntmps136;go_wp2_with fail;refine(zbj l a c _ hl hn (by omega)).mono ?_;rintro e w1 ⟨a',c',rfl,hN,hb1⟩;obtain⟨b,rfl,hbb,hlt,hfz⟩:=hN.place H0.out;go_wp2_with fail;refine(zbp l _ c' at' _ hN.here _ h).mono ?_;rintro e w2 ⟨rfl,hb2⟩;have R:=hN.here.later hb2;have cp:=hN.cap;have hf2:w2.frozen? ⟨b,0+k*4+2,none⟩=false:=by rw[hb2.frozen (p:=⟨b,0+k*4+2,none⟩) hlt];exact hfz _
   obtain⟨c0,c1,c2,c3⟩:=R.cells hk;rw[Nat.zero_add] at c0 c1 c2 c3 hf2;clear hN h hfz hd;have HB2:=zb hb1 hb2;go_wp2;go_ret;refine⟨_,c',rfl,?_,cp,zfS hbb,by simp,by(with_reducible repeat first|exact Below.refl _ _|refine zc ?_ _|refine zd ?_|refine bset' ?_ (by omega) _|refine zb ?_ (by assumption))⟩;rw[HC.out];have:=R.set hk 2 (by omega) { l[k] with dirty:=false } (.bool false) rfl (fun i hi hne=>by match i,hi,hne with|0,_,_=>rfl|1,_,_=>rfl|3,_,_=>rfl);rw[Nat.zero_add] at this;exact this
  ·have HC:=zG (zjL hk HO.out h hd);have hs:=zpJ hd;go_enter Tryz.func136,Tryz.ntmps136;go_wp2_with fail;refine(zbj l a c _ hl hn (by omega)).mono ?_;rintro e w1 ⟨a',c',rfl,hN,hb1⟩;obtain⟨b,rfl,hbb,hlt,hfz⟩:=hN.place H0.out;go_wp2_with fail;refine(zbp l _ c' at' _ hN.here _ h).mono ?_;rintro e w2 ⟨rfl,hb2⟩;have R:=hN.here.later hb2;have cp:=hN.cap;obtain⟨c0,c1,c2,c3⟩:=R.cells hk;rw[Nat.zero_add] at c0 c1 c2 c3;clear hN h hfz hd;go_wp2;go_ret;exact⟨_,c',rfl,by rw[HC.out];exact R,cp,zfS hbb,by simp,zb hb1 hb2⟩
theorem useN(l:List Bf)(a:Option Addr)(c:Nat)(at' now:Int)(w:World)(hl:zB w a l)(hn:a=none→c=0)(h10:l.length≤1000)(ho:zdZ l) :
 Calls Tryz.prog 159 #[.slice a l.length c,.int .i64 at',.int .i64 now] w fun e w'=>∃a' c',e=.returned (.slice a' l.length c')∧zB w' a' (useL l at' now)∧l.length≤c'∧zc6 w.heap.size a'∧(a'=none→c'=0)∧Below w.heap.size w w':=by
 have HO:=zG ho;clear ho
 rcases za8 (plB at') l with⟨h,_⟩|⟨k,hk,h,_,_⟩
 ·have HC:=zG (use_no (now:=now) h);go_enter Tryz.func159,Tryz.ntmps159;go_wp2_with fail;refine(zbj l a c _ hl hn (by omega)).mono ?_;rintro e w1 ⟨a',c',rfl,hN,hb1⟩;go_wp2_with fail;refine(zbp l a' c' at' _ hN.here _ h).mono ?_;rintro e w2 ⟨rfl,hb2⟩;have R:=hN.here.later hb2;have cp:=hN.cap;have nw:=hN.newA;have nn:=hN.nil;clear hN h;go_wp2;go_ret;exact⟨a',c',rfl,by rw[HC.out];exact R,cp,nw,nn,zb hb1 hb2⟩
 ·have h0:l ≠ []:=by rintro rfl;exact absurd hk (Nat.not_lt_zero _)
  have H0:=zG h0;clear h0;have HC:=zG (zpN (now:=now) hk HO.out h);go_enter Tryz.func159,Tryz.ntmps159;go_wp2_with fail;refine(zbj l a c _ hl hn (by omega)).mono ?_;rintro e w1 ⟨a',c',rfl,hN,hb1⟩;obtain⟨b,rfl,hbb,hlt,hfz⟩:=hN.place H0.out;go_wp2_with fail;refine(zbp l _ c' at' _ hN.here _ h).mono ?_;rintro e w2 ⟨rfl,hb2⟩;have R:=hN.here.later hb2;have cp:=hN.cap;have hf2:w2.frozen? ⟨b,0+k*4+3,none⟩=false:=by rw[hb2.frozen (p:=⟨b,0+k*4+3,none⟩) hlt];exact hfz _
  obtain⟨c0,c1,c2,c3⟩:=R.cells hk;rw[Nat.zero_add] at c0 c1 c2 c3 hf2;clear hN h hfz;have HB2:=zb hb1 hb2;go_wp2;go_ret;refine⟨_,c',rfl,?_,cp,zfS hbb,by simp,by(with_reducible repeat first|exact Below.refl _ _|refine zc ?_ _|refine zd ?_|refine bset' ?_ (by omega) _|refine zb ?_ (by assumption))⟩;rw[HC.out];have:=R.set hk 3 (by omega) { l[k] with used:=now } (.int .i64 now) rfl (fun i hi hne=>by rcases(show i=0∨i=1∨i=2 by omega) with rfl|rfl|rfl<;>rfl);rw[Nat.zero_add] at this;exact this
theorem znb(gh:Nat)(hc:Array Value)(l:List Bf)(a:Option Addr)(c:Nat)(x:Bf)(w:World)(hl:zB w a l)(hn:a=none→c=0)(h8:l.length<8)(hi:zZ (plB x.pl) l=-1) :
 Calls Tryz.prog 161 #[.slice a l.length c,x.val,.func (.func gh) #[] hc] w fun e w'=>∃a' c',e=.returned (.tuple #[.slice a' (l.length+1) c',.nilIface])∧zB w' a' (zci l x)∧l.length+1≤c'∧zc6 w.heap.size a'∧(a'=none→c'=0)∧Below w.heap.size w w':=by
 have HI:=zG hi;clear hi;have b0:=zs w (.cells #[.int .i64 x.pl,.string x.data,.bool x.dirty,.int .i64 x.used] 137);go_enter Tryz.func161,Tryz.ntmps161;go_wp2_with fail;refine(zbj l a c _ (hl.later b0) hn (by omega)).mono ?_;rintro e w1 ⟨a1,c1,rfl,hN,hb1⟩;have F1:zbJ w1 w.heap.size x:=zbJ.later ⟨by simp,by simp,by simp,by simp⟩ hb1;have HB1:Below w.heap.size w w1:=zb b0 hb1;have z1:w.heap.size+1≤w1.heap.size:=by have:=hb1.size;simpa using this
 have hN1:zal (w.heap.size+1) w1 a1 c1 l:=by simpa using hN
 clear hN hb1 b0;obtain⟨p0,p1,p2,p3⟩:=id F1;go_wp2_with fail;refine(zbp l a1 c1 x.pl _ hN1.here _ HI.out).mono ?_;rintro e w2 ⟨rfl,hb2⟩;have F2:=F1.later hb2;have HB2:=zb HB1 hb2;have z2:w.heap.size+1≤w2.heap.size:=Nat.le_trans z1 hb2.size;have hN2:=hN1.later hb2;clear hb2 HB1 F1 p0 p1 p2 p3 hN1 z1;obtain⟨p0,p1,p2,p3⟩:=id F2;have h8':¬(8:Int)≤(l.length:Int):=by omega
 rcases zkH x.pl l with⟨hg,hgl⟩|⟨hg,hgl⟩
 all_goals
  have HG:=zG hg;have HGL:=zG hgl;clear hg hgl;go_wp2_with fail;refine(zhZ x w.heap.size l a1 c1 _ hN2.here F2 _ HG.out).mono ?_;rintro e w3 ⟨rfl,hb3⟩;have F3:=F2.later hb3;have HB3:=zb HB2 hb3;have z3:w.heap.size+1≤w3.heap.size:=Nat.le_trans z2 hb3.size;have hN3:=hN2.later hb3;clear hb3 HB2 F2 p0 p1 p2 p3 hN2 z2;obtain⟨p0,p1,p2,p3⟩:=id F3;go_wp2_with fail;refine(insP l a1 c1 (w.heap.size+1) _ x w3 (by first|exact Nat.le_refl _|exact zhy _ _) (by omega) z3 hN3).mono ?_;rintro e w4 ⟨a4,c4,rfl,hN4,hb4,cp⟩;have HB4:Below w.heap.size w w4:=HB3.trans (hb4.mono (by omega));have R:=hN4.here;have nw:=hN4.newA.mono (base':=w.heap.size) (by omega);have nn:=hN4.nil
  (try rw[←HGL.out] at R)
  go_wp2
  go_ret2
  refine⟨a4,c4,rfl,R,cp,nw,nn,HB4⟩
theorem zna(gh:Nat)(hc:Array Value)(l:List Bf)(a:Option Addr)(c:Nat)(x:Bf)(w:World)(hl:zB w a l)(hn:a=none→c=0)(h8:l.length≤8)(k:Nat)(hk:k<l.length)(hi:zZ (plB x.pl) l=k) :
 Calls Tryz.prog 161 #[.slice a l.length c,x.val,.func (.func gh) #[] hc] w fun e w'=>∃a' c',e=.returned (.tuple #[.slice a' l.length c',.nilIface])∧zB w' a' (l.set k x)∧l.length≤c'∧zc6 w.heap.size a'∧(a'=none→c'=0)∧Below w.heap.size w w':=by
 have HI:=zG hi;clear hi;have h0:l ≠ []:=by rintro rfl;exact absurd hk (Nat.not_lt_zero _)
 have H0:=zG h0;clear h0;have b0:=zs w (.cells #[.int .i64 x.pl,.string x.data,.bool x.dirty,.int .i64 x.used] 137);go_enter Tryz.func161,Tryz.ntmps161;go_wp2_with fail;refine(zbj l a c _ (hl.later b0) hn (by omega)).mono ?_;rintro e w1 ⟨a1,c1,rfl,hN,hb1⟩;have F1:zbJ w1 w.heap.size x:=zbJ.later ⟨by simp,by simp,by simp,by simp⟩ hb1;have HB1:Below w.heap.size w w1:=zb b0 hb1;have hN1:zal (w.heap.size+1) w1 a1 c1 l:=by simpa using hN
 clear hN hb1 b0;obtain⟨b1,rfl,hbb,hlt,hfz⟩:=hN1.place H0.out;obtain⟨p0,p1,p2,p3⟩:=id F1;go_wp2_with fail;refine(zbp l _ c1 x.pl _ hN1.here _ HI.out).mono ?_;rintro e w2 ⟨rfl,hb2⟩;have F2:=F1.later hb2;have HB2:=zb HB1 hb2;have hN2:=hN1.later hb2;have hl2:b1<w2.heap.size:=hN2.lt b1 rfl;have ff:∀o,w2.frozen? ⟨b1,o,none⟩=false:=fun o=>by rw[hb2.frozen (p:=⟨b1,o,none⟩) hlt];exact hfz o
 clear hb2 HB1 F1 p0 p1 p2 p3 hN1 hlt hfz;obtain⟨p0,p1,p2,p3⟩:=id F2;have R:=hN2.here;have cp:=hN2.cap;obtain⟨c0,c1',c2,c3⟩:=R.cells hk;have f0:=ff (k*4);have f1:=ff (k*4+1);have f2:=ff (k*4+2);have f3:=ff (k*4+3);rw[Nat.zero_add] at c0 c1' c2 c3;clear ff hN2 F2;have HR:=zG R;clear R;have nb:b1 ≠ w.heap.size:=by omega
 go_wp2
 go_ret2
 refine⟨_,c1,rfl,HR.out.set4 hk x,cp,zfS (by omega),by simp,by(with_reducible repeat first|exact Below.refl _ _|refine zc ?_ _|refine zd ?_|refine bset' ?_ (by omega) _|refine zb ?_ (by assumption))⟩
theorem zm9(gh:Nat)(egh:∀args w,(callFunc gh args).run Tryz.prog w=.ok (.enter gh args) w)(hc:Array Value)(H:Int→Bool)(l:List Bf)(a:Option Addr)(c:Nat)(x:Bf)(w:World)(hl:zB w a l)(hn:a=none→c=0)(h8:l.length=8)(hi:zZ (plB x.pl) l=-1)
 (hh:∀n w',Below w.heap.size w w'→Calls Tryz.prog gh (#[.int .i64 n]++hc) w' fun e w''=>e=.returned (.bool (H n))∧Below w'.heap.size w' w'') (k:Nat) (hk:k<l.length) (hr:zac (zaO false H) l l.length=k) :
 Calls Tryz.prog 161 #[.slice a l.length c,x.val,.func (.func gh) #[] hc] w fun e w'=>∃a' c',e=.returned (.tuple #[.slice a' l.length c',.nilIface])∧zB w' a' (zci (l.eraseIdx k) x)∧l.length≤c'∧zc6 w.heap.size a'∧(a'=none→c'=0)∧Below w.heap.size w w':=by
 have HI:=zG hi;have HH:=zG hh;have HR:=zG hr;have H8:=zG h8;have h8':(8:Int)≤(l.length:Int):=by omega
 have h0:l ≠ []:=by rintro rfl;exact absurd hk (Nat.not_lt_zero _)
 have H0:=zG h0;have hel:(l.eraseIdx k).length=l.length-1:=by rw[List.length_eraseIdx,if_pos hk]
 have HEL:=zG hel;have hwr:IntKind.i64.wrap ((k:Int)+1)=(k:Int)+1:=by rw[IntKind.wrap_i64];omega
 clear hi hh hr h8 h0 hel;obtain⟨L,hL⟩:∃L,L=l.eraseIdx k:=⟨_,rfl⟩
 have HL:=zG hL;have hLn:l.length=L.length+1:=by rw[hL,HEL.out];omega
 have HLN:=zG hLn;rw[←hL];clear hL hLn;have b0:=zs w (.cells #[.int .i64 x.pl,.string x.data,.bool x.dirty,.int .i64 x.used] 137);go_enter Tryz.func161,Tryz.ntmps161;go_wp2_with fail;refine(zbj l a c _ (hl.later b0) hn (by have:=H8.out;omega)).mono ?_;rintro e w1 ⟨a1,c1,rfl,hN,hb1⟩;have F1:zbJ w1 w.heap.size x:=zbJ.later ⟨by simp,by simp,by simp,by simp⟩ hb1;have HB1:Below w.heap.size w w1:=zb b0 hb1;have z1:w.heap.size+1≤w1.heap.size:=by have:=hb1.size;simpa using this
 have hN1:zal (w.heap.size+1) w1 a1 c1 l:=by simpa using hN
 clear hN hb1 b0;obtain⟨b1,rfl,hbb,hlt,hfz⟩:=hN1.place H0.out;obtain⟨p0,p1,p2,p3⟩:=id F1;go_wp2_with fail;refine(zbp l _ c1 x.pl _ hN1.here _ HI.out).mono ?_;rintro e w2 ⟨rfl,hb2⟩;have F2:=F1.later hb2;have HB2:=zb HB1 hb2;have z2:w.heap.size+1≤w2.heap.size:=Nat.le_trans z1 hb2.size;have hN2:=hN1.later hb2;clear hb2 HB1 F1 p0 p1 p2 p3 hN1 z1 hlt hfz;go_wp2_with fail;refine(zcK false gh egh hc H l _ c1 _ hN2.here (fun n w' hb=>HH.out n w' (zb HB2 hb)) _ HR.out).mono ?_;rintro e w3 ⟨rfl,hb3⟩;have F3:=F2.later hb3;have HB3:=zb HB2 hb3;have z3:w.heap.size+1≤w3.heap.size:=Nat.le_trans z2 hb3.size;have hN3:=hN2.later hb3;clear hb3 HB2 F2 hN2 z2;go_wp2_with fail;refine(delB l b1 c1 k (w.heap.size+1) _ hk hN3).mono ?_;rintro e w4 ⟨rfl,hN4,hb4⟩;have F4:=F3.below hb4 (by omega);have HB4:Below w.heap.size w w4:=HB3.trans (hb4.mono (by omega));have z4:w.heap.size+1≤w4.heap.size:=Nat.le_trans z3 hb4.size;rw[←HL.out] at hN4;rw[show l.length-1=L.length by have:=HLN.out;omega];clear hb4 HB3 F3 hN3 z3
 rcases zkH x.pl L with⟨hg,hgl⟩|⟨hg,hgl⟩
 all_goals
  have HG:=zG hg;have HGL:=zG hgl;clear hg hgl;obtain⟨p0,p1,p2,p3⟩:=id F4;go_wp2_with fail;refine(zhZ x w.heap.size L _ c1 _ hN4.here F4 _ HG.out).mono ?_;rintro e w5 ⟨rfl,hb5⟩;have F5:=F4.later hb5;have HB5:=zb HB4 hb5;have z5:w.heap.size+1≤w5.heap.size:=Nat.le_trans z4 hb5.size;have hN5:=hN4.later hb5;clear hb5 HB4 F4 p0 p1 p2 p3 hN4 z4;obtain⟨p0,p1,p2,p3⟩:=id F5;go_wp2_with fail;refine(insP L _ c1 (w.heap.size+1) _ x w5 (by first|exact Nat.le_refl _|exact zhy _ _) (by have:=H8.out;have:=HLN.out;omega) z5 hN5).mono ?_;rintro e w6 ⟨a6,c6,rfl,hN6,hb6,cp⟩;have HB6:Below w.heap.size w w6:=HB5.trans (hb6.mono (by omega));have R:=hN6.here;have nw:=hN6.newA.mono (base':=w.heap.size) (by omega);have nn:=hN6.nil
  (try rw[←HGL.out] at R)
  go_wp2
  go_ret2
  refine⟨a6,c6,?_,R,by rw[HLN.out];exact cp,nw,nn,HB6⟩;rw[HLN.out]
  rfl
def zo3(base:Nat)(l:List Bf)(x:Bf)(H:Int→Bool)(w':World)(e:Ending):Prop :=
 (∃(m:List Bf) (a':Option Addr) (c':Nat),zeO l x H m∧e=.returned (.tuple #[.slice a' m.length c',.nilIface])∧zB w' a' m∧m.length≤c'∧zc6 base a'∧(a'=none→c'=0)) ∨
 (zZ (plB x.pl) l=-1∧l.length=8∧zac (zaO false H) l l.length=-1∧e=.returned (.tuple #[.slice none 0 0,.iface 87 (.int .i64 7)]))
theorem zjo(gh:Nat)(egh:∀args w,(callFunc gh args).run Tryz.prog w=.ok (.enter gh args) w)(hc:Array Value)(H:Int→Bool)(l:List Bf)(a:Option Addr)(c:Nat)(x:Bf)(w:World)(hl:zB w a l)(hn:a=none→c=0)(h8:l.length≤8)
 (hh:∀n w',Below w.heap.size w w'→Calls Tryz.prog gh (#[.int .i64 n]++hc) w' fun e w''=>e=.returned (.bool (H n))∧Below w'.heap.size w' w'') :
 Calls Tryz.prog 161 #[.slice a l.length c,x.val,.func (.func gh) #[] hc] w fun e w'=>zo3 w.heap.size l x H w' e∧Below w.heap.size w w':=by
 rcases za8 (plB x.pl) l with⟨hi,_⟩|⟨k,hk,hi,_⟩
 ·by_cases hlt:l.length<8
  ·refine(znb gh hc l a c x w hl hn hlt hi).mono ?_;rintro e w' ⟨a',c',rfl,h1,h2,h4,h5,h3⟩;exact⟨Or.inl ⟨zci l x,a',c',Or.inr (Or.inl ⟨hi,hlt,rfl⟩),by rw[zcE],h1,by rw[zcE];exact h2,h4,h5⟩,h3⟩
  ·have h8':l.length=8:=by omega
   rcases zbF (zaO false H) l l.length (Nat.le_refl _) with⟨hr,_⟩|⟨k,hk,_,hr,_⟩
   ·refine(zoD gh egh hc H l a c x w hl hn h8' hi hh hr).mono ?_;rintro e w' ⟨rfl,h3⟩;exact⟨Or.inr ⟨hi,h8',hr,rfl⟩,h3⟩
   ·refine(zm9 gh egh hc H l a c x w hl hn h8' hi hh k hk hr).mono ?_;rintro e w' ⟨a',c',rfl,h1,h2,h4,h5,h3⟩;have hL:(zci (l.eraseIdx k) x).length=l.length:=by rw[zcE,List.length_eraseIdx,if_pos hk];omega
    exact⟨Or.inl ⟨zci (l.eraseIdx k) x,a',c',Or.inr (Or.inr ⟨hi,h8',k,hk,hr,rfl⟩),by rw[hL],h1,by rw[hL];exact h2,h4,h5⟩,h3⟩
 ·refine(zna gh hc l a c x w hl hn h8 k hk hi).mono ?_;rintro e w' ⟨a',c',rfl,h1,h2,h4,h5,h3⟩;exact⟨Or.inl ⟨l.set k x,a',c',Or.inl ⟨k,hk,hi,rfl⟩,by rw[List.length_set],h1,by rw[List.length_set];exact h2,h4,h5⟩,h3⟩
end Go.Proofs.YtlhgjplipgandaaGreatDoor
