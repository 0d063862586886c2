/- Joined texts: Dev2, Dev3, Dev4. -/
import Derived.Deep.RegionLaw
import Derived.Deep.QuietTactic
import Derived.BigQuiet
import Derived.Test.YtlhgjplipgandaaGreatDoorD13
set_option maxRecDepth 100000
set_option maxHeartbeats 8000000
set_option linter.unusedSimpArgs false
namespace Go.Proofs.YtlhgjplipgandaaGreatDoor
open Go.RowKit Go.BigFrame
attribute [local go_sem] ze.cell ze.frozen
theorem zga(d:Dl)(a:An)(l:List Rq)(x:Option Addr)(c:Nat)(h1:d.now.length=32)(h2:d.good.length=32):(d.cells a).set 66 (.slice x l.length c)=({ d with busy:=l }:Dl).cells { a with ba:=x,bc:=c }:=by
 rw[Dl.cells,List.set_append_right _ _ (by simp[zn,h1,h2])]
 simp[zn,h1,h2,Dl.cells]
theorem zu{a:Option Addr}{n c:Nat}{g:Nat}:(Value.slice a n c).ownBlock=some g↔∃p,a=some p∧g=p.block:=by
 cases a with
 |none=>simp[Value.ownBlock]
 |some p=>simp[Value.ownBlock,eq_comm]
theorem zw.drewAt{b:Nat}{d d':Dl}{a a':An}{w w':World}(h:zw b d a d' a' w w'):zw b d a d' a' w w'.drew:=⟨h.dev.later (Below.refl _ _).drew,h.only.drew,h.foot⟩
theorem zo.busied{b:Nat}{d:Dl}{a:An}{w w2 w3:World}(h:zo b d a w)(hb:Below w.heap.size w w2)(l:List Rq)(hl2:l.length≤2)(hr:∀r∈l,r.At w∧r.Off (a.foot b)){v:Value}
 (hown:w3.ownsRow 0 146 6 v l.length (zr l)) (hg:w2.grownBy w3 (Value.slice a.ba d.busy.length a.bc).ownBlock) (hv:∀g,v.ownBlock=some g→(∃p,a.ba=some p∧g=p.block)∨w2.heap.size≤g) :
 ∃x c,v=.slice x l.length c∧zw b d a { d with busy:=l } { a with ba:=x,bc:=c } w (w3.setCell ⟨b,66,none⟩ v):=by
 obtain⟨x,c,rfl,_⟩:=zbq hown;have hs2:=hb.size;have nb:some b ≠ (Value.slice a.ba d.busy.length a.bc).ownBlock:=fun e=>by
  obtain⟨p,hp,e'⟩:=zu.1 e.symm;exact h.sepb p hp e'.symm
 have hlt:=h.lt;have e3:w3.heap[b]?=some (.cells (d.cells a).toArray 108 (0,0)):=by
  rw[hg.block b (by omega) nb,hb.block b hlt];exact h.blk
 have xb:∀p,x=some p→p.block ≠ b:=fun p hp e=>by
  rcases hv p.block (zu.2 ⟨p,hp,rfl⟩) with⟨q,hq,e'⟩|h'
  ·exact h.sepb q hq (by omega)
  ·omega
 have hon:zh (a.foot b) w (w3.setCell ⟨b,66,none⟩ (.slice x l.length c)):=by
  refine((zh.of_below hb).grown hg (fun k hk=>Or.inl ?_)).setCell _ (Or.inl (Or.inl rfl)) _;obtain⟨p,hp,e⟩:=zu.1 hk;exact Or.inr (Or.inr ⟨p,hp,e⟩)
 have hft:∀k,({ a with ba:=x,bc:=c }:An).foot b k→a.foot b k∨w.heap.size≤k:=by
  rintro k (rfl|⟨p,hp,rfl⟩|⟨p,hp,rfl⟩)
  ·exact Or.inl (Or.inl rfl)
  ·exact Or.inl (Or.inr (Or.inl ⟨p,hp,rfl⟩))
  ·rcases hv p.block (zu.2 ⟨p,hp,rfl⟩) with⟨q,hq,e'⟩|h'
   ·exact Or.inl (Or.inr (Or.inr ⟨q,hq,e'⟩))
   ·exact Or.inr (by omega)
 refine⟨x,c,rfl,⟨?_,hon,hft⟩⟩;exact {
  n32:=h.n32
  g32:=h.g32
  blk:=by rw[zx e3,zga d a l x c h.n32 h.g32]
  wrow:=zad h.wrow fun g hg'=>by
   obtain⟨p,hp,rfl⟩:=zu.1 hg';have hpl:=h.wlt p hp;rw[zcs _ _ (h.sepw p hp),hg.block _ (by omega) (fun e=>?_),hb.block _ hpl];obtain⟨q,hq,e'⟩:=zu.1 e.symm;exact h.sepwb p q hp hq e'
  brow:=zad hown fun g hg'=>by
   obtain⟨p,hp,rfl⟩:=zu.1 hg';exact zcs _ _ (xb p hp)
  sepw:=h.sepw
  sepb:=xb
  sepwb:=fun p q hp hq e=>by
   rcases hv q.block (zu.2 ⟨q,hq,rfl⟩) with⟨q',hq',e'⟩|h'
   ·exact h.sepwb p q' hp hq' (by omega)
   ·have:=h.wlt p hp;omega
  reqs:=fun r hr'=>⟨(hr r hr').1.frame (hr r hr').2 hon,(hr r hr').2.step (hr r hr').1 hft⟩
  wfin:=h.wfin
  nod:=h.nod
  blen:=hl2
  nxt:=h.nxt }
theorem ze6{w:World}{n:Nat}(hn:w.heap.size=n)(vs:List Value)(T:TypeId)(j:Nat)(u:Value)(h:vs[j]?=some u):(w.alloc (.cells vs.toArray T)).cell? (Addr.add ⟨n,0,none⟩ j)=some u:=by
 subst hn;rw[Addr.add_mid,Nat.zero_add];exact(zk (heap_alloc_new w (.cells vs.toArray T)) j).trans h
theorem zo.kept66{b:Nat}{d:Dl}{a:An}{w w2 w3:World}(h:zo b d a w)(hb:Below w.heap.size w w2)(hg:w2.grownBy w3 (Value.slice a.ba d.busy.length a.bc).ownBlock):w3.cell? ⟨b,66,none⟩=some (.slice a.ba d.busy.length a.bc)∧w3.frozen? ⟨b,66,none⟩=false∧b<w3.heap.size:=by
 have hs2:=hb.size;have hs3:=hg.size;have nb:some b ≠ (Value.slice a.ba d.busy.length a.bc).ownBlock:=fun e=>by
  obtain⟨p,hp,e'⟩:=zu.1 e.symm;exact h.sepb p hp e'.symm
 have hlt:=h.lt;have e3:w3.heap[b]?=some (.cells (d.cells a).toArray 108 (0,0)):=by
  rw[hg.block b (by omega) nb,hb.block b hlt];exact h.blk
 exact⟨by rw[zk e3];exact Dl.cell66 h.n32 h.g32,zK e3 66,zi e3⟩
theorem zj8(l:List Rq)(r:Rq):zr (l++[r])=zr l++[.bool r.wr,.int .i64 r.f,.int .i64 r.m,.slice r.da r.data.length r.dc,.slice r.ta r.tags.length r.tc,.int .i64 r.born]:=by rw[zaZ];rfl
theorem zjA(b:Nat)(d:Dl)(a:An)(r:Rq)(w:World)(h:zo b d a w)(h2:d.busy.length<2)(hr:r.At w)(ho:r.Off (a.foot b)) :
 Calls Tryz.prog 132 #[.pointer (some ⟨b,0,none⟩),r.val] w fun e w'=>∃a',e=.returned .nilIface∧zw b d a { d with busy:=d.busy++[r] } a' w w':=by
 obtain⟨i,hi,hz0,hz1,hz2⟩:=zbA zfP;have HI:=za (⟨hi,hz0,hz1,hz2⟩:Tryz.prog.info? 146=some i∧_∧_∧_);have c:=h.c66;have hl:=h.lt;have h3:¬(2:Int)≤(d.busy.length:Int):=by omega
 have HD:=za h;have HR:=za (⟨hr,ho⟩:r.At w∧r.Off (a.foot b));clear h hr ho hi hz0 hz1 hz2;go_enter Tryz.func132,Tryz.ntmps132;go_wp2_with fail
 go_region_law (refine zfF rfl (.tmp 16) (.tmp 18) 47 rfl 0 146 i _ 6 80 Tryz.underlying47 HI.out.1 HI.out.2.1 HI.out.2.2.1 HI.out.2.2.2 rfl (by decide) (.slice a.ba d.busy.length a.bc) d.busy.length (zr d.busy) (by simp[Act.eval]) (HD.out.later (by(with_reducible repeat first|exact Below.refl _ _|refine zc ?_ _|refine zd ?_|refine bset' ?_ (by omega) _|refine zb ?_ (by assumption)))).brow ⟨w.heap.size+1,0,none⟩ 1 1 [.bool r.wr,.int .i64 r.f,.int .i64 r.m,.slice r.da r.data.length r.dc,.slice r.ta r.tags.length r.tc,.int .i64 r.born] (by simp[Act.eval]) rfl (fun j u hj=>ze6 (by simp) _ _ j u hj) (by simp[Value.oneCell']) (by omega) (by unfold maxLen;omega) (by omega) (Nat.zero_le _) ?_;intro v' w3 hown hg hv;obtain⟨x,cx,rfl,-⟩:=zbq hown;obtain⟨c3,f3,l3⟩:=HD.out.kept66 (by(with_reducible repeat first|exact Below.refl _ _|refine zc ?_ _|refine zd ?_|refine bset' ?_ (by omega) _|refine zb ?_ (by assumption))) hg;have HG:=za (⟨hown,hg,hv⟩:_∧_∧_);clear hown hg hv)
 all_goals
  obtain⟨hown,hg,hv⟩:=HG.out;obtain⟨x',c',e',hst⟩:=HD.out.busied (w2:=_) (by(with_reducible repeat first|exact Below.refl _ _|refine zc ?_ _|refine zd ?_|refine bset' ?_ (by omega) _|refine zb ?_ (by assumption))) (d.busy++[r]) (by simp;omega) (fun q hq=>by
   rcases List.mem_append.1 hq with hq|hq
   ·exact HD.out.reqs q hq
   ·obtain rfl:=List.mem_singleton.1 hq;exact HR.out) (by rw[zj8,List.length_append];exact hown) hg (fun g hg'=>by
   rcases hv with hv|hv
   ·rw[hv] at hg';exact Or.inl (zu.1 hg')
   ·rw[hv] at hg';exact Or.inr (by simpa using Nat.le_of_eq (Option.some.inj hg')))
  have HST:=za hst;clear hown hg hv hst e';go_wp2;go_ret;exact⟨_,rfl,HST.out⟩
theorem zgQ{a b c:World}{g:Nat}(h:a.grownBy b (some g))(k:b.grownBy c (some g)):a.grownBy c (some g) :=
 ⟨k.os.trans h.os,k.tape.trans h.tape,k.output.trans h.output,Nat.le_trans h.size k.size,fun i hi hn=>(k.block i (Nat.lt_of_lt_of_le hi h.size) hn).trans (h.block i hi hn)⟩
theorem zhY{a b:World}{row:Option Nat}(h:a.drew.grownBy b row):a.grownBy b row:=⟨h.os,h.tape,h.output,h.size,h.block⟩
theorem zeroR(w:World):(zeroValue 146).run Tryz.prog w=.ok (.agg #[.bool false,.int .i64 0,.int .i64 0,.slice none 0 0,.slice none 0 0,.int .i64 0]) w:=Tryz.zeroValue146 w
theorem sizeR:(Tryz.prog.info? 146).map (·.size)=some 6:=by kernel_rfl
theorem zkl(b n c i:Nat)(w:World)(hlt:i<n)(hce:¬c=i+1):(Instr.slice 47 (.slice (some ⟨b,0,none⟩) n c) (some (.int .i64 ((i:Int)+1))) none none).run Tryz.prog w=.ok (.slice (some ⟨b,(i+1)*6,none⟩) (n-(i+1)) (c-(i+1))) w:=by
 have h1:(0:Int)≤(i:Int)+1:=by omega
 have h2:(i:Int)+1≤(n:Int):=by omega
 simp[go_sem,h1,h2,hce]
theorem znp(b n c i:Nat)(w:World)(hlt:i<n)(hcap:n≤c):(Instr.slice 47 (.slice (some ⟨b,0,none⟩) n c) none (some (.int .i64 (i:Int))) none).run Tryz.prog w=.ok (.slice (some ⟨b,0,none⟩) i c) w:=by
 have h2:i≤c:=by omega
 simp[go_sem,h2]
theorem zlW(b n i:Nat)(w:World)(hlt:n=i+1):(Instr.slice 47 (.slice (some ⟨b,0,none⟩) n (i+1)) (some (.int .i64 ((i:Int)+1))) none none).run Tryz.prog w=.ok (.slice (some ⟨b,0,none⟩) 0 0) w:=by
 subst hlt;have h1:(0:Int)≤(i:Int)+1:=by omega
 simp[go_sem,h1]
theorem zhg(b n c i:Nat)(w:World)(hlt:i<n)(hcap:n≤c)(hm:c≤9223372036854775807):(Instr.slice 47 (.slice (some ⟨b,0,none⟩) (n-1) c) (some (.int .i64 ((n-1:Nat):Int))) (some (.int .i64 (n:Int))) none).run Tryz.prog w=.ok (.slice (some ⟨b,(n-1)*6,none⟩) 1 (c-(n-1))) w:=by
 have h1:((n-1:Nat):Int)≤(n:Int):=by omega
 have h2:¬c=n-1:=by omega
 have h3:n-(n-1)=1:=by omega
 simp[go_sem,h1,h2,h3,hcap]
def zs6:List Value:=(Builtin.zeroCells (Value.agg #[.bool false,.int .i64 0,.int .i64 0,.slice none 0 0,.slice none 0 0,.int .i64 0]).cells 1).toList
theorem zl7:zs6.length=6:=by simp[zs6,Builtin.zeroCells,Value.cells]
theorem znQ{w:World}{b:Nat}{cur:List Value}{t:TypeId}(hg:w.heap[b]?=some (.cells cur.toArray t (0,0)))(o j:Nat)(v:Value)(h:cur[o+j]?=some v):w.cell? (Addr.add ⟨b,o,none⟩ j)=some v:=by
 rw[Addr.add_mid]
 simp[World.cell?,hg,h]
theorem zmp(b n c k:Nat)(cur xs:List Value)(w:World)(hg:w.heap[b]?=some (.cells cur.toArray 146 (0,0)))(hcl:cur.length=c*6)(hk:k<n)(hnc:n≤c)(hcm:c≤9223372036854775807)
 (hxl:xs.length=(n-(k+1))*6) (hx:∀j v,xs[j]?=some v→cur[(k+1)*6+j]?=some v) (h1:∀v∈xs,v.oneCell'=true) :
 Calls Tryz.prog 179 #[.slice (some ⟨b,0,none⟩) n c,.int .i64 k,.int .i64 ((k:Int)+1)] w fun e w' =>
  e=.returned (.slice (some ⟨b,0,none⟩) (n-1) c)∧w'.heap[b]?=some (.cells (splice (splice cur (k*6) xs) ((n-1)*6) zs6).toArray 146 (0,0))∧w.grownBy w' (some b):=by
 have q1:(k:Int)+1≤(n:Int):=by omega
 have q2:(0:Int)≤(k:Int)+1:=by omega
 have q3:¬((k:Int)=(k:Int)+1):=by omega
 have q4:(k:Int)≤(k:Int)+1:=by omega
 have HC:=za hcl;have HX:=za hx;have HL:=za hxl;have HG:=za hg;have H1:=za h1;clear hcl hx hxl hg h1;have hsl1:=fun w=>znp b n c k w hk hnc
 have hsl3:=fun w=>zhg b n c k w hk hnc hcm
 have hcut:(splice cur (k*6) xs).length=c*6:=by rw[length_splice _ _ _ (by rw[HC.out,HL.out];omega),HC.out]
 have HS:=za hcut;clear hcut;have hn1:k+(n-(k+1))=n-1:=by omega
 have HN1:=za hn1;clear hn1
 by_cases hce:c=k+1
 ·have hnk:n=k+1:=by omega
  subst hce;subst hnk;clear hsl3;have hsl3:=fun w=>zhg b (k+1) (k+1) k w hk hnc hcm
  simp only[Nat.add_sub_cancel] at hsl3 HS;rw[show k+1-k=1 by omega] at hsl3;have hsl2:=fun w=>zlW b (k+1) k w rfl
  obtain rfl:xs=[]:=List.eq_nil_of_length_eq_zero (by rw[HL.out];omega);go_enter Tryz.func179,Tryz.ntmps179;go_wp2_with fail
  go_region_law (refine zeG rfl (.tmp 22) (.tmp 25) 47 rfl 146 6 Tryz.underlying47 sizeR b k (k+1) (some ⟨b,0,none⟩) 0 0 (by simp[Act.eval,Act.put]) (by simp[Act.eval,Act.put]) cur 146 [] HG.out rfl (by omega) (fun h=>absurd h (Nat.not_lt_zero _)) (by rw[HC.out];simp;omega) (by simp) ?_;intro w1 G1 hb1)
  obtain⟨w2,hcl,G2,hb2⟩:=zc5 (P:=Tryz.prog) w1 47 146 0 _ 6 Tryz.underlying47 zeroR rfl (by decide) b (k*6) 1 1 _ 146 G1.out (by omega) (by have:=HS.out;omega) (by omega);have HG2:=za G2;have HB2:=za hb2;clear G2 hb2;go_wp2;go_ret;exact⟨rfl,HG2.out,zgQ (zhY hb1) HB2.out⟩
 ·have hsl2:=fun w=>zkl b n c k w hk hce
  go_enter Tryz.func179,Tryz.ntmps179;go_wp2_with fail
  go_region_law (refine zeG rfl (.tmp 22) (.tmp 25) 47 rfl 146 6 Tryz.underlying47 sizeR b k c (some ⟨b,(k+1)*6,none⟩) (n-(k+1)) (c-(k+1)) (by simp[Act.eval,Act.put]) (by simp[Act.eval,Act.put]) cur 146 xs HG.out HL.out (by omega) (fun _=>⟨_,rfl,fun j v hj=>znQ HG.out _ _ _ (HX.out j v hj)⟩) (by rw[HC.out,HL.out];omega) H1.out ?_;intro w1 G1 hb1;rw[HN1.out])
  obtain⟨w2,hcl,G2,hb2⟩:=zc5 (P:=Tryz.prog) w1 47 146 0 _ 6 Tryz.underlying47 zeroR rfl (by decide) b ((n-1)*6) 1 (c-(n-1)) _ 146 G1.out (by omega) (by rw[HS.out];omega) (by omega);have HG2:=za G2;have HB2:=za hb2;clear G2 hb2;go_wp2;go_ret;exact⟨rfl,HG2.out,zgQ (zhY hb1) HB2.out⟩
theorem zkp{α:Type}(L cs:List α)(o:Nat)(h:o≤L.length):(splice L o cs).take (o+cs.length)=L.take o++cs:=by
 have e:(L.take o).length=o:=by rw[List.length_take];omega
 rw[splice,←List.append_assoc,List.take_append_of_le_length (by rw[List.length_append,e];exact Nat.le_refl _),List.take_of_length_le (by rw[List.length_append,e];exact Nat.le_refl _)]
theorem zc9{α:Type}(L cs:List α)(o m:Nat)(h:o≤L.length)(hm:m≤o):(splice L o cs).take m=L.take m:=by
 have e:(L.take o).length=o:=by rw[List.length_take];omega
 rw[splice,List.take_append_of_le_length (by rw[e];exact hm),List.take_take,Nat.min_eq_left hm]
theorem zj9(l:List Rq)(k:Nat):(zr l).take (k*6)=zr (l.take k):=by
 by_cases hk:k≤l.length
 ·have e:=zaZ (l.take k) (l.drop k);rw[List.take_append_drop] at e;have hl:(zr (l.take k)).length=k*6:=by rw[zaN,List.length_take,Nat.min_eq_left hk]
  rw[e,List.take_append_of_le_length (by omega),List.take_of_length_le (by omega)]
 ·rw[List.take_of_length_le (by rw[zaN];omega),List.take_of_length_le (by omega)]
theorem zj7(l:List Rq)(k j:Nat):(zr (l.drop k))[j]?=(zr l)[k*6+j]?:=by
 by_cases hk:k≤l.length
 ·have e:=zaZ (l.take k) (l.drop k);rw[List.take_append_drop] at e;have hl:(zr (l.take k)).length=k*6:=by rw[zaN,List.length_take,Nat.min_eq_left hk]
  rw[e,List.getElem?_append_right (by omega),hl]
  congr 1;omega
 ·rw[List.drop_eq_nil_of_le (by omega),List.getElem?_eq_none (by simp[zr]),List.getElem?_eq_none (by rw[zaN];omega)]
theorem delR(l:List Rq)(b c k:Nat)(w:World)(hk:k<l.length)(hN:w.ownsRow 0 146 6 (.slice (some ⟨b,0,none⟩) l.length c) l.length (zr l)) :
 Calls Tryz.prog 179 #[.slice (some ⟨b,0,none⟩) l.length c,.int .i64 k,.int .i64 ((k:Int)+1)] w fun e w' =>
  e=.returned (.slice (some ⟨b,0,none⟩) (l.eraseIdx k).length c)∧w'.ownsRow 0 146 6 (.slice (some ⟨b,0,none⟩) (l.eraseIdx k).length c) (l.eraseIdx k).length (zr (l.eraseIdx k))∧w.grownBy w' (some b):=by
 rcases hN.2 with⟨h,_⟩|⟨g,cap,cur,hv,hg,hh,hnc,hcm,hcs,ht⟩
 ·cases h
 ·simp only[Value.slice.injEq,Option.some.injEq,Addr.mk.injEq,and_true,true_and] at hv;obtain⟨rfl,rfl⟩:=hv;have hcm':c≤9223372036854775807:=by unfold maxLen at hcm;omega
  have hcl:cur.toList.length=c*6:=by rw[Array.length_toList];exact hcs
  have hxl:(zr (l.drop (k+1))).length=(l.length-(k+1))*6:=by rw[zaN,List.length_drop]
  have hel:(l.eraseIdx k).length=l.length-1:=by rw[List.length_eraseIdx,if_pos hk]
  refine(zmp b l.length c k cur.toList (zr (l.drop (k+1))) w (by rw[Array.toArray_toList];exact hh) hcl hk hnc hcm' hxl (fun j v hj=>?_) (zdD _)).mono ?_
  ·rw[zj7,←ht,List.getElem?_take] at hj
   split at hj
   ·exact hj
   ·cases hj
  ·rintro e w' ⟨rfl,hrow,hB⟩;refine⟨by rw[hel],?_,hB⟩;have hsl:(splice cur.toList (k*6) (zr (l.drop (k+1)))).length=c*6:=by rw[length_splice _ _ _ (by rw[hcl,hxl];omega),hcl]
   refine⟨zaN _,Or.inr ⟨b,c,_,rfl,Nat.zero_le _,hrow,by omega,hcm,?_,?_⟩⟩
   ·rw[List.size_toArray,length_splice _ _ _ (by rw[hsl,zl7];omega),hsl]
   ·rw[List.toList_toArray,hel,zc9 _ _ _ _ (by rw[hsl];omega) (Nat.le_refl _),show(l.length-1)*6=k*6+(zr (l.drop (k+1))).length by rw[hxl];omega,zkp _ _ _ (by omega),List.eraseIdx_eq_take_drop_succ,zaZ,←zj9,←ht,List.take_take,Nat.min_eq_left (by omega)]
def za7(pl nx:Nat)(x:Wn):Bool:=x.pl==pl&&x.bit==nx
structure zcI(pb pd b pl nx:Nat)(w:World):Prop where
 c1:w.cell? ⟨pb,0,none⟩=some (.int .i64 pl)
 c2:w.cell? ⟨pd,0,none⟩=some (.pointer (some ⟨b,0,none⟩))
 c3:w.cell? ⟨b,65,none⟩=some (.int .i64 nx)
theorem zcI.later{pb pd b pl nx:Nat}{w w':World}(h:zcI pb pd b pl nx w)(hb:Below w.heap.size w w'):zcI pb pd b pl nx w':=⟨cell_later' hb h.c1,cell_later' hb h.c2,cell_later' hb h.c3⟩
theorem zcI.frame{F:Nat→Prop}{pb pd b pl nx:Nat}{w w':World}(h:zcI pb pd b pl nx w)(hk:zh F w w')(h1:¬F pb)(h2:¬F pd)(h3:¬F b):zcI pb pd b pl nx w' :=
 ⟨by rw[hk.cell (p:=⟨pb,0,none⟩) (zg h.c1) h1];exact h.c1,by rw[hk.cell (p:=⟨pd,0,none⟩) (zg h.c2) h2];exact h.c2,by rw[hk.cell (p:=⟨b,65,none⟩) (zg h.c3) h3];exact h.c3⟩
theorem zmc{B:Nat}{a w:World}(h:Below B a w)(n:Nat):Below B a (w.drewN n):=⟨h.os,h.tape,h.output,h.size,h.block⟩
theorem zgT(x:Wn)(pb pd b pl nx:Nat)(w:World)(h:zcI pb pd b pl nx w) :
 Calls Tryz.prog 231 #[x.val,.pointer (some ⟨pb,0,none⟩),.pointer (some ⟨pd,0,none⟩)] w fun e w'=>e=.returned (.bool (za7 pl nx x))∧Below w.heap.size w w':=by
 have c1:=zU h.c1;have c2:=zU h.c2;have c3:=zU h.c3;have l1:=zg h.c1;have l2:=zg h.c2;have l3:=zg h.c3;have d1:=h.c1;have d2:=h.c2;have d3:=h.c3;clear h;unfold za7
 by_cases hp:x.pl=pl
 ·have e1:((x.pl:Int)==(pl:Int))=true:=by rw[beq_iff_eq];omega
  have e2:((x.bit:Int)==(nx:Int))=(x.bit==nx):=by
   rw[Bool.eq_iff_iff,beq_iff_eq,beq_iff_eq];omega
  have e3:(x.pl==pl)=true:=by rw[beq_iff_eq];exact hp
  rw[e3,Bool.true_and];have HP:=za hp;clear hp e3;go_enter Tryz.func231,Tryz.ntmps231;go_wp2_with fail
  go_quiet (fail)
  go_wp2;go_ret;exact⟨rfl,zmc (zs _ _) _⟩
 ·have e1:((x.pl:Int)==(pl:Int))=false:=by rw[beq_eq_false_iff_ne];omega
  have e3:(x.pl==pl)=false:=by rw[beq_eq_false_iff_ne];exact hp
  rw[e3,Bool.false_and];have HP:=za hp;clear hp e3;go_enter Tryz.func231,Tryz.ntmps231;go_wp2_with fail
  go_quiet (fail)
  go_wp2;go_ret;exact⟨rfl,zmc (zs _ _) _⟩
def zeP(w:World)(a:Option Addr)(l:List Wn):Prop:=l=[]∨∃g,a=some ⟨g,0,none⟩∧∀i (h:i<l.length),w.cell? ⟨g,i*3,none⟩=some (.int .i64 l[i].pl)∧w.cell? ⟨g,i*3+1,none⟩=some (.string l[i].data)∧w.cell? ⟨g,i*3+2,none⟩=some (.int .i64 l[i].bit)
theorem zeP.later{w w':World}{a:Option Addr}{l:List Wn}(h:zeP w a l)(hb:Below w.heap.size w w'):zeP w' a l:=by
 rcases h with h|⟨g,ha,hc⟩
 ·exact Or.inl h
 ·exact Or.inr ⟨g,ha,fun i hi=>⟨cell_later' hb (hc i hi).1,cell_later' hb (hc i hi).2.1,cell_later' hb (hc i hi).2.2⟩⟩
theorem zdJ{w:World}{a:Option Addr}{c:Nat}{l:List Wn}(h:w.ownsRow 0 213 3 (.slice a l.length c) l.length (zX l)):zeP w a l:=by
 rcases h.2 with⟨h1,h2⟩|⟨g,cap,cur,hv,hg,hh,hnc,hcm,hcs,ht⟩
 ·exact Or.inl (List.eq_nil_of_length_eq_zero h2)
 ·simp only[Value.slice.injEq,true_and] at hv;obtain⟨rfl,rfl⟩:=hv;refine Or.inr ⟨g,rfl,fun i hi=>?_⟩;obtain⟨k0,k1,k2⟩:=zfH l i hi;exact⟨(h.cellAt (i*3) (by omega)).trans k0,(h.cellAt (i*3+1) (by omega)).trans k1,(h.cellAt (i*3+2) (by omega)).trans k2⟩
def zdU(p:Wn→Bool)(l:List Wn):Int:=match l.findIdx? p with|some k=>(k:Int)|none=>-1
theorem zlg{p:Wn→Bool}{l:List Wn}{k:Nat}(h:k<l.length)(hp:p l[k]=true)(hb:∀j (hj:j<k),p (l[j]'(by omega))=false):zdU p l=k:=by
 have:l.findIdx? p=some k:=by
  rw[List.findIdx?_eq_some_iff_getElem];exact⟨h,hp,fun j hj=>by rw[hb j hj];exact Bool.false_ne_true⟩
 rw[zdU,this]
theorem zmQ{p:Wn→Bool}{l:List Wn}(h:∀j (hj:j<l.length),p l[j]=false):zdU p l=-1:=by
 have:l.findIdx? p=none:=by
  rw[List.findIdx?_eq_none_iff];intro x hx;obtain⟨j,hj,rfl⟩:=List.getElem_of_mem hx;exact h j hj
 rw[zdU,this]
theorem zmR(p:Wn→Bool)(l:List Wn):(zdU p l=-1∧∀j (hj:j<l.length),p l[j]=false)∨∃(k:Nat) (h:k<l.length),zdU p l=k∧p l[k]=true∧∀j (hj:j<k),p (l[j]'(by omega))=false:=by
 cases e:l.findIdx? p with
 |none =>
  left
  refine⟨by rw[zdU,e],fun j hj=>?_⟩;rw[List.findIdx?_eq_none_iff] at e;exact e _ (List.getElem_mem hj)
 |some k =>
  right
  have e':=e;rw[List.findIdx?_eq_some_iff_getElem] at e;obtain⟨h1,h2,h3⟩:=e;refine⟨k,h1,by rw[zdU,e'],h2,fun j hj=>?_⟩;have:=h3 j hj
  simpa using this
theorem zgY(pb pd b pl nx:Nat)(l:List Wn)(a:Option Addr)(c:Nat)(w:World)(hl:zeP w a l)(hlen:l.length≤100000)(hh:zcI pb pd b pl nx w) :
 Calls Tryz.prog 239 #[.slice a l.length c,.func (.func 231) #[] #[.pointer (some ⟨pb,0,none⟩),.pointer (some ⟨pd,0,none⟩)]] w fun e w'=>e=.returned (.int .i64 (zdU (za7 pl nx) l))∧Below w.heap.size w w':=by
 rcases hl with rfl|⟨g,rfl,hcs⟩
 ·clear hh;go_enter Tryz.func239,Tryz.ntmps239;go_wp2
  go_loop [8] (fun i=>i=.int .i64 0) (fun _=>0)
  case atStart=>rfl
  case round =>
   subst hrel;go_wp2;go_ret;exact⟨rfl,by(with_reducible repeat first|exact Below.refl _ _|refine zc ?_ _|refine zd ?_|refine bset' ?_ (by omega) _|refine zb ?_ (by assumption))⟩
 have HC:=za hcs;have HH:=za hh;clear hcs hh;go_enter Tryz.func239,Tryz.ntmps239;go_wp2
 go_loopw[8] (fun i wr=>∃k:Nat,k≤l.length∧i=.int .i64 k∧(∀j (hj:j<l.length),j<k→za7 pl nx l[j]=false)∧Below w.heap.size w wr) (fun i _=>l.length-(intOf i).toNat)
 case atStart=>exact⟨0,by omega,rfl,fun j hj h=>absurd h (Nat.not_lt_zero _),Below.refl _ _⟩
 case round =>
  obtain⟨k,hk,rfl,hno,HB⟩:=hrel;have HN:=za hno;clear hno
  by_cases hlt:k<l.length
  ·obtain⟨c0,c1,c2⟩:=HC.out k hlt
   replace c0:=cell_later' HB c0
   replace c1:=cell_later' HB c1
   replace c2:=cell_later' HB c2
   have hq:=zgT l[k] pb pd b pl nx wr (HH.out.later HB)
   cases hpk:za7 pl nx l[k]
   ·rw[hpk] at hq;have HQ:=za hq;clear hq;go_wp2_with fail;refine Calls.mono HQ.out ?_;rintro e w1 ⟨rfl,hb⟩;go_wp2;go_roundw
    case rel=>exact⟨k+1,by omega,by go_num,fun j hj h=>by by_cases e:j=k;(subst e;exact hpk);exact HN.out j hj (by omega),zb HB hb⟩
    case measure=>simp[intOf];omega
   ·rw[hpk] at hq;have HQ:=za hq;clear hq;go_wp2_with fail;refine Calls.mono HQ.out ?_;rintro e w1 ⟨rfl,hb⟩;go_wp2;go_ret;exact⟨zbT (zlg hlt hpk (fun j hj=>HN.out j (by omega) hj)).symm,zb HB hb⟩
  ·go_wp2;go_ret;exact⟨zbT (zmQ (fun j hj=>HN.out j hj (by omega))).symm,HB⟩
theorem zn9{l:List Wn}(hn:(l.map Wn.key).Nodup){pl nx i j:Nat}(hi:i<l.length)(hj:j<l.length)(h1:za7 pl nx l[i]=true)(h2:za7 pl nx l[j]=true):i=j:=by
 simp only[za7,Bool.and_eq_true,beq_iff_eq] at h1 h2;have e:(l.map Wn.key)[i]'(by simpa using hi)=(l.map Wn.key)[j]'(by simpa using hj):=by
  simp only[List.getElem_map,Wn.key];omega
 exact(List.getElem_inj hn).1 e
def z8(pl nx:Nat)(l:List Wn):List Wn:=l.filter fun x=>!za7 pl nx x
theorem zog{l:List Wn}{pl nx:Nat}(h:∀j (hj:j<l.length),za7 pl nx l[j]=false):z8 pl nx l=l:=by
 unfold z8;rw[List.filter_eq_self];intro x hx;obtain⟨j,hj,rfl⟩:=List.getElem_of_mem hx
 simp[h j hj]
theorem zlt{l:List Wn}{pl nx k:Nat}(hk:k<l.length)(h1:za7 pl nx l[k]=true)(h2:∀j (hj:j<l.length),j ≠ k→za7 pl nx l[j]=false):z8 pl nx l=l.eraseIdx k:=by
 have e:l=l.take k++l[k]::l.drop (k+1):=by rw[List.getElem_cons_drop,List.take_append_drop]
 unfold z8;rw[List.eraseIdx_eq_take_drop_succ]
 conv=>lhs;rw[e]
 rw[List.filter_append,List.filter_cons,if_neg (by simp[h1])]
 congr 1
 ·rw[List.filter_eq_self];intro x hx;obtain⟨j,hj,rfl⟩:=List.getElem_of_mem hx;simp only[List.length_take] at hj;rw[List.getElem_take]
  simp[h2 j (by omega) (by omega)]
 ·rw[List.filter_eq_self];intro x hx;obtain⟨j,hj,rfl⟩:=List.getElem_of_mem hx;simp only[List.length_drop] at hj;rw[List.getElem_drop]
  simp[h2 (k+1+j) (by omega) (by omega)]
def zbG(l:List Wn)(k j:Nat):List Wn:=(l.eraseIdx k).take (j-1)++l.drop (j-1)
theorem zlB(l:List Wn)(k:Nat)(hk:k<l.length):zbG l k (k+1)=l:=by
 rw[zbG,Nat.add_sub_cancel,List.eraseIdx_eq_take_drop_succ,List.take_append_of_le_length (by rw[List.length_take];omega),List.take_take,Nat.min_self,List.take_append_drop]
theorem zj2(l:List Wn)(k j:Nat)(hk:k<l.length)(h1:k+1≤j)(h2:j≤l.length):(zbG l k j).length=l.length:=by
 rw[zbG,List.length_append,List.length_take,List.length_drop,List.length_eraseIdx,if_pos hk];omega
theorem zpt(l:List Wn)(k j:Nat)(hk:k<l.length)(h1:k+1≤j)(h2:j<l.length):(zbG l k j)[j]?=some l[j]:=by
 have e:((l.eraseIdx k).take (j-1)).length=j-1:=by rw[List.length_take,List.length_eraseIdx,if_pos hk];omega
 rw[zbG,List.getElem?_append_right (by omega),e,List.getElem?_drop,show j-1+(j-(j-1))=j by omega,List.getElem?_eq_getElem h2]
theorem zmZ(l:List Wn)(k j:Nat)(hk:k<l.length)(h1:k+1≤j)(h2:j<l.length):(zbG l k j).set (j-1) l[j]=zbG l k (j+1):=by
 have e:((l.eraseIdx k).take (j-1)).length=j-1:=by rw[List.length_take,List.length_eraseIdx,if_pos hk];omega
 have e2:(l.eraseIdx k).length=l.length-1:=by rw[List.length_eraseIdx,if_pos hk]
 have e3:(l.eraseIdx k).take j=(l.eraseIdx k).take (j-1)++[l[j]]:=by
  have h:=List.take_succ_eq_append_getElem (l:=l.eraseIdx k) (i:=j-1) (by omega);rw[show j-1+1=j by omega] at h;rw[h,List.getElem_eraseIdx_of_ge (by omega) (by omega)];simp only[show j-1+1=j by omega]
 have e4:l.drop (j-1)=l[j-1]::l.drop j:=by
  have h:=List.drop_eq_getElem_cons (l:=l) (i:=j-1) (by omega)
  rwa [show j-1+1=j by omega] at h
 rw[zbG,zbG,Nat.add_sub_cancel,List.set_append_right _ _ (by omega),e,Nat.sub_self,e4,List.set_cons_zero,e3]
 simp
theorem zmY(l:List Wn)(k:Nat)(hk:k<l.length):(zbG l k l.length).take (l.length-1)=l.eraseIdx k:=by
 have e2:(l.eraseIdx k).length=l.length-1:=by rw[List.length_eraseIdx,if_pos hk]
 rw[zbG,List.take_append_of_le_length (by rw[List.length_take];omega),List.take_take,Nat.min_self,List.take_of_length_le (by omega)]
theorem zl5(l:List Wn)(x:Wn):∀(i:Nat) (_:i<l.length) (tl:List Value),(((zX l++tl).set (i*3) (.int .i64 x.pl)).set (i*3+1) (.string x.data)).set (i*3+2) (.int .i64 x.bit)=zX (l.set i x)++tl:=by
 induction l with
 |nil=>intro i h;exact absurd h (Nat.not_lt_zero _)
 |cons y l ih =>
  intro i h tl
  cases i with
  |zero=>rfl
  |succ i =>
   have:=ih i (by simpa using h) tl;rw[zdg,List.set_cons_succ,zdg,show(i+1)*3=i*3+3 by omega];simp only[List.cons_append,List.set_cons_succ];rw[this]
theorem zeroW(w:World):(zeroValue 213).run Tryz.prog w=.ok (.agg #[.int .i64 0,.string ByteArray.empty,.int .i64 0]) w:=Tryz.zeroValue213 w
theorem zkm(g n c m:Nat)(w:World)(h1:m<n)(h2:n≤c):(Instr.slice 106 (.slice (some ⟨g,0,none⟩) n c) (some (.int .i64 (m:Int))) none none).run Tryz.prog w=.ok (.slice (some ⟨g,m*3,none⟩) (n-m) (c-m)) w:=by
 have k1:(m:Int)≤(n:Int):=by omega
 have k2:¬c=m:=by omega
 have k3:m≤n:=by omega
 simp[go_sem,k2,k3]
theorem znq(g n c m:Nat)(w:World)(h1:m<n)(h2:n≤c):(Instr.slice 106 (.slice (some ⟨g,0,none⟩) n c) none (some (.int .i64 (m:Int))) none).run Tryz.prog w=.ok (.slice (some ⟨g,0,none⟩) m c) w:=by
 have k2:m≤c:=by omega
 simp[go_sem,k2]
def zav(a:Option Addr)(k:Nat):Prop:=∃p,a=some p∧k=p.block
theorem znY(pb pd b pl nx:Nat)(l:List Wn)(g c k:Nat)(tl:List Value)(w:World)(hg:w.heap[g]?=some (.cells (zX l++tl).toArray 213 (0,0)))(htl:tl.length=(c-l.length)*3)(hnc:l.length≤c)(_hcm:c≤9223372036854775807)(hlen:l.length≤100000)(hh:zcI pb pd b pl nx w)(n1:pb ≠ g)(n2:pd ≠ g)(n3:b ≠ g)
 (hk:k<l.length) (_hk1:za7 pl nx l[k]=true) (hk2:∀j (hj:j<l.length),j ≠ k→za7 pl nx l[j]=false) (hi:zdU (za7 pl nx) l=k) (hw:zeP w (some ⟨g,0,none⟩) l) :
 Calls Tryz.prog 232 #[.slice (some ⟨g,0,none⟩) l.length c,.func (.func 231) #[] #[.pointer (some ⟨pb,0,none⟩),.pointer (some ⟨pd,0,none⟩)]] w fun e w' =>
  e=.returned (.slice (some ⟨g,0,none⟩) (l.length-1) c)∧(∃cur:List Value,w'.heap[g]?=some (.cells cur.toArray 213 (0,0))∧cur.length=c*3∧cur.take ((l.length-1)*3)=zX (l.eraseIdx k))∧zh (fun i=>i=g) w w':=by
 have HI:=za hi;have HG:=za hg;have HH:=za hh;have HW:=za hw;have HT:=za htl;have HK2:=za hk2;clear hi hg hh hw htl hk2;go_enter Tryz.func232,Tryz.ntmps232;go_wp2_with fail;refine(zgY pb pd b pl nx l _ c _ HW.out hlen HH.out).mono ?_;rw[HI.out];rintro e w1 ⟨rfl,hb1⟩;have hne:((k:Int) == -1)=false:=by rw[beq_eq_false_iff_ne];omega
 go_wp2_with fail;have HO1:Hid (zh (fun i=>i=g) w w1):=zh.of_below hb1;have HG1:Hid (w1.heap[g]?=some (.cells (zX l++tl).toArray 213 (0,0))):=by show _=_;rw[hb1.block g (zi HG.out)];exact HG.out
 clear hb1
 go_loopw[5,6] (fun i jv wr=>∃m:Nat,k≤m∧m+1≤l.length∧jv=.int .i64 ((m:Int)+1)∧i=.int .i64 m∧wr.heap[g]?=some (.cells (zX (zbG l k (m+1))++tl).toArray 213 (0,0))∧zh (fun i=>i=g) w wr) (fun i _ _=>l.length-(intOf i).toNat)
 case atStart=>exact⟨k,Nat.le_refl _,hk,rfl,rfl,by rw[zlB l k hk];exact HG1.out,HO1.out⟩
 case round =>
  clear HG1 HO1;obtain⟨m,hm1,hm2,rfl,rfl,hgr,HO⟩:=hrel;have HGR:=za hgr;have HOR:=za HO;have lg:=zi hgr;have hml:=zj2 l k (m+1) hk (by omega) hm2;have HML:=za hml;clear hgr HO hml
  by_cases hlt:m+1<l.length
  ·have hma:=zpt l k (m+1) hk (by omega) hlt;have hms:=za (zmZ l k (m+1) hk (by omega) hlt);obtain⟨k0,k1,k2⟩:=zfH (zbG l k (m+1)) (m+1) (by rw[HML.out];exact hlt);have hmx:(zbG l k (m+1))[m+1]'(by rw[HML.out];exact hlt)=l[m+1]:=by
    have:=List.getElem?_eq_getElem (l:=zbG l k (m+1)) (i:=m+1) (by rw[HML.out];exact hlt);rw[this] at hma;exact Option.some.inj hma
   rw[hmx] at k0 k1 k2;have hwl:(zX (zbG l k (m+1))).length=l.length*3:=by rw[zby,HML.out]
   have c0:=(zk HGR.out ((m+1)*3)).trans ((List.getElem?_append_left (by omega)).trans k0);have c1:=(zk HGR.out ((m+1)*3+1)).trans ((List.getElem?_append_left (by omega)).trans k1);have c2:=(zk HGR.out ((m+1)*3+2)).trans ((List.getElem?_append_left (by omega)).trans k2);have hnh:=HK2.out (m+1) hlt (by omega);have hhr:=za (HH.out.frame HOR.out n1 n2 n3);have t1:(m:Int)+1<(l.length:Int):=by omega
   have t2:((m:Int)+1).toNat=m+1:=by omega
   have HWL:=za hwl;clear hma hmx k0 k1 k2 hwl;generalize hx:l[m+1]=x at *;have HX:=za hx;clear hx;have T2:=za t2;clear t2;go_wp2_with fail;have hq:=zgT x pb pd b pl nx _ (hhr.out.later (zs wr (.cells #[.int .i64 x.pl,.string x.data,.int .i64 x.bit] 213)));rw[hnh] at hq;refine hq.mono ?_;rintro e w2 ⟨rfl,hb2⟩;have hbw:=za (zb (zs wr (.cells #[.int .i64 x.pl,.string x.data,.int .i64 x.bit] 213)) hb2);have hg2:w2.heap[g]?=some (.cells (zX (zbG l k (m+1))++tl).toArray 213 (0,0)):=by rw[hbw.out.block g lg];exact HGR.out
   have d0:=(hb2.cell (p:=⟨wr.heap.size,0,none⟩) (by simp)).trans (show _=some (.int .i64 x.pl) by simp);have d1:=(hb2.cell (p:=⟨wr.heap.size,1,none⟩) (by simp)).trans (show _=some (.string x.data) by simp);have d2:=(hb2.cell (p:=⟨wr.heap.size,2,none⟩) (by simp)).trans (show _=some (.int .i64 x.bit) by simp);have f0:=zK hg2 (m*3);have f1:=zK hg2 (m*3+1);have f2:=zK hg2 (m*3+2);obtain⟨k0,k1,k2⟩:=zfH (zbG l k (m+1)) m (by rw[HML.out];omega);have e0:=(zk hg2 (m*3)).trans ((List.getElem?_append_left (by rw[HWL.out];omega)).trans k0);have e1:=(zk hg2 (m*3+1)).trans ((List.getElem?_append_left (by rw[HWL.out];omega)).trans k1);have e2:=(zk hg2 (m*3+2)).trans ((List.getElem?_append_left (by rw[HWL.out];omega)).trans k2);generalize hy:(zbG l k (m+1))[m]'(by rw[HML.out];omega)=y at *;have HG2:=za hg2;have hm0:(m:Int)<(l.length:Int):=by omega
   clear hy k0 k1 k2 hg2 hq hb2 hhr hnh c0 c1 c2;go_wp2;go_roundw
   case rel =>
    refine⟨m+1,by omega,by omega,by go_num,by go_num,?_,?_⟩
    ·rw[zx (zx (zx HG2.out _ _) _ _) _ _,zl5 _ x m (by rw[HML.out];omega) tl];have:=hms.out;rw[Nat.add_sub_cancel] at this;rw[this]
    ·exact(((HOR.out.later hbw.out).setCell _ (Or.inl rfl) _).setCell _ (Or.inl rfl) _).setCell _ (Or.inl rfl) _
   case measure=>simp[intOf];omega
  ·have hmn:l.length=m+1:=by omega
   have t1:¬(m:Int)+1<(l.length:Int):=by omega
   have hcl:=(by rw[List.length_append,zby,HML.out,HT.out];omega:(zX (zbG l k (m+1))++tl).length=c*3)
   obtain⟨w2,hcr,G2,hb2⟩:=zc5 (P:=Tryz.prog) wr 106 213 0 _ 3 Tryz.underlying106 zeroW rfl (by decide) g (m*3) 1 (c-m) _ 213 HGR.out (by omega) (by rw[hcl];omega) (by omega);have hsl1:=fun w=>zkm g l.length c m w (by omega) hnc
   have hsl2:=fun w=>znq g l.length c m w (by omega) hnc
   rw[show l.length-m=1 by omega] at hsl1;have HG2:=za (⟨G2,hb2,hcl⟩:_∧_∧_);have HMN:=za hmn;clear G2 hb2 hcl hmn;go_wp2;go_ret;obtain⟨G2,hb2,hcl⟩:=HG2.out;have hmn:=HMN.out;refine⟨by rw[hmn];rfl,⟨_,G2,?_,?_⟩,HOR.out.grown hb2 (fun i e=>Or.inl (by simpa using e.symm))⟩
   ·rw[length_splice _ _ _ (by rw[hcl];simp[Builtin.zeroCells,Value.cells];omega),hcl]
   ·have hm':l.length-1=m:=by omega
    rw[hm',zc9 _ _ _ _ (by rw[hcl];omega) (Nat.le_refl _),List.take_append_of_le_length (by rw[zby,HML.out];omega),zku];have:=zmY l k hk;rw[hmn,Nat.add_sub_cancel] at this;rw[this]
theorem zpe(pb pd b pl nx:Nat)(l:List Wn)(a:Option Addr)(c:Nat)(w:World)(hlen:l.length≤100000)(hh:zcI pb pd b pl nx w)(hi:zdU (za7 pl nx) l=-1)(hw:zeP w a l) :
 Calls Tryz.prog 232 #[.slice a l.length c,.func (.func 231) #[] #[.pointer (some ⟨pb,0,none⟩),.pointer (some ⟨pd,0,none⟩)]] w fun e w'=>e=.returned (.slice a l.length c)∧Below w.heap.size w w':=by
 have HI:=za hi;have HW:=za hw;have HH:=za hh;clear hi hw hh;go_enter Tryz.func232,Tryz.ntmps232;go_wp2_with fail;refine(zgY pb pd b pl nx l _ c _ HW.out hlen HH.out).mono ?_;rw[HI.out];rintro e w1 ⟨rfl,hb1⟩;go_wp2;go_ret;exact⟨rfl,hb1⟩
theorem delW(pb pd b pl nx:Nat)(l:List Wn)(a:Option Addr)(c:Nat)(w:World)(h:w.ownsRow 0 213 3 (.slice a l.length c) l.length (zX l))(hlen:l.length≤100000)(hn:(l.map Wn.key).Nodup)(hh:zcI pb pd b pl nx w)(n1:¬zav a pb)(n2:¬zav a pd)(n3:¬zav a b) :
 Calls Tryz.prog 232 #[.slice a l.length c,.func (.func 231) #[] #[.pointer (some ⟨pb,0,none⟩),.pointer (some ⟨pd,0,none⟩)]] w fun e w' =>
  e=.returned (.slice a (z8 pl nx l).length c)∧w'.ownsRow 0 213 3 (.slice a (z8 pl nx l).length c) (z8 pl nx l).length (zX (z8 pl nx l))∧zh (zav a) w w':=by
 rcases zmR (za7 pl nx) l with⟨hi,hno⟩|⟨k,hk,hi,hk1,hk2⟩
 ·rw[zog hno];refine(zpe pb pd b pl nx l a c w hlen hh hi (zdJ h)).mono ?_;rintro e w' ⟨rfl,hb⟩;refine⟨rfl,zad h (fun g hg=>hb.block g (h.lt g hg).2),zh.of_below hb⟩
 ·have hk3:∀j (hj:j<l.length),j ≠ k→za7 pl nx l[j]=false:=fun j hj hne=>by
   cases e:za7 pl nx l[j]
   ·rfl
   ·exact absurd (zn9 hn hj hk e hk1) hne
  rw[zlt hk hk1 hk3];have hel:(l.eraseIdx k).length=l.length-1:=by rw[List.length_eraseIdx,if_pos hk]
  rcases h.2 with⟨_,h0⟩|⟨g,cap,cur,hv,hg,hh',hnc,hcm,hcs,ht⟩
  ·omega
  ·simp only[Value.slice.injEq,true_and] at hv;obtain⟨rfl,rfl⟩:=hv;have hcl:cur.toList.length=c*3:=by rw[Array.length_toList];exact hcs
   have ecur:cur.toList=zX l++cur.toList.drop (l.length*3):=by rw[←ht,List.take_append_drop]
   refine(znY pb pd b pl nx l g c k (cur.toList.drop (l.length*3)) w (by rw[←ecur,Array.toArray_toList];exact hh') (by rw[List.length_drop,hcl];omega) hnc (by unfold maxLen at hcm;omega) hlen hh (fun e=>n1 ⟨_,rfl,e⟩) (fun e=>n2 ⟨_,rfl,e⟩) (fun e=>n3 ⟨_,rfl,e⟩) hk hk1 hk3 hi (zdJ h)).mono ?_;rintro e w' ⟨rfl,⟨cur',g',l',t'⟩,ho⟩;refine⟨by rw[hel],⟨zby _,Or.inr ⟨g,c,cur'.toArray,rfl,Nat.zero_le _,g',by omega,hcm,by simpa using l',by rw[hel];simpa using t'⟩⟩,ho.mono (fun i e=>⟨_,rfl,e⟩)⟩
end Go.Proofs.YtlhgjplipgandaaGreatDoor
