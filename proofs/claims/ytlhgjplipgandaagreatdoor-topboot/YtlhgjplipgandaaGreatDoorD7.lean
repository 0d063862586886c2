/- Joined texts: Take, Merge2. -/
import Derived.Deep.RegionWith
import Derived.Test.YtlhgjplipgandaaGreatDoorD4
set_option maxRecDepth 100000
set_option maxHeartbeats 8000000
set_option linter.unusedSimpArgs false
namespace Go.Proofs.YtlhgjplipgandaaGreatDoor
open Go.RowKit Go.BigFrame
def zr(l:List Rq):List Value:=l.flatMap fun r=>[r.cell 0,r.cell 1,r.cell 2,r.cell 3,r.cell 4,r.cell 5]
theorem zaN(l:List Rq):(zr l).length=l.length*6:=by
 induction l with
 |nil=>rfl
 |cons r l ih=>rw[zr,List.flatMap_cons,List.length_append,←zr,ih,List.length_cons];simp;omega
theorem zaZ(l l':List Rq):zr (l++l')=zr l++zr l':=by simp[zr]
theorem zia(l:List Rq):∀(i j:Nat) (h:i<l.length),j<6→(zr l)[i*6+j]?=some (l[i].cell j):=by
 induction l with
 |nil=>intro i j h;exact absurd h (Nat.not_lt_zero _)
 |cons r l ih =>
  intro i j h hj;rw[zr,List.flatMap_cons,←zr]
  cases i with
  |zero =>
   rw[List.getElem?_append_left (by simp;omega)]
   match j,hj with
   |0,_=>rfl
   |1,_=>rfl
   |2,_=>rfl
   |3,_=>rfl
   |4,_=>rfl
   |5,_=>rfl
  |succ i =>
   rw[List.getElem?_append_right (by simp;omega)];have:=ih i j (by simpa using h) hj;simp only[List.length_cons,List.length_nil,List.getElem_cons_succ];rw[←this];congr 1;omega
theorem zdD(l:List Rq):∀u∈zr l,u.oneCell'=true:=by
 intro u hu;simp only[zr,List.mem_flatMap] at hu;obtain⟨r,_,hr⟩:=hu;simp only[List.mem_cons,List.not_mem_nil,or_false] at hr
 rcases hr with rfl|rfl|rfl|rfl|rfl|rfl<;>rfl
theorem ze9{l:List Rq}{k:Nat}{u:Value}(h:(zr l)[k]?=some u):∃i j,∃hi:i<l.length,j<6∧k=i*6+j∧u=l[i].cell j:=by
 have hk:k<(zr l).length:=by
  rcases Nat.lt_or_ge k (zr l).length with h'|h'
  ·exact h'
  ·rw[List.getElem?_eq_none h'] at h;cases h
 rw[zaN] at hk;have hi:k / 6<l.length:=by omega
 have hj:k % 6<6:=Nat.mod_lt _ (by omega);have e:k=k / 6*6+k % 6:=by omega
 refine⟨k / 6,k % 6,hi,hj,e,?_⟩;rw[e,zia l (k / 6) (k % 6) hi hj] at h;exact(Option.some.inj h).symm
theorem add_mk'(b o i:Nat):(Addr.add ⟨b,o,none⟩ i)=⟨b,o+i,none⟩:=by
 unfold Addr.add;split
 ·rename_i h;subst h;rfl
 ·rfl
theorem zm.row{w:World}{b o c:Nat}{l:List Rq}(h:zm w (some ⟨b,o,none⟩) l)(l1 l2 l3:List Rq)(e:l=l1++l2++l3):zaS w 6 (some ⟨b,o+l1.length*6,none⟩) l2.length c (zr l2):=by
 refine⟨zaN l2,zdD l2,Or.inr ⟨_,rfl,fun k u hk=>?_⟩⟩;obtain⟨i,j,hi,hj,rfl,rfl⟩:=ze9 hk
 rcases h.1 with h0|⟨b',o',ha,hc⟩
 ·rw[h0] at e;simp at e;rw[e.2.1] at hi;exact absurd hi (Nat.not_lt_zero _)
 ·simp only[Option.some.injEq,Addr.mk.injEq,and_true] at ha;obtain⟨rfl,rfl⟩:=ha;have hlt:l1.length+i<l.length:=by rw[e];simp;omega
  have:=hc (l1.length+i) hlt j hj;have el:l[l1.length+i]=l2[i]:=by
   simp only[e];rw[List.getElem_append_left (by simp;omega),List.getElem_append_right (by omega)]
   simp
  rw[el] at this;rw[add_mk',←this]
  congr 2
  rw[Nat.add_mul];omega
theorem zdt{w:World}{base e:Nat}{v:Value}{l:List Rq}{n:Nat}(h:w.ownsRow base e 6 v n (zr l))(hat:∀r∈l,r.At w)(hn:n=l.length)(hb:l.length≤9223372036854775807) :
 ∃a c,v=.slice a l.length c∧zm w a l∧l.length≤c∧c≤9223372036854775807∧(a=none→c=0)∧∀ad,a=some ad→base≤ad.block∧ad.off=0∧ad.spot=none:=by
 subst hn
 rcases h.2 with⟨rfl,h0⟩|⟨g,cap,cur,rfl,hg,hh,hnc,hcm,hcs,ht⟩
 ·have hl:=List.eq_nil_of_length_eq_zero h0;subst hl;exact⟨none,0,rfl,⟨Or.inl rfl,by simp,by simp⟩,by simp,by simp,fun _=>rfl,fun _ h=>by cases h⟩
 ·have hnd:∀ad:Addr,some (⟨g,0,none⟩:Addr)=some ad→base≤ad.block∧ad.off=0∧ad.spot=none:=by
   intro ad h;cases h;exact⟨hg,rfl,rfl⟩
  have hcm':cap≤9223372036854775807:=by unfold maxLen at hcm;omega
  refine⟨some ⟨g,0,none⟩,cap,rfl,⟨Or.inr ⟨g,0,rfl,fun i hi j hj=>?_⟩,hat,hb⟩,hnc,hcm',by simp,hnd⟩;have hx:=zia l i j hi hj;have hc:=h.cellAt (i*6+j) (by omega);rw[Nat.zero_add,hc,hx]
theorem six1{w w1:World}{a0 a1 a2 a3 a4 a5:Value}{T:TypeId}{Y:Obj}(HB:Below (((w.alloc (.cells #[a0,a1,a2,a3,a4,a5] T)).alloc Y).drew).heap.size (((w.alloc (.cells #[a0,a1,a2,a3,a4,a5] T)).alloc Y).drew) w1) :
 (w1.cell? ⟨w.heap.size,0,none⟩=some a0∧w1.cell? ⟨w.heap.size,1,none⟩=some a1∧w1.cell? ⟨w.heap.size,2,none⟩=some a2∧w1.cell? ⟨w.heap.size,3,none⟩=some a3∧w1.cell? ⟨w.heap.size,4,none⟩=some a4∧w1.cell? ⟨w.heap.size,5,none⟩=some a5) ∧
 (w1.frozen? ⟨w.heap.size,0,none⟩=false∧w1.frozen? ⟨w.heap.size,1,none⟩=false∧w1.frozen? ⟨w.heap.size,2,none⟩=false∧w1.frozen? ⟨w.heap.size,3,none⟩=false∧w1.frozen? ⟨w.heap.size,4,none⟩=false∧w1.frozen? ⟨w.heap.size,5,none⟩=false) ∧
 w.heap.size<w1.heap.size:=by
 have e:(((w.alloc (.cells #[a0,a1,a2,a3,a4,a5] T)).alloc Y).drew).heap.size=w.heap.size+1+1:=by simp
 have hz:=HB.size;rw[e] at hz;have c:=fun o=>HB.cell (p:=⟨w.heap.size,o,none⟩) (by rw[e];show w.heap.size<_;omega)
 have f:=fun o=>HB.frozen (p:=⟨w.heap.size,o,none⟩) (by rw[e];show w.heap.size<_;omega)
 refine⟨⟨?_,?_,?_,?_,?_,?_⟩,⟨?_,?_,?_,?_,?_,?_⟩,by omega⟩
 all_goals first|rw[c]|rw[f]
 all_goals simp
theorem ownsRow_le'{w:World}{base base' size n:Nat}{e:TypeId}{v:Value}{xs:List Value}(h:w.ownsRow base e size v n xs)(hb:base'≤base):w.ownsRow base' e size v n xs :=
 ⟨h.1,h.2.elim Or.inl (fun⟨g,cap,cur,hv,hg,r⟩=>Or.inr ⟨g,cap,cur,hv,Nat.le_trans hb hg,r⟩)⟩
theorem zlX(b o n c i:Nat)(w:World)(hlt:i<n)(hce:¬c=i+1):(Instr.slice 47 (.slice (some ⟨b,o,none⟩) n c) (some (.int .i64 ((i:Int)+1))) none none).run Tryz.prog w=.ok (.slice (some ⟨b,o+(i+1)*6,none⟩) (n-(i+1)) (c-(i+1))) w:=by
 have h1:(0:Int)≤(i:Int)+1:=by omega
 have h2:(i:Int)+1≤(n:Int):=by omega
 simp[go_sem,h1,h2,hce]
theorem zjz(b o n c i:Nat)(w:World)(hlt:i<n)(hcap:n≤c):(Instr.slice 47 (.slice (some ⟨b,o,none⟩) n c) none (some (.int .i64 (i:Int))) none).run Tryz.prog w=.ok (.slice (some ⟨b,o,none⟩) i c) w:=by
 have h2:i≤c:=by omega
 simp[go_sem,h2]
theorem znr(b o n i:Nat)(w:World)(hlt:n=i+1):(Instr.slice 47 (.slice (some ⟨b,o,none⟩) n (i+1)) (some (.int .i64 ((i:Int)+1))) none none).run Tryz.prog w=.ok (.slice (some ⟨b,o,none⟩) 0 0) w:=by
 subst hlt;have h1:(0:Int)≤(i:Int)+1:=by omega
 simp[go_sem,h1]
theorem znu(l1 l3:List Rq)(r:Rq)(b o c:Nat)(w:World)(hl:zm w (some ⟨b,o,none⟩) (l1++[r]++l3))(h10:(l1++[r]++l3).length≤100000)(hcap:(l1++[r]++l3).length≤c)
 (n i:Nat) (hn:n=(l1++[r]++l3).length) (hi:i=l1.length) (hce:¬c=i+1) :
 Calls Tryz.prog 85 #[.slice (some ⟨b,o,none⟩) n c,.int .i64 i] w fun e w'=>∃v,e=.returned (.tuple #[v,r.val])∧w'.ownsRow w.heap.size 146 6 v (n-1) (zr (l1++l3))∧Below w.heap.size w w':=by
 have hn':n=l1.length+1+l3.length:=by rw[hn];simp;omega
 have hlt:i<n:=by omega
 have hil:l1.length<(l1++[r]++l3).length:=by simp
 obtain⟨c0,c1,c2,c3,c4,c5⟩:=hl.cells hil;have er:(l1++[r]++l3)[l1.length]=r:=by simp
 rw[er,←hi] at c0 c1 c2 c3 c4 c5;have l0:=zg c0;have i0:decide ((i:Int)<0)=false:=decide_eq_false (by omega);have i1:decide ((n:Int)≤(i:Int))=false:=decide_eq_false (by omega);rw[←hn] at hcap h10;have hnl:n-(i+1)=l3.length:=by omega
 have R1:zaS w 6 (some ⟨b,o,none⟩) i c (zr l1):=by
  have:=hl.row (c:=c) [] l1 ([r]++l3) (by simp);rw[hi];simpa using this
 have R2:zaS w 6 (some ⟨b,o+(i+1)*6,none⟩) (n-(i+1)) (c-(i+1)) (zr l3):=by
  have:=hl.row (c:=c-(i+1)) (l1++[r]) l3 [] (by simp);rw[List.length_append,List.length_singleton,←hi] at this;rw[hnl];exact this
 have H0:Hid (n=(l1++[r]++l3).length∧i=l1.length∧n=l1.length+1+l3.length∧n-(i+1)=l3.length):=⟨hn,hi,hn',hnl⟩
 clear hn hi hn' hnl er hil hl;have HH:Hid (zr l1++zr l3=zr (l1++l3)∧i+(n-(i+1))=n-1):=⟨(zaZ _ _).symm,by omega⟩
 have hwr:IntKind.i64.wrap ((i:Int)+1)=(i:Int)+1:=by rw[IntKind.wrap_i64];omega
 have hsl1:=fun w=>zjz b o n c i w hlt hcap
 have hsl2:=fun w=>zlX b o n c i w hlt hce
 go_enter Tryz.func85,Tryz.ntmps85;go_wp2_with fail
 go_region_with (go_at_call 122;refine(zeh (w.heap.size+1) 0 (some ⟨b,o,none⟩) (some ⟨b,o+(i+1)*6,none⟩) i (n-(i+1)) c (c-(i+1)) (zr l1) (zr l3) _ (by simp) (by simp) (R1.later (by(with_reducible repeat first|exact Below.refl _ _|refine zc ?_ _|refine zd ?_|refine bset' ?_ (by omega) _|refine zb ?_ (by assumption)))) (R2.later (by(with_reducible repeat first|exact Below.refl _ _|refine zc ?_ _|refine zd ?_|refine bset' ?_ (by omega) _|refine zb ?_ (by assumption)))) (by omega) (by omega)).mono ?_;rintro e w1 ⟨v,rfl,hown,HB⟩;obtain⟨⟨p0,p1,p2,p3,p4,p5⟩,⟨f0,f1,f2,f3,f4,f5⟩,z0⟩:=six1 HB;have HBw:Below w.heap.size w w1:=zb (zd (zbN _ _ _)) HB;have d0:=cell_later' HBw c0;have d1:=cell_later' HBw c1;have d2:=cell_later' HBw c2;have d3:=cell_later' HBw c3;have d4:=cell_later' HBw c4;have d5:=cell_later' HBw c5;have l1':b<w1.heap.size:=zg d0)
 all_goals
  go_wp2;refine bodyPost_ret (v:=.tuple #[v,r.val]) ?_ rfl ⟨v,rfl,?_,by(with_reducible repeat first|exact Below.refl _ _|refine zc ?_ _|refine zd ?_|refine bset' ?_ (by omega) _|refine zb ?_ (by assumption))⟩
  ·simp[results,Tryz.results85,go_sem,p0,p1,p2,p3,p4,p5]
  ·rw[HH.out.1,HH.out.2] at hown;have hz:w.heap.size<((((w.alloc (.cells #[Value.bool false,Value.int .i64 0,Value.int .i64 0,Value.slice none 0 0,Value.slice none 0 0,Value.int .i64 0] 146)).alloc (.cells #[Value.slice (some ⟨b,o,none⟩) i c,Value.slice (some ⟨b,o+(i+1)*6,none⟩) (n-(i+1)) (c-(i+1))] 47)).drew).heap.size):=by simp;omega
   exact ownsRow_le' (ownsRow_setCell_below (ownsRow_setCell_below (ownsRow_setCell_below (ownsRow_setCell_below (ownsRow_setCell_below (ownsRow_setCell_below hown hz _) hz _) hz _) hz _) hz _) hz _) (Nat.le_of_lt hz)
theorem zoT(l1 l3:List Rq)(r:Rq)(b o c:Nat)(w:World)(hl:zm w (some ⟨b,o,none⟩) (l1++[r]++l3))(h10:(l1++[r]++l3).length≤100000)(hcap:(l1++[r]++l3).length≤c)
 (n i:Nat) (hn:n=(l1++[r]++l3).length) (hi:i=l1.length) (hce:c=i+1) :
 Calls Tryz.prog 85 #[.slice (some ⟨b,o,none⟩) n c,.int .i64 i] w fun e w'=>∃v,e=.returned (.tuple #[v,r.val])∧w'.ownsRow w.heap.size 146 6 v (n-1) (zr (l1++l3))∧Below w.heap.size w w':=by
 have hn':n=l1.length+1+l3.length:=by rw[hn];simp;omega
 have hlt:i<n:=by omega
 have hil:l1.length<(l1++[r]++l3).length:=by simp
 obtain⟨c0,c1,c2,c3,c4,c5⟩:=hl.cells hil;have er:(l1++[r]++l3)[l1.length]=r:=by simp
 rw[er,←hi] at c0 c1 c2 c3 c4 c5;have l0:=zg c0;have i0:decide ((i:Int)<0)=false:=decide_eq_false (by omega);have i1:decide ((n:Int)≤(i:Int))=false:=decide_eq_false (by omega);rw[←hn] at hcap h10;have hnl:n-(i+1)=l3.length:=by omega
 have R1:zaS w 6 (some ⟨b,o,none⟩) i c (zr l1):=by
  have:=hl.row (c:=c) [] l1 ([r]++l3) (by simp);rw[hi];simpa using this
 have hni:n=i+1:=by omega
 have e3:l3=[]:=List.eq_nil_of_length_eq_zero (by omega);have R2:zaS w 6 (some ⟨b,o,none⟩) 0 0 (zr l3):=by
  rw[e3];exact⟨rfl,by simp[zr],Or.inr ⟨_,rfl,fun j u h=>by simp[zr] at h⟩⟩
 have H0:Hid (n=(l1++[r]++l3).length∧i=l1.length∧n=l1.length+1+l3.length∧n-(i+1)=l3.length):=⟨hn,hi,hn',hnl⟩
 clear hn hi hn' hnl er hil hl;have HH:Hid (zr l1++zr l3=zr (l1++l3)∧i+0=n-1):=⟨(zaZ _ _).symm,by omega⟩
 subst hce;have hwr:IntKind.i64.wrap ((i:Int)+1)=(i:Int)+1:=by rw[IntKind.wrap_i64];omega
 have hsl1:=fun w=>zjz b o n (i+1) i w hlt hcap
 have hsl2:=fun w=>znr b o n i w hni
 clear hni e3;go_enter Tryz.func85,Tryz.ntmps85;go_wp2_with fail
 go_region_with (go_at_call 122;refine(zeh (w.heap.size+1) 0 (some ⟨b,o,none⟩) (some ⟨b,o,none⟩) i 0 (i+1) 0 (zr l1) (zr l3) _ (by simp) (by simp) (R1.later (by(with_reducible repeat first|exact Below.refl _ _|refine zc ?_ _|refine zd ?_|refine bset' ?_ (by omega) _|refine zb ?_ (by assumption)))) (R2.later (by(with_reducible repeat first|exact Below.refl _ _|refine zc ?_ _|refine zd ?_|refine bset' ?_ (by omega) _|refine zb ?_ (by assumption)))) (by omega) (by omega)).mono ?_;rintro e w1 ⟨v,rfl,hown,HB⟩;obtain⟨⟨p0,p1,p2,p3,p4,p5⟩,⟨f0,f1,f2,f3,f4,f5⟩,z0⟩:=six1 HB;have HBw:Below w.heap.size w w1:=zb (zd (zbN _ _ _)) HB;have d0:=cell_later' HBw c0;have d1:=cell_later' HBw c1;have d2:=cell_later' HBw c2;have d3:=cell_later' HBw c3;have d4:=cell_later' HBw c4;have d5:=cell_later' HBw c5;have l1':b<w1.heap.size:=zg d0)
 all_goals
  go_wp2;refine bodyPost_ret (v:=.tuple #[v,r.val]) ?_ rfl ⟨v,rfl,?_,by(with_reducible repeat first|exact Below.refl _ _|refine zc ?_ _|refine zd ?_|refine bset' ?_ (by omega) _|refine zb ?_ (by assumption))⟩
  ·simp[results,Tryz.results85,go_sem,p0,p1,p2,p3,p4,p5]
  ·rw[HH.out.1,HH.out.2] at hown;have hz:w.heap.size<((((w.alloc (.cells #[Value.bool false,Value.int .i64 0,Value.int .i64 0,Value.slice none 0 0,Value.slice none 0 0,Value.int .i64 0] 146)).alloc (.cells #[Value.slice (some ⟨b,o,none⟩) i (i+1),Value.slice (some ⟨b,o,none⟩) 0 0] 47)).drew).heap.size):=by simp;omega
   exact ownsRow_le' (ownsRow_setCell_below (ownsRow_setCell_below (ownsRow_setCell_below (ownsRow_setCell_below (ownsRow_setCell_below (ownsRow_setCell_below hown hz _) hz _) hz _) hz _) hz _) hz _) (Nat.le_of_lt hz)
theorem zoS(l:List Rq)(b o c:Nat)(w:World)(hl:zm w (some ⟨b,o,none⟩) l)(h10:l.length≤100000)(hcap:l.length≤c)(i:Nat)(hi:i<l.length) :
 Calls Tryz.prog 85 #[.slice (some ⟨b,o,none⟩) l.length c,.int .i64 i] w fun e w'=>∃v,e=.returned (.tuple #[v,l[i].val])∧w'.ownsRow w.heap.size 146 6 v (l.length-1) (zr (l.take i++l.drop (i+1)))∧Below w.heap.size w w':=by
 have e:l=l.take i++[l[i]]++l.drop (i+1):=by
  rw[List.append_assoc,List.singleton_append,List.getElem_cons_drop,List.take_append_drop]
 have hl':=hl;rw[e] at hl';have e1:i=(l.take i).length:=by rw[List.length_take];omega
 have e2:l.length=(l.take i++[l[i]]++l.drop (i+1)).length:=by rw[←e]
 by_cases hce:c=i+1
 ·exact zoT (l.take i) (l.drop (i+1)) l[i] b o c w hl' (by omega) (by omega) l.length i e2 e1 hce
 ·exact znu (l.take i) (l.drop (i+1)) l[i] b o c w hl' (by omega) (by omega) l.length i e2 e1 hce
end Go.Proofs.YtlhgjplipgandaaGreatDoor
namespace Go.Proofs.YtlhgjplipgandaaGreatDoor
open Go.RowKit Go.BigFrame
attribute [local go_sem] ze.cell ze.frozen
abbrev zfT:Value:=.agg #[.bool false,.int .i64 0,.int .i64 0,.slice none 0 0,.slice none 0 0,.int .i64 0]
theorem zpG{w w1:World}{a0 a1 a2 a3 a4 a5:Value}{T:TypeId}(HB:Below (w.alloc (.cells #[a0,a1,a2,a3,a4,a5] T)).heap.size (w.alloc (.cells #[a0,a1,a2,a3,a4,a5] T)) w1) :
 w1.cell? ⟨w.heap.size,0,none⟩=some a0∧w1.cell? ⟨w.heap.size,1,none⟩=some a1∧w1.cell? ⟨w.heap.size,2,none⟩=some a2∧w1.cell? ⟨w.heap.size,3,none⟩=some a3∧w1.cell? ⟨w.heap.size,4,none⟩=some a4∧w1.cell? ⟨w.heap.size,5,none⟩=some a5:=by
 have c:=fun o=>HB.cell (p:=⟨w.heap.size,o,none⟩) (by simp only[World.size_alloc];omega)
 refine⟨?_,?_,?_,?_,?_,?_⟩
 all_goals rw[c]
 all_goals simp
theorem zeL(a b:Rq)(w:World)(ha:zv a)(hb:zv b)(t:Bool)(ht:zaK a b=t) :
 Calls Tryz.prog 205 #[a.val,b.val] w fun e w'=>e=.returned (.bool t)∧Below w.heap.size w w':=by
 subst ht;exact zpM a b w ha hb
theorem zom(a b:Rq)(w:World)(ha:zv a)(hb:zv b)(h1:(wrap64 (b.f+b.m)==a.f)=false)(h2:zaK a b=false) :
 Calls Tryz.prog 175 #[a.val,b.val] w fun e w'=>e=.returned (.tuple #[zfT,.bool false])∧Below w.heap.size w w':=by
 go_enter Tryz.func175,Tryz.ntmps175;go_wp2_with fail
 go_at_call 204;refine(zch _ _ _ _ _ _ h1).mono ?_;rintro e w1 ⟨rfl,hb⟩;(try clear hc hf hz);(first|replace HB:=zb HB hb|replace HB:=zb (zd HB) hb|have HB:=hb);clear hb;obtain⟨hc,hf,hz⟩:=zW HB
 go_wp2_with fail
 go_at_call 205;refine(zeL a b _ ha hb _ h2).mono ?_;rintro e w1 ⟨rfl,hb⟩;(try clear hc hf hz);(first|replace HB:=zb HB hb|replace HB:=zb (zd HB) hb|have HB:=hb);clear hb;obtain⟨hc,hf,hz⟩:=zW HB
 go_wp2;refine bodyPost_ret (v:=.tuple #[zfT,.bool false]) ?_ rfl ⟨rfl,by(with_reducible repeat first|exact Below.refl _ _|refine zc ?_ _|refine zd ?_|refine bset' ?_ (by omega) _|refine zb ?_ (by assumption))⟩;have m:=zpG HB;rw[World.size_alloc,World.size_alloc] at m;obtain⟨m0,m1,m2,m3,m4,m5⟩:=m;clear hc hf hz HB
 simp[results,Tryz.results175,go_sem,m0,m1,m2,m3,m4,m5]
end Go.Proofs.YtlhgjplipgandaaGreatDoor
