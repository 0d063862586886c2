/- Joined texts: Add. -/
import Derived.Deep.RegionHeld3
import Derived.Test.YtlhgjplipgandaaGreatDoorD25
import Derived.Test.YtlhgjplipgandaaGreatDoorD8
set_option maxRecDepth 100000
set_option maxHeartbeats 8000000
set_option linter.unusedSimpArgs false
namespace Go.Proofs.YtlhgjplipgandaaGreatDoor
open Go.RowKit Go.BigFrame
attribute [local go_sem] ze.cell ze.frozen
def zbr(o r:Rq):Bool:=zaK o r||zaK r o
def zeM(o r q:Rq):Prop:=(zaK o r=true∧zba o r q)∨(zaK o r=false∧zaK r o=true∧zba r o q)
theorem zeM.joined{o r q:Rq}(go:zv o)(gr:zv r)(h:zeM o r q):Joined o r q:=by
 rcases h with⟨h1,h2⟩|⟨_,h1,h2⟩
 ·exact h2.joined go gr h1
 ·exact(h2.joined gr go h1).swap
theorem mergeN(o r:Rq)(w:World)(go:zv o)(gr:zv r)(h:zbr o r=false) :
 Calls Tryz.prog 175 #[o.val,r.val] w fun e w'=>e=.returned (.tuple #[zfT,.bool false])∧Below w.heap.size w w':=by
 simp only[zbr,Bool.or_eq_false_iff] at h;exact zjY o r w go gr h.1 h.2
def zbi(r o:Rq):Bool:=ze5 o.f o.m r.f r.m
theorem zgx(w:World)(T:TypeId)(a:Rq):Six (w.alloc (.cells #[.bool a.wr,.int .i64 a.f,.int .i64 a.m,.slice a.da a.data.length a.dc,.slice a.ta a.tags.length a.tc,.int .i64 a.born] T)) w.heap.size a:=by
 refine⟨?_,?_,?_,?_,?_,?_⟩<;>simp
theorem zgh(r:Rq)(w:World)(hr:r.At w)(hn:zc0 r=0):Calls Tryz.prog 172 #[r.val] w fun e w'=>e=.returned .nilIface∧Below w.heap.size w w':=zlR r w hr 0 hn
theorem znF(l:List Rq)(a:Option Addr)(c:Nat)(r:Rq)(w:World)(hl:zm w a l)(hr:r.At w)(hn:zc0 r=0)(hm:l.any (zbi r)=true) :
 Calls Tryz.prog 128 #[.slice a l.length c,r.val] w fun e w'=>e=.returned (.tuple #[.slice none 0 0,.iface 87 (.int .i64 6)])∧Below w.heap.size w w':=by
 go_enter Tryz.func128,Tryz.ntmps128;go_wp2_with fail;refine(zgh r _ (hr.later (zs _ _)) hn).mono ?_;rintro e w1 ⟨rfl,hb⟩;have S:=(zgx w 146 r).later hb;have HS:=za5 S;go_wp2_with fail;refine(zdr 173 (by intro args w;go_simp) (.pointer (some ⟨w.heap.size,0,none⟩)) (zbi r) l a c _ (hl.later (by(with_reducible repeat first|exact Below.refl _ _|refine zc ?_ _|refine zd ?_|refine bset' ?_ (by omega) _|refine zb ?_ (by assumption)))) (fun x w' _ hb'=>zh6 x r w.heap.size w' (cell_later' hb' HS.out.2.1) (cell_later' hb' HS.out.2.2.1)) true hm).mono ?_;rintro e w2 ⟨rfl,hb2⟩;go_wp2
 go_ret2
 exact⟨rfl,by(with_reducible repeat first|exact Below.refl _ _|refine zc ?_ _|refine zd ?_|refine bset' ?_ (by omega) _|refine zb ?_ (by assumption))⟩
def set6o(w:World)(b p:Nat)(v0 v1 v2 v3 v4 v5:Value):World:=(((((w.setCell ⟨b,p,none⟩ v0).setCell ⟨b,p+1,none⟩ v1).setCell ⟨b,p+2,none⟩ v2).setCell ⟨b,p+3,none⟩ v3).setCell ⟨b,p+4,none⟩ v4).setCell ⟨b,p+5,none⟩ v5
theorem znk{w:World}{b p:Nat}{v0 v1 v2 v3 v4 v5:Value}{o:Nat}(h:o<p∨p+6≤o):(set6o w b p v0 v1 v2 v3 v4 v5).cell? ⟨b,o,none⟩=w.cell? ⟨b,o,none⟩:=by
 have ne:∀i:Nat,i<6→∀(W:World) (u:Value),(W.setCell ⟨b,p+i,none⟩ u).cell? ⟨b,o,none⟩=W.cell? ⟨b,o,none⟩:=fun i hi W u=>World.cell?_setCell_other _ _ _ _ (fun e=>by injection e with _ e _;omega)
 unfold set6o;rw[ne 5 (by decide),ne 4 (by decide),ne 3 (by decide),ne 2 (by decide),ne 1 (by decide)];exact ne 0 (by decide) _ _
theorem zoL{w:World}{b p:Nat}(v:Nat→Value)(h:∀j,j<6→∃u,w.cell? ⟨b,p+j,none⟩=some u)(j:Nat)(hj:j<6):(set6o w b p (v 0) (v 1) (v 2) (v 3) (v 4) (v 5)).cell? ⟨b,p+j,none⟩=some (v j):=by
 have ne:∀i j:Nat,i ≠ j→∀(W:World) (u:Value),(W.setCell ⟨b,p+i,none⟩ u).cell? ⟨b,p+j,none⟩=W.cell? ⟨b,p+j,none⟩:=fun i j hij W u=>World.cell?_setCell_other _ _ _ _ (fun e=>hij (by injection e with _ e _;omega))
 have ne0:∀j:Nat,0 ≠ j→∀(W:World) (u:Value),(W.setCell ⟨b,p,none⟩ u).cell? ⟨b,p+j,none⟩=W.cell? ⟨b,p+j,none⟩:=fun j hj W u=>ne 0 j hj W u
 obtain⟨u,hu⟩:=h j hj;unfold set6o
 match j,hj with
 |0,_=>rw[ne 5 0 (by decide),ne 4 0 (by decide),ne 3 0 (by decide),ne 2 0 (by decide),ne 1 0 (by decide)];exact World.cell?_setCell_same _ _ _ hu
 |1,_=>rw[ne 5 1 (by decide),ne 4 1 (by decide),ne 3 1 (by decide),ne 2 1 (by decide)];exact World.cell?_setCell_same _ _ _ ((ne0 1 (by decide) _ _).trans hu)
 |2,_=>rw[ne 5 2 (by decide),ne 4 2 (by decide),ne 3 2 (by decide)];exact World.cell?_setCell_same _ _ _ ((ne 1 2 (by decide) _ _).trans ((ne0 2 (by decide) _ _).trans hu))
 |3,_=>rw[ne 5 3 (by decide),ne 4 3 (by decide)];exact World.cell?_setCell_same _ _ _ ((ne 2 3 (by decide) _ _).trans ((ne 1 3 (by decide) _ _).trans ((ne0 3 (by decide) _ _).trans hu)))
 |4,_=>rw[ne 5 4 (by decide)];exact World.cell?_setCell_same _ _ _ ((ne 3 4 (by decide) _ _).trans ((ne 2 4 (by decide) _ _).trans ((ne 1 4 (by decide) _ _).trans ((ne0 4 (by decide) _ _).trans hu))))
 |5,_=>exact World.cell?_setCell_same _ _ _ ((ne 4 5 (by decide) _ _).trans ((ne 3 5 (by decide) _ _).trans ((ne 2 5 (by decide) _ _).trans ((ne 1 5 (by decide) _ _).trans ((ne0 5 (by decide) _ _).trans hu)))))
theorem zm.put{w W:World}{b k:Nat}{l:List Rq}{q:Rq}(h:zm w (some ⟨b,0,none⟩) l)(hk:k<l.length)(hat:∀r∈l,r.At W)(hq:q.At W)(e:W=set6o w b (k*6) (q.cell 0) (q.cell 1) (q.cell 2) (q.cell 3) (q.cell 4) (q.cell 5)):zm W (some ⟨b,0,none⟩) (l.set k q):=by
 rcases h.1 with rfl|⟨b',o',ha,hc⟩
 ·exact absurd hk (Nat.not_lt_zero _)
 ·simp only[Option.some.injEq,Addr.mk.injEq,and_true] at ha;obtain⟨rfl,rfl⟩:=ha;refine⟨Or.inr ⟨b,0,rfl,fun i hi m hm=>?_⟩,fun r hr=>?_,by rw[List.length_set];exact h.2.2⟩
  ·have hi':i<l.length:=by simpa using hi
   by_cases ik:i=k
   ·subst ik;rw[List.getElem_set_self,e,Nat.zero_add];exact zoL (fun j=>q.cell j) (fun j hj=>⟨_,by have:=hc i hi' j hj;rwa [Nat.zero_add] at this⟩) m hm
   ·rw[List.getElem_set_ne (fun h=>ik h.symm),e,znk (by omega)];exact hc i hi' m hm
  ·rcases List.mem_or_eq_of_mem_set hr with hr|rfl
   ·exact hat r hr
   ·exact hq
end Go.Proofs.YtlhgjplipgandaaGreatDoor
