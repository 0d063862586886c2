/- Joined texts: Dev1. -/
import Derived.Lib.SliceRun
import Derived.Test.YtlhgjplipgandaaGreatDoorD12
set_option maxRecDepth 100000
set_option maxHeartbeats 8000000
set_option linter.unusedSimpArgs false
namespace Go.Proofs.YtlhgjplipgandaaGreatDoor
open Go.RowKit Go.BigFrame
attribute [local go_sem] ze.cell ze.frozen
def d0:Dl:=⟨List.replicate 32 ByteArray.empty,List.replicate 32 ByteArray.empty,[],0,[]⟩
def an0:An:=⟨none,0,none,0⟩
theorem d0_at(w:World)(b:Nat)(h:w.heap[b]?=some (.cells (d0.cells an0).toArray 108 (0,0))):zo b d0 an0 w where
 n32:=rfl
 g32:=rfl
 blk:=h
 wrow:=World.ownsRow_nil _ _ _ _
 brow:=World.ownsRow_nil _ _ _ _
 sepw:=fun p hp=>by cases hp
 sepb:=fun p hp=>by cases hp
 sepwb:=fun p q hp=>by cases hp
 reqs:=fun r hr=>by cases hr
 wfin:=fun r hr=>by cases hr
 nod:=by simp[d0]
 blen:=by simp[d0]
 nxt:=by simp[d0]
theorem zpu(w:World):Calls Tryz.prog 30 #[] w fun e w'=>e=.returned (.pointer (some ⟨w.heap.size,0,none⟩))∧zo w.heap.size d0 an0 w'∧Below w.heap.size w w'∧w'.heap.size=w.heap.size+1:=by
 have hz:∀w',Sem.run Tryz.prog (zeroValue 108) w'=.ok (.agg (d0.cells an0).toArray) w':=fun _=>rfl
 go_enter Tryz.func30,Tryz.ntmps30;go_wp2;go_ret;refine⟨rfl,d0_at _ _ ?_,zs _ _,by simp⟩;rw[heap_alloc_new]
theorem zpx(b:Nat)(d:Dl)(a:An)(k:Nat)(w:World)(h:zo b d a w)(hk:k<32)(s:ByteArray)(hs:d.now.getD k ByteArray.empty=s) :
 Calls Tryz.prog 17 #[.pointer (some ⟨b,0,none⟩),.int .i64 k] w fun e w'=>e=.returned (.string s)∧Below w.heap.size w w':=by
 have c:=h.cNow k hk;rw[hs] at c;have h1:¬(k:Int)<0:=by omega
 have h2:¬(32:Int)≤(k:Int):=by omega
 have h3:(k:Int)<32:=by omega
 clear hs h;go_enter Tryz.func17,Tryz.ntmps17;go_wp2;go_ret;exact⟨rfl,Below.refl _ _⟩
theorem rowAll{w:World}{a:Option Addr}{c:Nat}{l:List Rq}(h:zm w a l)(hn:a=none→c=0):zaS w 6 a l.length c (zr l):=by
 rcases h.1 with rfl|⟨b,o,rfl,hc⟩
 ·cases a with
  |none=>exact⟨rfl,by simp[zr],Or.inl ⟨rfl,rfl,hn rfl⟩⟩
  |some ad=>exact⟨rfl,by simp[zr],Or.inr ⟨ad,rfl,fun j u h=>by simp[zr] at h⟩⟩
 ·refine⟨zaN l,zdD l,Or.inr ⟨_,rfl,fun k u hk=>?_⟩⟩;obtain⟨i,j,hi,hj,rfl,rfl⟩:=ze9 hk;rw[add_mk',←hc i hi j hj]
  congr 2
  omega
theorem zml(l:List Rq)(a:Option Addr)(c:Nat)(w:World)(hl:zm w a l)(hn:a=none→c=0)(h10:l.length≤100000) :
 Calls Tryz.prog 93 #[.slice a l.length c] w fun e w'=>∃a' c',e=.returned (.slice a' l.length c')∧zm w' a' l∧(a'=none→c'=0)∧Below w.heap.size w w':=by
 obtain⟨i,hi,hz0,hz1,hz2⟩:=zbA zfP;have R:=rowAll hl hn;have q22:∀(w:World) (a:Option Addr) (n c n' c':Nat),(binOp .eql 47 (.slice a n c) (.slice none n' c')).run Tryz.prog w=.ok (.bool a.isNone) w:=fun w a n c n' c'=>Lib.run_eql_slice_nil w _ _ a n c n' c' Tryz.underlying47
 cases a with
 |none =>
  obtain rfl:=hn rfl;have hl0:l=[]:=by
   rcases hl.form with h|⟨b,o,h⟩
   ·exact h
   ·cases h
  subst hl0;go_enter Tryz.func93,Tryz.ntmps93;go_wp2;go_ret;exact⟨none,0,rfl,⟨Or.inl rfl,by simp,by simp⟩,fun _=>rfl,by(with_reducible repeat first|exact Below.refl _ _|refine zc ?_ _|refine zd ?_|refine bset' ?_ (by omega) _|refine zb ?_ (by assumption))⟩
 |some ad =>
  have HL:Hid (l.length≤100000):=h10;go_enter Tryz.func93,Tryz.ntmps93;go_wp2_with(at_builtin;refine zR rfl _ _ 47 rfl w.heap.size 146 i _ 6 80 Tryz.underlying47 hi hz0 hz1 hz2 rfl (by decide) _ 0 [] rfl (World.ownsRow_made _ _ _ (Nat.le_refl _) (by unfold maxLen;omega) (by simp)) (some ad) l.length c (zr l) rfl (R.later (by(with_reducible repeat first|exact Below.refl _ _|refine zc ?_ _|refine zd ?_|refine bset' ?_ (by omega) _|refine zb ?_ (by assumption)))) (by unfold maxLen;omega) (by omega) (by simp) ?_;intro v1 w2 hown1 hb1);rw[Nat.zero_add,List.nil_append] at hown1;obtain⟨a',c',rfl,hR,_,_,hnn,_⟩:=zdt hown1 (fun r hr=>(hl.2.1 r hr).later ((zc (Below.refl _ _) _).trans hb1)) rfl (by omega);go_wp2;go_ret;exact⟨a',c',rfl,hR,hnn,(zc (Below.refl _ _) _).trans hb1⟩
theorem zo.bnil{b:Nat}{d:Dl}{a:An}{w:World}(h:zo b d a w):a.ba=none→a.bc=0:=by
 obtain⟨x,c,hv,h1,_⟩:=zbq h.brow;simp only[Value.slice.injEq,true_and] at hv;obtain⟨rfl,rfl⟩:=hv;exact h1
theorem zeT(b:Nat)(d:Dl)(a:An)(w:World)(h:zo b d a w) :
 Calls Tryz.prog 94 #[.pointer (some ⟨b,0,none⟩)] w fun e w'=>∃a' c',e=.returned (.slice a' d.busy.length c')∧zm w' a' d.busy∧(a'=none→c'=0)∧Below w.heap.size w w':=by
 have c:=h.c66;have hb:=h.blen;go_enter Tryz.func94,Tryz.ntmps94;go_wp2_with fail;refine(zml d.busy a.ba a.bc _ h.reqsAt h.bnil (by omega)).mono ?_;rintro e w1 ⟨a',c',rfl,hR,hn,hb1⟩;go_wp2;go_ret;exact⟨a',c',rfl,hR,hn,hb1⟩
end Go.Proofs.YtlhgjplipgandaaGreatDoor
