/- Joined. -/
import Derived.Deep.RegionHeld
import Derived.OrdersHeld
set_option maxRecDepth 100000
set_option maxHeartbeats 8000000
set_option linter.unusedSimpArgs false
set_option linter.unusedSectionVars false
namespace Go.Proofs.YtlhgjplipgandaaGreatDoor

section
variable{P:Program}{ops:Array Oper}{Q:Exit->Act->World->Prop}{S:World->Prop}{d:Nat}
def ph(P:Program)(ops:Array Oper)(Q:Exit->Act->World->Prop)(S:World->Prop)(d:Nat):Nat->Array Bool->Act->World->Prop
 |0,ls,a,w=>Region.ready .any ops ls=[]/\Q .normal a w
 |k+1,ls,a,w=>(Region.ready .any ops ls=[]->Q .normal a w)/\∀i∈Region.ready .any ops ls,wpOp P ops Q i (fun a' w'=>(i ≠ d->S w')/\ph P ops Q S d k (ls.setIfInBounds i true) a' w') a w
theorem B4:∀(k:Nat) (ls:Array Bool) (a:Act) (w:World),ph P ops Q S d k ls a w->wpAny P .any ops Q k ls a w
 |0,_,_,_,h=>h
 |k+1,_,_,_,h=>⟨h.1,fun i hi=>wpOp_mono (fun a' w' h'=>B4 k _ a' w' h'.2) (h.2 i hi)⟩
theorem eK{id:Nat}{a:Act}{w:World}(hm:P.follows .mixedOrders=true)(h:ph P ops Q S d ops.size (Array.replicate ops.size false) a w.drew):(Code.region id ops true).wp P Q a w :=
 wp_region_any hm (B4 _ _ _ _ h)
def zq(ops:Array Oper)(d i:Nat):Bool:=match ops[d]? with|some o=>o.after.any fun e=>Region.binds .any e&&e.on==i|none=>false
theorem R3{i:Nat}{ls:Array Bool}(hw:zq ops d i=true)(hi:i∈Region.ready .any ops ls):d ∉ Region.ready .any ops ls:=by
 intro hd;obtain⟨_,o,ho,hall⟩:=mem_ready.1 hd;simp only[zq,ho] at hw;obtain⟨e,he,hb⟩:=Array.any_eq_true'.1 hw;simp only[Bool.and_eq_true,beq_iff_eq] at hb;have h1:=hall e he hb.1;have h0:=(mem_ready.1 hi).1;rw[hb.2] at h1
 rcases Nat.lt_or_ge i ls.size with h'|h'
 ·simp[h'] at h0 h1;rw[h0] at h1;cases h1
 ·simp[Array.getElem?_eq_none h'] at h1
theorem PF{i:Nat}{oi:Oper}{v:Value}(hi:ops[i]?=some oi)(JM:∀(j:Nat) (o:Oper) cs b,ops[j]?=some o->o.op ≠ .select cs b)(hw:zq ops d i=true)
 (hQ:∀c a w,Q (.panic c) (a.put oi.dst v) w->Q (.panic c) a w):∀(k:Nat) (ls:Array Bool) (a:Act) (w:World),
  (∀j oj,ops[j]?=some oj->j ≠ i->ls.getD j true=false->(∀e∈oj.after,Region.binds .any e=true->e.on ≠ i)->oi.apart ops oj=true) ->
  i∈Region.ready .any ops ls->YieldsIf P ops S oi v a->S w->ph P ops Q S d k (ls.setIfInBounds i true) (a.put oi.dst v) w->ph P ops Q S d (k+1) ls a w:=by
 intro k
 induction k with
 |zero =>
  intro ls a w _ hr hy hS H;refine⟨fun h=>(by rw[h] at hr;cases hr),fun j hj=>?_⟩
  by_cases e:j=i
  ·subst e;exact hy.wpOp hi hS ⟨fun _=>hS,H⟩
  ·have:=ready_mono hj e;rw[H.1] at this;cases this
 |succ k ih =>
  intro ls a w D4 hr hy hS H;refine⟨fun h=>(by rw[h] at hr;cases hr),fun j hj=>?_⟩
  by_cases e:j=i
  ·subst e;exact hy.wpOp hi hS ⟨fun _=>hS,H⟩
  have jd:j ≠ d:=fun e'=>R3 hw hr (e'▸hj)
  have h1:=H.2 j (ready_mono hj e);obtain⟨Rz,oj,GD,hall⟩:=mem_ready.1 hj;have dS:∀x∈oj.after,Region.binds .any x=true->x.on ≠ i:=fun x hx hb he=>by
   have h1:=hall x hx hb;have h0:=(mem_ready.1 hr).1;rw[he] at h1
   rcases Nat.lt_or_ge i ls.size with h'|h'
   ·simp[h'] at h0 h1;rw[h0] at h1;cases h1
   ·simp[Array.getElem?_eq_none h'] at h1
  have h2:=wpOp_putIf GD (D4 j oj GD e Rz dS) (fun cs b=>JM i oi cs b hi) (fun cs b=>JM j oj cs b GD) hQ hy h1;refine wpOp_mono (fun a' w' h3=>⟨fun _=>h3.2.1 jd,ih (ls.setIfInBounds j true) a' w' (fun m om hm ZW Rn Ea=>D4 m om hm ZW ?_ Ea) (ready_mono hr (Ne.symm e)) h3.1 (h3.2.1 jd) ?_⟩) h2
  ·by_cases Rg:j=m
   ·subst Rg;exact Rz
   ·rw[getD_set_ne true Rg] at Rn;exact Rn
  ·rw[Array.setIfInBounds_comm _ _ e];exact h3.2.2
theorem ar{i:Nat}{oi:Oper}{v:Value}{k:Nat}{ls:Array Bool}{a:Act}{w:World}(hi:ops[i]?=some oi)(hs:Region.noSelect ops=true)(hf:Region.free .any ops ls i=true)(hr:(Region.ready .any ops ls).contains i=true)(hw:zq ops d i=true)
 (hQ:∀c a w,Q (.panic c) (a.put oi.dst v) w->Q (.panic c) a w) (hy:YieldsIf P ops S oi v a) (hS:S w) (h:ph P ops Q S d k (ls.setIfInBounds i true) (a.put oi.dst v) w):ph P ops Q S d (k+1) ls a w :=
 PF hi (Region.noSelect_spec hs) hw hQ k ls a w (Region.free_spec hi hf) (by simpa using hr) hy hS h
theorem tk{P:Program}{ops:Array Oper}{Q:Exit->Act->World->Prop}{S:World->Prop}{d:Nat}(i:Nat){oi:Oper}(v:Value){k:Nat}{ls:Array Bool}{a:Act}{w:World}(hi:ops[i]?=some oi)(hy:YieldsIf P ops S oi v a)(hS:S w)(h:ph P ops Q S d k (ls.setIfInBounds i true) (a.put oi.dst v) w)(hs:Region.noSelect ops=true:=by kernel_rfl)(hf:Region.free .any ops ls i=true:=by kernel_rfl)(hr:(Region.ready .any ops ls).contains i=true:=by kernel_rfl)(hw:zq ops d i=true:=by kernel_rfl)(hQ:∀c a w,Q (.panic c) (a.put oi.dst v) w->Q (.panic c) a w:=by exact fun _ _ _ h=>h):ph P ops Q S d (k+1) ls a w:=ar hi hs hf hr hw hQ hy hS h
theorem tK{P:Program}{ops:Array Oper}{Q:Exit->Act->World->Prop}{S:World->Prop}{d:Nat}(i:Nat){oi:Oper}{v:Value}{k:Nat}{ls:Array Bool}{a:Act}{w:World}(hi:ops[i]?=some oi)(hS:S w)(h:ph P ops Q S d k (ls.setIfInBounds i true) (a.put oi.dst v) w)(hy:YieldsIf P ops S oi v a:=by(refine Or.inl ⟨by rfl,?_⟩;intro w0 aD;(repeat(have QY:=aD.1;replace aD:=aD.2));go_simp;(try with_reducible rfl)))(hs:Region.noSelect ops=true:=by kernel_rfl)(hf:Region.free .any ops ls i=true:=by kernel_rfl)(hr:(Region.ready .any ops ls).contains i=true:=by kernel_rfl)(hw:zq ops d i=true:=by kernel_rfl)(hQ:∀c a w,Q (.panic c) (a.put oi.dst v) w->Q (.panic c) a w:=by exact fun _ _ _ h=>h):ph P ops Q S d (k+1) ls a w:=ar hi hs hf hr hw hQ hy hS h
theorem bn{i:Nat}{oi:Oper}{k:Nat}{ls:Array Bool}{a:Act}{w:World}(hi:ops[i]?=some oi)(hr:Region.ready .any ops ls=[i])
 (h:∀K,(∀a' w',(i ≠ d->S w')->ph P ops Q S d k (ls.setIfInBounds i true) a' w'->K a' w')->if Region.wanted oi (yielded ops a.tmps)=true then Oper.wp P oi a w K Q else K (a.put oi.dst undef) w):ph P ops Q S d (k+1) ls a w:=by
 refine⟨fun h0=>(by rw[hr] at h0;cases h0),fun j hj=>?_⟩;rw[hr] at hj;obtain rfl:=List.mem_singleton.1 hj;exact wpOp_step hi (fun K' hK=>h K' (fun a w h1 h2=>hK a w ⟨h1,h2⟩))
theorem KS{i j:Nat}{oi oj:Oper}{k:Nat}{ls:Array Bool}{a:Act}{w:World}(hi:ops[i]?=some oi)(hj:ops[j]?=some oj)(hr:Region.ready .any ops ls=[i,j])
 (h1:∀K,(∀a' w',(i ≠ d->S w')->ph P ops Q S d k (ls.setIfInBounds i true) a' w'->K a' w')->if Region.wanted oi (yielded ops a.tmps)=true then Oper.wp P oi a w K Q else K (a.put oi.dst undef) w)
 (h2:∀K,(∀a' w',(j ≠ d->S w')->ph P ops Q S d k (ls.setIfInBounds j true) a' w'->K a' w')->if Region.wanted oj (yielded ops a.tmps)=true then Oper.wp P oj a w K Q else K (a.put oj.dst undef) w):ph P ops Q S d (k+1) ls a w:=by
 refine⟨fun h0=>(by rw[hr] at h0;cases h0),fun x hx=>?_⟩;rw[hr] at hx
 rcases List.mem_cons.1 hx with rfl|hx
 ·exact wpOp_step hi (fun K' hK=>h1 K' (fun a w h1 h2=>hK a w ⟨h1,h2⟩))
 ·obtain rfl:=List.mem_singleton.1 hx;exact wpOp_step hj (fun K' hK=>h2 K' (fun a w h1 h2=>hK a w ⟨h1,h2⟩))
theorem fp{ls:Array Bool}{a:Act}{w:World}(hr:Region.ready .any ops ls=[])(h:Q .normal a w):∀k,ph P ops Q S d k ls a w
 |0=>⟨hr,h⟩
 |_+1=>⟨fun _=>h,by rw[hr];simp⟩
end
section
variable{P:Program}{ops:Array Oper}{Q:Exit->Act->World->Prop}{S:World->Prop}{d:Nat}
theorem Mq{i:Nat}{oi:Oper}{v:Value}(hi:ops[i]?=some oi)(JM:∀(j:Nat) (o:Oper) cs b,ops[j]?=some o->o.op ≠ .select cs b)(hd:ops.size<=d)
 (hQ:∀c a w,Q (.panic c) (a.put oi.dst v) w->Q (.panic c) a w):∀(k:Nat) (ls:Array Bool) (a:Act) (w:World),
  (∀j oj,ops[j]?=some oj->j ≠ i->ls.getD j true=false->(∀e∈oj.after,Region.binds .any e=true->e.on ≠ i)->oi.apart ops oj=true) ->
  i∈Region.ready .any ops ls->YieldsIf P ops S oi v a->S w->ph P ops Q S d k (ls.setIfInBounds i true) (a.put oi.dst v) w->ph P ops Q S d (k+1) ls a w:=by
 intro k
 induction k with
 |zero =>
  intro ls a w _ hr hy hS H;refine⟨fun h=>(by rw[h] at hr;cases hr),fun j hj=>?_⟩
  by_cases e:j=i
  ·subst e;exact hy.wpOp hi hS ⟨fun _=>hS,H⟩
  ·have:=ready_mono hj e;rw[H.1] at this;cases this
 |succ k ih =>
  intro ls a w D4 hr hy hS H;refine⟨fun h=>(by rw[h] at hr;cases hr),fun j hj=>?_⟩
  by_cases e:j=i
  ·subst e;exact hy.wpOp hi hS ⟨fun _=>hS,H⟩
  obtain⟨Rz,oj,GD,hall⟩:=mem_ready.1 hj;have jd:j ≠ d:=fun e'=>by have:=(Array.getElem?_eq_some_iff.1 GD).1;omega
  have h1:=H.2 j (ready_mono hj e);have dS:∀x∈oj.after,Region.binds .any x=true->x.on ≠ i:=fun x hx hb he=>by
   have h1:=hall x hx hb;have h0:=(mem_ready.1 hr).1;rw[he] at h1
   rcases Nat.lt_or_ge i ls.size with h'|h'
   ·simp[h'] at h0 h1;rw[h0] at h1;cases h1
   ·simp[Array.getElem?_eq_none h'] at h1
  have h2:=wpOp_putIf GD (D4 j oj GD e Rz dS) (fun cs b=>JM i oi cs b hi) (fun cs b=>JM j oj cs b GD) hQ hy h1;refine wpOp_mono (fun a' w' h3=>⟨fun _=>h3.2.1 jd,ih (ls.setIfInBounds j true) a' w' (fun m om hm ZW Rn Ea=>D4 m om hm ZW ?_ Ea) (ready_mono hr (Ne.symm e)) h3.1 (h3.2.1 jd) ?_⟩) h2
  ·by_cases Rg:j=m
   ·subst Rg;exact Rz
   ·rw[getD_set_ne true Rg] at Rn;exact Rn
  ·rw[Array.setIfInBounds_comm _ _ e];exact h3.2.2
theorem pz{i:Nat}{oi:Oper}{v:Value}{k:Nat}{ls:Array Bool}{a:Act}{w:World}(hi:ops[i]?=some oi)(hs:Region.noSelect ops=true)(hf:Region.free .any ops ls i=true)(hr:(Region.ready .any ops ls).contains i=true)(hd:decide (ops.size<=d)=true)
 (hQ:∀c a w,Q (.panic c) (a.put oi.dst v) w->Q (.panic c) a w) (hy:YieldsIf P ops S oi v a) (hS:S w) (h:ph P ops Q S d k (ls.setIfInBounds i true) (a.put oi.dst v) w):ph P ops Q S d (k+1) ls a w :=
 Mq hi (Region.noSelect_spec hs) (of_decide_eq_true hd) hQ k ls a w (Region.free_spec hi hf) (by simpa using hr) hy hS h
end
end Go.Proofs.YtlhgjplipgandaaGreatDoor
