/- Joined texts: Merge3. -/
import Derived.Deep.RegionHeld3
import Derived.Test.YtlhgjplipgandaaGreatDoorD7
set_option maxRecDepth 100000
set_option maxHeartbeats 8000000
set_option linter.unusedSimpArgs false
namespace Go.Proofs.YtlhgjplipgandaaGreatDoor
open Go.RowKit Go.BigFrame
attribute [local go_sem] ze.cell ze.frozen
theorem zP.row{w:World}{a:Option Addr}{xs:List ByteArray}{c:Nat}(h:zP w a xs)(hn:a=none→c=0):zaS w 1 a xs.length c (xs.map .string):=by
 refine⟨by simp,by simp[Value.oneCell'],?_⟩
 rcases h with rfl|⟨b,o,rfl,hc⟩
 ·cases a with
  |none=>exact Or.inl ⟨rfl,rfl,hn rfl⟩
  |some ad=>exact Or.inr ⟨ad,rfl,fun j u h=>by simp at h⟩
 ·refine Or.inr ⟨_,rfl,fun j u hj=>?_⟩;rw[List.getElem?_map] at hj
  cases hx:xs[j]? with
  |none=>rw[hx] at hj;cases hj
  |some x =>
   rw[hx] at hj;simp only[Option.map_some,Option.some.injEq] at hj;have hlt:j<xs.length:=by
    rcases Nat.lt_or_ge j xs.length with h|h
    ·exact h
    ·rw[List.getElem?_eq_none h] at hx;cases hx
   rw[add_mk',hc j hlt,←hj,List.getD,hx];rfl
theorem zax.row{w:World}{a:Option Addr}{xs:List Int}{c:Nat}(h:zax w a xs)(hn:a=none→c=0):zaS w 1 a xs.length c (xs.map (.int .i64)):=by
 refine⟨by simp,by simp[Value.oneCell'],?_⟩
 rcases h with rfl|⟨b,o,rfl,hc⟩
 ·cases a with
  |none=>exact Or.inl ⟨rfl,rfl,hn rfl⟩
  |some ad=>exact Or.inr ⟨ad,rfl,fun j u h=>by simp at h⟩
 ·refine Or.inr ⟨_,rfl,fun j u hj=>?_⟩;rw[List.getElem?_map] at hj
  cases hx:xs[j]? with
  |none=>rw[hx] at hj;cases hj
  |some x =>
   rw[hx] at hj;simp only[Option.map_some,Option.some.injEq] at hj;have hlt:j<xs.length:=by
    rcases Nat.lt_or_ge j xs.length with h|h
    ·exact h
    ·rw[List.getElem?_eq_none h] at hx;cases hx
   rw[add_mk',hc j hlt,←hj,List.getD,hx];rfl
end Go.Proofs.YtlhgjplipgandaaGreatDoor
