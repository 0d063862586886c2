/- Joined. -/
import Derived.Deep.RegionHeld3
import Derived.Test.YtlhgjplipgandaaGreatDoorE4
set_option maxRecDepth 100000
set_option maxHeartbeats 8000000
set_option linter.unusedSimpArgs false
set_option linter.unusedSectionVars false
namespace Go.Proofs.YtlhgjplipgandaaGreatDoor
open Go.RowKit Go.BigFrame
theorem cy.row{w:World}{a:Option Addr}{xs:List ByteArray}{c:Nat}(h:cy w a xs)(hn:a=none->c=0):gu w 1 a xs.length c (xs.map .string):=by
 refine⟨sM,by simp[Value.oneCell'],?_⟩
 rcases h with rfl|⟨b,o,rfl,hc⟩
 ·cases a with
  |none=>exact il ⟨rfl,rfl,hn rfl⟩
  |some ad=>exact ir ⟨ad,rfl,fun j u h=>by simp at h⟩
 ·refine ir ⟨_,rfl,fun j u hj=>?_⟩;rw[adq] at hj
  cases hx:xs[j]? with
  |none=>rw[hx] at hj;cases hj
  |some x =>
   rw[hx] at hj;simp only[adE,ace] at hj;have aq:j<xs.length:=by
    rcases adD j xs.length with h|h
    ·exact h
    ·rw[adj h] at hx;cases hx
   rw[uB,hc j aq,<-hj,List.getD,hx];rfl
theorem dZ.row{w:World}{a:Option Addr}{xs:List Int}{c:Nat}(h:dZ w a xs)(hn:a=none->c=0):gu w 1 a xs.length c (xs.map (.int .i64)):=by
 refine⟨sM,by simp[Value.oneCell'],?_⟩
 rcases h with rfl|⟨b,o,rfl,hc⟩
 ·cases a with
  |none=>exact il ⟨rfl,rfl,hn rfl⟩
  |some ad=>exact ir ⟨ad,rfl,fun j u h=>by simp at h⟩
 ·refine ir ⟨_,rfl,fun j u hj=>?_⟩;rw[adq] at hj
  cases hx:xs[j]? with
  |none=>rw[hx] at hj;cases hj
  |some x =>
   rw[hx] at hj;simp only[adE,ace] at hj;have aq:j<xs.length:=by
    rcases adD j xs.length with h|h
    ·exact h
    ·rw[adj h] at hx;cases hx
   rw[uB,hc j aq,<-hj,List.getD,hx];rfl
end Go.Proofs.YtlhgjplipgandaaGreatDoor
