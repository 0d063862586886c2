/- Joined. -/
import Derived.Deep.RegionHeld3
import Derived.Test.YtlhgjplipgandaaGreatDoorF4
set_option maxRecDepth 100000
set_option maxHeartbeats 8000000
set_option linter.unusedSimpArgs false
set_option linter.unusedSectionVars false
namespace Go.Proofs.YtlhgjplipgandaaGreatDoor
open Go.RowKit Go.BigFrame
theorem StrsAt.row{w:World}{a:Option Addr}{xs:List ByteArray}{c:Nat}(h:StrsAt w a xs)(hn:a=none->c=0):gg w 1 a xs.length c (xs.map .string):=by
 refine⟨sM,by simp[Value.oneCell'],?_⟩
 rcases h with rfl|⟨b,o,rfl,hc⟩
 ·cases a with
  |none=>exact il ⟨rfl,rfl,hn rfl⟩
  |some ad=>exact ir ⟨ad,rfl,fun j u h=>by simp at h⟩
 ·refine ir ⟨_,rfl,fun j u hj=>?_⟩;rw[acq] at hj
  cases hx:xs[j]? with
  |none=>rw[hx] at hj;cases hj
  |some x =>
   rw[hx] at hj;simp only[afl,aa4] at hj;have au:j<xs.length:=by
    rcases adI j xs.length with h|h
    ·exact h
    ·rw[acC h] at hx;cases hx
   rw[vU,hc j au,<-hj,List.getD,hx];rfl
theorem eF.row{w:World}{a:Option Addr}{xs:List Int}{c:Nat}(h:eF w a xs)(hn:a=none->c=0):gg w 1 a xs.length c (xs.map (.int .i64)):=by
 refine⟨sM,by simp[Value.oneCell'],?_⟩
 rcases h with rfl|⟨b,o,rfl,hc⟩
 ·cases a with
  |none=>exact il ⟨rfl,rfl,hn rfl⟩
  |some ad=>exact ir ⟨ad,rfl,fun j u h=>by simp at h⟩
 ·refine ir ⟨_,rfl,fun j u hj=>?_⟩;rw[acq] at hj
  cases hx:xs[j]? with
  |none=>rw[hx] at hj;cases hj
  |some x =>
   rw[hx] at hj;simp only[afl,aa4] at hj;have au:j<xs.length:=by
    rcases adI j xs.length with h|h
    ·exact h
    ·rw[acC h] at hx;cases hx
   rw[vU,hc j au,<-hj,List.getD,hx];rfl
end Go.Proofs.YtlhgjplipgandaaGreatDoor
