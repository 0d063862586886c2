/- Joined. -/
import Derived.Laws.CopyOwn
import Derived.Laws.Append
import Derived.Laws.AppendOwn
import Derived.Lib.AppendZerosOnto
set_option maxRecDepth 100000
set_option maxHeartbeats 8000000
set_option linter.unusedSimpArgs false
set_option linter.unusedSectionVars false
namespace Go.Proofs.YtlhgjplipgandaaGreatDoor
open Go.RowKit
theorem uz{α:Type}(L:List α)(o:Nat):splice L o []=L:=by simp[splice]
theorem xA{P:Program}(w:World)(dT sT ty elem:TypeId)(k:Nat)(dp sp:Option Addr)(Ag N0 A7 Pq:Nat)(g off:Nat)(cur:List Value)(t:TypeId)(cs:List Value)
 (hu:P.underlying dT=some (.slice elem)) (hs:(P.info? elem).map (·.size)=some k)
 (hg:w.heap[g]?=some (.cells cur.toArray t (0,0))) (hn:cs.length=Nat.min A7 Ag*k)
 (rP:0<cs.length->dp=some ⟨g,off,none⟩/\∃ad,sp=some ad/\∀j v,cs[j]?=some v->w.cell? (ad.add j)=some v)
 (mP:off+cs.length<=cur.length) (h1:∀v∈cs,v.oneCell'=true) :
 ∃w',(Builtin.copy_ #[dT,sT] ty #[.slice dp Ag N0,.slice sp A7 Pq]).run P w=.ok (goInt (Nat.min A7 Ag)) w'/\w'.heap[g]?=some (.cells (splice cur off cs).toArray t (0,0))/\(∀B,B<=g->Below B w w')/\∀k,k ≠ g->w'.heap[k]?=w.heap[k]?:=by
 obtain⟨i,hq,hi⟩:∃i,P.info? elem=some i/\i.size=k:=by
  cases hq:P.info? elem with
  |none=>simp[hq] at hs
  |some i=>exact⟨i,rfl,by simpa [hq] using hs⟩
 by_cases h0:cs.length=0
 ·obtain rfl:cs=[]:=List.eq_nil_of_length_eq_zero h0;refine⟨w,?_,by rw[uz];exact hg,fun B _=>Below.refl _ _,fun _ _=>rfl⟩;have hm:Nat.min A7 Ag*k=0:=by simpa using hn.symm
  have hl:∀a,(loadCells a 0).run P w=.ok #[] w:=fun a=>by simpa using run_loadCells_list (P:=P) w a [] (by simp)
  cases dp<;>cases sp<;>simp[Builtin.copy_,run_underlying hu,Builtin.lenOf,Builtin.firstCells,sizeOf,typeInfo,hq,hi,hm,hl,storeCells]
 ·obtain⟨rfl,ad,rfl,JN⟩:=rP (by omega);have hl:=run_loadCells_list (P:=P) w ad cs JN;have dA:=run_storeCells_at P g off t cs 0 cur.toArray w hg (by simpa using mP) h1;refine⟨_,?_,setRow_heap w g _ _ t _ hg,fun B hB=>below_setRow (Below.refl _ _) hB _,fun k hk=>setRow_other w g k _ hk⟩
  simp[Builtin.copy_,run_underlying hu,Builtin.lenOf,Builtin.firstCells,sizeOf,typeInfo,hq,hi,<-hn,hl,dA,splice]
theorem Bd{P:Program}{ops:Array Oper}{op:Oper}{a:Act}{w:World}{K:Act->World->Prop}{Q:Exit->Act->World->Prop}{E:Prop}(tA:op.guard=none)(d s:Operand)(dT sT:TypeId)
 (ho:op.op=.call { callee:=.builtin .copy,args:=#[d,s],argTypes:=#[dT,sT] }) (elem:TypeId) (k:Nat) (hu:P.underlying dT=some (.slice elem)) (hs:(P.info? elem).map (·.size)=some k)
 (dp sp:Option Addr) (Ag N0 A7 Pq:Nat) (hd:a.eval d=.slice dp Ag N0) (oZ:a.eval s=.slice sp A7 Pq)
 (g off:Nat) (cur:List Value) (t:TypeId) (cs:List Value) (hg:w.heap[g]?=some (.cells cur.toArray t (0,0))) (hn:cs.length=Nat.min A7 Ag*k)
 (rP:0<cs.length->dp=some ⟨g,off,none⟩/\∃ad,sp=some ad/\∀j v,cs[j]?=some v->w.cell? (ad.add j)=some v)
 (mP:off+cs.length<=cur.length) (h1:∀v∈cs,v.oneCell'=true) (B:Nat) (Zt:B<=g)
 (h:∀w' n,Hid (w'.heap[g]?=some (.cells (splice cur off cs).toArray t (0,0)))->Below B w w'->Hid (∀k,k ≠ g->w'.heap[k]?=w.heap[k]?)->K (a.put op.dst (goInt n)) w') :
 if Region.wanted op (yielded ops a.tmps)=true then Oper.wp P op a w K Q else E:=by
 have hw:Region.wanted op (yielded ops a.tmps)=true:=by simp[Region.wanted,tA]
 rw[if_pos hw];obtain⟨w',gV,lO,hb,hot⟩:=xA (P:=P) w dT sT op.type elem k dp sp Ag N0 A7 Pq g off cur t cs hu hs hg hn rP mP h1;unfold Oper.wp
 simp[execOp,ho,resolve,invoke,builtin,hd,oZ,gV,Result.andThen]
 exact h w' _ lO (hb B Zt) hot
theorem Ig{P:Program}(w:World)(t ty e:TypeId)(k:Nat)(g n cap:Nat)(sp:Option Addr)(m c:Nat)(cur:List Value)(tr:TypeId)(cs:List Value)
 (hu:P.underlying t=some (.slice e)) (hs:(P.info? e).map (·.size)=some k) (hg:w.heap[g]?=some (.cells cur.toArray tr (0,0))) (hn:cs.length=m*k) (lE:n+m<=cap)
 (rP:0<cs.length->∃ad,sp=some ad/\∀j v,cs[j]?=some v->w.cell? (ad.add j)=some v)
 (mP:n*k+cs.length<=cur.length) (h1:∀v∈cs,v.oneCell'=true) :
 ∃w',(Builtin.append_ #[t,t] ty #[.slice (some ⟨g,0,none⟩) n cap,.slice sp m c]).run P w=.ok (.slice (some ⟨g,0,none⟩) (n+m) cap) w'/\w'.heap[g]?=some (.cells (splice cur (n*k) cs).toArray tr (0,0))/\∀B,B<=g->Below B w w':=by
 obtain⟨i,hq,hi⟩:∃i,P.info? e=some i/\i.size=k:=by
  cases hq:P.info? e with
  |none=>simp[hq] at hs
  |some i=>exact⟨i,rfl,by simpa [hq] using hs⟩
 have sw:(Addr.add ⟨g,0,none⟩ (n*k))=⟨g,n*k,none⟩:=by
  unfold Addr.add;split
  ·rename_i h;rw[h]
  ·simp
 by_cases h0:cs.length=0
 ·obtain rfl:cs=[]:=List.eq_nil_of_length_eq_zero h0;refine⟨w,?_,by rw[uz];exact hg,fun B _=>Below.refl _ _⟩;have hm:m*k=0:=by simpa using hn.symm
  have hl:∀a,(loadCells a 0).run P w=.ok #[] w:=fun a=>by simpa using run_loadCells_list (P:=P) w a [] (by simp)
  cases sp<;>simp[Builtin.append_,run_underlying hu,Builtin.lenOf,Builtin.firstCells,sizeOf,typeInfo,hq,hi,hm,hl,lE,storeCells]
 ·obtain⟨ad,rfl,JN⟩:=rP (by omega);have hl:=run_loadCells_list (P:=P) w ad cs JN;have dA:=run_storeCells_at P g (n*k) tr cs 0 cur.toArray w hg (by simpa using mP) h1;refine⟨_,?_,setRow_heap w g _ _ tr _ hg,fun B hB=>below_setRow (Below.refl _ _) hB _⟩
  simp[Builtin.append_,run_underlying hu,Builtin.lenOf,Builtin.firstCells,sizeOf,typeInfo,hq,hi,<-hn,hl,lE,sw,dA,splice]
theorem yv{P:Program}{ops:Array Oper}{op:Oper}{a:Act}{w:World}{K:Act->World->Prop}{Q:Exit->Act->World->Prop}{E:Prop}(tA:op.guard=none)(s x:Operand)(t:TypeId)
 (ho:op.op=.call { callee:=.builtin .append,args:=#[s,x],argTypes:=#[t,t] }) (e:TypeId) (k:Nat) (hu:P.underlying t=some (.slice e)) (hs:(P.info? e).map (·.size)=some k)
 (g n cap:Nat) (sp:Option Addr) (m c:Nat) (hd:a.eval s=.slice (some ⟨g,0,none⟩) n cap) (oZ:a.eval x=.slice sp m c)
 (cur:List Value) (tr:TypeId) (cs:List Value) (hg:w.heap[g]?=some (.cells cur.toArray tr (0,0))) (hn:cs.length=m*k) (lE:n+m<=cap)
 (rP:0<cs.length->∃ad,sp=some ad/\∀j v,cs[j]?=some v->w.cell? (ad.add j)=some v)
 (mP:n*k+cs.length<=cur.length) (h1:∀v∈cs,v.oneCell'=true) (B:Nat) (Zt:B<=g)
 (h:∀w',Hid (w'.heap[g]?=some (.cells (splice cur (n*k) cs).toArray tr (0,0)))->Below B w w'->K (a.put op.dst (.slice (some ⟨g,0,none⟩) (n+m) cap)) w') :
 if Region.wanted op (yielded ops a.tmps)=true then Oper.wp P op a w K Q else E:=by
 have hw:Region.wanted op (yielded ops a.tmps)=true:=by simp[Region.wanted,tA]
 rw[if_pos hw];obtain⟨w',gV,lO,hb⟩:=Ig (P:=P) w t op.type e k g n cap sp m c cur tr cs hu hs hg hn lE rP mP h1;unfold Oper.wp
 simp[execOp,ho,resolve,invoke,builtin,hd,oZ,gV,Result.andThen]
 exact h w' lO (hb B Zt)
theorem A6{P:Program}(w:World)(t e ty:TypeId)(z:Value)(k:Nat)(hu:P.underlying t=some (.slice e))(hv:∀w,(zeroValue e).run P w=.ok z w)(hz:z.cells.size=k)(cP:∀u∈z.cells.toList,u.oneCell'=true)
 (g o n c:Nat) (cur:List Value) (tr:TypeId) (hg:w.heap[g]?=some (.cells cur.toArray tr (0,0))) (hn:0<n) (mP:o+n*k<=cur.length) (hk:0<k) :
 ∃w',(Builtin.clear_ #[t] ty #[.slice (some ⟨g,o,none⟩) n c]).run P w=.ok (.tuple #[]) w'/\w'.heap[g]?=some (.cells (splice cur o (Builtin.zeroCells z.cells n).toList).toArray tr (0,0))/\∀B,B<=g->Below B w w':=by
 have hlen:(Builtin.zeroCells z.cells n).toList.length=n*k:=by simp[Builtin.zeroCells,hz]
 have h1:∀v∈(Builtin.zeroCells z.cells n).toList,v.oneCell'=true:=by
  intro v hv;simp only[Builtin.zeroCells,Array.toList_map,List.mem_map] at hv;obtain⟨i,_,rfl⟩:=hv;have hi:i % z.cells.size<z.cells.size:=Nat.mod_lt _ (by omega);rw[getElem!_pos z.cells _ hi];exact cP _ (by simp)
 have dA:=run_storeCells_at P g o tr (Builtin.zeroCells z.cells n).toList 0 cur.toArray w hg (by simp only[Nat.add_zero,List.size_toArray];omega) h1;refine⟨_,?_,setRow_heap w g _ _ tr _ hg,fun B hB=>below_setRow (Below.refl _ _) hB _⟩;obtain⟨m,rfl⟩:∃m,n=m+1:=⟨n-1,by omega⟩
 simp[Builtin.clear_,run_underlying hu,hv,dA,splice]
theorem Ie{P:Program}(w:World)(t ty e:TypeId)(k:Nat)(g n cap:Nat)(sp:Option Addr)(m c:Nat)(cur:List Value)(tr:TypeId)(cs:List Value)
 (hu:P.underlying t=some (.slice e)) (hs:(P.info? e).map (·.size)=some k) (hg:w.heap[g]?=some (.cells cur.toArray tr (0,0))) (hn:cs.length=m*k) (lE:n+m<=cap)
 (rP:0<cs.length->∃ad,sp=some ad/\∀j v,cs[j]?=some v->w.cell? (ad.add j)=some v)
 (mP:n*k+cs.length<=cur.length) (h1:∀v∈cs,v.oneCell'=true) :
 ∃w',(Builtin.append_ #[t,t] ty #[.slice (some ⟨g,0,none⟩) n cap,.slice sp m c]).run P w=.ok (.slice (some ⟨g,0,none⟩) (n+m) cap) w'/\w'.heap[g]?=some (.cells (splice cur (n*k) cs).toArray tr (0,0))/\w.grownBy w' (some g):=by
 obtain⟨i,hq,hi⟩:∃i,P.info? e=some i/\i.size=k:=by
  cases hq:P.info? e with
  |none=>simp[hq] at hs
  |some i=>exact⟨i,rfl,by simpa [hq] using hs⟩
 have sw:(Addr.add ⟨g,0,none⟩ (n*k))=⟨g,n*k,none⟩:=by
  unfold Addr.add;split
  ·rename_i h;rw[h]
  ·simp
 by_cases h0:cs.length=0
 ·obtain rfl:cs=[]:=List.eq_nil_of_length_eq_zero h0;refine⟨w,?_,by rw[uz];exact hg,⟨rfl,rfl,rfl,Nat.le_refl _,fun _ _ _=>rfl⟩⟩;have hm:m*k=0:=by simpa using hn.symm
  have hl:∀a,(loadCells a 0).run P w=.ok #[] w:=fun a=>by simpa using run_loadCells_list (P:=P) w a [] (by simp)
  cases sp<;>simp[Builtin.append_,run_underlying hu,Builtin.lenOf,Builtin.firstCells,sizeOf,typeInfo,hq,hi,hm,hl,lE,storeCells]
 ·obtain⟨ad,rfl,JN⟩:=rP (by omega);have hl:=run_loadCells_list (P:=P) w ad cs JN;have dA:=run_storeCells_at P g (n*k) tr cs 0 cur.toArray w hg (by simpa using mP) h1;refine⟨_,?_,setRow_heap w g _ _ tr _ hg,⟨rfl,rfl,rfl,by simp,fun k _ hk=>setRow_other w g k _ (fun e=>hk (by rw[e]))⟩⟩
  simp[Builtin.append_,run_underlying hu,Builtin.lenOf,Builtin.firstCells,sizeOf,typeInfo,hq,hi,<-hn,hl,lE,sw,dA,splice]
theorem yu{P:Program}{ops:Array Oper}{op:Oper}{a:Act}{w:World}{K:Act->World->Prop}{Q:Exit->Act->World->Prop}{E:Prop}(tA:op.guard=none)(s x:Operand)(t:TypeId)
 (ho:op.op=.call { callee:=.builtin .append,args:=#[s,x],argTypes:=#[t,t] }) (e:TypeId) (k:Nat) (hu:P.underlying t=some (.slice e)) (hs:(P.info? e).map (·.size)=some k)
 (g n cap:Nat) (sp:Option Addr) (m c:Nat) (hd:a.eval s=.slice (some ⟨g,0,none⟩) n cap) (oZ:a.eval x=.slice sp m c)
 (cur:List Value) (tr:TypeId) (cs:List Value) (hg:w.heap[g]?=some (.cells cur.toArray tr (0,0))) (hn:cs.length=m*k) (lE:n+m<=cap)
 (rP:0<cs.length->∃ad,sp=some ad/\∀j v,cs[j]?=some v->w.cell? (ad.add j)=some v)
 (mP:n*k+cs.length<=cur.length) (h1:∀v∈cs,v.oneCell'=true)
 (h:∀w',Hid (w'.heap[g]?=some (.cells (splice cur (n*k) cs).toArray tr (0,0)))->w.grownBy w' (some g)->K (a.put op.dst (.slice (some ⟨g,0,none⟩) (n+m) cap)) w') :
 if Region.wanted op (yielded ops a.tmps)=true then Oper.wp P op a w K Q else E:=by
 have hw:Region.wanted op (yielded ops a.tmps)=true:=by simp[Region.wanted,tA]
 rw[if_pos hw];obtain⟨w',gV,lO,hb⟩:=Ie (P:=P) w t op.type e k g n cap sp m c cur tr cs hu hs hg hn lE rP mP h1;unfold Oper.wp
 simp[execOp,ho,resolve,invoke,builtin,hd,oZ,gV,Result.andThen]
 exact h w' lO hb
theorem rZ{P:Program}(w:World)(t e ty:TypeId)(z:Value)(k:Nat)(hu:P.underlying t=some (.slice e))(hv:∀w,(zeroValue e).run P w=.ok z w)(hz:z.cells.size=k)(cP:∀u∈z.cells.toList,u.oneCell'=true)
 (g o n c:Nat) (cur:List Value) (tr:TypeId) (hg:w.heap[g]?=some (.cells cur.toArray tr (0,0))) (hn:0<n) (mP:o+n*k<=cur.length) (hk:0<k) :
 ∃w',(Builtin.clear_ #[t] ty #[.slice (some ⟨g,o,none⟩) n c]).run P w=.ok (.tuple #[]) w'/\w'.heap[g]?=some (.cells (splice cur o (Builtin.zeroCells z.cells n).toList).toArray tr (0,0))/\w.grownBy w' (some g):=by
 have hlen:(Builtin.zeroCells z.cells n).toList.length=n*k:=by simp[Builtin.zeroCells,hz]
 have h1:∀v∈(Builtin.zeroCells z.cells n).toList,v.oneCell'=true:=by
  intro v hv;simp only[Builtin.zeroCells,Array.toList_map,List.mem_map] at hv;obtain⟨i,_,rfl⟩:=hv;have hi:i % z.cells.size<z.cells.size:=Nat.mod_lt _ (by omega);rw[getElem!_pos z.cells _ hi];exact cP _ (by simp)
 have dA:=run_storeCells_at P g o tr (Builtin.zeroCells z.cells n).toList 0 cur.toArray w hg (by simp only[Nat.add_zero,List.size_toArray];omega) h1;refine⟨_,?_,setRow_heap w g _ _ tr _ hg,⟨rfl,rfl,rfl,by simp,fun k _ hk=>setRow_other w g k _ (fun e=>hk (by rw[e]))⟩⟩;obtain⟨m,rfl⟩:∃m,n=m+1:=⟨n-1,by omega⟩
 simp[Builtin.clear_,run_underlying hu,hv,dA,splice]
end Go.Proofs.YtlhgjplipgandaaGreatDoor
