/- Joined texts: OpenScs. -/
import Derived.Test.YtlhgjplipgandaaGreatDoorD42
import Derived.Test.YtlhgjplipgandaaGreatDoorD32
set_option maxRecDepth 100000
set_option maxHeartbeats 8000000
set_option linter.unusedSimpArgs false
namespace Go.Proofs.YtlhgjplipgandaaGreatDoor
open Go.ChangeShapes Go.WideShapes Go.RowKit Go.Deep
theorem zkC:Tryz.prog.cellsOf 30=4:=by kernel_rfl
def ScsIn(l:List St):Prop:=∀x∈l,za1 x
section
variable{H:Type}{enc:TypeId × Value→H}{W:World}{base b0 fuel:Nat}{spare:Nat→Bool}{held:Bool}{r:Reach}{v:Value}{d:DataW H}{p:List MemPlace}{x:DataW H × List MemPlace}{cs:List Value}
theorem four4{cs:List Value}(h:cs.length=4):∃a b c d,cs=[a,b,c,d]:=by
 match cs,h with
 |[a,b,c,d],_=>exact⟨a,b,c,d,rfl⟩
theorem zj4(h:DataW.trod enc Tryz.prog W base spare held fuel 30 cs=some x):∃q:St,cs=[q.cell 0,q.cell 1,q.cell 2,q.cell 3]∧za1 q:=by
 obtain⟨xs,n,_,_,hl,hlen,hf⟩:=DataW.trod_struct Tryz.underlying30 h;rw[zkC] at hl;obtain⟨v0,v1,v2,v3,rfl⟩:=four4 hl;have hlen':xs.length=4:=hlen;obtain⟨y0,f0⟩:=zfK hf 0 9 0 1 rfl ziY (by omega);obtain⟨y1,f1⟩:=zfK hf 1 3 1 1 rfl ziX (by omega);obtain⟨y2,f2⟩:=zfK hf 2 3 2 1 rfl ziX (by omega);obtain⟨y3,f3⟩:=zfK hf 3 9 3 1 rfl ziY (by omega);obtain⟨s,g0,_,ws⟩:=DataW.trod_string Tryz.underlying9 f0;obtain⟨n1,g1,_,w1⟩:=DataW.trod_int Tryz.underlying3 f1;obtain⟨n2,g2,_,w2⟩:=DataW.trod_int Tryz.underlying3 f2;obtain⟨t,g3,_,wt⟩:=DataW.trod_string Tryz.underlying9 f3;simp only[List.drop,List.take,List.cons.injEq,and_true] at g0 g1 g2 g3;subst g0 g1 g2 g3;exact⟨⟨s,n1,n2,t⟩,rfl,⟨in64 w1,in64 w2,by unfold maxLen at ws;simp only;omega,by unfold maxLen at wt;simp only;omega⟩⟩
theorem openScs(hv:Value.okWide Tryz.prog W r b0 22 v)(h:DataW.Trod enc Tryz.prog W base spare held 22 v d p):∃(l:List St) (a:Option Addr) (c:Nat),v=.slice a l.length c∧zcu W a l∧ScsIn l:=by
 obtain⟨a,len,cap,rfl⟩:=okWide_slice Tryz.underlying22 hv;obtain⟨fuel,hf⟩:=h
 rcases open_slice Tryz.underlying22 hf with⟨hcs,_⟩|⟨a',len',cap',m,n,D,Pl,hcs,_,hl,hm,hmm,_,hel⟩
 ·simp[Value.cells] at hcs
  obtain⟨rfl,rfl,rfl⟩:=hcs;exact⟨[],none,0,rfl,⟨Or.inl rfl,by simp⟩,fun x hx=>by cases hx⟩
 ·simp[Value.cells] at hcs
  obtain⟨rfl,rfl,rfl⟩:=hcs;have hlm:len≤m:=by rw[hmm];split<;>omega
  rw[zkC] at hel;have each:∀i,i<len→∃q:St,(∀j,j<4→W.cell? ((a'.add (i*4)).add j)=some (q.cell j))∧za1 q:=by
   intro i hi;obtain⟨cs,h1,h2⟩:=hel i (by omega);obtain⟨q,hq,hat⟩:=zj4 h2;obtain⟨_,_,h3⟩:=World.cells?_some h1;refine⟨q,fun j hj=>?_,hat⟩;rw[h3 j hj,hq]
   match j,hj with
   |0,_=>rfl
   |1,_=>rfl
   |2,_=>rfl
   |3,_=>rfl
  have inh:Inhabited St:=⟨⟨ByteArray.empty,0,0,ByteArray.empty⟩⟩
  obtain⟨Q,hQ⟩:=choose_lt each;have hm':cap≤9223372036854775807:=by unfold maxLen at hm;omega
  refine⟨(List.range len).map Q,some a',cap,by simp,⟨?_,by simp;omega⟩,?_⟩
  ·rcases Nat.eq_zero_or_pos len with rfl|hp
   ·exact Or.inl rfl
   ·right
    have e:a'=⟨a'.block,a'.off,none⟩:=by
     have h0:=(hQ 0 hp).1 0 (by omega);rw[Nat.zero_mul] at h0;have h1:a'.spot=none:=by simpa [Addr.add] using World.cell?_spot h0
     cases a';simp_all
    refine⟨a'.block,a'.off,by rw[←e],fun i hi j hj=>?_⟩;simp only[List.length_map,List.length_range] at hi;have:=(hQ i hi).1 j hj;rw[e,zma,zma] at this;rw[this];simp
  ·intro q hq;simp only[List.mem_map,List.mem_range] at hq;obtain⟨i,hi,rfl⟩:=hq;exact(hQ i hi).2
end
end Go.Proofs.YtlhgjplipgandaaGreatDoor
