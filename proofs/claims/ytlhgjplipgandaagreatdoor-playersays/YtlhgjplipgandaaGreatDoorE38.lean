/- Joined. -/
import Derived.Test.YtlhgjplipgandaaGreatDoorE7
import Derived.Test.YtlhgjplipgandaaGreatDoorE37
set_option maxRecDepth 100000
set_option maxHeartbeats 8000000
set_option linter.unusedSimpArgs false
set_option linter.unusedSectionVars false
namespace Go.Proofs.YtlhgjplipgandaaGreatDoor
open Tryz
open Go.ChangeShapes Go.WideShapes Go.RowKit Go.Deep
theorem MZ:prog.cellsOf 30=4:=kR
def aaW(l:List St):Prop:=∀x∈l,jC x
section
variable{H:Type}{enc:TypeId × Value->H}{W:World}{base b0 fuel:Nat}{spare:Nat->Bool}{held:Bool}{r:Reach}{v:Value}{d:DataW H}{p:List MemPlace}{x:DataW H × List MemPlace}{cs:List Value}
theorem aa3{cs:List Value}(h:cs.length=4):∃a b c d,cs=[a,b,c,d]:=by
 match cs,h with
 |[a,b,c,d],_=>exact⟨a,b,c,d,rfl⟩
theorem Lz(h:DataW.trod enc prog W base spare held fuel 30 cs=some x):∃q:St,cs=[q.cell 0,q.cell 1,q.cell 2,q.cell 3]/\jC q:=by
 obtain⟨xs,n,_,_,hl,hlen,hf⟩:=DataW.trod_struct underlying30 h;rw[MZ] at hl;obtain⟨v0,v1,v2,v3,rfl⟩:=aa3 hl;have hlen':xs.length=4:=hlen;obtain⟨y0,f0⟩:=Bw hf 0 9 0 1 rfl Jf oM;obtain⟨y1,f1⟩:=Bw hf 1 3 1 1 rfl Je oM;obtain⟨y2,f2⟩:=Bw hf 2 3 2 1 rfl Je oM;obtain⟨y3,f3⟩:=Bw hf 3 9 3 1 rfl Jf oM;obtain⟨s,g0,_,ws⟩:=DataW.trod_string underlying9 f0;obtain⟨n1,g1,_,w1⟩:=DataW.trod_int underlying3 f1;obtain⟨n2,g2,_,w2⟩:=DataW.trod_int underlying3 f2;obtain⟨t,g3,_,wt⟩:=DataW.trod_string underlying9 f3;simp only[List.drop,List.take,List.cons.injEq,adh] at g0 g1 g2 g3;subst g0 g1 g2 g3;exact⟨⟨s,n1,n2,t⟩,rfl,⟨aao w1,aao w2,by unfold maxLen at ws;simp only;omega,by unfold maxLen at wt;simp only;omega⟩⟩
theorem openScs(hv:Value.okWide prog W r b0 22 v)(h:DataW.Trod enc prog W base spare held 22 v d p):∃(l:List St) (a:Option Addr) (c:Nat),v=.slice a l.length c/\qs W a l/\aaW l:=by
 obtain⟨a,len,cap,rfl⟩:=okWide_slice underlying22 hv;obtain⟨fuel,hf⟩:=h
 rcases open_slice underlying22 hf with⟨kf,_⟩|⟨a',len',abx,m,n,D,Pl,kf,_,hl,hm,Rm,_,hel⟩
 ·simp[Value.cells] at kf
  obtain⟨rfl,rfl,rfl⟩:=kf;exact⟨[],none,0,rfl,⟨il rfl,sM⟩,fun x hx=>by cases hx⟩
 ·simp[Value.cells] at kf
  obtain⟨rfl,rfl,rfl⟩:=kf;have hlm:len<=m:=by rw[Rm];split<;>omega
  rw[MZ] at hel;have each:∀i,i<len->∃q:St,(∀j,j<4->W.cell? ((a'.add (i*4)).add j)=some (q.cell j))/\jC q:=by
   intro i hi;obtain⟨cs,h1,h2⟩:=hel i oM;obtain⟨q,hq,fS⟩:=Lz h2;obtain⟨_,_,h3⟩:=World.cells?_some h1;refine⟨q,fun j hj=>?_,fS⟩;rw[h3 j hj,hq]
   match j,hj with
   |0,_=>rfl
   |1,_=>rfl
   |2,_=>rfl
   |3,_=>rfl
  have inh:Inhabited St:=⟨⟨bE,0,0,bE⟩⟩
  obtain⟨Q,hQ⟩:=choose_lt each;have Wx:cap<=9223372036854775807:=by unfold maxLen at hm;omega
  refine⟨(List.range len).map Q,some a',cap,sM,⟨?_,by simp;omega⟩,?_⟩
  ·rcases aeA len with rfl|hp
   ·exact il rfl
   ·right
    have e:a'=⟨a'.block,a'.off,none⟩:=by
     have h0:=(hQ 0 hp).1 0 oM;rw[Nat.zero_mul] at h0;have h1:a'.spot=none:=by simpa [Addr.add] using World.cell?_spot h0
     cases a';simp_all
    refine⟨a'.block,a'.off,by rw[<-e],fun i hi j hj=>?_⟩;simp only[acp,List.length_range] at hi;have:=(hQ i hi).1 j hj;rw[e,Qd,Qd] at this;rw[this];simp
  ·intro q hq;simp only[adn,List.mem_range] at hq;obtain⟨i,hi,rfl⟩:=hq;exact(hQ i hi).2
end
end Go.Proofs.YtlhgjplipgandaaGreatDoor
