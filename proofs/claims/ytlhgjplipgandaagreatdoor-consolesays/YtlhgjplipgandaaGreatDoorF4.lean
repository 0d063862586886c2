/- Joined. -/
import Derived.Deep.RegionWith
import Derived.Lib.SliceRun
import Derived.Test.YtlhgjplipgandaaGreatDoorF3
set_option maxRecDepth 100000
set_option maxHeartbeats 8000000
set_option linter.unusedSimpArgs false
set_option linter.unusedSectionVars false
namespace Go.Proofs.YtlhgjplipgandaaGreatDoor
open Tryz
open Go.RowKit Go.BigFrame
def a8(l:List Rq):List Value:=l.flatMap fun r=>[r.cell 0,r.cell 1,r.cell 2,r.cell 3,r.cell 4,r.cell 5]
theorem je(l:List Rq):(a8 l).length=l.length*6:=by
 induction l with
 |nil=>rfl
 |cons r l ih=>rw[a8,agj,aaQ,<-a8,ih,acf];simp;omega
theorem fI(l l':List Rq):a8 (l++l')=a8 l++a8 l':=by simp[a8]
theorem I5(l:List Rq):∀(i j:Nat) (h:i<l.length),j<6->(a8 l)[i*6+j]?=some (l[i].cell j):=by
 induction l with
 |nil=>intro i j h;exact absurd h (aa0 _)
 |cons r l ih =>
  intro i j h hj;rw[a8,agj,<-a8]
  cases i with
  |zero =>
   rw[abU (by simp;omega)]
   match j,hj with
   |0,_=>rfl
   |1,_=>rfl
   |2,_=>rfl
   |3,_=>rfl
   |4,_=>rfl
   |5,_=>rfl
  |succ i =>
   rw[abZ (by simp;omega)];have:=ih i j (by simpa using h) hj;simp only[acf,af7,adJ];rw[<-this];congr 1;omega
theorem tm(l:List Rq):∀u∈a8 l,u.oneCell'=true:=by
 intro u hu;simp only[a8,List.mem_flatMap] at hu;obtain⟨r,_,hr⟩:=hu;simp only[acj,agr,or_false] at hr
 rcases hr with rfl|rfl|rfl|rfl|rfl|rfl<;>rfl
theorem vM{l:List Rq}{k:Nat}{u:Value}(h:(a8 l)[k]?=some u):∃i j,∃hi:i<l.length,j<6/\k=i*6+j/\u=l[i].cell j:=by
 have hk:k<(a8 l).length:=by
  rcases adI k (a8 l).length with h'|h'
  ·exact h'
  ·rw[acC h'] at h;cases h
 rw[je] at hk;have hi:k / 6<l.length:=oM;have hj:k % 6<6:=Nat.mod_lt _ oM;have e:k=k / 6*6+k % 6:=oM;refine⟨k / 6,k % 6,hi,hj,e,?_⟩;rw[e,I5 l (k / 6) (k % 6) hi hj] at h;exact(abY h).symm
theorem vU(b o i:Nat):(Addr.add ⟨b,o,none⟩ i)=⟨b,o+i,none⟩:=by
 unfold Addr.add;split
 ·rename_i h;subst h;rfl
 ·rfl
theorem aW.row{w:World}{b o c:Nat}{l:List Rq}(h:aW w (some ⟨b,o,none⟩) l)(l1 l2 l3:List Rq)(e:l=l1++l2++l3):gg w 6 (some ⟨b,o+l1.length*6,none⟩) l2.length c (a8 l2):=by
 refine⟨je l2,tm l2,ir ⟨_,rfl,fun k u hk=>?_⟩⟩;obtain⟨i,j,hi,hj,rfl,rfl⟩:=vM hk
 rcases h.1 with h0|⟨b',o',ha,hc⟩
 ·rw[h0] at e;simp at e;rw[e.2.1] at hi;exact absurd hi (aa0 _)
 ·simp only[aa4,aci,acS] at ha;obtain⟨rfl,rfl⟩:=ha;have au:l1.length+i<l.length:=by rw[e];simp;omega
  have:=hc (l1.length+i) au j hj;have el:l[l1.length+i]=l2[i]:=by
   simp only[e];rw[List.getElem_append_left (by simp;omega),af6 oM]
   simp
  rw[el] at this;rw[vU,<-this]
  congr 2
  rw[Nat.add_mul];omega
theorem rF{w:World}{base e:Nat}{v:Value}{l:List Rq}{n:Nat}(h:w.ownsRow base e 6 v n (a8 l))(eB:∀r∈l,r.At w)(hn:n=l.length)(hb:l.length<=9223372036854775807) :
 ∃a c,v=.slice a l.length c/\aW w a l/\l.length<=c/\c<=9223372036854775807/\(a=none->c=0)/\∀ad,a=some ad->base<=ad.block/\ad.off=0/\ad.spot=none:=by
 subst hn
 rcases h.2 with⟨rfl,h0⟩|⟨g,cap,cur,rfl,hg,hh,jO,ig,hcs,ht⟩
 ·have hl:=aaZ h0;subst hl;exact⟨none,0,rfl,⟨il rfl,sM,sM⟩,sM,sM,fun _=>rfl,fun _ h=>by cases h⟩
 ·have hnd:∀ad:Addr,some (⟨g,0,none⟩:Addr)=some ad->base<=ad.block/\ad.off=0/\ad.spot=none:=by
   intro ad h;cases h;exact⟨hg,rfl,rfl⟩
  have Ar:cap<=9223372036854775807:=by unfold maxLen at ig;omega
  refine⟨some ⟨g,0,none⟩,cap,rfl,⟨ir ⟨g,0,rfl,fun i hi j hj=>?_⟩,eB,hb⟩,jO,Ar,sM,hnd⟩;have hx:=I5 l i j hi hj;have hc:=h.cellAt (i*6+j) oM;rw[abc,hc,hx]
theorem adu{w w1:World}{a0 a1 a2 a3 a4 a5:Value}{T:TypeId}{Y:Obj}(HB:Below (((w.alloc (.cells #[a0,a1,a2,a3,a4,a5] T)).alloc Y).drew).heap.size (((w.alloc (.cells #[a0,a1,a2,a3,a4,a5] T)).alloc Y).drew) w1) :
 (w1.cell? ⟨w.heap.size,0,none⟩=some a0/\w1.cell? ⟨w.heap.size,1,none⟩=some a1/\w1.cell? ⟨w.heap.size,2,none⟩=some a2/\w1.cell? ⟨w.heap.size,3,none⟩=some a3/\w1.cell? ⟨w.heap.size,4,none⟩=some a4/\w1.cell? ⟨w.heap.size,5,none⟩=some a5) /\
 (w1.frozen? ⟨w.heap.size,0,none⟩=false/\w1.frozen? ⟨w.heap.size,1,none⟩=false/\w1.frozen? ⟨w.heap.size,2,none⟩=false/\w1.frozen? ⟨w.heap.size,3,none⟩=false/\w1.frozen? ⟨w.heap.size,4,none⟩=false/\w1.frozen? ⟨w.heap.size,5,none⟩=false) /\
 w.heap.size<w1.heap.size:=by
 have e:(((w.alloc (.cells #[a0,a1,a2,a3,a4,a5] T)).alloc Y).drew).heap.size=w.heap.size+1+1:=sM;have hz:=HB.size;rw[e] at hz;have c:=fun o=>HB.cell (p:=⟨w.heap.size,o,none⟩) (by rw[e];show w.heap.size<_;omega)
 have f:=fun o=>HB.frozen (p:=⟨w.heap.size,o,none⟩) (by rw[e];show w.heap.size<_;omega)
 refine⟨⟨?_,?_,?_,?_,?_,?_⟩,⟨?_,?_,?_,?_,?_,?_⟩,oM⟩
 all_goals first|rw[c]|rw[f]
 all_goals simp
theorem rm{w:World}{base base' size n:Nat}{e:TypeId}{v:Value}{xs:List Value}(h:w.ownsRow base e size v n xs)(hb:base'<=base):w.ownsRow base' e size v n xs :=
 ⟨h.1,h.2.elim il (fun⟨g,cap,cur,hv,hg,r⟩=>ir ⟨g,cap,cur,hv,abb hb hg,r⟩)⟩
theorem iy{w:World}{base size n:Nat}{e:TypeId}{v:Value}{xs:List Value}(h:w.ownsRow base e size v n xs):w.drew.ownsRow base e size v n xs:=h
theorem Gs(b o n c i:Nat)(w:World)(au:i<n)(qW:¬c=i+1):(Instr.slice 47 (.slice (some ⟨b,o,none⟩) n c) (some (i6 ((i:Int)+1))) none none).run prog w=.ok (.slice (some ⟨b,o+(i+1)*6,none⟩) (n-(i+1)) (c-(i+1))) w:=by
 have h1:(0:Int)<=(i:Int)+1:=oM;have h2:(i:Int)+1<=(n:Int):=oM
 simp[go_sem,h1,h2,qW]
theorem EB(b o n c i:Nat)(w:World)(au:i<n)(bS:n<=c):(Instr.slice 47 (.slice (some ⟨b,o,none⟩) n c) none (some (i6 (i:Int))) none).run prog w=.ok (.slice (some ⟨b,o,none⟩) i c) w:=by
 have h2:i<=c:=oM
 simp[go_sem,h2]
theorem Ji(b o n i:Nat)(w:World)(au:n=i+1):(Instr.slice 47 (.slice (some ⟨b,o,none⟩) n (i+1)) (some (i6 ((i:Int)+1))) none none).run prog w=.ok (.slice (some ⟨b,o,none⟩) 0 0) w:=by
 subst au;have h1:(0:Int)<=(i:Int)+1:=oM
 simp[go_sem,h1]
theorem Vj(l1 l3:List Rq)(r:Rq)(b o c:Nat)(w:World)(hl:aW w (some ⟨b,o,none⟩) (l1++[r]++l3))(mj:(l1++[r]++l3).length<=100000)(bS:(l1++[r]++l3).length<=c)
 (n i:Nat) (hn:n=(l1++[r]++l3).length) (hi:i=l1.length) (qW:¬c=i+1) :
 Calls prog 85 #[.slice (some ⟨b,o,none⟩) n c,i6 i] w fun e w'=>∃v,e=.returned (.tuple #[v,r.val])/\w'.ownsRow w.heap.size 146 6 v (n-1) (a8 (l1++l3))/\bL w w':=by
 have nW:n=l1.length+1+l3.length:=by rw[hn];simp;omega
 have au:i<n:=oM;have Tk:l1.length<(l1++[r]++l3).length:=sM;obtain⟨c0,c1,c2,c3,c4,c5⟩:=hl.cells Tk;have er:(l1++[r]++l3)[l1.length]=r:=sM;rw[er,<-hi] at c0 c1 c2 c3 c4 c5;have l0:=aq c0;have i0:decide ((i:Int)<0)=false:=aa9 oM;have i1:decide ((n:Int)<=(i:Int))=false:=aa9 oM;rw[<-hn] at bS mj;have yi:n-(i+1)=l3.length:=oM;have R1:gg w 6 (some ⟨b,o,none⟩) i c (a8 l1):=by
  have:=hl.row (c:=c) [] l1 ([r]++l3) sM;rw[hi];simpa using this
 have R2:gg w 6 (some ⟨b,o+(i+1)*6,none⟩) (n-(i+1)) (c-(i+1)) (a8 l3):=by
  have:=hl.row (c:=c-(i+1)) (l1++[r]) l3 [] sM;rw[aaQ,abl,<-hi] at this;rw[yi];exact this
 have H0:Hid (n=(l1++[r]++l3).length/\i=l1.length/\n=l1.length+1+l3.length/\n-(i+1)=l3.length):=⟨hn,hi,nW,yi⟩
 clear hn hi nW yi er Tk hl;have HH:Hid (a8 l1++a8 l3=a8 (l1++l3)/\i+(n-(i+1))=n-1):=⟨(fI _ _).symm,oM⟩
 have sW:IntKind.i64.wrap ((i:Int)+1)=(i:Int)+1:=by rw[abr];omega
 have Ek:=fun w=>EB b o n c i w au bS
 have Av:=fun w=>Gs b o n c i w au qW
 go_enter func85,ntmps85;go_wp2_with fail
 go_region_with (go_at_call 122;refine(yN (w.heap.size+1) 0 (some ⟨b,o,none⟩) (some ⟨b,o+(i+1)*6,none⟩) i (n-(i+1)) c (c-(i+1)) (a8 l1) (a8 l3) _ sM sM (R1.later bQ) (R2.later bQ) oM oM).mono ?_;rintro e w1 ⟨v,rfl,bu,HB⟩;obtain⟨⟨p0,p1,p2,p3,p4,p5⟩,⟨f0,f1,f2,f3,f4,f5⟩,z0⟩:=adu HB;have zb:bL w w1:=af (aj (jo _ _ _)) HB;have d0:=aF zb c0;have d1:=aF zb c1;have d2:=aF zb c2;have d3:=aF zb c3;have d4:=aF zb c4;have d5:=aF zb c5;have l1':b<w1.heap.size:=aq d0)
 all_goals
  go_wp2;refine aaY (v:=.tuple #[v,r.val]) ?_ rfl ⟨v,rfl,?_,bQ⟩
  ·simp[results,results85,go_sem,p0,p1,p2,p3,p4,p5]
  ·rw[HH.out.1,HH.out.2] at bu;have hz:w.heap.size<((((w.alloc (.cells #[Value.bool false,Value.int .i64 0,Value.int .i64 0,Value.slice none 0 0,Value.slice none 0 0,Value.int .i64 0] 146)).alloc (.cells #[Value.slice (some ⟨b,o,none⟩) i c,Value.slice (some ⟨b,o+(i+1)*6,none⟩) (n-(i+1)) (c-(i+1))] 47)).drew).heap.size):=by simp;omega
   exact rm (acz (acz (acz (acz (acz (acz bu hz _) hz _) hz _) hz _) hz _) hz _) (agw hz)
theorem X0(l1 l3:List Rq)(r:Rq)(b o c:Nat)(w:World)(hl:aW w (some ⟨b,o,none⟩) (l1++[r]++l3))(mj:(l1++[r]++l3).length<=100000)(bS:(l1++[r]++l3).length<=c)
 (n i:Nat) (hn:n=(l1++[r]++l3).length) (hi:i=l1.length) (qW:c=i+1) :
 Calls prog 85 #[.slice (some ⟨b,o,none⟩) n c,i6 i] w fun e w'=>∃v,e=.returned (.tuple #[v,r.val])/\w'.ownsRow w.heap.size 146 6 v (n-1) (a8 (l1++l3))/\bL w w':=by
 have nW:n=l1.length+1+l3.length:=by rw[hn];simp;omega
 have au:i<n:=oM;have Tk:l1.length<(l1++[r]++l3).length:=sM;obtain⟨c0,c1,c2,c3,c4,c5⟩:=hl.cells Tk;have er:(l1++[r]++l3)[l1.length]=r:=sM;rw[er,<-hi] at c0 c1 c2 c3 c4 c5;have l0:=aq c0;have i0:decide ((i:Int)<0)=false:=aa9 oM;have i1:decide ((n:Int)<=(i:Int))=false:=aa9 oM;rw[<-hn] at bS mj;have yi:n-(i+1)=l3.length:=oM;have R1:gg w 6 (some ⟨b,o,none⟩) i c (a8 l1):=by
  have:=hl.row (c:=c) [] l1 ([r]++l3) sM;rw[hi];simpa using this
 have Tw:n=i+1:=oM;have e3:l3=[]:=aaZ oM;have R2:gg w 6 (some ⟨b,o,none⟩) 0 0 (a8 l3):=by
  rw[e3];exact⟨rfl,by simp[a8],ir ⟨_,rfl,fun j u h=>by simp[a8] at h⟩⟩
 have H0:Hid (n=(l1++[r]++l3).length/\i=l1.length/\n=l1.length+1+l3.length/\n-(i+1)=l3.length):=⟨hn,hi,nW,yi⟩
 clear hn hi nW yi er Tk hl;have HH:Hid (a8 l1++a8 l3=a8 (l1++l3)/\i+0=n-1):=⟨(fI _ _).symm,oM⟩
 subst qW;have sW:IntKind.i64.wrap ((i:Int)+1)=(i:Int)+1:=by rw[abr];omega
 have Ek:=fun w=>EB b o n (i+1) i w au bS
 have Av:=fun w=>Ji b o n i w Tw
 clear Tw e3;go_enter func85,ntmps85;go_wp2_with fail
 go_region_with (go_at_call 122;refine(yN (w.heap.size+1) 0 (some ⟨b,o,none⟩) (some ⟨b,o,none⟩) i 0 (i+1) 0 (a8 l1) (a8 l3) _ sM sM (R1.later bQ) (R2.later bQ) oM oM).mono ?_;rintro e w1 ⟨v,rfl,bu,HB⟩;obtain⟨⟨p0,p1,p2,p3,p4,p5⟩,⟨f0,f1,f2,f3,f4,f5⟩,z0⟩:=adu HB;have zb:bL w w1:=af (aj (jo _ _ _)) HB;have d0:=aF zb c0;have d1:=aF zb c1;have d2:=aF zb c2;have d3:=aF zb c3;have d4:=aF zb c4;have d5:=aF zb c5;have l1':b<w1.heap.size:=aq d0)
 all_goals
  go_wp2;refine aaY (v:=.tuple #[v,r.val]) ?_ rfl ⟨v,rfl,?_,bQ⟩
  ·simp[results,results85,go_sem,p0,p1,p2,p3,p4,p5]
  ·rw[HH.out.1,HH.out.2] at bu;have hz:w.heap.size<((((w.alloc (.cells #[Value.bool false,Value.int .i64 0,Value.int .i64 0,Value.slice none 0 0,Value.slice none 0 0,Value.int .i64 0] 146)).alloc (.cells #[Value.slice (some ⟨b,o,none⟩) i (i+1),Value.slice (some ⟨b,o,none⟩) 0 0] 47)).drew).heap.size):=by simp;omega
   exact rm (acz (acz (acz (acz (acz (acz bu hz _) hz _) hz _) hz _) hz _) hz _) (agw hz)
theorem XZ(l:List Rq)(b o c:Nat)(w:World)(hl:aW w (some ⟨b,o,none⟩) l)(mj:l.length<=100000)(bS:l.length<=c)(i:Nat)(hi:i<l.length) :
 Calls prog 85 #[.slice (some ⟨b,o,none⟩) l.length c,i6 i] w fun e w'=>∃v,e=.returned (.tuple #[v,l[i].val])/\w'.ownsRow w.heap.size 146 6 v (l.length-1) (a8 (l.take i++l.drop (i+1)))/\bL w w':=by
 have e:l=l.take i++[l[i]]++l.drop (i+1):=by
  rw[abp,afF,afW,ab8]
 have wY:=hl;rw[e] at wY;have e1:i=(l.take i).length:=by rw[abm];omega
 have e2:l.length=(l.take i++[l[i]]++l.drop (i+1)).length:=by rw[<-e]
 by_cases qW:c=i+1
 ·exact X0 (l.take i) (l.drop (i+1)) l[i] b o c w wY oM oM l.length i e2 e1 qW
 ·exact Vj (l.take i) (l.drop (i+1)) l[i] b o c w wY oM oM l.length i e2 e1 qW
abbrev nh:Value:=.agg #[.bool false,i6 0,i6 0,.slice none 0 0,.slice none 0 0,i6 0]
theorem aaC{w w1:World}{a0 a1 a2 a3 a4 a5:Value}{T:TypeId}(HB:Below (w.alloc (.cells #[a0,a1,a2,a3,a4,a5] T)).heap.size (w.alloc (.cells #[a0,a1,a2,a3,a4,a5] T)) w1) :
 w1.cell? ⟨w.heap.size,0,none⟩=some a0/\w1.cell? ⟨w.heap.size,1,none⟩=some a1/\w1.cell? ⟨w.heap.size,2,none⟩=some a2/\w1.cell? ⟨w.heap.size,3,none⟩=some a3/\w1.cell? ⟨w.heap.size,4,none⟩=some a4/\w1.cell? ⟨w.heap.size,5,none⟩=some a5:=by
 have c:=fun o=>HB.cell (p:=⟨w.heap.size,o,none⟩) (by simp only[aaW];omega)
 refine⟨?_,?_,?_,?_,?_,?_⟩
 all_goals rw[c]
 all_goals simp
theorem zT(a b:Rq)(w:World)(ha:bz a)(hb:bz b)(t:Bool)(ht:gy a b=t) :
 Calls prog 205 #[a.val,b.val] w (rB (.bool t) w):=by
 subst ht;exact aaI a b w ha hb
theorem W5(a b:Rq)(w:World)(ha:bz a)(hb:bz b)(h1:(wrap64 (b.f+b.m)==a.f)=false)(h2:gy a b=false) :
 Calls prog 175 #[a.val,b.val] w (rB (.tuple #[nh,.bool false]) w):=by
 go_enter func175,ntmps175;go_wp2_with fail
 go_at_call 204;refine cM (o4 _ _ _ _ _ _ h1) ?_;intro w1 hb;(try clear hc hf hz);(first|replace HB:=af HB hb|replace HB:=af (aj HB) hb|have HB:=hb);clear hb;obtain⟨hc,hf,hz⟩:=br HB
 go_wp2_with fail
 go_at_call 205;refine cM (zT a b _ ha hb _ h2) ?_;intro w1 hb;(try clear hc hf hz);(first|replace HB:=af HB hb|replace HB:=af (aj HB) hb|have HB:=hb);clear hb;obtain⟨hc,hf,hz⟩:=br HB
 go_wp2;refine aaY (v:=.tuple #[nh,.bool false]) ?_ rfl ⟨rfl,bQ⟩;have m:=aaC HB;rw[aaW,aaW] at m;obtain⟨m0,m1,m2,m3,m4,m5⟩:=m;clear hc hf hz HB
 simp[results,results175,go_sem,m0,m1,m2,m3,m4,m5]
theorem wX{p:Prop}(h:p):Hid p:=h
def B7(p:Rq->Bool)(l:List Rq):Int:=match l.findIdx? p with|some k=>(k:Int)|none=>-1
theorem Qc{p:Rq->Bool}{l:List Rq}{k:Nat}(h:k<l.length)(hp:p l[k]=true)(hb:∀j (hj:j<k),p (l[j]'oM)=false):B7 p l=k:=by
 have:l.findIdx? p=some k:=by
  rw[abX];exact⟨h,hp,fun j hj=>by rw[hb j hj];exact aa7⟩
 rw[B7,this]
theorem TJ{p:Rq->Bool}{l:List Rq}(h:∀j (hj:j<l.length),p l[j]=false):B7 p l=-1:=by
 have:l.findIdx? p=none:=by
  rw[acy];intro x hx;obtain⟨j,hj,rfl⟩:=abM hx;exact h j hj
 rw[B7,this]
theorem WL(p:Rq->Bool)(l:List Rq):decide (0<=B7 p l)=l.any p:=by
 cases e:l.findIdx? p with
 |none =>
  rw[B7,e];rw[acy] at e;have:l.any p=false:=by rw[afZ];intro x hx;rw[e x hx];exact aa7
  rw[this];rfl
 |some k =>
  rw[B7,e];rw[abX] at e;obtain⟨h1,h2,_⟩:=e;have:l.any p=true:=by rw[afo];exact⟨l[k],aa5 h1,h2⟩
  rw[this];simp
theorem Qh(g:Nat)(eg:∀args w,(callFunc g args).run prog w=.ok (.enter g args) w)(cp:Value)(p:Rq->Bool)(l:List Rq)(a:Option Addr)(c:Nat)(w:World)(hl:aW w a l)
 (hp:∀(x:Rq) w',x∈l->bL w w'->Calls prog g #[x.val,cp] w' (rB (.bool (p x)) w')) :
 Calls prog 169 #[.slice a l.length c,.func (.func g) #[] #[cp]] w (rB (i6 (B7 p l)) w):=by
 have bo:=hl.2.2
 rcases hl.form with rfl|⟨b,o,rfl⟩
 ·clear hp;go_enter func169,ntmps169;go_wp2
  go_loop [8] (fun i=>i=i6 0) (fun _=>0)
  case atStart=>rfl
  case round =>
   subst hrel;go_wp2;go_ret;exact⟨rfl,bQ⟩
 have HP:=wX hp;clear hp;go_enter func169,ntmps169;go_wp2
 go_loopw[8] (fun i wr=>∃k:Nat,k<=l.length/\i=i6 k/\(∀j (hj:j<l.length),j<k->p l[j]=false)/\bL w wr) (fun i _=>l.length-(intOf i).toNat)
 case atStart=>exact⟨0,oM,rfl,fun j hj h=>absurd h (aa0 _),aX _ _⟩
 case round =>
  obtain⟨k,hk,rfl,dV,HB⟩:=hrel;have HN:=wX dV;clear dV
  by_cases au:k<l.length
  ·obtain⟨c0,c1,c2,c3,c4,c5⟩:=(hl.later HB).cells au;have hq:=HP.out l[k] wr (aa5 au) HB
   cases kb:p l[k]
   ·rw[kb] at hq;have HQ:=wX hq;clear hq;go_wp2_with fail;refine afT HQ.out ?_;rintro e w1 ⟨rfl,hb⟩;go_wp2;go_roundw
    case rel=>exact⟨k+1,oM,gN,fun j hj h=>by by_cases e:j=k;(subst e;exact kb);exact HN.out j hj oM,af HB hb⟩
    case measure=>simp[intOf];omega
   ·rw[kb] at hq;have HQ:=wX hq;clear hq;go_wp2_with fail;refine afT HQ.out ?_;rintro e w1 ⟨rfl,hb⟩;go_wp2;go_ret;exact⟨jI (Qc au kb (fun j hj=>HN.out j oM hj)).symm,af HB hb⟩
  ·go_wp2;go_ret;exact⟨jI (TJ (fun j hj=>HN.out j hj oM)).symm,HB⟩
theorem vf(g:Nat)(eg:∀args w,(callFunc g args).run prog w=.ok (.enter g args) w)(cp:Value)(p:Rq->Bool)(l:List Rq)(a:Option Addr)(c:Nat)(w:World)(hl:aW w a l)
 (hp:∀(x:Rq) w',x∈l->bL w w'->Calls prog g #[x.val,cp] w' (rB (.bool (p x)) w')) (t:Bool) (ht:l.any p=t) :
 Calls prog 124 #[.slice a l.length c,.func (.func g) #[] #[cp]] w (rB (.bool t) w):=by
 have HT:=wX ((WL p l).trans ht);clear ht;have HP:=wX hp;clear hp;go_enter func124,ntmps124;go_wp2_with fail;refine cM (Qh g eg cp p l a c _ hl HP.out) ?_;intro w1 HB;go_wp2;go_ret;exact⟨ey HT.out,bQ⟩
theorem IZ(x r:Rq)(pb:Nat)(w:World)(h1:w.cell? ⟨pb,1,none⟩=some (i6 r.f))(h2:w.cell? ⟨pb,2,none⟩=some (i6 r.m)) :
 Calls prog 173 #[x.val,.pointer (some ⟨pb,0,none⟩)] w (rB (.bool (yx x.f x.m r.f r.m)) w):=by
 have tH:=dU h1;have pq:=dU h2;go_enter func173,ntmps173;go_wp2_with fail
 go_at_call 174;refine cM (Z9 _ _ _ _ _ _ rfl) ?_;intro w1 hb;(try clear hc hf hz);(first|replace HB:=af HB hb|replace HB:=af (aj HB) hb|have HB:=hb);clear hb;obtain⟨hc,hf,hz⟩:=br HB
 go_wp2;go_ret;exact⟨rfl,bQ⟩
structure np(base:Nat)(w:World)(a:Option Addr)(c:Nat)(l:List Rq):Prop where
 here:aW w a l
 cap:l.length<=c
 KF:c<=9223372036854775807
 nil:a=none->c=0
 own:w.ownsRow base 146 6 (.slice a l.length c) l.length (a8 l)
theorem mw{w:World}{base:Nat}{v:Value}{l:List Rq}{n:Nat}(h:w.ownsRow base 146 6 v n (a8 l))(eB:∀r∈l,r.At w)(hn:n=l.length)(hb:l.length<=9223372036854775807) :
 ∃a c,v=.slice a l.length c/\np base w a c l:=by
 have h':=h;obtain⟨a,c,rfl,h1,h2,h3,h4,_⟩:=rF h eB hn hb;subst hn;exact⟨a,c,rfl,⟨h1,h2,h3,h4,h'⟩⟩
theorem np.place{base:Nat}{w:World}{a:Option Addr}{c:Nat}{l:List Rq}(h:np base w a c l)(hl:l ≠ []):∃b,a=some ⟨b,0,none⟩/\base<=b/\b<w.heap.size/\∀o,w.frozen? ⟨b,o,none⟩=false:=by
 rcases h.own.2 with⟨h1,h2⟩|⟨g,cap,cur,h1,hg,hh,jO,ig,hcs,ht⟩
 ·exact absurd (aaZ h2) hl
 ·simp only[abV] at h1;refine⟨g,h1.1,hg,?_,fun o=>by simp[World.frozen?,hh]⟩
  rcases adI g w.heap.size with h'|h'
  ·exact h'
  ·rw[ac9 h'] at hh;cases hh
theorem aW.C7{w:World}{a:Option Addr}{c:Nat}{l:List Rq}(h:aW w a l)(hn:a=none->c=0):gg w 6 a l.length c (a8 l):=by
 rcases h.1 with rfl|⟨b,o,rfl,hc⟩
 ·cases a with
  |none=>exact⟨rfl,by simp[a8],il ⟨rfl,rfl,hn rfl⟩⟩
  |some ad=>exact⟨rfl,by simp[a8],ir ⟨ad,rfl,fun j u h=>by simp[a8] at h⟩⟩
 ·have:=h.row (c:=c) [] l [] sM
  simpa using this
theorem E6(l:List Rq)(a:Option Addr)(c:Nat)(w:World)(hl:aW w a l)(hn:a=none->c=0)(mj:l.length<=100000) :
 Calls prog 93 #[.slice a l.length c] w fun e w'=>∃a' c',e=.returned (.slice a' l.length c')/\np w.heap.size w' a' c' l/\bL w w':=by
 obtain⟨i,hi,de,cC,cF⟩:=eS uy;have R:=hl.C7 hn;have q22:∀(w:World) (a:Option Addr) (n c n' c':Nat),(binOp .eql 47 (.slice a n c) (.slice none n' c')).run prog w=.ok (.bool a.isNone) w:=fun w a n c n' c'=>ags w _ _ a n c n' c' underlying47
 cases a with
 |none =>
  obtain rfl:=hn rfl;have BY:l=[]:=by
   rcases hl.form with h|⟨b,o,h⟩
   ·exact h
   ·cases h
  subst BY;go_enter func93,ntmps93;go_wp2;go_ret;exact⟨none,0,rfl,⟨⟨il rfl,sM,sM⟩,sM,sM,fun _=>rfl,abg _ _ _ _⟩,bQ⟩
 |some ad =>
  go_enter func93,ntmps93;go_wp2_with(at_builtin;refine aP rfl _ _ 47 rfl w.heap.size 146 i _ 6 80 underlying47 hi de cC cF rfl dM _ 0 [] rfl (agG _ _ _ (aaO _) (by unfold maxLen;omega) sM) (some ad) l.length c (a8 l) rfl (R.later bQ) (by unfold maxLen;omega) oM sM ?_;intro v1 w2 aO aw);rw[abc,abJ] at aO;have HB:bL w w2:=(ah (aX _ _) _).trans aw;obtain⟨a',c',rfl,hN⟩:=mw aO (fun r hr=>(hl.2.1 r hr).later HB) rfl oM;go_wp2;go_ret;exact⟨a',c',rfl,hN,HB⟩
def n8(base:Nat)(a:Option Addr)(c n:Nat):Prop:=(a=none->c=0)/\n<=c/\∀p,a=some p->base<=p.block
theorem n8.mono{b b':Nat}{a:Option Addr}{c n:Nat}(h:n8 b a c n)(hb:b'<=b):n8 b' a c n:=⟨h.1,h.2.1,fun p hp=>abb hb (h.2.2 p hp)⟩
theorem I1{w:World}{base e size n c:Nat}{a:Option Addr}{xs:List Value}(h:w.ownsRow base e size (.slice a n c) n xs):∀p,a=some p->base<=p.block:=by
 rintro p rfl
 rcases h.2 with⟨h1,_⟩|⟨g,cap,cur,h1,hg,_⟩
 ·cases h1
 ·simp only[abV,aa4] at h1;rw[h1.1];exact hg
theorem fH.newAt{base:Nat}{w:World}{a:Option Addr}{c:Nat}{l:List Bf}(h:fH base w a c l):n8 base a c l.length:=⟨h.nil,h.cap,I1 h.own⟩
theorem np.newAt{base:Nat}{w:World}{a:Option Addr}{c:Nat}{l:List Rq}(h:np base w a c l):n8 base a c l.length:=⟨h.nil,h.cap,I1 h.own⟩
end Go.Proofs.YtlhgjplipgandaaGreatDoor
