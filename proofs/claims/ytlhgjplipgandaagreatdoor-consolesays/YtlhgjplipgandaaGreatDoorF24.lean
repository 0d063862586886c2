/- Joined. -/
import Derived.Test.YtlhgjplipgandaaGreatDoorF23
set_option maxRecDepth 100000
set_option maxHeartbeats 8000000
set_option linter.unusedSimpArgs false
set_option linter.unusedSectionVars false
namespace Go.Proofs.YtlhgjplipgandaaGreatDoor
open Tryz
section
open Go.RowKit Go.BigFrame Go.Maps
def gT(l:List Rq)(n:Int):Bool:=l.any fun r=>dO r.f r.m n
def mB(w:World)(hb:Nat)(l:List Rq):Prop:=∃a c,w.cell? ⟨hb,0,none⟩=some (.slice a l.length c)/\aW w a l
theorem mB.later{w w':World}{hb:Nat}{l:List Rq}(h:mB w hb l)(k:bL w w'):mB w' hb l:=by
 obtain⟨a,c,h1,h2⟩:=h;exact⟨a,c,ai k h1,h2.later k⟩
theorem Tx(x:Rq)(pb:Nat)(n:Int)(w:World)(h:w.cell? ⟨pb,0,none⟩=some (i6 n)) :
 Calls prog 125 #[x.val,.pointer (some ⟨pb,0,none⟩)] w (rB (.bool (dO x.f x.m n)) w):=by
 have h':=dU h;have hl:=aq h;go_enter func125,ntmps125;go_wp2_with fail;refine cM (sI x.f x.m n _ _ rfl) ?_;intro w1 aw;go_wp2;go_ret;exact⟨rfl,bQ⟩
theorem uS(hb:Nat)(l:List Rq)(n:Int)(w:World)(h:mB w hb l) :
 Calls prog 123 #[i6 n,.pointer (some ⟨hb,0,none⟩)] w (rB (.bool (gT l n)) w):=by
 obtain⟨a,c,h1,h2⟩:=h;have tH:=dU h1;have hl:=aq h1;have H2:=ae h2;have HE:Hid (l.any (fun r=>dO r.f r.m n)=gT l n):=ae rfl;clear h2;generalize gT l n=t at *;go_enter func123,ntmps123;go_wp2_with fail;refine cM (vf 125 (by intro args w;go_simp) (.pointer (some ⟨w.heap.size,0,none⟩)) (fun r=>dO r.f r.m n) l a c (w.alloc (.cells #[i6 n] 3)) (H2.out.later bQ) (fun x w' _ hJ=>Tx x w.heap.size n w' (ai hJ sM)) t HE.out) ?_;intro w1 aw;go_wp2;go_ret;exact⟨rfl,bQ⟩
theorem ZV{w w2 w3:World}{base hb c2:Nat}{a2:Option Addr}{l:List Rq}(hN:np base w2 a2 c2 l)(hAt:∀r∈l,r.At w)(jQ:hb<base\/w2.heap.size<=hb)(hO:aH (fun k=>k=hb) w2 w3)(hc:w3.cell? ⟨hb,0,none⟩=some (.slice a2 l.length c2))(hB:bL w w3):mB w3 hb l:=by
 refine⟨a2,c2,hc,?_,fun r hr=>(hAt r hr).later hB,hN.here.2.2⟩
 rcases hN.here.1 with h|⟨b,o,ha,fR⟩
 ·exact il h
 ·refine ir ⟨b,o,ha,fun i hi j hj=>?_⟩;have h1:=fR i hi j hj;have h2:=aq h1;have h3:=(hN.own.lt b (by rw[ha];rfl)).1;rw[hO.cell (p:=⟨b,o+i*6+j,none⟩) h2 (show ¬b=hb from oM)];exact h1
theorem rK(s:Nat)(p:Sk)(A:Sa)(w:World)(h:bp s p A w)(h6:p.queue.length<=1000) :
 Calls prog 80 #[.pointer (some ⟨s,0,none⟩)] w fun e w'=>∃hb,e=.returned (.func (.func 123) #[] #[.pointer (some ⟨hb,0,none⟩)])/\mB w' hb (p.queue++p.dev.busy)/\bL w w':=by
 have c0:=h.cell 0 _ rfl;have c1:=h.cell 21 _ rfl;have hl:=h.lt;have HL:=ae h.gQ;have HD:=ae h.mem.cE.dev;have HQ:=ae h.mem.queue;have xN:=ae (h.mem.queue.C7 h.mem.fe);have iJ:Hid (∀r∈p.queue++p.dev.busy,r.At w):=fun r hr=>(abh.1 hr).elim (h.mem.queue.2.1 r) (fun hr=>(h.mem.cE.dev.reqs r hr).1)
 clear h;go_enter func80,ntmps80;go_wp2_with fail
 go_region_held3 (fun w'=>w'.cell? ⟨s,0,none⟩=some (.pointer (some ⟨A.b,0,none⟩))/\w'.cell? ⟨s,21,none⟩=some (.slice A.qa p.queue.length A.qc)) (exact⟨ai (w:=w) bQ c0,ai (w:=w) bQ c1⟩) (first|(go_at_call 94;refine(Af A.b p.dev A.an _ (HD.out.later bQ)).mono ?_;rintro e w1 ⟨a',c',rfl,hR,hn,aw⟩;have z1:w.heap.size<=w1.heap.size:=(show bL w w1 from bQ).size;(try(obtain⟨k1a,k1b⟩:w1.cell? ⟨w.heap.size,0,none⟩=some (.slice none 0 0)/\w1.frozen? ⟨w.heap.size,0,none⟩=false;(focus((refine⟨(aw.cell (p:=⟨w.heap.size,0,none⟩) ?_).trans ?_,(aw.frozen (p:=⟨w.heap.size,0,none⟩) ?_).trans ?_⟩);(all_goals simp);(all_goals omega))))))|(go_at_call 122;refine(yN _ 0 A.qa a' p.queue.length p.dev.busy.length A.qc c' (a8 p.queue) (a8 p.dev.busy) _ sM sM (xN.out.later bQ) ((hR.C7 hn).later bQ) oM (by have:=HL.out;omega)).mono ?_;rintro e w2 ⟨v,rfl,bu,aC⟩;rw[<-fI] at bu;obtain⟨a2,c2,rfl,tI⟩:=mw (l:=p.queue++p.dev.busy) bu (fun r hr=>(iJ.out r hr).later bQ) sM (by have:=HL.out;simp;omega);have ko:=ae tI;have z2:w.heap.size<=w2.heap.size:=(show bL w w2 from bQ).size;clear tI bu;(try(obtain⟨k2a,k2b⟩:w2.cell? ⟨w.heap.size,0,none⟩=some (.slice none 0 0)/\w2.frozen? ⟨w.heap.size,0,none⟩=false;(focus exact⟨ai (w:=w1) bQ k1a,oG (w:=w1) bQ (aq k1a) k1b⟩)));(try(obtain⟨k3a,k3b⟩:w2.cell? ⟨w1.heap.size,0,none⟩=some (.slice none 0 0)/\w2.frozen? ⟨w1.heap.size,0,none⟩=false;(focus((refine⟨(aC.cell (p:=⟨w1.heap.size,0,none⟩) ?_).trans ?_,(aC.frozen (p:=⟨w1.heap.size,0,none⟩) ?_).trans ?_⟩);(all_goals simp);(all_goals omega)))));(try(obtain⟨k4a,k4b⟩:w2.cell? ⟨w1.heap.size+1,0,none⟩=some (.slice none 0 0)/\w2.frozen? ⟨w1.heap.size+1,0,none⟩=false;(focus((refine⟨(aC.cell (p:=⟨w1.heap.size+1,0,none⟩) ?_).trans ?_,(aC.frozen (p:=⟨w1.heap.size+1,0,none⟩) ?_).trans ?_⟩);(all_goals simp);(all_goals omega)))))))
 all_goals
  go_wp2;go_ret;refine⟨_,rfl,ZV ko.out iJ.out ?_ ?_ ?_ ?_,?_⟩
  ·first|(left;simp;done)|(left;simp;omega)|(right;simp;done)
  ·first|exact aH.xx _|(refine aH.cj ?_;exact bQ)
  ·rw[aaQ]
   first|(simp;done)|exact aa2 _ _ _ aM
  ·exact bQ
  ·exact bQ
section
variable{s:Nat}{p p':Sk}{A A':Sa}{w w':World}
theorem dk.yR(hm:dk s p' A' w)(hO:aH (fun k=>k=s) w w')(hb:w'.heap[s]?=some (.cells (p'.cells A').toArray 127 (0,0)))(hf:∀k,A'.ay s k->A.ay s k)(vK:A'.b=A.b/\A'.v=A.v/\A'.bm=A.bm/\A'.X=A.X):bK s p A p' A' w w' :=
 ⟨⟨hb,hm.frame hO (fun _ _ aE=>aE) (fun e=>hm.sv.2 e.symm) (fun aE q hq e=>hm.eX aE q hq (il e)) (fun aE q hq e=>hm.km aE q hq (il e)) (fun r hr=>⟨fun he ad ha e=>(hm.eY r hr).1 he ad ha (il e),fun he ad ha e=>(hm.eY r hr).2 he ad ha (il e)⟩)⟩,hO.mono (fun _ e=>il e),fun k hk=>il (hf k hk),vK⟩
def Sa.drop(A:Sa)(i:Nat):Sa:={ A with la:=fun j=>if j=i then none else A.la j,lc:=fun j=>if j=i then 0 else A.lc j }
theorem Sa.Ir(A:Sa)(i k:Nat)(h:(A.drop i).ay s k):A.ay s k:=by
 rcases h with h|h|⟨j,hj,q,hq,e⟩
 ·exact il h
 ·exact ir (il h)
 ·by_cases kK:j=i
  ·simp only[Sa.drop,aaV kK] at hq;cases hq
  ·simp only[Sa.drop,aaP kK] at hq;exact ir (ir ⟨j,hj,q,hq,e⟩)
theorem Sa.Al(A:Sa)(i k:Nat)(h:(A.drop i).off s k):A.off s k:=h.imp (A.Ir i k) id
theorem fP(hl:p.cl.length=3){i j:Nat}(hi:i<3)(c:Cl):({ p with cl:=p.cl.set i c }:Sk).ao j=if j=i then c else p.ao j:=by
 unfold Sk.ao
 by_cases h:j=i
 ·subst h;rw[aaV rfl]
  simp[List.getD,hl,hi]
 ·rw[aaP h]
  simp[List.getD,Ne.symm h]
theorem dk.drop(h:dk s p A w)(hl:p.cl.length=3){i:Nat}(hi:i<3)(c:Cl)(hc:c.left=[]):dk s { p with cl:=p.cl.set i c } (A.drop i) w where
 cE:=h.cE
 map:=h.map
 im:=h.im
 nb:=h.nb
 hand:=h.hand
 cU:=h.cU
 bS:=h.bS
 queue:=h.queue
 fe:=h.fe
 fA:=h.fA
 left:=fun j hj=>by
  rw[fP hl hi]
  by_cases kK:j=i
  ·simp only[Sa.drop,aaV kK,hc];exact abg _ _ _ _
  ·simp only[Sa.drop,aaP kK];exact h.left j hj
 sv:=h.sv
 vl:=fun j hj q hq=>by
  by_cases kK:j=i
  ·simp only[Sa.drop,aaV kK] at hq;cases hq
  ·simp only[Sa.drop,aaP kK] at hq;exact h.vl j hj q hq
 ll:=fun j k hj hk aE q q' hq cI=>by
  by_cases kK:j=i
  ·simp only[Sa.drop,aaV kK] at hq;cases hq
  ·by_cases Lj:k=i
   ·simp only[Sa.drop,aaV Lj] at cI;cases cI
   ·simp only[Sa.drop,aaP kK] at hq;simp only[Sa.drop,aaP Lj] at cI;exact h.ll j k hj hk aE q q' hq cI
 ia:=fun aE q hq e=>h.ia aE q hq (A.Al i _ e)
 iH:=fun aE q hq e=>h.iH aE q hq (A.Al i _ e)
 fh:=fun r hr=>⟨fun he ad ha e=>(h.fh r hr).1 he ad ha (A.Al i _ e),fun he ad ha e=>(h.fh r hr).2 he ad ha (A.Al i _ e)⟩
 gW:=h.gW
end
def XP(w:World)(s o:Nat)(v0 v1 v2 v3 v4 v5:Value):World:=(((((w.setCell ⟨s,o,none⟩ v0).setCell ⟨s,o+1,none⟩ v1).setCell ⟨s,o+2,none⟩ v2).setCell ⟨s,o+3,none⟩ v3).setCell ⟨s,o+4,none⟩ v4).setCell ⟨s,o+5,none⟩ v5
theorem U0{s:Nat}{p:Sk}{A:Sa}{w:World}(h:bp s p A w)(hl:p.cl.length=3)(i:Nat)(hi:i<3)(data:ByteArray)(e:Int) :
 bK s p A (p.answer i data e) (A.drop i) w (XP w s (2+i*6) (i6 0) (i6 0) (.string bE) (.slice none 0 0) (.string data) (dm e)):=by
 refine(h.mem.drop hl hi ⟨0,0,bE,[],data,e⟩ rfl).yR ?_ ?_ (fun k hk=>A.Ir i k hk) ⟨rfl,rfl,rfl,rfl⟩
 ·unfold XP;exact((((((aH.refl (fun k=>k=s) w).setCell _ (il rfl) _).setCell _ (il rfl) _).setCell _ (il rfl) _).setCell _ (il rfl) _).setCell _ (il rfl) _).setCell _ (il rfl) _
 ·unfold XP;rw[bJ (bJ (bJ (bJ (bJ (bJ h.a7 _ _) _ _) _ _) _ _) _ _)]
  congr 2
  match i,hi with
  |0,hi=>simp[Sk.cells,Sk.head,Sk.tail,gL,fP hl hi,Sa.drop]
  |1,hi=>simp[Sk.cells,Sk.head,Sk.tail,gL,fP hl hi,Sa.drop]
  |2,hi=>simp[Sk.cells,Sk.head,Sk.tail,gL,fP hl hi,Sa.drop]
theorem bp.there{s:Nat}{p:Sk}{A:Sa}{w:World}(h:bp s p A w)(o n:Nat)(ho:o+n<=30):w.there s o n:=fun j hj=>by
 have hlen:(p.cells A).length=30:=rfl;rw[aR h.a7 (o+j),aaX oM];exact⟨rfl,cG h.a7 _⟩
theorem M1(e:Int):dm e=.nilIface\/dm e=.iface 87 (i6 e):=by
 unfold dm
 split
 ·exact il rfl
 ·exact ir rfl
theorem qj(s:Nat)(p:Sk)(A:Sa)(w:World)(h:bp s p A w)(hl:p.cl.length=3)(i:Nat)(hi:i<3)(data:ByteArray)(e:Int) :
 Calls prog 138 #[.pointer (some ⟨s,2+i*6,none⟩),.string data,dm e] w fun x w'=>x=.returned (.tuple #[])/\bK s p A (p.answer i data e) (A.drop i) w w':=by
 have HF:=ae (U0 h hl i hi data e);have HT:=ae (h.there (2+i*6) 6 oM);clear h
 rcases M1 e with he|he
 all_goals
  rw[he] at HF ⊢;clear he;go_enter func138,ntmps138;go_wp2_with(refine wpList_store_mid rfl 124 (.tmp 10) (.tmp 9) rfl s (2+i*6) #[i6 0,i6 0,.string bE,.slice none 0 0,.string data,_] rfl rfl HT.out kR (by simp[Value.oneCell']) ?_;simp only);go_end0;exact⟨rfl,HF.out⟩
theorem WT{o r q:Rq}(h:xJ o r q):q.nf=yv o.nf r.nf:=by
 have one:∀{a b:Rq},j6 a b q->q.nf=FK a.nf b.nf:=fun {a b} h=>by
  obtain⟨h1,h2,h3,h4,h5,h6⟩:=h;obtain⟨wr,f,m,da,dc,data,ta,tc,tags,born⟩:=q;simp only at h1 h2 h3 h4 h5 h6;simp only[Rq.nf,FK,h1,h2,h3,h4,h5,h6]
 unfold yv
 rcases h with⟨h1,h2⟩|⟨h1,_,h2⟩
 ·rw[aaV (show gy o.nf r.nf=true from h1)];exact one h2
 ·rw[aaP (by rw[show gy o.nf r.nf=false from h1];exact aa7)];exact one h2
theorem Kt(l:List Rq)(r:Rq):(l.map Rq.nf).any (iX r.nf)=l.any (iX r):=by
 rw[List.any_map];rfl
theorem TO(l:List Rq)(r:Rq):(l.map Rq.nf).findIdx? (fun o=>jx o r.nf)=l.findIdx? (fun o=>jx o r):=by
 rw[List.findIdx?_map];rfl
theorem E2{l:List Rq}{r:Rq}(h:l.any (iX r)=true):mP (l.map Rq.nf) r.nf=none:=by
 unfold mP;rw[Kt,aaV h]
theorem Ig{l:List Rq}{r:Rq}(hm:l.any (iX r)=false)(h:∀j (hj:j<l.length),jx l[j] r=false)(h6:6<=l.length):mP (l.map Rq.nf) r.nf=none:=by
 have e:l.findIdx? (fun o=>jx o r)=none:=by
  rw[acy];intro x hx;obtain⟨j,hj,rfl⟩:=abM hx;exact h j hj
 unfold mP;rw[Kt,aaP (by rw[hm];exact aa7),TO,e];simp only;rw[aaP (by rw[abe];omega)]
theorem CJ{base:Nat}{l L:List Rq}{r:Rq}(hm:l.any (iX r)=false)(h:Bk base l r L):mP (l.map Rq.nf) r.nf=some (L.map Rq.nf):=by
 unfold mP;rw[Kt,aaP (by rw[hm];exact aa7),TO]
 rcases h with⟨k,hk,q,hb,ht,hq,_,rfl⟩|⟨hb,h6,rfl⟩
 ·have e:l.findIdx? (fun o=>jx o r)=some k:=by
   rw[abX];exact⟨hk,ht,fun j hj=>by rw[hb j oM hj];exact aa7⟩
  rw[e];simp only;rw[agd,WT hq]
  congr 3
  rw[abd,acq,aaX hk];rfl
 ·have e:l.findIdx? (fun o=>jx o r)=none:=by
   rw[acy];intro x hx;obtain⟨j,hj,rfl⟩:=abM hx;exact hb j hj
  rw[e];simp only;rw[aaV (by rw[abe];omega),aca]
  rfl
section
variable{s:Nat}{p:Sk}{A:Sa}{w:World}
theorem dk.p7(h:dk s p A w)(L:List Rq)(a':Option Addr)(c':Nat)(n:Int)(hR:aW w a' L)(bS:L.length<=c')(cU:a'=none->c'=0)(ho:L ≠ []->∀q,a'=some q->¬A.off s q.block)(zz:∀r∈L,r.dB (A.off s)):dk s { p with queue:=L,tags:=n } { A with qa:=a',qc:=c' } w where
 cE:=h.cE
 map:=h.map
 im:=h.im
 nb:=h.nb
 hand:=h.hand
 cU:=h.cU
 bS:=h.bS
 queue:=hR
 fe:=cU
 fA:=bS
 left:=h.left
 sv:=h.sv
 vl:=h.vl
 ll:=h.ll
 ia:=h.ia
 iH:=ho
 fh:=fun r hr=>(abh.1 hr).elim (zz r) (fun h'=>h.fh r (aa8 _ h'))
 gW:=h.gW
theorem bp.p7(h:bp s p A w)(L:List Rq)(a':Option Addr)(c':Nat)(n:Int)(hR:aW w a' L)(bS:L.length<=c')(cU:a'=none->c'=0)(ho:L ≠ []->∀q,a'=some q->¬A.off s q.block)(zz:∀r∈L,r.dB (A.off s)):bK s p A { p with queue:=L,tags:=n } { A with qa:=a',qc:=c' } w ((w.setCell ⟨s,21,none⟩ (.slice a' L.length c')).setCell ⟨s,27,none⟩ (i6 n)):=by
 refine(h.mem.p7 L a' c' n hR bS cU ho zz).yR ?_ ?_ (fun k hk=>hk) ⟨rfl,rfl,rfl,rfl⟩
 ·exact((aH.refl (fun k=>k=s) w).setCell _ (il rfl) _).setCell _ (il rfl) _
 ·rw[bJ (bJ h.a7 _ _)]
  rfl
end
theorem VJ(l:List Rq)(a:Option Addr)(c:Nat)(r:Rq)(w:World)(hl:aW w a l)(hn:a=none->c=0)(hr:r.At w)(mj:l.length<=1000)(gr:bz r)(gf:oF r=0)(gl:∀i (h:i<l.length),bz l[i])(hN:mP (l.map Rq.nf) r.nf=none) :
 Calls prog 128 #[.slice a l.length c,r.val] w fun e w'=>∃n,e=.returned (.tuple #[.slice none 0 0,.iface 87 (i6 n)])/\bL w w':=by
 cases hm:l.any (iX r)
 ·refine(OQ l a c r w hl hn hr mj gr gl hm).mono ?_;rintro e w' ⟨⟨L,a',c',hA,_⟩|⟨_,_,he⟩,hb⟩
  ·rw[CJ hm hA] at hN;cases hN
  ·exact⟨7,he,hb⟩
 ·exact(VI l a c r w hl hr gf hm).mono fun e w' ⟨he,hb⟩=>⟨6,he,hb⟩
theorem VK(l:List Rq)(a:Option Addr)(c:Nat)(r:Rq)(w:World)(hl:aW w a l)(hn:a=none->c=0)(hr:r.At w)(mj:l.length<=1000)(gr:bz r)(gl:∀i (h:i<l.length),bz l[i])(L':List Rq)(hN:mP (l.map Rq.nf) r.nf=some L') :
 Calls prog 128 #[.slice a l.length c,r.val] w fun e w'=>∃(L:List Rq) (a':Option Addr) (c':Nat),e=.returned (.tuple #[.slice a' L.length c',.nilIface])/\(Bk w.heap.size l r L/\L'=L.map Rq.nf/\aW w' a' L/\L.length<=c'/\(a'=none->c'=0)/\∀p,a'=some p->w.heap.size<=p.block)/\bL w w':=by
 cases hm:l.any (iX r)
 ·refine(OQ l a c r w hl hn hr mj gr gl hm).mono ?_;rintro e w' ⟨⟨L,a',c',hA,he,h1,h2,h3,h4⟩|⟨h1,h2,_⟩,hb⟩
  ·have:=CJ hm hA;rw[hN] at this;exact⟨L,a',c',he,⟨hA,abY this,h1,h2,h3,h4⟩,hb⟩
  ·rw[Ig hm h1 h2] at hN;cases hN
 ·rw[E2 hm] at hN;cases hN
theorem Ix{F:Nat->Prop}{w:World}{q:Rq}{n:Nat}(h:q.At w)(hf:qL q n)(hF:∀k,F k->k<n):q.dB F:=by
 refine⟨fun he ad ha e=>?_,fun he ad ha e=>?_⟩
 ·rcases h.data with h'|⟨b,o,h',_⟩
  ·exact he h'
  ·have h1:=hf.1 b o h';rw[h'] at ha;simp only[aa4] at ha;subst ha;have:=hF _ e;simp only at this
   omega
 ·rcases h.tags with h'|⟨b,o,h',_⟩
  ·exact he h'
  ·have h1:=hf.2 b o h';rw[h'] at ha;simp only[aa4] at ha;subst ha;have:=hF _ e;simp only at this
   omega
def jC(p:Sk)(pl:Int)(wr:Bool)(data:List ByteArray)(da:Option Addr)(dc tb:Nat):Rq:=⟨wr,pl,1,da,dc,data,some ⟨tb,0,none⟩,1,[p.tags+1],p.bI⟩
theorem Kv(s:Nat)(p:Sk)(A:Sa)(w:World)(h:bp s p A w)(hq:p.queue.length<=1000)(gl:∀i (h:i<p.queue.length),bz p.queue[i])(hT:0<=p.tags/\p.tags<=4000000000000000000)(hM:0<=p.bI/\p.bI<=1000000000)(pl:Int)(bV:0<=pl/\pl<=31)(wr:Bool)(data:List ByteArray)(tL:data.length<=4)(da:Option Addr)(dc:Nat)(hd:StrsAt w da data)(nV:da=none->dc=0)
 (eX:data ≠ []->∀ad,da=some ad->¬A.off s ad.block) (gr:∀tb,bz (jC p pl wr data da dc tb)/\oF (jC p pl wr data da dc tb)=0) :
 Calls prog 82 #[.pointer (some ⟨s,0,none⟩),i6 pl,.bool wr,.slice da data.length dc] w fun e w'=>∃p' A',e=.returned (.bool (p.nf.gI pl wr data).1)/\bK s p A p' A' w w'/\p'.nf=(p.nf.gI pl wr data).2:=by
 have c21:=h.cell 21 _ rfl;have Ik:=h.cell 26 _ rfl;have c27:=h.cell 27 _ rfl;have hl:=h.lt;have HQ:=ae h.mem.queue;have HN:=ae h.mem.fe;have aL:=ae h;have tE:=ae gl;have pc:=ae (gr w.heap.size);have zZ:=ae eX;have sW:IntKind.i64.wrap (p.tags+1)=p.tags+1:=by rw[abr];omega
 have iJ:Hid ((jC p pl wr data da dc w.heap.size).At ((w.alloc (.cells #[i6 (p.tags+1)] 3)).drew)):=by
  refine⟨hd.later bQ,ir ⟨w.heap.size,0,rfl,fun i hi=>?_⟩,by show data.length<=_;omega,by show 1<=_;omega,?_,?_,?_,nV,fun e=>by cases e⟩
  ·obtain rfl:i=0:=by simp[jC] at hi;omega
   show(w.alloc (.cells #[i6 (p.tags+1)] 3)).cell? ⟨w.heap.size,0,none⟩=some (i6 (p.tags+1))
   simp
  ·show cH pl;unfold cH;omega
  ·show cH 1;unfold cH;omega
  ·show cH p.bI;unfold cH;omega
 clear h gl gr eX hd;have lo:p.nf.gI pl wr data=match mP (p.queue.map Rq.nf) (jC p pl wr data da dc w.heap.size).nf with
  |some l=>(true,{ p.nf with queue:=l,tags:=p.tags+1 })
  |none=>(false,p.nf):=rfl
 cases hF:mP (p.queue.map Rq.nf) (jC p pl wr data da dc w.heap.size).nf with
 |none =>
  rw[hF] at lo;simp only at lo;rw[lo];have HF:=ae hF;clear hF lo;go_enter func82,ntmps82;go_wp2_with fail
  go_region_held3 (fun w'=>w'.cell? ⟨s,21,none⟩=some (.slice A.qa p.queue.length A.qc)/\w'.cell? ⟨s,26,none⟩=some (i6 p.bI)/\w'.cell? ⟨s,27,none⟩=some (i6 p.tags)) (exact⟨ai (w:=w) bQ c21,ai (w:=w) bQ Ik,ai (w:=w) bQ c27⟩) (first|(go_at_call 128;refine(VJ p.queue A.qa A.qc (jC p pl wr data da dc w.heap.size) ((w.alloc (.cells #[i6 (p.tags+1)] 3)).drew) (HQ.out.later bQ) HN.out iJ.out hq pc.out.1 pc.out.2 tE.out HF.out).mono ?_;rintro e w2 ⟨n,rfl,aC⟩))
  all_goals
   have bT:Hid (bL w w2):=(show bL w w2 from bQ)
   go_wp2;go_ret;exact⟨p,A,rfl,bK.cX aL.out (by have:=bT.out;(exact bQ)),rfl⟩
 |some L' =>
  rw[hF] at lo;simp only at lo;rw[lo];have HF:=ae hF;clear hF lo;go_enter func82,ntmps82;go_wp2_with fail
  go_region_held3 (fun w'=>w'.cell? ⟨s,21,none⟩=some (.slice A.qa p.queue.length A.qc)/\w'.cell? ⟨s,26,none⟩=some (i6 p.bI)/\w'.cell? ⟨s,27,none⟩=some (i6 p.tags)) (exact⟨ai (w:=w) bQ c21,ai (w:=w) bQ Ik,ai (w:=w) bQ c27⟩) (first|(go_at_call 128;refine(VK p.queue A.qa A.qc (jC p pl wr data da dc w.heap.size) ((w.alloc (.cells #[i6 (p.tags+1)] 3)).drew) (HQ.out.later bQ) HN.out iJ.out hq pc.out.1 tE.out L' HF.out).mono ?_;rintro e w2 ⟨L,a',c',rfl,tY,aC⟩;have HA:=ae tY;clear tY))
  all_goals
   have bT:Hid (bL w w2):=(show bL w w2 from bQ)
   have ck:=ae (bK.cX aL.out bT.out);have g21:=ck.out.at'.cell 21 _ rfl;have g27:=ck.out.at'.cell 27 _ rfl;have f21:=ck.out.at'.fz 21;have f27:=ck.out.at'.fz 27;have l2:=ck.out.at'.lt;have HX:Hid (bK s p A { p with queue:=L,tags:=p.tags+1 } { A with qa:=a',qc:=c' } w ((w2.setCell ⟨s,21,none⟩ (.slice a' L.length c')).setCell ⟨s,27,none⟩ (i6 (p.tags+1)))):=by
    obtain⟨h1,-,h3,h4,h5,h6⟩:=HA.out;have hz:w.heap.size<((w.alloc (.cells #[i6 (p.tags+1)] 3)).drew).heap.size:=sM;refine ck.out.trans (ck.out.at'.p7 L a' c' (p.tags+1) h3 h4 h5 (fun _ q cI e=>?_) (fun r hr=>?_))
    ·have:=h6 q cI;have:=aL.out.ky _ e
     omega
    ·rcases h1 with⟨k,hk,q,_,_,_,hf,rfl⟩|⟨_,_,rfl⟩
     ·rcases acb hr with dj|rfl
      ·exact aL.out.mem.fh r (abn _ dj)
      ·exact Ix (h3.2.1 r hr) hf (fun k' eH=>by have:=aL.out.ky _ eH;omega)
     ·rcases abh.1 hr with dj|dj
      ·exact aL.out.mem.fh r (abn _ dj)
      ·rw[abq.1 dj];refine⟨zZ.out,fun _ ad ha e=>?_⟩;have au:=aL.out.ky _ e;simp only[jC,aa4] at ha;subst ha;exact absurd au (agn _)
   have HL:Hid (L'=L.map Rq.nf):=HA.out.2.1;clear aC HA ck aL iJ;go_wp2;go_ret;exact⟨_,_,rfl,HX.out,by rw[HL.out];rfl⟩
theorem ub(p:Sk)(n:Int):p.nf.held n=p.held n:=by
 show((p.queue.map Rq.nf++p.dev.busy.map Rq.nf).any fun r=>dO r.f r.m n)=_;rw[<-aca,List.any_map]
 rfl
theorem xS{p:Sk}{pl:Int}{wr:Bool}{data:List ByteArray}(g:bz (p.ni pl wr data))(da:Option Addr)(dc tb:Nat):bz (jC p pl wr data da dc tb)/\oF (jC p pl wr data da dc tb)=0:=by
 have:bz (jC p pl wr data da dc tb):=⟨g.ok,g.shape,g.t1,g.t4,g.b0,g.b1,g.small⟩
 exact⟨this,(Ed _).2 this⟩
theorem bg.CR{p:Sk}(h:bg p)(i:Nat)(hi:i<p.queue.length):bz p.queue[i]:=h.bO _ (abn _ (aa5 hi))
def fL(s:Nat)(p:Sk)(A:Sa)(w w':World)(q:Sk):Prop:=∃p' A',bK s p A p' A' w w'/\p'.nf=q
theorem Mr(s:Nat)(p:Sk)(A:Sa)(w:World)(h:bp s p A w)(hI:bg p)(hT:p.tags<=4000000000000000000)(i:Nat)(hi:i<3)(hk:¬(p.ao i).kind=0)(hg:fa p.hand (p.ao i).pl=none)(q:Sk)(hq:p.nf.gd i=q) :
 Calls prog 116 #[.pointer (some ⟨s,0,none⟩),.pointer (some ⟨s,2+i*6,none⟩)] w fun e w'=>e=.returned (.tuple #[])/\fL s p A w w' q:=by
 have oC:=ae ((hI.ao i).pl hk);have e1:p.nf.gd i=if p.held (p.ao i).pl=true then p.nf else(p.nf.gI (p.ao i).pl false []).2:=by
  rw[<-ub];show(match fa p.hand (p.ao i).pl with|some b=>_|none=>_)=_;rw[hg];rfl
 rw[e1] at hq;have sr:Hid (ej (eP (p.ao i).pl) p.hand=-1):=by
  rcases gq p.hand (p.ao i).pl with⟨_,h'⟩|⟨k,eH,h',_⟩
  ·exact h'
  ·rw[hg] at h';cases h'
 have pc:=ae (fun tb=>xS (tt hI (p.ao i).pl oC.out false [] (ir ⟨rfl,rfl⟩)) none 0 tb);have tE:=ae hI.CR;have HQ6:=ae hI.q6;have HTM:=ae (And.intro hI.tg hI.kr);obtain⟨-,d1,-⟩:=h.ao i hi;have c20:=h.cell 20 _ rfl;have hl:=h.lt;have aL:=ae h;have HH:=ae h.mem.hand;clear h hI e1 hg;generalize bV:(p.ao i).pl=pl at *;have HC:Hid ((p.ao i).pl=pl):=bV;have HQ:=ae hq;clear bV hq;go_enter func116,ntmps116;go_wp2_with fail
 go_region_held3 (fun w'=>w'.cell? ⟨s,20,none⟩=some (.slice A.ha p.hand.length A.hc)/\w'.cell? ⟨s,2+i*6+1,none⟩=some (i6 pl)) (exact⟨ai (w:=w) bQ c20,ai (w:=w) bQ d1⟩) (first|(go_at_call 81;refine cM (Fe p.hand A.ha A.hc pl _ (HH.out.later bQ) sr.out) ?_;intro w1 aw;have z1:w.heap.size<=w1.heap.size:=(show bL w w1 from bQ).size;(try(obtain⟨k0,k1,k2,k3,k4,k5,k6,k7⟩:w1.cell? ⟨w.heap.size,0,none⟩=some (i6 0)/\w1.cell? ⟨w.heap.size,1,none⟩=some (.string ⟨#[]⟩)/\w1.cell? ⟨w.heap.size,2,none⟩=some (.bool false)/\w1.cell? ⟨w.heap.size,3,none⟩=some (i6 0)/\w1.frozen? ⟨w.heap.size,0,none⟩=false/\w1.frozen? ⟨w.heap.size,1,none⟩=false/\w1.frozen? ⟨w.heap.size,2,none⟩=false/\w1.frozen? ⟨w.heap.size,3,none⟩=false;(focus((refine⟨(aw.cell (p:=⟨w.heap.size,0,none⟩) ?_).trans ?_,(aw.cell (p:=⟨w.heap.size,1,none⟩) ?_).trans ?_,(aw.cell (p:=⟨w.heap.size,2,none⟩) ?_).trans ?_,(aw.cell (p:=⟨w.heap.size,3,none⟩) ?_).trans ?_,(aw.frozen (p:=⟨w.heap.size,0,none⟩) ?_).trans ?_,(aw.frozen (p:=⟨w.heap.size,1,none⟩) ?_).trans ?_,(aw.frozen (p:=⟨w.heap.size,2,none⟩) ?_).trans ?_,(aw.frozen (p:=⟨w.heap.size,3,none⟩) ?_).trans ?_⟩);(all_goals simp);(all_goals omega)))))))
 all_goals
  go_wp2_with fail;refine(rK s p A _ (aL.out.later bQ) (by have:=HQ6.out;omega)).mono ?_;rintro e w2 ⟨hb,rfl,hH,aC⟩;have bT:Hid (bL w w2):=(show bL w w2 from bQ)
  have HHO:=ae hH;have ck:=ae (bK.cX aL.out bT.out);have g1:=(ck.out.at'.ao i hi).2.1;rw[HC.out] at g1;have l2:=ck.out.at'.lt;clear aC hH c20 d1;go_wp2_with fail;refine cM (uS hb _ pl w2 HHO.out) ?_;intro w3 bo;have eV:=ae (ck.out.later bo);have g3:=(eV.out.at'.ao i hi).2.1;rw[HC.out] at g3;have l3:=eV.out.at'.lt;have J8:Hid (gT (p.queue++p.dev.busy) pl=p.held pl):=ae rfl
  cases hh:gT (p.queue++p.dev.busy) pl
  ·have HF:Hid (p.held pl=false):=J8.out.symm.trans hh;go_wp2_with fail;refine(Kv s p A w3 eV.out.at' (by have:=HQ6.out;omega) tE.out ⟨HTM.out.1,hT⟩ HTM.out.2 pl oC.out false [] sM none 0 (il rfl) (fun _=>rfl) (fun aE=>absurd rfl aE) pc.out).mono ?_;rintro e w4 ⟨p',A',rfl,kX,hn4⟩;have gD:=ae (eV.out.trans kX);have Hx:=ae hn4;clear kX hn4;go_wp2;go_end0;exact⟨rfl,p',A',gD.out,Hx.out.trans (by rw[<-HQ.out,HF.out];rfl)⟩
  ·have HF:Hid (p.held pl=true):=J8.out.symm.trans hh;go_wp2;go_end0;exact⟨rfl,p,A,eV.out,by rw[<-HQ.out,HF.out];rfl⟩
theorem ku{K:Act->World->Prop}{Q:Exit->Act->World->Prop}{a:Act}{w:World}(R:World->Prop)(h:R w)(k:∀w',R w'->Exit.then K Q .normal a w'):Exit.then K Q .normal a w:=k w h
theorem yY{P:Program}{ops:Array Oper}{o:Oper}{a:Act}{w:World}{K:Act->World->Prop}{Q:Exit->Act->World->Prop}{E:Prop}
 (hg:o.guard=none) (f:FuncId) (x1 x2 x3:Nat) (t1 t2 t3:TypeId) (qY:o.op=Op.call { callee:=Callee.value (.func f),args:=#[.tmp x1,.tmp x2,.tmp x3],argTypes:=#[t1,t2,t3] }) (eg:∀args w,(callFunc f args).run P w=.ok (.enter f args) w)
 (v1 v2 v3:Value) (e1:a.tmps[x1]?.getD undef=v1) (e2:a.tmps[x2]?.getD undef=v2) (e3:a.tmps[x3]?.getD undef=v3) (R:Value->World->Prop) (hc:Calls P f #[v1,v2,v3] w fun e w'=>∃r,e=.returned r/\R r w') (h:∀r w',R r w'->K (a.put o.dst r) w') :
 if Region.wanted o (yielded ops a.tmps)=true then Oper.wp P o a w K Q else E:=by
 have hw:Region.wanted o (yielded ops a.tmps)=true:=by simp[Region.wanted,hg]
 rw[aaV hw];unfold Oper.wp
 simp[execOp,qY,resolve,invoke,e1,e2,e3,eg,go_sem]
 refine hc.mono ?_;rintro _ w' ⟨r,rfl,hs⟩;exact h r w' hs
section
variable{s:Nat}{p:Sk}{A:Sa}{w:World}
theorem dk.fT(h:dk s p A w)(l:List Bf)(a':Option Addr)(c':Nat)(hB:bA w a' l)(bS:l.length<=c')(cU:a'=none->c'=0)(ho:l ≠ []->∀q,a'=some q->¬A.off s q.block):dk s { p with hand:=l } { A with ha:=a',hc:=c' } w where
 cE:=h.cE
 map:=h.map
 im:=h.im
 nb:=h.nb
 hand:=hB
 cU:=cU
 bS:=bS
 queue:=h.queue
 fe:=h.fe
 fA:=h.fA
 left:=h.left
 sv:=h.sv
 vl:=h.vl
 ll:=h.ll
 ia:=ho
 iH:=h.iH
 fh:=h.fh
 gW:=h.gW
theorem dk.o6(h:dk s p A w)(u:Int):dk s { p with az:=u } A w where
 cE:=h.cE
 map:=h.map
 im:=h.im
 nb:=h.nb
 hand:=h.hand
 cU:=h.cU
 bS:=h.bS
 queue:=h.queue
 fe:=h.fe
 fA:=h.fA
 left:=h.left
 sv:=h.sv
 vl:=h.vl
 ll:=h.ll
 ia:=h.ia
 iH:=h.iH
 fh:=h.fh
 gW:=h.gW
theorem bp.o6(h:bp s p A w)(u:Int):bK s p A { p with az:=u } A w (w.setCell ⟨s,28,none⟩ (i6 u)):=h.put (h.mem.o6 u) 28 _ rfl (fun _ hk=>hk) ⟨rfl,rfl,rfl,rfl⟩
theorem bp.fT(h:bp s p A w)(l:List Bf)(a':Option Addr)(c':Nat)(hB:bA w a' l)(bS:l.length<=c')(cU:a'=none->c'=0)(ho:l ≠ []->∀q,a'=some q->¬A.off s q.block):bK s p A { p with hand:=l } { A with ha:=a',hc:=c' } w (w.setCell ⟨s,20,none⟩ (.slice a' l.length c')):=h.put (h.mem.fT l a' c' hB bS cU ho) 20 _ rfl (fun _ hk=>hk) ⟨rfl,rfl,rfl,rfl⟩
end
theorem yF(l:List Bf)(pl u:Int):(kT l pl u).length=l.length:=by simp[kT]
theorem bK.box{s:Nat}{p p':Sk}{A A':Sa}{w wz w':World}{g j:Nat}{v:Value}(hs:bK s p A p' A' wz w')(h0:bp s p A w)(hg:w.heap.size<=g)(hc:wz.cell? ⟨g,j,none⟩=some v):w'.cell? ⟨g,j,none⟩=some v :=
 (hs.only.cell (p:=⟨g,j,none⟩) (aq hc) (fun e=>by have:=h0.bC _ e;simp only at this;omega)).trans hc
theorem JM(s:Nat)(p:Sk)(A:Sa)(w:World)(h:bp s p A w)(hI:bg p)(hU:p.az<=4000000000000000000)(i:Nat)(hi:i<3)(k:Nat)(hk:k<p.hand.length)(hg:fa p.hand (p.ao i).pl=some p.hand[k])(gA:ej (eP (p.ao i).pl) p.hand=k)(ho:xQ p.hand)(q:Sk)(hq:p.nf.gd i=q) :
 Calls prog 116 #[.pointer (some ⟨s,0,none⟩),.pointer (some ⟨s,2+i*6,none⟩)] w fun e w'=>e=.returned (.tuple #[])/\fL s p A w w' q:=by
 have e1:p.nf.gd i=({ p.nf with az:=p.az+1,hand:=kT p.hand (p.ao i).pl (p.az+1) }:Sk).answer i p.hand[k].data 0:=by
  show(match fa p.hand (p.ao i).pl with|some b=>_|none=>_)=_;rw[hg];rfl
 rw[e1] at hq;have H8:=ae hI.hand.len;have HU0:=ae hI.us;have Hu:=ae hI.fV;have sr:=ae gA;have HO:=ae ho;obtain⟨-,d1,-⟩:=h.ao i hi;have c20:=h.cell 20 _ rfl;have hl:=h.lt;have aL:=ae h;have HH:=ae h.mem.hand;have sW:IntKind.i64.wrap (p.az+1)=p.az+1:=by have:=hI.us;rw[abr];omega
 clear h hI e1 hg gA ho;generalize bV:(p.ao i).pl=pl at *;have HC:Hid ((p.ao i).pl=pl):=bV;obtain⟨b,nT⟩:∃b,b=p.hand[k]:=⟨_,rfl⟩
 rw[<-nT] at hq;have J4:Hid (b=p.hand[k]):=nT;have HQ:=ae hq;clear bV hq nT;obtain⟨Yx,sC,sD,JS⟩:=b;go_enter func116,ntmps116;go_wp2_with fail
 go_region_held3 (fun w'=>w'.cell? ⟨s,20,none⟩=some (.slice A.ha p.hand.length A.hc)/\w'.cell? ⟨s,2+i*6+1,none⟩=some (i6 pl)) (exact⟨ai (w:=w) bQ c20,ai (w:=w) bQ d1⟩) (first|(go_at_call 81;refine(zr p.hand A.ha A.hc pl _ (HH.out.later bQ) k hk sr.out).mono ?_;rw[<-J4.out];rintro e w1 ⟨rfl,aw⟩;have z1:w.heap.size<=w1.heap.size:=(show bL w w1 from bQ).size;(try(obtain⟨k0,k1,k2,k3,k4,k5,k6,k7⟩:w1.cell? ⟨w.heap.size,0,none⟩=some (i6 0)/\w1.cell? ⟨w.heap.size,1,none⟩=some (.string ⟨#[]⟩)/\w1.cell? ⟨w.heap.size,2,none⟩=some (.bool false)/\w1.cell? ⟨w.heap.size,3,none⟩=some (i6 0)/\w1.frozen? ⟨w.heap.size,0,none⟩=false/\w1.frozen? ⟨w.heap.size,1,none⟩=false/\w1.frozen? ⟨w.heap.size,2,none⟩=false/\w1.frozen? ⟨w.heap.size,3,none⟩=false;(focus((refine⟨(aw.cell (p:=⟨w.heap.size,0,none⟩) ?_).trans ?_,(aw.cell (p:=⟨w.heap.size,1,none⟩) ?_).trans ?_,(aw.cell (p:=⟨w.heap.size,2,none⟩) ?_).trans ?_,(aw.cell (p:=⟨w.heap.size,3,none⟩) ?_).trans ?_,(aw.frozen (p:=⟨w.heap.size,0,none⟩) ?_).trans ?_,(aw.frozen (p:=⟨w.heap.size,1,none⟩) ?_).trans ?_,(aw.frozen (p:=⟨w.heap.size,2,none⟩) ?_).trans ?_,(aw.frozen (p:=⟨w.heap.size,3,none⟩) ?_).trans ?_⟩);(all_goals simp);(all_goals omega)))))))
 refine ku (fun wz=>bL w wz/\wz.cell? ⟨w1.heap.size,1,none⟩=some (.string sC)/\w.heap.size<=w1.heap.size) ⟨bQ,sM,z1⟩ ?_
 rotate_left
 refine ku (fun wz=>bL w wz/\wz.cell? ⟨w.heap.size,1,none⟩=some (.string sC)/\w.heap.size<=w.heap.size) ⟨bQ,(cB (ir oM)).trans ((cB (ir oM)).trans (aa2 _ _ _ ((cB (ir oM)).trans k1))),aaO _⟩ ?_
 all_goals
  rintro wz ⟨fo,cA,mE⟩;have kG:=ae cA;have Ka:=ae mE;have wC:=ae (bK.cX aL.out fo);have c28:=wC.out.at'.cell 28 _ rfl;have f28:=wC.out.at'.fz 28;have lz:=wC.out.at'.lt;clear aw z1 cA mE fo c20 d1;go_wp2_with fail;refine ei (fun wy=>bK s p A { p with az:=p.az+1 } A wz wy) (wC.out.at'.o6 (p.az+1)) ?_;intro wy iU;have jY:=ae iU;have HS:Hid ((fun wv:World=>wv.cell? ⟨s,20,none⟩=some (.slice A.ha p.hand.length A.hc)/\wv.cell? ⟨s,2+i*6+1,none⟩=some (i6 pl)/\wv.cell? ⟨s,28,none⟩=some (i6 (p.az+1))/\s<wv.heap.size) wy.drew):=⟨iU.at'.cell 20 _ rfl,by rw[<-HC.out];exact(iU.at'.ao i hi).2.1,iU.at'.cell 28 _ rfl,iU.at'.lt⟩
  have eg:∀args w,Sem.run prog (callFunc 159 args) w=.ok (.enter 159 args) w:=by intro args w;go_simp
  clear iU c28 f28 lz;refine eL (S:=fun wv:World=>wv.cell? ⟨s,20,none⟩=some (.slice A.ha p.hand.length A.hc)/\wv.cell? ⟨s,2+i*6+1,none⟩=some (i6 pl)/\wv.cell? ⟨s,28,none⟩=some (i6 (p.az+1))/\s<wv.heap.size) (d:=16) kR ?_;refine tK 0 rfl HS.out ?_;(try simp only[Act.put,dP]);refine tK 1 rfl HS.out ?_;(try simp only[Act.put,dP]);refine tK 2 rfl HS.out ?_;(try simp only[Act.put,dP]);refine tK 3 rfl HS.out ?_;(try simp only[Act.put,dP]);refine tK 4 rfl HS.out ?_;(try simp only[Act.put,dP]);refine tK 5 rfl HS.out ?_;(try simp only[Act.put,dP]);refine tK 6 rfl HS.out ?_;(try simp only[Act.put,dP]);refine tK 7 rfl HS.out ?_;(try simp only[Act.put,dP]);refine tK 8 rfl HS.out ?_;(try simp only[Act.put,dP]);refine tK 9 rfl HS.out ?_;(try simp only[Act.put,dP]);refine tK 10 rfl HS.out ?_;(try simp only[Act.put,dP]);refine tK 11 rfl HS.out ?_;(try simp only[Act.put,dP]);refine tK 12 rfl HS.out ?_;(try simp only[Act.put,dP]);refine bn (i:=13) rfl kR ?_;intro K hK;refine yY rfl 159 31 35 39 91 3 3 rfl eg (.slice A.ha p.hand.length A.hc) (i6 pl) (i6 (p.az+1)) rfl rfl rfl (fun r w'=>∃a' c',r=.slice a' p.hand.length c'/\bA w' a' (kT p.hand pl (p.az+1))/\p.hand.length<=c'/\tS wy.heap.size a'/\(a'=none->c'=0)/\bL wy w') ((ae6 p.hand A.ha A.hc pl (p.az+1) wy.drew (jY.out.at'.mem.hand.later (aX _ _).drew) jY.out.at'.mem.cU (by have:=H8.out;omega) HO.out).mono (fun e w' ⟨a',c',he,h1,h2,h3,h4,h5⟩=>⟨_,he,a',c',rfl,h1,h2,h3,h4,(aX _ _).drew.trans h5⟩)) ?_;rintro r w5 ⟨a',c',rfl,u1,u2,u3,u4,u5⟩;have eO:=ae (jY.out.later u5);have qR:=ae (eO.out.trans (eO.out.at'.fT (kT p.hand pl (p.az+1)) a' c' u1 (by rw[yF];exact u2) u4 (fun _ q' cI e=>by have:=u3 q' cI;have:=jY.out.at'.ky _ e;omega)));have v20:=eO.out.at'.cell 20 _ rfl;have Js:=eO.out.at'.fz 20;have l5:=eO.out.at'.lt;refine hK _ _ (fun _=>⟨v20,by rw[<-HC.out];exact(eO.out.at'.ao i hi).2.1,eO.out.at'.cell 28 _ rfl,l5⟩) ?_
  (try simp only[Act.put,dP])
  have OJ:Hid ((fun wv:World=>wv.cell? ⟨s,20,none⟩=some (.slice A.ha p.hand.length A.hc)/\wv.cell? ⟨s,2+i*6+1,none⟩=some (i6 pl)/\wv.cell? ⟨s,28,none⟩=some (i6 (p.az+1))/\s<wv.heap.size) w5):=⟨v20,by rw[<-HC.out];exact(eO.out.at'.ao i hi).2.1,eO.out.at'.cell 28 _ rfl,l5⟩
  clear hK u1 u2 u3 u4 u5;refine bn (i:=14) rfl kR ?_;intro K hK;go_simp;refine hK _ _ (fun _=>OJ.out) ?_
  (try simp only[Act.put,dP])
  clear hK;refine bn (i:=15) rfl kR ?_;intro K hK;go_simp;refine hK _ _ (fun _=>OJ.out) ?_
  (try simp only[Act.put,dP])
  clear hK;refine bn (i:=16) rfl kR ?_;intro K hK;go_simp;refine hK _ _ (fun h=>absurd rfl h) ?_
  (try simp only[Act.put,dP])
  clear hK;refine fw kR ?_ _;refine ku (fun wv=>bK s p A { p with az:=p.az+1,hand:=kT p.hand pl (p.az+1) } { A with ha:=a',hc:=c' } wz wv) (by have:=qR.out;rw[yF] at this;exact this) ?_;intro w6 pS;have mA:=ae pS;have K8:=pS.box aL.out Ka.out kG.out;have l6:=aq K8;clear pS v20 Js l5;go_wp2_with fail;have kO:=qj s _ _ w6 mA.out.at' Hu.out i hi sC 0;rw[show dm 0=.nilIface from rfl] at kO;refine kO.mono ?_;clear kO;rintro e w7 ⟨rfl,lD⟩;have rU:=ae (wC.out.trans (mA.out.trans lD));clear lD K8 l6;go_wp2;refine aaY (v:=.tuple #[]) (by simp[results,results116,go_sem]) rfl ?_;exact⟨rfl,_,_,rU.out,by rw[<-HQ.out];rfl⟩
theorem Gj(s:Nat)(p:Sk)(A:Sa)(w:World)(h:bp s p A w)(pt:p.cl.length=3)(i:Nat)(hi:i<3)(hd:p.dead=true)(q:Sk)(hq:p.nf.dH i=q) :
 Calls prog 117 #[.pointer (some ⟨s,0,none⟩),.pointer (some ⟨s,2+i*6,none⟩)] w fun e w'=>e=.returned (.tuple #[])/\fL s p A w w' q:=by
 have e1:p.nf.dH i=p.nf.answer i bE 9:=by
  unfold Sk.dH;rw[aaV (show p.nf.dead=true from hd)]
 rw[e1] at hq;have vu:=h.cell 29 _ rfl;rw[hd] at vu;have hl:=h.lt;have Vv:=ae (qj s p A w h pt i hi bE 9);have HQ:=ae hq;clear h e1 hq;go_enter func117,ntmps117;go_wp2_with fail;refine Vv.out.mono ?_;rintro e w7 ⟨rfl,lD⟩;have rU:=ae lD;clear lD;go_wp2;refine aaY (v:=.tuple #[]) (by simp[results,results117,go_sem]) rfl ?_;exact⟨rfl,_,_,rU.out,by rw[<-HQ.out];rfl⟩
theorem Gk(s:Nat)(p:Sk)(A:Sa)(w:World)(h:bp s p A w)(i:Nat)(hi:i<3)(hd:p.dead=false)(h6:6<=bW p.hand)(h8:p.hand.length<=8)(hn:bY p.hand (p.ao i).pl=false)(q:Sk)(hq:p.nf.dH i=q) :
 Calls prog 117 #[.pointer (some ⟨s,0,none⟩),.pointer (some ⟨s,2+i*6,none⟩)] w fun e w'=>e=.returned (.tuple #[])/\fL s p A w w' q:=by
 have e1:p.nf.dH i=p.nf:=by
  unfold Sk.dH;rw[aaP (by rw[show p.nf.dead=false from hd];exact aa7),aaV ⟨h6,hn⟩]
 rw[e1] at hq;have vu:=h.cell 29 _ rfl;rw[hd] at vu;have hl:=h.lt;obtain⟨-,d1,-⟩:=h.ao i hi;have HQ:=ae hq;have aL:=ae h;have HN:=ae hn;have h9:bW p.hand<=8:=abb (acE _ _) h8;obtain⟨n,oK⟩:∃n,bW p.hand=n:=⟨_,rfl⟩
 rw[oK] at h6 h9;have jy:=ae oK;generalize bV:(p.ao i).pl=pl at *;have YH:(6:Int)<=(n:Int):=oM;clear h e1 hq hn oK h8 bV;go_enter func117,ntmps117;go_wp2_with fail;refine cM (ox s p A w aL.out n jy.out) ?_;intro w1 aw;have cf:=ae (bK.cX aL.out aw);have g1:=ai aw d1;have l1:=cf.out.at'.lt;go_wp2_with fail;refine cM (DO s p A pl w1 cf.out.at' false HN.out) ?_;intro w2 aC;have ck:=ae (cf.out.later aC);clear aw aC;go_wp2;refine aaY (v:=.tuple #[]) (by simp[results,results117,go_sem]) rfl ?_;exact⟨rfl,p,A,ck.out,HQ.out⟩
theorem Pj{l m:List Bf}{x:Bf}{H:Int->Bool}(h:CG l x H m):jw l x H=some m:=by
 unfold jw
 rcases h with⟨k,hk,hi,rfl⟩|⟨hi,h8,rfl⟩|⟨hi,h8,k,hk,hl,rfl⟩
 ·rw[hi,aaV oM];simp
 ·rw[hi,aaP oM,aaV h8]
 ·rw[hi,aaP oM,aaP oM,hl,aaV oM];simp
theorem Xl{l:List Bf}{x:Bf}{H:Int->Bool}(hi:ej (eP x.pl) l=-1)(h8:l.length=8)(hl:dz (eu false H) l l.length=-1):jw l x H=none:=by
 unfold jw;rw[hi,aaP oM,aaP oM,hl,aaP oM]
theorem L5(hb:Nat)(lq:List Rq)(l:List Bf)(a:Option Addr)(c:Nat)(x:Bf)(w:World)(hl:bA w a l)(hn:a=none->c=0)(h8:l.length<=8)(hh:mB w hb lq)(hp:jw l x (gT lq)=none) :
 Calls prog 161 #[.slice a l.length c,x.val,.func (.func 123) #[] #[.pointer (some ⟨hb,0,none⟩)]] w (rB (.tuple #[.slice none 0 0,.iface 87 (i6 7)]) w):=by
 refine(L4 123 (by intro args w;go_simp) #[.pointer (some ⟨hb,0,none⟩)] (gT lq) l a c x w hl hn h8 (fun n w' hJ=>uS hb lq n w' (hh.later hJ))).mono ?_;rintro e w' ⟨⟨m,a',c',hm,_⟩|⟨_,_,_,he⟩,hJ⟩
 ·rw[Pj hm] at hp;cases hp
 ·exact⟨he,hJ⟩
theorem L6(hb:Nat)(lq:List Rq)(l:List Bf)(a:Option Addr)(c:Nat)(x:Bf)(w:World)(hl:bA w a l)(hn:a=none->c=0)(h8:l.length<=8)(hh:mB w hb lq)(m:List Bf)(hp:jw l x (gT lq)=some m) :
 Calls prog 161 #[.slice a l.length c,x.val,.func (.func 123) #[] #[.pointer (some ⟨hb,0,none⟩)]] w fun e w'=>∃a' c',e=.returned (.tuple #[.slice a' m.length c',.nilIface])/\(bA w' a' m/\m.length<=c'/\tS w.heap.size a'/\(a'=none->c'=0))/\bL w w':=by
 refine(L4 123 (by intro args w;go_simp) #[.pointer (some ⟨hb,0,none⟩)] (gT lq) l a c x w hl hn h8 (fun n w' hJ=>uS hb lq n w' (hh.later hJ))).mono ?_;rintro e w' ⟨⟨m',a',c',hm,he,h1⟩|⟨hi,A8,wY,_⟩,hJ⟩
 ·rw[Pj hm] at hp
  cases hp
  exact⟨a',c',he,h1,hJ⟩
 ·rw[Xl hi A8 wY] at hp;cases hp
theorem Eg(p:Sk):p.nf.held=gT (p.queue++p.dev.busy):=funext fun n=>ub p n
theorem Ho(s:Nat)(p:Sk)(A:Sa)(w:World)(h:bp s p A w)(pt:p.cl.length=3)(i:Nat)(hi:i<3)(hd:p.dead=false)(h8:p.hand.length<=8)(hq6:p.queue.length<=6)(hU:0<=p.az/\p.az<=4000000000000000000)(hc:¬(6<=bW p.hand/\bY p.hand (p.ao i).pl=false))(q:Sk)(hq:p.nf.dH i=q) :
 Calls prog 117 #[.pointer (some ⟨s,0,none⟩),.pointer (some ⟨s,2+i*6,none⟩)] w fun e w'=>e=.returned (.tuple #[])/\fL s p A w w' q:=by
 have e1:p.nf.dH i=match jw p.hand ⟨(p.ao i).pl,(p.ao i).data,true,p.az+1⟩ (gT (p.queue++p.dev.busy)) with
  |some l=>({ p.nf with az:=p.az+1,hand:=l }:Sk).answer i bE 0
  |none=>{ p.nf with az:=p.az+1 }:=by
  rw[<-Eg];unfold Sk.dH;rw[aaP (by rw[show p.nf.dead=false from hd];exact aa7),aaP (show ¬(6<=bW p.nf.hand/\bY p.nf.hand (p.nf.ao i).pl=false) from hc)]
  rfl
 rw[e1] at hq;have vu:=h.cell 29 _ rfl;rw[hd] at vu;have hl:=h.lt;obtain⟨-,d1,d2,-⟩:=h.ao i hi;have qN:=ae d1;have pa:=ae d2;have HQ:=ae hq;have aL:=ae h;have HC:=ae hc;have h9:bW p.hand<=8:=abb (acE _ _) h8;obtain⟨n,oK⟩:∃n,bW p.hand=n:=⟨_,rfl⟩
 rw[oK] at h9;have jy:=ae oK;have sW:IntKind.i64.wrap (p.az+1)=p.az+1:=by rw[abr];omega
 clear h e1 hq hc oK d2;generalize bV:(p.ao i).pl=pl at *;generalize r7:(p.ao i).data=dt at *;have oC:=ae bV;have Yd:=ae r7;clear bV r7
 by_cases h6:6<=n
 have YH:(6:Int)<=(n:Int):=oM;have HDY:Hid (bY p.hand pl=true):=by
  cases hh:bY p.hand pl
  ·exact absurd ⟨by rw[jy.out];exact h6,hh⟩ HC.out
  ·rfl
 go_enter func117,ntmps117;go_wp2_with fail;refine cM (ox s p A w aL.out n jy.out) ?_;intro w1 aw;have cf:=ae (bK.cX aL.out aw);have g1:=ai aw d1;have l1:=cf.out.at'.lt;go_wp2_with fail;refine cM (DO s p A pl w1 cf.out.at' true HDY.out) ?_;intro w2 aC;have ck:=ae (cf.out.later aC);have c28:=ck.out.at'.cell 28 _ rfl;have f28:=ck.out.at'.fz 28;have l2:=ck.out.at'.lt;clear aw aC g1 l1 d1;go_wp2_with fail
 rotate_left
 have YH:¬(6:Int)<=(n:Int):=oM;go_enter func117,ntmps117;go_wp2_with fail;refine cM (ox s p A w aL.out n jy.out) ?_;intro w2 aw;have ck:=ae (bK.cX aL.out aw);have c28:=ck.out.at'.cell 28 _ rfl;have f28:=ck.out.at'.fz 28;have l2:=ck.out.at'.lt;clear aw d1;go_wp2_with fail
 all_goals
  refine ei (fun wy=>bK s p A { p with az:=p.az+1 } A w wy) (ck.out.trans (ck.out.at'.o6 (p.az+1))) ?_;intro wy iU;have jY:=ae iU;have CE:=iU.at'.cell 20 _ rfl;have MO:=iU.at'.cell 28 _ rfl;have ly:=iU.at'.lt;obtain⟨-,y1,y2,-⟩:=iU.at'.ao i hi;have HYP:Hid (({ p with az:=p.az+1 }:Sk).ao i=p.ao i):=ae rfl;rw[HYP.out,oC.out] at y1;rw[HYP.out,Yd.out] at y2;clear iU c28 f28 l2
  cases hP:jw p.hand ⟨pl,dt,true,p.az+1⟩ (gT (p.queue++p.dev.busy)) with
  |none =>
   have HP:=ae hP;have mh:Hid ({ p.nf with az:=p.az+1 }=q):=by have:=HQ.out;rw[hP] at this;exact this
   clear hP HQ
   go_region_held3 (fun w'=>w'.cell? ⟨s,20,none⟩=some (.slice A.ha p.hand.length A.hc)/\w'.cell? ⟨s,28,none⟩=some (i6 (p.az+1))/\w'.cell? ⟨s,2+i*6+1,none⟩=some (i6 pl)/\w'.cell? ⟨s,2+i*6+2,none⟩=some (.string dt)) (exact⟨ai (w:=wy) bQ CE,ai (w:=wy) bQ MO,ai (w:=wy) bQ y1,ai (w:=wy) bQ y2⟩) (first|(go_at_call 80;refine(rK s { p with az:=p.az+1 } A _ (jY.out.at'.later bQ) (by show p.queue.length<=1000;omega)).mono ?_;rintro e w3 ⟨hb,rfl,hH,bo⟩)|(go_at_call 161;refine(L5 hb (p.queue++p.dev.busy) p.hand A.ha A.hc ⟨pl,dt,true,p.az+1⟩ _ (jY.out.at'.mem.hand.later bQ) jY.out.at'.mem.cU h8 (mB.later hH bQ) HP.out).mono ?_;rintro e w4 ⟨rfl,fk⟩))
   all_goals
    have gD:Hid (bK s p A { p with az:=p.az+1 } A w w4):=jY.out.later bQ;clear bo fk hH;go_wp2;refine aaY (v:=.tuple #[]) (by simp[results,results117,go_sem]) rfl ?_;exact⟨rfl,_,_,gD.out,by rw[<-mh.out];rfl⟩
  |some m =>
   have HP:=ae hP;have mh:Hid (({ p.nf with az:=p.az+1,hand:=m }:Sk).answer i bE 0=q):=by have:=HQ.out;rw[hP] at this;exact this
   clear hP HQ
   go_region_held3 (fun w'=>w'.cell? ⟨s,20,none⟩=some (.slice A.ha p.hand.length A.hc)/\w'.cell? ⟨s,28,none⟩=some (i6 (p.az+1))/\w'.cell? ⟨s,2+i*6+1,none⟩=some (i6 pl)/\w'.cell? ⟨s,2+i*6+2,none⟩=some (.string dt)) (exact⟨ai (w:=wy) bQ CE,ai (w:=wy) bQ MO,ai (w:=wy) bQ y1,ai (w:=wy) bQ y2⟩) (first|(go_at_call 80;refine(rK s { p with az:=p.az+1 } A _ (jY.out.at'.later bQ) (by show p.queue.length<=1000;omega)).mono ?_;rintro e w3 ⟨hb,rfl,hH,bo⟩;have z3:wy.heap.size<=w3.heap.size:=(show bL wy w3 from bQ).size)|(go_at_call 161;refine(L6 hb (p.queue++p.dev.busy) p.hand A.ha A.hc ⟨pl,dt,true,p.az+1⟩ _ (jY.out.at'.mem.hand.later bQ) jY.out.at'.mem.cU h8 (mB.later hH bQ) m HP.out).mono ?_;rintro e w4 ⟨a',c',rfl,rM,fk⟩;have ET:=ae rM;clear rM))
   all_goals
    have gD:Hid (bK s p A { p with az:=p.az+1 } A w w4):=jY.out.later bQ;have eO:=ae (gD.out.trans (gD.out.at'.fT m a' c' ET.out.1 ET.out.2.1 ET.out.2.2.2 (fun _ q' cI e=>by have:=ET.out.2.2.1 q' cI;have:=jY.out.at'.ky _ e;omega)));have v20:=gD.out.at'.cell 20 _ rfl;have Js:=gD.out.at'.fz 20;have l4:=gD.out.at'.lt;clear bo fk hH CE MO y1 y2;go_wp2_with fail;have kO:=qj s _ _ _ eO.out.at' pt i hi bE 0;rw[show dm 0=.nilIface from rfl] at kO;refine kO.mono ?_;clear kO;rintro e w7 ⟨rfl,lD⟩;have rU:=ae (eO.out.trans lD);clear lD;go_wp2;go_end0;exact⟨rfl,_,_,rU.out,by rw[<-mh.out];rfl⟩
theorem JL(s:Nat)(p:Sk)(A:Sa)(w:World)(h:bp s p A w)(hI:bg p)(hT:p.tags<=4000000000000000000)(hU:p.az<=4000000000000000000)(i:Nat)(hi:i<3)(hk:¬(p.ao i).kind=0)(q:Sk)(hq:p.nf.gd i=q) :
 Calls prog 116 #[.pointer (some ⟨s,0,none⟩),.pointer (some ⟨s,2+i*6,none⟩)] w fun e w'=>e=.returned (.tuple #[])/\fL s p A w w' q:=by
 rcases gq p.hand (p.ao i).pl with⟨hg,_⟩|⟨k,eH,hg,gA,_⟩
 ·exact Mr s p A w h hI hT i hi hk hg q hq
 ·exact JM s p A w h hI hU i hi k eH hg gA hI.hand.once q hq
theorem Hn(s:Nat)(p:Sk)(A:Sa)(w:World)(h:bp s p A w)(hI:bg p)(hU:p.az<=4000000000000000000)(i:Nat)(hi:i<3)(q:Sk)(hq:p.nf.dH i=q) :
 Calls prog 117 #[.pointer (some ⟨s,0,none⟩),.pointer (some ⟨s,2+i*6,none⟩)] w fun e w'=>e=.returned (.tuple #[])/\fL s p A w w' q:=by
 cases hd:p.dead
 ·by_cases hc:6<=bW p.hand/\bY p.hand (p.ao i).pl=false
  ·exact Gk s p A w h i hi hd hc.1 hI.hand.len hc.2 q hq
  ·exact Ho s p A w h hI.fV i hi hd hI.hand.len hI.q6 ⟨hI.us,hU⟩ hc q hq
 ·exact Gj s p A w h hI.fV i hi hd q hq
theorem UU(s:Nat)(l:List Bf)(a:Option Addr)(c:Nat)(n:Int)(w:World)(c20:w.cell? ⟨s,20,none⟩=some (.slice a l.length c))(hB:bA w a l)(t:Bool)(ht:bY l n=t) :
 Calls prog 160 #[.pointer (some ⟨s,0,none⟩),i6 n] w (rB (.bool t) w):=by
 have HM:=ae hB;clear hB;subst ht;unfold bY
 rcases gq l n with⟨e,hi⟩|⟨k,hk,e,hi,-⟩
 ·rw[e];have HI:=ae hi;clear hi e;go_enter func160,ntmps160;go_wp2_with fail;refine cM (Fe l a c n _ (HM.out.later bQ) HI.out) ?_;intro w1 aw;go_wp2;go_ret;exact⟨rfl,bQ⟩
 ·rw[e];have HI:=ae hi;clear hi e;go_enter func160,ntmps160;go_wp2_with fail;refine cM (zr l a c n _ (HM.out.later bQ) k hk HI.out) ?_;intro w1 aw;go_wp2;go_ret;exact⟨rfl,bQ⟩
theorem Vg(sb s:Nat)(l:List Bf)(a:Option Addr)(c:Nat)(n:Int)(w:World)(h0:w.cell? ⟨sb,0,none⟩=some (.pointer (some ⟨s,0,none⟩)))(c20:w.cell? ⟨s,20,none⟩=some (.slice a l.length c))(hB:bA w a l)(t:Bool)(ht:(!bY l n)=t) :
 Calls prog 163 #[i6 n,.pointer (some ⟨sb,0,none⟩)] w (rB (.bool t) w):=by
 subst ht;have HB:=ae hB;clear hB;obtain⟨d,hd⟩:∃d,bY l n=d:=⟨_,rfl⟩
 rw[hd];have HD:=ae hd;clear hd;go_enter func163,ntmps163;go_wp2_with fail;refine cM (UU s l a c n w c20 HB.out d HD.out) ?_;intro w1 aw;go_wp2;go_ret;exact⟨rfl,aw⟩
end
section
open Go.RowKit Go.BigFrame
def yO(p:Int->Bool)(l:List Int):Int:=match l.findIdx? p with|some k=>(k:Int)|none=>-1
theorem FE{p:Int->Bool}{l:List Int}{k:Nat}(h:k<l.length)(hp:p l[k]=true)(hb:∀j (hj:j<k),p (l[j]'oM)=false):yO p l=k:=by
 have:l.findIdx? p=some k:=by
  rw[abX];exact⟨h,hp,fun j hj=>by rw[hb j hj];exact aa7⟩
 rw[yO,this]
theorem TH{p:Int->Bool}{l:List Int}(h:∀j (hj:j<l.length),p l[j]=false):yO p l=-1:=by
 have:l.findIdx? p=none:=by
  rw[acy];intro x hx;obtain⟨j,hj,rfl⟩:=abM hx;exact h j hj
 rw[yO,this]
theorem FH(g:Nat)(eg:∀args w,(callFunc g args).run prog w=.ok (.enter g args) w)(cp:Value)(p:Int->Bool)(l:List Int)(b c:Nat)(w:World)(hl:∀i (h:i<l.length),w.cell? ⟨b,i,none⟩=some (i6 l[i]))(bo:l.length<=9223372036854775807)
 (hp:∀(x:Int) w',bL w w'->Calls prog g #[i6 x,cp] w' (rB (.bool (p x)) w')) :
 Calls prog 154 #[.slice (some ⟨b,0,none⟩) l.length c,.func (.func g) #[] #[cp]] w (rB (i6 (yO p l)) w):=by
 have HP:=wX hp;have HL:=wX hl;clear hp hl;go_enter func154,ntmps154;go_wp2
 go_loopw[8] (fun i wr=>∃k:Nat,k<=l.length/\i=i6 k/\(∀j (hj:j<l.length),j<k->p l[j]=false)/\bL w wr) (fun i _=>l.length-(intOf i).toNat)
 case atStart=>exact⟨0,oM,rfl,fun j hj h=>absurd h (aa0 _),aX _ _⟩
 case round =>
  obtain⟨k,hk,rfl,dV,HB⟩:=hrel;have HN:=wX dV;clear dV
  by_cases au:k<l.length
  ·have c0:=ai HB (HL.out k au);have hq:=HP.out l[k] wr HB
   cases kb:p l[k]
   ·rw[kb] at hq;have HQ:=wX hq;clear hq;go_wp2_with fail;refine afT HQ.out ?_;rintro e w1 ⟨rfl,hb⟩;go_wp2;go_roundw
    case rel=>exact⟨k+1,oM,gN,fun j hj h=>by by_cases e:j=k;(subst e;exact kb);exact HN.out j hj oM,af HB hb⟩
    case measure=>simp[intOf];omega
   ·rw[kb] at hq;have HQ:=wX hq;clear hq;go_wp2_with fail;refine afT HQ.out ?_;rintro e w1 ⟨rfl,hb⟩;go_wp2;go_ret;exact⟨jI (FE au kb (fun j hj=>HN.out j oM hj)).symm,af HB hb⟩
  ·go_wp2;go_ret;exact⟨jI (TH (fun j hj=>HN.out j hj oM)).symm,HB⟩
def lA(P:Int->Bool)(l:List Int):List Int:=l.filter fun x=>!P x
theorem AB{P:Int->Bool}{l:List Int}{j:Nat}(h:j<l.length):lA P (l.take (j+1))=lA P (l.take j)++(if P l[j]=true then [] else [l[j]]):=by
 unfold lA;rw[abz h,afy]
 cases hp:P l[j]
 ·rw[afQ (by rw[hp];rfl)];rfl
 ·rw[afP (by rw[hp];exact aa7)];rfl
theorem FN{P:Int->Bool}{l:List Int}(h:∀j (hj:j<l.length),P l[j]=false):lA P l=l:=by
 unfold lA;rw[afN];intro x hx;obtain⟨j,hj,rfl⟩:=abM hx;rw[h j hj];rfl
structure qF(P:Int->Bool)(l cs:List Int)(i j:Nat):Prop where
 len:cs.length=l.length
 lt:i<j
 le:j<=l.length
 kept:cs.take i=lA P (l.take j)
 rest:cs.drop j=l.drop j
theorem qF.aeU{P:Int->Bool}{l cs:List Int}{i j:Nat}(h:qF P l cs i j):(lA P (l.take j)).length=i:=by
 rw[<-h.kept,abm,h.len];have:=h.lt;have:=h.le;omega
theorem qF.first{P:Int->Bool}{l:List Int}{k:Nat}(hk:k<l.length)(h1:P l[k]=true)(h2:∀j (hj:j<k),P (l[j]'oM)=false):qF P l l k (k+1):=by
 refine⟨rfl,oM,oM,?_,rfl⟩;rw[AB hk,aaV h1,afd,FN];intro j hj;rw[abm] at hj;rw[agK];exact h2 j oM
theorem qF.at{P:Int->Bool}{l cs:List Int}{i j:Nat}(h:qF P l cs i j)(hj:j<l.length):cs[j]'(by rw[h.len];exact hj)=l[j]:=by
 have e1:=agE (xs:=cs) (i:=j) (j:=0);have e2:=agE (xs:=l) (i:=j) (j:=0);rw[h.rest] at e1;rw[e1,agS,aaX hj,aaX (by rw[h.len];exact hj)] at e2;exact abY e2
theorem qF.out{P:Int->Bool}{l cs:List Int}{i j:Nat}(h:qF P l cs i j)(hj:j<l.length)(hp:P l[j]=true):qF P l cs i (j+1):=by
 refine⟨h.len,by have:=h.lt;omega,hj,?_,?_⟩
 ·rw[AB hj,aaV hp,afd];exact h.kept
 ·rw[<-af0,<-af0,h.rest]
theorem qF.put{P:Int->Bool}{l cs:List Int}{i j:Nat}(h:qF P l cs i j)(hj:j<l.length)(hp:P l[j]=false):qF P l (cs.set i l[j]) (i+1) (j+1):=by
 have hi:i<cs.length:=by rw[h.len];have:=h.lt;omega
 refine⟨by rw[abS];exact h.len,by have:=h.lt;omega,hj,?_,?_⟩
 ·rw[AB hj,aaP (by rw[hp];exact aa7),<-h.kept,abz (by rw[abS];exact hi),afc,List.take_set_of_le (aaO _)]
 ·rw[List.drop_set_of_lt (by have:=h.lt;omega),<-af0,<-af0,h.rest]
theorem qF.last{P:Int->Bool}{l cs:List Int}{i:Nat}(h:qF P l cs i l.length):cs.take i=lA P l/\(lA P l).length=i:=by
 have h1:=h.kept;have h2:=h.aeU;rw[aff] at h1 h2;exact⟨h1,h2⟩
theorem adG(w:World):(zeroValue 3).run prog w=.ok (i6 0) w:=Tryz.zeroValue3 w
theorem N5(g n c m:Nat)(w:World)(h1:m<n)(h2:n<=c):(Instr.slice 122 (.slice (some ⟨g,0,none⟩) n c) (some (i6 (m:Int))) none none).run prog w=.ok (.slice (some ⟨g,m,none⟩) (n-m) (c-m)) w:=by
 have k1:(m:Int)<=(n:Int):=oM;have k2:¬c=m:=oM;have k3:m<=n:=oM
 simp[go_sem,k2,k3]
theorem U6(g n c m:Nat)(w:World)(h1:m<n)(h2:n<=c):(Instr.slice 122 (.slice (some ⟨g,0,none⟩) n c) none (some (i6 (m:Int))) none).run prog w=.ok (.slice (some ⟨g,0,none⟩) m c) w:=by
 have k2:m<=c:=oM
 simp[go_sem,k2]
theorem zE{cs:List Int}{tl:List Value}{j:Nat}(hj:j<cs.length):(iw cs++tl)[j]?=some (i6 cs[j]):=by
 unfold iw;rw[abU (by rw[abe];exact hj),acq,aaX hj];rfl
theorem WO{cs:List Int}{tl:List Value}{i:Nat}(x:Int)(hi:i<cs.length):(iw cs++tl).set i (i6 x)=iw (cs.set i x)++tl:=by
 unfold iw;rw[af2 _ _ (by rw[abe];exact hi),agd]
theorem V9(f:Nat)(eg:∀args w,(callFunc f args).run prog w=.ok (.enter f args) w)(cp:Value)(P:Int->Bool)(l:List Int)(g c k:Nat)(tl:List Value)(w:World)(hg:w.heap[g]?=some (.cells (iw l++tl).toArray 3 (0,0)))(B3:tl.length=c-l.length)(jO:l.length<=c)(hlen:l.length<=9223372036854775807)
 (hp:∀(x:Int) w',aH (fun i=>i=g) w w'->Calls prog f #[i6 x,cp] w' (rB (.bool (P x)) w'))
 (hk:k<l.length) (uR:P l[k]=true) (vw:∀j (hj:j<k),P (l[j]'oM)=false) :
 Calls prog 162 #[.slice (some ⟨g,0,none⟩) l.length c,.func (.func f) #[] #[cp]] w fun e w' =>
  e=.returned (.slice (some ⟨g,0,none⟩) (lA P l).length c)/\(∃cur:List Value,w'.heap[g]?=some (.cells cur.toArray 3 (0,0))/\cur.length=c/\cur.take (lA P l).length=iw (lA P l))/\aH (fun i=>i=g) w w':=by
 have HG:=ae hg;have HT:=ae B3;have HP:=ae hp;have HM0:=ae (qF.first hk uR vw);have HI:=ae (FE hk uR vw);clear hg hp B3 uR vw;go_enter func162,ntmps162;go_wp2_with fail;refine(FH f eg cp P l g c _ (fun i hi=>(aR HG.out i).trans (zE hi)) oM (fun x w' hb=>HP.out x w' (aH.cj hb))).mono ?_;rw[HI.out];rintro e w1 ⟨rfl,aw⟩;have aE:((k:Int) == -1)=false:=by rw[aaU];omega
 go_wp2_with fail;have jL:Hid (aH (fun i=>i=g) w w1):=aH.cj aw;have EM:Hid (w1.heap[g]?=some (.cells (iw l++tl).toArray 3 (0,0))):=by show _=_;rw[aw.block g (aK HG.out)];exact HG.out
 clear aw
 go_loopw[5,6] (fun iv jv wr=>∃(i j:Nat) (cs:List Int),qF P l cs i j/\jv=i6 (j:Int)/\iv=i6 i/\wr.heap[g]?=some (.cells (iw cs++tl).toArray 3 (0,0))/\aH (fun i=>i=g) w wr) (fun _ jv _=>l.length-(intOf jv).toNat)
 case atStart=>exact⟨k,k+1,l,HM0.out,gN,rfl,EM.out,jL.out⟩
 case round =>
  clear EM jL HM0;obtain⟨i,j,cs,hm,rfl,rfl,Le,HO⟩:=hrel;have pc:=ae Le;have jW:=ae HO;have HM:=ae hm;have lg:=aK Le;have qB:=hm.lt;have pM:=hm.le;have Dj:=ae hm.len;clear Le HO hm
  by_cases au:j<l.length
  ·have hjc:j<cs.length:=by rw[Dj.out];exact au
   have mF:i<cs.length:=oM;have hx:=HM.out.at au;have c0:=(aR pc.out j).trans (zE hjc);have e0:=(aR pc.out i).trans (zE mF);rw[hx] at c0;have hq:=HP.out l[j] wr jW.out;have HIC:=ae mF;clear hx hjc
   cases kb:P l[j]
   ·have HN:=ae (HM.out.put au kb);rw[kb] at hq;have HQ:=ae hq;clear hq;generalize l[j]=x at *;go_wp2_with fail;refine HQ.out.mono ?_;rintro e w2 ⟨rfl,aC⟩;have uO:w2.heap[g]?=some (.cells (iw cs++tl).toArray 3 (0,0)):=by rw[aC.block g lg];exact pc.out
    have e2:=(aR uO i).trans (zE mF);have f2:=cG uO i;have qO:=ae uO;have bT:=ae aC;have l2:=aK uO;clear uO aC c0 e0;go_wp2;go_roundw
    case rel =>
     refine⟨i+1,j+1,_,HN.out,gN,gN,?_,(jW.out.later bT.out).setCell _ (il rfl) _⟩;rw[bJ qO.out,WO _ HIC.out]
    case measure=>simp[intOf];omega
   ·have HN:=ae (HM.out.out au kb);rw[kb] at hq;have HQ:=ae hq;clear hq;generalize l[j]=x at *;go_wp2_with fail;refine HQ.out.mono ?_;rintro e w2 ⟨rfl,aC⟩;have uO:w2.heap[g]?=some (.cells (iw cs++tl).toArray 3 (0,0)):=by rw[aC.block g lg];exact pc.out
    have qO:=ae uO;have bT:=ae aC;clear uO aC c0 e0;go_wp2;go_roundw
    case rel=>exact⟨i,j+1,cs,HN.out,gN,rfl,qO.out,jW.out.later bT.out⟩
    case measure=>simp[intOf];omega
  ·obtain rfl:j=l.length:=oM;have t1:¬(l.length:Int)<(l.length:Int):=oM;have fR:(iw cs++tl).length=c:=by rw[aaQ,iw,abe,Dj.out,HT.out];omega
   obtain⟨w2,hcr,G2,aC⟩:=tu (P:=prog) wr 122 3 0 _ 1 underlying122 adG rfl dM g i (l.length-i) (c-i) _ 3 pc.out oM (by rw[fR];omega) oM;have Ek:=fun w=>N5 g l.length c i w qB jO
   have Av:=fun w=>U6 g l.length c i w qB jO
   have qO:=ae (⟨G2,aC,fR⟩:_/\_/\_);clear G2 aC fR;obtain⟨mG,pN⟩:=HM.out.last;have Bq:=ae mG;have EP:=ae pN;clear mG pN;go_wp2;go_ret;obtain⟨G2,aC,fR⟩:=qO.out;refine⟨by rw[EP.out];rfl,⟨_,G2,?_,?_⟩,jW.out.grown aC (fun i e=>il (by simpa using e.symm))⟩
   ·rw[ago _ _ _ (by rw[fR];simp[Builtin.zeroCells,Value.cells];omega),fR]
   ·rw[EP.out,uo _ _ _ _ (by rw[fR];omega) (aaO _),abT (by rw[iw,abe,Dj.out];omega),iw,<-List.map_take,Bq.out]
    rfl
theorem TI(p:Int->Bool)(l:List Int):(yO p l=-1/\∀j (hj:j<l.length),p l[j]=false)\/∃(k:Nat) (h:k<l.length),yO p l=k/\p l[k]=true/\∀j (hj:j<k),p (l[j]'oM)=false:=by
 cases e:l.findIdx? p with
 |none =>
  left
  refine⟨by rw[yO,e],fun j hj=>?_⟩;rw[acy] at e;exact e _ (aa5 hj)
 |some k =>
  right
  have h:=e;rw[abX] at h;obtain⟨h1,h2,h3⟩:=h;exact⟨k,h1,by rw[yO,e],h2,fun j hj=>by have:=h3 j hj;simpa using this⟩
theorem ZG(f:Nat)(eg:∀args w,(callFunc f args).run prog w=.ok (.enter f args) w)(cp:Value)(P:Int->Bool)(l:List Int)(g c:Nat)(w:World)(hl:∀i (h:i<l.length),w.cell? ⟨g,i,none⟩=some (i6 l[i]))(hlen:l.length<=9223372036854775807)
 (hp:∀(x:Int) w',bL w w'->Calls prog f #[i6 x,cp] w' (rB (.bool (P x)) w')) (hi:yO P l=-1) :
 Calls prog 162 #[.slice (some ⟨g,0,none⟩) l.length c,.func (.func f) #[] #[cp]] w (rB (.slice (some ⟨g,0,none⟩) l.length c) w):=by
 have HI:=ae hi;have HL:=ae hl;have HP:=ae hp;clear hi hl hp;go_enter func162,ntmps162;go_wp2_with fail;refine(FH f eg cp P l g c _ HL.out oM HP.out).mono ?_;rw[HI.out];rintro e w1 ⟨rfl,aw⟩;go_wp2;go_ret;exact⟨rfl,aw⟩
theorem Qg(fv:Value)(a:Option Addr)(c:Nat)(w:World) :
 Calls prog 154 #[.slice a 0 c,fv] w (rB (i6 (-1)) w):=by
 go_enter func154,ntmps154;go_wp2;go_loop [8] (fun i=>i=i6 0) (fun _=>0);(case atStart=>rfl);(case round=>subst hrel;go_wp2;go_ret;exact⟨rfl,bQ⟩)
theorem V8(fv:Value)(a:Option Addr)(c:Nat)(w:World) :
 Calls prog 162 #[.slice a 0 c,fv] w (rB (.slice a 0 c) w):=by
 go_enter func162,ntmps162;go_wp2_with fail;refine cM (Qg fv a c _) ?_;intro w1 aw;go_wp2;go_ret;exact⟨rfl,aw⟩
theorem WN(l:List Int):(iw l).length=l.length:=by rw[iw,abe]
theorem aex(f:Nat)(eg:∀args w,(callFunc f args).run prog w=.ok (.enter f args) w)(cp:Value)(P:Int->Bool)(l:List Int)(a:Option Addr)(c:Nat)(w:World)(h:w.ownsRow 0 3 1 (.slice a l.length c) l.length (iw l))(hlen:l.length<=9223372036854775807)
 (hp:∀(x:Int) w',aH (gB a) w w'->Calls prog f #[i6 x,cp] w' (rB (.bool (P x)) w')) :
 Calls prog 162 #[.slice a l.length c,.func (.func f) #[] #[cp]] w fun e w'=>e=.returned (.slice a (lA P l).length c)/\w'.ownsRow 0 3 1 (.slice a (lA P l).length c) (lA P l).length (iw (lA P l))/\aH (gB a) w w':=by
 cases l with
 |nil =>
  refine cM (V8 _ a c w) ?_;intro w' hb;exact⟨rfl,dR h (fun g hg=>hb.block g (h.lt g hg).2),aH.cj hb⟩
 |cons y l0 =>
  generalize hl:y::l0=l at *;have h0:0<l.length:=by rw[<-hl];simp
  clear hl
  rcases h.2 with⟨_,h0'⟩|⟨g,cap,cur,hv,hg,Lg,jO,ig,hcs,ht⟩
  ·omega
  ·simp only[abV,afs] at hv;obtain⟨rfl,rfl⟩:=hv;have fR:cur.toList.length=c:=by rw[ab6];simpa using hcs
   have yk:cur.toList.take l.length=iw l:=by simpa using ht
   have Wg:cur.toList=iw l++cur.toList.drop l.length:=by rw[<-yk,ab8]
   have sJ:w.heap[g]?=some (.cells (iw l++cur.toList.drop l.length).toArray 3 (0,0)):=by rw[<-Wg,afk];exact Lg
   have gX:∀i,i=g->gB (some ⟨g,0,none⟩) i:=fun i e=>⟨_,rfl,e⟩
   rcases TI P l with⟨hi,dV⟩|⟨k,hk,hi,uR,vw⟩
   ·rw[FN dV];refine cM (ZG f eg cp P l g c w (fun i hi=>(aR sJ i).trans (zE hi)) hlen (fun x w' hb=>hp x w' (aH.cj hb)) hi) ?_;intro w' hb;exact⟨rfl,dR h (fun g hg=>hb.block g (h.lt g hg).2),aH.cj hb⟩
   ·refine(V9 f eg cp P l g c k (cur.toList.drop l.length) w sJ (by rw[ac5,fR]) jO hlen (fun x w' ho=>hp x w' (ho.mono gX)) hk uR vw).mono ?_;rintro e w' ⟨rfl,⟨V3,g',l',t'⟩,ho⟩;have yh:(lA P l).length<=l.length:=acE _ _;refine⟨rfl,⟨by rw[WN];omega,ir ⟨g,c,V3.toArray,rfl,ach _,g',oM,ig,by simpa using l',by simpa using t'⟩⟩,ho.mono gX⟩
end
section
open Go.RowKit Go.BigFrame Go.Maps
theorem M6(h:List Bf)(l:List Int):lA (fun x=>!bY h x) l=l.filter (bY h):=by
 unfold lA
 congr 1
 funext x
 simp
def Sk.gH(p:Sk)(i:Nat)(L:List Int):Sk:={ p with cl:=p.cl.set i { p.ao i with left:=L } }
section
variable{s:Nat}{p:Sk}{A:Sa}{w w':World}
theorem mL{i:Nat}(hi:i<3){k:Nat}(h:gB (A.la i) k):A.ay s k:=by
 obtain⟨q,hq,e⟩:=h;exact ir (ir ⟨i,hi,q,hq,e⟩)
theorem dk.gH(h:dk s p A w)(hl:p.cl.length=3){i:Nat}(hi:i<3)(L:List Int)(hO:aH (gB (A.la i)) w w')(hR:w'.ownsRow 0 3 1 (.slice (A.la i) L.length (A.lc i)) L.length (iw L)):dk s (p.gH i L) A w' where
 cE:=h.cE.frame hO (fun k e ⟨q,hq,ek⟩=>(h.vl i hi q hq).2.2 (ek▸e)) (fun⟨q,hq,ek⟩=>(h.vl i hi q hq).2.1 ek.symm) (fun r hr=>by
  have:=h.eY r (aa8 _ hr);exact⟨fun he ad ha e=>this.1 he ad ha (mL hi e),fun he ad ha e=>this.2 he ad ha (mL hi e)⟩)
 map:=h.map
 im:=h.im
 nb:=h.nb
 hand:=oc h.hand hO (fun aE q hq e=>h.eX aE q hq (mL hi e))
 cU:=h.cU
 bS:=h.bS
 queue:=mW h.queue hO (fun aE q hq e=>h.km aE q hq (mL hi e)) (fun r hr=>by
  have:=h.eY r (abn _ hr);exact⟨fun he ad ha e=>this.1 he ad ha (mL hi e),fun he ad ha e=>this.2 he ad ha (mL hi e)⟩)
 fe:=h.fe
 fA:=h.fA
 left:=fun j hj=>by
  unfold Sk.gH;rw[fP hl hi]
  by_cases kK:j=i
  ·rw[aaV kK,kK];exact hR
  ·rw[aaP kK];refine dR (h.left j hj) fun g hg=>?_
   obtain⟨q,hq,rfl⟩:=bG.1 hg;exact hO.block _ (h.fb hj hq) (fun⟨q',cI,e⟩=>h.ll j i hj hi kK q q' hq cI e)
 sv:=h.sv
 vl:=h.vl
 ll:=h.ll
 ia:=h.ia
 iH:=h.iH
 fh:=h.fh
 gW:=fun k e=>abF (h.gW k e) hO.size
theorem bp.gH(h:bp s p A w)(hl:p.cl.length=3){i:Nat}(hi:i<3)(L:List Int)(hO:aH (gB (A.la i)) w w')(hR:w'.ownsRow 0 3 1 (.slice (A.la i) L.length (A.lc i)) L.length (iw L)):bK s p A (p.gH i L) A w (w'.setCell ⟨s,2+i*6+3,none⟩ (.slice (A.la i) L.length (A.lc i))):=by
 have hs:¬gB (A.la i) s:=fun⟨q,hq,e⟩=>(h.mem.vl i hi q hq).1 e.symm
 have hb:w'.heap[s]?=some (.cells (p.cells A).toArray 127 (0,0)):=by rw[hO.block s h.lt hs];exact h.a7
 have cZ:=(h.mem.gH hl hi L hO hR).yR (A:=A) (p:=p) (w':=w'.setCell ⟨s,2+i*6+3,none⟩ (.slice (A.la i) L.length (A.lc i))) (aH.xx _) (by
  rw[bJ hb]
  congr 2
  match i,hi with
  |0,hi=>simp[Sk.cells,Sk.head,Sk.tail,gL,Sk.gH,fP hl hi]
  |1,hi=>simp[Sk.cells,Sk.head,Sk.tail,gL,Sk.gH,fP hl hi]
  |2,hi=>simp[Sk.cells,Sk.head,Sk.tail,gL,Sk.gH,fP hl hi]) (fun _ hk=>hk) ⟨rfl,rfl,rfl,rfl⟩
 exact⟨cZ.at',(hO.mono (fun k e=>mL hi e)).trans cZ.only (fun k hk=>il hk),fun k hk=>il hk,rfl,rfl,rfl,rfl⟩
end
theorem iG{F:Nat->Prop}{w w':World}{g j:Nat}{v:Value}(h:aH F w w')(hn:¬F g)(hc:w.cell? ⟨g,j,none⟩=some v):w'.cell? ⟨g,j,none⟩=some v:=(h.cell (p:=⟨g,j,none⟩) (aq hc) hn).trans hc
theorem Hj(s:Nat)(p:Sk)(A:Sa)(w:World)(h:bp s p A w)(pt:p.cl.length=3)(i:Nat)(hi:i<3)(hd:p.dead=true)(q:Sk)(hq:p.nf.eQ i=q) :
 Calls prog 118 #[.pointer (some ⟨s,0,none⟩),.pointer (some ⟨s,2+i*6,none⟩)] w fun e w'=>e=.returned (.tuple #[])/\fL s p A w w' q:=by
 have e1:p.nf.eQ i=p.nf.answer i bE 9:=by
  unfold Sk.eQ;rw[aaV (show p.nf.dead=true from hd)]
 rw[e1] at hq;have vu:=h.cell 29 _ rfl;rw[hd] at vu;have hl:=h.lt;have aL:=ae h;have HQ:=ae hq;clear h e1 hq;go_enter func118,ntmps118;go_wp2_with fail;refine cM (qj s p A _ (aL.out.later bQ) pt i hi bE 9) ?_;intro w7 lD;have rU:Hid (bK s p A (p.answer i bE 9) (A.drop i) w w7):=(bK.cX aL.out bQ).trans lD;clear lD;go_wp2;refine aaY (v:=.tuple #[]) (by simp[results,results118,go_sem]) rfl ?_;exact⟨rfl,_,_,rU.out,by rw[<-HQ.out];rfl⟩
theorem Hl(s:Nat)(p:Sk)(A:Sa)(w:World)(h:bp s p A w)(pt:p.cl.length=3)(i:Nat)(hi:i<3)(hd:p.dead=false)(q:Sk)(hq:p.nf.eQ i=q) :
 Calls prog 118 #[.pointer (some ⟨s,0,none⟩),.pointer (some ⟨s,2+i*6,none⟩)] w fun e w'=>e=.returned (.tuple #[])/\fL s p A w w' q:=by
 have e1:p.nf.eQ i=if(p.ao i).left.filter (bY p.hand)=[] then({ p.nf with dev:=p.nf.dev.flush }:Sk).answer i bE 0 else { p.nf with cl:=p.cl.set i { p.ao i with left:=(p.ao i).left.filter (bY p.hand) } }:=by
  unfold Sk.eQ;rw[aaP (by rw[show p.nf.dead=false from hd];exact aa7)]
  rfl
 rw[e1] at hq;have vu:=h.cell 29 _ rfl;rw[hd] at vu;have hl:=h.lt;obtain⟨-,-,-,d3,-⟩:=h.ao i hi;obtain⟨L,hL⟩:∃L,(p.ao i).left.filter (bY p.hand)=L:=⟨_,rfl⟩
 rw[hL] at hq;have HL:=ae hL;have aL:=ae h;have HQ:=ae hq;have kL:Hid ((p.ao i).left.length<=9223372036854775807):=by
  show(p.ao i).left.length<=9223372036854775807
  rcases(h.mem.left i hi).2 with⟨_,h0⟩|⟨g,cap,cur,hv,_,_,jO,ig,_⟩
  ·omega
  ·unfold maxLen at ig;omega
 clear h e1 hq hL;obtain⟨n,hn⟩:∃n,(p.ao i).left.length=n:=⟨_,rfl⟩
 have HN:=ae hn;rw[hn] at d3;clear hn;go_enter func118,ntmps118;go_wp2_with fail;have hw0:bL w (w.alloc (.cells #[.pointer (some ⟨s,0,none⟩)] 36)):=bQ;have cA:(w.alloc (.cells #[.pointer (some ⟨s,0,none⟩)] 36)).cell? ⟨w.heap.size,0,none⟩=some (.pointer (some ⟨s,0,none⟩)):=sM;generalize hW:w.alloc (.cells #[.pointer (some ⟨s,0,none⟩)] 36)=w0 at *;clear hW;have su:=ae (bK.cX aL.out hw0);have Dn:Hid (¬gB (A.la i) w.heap.size):=fun⟨q',cI,e⟩=>by have:=aL.out.mem.fb hi cI;omega
 have OI:Hid (¬gB (A.la i) s):=fun⟨q',cI,e⟩=>(aL.out.mem.vl i hi q' cI).1 e.symm
 have Wy:=aex 163 (by intro args w;go_simp) (.pointer (some ⟨w.heap.size,0,none⟩)) (fun x=>!bY p.hand x) (p.ao i).left (A.la i) (A.lc i) w0 (su.out.at'.mem.left i hi) kL.out (fun x w' hO=>Vg w.heap.size s p.hand A.ha A.hc x w' (iG hO Dn.out cA) (iG hO OI.out (su.out.at'.cell 20 _ rfl)) (oc su.out.at'.mem.hand hO (fun aE q' cI e=>aL.out.mem.eX aE q' cI (mL hi e))) _ rfl);rw[M6,HL.out,HN.out] at Wy;refine Wy.mono ?_;clear Wy;rintro e w1 ⟨rfl,bu,hO⟩;have HX:=ae (su.out.trans (su.out.at'.gH pt hi L hO bu));have g3:=iG hO OI.out (by have:=(su.out.at'.ao i hi).2.2.2.1;rw[HN.out] at this;exact this);have gf:w1.frozen? ⟨s,2+i*6+3,none⟩=false:=cG ((hO.block s su.out.at'.lt OI.out).trans su.out.at'.a7) _;have gx:=iG hO Dn.out cA;have g0:=iG hO OI.out (su.out.at'.cell 0 _ rfl);have l1:=aq g3;have lx:=aq gx;have nsx:s ≠ w.heap.size:=oM;clear bu hO hw0 cA su vu d3
 by_cases IB:L=[]
 ·subst IB;rw[aaV rfl] at HQ;go_wp2_with fail;refine cM (BG A.b p.dev A.an _ HX.out.at'.mem.cE.dev) ?_;intro w2 qC;have nQ:=ae (HX.out.trans (bp.step p.ag HX.out.at'.mem.nb HX.out.at' (HX.out.at'.mem.cE.step qC) HX.out.at'.mem.map HX.out.at'.mem.im (fun r hr=>Rq.dB.step (HX.out.at'.mem.cE.dev.reqs r hr).1 (HX.out.at'.mem.fh r (aa8 _ hr)) (zG (HX.out.at'.mem.cE.step qC)))));clear qC g3 gf gx g0 l1 lx;go_wp2_with fail;have kO:=qj s _ _ _ nQ.out.at' (show((p.gH i []).cl).length=3 by unfold Sk.gH;rw[abS];exact pt) i hi bE 0;rw[show dm 0=.nilIface from rfl] at kO;refine kO.mono ?_;clear kO;rintro e w7 ⟨rfl,lD⟩;have rU:=ae (nQ.out.trans lD);clear lD;go_wp2;go_end0;refine⟨rfl,_,_,rU.out,?_⟩;rw[<-HQ.out];show({ p.nf with dev:=p.nf.dev.flush,cl:=((p.cl.set i { p.ao i with left:=[] }).set i ⟨0,0,bE,[],bE,0⟩) }:Sk)={ p.nf with dev:=p.nf.dev.flush,cl:=(p.cl.set i ⟨0,0,bE,[],bE,0⟩) };rw[afA]
 ·rw[aaP IB] at HQ;have h0:0<L.length:=afi.2 IB;have h0':(0:Int)<(L.length:Int):=oM;clear IB;go_wp2;refine aaY (v:=.tuple #[]) (by simp[results,results118,go_sem]) rfl ?_;exact⟨rfl,_,_,HX.out,by rw[<-HQ.out];rfl⟩
theorem JN(s:Nat)(p:Sk)(A:Sa)(w:World)(h:bp s p A w)(pt:p.cl.length=3)(i:Nat)(hi:i<3)(q:Sk)(hq:p.nf.eQ i=q) :
 Calls prog 118 #[.pointer (some ⟨s,0,none⟩),.pointer (some ⟨s,2+i*6,none⟩)] w fun e w'=>e=.returned (.tuple #[])/\fL s p A w w' q:=by
 cases hd:p.dead
 ·exact Hl s p A w h pt i hi hd q hq
 ·exact Hj s p A w h pt i hi hd q hq
end
end Go.Proofs.YtlhgjplipgandaaGreatDoor
