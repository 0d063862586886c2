/- Joined. -/
import Derived.Laws.OwnMore
import Derived.Deep.OwnRows
import Derived.Test.YtlhgjplipgandaaGreatDoorF36
import Derived.Test.YtlhgjplipgandaaGreatDoorF28
set_option maxRecDepth 100000
set_option maxHeartbeats 8000000
set_option linter.unusedSimpArgs false
set_option linter.unusedSectionVars false
namespace Go.Proofs.YtlhgjplipgandaaGreatDoor
open _root_.Go.Proofs.Tryz
open Go.RowKit Go.BigFrame Go.Maps
theorem Cb(w0:World):Calls prog 35 #[] w0 fun e w'=>e=.returned (.map (some w0.heap.size))/\GG w0 3 td w':=by
 have H0:=ae (WV w0);have Tt:=@run_makeMap prog;go_enter func35,ntmps35;go_wp2_with(first|(obtain⟨ho,hb⟩:=H0.out;have HB:=ae hb;clear hb;have cV:keyOf prog 9 (.string FQ)=some (.string FQ.data.toList):=abL underlying9 (by unfold maxLen;decide);refine qh _ rfl _ _ _ 77 rfl 9 3 (acI underlying9) underlying77 (plainElem prog 3) w0.heap.size 0 _ rfl ho (by unfold maxLen;omega) _ _ _ rfl rfl cV _ [] (afI underlying3 (acP oM)) ?_;intro w2 fZ gG;have H1:Hid (GG w0 (0+1) _ w2):=⟨fZ,yM HB.out gG (aaO _)⟩;clear ho fZ gG HB cV H0)|(obtain⟨ho,hb⟩:=H1.out;have HB:=ae hb;clear hb;have cV:keyOf prog 9 (.string CX)=some (.string CX.data.toList):=abL underlying9 (by unfold maxLen;decide);refine qh _ rfl _ _ _ 77 rfl 9 3 (acI underlying9) underlying77 (plainElem prog 3) w0.heap.size 1 _ rfl ho (by unfold maxLen;omega) _ _ _ rfl rfl cV _ [] (afI underlying3 (acP oM)) ?_;intro w2 fZ gG;have H2:Hid (GG w0 (1+1) _ w2):=⟨fZ,yM HB.out gG (aaO _)⟩;clear ho fZ gG HB cV H1)|(obtain⟨ho,hb⟩:=H2.out;have HB:=ae hb;clear hb;have cV:keyOf prog 9 (.string FR)=some (.string FR.data.toList):=abL underlying9 (by unfold maxLen;decide);refine qh _ rfl _ _ _ 77 rfl 9 3 (acI underlying9) underlying77 (plainElem prog 3) w0.heap.size 2 _ rfl ho (by unfold maxLen;omega) _ _ _ rfl rfl cV _ [] (afI underlying3 (acP oM)) ?_;intro w2 fZ gG;have H3:Hid (GG w0 (2+1) _ w2):=⟨fZ,yM HB.out gG (aaO _)⟩;clear ho fZ gG HB cV H2));go_ret;exact⟨rfl,H3.out⟩
theorem AE{w0 w':World}(h:GG w0 3 td w')(s:ByteArray)(hs:s.size<=9223372036854775807)(k:Int)(hk:∀c,td.atKey (.string s.data.toList) (.lit (.int .i64 0))=.lit (.int .i64 c)->c=k):(Instr.lookup 77 (.map (some w0.heap.size)) (.string s) false).run prog w'=.ok (i6 k) w':=by
 obtain⟨c,gY,eB,-⟩:=h.1.lookup_int (acI underlying9) underlying77 underlying3 (adH _) (ZX s hs);rw[hk c eB] at gY;exact gY
structure lf(g s:Nat)(p:Sk)(A:Sa)(w:World):Prop where
 st:bp s p A w
 a7:w.heap[g]?=some (.cells #[.pointer (some ⟨A.b,0,none⟩),.pointer (some ⟨s,0,none⟩)] 72 (0,0))
 off:¬A.ay s g
section
variable{g s:Nat}{p p':Sk}{A A':Sa}{w w':World}
theorem lf.later(h:lf g s p A w)(hb:bL w w'):lf g s p A w':=⟨h.st.later hb,by rw[hb.block g (aK h.a7)];exact h.a7,h.off⟩
theorem lf.cells(h:lf g s p A w):w.cell? ⟨g,0,none⟩=some (.pointer (some ⟨A.b,0,none⟩))/\w.cell? ⟨g,1,none⟩=some (.pointer (some ⟨s,0,none⟩))/\w.frozen? ⟨g,1,none⟩=false/\g<w.heap.size:=⟨by rw[aR h.a7];rfl,by rw[aR h.a7];rfl,cG h.a7 1,aK h.a7⟩
end
structure E0(g s:Nat)(A:Sa)(w:World)(q:Sk)(s':Nat)(p':Sk)(A':Sa)(w':World):Prop where
 at':lf g s' p' A' w'
 nf:p'.nf=q
 only:aH (fun j=>A.ay s j\/j=g) w w'
 ay:∀j,A'.ay s' j->A.ay s j\/w.heap.size<=j
 b:A'.b=A.b
 X:A'.X=A.X
 v:A'.v=A.v\/w.heap.size<=A'.v
def kg(g s:Nat)(A:Sa)(w:World)(q:Sk)(w':World):Prop:=∃s' p' A',E0 g s A w q s' p' A' w'
section
variable{g s s':Nat}{p p':Sk}{A A':Sa}{w w1 w':World}{q:Sk}
theorem lf.code(h:lf g s p A w)(hb:bL w w1)(hk:fL s p A w1 w' q):kg g s A w q w':=by
 obtain⟨p',A',hs,hn⟩:=hk;have h1:=h.later hb;refine⟨s,p',A',⟨hs.at',?_,?_⟩,hn,?_,?_,hs.same.1,hs.same.2.2.2,il hs.same.2.1⟩
 ·rw[hs.only.block g (aK h1.a7) h.off,hs.same.1];exact h1.a7
 ·exact fun e=>(hs.ay g e).elim h.off (fun e2=>by have:=aK h1.a7;omega)
 ·exact(aH.cj (F:=fun j=>A.ay s j\/j=g) hb).trans hs.only (fun j e=>il (il e))
 ·exact fun j hj=>(hs.ay j hj).imp id (fun e=>abb hb.size e)
theorem lf.same(h:lf g s p A w)(hb:bL w w'):kg g s A w p.nf w':=h.code (aX _ _) ⟨p,A,bK.cX h.st hb,rfl⟩
theorem E0.later(h:E0 g s A w q s' p' A' w1)(hb:bL w1 w'):E0 g s A w q s' p' A' w' :=
 ⟨h.at'.later hb,h.nf,h.only.trans (aH.cj (F:=fun _=>False) hb) (fun _ e=>e.elim),h.ay,h.b,h.X,h.v⟩
theorem kg.later(h:kg g s A w q w1)(hb:bL w1 w'):kg g s A w q w':=by
 obtain⟨s',p',A',h⟩:=h;exact⟨s',p',A',h.later hb⟩
theorem kg.bel{W:World}(h:kg g s A w q w')(hb:bL W w)(hf:∀j,A.ay s j->W.heap.size<=j)(hg:W.heap.size<=g):bL W w':=by
 obtain⟨s',p',A',h⟩:=h;exact hb.trans (h.only.below hb.size (fun j hj=>hj.elim (hf j) (fun e=>by rw[e];exact hg)))
end
def P0(q:Sk)(a:Int):List UInt8:=if 0<=a/\a<3 then(if(q.ao a.toNat).err=0 then [100,97,116,97,32]++(q.ao a.toNat).gO.data.toList else eb (q.ao a.toNat).err) else eb 5
def BI(q:Sk)(a:Int):List UInt8:=if q.waits a=true then [119,97,105,116,115] else P0 q a
theorem adv(a:List UInt8)(b:ByteArray)(h:a.length+b.size<=9223372036854775807)(W:World):Sem.run prog (Op.stringOp .add ⟨a.toArray⟩ b) W=.ok (.string ⟨(a++b.data.toList).toArray⟩) W:=by
 have:=rS a b.data.toList (by rw[show b.data.toList.length=b.size from ab6];exact h) W;exact this
theorem Xd(g s:Nat)(p:Sk)(A:Sa)(w:World)(h:lf g s p A w)(hLW:lO w)(hG:∀i,0<=(p.ao i).err/\(p.ao i).err<=100/\(p.ao i).gO.size<=1000)(a:Int):Calls prog 36 #[.pointer (some ⟨g,0,none⟩),i6 a] w (rB (.string ⟨(BI p a).toArray⟩) w):=by
 obtain⟨-,c1,-,lg⟩:=h.cells;have aL:=ae h.st;have gM:=ae hLW;unfold BI
 cases hw:p.waits a
 ·have HW:=ae hw;rw[aaP aa7];unfold P0
  by_cases ha:0<=a/\a<3
  ·rw[aaV ha];obtain⟨i,rfl⟩:∃i:Nat,a=i:=⟨a.toNat,oM⟩
   rw[abG];have hi:i<3:=oM;have IM:=hG i;have Kb:=ae (fun w'=>ab4 s p A i hi w');obtain⟨er,iq⟩:∃er,(p.ao i).err=er:=⟨_,rfl⟩
   obtain⟨gt,Th⟩:∃gt,(p.ao i).gO=gt:=⟨_,rfl⟩
   rw[iq,Th] at IM Kb;rw[iq,Th];clear iq Th h hLW hG ha hw
   by_cases he:er=0
   ·subst he;rw[aaV rfl];rw[show dm 0=.nilIface from rfl] at Kb;have K9:=adv [100,97,116,97,32] gt (by simp;omega);obtain⟨T,hT⟩:∃T,([100,97,116,97,32]:List UInt8)++gt.data.toList=T:=⟨_,rfl⟩
    rw[hT] at K9 ⊢;clear hT IM;go_enter func36,ntmps36;go_wp2_with fail;refine cM (n6 s p A i w aL.out false HW.out) ?_;intro w1 rfl;go_wp2_with fail;refine cM (Kb.out _ aL.out) ?_;intro w2 aC;have bT:=ae aC;clear aC Kb;go_wp2;go_ret;exact⟨rfl,bT.out⟩
   ·rw[aaP he];have ze:=ae (fun w' h'=>n4 er w' h' ⟨IM.1,IM.2.1⟩);rw[show dm er=.iface 87 (i6 er) by unfold dm;rw[aaP he]] at Kb ze;generalize eb er=T at *;clear IM he;go_enter func36,ntmps36;go_wp2_with fail;refine cM (n6 s p A i w aL.out false HW.out) ?_;intro w1 rfl;go_wp2_with fail;refine cM (Kb.out _ aL.out) ?_;intro w2 aC;have bT:=ae aC;clear aC Kb;go_wp2_with fail;refine cM (ze.out _ (gM.out.later bT.out)) ?_;intro w3 bo;have fi:=ae (af bT.out bo);clear bo;go_wp2;go_ret;exact⟨rfl,fi.out⟩
  ·rw[aaP ha];have RJ:=ae (ZS s a ha);have ze:=ae (fun w' h'=>n4 5 w' h' oM);rw[show dm 5=.iface 87 (i6 5) from rfl] at ze;generalize eb 5=T at *;clear h hLW hG ha hw;go_enter func36,ntmps36;go_wp2_with fail;refine cM (n6 s p A a w aL.out false HW.out) ?_;intro w1 rfl;go_wp2_with fail;refine cM (RJ.out _) ?_;intro w2 aC;have bT:=ae aC;clear aC RJ;go_wp2_with fail;refine cM (ze.out _ (gM.out.later bT.out)) ?_;intro w3 bo;have fi:=ae (af bT.out bo);clear bo;go_wp2;go_ret;exact⟨rfl,fi.out⟩
 ·have HW:=ae hw;rw[aaV rfl];clear h hLW hG hw;go_enter func36,ntmps36;go_wp2_with fail;refine cM (n6 s p A a w aL.out true HW.out) ?_;intro w1 rfl;go_wp2;go_ret;exact⟨rfl,aX _ _⟩
theorem V1(g s:Nat)(p:Sk)(A:Sa)(w:World)(h:lf g s p A w)(kp:Int)(To:0<=kp/\kp<=18446744073709551615)(q:Sk)(hq:xF (p.dev.fs kp)=q):Calls prog 47 #[.pointer (some ⟨g,0,none⟩),.int .u64 kp] w fun e w'=>e=.returned (.tuple #[])/\kg g s A w q w':=by
 obtain⟨c0,c1,f1,lg⟩:=h.cells;have HP:=ae h;have HKP:=ae To;have HQ:=ae hq;clear h To hq;go_enter func47,ntmps47;go_wp2_with fail;refine(Sn A.b p.dev A.an kp HKP.out w HP.out.st.mem.cE.dev).mono ?_;rintro e w1 ⟨nR,rfl,hd⟩;have HD:=ae hd;have hgA:¬A.ay s g:=HP.out.off;have wS:∀j,A.an.ay A.b j->A.ay s j:=fun j hj=>ir (il (ir hj))
 have Yc:=ae wS;have EK:Hid (w1.heap[g]?=some (.cells #[.pointer (some ⟨A.b,0,none⟩),.pointer (some ⟨s,0,none⟩)] 72 (0,0))):=by
  show _=_;rw[hd.only.block g lg (fun e=>hgA (wS g e))];exact HP.out.a7
 have d0:w1.cell? ⟨g,0,none⟩=some (.pointer (some ⟨A.b,0,none⟩)):=by rw[aR EK.out];rfl
 have mn:=aq d0;clear hd wS hgA c0 c1 f1;go_wp2_with fail;refine(Jj A.b (p.dev.fs kp) nR w1 HD.out.dev rfl A.X (fun j hj=>abF (HP.out.st.mem.gW j hj) HD.out.only.size)).mono ?_;rintro e w2 ⟨s',v',E3,rfl,cZ,aC,z1,z2,z3⟩;have HS:=ae cZ;have HZ:=ae (⟨aC,z1,z2,z3⟩:_/\_/\_/\_);have vI:w2.heap[g]?=some (.cells #[.pointer (some ⟨A.b,0,none⟩),.pointer (some ⟨s,0,none⟩)] 72 (0,0)):=by rw[aC.block g mn];exact EK.out
 have bT:=ae vI;have d1:w2.cell? ⟨g,1,none⟩=some (.pointer (some ⟨s,0,none⟩)):=by rw[aR vI];rfl
 have f1:w2.frozen? ⟨g,1,none⟩=false:=cG vI 1;have lg2:=aq d1;clear cZ aC z1 z2 z3 vI;go_wp2;go_end0;have hz:=HD.out.only.size;have hfn:∀j,(Po A.b v' E3 nR A.X).ay s' j->A.ay s j\/w.heap.size<=j:=by
  obtain⟨-,z1,z2,z3⟩:=HZ.out;rintro j (e|(e|e)|⟨i,_,q',cI,_⟩)
  ·exact ir oM
  ·have e':j=E3:=e;exact ir oM
  ·exact(HD.out.ay j e).imp (Yc.out j) id
  ·cases cI
 have Tv:¬(Po A.b v' E3 nR A.X).ay s' g:=fun e=>by
  obtain⟨-,z1,z2,z3⟩:=HZ.out
  rcases hfn g e with h1|h1
  ·exact HP.out.off h1
  ·omega
 have hvg:¬v'=g:=by have:=HZ.out.2.2.1;omega
 have hO:aH (fun j=>j=g) w2 (w2.setCell ⟨g,1,none⟩ (.pointer (some ⟨s',0,none⟩))):=(aH.refl (fun j=>j=g) w2).setCell ⟨g,1,none⟩ (il rfl) _;refine⟨rfl,s',xF (p.dev.fs kp),Po A.b v' E3 nR A.X,⟨?_,?_,Tv⟩,?_,?_,hfn,rfl,rfl,ir (by have:=HZ.out.2.2.1;show w.heap.size<=v';omega)⟩
 ·exact HS.out.frame hO (fun j hj e=>Tv (e▸hj)) hvg (fun aE=>absurd rfl aE) (fun aE=>absurd rfl aE) (fun r hr=>by
   have dj:r∈([]:List Rq)++(p.dev.fs kp).busy:=hr
   cases dj)
 ·rw[bJ bT.out];rfl
 ·rw[U5 _ rfl];exact HQ.out
 ·exact((HD.out.only.mono (fun j e=>il (Yc.out j e))).trans (aH.cj (F:=fun _=>False) HZ.out.1) (fun _ e=>e.elim)).trans hO (fun j e=>il (ir e))
theorem qH{w w1:World}{v0 v1 v2 v3:Value}{T:TypeId}(h:Below (w.alloc (.cells #[v0,v1,v2,v3] T)).heap.size (w.alloc (.cells #[v0,v1,v2,v3] T)) w1):w1.cell? ⟨w.heap.size,0,none⟩=some v0/\w1.cell? ⟨w.heap.size,1,none⟩=some v1/\w1.cell? ⟨w.heap.size,2,none⟩=some v2/\w1.cell? ⟨w.heap.size,3,none⟩=some v3 :=
 ⟨(h.cell (p:=⟨w.heap.size,0,none⟩) sM).trans sM,(h.cell (p:=⟨w.heap.size,1,none⟩) sM).trans sM,(h.cell (p:=⟨w.heap.size,2,none⟩) sM).trans sM,(h.cell (p:=⟨w.heap.size,3,none⟩) sM).trans sM⟩
theorem uw{w w1:World}{v0 v1 v2 v3:Value}{T:TypeId}(h:w.alloc (.cells #[v0,v1,v2,v3] T)=w1):w1.cell? ⟨w.heap.size,0,none⟩=some v0/\w1.cell? ⟨w.heap.size,1,none⟩=some v1/\w1.cell? ⟨w.heap.size,2,none⟩=some v2/\w1.cell? ⟨w.heap.size,3,none⟩=some v3:=by
 subst h;exact qH (aX _ _)
theorem xD{xw:ByteArray}{xa xb:Int}{dt:ByteArray}(hx:kM ⟨xw,xa,xb,dt⟩)(h0:aV ⟨xw,xa,xb,dt⟩=0)(w:World):Calls prog 23 #[.agg #[.string xw,i6 xa,i6 xb,.string dt]] w (rB .nilIface w):=by
 have:=vO ⟨xw,xa,xb,dt⟩ w hx;rw[h0] at this;exact this
theorem rW(q:Sk)(x kind pl:Int)(data:ByteArray):0<=(q.ask x kind pl data).1/\(q.ask x kind pl data).1<=100:=by
 unfold Sk.ask
 split
 ·show 0<=dy x kind pl data/\dy x kind pl data<=100;unfold dy
  split
  ·omega
  ·split
   ·omega
   ·split<;>omega
 ·split
  ·show(0:Int)<=6/\(6:Int)<=100;omega
  ·show(0:Int)<=0/\(0:Int)<=100;omega
theorem xX(q:Sk)(i:Int)(fl:Bool):0<=(q.cz i fl).1/\(q.cz i fl).1<=100:=by
 unfold Sk.cz
 split
 ·show(0:Int)<=5/\(5:Int)<=100;omega
 ·split
  ·show(0:Int)<=5/\(5:Int)<=100;omega
  ·split
   ·show(0:Int)<=0/\(0:Int)<=100;omega
   ·split
    ·show(0:Int)<=0/\(0:Int)<=100;omega
    ·split
     ·show(0:Int)<=0/\(0:Int)<=100;omega
     ·show(0:Int)<=0/\(0:Int)<=100;omega
theorem kg.gS{g s:Nat}{A:Sa}{w w1 w':World}{q:Sk}(h:kg g s A w1 q w')(hb:bL w w1):kg g s A w q w':=by
 obtain⟨s',p',A',hs⟩:=h;refine⟨s',p',A',hs.at',hs.nf,(aH.cj (F:=fun j=>A.ay s j\/j=g) hb).trans hs.only (fun j e=>il e),fun j hj=>(hs.ay j hj).imp id (fun e=>abb hb.size e),hs.b,hs.X,hs.v.imp id (fun e=>abb hb.size e)⟩
def ks(g s:Nat)(A:Sa)(w:World)(t:List UInt8)(q:Sk)(e:Ending)(w':World):Prop:=e=.returned (.string ⟨t.toArray⟩)/\kg g s A w q w'
section
variable(W:World)(g s:Nat)(p:Sk)(A:Sa)(w:World)
theorem Ul(h:lf g s p A w)(n:Nat)(hf:eT n p)(_:n<=3880000)(hLW:lO W)(fB:bL W w)(fF:∀j,A.ay s j->W.heap.size<=j)(fG:W.heap.size<=g)(xa xb:Int)(dt:ByteArray)(hx:kM ⟨⟨#[114,101,97,100]⟩,xa,xb,dt⟩)(h0:aV ⟨⟨#[114,101,97,100]⟩,xa,xb,dt⟩=0):Calls prog 12 #[.pointer (some ⟨g,0,none⟩),.agg #[.string ⟨#[114,101,97,100]⟩,i6 xa,i6 xb,.string dt]] w (ks g s A w (eb (p.nf.ask xa 1 xb dt).1) (p.nf.ask xa 1 xb dt).2):=by
 have jy:=ae (rW p.nf xa 1 xb dt);obtain⟨n0,fp⟩:∃n0,(p.nf.ask xa 1 xb dt).1=n0:=⟨_,rfl⟩;rw[fp] at jy;have mo:Hid (p.nf.ask xa 1 xb dt=(n0,(p.nf.ask xa 1 xb dt).2)):=(by show _=_;rw[<-fp]);rw[fp];clear fp;have HP:=ae h;have fW:=ae (xD hx h0);have HI:=ae hf;have gM:=ae hLW;have gZ:=ae (⟨fB,fF,fG⟩:_/\_/\_);have lG:=aK h.a7;have du:¬A.ay s w.heap.size:=(fun e=>by have:=h.st.bC _ e;omega);have gm:=ae du;clear h hx hf hLW fB fF fG du h0;go_enter func12,ntmps12;go_wp2_with fail;refine(fW.out _).mono ?_;rintro e w1 ⟨rfl,aw⟩;have aN:Hid (bL w w1):=af (aA w _) aw;have dN:=ae (HP.out.later aN.out);have eD:=ae (fun t w' (hk:kg g s A w1 t w')=>hk.gS aN.out);obtain⟨b0,b1,b2,b3⟩:=qH aw;have g1:w1.cell? ⟨g,1,none⟩=some (.pointer (some ⟨s,0,none⟩)):=(HP.out.later aN.out).cells.2.1;have mn:=aq g1;have nY:=aq b0;clear aw fW;generalize w.heap.size=q at *;go_upto_region 8 with fail;go_region_held3 (fun w'=>w'.cell? ⟨g,1,none⟩=some (.pointer (some ⟨s,0,none⟩))/\w'.cell? ⟨q,0,none⟩=some (.string ⟨#[114,101,97,100]⟩)/\w'.cell? ⟨q,1,none⟩=some (i6 xa)/\w'.cell? ⟨q,2,none⟩=some (i6 xb)/\w'.cell? ⟨q,3,none⟩=some (.string dt)) (first|exact⟨ai (w:=w1) (aX _ _) g1,ai (w:=w1) (aX _ _) b0,ai (w:=w1) (aX _ _) b1,ai (w:=w1) (aX _ _) b2,ai (w:=w1) (aX _ _) b3⟩|exact⟨ai (w:=w1) (aX _ _).drew g1,ai (w:=w1) (aX _ _).drew b0,ai (w:=w1) (aX _ _).drew b1,ai (w:=w1) (aX _ _).drew b2,ai (w:=w1) (aX _ _).drew b3⟩|exact⟨aM,aM,aM,aM,aM⟩) (first|(go_at_call 35;refine(Cb _).mono ?_;rintro e wK ⟨rfl,hk⟩;have wZ:(Instr.lookup 77 (.map (some w1.heap.size)) (.string ⟨#[114,101,97,100]⟩) false).run prog wK=.ok (i6 1) wK:=AE hk ⟨#[114,101,97,100]⟩ dM 1 (fun c hc=>Qo hc);have jK:Hid (bL w1 wK):=(aX _ _).drew.trans hk.2;have k0:=ai jK.out g1;have k1:=ai jK.out b0;have k2:=ai jK.out b1;have k3:=ai jK.out b2;have k4:=ai jK.out b3)|(go_at_call 34;refine(n4 n0 _ (gM.out.later (af (dW.out.bel gZ.out.1 gZ.out.2.1 gZ.out.2.2) bQ)) jy.out).mono ?_;rintro e wT ⟨rfl,dX⟩;have ie:=ae (dW.out.later (af (aX _ _) dX));have t0:=ai dX m0;have t1:=ai dX m1;have t2:=ai dX m2;have t3:=ai dX m3;have t4:=ai dX m4)|(go_at_call 27;refine(CM s p A _ (dN.out.st.later (af jK.out bQ)) HI.out.inv (by have:=HI.out.tags;omega) (by have:=HI.out.az;omega) xa 1 xb dt _ _ mo.out).mono ?_;rintro e wA ⟨rfl,hok⟩;have dW:=ae (eD.out _ _ (dN.out.code (af jK.out bQ) hok));obtain⟨pA,AA,fu,-⟩:=hok;have m0:=(fu.only.cell (p:=⟨g,1,none⟩) (by have:=jK.out.size;(try simp);omega) HP.out.off).trans (ai (w:=wK) bQ k0);have m1:=(fu.only.cell (p:=⟨q,0,none⟩) (by have:=jK.out.size;(try simp);omega) gm.out).trans (ai (w:=wK) bQ k1);have m2:=(fu.only.cell (p:=⟨q,1,none⟩) (by have:=jK.out.size;(try simp);omega) gm.out).trans (ai (w:=wK) bQ k2);have m3:=(fu.only.cell (p:=⟨q,2,none⟩) (by have:=jK.out.size;(try simp);omega) gm.out).trans (ai (w:=wK) bQ k3);have m4:=(fu.only.cell (p:=⟨q,3,none⟩) (by have:=jK.out.size;(try simp);omega) gm.out).trans (ai (w:=wK) bQ k4)));all_goals (clear hk wZ fu dX;go_wp2;go_ret;exact⟨rfl,ie.out⟩)
theorem QK(h:lf g s p A w)(n:Nat)(hf:eT n p)(_:n<=3880000)(hLW:lO W)(fB:bL W w)(fF:∀j,A.ay s j->W.heap.size<=j)(fG:W.heap.size<=g)(xa xb:Int)(dt:ByteArray)(hx:kM ⟨⟨#[119,114,105,116,101]⟩,xa,xb,dt⟩)(h0:aV ⟨⟨#[119,114,105,116,101]⟩,xa,xb,dt⟩=0):Calls prog 12 #[.pointer (some ⟨g,0,none⟩),.agg #[.string ⟨#[119,114,105,116,101]⟩,i6 xa,i6 xb,.string dt]] w (ks g s A w (eb (p.nf.ask xa 2 xb dt).1) (p.nf.ask xa 2 xb dt).2):=by
 have jy:=ae (rW p.nf xa 2 xb dt);obtain⟨n0,fp⟩:∃n0,(p.nf.ask xa 2 xb dt).1=n0:=⟨_,rfl⟩;rw[fp] at jy;have mo:Hid (p.nf.ask xa 2 xb dt=(n0,(p.nf.ask xa 2 xb dt).2)):=(by show _=_;rw[<-fp]);rw[fp];clear fp;have HP:=ae h;have fW:=ae (xD hx h0);have HI:=ae hf;have gM:=ae hLW;have gZ:=ae (⟨fB,fF,fG⟩:_/\_/\_);have lG:=aK h.a7;have du:¬A.ay s w.heap.size:=(fun e=>by have:=h.st.bC _ e;omega);have gm:=ae du;clear h hx hf hLW fB fF fG du h0;go_enter func12,ntmps12;go_wp2_with fail;refine(fW.out _).mono ?_;rintro e w1 ⟨rfl,aw⟩;have aN:Hid (bL w w1):=af (aA w _) aw;have dN:=ae (HP.out.later aN.out);have eD:=ae (fun t w' (hk:kg g s A w1 t w')=>hk.gS aN.out);obtain⟨b0,b1,b2,b3⟩:=qH aw;have g1:w1.cell? ⟨g,1,none⟩=some (.pointer (some ⟨s,0,none⟩)):=(HP.out.later aN.out).cells.2.1;have mn:=aq g1;have nY:=aq b0;clear aw fW;generalize w.heap.size=q at *;go_upto_region 8 with fail;go_region_held3 (fun w'=>w'.cell? ⟨g,1,none⟩=some (.pointer (some ⟨s,0,none⟩))/\w'.cell? ⟨q,0,none⟩=some (.string ⟨#[119,114,105,116,101]⟩)/\w'.cell? ⟨q,1,none⟩=some (i6 xa)/\w'.cell? ⟨q,2,none⟩=some (i6 xb)/\w'.cell? ⟨q,3,none⟩=some (.string dt)) (first|exact⟨ai (w:=w1) (aX _ _) g1,ai (w:=w1) (aX _ _) b0,ai (w:=w1) (aX _ _) b1,ai (w:=w1) (aX _ _) b2,ai (w:=w1) (aX _ _) b3⟩|exact⟨ai (w:=w1) (aX _ _).drew g1,ai (w:=w1) (aX _ _).drew b0,ai (w:=w1) (aX _ _).drew b1,ai (w:=w1) (aX _ _).drew b2,ai (w:=w1) (aX _ _).drew b3⟩|exact⟨aM,aM,aM,aM,aM⟩) (first|(go_at_call 35;refine(Cb _).mono ?_;rintro e wK ⟨rfl,hk⟩;have wZ:(Instr.lookup 77 (.map (some w1.heap.size)) (.string ⟨#[119,114,105,116,101]⟩) false).run prog wK=.ok (i6 2) wK:=AE hk ⟨#[119,114,105,116,101]⟩ dM 2 (fun c hc=>M7 hc);have jK:Hid (bL w1 wK):=(aX _ _).drew.trans hk.2;have k0:=ai jK.out g1;have k1:=ai jK.out b0;have k2:=ai jK.out b1;have k3:=ai jK.out b2;have k4:=ai jK.out b3)|(go_at_call 34;refine(n4 n0 _ (gM.out.later (af (dW.out.bel gZ.out.1 gZ.out.2.1 gZ.out.2.2) bQ)) jy.out).mono ?_;rintro e wT ⟨rfl,dX⟩;have ie:=ae (dW.out.later (af (aX _ _) dX));have t0:=ai dX m0;have t1:=ai dX m1;have t2:=ai dX m2;have t3:=ai dX m3;have t4:=ai dX m4)|(go_at_call 27;refine(CM s p A _ (dN.out.st.later (af jK.out bQ)) HI.out.inv (by have:=HI.out.tags;omega) (by have:=HI.out.az;omega) xa 2 xb dt _ _ mo.out).mono ?_;rintro e wA ⟨rfl,hok⟩;have dW:=ae (eD.out _ _ (dN.out.code (af jK.out bQ) hok));obtain⟨pA,AA,fu,-⟩:=hok;have m0:=(fu.only.cell (p:=⟨g,1,none⟩) (by have:=jK.out.size;(try simp);omega) HP.out.off).trans (ai (w:=wK) bQ k0);have m1:=(fu.only.cell (p:=⟨q,0,none⟩) (by have:=jK.out.size;(try simp);omega) gm.out).trans (ai (w:=wK) bQ k1);have m2:=(fu.only.cell (p:=⟨q,1,none⟩) (by have:=jK.out.size;(try simp);omega) gm.out).trans (ai (w:=wK) bQ k2);have m3:=(fu.only.cell (p:=⟨q,2,none⟩) (by have:=jK.out.size;(try simp);omega) gm.out).trans (ai (w:=wK) bQ k3);have m4:=(fu.only.cell (p:=⟨q,3,none⟩) (by have:=jK.out.size;(try simp);omega) gm.out).trans (ai (w:=wK) bQ k4)));all_goals (clear hk wZ fu dX;go_wp2;go_ret;exact⟨rfl,ie.out⟩)
theorem Um(h:lf g s p A w)(n:Nat)(hf:eT n p)(_:n<=3880000)(hLW:lO W)(fB:bL W w)(fF:∀j,A.ay s j->W.heap.size<=j)(fG:W.heap.size<=g)(xa xb:Int)(dt:ByteArray)(hx:kM ⟨⟨#[115,121,110,99]⟩,xa,xb,dt⟩)(h0:aV ⟨⟨#[115,121,110,99]⟩,xa,xb,dt⟩=0):Calls prog 12 #[.pointer (some ⟨g,0,none⟩),.agg #[.string ⟨#[115,121,110,99]⟩,i6 xa,i6 xb,.string dt]] w (ks g s A w (eb (p.nf.ask xa 3 xb dt).1) (p.nf.ask xa 3 xb dt).2):=by
 have jy:=ae (rW p.nf xa 3 xb dt);obtain⟨n0,fp⟩:∃n0,(p.nf.ask xa 3 xb dt).1=n0:=⟨_,rfl⟩;rw[fp] at jy;have mo:Hid (p.nf.ask xa 3 xb dt=(n0,(p.nf.ask xa 3 xb dt).2)):=(by show _=_;rw[<-fp]);rw[fp];clear fp;have HP:=ae h;have fW:=ae (xD hx h0);have HI:=ae hf;have gM:=ae hLW;have gZ:=ae (⟨fB,fF,fG⟩:_/\_/\_);have lG:=aK h.a7;have du:¬A.ay s w.heap.size:=(fun e=>by have:=h.st.bC _ e;omega);have gm:=ae du;clear h hx hf hLW fB fF fG du h0;go_enter func12,ntmps12;go_wp2_with fail;refine(fW.out _).mono ?_;rintro e w1 ⟨rfl,aw⟩;have aN:Hid (bL w w1):=af (aA w _) aw;have dN:=ae (HP.out.later aN.out);have eD:=ae (fun t w' (hk:kg g s A w1 t w')=>hk.gS aN.out);obtain⟨b0,b1,b2,b3⟩:=qH aw;have g1:w1.cell? ⟨g,1,none⟩=some (.pointer (some ⟨s,0,none⟩)):=(HP.out.later aN.out).cells.2.1;have mn:=aq g1;have nY:=aq b0;clear aw fW;generalize w.heap.size=q at *;go_upto_region 8 with fail;go_region_held3 (fun w'=>w'.cell? ⟨g,1,none⟩=some (.pointer (some ⟨s,0,none⟩))/\w'.cell? ⟨q,0,none⟩=some (.string ⟨#[115,121,110,99]⟩)/\w'.cell? ⟨q,1,none⟩=some (i6 xa)/\w'.cell? ⟨q,2,none⟩=some (i6 xb)/\w'.cell? ⟨q,3,none⟩=some (.string dt)) (first|exact⟨ai (w:=w1) (aX _ _) g1,ai (w:=w1) (aX _ _) b0,ai (w:=w1) (aX _ _) b1,ai (w:=w1) (aX _ _) b2,ai (w:=w1) (aX _ _) b3⟩|exact⟨ai (w:=w1) (aX _ _).drew g1,ai (w:=w1) (aX _ _).drew b0,ai (w:=w1) (aX _ _).drew b1,ai (w:=w1) (aX _ _).drew b2,ai (w:=w1) (aX _ _).drew b3⟩|exact⟨aM,aM,aM,aM,aM⟩) (first|(go_at_call 35;refine(Cb _).mono ?_;rintro e wK ⟨rfl,hk⟩;have wZ:(Instr.lookup 77 (.map (some w1.heap.size)) (.string ⟨#[115,121,110,99]⟩) false).run prog wK=.ok (i6 3) wK:=AE hk ⟨#[115,121,110,99]⟩ dM 3 (fun c hc=>Qp hc);have jK:Hid (bL w1 wK):=(aX _ _).drew.trans hk.2;have k0:=ai jK.out g1;have k1:=ai jK.out b0;have k2:=ai jK.out b1;have k3:=ai jK.out b2;have k4:=ai jK.out b3)|(go_at_call 34;refine(n4 n0 _ (gM.out.later (af (dW.out.bel gZ.out.1 gZ.out.2.1 gZ.out.2.2) bQ)) jy.out).mono ?_;rintro e wT ⟨rfl,dX⟩;have ie:=ae (dW.out.later (af (aX _ _) dX));have t0:=ai dX m0;have t1:=ai dX m1;have t2:=ai dX m2;have t3:=ai dX m3;have t4:=ai dX m4)|(go_at_call 27;refine(CM s p A _ (dN.out.st.later (af jK.out bQ)) HI.out.inv (by have:=HI.out.tags;omega) (by have:=HI.out.az;omega) xa 3 xb dt _ _ mo.out).mono ?_;rintro e wA ⟨rfl,hok⟩;have dW:=ae (eD.out _ _ (dN.out.code (af jK.out bQ) hok));obtain⟨pA,AA,fu,-⟩:=hok;have m0:=(fu.only.cell (p:=⟨g,1,none⟩) (by have:=jK.out.size;(try simp);omega) HP.out.off).trans (ai (w:=wK) bQ k0);have m1:=(fu.only.cell (p:=⟨q,0,none⟩) (by have:=jK.out.size;(try simp);omega) gm.out).trans (ai (w:=wK) bQ k1);have m2:=(fu.only.cell (p:=⟨q,1,none⟩) (by have:=jK.out.size;(try simp);omega) gm.out).trans (ai (w:=wK) bQ k2);have m3:=(fu.only.cell (p:=⟨q,2,none⟩) (by have:=jK.out.size;(try simp);omega) gm.out).trans (ai (w:=wK) bQ k3);have m4:=(fu.only.cell (p:=⟨q,3,none⟩) (by have:=jK.out.size;(try simp);omega) gm.out).trans (ai (w:=wK) bQ k4)));all_goals (clear hk wZ fu dX;go_wp2;go_ret;exact⟨rfl,ie.out⟩)
end
section
variable(W:World)(g s:Nat)(p:Sk)(A:Sa)(w:World)
theorem Un(h:lf g s p A w)(n:Nat)(hf:eT n p)(_:n<=3880000)(hLW:lO W)(fB:bL W w)(fF:∀j,A.ay s j->W.heap.size<=j)(fG:W.heap.size<=g)(xa xb:Int)(dt:ByteArray)(hx:kM ⟨⟨#[116,105,99,107]⟩,xa,xb,dt⟩)(h0:aV ⟨⟨#[116,105,99,107]⟩,xa,xb,dt⟩=0):Calls prog 12 #[.pointer (some ⟨g,0,none⟩),.agg #[.string ⟨#[116,105,99,107]⟩,i6 xa,i6 xb,.string dt]] w (ks g s A w (eb 0) p.nf.tick):=by
 have HP:=ae h;have fW:=ae (xD hx h0);have HI:=ae hf;have gM:=ae hLW;have gZ:=ae (⟨fB,fF,fG⟩:_/\_/\_);have lG:=aK h.a7;have du:¬A.ay s w.heap.size:=(fun e=>by have:=h.st.bC _ e;omega);have gm:=ae du;clear h hx hf hLW fB fF fG du h0;go_enter func12,ntmps12;go_wp2_with fail;refine cM (fW.out _) ?_;intro w1 aw;have aN:Hid (bL w w1):=af (aA w _) aw;have dN:=ae (HP.out.later aN.out);have eD:=ae (fun t w' (hk:kg g s A w1 t w')=>hk.gS aN.out);obtain⟨b0,b1,b2,b3⟩:=qH aw;have g1:w1.cell? ⟨g,1,none⟩=some (.pointer (some ⟨s,0,none⟩)):=(HP.out.later aN.out).cells.2.1;have mn:=aq g1;have nY:=aq b0;clear aw fW;go_wp2_with fail;refine cM (ME s p A _ dN.out.st HI.out.inv (by have:=HI.out.tags;omega) (by have:=HI.out.az;omega) _ rfl) ?_;intro w2 hok;have dW:=ae (eD.out _ _ (dN.out.code (aX _ _) hok));clear hok;go_wp2_with fail;refine cM (uq 0 _ (gM.out.later (dW.out.bel gZ.out.1 gZ.out.2.1 gZ.out.2.2)) oM) ?_;intro w3 bo;have ie:=ae (dW.out.later bo);clear bo;go_wp2;go_ret;exact⟨rfl,ie.out⟩
theorem QJ(h:lf g s p A w)(n:Nat)(hf:eT n p)(_:n<=3880000)(hLW:lO W)(fB:bL W w)(fF:∀j,A.ay s j->W.heap.size<=j)(fG:W.heap.size<=g)(xa xb:Int)(dt:ByteArray)(hx:kM ⟨⟨#[114,111,117,110,100]⟩,xa,xb,dt⟩)(h0:aV ⟨⟨#[114,111,117,110,100]⟩,xa,xb,dt⟩=0):Calls prog 12 #[.pointer (some ⟨g,0,none⟩),.agg #[.string ⟨#[114,111,117,110,100]⟩,i6 xa,i6 xb,.string dt]] w (ks g s A w (eb 0) p.nf.round):=by
 have HP:=ae h;have fW:=ae (xD hx h0);have HI:=ae hf;have gM:=ae hLW;have gZ:=ae (⟨fB,fF,fG⟩:_/\_/\_);have lG:=aK h.a7;have du:¬A.ay s w.heap.size:=(fun e=>by have:=h.st.bC _ e;omega);have gm:=ae du;clear h hx hf hLW fB fF fG du h0;go_enter func12,ntmps12;go_wp2_with fail;refine cM (fW.out _) ?_;intro w1 aw;have aN:Hid (bL w w1):=af (aA w _) aw;have dN:=ae (HP.out.later aN.out);have eD:=ae (fun t w' (hk:kg g s A w1 t w')=>hk.gS aN.out);obtain⟨b0,b1,b2,b3⟩:=qH aw;have g1:w1.cell? ⟨g,1,none⟩=some (.pointer (some ⟨s,0,none⟩)):=(HP.out.later aN.out).cells.2.1;have mn:=aq g1;have nY:=aq b0;clear aw fW;go_wp2_with fail;refine(I7 ⟨p,A,w1⟩ w1 s A.b p.nf n ⟨p,A,bK.cX dN.out.st (aX _ _),rfl,rfl⟩ HI.out.nf oM _ rfl).mono ?_;rintro e w2 ⟨rfl,p',A',hs,nW,-⟩;have dW:=ae (eD.out _ _ (dN.out.code (aX _ _) ⟨p',A',hs,nW⟩));clear hs nW;go_wp2_with fail;refine cM (uq 0 _ (gM.out.later (dW.out.bel gZ.out.1 gZ.out.2.1 gZ.out.2.2)) oM) ?_;intro w3 bo;have ie:=ae (dW.out.later bo);clear bo;go_wp2;go_ret;exact⟨rfl,ie.out⟩
theorem QE(h:lf g s p A w)(n:Nat)(hf:eT n p)(_:n<=3880000)(hLW:lO W)(fB:bL W w)(fF:∀j,A.ay s j->W.heap.size<=j)(fG:W.heap.size<=g)(xa xb:Int)(dt:ByteArray)(hx:kM ⟨⟨#[99,108,101,97,110]⟩,xa,xb,dt⟩)(h0:aV ⟨⟨#[99,108,101,97,110]⟩,xa,xb,dt⟩=0):Calls prog 12 #[.pointer (some ⟨g,0,none⟩),.agg #[.string ⟨#[99,108,101,97,110]⟩,i6 xa,i6 xb,.string dt]] w (ks g s A w (oU p.nf.clean.1) p.nf.clean.2):=by
 obtain⟨z,hz⟩:∃z,p.nf.clean=z:=⟨_,rfl⟩
 obtain⟨t,q'⟩:=z;have HZ:=ae hz;rw[hz];show Calls _ _ _ _ (ks g s A w (oU t) q');clear hz;have HP:=ae h;have fW:=ae (xD hx h0);have HI:=ae hf;have gM:=ae hLW;have gZ:=ae (⟨fB,fF,fG⟩:_/\_/\_);have lG:=aK h.a7;have du:¬A.ay s w.heap.size:=(fun e=>by have:=h.st.bC _ e;omega);have gm:=ae du;clear h hx hf hLW fB fF fG du h0;go_enter func12,ntmps12;go_wp2_with fail;refine cM (fW.out _) ?_;intro w1 aw;have aN:Hid (bL w w1):=af (aA w _) aw;have dN:=ae (HP.out.later aN.out);have eD:=ae (fun t w' (hk:kg g s A w1 t w')=>hk.gS aN.out);obtain⟨b0,b1,b2,b3⟩:=qH aw;have g1:w1.cell? ⟨g,1,none⟩=some (.pointer (some ⟨s,0,none⟩)):=(HP.out.later aN.out).cells.2.1;have mn:=aq g1;have nY:=aq b0;clear aw fW;go_wp2_with fail;refine cM (Gi s p A _ dN.out.st HI.out.inv (by have:=HI.out.tags;omega) _ _ HZ.out) ?_;intro w2 hok;have dW:=ae (eD.out _ _ (dN.out.code (aX _ _) hok));clear hok;go_wp2_with fail;refine cM (MP _ _) ?_;intro w3 rfl;go_wp2;go_ret;exact⟨rfl,dW.out⟩
theorem JC(h:lf g s p A w)(n:Nat)(hf:eT n p)(_:n<=3880000)(hLW:lO W)(fB:bL W w)(fF:∀j,A.ay s j->W.heap.size<=j)(fG:W.heap.size<=g)(xa xb:Int)(dt:ByteArray)(hx:kM ⟨⟨#[100,105,115,112,97,116,99,104]⟩,xa,xb,dt⟩)(h0:aV ⟨⟨#[100,105,115,112,97,116,99,104]⟩,xa,xb,dt⟩=0):Calls prog 12 #[.pointer (some ⟨g,0,none⟩),.agg #[.string ⟨#[100,105,115,112,97,116,99,104]⟩,i6 xa,i6 xb,.string dt]] w (ks g s A w (oU p.nf.bf.1) p.nf.bf.2):=by
 obtain⟨z,hz⟩:∃z,p.nf.bf=z:=⟨_,rfl⟩
 obtain⟨t,q'⟩:=z;have HZ:=ae hz;rw[hz];show Calls _ _ _ _ (ks g s A w (oU t) q');clear hz;have HP:=ae h;have fW:=ae (xD hx h0);have HI:=ae hf;have gM:=ae hLW;have gZ:=ae (⟨fB,fF,fG⟩:_/\_/\_);have lG:=aK h.a7;have du:¬A.ay s w.heap.size:=(fun e=>by have:=h.st.bC _ e;omega);have gm:=ae du;clear h hx hf hLW fB fF fG du h0;go_enter func12,ntmps12;go_wp2_with fail;refine cM (fW.out _) ?_;intro w1 aw;have aN:Hid (bL w w1):=af (aA w _) aw;have dN:=ae (HP.out.later aN.out);have eD:=ae (fun t w' (hk:kg g s A w1 t w')=>hk.gS aN.out);obtain⟨b0,b1,b2,b3⟩:=qH aw;have g1:w1.cell? ⟨g,1,none⟩=some (.pointer (some ⟨s,0,none⟩)):=(HP.out.later aN.out).cells.2.1;have mn:=aq g1;have nY:=aq b0;clear aw fW;go_wp2_with fail;refine cM (Bg s p A _ dN.out.st HI.out.inv _ _ HZ.out) ?_;intro w2 hok;have dW:=ae (eD.out _ _ (dN.out.code (aX _ _) hok));clear hok;go_wp2_with fail;refine cM (MP _ _) ?_;intro w3 rfl;go_wp2;go_ret;exact⟨rfl,dW.out⟩
end
section
variable(W:World)(g s:Nat)(p:Sk)(A:Sa)(w:World)
theorem Xh(h:lf g s p A w)(n:Nat)(hf:eT n p)(_:n<=3880000)(hLW:lO W)(fB:bL W w)(fF:∀j,A.ay s j->W.heap.size<=j)(fG:W.heap.size<=g)(xa xb:Int)(dt:ByteArray)(hx:kM ⟨⟨#[101,110,100]⟩,xa,xb,dt⟩)(h0:aV ⟨⟨#[101,110,100]⟩,xa,xb,dt⟩=0):Calls prog 12 #[.pointer (some ⟨g,0,none⟩),.agg #[.string ⟨#[101,110,100]⟩,i6 xa,i6 xb,.string dt]] w (ks g s A w (eb (p.nf.cz xa false).1) (p.nf.cz xa false).2):=by
 obtain⟨n0,fp⟩:∃n0,(p.nf.cz xa false).1=n0:=⟨_,rfl⟩;have jy:=ae (xX p.nf xa false);rw[fp] at jy;have mo:Hid (p.nf.cz xa false=(n0,(p.nf.cz xa false).2)):=(by show _=_;rw[<-fp]);rw[fp];clear fp;have HP:=ae h;have fW:=ae (xD hx h0);have HI:=ae hf;have gM:=ae hLW;have gZ:=ae (⟨fB,fF,fG⟩:_/\_/\_);have lG:=aK h.a7;have du:¬A.ay s w.heap.size:=(fun e=>by have:=h.st.bC _ e;omega);have gm:=ae du;clear h hx hf hLW fB fF fG du h0;go_enter func12,ntmps12;go_wp2_with fail;refine(fW.out _).mono ?_;rintro e w1 ⟨rfl,aw⟩;have aN:Hid (bL w w1):=af (aA w _) aw;have dN:=ae (HP.out.later aN.out);have eD:=ae (fun t w' (hk:kg g s A w1 t w')=>hk.gS aN.out);obtain⟨b0,b1,b2,b3⟩:=qH aw;have g1:w1.cell? ⟨g,1,none⟩=some (.pointer (some ⟨s,0,none⟩)):=(HP.out.later aN.out).cells.2.1;have mn:=aq g1;have nY:=aq b0;clear aw fW;generalize w.heap.size=q at *;go_upto_region 21 with fail;go_region_held3 (fun w'=>w'.cell? ⟨g,1,none⟩=some (.pointer (some ⟨s,0,none⟩))/\w'.cell? ⟨q,0,none⟩=some (.string ⟨#[101,110,100]⟩)/\w'.cell? ⟨q,1,none⟩=some (i6 xa)) (first|exact⟨ai (w:=w1) (aX _ _) g1,ai (w:=w1) (aX _ _) b0,ai (w:=w1) (aX _ _) b1⟩|exact⟨ai (w:=w1) (aX _ _).drew g1,ai (w:=w1) (aX _ _).drew b0,ai (w:=w1) (aX _ _).drew b1⟩|exact⟨aM,aM,aM⟩) (first|(go_at_call 34;refine(n4 n0 _ (gM.out.later (af (dW.out.bel gZ.out.1 gZ.out.2.1 gZ.out.2.2) bQ)) jy.out).mono ?_;rintro e wT ⟨rfl,dX⟩;have ie:=ae (dW.out.later (af (aX _ _) dX));have t0:=ai dX m0;have t1:=ai dX m1;have t2:=ai dX m2)|(go_at_call 42;refine(Ez s p A _ (dN.out.st.later bQ) HI.out.inv HI.out.short (by have:=HI.out.tags;omega) (by have:=HI.out.az;omega) (by have:=HI.out.ag;omega) xa false _ _ mo.out).mono ?_;rintro e wA ⟨rfl,hok⟩;have dW:=ae (eD.out _ _ (dN.out.code bQ hok));obtain⟨pA,AA,fu,-⟩:=hok;have m0:=(fu.only.cell (p:=⟨g,1,none⟩) (by(try simp);omega) HP.out.off).trans (ai (w:=w1) bQ g1);have m1:=(fu.only.cell (p:=⟨q,0,none⟩) (by(try simp);omega) gm.out).trans (ai (w:=w1) bQ b0);have m2:=(fu.only.cell (p:=⟨q,1,none⟩) (by(try simp);omega) gm.out).trans (ai (w:=w1) bQ b1)));all_goals (clear fu dX;go_wp2;go_ret;exact⟨rfl,ie.out⟩)
theorem QH(h:lf g s p A w)(n:Nat)(hf:eT n p)(_:n<=3880000)(hLW:lO W)(fB:bL W w)(fF:∀j,A.ay s j->W.heap.size<=j)(fG:W.heap.size<=g)(xa xb:Int)(dt:ByteArray)(hx:kM ⟨⟨#[102,97,117,108,116]⟩,xa,xb,dt⟩)(h0:aV ⟨⟨#[102,97,117,108,116]⟩,xa,xb,dt⟩=0):Calls prog 12 #[.pointer (some ⟨g,0,none⟩),.agg #[.string ⟨#[102,97,117,108,116]⟩,i6 xa,i6 xb,.string dt]] w (ks g s A w (eb (p.nf.cz xa true).1) (p.nf.cz xa true).2):=by
 obtain⟨n0,fp⟩:∃n0,(p.nf.cz xa true).1=n0:=⟨_,rfl⟩;have jy:=ae (xX p.nf xa true);rw[fp] at jy;have mo:Hid (p.nf.cz xa true=(n0,(p.nf.cz xa true).2)):=(by show _=_;rw[<-fp]);rw[fp];clear fp;have HP:=ae h;have fW:=ae (xD hx h0);have HI:=ae hf;have gM:=ae hLW;have gZ:=ae (⟨fB,fF,fG⟩:_/\_/\_);have lG:=aK h.a7;have du:¬A.ay s w.heap.size:=(fun e=>by have:=h.st.bC _ e;omega);have gm:=ae du;clear h hx hf hLW fB fF fG du h0;go_enter func12,ntmps12;go_wp2_with fail;refine(fW.out _).mono ?_;rintro e w1 ⟨rfl,aw⟩;have aN:Hid (bL w w1):=af (aA w _) aw;have dN:=ae (HP.out.later aN.out);have eD:=ae (fun t w' (hk:kg g s A w1 t w')=>hk.gS aN.out);obtain⟨b0,b1,b2,b3⟩:=qH aw;have g1:w1.cell? ⟨g,1,none⟩=some (.pointer (some ⟨s,0,none⟩)):=(HP.out.later aN.out).cells.2.1;have mn:=aq g1;have nY:=aq b0;clear aw fW;generalize w.heap.size=q at *;go_upto_region 21 with fail;go_region_held3 (fun w'=>w'.cell? ⟨g,1,none⟩=some (.pointer (some ⟨s,0,none⟩))/\w'.cell? ⟨q,0,none⟩=some (.string ⟨#[102,97,117,108,116]⟩)/\w'.cell? ⟨q,1,none⟩=some (i6 xa)) (first|exact⟨ai (w:=w1) (aX _ _) g1,ai (w:=w1) (aX _ _) b0,ai (w:=w1) (aX _ _) b1⟩|exact⟨ai (w:=w1) (aX _ _).drew g1,ai (w:=w1) (aX _ _).drew b0,ai (w:=w1) (aX _ _).drew b1⟩|exact⟨aM,aM,aM⟩) (first|(go_at_call 34;refine(n4 n0 _ (gM.out.later (af (dW.out.bel gZ.out.1 gZ.out.2.1 gZ.out.2.2) bQ)) jy.out).mono ?_;rintro e wT ⟨rfl,dX⟩;have ie:=ae (dW.out.later (af (aX _ _) dX));have t0:=ai dX m0;have t1:=ai dX m1;have t2:=ai dX m2)|(go_at_call 42;refine(Ez s p A _ (dN.out.st.later bQ) HI.out.inv HI.out.short (by have:=HI.out.tags;omega) (by have:=HI.out.az;omega) (by have:=HI.out.ag;omega) xa true _ _ mo.out).mono ?_;rintro e wA ⟨rfl,hok⟩;have dW:=ae (eD.out _ _ (dN.out.code bQ hok));obtain⟨pA,AA,fu,-⟩:=hok;have m0:=(fu.only.cell (p:=⟨g,1,none⟩) (by(try simp);omega) HP.out.off).trans (ai (w:=w1) bQ g1);have m1:=(fu.only.cell (p:=⟨q,0,none⟩) (by(try simp);omega) gm.out).trans (ai (w:=w1) bQ b0);have m2:=(fu.only.cell (p:=⟨q,1,none⟩) (by(try simp);omega) gm.out).trans (ai (w:=w1) bQ b1)));all_goals (clear fu dX;go_wp2;go_ret;exact⟨rfl,ie.out⟩)
end
theorem eT.adz{n:Nat}{p:Sk}(h:eT n p)(hn:n<=3900000):(∀r∈p.queue,uu r/\r.tags.length<=8)/\p.queue.length<=1000:=by
 refine⟨fun r hr=>⟨fun i hi=>?_,?_⟩,by have:=h.inv.q6;omega⟩
 ·have h1:=h.inv.pz r (abn _ hr) (r.tags.getD i 0) (by rw[abd,aaX hi];exact aa5 hi);have:=h.tags;show _/\_
  constructor<;>omega
 ·have:=(h.inv.bO r (abn _ hr)).t4
  omega
theorem eT.ady{n:Nat}{p:Sk}(h:eT n p)(hn:n<=3900000):(∀r∈p.dev.busy,uu r/\r.tags.length<=8)/\p.dev.busy.length<=1000:=by
 refine⟨fun r hr=>⟨fun i hi=>?_,?_⟩,by have:=h.inv.b2;omega⟩
 ·have h1:=h.inv.pz r (aa8 _ hr) (r.tags.getD i 0) (by rw[abd,aaX hi];exact aa5 hi);have:=h.tags;show _/\_
  constructor<;>omega
 ·have:=(h.inv.bO r (aa8 _ hr)).t4
  omega
section
variable(W:World)(g s:Nat)(p:Sk)(A:Sa)(w:World)
theorem Xi(h:lf g s p A w)(n:Nat)(hf:eT n p)(_:n<=3880000)(hLW:lO W)(fB:bL W w)(fF:∀j,A.ay s j->W.heap.size<=j)(fG:W.heap.size<=g)(xa xb:Int)(dt:ByteArray)(HG:Hid (cv p))(hx:kM ⟨⟨#[103,111,116]⟩,xa,xb,dt⟩)(h0:aV ⟨⟨#[103,111,116]⟩,xa,xb,dt⟩=0):Calls prog 12 #[.pointer (some ⟨g,0,none⟩),.agg #[.string ⟨#[103,111,116]⟩,i6 xa,i6 xb,.string dt]] w (ks g s A w (BI p.nf xa) p.nf):=by
 have HP:=ae h;have fW:=ae (xD hx h0);have HI:=ae hf;have gM:=ae hLW;have gZ:=ae (⟨fB,fF,fG⟩:_/\_/\_);have lG:=aK h.a7;have du:¬A.ay s w.heap.size:=(fun e=>by have:=h.st.bC _ e;omega);have gm:=ae du;clear h hx hf hLW fB fF fG du h0;go_enter func12,ntmps12;go_wp2_with fail;refine cM (fW.out _) ?_;intro w1 aw;have aN:Hid (bL w w1):=af (aA w _) aw;have dN:=ae (HP.out.later aN.out);have eD:=ae (fun t w' (hk:kg g s A w1 t w')=>hk.gS aN.out);obtain⟨b0,b1,b2,b3⟩:=qH aw;have g1:w1.cell? ⟨g,1,none⟩=some (.pointer (some ⟨s,0,none⟩)):=(HP.out.later aN.out).cells.2.1;have mn:=aq g1;have nY:=aq b0;clear aw fW;go_wp2_with fail;refine cM (Xd g s p A _ dN.out ((gM.out.later gZ.out.1).later aN.out) (fun i=>HG.out.adm i) xa) ?_;intro w2 aC;have ie:=ae (eD.out _ _ (dN.out.same aC));clear aC;go_wp2;go_ret;exact⟨rfl,ie.out⟩
theorem QG(h:lf g s p A w)(n:Nat)(hf:eT n p)(_:n<=3880000)(hLW:lO W)(fB:bL W w)(fF:∀j,A.ay s j->W.heap.size<=j)(fG:W.heap.size<=g)(xa xb:Int)(dt:ByteArray)(hx:kM ⟨⟨#[100,105,114,116,121]⟩,xa,xb,dt⟩)(h0:aV ⟨⟨#[100,105,114,116,121]⟩,xa,xb,dt⟩=0):Calls prog 12 #[.pointer (some ⟨g,0,none⟩),.agg #[.string ⟨#[100,105,114,116,121]⟩,i6 xa,i6 xb,.string dt]] w (ks g s A w (Lib.itoa (bW p.hand)) p.nf):=by
 obtain⟨k,hk⟩:∃k,bW p.hand=k:=⟨_,rfl⟩
 have HK:=ae hk;have Kc:Hid (k<=8):=by
  have h1:=hf.inv.hand.len;have h2:(p.hand.filter fun x=>x.bM).length<=p.hand.length:=acE _ _;have h3:(p.hand.filter fun x=>x.bM).length=k:=hk;show k<=8
  omega
 rw[hk];clear hk;have HP:=ae h;have fW:=ae (xD hx h0);have HI:=ae hf;have gM:=ae hLW;have gZ:=ae (⟨fB,fF,fG⟩:_/\_/\_);have lG:=aK h.a7;have du:¬A.ay s w.heap.size:=(fun e=>by have:=h.st.bC _ e;omega);have gm:=ae du;clear h hx hf hLW fB fF fG du h0;go_enter func12,ntmps12;go_wp2_with fail;refine cM (fW.out _) ?_;intro w1 aw;have aN:Hid (bL w w1):=af (aA w _) aw;have dN:=ae (HP.out.later aN.out);have eD:=ae (fun t w' (hk:kg g s A w1 t w')=>hk.gS aN.out);obtain⟨b0,b1,b2,b3⟩:=qH aw;have g1:w1.cell? ⟨g,1,none⟩=some (.pointer (some ⟨s,0,none⟩)):=(HP.out.later aN.out).cells.2.1;have mn:=aq g1;have nY:=aq b0;clear aw fW;go_wp2_with fail;refine cM (ox s p A _ dN.out.st k HK.out) ?_;intro w2 aC;have bT:=ae aC;clear aC;go_wp2_with fail;refine cM (rO k _ (((gM.out.later gZ.out.1).later aN.out).later bT.out) oM (by have:=Kc.out;omega)) ?_;intro w3 bo;have ie:=ae (eD.out _ _ (dN.out.same (af bT.out bo)));clear bo;go_wp2;go_ret;exact⟨rfl,ie.out⟩
theorem QI(h:lf g s p A w)(n:Nat)(hf:eT n p)(_:n<=3880000)(hLW:lO W)(fB:bL W w)(fF:∀j,A.ay s j->W.heap.size<=j)(fG:W.heap.size<=g)(xa xb:Int)(dt:ByteArray)(hx:kM ⟨⟨#[113,117,101,117,101]⟩,xa,xb,dt⟩)(h0:aV ⟨⟨#[113,117,101,117,101]⟩,xa,xb,dt⟩=0):Calls prog 12 #[.pointer (some ⟨g,0,none⟩),.agg #[.string ⟨#[113,117,101,117,101]⟩,i6 xa,i6 xb,.string dt]] w (ks g s A w (mc p.queue) p.nf):=by
 have Km:Hid ((∀r∈p.queue,uu r/\r.tags.length<=8)/\p.queue.length<=1000):=hf.adz oM;have HP:=ae h;have fW:=ae (xD hx h0);have HI:=ae hf;have gM:=ae hLW;have gZ:=ae (⟨fB,fF,fG⟩:_/\_/\_);have lG:=aK h.a7;have du:¬A.ay s w.heap.size:=(fun e=>by have:=h.st.bC _ e;omega);have gm:=ae du;clear h hx hf hLW fB fF fG du h0;go_enter func12,ntmps12;go_wp2_with fail;refine cM (fW.out _) ?_;intro w1 aw;have aN:Hid (bL w w1):=af (aA w _) aw;have dN:=ae (HP.out.later aN.out);have eD:=ae (fun t w' (hk:kg g s A w1 t w')=>hk.gS aN.out);obtain⟨b0,b1,b2,b3⟩:=qH aw;have g1:w1.cell? ⟨g,1,none⟩=some (.pointer (some ⟨s,0,none⟩)):=(HP.out.later aN.out).cells.2.1;have mn:=aq g1;have nY:=aq b0;clear aw fW;go_wp2_with fail;refine(Gt s p A _ dN.out.st (by have:=HI.out.inv.q6;omega)).mono ?_;rintro e w2 ⟨a2,c2,rfl,dC,-,aC⟩;have bT:=ae aC;have mh:=ae dC;clear aC dC;go_wp2_with fail;refine cM (Ci p.queue a2 c2 _ mh.out (((gM.out.later gZ.out.1).later aN.out).later bT.out) Km.out.1 Km.out.2) ?_;intro w3 bo;have ie:=ae (eD.out _ _ (dN.out.same (af bT.out bo)));clear bo;go_wp2;go_ret;exact⟨rfl,ie.out⟩
theorem Uk(h:lf g s p A w)(n:Nat)(hf:eT n p)(_:n<=3880000)(hLW:lO W)(fB:bL W w)(fF:∀j,A.ay s j->W.heap.size<=j)(fG:W.heap.size<=g)(xa xb:Int)(dt:ByteArray)(hx:kM ⟨⟨#[98,117,115,121]⟩,xa,xb,dt⟩)(h0:aV ⟨⟨#[98,117,115,121]⟩,xa,xb,dt⟩=0):Calls prog 12 #[.pointer (some ⟨g,0,none⟩),.agg #[.string ⟨#[98,117,115,121]⟩,i6 xa,i6 xb,.string dt]] w (ks g s A w (mc p.dev.busy) p.nf):=by
 have Km:Hid ((∀r∈p.dev.busy,uu r/\r.tags.length<=8)/\p.dev.busy.length<=1000):=hf.ady oM;have HP:=ae h;have fW:=ae (xD hx h0);have HI:=ae hf;have gM:=ae hLW;have gZ:=ae (⟨fB,fF,fG⟩:_/\_/\_);have lG:=aK h.a7;have du:¬A.ay s w.heap.size:=(fun e=>by have:=h.st.bC _ e;omega);have gm:=ae du;clear h hx hf hLW fB fF fG du h0;go_enter func12,ntmps12;go_wp2_with fail;refine cM (fW.out _) ?_;intro w1 aw;have aN:Hid (bL w w1):=af (aA w _) aw;have dN:=ae (HP.out.later aN.out);have eD:=ae (fun t w' (hk:kg g s A w1 t w')=>hk.gS aN.out);obtain⟨b0,b1,b2,b3⟩:=qH aw;have g1:w1.cell? ⟨g,1,none⟩=some (.pointer (some ⟨s,0,none⟩)):=(HP.out.later aN.out).cells.2.1;have mn:=aq g1;have nY:=aq b0;clear aw fW;go_wp2_with fail;refine(Je s p A _ dN.out.st).mono ?_;rintro e w2 ⟨a2,c2,rfl,dC,-,aC⟩;have bT:=ae aC;have mh:=ae dC;clear aC dC;go_wp2_with fail;refine cM (Ci p.dev.busy a2 c2 _ mh.out (((gM.out.later gZ.out.1).later aN.out).later bT.out) Km.out.1 Km.out.2) ?_;intro w3 bo;have ie:=ae (eD.out _ _ (dN.out.same (af bT.out bo)));clear bo;go_wp2;go_ret;exact⟨rfl,ie.out⟩
end
theorem Kq(wd:ByteArray)(xa xb:Int)(dt:ByteArray)(h:aV ⟨wd,xa,xb,dt⟩=0):0<=xa/\xa<=999:=(pJ h).2.2.1
section
variable(W:World)(g s:Nat)(p:Sk)(A:Sa)(w:World)
theorem QF(h:lf g s p A w)(n:Nat)(hf:eT n p)(_:n<=3880000)(hLW:lO W)(fB:bL W w)(fF:∀j,A.ay s j->W.heap.size<=j)(fG:W.heap.size<=g)(xa xb:Int)(dt:ByteArray)(hx:kM ⟨⟨#[99,114,97,115,104]⟩,xa,xb,dt⟩)(h0:aV ⟨⟨#[99,114,97,115,104]⟩,xa,xb,dt⟩=0):Calls prog 12 #[.pointer (some ⟨g,0,none⟩),.agg #[.string ⟨#[99,114,97,115,104]⟩,i6 xa,i6 xb,.string dt]] w (ks g s A w (eb 0) (xF (p.dev.fs xa))):=by
 have zC:=Kq _ _ _ _ h0;have sW:IntKind.u64.wrap xa=xa:=by clear h0 hx;rw[IntKind.wrap_u64];omega
 have HXA:=ae zC;clear zC;have HP:=ae h;have fW:=ae (xD hx h0);have HI:=ae hf;have gM:=ae hLW;have gZ:=ae (⟨fB,fF,fG⟩:_/\_/\_);have lG:=aK h.a7;have du:¬A.ay s w.heap.size:=(fun e=>by have:=h.st.bC _ e;omega);have gm:=ae du;clear h hx hf hLW fB fF fG du h0;go_enter func12,ntmps12;go_wp2_with fail;refine cM (fW.out _) ?_;intro w1 aw;have aN:Hid (bL w w1):=af (aA w _) aw;have dN:=ae (HP.out.later aN.out);have eD:=ae (fun t w' (hk:kg g s A w1 t w')=>hk.gS aN.out);obtain⟨b0,b1,b2,b3⟩:=qH aw;have g1:w1.cell? ⟨g,1,none⟩=some (.pointer (some ⟨s,0,none⟩)):=(HP.out.later aN.out).cells.2.1;have mn:=aq g1;have nY:=aq b0;clear aw fW;go_wp2_with fail;refine cM (V1 g s p A _ dN.out xa (by have:=HXA.out;omega) _ rfl) ?_;intro w2 hok;have dW:=ae (eD.out _ _ hok);clear hok;go_wp2_with fail;refine cM (uq 0 _ (gM.out.later (dW.out.bel gZ.out.1 gZ.out.2.1 gZ.out.2.2)) oM) ?_;intro w3 bo;have ie:=ae (dW.out.later bo);clear bo;go_wp2;go_ret;exact⟨rfl,ie.out⟩
end
theorem Jf(m:Nat):∀p:Sk,(p.settle m).1<=m:=by
 induction m with
 |zero=>exact fun _=>aaO 0
 |succ m ih =>
  intro p;unfold Sk.settle
  split
  ·exact ach _
  ·exact Nat.succ_le_succ (ih _)
section
variable(W:World)(g s:Nat)(p:Sk)(A:Sa)(w:World)
theorem Nq(h:lf g s p A w)(n:Nat)(hf:eT n p)(_:n<=3880000)(hLW:lO W)(fB:bL W w)(fF:∀j,A.ay s j->W.heap.size<=j)(fG:W.heap.size<=g)(xa xb:Int)(dt:ByteArray)(hx:kM ⟨⟨#[115,101,116,116,108,101]⟩,xa,xb,dt⟩)(h0:aV ⟨⟨#[115,101,116,116,108,101]⟩,xa,xb,dt⟩=0):Calls prog 12 #[.pointer (some ⟨g,0,none⟩),.agg #[.string ⟨#[115,101,116,116,108,101]⟩,i6 xa,i6 xb,.string dt]] w (ks g s A w (Lib.itoa (p.nf.settle xa.toNat).1++[32]++oU (p.nf.settle xa.toNat).2.quiet) (p.nf.settle xa.toNat).2):=by
 have zC:0<=xa/\xa<=999:=Kq _ _ _ _ h0;obtain⟨m,hm⟩:∃m:Nat,xa=m:=⟨xa.toNat,(agA zC.1).symm⟩
 have HM:Hid (m<=999):=by show m<=999;have:=zC.2;clear h0 hx;omega
 have HE:=ae hm;rw[show xa.toNat=m by rw[hm,abG]];clear zC hm;obtain⟨z,hz⟩:∃z,p.nf.settle m=z:=⟨_,rfl⟩
 obtain⟨k,q'⟩:=z;obtain⟨t,ht⟩:∃t,q'.quiet=t:=⟨_,rfl⟩
 have HZ:=ae hz;have HT:=ae ht;have HK:Hid (k<=1000):=by have:=Jf m p.nf;rw[hz] at this;have:=HM.out;show k<=1000;clear h0 hx;omega
 rw[hz];show Calls _ _ _ _ (ks g s A w (Lib.itoa k++[32]++oU q'.quiet) q');rw[ht];clear hz ht;obtain⟨T1,Fl⟩:∃T1,Lib.itoa k++[32]=T1:=⟨_,rfl⟩
 obtain⟨T2,qV⟩:∃T2,T1++oU t=T2:=⟨_,rfl⟩
 have mG:=ot k ⟨by clear h0 hx;omega,by have:=HK.out;clear h0 hx;omega⟩;have pN:(oU t).length<=10:=(by cases t<;>decide)
 have wU:∀W',Sem.run prog (Op.stringOp .add ⟨(Lib.itoa k).toArray⟩ ⟨#[32]⟩) W'=.ok (.string ⟨T1.toArray⟩) W':=fun W'=>by rw[<-Fl];exact rS (Lib.itoa k) [32] (by clear h0 hx;simp;omega) W'
 have kJ:∀W',Sem.run prog (Op.stringOp .add ⟨T1.toArray⟩ ⟨(oU t).toArray⟩) W'=.ok (.string ⟨T2.toArray⟩) W':=fun W'=>by rw[<-qV];exact rS T1 (oU t) (by rw[<-Fl];clear h0 hx;simp;omega) W'
 rw[Fl,qV];clear Fl qV mG pN;have HP:=ae h;have fW:=ae (xD hx h0);have HI:=ae hf;have gM:=ae hLW;have gZ:=ae (⟨fB,fF,fG⟩:_/\_/\_);have lG:=aK h.a7;have du:¬A.ay s w.heap.size:=(fun e=>by have:=h.st.bC _ e;omega);have gm:=ae du;clear h hx hf hLW fB fF fG du h0;go_enter func12,ntmps12;go_wp2_with fail;refine cM (fW.out _) ?_;intro w1 aw;have aN:Hid (bL w w1):=af (aA w _) aw;have dN:=ae (HP.out.later aN.out);have eD:=ae (fun t w' (hk:kg g s A w1 t w')=>hk.gS aN.out);obtain⟨b0,b1,b2,b3⟩:=qH aw;have g1:w1.cell? ⟨g,1,none⟩=some (.pointer (some ⟨s,0,none⟩)):=(HP.out.later aN.out).cells.2.1;have mn:=aq g1;have nY:=aq b0;clear aw fW;have Kk:Hid (∀w',bL w1 w'->Calls prog 28 #[.pointer (some ⟨s,0,none⟩),i6 xa] w' fun e w2=>e=.returned (.tuple #[i6 k,.bool t])/\iO ⟨p,A,w1⟩ s A.b q' w2):=fun w' hb=>by
  rw[HE.out];exact QQ ⟨p,A,w1⟩ _ s A.b p.nf n m ⟨p,A,bK.cX dN.out.st hb,rfl,rfl⟩ HI.out.nf (by have:=HM.out;omega) k q' HZ.out t HT.out
 generalize w.heap.size=q at *;go_upto_region 23 with fail
 go_region_held3 (fun w'=>w'.cell? ⟨g,1,none⟩=some (.pointer (some ⟨s,0,none⟩))/\w'.cell? ⟨q,1,none⟩=some (i6 xa)) (first|exact⟨ai (w:=w1) (aX _ _) g1,ai (w:=w1) (aX _ _) b1⟩|exact⟨ai (w:=w1) (aX _ _).drew g1,ai (w:=w1) (aX _ _).drew b1⟩|exact⟨aM,aM⟩) (first|(go_at_call 28;refine(Kk.out _ bQ).mono ?_;rintro e wA ⟨rfl,pA,AA,fu,hnA,-⟩;have dW:=ae (eD.out _ _ (dN.out.code (aX _ _) ⟨pA,AA,fu,hnA⟩));have m0:=(fu.only.cell (p:=⟨g,1,none⟩) mn HP.out.off).trans g1;have m1:=(fu.only.cell (p:=⟨q,1,none⟩) nY gm.out).trans b1))
 all_goals
  clear fu;go_wp2_with fail;refine cM (rO k _ (gM.out.later (dW.out.bel gZ.out.1 gZ.out.2.1 gZ.out.2.2)) oM (by have:=HK.out;omega)) ?_;intro wT dX;have ie:=ae (dW.out.later dX);clear dX;go_wp2_with fail;refine cM (MP _ _) ?_;intro w3 rfl;go_wp2;go_ret;exact⟨rfl,ie.out⟩
end
theorem Ku(kp:Int)(l:List Wn)(hl:∀x∈l,x.data.size<=4):∀now:List ByteArray,(∀s∈now,s.size<=4)->∀s∈gR kp l now,s.size<=4:=by
 induction l with
 |nil=>exact fun _ h=>h
 |cons x l ih =>
  intro now h;refine ih (fun y hy=>hl y (acs _ hy)) (if ng kp x.bit=true then now.set x.pl x.data else now) ?_
  split
  ·intro s hs
   rcases acb hs with e|e
   ·exact h s e
   ·rw[e];exact hl x acd
  ·exact h
theorem dE.fs{d:Dl}(h:dE d)(kp:Int):dE (d.fs kp):=by
 have h1:∀s∈gR kp d.wr d.bO,s.size<=4:=Ku kp d.wr h.2.2 _ h.2.1;exact⟨h1,h1,fun x hx=>by cases hx⟩
theorem eT.fs{n:Nat}{q:Sk}(h:eT n q)(kp:Int):eT 0 (xF (q.dev.fs kp)):=by
 have hs:=Hq;have e:(xF (q.dev.fs kp)).dev=q.dev.fs kp:=rfl;have hl:(gR kp q.dev.wr q.dev.bO).length=32:=by rw[Ju];exact h.inv.fY
 exact⟨⟨hs.inv.fV,hs.inv.oE,hs.inv.hand,hs.inv.d6,hs.inv.bO,hs.inv.apart,hs.inv.q6,hs.inv.b2,hs.inv.kr,hs.inv.tg,hs.inv.us,hs.inv.pz,hl,hl,hs.inv.ts,hs.inv.fr⟩,h.short.fs kp,hs.tags,hs.az,hs.ag⟩
def jc(q:Sk)(x:St):List UInt8 × Sk :=
 if x.word=p9 then(eb (q.ask x.a 1 x.b x.data).1,(q.ask x.a 1 x.b x.data).2)
 else if x.word=nM then(eb (q.ask x.a 2 x.b x.data).1,(q.ask x.a 2 x.b x.data).2)
 else if x.word=qd then(eb (q.ask x.a 3 x.b x.data).1,(q.ask x.a 3 x.b x.data).2)
 else if x.word=tD then(BI q x.a,q)
 else if x.word=qe then(eb 0,q.tick)
 else if x.word=nL then(eb 0,q.round)
 else if x.word=nG then(oU q.clean.1,q.clean.2)
 else if x.word=jG then(oU q.bf.1,q.bf.2)
 else if x.word=tC then(eb (q.cz x.a false).1,(q.cz x.a false).2)
 else if x.word=nJ then(eb (q.cz x.a true).1,(q.cz x.a true).2)
 else if x.word=lZ then(Lib.itoa (q.settle x.a.toNat).1++[32]++oU (q.settle x.a.toNat).2.quiet,(q.settle x.a.toNat).2)
 else if x.word=nK then(mc q.queue,q)
 else if x.word=p8 then(mc q.dev.busy,q)
 else if x.word=nI then(Lib.itoa (bW q.hand),q)
 else if x.word=nH then(eb 0,xF (q.dev.fs x.a))
 else(eb 0,q)
def JW(q:Sk)(x:St):List UInt8 × Sk:=if aV x=0 then jc q x else(eb (aV x),q)
structure ph(n:Nat)(q:Sk):Prop where
 fit:eT n q
 gO:cv q
theorem ph.mono{n m:Nat}{q:Sk}(h:ph n q)(hm:n<=m):ph m q:=⟨h.fit.mono hm,h.gO⟩
theorem U4:ph 0 oQ:=⟨Hq,AN⟩
theorem ph.fs{n:Nat}{q:Sk}(h:ph n q)(kp:Int):ph 0 (xF (q.dev.fs kp)):=⟨h.fit.fs kp,AN⟩
theorem di{P:List UInt8 × Sk->Prop}{c:Prop} [Decidable c]{a b:List UInt8 × Sk}(ha:c->P a)(hb:¬c->P b):P (if c then a else b):=by
 by_cases h:c
 ·rw[aaV h];exact ha h
 ·rw[aaP h];exact hb h
abbrev vr(n:Nat)(z:List UInt8 × Sk):Prop:=ph (n+10989) z.2
theorem ph.step{n:Nat}{q:Sk}(h:ph n q)(x:St)(hx:x.a<=999):ph (n+10989) (jc q x).2:=by
 have key:vr n (jc q x):=by
  unfold jc;refine di (P:=vr n) (fun _=>⟨(h.fit.ask _ _ _ _).mono oM,cv.ask h.fit.inv h.gO _ _ _ _⟩) (fun _=>?_);refine di (P:=vr n) (fun _=>⟨(h.fit.ask _ _ _ _).mono oM,cv.ask h.fit.inv h.gO _ _ _ _⟩) (fun _=>?_);refine di (P:=vr n) (fun _=>⟨(h.fit.ask _ _ _ _).mono oM,cv.ask h.fit.inv h.gO _ _ _ _⟩) (fun _=>?_);refine di (P:=vr n) (fun _=>h.mono oM) (fun _=>?_);refine di (P:=vr n) (fun _=>⟨h.fit.tick.mono oM,cv.tick h.fit.inv h.gO⟩) (fun _=>?_);refine di (P:=vr n) (fun _=>⟨h.fit.round.mono oM,cv.round h.fit h.gO⟩) (fun _=>?_);refine di (P:=vr n) (fun _=>⟨h.fit.clean.mono oM,cv.clean h.gO⟩) (fun _=>?_);refine di (P:=vr n) (fun _=>⟨h.fit.bf.mono oM,cv.bf h.gO⟩) (fun _=>?_);refine di (P:=vr n) (fun _=>⟨(h.fit.cz _ _).mono oM,cv.cz h.fit.inv h.fit.short h.gO _ _⟩) (fun _=>?_);refine di (P:=vr n) (fun _=>⟨(h.fit.cz _ _).mono oM,cv.cz h.fit.inv h.fit.short h.gO _ _⟩) (fun _=>?_);refine di (P:=vr n) (fun _=>⟨(h.fit.settle _).mono oM,cv.settle _ h.fit h.gO⟩) (fun _=>?_);refine di (P:=vr n) (fun _=>h.mono oM) (fun _=>?_);refine di (P:=vr n) (fun _=>h.mono oM) (fun _=>?_);refine di (P:=vr n) (fun _=>h.mono oM) (fun _=>?_);refine di (P:=vr n) (fun _=>(h.fs _).mono oM) (fun _=>?_);exact h.mono oM
 exact key
theorem aby(x:St)(h:aV x=0):x.a<=999:=(pJ h).2.2.1.2
theorem AM(l:List Rq):mc (l.map Rq.nf)=mc l:=by
 unfold mc
 cases l with
 |nil=>rfl
 |cons r l =>
  rw[aaP sM,aaP sM,List.map_map]
  rfl
theorem Gu(x:St):0<=aV x/\aV x<=100:=by
 unfold aV
 split
 ·omega
 split
 ·omega
 split
 ·omega
 split
 ·omega
 split
 ·omega
 split<;>omega
abbrev vt(g s:Nat)(A:Sa)(w:World)(xw:ByteArray)(xa xb:Int)(dt:ByteArray)(z:List UInt8 × Sk):Prop:=Calls prog 12 #[.pointer (some ⟨g,0,none⟩),.agg #[.string xw,i6 xa,i6 xb,.string dt]] w (ks g s A w z.1 z.2)
section
variable(W:World)(g s:Nat)(p:Sk)(A:Sa)(w:World)
theorem Xg(h:lf g s p A w)(n:Nat)(_:ph n p.nf)(_:n<=3880000)(hLW:lO W)(fB:bL W w)(_:∀j,A.ay s j->W.heap.size<=j)(_:W.heap.size<=g)(xw:ByteArray)(xa xb:Int)(dt:ByteArray)(hx:kM ⟨xw,xa,xb,dt⟩)(h0:¬aV ⟨xw,xa,xb,dt⟩=0):Calls prog 12 #[.pointer (some ⟨g,0,none⟩),.agg #[.string xw,i6 xa,i6 xb,.string dt]] w (ks g s A w (eb (aV ⟨xw,xa,xb,dt⟩)) p.nf):=by
 have fW:=ae (fun w'=>vO ⟨xw,xa,xb,dt⟩ w' hx);have HS:=ae (Gu ⟨xw,xa,xb,dt⟩);generalize aV ⟨xw,xa,xb,dt⟩=er at *;have HP:=ae h;have gM:=ae (hLW.later fB);have aaT:=ae (fun w':World=>(by have:=fW.out w';rw[show dm er=.iface 87 (i6 er) by rw[dm,aaP h0]] at this;exact this));have ze:=ae (fun w' h'=>(by have:=n4 er w' h' HS.out;rw[show dm er=.iface 87 (i6 er) by rw[dm,aaP h0]] at this;exact this));clear h hLW fB hx h0 fW;go_enter func12,ntmps12;go_wp2_with fail;refine cM (aaT.out _) ?_;intro w1 aw;have aN:Hid (bL w w1):=af (aA w _) aw;clear aw aaT;go_wp2_with fail;refine cM (ze.out _ (gM.out.later aN.out)) ?_;intro w2 aC;have bT:=ae (af aN.out aC);clear aC ze;go_wp2;go_ret;exact⟨rfl,HP.out.same bT.out⟩
theorem Xf(h:lf g s p A w)(n:Nat)(hf:ph n p.nf)(hn:n<=3880000)(hLW:lO W)(fB:bL W w)(fF:∀j,A.ay s j->W.heap.size<=j)(fG:W.heap.size<=g)(x:St)(hx:kM x):Calls prog 12 #[.pointer (some ⟨g,0,none⟩),x.val] w (ks g s A w (JW p.nf x).1 (JW p.nf x).2):=by
 have hF:eT n p:=hf.fit.cD;obtain⟨xw,xa,xb,dt⟩:=x;show Calls prog 12 #[.pointer (some ⟨g,0,none⟩),.agg #[.string xw,i6 xa,i6 xb,.string dt]] w _;unfold JW
 by_cases h0:aV ⟨xw,xa,xb,dt⟩=0
 ·rw[aaV h0];have hw:=(pJ h0).1;have key:vt g s A w xw xa xb dt (jc p.nf ⟨xw,xa,xb,dt⟩):=by
   unfold jc;refine di (P:=vt g s A w xw xa xb dt) (fun e=>by subst e;exact Ul W g s p A w h n hF hn hLW fB fF fG xa xb dt hx h0) (fun e0=>?_);refine di (P:=vt g s A w xw xa xb dt) (fun e=>by subst e;exact QK W g s p A w h n hF hn hLW fB fF fG xa xb dt hx h0) (fun e1=>?_);refine di (P:=vt g s A w xw xa xb dt) (fun e=>by subst e;exact Um W g s p A w h n hF hn hLW fB fF fG xa xb dt hx h0) (fun e2=>?_);refine di (P:=vt g s A w xw xa xb dt) (fun e=>by subst e;exact Xi W g s p A w h n hF hn hLW fB fF fG xa xb dt (ae hf.gO) hx h0) (fun e3=>?_);refine di (P:=vt g s A w xw xa xb dt) (fun e=>by subst e;exact Un W g s p A w h n hF hn hLW fB fF fG xa xb dt hx h0) (fun e4=>?_);refine di (P:=vt g s A w xw xa xb dt) (fun e=>by subst e;exact QJ W g s p A w h n hF hn hLW fB fF fG xa xb dt hx h0) (fun e5=>?_);refine di (P:=vt g s A w xw xa xb dt) (fun e=>by subst e;exact QE W g s p A w h n hF hn hLW fB fF fG xa xb dt hx h0) (fun e6=>?_);refine di (P:=vt g s A w xw xa xb dt) (fun e=>by subst e;exact JC W g s p A w h n hF hn hLW fB fF fG xa xb dt hx h0) (fun e7=>?_);refine di (P:=vt g s A w xw xa xb dt) (fun e=>by subst e;exact Xh W g s p A w h n hF hn hLW fB fF fG xa xb dt hx h0) (fun e8=>?_);refine di (P:=vt g s A w xw xa xb dt) (fun e=>by subst e;exact QH W g s p A w h n hF hn hLW fB fF fG xa xb dt hx h0) (fun e9=>?_);refine di (P:=vt g s A w xw xa xb dt) (fun e=>by subst e;exact Nq W g s p A w h n hF hn hLW fB fF fG xa xb dt hx h0) (fun e10=>?_);refine di (P:=vt g s A w xw xa xb dt) (fun e=>by subst e;have:=QI W g s p A w h n hF hn hLW fB fF fG xa xb dt hx h0;rw[<-AM] at this;exact this) (fun e11=>?_);refine di (P:=vt g s A w xw xa xb dt) (fun e=>by subst e;have:=Uk W g s p A w h n hF hn hLW fB fF fG xa xb dt hx h0;rw[<-AM] at this;exact this) (fun e12=>?_);refine di (P:=vt g s A w xw xa xb dt) (fun e=>by subst e;exact QG W g s p A w h n hF hn hLW fB fF fG xa xb dt hx h0) (fun e13=>?_);refine di (P:=vt g s A w xw xa xb dt) (fun e=>by subst e;exact QF W g s p A w h n hF hn hLW fB fF fG xa xb dt hx h0) (fun e14=>?_);have fp:dY xw=none:=by
    unfold dY;rw[aaP e13,aaP e12,aaP e11,aaP e5,aaP e7,aaP e6,aaP e4,aaP e14,aaP e10,aaP e9,aaP e8,aaP e3,aaP e2,aaP e1,aaP e0]
   rw[show dY (St.mk xw xa xb dt).word=none from fp] at hw
   cases hw
  exact key
 ·rw[aaP h0];exact Xg W g s p A w h n hf hn hLW fB fF fG xw xa xb dt hx h0
end
def AI(g s:Nat)(A:Sa)(j:Nat):Prop:=A.ay s j\/j=g
structure PC(g s:Nat)(p:Sk)(A:Sa)(X:Nat->Prop)(w w':World):Prop where
 at':lf g s p A w'
 nf:p.nf=oQ
 bel:bL w w'
 ay:∀j,AI g s A j->w.heap.size<=j
 X:A.X=X
 v:w.heap.size<=A.v
theorem Xj(w:World)(X:Nat->Prop)(hX:∀j,X j->j<w.heap.size):Calls prog 9 #[] w fun e w'=>∃g s p A,e=.returned (.pointer (some ⟨g,0,none⟩))/\PC g s p A X w w':=by
 have HX:=ae hX;clear hX;go_enter func9,ntmps9;go_wp2_with fail;refine(aag _).mono ?_;rintro e w1 ⟨rfl,hd,aw,eI⟩;have HD:=ae hd;have aN:=ae aw;have cf:=ae eI;clear hd aw eI;go_wp2_with fail;refine(Jj _ d0 Ih w1 HD.out rfl X (fun j hj=>abF (HX.out j hj) aN.out.size)).mono ?_;rintro e w2 ⟨s,v,bm,rfl,cZ,aC,z1,z2,z3⟩;have HS:=ae cZ;have HZ:=ae (⟨aC,z1,z2,z3⟩:_/\_/\_/\_);clear cZ aC z1 z2 z3;go_wp2;go_ret;have hz:=aN.out.size;have cC:=cf.out;obtain⟨aC,z1,z2,z3⟩:=HZ.out;have CU:∀j,(Po w.heap.size v bm Ih X).ay s j->w.heap.size<=j:=by
  rintro j (e|(e|e)|⟨i,_,q',cI,_⟩)
  ·omega
  ·have e':j=bm:=e
   omega
  ·rcases e with e|⟨q,hq,_⟩|⟨q,hq,_⟩
   ·have e':j=w.heap.size:=e
    omega
   ·cases hq
   ·cases hq
  ·cases cI
 have K7:bL w2 (w2.alloc (.cells #[.pointer (some ⟨w.heap.size,0,none⟩),.pointer (some ⟨s,0,none⟩)] 72 (0,0))):=aA w2 _;refine⟨w2.heap.size,s,xF d0,Po w.heap.size v bm Ih X,rfl,⟨HS.out.later K7,Array.getElem?_push_size,fun e=>by have:=HS.out.bC _ e;omega⟩,rfl,af (af aN.out aC) K7,?_,rfl,by show w.heap.size<=v;omega⟩;rintro j (e|e)
 ·exact CU j e
 ·rw[e];have:=aC.size;omega
section
variable{W:World}{g1 s1 g2 s2 s':Nat}{p1 p2 p' q:Sk}{A1 A2 A':Sa}{w w':World}
theorem lf.plt{g s:Nat}{p:Sk}{A:Sa}{w:World}(h:lf g s p A w)(j:Nat)(hj:AI g s A j):j<w.heap.size:=by
 rcases hj with e|e
 ·exact h.st.bC j e
 ·rw[e];exact aK h.a7
end
section
variable{W:World}{g1 g2 n1 n2:Nat}{q1 q2:Sk}{w w':World}
end
def VF(W:World)(g n:Nat)(q:Sk)(w:World):Prop:=∃s p A,lf g s p A w/\p.nf=q/\ph n q/\bL W w/\(∀j,AI g s A j->W.heap.size<=j)
section
variable{W:World}{g n:Nat}{q:Sk}{w w':World}
theorem PC.ae2{s:Nat}{p:Sk}{A:Sa}{X:Nat->Prop}(h:PC g s p A X w w')(hb:bL W w):VF W g 0 oQ w':=⟨s,p,A,h.at',h.nf,U4,af hb h.bel,fun j hj=>abb hb.size (h.ay j hj)⟩
end
def yw(q:Sk)(s:ByteArray):List UInt8 × Sk:=if ri s=true then jc q (ju s.data.toList) else(eb 4,q)
theorem FV{s:ByteArray}(h:ri s=true):aV (ju s.data.toList)=0:=by
 unfold ri kj at h;simp only[abW,aba] at h;exact h.2.1
structure aep(W:World)(g b n:Nat)(q:Sk)(s:Nat)(p:Sk)(A:Sa)(w:World):Prop where
 at':lf g s p A w
 nf:p.nf=q
 fit:ph n q
 bel:bL W w
 ay:∀j,AI g s A j->W.heap.size<=j
 X:A.X=fun j=>j=b
 off:¬AI g s A b
 v:¬A.v=b
 lt:b<w.heap.size
 new:W.heap.size<=b
def lM(W:World)(g b n:Nat)(q:Sk)(w:World):Prop:=∃s p A,aep W g b n q s p A w
section
variable{W:World}{g b n:Nat}{q:Sk}{w w':World}
theorem lM.bel(h:lM W g b n q w):bL W w:=by
 obtain⟨s,p,A,h⟩:=h;exact h.bel
theorem lM.lt(h:lM W g b n q w):b<w.heap.size:=by
 obtain⟨s,p,A,h⟩:=h;exact h.lt
theorem lM.later(h:lM W g b n q w)(hb:bL w w'):lM W g b n q w':=by
 obtain⟨s,p,A,h⟩:=h;exact⟨s,p,A,h.at'.later hb,h.nf,h.fit,af h.bel hb,h.ay,h.X,h.off,h.v,abF h.lt hb.size,h.new⟩
theorem lM.mono{m:Nat}(h:lM W g b n q w)(hm:n<=m):lM W g b m q w:=by
 obtain⟨s,p,A,h⟩:=h;exact⟨s,p,A,h.at',h.nf,h.fit.mono hm,h.bel,h.ay,h.X,h.off,h.v,h.lt,h.new⟩
theorem VF.box(h:VF W g n q w)(hb:bL w w')(hl:w.heap.size<w'.heap.size):lM W g w.heap.size n q w':=by
 obtain⟨s,p,A,h1,h2,h3,h4,h5⟩:=h;have tH:=h1.later hb;refine⟨s,p,{ A with X:=fun j=>j=w.heap.size },⟨h1.st.GS tH.st (fun j=>j=w.heap.size) (fun j hj=>ir (afM hj.symm)) (fun j hj=>by rw[hj];exact hl),tH.a7,tH.off⟩,h2,h3,af h4 hb,h5,rfl,fun e=>?_,fun e=>?_,hl,h4.size⟩
 ·have:=h1.plt _ e;omega
 ·have a:A.v<w.heap.size:=aK h1.st.mem.cE.a7;have e':A.v=w.heap.size:=e
  omega
theorem lM.put(h:lM W g b n q w)(o:Nat)(v:Value):lM W g b n q (w.setCell ⟨b,o,none⟩ v):=by
 obtain⟨s,p,A,h⟩:=h;have hO:aH (fun j=>j=b) w (w.setCell ⟨b,o,none⟩ v):=(aH.refl (fun j=>j=b) w).setCell ⟨b,o,none⟩ (il rfl) _;have hx:∀j,j=b->A.off s j:=fun j hj=>ir (by rw[h.X];exact hj)
 have eX:∀{j:Nat},¬A.off s j->¬j=b:=fun h1 e=>h1 (hx _ e)
 have Lc:¬g=b:=fun e=>h.off (ir e.symm)
 refine⟨s,p,A,⟨h.at'.st.frame hO (fun j hj e=>h.off (il (e▸hj))) h.v (fun aE q hq=>eX (h.at'.st.mem.ia aE q hq)) (fun aE q hq=>eX (h.at'.st.mem.iH aE q hq)) (fun r hr=>(h.at'.st.mem.fh r hr).mono hx),?_,h.at'.off⟩,h.nf,h.fit,al h.bel h.new v,h.ay,h.X,h.off,h.v,abF h.lt hO.size,h.new⟩;rw[hO.block g (aK h.at'.a7) Lc];exact h.at'.a7
theorem Ue(h:lM W g b n q w)(hn:n<=3880000)(hT:lO W)(x:St)(hx:kM x)(h0:aV x=0) :
 Calls prog 12 #[.pointer (some ⟨g,0,none⟩),x.val] w fun e w'=>e=.returned (.string ⟨(jc q x).1.toArray⟩)/\lM W g b (n+10989) (jc q x).2 w'/\w'.heap[b]?=w.heap[b]?:=by
 obtain⟨s,p,A,h⟩:=h;have h5:=h.ay;have hp:=Xf W g s p A w h.at' n (by rw[h.nf];exact h.fit) hn hT h.bel (fun j hj=>h5 j (il hj)) (h5 g (ir rfl)) x hx;have e0:JW p.nf x=jc q x:=by rw[h.nf];exact aaV h0
 rw[e0] at hp;refine hp.mono ?_;rintro e w' ⟨he,s',p',A',hs⟩;have Te:∀j,AI g s' A' j->AI g s A j\/w.heap.size<=j:=by
  rintro j (e|e)
  ·exact(hs.ay j e).imp il id
  ·exact il (ir e)
 have au:=h.lt;refine⟨he,⟨s',p',A',hs.at',hs.nf,h.fit.step x (aby x h0),h.bel.trans (hs.only.below h.bel.size h5),fun j hj=>(Te j hj).elim (h5 j) (fun e=>abb h.bel.size e),hs.X.trans h.X,fun e=>(Te b e).elim h.off (fun e2=>oM),fun e=>?_,abF au hs.only.size,h.new⟩,hs.only.block b au h.off⟩
 rcases hs.v with e1|e1
 ·exact h.v (e1.symm.trans e)
 ·omega
end
theorem MW{W:World}{g b n:Nat}{q:Sk}{w:World}(h:lM W g b n q w)(hn:n<=3880000)(hT:lO W)(hLW:nk W)(s:ByteArray)(hs:s.size<=1000) :
 Calls prog 65 #[.pointer (some ⟨g,0,none⟩),.string s] w fun e w'=>e=.returned (.string ⟨(yw q s).1.toArray⟩)/\lM W g b (n+10989) (yw q s).2 w'/\w'.heap[b]?=w.heap[b]?:=by
 obtain⟨ok,hok⟩:∃ok,ri s=ok:=⟨_,rfl⟩
 have Ox:=ae (Sp s hs w (hLW.later h.bel) ok hok);have HP:=ae h;have hY:=Mc s.data.toList (by rw[show s.data.toList.length=s.size from ab6];exact hs);have YR:=h.lt;unfold yw
 cases ok
 ·rw[hok,aaP aa7];have ze:=ae (fun w' (hb:bL w w')=>uq 4 w' (hT.later (af h.bel hb)) oM);have Ke:Hid (∀w',bL w w'->lM W g b (n+10989) q w'/\w'.heap[b]?=w.heap[b]?):=by
   intro w' hb;exact⟨(h.later hb).mono oM,hb.block b YR⟩
  rw[aaP aa7] at Ox;generalize eb 4=T at *;clear h hT hLW hY hok;go_enter func65,ntmps65;go_wp2_with fail;refine Ox.out.mono ?_;rintro e w1 ⟨rfl,aw⟩;have aN:=ae aw;clear aw Ox;go_wp2_with fail;refine cM (ze.out _ (by have aw:=aN.out;exact bQ)) ?_;intro w2 aC;have HO:=ae (Ke.out w2 (by have aw:=aN.out;exact bQ));clear aC ze Ke aN;go_wp2;go_ret;exact⟨rfl,HO.out⟩
 ·rw[hok,aaV rfl];have h0:=FV hok;rw[aaV rfl] at Ox;generalize ju s.data.toList=x at *;have oC:Hid (∀w',bL w w'->Calls prog 12 #[.pointer (some ⟨g,0,none⟩),x.val] w' fun e w2=>e=.returned (.string ⟨(jc q x).1.toArray⟩)/\lM W g b (n+10989) (jc q x).2 w2/\w2.heap[b]?=w.heap[b]?):=by
   intro w' hb;have:=Ue (h.later hb) hn hT x hY h0;rw[hb.block b YR] at this;exact this
  obtain⟨wd,xa,xb,dt⟩:=x;generalize jc q ⟨wd,xa,xb,dt⟩=z at *;clear h hT hLW hY hok h0 hn;go_enter func65,ntmps65;go_wp2_with fail;refine Ox.out.mono ?_;rintro e w1 ⟨rfl,aw⟩;have aN:=ae aw;clear aw Ox;go_wp2_with fail;refine cM (oC.out _ (by have aw:=aN.out;exact bQ)) ?_;intro w2 hp2;have HO:=ae hp2;clear hp2 oC aN;go_wp2;go_ret;exact⟨rfl,HO.out⟩
def xG(l:List ByteArray):Sk:=l.foldl (fun q s=>(yw q s).2) oQ
def vy(l:List ByteArray)(i:Nat):ByteArray:=⟨(yw (xG (l.take i)) (l.getD i bE)).1.toArray⟩
def kz(l:List ByteArray):List ByteArray:=(List.range l.length).map (vy l)
theorem pF(l:List ByteArray):(kz l).length=l.length:=by unfold kz;rw[abe,List.length_range]
theorem Mx{l:List ByteArray}{j:Nat}(h:j<l.length):xG (l.take (j+1))=(yw (xG (l.take j)) l[j]).2:=by
 unfold xG;rw[agk,aaX h,List.foldl_append]
 rfl
theorem Ks{l:List ByteArray}{j:Nat}(h:j<l.length):vy l j=⟨(yw (xG (l.take j)) l[j]).1.toArray⟩:=by
 unfold vy;rw[abd,aaX h]
 rfl
theorem Kr{l:List ByteArray}{j:Nat}(h:j<l.length):(kz l)[j]?=some (vy l j):=by
 unfold kz;rw[acq,List.getElem?_range h]
 rfl
def vk(l:List ByteArray)(j:Nat):List Value:=((kz l).take j++List.replicate (l.length-j) bE).map Value.string
theorem QZ(l:List ByteArray):vk l 0=List.replicate l.length (.string bE):=by
 unfold vk;rw[afv,abJ,List.map_replicate,Nat.sub_zero]
theorem XE(l:List ByteArray):vk l l.length=(kz l).map Value.string:=by
 unfold vk;rw[afC,List.replicate_zero,afd,abv (by rw[pF];exact aaO _)]
theorem aat{l:List ByteArray}{j:Nat}(h:j<l.length):(vk l j)[j]?=some (.string bE):=by
 unfold vk;have e:((kz l).take j).length=j:=by rw[abm,pF];omega
 rw[acq,abZ oM,e,afC,List.getElem?_replicate_of_lt oM]
 rfl
theorem XF{l:List ByteArray}{j:Nat}(h:j<l.length):(vk l j).set j (.string (vy l j))=vk l (j+1):=by
 unfold vk;have e:((kz l).take j).length=j:=by rw[abm,pF];omega
 obtain⟨m,hm⟩:∃m,l.length-j=m+1:=⟨l.length-j-1,oM⟩
 have Ts:l.length-(j+1)=m:=oM;rw[hm,Ts,<-agd,adn _ _ oM,e,afC,List.replicate_succ,List.set_cons_zero,agk,Kr h]
 simp
theorem Z8(n:Nat):madeCells #[Value.string bE] n=(List.replicate n (Value.string bE)).toArray:=by
 rw[<-toList_madeCells_one (.string bE) n,afk]
theorem Ss(l:List ByteArray)(a:Option Addr)(c:Nat)(w:World)(h90:90<l.length):Calls prog 19 #[.slice a l.length c] w (rB (.tuple #[.slice none 0 0,.iface 87 (i6 2)]) w):=by
 have Wp:(90:Int)<(l.length:Int):=oM;go_enter func19,ntmps19;go_wp2
 go_ret2
 exact⟨rfl,bQ⟩
theorem KJ(l:List ByteArray)(a:Option Addr)(c:Nat)(w:World)(hl:StrsAt w a l)(h90:l.length<=90)(hs:∀s∈l,s.size<=1000)(hT:lO w)(hLW:nk w):Calls prog 19 #[.slice a l.length c] w fun e w'=>∃b,e=.returned (.tuple #[.slice (some ⟨b,0,none⟩) l.length l.length,.nilIface])/\w.heap.size<=b/\w'.heap[b]?=some (.cells ((kz l).map Value.string).toArray 9 (0,0))/\bL w w':=by
 have Wp:¬(90:Int)<(l.length:Int):=oM;have HL:=ae hl;have HS:=ae hs;have HT:=ae hT;have gM:=ae hLW;have hmk:=run_make_row' (P:=prog) 51 9 (.string bE) 16 underlying51 Ly rfl .i64 .i64 l.length oM oM;clear hl hs hT hLW;go_enter func19,ntmps19;go_wp2_with fail;refine(Xj _ (fun _=>False) (fun _ h=>h.elim)).mono ?_;rintro e w1 ⟨g,s0,p0,A0,rfl,hp⟩;have HP:=ae (hp.ae2 (W:=w) (aX _ _));have acG:w1.heap.size<(w1.alloc (.cells (madeCells #[Value.string bE] l.length) 9)).heap.size:=sM;have HG:=ae (HP.out.box (aA w1 (.cells (madeCells #[Value.string bE] l.length) 9)) acG);have acr:(w1.alloc (.cells (madeCells #[Value.string bE] l.length) 9)).heap[w1.heap.size]?=some (.cells (vk l 0).toArray 9 (0,0)):=by rw[acm,Z8,<-QZ]
 have aaR:=ae acr;clear hp HP acG acr;go_wp2;generalize w1.alloc (.cells (madeCells #[Value.string bE] l.length) 9)=w2 at *;generalize w1.heap.size=b at *
 go_loopw[18] (fun i wr=>∃j:Nat,j<=l.length/\i=i6 j/\lM w g b (10989*j) (xG (l.take j)) wr/\wr.heap[b]?=some (.cells (vk l j).toArray 9 (0,0))) (fun i _=>l.length-(intOf i).toNat)
 case atStart=>exact⟨0,oM,rfl,HG.out,aaR.out⟩
 case round =>
  clear HG aaR;obtain⟨j,hj,rfl,hp,qz⟩:=hrel;have HP:=ae hp;have za:=ae qz;clear hp qz
  by_cases au:j<l.length
  ·have gC:(j:Int)<(l.length:Int):=oM;have uQ:(0:Int)<=(j:Int):=oM
   rcases HL.out.form with rfl|⟨bl,ol,rfl⟩
   ·exact absurd au (aa0 _)
   have vJ:=(HL.out.later HP.out.bel).at au;have hsj:=HS.out _ (aa5 au);have HAN:Hid (∀w',lM w g b (10989*j) (xG (l.take j)) w'->Calls prog 65 #[.pointer (some ⟨g,0,none⟩),.string l[j]] w' fun e w2=>e=.returned (.string (vy l j))/\lM w g b (10989*j+10989) (xG (l.take (j+1))) w2/\w2.heap[b]?=w'.heap[b]?):=by
    intro w' h';have:=MW h' oM HT.out gM.out l[j] hsj;rw[Ks au,Mx au];exact this
   obtain⟨x,hx⟩:∃x,vy l j=x:=⟨_,rfl⟩
   have HX:=ae hx;rw[hx] at HAN;generalize l[j]=sj at *;clear hsj hx;go_wp2_with fail;refine(HAN.out _ HP.out).mono ?_;rintro e w5 ⟨rfl,hp5,fm⟩;have iM:Hid (w5.heap[b]?=some (.cells (vk l j).toArray 9 (0,0))):=fm.trans za.out;have HP5:=ae hp5;have hc5:w5.cell? ⟨b,j,none⟩=some (.string bE):=by rw[aR iM.out];exact aat au
   have hf5:w5.frozen? ⟨b,j,none⟩=false:=cG iM.out j;have Lk:=hp5.lt;clear hp5 fm HAN HP vJ;go_wp2;go_roundw
   case rel =>
    refine⟨j+1,oM,gN,by have:=(HP5.out.put j (.string x));rwa [show 10989*(j+1)=10989*j+10989 from oM],?_⟩;rw[bJ iM.out,<-HX.out,XF au]
   case measure=>simp[intOf];omega
  ·obtain rfl:j=l.length:=oM;go_wp2
   go_ret2
   obtain⟨s,p,A,h⟩:=HP.out;exact⟨b,rfl,h.new,by rw[<-XE];exact za.out,h.bel⟩
end Go.Proofs.YtlhgjplipgandaaGreatDoor
