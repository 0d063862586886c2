/- Joined. -/
import Derived.Test.YtlhgjplipgandaaGreatDoorF11
set_option maxRecDepth 100000
set_option maxHeartbeats 8000000
set_option linter.unusedSimpArgs false
set_option linter.unusedSectionVars false
namespace Go.Proofs.YtlhgjplipgandaaGreatDoor
open Tryz
open Go.RowKit Go.BigFrame
theorem Q4(l:List Bf)(a:Option Addr)(c:Nat)(x:Bf)(hs:Array Value)(hz:hs.size=32)(B:Nat->Bool)(w:World)(hl:bA w a l)(G:kZ l)(hB:∀i,i<32->hs[i]?=some (.bool (B i)))(h8:l.length=8)(hi:ej (eP x.pl) l=-1)(j:Nat)(hj:j<l.length)(hr:dz (eu false (lu B)) l l.length=j) :
 Calls prog 108 #[.slice a l.length c,x.val,.agg hs] w fun e w'=>∃M a' c',e=.returned (.tuple #[.slice a' M.length c',i6 0])/\bA w' a' M/\D7 l x j M/\bL w w'/\n8 w.heap.size a' c' M.length:=by
 have bo:=hl.2;have HI:=aB hi;have Kj:=aB hr;have HH:=aB hB;have H8:=aB h8;have A8:(8:Int)<=(l.length:Int):=oM;have iV:Hid ((prog.info? 162).map (·.size)=some hs.toList.length):=(by rw[Hid,ab6,hz];kernel_rfl)
 clear hi hr hB h8 hz;go_enter func108,ntmps108;go_wp2_with fail;refine cM (vX l a c x.pl _ (hl.later (jo _ _ _)) HI.out) ?_;intro w1 aw;have aN:bL w w1:=bQ;have F1:ja w1 w.heap.size x:=ja.later (ja.later ⟨sM,sM,sM,sM⟩ (aA _ _)) aw;have Bt:(w1.alloc (.cells #[i6 0,.string ⟨#[]⟩,.bool false,i6 0] 137)).rangeAt (w.heap.size+1) 0 hs.toList:=by
  have r0:=AK (w.alloc (.cells #[i6 x.pl,.string x.data,.bool x.bM,i6 x.used] 137)) hs 162;simp only[aaW] at r0;intro i v hv;exact ai (aA w1 _) (ai aw (r0 i v hv))
 have VD:=aB Bt;have mG:=hl.later aN;clear aw Bt;go_wp2_with(refine wpList_load_mid rfl 162 (.tmp 5) rfl (w.heap.size+1) 0 rfl hs.toList _ VD.out underlying162 rfl iV.out ?_);refine cM (Gb l a c false hs B _ (mG.later (aA _ _)) G HH.out _ Kj.out) ?_;intro w2 aC;have qM:bL w w2:=bQ;have bb:=af (aA w1 _) aC;have eh:=mG.later bb;have Fz:=F1.later bb;have G:=aB G;obtain⟨p0,p1,p2,p3⟩:=id Fz;clear aC bb mG F1 aN;go_wp2_with fail;clear p0 p1 p2 p3;generalize BV:(j:Int)=g;have xL:=aB BV;clear BV;generalize SZ:w2=wz at eh Fz qM ⊢;clear SZ;obtain⟨ib,pr,de,cC,cF⟩:=eS yq
 go_loopw[11,12,13] (fun out laid i wr=>∃(k:Nat) (O:List Bf) (b:Bool),k<=l.length/\i=i6 k/\laid=.bool b/\xR l x g k O b/\wr.ownsRow wz.heap.size 137 4 out O.length (aU O)/\bL wz wr) (fun _ _ i _=>l.length-(intOf i).toNat)
 case atStart=>exact⟨0,[],false,oM,rfl,rfl,Hd _ _ _,abg _ _ _ _,aX _ _⟩
 case round =>
  rename_i u11
  obtain⟨k,O,b,hk,rfl,rfl,hR,dq,jN⟩:=hrel;have HR:=aB hR;have eE:=aB jN;have SU:O.length<=2*l.length:=(by have:=hR.len;omega)
  have eU:Hid (O.length<=16):=(by have:=G.out.len;show O.length<=16;omega)
  clear hR jN SU
  by_cases au:k<l.length
  ·have h0:l ≠ []:=by rintro rfl;exact absurd au (aa0 _)
   obtain⟨b0,o0,rfl⟩:=eh.form.resolve_left h0;obtain⟨c0,c1,c2,c3⟩:=(eh.later eE.out).cells au;obtain⟨p0,p1,p2,p3⟩:=Fz.later eE.out;have lc:=ar c0;have lx:=ar p0;clear h0;have WH:=au
   cases b
   ·by_cases iu:x.pl<=l[k].pl
    ·by_cases bV:l[k].pl=x.pl
     ·have gz:=aB (ep G.out au HR.out);have jn:Hid (ch l x g k au O false=O++[x]):=(by show ch l x g k au O false=O++[x];unfold ch;rw[aaV ⟨rfl,iu⟩,aaP (fun h=>h.1 bV)];simp)
      have hd:decide (x.pl<=l[k].pl)=true:=aa1 iu;have dA:(l[k].pl==x.pl)=true:=(by rw[bV];simp)
      have nC:(l[k].pl != x.pl)=false:=(by simp[bne,dA])
      have nD:(!(l[k].pl==x.pl))=false:=(by simp[dA])
      have nE:decide (l[k].pl=x.pl)=true:=(by simpa using dA)
      have HD:=aB hd;clear HR bV iu;go_wp2_with fail;refine wQ ?_
      repeat(go_big_quiet_step (first|exact rfl|fail))
      refine qE ?_;(try clear hc hf hz);(try clear HB);intro p HB hc hf hz;clear hc hf hz;generalize p.v=wq1 at HB ⊢;have cy:=aB (af eE.out HB);have aO:=aI dq HB;clear HB c0 c1 c2 c3 p0 p1 p2 p3 lc lx eE dq;obtain⟨c0,c1,c2,c3⟩:=(eh.later cy.out).cells au;obtain⟨p0,p1,p2,p3⟩:=Fz.later cy.out;have lc:=ar c0;have lx:=ar p0;have ez:=aB aO;have oe:=cy.out.size;go_wp2_with(at_builtin;refine aP rfl _ _ 91 rfl wz.heap.size 137 ib _ 4 40 underlying91 pr de cC cF rfl dM _ O.length (aU O) rfl (aI ez.out (aA _ _)) (some ⟨wq1.heap.size,0,none⟩) 1 1 (aU [x]) rfl (iY x wq1) (by unfold maxLen;have:=eU.out;omega) (by have:=eU.out;omega) (by simp only[aaW];omega) ?_;intro v2 CC aT cA);have cS:=aB (cy.out.trans (((aA wq1 _).mono oM).trans cA));clear cA c0 c1 c2 c3 p0 p1 p2 p3 lc lx ez cy aO oe;obtain⟨c0,c1,c2,c3⟩:=(eh.later cS.out).cells au;obtain⟨p0,p1,p2,p3⟩:=Fz.later cS.out;have lc:=ar c0;have lx:=ar p0;go_wp2_with fail;refine wQ ?_
      repeat(go_big_quiet_step (first|exact rfl|fail))
      refine qE ?_;(try clear hc hf hz);(try clear HB);intro p HB hc hf hz;clear hc hf hz;generalize p.v=wq2 at HB ⊢;have eW:=aB (af cS.out HB);have bw:=aI aT HB;clear HB c0 c1 c2 c3 p0 p1 p2 p3 lc lx cS aT;obtain⟨c0,c1,c2,c3⟩:=(eh.later eW.out).cells au;obtain⟨p0,p1,p2,p3⟩:=Fz.later eW.out;have lc:=ar c0;have lx:=ar p0;have fD:=aB bw;clear bw;go_wp2;go_roundw
      case rel=>exact⟨k+1,O++[x],true,oM,gN,rfl,by have h:=gz.out;rw[jn.out,HD.out] at h;exact h,by have h:=fD.out;(try simp only[aaQ,abl,bZ]);exact h,eW.out⟩
      case measure=>simp[intOf];omega
     ·by_cases ft:(k:Int)=g
      ·have gz:=aB (ep G.out au HR.out);have jn:Hid (ch l x g k au O false=O++[x]):=(by show ch l x g k au O false=O++[x];unfold ch;rw[aaV ⟨rfl,iu⟩,aaP (fun h=>h.2 ft)];simp)
       have hd:decide (x.pl<=l[k].pl)=true:=aa1 iu;have dA:(l[k].pl==x.pl)=false:=(by rw[aaU];exact bV)
       have nC:(l[k].pl != x.pl)=true:=(by simp[bne,dA])
       have nD:(!(l[k].pl==x.pl))=true:=(by simp[dA])
       have nE:decide (l[k].pl=x.pl)=false:=(by simpa using dA)
       have dC:((k:Int)==g)=true:=(by rw[ft];simp)
       have pO:((k:Int) != g)=false:=(by simp[bne,dC])
       have pP:(!((k:Int)==g))=false:=(by simp[dC])
       have pQ:decide ((k:Int)=g)=true:=(by simpa using dC)
       have HD:=aB hd;clear bV ft HR iu;go_wp2_with fail;refine wQ ?_
       repeat(go_big_quiet_step (first|exact rfl|fail))
       refine qE ?_;(try clear hc hf hz);(try clear HB);intro p HB hc hf hz;clear hc hf hz;generalize p.v=wq1 at HB ⊢;have cy:=aB (af eE.out HB);have aO:=aI dq HB;clear HB c0 c1 c2 c3 p0 p1 p2 p3 lc lx eE dq;obtain⟨c0,c1,c2,c3⟩:=(eh.later cy.out).cells au;obtain⟨p0,p1,p2,p3⟩:=Fz.later cy.out;have lc:=ar c0;have lx:=ar p0;have ez:=aB aO;have oe:=cy.out.size;go_wp2_with(at_builtin;refine aP rfl _ _ 91 rfl wz.heap.size 137 ib _ 4 40 underlying91 pr de cC cF rfl dM _ O.length (aU O) rfl (aI ez.out (aA _ _)) (some ⟨wq1.heap.size,0,none⟩) 1 1 (aU [x]) rfl (iY x wq1) (by unfold maxLen;have:=eU.out;omega) (by have:=eU.out;omega) (by simp only[aaW];omega) ?_;intro v2 CC aT cA);have cS:=aB (cy.out.trans (((aA wq1 _).mono oM).trans cA));clear cA c0 c1 c2 c3 p0 p1 p2 p3 lc lx ez cy aO oe;obtain⟨c0,c1,c2,c3⟩:=(eh.later cS.out).cells au;obtain⟨p0,p1,p2,p3⟩:=Fz.later cS.out;have lc:=ar c0;have lx:=ar p0;go_wp2_with fail;refine wQ ?_
       repeat(go_big_quiet_step (first|exact rfl|fail))
       refine qE ?_;(try clear hc hf hz);(try clear HB);intro p HB hc hf hz;clear hc hf hz;generalize p.v=wq2 at HB ⊢;have eW:=aB (af cS.out HB);have bw:=aI aT HB;clear HB c0 c1 c2 c3 p0 p1 p2 p3 lc lx cS aT;obtain⟨c0,c1,c2,c3⟩:=(eh.later eW.out).cells au;obtain⟨p0,p1,p2,p3⟩:=Fz.later eW.out;have lc:=ar c0;have lx:=ar p0;have fD:=aB bw;clear bw;go_wp2;go_roundw
       case rel=>exact⟨k+1,O++[x],true,oM,gN,rfl,by have h:=gz.out;rw[jn.out,HD.out] at h;exact h,by have h:=fD.out;(try simp only[aaQ,abl,bZ]);exact h,eW.out⟩
       case measure=>simp[intOf];omega
      ·have gz:=aB (ep G.out au HR.out);have jn:Hid (ch l x g k au O false=O++[x]++[l[k]]):=(by show ch l x g k au O false=O++[x]++[l[k]];unfold ch;rw[aaV ⟨rfl,iu⟩,aaV ⟨bV,ft⟩])
       have hd:decide (x.pl<=l[k].pl)=true:=aa1 iu;have dA:(l[k].pl==x.pl)=false:=(by rw[aaU];exact bV)
       have nC:(l[k].pl != x.pl)=true:=(by simp[bne,dA])
       have nD:(!(l[k].pl==x.pl))=true:=(by simp[dA])
       have nE:decide (l[k].pl=x.pl)=false:=(by simpa using dA)
       have dC:((k:Int)==g)=false:=(by rw[aaU];exact ft)
       have pO:((k:Int) != g)=true:=(by simp[bne,dC])
       have pP:(!((k:Int)==g))=true:=(by simp[dC])
       have pQ:decide ((k:Int)=g)=false:=(by simpa using dC)
       have HD:=aB hd;clear bV ft HR iu;go_wp2_with fail;refine wQ ?_
       repeat(go_big_quiet_step (first|exact rfl|fail))
       refine qE ?_;(try clear hc hf hz);(try clear HB);intro p HB hc hf hz;clear hc hf hz;generalize p.v=wq1 at HB ⊢;have cy:=aB (af eE.out HB);have aO:=aI dq HB;clear HB c0 c1 c2 c3 p0 p1 p2 p3 lc lx eE dq;obtain⟨c0,c1,c2,c3⟩:=(eh.later cy.out).cells au;obtain⟨p0,p1,p2,p3⟩:=Fz.later cy.out;have lc:=ar c0;have lx:=ar p0;have ez:=aB aO;have oe:=cy.out.size;go_wp2_with(at_builtin;refine aP rfl _ _ 91 rfl wz.heap.size 137 ib _ 4 40 underlying91 pr de cC cF rfl dM _ O.length (aU O) rfl (aI ez.out (aA _ _)) (some ⟨wq1.heap.size,0,none⟩) 1 1 (aU [x]) rfl (iY x wq1) (by unfold maxLen;have:=eU.out;omega) (by have:=eU.out;omega) (by simp only[aaW];omega) ?_;intro v2 CC aT cA);have cS:=aB (cy.out.trans (((aA wq1 _).mono oM).trans cA));clear cA c0 c1 c2 c3 p0 p1 p2 p3 lc lx ez cy aO oe;obtain⟨c0,c1,c2,c3⟩:=(eh.later cS.out).cells au;obtain⟨p0,p1,p2,p3⟩:=Fz.later cS.out;have lc:=ar c0;have lx:=ar p0;go_wp2_with fail;refine wQ ?_
       repeat(go_big_quiet_step (first|exact rfl|fail))
       refine qE ?_;(try clear hc hf hz);(try clear HB);intro p HB hc hf hz;clear hc hf hz;generalize p.v=wq2 at HB ⊢;have eW:=aB (af cS.out HB);have bw:=aI aT HB;clear HB c0 c1 c2 c3 p0 p1 p2 p3 lc lx cS aT;obtain⟨c0,c1,c2,c3⟩:=(eh.later eW.out).cells au;obtain⟨p0,p1,p2,p3⟩:=Fz.later eW.out;have lc:=ar c0;have lx:=ar p0;have Hy:=aB bw;have Lp:=eW.out.size;go_wp2_with(at_builtin;refine aP rfl _ _ 91 rfl wz.heap.size 137 ib _ 4 40 underlying91 pr de cC cF rfl dM _ (O.length+1) (aU O++aU [x]) rfl (aI Hy.out (aA _ _)) (some ⟨wq2.heap.size,0,none⟩) 1 1 (aU [l[k]]) rfl (iY l[k] wq2) (by unfold maxLen;have:=eU.out;omega) (by have:=eU.out;omega) (by simp only[aaW];omega) ?_;intro v4 CD pv cA);have xO:=aB (eW.out.trans (((aA wq2 _).mono oM).trans cA));clear cA c0 c1 c2 c3 p0 p1 p2 p3 lc lx Hy eW bw Lp;obtain⟨c0,c1,c2,c3⟩:=(eh.later xO.out).cells au;obtain⟨p0,p1,p2,p3⟩:=Fz.later xO.out;have lc:=ar c0;have lx:=ar p0;have fD:=aB pv;clear pv;go_wp2;go_roundw
       case rel=>exact⟨k+1,O++[x]++[l[k]],true,oM,gN,rfl,by have h:=gz.out;rw[jn.out,HD.out] at h;exact h,by have h:=fD.out;(try simp only[aaQ,abl,bZ]);exact h,xO.out⟩
       case measure=>simp[intOf];omega
    ·have bV:¬l[k].pl=x.pl:=oM
     by_cases ft:(k:Int)=g
     ·have gz:=aB (ep G.out au HR.out);have jn:Hid (ch l x g k au O false=O):=(by show ch l x g k au O false=O;unfold ch;rw[aaP (fun h=>iu h.2),aaP (fun h=>h.2 ft)];simp)
      have hd:decide (x.pl<=l[k].pl)=false:=aa9 iu;have dA:(l[k].pl==x.pl)=false:=(by rw[aaU];exact bV)
      have nC:(l[k].pl != x.pl)=true:=(by simp[bne,dA])
      have nD:(!(l[k].pl==x.pl))=true:=(by simp[dA])
      have nE:decide (l[k].pl=x.pl)=false:=(by simpa using dA)
      have dC:((k:Int)==g)=true:=(by rw[ft];simp)
      have pO:((k:Int) != g)=false:=(by simp[bne,dC])
      have pP:(!((k:Int)==g))=false:=(by simp[dC])
      have pQ:decide ((k:Int)=g)=true:=(by simpa using dC)
      have HD:=aB hd;clear bV ft HR iu;go_wp2_with fail;refine wQ ?_
      repeat(go_big_quiet_step (first|exact rfl|fail))
      refine qE ?_;(try clear hc hf hz);(try clear HB);intro p HB hc hf hz;clear hc hf hz;generalize p.v=wq1 at HB ⊢;have cy:=aB (af eE.out HB);have aO:=aI dq HB;clear HB c0 c1 c2 c3 p0 p1 p2 p3 lc lx eE dq;obtain⟨c0,c1,c2,c3⟩:=(eh.later cy.out).cells au;obtain⟨p0,p1,p2,p3⟩:=Fz.later cy.out;have lc:=ar c0;have lx:=ar p0;go_wp2_with fail;refine wQ ?_
      repeat(go_big_quiet_step (first|exact rfl|fail))
      refine qE ?_;(try clear hc hf hz);(try clear HB);intro p HB hc hf hz;clear hc hf hz;generalize p.v=wq2 at HB ⊢;have cS:=aB (af cy.out HB);have aT:=aI aO HB;clear HB c0 c1 c2 c3 p0 p1 p2 p3 lc lx cy aO;obtain⟨c0,c1,c2,c3⟩:=(eh.later cS.out).cells au;obtain⟨p0,p1,p2,p3⟩:=Fz.later cS.out;have lc:=ar c0;have lx:=ar p0;have fD:=aB aT;clear aT;go_wp2;go_roundw
      case rel=>exact⟨k+1,O,false,oM,gN,rfl,by have h:=gz.out;rw[jn.out,HD.out] at h;exact h,by have h:=fD.out;(try simp only[aaQ,abl,bZ]);exact h,cS.out⟩
      case measure=>simp[intOf];omega
     ·have gz:=aB (ep G.out au HR.out);have jn:Hid (ch l x g k au O false=O++[l[k]]):=(by show ch l x g k au O false=O++[l[k]];unfold ch;rw[aaP (fun h=>iu h.2),aaV ⟨bV,ft⟩];simp)
      have hd:decide (x.pl<=l[k].pl)=false:=aa9 iu;have dA:(l[k].pl==x.pl)=false:=(by rw[aaU];exact bV)
      have nC:(l[k].pl != x.pl)=true:=(by simp[bne,dA])
      have nD:(!(l[k].pl==x.pl))=true:=(by simp[dA])
      have nE:decide (l[k].pl=x.pl)=false:=(by simpa using dA)
      have dC:((k:Int)==g)=false:=(by rw[aaU];exact ft)
      have pO:((k:Int) != g)=true:=(by simp[bne,dC])
      have pP:(!((k:Int)==g))=true:=(by simp[dC])
      have pQ:decide ((k:Int)=g)=false:=(by simpa using dC)
      have HD:=aB hd;clear bV ft HR iu;go_wp2_with fail;refine wQ ?_
      repeat(go_big_quiet_step (first|exact rfl|fail))
      refine qE ?_;(try clear hc hf hz);(try clear HB);intro p HB hc hf hz;clear hc hf hz;generalize p.v=wq1 at HB ⊢;have cy:=aB (af eE.out HB);have aO:=aI dq HB;clear HB c0 c1 c2 c3 p0 p1 p2 p3 lc lx eE dq;obtain⟨c0,c1,c2,c3⟩:=(eh.later cy.out).cells au;obtain⟨p0,p1,p2,p3⟩:=Fz.later cy.out;have lc:=ar c0;have lx:=ar p0;go_wp2_with fail;refine wQ ?_
      repeat(go_big_quiet_step (first|exact rfl|fail))
      refine qE ?_;(try clear hc hf hz);(try clear HB);intro p HB hc hf hz;clear hc hf hz;generalize p.v=wq2 at HB ⊢;have cS:=aB (af cy.out HB);have aT:=aI aO HB;clear HB c0 c1 c2 c3 p0 p1 p2 p3 lc lx cy aO;obtain⟨c0,c1,c2,c3⟩:=(eh.later cS.out).cells au;obtain⟨p0,p1,p2,p3⟩:=Fz.later cS.out;have lc:=ar c0;have lx:=ar p0;have mz:=aB aT;have ud:=cS.out.size;go_wp2_with(at_builtin;refine aP rfl _ _ 91 rfl wz.heap.size 137 ib _ 4 40 underlying91 pr de cC cF rfl dM _ O.length (aU O) rfl (aI mz.out (aA _ _)) (some ⟨wq2.heap.size,0,none⟩) 1 1 (aU [l[k]]) rfl (iY l[k] wq2) (by unfold maxLen;have:=eU.out;omega) (by have:=eU.out;omega) (by simp only[aaW];omega) ?_;intro v3 CD bw cA);have eW:=aB (cS.out.trans (((aA wq2 _).mono oM).trans cA));clear cA c0 c1 c2 c3 p0 p1 p2 p3 lc lx mz cS aT ud;obtain⟨c0,c1,c2,c3⟩:=(eh.later eW.out).cells au;obtain⟨p0,p1,p2,p3⟩:=Fz.later eW.out;have lc:=ar c0;have lx:=ar p0;have fD:=aB bw;clear bw;go_wp2;go_roundw
      case rel=>exact⟨k+1,O++[l[k]],false,oM,gN,rfl,by have h:=gz.out;rw[jn.out,HD.out] at h;exact h,by have h:=fD.out;(try simp only[aaQ,abl,bZ]);exact h,eW.out⟩
      case measure=>simp[intOf];omega
   ·have bV:¬l[k].pl=x.pl:=(by have:=HR.out.yes rfl k au (aaO _);omega)
    by_cases ft:(k:Int)=g
    ·have gz:=aB (ep G.out au HR.out);have jn:Hid (ch l x g k au O true=O):=(by show ch l x g k au O true=O;unfold ch;rw[aaP sM,aaP (fun h=>h.2 ft)];simp)
     have hd:decide (x.pl<=l[k].pl)=true:=aa1 (agb (HR.out.yes rfl k au (aaO _)));have dA:(l[k].pl==x.pl)=false:=(by rw[aaU];exact bV)
     have nC:(l[k].pl != x.pl)=true:=(by simp[bne,dA])
     have nD:(!(l[k].pl==x.pl))=true:=(by simp[dA])
     have nE:decide (l[k].pl=x.pl)=false:=(by simpa using dA)
     have dC:((k:Int)==g)=true:=(by rw[ft];simp)
     have pO:((k:Int) != g)=false:=(by simp[bne,dC])
     have pP:(!((k:Int)==g))=false:=(by simp[dC])
     have pQ:decide ((k:Int)=g)=true:=(by simpa using dC)
     have HD:=aB hd;clear bV ft HR hd;go_wp2_with fail;refine wQ ?_
     repeat(go_big_quiet_step (first|exact rfl|fail))
     refine qE ?_;(try clear hc hf hz);(try clear HB);intro p HB hc hf hz;clear hc hf hz;generalize p.v=wq1 at HB ⊢;have cy:=aB (af eE.out HB);have aO:=aI dq HB;clear HB c0 c1 c2 c3 p0 p1 p2 p3 lc lx eE dq;obtain⟨c0,c1,c2,c3⟩:=(eh.later cy.out).cells au;obtain⟨p0,p1,p2,p3⟩:=Fz.later cy.out;have lc:=ar c0;have lx:=ar p0;go_wp2_with fail;refine wQ ?_
     repeat(go_big_quiet_step (first|exact rfl|fail))
     refine qE ?_;(try clear hc hf hz);(try clear HB);intro p HB hc hf hz;clear hc hf hz;generalize p.v=wq2 at HB ⊢;have cS:=aB (af cy.out HB);have aT:=aI aO HB;clear HB c0 c1 c2 c3 p0 p1 p2 p3 lc lx cy aO;obtain⟨c0,c1,c2,c3⟩:=(eh.later cS.out).cells au;obtain⟨p0,p1,p2,p3⟩:=Fz.later cS.out;have lc:=ar c0;have lx:=ar p0;have fD:=aB aT;clear aT;go_wp2;go_roundw
     case rel=>exact⟨k+1,O,true,oM,gN,rfl,by have h:=gz.out;rw[jn.out,HD.out] at h;exact h,by have h:=fD.out;(try simp only[aaQ,abl,bZ]);exact h,cS.out⟩
     case measure=>simp[intOf];omega
    ·have gz:=aB (ep G.out au HR.out);have jn:Hid (ch l x g k au O true=O++[l[k]]):=(by show ch l x g k au O true=O++[l[k]];unfold ch;rw[aaP sM,aaV ⟨bV,ft⟩];simp)
     have hd:decide (x.pl<=l[k].pl)=true:=aa1 (agb (HR.out.yes rfl k au (aaO _)));have dA:(l[k].pl==x.pl)=false:=(by rw[aaU];exact bV)
     have nC:(l[k].pl != x.pl)=true:=(by simp[bne,dA])
     have nD:(!(l[k].pl==x.pl))=true:=(by simp[dA])
     have nE:decide (l[k].pl=x.pl)=false:=(by simpa using dA)
     have dC:((k:Int)==g)=false:=(by rw[aaU];exact ft)
     have pO:((k:Int) != g)=true:=(by simp[bne,dC])
     have pP:(!((k:Int)==g))=true:=(by simp[dC])
     have pQ:decide ((k:Int)=g)=false:=(by simpa using dC)
     have HD:=aB hd;clear bV ft HR hd;go_wp2_with fail;refine wQ ?_
     repeat(go_big_quiet_step (first|exact rfl|fail))
     refine qE ?_;(try clear hc hf hz);(try clear HB);intro p HB hc hf hz;clear hc hf hz;generalize p.v=wq1 at HB ⊢;have cy:=aB (af eE.out HB);have aO:=aI dq HB;clear HB c0 c1 c2 c3 p0 p1 p2 p3 lc lx eE dq;obtain⟨c0,c1,c2,c3⟩:=(eh.later cy.out).cells au;obtain⟨p0,p1,p2,p3⟩:=Fz.later cy.out;have lc:=ar c0;have lx:=ar p0;go_wp2_with fail;refine wQ ?_
     repeat(go_big_quiet_step (first|exact rfl|fail))
     refine qE ?_;(try clear hc hf hz);(try clear HB);intro p HB hc hf hz;clear hc hf hz;generalize p.v=wq2 at HB ⊢;have cS:=aB (af cy.out HB);have aT:=aI aO HB;clear HB c0 c1 c2 c3 p0 p1 p2 p3 lc lx cy aO;obtain⟨c0,c1,c2,c3⟩:=(eh.later cS.out).cells au;obtain⟨p0,p1,p2,p3⟩:=Fz.later cS.out;have lc:=ar c0;have lx:=ar p0;have mz:=aB aT;have ud:=cS.out.size;go_wp2_with(at_builtin;refine aP rfl _ _ 91 rfl wz.heap.size 137 ib _ 4 40 underlying91 pr de cC cF rfl dM _ O.length (aU O) rfl (aI mz.out (aA _ _)) (some ⟨wq2.heap.size,0,none⟩) 1 1 (aU [l[k]]) rfl (iY l[k] wq2) (by unfold maxLen;have:=eU.out;omega) (by have:=eU.out;omega) (by simp only[aaW];omega) ?_;intro v3 CD bw cA);have eW:=aB (cS.out.trans (((aA wq2 _).mono oM).trans cA));clear cA c0 c1 c2 c3 p0 p1 p2 p3 lc lx mz cS aT ud;obtain⟨c0,c1,c2,c3⟩:=(eh.later eW.out).cells au;obtain⟨p0,p1,p2,p3⟩:=Fz.later eW.out;have lc:=ar c0;have lx:=ar p0;have fD:=aB bw;clear bw;go_wp2;go_roundw
     case rel=>exact⟨k+1,O++[l[k]],true,oM,gN,rfl,by have h:=gz.out;rw[jn.out,HD.out] at h;exact h,by have h:=fD.out;(try simp only[aaQ,abl,bZ]);exact h,eW.out⟩
     case measure=>simp[intOf];omega
  ·obtain rfl:k=l.length:=oM;obtain⟨p0,p1,p2,p3⟩:=Fz.later eE.out;have lx:=ar p0
   cases b
   ·have HF:=aB (Ew HR.out);have RP:=aB dq;have acX:=eE.out.size;have fo:=qM.size;clear HR dq;go_wp2_with(at_builtin;refine aP rfl _ _ 91 rfl wz.heap.size 137 ib _ 4 40 underlying91 pr de cC cF rfl dM _ O.length (aU O) rfl (aI RP.out (aA _ _)) (some ⟨wr.heap.size,0,none⟩) 1 1 (aU [x]) rfl (iY x wr) (by unfold maxLen;have:=eU.out;omega) (by have:=eU.out;omega) (by simp only[aaW];omega) ?_;intro v1 w9 sQ cA);have Ia:bL wz w9:=eE.out.trans (((aA wr _).mono oM).trans cA);rw[<-bZ] at sQ;obtain⟨a9,c9,rfl,oH⟩:=fQ (l:=O++[x]) sQ sM (by have:=eU.out;simp;omega);have R9:=aB oH.here;have N9:=aB (oH.newAt.mono fo);have wD:=aB (qM.trans (Ia.mono fo));clear sQ cA Ia oH p0 p1 p2 p3;go_wp2
    go_ret2
    exact⟨O++[x],a9,c9,rfl,R9.out,by rw[xL.out];exact HF.out,wD.out,N9.out⟩
   ·have HF:=aB (Cm HR.out);have fo:=qM.size;obtain⟨a9,c9,rfl,oH⟩:=fQ (l:=O) dq rfl (by have:=eU.out;omega);have R9:=aB oH.here;have N9:=aB (oH.newAt.mono fo);have wD:=aB (qM.trans (eE.out.mono fo));clear HR dq oH p0 p1 p2 p3;go_wp2
    go_ret2
    exact⟨O,a9,c9,rfl,R9.out,by rw[xL.out];exact HF.out,wD.out,N9.out⟩
theorem UP(l:List Bf)(a:Option Addr)(c:Nat)(x:Bf)(hs:Array Value)(hz:hs.size=32)(B:Nat->Bool)(w:World)(hl:bA w a l)(G:kZ l)(hB:∀i,i<32->hs[i]?=some (.bool (B i)))(h8:l.length=8)(hi:ej (eP x.pl) l=-1)(hr:dz (eu false (lu B)) l l.length=-1) :
 Calls prog 108 #[.slice a l.length c,x.val,.agg hs] w (rB (.tuple #[.slice none 0 0,i6 7]) w):=by
 have bo:=hl.2;have HI:=aB hi;have Kj:=aB hr;have HH:=aB hB;have H8:=aB h8;have A8:(8:Int)<=(l.length:Int):=oM;have iV:Hid ((prog.info? 162).map (·.size)=some hs.toList.length):=(by rw[Hid,ab6,hz];kernel_rfl)
 clear hi hr hB h8 hz;go_enter func108,ntmps108;go_wp2_with fail;refine cM (vX l a c x.pl _ (hl.later (jo _ _ _)) HI.out) ?_;intro w1 aw;have aN:bL w w1:=bQ;have Bt:(w1.alloc (.cells #[i6 0,.string ⟨#[]⟩,.bool false,i6 0] 137)).rangeAt (w.heap.size+1) 0 hs.toList:=by
  have r0:=AK (w.alloc (.cells #[i6 x.pl,.string x.data,.bool x.bM,i6 x.used] 137)) hs 162;simp only[aaW] at r0;intro i v hv;exact ai (aA w1 _) (ai aw (r0 i v hv))
 have VD:=aB Bt;have mG:=hl.later aN;clear aw Bt;go_wp2_with(refine wpList_load_mid rfl 162 (.tmp 5) rfl (w.heap.size+1) 0 rfl hs.toList _ VD.out underlying162 rfl iV.out ?_);refine cM (Gb l a c false hs B _ (mG.later (aA _ _)) G HH.out _ Kj.out) ?_;intro w2 aC;have bT:bL w w2:=bQ;clear aC;go_wp2
 go_ret2
 exact⟨rfl,bT⟩
theorem Q5(l:List Bf)(a:Option Addr)(c:Nat)(x:Bf)(hs:Array Value)(w:World)(hl:bA w a l)(G:kZ l)(j:Nat)(hj:j<l.length)(hi:ej (eP x.pl) l=j) :
 Calls prog 108 #[.slice a l.length c,x.val,.agg hs] w fun e w'=>∃M a' c',e=.returned (.tuple #[.slice a' M.length c',i6 0])/\bA w' a' M/\D7 l x (-1) M/\bL w w'/\n8 w.heap.size a' c' M.length:=by
 have bo:=hl.2;go_enter func108,ntmps108;go_wp2_with fail;refine cM (xA l a c x.pl _ (hl.later (jo _ _ _)) j hj hi) ?_;intro w1 aw;have aN:bL w w1:=bQ;have F1:ja w1 w.heap.size x:=ja.later (ja.later ⟨sM,sM,sM,sM⟩ (aA _ _)) aw;have mG:=hl.later aN;obtain⟨p0,p1,p2,p3⟩:=id F1;clear aw hi;go_wp2_with fail;have b2:=aA w1 (.cells #[i6 l[j].pl,.string l[j].data,.bool l[j].bM,i6 l[j].used] 137);have eh:=mG.later b2;have Fz:=F1.later b2;have qM:=af aN b2;have G:=aB G;clear b2 p0 p1 p2 p3 mG F1 aN;generalize BV:(-1:Int)=g;have xL:=aB BV;clear BV;generalize SZ:w1.alloc (.cells #[i6 l[j].pl,.string l[j].data,.bool l[j].bM,i6 l[j].used] 137)=wz at eh Fz qM ⊢;clear SZ;obtain⟨ib,pr,de,cC,cF⟩:=eS yq
 go_loopw[11,12,13] (fun out laid i wr=>∃(k:Nat) (O:List Bf) (b:Bool),k<=l.length/\i=i6 k/\laid=.bool b/\xR l x g k O b/\wr.ownsRow wz.heap.size 137 4 out O.length (aU O)/\bL wz wr) (fun _ _ i _=>l.length-(intOf i).toNat)
 case atStart=>exact⟨0,[],false,oM,rfl,rfl,Hd _ _ _,abg _ _ _ _,aX _ _⟩
 case round =>
  rename_i u11
  obtain⟨k,O,b,hk,rfl,rfl,hR,dq,jN⟩:=hrel;have HR:=aB hR;have eE:=aB jN;have SU:O.length<=2*l.length:=(by have:=hR.len;omega)
  have eU:Hid (O.length<=16):=(by have:=G.out.len;show O.length<=16;omega)
  clear hR jN SU
  by_cases au:k<l.length
  ·have h0:l ≠ []:=by rintro rfl;exact absurd au (aa0 _)
   obtain⟨b0,o0,rfl⟩:=eh.form.resolve_left h0;obtain⟨c0,c1,c2,c3⟩:=(eh.later eE.out).cells au;obtain⟨p0,p1,p2,p3⟩:=Fz.later eE.out;have lc:=ar c0;have lx:=ar p0;clear h0;have WH:=au
   cases b
   ·by_cases iu:x.pl<=l[k].pl
    ·by_cases bV:l[k].pl=x.pl
     ·have gz:=aB (ep G.out au HR.out);have jn:Hid (ch l x g k au O false=O++[x]):=(by show ch l x g k au O false=O++[x];unfold ch;rw[aaV ⟨rfl,iu⟩,aaP (fun h=>h.1 bV)];simp)
      have hd:decide (x.pl<=l[k].pl)=true:=aa1 iu;have dA:(l[k].pl==x.pl)=true:=(by rw[bV];simp)
      have nC:(l[k].pl != x.pl)=false:=(by simp[bne,dA])
      have nD:(!(l[k].pl==x.pl))=false:=(by simp[dA])
      have nE:decide (l[k].pl=x.pl)=true:=(by simpa using dA)
      have HD:=aB hd;clear HR bV iu;go_wp2_with fail;refine wQ ?_
      repeat(go_big_quiet_step (first|exact rfl|fail))
      refine qE ?_;(try clear hc hf hz);(try clear HB);intro p HB hc hf hz;clear hc hf hz;generalize p.v=wq1 at HB ⊢;have cy:=aB (af eE.out HB);have aO:=aI dq HB;clear HB c0 c1 c2 c3 p0 p1 p2 p3 lc lx eE dq;obtain⟨c0,c1,c2,c3⟩:=(eh.later cy.out).cells au;obtain⟨p0,p1,p2,p3⟩:=Fz.later cy.out;have lc:=ar c0;have lx:=ar p0;have ez:=aB aO;have oe:=cy.out.size;go_wp2_with(at_builtin;refine aP rfl _ _ 91 rfl wz.heap.size 137 ib _ 4 40 underlying91 pr de cC cF rfl dM _ O.length (aU O) rfl (aI ez.out (aA _ _)) (some ⟨wq1.heap.size,0,none⟩) 1 1 (aU [x]) rfl (iY x wq1) (by unfold maxLen;have:=eU.out;omega) (by have:=eU.out;omega) (by simp only[aaW];omega) ?_;intro v2 CC aT cA);have cS:=aB (cy.out.trans (((aA wq1 _).mono oM).trans cA));clear cA c0 c1 c2 c3 p0 p1 p2 p3 lc lx ez cy aO oe;obtain⟨c0,c1,c2,c3⟩:=(eh.later cS.out).cells au;obtain⟨p0,p1,p2,p3⟩:=Fz.later cS.out;have lc:=ar c0;have lx:=ar p0;go_wp2_with fail;refine wQ ?_
      repeat(go_big_quiet_step (first|exact rfl|fail))
      refine qE ?_;(try clear hc hf hz);(try clear HB);intro p HB hc hf hz;clear hc hf hz;generalize p.v=wq2 at HB ⊢;have eW:=aB (af cS.out HB);have bw:=aI aT HB;clear HB c0 c1 c2 c3 p0 p1 p2 p3 lc lx cS aT;obtain⟨c0,c1,c2,c3⟩:=(eh.later eW.out).cells au;obtain⟨p0,p1,p2,p3⟩:=Fz.later eW.out;have lc:=ar c0;have lx:=ar p0;have fD:=aB bw;clear bw;go_wp2;go_roundw
      case rel=>exact⟨k+1,O++[x],true,oM,gN,rfl,by have h:=gz.out;rw[jn.out,HD.out] at h;exact h,by have h:=fD.out;(try simp only[aaQ,abl,bZ]);exact h,eW.out⟩
      case measure=>simp[intOf];omega
     ·by_cases ft:(k:Int)=g
      ·have gz:=aB (ep G.out au HR.out);have jn:Hid (ch l x g k au O false=O++[x]):=(by show ch l x g k au O false=O++[x];unfold ch;rw[aaV ⟨rfl,iu⟩,aaP (fun h=>h.2 ft)];simp)
       have hd:decide (x.pl<=l[k].pl)=true:=aa1 iu;have dA:(l[k].pl==x.pl)=false:=(by rw[aaU];exact bV)
       have nC:(l[k].pl != x.pl)=true:=(by simp[bne,dA])
       have nD:(!(l[k].pl==x.pl))=true:=(by simp[dA])
       have nE:decide (l[k].pl=x.pl)=false:=(by simpa using dA)
       have dC:((k:Int)==g)=true:=(by rw[ft];simp)
       have pO:((k:Int) != g)=false:=(by simp[bne,dC])
       have pP:(!((k:Int)==g))=false:=(by simp[dC])
       have pQ:decide ((k:Int)=g)=true:=(by simpa using dC)
       have HD:=aB hd;clear bV ft HR iu;go_wp2_with fail;refine wQ ?_
       repeat(go_big_quiet_step (first|exact rfl|fail))
       refine qE ?_;(try clear hc hf hz);(try clear HB);intro p HB hc hf hz;clear hc hf hz;generalize p.v=wq1 at HB ⊢;have cy:=aB (af eE.out HB);have aO:=aI dq HB;clear HB c0 c1 c2 c3 p0 p1 p2 p3 lc lx eE dq;obtain⟨c0,c1,c2,c3⟩:=(eh.later cy.out).cells au;obtain⟨p0,p1,p2,p3⟩:=Fz.later cy.out;have lc:=ar c0;have lx:=ar p0;have ez:=aB aO;have oe:=cy.out.size;go_wp2_with(at_builtin;refine aP rfl _ _ 91 rfl wz.heap.size 137 ib _ 4 40 underlying91 pr de cC cF rfl dM _ O.length (aU O) rfl (aI ez.out (aA _ _)) (some ⟨wq1.heap.size,0,none⟩) 1 1 (aU [x]) rfl (iY x wq1) (by unfold maxLen;have:=eU.out;omega) (by have:=eU.out;omega) (by simp only[aaW];omega) ?_;intro v2 CC aT cA);have cS:=aB (cy.out.trans (((aA wq1 _).mono oM).trans cA));clear cA c0 c1 c2 c3 p0 p1 p2 p3 lc lx ez cy aO oe;obtain⟨c0,c1,c2,c3⟩:=(eh.later cS.out).cells au;obtain⟨p0,p1,p2,p3⟩:=Fz.later cS.out;have lc:=ar c0;have lx:=ar p0;go_wp2_with fail;refine wQ ?_
       repeat(go_big_quiet_step (first|exact rfl|fail))
       refine qE ?_;(try clear hc hf hz);(try clear HB);intro p HB hc hf hz;clear hc hf hz;generalize p.v=wq2 at HB ⊢;have eW:=aB (af cS.out HB);have bw:=aI aT HB;clear HB c0 c1 c2 c3 p0 p1 p2 p3 lc lx cS aT;obtain⟨c0,c1,c2,c3⟩:=(eh.later eW.out).cells au;obtain⟨p0,p1,p2,p3⟩:=Fz.later eW.out;have lc:=ar c0;have lx:=ar p0;have fD:=aB bw;clear bw;go_wp2;go_roundw
       case rel=>exact⟨k+1,O++[x],true,oM,gN,rfl,by have h:=gz.out;rw[jn.out,HD.out] at h;exact h,by have h:=fD.out;(try simp only[aaQ,abl,bZ]);exact h,eW.out⟩
       case measure=>simp[intOf];omega
      ·have gz:=aB (ep G.out au HR.out);have jn:Hid (ch l x g k au O false=O++[x]++[l[k]]):=(by show ch l x g k au O false=O++[x]++[l[k]];unfold ch;rw[aaV ⟨rfl,iu⟩,aaV ⟨bV,ft⟩])
       have hd:decide (x.pl<=l[k].pl)=true:=aa1 iu;have dA:(l[k].pl==x.pl)=false:=(by rw[aaU];exact bV)
       have nC:(l[k].pl != x.pl)=true:=(by simp[bne,dA])
       have nD:(!(l[k].pl==x.pl))=true:=(by simp[dA])
       have nE:decide (l[k].pl=x.pl)=false:=(by simpa using dA)
       have dC:((k:Int)==g)=false:=(by rw[aaU];exact ft)
       have pO:((k:Int) != g)=true:=(by simp[bne,dC])
       have pP:(!((k:Int)==g))=true:=(by simp[dC])
       have pQ:decide ((k:Int)=g)=false:=(by simpa using dC)
       have HD:=aB hd;clear bV ft HR iu;go_wp2_with fail;refine wQ ?_
       repeat(go_big_quiet_step (first|exact rfl|fail))
       refine qE ?_;(try clear hc hf hz);(try clear HB);intro p HB hc hf hz;clear hc hf hz;generalize p.v=wq1 at HB ⊢;have cy:=aB (af eE.out HB);have aO:=aI dq HB;clear HB c0 c1 c2 c3 p0 p1 p2 p3 lc lx eE dq;obtain⟨c0,c1,c2,c3⟩:=(eh.later cy.out).cells au;obtain⟨p0,p1,p2,p3⟩:=Fz.later cy.out;have lc:=ar c0;have lx:=ar p0;have ez:=aB aO;have oe:=cy.out.size;go_wp2_with(at_builtin;refine aP rfl _ _ 91 rfl wz.heap.size 137 ib _ 4 40 underlying91 pr de cC cF rfl dM _ O.length (aU O) rfl (aI ez.out (aA _ _)) (some ⟨wq1.heap.size,0,none⟩) 1 1 (aU [x]) rfl (iY x wq1) (by unfold maxLen;have:=eU.out;omega) (by have:=eU.out;omega) (by simp only[aaW];omega) ?_;intro v2 CC aT cA);have cS:=aB (cy.out.trans (((aA wq1 _).mono oM).trans cA));clear cA c0 c1 c2 c3 p0 p1 p2 p3 lc lx ez cy aO oe;obtain⟨c0,c1,c2,c3⟩:=(eh.later cS.out).cells au;obtain⟨p0,p1,p2,p3⟩:=Fz.later cS.out;have lc:=ar c0;have lx:=ar p0;go_wp2_with fail;refine wQ ?_
       repeat(go_big_quiet_step (first|exact rfl|fail))
       refine qE ?_;(try clear hc hf hz);(try clear HB);intro p HB hc hf hz;clear hc hf hz;generalize p.v=wq2 at HB ⊢;have eW:=aB (af cS.out HB);have bw:=aI aT HB;clear HB c0 c1 c2 c3 p0 p1 p2 p3 lc lx cS aT;obtain⟨c0,c1,c2,c3⟩:=(eh.later eW.out).cells au;obtain⟨p0,p1,p2,p3⟩:=Fz.later eW.out;have lc:=ar c0;have lx:=ar p0;have Hy:=aB bw;have Lp:=eW.out.size;go_wp2_with(at_builtin;refine aP rfl _ _ 91 rfl wz.heap.size 137 ib _ 4 40 underlying91 pr de cC cF rfl dM _ (O.length+1) (aU O++aU [x]) rfl (aI Hy.out (aA _ _)) (some ⟨wq2.heap.size,0,none⟩) 1 1 (aU [l[k]]) rfl (iY l[k] wq2) (by unfold maxLen;have:=eU.out;omega) (by have:=eU.out;omega) (by simp only[aaW];omega) ?_;intro v4 CD pv cA);have xO:=aB (eW.out.trans (((aA wq2 _).mono oM).trans cA));clear cA c0 c1 c2 c3 p0 p1 p2 p3 lc lx Hy eW bw Lp;obtain⟨c0,c1,c2,c3⟩:=(eh.later xO.out).cells au;obtain⟨p0,p1,p2,p3⟩:=Fz.later xO.out;have lc:=ar c0;have lx:=ar p0;have fD:=aB pv;clear pv;go_wp2;go_roundw
       case rel=>exact⟨k+1,O++[x]++[l[k]],true,oM,gN,rfl,by have h:=gz.out;rw[jn.out,HD.out] at h;exact h,by have h:=fD.out;(try simp only[aaQ,abl,bZ]);exact h,xO.out⟩
       case measure=>simp[intOf];omega
    ·have bV:¬l[k].pl=x.pl:=oM
     by_cases ft:(k:Int)=g
     ·have gz:=aB (ep G.out au HR.out);have jn:Hid (ch l x g k au O false=O):=(by show ch l x g k au O false=O;unfold ch;rw[aaP (fun h=>iu h.2),aaP (fun h=>h.2 ft)];simp)
      have hd:decide (x.pl<=l[k].pl)=false:=aa9 iu;have dA:(l[k].pl==x.pl)=false:=(by rw[aaU];exact bV)
      have nC:(l[k].pl != x.pl)=true:=(by simp[bne,dA])
      have nD:(!(l[k].pl==x.pl))=true:=(by simp[dA])
      have nE:decide (l[k].pl=x.pl)=false:=(by simpa using dA)
      have dC:((k:Int)==g)=true:=(by rw[ft];simp)
      have pO:((k:Int) != g)=false:=(by simp[bne,dC])
      have pP:(!((k:Int)==g))=false:=(by simp[dC])
      have pQ:decide ((k:Int)=g)=true:=(by simpa using dC)
      have HD:=aB hd;clear bV ft HR iu;go_wp2_with fail;refine wQ ?_
      repeat(go_big_quiet_step (first|exact rfl|fail))
      refine qE ?_;(try clear hc hf hz);(try clear HB);intro p HB hc hf hz;clear hc hf hz;generalize p.v=wq1 at HB ⊢;have cy:=aB (af eE.out HB);have aO:=aI dq HB;clear HB c0 c1 c2 c3 p0 p1 p2 p3 lc lx eE dq;obtain⟨c0,c1,c2,c3⟩:=(eh.later cy.out).cells au;obtain⟨p0,p1,p2,p3⟩:=Fz.later cy.out;have lc:=ar c0;have lx:=ar p0;go_wp2_with fail;refine wQ ?_
      repeat(go_big_quiet_step (first|exact rfl|fail))
      refine qE ?_;(try clear hc hf hz);(try clear HB);intro p HB hc hf hz;clear hc hf hz;generalize p.v=wq2 at HB ⊢;have cS:=aB (af cy.out HB);have aT:=aI aO HB;clear HB c0 c1 c2 c3 p0 p1 p2 p3 lc lx cy aO;obtain⟨c0,c1,c2,c3⟩:=(eh.later cS.out).cells au;obtain⟨p0,p1,p2,p3⟩:=Fz.later cS.out;have lc:=ar c0;have lx:=ar p0;have fD:=aB aT;clear aT;go_wp2;go_roundw
      case rel=>exact⟨k+1,O,false,oM,gN,rfl,by have h:=gz.out;rw[jn.out,HD.out] at h;exact h,by have h:=fD.out;(try simp only[aaQ,abl,bZ]);exact h,cS.out⟩
      case measure=>simp[intOf];omega
     ·have gz:=aB (ep G.out au HR.out);have jn:Hid (ch l x g k au O false=O++[l[k]]):=(by show ch l x g k au O false=O++[l[k]];unfold ch;rw[aaP (fun h=>iu h.2),aaV ⟨bV,ft⟩];simp)
      have hd:decide (x.pl<=l[k].pl)=false:=aa9 iu;have dA:(l[k].pl==x.pl)=false:=(by rw[aaU];exact bV)
      have nC:(l[k].pl != x.pl)=true:=(by simp[bne,dA])
      have nD:(!(l[k].pl==x.pl))=true:=(by simp[dA])
      have nE:decide (l[k].pl=x.pl)=false:=(by simpa using dA)
      have dC:((k:Int)==g)=false:=(by rw[aaU];exact ft)
      have pO:((k:Int) != g)=true:=(by simp[bne,dC])
      have pP:(!((k:Int)==g))=true:=(by simp[dC])
      have pQ:decide ((k:Int)=g)=false:=(by simpa using dC)
      have HD:=aB hd;clear bV ft HR iu;go_wp2_with fail;refine wQ ?_
      repeat(go_big_quiet_step (first|exact rfl|fail))
      refine qE ?_;(try clear hc hf hz);(try clear HB);intro p HB hc hf hz;clear hc hf hz;generalize p.v=wq1 at HB ⊢;have cy:=aB (af eE.out HB);have aO:=aI dq HB;clear HB c0 c1 c2 c3 p0 p1 p2 p3 lc lx eE dq;obtain⟨c0,c1,c2,c3⟩:=(eh.later cy.out).cells au;obtain⟨p0,p1,p2,p3⟩:=Fz.later cy.out;have lc:=ar c0;have lx:=ar p0;go_wp2_with fail;refine wQ ?_
      repeat(go_big_quiet_step (first|exact rfl|fail))
      refine qE ?_;(try clear hc hf hz);(try clear HB);intro p HB hc hf hz;clear hc hf hz;generalize p.v=wq2 at HB ⊢;have cS:=aB (af cy.out HB);have aT:=aI aO HB;clear HB c0 c1 c2 c3 p0 p1 p2 p3 lc lx cy aO;obtain⟨c0,c1,c2,c3⟩:=(eh.later cS.out).cells au;obtain⟨p0,p1,p2,p3⟩:=Fz.later cS.out;have lc:=ar c0;have lx:=ar p0;have mz:=aB aT;have ud:=cS.out.size;go_wp2_with(at_builtin;refine aP rfl _ _ 91 rfl wz.heap.size 137 ib _ 4 40 underlying91 pr de cC cF rfl dM _ O.length (aU O) rfl (aI mz.out (aA _ _)) (some ⟨wq2.heap.size,0,none⟩) 1 1 (aU [l[k]]) rfl (iY l[k] wq2) (by unfold maxLen;have:=eU.out;omega) (by have:=eU.out;omega) (by simp only[aaW];omega) ?_;intro v3 CD bw cA);have eW:=aB (cS.out.trans (((aA wq2 _).mono oM).trans cA));clear cA c0 c1 c2 c3 p0 p1 p2 p3 lc lx mz cS aT ud;obtain⟨c0,c1,c2,c3⟩:=(eh.later eW.out).cells au;obtain⟨p0,p1,p2,p3⟩:=Fz.later eW.out;have lc:=ar c0;have lx:=ar p0;have fD:=aB bw;clear bw;go_wp2;go_roundw
      case rel=>exact⟨k+1,O++[l[k]],false,oM,gN,rfl,by have h:=gz.out;rw[jn.out,HD.out] at h;exact h,by have h:=fD.out;(try simp only[aaQ,abl,bZ]);exact h,eW.out⟩
      case measure=>simp[intOf];omega
   ·have bV:¬l[k].pl=x.pl:=(by have:=HR.out.yes rfl k au (aaO _);omega)
    by_cases ft:(k:Int)=g
    ·have gz:=aB (ep G.out au HR.out);have jn:Hid (ch l x g k au O true=O):=(by show ch l x g k au O true=O;unfold ch;rw[aaP sM,aaP (fun h=>h.2 ft)];simp)
     have hd:decide (x.pl<=l[k].pl)=true:=aa1 (agb (HR.out.yes rfl k au (aaO _)));have dA:(l[k].pl==x.pl)=false:=(by rw[aaU];exact bV)
     have nC:(l[k].pl != x.pl)=true:=(by simp[bne,dA])
     have nD:(!(l[k].pl==x.pl))=true:=(by simp[dA])
     have nE:decide (l[k].pl=x.pl)=false:=(by simpa using dA)
     have dC:((k:Int)==g)=true:=(by rw[ft];simp)
     have pO:((k:Int) != g)=false:=(by simp[bne,dC])
     have pP:(!((k:Int)==g))=false:=(by simp[dC])
     have pQ:decide ((k:Int)=g)=true:=(by simpa using dC)
     have HD:=aB hd;clear bV ft HR hd;go_wp2_with fail;refine wQ ?_
     repeat(go_big_quiet_step (first|exact rfl|fail))
     refine qE ?_;(try clear hc hf hz);(try clear HB);intro p HB hc hf hz;clear hc hf hz;generalize p.v=wq1 at HB ⊢;have cy:=aB (af eE.out HB);have aO:=aI dq HB;clear HB c0 c1 c2 c3 p0 p1 p2 p3 lc lx eE dq;obtain⟨c0,c1,c2,c3⟩:=(eh.later cy.out).cells au;obtain⟨p0,p1,p2,p3⟩:=Fz.later cy.out;have lc:=ar c0;have lx:=ar p0;go_wp2_with fail;refine wQ ?_
     repeat(go_big_quiet_step (first|exact rfl|fail))
     refine qE ?_;(try clear hc hf hz);(try clear HB);intro p HB hc hf hz;clear hc hf hz;generalize p.v=wq2 at HB ⊢;have cS:=aB (af cy.out HB);have aT:=aI aO HB;clear HB c0 c1 c2 c3 p0 p1 p2 p3 lc lx cy aO;obtain⟨c0,c1,c2,c3⟩:=(eh.later cS.out).cells au;obtain⟨p0,p1,p2,p3⟩:=Fz.later cS.out;have lc:=ar c0;have lx:=ar p0;have fD:=aB aT;clear aT;go_wp2;go_roundw
     case rel=>exact⟨k+1,O,true,oM,gN,rfl,by have h:=gz.out;rw[jn.out,HD.out] at h;exact h,by have h:=fD.out;(try simp only[aaQ,abl,bZ]);exact h,cS.out⟩
     case measure=>simp[intOf];omega
    ·have gz:=aB (ep G.out au HR.out);have jn:Hid (ch l x g k au O true=O++[l[k]]):=(by show ch l x g k au O true=O++[l[k]];unfold ch;rw[aaP sM,aaV ⟨bV,ft⟩];simp)
     have hd:decide (x.pl<=l[k].pl)=true:=aa1 (agb (HR.out.yes rfl k au (aaO _)));have dA:(l[k].pl==x.pl)=false:=(by rw[aaU];exact bV)
     have nC:(l[k].pl != x.pl)=true:=(by simp[bne,dA])
     have nD:(!(l[k].pl==x.pl))=true:=(by simp[dA])
     have nE:decide (l[k].pl=x.pl)=false:=(by simpa using dA)
     have dC:((k:Int)==g)=false:=(by rw[aaU];exact ft)
     have pO:((k:Int) != g)=true:=(by simp[bne,dC])
     have pP:(!((k:Int)==g))=true:=(by simp[dC])
     have pQ:decide ((k:Int)=g)=false:=(by simpa using dC)
     have HD:=aB hd;clear bV ft HR hd;go_wp2_with fail;refine wQ ?_
     repeat(go_big_quiet_step (first|exact rfl|fail))
     refine qE ?_;(try clear hc hf hz);(try clear HB);intro p HB hc hf hz;clear hc hf hz;generalize p.v=wq1 at HB ⊢;have cy:=aB (af eE.out HB);have aO:=aI dq HB;clear HB c0 c1 c2 c3 p0 p1 p2 p3 lc lx eE dq;obtain⟨c0,c1,c2,c3⟩:=(eh.later cy.out).cells au;obtain⟨p0,p1,p2,p3⟩:=Fz.later cy.out;have lc:=ar c0;have lx:=ar p0;go_wp2_with fail;refine wQ ?_
     repeat(go_big_quiet_step (first|exact rfl|fail))
     refine qE ?_;(try clear hc hf hz);(try clear HB);intro p HB hc hf hz;clear hc hf hz;generalize p.v=wq2 at HB ⊢;have cS:=aB (af cy.out HB);have aT:=aI aO HB;clear HB c0 c1 c2 c3 p0 p1 p2 p3 lc lx cy aO;obtain⟨c0,c1,c2,c3⟩:=(eh.later cS.out).cells au;obtain⟨p0,p1,p2,p3⟩:=Fz.later cS.out;have lc:=ar c0;have lx:=ar p0;have mz:=aB aT;have ud:=cS.out.size;go_wp2_with(at_builtin;refine aP rfl _ _ 91 rfl wz.heap.size 137 ib _ 4 40 underlying91 pr de cC cF rfl dM _ O.length (aU O) rfl (aI mz.out (aA _ _)) (some ⟨wq2.heap.size,0,none⟩) 1 1 (aU [l[k]]) rfl (iY l[k] wq2) (by unfold maxLen;have:=eU.out;omega) (by have:=eU.out;omega) (by simp only[aaW];omega) ?_;intro v3 CD bw cA);have eW:=aB (cS.out.trans (((aA wq2 _).mono oM).trans cA));clear cA c0 c1 c2 c3 p0 p1 p2 p3 lc lx mz cS aT ud;obtain⟨c0,c1,c2,c3⟩:=(eh.later eW.out).cells au;obtain⟨p0,p1,p2,p3⟩:=Fz.later eW.out;have lc:=ar c0;have lx:=ar p0;have fD:=aB bw;clear bw;go_wp2;go_roundw
     case rel=>exact⟨k+1,O++[l[k]],true,oM,gN,rfl,by have h:=gz.out;rw[jn.out,HD.out] at h;exact h,by have h:=fD.out;(try simp only[aaQ,abl,bZ]);exact h,eW.out⟩
     case measure=>simp[intOf];omega
  ·obtain rfl:k=l.length:=oM;obtain⟨p0,p1,p2,p3⟩:=Fz.later eE.out;have lx:=ar p0
   cases b
   ·have HF:=aB (Ew HR.out);have RP:=aB dq;have acX:=eE.out.size;have fo:=qM.size;clear HR dq;go_wp2_with(at_builtin;refine aP rfl _ _ 91 rfl wz.heap.size 137 ib _ 4 40 underlying91 pr de cC cF rfl dM _ O.length (aU O) rfl (aI RP.out (aA _ _)) (some ⟨wr.heap.size,0,none⟩) 1 1 (aU [x]) rfl (iY x wr) (by unfold maxLen;have:=eU.out;omega) (by have:=eU.out;omega) (by simp only[aaW];omega) ?_;intro v1 w9 sQ cA);have Ia:bL wz w9:=eE.out.trans (((aA wr _).mono oM).trans cA);rw[<-bZ] at sQ;obtain⟨a9,c9,rfl,oH⟩:=fQ (l:=O++[x]) sQ sM (by have:=eU.out;simp;omega);have R9:=aB oH.here;have N9:=aB (oH.newAt.mono fo);have wD:=aB (qM.trans (Ia.mono fo));clear sQ cA Ia oH p0 p1 p2 p3;go_wp2
    go_ret2
    exact⟨O++[x],a9,c9,rfl,R9.out,by rw[xL.out];exact HF.out,wD.out,N9.out⟩
   ·have HF:=aB (Cm HR.out);have fo:=qM.size;obtain⟨a9,c9,rfl,oH⟩:=fQ (l:=O) dq rfl (by have:=eU.out;omega);have R9:=aB oH.here;have N9:=aB (oH.newAt.mono fo);have wD:=aB (qM.trans (eE.out.mono fo));clear HR dq oH p0 p1 p2 p3;go_wp2
    go_ret2
    exact⟨O,a9,c9,rfl,R9.out,by rw[xL.out];exact HF.out,wD.out,N9.out⟩
theorem Q6(l:List Bf)(a:Option Addr)(c:Nat)(x:Bf)(hs:Array Value)(w:World)(hl:bA w a l)(G:kZ l)(h8:l.length<8)(hi:ej (eP x.pl) l=-1) :
 Calls prog 108 #[.slice a l.length c,x.val,.agg hs] w fun e w'=>∃M a' c',e=.returned (.tuple #[.slice a' M.length c',i6 0])/\bA w' a' M/\D7 l x (-1) M/\bL w w'/\n8 w.heap.size a' c' M.length:=by
 have bo:=hl.2;have HI:=aB hi;clear hi;have A8:¬(8:Int)<=(l.length:Int):=oM;go_enter func108,ntmps108;go_wp2_with fail;refine cM (vX l a c x.pl _ (hl.later (jo _ _ _)) HI.out) ?_;intro w1 aw;have aN:bL w w1:=bQ;have F1:ja w1 w.heap.size x:=ja.later (ja.later ⟨sM,sM,sM,sM⟩ (aA _ _)) aw;have mG:=hl.later aN;obtain⟨p0,p1,p2,p3⟩:=id F1;clear aw;go_wp2_with fail;have b2:=aA w1 (.cells #[i6 0,.string ⟨#[]⟩,.bool false,i6 0] 137);have eh:=mG.later b2;have Fz:=F1.later b2;have qM:=af aN b2;have G:=aB G;clear b2 p0 p1 p2 p3 mG F1 aN;generalize BV:(-1:Int)=g;have xL:=aB BV;clear BV;generalize SZ:w1.alloc (.cells #[i6 0,.string ⟨#[]⟩,.bool false,i6 0] 137)=wz at eh Fz qM ⊢;clear SZ;obtain⟨ib,pr,de,cC,cF⟩:=eS yq
 go_loopw[11,12,13] (fun out laid i wr=>∃(k:Nat) (O:List Bf) (b:Bool),k<=l.length/\i=i6 k/\laid=.bool b/\xR l x g k O b/\wr.ownsRow wz.heap.size 137 4 out O.length (aU O)/\bL wz wr) (fun _ _ i _=>l.length-(intOf i).toNat)
 case atStart=>exact⟨0,[],false,oM,rfl,rfl,Hd _ _ _,abg _ _ _ _,aX _ _⟩
 case round =>
  rename_i u11
  obtain⟨k,O,b,hk,rfl,rfl,hR,dq,jN⟩:=hrel;have HR:=aB hR;have eE:=aB jN;have SU:O.length<=2*l.length:=(by have:=hR.len;omega)
  have eU:Hid (O.length<=16):=(by have:=G.out.len;show O.length<=16;omega)
  clear hR jN SU
  by_cases au:k<l.length
  ·have h0:l ≠ []:=by rintro rfl;exact absurd au (aa0 _)
   obtain⟨b0,o0,rfl⟩:=eh.form.resolve_left h0;obtain⟨c0,c1,c2,c3⟩:=(eh.later eE.out).cells au;obtain⟨p0,p1,p2,p3⟩:=Fz.later eE.out;have lc:=ar c0;have lx:=ar p0;clear h0;have WH:=au
   cases b
   ·by_cases iu:x.pl<=l[k].pl
    ·by_cases bV:l[k].pl=x.pl
     ·have gz:=aB (ep G.out au HR.out);have jn:Hid (ch l x g k au O false=O++[x]):=(by show ch l x g k au O false=O++[x];unfold ch;rw[aaV ⟨rfl,iu⟩,aaP (fun h=>h.1 bV)];simp)
      have hd:decide (x.pl<=l[k].pl)=true:=aa1 iu;have dA:(l[k].pl==x.pl)=true:=(by rw[bV];simp)
      have nC:(l[k].pl != x.pl)=false:=(by simp[bne,dA])
      have nD:(!(l[k].pl==x.pl))=false:=(by simp[dA])
      have nE:decide (l[k].pl=x.pl)=true:=(by simpa using dA)
      have HD:=aB hd;clear HR bV iu;go_wp2_with fail;refine wQ ?_
      repeat(go_big_quiet_step (first|exact rfl|fail))
      refine qE ?_;(try clear hc hf hz);(try clear HB);intro p HB hc hf hz;clear hc hf hz;generalize p.v=wq1 at HB ⊢;have cy:=aB (af eE.out HB);have aO:=aI dq HB;clear HB c0 c1 c2 c3 p0 p1 p2 p3 lc lx eE dq;obtain⟨c0,c1,c2,c3⟩:=(eh.later cy.out).cells au;obtain⟨p0,p1,p2,p3⟩:=Fz.later cy.out;have lc:=ar c0;have lx:=ar p0;have ez:=aB aO;have oe:=cy.out.size;go_wp2_with(at_builtin;refine aP rfl _ _ 91 rfl wz.heap.size 137 ib _ 4 40 underlying91 pr de cC cF rfl dM _ O.length (aU O) rfl (aI ez.out (aA _ _)) (some ⟨wq1.heap.size,0,none⟩) 1 1 (aU [x]) rfl (iY x wq1) (by unfold maxLen;have:=eU.out;omega) (by have:=eU.out;omega) (by simp only[aaW];omega) ?_;intro v2 CC aT cA);have cS:=aB (cy.out.trans (((aA wq1 _).mono oM).trans cA));clear cA c0 c1 c2 c3 p0 p1 p2 p3 lc lx ez cy aO oe;obtain⟨c0,c1,c2,c3⟩:=(eh.later cS.out).cells au;obtain⟨p0,p1,p2,p3⟩:=Fz.later cS.out;have lc:=ar c0;have lx:=ar p0;go_wp2_with fail;refine wQ ?_
      repeat(go_big_quiet_step (first|exact rfl|fail))
      refine qE ?_;(try clear hc hf hz);(try clear HB);intro p HB hc hf hz;clear hc hf hz;generalize p.v=wq2 at HB ⊢;have eW:=aB (af cS.out HB);have bw:=aI aT HB;clear HB c0 c1 c2 c3 p0 p1 p2 p3 lc lx cS aT;obtain⟨c0,c1,c2,c3⟩:=(eh.later eW.out).cells au;obtain⟨p0,p1,p2,p3⟩:=Fz.later eW.out;have lc:=ar c0;have lx:=ar p0;have fD:=aB bw;clear bw;go_wp2;go_roundw
      case rel=>exact⟨k+1,O++[x],true,oM,gN,rfl,by have h:=gz.out;rw[jn.out,HD.out] at h;exact h,by have h:=fD.out;(try simp only[aaQ,abl,bZ]);exact h,eW.out⟩
      case measure=>simp[intOf];omega
     ·by_cases ft:(k:Int)=g
      ·have gz:=aB (ep G.out au HR.out);have jn:Hid (ch l x g k au O false=O++[x]):=(by show ch l x g k au O false=O++[x];unfold ch;rw[aaV ⟨rfl,iu⟩,aaP (fun h=>h.2 ft)];simp)
       have hd:decide (x.pl<=l[k].pl)=true:=aa1 iu;have dA:(l[k].pl==x.pl)=false:=(by rw[aaU];exact bV)
       have nC:(l[k].pl != x.pl)=true:=(by simp[bne,dA])
       have nD:(!(l[k].pl==x.pl))=true:=(by simp[dA])
       have nE:decide (l[k].pl=x.pl)=false:=(by simpa using dA)
       have dC:((k:Int)==g)=true:=(by rw[ft];simp)
       have pO:((k:Int) != g)=false:=(by simp[bne,dC])
       have pP:(!((k:Int)==g))=false:=(by simp[dC])
       have pQ:decide ((k:Int)=g)=true:=(by simpa using dC)
       have HD:=aB hd;clear bV ft HR iu;go_wp2_with fail;refine wQ ?_
       repeat(go_big_quiet_step (first|exact rfl|fail))
       refine qE ?_;(try clear hc hf hz);(try clear HB);intro p HB hc hf hz;clear hc hf hz;generalize p.v=wq1 at HB ⊢;have cy:=aB (af eE.out HB);have aO:=aI dq HB;clear HB c0 c1 c2 c3 p0 p1 p2 p3 lc lx eE dq;obtain⟨c0,c1,c2,c3⟩:=(eh.later cy.out).cells au;obtain⟨p0,p1,p2,p3⟩:=Fz.later cy.out;have lc:=ar c0;have lx:=ar p0;have ez:=aB aO;have oe:=cy.out.size;go_wp2_with(at_builtin;refine aP rfl _ _ 91 rfl wz.heap.size 137 ib _ 4 40 underlying91 pr de cC cF rfl dM _ O.length (aU O) rfl (aI ez.out (aA _ _)) (some ⟨wq1.heap.size,0,none⟩) 1 1 (aU [x]) rfl (iY x wq1) (by unfold maxLen;have:=eU.out;omega) (by have:=eU.out;omega) (by simp only[aaW];omega) ?_;intro v2 CC aT cA);have cS:=aB (cy.out.trans (((aA wq1 _).mono oM).trans cA));clear cA c0 c1 c2 c3 p0 p1 p2 p3 lc lx ez cy aO oe;obtain⟨c0,c1,c2,c3⟩:=(eh.later cS.out).cells au;obtain⟨p0,p1,p2,p3⟩:=Fz.later cS.out;have lc:=ar c0;have lx:=ar p0;go_wp2_with fail;refine wQ ?_
       repeat(go_big_quiet_step (first|exact rfl|fail))
       refine qE ?_;(try clear hc hf hz);(try clear HB);intro p HB hc hf hz;clear hc hf hz;generalize p.v=wq2 at HB ⊢;have eW:=aB (af cS.out HB);have bw:=aI aT HB;clear HB c0 c1 c2 c3 p0 p1 p2 p3 lc lx cS aT;obtain⟨c0,c1,c2,c3⟩:=(eh.later eW.out).cells au;obtain⟨p0,p1,p2,p3⟩:=Fz.later eW.out;have lc:=ar c0;have lx:=ar p0;have fD:=aB bw;clear bw;go_wp2;go_roundw
       case rel=>exact⟨k+1,O++[x],true,oM,gN,rfl,by have h:=gz.out;rw[jn.out,HD.out] at h;exact h,by have h:=fD.out;(try simp only[aaQ,abl,bZ]);exact h,eW.out⟩
       case measure=>simp[intOf];omega
      ·have gz:=aB (ep G.out au HR.out);have jn:Hid (ch l x g k au O false=O++[x]++[l[k]]):=(by show ch l x g k au O false=O++[x]++[l[k]];unfold ch;rw[aaV ⟨rfl,iu⟩,aaV ⟨bV,ft⟩])
       have hd:decide (x.pl<=l[k].pl)=true:=aa1 iu;have dA:(l[k].pl==x.pl)=false:=(by rw[aaU];exact bV)
       have nC:(l[k].pl != x.pl)=true:=(by simp[bne,dA])
       have nD:(!(l[k].pl==x.pl))=true:=(by simp[dA])
       have nE:decide (l[k].pl=x.pl)=false:=(by simpa using dA)
       have dC:((k:Int)==g)=false:=(by rw[aaU];exact ft)
       have pO:((k:Int) != g)=true:=(by simp[bne,dC])
       have pP:(!((k:Int)==g))=true:=(by simp[dC])
       have pQ:decide ((k:Int)=g)=false:=(by simpa using dC)
       have HD:=aB hd;clear bV ft HR iu;go_wp2_with fail;refine wQ ?_
       repeat(go_big_quiet_step (first|exact rfl|fail))
       refine qE ?_;(try clear hc hf hz);(try clear HB);intro p HB hc hf hz;clear hc hf hz;generalize p.v=wq1 at HB ⊢;have cy:=aB (af eE.out HB);have aO:=aI dq HB;clear HB c0 c1 c2 c3 p0 p1 p2 p3 lc lx eE dq;obtain⟨c0,c1,c2,c3⟩:=(eh.later cy.out).cells au;obtain⟨p0,p1,p2,p3⟩:=Fz.later cy.out;have lc:=ar c0;have lx:=ar p0;have ez:=aB aO;have oe:=cy.out.size;go_wp2_with(at_builtin;refine aP rfl _ _ 91 rfl wz.heap.size 137 ib _ 4 40 underlying91 pr de cC cF rfl dM _ O.length (aU O) rfl (aI ez.out (aA _ _)) (some ⟨wq1.heap.size,0,none⟩) 1 1 (aU [x]) rfl (iY x wq1) (by unfold maxLen;have:=eU.out;omega) (by have:=eU.out;omega) (by simp only[aaW];omega) ?_;intro v2 CC aT cA);have cS:=aB (cy.out.trans (((aA wq1 _).mono oM).trans cA));clear cA c0 c1 c2 c3 p0 p1 p2 p3 lc lx ez cy aO oe;obtain⟨c0,c1,c2,c3⟩:=(eh.later cS.out).cells au;obtain⟨p0,p1,p2,p3⟩:=Fz.later cS.out;have lc:=ar c0;have lx:=ar p0;go_wp2_with fail;refine wQ ?_
       repeat(go_big_quiet_step (first|exact rfl|fail))
       refine qE ?_;(try clear hc hf hz);(try clear HB);intro p HB hc hf hz;clear hc hf hz;generalize p.v=wq2 at HB ⊢;have eW:=aB (af cS.out HB);have bw:=aI aT HB;clear HB c0 c1 c2 c3 p0 p1 p2 p3 lc lx cS aT;obtain⟨c0,c1,c2,c3⟩:=(eh.later eW.out).cells au;obtain⟨p0,p1,p2,p3⟩:=Fz.later eW.out;have lc:=ar c0;have lx:=ar p0;have Hy:=aB bw;have Lp:=eW.out.size;go_wp2_with(at_builtin;refine aP rfl _ _ 91 rfl wz.heap.size 137 ib _ 4 40 underlying91 pr de cC cF rfl dM _ (O.length+1) (aU O++aU [x]) rfl (aI Hy.out (aA _ _)) (some ⟨wq2.heap.size,0,none⟩) 1 1 (aU [l[k]]) rfl (iY l[k] wq2) (by unfold maxLen;have:=eU.out;omega) (by have:=eU.out;omega) (by simp only[aaW];omega) ?_;intro v4 CD pv cA);have xO:=aB (eW.out.trans (((aA wq2 _).mono oM).trans cA));clear cA c0 c1 c2 c3 p0 p1 p2 p3 lc lx Hy eW bw Lp;obtain⟨c0,c1,c2,c3⟩:=(eh.later xO.out).cells au;obtain⟨p0,p1,p2,p3⟩:=Fz.later xO.out;have lc:=ar c0;have lx:=ar p0;have fD:=aB pv;clear pv;go_wp2;go_roundw
       case rel=>exact⟨k+1,O++[x]++[l[k]],true,oM,gN,rfl,by have h:=gz.out;rw[jn.out,HD.out] at h;exact h,by have h:=fD.out;(try simp only[aaQ,abl,bZ]);exact h,xO.out⟩
       case measure=>simp[intOf];omega
    ·have bV:¬l[k].pl=x.pl:=oM
     by_cases ft:(k:Int)=g
     ·have gz:=aB (ep G.out au HR.out);have jn:Hid (ch l x g k au O false=O):=(by show ch l x g k au O false=O;unfold ch;rw[aaP (fun h=>iu h.2),aaP (fun h=>h.2 ft)];simp)
      have hd:decide (x.pl<=l[k].pl)=false:=aa9 iu;have dA:(l[k].pl==x.pl)=false:=(by rw[aaU];exact bV)
      have nC:(l[k].pl != x.pl)=true:=(by simp[bne,dA])
      have nD:(!(l[k].pl==x.pl))=true:=(by simp[dA])
      have nE:decide (l[k].pl=x.pl)=false:=(by simpa using dA)
      have dC:((k:Int)==g)=true:=(by rw[ft];simp)
      have pO:((k:Int) != g)=false:=(by simp[bne,dC])
      have pP:(!((k:Int)==g))=false:=(by simp[dC])
      have pQ:decide ((k:Int)=g)=true:=(by simpa using dC)
      have HD:=aB hd;clear bV ft HR iu;go_wp2_with fail;refine wQ ?_
      repeat(go_big_quiet_step (first|exact rfl|fail))
      refine qE ?_;(try clear hc hf hz);(try clear HB);intro p HB hc hf hz;clear hc hf hz;generalize p.v=wq1 at HB ⊢;have cy:=aB (af eE.out HB);have aO:=aI dq HB;clear HB c0 c1 c2 c3 p0 p1 p2 p3 lc lx eE dq;obtain⟨c0,c1,c2,c3⟩:=(eh.later cy.out).cells au;obtain⟨p0,p1,p2,p3⟩:=Fz.later cy.out;have lc:=ar c0;have lx:=ar p0;go_wp2_with fail;refine wQ ?_
      repeat(go_big_quiet_step (first|exact rfl|fail))
      refine qE ?_;(try clear hc hf hz);(try clear HB);intro p HB hc hf hz;clear hc hf hz;generalize p.v=wq2 at HB ⊢;have cS:=aB (af cy.out HB);have aT:=aI aO HB;clear HB c0 c1 c2 c3 p0 p1 p2 p3 lc lx cy aO;obtain⟨c0,c1,c2,c3⟩:=(eh.later cS.out).cells au;obtain⟨p0,p1,p2,p3⟩:=Fz.later cS.out;have lc:=ar c0;have lx:=ar p0;have fD:=aB aT;clear aT;go_wp2;go_roundw
      case rel=>exact⟨k+1,O,false,oM,gN,rfl,by have h:=gz.out;rw[jn.out,HD.out] at h;exact h,by have h:=fD.out;(try simp only[aaQ,abl,bZ]);exact h,cS.out⟩
      case measure=>simp[intOf];omega
     ·have gz:=aB (ep G.out au HR.out);have jn:Hid (ch l x g k au O false=O++[l[k]]):=(by show ch l x g k au O false=O++[l[k]];unfold ch;rw[aaP (fun h=>iu h.2),aaV ⟨bV,ft⟩];simp)
      have hd:decide (x.pl<=l[k].pl)=false:=aa9 iu;have dA:(l[k].pl==x.pl)=false:=(by rw[aaU];exact bV)
      have nC:(l[k].pl != x.pl)=true:=(by simp[bne,dA])
      have nD:(!(l[k].pl==x.pl))=true:=(by simp[dA])
      have nE:decide (l[k].pl=x.pl)=false:=(by simpa using dA)
      have dC:((k:Int)==g)=false:=(by rw[aaU];exact ft)
      have pO:((k:Int) != g)=true:=(by simp[bne,dC])
      have pP:(!((k:Int)==g))=true:=(by simp[dC])
      have pQ:decide ((k:Int)=g)=false:=(by simpa using dC)
      have HD:=aB hd;clear bV ft HR iu;go_wp2_with fail;refine wQ ?_
      repeat(go_big_quiet_step (first|exact rfl|fail))
      refine qE ?_;(try clear hc hf hz);(try clear HB);intro p HB hc hf hz;clear hc hf hz;generalize p.v=wq1 at HB ⊢;have cy:=aB (af eE.out HB);have aO:=aI dq HB;clear HB c0 c1 c2 c3 p0 p1 p2 p3 lc lx eE dq;obtain⟨c0,c1,c2,c3⟩:=(eh.later cy.out).cells au;obtain⟨p0,p1,p2,p3⟩:=Fz.later cy.out;have lc:=ar c0;have lx:=ar p0;go_wp2_with fail;refine wQ ?_
      repeat(go_big_quiet_step (first|exact rfl|fail))
      refine qE ?_;(try clear hc hf hz);(try clear HB);intro p HB hc hf hz;clear hc hf hz;generalize p.v=wq2 at HB ⊢;have cS:=aB (af cy.out HB);have aT:=aI aO HB;clear HB c0 c1 c2 c3 p0 p1 p2 p3 lc lx cy aO;obtain⟨c0,c1,c2,c3⟩:=(eh.later cS.out).cells au;obtain⟨p0,p1,p2,p3⟩:=Fz.later cS.out;have lc:=ar c0;have lx:=ar p0;have mz:=aB aT;have ud:=cS.out.size;go_wp2_with(at_builtin;refine aP rfl _ _ 91 rfl wz.heap.size 137 ib _ 4 40 underlying91 pr de cC cF rfl dM _ O.length (aU O) rfl (aI mz.out (aA _ _)) (some ⟨wq2.heap.size,0,none⟩) 1 1 (aU [l[k]]) rfl (iY l[k] wq2) (by unfold maxLen;have:=eU.out;omega) (by have:=eU.out;omega) (by simp only[aaW];omega) ?_;intro v3 CD bw cA);have eW:=aB (cS.out.trans (((aA wq2 _).mono oM).trans cA));clear cA c0 c1 c2 c3 p0 p1 p2 p3 lc lx mz cS aT ud;obtain⟨c0,c1,c2,c3⟩:=(eh.later eW.out).cells au;obtain⟨p0,p1,p2,p3⟩:=Fz.later eW.out;have lc:=ar c0;have lx:=ar p0;have fD:=aB bw;clear bw;go_wp2;go_roundw
      case rel=>exact⟨k+1,O++[l[k]],false,oM,gN,rfl,by have h:=gz.out;rw[jn.out,HD.out] at h;exact h,by have h:=fD.out;(try simp only[aaQ,abl,bZ]);exact h,eW.out⟩
      case measure=>simp[intOf];omega
   ·have bV:¬l[k].pl=x.pl:=(by have:=HR.out.yes rfl k au (aaO _);omega)
    by_cases ft:(k:Int)=g
    ·have gz:=aB (ep G.out au HR.out);have jn:Hid (ch l x g k au O true=O):=(by show ch l x g k au O true=O;unfold ch;rw[aaP sM,aaP (fun h=>h.2 ft)];simp)
     have hd:decide (x.pl<=l[k].pl)=true:=aa1 (agb (HR.out.yes rfl k au (aaO _)));have dA:(l[k].pl==x.pl)=false:=(by rw[aaU];exact bV)
     have nC:(l[k].pl != x.pl)=true:=(by simp[bne,dA])
     have nD:(!(l[k].pl==x.pl))=true:=(by simp[dA])
     have nE:decide (l[k].pl=x.pl)=false:=(by simpa using dA)
     have dC:((k:Int)==g)=true:=(by rw[ft];simp)
     have pO:((k:Int) != g)=false:=(by simp[bne,dC])
     have pP:(!((k:Int)==g))=false:=(by simp[dC])
     have pQ:decide ((k:Int)=g)=true:=(by simpa using dC)
     have HD:=aB hd;clear bV ft HR hd;go_wp2_with fail;refine wQ ?_
     repeat(go_big_quiet_step (first|exact rfl|fail))
     refine qE ?_;(try clear hc hf hz);(try clear HB);intro p HB hc hf hz;clear hc hf hz;generalize p.v=wq1 at HB ⊢;have cy:=aB (af eE.out HB);have aO:=aI dq HB;clear HB c0 c1 c2 c3 p0 p1 p2 p3 lc lx eE dq;obtain⟨c0,c1,c2,c3⟩:=(eh.later cy.out).cells au;obtain⟨p0,p1,p2,p3⟩:=Fz.later cy.out;have lc:=ar c0;have lx:=ar p0;go_wp2_with fail;refine wQ ?_
     repeat(go_big_quiet_step (first|exact rfl|fail))
     refine qE ?_;(try clear hc hf hz);(try clear HB);intro p HB hc hf hz;clear hc hf hz;generalize p.v=wq2 at HB ⊢;have cS:=aB (af cy.out HB);have aT:=aI aO HB;clear HB c0 c1 c2 c3 p0 p1 p2 p3 lc lx cy aO;obtain⟨c0,c1,c2,c3⟩:=(eh.later cS.out).cells au;obtain⟨p0,p1,p2,p3⟩:=Fz.later cS.out;have lc:=ar c0;have lx:=ar p0;have fD:=aB aT;clear aT;go_wp2;go_roundw
     case rel=>exact⟨k+1,O,true,oM,gN,rfl,by have h:=gz.out;rw[jn.out,HD.out] at h;exact h,by have h:=fD.out;(try simp only[aaQ,abl,bZ]);exact h,cS.out⟩
     case measure=>simp[intOf];omega
    ·have gz:=aB (ep G.out au HR.out);have jn:Hid (ch l x g k au O true=O++[l[k]]):=(by show ch l x g k au O true=O++[l[k]];unfold ch;rw[aaP sM,aaV ⟨bV,ft⟩];simp)
     have hd:decide (x.pl<=l[k].pl)=true:=aa1 (agb (HR.out.yes rfl k au (aaO _)));have dA:(l[k].pl==x.pl)=false:=(by rw[aaU];exact bV)
     have nC:(l[k].pl != x.pl)=true:=(by simp[bne,dA])
     have nD:(!(l[k].pl==x.pl))=true:=(by simp[dA])
     have nE:decide (l[k].pl=x.pl)=false:=(by simpa using dA)
     have dC:((k:Int)==g)=false:=(by rw[aaU];exact ft)
     have pO:((k:Int) != g)=true:=(by simp[bne,dC])
     have pP:(!((k:Int)==g))=true:=(by simp[dC])
     have pQ:decide ((k:Int)=g)=false:=(by simpa using dC)
     have HD:=aB hd;clear bV ft HR hd;go_wp2_with fail;refine wQ ?_
     repeat(go_big_quiet_step (first|exact rfl|fail))
     refine qE ?_;(try clear hc hf hz);(try clear HB);intro p HB hc hf hz;clear hc hf hz;generalize p.v=wq1 at HB ⊢;have cy:=aB (af eE.out HB);have aO:=aI dq HB;clear HB c0 c1 c2 c3 p0 p1 p2 p3 lc lx eE dq;obtain⟨c0,c1,c2,c3⟩:=(eh.later cy.out).cells au;obtain⟨p0,p1,p2,p3⟩:=Fz.later cy.out;have lc:=ar c0;have lx:=ar p0;go_wp2_with fail;refine wQ ?_
     repeat(go_big_quiet_step (first|exact rfl|fail))
     refine qE ?_;(try clear hc hf hz);(try clear HB);intro p HB hc hf hz;clear hc hf hz;generalize p.v=wq2 at HB ⊢;have cS:=aB (af cy.out HB);have aT:=aI aO HB;clear HB c0 c1 c2 c3 p0 p1 p2 p3 lc lx cy aO;obtain⟨c0,c1,c2,c3⟩:=(eh.later cS.out).cells au;obtain⟨p0,p1,p2,p3⟩:=Fz.later cS.out;have lc:=ar c0;have lx:=ar p0;have mz:=aB aT;have ud:=cS.out.size;go_wp2_with(at_builtin;refine aP rfl _ _ 91 rfl wz.heap.size 137 ib _ 4 40 underlying91 pr de cC cF rfl dM _ O.length (aU O) rfl (aI mz.out (aA _ _)) (some ⟨wq2.heap.size,0,none⟩) 1 1 (aU [l[k]]) rfl (iY l[k] wq2) (by unfold maxLen;have:=eU.out;omega) (by have:=eU.out;omega) (by simp only[aaW];omega) ?_;intro v3 CD bw cA);have eW:=aB (cS.out.trans (((aA wq2 _).mono oM).trans cA));clear cA c0 c1 c2 c3 p0 p1 p2 p3 lc lx mz cS aT ud;obtain⟨c0,c1,c2,c3⟩:=(eh.later eW.out).cells au;obtain⟨p0,p1,p2,p3⟩:=Fz.later eW.out;have lc:=ar c0;have lx:=ar p0;have fD:=aB bw;clear bw;go_wp2;go_roundw
     case rel=>exact⟨k+1,O++[l[k]],true,oM,gN,rfl,by have h:=gz.out;rw[jn.out,HD.out] at h;exact h,by have h:=fD.out;(try simp only[aaQ,abl,bZ]);exact h,eW.out⟩
     case measure=>simp[intOf];omega
  ·obtain rfl:k=l.length:=oM;obtain⟨p0,p1,p2,p3⟩:=Fz.later eE.out;have lx:=ar p0
   cases b
   ·have HF:=aB (Ew HR.out);have RP:=aB dq;have acX:=eE.out.size;have fo:=qM.size;clear HR dq;go_wp2_with(at_builtin;refine aP rfl _ _ 91 rfl wz.heap.size 137 ib _ 4 40 underlying91 pr de cC cF rfl dM _ O.length (aU O) rfl (aI RP.out (aA _ _)) (some ⟨wr.heap.size,0,none⟩) 1 1 (aU [x]) rfl (iY x wr) (by unfold maxLen;have:=eU.out;omega) (by have:=eU.out;omega) (by simp only[aaW];omega) ?_;intro v1 w9 sQ cA);have Ia:bL wz w9:=eE.out.trans (((aA wr _).mono oM).trans cA);rw[<-bZ] at sQ;obtain⟨a9,c9,rfl,oH⟩:=fQ (l:=O++[x]) sQ sM (by have:=eU.out;simp;omega);have R9:=aB oH.here;have N9:=aB (oH.newAt.mono fo);have wD:=aB (qM.trans (Ia.mono fo));clear sQ cA Ia oH p0 p1 p2 p3;go_wp2
    go_ret2
    exact⟨O++[x],a9,c9,rfl,R9.out,by rw[xL.out];exact HF.out,wD.out,N9.out⟩
   ·have HF:=aB (Cm HR.out);have fo:=qM.size;obtain⟨a9,c9,rfl,oH⟩:=fQ (l:=O) dq rfl (by have:=eU.out;omega);have R9:=aB oH.here;have N9:=aB (oH.newAt.mono fo);have wD:=aB (qM.trans (eE.out.mono fo));clear HR dq oH p0 p1 p2 p3;go_wp2
    go_ret2
    exact⟨O,a9,c9,rfl,R9.out,by rw[xL.out];exact HF.out,wD.out,N9.out⟩
end Go.Proofs.YtlhgjplipgandaaGreatDoor
