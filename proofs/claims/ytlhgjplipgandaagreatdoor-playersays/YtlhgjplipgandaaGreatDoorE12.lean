/- Joined. -/
import Derived.Test.YtlhgjplipgandaaGreatDoorE11
set_option maxRecDepth 100000
set_option maxHeartbeats 8000000
set_option linter.unusedSimpArgs false
set_option linter.unusedSectionVars false
namespace Go.Proofs.YtlhgjplipgandaaGreatDoor
open Tryz
open Go.RowKit Go.BigFrame
theorem Ph(l:List Bf)(a:Option Addr)(c:Nat)(x:Bf)(hs:Array Value)(hz:hs.size=32)(B:Nat->Bool)(w:World)(hl:bw w a l)(G:kE l)(hB:∀i,i<32->hs[i]?=some (.bool (B i)))(h8:l.length=8)(hi:en (eR x.pl) l=-1)(j:Nat)(hj:j<l.length)(hr:dy (ez false (kJ B)) l l.length=j) :
 Calls prog 108 #[.slice a l.length c,x.val,.agg hs] w fun e w'=>∃M a' c',e=.returned (.tuple #[.slice a' M.length c',i6 0])/\bw w' a' M/\CM l x j M/\bL w w'/\nC w.heap.size a' c' M.length:=by
 have bC:=hl.2;have HI:=az hi;have IN:=az hr;have HH:=az hB;have H8:=az h8;have zE:(8:Int)<=(l.length:Int):=oM;have jm:Hid ((prog.info? 162).map (·.size)=some hs.toList.length):=(by rw[Hid,adk,hz];kernel_rfl)
 clear hi hr hB h8 hz;go_enter func108,ntmps108;go_wp2_with fail;refine cM (uE l a c x.pl _ (hl.later (ja _ _ _)) HI.out) ?_;intro w1 aw;have aU:bL w w1:=bQ;have F1:iM w1 w.heap.size x:=iM.later (iM.later ⟨sM,sM,sM,sM⟩ (aB _ _)) aw;have vH:(w1.alloc (.cells #[i6 0,.string ⟨#[]⟩,.bool false,i6 0] 137)).rangeAt (w.heap.size+1) 0 hs.toList:=by
  have r0:=zi (w.alloc (.cells #[i6 x.pl,.string x.data,.bool x.bO,i6 x.used] 137)) hs 162;simp only[ab9] at r0;intro i v hv;exact af (aB w1 _) (af aw (r0 i v hv))
 have Tx:=az vH;have mf:=hl.later aU;clear aw vH;go_wp2_with(refine wpList_load_mid rfl 162 (.tmp 5) rfl (w.heap.size+1) 0 rfl hs.toList _ Tx.out underlying162 rfl jm.out ?_);refine cM (EF l a c false hs B _ (mf.later (aB _ _)) G HH.out _ IN.out) ?_;intro w2 aA;have pV:bL w w2:=bQ;have bb:=ab (aB w1 _) aA;have eh:=mf.later bb;have Fz:=F1.later bb;have G:=az G;obtain⟨p0,p1,p2,p3⟩:=id Fz;clear aA bb mf F1 aU;go_wp2_with fail;clear p0 p1 p2 p3;generalize AE:(j:Int)=g;have vF:=az AE;clear AE;generalize Q2:w2=wz at eh Fz pV ⊢;clear Q2;obtain⟨ib,oD,dB,cP,cS⟩:=fi wE
 go_loopw[11,12,13] (fun out laid i wr=>∃(k:Nat) (O:List Bf) (b:Bool),k<=l.length/\i=i6 k/\laid=.bool b/\vK l x g k O b/\wr.ownsRow wz.heap.size 137 4 out O.length (aR O)/\bL wz wr) (fun _ _ i _=>l.length-(intOf i).toNat)
 case atStart=>exact⟨0,[],false,oM,rfl,rfl,FC _ _ _,acx _ _ _ _,aQ _ _⟩
 case round =>
  rename_i u11
  obtain⟨k,O,b,hk,rfl,rfl,hR,dk,iT⟩:=hrel;have HR:=az hR;have eF:=az iT;have QX:O.length<=2*l.length:=(by have:=hR.len;omega)
  have eO:Hid (O.length<=16):=(by have:=G.out.len;show O.length<=16;omega)
  clear hR iT QX
  by_cases aq:k<l.length
  ·have h0:l ≠ []:=by rintro rfl;exact absurd aq (acg _)
   obtain⟨b0,o0,rfl⟩:=eh.form.resolve_left h0;obtain⟨c0,c1,c2,c3⟩:=(eh.later eF.out).cells aq;obtain⟨p0,p1,p2,p3⟩:=Fz.later eF.out;have lc:=ao c0;have lx:=ao p0;clear h0;have Ux:=aq
   cases b
   ·by_cases hJ:x.pl<=l[k].pl
    ·by_cases bW:l[k].pl=x.pl
     ·have gq:=az (et G.out aq HR.out);have iZ:Hid (ch l x g k aq O false=O++[x]):=(by show ch l x g k aq O false=O++[x];unfold ch;rw[aca ⟨rfl,hJ⟩,ab6 (fun h=>h.1 bW)];simp)
      have hd:decide (x.pl<=l[k].pl)=true:=acf hJ;have dD:(l[k].pl==x.pl)=true:=(by rw[bW];simp)
      have mR:(l[k].pl != x.pl)=false:=(by simp[bne,dD])
      have mS:(!(l[k].pl==x.pl))=false:=(by simp[dD])
      have mT:decide (l[k].pl=x.pl)=true:=(by simpa using dD)
      have HD:=az hd;clear HR bW hJ;go_wp2_with fail;refine wQ ?_
      repeat(go_big_quiet_step (first|exact rfl|fail))
      refine qE ?_;(try clear hc hf hz);(try clear HB);intro p HB hc hf hz;clear hc hf hz;generalize p.v=wq1 at HB ⊢;have cC:=az (ab eF.out HB);have aK:=aF dk HB;clear HB c0 c1 c2 c3 p0 p1 p2 p3 lc lx eF dk;obtain⟨c0,c1,c2,c3⟩:=(eh.later cC.out).cells aq;obtain⟨p0,p1,p2,p3⟩:=Fz.later cC.out;have lc:=ao c0;have lx:=ao p0;have eB:=az aK;have nH:=cC.out.size;go_wp2_with(at_builtin;refine aO rfl _ _ 91 rfl wz.heap.size 137 ib _ 4 40 underlying91 oD dB cP cS rfl dM _ O.length (aR O) rfl (aF eB.out (aB _ _)) (some ⟨wq1.heap.size,0,none⟩) 1 1 (aR [x]) rfl (iJ x wq1) (by unfold maxLen;have:=eO.out;omega) (by have:=eO.out;omega) (by simp only[ab9];omega) ?_;intro v2 Bk aT cF);have cO:=az (cC.out.trans (((aB wq1 _).mono oM).trans cF));clear cF c0 c1 c2 c3 p0 p1 p2 p3 lc lx eB cC aK nH;obtain⟨c0,c1,c2,c3⟩:=(eh.later cO.out).cells aq;obtain⟨p0,p1,p2,p3⟩:=Fz.later cO.out;have lc:=ao c0;have lx:=ao p0;go_wp2_with fail;refine wQ ?_
      repeat(go_big_quiet_step (first|exact rfl|fail))
      refine qE ?_;(try clear hc hf hz);(try clear HB);intro p HB hc hf hz;clear hc hf hz;generalize p.v=wq2 at HB ⊢;have eV:=az (ab cO.out HB);have bF:=aF aT HB;clear HB c0 c1 c2 c3 p0 p1 p2 p3 lc lx cO aT;obtain⟨c0,c1,c2,c3⟩:=(eh.later eV.out).cells aq;obtain⟨p0,p1,p2,p3⟩:=Fz.later eV.out;have lc:=ao c0;have lx:=ao p0;have fu:=az bF;clear bF;go_wp2;go_roundw
      case rel=>exact⟨k+1,O++[x],true,oM,gN,rfl,by have h:=gq.out;rw[iZ.out,HD.out] at h;exact h,by have h:=fu.out;(try simp only[ab7,acu,cc]);exact h,eV.out⟩
      case measure=>simp[intOf];omega
     ·by_cases fm:(k:Int)=g
      ·have gq:=az (et G.out aq HR.out);have iZ:Hid (ch l x g k aq O false=O++[x]):=(by show ch l x g k aq O false=O++[x];unfold ch;rw[aca ⟨rfl,hJ⟩,ab6 (fun h=>h.2 fm)];simp)
       have hd:decide (x.pl<=l[k].pl)=true:=acf hJ;have dD:(l[k].pl==x.pl)=false:=(by rw[ab8];exact bW)
       have mR:(l[k].pl != x.pl)=true:=(by simp[bne,dD])
       have mS:(!(l[k].pl==x.pl))=true:=(by simp[dD])
       have mT:decide (l[k].pl=x.pl)=false:=(by simpa using dD)
       have dL:((k:Int)==g)=true:=(by rw[fm];simp)
       have oV:((k:Int) != g)=false:=(by simp[bne,dL])
       have oW:(!((k:Int)==g))=false:=(by simp[dL])
       have oX:decide ((k:Int)=g)=true:=(by simpa using dL)
       have HD:=az hd;clear bW fm HR hJ;go_wp2_with fail;refine wQ ?_
       repeat(go_big_quiet_step (first|exact rfl|fail))
       refine qE ?_;(try clear hc hf hz);(try clear HB);intro p HB hc hf hz;clear hc hf hz;generalize p.v=wq1 at HB ⊢;have cC:=az (ab eF.out HB);have aK:=aF dk HB;clear HB c0 c1 c2 c3 p0 p1 p2 p3 lc lx eF dk;obtain⟨c0,c1,c2,c3⟩:=(eh.later cC.out).cells aq;obtain⟨p0,p1,p2,p3⟩:=Fz.later cC.out;have lc:=ao c0;have lx:=ao p0;have eB:=az aK;have nH:=cC.out.size;go_wp2_with(at_builtin;refine aO rfl _ _ 91 rfl wz.heap.size 137 ib _ 4 40 underlying91 oD dB cP cS rfl dM _ O.length (aR O) rfl (aF eB.out (aB _ _)) (some ⟨wq1.heap.size,0,none⟩) 1 1 (aR [x]) rfl (iJ x wq1) (by unfold maxLen;have:=eO.out;omega) (by have:=eO.out;omega) (by simp only[ab9];omega) ?_;intro v2 Bk aT cF);have cO:=az (cC.out.trans (((aB wq1 _).mono oM).trans cF));clear cF c0 c1 c2 c3 p0 p1 p2 p3 lc lx eB cC aK nH;obtain⟨c0,c1,c2,c3⟩:=(eh.later cO.out).cells aq;obtain⟨p0,p1,p2,p3⟩:=Fz.later cO.out;have lc:=ao c0;have lx:=ao p0;go_wp2_with fail;refine wQ ?_
       repeat(go_big_quiet_step (first|exact rfl|fail))
       refine qE ?_;(try clear hc hf hz);(try clear HB);intro p HB hc hf hz;clear hc hf hz;generalize p.v=wq2 at HB ⊢;have eV:=az (ab cO.out HB);have bF:=aF aT HB;clear HB c0 c1 c2 c3 p0 p1 p2 p3 lc lx cO aT;obtain⟨c0,c1,c2,c3⟩:=(eh.later eV.out).cells aq;obtain⟨p0,p1,p2,p3⟩:=Fz.later eV.out;have lc:=ao c0;have lx:=ao p0;have fu:=az bF;clear bF;go_wp2;go_roundw
       case rel=>exact⟨k+1,O++[x],true,oM,gN,rfl,by have h:=gq.out;rw[iZ.out,HD.out] at h;exact h,by have h:=fu.out;(try simp only[ab7,acu,cc]);exact h,eV.out⟩
       case measure=>simp[intOf];omega
      ·have gq:=az (et G.out aq HR.out);have iZ:Hid (ch l x g k aq O false=O++[x]++[l[k]]):=(by show ch l x g k aq O false=O++[x]++[l[k]];unfold ch;rw[aca ⟨rfl,hJ⟩,aca ⟨bW,fm⟩])
       have hd:decide (x.pl<=l[k].pl)=true:=acf hJ;have dD:(l[k].pl==x.pl)=false:=(by rw[ab8];exact bW)
       have mR:(l[k].pl != x.pl)=true:=(by simp[bne,dD])
       have mS:(!(l[k].pl==x.pl))=true:=(by simp[dD])
       have mT:decide (l[k].pl=x.pl)=false:=(by simpa using dD)
       have dL:((k:Int)==g)=false:=(by rw[ab8];exact fm)
       have oV:((k:Int) != g)=true:=(by simp[bne,dL])
       have oW:(!((k:Int)==g))=true:=(by simp[dL])
       have oX:decide ((k:Int)=g)=false:=(by simpa using dL)
       have HD:=az hd;clear bW fm HR hJ;go_wp2_with fail;refine wQ ?_
       repeat(go_big_quiet_step (first|exact rfl|fail))
       refine qE ?_;(try clear hc hf hz);(try clear HB);intro p HB hc hf hz;clear hc hf hz;generalize p.v=wq1 at HB ⊢;have cC:=az (ab eF.out HB);have aK:=aF dk HB;clear HB c0 c1 c2 c3 p0 p1 p2 p3 lc lx eF dk;obtain⟨c0,c1,c2,c3⟩:=(eh.later cC.out).cells aq;obtain⟨p0,p1,p2,p3⟩:=Fz.later cC.out;have lc:=ao c0;have lx:=ao p0;have eB:=az aK;have nH:=cC.out.size;go_wp2_with(at_builtin;refine aO rfl _ _ 91 rfl wz.heap.size 137 ib _ 4 40 underlying91 oD dB cP cS rfl dM _ O.length (aR O) rfl (aF eB.out (aB _ _)) (some ⟨wq1.heap.size,0,none⟩) 1 1 (aR [x]) rfl (iJ x wq1) (by unfold maxLen;have:=eO.out;omega) (by have:=eO.out;omega) (by simp only[ab9];omega) ?_;intro v2 Bk aT cF);have cO:=az (cC.out.trans (((aB wq1 _).mono oM).trans cF));clear cF c0 c1 c2 c3 p0 p1 p2 p3 lc lx eB cC aK nH;obtain⟨c0,c1,c2,c3⟩:=(eh.later cO.out).cells aq;obtain⟨p0,p1,p2,p3⟩:=Fz.later cO.out;have lc:=ao c0;have lx:=ao p0;go_wp2_with fail;refine wQ ?_
       repeat(go_big_quiet_step (first|exact rfl|fail))
       refine qE ?_;(try clear hc hf hz);(try clear HB);intro p HB hc hf hz;clear hc hf hz;generalize p.v=wq2 at HB ⊢;have eV:=az (ab cO.out HB);have bF:=aF aT HB;clear HB c0 c1 c2 c3 p0 p1 p2 p3 lc lx cO aT;obtain⟨c0,c1,c2,c3⟩:=(eh.later eV.out).cells aq;obtain⟨p0,p1,p2,p3⟩:=Fz.later eV.out;have lc:=ao c0;have lx:=ao p0;have FX:=az bF;have JP:=eV.out.size;go_wp2_with(at_builtin;refine aO rfl _ _ 91 rfl wz.heap.size 137 ib _ 4 40 underlying91 oD dB cP cS rfl dM _ (O.length+1) (aR O++aR [x]) rfl (aF FX.out (aB _ _)) (some ⟨wq2.heap.size,0,none⟩) 1 1 (aR [l[k]]) rfl (iJ l[k] wq2) (by unfold maxLen;have:=eO.out;omega) (by have:=eO.out;omega) (by simp only[ab9];omega) ?_;intro v4 Bl rN cF);have vI:=az (eV.out.trans (((aB wq2 _).mono oM).trans cF));clear cF c0 c1 c2 c3 p0 p1 p2 p3 lc lx FX eV bF JP;obtain⟨c0,c1,c2,c3⟩:=(eh.later vI.out).cells aq;obtain⟨p0,p1,p2,p3⟩:=Fz.later vI.out;have lc:=ao c0;have lx:=ao p0;have fu:=az rN;clear rN;go_wp2;go_roundw
       case rel=>exact⟨k+1,O++[x]++[l[k]],true,oM,gN,rfl,by have h:=gq.out;rw[iZ.out,HD.out] at h;exact h,by have h:=fu.out;(try simp only[ab7,acu,cc]);exact h,vI.out⟩
       case measure=>simp[intOf];omega
    ·have bW:¬l[k].pl=x.pl:=oM
     by_cases fm:(k:Int)=g
     ·have gq:=az (et G.out aq HR.out);have iZ:Hid (ch l x g k aq O false=O):=(by show ch l x g k aq O false=O;unfold ch;rw[ab6 (fun h=>hJ h.2),ab6 (fun h=>h.2 fm)];simp)
      have hd:decide (x.pl<=l[k].pl)=false:=aci hJ;have dD:(l[k].pl==x.pl)=false:=(by rw[ab8];exact bW)
      have mR:(l[k].pl != x.pl)=true:=(by simp[bne,dD])
      have mS:(!(l[k].pl==x.pl))=true:=(by simp[dD])
      have mT:decide (l[k].pl=x.pl)=false:=(by simpa using dD)
      have dL:((k:Int)==g)=true:=(by rw[fm];simp)
      have oV:((k:Int) != g)=false:=(by simp[bne,dL])
      have oW:(!((k:Int)==g))=false:=(by simp[dL])
      have oX:decide ((k:Int)=g)=true:=(by simpa using dL)
      have HD:=az hd;clear bW fm HR hJ;go_wp2_with fail;refine wQ ?_
      repeat(go_big_quiet_step (first|exact rfl|fail))
      refine qE ?_;(try clear hc hf hz);(try clear HB);intro p HB hc hf hz;clear hc hf hz;generalize p.v=wq1 at HB ⊢;have cC:=az (ab eF.out HB);have aK:=aF dk HB;clear HB c0 c1 c2 c3 p0 p1 p2 p3 lc lx eF dk;obtain⟨c0,c1,c2,c3⟩:=(eh.later cC.out).cells aq;obtain⟨p0,p1,p2,p3⟩:=Fz.later cC.out;have lc:=ao c0;have lx:=ao p0;go_wp2_with fail;refine wQ ?_
      repeat(go_big_quiet_step (first|exact rfl|fail))
      refine qE ?_;(try clear hc hf hz);(try clear HB);intro p HB hc hf hz;clear hc hf hz;generalize p.v=wq2 at HB ⊢;have cO:=az (ab cC.out HB);have aT:=aF aK HB;clear HB c0 c1 c2 c3 p0 p1 p2 p3 lc lx cC aK;obtain⟨c0,c1,c2,c3⟩:=(eh.later cO.out).cells aq;obtain⟨p0,p1,p2,p3⟩:=Fz.later cO.out;have lc:=ao c0;have lx:=ao p0;have fu:=az aT;clear aT;go_wp2;go_roundw
      case rel=>exact⟨k+1,O,false,oM,gN,rfl,by have h:=gq.out;rw[iZ.out,HD.out] at h;exact h,by have h:=fu.out;(try simp only[ab7,acu,cc]);exact h,cO.out⟩
      case measure=>simp[intOf];omega
     ·have gq:=az (et G.out aq HR.out);have iZ:Hid (ch l x g k aq O false=O++[l[k]]):=(by show ch l x g k aq O false=O++[l[k]];unfold ch;rw[ab6 (fun h=>hJ h.2),aca ⟨bW,fm⟩];simp)
      have hd:decide (x.pl<=l[k].pl)=false:=aci hJ;have dD:(l[k].pl==x.pl)=false:=(by rw[ab8];exact bW)
      have mR:(l[k].pl != x.pl)=true:=(by simp[bne,dD])
      have mS:(!(l[k].pl==x.pl))=true:=(by simp[dD])
      have mT:decide (l[k].pl=x.pl)=false:=(by simpa using dD)
      have dL:((k:Int)==g)=false:=(by rw[ab8];exact fm)
      have oV:((k:Int) != g)=true:=(by simp[bne,dL])
      have oW:(!((k:Int)==g))=true:=(by simp[dL])
      have oX:decide ((k:Int)=g)=false:=(by simpa using dL)
      have HD:=az hd;clear bW fm HR hJ;go_wp2_with fail;refine wQ ?_
      repeat(go_big_quiet_step (first|exact rfl|fail))
      refine qE ?_;(try clear hc hf hz);(try clear HB);intro p HB hc hf hz;clear hc hf hz;generalize p.v=wq1 at HB ⊢;have cC:=az (ab eF.out HB);have aK:=aF dk HB;clear HB c0 c1 c2 c3 p0 p1 p2 p3 lc lx eF dk;obtain⟨c0,c1,c2,c3⟩:=(eh.later cC.out).cells aq;obtain⟨p0,p1,p2,p3⟩:=Fz.later cC.out;have lc:=ao c0;have lx:=ao p0;go_wp2_with fail;refine wQ ?_
      repeat(go_big_quiet_step (first|exact rfl|fail))
      refine qE ?_;(try clear hc hf hz);(try clear HB);intro p HB hc hf hz;clear hc hf hz;generalize p.v=wq2 at HB ⊢;have cO:=az (ab cC.out HB);have aT:=aF aK HB;clear HB c0 c1 c2 c3 p0 p1 p2 p3 lc lx cC aK;obtain⟨c0,c1,c2,c3⟩:=(eh.later cO.out).cells aq;obtain⟨p0,p1,p2,p3⟩:=Fz.later cO.out;have lc:=ao c0;have lx:=ao p0;have lX:=az aT;have sC:=cO.out.size;go_wp2_with(at_builtin;refine aO rfl _ _ 91 rfl wz.heap.size 137 ib _ 4 40 underlying91 oD dB cP cS rfl dM _ O.length (aR O) rfl (aF lX.out (aB _ _)) (some ⟨wq2.heap.size,0,none⟩) 1 1 (aR [l[k]]) rfl (iJ l[k] wq2) (by unfold maxLen;have:=eO.out;omega) (by have:=eO.out;omega) (by simp only[ab9];omega) ?_;intro v3 Bl bF cF);have eV:=az (cO.out.trans (((aB wq2 _).mono oM).trans cF));clear cF c0 c1 c2 c3 p0 p1 p2 p3 lc lx lX cO aT sC;obtain⟨c0,c1,c2,c3⟩:=(eh.later eV.out).cells aq;obtain⟨p0,p1,p2,p3⟩:=Fz.later eV.out;have lc:=ao c0;have lx:=ao p0;have fu:=az bF;clear bF;go_wp2;go_roundw
      case rel=>exact⟨k+1,O++[l[k]],false,oM,gN,rfl,by have h:=gq.out;rw[iZ.out,HD.out] at h;exact h,by have h:=fu.out;(try simp only[ab7,acu,cc]);exact h,eV.out⟩
      case measure=>simp[intOf];omega
   ·have bW:¬l[k].pl=x.pl:=(by have:=HR.out.yes rfl k aq (ab5 _);omega)
    by_cases fm:(k:Int)=g
    ·have gq:=az (et G.out aq HR.out);have iZ:Hid (ch l x g k aq O true=O):=(by show ch l x g k aq O true=O;unfold ch;rw[ab6 sM,ab6 (fun h=>h.2 fm)];simp)
     have hd:decide (x.pl<=l[k].pl)=true:=acf (aey (HR.out.yes rfl k aq (ab5 _)));have dD:(l[k].pl==x.pl)=false:=(by rw[ab8];exact bW)
     have mR:(l[k].pl != x.pl)=true:=(by simp[bne,dD])
     have mS:(!(l[k].pl==x.pl))=true:=(by simp[dD])
     have mT:decide (l[k].pl=x.pl)=false:=(by simpa using dD)
     have dL:((k:Int)==g)=true:=(by rw[fm];simp)
     have oV:((k:Int) != g)=false:=(by simp[bne,dL])
     have oW:(!((k:Int)==g))=false:=(by simp[dL])
     have oX:decide ((k:Int)=g)=true:=(by simpa using dL)
     have HD:=az hd;clear bW fm HR hd;go_wp2_with fail;refine wQ ?_
     repeat(go_big_quiet_step (first|exact rfl|fail))
     refine qE ?_;(try clear hc hf hz);(try clear HB);intro p HB hc hf hz;clear hc hf hz;generalize p.v=wq1 at HB ⊢;have cC:=az (ab eF.out HB);have aK:=aF dk HB;clear HB c0 c1 c2 c3 p0 p1 p2 p3 lc lx eF dk;obtain⟨c0,c1,c2,c3⟩:=(eh.later cC.out).cells aq;obtain⟨p0,p1,p2,p3⟩:=Fz.later cC.out;have lc:=ao c0;have lx:=ao p0;go_wp2_with fail;refine wQ ?_
     repeat(go_big_quiet_step (first|exact rfl|fail))
     refine qE ?_;(try clear hc hf hz);(try clear HB);intro p HB hc hf hz;clear hc hf hz;generalize p.v=wq2 at HB ⊢;have cO:=az (ab cC.out HB);have aT:=aF aK HB;clear HB c0 c1 c2 c3 p0 p1 p2 p3 lc lx cC aK;obtain⟨c0,c1,c2,c3⟩:=(eh.later cO.out).cells aq;obtain⟨p0,p1,p2,p3⟩:=Fz.later cO.out;have lc:=ao c0;have lx:=ao p0;have fu:=az aT;clear aT;go_wp2;go_roundw
     case rel=>exact⟨k+1,O,true,oM,gN,rfl,by have h:=gq.out;rw[iZ.out,HD.out] at h;exact h,by have h:=fu.out;(try simp only[ab7,acu,cc]);exact h,cO.out⟩
     case measure=>simp[intOf];omega
    ·have gq:=az (et G.out aq HR.out);have iZ:Hid (ch l x g k aq O true=O++[l[k]]):=(by show ch l x g k aq O true=O++[l[k]];unfold ch;rw[ab6 sM,aca ⟨bW,fm⟩];simp)
     have hd:decide (x.pl<=l[k].pl)=true:=acf (aey (HR.out.yes rfl k aq (ab5 _)));have dD:(l[k].pl==x.pl)=false:=(by rw[ab8];exact bW)
     have mR:(l[k].pl != x.pl)=true:=(by simp[bne,dD])
     have mS:(!(l[k].pl==x.pl))=true:=(by simp[dD])
     have mT:decide (l[k].pl=x.pl)=false:=(by simpa using dD)
     have dL:((k:Int)==g)=false:=(by rw[ab8];exact fm)
     have oV:((k:Int) != g)=true:=(by simp[bne,dL])
     have oW:(!((k:Int)==g))=true:=(by simp[dL])
     have oX:decide ((k:Int)=g)=false:=(by simpa using dL)
     have HD:=az hd;clear bW fm HR hd;go_wp2_with fail;refine wQ ?_
     repeat(go_big_quiet_step (first|exact rfl|fail))
     refine qE ?_;(try clear hc hf hz);(try clear HB);intro p HB hc hf hz;clear hc hf hz;generalize p.v=wq1 at HB ⊢;have cC:=az (ab eF.out HB);have aK:=aF dk HB;clear HB c0 c1 c2 c3 p0 p1 p2 p3 lc lx eF dk;obtain⟨c0,c1,c2,c3⟩:=(eh.later cC.out).cells aq;obtain⟨p0,p1,p2,p3⟩:=Fz.later cC.out;have lc:=ao c0;have lx:=ao p0;go_wp2_with fail;refine wQ ?_
     repeat(go_big_quiet_step (first|exact rfl|fail))
     refine qE ?_;(try clear hc hf hz);(try clear HB);intro p HB hc hf hz;clear hc hf hz;generalize p.v=wq2 at HB ⊢;have cO:=az (ab cC.out HB);have aT:=aF aK HB;clear HB c0 c1 c2 c3 p0 p1 p2 p3 lc lx cC aK;obtain⟨c0,c1,c2,c3⟩:=(eh.later cO.out).cells aq;obtain⟨p0,p1,p2,p3⟩:=Fz.later cO.out;have lc:=ao c0;have lx:=ao p0;have lX:=az aT;have sC:=cO.out.size;go_wp2_with(at_builtin;refine aO rfl _ _ 91 rfl wz.heap.size 137 ib _ 4 40 underlying91 oD dB cP cS rfl dM _ O.length (aR O) rfl (aF lX.out (aB _ _)) (some ⟨wq2.heap.size,0,none⟩) 1 1 (aR [l[k]]) rfl (iJ l[k] wq2) (by unfold maxLen;have:=eO.out;omega) (by have:=eO.out;omega) (by simp only[ab9];omega) ?_;intro v3 Bl bF cF);have eV:=az (cO.out.trans (((aB wq2 _).mono oM).trans cF));clear cF c0 c1 c2 c3 p0 p1 p2 p3 lc lx lX cO aT sC;obtain⟨c0,c1,c2,c3⟩:=(eh.later eV.out).cells aq;obtain⟨p0,p1,p2,p3⟩:=Fz.later eV.out;have lc:=ao c0;have lx:=ao p0;have fu:=az bF;clear bF;go_wp2;go_roundw
     case rel=>exact⟨k+1,O++[l[k]],true,oM,gN,rfl,by have h:=gq.out;rw[iZ.out,HD.out] at h;exact h,by have h:=fu.out;(try simp only[ab7,acu,cc]);exact h,eV.out⟩
     case measure=>simp[intOf];omega
  ·obtain rfl:k=l.length:=oM;obtain⟨p0,p1,p2,p3⟩:=Fz.later eF.out;have lx:=ao p0
   cases b
   ·have HF:=az (Dc HR.out);have PZ:=az dk;have aaa:=eF.out.size;have gQ:=pV.size;clear HR dk;go_wp2_with(at_builtin;refine aO rfl _ _ 91 rfl wz.heap.size 137 ib _ 4 40 underlying91 oD dB cP cS rfl dM _ O.length (aR O) rfl (aF PZ.out (aB _ _)) (some ⟨wr.heap.size,0,none⟩) 1 1 (aR [x]) rfl (iJ x wr) (by unfold maxLen;have:=eO.out;omega) (by have:=eO.out;omega) (by simp only[ab9];omega) ?_;intro v1 w9 rO cF);have FY:bL wz w9:=eF.out.trans (((aB wr _).mono oM).trans cF);rw[<-cc] at rO;obtain⟨a9,c9,rfl,nX⟩:=fI (l:=O++[x]) rO sM (by have:=eO.out;simp;omega);have R9:=az nX.here;have N9:=az (nX.newAt.mono gQ);have uP:=az (pV.trans (FY.mono gQ));clear rO cF FY nX p0 p1 p2 p3;go_wp2
    go_ret2
    exact⟨O++[x],a9,c9,rfl,R9.out,by rw[vF.out];exact HF.out,uP.out,N9.out⟩
   ·have HF:=az (A5 HR.out);have gQ:=pV.size;obtain⟨a9,c9,rfl,nX⟩:=fI (l:=O) dk rfl (by have:=eO.out;omega);have R9:=az nX.here;have N9:=az (nX.newAt.mono gQ);have uP:=az (pV.trans (eF.out.mono gQ));clear HR dk nX p0 p1 p2 p3;go_wp2
    go_ret2
    exact⟨O,a9,c9,rfl,R9.out,by rw[vF.out];exact HF.out,uP.out,N9.out⟩
theorem SI(l:List Bf)(a:Option Addr)(c:Nat)(x:Bf)(hs:Array Value)(hz:hs.size=32)(B:Nat->Bool)(w:World)(hl:bw w a l)(G:kE l)(hB:∀i,i<32->hs[i]?=some (.bool (B i)))(h8:l.length=8)(hi:en (eR x.pl) l=-1)(hr:dy (ez false (kJ B)) l l.length=-1) :
 Calls prog 108 #[.slice a l.length c,x.val,.agg hs] w (rB (.tuple #[.slice none 0 0,i6 7]) w):=by
 have bC:=hl.2;have HI:=az hi;have IN:=az hr;have HH:=az hB;have H8:=az h8;have zE:(8:Int)<=(l.length:Int):=oM;have jm:Hid ((prog.info? 162).map (·.size)=some hs.toList.length):=(by rw[Hid,adk,hz];kernel_rfl)
 clear hi hr hB h8 hz;go_enter func108,ntmps108;go_wp2_with fail;refine cM (uE l a c x.pl _ (hl.later (ja _ _ _)) HI.out) ?_;intro w1 aw;have aU:bL w w1:=bQ;have vH:(w1.alloc (.cells #[i6 0,.string ⟨#[]⟩,.bool false,i6 0] 137)).rangeAt (w.heap.size+1) 0 hs.toList:=by
  have r0:=zi (w.alloc (.cells #[i6 x.pl,.string x.data,.bool x.bO,i6 x.used] 137)) hs 162;simp only[ab9] at r0;intro i v hv;exact af (aB w1 _) (af aw (r0 i v hv))
 have Tx:=az vH;have mf:=hl.later aU;clear aw vH;go_wp2_with(refine wpList_load_mid rfl 162 (.tmp 5) rfl (w.heap.size+1) 0 rfl hs.toList _ Tx.out underlying162 rfl jm.out ?_);refine cM (EF l a c false hs B _ (mf.later (aB _ _)) G HH.out _ IN.out) ?_;intro w2 aA;have cw:bL w w2:=bQ;clear aA;go_wp2
 go_ret2
 exact⟨rfl,cw⟩
theorem Pj(l:List Bf)(a:Option Addr)(c:Nat)(x:Bf)(hs:Array Value)(w:World)(hl:bw w a l)(G:kE l)(j:Nat)(hj:j<l.length)(hi:en (eR x.pl) l=j) :
 Calls prog 108 #[.slice a l.length c,x.val,.agg hs] w fun e w'=>∃M a' c',e=.returned (.tuple #[.slice a' M.length c',i6 0])/\bw w' a' M/\CM l x (-1) M/\bL w w'/\nC w.heap.size a' c' M.length:=by
 have bC:=hl.2;go_enter func108,ntmps108;go_wp2_with fail;refine cM (vt l a c x.pl _ (hl.later (ja _ _ _)) j hj hi) ?_;intro w1 aw;have aU:bL w w1:=bQ;have F1:iM w1 w.heap.size x:=iM.later (iM.later ⟨sM,sM,sM,sM⟩ (aB _ _)) aw;have mf:=hl.later aU;obtain⟨p0,p1,p2,p3⟩:=id F1;clear aw hi;go_wp2_with fail;have b2:=aB w1 (.cells #[i6 l[j].pl,.string l[j].data,.bool l[j].bO,i6 l[j].used] 137);have eh:=mf.later b2;have Fz:=F1.later b2;have pV:=ab aU b2;have G:=az G;clear b2 p0 p1 p2 p3 mf F1 aU;generalize AE:(-1:Int)=g;have vF:=az AE;clear AE;generalize Q2:w1.alloc (.cells #[i6 l[j].pl,.string l[j].data,.bool l[j].bO,i6 l[j].used] 137)=wz at eh Fz pV ⊢;clear Q2;obtain⟨ib,oD,dB,cP,cS⟩:=fi wE
 go_loopw[11,12,13] (fun out laid i wr=>∃(k:Nat) (O:List Bf) (b:Bool),k<=l.length/\i=i6 k/\laid=.bool b/\vK l x g k O b/\wr.ownsRow wz.heap.size 137 4 out O.length (aR O)/\bL wz wr) (fun _ _ i _=>l.length-(intOf i).toNat)
 case atStart=>exact⟨0,[],false,oM,rfl,rfl,FC _ _ _,acx _ _ _ _,aQ _ _⟩
 case round =>
  rename_i u11
  obtain⟨k,O,b,hk,rfl,rfl,hR,dk,iT⟩:=hrel;have HR:=az hR;have eF:=az iT;have QX:O.length<=2*l.length:=(by have:=hR.len;omega)
  have eO:Hid (O.length<=16):=(by have:=G.out.len;show O.length<=16;omega)
  clear hR iT QX
  by_cases aq:k<l.length
  ·have h0:l ≠ []:=by rintro rfl;exact absurd aq (acg _)
   obtain⟨b0,o0,rfl⟩:=eh.form.resolve_left h0;obtain⟨c0,c1,c2,c3⟩:=(eh.later eF.out).cells aq;obtain⟨p0,p1,p2,p3⟩:=Fz.later eF.out;have lc:=ao c0;have lx:=ao p0;clear h0;have Ux:=aq
   cases b
   ·by_cases hJ:x.pl<=l[k].pl
    ·by_cases bW:l[k].pl=x.pl
     ·have gq:=az (et G.out aq HR.out);have iZ:Hid (ch l x g k aq O false=O++[x]):=(by show ch l x g k aq O false=O++[x];unfold ch;rw[aca ⟨rfl,hJ⟩,ab6 (fun h=>h.1 bW)];simp)
      have hd:decide (x.pl<=l[k].pl)=true:=acf hJ;have dD:(l[k].pl==x.pl)=true:=(by rw[bW];simp)
      have mR:(l[k].pl != x.pl)=false:=(by simp[bne,dD])
      have mS:(!(l[k].pl==x.pl))=false:=(by simp[dD])
      have mT:decide (l[k].pl=x.pl)=true:=(by simpa using dD)
      have HD:=az hd;clear HR bW hJ;go_wp2_with fail;refine wQ ?_
      repeat(go_big_quiet_step (first|exact rfl|fail))
      refine qE ?_;(try clear hc hf hz);(try clear HB);intro p HB hc hf hz;clear hc hf hz;generalize p.v=wq1 at HB ⊢;have cC:=az (ab eF.out HB);have aK:=aF dk HB;clear HB c0 c1 c2 c3 p0 p1 p2 p3 lc lx eF dk;obtain⟨c0,c1,c2,c3⟩:=(eh.later cC.out).cells aq;obtain⟨p0,p1,p2,p3⟩:=Fz.later cC.out;have lc:=ao c0;have lx:=ao p0;have eB:=az aK;have nH:=cC.out.size;go_wp2_with(at_builtin;refine aO rfl _ _ 91 rfl wz.heap.size 137 ib _ 4 40 underlying91 oD dB cP cS rfl dM _ O.length (aR O) rfl (aF eB.out (aB _ _)) (some ⟨wq1.heap.size,0,none⟩) 1 1 (aR [x]) rfl (iJ x wq1) (by unfold maxLen;have:=eO.out;omega) (by have:=eO.out;omega) (by simp only[ab9];omega) ?_;intro v2 Bk aT cF);have cO:=az (cC.out.trans (((aB wq1 _).mono oM).trans cF));clear cF c0 c1 c2 c3 p0 p1 p2 p3 lc lx eB cC aK nH;obtain⟨c0,c1,c2,c3⟩:=(eh.later cO.out).cells aq;obtain⟨p0,p1,p2,p3⟩:=Fz.later cO.out;have lc:=ao c0;have lx:=ao p0;go_wp2_with fail;refine wQ ?_
      repeat(go_big_quiet_step (first|exact rfl|fail))
      refine qE ?_;(try clear hc hf hz);(try clear HB);intro p HB hc hf hz;clear hc hf hz;generalize p.v=wq2 at HB ⊢;have eV:=az (ab cO.out HB);have bF:=aF aT HB;clear HB c0 c1 c2 c3 p0 p1 p2 p3 lc lx cO aT;obtain⟨c0,c1,c2,c3⟩:=(eh.later eV.out).cells aq;obtain⟨p0,p1,p2,p3⟩:=Fz.later eV.out;have lc:=ao c0;have lx:=ao p0;have fu:=az bF;clear bF;go_wp2;go_roundw
      case rel=>exact⟨k+1,O++[x],true,oM,gN,rfl,by have h:=gq.out;rw[iZ.out,HD.out] at h;exact h,by have h:=fu.out;(try simp only[ab7,acu,cc]);exact h,eV.out⟩
      case measure=>simp[intOf];omega
     ·by_cases fm:(k:Int)=g
      ·have gq:=az (et G.out aq HR.out);have iZ:Hid (ch l x g k aq O false=O++[x]):=(by show ch l x g k aq O false=O++[x];unfold ch;rw[aca ⟨rfl,hJ⟩,ab6 (fun h=>h.2 fm)];simp)
       have hd:decide (x.pl<=l[k].pl)=true:=acf hJ;have dD:(l[k].pl==x.pl)=false:=(by rw[ab8];exact bW)
       have mR:(l[k].pl != x.pl)=true:=(by simp[bne,dD])
       have mS:(!(l[k].pl==x.pl))=true:=(by simp[dD])
       have mT:decide (l[k].pl=x.pl)=false:=(by simpa using dD)
       have dL:((k:Int)==g)=true:=(by rw[fm];simp)
       have oV:((k:Int) != g)=false:=(by simp[bne,dL])
       have oW:(!((k:Int)==g))=false:=(by simp[dL])
       have oX:decide ((k:Int)=g)=true:=(by simpa using dL)
       have HD:=az hd;clear bW fm HR hJ;go_wp2_with fail;refine wQ ?_
       repeat(go_big_quiet_step (first|exact rfl|fail))
       refine qE ?_;(try clear hc hf hz);(try clear HB);intro p HB hc hf hz;clear hc hf hz;generalize p.v=wq1 at HB ⊢;have cC:=az (ab eF.out HB);have aK:=aF dk HB;clear HB c0 c1 c2 c3 p0 p1 p2 p3 lc lx eF dk;obtain⟨c0,c1,c2,c3⟩:=(eh.later cC.out).cells aq;obtain⟨p0,p1,p2,p3⟩:=Fz.later cC.out;have lc:=ao c0;have lx:=ao p0;have eB:=az aK;have nH:=cC.out.size;go_wp2_with(at_builtin;refine aO rfl _ _ 91 rfl wz.heap.size 137 ib _ 4 40 underlying91 oD dB cP cS rfl dM _ O.length (aR O) rfl (aF eB.out (aB _ _)) (some ⟨wq1.heap.size,0,none⟩) 1 1 (aR [x]) rfl (iJ x wq1) (by unfold maxLen;have:=eO.out;omega) (by have:=eO.out;omega) (by simp only[ab9];omega) ?_;intro v2 Bk aT cF);have cO:=az (cC.out.trans (((aB wq1 _).mono oM).trans cF));clear cF c0 c1 c2 c3 p0 p1 p2 p3 lc lx eB cC aK nH;obtain⟨c0,c1,c2,c3⟩:=(eh.later cO.out).cells aq;obtain⟨p0,p1,p2,p3⟩:=Fz.later cO.out;have lc:=ao c0;have lx:=ao p0;go_wp2_with fail;refine wQ ?_
       repeat(go_big_quiet_step (first|exact rfl|fail))
       refine qE ?_;(try clear hc hf hz);(try clear HB);intro p HB hc hf hz;clear hc hf hz;generalize p.v=wq2 at HB ⊢;have eV:=az (ab cO.out HB);have bF:=aF aT HB;clear HB c0 c1 c2 c3 p0 p1 p2 p3 lc lx cO aT;obtain⟨c0,c1,c2,c3⟩:=(eh.later eV.out).cells aq;obtain⟨p0,p1,p2,p3⟩:=Fz.later eV.out;have lc:=ao c0;have lx:=ao p0;have fu:=az bF;clear bF;go_wp2;go_roundw
       case rel=>exact⟨k+1,O++[x],true,oM,gN,rfl,by have h:=gq.out;rw[iZ.out,HD.out] at h;exact h,by have h:=fu.out;(try simp only[ab7,acu,cc]);exact h,eV.out⟩
       case measure=>simp[intOf];omega
      ·have gq:=az (et G.out aq HR.out);have iZ:Hid (ch l x g k aq O false=O++[x]++[l[k]]):=(by show ch l x g k aq O false=O++[x]++[l[k]];unfold ch;rw[aca ⟨rfl,hJ⟩,aca ⟨bW,fm⟩])
       have hd:decide (x.pl<=l[k].pl)=true:=acf hJ;have dD:(l[k].pl==x.pl)=false:=(by rw[ab8];exact bW)
       have mR:(l[k].pl != x.pl)=true:=(by simp[bne,dD])
       have mS:(!(l[k].pl==x.pl))=true:=(by simp[dD])
       have mT:decide (l[k].pl=x.pl)=false:=(by simpa using dD)
       have dL:((k:Int)==g)=false:=(by rw[ab8];exact fm)
       have oV:((k:Int) != g)=true:=(by simp[bne,dL])
       have oW:(!((k:Int)==g))=true:=(by simp[dL])
       have oX:decide ((k:Int)=g)=false:=(by simpa using dL)
       have HD:=az hd;clear bW fm HR hJ;go_wp2_with fail;refine wQ ?_
       repeat(go_big_quiet_step (first|exact rfl|fail))
       refine qE ?_;(try clear hc hf hz);(try clear HB);intro p HB hc hf hz;clear hc hf hz;generalize p.v=wq1 at HB ⊢;have cC:=az (ab eF.out HB);have aK:=aF dk HB;clear HB c0 c1 c2 c3 p0 p1 p2 p3 lc lx eF dk;obtain⟨c0,c1,c2,c3⟩:=(eh.later cC.out).cells aq;obtain⟨p0,p1,p2,p3⟩:=Fz.later cC.out;have lc:=ao c0;have lx:=ao p0;have eB:=az aK;have nH:=cC.out.size;go_wp2_with(at_builtin;refine aO rfl _ _ 91 rfl wz.heap.size 137 ib _ 4 40 underlying91 oD dB cP cS rfl dM _ O.length (aR O) rfl (aF eB.out (aB _ _)) (some ⟨wq1.heap.size,0,none⟩) 1 1 (aR [x]) rfl (iJ x wq1) (by unfold maxLen;have:=eO.out;omega) (by have:=eO.out;omega) (by simp only[ab9];omega) ?_;intro v2 Bk aT cF);have cO:=az (cC.out.trans (((aB wq1 _).mono oM).trans cF));clear cF c0 c1 c2 c3 p0 p1 p2 p3 lc lx eB cC aK nH;obtain⟨c0,c1,c2,c3⟩:=(eh.later cO.out).cells aq;obtain⟨p0,p1,p2,p3⟩:=Fz.later cO.out;have lc:=ao c0;have lx:=ao p0;go_wp2_with fail;refine wQ ?_
       repeat(go_big_quiet_step (first|exact rfl|fail))
       refine qE ?_;(try clear hc hf hz);(try clear HB);intro p HB hc hf hz;clear hc hf hz;generalize p.v=wq2 at HB ⊢;have eV:=az (ab cO.out HB);have bF:=aF aT HB;clear HB c0 c1 c2 c3 p0 p1 p2 p3 lc lx cO aT;obtain⟨c0,c1,c2,c3⟩:=(eh.later eV.out).cells aq;obtain⟨p0,p1,p2,p3⟩:=Fz.later eV.out;have lc:=ao c0;have lx:=ao p0;have FX:=az bF;have JP:=eV.out.size;go_wp2_with(at_builtin;refine aO rfl _ _ 91 rfl wz.heap.size 137 ib _ 4 40 underlying91 oD dB cP cS rfl dM _ (O.length+1) (aR O++aR [x]) rfl (aF FX.out (aB _ _)) (some ⟨wq2.heap.size,0,none⟩) 1 1 (aR [l[k]]) rfl (iJ l[k] wq2) (by unfold maxLen;have:=eO.out;omega) (by have:=eO.out;omega) (by simp only[ab9];omega) ?_;intro v4 Bl rN cF);have vI:=az (eV.out.trans (((aB wq2 _).mono oM).trans cF));clear cF c0 c1 c2 c3 p0 p1 p2 p3 lc lx FX eV bF JP;obtain⟨c0,c1,c2,c3⟩:=(eh.later vI.out).cells aq;obtain⟨p0,p1,p2,p3⟩:=Fz.later vI.out;have lc:=ao c0;have lx:=ao p0;have fu:=az rN;clear rN;go_wp2;go_roundw
       case rel=>exact⟨k+1,O++[x]++[l[k]],true,oM,gN,rfl,by have h:=gq.out;rw[iZ.out,HD.out] at h;exact h,by have h:=fu.out;(try simp only[ab7,acu,cc]);exact h,vI.out⟩
       case measure=>simp[intOf];omega
    ·have bW:¬l[k].pl=x.pl:=oM
     by_cases fm:(k:Int)=g
     ·have gq:=az (et G.out aq HR.out);have iZ:Hid (ch l x g k aq O false=O):=(by show ch l x g k aq O false=O;unfold ch;rw[ab6 (fun h=>hJ h.2),ab6 (fun h=>h.2 fm)];simp)
      have hd:decide (x.pl<=l[k].pl)=false:=aci hJ;have dD:(l[k].pl==x.pl)=false:=(by rw[ab8];exact bW)
      have mR:(l[k].pl != x.pl)=true:=(by simp[bne,dD])
      have mS:(!(l[k].pl==x.pl))=true:=(by simp[dD])
      have mT:decide (l[k].pl=x.pl)=false:=(by simpa using dD)
      have dL:((k:Int)==g)=true:=(by rw[fm];simp)
      have oV:((k:Int) != g)=false:=(by simp[bne,dL])
      have oW:(!((k:Int)==g))=false:=(by simp[dL])
      have oX:decide ((k:Int)=g)=true:=(by simpa using dL)
      have HD:=az hd;clear bW fm HR hJ;go_wp2_with fail;refine wQ ?_
      repeat(go_big_quiet_step (first|exact rfl|fail))
      refine qE ?_;(try clear hc hf hz);(try clear HB);intro p HB hc hf hz;clear hc hf hz;generalize p.v=wq1 at HB ⊢;have cC:=az (ab eF.out HB);have aK:=aF dk HB;clear HB c0 c1 c2 c3 p0 p1 p2 p3 lc lx eF dk;obtain⟨c0,c1,c2,c3⟩:=(eh.later cC.out).cells aq;obtain⟨p0,p1,p2,p3⟩:=Fz.later cC.out;have lc:=ao c0;have lx:=ao p0;go_wp2_with fail;refine wQ ?_
      repeat(go_big_quiet_step (first|exact rfl|fail))
      refine qE ?_;(try clear hc hf hz);(try clear HB);intro p HB hc hf hz;clear hc hf hz;generalize p.v=wq2 at HB ⊢;have cO:=az (ab cC.out HB);have aT:=aF aK HB;clear HB c0 c1 c2 c3 p0 p1 p2 p3 lc lx cC aK;obtain⟨c0,c1,c2,c3⟩:=(eh.later cO.out).cells aq;obtain⟨p0,p1,p2,p3⟩:=Fz.later cO.out;have lc:=ao c0;have lx:=ao p0;have fu:=az aT;clear aT;go_wp2;go_roundw
      case rel=>exact⟨k+1,O,false,oM,gN,rfl,by have h:=gq.out;rw[iZ.out,HD.out] at h;exact h,by have h:=fu.out;(try simp only[ab7,acu,cc]);exact h,cO.out⟩
      case measure=>simp[intOf];omega
     ·have gq:=az (et G.out aq HR.out);have iZ:Hid (ch l x g k aq O false=O++[l[k]]):=(by show ch l x g k aq O false=O++[l[k]];unfold ch;rw[ab6 (fun h=>hJ h.2),aca ⟨bW,fm⟩];simp)
      have hd:decide (x.pl<=l[k].pl)=false:=aci hJ;have dD:(l[k].pl==x.pl)=false:=(by rw[ab8];exact bW)
      have mR:(l[k].pl != x.pl)=true:=(by simp[bne,dD])
      have mS:(!(l[k].pl==x.pl))=true:=(by simp[dD])
      have mT:decide (l[k].pl=x.pl)=false:=(by simpa using dD)
      have dL:((k:Int)==g)=false:=(by rw[ab8];exact fm)
      have oV:((k:Int) != g)=true:=(by simp[bne,dL])
      have oW:(!((k:Int)==g))=true:=(by simp[dL])
      have oX:decide ((k:Int)=g)=false:=(by simpa using dL)
      have HD:=az hd;clear bW fm HR hJ;go_wp2_with fail;refine wQ ?_
      repeat(go_big_quiet_step (first|exact rfl|fail))
      refine qE ?_;(try clear hc hf hz);(try clear HB);intro p HB hc hf hz;clear hc hf hz;generalize p.v=wq1 at HB ⊢;have cC:=az (ab eF.out HB);have aK:=aF dk HB;clear HB c0 c1 c2 c3 p0 p1 p2 p3 lc lx eF dk;obtain⟨c0,c1,c2,c3⟩:=(eh.later cC.out).cells aq;obtain⟨p0,p1,p2,p3⟩:=Fz.later cC.out;have lc:=ao c0;have lx:=ao p0;go_wp2_with fail;refine wQ ?_
      repeat(go_big_quiet_step (first|exact rfl|fail))
      refine qE ?_;(try clear hc hf hz);(try clear HB);intro p HB hc hf hz;clear hc hf hz;generalize p.v=wq2 at HB ⊢;have cO:=az (ab cC.out HB);have aT:=aF aK HB;clear HB c0 c1 c2 c3 p0 p1 p2 p3 lc lx cC aK;obtain⟨c0,c1,c2,c3⟩:=(eh.later cO.out).cells aq;obtain⟨p0,p1,p2,p3⟩:=Fz.later cO.out;have lc:=ao c0;have lx:=ao p0;have lX:=az aT;have sC:=cO.out.size;go_wp2_with(at_builtin;refine aO rfl _ _ 91 rfl wz.heap.size 137 ib _ 4 40 underlying91 oD dB cP cS rfl dM _ O.length (aR O) rfl (aF lX.out (aB _ _)) (some ⟨wq2.heap.size,0,none⟩) 1 1 (aR [l[k]]) rfl (iJ l[k] wq2) (by unfold maxLen;have:=eO.out;omega) (by have:=eO.out;omega) (by simp only[ab9];omega) ?_;intro v3 Bl bF cF);have eV:=az (cO.out.trans (((aB wq2 _).mono oM).trans cF));clear cF c0 c1 c2 c3 p0 p1 p2 p3 lc lx lX cO aT sC;obtain⟨c0,c1,c2,c3⟩:=(eh.later eV.out).cells aq;obtain⟨p0,p1,p2,p3⟩:=Fz.later eV.out;have lc:=ao c0;have lx:=ao p0;have fu:=az bF;clear bF;go_wp2;go_roundw
      case rel=>exact⟨k+1,O++[l[k]],false,oM,gN,rfl,by have h:=gq.out;rw[iZ.out,HD.out] at h;exact h,by have h:=fu.out;(try simp only[ab7,acu,cc]);exact h,eV.out⟩
      case measure=>simp[intOf];omega
   ·have bW:¬l[k].pl=x.pl:=(by have:=HR.out.yes rfl k aq (ab5 _);omega)
    by_cases fm:(k:Int)=g
    ·have gq:=az (et G.out aq HR.out);have iZ:Hid (ch l x g k aq O true=O):=(by show ch l x g k aq O true=O;unfold ch;rw[ab6 sM,ab6 (fun h=>h.2 fm)];simp)
     have hd:decide (x.pl<=l[k].pl)=true:=acf (aey (HR.out.yes rfl k aq (ab5 _)));have dD:(l[k].pl==x.pl)=false:=(by rw[ab8];exact bW)
     have mR:(l[k].pl != x.pl)=true:=(by simp[bne,dD])
     have mS:(!(l[k].pl==x.pl))=true:=(by simp[dD])
     have mT:decide (l[k].pl=x.pl)=false:=(by simpa using dD)
     have dL:((k:Int)==g)=true:=(by rw[fm];simp)
     have oV:((k:Int) != g)=false:=(by simp[bne,dL])
     have oW:(!((k:Int)==g))=false:=(by simp[dL])
     have oX:decide ((k:Int)=g)=true:=(by simpa using dL)
     have HD:=az hd;clear bW fm HR hd;go_wp2_with fail;refine wQ ?_
     repeat(go_big_quiet_step (first|exact rfl|fail))
     refine qE ?_;(try clear hc hf hz);(try clear HB);intro p HB hc hf hz;clear hc hf hz;generalize p.v=wq1 at HB ⊢;have cC:=az (ab eF.out HB);have aK:=aF dk HB;clear HB c0 c1 c2 c3 p0 p1 p2 p3 lc lx eF dk;obtain⟨c0,c1,c2,c3⟩:=(eh.later cC.out).cells aq;obtain⟨p0,p1,p2,p3⟩:=Fz.later cC.out;have lc:=ao c0;have lx:=ao p0;go_wp2_with fail;refine wQ ?_
     repeat(go_big_quiet_step (first|exact rfl|fail))
     refine qE ?_;(try clear hc hf hz);(try clear HB);intro p HB hc hf hz;clear hc hf hz;generalize p.v=wq2 at HB ⊢;have cO:=az (ab cC.out HB);have aT:=aF aK HB;clear HB c0 c1 c2 c3 p0 p1 p2 p3 lc lx cC aK;obtain⟨c0,c1,c2,c3⟩:=(eh.later cO.out).cells aq;obtain⟨p0,p1,p2,p3⟩:=Fz.later cO.out;have lc:=ao c0;have lx:=ao p0;have fu:=az aT;clear aT;go_wp2;go_roundw
     case rel=>exact⟨k+1,O,true,oM,gN,rfl,by have h:=gq.out;rw[iZ.out,HD.out] at h;exact h,by have h:=fu.out;(try simp only[ab7,acu,cc]);exact h,cO.out⟩
     case measure=>simp[intOf];omega
    ·have gq:=az (et G.out aq HR.out);have iZ:Hid (ch l x g k aq O true=O++[l[k]]):=(by show ch l x g k aq O true=O++[l[k]];unfold ch;rw[ab6 sM,aca ⟨bW,fm⟩];simp)
     have hd:decide (x.pl<=l[k].pl)=true:=acf (aey (HR.out.yes rfl k aq (ab5 _)));have dD:(l[k].pl==x.pl)=false:=(by rw[ab8];exact bW)
     have mR:(l[k].pl != x.pl)=true:=(by simp[bne,dD])
     have mS:(!(l[k].pl==x.pl))=true:=(by simp[dD])
     have mT:decide (l[k].pl=x.pl)=false:=(by simpa using dD)
     have dL:((k:Int)==g)=false:=(by rw[ab8];exact fm)
     have oV:((k:Int) != g)=true:=(by simp[bne,dL])
     have oW:(!((k:Int)==g))=true:=(by simp[dL])
     have oX:decide ((k:Int)=g)=false:=(by simpa using dL)
     have HD:=az hd;clear bW fm HR hd;go_wp2_with fail;refine wQ ?_
     repeat(go_big_quiet_step (first|exact rfl|fail))
     refine qE ?_;(try clear hc hf hz);(try clear HB);intro p HB hc hf hz;clear hc hf hz;generalize p.v=wq1 at HB ⊢;have cC:=az (ab eF.out HB);have aK:=aF dk HB;clear HB c0 c1 c2 c3 p0 p1 p2 p3 lc lx eF dk;obtain⟨c0,c1,c2,c3⟩:=(eh.later cC.out).cells aq;obtain⟨p0,p1,p2,p3⟩:=Fz.later cC.out;have lc:=ao c0;have lx:=ao p0;go_wp2_with fail;refine wQ ?_
     repeat(go_big_quiet_step (first|exact rfl|fail))
     refine qE ?_;(try clear hc hf hz);(try clear HB);intro p HB hc hf hz;clear hc hf hz;generalize p.v=wq2 at HB ⊢;have cO:=az (ab cC.out HB);have aT:=aF aK HB;clear HB c0 c1 c2 c3 p0 p1 p2 p3 lc lx cC aK;obtain⟨c0,c1,c2,c3⟩:=(eh.later cO.out).cells aq;obtain⟨p0,p1,p2,p3⟩:=Fz.later cO.out;have lc:=ao c0;have lx:=ao p0;have lX:=az aT;have sC:=cO.out.size;go_wp2_with(at_builtin;refine aO rfl _ _ 91 rfl wz.heap.size 137 ib _ 4 40 underlying91 oD dB cP cS rfl dM _ O.length (aR O) rfl (aF lX.out (aB _ _)) (some ⟨wq2.heap.size,0,none⟩) 1 1 (aR [l[k]]) rfl (iJ l[k] wq2) (by unfold maxLen;have:=eO.out;omega) (by have:=eO.out;omega) (by simp only[ab9];omega) ?_;intro v3 Bl bF cF);have eV:=az (cO.out.trans (((aB wq2 _).mono oM).trans cF));clear cF c0 c1 c2 c3 p0 p1 p2 p3 lc lx lX cO aT sC;obtain⟨c0,c1,c2,c3⟩:=(eh.later eV.out).cells aq;obtain⟨p0,p1,p2,p3⟩:=Fz.later eV.out;have lc:=ao c0;have lx:=ao p0;have fu:=az bF;clear bF;go_wp2;go_roundw
     case rel=>exact⟨k+1,O++[l[k]],true,oM,gN,rfl,by have h:=gq.out;rw[iZ.out,HD.out] at h;exact h,by have h:=fu.out;(try simp only[ab7,acu,cc]);exact h,eV.out⟩
     case measure=>simp[intOf];omega
  ·obtain rfl:k=l.length:=oM;obtain⟨p0,p1,p2,p3⟩:=Fz.later eF.out;have lx:=ao p0
   cases b
   ·have HF:=az (Dc HR.out);have PZ:=az dk;have aaa:=eF.out.size;have gQ:=pV.size;clear HR dk;go_wp2_with(at_builtin;refine aO rfl _ _ 91 rfl wz.heap.size 137 ib _ 4 40 underlying91 oD dB cP cS rfl dM _ O.length (aR O) rfl (aF PZ.out (aB _ _)) (some ⟨wr.heap.size,0,none⟩) 1 1 (aR [x]) rfl (iJ x wr) (by unfold maxLen;have:=eO.out;omega) (by have:=eO.out;omega) (by simp only[ab9];omega) ?_;intro v1 w9 rO cF);have FY:bL wz w9:=eF.out.trans (((aB wr _).mono oM).trans cF);rw[<-cc] at rO;obtain⟨a9,c9,rfl,nX⟩:=fI (l:=O++[x]) rO sM (by have:=eO.out;simp;omega);have R9:=az nX.here;have N9:=az (nX.newAt.mono gQ);have uP:=az (pV.trans (FY.mono gQ));clear rO cF FY nX p0 p1 p2 p3;go_wp2
    go_ret2
    exact⟨O++[x],a9,c9,rfl,R9.out,by rw[vF.out];exact HF.out,uP.out,N9.out⟩
   ·have HF:=az (A5 HR.out);have gQ:=pV.size;obtain⟨a9,c9,rfl,nX⟩:=fI (l:=O) dk rfl (by have:=eO.out;omega);have R9:=az nX.here;have N9:=az (nX.newAt.mono gQ);have uP:=az (pV.trans (eF.out.mono gQ));clear HR dk nX p0 p1 p2 p3;go_wp2
    go_ret2
    exact⟨O,a9,c9,rfl,R9.out,by rw[vF.out];exact HF.out,uP.out,N9.out⟩
theorem Pk(l:List Bf)(a:Option Addr)(c:Nat)(x:Bf)(hs:Array Value)(w:World)(hl:bw w a l)(G:kE l)(h8:l.length<8)(hi:en (eR x.pl) l=-1) :
 Calls prog 108 #[.slice a l.length c,x.val,.agg hs] w fun e w'=>∃M a' c',e=.returned (.tuple #[.slice a' M.length c',i6 0])/\bw w' a' M/\CM l x (-1) M/\bL w w'/\nC w.heap.size a' c' M.length:=by
 have bC:=hl.2;have HI:=az hi;clear hi;have zE:¬(8:Int)<=(l.length:Int):=oM;go_enter func108,ntmps108;go_wp2_with fail;refine cM (uE l a c x.pl _ (hl.later (ja _ _ _)) HI.out) ?_;intro w1 aw;have aU:bL w w1:=bQ;have F1:iM w1 w.heap.size x:=iM.later (iM.later ⟨sM,sM,sM,sM⟩ (aB _ _)) aw;have mf:=hl.later aU;obtain⟨p0,p1,p2,p3⟩:=id F1;clear aw;go_wp2_with fail;have b2:=aB w1 (.cells #[i6 0,.string ⟨#[]⟩,.bool false,i6 0] 137);have eh:=mf.later b2;have Fz:=F1.later b2;have pV:=ab aU b2;have G:=az G;clear b2 p0 p1 p2 p3 mf F1 aU;generalize AE:(-1:Int)=g;have vF:=az AE;clear AE;generalize Q2:w1.alloc (.cells #[i6 0,.string ⟨#[]⟩,.bool false,i6 0] 137)=wz at eh Fz pV ⊢;clear Q2;obtain⟨ib,oD,dB,cP,cS⟩:=fi wE
 go_loopw[11,12,13] (fun out laid i wr=>∃(k:Nat) (O:List Bf) (b:Bool),k<=l.length/\i=i6 k/\laid=.bool b/\vK l x g k O b/\wr.ownsRow wz.heap.size 137 4 out O.length (aR O)/\bL wz wr) (fun _ _ i _=>l.length-(intOf i).toNat)
 case atStart=>exact⟨0,[],false,oM,rfl,rfl,FC _ _ _,acx _ _ _ _,aQ _ _⟩
 case round =>
  rename_i u11
  obtain⟨k,O,b,hk,rfl,rfl,hR,dk,iT⟩:=hrel;have HR:=az hR;have eF:=az iT;have QX:O.length<=2*l.length:=(by have:=hR.len;omega)
  have eO:Hid (O.length<=16):=(by have:=G.out.len;show O.length<=16;omega)
  clear hR iT QX
  by_cases aq:k<l.length
  ·have h0:l ≠ []:=by rintro rfl;exact absurd aq (acg _)
   obtain⟨b0,o0,rfl⟩:=eh.form.resolve_left h0;obtain⟨c0,c1,c2,c3⟩:=(eh.later eF.out).cells aq;obtain⟨p0,p1,p2,p3⟩:=Fz.later eF.out;have lc:=ao c0;have lx:=ao p0;clear h0;have Ux:=aq
   cases b
   ·by_cases hJ:x.pl<=l[k].pl
    ·by_cases bW:l[k].pl=x.pl
     ·have gq:=az (et G.out aq HR.out);have iZ:Hid (ch l x g k aq O false=O++[x]):=(by show ch l x g k aq O false=O++[x];unfold ch;rw[aca ⟨rfl,hJ⟩,ab6 (fun h=>h.1 bW)];simp)
      have hd:decide (x.pl<=l[k].pl)=true:=acf hJ;have dD:(l[k].pl==x.pl)=true:=(by rw[bW];simp)
      have mR:(l[k].pl != x.pl)=false:=(by simp[bne,dD])
      have mS:(!(l[k].pl==x.pl))=false:=(by simp[dD])
      have mT:decide (l[k].pl=x.pl)=true:=(by simpa using dD)
      have HD:=az hd;clear HR bW hJ;go_wp2_with fail;refine wQ ?_
      repeat(go_big_quiet_step (first|exact rfl|fail))
      refine qE ?_;(try clear hc hf hz);(try clear HB);intro p HB hc hf hz;clear hc hf hz;generalize p.v=wq1 at HB ⊢;have cC:=az (ab eF.out HB);have aK:=aF dk HB;clear HB c0 c1 c2 c3 p0 p1 p2 p3 lc lx eF dk;obtain⟨c0,c1,c2,c3⟩:=(eh.later cC.out).cells aq;obtain⟨p0,p1,p2,p3⟩:=Fz.later cC.out;have lc:=ao c0;have lx:=ao p0;have eB:=az aK;have nH:=cC.out.size;go_wp2_with(at_builtin;refine aO rfl _ _ 91 rfl wz.heap.size 137 ib _ 4 40 underlying91 oD dB cP cS rfl dM _ O.length (aR O) rfl (aF eB.out (aB _ _)) (some ⟨wq1.heap.size,0,none⟩) 1 1 (aR [x]) rfl (iJ x wq1) (by unfold maxLen;have:=eO.out;omega) (by have:=eO.out;omega) (by simp only[ab9];omega) ?_;intro v2 Bk aT cF);have cO:=az (cC.out.trans (((aB wq1 _).mono oM).trans cF));clear cF c0 c1 c2 c3 p0 p1 p2 p3 lc lx eB cC aK nH;obtain⟨c0,c1,c2,c3⟩:=(eh.later cO.out).cells aq;obtain⟨p0,p1,p2,p3⟩:=Fz.later cO.out;have lc:=ao c0;have lx:=ao p0;go_wp2_with fail;refine wQ ?_
      repeat(go_big_quiet_step (first|exact rfl|fail))
      refine qE ?_;(try clear hc hf hz);(try clear HB);intro p HB hc hf hz;clear hc hf hz;generalize p.v=wq2 at HB ⊢;have eV:=az (ab cO.out HB);have bF:=aF aT HB;clear HB c0 c1 c2 c3 p0 p1 p2 p3 lc lx cO aT;obtain⟨c0,c1,c2,c3⟩:=(eh.later eV.out).cells aq;obtain⟨p0,p1,p2,p3⟩:=Fz.later eV.out;have lc:=ao c0;have lx:=ao p0;have fu:=az bF;clear bF;go_wp2;go_roundw
      case rel=>exact⟨k+1,O++[x],true,oM,gN,rfl,by have h:=gq.out;rw[iZ.out,HD.out] at h;exact h,by have h:=fu.out;(try simp only[ab7,acu,cc]);exact h,eV.out⟩
      case measure=>simp[intOf];omega
     ·by_cases fm:(k:Int)=g
      ·have gq:=az (et G.out aq HR.out);have iZ:Hid (ch l x g k aq O false=O++[x]):=(by show ch l x g k aq O false=O++[x];unfold ch;rw[aca ⟨rfl,hJ⟩,ab6 (fun h=>h.2 fm)];simp)
       have hd:decide (x.pl<=l[k].pl)=true:=acf hJ;have dD:(l[k].pl==x.pl)=false:=(by rw[ab8];exact bW)
       have mR:(l[k].pl != x.pl)=true:=(by simp[bne,dD])
       have mS:(!(l[k].pl==x.pl))=true:=(by simp[dD])
       have mT:decide (l[k].pl=x.pl)=false:=(by simpa using dD)
       have dL:((k:Int)==g)=true:=(by rw[fm];simp)
       have oV:((k:Int) != g)=false:=(by simp[bne,dL])
       have oW:(!((k:Int)==g))=false:=(by simp[dL])
       have oX:decide ((k:Int)=g)=true:=(by simpa using dL)
       have HD:=az hd;clear bW fm HR hJ;go_wp2_with fail;refine wQ ?_
       repeat(go_big_quiet_step (first|exact rfl|fail))
       refine qE ?_;(try clear hc hf hz);(try clear HB);intro p HB hc hf hz;clear hc hf hz;generalize p.v=wq1 at HB ⊢;have cC:=az (ab eF.out HB);have aK:=aF dk HB;clear HB c0 c1 c2 c3 p0 p1 p2 p3 lc lx eF dk;obtain⟨c0,c1,c2,c3⟩:=(eh.later cC.out).cells aq;obtain⟨p0,p1,p2,p3⟩:=Fz.later cC.out;have lc:=ao c0;have lx:=ao p0;have eB:=az aK;have nH:=cC.out.size;go_wp2_with(at_builtin;refine aO rfl _ _ 91 rfl wz.heap.size 137 ib _ 4 40 underlying91 oD dB cP cS rfl dM _ O.length (aR O) rfl (aF eB.out (aB _ _)) (some ⟨wq1.heap.size,0,none⟩) 1 1 (aR [x]) rfl (iJ x wq1) (by unfold maxLen;have:=eO.out;omega) (by have:=eO.out;omega) (by simp only[ab9];omega) ?_;intro v2 Bk aT cF);have cO:=az (cC.out.trans (((aB wq1 _).mono oM).trans cF));clear cF c0 c1 c2 c3 p0 p1 p2 p3 lc lx eB cC aK nH;obtain⟨c0,c1,c2,c3⟩:=(eh.later cO.out).cells aq;obtain⟨p0,p1,p2,p3⟩:=Fz.later cO.out;have lc:=ao c0;have lx:=ao p0;go_wp2_with fail;refine wQ ?_
       repeat(go_big_quiet_step (first|exact rfl|fail))
       refine qE ?_;(try clear hc hf hz);(try clear HB);intro p HB hc hf hz;clear hc hf hz;generalize p.v=wq2 at HB ⊢;have eV:=az (ab cO.out HB);have bF:=aF aT HB;clear HB c0 c1 c2 c3 p0 p1 p2 p3 lc lx cO aT;obtain⟨c0,c1,c2,c3⟩:=(eh.later eV.out).cells aq;obtain⟨p0,p1,p2,p3⟩:=Fz.later eV.out;have lc:=ao c0;have lx:=ao p0;have fu:=az bF;clear bF;go_wp2;go_roundw
       case rel=>exact⟨k+1,O++[x],true,oM,gN,rfl,by have h:=gq.out;rw[iZ.out,HD.out] at h;exact h,by have h:=fu.out;(try simp only[ab7,acu,cc]);exact h,eV.out⟩
       case measure=>simp[intOf];omega
      ·have gq:=az (et G.out aq HR.out);have iZ:Hid (ch l x g k aq O false=O++[x]++[l[k]]):=(by show ch l x g k aq O false=O++[x]++[l[k]];unfold ch;rw[aca ⟨rfl,hJ⟩,aca ⟨bW,fm⟩])
       have hd:decide (x.pl<=l[k].pl)=true:=acf hJ;have dD:(l[k].pl==x.pl)=false:=(by rw[ab8];exact bW)
       have mR:(l[k].pl != x.pl)=true:=(by simp[bne,dD])
       have mS:(!(l[k].pl==x.pl))=true:=(by simp[dD])
       have mT:decide (l[k].pl=x.pl)=false:=(by simpa using dD)
       have dL:((k:Int)==g)=false:=(by rw[ab8];exact fm)
       have oV:((k:Int) != g)=true:=(by simp[bne,dL])
       have oW:(!((k:Int)==g))=true:=(by simp[dL])
       have oX:decide ((k:Int)=g)=false:=(by simpa using dL)
       have HD:=az hd;clear bW fm HR hJ;go_wp2_with fail;refine wQ ?_
       repeat(go_big_quiet_step (first|exact rfl|fail))
       refine qE ?_;(try clear hc hf hz);(try clear HB);intro p HB hc hf hz;clear hc hf hz;generalize p.v=wq1 at HB ⊢;have cC:=az (ab eF.out HB);have aK:=aF dk HB;clear HB c0 c1 c2 c3 p0 p1 p2 p3 lc lx eF dk;obtain⟨c0,c1,c2,c3⟩:=(eh.later cC.out).cells aq;obtain⟨p0,p1,p2,p3⟩:=Fz.later cC.out;have lc:=ao c0;have lx:=ao p0;have eB:=az aK;have nH:=cC.out.size;go_wp2_with(at_builtin;refine aO rfl _ _ 91 rfl wz.heap.size 137 ib _ 4 40 underlying91 oD dB cP cS rfl dM _ O.length (aR O) rfl (aF eB.out (aB _ _)) (some ⟨wq1.heap.size,0,none⟩) 1 1 (aR [x]) rfl (iJ x wq1) (by unfold maxLen;have:=eO.out;omega) (by have:=eO.out;omega) (by simp only[ab9];omega) ?_;intro v2 Bk aT cF);have cO:=az (cC.out.trans (((aB wq1 _).mono oM).trans cF));clear cF c0 c1 c2 c3 p0 p1 p2 p3 lc lx eB cC aK nH;obtain⟨c0,c1,c2,c3⟩:=(eh.later cO.out).cells aq;obtain⟨p0,p1,p2,p3⟩:=Fz.later cO.out;have lc:=ao c0;have lx:=ao p0;go_wp2_with fail;refine wQ ?_
       repeat(go_big_quiet_step (first|exact rfl|fail))
       refine qE ?_;(try clear hc hf hz);(try clear HB);intro p HB hc hf hz;clear hc hf hz;generalize p.v=wq2 at HB ⊢;have eV:=az (ab cO.out HB);have bF:=aF aT HB;clear HB c0 c1 c2 c3 p0 p1 p2 p3 lc lx cO aT;obtain⟨c0,c1,c2,c3⟩:=(eh.later eV.out).cells aq;obtain⟨p0,p1,p2,p3⟩:=Fz.later eV.out;have lc:=ao c0;have lx:=ao p0;have FX:=az bF;have JP:=eV.out.size;go_wp2_with(at_builtin;refine aO rfl _ _ 91 rfl wz.heap.size 137 ib _ 4 40 underlying91 oD dB cP cS rfl dM _ (O.length+1) (aR O++aR [x]) rfl (aF FX.out (aB _ _)) (some ⟨wq2.heap.size,0,none⟩) 1 1 (aR [l[k]]) rfl (iJ l[k] wq2) (by unfold maxLen;have:=eO.out;omega) (by have:=eO.out;omega) (by simp only[ab9];omega) ?_;intro v4 Bl rN cF);have vI:=az (eV.out.trans (((aB wq2 _).mono oM).trans cF));clear cF c0 c1 c2 c3 p0 p1 p2 p3 lc lx FX eV bF JP;obtain⟨c0,c1,c2,c3⟩:=(eh.later vI.out).cells aq;obtain⟨p0,p1,p2,p3⟩:=Fz.later vI.out;have lc:=ao c0;have lx:=ao p0;have fu:=az rN;clear rN;go_wp2;go_roundw
       case rel=>exact⟨k+1,O++[x]++[l[k]],true,oM,gN,rfl,by have h:=gq.out;rw[iZ.out,HD.out] at h;exact h,by have h:=fu.out;(try simp only[ab7,acu,cc]);exact h,vI.out⟩
       case measure=>simp[intOf];omega
    ·have bW:¬l[k].pl=x.pl:=oM
     by_cases fm:(k:Int)=g
     ·have gq:=az (et G.out aq HR.out);have iZ:Hid (ch l x g k aq O false=O):=(by show ch l x g k aq O false=O;unfold ch;rw[ab6 (fun h=>hJ h.2),ab6 (fun h=>h.2 fm)];simp)
      have hd:decide (x.pl<=l[k].pl)=false:=aci hJ;have dD:(l[k].pl==x.pl)=false:=(by rw[ab8];exact bW)
      have mR:(l[k].pl != x.pl)=true:=(by simp[bne,dD])
      have mS:(!(l[k].pl==x.pl))=true:=(by simp[dD])
      have mT:decide (l[k].pl=x.pl)=false:=(by simpa using dD)
      have dL:((k:Int)==g)=true:=(by rw[fm];simp)
      have oV:((k:Int) != g)=false:=(by simp[bne,dL])
      have oW:(!((k:Int)==g))=false:=(by simp[dL])
      have oX:decide ((k:Int)=g)=true:=(by simpa using dL)
      have HD:=az hd;clear bW fm HR hJ;go_wp2_with fail;refine wQ ?_
      repeat(go_big_quiet_step (first|exact rfl|fail))
      refine qE ?_;(try clear hc hf hz);(try clear HB);intro p HB hc hf hz;clear hc hf hz;generalize p.v=wq1 at HB ⊢;have cC:=az (ab eF.out HB);have aK:=aF dk HB;clear HB c0 c1 c2 c3 p0 p1 p2 p3 lc lx eF dk;obtain⟨c0,c1,c2,c3⟩:=(eh.later cC.out).cells aq;obtain⟨p0,p1,p2,p3⟩:=Fz.later cC.out;have lc:=ao c0;have lx:=ao p0;go_wp2_with fail;refine wQ ?_
      repeat(go_big_quiet_step (first|exact rfl|fail))
      refine qE ?_;(try clear hc hf hz);(try clear HB);intro p HB hc hf hz;clear hc hf hz;generalize p.v=wq2 at HB ⊢;have cO:=az (ab cC.out HB);have aT:=aF aK HB;clear HB c0 c1 c2 c3 p0 p1 p2 p3 lc lx cC aK;obtain⟨c0,c1,c2,c3⟩:=(eh.later cO.out).cells aq;obtain⟨p0,p1,p2,p3⟩:=Fz.later cO.out;have lc:=ao c0;have lx:=ao p0;have fu:=az aT;clear aT;go_wp2;go_roundw
      case rel=>exact⟨k+1,O,false,oM,gN,rfl,by have h:=gq.out;rw[iZ.out,HD.out] at h;exact h,by have h:=fu.out;(try simp only[ab7,acu,cc]);exact h,cO.out⟩
      case measure=>simp[intOf];omega
     ·have gq:=az (et G.out aq HR.out);have iZ:Hid (ch l x g k aq O false=O++[l[k]]):=(by show ch l x g k aq O false=O++[l[k]];unfold ch;rw[ab6 (fun h=>hJ h.2),aca ⟨bW,fm⟩];simp)
      have hd:decide (x.pl<=l[k].pl)=false:=aci hJ;have dD:(l[k].pl==x.pl)=false:=(by rw[ab8];exact bW)
      have mR:(l[k].pl != x.pl)=true:=(by simp[bne,dD])
      have mS:(!(l[k].pl==x.pl))=true:=(by simp[dD])
      have mT:decide (l[k].pl=x.pl)=false:=(by simpa using dD)
      have dL:((k:Int)==g)=false:=(by rw[ab8];exact fm)
      have oV:((k:Int) != g)=true:=(by simp[bne,dL])
      have oW:(!((k:Int)==g))=true:=(by simp[dL])
      have oX:decide ((k:Int)=g)=false:=(by simpa using dL)
      have HD:=az hd;clear bW fm HR hJ;go_wp2_with fail;refine wQ ?_
      repeat(go_big_quiet_step (first|exact rfl|fail))
      refine qE ?_;(try clear hc hf hz);(try clear HB);intro p HB hc hf hz;clear hc hf hz;generalize p.v=wq1 at HB ⊢;have cC:=az (ab eF.out HB);have aK:=aF dk HB;clear HB c0 c1 c2 c3 p0 p1 p2 p3 lc lx eF dk;obtain⟨c0,c1,c2,c3⟩:=(eh.later cC.out).cells aq;obtain⟨p0,p1,p2,p3⟩:=Fz.later cC.out;have lc:=ao c0;have lx:=ao p0;go_wp2_with fail;refine wQ ?_
      repeat(go_big_quiet_step (first|exact rfl|fail))
      refine qE ?_;(try clear hc hf hz);(try clear HB);intro p HB hc hf hz;clear hc hf hz;generalize p.v=wq2 at HB ⊢;have cO:=az (ab cC.out HB);have aT:=aF aK HB;clear HB c0 c1 c2 c3 p0 p1 p2 p3 lc lx cC aK;obtain⟨c0,c1,c2,c3⟩:=(eh.later cO.out).cells aq;obtain⟨p0,p1,p2,p3⟩:=Fz.later cO.out;have lc:=ao c0;have lx:=ao p0;have lX:=az aT;have sC:=cO.out.size;go_wp2_with(at_builtin;refine aO rfl _ _ 91 rfl wz.heap.size 137 ib _ 4 40 underlying91 oD dB cP cS rfl dM _ O.length (aR O) rfl (aF lX.out (aB _ _)) (some ⟨wq2.heap.size,0,none⟩) 1 1 (aR [l[k]]) rfl (iJ l[k] wq2) (by unfold maxLen;have:=eO.out;omega) (by have:=eO.out;omega) (by simp only[ab9];omega) ?_;intro v3 Bl bF cF);have eV:=az (cO.out.trans (((aB wq2 _).mono oM).trans cF));clear cF c0 c1 c2 c3 p0 p1 p2 p3 lc lx lX cO aT sC;obtain⟨c0,c1,c2,c3⟩:=(eh.later eV.out).cells aq;obtain⟨p0,p1,p2,p3⟩:=Fz.later eV.out;have lc:=ao c0;have lx:=ao p0;have fu:=az bF;clear bF;go_wp2;go_roundw
      case rel=>exact⟨k+1,O++[l[k]],false,oM,gN,rfl,by have h:=gq.out;rw[iZ.out,HD.out] at h;exact h,by have h:=fu.out;(try simp only[ab7,acu,cc]);exact h,eV.out⟩
      case measure=>simp[intOf];omega
   ·have bW:¬l[k].pl=x.pl:=(by have:=HR.out.yes rfl k aq (ab5 _);omega)
    by_cases fm:(k:Int)=g
    ·have gq:=az (et G.out aq HR.out);have iZ:Hid (ch l x g k aq O true=O):=(by show ch l x g k aq O true=O;unfold ch;rw[ab6 sM,ab6 (fun h=>h.2 fm)];simp)
     have hd:decide (x.pl<=l[k].pl)=true:=acf (aey (HR.out.yes rfl k aq (ab5 _)));have dD:(l[k].pl==x.pl)=false:=(by rw[ab8];exact bW)
     have mR:(l[k].pl != x.pl)=true:=(by simp[bne,dD])
     have mS:(!(l[k].pl==x.pl))=true:=(by simp[dD])
     have mT:decide (l[k].pl=x.pl)=false:=(by simpa using dD)
     have dL:((k:Int)==g)=true:=(by rw[fm];simp)
     have oV:((k:Int) != g)=false:=(by simp[bne,dL])
     have oW:(!((k:Int)==g))=false:=(by simp[dL])
     have oX:decide ((k:Int)=g)=true:=(by simpa using dL)
     have HD:=az hd;clear bW fm HR hd;go_wp2_with fail;refine wQ ?_
     repeat(go_big_quiet_step (first|exact rfl|fail))
     refine qE ?_;(try clear hc hf hz);(try clear HB);intro p HB hc hf hz;clear hc hf hz;generalize p.v=wq1 at HB ⊢;have cC:=az (ab eF.out HB);have aK:=aF dk HB;clear HB c0 c1 c2 c3 p0 p1 p2 p3 lc lx eF dk;obtain⟨c0,c1,c2,c3⟩:=(eh.later cC.out).cells aq;obtain⟨p0,p1,p2,p3⟩:=Fz.later cC.out;have lc:=ao c0;have lx:=ao p0;go_wp2_with fail;refine wQ ?_
     repeat(go_big_quiet_step (first|exact rfl|fail))
     refine qE ?_;(try clear hc hf hz);(try clear HB);intro p HB hc hf hz;clear hc hf hz;generalize p.v=wq2 at HB ⊢;have cO:=az (ab cC.out HB);have aT:=aF aK HB;clear HB c0 c1 c2 c3 p0 p1 p2 p3 lc lx cC aK;obtain⟨c0,c1,c2,c3⟩:=(eh.later cO.out).cells aq;obtain⟨p0,p1,p2,p3⟩:=Fz.later cO.out;have lc:=ao c0;have lx:=ao p0;have fu:=az aT;clear aT;go_wp2;go_roundw
     case rel=>exact⟨k+1,O,true,oM,gN,rfl,by have h:=gq.out;rw[iZ.out,HD.out] at h;exact h,by have h:=fu.out;(try simp only[ab7,acu,cc]);exact h,cO.out⟩
     case measure=>simp[intOf];omega
    ·have gq:=az (et G.out aq HR.out);have iZ:Hid (ch l x g k aq O true=O++[l[k]]):=(by show ch l x g k aq O true=O++[l[k]];unfold ch;rw[ab6 sM,aca ⟨bW,fm⟩];simp)
     have hd:decide (x.pl<=l[k].pl)=true:=acf (aey (HR.out.yes rfl k aq (ab5 _)));have dD:(l[k].pl==x.pl)=false:=(by rw[ab8];exact bW)
     have mR:(l[k].pl != x.pl)=true:=(by simp[bne,dD])
     have mS:(!(l[k].pl==x.pl))=true:=(by simp[dD])
     have mT:decide (l[k].pl=x.pl)=false:=(by simpa using dD)
     have dL:((k:Int)==g)=false:=(by rw[ab8];exact fm)
     have oV:((k:Int) != g)=true:=(by simp[bne,dL])
     have oW:(!((k:Int)==g))=true:=(by simp[dL])
     have oX:decide ((k:Int)=g)=false:=(by simpa using dL)
     have HD:=az hd;clear bW fm HR hd;go_wp2_with fail;refine wQ ?_
     repeat(go_big_quiet_step (first|exact rfl|fail))
     refine qE ?_;(try clear hc hf hz);(try clear HB);intro p HB hc hf hz;clear hc hf hz;generalize p.v=wq1 at HB ⊢;have cC:=az (ab eF.out HB);have aK:=aF dk HB;clear HB c0 c1 c2 c3 p0 p1 p2 p3 lc lx eF dk;obtain⟨c0,c1,c2,c3⟩:=(eh.later cC.out).cells aq;obtain⟨p0,p1,p2,p3⟩:=Fz.later cC.out;have lc:=ao c0;have lx:=ao p0;go_wp2_with fail;refine wQ ?_
     repeat(go_big_quiet_step (first|exact rfl|fail))
     refine qE ?_;(try clear hc hf hz);(try clear HB);intro p HB hc hf hz;clear hc hf hz;generalize p.v=wq2 at HB ⊢;have cO:=az (ab cC.out HB);have aT:=aF aK HB;clear HB c0 c1 c2 c3 p0 p1 p2 p3 lc lx cC aK;obtain⟨c0,c1,c2,c3⟩:=(eh.later cO.out).cells aq;obtain⟨p0,p1,p2,p3⟩:=Fz.later cO.out;have lc:=ao c0;have lx:=ao p0;have lX:=az aT;have sC:=cO.out.size;go_wp2_with(at_builtin;refine aO rfl _ _ 91 rfl wz.heap.size 137 ib _ 4 40 underlying91 oD dB cP cS rfl dM _ O.length (aR O) rfl (aF lX.out (aB _ _)) (some ⟨wq2.heap.size,0,none⟩) 1 1 (aR [l[k]]) rfl (iJ l[k] wq2) (by unfold maxLen;have:=eO.out;omega) (by have:=eO.out;omega) (by simp only[ab9];omega) ?_;intro v3 Bl bF cF);have eV:=az (cO.out.trans (((aB wq2 _).mono oM).trans cF));clear cF c0 c1 c2 c3 p0 p1 p2 p3 lc lx lX cO aT sC;obtain⟨c0,c1,c2,c3⟩:=(eh.later eV.out).cells aq;obtain⟨p0,p1,p2,p3⟩:=Fz.later eV.out;have lc:=ao c0;have lx:=ao p0;have fu:=az bF;clear bF;go_wp2;go_roundw
     case rel=>exact⟨k+1,O++[l[k]],true,oM,gN,rfl,by have h:=gq.out;rw[iZ.out,HD.out] at h;exact h,by have h:=fu.out;(try simp only[ab7,acu,cc]);exact h,eV.out⟩
     case measure=>simp[intOf];omega
  ·obtain rfl:k=l.length:=oM;obtain⟨p0,p1,p2,p3⟩:=Fz.later eF.out;have lx:=ao p0
   cases b
   ·have HF:=az (Dc HR.out);have PZ:=az dk;have aaa:=eF.out.size;have gQ:=pV.size;clear HR dk;go_wp2_with(at_builtin;refine aO rfl _ _ 91 rfl wz.heap.size 137 ib _ 4 40 underlying91 oD dB cP cS rfl dM _ O.length (aR O) rfl (aF PZ.out (aB _ _)) (some ⟨wr.heap.size,0,none⟩) 1 1 (aR [x]) rfl (iJ x wr) (by unfold maxLen;have:=eO.out;omega) (by have:=eO.out;omega) (by simp only[ab9];omega) ?_;intro v1 w9 rO cF);have FY:bL wz w9:=eF.out.trans (((aB wr _).mono oM).trans cF);rw[<-cc] at rO;obtain⟨a9,c9,rfl,nX⟩:=fI (l:=O++[x]) rO sM (by have:=eO.out;simp;omega);have R9:=az nX.here;have N9:=az (nX.newAt.mono gQ);have uP:=az (pV.trans (FY.mono gQ));clear rO cF FY nX p0 p1 p2 p3;go_wp2
    go_ret2
    exact⟨O++[x],a9,c9,rfl,R9.out,by rw[vF.out];exact HF.out,uP.out,N9.out⟩
   ·have HF:=az (A5 HR.out);have gQ:=pV.size;obtain⟨a9,c9,rfl,nX⟩:=fI (l:=O) dk rfl (by have:=eO.out;omega);have R9:=az nX.here;have N9:=az (nX.newAt.mono gQ);have uP:=az (pV.trans (eF.out.mono gQ));clear HR dk nX p0 p1 p2 p3;go_wp2
    go_ret2
    exact⟨O,a9,c9,rfl,R9.out,by rw[vF.out];exact HF.out,uP.out,N9.out⟩
end Go.Proofs.YtlhgjplipgandaaGreatDoor
