/- Joined texts: RPut3, RPutA, RStk6P. -/
import Derived.Test.YtlhgjplipgandaaGreatB28
set_option maxRecDepth 100000
set_option maxHeartbeats 8000000
set_option linter.unusedSimpArgs false
namespace Go.Proofs.YtlhgjplipgandaaGreat
open Go.RowKit Go.BigFrame
attribute [local go_sem] ze.cell ze.frozen
theorem znE(l:List Bf)(a:Option Addr)(c:Nat)(x:Bf)(hs:Array Value)(w:World)(hl:zB w a l)(G:zbq l)(h8:l.length<8)(hi:zap (plB x.pl) l=-1) :
  Calls Tryz.prog 69 #[.slice a l.length c,x.val,.agg hs] w fun e w'=>∃M a' c',e=.returned (.tuple #[.slice a' M.length c',.int .i64 0])∧zB w' a' M∧zhF l x (-1) M∧Below w.heap.size w w'∧zct w.heap.size a' c' M.length:=by
 have hb3:=hl.2;have HI:=zk hi;clear hi;have h8':¬(8:Int)≤(l.length:Int):=by omega
 go_enter Tryz.func69,Tryz.ntmps69;go_wp2_with fail;refine(zeC l a c x.pl _ (hl.later (zbm _ _ _)) HI.out).mono ?_;rintro e w1 ⟨rfl,hb1⟩;have HB1:Below w.heap.size w w1:=by(with_reducible repeat first|exact Below.refl _ _|refine zc ?_ _|refine zd ?_|refine bset' ?_ (by omega) _|refine zb ?_ (by assumption))
 have F1:zbh w1 w.heap.size x:=zbh.later (zbh.later ⟨by simp,by simp,by simp,by simp⟩ (zn _ _)) hb1;have hl1:=hl.later HB1;obtain⟨p0,p1,p2,p3⟩:=id F1;clear hb1;go_wp2_with fail;have b2:=zn w1 (.cells #[.int .i64 0,.string ⟨#[]⟩,.bool false,.int .i64 0] 97);have hlz:=hl1.later b2;have Fz:=F1.later b2;have HBz:=zb HB1 b2;have G:=zk G;clear b2 p0 p1 p2 p3 hl1 F1 HB1;generalize hgg:(-1:Int)=g;have HGG:=zk hgg;clear hgg;generalize hWz:w1.alloc (.cells #[.int .i64 0,.string ⟨#[]⟩,.bool false,.int .i64 0] 97)=wz at hlz Fz HBz ⊢;clear hWz;obtain⟨ib,hib,hz0,hz1,hz2⟩:=zaL ze5
 go_loopw[11,12,13] (fun out laid i wr=>∃(k:Nat) (O:List Bf) (b:Bool),k≤l.length∧i=.int .i64 k∧laid=.bool b∧zeS l x g k O b∧wr.ownsRow wz.heap.size 97 4 out O.length (zr O)∧Below wz.heap.size wz wr) (fun _ _ i _=>l.length-(intOf i).toNat)
 case atStart=>exact⟨0,[],false,by omega,rfl,rfl,zjg _ _ _,World.ownsRow_nil _ _ _ _,Below.refl _ _⟩
 case round =>
  rename_i u11
  obtain⟨k,O,b,hk,rfl,rfl,hR,hown0,hbr⟩:=hrel;have HR:=zk hR;have HT0:=zk hbr;have hOl:O.length≤2*l.length:=(by have:=hR.len;omega)
  have HLN:Hid (O.length≤16):=(by have:=G.out.len;show O.length≤16;omega)
  clear hR hbr hOl
  by_cases hlt:k<l.length
  ·have h0:l ≠ []:=by rintro rfl;exact absurd hlt (Nat.not_lt_zero _)
   obtain⟨b0,o0,rfl⟩:=hlz.form.resolve_left h0;obtain⟨c0,c1,c2,c3⟩:=(hlz.later HT0.out).cells hlt;obtain⟨p0,p1,p2,p3⟩:=Fz.later HT0.out;have lc:=zh c0;have lx:=zh p0;clear h0;have hlt0:=hlt
   cases b
   ·by_cases hxk:x.pl≤l[k].pl
    ·by_cases hpl:l[k].pl=x.pl
     ·have HN0:=zk (zaz G.out hlt HR.out);have HRL:Hid (zS l x g k hlt O false=O++[x]):=(by show zS l x g k hlt O false=O++[x];unfold zS;rw[if_pos ⟨rfl,hxk⟩,if_neg (fun h=>h.1 hpl)];simp)
      have hd:decide (x.pl≤l[k].pl)=true:=decide_eq_true hxk;have hq1:(l[k].pl==x.pl)=true:=(by rw[hpl];simp)
      have hq1b:(l[k].pl != x.pl)=false:=(by simp[bne,hq1])
      have hq1c:(!(l[k].pl==x.pl))=false:=(by simp[hq1])
      have hq1d:decide (l[k].pl=x.pl)=true:=(by simpa using hq1)
      have HD:=zk hd;clear HR hpl hxk;go_wp2_with fail;refine zj (by first|exact HB|exact zd HB|exact Below.refl _ _) (by kernel_rfl) (by kernel_rfl) ?_
      repeat(go_big_quiet_step (first|exact rfl|fail))
      refine wpQuiet_nil ?_;intro _ hw';obtain⟨p,hw''⟩:=hw';subst hw'';(try clear hc hf hz);(try clear HB);have HB:=p.below;obtain⟨hc,hf,hz⟩:=zu HB;clear hc hf hz;generalize p.v=wq1 at HB ⊢;have HT1:=zk (zb HT0.out HB);have hown1:=zm hown0 HB;clear HB c0 c1 c2 c3 p0 p1 p2 p3 lc lx HT0 hown0;obtain⟨c0,c1,c2,c3⟩:=(hlz.later HT1.out).cells hlt;obtain⟨p0,p1,p2,p3⟩:=Fz.later HT1.out;have lc:=zh c0;have lx:=zh p0;have HO2:=zk hown1;have hsz2:=HT1.out.size;go_wp2_with(at_builtin;refine zq rfl _ _ 56 rfl wz.heap.size 97 ib _ 4 40 Tryz.underlying56 hib hz0 hz1 hz2 rfl (by decide) _ O.length (zr O) rfl (zm HO2.out (zn _ _)) (some ⟨wq1.heap.size,0,none⟩) 1 1 (zr [x]) rfl (zbc x wq1) (by unfold maxLen;have:=HLN.out;omega) (by have:=HLN.out;omega) (by simp only[World.size_alloc];omega) ?_;intro v2 wq1b hown2 hbx);have HT2:=zk (HT1.out.trans (((zn wq1 _).mono (by omega)).trans hbx));clear hbx c0 c1 c2 c3 p0 p1 p2 p3 lc lx HO2 HT1 hown1 hsz2;obtain⟨c0,c1,c2,c3⟩:=(hlz.later HT2.out).cells hlt;obtain⟨p0,p1,p2,p3⟩:=Fz.later HT2.out;have lc:=zh c0;have lx:=zh p0;go_wp2_with fail;refine zj (by first|exact HB|exact zd HB|exact Below.refl _ _) (by kernel_rfl) (by kernel_rfl) ?_
      repeat(go_big_quiet_step (first|exact rfl|fail))
      refine wpQuiet_nil ?_;intro _ hw';obtain⟨p,hw''⟩:=hw';subst hw'';(try clear hc hf hz);(try clear HB);have HB:=p.below;obtain⟨hc,hf,hz⟩:=zu HB;clear hc hf hz;generalize p.v=wq2 at HB ⊢;have HT3:=zk (zb HT2.out HB);have hown3:=zm hown2 HB;clear HB c0 c1 c2 c3 p0 p1 p2 p3 lc lx HT2 hown2;obtain⟨c0,c1,c2,c3⟩:=(hlz.later HT3.out).cells hlt;obtain⟨p0,p1,p2,p3⟩:=Fz.later HT3.out;have lc:=zh c0;have lx:=zh p0;have HOF:=zk hown3;clear hown3;go_wp2;go_roundw
      case rel=>exact⟨k+1,O++[x],true,by omega,by go_num,rfl,by have h:=HN0.out;rw[HRL.out,HD.out] at h;exact h,by have h:=HOF.out;(try simp only[List.length_append,List.length_singleton,zO]);exact h,HT3.out⟩
      case measure=>simp[intOf];omega
     ·by_cases hkg:(k:Int)=g
      ·have HN0:=zk (zaz G.out hlt HR.out);have HRL:Hid (zS l x g k hlt O false=O++[x]):=(by show zS l x g k hlt O false=O++[x];unfold zS;rw[if_pos ⟨rfl,hxk⟩,if_neg (fun h=>h.2 hkg)];simp)
       have hd:decide (x.pl≤l[k].pl)=true:=decide_eq_true hxk;have hq1:(l[k].pl==x.pl)=false:=(by rw[beq_eq_false_iff_ne];exact hpl)
       have hq1b:(l[k].pl != x.pl)=true:=(by simp[bne,hq1])
       have hq1c:(!(l[k].pl==x.pl))=true:=(by simp[hq1])
       have hq1d:decide (l[k].pl=x.pl)=false:=(by simpa using hq1)
       have hq2:((k:Int)==g)=true:=(by rw[hkg];simp)
       have hq2b:((k:Int) != g)=false:=(by simp[bne,hq2])
       have hq2c:(!((k:Int)==g))=false:=(by simp[hq2])
       have hq2d:decide ((k:Int)=g)=true:=(by simpa using hq2)
       have HD:=zk hd;clear hpl hkg HR hxk;go_wp2_with fail;refine zj (by first|exact HB|exact zd HB|exact Below.refl _ _) (by kernel_rfl) (by kernel_rfl) ?_
       repeat(go_big_quiet_step (first|exact rfl|fail))
       refine wpQuiet_nil ?_;intro _ hw';obtain⟨p,hw''⟩:=hw';subst hw'';(try clear hc hf hz);(try clear HB);have HB:=p.below;obtain⟨hc,hf,hz⟩:=zu HB;clear hc hf hz;generalize p.v=wq1 at HB ⊢;have HT1:=zk (zb HT0.out HB);have hown1:=zm hown0 HB;clear HB c0 c1 c2 c3 p0 p1 p2 p3 lc lx HT0 hown0;obtain⟨c0,c1,c2,c3⟩:=(hlz.later HT1.out).cells hlt;obtain⟨p0,p1,p2,p3⟩:=Fz.later HT1.out;have lc:=zh c0;have lx:=zh p0;have HO2:=zk hown1;have hsz2:=HT1.out.size;go_wp2_with(at_builtin;refine zq rfl _ _ 56 rfl wz.heap.size 97 ib _ 4 40 Tryz.underlying56 hib hz0 hz1 hz2 rfl (by decide) _ O.length (zr O) rfl (zm HO2.out (zn _ _)) (some ⟨wq1.heap.size,0,none⟩) 1 1 (zr [x]) rfl (zbc x wq1) (by unfold maxLen;have:=HLN.out;omega) (by have:=HLN.out;omega) (by simp only[World.size_alloc];omega) ?_;intro v2 wq1b hown2 hbx);have HT2:=zk (HT1.out.trans (((zn wq1 _).mono (by omega)).trans hbx));clear hbx c0 c1 c2 c3 p0 p1 p2 p3 lc lx HO2 HT1 hown1 hsz2;obtain⟨c0,c1,c2,c3⟩:=(hlz.later HT2.out).cells hlt;obtain⟨p0,p1,p2,p3⟩:=Fz.later HT2.out;have lc:=zh c0;have lx:=zh p0;go_wp2_with fail;refine zj (by first|exact HB|exact zd HB|exact Below.refl _ _) (by kernel_rfl) (by kernel_rfl) ?_
       repeat(go_big_quiet_step (first|exact rfl|fail))
       refine wpQuiet_nil ?_;intro _ hw';obtain⟨p,hw''⟩:=hw';subst hw'';(try clear hc hf hz);(try clear HB);have HB:=p.below;obtain⟨hc,hf,hz⟩:=zu HB;clear hc hf hz;generalize p.v=wq2 at HB ⊢;have HT3:=zk (zb HT2.out HB);have hown3:=zm hown2 HB;clear HB c0 c1 c2 c3 p0 p1 p2 p3 lc lx HT2 hown2;obtain⟨c0,c1,c2,c3⟩:=(hlz.later HT3.out).cells hlt;obtain⟨p0,p1,p2,p3⟩:=Fz.later HT3.out;have lc:=zh c0;have lx:=zh p0;have HOF:=zk hown3;clear hown3;go_wp2;go_roundw
       case rel=>exact⟨k+1,O++[x],true,by omega,by go_num,rfl,by have h:=HN0.out;rw[HRL.out,HD.out] at h;exact h,by have h:=HOF.out;(try simp only[List.length_append,List.length_singleton,zO]);exact h,HT3.out⟩
       case measure=>simp[intOf];omega
      ·have HN0:=zk (zaz G.out hlt HR.out);have HRL:Hid (zS l x g k hlt O false=O++[x]++[l[k]]):=(by show zS l x g k hlt O false=O++[x]++[l[k]];unfold zS;rw[if_pos ⟨rfl,hxk⟩,if_pos ⟨hpl,hkg⟩])
       have hd:decide (x.pl≤l[k].pl)=true:=decide_eq_true hxk;have hq1:(l[k].pl==x.pl)=false:=(by rw[beq_eq_false_iff_ne];exact hpl)
       have hq1b:(l[k].pl != x.pl)=true:=(by simp[bne,hq1])
       have hq1c:(!(l[k].pl==x.pl))=true:=(by simp[hq1])
       have hq1d:decide (l[k].pl=x.pl)=false:=(by simpa using hq1)
       have hq2:((k:Int)==g)=false:=(by rw[beq_eq_false_iff_ne];exact hkg)
       have hq2b:((k:Int) != g)=true:=(by simp[bne,hq2])
       have hq2c:(!((k:Int)==g))=true:=(by simp[hq2])
       have hq2d:decide ((k:Int)=g)=false:=(by simpa using hq2)
       have HD:=zk hd;clear hpl hkg HR hxk;go_wp2_with fail;refine zj (by first|exact HB|exact zd HB|exact Below.refl _ _) (by kernel_rfl) (by kernel_rfl) ?_
       repeat(go_big_quiet_step (first|exact rfl|fail))
       refine wpQuiet_nil ?_;intro _ hw';obtain⟨p,hw''⟩:=hw';subst hw'';(try clear hc hf hz);(try clear HB);have HB:=p.below;obtain⟨hc,hf,hz⟩:=zu HB;clear hc hf hz;generalize p.v=wq1 at HB ⊢;have HT1:=zk (zb HT0.out HB);have hown1:=zm hown0 HB;clear HB c0 c1 c2 c3 p0 p1 p2 p3 lc lx HT0 hown0;obtain⟨c0,c1,c2,c3⟩:=(hlz.later HT1.out).cells hlt;obtain⟨p0,p1,p2,p3⟩:=Fz.later HT1.out;have lc:=zh c0;have lx:=zh p0;have HO2:=zk hown1;have hsz2:=HT1.out.size;go_wp2_with(at_builtin;refine zq rfl _ _ 56 rfl wz.heap.size 97 ib _ 4 40 Tryz.underlying56 hib hz0 hz1 hz2 rfl (by decide) _ O.length (zr O) rfl (zm HO2.out (zn _ _)) (some ⟨wq1.heap.size,0,none⟩) 1 1 (zr [x]) rfl (zbc x wq1) (by unfold maxLen;have:=HLN.out;omega) (by have:=HLN.out;omega) (by simp only[World.size_alloc];omega) ?_;intro v2 wq1b hown2 hbx);have HT2:=zk (HT1.out.trans (((zn wq1 _).mono (by omega)).trans hbx));clear hbx c0 c1 c2 c3 p0 p1 p2 p3 lc lx HO2 HT1 hown1 hsz2;obtain⟨c0,c1,c2,c3⟩:=(hlz.later HT2.out).cells hlt;obtain⟨p0,p1,p2,p3⟩:=Fz.later HT2.out;have lc:=zh c0;have lx:=zh p0;go_wp2_with fail;refine zj (by first|exact HB|exact zd HB|exact Below.refl _ _) (by kernel_rfl) (by kernel_rfl) ?_
       repeat(go_big_quiet_step (first|exact rfl|fail))
       refine wpQuiet_nil ?_;intro _ hw';obtain⟨p,hw''⟩:=hw';subst hw'';(try clear hc hf hz);(try clear HB);have HB:=p.below;obtain⟨hc,hf,hz⟩:=zu HB;clear hc hf hz;generalize p.v=wq2 at HB ⊢;have HT3:=zk (zb HT2.out HB);have hown3:=zm hown2 HB;clear HB c0 c1 c2 c3 p0 p1 p2 p3 lc lx HT2 hown2;obtain⟨c0,c1,c2,c3⟩:=(hlz.later HT3.out).cells hlt;obtain⟨p0,p1,p2,p3⟩:=Fz.later HT3.out;have lc:=zh c0;have lx:=zh p0;have HO4:=zk hown3;have hsz4:=HT3.out.size;go_wp2_with(at_builtin;refine zq rfl _ _ 56 rfl wz.heap.size 97 ib _ 4 40 Tryz.underlying56 hib hz0 hz1 hz2 rfl (by decide) _ (O.length+1) (zr O++zr [x]) rfl (zm HO4.out (zn _ _)) (some ⟨wq2.heap.size,0,none⟩) 1 1 (zr [l[k]]) rfl (zbc l[k] wq2) (by unfold maxLen;have:=HLN.out;omega) (by have:=HLN.out;omega) (by simp only[World.size_alloc];omega) ?_;intro v4 wq2b hown4 hbx);have HT4:=zk (HT3.out.trans (((zn wq2 _).mono (by omega)).trans hbx));clear hbx c0 c1 c2 c3 p0 p1 p2 p3 lc lx HO4 HT3 hown3 hsz4;obtain⟨c0,c1,c2,c3⟩:=(hlz.later HT4.out).cells hlt;obtain⟨p0,p1,p2,p3⟩:=Fz.later HT4.out;have lc:=zh c0;have lx:=zh p0;have HOF:=zk hown4;clear hown4;go_wp2;go_roundw
       case rel=>exact⟨k+1,O++[x]++[l[k]],true,by omega,by go_num,rfl,by have h:=HN0.out;rw[HRL.out,HD.out] at h;exact h,by have h:=HOF.out;(try simp only[List.length_append,List.length_singleton,zO]);exact h,HT4.out⟩
       case measure=>simp[intOf];omega
    ·have hpl:¬l[k].pl=x.pl:=(by omega)
     by_cases hkg:(k:Int)=g
     ·have HN0:=zk (zaz G.out hlt HR.out);have HRL:Hid (zS l x g k hlt O false=O):=(by show zS l x g k hlt O false=O;unfold zS;rw[if_neg (fun h=>hxk h.2),if_neg (fun h=>h.2 hkg)];simp)
      have hd:decide (x.pl≤l[k].pl)=false:=decide_eq_false hxk;have hq1:(l[k].pl==x.pl)=false:=(by rw[beq_eq_false_iff_ne];exact hpl)
      have hq1b:(l[k].pl != x.pl)=true:=(by simp[bne,hq1])
      have hq1c:(!(l[k].pl==x.pl))=true:=(by simp[hq1])
      have hq1d:decide (l[k].pl=x.pl)=false:=(by simpa using hq1)
      have hq2:((k:Int)==g)=true:=(by rw[hkg];simp)
      have hq2b:((k:Int) != g)=false:=(by simp[bne,hq2])
      have hq2c:(!((k:Int)==g))=false:=(by simp[hq2])
      have hq2d:decide ((k:Int)=g)=true:=(by simpa using hq2)
      have HD:=zk hd;clear hpl hkg HR hxk;go_wp2_with fail;refine zj (by first|exact HB|exact zd HB|exact Below.refl _ _) (by kernel_rfl) (by kernel_rfl) ?_
      repeat(go_big_quiet_step (first|exact rfl|fail))
      refine wpQuiet_nil ?_;intro _ hw';obtain⟨p,hw''⟩:=hw';subst hw'';(try clear hc hf hz);(try clear HB);have HB:=p.below;obtain⟨hc,hf,hz⟩:=zu HB;clear hc hf hz;generalize p.v=wq1 at HB ⊢;have HT1:=zk (zb HT0.out HB);have hown1:=zm hown0 HB;clear HB c0 c1 c2 c3 p0 p1 p2 p3 lc lx HT0 hown0;obtain⟨c0,c1,c2,c3⟩:=(hlz.later HT1.out).cells hlt;obtain⟨p0,p1,p2,p3⟩:=Fz.later HT1.out;have lc:=zh c0;have lx:=zh p0;go_wp2_with fail;refine zj (by first|exact HB|exact zd HB|exact Below.refl _ _) (by kernel_rfl) (by kernel_rfl) ?_
      repeat(go_big_quiet_step (first|exact rfl|fail))
      refine wpQuiet_nil ?_;intro _ hw';obtain⟨p,hw''⟩:=hw';subst hw'';(try clear hc hf hz);(try clear HB);have HB:=p.below;obtain⟨hc,hf,hz⟩:=zu HB;clear hc hf hz;generalize p.v=wq2 at HB ⊢;have HT2:=zk (zb HT1.out HB);have hown2:=zm hown1 HB;clear HB c0 c1 c2 c3 p0 p1 p2 p3 lc lx HT1 hown1;obtain⟨c0,c1,c2,c3⟩:=(hlz.later HT2.out).cells hlt;obtain⟨p0,p1,p2,p3⟩:=Fz.later HT2.out;have lc:=zh c0;have lx:=zh p0;have HOF:=zk hown2;clear hown2;go_wp2;go_roundw
      case rel=>exact⟨k+1,O,false,by omega,by go_num,rfl,by have h:=HN0.out;rw[HRL.out,HD.out] at h;exact h,by have h:=HOF.out;(try simp only[List.length_append,List.length_singleton,zO]);exact h,HT2.out⟩
      case measure=>simp[intOf];omega
     ·have HN0:=zk (zaz G.out hlt HR.out);have HRL:Hid (zS l x g k hlt O false=O++[l[k]]):=(by show zS l x g k hlt O false=O++[l[k]];unfold zS;rw[if_neg (fun h=>hxk h.2),if_pos ⟨hpl,hkg⟩];simp)
      have hd:decide (x.pl≤l[k].pl)=false:=decide_eq_false hxk;have hq1:(l[k].pl==x.pl)=false:=(by rw[beq_eq_false_iff_ne];exact hpl)
      have hq1b:(l[k].pl != x.pl)=true:=(by simp[bne,hq1])
      have hq1c:(!(l[k].pl==x.pl))=true:=(by simp[hq1])
      have hq1d:decide (l[k].pl=x.pl)=false:=(by simpa using hq1)
      have hq2:((k:Int)==g)=false:=(by rw[beq_eq_false_iff_ne];exact hkg)
      have hq2b:((k:Int) != g)=true:=(by simp[bne,hq2])
      have hq2c:(!((k:Int)==g))=true:=(by simp[hq2])
      have hq2d:decide ((k:Int)=g)=false:=(by simpa using hq2)
      have HD:=zk hd;clear hpl hkg HR hxk;go_wp2_with fail;refine zj (by first|exact HB|exact zd HB|exact Below.refl _ _) (by kernel_rfl) (by kernel_rfl) ?_
      repeat(go_big_quiet_step (first|exact rfl|fail))
      refine wpQuiet_nil ?_;intro _ hw';obtain⟨p,hw''⟩:=hw';subst hw'';(try clear hc hf hz);(try clear HB);have HB:=p.below;obtain⟨hc,hf,hz⟩:=zu HB;clear hc hf hz;generalize p.v=wq1 at HB ⊢;have HT1:=zk (zb HT0.out HB);have hown1:=zm hown0 HB;clear HB c0 c1 c2 c3 p0 p1 p2 p3 lc lx HT0 hown0;obtain⟨c0,c1,c2,c3⟩:=(hlz.later HT1.out).cells hlt;obtain⟨p0,p1,p2,p3⟩:=Fz.later HT1.out;have lc:=zh c0;have lx:=zh p0;go_wp2_with fail;refine zj (by first|exact HB|exact zd HB|exact Below.refl _ _) (by kernel_rfl) (by kernel_rfl) ?_
      repeat(go_big_quiet_step (first|exact rfl|fail))
      refine wpQuiet_nil ?_;intro _ hw';obtain⟨p,hw''⟩:=hw';subst hw'';(try clear hc hf hz);(try clear HB);have HB:=p.below;obtain⟨hc,hf,hz⟩:=zu HB;clear hc hf hz;generalize p.v=wq2 at HB ⊢;have HT2:=zk (zb HT1.out HB);have hown2:=zm hown1 HB;clear HB c0 c1 c2 c3 p0 p1 p2 p3 lc lx HT1 hown1;obtain⟨c0,c1,c2,c3⟩:=(hlz.later HT2.out).cells hlt;obtain⟨p0,p1,p2,p3⟩:=Fz.later HT2.out;have lc:=zh c0;have lx:=zh p0;have HO3:=zk hown2;have hsz3:=HT2.out.size;go_wp2_with(at_builtin;refine zq rfl _ _ 56 rfl wz.heap.size 97 ib _ 4 40 Tryz.underlying56 hib hz0 hz1 hz2 rfl (by decide) _ O.length (zr O) rfl (zm HO3.out (zn _ _)) (some ⟨wq2.heap.size,0,none⟩) 1 1 (zr [l[k]]) rfl (zbc l[k] wq2) (by unfold maxLen;have:=HLN.out;omega) (by have:=HLN.out;omega) (by simp only[World.size_alloc];omega) ?_;intro v3 wq2b hown3 hbx);have HT3:=zk (HT2.out.trans (((zn wq2 _).mono (by omega)).trans hbx));clear hbx c0 c1 c2 c3 p0 p1 p2 p3 lc lx HO3 HT2 hown2 hsz3;obtain⟨c0,c1,c2,c3⟩:=(hlz.later HT3.out).cells hlt;obtain⟨p0,p1,p2,p3⟩:=Fz.later HT3.out;have lc:=zh c0;have lx:=zh p0;have HOF:=zk hown3;clear hown3;go_wp2;go_roundw
      case rel=>exact⟨k+1,O++[l[k]],false,by omega,by go_num,rfl,by have h:=HN0.out;rw[HRL.out,HD.out] at h;exact h,by have h:=HOF.out;(try simp only[List.length_append,List.length_singleton,zO]);exact h,HT3.out⟩
      case measure=>simp[intOf];omega
   ·have hpl:¬l[k].pl=x.pl:=(by have:=HR.out.yes rfl k hlt (Nat.le_refl _);omega)
    by_cases hkg:(k:Int)=g
    ·have HN0:=zk (zaz G.out hlt HR.out);have HRL:Hid (zS l x g k hlt O true=O):=(by show zS l x g k hlt O true=O;unfold zS;rw[if_neg (by simp),if_neg (fun h=>h.2 hkg)];simp)
     have hd:decide (x.pl≤l[k].pl)=true:=decide_eq_true (Int.le_of_lt (HR.out.yes rfl k hlt (Nat.le_refl _)));have hq1:(l[k].pl==x.pl)=false:=(by rw[beq_eq_false_iff_ne];exact hpl)
     have hq1b:(l[k].pl != x.pl)=true:=(by simp[bne,hq1])
     have hq1c:(!(l[k].pl==x.pl))=true:=(by simp[hq1])
     have hq1d:decide (l[k].pl=x.pl)=false:=(by simpa using hq1)
     have hq2:((k:Int)==g)=true:=(by rw[hkg];simp)
     have hq2b:((k:Int) != g)=false:=(by simp[bne,hq2])
     have hq2c:(!((k:Int)==g))=false:=(by simp[hq2])
     have hq2d:decide ((k:Int)=g)=true:=(by simpa using hq2)
     have HD:=zk hd;clear hpl hkg HR hd;go_wp2_with fail;refine zj (by first|exact HB|exact zd HB|exact Below.refl _ _) (by kernel_rfl) (by kernel_rfl) ?_
     repeat(go_big_quiet_step (first|exact rfl|fail))
     refine wpQuiet_nil ?_;intro _ hw';obtain⟨p,hw''⟩:=hw';subst hw'';(try clear hc hf hz);(try clear HB);have HB:=p.below;obtain⟨hc,hf,hz⟩:=zu HB;clear hc hf hz;generalize p.v=wq1 at HB ⊢;have HT1:=zk (zb HT0.out HB);have hown1:=zm hown0 HB;clear HB c0 c1 c2 c3 p0 p1 p2 p3 lc lx HT0 hown0;obtain⟨c0,c1,c2,c3⟩:=(hlz.later HT1.out).cells hlt;obtain⟨p0,p1,p2,p3⟩:=Fz.later HT1.out;have lc:=zh c0;have lx:=zh p0;go_wp2_with fail;refine zj (by first|exact HB|exact zd HB|exact Below.refl _ _) (by kernel_rfl) (by kernel_rfl) ?_
     repeat(go_big_quiet_step (first|exact rfl|fail))
     refine wpQuiet_nil ?_;intro _ hw';obtain⟨p,hw''⟩:=hw';subst hw'';(try clear hc hf hz);(try clear HB);have HB:=p.below;obtain⟨hc,hf,hz⟩:=zu HB;clear hc hf hz;generalize p.v=wq2 at HB ⊢;have HT2:=zk (zb HT1.out HB);have hown2:=zm hown1 HB;clear HB c0 c1 c2 c3 p0 p1 p2 p3 lc lx HT1 hown1;obtain⟨c0,c1,c2,c3⟩:=(hlz.later HT2.out).cells hlt;obtain⟨p0,p1,p2,p3⟩:=Fz.later HT2.out;have lc:=zh c0;have lx:=zh p0;have HOF:=zk hown2;clear hown2;go_wp2;go_roundw
     case rel=>exact⟨k+1,O,true,by omega,by go_num,rfl,by have h:=HN0.out;rw[HRL.out,HD.out] at h;exact h,by have h:=HOF.out;(try simp only[List.length_append,List.length_singleton,zO]);exact h,HT2.out⟩
     case measure=>simp[intOf];omega
    ·have HN0:=zk (zaz G.out hlt HR.out);have HRL:Hid (zS l x g k hlt O true=O++[l[k]]):=(by show zS l x g k hlt O true=O++[l[k]];unfold zS;rw[if_neg (by simp),if_pos ⟨hpl,hkg⟩];simp)
     have hd:decide (x.pl≤l[k].pl)=true:=decide_eq_true (Int.le_of_lt (HR.out.yes rfl k hlt (Nat.le_refl _)));have hq1:(l[k].pl==x.pl)=false:=(by rw[beq_eq_false_iff_ne];exact hpl)
     have hq1b:(l[k].pl != x.pl)=true:=(by simp[bne,hq1])
     have hq1c:(!(l[k].pl==x.pl))=true:=(by simp[hq1])
     have hq1d:decide (l[k].pl=x.pl)=false:=(by simpa using hq1)
     have hq2:((k:Int)==g)=false:=(by rw[beq_eq_false_iff_ne];exact hkg)
     have hq2b:((k:Int) != g)=true:=(by simp[bne,hq2])
     have hq2c:(!((k:Int)==g))=true:=(by simp[hq2])
     have hq2d:decide ((k:Int)=g)=false:=(by simpa using hq2)
     have HD:=zk hd;clear hpl hkg HR hd;go_wp2_with fail;refine zj (by first|exact HB|exact zd HB|exact Below.refl _ _) (by kernel_rfl) (by kernel_rfl) ?_
     repeat(go_big_quiet_step (first|exact rfl|fail))
     refine wpQuiet_nil ?_;intro _ hw';obtain⟨p,hw''⟩:=hw';subst hw'';(try clear hc hf hz);(try clear HB);have HB:=p.below;obtain⟨hc,hf,hz⟩:=zu HB;clear hc hf hz;generalize p.v=wq1 at HB ⊢;have HT1:=zk (zb HT0.out HB);have hown1:=zm hown0 HB;clear HB c0 c1 c2 c3 p0 p1 p2 p3 lc lx HT0 hown0;obtain⟨c0,c1,c2,c3⟩:=(hlz.later HT1.out).cells hlt;obtain⟨p0,p1,p2,p3⟩:=Fz.later HT1.out;have lc:=zh c0;have lx:=zh p0;go_wp2_with fail;refine zj (by first|exact HB|exact zd HB|exact Below.refl _ _) (by kernel_rfl) (by kernel_rfl) ?_
     repeat(go_big_quiet_step (first|exact rfl|fail))
     refine wpQuiet_nil ?_;intro _ hw';obtain⟨p,hw''⟩:=hw';subst hw'';(try clear hc hf hz);(try clear HB);have HB:=p.below;obtain⟨hc,hf,hz⟩:=zu HB;clear hc hf hz;generalize p.v=wq2 at HB ⊢;have HT2:=zk (zb HT1.out HB);have hown2:=zm hown1 HB;clear HB c0 c1 c2 c3 p0 p1 p2 p3 lc lx HT1 hown1;obtain⟨c0,c1,c2,c3⟩:=(hlz.later HT2.out).cells hlt;obtain⟨p0,p1,p2,p3⟩:=Fz.later HT2.out;have lc:=zh c0;have lx:=zh p0;have HO3:=zk hown2;have hsz3:=HT2.out.size;go_wp2_with(at_builtin;refine zq rfl _ _ 56 rfl wz.heap.size 97 ib _ 4 40 Tryz.underlying56 hib hz0 hz1 hz2 rfl (by decide) _ O.length (zr O) rfl (zm HO3.out (zn _ _)) (some ⟨wq2.heap.size,0,none⟩) 1 1 (zr [l[k]]) rfl (zbc l[k] wq2) (by unfold maxLen;have:=HLN.out;omega) (by have:=HLN.out;omega) (by simp only[World.size_alloc];omega) ?_;intro v3 wq2b hown3 hbx);have HT3:=zk (HT2.out.trans (((zn wq2 _).mono (by omega)).trans hbx));clear hbx c0 c1 c2 c3 p0 p1 p2 p3 lc lx HO3 HT2 hown2 hsz3;obtain⟨c0,c1,c2,c3⟩:=(hlz.later HT3.out).cells hlt;obtain⟨p0,p1,p2,p3⟩:=Fz.later HT3.out;have lc:=zh c0;have lx:=zh p0;have HOF:=zk hown3;clear hown3;go_wp2;go_roundw
     case rel=>exact⟨k+1,O++[l[k]],true,by omega,by go_num,rfl,by have h:=HN0.out;rw[HRL.out,HD.out] at h;exact h,by have h:=HOF.out;(try simp only[List.length_append,List.length_singleton,zO]);exact h,HT3.out⟩
     case measure=>simp[intOf];omega
  ·obtain rfl:k=l.length:=by omega
   obtain⟨p0,p1,p2,p3⟩:=Fz.later HT0.out;have lx:=zh p0
   cases b
   ·have HF:=zk (zhO HR.out);have HO0:=zk hown0;have hsz0:=HT0.out.size;have hbz:=HBz.size;clear HR hown0;go_wp2_with(at_builtin;refine zq rfl _ _ 56 rfl wz.heap.size 97 ib _ 4 40 Tryz.underlying56 hib hz0 hz1 hz2 rfl (by decide) _ O.length (zr O) rfl (zm HO0.out (zn _ _)) (some ⟨wr.heap.size,0,none⟩) 1 1 (zr [x]) rfl (zbc x wr) (by unfold maxLen;have:=HLN.out;omega) (by have:=HLN.out;omega) (by simp only[World.size_alloc];omega) ?_;intro v1 w9 hown9 hbx);have HT9:Below wz.heap.size wz w9:=HT0.out.trans (((zn wr _).mono (by omega)).trans hbx);rw[←zO] at hown9;obtain⟨a9,c9,rfl,hN9⟩:=zaP (l:=O++[x]) hown9 (by simp) (by have:=HLN.out;simp;omega);have R9:=zk hN9.here;have N9:=zk (hN9.newAt.mono hbz);have HT9h:=zk (HBz.trans (HT9.mono hbz));clear hown9 hbx HT9 hN9 p0 p1 p2 p3;go_wp2
    go_ret2
    exact⟨O++[x],a9,c9,rfl,R9.out,by rw[HGG.out];exact HF.out,HT9h.out,N9.out⟩
   ·have HF:=zk (zgM HR.out);have hbz:=HBz.size;obtain⟨a9,c9,rfl,hN9⟩:=zaP (l:=O) hown0 rfl (by have:=HLN.out;omega);have R9:=zk hN9.here;have N9:=zk (hN9.newAt.mono hbz);have HT9h:=zk (HBz.trans (HT0.out.mono hbz));clear HR hown0 hN9 p0 p1 p2 p3;go_wp2
    go_ret2
    exact⟨O,a9,c9,rfl,R9.out,by rw[HGG.out];exact HF.out,HT9h.out,N9.out⟩
end Go.Proofs.YtlhgjplipgandaaGreat
namespace Go.Proofs.YtlhgjplipgandaaGreat
open Go.RowKit Go.BigFrame Go.Maps
attribute [local go_sem] ze.cell ze.frozen
theorem zcR{F G:Bf→Bool}{l:List Bf}(h:∀x∈l,F x=G x):∀k,k≤l.length→zab F l k=zab G l k
 |0,_=>rfl
 |k+1,hk=>by
  have ih:=zcR h k (by omega);have hk':k<l.length:=by omega
  rw[zab,zab,zdo hk',zdo hk',h _ (List.getElem_mem hk'),ih]
def zdf(p:Sk)(i:Nat):Bool:=(p.queue++p.dev.busy).any fun r=>zam r.f r.m (i:Int)
theorem zf1(p:Sk):∀i,i<32→(zW (zav (p.queue++p.dev.busy))).toArray[i]?=some (.bool (zdf p i)):=fun i hi=>zlH _ i hi
theorem zny(p:Sk)(n:Int)(h:0≤n∧n≤31):zbT (zdf p) n=p.held n:=by
 unfold zbT zdf Sk.held;rw[decide_eq_true h.1,decide_eq_true (show n<32 by omega),Bool.true_and,Bool.true_and,Int.toNat_of_nonneg h.1]
theorem zf6{p:Sk}(hI:Inv p)(d:Bool):∀x∈p.hand,zaw d (zbT (zdf p)) x=zaw d p.held x:=fun x hx=>by
 have:=hI.hand.in' x hx;unfold zaw;rw[zny p x.pl ⟨this.1,this.2.1⟩]
theorem zdw(L:List Rq):(zW (zav L)).toArray.size=32:=by
 show(zW (zav L)).length=32;rw[zW,List.length_map,zeT]
section
variable(p:Sk)(a:Option Addr)(c:Nat)(w:World)
theorem zj2(hI:Inv p)(hl:zB w a p.hand)(x:Bf)(m:List Bf)(hm:zbo p.hand x p.held=some m):Calls Tryz.prog 69 #[.slice a p.hand.length c,x.val,.agg (zW (zav (p.queue++p.dev.busy))).toArray] w fun e w'=>∃a' c',e=.returned (.tuple #[.slice a' m.length c',.int .i64 0])∧zB w' a' m∧zct w.heap.size a' c' m.length∧Below w.heap.size w w':=by
 have G:=hI.hand.goodB;have hM:=zik hI.hand.len hm;have hM':=hM
 rcases hM with⟨k,hk,hix,_⟩|⟨hix,h8,_⟩|⟨hix,h8,k,hk,hr,_⟩
 ·refine(zoA p.hand a c x _ w hl G k hk hix).mono ?_;rintro e w' ⟨M,a',c',he,hb,hR,hbel,hn⟩;obtain rfl:=hR.eq G hM' (Or.inr ⟨fun e=>by omega,rfl⟩);exact⟨a',c',he,hb,hn,hbel⟩
 ·refine(znE p.hand a c x _ w hl G h8 hix).mono ?_;rintro e w' ⟨M,a',c',he,hb,hR,hbel,hn⟩;obtain rfl:=hR.eq G hM' (Or.inr ⟨fun e=>by omega,rfl⟩);exact⟨a',c',he,hb,hn,hbel⟩
 ·have hr':zab (zaw false (zbT (zdf p))) p.hand p.hand.length=k:=by rw[zcR (zf6 hI false) _ (Nat.le_refl _)];exact hr
  refine(zou p.hand a c x _ (zdw _) (zdf p) w hl G (zf1 p) h8 hix k hk hr').mono ?_;rintro e w' ⟨M,a',c',he,hb,hR,hbel,hn⟩;obtain rfl:=hR.eq G hM' (Or.inl ⟨hix,h8,hr.symm⟩);exact⟨a',c',he,hb,hn,hbel⟩
theorem zp4(hI:Inv p)(hl:zB w a p.hand)(x:Bf)(hm:zbo p.hand x p.held=none):Calls Tryz.prog 69 #[.slice a p.hand.length c,x.val,.agg (zW (zav (p.queue++p.dev.busy))).toArray] w fun e w'=>e=.returned (.tuple #[.slice none 0 0,.int .i64 7])∧Below w.heap.size w w':=by
 have G:=hI.hand.goodB;unfold zbo at hm
 rcases zaV p.hand x.pl with⟨_,h2⟩|⟨k,hk,_,h2,_⟩
 ·rw[h2,if_neg (by omega)] at hm
  by_cases h3:p.hand.length<8
  ·rw[if_pos h3] at hm;cases hm
  ·rw[if_neg h3] at hm;have h8:=hI.hand.len
   rcases zbd (zaw false p.held) p.hand p.hand.length (Nat.le_refl _) with⟨hr,_⟩|⟨k,hk,_,hr,_⟩
   ·have hr':zab (zaw false (zbT (zdf p))) p.hand p.hand.length=-1:=by rw[zcR (zf6 hI false) _ (Nat.le_refl _)];exact hr
    exact zpv p.hand a c x _ (zdw _) (zdf p) w hl G (zf1 p) (by omega) h2 hr'
   ·rw[hr,if_pos (by omega)] at hm;cases hm
 ·rw[h2,if_pos (by omega)] at hm;cases hm
theorem zpj(hI:Inv p)(hl:zB w a p.hand)(n:Int)(hn:zby p.hand p.held=n):Calls Tryz.prog 51 #[.slice a p.hand.length c,.agg (zW (zav (p.queue++p.dev.busy))).toArray] w fun e w'=>e=.returned (.int .i64 n)∧Below w.heap.size w w':=by
 have G:=hI.hand.goodB;subst hn;unfold zby
 rcases zbd (zaw true p.held) p.hand p.hand.length (Nat.le_refl _) with⟨hr,_⟩|⟨k,hk,_,hr,_⟩
 ·have hr':zab (zaw true (zbT (zdf p))) p.hand p.hand.length=-1:=by rw[zcR (zf6 hI true) _ (Nat.le_refl _)];exact hr
  rw[hr,if_neg (by omega)];exact zry p.hand a c _ (zdw _) (zdf p) w hl G (zf1 p) hr'
 ·have hr':zab (zaw true (zbT (zdf p))) p.hand p.hand.length=k:=by rw[zcR (zf6 hI true) _ (Nat.le_refl _)];exact hr
  rw[hr,if_pos (by omega)];have e:(p.hand.getD (k:Int).toNat ⟨0,ByteArray.empty,false,0⟩).pl=p.hand[k].pl:=by rw[Int.toNat_natCast,List.getD_eq_getElem?_getD,List.getElem?_eq_getElem hk];rfl
  rw[e];exact zpp p.hand a c _ (zdw _) (zdf p) w hl G (zf1 p) k hk hr'
end
end Go.Proofs.YtlhgjplipgandaaGreat
namespace Go.Proofs.YtlhgjplipgandaaGreat
open Go.RowKit
section
variable{p:Sk}{k:Nat}{pl:Int}{dt:ByteArray}
theorem zel(hkd:(p.client k).kind=2)(hdd:p.dead=false)(hpl:(p.client k).pl=pl)(hdt:(p.client k).data=dt):p.nf.serve1 k=(if 6≤zN p.hand∧zQ p.hand pl=false then p.nf else match zbo p.hand ⟨pl,dt,true,p.uses+1⟩ p.held with|some l=>({ p.nf with uses:=p.uses+1,hand:=l }:Sk).answer k ByteArray.empty 0|none=>{ p.nf with uses:=p.uses+1 }):=by
 have e:(p.nf.client k).kind=2:=hkd;have e1:(p.nf.client k).pl=pl:=hpl;have e2:(p.nf.client k).data=dt:=hdt;have e3:p.nf.dead=false:=hdd;have e4:p.nf.held=p.held:=funext (zdP p);have e5:p.nf.hand=p.hand:=rfl;have e6:p.nf.uses=p.uses:=rfl;unfold Sk.serve1;rw[if_neg (by rw[e];decide),if_pos e];unfold Sk.serveWrite;rw[e1,e2,e3,e4,e5,e6,if_neg Bool.false_ne_true];simp only[e3,e5]
 congr 1
theorem zhW(hkd:(p.client k).kind=2)(hdd:p.dead=false)(hpl:(p.client k).pl=pl)(h:6≤zN p.hand∧zQ p.hand pl=false):p.nf.serve1 k=p.nf:=by
 rw[zel hkd hdd hpl rfl,if_pos h]
theorem zh3(hkd:(p.client k).kind=2)(hdd:p.dead=false)(hpl:(p.client k).pl=pl)(hdt:(p.client k).data=dt)(h:¬(6≤zN p.hand∧zQ p.hand pl=false))(hp:zbo p.hand ⟨pl,dt,true,p.uses+1⟩ p.held=none):p.nf.serve1 k=({ p with uses:=p.uses+1 }:Sk).nf:=by
 rw[zel hkd hdd hpl hdt,if_neg h,hp]
 rfl
theorem zh8(hkd:(p.client k).kind=2)(hdd:p.dead=false)(hpl:(p.client k).pl=pl)(hdt:(p.client k).data=dt)(h:¬(6≤zN p.hand∧zQ p.hand pl=false)){m:List Bf}(hp:zbo p.hand ⟨pl,dt,true,p.uses+1⟩ p.held=some m):p.nf.serve1 k=((({ p with uses:=p.uses+1,hand:=m }:Sk).answer k ⟨#[]⟩ 0)).nf:=by
 rw[zel hkd hdd hpl hdt,if_neg h,hp]
 rfl
theorem zgK(hkd:(p.client k).kind=3)(hdd:p.dead=false){L:List Int}(hL:(p.client k).left=L):p.nf.serve1 k=(if L.filter (zQ p.hand)=[] then({ p.nf with dev:=p.nf.dev.flush }:Sk).answer k ByteArray.empty 0 else { p.nf with cl:=p.nf.cl.set k { p.nf.client k with left:=L.filter (zQ p.hand) } }):=by
 have e:(p.nf.client k).kind=3:=hkd;have e1:(p.nf.client k).left=L:=hL;have e3:p.nf.dead=false:=hdd;have e5:p.nf.hand=p.hand:=rfl;unfold Sk.serve1;rw[if_neg (by rw[e];decide),if_neg (by rw[e];decide),if_pos e];unfold Sk.serveSync;rw[e1,e3,e5,if_neg Bool.false_ne_true];simp only[e3,e5]
theorem ziR(hkd:(p.client k).kind=3)(hdd:p.dead=false){L:List Int}(hL:(p.client k).left=L)(h:L.filter (zQ p.hand)=[]):p.nf.serve1 k=((({ p with dev:=p.dev.flush }:Sk).answer k ⟨#[]⟩ 0)).nf:=by
 rw[zgK hkd hdd hL,if_pos h]
 rfl
theorem zi0(hkd:(p.client k).kind=3)(hdd:p.dead=false){L:List Int}(hL:(p.client k).left=L)(h:¬L.filter (zQ p.hand)=[]):p.nf.serve1 k=({ p with cl:=p.cl.set k { p.client k with left:=L.filter (zQ p.hand) } }:Sk).nf:=by
 rw[zgK hkd hdd hL,if_neg h]
 rfl
end
end Go.Proofs.YtlhgjplipgandaaGreat
namespace Go.Proofs.YtlhgjplipgandaaGreat
open Go.RowKit Go.BigFrame
attribute [local go_sem] ze.cell ze.frozen
structure Sp where
 word:ByteArray
 a:Int
 b:Int
 data:ByteArray
def Sp.cell(x:Sp):Nat→Value
 |0=>.string x.word
 |1=>.int .i64 x.a
 |2=>.int .i64 x.b
 |_=>.string x.data
abbrev Sp.val(x:Sp):Value:=.agg #[.string x.word,.int .i64 x.a,.int .i64 x.b,.string x.data]
def StepsAt(w:World)(a:Option Addr)(l:List Sp):Prop :=
 (l=[]∨∃b o,a=some ⟨b,o,none⟩∧∀i (h:i<l.length) j,j<4→w.cell? ⟨b,o+i*4+j,none⟩=some (l[i].cell j))∧l.length≤9223372036854775807
theorem StepsAt.later{w w':World}{a:Option Addr}{l:List Sp}(h:StepsAt w a l)(hb:Below w.heap.size w w'):StepsAt w' a l:=by
 obtain⟨h1,h3⟩:=h;refine⟨?_,h3⟩
 rcases h1 with h|⟨b,o,ha,hc⟩
 ·exact Or.inl h
 ·exact Or.inr ⟨b,o,ha,fun i hi j hj=>cell_later' hb (hc i hi j hj)⟩
theorem StepsAt.form{w:World}{a:Option Addr}{l:List Sp}(h:StepsAt w a l):l=[]∨∃b o,a=some ⟨b,o,none⟩:=by
 rcases h.1 with h|⟨b,o,ha,_⟩
 ·exact Or.inl h
 ·exact Or.inr ⟨b,o,ha⟩
theorem StepsAt.cells{w:World}{b o:Nat}{l:List Sp}(h:StepsAt w (some ⟨b,o,none⟩) l){i:Nat}(hi:i<l.length) :
  w.cell? ⟨b,o+i*4,none⟩=some (.string l[i].word)∧w.cell? ⟨b,o+i*4+1,none⟩=some (.int .i64 l[i].a)∧w.cell? ⟨b,o+i*4+2,none⟩=some (.int .i64 l[i].b)∧w.cell? ⟨b,o+i*4+3,none⟩=some (.string l[i].data):=by
 rcases h.1 with rfl|⟨b',o',ha,hc⟩
 ·exact absurd hi (Nat.not_lt_zero _)
 ·simp only[Option.some.injEq,Addr.mk.injEq,and_true] at ha;obtain⟨rfl,rfl⟩:=ha;exact⟨hc i hi 0 (by omega),hc i hi 1 (by omega),hc i hi 2 (by omega),hc i hi 3 (by omega)⟩
def zd4(x:Sp):Bool:=decide (x.word.size≤20)&&decide (x.data.size≤20)
def zeB(l:List Sp)(n:Nat):Bool:=decide (l.length≤n)&&l.all zd4
theorem zkO(l:List Sp)(a:Option Addr)(c n:Nat)(w:World)(_h3:l.length≤9223372036854775807)(h1:n<l.length) :
  Calls Tryz.prog 6 #[.slice a l.length c,.int .i64 n] w fun e w'=>e=.returned (.bool false)∧Below w.heap.size w w':=by
 have h1':(n:Int)<(l.length:Int):=by omega
 go_enter Tryz.func6,Tryz.ntmps6;go_wp2;go_ret;exact⟨rfl,by(with_reducible repeat first|exact Below.refl _ _|refine zc ?_ _|refine zd ?_|refine bset' ?_ (by omega) _|refine zb ?_ (by assumption))⟩
theorem zkc(l:List Sp)(a:Option Addr)(c n:Nat)(w:World)(hl:StepsAt w a l)(h1:l.length≤n)(hn:n≤1000) :
  Calls Tryz.prog 6 #[.slice a l.length c,.int .i64 n] w fun e w'=>e=.returned (.bool (l.all zd4))∧Below w.heap.size w w':=by
 have h1':¬(n:Int)<(l.length:Int):=by omega
 rcases hl.form with rfl|⟨b,o,rfl⟩
 ·go_enter Tryz.func6,Tryz.ntmps6;go_wp2
  go_loop [5] (fun i=>i=.int .i64 0) (fun _=>0)
  case atStart=>rfl
  case round =>
   subst hrel;go_wp2;go_ret;exact⟨rfl,by(with_reducible repeat first|exact Below.refl _ _|refine zc ?_ _|refine zd ?_|refine bset' ?_ (by omega) _|refine zb ?_ (by assumption))⟩
 have HL:Hid (StepsAt w (some ⟨b,o,none⟩) l):=hl;have hlen:=hl.2;clear hl;go_enter Tryz.func6,Tryz.ntmps6;go_wp2
 go_loopw[5] (fun i wr=>∃k:Nat,k≤l.length∧i=.int .i64 k∧((l.take k).all zd4)=true∧Below w.heap.size w wr) (fun i _=>l.length-(intOf i).toNat)
 case atStart=>exact⟨0,by omega,rfl,rfl,Below.refl _ _⟩
 case round =>
  obtain⟨k,hk,rfl,hno,HB⟩:=hrel;have HN:Hid (((l.take k).all zd4)=true):=hno;clear hno
  by_cases hlt:k<l.length
  ·obtain⟨c0,c1,c2,c3⟩:=(HL.out.later HB).cells hlt;have hlt':(k:Int)<(l.length:Int):=by omega
   have HE:Hid (zd4 l[k]=(decide (l[k].word.size≤20)&&decide (l[k].data.size≤20))):=(show _=_ from rfl)
   generalize hwd:l[k].word=wd at *;generalize hdt:l[k].data=dt at *;clear hwd hdt
   by_cases g1:wd.size≤20
   ·have g1':¬(20:Int)<(wd.size:Int):=by omega
    by_cases g2:dt.size≤20
    ·have g2':¬(20:Int)<(dt.size:Int):=by omega
     have hb:Hid (zd4 l[k]=true):=HE.out.trans (by rw[decide_eq_true g1,decide_eq_true g2];rfl);clear HE;go_wp2;go_roundw
     case rel=>exact⟨k+1,by omega,by go_num,zlq hlt HN.out hb.out,HB⟩
     case measure=>simp[intOf];omega
    ·have g2':(20:Int)<(dt.size:Int):=by omega
     have hb:Hid (zd4 l[k]=false):=HE.out.trans (by rw[decide_eq_true g1,decide_eq_false g2];rfl);clear HE;go_wp2;go_ret;exact⟨zad (zhU hlt hb.out).symm,HB⟩
   ·have g1':(20:Int)<(wd.size:Int):=by omega
    have hb:Hid (zd4 l[k]=false):=HE.out.trans (by rw[decide_eq_false g1];rfl);clear HE;go_wp2;go_ret;exact⟨zad (zhU hlt hb.out).symm,HB⟩
  ·go_wp2;go_ret;exact⟨zad (zna (by omega) HN.out).symm,HB⟩
theorem zd0(l:List Sp)(a:Option Addr)(c n:Nat)(w:World)(hl:StepsAt w a l)(hn:n≤1000)(b:Bool)(hb:zeB l n=b) :
  Calls Tryz.prog 6 #[.slice a l.length c,.int .i64 n] w fun e w'=>e=.returned (.bool b)∧Below w.heap.size w w':=by
 subst hb;unfold zeB
 by_cases h:l.length≤n
 ·rw[decide_eq_true h,Bool.true_and];exact zkc l a c n w hl h hn
 ·rw[decide_eq_false h,Bool.false_and];exact zkO l a c n w hl.2 (by omega)
end Go.Proofs.YtlhgjplipgandaaGreat
namespace Go.Proofs.YtlhgjplipgandaaGreat
open Go.RowKit
def znp:ByteArray:=⟨#[114,101,97,100]⟩
def zlj:ByteArray:=⟨#[119,114,105,116,101]⟩
def znO:ByteArray:=⟨#[115,121,110,99]⟩
def zot:ByteArray:=⟨#[116,105,99,107]⟩
def zlr:ByteArray:=⟨#[99,108,101,97,110]⟩
def zgE:ByteArray:=⟨#[100,105,115,112,97,116,99,104]⟩
def wEnd:ByteArray:=⟨#[101,110,100]⟩
def zk8:ByteArray:=⟨#[102,97,117,108,116]⟩
def zgr:ByteArray:=⟨#[114,111,117,110,100]⟩
def Sk.doStep(p:Sk)(x:Sp):Int × Sk :=
 if x.word=znp then p.ask x.a 1 x.b ByteArray.empty
 else if x.word=zlj then p.ask x.a 2 x.b x.data
 else if x.word=znO then p.ask x.a 3 0 ByteArray.empty
 else if x.word=zot then(0,p.tick)
 else if x.word=zlr then(0,p.clean.2)
 else if x.word=zgE then(0,p.dispatch.2)
 else if x.word=wEnd then p.end' x.a false
 else if x.word=zk8 then p.end' x.a true
 else if x.word=zgr then(0,p.round)
 else(0,p)
def Sk.steps(p:Sk)(l:List Sp):Sk:=l.foldl (fun q x=>(q.doStep x).2) p
theorem Fit.doStep{n:Nat}{p:Sk}(h:Fit n p)(x:Sp):Fit (n+11) (p.doStep x).2:=by
 unfold Sk.doStep
 split
 ·exact(h.ask _ _ _ _).mono (by omega)
 split
 ·exact(h.ask _ _ _ _).mono (by omega)
 split
 ·exact(h.ask _ _ _ _).mono (by omega)
 split
 ·exact h.tick.mono (by omega)
 split
 ·exact h.clean.mono (by omega)
 split
 ·exact h.dispatch.mono (by omega)
 split
 ·exact(h.end' _ _).mono (by omega)
 split
 ·exact(h.end' _ _).mono (by omega)
 split
 ·exact h.round
 ·exact h.mono (by omega)
theorem Fit.steps(l:List Sp):∀{n:Nat} {p:Sk},Fit n p→Fit (n+11*l.length) (p.steps l):=by
 induction l with
 |nil=>intro n p h;exact h
 |cons x l ih=>intro n p h;exact(ih (h.doStep x)).mono (by rw[List.length_cons];omega)
def zp(p:Sk):Prop:=∀c∈p.cl,c.left.length≤8
section
variable{p:Sk}
theorem zp.client(h:zp p)(i:Nat):(p.client i).left.length≤8:=by
 unfold Sk.client;rw[List.getD_eq_getElem?_getD]
 cases e:p.cl[i]? with
 |none=>exact Nat.zero_le 8
 |some c=>exact h c (List.mem_of_getElem? e)
theorem zp.set{q:Sk}(h:zp p)(i:Nat)(x:Cl)(hx:x.left.length≤8)(hq:q.cl=p.cl.set i x):zp q:=fun c hc=>by
 rw[hq] at hc;exact(List.mem_or_eq_of_mem_set hc).elim (h c) (fun e=>e▸hx)
theorem zp.same{q:Sk}(h:zp p)(hq:q.cl=p.cl):zp q:=fun c hc=>h c (hq▸hc)
theorem zp.askQ(h:zp p)(pl:Int)(wr:Bool)(data:List ByteArray):zp (p.askQ pl wr data).2:=h.same (zm5 p pl wr data)
theorem zp.serve1(h:zp p)(i:Nat):zp (p.serve1 i):=by
 unfold Sk.serve1
 split
 ·unfold Sk.serveRead
  split
  ·exact h.set i ⟨0,0,ByteArray.empty,[],_,_⟩ (Nat.zero_le 8) rfl
  ·split
   ·exact h
   ·exact h.askQ _ _ _
 split
 ·unfold Sk.serveWrite
  split
  ·exact h.set i ⟨0,0,ByteArray.empty,[],_,_⟩ (Nat.zero_le 8) rfl
  split
  ·exact h
  split
  ·exact h.set i ⟨0,0,ByteArray.empty,[],_,_⟩ (Nat.zero_le 8) rfl
  ·exact h.same rfl
 split
 ·unfold Sk.serveSync
  split
  ·exact h.set i ⟨0,0,ByteArray.empty,[],_,_⟩ (Nat.zero_le 8) rfl
  split
  ·exact h.set i ⟨0,0,ByteArray.empty,[],_,_⟩ (Nat.zero_le 8) rfl
  ·exact h.set i { p.client i with left:=(p.client i).left.filter (zQ p.hand) } (Nat.le_trans (List.length_filter_le _ _) (h.client i)) rfl
 ·exact h
theorem zp.serve(h:zp p):zp p.serve:=((h.serve1 0).serve1 1).serve1 2
theorem zhY(p:Sk)(h8:p.hand.length≤8){kind:Int}(c:Nat)(h:(p.client c).left.length≤8):(if kind=3 then zL p.hand else(p.client c).left).length≤8:=by
 split
 ·unfold zL;rw[List.length_map];exact Nat.le_trans (List.length_filter_le _ _) h8
 ·exact h
theorem zp.ask(h:zp p)(h8:p.hand.length≤8)(c kind pl:Int)(data:ByteArray):zp (p.ask c kind pl data).2:=by
 unfold Sk.ask
 split
 ·exact h
 split
 ·exact h
 ·exact zp.serve (h.set (q:=p.asks c.toNat kind pl data) c.toNat { p.client c.toNat with kind:=kind,pl:=pl,data:=data,left:=if kind=3 then zL p.hand else(p.client c.toNat).left } (zhY p h8 _ (h.client c.toNat)) rfl)
theorem zp.tick(h:zp p):zp p.tick:=zp.serve (h.same rfl)
theorem zp.clean(h:zp p):zp p.clean.2:=by
 unfold Sk.clean
 split
 ·exact h
 split
 ·exact h
 ·exact h.askQ _ _ _
theorem zp.dispatch(h:zp p):zp p.dispatch.2:=by
 unfold Sk.dispatch
 split
 ·exact h
 ·exact h.same rfl
theorem zp.dispatches(n:Nat):∀{p:Sk},zp p→zp (p.dispatches n):=by
 induction n with
 |zero=>exact fun h=>h
 |succ n ih =>
  intro p h;unfold Sk.dispatches
  split
  ·exact ih h.dispatch
  ·exact h
theorem zp.readers(h:zp p)(F:Int→Bool)(s:ByteArray)(e:Int):zp (p.readers F s e):=fun c hc=>by
 obtain⟨x,hx,rfl⟩:=List.mem_map.1 hc
 split
 ·exact Nat.zero_le 8
 ·exact h x hx
theorem zp.wasRead(h:zp p)(pl:Int)(s:ByteArray):zp (p.wasRead pl s):=by
 unfold Sk.wasRead
 split
 ·exact h
 split
 ·exact zp.readers (p:={ p with hand:=_,uses:=p.uses+1 }) (h.same rfl) _ _ _
 ·exact h.readers _ _ _
theorem zp.wentOne(h:zp p)(r:Rq)(xs:List ByteArray)(j:Nat):zp (p.wentOne r xs j):=by
 unfold Sk.wentOne
 split
 ·exact h.same rfl
 ·exact h.wasRead _ _
theorem zp.wentTo(h:zp p)(r:Rq)(xs:List ByteArray):∀n,zp (p.wentTo r xs n)
 |0=>h
 |n+1=>by rw[zbp];exact(h.wentTo r xs n).wentOne r xs n
theorem zp.end'(h:zp p)(i:Int)(fault:Bool):zp (p.end' i fault).2:=by
 unfold Sk.end'
 split
 ·exact h
 split
 ·exact h
 split
 ·exact zp.serve (zp.wentTo (p:=(p.took i.toNat).did _) (h.same rfl) _ _ _)
 split
 ·exact h.same rfl
 split
 ·exact zp.serve (h.same rfl)
 ·exact zp.serve (zp.readers (h.same rfl) _ _ _)
theorem zp.round(h:zp p):zp p.round:=(h.tick.clean.dispatches 3).end' 0 false
theorem zp.settle(n:Nat):∀{p:Sk},zp p→zp (p.settle n).2:=by
 induction n with
 |zero=>exact fun h=>h
 |succ n ih =>
  intro p h;unfold Sk.settle
  split
  ·exact h
  ·exact ih h.round
theorem zp.nf(h:zp p):zp p.nf:=h
theorem zp.of_nf(h:zp p.nf):zp p:=h
theorem zrN:zp sk0:=fun c hc=>by
 rcases List.mem_cons.1 hc with rfl|hc
 ·exact Nat.zero_le 8
 rcases List.mem_cons.1 hc with rfl|hc
 ·exact Nat.zero_le 8
 rcases List.mem_cons.1 hc with rfl|hc
 ·exact Nat.zero_le 8
 ·cases hc
end
theorem zq7{L:List Int}{f:Int→Bool}{j:Nat}(hj:j<L.length)(h:f L[j]=true):(L.take (j+1)).filter f=(L.take j).filter f++[L[j]]:=by
 rw[List.take_succ_eq_append_getElem hj,List.filter_append,List.filter_cons_of_pos h,List.filter_nil]
theorem zm9{L:List Int}{f:Int→Bool}{j:Nat}(hj:j<L.length)(h:f L[j]=false):(L.take (j+1)).filter f=(L.take j).filter f:=by
 rw[List.take_succ_eq_append_getElem hj,List.filter_append,List.filter_cons_of_neg (by rw[h];exact Bool.false_ne_true),List.filter_nil,List.append_nil]
theorem zqk(L:List Int)(f:Int→Bool)(j:Nat):((L.take j).filter f).length≤L.length :=
 Nat.le_trans (List.length_filter_le _ _) (by rw[List.length_take];exact Nat.min_le_right _ _)
theorem zqI{L:List Int}{f:Int→Bool}{j:Nat}(hj:L.length≤j):(L.take j).filter f=L.filter f:=by rw[List.take_of_length_le hj]
end Go.Proofs.YtlhgjplipgandaaGreat
