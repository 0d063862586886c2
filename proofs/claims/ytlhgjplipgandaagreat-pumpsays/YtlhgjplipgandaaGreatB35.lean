/- Joined texts: REnd2. -/
import Derived.Test.YtlhgjplipgandaaGreatB34
set_option maxRecDepth 100000
set_option maxHeartbeats 8000000
set_option linter.unusedSimpArgs false
namespace Go.Proofs.YtlhgjplipgandaaGreat
open Go.RowKit Go.BigFrame Go.Maps
attribute [local go_sem] ze.cell ze.frozen
theorem za6.kept{s:Nat}{p p':Sk}{A A':Rs}{w w':World}{g xn xc:Nat}{r:Rq}{xa:Option Addr}{er:Int}(h:za6 w g r xa xn xc er)(hs:zE s p A p' A' w w')(hg:¬A.foot s g):za6 w' g r xa xn xc er:=h.onlyR hs.only hg
structure zcN(s:Nat)(p:Sk)(A:Rs)(w:World)(g:Nat)(r:Rq)(xa:Option Addr)(xn xc:Nat)(er:Int)(q:Sk)(wr:World)(p':Sk)(A':Rs):Prop where
 st:zE s p A p' A' w wr
 nf:p'.nf=q
 cnt:A'.cnt≤A.cnt+1
 box:za6 wr g r xa xn xc er
 new:w.heap.size≤g
 off:¬A'.foot s g
section
variable{s:Nat}{p p' p2:Sk}{A A' A2:Rs}{w wr w2:World}{g:Nat}{r:Rq}{xa:Option Addr}{xn xc:Nat}{er:Int}{q q2:Sk}
theorem zcN.step(h:zcN s p A w g r xa xn xc er q wr p' A')(hs:zE s p' A' p2 A2 wr w2)(hn:p2.nf=q2)(hc:A2.cnt≤A'.cnt):zcN s p A w g r xa xn xc er q2 w2 p2 A2 :=
 ⟨h.st.trans hs,hn,by have:=h.cnt;omega,h.box.kept hs h.off,h.new,fun e=>(hs.foot g e).elim h.off (fun e'=>absurd (zg h.box.1) (by show ¬g<_;omega))⟩
theorem zcN.later(h:zcN s p A w g r xa xn xc er q wr p' A')(hb:Below wr.heap.size wr w2):zcN s p A w g r xa xn xc er q w2 p' A':=h.step (zE.same' h.st.at' hb) h.nf (Nat.le_refl _)
end
theorem zor(s:Nat)(p:Sk)(A:Rs)(w:World)(h:zH s p A w)(hI:Inv p)(hL:zp p)(hT:p.tags≤3999999999999999990)(hU:p.uses≤3999999999999999990)(hA:A.cnt≤240000)(k:Nat)(r:Rq)(hk:p.dev.busy[k]?=some r)(hf:¬p.f (r.tags.getD 0 0)<2)(hw:r.wr=false)(q:Sk)(hq:(((p.took k).lost r).nf.readers (zam r.f r.m) ByteArray.empty 8).serve=q) :
  Calls Tryz.prog 28 #[.pointer (some ⟨s,0,none⟩),.int .i64 k,.bool true] w fun e w'=>e=.returned (.int .i64 0)∧KOk 1 s p A w w' q:=by
 have c1:=h.cell 1 _ rfl;have hl:=h.lt;have HST:=za h;have HV:=za (h.rvreq hI (by omega) hk);have HF:Hid (2≤p.f (r.tags.getD 0 0)∧p.f (r.tags.getD 0 0)≤2):=⟨by omega,(hI.fr (r.tags.getD 0 0)).2⟩
 have HN:Hid (A.n≤1000000000):=by have:=h.mem.nb;show _≤_;omega
 have HIL:=za ((hI.took k).lost' r);have HLL:Hid (zp ((p.took k).lost r)):=hL;have HQ:=za hq;have HB:=za (And.intro hT hU);have HG:=za (hI.good r (List.mem_append_right _ (List.mem_of_getElem? hk)));clear h hI hT hU hk hf hq hL hA;go_enter Tryz.func28,Tryz.ntmps28;go_wp2_with fail;refine(znb A.v A.b A.bm A.m A.ra A.n A.D k r _ _ w HST.out.mem.drv HV.out HST.out.mem.im (HST.out.mem.map _) HF.out HN.out).mono ?_;rintro e w1 ⟨a',rfl,hv⟩;have HS1:=za (HST.out.lostAt (r:=r) hv (by have:=HST.out.mem.nb;omega) (zjw HST.out.mem.map HST.out.mem.im _ _ (ziH _ HST.out.mem.im _ _)));clear hv;have HQS:Hid (w.heap.size≤w1.heap.size∧∀j,({ A with m:={ A.m with busy:=A.m.busy.eraseIdx k },ra:=a',n:=A.n+2,D:=(A.D.put (.int .i64 (r.tags.getD 0 0)) (.lit (.int .i64 (p.f (r.tags.getD 0 0)+1)))).put (.int .i64 (r.tags.getD 0 0)) (.lit (.int .i64 0)),cnt:=A.cnt+1 }:Rs).foot s j→j<w1.heap.size):=⟨HS1.out.only.size,fun j hj=>HS1.out.at'.footLt j hj⟩
 go_upto_region 2 with(refine zP rfl (.tmp 7) (.tmp 28) rfl w1.heap.size r none 0 0 8 rfl rfl (zT (zaE w1 120)) (fun wK=>zE s p A _ _ w wK∧zal wK w1.heap.size r none 0 0 8) (zjd HS1.out r none 0 0 8) ?_;rintro wK ⟨hsK,hrK⟩;have HSK:=za hsK;have HRK:=za hrK;obtain⟨⟨y0,y1,y2,y3,y4,y5,y6,y7⟩,-,yl⟩:=hrK;have lsK:=hsK.at'.lt;clear hsK HS1)
 have HC0:Hid (zcN s p A w w1.heap.size r none 0 0 8 ((p.took k).lost r).nf wK ((p.took k).lost r) _):=⟨HSK.out,rfl,Nat.le_refl _,HRK.out.1,HQS.out.1,fun e=>by have:=HQS.out.2 _ e;omega⟩
 have HC1:Hid (∃A1,zcN s p A w w1.heap.size r none 0 0 8 ((p.took k).lost r).nf (wK.setCell ⟨s,20,none⟩ (.bool p.dead)) ((p.took k).lost r) A1):=⟨_,HC0.out.step (HSK.out.at'.setDead p.dead) rfl (Nat.le_refl _)⟩
 have z20:wK.cell? ⟨s,20,none⟩=some (.bool p.dead):=HSK.out.at'.cell 20 _ rfl;have x20:=HSK.out.at'.fz 20;rw[hw] at y0;clear HC0 HSK HRK HST HV HF HN;generalize w1.heap.size=g at *;generalize hdd:p.dead=dd at *;have HDD:=za hdd;clear hdd;have hl3:=HIL.out.cl3
 cases dd
 all_goals
  go_upto_region 6 with fail;refine zai (fun wy=>∃A1,zcN s p A w g r none 0 0 8 ((p.took k).lost r).nf wy ((p.took k).lost r) A1) HC1.out ?_;rintro wy ⟨A1,hsy⟩;have HSY:=za hsy;clear hsy HC1 y0 y1 y2 y3 y4 y5 y6 y7 yl z20 x20 lsK;go_wp2
  go_loopw[10] (fun x wr=>∃(j:Nat) (p2:Sk) (A2:Rs),j≤3∧x=.int .i64 j∧zcN s p A w g r none 0 0 8 (((p.took k).lost r).nf.readersTo (zam r.f r.m) ByteArray.empty 8 j) wr p2 A2) (fun x _=>3-(intOf x).toNat)
  case atStart=>exact⟨0,_,A1,by omega,rfl,HSY.out⟩
  case round =>
   obtain⟨j,p2,A2,hj,rfl,hr⟩:=hrel;have HR:=za hr;obtain⟨b0,b1,b2,-⟩:=id hr.box;rw[hw] at b0;have lg:=zg b0;have l2:=hr.st.at'.lt
   by_cases hj3:j<3
   ·as_aux_lemma =>
    have hj0:(0:Int)≤(j:Int):=by omega
    have hj3':(j:Int)<3:=by omega
    have c11:=(hr.st.at'.c11 hj3).1;unfold zdv at c11;have HE:Hid (p2.nf.readers1 (zam r.f r.m) ByteArray.empty 8 j=if(p2.client j).kind=1∧zam r.f r.m (p2.client j).pl=true then p2.nf.answer j ByteArray.empty 8 else p2.nf):=za rfl;have HRT:Hid (((p.took k).lost r).nf.readersTo (zam r.f r.m) ByteArray.empty 8 (j+1)=p2.nf.readers1 (zam r.f r.m) ByteArray.empty 8 j):=by show _=_;rw[Sk.readersTo,←hr.nf]
    cases hka:A2.ka j with
    |none =>
     rw[hka] at c11;simp only[Option.map_none] at c11;have HK0:=za (hr.st.at'.mem.idle j hj3 hka);have HN2:Hid (zcN s p A w g r none 0 0 8 (((p.took k).lost r).nf.readersTo (zam r.f r.m) ByteArray.empty 8 (j+1)) wr p2 A2):=⟨hr.st,by rw[HRT.out,HE.out,if_neg (fun e=>by rw[HK0.out] at e;cases e.1)],hr.cnt,hr.box,hr.new,hr.off⟩
     clear hr hka;go_wp2_with fail
     go_region
     all_goals
      go_wp2;go_roundw
      case rel=>exact⟨j+1,p2,A2,by omega,by go_num,HN2.out.later (by(with_reducible repeat first|exact Below.refl _ _|refine zc ?_ _|refine zd ?_|refine bset' ?_ (by omega) _|refine zb ?_ (by assumption)))⟩
      case measure=>simp[intOf];omega
    |some ak =>
     rw[hka] at c11;simp only[Option.map_some] at c11;have hask:=hr.st.at'.mem.asks j hj3 ak hka;obtain⟨k0,k1,-,-,-,klt⟩:=hask.cells;have hcl:0≤(p2.client j).kind∧(p2.client j).kind≤3∧(¬(p2.client j).kind=0→0≤(p2.client j).pl∧(p2.client j).pl≤31):=by
      have h1:=zdd HIL.out.nf (zam r.f r.m) ByteArray.empty 8 j;rw[←hr.nf] at h1;have h2:=h1.of_nf.client j;exact⟨h2.kind.1,h2.kind.2,h2.pl⟩
     have hkn:=hask.kind;obtain⟨kd,hkd⟩:∃kd,(p2.client j).kind=kd:=⟨_,rfl⟩
     obtain⟨pl,hpl⟩:∃pl,(p2.client j).pl=pl:=⟨_,rfl⟩
     rw[hkd] at k0 hcl hkn;rw[hpl] at k1 hcl;rw[hkd,hpl] at HE;clear hask hka hkd hpl;obtain⟨hc1,hc2,hc3⟩:=hcl
     by_cases h1:kd=1
     ·subst h1;have hpl:=hc3 (by decide);clear hc1 hc2 hc3 hkn;have HHB:=za (zeD r.f r.m 4 pl HG.out.ok (by omega));obtain⟨bb,hbb⟩:∃bb,za1 r.f r.m pl=bb:=⟨_,rfl⟩
      have HBB:=za hbb;clear hbb;go_upto_region 10 with fail
      go_cut[87] (fun sv wx=>sv=.bool bb∧Below wr.heap.size wr wx)
      case first =>
       as_aux_lemma =>
       go_region_held3 (fun w'=>w'.cell? ⟨ak,0,none⟩=some (.int .i64 1)∧w'.cell? ⟨ak,1,none⟩=some (.int .i64 pl)∧w'.cell? ⟨g,1,none⟩=some (.int .i64 r.f)∧w'.cell? ⟨g,2,none⟩=some (.int .i64 r.m)) (exact⟨cellB_later' (w:=wr) (by(with_reducible repeat first|exact Below.refl _ _|refine zc ?_ _|refine zd ?_|refine bset' ?_ (by omega) _|refine zb ?_ (by assumption))) k0,cellB_later' (w:=wr) (by(with_reducible repeat first|exact Below.refl _ _|refine zc ?_ _|refine zd ?_|refine bset' ?_ (by omega) _|refine zb ?_ (by assumption))) k1,cellB_later' (w:=wr) (by(with_reducible repeat first|exact Below.refl _ _|refine zc ?_ _|refine zd ?_|refine bset' ?_ (by omega) _|refine zb ?_ (by assumption))) b1,cellB_later' (w:=wr) (by(with_reducible repeat first|exact Below.refl _ _|refine zc ?_ _|refine zd ?_|refine bset' ?_ (by omega) _|refine zb ?_ (by assumption))) b2⟩) (first|(go_at_call 66;refine(zlb r.f r.m 4 pl _ HG.out.ok bb HBB.out).mono ?_;rintro e w4 ⟨rfl,hb4⟩))
       all_goals
        go_wp2
        go_meet
        case rel=>exact⟨rfl,by(with_reducible repeat first|exact Below.refl _ _|refine zc ?_ _|refine zd ?_|refine bset' ?_ (by omega) _|refine zb ?_ (by assumption))⟩
      case rest =>
       obtain⟨rfl,hbc⟩:=hcut;have HC:=za (HR.out.later hbc);have lc:=HC.out.st.at'.lt;have HBR:Hid (zam r.f r.m pl=bb):=by show _=_;rw[HHB.out,HBB.out]
       clear hr hbc b0 b1 b2 lg c11 k0 k1 klt HHB HBB
       cases bb
       ·have HN2:Hid (zcN s p A w g r none 0 0 8 (((p.took k).lost r).nf.readersTo (zam r.f r.m) ByteArray.empty 8 (j+1)) wc p2 A2):=⟨HC.out.st,by rw[HRT.out,HE.out,if_neg (fun e=>by rw[HBR.out] at e;cases e.2)],HC.out.cnt,HC.out.box,HC.out.new,HC.out.off⟩
        go_wp2;go_roundw
        case rel=>exact⟨j+1,p2,A2,by omega,by go_num,HN2.out⟩
        case measure=>simp[intOf];omega
       ·go_wp2_with fail;refine(zcE s p2 A2 _ HC.out.st.at' j hj3 ⟨#[]⟩ 8).mono ?_;rintro e w7 ⟨rfl,hs7⟩;have HN2:Hid (zcN s p A w g r none 0 0 8 (((p.took k).lost r).nf.readersTo (zam r.f r.m) ByteArray.empty 8 (j+1)) w7 (p2.answer j ⟨#[]⟩ 8) { A2 with ka:=upd A2.ka j none }):=HC.out.step hs7 (by rw[HRT.out,HE.out,if_pos (by first|exact⟨rfl,HBR.out⟩|exact⟨trivial,HBR.out⟩)];rfl) (Nat.le_refl _);clear hs7;go_wp2;go_roundw
        case rel=>exact⟨j+1,_,_,by omega,by go_num,HN2.out⟩
        case measure=>simp[intOf];omega
     ·have HN2:Hid (zcN s p A w g r none 0 0 8 (((p.took k).lost r).nf.readersTo (zam r.f r.m) ByteArray.empty 8 (j+1)) wr p2 A2):=⟨hr.st,by rw[HRT.out,HE.out,if_neg (fun e=>h1 e.1)],hr.cnt,hr.box,hr.new,hr.off⟩
      have h4:kd=2∨kd=3:=by omega
      clear hr h1 hc1 hc2 hc3 hkn
      rcases h4 with rfl|rfl
      ·go_wp2_with fail
       go_region
       all_goals
        go_wp2;go_roundw
        case rel=>exact⟨j+1,p2,A2,by omega,by go_num,HN2.out.later (by(with_reducible repeat first|exact Below.refl _ _|refine zc ?_ _|refine zd ?_|refine bset' ?_ (by omega) _|refine zb ?_ (by assumption)))⟩
        case measure=>simp[intOf];omega
      ·go_wp2_with fail
       go_region
       all_goals
        go_wp2;go_roundw
        case rel=>exact⟨j+1,p2,A2,by omega,by go_num,HN2.out.later (by(with_reducible repeat first|exact Below.refl _ _|refine zc ?_ _|refine zd ?_|refine bset' ?_ (by omega) _|refine zb ?_ (by assumption)))⟩
        case measure=>simp[intOf];omega
   ·as_aux_lemma =>
    obtain rfl:j=3:=by omega
    have hnf:=hr.nf;rw[zfU ((p.took k).lost r).nf hl3] at hnf;have HNF:=za hnf;have HIN:Hid (Inv p2):=by
     have:=HIL.out.nf.readers (zam r.f r.m) ByteArray.empty 8;rw[←hnf] at this;exact this.of_nf
    have HLN:Hid (zp p2):=by
     have:=HLL.out.nf.readers (zam r.f r.m) ByteArray.empty 8;rw[←hnf] at this;exact this.of_nf
    have HB2:Hid (p2.tags≤3999999999999999990∧p2.uses≤3999999999999999990):=by
     have e1:p2.nf.tags=p.tags:=by rw[hnf];rfl
     have e2:p2.nf.uses=p.uses:=by rw[hnf];rfl
     exact⟨e1▸HB.out.1,e2▸HB.out.2⟩
    have HQ2:Hid (p2.nf.serve=q):=by
     show p2.nf.serve=q;rw[hnf];exact HQ.out
    clear hr hnf;go_wp2_with fail;refine(zcu s p2 A2 _ HR.out.st.at' HIN.out HLN.out HB2.out.1 HB2.out.2 q HQ2.out).mono ?_;rintro e w4 ⟨rfl,hok⟩;have HO:Hid (KOk 1 s p A w w4 q):=KOk.before HR.out.st HR.out.cnt hok (Nat.le_refl _);clear hok b0 b1 b2;go_wp2;go_ret;exact⟨rfl,HO.out⟩
end Go.Proofs.YtlhgjplipgandaaGreat
