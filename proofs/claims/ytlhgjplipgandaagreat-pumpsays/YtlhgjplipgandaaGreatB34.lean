/- Joined texts: Stk34, Stk35, REnd1. -/
import Derived.Test.YtlhgjplipgandaaGreatB33
import Derived.Test.YtlhgjplipgandaaGreatB30
set_option maxRecDepth 100000
set_option maxHeartbeats 8000000
set_option linter.unusedSimpArgs false
namespace Go.Proofs.YtlhgjplipgandaaGreat
open Go.RowKit Go.BigFrame Go.Maps
attribute [local go_sem] ze.cell ze.frozen
theorem zl1(s:Nat)(p:Sk)(A:Sa)(w:World)(h:zv s p A w)(hI:Inv p)(r:Rq)(hU:p.uses≤3999999999999999990)(gr:zA r)(hw:r.wr=false)(xa:Option Addr)(xc:Nat)(xs:List ByteArray)(hd:zU w xa xs)(hdo:xs ≠ []→∀ad,xa=some ad→¬A.foot s ad.block)(hlen:xs.length=r.m.toNat)(hx4:∀j,(xs.getD j ByteArray.empty).size≤4)(q:Sk)(hq:p.nf.wentWell r xs=q) :
  Calls Tryz.prog 63 #[.pointer (some ⟨s,0,none⟩),zaI r xa xs.length xc 0] w fun e w'=>e=.returned (.tuple #[])∧SOk s p A w w' q:=by
 have HST:=za h;have HI:=za hI;have HG:=za gr;have HD:=za hd;have HDO:=za hdo;have HQ:=za hq;have HHAS:=za (zgN r gr);have HB0:=za gr.bndD;have HLEN:=za hlen;have HU:=za hU;have HWR:=za hw;have hl:=h.lt;clear h hI gr hd hdo hq hlen hU;have ev:zaI r xa xs.length xc 0=.agg #[.bool false,.int .i64 r.f,.int .i64 r.m,.slice r.da r.data.length r.dc,.slice r.ta r.tags.length r.tc,.int .i64 r.born,.slice xa xs.length xc,.int .i64 0]:=by
  unfold zaI;rw[hw]
 rw[ev];clear ev;go_enter Tryz.func63,Tryz.ntmps63;go_wp2;have hw0:Below w.heap.size w (w.alloc (.cells #[.bool false,.int .i64 r.f,.int .i64 r.m,.slice r.da r.data.length r.dc,.slice r.ta r.tags.length r.tc,.int .i64 r.born,.slice xa xs.length xc,.int .i64 0] 120)):=by(with_reducible repeat first|exact Below.refl _ _|refine zc ?_ _|refine zd ?_|refine bset' ?_ (by omega) _|refine zb ?_ (by assumption))
 have hx0:za6 (w.alloc (.cells #[.bool false,.int .i64 r.f,.int .i64 r.m,.slice r.da r.data.length r.dc,.slice r.ta r.tags.length r.tc,.int .i64 r.born,.slice xa xs.length xc,.int .i64 0] 120)) w.heap.size r xa xs.length xc 0:=by
  have hr:=zfB w 120 r xa xs.length xc 0;rw[hw] at hr;exact hr
 generalize hW:(w.alloc (.cells #[.bool false,.int .i64 r.f,.int .i64 r.m,.slice r.da r.data.length r.dc,.slice r.ta r.tags.length r.tc,.int .i64 r.born,.slice xa xs.length xc,.int .i64 0] 120))=w0 at *;clear hW;have HS0:=za (zG.same' HST.out hw0);have HX:=za hx0;have HD0:=za (HD.out.later hw0);have HGF:Hid (¬A.foot s w.heap.size):=fun e=>by have:=HST.out.footLt _ e;omega
 have HSH:Hid (∀j,(xs.getD j ByteArray.empty).size≤4):=hx4;clear hx4
 go_loopw[14] (fun i wr=>∃k:Nat,k≤32∧i=.int .i64 k∧SRel s p A w0 wr (p.nf.wentTo r xs (below r.f.toNat r.m.toNat k))) (fun i _=>32-(intOf i).toNat)
 case atStart=>exact⟨0,by omega,rfl,p,A,zG.same' HS0.out.at' (Below.refl _ _),by rw[show below r.f.toNat r.m.toNat 0=0 by unfold below;omega];rfl⟩
 case round =>
  obtain⟨k,hk,rfl,p',A',hs,hn⟩:=hrel;have HS:=za hs;have HN:=za hn
  by_cases hlt:k<32
  ·have hlt':(k:Int)<32:=by omega
   have HBX:=za (zhe HX.out hs.only HGF.out);have HDD:=za (za2 HD0.out hs.only HDO.out);obtain⟨b0,b1,b2,b3,b4,b5,b6,b7⟩:=id HBX.out;rw[hw] at b0;have lb:=zg b0;have hl1:=hs.at'.lt;have c20:=hs.at'.cell 20 _ rfl;have f20:=hs.at'.fz 20;have hh:=HHAS.out k hlt;have HJ:Hid (below r.f.toNat r.m.toNat k≤r.m.toNat):=by show below r.f.toNat r.m.toNat k≤r.m.toNat;unfold below;omega
   have HI':Hid (Inv p'):=by
    have:=HI.out.nf.wentTo r HG.out xs HSH.out _ HJ.out;rw[←hn] at this;exact this.of_nf
   clear hs hn
   by_cases hin:r.f.toNat≤k∧k<r.f.toNat+r.m.toNat
   ·rw[decide_eq_true hin] at hh;have HH:=za hh;obtain⟨e1,e2⟩:=zfO hin.1 hin.2;obtain⟨j,hj⟩:∃j,below r.f.toNat r.m.toNat k=j:=⟨_,rfl⟩
    rw[hj] at e1 e2 HN HJ;have HE1:=za e1;have HKJ:Hid ((k:Int)=r.f+j):=by have:=HB0.out;show(k:Int)=r.f+j;omega
    have HWP:Hid (wrap64 ((k:Int)-r.f)=(j:Nat)):=by
     have:=HB0.out;have:=HKJ.out;rw[wrapK k r.f (by omega) (by omega)];show(k:Int)-r.f=j;omega
    have HJL:Hid (j<xs.length):=by have:=HLEN.out;have:=HB0.out;show j<xs.length;omega
    obtain⟨d,hd⟩:∃d,xs.getD j ByteArray.empty=d:=⟨_,rfl⟩
    have HDJ:=za hd;have HSTEP:Hid (p'.nf.wentOne r xs j=p'.nf.wasRead k d):=by
     show p'.nf.wentOne r xs j=_;unfold Sk.wentOne;rw[if_neg (by rw[hw];exact Bool.false_ne_true),hd,←HKJ.out]
    have HD4:Hid (d.size≤4):=by have:=HSH.out j;rw[hd] at this;exact this
    have HUU:Hid (p'.uses≤4000000000000000000):=by
     have h1:=(zcI p.nf r xs j).uses;rw[←HN.out] at h1;have h2:p'.uses≤p.uses+j:=h1;have:=HU.out;have:=HJ.out;have:=HB0.out;show p'.uses≤4000000000000000000
     omega
    clear hh hin e1 e2 hj hd;go_wp2_with fail;have hpt:=ziS r xs xa xc 0 k _ HDD.out HH.out j HWP.out HJL.out d HDJ.out;rw[show zaI r xa xs.length xc 0=.agg #[.bool false,.int .i64 r.f,.int .i64 r.m,.slice r.da r.data.length r.dc,.slice r.ta r.tags.length r.tc,.int .i64 r.born,.slice xa xs.length xc,.int .i64 0] by unfold zaI;rw[hw]] at hpt;refine hpt.mono ?_;clear hpt;rintro e w1 ⟨rfl,hb1⟩;have HS1:=za (HS.out.later hb1)
    replace c20:=cellB_later' hb1 c20
    replace f20:=HS1.out.at'.fz 20
    replace b0:=cellB_later' hb1 b0
    replace hl1:=HS1.out.at'.lt
    replace lb:=zg b0
    clear hb1 b1 b2 b3 b4 b5 b6 b7;go_wp2_with fail;refine(zmL s p' A' _ HS1.out.at' HI'.out HUU.out k (by have:=HB0.out;have:=HKJ.out;omega) d HD4.out _ rfl).mono ?_;rintro e w2 ⟨rfl,hok⟩;have HO:=za (SOk.trans HS1.out hok);clear hok c20 f20;go_wp2;go_roundw
    case rel=>exact⟨k+1,by omega,by go_num,by rw[HE1.out,zbp,←HN.out,HSTEP.out];exact HO.out⟩
    case measure=>simp[intOf];omega
   ·rw[decide_eq_false hin] at hh;have HH:=za hh;have HE1:=za (ze6 hin);clear hh hin;go_wp2_with fail;have hpt:=zni r xa xs.length xc 0 k wr HH.out;rw[show zaI r xa xs.length xc 0=.agg #[.bool false,.int .i64 r.f,.int .i64 r.m,.slice r.da r.data.length r.dc,.slice r.ta r.tags.length r.tc,.int .i64 r.born,.slice xa xs.length xc,.int .i64 0] by unfold zaI;rw[hw]] at hpt;refine hpt.mono ?_;clear hpt;rintro e w1 ⟨rfl,hb1⟩;have HS1:=za (HS.out.later hb1);clear hb1 b0 b1 b2 b3 b4 b5 b6 b7;go_wp2;go_roundw
    case rel=>exact⟨k+1,by omega,by go_num,p',A',HS1.out,by rw[HE1.out];exact HN.out⟩
    case measure=>simp[intOf];omega
  ·obtain rfl:k=32:=by omega
   clear hs hn;go_wp2;go_end0;refine⟨rfl,p',A',HS0.out.trans HS.out,HN.out.trans ?_⟩;rw[zeU (by have:=HB0.out;omega)];exact HQ.out
theorem zhr(d:Dl)(l:List Rq)(r:Rq):∀n,({ d with busy:=l }:Dl).writesTo r n={ d.writesTo r n with busy:=l }
 |0=>rfl
 |n+1=>by rw[Dl.writesTo_succ,zhr d l r n,Dl.writesTo_succ];rfl
theorem did_at(d:Dl)(l:List Rq)(r:Rq):({ d with busy:=l }:Dl).did r={ d.did r with busy:=l }:=by
 unfold Dl.did
 split
 ·exact zhr d l r _
 ·rfl
theorem did_nf(d:Dl)(r:Rq):d.nf.did r.nf=(d.did r).nf:=by
 show({ d with busy:=d.busy.map Rq.nf }:Dl).did r={ d.did r with busy:=(d.did r).busy.map Rq.nf };rw[did_at,Dl.did_busy]
theorem zfy(p:Sk)(k:Nat):p.nf.took k=(p.took k).nf:=by
 simp only[Sk.took,Sk.nf,Dl.nf,List.eraseIdx_eq_take_drop_succ,List.map_append,List.map_take,List.map_drop]
theorem zkU(p:Sk)(r:Rq):p.nf.did r.nf=(p.did r).nf:=by
 have e:p.nf.dev.did r.nf=(p.dev.did r).nf:=did_nf p.dev r;unfold Sk.did;rw[e]
 rfl
theorem zqA(p:Sk)(r:Rq):p.nf.again r.nf=(p.again r).nf:=by
 simp only[Sk.again,Sk.nf,Dl.nf,List.map_append,List.map_cons,List.map_nil]
 rfl
theorem zfv{p:Sk}{k:Nat}{r:Rq}(h:p.dev.busy[k]?=some r):p.nf.dev.busy[((k:Int)).toNat]?=some r.nf:=by
 rw[Int.toNat_natCast];show(p.dev.busy.map Rq.nf)[k]?=_;rw[List.getElem?_map,h];rfl
section
variable{p:Sk}{k:Nat}{r:Rq}
theorem zjH(h:p.dev.busy[k]?=some r):p.nf.end' (k:Int) false=(0,(((p.took k).did r).nf.wentWell r (zX p.dev r)).serve):=by
 unfold Sk.end';rw[if_neg (by omega),zfv h];simp only[Int.toNat_natCast,if_true];rw[zfy,zkU];rfl
theorem zgu(h:p.dev.busy[k]?=some r)(hf:p.f (r.tags.getD 0 0)<2):p.nf.end' (k:Int) true=(0,((p.took k).again r).nf):=by
 unfold Sk.end';rw[if_neg (by omega),zfv h];simp only[Int.toNat_natCast];rw[if_neg (by decide),if_pos (show p.nf.f (r.nf.tags.getD 0 0)<2 from hf),zfy,zqA]
theorem zht(h:p.dev.busy[k]?=some r)(hf:¬p.f (r.tags.getD 0 0)<2)(hw:r.wr=true):p.nf.end' (k:Int) true=(0,({ (p.took k).lost r with dead:=true }:Sk).nf.serve):=by
 unfold Sk.end';rw[if_neg (by omega),zfv h];simp only[Int.toNat_natCast];rw[if_neg (by decide),if_neg (show ¬p.nf.f (r.nf.tags.getD 0 0)<2 from hf),if_pos (show r.nf.wr=true from hw),zfy];rfl
theorem zhf(h:p.dev.busy[k]?=some r)(hf:¬p.f (r.tags.getD 0 0)<2)(hw:r.wr=false):p.nf.end' (k:Int) true=(0,((((p.took k).lost r).nf.readers (zam r.f r.m) ByteArray.empty 8).serve)):=by
 unfold Sk.end';rw[if_neg (by omega),zfv h];simp only[Int.toNat_natCast];rw[if_neg (by decide),if_neg (show ¬p.nf.f (r.nf.tags.getD 0 0)<2 from hf),if_neg (by rw[show r.nf.wr=false from hw];exact Bool.false_ne_true),zfy];rfl
end
theorem zip{p:Sk}{i:Int}(h:i<0∨(p.dev.busy.length:Int)≤i)(fl:Bool):p.nf.end' i fl=(5,p.nf):=by
 unfold Sk.end'
 by_cases h0:i<0
 ·rw[if_pos h0]
 ·rw[if_neg h0];have:p.nf.dev.busy[i.toNat]?=none:=by
   show(p.dev.busy.map Rq.nf)[i.toNat]?=none;rw[List.getElem?_eq_none];rw[List.length_map];omega
  rw[this]
section
variable{s:Nat}{p:Sk}{A:Sa}{w:World}{k:Nat}{r:Rq}
theorem zv.vreq(h:zv s p A w)(hI:Inv p)(hT:p.tags≤4000000000000000000)(hk:p.dev.busy[k]?=some r):zi4 A.bm p.dev k r (r.tags.getD 0 0):=by
 have hm:r∈p.queue++p.dev.busy:=List.mem_append_right _ (List.mem_of_getElem? hk);have g:=hI.good r hm;refine⟨hk,rfl,?_,g.t1,fun q hq=>?_⟩
 ·have h1:0<r.tags.length:=g.t1;have h2:r.tags.getD 0 0∈r.tags:=by
   rw[List.getD_eq_getElem?_getD,List.getElem?_eq_getElem h1,Option.getD_some];exact List.getElem_mem h1
  have h3:=hI.tin r hm _ h2;unfold zaj
  omega
 ·have:=h.mem.roff q (List.mem_append_right _ hq);exact⟨fun he ad ha e=>this.1 he ad ha (Or.inr (Or.inl (Or.inl e))),fun he ad ha e=>this.2 he ad ha (Or.inr (Or.inl (Or.inl e)))⟩
end
section
variable{s:Nat}{p p':Sk}{A A':Rs}{w w1:World}
theorem zjd(hs:zE s p A p' A' w w1)(r:Rq)(xa:Option Addr)(n xc:Nat)(er:Int):zE s p A p' A' w (zfk (w1.alloc (.cells #[.bool false,.int .i64 0,.int .i64 0,.slice none 0 0,.slice none 0 0,.int .i64 0,.slice none 0 0,.int .i64 0] 120)) w1.heap.size (.bool r.wr) (.int .i64 r.f) (.int .i64 r.m) (.slice r.da r.data.length r.dc) (.slice r.ta r.tags.length r.tc) (.int .i64 r.born) (.slice xa n xc) (.int .i64 er))∧zal (zfk (w1.alloc (.cells #[.bool false,.int .i64 0,.int .i64 0,.slice none 0 0,.slice none 0 0,.int .i64 0,.slice none 0 0,.int .i64 0] 120)) w1.heap.size (.bool r.wr) (.int .i64 r.f) (.int .i64 r.m) (.slice r.da r.data.length r.dc) (.slice r.ta r.tags.length r.tc) (.int .i64 r.born) (.slice xa n xc) (.int .i64 er)) w1.heap.size r xa n xc er:=by
 refine⟨hs.later ?_,zaT (zT (zaE w1 120)) (zaE w1 120).2.2⟩;exact(zn w1 _).trans ((zan _ w1.heap.size _ _ _ _ _ _ _ _).below (by simp) (fun k e=>by have e':k=w1.heap.size:=e;omega))
theorem zH.rvreq(h:zH s p A w)(hI:Inv p)(hT:p.tags≤4000000000000000000){k:Nat}{r:Rq}(hk:p.dev.busy[k]?=some r):zg1 A.bm A.m k r (r.tags.getD 0 0):=by
 have hm:r∈p.queue++p.dev.busy:=List.mem_append_right _ (List.mem_of_getElem? hk);have g:=hI.good r hm;refine⟨by rw[h.mem.busy];exact hk,rfl,?_,g.t1,fun q hq=>?_⟩
 ·have h1:0<r.tags.length:=g.t1;have h2:r.tags.getD 0 0∈r.tags:=by
   rw[List.getD_eq_getElem?_getD,List.getElem?_eq_getElem h1,Option.getD_some];exact List.getElem_mem h1
  have h3:=hI.tin r hm _ h2;unfold zaj
  omega
 ·rw[h.mem.busy] at hq;have:=h.mem.roff q (List.mem_append_right _ hq);exact⟨fun he ad ha e=>this.1 he ad ha (Or.inl (Or.inr (Or.inl (Or.inl e)))),fun he ad ha e=>this.2 he ad ha (Or.inl (Or.inr (Or.inl (Or.inl e))))⟩
end
theorem zo8(s:Nat)(p:Sk)(A:Rs)(w:World)(h:zH s p A w)(i:Int)(fl:Bool)(hi:i<0∨(p.dev.busy.length:Int)≤i) :
  Calls Tryz.prog 28 #[.pointer (some ⟨s,0,none⟩),.int .i64 i,.bool fl] w fun e w'=>e=.returned (.int .i64 5)∧KOk 1 s p A w w' p.nf:=by
 have c1:=h.cell 1 _ rfl;have hl:=h.lt;have HST:=za h;have HI:Hid (i<0∨(A.m.busy.length:Int)≤i):=by show _∨_;rw[h.mem.busy];exact hi
 clear h hi;go_enter Tryz.func28,Tryz.ntmps28;go_wp2_with fail;refine(zr0 A.v A.b A.bm A.m A.ra A.n A.D i fl w HST.out.mem.drv HI.out).mono ?_;rintro e w1 ⟨rfl,hb1⟩;have HS1:=za (zE.same' HST.out hb1);clear hb1;go_wp2_with(refine zP rfl (.tmp 7) (.tmp 28) rfl w1.heap.size rq0 none 0 0 0 rfl rfl (zT (zaE w1 120)) (fun wK=>zE s p A _ _ w wK∧zal wK w1.heap.size rq0 none 0 0 0) (zjd HS1.out rq0 none 0 0 0) ?_;rintro wK ⟨hsK,hrK⟩;have HSK:=za hsK;have HRK:=za hrK;obtain⟨⟨y0,y1,y2,y3,y4,y5,y6,y7⟩,-,yl⟩:=hrK;have lsK:=hsK.at'.lt;clear hsK HS1);go_ret;exact⟨rfl,_,_,HSK.out,rfl,by omega⟩
theorem zmo(s:Nat)(p:Sk)(A:Rs)(w:World)(h:zH s p A w)(hI:Inv p)(hT:p.tags≤4000000000000000000)(hA:A.cnt≤240000)(k:Nat)(r:Rq)(hk:p.dev.busy[k]?=some r)(hf:p.f (r.tags.getD 0 0)<2) :
  Calls Tryz.prog 28 #[.pointer (some ⟨s,0,none⟩),.int .i64 k,.bool true] w fun e w'=>e=.returned (.int .i64 0)∧KOk 1 s p A w w' ((p.took k).again r).nf:=by
 have c1:=h.cell 1 _ rfl;have hl:=h.lt;have HST:=za h;have HV:=za (h.rvreq hI hT hk);have HF:Hid (0≤p.f (r.tags.getD 0 0)∧p.f (r.tags.getD 0 0)<2):=⟨(hI.fr _).1,hf⟩
 have HN:Hid (A.n≤1000000000):=by have:=h.mem.nb;show _≤_;omega
 have HK:=za hk;clear h hI hT hA hk hf;go_enter Tryz.func28,Tryz.ntmps28;go_wp2_with fail;refine(zqx A.v A.b A.bm A.m A.ra A.n A.D k r _ _ w HST.out.mem.drv HV.out HST.out.mem.im (HST.out.mem.map _) HF.out HN.out).mono ?_;rintro e w1 ⟨a',rfl,hv⟩;have HS1:=za (zH.step (d':={ p.dev with busy:=p.dev.busy.eraseIdx k++[r] }) (f':=fun t=>if t=r.tags.getD 0 0 then p.f t+1 else p.f t) (p.ag+1) (A.cnt+1) HST.out hv (HST.out.mem.tied.busy _ _) (by show A.m.busy.eraseIdx k++[r]=p.dev.busy.eraseIdx k++[r];rw[HST.out.mem.busy]) (by have:=HST.out.mem.nb;omega) (by have:=HST.out.mem.wb;show A.m.waits.length≤_;omega) (by
  have hm:=HST.out.mem.map.put HST.out.mem.im (r.tags.getD 0 0) (p.f (r.tags.getD 0 0)+1);intro t;have:=hm t;rw[this]
  by_cases e:t=r.tags.getD 0 0
  ·simp only[e,if_true]
  ·simp only[e,if_false]) hv.at'.map.isMap (fun q hq=>by
   have hm:q∈p.dev.busy:=by
    rcases List.mem_append.1 hq with h'|h'
    ·exact List.mem_of_mem_eraseIdx h'
    ·rw[List.mem_singleton.1 h'];exact List.mem_of_getElem? HK.out
   exact HST.out.roffs hv hm))
 clear hv;go_wp2_with(refine zP rfl (.tmp 7) (.tmp 28) rfl w1.heap.size rq0 none 0 0 0 rfl rfl (zT (zaE w1 120)) (fun wK=>zE s p A _ _ w wK∧zal wK w1.heap.size rq0 none 0 0 0) (zjd HS1.out rq0 none 0 0 0) ?_;rintro wK ⟨hsK,hrK⟩;have HSK:=za hsK;have HRK:=za hrK;obtain⟨⟨y0,y1,y2,y3,y4,y5,y6,y7⟩,-,yl⟩:=hrK;have lsK:=hsK.at'.lt;clear hsK HS1);go_ret;exact⟨rfl,_,_,HSK.out,rfl,Nat.le_refl _⟩
theorem ziH(D:DataW Unit)(h:IsMap D)(k:Lit)(d:DataW Unit):IsMap (D.put k d):=by
 obtain⟨l,rfl⟩:=h;exact⟨_,rfl⟩
theorem znn(m:Rd)(r:Rq)(g:zA r):(m.did r).waits.length≤m.waits.length+4:=by
 have hw:∀n,(m.writesTo r n).waits.length=m.waits.length+n:=fun n=>by
  induction n with
  |zero=>rfl
  |succ n ih =>
   rw[Rd.writesTo_succ];show((m.writesTo r n).waits++[_]).length=_;rw[List.length_append,List.length_singleton,ih];omega
 have:=g.bndD;unfold Rd.did
 split
 ·rw[hw];omega
 ·omega
theorem zgh{d:Dl}{m:Rd}(h:zbu d m)(r:Rq):zX d r=zdh m r:=by
 unfold zX zdh
 split
 ·rfl
 ·unfold zbB zbt;rw[h.now]
theorem zjw{D:DataW Unit}{f:Int→Int}(h:zcr D f)(hD:IsMap D)(t c:Int)(hD2:IsMap (D.put (.int .i64 t) (.lit (.int .i64 c)))):zcr ((D.put (.int .i64 t) (.lit (.int .i64 c))).put (.int .i64 t) (.lit (.int .i64 0))) (fun x=>if x=t then 0 else f x):=by
 have h2:=(h.put hD t c).put hD2 t 0;intro x;have:=h2 x;rw[this]
 by_cases e:x=t
 ·simp only[e,if_true]
 ·simp only[e,if_false]
section
variable{s:Nat}{p:Sk}{A:Rs}{w w1:World}{k:Nat}{r:Rq}{a':Ra}{n':Nat}{D':DataW Unit}
theorem zH.lostAt(h:zH s p A w)(hs:zaY A.v A.b A.bm A.m A.ra A.n A.D { A.m with busy:=A.m.busy.eraseIdx k } a' n' D' w w1)(hn:n'≤2*(A.cnt+1))(hm:zcr D' (fun x=>if x=r.tags.getD 0 0 then 0 else p.f x)):zE s p A ((p.took k).lost r) { A with m:={ A.m with busy:=A.m.busy.eraseIdx k },ra:=a',n:=n',D:=D',cnt:=A.cnt+1 } w w1 :=
 zH.step (d':={ p.dev with busy:=p.dev.busy.eraseIdx k }) (f':=fun x=>if x=r.tags.getD 0 0 then 0 else p.f x) p.ag (A.cnt+1) h hs (h.mem.tied.busy _ _) (by show A.m.busy.eraseIdx k=p.dev.busy.eraseIdx k;rw[h.mem.busy]) hn (by have:=h.mem.wb;show A.m.waits.length≤_;omega) hm hs.at'.map.isMap (fun q hq=>h.roffs hs (List.mem_of_mem_eraseIdx hq))
end
theorem znB(s:Nat)(p:Sk)(A:Rs)(w:World)(h:zH s p A w)(hI:Inv p)(hL:zp p)(hT:p.tags≤3999999999999999990)(hU:p.uses≤3999999999999999990)(hA:A.cnt≤240000)(k:Nat)(r:Rq)(hk:p.dev.busy[k]?=some r)(hf:¬p.f (r.tags.getD 0 0)<2)(hw:r.wr=true)(q:Sk)(hq:({ (p.took k).lost r with dead:=true }:Sk).nf.serve=q) :
  Calls Tryz.prog 28 #[.pointer (some ⟨s,0,none⟩),.int .i64 k,.bool true] w fun e w'=>e=.returned (.int .i64 0)∧KOk 1 s p A w w' q:=by
 have c1:=h.cell 1 _ rfl;have hl:=h.lt;have HST:=za h;have HV:=za (h.rvreq hI (by omega) hk);have HF:Hid (2≤p.f (r.tags.getD 0 0)∧p.f (r.tags.getD 0 0)≤2):=⟨by omega,(hI.fr (r.tags.getD 0 0)).2⟩
 have HN:Hid (A.n≤1000000000):=by have:=h.mem.nb;show _≤_;omega
 have HIL:=za ((hI.took k).lost r true);have HLL:Hid (zp ({ (p.took k).lost r with dead:=true }:Sk)):=hL;have HQ:=za hq;have HB:=za (And.intro hT hU);clear h hI hT hU hk hf hq hL hA;go_enter Tryz.func28,Tryz.ntmps28;go_wp2_with fail;refine(znb A.v A.b A.bm A.m A.ra A.n A.D k r _ _ w HST.out.mem.drv HV.out HST.out.mem.im (HST.out.mem.map _) HF.out HN.out).mono ?_;rintro e w1 ⟨a',rfl,hv⟩;have HS1:=za (HST.out.lostAt (r:=r) hv (by have:=HST.out.mem.nb;omega) (zjw HST.out.mem.map HST.out.mem.im _ _ (ziH _ HST.out.mem.im _ _)));have HQS:Hid (s<w1.heap.size):=HS1.out.at'.lt;clear hv;go_upto_region 2 with(refine zP rfl (.tmp 7) (.tmp 28) rfl w1.heap.size r none 0 0 8 rfl rfl (zT (zaE w1 120)) (fun wK=>zE s p A _ _ w wK∧zal wK w1.heap.size r none 0 0 8) (zjd HS1.out r none 0 0 8) ?_;rintro wK ⟨hsK,hrK⟩;have HSK:=za hsK;have HRK:=za hrK;obtain⟨⟨y0,y1,y2,y3,y4,y5,y6,y7⟩,-,yl⟩:=hrK;have lsK:=hsK.at'.lt;clear hsK HS1)
 rw[hw] at y0;have z20:wK.cell? ⟨s,20,none⟩=some (.bool p.dead):=HSK.out.at'.cell 20 _ rfl;have x20:=HSK.out.at'.fz 20;have HSD:=za (HSK.out.trans (HSK.out.at'.setDead true));have hyd:(wK.setCell ⟨s,20,none⟩ (.bool true)).cell? ⟨w1.heap.size,0,none⟩=some (.bool true):=by
  have hs1:=HST.out.lt;have:=(HSK.out.at'.lt)
  rw[zV (Or.inr (by have:=HQS.out;omega))];exact y0
 have HYD:=za hyd;clear hyd;generalize p.dead=dd at *
 cases dd
 all_goals
  go_upto_region 6 with fail;refine zai (fun wy=>zE s p A ({ (p.took k).lost r with dead:=true }:Sk) _ w wy∧wy.cell? ⟨w1.heap.size,0,none⟩=some (.bool true)) ⟨HSD.out,HYD.out⟩ ?_;rintro wy ⟨hsy,y0y⟩;have HSY:=za hsy;have ly:=hsy.at'.lt;have lw1:=zg y0y;clear hsy HSD HYD HSK HRK y0 y1 y2 y3 y4 y5 y6 y7 yl z20 x20 lsK;go_wp2
  go_loopw[10] (fun x wr=>x=.int .i64 0∧wr=wy) (fun _ _=>0)
  case atStart=>exact⟨rfl,rfl⟩
  case round =>
   obtain⟨rfl,rfl⟩:=hrel;go_wp2_with fail;refine(zcu s _ _ _ HSY.out.at' HIL.out HLL.out HB.out.1 HB.out.2 q HQ.out).mono ?_;rintro e w4 ⟨rfl,hok⟩;have HO:Hid (KOk 1 s p A w w4 q):=KOk.before HSY.out (Nat.le_refl _) hok (Nat.le_refl _);clear hok;go_wp2;go_ret;exact⟨rfl,HO.out⟩
end Go.Proofs.YtlhgjplipgandaaGreat
