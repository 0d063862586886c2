/- Joined texts: RDev5, RDev6, RDev7. -/
import Derived.Test.YtlhgjplipgandaaGreatB21
set_option maxRecDepth 100000
set_option maxHeartbeats 8000000
set_option linter.unusedSimpArgs false
namespace Go.Proofs.YtlhgjplipgandaaGreat
open Go.RowKit Go.BigFrame
attribute [local go_sem] ze.cell ze.frozen
theorem zmD(d:Rd)(a:Ra)(l:List ByteArray)(h1:d.kept.length=32)(h3:l.length=32):splice (d.cells a) 0 (zaG l)=({ d with kept:=l }:Rd).cells a:=by
 have e1:(zaG d.kept).length=32:=by rw[zC,h1]
 have e3:(zaG l).length=32:=by rw[zC,h3]
 rw[splice,Rd.cells,Rd.cells,e3,List.take_zero,List.nil_append,List.append_assoc,List.drop_append,List.drop_eq_nil_of_le (by omega),List.nil_append,e1,show 0+32-32=0 by omega,List.drop_zero,List.append_assoc]
theorem zak.rangeNow{b:Nat}{d:Rd}{a:Ra}{w:World}(h:zak b d a w):w.rangeAt b 32 (zaG d.now):=fun j v hv=>by
 have hj:j<32:=by
  have:=(List.getElem?_eq_some_iff.1 hv).1;rw[zC,h.n32] at this;exact this
 rw[zy h.blk,Rd.cells,List.append_assoc,List.getElem?_append_right (by rw[zC,h.k32];omega),zC,h.k32,show 32+j-32=j by omega,List.getElem?_append_left (by rw[zC,h.n32];exact hj)];exact hv
theorem zak.there{b:Nat}{d:Rd}{a:Ra}{w:World}(h:zak b d a w)(o n:Nat)(ho:o+n≤66):w.there b o n:=fun j hj=>by
 refine⟨?_,h.fz _⟩;rw[zy h.blk,List.getElem?_eq_getElem (by rw[Rd.cells_length h.k32 h.n32];omega)]
 rfl
theorem zak.setKept{b:Nat}{d:Rd}{a:Ra}{w:World}(h:zak b d a w)(l:List ByteArray)(hl:l.length=32):zat b d a { d with kept:=l } a w (w.setCells b 0 (zaG l)):=by
 have e:(zaG l).length=32:=by rw[zC,hl]
 have blk:=zcC b 36 (zaG l) 0 _ _ h.blk (by rw[e,Rd.cells_length h.k32 h.n32];omega);rw[zmD d a l h.k32 hl] at blk;exact h.reblock (zfI b _ 0 _) blk rfl rfl hl h.n32
theorem zak.setNow1{b:Nat}{d:Rd}{a:Ra}{w:World}(h:zak b d a w){p:Nat}(hp:p<32)(s:ByteArray):zat b d a { d with now:=d.now.set p s } a w (w.setCell ⟨b,32+p,none⟩ (.string s)) :=
 h.reblock ((zo.refl (fun k=>k=b) w).setCell ⟨b,32+p,none⟩ (Or.inl rfl) _) (by rw[zK h.blk,zkb d a p s h.k32 h.n32 hp]) rfl rfl h.k32 (by simpa using h.n32)
theorem zak.noWaits{b:Nat}{d:Rd}{a:Ra}{w:World}(h:zak b d a w):zat b d a { d with waits:=[] } { a with wa:=none,wc:=0 } w (w.setCell ⟨b,64,none⟩ (.slice none 0 0)):=by
 obtain⟨x,c,hv,hs⟩:=h.rewaits (Below.refl _ _) [] (by simp) (World.ownsRow_nil w 0 181 2) (zo.refl _ _) (fun g hg=>by cases hg);simp only[Value.slice.injEq] at hv;obtain⟨rfl,_,rfl⟩:=hv;exact hs
theorem zak.noBusy{b:Nat}{d:Rd}{a:Ra}{w:World}(h:zak b d a w):zat b d a { d with busy:=[] } { a with la:=none,lc:=0 } w (w.setCell ⟨b,65,none⟩ (.slice none 0 0)) :=
 h.busied (Below.refl _ _) [] (by simp) none 0 ⟨Or.inl rfl,by simp,by simp⟩ (fun _=>rfl) (by simp) (fun h=>absurd rfl h) (by simp)
theorem znM(b:Nat)(d:Rd)(a:Ra)(w:World)(h:zak b d a w) :
  Calls Tryz.prog 77 #[.pointer (some ⟨b,0,none⟩)] w fun e w'=>e=.returned (.tuple #[])∧zat b d a d.flush { a with wa:=none,wc:=0 } w w':=by
 have HD:=za h;have hl:=h.lt;have HE:Hid ((zaG d.now).length=32):=by show _=_;rw[zC];exact h.n32
 have S1:=h.setKept d.now h.n32;have S2:=S1.trans S1.dev.noWaits;have c64:=S1.dev.c64;have f64:=S1.dev.fz 64;have HS2:=za S2;clear h S1 S2;go_enter Tryz.func77,Tryz.ntmps77;go_wp2_with(first|(refine wpList_load_mid rfl 32 (.tmp 5) rfl b 32 rfl (zaG d.now) _ HD.out.rangeNow Tryz.underlying32 rfl (by rw[HE.out];exact ziI) ?_)|(refine wpList_store_mid rfl 32 (.tmp 8) (.tmp 6) rfl b 0 (zaG d.now).toArray rfl rfl (by rw[List.size_toArray,HE.out];exact HD.out.there 0 32 (by omega)) (by rw[List.size_toArray,HE.out];exact ziI) (all_oneCell_toArray (zkZ _)) ?_;simp only));go_end0;exact⟨rfl,HS2.out⟩

theorem zat.other{b:Nat}{d d':Rd}{a a':Ra}{w w' w'':World}{q:Nat}(h:zat b d a d' a' w w')(hO:zo (fun k=>k=q) w' w'')(hq:w.heap.size≤q)(nf:¬a'.foot b q)(nl:d'.busy ≠ []→∀p,a'.la=some p→p.block ≠ q)(nr:∀r∈d'.busy,r.Off (fun k=>k=q)):zat b d a d' a' w w'' :=
 ⟨h.dev.frame hO (fun k hk e=>nf (e▸hk)) nl nr,h.only.trans hO (fun i e=>Or.inr (by subst e;exact hq)),h.foot,h.lan⟩
theorem zpb(b:Nat)(d:Rd)(a:Ra)(i:Int)(fl:Bool)(w:World)(h:zak b d a w)(hi:i<0∨(d.busy.length:Int)≤i) :
  Calls Tryz.prog 102 #[.pointer (some ⟨b,0,none⟩),.int .i64 i,.bool fl] w fun e w'=>e=.returned (.tuple #[zcM,.int .i64 5])∧Below w.heap.size w w':=by
 have c:=h.c65;have hl:=h.lt;clear h;have hz:=zaE w 120;have HZ:=za hz;have HB:=za (zn w (.cells #[.bool false,.int .i64 0,.int .i64 0,.slice none 0 0,.slice none 0 0,.int .i64 0,.slice none 0 0,.int .i64 0] 120));clear hz
 by_cases h0:i<0
 ·go_enter Tryz.func102,Tryz.ntmps102;go_wp2_with(refine zP rfl (.tmp 6) (.tmp 23) rfl w.heap.size rq0 none 0 0 0 rfl rfl (zT HZ.out) (fun wK=>Below w.heap.size w wK∧zal wK w.heap.size rq0 none 0 0 0) ⟨HB.out.trans ((zan _ w.heap.size _ _ _ _ _ _ _ _).below (by simp) (fun i e=>by omega)),zaT (zT HZ.out) HZ.out.2.2⟩ ?_;rintro w3 ⟨hb3,⟨z0,z1,z2,z3,z4,z5,z6,z7⟩,-,-⟩;have HB3:=za hb3;clear hb3);exact bodyPost_ret (v:=.tuple #[zcM,.int .i64 5]) (by simp[results,Tryz.results102,go_sem,z0,z1,z2,z3,z4,z5,z6,z7,rq0]) rfl ⟨rfl,HB3.out⟩
 ·have h1:(d.busy.length:Int)≤i:=hi.resolve_left h0;go_enter Tryz.func102,Tryz.ntmps102;go_wp2_with(refine zP rfl (.tmp 6) (.tmp 23) rfl w.heap.size rq0 none 0 0 0 rfl rfl (zT HZ.out) (fun wK=>Below w.heap.size w wK∧zal wK w.heap.size rq0 none 0 0 0) ⟨HB.out.trans ((zan _ w.heap.size _ _ _ _ _ _ _ _).below (by simp) (fun i e=>by omega)),zaT (zT HZ.out) HZ.out.2.2⟩ ?_;rintro w3 ⟨hb3,⟨z0,z1,z2,z3,z4,z5,z6,z7⟩,-,-⟩;have HB3:=za hb3;clear hb3);exact bodyPost_ret (v:=.tuple #[zcM,.int .i64 5]) (by simp[results,Tryz.results102,go_sem,z0,z1,z2,z3,z4,z5,z6,z7,rq0]) rfl ⟨rfl,HB3.out⟩
structure Out(b:Nat)(d:Rd)(a:Ra)(k:Nat)(r:Rq)(a':Ra)(w w4:World):Prop where
 step:zat b d a { d with busy:=d.busy.eraseIdx k } a' w w4
 zero:zcj w4 w.heap.size
 box:za3 w4 (w.heap.size+1) r
 nf:∀q,w.heap.size≤q→¬a'.foot b q
 nl:∀p,a'.la=some p→w.heap.size+2≤p.block
 at':r.At w4
 off:r.Off (a'.foot b)
 same:a'.foot b=a.foot b
theorem Out.nr{b:Nat}{d:Rd}{a:Ra}{k:Nat}{r:Rq}{a':Ra}{w w4:World}(_h:Out b d a k r a' w w4)(hd:zak b d a w)(q:Nat)(hq:w.heap.size≤q):∀x∈d.busy.eraseIdx k,x.Off (fun j=>j=q):=fun x hx =>
 zcd (hd.lrow.2.1 x (List.mem_of_mem_eraseIdx hx)) (fun j e=>by omega)
theorem zgw{b:Nat}{d:Rd}{a:Ra}{w w2 w3:World}{k:Nat}(hk:k<d.busy.length)(h:zak b d a w)(hb:Below w.heap.size w w2)(hz:zcj w2 w.heap.size)(hx:za3 w2 (w.heap.size+1) d.busy[k])(hs:w.heap.size+2≤w2.heap.size){x:Option Addr}{c:Nat}(hb3:Below w2.heap.size w2 w3)(hN:zhP w2.heap.size w3 x c (d.busy.eraseIdx k)) :
  Out b d a k d.busy[k] { a with la:=x,lc:=c } w (w3.setCell ⟨b,65,none⟩ (.slice x (d.busy.eraseIdx k).length c)):=by
 have hl:=h.lt;have hst:=h.busied (zb hb hb3) (d.busy.eraseIdx k) (by have:=h.blen;rw[List.length_eraseIdx];split<;>omega) x c hN.here hN.nil hN.cap (fun _ p hp=>by have:=hN.new p hp;omega) (fun r hr=>⟨h.lrow.2.1 r (List.mem_of_mem_eraseIdx hr),h.reqs r (List.mem_of_mem_eraseIdx hr)⟩);have hO:zo (fun j=>j=b) w3 (w3.setCell ⟨b,65,none⟩ (.slice x (d.busy.eraseIdx k).length c)):=zo.of_set _;have hm:=List.getElem_mem hk;exact {
  step:=hst
  zero:=(hz.only (F:=fun _=>False) (zo.of_below hb3) (fun e=>e)).only hO (by omega)
  box:=(hx.later hb3).only hO (by omega)
  nf:=fun q hq e=>by have:=h.footLt q e;omega
  nl:=fun p hp=>by have:=hN.new p hp;omega
  at':=(h.lrow.2.1 _ hm).frame (h.reqs _ hm) hst.only
  off:=h.reqs _ hm
  same:=rfl }
theorem zak.lplace{b:Nat}{d:Rd}{a:Ra}{w:World}(h:zak b d a w){k:Nat}(hk:k<d.busy.length):∃g o,a.la=some ⟨g,o,none⟩∧w.cell? ⟨g,o+k*6,none⟩=some (.bool d.busy[k].wr)∧w.cell? ⟨g,o+k*6+1,none⟩=some (.int .i64 d.busy[k].f)∧w.cell? ⟨g,o+k*6+2,none⟩=some (.int .i64 d.busy[k].m) ∧
   w.cell? ⟨g,o+k*6+3,none⟩=some (.slice d.busy[k].da d.busy[k].data.length d.busy[k].dc)∧w.cell? ⟨g,o+k*6+4,none⟩=some (.slice d.busy[k].ta d.busy[k].tags.length d.busy[k].tc)∧w.cell? ⟨g,o+k*6+5,none⟩=some (.int .i64 d.busy[k].born):=by
 have hl:=h.lrow
 rcases hl.form with e|⟨g,o,e⟩
 ·rw[e] at hk;exact absurd hk (Nat.not_lt_zero _)
 ·rw[e] at hl;exact⟨g,o,e,hl.cells hk⟩
theorem zoq(b:Nat)(d:Rd)(a:Ra)(k:Nat)(hk:k<d.busy.length)(w:World)(h:zak b d a w) :
  Calls Tryz.prog 102 #[.pointer (some ⟨b,0,none⟩),.int .i64 k,.bool true] w fun e w'=>∃a',e=.returned (.tuple #[zaI d.busy[k] none 0 0 8,.int .i64 0])∧a'.wa=a.wa∧zat b d a { d with busy:=d.busy.eraseIdx k } a' w w':=by
 have hl:=h.lt;have HD:=za h;have h0:¬(k:Int)<0:=(by omega);have h1:¬(d.busy.length:Int)≤(k:Int):=(by omega);have h2:(k:Int)<(d.busy.length:Int):=(by omega);have hk2:(k:Int)≤1:=(by have:=h.blen;omega);have c:=h.c65;obtain⟨g,o,hg0,r0,r1,r2,r3,r4,r5⟩:=h.lplace hk;have hR:=h.lrow;have hcap:=h.lcap;rw[hg0] at c hR;have HR:=za (⟨hR,hcap⟩:_∧_);have lg:=zg r0;have HBL:=za h.blen;clear h hR hcap hg0;generalize hr:d.busy[k]=r at *;have HRR:=za hr;clear hr;go_enter Tryz.func102,Tryz.ntmps102;go_wp2_with fail;have hB2:=zbm w (.cells #[.bool false,.int .i64 0,.int .i64 0,.slice none 0 0,.slice none 0 0,.int .i64 0,.slice none 0 0,.int .i64 0] 120) (.cells #[.bool r.wr,.int .i64 r.f,.int .i64 r.m,.slice r.da r.data.length r.dc,.slice r.ta r.tags.length r.tc,.int .i64 r.born] 111);refine(zdF d.busy g o a.lc k _ (HR.out.1.later hB2) (by have:=HBL.out;omega) HR.out.2 hk).mono ?_;rintro e w3 ⟨xa,xc,rfl,hN,hb3⟩;have hz2:=(zaE w 120).only (F:=fun _=>False) ((zo.refl _ _).alloc (.cells #[.bool r.wr,.int .i64 r.f,.int .i64 r.m,.slice r.da r.data.length r.dc,.slice r.ta r.tags.length r.tc,.int .i64 r.born] 111)) (fun e=>e);have hx2:=zb5 (w.alloc (.cells #[.bool false,.int .i64 0,.int .i64 0,.slice none 0 0,.slice none 0 0,.int .i64 0,.slice none 0 0,.int .i64 0] 120)) 111 r;rw[World.size_alloc] at hx2;have hO:=zgw hk HD.out hB2 hz2 (by rw[HRR.out];exact hx2) (by simp) hb3 hN;rw[HRR.out] at hO;have c3:=(HD.out.later (zb hB2 hb3)).c65;have f3:=(HD.out.later (zb hB2 hb3)).fz 65;have l3:=(HD.out.later (zb hB2 hb3)).lt;have HO:=za hO;clear hz2 hx2 hO hN hb3 hB2 r0 r1 r2 r3 r4 r5 c lg;obtain⟨x0,x1,x2,x3,x4,x5⟩:=id HO.out.box;generalize hW:w3.setCell ⟨b,65,none⟩ (.slice xa (d.busy.eraseIdx k).length xc)=w4 at *;go_wp2_with(refine zP rfl (.tmp 6) (.tmp 42) rfl w.heap.size r none 0 0 8 rfl rfl (zT HO.out.zero) (fun wK=>zat b d a { d with busy:=d.busy.eraseIdx k } { a with la:=xa,lc:=xc } w wK∧zal wK w.heap.size r none 0 0 8) ⟨HO.out.step.other (zan _ w.heap.size _ _ _ _ _ _ _ _) (Nat.le_refl _) (HO.out.nf _ (Nat.le_refl _)) (fun _ p hp=>by have:=HO.out.nl p hp;omega) (HO.out.nr HD.out _ (Nat.le_refl _)),zaT (zT HO.out.zero) HO.out.zero.2.2⟩ ?_;rintro w5 ⟨hs5,⟨z0,z1,z2,z3,z4,z5,z6,z7⟩,-,-⟩;have HS5:=za hs5;clear hs5);exact bodyPost_ret (v:=.tuple #[zaI r none 0 0 8,.int .i64 0]) (by simp[results,Tryz.results102,go_sem,z0,z1,z2,z3,z4,z5,z6,z7]) rfl ⟨{ a with la:=xa,lc:=xc },rfl,rfl,HS5.out⟩
theorem zlN(r:Rq)(g:zA r):∃F M:Nat,r.f=F∧r.m=M∧F+M≤32∧1≤M∧M≤4∧r.f.toNat=F∧r.m.toNat=M:=by
 have h1:=g.ok;simp only[okB,decide_eq_true_eq] at h1;exact⟨r.f.toNat,r.m.toNat,by omega,by omega,by omega,by omega,by omega,rfl,rfl⟩
theorem infoP:(Tryz.prog.info? 181).map (fun i=>(i.zero,i.size,i.bytes))=some (some (.agg #[.int .i64 0,.string ByteArray.empty]),2,24):=by kernel_rfl
def LS(w:World)(q b j:Nat)(v:Value)(da:Option Addr)(n dc db o:Nat)(s:ByteArray):Prop:=w.cell? ⟨q,3,none⟩=some (.slice da n dc)∧w.cell? ⟨db,o,none⟩=some (.string s)∧b<w.heap.size∧w.cell? ⟨b,j,none⟩=some v∧w.frozen? ⟨b,j,none⟩=false
theorem LS.later{w w':World}{q b j:Nat}{v:Value}{da:Option Addr}{n dc db o:Nat}{s:ByteArray}(h:LS w q b j v da n dc db o s)(hb:Below w.heap.size w w'):LS w' q b j v da n dc db o s :=
 ⟨zas hb h.1,zas hb h.2.1,Nat.lt_of_lt_of_le h.2.2.1 hb.size,zas hb h.2.2.2.1,by rw[hb.frozen (p:=⟨b,j,none⟩) h.2.2.1];exact h.2.2.2.2⟩
theorem zak.now1{b:Nat}{d:Rd}{a:Ra}{w:World}(h:zak b d a w){p:Nat}(hp:p<32):w.cell? ⟨b,32+p,none⟩=some (.string (d.now.getD p ByteArray.empty))∧w.frozen? ⟨b,32+p,none⟩=false:=⟨h.cNow p hp,h.fz _⟩
theorem znQ(b:Nat)(d:Rd)(a:Ra)(k:Nat)(hk:k<d.busy.length)(w:World)(h:zak b d a w)(gr:zA d.busy[k])(hw:d.busy[k].wr=true)(hW4:d.waits.length≤1000000) :
  Calls Tryz.prog 102 #[.pointer (some ⟨b,0,none⟩),.int .i64 k,.bool false] w fun e w'=>∃a',e=.returned (.tuple #[zaI d.busy[k] none 0 0 0,.int .i64 0])∧zat b d a (({ d with busy:=d.busy.eraseIdx k }:Rd).writesTo d.busy[k] d.busy[k].m.toNat) a' w w':=by
 have hdl:(d.busy[k].data.length:Int)=d.busy[k].m:=by
  have:=gr.shape;simp only[zbR,hw,if_true,decide_eq_true_eq] at this;exact this
 have HW:=za hw;have HDL:=za hdl;have HWN:=za (zlN _ gr);clear hw gr hdl;have hl:=h.lt;have HD:=za h;have h0:¬(k:Int)<0:=(by omega);have h1:¬(d.busy.length:Int)≤(k:Int):=(by omega);have h2:(k:Int)<(d.busy.length:Int):=(by omega);have hk2:(k:Int)≤1:=(by have:=h.blen;omega);have c:=h.c65;obtain⟨g,o,hg0,r0,r1,r2,r3,r4,r5⟩:=h.lplace hk;have hR:=h.lrow;have hcap:=h.lcap;rw[hg0] at c hR;have HR:=za (⟨hR,hcap⟩:_∧_);have lg:=zg r0;have HBL:=za h.blen;clear h hR hcap hg0;generalize hr:d.busy[k]=r at *;have HRR:=za hr;clear hr;go_enter Tryz.func102,Tryz.ntmps102;go_wp2_with fail;have hB2:=zbm w (.cells #[.bool false,.int .i64 0,.int .i64 0,.slice none 0 0,.slice none 0 0,.int .i64 0,.slice none 0 0,.int .i64 0] 120) (.cells #[.bool r.wr,.int .i64 r.f,.int .i64 r.m,.slice r.da r.data.length r.dc,.slice r.ta r.tags.length r.tc,.int .i64 r.born] 111);refine(zdF d.busy g o a.lc k _ (HR.out.1.later hB2) (by have:=HBL.out;omega) HR.out.2 hk).mono ?_;rintro e w3 ⟨xa,xc,rfl,hN,hb3⟩;have hz2:=(zaE w 120).only (F:=fun _=>False) ((zo.refl _ _).alloc (.cells #[.bool r.wr,.int .i64 r.f,.int .i64 r.m,.slice r.da r.data.length r.dc,.slice r.ta r.tags.length r.tc,.int .i64 r.born] 111)) (fun e=>e);have hx2:=zb5 (w.alloc (.cells #[.bool false,.int .i64 0,.int .i64 0,.slice none 0 0,.slice none 0 0,.int .i64 0,.slice none 0 0,.int .i64 0] 120)) 111 r;rw[World.size_alloc] at hx2;have hO:=zgw hk HD.out hB2 hz2 (by rw[HRR.out];exact hx2) (by simp) hb3 hN;rw[HRR.out] at hO;have c3:=(HD.out.later (zb hB2 hb3)).c65;have f3:=(HD.out.later (zb hB2 hb3)).fz 65;have l3:=(HD.out.later (zb hB2 hb3)).lt;have HO:=za hO;clear hz2 hx2 hO hN hb3 hB2 r0 r1 r2 r3 r4 r5 c lg;obtain⟨x0,x1,x2,x3,x4,x5⟩:=id HO.out.box;generalize hW:w3.setCell ⟨b,65,none⟩ (.slice xa (d.busy.eraseIdx k).length xc)=w4 at *;have HX4:=za (id HO.out.box);have hz9:=za (zaE w4 120);go_wp2_with(refine zP rfl (.tmp 9) (.tmp 44) rfl w4.heap.size r none 0 0 0 rfl rfl (zT hz9.out) (fun wK=>Below w4.heap.size w4 wK∧zal wK w4.heap.size r none 0 0 0) ⟨((zn w4 _)).trans ((zan _ w4.heap.size _ _ _ _ _ _ _ _).below (by simp) (fun i e=>by omega)),zaT (zT hz9.out) hz9.out.2.2⟩ ?_;rintro w5 ⟨hb5,hr5⟩;have HB5:=za hb5;have HR5:=za hr5;clear hb5 hr5);obtain⟨F,M,hF,hM,hFM,hM1,hM4,tF,tM⟩:=HWN.out;have hD5:=HO.out.step.later HB5.out;have HD5:=za hD5;have hq1:w.heap.size+1<w4.heap.size:=zg x0;have hx5:=HX4.out.later HB5.out;have HX5:=za hx5;have HZ5:=za (HO.out.zero.only (F:=fun _=>False) (zo.of_below HB5.out) (fun e=>e));have HAT5:=za (HO.out.at'.later HB5.out);have hs5:w4.heap.size<w5.heap.size:=HR5.out.2.2;obtain⟨d1,hd1⟩:∃d1:Rd,d1={ d with busy:=d.busy.eraseIdx k }:=⟨_,rfl⟩
 obtain⟨a1,ha1⟩:∃a1:Ra,a1={ a with la:=xa,lc:=xc }:=⟨_,rfl⟩
 rw[←hd1,←ha1] at HD5;have hO2:=HO.out;rw[←ha1] at hO2;have HO2:=za hO2;have hwl:d1.waits.length≤1000000:=by rw[hd1];exact hW4
 have HD1:=za hd1;have HA1:=za ha1;have HQ:=za (⟨hF,hM,tF,tM⟩:_∧_∧_∧_);clear hd1 ha1 hO2 x0 x1 x2 x3 x4 x5 hD5 hx5 hF hM tF tM HO hW c3 f3 l3 hz9
 go_loopw[10] (fun i wr=>∃(j:Nat) (a':Ra),j≤M∧i=.int .i64 j∧(d1.writesTo r j).waits.length=d1.waits.length+j∧a'.la=a1.la∧zat b d1 a1 (d1.writesTo r j) a' w5 wr) (fun i _=>M-(intOf i).toNat)
 case atStart=>exact⟨0,a1,by omega,rfl,rfl,rfl,zat.same HD5.out.dev (Below.refl _ _)⟩
 case round =>
  obtain⟨j,a',hj,rfl,hwj,hla,hs⟩:=hrel;have HLA:=za hla;have HS2:=za hs;have HWJ:=za hwj;have hbx:=HX5.out.only hs.only (fun e=>by have:=HO2.out.nf (w.heap.size+1) (by omega);exact this e);have lb:=hs.dev.lt;have HBX:=za hbx;obtain⟨x0,x1,x2,x3,x4,x5⟩:=hbx;rw[HW.out] at x0;rw[HQ.out.1] at x1;rw[HQ.out.2.1] at x2;have l1:=zg x0;clear hs hwj hla
  by_cases hlt:j<M
  ·have hlt':(j:Int)<(M:Int):=by omega
   have hjd:j<r.data.length:=by have:=HDL.out;have:=HQ.out.2.1;omega
   have hjd':(j:Int)<(r.data.length:Int):=by omega
   have hj0:(0:Int)≤(j:Int):=by omega
   obtain⟨P,hP⟩:∃P:Nat,P=F+j:=⟨_,rfl⟩
   have hPi:(F:Int)+(j:Int)=(P:Int):=by omega
   have hP32:P<32:=by omega
   have hP32':(P:Int)<32:=by omega
   have hP0:(0:Int)≤(P:Int):=by omega
   have hat:=HAT5.out.frame HO2.out.off HS2.out.only;obtain⟨db,do',hda,hdc⟩:∃db do',r.da=some ⟨db,do',none⟩∧wr.cell? ⟨db,do'+j,none⟩=some (.string (r.data.getD j ByteArray.empty)):=by
    rcases hat.data with h|⟨db,o,h,hc⟩
    ·rw[h] at hjd;exact absurd hjd (Nat.not_lt_zero _)
    ·exact⟨db,o,h,hc j hjd⟩
   have HAT:=za hat;obtain⟨s,hs'⟩:∃s,s=r.data.getD j ByteArray.empty:=⟨_,rfl⟩
   have HSS:=za hs';rw[←hs'] at hdc;rw[hda] at x3;obtain⟨n1,n2⟩:=HS2.out.dev.now1 hP32;obtain⟨old,hold⟩:∃old,(d1.writesTo r j).now.getD P ByteArray.empty=old:=⟨_,rfl⟩
   rw[hold] at n1;have HPF:=za hP;have HDA:=za hda;have ldb:=zg hdc;clear hat hs' hold hP hda;have HS:Hid (LS wr.drew (w.heap.size+1) b (32+P) (.string old) (some ⟨db,do',none⟩) r.data.length r.dc db (do'+j) s):=⟨x3,hdc,lb,n1,n2⟩
   go_wp2_with fail;refine zaJ (S:=fun wz=>LS wz (w.heap.size+1) b (32+P) (.string old) (some ⟨db,do',none⟩) r.data.length r.dc db (do'+j) s) (d:=10) (by kernel_rfl) ?_;refine tk 0 ?_ rfl (Or.inl ⟨by rfl,?_⟩) HS.out ?_;rotate_left;(focus(intro w0 hSw;obtain⟨s0,s1,s2,s3,s4⟩:=hSw;go_simp;(try with_reducible rfl)));(try simp only[Act.put,dP])
   refine tk 1 ?_ rfl (Or.inl ⟨by rfl,?_⟩) HS.out ?_;rotate_left;(focus(intro w0 hSw;obtain⟨s0,s1,s2,s3,s4⟩:=hSw;go_simp;(try with_reducible rfl)));(try simp only[Act.put,dP])
   refine tk 2 ?_ rfl (Or.inl ⟨by rfl,?_⟩) HS.out ?_;rotate_left;(focus(intro w0 hSw;obtain⟨s0,s1,s2,s3,s4⟩:=hSw;go_simp;(try with_reducible rfl)));(try simp only[Act.put,dP])
   refine tk 3 ?_ rfl (Or.inl ⟨by rfl,?_⟩) HS.out ?_;rotate_left;(focus(intro w0 hSw;obtain⟨s0,s1,s2,s3,s4⟩:=hSw;go_simp;(try with_reducible rfl)));(try simp only[Act.put,dP])
   refine tk 4 ?_ rfl (Or.inl ⟨by rfl,?_⟩) HS.out ?_;rotate_left;(focus(intro w0 hSw;obtain⟨s0,s1,s2,s3,s4⟩:=hSw;go_simp;(try with_reducible rfl)));(try simp only[Act.put,dP])
   refine tk 5 ?_ rfl (Or.inl ⟨by rfl,?_⟩) HS.out ?_;rotate_left;(focus(intro w0 hSw;obtain⟨s0,s1,s2,s3,s4⟩:=hSw;go_simp;(try with_reducible rfl)));(try simp only[Act.put,dP])
   refine tk 6 ?_ rfl (Or.inl ⟨by rfl,?_⟩) HS.out ?_;rotate_left;(focus(intro w0 hSw;obtain⟨s0,s1,s2,s3,s4⟩:=hSw;go_simp;(try with_reducible rfl)));(try simp only[Act.put,dP])
   refine zw (i:=7) rfl (by kernel_rfl) ?_;intro K hK;go_simp;refine hK _ _ (fun _=>HS.out) ?_;(try simp only[Act.put,dP]);clear hK;refine zw (i:=8) rfl (by kernel_rfl) ?_;intro K hK;go_simp;refine hK _ _ (fun _=>HS.out) ?_;(try simp only[Act.put,dP]);clear hK;refine zw (i:=9) rfl (by kernel_rfl) ?_;intro K hK;go_simp;refine hK _ _ (fun _=>HS.out) ?_;(try simp only[Act.put,dP]);clear hK;refine zw (i:=10) rfl (by kernel_rfl) ?_;intro K hK;go_simp;refine hK _ _ (fun h=>absurd rfl h) ?_;(try simp only[Act.put,dP]);clear hK;refine zaO (by kernel_rfl) ?_ _;go_wp2_with fail;have hs6:=(HS2.out.trans (HS2.out.dev.setNow1 hP32 s)).drewAt;refine zai (fun wK=>zat b d1 a1 { d1.writesTo r j with now:=(d1.writesTo r j).now.set P s } a' w5 wK) hs6 ?_;clear hs6 HS n1 n2 x0 x1 x2 x3 x4 x5 hdc lb l1 ldb HAT HBX;intro w6 hs6;have HS6:=za hs6;have hbx:=HX5.out.only hs6.only (fun e=>by have:=HO2.out.nf (w.heap.size+1) (by omega);exact this e);have lb:=hs6.dev.lt;obtain⟨x0,x1,x2,x3,x4,x5⟩:=hbx;rw[HDA.out] at x3;have hat:=HAT5.out.frame HO2.out.off hs6.only;have hdc:w6.cell? ⟨db,do'+j,none⟩=some (.string s):=by
    rcases hat.data with h|⟨db2,o2,h,hc⟩
    ·rw[h] at hjd;exact absurd hjd (Nat.not_lt_zero _)
    ·rw[HDA.out] at h;simp only[Option.some.injEq,Addr.mk.injEq,and_true] at h;obtain⟨rfl,rfl⟩:=h;rw[HSS.out];exact hc j hjd
   have c64:=hs6.dev.c64;have f64:=hs6.dev.fz 64;have hfin:=hs6.dev.wfin;have hwr6:=za hs6.dev.wrow;have hwn:=HWJ.out;simp only at c64 hfin hwr6;have HFIN:=za hfin;generalize hN:(d1.writesTo r j).waits=W at *;have HN:=za hN;obtain⟨iP,hi,hz0,hz1,hz2⟩:=zaL infoP;have HI:=za (⟨hi,hz0,hz1,hz2⟩:Tryz.prog.info? 181=some iP∧_∧_∧_);have hWb:W.length≤1000010:=by omega
   have HWB:=za hWb;have HS:Hid (LS w6.drew (w.heap.size+1) b 64 (.slice a'.wa W.length a'.wc) (some ⟨db,do',none⟩) r.data.length r.dc db (do'+j) s):=⟨x3,hdc,lb,c64,f64⟩
   clear hs6 hat hfin hwn hN hi hz0 hz1 hz2 hWb;refine zaJ (S:=fun wz=>LS wz (w.heap.size+1) b 64 (.slice a'.wa W.length a'.wc) (some ⟨db,do',none⟩) r.data.length r.dc db (do'+j) s) (d:=16) (by kernel_rfl) ?_;refine tk 0 ?_ rfl (Or.inl ⟨by rfl,?_⟩) HS.out ?_;rotate_left;(focus(intro w0 hSw;obtain⟨s0,s1,s2,s3,s4⟩:=hSw;go_simp;(try with_reducible rfl)));(try simp only[Act.put,dP])
   refine tk 1 ?_ rfl (Or.inl ⟨by rfl,?_⟩) HS.out ?_;rotate_left;(focus(intro w0 hSw;obtain⟨s0,s1,s2,s3,s4⟩:=hSw;go_simp;(try with_reducible rfl)));(try simp only[Act.put,dP])
   refine tk 2 ?_ rfl (Or.inl ⟨by rfl,?_⟩) HS.out ?_;rotate_left;(focus(intro w0 hSw;obtain⟨s0,s1,s2,s3,s4⟩:=hSw;go_simp;(try with_reducible rfl)));(try simp only[Act.put,dP])
   refine tk 3 ?_ rfl (Or.inl ⟨by rfl,?_⟩) HS.out ?_;rotate_left;(focus(intro w0 hSw;obtain⟨s0,s1,s2,s3,s4⟩:=hSw;go_simp;(try with_reducible rfl)));(try simp only[Act.put,dP])
   refine tk 4 ?_ rfl (Or.inl ⟨by rfl,?_⟩) HS.out ?_;rotate_left;(focus(intro w0 hSw;obtain⟨s0,s1,s2,s3,s4⟩:=hSw;go_simp;(try with_reducible rfl)));(try simp only[Act.put,dP])
   refine tk 5 ?_ rfl (Or.inl ⟨by rfl,?_⟩) HS.out ?_;rotate_left;(focus(intro w0 hSw;obtain⟨s0,s1,s2,s3,s4⟩:=hSw;go_simp;(try with_reducible rfl)));(try simp only[Act.put,dP])
   refine tk 6 ?_ rfl (Or.inl ⟨by rfl,?_⟩) HS.out ?_;rotate_left;(focus(intro w0 hSw;obtain⟨s0,s1,s2,s3,s4⟩:=hSw;go_simp;(try with_reducible rfl)));(try simp only[Act.put,dP])
   refine tk 7 ?_ rfl (Or.inl ⟨by rfl,?_⟩) HS.out ?_;rotate_left;(focus(intro w0 hSw;obtain⟨s0,s1,s2,s3,s4⟩:=hSw;go_simp;(try with_reducible rfl)));(try simp only[Act.put,dP])
   refine tk 8 ?_ rfl (Or.inl ⟨by rfl,?_⟩) HS.out ?_;rotate_left;(focus(intro w0 hSw;obtain⟨s0,s1,s2,s3,s4⟩:=hSw;go_simp;(try with_reducible rfl)));(try simp only[Act.put,dP])
   refine tk 9 ?_ rfl (Or.inl ⟨by rfl,?_⟩) HS.out ?_;rotate_left;(focus(intro w0 hSw;obtain⟨s0,s1,s2,s3,s4⟩:=hSw;go_simp;(try with_reducible rfl)));(try simp only[Act.put,dP])
   refine tk 10 ?_ rfl (Or.inl ⟨by rfl,?_⟩) HS.out ?_;rotate_left;(focus(intro w0 hSw;obtain⟨s0,s1,s2,s3,s4⟩:=hSw;go_simp;(try with_reducible rfl)));(try simp only[Act.put,dP])
   refine tk 11 ?_ rfl (Or.inl ⟨by rfl,?_⟩) HS.out ?_;rotate_left;(focus(intro w0 hSw;obtain⟨s0,s1,s2,s3,s4⟩:=hSw;go_simp;(try with_reducible rfl)));(try simp only[Act.put,dP])
   refine zw (i:=12) rfl (by kernel_rfl) ?_;intro K hK;go_simp;refine hK _ _ (fun _=>HS.out.later (zn _ _)) ?_;(try simp only[Act.put,dP]);clear hK;refine zw (i:=13) rfl (by kernel_rfl) ?_;intro K hK;refine ze9 rfl (.tmp 73) (.tmp 81) 33 rfl 0 181 iP _ 2 24 Tryz.underlying33 HI.out.1 HI.out.2.1 HI.out.2.2.1 HI.out.2.2.2 rfl (by decide) (.slice a'.wa W.length a'.wc) W.length (zdx W) rfl (zh1 hwr6.out (by(with_reducible repeat first|exact Below.refl _ _|refine zc ?_ _|refine zd ?_|refine bset' ?_ (by omega) _|refine zb ?_ (by assumption)))) ⟨w6.heap.size,0,none⟩ 1 1 [.int .i64 P,.string s] rfl rfl (fun i u hi=>zdW rfl _ _ i u hi) (by simp[Value.oneCell']) (by omega) (by have:=HWB.out;unfold maxLen;omega) (by have:=HWB.out;omega) (Nat.zero_le _) ?_;intro v7 w7 hown7 hg7 hv7;have hO7:zo (fun k=>∃p,a'.wa=some p∧k=p.block) (w6.alloc (.cells #[.int .i64 P,.string s] 181)).drew w7:=⟨hg7.os,hg7.tape,hg7.output,hg7.size,fun k hk hn=>hg7.block k hk (fun e=>hn (zF.1 e.symm))⟩
   obtain⟨x7,c7,e7,hst7⟩:=HS6.out.dev.rewaits (w2:=(w6.alloc (.cells #[.int .i64 P,.string s] 181)).drew) (by(with_reducible repeat first|exact Below.refl _ _|refine zc ?_ _|refine zd ?_|refine bset' ?_ (by omega) _|refine zb ?_ (by assumption))) (W++[⟨P,s⟩]) (fun x hx=>by rcases List.mem_append.1 hx with hx'|hx';exact HFIN.out x hx';(rw[List.mem_singleton.1 hx'];exact hP32)) (by rw[zmB,List.length_append];exact hown7) hO7 (fun g hg=>by
    rcases hv7 with hv|hv
    ·rw[hv] at hg;exact Or.inl (zF.1 hg)
    ·rw[hv] at hg;exact Or.inr (Nat.le_of_eq (Option.some.inj hg)))
   subst e7;have HS8:=za (HS6.out.trans hst7);have l7:LS w7 (w.heap.size+1) b 64 (.slice a'.wa W.length a'.wc) (some ⟨db,do',none⟩) r.data.length r.dc db (do'+j) s:=by
    have l6:=LS.later (w:=w6) HS.out (w':=(w6.alloc (.cells #[.int .i64 P,.string s] 181)).drew) (by(with_reducible repeat first|exact Below.refl _ _|refine zc ?_ _|refine zd ?_|refine bset' ?_ (by omega) _|refine zb ?_ (by assumption)));have rOff:r.Off (a'.foot b):=Rq.Off.step HAT5.out HO2.out.off HS6.out.foot;have hne:r.data ≠ []:=fun e=>by rw[e] at hjd;exact absurd hjd (Nat.not_lt_zero _)
    have nq:¬∃p,a'.wa=some p∧w.heap.size+1=p.block:=fun e=>by
     rcases HS6.out.foot (w.heap.size+1) (Or.inr e) with h'|h'
     ·exact HO2.out.nf _ (by omega) h'
     ·omega
    have nb:¬∃p,a'.wa=some p∧b=p.block:=fun⟨p,hp,e⟩=>HS6.out.dev.sepw p hp e.symm
    have nd:¬∃p,a'.wa=some p∧db=p.block:=fun e=>rOff.1 hne _ HDA.out (Or.inr e)
    exact⟨(hO7.cell (p:=⟨w.heap.size+1,3,none⟩) (zg l6.1) nq).trans l6.1,(hO7.cell (p:=⟨db,do'+j,none⟩) (zg l6.2.1) nd).trans l6.2.1,Nat.lt_of_lt_of_le l6.2.2.1 hO7.size,(hO7.cell (p:=⟨b,64,none⟩) l6.2.2.1 nb).trans l6.2.2.2.1,(hO7.frozen (p:=⟨b,64,none⟩) l6.2.2.1 nb).trans l6.2.2.2.2⟩
   have HS7:=za l7;clear hown7 hg7 hv7 hO7 hst7 l7;refine hK _ _ (fun _=>HS7.out) ?_
   (try simp only[Act.put,dP])
   clear hK;refine zw (i:=14) rfl (by kernel_rfl) ?_;intro K hK;go_simp;refine hK _ _ (fun _=>HS7.out) ?_;(try simp only[Act.put,dP]);clear hK;refine zw (i:=15) rfl (by kernel_rfl) ?_;intro K hK;go_simp;refine hK _ _ (fun _=>HS7.out) ?_;(try simp only[Act.put,dP]);clear hK;obtain⟨-,-,s2,s3,s4⟩:=id HS7.out;refine zw (i:=16) rfl (by kernel_rfl) ?_;intro K hK;go_simp;refine hK _ _ (fun h=>absurd rfl h) ?_;(try simp only[Act.put,dP]);clear hK;refine zaO (by kernel_rfl) ?_ _;go_wp2;go_roundw
   case rel =>
    have e1:d1.writesTo r (j+1)={ { d1.writesTo r j with now:=(d1.writesTo r j).now.set P s } with waits:=W++[⟨P,s⟩] }:=by
     rw[Rd.writesTo_succ,HQ.out.2.2.1,←HPF.out,←HSS.out,←HN.out]
     rfl
    refine⟨j+1,{ a' with wa:=x7,wc:=c7 },by omega,by go_num,?_,HLA.out,?_⟩
    ·rw[e1];show(W++[(⟨P,s⟩:Pu)]).length=_;rw[List.length_append,List.length_singleton];have:=HWJ.out
     omega
    ·rw[e1];have:=HS8.out;rw[List.length_append,List.length_singleton] at this;exact this
   case measure=>simp[intOf];omega
  ·have hjM:j=M:=by omega
   subst hjM;have hre:=HR5.out.only HS2.out.only (HO2.out.nf _ (by omega));have hze:=HZ5.out.only HS2.out.only (HO2.out.nf _ (Nat.le_refl _));obtain⟨⟨y0,y1,y2,y3,y4,y5,y6,y7⟩,-,yl⟩:=hre;have HZE:=za hze;have hnf:¬a'.foot b w.heap.size:=fun e=>by
    rcases HS2.out.foot _ e with h'|h'
    ·exact HO2.out.nf _ (Nat.le_refl _) h'
    ·omega
   have HNF:=za hnf;have HSE:=za (HD5.out.trans HS2.out);have HBY:Hid ((d1.writesTo r j).busy=d.busy.eraseIdx k):=by show _=_;rw[Rd.writesTo_busy,HD1.out]
   clear hze x0 x1 x3 x4 x5 hnf;go_wp2_with(refine zP rfl (.tmp 6) (.tmp 96) rfl w.heap.size r none 0 0 0 rfl rfl (zT HZE.out) (fun wK=>zat b d a (d1.writesTo r j) a' w wK∧zal wK w.heap.size r none 0 0 0) ⟨HSE.out.other (zan _ w.heap.size _ _ _ _ _ _ _ _) (Nat.le_refl _) HNF.out (fun _ p hp=>by rw[HLA.out] at hp;have:=HO2.out.nl p hp;omega) (by rw[HBY.out];exact HO2.out.nr HD.out _ (Nat.le_refl _)),zaT (zT HZE.out) HZE.out.2.2⟩ ?_;rintro w9 ⟨hs9,⟨z0,z1,z2,z3,z4,z5,z6,z7⟩,-,-⟩;have HS9:=za hs9;clear hs9);refine bodyPost_ret (v:=.tuple #[zaI r none 0 0 0,.int .i64 0]) (by simp[results,Tryz.results102,go_sem,z0,z1,z2,z3,z4,z5,z6,z7]) rfl ⟨a',rfl,?_⟩;rw[HQ.out.2.2.2,←HD1.out];exact HS9.out
def zbt(d:Rd)(f n:Nat):List ByteArray:=(List.range n).map fun j=>d.now.getD (f+j) ByteArray.empty
theorem zla(d:Rd)(f n:Nat):zbt d f (n+1)=zbt d f n++[d.now.getD (f+n) ByteArray.empty]:=by simp[zbt,List.range_succ]
theorem zfE(d:Rd)(f n:Nat):(zbt d f n).length=n:=by simp[zbt]
theorem zo.of_belowB{a b:World}{B:Nat}(h:Below B a b):zo (fun k=>B≤k) a b:=⟨h.os,h.tape,h.output,h.size,fun i _ hn=>h.block i (by omega)⟩
theorem zrT{w:World}{q n xc n' xc':Nat}{r:Rq}{xa xa':Option Addr}{er:Int}(h:zal w q r xa n xc er):zal (w.setCell ⟨q,6,none⟩ (.slice xa' n' xc')) q r xa' n' xc' er:=by
 obtain⟨⟨h0,h1,h2,h3,h4,h5,h6,h7⟩,ht,hl⟩:=h;have k:∀o,o ≠ 6→(w.setCell ⟨q,6,none⟩ (.slice xa' n' xc')).cell? ⟨q,o,none⟩=w.cell? ⟨q,o,none⟩:=fun o ho=>World.cell?_setCell_other _ _ _ _ (fun e=>ho (by injection e with _ e2 _;exact e2.symm))
 refine⟨⟨(k 0 (by omega)).trans h0,(k 1 (by omega)).trans h1,(k 2 (by omega)).trans h2,(k 3 (by omega)).trans h3,(k 4 (by omega)).trans h4,(k 5 (by omega)).trans h5,?_,(k 7 (by omega)).trans h7⟩,?_,by simpa [World.setCell] using hl⟩
 ·exact World.rangeAt_setCells_same w q 6 [.slice xa' n' xc'] (fun j hj=>by have:=ht (6+j) (by simp at hj;omega);rw[Nat.zero_add] at this;exact this) 0 _ rfl
 ·exact World.there_setCells ht q 6 [.slice xa' n' xc']
def LR(w:World)(q b p:Nat)(v:Value)(s:ByteArray):Prop:=w.cell? ⟨q,6,none⟩=some v∧w.cell? ⟨b,32+p,none⟩=some (.string s)∧b<w.heap.size∧w.frozen? ⟨q,6,none⟩=false
theorem LR.below{w w':World}{q b p B:Nat}{v:Value}{s:ByteArray}(h:LR w q b p v s)(hb:Below B w w')(hq:q<B)(hb':b<B):LR w' q b p v s :=
 ⟨(hb.cell (p:=⟨q,6,none⟩) hq).trans h.1,(hb.cell (p:=⟨b,32+p,none⟩) hb').trans h.2.1,Nat.lt_of_lt_of_le h.2.2.1 hb.size,(hb.frozen (p:=⟨q,6,none⟩) hq).trans h.2.2.2⟩
theorem zpZ(b:Nat)(d:Rd)(a:Ra)(k:Nat)(hk:k<d.busy.length)(w:World)(h:zak b d a w)(gr:zA d.busy[k])(hw:d.busy[k].wr=false) :
  Calls Tryz.prog 102 #[.pointer (some ⟨b,0,none⟩),.int .i64 k,.bool false] w fun e w'=>∃a' xa xc,e=.returned (.tuple #[zaI d.busy[k] xa (zbt d d.busy[k].f.toNat d.busy[k].m.toNat).length xc 0,.int .i64 0])∧zU w' xa (zbt d d.busy[k].f.toNat d.busy[k].m.toNat)∧(xa=none→xc=0)∧(∀ad,xa=some ad→w.heap.size≤ad.block∧¬a'.foot b ad.block)∧zat b d a { d with busy:=d.busy.eraseIdx k } a' w w':=by
 have HW:=za hw;have HWN:=za (zlN _ gr);clear hw gr;have hl:=h.lt;have HD:=za h;have h0:¬(k:Int)<0:=(by omega);have h1:¬(d.busy.length:Int)≤(k:Int):=(by omega);have h2:(k:Int)<(d.busy.length:Int):=(by omega);have hk2:(k:Int)≤1:=(by have:=h.blen;omega);have c:=h.c65;obtain⟨g,o,hg0,r0,r1,r2,r3,r4,r5⟩:=h.lplace hk;have hR:=h.lrow;have hcap:=h.lcap;rw[hg0] at c hR;have HR:=za (⟨hR,hcap⟩:_∧_);have lg:=zg r0;have HBL:=za h.blen;clear h hR hcap hg0;generalize hr:d.busy[k]=r at *;have HRR:=za hr;clear hr;go_enter Tryz.func102,Tryz.ntmps102;go_wp2_with fail;have hB2:=zbm w (.cells #[.bool false,.int .i64 0,.int .i64 0,.slice none 0 0,.slice none 0 0,.int .i64 0,.slice none 0 0,.int .i64 0] 120) (.cells #[.bool r.wr,.int .i64 r.f,.int .i64 r.m,.slice r.da r.data.length r.dc,.slice r.ta r.tags.length r.tc,.int .i64 r.born] 111);refine(zdF d.busy g o a.lc k _ (HR.out.1.later hB2) (by have:=HBL.out;omega) HR.out.2 hk).mono ?_;rintro e w3 ⟨xa,xc,rfl,hN,hb3⟩;have hz2:=(zaE w 120).only (F:=fun _=>False) ((zo.refl _ _).alloc (.cells #[.bool r.wr,.int .i64 r.f,.int .i64 r.m,.slice r.da r.data.length r.dc,.slice r.ta r.tags.length r.tc,.int .i64 r.born] 111)) (fun e=>e);have hx2:=zb5 (w.alloc (.cells #[.bool false,.int .i64 0,.int .i64 0,.slice none 0 0,.slice none 0 0,.int .i64 0,.slice none 0 0,.int .i64 0] 120)) 111 r;rw[World.size_alloc] at hx2;have hO:=zgw hk HD.out hB2 hz2 (by rw[HRR.out];exact hx2) (by simp) hb3 hN;rw[HRR.out] at hO;have c3:=(HD.out.later (zb hB2 hb3)).c65;have f3:=(HD.out.later (zb hB2 hb3)).fz 65;have l3:=(HD.out.later (zb hB2 hb3)).lt;have HO:=za hO;clear hz2 hx2 hO hN hb3 hB2 r0 r1 r2 r3 r4 r5 c lg;obtain⟨x0,x1,x2,x3,x4,x5⟩:=id HO.out.box;generalize hW:w3.setCell ⟨b,65,none⟩ (.slice xa (d.busy.eraseIdx k).length xc)=w4 at *;have HX4:=za (id HO.out.box);have hz9:=za (zaE w4 120);go_wp2_with(refine zP rfl (.tmp 9) (.tmp 44) rfl w4.heap.size r none 0 0 0 rfl rfl (zT hz9.out) (fun wK=>Below w4.heap.size w4 wK∧zal wK w4.heap.size r none 0 0 0) ⟨((zn w4 _)).trans ((zan _ w4.heap.size _ _ _ _ _ _ _ _).below (by simp) (fun i e=>by omega)),zaT (zT hz9.out) hz9.out.2.2⟩ ?_;rintro w5 ⟨hb5,hr5⟩;have HB5:=za hb5;have HR5:=za hr5;clear hb5 hr5);obtain⟨F,M,hF,hM,hFM,hM1,hM4,tF,tM⟩:=HWN.out;have hq1:w.heap.size+1<w4.heap.size:=zg x0;have hb4:=HO.out.step.dev.lt;obtain⟨d1,hd1⟩:∃d1:Rd,d1={ d with busy:=d.busy.eraseIdx k }:=⟨_,rfl⟩
 obtain⟨a1,ha1⟩:∃a1:Ra,a1={ a with la:=xa,lc:=xc }:=⟨_,rfl⟩
 have hS4:=HO.out.step;rw[←hd1,←ha1] at hS4;have HS4:=za hS4;have hO2:=HO.out;rw[←ha1] at hO2;have HO2:=za hO2;have hrd:∀n,zbt d F n=zbt d1 F n:=fun n=>by rw[hd1];rfl
 have HD1:=za hd1;have HRD:=za hrd;have HQ:=za (⟨hF,hM,tF,tM⟩:_∧_∧_∧_);obtain⟨iS,hi,hz0,hz1,hz2⟩:=zaL zfc;have HI:=za (⟨hi,hz0,hz1,hz2⟩:Tryz.prog.info? 9=some iS∧_∧_∧_);clear hd1 ha1 hO2 hS4 hrd x0 x1 x2 x3 x4 x5 hF hM tF tM HO hW c3 f3 l3 hz9 hi hz0 hz1 hz2
 go_loopw[10] (fun i wr=>∃(j:Nat) (xa:Option Addr) (xc:Nat),j≤M∧i=.int .i64 j∧zal wr w4.heap.size r xa j xc 0∧wr.ownsRow (w4.heap.size+1) 9 1 (.slice xa j xc) j (zaG (zbt d1 F j))∧Below w4.heap.size w4 wr) (fun i _=>M-(intOf i).toNat)
 case atStart=>exact⟨0,none,0,by omega,rfl,HR5.out,World.ownsRow_nil _ _ _ _,HB5.out⟩
 case round =>
  clear HB5 HR5;obtain⟨j,xa,xc,hj,rfl,hre,hown,hB⟩:=hrel;have HRE:=za hre;have HOW:=za hown;have HB:=za hB;obtain⟨⟨y0,y1,y2,y3,y4,y5,y6,y7⟩,yt,yl⟩:=hre;obtain⟨x0,x1,x2,x3,x4,x5⟩:=HX4.out.later hB;have hdev:=HS4.out.dev.later hB;have lb:=hdev.lt;rw[HW.out] at x0;rw[HQ.out.1] at x1;rw[HQ.out.2.1] at x2
  by_cases hlt:j<M
  ·have hlt':(j:Int)<(M:Int):=by omega
   obtain⟨P,hP⟩:∃P:Nat,P=F+j:=⟨_,rfl⟩
   have hPi:(F:Int)+(j:Int)=(P:Int):=by omega
   have hP32:P<32:=by omega
   have hP32':(P:Int)<32:=by omega
   have hP0:(0:Int)≤(P:Int):=by omega
   have cn:=hdev.cNow P hP32;obtain⟨s,hs'⟩:∃s,d1.now.getD P ByteArray.empty=s:=⟨_,rfl⟩
   rw[hs'] at cn;have HSS:=za hs';have HPF:=za hP;have f6:wr.frozen? ⟨w4.heap.size,6,none⟩=false:=by have:=(yt 6 (by omega)).2;rw[Nat.zero_add] at this;exact this
   have HS:Hid (LR wr.drew w4.heap.size b P (.slice xa j xc) s):=⟨y6,cn,lb,f6⟩
   have HYL:=za yl;clear hs' hP yt hdev hown hB y0 y1 y2 y3 y4 y5 y7;go_wp2_with fail;refine zaJ (S:=fun wz=>LR wz w4.heap.size b P (.slice xa j xc) s) (d:=11) (by kernel_rfl) ?_;refine tk 0 ?_ rfl (Or.inl ⟨by rfl,?_⟩) HS.out ?_;rotate_left;(focus(intro w0 hSw;obtain⟨s0,s1,s2,s3⟩:=hSw;go_simp;(try with_reducible rfl)));(try simp only[Act.put,dP])
   refine tk 1 ?_ rfl (Or.inl ⟨by rfl,?_⟩) HS.out ?_;rotate_left;(focus(intro w0 hSw;obtain⟨s0,s1,s2,s3⟩:=hSw;go_simp;(try with_reducible rfl)));(try simp only[Act.put,dP])
   refine tk 2 ?_ rfl (Or.inl ⟨by rfl,?_⟩) HS.out ?_;rotate_left;(focus(intro w0 hSw;obtain⟨s0,s1,s2,s3⟩:=hSw;go_simp;(try with_reducible rfl)));(try simp only[Act.put,dP])
   refine tk 3 ?_ rfl (Or.inl ⟨by rfl,?_⟩) HS.out ?_;rotate_left;(focus(intro w0 hSw;obtain⟨s0,s1,s2,s3⟩:=hSw;go_simp;(try with_reducible rfl)));(try simp only[Act.put,dP])
   refine tk 4 ?_ rfl (Or.inl ⟨by rfl,?_⟩) HS.out ?_;rotate_left;(focus(intro w0 hSw;obtain⟨s0,s1,s2,s3⟩:=hSw;go_simp;(try with_reducible rfl)));(try simp only[Act.put,dP])
   refine tk 5 ?_ rfl (Or.inl ⟨by rfl,?_⟩) HS.out ?_;rotate_left;(focus(intro w0 hSw;obtain⟨s0,s1,s2,s3⟩:=hSw;go_simp;(try with_reducible rfl)));(try simp only[Act.put,dP])
   refine tk 6 ?_ rfl (Or.inl ⟨by rfl,?_⟩) HS.out ?_;rotate_left;(focus(intro w0 hSw;obtain⟨s0,s1,s2,s3⟩:=hSw;go_simp;(try with_reducible rfl)));(try simp only[Act.put,dP])
   refine tk 7 ?_ rfl (Or.inl ⟨by rfl,?_⟩) HS.out ?_;rotate_left;(focus(intro w0 hSw;obtain⟨s0,s1,s2,s3⟩:=hSw;go_simp;(try with_reducible rfl)));(try simp only[Act.put,dP])
   refine zw (i:=8) rfl (by kernel_rfl) ?_;intro K hK;go_simp;refine hK _ _ (fun _=>HS.out.below (zn _ _) yl lb) ?_;(try simp only[Act.put,dP]);clear hK;refine zw (i:=9) rfl (by kernel_rfl) ?_;intro K hK;refine zbL rfl (.tmp 86) (.tmp 93) 109 rfl (w4.heap.size+1) 9 iS _ 1 16 Tryz.underlying109 HI.out.1 HI.out.2.1 HI.out.2.2.1 HI.out.2.2.2 rfl (by decide) (.slice xa j xc) j (zaG (zbt d1 F j)) rfl (zh1 HOW.out (by(with_reducible repeat first|exact Below.refl _ _|refine zc ?_ _|refine zd ?_|refine bset' ?_ (by omega) _|refine zb ?_ (by assumption)))) (some ⟨wr.heap.size,0,none⟩) 1 1 [.string s] rfl ⟨rfl,by simp[Value.oneCell'],Or.inr ⟨_,rfl,fun i u hi=>zdW rfl _ _ i u hi⟩⟩ (by unfold maxLen;omega) (by omega) (by have:=HYL.out;simp;omega) ?_;intro v7 w7 hown7 hb7;have hb7':Below (w4.heap.size+1) wr w7:=Below.trans (((Below.refl _ _).alloc (by omega) _).drew) hb7;obtain⟨x7,c7,rfl,-⟩:=zba hown7;have hr7:=HRE.out.only (zo.of_belowB hb7') (by omega);have l7:LR w7 w4.heap.size b P (.slice xa j xc) s:=LR.below (w:=wr) HS.out hb7' (by omega) (by omega);have hq7:(Value.slice x7 (j+1) c7).ownBlock ≠ some w4.heap.size:=fun e=>by have:=(hown7.lt _ e).1;omega
   have HR8:=za (zrT (xa':=x7) (n':=j+1) (xc':=c7) hr7);have HO8:=za (zau (w':=w7.setCell ⟨w4.heap.size,6,none⟩ (.slice x7 (j+1) c7)) hown7 (fun g hg=>zb8 _ _ (fun e=>hq7 (e▸hg))));have HB8:=za ((HB.out.trans (hb7'.mono (by omega))).setCell (p:=⟨w4.heap.size,6,none⟩) (Nat.le_refl _) (.slice x7 (j+1) c7));have HS7:=za l7;clear hown7 hb7 hb7' hr7 l7 hq7;refine hK _ _ (fun _=>HS7.out) ?_
   (try simp only[Act.put,dP])
   clear hK;refine zw (i:=10) rfl (by kernel_rfl) ?_;intro K hK;go_simp;refine hK _ _ (fun _=>HS7.out) ?_;(try simp only[Act.put,dP]);clear hK;obtain⟨s0,-,-,s3⟩:=id HS7.out;refine zw (i:=11) rfl (by kernel_rfl) ?_;intro K hK;go_simp;refine hK _ _ (fun h=>absurd rfl h) ?_;(try simp only[Act.put,dP]);clear hK;refine zaO (by kernel_rfl) ?_ _;go_wp2;go_roundw
   case rel =>
    refine⟨j+1,x7,c7,by omega,by go_num,HR8.out,?_,HB8.out⟩;have e1:zaG (zbt d1 F (j+1))=zaG (zbt d1 F j)++[.string s]:=by rw[zla,←HPF.out,HSS.out];simp[zaG]
    rw[e1];exact HO8.out
   case measure=>simp[intOf];omega
  ·have hjM:j=M:=by omega
   subst hjM;have hze:=HO2.out.zero.only (F:=fun _=>False) (zo.of_below hB) (fun e=>e);have HZE:=za hze;have HSE:=za (HS4.out.later hB);obtain⟨ya,yc,e1,hst,hnn,had⟩:=zfF hown (zfE _ _ _).symm;simp only[Value.slice.injEq] at e1;obtain⟨rfl,-,rfl⟩:=e1;have hq0:∀ad,xa=some ad→ad.block ≠ w.heap.size:=fun ad e=>by have:=had ad e;omega
   have HST:=za (⟨hst,hnn,had,hq0⟩:_∧_∧_∧_);have HBY:Hid (d1.busy=d.busy.eraseIdx k):=by show _=_;rw[HD1.out]
   clear hst hnn had hq0 hown hze yt hdev hB;go_wp2_with(refine zP rfl (.tmp 6) (.tmp 96) rfl w.heap.size r xa j xc 0 rfl rfl (zT HZE.out) (fun wK=>(zU wK xa (zbt d1 F j)∧zat b d a d1 a1 w wK)∧zal wK w.heap.size r xa j xc 0) ⟨⟨za2 HST.out.1 (zan _ w.heap.size _ _ _ _ _ _ _ _) (fun _ ad e=>HST.out.2.2.2 ad e),HSE.out.other (zan _ w.heap.size _ _ _ _ _ _ _ _) (Nat.le_refl _) (HO2.out.nf _ (Nat.le_refl _)) (fun _ p hp=>by have:=HO2.out.nl p hp;omega) (by rw[HBY.out];exact HO2.out.nr HD.out _ (Nat.le_refl _))⟩,zaT (zT HZE.out) HZE.out.2.2⟩ ?_;rintro w9 ⟨hs9,⟨z0,z1,z2,z3,z4,z5,z6,z7⟩,-,-⟩;have HS9:=za hs9;clear hs9);refine bodyPost_ret (v:=.tuple #[zaI r xa j xc 0,.int .i64 0]) (by simp[results,Tryz.results102,go_sem,z0,z1,z2,z3,z4,z5,z6,z7]) rfl ⟨a1,xa,xc,?_,?_,HST.out.2.1,fun ad e=>⟨by have:=HST.out.2.2.1 ad e;omega,HO2.out.nf _ (by have:=HST.out.2.2.1 ad e;omega)⟩,?_⟩
   ·rw[zfE,HQ.out.2.2.2]
   ·rw[HQ.out.2.2.1,HQ.out.2.2.2,HRD.out];exact HS9.out.1
   ·rw[←HD1.out];exact HS9.out.2
def zdh(d:Rd)(r:Rq):List ByteArray:=if r.wr=true then [] else zbt d r.f.toNat r.m.toNat
theorem zrJ(b:Nat)(d:Rd)(a:Ra)(k:Nat)(hk:k<d.busy.length)(w:World)(h:zak b d a w)(gr:zA d.busy[k])(hW4:d.waits.length≤1000000) :
  Calls Tryz.prog 102 #[.pointer (some ⟨b,0,none⟩),.int .i64 k,.bool false] w fun e w'=>∃a' xa xc xs,e=.returned (.tuple #[zaI d.busy[k] xa (List.length xs) xc 0,.int .i64 0])∧Hid (xs=zdh d d.busy[k])∧zU w' xa xs∧(∀ad,xa=some ad→w.heap.size≤ad.block∧¬a'.foot b ad.block)∧zat b d a (({ d with busy:=d.busy.eraseIdx k }:Rd).did d.busy[k]) a' w w':=by
 by_cases hw:d.busy[k].wr=true
 ·refine(znQ b d a k hk w h gr hw hW4).mono ?_;rintro e w' ⟨a',rfl,hs⟩;refine⟨a',none,0,[],rfl,?_,Or.inl rfl,(fun ad e=>by cases e),?_⟩
  ·show []=_;rw[zdh,if_pos hw]
  ·rw[Rd.did,if_pos hw];exact hs
 ·refine(zpZ b d a k hk w h gr (by simpa using hw)).mono ?_;rintro e w' ⟨a',xa,xc,rfl,h1,-,h2,hs⟩;refine⟨a',xa,xc,_,rfl,?_,h1,h2,?_⟩
  ·show _=_;rw[zdh,if_neg hw]
  ·rw[Rd.did,if_neg hw];exact hs
end Go.Proofs.YtlhgjplipgandaaGreat
namespace Go.Proofs.YtlhgjplipgandaaGreat
open Go.RowKit Go.BigFrame Go.Maps
attribute [local go_sem] ze.cell ze.frozen
structure zbF(v b bm:Nat)(m:Rd)(a:Ra)(n:Nat)(D:DataW Unit)(w:World):Prop where
 dev:zak b m a w
 blk:w.heap[v]?=some (.cells [.pointer (some ⟨b,0,none⟩),.map (some bm)].toArray 67 (0,0))
 map:w.ownsMap Tryz.prog 3 (plainElem Tryz.prog 3) bm n D
 foot:∀k,a.foot b k→k ≠ v∧k ≠ bm
def zb7(b bm:Nat)(a:Ra)(k:Nat):Prop:=k=bm∨a.foot b k
structure zaY(v b bm:Nat)(m:Rd)(a:Ra)(n:Nat)(D:DataW Unit)(m':Rd)(a':Ra)(n':Nat)(D':DataW Unit)(w w':World):Prop where
 at':zbF v b bm m' a' n' D' w'
 only:zo (zb7 b bm a) w w'
 foot:∀k,zb7 b bm a' k→zb7 b bm a k∨w.heap.size≤k
 lan:m'.busy ≠ []→∀p,a'.la=some p→(m.busy ≠ []∧a.la=some p)∨w.heap.size≤p.block
section
variable{v b bm:Nat}{m m' m2:Rd}{a a' a2:Ra}{n n' n2:Nat}{D D' D2:DataW Unit}{w w' w2:World}
theorem zbF.mlt(h:zbF v b bm m a n D w):bm<w.heap.size:=h.map.lt
theorem zbF.ne(h:zbF v b bm m a n D w):v ≠ bm:=by
 rintro rfl;obtain⟨es,clock,hb,_⟩:=h.map;rw[h.blk] at hb
 cases hb
theorem zbF.lm(h:zbF v b bm m a n D w)(hne:m.busy ≠ [])(p:Addr)(hp:a.la=some p):p.block ≠ bm:=by
 rcases h.dev.lrow.1 with e|⟨b',o',ha,hc⟩
 ·exact absurd e hne
 ·have hp':m.busy.length ≠ 0:=fun e=>hne (List.eq_nil_of_length_eq_zero e)
  have:=hc 0 (by omega) 0 (by omega);rw[ha] at hp;simp only[Option.some.injEq] at hp;subst hp;rintro rfl;obtain⟨es,clock,hb,_⟩:=h.map;simp only at this hb
  simp[World.cell?,hb] at this
theorem zbF.step(h:zbF v b bm m a n D w)(hs:zat b m a m' a' w w'):zaY v b bm m a n D m' a' n D w w' where
 at':=⟨hs.dev,by rw[hs.only.block v (zz h.blk) (fun e=>(h.foot v e).1 rfl)];exact h.blk,zca h.map (hs.only.block bm h.mlt (fun e=>(h.foot bm e).2 rfl)),fun k hk=>(hs.foot k hk).elim (h.foot k) (fun h'=>by have:=zz h.blk;have:=h.mlt;omega)⟩
 only:=hs.only.mono (fun _ e=>Or.inr e)
 foot:=fun k hk=>hk.elim (fun e=>Or.inl (Or.inl e)) (fun e=>(hs.foot k e).elim (fun h'=>Or.inl (Or.inr h')) Or.inr)
 lan:=hs.lan
theorem zaY.trans(h:zaY v b bm m a n D m' a' n' D' w w')(k:zaY v b bm m' a' n' D' m2 a2 n2 D2 w' w2):zaY v b bm m a n D m2 a2 n2 D2 w w2 :=
 ⟨k.at',h.only.trans k.only h.foot,fun i hi=>(k.foot i hi).elim (h.foot i) (fun h'=>Or.inr (Nat.le_trans h.only.size h')),fun hne p hp=>(k.lan hne p hp).elim (fun e=>h.lan e.1 p e.2) (fun h'=>Or.inr (Nat.le_trans h.only.size h'))⟩
theorem zbF.later(h:zbF v b bm m a n D w)(hb:Below w.heap.size w w'):zbF v b bm m a n D w':=(h.step (zat.same h.dev hb)).at'
theorem zaY.later(h:zaY v b bm m a n D m' a' n' D' w w')(hb:Below w'.heap.size w' w2):zaY v b bm m a n D m' a' n' D' w w2:=h.trans (h.at'.step (zat.same h.at'.dev hb))
theorem zbF.turn(h:zbF v b bm m a n D w)(ho:zo (fun k=>k=bm) w w')(hm:w'.ownsMap Tryz.prog 3 (plainElem Tryz.prog 3) bm n' D')(hr:∀r∈m.busy,r.Off (fun k=>k=bm)):zaY v b bm m a n D m a n' D' w w' where
 at':=⟨h.dev.frame ho (fun k hk=>(h.foot k hk).2) h.lm hr,by rw[ho.block v (zz h.blk) h.ne];exact h.blk,hm,h.foot⟩
 only:=ho.mono (fun _ e=>Or.inl e)
 foot:=fun _ hk=>Or.inl hk
 lan:=fun hne _ hp=>Or.inl ⟨hne,hp⟩
theorem zbF.cells(h:zbF v b bm m a n D w):w.cell? ⟨v,0,none⟩=some (.pointer (some ⟨b,0,none⟩))∧w.cell? ⟨v,1,none⟩=some (.map (some bm)):=⟨by rw[zy h.blk];rfl,by rw[zy h.blk];rfl⟩
theorem zlB(h:zaY v b bm m a n D m' a' n' D' w w')(q:Nat)(hq:w.heap.size≤q)(hq':¬zb7 b bm a' q)(hqv:q ≠ v)(hl:m'.busy ≠ []→∀p,a'.la=some p→p.block ≠ q)(hr:∀r∈m'.busy,r.Off (fun k=>k=q))(v0 v1 v2 v3 v4 v5 v6 v7:Value):zaY v b bm m a n D m' a' n' D' w (zfk w' q v0 v1 v2 v3 v4 v5 v6 v7) where
 at':=⟨h.at'.dev.frame (zan w' q _ _ _ _ _ _ _ _) (fun k hk e=>hq' (by rw[←e];exact Or.inr hk)) hl hr,by rw[(zan w' q v0 v1 v2 v3 v4 v5 v6 v7).block v (zz h.at'.blk) (Ne.symm hqv)];exact h.at'.blk,zca h.at'.map ((zan w' q v0 v1 v2 v3 v4 v5 v6 v7).block bm h.at'.mlt (fun e=>hq' (Or.inl e.symm))),h.at'.foot⟩
 only:=h.only.trans (zan w' q v0 v1 v2 v3 v4 v5 v6 v7) (fun i e=>Or.inr (by subst e;exact hq))
 foot:=h.foot
 lan:=h.lan
end
theorem Rd.did_busyR(m:Rd)(r:Rq):(m.did r).busy=m.busy:=by unfold Rd.did;split;exact Rd.writesTo_busy _ _ _;rfl
structure zg1(bm:Nat)(d:Rd)(k:Nat)(r:Rq)(tg:Int):Prop where
 at':d.busy[k]?=some r
 tag:r.tags.getD 0 0=tg
 in':zaj tg
 some':1≤r.tags.length
 off:∀q∈d.busy,q.Off (fun j=>j=bm)
theorem zg1.mem{bm:Nat}{d:Rd}{k:Nat}{r:Rq}{tg:Int}(h:zg1 bm d k r tg):r∈d.busy:=List.mem_of_getElem? h.at'
theorem zqU(b:Nat)(d:Rd)(a:Ra)(k:Nat)(r:Rq)(hk:d.busy[k]?=some r)(w:World)(h:zak b d a w)(gr:zA r)(hW4:d.waits.length≤1000000) :
  Calls Tryz.prog 102 #[.pointer (some ⟨b,0,none⟩),.int .i64 k,.bool false] w fun e w'=>∃a' xa xc xs,e=.returned (.tuple #[zaI r xa (List.length xs) xc 0,.int .i64 0])∧Hid (xs=zdh d r)∧zU w' xa xs∧(∀ad,xa=some ad→w.heap.size≤ad.block∧¬a'.foot b ad.block)∧zat b d a (({ d with busy:=d.busy.eraseIdx k }:Rd).did r) a' w w':=by
 obtain⟨hk',rfl⟩:=List.getElem?_eq_some_iff.1 hk;exact zrJ b d a k hk' w h gr hW4
theorem zhx(b:Nat)(d:Rd)(a:Ra)(k:Nat)(r:Rq)(hk:d.busy[k]?=some r)(w:World)(h:zak b d a w) :
  Calls Tryz.prog 102 #[.pointer (some ⟨b,0,none⟩),.int .i64 k,.bool true] w fun e w'=>∃a',e=.returned (.tuple #[zaI r none 0 0 8,.int .i64 0])∧a'.wa=a.wa∧zat b d a { d with busy:=d.busy.eraseIdx k } a' w w':=by
 obtain⟨hk',rfl⟩:=List.getElem?_eq_some_iff.1 hk;exact zoq b d a k hk' w h
theorem zhD{w:World}{r:Rq}{tg:Int}(h:r.At w)(ht:r.tags.getD 0 0=tg)(h1:1≤r.tags.length):∃tb tof,r.ta=some ⟨tb,tof,none⟩∧w.cell? ⟨tb,tof,none⟩=some (.int .i64 tg):=by
 rcases h.tags with e|⟨tb,tof,e,hc⟩
 ·rw[e] at h1;simp at h1
 ·refine⟨tb,tof,e,?_⟩;have:=hc 0 (by omega);rw[ht] at this
  simpa using this
theorem zr0(v b bm:Nat)(m:Rd)(a:Ra)(n:Nat)(D:DataW Unit)(i:Int)(fl:Bool)(w:World)(h:zbF v b bm m a n D w)(hi:i<0∨(m.busy.length:Int)≤i) :
  Calls Tryz.prog 65 #[.pointer (some ⟨v,0,none⟩),.int .i64 i,.bool fl] w fun e w'=>e=.returned (.tuple #[zcM,.bool false,.int .i64 5])∧Below w.heap.size w w':=by
 obtain⟨c0,c1⟩:=h.cells;have HV:=za h;have hv:=zz h.blk;have hm:=h.mlt;have hbv:=h.dev.lt;have hb0:=za (zn w (.cells #[.bool false,.int .i64 0,.int .i64 0,.slice none 0 0,.slice none 0 0,.int .i64 0,.slice none 0 0,.int .i64 0] 120));clear h;have HI:=za hi;clear hi;go_enter Tryz.func65,Tryz.ntmps65;go_wp2_with fail;refine(zpb b m a i fl _ (HV.out.dev.later hb0.out) HI.out).mono ?_;rintro e w1 ⟨rfl,hb1⟩;have hb1':=zb hb1 (zn w1 (.cells #[.bool false,.int .i64 0,.int .i64 0,.slice none 0 0,.slice none 0 0,.int .i64 0,.slice none 0 0,.int .i64 0] 120));have hz1:=(zaE w 120).only (F:=fun _=>False) (zo.of_below hb1') (fun e=>e);have hB1:=hb0.out.trans (hb1'.mono hb0.out.size);have HZ1:=za hz1;have HB1:=za hB1;clear hb1 hb1' hB1 hz1;go_wp2_with(refine zP rfl (.tmp 6) (.tmp 24) rfl w.heap.size rq0 none 0 0 0 rfl rfl (zT HZ1.out) (fun wK=>Below w.heap.size w wK∧zal wK w.heap.size rq0 none 0 0 0) ⟨HB1.out.trans ((zan _ w.heap.size _ _ _ _ _ _ _ _).below HB1.out.size (fun i e=>by omega)),zaT (zT HZ1.out) HZ1.out.2.2⟩ ?_;rintro w3 ⟨hb3,⟨z0,z1,z2,z3,z4,z5,z6,z7⟩,-,-⟩;have HB3:=za hb3;clear hb3);exact bodyPost_ret (v:=.tuple #[zcM,.bool false,.int .i64 5]) (by simp[results,Tryz.results65,go_sem,z0,z1,z2,z3,z4,z5,z6,z7,rq0]) rfl ⟨rfl,HB3.out⟩
end Go.Proofs.YtlhgjplipgandaaGreat
namespace Go.Proofs.YtlhgjplipgandaaGreat
open Go.RowKit Go.BigFrame
attribute [local go_sem] ze.cell ze.frozen
structure Ph0(w:World)(b:Nat)(d:Dl)(a:An)(wr:World):Prop where
 dev:zM b d a wr
 idle:d.busy=[]
 foot:∀k,a.foot b k→w.heap.size≤k
 bel:Below w.heap.size w wr
theorem Ph0.step{w wr wr':World}{b:Nat}{d d':Dl}{a a':An}(h:Ph0 w b d a wr)(hs:zY b d a d' a' wr wr')(hn:d'.busy=[]):Ph0 w b d' a' wr' where
 dev:=hs.dev
 idle:=hn
 foot:=fun k hk=>(hs.foot k hk).elim (h.foot k) (fun h'=>Nat.le_trans h.bel.size h')
 bel:=h.bel.trans (hs.only.below h.bel.size h.foot)
theorem Ph0.later{w wr wr':World}{b:Nat}{d:Dl}{a:An}(h:Ph0 w b d a wr)(hb:Below wr.heap.size wr wr'):Ph0 w b d a wr':=h.step (zY.same h.dev hb) h.idle
theorem Ph0.want{w wr:World}{b:Nat}{d:Dl}{a:An}(h:Ph0 w b d a wr)(o:Obj)(ho:o=.cells (zaG (List.replicate 32 ByteArray.empty)).toArray 32):Ph w b wr.heap.size d a (List.replicate 32 ByteArray.empty) (wr.alloc o):=by
 subst ho;have h':=h.later (zn wr (.cells (zaG (List.replicate 32 ByteArray.empty)).toArray 32));exact⟨h'.dev,h.idle,fun k hk=>⟨h.foot k hk,fun e=>by have:=h.dev.footLt k hk;omega⟩,heap_alloc_new _ _,rfl,h.bel.size,h'.bel⟩
structure Duo(w:World)(b1:Nat)(d:Dl)(a:An)(b2:Nat)(m:Rd)(ra:Ra)(wr:World):Prop where
 c:zM b1 d a wr
 r:zak b2 m ra wr
 apart:∀k,a.foot b1 k→ra.foot b2 k→False
 fc:∀k,a.foot b1 k→w.heap.size≤k
 fr:∀k,ra.foot b2 k→w.heap.size≤k
 lf:m.busy ≠ []→∀p,ra.la=some p→¬a.foot b1 p.block
 same:d.busy=m.busy
 at':∀r∈d.busy,r.At w∧zA r
 tied:zbu d m
 bel:Below w.heap.size w wr
structure zfm(w:World)(b1:Nat)(d:Dl)(a:An)(b2:Nat)(m:Rd)(ra:Ra)(wr:World):Prop where
 c:zM b1 d a wr
 r:zak b2 m ra wr
 apart:∀k,a.foot b1 k→ra.foot b2 k→False
 fc:∀k,a.foot b1 k→w.heap.size≤k
 fr:∀k,ra.foot b2 k→w.heap.size≤k
 lf:m.busy ≠ []→∀p,ra.la=some p→¬a.foot b1 p.block
 at1:∀r∈d.busy,r.At w
 at2:∀r∈m.busy,r.At w
 bel:Below w.heap.size w wr
theorem zak.llt{b:Nat}{d:Rd}{a:Ra}{w:World}(h:zak b d a w)(hne:d.busy ≠ []){p:Addr}(hp:a.la=some p):p.block<w.heap.size:=by
 rcases h.lrow.1 with e|⟨b',o',ha,hc⟩
 ·exact absurd e hne
 ·have hp':d.busy.length ≠ 0:=fun e=>hne (List.eq_nil_of_length_eq_zero e)
  have:=zg (hc 0 (by omega) 0 (by omega));rw[ha] at hp;simp only[Option.some.injEq] at hp;subst hp;exact this
theorem Duo.half{w wr:World}{b1 b2:Nat}{d:Dl}{a:An}{m:Rd}{ra:Ra}(h:Duo w b1 d a b2 m ra wr):zfm w b1 d a b2 m ra wr:=⟨h.c,h.r,h.apart,h.fc,h.fr,h.lf,fun r hr=>(h.at' r hr).1,fun r hr=>(h.at' r (by rw[h.same];exact hr)).1,h.bel⟩
theorem zfm.stepC{w wr wr':World}{b1 b2:Nat}{d d':Dl}{a a':An}{m:Rd}{ra:Ra}(h:zfm w b1 d a b2 m ra wr)(hs:zY b1 d a d' a' wr wr')(hr:∀r∈d'.busy,r.At w):zfm w b1 d' a' b2 m ra wr' where
 c:=hs.dev
 r:=h.r.frame hs.only (fun k hk hc=>h.apart k hc hk) h.lf (fun r hr'=>zcd (h.at2 r hr') h.fc)
 apart:=fun k hc hd=>(hs.foot k hc).elim (fun hc'=>h.apart k hc' hd) (fun h'=>by have:=h.r.footLt k hd;omega)
 fc:=fun k hk=>(hs.foot k hk).elim (h.fc k) (fun h'=>Nat.le_trans h.bel.size h')
 fr:=h.fr
 lf:=fun hne p hp hk=>(hs.foot _ hk).elim (h.lf hne p hp) (fun h'=>by have:=h.r.llt hne hp;omega)
 at1:=hr
 at2:=h.at2
 bel:=h.bel.trans (hs.only.below h.bel.size h.fc)
theorem zfm.later{w wr wr':World}{b1 b2:Nat}{d:Dl}{a:An}{m:Rd}{ra:Ra}(h:zfm w b1 d a b2 m ra wr)(hb:Below wr.heap.size wr wr'):zfm w b1 d a b2 m ra wr':=h.stepC (zY.same h.c hb) h.at1
theorem zfm.duo{w wr:World}{b1 b2:Nat}{d:Dl}{a:An}{m:Rd}{ra:Ra}(h:zfm w b1 d a b2 m ra wr)(hs:d.busy=m.busy)(hg:∀r∈d.busy,zA r)(ht:zbu d m):Duo w b1 d a b2 m ra wr:=⟨h.c,h.r,h.apart,h.fc,h.fr,h.lf,hs,fun r hr=>⟨h.at1 r hr,hg r hr⟩,ht,h.bel⟩
theorem Duo.later{w wr wr':World}{b1 b2:Nat}{d:Dl}{a:An}{m:Rd}{ra:Ra}(h:Duo w b1 d a b2 m ra wr)(hb:Below wr.heap.size wr wr'):Duo w b1 d a b2 m ra wr':=(h.half.later hb).duo h.same (fun r hr=>(h.at' r hr).2) h.tied
def m0:Rd:=⟨List.replicate 32 ByteArray.empty,List.replicate 32 ByteArray.empty,[],[]⟩
def ra0:Ra:=⟨none,0,none,0⟩
theorem m0_at(w:World)(b:Nat)(h:w.heap[b]?=some (.cells (m0.cells ra0).toArray 36 (0,0))):zak b m0 ra0 w where
 k32:=rfl
 n32:=rfl
 blk:=h
 wrow:=World.ownsRow_nil _ _ _ _
 lrow:=⟨Or.inl rfl,by simp[m0],by simp[m0]⟩
 lnil:=fun _=>rfl
 lcap:=by simp[m0]
 loff:=fun h=>absurd rfl h
 sepw:=fun p hp=>by cases hp
 reqs:=fun r hr=>by cases hr
 wfin:=fun r hr=>by cases hr
 blen:=by simp[m0]
theorem zlo{b k:Nat}(h:ra0.foot b k):k=b:=by
 rcases h with h|⟨p,hp,_⟩
 ·exact h
 ·cases hp
end Go.Proofs.YtlhgjplipgandaaGreat
