/- Joined texts: Stk8, RStk5, Stk9. -/
import Derived.Test.YtlhgjplipgandaaGreatB27
set_option maxRecDepth 100000
set_option maxHeartbeats 8000000
set_option linter.unusedSimpArgs false
namespace Go.Proofs.YtlhgjplipgandaaGreat
open Go.RowKit Go.BigFrame Go.Maps
attribute [local go_sem] ze.cell ze.frozen
theorem zdP(p:Sk)(n:Int):p.nf.held n=p.held n:=by
 show((p.queue.map Rq.nf++p.dev.busy.map Rq.nf).any fun r=>zam r.f r.m n)=_;rw[←List.map_append,List.any_map]
 rfl
theorem zfa{p:Sk}{pl:Int}{wr:Bool}{data:List ByteArray}(g:zA (p.reqOf pl wr data))(da:Option Addr)(dc tb:Nat):zA (zbr p pl wr data da dc tb)∧zcz (zbr p pl wr data da dc tb)=0:=by
 have:zA (zbr p pl wr data da dc tb):=⟨g.ok,g.shape,g.t1,g.t4,g.b0,g.b1,g.small⟩
 exact⟨this,(zhA _).2 this⟩
theorem Inv.goods{p:Sk}(h:Inv p)(i:Nat)(hi:i<p.queue.length):zA p.queue[i]:=h.good _ (List.mem_append_left _ (List.getElem_mem hi))
def SOk(s:Nat)(p:Sk)(A:Sa)(w w':World)(q:Sk):Prop:=∃p' A',zG s p A p' A' w w'∧p'.nf=q
theorem zkT(s:Nat)(p:Sk)(A:Sa)(w:World)(h:zv s p A w)(hI:Inv p)(hT:p.tags≤4000000000000000000)(i:Nat)(hi:i<3)(hk:¬(p.client i).kind=0)(hg:zaH p.hand (p.client i).pl=none)(q:Sk)(hq:p.nf.serveRead i=q) :
  Calls Tryz.prog 73 #[.pointer (some ⟨s,0,none⟩),.pointer (some ⟨s,2+i*6,none⟩)] w fun e w'=>e=.returned (.tuple #[])∧SOk s p A w w' q:=by
 have HPL:=za ((hI.client i).pl hk);have e1:p.nf.serveRead i=if p.held (p.client i).pl=true then p.nf else(p.nf.askQ (p.client i).pl false []).2:=by
  rw[←zdP];show(match zaH p.hand (p.client i).pl with|some b=>_|none=>_)=_;rw[hg];rfl
 rw[e1] at hq;have HIX:Hid (zap (plB (p.client i).pl) p.hand=-1):=by
  rcases zaV p.hand (p.client i).pl with⟨_,h'⟩|⟨k,hk',h',_⟩
  ·exact h'
  ·rw[hg] at h';cases h'
 have HGR:=za (fun tb=>zfa (zdE hI (p.client i).pl HPL.out false [] (Or.inr ⟨rfl,rfl⟩)) none 0 tb);have HGL:=za hI.goods;have HQ6:=za hI.q6;have HTM:=za (And.intro hI.tg hI.mom);obtain⟨-,d1,-⟩:=h.client i hi;have c20:=h.cell 20 _ rfl;have hl:=h.lt;have HST:=za h;have HH:=za h.mem.hand;clear h hI e1 hg;generalize hpl:(p.client i).pl=pl at *;have HC:Hid ((p.client i).pl=pl):=hpl;have HQ:=za hq;clear hpl hq;go_enter Tryz.func73,Tryz.ntmps73;go_wp2_with fail
 go_region_held3 (fun w'=>w'.cell? ⟨s,20,none⟩=some (.slice A.ha p.hand.length A.hc)∧w'.cell? ⟨s,2+i*6+1,none⟩=some (.int .i64 pl)) (exact⟨cellB_later' (w:=w) (by(with_reducible repeat first|exact Below.refl _ _|refine zc ?_ _|refine zd ?_|refine bset' ?_ (by omega) _|refine zb ?_ (by assumption))) c20,cellB_later' (w:=w) (by(with_reducible repeat first|exact Below.refl _ _|refine zc ?_ _|refine zd ?_|refine bset' ?_ (by omega) _|refine zb ?_ (by assumption))) d1⟩) (first|(go_at_call 49;refine(zie p.hand A.ha A.hc pl _ (HH.out.later (by(with_reducible repeat first|exact Below.refl _ _|refine zc ?_ _|refine zd ?_|refine bset' ?_ (by omega) _|refine zb ?_ (by assumption)))) HIX.out).mono ?_;rintro e w1 ⟨rfl,hb1⟩;have z1:w.heap.size≤w1.heap.size:=(show Below w.heap.size w w1 by(with_reducible repeat first|exact Below.refl _ _|refine zc ?_ _|refine zd ?_|refine bset' ?_ (by omega) _|refine zb ?_ (by assumption))).size;(try(obtain⟨k0,k1,k2,k3,k4,k5,k6,k7⟩:w1.cell? ⟨w.heap.size,0,none⟩=some (.int .i64 0)∧w1.cell? ⟨w.heap.size,1,none⟩=some (.string ⟨#[]⟩)∧w1.cell? ⟨w.heap.size,2,none⟩=some (.bool false)∧w1.cell? ⟨w.heap.size,3,none⟩=some (.int .i64 0)∧w1.frozen? ⟨w.heap.size,0,none⟩=false∧w1.frozen? ⟨w.heap.size,1,none⟩=false∧w1.frozen? ⟨w.heap.size,2,none⟩=false∧w1.frozen? ⟨w.heap.size,3,none⟩=false;(focus((refine⟨(hb1.cell (p:=⟨w.heap.size,0,none⟩) ?_).trans ?_,(hb1.cell (p:=⟨w.heap.size,1,none⟩) ?_).trans ?_,(hb1.cell (p:=⟨w.heap.size,2,none⟩) ?_).trans ?_,(hb1.cell (p:=⟨w.heap.size,3,none⟩) ?_).trans ?_,(hb1.frozen (p:=⟨w.heap.size,0,none⟩) ?_).trans ?_,(hb1.frozen (p:=⟨w.heap.size,1,none⟩) ?_).trans ?_,(hb1.frozen (p:=⟨w.heap.size,2,none⟩) ?_).trans ?_,(hb1.frozen (p:=⟨w.heap.size,3,none⟩) ?_).trans ?_⟩);(all_goals simp);(all_goals omega)))))))
 all_goals
  go_wp2_with fail;refine(zdj s p A _ (HST.out.later (by(with_reducible repeat first|exact Below.refl _ _|refine zc ?_ _|refine zd ?_|refine bset' ?_ (by omega) _|refine zb ?_ (by assumption)))) (by have:=HQ6.out;omega)).mono ?_;rintro e w2 ⟨hb,rfl,hH,hb2⟩;have HB2:Hid (Below w.heap.size w w2):=(show Below w.heap.size w w2 by(with_reducible repeat first|exact Below.refl _ _|refine zc ?_ _|refine zd ?_|refine bset' ?_ (by omega) _|refine zb ?_ (by assumption)))
  have HHO:=za hH;have HS2:=za (zG.same' HST.out HB2.out);have g1:=(HS2.out.at'.client i hi).2.1;rw[HC.out] at g1;have l2:=HS2.out.at'.lt;clear hb2 hH c20 d1;go_wp2_with fail;refine(zeb hb _ pl w2 HHO.out).mono ?_;rintro e w3 ⟨rfl,hb3⟩;have HS3:=za (HS2.out.later hb3);have g3:=(HS3.out.at'.client i hi).2.1;rw[HC.out] at g3;have l3:=HS3.out.at'.lt;have HEQ:Hid (za0 (p.queue++p.dev.busy) pl=p.held pl):=za rfl
  cases hh:za0 (p.queue++p.dev.busy) pl
  ·have HF:Hid (p.held pl=false):=HEQ.out.symm.trans hh;go_wp2_with fail;refine(zlM s p A w3 HS3.out.at' (by have:=HQ6.out;omega) HGL.out ⟨HTM.out.1,hT⟩ HTM.out.2 pl HPL.out false [] (by simp) none 0 (Or.inl rfl) (fun _=>rfl) (fun hne=>absurd rfl hne) HGR.out).mono ?_;rintro e w4 ⟨p',A',rfl,hs4,hn4⟩;have HS4:=za (HS3.out.trans hs4);have HN4:=za hn4;clear hs4 hn4;go_wp2;go_end0;exact⟨rfl,p',A',HS4.out,HN4.out.trans (by rw[←HQ.out,HF.out];rfl)⟩
  ·have HF:Hid (p.held pl=true):=HEQ.out.symm.trans hh;go_wp2;go_end0;exact⟨rfl,p,A,HS3.out,by rw[←HQ.out,HF.out];rfl⟩
theorem zkx.toN{base:Nat}{l:List Rq}{r:Rq}{L:List Rq}(h:zkx base l r L):zgS base l r L:=h
theorem zpu(l:List Rq)(a:Option Addr)(c:Nat)(r:Rq)(w:World)(hl:zs w a l)(hn:a=none→c=0)(hr:r.At w)(h10:l.length≤1000)(gr:zA r)(gl:∀i (h:i<l.length),zA l[i])(hN:zcg (l.map Rq.nf) r.nf=none) :
  Calls Tryz.prog 89 #[.slice a l.length c,r.val] w fun e w'=>∃n:Int,0<n∧e=.returned (.tuple #[.slice none 0 0,.int .i64 n])∧Below w.heap.size w w':=by
 refine(zly l a c r w hl hn hr h10 gr gl).mono ?_;rintro e w' ⟨⟨_,he⟩|⟨hm,⟨L,a',c',hA,_⟩|⟨_,_,he⟩⟩,hb⟩
 ·exact⟨6,by omega,he,hb⟩
 ·rw[zgV hm hA.toN] at hN;cases hN
 ·exact⟨7,by omega,he,hb⟩
theorem zpt(l:List Rq)(a:Option Addr)(c:Nat)(r:Rq)(w:World)(hl:zs w a l)(hn:a=none→c=0)(hr:r.At w)(h10:l.length≤1000)(gr:zA r)(gl:∀i (h:i<l.length),zA l[i])(L':List Rq)(hN:zcg (l.map Rq.nf) r.nf=some L') :
  Calls Tryz.prog 89 #[.slice a l.length c,r.val] w fun e w'=>∃(L:List Rq) (a':Option Addr) (c':Nat),e=.returned (.tuple #[.slice a' L.length c',.int .i64 0])∧(zgS w.heap.size l r L∧L'=L.map Rq.nf∧zs w' a' L∧zct w.heap.size a' c' L.length)∧Below w.heap.size w w':=by
 refine(zly l a c r w hl hn hr h10 gr gl).mono ?_;rintro e w' ⟨⟨hm,_⟩|⟨hm,⟨L,a',c',hA,he,h1,h2⟩|⟨h1,h2,_⟩⟩,hb⟩
 ·rw[ziw hm] at hN;cases hN
 ·have:=zgV hm hA.toN;rw[hN] at this;exact⟨L,a',c',he,⟨hA.toN,Option.some.inj this,h1,h2⟩,hb⟩
 ·rw[zjF hm h1 h2] at hN;cases hN
def zem(wz:World)(q:Nat)(r:Rq):Prop:=wz.cell? ⟨q,0,none⟩=some (.bool r.wr)∧wz.cell? ⟨q,1,none⟩=some (.int .i64 r.f)∧wz.cell? ⟨q,2,none⟩=some (.int .i64 r.m)∧wz.cell? ⟨q,3,none⟩=some (.slice r.da r.data.length r.dc)∧wz.cell? ⟨q,4,none⟩=some (.slice r.ta r.tags.length r.tc)∧wz.cell? ⟨q,5,none⟩=some (.int .i64 r.born)
theorem zem.later{w w':World}{q:Nat}{r:Rq}(h:zem w q r)(hb:Below w.heap.size w w'):zem w' q r :=
 ⟨cellB_later' hb h.1,cellB_later' hb h.2.1,cellB_later' hb h.2.2.1,cellB_later' hb h.2.2.2.1,cellB_later' hb h.2.2.2.2.1,cellB_later' hb h.2.2.2.2.2⟩
theorem zh5(s:Nat)(p:Sk)(A:Rs)(w:World)(h:zH s p A w)(hI:Inv p)(hT:p.tags≤4000000000000000000)(pl:Int)(hpl:0≤pl∧pl≤31)(wr:Bool)(data:List ByteArray)(hdl:data.length≤4)(da:Option Addr)(dc:Nat)(hd:zU w da data)(hdn:da=none→dc=0)
  (hoff:data ≠ []→∀ad,da=some ad→¬A.off s ad.block) (gr:∀tb,zA (zbr p pl wr data da dc tb)∧zcz (zbr p pl wr data da dc tb)=0) (t:Bool) (q':Sk) (hq':p.nf.askQ pl wr data=(t,q')) :
  Calls Tryz.prog 54 #[.pointer (some ⟨s,0,none⟩),.agg #[.bool wr,.int .i64 pl,.int .i64 1,.slice da data.length dc,.slice none 0 0,.int .i64 0]] w fun e w'=>e=.returned (.bool t)∧KOk 0 s p A w w' q':=by
 have c3:=h.cell 3 _ rfl;have c8:=h.cell 8 _ rfl;have c10:=h.cell 10 _ rfl;have hl:=h.lt;have hT0:=hI.tg;have hM:=hI.mom;have h6:=hI.q6;have HQ:=za h.mem.queue;have HN:=za h.mem.qnil;have HST:=za h;have HGL:=za hI.goods;have HGR:=za (gr (w.heap.size+1));have HOFF:=za hoff;have hwr:IntKind.i64.wrap (p.tags+1)=p.tags+1:=by rw[IntKind.wrap_i64];omega
 have HAT:Hid (∀wz,Below w.heap.size w wz→wz.cell? ⟨w.heap.size+1,0,none⟩=some (.int .i64 (p.tags+1))→(zbr p pl wr data da dc (w.heap.size+1)).At wz):=by
  intro wz hbz hc;refine⟨hd.later hbz,Or.inr ⟨w.heap.size+1,0,rfl,fun i hi=>?_⟩,by show data.length≤_;omega,by show 1≤_;omega,?_,?_,?_,hdn,fun e=>by cases e⟩
  ·obtain rfl:i=0:=by simp[zbr] at hi;omega
   exact hc
  ·show zaj pl;unfold zaj;omega
  ·show zaj 1;unfold zaj;omega
  ·show zaj p.moment;unfold zaj;omega
 clear h hI gr hoff hd;have hask:p.nf.askQ pl wr data=match zcg (p.queue.map Rq.nf) (zbr p pl wr data da dc (w.heap.size+1)).nf with
  |some l=>(true,{ p.nf with queue:=l,tags:=p.tags+1 })
  |none=>(false,p.nf):=rfl
 rw[hask] at hq';clear hask;go_enter Tryz.func54,Tryz.ntmps54;go_upto_region 3 with fail;refine zai (fun wz=>zem wz w.heap.size (zbr p pl wr data da dc (w.heap.size+1))∧wz.cell? ⟨w.heap.size+1,0,none⟩=some (.int .i64 (p.tags+1))∧Below w.heap.size w wz∧w.heap.size+2≤wz.heap.size) ⟨⟨by simp[zbr],by simp[zbr],by simp[zbr],by simp[zbr],by simp[zbr],by simp[zbr]⟩,by simp,by(with_reducible repeat first|exact Below.refl _ _|refine zc ?_ _|refine zd ?_|refine bset' ?_ (by omega) _|refine zb ?_ (by assumption)),by simp⟩ ?_;rintro w1 ⟨hbox,htag,hb1,hs1⟩;have HBX:=za hbox;have HB1:=za hb1;have HA1:=za (HAT.out w1 hb1 htag);have HQ1:=za (HQ.out.later hb1);have c3':=cellB_later' hb1 c3;obtain⟨x0,x1,x2,x3,x4,x5⟩:=id hbox;simp only[zbr] at x0 x1 x2 x3 x4 x5;clear hbox htag hb1 HAT HQ c3 c8 c10
 cases hF:zcg (p.queue.map Rq.nf) (zbr p pl wr data da dc (w.heap.size+1)).nf with
 |none =>
  rw[hF] at hq';simp only[Prod.mk.injEq] at hq';obtain⟨rfl,rfl⟩:=hq';have HF:=za hF;clear hF
  go_region_held3 (fun w'=>w'.cell? ⟨s,3,none⟩=some (.slice A.qa p.queue.length A.qc)∧w'.cell? ⟨w.heap.size,0,none⟩=some (.bool wr)∧w'.cell? ⟨w.heap.size,1,none⟩=some (.int .i64 pl)∧w'.cell? ⟨w.heap.size,2,none⟩=some (.int .i64 1)∧w'.cell? ⟨w.heap.size,3,none⟩=some (.slice da data.length dc)∧w'.cell? ⟨w.heap.size,4,none⟩=some (.slice (some ⟨w.heap.size+1,0,none⟩) 1 1)∧w'.cell? ⟨w.heap.size,5,none⟩=some (.int .i64 p.moment)) (exact⟨cellB_later' (w:=w1) (by(with_reducible repeat first|exact Below.refl _ _|refine zc ?_ _|refine zd ?_|refine bset' ?_ (by omega) _|refine zb ?_ (by assumption))) c3',HBX.out.later (by(with_reducible repeat first|exact Below.refl _ _|refine zc ?_ _|refine zd ?_|refine bset' ?_ (by omega) _|refine zb ?_ (by assumption)))⟩) (first|(go_at_call 89;refine(zpu p.queue A.qa A.qc (zbr p pl wr data da dc (w.heap.size+1)) _ (HQ1.out.later (by(with_reducible repeat first|exact Below.refl _ _|refine zc ?_ _|refine zd ?_|refine bset' ?_ (by omega) _|refine zb ?_ (by assumption)))) HN.out (HA1.out.later (by(with_reducible repeat first|exact Below.refl _ _|refine zc ?_ _|refine zd ?_|refine bset' ?_ (by omega) _|refine zb ?_ (by assumption)))) (by omega) HGR.out.1 HGL.out HF.out).mono ?_;rintro e w2 ⟨n,hn0,rfl,hb2⟩))
  all_goals
   have HB2:Hid (Below w.heap.size w w2):=(by have hb1:=HB1.out;show Below w.heap.size w w2;(with_reducible repeat first|exact Below.refl _ _|refine zc ?_ _|refine zd ?_|refine bset' ?_ (by omega) _|refine zb ?_ (by assumption)))
   clear hb2;go_wp2;go_ret;exact⟨rfl,p,A,zE.same' HST.out (by have:=HB2.out;((with_reducible repeat first|exact Below.refl _ _|refine zc ?_ _|refine zd ?_|refine bset' ?_ (by omega) _|refine zb ?_ (by assumption)))),rfl,Nat.le_refl _⟩
 |some L' =>
  rw[hF] at hq';simp only[Prod.mk.injEq] at hq';obtain⟨rfl,rfl⟩:=hq';have HF:=za hF;clear hF
  go_region_held3 (fun w'=>w'.cell? ⟨s,3,none⟩=some (.slice A.qa p.queue.length A.qc)∧w'.cell? ⟨w.heap.size,0,none⟩=some (.bool wr)∧w'.cell? ⟨w.heap.size,1,none⟩=some (.int .i64 pl)∧w'.cell? ⟨w.heap.size,2,none⟩=some (.int .i64 1)∧w'.cell? ⟨w.heap.size,3,none⟩=some (.slice da data.length dc)∧w'.cell? ⟨w.heap.size,4,none⟩=some (.slice (some ⟨w.heap.size+1,0,none⟩) 1 1)∧w'.cell? ⟨w.heap.size,5,none⟩=some (.int .i64 p.moment)) (exact⟨cellB_later' (w:=w1) (by(with_reducible repeat first|exact Below.refl _ _|refine zc ?_ _|refine zd ?_|refine bset' ?_ (by omega) _|refine zb ?_ (by assumption))) c3',HBX.out.later (by(with_reducible repeat first|exact Below.refl _ _|refine zc ?_ _|refine zd ?_|refine bset' ?_ (by omega) _|refine zb ?_ (by assumption)))⟩) (first|(go_at_call 89;refine(zpt p.queue A.qa A.qc (zbr p pl wr data da dc (w.heap.size+1)) _ (HQ1.out.later (by(with_reducible repeat first|exact Below.refl _ _|refine zc ?_ _|refine zd ?_|refine bset' ?_ (by omega) _|refine zb ?_ (by assumption)))) HN.out (HA1.out.later (by(with_reducible repeat first|exact Below.refl _ _|refine zc ?_ _|refine zd ?_|refine bset' ?_ (by omega) _|refine zb ?_ (by assumption)))) (by omega) HGR.out.1 HGL.out L' HF.out).mono ?_;rintro e w2 ⟨L,a',c',rfl,hadd,hb2⟩;have HA:=za hadd;clear hadd))
  all_goals
   have HB2:Hid (Below w.heap.size w w2):=(by have hb1:=HB1.out;show Below w.heap.size w w2;(with_reducible repeat first|exact Below.refl _ _|refine zc ?_ _|refine zd ?_|refine bset' ?_ (by omega) _|refine zb ?_ (by assumption)))
   have HS2:=za (zE.same' HST.out HB2.out);have g3:=HS2.out.at'.cell 3 _ rfl;have g10:=HS2.out.at'.cell 10 _ rfl;have f3:=HS2.out.at'.fz 3;have f10:=HS2.out.at'.fz 10;have l2:=HS2.out.at'.lt;have HX:Hid (zE s p A { p with queue:=L,tags:=p.tags+1 } { A with qa:=a',qc:=c' } w ((w2.setCell ⟨s,3,none⟩ (.slice a' L.length c')).setCell ⟨s,10,none⟩ (.int .i64 (p.tags+1)))):=by
    obtain⟨h1,-,h3,h4,h5,h6⟩:=HA.out;have hz:w.heap.size+2≤w1.heap.size:=hs1;have h6':∀q,a'=some q→w.heap.size≤q.block:=fun q hq=>by have h7:=h6 q hq;(try simp only[World.drew] at h7);have h8:w1.heap.size≤q.block:=h7;omega
    refine HS2.out.trans (HS2.out.at'.setQueue L a' c' (p.tags+1) h3 h5 h4 (fun _ q hq' e=>?_) (fun r hr=>?_))
    ·have:=h6' q hq';have:=HST.out.offLt _ e
     omega
    ·rcases h1 with⟨k,hk,q,_,_,_,hf,rfl⟩|⟨_,_,rfl⟩
     ·rcases List.mem_or_eq_of_mem_set hr with hr'|rfl
      ·exact HST.out.mem.roff r (List.mem_append_left _ hr')
      ·exact zjC (h3.2.1 r hr) hf (fun k' hk'=>by have h9:=HST.out.offLt _ hk';show k'<w1.heap.size;omega)
     ·rcases List.mem_append.1 hr with hr'|hr'
      ·exact HST.out.mem.roff r (List.mem_append_left _ hr')
      ·rw[List.mem_singleton.1 hr'];refine⟨HOFF.out,fun _ ad ha e=>?_⟩;have hlt:=HST.out.offLt _ e;simp only[zbr,Option.some.injEq] at ha;subst ha;simp only at hlt
       omega
   have HL:Hid (L'=L.map Rq.nf):=HA.out.2.1;clear hb2 HA HS2 HST;go_wp2;go_ret;exact⟨rfl,_,_,HX.out,by rw[HL.out];rfl,Nat.le_refl _⟩
theorem zbG{K:Act→World→Prop}{Q:Exit→Act→World→Prop}{a:Act}{w:World}(R:World→Prop)(h:R w)(k:∀w',R w'→Exit.then K Q .normal a w'):Exit.then K Q .normal a w:=k w h
theorem zfj{P:Program}{ops:Array Oper}{o:Oper}{a:Act}{w:World}{K:Act→World→Prop}{Q:Exit→Act→World→Prop}{E:Prop}
  (hg:o.guard=none) (f:FuncId) (x1 x2 x3:Nat) (t1 t2 t3:TypeId) (hop:o.op=Op.call { callee:=Callee.value (.func f),args:=#[.tmp x1,.tmp x2,.tmp x3],argTypes:=#[t1,t2,t3] }) (eg:∀args w,(callFunc f args).run P w=.ok (.enter f args) w)
  (v1 v2 v3:Value) (e1:a.tmps[x1]?.getD undef=v1) (e2:a.tmps[x2]?.getD undef=v2) (e3:a.tmps[x3]?.getD undef=v3) (R:Value→World→Prop) (hc:Calls P f #[v1,v2,v3] w fun e w'=>∃r,e=.returned r∧R r w') (h:∀r w',R r w'→K (a.put o.dst r) w') :
  if Region.wanted o (yielded ops a.tmps)=true then Oper.wp P o a w K Q else E:=by
 have hw:Region.wanted o (yielded ops a.tmps)=true:=by simp[Region.wanted,hg]
 rw[if_pos hw];unfold Oper.wp
 simp[execOp,hop,resolve,invoke,e1,e2,e3,eg,go_sem]
 refine hc.mono ?_;rintro _ w' ⟨r,rfl,hs⟩;exact h r w' hs
section
variable{s:Nat}{p:Sk}{A:Sa}{w:World}
theorem z9.setHand(h:z9 s p A w)(l:List Bf)(a':Option Addr)(c':Nat)(hB:zB w a' l)(hcap:l.length≤c')(hnil:a'=none→c'=0)(ho:l ≠ []→∀q,a'=some q→¬A.off s q.block):z9 s { p with hand:=l } { A with ha:=a',hc:=c' } w where
 drv:=h.drv
 map:=h.map
 im:=h.im
 nb:=h.nb
 hand:=hB
 hnil:=hnil
 hcap:=hcap
 queue:=h.queue
 qnil:=h.qnil
 qcap:=h.qcap
 left:=h.left
 sv:=h.sv
 vl:=h.vl
 ll:=h.ll
 hoffX:=ho
 qoffX:=h.qoffX
 roffX:=h.roffX
 xlt:=h.xlt
theorem z9.setUses(h:z9 s p A w)(u:Int):z9 s { p with uses:=u } A w where
 drv:=h.drv
 map:=h.map
 im:=h.im
 nb:=h.nb
 hand:=h.hand
 hnil:=h.hnil
 hcap:=h.hcap
 queue:=h.queue
 qnil:=h.qnil
 qcap:=h.qcap
 left:=h.left
 sv:=h.sv
 vl:=h.vl
 ll:=h.ll
 hoffX:=h.hoffX
 qoffX:=h.qoffX
 roffX:=h.roffX
 xlt:=h.xlt
theorem zv.setUses(h:zv s p A w)(u:Int):zG s p A { p with uses:=u } A w (w.setCell ⟨s,28,none⟩ (.int .i64 u)):=h.put (h.mem.setUses u) 28 _ rfl (fun _ hk=>hk) ⟨rfl,rfl,rfl,rfl⟩
theorem zv.setHand(h:zv s p A w)(l:List Bf)(a':Option Addr)(c':Nat)(hB:zB w a' l)(hcap:l.length≤c')(hnil:a'=none→c'=0)(ho:l ≠ []→∀q,a'=some q→¬A.off s q.block):zG s p A { p with hand:=l } { A with ha:=a',hc:=c' } w (w.setCell ⟨s,20,none⟩ (.slice a' l.length c')):=h.put (h.mem.setHand l a' c' hB hcap hnil ho) 20 _ rfl (fun _ hk=>hk) ⟨rfl,rfl,rfl,rfl⟩
end
theorem zfb(l:List Bf)(pl u:Int):(useL l pl u).length=l.length:=by simp[useL]
theorem zG.box{s:Nat}{p p':Sk}{A A':Sa}{w wz w':World}{g j:Nat}{v:Value}(hs:zG s p A p' A' wz w')(h0:zv s p A w)(hg:w.heap.size≤g)(hc:wz.cell? ⟨g,j,none⟩=some v):w'.cell? ⟨g,j,none⟩=some v :=
 (hs.only.cell (p:=⟨g,j,none⟩) (zg hc) (fun e=>by have:=h0.footLt _ e;simp only at this;omega)).trans hc
theorem zj8(s:Nat)(p:Sk)(A:Sa)(w:World)(h:zv s p A w)(hI:Inv p)(hU:p.uses≤4000000000000000000)(i:Nat)(hi:i<3)(k:Nat)(hk:k<p.hand.length)(hg:zaH p.hand (p.client i).pl=some p.hand[k])(hix:zap (plB (p.client i).pl) p.hand=k)(ho:zeY p.hand)(q:Sk)(hq:p.nf.serveRead i=q) :
  Calls Tryz.prog 73 #[.pointer (some ⟨s,0,none⟩),.pointer (some ⟨s,2+i*6,none⟩)] w fun e w'=>e=.returned (.tuple #[])∧SOk s p A w w' q:=by
 have e1:p.nf.serveRead i=({ p.nf with uses:=p.uses+1,hand:=useL p.hand (p.client i).pl (p.uses+1) }:Sk).answer i p.hand[k].data 0:=by
  show(match zaH p.hand (p.client i).pl with|some b=>_|none=>_)=_;rw[hg];rfl
 rw[e1] at hq;have H8:=za hI.hand.len;have HU0:=za hI.us;have HCL:=za hI.cl3;have HIX:=za hix;have HO:=za ho;obtain⟨-,d1,-⟩:=h.client i hi;have c20:=h.cell 20 _ rfl;have hl:=h.lt;have HST:=za h;have HH:=za h.mem.hand;have hwr:IntKind.i64.wrap (p.uses+1)=p.uses+1:=by have:=hI.us;rw[IntKind.wrap_i64];omega
 clear h hI e1 hg hix ho;generalize hpl:(p.client i).pl=pl at *;have HC:Hid ((p.client i).pl=pl):=hpl;obtain⟨b,hbk⟩:∃b,b=p.hand[k]:=⟨_,rfl⟩
 rw[←hbk] at hq;have HBK:Hid (b=p.hand[k]):=hbk;have HQ:=za hq;clear hpl hq hbk;obtain⟨bpl,bdata,bdirty,bused⟩:=b;go_enter Tryz.func73,Tryz.ntmps73;go_wp2_with fail
 go_region_held3 (fun w'=>w'.cell? ⟨s,20,none⟩=some (.slice A.ha p.hand.length A.hc)∧w'.cell? ⟨s,2+i*6+1,none⟩=some (.int .i64 pl)) (exact⟨cellB_later' (w:=w) (by(with_reducible repeat first|exact Below.refl _ _|refine zc ?_ _|refine zd ?_|refine bset' ?_ (by omega) _|refine zb ?_ (by assumption))) c20,cellB_later' (w:=w) (by(with_reducible repeat first|exact Below.refl _ _|refine zc ?_ _|refine zd ?_|refine bset' ?_ (by omega) _|refine zb ?_ (by assumption))) d1⟩) (first|(go_at_call 49;refine(zfA p.hand A.ha A.hc pl _ (HH.out.later (by(with_reducible repeat first|exact Below.refl _ _|refine zc ?_ _|refine zd ?_|refine bset' ?_ (by omega) _|refine zb ?_ (by assumption)))) k hk HIX.out).mono ?_;rw[←HBK.out];rintro e w1 ⟨rfl,hb1⟩;have z1:w.heap.size≤w1.heap.size:=(show Below w.heap.size w w1 by(with_reducible repeat first|exact Below.refl _ _|refine zc ?_ _|refine zd ?_|refine bset' ?_ (by omega) _|refine zb ?_ (by assumption))).size;(try(obtain⟨k0,k1,k2,k3,k4,k5,k6,k7⟩:w1.cell? ⟨w.heap.size,0,none⟩=some (.int .i64 0)∧w1.cell? ⟨w.heap.size,1,none⟩=some (.string ⟨#[]⟩)∧w1.cell? ⟨w.heap.size,2,none⟩=some (.bool false)∧w1.cell? ⟨w.heap.size,3,none⟩=some (.int .i64 0)∧w1.frozen? ⟨w.heap.size,0,none⟩=false∧w1.frozen? ⟨w.heap.size,1,none⟩=false∧w1.frozen? ⟨w.heap.size,2,none⟩=false∧w1.frozen? ⟨w.heap.size,3,none⟩=false;(focus((refine⟨(hb1.cell (p:=⟨w.heap.size,0,none⟩) ?_).trans ?_,(hb1.cell (p:=⟨w.heap.size,1,none⟩) ?_).trans ?_,(hb1.cell (p:=⟨w.heap.size,2,none⟩) ?_).trans ?_,(hb1.cell (p:=⟨w.heap.size,3,none⟩) ?_).trans ?_,(hb1.frozen (p:=⟨w.heap.size,0,none⟩) ?_).trans ?_,(hb1.frozen (p:=⟨w.heap.size,1,none⟩) ?_).trans ?_,(hb1.frozen (p:=⟨w.heap.size,2,none⟩) ?_).trans ?_,(hb1.frozen (p:=⟨w.heap.size,3,none⟩) ?_).trans ?_⟩);(all_goals simp);(all_goals omega)))))))
 refine zbG (fun wz=>Below w.heap.size w wz∧wz.cell? ⟨w1.heap.size,1,none⟩=some (.string bdata)∧w.heap.size≤w1.heap.size) ⟨by(with_reducible repeat first|exact Below.refl _ _|refine zc ?_ _|refine zd ?_|refine bset' ?_ (by omega) _|refine zb ?_ (by assumption)),by simp,z1⟩ ?_
 rotate_left
 refine zbG (fun wz=>Below w.heap.size w wz∧wz.cell? ⟨w.heap.size,1,none⟩=some (.string bdata)∧w.heap.size≤w.heap.size) ⟨by(with_reducible repeat first|exact Below.refl _ _|refine zc ?_ _|refine zd ?_|refine bset' ?_ (by omega) _|refine zb ?_ (by assumption)),(zV (Or.inr (by omega))).trans ((zV (Or.inr (by omega))).trans (World.cell?_setCell_same _ _ _ ((zV (Or.inr (by omega))).trans k1))),Nat.le_refl _⟩ ?_
 all_goals
  rintro wz ⟨hbz,hbx,hge⟩;have HBX:=za hbx;have HGE:=za hge;have HSz:=za (zG.same' HST.out hbz);have c28:=HSz.out.at'.cell 28 _ rfl;have f28:=HSz.out.at'.fz 28;have lz:=HSz.out.at'.lt;clear hb1 z1 hbx hge hbz c20 d1;go_wp2_with fail;refine zai (fun wy=>zG s p A { p with uses:=p.uses+1 } A wz wy) (HSz.out.at'.setUses (p.uses+1)) ?_;intro wy hsy;have HSy:=za hsy;have HS:Hid ((fun wv:World=>wv.cell? ⟨s,20,none⟩=some (.slice A.ha p.hand.length A.hc)∧wv.cell? ⟨s,2+i*6+1,none⟩=some (.int .i64 pl)∧wv.cell? ⟨s,28,none⟩=some (.int .i64 (p.uses+1))∧s<wv.heap.size) wy.drew):=⟨hsy.at'.cell 20 _ rfl,by rw[←HC.out];exact(hsy.at'.client i hi).2.1,hsy.at'.cell 28 _ rfl,hsy.at'.lt⟩
  have eg:∀args w,Sem.run Tryz.prog (callFunc 105 args) w=.ok (.enter 105 args) w:=by intro args w;go_simp
  clear hsy c28 f28 lz;refine zaJ (S:=fun wv:World=>wv.cell? ⟨s,20,none⟩=some (.slice A.ha p.hand.length A.hc)∧wv.cell? ⟨s,2+i*6+1,none⟩=some (.int .i64 pl)∧wv.cell? ⟨s,28,none⟩=some (.int .i64 (p.uses+1))∧s<wv.heap.size) (d:=16) (by kernel_rfl) ?_;refine tk 0 ?_ rfl (Or.inl ⟨by rfl,?_⟩) HS.out ?_;rotate_left;(focus(intro w0 hSw;obtain⟨s0,s1,s2,s3⟩:=hSw;go_simp;(try with_reducible rfl)));(try simp only[Act.put,dP])
  refine tk 1 ?_ rfl (Or.inl ⟨by rfl,?_⟩) HS.out ?_;rotate_left;(focus(intro w0 hSw;obtain⟨s0,s1,s2,s3⟩:=hSw;go_simp;(try with_reducible rfl)));(try simp only[Act.put,dP])
  refine tk 2 ?_ rfl (Or.inl ⟨by rfl,?_⟩) HS.out ?_;rotate_left;(focus(intro w0 hSw;obtain⟨s0,s1,s2,s3⟩:=hSw;go_simp;(try with_reducible rfl)));(try simp only[Act.put,dP])
  refine tk 3 ?_ rfl (Or.inl ⟨by rfl,?_⟩) HS.out ?_;rotate_left;(focus(intro w0 hSw;obtain⟨s0,s1,s2,s3⟩:=hSw;go_simp;(try with_reducible rfl)));(try simp only[Act.put,dP])
  refine tk 4 ?_ rfl (Or.inl ⟨by rfl,?_⟩) HS.out ?_;rotate_left;(focus(intro w0 hSw;obtain⟨s0,s1,s2,s3⟩:=hSw;go_simp;(try with_reducible rfl)));(try simp only[Act.put,dP])
  refine tk 5 ?_ rfl (Or.inl ⟨by rfl,?_⟩) HS.out ?_;rotate_left;(focus(intro w0 hSw;obtain⟨s0,s1,s2,s3⟩:=hSw;go_simp;(try with_reducible rfl)));(try simp only[Act.put,dP])
  refine tk 6 ?_ rfl (Or.inl ⟨by rfl,?_⟩) HS.out ?_;rotate_left;(focus(intro w0 hSw;obtain⟨s0,s1,s2,s3⟩:=hSw;go_simp;(try with_reducible rfl)));(try simp only[Act.put,dP])
  refine tk 7 ?_ rfl (Or.inl ⟨by rfl,?_⟩) HS.out ?_;rotate_left;(focus(intro w0 hSw;obtain⟨s0,s1,s2,s3⟩:=hSw;go_simp;(try with_reducible rfl)));(try simp only[Act.put,dP])
  refine tk 8 ?_ rfl (Or.inl ⟨by rfl,?_⟩) HS.out ?_;rotate_left;(focus(intro w0 hSw;obtain⟨s0,s1,s2,s3⟩:=hSw;go_simp;(try with_reducible rfl)));(try simp only[Act.put,dP])
  refine tk 9 ?_ rfl (Or.inl ⟨by rfl,?_⟩) HS.out ?_;rotate_left;(focus(intro w0 hSw;obtain⟨s0,s1,s2,s3⟩:=hSw;go_simp;(try with_reducible rfl)));(try simp only[Act.put,dP])
  refine tk 10 ?_ rfl (Or.inl ⟨by rfl,?_⟩) HS.out ?_;rotate_left;(focus(intro w0 hSw;obtain⟨s0,s1,s2,s3⟩:=hSw;go_simp;(try with_reducible rfl)));(try simp only[Act.put,dP])
  refine tk 11 ?_ rfl (Or.inl ⟨by rfl,?_⟩) HS.out ?_;rotate_left;(focus(intro w0 hSw;obtain⟨s0,s1,s2,s3⟩:=hSw;go_simp;(try with_reducible rfl)));(try simp only[Act.put,dP])
  refine tk 12 ?_ rfl (Or.inl ⟨by rfl,?_⟩) HS.out ?_;rotate_left;(focus(intro w0 hSw;obtain⟨s0,s1,s2,s3⟩:=hSw;go_simp;(try with_reducible rfl)));(try simp only[Act.put,dP])
  refine zw (i:=13) rfl (by kernel_rfl) ?_;intro K hK;refine zfj rfl 105 31 35 39 56 3 3 rfl eg (.slice A.ha p.hand.length A.hc) (.int .i64 pl) (.int .i64 (p.uses+1)) rfl rfl rfl (fun r w'=>∃a' c',r=.slice a' p.hand.length c'∧zB w' a' (useL p.hand pl (p.uses+1))∧p.hand.length≤c'∧zdV wy.heap.size a'∧(a'=none→c'=0)∧Below wy.heap.size wy w') ((useN p.hand A.ha A.hc pl (p.uses+1) wy.drew (HSy.out.at'.mem.hand.later (Below.refl _ _).drew) HSy.out.at'.mem.hnil (by have:=H8.out;omega) HO.out).mono (fun e w' ⟨a',c',he,h1,h2,h3,h4,h5⟩=>⟨_,he,a',c',rfl,h1,h2,h3,h4,(Below.refl _ _).drew.trans h5⟩)) ?_;rintro r w5 ⟨a',c',rfl,u1,u2,u3,u4,u5⟩;have HS5:=za (HSy.out.later u5);have HSH:=za (HS5.out.trans (HS5.out.at'.setHand (useL p.hand pl (p.uses+1)) a' c' u1 (by rw[zfb];exact u2) u4 (fun _ q' hq' e=>by have:=u3 q' hq';have:=HSy.out.at'.offLt _ e;omega)));have v20:=HS5.out.at'.cell 20 _ rfl;have x20:=HS5.out.at'.fz 20;have l5:=HS5.out.at'.lt;refine hK _ _ (fun _=>⟨v20,by rw[←HC.out];exact(HS5.out.at'.client i hi).2.1,HS5.out.at'.cell 28 _ rfl,l5⟩) ?_
  (try simp only[Act.put,dP])
  have HS':Hid ((fun wv:World=>wv.cell? ⟨s,20,none⟩=some (.slice A.ha p.hand.length A.hc)∧wv.cell? ⟨s,2+i*6+1,none⟩=some (.int .i64 pl)∧wv.cell? ⟨s,28,none⟩=some (.int .i64 (p.uses+1))∧s<wv.heap.size) w5):=⟨v20,by rw[←HC.out];exact(HS5.out.at'.client i hi).2.1,HS5.out.at'.cell 28 _ rfl,l5⟩
  clear hK u1 u2 u3 u4 u5;refine zw (i:=14) rfl (by kernel_rfl) ?_;intro K hK;go_simp;refine hK _ _ (fun _=>HS'.out) ?_
  (try simp only[Act.put,dP])
  clear hK;refine zw (i:=15) rfl (by kernel_rfl) ?_;intro K hK;go_simp;refine hK _ _ (fun _=>HS'.out) ?_
  (try simp only[Act.put,dP])
  clear hK;refine zw (i:=16) rfl (by kernel_rfl) ?_;intro K hK;go_simp;refine hK _ _ (fun h=>absurd rfl h) ?_
  (try simp only[Act.put,dP])
  clear hK;refine zaO (by kernel_rfl) ?_ _;refine zbG (fun wv=>zG s p A { p with uses:=p.uses+1,hand:=useL p.hand pl (p.uses+1) } { A with ha:=a',hc:=c' } wz wv) (by have:=HSH.out;rw[zfb] at this;exact this) ?_;intro w6 hs6;have HS6:=za hs6;have hbx6:=hs6.box HST.out HGE.out HBX.out;have l6:=zg hbx6;clear hs6 v20 x20 l5;go_wp2_with fail;have hans:=zcV s _ _ w6 HS6.out.at' HCL.out i hi bdata 0;rw[show zae 0=.nilIface from rfl] at hans;refine hans.mono ?_;clear hans;rintro e w7 ⟨rfl,hs7⟩;have HS7:=za (HSz.out.trans (HS6.out.trans hs7));clear hs7 hbx6 l6;go_wp2;refine bodyPost_ret (v:=.tuple #[]) (by simp[results,Tryz.results73,go_sem]) rfl ?_;exact⟨rfl,_,_,HS7.out,by rw[←HQ.out];rfl⟩
end Go.Proofs.YtlhgjplipgandaaGreat
namespace Go.Proofs.YtlhgjplipgandaaGreat
open Go.RowKit Go.BigFrame
attribute [local go_sem] ze.cell ze.frozen
theorem zoA(l:List Bf)(a:Option Addr)(c:Nat)(x:Bf)(hs:Array Value)(w:World)(hl:zB w a l)(G:zbq l)(j:Nat)(hj:j<l.length)(hi:zap (plB x.pl) l=j) :
  Calls Tryz.prog 69 #[.slice a l.length c,x.val,.agg hs] w fun e w'=>∃M a' c',e=.returned (.tuple #[.slice a' M.length c',.int .i64 0])∧zB w' a' M∧zhF l x (-1) M∧Below w.heap.size w w'∧zct w.heap.size a' c' M.length:=by
 have hb3:=hl.2;go_enter Tryz.func69,Tryz.ntmps69;go_wp2_with fail;refine(zeI l a c x.pl _ (hl.later (zbm _ _ _)) j hj hi).mono ?_;rintro e w1 ⟨rfl,hb1⟩;have HB1:Below w.heap.size w w1:=by(with_reducible repeat first|exact Below.refl _ _|refine zc ?_ _|refine zd ?_|refine bset' ?_ (by omega) _|refine zb ?_ (by assumption))
 have F1:zbh w1 w.heap.size x:=zbh.later (zbh.later ⟨by simp,by simp,by simp,by simp⟩ (zn _ _)) hb1;have hl1:=hl.later HB1;obtain⟨p0,p1,p2,p3⟩:=id F1;clear hb1 hi;go_wp2_with fail;have b2:=zn w1 (.cells #[.int .i64 l[j].pl,.string l[j].data,.bool l[j].dirty,.int .i64 l[j].used] 97);have hlz:=hl1.later b2;have Fz:=F1.later b2;have HBz:=zb HB1 b2;have G:=zk G;clear b2 p0 p1 p2 p3 hl1 F1 HB1;generalize hgg:(-1:Int)=g;have HGG:=zk hgg;clear hgg;generalize hWz:w1.alloc (.cells #[.int .i64 l[j].pl,.string l[j].data,.bool l[j].dirty,.int .i64 l[j].used] 97)=wz at hlz Fz HBz ⊢;clear hWz;obtain⟨ib,hib,hz0,hz1,hz2⟩:=zaL ze5
 go_loopw[11,12,13] (fun out laid i wr=>∃(k:Nat) (O:List Bf) (b:Bool),k≤l.length∧i=.int .i64 k∧laid=.bool b∧zeS l x g k O b∧wr.ownsRow wz.heap.size 97 4 out O.length (zr O)∧Below wz.heap.size wz wr) (fun _ _ i _=>l.length-(intOf i).toNat)
 case atStart=>exact⟨0,[],false,by omega,rfl,rfl,zjg _ _ _,World.ownsRow_nil _ _ _ _,Below.refl _ _⟩
 case round =>
  rename_i u11
  obtain⟨k,O,b,hk,rfl,rfl,hR,hown0,hbr⟩:=hrel;have HR:=zk hR;have HT0:=zk hbr;have hOl:O.length≤2*l.length:=(by have:=hR.len;omega)
  have HLN:Hid (O.length≤16):=(by have:=G.out.len;show O.length≤16;omega)
  clear hR hbr hOl
  by_cases hlt:k<l.length
  ·have h0:l ≠ []:=by rintro rfl;exact absurd hlt (Nat.not_lt_zero _)
   obtain⟨b0,o0,rfl⟩:=hlz.form.resolve_left h0;obtain⟨c0,c1,c2,c3⟩:=(hlz.later HT0.out).cells hlt;obtain⟨p0,p1,p2,p3⟩:=Fz.later HT0.out;have lc:=zh c0;have lx:=zh p0;clear h0;have hlt0:=hlt
   cases b
   ·by_cases hxk:x.pl≤l[k].pl
    ·by_cases hpl:l[k].pl=x.pl
     ·have HN0:=zk (zaz G.out hlt HR.out);have HRL:Hid (zS l x g k hlt O false=O++[x]):=(by show zS l x g k hlt O false=O++[x];unfold zS;rw[if_pos ⟨rfl,hxk⟩,if_neg (fun h=>h.1 hpl)];simp)
      have hd:decide (x.pl≤l[k].pl)=true:=decide_eq_true hxk;have hq1:(l[k].pl==x.pl)=true:=(by rw[hpl];simp)
      have hq1b:(l[k].pl != x.pl)=false:=(by simp[bne,hq1])
      have hq1c:(!(l[k].pl==x.pl))=false:=(by simp[hq1])
      have hq1d:decide (l[k].pl=x.pl)=true:=(by simpa using hq1)
      have HD:=zk hd;clear HR hpl hxk;go_wp2_with fail;refine zj (by first|exact HB|exact zd HB|exact Below.refl _ _) (by kernel_rfl) (by kernel_rfl) ?_
      repeat(go_big_quiet_step (first|exact rfl|fail))
      refine wpQuiet_nil ?_;intro _ hw';obtain⟨p,hw''⟩:=hw';subst hw'';(try clear hc hf hz);(try clear HB);have HB:=p.below;obtain⟨hc,hf,hz⟩:=zu HB;clear hc hf hz;generalize p.v=wq1 at HB ⊢;have HT1:=zk (zb HT0.out HB);have hown1:=zm hown0 HB;clear HB c0 c1 c2 c3 p0 p1 p2 p3 lc lx HT0 hown0;obtain⟨c0,c1,c2,c3⟩:=(hlz.later HT1.out).cells hlt;obtain⟨p0,p1,p2,p3⟩:=Fz.later HT1.out;have lc:=zh c0;have lx:=zh p0;have HO2:=zk hown1;have hsz2:=HT1.out.size;go_wp2_with(at_builtin;refine zq rfl _ _ 56 rfl wz.heap.size 97 ib _ 4 40 Tryz.underlying56 hib hz0 hz1 hz2 rfl (by decide) _ O.length (zr O) rfl (zm HO2.out (zn _ _)) (some ⟨wq1.heap.size,0,none⟩) 1 1 (zr [x]) rfl (zbc x wq1) (by unfold maxLen;have:=HLN.out;omega) (by have:=HLN.out;omega) (by simp only[World.size_alloc];omega) ?_;intro v2 wq1b hown2 hbx);have HT2:=zk (HT1.out.trans (((zn wq1 _).mono (by omega)).trans hbx));clear hbx c0 c1 c2 c3 p0 p1 p2 p3 lc lx HO2 HT1 hown1 hsz2;obtain⟨c0,c1,c2,c3⟩:=(hlz.later HT2.out).cells hlt;obtain⟨p0,p1,p2,p3⟩:=Fz.later HT2.out;have lc:=zh c0;have lx:=zh p0;go_wp2_with fail;refine zj (by first|exact HB|exact zd HB|exact Below.refl _ _) (by kernel_rfl) (by kernel_rfl) ?_
      repeat(go_big_quiet_step (first|exact rfl|fail))
      refine wpQuiet_nil ?_;intro _ hw';obtain⟨p,hw''⟩:=hw';subst hw'';(try clear hc hf hz);(try clear HB);have HB:=p.below;obtain⟨hc,hf,hz⟩:=zu HB;clear hc hf hz;generalize p.v=wq2 at HB ⊢;have HT3:=zk (zb HT2.out HB);have hown3:=zm hown2 HB;clear HB c0 c1 c2 c3 p0 p1 p2 p3 lc lx HT2 hown2;obtain⟨c0,c1,c2,c3⟩:=(hlz.later HT3.out).cells hlt;obtain⟨p0,p1,p2,p3⟩:=Fz.later HT3.out;have lc:=zh c0;have lx:=zh p0;have HOF:=zk hown3;clear hown3;go_wp2;go_roundw
      case rel=>exact⟨k+1,O++[x],true,by omega,by go_num,rfl,by have h:=HN0.out;rw[HRL.out,HD.out] at h;exact h,by have h:=HOF.out;(try simp only[List.length_append,List.length_singleton,zO]);exact h,HT3.out⟩
      case measure=>simp[intOf];omega
     ·by_cases hkg:(k:Int)=g
      ·have HN0:=zk (zaz G.out hlt HR.out);have HRL:Hid (zS l x g k hlt O false=O++[x]):=(by show zS l x g k hlt O false=O++[x];unfold zS;rw[if_pos ⟨rfl,hxk⟩,if_neg (fun h=>h.2 hkg)];simp)
       have hd:decide (x.pl≤l[k].pl)=true:=decide_eq_true hxk;have hq1:(l[k].pl==x.pl)=false:=(by rw[beq_eq_false_iff_ne];exact hpl)
       have hq1b:(l[k].pl != x.pl)=true:=(by simp[bne,hq1])
       have hq1c:(!(l[k].pl==x.pl))=true:=(by simp[hq1])
       have hq1d:decide (l[k].pl=x.pl)=false:=(by simpa using hq1)
       have hq2:((k:Int)==g)=true:=(by rw[hkg];simp)
       have hq2b:((k:Int) != g)=false:=(by simp[bne,hq2])
       have hq2c:(!((k:Int)==g))=false:=(by simp[hq2])
       have hq2d:decide ((k:Int)=g)=true:=(by simpa using hq2)
       have HD:=zk hd;clear hpl hkg HR hxk;go_wp2_with fail;refine zj (by first|exact HB|exact zd HB|exact Below.refl _ _) (by kernel_rfl) (by kernel_rfl) ?_
       repeat(go_big_quiet_step (first|exact rfl|fail))
       refine wpQuiet_nil ?_;intro _ hw';obtain⟨p,hw''⟩:=hw';subst hw'';(try clear hc hf hz);(try clear HB);have HB:=p.below;obtain⟨hc,hf,hz⟩:=zu HB;clear hc hf hz;generalize p.v=wq1 at HB ⊢;have HT1:=zk (zb HT0.out HB);have hown1:=zm hown0 HB;clear HB c0 c1 c2 c3 p0 p1 p2 p3 lc lx HT0 hown0;obtain⟨c0,c1,c2,c3⟩:=(hlz.later HT1.out).cells hlt;obtain⟨p0,p1,p2,p3⟩:=Fz.later HT1.out;have lc:=zh c0;have lx:=zh p0;have HO2:=zk hown1;have hsz2:=HT1.out.size;go_wp2_with(at_builtin;refine zq rfl _ _ 56 rfl wz.heap.size 97 ib _ 4 40 Tryz.underlying56 hib hz0 hz1 hz2 rfl (by decide) _ O.length (zr O) rfl (zm HO2.out (zn _ _)) (some ⟨wq1.heap.size,0,none⟩) 1 1 (zr [x]) rfl (zbc x wq1) (by unfold maxLen;have:=HLN.out;omega) (by have:=HLN.out;omega) (by simp only[World.size_alloc];omega) ?_;intro v2 wq1b hown2 hbx);have HT2:=zk (HT1.out.trans (((zn wq1 _).mono (by omega)).trans hbx));clear hbx c0 c1 c2 c3 p0 p1 p2 p3 lc lx HO2 HT1 hown1 hsz2;obtain⟨c0,c1,c2,c3⟩:=(hlz.later HT2.out).cells hlt;obtain⟨p0,p1,p2,p3⟩:=Fz.later HT2.out;have lc:=zh c0;have lx:=zh p0;go_wp2_with fail;refine zj (by first|exact HB|exact zd HB|exact Below.refl _ _) (by kernel_rfl) (by kernel_rfl) ?_
       repeat(go_big_quiet_step (first|exact rfl|fail))
       refine wpQuiet_nil ?_;intro _ hw';obtain⟨p,hw''⟩:=hw';subst hw'';(try clear hc hf hz);(try clear HB);have HB:=p.below;obtain⟨hc,hf,hz⟩:=zu HB;clear hc hf hz;generalize p.v=wq2 at HB ⊢;have HT3:=zk (zb HT2.out HB);have hown3:=zm hown2 HB;clear HB c0 c1 c2 c3 p0 p1 p2 p3 lc lx HT2 hown2;obtain⟨c0,c1,c2,c3⟩:=(hlz.later HT3.out).cells hlt;obtain⟨p0,p1,p2,p3⟩:=Fz.later HT3.out;have lc:=zh c0;have lx:=zh p0;have HOF:=zk hown3;clear hown3;go_wp2;go_roundw
       case rel=>exact⟨k+1,O++[x],true,by omega,by go_num,rfl,by have h:=HN0.out;rw[HRL.out,HD.out] at h;exact h,by have h:=HOF.out;(try simp only[List.length_append,List.length_singleton,zO]);exact h,HT3.out⟩
       case measure=>simp[intOf];omega
      ·have HN0:=zk (zaz G.out hlt HR.out);have HRL:Hid (zS l x g k hlt O false=O++[x]++[l[k]]):=(by show zS l x g k hlt O false=O++[x]++[l[k]];unfold zS;rw[if_pos ⟨rfl,hxk⟩,if_pos ⟨hpl,hkg⟩])
       have hd:decide (x.pl≤l[k].pl)=true:=decide_eq_true hxk;have hq1:(l[k].pl==x.pl)=false:=(by rw[beq_eq_false_iff_ne];exact hpl)
       have hq1b:(l[k].pl != x.pl)=true:=(by simp[bne,hq1])
       have hq1c:(!(l[k].pl==x.pl))=true:=(by simp[hq1])
       have hq1d:decide (l[k].pl=x.pl)=false:=(by simpa using hq1)
       have hq2:((k:Int)==g)=false:=(by rw[beq_eq_false_iff_ne];exact hkg)
       have hq2b:((k:Int) != g)=true:=(by simp[bne,hq2])
       have hq2c:(!((k:Int)==g))=true:=(by simp[hq2])
       have hq2d:decide ((k:Int)=g)=false:=(by simpa using hq2)
       have HD:=zk hd;clear hpl hkg HR hxk;go_wp2_with fail;refine zj (by first|exact HB|exact zd HB|exact Below.refl _ _) (by kernel_rfl) (by kernel_rfl) ?_
       repeat(go_big_quiet_step (first|exact rfl|fail))
       refine wpQuiet_nil ?_;intro _ hw';obtain⟨p,hw''⟩:=hw';subst hw'';(try clear hc hf hz);(try clear HB);have HB:=p.below;obtain⟨hc,hf,hz⟩:=zu HB;clear hc hf hz;generalize p.v=wq1 at HB ⊢;have HT1:=zk (zb HT0.out HB);have hown1:=zm hown0 HB;clear HB c0 c1 c2 c3 p0 p1 p2 p3 lc lx HT0 hown0;obtain⟨c0,c1,c2,c3⟩:=(hlz.later HT1.out).cells hlt;obtain⟨p0,p1,p2,p3⟩:=Fz.later HT1.out;have lc:=zh c0;have lx:=zh p0;have HO2:=zk hown1;have hsz2:=HT1.out.size;go_wp2_with(at_builtin;refine zq rfl _ _ 56 rfl wz.heap.size 97 ib _ 4 40 Tryz.underlying56 hib hz0 hz1 hz2 rfl (by decide) _ O.length (zr O) rfl (zm HO2.out (zn _ _)) (some ⟨wq1.heap.size,0,none⟩) 1 1 (zr [x]) rfl (zbc x wq1) (by unfold maxLen;have:=HLN.out;omega) (by have:=HLN.out;omega) (by simp only[World.size_alloc];omega) ?_;intro v2 wq1b hown2 hbx);have HT2:=zk (HT1.out.trans (((zn wq1 _).mono (by omega)).trans hbx));clear hbx c0 c1 c2 c3 p0 p1 p2 p3 lc lx HO2 HT1 hown1 hsz2;obtain⟨c0,c1,c2,c3⟩:=(hlz.later HT2.out).cells hlt;obtain⟨p0,p1,p2,p3⟩:=Fz.later HT2.out;have lc:=zh c0;have lx:=zh p0;go_wp2_with fail;refine zj (by first|exact HB|exact zd HB|exact Below.refl _ _) (by kernel_rfl) (by kernel_rfl) ?_
       repeat(go_big_quiet_step (first|exact rfl|fail))
       refine wpQuiet_nil ?_;intro _ hw';obtain⟨p,hw''⟩:=hw';subst hw'';(try clear hc hf hz);(try clear HB);have HB:=p.below;obtain⟨hc,hf,hz⟩:=zu HB;clear hc hf hz;generalize p.v=wq2 at HB ⊢;have HT3:=zk (zb HT2.out HB);have hown3:=zm hown2 HB;clear HB c0 c1 c2 c3 p0 p1 p2 p3 lc lx HT2 hown2;obtain⟨c0,c1,c2,c3⟩:=(hlz.later HT3.out).cells hlt;obtain⟨p0,p1,p2,p3⟩:=Fz.later HT3.out;have lc:=zh c0;have lx:=zh p0;have HO4:=zk hown3;have hsz4:=HT3.out.size;go_wp2_with(at_builtin;refine zq rfl _ _ 56 rfl wz.heap.size 97 ib _ 4 40 Tryz.underlying56 hib hz0 hz1 hz2 rfl (by decide) _ (O.length+1) (zr O++zr [x]) rfl (zm HO4.out (zn _ _)) (some ⟨wq2.heap.size,0,none⟩) 1 1 (zr [l[k]]) rfl (zbc l[k] wq2) (by unfold maxLen;have:=HLN.out;omega) (by have:=HLN.out;omega) (by simp only[World.size_alloc];omega) ?_;intro v4 wq2b hown4 hbx);have HT4:=zk (HT3.out.trans (((zn wq2 _).mono (by omega)).trans hbx));clear hbx c0 c1 c2 c3 p0 p1 p2 p3 lc lx HO4 HT3 hown3 hsz4;obtain⟨c0,c1,c2,c3⟩:=(hlz.later HT4.out).cells hlt;obtain⟨p0,p1,p2,p3⟩:=Fz.later HT4.out;have lc:=zh c0;have lx:=zh p0;have HOF:=zk hown4;clear hown4;go_wp2;go_roundw
       case rel=>exact⟨k+1,O++[x]++[l[k]],true,by omega,by go_num,rfl,by have h:=HN0.out;rw[HRL.out,HD.out] at h;exact h,by have h:=HOF.out;(try simp only[List.length_append,List.length_singleton,zO]);exact h,HT4.out⟩
       case measure=>simp[intOf];omega
    ·have hpl:¬l[k].pl=x.pl:=(by omega)
     by_cases hkg:(k:Int)=g
     ·have HN0:=zk (zaz G.out hlt HR.out);have HRL:Hid (zS l x g k hlt O false=O):=(by show zS l x g k hlt O false=O;unfold zS;rw[if_neg (fun h=>hxk h.2),if_neg (fun h=>h.2 hkg)];simp)
      have hd:decide (x.pl≤l[k].pl)=false:=decide_eq_false hxk;have hq1:(l[k].pl==x.pl)=false:=(by rw[beq_eq_false_iff_ne];exact hpl)
      have hq1b:(l[k].pl != x.pl)=true:=(by simp[bne,hq1])
      have hq1c:(!(l[k].pl==x.pl))=true:=(by simp[hq1])
      have hq1d:decide (l[k].pl=x.pl)=false:=(by simpa using hq1)
      have hq2:((k:Int)==g)=true:=(by rw[hkg];simp)
      have hq2b:((k:Int) != g)=false:=(by simp[bne,hq2])
      have hq2c:(!((k:Int)==g))=false:=(by simp[hq2])
      have hq2d:decide ((k:Int)=g)=true:=(by simpa using hq2)
      have HD:=zk hd;clear hpl hkg HR hxk;go_wp2_with fail;refine zj (by first|exact HB|exact zd HB|exact Below.refl _ _) (by kernel_rfl) (by kernel_rfl) ?_
      repeat(go_big_quiet_step (first|exact rfl|fail))
      refine wpQuiet_nil ?_;intro _ hw';obtain⟨p,hw''⟩:=hw';subst hw'';(try clear hc hf hz);(try clear HB);have HB:=p.below;obtain⟨hc,hf,hz⟩:=zu HB;clear hc hf hz;generalize p.v=wq1 at HB ⊢;have HT1:=zk (zb HT0.out HB);have hown1:=zm hown0 HB;clear HB c0 c1 c2 c3 p0 p1 p2 p3 lc lx HT0 hown0;obtain⟨c0,c1,c2,c3⟩:=(hlz.later HT1.out).cells hlt;obtain⟨p0,p1,p2,p3⟩:=Fz.later HT1.out;have lc:=zh c0;have lx:=zh p0;go_wp2_with fail;refine zj (by first|exact HB|exact zd HB|exact Below.refl _ _) (by kernel_rfl) (by kernel_rfl) ?_
      repeat(go_big_quiet_step (first|exact rfl|fail))
      refine wpQuiet_nil ?_;intro _ hw';obtain⟨p,hw''⟩:=hw';subst hw'';(try clear hc hf hz);(try clear HB);have HB:=p.below;obtain⟨hc,hf,hz⟩:=zu HB;clear hc hf hz;generalize p.v=wq2 at HB ⊢;have HT2:=zk (zb HT1.out HB);have hown2:=zm hown1 HB;clear HB c0 c1 c2 c3 p0 p1 p2 p3 lc lx HT1 hown1;obtain⟨c0,c1,c2,c3⟩:=(hlz.later HT2.out).cells hlt;obtain⟨p0,p1,p2,p3⟩:=Fz.later HT2.out;have lc:=zh c0;have lx:=zh p0;have HOF:=zk hown2;clear hown2;go_wp2;go_roundw
      case rel=>exact⟨k+1,O,false,by omega,by go_num,rfl,by have h:=HN0.out;rw[HRL.out,HD.out] at h;exact h,by have h:=HOF.out;(try simp only[List.length_append,List.length_singleton,zO]);exact h,HT2.out⟩
      case measure=>simp[intOf];omega
     ·have HN0:=zk (zaz G.out hlt HR.out);have HRL:Hid (zS l x g k hlt O false=O++[l[k]]):=(by show zS l x g k hlt O false=O++[l[k]];unfold zS;rw[if_neg (fun h=>hxk h.2),if_pos ⟨hpl,hkg⟩];simp)
      have hd:decide (x.pl≤l[k].pl)=false:=decide_eq_false hxk;have hq1:(l[k].pl==x.pl)=false:=(by rw[beq_eq_false_iff_ne];exact hpl)
      have hq1b:(l[k].pl != x.pl)=true:=(by simp[bne,hq1])
      have hq1c:(!(l[k].pl==x.pl))=true:=(by simp[hq1])
      have hq1d:decide (l[k].pl=x.pl)=false:=(by simpa using hq1)
      have hq2:((k:Int)==g)=false:=(by rw[beq_eq_false_iff_ne];exact hkg)
      have hq2b:((k:Int) != g)=true:=(by simp[bne,hq2])
      have hq2c:(!((k:Int)==g))=true:=(by simp[hq2])
      have hq2d:decide ((k:Int)=g)=false:=(by simpa using hq2)
      have HD:=zk hd;clear hpl hkg HR hxk;go_wp2_with fail;refine zj (by first|exact HB|exact zd HB|exact Below.refl _ _) (by kernel_rfl) (by kernel_rfl) ?_
      repeat(go_big_quiet_step (first|exact rfl|fail))
      refine wpQuiet_nil ?_;intro _ hw';obtain⟨p,hw''⟩:=hw';subst hw'';(try clear hc hf hz);(try clear HB);have HB:=p.below;obtain⟨hc,hf,hz⟩:=zu HB;clear hc hf hz;generalize p.v=wq1 at HB ⊢;have HT1:=zk (zb HT0.out HB);have hown1:=zm hown0 HB;clear HB c0 c1 c2 c3 p0 p1 p2 p3 lc lx HT0 hown0;obtain⟨c0,c1,c2,c3⟩:=(hlz.later HT1.out).cells hlt;obtain⟨p0,p1,p2,p3⟩:=Fz.later HT1.out;have lc:=zh c0;have lx:=zh p0;go_wp2_with fail;refine zj (by first|exact HB|exact zd HB|exact Below.refl _ _) (by kernel_rfl) (by kernel_rfl) ?_
      repeat(go_big_quiet_step (first|exact rfl|fail))
      refine wpQuiet_nil ?_;intro _ hw';obtain⟨p,hw''⟩:=hw';subst hw'';(try clear hc hf hz);(try clear HB);have HB:=p.below;obtain⟨hc,hf,hz⟩:=zu HB;clear hc hf hz;generalize p.v=wq2 at HB ⊢;have HT2:=zk (zb HT1.out HB);have hown2:=zm hown1 HB;clear HB c0 c1 c2 c3 p0 p1 p2 p3 lc lx HT1 hown1;obtain⟨c0,c1,c2,c3⟩:=(hlz.later HT2.out).cells hlt;obtain⟨p0,p1,p2,p3⟩:=Fz.later HT2.out;have lc:=zh c0;have lx:=zh p0;have HO3:=zk hown2;have hsz3:=HT2.out.size;go_wp2_with(at_builtin;refine zq rfl _ _ 56 rfl wz.heap.size 97 ib _ 4 40 Tryz.underlying56 hib hz0 hz1 hz2 rfl (by decide) _ O.length (zr O) rfl (zm HO3.out (zn _ _)) (some ⟨wq2.heap.size,0,none⟩) 1 1 (zr [l[k]]) rfl (zbc l[k] wq2) (by unfold maxLen;have:=HLN.out;omega) (by have:=HLN.out;omega) (by simp only[World.size_alloc];omega) ?_;intro v3 wq2b hown3 hbx);have HT3:=zk (HT2.out.trans (((zn wq2 _).mono (by omega)).trans hbx));clear hbx c0 c1 c2 c3 p0 p1 p2 p3 lc lx HO3 HT2 hown2 hsz3;obtain⟨c0,c1,c2,c3⟩:=(hlz.later HT3.out).cells hlt;obtain⟨p0,p1,p2,p3⟩:=Fz.later HT3.out;have lc:=zh c0;have lx:=zh p0;have HOF:=zk hown3;clear hown3;go_wp2;go_roundw
      case rel=>exact⟨k+1,O++[l[k]],false,by omega,by go_num,rfl,by have h:=HN0.out;rw[HRL.out,HD.out] at h;exact h,by have h:=HOF.out;(try simp only[List.length_append,List.length_singleton,zO]);exact h,HT3.out⟩
      case measure=>simp[intOf];omega
   ·have hpl:¬l[k].pl=x.pl:=(by have:=HR.out.yes rfl k hlt (Nat.le_refl _);omega)
    by_cases hkg:(k:Int)=g
    ·have HN0:=zk (zaz G.out hlt HR.out);have HRL:Hid (zS l x g k hlt O true=O):=(by show zS l x g k hlt O true=O;unfold zS;rw[if_neg (by simp),if_neg (fun h=>h.2 hkg)];simp)
     have hd:decide (x.pl≤l[k].pl)=true:=decide_eq_true (Int.le_of_lt (HR.out.yes rfl k hlt (Nat.le_refl _)));have hq1:(l[k].pl==x.pl)=false:=(by rw[beq_eq_false_iff_ne];exact hpl)
     have hq1b:(l[k].pl != x.pl)=true:=(by simp[bne,hq1])
     have hq1c:(!(l[k].pl==x.pl))=true:=(by simp[hq1])
     have hq1d:decide (l[k].pl=x.pl)=false:=(by simpa using hq1)
     have hq2:((k:Int)==g)=true:=(by rw[hkg];simp)
     have hq2b:((k:Int) != g)=false:=(by simp[bne,hq2])
     have hq2c:(!((k:Int)==g))=false:=(by simp[hq2])
     have hq2d:decide ((k:Int)=g)=true:=(by simpa using hq2)
     have HD:=zk hd;clear hpl hkg HR hd;go_wp2_with fail;refine zj (by first|exact HB|exact zd HB|exact Below.refl _ _) (by kernel_rfl) (by kernel_rfl) ?_
     repeat(go_big_quiet_step (first|exact rfl|fail))
     refine wpQuiet_nil ?_;intro _ hw';obtain⟨p,hw''⟩:=hw';subst hw'';(try clear hc hf hz);(try clear HB);have HB:=p.below;obtain⟨hc,hf,hz⟩:=zu HB;clear hc hf hz;generalize p.v=wq1 at HB ⊢;have HT1:=zk (zb HT0.out HB);have hown1:=zm hown0 HB;clear HB c0 c1 c2 c3 p0 p1 p2 p3 lc lx HT0 hown0;obtain⟨c0,c1,c2,c3⟩:=(hlz.later HT1.out).cells hlt;obtain⟨p0,p1,p2,p3⟩:=Fz.later HT1.out;have lc:=zh c0;have lx:=zh p0;go_wp2_with fail;refine zj (by first|exact HB|exact zd HB|exact Below.refl _ _) (by kernel_rfl) (by kernel_rfl) ?_
     repeat(go_big_quiet_step (first|exact rfl|fail))
     refine wpQuiet_nil ?_;intro _ hw';obtain⟨p,hw''⟩:=hw';subst hw'';(try clear hc hf hz);(try clear HB);have HB:=p.below;obtain⟨hc,hf,hz⟩:=zu HB;clear hc hf hz;generalize p.v=wq2 at HB ⊢;have HT2:=zk (zb HT1.out HB);have hown2:=zm hown1 HB;clear HB c0 c1 c2 c3 p0 p1 p2 p3 lc lx HT1 hown1;obtain⟨c0,c1,c2,c3⟩:=(hlz.later HT2.out).cells hlt;obtain⟨p0,p1,p2,p3⟩:=Fz.later HT2.out;have lc:=zh c0;have lx:=zh p0;have HOF:=zk hown2;clear hown2;go_wp2;go_roundw
     case rel=>exact⟨k+1,O,true,by omega,by go_num,rfl,by have h:=HN0.out;rw[HRL.out,HD.out] at h;exact h,by have h:=HOF.out;(try simp only[List.length_append,List.length_singleton,zO]);exact h,HT2.out⟩
     case measure=>simp[intOf];omega
    ·have HN0:=zk (zaz G.out hlt HR.out);have HRL:Hid (zS l x g k hlt O true=O++[l[k]]):=(by show zS l x g k hlt O true=O++[l[k]];unfold zS;rw[if_neg (by simp),if_pos ⟨hpl,hkg⟩];simp)
     have hd:decide (x.pl≤l[k].pl)=true:=decide_eq_true (Int.le_of_lt (HR.out.yes rfl k hlt (Nat.le_refl _)));have hq1:(l[k].pl==x.pl)=false:=(by rw[beq_eq_false_iff_ne];exact hpl)
     have hq1b:(l[k].pl != x.pl)=true:=(by simp[bne,hq1])
     have hq1c:(!(l[k].pl==x.pl))=true:=(by simp[hq1])
     have hq1d:decide (l[k].pl=x.pl)=false:=(by simpa using hq1)
     have hq2:((k:Int)==g)=false:=(by rw[beq_eq_false_iff_ne];exact hkg)
     have hq2b:((k:Int) != g)=true:=(by simp[bne,hq2])
     have hq2c:(!((k:Int)==g))=true:=(by simp[hq2])
     have hq2d:decide ((k:Int)=g)=false:=(by simpa using hq2)
     have HD:=zk hd;clear hpl hkg HR hd;go_wp2_with fail;refine zj (by first|exact HB|exact zd HB|exact Below.refl _ _) (by kernel_rfl) (by kernel_rfl) ?_
     repeat(go_big_quiet_step (first|exact rfl|fail))
     refine wpQuiet_nil ?_;intro _ hw';obtain⟨p,hw''⟩:=hw';subst hw'';(try clear hc hf hz);(try clear HB);have HB:=p.below;obtain⟨hc,hf,hz⟩:=zu HB;clear hc hf hz;generalize p.v=wq1 at HB ⊢;have HT1:=zk (zb HT0.out HB);have hown1:=zm hown0 HB;clear HB c0 c1 c2 c3 p0 p1 p2 p3 lc lx HT0 hown0;obtain⟨c0,c1,c2,c3⟩:=(hlz.later HT1.out).cells hlt;obtain⟨p0,p1,p2,p3⟩:=Fz.later HT1.out;have lc:=zh c0;have lx:=zh p0;go_wp2_with fail;refine zj (by first|exact HB|exact zd HB|exact Below.refl _ _) (by kernel_rfl) (by kernel_rfl) ?_
     repeat(go_big_quiet_step (first|exact rfl|fail))
     refine wpQuiet_nil ?_;intro _ hw';obtain⟨p,hw''⟩:=hw';subst hw'';(try clear hc hf hz);(try clear HB);have HB:=p.below;obtain⟨hc,hf,hz⟩:=zu HB;clear hc hf hz;generalize p.v=wq2 at HB ⊢;have HT2:=zk (zb HT1.out HB);have hown2:=zm hown1 HB;clear HB c0 c1 c2 c3 p0 p1 p2 p3 lc lx HT1 hown1;obtain⟨c0,c1,c2,c3⟩:=(hlz.later HT2.out).cells hlt;obtain⟨p0,p1,p2,p3⟩:=Fz.later HT2.out;have lc:=zh c0;have lx:=zh p0;have HO3:=zk hown2;have hsz3:=HT2.out.size;go_wp2_with(at_builtin;refine zq rfl _ _ 56 rfl wz.heap.size 97 ib _ 4 40 Tryz.underlying56 hib hz0 hz1 hz2 rfl (by decide) _ O.length (zr O) rfl (zm HO3.out (zn _ _)) (some ⟨wq2.heap.size,0,none⟩) 1 1 (zr [l[k]]) rfl (zbc l[k] wq2) (by unfold maxLen;have:=HLN.out;omega) (by have:=HLN.out;omega) (by simp only[World.size_alloc];omega) ?_;intro v3 wq2b hown3 hbx);have HT3:=zk (HT2.out.trans (((zn wq2 _).mono (by omega)).trans hbx));clear hbx c0 c1 c2 c3 p0 p1 p2 p3 lc lx HO3 HT2 hown2 hsz3;obtain⟨c0,c1,c2,c3⟩:=(hlz.later HT3.out).cells hlt;obtain⟨p0,p1,p2,p3⟩:=Fz.later HT3.out;have lc:=zh c0;have lx:=zh p0;have HOF:=zk hown3;clear hown3;go_wp2;go_roundw
     case rel=>exact⟨k+1,O++[l[k]],true,by omega,by go_num,rfl,by have h:=HN0.out;rw[HRL.out,HD.out] at h;exact h,by have h:=HOF.out;(try simp only[List.length_append,List.length_singleton,zO]);exact h,HT3.out⟩
     case measure=>simp[intOf];omega
  ·obtain rfl:k=l.length:=by omega
   obtain⟨p0,p1,p2,p3⟩:=Fz.later HT0.out;have lx:=zh p0
   cases b
   ·have HF:=zk (zhO HR.out);have HO0:=zk hown0;have hsz0:=HT0.out.size;have hbz:=HBz.size;clear HR hown0;go_wp2_with(at_builtin;refine zq rfl _ _ 56 rfl wz.heap.size 97 ib _ 4 40 Tryz.underlying56 hib hz0 hz1 hz2 rfl (by decide) _ O.length (zr O) rfl (zm HO0.out (zn _ _)) (some ⟨wr.heap.size,0,none⟩) 1 1 (zr [x]) rfl (zbc x wr) (by unfold maxLen;have:=HLN.out;omega) (by have:=HLN.out;omega) (by simp only[World.size_alloc];omega) ?_;intro v1 w9 hown9 hbx);have HT9:Below wz.heap.size wz w9:=HT0.out.trans (((zn wr _).mono (by omega)).trans hbx);rw[←zO] at hown9;obtain⟨a9,c9,rfl,hN9⟩:=zaP (l:=O++[x]) hown9 (by simp) (by have:=HLN.out;simp;omega);have R9:=zk hN9.here;have N9:=zk (hN9.newAt.mono hbz);have HT9h:=zk (HBz.trans (HT9.mono hbz));clear hown9 hbx HT9 hN9 p0 p1 p2 p3;go_wp2
    go_ret2
    exact⟨O++[x],a9,c9,rfl,R9.out,by rw[HGG.out];exact HF.out,HT9h.out,N9.out⟩
   ·have HF:=zk (zgM HR.out);have hbz:=HBz.size;obtain⟨a9,c9,rfl,hN9⟩:=zaP (l:=O) hown0 rfl (by have:=HLN.out;omega);have R9:=zk hN9.here;have N9:=zk (hN9.newAt.mono hbz);have HT9h:=zk (HBz.trans (HT0.out.mono hbz));clear HR hown0 hN9 p0 p1 p2 p3;go_wp2
    go_ret2
    exact⟨O,a9,c9,rfl,R9.out,by rw[HGG.out];exact HF.out,HT9h.out,N9.out⟩
end Go.Proofs.YtlhgjplipgandaaGreat
