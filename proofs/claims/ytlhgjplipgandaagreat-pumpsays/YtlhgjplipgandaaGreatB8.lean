/- Joined texts: Dev10, Acts, Check. -/
import Derived.Test.YtlhgjplipgandaaGreatB7
set_option maxRecDepth 100000
set_option maxHeartbeats 8000000
set_option linter.unusedSimpArgs false
namespace Go.Proofs.YtlhgjplipgandaaGreat
open Go.RowKit Go.BigFrame
attribute [local go_sem] ze.cell ze.frozen
theorem zfh{P:Program}{ops:Array Oper}{o:Oper}{a:Act}{w:World}{K:Act→World→Prop}{Q:Exit→Act→World→Prop}{E:Prop}
  (hg:o.guard=none) (f:FuncId) (x1 x2:Nat) (t1 t2:TypeId) (hop:o.op=Op.call { callee:=Callee.value (.func f),args:=#[.tmp x1,.tmp x2],argTypes:=#[t1,t2] }) (eg:∀args w,(callFunc f args).run P w=.ok (.enter f args) w)
  (v1 v2:Value) (e1:a.tmps[x1]?.getD undef=v1) (e2:a.tmps[x2]?.getD undef=v2) (R:Value→World→Prop) (hc:Calls P f #[v1,v2] w fun e w'=>∃r,e=.returned r∧R r w') (h:∀r w',R r w'→K (a.put o.dst r) w') :
  if Region.wanted o (yielded ops a.tmps)=true then Oper.wp P o a w K Q else E:=by
 have hw:Region.wanted o (yielded ops a.tmps)=true:=by simp[Region.wanted,hg]
 rw[if_pos hw];unfold Oper.wp
 simp[execOp,hop,resolve,invoke,e1,e2,eg,go_sem]
 refine hc.mono ?_;rintro _ w' ⟨r,rfl,hs⟩;exact h r w' hs
theorem zee{w:World}{q q' o:Nat}{r:Rq}{v:Value}(h:za3 w q r)(hn:q ≠ q'):za3 (w.setCell ⟨q',o,none⟩ v) q r:=h.only (zo.of_set v) hn
theorem box8{w:World}{q:Nat}{r:Rq}{v0 v1 v2 v3 v4 v5 v6 v7:Value}(h:za3 w (q+1) r):za3 ((((((((w.setCell ⟨q,0,none⟩ v0).setCell ⟨q,1,none⟩ v1).setCell ⟨q,2,none⟩ v2).setCell ⟨q,3,none⟩ v3).setCell ⟨q,4,none⟩ v4).setCell ⟨q,5,none⟩ v5).setCell ⟨q,6,none⟩ v6).setCell ⟨q,7,none⟩ v7) (q+1) r :=
 zee (zee (zee (zee (zee (zee (zee (zee h (by omega)) (by omega)) (by omega)) (by omega)) (by omega)) (by omega)) (by omega)) (by omega)
theorem Dl.writesTo_busy(d:Dl)(r:Rq)(n:Nat):(d.writesTo r n).busy=d.busy:=by
 induction n with
 |zero=>rfl
 |succ n ih=>rw[Dl.writesTo_succ];exact ih
theorem zpY(b:Nat)(d:Dl)(a:An)(k:Nat)(hk:k<d.busy.length)(w:World)(h:zM b d a w)(gr:zA d.busy[k])(hw:d.busy[k].wr=true) :
  Calls Tryz.prog 96 #[.pointer (some ⟨b,0,none⟩),.int .i64 k,.bool false] w fun e w'=>∃a',e=.returned (.tuple #[zaI d.busy[k] none 0 0 0,.nilIface])∧zY b d a (({ d with busy:=d.busy.eraseIdx k }:Dl).writesTo d.busy[k] d.busy[k].m.toNat) a' w w':=by
 have HRA:=za (h.reqs _ (List.getElem_mem hk));have GR:=za gr;have HW:=za hw;clear gr hw;have hl:=h.lt;have HD:=za h;have h0:¬(k:Int)<0:=(by omega);have h1:¬(d.busy.length:Int)≤(k:Int):=(by omega);have h2:(k:Int)<(d.busy.length:Int):=(by omega);have hk2:(k:Int)≤1:=(by have:=h.blen;omega);have hR:=h.reqsAt;have c:=h.c66;obtain⟨g,hg0,lg⟩:=h.place hk;rw[hg0] at hR c;obtain⟨r0,r1,r2,r3,r4,r5⟩:=hR.cells hk;simp only[Nat.zero_add] at r0 r1 r2 r3 r4 r5;have HG0:=za hg0;clear h hR hg0;generalize hr:d.busy[k]=r at *;have HRR:=za hr;clear hr;go_enter Tryz.func96,Tryz.ntmps96;go_wp2_with fail;have hbr:=(HD.out.later (zbm w (.cells #[.bool false,.int .i64 0,.int .i64 0,.slice none 0 0,.slice none 0 0,.int .i64 0,.slice none 0 0,.int .i64 0] 120) (.cells #[.bool r.wr,.int .i64 r.f,.int .i64 r.m,.slice r.da r.data.length r.dc,.slice r.ta r.tags.length r.tc,.int .i64 r.born] 111))).brow;rw[HG0.out] at hbr;refine(delR d.busy g a.bc k _ hk hbr).mono ?_;rintro e w3 ⟨rfl,hown3,hg3⟩;have hz2:=(zaE w 120).only (F:=fun _=>False) ((zo.refl _ _).alloc (.cells #[.bool r.wr,.int .i64 r.f,.int .i64 r.m,.slice r.da r.data.length r.dc,.slice r.ta r.tags.length r.tc,.int .i64 r.born] 111)) (fun e=>e);have hx2:=zb5 (w.alloc (.cells #[.bool false,.int .i64 0,.int .i64 0,.slice none 0 0,.slice none 0 0,.int .i64 0,.slice none 0 0,.int .i64 0] 120)) 111 r;rw[World.size_alloc] at hx2;obtain⟨⟨c3,f3,l3⟩,a',hst,hz4,hx4,nf6,nf8⟩:=zkr HD.out hk HG0.out (zbm w _ _) hz2 hx2 hown3 hg3;clear hz2 hx2 hbr hown3 hg3 r0 r1 r2 r3 r4 r5 c;have HST:=za hst;generalize hW:w3.setCell ⟨b,66,none⟩ (.slice (some ⟨g,0,none⟩) (d.busy.eraseIdx k).length a.bc)=w4 at *;clear hst;have HS:Hid (za3 w4.drew (w.heap.size+1) r):=hx4;have egd:∀args w,Sem.run Tryz.prog (callFunc 130 args) w=.ok (.enter 130 args) w:=(by intro args w;go_simp);go_wp2_with fail;refine zaJ (S:=fun wz=>za3 wz (w.heap.size+1) r) (d:=5) (by kernel_rfl) ?_;refine tk 0 ?_ rfl (Or.inl ⟨by rfl,?_⟩) HS.out ?_;rotate_left;(focus(intro w0 hSw;obtain⟨s0,s1,s2,s3,s4,s5⟩:=hSw;go_simp;(try with_reducible rfl)));(try simp only[Act.put,dP]);refine tk 1 ?_ rfl (Or.inl ⟨by rfl,?_⟩) HS.out ?_;rotate_left;(focus(intro w0 hSw;obtain⟨s0,s1,s2,s3,s4,s5⟩:=hSw;go_simp;(try with_reducible rfl)));(try simp only[Act.put,dP]);refine tk 2 ?_ rfl (Or.inl ⟨by rfl,?_⟩) HS.out ?_;rotate_left;(focus(intro w0 hSw;obtain⟨s0,s1,s2,s3,s4,s5⟩:=hSw;go_simp;(try with_reducible rfl)));(try simp only[Act.put,dP]);refine zw (i:=3) rfl (by kernel_rfl) ?_;intro K hK
 refine zfh rfl 130 44 45 27 111 rfl egd (.pointer (some ⟨b,0,none⟩)) r.val rfl rfl (fun v w5=>v=.slice none 0 0∧∃a5,zY b { d with busy:=d.busy.eraseIdx k } a' (({ d with busy:=d.busy.eraseIdx k }:Dl).writesTo r r.m.toNat) a5 w4.drew w5) ((zqz b _ a' r _ (HST.out.dev.later (Below.refl _ _).drew) GR.out HW.out ((HRA.out.1.frame HRA.out.2 HST.out.only).later (Below.refl _ _).drew) (HRA.out.2.step HRA.out.1 HST.out.foot)).mono fun e w' ⟨a5,he,hs⟩=>⟨_,he,rfl,a5,hs⟩) ?_;rintro v w5 ⟨rfl,a5,hst5⟩;have hz5:=(hz4.only (F:=fun _=>False) (zo.refl _ w4).drew (fun e=>e)).only hst5.only nf6;have HX5:=za (HS.out.only hst5.only nf8);have HST5:=za (HST.out.drewAt.trans hst5);have nf6':¬a5.foot b w.heap.size:=fun e=>(hst5.foot _ e).elim nf6 (fun h'=>by have:=hz4.2.2;simp at h';omega)
 refine hK _ _ (fun _=>HX5.out) ?_
 (try simp only[Act.put,dP])
 clear hK hst5 hz4;obtain⟨⟨z0,z1,z2,z3,z4,z5,z6,z7⟩,zf,zl⟩:=hz5;refine zw (i:=4) rfl (by kernel_rfl) ?_;intro K hK;go_simp;refine hK _ _ (fun _=>HX5.out) ?_;(try simp only[Act.put,dP]);clear hK;refine zw (i:=5) rfl (by kernel_rfl) ?_;intro K hK;go_simp;refine hK _ _ (fun h=>absurd rfl h) ?_;(try simp only[Act.put,dP]);clear hK;refine zw (i:=6) rfl (by kernel_rfl) ?_;intro K hK;go_simp;refine hK _ _ (fun _=>box8 HX5.out) ?_;(try simp only[Act.put,dP]);clear hK;refine zaO (by kernel_rfl) ?_ _;go_wp2;refine bodyPost_ret (v:=.tuple #[zaI r none 0 0 0,.nilIface]) (by simp[results,Tryz.results96,go_sem,z0,z1,z2,z3,z4,z5,z6,z7]) rfl ⟨a5,rfl,?_⟩
 repeat(first|with_reducible exact HST5.out|with_reducible refine zY.setNew ?_ HD.out (fun q hq=>List.mem_of_mem_eraseIdx (by rw[Dl.writesTo_busy] at hq;exact hq)) (Nat.le_refl _) nf6' _ _|with_reducible refine zY.drewAt ?_)
theorem zqP{w:World}{q o:Nat}{v:Value}{xa:Option Addr}{xs:List ByteArray}(h:zU w xa xs)(hn:∀ad,xa=some ad→ad.block ≠ q):zU (w.setCell ⟨q,o,none⟩ v) xa xs:=za2 h (zo.of_set v) (fun _ ad ha=>hn ad ha)
theorem zqW(b:Nat)(d:Dl)(a:An)(k:Nat)(hk:k<d.busy.length)(w:World)(h:zM b d a w)(gr:zA d.busy[k])(hw:d.busy[k].wr=false) :
  Calls Tryz.prog 96 #[.pointer (some ⟨b,0,none⟩),.int .i64 k,.bool false] w fun e w'=>∃a' xa xc,e=.returned (.tuple #[zaI d.busy[k] xa (zbB d d.busy[k].f.toNat d.busy[k].m.toNat).length xc 0,.nilIface])∧zU w' xa (zbB d d.busy[k].f.toNat d.busy[k].m.toNat)∧(xa=none→xc=0)∧(∀ad,xa=some ad→w.heap.size≤ad.block∧¬a'.foot b ad.block)∧zY b d a { d with busy:=d.busy.eraseIdx k } a' w w':=by
 have HRA:=za (h.reqs _ (List.getElem_mem hk));have GR:=za gr;have HW:=za hw;clear gr hw;have hl:=h.lt;have HD:=za h;have h0:¬(k:Int)<0:=(by omega);have h1:¬(d.busy.length:Int)≤(k:Int):=(by omega);have h2:(k:Int)<(d.busy.length:Int):=(by omega);have hk2:(k:Int)≤1:=(by have:=h.blen;omega);have hR:=h.reqsAt;have c:=h.c66;obtain⟨g,hg0,lg⟩:=h.place hk;rw[hg0] at hR c;obtain⟨r0,r1,r2,r3,r4,r5⟩:=hR.cells hk;simp only[Nat.zero_add] at r0 r1 r2 r3 r4 r5;have HG0:=za hg0;clear h hR hg0;generalize hr:d.busy[k]=r at *;have HRR:=za hr;clear hr;go_enter Tryz.func96,Tryz.ntmps96;go_wp2_with fail;have hbr:=(HD.out.later (zbm w (.cells #[.bool false,.int .i64 0,.int .i64 0,.slice none 0 0,.slice none 0 0,.int .i64 0,.slice none 0 0,.int .i64 0] 120) (.cells #[.bool r.wr,.int .i64 r.f,.int .i64 r.m,.slice r.da r.data.length r.dc,.slice r.ta r.tags.length r.tc,.int .i64 r.born] 111))).brow;rw[HG0.out] at hbr;refine(delR d.busy g a.bc k _ hk hbr).mono ?_;rintro e w3 ⟨rfl,hown3,hg3⟩;have hz2:=(zaE w 120).only (F:=fun _=>False) ((zo.refl _ _).alloc (.cells #[.bool r.wr,.int .i64 r.f,.int .i64 r.m,.slice r.da r.data.length r.dc,.slice r.ta r.tags.length r.tc,.int .i64 r.born] 111)) (fun e=>e);have hx2:=zb5 (w.alloc (.cells #[.bool false,.int .i64 0,.int .i64 0,.slice none 0 0,.slice none 0 0,.int .i64 0,.slice none 0 0,.int .i64 0] 120)) 111 r;rw[World.size_alloc] at hx2;obtain⟨⟨c3,f3,l3⟩,a',hst,hz4,hx4,nf6,nf8⟩:=zkr HD.out hk HG0.out (zbm w _ _) hz2 hx2 hown3 hg3;clear hz2 hx2 hbr hown3 hg3 r0 r1 r2 r3 r4 r5 c;have HST:=za hst;generalize hW:w3.setCell ⟨b,66,none⟩ (.slice (some ⟨g,0,none⟩) (d.busy.eraseIdx k).length a.bc)=w4 at *;clear hst;have HS:Hid (za3 w4.drew (w.heap.size+1) r):=hx4;have egd:∀args w,Sem.run Tryz.prog (callFunc 130 args) w=.ok (.enter 130 args) w:=(by intro args w;go_simp);go_wp2_with fail;refine zaJ (S:=fun wz=>za3 wz (w.heap.size+1) r) (d:=5) (by kernel_rfl) ?_;refine tk 0 ?_ rfl (Or.inl ⟨by rfl,?_⟩) HS.out ?_;rotate_left;(focus(intro w0 hSw;obtain⟨s0,s1,s2,s3,s4,s5⟩:=hSw;go_simp;(try with_reducible rfl)));(try simp only[Act.put,dP]);refine tk 1 ?_ rfl (Or.inl ⟨by rfl,?_⟩) HS.out ?_;rotate_left;(focus(intro w0 hSw;obtain⟨s0,s1,s2,s3,s4,s5⟩:=hSw;go_simp;(try with_reducible rfl)));(try simp only[Act.put,dP]);refine tk 2 ?_ rfl (Or.inl ⟨by rfl,?_⟩) HS.out ?_;rotate_left;(focus(intro w0 hSw;obtain⟨s0,s1,s2,s3,s4,s5⟩:=hSw;go_simp;(try with_reducible rfl)));(try simp only[Act.put,dP]);refine zw (i:=3) rfl (by kernel_rfl) ?_;intro K hK
 refine zfh rfl 130 44 45 27 111 rfl egd (.pointer (some ⟨b,0,none⟩)) r.val rfl rfl (fun v w5=>∃xa xc,v=.slice xa (zbB d r.f.toNat r.m.toNat).length xc∧zU w5 xa (zbB d r.f.toNat r.m.toNat)∧(xa=none→xc=0)∧(∀ad,xa=some ad→w4.heap.size≤ad.block)∧Below w4.heap.size w4.drew w5) ((zr6 b _ a' r _ (HST.out.dev.later (Below.refl _ _).drew) GR.out HW.out).mono fun e w' ⟨xa,xc,he,h1,h2,h3,h4⟩=>⟨_,he,xa,xc,rfl,h1,h2,h3,h4⟩) ?_;rintro v w5 ⟨xa,xc,rfl,hxs,hxn,hxb,hb5⟩;have hz5:=hz4.only (F:=fun _=>False) (zo.of_below ((Below.refl w4.heap.size w4).drew.trans hb5)) (fun e=>e);have HX5:=za (HS.out.later hb5);have HST5:=za (HST.out.drewAt.later hb5);have HXB:=za (⟨hxs,hxn,hxb⟩:_∧_∧_);have zl4:=hz4.2.2;refine hK _ _ (fun _=>HX5.out) ?_
 (try simp only[Act.put,dP])
 clear hK hz4 hxs hxn hxb hb5;obtain⟨⟨z0,z1,z2,z3,z4,z5,z6,z7⟩,zf,zl⟩:=hz5;refine zw (i:=4) rfl (by kernel_rfl) ?_;intro K hK;go_simp;refine hK _ _ (fun _=>HX5.out) ?_;(try simp only[Act.put,dP]);clear hK;refine zw (i:=5) rfl (by kernel_rfl) ?_;intro K hK;go_simp;refine hK _ _ (fun h=>absurd rfl h) ?_;(try simp only[Act.put,dP]);clear hK;refine zw (i:=6) rfl (by kernel_rfl) ?_;intro K hK;go_simp;refine hK _ _ (fun _=>box8 HX5.out) ?_;(try simp only[Act.put,dP]);clear hK;refine zaO (by kernel_rfl) ?_ _;go_wp2;obtain⟨hxs,hxn,hxb⟩:=HXB.out;refine bodyPost_ret (v:=.tuple #[zaI r xa (zbB d r.f.toNat r.m.toNat).length xc 0,.nilIface]) (by simp[results,Tryz.results96,go_sem,z0,z1,z2,z3,z4,z5,z6,z7]) rfl ⟨a',xa,xc,rfl,?_,hxn,fun ad had=>⟨by have:=hxb ad had;omega,fun e=>?_⟩,?_⟩
 ·repeat(first|with_reducible exact hxs|with_reducible refine zqP ?_ (fun ad had=>by have:=hxb ad had;omega))
 ·have h1:=HST.out.dev.footLt _ e;have h2:=hxb ad had
  omega
 ·repeat(first|with_reducible exact HST5.out|with_reducible refine zY.setNew ?_ HD.out (fun q hq=>List.mem_of_mem_eraseIdx hq) (Nat.le_refl _) nf6 _ _|with_reducible refine zY.drewAt ?_)
structure Ac where
 kind:ByteArray
 req:Rq
 n:Int
 k:Int
def Ac.cell(x:Ac):Nat→Value
 |0=>.string x.kind
 |1=>.bool x.req.wr
 |2=>.int .i64 x.req.f
 |3=>.int .i64 x.req.m
 |4=>.slice x.req.da x.req.data.length x.req.dc
 |5=>.slice x.req.ta x.req.tags.length x.req.tc
 |6=>.int .i64 x.req.born
 |7=>.int .i64 x.n
 |_=>.int .u64 x.k
abbrev Ac.val(x:Ac):Value:=.agg #[.string x.kind,.bool x.req.wr,.int .i64 x.req.f,.int .i64 x.req.m,.slice x.req.da x.req.data.length x.req.dc,.slice x.req.ta x.req.tags.length x.req.tc,.int .i64 x.req.born,.int .i64 x.n,.int .u64 x.k]
def zeH(w:World)(a:Option Addr)(l:List Ac):Prop :=
 (l=[]∨∃b o,a=some ⟨b,o,none⟩∧∀i (h:i<l.length) j,j<9→w.cell? ⟨b,o+i*9+j,none⟩=some (l[i].cell j))∧(∀x∈l,x.req.At w)∧l.length≤9223372036854775807
theorem zeH.later{w w':World}{a:Option Addr}{l:List Ac}(h:zeH w a l)(hb:Below w.heap.size w w'):zeH w' a l:=by
 obtain⟨h1,h2,h3⟩:=h;refine⟨?_,fun r hr=>(h2 r hr).later hb,h3⟩
 rcases h1 with h|⟨b,o,ha,hc⟩
 ·exact Or.inl h
 ·exact Or.inr ⟨b,o,ha,fun i hi j hj=>cell_later' hb (hc i hi j hj)⟩
theorem zeH.form{w:World}{a:Option Addr}{l:List Ac}(h:zeH w a l):l=[]∨∃b o,a=some ⟨b,o,none⟩:=by
 rcases h.1 with h|⟨b,o,ha,_⟩
 ·exact Or.inl h
 ·exact Or.inr ⟨b,o,ha⟩
theorem zeH.cells{w:World}{b o:Nat}{l:List Ac}(h:zeH w (some ⟨b,o,none⟩) l){i:Nat}(hi:i<l.length) :
  w.cell? ⟨b,o+i*9,none⟩=some (.string l[i].kind)∧w.cell? ⟨b,o+i*9+1,none⟩=some (.bool l[i].req.wr)∧w.cell? ⟨b,o+i*9+2,none⟩=some (.int .i64 l[i].req.f)∧w.cell? ⟨b,o+i*9+3,none⟩=some (.int .i64 l[i].req.m)∧w.cell? ⟨b,o+i*9+4,none⟩=some (.slice l[i].req.da l[i].req.data.length l[i].req.dc)∧w.cell? ⟨b,o+i*9+5,none⟩=some (.slice l[i].req.ta l[i].req.tags.length l[i].req.tc)∧w.cell? ⟨b,o+i*9+6,none⟩=some (.int .i64 l[i].req.born)∧w.cell? ⟨b,o+i*9+7,none⟩=some (.int .i64 l[i].n)∧w.cell? ⟨b,o+i*9+8,none⟩=some (.int .u64 l[i].k):=by
 rcases h.1 with rfl|⟨b',o',ha,hc⟩
 ·exact absurd hi (Nat.not_lt_zero _)
 ·simp only[Option.some.injEq,Addr.mk.injEq,and_true] at ha;obtain⟨rfl,rfl⟩:=ha;exact⟨hc i hi 0 (by omega),hc i hi 1 (by omega),hc i hi 2 (by omega),hc i hi 3 (by omega),hc i hi 4 (by omega),hc i hi 5 (by omega),hc i hi 6 (by omega),hc i hi 7 (by omega),hc i hi 8 (by omega)⟩
def zde(s:ByteArray):Bool:=decide (4<s.size)
theorem zho(s:ByteArray)(w:World)(b:Bool)(hb:zde s=b) :
  Calls Tryz.prog 139 #[.string s] w fun e w'=>e=.returned (.bool b)∧Below w.heap.size w w':=by
 subst hb;go_enter Tryz.func139,Tryz.ntmps139;go_wp2;go_ret;exact⟨zad (by simp only[zde];rw[decide_eq_decide];omega),by(with_reducible repeat first|exact Below.refl _ _|refine zc ?_ _|refine zd ?_|refine bset' ?_ (by omega) _|refine zb ?_ (by assumption))⟩
theorem znK(r:Rq)(w:World) :
  Calls Tryz.prog 137 #[r.val] w fun e w'=>e=.returned (.int .i64 (if r.wr=true then r.m else 0))∧Below w.heap.size w w':=by
 obtain⟨wr,f,m,da,dc,data,ta,tc,tags,born⟩:=r
 cases wr
 all_goals
  go_enter Tryz.func137,Tryz.ntmps137;go_wp2;go_ret;exact⟨rfl,by(with_reducible repeat first|exact Below.refl _ _|refine zc ?_ _|refine zd ?_|refine bset' ?_ (by omega) _|refine zb ?_ (by assumption))⟩
theorem zn7(xs:List ByteArray)(a:Option Addr)(c:Nat)(w:World)(hx:zU w a xs)(hl:xs.length≤9223372036854775807) :
  Calls Tryz.prog 153 #[.slice a xs.length c,.func (.func 139) #[] #[]] w fun e w'=>∃n:Int,e=.returned (.int .i64 n)∧decide (0≤n)=xs.any zde∧Below w.heap.size w w':=by
 rcases hx with rfl|⟨b,o,rfl,hc⟩
 ·go_enter Tryz.func153,Tryz.ntmps153;go_wp2
  go_loop [8] (fun i=>i=.int .i64 0) (fun _=>0)
  case atStart=>rfl
  case round =>
   subst hrel;go_wp2;go_ret;exact⟨-1,rfl,by first|rfl|decide,Below.refl _ _⟩
 go_enter Tryz.func153,Tryz.ntmps153;go_wp2
 go_loopw[8] (fun i wr=>∃k:Nat,k≤xs.length∧i=.int .i64 k∧(xs.take k).any zde=false∧Below w.heap.size w wr) (fun i _=>xs.length-(intOf i).toNat)
 case atStart=>exact⟨0,by omega,rfl,by simp,Below.refl _ _⟩
 case round =>
  obtain⟨k,hk,rfl,hno,HB⟩:=hrel;have HN:Hid ((xs.take k).any zde=false):=hno;clear hno
  by_cases hlt:k<xs.length
  ·have c0:=cell_later' HB (hc k hlt);have hgd:xs.getD k ByteArray.empty=xs[k]:=by simp[hlt]
   rw[hgd] at c0;clear hgd hc;have l0:=zg c0;have i0:decide ((k:Int)<0)=false:=decide_eq_false (by omega);have i1:decide ((xs.length:Int)≤(k:Int))=false:=decide_eq_false (by omega);have i1':decide (xs.length≤k)=false:=decide_eq_false (by omega)
   cases hlb:zde xs[k]
   ·go_wp2_with fail;refine(zho _ _ _ hlb).mono ?_;rintro e w1 ⟨rfl,hb⟩
    replace HB:=zb HB hb
    clear hb;go_wp2;go_roundw
    case rel=>exact⟨k+1,by omega,by go_num,by rw[List.take_add_one,List.getElem?_eq_getElem hlt,List.any_append,HN.out];simp[hlb],HB⟩
    case measure=>simp[intOf];omega
   ·go_wp2_with fail;refine(zho _ _ _ hlb).mono ?_;rintro e w1 ⟨rfl,hb⟩
    replace HB:=zb HB hb
    clear hb;go_wp2;go_ret;exact⟨k,rfl,by rw[List.any_eq_true.2 ⟨xs[k],List.getElem_mem _,hlb⟩];exact decide_eq_true (by omega),by(with_reducible repeat first|exact Below.refl _ _|refine zc ?_ _|refine zd ?_|refine bset' ?_ (by omega) _|refine zb ?_ (by assumption))⟩
  ·have hkl:k=xs.length:=by omega
   have HN2:Hid (xs.any zde=false):=by have:=HN.out;rw[hkl,List.take_length] at this;exact this
   subst hkl;go_wp2;go_ret;exact⟨-1,rfl,by rw[HN2.out];rfl,by(with_reducible repeat first|exact Below.refl _ _|refine zc ?_ _|refine zd ?_|refine bset' ?_ (by omega) _|refine zb ?_ (by assumption))⟩
theorem zgl(xs:List ByteArray)(a:Option Addr)(c:Nat)(w:World)(hx:zU w a xs)(hl:xs.length≤9223372036854775807)(b:Bool)(hb:xs.any zde=b) :
  Calls Tryz.prog 138 #[.slice a xs.length c,.func (.func 139) #[] #[]] w fun e w'=>e=.returned (.bool b)∧Below w.heap.size w w':=by
 go_enter Tryz.func138,Tryz.ntmps138;go_wp2_with fail;refine(zn7 xs a c _ hx hl).mono ?_;rintro e w1 ⟨n,rfl,hn,HB⟩;rw[hb] at hn;clear hb;go_wp2;go_ret;exact⟨rfl,by(with_reducible repeat first|exact Below.refl _ _|refine zc ?_ _|refine zd ?_|refine bset' ?_ (by omega) _|refine zb ?_ (by assumption))⟩
end Go.Proofs.YtlhgjplipgandaaGreat
namespace Go.Proofs.YtlhgjplipgandaaGreat
open Go.RowKit
def zae(n:Int):Value:=if n=0 then .nilIface else .iface 88 (.int .i64 n)
end Go.Proofs.YtlhgjplipgandaaGreat
namespace Go.Proofs.YtlhgjplipgandaaGreat
open Go.RowKit Go.BigFrame
attribute [local go_sem] ze.cell ze.frozen
theorem zd5(r:Rq)(w:World)(D:Int)(hD:(if r.wr=true then r.m else 0)=D) :
  Calls Tryz.prog 137 #[r.val] w fun e w'=>e=.returned (.int .i64 D)∧Below w.heap.size w w':=by
 subst hD;exact znK r w
theorem zmx(r:Rq)(w:World)(h:okB r.f r.m 4=false) :
  Calls Tryz.prog 119 #[r.val] w fun e w'=>e=.returned (.iface 88 (.int .i64 1))∧Below w.heap.size w w':=by
 obtain⟨wr,f,m,da,dc,data,ta,tc,tags,born⟩:=r;simp only at h;go_enter Tryz.func119,Tryz.ntmps119;go_wp2_with fail
 go_at_call 136;refine(zqF _ _ _ _ h).mono ?_;rintro e w1 ⟨rfl,hb⟩;(try clear hc hf hz);(first|replace HB:=zb HB hb|replace HB:=zb (zd HB) hb|have HB:=hb);clear hb;obtain⟨hc,hf,hz⟩:=zu HB
 go_wp2;go_ret;exact⟨rfl,by(with_reducible repeat first|exact Below.refl _ _|refine zc ?_ _|refine zd ?_|refine bset' ?_ (by omega) _|refine zb ?_ (by assumption))⟩
theorem zlx(r:Rq)(w:World)(hr:r.At w)(h:okB r.f r.m 4=true)(D:Int)(hD:(if r.wr=true then r.m else 0)=D)(h2:((r.data.length:Int) != D)=true) :
  Calls Tryz.prog 119 #[r.val] w fun e w'=>e=.returned (.iface 88 (.int .i64 3))∧Below w.heap.size w w':=by
 have HD:Hid ((if r.wr=true then r.m else 0)=D):=hD;clear hD;have l1:=hr.dl;have l2:=hr.tl
 all_goals
  go_enter Tryz.func119,Tryz.ntmps119;go_wp2_with fail
  go_at_call 136;refine(zec _ _ _ _ h).mono ?_;rintro e w1 ⟨rfl,hb⟩;(try clear hc hf hz);(first|replace HB:=zb HB hb|replace HB:=zb (zd HB) hb|have HB:=hb);clear hb;obtain⟨hc,hf,hz⟩:=zu HB
  go_wp2_with fail;refine zj (by first|exact HB|exact zd HB|exact Below.refl _ _) (by kernel_rfl) (by kernel_rfl) ?_
  repeat(go_big_quiet_step (first|exact rfl|(go_at_call 137;exact zR (zd5 r _ D HD.out))))
  refine wpQuiet_nil ?_;intro _ hw';obtain⟨p,hw''⟩:=hw';subst hw'';(try clear hc hf hz);(try clear HB);have HB:=p.below;obtain⟨hc,hf,hz⟩:=zu HB;go_wp2;go_ret;exact⟨rfl,by(with_reducible repeat first|exact Below.refl _ _|refine zc ?_ _|refine zd ?_|refine bset' ?_ (by omega) _|refine zb ?_ (by assumption))⟩
theorem zmd(r:Rq)(w:World)(hr:r.At w)(h:okB r.f r.m 4=true)(D:Int)(hD:(if r.wr=true then r.m else 0)=D)(h2:((r.data.length:Int) != D)=false)(h3:r.tags.length<1∨4<r.tags.length) :
  Calls Tryz.prog 119 #[r.val] w fun e w'=>e=.returned (.iface 88 (.int .i64 3))∧Below w.heap.size w w':=by
 have HD:Hid ((if r.wr=true then r.m else 0)=D):=hD;clear hD;have l1:=hr.dl;have l2:=hr.tl
 rcases h3 with h3|h3
 all_goals
  go_enter Tryz.func119,Tryz.ntmps119;go_wp2_with fail
  go_at_call 136;refine(zec _ _ _ _ h).mono ?_;rintro e w1 ⟨rfl,hb⟩;(try clear hc hf hz);(first|replace HB:=zb HB hb|replace HB:=zb (zd HB) hb|have HB:=hb);clear hb;obtain⟨hc,hf,hz⟩:=zu HB
  go_wp2_with fail;refine zj (by first|exact HB|exact zd HB|exact Below.refl _ _) (by kernel_rfl) (by kernel_rfl) ?_
  repeat(go_big_quiet_step (first|exact rfl|(go_at_call 137;exact zR (zd5 r _ D HD.out))))
  refine wpQuiet_nil ?_;intro _ hw';obtain⟨p,hw''⟩:=hw';subst hw'';(try clear hc hf hz);(try clear HB);have HB:=p.below;obtain⟨hc,hf,hz⟩:=zu HB;go_wp2;go_ret;exact⟨rfl,by(with_reducible repeat first|exact Below.refl _ _|refine zc ?_ _|refine zd ?_|refine bset' ?_ (by omega) _|refine zb ?_ (by assumption))⟩
theorem zmv(r:Rq)(w:World)(hr:r.At w)(h:okB r.f r.m 4=true)(D:Int)(hD:(if r.wr=true then r.m else 0)=D)(h2:((r.data.length:Int) != D)=false)(t1:¬r.tags.length<1)(t2:¬4<r.tags.length)(h4:r.born<0∨(0≤r.born∧1000000000<r.born)) :
  Calls Tryz.prog 119 #[r.val] w fun e w'=>e=.returned (.iface 88 (.int .i64 1))∧Below w.heap.size w w':=by
 have HD:Hid ((if r.wr=true then r.m else 0)=D):=hD;clear hD;have l1:=hr.dl;have l2:=hr.tl
 rcases h4 with h4|⟨h4,h5⟩
 all_goals
  go_enter Tryz.func119,Tryz.ntmps119;go_wp2_with fail
  go_at_call 136;refine(zec _ _ _ _ h).mono ?_;rintro e w1 ⟨rfl,hb⟩;(try clear hc hf hz);(first|replace HB:=zb HB hb|replace HB:=zb (zd HB) hb|have HB:=hb);clear hb;obtain⟨hc,hf,hz⟩:=zu HB
  go_wp2_with fail;refine zj (by first|exact HB|exact zd HB|exact Below.refl _ _) (by kernel_rfl) (by kernel_rfl) ?_
  repeat(go_big_quiet_step (first|exact rfl|(go_at_call 137;exact zR (zd5 r _ D HD.out))))
  refine wpQuiet_nil ?_;intro _ hw';obtain⟨p,hw''⟩:=hw';subst hw'';(try clear hc hf hz);(try clear HB);have HB:=p.below;obtain⟨hc,hf,hz⟩:=zu HB;go_wp2;go_ret;exact⟨rfl,by(with_reducible repeat first|exact Below.refl _ _|refine zc ?_ _|refine zd ?_|refine bset' ?_ (by omega) _|refine zb ?_ (by assumption))⟩
theorem zlV(r:Rq)(w:World)(hr:r.At w)(h:okB r.f r.m 4=true)(D:Int)(hD:(if r.wr=true then r.m else 0)=D)(h2:((r.data.length:Int) != D)=false)(t1:¬r.tags.length<1)(t2:¬4<r.tags.length)(h4:0≤r.born)(h5:r.born≤1000000000)(h6:r.data.any zde=true) :
  Calls Tryz.prog 119 #[r.val] w fun e w'=>e=.returned (.iface 88 (.int .i64 1))∧Below w.heap.size w w':=by
 have HD:Hid ((if r.wr=true then r.m else 0)=D):=hD;clear hD;have l1:=hr.dl;have l2:=hr.tl
 all_goals
  go_enter Tryz.func119,Tryz.ntmps119;go_wp2_with fail
  go_at_call 136;refine(zec _ _ _ _ h).mono ?_;rintro e w1 ⟨rfl,hb⟩;(try clear hc hf hz);(first|replace HB:=zb HB hb|replace HB:=zb (zd HB) hb|have HB:=hb);clear hb;obtain⟨hc,hf,hz⟩:=zu HB
  go_wp2_with fail;refine zj (by first|exact HB|exact zd HB|exact Below.refl _ _) (by kernel_rfl) (by kernel_rfl) ?_
  repeat(go_big_quiet_step (first|exact rfl|(go_at_call 137;exact zR (zd5 r _ D HD.out))))
  refine wpQuiet_nil ?_;intro _ hw';obtain⟨p,hw''⟩:=hw';subst hw'';(try clear hc hf hz);(try clear HB);have HB:=p.below;obtain⟨hc,hf,hz⟩:=zu HB;go_wp2_with fail
  go_at_call 138;refine(zgl r.data _ _ _ (hr.data.later (by(with_reducible repeat first|exact Below.refl _ _|refine zc ?_ _|refine zd ?_|refine bset' ?_ (by omega) _|refine zb ?_ (by assumption)))) l1 _ h6).mono ?_;rintro e w1 ⟨rfl,hb⟩;(try clear hc hf hz);(first|replace HB:=zb HB hb|replace HB:=zb (zd HB) hb|have HB:=hb);clear hb;obtain⟨hc,hf,hz⟩:=zu HB
  go_wp2;go_ret;exact⟨rfl,by(with_reducible repeat first|exact Below.refl _ _|refine zc ?_ _|refine zd ?_|refine bset' ?_ (by omega) _|refine zb ?_ (by assumption))⟩
theorem zmf(r:Rq)(w:World)(hr:r.At w)(h:okB r.f r.m 4=true)(D:Int)(hD:(if r.wr=true then r.m else 0)=D)(h2:((r.data.length:Int) != D)=false)(t1:¬r.tags.length<1)(t2:¬4<r.tags.length)(h4:0≤r.born)(h5:r.born≤1000000000)(h6:r.data.any zde=false) :
  Calls Tryz.prog 119 #[r.val] w fun e w'=>e=.returned .nilIface∧Below w.heap.size w w':=by
 have HD:Hid ((if r.wr=true then r.m else 0)=D):=hD;clear hD;have l1:=hr.dl;have l2:=hr.tl
 all_goals
  go_enter Tryz.func119,Tryz.ntmps119;go_wp2_with fail
  go_at_call 136;refine(zec _ _ _ _ h).mono ?_;rintro e w1 ⟨rfl,hb⟩;(try clear hc hf hz);(first|replace HB:=zb HB hb|replace HB:=zb (zd HB) hb|have HB:=hb);clear hb;obtain⟨hc,hf,hz⟩:=zu HB
  go_wp2_with fail;refine zj (by first|exact HB|exact zd HB|exact Below.refl _ _) (by kernel_rfl) (by kernel_rfl) ?_
  repeat(go_big_quiet_step (first|exact rfl|(go_at_call 137;exact zR (zd5 r _ D HD.out))))
  refine wpQuiet_nil ?_;intro _ hw';obtain⟨p,hw''⟩:=hw';subst hw'';(try clear hc hf hz);(try clear HB);have HB:=p.below;obtain⟨hc,hf,hz⟩:=zu HB;go_wp2_with fail
  go_at_call 138;refine(zgl r.data _ _ _ (hr.data.later (by(with_reducible repeat first|exact Below.refl _ _|refine zc ?_ _|refine zd ?_|refine bset' ?_ (by omega) _|refine zb ?_ (by assumption)))) l1 _ h6).mono ?_;rintro e w1 ⟨rfl,hb⟩;(try clear hc hf hz);(first|replace HB:=zb HB hb|replace HB:=zb (zd HB) hb|have HB:=hb);clear hb;obtain⟨hc,hf,hz⟩:=zu HB
  go_wp2;go_ret;exact⟨rfl,by(with_reducible repeat first|exact Below.refl _ _|refine zc ?_ _|refine zd ?_|refine bset' ?_ (by omega) _|refine zb ?_ (by assumption))⟩
theorem zsw(r:Rq)(D:Int)(hD:(if r.wr=true then r.m else 0)=D):((r.data.length:Int) != D)=!(zbR r):=by
 subst hD;unfold zbR
 cases r.wr
 all_goals
  simp only[if_true,if_false,Bool.false_eq_true];rw[Bool.eq_iff_iff];simp only[bne_iff_ne,Bool.not_eq_true',decide_eq_false_iff_not,ne_eq]
  try omega
theorem znU(r:Rq):r.data.any zde=!(zcD r):=by
 unfold zcD;rw[List.not_all_eq_any_not]
 congr 1
 funext s
 simp only[zde];rw[←decide_not]
 congr 1
 simp
theorem zn9(r:Rq)(w:World)(hr:r.At w)(n:Int)(hn:zcz r=n) :
  Calls Tryz.prog 119 #[r.val] w fun e w'=>e=.returned (zae n)∧Below w.heap.size w w':=by
 subst hn;unfold zcz;have hD:=zsw r _ rfl
 by_cases h:okB r.f r.m 4=false
 ·rw[if_pos h];exact zmx r w h
 ·rw[if_neg h];have h':okB r.f r.m 4=true:=by simpa using h
  by_cases h2:zbR r=false
  ·rw[if_pos h2];exact zlx r w hr h' _ rfl (by rw[hD,h2];rfl)
  ·rw[if_neg h2];have h2':((r.data.length:Int) != (if r.wr=true then r.m else 0))=false:=by
    rw[hD];simpa using h2
   by_cases h3:r.tags.length<1∨4<r.tags.length
   ·rw[if_pos h3];exact zmd r w hr h' _ rfl h2' h3
   ·rw[if_neg h3]
    by_cases h4:r.born<0∨1000000000<r.born
    ·rw[if_pos h4];exact zmv r w hr h' _ rfl h2' (by omega) (by omega) (by omega)
    ·rw[if_neg h4];have hls:=znU r
     cases hs:zcD r
     ·rw[hs] at hls;exact zlV r w hr h' _ rfl h2' (by omega) (by omega) (by omega) (by omega) hls
     ·rw[hs] at hls;exact zmf r w hr h' _ rfl h2' (by omega) (by omega) (by omega) (by omega) hls
def Dl.did(d:Dl)(r:Rq):Dl:=if r.wr=true then d.writesTo r r.m.toNat else d
theorem Dl.did_busy(d:Dl)(r:Rq):(d.did r).busy=d.busy:=by unfold Dl.did;split;exact Dl.writesTo_busy _ _ _;rfl
theorem noBusy(d:Dl)(h:d.busy=[]):({ d with busy:=[] }:Dl)=d:=by cases d;simp only at h;subst h;rfl
def zX(d:Dl)(r:Rq):List ByteArray:=if r.wr=true then [] else zbB d r.f.toNat r.m.toNat
def zll(w:World)(q:Nat)(x:Ac):Prop:=w.cell? ⟨q,1,none⟩=some (.bool x.req.wr)∧w.cell? ⟨q,2,none⟩=some (.int .i64 x.req.f)∧w.cell? ⟨q,3,none⟩=some (.int .i64 x.req.m)∧w.cell? ⟨q,4,none⟩=some (.slice x.req.da x.req.data.length x.req.dc)∧w.cell? ⟨q,5,none⟩=some (.slice x.req.ta x.req.tags.length x.req.tc)∧w.cell? ⟨q,6,none⟩=some (.int .i64 x.req.born)
theorem zll.later{w w':World}{q:Nat}{x:Ac}(h:zll w q x)(hb:Below w.heap.size w w'):zll w' q x:=by
 obtain⟨h0,h1,h2,h3,h4,h5⟩:=h;exact⟨cell_later' hb h0,cell_later' hb h1,cell_later' hb h2,cell_later' hb h3,cell_later' hb h4,cell_later' hb h5⟩
theorem zcd{F:Nat→Prop}{w:World}{r:Rq}(h:r.At w)(hF:∀k,F k→w.heap.size≤k):r.Off F :=
 ⟨fun he ad ha hk=>by have h1:=zfC h.data he ha;have h2:=hF _ hk;omega,fun he ad ha hk=>by have h1:=zdp h.tags he ha;have h2:=hF _ hk;omega⟩
theorem zkM{b k:Nat}(h:an0.foot b k):k=b:=by
 rcases h with h|⟨p,hp,_⟩|⟨p,hp,_⟩
 ·exact h
 ·cases hp
 ·cases hp
def za6(w:World)(q:Nat)(r:Rq)(xa:Option Addr)(n xc:Nat)(er:Int):Prop:=w.cell? ⟨q,0,none⟩=some (.bool r.wr)∧w.cell? ⟨q,1,none⟩=some (.int .i64 r.f)∧w.cell? ⟨q,2,none⟩=some (.int .i64 r.m)∧w.cell? ⟨q,3,none⟩=some (.slice r.da r.data.length r.dc)∧w.cell? ⟨q,4,none⟩=some (.slice r.ta r.tags.length r.tc)∧w.cell? ⟨q,5,none⟩=some (.int .i64 r.born)∧w.cell? ⟨q,6,none⟩=some (.slice xa n xc)∧w.cell? ⟨q,7,none⟩=some (.int .i64 er)
theorem za6.later{w w':World}{q n xc:Nat}{r:Rq}{xa:Option Addr}{er:Int}(h:za6 w q r xa n xc er)(hb:Below w.heap.size w w'):za6 w' q r xa n xc er:=by
 obtain⟨h0,h1,h2,h3,h4,h5,h6,h7⟩:=h;exact⟨cell_later' hb h0,cell_later' hb h1,cell_later' hb h2,cell_later' hb h3,cell_later' hb h4,cell_later' hb h5,cell_later' hb h6,cell_later' hb h7⟩
theorem zfB(w:World)(T:TypeId)(r:Rq)(xa:Option Addr)(n xc:Nat)(er:Int):za6 (w.alloc (.cells #[.bool r.wr,.int .i64 r.f,.int .i64 r.m,.slice r.da r.data.length r.dc,.slice r.ta r.tags.length r.tc,.int .i64 r.born,.slice xa n xc,.int .i64 er] T)) w.heap.size r xa n xc er:=by
 refine⟨?_,?_,?_,?_,?_,?_,?_,?_⟩<;>simp
structure Mine(w w2:World)(b:Nat)(d:Dl)(a:An)(wr:World):Prop where
 step:zY b d0 an0 d a w2 wr
 none:d.busy=[]
theorem Mine.below{w w2 wr:World}{b:Nat}{d:Dl}{a:An}(h:Mine w w2 b d a wr)(hb:w.heap.size≤b)(hw:Below w.heap.size w w2):Below w.heap.size w wr :=
 hw.trans (h.step.only.below hw.size (fun k hk=>by rw[zkM hk];exact hb))
theorem Mine.foot{w w2 wr:World}{b:Nat}{d:Dl}{a:An}(h:Mine w w2 b d a wr)(hb:w.heap.size≤b)(hw:Below w.heap.size w w2):∀k,a.foot b k→w.heap.size≤k:=fun k hk =>
 (h.step.foot k hk).elim (fun e=>by rw[zkM e];exact hb) (fun h'=>Nat.le_trans hw.size h')
theorem zsc(b:Nat)(d:Dl)(a:An)(k:Nat)(hk:k<d.busy.length)(w:World)(h:zM b d a w)(gr:zA d.busy[k]) :
  Calls Tryz.prog 96 #[.pointer (some ⟨b,0,none⟩),.int .i64 k,.bool false] w fun e w'=>∃a' xa xc xs,e=.returned (.tuple #[zaI d.busy[k] xa (List.length xs) xc 0,.nilIface])∧Hid (xs=zX d d.busy[k])∧zU w' xa xs∧(∀ad,xa=some ad→w.heap.size≤ad.block∧¬a'.foot b ad.block)∧zY b d a (({ d with busy:=d.busy.eraseIdx k }:Dl).did d.busy[k]) a' w w':=by
 by_cases hw:d.busy[k].wr=true
 ·refine(zpY b d a k hk w h gr hw).mono ?_;rintro e w' ⟨a',rfl,hs⟩;refine⟨a',none,0,[],rfl,by show _=_;rw[zX,if_pos hw],Or.inl rfl,by simp,?_⟩;rw[Dl.did,if_pos hw];exact hs
 ·have hw':d.busy[k].wr=false:=by simpa using hw
  refine(zqW b d a k hk w h gr hw').mono ?_;rintro e w' ⟨a',xa,xc,rfl,h1,h2,h3,hs⟩;refine⟨a',xa,xc,_,rfl,by show _=_;rw[zX,if_neg hw],h1,h3,?_⟩;rw[Dl.did,if_neg hw];exact hs
theorem end_at(b:Nat)(d:Dl)(a:An)(l:List Rq)(k:Nat)(r:Rq)(hb:d.busy=l)(hk:l[k]?=some r)(w:World)(h:zM b d a w)(gr:zA r) :
  Calls Tryz.prog 96 #[.pointer (some ⟨b,0,none⟩),.int .i64 k,.bool false] w fun e w'=>∃a' xa xc xs,e=.returned (.tuple #[zaI r xa (List.length xs) xc 0,.nilIface])∧Hid (xs=zX d r)∧zU w' xa xs∧(∀ad,xa=some ad→w.heap.size≤ad.block∧¬a'.foot b ad.block)∧zY b d a (({ d with busy:=l.eraseIdx k }:Dl).did r) a' w w':=by
 subst hb;obtain⟨hk',rfl⟩:=List.getElem?_eq_some_iff.1 hk;exact zsc b d a k hk' w h gr
def Dl.has(d:Dl)(p:Nat):ByteArray:=d.now.getD p ByteArray.empty
theorem zpF(d:Dl)(q:Nat)(s:ByteArray):(d.write q s).now.length=d.now.length:=by simp[Dl.write]
theorem zk7(d:Dl)(r:Rq)(n:Nat):(d.writesTo r n).now.length=d.now.length:=by
 induction n with
 |zero=>rfl
 |succ n ih=>rw[Dl.writesTo_succ,zpF,ih]
theorem zsb(d:Dl)(r:Rq):(d.did r).now.length=d.now.length:=by unfold Dl.did;split;exact zk7 _ _ _;rfl
structure Two(w:World)(bc:Nat)(dc:Dl)(ac:An)(bd:Nat)(dd:Dl)(ad:An)(wr:World):Prop where
 c:zM bc dc ac wr
 d:zM bd dd ad wr
 apart:∀k,ac.foot bc k→ad.foot bd k→False
 fc:∀k,ac.foot bc k→w.heap.size≤k
 fd:∀k,ad.foot bd k→w.heap.size≤k
 rc:∀r∈dc.busy,r.At w
 rd:∀r∈dd.busy,r.At w
 bel:Below w.heap.size w wr
theorem Two.stepC{w wr wr':World}{bc bd:Nat}{dc dc' dd:Dl}{ac ac' ad:An}(h:Two w bc dc ac bd dd ad wr)(hs:zY bc dc ac dc' ac' wr wr')(hr:∀r∈dc'.busy,r.At w):Two w bc dc' ac' bd dd ad wr' where
 c:=hs.dev
 d:=h.d.frame hs.only (fun k hk hc=>h.apart k hc hk) (fun r hr'=>zcd (h.rd r hr') h.fc)
 apart:=fun k hc hd=>(hs.foot k hc).elim (fun hc'=>h.apart k hc' hd) (fun h'=>by have:=h.d.footLt k hd;omega)
 fc:=fun k hk=>(hs.foot k hk).elim (h.fc k) (fun h'=>Nat.le_trans h.bel.size h')
 fd:=h.fd
 rc:=hr
 rd:=h.rd
 bel:=h.bel.trans (hs.only.below h.bel.size h.fc)
theorem Two.swap{w wr:World}{bc bd:Nat}{dc dd:Dl}{ac ad:An}(h:Two w bc dc ac bd dd ad wr):Two w bd dd ad bc dc ac wr:=⟨h.d,h.c,fun k h1 h2=>h.apart k h2 h1,h.fd,h.fc,h.rd,h.rc,h.bel⟩
theorem Two.later{w wr wr':World}{bc bd:Nat}{dc dd:Dl}{ac ad:An}(h:Two w bc dc ac bd dd ad wr)(hb:Below wr.heap.size wr wr'):Two w bc dc ac bd dd ad wr':=⟨h.c.later hb,h.d.later hb,h.apart,h.fc,h.fd,h.rc,h.rd,zb h.bel hb⟩
theorem zcJ(kp:Int)(x:Wn)(l:List Wn)(G:List ByteArray):zb1 kp (x::l) G=zb1 kp l (if zdD kp x.bit=true then G.set x.pl x.data else G):=rfl
theorem zil(p n:Nat)(x:Wn)(l:List Wn):zaF p n (x::l)=if zbD p n x=true then zaF p n l else x::zaF p n l:=by
 unfold zaF;rw[List.filter_cons]
 cases zbD p n x<;>simp
theorem zo0{p n:Nat}{x:Wn}(h:zbD p n x=true):x.pl=p∧x.bit=n:=by simpa [zbD] using h
theorem zoW(kp:Int)(p n:Nat)(h:zdD kp n=false)(l:List Wn):∀G,zb1 kp (zaF p n l) G=zb1 kp l G:=by
 induction l with
 |nil=>intro G;rfl
 |cons x l ih =>
  intro G;rw[zil]
  by_cases e:zbD p n x=true
  ·rw[if_pos e,ih,zcJ,(zo0 e).2,h];rfl
  ·rw[if_neg e,zcJ,zcJ,ih]
theorem zqS(kp:Int)(p n:Nat)(s:ByteArray)(l:List Wn):∀G H:List ByteArray,G.set p s=H.set p s→(zb1 kp (zaF p n l) G).set p s=(zb1 kp l H).set p s:=by
 induction l with
 |nil=>intro G H h;exact h
 |cons x l ih =>
  intro G H h;rw[zil]
  by_cases e:zbD p n x=true
  ·rw[if_pos e,zcJ];refine ih _ _ ?_
   by_cases hb:zdD kp x.bit=true
   ·rw[if_pos hb,(zo0 e).1,List.set_set];exact h
   ·rw[if_neg hb];exact h
  ·rw[if_neg e,zcJ,zcJ];refine ih _ _ ?_
   by_cases hb:zdD kp x.bit=true
   ·rw[if_pos hb,if_pos hb]
    by_cases hq:x.pl=p
    ·rw[hq,List.set_set,List.set_set];exact h
    ·rw[List.set_comm _ _ hq,List.set_comm _ _ hq,h]
   ·rw[if_neg hb,if_neg hb];exact h
theorem zlW(kp:Int)(p n:Nat)(s:ByteArray)(l:List Wn)(G:List ByteArray):zb1 kp (zaF p n l++[⟨p,s,n⟩]) G=if zdD kp n=true then(zb1 kp l G).set p s else zb1 kp l G:=by
 rw[zl3]
 by_cases hb:zdD kp n=true
 ·rw[if_pos hb,if_pos hb];exact zqS kp p n s l G G rfl
 ·rw[if_neg hb,if_neg hb];exact zoW kp p n (by simpa using hb) l G
def Dl.after(d:Dl)(kp:Int):List ByteArray:=zb1 kp d.wr d.good
theorem zmK(d:Dl)(kp:Int)(p:Nat)(s:ByteArray):(d.write p s).after kp=if zdD kp d.next=true then(d.after kp).set p s else d.after kp:=zlW kp p d.next s d.wr d.good
theorem zkl(d:Dl)(r:Rq)(n:Nat):(d.writesTo r n).good=d.good:=by
 induction n with
 |zero=>rfl
 |succ n ih=>rw[Dl.writesTo_succ];exact ih
structure Ph(w:World)(b q:Nat)(d:Dl)(a:An)(l:List ByteArray)(wr:World):Prop where
 dev:zM b d a wr
 idle:d.busy=[]
 foot:∀k,a.foot b k→w.heap.size≤k∧k ≠ q
 want:wr.heap[q]?=some (.cells (zaG l).toArray 32 (0,0))
 len:l.length=32
 qb:w.heap.size≤q
 bel:Below w.heap.size w wr
theorem Ph.step{w wr wr':World}{b q:Nat}{d d':Dl}{a a':An}{l:List ByteArray}(h:Ph w b q d a l wr)(hs:zY b d a d' a' wr wr')(hn:d'.busy=[]):Ph w b q d' a' l wr' where
 dev:=hs.dev
 idle:=hn
 foot:=fun k hk=>(hs.foot k hk).elim (h.foot k) (fun h'=>⟨Nat.le_trans h.bel.size h',fun e=>by have:=zz h.want;omega⟩)
 want:=by rw[hs.only.block q (zz h.want) (fun e=>(h.foot q e).2 rfl)];exact h.want
 len:=h.len
 qb:=h.qb
 bel:=h.bel.trans (hs.only.below h.bel.size (fun k hk=>(h.foot k hk).1))
theorem Ph.later{w wr wr':World}{b q:Nat}{d:Dl}{a:An}{l:List ByteArray}(h:Ph w b q d a l wr)(hb:Below wr.heap.size wr wr'):Ph w b q d a l wr':=h.step (zY.same h.dev hb) h.idle
theorem zk1(l:List ByteArray)(p:Nat)(s:ByteArray):(zaG l).set p (.string s)=zaG (l.set p s):=by simp[zaG,List.map_set]
theorem Ph.set{w wr:World}{b q:Nat}{d:Dl}{a:An}{l:List ByteArray}(h:Ph w b q d a l wr)(p:Nat)(s:ByteArray):Ph w b q d a (l.set p s) (wr.setCell ⟨q,p,none⟩ (.string s)) where
 dev:=h.dev.frame (zo.of_set _) (fun k hk e=>(h.foot k hk).2 e) (fun r hr=>by rw[h.idle] at hr;cases hr)
 idle:=h.idle
 foot:=h.foot
 want:=by rw[zK h.want,zk1]
 len:=by simpa using h.len
 qb:=h.qb
 bel:=h.bel.setCell h.qb _
theorem Ph.cell{w wr:World}{b q:Nat}{d:Dl}{a:An}{l:List ByteArray}(h:Ph w b q d a l wr){p:Nat}(hp:p<32):wr.cell? ⟨q,p,none⟩=some (.string (l.getD p ByteArray.empty))∧wr.frozen? ⟨q,p,none⟩=false∧q<wr.heap.size:=by
 refine⟨?_,zac h.want p,zz h.want⟩;rw[zy h.want]
 simp[zaG,List.getElem?_eq_getElem (show p<l.length by rw[h.len];exact hp)]
def zeR(R:Rq→Int)(l:List Rq)(i:Nat):Int:=match l[i]? with|some r=>R r|none=>0
def zgX(F:Rq→Bool)(l:List Rq)(i:Nat):Bool:=match l[i]? with|some r=>F r|none=>false
def zax(F:Rq→Bool)(R:Rq→Int)(l:List Rq):Nat→Int
 |0=>-1
 |k+1=>if zgX F l k=true∧(zax F R l k<0∨zeR R l k<zeR R l (zax F R l k).toNat) then k else zax F R l k
section
variable{F:Rq→Bool}{R:Rq→Int}{l:List Rq}{k j:Nat}
theorem zfY(h:k<l.length):zgX F l k=F l[k]:=by simp[zgX,h]
theorem ze2(h:k<l.length):zeR R l k=R l[k]:=by simp[zeR,h]
theorem zdm{B:Int}(h:k<l.length)(hF:F l[k]=false)(hB:zax F R l k=B):zax F R l (k+1)=B:=by
 rw[zax,zfY h,hF,if_neg (by simp),hB]
theorem zc4(h:k<l.length)(hF:F l[k]=true)(hB:zax F R l k=-1):zax F R l (k+1)=k:=by
 rw[zax,zfY h,hF,hB,if_pos (by simp)]
theorem zeK(h:k<l.length)(hj:j<l.length)(hF:F l[k]=true)(hB:zax F R l k=j)(hR:R l[k]<R l[j]):zax F R l (k+1)=k:=by
 rw[zax,zfY h,hF,hB,ze2 h,Int.toNat_natCast,ze2 hj,if_pos ⟨rfl,Or.inr hR⟩]
theorem zeQ(h:k<l.length)(hj:j<l.length)(hF:F l[k]=true)(hB:zax F R l k=j)(hR:¬R l[k]<R l[j]):zax F R l (k+1)=j:=by
 rw[zax,zfY h,hF,hB,ze2 h,Int.toNat_natCast,ze2 hj,if_neg (by rintro⟨_,h'|h'⟩;omega;exact hR h')]
end
def zdC(b:Bool)(r:Rq):Bool:=r.wr==b
def zbM(b:Bool)(at':Int)(r:Rq):Bool:=(r.wr==b)&&decide (at'≤r.f)
theorem zer(r:Rq)(b:Bool)(pb po:Nat)(w:World)(hp:w.cell? ⟨pb,po,none⟩=some (.bool b))(ff:Bool)(hff:zdC b r=ff) :
  Calls Tryz.prog 148 #[r.val,.pointer (some ⟨pb,po,none⟩)] w fun e w'=>e=.returned (.bool ff)∧Below w.heap.size w w':=by
 subst hff;have hp':=zao hp;go_enter Tryz.func148,Tryz.ntmps148;go_wp2;go_ret;exact⟨rfl,by(with_reducible repeat first|exact Below.refl _ _|refine zc ?_ _|refine zd ?_|refine bset' ?_ (by omega) _|refine zb ?_ (by assumption))⟩
theorem zdZ(r:Rq)(w:World) :
  Calls Tryz.prog 149 #[r.val] w fun e w'=>e=.returned (.int .i64 r.born)∧Below w.heap.size w w':=by
 go_enter Tryz.func149,Tryz.ntmps149;go_wp2;go_ret;exact⟨rfl,by(with_reducible repeat first|exact Below.refl _ _|refine zc ?_ _|refine zd ?_|refine bset' ?_ (by omega) _|refine zb ?_ (by assumption))⟩
theorem zd2(r:Rq)(b:Bool)(a:Int)(pb po qb qo:Nat)(w:World)(hp:w.cell? ⟨pb,po,none⟩=some (.bool b))(hq:w.cell? ⟨qb,qo,none⟩=some (.int .i64 a))(ff:Bool)(hff:zbM b a r=ff) :
  Calls Tryz.prog 145 #[r.val,.pointer (some ⟨pb,po,none⟩),.pointer (some ⟨qb,qo,none⟩)] w fun e w'=>e=.returned (.bool ff)∧Below w.heap.size w w':=by
 subst hff;have hp':=zao hp;have hq':=zao hq
 cases hb:(r.wr==b)
 ·go_enter Tryz.func145,Tryz.ntmps145;go_wp2;go_ret;exact⟨zad (by rw[zbM,hb];rfl),by(with_reducible repeat first|exact Below.refl _ _|refine zc ?_ _|refine zd ?_|refine bset' ?_ (by omega) _|refine zb ?_ (by assumption))⟩
 ·go_enter Tryz.func145,Tryz.ntmps145;go_wp2;go_ret;exact⟨zad (by rw[zbM,hb];rfl),by(with_reducible repeat first|exact Below.refl _ _|refine zc ?_ _|refine zd ?_|refine bset' ?_ (by omega) _|refine zb ?_ (by assumption))⟩
theorem zdG(r:Rq)(w:World) :
  Calls Tryz.prog 147 #[r.val] w fun e w'=>e=.returned (.int .i64 r.f)∧Below w.heap.size w w':=by
 go_enter Tryz.func147,Tryz.ntmps147;go_wp2;go_ret;exact⟨rfl,by(with_reducible repeat first|exact Below.refl _ _|refine zc ?_ _|refine zd ?_|refine bset' ?_ (by omega) _|refine zb ?_ (by assumption))⟩
end Go.Proofs.YtlhgjplipgandaaGreat
