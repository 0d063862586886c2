/- Joined texts: RLaw5, RLaw6, RLaw7. -/
import Derived.Test.YtlhgjplipgandaaGreatChecked
import Derived.ProofKit
import Derived.OpenShut
import Derived.Lib.SmallJoins
import Derived.Deep.Slices
import Derived.Deep.Strs
import Derived.Test.YtlhgjplipgandaaGreatB42
set_option maxRecDepth 100000
set_option maxHeartbeats 8000000
set_option linter.unusedSimpArgs false
namespace Go.Proofs.YtlhgjplipgandaaGreat
open Go.RowKit Go.BigFrame Go.Maps
attribute [local go_sem] ze.cell ze.frozen
def qs1:Sk:=(sk0.ask 0 2 3 ⟨#[120]⟩).2
def qs2:Sk:=(qs1.ask 1 1 3 ⟨#[]⟩).2
theorem qs_1:sk0.ask 0 2 3 ⟨#[120]⟩=(0,qs1):=by rw[Prod.ext_iff];exact⟨by decide +kernel,rfl⟩
theorem qs_2:qs1.ask 1 1 3 ⟨#[]⟩=(0,qs2):=by rw[Prod.ext_iff];exact⟨by decide +kernel,rfl⟩
theorem qs_3:(qs2.client 1).got=⟨#[120]⟩:=by decide +kernel
theorem qs_4:(qs2.client 1).err=0:=by decide +kernel
theorem qs_5:zN qs2.hand=1:=by decide +kernel
theorem zr1:Fit 3 qs1:=zeF.ask 0 2 3 ⟨#[120]⟩
def qp1:Sk:=(sk0.ask 0 1 3 ⟨#[]⟩).2
def qp2:Sk:=(qp1.settle 5).2
theorem qp_1:sk0.ask 0 1 3 ⟨#[]⟩=(0,qp1):=by rw[Prod.ext_iff];exact⟨by decide +kernel,rfl⟩
theorem qp_2:qp1.settle 5=(1,qp2):=by rw[Prod.ext_iff];exact⟨by decide +kernel,rfl⟩
theorem qp_3:qp2.quiet=true:=by decide +kernel
theorem zm6:Fit 3 qp1:=zeF.ask 0 1 3 ⟨#[]⟩
theorem zrR:Fit 58 qp2:=zm6.settle 5
theorem zeZ(w:World):Calls Tryz.prog 17 #[.nilIface,.int .i64 0] w fun e w'=>e=.returned (.bool true)∧Below w.heap.size w w':=zdk 0 w (by omega)
theorem zns(w:World):Calls Tryz.prog 5 #[] w fun e w'=>e=.returned (.bool true)∧Below w.heap.size w w':=by
 go_enter Tryz.func5,Tryz.ntmps5;go_wp2_with fail;refine(zg9 _).mono ?_;rintro e w1 ⟨rfl,hd,hb1,-⟩;have HD:=za hd;have HB1:=za hb1;clear hd hb1;go_wp2_with fail;refine(zf4 w w.heap.size w1 HD.out (Nat.le_refl _) HB1.out).mono ?_;rintro e w2 ⟨s,rfl,ho⟩;have HO2:=za ho;clear ho;go_wp2_with fail;refine(zja w w2 s w.heap.size sk0 0 HO2.out zeF (by omega) 0 2 3 ⟨#[120]⟩ 0 qs1 qs_1).mono ?_;rw[show zae 0=.nilIface from rfl];rintro e w3 ⟨rfl,ho⟩;have HO3:=za ho;clear ho;go_wp2_with fail;refine(zja w w3 s w.heap.size qs1 3 HO3.out zr1 (by omega) 1 1 3 ⟨#[]⟩ 0 qs2 qs_2).mono ?_;rw[show zae 0=.nilIface from rfl];rintro e w4 ⟨rfl,ho⟩;have HO4:=za ho;clear ho;go_wp2_with fail;refine(zr5 w w4 s w.heap.size qs2 HO4.out 1 (by omega)).mono ?_;rw[qs_3,qs_4,show zae 0=.nilIface from rfl];rintro e w5 ⟨rfl,hb5⟩;have HO5:=za (HO4.out.later hb5);clear hb5;go_wp2_with fail;refine(zeZ _).mono ?_;rintro e w6 ⟨rfl,hb6⟩;have HO6:=za (HO5.out.later hb6);clear hb6;go_wp2_with fail;refine(zeZ _).mono ?_;rintro e w7 ⟨rfl,hb7⟩;have HO7:=za (HO6.out.later hb7);clear hb7;go_wp2_with fail;refine(zeZ _).mono ?_;rintro e w8 ⟨rfl,hb8⟩;have HO8:=za (HO7.out.later hb8);clear hb8;go_wp2_with fail;refine(zpl w w8 s w.heap.size qs2 HO8.out 1 qs_5).mono ?_;rintro e w9 ⟨rfl,hb9⟩;have HO9:=za (HO8.out.later hb9);clear hb9;go_wp2;go_ret;exact⟨rfl,HO9.out.bel⟩
theorem zo7(w:World):Calls Tryz.prog 12 #[] w fun e w'=>e=.returned (.bool true)∧Below w.heap.size w w':=by
 go_enter Tryz.func12,Tryz.ntmps12;go_wp2_with fail;refine(zg9 _).mono ?_;rintro e w1 ⟨rfl,hd,hb1,-⟩;have HD:=za hd;have HB1:=za hb1;clear hd hb1;go_wp2_with fail;refine(zf4 w w.heap.size w1 HD.out (Nat.le_refl _) HB1.out).mono ?_;rintro e w2 ⟨s,rfl,ho⟩;have HO2:=za ho;clear ho;go_wp2_with fail;refine(zja w w2 s w.heap.size sk0 0 HO2.out zeF (by omega) 0 1 3 ⟨#[]⟩ 0 qp1 qp_1).mono ?_;rw[show zae 0=.nilIface from rfl];rintro e w3 ⟨rfl,ho⟩;have HO3:=za ho;clear ho;go_wp2_with fail;refine(zox w w3 s w.heap.size qp1 3 5 HO3.out zm6 (by omega) 1 qp2 qp_2 true qp_3).mono ?_;rintro e w4 ⟨rfl,ho⟩;have HO4:=za ho;clear ho;go_wp2_with fail;refine(zeZ _).mono ?_;rintro e w6 ⟨rfl,hb6⟩;have HO6:=za (HO4.out.later hb6);clear hb6;go_wp2_with fail;refine(zd7 w w6 s w.heap.size qp2 HO6.out (by have:=zrR.inv.q6;omega) true qp_3).mono ?_;rintro e w7 ⟨rfl,hb7⟩;have HO7:=za (HO6.out.later hb7);clear hb7;go_wp2;go_ret;exact⟨rfl,HO7.out.bel⟩
theorem zgC{l:List Sp}{n:Nat}(h:zeB l n=true):l.length≤n:=by
 simp only[zeB,Bool.and_eq_true,decide_eq_true_eq] at h;exact h.1
theorem zH.anew{k:Nat}{p:Sk}{A:Rs}{w:World}(h:zH k p A w)(h1:p.hand=[])(h2:p.queue=[])(h3:p.dev.busy=[])(h4:∀i,A.ka i=none)(X':Nat→Prop)(hl:∀j,X' j→j<w.heap.size):zH k p { A with X:=X' } w where
 blk:=h.blk
 mem:={
  cl3:=h.mem.cl3
  drv:=h.mem.drv
  tied:=h.mem.tied
  busy:=h.mem.busy
  map:=h.mem.map
  im:=h.mem.im
  nb:=h.mem.nb
  wb:=h.mem.wb
  hand:=h.mem.hand
  hnil:=h.mem.hnil
  hcap:=h.mem.hcap
  queue:=h.mem.queue
  qnil:=h.mem.qnil
  qcap:=h.mem.qcap
  asks:=h.mem.asks
  idle:=h.mem.idle
  sv:=h.mem.sv
  kv:=h.mem.kv
  kk:=h.mem.kk
  hoff:=fun hne=>absurd h1 hne
  qoff:=fun hne=>absurd h2 hne
  roff:=fun r hr=>by rw[h2,h3] at hr;cases hr
  loff:=fun i _ j hj=>by have hj':A.ka i=some j:=hj;rw[h4 i] at hj';cases hj'
  doff:=fun hne=>absurd h3 hne
  xlt:=hl }
theorem zqY{k b2 v bm':Nat}{m:Rd}{ra:Ra}{c B:Nat}(hk:B≤k)(hb:B≤bm')(h2:∀j,ra.foot b2 j→B≤j):∀j,(zgD b2 v bm' m ra c).foot k j→B≤j:=by
 intro j hj
 rcases hj with e|e|⟨i,_,e⟩
 ·omega
 ·rcases e with e|e
  ·have e2:j=bm':=e
   omega
  ·exact h2 j e
 ·cases e
theorem Pr.new{W w w1 w2:World}{s b:Nat}(ho:Own W s b sk0 w)(hb:Below w.heap.size w w1){b2 k v bm':Nat}{m:Rd}{ra:Ra}(hk:zH k sk0 (zgD b2 v bm' m ra 0) w2)(hb2:Below w1.heap.size w1 w2)(h1:w1.heap.size≤k∧w1.heap.size≤v∧w1.heap.size≤bm')(h2:∀j,ra.foot b2 j→w.heap.size≤j):Pr W s k 0 sk0 w2:=by
 obtain⟨p,A,hs,hn,hA,hf,hbel⟩:=ho;have hw:=hb.size;have hf2:=zqY (k:=k) (b2:=b2) (v:=v) (bm':=bm') (m:=m) (ra:=ra) (c:=0) (B:=w.heap.size) (by omega) (by omega) h2;have hbt:Below w.heap.size w w2:=zb hb hb2;have hs2:=hs.later hbt;have hv:A.v<w.heap.size:=zz hs.mem.drv.blk;refine⟨p,sk0,{ A with X:=(zgD b2 v bm' m ra 0).foot k },{ zgD b2 v bm' m ra 0 with X:=A.foot s },⟨?_,hn,rfl,Nat.le_refl _,zeF,zqZ,zrN,zsa,hf,fun j hj=>Nat.le_trans hbel.size (hf2 j hj),zb hbel hbt⟩⟩;exact {
  one:=hs.foreign hs2 _ (fun j hj=>Or.inr (hf2 j hj)) (fun j hj=>hk.footLt j hj)
  two:=hk.anew rfl rfl rfl (fun _=>rfl) _ (fun j hj=>hs2.footLt j hj)
  xa:=rfl
  xb:=rfl
  apart:=fun j hj e=>by have h3:j<w.heap.size:=hs.footLt j hj;have:=hf2 j e;omega
  av:=fun e=>by have h3:w.heap.size≤A.v:=hf2 A.v e;omega
  bv:=fun e=>by have h3:v<w.heap.size:=hs.footLt v e;omega }
theorem zic{W:World}{s k n:Nat}{q:Sk}{w:World}(h:Pr W s k n q w):Calls Tryz.prog 11 #[.pointer (some ⟨s,0,none⟩),.pointer (some ⟨k,0,none⟩)] w fun e w'=>e=.returned (.bool true)∧Pr W s k n q w':=by
 have h':=h;obtain⟨p,p2,A,B,hp⟩:=h;refine(zmc s k q p p2 A B w hp.both hp.n1 hp.n2 hp.f1.inv hp.got).mono ?_;rintro e w' ⟨he,hb⟩;exact⟨he,h'.later hb⟩
theorem stackSays_walk(l:List Sp)(la:Option Addr)(lc:Nat)(w:World)(hl:StepsAt w la l) :
  Calls Tryz.prog 3 #[.slice la l.length lc] w fun e w'=>e=.returned (.bool true)∧Below w.heap.size w w':=by
 have HL:=za hl;clear hl;go_enter Tryz.func3,Tryz.ntmps3;go_wp2_with fail;refine(zns _).mono ?_;rintro e w0 ⟨rfl,hb0⟩;have HB0:=za hb0;clear hb0;go_wp2_with fail
 cases hb:zeB l 120
 ·refine(zd0 l la lc 120 _ (HL.out.later HB0.out) (by omega) false hb).mono ?_;rintro e w1 ⟨rfl,hb1⟩;go_wp2;go_ret;exact⟨rfl,zb HB0.out hb1⟩
 refine(zd0 l la lc 120 _ (HL.out.later HB0.out) (by omega) true hb).mono ?_;rintro e w1 ⟨rfl,hb1⟩;have h120:=zgC hb;have HB1:=za (zb HB0.out hb1);clear hb1 hb HB0;go_wp2_with fail;refine(zg9 _).mono ?_;rintro e w2 ⟨rfl,hd,hb2,-⟩;have HD:=za hd;have HB2:=za (zb HB1.out hb2);have HG:Hid (w.heap.size≤w1.heap.size):=HB1.out.size;clear hd hb2;generalize w1.heap.size=b at *;go_wp2_with fail;refine(zf4 w b w2 HD.out HG.out HB2.out).mono ?_;rintro e w3 ⟨s,rfl,ho⟩;have HO3:=za ho;clear ho HD HB2 HB1;have hzv:∀w',Sem.run Tryz.prog (zeroValue 36) w'=.ok (.agg (m0.cells ra0).toArray) w':=fun _=>rfl;go_wp2_with fail;have HW4:=za (zn w3 (.cells (m0.cells ra0).toArray 36));refine(zgj w3.heap.size d0 m0 ra0 _ (m0_at _ _ (heap_alloc_new w3 _)) zbu.start rfl rfl 0 (Nat.zero_le _)).mono ?_;rintro e w5 ⟨k,v,bm',rfl,hk,hb5,z1,z2,z3⟩;have HP0:Hid (Pr w s k 0 sk0 w5):=Pr.new HO3.out HW4.out hk hb5 ⟨z1,z2,z3⟩ (fun j hj=>by have e9:=zlo hj;omega);clear hk hb5 z1 z2 z3 HW4 HO3 hzv;go_wp2
 go_loopw[6] (fun i wr=>∃(j:Nat) (q:Sk),j≤l.length∧i=.int .i64 j∧Pr w s k (22*j) q wr) (fun i _=>l.length-(intOf i).toNat)
 case atStart=>exact⟨0,sk0,by omega,rfl,HP0.out⟩
 case round =>
  clear HP0;obtain⟨j,q,hj,rfl,hp⟩:=hrel;have HP:=za hp;have HBr:=hp.bel;clear hp
  by_cases hlt:j<l.length
  ·have hlt':(j:Int)<(l.length:Int):=by omega
   have hj0:(0:Int)≤(j:Int):=by omega
   rcases HL.out.form with rfl|⟨bl,ol,rfl⟩
   ·exact absurd hlt (Nat.not_lt_zero _)
   obtain⟨c0,c1,c2,c3⟩:=(HL.out.later HBr).cells hlt;generalize hx:l[j]=x at *;clear hx;obtain⟨wd,xa,xb,dt⟩:=x
   by_cases h1:wd=zgr
   ·subst h1;unfold zgr at c0;go_wp2;go_roundw
    case rel=>exact⟨j+1,q,by omega,by go_num,HP.out.mono (by omega)⟩
    case measure=>simp[intOf];omega
   by_cases h2:wd=zdR
   ·subst h2;unfold zdR at c0;go_wp2;go_roundw
    case rel=>exact⟨j+1,q,by omega,by go_num,HP.out.mono (by omega)⟩
    case measure=>simp[intOf];omega
   have g9:(wd.toList==[114,111,117,110,100])=false:=zbV _ h1;have g10:(wd.toList==[115,101,116,116,108,101])=false:=zbV _ h2;have HST:=za (zhu w s k (22*j) q wr HP.out (by omega) ⟨wd,xa,xb,dt⟩);rw[show(if(⟨wd,xa,xb,dt⟩:Sp).word=zdR then 4400 else 22)=22 from if_neg h2] at HST;clear h1 h2;go_wp2_with fail;refine HST.out.mono ?_;rintro e w4 ⟨rfl,q',hp4⟩;have HP4:=za hp4;clear hp4 HST HP;go_wp2_with fail;refine(zic HP4.out).mono ?_;rintro e w5 ⟨rfl,hp5⟩;have HP5:=za hp5;clear hp5 HP4;go_wp2;go_roundw
   case rel=>exact⟨j+1,q',by omega,by go_num,HP5.out.mono (by omega)⟩
   case measure=>simp[intOf];omega
  ·go_wp2;go_ret;exact⟨rfl,HBr⟩
theorem zri{W:World}{s k n:Nat}{q:Sk}{w:World}(h:Pr W s k n q w)(t:Bool)(ht:q.quiet=t):Calls Tryz.prog 13 #[.pointer (some ⟨s,0,none⟩)] w fun e w'=>e=.returned (.bool t)∧Pr W s k n q w':=by
 have h':=h;obtain⟨p,p2,A,B,hp⟩:=h;refine(zed ⟨p,A,w⟩ w s A.b q ⟨p,A,zG.same' hp.both.one (Below.refl _ _),hp.n1,rfl⟩ (by have:=hp.f1.inv.q6;omega) t ht).mono ?_;rintro e w' ⟨he,hb⟩;exact⟨he,h'.later hb⟩
theorem zp5{W:World}{s k n:Nat}{q:Sk}{w:World}(h:Pr W s k n q w)(t:Bool)(ht:q.quiet=t):Calls Tryz.prog 14 #[.pointer (some ⟨k,0,none⟩)] w fun e w'=>e=.returned (.bool t)∧Pr W s k n q w':=by
 have h':=h;obtain⟨p,p2,A,B,hp⟩:=h;refine(zij k p2 B w hp.both.two t (by rw[hp.n2];exact ht)).mono ?_;rintro e w' ⟨he,rfl⟩;exact⟨he,h'⟩
theorem pumpSays_walk(l:List Sp)(la:Option Addr)(lc:Nat)(w:World)(hl:StepsAt w la l) :
  Calls Tryz.prog 4 #[.slice la l.length lc] w fun e w'=>e=.returned (.bool true)∧Below w.heap.size w w':=by
 have HL:=za hl;clear hl;go_enter Tryz.func4,Tryz.ntmps4;go_wp2_with fail;refine(zo7 _).mono ?_;rintro e w0 ⟨rfl,hb0⟩;have HB0:=za hb0;clear hb0;go_wp2_with fail
 cases hb:zeB l 80
 ·refine(zd0 l la lc 80 _ (HL.out.later HB0.out) (by omega) false hb).mono ?_;rintro e w1 ⟨rfl,hb1⟩;go_wp2;go_ret;exact⟨rfl,zb HB0.out hb1⟩
 refine(zd0 l la lc 80 _ (HL.out.later HB0.out) (by omega) true hb).mono ?_;rintro e w1 ⟨rfl,hb1⟩;have h120:=zgC hb;have HB1:=za (zb HB0.out hb1);clear hb1 hb HB0;go_wp2_with fail;refine(zg9 _).mono ?_;rintro e w2 ⟨rfl,hd,hb2,-⟩;have HD:=za hd;have HB2:=za (zb HB1.out hb2);have HG:Hid (w.heap.size≤w1.heap.size):=HB1.out.size;clear hd hb2;generalize w1.heap.size=b at *;go_wp2_with fail;refine(zf4 w b w2 HD.out HG.out HB2.out).mono ?_;rintro e w3 ⟨s,rfl,ho⟩;have HO3:=za ho;clear ho HD HB2 HB1;have hzv:∀w',Sem.run Tryz.prog (zeroValue 36) w'=.ok (.agg (m0.cells ra0).toArray) w':=fun _=>rfl;go_wp2_with fail;have HW4:=za (zn w3 (.cells (m0.cells ra0).toArray 36));refine(zgj w3.heap.size d0 m0 ra0 _ (m0_at _ _ (heap_alloc_new w3 _)) zbu.start rfl rfl 0 (Nat.zero_le _)).mono ?_;rintro e w5 ⟨k,v,bm',rfl,hk,hb5,z1,z2,z3⟩;have HP0:Hid (Pr w s k 0 sk0 w5):=Pr.new HO3.out HW4.out hk hb5 ⟨z1,z2,z3⟩ (fun j hj=>by have e9:=zlo hj;omega);clear hk hb5 z1 z2 z3 HW4 HO3 hzv;go_wp2
 go_loopw[6] (fun i wr=>∃(j:Nat) (q:Sk),j≤l.length∧i=.int .i64 j∧Pr w s k (4400*j) q wr) (fun i _=>l.length-(intOf i).toNat)
 case atStart=>exact⟨0,sk0,by omega,rfl,HP0.out⟩
 case round =>
  clear HP0;obtain⟨j,q,hj,rfl,hp⟩:=hrel;have HP:=za hp;have HBr:=hp.bel;clear hp
  by_cases hlt:j<l.length
  ·have hlt':(j:Int)<(l.length:Int):=by omega
   have hj0:(0:Int)≤(j:Int):=by omega
   rcases HL.out.form with rfl|⟨bl,ol,rfl⟩
   ·exact absurd hlt (Nat.not_lt_zero _)
   obtain⟨c0,c1,c2,c3⟩:=(HL.out.later HBr).cells hlt;generalize hx:l[j]=x at *;clear hx;obtain⟨wd,xa,xb,dt⟩:=x;have HST:Hid (Calls Tryz.prog 10 #[.pointer (some ⟨s,0,none⟩),.pointer (some ⟨k,0,none⟩),.agg #[.string wd,.int .i64 xa,.int .i64 xb,.string dt]] wr (zbQ w s k (4400*j+4400))):=(zhu w s k (4400*j) q wr HP.out (by omega) ⟨wd,xa,xb,dt⟩).mono (fun e w' ⟨he,q',hq⟩=>⟨he,q',hq.mono (by split<;>omega)⟩);go_wp2_with fail;refine HST.out.mono ?_;rintro e w4 ⟨rfl,q',hp4⟩;have HP4:=za hp4;clear hp4 HST HP;obtain⟨t,ht⟩:∃t,q'.quiet=t:=⟨_,rfl⟩
   have HT:=za ht;clear ht;go_wp2_with fail;refine(zic HP4.out).mono ?_;rintro e w5 ⟨rfl,hp5⟩;have HP5:=za hp5;clear hp5 HP4;go_wp2_with fail;refine(zri HP5.out t HT.out).mono ?_;rintro e w6 ⟨rfl,hp6⟩;have HP6:=za hp6;clear hp6 HP5;go_wp2_with fail;refine(zp5 HP6.out t HT.out).mono ?_;rintro e w7 ⟨rfl,hp7⟩;have HP7:=za hp7;have htn:(t != t)=false:=by simp
   clear hp7 HP6;go_wp2;go_roundw
   case rel=>exact⟨j+1,q',by omega,by go_num,HP7.out.mono (by omega)⟩
   case measure=>simp[intOf];omega
  ·go_wp2;go_ret;exact⟨rfl,HBr⟩
end Go.Proofs.YtlhgjplipgandaaGreat
namespace Go.Proofs.YtlhgjplipgandaaGreat
open Go.ChangeShapes Go.WideShapes Go.RowKit
theorem own:ownKnob Tryz.prog.godebug=none:=by kernel_rfl
theorem laidOut:laidOutB Tryz.prog=true:=by kernel_rfl
theorem in64{n:Int}(h:(Lit.int .i64 n).wf=true):zaj n:=bounds_i64 h
section
variable{H:Type}{enc:TypeId × Value→H}{W:World}{base b0:Nat}{spare:Nat→Bool}{held:Bool}{r:Reach}{v:Value}{d:DataW H}{p:List MemPlace}
end
end Go.Proofs.YtlhgjplipgandaaGreat
namespace Go.Proofs.YtlhgjplipgandaaGreat
open Go.ChangeShapes Go.WideShapes Go.RowKit Go.Deep
theorem zkR:Tryz.prog.cellsOf 3=1:=by kernel_rfl
theorem zld:Tryz.prog.cellsOf 9=1:=by kernel_rfl
theorem zoD(b o i:Nat):(Addr.add ⟨b,o,none⟩ i)=⟨b,o+i,none⟩:=by
 unfold Addr.add;split
 ·rename_i h;subst h;rfl
 ·rfl
section
variable{H:Type}{enc:TypeId × Value→H}{W:World}{base b0 fuel:Nat}{spare:Nat→Bool}{held:Bool}{r:Reach}{v:Value}{d:DataW H}{p:List MemPlace}{x:DataW H × List MemPlace}{cs:List Value}
theorem zg0{fs:Array Field}{xs:List (DataW H × List MemPlace)}{n:Nat}(hf:∀(i:Nat) (f:Field),fs[i]?=some f→DataW.trod enc Tryz.prog W base spare held n f.type ((cs.drop f.offset).take (Tryz.prog.cellsOf f.type))=xs[i]?)
  (i T o c:Nat) (h:(fs[i]?).map (fun f=>(f.type,f.offset))=some (T,o)) (hc:Tryz.prog.cellsOf T=c) (hi:i<xs.length):∃y,DataW.trod enc Tryz.prog W base spare held n T ((cs.drop o).take c)=some y:=by
 cases e:fs[i]? with
 |none=>rw[e] at h;cases h
 |some f =>
  rw[e] at h;simp only[Option.map_some,Option.some.injEq,Prod.mk.injEq] at h;obtain⟨rfl,rfl⟩:=h;subst hc;exact⟨_,(hf i f e).trans (List.getElem?_eq_getElem hi)⟩
theorem six{cs:List Value}(h:cs.length=6):∃a b c d e f,cs=[a,b,c,d,e,f]:=by
 match cs,h with
 |[a,b,c,d,e,f],_=>exact⟨a,b,c,d,e,f,rfl⟩
end
theorem zjp:Tryz.prog.cellsOf 38=4:=by kernel_rfl
def StepsIn(l:List Sp):Prop:=∀x∈l,zaj x.a∧zaj x.b
section
variable{H:Type}{enc:TypeId × Value→H}{W:World}{base b0 fuel:Nat}{spare:Nat→Bool}{held:Bool}{r:Reach}{v:Value}{d:DataW H}{p:List MemPlace}{x:DataW H × List MemPlace}{cs:List Value}
theorem four4{cs:List Value}(h:cs.length=4):∃a b c d,cs=[a,b,c,d]:=by
 match cs,h with
 |[a,b,c,d],_=>exact⟨a,b,c,d,rfl⟩
theorem zj9(h:DataW.trod enc Tryz.prog W base spare held fuel 38 cs=some x):∃q:Sp,cs=[q.cell 0,q.cell 1,q.cell 2,q.cell 3]∧zaj q.a∧zaj q.b:=by
 obtain⟨xs,n,_,_,hl,hlen,hf⟩:=DataW.trod_struct Tryz.underlying38 h;rw[zjp] at hl;obtain⟨v0,v1,v2,v3,rfl⟩:=four4 hl;have hlen':xs.length=4:=hlen;obtain⟨y0,f0⟩:=zg0 hf 0 9 0 1 rfl zld (by omega);obtain⟨y1,f1⟩:=zg0 hf 1 3 1 1 rfl zkR (by omega);obtain⟨y2,f2⟩:=zg0 hf 2 3 2 1 rfl zkR (by omega);obtain⟨y3,f3⟩:=zg0 hf 3 9 3 1 rfl zld (by omega);obtain⟨s,g0,_⟩:=DataW.trod_string Tryz.underlying9 f0;obtain⟨n1,g1,_,w1⟩:=DataW.trod_int Tryz.underlying3 f1;obtain⟨n2,g2,_,w2⟩:=DataW.trod_int Tryz.underlying3 f2;obtain⟨t,g3,_⟩:=DataW.trod_string Tryz.underlying9 f3;simp only[List.drop,List.take,List.cons.injEq,and_true] at g0 g1 g2 g3;subst g0 g1 g2 g3;exact⟨⟨s,n1,n2,t⟩,rfl,in64 w1,in64 w2⟩
theorem openSteps(hv:Value.okWide Tryz.prog W r b0 22 v)(h:DataW.Trod enc Tryz.prog W base spare held 22 v d p):∃(l:List Sp) (a:Option Addr) (c:Nat),v=.slice a l.length c∧StepsAt W a l∧StepsIn l:=by
 obtain⟨a,len,cap,rfl⟩:=okWide_slice Tryz.underlying22 hv;obtain⟨fuel,hf⟩:=h
 rcases open_slice Tryz.underlying22 hf with⟨hcs,_⟩|⟨a',len',cap',m,n,D,Pl,hcs,_,hl,hm,hmm,_,hel⟩
 ·simp[Value.cells] at hcs
  obtain⟨rfl,rfl,rfl⟩:=hcs;exact⟨[],none,0,rfl,⟨Or.inl rfl,by simp⟩,fun x hx=>by cases hx⟩
 ·simp[Value.cells] at hcs
  obtain⟨rfl,rfl,rfl⟩:=hcs;have hlm:len≤m:=by rw[hmm];split<;>omega
  rw[zjp] at hel;have each:∀i,i<len→∃q:Sp,(∀j,j<4→W.cell? ((a'.add (i*4)).add j)=some (q.cell j))∧zaj q.a∧zaj q.b:=by
   intro i hi;obtain⟨cs,h1,h2⟩:=hel i (by omega);obtain⟨q,hq,hat⟩:=zj9 h2;obtain⟨_,_,h3⟩:=World.cells?_some h1;refine⟨q,fun j hj=>?_,hat⟩;rw[h3 j hj,hq]
   match j,hj with
   |0,_=>rfl
   |1,_=>rfl
   |2,_=>rfl
   |3,_=>rfl
  have inh:Inhabited Sp:=⟨⟨ByteArray.empty,0,0,ByteArray.empty⟩⟩
  obtain⟨Q,hQ⟩:=choose_lt each;have hm':cap≤9223372036854775807:=by unfold maxLen at hm;omega
  refine⟨(List.range len).map Q,some a',cap,by simp,⟨?_,by simp;omega⟩,?_⟩
  ·rcases Nat.eq_zero_or_pos len with rfl|hp
   ·exact Or.inl rfl
   ·right
    have e:a'=⟨a'.block,a'.off,none⟩:=by
     have h0:=(hQ 0 hp).1 0 (by omega);rw[Nat.zero_mul] at h0;have h1:a'.spot=none:=by simpa [Addr.add] using World.cell?_spot h0
     cases a';simp_all
    refine⟨a'.block,a'.off,by rw[←e],fun i hi j hj=>?_⟩;simp only[List.length_map,List.length_range] at hi;have:=(hQ i hi).1 j hj;rw[e,zoD,zoD] at this;rw[this];simp
  ·intro q hq;simp only[List.mem_map,List.mem_range] at hq;obtain⟨i,hi,rfl⟩:=hq;exact(hQ i hi).2
end
end Go.Proofs.YtlhgjplipgandaaGreat
