/- Joined texts: CacheN, Stk1, RDev1. -/
import Derived.Deep.RegionHeld3
import Derived.Test.YtlhgjplipgandaaGreatB20
set_option maxRecDepth 100000
set_option maxHeartbeats 8000000
set_option linter.unusedSimpArgs false
namespace Go.Proofs.YtlhgjplipgandaaGreat
open Go.RowKit Go.BigFrame
attribute [local go_sem] ze.cell ze.frozen
def zdV(base:Nat)(a:Option Addr):Prop:=∀p,a=some p→base≤p.block
theorem zaN.newA{base:Nat}{w:World}{a:Option Addr}{c:Nat}{l:List Bf}(h:zaN base w a c l):zdV base a:=fun p e=>(h.own.lt p.block (by rw[e];rfl)).1
theorem zg3{base b o:Nat}(h:base≤b):zdV base (some ⟨b,o,none⟩):=fun p e=>by simp only[Option.some.injEq] at e;subst e;exact h
theorem zdV.mono{base base':Nat}{a:Option Addr}(h:zdV base a)(hb:base'≤base):zdV base' a:=fun p e=>Nat.le_trans hb (h p e)
theorem cleanN(l:List Bf)(a:Option Addr)(c:Nat)(at':Int)(data:ByteArray)(w:World)(hl:zB w a l)(hn:a=none→c=0)(h10:l.length≤1000)(ho:zeY l) :
  Calls Tryz.prog 99 #[.slice a l.length c,.int .i64 at',.string data] w fun e w'=>∃a' c',e=.returned (.slice a' l.length c')∧zB w' a' (cleanL l at' data)∧l.length≤c'∧zdV w.heap.size a'∧(a'=none→c'=0)∧Below w.heap.size w w':=by
 have HO:=zk ho;clear ho
 rcases zbi (plB at') l with⟨h,_⟩|⟨k,hk,h,_,_⟩
 ·have HC:=zk (zqq (data:=data) h);go_enter Tryz.func99,Tryz.ntmps99;go_wp2_with fail;refine(zbU l a c _ hl hn (by omega)).mono ?_;rintro e w1 ⟨a',c',rfl,hN,hb1⟩;go_wp2_with fail;refine(zbW l a' c' at' _ hN.here _ h).mono ?_;rintro e w2 ⟨rfl,hb2⟩;have R:=hN.here.later hb2;have cp:=hN.cap;have nw:=hN.newA;have nn:=hN.nil;clear hN h;go_wp2;go_ret;exact⟨a',c',rfl,by rw[HC.out];exact R,cp,nw,nn,zb hb1 hb2⟩
 ·have h0:l ≠ []:=by rintro rfl;exact absurd hk (Nat.not_lt_zero _)
  have H0:=zk h0;clear h0
  by_cases hd:l[k].data=data
  ·have HC:=zk (zpI hk HO.out h hd);have hs:=zne hd;go_enter Tryz.func99,Tryz.ntmps99;go_wp2_with fail;refine(zbU l a c _ hl hn (by omega)).mono ?_;rintro e w1 ⟨a',c',rfl,hN,hb1⟩;obtain⟨b,rfl,hbb,hlt,hfz⟩:=hN.place H0.out;go_wp2_with fail;refine(zbW l _ c' at' _ hN.here _ h).mono ?_;rintro e w2 ⟨rfl,hb2⟩;have R:=hN.here.later hb2;have cp:=hN.cap;have hf2:w2.frozen? ⟨b,0+k*4+2,none⟩=false:=by rw[hb2.frozen (p:=⟨b,0+k*4+2,none⟩) hlt];exact hfz _
   obtain⟨c0,c1,c2,c3⟩:=R.cells hk;rw[Nat.zero_add] at c0 c1 c2 c3 hf2;clear hN h hfz hd;have HB2:=zb hb1 hb2;go_wp2;go_ret;refine⟨_,c',rfl,?_,cp,zg3 hbb,by simp,by(with_reducible repeat first|exact Below.refl _ _|refine zc ?_ _|refine zd ?_|refine bset' ?_ (by omega) _|refine zb ?_ (by assumption))⟩;rw[HC.out];have:=R.set hk 2 (by omega) { l[k] with dirty:=false } (.bool false) rfl (fun i hi hne=>by match i,hi,hne with|0,_,_=>rfl|1,_,_=>rfl|3,_,_=>rfl);rw[Nat.zero_add] at this;exact this
  ·have HC:=zk (zl7 hk HO.out h hd);have hs:=zm0 hd;go_enter Tryz.func99,Tryz.ntmps99;go_wp2_with fail;refine(zbU l a c _ hl hn (by omega)).mono ?_;rintro e w1 ⟨a',c',rfl,hN,hb1⟩;obtain⟨b,rfl,hbb,hlt,hfz⟩:=hN.place H0.out;go_wp2_with fail;refine(zbW l _ c' at' _ hN.here _ h).mono ?_;rintro e w2 ⟨rfl,hb2⟩;have R:=hN.here.later hb2;have cp:=hN.cap;obtain⟨c0,c1,c2,c3⟩:=R.cells hk;rw[Nat.zero_add] at c0 c1 c2 c3;clear hN h hfz hd;go_wp2;go_ret;exact⟨_,c',rfl,by rw[HC.out];exact R,cp,zg3 hbb,by simp,zb hb1 hb2⟩
theorem useN(l:List Bf)(a:Option Addr)(c:Nat)(at' now:Int)(w:World)(hl:zB w a l)(hn:a=none→c=0)(h10:l.length≤1000)(ho:zeY l) :
  Calls Tryz.prog 105 #[.slice a l.length c,.int .i64 at',.int .i64 now] w fun e w'=>∃a' c',e=.returned (.slice a' l.length c')∧zB w' a' (useL l at' now)∧l.length≤c'∧zdV w.heap.size a'∧(a'=none→c'=0)∧Below w.heap.size w w':=by
 have HO:=zk ho;clear ho
 rcases zbi (plB at') l with⟨h,_⟩|⟨k,hk,h,_,_⟩
 ·have HC:=zk (use_no (now:=now) h);go_enter Tryz.func105,Tryz.ntmps105;go_wp2_with fail;refine(zbU l a c _ hl hn (by omega)).mono ?_;rintro e w1 ⟨a',c',rfl,hN,hb1⟩;go_wp2_with fail;refine(zbW l a' c' at' _ hN.here _ h).mono ?_;rintro e w2 ⟨rfl,hb2⟩;have R:=hN.here.later hb2;have cp:=hN.cap;have nw:=hN.newA;have nn:=hN.nil;clear hN h;go_wp2;go_ret;exact⟨a',c',rfl,by rw[HC.out];exact R,cp,nw,nn,zb hb1 hb2⟩
 ·have h0:l ≠ []:=by rintro rfl;exact absurd hk (Nat.not_lt_zero _)
  have H0:=zk h0;clear h0;have HC:=zk (zrX (now:=now) hk HO.out h);go_enter Tryz.func105,Tryz.ntmps105;go_wp2_with fail;refine(zbU l a c _ hl hn (by omega)).mono ?_;rintro e w1 ⟨a',c',rfl,hN,hb1⟩;obtain⟨b,rfl,hbb,hlt,hfz⟩:=hN.place H0.out;go_wp2_with fail;refine(zbW l _ c' at' _ hN.here _ h).mono ?_;rintro e w2 ⟨rfl,hb2⟩;have R:=hN.here.later hb2;have cp:=hN.cap;have hf2:w2.frozen? ⟨b,0+k*4+3,none⟩=false:=by rw[hb2.frozen (p:=⟨b,0+k*4+3,none⟩) hlt];exact hfz _
  obtain⟨c0,c1,c2,c3⟩:=R.cells hk;rw[Nat.zero_add] at c0 c1 c2 c3 hf2;clear hN h hfz;have HB2:=zb hb1 hb2;go_wp2;go_ret;refine⟨_,c',rfl,?_,cp,zg3 hbb,by simp,by(with_reducible repeat first|exact Below.refl _ _|refine zc ?_ _|refine zd ?_|refine bset' ?_ (by omega) _|refine zb ?_ (by assumption))⟩;rw[HC.out];have:=R.set hk 3 (by omega) { l[k] with used:=now } (.int .i64 now) rfl (fun i hi hne=>by rcases(show i=0∨i=1∨i=2 by omega) with rfl|rfl|rfl<;>rfl);rw[Nat.zero_add] at this;exact this
theorem zoH(gh:Nat)(hc:Array Value)(l:List Bf)(a:Option Addr)(c:Nat)(x:Bf)(w:World)(hl:zB w a l)(hn:a=none→c=0)(h8:l.length<8)(hi:zap (plB x.pl) l=-1) :
  Calls Tryz.prog 107 #[.slice a l.length c,x.val,.func (.func gh) #[] hc] w fun e w'=>∃a' c',e=.returned (.tuple #[.slice a' (l.length+1) c',.nilIface])∧zB w' a' (zcL l x)∧l.length+1≤c'∧zdV w.heap.size a'∧(a'=none→c'=0)∧Below w.heap.size w w':=by
 have HI:=zk hi;clear hi;have b0:=zn w (.cells #[.int .i64 x.pl,.string x.data,.bool x.dirty,.int .i64 x.used] 97);go_enter Tryz.func107,Tryz.ntmps107;go_wp2_with fail;refine(zbU l a c _ (hl.later b0) hn (by omega)).mono ?_;rintro e w1 ⟨a1,c1,rfl,hN,hb1⟩;have F1:zbh w1 w.heap.size x:=zbh.later ⟨by simp,by simp,by simp,by simp⟩ hb1;have HB1:Below w.heap.size w w1:=zb b0 hb1;have z1:w.heap.size+1≤w1.heap.size:=by have:=hb1.size;simpa using this
 have hN1:zaN (w.heap.size+1) w1 a1 c1 l:=by simpa using hN
 clear hN hb1 b0;obtain⟨p0,p1,p2,p3⟩:=id F1;go_wp2_with fail;refine(zbW l a1 c1 x.pl _ hN1.here _ HI.out).mono ?_;rintro e w2 ⟨rfl,hb2⟩;have F2:=F1.later hb2;have HB2:=zb HB1 hb2;have z2:w.heap.size+1≤w2.heap.size:=Nat.le_trans z1 hb2.size;have hN2:=hN1.later hb2;clear hb2 HB1 F1 p0 p1 p2 p3 hN1 z1;obtain⟨p0,p1,p2,p3⟩:=id F2;have h8':¬(8:Int)≤(l.length:Int):=by omega
 rcases zm4 x.pl l with⟨hg,hgl⟩|⟨hg,hgl⟩
 all_goals
  have HG:=zk hg;have HGL:=zk hgl;clear hg hgl;go_wp2_with fail;refine(zjq x w.heap.size l a1 c1 _ hN2.here F2 _ HG.out).mono ?_;rintro e w3 ⟨rfl,hb3⟩;have F3:=F2.later hb3;have HB3:=zb HB2 hb3;have z3:w.heap.size+1≤w3.heap.size:=Nat.le_trans z2 hb3.size;have hN3:=hN2.later hb3;clear hb3 HB2 F2 p0 p1 p2 p3 hN2 z2;obtain⟨p0,p1,p2,p3⟩:=id F3;go_wp2_with fail;refine(insP l a1 c1 (w.heap.size+1) _ x w3 (by first|exact Nat.le_refl _|exact zi6 _ _) (by omega) z3 hN3).mono ?_;rintro e w4 ⟨a4,c4,rfl,hN4,hb4,cp⟩;have HB4:Below w.heap.size w w4:=HB3.trans (hb4.mono (by omega));have R:=hN4.here;have nw:=hN4.newA.mono (base':=w.heap.size) (by omega);have nn:=hN4.nil
  (try rw[←HGL.out] at R)
  go_wp2
  go_ret2
  refine⟨a4,c4,rfl,R,cp,nw,nn,HB4⟩
theorem zoF(gh:Nat)(hc:Array Value)(l:List Bf)(a:Option Addr)(c:Nat)(x:Bf)(w:World)(hl:zB w a l)(hn:a=none→c=0)(h8:l.length≤8)(k:Nat)(hk:k<l.length)(hi:zap (plB x.pl) l=k) :
  Calls Tryz.prog 107 #[.slice a l.length c,x.val,.func (.func gh) #[] hc] w fun e w'=>∃a' c',e=.returned (.tuple #[.slice a' l.length c',.nilIface])∧zB w' a' (l.set k x)∧l.length≤c'∧zdV w.heap.size a'∧(a'=none→c'=0)∧Below w.heap.size w w':=by
 have HI:=zk hi;clear hi;have h0:l ≠ []:=by rintro rfl;exact absurd hk (Nat.not_lt_zero _)
 have H0:=zk h0;clear h0;have b0:=zn w (.cells #[.int .i64 x.pl,.string x.data,.bool x.dirty,.int .i64 x.used] 97);go_enter Tryz.func107,Tryz.ntmps107;go_wp2_with fail;refine(zbU l a c _ (hl.later b0) hn (by omega)).mono ?_;rintro e w1 ⟨a1,c1,rfl,hN,hb1⟩;have F1:zbh w1 w.heap.size x:=zbh.later ⟨by simp,by simp,by simp,by simp⟩ hb1;have HB1:Below w.heap.size w w1:=zb b0 hb1;have hN1:zaN (w.heap.size+1) w1 a1 c1 l:=by simpa using hN
 clear hN hb1 b0;obtain⟨b1,rfl,hbb,hlt,hfz⟩:=hN1.place H0.out;obtain⟨p0,p1,p2,p3⟩:=id F1;go_wp2_with fail;refine(zbW l _ c1 x.pl _ hN1.here _ HI.out).mono ?_;rintro e w2 ⟨rfl,hb2⟩;have F2:=F1.later hb2;have HB2:=zb HB1 hb2;have hN2:=hN1.later hb2;have hl2:b1<w2.heap.size:=hN2.lt b1 rfl;have ff:∀o,w2.frozen? ⟨b1,o,none⟩=false:=fun o=>by rw[hb2.frozen (p:=⟨b1,o,none⟩) hlt];exact hfz o
 clear hb2 HB1 F1 p0 p1 p2 p3 hN1 hlt hfz;obtain⟨p0,p1,p2,p3⟩:=id F2;have R:=hN2.here;have cp:=hN2.cap;obtain⟨c0,c1',c2,c3⟩:=R.cells hk;have f0:=ff (k*4);have f1:=ff (k*4+1);have f2:=ff (k*4+2);have f3:=ff (k*4+3);rw[Nat.zero_add] at c0 c1' c2 c3;clear ff hN2 F2;have HR:=zk R;clear R;have nb:b1 ≠ w.heap.size:=by omega
 go_wp2
 go_ret2
 refine⟨_,c1,rfl,HR.out.set4 hk x,cp,zg3 (by omega),by simp,by(with_reducible repeat first|exact Below.refl _ _|refine zc ?_ _|refine zd ?_|refine bset' ?_ (by omega) _|refine zb ?_ (by assumption))⟩
theorem zqf(gh:Nat)(egh:∀args w,(callFunc gh args).run Tryz.prog w=.ok (.enter gh args) w)(hc:Array Value)(H:Int→Bool)(l:List Bf)(a:Option Addr)(c:Nat)(x:Bf)(w:World)(hl:zB w a l)(hn:a=none→c=0)(h8:l.length=8)(hi:zap (plB x.pl) l=-1)
  (hh:∀n w',Below w.heap.size w w'→Calls Tryz.prog gh (#[.int .i64 n]++hc) w' fun e w''=>e=.returned (.bool (H n))∧Below w'.heap.size w' w'') (k:Nat) (hk:k<l.length) (hr:zab (zaw false H) l l.length=k) :
  Calls Tryz.prog 107 #[.slice a l.length c,x.val,.func (.func gh) #[] hc] w fun e w'=>∃a' c',e=.returned (.tuple #[.slice a' l.length c',.nilIface])∧zB w' a' (zcL (l.eraseIdx k) x)∧l.length≤c'∧zdV w.heap.size a'∧(a'=none→c'=0)∧Below w.heap.size w w':=by
 have HI:=zk hi;have HH:=zk hh;have HR:=zk hr;have H8:=zk h8;have h8':(8:Int)≤(l.length:Int):=by omega
 have h0:l ≠ []:=by rintro rfl;exact absurd hk (Nat.not_lt_zero _)
 have H0:=zk h0;have hel:(l.eraseIdx k).length=l.length-1:=by rw[List.length_eraseIdx,if_pos hk]
 have HEL:=zk hel;have hwr:IntKind.i64.wrap ((k:Int)+1)=(k:Int)+1:=by rw[IntKind.wrap_i64];omega
 clear hi hh hr h8 h0 hel;obtain⟨L,hL⟩:∃L,L=l.eraseIdx k:=⟨_,rfl⟩
 have HL:=zk hL;have hLn:l.length=L.length+1:=by rw[hL,HEL.out];omega
 have HLN:=zk hLn;rw[←hL];clear hL hLn;have b0:=zn w (.cells #[.int .i64 x.pl,.string x.data,.bool x.dirty,.int .i64 x.used] 97);go_enter Tryz.func107,Tryz.ntmps107;go_wp2_with fail;refine(zbU l a c _ (hl.later b0) hn (by have:=H8.out;omega)).mono ?_;rintro e w1 ⟨a1,c1,rfl,hN,hb1⟩;have F1:zbh w1 w.heap.size x:=zbh.later ⟨by simp,by simp,by simp,by simp⟩ hb1;have HB1:Below w.heap.size w w1:=zb b0 hb1;have z1:w.heap.size+1≤w1.heap.size:=by have:=hb1.size;simpa using this
 have hN1:zaN (w.heap.size+1) w1 a1 c1 l:=by simpa using hN
 clear hN hb1 b0;obtain⟨b1,rfl,hbb,hlt,hfz⟩:=hN1.place H0.out;obtain⟨p0,p1,p2,p3⟩:=id F1;go_wp2_with fail;refine(zbW l _ c1 x.pl _ hN1.here _ HI.out).mono ?_;rintro e w2 ⟨rfl,hb2⟩;have F2:=F1.later hb2;have HB2:=zb HB1 hb2;have z2:w.heap.size+1≤w2.heap.size:=Nat.le_trans z1 hb2.size;have hN2:=hN1.later hb2;clear hb2 HB1 F1 p0 p1 p2 p3 hN1 z1 hlt hfz;go_wp2_with fail;refine(zda false gh egh hc H l _ c1 _ hN2.here (fun n w' hb=>HH.out n w' (zb HB2 hb)) _ HR.out).mono ?_;rintro e w3 ⟨rfl,hb3⟩;have F3:=F2.later hb3;have HB3:=zb HB2 hb3;have z3:w.heap.size+1≤w3.heap.size:=Nat.le_trans z2 hb3.size;have hN3:=hN2.later hb3;clear hb3 HB2 F2 hN2 z2;go_wp2_with fail;refine(delB l b1 c1 k (w.heap.size+1) _ hk hN3).mono ?_;rintro e w4 ⟨rfl,hN4,hb4⟩;have F4:=F3.below hb4 (by omega);have HB4:Below w.heap.size w w4:=HB3.trans (hb4.mono (by omega));have z4:w.heap.size+1≤w4.heap.size:=Nat.le_trans z3 hb4.size;rw[←HL.out] at hN4;rw[show l.length-1=L.length by have:=HLN.out;omega];clear hb4 HB3 F3 hN3 z3
 rcases zm4 x.pl L with⟨hg,hgl⟩|⟨hg,hgl⟩
 all_goals
  have HG:=zk hg;have HGL:=zk hgl;clear hg hgl;obtain⟨p0,p1,p2,p3⟩:=id F4;go_wp2_with fail;refine(zjq x w.heap.size L _ c1 _ hN4.here F4 _ HG.out).mono ?_;rintro e w5 ⟨rfl,hb5⟩;have F5:=F4.later hb5;have HB5:=zb HB4 hb5;have z5:w.heap.size+1≤w5.heap.size:=Nat.le_trans z4 hb5.size;have hN5:=hN4.later hb5;clear hb5 HB4 F4 p0 p1 p2 p3 hN4 z4;obtain⟨p0,p1,p2,p3⟩:=id F5;go_wp2_with fail;refine(insP L _ c1 (w.heap.size+1) _ x w5 (by first|exact Nat.le_refl _|exact zi6 _ _) (by have:=H8.out;have:=HLN.out;omega) z5 hN5).mono ?_;rintro e w6 ⟨a6,c6,rfl,hN6,hb6,cp⟩;have HB6:Below w.heap.size w w6:=HB5.trans (hb6.mono (by omega));have R:=hN6.here;have nw:=hN6.newA.mono (base':=w.heap.size) (by omega);have nn:=hN6.nil
  (try rw[←HGL.out] at R)
  go_wp2
  go_ret2
  refine⟨a6,c6,?_,R,by rw[HLN.out];exact cp,nw,nn,HB6⟩;rw[HLN.out]
  rfl
def zr7(base:Nat)(l:List Bf)(x:Bf)(H:Int→Bool)(w':World)(e:Ending):Prop :=
 (∃(m:List Bf) (a':Option Addr) (c':Nat),zeX l x H m∧e=.returned (.tuple #[.slice a' m.length c',.nilIface])∧zB w' a' m∧m.length≤c'∧zdV base a'∧(a'=none→c'=0)) ∨
 (zap (plB x.pl) l=-1∧l.length=8∧zab (zaw false H) l l.length=-1∧e=.returned (.tuple #[.slice none 0 0,.iface 88 (.int .i64 7)]))
theorem zlG(gh:Nat)(egh:∀args w,(callFunc gh args).run Tryz.prog w=.ok (.enter gh args) w)(hc:Array Value)(H:Int→Bool)(l:List Bf)(a:Option Addr)(c:Nat)(x:Bf)(w:World)(hl:zB w a l)(hn:a=none→c=0)(h8:l.length≤8)
  (hh:∀n w',Below w.heap.size w w'→Calls Tryz.prog gh (#[.int .i64 n]++hc) w' fun e w''=>e=.returned (.bool (H n))∧Below w'.heap.size w' w'') :
  Calls Tryz.prog 107 #[.slice a l.length c,x.val,.func (.func gh) #[] hc] w fun e w'=>zr7 w.heap.size l x H w' e∧Below w.heap.size w w':=by
 rcases zbi (plB x.pl) l with⟨hi,_⟩|⟨k,hk,hi,_⟩
 ·by_cases hlt:l.length<8
  ·refine(zoH gh hc l a c x w hl hn hlt hi).mono ?_;rintro e w' ⟨a',c',rfl,h1,h2,h4,h5,h3⟩;exact⟨Or.inl ⟨zcL l x,a',c',Or.inr (Or.inl ⟨hi,hlt,rfl⟩),by rw[zc5],h1,by rw[zc5];exact h2,h4,h5⟩,h3⟩
  ·have h8':l.length=8:=by omega
   rcases zbd (zaw false H) l l.length (Nat.le_refl _) with⟨hr,_⟩|⟨k,hk,_,hr,_⟩
   ·refine(zqN gh egh hc H l a c x w hl hn h8' hi hh hr).mono ?_;rintro e w' ⟨rfl,h3⟩;exact⟨Or.inr ⟨hi,h8',hr,rfl⟩,h3⟩
   ·refine(zqf gh egh hc H l a c x w hl hn h8' hi hh k hk hr).mono ?_;rintro e w' ⟨a',c',rfl,h1,h2,h4,h5,h3⟩;have hL:(zcL (l.eraseIdx k) x).length=l.length:=by rw[zc5,List.length_eraseIdx,if_pos hk];omega
    exact⟨Or.inl ⟨zcL (l.eraseIdx k) x,a',c',Or.inr (Or.inr ⟨hi,h8',k,hk,hr,rfl⟩),by rw[hL],h1,by rw[hL];exact h2,h4,h5⟩,h3⟩
 ·refine(zoF gh hc l a c x w hl hn h8 k hk hi).mono ?_;rintro e w' ⟨a',c',rfl,h1,h2,h4,h5,h3⟩;exact⟨Or.inl ⟨l.set k x,a',c',Or.inl ⟨k,hk,hi,rfl⟩,by rw[List.length_set],h1,by rw[List.length_set];exact h2,h4,h5⟩,h3⟩
end Go.Proofs.YtlhgjplipgandaaGreat
namespace Go.Proofs.YtlhgjplipgandaaGreat
open Go.RowKit Go.BigFrame Go.Maps
attribute [local go_sem] ze.cell ze.frozen
structure Sa where
 b:Nat
 v:Nat
 bm:Nat
 an:An
 n:Nat
 D:DataW Unit
 la:Nat→Option Addr
 lc:Nat→Nat
 ha:Option Addr
 hc:Nat
 qa:Option Addr
 qc:Nat
 X:Nat→Prop
def zaZ(c:Cl)(a:Option Addr)(k:Nat):List Value:=[.int .i64 c.kind,.int .i64 c.pl,.string c.data,.slice a c.left.length k,.string c.got,zae c.err]
def Sk.head(A:Sa):List Value:=[.pointer (some ⟨A.b,0,none⟩),.pointer (some ⟨A.v,0,none⟩)]
def Sk.tail(p:Sk)(A:Sa):List Value:=[.slice A.ha p.hand.length A.hc,.slice A.qa p.queue.length A.qc,.bool p.turn.w,.int .i64 p.turn.g,.int .i64 p.turn.s,.int .i64 p.turn.p,.int .i64 p.moment,.int .i64 p.tags,.int .i64 p.uses,.bool p.dead]
def Sk.cells(p:Sk)(A:Sa):List Value:=Sk.head A++(zaZ (p.client 0) (A.la 0) (A.lc 0)++(zaZ (p.client 1) (A.la 1) (A.lc 1)++(zaZ (p.client 2) (A.la 2) (A.lc 2)++p.tail A)))
def za5(l:List Int):List Value:=l.map fun n=>.int .i64 n
def Sa.foot(A:Sa)(s:Nat)(k:Nat):Prop:=k=s∨zbx A.b A.bm A.an k∨∃i,i<3∧∃p,A.la i=some p∧k=p.block
def Sa.off(A:Sa)(s:Nat)(k:Nat):Prop:=A.foot s k∨A.X k
structure z9(s:Nat)(p:Sk)(A:Sa)(w:World):Prop where
 drv:VAt A.v A.b A.bm p.dev A.an A.n A.D w
 map:zcr A.D p.f
 im:IsMap A.D
 nb:A.n≤p.ag
 hand:zB w A.ha p.hand
 hnil:A.ha=none→A.hc=0
 hcap:p.hand.length≤A.hc
 queue:zs w A.qa p.queue
 qnil:A.qa=none→A.qc=0
 qcap:p.queue.length≤A.qc
 left:∀i,i<3→w.ownsRow 0 3 1 (.slice (A.la i) (p.client i).left.length (A.lc i)) (p.client i).left.length (za5 (p.client i).left)
 sv:¬zbx A.b A.bm A.an s∧s ≠ A.v
 vl:∀i,i<3→∀q,A.la i=some q→q.block ≠ s∧q.block ≠ A.v∧¬zbx A.b A.bm A.an q.block
 ll:∀i j,i<3→j<3→i ≠ j→∀q q',A.la i=some q→A.la j=some q'→q.block ≠ q'.block
 hoffX:p.hand ≠ []→∀q,A.ha=some q→¬A.off s q.block
 qoffX:p.queue ≠ []→∀q,A.qa=some q→¬A.off s q.block
 roffX:∀r∈p.queue++p.dev.busy,r.Off (A.off s)
 xlt:∀k,A.X k→k<w.heap.size
theorem z9.hoff{s:Nat}{p:Sk}{A:Sa}{w:World}(h:z9 s p A w):p.hand ≠ []→∀q,A.ha=some q→¬A.foot s q.block:=fun hne q hq e=>h.hoffX hne q hq (Or.inl e)
theorem z9.qoff{s:Nat}{p:Sk}{A:Sa}{w:World}(h:z9 s p A w):p.queue ≠ []→∀q,A.qa=some q→¬A.foot s q.block:=fun hne q hq e=>h.qoffX hne q hq (Or.inl e)
theorem z9.roff{s:Nat}{p:Sk}{A:Sa}{w:World}(h:z9 s p A w):∀r∈p.queue++p.dev.busy,r.Off (A.foot s):=fun r hr=>⟨fun he ad ha e=>(h.roffX r hr).1 he ad ha (Or.inl e),fun he ad ha e=>(h.roffX r hr).2 he ad ha (Or.inl e)⟩
structure zv(s:Nat)(p:Sk)(A:Sa)(w:World):Prop where
 blk:w.heap[s]?=some (.cells (p.cells A).toArray 60 (0,0))
 mem:z9 s p A w
structure zG(s:Nat)(p:Sk)(A:Sa)(p':Sk)(A':Sa)(w w':World):Prop where
 at':zv s p' A' w'
 only:zo (A.foot s) w w'
 foot:∀k,A'.foot s k→A.foot s k∨w.heap.size≤k
 same:A'.b=A.b∧A'.v=A.v∧A'.bm=A.bm∧A'.X=A.X
theorem zG.trans{s:Nat}{p p' p2:Sk}{A A' A2:Sa}{w w' w2:World}(h:zG s p A p' A' w w')(k:zG s p' A' p2 A2 w' w2):zG s p A p2 A2 w w2 :=
 ⟨k.at',h.only.trans k.only h.foot,fun i hi=>(k.foot i hi).elim (h.foot i) (fun h'=>Or.inr (Nat.le_trans h.only.size h')),by rw[k.same.1,k.same.2.1,k.same.2.2.1,k.same.2.2.2];exact h.same⟩
theorem zcq{F:Nat→Prop}{w w':World}{a:Option Addr}{l:List Bf}(h:zB w a l)(hk:zo F w w')(hn:l ≠ []→∀q,a=some q→¬F q.block):zB w' a l:=by
 refine⟨?_,h.2⟩
 rcases h.1 with h|⟨b,o,ha,hc⟩
 ·exact Or.inl h
 ·by_cases he:l=[]
  ·exact Or.inl he
  ·refine Or.inr ⟨b,o,ha,fun i hi j hj=>?_⟩;have:=hc i hi j hj;rw[hk.cell (p:=⟨b,o+i*4+j,none⟩) (zg this) (hn he ⟨b,o,none⟩ ha)];exact this
theorem zce{F:Nat→Prop}{w w':World}{a:Option Addr}{l:List Rq}(h:zs w a l)(hk:zo F w w')(hn:l ≠ []→∀p,a=some p→¬F p.block)(hr:∀r∈l,r.Off F):zs w' a l:=by
 obtain⟨h1,h2,h3⟩:=h;refine⟨?_,fun r hr'=>(h2 r hr').frame (hr r hr') hk,h3⟩
 rcases h1 with h|⟨b,o,ha,hc⟩
 ·exact Or.inl h
 ·by_cases he:l=[]
  ·exact Or.inl he
  ·refine Or.inr ⟨b,o,ha,fun i hi j hj=>?_⟩;have:=hc i hi j hj;rw[hk.cell (p:=⟨b,o+i*6+j,none⟩) (zg this) (hn he ⟨b,o,none⟩ ha)];exact this
section
variable{s:Nat}{p p':Sk}{A A':Sa}{w w':World}
theorem z9.lrow(h:z9 s p A w){i:Nat}(hi:i<3){q:Addr}(hq:A.la i=some q):q.block<w.heap.size:=((h.left i hi).lt q.block (by rw[hq];rfl)).2
theorem zv.lt(h:zv s p A w):s<w.heap.size:=zz h.blk
theorem zv.footLt(h:zv s p A w)(k:Nat)(hk:A.foot s k):k<w.heap.size:=by
 rcases hk with rfl|hk|⟨i,hi,q,hq,rfl⟩
 ·exact h.lt
 ·exact h.mem.drv.footLt k hk
 ·exact h.mem.lrow hi hq
theorem zv.offLt(h:zv s p A w)(k:Nat)(hk:A.off s k):k<w.heap.size:=hk.elim (h.footLt k) (fun e=>h.mem.xlt k e)
theorem z9.frame{F:Nat→Prop}(h:z9 s p A w)(hk:zo F w w')(hF:∀k,A.foot s k→k ≠ s→¬F k)(hv:¬F A.v)(hh:p.hand ≠ []→∀q,A.ha=some q→¬F q.block)(hq:p.queue ≠ []→∀q,A.qa=some q→¬F q.block)(hr:∀r∈p.queue++p.dev.busy,r.Off F):z9 s p A w' where
 drv:=h.drv.frame hk (fun k e=>hF k (Or.inr (Or.inl e)) (fun e'=>h.sv.1 (e'▸e))) hv (fun r hr'=>hr r (List.mem_append_right _ hr'))
 map:=h.map
 im:=h.im
 nb:=h.nb
 hand:=zcq h.hand hk hh
 hnil:=h.hnil
 hcap:=h.hcap
 queue:=zce h.queue hk hq (fun r hr'=>hr r (List.mem_append_left _ hr'))
 qnil:=h.qnil
 qcap:=h.qcap
 left:=fun i hi=>zau (h.left i hi) fun g hg=>by
  obtain⟨q,hq,rfl⟩:=zF.1 hg;exact hk.block _ (h.lrow hi hq) (hF _ (Or.inr (Or.inr ⟨i,hi,q,hq,rfl⟩)) (h.vl i hi q hq).1)
 sv:=h.sv
 vl:=h.vl
 ll:=h.ll
 hoffX:=h.hoffX
 qoffX:=h.qoffX
 roffX:=h.roffX
 xlt:=fun k e=>Nat.lt_of_lt_of_le (h.xlt k e) hk.size
theorem zv.frame{F:Nat→Prop}(h:zv s p A w)(hk:zo F w w')(hF:∀k,A.foot s k→¬F k)(hv:¬F A.v)(hh:p.hand ≠ []→∀q,A.ha=some q→¬F q.block)(hq:p.queue ≠ []→∀q,A.qa=some q→¬F q.block)(hr:∀r∈p.queue++p.dev.busy,r.Off F):zv s p A w' :=
 ⟨by rw[hk.block s h.lt (hF s (Or.inl rfl))];exact h.blk,h.mem.frame hk (fun k e _=>hF k e) hv hh hq hr⟩
theorem zm3(r:Rq):r.Off (fun _=>False):=⟨fun _ _ _ e=>e,fun _ _ _ e=>e⟩
theorem zv.later(h:zv s p A w)(hb:Below w.heap.size w w'):zv s p A w':=h.frame (F:=fun _=>False) (zo.of_below hb) (fun _ _ e=>e) (fun e=>e) (fun _ _ _ e=>e) (fun _ _ _ e=>e) (fun r _=>zm3 r)
theorem zG.same'(h:zv s p A w)(hb:Below w.heap.size w w'):zG s p A p A w w':=⟨h.later hb,zo.of_below hb,fun _ hk=>Or.inl hk,rfl,rfl,rfl,rfl⟩
theorem zG.later{w2:World}(h:zG s p A p' A' w w')(hb:Below w'.heap.size w' w2):zG s p A p' A' w w2:=h.trans (zG.same' h.at' hb)
theorem zv.put(h:zv s p A w)(hm:z9 s p' A' w)(j:Nat)(u:Value)(hc:(p.cells A).set j u=p'.cells A')(hf:∀k,A'.foot s k→A.foot s k)(hsame:A'.b=A.b∧A'.v=A.v∧A'.bm=A.bm∧A'.X=A.X):zG s p A p' A' w (w.setCell ⟨s,j,none⟩ u):=by
 have hO:zo (fun k=>k=s) w (w.setCell ⟨s,j,none⟩ u):=(zo.refl (fun k=>k=s) w).setCell ⟨s,j,none⟩ (Or.inl rfl) u;refine⟨⟨by rw[zK h.blk,hc],hm.frame hO (fun k _ hne=>hne) (fun e=>hm.sv.2 e.symm) (fun hne q hq e=>hm.hoff hne q hq (Or.inl e)) (fun hne q hq e=>hm.qoff hne q hq (Or.inl e)) (fun r hr=>⟨fun he ad ha e=>(hm.roff r hr).1 he ad ha (Or.inl e),fun he ad ha e=>(hm.roff r hr).2 he ad ha (Or.inl e)⟩)⟩,hO.mono (fun k e=>Or.inl e),fun k hk=>Or.inl (hf k hk),hsame⟩
theorem zv.step{d':Dl}{an':An}{n':Nat}{D':DataW Unit}{f':Int→Int}(g':Nat)(hg:n'≤g')(h:zv s p A w)(hs:zbn A.v A.b A.bm p.dev A.an A.n A.D d' an' n' D' w w')(hm:zcr D' f')(hi:IsMap D')(hr:∀r∈d'.busy,r.Off (({ A with an:=an',n:=n',D:=D' }:Sa).off s)) :
  zG s p A { p with dev:=d',f:=f',ag:=g' } { A with an:=an',n:=n',D:=D' } w w':=by
 have hft:∀k,({ A with an:=an',n:=n',D:=D' }:Sa).foot s k→A.foot s k∨w.heap.size≤k:=by
  rintro k (e|e|e)
  ·exact Or.inl (Or.inl e)
  ·exact(hs.foot k e).imp (fun e=>Or.inr (Or.inl e)) id
  ·exact Or.inl (Or.inr (Or.inr e))
 have hfx:∀k,({ A with an:=an',n:=n',D:=D' }:Sa).off s k→A.off s k∨w.heap.size≤k:=fun k hk=>hk.elim (fun e=>(hft k e).imp Or.inl id) (fun e=>Or.inl (Or.inr e))
 have hO:zo (A.foot s) w w':=hs.only.mono (fun k e=>Or.inr (Or.inl e));have hat:∀r∈p.queue,r.At w:=h.mem.queue.2.1;have hnew:∀{q:Addr},¬zbx A.b A.bm A.an q.block→q.block<w.heap.size→¬zbx A.b A.bm an' q.block:=fun h1 h2 e=>(hs.foot _ e).elim h1 (fun h'=>by omega)
 refine⟨⟨?_,?_⟩,hO,hft,rfl,rfl,rfl,rfl⟩
 ·rw[hs.only.block s h.lt h.mem.sv.1];exact h.blk
 ·have hqlt:p.queue ≠ []→∀q,A.qa=some q→q.block<w.heap.size:=fun hne q hq=>by
   rcases h.mem.queue.1 with e|⟨b',o',ha,hc⟩
   ·exact absurd e hne
   ·have:p.queue.length ≠ 0:=fun e=>hne (List.eq_nil_of_length_eq_zero e)
    have:=zg (hc 0 (by omega) 0 (by omega));rw[ha] at hq;simp only[Option.some.injEq] at hq;subst hq;exact this
  have hhlt:p.hand ≠ []→∀q,A.ha=some q→q.block<w.heap.size:=fun hne q hq=>by
   rcases h.mem.hand.1 with e|⟨b',o',ha,hc⟩
   ·exact absurd e hne
   ·have:p.hand.length ≠ 0:=fun e=>hne (List.eq_nil_of_length_eq_zero e)
    have:=zg (hc 0 (by omega) 0 (by omega));rw[ha] at hq;simp only[Option.some.injEq] at hq;subst hq;exact this
  have nf:∀q:Addr,¬A.off s q.block→q.block<w.heap.size→¬({ A with an:=an',n:=n',D:=D' }:Sa).off s q.block:=fun q h1 h2 e=>(hfx _ e).elim h1 (fun h'=>by omega)
  exact {
   drv:=hs.at'
   map:=hm
   im:=hi
   nb:=hg
   hand:=zcq h.mem.hand hO h.mem.hoff
   hnil:=h.mem.hnil
   hcap:=h.mem.hcap
   queue:=zce h.mem.queue hO h.mem.qoff (fun r hr'=>h.mem.roff r (List.mem_append_left _ hr'))
   qnil:=h.mem.qnil
   qcap:=h.mem.qcap
   left:=fun i hi=>zau (h.mem.left i hi) fun g hg=>by
    obtain⟨q,hq,rfl⟩:=zF.1 hg;exact hs.only.block _ (h.mem.lrow hi hq) (h.mem.vl i hi q hq).2.2
   sv:=⟨fun e=>(hs.foot _ e).elim h.mem.sv.1 (fun h'=>by have:=h.lt;omega),h.mem.sv.2⟩
   vl:=fun i hi q hq=>⟨(h.mem.vl i hi q hq).1,(h.mem.vl i hi q hq).2.1,hnew (h.mem.vl i hi q hq).2.2 (h.mem.lrow hi hq)⟩
   ll:=h.mem.ll
   hoffX:=fun hne q hq=>nf q (h.mem.hoffX hne q hq) (hhlt hne q hq)
   qoffX:=fun hne q hq=>nf q (h.mem.qoffX hne q hq) (hqlt hne q hq)
   xlt:=fun k e=>Nat.lt_of_lt_of_le (h.mem.xlt k e) hO.size
   roffX:=fun r hr'=>by
    rcases List.mem_append.1 hr' with h'|h'
    ·exact Rq.Off.step (hat r h') (h.mem.roffX r (List.mem_append_left _ h')) hfx
    ·exact hr r h' }
theorem zft{d':Dl}{an':An}{n':Nat}{D':DataW Unit}(h:zbn A.v A.b A.bm p.dev A.an A.n A.D d' an' n' D' w w'):∀k,({ A with an:=an',n:=n',D:=D' }:Sa).off s k→A.off s k∨w.heap.size≤k:=by
 rintro k ((e|e|e)|e)
 ·exact Or.inl (Or.inl (Or.inl e))
 ·exact(h.foot k e).imp (fun e=>Or.inl (Or.inr (Or.inl e))) id
 ·exact Or.inl (Or.inl (Or.inr (Or.inr e)))
 ·exact Or.inl (Or.inr e)
end
end Go.Proofs.YtlhgjplipgandaaGreat
namespace Go.Proofs.YtlhgjplipgandaaGreat
open Go.RowKit Go.BigFrame
structure Pu where
 pl:Nat
 data:ByteArray
structure Rd where
 kept:List ByteArray
 now:List ByteArray
 waits:List Pu
 busy:List Rq
def zdL(kp:Int):Nat→List Pu→List ByteArray→List ByteArray
 |_,[],G=>G
 |i,x::l,G=>zdL kp (i+1) l (if zdD kp (i % 64)=true then G.set x.pl x.data else G)
theorem zl2(kp:Int)(l:List Pu)(x:Pu):∀(i:Nat) (G:List ByteArray),zdL kp i (l++[x]) G=if zdD kp ((i+l.length) % 64)=true then(zdL kp i l G).set x.pl x.data else zdL kp i l G:=by
 induction l with
 |nil=>intro i G;rfl
 |cons y l ih =>
  intro i G;show zdL kp (i+1) (l++[x]) _=_;rw[ih,List.length_cons,show i+1+l.length=i+(l.length+1) by omega]
  rfl
def Rd.write(m:Rd)(p:Nat)(s:ByteArray):Rd:={ m with now:=m.now.set p s,waits:=m.waits++[⟨p,s⟩] }
def Rd.flush(m:Rd):Rd:={ m with kept:=m.now,waits:=[] }
def Rd.crash(m:Rd)(kp:Int):Rd:=⟨zdL kp 0 m.waits m.kept,zdL kp 0 m.waits m.kept,[],[]⟩
structure zbu(d:Dl)(m:Rd):Prop where
 now:d.now=m.now
 good:d.good=m.kept
 next:d.next=m.waits.length % 64
 same:∀kp,d.after kp=zdL kp 0 m.waits m.kept
theorem zbu.start:zbu d0 ⟨List.replicate 32 ByteArray.empty,List.replicate 32 ByteArray.empty,[],[]⟩:=⟨rfl,rfl,rfl,fun _=>rfl⟩
theorem zbu.write{d:Dl}{m:Rd}(h:zbu d m)(p:Nat)(s:ByteArray):zbu (d.write p s) (m.write p s) where
 now:=by show d.now.set p s=m.now.set p s;rw[h.now]
 good:=h.good
 next:=by
  have:=h.next;show(d.next+1) % 64=(m.waits++[(⟨p,s⟩:Pu)]).length % 64;rw[List.length_append,List.length_singleton];omega
 same:=fun kp=>by
  show(d.write p s).after kp=zdL kp 0 (m.waits++[⟨p,s⟩]) m.kept;rw[zmK,zl2,h.same kp,h.next,Nat.zero_add]
theorem zbu.busy{d:Dl}{m:Rd}(h:zbu d m)(l l':List Rq):zbu { d with busy:=l } { m with busy:=l' }:=⟨h.now,h.good,h.next,h.same⟩
theorem zbu.flush{d:Dl}{m:Rd}(h:zbu d m):zbu d.flush m.flush:=⟨h.now,h.now,rfl,fun _=>h.now⟩
theorem zbu.crash{d:Dl}{m:Rd}(h:zbu d m)(kp:Int):zbu (d.crash kp) (m.crash kp):=⟨h.same kp,h.same kp,rfl,fun _=>h.same kp⟩
def Rd.writesTo(m:Rd)(r:Rq)(n:Nat):Rd:=(List.range n).foldl (fun m j=>m.write (r.f.toNat+j) (r.data.getD j ByteArray.empty)) m
theorem Rd.writesTo_succ(m:Rd)(r:Rq)(n:Nat):m.writesTo r (n+1)=(m.writesTo r n).write (r.f.toNat+n) (r.data.getD n ByteArray.empty):=by simp[Rd.writesTo,List.range_succ]
theorem zbu.writesTo{d:Dl}{m:Rd}(h:zbu d m)(r:Rq)(n:Nat):zbu (d.writesTo r n) (m.writesTo r n):=by
 induction n with
 |zero=>exact h
 |succ n ih=>rw[Dl.writesTo_succ,Rd.writesTo_succ];exact ih.write _ _
def Rd.did(m:Rd)(r:Rq):Rd:=if r.wr=true then m.writesTo r r.m.toNat else m
theorem zbu.did{d:Dl}{m:Rd}(h:zbu d m)(r:Rq):zbu (d.did r) (m.did r):=by
 unfold Dl.did Rd.did
 split
 ·exact h.writesTo r _
 ·exact h
theorem Rd.writesTo_busy(m:Rd)(r:Rq)(n:Nat):(m.writesTo r n).busy=m.busy:=by
 induction n with
 |zero=>rfl
 |succ n ih=>rw[Rd.writesTo_succ];exact ih
abbrev Pu.val(x:Pu):Value:=.agg #[.int .i64 x.pl,.string x.data]
def zdx(l:List Pu):List Value:=l.flatMap fun x=>[.int .i64 x.pl,.string x.data]
theorem zj4(l l':List Pu):zdx (l++l')=zdx l++zdx l':=by simp[zdx]
theorem zmB(l:List Pu)(x:Pu):zdx (l++[x])=zdx l++[.int .i64 x.pl,.string x.data]:=by rw[zj4];rfl
structure Ra where
 wa:Option Addr
 wc:Nat
 la:Option Addr
 lc:Nat
def Rd.cells(m:Rd)(a:Ra):List Value:=zaG m.kept++zaG m.now++[.slice a.wa m.waits.length a.wc,.slice a.la m.busy.length a.lc]
def Ra.foot(a:Ra)(b:Nat)(k:Nat):Prop:=k=b∨(∃p,a.wa=some p∧k=p.block)
structure zak(b:Nat)(m:Rd)(a:Ra)(w:World):Prop where
 k32:m.kept.length=32
 n32:m.now.length=32
 blk:w.heap[b]?=some (.cells (m.cells a).toArray 36 (0,0))
 wrow:w.ownsRow 0 181 2 (.slice a.wa m.waits.length a.wc) m.waits.length (zdx m.waits)
 lrow:zs w a.la m.busy
 lnil:a.la=none→a.lc=0
 lcap:m.busy.length≤a.lc
 loff:m.busy ≠ []→∀p,a.la=some p→¬a.foot b p.block
 sepw:∀p,a.wa=some p→p.block ≠ b
 reqs:∀r∈m.busy,r.Off (a.foot b)
 wfin:∀x∈m.waits,x.pl<32
 blen:m.busy.length≤2
structure zat(b:Nat)(m:Rd)(a:Ra)(m':Rd)(a':Ra)(w w':World):Prop where
 dev:zak b m' a' w'
 only:zo (a.foot b) w w'
 foot:∀k,a'.foot b k→a.foot b k∨w.heap.size≤k
 lan:m'.busy ≠ []→∀p,a'.la=some p→(m.busy ≠ []∧a.la=some p)∨w.heap.size≤p.block
theorem zat.trans{b:Nat}{d d' d'':Rd}{a a' a'':Ra}{w w' w'':World}(h:zat b d a d' a' w w')(k:zat b d' a' d'' a'' w' w''):zat b d a d'' a'' w w'' :=
 ⟨k.dev,h.only.trans k.only h.foot,fun i hi=>(k.foot i hi).elim (h.foot i) (fun h'=>Or.inr (Nat.le_trans h.only.size h')),fun hne p hp=>(k.lan hne p hp).elim (fun e=>h.lan e.1 p e.2) (fun h'=>Or.inr (Nat.le_trans h.only.size h'))⟩
theorem Rd.cells_length{d:Rd}{a:Ra}(h1:d.kept.length=32)(h2:d.now.length=32):(d.cells a).length=66:=by simp[Rd.cells,zC,h1,h2]
theorem Rd.cell64{d:Rd}{a:Ra}(h1:d.kept.length=32)(h2:d.now.length=32):(d.cells a)[64]?=some (.slice a.wa d.waits.length a.wc):=by
 rw[Rd.cells,List.getElem?_append_right (by simp[zC,h1,h2])];simp[zC,h1,h2]
theorem Rd.cell65{d:Rd}{a:Ra}(h1:d.kept.length=32)(h2:d.now.length=32):(d.cells a)[65]?=some (.slice a.la d.busy.length a.lc):=by
 rw[Rd.cells,List.getElem?_append_right (by simp[zC,h1,h2])];simp[zC,h1,h2]
theorem Rd.cellNow{d:Rd}{a:Ra}(h1:d.kept.length=32)(h2:d.now.length=32)(k:Nat)(hk:k<32):(d.cells a)[32+k]?=some (.string (d.now.getD k ByteArray.empty)):=by
 rw[Rd.cells,List.append_assoc,List.getElem?_append_right (by rw[zC];omega),zC,h1,List.getElem?_append_left (by rw[zC];omega)]
 simp[zaG,List.getElem?_eq_getElem (show k<d.now.length by omega)]
section
variable{b:Nat}{d:Rd}{a:Ra}{w:World}
theorem zak.c64(h:zak b d a w):w.cell? ⟨b,64,none⟩=some (.slice a.wa d.waits.length a.wc):=by rw[zy h.blk];exact Rd.cell64 h.k32 h.n32
theorem zak.c65(h:zak b d a w):w.cell? ⟨b,65,none⟩=some (.slice a.la d.busy.length a.lc):=by rw[zy h.blk];exact Rd.cell65 h.k32 h.n32
theorem zak.cNow(h:zak b d a w)(k:Nat)(hk:k<32):w.cell? ⟨b,32+k,none⟩=some (.string (d.now.getD k ByteArray.empty)):=by rw[zy h.blk];exact Rd.cellNow h.k32 h.n32 k hk
theorem zak.fz(h:zak b d a w)(j:Nat):w.frozen? ⟨b,j,none⟩=false:=zac h.blk j
theorem zak.lt(h:zak b d a w):b<w.heap.size:=zz h.blk
theorem zak.wlt(h:zak b d a w)(p:Addr)(hp:a.wa=some p):p.block<w.heap.size:=(h.wrow.lt p.block (by rw[hp];rfl)).2
theorem zak.footLt(h:zak b d a w)(k:Nat)(hk:a.foot b k):k<w.heap.size:=by
 rcases hk with rfl|⟨p,hp,rfl⟩
 ·exact h.lt
 ·exact h.wlt p hp
theorem zes{F:Nat→Prop}{w w':World}{a:Option Addr}{l:List Rq}(h:zs w a l)(hk:zo F w w')(hn:l ≠ []→∀p,a=some p→¬F p.block)(hr:∀r∈l,r.Off F):zs w' a l:=by
 obtain⟨h1,h2,h3⟩:=h;refine⟨?_,fun r hr'=>(h2 r hr').frame (hr r hr') hk,h3⟩
 rcases h1 with h|⟨b,o,ha,hc⟩
 ·exact Or.inl h
 ·by_cases he:l=[]
  ·exact Or.inl he
  ·refine Or.inr ⟨b,o,ha,fun i hi j hj=>?_⟩;have:=hc i hi j hj;rw[hk.cell (p:=⟨b,o+i*6+j,none⟩) (zg this) (hn he ⟨b,o,none⟩ ha)];exact this
theorem zak.frame{F:Nat→Prop}{w':World}(h:zak b d a w)(hk:zo F w w')(hF:∀k,a.foot b k→¬F k)(hl:d.busy ≠ []→∀p,a.la=some p→¬F p.block)(hr:∀r∈d.busy,r.Off F):zak b d a w' where
 k32:=h.k32
 n32:=h.n32
 blk:=by rw[hk.block b h.lt (hF b (Or.inl rfl))];exact h.blk
 wrow:=zau h.wrow fun g hg=>by
  obtain⟨p,hp,rfl⟩:=zF.1 hg;exact hk.block _ (h.wlt p hp) (hF _ (Or.inr ⟨p,hp,rfl⟩))
 lrow:=zes h.lrow hk hl hr
 lnil:=h.lnil
 lcap:=h.lcap
 loff:=h.loff
 sepw:=h.sepw
 reqs:=h.reqs
 wfin:=h.wfin
 blen:=h.blen
theorem zak.later{w':World}(h:zak b d a w)(hk:Below w.heap.size w w'):zak b d a w' :=
 h.frame (F:=fun _=>False) (zo.of_below hk) (fun _ _ e=>e) (fun _ _ _ e=>e) (fun _ _=>⟨fun _ _ _ e=>e,fun _ _ _ e=>e⟩)
end
theorem zat.later{b:Nat}{d d':Rd}{a a':Ra}{w w' w'':World}(h:zat b d a d' a' w w')(hb:Below w'.heap.size w' w''):zat b d a d' a' w w'':=⟨h.dev.later hb,h.only.later hb,h.foot,h.lan⟩
theorem zat.drewAt{b:Nat}{d d':Rd}{a a':Ra}{w w':World}(h:zat b d a d' a' w w'):zat b d a d' a' w w'.drew:=h.later (Below.refl _ _).drew
theorem zat.same{b:Nat}{d:Rd}{a:Ra}{w w':World}(h:zak b d a w)(hb:Below w.heap.size w w'):zat b d a d a w w':=⟨h.later hb,zo.of_below hb,fun _ hk=>Or.inl hk,fun hne _ hp=>Or.inl ⟨hne,hp⟩⟩
theorem zk5(d:Rd)(a:Ra)(l:List Rq)(x:Option Addr)(c:Nat)(h1:d.kept.length=32)(h2:d.now.length=32):(d.cells a).set 65 (.slice x l.length c)=({ d with busy:=l }:Rd).cells { a with la:=x,lc:=c }:=by
 rw[Rd.cells,List.set_append_right _ _ (by simp[zC,h1,h2])]
 simp[zC,h1,h2,Rd.cells]
theorem zkW(d:Rd)(a:Ra)(l:List Pu)(x:Option Addr)(c:Nat)(h1:d.kept.length=32)(h2:d.now.length=32):(d.cells a).set 64 (.slice x l.length c)=({ d with waits:=l }:Rd).cells { a with wa:=x,wc:=c }:=by
 rw[Rd.cells,List.set_append_right _ _ (by simp[zC,h1,h2])]
 simp[zC,h1,h2,Rd.cells]
theorem zkb(d:Rd)(a:Ra)(p:Nat)(s:ByteArray)(h1:d.kept.length=32)(h2:d.now.length=32)(hp:p<32):(d.cells a).set (32+p) (.string s)=({ d with now:=d.now.set p s }:Rd).cells a:=by
 have e1:(zaG d.kept).length=32:=by rw[zC,h1]
 rw[Rd.cells,Rd.cells,List.append_assoc,List.set_append_right _ _ (by omega),e1,show 32+p-32=p by omega,List.set_append_left _ _ (by rw[zC];omega),zk1,List.append_assoc]
theorem zak.busied{b:Nat}{d:Rd}{a:Ra}{w w3:World}(h:zak b d a w)(hb:Below w.heap.size w w3)(l:List Rq)(hl2:l.length≤2)(x:Option Addr)(c:Nat)(hl:zs w3 x l)(hn:x=none→c=0)(hc:l.length≤c)(hx:l ≠ []→∀p,x=some p→w.heap.size≤p.block)(hr:∀r∈l,r.At w∧r.Off (a.foot b)) :
  zat b d a { d with busy:=l } { a with la:=x,lc:=c } w (w3.setCell ⟨b,65,none⟩ (.slice x l.length c)):=by
 have h3:=h.later hb;have hon:zo (a.foot b) w (w3.setCell ⟨b,65,none⟩ (.slice x l.length c)):=(zo.of_below hb).setCell _ (Or.inl (Or.inl rfl)) _;have hon3:zo (fun k=>k=b) w3 (w3.setCell ⟨b,65,none⟩ (.slice x l.length c)):=(zo.refl (fun k=>k=b) w3).setCell ⟨b,65,none⟩ (Or.inl rfl) _;have hxb:l ≠ []→∀p,x=some p→¬a.foot b p.block:=fun hne p hp hk=>by
  have:=h.footLt _ hk;have:=hx hne p hp
  omega
 refine⟨?_,hon,fun k hk=>Or.inl hk,fun hne p hp=>Or.inr (hx hne p hp)⟩;exact {
  k32:=h.k32
  n32:=h.n32
  blk:=by rw[zK h3.blk,zk5 d a l x c h.k32 h.n32]
  wrow:=zau h3.wrow fun g hg=>by
   obtain⟨p,hp,rfl⟩:=zF.1 hg;exact zb8 _ _ (h.sepw p hp)
  lrow:=zes hl hon3 (fun hne p hp e=>hxb hne p hp (Or.inl e)) (fun r hr'=>⟨fun he ad ha e=>(hr r hr').2.1 he ad ha (Or.inl e),fun he ad ha e=>(hr r hr').2.2 he ad ha (Or.inl e)⟩)
  lnil:=hn
  lcap:=hc
  loff:=hxb
  sepw:=h.sepw
  reqs:=fun r hr'=>(hr r hr').2
  wfin:=h.wfin
  blen:=hl2 }
theorem zak.reblock{b:Nat}{d d':Rd}{a:Ra}{w w':World}(h:zak b d a w)(hO:zo (fun k=>k=b) w w')(hblk:w'.heap[b]?=some (.cells (d'.cells a).toArray 36 (0,0)))(hw:d'.waits=d.waits)(hb:d'.busy=d.busy)(k32:d'.kept.length=32)(n32:d'.now.length=32):zat b d a d' a w w':=by
 refine⟨?_,hO.mono (fun k hk=>Or.inl hk),fun k hk=>Or.inl hk,fun hne p hp=>Or.inl ⟨by rw[←hb];exact hne,hp⟩⟩;exact {
  k32:=k32
  n32:=n32
  blk:=hblk
  wrow:=by
   rw[hw];exact zau h.wrow fun g hg=>by
    obtain⟨p,hp,rfl⟩:=zF.1 hg;exact hO.block _ (h.wlt p hp) (h.sepw p hp)
  lrow:=by
   rw[hb];exact zes h.lrow hO (fun hne p hp e=>h.loff hne p hp (Or.inl e)) (fun r hr'=>⟨fun he ad ha e=>(h.reqs r hr').1 he ad ha (Or.inl e),fun he ad ha e=>(h.reqs r hr').2 he ad ha (Or.inl e)⟩)
  lnil:=h.lnil
  lcap:=by rw[hb];exact h.lcap
  loff:=by rw[hb];exact h.loff
  sepw:=h.sepw
  reqs:=by rw[hb];exact h.reqs
  wfin:=by rw[hw];exact h.wfin
  blen:=by rw[hb];exact h.blen }
theorem zak.rewaits{b:Nat}{d:Rd}{a:Ra}{w w2 w3:World}(h:zak b d a w)(hb:Below w.heap.size w w2)(l:List Pu)(hf:∀x∈l,x.pl<32){v:Value}(hown:w3.ownsRow 0 181 2 v l.length (zdx l))(hO:zo (fun k=>∃p,a.wa=some p∧k=p.block) w2 w3)(hv:∀g,v.ownBlock=some g→(∃p,a.wa=some p∧g=p.block)∨w2.heap.size≤g) :
  ∃x c,v=.slice x l.length c∧zat b d a { d with waits:=l } { a with wa:=x,wc:=c } w (w3.setCell ⟨b,64,none⟩ v):=by
 obtain⟨x,c,rfl,_⟩:=zba hown;have h2:=h.later hb;have hs2:=hb.size;have nb:¬∃p,a.wa=some p∧b=p.block:=fun⟨p,hp,e⟩=>h.sepw p hp e.symm
 have hlt:=h.lt;have e3:w3.heap[b]?=some (.cells (d.cells a).toArray 36 (0,0)):=by
  rw[hO.block b (by omega) nb];exact h2.blk
 have xb:∀p,x=some p→p.block ≠ b:=fun p hp e=>by
  rcases hv p.block (zF.2 ⟨p,hp,rfl⟩) with⟨q,hq,e'⟩|h'
  ·exact h.sepw q hq (by omega)
  ·omega
 have hon2:zo (a.foot b) w2 (w3.setCell ⟨b,64,none⟩ (.slice x l.length c)):=(hO.mono (F':=a.foot b) (fun k hk=>Or.inr hk)).setCell ⟨b,64,none⟩ (Or.inl (Or.inl rfl)) _;have hon:zo (a.foot b) w (w3.setCell ⟨b,64,none⟩ (.slice x l.length c)):=(zo.of_below (F:=a.foot b) hb).trans hon2 (fun i e=>Or.inl e);have hft:∀k,({ a with wa:=x,wc:=c }:Ra).foot b k→a.foot b k∨w.heap.size≤k:=by
  rintro k (rfl|⟨p,hp,rfl⟩)
  ·exact Or.inl (Or.inl rfl)
  ·rcases hv p.block (zF.2 ⟨p,hp,rfl⟩) with⟨q,hq,e'⟩|h'
   ·exact Or.inl (Or.inr ⟨q,hq,e'⟩)
   ·exact Or.inr (by omega)
 refine⟨x,c,rfl,⟨?_,hon,hft,fun hne p hp=>Or.inl ⟨hne,hp⟩⟩⟩;have lr:zs (w3.setCell ⟨b,64,none⟩ (.slice x l.length c)) a.la d.busy:=zes h.lrow hon h.loff h.reqs;exact {
  k32:=h.k32
  n32:=h.n32
  blk:=by rw[zK e3,zkW d a l x c h.k32 h.n32]
  wrow:=zau hown fun g hg'=>by
   obtain⟨p,hp,rfl⟩:=zF.1 hg';exact zb8 _ _ (xb p hp)
  lrow:=lr
  lnil:=h.lnil
  lcap:=h.lcap
  loff:=fun hne p hp hk=>(hft _ hk).elim (h.loff hne p hp) (fun h'=>by
   rcases h.lrow.1 with e|⟨b',o',ha,hc⟩
   ·exact hne e
   ·have hp':d.busy.length ≠ 0:=fun e=>hne (List.eq_nil_of_length_eq_zero e)
    have:=zg (hc 0 (by omega) 0 (by omega))
    change a.la=some p at hp
    rw[ha] at hp;simp only[Option.some.injEq] at hp;subst hp;exact absurd h' (by simp only;omega))
  sepw:=xb
  reqs:=fun r hr'=>Rq.Off.step (h.lrow.2.1 r hr') (h.reqs r hr') hft
  wfin:=hf
  blen:=h.blen }
end Go.Proofs.YtlhgjplipgandaaGreat
namespace Go.Proofs.YtlhgjplipgandaaGreat
open Go.RowKit Go.BigFrame
attribute [local go_sem] ze.cell ze.frozen
theorem zbL{P:Program}{ops:Array Oper}{o:Oper}{a:Act}{w:World}{K:Act→World→Prop}{Q:Exit→Act→World→Prop}{E:Prop}
  (hg:o.guard=none) (s x:Operand) (t:TypeId) (hop:o.op=Op.call { callee:=Callee.builtin Builtin.append,args:=#[s,x],argTypes:=#[t,t] })
  (base:Nat) (e:TypeId) (i:TypeInfo) (z:Value) (size bytes:Nat) (ht:P.underlying t=some (.slice e)) (hi:P.info? e=some i) (hz:i.zero=some z)
  (hsize:i.size=size) (hby:i.bytes=bytes) (hzs:z.cells.size=size) (hsz:0<size)
  (v:Value) (n:Nat) (xs:List Value) (hs:a.eval s=v) (hown:w.ownsRow base e size v n xs)
  (ad:Option Addr) (m c:Nat) (news:List Value) (hx:a.eval x=.slice ad m c) (hrow:zaW w size ad m c news)
  (h63:n+m≤maxLen) (hbytes:(n+m)*bytes≤140737488355328) (hbase:base≤w.heap.size)
  (h:∀v' w',w'.ownsRow base e size v' (n+m) (xs++news)→Below base w w'→K (a.put o.dst v') w') :
  if Region.wanted o (yielded ops a.tmps)=true then Oper.wp P o a w K Q else E:=by
 have hw:Region.wanted o (yielded ops a.tmps)=true:=by simp[Region.wanted,hg]
 rw[if_pos hw];obtain⟨h1,h2,h3⟩:=hrow
 rcases h3 with⟨rfl,rfl,rfl⟩|⟨ad',rfl,hc⟩
 ·obtain rfl:news=[]:=List.eq_nil_of_length_eq_zero (by rw[h1];simp);have hr:=run_append_owned_none (P:=P) w base t o.type e i size ht hi v n xs hown;unfold Oper.wp
  simp[execOp,hop,resolve,invoke,builtin,hs,hx,hr,Result.andThen]
  exact h v w (by simpa using hown) (Below.refl _ _)
 ·obtain⟨v',w',hrun,r1,r2,_⟩:=run_append_own (P:=P) w base t o.type e i z size bytes ht hi hz hsize hby hzs hsz v n xs hown ad' m c news h1 hc h2 h63 hbytes hbase;unfold Oper.wp
  simp[execOp,hop,resolve,invoke,builtin,hs,hx,hrun,Result.andThen]
  exact h v' w' r1 ((Below.refl _ _).grown r2 hbase fun k hk=>(hown.lt k hk).1)
theorem zh1{w w':World}{B e size n:Nat}{v:Value}{xs:List Value}(h:w.ownsRow B e size v n xs)(hb:Below w.heap.size w w'):w'.ownsRow B e size v n xs:=zau h (fun g hg=>hb.block g (h.lt g hg).2)
structure zhP(base:Nat)(w:World)(a:Option Addr)(c:Nat)(l:List Rq):Prop where
 here:zs w a l
 nil:a=none→c=0
 cap:l.length≤c
 new:∀p,a=some p→base≤p.block
theorem zcB{w:World}{base:Nat}{v:Value}{l:List Rq}{n:Nat}(h:w.ownsRow base 111 6 v n (zt l))(hat:∀r∈l,r.At w)(hn:n=l.length)(hb:l.length≤9223372036854775807):∃a c,v=.slice a l.length c∧zhP base w a c l:=by
 obtain⟨a,c,hv,h1,h2,_,h3,h4⟩:=zdb h hat hn hb;exact⟨a,c,hv,h1,h3,h2,fun p hp=>(h4 p hp).1⟩
theorem zhP.later{base:Nat}{w w':World}{a:Option Addr}{c:Nat}{l:List Rq}(h:zhP base w a c l)(hb:Below w.heap.size w w'):zhP base w' a c l:=⟨h.here.later hb,h.nil,h.cap,h.new⟩
theorem zhq(l:List Rq)(k:Nat):l.eraseIdx k=l.take k++l.drop (k+1):=List.eraseIdx_eq_take_drop_succ l k
theorem zdF(l:List Rq)(b o c k:Nat)(w:World)(hl:zs w (some ⟨b,o,none⟩) l)(h10:l.length≤100000)(hcap:l.length≤c)(hk:k<l.length) :
  Calls Tryz.prog 60 #[.slice (some ⟨b,o,none⟩) l.length c,.int .i64 k] w fun e w'=>∃a' c',e=.returned (.slice a' (l.eraseIdx k).length c')∧zhP w.heap.size w' a' c' (l.eraseIdx k)∧Below w.heap.size w w':=by
 have esp:l=l.take k++[l[k]]++l.drop (k+1):=by rw[List.append_assoc,List.singleton_append,List.getElem_cons_drop,List.take_append_drop]
 have elt:(l.take k).length=k:=by rw[List.length_take];omega
 have eld:(l.drop (k+1)).length=l.length-(k+1):=by rw[List.length_drop]
 obtain⟨M,hM⟩:∃M,M=l.eraseIdx k:=⟨_,rfl⟩
 have hMl:M.length=k+(l.length-(k+1)):=by rw[hM,zhq,List.length_append,elt,eld]
 have hMa:∀x∈M,x.At w:=fun x hx=>hl.2.1 x (List.mem_of_mem_eraseIdx (by rw[hM] at hx;exact hx))
 have hMc:zt (l.take k)++zt (l.drop (k+1))=zt M:=by rw[hM,zhq,zaM]
 have HM:=za (⟨hMl,hMa,hMc⟩:_∧_∧_);rw[←hM];clear hM hMl hMa hMc;have R1:zaW w 6 (some ⟨b,o,none⟩) k c (zt (l.take k)):=by
  have:=hl.row (c:=c) [] (l.take k) ([l[k]]++l.drop (k+1)) (by simp);rw[elt] at this
  simpa using this
 have hwr:IntKind.i64.wrap ((k:Int)+1)=(k:Int)+1:=by rw[IntKind.wrap_i64];omega
 have hsl1:=fun w=>zhC b o l.length c k w hk hcap
 obtain⟨iR,hR1,hR2,hR3,hR4⟩:=zaL zdX
 by_cases hce:c=k+1
 ·subst hce;have hni:l.length=k+1:=by omega
  have e3:l.drop (k+1)=[]:=List.eq_nil_of_length_eq_zero (by omega);have R2:zaW w 6 (some ⟨b,o,none⟩) 0 0 (zt (l.drop (k+1))):=by
   rw[e3];exact⟨rfl,by simp[zt],Or.inr ⟨_,rfl,fun j u h=>by simp[zt] at h⟩⟩
  have hsl2:=fun w=>zjP b o l.length k w hni
  have hn0:=HM.out.1;rw[show l.length-(k+1)=0 by omega] at hn0;have HN:=za hn0;clear esp elt eld e3 hni hn0;go_enter Tryz.func60,Tryz.ntmps60;go_wp2_with fail
  go_region_held3 (fun _=>True) (trivial) (first|(refine zbL (by rfl) (.const (.slice none 0 0)) (.tmp 7) 34 (by rfl) w.heap.size 111 iR _ 6 80 Tryz.underlying34 hR1 hR2 hR3 hR4 rfl (by decide) (.slice none 0 0) 0 [] (by rfl) (World.ownsRow_nil _ _ _ _) (some ⟨b,o,none⟩) k (k+1) (zt (l.take k)) (by simp[Act.eval]) (R1.later (by(with_reducible repeat first|exact Below.refl _ _|refine zc ?_ _|refine zd ?_|refine bset' ?_ (by omega) _|refine zb ?_ (by assumption)))) (by unfold maxLen;omega) (by omega) (by simp) ?_;intro v1 wI hown1 hb1;rw[Nat.zero_add,List.nil_append] at hown1;have hB1:Below w.heap.size w wI:=Below.trans (by(with_reducible repeat first|exact Below.refl _ _|refine zc ?_ _|refine zd ?_|refine bset' ?_ (by omega) _|refine zb ?_ (by assumption))) hb1)|(refine zbL (by rfl) (.tmp 8) (.tmp 12) 34 (by rfl) w.heap.size 111 iR _ 6 80 Tryz.underlying34 hR1 hR2 hR3 hR4 rfl (by decide) v1 k (zt (l.take k)) (by simp[Act.eval]) (by first|exact hown1|exact za4 hown1) (some ⟨b,o,none⟩) 0 0 (zt (l.drop (k+1))) (by simp[Act.eval]) (R2.later (by(with_reducible repeat first|exact Below.refl _ _|refine zc ?_ _|refine zd ?_|refine bset' ?_ (by omega) _|refine zb ?_ (by assumption)))) (by unfold maxLen;omega) (by omega) (by have:=hB1.size;(try simp);omega) ?_;intro v2 wJ hown2 hb2;have hB2:Below w.heap.size w wJ:=(by first|exact hB1.trans hb2|exact hB1.drew.trans hb2)))
  rw[HM.out.2.2] at hown2;obtain⟨aJ,cJ,rfl,hN⟩:=zcB hown2 (fun x hx=>(HM.out.2.1 x hx).later hB2) HN.out.symm (by rw[HN.out];omega);have HB2:=za hB2;clear hown1 hown2 hb1 hb2 hB1 hB2 R1 R2;go_wp2;go_ret;exact⟨aJ,cJ,rfl,hN,HB2.out⟩
 ·have R2:zaW w 6 (some ⟨b,o+(k+1)*6,none⟩) (l.length-(k+1)) (c-(k+1)) (zt (l.drop (k+1))):=by
   have:=hl.row (c:=c-(k+1)) (l.take k++[l[k]]) (l.drop (k+1)) [] (by simp);rw[List.length_append,List.length_singleton,elt,eld] at this;exact this
  have hsl2:=fun w=>ziq b o l.length c k w hk hce
  clear esp elt eld;go_enter Tryz.func60,Tryz.ntmps60;go_wp2_with fail
  go_region_held3 (fun _=>True) (trivial) (first|(refine zbL (by rfl) (.const (.slice none 0 0)) (.tmp 7) 34 (by rfl) w.heap.size 111 iR _ 6 80 Tryz.underlying34 hR1 hR2 hR3 hR4 rfl (by decide) (.slice none 0 0) 0 [] (by rfl) (World.ownsRow_nil _ _ _ _) (some ⟨b,o,none⟩) k c (zt (l.take k)) (by simp[Act.eval]) (R1.later (by(with_reducible repeat first|exact Below.refl _ _|refine zc ?_ _|refine zd ?_|refine bset' ?_ (by omega) _|refine zb ?_ (by assumption)))) (by unfold maxLen;omega) (by omega) (by simp) ?_;intro v1 wI hown1 hb1;rw[Nat.zero_add,List.nil_append] at hown1;have hB1:Below w.heap.size w wI:=Below.trans (by(with_reducible repeat first|exact Below.refl _ _|refine zc ?_ _|refine zd ?_|refine bset' ?_ (by omega) _|refine zb ?_ (by assumption))) hb1)|(refine zbL (by rfl) (.tmp 8) (.tmp 12) 34 (by rfl) w.heap.size 111 iR _ 6 80 Tryz.underlying34 hR1 hR2 hR3 hR4 rfl (by decide) v1 k (zt (l.take k)) (by simp[Act.eval]) (by first|exact hown1|exact za4 hown1) (some ⟨b,o+(k+1)*6,none⟩) (l.length-(k+1)) (c-(k+1)) (zt (l.drop (k+1))) (by simp[Act.eval]) (R2.later (by(with_reducible repeat first|exact Below.refl _ _|refine zc ?_ _|refine zd ?_|refine bset' ?_ (by omega) _|refine zb ?_ (by assumption)))) (by unfold maxLen;omega) (by omega) (by have:=hB1.size;(try simp);omega) ?_;intro v2 wJ hown2 hb2;have hB2:Below w.heap.size w wJ:=(by first|exact hB1.trans hb2|exact hB1.drew.trans hb2)))
  rw[HM.out.2.2] at hown2;obtain⟨aJ,cJ,rfl,hN⟩:=zcB hown2 (fun x hx=>(HM.out.2.1 x hx).later hB2) HM.out.1.symm (by rw[HM.out.1];omega);have HB2:=za hB2;clear hown1 hown2 hb1 hb2 hB1 hB2 R1 R2;go_wp2;go_ret;exact⟨aJ,cJ,rfl,hN,HB2.out⟩
def zjf(w':World)(b j q:Nat)(v:Value)(r:Rq):Prop:=w'.cell? ⟨b,j,none⟩=some v∧w'.frozen? ⟨b,j,none⟩=false∧b<w'.heap.size∧q<w'.heap.size∧za3 w' q r
theorem zjf.later{w w':World}{b j q:Nat}{v:Value}{r:Rq}(h:zjf w b j q v r)(hb:Below w.heap.size w w'):zjf w' b j q v r :=
 ⟨zas hb h.1,by rw[hb.frozen (p:=⟨b,j,none⟩) h.2.2.1];exact h.2.1,Nat.lt_of_lt_of_le h.2.2.1 hb.size,Nat.lt_of_lt_of_le h.2.2.2.1 hb.size,h.2.2.2.2.later hb⟩
theorem zkF{w:World}{q c:Nat}(r:Rq)(h:za3 w q r):zaW w 6 (some ⟨q,0,none⟩) 1 c (zt [r]):=by
 refine⟨rfl,zdy _,Or.inr ⟨_,rfl,fun k u hk=>?_⟩⟩;obtain⟨i,j,hi,hj,rfl,rfl⟩:=zen hk;have:i=0:=by simp at hi;exact hi
 subst this;rw[add_mk'];obtain⟨h0,h1,h2,h3,h4,h5⟩:=h
 match j,hj with
 |0,_=>exact h0
 |1,_=>exact h1
 |2,_=>exact h2
 |3,_=>exact h3
 |4,_=>exact h4
 |5,_=>exact h5
theorem zi2{w:World}{b:Nat}{d:Rd}{a:Ra}(h:zak b d a w):zaW w 6 a.la d.busy.length a.lc (zt d.busy):=rowAll h.lrow h.lnil
theorem zjA(b:Nat)(d:Rd)(a:Ra)(r:Rq)(w:World)(h:zak b d a w)(h2:d.busy.length<2)(hr:r.At w)(ho:r.Off (a.foot b)) :
  Calls Tryz.prog 61 #[.pointer (some ⟨b,0,none⟩),r.val] w fun e w'=>∃a',e=.returned (.int .i64 0)∧a'.wa=a.wa∧zat b d a { d with busy:=d.busy++[r] } a' w w':=by
 obtain⟨iR,hR1,hR2,hR3,hR4⟩:=zaL zdX;have HI:=za (⟨hR1,hR2,hR3,hR4⟩:Tryz.prog.info? 111=some iR∧_∧_∧_);have c:=h.c65;have hl:=h.lt;have h3:((d.busy.length:Int)==2)=false:=by rw[beq_eq_false_iff_ne];omega
 have HD:=za h;have HR:=za (⟨hr,ho⟩:r.At w∧r.Off (a.foot b));have hb0:=zn w (.cells #[.bool r.wr,.int .i64 r.f,.int .i64 r.m,.slice r.da r.data.length r.dc,.slice r.ta r.tags.length r.tc,.int .i64 r.born] 111);have hS0:zjf (w.alloc (.cells #[.bool r.wr,.int .i64 r.f,.int .i64 r.m,.slice r.da r.data.length r.dc,.slice r.ta r.tags.length r.tc,.int .i64 r.born] 111)).drew b 65 w.heap.size (.slice a.la d.busy.length a.lc) r:=by
  refine zjf.later (w:=w.alloc (.cells #[.bool r.wr,.int .i64 r.f,.int .i64 r.m,.slice r.da r.data.length r.dc,.slice r.ta r.tags.length r.tc,.int .i64 r.born] 111)) ⟨(h.later hb0).c65,(h.later hb0).fz 65,(h.later hb0).lt,by simp,zb5 _ _ _⟩ (Below.refl _ _).drew
 have HS:=za hS0;have HB0:=za hb0;clear h hr ho hR1 hR2 hR3 hR4 hS0 hb0;go_enter Tryz.func61,Tryz.ntmps61;go_wp2_with fail;refine zaJ (S:=fun wz=>zjf wz b 65 w.heap.size (.slice a.la d.busy.length a.lc) r) (d:=11) (by kernel_rfl) ?_;refine tk 0 ?_ rfl (Or.inl ⟨by rfl,?_⟩) HS.out ?_;rotate_left;(focus(intro w0 hSw;obtain⟨q0,q1,q2,q3,s0,s1,s2,s3,s4,s5⟩:=hSw;go_simp;(try with_reducible rfl)));(try simp only[Act.put,dP])
 refine tk 1 ?_ rfl (Or.inl ⟨by rfl,?_⟩) HS.out ?_;rotate_left;(focus(intro w0 hSw;obtain⟨q0,q1,q2,q3,s0,s1,s2,s3,s4,s5⟩:=hSw;go_simp;(try with_reducible rfl)));(try simp only[Act.put,dP])
 refine tk 2 ?_ rfl (Or.inl ⟨by rfl,?_⟩) HS.out ?_;rotate_left;(focus(intro w0 hSw;obtain⟨q0,q1,q2,q3,s0,s1,s2,s3,s4,s5⟩:=hSw;go_simp;(try with_reducible rfl)));(try simp only[Act.put,dP])
 refine tk 3 ?_ rfl (Or.inl ⟨by rfl,?_⟩) HS.out ?_;rotate_left;(focus(intro w0 hSw;obtain⟨q0,q1,q2,q3,s0,s1,s2,s3,s4,s5⟩:=hSw;go_simp;(try with_reducible rfl)));(try simp only[Act.put,dP])
 refine tk 4 ?_ rfl (Or.inl ⟨by rfl,?_⟩) HS.out ?_;rotate_left;(focus(intro w0 hSw;obtain⟨q0,q1,q2,q3,s0,s1,s2,s3,s4,s5⟩:=hSw;go_simp;(try with_reducible rfl)));(try simp only[Act.put,dP])
 refine tk 6 ?_ rfl (Or.inl ⟨by rfl,?_⟩) HS.out ?_;rotate_left;(focus(intro w0 hSw;obtain⟨q0,q1,q2,q3,s0,s1,s2,s3,s4,s5⟩:=hSw;go_simp;(try with_reducible rfl)));(try simp only[Act.put,dP])
 refine zlh (i:=5) (j:=7) rfl rfl (by kernel_rfl) ?_ ?_
 ·intro K hK;refine zbL (by rfl) (.const (.slice none 0 0)) (.tmp 15) 34 (by rfl) (w.heap.size+1) 111 iR _ 6 80 Tryz.underlying34 HI.out.1 HI.out.2.1 HI.out.2.2.1 HI.out.2.2.2 rfl (by decide) (.slice none 0 0) 0 [] (by rfl) (World.ownsRow_nil _ _ _ _) a.la d.busy.length a.lc (zt d.busy) (by rfl) ((zi2 HD.out).later (by(with_reducible repeat first|exact Below.refl _ _|refine zc ?_ _|refine zd ?_|refine bset' ?_ (by omega) _|refine zb ?_ (by assumption)))) (by unfold maxLen;omega) (by omega) (by simp) ?_;intro v1 w1 hown1 hb1;rw[Nat.zero_add,List.nil_append] at hown1;have hB1:Below (w.heap.size+1) (w.alloc (.cells #[.bool r.wr,.int .i64 r.f,.int .i64 r.m,.slice r.da r.data.length r.dc,.slice r.ta r.tags.length r.tc,.int .i64 r.born] 111)).drew w1:=by simpa using hb1
  have HS1:=za (HS.out.later (w':=w1) (by simpa using hb1));have HO1:=za hown1;have HB1:=za hB1;clear hown1 hb1 hB1;refine hK _ _ (fun _=>HS1.out) ?_
  (try simp only[Act.put,dP])
  clear hK;refine zw (i:=7) rfl (by kernel_rfl) ?_;intro K hK;go_simp;refine hK _ _ (fun _=>HS1.out.later (zn _ _)) ?_;(try simp only[Act.put,dP]);clear hK;refine zw (i:=8) rfl (by kernel_rfl) ?_;intro K hK;refine zbL (by rfl) (.tmp 16) (.tmp 18) 34 (by rfl) (w.heap.size+1) 111 iR _ 6 80 Tryz.underlying34 HI.out.1 HI.out.2.1 HI.out.2.2.1 HI.out.2.2.2 rfl (by decide) v1 d.busy.length (zt d.busy) (by rfl) (HO1.out.alloc _) (some ⟨w1.heap.size,0,none⟩) 1 1 (zt [r]) (by rfl) (zkF r (zb5 w1 _ r)) (by unfold maxLen;omega) (by omega) (by have:=HB1.out.size;simp at this ⊢;omega) ?_;intro v2 w2 hown2 hb2;have hB2:Below (w.heap.size+1) (w.alloc (.cells #[.bool r.wr,.int .i64 r.f,.int .i64 r.m,.slice r.da r.data.length r.dc,.slice r.ta r.tags.length r.tc,.int .i64 r.born] 111)).drew w2:=(HB1.out.alloc (by have:=HB1.out.size;simp at this ⊢;omega) _).trans hb2;have HS2:=za (HS.out.later (w':=w2) (by simpa using hB2));have hBw:Below w.heap.size w w2:=(HB0.out.drew).trans (hB2.mono (by omega));rw[←zaM] at hown2;obtain⟨aJ,cJ,rfl,hN⟩:=zcB (l:=d.busy++[r]) hown2 (fun x hx=>by rcases List.mem_append.1 hx with hx'|hx';exact(HD.out.lrow.2.1 x hx').later hBw;(rw[List.mem_singleton.1 hx'];exact HR.out.1.later hBw)) (by simp) (by simp;omega);have HST:=za (HD.out.busied hBw (d.busy++[r]) (by simp;omega) aJ cJ hN.here hN.nil hN.cap (fun _ p hp=>by have:=hN.new p hp;omega) (fun x hx=>by rcases List.mem_append.1 hx with hx'|hx';exact⟨HD.out.lrow.2.1 x hx',HD.out.reqs x hx'⟩;(rw[List.mem_singleton.1 hx'];exact HR.out)));clear hown2 hb2 hB2 hBw hN;refine hK _ _ (fun _=>HS2.out) ?_;(try simp only[Act.put,dP]);clear hK;refine zw (i:=9) rfl (by kernel_rfl) ?_;intro K hK;go_simp;refine hK _ _ (fun _=>HS2.out) ?_;(try simp only[Act.put,dP]);clear hK;refine zw (i:=10) rfl (by kernel_rfl) ?_;intro K hK;go_simp;refine hK _ _ (fun _=>HS2.out) ?_;(try simp only[Act.put,dP]);clear hK;obtain⟨x0,x1,x2,x3,-⟩:=id HS2.out;refine zw (i:=11) rfl (by kernel_rfl) ?_;intro K hK;go_simp;refine hK _ _ (fun h=>absurd rfl h) ?_;(try simp only[Act.put,dP]);clear hK;refine zaO (by kernel_rfl) ?_ _;go_wp2;go_ret;exact⟨{ a with la:=aJ,lc:=cJ },rfl,rfl,by have:=HST.out;rw[List.length_append,List.length_singleton] at this;exact this⟩
 ·intro K hK;go_simp;refine hK _ _ (fun _=>HS.out.later (zn _ _)) ?_
  (try simp only[Act.put,dP])
  clear hK;refine zw (i:=5) rfl (by kernel_rfl) ?_;intro K hK;refine zbL (by rfl) (.const (.slice none 0 0)) (.tmp 15) 34 (by rfl) (w.heap.size+2) 111 iR _ 6 80 Tryz.underlying34 HI.out.1 HI.out.2.1 HI.out.2.2.1 HI.out.2.2.2 rfl (by decide) (.slice none 0 0) 0 [] (by rfl) (World.ownsRow_nil _ _ _ _) a.la d.busy.length a.lc (zt d.busy) (by rfl) ((zi2 HD.out).later (by(with_reducible repeat first|exact Below.refl _ _|refine zc ?_ _|refine zd ?_|refine bset' ?_ (by omega) _|refine zb ?_ (by assumption)))) (by unfold maxLen;omega) (by omega) (by simp) ?_;intro v1 w1 hown1 hb1;rw[Nat.zero_add,List.nil_append] at hown1;have hX1:za3 w1 (w.heap.size+1) r:=by
   have:=((zb5 (w.alloc (.cells #[.bool r.wr,.int .i64 r.f,.int .i64 r.m,.slice r.da r.data.length r.dc,.slice r.ta r.tags.length r.tc,.int .i64 r.born] 111)) 111 r).later (Below.refl _ _).drew).later (w':=w1) (by simpa using hb1)
   simpa using this
  have HX1:=za hX1;have hB1:Below (w.heap.size+1) (w.alloc (.cells #[.bool r.wr,.int .i64 r.f,.int .i64 r.m,.slice r.da r.data.length r.dc,.slice r.ta r.tags.length r.tc,.int .i64 r.born] 111)).drew w1:=Below.trans ((Below.refl _ _).alloc (by simp) _) (hb1.mono (by omega));have HS1:=za (HS.out.later (w':=w1) (by simpa using hB1));have HO1:=za hown1;have HB1:=za hB1;have HBX:=za hb1;clear hown1 hb1 hB1 hX1;refine hK _ _ (fun _=>HS1.out) ?_
  (try simp only[Act.put,dP])
  clear hK;refine zw (i:=8) rfl (by kernel_rfl) ?_;intro K hK;refine zbL (by rfl) (.tmp 16) (.tmp 18) 34 (by rfl) (w.heap.size+1) 111 iR _ 6 80 Tryz.underlying34 HI.out.1 HI.out.2.1 HI.out.2.2.1 HI.out.2.2.2 rfl (by decide) v1 d.busy.length (zt d.busy) (by rfl) (ownsRow_le' HO1.out (by omega)) (some ⟨w.heap.size+1,0,none⟩) 1 1 (zt [r]) (by rfl) (zkF r HX1.out) (by unfold maxLen;omega) (by omega) (by have:=HB1.out.size;simp at this ⊢;omega) ?_;intro v2 w2 hown2 hb2;have hB2:Below (w.heap.size+1) (w.alloc (.cells #[.bool r.wr,.int .i64 r.f,.int .i64 r.m,.slice r.da r.data.length r.dc,.slice r.ta r.tags.length r.tc,.int .i64 r.born] 111)).drew w2:=HB1.out.trans hb2;have HS2:=za (HS.out.later (w':=w2) (by simpa using hB2));have hBw:Below w.heap.size w w2:=(HB0.out.drew).trans (hB2.mono (by omega));rw[←zaM] at hown2;obtain⟨aJ,cJ,rfl,hN⟩:=zcB (l:=d.busy++[r]) hown2 (fun x hx=>by rcases List.mem_append.1 hx with hx'|hx';exact(HD.out.lrow.2.1 x hx').later hBw;(rw[List.mem_singleton.1 hx'];exact HR.out.1.later hBw)) (by simp) (by simp;omega);have HST:=za (HD.out.busied hBw (d.busy++[r]) (by simp;omega) aJ cJ hN.here hN.nil hN.cap (fun _ p hp=>by have:=hN.new p hp;omega) (fun x hx=>by rcases List.mem_append.1 hx with hx'|hx';exact⟨HD.out.lrow.2.1 x hx',HD.out.reqs x hx'⟩;(rw[List.mem_singleton.1 hx'];exact HR.out)));clear hown2 hb2 hB2 hBw hN;refine hK _ _ (fun _=>HS2.out) ?_;(try simp only[Act.put,dP]);clear hK;refine zw (i:=9) rfl (by kernel_rfl) ?_;intro K hK;go_simp;refine hK _ _ (fun _=>HS2.out) ?_;(try simp only[Act.put,dP]);clear hK;refine zw (i:=10) rfl (by kernel_rfl) ?_;intro K hK;go_simp;refine hK _ _ (fun _=>HS2.out) ?_;(try simp only[Act.put,dP]);clear hK;obtain⟨x0,x1,x2,x3,-⟩:=id HS2.out;refine zw (i:=11) rfl (by kernel_rfl) ?_;intro K hK;go_simp;refine hK _ _ (fun h=>absurd rfl h) ?_;(try simp only[Act.put,dP]);clear hK;refine zaO (by kernel_rfl) ?_ _;go_wp2;go_ret;exact⟨{ a with la:=aJ,lc:=cJ },rfl,rfl,by have:=HST.out;rw[List.length_append,List.length_singleton] at this;exact this⟩
end Go.Proofs.YtlhgjplipgandaaGreat
