/- Joined. -/
import Derived.Maps.OwnSet
import Derived.Maps.OwnOps
import Derived.Maps.Views
import Derived.Test.YtlhgjplipgandaaGreatDoorF2
set_option maxRecDepth 100000
set_option maxHeartbeats 8000000
set_option linter.unusedSimpArgs false
set_option linter.unusedSectionVars false
namespace Go.Proofs.YtlhgjplipgandaaGreatDoor
open Tryz
section
open Go.RowKit Go.BigFrame
theorem Ex{P:Program}(w:World)(t:TypeId)(ps rs:Array TypeId)(vd:Bool)(f:Fn)(x c:Array Value)(h:P.underlying t=some (.func ps rs vd)) :
 (binOp .eql t (.func f x c) .nilFunc).run P w=.ok (.bool false) w:=by
 have h1:∀d,(Op.equalIn (d+1) t (.func f x c) .nilFunc).run P w=.ok false w:=fun d=>by simp[Op.equalIn,run_underlying h]
 simp only[binOp]
 simp[Op.equal,Op.maxDepth,h1 9999]
def eu(d:Bool)(H:Int->Bool)(x:Bf):Bool:=(x.bM==d)&&!H x.pl
theorem Wl(x:Bf)(d:Bool)(gh:Nat)(zq:∀args w,(callFunc gh args).run prog w=.ok (.enter gh args) w)(hc:Array Value)(H:Int->Bool)(b1 o1 b2 o2:Nat)(w:World)
 (h1:w.cell? ⟨b1,o1,none⟩=some (.bool d)) (h2:w.cell? ⟨b2,o2,none⟩=some (.func (.func gh) #[] hc))
 (hh:∀w',bL w w'->Calls prog gh (#[i6 x.pl]++hc) w' (rB (.bool (H x.pl)) w')) :
 Calls prog 165 #[x.val,.pointer (some ⟨b1,o1,none⟩),.pointer (some ⟨b2,o2,none⟩)] w (rB (.bool (eu d H x)) w):=by
 have q51:∀(w:World) (f:Fn) (x c:Array Value),(binOp .eql 104 (.func f x c) .nilFunc).run prog w=.ok (.bool false) w:=fun w f x c=>Ex w _ _ _ _ f x c underlying104
 have tH:=uv h1;have pq:=uv h2;unfold eu
 cases hd:(x.bM==d)
 ·clear hh;go_enter func165,ntmps165;go_wp2;go_ret;exact⟨rfl,bQ⟩
 ·have hq:=hh (w.alloc (.cells #[i6 x.pl,.string x.data,.bool x.bM,i6 x.used] 137)) (aA _ _);clear hh
  cases hH:H x.pl
  all_goals
   rw[hH] at hq;have HQ:=aB hq;clear hq;go_enter func165,ntmps165;go_wp2_with fail;refine afT HQ.out ?_;rintro e w1 ⟨rfl,hb⟩;go_wp2;go_ret;exact⟨rfl,bQ⟩
theorem rC(d:Bool)(gh:Nat)(zq:∀args w,(callFunc gh args).run prog w=.ok (.enter gh args) w)(hc:Array Value)(H:Int->Bool)(l:List Bf)(a:Option Addr)(c:Nat)(w:World)(hl:bA w a l)
 (hh:∀n w',bL w w'->Calls prog gh (#[i6 n]++hc) w' (rB (.bool (H n)) w')) (r:Int) (hr:dz (eu d H) l l.length=r) :
 Calls prog 121 #[.slice a l.length c,.bool d,.func (.func gh) #[] hc] w (rB (i6 r) w):=by
 subst hr;have HH:=aB hh;clear hh;go_enter func121,ntmps121;go_wp2_with fail;refine cM (Qq (.pointer (some ⟨w.heap.size,0,none⟩)) (.pointer (some ⟨w.heap.size+1,0,none⟩)) (eu d H) l a c _ (hl.later (jo _ _ _)) (fun x w' hb=>Wl x d gh zq hc H w.heap.size 0 (w.heap.size+1) 0 w' (ai hb sM) (ai hb sM) (fun eZ hJ=>HH.out x.pl eZ (af (af (jo _ _ _) hb) hJ)))) ?_;intro w1 HB;go_wp2;go_ret;exact⟨rfl,bQ⟩
theorem aam(gh:Nat)(zq:∀args w,(callFunc gh args).run prog w=.ok (.enter gh args) w)(hc:Array Value)(H:Int->Bool)(l:List Bf)(a:Option Addr)(c:Nat)(w:World)(hl:bA w a l)
 (hh:∀n w',bL w w'->Calls prog gh (#[i6 n]++hc) w' (rB (.bool (H n)) w')) (hr:dz (eu true H) l l.length=-1) :
 Calls prog 79 #[.slice a l.length c,.func (.func gh) #[] hc] w (rB (i6 (-1)) w):=by
 have HH:=aB hh;have HR:=aB hr;clear hh hr;go_enter func79,ntmps79;go_wp2_with fail;refine cM (rC true gh zq hc H l a c _ hl HH.out _ HR.out) ?_;intro w1 HB;go_wp2;go_ret;exact⟨rfl,bQ⟩
theorem Xe(gh:Nat)(zq:∀args w,(callFunc gh args).run prog w=.ok (.enter gh args) w)(hc:Array Value)(H:Int->Bool)(l:List Bf)(a:Option Addr)(c:Nat)(w:World)(hl:bA w a l)
 (hh:∀n w',bL w w'->Calls prog gh (#[i6 n]++hc) w' (rB (.bool (H n)) w')) (k:Nat) (hk:k<l.length) (hr:dz (eu true H) l l.length=k) :
 Calls prog 79 #[.slice a l.length c,.func (.func gh) #[] hc] w (rB (i6 l[k].pl) w):=by
 have h0:l ≠ []:=by rintro rfl;exact absurd hk (aa0 _)
 obtain⟨b,o,rfl⟩:=hl.form.resolve_left h0;have bo:=hl.2;have HH:=aB hh;have HR:=aB hr;clear hh hr h0;go_enter func79,ntmps79;go_wp2_with fail;refine cM (rC true gh zq hc H l _ c _ hl HH.out _ HR.out) ?_;intro w1 HB;obtain⟨c0,c1,c2,c3⟩:=(hl.later HB).cells hk;go_wp2;go_ret;exact⟨rfl,bQ⟩
theorem Ps{s t:ByteArray}(h:¬s=t):(s.toList==t.toList)=false:=by
 rw[aaU];intro e;apply h;rw[afm,afm] at e;have e':s.data=t.data:=by rw[<-afn];exact e
 cases s;cases t;simp_all
theorem Pr{s t:ByteArray}(h:s=t):(s.toList==t.toList)=true:=by rw[h];simp
theorem bA.set{w:World}{b o:Nat}{l:List Bf}(h:bA w (some ⟨b,o,none⟩) l){k:Nat}(hk:k<l.length)(j:Nat)(hj:j<4)(x:Bf)(u:Value)(hu:x.cell j=u)(hx:∀i,i<4->i ≠ j->x.cell i=l[k].cell i) :
 bA (w.setCell ⟨b,o+k*4+j,none⟩ u) (some ⟨b,o,none⟩) (l.set k x):=by
 rcases h.1 with rfl|⟨b',o',ha,hc⟩
 ·exact absurd hk (aa0 _)
 ·simp only[aa4,aci,acS] at ha;obtain⟨rfl,rfl⟩:=ha;refine⟨ir ⟨b,o,rfl,fun i hi m hm=>?_⟩,by rw[abS];exact h.2⟩;have pL:i<l.length:=by simpa using hi
  by_cases e:i=k
  ·subst e;rw[afc]
   by_cases e':m=j
   ·subst e';rw[hu];exact aa2 _ _ _ (hc i pL m hm)
   ·rw[hx m hm e',aa6 _ _ _ _ (fun e=>by injection e with _ e2 _;omega)];exact hc i pL m hm
  ·rw[afb (fun h=>e h.symm),aa6 _ _ _ _ (fun e3=>by injection e3 with _ e2 _;omega)];exact hc i pL m hm
def fO(l:List Bf)(at':Int)(data:ByteArray):List Bf:=l.map fun x=>if x.pl=at'/\x.data=data then { x with bM:=false } else x
def xQ(l:List Bf):Prop:=∀i j (hi:i<l.length) (hj:j<l.length),l[i].pl=l[j].pl->i=j
theorem V0{l:List Bf}{at':Int}{data:ByteArray}(h:ej (eP at') l=-1):fO l at' data=l:=by
 rcases jF (eP at') l with⟨_,h1⟩|⟨k,hk,e,_⟩
 ·apply afL (by simp[fO]);intro i hi h2;simp only[fO,afp];have:=h1 i h2;simp only[eP,aaU] at this;rw[aaP (fun h=>this h.1)]
 ·rw[h] at e;omega
theorem MX{l:List Bf}{at':Int}{data:ByteArray}{k:Nat}(hk:k<l.length)(ho:xQ l)(h:ej (eP at') l=k)(hd:¬l[k].data=data):fO l at' data=l:=by
 have hp:l[k].pl=at':=by
  rcases jF (eP at') l with⟨e,_⟩|⟨k',eH,e,h2,_⟩
  ·rw[h] at e;omega
  ·have:k'=k:=oM;subst this
   simpa [eP] using h2
 apply afL (by simp[fO]);intro i hi h2;simp only[fO,afp]
 by_cases c:l[i].pl=at'/\l[i].data=data
 ·have:=ho i k h2 hk (c.1.trans hp.symm);subst this;exact absurd c.2 hd
 ·rw[aaP c]
theorem Si{l:List Bf}{at':Int}{data:ByteArray}{k:Nat}(hk:k<l.length)(ho:xQ l)(h:ej (eP at') l=k)(hd:l[k].data=data):fO l at' data=l.set k { l[k] with bM:=false }:=by
 have hp:l[k].pl=at':=by
  rcases jF (eP at') l with⟨e,_⟩|⟨k',eH,e,h2,_⟩
  ·rw[h] at e;omega
  ·have:k'=k:=oM;subst this
   simpa [eP] using h2
 apply afL (by simp[fO]);intro i hi h2;rw[abS] at h2;simp only[fO,afp]
 by_cases e:i=k
 ·subst e;rw[afc,aaV ⟨hp,hd⟩]
 ·rw[afb (fun h=>e h.symm),aaP (fun c=>e (ho i k h2 hk (c.1.trans hp.symm)))]
structure kZ(l:List Bf):Prop where
 len:l.length<=8
 ok:∀i (h:i<l.length),0<=l[i].pl/\l[i].pl<=31/\l[i].data.size<=10
 mr:∀i (h:i+1<l.length),l[i].pl<l[i+1].pl
theorem kZ.lt{l:List Bf}(h:kZ l):∀(d i:Nat) (hj:i+d+1<l.length),l[i].pl<l[i+d+1].pl:=by
 intro d
 induction d with
 |zero=>intro i hj;exact h.mr i hj
 |succ d ih =>
  intro i hj;have a:=ih i oM;have b:=h.mr (i+d+1) oM;have e:i+(d+1)+1=i+d+1+1:=oM;simp only[e]
  omega
theorem kZ.DR{l:List Bf}(h:kZ l)(i j:Nat)(qB:i<j)(hj:j<l.length):(l[i]'oM).pl<l[j].pl:=by
 have:=h.lt (j-i-1) i oM;have e:i+(j-i-1)+1=j:=oM;simp only[e] at this;exact this
theorem kZ.once{l:List Bf}(h:kZ l):xQ l:=by
 intro i j hi hj e
 rcases Nat.lt_trichotomy i j with h'|h'|h'
 ·have:=h.DR i j h' hj;omega
 ·exact h'
 ·have:=h.DR j i h' hi;omega
def EY(w:World)(pb:Nat)(B:Nat->Bool):Prop:=∀i,i<32->w.cell? ⟨pb,i,none⟩=some (.bool (B i))
theorem EY.later{w w':World}{pb:Nat}{B:Nat->Bool}(h:EY w pb B)(hb:bL w w'):EY w' pb B:=fun i hi=>ai hb (h i hi)
def lu(B:Nat->Bool)(n:Int):Bool:=decide (0<=n)&&(decide (n<32)&&B n.toNat)
def kT(l:List Bf)(at' now:Int):List Bf:=l.map fun x=>if x.pl=at' then { x with used:=now } else x
theorem adC{l:List Bf}{at' now:Int}(h:ej (eP at') l=-1):kT l at' now=l:=by
 rcases jF (eP at') l with⟨_,h1⟩|⟨k,hk,e,_⟩
 ·apply afL (by simp[kT]);intro i hi h2;simp only[kT,afp];have:=h1 i h2;simp only[eP,aaU] at this;rw[aaP this]
 ·rw[h] at e;omega
theorem aaK{l:List Bf}{at' now:Int}{k:Nat}(hk:k<l.length)(ho:xQ l)(h:ej (eP at') l=k):kT l at' now=l.set k { l[k] with used:=now }:=by
 have hp:l[k].pl=at':=by
  rcases jF (eP at') l with⟨e,_⟩|⟨k',eH,e,h2,_⟩
  ·rw[h] at e;omega
  ·have:k'=k:=oM;subst this
   simpa [eP] using h2
 apply afL (by simp[kT]);intro i hi h2;rw[abS] at h2;simp only[kT,afp]
 by_cases e:i=k
 ·subst e;rw[afc,aaV hp]
 ·rw[afb (fun h=>e h.symm),aaP (fun c=>e (ho i k h2 hk (c.trans hp.symm)))]
def gy(a b:Rq):Bool:=decide (a.f+a.m=b.f)&&((a.wr==b.wr)&&(decide (a.m+b.m<=4)&&decide (a.tags.length+b.tags.length<=4)))
theorem bz.mi{r:Rq}(h:bz r):0<=r.f/\r.f<=31/\1<=r.m/\r.m<=4/\r.m<=32-r.f:=by
 have:=h.ok;simp only[gK,aba] at this
 omega
theorem EG{f m:Int}(h0:0<=f)(h1:f<=100)(h2:0<=m)(h3:m<=100):wrap64 (f+m)=f+m:=by
 unfold wrap64;omega
theorem aaI(a b:Rq)(w:World)(ha:bz a)(hb:bz b) :
 Calls prog 205 #[a.val,b.val] w (rB (.bool (gy a b)) w):=by
 obtain⟨x1,x2,x3,x4,x5⟩:=ha.mi;obtain⟨y1,y2,y3,y4,y5⟩:=hb.mi;have OR:=ha.t4;have OS:=hb.t4;have e1:wrap64 (a.f+a.m)=a.f+a.m:=EG oM oM oM oM;have hn:(wrap64 (a.f+a.m)==b.f)=decide (a.f+a.m=b.f):=by rw[e1];rfl
 clear ha hb e1;have HT:Hid (gy a b=(decide (a.f+a.m=b.f)&&((a.wr==b.wr)&&(decide (a.m+b.m<=4)&&decide (a.tags.length+b.tags.length<=4))))):=rfl;generalize gy a b=R at HT ⊢;have e2:IntKind.i64.wrap (a.m+b.m)=a.m+b.m:=by rw[abr];omega
 have e3:IntKind.i64.wrap ((a.tags.length:Int)+(b.tags.length:Int))=(a.tags.length:Int)+(b.tags.length:Int):=by rw[abr];omega
 have e4:decide (a.tags.length+b.tags.length<=4)=decide ((a.tags.length:Int)+(b.tags.length:Int)<=4):=by rw[decide_eq_decide];omega
 replace HT:Hid (R=(decide (a.f+a.m=b.f)&&((a.wr==b.wr)&&(decide (a.m+b.m<=4)&&decide ((a.tags.length:Int)+(b.tags.length:Int)<=4))))):=by rw[<-e4];exact HT
 clear e4
 cases h1:decide (a.f+a.m=b.f)
 ·rw[h1] at hn;rw[h1] at HT;clear h1;obtain rfl:R=false:=HT.out;clear HT;go_enter func205,ntmps205;go_wp2_with fail
  go_at_call 204;refine cM (o4 _ _ _ _ _ _ hn) ?_;intro w1 hb;(try clear hc hf hz);(first|replace HB:=af HB hb|replace HB:=af (aj HB) hb|have HB:=hb);clear hb;obtain⟨hc,hf,hz⟩:=br HB
  go_wp2;go_ret;exact⟨rfl,bQ⟩
 ·rw[h1] at hn HT;clear h1
  cases h2:(a.wr==b.wr)
  ·rw[h2] at HT;obtain rfl:R=false:=HT.out;clear HT;go_enter func205,ntmps205;go_wp2_with fail
   go_at_call 204;refine cM (o4 _ _ _ _ _ _ hn) ?_;intro w1 hb;(try clear hc hf hz);(first|replace HB:=af HB hb|replace HB:=af (aj HB) hb|have HB:=hb);clear hb;obtain⟨hc,hf,hz⟩:=br HB
   go_wp2;go_ret;exact⟨rfl,bQ⟩
  ·rw[h2] at HT
   cases h3:decide (a.m+b.m<=4)
   ·rw[h3] at HT;obtain rfl:R=false:=HT.out;clear HT;go_enter func205,ntmps205;go_wp2_with fail
    go_at_call 204;refine cM (o4 _ _ _ _ _ _ hn) ?_;intro w1 hb;(try clear hc hf hz);(first|replace HB:=af HB hb|replace HB:=af (aj HB) hb|have HB:=hb);clear hb;obtain⟨hc,hf,hz⟩:=br HB
    go_wp2;go_ret;exact⟨rfl,bQ⟩
   ·rw[h3] at HT;obtain rfl:R=decide ((a.tags.length:Int)+(b.tags.length:Int)<=4):=HT.out;clear HT;go_enter func205,ntmps205;go_wp2_with fail
    go_at_call 204;refine cM (o4 _ _ _ _ _ _ hn) ?_;intro w1 hb;(try clear hc hf hz);(first|replace HB:=af HB hb|replace HB:=af (aj HB) hb|have HB:=hb);clear hb;obtain⟨hc,hf,hz⟩:=br HB
    go_wp2;go_ret;exact⟨rfl,bQ⟩
theorem vX(l:List Bf)(a:Option Addr)(c:Nat)(at':Int)(w:World)(hl:bA w a l)(h:ej (eP at') l=-1) :
 Calls prog 99 #[.slice a l.length c,i6 at'] w (rB (.tuple #[JV,.bool false]) w):=by
 have bo:=hl.2;have dV:∀j (hj:j<l.length),(l[j].pl==at')=false:=by
  rcases jF (eP at') l with⟨_,h1⟩|⟨k,hk,e,_⟩
  ·exact h1
  ·rw[h] at e;omega
 have HN:=aB dV;clear dV h;go_enter func99,ntmps99;go_wp2
 go_loopw[6] (fun i wr=>∃k:Nat,k<=l.length/\i=i6 k/\Below (w.alloc (.cells #[i6 0,.string ⟨#[]⟩,.bool false,i6 0] 137)).heap.size (w.alloc (.cells #[i6 0,.string ⟨#[]⟩,.bool false,i6 0] 137)) wr) (fun i _=>l.length-(intOf i).toNat)
 case atStart=>exact⟨0,oM,rfl,aX _ _⟩
 case round =>
  obtain⟨k,hk,rfl,HB⟩:=hrel;obtain⟨⟨m0,m1,m2,m3⟩,⟨f0,f1,f2,f3⟩,hz⟩:=C6 HB;have aN:bL w wr:=af (aA _ _) HB
  by_cases au:k<l.length
  ·have h0:l ≠ []:=by rintro rfl;exact absurd au (aa0 _)
   obtain⟨b,o,rfl⟩:=hl.form.resolve_left h0;obtain⟨c0,c1,c2,c3⟩:=(hl.later aN).cells au;have eH:=HN.out k au;clear HN h0;go_wp2;go_roundw
   case rel=>exact⟨k+1,oM,gN,HB⟩
   case measure=>simp[intOf];omega
  ·clear HB;go_wp2;refine aaY (v:=.tuple #[JV,.bool false]) ?_ rfl ⟨rfl,bQ⟩
   simp[results,results99,go_sem,m0,m1,m2,m3]
theorem xA(l:List Bf)(a:Option Addr)(c:Nat)(at':Int)(w:World)(hl:bA w a l)(j:Nat)(hj:j<l.length)(h:ej (eP at') l=j) :
 Calls prog 99 #[.slice a l.length c,i6 at'] w (rB (.tuple #[l[j].val,.bool true]) w):=by
 have bo:=hl.2;have dV:(l[j].pl==at')=true/\∀i (hi:i<j),((l[i]'oM).pl==at')=false:=by
  rcases jF (eP at') l with⟨e,_⟩|⟨k,hk,e,h1,h2⟩
  ·rw[h] at e;omega
  ·have:k=j:=by rw[h] at e;omega
   subst this;exact⟨h1,h2⟩
 obtain⟨ac8,dV⟩:=dV;have acN:∀i (hi:i<l.length),i<j->(l[i].pl==at')=false:=fun i _ qB=>dV i qB
 have HN:=aB acN;have HY:=aB ac8;clear dV acN ac8 h;have h0:l ≠ []:=by rintro rfl;exact absurd hj (aa0 _)
 obtain⟨b,o,rfl⟩:=hl.form.resolve_left h0;have lb:=ar (hl.cells hj).1;clear h0;go_enter func99,ntmps99;go_wp2
 go_loopw[6] (fun i wr=>∃k:Nat,k<=j/\i=i6 k/\Below (w.alloc (.cells #[i6 0,.string ⟨#[]⟩,.bool false,i6 0] 137)).heap.size (w.alloc (.cells #[i6 0,.string ⟨#[]⟩,.bool false,i6 0] 137)) wr) (fun i _=>l.length-(intOf i).toNat)
 case atStart=>exact⟨0,oM,rfl,aX _ _⟩
 case round =>
  obtain⟨k,hk,rfl,HB⟩:=hrel;obtain⟨⟨m0,m1,m2,m3⟩,⟨f0,f1,f2,f3⟩,hz⟩:=C6 HB;have aN:bL w wr:=af (aA _ _) HB;have au:k<l.length:=oM;obtain⟨c0,c1,c2,c3⟩:=(hl.later aN).cells au;have l0:=ar c0;have n1:b ≠ w.heap.size:=oM
  by_cases hkj:k=j
  ·subst hkj;have eH:=HY.out;clear HN HY HB;go_wp2;refine aaY (v:=.tuple #[l[k].val,.bool true]) ?_ rfl ⟨rfl,bQ⟩
   simp[results,results99,go_sem,m0,m1,m2,m3]
  ·have eH:=HN.out k au oM;clear HN HY;go_wp2;go_roundw
   case rel=>exact⟨k+1,oM,gN,HB⟩
   case measure=>simp[intOf];omega
def j9(l:List Bf):Nat->Nat
 |0=>0
 |k+1=>match l[k]? with|some x=>(if x.bM then j9 l k+1 else j9 l k)|none=>j9 l k
theorem Ak{l:List Bf}{k:Nat}(h:k<l.length)(hd:l[k].bM=true):j9 l (k+1)=j9 l k+1:=by
 rw[j9,aaX h];simp[hd]
theorem BB{l:List Bf}{k:Nat}(h:k<l.length)(hd:l[k].bM=false):j9 l (k+1)=j9 l k:=by
 rw[j9,aaX h];simp[hd]
theorem Iq(l:List Bf)(k:Nat):j9 l k<=k:=by
 induction k with
 |zero=>exact aaO _
 |succ k ih =>
  rw[j9]
  split
  ·split<;>omega
  ·omega
theorem F9(l:List Bf)(a:Option Addr)(c:Nat)(w:World)(hl:bA w a l)(n:Nat)(hn:j9 l l.length=n) :
 Calls prog 61 #[.slice a l.length c] w (rB (i6 n) w):=by
 subst hn;have bo:=hl.2;go_enter func61,ntmps61;go_wp2
 go_loopw[3,4] (fun n i wr=>∃k:Nat,k<=l.length/\i=i6 k/\n=i6 (j9 l k)/\bL w wr) (fun n i _=>l.length-(intOf i).toNat)
 case atStart=>exact⟨0,oM,rfl,rfl,bQ⟩
 case round =>
  obtain⟨k,hk,rfl,rfl,HB⟩:=hrel;have hd:=Iq l k
  by_cases au:k<l.length
  ·have h0:l ≠ []:=by rintro rfl;exact absurd au (aa0 _)
   obtain⟨b,o,rfl⟩:=hl.form.resolve_left h0;obtain⟨c0,c1,c2,c3⟩:=(hl.later HB).cells au;clear h0
   cases ij:l[k].bM
   ·have HD:=aB (BB au ij);rw[ij] at c2;clear ij;go_wp2;go_roundw
    case rel=>exact⟨k+1,oM,gN,by rw[HD.out],bQ⟩
    case measure=>simp[intOf];omega
   ·have HD:=aB (Ak au ij);rw[ij] at c2;clear ij;go_wp2;go_roundw
    case rel=>exact⟨k+1,oM,gN,by rw[HD.out];go_num,bQ⟩
    case measure=>simp[intOf];omega
  ·obtain rfl:k=l.length:=oM;go_wp2;go_ret;exact⟨rfl,bQ⟩
theorem SA(l:List Bf)(a:Option Addr)(c:Nat)(w:World)(hl:bA w a l)(n:Nat)(hn:j9 l l.length=n) :
 Calls prog 72 #[.slice a l.length c] w (rB (i6 n) w):=by
 subst hn;have bo:=hl.2;go_enter func72,ntmps72;go_wp2
 go_loopw[3,8] (fun n i wr=>∃k:Nat,k<=l.length/\i=i6 k/\n=i6 (j9 l k)/\bL w wr) (fun n i _=>l.length-(intOf i).toNat)
 case atStart=>exact⟨0,oM,rfl,rfl,bQ⟩
 case round =>
  obtain⟨k,hk,rfl,rfl,HB⟩:=hrel;have hd:=Iq l k
  by_cases au:k<l.length
  ·have h0:l ≠ []:=by rintro rfl;exact absurd au (aa0 _)
   obtain⟨b,o,rfl⟩:=hl.form.resolve_left h0;obtain⟨c0,c1,c2,c3⟩:=(hl.later HB).cells au;clear h0
   cases ij:l[k].bM
   ·have HD:=aB (BB au ij);rw[ij] at c2;clear ij;go_wp2;go_roundw
    case rel=>exact⟨k+1,oM,gN,by rw[HD.out],bQ⟩
    case measure=>simp[intOf];omega
   ·have HD:=aB (Ak au ij);rw[ij] at c2;clear ij;go_wp2;go_roundw
    case rel=>exact⟨k+1,oM,gN,by rw[HD.out];go_num,bQ⟩
    case measure=>simp[intOf];omega
  ·obtain rfl:k=l.length:=oM;go_wp2;go_ret;exact⟨rfl,bQ⟩
end
section
open Go.RowKit Go.BigFrame Go.Maps
theorem yM{bm:Nat}{W w w':World}(h:bL W w)(ht:w.mapTurned w' bm)(hb:W.heap.size<=bm):bL W w':=by
 have g:=ht.grown;have hs:=h.size;exact⟨g.os.trans h.os,g.tape.trans h.tape,g.output.trans h.output,abb h.size g.size,fun k hk=>(g.block k oM (fun e=>by have:=abY e;omega)).trans (h.block k hk)⟩
theorem qh{P:Program}(w:World){ops:Array Oper}{rest:List Oper}{o:Oper}{a:Act}{Q:Exit->Act->World->Prop}(hg:o.guard=none)(m x v:Operand)(t:TypeId)(qY:o.op=Op.insert t m x v)
 (k e:TypeId) (K:Keyed P k) (ht:P.underlying t=some (.map k e)) (R:Value->Option (DataW Unit × List MemPlace)) (b n:Nat) (D:DataW Unit)
 (hm:a.eval m=.map (some b)) (bu:w.ownsMap P k R b n D) (hn:n<maxLen) (key val:Value) (kl:Lit) (hx:a.eval x=key) (hv:a.eval v=val) (cV:keyOf P k key=some kl)
 (d:DataW Unit) (ps:List MemPlace) (hval:R val=some (d,ps))
 (hK:∀w',w'.ownsMap P k R b (n+1) (D.put kl d)->w.mapTurned w' b->wpList P ops Q rest (a.put o.dst undef) w') :
 wpList P ops Q (o::rest) a w:=by
 refine wpList_plain hg fun K' hK'=>?_
 obtain⟨w',gY,r1,r2⟩:=bu.store K ht hn cV hval;unfold Oper.wp
 simp[execOp,qY,hm,hx,hv,gY,Result.andThen]
 exact hK' _ _ (hK w' r1 r2)
def GG(w0:World)(k:Nat)(D:DataW Unit)(w':World):Prop:=w'.ownsMap prog 9 (plainElem prog 3) w0.heap.size k D/\bL w0 w'
theorem WV(w0:World):GG w0 0 (.map []) (w0.alloc (.map #[] 0)):=⟨agf w0 _ _ _,aA w0 _⟩
def FQ:ByteArray:=⟨#[114,101,97,100]⟩
def CX:ByteArray:=⟨#[119,114,105,116,101]⟩
def FR:ByteArray:=⟨#[115,121,110,99]⟩
theorem Az{D:DataW Unit}(h:IsMap D)(k:Lit)(d:DataW Unit):IsMap (D.put k d):=by
 obtain⟨l,rfl⟩:=h;exact⟨_,rfl⟩
theorem ED{s t:ByteArray}(h:¬s=t):(Lit.string s.data.toList) ≠ (Lit.string t.data.toList):=by
 intro e;simp only[Lit.string.injEq] at e;apply h
 cases s;cases t
 simp only[ByteArray.mk.injEq];exact afn.1 e
def td:DataW Unit:=(((DataW.map []).put (.string FQ.data.toList) (.lit (.int .i64 1))).put (.string CX.data.toList) (.lit (.int .i64 2))).put (.string FR.data.toList) (.lit (.int .i64 3))
theorem Qo{c:Int}(h:td.atKey (.string FQ.data.toList) (.lit (.int .i64 0))=.lit (.int .i64 c)):c=1:=by
 unfold td at h;rw[aga (ED dM),aga (ED dM),afK ⟨_,rfl⟩ (by trivial)] at h;injection h with e;injection e with _ e;exact e.symm
theorem M7{c:Int}(h:td.atKey (.string CX.data.toList) (.lit (.int .i64 0))=.lit (.int .i64 c)):c=2:=by
 unfold td at h;rw[aga (ED dM),afK (Az ⟨_,rfl⟩ _ _) (by trivial)] at h;injection h with e;injection e with _ e;exact e.symm
theorem Qp{c:Int}(h:td.atKey (.string FR.data.toList) (.lit (.int .i64 0))=.lit (.int .i64 c)):c=3:=by
 unfold td at h;rw[afK (Az (Az ⟨_,rfl⟩ _ _) _ _) (by trivial)] at h;injection h with e;injection e with _ e;exact e.symm
theorem adH(w:World):(zeroValue 3).run prog w=.ok (i6 0) w:=kR
theorem ZX(s:ByteArray)(h:s.size<=9223372036854775807):keyOf prog 9 (.string s)=some (.string s.data.toList):=abL underlying9 (by unfold maxLen;exact h)
end
section
open Go.RowKit Go.BigFrame
theorem WA{w:World}{hs:Array Value}{B:Nat->Bool}{T:TypeId}(hB:∀i,i<32->hs[i]?=some (.bool (B i))):EY (w.alloc (.cells hs T)) w.heap.size B:=by
 intro i hi;have:=hB i hi;have h:=acm w (.cells hs T);simp only[World.cell?,h];exact this
theorem SF{d:Bool}{B:Nat->Bool}{x:Bf}{q:Nat}(hq:x.pl=(q:Int))(h32:q<32):eu d (lu B) x=((x.bM==d)&&!B q):=by
 rw[eu,hq,lu,aa1 (show(0:Int)<=(q:Int) from oM),aa1 (show(q:Int)<32 from oM)]
 simp
theorem Gb(l:List Bf)(a:Option Addr)(c:Nat)(d:Bool)(hs:Array Value)(B:Nat->Bool)(w:World)(hl:bA w a l)(G:kZ l)(hB:∀i,i<32->hs[i]?=some (.bool (B i)))(r:Int)(hr:dz (eu d (lu B)) l l.length=r) :
 Calls prog 147 #[.slice a l.length c,.bool d,.agg hs] w (rB (i6 r) w):=by
 subst hr;have bo:=hl.2;have HG:=aB G;have HV:=aB (WA (w:=w) (T:=162) hB);clear G hB;go_enter func147,ntmps147;go_wp2
 go_loopw[7,8] (fun n i wr=>∃k:Nat,k<=l.length/\i=i6 k/\n=i6 (dz (eu d (lu B)) l k)/\Below (w.alloc (.cells hs 162)).heap.size (w.alloc (.cells hs 162)) wr) (fun _ i _=>l.length-(intOf i).toNat)
 case atStart=>exact⟨0,oM,rfl,rfl,aX _ _⟩
 case round =>
  obtain⟨k,hk,rfl,rfl,HB⟩:=hrel;have aN:bL w wr:=af (aA _ _) HB
  by_cases au:k<l.length
  ·have h0:l ≠ []:=by rintro rfl;exact absurd au (aa0 _)
   obtain⟨b,o,rfl⟩:=hl.form.resolve_left h0;have mG:=hl.later aN;obtain⟨c0,c1,c2,c3⟩:=mG.cells au;have l0:=ar c0;obtain⟨g1,g2,-⟩:=HG.out.ok k au;obtain⟨q,hq⟩:=Int.eq_ofNat_of_zero_le g1;have acR:q<32:=oM;have hv:=HV.out.later HB q acR;have lv:=ar hv;have q1:(q:Int)<32:=oM;have HF:=aB (SF (d:=d) (B:=B) hq acR);rw[hq] at c0;have HQ:=aB hq;have HW:=aB HB;clear h0 hl HB aN hq g1 g2 HV
   cases hd:(l[k].bM==d)
   ·have hf:eu d (lu B) l[k]=false:=by rw[HF.out,hd];rfl
    have HL:=aB (uV au hf rfl);clear hf HF;go_wp2_with fail;refine wQ ?_
    repeat(go_big_quiet_step (first|exact rfl|fail))
    refine qE ?_;(try clear hc hf hz);(try clear HB);intro p HB hc hf hz;go_wp2;go_roundw
    case rel=>exact⟨k+1,oM,gN,by rw[HL.out],af HW.out HB⟩
    case measure=>simp[intOf];omega
   ·cases IJ:B q
    ·have hf:eu d (lu B) l[k]=true:=by rw[HF.out,hd,IJ];rfl
     rw[IJ] at hv
     rcases jz (eu d (lu B)) l k oM with⟨hr,-⟩|⟨j,hj,-,hr,-⟩
     ·have HL:=aB (xo au hf hr);rw[hr];clear hf HF hr IJ;go_wp2_with fail;refine wQ ?_
      repeat(go_big_quiet_step (first|exact rfl|fail))
      refine qE ?_;(try clear hc hf hz);(try clear HB);intro p HB hc hf hz;go_wp2;go_roundw
      case rel=>exact⟨k+1,oM,gN,by rw[HL.out],af HW.out HB⟩
      case measure=>simp[intOf];omega
     ·obtain⟨d0,d1,d2,d3⟩:=mG.cells hj;rw[hr];have j0:decide ((j:Int)<0)=false:=aa9 oM;have j1:(j:Int)<(l.length:Int):=oM
      by_cases hu:l[k].used<l[j].used
      ·have HL:=aB (Ce au hj hf hr hu);have u0:decide (l[k].used<l[j].used)=true:=aa1 hu;clear hf HF hr IJ hu;go_wp2_with fail;refine wQ ?_
       repeat(go_big_quiet_step (first|exact rfl|fail))
       refine qE ?_;(try clear hc hf hz);(try clear HB);intro p HB hc hf hz;go_wp2;go_roundw
       case rel=>exact⟨k+1,oM,gN,by rw[HL.out],af HW.out HB⟩
       case measure=>simp[intOf];omega
      ·have HL:=aB (Cd au hj hf hr hu);have u0:decide (l[k].used<l[j].used)=false:=aa9 hu;clear hf HF hr IJ hu;go_wp2_with fail;refine wQ ?_
       repeat(go_big_quiet_step (first|exact rfl|fail))
       refine qE ?_;(try clear hc hf hz);(try clear HB);intro p HB hc hf hz;go_wp2;go_roundw
       case rel=>exact⟨k+1,oM,gN,by rw[HL.out],af HW.out HB⟩
       case measure=>simp[intOf];omega
    ·have hf:eu d (lu B) l[k]=false:=by rw[HF.out,hd,IJ];rfl
     have HL:=aB (uV au hf rfl);rw[IJ] at hv;clear hf HF IJ;go_wp2_with fail;refine wQ ?_
     repeat(go_big_quiet_step (first|exact rfl|fail))
     refine qE ?_;(try clear hc hf hz);(try clear HB);intro p HB hc hf hz;go_wp2;go_roundw
     case rel=>exact⟨k+1,oM,gN,by rw[HL.out],af HW.out HB⟩
     case measure=>simp[intOf];omega
  ·obtain rfl:k=l.length:=oM;go_wp2;go_ret;exact⟨rfl,aN⟩
end
end Go.Proofs.YtlhgjplipgandaaGreatDoor
