/- Joined. -/
import Derived.Maps.OwnSet
import Derived.Maps.OwnOps
import Derived.Maps.Views
import Derived.Test.YtlhgjplipgandaaGreatDoorE2
set_option maxRecDepth 100000
set_option maxHeartbeats 8000000
set_option linter.unusedSimpArgs false
set_option linter.unusedSectionVars false
namespace Go.Proofs.YtlhgjplipgandaaGreatDoor
open Tryz
section
open Go.RowKit Go.BigFrame
theorem az{p:Prop}(h:p):Hid p:=h
theorem lA(l:List Bf)(a:Option Addr)(c:Nat)(at':Int)(w:World)(hl:bw w a l)(r:Int)(hr:en (eR at') l=r) :
 Calls prog 127 #[.slice a l.length c,i6 at'] w (rB (i6 r) w):=by
 subst hr;exact R8 l a c at' w hl
abbrev It:Value:=.agg #[i6 0,.string ⟨#[]⟩,.bool false,i6 0]
theorem BJ{w w1:World}{a0 a1 a2 a3:Value}{T:TypeId}(HB:Below (w.alloc (.cells #[a0,a1,a2,a3] T)).heap.size (w.alloc (.cells #[a0,a1,a2,a3] T)) w1) :
 (w1.cell? ⟨w.heap.size,0,none⟩=some a0/\w1.cell? ⟨w.heap.size,1,none⟩=some a1/\w1.cell? ⟨w.heap.size,2,none⟩=some a2/\w1.cell? ⟨w.heap.size,3,none⟩=some a3) /\
 (w1.frozen? ⟨w.heap.size,0,none⟩=false/\w1.frozen? ⟨w.heap.size,1,none⟩=false/\w1.frozen? ⟨w.heap.size,2,none⟩=false/\w1.frozen? ⟨w.heap.size,3,none⟩=false)/\w.heap.size<w1.heap.size:=by
 have hz:=HB.size;simp only[ab9] at hz;have c:=fun o=>HB.cell (p:=⟨w.heap.size,o,none⟩) (by simp only[ab9];omega)
 have f:=fun o=>HB.frozen (p:=⟨w.heap.size,o,none⟩) (by simp only[ab9];omega)
 refine⟨⟨?_,?_,?_,?_⟩,⟨?_,?_,?_,?_⟩,oM⟩
 all_goals first|rw[c]|rw[f]
 all_goals simp
theorem DQ(l:List Bf)(a:Option Addr)(c:Nat)(at':Int)(w:World)(hl:bw w a l)(h:en (eR at') l=-1) :
 Calls prog 81 #[.slice a l.length c,i6 at'] w (rB (.tuple #[It,.bool false]) w):=by
 go_enter func81,ntmps81;go_wp2_with fail;refine cM (lA l a c at' _ (hl.later (aB _ _)) _ h) ?_;intro w1 HB;obtain⟨⟨m0,m1,m2,m3⟩,⟨f0,f1,f2,f3⟩,hz⟩:=BJ HB;have aU:bL w w1:=bQ;clear HB h;go_wp2;refine ack (v:=.tuple #[It,.bool false]) ?_ rfl ⟨rfl,bQ⟩
 simp[results,results81,go_sem,m0,m1,m2,m3]
theorem xX(l:List Bf)(a:Option Addr)(c:Nat)(at':Int)(w:World)(hl:bw w a l)(k:Nat)(hk:k<l.length)(h:en (eR at') l=k) :
 Calls prog 81 #[.slice a l.length c,i6 at'] w (rB (.tuple #[l[k].val,.bool true]) w):=by
 have h0:l ≠ []:=by rintro rfl;exact absurd hk (acg _)
 obtain⟨b,o,rfl⟩:=hl.form.resolve_left h0;have bC:=hl.2;go_enter func81,ntmps81;go_wp2_with fail;refine cM (lA l _ c at' _ (hl.later (aB _ _)) _ h) ?_;intro w1 HB;obtain⟨⟨m0,m1,m2,m3⟩,⟨f0,f1,f2,f3⟩,hz⟩:=BJ HB;have aU:bL w w1:=bQ;obtain⟨c0,c1,c2,c3⟩:=(hl.later aU).cells hk;have l0:=ao c0;have l1:=ao (hl.cells hk).1;have n1:b ≠ w.heap.size:=oM;clear HB h h0;go_wp2;refine ack (v:=.tuple #[l[k].val,.bool true]) ?_ rfl ⟨rfl,bQ⟩
 simp[results,results81,go_sem,m0,m1,m2,m3]
def E1(l:List Bf)(i:Nat):Int:=match l[i]? with|some r=>r.used|none=>0
def Jp(F:Bf->Bool)(l:List Bf)(i:Nat):Bool:=match l[i]? with|some r=>F r|none=>false
def dy(F:Bf->Bool)(l:List Bf):Nat->Int
 |0=>-1
 |k+1=>if Jp F l k=true/\(dy F l k<0\/E1 l k<E1 l (dy F l k).toNat) then k else dy F l k
section
variable{F:Bf->Bool}{l:List Bf}{k j:Nat}
theorem qR(h:k<l.length):Jp F l k=F l[k]:=by simp[Jp,h]
theorem wY(h:k<l.length):E1 l k=l[k].used:=by simp[E1,h]
theorem tH{B:Int}(h:k<l.length)(hF:F l[k]=false)(hB:dy F l k=B):dy F l (k+1)=B:=by
 rw[dy,qR h,hF,ab6 sM,hB]
theorem vj(h:k<l.length)(hF:F l[k]=true)(hB:dy F l k=-1):dy F l (k+1)=k:=by
 rw[dy,qR h,hF,hB,aca sM]
theorem AV(h:k<l.length)(hj:j<l.length)(hF:F l[k]=true)(hB:dy F l k=j)(hR:l[k].used<l[j].used):dy F l (k+1)=k:=by
 rw[dy,qR h,hF,hB,wY h,acE,wY hj,aca ⟨rfl,ir hR⟩]
theorem AU(h:k<l.length)(hj:j<l.length)(hF:F l[k]=true)(hB:dy F l k=j)(hR:¬l[k].used<l[j].used):dy F l (k+1)=j:=by
 rw[dy,qR h,hF,hB,wY h,acE,wY hj,ab6 (by rintro⟨_,h'|h'⟩;omega;exact hR h')]
theorem jn(F:Bf->Bool)(l:List Bf):∀n,n<=l.length->(dy F l n=-1/\∀j (hj:j<l.length),j<n->F l[j]=false)\/∃(k:Nat) (h:k<l.length),k<n/\dy F l n=k/\F l[k]=true/\(∀j (hj:j<l.length),j<n->F l[j]=true->l[k].used<=l[j].used)/\∀j (hj:j<k),F (l[j]'oM)=true->l[k].used<(l[j]'oM).used:=by
 intro n
 induction n with
 |zero=>intro _;exact il ⟨rfl,fun j _ h=>absurd h (acg _)⟩
 |succ n ih =>
  intro hn;have nu:n<l.length:=oM
  rcases ih oM with⟨h1,h2⟩|⟨k,hk,GC,h1,h2,h3,h4⟩
  ·cases hF:F l[n]
   ·left
    refine⟨tH nu hF h1,fun j hj Ww=>?_⟩
    by_cases e:j=n
    ·subst e;exact hF
    ·exact h2 j hj oM
   ·right
    refine⟨n,nu,oM,vj nu hF h1,hF,fun j hj Ww uV=>?_,fun j hj uV=>?_⟩
    ·by_cases e:j=n
     ·subst e;exact adV _
     ·rw[h2 j hj oM] at uV;cases uV
    ·rw[h2 j oM oM] at uV;cases uV
  ·right
   cases hF:F l[n]
   ·refine⟨k,hk,oM,tH nu hF h1,h2,fun j hj Ww uV=>?_,h4⟩
    by_cases e:j=n
    ·subst e;rw[hF] at uV;cases uV
    ·exact h3 j hj oM uV
   ·by_cases hR:l[n].used<l[k].used
    ·refine⟨n,nu,oM,AV nu hk hF h1 hR,hF,fun j hj Ww uV=>?_,fun j hj uV=>?_⟩
     ·by_cases e:j=n
      ·subst e;exact adV _
      ·have:=h3 j hj oM uV;omega
     ·have:=h3 j oM oM uV;omega
    ·refine⟨k,hk,oM,AU nu hk hF h1 hR,h2,fun j hj Ww uV=>?_,h4⟩
     by_cases e:j=n
     ·subst e;omega
     ·exact h3 j hj oM uV
end
theorem zp(r:Bf)(w:World) :
 Calls prog 167 #[r.val] w (rB (i6 r.used) w):=by
 go_enter func167,ntmps167;go_wp2;go_ret;exact⟨rfl,bQ⟩
theorem OF(z1 z2:Value)(F:Bf->Bool)(l:List Bf)(a:Option Addr)(c:Nat)(w:World)(hl:bw w a l)
 (hp:∀(x:Bf) w',bL w w'->Calls prog 165 #[x.val,z1,z2] w' (rB (.bool (F x)) w')) :
 Calls prog 166 #[.slice a l.length c,.func (.func 165) #[] #[z1,z2],.func (.func 167) #[] #[]] w
  fun e w'=>e=.returned (i6 (dy F l l.length))/\bL w w':=by
 have bC:=hl.2
 rcases hl.form with rfl|⟨b,o,rfl⟩
 ·clear hp;go_enter func166,ntmps166;go_wp2
  go_loop [7,12] (fun bi i=>i=i6 0/\bi=i6 (-1)) (fun _ _=>0)
  case atStart=>exact⟨rfl,rfl⟩
  case round =>
   obtain⟨rfl,rfl⟩:=hrel;go_wp2;go_ret;exact⟨rfl,bQ⟩
 have HP:Hid (∀(x:Bf) w',bL w w'->Calls prog 165 #[x.val,z1,z2] w' (rB (.bool (F x)) w')):=hp;clear hp;go_enter func166,ntmps166;go_wp2
 go_loopw[7,12] (fun bi i wr=>∃(k:Nat) (B:Int),k<=l.length/\i=i6 k/\bi=i6 B/\dy F l k=B/\(B=-1\/∃j:Nat,B=j/\j<k)/\bL w wr) (fun _ i _=>l.length-(intOf i).toNat)
 case atStart=>exact⟨0,-1,oM,rfl,rfl,rfl,il rfl,aQ _ _⟩
 case round =>
  obtain⟨k,B,hk,rfl,rfl,hB,jF,HB⟩:=hrel;have HL:Hid (dy F l k=B):=hB;clear hB
  by_cases aq:k<l.length
  ·obtain⟨c0,c1,c2,c3⟩:=(hl.later HB).cells aq;have l0:=ao c0;have eN:=HB;clear HB;have oR:=jF;have BX:=HP.out l[k]
   cases ln:F l[k]
   ·rw[ln] at BX;have HK:=az BX;clear BX;clear jF;go_wp2_with fail;refine wQ ?_
    repeat(go_big_quiet_step (first|exact rfl|(go_at_call 167;exact b8 (zp _ _))|(go_at_call 165;exact b8 (HK.out _ (ab (ae eN _) (Later.below _))))))
    refine qE ?_;(try clear hc hf hz);(try clear HB);intro p HB hc hf hz;go_wp2;go_roundw
    case rel=>exact⟨k+1,B,oM,gN,rfl,tH aq ln HL.out,oR.elim (fun h=>il h) (fun⟨j,h,hj⟩=>ir ⟨j,h,oM⟩),ab (ae eN _) HB⟩
    case measure=>simp[intOf];omega
   ·rw[ln] at BX;have HK:=az BX;clear BX
    rcases jF with rfl|⟨j,rfl,hj⟩
    ·go_wp2_with fail;refine wQ ?_
     repeat(go_big_quiet_step (first|exact rfl|(go_at_call 167;exact b8 (zp _ _))|(go_at_call 165;exact b8 (HK.out _ (ab (ae eN _) (Later.below _))))))
     refine qE ?_;(try clear hc hf hz);(try clear HB);intro p HB hc hf hz;go_wp2;go_roundw
     case rel=>exact⟨k+1,k,oM,gN,rfl,vj aq ln HL.out,ir ⟨k,rfl,oM⟩,ab (ae eN _) HB⟩
     case measure=>simp[intOf];omega
    ·have oT:j<l.length:=oM;have vZ:decide ((j:Int)<0)=false:=aci oM;obtain⟨d0,d1,d2,d3⟩:=(hl.later eN).cells oT
     by_cases hR:l[k].used<l[j].used
     ·go_wp2_with fail;refine wQ ?_
      repeat(go_big_quiet_step (first|exact rfl|(go_at_call 167;exact b8 (zp _ _))|(go_at_call 165;exact b8 (HK.out _ (ab (ae eN _) (Later.below _))))))
      refine qE ?_;(try clear hc hf hz);(try clear HB);intro p HB hc hf hz;go_wp2;go_roundw
      case rel=>exact⟨k+1,k,oM,gN,rfl,AV aq oT ln HL.out hR,ir ⟨k,rfl,oM⟩,ab (ae eN _) HB⟩
      case measure=>simp[intOf];omega
     ·go_wp2_with fail;refine wQ ?_
      repeat(go_big_quiet_step (first|exact rfl|(go_at_call 167;exact b8 (zp _ _))|(go_at_call 165;exact b8 (HK.out _ (ab (ae eN _) (Later.below _))))))
      refine qE ?_;(try clear hc hf hz);(try clear HB);intro p HB hc hf hz;go_wp2;go_roundw
      case rel=>exact⟨k+1,j,oM,gN,rfl,AU aq oT ln HL.out oM,ir ⟨j,rfl,oM⟩,ab (ae eN _) HB⟩
      case measure=>simp[intOf];omega
  ·go_wp2;go_ret;exact⟨jy (by rw[show l.length=k from oM];exact HL.out.symm),bQ⟩
theorem Dd{P:Program}(w:World)(t:TypeId)(ps rs:Array TypeId)(vd:Bool)(f:Fn)(x c:Array Value)(h:P.underlying t=some (.func ps rs vd)) :
 (binOp .eql t (.func f x c) .nilFunc).run P w=.ok (.bool false) w:=by
 have h1:∀d,(Op.equalIn (d+1) t (.func f x c) .nilFunc).run P w=.ok false w:=fun d=>by simp[Op.equalIn,run_underlying h]
 simp only[binOp]
 simp[Op.equal,Op.maxDepth,h1 9999]
def ez(d:Bool)(H:Int->Bool)(x:Bf):Bool:=(x.bO==d)&&!H x.pl
theorem Ui(x:Bf)(d:Bool)(gh:Nat)(xV:∀args w,(callFunc gh args).run prog w=.ok (.enter gh args) w)(hc:Array Value)(H:Int->Bool)(b1 o1 b2 o2:Nat)(w:World)
 (h1:w.cell? ⟨b1,o1,none⟩=some (.bool d)) (h2:w.cell? ⟨b2,o2,none⟩=some (.func (.func gh) #[] hc))
 (hh:∀w',bL w w'->Calls prog gh (#[i6 x.pl]++hc) w' (rB (.bool (H x.pl)) w')) :
 Calls prog 165 #[x.val,.pointer (some ⟨b1,o1,none⟩),.pointer (some ⟨b2,o2,none⟩)] w (rB (.bool (ez d H x)) w):=by
 have q51:∀(w:World) (f:Fn) (x c:Array Value),(binOp .eql 104 (.func f x c) .nilFunc).run prog w=.ok (.bool false) w:=fun w f x c=>Dd w _ _ _ _ f x c underlying104
 have rH:=sK h1;have pE:=sK h2;unfold ez
 cases hd:(x.bO==d)
 ·clear hh;go_enter func165,ntmps165;go_wp2;go_ret;exact⟨rfl,bQ⟩
 ·have hq:=hh (w.alloc (.cells #[i6 x.pl,.string x.data,.bool x.bO,i6 x.used] 137)) (aB _ _);clear hh
  cases hH:H x.pl
  all_goals
   rw[hH] at hq;have HQ:=az hq;clear hq;go_enter func165,ntmps165;go_wp2_with fail;refine aei HQ.out ?_;rintro e w1 ⟨rfl,hb⟩;go_wp2;go_ret;exact⟨rfl,bQ⟩
theorem qw(d:Bool)(gh:Nat)(xV:∀args w,(callFunc gh args).run prog w=.ok (.enter gh args) w)(hc:Array Value)(H:Int->Bool)(l:List Bf)(a:Option Addr)(c:Nat)(w:World)(hl:bw w a l)
 (hh:∀n w',bL w w'->Calls prog gh (#[i6 n]++hc) w' (rB (.bool (H n)) w')) (r:Int) (hr:dy (ez d H) l l.length=r) :
 Calls prog 121 #[.slice a l.length c,.bool d,.func (.func gh) #[] hc] w (rB (i6 r) w):=by
 subst hr;have HH:=az hh;clear hh;go_enter func121,ntmps121;go_wp2_with fail;refine cM (OF (.pointer (some ⟨w.heap.size,0,none⟩)) (.pointer (some ⟨w.heap.size+1,0,none⟩)) (ez d H) l a c _ (hl.later (ja _ _ _)) (fun x w' hb=>Ui x d gh xV hc H w.heap.size 0 (w.heap.size+1) 0 w' (af hb sM) (af hb sM) (fun eu gP=>HH.out x.pl eu (ab (ab (ja _ _ _) hb) gP)))) ?_;intro w1 HB;go_wp2;go_ret;exact⟨rfl,bQ⟩
theorem XR(gh:Nat)(xV:∀args w,(callFunc gh args).run prog w=.ok (.enter gh args) w)(hc:Array Value)(H:Int->Bool)(l:List Bf)(a:Option Addr)(c:Nat)(w:World)(hl:bw w a l)
 (hh:∀n w',bL w w'->Calls prog gh (#[i6 n]++hc) w' (rB (.bool (H n)) w')) (hr:dy (ez true H) l l.length=-1) :
 Calls prog 79 #[.slice a l.length c,.func (.func gh) #[] hc] w (rB (i6 (-1)) w):=by
 have HH:=az hh;have HR:=az hr;clear hh hr;go_enter func79,ntmps79;go_wp2_with fail;refine cM (qw true gh xV hc H l a c _ hl HH.out _ HR.out) ?_;intro w1 HB;go_wp2;go_ret;exact⟨rfl,bQ⟩
theorem UY(gh:Nat)(xV:∀args w,(callFunc gh args).run prog w=.ok (.enter gh args) w)(hc:Array Value)(H:Int->Bool)(l:List Bf)(a:Option Addr)(c:Nat)(w:World)(hl:bw w a l)
 (hh:∀n w',bL w w'->Calls prog gh (#[i6 n]++hc) w' (rB (.bool (H n)) w')) (k:Nat) (hk:k<l.length) (hr:dy (ez true H) l l.length=k) :
 Calls prog 79 #[.slice a l.length c,.func (.func gh) #[] hc] w (rB (i6 l[k].pl) w):=by
 have h0:l ≠ []:=by rintro rfl;exact absurd hk (acg _)
 obtain⟨b,o,rfl⟩:=hl.form.resolve_left h0;have bC:=hl.2;have HH:=az hh;have HR:=az hr;clear hh hr h0;go_enter func79,ntmps79;go_wp2_with fail;refine cM (qw true gh xV hc H l _ c _ hl HH.out _ HR.out) ?_;intro w1 HB;obtain⟨c0,c1,c2,c3⟩:=(hl.later HB).cells hk;go_wp2;go_ret;exact⟨rfl,bQ⟩
theorem NF{s t:ByteArray}(h:¬s=t):(s.toList==t.toList)=false:=by
 rw[ab8];intro e;apply h;rw[adL,adL] at e;have e':s.data=t.data:=by rw[<-adM];exact e
 cases s;cases t;simp_all
theorem ND{s t:ByteArray}(h:s=t):(s.toList==t.toList)=true:=by rw[h];simp
theorem bw.set{w:World}{b o:Nat}{l:List Bf}(h:bw w (some ⟨b,o,none⟩) l){k:Nat}(hk:k<l.length)(j:Nat)(hj:j<4)(x:Bf)(u:Value)(hu:x.cell j=u)(hx:∀i,i<4->i ≠ j->x.cell i=l[k].cell i) :
 bw (w.setCell ⟨b,o+k*4+j,none⟩ u) (some ⟨b,o,none⟩) (l.set k x):=by
 rcases h.1 with rfl|⟨b',o',ha,hc⟩
 ·exact absurd hk (acg _)
 ·simp only[ace,acV,adh] at ha;obtain⟨rfl,rfl⟩:=ha;refine⟨ir ⟨b,o,rfl,fun i hi m hm=>?_⟩,by rw[acK];exact h.2⟩;have pK:i<l.length:=by simpa using hi
  by_cases e:i=k
  ·subst e;rw[adB]
   by_cases e':m=j
   ·subst e';rw[hu];exact acm _ _ _ (hc i pK m hm)
   ·rw[hx m hm e',acL _ _ _ _ (fun e=>by injection e with _ e2 _;omega)];exact hc i pK m hm
  ·rw[adA (fun h=>e h.symm),acL _ _ _ _ (fun e3=>by injection e3 with _ e2 _;omega)];exact hc i pK m hm
def fG(l:List Bf)(at':Int)(data:ByteArray):List Bf:=l.map fun x=>if x.pl=at'/\x.data=data then { x with bO:=false } else x
def vJ(l:List Bf):Prop:=∀i j (hi:i<l.length) (hj:j<l.length),l[i].pl=l[j].pl->i=j
theorem TQ{l:List Bf}{at':Int}{data:ByteArray}(h:en (eR at') l=-1):fG l at' data=l:=by
 rcases ju (eR at') l with⟨_,h1⟩|⟨k,hk,e,_⟩
 ·apply aea (by simp[fG]);intro i hi h2;simp only[fG,adN];have:=h1 i h2;simp only[eR,ab8] at this;rw[ab6 (fun h=>this h.1)]
 ·rw[h] at e;omega
theorem Lb{l:List Bf}{at':Int}{data:ByteArray}{k:Nat}(hk:k<l.length)(ho:vJ l)(h:en (eR at') l=k)(hd:¬l[k].data=data):fG l at' data=l:=by
 have hp:l[k].pl=at':=by
  rcases ju (eR at') l with⟨e,_⟩|⟨k',eH,e,h2,_⟩
  ·rw[h] at e;omega
  ·have:k'=k:=oM;subst this
   simpa [eR] using h2
 apply aea (by simp[fG]);intro i hi h2;simp only[fG,adN]
 by_cases c:l[i].pl=at'/\l[i].data=data
 ·have:=ho i k h2 hk (c.1.trans hp.symm);subst this;exact absurd c.2 hd
 ·rw[ab6 c]
theorem Qq{l:List Bf}{at':Int}{data:ByteArray}{k:Nat}(hk:k<l.length)(ho:vJ l)(h:en (eR at') l=k)(hd:l[k].data=data):fG l at' data=l.set k { l[k] with bO:=false }:=by
 have hp:l[k].pl=at':=by
  rcases ju (eR at') l with⟨e,_⟩|⟨k',eH,e,h2,_⟩
  ·rw[h] at e;omega
  ·have:k'=k:=oM;subst this
   simpa [eR] using h2
 apply aea (by simp[fG]);intro i hi h2;rw[acK] at h2;simp only[fG,adN]
 by_cases e:i=k
 ·subst e;rw[adB,aca ⟨hp,hd⟩]
 ·rw[adA (fun h=>e h.symm),ab6 (fun c=>e (ho i k h2 hk (c.1.trans hp.symm)))]
structure kE(l:List Bf):Prop where
 len:l.length<=8
 ok:∀i (h:i<l.length),0<=l[i].pl/\l[i].pl<=31/\l[i].data.size<=10
 lP:∀i (h:i+1<l.length),l[i].pl<l[i+1].pl
theorem kE.lt{l:List Bf}(h:kE l):∀(d i:Nat) (hj:i+d+1<l.length),l[i].pl<l[i+d+1].pl:=by
 intro d
 induction d with
 |zero=>intro i hj;exact h.lP i hj
 |succ d ih =>
  intro i hj;have a:=ih i oM;have b:=h.lP (i+d+1) oM;have e:i+(d+1)+1=i+d+1+1:=oM;simp only[e]
  omega
theorem kE.Cy{l:List Bf}(h:kE l)(i j:Nat)(pL:i<j)(hj:j<l.length):(l[i]'oM).pl<l[j].pl:=by
 have:=h.lt (j-i-1) i oM;have e:i+(j-i-1)+1=j:=oM;simp only[e] at this;exact this
theorem kE.once{l:List Bf}(h:kE l):vJ l:=by
 intro i j hi hj e
 rcases Nat.lt_trichotomy i j with h'|h'|h'
 ·have:=h.Cy i j h' hj;omega
 ·exact h'
 ·have:=h.Cy j i h' hi;omega
def DD(w:World)(pb:Nat)(B:Nat->Bool):Prop:=∀i,i<32->w.cell? ⟨pb,i,none⟩=some (.bool (B i))
theorem DD.later{w w':World}{pb:Nat}{B:Nat->Bool}(h:DD w pb B)(hb:bL w w'):DD w' pb B:=fun i hi=>af hb (h i hi)
def kJ(B:Nat->Bool)(n:Int):Bool:=decide (0<=n)&&(decide (n<32)&&B n.toNat)
def ku(l:List Bf)(at' now:Int):List Bf:=l.map fun x=>if x.pl=at' then { x with used:=now } else x
theorem aaM{l:List Bf}{at' now:Int}(h:en (eR at') l=-1):ku l at' now=l:=by
 rcases ju (eR at') l with⟨_,h1⟩|⟨k,hk,e,_⟩
 ·apply aea (by simp[ku]);intro i hi h2;simp only[ku,adN];have:=h1 i h2;simp only[eR,ab8] at this;rw[ab6 this]
 ·rw[h] at e;omega
theorem Ye{l:List Bf}{at' now:Int}{k:Nat}(hk:k<l.length)(ho:vJ l)(h:en (eR at') l=k):ku l at' now=l.set k { l[k] with used:=now }:=by
 have hp:l[k].pl=at':=by
  rcases ju (eR at') l with⟨e,_⟩|⟨k',eH,e,h2,_⟩
  ·rw[h] at e;omega
  ·have:k'=k:=oM;subst this
   simpa [eR] using h2
 apply aea (by simp[ku]);intro i hi h2;rw[acK] at h2;simp only[ku,adN]
 by_cases e:i=k
 ·subst e;rw[adB,aca hp]
 ·rw[adA (fun h=>e h.symm),ab6 (fun c=>e (ho i k h2 hk (c.trans hp.symm)))]
def gp(a b:Rq):Bool:=decide (a.f+a.m=b.f)&&((a.wr==b.wr)&&(decide (a.m+b.m<=4)&&decide (a.tags.length+b.tags.length<=4)))
theorem bu.lH{r:Rq}(h:bu r):0<=r.f/\r.f<=31/\1<=r.m/\r.m<=4/\r.m<=32-r.f:=by
 have:=h.ok;simp only[gI,aco] at this
 omega
theorem Dm{f m:Int}(h0:0<=f)(h1:f<=100)(h2:0<=m)(h3:m<=100):wrap64 (f+m)=f+m:=by
 unfold wrap64;omega
theorem Yc(a b:Rq)(w:World)(ha:bu a)(hb:bu b) :
 Calls prog 205 #[a.val,b.val] w (rB (.bool (gp a b)) w):=by
 obtain⟨x1,x2,x3,x4,x5⟩:=ha.lH;obtain⟨y1,y2,y3,y4,y5⟩:=hb.lH;have MW:=ha.t4;have MX:=hb.t4;have e1:wrap64 (a.f+a.m)=a.f+a.m:=Dm oM oM oM oM;have hn:(wrap64 (a.f+a.m)==b.f)=decide (a.f+a.m=b.f):=by rw[e1];rfl
 clear ha hb e1;have HT:Hid (gp a b=(decide (a.f+a.m=b.f)&&((a.wr==b.wr)&&(decide (a.m+b.m<=4)&&decide (a.tags.length+b.tags.length<=4))))):=rfl;generalize gp a b=R at HT ⊢;have e2:IntKind.i64.wrap (a.m+b.m)=a.m+b.m:=by rw[acC];omega
 have e3:IntKind.i64.wrap ((a.tags.length:Int)+(b.tags.length:Int))=(a.tags.length:Int)+(b.tags.length:Int):=by rw[acC];omega
 have e4:decide (a.tags.length+b.tags.length<=4)=decide ((a.tags.length:Int)+(b.tags.length:Int)<=4):=by rw[decide_eq_decide];omega
 replace HT:Hid (R=(decide (a.f+a.m=b.f)&&((a.wr==b.wr)&&(decide (a.m+b.m<=4)&&decide ((a.tags.length:Int)+(b.tags.length:Int)<=4))))):=by rw[<-e4];exact HT
 clear e4
 cases h1:decide (a.f+a.m=b.f)
 ·rw[h1] at hn;rw[h1] at HT;clear h1;obtain rfl:R=false:=HT.out;clear HT;go_enter func205,ntmps205;go_wp2_with fail
  go_at_call 204;refine cM (ov _ _ _ _ _ _ hn) ?_;intro w1 hb;(try clear hc hf hz);(first|replace HB:=ab HB hb|replace HB:=ab (ah HB) hb|have HB:=hb);clear hb;obtain⟨hc,hf,hz⟩:=bj HB
  go_wp2;go_ret;exact⟨rfl,bQ⟩
 ·rw[h1] at hn HT;clear h1
  cases h2:(a.wr==b.wr)
  ·rw[h2] at HT;obtain rfl:R=false:=HT.out;clear HT;go_enter func205,ntmps205;go_wp2_with fail
   go_at_call 204;refine cM (ov _ _ _ _ _ _ hn) ?_;intro w1 hb;(try clear hc hf hz);(first|replace HB:=ab HB hb|replace HB:=ab (ah HB) hb|have HB:=hb);clear hb;obtain⟨hc,hf,hz⟩:=bj HB
   go_wp2;go_ret;exact⟨rfl,bQ⟩
  ·rw[h2] at HT
   cases h3:decide (a.m+b.m<=4)
   ·rw[h3] at HT;obtain rfl:R=false:=HT.out;clear HT;go_enter func205,ntmps205;go_wp2_with fail
    go_at_call 204;refine cM (ov _ _ _ _ _ _ hn) ?_;intro w1 hb;(try clear hc hf hz);(first|replace HB:=ab HB hb|replace HB:=ab (ah HB) hb|have HB:=hb);clear hb;obtain⟨hc,hf,hz⟩:=bj HB
    go_wp2;go_ret;exact⟨rfl,bQ⟩
   ·rw[h3] at HT;obtain rfl:R=decide ((a.tags.length:Int)+(b.tags.length:Int)<=4):=HT.out;clear HT;go_enter func205,ntmps205;go_wp2_with fail
    go_at_call 204;refine cM (ov _ _ _ _ _ _ hn) ?_;intro w1 hb;(try clear hc hf hz);(first|replace HB:=ab HB hb|replace HB:=ab (ah HB) hb|have HB:=hb);clear hb;obtain⟨hc,hf,hz⟩:=bj HB
    go_wp2;go_ret;exact⟨rfl,bQ⟩
theorem uE(l:List Bf)(a:Option Addr)(c:Nat)(at':Int)(w:World)(hl:bw w a l)(h:en (eR at') l=-1) :
 Calls prog 99 #[.slice a l.length c,i6 at'] w (rB (.tuple #[It,.bool false]) w):=by
 have bC:=hl.2;have dS:∀j (hj:j<l.length),(l[j].pl==at')=false:=by
  rcases ju (eR at') l with⟨_,h1⟩|⟨k,hk,e,_⟩
  ·exact h1
  ·rw[h] at e;omega
 have HN:=az dS;clear dS h;go_enter func99,ntmps99;go_wp2
 go_loopw[6] (fun i wr=>∃k:Nat,k<=l.length/\i=i6 k/\Below (w.alloc (.cells #[i6 0,.string ⟨#[]⟩,.bool false,i6 0] 137)).heap.size (w.alloc (.cells #[i6 0,.string ⟨#[]⟩,.bool false,i6 0] 137)) wr) (fun i _=>l.length-(intOf i).toNat)
 case atStart=>exact⟨0,oM,rfl,aQ _ _⟩
 case round =>
  obtain⟨k,hk,rfl,HB⟩:=hrel;obtain⟨⟨m0,m1,m2,m3⟩,⟨f0,f1,f2,f3⟩,hz⟩:=BJ HB;have aU:bL w wr:=ab (aB _ _) HB
  by_cases aq:k<l.length
  ·have h0:l ≠ []:=by rintro rfl;exact absurd aq (acg _)
   obtain⟨b,o,rfl⟩:=hl.form.resolve_left h0;obtain⟨c0,c1,c2,c3⟩:=(hl.later aU).cells aq;have eH:=HN.out k aq;clear HN h0;go_wp2;go_roundw
   case rel=>exact⟨k+1,oM,gN,HB⟩
   case measure=>simp[intOf];omega
  ·clear HB;go_wp2;refine ack (v:=.tuple #[It,.bool false]) ?_ rfl ⟨rfl,bQ⟩
   simp[results,results99,go_sem,m0,m1,m2,m3]
theorem vt(l:List Bf)(a:Option Addr)(c:Nat)(at':Int)(w:World)(hl:bw w a l)(j:Nat)(hj:j<l.length)(h:en (eR at') l=j) :
 Calls prog 99 #[.slice a l.length c,i6 at'] w (rB (.tuple #[l[j].val,.bool true]) w):=by
 have bC:=hl.2;have dS:(l[j].pl==at')=true/\∀i (hi:i<j),((l[i]'oM).pl==at')=false:=by
  rcases ju (eR at') l with⟨e,_⟩|⟨k,hk,e,h1,h2⟩
  ·rw[h] at e;omega
  ·have:k=j:=by rw[h] at e;omega
   subst this;exact⟨h1,h2⟩
 obtain⟨aal,dS⟩:=dS;have ZY:∀i (hi:i<l.length),i<j->(l[i].pl==at')=false:=fun i _ pL=>dS i pL
 have HN:=az ZY;have HY:=az aal;clear dS ZY aal h;have h0:l ≠ []:=by rintro rfl;exact absurd hj (acg _)
 obtain⟨b,o,rfl⟩:=hl.form.resolve_left h0;have lb:=ao (hl.cells hj).1;clear h0;go_enter func99,ntmps99;go_wp2
 go_loopw[6] (fun i wr=>∃k:Nat,k<=j/\i=i6 k/\Below (w.alloc (.cells #[i6 0,.string ⟨#[]⟩,.bool false,i6 0] 137)).heap.size (w.alloc (.cells #[i6 0,.string ⟨#[]⟩,.bool false,i6 0] 137)) wr) (fun i _=>l.length-(intOf i).toNat)
 case atStart=>exact⟨0,oM,rfl,aQ _ _⟩
 case round =>
  obtain⟨k,hk,rfl,HB⟩:=hrel;obtain⟨⟨m0,m1,m2,m3⟩,⟨f0,f1,f2,f3⟩,hz⟩:=BJ HB;have aU:bL w wr:=ab (aB _ _) HB;have aq:k<l.length:=oM;obtain⟨c0,c1,c2,c3⟩:=(hl.later aU).cells aq;have l0:=ao c0;have n1:b ≠ w.heap.size:=oM
  by_cases hkj:k=j
  ·subst hkj;have eH:=HY.out;clear HN HY HB;go_wp2;refine ack (v:=.tuple #[l[k].val,.bool true]) ?_ rfl ⟨rfl,bQ⟩
   simp[results,results99,go_sem,m0,m1,m2,m3]
  ·have eH:=HN.out k aq oM;clear HN HY;go_wp2;go_roundw
   case rel=>exact⟨k+1,oM,gN,HB⟩
   case measure=>simp[intOf];omega
def jt(l:List Bf):Nat->Nat
 |0=>0
 |k+1=>match l[k]? with|some x=>(if x.bO then jt l k+1 else jt l k)|none=>jt l k
theorem yP{l:List Bf}{k:Nat}(h:k<l.length)(hd:l[k].bO=true):jt l (k+1)=jt l k+1:=by
 rw[jt,acb h];simp[hd]
theorem Aj{l:List Bf}{k:Nat}(h:k<l.length)(hd:l[k].bO=false):jt l (k+1)=jt l k:=by
 rw[jt,acb h];simp[hd]
theorem Gg(l:List Bf)(k:Nat):jt l k<=k:=by
 induction k with
 |zero=>exact ab5 _
 |succ k ih =>
  rw[jt]
  split
  ·split<;>omega
  ·omega
theorem AW(l:List Bf)(a:Option Addr)(c:Nat)(w:World)(hl:bw w a l)(n:Nat)(hn:jt l l.length=n) :
 Calls prog 61 #[.slice a l.length c] w (rB (i6 n) w):=by
 subst hn;have bC:=hl.2;go_enter func61,ntmps61;go_wp2
 go_loopw[3,4] (fun n i wr=>∃k:Nat,k<=l.length/\i=i6 k/\n=i6 (jt l k)/\bL w wr) (fun n i _=>l.length-(intOf i).toNat)
 case atStart=>exact⟨0,oM,rfl,rfl,bQ⟩
 case round =>
  obtain⟨k,hk,rfl,rfl,HB⟩:=hrel;have hd:=Gg l k
  by_cases aq:k<l.length
  ·have h0:l ≠ []:=by rintro rfl;exact absurd aq (acg _)
   obtain⟨b,o,rfl⟩:=hl.form.resolve_left h0;obtain⟨c0,c1,c2,c3⟩:=(hl.later HB).cells aq;clear h0
   cases gH:l[k].bO
   ·have HD:=az (Aj aq gH);rw[gH] at c2;clear gH;go_wp2;go_roundw
    case rel=>exact⟨k+1,oM,gN,by rw[HD.out],bQ⟩
    case measure=>simp[intOf];omega
   ·have HD:=az (yP aq gH);rw[gH] at c2;clear gH;go_wp2;go_roundw
    case rel=>exact⟨k+1,oM,gN,by rw[HD.out];go_num,bQ⟩
    case measure=>simp[intOf];omega
  ·obtain rfl:k=l.length:=oM;go_wp2;go_ret;exact⟨rfl,bQ⟩
theorem QD(l:List Bf)(a:Option Addr)(c:Nat)(w:World)(hl:bw w a l)(n:Nat)(hn:jt l l.length=n) :
 Calls prog 72 #[.slice a l.length c] w (rB (i6 n) w):=by
 subst hn;have bC:=hl.2;go_enter func72,ntmps72;go_wp2
 go_loopw[3,8] (fun n i wr=>∃k:Nat,k<=l.length/\i=i6 k/\n=i6 (jt l k)/\bL w wr) (fun n i _=>l.length-(intOf i).toNat)
 case atStart=>exact⟨0,oM,rfl,rfl,bQ⟩
 case round =>
  obtain⟨k,hk,rfl,rfl,HB⟩:=hrel;have hd:=Gg l k
  by_cases aq:k<l.length
  ·have h0:l ≠ []:=by rintro rfl;exact absurd aq (acg _)
   obtain⟨b,o,rfl⟩:=hl.form.resolve_left h0;obtain⟨c0,c1,c2,c3⟩:=(hl.later HB).cells aq;clear h0
   cases gH:l[k].bO
   ·have HD:=az (Aj aq gH);rw[gH] at c2;clear gH;go_wp2;go_roundw
    case rel=>exact⟨k+1,oM,gN,by rw[HD.out],bQ⟩
    case measure=>simp[intOf];omega
   ·have HD:=az (yP aq gH);rw[gH] at c2;clear gH;go_wp2;go_roundw
    case rel=>exact⟨k+1,oM,gN,by rw[HD.out];go_num,bQ⟩
    case measure=>simp[intOf];omega
  ·obtain rfl:k=l.length:=oM;go_wp2;go_ret;exact⟨rfl,bQ⟩
theorem Us{w:World}{hs:Array Value}{B:Nat->Bool}{T:TypeId}(hB:∀i,i<32->hs[i]?=some (.bool (B i))):DD (w.alloc (.cells hs T)) w.heap.size B:=by
 intro i hi;have:=hB i hi;have h:=ac8 w (.cells hs T);simp only[World.cell?,h];exact this
theorem QJ{d:Bool}{B:Nat->Bool}{x:Bf}{q:Nat}(hq:x.pl=(q:Int))(Zs:q<32):ez d (kJ B) x=((x.bO==d)&&!B q):=by
 rw[ez,hq,kJ,acf (show(0:Int)<=(q:Int) from oM),acf (show(q:Int)<32 from oM)]
 simp
theorem EF(l:List Bf)(a:Option Addr)(c:Nat)(d:Bool)(hs:Array Value)(B:Nat->Bool)(w:World)(hl:bw w a l)(G:kE l)(hB:∀i,i<32->hs[i]?=some (.bool (B i)))(r:Int)(hr:dy (ez d (kJ B)) l l.length=r) :
 Calls prog 147 #[.slice a l.length c,.bool d,.agg hs] w (rB (i6 r) w):=by
 subst hr;have bC:=hl.2;have HG:=az G;have HV:=az (Us (w:=w) (T:=162) hB);clear G hB;go_enter func147,ntmps147;go_wp2
 go_loopw[7,8] (fun n i wr=>∃k:Nat,k<=l.length/\i=i6 k/\n=i6 (dy (ez d (kJ B)) l k)/\Below (w.alloc (.cells hs 162)).heap.size (w.alloc (.cells hs 162)) wr) (fun _ i _=>l.length-(intOf i).toNat)
 case atStart=>exact⟨0,oM,rfl,rfl,aQ _ _⟩
 case round =>
  obtain⟨k,hk,rfl,rfl,HB⟩:=hrel;have aU:bL w wr:=ab (aB _ _) HB
  by_cases aq:k<l.length
  ·have h0:l ≠ []:=by rintro rfl;exact absurd aq (acg _)
   obtain⟨b,o,rfl⟩:=hl.form.resolve_left h0;have mf:=hl.later aU;obtain⟨c0,c1,c2,c3⟩:=mf.cells aq;have l0:=ao c0;obtain⟨g1,g2,-⟩:=HG.out.ok k aq;obtain⟨q,hq⟩:=Int.eq_ofNat_of_zero_le g1;have Z4:q<32:=oM;have hv:=HV.out.later HB q Z4;have lv:=ao hv;have q1:(q:Int)<32:=oM;have HF:=az (QJ (d:=d) (B:=B) hq Z4);rw[hq] at c0;have HQ:=az hq;have HW:=az HB;clear h0 hl HB aU hq g1 g2 HV
   cases hd:(l[k].bO==d)
   ·have hf:ez d (kJ B) l[k]=false:=by rw[HF.out,hd];rfl
    have HL:=az (tH aq hf rfl);clear hf HF;go_wp2_with fail;refine wQ ?_
    repeat(go_big_quiet_step (first|exact rfl|fail))
    refine qE ?_;(try clear hc hf hz);(try clear HB);intro p HB hc hf hz;go_wp2;go_roundw
    case rel=>exact⟨k+1,oM,gN,by rw[HL.out],ab HW.out HB⟩
    case measure=>simp[intOf];omega
   ·cases Gx:B q
    ·have hf:ez d (kJ B) l[k]=true:=by rw[HF.out,hd,Gx];rfl
     rw[Gx] at hv
     rcases jn (ez d (kJ B)) l k oM with⟨hr,-⟩|⟨j,hj,-,hr,-⟩
     ·have HL:=az (vj aq hf hr);rw[hr];clear hf HF hr Gx;go_wp2_with fail;refine wQ ?_
      repeat(go_big_quiet_step (first|exact rfl|fail))
      refine qE ?_;(try clear hc hf hz);(try clear HB);intro p HB hc hf hz;go_wp2;go_roundw
      case rel=>exact⟨k+1,oM,gN,by rw[HL.out],ab HW.out HB⟩
      case measure=>simp[intOf];omega
     ·obtain⟨d0,d1,d2,d3⟩:=mf.cells hj;rw[hr];have j0:decide ((j:Int)<0)=false:=aci oM;have j1:(j:Int)<(l.length:Int):=oM
      by_cases hu:l[k].used<l[j].used
      ·have HL:=az (AV aq hj hf hr hu);have u0:decide (l[k].used<l[j].used)=true:=acf hu;clear hf HF hr Gx hu;go_wp2_with fail;refine wQ ?_
       repeat(go_big_quiet_step (first|exact rfl|fail))
       refine qE ?_;(try clear hc hf hz);(try clear HB);intro p HB hc hf hz;go_wp2;go_roundw
       case rel=>exact⟨k+1,oM,gN,by rw[HL.out],ab HW.out HB⟩
       case measure=>simp[intOf];omega
      ·have HL:=az (AU aq hj hf hr hu);have u0:decide (l[k].used<l[j].used)=false:=aci hu;clear hf HF hr Gx hu;go_wp2_with fail;refine wQ ?_
       repeat(go_big_quiet_step (first|exact rfl|fail))
       refine qE ?_;(try clear hc hf hz);(try clear HB);intro p HB hc hf hz;go_wp2;go_roundw
       case rel=>exact⟨k+1,oM,gN,by rw[HL.out],ab HW.out HB⟩
       case measure=>simp[intOf];omega
    ·have hf:ez d (kJ B) l[k]=false:=by rw[HF.out,hd,Gx];rfl
     have HL:=az (tH aq hf rfl);rw[Gx] at hv;clear hf HF Gx;go_wp2_with fail;refine wQ ?_
     repeat(go_big_quiet_step (first|exact rfl|fail))
     refine qE ?_;(try clear hc hf hz);(try clear HB);intro p HB hc hf hz;go_wp2;go_roundw
     case rel=>exact⟨k+1,oM,gN,by rw[HL.out],ab HW.out HB⟩
     case measure=>simp[intOf];omega
  ·obtain rfl:k=l.length:=oM;go_wp2;go_ret;exact⟨rfl,aU⟩
end
section
open Go.RowKit Go.BigFrame Go.Maps
theorem xq{bm:Nat}{W w w':World}(h:bL W w)(ht:w.mapTurned w' bm)(hb:W.heap.size<=bm):bL W w':=by
 have g:=ht.grown;have hs:=h.size;exact⟨g.os.trans h.os,g.tape.trans h.tape,g.output.trans h.output,acv h.size g.size,fun k hk=>(g.block k oM (fun e=>by have:=acR e;omega)).trans (h.block k hk)⟩
theorem pj{P:Program}(w:World){ops:Array Oper}{rest:List Oper}{o:Oper}{a:Act}{Q:Exit->Act->World->Prop}(hg:o.guard=none)(m x v:Operand)(t:TypeId)(qf:o.op=Op.insert t m x v)
 (k e:TypeId) (K:Keyed P k) (ht:P.underlying t=some (.map k e)) (R:Value->Option (DataW Unit × List MemPlace)) (b n:Nat) (D:DataW Unit)
 (hm:a.eval m=.map (some b)) (bp:w.ownsMap P k R b n D) (hn:n<maxLen) (key val:Value) (kl:Lit) (hx:a.eval x=key) (hv:a.eval v=val) (cT:keyOf P k key=some kl)
 (d:DataW Unit) (ps:List MemPlace) (hval:R val=some (d,ps))
 (hK:∀w',w'.ownsMap P k R b (n+1) (D.put kl d)->w.mapTurned w' b->wpList P ops Q rest (a.put o.dst undef) w') :
 wpList P ops Q (o::rest) a w:=by
 refine wpList_plain hg fun K' Zx=>?_
 obtain⟨w',gV,r1,r2⟩:=bp.store K ht hn cT hval;unfold Oper.wp
 simp[execOp,qf,hm,hx,hv,gV,Result.andThen]
 exact Zx _ _ (hK w' r1 r2)
def Fa(w0:World)(k:Nat)(D:DataW Unit)(w':World):Prop:=w'.ownsMap prog 9 (plainElem prog 3) w0.heap.size k D/\bL w0 w'
theorem UG(w0:World):Fa w0 0 (.map []) (w0.alloc (.map #[] 0)):=⟨aeC w0 _ _ _,aB w0 _⟩
def Et:ByteArray:=⟨#[114,101,97,100]⟩
def BE:ByteArray:=⟨#[119,114,105,116,101]⟩
def Eu:ByteArray:=⟨#[115,121,110,99]⟩
theorem y9{D:DataW Unit}(h:IsMap D)(k:Lit)(d:DataW Unit):IsMap (D.put k d):=by
 obtain⟨l,rfl⟩:=h;exact⟨_,rfl⟩
theorem Di{s t:ByteArray}(h:¬s=t):(Lit.string s.data.toList) ≠ (Lit.string t.data.toList):=by
 intro e;simp only[Lit.string.injEq] at e;apply h
 cases s;cases t
 simp only[ByteArray.mk.injEq];exact adM.1 e
def rT:DataW Unit:=(((DataW.map []).put (.string Et.data.toList) (.lit (.int .i64 1))).put (.string BE.data.toList) (.lit (.int .i64 2))).put (.string Eu.data.toList) (.lit (.int .i64 3))
theorem OD{c:Int}(h:rT.atKey (.string Et.data.toList) (.lit (.int .i64 0))=.lit (.int .i64 c)):c=1:=by
 unfold rT at h;rw[aex (Di dM),aex (Di dM),ad9 ⟨_,rfl⟩ (by trivial)] at h;injection h with e;injection e with _ e;exact e.symm
theorem Lk{c:Int}(h:rT.atKey (.string BE.data.toList) (.lit (.int .i64 0))=.lit (.int .i64 c)):c=2:=by
 unfold rT at h;rw[aex (Di dM),ad9 (y9 ⟨_,rfl⟩ _ _) (by trivial)] at h;injection h with e;injection e with _ e;exact e.symm
theorem OE{c:Int}(h:rT.atKey (.string Eu.data.toList) (.lit (.int .i64 0))=.lit (.int .i64 c)):c=3:=by
 unfold rT at h;rw[ad9 (y9 (y9 ⟨_,rfl⟩ _ _) _ _) (by trivial)] at h;injection h with e;injection e with _ e;exact e.symm
theorem aaR(w:World):(zeroValue 3).run prog w=.ok (i6 0) w:=kR
theorem Xz(s:ByteArray)(h:s.size<=9223372036854775807):keyOf prog 9 (.string s)=some (.string s.data.toList):=acH underlying9 (by unfold maxLen;exact h)
end
end Go.Proofs.YtlhgjplipgandaaGreatDoor
