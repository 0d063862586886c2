/- Joined. -/
import Derived.Deep.DeepCutAuto
import Derived.Lib.AppendIntMem
import Derived.Lib.AtoiErrMem
import Derived.WalkSmall
import Derived.RegionTactic
import Derived.ChangeAlike
import Derived.Lib.ItoaLen
import Derived.Lib.Join
import Derived.Test.YtlhgjplipgandaaGreatDoorF35
import Derived.Test.YtlhgjplipgandaaGreatDoorF33
import Derived.Test.YtlhgjplipgandaaGreatDoorF32
import Derived.Test.YtlhgjplipgandaaGreatDoorF11
set_option maxRecDepth 100000
set_option maxHeartbeats 8000000
set_option linter.unusedSimpArgs false
set_option linter.unusedSectionVars false
namespace Go.Proofs.YtlhgjplipgandaaGreatDoor
open Tryz
section
open Go.RowKit Go.BigFrame Go.Maps
def pn:ByteArray:=⟨#[45]⟩
def aV(x:St):Int :=
 if(dY x.word).isSome=false then 3 else if rI (cu x.word).1 (cu x.word).2 x=false then 3
 else if(fM x.a||fM x.b)=true then 1 else if 9<x.data.size then 1 else if j7 x.data=true then 3 else if x.data=pn then 3 else 0
structure kM(x:St):Prop where
 a:cH x.a
 b:cH x.b
 word:x.word.size<=9223372036854775807
 data:x.data.size<=9223372036854775807
def EZ(q:Nat)(n:Int)(b:Bool)(w:World):Prop:=w.cell? ⟨q,0,none⟩=some (i6 n)/\w.cell? ⟨q,1,none⟩=some (.bool b)/\q<w.heap.size
def ur(q:Nat)(x:St)(w:World):Prop:=w.cell? ⟨q,0,none⟩=some (.string x.word)/\w.cell? ⟨q,1,none⟩=some (i6 x.a)/\w.cell? ⟨q,2,none⟩=some (i6 x.b)/\w.cell? ⟨q,3,none⟩=some (.string x.data)/\q<w.heap.size
theorem ur.later{q:Nat}{x:St}{w w':World}(h:ur q x w)(hb:bL w w'):ur q x w':=⟨ai hb h.1,ai hb h.2.1,ai hb h.2.2.1,ai hb h.2.2.2.1,abF h.2.2.2.2 hb.size⟩
theorem LZ(w:World)(n:Int)(b:Bool)(T:TypeId):EZ w.heap.size n b (w.alloc (.cells #[i6 n,.bool b] T)):=⟨sM,sM,sM⟩
theorem L0{w:World}{q:Nat}{n n0:Int}{b b0:Bool}(h0:w.cell? ⟨q,0,none⟩=some (i6 n0))(h1:w.cell? ⟨q,1,none⟩=some (.bool b0))(hl:q<w.heap.size):EZ q n b ((w.setCell ⟨q,0,none⟩ (i6 n)).setCell ⟨q,1,none⟩ (.bool b)):=by
 have tH:(w.setCell ⟨q,0,none⟩ (i6 n)).cell? ⟨q,1,none⟩=some (.bool b0):=by rw[aa6 _ _ _ _ sM];exact h1
 refine⟨?_,?_,by simpa using hl⟩
 ·rw[aa6 _ _ _ _ sM];exact aa2 _ _ _ h0
 ·exact aa2 _ _ _ tH
theorem Jr{P:Program}{c:Code}{Q:Exit->Act->World->Prop}{a:Act}{w:World}(R:World->Prop)(h:R w)(k:∀w',R w'->c.wp P Q a w'):c.wp P Q a w:=k w h
theorem GO{s:ByteArray}(h:¬s=pn):(s.toList==[45])=false:=by
 rw[aaU];intro e;apply h;have e2:s.data.toList=[45]:=by rw[<-adE];exact e
 cases s
 unfold pn
 congr 1
 apply afn.1;exact e2
theorem vO(x:St)(w:World)(hx:kM x):Calls prog 23 #[x.val] w (rB (dm (aV x)) w):=by
 obtain⟨n,b,oL,tO⟩:=iB x.word;obtain⟨c,B1⟩:∃c,(dY x.word).isSome=c:=⟨_,rfl⟩
 obtain⟨t,mD⟩:∃t,rI n b x=t:=⟨_,rfl⟩
 obtain⟨er,iq⟩:∃er,aV x=er:=⟨_,rfl⟩
 have uD:Hid ((if c=false then 3 else if t=false then 3 else if(fM x.a||fM x.b)=true then 1 else if 9<x.data.size then 1 else if j7 x.data=true then 3 else if x.data=pn then 3 else(0:Int))=er):=by
  rw[<-iq];show _=aV x;unfold aV;rw[B1,oL,mD]
 rw[iq];have uE:=ae mD;have Hz:=ae oL;have Dk:=ae B1;have HX:=ae hx;have HNB:=ae tO;clear iq mD oL B1 hx tO;obtain⟨wd,xa,xb,dt⟩:=x;go_enter func23,ntmps23;go_wp2_with fail;refine Jr (fun wz=>ur w.heap.size ⟨wd,xa,xb,dt⟩ wz/\bL w wz) ⟨⟨sM,sM,sM,sM,sM⟩,bQ⟩ ?_;rintro w0 ⟨⟨h0,h1,h2,h3,hl⟩,fq⟩;have kG:Hid (ur w.heap.size ⟨wd,xa,xb,dt⟩ w0):=⟨h0,h1,h2,h3,hl⟩
 have et:=ae fq;clear fq
 go_cut[3,4] (fun s3 s4 wx=>∃q,s3=.pointer (some ⟨q,0,none⟩)/\s4=.bool c/\EZ q n b wx/\bL w0 wx)
 case first =>
  clear h1 h2 h3
  go_region_held3 (fun w'=>w'.cell? ⟨w.heap.size,0,none⟩=some (.string wd)) (exact ai (w:=w0) bQ h0) (first|(go_at_call 68;refine(Ht _).mono ?_;rintro e w1 ⟨mb,rfl,oN⟩;have aw:=oN.bel;have wZ:=(zF oN (aX _ _) wd HX.out.word n b Hz.out c Dk.out).1;have aeN:=(zF oN (aA w1 (.cells #[i6 0,.bool false] 114)) wd HX.out.word n b Hz.out c Dk.out).1;have z1:=aw.size;(try(obtain⟨k0,k1,k2,k3⟩:w1.cell? ⟨w0.heap.size,0,none⟩=some (i6 0)/\w1.cell? ⟨w0.heap.size,1,none⟩=some (.bool false)/\w1.frozen? ⟨w0.heap.size,0,none⟩=false/\w1.frozen? ⟨w0.heap.size,1,none⟩=false;(focus((refine⟨(aw.cell (p:=⟨w0.heap.size,0,none⟩) ?_).trans ?_,(aw.cell (p:=⟨w0.heap.size,1,none⟩) ?_).trans ?_,(aw.frozen (p:=⟨w0.heap.size,0,none⟩) ?_).trans ?_,(aw.frozen (p:=⟨w0.heap.size,1,none⟩) ?_).trans ?_⟩);(all_goals (first|(simp;done)|omega))))))))
  all_goals
   go_wp2
   go_meet
   case rel=>exact⟨_,rfl,rfl,(by first|exact LZ _ _ _ _|exact L0 k0 k1 (by simp at z1;omega)),bQ⟩
 case rest =>
  obtain⟨q,rfl,rfl,hp,cA⟩:=hcut;have HP:=ae hp;have RF:=ae (kG.out.later cA);have HB:=ae (af et.out cA);clear hp cA h0 h1 h2 h3 hl kG et;obtain⟨p0,p1,lp⟩:=id HP.out;obtain⟨b0,b1,b2,b3,lb⟩:=id RF.out;simp only at b0 b1 b2 b3
  cases c
  ·have he:er=3:=uD.out.symm;clear uD;go_wp2;go_ret;exact⟨by rw[he];rfl,HB.out⟩
  go_wp2_with fail;refine cM (ZR n b ⟨wd,xa,xb,dt⟩ _ HNB.out t uE.out) ?_;intro w2 aC;have bT:=ae (af HB.out aC);have Vw:=ae (RF.out.later aC);clear aC RF HB HP p0 p1 lp b0 b1 b2 b3 lb;obtain⟨b0,b1,b2,b3,lb⟩:=id Vw.out;simp only at b0 b1 b2 b3
  cases t
  ·have he:er=3:=uD.out.symm;clear uD;go_wp2;go_ret;exact⟨by rw[he];rfl,bT.out⟩
  obtain⟨ob,O7⟩:∃ob,(fM xa||fM xb)=ob:=⟨_,rfl⟩
  have qD:Hid ((if ob=true then 1 else if 9<dt.size then 1 else if j7 dt=true then 3 else if dt=pn then 3 else(0:Int))=er):=by
   rw[<-O7];exact uD.out
  have wi:Hid ((fM xa||fM xb)=!(!ob)):=by show _=_;rw[O7,agO]
  clear O7 uD;go_wp2_with fail;refine cM (Lw _ xa xb (!ob) wi.out _ sM sM) ?_;intro w3 bo;have fi:=ae (af bT.out (af (aA w2 (.cells #[i6 xa,i6 xb] 3)) bo));have Vx:=ae (Vw.out.later (af (aA w2 (.cells #[i6 xa,i6 xb] 3)) bo));clear bo Vw bT b0 b1 b2 b3 lb wi;obtain⟨b0,b1,b2,b3,lb⟩:=id Vx.out;simp only at b0 b1 b2 b3
  cases ob
  ·by_cases h9:9<dt.size
   ·have h9':(9:Int)<(dt.size:Int):=oM;have he:er=1:=by rw[<-qD.out,aaP aa7,aaV h9]
    clear qD;go_wp2;go_ret;exact⟨by rw[he];rfl,fi.out⟩
   ·have h9':¬(9:Int)<(dt.size:Int):=oM;obtain⟨bk,nT⟩:∃bk,j7 dt=bk:=⟨_,rfl⟩
    have GF:Hid ((if bk=true then 3 else if dt=pn then 3 else(0:Int))=er):=by
     rw[<-nT];have:=qD.out;rw[aaP aa7,aaP h9] at this;exact this
    have J4:=ae nT;clear nT qD;go_wp2_with fail;refine cM (E7 dt oM bk J4.out _) ?_;intro w4 fk;have jV:=ae (af fi.out fk);have aeh:=ae (Vx.out.later fk);clear fk Vx fi b0 b1 b2 b3 lb;obtain⟨b0,b1,b2,b3,lb⟩:=id aeh.out;simp only at b0 b1 b2 b3
    cases bk
    ·by_cases hd:dt=pn
     ·have he:er=3:=by rw[<-GF.out,aaP aa7,aaV hd]
      have hq:(dt.toList==[45])=true:=by rw[hd,adE];rfl
      clear GF hd;go_wp2;go_ret;exact⟨by rw[he];rfl,jV.out⟩
     ·have he:er=0:=by rw[<-GF.out,aaP aa7,aaP hd]
      have hq:(dt.toList==[45])=false:=GO hd;clear GF hd;go_wp2;go_ret;exact⟨by rw[he];rfl,jV.out⟩
    ·have he:er=3:=GF.out.symm;clear GF;go_wp2;go_ret;exact⟨by rw[he];rfl,jV.out⟩
  ·have he:er=1:=qD.out.symm;clear qD;go_wp2;go_ret;exact⟨by rw[he];rfl,fi.out⟩
theorem WS:∀n:Fin 1000,(Lib.itoa (n.val:Int)).length<=3:=dK
theorem Ca(n:Int)(h0:0<=n)(h1:n<=999):(Lib.itoa n).length<=3:=by
 have:=WS ⟨n.toNat,oM⟩
 rwa [show((⟨n.toNat,oM⟩:Fin 1000).val:Int)=n by simp;omega] at this
theorem rS(a b:List UInt8)(h:a.length+b.length<=9223372036854775807)(W:World):Sem.run prog (Op.stringOp .add ⟨a.toArray⟩ ⟨b.toArray⟩) W=.ok (.string ⟨(a++b).toArray⟩) W:=by
 rw[agH]
 ·congr 2
 ·simpa [ByteArray.size] using h
structure nk(w:World):Prop where
 Pv:Lib.TabIs prog w "internal/strconv.uint64pow10" .u64 Lib.pow10Tab
 ml:∃m,w.cell? ⟨1,0,none⟩=some (i6 m)
 sx:∃tp p,w.cell? ⟨4,0,none⟩=some (.iface tp p)
 rg:∃tp p,w.cell? ⟨5,0,none⟩=some (.iface tp p)
theorem nk.later{w w':World}(h:nk w)(hb:bL w w'):nk w' :=
 ⟨Lib.tabBelow_of_tabIs h.Pv w' hb,h.ml.imp fun _ e=>ai hb e,h.sx.imp fun _ e=>e.imp fun _ e=>ai hb e,h.rg.imp fun _ e=>e.imp fun _ e=>ai hb e⟩
theorem WQ(n:Int)(w:World)(h:nk w)(h0:-9223372036854775808<=n)(h1:n<=9223372036854775807):Calls prog 43 #[i6 n] w (rB (.string ⟨(Lib.itoa n).toArray⟩) w) :=
 (Tryz.strconv_Itoa n h0 h1 w h.Pv).mono (fun e w' h'=>⟨h'.1,by obtain⟨k,os,e'⟩:=h'.2;rw[e'];exact Lib.below_grow _ w (aaO _) k os⟩)
def vA(l:List UInt8):Int:=match Lib.atoiAll l with
 |.ok v=>v
 |.«syntax»=>0
 |.range=>Lib.atoiSat l
theorem VU(s:ByteArray)(hs:s.size<=1000)(w:World)(h:nk w):Calls prog 236 #[.string s] w fun e w'=>∃ev,e=.returned (.tuple #[i6 (vA s.data.toList),ev])/\bL w w':=by
 unfold vA
 cases ha:Lib.atoiAll s.data.toList with
 |ok v =>
  refine(Tryz.strconv_Atoi_ok s oM v ha w).mono (fun e w' h'=>⟨_,h'.1,?_⟩)
  rcases h'.2 with e'|⟨t,e'⟩
  ·rw[e'];exact aX _ _
  ·rw[e'];exact Lib.bytesWorld_below w _ t
 |«syntax» =>
  obtain⟨tp,p,hv⟩:=h.sx;refine(Tryz.strconv_Atoi_syntax s oM ha _ w hv (ir ⟨tp,p,rfl⟩)).mono (fun e w' h'=>?_);obtain⟨N,h1,_,_,h2⟩:=h';exact⟨_,h1,h2⟩
 |range =>
  obtain⟨tp,p,hv⟩:=h.rg;refine(Tryz.strconv_Atoi_range s oM ha _ w hv (ir ⟨tp,p,rfl⟩)).mono (fun e w' h'=>?_);obtain⟨N,h1,_,_,h2⟩:=h';exact⟨_,h1,h2⟩
theorem OU(l:List UInt8)(hs:l.length<=1000)(w:World)(h:nk w):Calls prog 222 #[.string ⟨l.toArray⟩,.string ⟨#[32]⟩] w (rB (.tuple #[.string ⟨(Lib.cut l [32]).1.toArray⟩,.string ⟨(Lib.cut l [32]).2.1.toArray⟩,.bool (Lib.cut l [32]).2.2]) w):=by
 obtain⟨m,hm⟩:=h.ml;refine(Tryz.strings_Cut ⟨l.toArray⟩ ⟨#[32]⟩ m w (by show l.length<_;omega) hm).mono (fun e w' h'=>⟨h'.1,?_⟩);obtain⟨n,e'⟩:=h'.2;rw[e'];exact below_drewN (aX _ _) n
def gJ(x y:Int):Nat->List UInt8
 |0=>[]
 |1=>32::Lib.itoa x
 |_=>32::Lib.itoa x++32::Lib.itoa y
theorem LX(x y:Int)(k:Nat)(hx:0<=x/\x<=999)(hy:0<=y/\y<=999):(gJ x y k).length<=8:=by
 have lx:=Ca x hx.1 hx.2;have ly:=Ca y hy.1 hy.2;unfold gJ
 split<;>simp<;>omega
theorem pB(l:List UInt8)(b:Nat)(x y:Int)(k:Nat)(hk:k<=2)(w:World)(h:nk w)(hl:l.length<=1000)(h0:w.cell? ⟨b,0,none⟩=some (i6 x))(h1:w.cell? ⟨b,1,none⟩=some (i6 y))(hx:0<=x/\x<=999)(hy:0<=y/\y<=999) :
 Calls prog 224 #[.string ⟨l.toArray⟩,.slice (some ⟨b,0,none⟩) k 2] w (rB (.string ⟨(l++gJ x y k).toArray⟩) w):=by
 have H0:=ae h0;have H1:=ae h1;have HL:=ae h;have HX:=ae hx;have HY:=ae hy;have kL:=ae hl;clear h0 h1 h hx hy hl;go_enter func224,ntmps224;go_wp2
 go_loopw[0,9] (fun t i wr=>∃(j:Nat) (T:List UInt8),j<=k/\i=i6 j/\t=.string ⟨T.toArray⟩/\T=l++gJ x y j/\bL w wr) (fun _ i _=>k-(intOf i).toNat)
 case atStart=>exact⟨0,l,oM,rfl,rfl,by rw[show gJ x y 0=[] from rfl,afd],aX _ _⟩
 case round =>
  obtain⟨j,T,hj,rfl,rfl,hT,hb⟩:=hrel;have HB:=ae hb;have HT:=ae hT
  by_cases au:j<k
  ·have gC:(j:Int)<(k:Int):=oM;obtain⟨z,hcz,hz,sN⟩:∃z,wr.cell? ⟨b,j,none⟩=some (i6 z)/\(0<=z/\z<=999)/\gJ x y (j+1)=gJ x y j++(32::Lib.itoa z):=by
    have hj2:j=0\/j=1:=oM
    rcases hj2 with rfl|rfl
    ·exact⟨x,ai hb H0.out,HX.out,rfl⟩
    ·exact⟨y,ai hb H1.out,HY.out,by simp[gJ]⟩
   have lz:=Ca z hz.1 hz.2;have KZ:T.length<=1008:=by
    have h1:=LX x y j HX.out HY.out;have h2:=kL.out;rw[hT,aaQ];omega
   have s1:=rS [32] (Lib.itoa z) (by simp;omega);have s2:=rS T (32::Lib.itoa z) (by simp;omega);have OG:Hid (T++(32::Lib.itoa z)=l++gJ x y (j+1)):=by show _=_;rw[sN,hT,abp]
   have HZ:=ae hz;generalize hI:Lib.itoa z=I at *;have HI:=ae hI;clear hT hb sN hz lz KZ hI;go_wp2_with fail;refine(WQ z _ (HL.out.later HB.out) (by have:=HZ.out;omega) (by have:=HZ.out;omega)).mono ?_;rw[HI.out];rintro e w1 ⟨rfl,aw⟩;have aN:=ae (af HB.out aw);clear aw;go_wp2;go_roundw
   case rel=>exact⟨j+1,_,oM,gN,rfl,OG.out,aN.out⟩
   case measure=>simp[intOf];omega
  ·have Li:j=k:=oM;clear hb hT;go_wp2;go_ret;exact⟨by rw[<-Li,<-HT.out];rfl,HB.out⟩
theorem mC(s:ByteArray):∃l:List UInt8,s=⟨l.toArray⟩:=⟨s.data.toList,sM⟩
theorem sg(l:List UInt8):(⟨l.toArray⟩:ByteArray).size=l.length:=by simp[ByteArray.size]
theorem Y3{α:Type}{c:Prop} [Decidable c]{x y:Option α}(h:(if c then x else y).isSome=true):c\/y.isSome=true:=by
 split at h
 ·left;assumption
 ·right;exact h
theorem Vr(s:ByteArray)(h:(dY s).isSome=true):s.size<=8:=by
 unfold dY at h
 iterate 15
  (rcases Y3 h with h1|h1
   ·subst h1;decide
   have h:=h1;clear h1)
 cases h
def ic(d:List UInt8):Bool->List UInt8
 |false=>[]
 |true=>32::(if d.isEmpty then [45] else d)
def St.text(x:St):List UInt8:=x.word.data.toList++gJ x.a x.b (cu x.word).1.toNat++ic x.data.data.toList (cu x.word).2
def AO(x:St):ByteArray:=if aV x=0 then⟨x.text.toArray⟩ else⟨#[]⟩
theorem KA{n:Int}(h:fM n=false):0<=n/\n<=999:=by
 unfold fM at h;simp only[afe,acv] at h
 omega
theorem pJ{x:St}(h:aV x=0):(dY x.word).isSome=true/\rI (cu x.word).1 (cu x.word).2 x=true/\(0<=x.a/\x.a<=999)/\(0<=x.b/\x.b<=999)/\x.data.size<=9/\j7 x.data=false/\¬x.data=pn:=by
 unfold aV at h
 split at h
 ·omega
 rename_i h1
 split at h
 ·omega
 rename_i h2
 split at h
 ·omega
 rename_i h3
 split at h
 ·omega
 rename_i h4
 split at h
 ·omega
 rename_i h5
 split at h
 ·omega
 rename_i h6
 have A6:=afe.1 (Bool.eq_false_iff.2 h3);exact⟨Bool.not_eq_false _▸h1,Bool.not_eq_false _▸h2,KA A6.1,KA A6.2,oM,by simpa using h5,h6⟩
theorem qU(x:St):aV x=0\/aV x=1\/aV x=3:=by
 unfold aV
 repeat' split
 all_goals simp
theorem aaH(x:St)(w:World)(hx:kM x)(h0:¬aV x=0):Calls prog 192 #[x.val] w (rB (.tuple #[.string ⟨#[]⟩,dm (aV x)]) w):=by
 have fW:=fun W=>vO x W hx
 obtain⟨er,iq⟩:∃er,aV x=er:=⟨_,rfl⟩
 rw[iq] at fW h0 ⊢;rw[show dm er=.iface 87 (i6 er) by rw[dm,aaP h0]] at fW ⊢;clear iq hx;obtain⟨wd,xa,xb,dt⟩:=x;go_enter func192,ntmps192;go_wp2_with fail;refine cM (fW _) ?_;intro w1 aw;clear fW;go_wp2
 go_ret2
 exact⟨rfl,bQ⟩
theorem Me{a b:List UInt8}(h:a=b):Ending.returned (.tuple #[.string ⟨a.toArray⟩,.nilIface])=Ending.returned (.tuple #[.string ⟨b.toArray⟩,.nilIface]):=by rw[h]
theorem X2(W L:List UInt8)(xa xb:Int)(w:World)(hx:kM ⟨⟨W.toArray⟩,xa,xb,⟨L.toArray⟩⟩)(hl:nk w)(h0:aV ⟨⟨W.toArray⟩,xa,xb,⟨L.toArray⟩⟩=0):Calls prog 192 #[(⟨⟨W.toArray⟩,xa,xb,⟨L.toArray⟩⟩:St).val] w (rB (.tuple #[.string ⟨(⟨⟨W.toArray⟩,xa,xb,⟨L.toArray⟩⟩:St).text.toArray⟩,.nilIface]) w):=by
 have fW:=fun w0=>vO ⟨⟨W.toArray⟩,xa,xb,⟨L.toArray⟩⟩ w0 hx
 rw[h0,show dm 0=.nilIface from rfl] at fW;obtain⟨f1,f2,f3,f4,f5,f6,f7⟩:=pJ h0;have lW:=Vr _ f1;obtain⟨n,b,oL,tO⟩:=iB ⟨W.toArray⟩;simp only at f1 f2 f3 f4 f5 f6 f7 lW;rw[sg] at f5 lW;have Lq:(⟨⟨W.toArray⟩,xa,xb,⟨L.toArray⟩⟩:St).text=W++gJ xa xb n.toNat++ic L b:=by
  unfold St.text;simp only;rw[oL]
 rw[Lq];have hlN:=LX xa xb n.toNat f3 f4;have HWS:=ae hx.word;have Hz:=ae oL;have OA:=ae f1;have HL:=ae hl;have HA:=ae f3;have HB:=ae f4;have HLD:=ae f5;have gM:=ae lW;have eU:=ae hlN;clear oL f1 f2 f3 f4 f5 f6 f7 lW Lq h0 hx hl hlN;go_enter func192,ntmps192;go_wp2_with fail;refine cM (fW _) ?_;intro w1 aw;clear fW;go_wp2_with fail;refine Jr (fun wz=>ur w.heap.size ⟨⟨W.toArray⟩,xa,xb,⟨L.toArray⟩⟩ wz/\bL w wz) ⟨ur.later (w:=w.alloc (.cells #[.string ⟨W.toArray⟩,i6 xa,i6 xb,.string ⟨L.toArray⟩] 30)) ⟨sM,sM,sM,sM,sM⟩ bQ,bQ⟩ ?_;rintro w0 ⟨cA,fq⟩;have kG:=ae cA;have et:=ae fq;clear fq aw cA w1;obtain⟨b0,b1,b2,b3,lb⟩:=id kG.out;simp only at b0 b1 b2 b3
 go_cut[5] (fun s5 wx=>∃q,s5=.pointer (some ⟨q,0,none⟩)/\EZ q n b wx/\bL w0 wx)
 case first =>
  clear b1 b2 b3
  go_region_held3 (fun w'=>w'.cell? ⟨w.heap.size,0,none⟩=some (.string ⟨W.toArray⟩)) (exact ai (w:=w0) bQ b0) (first|(go_at_call 68;refine(Ht _).mono ?_;rintro e w1 ⟨mb,rfl,oN⟩;have aw:=oN.bel;have wZ:=(zF oN (aX _ _) ⟨W.toArray⟩ HWS.out n b Hz.out true OA.out).2;have aeN:=(zF oN (aA w1 (.cells #[i6 0,.bool false] 114)) ⟨W.toArray⟩ HWS.out n b Hz.out true OA.out).2;have z1:=aw.size;(try(obtain⟨k0,k1,k2,k3⟩:w1.cell? ⟨w0.heap.size,0,none⟩=some (i6 0)/\w1.cell? ⟨w0.heap.size,1,none⟩=some (.bool false)/\w1.frozen? ⟨w0.heap.size,0,none⟩=false/\w1.frozen? ⟨w0.heap.size,1,none⟩=false;(focus((refine⟨(aw.cell (p:=⟨w0.heap.size,0,none⟩) ?_).trans ?_,(aw.cell (p:=⟨w0.heap.size,1,none⟩) ?_).trans ?_,(aw.frozen (p:=⟨w0.heap.size,0,none⟩) ?_).trans ?_,(aw.frozen (p:=⟨w0.heap.size,1,none⟩) ?_).trans ?_⟩);(all_goals (first|(simp;done)|omega))))))))
  all_goals
   go_wp2
   go_meet
   case rel=>exact⟨_,rfl,(by first|exact LZ _ _ _ _|exact L0 k0 k1 (by simp at z1;omega)),bQ⟩
 case rest =>
  obtain⟨q,rfl,hp,cA⟩:=hcut;have aaS:=ae (kG.out.later cA);have so:=ae (af et.out cA);have HP:=ae hp;clear hp cA b0 b1 b2 b3 lb kG et;have kG:=aaS;clear aaS;obtain⟨b0,b1,b2,b3,lb⟩:=id kG.out;obtain⟨p0,p1,lp⟩:=id HP.out;simp only at b0 b1 b2 b3
  rcases tO with⟨rfl,rfl⟩|⟨rfl,rfl⟩|⟨rfl,rfl⟩|⟨rfl,rfl⟩
  ·go_wp2_with fail;go_cut[6] (fun s6 wy=>s6=.string ⟨(W++gJ xa xb 0).toArray⟩/\bL wc wy);(case first=>(go_region_held3 (fun w'=>w'.cell? ⟨w.heap.size,0,none⟩=some (.string ⟨W.toArray⟩)/\w'.cell? ⟨w.heap.size,1,none⟩=some (i6 xa)/\w'.cell? ⟨w.heap.size,2,none⟩=some (i6 xb)/\w'.cell? ⟨q,0,none⟩=some (i6 0)) (exact⟨ai (w:=wc) bQ b0,ai (w:=wc) bQ b1,ai (w:=wc) bQ b2,ai (w:=wc) bQ p0⟩) (first|(go_at_call 224;refine cM (pB W _ xa xb 0 oM _ (HL.out.later (af so.out bQ)) (by have:=gM.out;omega) sM sM HA.out HB.out) ?_;intro w2 aC)));(all_goals ((go_wp2);(go_meet);(case rel=>exact⟨rfl,bQ⟩))))
   case rest =>
    obtain⟨rfl,jh⟩:=hcut;have Ug:=ai jh p1;have lK:=ae (af so.out jh);clear b0 b1 b2 b3 p0 p1 jh;go_wp2
    go_ret2
    exact⟨Me (by simp[ic]),lK.out⟩
  ·go_wp2_with fail;go_cut[6] (fun s6 wy=>s6=.string ⟨(W++gJ xa xb 1).toArray⟩/\bL wc wy);(case first=>(go_region_held3 (fun w'=>w'.cell? ⟨w.heap.size,0,none⟩=some (.string ⟨W.toArray⟩)/\w'.cell? ⟨w.heap.size,1,none⟩=some (i6 xa)/\w'.cell? ⟨w.heap.size,2,none⟩=some (i6 xb)/\w'.cell? ⟨q,0,none⟩=some (i6 1)) (exact⟨ai (w:=wc) bQ b0,ai (w:=wc) bQ b1,ai (w:=wc) bQ b2,ai (w:=wc) bQ p0⟩) (first|(go_at_call 224;refine cM (pB W _ xa xb 1 oM _ (HL.out.later (af so.out bQ)) (by have:=gM.out;omega) sM sM HA.out HB.out) ?_;intro w2 aC)));(all_goals ((go_wp2);(go_meet);(case rel=>exact⟨rfl,bQ⟩))))
   case rest =>
    obtain⟨rfl,jh⟩:=hcut;have Ug:=ai jh p1;have lK:=ae (af so.out jh);clear b0 b1 b2 b3 p0 p1 jh;go_wp2
    go_ret2
    exact⟨Me (by simp[ic]),lK.out⟩
  ·go_wp2_with fail;go_cut[6] (fun s6 wy=>s6=.string ⟨(W++gJ xa xb 2).toArray⟩/\bL wc wy);(case first=>(go_region_held3 (fun w'=>w'.cell? ⟨w.heap.size,0,none⟩=some (.string ⟨W.toArray⟩)/\w'.cell? ⟨w.heap.size,1,none⟩=some (i6 xa)/\w'.cell? ⟨w.heap.size,2,none⟩=some (i6 xb)/\w'.cell? ⟨q,0,none⟩=some (i6 2)) (exact⟨ai (w:=wc) bQ b0,ai (w:=wc) bQ b1,ai (w:=wc) bQ b2,ai (w:=wc) bQ p0⟩) (first|(go_at_call 224;refine cM (pB W _ xa xb 2 oM _ (HL.out.later (af so.out bQ)) (by have:=gM.out;omega) sM sM HA.out HB.out) ?_;intro w2 aC)));(all_goals ((go_wp2);(go_meet);(case rel=>exact⟨rfl,bQ⟩))))
   case rest =>
    obtain⟨rfl,jh⟩:=hcut;have Ug:=ai jh p1;have b3':=ai jh b3;have lK:=ae (af so.out jh);have lT:(W++gJ xa xb 2).length<=16:=by have h1:=eU.out;have h2:=gM.out;rw[aaQ];simp only[show Int.toNat 2=2 from rfl] at h1;omega
    obtain⟨T,hT⟩:∃T,W++gJ xa xb 2=T:=⟨_,rfl⟩
    rw[hT] at lT ⊢;have HT:=ae hT;clear hT;have s1:=rS T [32] (by simp;omega);have s2:=rS (T++[32]) [45] (by simp;omega);have s3:=rS (T++[32]) L (by have:=HLD.out;simp;omega);clear b0 b1 b2 b3 p0 p1 jh lT
    cases L with
    |nil =>
     go_wp2
     go_ret2
     exact⟨Me (by rw[<-HT.out];simp[ic]),lK.out⟩
    |cons c L =>
     have hq:((⟨(c::L).toArray⟩:ByteArray).toList==[])=false:=by rw[adE];rfl
     have dC:(⟨(c::L).toArray⟩:ByteArray).toList.isEmpty=false:=by rw[adE];rfl
     go_wp2
     go_ret2
     exact⟨Me (by rw[<-HT.out];simp[ic]),lK.out⟩
  ·go_wp2_with fail;go_cut[6] (fun s6 wy=>s6=.string ⟨(W++gJ xa xb 2).toArray⟩/\bL wc wy);(case first=>(go_region_held3 (fun w'=>w'.cell? ⟨w.heap.size,0,none⟩=some (.string ⟨W.toArray⟩)/\w'.cell? ⟨w.heap.size,1,none⟩=some (i6 xa)/\w'.cell? ⟨w.heap.size,2,none⟩=some (i6 xb)/\w'.cell? ⟨q,0,none⟩=some (i6 2)) (exact⟨ai (w:=wc) bQ b0,ai (w:=wc) bQ b1,ai (w:=wc) bQ b2,ai (w:=wc) bQ p0⟩) (first|(go_at_call 224;refine cM (pB W _ xa xb 2 oM _ (HL.out.later (af so.out bQ)) (by have:=gM.out;omega) sM sM HA.out HB.out) ?_;intro w2 aC)));(all_goals ((go_wp2);(go_meet);(case rel=>exact⟨rfl,bQ⟩))))
   case rest =>
    obtain⟨rfl,jh⟩:=hcut;have Ug:=ai jh p1;have lK:=ae (af so.out jh);clear b0 b1 b2 b3 p0 p1 jh;go_wp2
    go_ret2
    exact⟨Me (by simp[ic]),lK.out⟩
theorem Vf(x:St)(w:World)(hx:kM x)(hl:nk w):Calls prog 192 #[x.val] w (rB (.tuple #[.string (AO x),dm (aV x)]) w):=by
 by_cases h0:aV x=0
 ·unfold AO;rw[aaV h0,h0];obtain⟨wd,xa,xb,dt⟩:=x;obtain⟨W,rfl⟩:=mC wd;obtain⟨L,rfl⟩:=mC dt;exact X2 W L xa xb w hx hl h0
 ·unfold AO;rw[aaP h0];exact aaH x w hx h0
theorem Ea(l:List UInt8):(Lib.cut l [32]).1.length<=l.length:=by
 unfold Lib.cut
 split
 ·simp;omega
 ·exact aaO _
theorem Eb(l:List UInt8):(Lib.cut l [32]).2.1.length<=l.length:=by
 unfold Lib.cut
 split
 ·simp
 ·exact ach _
def me(l:List UInt8):Nat->List UInt8
 |0=>l
 |j+1=>(Lib.cut (me l j) [32]).2.1
def fy(l:List UInt8)(j:Nat):Int:=vA (Lib.cut (me l j) [32]).1
theorem Cj(l:List UInt8):∀j,(me l j).length<=l.length
 |0=>aaO _
 |j+1=>abb (Eb _) (Cj l j)
structure RN(s b:Nat)(wd dt:ByteArray)(A B:Int)(l:List UInt8)(j:Nat)(W w:World):Prop where
 box:ur s ⟨wd,if 1<=j then fy l 0 else A,if 2<=j then fy l 1 else B,dt⟩ w
 b0:w.cell? ⟨b,0,none⟩=some (.pointer (some ⟨s,1,none⟩))
 b1:w.cell? ⟨b,1,none⟩=some (.pointer (some ⟨s,2,none⟩))
 f1:w.frozen? ⟨s,1,none⟩=false
 f2:w.frozen? ⟨s,2,none⟩=false
 f3:w.frozen? ⟨s,3,none⟩=false
 bel:bL W w
variable{s b:Nat}{wd dt:ByteArray}{A B:Int}{l:List UInt8}{j:Nat}{W w w':World}
theorem RN.later(h:RN s b wd dt A B l j W w)(hb:bL w w'):RN s b wd dt A B l j W w' :=
 ⟨h.box.later hb,ai hb h.b0,ai hb h.b1,(hb.frozen (p:=⟨s,1,none⟩) h.box.2.2.2.2).trans h.f1,(hb.frozen (p:=⟨s,2,none⟩) h.box.2.2.2.2).trans h.f2,(hb.frozen (p:=⟨s,3,none⟩) h.box.2.2.2.2).trans h.f3,af h.bel hb⟩
theorem RN.ae4(h:RN s b wd dt A B l 0 W w)(hs:W.heap.size<=s)(kq:¬s=b):RN s b wd dt A B l 1 W (w.setCell ⟨s,1,none⟩ (i6 (fy l 0))):=by
 obtain⟨⟨c0,c1,c2,c3,c4⟩,b0,b1,f1,f2,f3,bl⟩:=h;refine⟨⟨?_,?_,?_,?_,by simpa using c4⟩,?_,?_,by simpa using f1,by simpa using f2,by simpa using f3,al bl hs _⟩
 ·rw[aa6 _ _ _ _ sM];exact c0
 ·exact aa2 _ _ _ c1
 ·rw[aa6 _ _ _ _ sM];exact c2
 ·rw[aa6 _ _ _ _ sM];exact c3
 ·rw[aa6 _ _ _ _ sM];exact b0
 ·rw[aa6 _ _ _ _ (fun e=>kq (by injection e))];exact b1
theorem RN.Cs(h:RN s b wd dt A B l 1 W w)(hs:W.heap.size<=s):RN s b wd dt A B l 2 W (w.setCell ⟨s,2,none⟩ (i6 (fy l 1))):=by
 obtain⟨⟨c0,c1,c2,c3,c4⟩,b0,b1,f1,f2,f3,bl⟩:=h;refine⟨⟨?_,?_,?_,?_,by simpa using c4⟩,?_,?_,by simpa using f1,by simpa using f2,by simpa using f3,al bl hs _⟩
 ·rw[aa6 _ _ _ _ sM];exact c0
 ·rw[aa6 _ _ _ _ sM];exact c1
 ·exact aa2 _ _ _ c2
 ·rw[aa6 _ _ _ _ sM];exact c3
 ·rw[aa6 _ _ _ _ sM];exact b0
 ·rw[aa6 _ _ _ _ sM];exact b1
theorem RN.next(hj:j<2)(hs:W.heap.size<=s)(kq:¬s=b)(h:RN s b wd dt A B l j W w):∃o,w.cell? ⟨b,j,none⟩=some (.pointer (some ⟨s,o,none⟩))/\∀w2,RN s b wd dt A B l j W w2->(∃v,w2.cell? ⟨s,o,none⟩=some (i6 v))/\w2.frozen? ⟨s,o,none⟩=false/\RN s b wd dt A B l (j+1) W (w2.setCell ⟨s,o,none⟩ (i6 (fy l j))):=by
 have hj2:j=0\/j=1:=oM
 rcases hj2 with rfl|rfl
 ·exact⟨1,h.b0,fun w2 h2=>⟨⟨_,h2.box.2.1⟩,h2.f1,h2.ae4 hs kq⟩⟩
 ·exact⟨2,h.b1,fun w2 h2=>⟨⟨_,h2.box.2.2.1⟩,h2.f2,h2.Cs hs⟩⟩
theorem py(s b:Nat)(wd dt:ByteArray)(A B:Int)(l:List UInt8)(k:Nat)(hk:k<=2)(W w:World)(hl:nk W)(hlen:l.length<=1000)(hs:W.heap.size<=s)(kq:¬s=b)(h:RN s b wd dt A B l 0 W w) :
 Calls prog 223 #[.string ⟨l.toArray⟩,.slice (some ⟨b,0,none⟩) k 2] w fun e w'=>e=.returned (.string ⟨(me l k).toArray⟩)/\RN s b wd dt A B l k W w':=by
 have H:=ae h;have HL:=ae hl;have kL:=ae hlen;have HS:=ae hs;have HSB:=ae kq;clear h hl hlen hs kq;go_enter func223,ntmps223;go_wp2
 go_loopw[0,10] (fun t i wr=>∃(j:Nat) (T:List UInt8),j<=k/\i=i6 j/\t=.string ⟨T.toArray⟩/\T=me l j/\RN s b wd dt A B l j W wr) (fun _ i _=>k-(intOf i).toNat)
 case atStart=>exact⟨0,l,oM,rfl,rfl,rfl,H.out⟩
 case round =>
  obtain⟨j,T,hj,rfl,rfl,hT,hr⟩:=hrel
  by_cases au:j<k
  ·have gC:(j:Int)<(k:Int):=oM;obtain⟨o,vJ,sN⟩:=hr.next oM HS.out HSB.out;have HR:=ae hr;have OG:=ae sN;have KZ:T.length<=1000:=by rw[hT];exact abb (Cj l j) kL.out
   have fR:=abb (Ea T) KZ;have HN:Hid (vA (Lib.cut T [32]).1=fy l j):=by show _=_;rw[hT];rfl
   have HT:Hid ((Lib.cut T [32]).2.1=me l (j+1)):=by show _=_;rw[hT];rfl
   have D5:=fun W2 hW2=>OU T KZ W2 hW2
   generalize Lib.cut T [32]=c at *;obtain⟨D,R,fd⟩:=c;simp only at fR HN HT D5;have Pz:=fun W2 hW2=>VU ⟨D.toArray⟩ (by rw[sg];exact fR) W2 hW2
   simp only[show vA (ByteArray.mk D.toArray).data.toList=fy l j from HN.out] at Pz;clear hT hr sN KZ fR HN;go_wp2_with fail;refine cM (D5 _ (HL.out.later HR.out.bel)) ?_;intro w1 aw;have xN:=ae (HR.out.later aw);clear aw HR D5 vJ;go_wp2_with fail;refine(Pz _ (HL.out.later xN.out.bel)).mono ?_;rintro e w2 ⟨ev,rfl,aC⟩;obtain⟨⟨v,hv⟩,hf,vv⟩:=OG.out w2 (xN.out.later aC);have tG:=ae vv;clear aC xN Pz vv OG;go_wp2;go_roundw
   case rel=>exact⟨j+1,_,oM,gN,rfl,HT.out,tG.out⟩
   case measure=>simp[intOf];omega
  ·have Li:j=k:=oM;have HR:=ae hr;have HT:=ae hT;clear hT hr;go_wp2;go_ret;exact⟨by rw[<-Li,<-HT.out];rfl,Li▸HR.out⟩
def l9(c:List UInt8 × List UInt8 × Bool)(k:Nat):St:=⟨⟨c.1.toArray⟩,if 1<=k then fy c.2.1 0 else 0,if 2<=k then fy c.2.1 1 else 0,if me c.2.1 k=[45] then⟨#[]⟩ else⟨(me c.2.1 k).toArray⟩⟩
def ju(l:List UInt8):St:=l9 (Lib.cut l [32]) (cu ⟨(Lib.cut l [32]).1.toArray⟩).1.toNat
structure kf(q:Nat)(x:St)(w:World):Prop where
 box:ur q x w
 f0:w.frozen? ⟨q,0,none⟩=false
 f1:w.frozen? ⟨q,1,none⟩=false
 f2:w.frozen? ⟨q,2,none⟩=false
 f3:w.frozen? ⟨q,3,none⟩=false
theorem kf.later{q:Nat}{x:St}{w w':World}(h:kf q x w)(hb:bL w w'):kf q x w' :=
 ⟨h.box.later hb,(hb.frozen (p:=⟨q,0,none⟩) h.box.2.2.2.2).trans h.f0,(hb.frozen (p:=⟨q,1,none⟩) h.box.2.2.2.2).trans h.f1,(hb.frozen (p:=⟨q,2,none⟩) h.box.2.2.2.2).trans h.f2,(hb.frozen (p:=⟨q,3,none⟩) h.box.2.2.2.2).trans h.f3⟩
theorem mQ(w:World)(x:St)(T:TypeId):kf w.heap.size x (w.alloc (.cells #[.string x.word,i6 x.a,i6 x.b,.string x.data] T)):=⟨⟨sM,sM,sM,sM,sM⟩,sM,sM,sM,sM⟩
theorem kf.rn{s b:Nat}{wd dt:ByteArray}{A B:Int}{l:List UInt8}{W w:World}(h:kf s ⟨wd,A,B,dt⟩ w)(h0:w.cell? ⟨b,0,none⟩=some (.pointer (some ⟨s,1,none⟩)))(h1:w.cell? ⟨b,1,none⟩=some (.pointer (some ⟨s,2,none⟩)))(hb:bL W w):RN s b wd dt A B l 0 W w:=⟨h.box,h0,h1,h.f1,h.f2,h.f3,hb⟩
theorem nu{P:Program}{f:Nat}{args:Array Value}{Q:Ending->World->Prop}{w:World}(R:World->Prop)(h:R w)(k:∀w',R w'->Calls P f args w' Q):Calls P f args w Q:=k w h
theorem Xp(l:List UInt8)(hlen:l.length<=1000)(w:World)(hl:nk w):Calls prog 191 #[.string ⟨l.toArray⟩] w fun e w'=>e=.returned (ju l).val/\bL w w':=by
 have D5:=OU l hlen;have c1:=abb (Ea l) hlen;have c2:=abb (Eb l) hlen;unfold ju;generalize Lib.cut l [32]=c at *;obtain⟨D,R,fd⟩:=c;simp only at c1 c2 D5 ⊢;obtain⟨n,b,oL,tO⟩:=iB ⟨D.toArray⟩;obtain⟨t,ht⟩:∃t,(dY ⟨D.toArray⟩).isSome=t:=⟨_,rfl⟩
 rw[show(cu ⟨D.toArray⟩).1=n by rw[oL]];have Hz:=ae oL;have Yt:=ae ht;have HL:=ae hl;have C1:=ae c1;have C2:=ae c2;clear oL ht hl c1 c2 hlen;go_enter func191,ntmps191;go_wp2_with fail;refine cM (D5 _ (HL.out.later (aA _ _))) ?_;intro w1 aw;have HF:=ae ((mQ w ⟨⟨#[]⟩,0,0,⟨#[]⟩⟩ 30).later aw);have aN:=ae (af (aA _ _) aw);clear aw D5;go_wp2_with fail;refine nu (fun wz=>kf w1.heap.size ⟨⟨D.toArray⟩,0,0,⟨#[]⟩⟩ wz/\bL w1 wz) ⟨⟨⟨sM,sM,sM,sM,sM⟩,sM,sM,sM,sM⟩,bQ⟩ ?_;rintro w2 ⟨hs,aC⟩;have HS:=ae hs;have bT:=ae aC;clear hs aC;refine(Ht _).mono ?_;rintro e w3 ⟨mb,rfl,oN⟩;have wZ:=(zF oN (aX _ _) ⟨D.toArray⟩ (by rw[sg];have:=C1.out;omega) n b Hz.out t Yt.out).2;have eV:=ae (HS.out.later oN.bel);have fi:=ae (af bT.out oN.bel);clear oN HS bT Hz Yt
 rcases tO with⟨rfl,rfl⟩|⟨rfl,rfl⟩|⟨rfl,rfl⟩|⟨rfl,rfl⟩
 ·go_wp2_with fail;refine cM (py w1.heap.size (w3.heap.size+1) ⟨D.toArray⟩ ⟨#[]⟩ 0 0 R 0 oM w1 _ (HL.out.later aN.out) C2.out (aaO _) (by have:=fi.out.size;omega) (kf.rn (eV.out.later bQ) sM sM (af fi.out bQ))) ?_;intro w4 pR;obtain⟨⟨r0,r1,r2,r3,rl⟩,g0,g1,g2,g3⟩:=HF.out.later pR.bel;obtain⟨s0,s1,s2,s3,sl⟩:=pR.box;have f3:=pR.f3;simp only at r0 r1 r2 r3 s0 s1 s2 s3;have jV:=ae (af aN.out pR.bel);have aE:=aN.out.size;have uc:=HF.out.box.2.2.2.2;clear pR fi eV wZ;obtain⟨T,hT⟩:∃T,me R 0=T:=⟨_,rfl⟩
  rw[hT];have HT:=ae hT;clear hT
  by_cases hd:T=[45]
  ·have HK:Hid (l9 (D,R,fd) 0=⟨⟨D.toArray⟩,if 1<=0 then fy R 0 else 0,if 2<=0 then fy R 1 else 0,⟨#[]⟩⟩):=by show _=_;unfold l9;simp only;rw[HT.out,aaV hd]
   clear HT;subst hd;go_wp2;refine aaY (v:=(⟨⟨D.toArray⟩,if 1<=0 then fy R 0 else 0,if 2<=0 then fy R 1 else 0,⟨#[]⟩⟩:St).val) (by simp[results,results191,go_sem,r0,r1,r2,r3]) rfl ⟨acT (fun x:St=>Ending.returned x.val) HK.out.symm,by have fk:=jV.out;exact bQ⟩
  ·have HK:Hid (l9 (D,R,fd) 0=⟨⟨D.toArray⟩,if 1<=0 then fy R 0 else 0,if 2<=0 then fy R 1 else 0,⟨T.toArray⟩⟩):=by show _=_;unfold l9;simp only;rw[HT.out,aaP hd]
   have hq:(T==[45])=false:=aaU.2 hd;clear HT hd;go_wp2;refine aaY (v:=(⟨⟨D.toArray⟩,if 1<=0 then fy R 0 else 0,if 2<=0 then fy R 1 else 0,⟨T.toArray⟩⟩:St).val) (by simp[results,results191,go_sem,r0,r1,r2,r3]) rfl ⟨acT (fun x:St=>Ending.returned x.val) HK.out.symm,by have fk:=jV.out;exact bQ⟩
 ·go_wp2_with fail;refine cM (py w1.heap.size (w3.heap.size+1) ⟨D.toArray⟩ ⟨#[]⟩ 0 0 R 1 oM w1 _ (HL.out.later aN.out) C2.out (aaO _) (by have:=fi.out.size;omega) (kf.rn (eV.out.later bQ) sM sM (af fi.out bQ))) ?_;intro w4 pR;obtain⟨⟨r0,r1,r2,r3,rl⟩,g0,g1,g2,g3⟩:=HF.out.later pR.bel;obtain⟨s0,s1,s2,s3,sl⟩:=pR.box;have f3:=pR.f3;simp only at r0 r1 r2 r3 s0 s1 s2 s3;have jV:=ae (af aN.out pR.bel);have aE:=aN.out.size;have uc:=HF.out.box.2.2.2.2;clear pR fi eV wZ;obtain⟨T,hT⟩:∃T,me R 1=T:=⟨_,rfl⟩
  rw[hT];have HT:=ae hT;clear hT
  by_cases hd:T=[45]
  ·have HK:Hid (l9 (D,R,fd) 1=⟨⟨D.toArray⟩,if 1<=1 then fy R 0 else 0,if 2<=1 then fy R 1 else 0,⟨#[]⟩⟩):=by show _=_;unfold l9;simp only;rw[HT.out,aaV hd]
   clear HT;subst hd;go_wp2;refine aaY (v:=(⟨⟨D.toArray⟩,if 1<=1 then fy R 0 else 0,if 2<=1 then fy R 1 else 0,⟨#[]⟩⟩:St).val) (by simp[results,results191,go_sem,r0,r1,r2,r3]) rfl ⟨acT (fun x:St=>Ending.returned x.val) HK.out.symm,by have fk:=jV.out;exact bQ⟩
  ·have HK:Hid (l9 (D,R,fd) 1=⟨⟨D.toArray⟩,if 1<=1 then fy R 0 else 0,if 2<=1 then fy R 1 else 0,⟨T.toArray⟩⟩):=by show _=_;unfold l9;simp only;rw[HT.out,aaP hd]
   have hq:(T==[45])=false:=aaU.2 hd;clear HT hd;go_wp2;refine aaY (v:=(⟨⟨D.toArray⟩,if 1<=1 then fy R 0 else 0,if 2<=1 then fy R 1 else 0,⟨T.toArray⟩⟩:St).val) (by simp[results,results191,go_sem,r0,r1,r2,r3]) rfl ⟨acT (fun x:St=>Ending.returned x.val) HK.out.symm,by have fk:=jV.out;exact bQ⟩
 ·go_wp2_with fail;refine cM (py w1.heap.size (w3.heap.size+1) ⟨D.toArray⟩ ⟨#[]⟩ 0 0 R 2 oM w1 _ (HL.out.later aN.out) C2.out (aaO _) (by have:=fi.out.size;omega) (kf.rn (eV.out.later bQ) sM sM (af fi.out bQ))) ?_;intro w4 pR;obtain⟨⟨r0,r1,r2,r3,rl⟩,g0,g1,g2,g3⟩:=HF.out.later pR.bel;obtain⟨s0,s1,s2,s3,sl⟩:=pR.box;have f3:=pR.f3;simp only at r0 r1 r2 r3 s0 s1 s2 s3;have jV:=ae (af aN.out pR.bel);have aE:=aN.out.size;have uc:=HF.out.box.2.2.2.2;clear pR fi eV wZ;obtain⟨T,hT⟩:∃T,me R 2=T:=⟨_,rfl⟩
  rw[hT];have HT:=ae hT;clear hT
  by_cases hd:T=[45]
  ·have HK:Hid (l9 (D,R,fd) 2=⟨⟨D.toArray⟩,if 1<=2 then fy R 0 else 0,if 2<=2 then fy R 1 else 0,⟨#[]⟩⟩):=by show _=_;unfold l9;simp only;rw[HT.out,aaV hd]
   clear HT;subst hd;go_wp2;refine aaY (v:=(⟨⟨D.toArray⟩,if 1<=2 then fy R 0 else 0,if 2<=2 then fy R 1 else 0,⟨#[]⟩⟩:St).val) (by simp[results,results191,go_sem,r0,r1,r2,r3]) rfl ⟨acT (fun x:St=>Ending.returned x.val) HK.out.symm,by have fk:=jV.out;exact bQ⟩
  ·have HK:Hid (l9 (D,R,fd) 2=⟨⟨D.toArray⟩,if 1<=2 then fy R 0 else 0,if 2<=2 then fy R 1 else 0,⟨T.toArray⟩⟩):=by show _=_;unfold l9;simp only;rw[HT.out,aaP hd]
   have hq:(T==[45])=false:=aaU.2 hd;clear HT hd;go_wp2;refine aaY (v:=(⟨⟨D.toArray⟩,if 1<=2 then fy R 0 else 0,if 2<=2 then fy R 1 else 0,⟨T.toArray⟩⟩:St).val) (by simp[results,results191,go_sem,r0,r1,r2,r3]) rfl ⟨acT (fun x:St=>Ending.returned x.val) HK.out.symm,by have fk:=jV.out;exact bQ⟩
 ·go_wp2_with fail;refine cM (py w1.heap.size (w3.heap.size+1) ⟨D.toArray⟩ ⟨#[]⟩ 0 0 R 2 oM w1 _ (HL.out.later aN.out) C2.out (aaO _) (by have:=fi.out.size;omega) (kf.rn (eV.out.later bQ) sM sM (af fi.out bQ))) ?_;intro w4 pR;obtain⟨⟨r0,r1,r2,r3,rl⟩,g0,g1,g2,g3⟩:=HF.out.later pR.bel;obtain⟨s0,s1,s2,s3,sl⟩:=pR.box;have f3:=pR.f3;simp only at r0 r1 r2 r3 s0 s1 s2 s3;have jV:=ae (af aN.out pR.bel);have aE:=aN.out.size;have uc:=HF.out.box.2.2.2.2;clear pR fi eV wZ;obtain⟨T,hT⟩:∃T,me R 2=T:=⟨_,rfl⟩
  rw[hT];have HT:=ae hT;clear hT
  by_cases hd:T=[45]
  ·have HK:Hid (l9 (D,R,fd) 2=⟨⟨D.toArray⟩,if 1<=2 then fy R 0 else 0,if 2<=2 then fy R 1 else 0,⟨#[]⟩⟩):=by show _=_;unfold l9;simp only;rw[HT.out,aaV hd]
   clear HT;subst hd;go_wp2;refine aaY (v:=(⟨⟨D.toArray⟩,if 1<=2 then fy R 0 else 0,if 2<=2 then fy R 1 else 0,⟨#[]⟩⟩:St).val) (by simp[results,results191,go_sem,r0,r1,r2,r3]) rfl ⟨acT (fun x:St=>Ending.returned x.val) HK.out.symm,by have fk:=jV.out;exact bQ⟩
  ·have HK:Hid (l9 (D,R,fd) 2=⟨⟨D.toArray⟩,if 1<=2 then fy R 0 else 0,if 2<=2 then fy R 1 else 0,⟨T.toArray⟩⟩):=by show _=_;unfold l9;simp only;rw[HT.out,aaP hd]
   have hq:(T==[45])=false:=aaU.2 hd;clear HT hd;go_wp2;refine aaY (v:=(⟨⟨D.toArray⟩,if 1<=2 then fy R 0 else 0,if 2<=2 then fy R 1 else 0,⟨T.toArray⟩⟩:St).val) (by simp[results,results191,go_sem,r0,r1,r2,r3]) rfl ⟨acT (fun x:St=>Ending.returned x.val) HK.out.symm,by have fk:=jV.out;exact bQ⟩
theorem PF{l:List UInt8}{v:Int}(h:Lib.atoiAll l=.ok v):cH v:=by
 unfold Lib.atoiAll at h
 cases l with
 |nil=>cases h
 |cons c r =>
  simp only at h
  split at h
  ·cases h
  ·cases h
  ·rename_i u hu
   split at h
   ·cases h
   rename_i h1
   split at h
   ·cases h
   rename_i h2
   cases h
   constructor<;>(split<;>omega)
theorem Kx(l:List UInt8):cH (vA l):=by
 unfold vA
 split
 ·rename_i v h
  exact PF h
 ·constructor<;>omega
 ·unfold Lib.atoiSat
  constructor<;>(split<;>omega)
theorem Mc(l:List UInt8)(hlen:l.length<=1000):kM (ju l):=by
 unfold ju l9;have c1:=abb (Ea l) hlen;have c2:=abb (abb (Cj (Lib.cut l [32]).2.1 (cu ⟨(Lib.cut l [32]).1.toArray⟩).1.toNat) (Eb l)) hlen;have z:cH 0:=by constructor<;>omega
 refine⟨?_,?_,?_,?_⟩
 ·simp only;split
  ·exact Kx _
  ·exact z
 ·simp only;split
  ·exact Kx _
  ·exact z
 ·simp only[sg];omega
 ·simp only
  split
  ·simp[ByteArray.size]
  ·rw[sg];omega
def kj(l:List UInt8):Bool:=decide (aV (ju l)=0)&&decide (AO (ju l)=⟨l.toArray⟩)
def b8:St:=⟨⟨#[]⟩,0,0,⟨#[]⟩⟩
theorem Uh(l:List UInt8)(hlen:l.length<=1000)(w:World)(hl:nk w)(ok:Bool)(hok:kj l=ok):Calls prog 153 #[.string ⟨l.toArray⟩] w fun e w'=>e=.returned (.tuple #[(if ok=true then ju l else b8).val,if ok=true then .nilIface else .iface 87 (i6 4)])/\bL w w':=by
 have Yl:=Xp l hlen;have hY:=Mc l hlen;unfold kj at hok;generalize ju l=x at *;have HTX:=fun W=>Vf x W hY
 obtain⟨tl,B3⟩:=mC (AO x);rw[B3] at HTX hok;obtain⟨wd,xa,xb,dt⟩:=x;have HL:=ae hl;have dW:=ae hok;clear hl hok hY B3 hlen;go_enter func153,ntmps153;go_wp2_with fail;refine cM (Yl _ (HL.out.later (aA _ _))) ?_;intro w1 aw;have HF:=ae ((mQ w b8 30).later aw);have aN:=ae (af (aA _ _) aw);clear aw Yl;go_wp2_with fail;refine cM (HTX _ (HL.out.later (af aN.out (aA _ _)))) ?_;intro w2 aC;have HX:=ae ((mQ w1 ⟨wd,xa,xb,dt⟩ 30).later aC);have J9:=ae (HF.out.later (af (aA _ _) aC));have bT:=ae (af aN.out (af (aA _ _) aC));have aE:=aN.out.size;have uc:=HF.out.box.2.2.2.2;clear aC HTX HF aN;obtain⟨⟨r0,r1,r2,r3,rl⟩,g0,g1,g2,g3⟩:=J9.out;obtain⟨s0,s1,s2,s3,sl⟩:=HX.out.box;simp only[b8] at r0 r1 r2 r3 s0 s1 s2 s3
 by_cases h0:aV ⟨wd,xa,xb,dt⟩=0
 ·rw[h0,show dm 0=.nilIface from rfl]
  by_cases ht:tl=l
  ·have hk:ok=true:=by rw[<-dW.out];simp[h0,ht]
   subst hk;subst ht;clear dW h0;go_wp2;refine aaY (v:=.tuple #[(⟨wd,xa,xb,dt⟩:St).val,.nilIface]) (by simp[results,results153,go_sem,r0,r1,r2,r3]) rfl ⟨rfl,by have aC:=bT.out;exact bQ⟩
  ·have hk:ok=false:=by rw[<-dW.out];simp[ht]
   have hq:(tl==l)=false:=aaU.2 ht;subst hk;clear dW h0 ht;go_wp2;refine aaY (v:=.tuple #[b8.val,.iface 87 (i6 4)]) (by simp[results,results153,go_sem,r0,r1,r2,r3,b8]) rfl ⟨rfl,by have aC:=bT.out;exact bQ⟩
 ·have hk:ok=false:=by rw[<-dW.out];simp[h0]
  rw[show dm (aV ⟨wd,xa,xb,dt⟩)=.iface 87 (i6 (aV ⟨wd,xa,xb,dt⟩)) by rw[dm,aaP h0]];generalize aV ⟨wd,xa,xb,dt⟩=er at *;subst hk;clear dW h0;go_wp2;refine aaY (v:=.tuple #[b8.val,.iface 87 (i6 4)]) (by simp[results,results153,go_sem,r0,r1,r2,r3,b8]) rfl ⟨rfl,by have aC:=bT.out;exact bQ⟩
def ri(s:ByteArray):Bool:=decide (s.size<=40)&&kj s.data.toList
theorem W6(s:ByteArray):(⟨s.data.toList.toArray⟩:ByteArray)=s:=by cases s;simp
theorem ZB{b:Nat}{x:St}{w:World}(y:St)(h:kf b x w):kf b y ((((w.setCell ⟨b,0,none⟩ (.string y.word)).setCell ⟨b,1,none⟩ (i6 y.a)).setCell ⟨b,2,none⟩ (i6 y.b)).setCell ⟨b,3,none⟩ (.string y.data)):=by
 obtain⟨⟨h0,h1,h2,h3,hl⟩,f0,f1,f2,f3⟩:=h;have o:∀(w:World) (i j:Nat) (v:Value),i ≠ j->(w.setCell ⟨b,i,none⟩ v).cell? ⟨b,j,none⟩=w.cell? ⟨b,j,none⟩:=fun w i j v aE=>aa6 _ _ _ _ (by intro e;injection e with _ e2 _;omega)
 refine⟨⟨?_,?_,?_,?_,by simpa using hl⟩,by simpa using f0,by simpa using f1,by simpa using f2,by simpa using f3⟩
 ·rw[o _ 3 0 _ oM,o _ 2 0 _ oM,o _ 1 0 _ oM];exact aa2 _ _ _ h0
 ·rw[o _ 3 1 _ oM,o _ 2 1 _ oM];exact aa2 _ _ _ ((o _ 0 1 _ oM).trans h1)
 ·rw[o _ 3 2 _ oM];exact aa2 _ _ _ (((o _ 1 2 _ oM).trans (o _ 0 2 _ oM)).trans h2)
 ·exact aa2 _ _ _ ((((o _ 2 3 _ oM).trans (o _ 1 3 _ oM)).trans (o _ 0 3 _ oM)).trans h3)
theorem Sp(s:ByteArray)(hs:s.size<=1000)(w:World)(hl:nk w)(ok:Bool)(hok:ri s=ok):Calls prog 112 #[.string s] w (rB (.tuple #[(if ok=true then ju s.data.toList else b8).val,.bool ok]) w):=by
 have HL:=ae hl;clear hl
 by_cases A7:s.size<=40
 ·have Wo:¬(40:Int)<(s.size:Int):=oM;have kb:kj s.data.toList=ok:=by rw[<-hok];unfold ri;rw[aa1 A7,adA]
  have Kh:=fun W hW=>Uh s.data.toList (by rw[show s.data.toList.length=s.size from ab6];exact hs) W hW ok kb
  rw[W6] at Kh;obtain⟨y,hy⟩:∃y,(if ok=true then ju s.data.toList else b8)=y:=⟨_,rfl⟩
  rw[hy] at Kh ⊢;obtain⟨wd,xa,xb,dt⟩:=y;clear kb hy hok A7 hs
  cases ok
  all_goals
   simp only[adi,afr,afj] at Kh
   replace Kh:=ae Kh
   go_enter func112,ntmps112;go_wp2_with fail;refine cM (Kh.out _ (HL.out.later (aA _ _))) ?_;intro w1 aw;have HF:=ae ((mQ w b8 30).later aw);have aN:=ae (af (aA _ _) aw);clear aw Kh;obtain⟨⟨r0,r1,r2,r3,rl⟩,g0,g1,g2,g3⟩:=HF.out;simp only[b8] at r0 r1 r2 r3;have hx:=(ZB ⟨wd,xa,xb,dt⟩ HF.out).later (aA _ (.cells #[.string wd,i6 xa,i6 xb,.string dt] 30));obtain⟨⟨y0,y1,y2,y3,yl⟩,-⟩:=hx;simp only at y0 y1 y2 y3;go_wp2
   go_region
   all_goals
    go_wp2;refine aaY (v:=.tuple #[(⟨wd,xa,xb,dt⟩:St).val,.bool _]) (by simp[results,results112,go_sem,y0,y1,y2,y3]) rfl ⟨rfl,by have aC:=aN.out;exact bQ⟩
 ·have Wo:(40:Int)<(s.size:Int):=oM;obtain rfl:ok=false:=by rw[<-hok];unfold ri;rw[aa9 A7,agi]
  rw[aaP aa7];clear hok A7 hs;go_enter func112,ntmps112;go_wp2;refine aaY (v:=.tuple #[b8.val,.bool false]) (by simp[results,results112,go_sem,b8]) rfl ⟨rfl,bQ⟩
end
section
open Go.RowKit
structure lO(w:World):Prop where
 Pv:Lib.TabIs prog w "internal/strconv.uint64pow10" .u64 Lib.pow10Tab
theorem lO.later{w w':World}(h:lO w)(hb:bL w w'):lO w':=⟨Lib.tabBelow_of_tabIs h.Pv w' hb⟩
theorem nk.tabW{w:World}(h:nk w):lO w:=⟨h.Pv⟩
theorem rO(n:Int)(w:World)(h:lO w)(h0:-9223372036854775808<=n)(h1:n<=9223372036854775807):Calls prog 43 #[i6 n] w (rB (.string ⟨(Lib.itoa n).toArray⟩) w) :=
 (Tryz.strconv_Itoa n h0 h1 w h.Pv).mono (fun e w' h'=>⟨h'.1,by obtain⟨k,os,e'⟩:=h'.2;rw[e'];exact Lib.below_grow _ w (aaO _) k os⟩)
end
section
open Go.RowKit Go.BigFrame
theorem ot(n:Int)(h:cH n):(Lib.itoa n).length<=60:=by
 exact abb (Lib.itoa_length_le n h.1 h.2) oM
def AF(r:Rq):List UInt8:=[if r.wr=true then 119 else 114]
def x9(r:Rq):List UInt8:=AF r++Lib.itoa r.f++[43]++Lib.itoa r.m++[35]
def um(l:List Int):Nat->List UInt8
 |0=>[]
 |k+1=>um l k++(if k=0 then [] else [44])++Lib.itoa (l.getD k 0)
def uu(r:Rq):Prop:=∀i,i<r.tags.length->cH (r.tags.getD i 0)
theorem IK(r:Rq)(hf:cH r.f)(hm:cH r.m):(x9 r).length<=123:=by
 have h1:=ot r.f hf;have h2:=ot r.m hm
 simp[x9,AF];omega
theorem MB(r:Rq)(h:uu r)(k:Nat)(hk:k<=r.tags.length):(um r.tags k).length<=61*k:=by
 induction k with
 |zero=>simp[um]
 |succ k ih =>
  have h1:=ot _ (h k oM);have h2:=ih oM;have h3:(if k=0 then([]:List UInt8) else [44]).length<=1:=by split<;>simp
  simp only[um,aaQ];omega
def jf(r:Rq):List UInt8:=x9 r++um r.tags r.tags.length
theorem Vh{w:World}{a:Option Addr}{xs:List Int}(h:eF w a xs)(k:Nat)(hk:k<xs.length):∃b o,a=some ⟨b,o,none⟩/\w.cell? ⟨b,o+k,none⟩=some (i6 (xs.getD k 0))/\b<w.heap.size:=by
 rcases h with rfl|⟨b,o,rfl,hc⟩
 ·exact absurd hk (aa0 _)
 ·exact⟨b,o,rfl,hc k hk,aq (hc k hk)⟩
theorem Fi{w w':World}(hb:bL w w'):w.grownBy w' none:=⟨hb.os,hb.tape,hb.output,hb.size,fun k hk _=>hb.block k hk⟩
theorem ui{w w':World}{base size n:Nat}{e:TypeId}{v:Value}{xs:List Value}(h:w.ownsRow base e size v n xs)(hb:bL w w'):w'.ownsRow base e size v n xs:=by
 refine h.kept (Fi hb) ?_
 cases v.ownBlock with
 |none=>exact il rfl
 |some k=>exact ir sM
theorem zj{T e:TypeId}{B b:Nat}{p:Value}{bs:List Value}{w w':World}(h:Lib.BuilderAt T e B b p bs w)(hb:bL w w'):Lib.BuilderAt T e B b p bs w':=by
 have hl:=h.lt;obtain⟨h1,v,h2,h3,h4⟩:=h;exact⟨h1,v,by rw[hb.block b hl];exact h2,ui h3 hb,h4⟩
theorem oV.Cc{B b:Nat}{s:List UInt8}{w w':World}(h:oV B b s w)(hb:bL w w'):oV B b s w' :=
 ⟨h.1.elim (fun x=>il (zj x hb)) (fun x=>ir (zj x hb)),abb h.2 hb.size⟩
theorem si(B b:Nat)(s t:List UInt8)(w:World)(h:oV B b s w)(hl:s.length+t.length<=100000) :
 Calls prog 140 #[.pointer (some ⟨b,0,none⟩),.string ⟨t.toArray⟩] w fun e w'=>e=.returned (.tuple #[i6 t.length,.nilIface])/\oV B b (s++t) w'/\Below B w w':=by
 refine(PI B b s ⟨t.toArray⟩ w h (by simp[ByteArray.size];omega)).mono ?_;rintro e w' ⟨rfl,h1,h2⟩;exact⟨by simp[ByteArray.size],by simpa using h1,h2⟩
theorem Nf(r:Rq)(w:World) :
 Calls prog 141 #[r.val] w (rB (.string ⟨(AF r).toArray⟩) w):=by
 obtain⟨wr,f,m,da,dc,data,ta,tc,tags,born⟩:=r
 cases wr
 all_goals
  go_enter func141,ntmps141;go_wp2;go_ret;exact⟨rfl,bQ⟩
theorem Df{P:Program}(w:World)(t:TypeId)(ps rs:Array TypeId)(vd:Bool)(f:Fn)(x c:Array Value)(h:P.underlying t=some (.func ps rs vd)) :
 (binOp .eql t (.func f x c) .nilFunc).run P w=.ok (.bool false) w:=by
 have h1:∀d,(Op.equalIn (d+1) t (.func f x c) .nilFunc).run P w=.ok false w:=fun d=>by simp[Op.equalIn,run_underlying h]
 simp only[binOp]
 simp[Op.equal,Op.maxDepth,h1 9999]
theorem Vk(r:Rq)(w:World)(hr:r.At w)(ht:uu r)(hl:r.tags.length<=8)(hLW:lO w) :
 Calls prog 91 #[r.val,.func (.func 43) #[] #[]] w (rB (.string ⟨(jf r).toArray⟩) w):=by
 have q43:∀(w:World) (f:Fn) (x c:Array Value),(binOp .eql 44 (.func f x c) .nilFunc).run prog w=.ok (.bool false) w:=fun w f x c=>Df w _ _ _ _ f x c underlying44
 have l1:=ot r.f hr.f;have l2:=ot r.m hr.m;have lh:=IK r hr.f hr.m;have l0:(AF r).length=1:=rfl;have L1:=ae hr.f;have L2:=ae hr.m;have HT:Hid (x9 r=AF r++Lib.itoa r.f++[43]++Lib.itoa r.m++[35]):=rfl;have tL:=hr.tl;have HTG:=ae hr.tags;have HX:Hid (jf r=x9 r++um r.tags r.tags.length):=rfl;have OE:=ae (Nf r);have HTL:=ae (MB r ht);have gM:=ae hLW;clear hr hLW;obtain⟨Bj,f,m,da,dc,data,ta,tc,tags,born⟩:=r;simp only at *;generalize jf ⟨Bj,f,m,da,dc,data,ta,tc,tags,born⟩=c9 at *;generalize x9 ⟨Bj,f,m,da,dc,data,ta,tc,tags,born⟩=c5 at *;generalize AF ⟨Bj,f,m,da,dc,data,ta,tc,tags,born⟩=c0 at *;go_enter func91,ntmps91;go_wp2_with fail;refine cM (OE.out _) ?_;intro w1 aw;have iV:(w.alloc (.cells #[.bool Bj,i6 f,i6 m,.slice da data.length dc,.slice ta tags.length tc,i6 born] 146)).heap.size=w.heap.size+1:=sM;have BA:=(Sc (w.alloc (.cells #[.bool Bj,i6 f,i6 m,.slice da data.length dc,.slice ta tags.length tc,i6 born] 146))).Cc aw;rw[iV] at BA;have HB:=(aX (w.heap.size+1) (w.alloc (.cells #[.bool Bj,i6 f,i6 m,.slice da data.length dc,.slice ta tags.length tc,i6 born] 146))).trans ((af (ah (aX (w.alloc (.cells #[.bool Bj,i6 f,i6 m,.slice da data.length dc,.slice ta tags.length tc,i6 born] 146)).heap.size (w.alloc (.cells #[.bool Bj,i6 f,i6 m,.slice da data.length dc,.slice ta tags.length tc,i6 born] 146))) _) aw).mono (afM iV.symm));clear iV;clear aw;go_wp2_with fail;refine(si _ _ _ (c0) _ BA (by simp;omega)).mono ?_;rintro e w2 ⟨rfl,pC,aC⟩;replace BA:=pC;replace HB:=HB.trans aC;clear pC aC;have c1:=(HB.cell (p:=⟨w.heap.size,1,none⟩) sM).trans (show _=some (i6 f) from sM);go_wp2_with fail;clear c1;refine cM (rO _ _ (gM.out.later ((aA w _).trans (HB.mono oM))) (L1.out).1 (L1.out).2) ?_;intro w2 aC;replace HB:=HB.trans (aC.mono BA.2);replace BA:=BA.Cc aC;clear aC;go_wp2_with fail;refine(si _ _ _ (Lib.itoa f) _ BA (by simp;omega)).mono ?_;rintro e w2 ⟨rfl,pC,aC⟩;replace BA:=pC;replace HB:=HB.trans aC;clear pC aC;go_wp2_with fail;refine(si _ _ _ ([43]) _ BA (by simp;omega)).mono ?_;rintro e w2 ⟨rfl,pC,aC⟩;replace BA:=pC;replace HB:=HB.trans aC;clear pC aC;have c2:=(HB.cell (p:=⟨w.heap.size,2,none⟩) sM).trans (show _=some (i6 m) from sM);go_wp2_with fail;clear c2;refine cM (rO _ _ (gM.out.later ((aA w _).trans (HB.mono oM))) (L2.out).1 (L2.out).2) ?_;intro w2 aC;replace HB:=HB.trans (aC.mono BA.2);replace BA:=BA.Cc aC;clear aC;go_wp2_with fail;refine(si _ _ _ (Lib.itoa m) _ BA (by simp;omega)).mono ?_;rintro e w2 ⟨rfl,pC,aC⟩;replace BA:=pC;replace HB:=HB.trans aC;clear pC aC;go_wp2_with fail;refine(si _ _ _ ([35]) _ BA (by simp;omega)).mono ?_;rintro e w2 ⟨rfl,pC,aC⟩;replace BA:=pC;replace HB:=HB.trans aC;clear pC aC;have c4:=(HB.cell (p:=⟨w.heap.size,4,none⟩) sM).trans (show _=some (.slice ta tags.length tc) from sM);simp only[abJ] at BA
 rw[<-HT.out] at BA;go_wp2_with fail
 go_loopw[30] (fun i wr=>∃k:Nat,k<=tags.length/\i=i6 k/\oV (w.heap.size+1) (w.heap.size+1) (c5++um tags k) wr/\Below (w.heap.size+1) (w.alloc (.cells #[.bool Bj,i6 f,i6 m,.slice da data.length dc,.slice ta tags.length tc,i6 born] 146)) wr) (fun i _=>tags.length-(intOf i).toNat)
 case atStart=>exact⟨0,oM,rfl,by simpa [um] using BA,HB⟩
 case round =>
  clear BA HB c4;obtain⟨k,hk,rfl,BA,HB⟩:=hrel
  by_cases au:k<tags.length
  ·obtain⟨b,o,rfl,ct,lb⟩:=Vh HTG.out k au;have IA:=ht k au;have CT:wr.cell? ⟨b,o+k,none⟩=some (i6 (tags.getD k 0)):=by
    rw[HB.cell (p:=⟨b,o+k,none⟩) (show b<w.heap.size+1 from oM),af3 _ _ _ lb];exact ct
   have lt:=HTL.out k hk;have ld:=ot _ IA;have HK:Hid (um tags (k+1)=um tags k++(if k=0 then [] else [44])++Lib.itoa (tags.getD k 0)):=rfl;generalize tags.getD k 0=tg at *;generalize B2:um tags k=tk at *;have Ib:Hid _:=B2;have J1:Hid (cH tg):=IA;clear ct B2 IA
   by_cases yg:k=0
   ·subst yg;have CT0:wr.cell? ⟨b,o,none⟩=some (i6 tg):=by simpa using CT
    clear CT;go_wp2_with fail;refine cM (rO _ _ (gM.out.later ((aA w _).trans (HB.mono oM))) (J1.out).1 (J1.out).2) ?_;intro w2 aC;replace HB:=HB.trans (aC.mono BA.2);replace BA:=BA.Cc aC;clear aC;go_wp2_with fail;refine(si _ _ _ (Lib.itoa tg) _ BA (by simp;omega)).mono ?_;rintro e w2 ⟨rfl,pC,aC⟩;replace BA:=pC;replace HB:=HB.trans aC;clear pC aC;go_wp2;go_roundw
    case rel=>exact⟨0+1,oM,gN,by rw[HK.out];simpa using BA,HB⟩
    case measure=>simp[intOf];omega
   ·have uR:(0:Int)<(k:Int):=oM;go_wp2_with fail;refine(si _ _ _ ([44]) _ BA (by simp;omega)).mono ?_;rintro e w2 ⟨rfl,pC,aC⟩;replace BA:=pC;replace HB:=HB.trans aC;clear pC aC;go_wp2_with fail;refine cM (rO _ _ (gM.out.later ((aA w _).trans (HB.mono oM))) (J1.out).1 (J1.out).2) ?_;intro w2 aC;replace HB:=HB.trans (aC.mono BA.2);replace BA:=BA.Cc aC;clear aC;go_wp2_with fail;refine(si _ _ _ (Lib.itoa tg) _ BA (by simp;omega)).mono ?_;rintro e w2 ⟨rfl,pC,aC⟩;replace BA:=pC;replace HB:=HB.trans aC;clear pC aC;go_wp2;go_roundw
    case rel=>exact⟨k+1,oM,gN,by rw[HK.out,aaP yg];simpa using BA,HB⟩
    case measure=>simp[intOf];omega
  ·have yh:k=tags.length:=oM;subst yh;go_wp2_with fail;refine cM (Rn _ _ _ _ BA) ?_;intro w2 aC
   replace HB:=HB.trans aC
   go_wp2;go_ret;refine⟨?_,(aA w _).trans (HB.mono oM)⟩;rw[HX.out]
   rfl
end
section
open Go.RowKit Go.BigFrame Go.Maps
def eb(e:Int):List UInt8:=if e=0 then [111,107] else [101,114,114,111,114,32]++Lib.itoa e
def oU(t:Bool):List UInt8:=if t=true then [121,101,115] else [110,111]
theorem uq(e:Int)(w:World)(h:lO w)(he:0<=e/\e<=100):Calls prog 48 #[i6 e] w (rB (.string ⟨(eb e).toArray⟩) w):=by
 unfold eb
 by_cases h0:e=0
 ·subst h0;clear h he;go_enter func48,ntmps48;go_wp2;go_ret;exact⟨rfl,aX _ _⟩
 ·rw[aaP h0];have h1:(e==0)=false:=aaU.2 h0;have hl:=Lib.itoa_length_le e oM oM;have HI:=ae (rO e w h oM oM);have K9:=rS [101,114,114,111,114,32] (Lib.itoa e) (by simp;omega);clear h he;generalize Lib.itoa e=L at *;have HC:Hid ([101,114,114,111,114,32]++L=[101,114,114,111,114,32]++L):=rfl;obtain⟨T,hT⟩:∃T,([101,114,114,111,114,32]:List UInt8)++L=T:=⟨_,rfl⟩
  rw[hT] at K9 ⊢;clear hT HC;go_enter func48,ntmps48;go_wp2_with fail;refine HI.out.mono ?_;rintro x w1 ⟨rfl,aw⟩;go_wp2;go_ret;exact⟨rfl,aw⟩
theorem NZ(n:Int)(w:World):Sem.run prog (Instr.typeAssert (.iface 87 (i6 n)) 53 87 true) w=.ok (.tuple #[i6 n,.bool true]) w:=kR
theorem NY(w:World):Sem.run prog (Instr.typeAssert .nilIface 53 87 true) w=.ok (.tuple #[i6 0,.bool false]) w:=kR
theorem n4(e:Int)(w:World)(h:lO w)(he:0<=e/\e<=100):Calls prog 34 #[dm e] w (rB (.string ⟨(eb e).toArray⟩) w):=by
 by_cases h0:e=0
 ·subst h0;rw[show dm 0=.nilIface from rfl];have HT:=ae (uq 0 w h oM);have FA:=NY;clear h he;generalize eb 0=L at *;go_enter func34,ntmps34;go_wp2_with fail;refine HT.out.mono ?_;rintro x w1 ⟨rfl,aw⟩;go_wp2;go_ret;exact⟨rfl,aw⟩
 ·rw[show dm e=.iface 87 (i6 e) by unfold dm;rw[aaP h0]];have HT:=ae (uq e w h he);have FA:=NZ e;clear h he h0;generalize eb e=L at *;go_enter func34,ntmps34;go_wp2_with fail;refine HT.out.mono ?_;rintro x w1 ⟨rfl,aw⟩;go_wp2;go_ret;exact⟨rfl,aw⟩
theorem MP(t:Bool)(w:World):Calls prog 39 #[.bool t] w fun x w'=>x=.returned (.string ⟨(oU t).toArray⟩)/\w'=w:=by
 cases t
 all_goals
  go_enter func39,ntmps39;go_wp2;go_ret;exact⟨rfl,rfl⟩
def mc(l:List Rq):List UInt8:=if l=[] then [45] else Lib.join (l.map jf) [32]
theorem Jn(r:Rq)(hf:cH r.f)(hm:cH r.m)(ht:uu r)(h8:r.tags.length<=8):(jf r).length<=700:=by
 have h1:=IK r hf hm;have h2:=MB r ht r.tags.length (aaO _);unfold jf;rw[aaQ]
 omega
theorem W0(l:List (List UInt8))(h:∀x∈l,x.length<=700):Lib.lens l<=700*l.length:=by
 induction l with
 |nil=>exact aaO 0
 |cons x l ih =>
  have h1:=h x acd;have h2:=ih (fun y hy=>h y (acs _ hy));unfold Lib.lens at h2 ⊢;simp only[aft,List.sum_cons,acf] at h2 ⊢
  omega
theorem Lz(l:List (List UInt8))(h:∀x∈l,x.length<=700):(Lib.join l [32]).length<=701*l.length:=by
 cases l with
 |nil=>exact aaO 0
 |cons x l =>
  rw[Lib.join_cons,aaQ,Lib.joinTail_length];have h1:=h x acd;have h2:=W0 l (fun y hy=>h y (acs _ hy));simp only[acf,af7]
  omega
theorem adb:(prog.info? 9).map (fun i=>(i.zero,i.size,i.bytes))=some (some (.string bE),1,16):=kR
theorem Ha{w:World}{base e g n cap:Nat}{xs:List Value}(h:w.ownsRow base e 1 (.slice (some ⟨g,0,none⟩) n cap) n xs){j:Nat}(hj:j<n):w.cell? ⟨g,j,none⟩=some (xs.getD j undef)/\w.frozen? ⟨g,j,none⟩=false/\g<w.heap.size:=by
 have hl:xs.length=n:=by simpa using h.1
 refine⟨?_,?_,?_⟩
 ·rw[h.cellAt j oM,abd,aaX oM,acO]
 ·rcases h.2 with⟨h',_⟩|⟨g',cap',cur,h',hb,hg,_⟩
  ·simp at h'
  ·simp only[abV,aa4,aci,acS,afs] at h';obtain⟨rfl,rfl⟩:=h';exact cG hg _
 ·exact(h.lt g rfl).2
theorem JF(l:List Rq)(a:Option Addr)(c:Nat)(w:World)(hl:aW w a l)(hLW:lO w)(h8:∀r∈l,uu r/\r.tags.length<=8)(hn:l.length<=1000)(h0:0<l.length):Calls prog 44 #[.slice a l.length c] w (rB (.string ⟨(Lib.join (l.map jf) [32]).toArray⟩) w):=by
 obtain⟨iS,hi,de,cC,cF⟩:=eS adb;have HI:=ae (⟨hi,de,cC,cF⟩:prog.info? 9=some iS/\_/\_/\_)
 rcases hl.form with rfl|⟨b,o,rfl⟩
 ·exact absurd h0 (agn _)
 have HL:=ae hl;have gM:=ae hLW;have H8:=ae h8;have hz:((l.length:Int)==0)=false:=aaU.2 oM;have HJ:Hid (∀g w',(∀(j:Nat) (h:j<l.length),w'.cell? ⟨g,j,none⟩=some (.string ⟨(jf l[j]).toArray⟩))->g<w'.heap.size->Calls prog 92 #[.slice (some ⟨g,0,none⟩) l.length l.length,.string ⟨#[32]⟩] w' (rB (.string ⟨(Lib.join (l.map jf) [32]).toArray⟩) w')):=fun g w' hc hg=>by
  have e:(l.map fun r=>(⟨(jf r).toArray⟩:ByteArray)).map (·.data.toList)=l.map jf:=by
   rw[List.map_map]
   rfl
  have hj:=Tryz.strings_Join g 0 l.length (l.map fun r=>⟨(jf r).toArray⟩) ⟨#[32]⟩ w' (fun j x hx=>by
   rw[acq] at hx
   rcases adI j l.length with au|mE
   ·rw[aaX au] at hx;simp only[afl,aa4] at hx;subst hx;rw[abc];exact hc j au
   ·rw[acC mE] at hx;cases hx) hg (by rw[abe];omega) (by rw[abe];exact aaO _) (by
    rw[e];refine abb (Lz _ (fun x hx=>?_)) (by rw[abe];omega);obtain⟨r,hr,rfl⟩:=acM.1 hx;have FA:=hl.2.1 r hr;exact Jn r FA.f FA.m (h8 r hr).1 (h8 r hr).2)
  rw[e,abe] at hj;exact hj
 clear hl hLW h8 hi de cC cF;go_enter func44,ntmps44;go_wp2_with(at_make;refine wpList_make_full _ rfl _ _ 51 rfl w.heap.size 9 iS _ 1 underlying51 HI.out.1 HI.out.2.1 HI.out.2.2.1 .i64 .i64 _ _ l.length rfl rfl rfl rfl (by rw[HI.out.2.2.2];omega) (by unfold maxLen;omega) (aaO _) ?_;intro w1 aO acx);have aN:Hid (Below w.heap.size w w1):=(aX _ _).grown acx (aaO _) (fun k hk=>by cases hk);have jL:=ae aO;clear aO acx;generalize BV:w.heap.size=g at *;have xL:=ae BV;clear BV
 go_loopw[14] (fun i wr=>∃(k:Nat) (xs:List Value),k<=l.length/\i=i6 k/\(∀(j:Nat) (h:j<l.length),j<k->xs.getD j undef=.string ⟨(jf l[j]).toArray⟩)/\wr.ownsRow g 9 1 (.slice (some ⟨g,0,none⟩) l.length l.length) l.length xs/\Below g w wr) (fun i _=>l.length-(intOf i).toNat)
 case atStart=>exact⟨0,_,oM,rfl,fun j _ hj=>absurd hj (aa0 _),jL.out,aN.out⟩
 case round =>
  obtain⟨k,xs,hk,rfl,kc,bu,hb⟩:=hrel;have HX:=ae kc;have HO:=ae bu;have HB:=ae hb;have yf:g<=wr.heap.size:=by have:=hb.size;have:=xL.out;omega
  clear kc bu
  by_cases au:k<l.length
  ·have gC:(k:Int)<(l.length:Int):=oM;have yg:(0:Int)<=(k:Int):=oM;have Fo:Below w.heap.size w wr:=by rw[xL.out];exact hb
   obtain⟨c0,c1,c2,c3,c4,c5⟩:=(HL.out.later Fo).cells au;have HT:=ae (Vk l[k] (wr.alloc (.cells #[.bool l[k].wr,i6 l[k].f,i6 l[k].m,.slice l[k].da l[k].data.length l[k].dc,.slice l[k].ta l[k].tags.length l[k].tc,i6 l[k].born] 146)) (((HL.out.2.1 _ (aa5 au)).later Fo).later (aA wr _)) (H8.out _ (aa5 au)).1 (H8.out _ (aa5 au)).2 ((gM.out.later Fo).later (aA wr _)));obtain⟨T,hT⟩:∃T,jf l[k]=T:=⟨_,rfl⟩
   rw[hT] at HT;have Yt:Hid (∀(j:Nat) (h:j<l.length),j=k->jf l[j]=T):=fun j h e=>by subst e;exact hT
   have tJ:=ui HO.out (aA wr (.cells #[.bool l[k].wr,i6 l[k].f,i6 l[k].m,.slice l[k].da l[k].data.length l[k].dc,.slice l[k].ta l[k].tags.length l[k].tc,i6 l[k].born] 146));have ez:=ae tJ;have bT:=ae (HB.out.trans ((aA wr (.cells #[.bool l[k].wr,i6 l[k].f,i6 l[k].m,.slice l[k].da l[k].data.length l[k].dc,.slice l[k].ta l[k].tags.length l[k].tc,i6 l[k].born] 146)).mono yf));clear hT tJ hb HO HB;generalize l[k]=r at *;obtain⟨Bj,f,m,da,dc,data,ta,tc,tags,born⟩:=r;simp only at *;go_wp2_with fail;refine HT.out.mono ?_;rintro x w5 ⟨rfl,fm⟩;have hO5:=ui ez.out fm;obtain⟨y1,y2,y3⟩:=Ha hO5 au;have HO5:=ae (hO5.stored k (.string ⟨T.toArray⟩));have iM:Hid (Below g w w5):=bT.out.trans (fm.mono (by simp;omega));clear hO5 fm HT ez bT c0 c1 c2 c3 c4 c5;go_wp2;go_roundw
   case rel =>
    refine⟨k+1,xs.set k (.string ⟨T.toArray⟩),oM,gN,fun j hj Li=>?_,HO5.out.1,iM.out.setCell (aaO _) _⟩;have lF:xs.length=l.length:=by have:=HO5.out.1.1;simpa using this
    by_cases e:j=k
    ·subst e;rw[abd,List.getElem?_set_self oM,acO];exact acT (fun x:List UInt8=>Value.string ⟨x.toArray⟩) (Yt.out j hj rfl).symm
    ·rw[abd,List.getElem?_set_ne (fun h=>e h.symm),<-abd];exact HX.out j hj oM
   case measure=>simp[intOf];omega
  ·obtain rfl:k=l.length:=oM;have HC:Hid (∀(j:Nat) (h:j<l.length),wr.cell? ⟨g,j,none⟩=some (.string ⟨(jf l[j]).toArray⟩)):=fun j hj=>by
    rw[(Ha HO.out hj).1,HX.out j hj hj]
   have hgw:=(Ha HO.out h0).2.2;go_wp2_with fail;refine(HJ.out g wr HC.out hgw).mono ?_;rintro x w5 ⟨rfl,fm⟩;have iM:Hid (Below g w w5):=HB.out.trans (fm.mono yf);clear fm HJ;go_wp2;go_ret;exact⟨rfl,by rw[xL.out];exact iM.out⟩
theorem JE(a:Option Addr)(c:Nat)(w:World):Calls prog 44 #[.slice a 0 c] w (rB (.string ⟨([45]:List UInt8).toArray⟩) w):=by
 go_enter func44,ntmps44;go_wp2;go_ret;exact⟨rfl,aX _ _⟩
theorem Ci(l:List Rq)(a:Option Addr)(c:Nat)(w:World)(hl:aW w a l)(hLW:lO w)(h8:∀r∈l,uu r/\r.tags.length<=8)(hn:l.length<=1000):Calls prog 44 #[.slice a l.length c] w (rB (.string ⟨(mc l).toArray⟩) w):=by
 unfold mc
 by_cases h:l=[]
 ·subst h;exact JE a c w
 ·rw[aaP h];exact JF l a c w hl hLW h8 hn (afi.2 h)
end
end Go.Proofs.YtlhgjplipgandaaGreatDoor
