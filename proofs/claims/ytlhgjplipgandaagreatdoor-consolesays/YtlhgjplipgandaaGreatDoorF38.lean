/- Joined. -/
import Derived.Lib.ItoaMem
import Derived.Test.YtlhgjplipgandaaGreatDoorF37
import Derived.Test.YtlhgjplipgandaaGreatDoorF6
import Derived.Test.YtlhgjplipgandaaGreatDoorF31
set_option maxRecDepth 100000
set_option maxHeartbeats 8000000
set_option linter.unusedSimpArgs false
set_option linter.unusedSectionVars false
namespace Go.Proofs.YtlhgjplipgandaaGreatDoor
open Tryz
section
open Go.RowKit Go.BigFrame Go.Maps
def zw:List ByteArray:=[⟨#[119,114,105,116,101,32,48,32,51,32,104,97,121]⟩,⟨#[114,101,97,100,32,49,32,51]⟩,⟨#[103,111,116,32,49]⟩,⟨#[115,121,110,99,32,48]⟩,⟨#[113,117,101,117,101]⟩,⟨#[99,108,101,97,110]⟩,⟨#[113,117,101,117,101]⟩,⟨#[115,101,116,116,108,101,32,57]⟩,⟨#[103,111,116,32,48]⟩,⟨#[102,108,121]⟩]
def wW:List ByteArray:=[⟨#[111,107]⟩,⟨#[111,107]⟩,⟨#[100,97,116,97,32,104,97,121]⟩,⟨#[111,107]⟩,⟨#[45]⟩,⟨#[121,101,115]⟩,⟨#[119,51,43,49,35,49]⟩,⟨#[49,32,121,101,115]⟩,⟨#[100,97,116,97,32]⟩,⟨#[101,114,114,111,114,32,52]⟩]
theorem Tc:kz zw=wW:=dK
theorem M4:∀s∈zw,s.size<=1000:=by unfold zw;decide
theorem MA(w:World)(xs:List ByteArray)(T:TypeId):StrsAt (w.alloc (.cells (xs.map Value.string).toArray T)) (some ⟨w.heap.size,0,none⟩) xs:=ir ⟨_,_,rfl,fun i hi=>by
 rw[abc,aR (acm w _),acq,aaX hi]
 simp[List.getD,hi]⟩
theorem Jl{w:World}{b:Nat}{xs:List ByteArray}{T:TypeId}(h:w.heap[b]?=some (.cells (xs.map Value.string).toArray T (0,0))):StrsAt w (some ⟨b,0,none⟩) xs:=ir ⟨_,_,rfl,fun i hi=>by
 rw[abc,aR h,acq,aaX hi]
 simp[List.getD,hi]⟩
theorem Td(w:World)(hT:lO w)(hLW:nk w):Calls prog 18 #[] w (rB (.bool true) w):=by
 have HRU:Hid (∀w',bL w w'->StrsAt w' (some ⟨w.heap.size,0,none⟩) zw->Calls prog 19 #[.slice (some ⟨w.heap.size,0,none⟩) 10 10] w' fun e w2=>∃b,e=.returned (.tuple #[.slice (some ⟨b,0,none⟩) 10 10,.nilIface])/\StrsAt w2 (some ⟨b,0,none⟩) wW/\bL w' w2):=by
  intro w' hb cZ;refine(KJ zw _ 10 w' cZ dM M4 (hT.later hb) (hLW.later hb)).mono ?_;rintro e w2 ⟨b,he,_,hh,kI⟩;rw[Tc] at hh;exact⟨b,he,Jl hh,kI⟩
 have HSM:=ae (fun(w':World) (a a':Option Addr) (h1:StrsAt w' a wW) (h2:StrsAt w' a' wW)=>Cw wW wW a a' 10 10 w' h1 h2 dM);have HSA:=ae (fun W=>Mp 0 W);have wh:=ae (MA w zw 9);clear hT hLW;go_enter func18,ntmps18;go_wp2_with fail;refine(HRU.out _ (aA w _) wh.out).mono ?_;rintro e w1 ⟨b,rfl,cZ,aw⟩;have aL:=ae cZ;have aN:=ae (af (aA w _) aw);clear cZ aw HRU wh;go_wp2_with fail;refine cM (HSA.out _) ?_;intro w2 aC;have tR:=ae (aL.out.later aC);have bT:=ae (af aN.out aC);clear aC HSA aL aN;have ko:=ae (MA w2 wW 9);go_wp2_with fail;refine cM (HSM.out _ _ _ (tR.out.later (aA w2 _)) ko.out) ?_;intro w3 bo;have fi:=ae (af (af bT.out (aA w2 _)) bo);clear bo HSM ko;go_wp2;go_ret;exact⟨by simp[It],fi.out⟩
theorem Wd(n:Nat):gp n=Lib.decDigits n:=by
 induction n using Nat.strongRecOn with
 |ind n ih =>
  rw[zp,Lib.decDigits]
  by_cases h:n<10
  ·rw[aaV h,dif_pos h];rfl
  ·rw[aaP h,dif_neg h,ih (n / 10) oM];rfl
theorem xV(n:Nat):gp n=Lib.itoa n:=by rw[Lib.itoa_nonneg,Wd]
theorem By(z:Int)(h:0<=z):jk z=Lib.itoa z:=by
 obtain⟨n,rfl⟩:∃n:Nat,z=n:=⟨z.toNat,oM⟩
 unfold jk sG;rw[aaP oM,aaP oM];exact xV n
theorem adx(l:List Int)(h:∀i,i<l.length->0<=l.getD i 0)(k:Nat)(hk:k<=l.length):rT l k=um l k:=by
 induction k with
 |zero=>rfl
 |succ k ih =>
  unfold rT um;rw[ih oM,By _ (h k oM)]
theorem aaG(r:Rq)(hf:0<=r.f)(hm:0<=r.m)(h:∀i,i<r.tags.length->0<=r.tags.getD i 0):JY r=jf r:=by
 unfold JY jf Fs x9;rw[adx _ h _ (aaO _),By _ hf,By _ hm]
 rfl
def Bh(l:List Rq)(k:Nat):List UInt8:=Lib.join ((l.take k).map jf) [32]
theorem TR(xs:List (List UInt8))(x sep:List UInt8):Lib.join (xs++[x]) sep=Lib.join xs sep++((if xs.length=0 then [] else sep)++x):=by
 cases xs with
 |nil=>rw[abJ,Lib.join_one,Lib.join_nil];rfl
 |cons y r =>
  rw[List.cons_append,Lib.join_cons,Lib.join_cons];unfold Lib.joinTail;rw[aca,List.flatten_append,aaP sM]
  simp
theorem MI(l:List Rq)(k:Nat)(hk:k<l.length):Bh l (k+1)=Bh l k++((if k=0 then [] else [32])++jf l[k]):=by
 unfold Bh;rw[abz hk,aca,List.map_singleton,TR]
 congr 3
 rw[abe,abm,ac1 oM]
theorem aaJ(l:List Rq)(k:Nat)(h:∀x∈l,(jf x).length<=700)(hk:k<=l.length):(Bh l k).length<=701*k:=by
 unfold Bh;have:=Lz ((l.take k).map jf) (fun x hx=>by
  obtain⟨r,hr,rfl⟩:=acM.1 hx;exact h r (agv hr))
 rw[abe,abm,ac1 hk] at this;exact this
theorem pY(e:Int)(w:World)(he:0<=e/\e<=100):Calls prog 49 #[i6 e] w (rB (.string ⟨(eb e).toArray⟩) w):=by
 unfold eb
 by_cases h0:e=0
 ·subst h0;clear he;go_enter func49,ntmps49;go_wp2;go_ret;exact⟨rfl,aX _ _⟩
 ·rw[aaP h0];obtain⟨n,rfl⟩:∃n:Nat,e=n:=⟨e.toNat,oM⟩
  have hp:(0:Int)<(n:Int):=oM;have HD:=ae (fun w'=>tW n oM n w' rfl);rw[<-xV];have hl:=od 18 n oM;obtain⟨T,hT⟩:∃T,gp n=T:=⟨_,rfl⟩
  rw[hT] at HD hl ⊢;have hc:∀W',Sem.run prog (Op.stringOp .add ⟨#[101,114,114,111,114,32]⟩ ⟨T.toArray⟩) W'=.ok (.string ⟨([101,114,114,111,114,32]++T).toArray⟩) W':=fun W'=>rS [101,114,114,111,114,32] T (by simp;omega) W'
  obtain⟨T2,qV⟩:∃T2,([101,114,114,111,114,32]:List UInt8)++T=T2:=⟨_,rfl⟩
  rw[qV] at hc ⊢;clear hT qV hl he h0;go_enter func49,ntmps49;go_wp2_with fail;refine(HD.out _).mono ?_;rintro x w1 ⟨rfl,aw⟩;have aN:=ae aw;clear aw HD;go_wp2;go_ret;exact⟨rfl,aN.out⟩
theorem Ey(t:Bool)(w:World):Calls prog 53 #[.bool t] w fun x w'=>x=.returned (.string ⟨(oU t).toArray⟩)/\w'=w:=by
 cases t
 ·go_enter func53,ntmps53;go_wp2;go_ret;exact⟨rfl,rfl⟩
 ·go_enter func53,ntmps53;go_wp2;go_ret;exact⟨rfl,rfl⟩
def E1(r:Rq):Prop:=0<=r.f/\0<=r.m/\uu r/\(∀i,i<r.tags.length->0<=r.tags.getD i 0)/\r.tags.length<=8
theorem adB(l:List Rq)(h:l ≠ []):(if Bh l l.length=[] then([45]:List UInt8) else Bh l l.length)=mc l:=by
 unfold mc;rw[aaP h];have hl:0<l.length:=afi.2 h;obtain⟨k,hk⟩:∃k,l.length=k+1:=⟨l.length-1,oM⟩
 have h1:=MI l k oM;have aE:¬Bh l l.length=[]:=by
  rw[hk,h1];intro e;have e2:=(List.append_eq_nil_iff.1 (List.append_eq_nil_iff.1 e).2).2
  simp[jf,x9,AF] at e2
 rw[aaP aE];unfold Bh;rw[aff]
theorem NW(a:Option Addr)(c:Nat)(w:World):Calls prog 60 #[.slice a 0 c] w (rB (.string ⟨(mc []).toArray⟩) w):=by
 go_enter func60,ntmps60;go_wp2
 go_loopw[3,4] (fun t i wr=>t=.string ⟨#[]⟩/\i=i6 0/\bL w wr) (fun _ _ _=>0)
 case atStart=>exact⟨rfl,rfl,aX _ _⟩
 case round =>
  obtain⟨rfl,rfl,hb⟩:=hrel;go_wp2;go_ret;exact⟨rfl,hb⟩
theorem NX(l:List Rq)(a:Option Addr)(c:Nat)(w:World)(hl:aW w a l)(h8:∀r∈l,E1 r)(hn:l.length<=1000)(h0:l ≠ []):Calls prog 60 #[.slice a l.length c] w (rB (.string ⟨(mc l).toArray⟩) w):=by
 rcases hl.form with rfl|⟨b,o,rfl⟩
 ·exact absurd rfl h0
 have HL:=ae hl;have H8:=ae h8;have HE:=ae (adB l h0);have kL:Hid (∀x∈l,(jf x).length<=700):=fun r hr=>Jn r (hl.2.1 r hr).f (hl.2.1 r hr).m (h8 r hr).2.2.1 (h8 r hr).2.2.2.2
 have h0l:0<l.length:=afi.2 h0;clear hl h8;go_enter func60,ntmps60;go_wp2
 go_loopw[3,4] (fun t i wr=>∃k:Nat,k<=l.length/\t=.string ⟨(Bh l k).toArray⟩/\i=i6 k/\bL w wr) (fun _ i _=>l.length-(intOf i).toNat)
 case atStart=>exact⟨0,oM,rfl,rfl,aX _ _⟩
 case round =>
  obtain⟨k,hk,rfl,rfl,hb⟩:=hrel;have HB:=ae hb;have wZ:=aaJ l k kL.out hk
  by_cases au:k<l.length
  ·have gC:(k:Int)<(l.length:Int):=oM;have yg:(0:Int)<=(k:Int):=oM;obtain⟨c0,c1,c2,c3,c4,c5⟩:=(HL.out.later hb).cells au;have IS:=H8.out _ (aa5 au);have HT:=ae (DW l[k] (wr.alloc (.cells #[.bool l[k].wr,i6 l[k].f,i6 l[k].m,.slice l[k].da l[k].data.length l[k].dc,.slice l[k].ta l[k].tags.length l[k].tc,i6 l[k].born] 146)) (((HL.out.2.1 _ (aa5 au)).later hb).later (aA wr _)) IS.2.2.1 IS.2.2.2.2);have eE:=ae (DW l[k] wr ((HL.out.2.1 _ (aa5 au)).later hb) IS.2.2.1 IS.2.2.2.2);rw[aaG _ IS.1 IS.2.1 IS.2.2.2.1] at HT eE;have KZ:=kL.out _ (aa5 au);have HS:=ae (MI l k au);obtain⟨T,hT⟩:∃T,jf l[k]=T:=⟨_,rfl⟩
   rw[hT] at HT eE KZ HS;obtain⟨U,hU⟩:∃U,Bh l k=U:=⟨_,rfl⟩
   rw[hU] at HS wZ ⊢;clear hT hU IS hb kL H8;generalize l[k]=r at *;obtain⟨Bj,f,m,da,dc,data,ta,tc,tags,born⟩:=r;simp only at *
   by_cases uR:k=0
   ·have aeJ:¬(0:Int)<(k:Int):=oM;have wU:∀W',Sem.run prog (Op.stringOp .add ⟨U.toArray⟩ ⟨T.toArray⟩) W'=.ok (.string ⟨(U++T).toArray⟩) W':=fun W'=>rS U T oM W'
    obtain⟨V,hV⟩:∃V,U++T=V:=⟨_,rfl⟩
    rw[aaV uR,abJ,hV] at HS;rw[hV] at wU;clear hV uR;go_wp2_with fail;refine eE.out.mono ?_;rintro x w5 ⟨rfl,fm⟩;have iM:=ae (af HB.out fm);clear fm HT eE;go_wp2;go_roundw
    case rel=>exact⟨k+1,oM,by rw[HS.out],gN,iM.out⟩
    case measure=>simp[intOf];omega
   ·have aeJ:(0:Int)<(k:Int):=oM;have BS:∀W',Sem.run prog (Op.stringOp .add ⟨U.toArray⟩ ⟨#[32]⟩) W'=.ok (.string ⟨(U++[32]).toArray⟩) W':=fun W'=>rS U [32] (by simp;omega) W'
    have wU:∀W',Sem.run prog (Op.stringOp .add ⟨(U++[32]).toArray⟩ ⟨T.toArray⟩) W'=.ok (.string ⟨(U++[32]++T).toArray⟩) W':=fun W'=>rS (U++[32]) T (by simp;omega) W'
    obtain⟨U2,SY⟩:∃U2,U++[32]=U2:=⟨_,rfl⟩
    obtain⟨V,hV⟩:∃V,U2++T=V:=⟨_,rfl⟩
    rw[aaP uR,<-abp,SY,hV] at HS;rw[SY] at BS wU;rw[hV] at wU;clear hV SY uR;go_wp2_with fail;refine eE.out.mono ?_;rintro x w5 ⟨rfl,fm⟩;have iM:=ae (af HB.out fm);clear fm HT eE;go_wp2;go_roundw
    case rel=>exact⟨k+1,oM,by rw[HS.out],gN,iM.out⟩
    case measure=>simp[intOf];omega
  ·obtain rfl:k=l.length:=oM;obtain⟨U,hU⟩:∃U,Bh l l.length=U:=⟨_,rfl⟩
   rw[hU] at HE wZ ⊢;clear hU kL hb
   by_cases hU0:U=[]
   ·subst hU0;have HR:Hid (mc l=[45]):=by have:=HE.out;rw[aaV rfl] at this;exact this.symm
    go_wp2;go_ret;exact⟨by rw[HR.out]<;>rfl,HB.out⟩
   ·have HR:Hid (mc l=U):=by have:=HE.out;rw[aaP hU0] at this;exact this.symm
    have hemp:U.isEmpty=false:=by simpa using hU0
    go_wp2;go_ret;exact⟨by rw[HR.out]<;>rfl,HB.out⟩
theorem Gg(l:List Rq)(a:Option Addr)(c:Nat)(w:World)(hl:aW w a l)(h8:∀r∈l,E1 r)(hn:l.length<=1000):Calls prog 60 #[.slice a l.length c] w (rB (.string ⟨(mc l).toArray⟩) w):=by
 by_cases h:l=[]
 ·subst h;exact NW a c w
 ·exact NX l a c w hl h8 hn h
def zJ(g k:Nat)(B:Rs)(j:Nat):Prop:=B.ay k j\/j=g
structure js(g k:Nat)(p:Sk)(B:Rs)(w:World):Prop where
 st:bN k p B w
 a7:w.heap[g]?=some (.cells #[.pointer (some ⟨B.b,0,none⟩),.pointer (some ⟨k,0,none⟩)] 41 (0,0))
 off:¬B.ay k g
section
variable{g k:Nat}{p p':Sk}{B B':Rs}{w w':World}
theorem js.later(h:js g k p B w)(hb:bL w w'):js g k p B w':=⟨h.st.later hb,by rw[hb.block g (aK h.a7)];exact h.a7,h.off⟩
theorem js.cells(h:js g k p B w):w.cell? ⟨g,0,none⟩=some (.pointer (some ⟨B.b,0,none⟩))/\w.cell? ⟨g,1,none⟩=some (.pointer (some ⟨k,0,none⟩))/\w.frozen? ⟨g,1,none⟩=false/\g<w.heap.size:=⟨by rw[aR h.a7];rfl,by rw[aR h.a7];rfl,cG h.a7 1,aK h.a7⟩
theorem js.plt(h:js g k p B w)(j:Nat)(hj:zJ g k B j):j<w.heap.size:=by
 rcases hj with e|e
 ·exact h.st.bC j e
 ·rw[e];exact aK h.a7
end
structure CH(c g k:Nat)(B:Rs)(w:World)(q:Sk)(k':Nat)(p':Sk)(B':Rs)(w':World):Prop where
 at':js g k' p' B' w'
 nf:p'.nf=q
 only:aH (fun j=>B.ay k j\/j=g) w w'
 ay:∀j,B'.ay k' j->B.ay k j\/w.heap.size<=j
 b:B'.b=B.b
 X:B'.X=B.X
 v:B'.v=B.v\/w.heap.size<=B'.v
 bX:B'.bX<=B.bX+c
def jP(c g k:Nat)(B:Rs)(w:World)(q:Sk)(w':World):Prop:=∃k' p' B',CH c g k B w q k' p' B' w'
section
variable{c g k k':Nat}{p p':Sk}{B B':Rs}{w w1 w':World}{q:Sk}
theorem js.code(h:js g k p B w)(hb:bL w w1)(hk:ed c k p B w1 w' q):jP c g k B w q w':=by
 obtain⟨p',B',hs,hn,hc⟩:=hk;have h1:=h.later hb;refine⟨k,p',B',⟨hs.at',?_,?_⟩,hn,?_,?_,hs.same.1,hs.same.2.2.2,il hs.same.2.1,hc⟩
 ·rw[hs.only.block g (aK h1.a7) h.off,hs.same.1];exact h1.a7
 ·exact fun e=>(hs.ay g e).elim h.off (fun e2=>by have:=aK h1.a7;omega)
 ·exact(aH.cj (F:=fun j=>B.ay k j\/j=g) hb).trans hs.only (fun j e=>il (il e))
 ·exact fun j hj=>(hs.ay j hj).imp id (fun e=>abb hb.size e)
theorem js.same(h:js g k p B w)(hb:bL w w'):jP 0 g k B w p.nf w':=h.code (aX _ _) ⟨p,B,bH.cX h.st hb,rfl,aaO _⟩
theorem CH.later(h:CH c g k B w q k' p' B' w1)(hb:bL w1 w'):CH c g k B w q k' p' B' w' :=
 ⟨h.at'.later hb,h.nf,h.only.trans (aH.cj (F:=fun _=>False) hb) (fun _ e=>e.elim),h.ay,h.b,h.X,h.v,h.bX⟩
theorem jP.later(h:jP c g k B w q w1)(hb:bL w1 w'):jP c g k B w q w':=by
 obtain⟨k',p',B',h⟩:=h;exact⟨k',p',B',h.later hb⟩
theorem jP.gS(h:jP c g k B w1 q w')(hb:bL w w1):jP c g k B w q w':=by
 obtain⟨k',p',B',hs⟩:=h;refine⟨k',p',B',hs.at',hs.nf,(aH.cj (F:=fun j=>B.ay k j\/j=g) hb).trans hs.only (fun j e=>il e),fun j hj=>(hs.ay j hj).imp id (fun e=>abb hb.size e),hs.b,hs.X,hs.v.imp id (fun e=>abb hb.size e),hs.bX⟩
end
theorem bN.fresh{s b v bm:Nat}{d:Dl}{m:Rd}{ra:Ra}{bX:Nat}{w:World}(h:bN s { oQ with dev:=d } (xC b v bm m ra bX) w)(hd:d.busy=[])(X:Nat->Prop)(hX:∀j,X j->j<w.heap.size):bN s { oQ with dev:=d } { xC b v bm m ra bX with X:=X } w :=
 ⟨h.a7,{
  fV:=h.mem.fV
  cE:=h.mem.cE
  tied:=h.mem.tied
  busy:=h.mem.busy
  map:=h.mem.map
  im:=h.mem.im
  nb:=h.mem.nb
  wb:=h.mem.wb
  hand:=h.mem.hand
  cU:=h.mem.cU
  bS:=h.mem.bS
  queue:=h.mem.queue
  fe:=h.mem.fe
  fA:=h.mem.fA
  asks:=h.mem.asks
  idle:=h.mem.idle
  sv:=h.mem.sv
  kv:=h.mem.kv
  kk:=h.mem.kk
  eX:=fun aE=>absurd rfl aE
  km:=fun aE=>absurd rfl aE
  eY:=fun r hr=>by
   have dj:r∈([]:List Rq)++d.busy:=hr;rw[hd] at dj
   cases dj
  iF:=fun i _ k hk=>by cases hk
  mS:=fun aE=>absurd hd aE
  gW:=hX }⟩
structure RX(g k:Nat)(p:Sk)(B:Rs)(X:Nat->Prop)(w w':World):Prop where
 at':js g k p B w'
 nf:p.nf=oQ
 bel:bL w w'
 ay:∀j,zJ g k B j->w.heap.size<=j
 X:B.X=X
 v:w.heap.size<=B.v
 bX:B.bX=0
def fU(c g k:Nat)(B:Rs)(w:World)(t:List UInt8)(q:Sk)(e:Ending)(w':World):Prop:=e=.returned (.string ⟨t.toArray⟩)/\jP c g k B w q w'
section
variable(g k:Nat)(p:Sk)(B:Rs)(w:World)
theorem Q3(h:js g k p B w)(n:Nat)(hf:iE n p.nf)(hL:aQ p.nf)(_:n<=3840000)(hc:B.bX<=230000)(xa xb:Int)(dt:ByteArray):Calls prog 13 #[.pointer (some ⟨g,0,none⟩),.agg #[.string ⟨#[116,105,99,107]⟩,i6 xa,i6 xb,.string dt]] w (fU 0 g k B w (eb 0) p.nf.tick):=by
 have HP:=ae h;have HF:=ae hf;have HI:=ae hf.fit.cD;have iC:=ae hL;have o9:=ae hc;obtain⟨p0,p1,p2,lG⟩:=h.cells;clear h hf hL hc;go_enter func13,ntmps13;go_wp2_with fail;refine cM (Jd k p B _ (HP.out.st.later bQ) HI.out.inv iC.out.cD (by have:=HI.out.tags;omega) (by have:=HI.out.az;omega) _ rfl) ?_;intro w2 hok;have dW:=ae (HP.out.code bQ hok);clear hok;go_wp2;go_ret;exact⟨rfl,dW.out⟩
theorem NQ(h:js g k p B w)(n:Nat)(hf:iE n p.nf)(hL:aQ p.nf)(_:n<=3840000)(hc:B.bX<=230000)(xa xb:Int)(dt:ByteArray):Calls prog 13 #[.pointer (some ⟨g,0,none⟩),.agg #[.string ⟨#[114,111,117,110,100]⟩,i6 xa,i6 xb,.string dt]] w (fU 1 g k B w (eb 0) p.nf.round):=by
 have HP:=ae h;have HF:=ae hf;have HI:=ae hf.fit.cD;have iC:=ae hL;have o9:=ae hc;obtain⟨p0,p1,p2,lG⟩:=h.cells;clear h hf hL hc;go_enter func13,ntmps13;go_wp2_with fail;refine cM (Gd k p B _ (HP.out.st.later bQ) n HF.out iC.out oM o9.out _ rfl) ?_;intro w2 hok;have dW:=ae (HP.out.code bQ hok);clear hok;go_wp2;go_ret;exact⟨rfl,dW.out⟩
theorem NL(h:js g k p B w)(n:Nat)(hf:iE n p.nf)(hL:aQ p.nf)(_:n<=3840000)(hc:B.bX<=230000)(xa xb:Int)(dt:ByteArray):Calls prog 13 #[.pointer (some ⟨g,0,none⟩),.agg #[.string ⟨#[99,108,101,97,110]⟩,i6 xa,i6 xb,.string dt]] w (fU 0 g k B w (oU p.nf.clean.1) p.nf.clean.2):=by
 obtain⟨z,hz⟩:∃z,p.nf.clean=z:=⟨_,rfl⟩
 obtain⟨t,q'⟩:=z;have HZ:=ae hz;rw[hz];show Calls _ _ _ _ (fU 0 g k B w (oU t) q');clear hz;have HP:=ae h;have HF:=ae hf;have HI:=ae hf.fit.cD;have iC:=ae hL;have o9:=ae hc;obtain⟨p0,p1,p2,lG⟩:=h.cells;clear h hf hL hc;go_enter func13,ntmps13;go_wp2_with fail;refine cM (DY k p B _ (HP.out.st.later bQ) HI.out.inv (by have:=HI.out.tags;omega) _ _ HZ.out) ?_;intro w2 hok;have dW:=ae (HP.out.code bQ hok);clear hok;go_wp2_with fail;refine cM (Ey _ _) ?_;intro w3 rfl;go_wp2;go_ret;exact⟨rfl,dW.out⟩
theorem Hc(h:js g k p B w)(n:Nat)(hf:iE n p.nf)(hL:aQ p.nf)(_:n<=3840000)(hc:B.bX<=230000)(xa xb:Int)(dt:ByteArray):Calls prog 13 #[.pointer (some ⟨g,0,none⟩),.agg #[.string ⟨#[100,105,115,112,97,116,99,104]⟩,i6 xa,i6 xb,.string dt]] w (fU 0 g k B w (oU p.nf.bf.1) p.nf.bf.2):=by
 obtain⟨z,hz⟩:∃z,p.nf.bf=z:=⟨_,rfl⟩
 obtain⟨t,q'⟩:=z;have HZ:=ae hz;rw[hz];show Calls _ _ _ _ (fU 0 g k B w (oU t) q');clear hz;have HP:=ae h;have HF:=ae hf;have HI:=ae hf.fit.cD;have iC:=ae hL;have o9:=ae hc;obtain⟨p0,p1,p2,lG⟩:=h.cells;clear h hf hL hc;go_enter func13,ntmps13;go_wp2_with fail;refine cM (uj k p B _ (HP.out.st.later bQ) HI.out.inv _ _ HZ.out) ?_;intro w2 hok;have dW:=ae (HP.out.code bQ hok);clear hok;go_wp2_with fail;refine cM (Ey _ _) ?_;intro w3 rfl;go_wp2;go_ret;exact⟨rfl,dW.out⟩
end
theorem bg.Zl{p:Sk}(h:bg p)(hn:p.tags<=1000000000)(r:Rq)(hr:r∈p.queue++p.dev.busy):E1 r:=by
 have g:=h.bO r hr;have hb:=g.mi;have ht:∀i,i<r.tags.length->1<=r.tags.getD i 0/\r.tags.getD i 0<=p.tags:=fun i hi=>by
  refine h.pz r hr _ ?_;rw[abd,aaX hi];exact aa5 hi
 refine⟨oM,oM,fun i hi=>?_,fun i hi=>?_,by have:=g.t4;omega⟩
 ·have:=ht i hi;show _/\_
  constructor<;>omega
 ·have:=ht i hi
  omega
section
variable(g k:Nat)(p:Sk)(B:Rs)(w:World)
theorem NP(h:js g k p B w)(n:Nat)(hf:iE n p.nf)(hL:aQ p.nf)(_:n<=3840000)(hc:B.bX<=230000)(xa xb:Int)(dt:ByteArray):Calls prog 13 #[.pointer (some ⟨g,0,none⟩),.agg #[.string ⟨#[113,117,101,117,101]⟩,i6 xa,i6 xb,.string dt]] w (fU 0 g k B w (mc p.queue) p.nf):=by
 have HTR:Hid (∀r∈p.queue,E1 r):=fun r hr=>hf.fit.cD.inv.Zl (by have:=hf.fit.cD.tags;omega) r (by first|exact abn _ hr|exact aa8 _ hr)
 have eU:Hid (p.queue.length<=1000):=by have h1:=hf.fit.cD.inv.q6;have h2:=hf.fit.cD.inv.b2;show p.queue.length<=1000;omega
 have jX:=ae h.st.mem.queue;have c3:=h.st.cell 3 _ rfl;have qz:=h.st.mem.cE.dev.lt;have yh:=h.st.lt;have HP:=ae h;have HF:=ae hf;have HI:=ae hf.fit.cD;have iC:=ae hL;have o9:=ae hc;obtain⟨p0,p1,p2,lG⟩:=h.cells;clear h hf hL hc;go_enter func13,ntmps13;go_wp2_with fail;refine cM (Gg p.queue B.qa B.qc _ (jX.out.later bQ) HTR.out eU.out) ?_;intro w2 aC;have ie:=ae (HP.out.same (af (aA w _) aC));clear aC;go_wp2;go_ret;exact⟨rfl,ie.out⟩
theorem Q0(h:js g k p B w)(n:Nat)(hf:iE n p.nf)(hL:aQ p.nf)(_:n<=3840000)(hc:B.bX<=230000)(xa xb:Int)(dt:ByteArray):Calls prog 13 #[.pointer (some ⟨g,0,none⟩),.agg #[.string ⟨#[98,117,115,121]⟩,i6 xa,i6 xb,.string dt]] w (fU 0 g k B w (mc p.dev.busy) p.nf):=by
 have HTR:Hid (∀r∈p.dev.busy,E1 r):=fun r hr=>hf.fit.cD.inv.Zl (by have:=hf.fit.cD.tags;omega) r (by first|exact abn _ hr|exact aa8 _ hr)
 have eU:Hid (p.dev.busy.length<=1000):=by have h1:=hf.fit.cD.inv.q6;have h2:=hf.fit.cD.inv.b2;show p.dev.busy.length<=1000;omega
 have Fw:=h.st.mem.cE.dev.fb;rw[h.st.mem.busy] at Fw;have jX:=ae Fw;clear Fw;have c0:=h.st.cell 0 _ rfl;have j8:=h.st.mem.cE.dev.j8;rw[h.st.mem.busy] at j8;have qz:=h.st.mem.cE.dev.lt;have yh:=h.st.lt;have HP:=ae h;have HF:=ae hf;have HI:=ae hf.fit.cD;have iC:=ae hL;have o9:=ae hc;obtain⟨p0,p1,p2,lG⟩:=h.cells;clear h hf hL hc;go_enter func13,ntmps13;go_wp2_with fail;refine cM (Gg p.dev.busy B.ra.la B.ra.lc _ (jX.out.later bQ) HTR.out eU.out) ?_;intro w2 aC;have ie:=ae (HP.out.same (af (aA w _) aC));clear aC;go_wp2;go_ret;exact⟨rfl,ie.out⟩
theorem NN(h:js g k p B w)(n:Nat)(hf:iE n p.nf)(hL:aQ p.nf)(_:n<=3840000)(hc:B.bX<=230000)(xa xb:Int)(dt:ByteArray):Calls prog 13 #[.pointer (some ⟨g,0,none⟩),.agg #[.string ⟨#[100,105,114,116,121]⟩,i6 xa,i6 xb,.string dt]] w (fU 0 g k B w (Lib.itoa (bW p.hand)) p.nf):=by
 obtain⟨dn,nV⟩:∃dn,bW p.hand=dn:=⟨_,rfl⟩
 have J6:Hid (j9 p.hand p.hand.length=dn):=(vD p.hand).trans nV;have RH:Hid (dn<=8):=by
  have h1:=hf.fit.cD.inv.hand.len;have h2:(p.hand.filter fun x=>x.bM).length<=p.hand.length:=acE _ _;have h3:(p.hand.filter fun x=>x.bM).length=dn:=nV;show dn<=8
  omega
 rw[nV,<-xV];clear nV;have jX:=ae h.st.mem.hand;have c2:=h.st.cell 2 _ rfl;have yh:=h.st.lt;have HP:=ae h;have HF:=ae hf;have HI:=ae hf.fit.cD;have iC:=ae hL;have o9:=ae hc;obtain⟨p0,p1,p2,lG⟩:=h.cells;clear h hf hL hc;go_enter func13,ntmps13;go_wp2_with fail;refine cM (F9 p.hand B.ha B.hc _ (jX.out.later bQ) dn J6.out) ?_;intro w2 aC;have bT:=ae (af (aA w _) aC);clear aC;go_wp2_with fail;refine cM (tW dn (by have:=RH.out;omega) dn _ rfl) ?_;intro w3 bo;have ie:=ae (HP.out.same (af bT.out bo));clear bo;go_wp2;go_ret;exact⟨rfl,ie.out⟩
end
section
variable(g k:Nat)(p:Sk)(B:Rs)(w:World)
theorem UM(h:js g k p B w)(n:Nat)(hf:iE n p.nf)(hL:aQ p.nf)(_:n<=3840000)(hc:B.bX<=230000)(xa xb:Int)(dt:ByteArray):Calls prog 13 #[.pointer (some ⟨g,0,none⟩),.agg #[.string ⟨#[101,110,100]⟩,i6 xa,i6 xb,.string dt]] w (fU 1 g k B w (eb (p.nf.cz xa false).1) (p.nf.cz xa false).2):=by
 obtain⟨n0,fp⟩:∃n0,(p.nf.cz xa false).1=n0:=⟨_,rfl⟩
 have jy:=ae (xX p.nf xa false);rw[fp] at jy;have mo:Hid (p.nf.cz xa false=(n0,(p.nf.cz xa false).2)):=by show _=_;rw[<-fp]
 rw[fp];clear fp;have HP:=ae h;have HF:=ae hf;have HI:=ae hf.fit.cD;have iC:=ae hL;have o9:=ae hc;have lG:=aK h.a7;have du:¬B.ay k w.heap.size:=fun e=>by have:=h.st.bC _ e;omega
 have gm:=ae du;obtain⟨w1,gu⟩:∃w1,w.alloc (Obj.cells #[.string ⟨#[101,110,100]⟩,i6 xa,i6 xb,.string dt] 31)=w1:=⟨_,rfl⟩
 have aN:Hid (bL w w1):=by rw[<-gu];exact aA w _
 have dN:=ae (h.later aN.out);have eD:=ae (fun c t w' (hk:jP c g k B w1 t w')=>hk.gS aN.out);obtain⟨b0,b1,b2,b3⟩:=uw gu;have g1:w1.cell? ⟨g,1,none⟩=some (.pointer (some ⟨k,0,none⟩)):=dN.out.cells.2.1;have mn:=aq g1;have nY:=aq b1;clear h hf hL hc du;go_enter func13,ntmps13;go_upto_region 24 with fail;clear gu;generalize w.heap.size=q at *
 go_region_held3 (fun w'=>w'.cell? ⟨g,1,none⟩=some (.pointer (some ⟨k,0,none⟩))/\w'.cell? ⟨q,1,none⟩=some (i6 xa)) (first|exact⟨ai (w:=w1) (aX _ _) g1,ai (w:=w1) (aX _ _) b1⟩|exact⟨ai (w:=w1) (aX _ _).drew g1,ai (w:=w1) (aX _ _).drew b1⟩|exact⟨aM,aM⟩) (first|(go_at_call 49;refine(pY n0 _ jy.out).mono ?_;rintro e wT ⟨rfl,dX⟩;have ie:=ae (dW.out.later (af bQ dX));have tg:=ai dX mg;have t1:=ai dX m1)|(go_at_call 56;refine(Eu k p B _ (dN.out.st.later bQ) n HF.out oM (by have:=o9.out;omega) iC.out xa false _ _ mo.out).mono ?_;rintro e wA ⟨rfl,hok⟩;have dW:=ae (eD.out _ _ _ (dN.out.code bQ hok));obtain⟨pA,AA,fu,-⟩:=hok;have mg:=(fu.only.cell (p:=⟨g,1,none⟩) (by(try simp);omega) HP.out.off).trans (ai (w:=w1) bQ g1);have m1:=(fu.only.cell (p:=⟨q,1,none⟩) (by(try simp);omega) gm.out).trans (ai (w:=w1) bQ b1)))
 all_goals
  clear fu dX;go_wp2;go_ret;exact⟨rfl,ie.out⟩
theorem NO(h:js g k p B w)(n:Nat)(hf:iE n p.nf)(hL:aQ p.nf)(_:n<=3840000)(hc:B.bX<=230000)(xa xb:Int)(dt:ByteArray):Calls prog 13 #[.pointer (some ⟨g,0,none⟩),.agg #[.string ⟨#[102,97,117,108,116]⟩,i6 xa,i6 xb,.string dt]] w (fU 1 g k B w (eb (p.nf.cz xa true).1) (p.nf.cz xa true).2):=by
 obtain⟨n0,fp⟩:∃n0,(p.nf.cz xa true).1=n0:=⟨_,rfl⟩
 have jy:=ae (xX p.nf xa true);rw[fp] at jy;have mo:Hid (p.nf.cz xa true=(n0,(p.nf.cz xa true).2)):=by show _=_;rw[<-fp]
 rw[fp];clear fp;have HP:=ae h;have HF:=ae hf;have HI:=ae hf.fit.cD;have iC:=ae hL;have o9:=ae hc;have lG:=aK h.a7;have du:¬B.ay k w.heap.size:=fun e=>by have:=h.st.bC _ e;omega
 have gm:=ae du;obtain⟨w1,gu⟩:∃w1,w.alloc (Obj.cells #[.string ⟨#[102,97,117,108,116]⟩,i6 xa,i6 xb,.string dt] 31)=w1:=⟨_,rfl⟩
 have aN:Hid (bL w w1):=by rw[<-gu];exact aA w _
 have dN:=ae (h.later aN.out);have eD:=ae (fun c t w' (hk:jP c g k B w1 t w')=>hk.gS aN.out);obtain⟨b0,b1,b2,b3⟩:=uw gu;have g1:w1.cell? ⟨g,1,none⟩=some (.pointer (some ⟨k,0,none⟩)):=dN.out.cells.2.1;have mn:=aq g1;have nY:=aq b1;clear h hf hL hc du;go_enter func13,ntmps13;go_upto_region 26 with fail;clear gu;generalize w.heap.size=q at *
 go_region_held3 (fun w'=>w'.cell? ⟨g,1,none⟩=some (.pointer (some ⟨k,0,none⟩))/\w'.cell? ⟨q,1,none⟩=some (i6 xa)) (first|exact⟨ai (w:=w1) (aX _ _) g1,ai (w:=w1) (aX _ _) b1⟩|exact⟨ai (w:=w1) (aX _ _).drew g1,ai (w:=w1) (aX _ _).drew b1⟩|exact⟨aM,aM⟩) (first|(go_at_call 49;refine(pY n0 _ jy.out).mono ?_;rintro e wT ⟨rfl,dX⟩;have ie:=ae (dW.out.later (af bQ dX));have tg:=ai dX mg;have t1:=ai dX m1)|(go_at_call 56;refine(Eu k p B _ (dN.out.st.later bQ) n HF.out oM (by have:=o9.out;omega) iC.out xa true _ _ mo.out).mono ?_;rintro e wA ⟨rfl,hok⟩;have dW:=ae (eD.out _ _ _ (dN.out.code bQ hok));obtain⟨pA,AA,fu,-⟩:=hok;have mg:=(fu.only.cell (p:=⟨g,1,none⟩) (by(try simp);omega) HP.out.off).trans (ai (w:=w1) bQ g1);have m1:=(fu.only.cell (p:=⟨q,1,none⟩) (by(try simp);omega) gm.out).trans (ai (w:=w1) bQ b1)))
 all_goals
  clear fu dX;go_wp2;go_ret;exact⟨rfl,ie.out⟩
end
section
variable(g k:Nat)(p:Sk)(B:Rs)(w:World)
theorem Q1(h:js g k p B w)(n:Nat)(hf:iE n p.nf)(hL:aQ p.nf)(_:n<=3840000)(hc:B.bX<=230000)(xa xb:Int)(dt:ByteArray):Calls prog 13 #[.pointer (some ⟨g,0,none⟩),.agg #[.string ⟨#[114,101,97,100]⟩,i6 xa,i6 xb,.string dt]] w (fU 0 g k B w (eb (p.nf.ask xa 1 xb ⟨#[]⟩).1) (p.nf.ask xa 1 xb ⟨#[]⟩).2):=by
 obtain⟨n0,fp⟩:∃n0,(p.nf.ask xa 1 xb ⟨#[]⟩).1=n0:=⟨_,rfl⟩
 have jy:=ae (rW p.nf xa 1 xb ⟨#[]⟩);rw[fp] at jy;have mo:Hid (p.nf.ask xa 1 xb ⟨#[]⟩=(n0,(p.nf.ask xa 1 xb ⟨#[]⟩).2)):=by show _=_;rw[<-fp]
 rw[fp];clear fp;have HP:=ae h;have HF:=ae hf;have HI:=ae hf.fit.cD;have iC:=ae hL;have o9:=ae hc;have lG:=aK h.a7;have du:¬B.ay k w.heap.size:=fun e=>by have:=h.st.bC _ e;omega
 have gm:=ae du;obtain⟨w1,gu⟩:∃w1,w.alloc (Obj.cells #[.string ⟨#[114,101,97,100]⟩,i6 xa,i6 xb,.string dt] 31)=w1:=⟨_,rfl⟩
 have aN:Hid (bL w w1):=by rw[<-gu];exact aA w _
 have dN:=ae (h.later aN.out);have eD:=ae (fun c t w' (hk:jP c g k B w1 t w')=>hk.gS aN.out);obtain⟨b0,b1,b2,b3⟩:=uw gu;have g1:w1.cell? ⟨g,1,none⟩=some (.pointer (some ⟨k,0,none⟩)):=dN.out.cells.2.1;have mn:=aq g1;have nY:=aq b1;clear h hf hL hc du;go_enter func13,ntmps13;go_upto_region 3 with fail;clear gu;generalize w.heap.size=q at *
 go_region_held3 (fun w'=>w'.cell? ⟨g,1,none⟩=some (.pointer (some ⟨k,0,none⟩))/\w'.cell? ⟨q,1,none⟩=some (i6 xa)/\w'.cell? ⟨q,2,none⟩=some (i6 xb)) (first|exact⟨ai (w:=w1) (aX _ _) g1,ai (w:=w1) (aX _ _) b1,ai (w:=w1) (aX _ _) b2⟩|exact⟨ai (w:=w1) (aX _ _).drew g1,ai (w:=w1) (aX _ _).drew b1,ai (w:=w1) (aX _ _).drew b2⟩|exact⟨aM,aM,aM⟩) (first|(go_at_call 49;refine(pY n0 _ jy.out).mono ?_;rintro e wT ⟨rfl,dX⟩;have ie:=ae (dW.out.later (af bQ dX));have tg:=ai dX mg;have t1:=ai dX m1;have t2:=ai dX m2)|(go_at_call 50;refine(Et k p B _ (dN.out.st.later bQ) HI.out.inv iC.out.cD (by have:=HI.out.tags;omega) (by have:=HI.out.az;omega) xa 1 xb ⟨#[]⟩ _ _ mo.out).mono ?_;rintro e wA ⟨rfl,hok⟩;have dW:=ae (eD.out _ _ _ (dN.out.code bQ hok));obtain⟨pA,AA,fu,-⟩:=hok;have mg:=(fu.only.cell (p:=⟨g,1,none⟩) (by(try simp);omega) HP.out.off).trans (ai (w:=w1) bQ g1);have m1:=(fu.only.cell (p:=⟨q,1,none⟩) (by(try simp);omega) gm.out).trans (ai (w:=w1) bQ b1);have m2:=(fu.only.cell (p:=⟨q,2,none⟩) (by(try simp);omega) gm.out).trans (ai (w:=w1) bQ b2)))
 all_goals
  clear fu dX;go_wp2;go_ret;exact⟨rfl,ie.out⟩
theorem NS(h:js g k p B w)(n:Nat)(hf:iE n p.nf)(hL:aQ p.nf)(_:n<=3840000)(hc:B.bX<=230000)(xa xb:Int)(dt:ByteArray):Calls prog 13 #[.pointer (some ⟨g,0,none⟩),.agg #[.string ⟨#[119,114,105,116,101]⟩,i6 xa,i6 xb,.string dt]] w (fU 0 g k B w (eb (p.nf.ask xa 2 xb dt).1) (p.nf.ask xa 2 xb dt).2):=by
 obtain⟨n0,fp⟩:∃n0,(p.nf.ask xa 2 xb dt).1=n0:=⟨_,rfl⟩
 have jy:=ae (rW p.nf xa 2 xb dt);rw[fp] at jy;have mo:Hid (p.nf.ask xa 2 xb dt=(n0,(p.nf.ask xa 2 xb dt).2)):=by show _=_;rw[<-fp]
 rw[fp];clear fp;have HP:=ae h;have HF:=ae hf;have HI:=ae hf.fit.cD;have iC:=ae hL;have o9:=ae hc;have lG:=aK h.a7;have du:¬B.ay k w.heap.size:=fun e=>by have:=h.st.bC _ e;omega
 have gm:=ae du;obtain⟨w1,gu⟩:∃w1,w.alloc (Obj.cells #[.string ⟨#[119,114,105,116,101]⟩,i6 xa,i6 xb,.string dt] 31)=w1:=⟨_,rfl⟩
 have aN:Hid (bL w w1):=by rw[<-gu];exact aA w _
 have dN:=ae (h.later aN.out);have eD:=ae (fun c t w' (hk:jP c g k B w1 t w')=>hk.gS aN.out);obtain⟨b0,b1,b2,b3⟩:=uw gu;have g1:w1.cell? ⟨g,1,none⟩=some (.pointer (some ⟨k,0,none⟩)):=dN.out.cells.2.1;have mn:=aq g1;have nY:=aq b1;clear h hf hL hc du;go_enter func13,ntmps13;go_upto_region 5 with fail;clear gu;generalize w.heap.size=q at *
 go_region_held3 (fun w'=>w'.cell? ⟨g,1,none⟩=some (.pointer (some ⟨k,0,none⟩))/\w'.cell? ⟨q,1,none⟩=some (i6 xa)/\w'.cell? ⟨q,2,none⟩=some (i6 xb)/\w'.cell? ⟨q,3,none⟩=some (.string dt)) (first|exact⟨ai (w:=w1) (aX _ _) g1,ai (w:=w1) (aX _ _) b1,ai (w:=w1) (aX _ _) b2,ai (w:=w1) (aX _ _) b3⟩|exact⟨ai (w:=w1) (aX _ _).drew g1,ai (w:=w1) (aX _ _).drew b1,ai (w:=w1) (aX _ _).drew b2,ai (w:=w1) (aX _ _).drew b3⟩|exact⟨aM,aM,aM,aM⟩) (first|(go_at_call 49;refine(pY n0 _ jy.out).mono ?_;rintro e wT ⟨rfl,dX⟩;have ie:=ae (dW.out.later (af bQ dX));have tg:=ai dX mg;have t1:=ai dX m1;have t2:=ai dX m2;have t3:=ai dX m3)|(go_at_call 50;refine(Et k p B _ (dN.out.st.later bQ) HI.out.inv iC.out.cD (by have:=HI.out.tags;omega) (by have:=HI.out.az;omega) xa 2 xb dt _ _ mo.out).mono ?_;rintro e wA ⟨rfl,hok⟩;have dW:=ae (eD.out _ _ _ (dN.out.code bQ hok));obtain⟨pA,AA,fu,-⟩:=hok;have mg:=(fu.only.cell (p:=⟨g,1,none⟩) (by(try simp);omega) HP.out.off).trans (ai (w:=w1) bQ g1);have m1:=(fu.only.cell (p:=⟨q,1,none⟩) (by(try simp);omega) gm.out).trans (ai (w:=w1) bQ b1);have m2:=(fu.only.cell (p:=⟨q,2,none⟩) (by(try simp);omega) gm.out).trans (ai (w:=w1) bQ b2);have m3:=(fu.only.cell (p:=⟨q,3,none⟩) (by(try simp);omega) gm.out).trans (ai (w:=w1) bQ b3)))
 all_goals
  clear fu dX;go_wp2;go_ret;exact⟨rfl,ie.out⟩
theorem Q2(h:js g k p B w)(n:Nat)(hf:iE n p.nf)(hL:aQ p.nf)(_:n<=3840000)(hc:B.bX<=230000)(xa xb:Int)(dt:ByteArray):Calls prog 13 #[.pointer (some ⟨g,0,none⟩),.agg #[.string ⟨#[115,121,110,99]⟩,i6 xa,i6 xb,.string dt]] w (fU 0 g k B w (eb (p.nf.ask xa 3 0 ⟨#[]⟩).1) (p.nf.ask xa 3 0 ⟨#[]⟩).2):=by
 obtain⟨n0,fp⟩:∃n0,(p.nf.ask xa 3 0 ⟨#[]⟩).1=n0:=⟨_,rfl⟩
 have jy:=ae (rW p.nf xa 3 0 ⟨#[]⟩);rw[fp] at jy;have mo:Hid (p.nf.ask xa 3 0 ⟨#[]⟩=(n0,(p.nf.ask xa 3 0 ⟨#[]⟩).2)):=by show _=_;rw[<-fp]
 rw[fp];clear fp;have HP:=ae h;have HF:=ae hf;have HI:=ae hf.fit.cD;have iC:=ae hL;have o9:=ae hc;have lG:=aK h.a7;have du:¬B.ay k w.heap.size:=fun e=>by have:=h.st.bC _ e;omega
 have gm:=ae du;obtain⟨w1,gu⟩:∃w1,w.alloc (Obj.cells #[.string ⟨#[115,121,110,99]⟩,i6 xa,i6 xb,.string dt] 31)=w1:=⟨_,rfl⟩
 have aN:Hid (bL w w1):=by rw[<-gu];exact aA w _
 have dN:=ae (h.later aN.out);have eD:=ae (fun c t w' (hk:jP c g k B w1 t w')=>hk.gS aN.out);obtain⟨b0,b1,b2,b3⟩:=uw gu;have g1:w1.cell? ⟨g,1,none⟩=some (.pointer (some ⟨k,0,none⟩)):=dN.out.cells.2.1;have mn:=aq g1;have nY:=aq b1;clear h hf hL hc du;go_enter func13,ntmps13;go_upto_region 7 with fail;clear gu;generalize w.heap.size=q at *
 go_region_held3 (fun w'=>w'.cell? ⟨g,1,none⟩=some (.pointer (some ⟨k,0,none⟩))/\w'.cell? ⟨q,1,none⟩=some (i6 xa)) (first|exact⟨ai (w:=w1) (aX _ _) g1,ai (w:=w1) (aX _ _) b1⟩|exact⟨ai (w:=w1) (aX _ _).drew g1,ai (w:=w1) (aX _ _).drew b1⟩|exact⟨aM,aM⟩) (first|(go_at_call 49;refine(pY n0 _ jy.out).mono ?_;rintro e wT ⟨rfl,dX⟩;have ie:=ae (dW.out.later (af bQ dX));have tg:=ai dX mg;have t1:=ai dX m1)|(go_at_call 50;refine(Et k p B _ (dN.out.st.later bQ) HI.out.inv iC.out.cD (by have:=HI.out.tags;omega) (by have:=HI.out.az;omega) xa 3 0 ⟨#[]⟩ _ _ mo.out).mono ?_;rintro e wA ⟨rfl,hok⟩;have dW:=ae (eD.out _ _ _ (dN.out.code bQ hok));obtain⟨pA,AA,fu,-⟩:=hok;have mg:=(fu.only.cell (p:=⟨g,1,none⟩) (by(try simp);omega) HP.out.off).trans (ai (w:=w1) bQ g1);have m1:=(fu.only.cell (p:=⟨q,1,none⟩) (by(try simp);omega) gm.out).trans (ai (w:=w1) bQ b1)))
 all_goals
  clear fu dX;go_wp2;go_ret;exact⟨rfl,ie.out⟩
end
section
variable(g k:Nat)(p:Sk)(B:Rs)(w:World)
theorem Mm(h:js g k p B w)(n:Nat)(hf:iE n p.nf)(hL:aQ p.nf)(_:n<=3840000)(hc:B.bX<=230000)(xb:Int)(dt:ByteArray)(m:Nat)(hm:m<=999)(ig:B.bX+m<=230000)(hnm:n+11*m<=3850000):Calls prog 13 #[.pointer (some ⟨g,0,none⟩),.agg #[.string ⟨#[115,101,116,116,108,101]⟩,i6 m,i6 xb,.string dt]] w (fU m g k B w (Lib.itoa (p.nf.settle m).1++[32]++oU (p.nf.settle m).2.quiet) (p.nf.settle m).2):=by
 obtain⟨z,hz⟩:∃z,p.nf.settle m=z:=⟨_,rfl⟩
 obtain⟨c,q'⟩:=z;obtain⟨t,ht⟩:∃t,q'.quiet=t:=⟨_,rfl⟩
 have HZ:=ae hz;have HT:=ae ht;have HM:=ae (⟨hm,ig,hnm⟩:_/\_/\_);have HK:Hid (c<=1000):=by have:=Jf m p.nf;rw[hz] at this;show c<=1000;omega
 rw[hz];show Calls _ _ _ _ (fU m g k B w (Lib.itoa c++[32]++oU q'.quiet) q');rw[ht,<-xV];clear hz ht hm ig hnm;obtain⟨T1,Fl⟩:∃T1,gp c++[32]=T1:=⟨_,rfl⟩
 obtain⟨T2,qV⟩:∃T2,T1++oU t=T2:=⟨_,rfl⟩
 have mG:=od 18 c (by have:=HK.out;omega);have pN:(oU t).length<=10:=(by cases t<;>decide)
 have wU:∀W',Sem.run prog (Op.stringOp .add ⟨(gp c).toArray⟩ ⟨#[32]⟩) W'=.ok (.string ⟨T1.toArray⟩) W':=fun W'=>by rw[<-Fl];exact rS (gp c) [32] (by simp;omega) W'
 have kJ:∀W',Sem.run prog (Op.stringOp .add ⟨T1.toArray⟩ ⟨(oU t).toArray⟩) W'=.ok (.string ⟨T2.toArray⟩) W':=fun W'=>by rw[<-qV];exact rS T1 (oU t) (by rw[<-Fl];simp;omega) W'
 rw[Fl,qV];clear Fl qV mG pN;obtain⟨xa,zC⟩:∃xa:Int,xa=(m:Int):=⟨_,rfl⟩
 have HE:=ae zC;rw[<-zC];clear zC;have HP:=ae h;have HF:=ae hf;have HI:=ae hf.fit.cD;have iC:=ae hL;have o9:=ae hc;have lG:=aK h.a7;have du:¬B.ay k w.heap.size:=fun e=>by have:=h.st.bC _ e;omega
 have gm:=ae du;obtain⟨w1,gu⟩:∃w1,w.alloc (Obj.cells #[.string ⟨#[115,101,116,116,108,101]⟩,i6 xa,i6 xb,.string dt] 31)=w1:=⟨_,rfl⟩
 have aN:Hid (bL w w1):=by rw[<-gu];exact aA w _
 have dN:=ae (h.later aN.out);have eD:=ae (fun c t w' (hk:jP c g k B w1 t w')=>hk.gS aN.out);obtain⟨b0,b1,b2,b3⟩:=uw gu;have g1:w1.cell? ⟨g,1,none⟩=some (.pointer (some ⟨k,0,none⟩)):=dN.out.cells.2.1;have mn:=aq g1;have nY:=aq b1;clear h hf hL hc du;go_enter func13,ntmps13;have Kk:Hid (∀w',bL w1 w'->Calls prog 58 #[.pointer (some ⟨k,0,none⟩),i6 xa] w' fun e w2=>e=.returned (.tuple #[i6 c,.bool t])/\ed m k p B w' w2 q'):=fun w' hb=>by
  rw[HE.out];exact NU k p B w' (dN.out.later hb).st n m HF.out iC.out (by have:=HM.out;omega) (by have:=HM.out;omega) c q' HZ.out t HT.out
 go_upto_region 30 with fail;clear gu;generalize w.heap.size=q at *
 go_region_held3 (fun w'=>w'.cell? ⟨g,1,none⟩=some (.pointer (some ⟨k,0,none⟩))/\w'.cell? ⟨q,1,none⟩=some (i6 xa)) (first|exact⟨ai (w:=w1) (aX _ _) g1,ai (w:=w1) (aX _ _) b1⟩|exact⟨ai (w:=w1) (aX _ _).drew g1,ai (w:=w1) (aX _ _).drew b1⟩|exact⟨aM,aM⟩) (first|(go_at_call 58;refine cM (Kk.out _ bQ) ?_;intro wA hok;have dW:=ae (eD.out _ _ _ (dN.out.code bQ hok));obtain⟨pA,AA,fu,-⟩:=hok;have mg:=(fu.only.cell (p:=⟨g,1,none⟩) (by(try simp);omega) HP.out.off).trans (ai (w:=w1) bQ g1);have m1:=(fu.only.cell (p:=⟨q,1,none⟩) (by(try simp);omega) gm.out).trans (ai (w:=w1) bQ b1)))
 all_goals
  clear fu;go_wp2_with fail;refine cM (tW c (by have:=HK.out;omega) c _ rfl) ?_;intro wT dX;have ie:=ae (dW.out.later dX);clear dX;go_wp2_with fail;refine cM (Ey _ _) ?_;intro w3 rfl;go_wp2;go_ret;exact⟨rfl,ie.out⟩
end
section
variable(g k:Nat)(p:Sk)(B:Rs)(w:World)
theorem Xx(h:js g k p B w)(n:Nat)(hf:iE n p.nf)(hL:aQ p.nf)(_:n<=3840000)(hc:B.bX<=230000)(xa xb:Int)(dt:ByteArray)(hx:2<xa):Calls prog 13 #[.pointer (some ⟨g,0,none⟩),.agg #[.string ⟨#[103,111,116]⟩,i6 xa,i6 xb,.string dt]] w (fU 0 g k B w (eb 5) p.nf):=by
 have HP:=ae h;have HF:=ae hf;have HI:=ae hf.fit.cD;have iC:=ae hL;have o9:=ae hc;obtain⟨p0,p1,p2,lG⟩:=h.cells;clear h hf hL hc;go_enter func13,ntmps13;go_wp2_with fail;refine cM (pY 5 _ oM) ?_;intro w2 aC;have ie:=ae (HP.out.same (af (aA w _) aC));clear aC;go_wp2;go_ret;exact⟨rfl,ie.out⟩
theorem QV(h:js g k p B w)(n:Nat)(hf:iE n p.nf)(hL:aQ p.nf)(_:n<=3840000)(hc:B.bX<=230000)(xb:Int)(dt:ByteArray)(i:Nat)(hi:i<3)(k0:Nat)(fC:w.cell? ⟨k,11+i,none⟩=some (.pointer (some ⟨k0,0,none⟩))):Calls prog 13 #[.pointer (some ⟨g,0,none⟩),.agg #[.string ⟨#[103,111,116]⟩,i6 i,i6 xb,.string dt]] w (fU 0 g k B w [119,97,105,116,115] p.nf):=by
 have hi2:¬(2:Int)<(i:Int):=oM;have iT:(0:Int)<=(i:Int):=oM;have DJ:(i:Int)<3:=oM;have HP:=ae h;have HF:=ae hf;have HI:=ae hf.fit.cD;have iC:=ae hL;have o9:=ae hc;have lG:=aK h.a7;have du:¬B.ay k w.heap.size:=fun e=>by have:=h.st.bC _ e;omega
 have gm:=ae du;obtain⟨w1,gu⟩:∃w1,w.alloc (Obj.cells #[.string ⟨#[103,111,116]⟩,i6 i,i6 xb,.string dt] 31)=w1:=⟨_,rfl⟩
 have aN:Hid (bL w w1):=by rw[<-gu];exact aA w _
 have dN:=ae (h.later aN.out);have eD:=ae (fun c t w' (hk:jP c g k B w1 t w')=>hk.gS aN.out);obtain⟨b0,b1,b2,b3⟩:=uw gu;have g1:w1.cell? ⟨g,1,none⟩=some (.pointer (some ⟨k,0,none⟩)):=dN.out.cells.2.1;have mn:=aq g1;have nY:=aq b1;have ca:w1.cell? ⟨k,11+i,none⟩=some (.pointer (some ⟨k0,0,none⟩)):=ai aN.out fC;have lk1:=aq ca;clear h hf hL hc du fC;go_enter func13,ntmps13;go_upto_region 11 with fail;clear gu;generalize w.heap.size=q at *
 go_region_held3 (fun w'=>w'.cell? ⟨k,11+i,none⟩=some (.pointer (some ⟨k0,0,none⟩))/\w'.cell? ⟨g,1,none⟩=some (.pointer (some ⟨k,0,none⟩))/\w'.cell? ⟨q,1,none⟩=some (i6 i)) (first|exact⟨ai (w:=w1) (aX _ _) ca,ai (w:=w1) (aX _ _) g1,ai (w:=w1) (aX _ _) b1⟩|exact⟨ai (w:=w1) (aX _ _).drew ca,ai (w:=w1) (aX _ _).drew g1,ai (w:=w1) (aX _ _).drew b1⟩|exact⟨aM,aM,aM⟩) (fail)
 all_goals
  go_wp2;go_ret;exact⟨rfl,eD.out _ _ _ (dN.out.same bQ)⟩
end
section
variable(g k:Nat)(p:Sk)(B:Rs)(w:World)
theorem adq(h:js g k p B w)(n:Nat)(hf:iE n p.nf)(hL:aQ p.nf)(_:n<=3840000)(hc:B.bX<=230000)(xb:Int)(dt:ByteArray)(i:Nat)(hi:i<3)(fC:w.cell? ⟨k,11+i,none⟩=some (.pointer none))(gt:ByteArray)(Th:gt.size<=1000)(Ld:∀w',bL w w'->Calls prog 51 #[.pointer (some ⟨k,0,none⟩),i6 i] w' (rB (.tuple #[.string gt,i6 0]) w')):Calls prog 13 #[.pointer (some ⟨g,0,none⟩),.agg #[.string ⟨#[103,111,116]⟩,i6 i,i6 xb,.string dt]] w (fU 0 g k B w ([100,97,116,97,32]++gt.data.toList) p.nf):=by
 have hi2:¬(2:Int)<(i:Int):=oM;have iT:(0:Int)<=(i:Int):=oM;have DJ:(i:Int)<3:=oM;have HG:=ae Ld;have K9:=adv [100,97,116,97,32] gt (by simp;omega);obtain⟨T,hT⟩:∃T,([100,97,116,97,32]:List UInt8)++gt.data.toList=T:=⟨_,rfl⟩
 rw[hT] at K9 ⊢;clear hT Th;clear Ld;have HP:=ae h;have HF:=ae hf;have HI:=ae hf.fit.cD;have iC:=ae hL;have o9:=ae hc;have lG:=aK h.a7;have du:¬B.ay k w.heap.size:=fun e=>by have:=h.st.bC _ e;omega
 have gm:=ae du;obtain⟨w1,gu⟩:∃w1,w.alloc (Obj.cells #[.string ⟨#[103,111,116]⟩,i6 i,i6 xb,.string dt] 31)=w1:=⟨_,rfl⟩
 have aN:Hid (bL w w1):=by rw[<-gu];exact aA w _
 have dN:=ae (h.later aN.out);have eD:=ae (fun c t w' (hk:jP c g k B w1 t w')=>hk.gS aN.out);obtain⟨b0,b1,b2,b3⟩:=uw gu;have g1:w1.cell? ⟨g,1,none⟩=some (.pointer (some ⟨k,0,none⟩)):=dN.out.cells.2.1;have mn:=aq g1;have nY:=aq b1;have ca:w1.cell? ⟨k,11+i,none⟩=some (.pointer none):=ai aN.out fC;have lk1:=aq ca;clear h hf hL hc du fC;go_enter func13,ntmps13;have EM:=ae (fun w' (hb:bL w1 w')=>HG.out w' (af aN.out hb));clear HG;go_upto_region 11 with fail;clear gu;generalize w.heap.size=q at *
 go_region_held3 (fun w'=>w'.cell? ⟨k,11+i,none⟩=some (.pointer none)/\w'.cell? ⟨g,1,none⟩=some (.pointer (some ⟨k,0,none⟩))/\w'.cell? ⟨q,1,none⟩=some (i6 i)) (first|exact⟨ai (w:=w1) (aX _ _) ca,ai (w:=w1) (aX _ _) g1,ai (w:=w1) (aX _ _) b1⟩|exact⟨ai (w:=w1) (aX _ _).drew ca,ai (w:=w1) (aX _ _).drew g1,ai (w:=w1) (aX _ _).drew b1⟩|exact⟨aM,aM,aM⟩) (fail)
 all_goals
  go_upto_region 13 with fail
  go_region_held3 (fun w'=>w'.cell? ⟨g,1,none⟩=some (.pointer (some ⟨k,0,none⟩))/\w'.cell? ⟨q,1,none⟩=some (i6 i)) (first|exact⟨ai (w:=w1) bQ g1,ai (w:=w1) bQ b1⟩|exact⟨aM,aM⟩) (first|(go_at_call 51;refine cM (EM.out _ bQ) ?_;intro wA dX;have dW:Hid (bL w1 wA):=af bQ dX;have mg:=ai (w:=w1) dW.out g1;have m1:=ai (w:=w1) dW.out b1))
 all_goals
  clear dX;go_wp2;go_ret;exact⟨rfl,eD.out _ _ _ (dN.out.same dW.out)⟩
theorem adr(h:js g k p B w)(n:Nat)(hf:iE n p.nf)(hL:aQ p.nf)(_:n<=3840000)(hc:B.bX<=230000)(xb:Int)(dt:ByteArray)(i:Nat)(hi:i<3)(fC:w.cell? ⟨k,11+i,none⟩=some (.pointer none))(gt:ByteArray)(er:Int)(iq:0<er/\er<=100)(Ld:∀w',bL w w'->Calls prog 51 #[.pointer (some ⟨k,0,none⟩),i6 i] w' (rB (.tuple #[.string gt,i6 er]) w')):Calls prog 13 #[.pointer (some ⟨g,0,none⟩),.agg #[.string ⟨#[103,111,116]⟩,i6 i,i6 xb,.string dt]] w (fU 0 g k B w (eb er) p.nf):=by
 have hi2:¬(2:Int)<(i:Int):=oM;have iT:(0:Int)<=(i:Int):=oM;have DJ:(i:Int)<3:=oM;have HG:=ae Ld;have ze:=ae (fun w'=>pY er w' ⟨oM,iq.2⟩);have her0:0<er:=iq.1;generalize eb er=T at *;clear Ld;have HP:=ae h;have HF:=ae hf;have HI:=ae hf.fit.cD;have iC:=ae hL;have o9:=ae hc;have lG:=aK h.a7;have du:¬B.ay k w.heap.size:=fun e=>by have:=h.st.bC _ e;omega
 have gm:=ae du;obtain⟨w1,gu⟩:∃w1,w.alloc (Obj.cells #[.string ⟨#[103,111,116]⟩,i6 i,i6 xb,.string dt] 31)=w1:=⟨_,rfl⟩
 have aN:Hid (bL w w1):=by rw[<-gu];exact aA w _
 have dN:=ae (h.later aN.out);have eD:=ae (fun c t w' (hk:jP c g k B w1 t w')=>hk.gS aN.out);obtain⟨b0,b1,b2,b3⟩:=uw gu;have g1:w1.cell? ⟨g,1,none⟩=some (.pointer (some ⟨k,0,none⟩)):=dN.out.cells.2.1;have mn:=aq g1;have nY:=aq b1;have ca:w1.cell? ⟨k,11+i,none⟩=some (.pointer none):=ai aN.out fC;have lk1:=aq ca;clear h hf hL hc du fC;go_enter func13,ntmps13;have EM:=ae (fun w' (hb:bL w1 w')=>HG.out w' (af aN.out hb));clear HG;go_upto_region 11 with fail;clear gu;generalize w.heap.size=q at *
 go_region_held3 (fun w'=>w'.cell? ⟨k,11+i,none⟩=some (.pointer none)/\w'.cell? ⟨g,1,none⟩=some (.pointer (some ⟨k,0,none⟩))/\w'.cell? ⟨q,1,none⟩=some (i6 i)) (first|exact⟨ai (w:=w1) (aX _ _) ca,ai (w:=w1) (aX _ _) g1,ai (w:=w1) (aX _ _) b1⟩|exact⟨ai (w:=w1) (aX _ _).drew ca,ai (w:=w1) (aX _ _).drew g1,ai (w:=w1) (aX _ _).drew b1⟩|exact⟨aM,aM,aM⟩) (fail)
 all_goals
  go_upto_region 13 with fail
  go_region_held3 (fun w'=>w'.cell? ⟨g,1,none⟩=some (.pointer (some ⟨k,0,none⟩))/\w'.cell? ⟨q,1,none⟩=some (i6 i)) (first|exact⟨ai (w:=w1) bQ g1,ai (w:=w1) bQ b1⟩|exact⟨aM,aM⟩) (first|(go_at_call 51;refine cM (EM.out _ bQ) ?_;intro wA dX;have dW:Hid (bL w1 wA):=af bQ dX;have mg:=ai (w:=w1) dW.out g1;have m1:=ai (w:=w1) dW.out b1))
 all_goals
  clear dX;go_wp2_with fail;refine cM (ze.out _) ?_;intro wT dX;have ie:=ae (eD.out _ _ _ (dN.out.same (af dW.out dX)));clear dX;go_wp2;go_ret;exact⟨rfl,ie.out⟩
end
section
variable(g k:Nat)(p:Sk)(B:Rs)(w:World)
theorem NM(h:js g k p B w)(n:Nat)(hf:iE n p.nf)(hL:aQ p.nf)(_:n<=3840000)(hc:B.bX<=230000)(xa xb:Int)(dt:ByteArray)(zC:0<=xa/\xa<=999):Calls prog 13 #[.pointer (some ⟨g,0,none⟩),.agg #[.string ⟨#[99,114,97,115,104]⟩,i6 xa,i6 xb,.string dt]] w (fU 0 g k B w (eb 0) (xF (p.dev.fs xa))):=by
 have sW:IntKind.u64.wrap xa=xa:=by rw[IntKind.wrap_u64];omega
 have HXA:=ae zC;clear zC;have HWT:Hid (B.m.waits.length<=1000000):=by have:=h.st.mem.wb;show B.m.waits.length<=1000000;omega
 have HP:=ae h;have HF:=ae hf;have HI:=ae hf.fit.cD;have iC:=ae hL;have o9:=ae hc;have lG:=aK h.a7;have du:¬B.ay k w.heap.size:=fun e=>by have:=h.st.bC _ e;omega
 have gm:=ae du;obtain⟨w1,gu⟩:∃w1,w.alloc (Obj.cells #[.string ⟨#[99,114,97,115,104]⟩,i6 xa,i6 xb,.string dt] 31)=w1:=⟨_,rfl⟩
 have aN:Hid (bL w w1):=by rw[<-gu];exact aA w _
 have dN:=ae (h.later aN.out);have eD:=ae (fun c t w' (hk:jP c g k B w1 t w')=>hk.gS aN.out);obtain⟨b0,b1,b2,b3⟩:=uw gu;have g1:w1.cell? ⟨g,1,none⟩=some (.pointer (some ⟨k,0,none⟩)):=dN.out.cells.2.1;have mn:=aq g1;have nY:=aq b1;have g0:w1.cell? ⟨g,0,none⟩=some (.pointer (some ⟨B.b,0,none⟩)):=dN.out.cells.1;clear h hf hL hc du;go_enter func13,ntmps13;go_upto_region 39 with fail;clear gu;generalize w.heap.size=q at *
 go_region_held3 (fun w'=>w'.cell? ⟨g,0,none⟩=some (.pointer (some ⟨B.b,0,none⟩))/\w'.cell? ⟨g,1,none⟩=some (.pointer (some ⟨k,0,none⟩))/\w'.cell? ⟨q,1,none⟩=some (i6 xa)) (first|exact⟨ai (w:=w1) (aX _ _) g0,ai (w:=w1) (aX _ _) g1,ai (w:=w1) (aX _ _) b1⟩|exact⟨ai (w:=w1) (aX _ _).drew g0,ai (w:=w1) (aX _ _).drew g1,ai (w:=w1) (aX _ _).drew b1⟩|exact⟨aM,aM,aM⟩) (first|(go_at_call 62;refine cM (QP B.b B.m B.ra xa (by have:=HXA.out;omega) _ (dN.out.later bQ).st.mem.cE.dev HWT.out) ?_;intro wA hd;have HD:=ae hd;have wS:∀j,B.ra.ay B.b j->B.ay k j:=fun j hj=>ir (il (ir hj));have Yc:=ae wS;have OH:Hid (aH (fun j=>B.ay k j) w1 wA):=(aH.cj (F:=fun j=>B.ay k j) bQ).trans (hd.only.mono (fun j e=>wS j e)) (fun j e=>il e);have mg0:=(OH.out.cell (p:=⟨g,0,none⟩) mn HP.out.off).trans g0;have mg:=(OH.out.cell (p:=⟨g,1,none⟩) mn HP.out.off).trans g1;have m1:=(OH.out.cell (p:=⟨q,1,none⟩) nY gm.out).trans b1))
 all_goals
  clear hd wS;have EL:=ae mg0;have P6:wA.heap[g]?=some (.cells #[.pointer (some ⟨B.b,0,none⟩),.pointer (some ⟨k,0,none⟩)] 41 (0,0)):=by rw[OH.out.block g mn HP.out.off];exact dN.out.a7
  have J4:=ae P6;have lgA:=aK P6;clear P6;go_wp2_with fail;refine(Be B.b (p.dev.fs xa) (B.m.fs xa) ⟨none,0,none,0⟩ _ HD.out.dev (HP.out.st.mem.tied.fs xa) rfl rfl B.bX (ach _)).mono ?_;rintro e w2 ⟨s',v',E3,rfl,cZ,aC,z1,z2,z3⟩;have HS:=ae cZ;have HZ:=ae (⟨aC,z1,z2,z3⟩:_/\_/\_/\_);have vI:w2.heap[g]?=some (.cells #[.pointer (some ⟨B.b,0,none⟩),.pointer (some ⟨k,0,none⟩)] 41 (0,0)):=by rw[aC.block g lgA];exact J4.out
  have bT:=ae vI;have d1:w2.cell? ⟨g,1,none⟩=some (.pointer (some ⟨k,0,none⟩)):=by rw[aR vI];rfl
  have f1:w2.frozen? ⟨g,1,none⟩=false:=cG vI 1;have lg2:=aq d1;clear cZ aC z1 z2 z3 vI;go_wp2;go_ret;refine⟨rfl,eD.out _ _ _ ?_⟩;have hz:=OH.out.size;have hX:∀j,B.X j->j<w2.heap.size:=fun j hj=>abF (dN.out.st.mem.gW j hj) (abb hz HZ.out.1.size)
  have hS:=HS.out.fresh rfl B.X hX;have hfn:∀j,({ xC B.b v' E3 (B.m.fs xa) ⟨none,0,none,0⟩ B.bX with X:=B.X }:Rs).ay s' j->B.ay k j\/w1.heap.size<=j:=by
   obtain⟨-,z1,z2,z3⟩:=HZ.out;rintro j (e|(e|e)|⟨i,_,hi⟩)
   ·exact ir oM
   ·have e':j=E3:=e;exact ir oM
   ·rcases e with e|⟨q',cI,_⟩
    ·exact il (Yc.out j (il e))
    ·cases cI
   ·cases hi
  have Tv:¬({ xC B.b v' E3 (B.m.fs xa) ⟨none,0,none,0⟩ B.bX with X:=B.X }:Rs).ay s' g:=fun e=>by
   rcases hfn g e with h1|h1
   ·exact HP.out.off h1
   ·omega
  have hvg:¬v'=g:=by have:=HZ.out.2.2.1;omega
  have hO:aH (fun j=>j=g) w2 (w2.setCell ⟨g,1,none⟩ (.pointer (some ⟨s',0,none⟩))):=(aH.refl (fun j=>j=g) w2).setCell ⟨g,1,none⟩ (il rfl) _;refine⟨s',{ oQ with dev:=p.dev.fs xa },{ xC B.b v' E3 (B.m.fs xa) ⟨none,0,none,0⟩ B.bX with X:=B.X },⟨?_,?_,Tv⟩,?_,?_,hfn,rfl,rfl,ir (by have:=HZ.out.2.2.1;show w1.heap.size<=v';omega),aaO _⟩
  ·exact hS.frame hO (fun j hj e=>Tv (e▸hj)) hvg (fun aE=>absurd rfl aE) (fun aE=>absurd rfl aE) (fun r hr=>by
    have dj:r∈([]:List Rq)++([]:List Rq):=hr
    cases dj) (fun i _ j hj=>by cases hj) (fun aE=>absurd rfl aE)
  ·rw[bJ bT.out];rfl
  ·exact U5 _ rfl
  ·exact((OH.out.mono (fun j e=>il e)).trans (aH.cj (F:=fun _=>False) HZ.out.1) (fun _ e=>e.elim)).trans hO (fun j e=>il (ir e))
end
theorem KU{n:Int}{x:St}(h:rI n false x=true):x.data=⟨#[]⟩:=by
 unfold rI at h;simp only[abW,Bool.false_or] at h;have h2:=h.2;rw[adE] at h2;have h3:x.data.data.toList=[]:=agR.1 h2;exact ByteArray.ext (by rw[<-afn];exact h3)
theorem adR{b:Bool}{x:St}(h:rI 1 b x=true):x.b=0:=by
 unfold rI at h;simp only[abW] at h;have h2:=h.1.2
 simpa using h2
theorem jP.mono{c c' g k:Nat}{B:Rs}{w w':World}{q:Sk}(h:jP c g k B w q w')(hc:c<=c'):jP c' g k B w q w':=by
 obtain⟨k',p',B',hs⟩:=h;exact⟨k',p',B',hs.at',hs.nf,hs.only,hs.ay,hs.b,hs.X,hs.v,abb hs.bX oM⟩
theorem fU.mono{c c' g k:Nat}{B:Rs}{w w':World}{t:List UInt8}{q:Sk}{e:Ending}(hc:c<=c')(h:fU c g k B w t q e w'):fU c' g k B w t q e w':=⟨h.1,h.2.mono hc⟩
theorem UN(g k:Nat)(p:Sk)(B:Rs)(w:World)(h:js g k p B w)(n:Nat)(hf:iE n p.nf)(hL:aQ p.nf)(hn:n<=3840000)(hc:B.bX<=230000)(hG:cd p)(hGB:cv p)(xa xb:Int)(dt:ByteArray)(hx:0<=xa):Calls prog 13 #[.pointer (some ⟨g,0,none⟩),.agg #[.string ⟨#[103,111,116]⟩,i6 xa,i6 xb,.string dt]] w (fU 0 g k B w (BI p.nf xa) p.nf):=by
 by_cases h2:2<xa
 ·have e:BI p.nf xa=eb 5:=by
   unfold BI Sk.waits P0;rw[aa9 oM,agi,aaP aa7,aaP oM]
  rw[e];exact Xx g k p B w h n hf hL hn hc xa xb dt h2
 ·obtain⟨i,rfl⟩:∃i:Nat,xa=i:=⟨xa.toNat,oM⟩
  have hi:i<3:=oM;have ew:p.nf.waits i=!((p.ao i).kind==0):=by
   unfold Sk.waits;rw[aa1 (show 0<=(i:Int)/\(i:Int)<3 from oM),adA,abG]
   rfl
  unfold BI;rw[ew]
  rcases h.st.JR hi with⟨hk,BS⟩|⟨hk,k0,BS⟩
  ·rw[hk];rw[aaP dM];unfold P0;rw[aaV (show 0<=(i:Int)/\(i:Int)<3 from oM),abG];have IM:=hGB.adm i;have Tg:∀w',bL w w'->Calls prog 51 #[.pointer (some ⟨k,0,none⟩),i6 i] w' (rB (.tuple #[.string (p.ao i).gO,i6 (p.ao i).err]) w'):=fun w' hb=>Xw k p B w' (h.later hb).st i hi (hG.ao i)
   show Calls _ _ _ _ (fU 0 g k B w (if(p.ao i).err=0 then _ else _) p.nf)
   by_cases he:(p.ao i).err=0
   ·rw[aaV he];rw[he] at Tg;exact adq g k p B w h n hf hL hn hc xb dt i hi BS (p.ao i).gO IM.2.2 Tg
   ·rw[aaP he];exact adr g k p B w h n hf hL hn hc xb dt i hi BS (p.ao i).gO (p.ao i).err ⟨oM,IM.2.1⟩ Tg
  ·have hb:((p.ao i).kind==0)=false:=aaU.2 hk;rw[hb,aaV dM];exact QV g k p B w h n hf hL hn hc xb dt i hi k0 BS
abbrev qG(g k:Nat)(B:Rs)(w:World)(xw:ByteArray)(xa xb:Int)(dt:ByteArray)(z:List UInt8 × Sk):Prop:=Calls prog 13 #[.pointer (some ⟨g,0,none⟩),.agg #[.string xw,i6 xa,i6 xb,.string dt]] w (fU 999 g k B w z.1 z.2)
theorem UL(g k:Nat)(p:Sk)(B:Rs)(w:World)(h:js g k p B w)(n:Nat)(hf:iE n p.nf)(hL:aQ p.nf)(hG:cd p)(hGB:cv p)(hn:n<=3830000)(hc:B.bX<=229000)(x:St)(h0:aV x=0):Calls prog 13 #[.pointer (some ⟨g,0,none⟩),x.val] w (fU 999 g k B w (jc p.nf x).1 (jc p.nf x).2):=by
 obtain⟨xw,xa,xb,dt⟩:=x;have nA:=(pJ h0).2.1;have ha:0<=xa/\xa<=999:=(pJ h0).2.2.1;have hw:=(pJ h0).1;have lU:n<=3840000:=oM;have kJ:B.bX<=230000:=oM;clear h0;have key:qG g k B w xw xa xb dt (jc p.nf ⟨xw,xa,xb,dt⟩):=by
  unfold jc;refine di (P:=qG g k B w xw xa xb dt) (fun e=>by subst e;have hd:dt=⟨#[]⟩:=KU (n:=2) nA;subst hd;exact(Q1 g k p B w h n hf hL lU kJ xa xb _).mono (fun e w' h'=>h'.mono oM)) (fun e0=>?_);refine di (P:=qG g k B w xw xa xb dt) (fun e=>by subst e;exact(NS g k p B w h n hf hL lU kJ xa xb dt).mono (fun e w' h'=>h'.mono oM)) (fun e1=>?_);refine di (P:=qG g k B w xw xa xb dt) (fun e=>by subst e;have hd:dt=⟨#[]⟩:=KU (n:=1) nA;have hb:xb=0:=adR (b:=false) nA;subst hd;subst hb;exact(Q2 g k p B w h n hf hL lU kJ xa 0 _).mono (fun e w' h'=>h'.mono oM)) (fun e2=>?_);refine di (P:=qG g k B w xw xa xb dt) (fun e=>by subst e;exact(UN g k p B w h n hf hL lU kJ hG hGB xa xb dt ha.1).mono (fun e w' h'=>h'.mono oM)) (fun e3=>?_);refine di (P:=qG g k B w xw xa xb dt) (fun e=>by subst e;exact(Q3 g k p B w h n hf hL lU kJ xa xb dt).mono (fun e w' h'=>h'.mono oM)) (fun e4=>?_);refine di (P:=qG g k B w xw xa xb dt) (fun e=>by subst e;exact(NQ g k p B w h n hf hL lU kJ xa xb dt).mono (fun e w' h'=>h'.mono oM)) (fun e5=>?_);refine di (P:=qG g k B w xw xa xb dt) (fun e=>by subst e;exact(NL g k p B w h n hf hL lU kJ xa xb dt).mono (fun e w' h'=>h'.mono oM)) (fun e6=>?_);refine di (P:=qG g k B w xw xa xb dt) (fun e=>by subst e;exact(Hc g k p B w h n hf hL lU kJ xa xb dt).mono (fun e w' h'=>h'.mono oM)) (fun e7=>?_);refine di (P:=qG g k B w xw xa xb dt) (fun e=>by subst e;exact(UM g k p B w h n hf hL lU kJ xa xb dt).mono (fun e w' h'=>h'.mono oM)) (fun e8=>?_);refine di (P:=qG g k B w xw xa xb dt) (fun e=>by subst e;exact(NO g k p B w h n hf hL lU kJ xa xb dt).mono (fun e w' h'=>h'.mono oM)) (fun e9=>?_);refine di (P:=qG g k B w xw xa xb dt) (fun e=>by subst e;obtain⟨m,hm⟩:∃m:Nat,xa=m:=⟨xa.toNat,(agA ha.1).symm⟩;have hm9:m<=999:=(by clear nA hw;omega);subst hm;have:=Mm g k p B w h n hf hL lU kJ xb dt m hm9 oM oM;exact this.mono (fun e w' h'=>h'.mono hm9)) (fun e10=>?_);refine di (P:=qG g k B w xw xa xb dt) (fun e=>by subst e;have:=NP g k p B w h n hf hL lU kJ xa xb dt;rw[<-AM] at this;exact this.mono (fun e w' h'=>h'.mono oM)) (fun e11=>?_);refine di (P:=qG g k B w xw xa xb dt) (fun e=>by subst e;have:=Q0 g k p B w h n hf hL lU kJ xa xb dt;rw[<-AM] at this;exact this.mono (fun e w' h'=>h'.mono oM)) (fun e12=>?_);refine di (P:=qG g k B w xw xa xb dt) (fun e=>by subst e;exact(NN g k p B w h n hf hL lU kJ xa xb dt).mono (fun e w' h'=>h'.mono oM)) (fun e13=>?_);refine di (P:=qG g k B w xw xa xb dt) (fun e=>by subst e;exact(NM g k p B w h n hf hL lU kJ xa xb dt ha).mono (fun e w' h'=>h'.mono oM)) (fun e14=>?_);have fp:dY xw=none:=by
   unfold dY;rw[aaP e13,aaP e12,aaP e11,aaP e5,aaP e7,aaP e6,aaP e4,aaP e14,aaP e10,aaP e9,aaP e8,aaP e3,aaP e2,aaP e1,aaP e0]
  rw[show dY (St.mk xw xa xb dt).word=none from fp] at hw
  cases hw
 exact key
theorem UO(w:World)(X:Nat->Prop)(hX:∀j,X j->j<w.heap.size):Calls prog 10 #[] w fun e w'=>∃g k p B,e=.returned (.pointer (some ⟨g,0,none⟩))/\RX g k p B X w w':=by
 have HX:=ae hX;clear hX;have hzv:∀w',Sem.run prog (zeroValue 49) w'=.ok (.agg (m0.cells L7).toArray) w':=fun _=>rfl
 go_enter func10,ntmps10;go_wp2_with fail;have HW1:=ae (aA w (.cells (m0.cells L7).toArray 49));refine(Be w.heap.size d0 m0 L7 _ (ad9 _ _ (acm w _)) kN.start rfl rfl 0 (ach _)).mono ?_;rintro e w2 ⟨k,v,bm,rfl,cZ,aC,z1,z2,z3⟩;have HS:=ae cZ;have HZ:=ae (⟨af HW1.out aC,z1,z2,z3⟩:_/\_/\_/\_);clear cZ aC z1 z2 z3 hzv HW1;go_wp2;go_ret;obtain⟨aC,z1,z2,z3⟩:=HZ.out;rw[aaW] at z1 z2 z3;have DF:∀j,X j->j<w2.heap.size:=fun j hj=>abF (HX.out j hj) aC.size
 have hS:=HS.out.fresh rfl X DF;have CU:∀j,({ xC w.heap.size v bm m0 L7 0 with X:=X }:Rs).ay k j->w.heap.size<=j:=by
  rintro j (e|(e|e)|⟨i,_,hi⟩)
  ·omega
  ·have e':j=bm:=e
   omega
  ·rcases e with e|⟨q,hq,_⟩
   ·have e':j=w.heap.size:=e
    omega
   ·cases hq
  ·cases hi
 have K7:bL w2 (w2.alloc (.cells #[.pointer (some ⟨w.heap.size,0,none⟩),.pointer (some ⟨k,0,none⟩)] 41 (0,0))):=aA w2 _;refine⟨w2.heap.size,k,{ oQ with dev:=d0 },{ xC w.heap.size v bm m0 L7 0 with X:=X },rfl,⟨hS.later K7,Array.getElem?_push_size,fun e=>by have:=hS.bC _ e;omega⟩,rfl,af aC K7,?_,rfl,by show w.heap.size<=v;omega,rfl⟩;rintro j (e|e)
 ·exact CU j e
 ·rw[e];exact aC.size
end
section
open Go.RowKit
structure ru(n:Nat)(q:Sk):Prop where
 kA:iE n q
 left:aQ q
 gO:cd q
 vg:cv q
theorem ru.mono{n m:Nat}{q:Sk}(h:ru n q)(hm:n<=m):ru m q:=⟨iK h.kA hm,h.left,h.gO,h.vg⟩
theorem U3:ru 0 oQ:=⟨XQ,Mu,Pp,AN⟩
theorem ru.fs{n:Nat}{q:Sk}(h:ru n q)(kp:Int):ru 0 (xF (q.dev.fs kp)):=⟨⟨h.kA.fit.fs kp,fun r hr=>by cases hr⟩,Mu,Pp,AN⟩
abbrev vn(n:Nat)(z:List UInt8 × Sk):Prop:=ru (n+10989) z.2
theorem ru.step{n:Nat}{q:Sk}(h:ru n q)(x:St)(hx:x.a<=999):ru (n+10989) (jc q x).2:=by
 have key:vn n (jc q x):=by
  unfold jc;refine di (P:=vn n) (fun _=>⟨iK (Ec h.kA _ _ _ _) oM,h.left.ask h.kA.fit.inv.hand.len _ _ _ _,h.gO.ask _ _ _ _,cv.ask h.kA.fit.inv h.vg _ _ _ _⟩) (fun _=>?_);refine di (P:=vn n) (fun _=>⟨iK (Ec h.kA _ _ _ _) oM,h.left.ask h.kA.fit.inv.hand.len _ _ _ _,h.gO.ask _ _ _ _,cv.ask h.kA.fit.inv h.vg _ _ _ _⟩) (fun _=>?_);refine di (P:=vn n) (fun _=>⟨iK (Ec h.kA _ _ _ _) oM,h.left.ask h.kA.fit.inv.hand.len _ _ _ _,h.gO.ask _ _ _ _,cv.ask h.kA.fit.inv h.vg _ _ _ _⟩) (fun _=>?_);refine di (P:=vn n) (fun _=>h.mono oM) (fun _=>?_);refine di (P:=vn n) (fun _=>⟨iK (Iv h.kA) oM,h.left.tick,h.gO.tick,cv.tick h.kA.fit.inv h.vg⟩) (fun _=>?_);refine di (P:=vn n) (fun _=>⟨iK h.kA.round oM,h.left.round,h.gO.round,cv.round h.kA.fit h.vg⟩) (fun _=>?_);refine di (P:=vn n) (fun _=>⟨iK (Fb h.kA) oM,h.left.clean,h.gO.clean,cv.clean h.vg⟩) (fun _=>?_);refine di (P:=vn n) (fun _=>⟨iK (A5 h.kA) oM,h.left.bf,h.gO.bf,cv.bf h.vg⟩) (fun _=>?_);refine di (P:=vn n) (fun _=>⟨iK (KS h.kA _ _) oM,h.left.cz _ _,h.gO.cz _ _,cv.cz h.kA.fit.inv h.kA.fit.short h.vg _ _⟩) (fun _=>?_);refine di (P:=vn n) (fun _=>⟨iK (KS h.kA _ _) oM,h.left.cz _ _,h.gO.cz _ _,cv.cz h.kA.fit.inv h.kA.fit.short h.vg _ _⟩) (fun _=>?_);refine di (P:=vn n) (fun _=>⟨iK (M3 _ h.kA) oM,h.left.settle _,h.gO.settle _,cv.settle _ h.kA.fit h.vg⟩) (fun _=>?_);refine di (P:=vn n) (fun _=>h.mono oM) (fun _=>?_);refine di (P:=vn n) (fun _=>h.mono oM) (fun _=>?_);refine di (P:=vn n) (fun _=>h.mono oM) (fun _=>?_);refine di (P:=vn n) (fun _=>(h.fs _).mono oM) (fun _=>?_);exact h.mono oM
 exact key
def lI(l:List UInt8):Prop:=∀c∈l,c ≠ 32
theorem TM:∀(a b:List UInt8),lI a->Lib.index (a++32::b) [32]=a.length
 |[],b,_=>by simp[Lib.index]
 |c::a,b,h=>by
  have ih:=TM a b (fun x hx=>h x (acs _ hx));have hc:c ≠ 32:=h c acd;have hp:([32]:List UInt8).isPrefixOf (c::(a++32::b))=false:=by simp[List.isPrefixOf];exact fun e=>hc e.symm
  show(if([32]:List UInt8).isPrefixOf (c::(a++32::b))=true then(0:Int) else if Lib.index (a++32::b) [32] == -1 then -1 else Lib.index (a++32::b) [32]+1)=_;rw[hp,ih,aaP aa7,aaP (by rw[ac3];omega)]
  simp
theorem O9:∀(a:List UInt8),lI a->Lib.index a [32]=-1
 |[],_=>rfl
 |c::a,h=>by
  have ih:=O9 a (fun x hx=>h x (acs _ hx));have hc:c ≠ 32:=h c acd;have hp:([32]:List UInt8).isPrefixOf (c::a)=false:=by simp[List.isPrefixOf];exact fun e=>hc e.symm
  show(if([32]:List UInt8).isPrefixOf (c::a)=true then(0:Int) else if Lib.index a [32] == -1 then -1 else Lib.index a [32]+1)=_;rw[hp,ih];rfl
theorem zo(a b:List UInt8)(h:lI a):Lib.cut (a++32::b) [32]=(a,b,true):=by
 unfold Lib.cut;rw[TM a b h,aaV oM]
 simp
theorem KK(a:List UInt8)(h:lI a):Lib.cut a [32]=(a,[],false):=by
 unfold Lib.cut;rw[O9 a h,aaP oM]
theorem WR:∀n:Fin 1000,(Lib.itoa (n.val:Int)).all (fun c=>c != 32)=true/\vA (Lib.itoa (n.val:Int))=(n.val:Int):=dK
theorem yu(n:Int)(h:0<=n/\n<=999):lI (Lib.itoa n)/\vA (Lib.itoa n)=n:=by
 have:=WR ⟨n.toNat,oM⟩;rw[show((⟨n.toNat,oM⟩:Fin 1000).val:Int)=n by simp;omega] at this;exact⟨fun c hc=>by simpa using agp.1 this.1 c hc,this.2⟩
theorem MM(s:ByteArray)(h:(dY s).isSome=true):lI s.data.toList:=by
 have:s.data.toList.all (fun c=>c != 32)=true:=by
  unfold dY at h
  iterate 15
   (rcases Y3 h with h1|h1
    ·subst h1;decide
    have h:=h1;clear h1)
  cases h
 exact fun c hc=>by simpa using agp.1 this c hc
theorem UC(x:St)(h:aV x=0):ju x.text=x:=by
 obtain⟨f1,f2,f3,f4,_,_,f7⟩:=pJ h;obtain⟨wd,a,b,dt⟩:=x;obtain⟨W,rfl⟩:=mC wd;obtain⟨L,rfl⟩:=mC dt;simp only at f1 f2 f3 f4 f7;have hW:lI W:=by simpa using MM _ f1
 obtain⟨na,aa⟩:=yu a f3;obtain⟨nb,ab⟩:=yu b f4;have hd:¬L=[45]:=fun e=>f7 (by rw[e];rfl)
 obtain⟨n,q,oL,tO⟩:=iB ⟨W.toArray⟩;have Lq:(⟨⟨W.toArray⟩,a,b,⟨L.toArray⟩⟩:St).text=W++gJ a b n.toNat++ic L q:=by
  unfold St.text;simp only;rw[oL]
 rw[Lq];rw[oL] at f2;have key:∀R fd k,Lib.cut (W++gJ a b n.toNat++ic L q) [32]=(W,R,fd)->n.toNat=k->ju (W++gJ a b n.toNat++ic L q)=⟨⟨W.toArray⟩,if 1<=k then fy R 0 else 0,if 2<=k then fy R 1 else 0,if me R k=[45] then⟨#[]⟩ else⟨(me R k).toArray⟩⟩:=by
  intro R fd k e ek;unfold ju;rw[e];simp only;rw[oL];simp only;rw[ek]
  rfl
 simp only[rI] at f2
 rcases tO with⟨rfl,rfl⟩|⟨rfl,rfl⟩|⟨rfl,rfl⟩|⟨rfl,rfl⟩
 ·simp at f2
  obtain⟨⟨rfl,rfl⟩,rfl⟩:=f2;rw[key [] false 0 (by simpa [gJ,ic] using KK W hW) rfl]
  simp[me]
 ·simp at f2
  obtain⟨rfl,rfl⟩:=f2;rw[key (Lib.itoa a) true 1 (by simpa [gJ,ic] using zo W (Lib.itoa a) hW) rfl]
  simp[me,fy,KK _ na,aa]
 ·rw[key (Lib.itoa a++32::(Lib.itoa b++32::(if L.isEmpty then [45] else L))) true 2 (by simpa [gJ,ic] using zo W (Lib.itoa a++32::(Lib.itoa b++32::(if L.isEmpty then [45] else L))) hW) rfl];have e1:=zo (Lib.itoa a) (Lib.itoa b++32::(if L.isEmpty then [45] else L)) na;have e2:=zo (Lib.itoa b) (if L.isEmpty then [45] else L) nb;simp only[me,fy,e1,e2,aa,ab]
  cases L with
  |nil=>simp
  |cons c L =>
   rw[show(if(c::L).isEmpty=true then [45] else c::L)=c::L from rfl,aaP hd]
   rfl
 ·simp at f2
  subst f2;rw[key (Lib.itoa a++32::Lib.itoa b) true 2 (by simpa [gJ,ic] using zo W (Lib.itoa a++32::Lib.itoa b) hW) rfl];have e1:=zo (Lib.itoa a) (Lib.itoa b) na;have e2:=KK (Lib.itoa b) nb
  simp[me,fy,e1,e2,aa,ab]
theorem Vl(x:St)(h:aV x=0):kj x.text=true/\ju x.text=x:=by
 have:=UC x h;unfold kj;rw[this];exact⟨by simp[h,AO],rfl⟩
def qI(z:UInt8):Bool:=decide (48<=z.toNat)&&decide (z.toNat<=57)
def ti(n:Nat)(z:UInt8):Nat:=10*n+(z.toNat-48)
def uf(l:List UInt8):Nat:=l.foldl ti 0
def cR(l:List UInt8):Int:=if l.length<1\/9<l.length\/(l.head?=some 48/\1<l.length) then -1 else if l.all qI=false then -1 else if 999<uf l then -1 else(uf l:Int)
theorem OV:∀(l:List UInt8) (n:Nat),n*10 ^ l.length<=l.foldl ti n
 |[],n=>sM
 |z::l,n=>by
  have ih:=OV l (ti n z);simp only[List.foldl_cons,acf];refine abb ?_ ih;rw[Nat.pow_succ,<-Nat.mul_assoc,Nat.mul_right_comm];refine Nat.mul_le_mul_right _ ?_;unfold ti
  omega
theorem tX{z:UInt8}(h:qI z=true):∃k:Fin 10,z=UInt8.ofNat (48+k.val):=by
 unfold qI at h;simp only[abW,aba] at h;refine⟨⟨z.toNat-48,oM⟩,?_⟩;apply af9.1
 simp
 omega
theorem aeX:∀a:Fin 10,[UInt8.ofNat (48+a.val)]=Lib.itoa (uf [UInt8.ofNat (48+a.val)]:Nat):=dK
theorem aeY:∀a b:Fin 10,a.val=0\/[UInt8.ofNat (48+a.val),UInt8.ofNat (48+b.val)]=Lib.itoa (uf [UInt8.ofNat (48+a.val),UInt8.ofNat (48+b.val)]:Nat):=dK
theorem aeZ:∀a b c:Fin 10,a.val=0\/[UInt8.ofNat (48+a.val),UInt8.ofNat (48+b.val),UInt8.ofNat (48+c.val)]=Lib.itoa (uf [UInt8.ofNat (48+a.val),UInt8.ofNat (48+b.val),UInt8.ofNat (48+c.val)]:Nat):=dK
theorem aae:∀n:Fin 1000,cR (Lib.itoa (n.val:Int))=(n.val:Int):=dK
theorem LP(n:Int)(h:0<=n/\n<=999):cR (Lib.itoa n)=n:=by
 have:=aae ⟨n.toNat,oM⟩
 rwa [show((⟨n.toNat,oM⟩:Fin 1000).val:Int)=n by simp;omega] at this
theorem xt(l:List UInt8)(n:Int)(h:cR l=n)(h0:0<=n):l=Lib.itoa n/\n<=999:=by
 unfold cR at h
 split at h
 ·omega
 rename_i h1
 split at h
 ·omega
 rename_i h2
 split at h
 ·omega
 rename_i h3
 have pq:l.all qI=true:=by simpa using h2
 refine⟨?_,oM⟩;rw[<-h]
 match l,h1,pq,h3 with
 |[],h1,_,_=>exact absurd (il sM) h1
 |[a],_,hd,_ =>
  simp only[agm,List.all_nil,Bool.and_true] at hd;obtain⟨x,rfl⟩:=tX hd;exact aeX x
 |[a,b],h1,hd,_ =>
  simp only[agm,List.all_nil,Bool.and_true,abW] at hd;obtain⟨x,rfl⟩:=tX hd.1;obtain⟨y,rfl⟩:=tX hd.2
  rcases aeY x y with e|e
  ·exact absurd (ir (ir ⟨by simp[e],sM⟩)) h1
  ·exact e
 |[a,b,c],h1,hd,_ =>
  simp only[agm,List.all_nil,Bool.and_true,abW] at hd;obtain⟨x,rfl⟩:=tX hd.1;obtain⟨y,rfl⟩:=tX hd.2.1;obtain⟨z,rfl⟩:=tX hd.2.2
  rcases aeZ x y z with e|e
  ·exact absurd (ir (ir ⟨by simp[e],sM⟩)) h1
  ·exact e
 |a::b::c::d::r,h1,hd,h3 =>
  exfalso
  simp only[agm,abW] at hd;obtain⟨x,rfl⟩:=tX hd.1;have hx:¬x.val=0:=fun e=>h1 (ir (ir ⟨by simp[e],sM⟩))
  apply h3;have e1:uf (UInt8.ofNat (48+x.val)::b::c::d::r)=(b::c::d::r).foldl ti (ti 0 (UInt8.ofNat (48+x.val))):=rfl;have e2:=OV (b::c::d::r) (ti 0 (UInt8.ofNat (48+x.val)));have e3:ti 0 (UInt8.ofNat (48+x.val))=x.val:=by
   unfold ti;have:=x.isLt
   simp
   omega
  rw[e1];rw[e3] at e2 ⊢;simp only[acf] at e2;have e4:1000<=10 ^ (r.length+1+1+1):=by
   have:10 ^ 3<=10 ^ (r.length+3):=Nat.pow_le_pow_right oM oM;exact this
  have e5:10 ^ (r.length+1+1+1)<=x.val*10 ^ (r.length+1+1+1):=Nat.le_mul_of_pos_left _ oM
  omega
def eJ:List UInt8->List (List UInt8)
 |[]=>[[]]
 |c::l=>if c=32 then []::eJ l else match eJ l with
  |[]=>[[c]]
  |h::t=>(c::h)::t
def sZ:List (List UInt8)->List UInt8
 |[]=>[]
 |[a]=>a
 |a::b::r=>a++32::sZ (b::r)
theorem EC:∀l,eJ l ≠ []
 |[]=>by simp[eJ]
 |c::l=>by
  unfold eJ
  split
  ·simp
  ·split<;>simp
theorem join_cons(c:UInt8)(h:List UInt8)(t:List (List UInt8)):sZ ((c::h)::t)=c::sZ (h::t):=by
 cases t with
 |nil=>rfl
 |cons b r=>rfl
theorem FL:∀l,sZ (eJ l)=l
 |[]=>rfl
 |c::l=>by
  have ih:=FL l;have hn:=EC l;unfold eJ
  split
  ·rename_i hc
   cases hs:eJ l with
   |nil=>exact absurd hs hn
   |cons h t =>
    rw[hs] at ih;show []++32::sZ (h::t)=_;rw[ih,hc];rfl
  ·cases hs:eJ l with
   |nil=>exact absurd hs hn
   |cons h t =>
    rw[hs] at ih;show sZ ((c::h)::t)=_;rw[join_cons,ih]
theorem uk:∀a,lI a->eJ a=[a]
 |[],_=>rfl
 |c::a,h=>by
  have ih:=uk a (fun x hx=>h x (acs _ hx));unfold eJ;rw[aaP (h c acd),ih]
theorem nZ:∀a b,lI a->eJ (a++32::b)=a::eJ b
 |[],b,_=>by simp[eJ]
 |c::a,b,h=>by
  have ih:=nZ a b (fun x hx=>h x (acs _ hx));show eJ (c::(a++32::b))=_;rw[eJ,aaP (h c acd),ih]
def rq(l:List UInt8)(i:Nat):List UInt8:=(eJ l).getD i []
def qt(l:List UInt8)(n:Int)(b:Bool):St:=⟨⟨(rq l 0).toArray⟩,if 0<n then cR (rq l 1) else 0,if 1<n then cR (rq l 2) else 0,if b=true then(if rq l 3=[45] then⟨#[]⟩ else⟨(rq l 3).toArray⟩) else⟨#[]⟩⟩
def Eo(n:Int)(b:Bool):Nat:=1+n.toNat+(if b=true then 1 else 0)
def zM(l:List UInt8)(n:Int)(b:Bool):Prop:=(dY ⟨(rq l 0).toArray⟩).isSome=true/\cu ⟨(rq l 0).toArray⟩=(n,b)/\(eJ l).length=Eo n b/\(b=true->rq l 3 ≠ [])/\aV (qt l n b)=0
theorem v8(W L:List UInt8)(a b:Int)(n:Int)(q:Bool)(hp:cu ⟨W.toArray⟩=(n,q)):(⟨⟨W.toArray⟩,a,b,⟨L.toArray⟩⟩:St).text=W++gJ a b n.toNat++ic L q:=by
 unfold St.text;simp only;rw[hp]
theorem N8(l:List UInt8)(n:Int)(b:Bool)(h:zM l n b):(qt l n b).text=l:=by
 obtain⟨h1,h2,h3,h4,h5⟩:=h;obtain⟨_,_,f3,f4,_,_,_⟩:=pJ h5;have hj:=FL l;obtain⟨n',b',e,tO⟩:=iB ⟨(rq l 0).toArray⟩;rw[h2] at e;obtain⟨rfl,rfl⟩:=af5 e;unfold qt at f3 f4 ⊢;unfold rq at h2 h4 f3 f4 ⊢;generalize eJ l=w at *
 rcases tO with⟨rfl,rfl⟩|⟨rfl,rfl⟩|⟨rfl,rfl⟩|⟨rfl,rfl⟩
 ·match w,h3 with
  |[w0],_ =>
   simp at h2 ⊢
   rw[v8 w0 [] 0 0 0 false h2,<-hj]
   simp[gJ,ic,sZ]
 ·match w,h3 with
  |[w0,w1],_ =>
   simp at h2 f3 ⊢
   rw[v8 w0 [] (cR w1) 0 1 false h2,<-hj]
   simp[gJ,ic,sZ]
   exact(xt w1 _ rfl f3.1).1.symm
 ·match w,h3 with
  |[w0,w1,w2,w3],_ =>
   simp at h2 f3 f4 h4 ⊢
   have e1:=(xt w1 _ rfl f3.1).1.symm;have e2:=(xt w2 _ rfl f4.1).1.symm
   by_cases hd:w3=[45]
   ·subst hd;rw[aaV rfl,v8 w0 [] (cR w1) (cR w2) 2 true h2,<-hj]
    simp[gJ,ic,sZ,e1,e2]
   ·rw[aaP hd,v8 w0 w3 (cR w1) (cR w2) 2 true h2,<-hj]
    cases w3 with
    |nil=>exact absurd rfl h4
    |cons c r=>simp[gJ,ic,sZ,e1,e2]
 ·match w,h3 with
  |[w0,w1,w2],_ =>
   simp at h2 f3 f4 ⊢
   have e1:=(xt w1 _ rfl f3.1).1.symm;have e2:=(xt w2 _ rfl f4.1).1.symm;rw[v8 w0 [] (cR w1) (cR w2) 2 false h2,<-hj]
   simp[gJ,ic,sZ,e1,e2]
end
end Go.Proofs.YtlhgjplipgandaaGreatDoor
