/- Joined. -/
import Derived.Test.YtlhgjplipgandaaGreatDoorF30
set_option maxRecDepth 100000
set_option maxHeartbeats 8000000
set_option linter.unusedSimpArgs false
set_option linter.unusedSectionVars false
namespace Go.Proofs.YtlhgjplipgandaaGreatDoor
open Tryz
open Go.RowKit Go.BigFrame Go.Maps
def VP(p:Sk)(i:Nat)(kind:Int):List Int:=if kind=3 then bU p.hand else(p.ao i).left
def D8(p:Sk)(i:Nat)(kind pl:Int)(data:ByteArray):Cl:={ p.ao i with kind:=kind,pl:=pl,data:=data,left:=VP p i kind }
section
variable{s:Nat}{p:Sk}{A:Rs}{w w1:World}{i:Nat}{kind pl:Int}{data:ByteArray}
theorem Kw(h:bN s p A w)(hi:i<3)(fC:A.ka i=none)(hb:bL w w1){a':Option Addr}{n:Nat}{L:List Int}(ua:w1.heap[w.heap.size]?=some (.cells (rH (D8 p i kind pl data) a' L.length n).toArray 160 (0,0)))(hk:¬kind=0)(hI:eF w1 a' L)(hn:a'=none->n=0)(kC:∀b o,a'=some ⟨b,o,none⟩->w.heap.size+1<=b)(hL:kind=3->L=VP p i kind) :
 ∃A',bH s p A (p.asks i kind pl data) A' w (w1.setCell ⟨s,11+i,none⟩ (.pointer (some ⟨w.heap.size,0,none⟩)))/\A'.bX=A.bX:=by
 refine⟨_,h.asked hb hi (aaO _) (D8 p i kind pl data) L a' n ⟨ua,hk,hI,hn,hL⟩ (fun aE q hq=>?_) ⟨rfl,rfl⟩ fC,rfl⟩
 rcases hI.form with e|⟨b',o',e⟩
 ·exact absurd e aE
 ·rw[e] at hq;simp only[aa4] at hq;subst hq;have:=kC b' o' e;exact⟨by show w.heap.size<=b';omega,by show ¬b'=w.heap.size;omega⟩
theorem VS(hI:bg p)(ho:EH kind pl data):bg (p.asks i kind pl data):=hI.asks i kind pl data (by have:=ho.kd;omega) ⟨ho.p0,ho.p1⟩ ho.sz
theorem R6(hI:bg p)(hL:aQ p):aQ (p.asks i kind pl data):=hL.set i _ (FU p hI.hand.len i (hL.ao i)) rfl
end
def J0(s:Nat)(p:Sk)(A:Rs)(w:World)(i:Nat)(kind pl:Int)(data:ByteArray)(q:Sk):Prop:=∀w1 A',bH s p A (p.asks i kind pl data) A' w w1->A'.bX=A.bX->Calls prog 96 #[.pointer (some ⟨s,0,none⟩)] w1 fun e w'=>e=.returned (.tuple #[])/\ed 0 s p A w w' q
theorem R5{s:Nat}{p:Sk}{A:Rs}{w:World}{i:Nat}{kind pl:Int}{data:ByteArray}(hI:bg p)(hL:aQ p)(hT:p.tags<=3999999999999999990)(hU:p.az<=3999999999999999990)(ho:EH kind pl data)(q:Sk)(hq:(p.asks i kind pl data).nf.serve=q):J0 s p A w i kind pl data q:=by
 intro w1 A' hs hc;refine cM (ow s _ A' w1 hs.at' (VS hI ho) (R6 hI hL) hT hU q hq) ?_;intro w' hok;exact⟨rfl,ed.before (c:=0) hs oM hok (aaO _)⟩
theorem Pk(s:Nat)(p:Sk)(A:Rs)(w:World)(h:bN s p A w)(i:Nat)(hi:i<3)(kind pl:Int)(data:ByteArray)(ho:EH kind pl data)(hk:kind=1\/kind=2)(fC:A.ka i=none)(q:Sk)(he:J0 s p A w i kind pl data q) :
 Calls prog 50 #[.pointer (some ⟨s,0,none⟩),i6 i,i6 kind,i6 pl,.string data] w fun e w'=>e=.returned (i6 0)/\ed 0 s p A w w' q:=by
 have fE:=(h.fE hi).1;have f11:=(h.fE hi).2;have hl:=h.lt;unfold tU at fE;rw[fC] at fE;simp only[afV] at fE;have c2:=h.cell 2 _ rfl;have aL:=ae h;have HE:=ae he;have Kd:=ae fC;have wg:=ae hk;obtain⟨kd,p0,p1,sz,sy,em⟩:=ho;have d0:(0:Int)<=(i:Int):=oM;have d3:(i:Int)<3:=oM;have d1:¬(i:Int)<0:=oM;have d2:¬2<(i:Int):=oM;have p2:¬pl<0:=oM;have p3:¬31<pl:=oM;have p4:¬(4:Int)<(data.size:Int):=oM;have nj:Hid (∀w1,bL w w1->w1.heap[w.heap.size]?=some (.cells (rH (D8 p i kind pl data) none 0 0).toArray 160 (0,0))->∃A',bH s p A (p.asks i kind pl data) A' w (w1.setCell ⟨s,11+i,none⟩ (.pointer (some ⟨w.heap.size,0,none⟩)))/\A'.bX=A.bX):=fun w1 hb ua=>Kw h hi fC hb (a':=none) (n:=0) (L:=[]) ua oM (il rfl) (fun _=>rfl) (fun _ _ e=>by cases e) (fun e=>oM)
 clear h he fC sy kd;generalize p.hand.length=hn at *
 rcases hk with rfl|rfl
 ·obtain rfl:=em dM;clear em sz p4;go_enter func50,ntmps50;go_wp2
  go_loopw[12] (fun x wr=>x=i6 0/\wr=w.alloc (.cells (rH (D8 p i 1 pl ⟨#[]⟩) none 0 0).toArray 160)) (fun _ _=>0)
  case atStart=>exact⟨rfl,rfl⟩
  case round =>
   obtain⟨rfl,rfl⟩:=hrel;obtain⟨A',hs,hc⟩:=nj.out _ (aA w _) (acm w _);rw[World.setCell_alloc_past _ _ _ _ hl] at hs;have HS:=ae hs;have HC:=ae hc;clear hs hc nj
   by_cases hz:(0:Int)<(hn:Int)
   ·go_wp2_with fail;refine cM (HE.out _ A' HS.out HC.out) ?_;intro w5 hok;have dW:=ae hok;clear hok;go_wp2;go_ret;exact⟨rfl,dW.out⟩
   ·go_wp2_with fail;refine cM (HE.out _ A' HS.out HC.out) ?_;intro w5 hok;have dW:=ae hok;clear hok;go_wp2;go_ret;exact⟨rfl,dW.out⟩
 ·clear em;go_enter func50,ntmps50;go_wp2
  go_loopw[12] (fun x wr=>x=i6 0/\wr=w.alloc (.cells (rH (D8 p i 2 pl data) none 0 0).toArray 160)) (fun _ _=>0)
  case atStart=>exact⟨rfl,rfl⟩
  case round =>
   obtain⟨rfl,rfl⟩:=hrel;obtain⟨A',hs,hc⟩:=nj.out _ (aA w _) (acm w _);rw[World.setCell_alloc_past _ _ _ _ hl] at hs;have HS:=ae hs;have HC:=ae hc;clear hs hc nj
   by_cases hz:(0:Int)<(hn:Int)
   ·go_wp2_with fail;refine cM (HE.out _ A' HS.out HC.out) ?_;intro w5 hok;have dW:=ae hok;clear hok;go_wp2;go_ret;exact⟨rfl,dW.out⟩
   ·go_wp2_with fail;refine cM (HE.out _ A' HS.out HC.out) ?_;intro w5 hok;have dW:=ae hok;clear hok;go_wp2;go_ret;exact⟨rfl,dW.out⟩
structure uub(s:Nat)(p:Sk)(A:Rs)(w:World)(i:Nat)(j:Nat)(a':Option Addr)(n:Nat)(wr:World):Prop where
 a7:wr.heap[w.heap.size]?=some (.cells (rH (D8 p i 3 0 ⟨#[]⟩) a' (bU (p.hand.take j)).length n).toArray 160 (0,0))
 own:wr.ownsRow (w.heap.size+1) 3 1 (.slice a' (bU (p.hand.take j)).length n) (bU (p.hand.take j)).length (iw (bU (p.hand.take j)))
 bel:bL w wr
def zW(s k:Nat)(hv:Value)(bh oh j:Nat)(x:Int)(lv:Value)(w:World):Prop:=w.cell? ⟨s,2,none⟩=some hv/\w.cell? ⟨bh,oh+j*4,none⟩=some (i6 x)/\w.cell? ⟨k,3,none⟩=some lv/\w.frozen? ⟨k,3,none⟩=false/\k<w.heap.size
theorem zW.later{s k:Nat}{hv:Value}{bh oh j:Nat}{x:Int}{lv:Value}{w w':World}(h:zW s k hv bh oh j x lv w)(hb:bL w w'):zW s k hv bh oh j x lv w':=by
 obtain⟨h0,h1,h2,h3,h4⟩:=h;exact⟨ai hb h0,ai hb h1,ai hb h2,(hb.frozen (p:=⟨k,3,none⟩) h4).trans h3,abF h4 hb.size⟩
theorem zW.base{s k:Nat}{hv:Value}{bh oh j:Nat}{x:Int}{lv:Value}{w w':World}{B:Nat}(h:zW s k hv bh oh j x lv w)(hb:Below B w w')(h1:s<B)(h2:bh<B)(h3:k<B):zW s k hv bh oh j x lv w':=by
 obtain⟨e0,e1,e2,e3,e4⟩:=h;exact⟨(hb.cell (p:=⟨s,2,none⟩) h1).trans e0,(hb.cell (p:=⟨bh,oh+j*4,none⟩) h2).trans e1,(hb.cell (p:=⟨k,3,none⟩) h3).trans e2,(hb.frozen (p:=⟨k,3,none⟩) h3).trans e3,abF e4 hb.size⟩
theorem uub.ints{s:Nat}{p:Sk}{A:Rs}{w:World}{i j:Nat}{a':Option Addr}{n:Nat}{wr:World}(h:uub s p A w i j a' n wr):eF wr a' (bU (p.hand.take j))/\(a'=none->n=0)/\(∀b o,a'=some ⟨b,o,none⟩->w.heap.size+1<=b):=by
 obtain⟨a,c,e,h1,h2,h3⟩:=kP (xs:=bU (p.hand.take j)) h.own rfl;injection e with e1 e2 e3;subst e1 e3;exact⟨h1,h2,h3⟩
theorem uub.same{s:Nat}{p:Sk}{A:Rs}{w:World}{i j:Nat}{a':Option Addr}{n:Nat}{wr:World}(h:uub s p A w i j a' n wr)(e:bU (p.hand.take (j+1))=bU (p.hand.take j)):uub s p A w i (j+1) a' n wr:=⟨by rw[e];exact h.a7,by rw[e];exact h.own,h.bel⟩
theorem uub.more{s:Nat}{p:Sk}{A:Rs}{w:World}{i j:Nat}{a' a2:Option Addr}{n c2:Nat}{wr w4 w5:World}{x:Int}(h:uub s p A w i j a' n wr)(e:bU (p.hand.take (j+1))=bU (p.hand.take j)++[x])(fk:bL wr w4)(fm:Below (w.heap.size+1) w4 w5)(bu:w5.ownsRow (w.heap.size+1) 3 1 (.slice a2 ((bU (p.hand.take j)).length+1) c2) ((bU (p.hand.take j)).length+1) (iw (bU (p.hand.take j))++[i6 x])):uub s p A w i (j+1) a2 c2 (w5.setCell ⟨w.heap.size,3,none⟩ (.slice a2 ((bU (p.hand.take j)).length+1) c2)):=by
 have l0:=aK h.a7;have ua:w5.heap[w.heap.size]?=some (.cells (rH (D8 p i 3 0 ⟨#[]⟩) a' (bU (p.hand.take j)).length n).toArray 160 (0,0)):=by
  rw[fm.block _ oM,fk.block _ l0];exact h.a7
 have el:(bU (p.hand.take (j+1))).length=(bU (p.hand.take j)).length+1:=by rw[e];simp
 refine⟨?_,?_,?_⟩
 ·rw[bJ ua,el]
  rfl
 ·rw[el,e];have:=acz bu (a:=⟨w.heap.size,3,none⟩) (by show w.heap.size<w.heap.size+1;omega) (.slice a2 ((bU (p.hand.take j)).length+1) c2)
  simpa [iw] using this
 ·have hw4:bL w w4:=af h.bel fk;have hw5:bL w w5:=hw4.trans (fm.mono oM);exact al hw5 (aaO _) _
theorem UB(s:Nat)(p:Sk)(A:Rs)(w:World)(h:bN s p A w)(hI:bg p)(i:Nat)(hi:i<3)(fC:A.ka i=none)(q:Sk)(he:J0 s p A w i 3 0 ⟨#[]⟩ q) :
 Calls prog 50 #[.pointer (some ⟨s,0,none⟩),i6 i,i6 3,i6 0,.string ⟨#[]⟩] w fun e w'=>e=.returned (i6 0)/\ed 0 s p A w w' q:=by
 have fE:=(h.fE hi).1;have f11:=(h.fE hi).2;have hl:=h.lt;unfold tU at fE;rw[fC] at fE;simp only[afV] at fE;have c2:=h.cell 2 _ rfl;have HE:=ae he;have HM:=ae h.mem.hand;have h8:=hI.hand.len;have d0:(0:Int)<=(i:Int):=oM;have d3:(i:Int)<3:=oM;have d1:¬(i:Int)<0:=oM;have d2:¬2<(i:Int):=oM;obtain⟨iI,Ti,de,cC,cF⟩:=eS TP;have EO:=ae (⟨Ti,de,cC,cF⟩:prog.info? 3=some iI/\_/\_/\_);have nj:Hid (∀w1 a' n,uub s p A w i p.hand.length a' n w1->∃A',bH s p A (p.asks i 3 0 ⟨#[]⟩) A' w (w1.setCell ⟨s,11+i,none⟩ (.pointer (some ⟨w.heap.size,0,none⟩)))/\A'.bX=A.bX):=fun w1 a' n hG=>by
  have e:p.hand.take p.hand.length=p.hand:=aff;obtain⟨g1,g2,g3⟩:=hG.ints;have hb:=hG.a7;rw[e] at g1 hb;exact Kw h hi fC hG.bel hb oM g1 g2 g3 (fun _=>by unfold VP;rw[aaV rfl])
 clear h he fC Ti de cC cF hI;go_enter func50,ntmps50;go_wp2
 go_loopw[12] (fun x wr=>∃(j:Nat) (a':Option Addr) (n:Nat),j<=p.hand.length/\x=i6 j/\uub s p A w i j a' n wr) (fun x _=>p.hand.length-(intOf x).toNat)
 case atStart=>exact⟨0,none,0,oM,rfl,acm w _,abg _ _ _ _,aA w _⟩
 case round =>
  obtain⟨j,a',n,hj,rfl,hG⟩:=hrel;have HG:=ae hG;have Dt:=ai hG.bel c2;have lk:=aK hG.a7;have ls:=aq Dt
  by_cases au:j<p.hand.length
  ·have gC:(j:Int)<(p.hand.length:Int):=oM;have h0:p.hand ≠ []:=fun e=>by rw[e] at au;exact absurd au (aa0 _)
   obtain⟨bh,oh,hbh⟩:=HM.out.form.resolve_left h0;have xM:=HM.out;rw[hbh] at xM Dt;have qz:=aq (xM.cells au).1;obtain⟨e0,e1,e2,e3⟩:=(xM.later hG.bel).cells au;have ht:=I2 au;have hL:=LY p.hand j;have HT:=ae ht;clear h0 xM hG ht
   cases hd:p.hand[j].bM
   ·rw[hd] at e2 HT;have HN:Hid (uub s p A w i (j+1) a' n wr):=HG.out.same (by rw[HT.out];simp);clear hd;go_wp2;go_roundw
    case rel=>exact⟨j+1,a',n,oM,gN,HN.out⟩
    case measure=>simp[intOf];omega
   ·rw[hd] at e2 HT;have HTE:Hid (bU (p.hand.take (j+1))=bU (p.hand.take j)++[p.hand[j].pl]):=by show _=_;rw[HT.out];simp
    obtain⟨x,hx⟩:∃x,p.hand[j].pl=x:=⟨_,rfl⟩
    rw[hx] at e0 HTE;clear hd HT hx;have ua:=HG.out.a7;have k3:wr.cell? ⟨w.heap.size,3,none⟩=some (.slice a' (bU (p.hand.take j)).length n):=by rw[aR ua];rfl
    have Pa:wr.frozen? ⟨w.heap.size,3,none⟩=false:=cG ua 3;have Kf:=ae HG.out.own;clear ua;obtain⟨n0,fp⟩:∃n0,(bU (p.hand.take j)).length=n0:=⟨_,rfl⟩
    have gz:=ae fp;rw[fp] at k3 hL Kf;clear fp;go_upto_region 12 with fail;have HS:Hid (zW s w.heap.size (.slice (some ⟨bh,oh,none⟩) p.hand.length A.hc) bh oh j x (.slice a' n0 n) wr.drew):=⟨Dt,e0,k3,Pa,lk⟩
    have HSW:Hid (zW s w.heap.size (.slice (some ⟨bh,oh,none⟩) p.hand.length A.hc) bh oh j x (.slice a' n0 n) wr):=⟨Dt,e0,k3,Pa,lk⟩
    refine eL (S:=zW s w.heap.size (.slice (some ⟨bh,oh,none⟩) p.hand.length A.hc) bh oh j x (.slice a' n0 n)) (d:=17) kR ?_;refine tK 0 rfl HS.out ?_;(try simp only[Act.put,dP]);refine tK 1 rfl HS.out ?_;(try simp only[Act.put,dP]);refine tK 2 rfl HS.out ?_;(try simp only[Act.put,dP]);refine tK 3 rfl HS.out ?_;(try simp only[Act.put,dP]);refine tK 4 rfl HS.out ?_;(try simp only[Act.put,dP]);refine tK 5 rfl HS.out ?_;(try simp only[Act.put,dP]);refine tK 6 rfl HS.out ?_;(try simp only[Act.put,dP]);refine tK 7 rfl HS.out ?_;(try simp only[Act.put,dP]);refine tK 8 rfl HS.out ?_;(try simp only[Act.put,dP]);refine tK 9 rfl HS.out ?_;(try simp only[Act.put,dP]);refine tK 10 rfl HS.out ?_;(try simp only[Act.put,dP]);refine tK 11 rfl HS.out ?_;(try simp only[Act.put,dP]);refine tK 12 rfl HS.out ?_;(try simp only[Act.put,dP]);refine bn (i:=13) rfl kR ?_;intro K hK;go_simp;refine hK _ _ (fun _=>HS.out.later (aA _ _)) ?_
    (try simp only[Act.put,dP])
    clear hK;refine bn (i:=14) rfl kR ?_;intro K hK;refine eM rfl (.tmp 91) (.tmp 100) 122 rfl (w.heap.size+1) 3 iI (i6 0) 1 8 underlying122 EO.out.1 EO.out.2.1 EO.out.2.2.1 EO.out.2.2.2 rfl dM (.slice a' n0 n) n0 (iw (bU (p.hand.take j))) rfl (mI Kf.out bQ) (some ⟨wr.heap.size,0,none⟩) 1 1 [i6 x] rfl (XD sM) (by unfold maxLen;omega) oM (by simp;omega) ?_;intro v2 w5 aT aC;obtain⟨a2,wL,rfl,-⟩:=iA aT;have jV:Hid (∃w4,bL wr w4/\Below (w.heap.size+1) w4 w5):=⟨_,bQ,aC⟩
    have eO:=ae ((HSW.out.later bQ).base aC oM oM oM);obtain⟨s0,s1,s2,s3,s4⟩:=eO.out;have OG:Hid (uub s p A w i (j+1) a2 wL (w5.setCell ⟨w.heap.size,3,none⟩ (.slice a2 (n0+1) wL))):=by
     obtain⟨w4,b4,b5⟩:=jV.out;have:=HG.out.more HTE.out b4 b5 (a2:=a2) (c2:=wL) (by rw[gz.out];exact aT);rw[gz.out] at this;exact this
    refine hK _ _ (fun _=>eO.out) ?_
    (try simp only[Act.put,dP])
    clear hK;refine bn (i:=15) rfl kR ?_;intro K hK;go_simp;refine hK _ _ (fun _=>eO.out) ?_
    (try simp only[Act.put,dP])
    clear hK;refine bn (i:=16) rfl kR ?_;intro K hK;go_simp;refine hK _ _ (fun _=>eO.out) ?_
    (try simp only[Act.put,dP])
    clear hK;refine bn (i:=17) rfl kR ?_;intro K hK;go_simp;refine hK _ _ (fun h=>absurd rfl h) ?_
    (try simp only[Act.put,dP])
    clear hK;refine fw kR ?_ _;clear s0 s1 s2 s3 s4 aT aC jV HS eO HSW Dt e0 k3 Pa Kf;go_wp2;go_roundw
    case rel=>exact⟨j+1,a2,wL,oM,gN,OG.out⟩
    case measure=>simp[intOf];omega
  ·obtain rfl:j=p.hand.length:=oM;obtain⟨A',hs,hc⟩:=nj.out _ _ _ hG;have HS:=ae hs;have HC:=ae hc;have r11:=ai hG.bel fE;have rf11:=(hG.bel.frozen (p:=⟨s,11+i,none⟩) hl).trans f11;clear hs hc nj hG fE f11;generalize p.hand.length=hn at *;go_wp2_with fail;refine cM (HE.out _ A' HS.out HC.out) ?_;intro w5 hok;have dW:=ae hok;clear hok;go_wp2;go_ret;exact⟨rfl,dW.out⟩
theorem Et(s:Nat)(p:Sk)(A:Rs)(w:World)(h:bN s p A w)(hI:bg p)(hL:aQ p)(hT:p.tags<=3999999999999999990)(hU:p.az<=3999999999999999990)(c kind pl:Int)(data:ByteArray)(n:Int)(q:Sk)(hq:p.nf.ask c kind pl data=(n,q)) :
 Calls prog 50 #[.pointer (some ⟨s,0,none⟩),i6 c,i6 kind,i6 pl,.string data] w fun e w'=>e=.returned (i6 n)/\ed 0 s p A w w' q:=by
 unfold Sk.ask at hq
 by_cases h0:dy c kind pl data=0
 ·rw[aaP (by simpa using h0)] at hq;obtain⟨hz,ho⟩:=VQ h0;obtain⟨i,rfl⟩:∃i:Nat,c=i:=⟨c.toNat,oM⟩
  have hi:i<3:=oM
  cases hw:p.waits i
  ·rw[aaP (by rw[show p.nf.waits (i:Int)=p.waits i from rfl,hw];exact aa7)] at hq;simp only[acK] at hq;obtain⟨rfl,hq⟩:=hq;rw[abG] at hq;have yg:=(AS p i hi).1 hw;have fC:A.ka i=none:=by
    cases e:A.ka i with
    |none=>rfl
    |some k=>exact absurd yg (h.mem.asks i hi k e).kind
   have he:=R5 (s:=s) (A:=A) (w:=w) (i:=i) hI hL hT hU ho q hq
   rcases ho.kd with e|e|e
   ·exact Pk s p A w h i hi kind pl data ho (il e) fC q he
   ·exact Pk s p A w h i hi kind pl data ho (ir e) fC q he
   ·subst e;obtain rfl:=ho.sy rfl;obtain rfl:=ho.em dM;exact UB s p A w h hI i hi fC q he
  ·rw[aaV (show p.nf.waits (i:Int)=true from hw)] at hq;simp only[acK] at hq;obtain⟨rfl,rfl⟩:=hq;refine cM (UA s p A w h i hi kind pl data ho ((Cy p i hi).1 hw)) ?_;intro w' rfl;exact⟨rfl,p,A,bH.cX h (aX _ _),rfl,aaO _⟩
 ·rw[aaV h0] at hq;simp only[acK] at hq;obtain⟨rfl,rfl⟩:=hq;exact aan s p A w h c kind pl data h0
end Go.Proofs.YtlhgjplipgandaaGreatDoor
