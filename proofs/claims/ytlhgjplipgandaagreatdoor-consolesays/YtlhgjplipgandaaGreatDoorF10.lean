/- Joined. -/
import Derived.Deep.RegionLaw
import Derived.Lib.Overlaps
import Derived.Lib.AppendZeros
import Derived.Test.YtlhgjplipgandaaGreatDoorF3
import Derived.Test.YtlhgjplipgandaaGreatDoorF9
set_option maxRecDepth 100000
set_option maxHeartbeats 8000000
set_option linter.unusedSimpArgs false
set_option linter.unusedSectionVars false
namespace Go.Proofs.YtlhgjplipgandaaGreatDoor
open Tryz
section
open Go.RowKit Go.BigFrame
theorem Zp(w:World):(zeroValue 137).run prog w=.ok (.agg #[i6 0,.string bE,.bool false,i6 0]) w:=Tryz.zeroValue137 w
theorem C8:(prog.info? 137).map (·.size)=some 4:=kR
theorem yW(b n c i:Nat)(w:World)(au:i<n)(qW:¬c=i+1):(Instr.slice 91 (.slice (some ⟨b,0,none⟩) n c) (some (i6 ((i:Int)+1))) none none).run prog w=.ok (.slice (some ⟨b,(i+1)*4,none⟩) (n-(i+1)) (c-(i+1))) w:=by
 have h1:(0:Int)<=(i:Int)+1:=oM;have h2:(i:Int)+1<=(n:Int):=oM
 simp[go_sem,h1,h2,qW]
theorem Jh(b n c i:Nat)(w:World)(au:i<n)(bS:n<=c):(Instr.slice 91 (.slice (some ⟨b,0,none⟩) n c) none (some (i6 (i:Int))) none).run prog w=.ok (.slice (some ⟨b,0,none⟩) i c) w:=by
 have h2:i<=c:=oM
 simp[go_sem,h2]
theorem Rk(b n i:Nat)(w:World)(au:n=i+1):(Instr.slice 91 (.slice (some ⟨b,0,none⟩) n (i+1)) (some (i6 ((i:Int)+1))) none none).run prog w=.ok (.slice (some ⟨b,0,none⟩) 0 0) w:=by
 subst au;have h1:(0:Int)<=(i:Int)+1:=oM
 simp[go_sem,h1]
theorem Gq(b n c i:Nat)(w:World)(au:i<n)(bS:n<=c)(hm:c<=9223372036854775807):(Instr.slice 91 (.slice (some ⟨b,0,none⟩) (n-1) c) (some (i6 ((n-1:Nat):Int))) (some (i6 (n:Int))) none).run prog w=.ok (.slice (some ⟨b,(n-1)*4,none⟩) 1 (c-(n-1))) w:=by
 have h1:((n-1:Nat):Int)<=(n:Int):=oM;have h2:¬c=n-1:=oM;have h3:n-(n-1)=1:=oM
 simp[go_sem,h1,h2,h3,bS]
def zs4:List Value:=(Builtin.zeroCells (Value.agg #[i6 0,.string bE,.bool false,i6 0]).cells 1).toList
theorem RB:zs4.length=4:=by simp[zs4,Builtin.zeroCells,Value.cells]
theorem pH{w:World}{b:Nat}{cur:List Value}{t:TypeId}(hg:w.heap[b]?=some (.cells cur.toArray t (0,0)))(o j:Nat)(v:Value)(h:cur[o+j]?=some v):w.cell? (Addr.add ⟨b,o,none⟩ j)=some v:=by
 rw[tT]
 simp[World.cell?,hg,h]
theorem Sy(b n c k:Nat)(cur xs:List Value)(base:Nat)(w:World)(kI:base<=b)(hg:w.heap[b]?=some (.cells cur.toArray 137 (0,0)))(fR:cur.length=c*4)(hk:k<n)(jO:n<=c)(ig:c<=9223372036854775807)
 (lF:xs.length=(n-(k+1))*4) (hx:∀j v,xs[j]?=some v->cur[(k+1)*4+j]?=some v) (h1:∀v∈xs,v.oneCell'=true) :
 Calls prog 197 #[.slice (some ⟨b,0,none⟩) n c,i6 k,i6 ((k:Int)+1)] w fun e w' =>
  e=.returned (.slice (some ⟨b,0,none⟩) (n-1) c)/\w'.heap[b]?=some (.cells (splice (splice cur (k*4) xs) ((n-1)*4) zs4).toArray 137 (0,0))/\Below base w w':=by
 have q1:(k:Int)+1<=(n:Int):=oM;have q2:(0:Int)<=(k:Int)+1:=oM;have q3:¬((k:Int)=(k:Int)+1):=oM;have q4:(k:Int)<=(k:Int)+1:=oM;have HC:=aB fR;have HX:=aB hx;have HL:=aB lF;have HG:=aB hg;have H1:=aB h1;clear fR hx lF hg h1;have Ek:=fun w=>Jh b n c k w hk jO
 have Aw:=fun w=>Gq b n c k w hk jO ig
 have hcut:(splice cur (k*4) xs).length=c*4:=by rw[length_splice _ _ _ (by rw[HC.out,HL.out];omega),HC.out]
 have HS:=aB hcut;clear hcut;have BZ:k+(n-(k+1))=n-1:=oM;have wh:=aB BZ;clear BZ
 by_cases qW:c=k+1
 ·have hnk:n=k+1:=oM;subst qW;subst hnk;clear Aw;have Aw:=fun w=>Gq b (k+1) (k+1) k w hk jO ig
  simp only[afB] at Aw HS;rw[show k+1-k=1 from oM] at Aw;have Av:=fun w=>Rk b (k+1) k w rfl
  obtain rfl:xs=[]:=aaZ (by rw[HL.out];omega);go_enter func197,ntmps197;go_wp2_with fail
  go_region_law (refine zO rfl (.tmp 22) (.tmp 25) 91 rfl 137 4 underlying91 C8 b k (k+1) (some ⟨b,0,none⟩) 0 0 (by simp[Act.eval,Act.put]) (by simp[Act.eval,Act.put]) cur 137 [] HG.out rfl oM (fun h=>absurd h (aa0 _)) (by rw[HC.out];simp;omega) sM base kI ?_;intro w1 G1 aw)
  obtain⟨w2,fR,G2,aC⟩:=Cn (P:=prog) w1 91 137 0 _ 4 underlying91 Zp rfl dM b (k*4) 1 1 _ 137 G1.out oM (by have:=HS.out;omega) oM;have qO:=aB G2;have bT:=aB (aC base kI);clear G2 aC;go_wp2;go_ret;exact⟨rfl,qO.out,((aX _ _).drew.trans aw).trans bT.out⟩
 ·have Av:=fun w=>yW b n c k w hk qW
  go_enter func197,ntmps197;go_wp2_with fail
  go_region_law (refine zO rfl (.tmp 22) (.tmp 25) 91 rfl 137 4 underlying91 C8 b k c (some ⟨b,(k+1)*4,none⟩) (n-(k+1)) (c-(k+1)) (by simp[Act.eval,Act.put]) (by simp[Act.eval,Act.put]) cur 137 xs HG.out HL.out oM (fun _=>⟨_,rfl,fun j v hj=>pH HG.out _ _ _ (HX.out j v hj)⟩) (by rw[HC.out,HL.out];omega) H1.out base kI ?_;intro w1 G1 aw;rw[wh.out])
  obtain⟨w2,fR,G2,aC⟩:=Cn (P:=prog) w1 91 137 0 _ 4 underlying91 Zp rfl dM b ((n-1)*4) 1 (c-(n-1)) _ 137 G1.out oM (by rw[HS.out];omega) oM;have qO:=aB G2;have bT:=aB (aC base kI);clear G2 aC;go_wp2;go_ret;exact⟨rfl,qO.out,((aX _ _).drew.trans aw).trans bT.out⟩
theorem xI{α:Type}(L cs:List α)(o:Nat)(h:o<=L.length):(splice L o cs).take (o+cs.length)=L.take o++cs:=by
 have e:(L.take o).length=o:=by rw[abm];omega
 rw[splice,<-abp,abT (by rw[aaQ,e];exact aaO _),abv (by rw[aaQ,e];exact aaO _)]
theorem yE{α:Type}(L cs:List α)(o m:Nat)(h:o<=L.length)(hm:m<=o):(splice L o cs).take m=L.take m:=by
 have e:(L.take o).length=o:=by rw[abm];omega
 rw[splice,abT (by rw[e];exact hm),afJ,ac1 hm]
theorem Ds(l:List Bf)(k:Nat):(aU l).take (k*4)=aU (l.take k):=by
 by_cases hk:k<=l.length
 ·have e:=bZ (l.take k) (l.drop k);rw[ab8] at e;have hl:(aU (l.take k)).length=k*4:=by rw[fj,abm,ac1 hk]
  rw[e,abT oM,abv oM]
 ·rw[abv (by rw[fj];omega),abv oM]
theorem Dr(l:List Bf)(k j:Nat):(aU (l.drop k))[j]?=(aU l)[k*4+j]?:=by
 by_cases hk:k<=l.length
 ·have e:=bZ (l.take k) (l.drop k);rw[ab8] at e;have hl:(aU (l.take k)).length=k*4:=by rw[fj,abm,ac1 hk]
  rw[e,abZ oM,hl]
  congr 1;omega
 ·rw[acA oM,acC (by simp[aU]),acC (by rw[fj];omega)]
theorem aew(l:List Bf)(b c k base:Nat)(w:World)(hk:k<l.length)(hN:fH base w (some ⟨b,0,none⟩) c l) :
 Calls prog 197 #[.slice (some ⟨b,0,none⟩) l.length c,i6 k,i6 ((k:Int)+1)] w fun e w' =>
  e=.returned (.slice (some ⟨b,0,none⟩) (l.length-1) c)/\fH base w' (some ⟨b,0,none⟩) c (l.eraseIdx k)/\Below base w w':=by
 have hb:=hN.here.2
 rcases hN.own.2 with⟨h,_⟩|⟨g,cap,cur,hv,hg,hh,jO,ig,hcs,ht⟩
 ·cases h
 ·simp only[abV,aa4,aci,acS,afs] at hv;obtain⟨rfl,rfl⟩:=hv;have Ar:c<=9223372036854775807:=by unfold maxLen at ig;omega
  have fR:cur.toList.length=c*4:=by rw[ab6];exact hcs
  have lF:(aU (l.drop (k+1))).length=(l.length-(k+1))*4:=by rw[fj,ac5]
  refine(Sy b l.length c k cur.toList (aU (l.drop (k+1))) base w hg (by rw[afk];exact hh) fR hk jO Ar lF (fun j v hj=>?_) (n9 _)).mono ?_
  ·rw[Dr,<-ht,agc] at hj
   split at hj
   ·exact hj
   ·cases hj
  ·rintro e w' ⟨rfl,gX,hB⟩;refine⟨rfl,?_,hB⟩;have Ba:(l.eraseIdx k).length=l.length-1:=by rw[ab7,aaV hk]
   have tQ:(splice cur.toList (k*4) (aU (l.drop (k+1)))).length=c*4:=by rw[length_splice _ _ _ (by rw[fR,lF];omega),fR]
   have ho:w'.ownsRow base 137 4 (.slice (some ⟨b,0,none⟩) (l.eraseIdx k).length c) (l.eraseIdx k).length (aU (l.eraseIdx k)):=by
    refine⟨fj _,ir ⟨b,c,_,rfl,hg,gX,oM,ig,?_,?_⟩⟩
    ·rw[acB,length_splice _ _ _ (by rw[tQ,RB];omega),tQ]
    ·rw[afO,Ba,yE _ _ _ _ (by rw[tQ];omega) (aaO _),show(l.length-1)*4=k*4+(aU (l.drop (k+1))).length by rw[lF];omega,xI _ _ _ oM,ack,bZ,<-Ds,<-ht,afJ,ac1 oM]
   obtain⟨a',c',hv,BO⟩:=fQ ho rfl oM;simp only[abV,afs] at hv;obtain⟨rfl,rfl⟩:=hv;exact BO
def zi(x:Bf):List Value:=[x.cell 0,x.cell 1,x.cell 2,x.cell 3]
theorem Ac(x:Bf):aU [x]=zi x:=rfl
theorem WM(l:List Bf)(a:Option Addr)(c base vb:Nat)(x:Bf)(tv:TypeId)(w:World)(h8:l.length<=1000)(kx:base<=w.heap.size)(hN:fH base w a c l)(hv:w.heap[vb]?=some (.cells (zi x).toArray tv (0,0))) :
 Calls prog 199 #[.slice a l.length c,i6 l.length,.slice (some ⟨vb,0,none⟩) 1 1] w fun e w' =>
  ∃a' c',e=.returned (.slice a' (l.length+1) c')/\fH base w' a' c' (l++[x])/\Below base w w':=by
 obtain⟨i,hi,de,cC,cF⟩:=eS yq;have R:gg w 4 (some ⟨vb,0,none⟩) 1 1 (aU [x]):=⟨rfl,n9 _,ir ⟨_,rfl,fun j u hj=>by rw[Ac] at hj;exact pH hv 0 j u (by simpa using hj)⟩⟩
 have HL:Hid (l.length<=1000):=h8;have HO:=aB hN.own;have aem:=aB hN.nil;have cp:=hN.cap;clear hN hv
 cases a with
 |none =>
  obtain rfl:=aem.out rfl;have h0:l.length=0:=oM;obtain rfl:=aaZ h0;go_enter func199,ntmps199;go_wp2_with(at_builtin;refine aP rfl _ _ 91 rfl base 137 i _ 4 40 underlying91 hi de cC cF rfl dM _ 0 [] rfl HO.out (some ⟨vb,0,none⟩) 1 1 (aU [x]) rfl R (by unfold maxLen;omega) oM kx ?_;intro v1 w2 aO aw)
  all_goals
   rw[abc,abJ] at aO;obtain⟨a',c',rfl,BO⟩:=fQ (l:=[x]) aO rfl (by simp;try omega);have HN:=aB BO;clear BO;go_wp2;go_ret;exact⟨a',c',rfl,HN.out,aw⟩
 |some ad =>
  go_enter func199,ntmps199;go_wp2_with(at_builtin;refine aP rfl _ _ 91 rfl base 137 i _ 4 40 underlying91 hi de cC cF rfl dM _ l.length (aU l) rfl HO.out (some ⟨vb,0,none⟩) 1 1 (aU [x]) rfl R (by unfold maxLen;omega) oM kx ?_;intro v1 w2 aO aw)
  all_goals
   rw[<-bZ] at aO;obtain⟨a',c',rfl,BO⟩:=fQ (l:=l++[x]) aO sM (by simp;try omega);have e:(l++[x]).length=l.length+1:=sM;have HN:=aB BO;clear BO;rw[e];clear e;go_wp2;go_ret;exact⟨a',c',rfl,HN.out,aw⟩
theorem aeb(vb b o lb cb:Nat)(w:World)(X cur:List Value)(tv tr:TypeId)(aE:vb ≠ b)(hv:w.heap[vb]?=some (.cells X.toArray tv (0,0)))(hg:w.heap[b]?=some (.cells cur.toArray tr (0,0)))(h0:cur.length ≠ 0) :
 (callFunc 226 #[.slice (some ⟨vb,0,none⟩) 1 1,.slice (some ⟨b,o,none⟩) lb cb]).run prog w=.ok (.value (.bool false)) w:=by
 rw[run_callFunc_extern func226 kR kR kR (e:=Extern.SlicesOverlaps.overlaps #[91,91] #[4]) kR,
  Lib.run_overlaps_apart w 91 4 137 underlying91 4 Tryz.sizeOf137 ⟨vb,0,none⟩ ⟨b,o,none⟩ 1 1 lb cb aE tv tr X.length cur.length (by simp[World.shape?,hv]) (by simp[World.shape?,hg]) h0 (by simp[World.frozen?,hv]) (by simp[World.frozen?,hv])]
 rfl
theorem N4(b n c:Nat)(w:World)(l8:n+1<=c):(Instr.slice 91 (.slice (some ⟨b,0,none⟩) n c) none (some (i6 ((n:Int)+1))) none).run prog w=.ok (.slice (some ⟨b,0,none⟩) (n+1) c) w:=by
 have h1:(0:Int)<=(n:Int)+1:=oM;have h2:(n:Int)+1<=(c:Int):=oM;have h3:((n:Int)+1).toNat=n+1:=oM
 simp[go_sem,h1,h2,h3]
theorem yB(b n c i:Nat)(w:World)(au:i<n)(bS:n<=c):(Instr.slice 91 (.slice (some ⟨b,0,none⟩) n c) (some (i6 (i:Int))) none none).run prog w=.ok (.slice (some ⟨b,i*4,none⟩) (n-i) (c-i)) w:=by
 have h1:i<=n:=oM;have h2:¬c=i:=oM
 simp[go_sem,h1,h2]
theorem Qj(b n c i vb:Nat)(cur xs X:List Value)(tv:TypeId)(base:Nat)(w:World)(kI:base<=b)(aE:vb ≠ b)(hg:w.heap[b]?=some (.cells cur.toArray 137 (0,0)))(fR:cur.length=c*4)(hi:i<n)(l8:n+1<=c)(ig:c<=9223372036854775807)
 (lF:xs.length=(n-i)*4) (hx:∀j v,xs[j]?=some v->cur[i*4+j]?=some v) (h1:∀v∈xs,v.oneCell'=true) (hv:w.heap[vb]?=some (.cells X.toArray tv (0,0))) (IE:X.length=4) (BQ:∀v∈X,v.oneCell'=true) :
 Calls prog 199 #[.slice (some ⟨b,0,none⟩) n c,i6 i,.slice (some ⟨vb,0,none⟩) 1 1] w fun e w' =>
  e=.returned (.slice (some ⟨b,0,none⟩) (n+1) c)/\w'.heap[b]?=some (.cells (splice (splice cur ((i+1)*4) xs) (i*4) X).toArray 137 (0,0))/\Below base w w':=by
 have q1:¬((i:Int)=(n:Int)):=oM;have q2:¬((c:Int)<(n:Int)+1):=oM;have sW:IntKind.i64.wrap ((n:Int)+1)=(n:Int)+1:=by rw[abr];omega
 have hwi:IntKind.i64.wrap ((i:Int)+1)=(i:Int)+1:=by rw[abr];omega
 have hov:=fun o lb cb=>aeb vb b o lb cb w X cur tv 137 aE hv hg oM
 have eI:=fun w=>N4 b n c w l8
 have qC:=fun w=>yW b (n+1) c i w oM oM
 have Bb:=fun w=>yB b (n+1) c i w oM l8
 have kX:=fun w=>yB b n c i w hi oM
 have e1:cur.length=c*4/\xs.length=(n-i)*4/\X.length=4:=⟨fR,lF,IE⟩
 have HE:=aB e1;have HX:=aB hx;have HG:=aB hg;have H1:=aB h1;have HV:=aB hv;have AW:=aB BQ;have HM:Hid (Nat.min (n+1-i) (n+1-(i+1))=n-i):=(by show Nat.min (n+1-i) (n+1-(i+1))=n-i;simp only[Nat.min_def];split<;>omega)
 have HM2:Hid (Nat.min 1 (n+1-i)=1):=(by show Nat.min 1 (n+1-i)=1;simp only[Nat.min_def];split<;>omega)
 clear e1 fR hx lF hg h1 hv IE BQ;go_enter func199,ntmps199;go_wp2_with fail
 go_region_law (refine Cv rfl (.tmp 73) (.tmp 76) 91 91 rfl 137 4 underlying91 C8 (some ⟨b,(i+1)*4,none⟩) (some ⟨b,i*4,none⟩) (n+1-(i+1)) (c-(i+1)) (n+1-i) (c-i) (by simp[Act.eval,Act.put]) (by simp[Act.eval,Act.put]) b ((i+1)*4) cur 137 xs HG.out (by rw[HE.out.2.1,HM.out]) (fun _=>⟨rfl,_,rfl,fun j v hj=>pH HG.out _ _ _ (HX.out j v hj)⟩) (by rw[HE.out.1,HE.out.2.1];omega) H1.out base kI ?_;intro w1 n1 G1 aw K1)
 have HV1:Hid (w1.heap[vb]?=some (.cells X.toArray tv (0,0))):=(K1.out vb aE).trans HV.out;have HS:Hid ((splice cur ((i+1)*4) xs).length=c*4):=(by show _=_;rw[length_splice _ _ _ (by rw[HE.out.1,HE.out.2.1];omega),HE.out.1])
 obtain⟨w2,hcp,G2,aC,K2⟩:=yU (P:=prog) w1 91 91 3 137 4 (some ⟨b,i*4,none⟩) (some ⟨vb,0,none⟩) (n+1-i) (c-i) 1 1 b (i*4) _ 137 X underlying91 C8 G1.out (by rw[HE.out.2.2,HM2.out]) (fun _=>⟨rfl,_,rfl,fun j v hj=>pH HV1.out _ _ _ (by simpa using hj)⟩) (by rw[HS.out,HE.out.2.2];omega) AW.out;have qO:=aB G2;have bT:=aB (aC base kI);clear G2 aC K2;go_wp2;go_ret;exact⟨rfl,qO.out,((aX _ _).drew.trans aw).trans bT.out⟩
theorem TQ(b n i vb:Nat)(ys xs X:List Value)(tv:TypeId)(w:World)(hi:i<n)(hn:n<=1000)
 (hyl:ys.length=i*4) (hy:∀j v,ys[j]?=some v->w.cell? ⟨b,j,none⟩=some v) (au:b<w.heap.size)
 (lF:xs.length=(n-i)*4) (hx:∀j v,xs[j]?=some v->w.cell? ⟨b,i*4+j,none⟩=some v) (h1:∀v∈xs,v.oneCell'=true) (hv:w.heap[vb]?=some (.cells X.toArray tv (0,0))) (qZ:vb<w.heap.size) (IE:X.length=4) (BQ:∀v∈X,v.oneCell'=true) :
 Calls prog 199 #[.slice (some ⟨b,0,none⟩) n n,i6 i,.slice (some ⟨vb,0,none⟩) 1 1] w fun e w' =>
  ∃G uF,e=.returned (.slice (some ⟨w.heap.size,0,none⟩) (n+1) G)/\n+1<=G/\G<=maxLen/\uF.length=G*4/\uF.take (i*4)=ys/\w'.heap[w.heap.size]?=some (.cells (splice (splice uF (i*4) X) ((i+1)*4) xs).toArray 137 (0,0))/\bL w w':=by
 have q1:¬((i:Int)=(n:Int)):=oM;have q2:((n:Int)<(n:Int)+1):=oM;have sW:IntKind.i64.wrap ((n:Int)+1)=(n:Int)+1:=by rw[abr];omega
 have hwi:IntKind.i64.wrap ((i:Int)+1)=(i:Int)+1:=by rw[abr];omega
 have oN:IntKind.i64.wrap ((n:Int)+1-(i:Int))=(n:Int)+1-(i:Int):=by rw[abr];omega
 obtain⟨i0,iT,de,zD,TF⟩:=eS yq;have hold:(Builtin.firstCells i0.size i (.slice (some ⟨b,0,none⟩) i n)).run prog w.drew=.ok ys.toArray w.drew:=by
  rw[zD];exact run_firstCells_some w.drew 4 i ⟨b,0,none⟩ i n ys oM (fun j v hj=>by rw[tT,abc];exact hy j v hj)
 have BX:i+(n+1-i)=n+1:=oM;have hkk:(n:Int)+1-(i:Int)=((n+1-i:Nat):Int):=oM;obtain⟨G,hG⟩:∃G,G=grownCap w (n+1) n 137:=⟨_,rfl⟩
 obtain⟨uF,P4⟩:∃uF:List Value,uF=(ys.toArray++(Builtin.zeroCells (Value.agg #[i6 0,.string bE,.bool false,i6 0]).cells (n+1-i))++(Builtin.zeroCells (Value.agg #[i6 0,.string bE,.bool false,i6 0]).cells (G-(n+1)))).toList:=⟨_,rfl⟩
 have hrz:∀ty,(Builtin.append_ #[91,3] ty #[.slice (some ⟨b,0,none⟩) i n,i6 ((n:Int)+1-(i:Int))]).run prog w =
  .ok (.slice (some ⟨w.heap.size,0,none⟩) (n+1) G) (w.drew.alloc (.cells uF.toArray 137)):=fun ty=>by
  have h:=Lib.run_append_grow_zeros w 91 3 ty 137 i0 _ .i64 .i64 underlying91 underlying3 iT de (some ⟨b,0,none⟩) i n ys hold (n+1-i) oM oM oM oM (by rw[TF];omega) (by rw[TF,BX];exact growslice_fits oM oM);rw[BX,<-hG] at h;rw[hkk,h,P4,afk]
 have mE:n+1<=G:=by rw[hG];exact grownCap_ge w _ _ _
 have YI:G<=maxLen:=by rw[hG];exact grownCap_le_maxLen w (n+1) n _ (by unfold maxLen;omega)
 have aeE:G<=9223372036854775807:=by unfold maxLen at YI;omega
 have Fk:uF.length=G*4:=by
  rw[P4];simp only[Array.size_append,ab6,size_zeroCells,acB,hyl]
  simp[Value.cells]
  omega
 have YN:uF.take (i*4)=ys:=by rw[P4,Array.toList_append,Array.toList_append,afO,abp,abT oM,abv oM]
 clear P4 hold hG hkk BX;obtain⟨W1,A9⟩:∃W1,W1=w.drew.alloc (.cells uF.toArray 137):=⟨_,rfl⟩
 rw[<-A9] at hrz;have g1:W1.heap[w.heap.size]?=some (.cells uF.toArray 137 (0,0)):=by rw[A9];exact acm w.drew _
 have b1:bL w W1:=by rw[A9];exact((aX _ _).drew).alloc (aaO _) _
 have o1:∀k,k<w.heap.size->W1.heap[k]?=w.heap[k]?:=fun k hk=>by rw[A9];exact Below.heap_alloc w.drew _ k hk
 have z1:W1.heap.size=w.heap.size+1:=by rw[A9];simp
 have e1:uF.length=G*4/\xs.length=(n-i)*4/\X.length=4:=⟨Fk,lF,IE⟩
 clear A9;have hM2:Nat.min 1 (n+1-i)=1:=by simp only[Nat.min_def];split<;>omega
 have hM:Nat.min (n-i) (n+1-(i+1))=n-i:=by simp only[Nat.min_def];split<;>omega
 have hv1:W1.heap[vb]?=some (.cells X.toArray tv (0,0)):=(o1 vb qZ).trans hv;obtain⟨W2,wU,g2,bb2,o2⟩:=yU (P:=prog) W1 91 91 3 137 4 (some ⟨w.heap.size,i*4,none⟩) (some ⟨vb,0,none⟩) (n+1-i) (G-i) 1 1 w.heap.size (i*4) _ 137 X underlying91 C8 g1 (by rw[hM2,IE]) (fun _=>⟨rfl,_,rfl,fun j v hj=>pH hv1 _ _ _ (by simpa using hj)⟩) (by rw[Fk,IE];omega) BQ;have s2:(splice uF (i*4) X).length=G*4:=by rw[length_splice _ _ _ (by rw[Fk,IE];omega),Fk]
 have src:∀j v,xs[j]?=some v->W2.cell? (Addr.add ⟨b,i*4,none⟩ j)=some v:=fun j v hj=>by
  rw[tT];have:=hx j v hj;simp only[World.cell?] at this ⊢;rw[o2 b oM,o1 b au];exact this
 have HE:=aB e1;have HS:=aB src;have qO:=aB g2;have H1:=aB h1;have HT:=aB YN;have HB:=aB (b1.trans (bb2 w.heap.size (aaO _)));have EP:=aB s2;have HM:=aB hM;have eI:=fun w'=>Jh b n n i w' hi (aaO _)
 have qC:=fun w'=>yB w.heap.size (n+1) G i w' oM mE
 have Bb:=fun w'=>yW w.heap.size (n+1) G i w' oM oM
 have kX:=fun w'=>yB b n n i w' hi (aaO _)
 have hcp1:=wU;clear wU e1 src g2 h1 YN b1 bb2 s2 hM o1 o2 z1 Fk lF IE hx hy hyl hv hv1 g1 BQ hM2 aeE;go_enter func199,ntmps199;go_wp2_with(at_builtin;refine Lib.wpList_append_run _ rfl _ _ _ _ rfl _ _ rfl rfl _ _ (hrz _) ?_)
 go_region_law (refine Cv rfl (.tmp 50) (.tmp 53) 91 91 rfl 137 4 underlying91 C8 (some ⟨w.heap.size,(i+1)*4,none⟩) (some ⟨b,i*4,none⟩) (n+1-(i+1)) (G-(i+1)) (n-i) (n-i) (by simp[Act.eval,Act.put]) (by simp[Act.eval,Act.put]) w.heap.size ((i+1)*4) (splice uF (i*4) X) 137 xs qO.out (by rw[HE.out.2.1,HM.out]) (fun _=>⟨rfl,_,rfl,HS.out⟩) (by rw[EP.out,HE.out.2.1];omega) H1.out w.heap.size (aaO _) ?_;intro w3 n3 G3 bo K3)
 go_wp2;go_ret;exact⟨G,uF,rfl,mE,YI,HE.out.1,HT.out,G3.out,(HB.out.drew).trans bo⟩
theorem aeV(l:List Bf)(a:Option Addr)(c base vb i:Nat)(x:Bf)(tv:TypeId)(w:World)(hi:i<=l.length)(h8:l.length<=1000)(kx:base<=w.heap.size)(hN:fH base w a c l)(hv:w.heap[vb]?=some (.cells (zi x).toArray tv (0,0)))
 (aE:∀b,a=some ⟨b,0,none⟩->vb ≠ b) :
 Calls prog 199 #[.slice a l.length c,i6 i,.slice (some ⟨vb,0,none⟩) 1 1] w fun e w' =>
  ∃a' c',e=.returned (.slice a' (l.length+1) c')/\fH base w' a' c' (l.take i++x::l.drop i)/\Below base w w':=by
 have qZ:vb<w.heap.size:=by
  rcases adI vb w.heap.size with h'|h'
  ·exact h'
  ·rw[ac9 h'] at hv;cases hv
 by_cases hY:i=l.length
 ·subst hY;rw[aff,List.drop_length];exact WM l a c base vb x tv w h8 kx hN hv
 ·have au:i<l.length:=oM;have h0:l ≠ []:=by rintro rfl;exact absurd au (aa0 _)
  obtain⟨b,rfl,kI,aeG,hfz⟩:=hN.place h0;have aE:=aE b rfl;have yi:(l.take i++x::l.drop i).length=l.length+1:=by simp;omega
  have Fq:aU (l.take i++x::l.drop i)=aU (l.take i)++zi x++aU (l.drop i):=by
   rw[show l.take i++x::l.drop i=l.take i++[x]++l.drop i from sM,bZ,bZ,Ac]
  have tL:(aU (l.drop i)).length=(l.length-i)*4:=by rw[fj,ac5]
  have BQ:∀v∈zi x,v.oneCell'=true:=by rw[<-Ac];exact n9 _
  rcases hN.own.2 with⟨h,_⟩|⟨g,cap,cur,hvv,hg,hh,jO,ig,hcs,ht⟩
  ·cases h
  ·simp only[abV,aa4,aci,acS,afs] at hvv;obtain⟨rfl,rfl⟩:=hvv;have Ar:c<=9223372036854775807:=by unfold maxLen at ig;omega
   have fR:cur.toList.length=c*4:=by rw[ab6];exact hcs
   have Lg:w.heap[b]?=some (.cells cur.toList.toArray 137 (0,0)):=by rw[afk];exact hh
   have kc:∀j v,(aU (l.drop i))[j]?=some v->cur.toList[i*4+j]?=some v:=fun j v hj=>by
    rw[Dr,<-ht,agc] at hj
    split at hj
    ·exact hj
    ·cases hj
   have yp:(aU (l.take i))=cur.toList.take (i*4):=by rw[<-Ds,<-ht,afJ,ac1 oM]
   by_cases l8:l.length+1<=c
   ·refine(Qj b l.length c i vb cur.toList (aU (l.drop i)) (zi x) tv base w hg aE Lg fR au l8 Ar tL kc (n9 _) hv rfl BQ).mono ?_;rintro e w' ⟨rfl,gX,hB⟩;have tQ:(splice cur.toList ((i+1)*4) (aU (l.drop i))).length=c*4:=by rw[length_splice _ _ _ (by rw[fR,tL];omega),fR]
    have K4:(zi x).length=4:=rfl;have ho:w'.ownsRow base 137 4 (.slice (some ⟨b,0,none⟩) (l.take i++x::l.drop i).length c) (l.take i++x::l.drop i).length (aU (l.take i++x::l.drop i)):=by
     refine⟨fj _,ir ⟨b,c,_,rfl,hg,gX,oM,ig,?_,?_⟩⟩
     ·rw[acB,length_splice _ _ _ (by rw[tQ,K4];omega),tQ]
     ·rw[afO,yi,Fq];have e1:(splice (splice cur.toList ((i+1)*4) (aU (l.drop i))) (i*4) (zi x))=cur.toList.take (i*4)++(zi x++(splice cur.toList ((i+1)*4) (aU (l.drop i))).drop ((i+1)*4)):=by
       rw[splice,yE _ _ _ _ oM oM,K4,show i*4+4=(i+1)*4 from oM]
      have e2:(splice cur.toList ((i+1)*4) (aU (l.drop i))).drop ((i+1)*4)=aU (l.drop i)++cur.toList.drop ((i+1)*4+(aU (l.drop i)).length):=by
       rw[splice,List.drop_append_of_le_length (by rw[abm];omega),acA (by rw[abm];omega),abJ]
      rw[e1,e2,<-yp,<-abp,<-abp,abT (by simp only[aaQ,K4,tL,fj,abm];omega),abv (by simp only[aaQ,K4,tL,fj,abm];omega)]
    obtain⟨a',c',TC,BO⟩:=fQ ho rfl oM;simp only[abV,afs] at TC;obtain⟨rfl,rfl⟩:=TC;exact⟨_,_,rfl,BO,hB⟩
   ·obtain rfl:c=l.length:=oM;refine(TQ b l.length i vb (aU (l.take i)) (aU (l.drop i)) (zi x) tv w au h8 (by rw[fj,abm];omega) (fun j v hj=>?_) aeG tL (fun j v hj=>?_) (n9 _) hv qZ rfl BQ).mono ?_
    ·have:=pH Lg 0 j v (by
      rw[yp,agc] at hj
      split at hj
      ·simpa using hj
      ·cases hj)
     rw[tT,abc] at this;exact this
    ·have:=pH Lg (i*4) j v (kc j v hj);rw[tT] at this;exact this
    ·rintro e w' ⟨G,uF,rfl,mE,YI,Fk,YN,gX,hB⟩;have K4:(zi x).length=4:=rfl;have tQ:(splice uF (i*4) (zi x)).length=G*4:=by rw[length_splice _ _ _ (by rw[Fk,K4];omega),Fk]
     have ho:w'.ownsRow base 137 4 (.slice (some ⟨w.heap.size,0,none⟩) (l.take i++x::l.drop i).length G) (l.take i++x::l.drop i).length (aU (l.take i++x::l.drop i)):=by
      refine⟨fj _,ir ⟨w.heap.size,G,_,rfl,kx,gX,oM,YI,?_,?_⟩⟩
      ·rw[acB,length_splice _ _ _ (by rw[tQ,tL];omega),tQ]
      ·rw[afO,yi,Fq,show(l.length+1)*4=(i+1)*4+(aU (l.drop i)).length by rw[tL];omega,xI _ _ _ (by rw[tQ];omega),show(i+1)*4=i*4+(zi x).length by rw[K4];omega,xI _ _ _ (by rw[Fk];omega),YN]
     obtain⟨a',c',TC,BO⟩:=fQ ho rfl oM;simp only[abV,afs] at TC;obtain⟨rfl,rfl⟩:=TC;refine⟨_,_,?_,BO,hB.mono kx⟩
     rfl
theorem aI{w w':World}{base size n:Nat}{e:TypeId}{v:Value}{xs:List Value}(h:w.ownsRow base e size v n xs)(hb:bL w w'):w'.ownsRow base e size v n xs:=by
 refine⟨h.1,h.2.elim il (fun⟨g,cap,cur,hv,hg,hh,r⟩=>ir ⟨g,cap,cur,hv,hg,?_,r⟩)⟩;have au:g<w.heap.size:=by
  rcases adI g w.heap.size with h'|h'
  ·exact h'
  ·rw[ac9 h'] at hh;cases hh
 rw[hb.block g au];exact hh
theorem fH.later{base:Nat}{w w':World}{a:Option Addr}{c:Nat}{l:List Bf}(h:fH base w a c l)(hb:bL w w'):fH base w' a c l :=
 ⟨h.here.later hb,h.cap,h.KF,h.nil,aI h.own hb⟩
theorem fH.lt{base:Nat}{w:World}{a:Option Addr}{c:Nat}{l:List Bf}(h:fH base w a c l)(b:Nat)(hb:a=some ⟨b,0,none⟩):b<w.heap.size:=by
 subst hb
 rcases h.own.2 with⟨h1,_⟩|⟨g,cap,cur,h1,hg,hh,_⟩
 ·cases h1
 ·simp only[abV,aa4,aci,acS] at h1;obtain⟨rfl,_⟩:=h1
  rcases adI b w.heap.size with h'|h'
  ·exact h'
  ·rw[ac9 h'] at hh;cases hh
theorem ade(l:List Bf)(a:Option Addr)(c base i:Nat)(x:Bf)(w:World)(hi:i<=l.length)(h8:l.length<=1000)(kx:base<=w.heap.size)(hN:fH base w a c l) :
 Calls prog 199 #[.slice a l.length c,i6 i,.slice (some ⟨w.heap.size,0,none⟩) 1 1] (w.alloc (.cells #[i6 x.pl,.string x.data,.bool x.bM,i6 x.used] 137)) fun e w' =>
  ∃a' c',e=.returned (.slice a' (l.length+1) c')/\fH base w' a' c' (l.take i++x::l.drop i)/\Below base w w'/\l.length+1<=c':=by
 refine(aeV l a c base w.heap.size i x 137 _ hi h8 (by simp;omega) (hN.later (aA _ _)) (acm _ _) (fun b hb=>?_)).mono ?_
 ·have:=hN.lt b hb;omega
 ·rintro e w' ⟨a',c',he,h1,h2⟩;refine⟨a',c',he,h1,((aA _ _).mono kx).trans h2,?_⟩;have:=h1.cap;rw[show(l.take i++x::l.drop i).length=l.length+1 by simp;omega] at this;exact this
def ja(w:World)(b:Nat)(x:Bf):Prop:=w.cell? ⟨b,0,none⟩=some (i6 x.pl)/\w.cell? ⟨b,1,none⟩=some (.string x.data)/\w.cell? ⟨b,2,none⟩=some (.bool x.bM)/\w.cell? ⟨b,3,none⟩=some (i6 x.used)
theorem ja.later{w w':World}{b:Nat}{x:Bf}(h:ja w b x)(hb:bL w w'):ja w' b x :=
 ⟨ai hb h.1,ai hb h.2.1,ai hb h.2.2.1,ai hb h.2.2.2⟩
theorem ja.below{w w':World}{b base:Nat}{x:Bf}(h:ja w b x)(hb:Below base w w')(au:b<base):ja w' b x :=
 ⟨by rw[hb.cell au];exact h.1,by rw[hb.cell au];exact h.2.1,by rw[hb.cell au];exact h.2.2.1,by rw[hb.cell au];exact h.2.2.2⟩
def xY(at':Int)(x:Bf):Bool:=decide (at'<x.pl)
theorem Xk(y x:Bf)(pb:Nat)(w:World)(hp:ja w pb x) :
 Calls prog 198 #[y.val,.pointer (some ⟨pb,0,none⟩)] w (rB (.bool (xY x.pl y)) w):=by
 have DK:=uv hp.1;clear hp;go_enter func198,ntmps198;go_wp2;go_ret;exact⟨rfl,bQ⟩
theorem Iz(x:Bf)(pb:Nat)(l:List Bf)(a:Option Addr)(c:Nat)(w:World)(hl:bA w a l)(hp:ja w pb x)(r:Int)(hr:ej (xY x.pl) l=r) :
 Calls prog 170 #[.slice a l.length c,.func (.func 198) #[] #[.pointer (some ⟨pb,0,none⟩)]] w (rB (i6 r) w):=by
 subst hr;exact FG 198 (by intro args w;go_simp) (.pointer (some ⟨pb,0,none⟩)) (xY x.pl) l a c w hl (fun y w' hb=>Xk y x pb w' (hp.later hb))
def lQ(at':Int)(l:List Bf):Nat:=match l.findIdx? (xY at') with|some k=>k|none=>l.length
def pV(l:List Bf)(x:Bf):List Bf:=l.take (lQ x.pl l)++x::l.drop (lQ x.pl l)
theorem GW(at':Int)(l:List Bf):lQ at' l<=l.length:=by
 unfold lQ
 cases e:l.findIdx? (xY at') with
 |none=>exact aaO _
 |some k =>
  rw[abX] at e;exact agw e.1
theorem ab5(at':Int)(l:List Bf):(ej (xY at') l=-1/\lQ at' l=l.length)\/ej (xY at') l=(lQ at' l:Int):=by
 unfold ej lQ
 cases e:l.findIdx? (xY at') with
 |none=>exact il ⟨rfl,rfl⟩
 |some k=>exact ir rfl
theorem OZ(at':Int)(l:List Bf):(ej (xY at') l=-1/\lQ at' l=l.length)\/(ej (xY at') l=(lQ at' l:Int)/\lQ at' l=lQ at' l):=(ab5 at' l).imp id (fun h=>⟨h,rfl⟩)
theorem bA.Ct{w:World}{b:Nat}{l:List Bf}(h:bA w (some ⟨b,0,none⟩) l){k:Nat}(hk:k<l.length)(x:Bf) :
 bA ((((w.setCell ⟨b,k*4,none⟩ (i6 x.pl)).setCell ⟨b,k*4+1,none⟩ (.string x.data)).setCell ⟨b,k*4+2,none⟩ (.bool x.bM)).setCell ⟨b,k*4+3,none⟩ (i6 x.used)) (some ⟨b,0,none⟩) (l.set k x):=by
 have h1:=h.set hk 0 oM { l[k] with pl:=x.pl } (i6 x.pl) rfl (fun i hi aE=>by rcases(show i=1\/i=2\/i=3 from oM) with rfl|rfl|rfl<;>rfl);have h2:=h1.set (k:=k) (by simpa using hk) 1 oM { l[k] with pl:=x.pl,data:=x.data } (.string x.data) rfl (fun i hi aE=>by rw[afc];rcases(show i=0\/i=2\/i=3 from oM) with rfl|rfl|rfl<;>rfl);rw[afA] at h2;have h3:=h2.set (k:=k) (by simpa using hk) 2 oM { x with used:=l[k].used } (.bool x.bM) rfl (fun i hi aE=>by rw[afc];rcases(show i=0\/i=1\/i=3 from oM) with rfl|rfl|rfl<;>rfl);rw[afA] at h3;have h4:=h3.set (k:=k) (by simpa using hk) 3 oM x (i6 x.used) rfl (fun i hi aE=>by rw[afc];rcases(show i=0\/i=1\/i=2 from oM) with rfl|rfl|rfl<;>rfl);rw[afA] at h4
 simpa using h4
theorem Xm(gh:Nat)(zq:∀args w,(callFunc gh args).run prog w=.ok (.enter gh args) w)(hc:Array Value)(H:Int->Bool)(l:List Bf)(a:Option Addr)(c:Nat)(x:Bf)(w:World)(hl:bA w a l)(hn:a=none->c=0)(h8:l.length=8)(hi:ej (eP x.pl) l=-1)
 (hh:∀n w',bL w w'->Calls prog gh (#[i6 n]++hc) w' (rB (.bool (H n)) w')) (hr:dz (eu false H) l l.length=-1) :
 Calls prog 161 #[.slice a l.length c,x.val,.func (.func gh) #[] hc] w (rB (.tuple #[.slice none 0 0,.iface 87 (i6 7)]) w):=by
 have HI:=aB hi;have HH:=aB hh;have HR:=aB hr;have H8:=aB h8;have A8:(8:Int)<=(l.length:Int):=oM;clear hi hh hr h8;have b0:=aA w (.cells #[i6 x.pl,.string x.data,.bool x.bM,i6 x.used] 137);go_enter func161,ntmps161;go_wp2_with fail;refine(ln l a c _ (hl.later b0) hn (by have:=H8.out;omega)).mono ?_;rintro e w1 ⟨a1,c1,rfl,hN,aw⟩;have F1:ja w1 w.heap.size x:=ja.later ⟨sM,sM,sM,sM⟩ aw;have aN:bL w w1:=af b0 aw;have uL:fH (w.heap.size+1) w1 a1 c1 l:=by simpa using hN
 clear hN aw b0;obtain⟨p0,p1,p2,p3⟩:=id F1;go_wp2_with fail;refine cM (lX l a1 c1 x.pl _ uL.here _ HI.out) ?_;intro w2 aC;have bT:=af aN aC;have tI:=uL.later aC;clear aC aN F1 p0 p1 p2 p3 uL;go_wp2_with fail;refine cM (rC false gh zq hc H l a1 c1 _ tI.here (fun n w' hb=>HH.out n w' (af bT hb)) _ HR.out) ?_;intro w3 bo;have fi:=af bT bo;clear bo bT tI;go_wp2
 go_ret2
 exact⟨rfl,fi⟩
def CG(l:List Bf)(x:Bf)(H:Int->Bool)(m:List Bf):Prop :=
 (∃k:Nat,∃_:k<l.length,ej (eP x.pl) l=k/\m=l.set k x) \/
 (ej (eP x.pl) l=-1/\l.length<8/\m=pV l x) \/
 (ej (eP x.pl) l=-1/\l.length=8/\∃k:Nat,∃_:k<l.length,dz (eu false H) l l.length=k/\m=pV (l.eraseIdx k) x)
theorem rf(l:List Bf)(x:Bf):(pV l x).length=l.length+1:=by
 have:=GW x.pl l
 simp[pV];omega
theorem ou{l:List Bf}{x y:Bf}:y∈pV l x↔y=x\/y∈l:=by
 rw[pV,abh,acj]
 constructor
 ·rintro(h|h|h)
  ·exact ir (agv h)
  ·exact il h
  ·exact ir (List.mem_of_mem_drop h)
 ·rintro(h|h)
  ·exact ir (il h)
  ·rw[<-ab8 (lQ x.pl l) l,abh] at h;exact h.imp id ir
theorem ZW{l:List Bf}{y:Bf}(h:y∈l):∃k:Nat,∃_:k<l.length,ej (eP y.pl) l=k:=by
 rcases jF (eP y.pl) l with⟨_,h1⟩|⟨k,hk,e,_⟩
 ·obtain⟨j,hj,rfl⟩:=abM h;have:=h1 j hj
  simp[eP] at this
 ·exact⟨k,hk,e⟩
theorem FF{l:List Bf}{at':Int}{k:Nat}(hk:k<l.length)(h:ej (eP at') l=k):l[k].pl=at':=by
 rcases jF (eP at') l with⟨e,_⟩|⟨k',eH,e,h2,_⟩
 ·rw[h] at e;omega
 ·have:k'=k:=oM;subst this
  simpa [eP] using h2
end
section

def rj(a b:Bf):Prop:=a.pl<b.pl
theorem kZ.pair{l:List Bf}(h:kZ l):l.Pairwise rj:=by
 rw[ac7];intro i j hi hj qB;exact h.DR i j qB hj
theorem SS(at':Int)(l:List Bf):(∀j (hj:j<l.length),j<lQ at' l->l[j].pl<=at')/\(∀(h:lQ at' l<l.length),at'<l[lQ at' l].pl):=by
 unfold lQ
 cases e:l.findIdx? (xY at') with
 |none =>
  rw[acy] at e;refine⟨fun j hj _=>?_,fun h=>absurd h (agn _)⟩;have:=e _ (aa5 hj);simp only[xY,acv] at this
  omega
 |some k =>
  rw[abX] at e;obtain⟨h1,h2,h3⟩:=e;refine⟨fun j hj Li=>?_,fun h=>by simpa [xY] using h2⟩;have:=h3 j Li;simp only[xY,aba] at this
  omega
theorem IW{l:List Bf}{x:Bf}(h:l.Pairwise rj)(hx:∀y∈l,y.pl ≠ x.pl):(pV l x).Pairwise rj:=by
 obtain⟨s1,s2⟩:=SS x.pl l;have hp:=ac7.1 h;have h1:∀y∈l.take (lQ x.pl l),y.pl<x.pl:=by
  intro y hy;obtain⟨j,hj,rfl⟩:=abM hy;rw[abm] at hj;rw[agK];have a:=s1 j oM oM;have b:=hx _ (aa5 (show j<l.length from oM))
  omega
 have h2:∀y∈l.drop (lQ x.pl l),x.pl<y.pl:=by
  intro y hy;obtain⟨j,hj,rfl⟩:=abM hy;rw[ac5] at hj;rw[agJ];have hg:lQ x.pl l<l.length:=oM;have a:=s2 hg
  by_cases e:j=0
  ·subst e;simpa using a
  ·have b:=hp (lQ x.pl l) (lQ x.pl l+j) hg oM oM;simp only[rj] at b
   omega
 rw[pV,ac6];refine⟨h.sublist (List.take_sublist _ _),?_,?_⟩
 ·rw[agF];exact⟨h2,h.sublist (List.drop_sublist _ _)⟩
 ·intro a ha b hb;rw[acj] at hb
  rcases hb with rfl|hb
  ·exact h1 a ha
  ·have:=h1 a ha;have:=h2 b hb;simp only[rj];omega
theorem abE{m:List Bf}(hr:m.Pairwise rj){y:Bf}(hy:y∈m):∃j:Nat,∃hj:j<m.length,ej (eP y.pl) m=j/\m[j]=y:=by
 obtain⟨j,hj,e⟩:=ZW hy;refine⟨j,hj,e,?_⟩;have hp:=FF hj e;obtain⟨n,hn,rfl⟩:=abM hy;have hq:=ac7.1 hr
 rcases Nat.lt_trichotomy j n with h|h|h
 ·have:=hq j n hj hn h;simp only[rj] at this;omega
 ·subst h;rfl
 ·have:=hq n j hn hj h;simp only[rj] at this;omega
structure VG(l:List Bf)(x:Bf)(H:Int->Bool)(m:List Bf)(K:Nat):Prop where
 mr:m.Pairwise rj
 len:m.length<=8
 has:x∈m
 kle:K<=l.length
 kept:∀i (hi:i<l.length),l[i].pl ≠ x.pl->i ≠ K->l[i]∈m
 gone:∀(hK:K<l.length),l.length=8/\l[K].bM=false/\H l[K].pl=false/\ej (eP l[K].pl) m=-1/\l[K].pl ≠ x.pl
theorem B8{l:List Bf}{at':Int}(h:ej (eP at') l=-1):∀y∈l,y.pl ≠ at':=by
 intro y hy
 rcases jF (eP at') l with⟨_,h1⟩|⟨k,hk,e,_⟩
 ·obtain⟨j,hj,rfl⟩:=abM hy;have:=h1 j hj
  simpa [eP] using this
 ·rw[h] at e;omega
theorem CG.facts{l:List Bf}{x:Bf}{H:Int->Bool}{m:List Bf}(h:CG l x H m)(G:kZ l):∃K,VG l x H m K:=by
 have hp:=G.pair
 rcases h with⟨k,hk,gA,rfl⟩|⟨gA,h8,rfl⟩|⟨gA,h8,k,hk,hr,rfl⟩
 ·refine⟨l.length,⟨?_,by rw[abS];exact G.len,List.mem_set hk x,aaO _,fun i hi aE _=>?_,fun h=>absurd h (agn _)⟩⟩
  ·have bV:=FF hk gA;rw[ac7];intro i j hi hj qB;rw[abS] at hi hj;have:=G.DR i j qB hj;simp only[rj,List.getElem_set]
   split<;>split
   ·omega
   ·rename_i e1 _;subst e1;omega
   ·rename_i _ e2;subst e2;omega
   ·exact this
  ·by_cases e:i=k
   ·subst e;exact absurd (FF hk gA) aE
   ·have pL:i<(l.set k x).length:=by rw[abS];exact hi
    have hm:=aa5 pL;rw[afb (fun h=>e h.symm)] at hm;exact hm
 ·refine⟨l.length,⟨IW hp (B8 gA),by rw[rf];omega,ou.2 (il rfl),aaO _,fun i hi _ _=>ou.2 (ir (aa5 hi)),fun h=>absurd h (agn _)⟩⟩
 ·have dV:∀y∈l.eraseIdx k,y.pl ≠ x.pl:=fun y hy=>B8 gA y (abo hy)
  refine⟨k,⟨IW (hp.sublist (List.eraseIdx_sublist _ _)) dV,by rw[rf,ab7,aaV hk];omega,ou.2 (il rfl),agw hk,fun i hi _ aE=>?_,fun _=>?_⟩⟩
  ·rw[ou,afX];exact ir ⟨i,hi,aE,rfl⟩
  ·have hf:eu false H l[k]=true:=by
    rcases jz (eu false H) l l.length (aaO _) with⟨e2,_⟩|⟨k',eH,_,e2,hf,_⟩
    ·rw[hr] at e2;omega
    ·have:k'=k:=by rw[hr] at e2;omega
     subst this;exact hf
   rw[eu,abW] at hf;have hx:=B8 gA _ (aa5 hk);refine⟨h8,by simpa using hf.1,by simpa using hf.2,?_,hx⟩;apply Lv;intro j hj;simp only[eP,aaU];have hm:=aa5 hj;rw[ou,afX] at hm
   rcases hm with hm|⟨n,hn,aE,hm⟩
   ·rw[hm];exact fun h=>hx h.symm
   ·rw[<-hm]
    rcases Nat.lt_or_gt_of_ne aE with h|h
    ·have:=G.DR n k h hk;omega
    ·have:=G.DR k n h hn;omega
end
section
open Go.RowKit Go.BigFrame
def tS(base:Nat)(a:Option Addr):Prop:=∀p,a=some p->base<=p.block
theorem fH.Qx{base:Nat}{w:World}{a:Option Addr}{c:Nat}{l:List Bf}(h:fH base w a c l):tS base a:=fun p e=>(h.own.lt p.block (by rw[e];rfl)).1
theorem CZ{base b o:Nat}(h:base<=b):tS base (some ⟨b,o,none⟩):=fun p e=>by simp only[aa4] at e;subst e;exact h
theorem tS.mono{base base':Nat}{a:Option Addr}(h:tS base a)(hb:base'<=base):tS base' a:=fun p e=>abb hb (h p e)
theorem abN(l:List Bf)(a:Option Addr)(c:Nat)(at':Int)(data:ByteArray)(w:World)(hl:bA w a l)(hn:a=none->c=0)(mj:l.length<=1000)(ho:xQ l) :
 Calls prog 136 #[.slice a l.length c,i6 at',.string data] w fun e w'=>∃a' c',e=.returned (.slice a' l.length c')/\bA w' a' (fO l at' data)/\l.length<=c'/\tS w.heap.size a'/\(a'=none->c'=0)/\bL w w':=by
 have HO:=aB ho;clear ho
 rcases jF (eP at') l with⟨h,_⟩|⟨k,hk,h,_,_⟩
 ·have HC:=aB (V0 (data:=data) h);go_enter func136,ntmps136;go_wp2_with fail;refine(ln l a c _ hl hn oM).mono ?_;rintro e w1 ⟨a',c',rfl,hN,aw⟩;go_wp2_with fail;refine cM (lX l a' c' at' _ hN.here _ h) ?_;intro w2 aC;have R:=hN.here.later aC;have cp:=hN.cap;have nw:=hN.Qx;have nn:=hN.nil;clear hN h;go_wp2;go_ret;exact⟨a',c',rfl,by rw[HC.out];exact R,cp,nw,nn,af aw aC⟩
 ·have h0:l ≠ []:=by rintro rfl;exact absurd hk (aa0 _)
  have H0:=aB h0;clear h0
  by_cases hd:l[k].data=data
  ·have HC:=aB (Si hk HO.out h hd);have hs:=Pr hd;go_enter func136,ntmps136;go_wp2_with fail;refine(ln l a c _ hl hn oM).mono ?_;rintro e w1 ⟨a',c',rfl,hN,aw⟩;obtain⟨b,rfl,kI,au,hfz⟩:=hN.place H0.out;go_wp2_with fail;refine cM (lX l _ c' at' _ hN.here _ h) ?_;intro w2 aC;have R:=hN.here.later aC;have cp:=hN.cap;have DI:w2.frozen? ⟨b,0+k*4+2,none⟩=false:=by rw[aC.frozen (p:=⟨b,0+k*4+2,none⟩) au];exact hfz _
   obtain⟨c0,c1,c2,c3⟩:=R.cells hk;rw[abc] at c0 c1 c2 c3 DI;clear hN h hfz hd;have bT:=af aw aC;go_wp2;go_ret;refine⟨_,c',rfl,?_,cp,CZ kI,sM,bQ⟩;rw[HC.out];have:=R.set hk 2 oM { l[k] with bM:=false } (.bool false) rfl (fun i hi aE=>by match i,hi,aE with|0,_,_=>rfl|1,_,_=>rfl|3,_,_=>rfl);rw[abc] at this;exact this
  ·have HC:=aB (MX hk HO.out h hd);have hs:=Ps hd;go_enter func136,ntmps136;go_wp2_with fail;refine(ln l a c _ hl hn oM).mono ?_;rintro e w1 ⟨a',c',rfl,hN,aw⟩;obtain⟨b,rfl,kI,au,hfz⟩:=hN.place H0.out;go_wp2_with fail;refine cM (lX l _ c' at' _ hN.here _ h) ?_;intro w2 aC;have R:=hN.here.later aC;have cp:=hN.cap;obtain⟨c0,c1,c2,c3⟩:=R.cells hk;rw[abc] at c0 c1 c2 c3;clear hN h hfz hd;go_wp2;go_ret;exact⟨_,c',rfl,by rw[HC.out];exact R,cp,CZ kI,sM,af aw aC⟩
theorem ae6(l:List Bf)(a:Option Addr)(c:Nat)(at' now:Int)(w:World)(hl:bA w a l)(hn:a=none->c=0)(mj:l.length<=1000)(ho:xQ l) :
 Calls prog 159 #[.slice a l.length c,i6 at',i6 now] w fun e w'=>∃a' c',e=.returned (.slice a' l.length c')/\bA w' a' (kT l at' now)/\l.length<=c'/\tS w.heap.size a'/\(a'=none->c'=0)/\bL w w':=by
 have HO:=aB ho;clear ho
 rcases jF (eP at') l with⟨h,_⟩|⟨k,hk,h,_,_⟩
 ·have HC:=aB (adC (now:=now) h);go_enter func159,ntmps159;go_wp2_with fail;refine(ln l a c _ hl hn oM).mono ?_;rintro e w1 ⟨a',c',rfl,hN,aw⟩;go_wp2_with fail;refine cM (lX l a' c' at' _ hN.here _ h) ?_;intro w2 aC;have R:=hN.here.later aC;have cp:=hN.cap;have nw:=hN.Qx;have nn:=hN.nil;clear hN h;go_wp2;go_ret;exact⟨a',c',rfl,by rw[HC.out];exact R,cp,nw,nn,af aw aC⟩
 ·have h0:l ≠ []:=by rintro rfl;exact absurd hk (aa0 _)
  have H0:=aB h0;clear h0;have HC:=aB (aaK (now:=now) hk HO.out h);go_enter func159,ntmps159;go_wp2_with fail;refine(ln l a c _ hl hn oM).mono ?_;rintro e w1 ⟨a',c',rfl,hN,aw⟩;obtain⟨b,rfl,kI,au,hfz⟩:=hN.place H0.out;go_wp2_with fail;refine cM (lX l _ c' at' _ hN.here _ h) ?_;intro w2 aC;have R:=hN.here.later aC;have cp:=hN.cap;have DI:w2.frozen? ⟨b,0+k*4+3,none⟩=false:=by rw[aC.frozen (p:=⟨b,0+k*4+3,none⟩) au];exact hfz _
  obtain⟨c0,c1,c2,c3⟩:=R.cells hk;rw[abc] at c0 c1 c2 c3 DI;clear hN h hfz;have bT:=af aw aC;go_wp2;go_ret;refine⟨_,c',rfl,?_,cp,CZ kI,sM,bQ⟩;rw[HC.out];have:=R.set hk 3 oM { l[k] with used:=now } (i6 now) rfl (fun i hi aE=>by rcases(show i=0\/i=1\/i=2 from oM) with rfl|rfl|rfl<;>rfl);rw[abc] at this;exact this
theorem Ur(gh:Nat)(hc:Array Value)(l:List Bf)(a:Option Addr)(c:Nat)(x:Bf)(w:World)(hl:bA w a l)(hn:a=none->c=0)(h8:l.length<8)(hi:ej (eP x.pl) l=-1) :
 Calls prog 161 #[.slice a l.length c,x.val,.func (.func gh) #[] hc] w fun e w'=>∃a' c',e=.returned (.tuple #[.slice a' (l.length+1) c',.nilIface])/\bA w' a' (pV l x)/\l.length+1<=c'/\tS w.heap.size a'/\(a'=none->c'=0)/\bL w w':=by
 have HI:=aB hi;clear hi;have b0:=aA w (.cells #[i6 x.pl,.string x.data,.bool x.bM,i6 x.used] 137);go_enter func161,ntmps161;go_wp2_with fail;refine(ln l a c _ (hl.later b0) hn oM).mono ?_;rintro e w1 ⟨a1,c1,rfl,hN,aw⟩;have F1:ja w1 w.heap.size x:=ja.later ⟨sM,sM,sM,sM⟩ aw;have aN:bL w w1:=af b0 aw;have z1:w.heap.size+1<=w1.heap.size:=by have:=aw.size;simpa using this
 have uL:fH (w.heap.size+1) w1 a1 c1 l:=by simpa using hN
 clear hN aw b0;obtain⟨p0,p1,p2,p3⟩:=id F1;go_wp2_with fail;refine cM (lX l a1 c1 x.pl _ uL.here _ HI.out) ?_;intro w2 aC;have F2:=F1.later aC;have bT:=af aN aC;have z2:w.heap.size+1<=w2.heap.size:=abb z1 aC.size;have tI:=uL.later aC;clear aC aN F1 p0 p1 p2 p3 uL z1;obtain⟨p0,p1,p2,p3⟩:=id F2;have A8:¬(8:Int)<=(l.length:Int):=oM
 rcases OZ x.pl l with⟨hg,yf⟩|⟨hg,yf⟩
 all_goals
  have HG:=aB hg;have tE:=aB yf;clear hg yf;go_wp2_with fail;refine cM (Iz x w.heap.size l a1 c1 _ tI.here F2 _ HG.out) ?_;intro w3 bo;have F3:=F2.later bo;have fi:=af bT bo;have z3:w.heap.size+1<=w3.heap.size:=abb z2 bo.size;have YL:=tI.later bo;clear bo bT F2 p0 p1 p2 p3 tI z2;obtain⟨p0,p1,p2,p3⟩:=id F3;go_wp2_with fail;refine(ade l a1 c1 (w.heap.size+1) _ x w3 (by first|exact aaO _|exact GW _ _) oM z3 YL).mono ?_;rintro e w4 ⟨a4,c4,rfl,IC,fk,cp⟩;have jV:bL w w4:=fi.trans (fk.mono oM);have R:=IC.here;have nw:=IC.Qx.mono (base':=w.heap.size) oM;have nn:=IC.nil
  (try rw[<-tE.out] at R)
  go_wp2
  go_ret2
  refine⟨a4,c4,rfl,R,cp,nw,nn,jV⟩
theorem Uq(gh:Nat)(hc:Array Value)(l:List Bf)(a:Option Addr)(c:Nat)(x:Bf)(w:World)(hl:bA w a l)(hn:a=none->c=0)(h8:l.length<=8)(k:Nat)(hk:k<l.length)(hi:ej (eP x.pl) l=k) :
 Calls prog 161 #[.slice a l.length c,x.val,.func (.func gh) #[] hc] w fun e w'=>∃a' c',e=.returned (.tuple #[.slice a' l.length c',.nilIface])/\bA w' a' (l.set k x)/\l.length<=c'/\tS w.heap.size a'/\(a'=none->c'=0)/\bL w w':=by
 have HI:=aB hi;clear hi;have h0:l ≠ []:=by rintro rfl;exact absurd hk (aa0 _)
 have H0:=aB h0;clear h0;have b0:=aA w (.cells #[i6 x.pl,.string x.data,.bool x.bM,i6 x.used] 137);go_enter func161,ntmps161;go_wp2_with fail;refine(ln l a c _ (hl.later b0) hn oM).mono ?_;rintro e w1 ⟨a1,c1,rfl,hN,aw⟩;have F1:ja w1 w.heap.size x:=ja.later ⟨sM,sM,sM,sM⟩ aw;have aN:bL w w1:=af b0 aw;have uL:fH (w.heap.size+1) w1 a1 c1 l:=by simpa using hN
 clear hN aw b0;obtain⟨b1,rfl,kI,au,hfz⟩:=uL.place H0.out;obtain⟨p0,p1,p2,p3⟩:=id F1;go_wp2_with fail;refine cM (lX l _ c1 x.pl _ uL.here _ HI.out) ?_;intro w2 aC;have F2:=F1.later aC;have bT:=af aN aC;have tI:=uL.later aC;have pN:b1<w2.heap.size:=tI.lt b1 rfl;have ff:∀o,w2.frozen? ⟨b1,o,none⟩=false:=fun o=>by rw[aC.frozen (p:=⟨b1,o,none⟩) au];exact hfz o
 clear aC aN F1 p0 p1 p2 p3 uL au hfz;obtain⟨p0,p1,p2,p3⟩:=id F2;have R:=tI.here;have cp:=tI.cap;obtain⟨c0,OT,c2,c3⟩:=R.cells hk;have f0:=ff (k*4);have f1:=ff (k*4+1);have f2:=ff (k*4+2);have f3:=ff (k*4+3);rw[abc] at c0 OT c2 c3;clear ff tI F2;have HR:=aB R;clear R;have nb:b1 ≠ w.heap.size:=oM;go_wp2
 go_ret2
 refine⟨_,c1,rfl,HR.out.Ct hk x,cp,CZ oM,sM,bQ⟩
theorem Up(gh:Nat)(zq:∀args w,(callFunc gh args).run prog w=.ok (.enter gh args) w)(hc:Array Value)(H:Int->Bool)(l:List Bf)(a:Option Addr)(c:Nat)(x:Bf)(w:World)(hl:bA w a l)(hn:a=none->c=0)(h8:l.length=8)(hi:ej (eP x.pl) l=-1)
 (hh:∀n w',bL w w'->Calls prog gh (#[i6 n]++hc) w' (rB (.bool (H n)) w')) (k:Nat) (hk:k<l.length) (hr:dz (eu false H) l l.length=k) :
 Calls prog 161 #[.slice a l.length c,x.val,.func (.func gh) #[] hc] w fun e w'=>∃a' c',e=.returned (.tuple #[.slice a' l.length c',.nilIface])/\bA w' a' (pV (l.eraseIdx k) x)/\l.length<=c'/\tS w.heap.size a'/\(a'=none->c'=0)/\bL w w':=by
 have HI:=aB hi;have HH:=aB hh;have HR:=aB hr;have H8:=aB h8;have A8:(8:Int)<=(l.length:Int):=oM;have h0:l ≠ []:=by rintro rfl;exact absurd hk (aa0 _)
 have H0:=aB h0;have Ba:(l.eraseIdx k).length=l.length-1:=by rw[ab7,aaV hk]
 have HEL:=aB Ba;have sW:IntKind.i64.wrap ((k:Int)+1)=(k:Int)+1:=by rw[abr];omega
 clear hi hh hr h8 h0 Ba;obtain⟨L,hL⟩:∃L,L=l.eraseIdx k:=⟨_,rfl⟩
 have HL:=aB hL;have O0:l.length=L.length+1:=by rw[hL,HEL.out];omega
 have eU:=aB O0;rw[<-hL];clear hL O0;have b0:=aA w (.cells #[i6 x.pl,.string x.data,.bool x.bM,i6 x.used] 137);go_enter func161,ntmps161;go_wp2_with fail;refine(ln l a c _ (hl.later b0) hn (by have:=H8.out;omega)).mono ?_;rintro e w1 ⟨a1,c1,rfl,hN,aw⟩;have F1:ja w1 w.heap.size x:=ja.later ⟨sM,sM,sM,sM⟩ aw;have aN:bL w w1:=af b0 aw;have z1:w.heap.size+1<=w1.heap.size:=by have:=aw.size;simpa using this
 have uL:fH (w.heap.size+1) w1 a1 c1 l:=by simpa using hN
 clear hN aw b0;obtain⟨b1,rfl,kI,au,hfz⟩:=uL.place H0.out;obtain⟨p0,p1,p2,p3⟩:=id F1;go_wp2_with fail;refine cM (lX l _ c1 x.pl _ uL.here _ HI.out) ?_;intro w2 aC;have F2:=F1.later aC;have bT:=af aN aC;have z2:w.heap.size+1<=w2.heap.size:=abb z1 aC.size;have tI:=uL.later aC;clear aC aN F1 p0 p1 p2 p3 uL z1 au hfz;go_wp2_with fail;refine cM (rC false gh zq hc H l _ c1 _ tI.here (fun n w' hb=>HH.out n w' (af bT hb)) _ HR.out) ?_;intro w3 bo;have F3:=F2.later bo;have fi:=af bT bo;have z3:w.heap.size+1<=w3.heap.size:=abb z2 bo.size;have YL:=tI.later bo;clear bo bT F2 tI z2;go_wp2_with fail;refine(aew l b1 c1 k (w.heap.size+1) _ hk YL).mono ?_;rintro e w4 ⟨rfl,IC,fk⟩;have F4:=F3.below fk oM;have jV:bL w w4:=fi.trans (fk.mono oM);have z4:w.heap.size+1<=w4.heap.size:=abb z3 fk.size;rw[<-HL.out] at IC;rw[show l.length-1=L.length by have:=eU.out;omega];clear fk fi F3 YL z3
 rcases OZ x.pl L with⟨hg,yf⟩|⟨hg,yf⟩
 all_goals
  have HG:=aB hg;have tE:=aB yf;clear hg yf;obtain⟨p0,p1,p2,p3⟩:=id F4;go_wp2_with fail;refine cM (Iz x w.heap.size L _ c1 _ IC.here F4 _ HG.out) ?_;intro w5 fm;have F5:=F4.later fm;have iM:=af jV fm;have z5:w.heap.size+1<=w5.heap.size:=abb z4 fm.size;have ID:=IC.later fm;clear fm jV F4 p0 p1 p2 p3 IC z4;obtain⟨p0,p1,p2,p3⟩:=id F5;go_wp2_with fail;refine(ade L _ c1 (w.heap.size+1) _ x w5 (by first|exact aaO _|exact GW _ _) (by have:=H8.out;have:=eU.out;omega) z5 ID).mono ?_;rintro e w6 ⟨a6,c6,rfl,hN6,YO,cp⟩;have HB6:bL w w6:=iM.trans (YO.mono oM);have R:=hN6.here;have nw:=hN6.Qx.mono (base':=w.heap.size) oM;have nn:=hN6.nil
  (try rw[<-tE.out] at R)
  go_wp2
  go_ret2
  refine⟨a6,c6,?_,R,by rw[eU.out];exact cp,nw,nn,HB6⟩;rw[eU.out]
  rfl
def Zt(base:Nat)(l:List Bf)(x:Bf)(H:Int->Bool)(w':World)(e:Ending):Prop :=
 (∃(m:List Bf) (a':Option Addr) (c':Nat),CG l x H m/\e=.returned (.tuple #[.slice a' m.length c',.nilIface])/\bA w' a' m/\m.length<=c'/\tS base a'/\(a'=none->c'=0)) \/
 (ej (eP x.pl) l=-1/\l.length=8/\dz (eu false H) l l.length=-1/\e=.returned (.tuple #[.slice none 0 0,.iface 87 (i6 7)]))
theorem L4(gh:Nat)(zq:∀args w,(callFunc gh args).run prog w=.ok (.enter gh args) w)(hc:Array Value)(H:Int->Bool)(l:List Bf)(a:Option Addr)(c:Nat)(x:Bf)(w:World)(hl:bA w a l)(hn:a=none->c=0)(h8:l.length<=8)
 (hh:∀n w',bL w w'->Calls prog gh (#[i6 n]++hc) w' (rB (.bool (H n)) w')) :
 Calls prog 161 #[.slice a l.length c,x.val,.func (.func gh) #[] hc] w fun e w'=>Zt w.heap.size l x H w' e/\bL w w':=by
 rcases jF (eP x.pl) l with⟨hi,_⟩|⟨k,hk,hi,_⟩
 ·by_cases au:l.length<8
  ·refine(Ur gh hc l a c x w hl hn au hi).mono ?_;rintro e w' ⟨a',c',rfl,h1,h2,h4,h5,h3⟩;exact⟨il ⟨pV l x,a',c',ir (il ⟨hi,au,rfl⟩),by rw[rf],h1,by rw[rf];exact h2,h4,h5⟩,h3⟩
  ·have A8:l.length=8:=oM
   rcases jz (eu false H) l l.length (aaO _) with⟨hr,_⟩|⟨k,hk,_,hr,_⟩
   ·refine cM (Xm gh zq hc H l a c x w hl hn A8 hi hh hr) ?_;intro w' h3;exact⟨ir ⟨hi,A8,hr,rfl⟩,h3⟩
   ·refine(Up gh zq hc H l a c x w hl hn A8 hi hh k hk hr).mono ?_;rintro e w' ⟨a',c',rfl,h1,h2,h4,h5,h3⟩;have hL:(pV (l.eraseIdx k) x).length=l.length:=by rw[rf,ab7,aaV hk];omega
    exact⟨il ⟨pV (l.eraseIdx k) x,a',c',ir (ir ⟨hi,A8,k,hk,hr,rfl⟩),by rw[hL],h1,by rw[hL];exact h2,h4,h5⟩,h3⟩
 ·refine(Uq gh hc l a c x w hl hn h8 k hk hi).mono ?_;rintro e w' ⟨a',c',rfl,h1,h2,h4,h5,h3⟩;exact⟨il ⟨l.set k x,a',c',il ⟨k,hk,hi,rfl⟩,by rw[abS],h1,by rw[abS];exact h2,h4,h5⟩,h3⟩
end
end Go.Proofs.YtlhgjplipgandaaGreatDoor
