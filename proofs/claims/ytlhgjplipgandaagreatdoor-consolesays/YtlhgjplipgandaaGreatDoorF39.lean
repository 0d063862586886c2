/- Joined. -/
import Derived.Maps.AppendAt
import Derived.Test.YtlhgjplipgandaaGreatDoorF38
set_option maxRecDepth 100000
set_option maxHeartbeats 8000000
set_option linter.unusedSimpArgs false
set_option linter.unusedSectionVars false
namespace Go.Proofs.YtlhgjplipgandaaGreatDoor
open Tryz
section
open Go.RowKit Go.BigFrame Go.Maps
theorem ki{s x:ByteArray}(h:¬s=x):(s.toList==x.data.toList)=false:=by
 rw[aaU,adE];intro e;apply h
 cases s
 cases x
 congr 1
 exact afn.1 e
def jD(n:Int)(b:Bool):ByteArray:=if n=0 then⟨#[]⟩ else if n=1 then⟨#[97]⟩ else if b=true then⟨#[97,98,100]⟩ else⟨#[97,98]⟩
theorem Fc(s:ByteArray)(w:World):Calls prog 33 #[.string s] w (rB (.tuple #[.string (jD (cu s).1 (cu s).2),.bool (dY s).isSome]) w):=by
 have dV:(¬s=p9/\¬s=nM/\¬s=qd/\¬s=tD/\¬s=tC/\¬s=nJ/\¬s=lZ/\¬s=nH/\¬s=qe/\¬s=nG/\¬s=jG/\¬s=nL/\¬s=nK/\¬s=p8/\¬s=nI)->dY s=none:=by
  rintro⟨h1,h2,h3,h4,h5,h6,h7,h8,h9,mj,h11,h12,h13,h14,h15⟩;unfold dY;simp only[h1,h2,h3,h4,h5,h6,h7,h8,h9,mj,h11,h12,h13,h14,h15,afr]
 by_cases k1:s=p9
 ·subst k1;have e1:(Value.tuple #[.string (jD (cu p9).1 (cu p9).2),.bool (dY p9).isSome])=.tuple #[.string ⟨#[97,98]⟩,.bool true]:=kR;rw[e1];clear e1 dV;unfold p9;(go_enter func33,ntmps33);go_wp2;go_ret2;exact⟨rfl,aX _ _⟩
 by_cases k2:s=nM
 ·subst k2;have e1:(Value.tuple #[.string (jD (cu nM).1 (cu nM).2),.bool (dY nM).isSome])=.tuple #[.string ⟨#[97,98,100]⟩,.bool true]:=kR;rw[e1];clear e1 dV;unfold nM;(go_enter func33,ntmps33);go_wp2;go_ret2;exact⟨rfl,aX _ _⟩
 by_cases k3:s=qd
 ·subst k3;have e1:(Value.tuple #[.string (jD (cu qd).1 (cu qd).2),.bool (dY qd).isSome])=.tuple #[.string ⟨#[97]⟩,.bool true]:=kR;rw[e1];clear e1 dV;unfold qd;(go_enter func33,ntmps33);go_wp2;go_ret2;exact⟨rfl,aX _ _⟩
 by_cases k4:s=tD
 ·subst k4;have e1:(Value.tuple #[.string (jD (cu tD).1 (cu tD).2),.bool (dY tD).isSome])=.tuple #[.string ⟨#[97]⟩,.bool true]:=kR;rw[e1];clear e1 dV;unfold tD;(go_enter func33,ntmps33);go_wp2;go_ret2;exact⟨rfl,aX _ _⟩
 by_cases k5:s=tC
 ·subst k5;have e1:(Value.tuple #[.string (jD (cu tC).1 (cu tC).2),.bool (dY tC).isSome])=.tuple #[.string ⟨#[97]⟩,.bool true]:=kR;rw[e1];clear e1 dV;unfold tC;(go_enter func33,ntmps33);go_wp2;go_ret2;exact⟨rfl,aX _ _⟩
 by_cases k6:s=nJ
 ·subst k6;have e1:(Value.tuple #[.string (jD (cu nJ).1 (cu nJ).2),.bool (dY nJ).isSome])=.tuple #[.string ⟨#[97]⟩,.bool true]:=kR;rw[e1];clear e1 dV;unfold nJ;(go_enter func33,ntmps33);go_wp2;go_ret2;exact⟨rfl,aX _ _⟩
 by_cases k7:s=lZ
 ·subst k7;have e1:(Value.tuple #[.string (jD (cu lZ).1 (cu lZ).2),.bool (dY lZ).isSome])=.tuple #[.string ⟨#[97]⟩,.bool true]:=kR;rw[e1];clear e1 dV;unfold lZ;(go_enter func33,ntmps33);go_wp2;go_ret2;exact⟨rfl,aX _ _⟩
 by_cases k8:s=nH
 ·subst k8;have e1:(Value.tuple #[.string (jD (cu nH).1 (cu nH).2),.bool (dY nH).isSome])=.tuple #[.string ⟨#[97]⟩,.bool true]:=kR;rw[e1];clear e1 dV;unfold nH;(go_enter func33,ntmps33);go_wp2;go_ret2;exact⟨rfl,aX _ _⟩
 by_cases k9:s=qe
 ·subst k9;have e1:(Value.tuple #[.string (jD (cu qe).1 (cu qe).2),.bool (dY qe).isSome])=.tuple #[.string ⟨#[]⟩,.bool true]:=kR;rw[e1];clear e1 dV;unfold qe;(go_enter func33,ntmps33);go_wp2;go_ret2;exact⟨rfl,aX _ _⟩
 by_cases Y4:s=nG
 ·subst Y4;have e1:(Value.tuple #[.string (jD (cu nG).1 (cu nG).2),.bool (dY nG).isSome])=.tuple #[.string ⟨#[]⟩,.bool true]:=kR;rw[e1];clear e1 dV;unfold nG;(go_enter func33,ntmps33);go_wp2;go_ret2;exact⟨rfl,aX _ _⟩
 by_cases Y5:s=jG
 ·subst Y5;have e1:(Value.tuple #[.string (jD (cu jG).1 (cu jG).2),.bool (dY jG).isSome])=.tuple #[.string ⟨#[]⟩,.bool true]:=kR;rw[e1];clear e1 dV;unfold jG;(go_enter func33,ntmps33);go_wp2;go_ret2;exact⟨rfl,aX _ _⟩
 by_cases Y6:s=nL
 ·subst Y6;have e1:(Value.tuple #[.string (jD (cu nL).1 (cu nL).2),.bool (dY nL).isSome])=.tuple #[.string ⟨#[]⟩,.bool true]:=kR;rw[e1];clear e1 dV;unfold nL;(go_enter func33,ntmps33);go_wp2;go_ret2;exact⟨rfl,aX _ _⟩
 by_cases Y7:s=nK
 ·subst Y7;have e1:(Value.tuple #[.string (jD (cu nK).1 (cu nK).2),.bool (dY nK).isSome])=.tuple #[.string ⟨#[]⟩,.bool true]:=kR;rw[e1];clear e1 dV;unfold nK;(go_enter func33,ntmps33);go_wp2;go_ret2;exact⟨rfl,aX _ _⟩
 by_cases Y8:s=p8
 ·subst Y8;have e1:(Value.tuple #[.string (jD (cu p8).1 (cu p8).2),.bool (dY p8).isSome])=.tuple #[.string ⟨#[]⟩,.bool true]:=kR;rw[e1];clear e1 dV;unfold p8;(go_enter func33,ntmps33);go_wp2;go_ret2;exact⟨rfl,aX _ _⟩
 by_cases Y9:s=nI
 ·subst Y9;have e1:(Value.tuple #[.string (jD (cu nI).1 (cu nI).2),.bool (dY nI).isSome])=.tuple #[.string ⟨#[]⟩,.bool true]:=kR;rw[e1];clear e1 dV;unfold nI;(go_enter func33,ntmps33);go_wp2;go_ret2;exact⟨rfl,aX _ _⟩
 have hn:=dV ⟨k1,k2,k3,k4,k5,k6,k7,k8,k9,Y4,Y5,Y6,Y7,Y8,Y9⟩;have q1:=ki k1;have q2:=ki k2;have q3:=ki k3;have q4:=ki k4;have q5:=ki k5;have q6:=ki k6;have q7:=ki k7;have q8:=ki k8;have q9:=ki k9;have q10:=ki Y4;have q11:=ki Y5;have q12:=ki Y6;have q13:=ki Y7;have q14:=ki Y8;have q15:=ki Y9;simp only[p9,nM,qd,tD,tC,nJ,lZ,nH,qe,nG,jG,nL,nK,p8,nI] at q1 q2 q3 q4 q5 q6 q7 q8 q9 q10 q11 q12 q13 q14 q15;rw[show cu s=(0,false) by unfold cu;rw[hn];rfl,hn];clear dV hn k1 k2 k3 k4 k5 k6 k7 k8 k9 Y4 Y5 Y6 Y7 Y8 Y9;go_enter func33,ntmps33;go_wp2
 go_ret2
 exact⟨rfl,aX _ _⟩
structure Yv(a b:World):Prop where
 same:a=b
theorem wb1(z:UInt8):kV z=(decide ((z.toNat:Int)=32)||decide ((z.toNat:Int)=10)):=by
 unfold kV;have e1:(z==32)=decide ((z.toNat:Int)=32):=by
  rw[ac0,ac3,aba,<-af9];simp;omega
 have e2:(z==10)=decide ((z.toNat:Int)=10):=by
  rw[ac0,ac3,aba,<-af9];simp;omega
 rw[e1,e2]
theorem adF(n:Int):n=0\/((n != 0)=true/\(n==0)=false):=by
 by_cases h:n=0
 ·exact il h
 ·exact ir ⟨afg.2 h,aaU.2 h⟩
theorem aey(s:ByteArray):s=⟨#[]⟩\/(s.toList.isEmpty=false/\s.data.toList.isEmpty=false):=by
 obtain⟨l,rfl⟩:=mC s
 cases l with
 |nil=>exact il rfl
 |cons c l=>exact ir ⟨by rw[adE];rfl,rfl⟩
theorem tA(x:St)(w:World)(hx:kM x):Calls prog 11 #[x.val] w (rB (i6 (aV x)) w):=by
 obtain⟨n,b,oL,tO⟩:=iB x.word;obtain⟨c,B1⟩:∃c,(dY x.word).isSome=c:=⟨_,rfl⟩
 obtain⟨t,mD⟩:∃t,rI n b x=t:=⟨_,rfl⟩
 obtain⟨er,iq⟩:∃er,aV x=er:=⟨_,rfl⟩
 have uD:Hid ((if c=false then 3 else if t=false then 3 else if(fM x.a||fM x.b)=true then 1 else if 9<x.data.size then 1 else if j7 x.data=true then 3 else if x.data=pn then 3 else(0:Int))=er):=by
  rw[<-iq];show _=aV x;unfold aV;rw[B1,oL,mD]
 rw[iq];have Hv:=fun W=>Fc x.word W
 rw[oL,B1] at Hv;have uE:=ae mD;have HX:=ae hx;clear iq mD oL B1 hx;obtain⟨wd,xa,xb,dt⟩:=x;go_enter func11,ntmps11;go_wp2_with fail;refine cM (Hv _) ?_;intro w1 aw;have kG:=ae (ur.later (w:=w.alloc (.cells #[.string wd,i6 xa,i6 xb,.string dt] 31)) (x:=⟨wd,xa,xb,dt⟩) (q:=w.heap.size) ⟨sM,sM,sM,sM,sM⟩ aw);have HB:=ae (af (aA _ _) aw);clear aw Hv;obtain⟨F,hF⟩:∃F,jD n b=F:=⟨_,rfl⟩
 rw[hF];obtain⟨b0,b1,b2,b3,lb⟩:=id kG.out;simp only at b0 b1 b2 b3;go_upto_region 2 with fail
 go_cut[42] (fun s42 wx=>s42=.bool (!(c&&t))/\wx=w1)
 case first =>
  clear uD b0 b3;have H:=uE.out;clear uE;unfold rI at H;simp only at H;have b3:=(kG.out).2.2.2.1;simp only at b3;clear kG HX;have ha:=adF xa;have hb:=adF xb;have hd:=aey dt;rw[adE] at H
  rcases tO with⟨rfl,rfl⟩|⟨rfl,rfl⟩|⟨rfl,rfl⟩|⟨rfl,rfl⟩
  all_goals
   subst hF
   rcases ha with rfl|⟨ha,ha2⟩<;>rcases hb with rfl|⟨hb,aC⟩<;>rcases hd with rfl|⟨hd,x8⟩<;>cases c
  all_goals
   (try rw[ha2] at H)
   (try rw[aC] at H)
   (try rw[x8] at H)
   (try clear ha2)
   (try clear aC)
   (try clear x8)
   have HH:=ae H;clear H;simp only[jD];go_wp2
   go_meet
   case rel=>exact⟨by rw[<-HH.out];rfl,rfl⟩
 case rest =>
  obtain⟨rfl,rfl⟩:=hcut;clear tO hF uE
  cases c
  ·have he:er=3:=uD.out.symm;rw[show(!(false&&t))=true from rfl];clear uD;go_wp2;go_ret;exact⟨by rw[he];rfl,HB.out⟩
  cases t
  ·have he:er=3:=uD.out.symm;rw[show(!(true&&false))=true from rfl];clear uD;go_wp2;go_ret;exact⟨by rw[he];rfl,HB.out⟩
  rw[show(!(true&&true))=false from rfl];obtain⟨v,hv⟩:∃v,(fM xa||fM xb||decide (9<dt.size))=v:=⟨_,rfl⟩
  have HV:=ae hv;clear hv;go_upto_region 4 with fail
  go_cut[66] (fun s66 wx=>s66=.bool v/\wx=wc)
  case first =>
   clear uD kG HX;have hA:xa<0\/(¬xa<0/\999<xa)\/(¬xa<0/\¬999<xa):=oM;have hB:xb<0\/(¬xb<0/\999<xb)\/(¬xb<0/\¬999<xb):=oM;have h9:(9:Int)<(dt.size:Int)\/¬(9:Int)<(dt.size:Int):=oM
   rcases hA with hA|⟨hA,DE⟩|⟨hA,DE⟩<;>rcases hB with hB|⟨hB,cY⟩|⟨hB,cY⟩<;>rcases h9 with h9|h9
   all_goals
    go_wp2
    go_meet
    case rel=>exact⟨acT Value.bool (by rw[<-HV.out,ac0];simp[fM];omega),rfl⟩
  case rest =>
   obtain⟨rfl,rfl⟩:=hcut
   cases v
   ·have kI:=afe.1 HV.out;have qD:Hid ((if j7 dt=true then 3 else if dt=pn then 3 else(0:Int))=er):=by
     have h9:=kI.2;have:=uD.out;rw[aaP dM,aaP dM,aaP (by rw[kI.1];decide),aaP (by simpa using h9)] at this;exact this
    clear uD HV kI;go_wp2
    go_loopw[5] (fun i wr=>∃j:Nat,j<=dt.size/\i=i6 j/\GH dt j/\Yv wr wc) (fun i _=>dt.size-(intOf i).toNat)
    case atStart=>exact⟨0,oM,rfl,fun j hj=>absurd hj (aa0 _),⟨rfl⟩⟩
    case round =>
     obtain⟨j,hj,rfl,dV,hw⟩:=hrel;have pU:=hw.same;clear hw;subst pU;have HN:=ae dV;clear dV
     by_cases au:j<dt.size
     ·have gC:(j:Int)<(dt.size:Int):=oM;have uQ:(0:Int)<=(j:Int):=oM;obtain⟨z,hz⟩:∃z:Nat,(dt[j]'au).toNat=z:=⟨_,rfl⟩
      have HZ:=ae hz;have HW:Hid (kV (dt[j]'au)=(decide ((z:Int)=32)||decide ((z:Int)=10))):=by show _=_;rw[<-hz];exact wb1 _
      by_cases h1:(z:Int)=32
      ·have he:er=3:=by
        have:=qD.out;rw[aaV (KB au (by rw[HW.out,aa1 h1];rfl))] at this;exact this.symm
       have tH:z=32:=oM;subst tH;clear qD HW HN;go_wp2;go_ret;exact⟨by rw[he];rfl,HB.out⟩
      ·by_cases h2:(z:Int)=10
       ·have he:er=3:=by
         have:=qD.out;rw[aaV (KB au (by rw[HW.out,aa1 h2,Bool.or_true]))] at this;exact this.symm
        have pq:z=10:=oM;subst pq;clear qD HW HN;go_wp2;go_ret;exact⟨by rw[he];rfl,HB.out⟩
       ·have ko:Hid (GH dt (j+1)):=by
         intro i hi h
         rcases Nat.lt_or_eq_of_le (Nat.le_of_lt_succ hi) with pL|rfl
         ·exact HN.out i pL h
         ·rw[HW.out,aa9 h1,aa9 h2];rfl
        have tH:¬z=32:=oM;have pq:¬z=10:=oM;have q1:((z:Int)==32)=false:=aaU.2 h1;have q2:((z:Int)==10)=false:=aaU.2 h2;have lF:=HX.out.data;simp only at lF;clear qD HW HN;go_wp2;go_roundw
        case rel=>exact⟨j+1,oM,gN,ko.out,⟨rfl⟩⟩
        case measure=>simp[intOf];omega
     ·have Lh:j=dt.size:=oM;have nT:j7 dt=false:=LU (Lh▸HN.out)
      by_cases hd:dt=pn
      ·have he:er=3:=by rw[<-qD.out,nT,aaP aa7,aaV hd]
       have hq:(dt.toList==[45])=true:=by rw[hd,adE];rfl
       clear qD hd HN nT;go_wp2;go_ret;exact⟨by rw[he];rfl,HB.out⟩
      ·have he:er=0:=by rw[<-qD.out,nT,aaP aa7,aaP hd]
       have hq:(dt.toList==[45])=false:=GO hd;clear qD hd HN nT;go_wp2;go_ret;exact⟨by rw[he];rfl,HB.out⟩
   ·have he:er=1:=by
     have hv:=HV.out;rw[afS] at hv;have:=uD.out;rw[aaP dM,aaP dM] at this
     rcases hv with hv|hv
     ·rw[aaV hv] at this;exact this.symm
     ·rw[aaV (agM hv)] at this;rw[<-this];split<;>rfl
    clear uD HV;go_wp2;go_ret;exact⟨by rw[he];rfl,HB.out⟩
def oS(s:ByteArray):List ByteArray:=(eJ s.data.toList).map fun l=>⟨l.toArray⟩
structure ry(s:ByteArray)(f i:Nat)(O:List ByteArray):Prop where
 le:f<=i
 eq:eJ s.data.toList=O.map (fun x=>x.data.toList)++eJ (s.data.toList.drop f)
 no:lI ((s.data.toList.drop f).take (i-f))
 len:O.length<=f
theorem BE(s:ByteArray)(f i:Nat):(s.extract f i).data.toList=(s.data.toList.drop f).take (i-f):=by
 rw[ByteArray.data_extract,Array.toList_extract]
theorem ry.start(s:ByteArray):ry s 0 0 []:=⟨aaO 0,sM,fun c hc=>by simp at hc,aaO 0⟩
theorem Wf(l:List UInt8)(f i:Nat)(hf:f<=i)(hi:i<l.length):l.drop f=(l.drop f).take (i-f)++l[i]::l.drop (i+1):=by
 have h:=ab8 (i-f) (l.drop f);rw[af0,show f+(i-f)=i from oM,afq hi] at h;exact h.symm
theorem ry.blank{s:ByteArray}{f i:Nat}{O:List ByteArray}(h:ry s f i O)(hi:i<s.size)(hb:(s[i]'hi).toNat=32):ry s (i+1) (i+1) (O++[s.extract f i]):=by
 have pL:i<s.data.toList.length:=hi;have hc:s.data.toList[i]=32:=by
  apply af9.1;exact hb
 have e:=Wf s.data.toList f i h.le pL;rw[hc] at e;refine⟨aaO _,?_,?_,?_⟩
 ·have e2:=acT eJ e;rw[nZ _ _ h.no] at e2;rw[h.eq,e2,aca,abp,aft,afz,BE]
  rfl
 ·intro c hc;simp at hc
 ·rw[aaQ,abl];have:=h.len;have:=h.le;omega
theorem ry.other{s:ByteArray}{f i:Nat}{O:List ByteArray}(h:ry s f i O)(hi:i<s.size)(hb:¬(s[i]'hi).toNat=32):ry s f (i+1) O:=by
 have pL:i<s.data.toList.length:=hi;refine⟨Nat.le_succ_of_le h.le,h.eq,?_,h.len⟩;have hl:i-f<(s.data.toList.drop f).length:=by rw[ac5];have:=h.le;omega
 rw[show i+1-f=(i-f)+1 by have:=h.le;omega,abz hl];intro c hc
 rcases abh.1 hc with hc|hc
 ·exact h.no c hc
 ·rw[abq] at hc;subst hc;rw[agJ];intro e;apply hb;have e2:s.data.toList[i]=32:=by
   rw[<-e]
   congr 1
   have:=h.le;omega
  show(s.data.toList[i]).toNat=32;rw[e2];rfl
theorem ry.done{s:ByteArray}{f:Nat}{O:List ByteArray}(h:ry s f s.size O):O++[s.extract f s.size]=oS s:=by
 have e:(s.data.toList.drop f).take (s.size-f)=s.data.toList.drop f:=by
  apply abv;rw[ac5];exact afM (by rw[show s.data.toList.length=s.size from ab6])
 have hn:=h.no;rw[e] at hn;unfold oS;rw[h.eq,uk _ hn,aca,List.map_map]
 congr 1
 ·have:((fun l:List UInt8=>(⟨l.toArray⟩:ByteArray)) ∘ fun x:ByteArray=>x.data.toList)=id:=by
   funext x
   simp
  rw[this,List.map_id]
 ·simp only[aft,afz];rw[<-e,<-BE]
theorem U9(s:ByteArray)(hs:s.size<=1000)(w:World):Calls prog 66 #[.string s] w fun e w'=>∃a c,e=.returned (.slice a (oS s).length c)/\abw w' a (oS s)/\(a=none->c=0)/\bL w w':=by
 obtain⟨iS,hi,de,cC,cF⟩:=eS Ly;have HI:=ae (⟨hi,de,cC,cF⟩:prog.info? 9=some iS/\_/\_/\_);clear hi de cC cF;go_enter func66,ntmps66;go_wp2
 go_loopw[3,4,5] (fun v fv i wr=>∃(f j:Nat) (O:List ByteArray),j<=s.size/\fv=i6 f/\i=i6 j/\ry s f j O/\wr.ownsRow w.heap.size 9 1 v O.length (n5 O)/\bL w wr) (fun _ _ i _=>s.size-(intOf i).toNat)
 case atStart=>exact⟨0,0,[],oM,rfl,rfl,ry.start s,abg _ _ _ _,aX _ _⟩
 case round =>
  obtain⟨f,j,O,hj,rfl,rfl,eB,bu,hb⟩:=hrel;have iJ:=ae eB;have HB:=ae hb;have HO:=ae bu;have hfj:f<=j:=eB.le;have hol:O.length<=1000:=by have:=eB.len;omega
  clear eB hb bu;have hfj':(f:Int)<=(j:Int):=oM;have hf0:(0:Int)<=(f:Int):=oM;have uQ:(0:Int)<=(j:Int):=oM;have hfs:(f:Int)<=(s.size:Int):=oM;have hjs:(j:Int)<=(s.size:Int):=oM
  by_cases au:j<s.size
  ·have gC:(j:Int)<(s.size:Int):=oM;obtain⟨z,hz⟩:∃z:Nat,(s[j]'au).toNat=z:=⟨_,rfl⟩
   by_cases h32:z=32
   ·subst h32;have HN:=ae (iJ.out.blank au hz);have jM:=ae HB.out.size;clear iJ;go_wp2_with(at_builtin;refine aP rfl _ _ 51 rfl w.heap.size 9 iS _ 1 16 underlying51 HI.out.1 HI.out.2.1 HI.out.2.2.1 HI.out.2.2.2 rfl dM _ O.length (n5 O) rfl (HO.out.alloc _) (some ⟨wr.heap.size,0,none⟩) 1 1 [.string (s.extract f j)] rfl ⟨rfl,by simp[Value.oneCell'],ir ⟨_,rfl,fun j u hj=>uh rfl _ _ j u hj⟩⟩ (by unfold maxLen;omega) oM (by have:=jM.out;simp;omega) ?_;intro v3 w3 bw bo);go_roundw
    case rel =>
     refine⟨j+1,j+1,O++[s.extract f j],oM,gN,gN,HN.out,?_,HB.out.trans (((aX _ _).alloc (by have:=jM.out;omega) _).trans bo)⟩
     simpa [n5] using bw
    case measure=>simp[intOf];omega
   ·have q1:((z:Int)==32)=false:=aaU.2 oM;have HN:=ae (iJ.out.other au (by rw[hz];exact h32));clear iJ;go_wp2;go_roundw
    case rel=>exact⟨f,j+1,O,oM,rfl,gN,HN.out,HO.out,HB.out⟩
    case measure=>simp[intOf];omega
  ·obtain rfl:j=s.size:=oM;have HD:=ae iJ.out.done;have jM:=ae HB.out.size;clear iJ;go_wp2_with(at_builtin;refine aP rfl _ _ 51 rfl w.heap.size 9 iS _ 1 16 underlying51 HI.out.1 HI.out.2.1 HI.out.2.2.1 HI.out.2.2.2 rfl dM _ O.length (n5 O) rfl (HO.out.alloc _) (some ⟨wr.heap.size,0,none⟩) 1 1 [.string (s.extract f s.size)] rfl ⟨rfl,by simp[Value.oneCell'],ir ⟨_,rfl,fun j u hj=>uh rfl _ _ j u hj⟩⟩ (by unfold maxLen;omega) oM (by have:=jM.out;simp;omega) ?_;intro v3 w3 bw bo);have pv:w3.ownsRow w.heap.size 9 1 v3 (O.length+1) (n5 (oS s)):=by
    rw[<-HD.out]
    simpa [n5] using bw
   obtain⟨xa,xc,rfl,cZ,oK,bS⟩:=Og pv (by rw[<-HD.out];simp);have aL:=ae (⟨cZ,oK⟩:_/\_);have fi:=ae (HB.out.trans (((aX _ _).alloc (by have:=jM.out;omega) _).trans bo));clear bw pv cZ oK bS bo;go_ret;exact⟨xa,xc,rfl,aL.out.1,aL.out.2,fi.out⟩
theorem OW:∀(l:List UInt8) (n m:Nat),l.all qI=true->n<10 ^ m->l.foldl ti n<10 ^ (m+l.length)
 |[],n,m,_,h=>by simpa using h
 |z::l,n,m,hd,h=>by
  simp only[agm,abW] at hd;have hz:=hd.1;unfold qI at hz;simp only[abW,aba] at hz;have:=OW l (ti n z) (m+1) hd.2 (by unfold ti;rw[Nat.pow_succ];omega);simp only[List.foldl_cons,acf]
  rwa [show m+(l.length+1)=m+1+l.length from oM]
theorem aac(l:List UInt8)(h:l.all qI=true)(h9:l.length<=9):uf l<1000000000:=by
 have:=OW l 0 0 h sM;rw[abc] at this;exact abF this (abb (Nat.pow_le_pow_right oM h9) dM)
theorem T9(l:List UInt8)(z:UInt8):uf (l++[z])=ti (uf l) z:=by unfold uf;rw[List.foldl_append];rfl
structure xP(s:ByteArray)(j n:Nat):Prop where
 all:(s.data.toList.take j).all qI=true
 val:uf (s.data.toList.take j)=n
theorem xP.lt{s:ByteArray}{j n:Nat}(h:xP s j n)(h9:j<=9):n<1000000000:=by
 rw[<-h.val];exact aac _ h.all (by rw[abm];omega)
theorem Jm(s:ByteArray)(j:Nat)(h:j<s.size):s.data.toList.take (j+1)=s.data.toList.take j++[s[j]'h]:=by
 have h':j<s.data.toList.length:=h;rw[abz h']
 rfl
theorem xP.step{s:ByteArray}{j n z:Nat}(h:xP s j n)(hj:j<s.size)(hz:(s[j]'hj).toNat=z)(h1:48<=z)(h2:z<=57):xP s (j+1) (10*n+(z-48)):=by
 have hd:qI (s[j]'hj)=true:=by unfold qI;rw[hz,aa1 h1,aa1 h2];rfl
 refine⟨?_,?_⟩
 ·rw[Jm s j hj,List.all_append,h.all]
  simp[hd]
 ·rw[Jm s j hj,T9,h.val];unfold ti;rw[hz]
theorem aad{s:ByteArray}{j:Nat}(hj:j<s.size)(hd:qI (s[j]'hj)=false):s.data.toList.all qI=false:=by
 rw[List.all_eq_false];exact⟨s.data.toList[j]'hj,aa5 hj,by show ¬qI (s[j]'hj)=true;rw[hd];exact aa7⟩
theorem ZJ{z:UInt8}(h:z.toNat<48\/57<z.toNat):qI z=false:=by
 unfold qI
 rcases h with h|h
 ·rw[aa9 (show ¬48<=z.toNat from oM)];rfl
 ·rw[aa9 (show ¬z.toNat<=57 from oM),Bool.and_false]
def Ep(s:ByteArray):Int:=if s.data.toList.all qI=false then -1 else if 999<uf s.data.toList then -1 else(uf s.data.toList:Int)
theorem FZ{s:ByteArray}(h:s.size<1\/9<s.size):cR s.data.toList=-1:=by
 have e:s.data.toList.length=s.size:=ab6;unfold cR;rw[e,aaV (h.elim il (fun h=>ir (il h)))]
theorem IL(s:ByteArray)(h:0<s.size):s.data.toList.head?=some (s[0]'h):=by
 have h':0<s.data.toList.length:=h;rw[List.head?_eq_getElem?,aaX h']
 rfl
theorem T8{s:ByteArray}(h:1<s.size)(h0:(s[0]'oM).toNat=48):cR s.data.toList=-1:=by
 have e:s.data.toList.length=s.size:=ab6;unfold cR;rw[aaV];refine ir (ir ⟨?_,by rw[e];exact h⟩);rw[IL s oM]
 congr 1
 apply af9.1;rw[h0];rfl
theorem W7{s:ByteArray}(h1:1<=s.size)(h9:s.size<=9)(h0:¬(1<s.size/\(s[0]'oM).toNat=48)):cR s.data.toList=Ep s:=by
 have e:s.data.toList.length=s.size:=ab6;unfold cR Ep;rw[aaP];rw[e];rintro(h|h|⟨h,h2⟩)
 ·omega
 ·omega
 ·rw[IL s oM] at h;apply h0;refine⟨h2,?_⟩;rw[abY h];rfl
theorem LO{s:ByteArray}{j:Nat}(hj:j<s.size)(h:(s[j]'hj).toNat<48\/57<(s[j]'hj).toNat):Ep s=-1:=by
 unfold Ep;rw[aaV (aad hj (ZJ h))]
theorem xP.done{s:ByteArray}{n:Nat}(h:xP s s.size n):Ep s=if 999<n then -1 else(n:Int):=by
 have e:s.data.toList.take s.size=s.data.toList:=abv (afM ab6);have h1:=h.all;have h2:=h.val;rw[e] at h1 h2;unfold Ep;rw[h1,h2,aaP dM]
theorem rk(s:ByteArray)(hs:s.size<=9223372036854775807)(w:World):Calls prog 67 #[.string s,i6 999] w (rB (i6 (cR s.data.toList)) w):=by
 obtain⟨r,hr⟩:∃r,cR s.data.toList=r:=⟨_,rfl⟩
 rw[hr];have HR:=ae hr;clear hr
 by_cases h1:s.size<1
 ·have mj:s.size=0:=oM;have he:r=-1:=by rw[<-HR.out];exact FZ (il h1)
  clear HR h1;go_enter func67,ntmps67;go_wp2;go_ret;exact⟨by(try subst he);rfl,aX _ _⟩
 have mj:¬s.size=0:=oM;have tH:¬(s.size:Int)<1:=oM
 by_cases h9:9<s.size
 ·have h9':(9:Int)<(s.size:Int):=oM;have he:r=-1:=by rw[<-HR.out];exact FZ (ir h9)
  clear HR;go_enter func67,ntmps67;go_wp2;go_ret;exact⟨by(try subst he);rfl,aX _ _⟩
 have h9':¬(9:Int)<(s.size:Int):=oM;have k0:0<s.size:=oM;have k0':(0:Int)<(s.size:Int):=oM;obtain⟨z0,de⟩:∃z0:Nat,(s[0]'k0).toNat=z0:=⟨_,rfl⟩
 by_cases hb:z0=48/\1<s.size
 ·obtain⟨rfl,hb⟩:=hb;have hJ:(1:Int)<(s.size:Int):=oM;have he:r=-1:=by rw[<-HR.out];exact T8 hb de
  clear HR;go_enter func67,ntmps67;go_wp2;go_ret;exact⟨by(try subst he);rfl,aX _ _⟩
 have Bo:Hid (cR s.data.toList=Ep s):=W7 oM oM (fun h=>hb ⟨de.symm.trans h.2,h.1⟩);have hor:((z0:Int)==48)=false\/(z0=48/\¬(1:Int)<(s.size:Int)):=by
  by_cases e:z0=48
  ·exact ir ⟨e,oM⟩
  ·exact il (aaU.2 oM)
 clear hb
 rcases hor with hq|⟨rfl,hq⟩
 all_goals
  go_enter func67,ntmps67;go_wp2;clear hq de
  go_loopw[5,6] (fun v i wr=>∃j m:Nat,j<=s.size/\v=i6 m/\i=i6 j/\xP s j m/\Yv wr w) (fun _ i _=>s.size-(intOf i).toNat)
  case atStart=>exact⟨0,0,oM,rfl,rfl,⟨rfl,rfl⟩,⟨rfl⟩⟩
  case round =>
   obtain⟨j,m,hj,rfl,rfl,eB,hw⟩:=hrel;have pU:=hw.same;clear hw;subst pU;have iJ:=ae eB;have HM:m<1000000000:=eB.lt oM;clear eB
   by_cases au:j<s.size
   ·have gC:(j:Int)<(s.size:Int):=oM;have uQ:(0:Int)<=(j:Int):=oM;obtain⟨z,hz⟩:∃z:Nat,(s[j]'au).toNat=z:=⟨_,rfl⟩
    have HZ:=ae hz;have hz8:z<256:=by rw[<-hz];exact UInt8.toNat_lt _
    by_cases h48:z<48
    ·have q1:(z:Int)<48:=oM;have he:r=-1:=by rw[<-HR.out,Bo.out];exact LO au (il (by rw[HZ.out];exact h48))
     clear HR Bo iJ;go_wp2;go_ret;exact⟨by(try subst he);rfl,aX _ _⟩
    have q1:¬(z:Int)<48:=oM
    by_cases h57:57<z
    ·have q2:(57:Int)<(z:Int):=oM;have he:r=-1:=by rw[<-HR.out,Bo.out];exact LO au (ir (by rw[HZ.out];exact h57))
     clear HR Bo iJ;go_wp2;go_ret;exact⟨by(try subst he);rfl,aX _ _⟩
    ·have q2:¬(57:Int)<(z:Int):=oM;have HN:=ae (iJ.out.step au HZ.out oM oM);clear iJ;go_wp2;go_roundw
     case rel=>exact⟨j+1,10*m+(z-48),oM,gN,gN,HN.out,⟨rfl⟩⟩
     case measure=>simp[intOf];omega
   ·obtain rfl:j=s.size:=oM;have HD:=ae iJ.out.done
    by_cases ab9:999<m
    ·have h':(999:Int)<(m:Int):=oM;have he:r=-1:=by rw[<-HR.out,Bo.out,HD.out,aaV ab9]
     clear HR Bo iJ HD;go_wp2;go_ret;exact⟨by(try subst he);rfl,aX _ _⟩
    ·have h':¬(999:Int)<(m:Int):=oM;have he:r=m:=by rw[<-HR.out,Bo.out,HD.out,aaP ab9]
     clear HR Bo iJ HD;go_wp2;go_ret;exact⟨by(try subst he);rfl,aX _ _⟩
end
section
open Go.RowKit
theorem V5(L:List UInt8)(h:j7 ⟨L.toArray⟩=false):lI L:=by
 intro c hc e;subst e;have:j7 ⟨L.toArray⟩=true:=by
  unfold j7;rw[afo];exact⟨32,by simpa using hc,rfl⟩
 rw[h] at this
 cases this
theorem Ro(x:St)(n:Int)(b:Bool)(hp:cu x.word=(n,b))(h:aV x=0):qt x.text n b=x/\(eJ x.text).length=Eo n b/\(⟨(rq x.text 0).toArray⟩:ByteArray)=x.word/\(b=true->rq x.text 3 ≠ []):=by
 obtain⟨f1,f2,f3,f4,_,f6,f7⟩:=pJ h;obtain⟨wd,a,c,dt⟩:=x;obtain⟨W,rfl⟩:=mC wd;obtain⟨L,rfl⟩:=mC dt;simp only at f1 f2 f3 f4 f6 f7 hp;have hW:lI W:=by simpa using MM _ f1
 have O0:=V5 L f6;obtain⟨na,_⟩:=yu a f3;obtain⟨nb,_⟩:=yu c f4;have ra:=LP a f3;have rb:=LP c f4;have hd:¬L=[45]:=fun e=>f7 (by rw[e];rfl)
 obtain⟨n',b',e,tO⟩:=iB ⟨W.toArray⟩;rw[hp] at e;obtain⟨rfl,rfl⟩:=af5 e;rw[v8 W L a c n b hp];rw[hp] at f2;simp only[rI] at f2
 rcases tO with⟨rfl,rfl⟩|⟨rfl,rfl⟩|⟨rfl,rfl⟩|⟨rfl,rfl⟩
 ·simp at f2
  obtain⟨⟨rfl,rfl⟩,rfl⟩:=f2;have hs:eJ (W++gJ 0 0 (Int.toNat 0)++ic [] false)=[W]:=by simpa [gJ,ic] using uk W hW
  unfold qt rq;rw[hs];exact⟨sM,rfl,rfl,sM⟩
 ·simp at f2
  obtain⟨rfl,rfl⟩:=f2;have hs:eJ (W++gJ a 0 (Int.toNat 1)++ic [] false)=[W,Lib.itoa a]:=by
   have:=nZ W (Lib.itoa a) hW;rw[uk _ na] at this
   simpa [gJ,ic] using this
  unfold qt rq;rw[hs];exact⟨by simp[ra],rfl,rfl,sM⟩
 ·have hD:lI (if L.isEmpty then [45] else L):=by
   split
   ·intro z hz;simp at hz;subst hz;decide
   ·exact O0
  have hs:eJ (W++gJ a c (Int.toNat 2)++ic L true)=[W,Lib.itoa a,Lib.itoa c,if L.isEmpty then [45] else L]:=by
   have:=nZ W (Lib.itoa a++32::(Lib.itoa c++32::(if L.isEmpty then [45] else L))) hW;rw[nZ _ _ na,nZ _ _ nb,uk _ hD] at this
   simpa [gJ,ic] using this
  cases L with
  |nil =>
   unfold qt rq;rw[hs];exact⟨by simp[ra,rb],rfl,rfl,sM⟩
  |cons z L =>
   rw[show(if(z::L).isEmpty=true then [45] else z::L)=z::L from rfl] at hs;unfold qt rq;rw[hs];refine⟨?_,rfl,rfl,sM⟩;show St.mk ⟨W.toArray⟩ (cR (Lib.itoa a)) (cR (Lib.itoa c)) (if z::L=[45] then⟨#[]⟩ else⟨(z::L).toArray⟩)=_;rw[aaP hd,ra,rb]
 ·simp at f2
  subst f2;have hs:eJ (W++gJ a c (Int.toNat 2)++ic [] false)=[W,Lib.itoa a,Lib.itoa c]:=by
   have:=nZ W (Lib.itoa a++32::Lib.itoa c) hW;rw[nZ _ _ na,uk _ nb] at this
   simpa [gJ,ic] using this
  unfold qt rq;rw[hs];exact⟨by simp[ra,rb],rfl,rfl,sM⟩
theorem XT(l:List UInt8)(n:Int)(b:Bool)(hp:cu ⟨(rq l 0).toArray⟩=(n,b)):(zM l n b->kj l=true/\ju l=qt l n b)/\(kj l=true->zM l n b):=by
 refine⟨fun h=>?_,fun h=>?_⟩
 ·have e:=N8 l n b h;have:=Vl (qt l n b) h.2.2.2.2;rw[e] at this;exact this
 ·unfold kj at h;simp only[abW,aba] at h;obtain⟨h1,h2⟩:=h;unfold AO at h2;rw[aaV h1] at h2;have e:(ju l).text=l:=by
   have:=acT (fun s:ByteArray=>s.data.toList) h2
   simpa using this
  obtain⟨n',b',e2,_⟩:=iB (ju l).word;have t:=Ro (ju l) n' b' e2 h1;rw[e] at t;obtain⟨t1,t2,t3,t4⟩:=t;rw[t3,e2] at hp;obtain⟨rfl,rfl⟩:=af5 hp;refine⟨by rw[t3];exact(pJ h1).1,by rw[t3];exact e2,t2,t4,by rw[t1];exact h1⟩
end
section
open Go.RowKit Go.BigFrame Go.Maps
theorem ad6{α:Type}{l:List α}(h:l.length=1):∃a,l=[a]:=by
 match l,h with
 |[a],_=>exact⟨a,rfl⟩
theorem ad7{α:Type}{l:List α}(h:l.length=2):∃a b,l=[a,b]:=by
 match l,h with
 |[a,b],_=>exact⟨a,b,rfl⟩
theorem ad8{α:Type}{l:List α}(h:l.length=3):∃a b c,l=[a,b,c]:=by
 match l,h with
 |[a,b,c],_=>exact⟨a,b,c,rfl⟩
theorem Ng{w:World}{p:Addr}{v:Value}(h:w.cell? p=some v):p.block<w.heap.size:=mU h
theorem vS:∀(l p:List UInt8),p∈eJ l->p.length<=l.length
 |[],p,h=>by simp[eJ] at h;subst h;simp
 |c::l,p,h=>by
  unfold eJ at h
  split at h
  ·rcases acj.1 h with rfl|h
   ·simp
   ·have:=vS l p h;simp;omega
  ·cases hs:eJ l with
   |nil=>exact absurd hs (EC l)
   |cons a r =>
    rw[hs] at h
    rcases acj.1 h with rfl|h
    ·have:=vS l a (by rw[hs];exact acd);simp;omega
    ·have:=vS l p (by rw[hs];exact acs _ h);simp;omega
def wB(ts:List ByteArray)(i:Nat):ByteArray:=ts.getD i ⟨#[]⟩
theorem Db(s:ByteArray)(i:Nat):rq s.data.toList i=(wB (oS s) i).data.toList:=by
 unfold rq wB oS;rw[abd,abd,acq]
 cases (eJ s.data.toList)[i]? with
 |none=>rfl
 |some l=>simp
theorem vW(s:ByteArray):(⟨s.data.toList.toArray⟩:ByteArray)=s:=sM
theorem Pq(s:ByteArray):(oS s).length=(eJ s.data.toList).length:=abe _
def mf(ts:List ByteArray)(n:Int)(b:Bool):St:=⟨wB ts 0,if 0<n then cR (wB ts 1).data.toList else 0,if 1<n then cR (wB ts 2).data.toList else 0,if b=true then(if wB ts 3=pn then⟨#[]⟩ else wB ts 3) else⟨#[]⟩⟩
theorem Sv(s:ByteArray):s.data.toList=[45]↔s=pn:=by
 constructor
 ·intro h;rw[<-vW s,h];rfl
 ·rintro rfl;rfl
theorem Jk(s:ByteArray)(n:Int)(b:Bool):qt s.data.toList n b=mf (oS s) n b:=by
 unfold qt mf;simp only[Db,vW,Sv]
def uB(ts:List ByteArray)(n:Int)(b:Bool):St × Int :=
 if(dY (wB ts 0)).isSome=true/\ts.length=Eo n b/\(b=false\/¬wB ts 3=⟨#[]⟩)/\aV (mf ts n b)=0 then(mf ts n b,0) else(b8,4)
section
variable{ts:List ByteArray}{n:Int}{b:Bool}
theorem uZ(h1:(dY (wB ts 0)).isSome=true)(h2:ts.length=Eo n b)(h3:b=false\/¬wB ts 3=⟨#[]⟩)(h4:aV (mf ts n b)=0):uB ts n b=(mf ts n b,0):=aaV ⟨h1,h2,h3,h4⟩
theorem Vd(h:(dY (wB ts 0)).isSome=false):uB ts n b=(b8,4):=aaP (fun e=>by rw[h] at e;exact aa7 e.1)
theorem yC(h:¬ts.length=Eo n b):uB ts n b=(b8,4):=aaP (fun e=>h e.2.1)
theorem Ve(h:b=true)(h':wB ts 3=⟨#[]⟩):uB ts n b=(b8,4):=aaP (fun e=>e.2.2.1.elim (fun e=>by rw[h] at e;cases e) (fun e=>e h'))
theorem uY(h:¬aV (mf ts n b)=0):uB ts n b=(b8,4):=aaP (fun e=>h e.2.2.2)
end
theorem XS(s:ByteArray)(n:Int)(b:Bool)(hp:cu (wB (oS s) 0)=(n,b)):uB (oS s) n b=if kj s.data.toList=true then(ju s.data.toList,0) else(b8,4):=by
 have DK:cu ⟨(rq s.data.toList 0).toArray⟩=(n,b):=by rw[Db,vW];exact hp
 have hi:=XT s.data.toList n b DK;have e:zM s.data.toList n b↔((dY (wB (oS s) 0)).isSome=true/\(oS s).length=Eo n b/\(b=false\/¬wB (oS s) 3=⟨#[]⟩)/\aV (mf (oS s) n b)=0):=by
  unfold zM;rw[Db,vW,Jk,Pq,Db];have e3:(b=true->(wB (oS s) 3).data.toList ≠ [])↔(b=false\/¬wB (oS s) 3=⟨#[]⟩):=by
   cases b
   ·simp
   ·simp only[true_implies,Bool.true_eq_false,false_or,ne_eq]
    constructor
    ·intro h h2;apply h;rw[h2]
    ·intro h h2;apply h;rw[<-vW (wB (oS s) 3),h2]
  constructor
  ·rintro⟨h1,_,h3,h4,h5⟩;exact⟨h1,h3,e3.1 h4,h5⟩
  ·rintro⟨h1,h3,h4,h5⟩;exact⟨h1,hp,h3,e3.2 h4,h5⟩
 unfold uB
 by_cases h:zM s.data.toList n b
 ·rw[aaV (e.1 h),aaV (hi.1 h).1,(hi.1 h).2,Jk]
 ·rw[aaP (fun h'=>h (e.2 h')),aaP (fun h'=>h (hi.2 h'))]
theorem kf.XN{q:Nat}{x:St}{w:World}(h:kf q x w)(v:Int):kf q { x with a:=v } (w.setCell ⟨q,1,none⟩ (i6 v)):=by
 obtain⟨⟨h0,h1,h2,h3,hl⟩,f0,f1,f2,f3⟩:=h;exact⟨⟨(aa6 _ _ _ _ sM).trans h0,aa2 _ _ _ h1,(aa6 _ _ _ _ sM).trans h2,(aa6 _ _ _ _ sM).trans h3,by simpa using hl⟩,by simpa using f0,by simpa using f1,by simpa using f2,by simpa using f3⟩
theorem kf.Cu{q:Nat}{x:St}{w:World}(h:kf q x w)(v:Int):kf q { x with b:=v } (w.setCell ⟨q,2,none⟩ (i6 v)):=by
 obtain⟨⟨h0,h1,h2,h3,hl⟩,f0,f1,f2,f3⟩:=h;exact⟨⟨(aa6 _ _ _ _ sM).trans h0,(aa6 _ _ _ _ sM).trans h1,aa2 _ _ _ h2,(aa6 _ _ _ _ sM).trans h3,by simpa using hl⟩,by simpa using f0,by simpa using f1,by simpa using f2,by simpa using f3⟩
theorem kf.Ri{q:Nat}{x:St}{w:World}(h:kf q x w)(v:ByteArray):kf q { x with data:=v } (w.setCell ⟨q,3,none⟩ (.string v)):=by
 obtain⟨⟨h0,h1,h2,h3,hl⟩,f0,f1,f2,f3⟩:=h;exact⟨⟨(aa6 _ _ _ _ sM).trans h0,(aa6 _ _ _ _ sM).trans h1,(aa6 _ _ _ _ sM).trans h2,aa2 _ _ _ h3,by simpa using hl⟩,by simpa using f0,by simpa using f1,by simpa using f2,by simpa using f3⟩
theorem o3(l:List UInt8):cH (cR l)/\cR l<=999/\-1<=cR l:=by
 unfold cR cH
 split
 ·omega
 split
 ·omega
 split<;>omega
theorem XR(s:ByteArray):∀t∈oS s,t.size<=s.size:=by
 intro t ht;obtain⟨l,hl,rfl⟩:=acM.1 ht;rw[sg];have e:s.size=s.data.toList.length:=Array.length_toList.symm;rw[e];exact vS _ l hl
theorem NV(s:ByteArray)(hs:s.size<=1000)(n:Int)(b:Bool)(hp:cu (wB (oS s) 0)=(n,b))(w:World):Calls prog 21 #[.string s] w (rB (.tuple #[(uB (oS s) n b).1.val,i6 (uB (oS s) n b).2]) w):=by
 have wj:=fun W=>U9 s hs W
 have jM:=ae (fun t ht=>abb (XR s t ht) hs);have aE:oS s ≠ []:=by
  intro e;have:=acT List.length e;rw[Pq] at this;exact EC _ (aaZ this)
 generalize oS s=ts at *;obtain⟨res,WJ⟩:∃res,uB ts n b=res:=⟨_,rfl⟩
 rw[WJ];have iN:=ae WJ;clear WJ;obtain⟨n',b',oL,tO⟩:=iB (wB ts 0);rw[hp] at oL;obtain⟨rfl,rfl⟩:=af5 oL;obtain⟨c,B1⟩:∃c,(dY (wB ts 0)).isSome=c:=⟨_,rfl⟩
 have Hv:=fun W=>Fc (wB ts 0) W
 rw[hp,B1] at Hv;have Dk:=ae B1;clear hp B1 oL;obtain⟨t0,tr,rfl⟩:∃t0 tr,ts=t0::tr:=by
  cases ts with
  |nil=>exact absurd rfl aE
  |cons t0 tr=>exact⟨t0,tr,rfl⟩
 clear aE;rw[show wB (t0::tr) 0=t0 from rfl] at Hv Dk;go_enter func21,ntmps21;go_wp2_with fail;refine(wj _).mono ?_;rintro e w1 ⟨ra,rc,rfl,Lq,cU,aw⟩;have HR:=ae ((mQ w b8 31).later aw);have aN:=ae (af (aA w (.cells #[.string b8.word,i6 b8.a,i6 b8.b,.string b8.data] 31)) aw);obtain⟨g,o,rfl,IT⟩:=Lq.resolve_left sM;have Kl:=ae IT;have sW:w.heap.size<w1.heap.size:=by have:=aw.size;simp at this;omega
 clear aw Lq cU wj IT;have c0:=Kl.out 0 sM;simp only[afh,agS] at c0;have BY:0<(t0::tr).length:=sM;have aeL:(0:Int)<((t0::tr).length:Int):=oM;obtain⟨len,Wr⟩:∃len,(t0::tr).length=len:=⟨_,rfl⟩
 rw[Wr] at BY aeL ⊢;have kL:=ae Wr;clear Wr;have lg:=Ng c0;go_wp2_with fail;refine cM (Hv _) ?_;intro w2 aC;have bT:=ae aC;have l2:=aC.size;have c0:=ai aC c0;have lg2:g<w2.heap.size:=oM;clear aC Hv;have JT:Eo n b=1+n.toNat+(if b=true then 1 else 0):=rfl;obtain⟨⟨r0,r1,r2,r3,rl⟩,g0,g1,g2,g3⟩:=HR.out.later bT.out;simp only[b8] at r0 r1 r2 r3
 cases c
 ·have hk:res=(b8,4):=by rw[<-iN.out];exact Vd Dk.out
  clear iN tO;generalize jD n b=F;go_wp2;refine aaY (v:=.tuple #[b8.val,i6 4]) (by simp[results,results21,go_sem,r0,r1,r2,r3,b8]) rfl ⟨by(try rw[hk]);(try rfl),by have aC:=bT.out;have aw:=aN.out;exact bQ⟩
 rcases tO with⟨rfl,rfl⟩|⟨rfl,rfl⟩|⟨rfl,rfl⟩|⟨rfl,rfl⟩
 ·simp only[jD]
  by_cases hc:len=1
  ·obtain rfl:tr=[]:=by have:=kL.out;simp at this;exact aaZ oM
   subst hc;go_wp2_with fail;have kq:mf [t0] 0 false=⟨t0,0,0,⟨#[]⟩⟩:=(by simp[mf,wB,afj]);refine nu (fun wz=>kf w2.heap.size ⟨t0,0,0,⟨#[]⟩⟩ wz/\bL w1 wz) ⟨mQ w2 ⟨t0,0,0,⟨#[]⟩⟩ _,af bT.out (aA w2 _)⟩ ?_;rintro wz ⟨hx,fo⟩;have EW:=ae hx;have we:=ae fo;clear hx fo;have pf:=tA ⟨t0,0,0,⟨#[]⟩⟩ wz ⟨by first|exact(o3 _).1|(unfold cH;simp),by first|exact(o3 _).1|(unfold cH;simp),by have:=jM.out t0 sM;simp only;omega,by first|(have:=jM.out t3 sM;simp only;omega)|(simp[ByteArray.size])⟩;obtain⟨er,iq⟩:∃er,aV ⟨t0,0,0,⟨#[]⟩⟩=er:=⟨_,rfl⟩;have hp:er=0\/0<er:=(by rcases qU ⟨t0,0,0,⟨#[]⟩⟩ with h|h|h<;>omega);rw[iq] at pf;refine pf.mono ?_;rintro e w9 ⟨rfl,jE⟩;have o8:=ae (af we.out jE);obtain⟨⟨q0,q1,q2,q3,ql⟩,-⟩:=EW.out.later jE;simp only at q0 q1 q2 q3;clear r0 r1 r2 r3 rl g0 g1 g2 g3;obtain⟨⟨r0,r1,r2,r3,rl⟩,g0,g1,g2,g3⟩:=HR.out.later o8.out;simp only[b8] at r0 r1 r2 r3;rcases hp with rfl|hp;(focus(have hk:res=(⟨t0,0,0,⟨#[]⟩⟩,0):=(by rw[<-iN.out,<-kq];exact uZ Dk.out rfl (il rfl) (by rw[kq];exact iq)));clear iN pf kq iq jE;go_wp2;refine aaY (v:=.tuple #[(⟨t0,0,0,⟨#[]⟩⟩:St).val,i6 0]) (by simp[results,results21,go_sem,r0,r1,r2,r3]) rfl ⟨by(try rw[hk]);(try rfl),by have jE:=o8.out;have aw:=aN.out;exact bQ⟩);(focus(have hk:res=(b8,4):=(by rw[<-iN.out];exact uY (by rw[kq,iq];omega)));clear iN pf kq iq jE;go_wp2;refine aaY (v:=.tuple #[b8.val,i6 4]) (by simp[results,results21,go_sem,r0,r1,r2,r3,b8]) rfl ⟨by(try rw[hk]);(try rfl),by have jE:=o8.out;have aw:=aN.out;exact bQ⟩)
  ·have hk:res=(b8,4):=(by rw[<-iN.out];exact yC (fun e=>hc (kL.out.symm.trans e)));have hq:((len:Int)==1)=false:=(aaU.2 oM);have dC:((len:Int) != 1)=true:=(afg.2 oM);have kJ:¬(len:Int)=1:=oM;clear iN JT;go_wp2;refine aaY (v:=.tuple #[b8.val,i6 4]) (by simp[results,results21,go_sem,r0,r1,r2,r3,b8]) rfl ⟨by(try rw[hk]);(try rfl),by have aC:=bT.out;have aw:=aN.out;exact bQ⟩
 ·simp only[jD]
  by_cases hc:len=2
  ·obtain⟨t1,rfl⟩:∃t1,tr=[t1]:=by have:=kL.out;simp at this;exact ad6 oM
   subst hc;have c1:=ai bT.out (Kl.out 1 sM);simp only[adJ,afh] at c1;go_wp2_with fail;refine cM (rk t1 (by have:=jM.out t1 sM;omega) _) ?_;intro w3 bo;have HX:=ae ((mQ w2 ⟨t0,0,0,⟨#[]⟩⟩ 31).later bo);have fi:Hid (bL w1 w3):=(af (af bT.out (aA w2 _)) bo);clear bo c1;obtain⟨⟨s0,s1,s2,s3,sl⟩,f0,f1,f2,f3⟩:=id HX.out;simp only at s0 s1 s2 s3;go_wp2_with fail;have kq:mf [t0,t1] 1 false=⟨t0,cR t1.data.toList,0,⟨#[]⟩⟩:=(by simp[mf,wB,afj]);refine nu (fun wz=>kf w2.heap.size ⟨t0,cR t1.data.toList,0,⟨#[]⟩⟩ wz/\bL w1 wz) ⟨HX.out.XN _,Ae fi.out (by show w1.heap.size<=w2.heap.size;omega) _⟩ ?_;rintro wz ⟨hx,fo⟩;have EW:=ae hx;have we:=ae fo;clear hx fo;have pf:=tA ⟨t0,cR t1.data.toList,0,⟨#[]⟩⟩ wz ⟨by first|exact(o3 _).1|(unfold cH;simp),by first|exact(o3 _).1|(unfold cH;simp),by have:=jM.out t0 sM;simp only;omega,by first|(have:=jM.out t3 sM;simp only;omega)|(simp[ByteArray.size])⟩;obtain⟨er,iq⟩:∃er,aV ⟨t0,cR t1.data.toList,0,⟨#[]⟩⟩=er:=⟨_,rfl⟩;have hp:er=0\/0<er:=(by rcases qU ⟨t0,cR t1.data.toList,0,⟨#[]⟩⟩ with h|h|h<;>omega);rw[iq] at pf;refine pf.mono ?_;rintro e w9 ⟨rfl,jE⟩;have o8:=ae (af we.out jE);obtain⟨⟨q0,q1,q2,q3,ql⟩,-⟩:=EW.out.later jE;simp only at q0 q1 q2 q3;clear r0 r1 r2 r3 rl g0 g1 g2 g3;obtain⟨⟨r0,r1,r2,r3,rl⟩,g0,g1,g2,g3⟩:=HR.out.later o8.out;simp only[b8] at r0 r1 r2 r3;rcases hp with rfl|hp;(focus(have hk:res=(⟨t0,cR t1.data.toList,0,⟨#[]⟩⟩,0):=(by rw[<-iN.out,<-kq];exact uZ Dk.out rfl (il rfl) (by rw[kq];exact iq)));clear iN pf kq iq jE;go_wp2;refine aaY (v:=.tuple #[(⟨t0,cR t1.data.toList,0,⟨#[]⟩⟩:St).val,i6 0]) (by simp[results,results21,go_sem,r0,r1,r2,r3]) rfl ⟨by(try rw[hk]);(try rfl),by have jE:=o8.out;have aw:=aN.out;exact bQ⟩);(focus(have hk:res=(b8,4):=(by rw[<-iN.out];exact uY (by rw[kq,iq];omega)));clear iN pf kq iq jE;go_wp2;refine aaY (v:=.tuple #[b8.val,i6 4]) (by simp[results,results21,go_sem,r0,r1,r2,r3,b8]) rfl ⟨by(try rw[hk]);(try rfl),by have jE:=o8.out;have aw:=aN.out;exact bQ⟩)
  ·have hk:res=(b8,4):=(by rw[<-iN.out];exact yC (fun e=>hc (kL.out.symm.trans e)));have hq:((len:Int)==2)=false:=(aaU.2 oM);have dC:((len:Int) != 2)=true:=(afg.2 oM);have kJ:¬(len:Int)=2:=oM;clear iN JT;go_wp2;refine aaY (v:=.tuple #[b8.val,i6 4]) (by simp[results,results21,go_sem,r0,r1,r2,r3,b8]) rfl ⟨by(try rw[hk]);(try rfl),by have aC:=bT.out;have aw:=aN.out;exact bQ⟩
 ·simp only[jD]
  by_cases hc:len=4
  ·obtain⟨t1,t2,t3,rfl⟩:∃t1 t2 t3,tr=[t1,t2,t3]:=by have:=kL.out;simp at this;exact ad8 oM
   subst hc;have c1:=ai bT.out (Kl.out 1 sM);simp only[adJ,afh] at c1;go_wp2_with fail;refine cM (rk t1 (by have:=jM.out t1 sM;omega) _) ?_;intro w3 bo;have HX:=ae ((mQ w2 ⟨t0,0,0,⟨#[]⟩⟩ 31).later bo);have fi:Hid (bL w1 w3):=(af (af bT.out (aA w2 _)) bo);clear bo c1;obtain⟨⟨s0,s1,s2,s3,sl⟩,f0,f1,f2,f3⟩:=id HX.out;simp only at s0 s1 s2 s3;have c2:=ai fi.out (Kl.out 2 sM);simp only[adJ,afh] at c2;have l3:=fi.out.size;have hgq:g ≠ w2.heap.size:=oM;have aeH:w2.heap.size ≠ g:=oM;go_wp2_with fail;refine cM (rk t2 (by have:=jM.out t2 sM;omega) _) ?_;intro w5 fm;have pg:=ae ((HX.out.XN (cR t1.data.toList)).later fm);have iM:Hid (bL w1 w5):=(by have bo:=fi.out;exact adh (Ae bo (by show w1.heap.size<=w2.heap.size;omega) _) (fm.mono (by simp;omega)));clear fm c2 s0 s1 s2 s3 sl f0 f1 f2 f3;obtain⟨⟨s0,s1,s2,s3,sl⟩,f0,f1,f2,f3⟩:=id pg.out;simp only at s0 s1 s2 s3;have c3:=ai iM.out (Kl.out 3 sM);simp only[adJ,afh] at c3
   by_cases h3:t3=⟨#[]⟩
   ·have hk:res=(b8,4):=by rw[<-iN.out];exact Ve rfl h3
    subst h3;clear iN;obtain⟨⟨r0,r1,r2,r3,rl⟩,g0,g1,g2,g3⟩:=HR.out.later iM.out;simp only[b8] at r0 r1 r2 r3;go_wp2;refine aaY (v:=.tuple #[b8.val,i6 4]) (by simp[results,results21,go_sem,r0,r1,r2,r3,b8]) rfl ⟨by(try rw[hk]);(try rfl),by have fm:=iM.out;have aw:=aN.out;exact bQ⟩
   ·have Ll:(t3.toList==[])=false:=by rw[adE,aaU];intro e;apply h3;rw[<-vW t3,e]
    have dA:t3.toList.isEmpty=false:=by rw[List.isEmpty_eq_false_iff];exact aaU.1 Ll
    have dC:t3.data.toList.isEmpty=false:=by rw[<-adE];exact dA
    by_cases hd:t3=pn
    ·have hq:(t3.toList==[45])=true:=by rw[hd,adE];rfl
     have HD:=ae hd;clear hd;have d3:((w5.setCell ⟨w2.heap.size,2,none⟩ (i6 (cR t2.data.toList))).setCell ⟨w2.heap.size,3,none⟩ (.string t3)).cell? ⟨w2.heap.size,3,none⟩=some (.string t3):=((pg.out.Cu (cR t2.data.toList)).Ri t3).box.2.2.2.1;go_wp2_with fail;have kq:mf [t0,t1,t2,t3] 2 true=⟨t0,cR t1.data.toList,cR t2.data.toList,⟨#[]⟩⟩:=(by simp[mf,wB,HD.out]);refine nu (fun wz=>kf w2.heap.size ⟨t0,cR t1.data.toList,cR t2.data.toList,⟨#[]⟩⟩ wz/\bL w1 wz) ⟨((pg.out.Cu (cR t2.data.toList)).Ri t3).Ri ⟨#[]⟩,Ae (Ae (Ae iM.out (by show w1.heap.size<=w2.heap.size;omega) _) (by show w1.heap.size<=w2.heap.size;omega) _) (by show w1.heap.size<=w2.heap.size;omega) _⟩ ?_;rintro wz ⟨hx,fo⟩;have EW:=ae hx;have we:=ae fo;clear hx fo;have pf:=tA ⟨t0,cR t1.data.toList,cR t2.data.toList,⟨#[]⟩⟩ wz ⟨by first|exact(o3 _).1|(unfold cH;simp),by first|exact(o3 _).1|(unfold cH;simp),by have:=jM.out t0 sM;simp only;omega,by first|(have:=jM.out t3 sM;simp only;omega)|(simp[ByteArray.size])⟩;obtain⟨er,iq⟩:∃er,aV ⟨t0,cR t1.data.toList,cR t2.data.toList,⟨#[]⟩⟩=er:=⟨_,rfl⟩;have hp:er=0\/0<er:=(by rcases qU ⟨t0,cR t1.data.toList,cR t2.data.toList,⟨#[]⟩⟩ with h|h|h<;>omega);rw[iq] at pf;refine pf.mono ?_;rintro e w9 ⟨rfl,jE⟩;have o8:=ae (af we.out jE);obtain⟨⟨q0,q1,q2,q3,ql⟩,-⟩:=EW.out.later jE;simp only at q0 q1 q2 q3;clear r0 r1 r2 r3 rl g0 g1 g2 g3;obtain⟨⟨r0,r1,r2,r3,rl⟩,g0,g1,g2,g3⟩:=HR.out.later o8.out;simp only[b8] at r0 r1 r2 r3;rcases hp with rfl|hp;(focus(have hk:res=(⟨t0,cR t1.data.toList,cR t2.data.toList,⟨#[]⟩⟩,0):=(by rw[<-iN.out,<-kq];exact uZ Dk.out rfl (ir h3) (by rw[kq];exact iq)));clear iN pf kq iq jE;go_wp2;refine aaY (v:=.tuple #[(⟨t0,cR t1.data.toList,cR t2.data.toList,⟨#[]⟩⟩:St).val,i6 0]) (by simp[results,results21,go_sem,r0,r1,r2,r3]) rfl ⟨by(try rw[hk]);(try rfl),by have jE:=o8.out;have aw:=aN.out;exact bQ⟩);(focus(have hk:res=(b8,4):=(by rw[<-iN.out];exact uY (by rw[kq,iq];omega)));clear iN pf kq iq jE;go_wp2;refine aaY (v:=.tuple #[b8.val,i6 4]) (by simp[results,results21,go_sem,r0,r1,r2,r3,b8]) rfl ⟨by(try rw[hk]);(try rfl),by have jE:=o8.out;have aw:=aN.out;exact bQ⟩)
    ·have hq:(t3.toList==[45])=false:=GO hd;go_wp2_with fail;have kq:mf [t0,t1,t2,t3] 2 true=⟨t0,cR t1.data.toList,cR t2.data.toList,t3⟩:=(by simp[mf,wB,hd]);refine nu (fun wz=>kf w2.heap.size ⟨t0,cR t1.data.toList,cR t2.data.toList,t3⟩ wz/\bL w1 wz) ⟨(pg.out.Cu _).Ri _,Ae (Ae iM.out (by show w1.heap.size<=w2.heap.size;omega) _) (by show w1.heap.size<=w2.heap.size;omega) _⟩ ?_;rintro wz ⟨hx,fo⟩;have EW:=ae hx;have we:=ae fo;clear hx fo;have pf:=tA ⟨t0,cR t1.data.toList,cR t2.data.toList,t3⟩ wz ⟨by first|exact(o3 _).1|(unfold cH;simp),by first|exact(o3 _).1|(unfold cH;simp),by have:=jM.out t0 sM;simp only;omega,by first|(have:=jM.out t3 sM;simp only;omega)|(simp[ByteArray.size])⟩;obtain⟨er,iq⟩:∃er,aV ⟨t0,cR t1.data.toList,cR t2.data.toList,t3⟩=er:=⟨_,rfl⟩;have hp:er=0\/0<er:=(by rcases qU ⟨t0,cR t1.data.toList,cR t2.data.toList,t3⟩ with h|h|h<;>omega);rw[iq] at pf;refine pf.mono ?_;rintro e w9 ⟨rfl,jE⟩;have o8:=ae (af we.out jE);obtain⟨⟨q0,q1,q2,q3,ql⟩,-⟩:=EW.out.later jE;simp only at q0 q1 q2 q3;clear r0 r1 r2 r3 rl g0 g1 g2 g3;obtain⟨⟨r0,r1,r2,r3,rl⟩,g0,g1,g2,g3⟩:=HR.out.later o8.out;simp only[b8] at r0 r1 r2 r3;rcases hp with rfl|hp;(focus(have hk:res=(⟨t0,cR t1.data.toList,cR t2.data.toList,t3⟩,0):=(by rw[<-iN.out,<-kq];exact uZ Dk.out rfl (ir h3) (by rw[kq];exact iq)));clear iN pf kq iq jE;go_wp2;refine aaY (v:=.tuple #[(⟨t0,cR t1.data.toList,cR t2.data.toList,t3⟩:St).val,i6 0]) (by simp[results,results21,go_sem,r0,r1,r2,r3]) rfl ⟨by(try rw[hk]);(try rfl),by have jE:=o8.out;have aw:=aN.out;exact bQ⟩);(focus(have hk:res=(b8,4):=(by rw[<-iN.out];exact uY (by rw[kq,iq];omega)));clear iN pf kq iq jE;go_wp2;refine aaY (v:=.tuple #[b8.val,i6 4]) (by simp[results,results21,go_sem,r0,r1,r2,r3,b8]) rfl ⟨by(try rw[hk]);(try rfl),by have jE:=o8.out;have aw:=aN.out;exact bQ⟩)
  ·have hk:res=(b8,4):=(by rw[<-iN.out];exact yC (fun e=>hc (kL.out.symm.trans e)));have hq:((len:Int)==4)=false:=(aaU.2 oM);have dC:((len:Int) != 4)=true:=(afg.2 oM);have kJ:¬(len:Int)=4:=oM;clear iN JT;go_wp2;refine aaY (v:=.tuple #[b8.val,i6 4]) (by simp[results,results21,go_sem,r0,r1,r2,r3,b8]) rfl ⟨by(try rw[hk]);(try rfl),by have aC:=bT.out;have aw:=aN.out;exact bQ⟩
 ·simp only[jD]
  by_cases hc:len=3
  ·obtain⟨t1,t2,rfl⟩:∃t1 t2,tr=[t1,t2]:=by have:=kL.out;simp at this;exact ad7 oM
   subst hc;have c1:=ai bT.out (Kl.out 1 sM);simp only[adJ,afh] at c1;go_wp2_with fail;refine cM (rk t1 (by have:=jM.out t1 sM;omega) _) ?_;intro w3 bo;have HX:=ae ((mQ w2 ⟨t0,0,0,⟨#[]⟩⟩ 31).later bo);have fi:Hid (bL w1 w3):=(af (af bT.out (aA w2 _)) bo);clear bo c1;obtain⟨⟨s0,s1,s2,s3,sl⟩,f0,f1,f2,f3⟩:=id HX.out;simp only at s0 s1 s2 s3;have c2:=ai fi.out (Kl.out 2 sM);simp only[adJ,afh] at c2;have l3:=fi.out.size;have hgq:g ≠ w2.heap.size:=oM;have aeH:w2.heap.size ≠ g:=oM;go_wp2_with fail;refine cM (rk t2 (by have:=jM.out t2 sM;omega) _) ?_;intro w5 fm;have pg:=ae ((HX.out.XN (cR t1.data.toList)).later fm);have iM:Hid (bL w1 w5):=(by have bo:=fi.out;exact adh (Ae bo (by show w1.heap.size<=w2.heap.size;omega) _) (fm.mono (by simp;omega)));clear fm c2 s0 s1 s2 s3 sl f0 f1 f2 f3;obtain⟨⟨s0,s1,s2,s3,sl⟩,f0,f1,f2,f3⟩:=id pg.out;simp only at s0 s1 s2 s3;go_wp2_with fail;have kq:mf [t0,t1,t2] 2 false=⟨t0,cR t1.data.toList,cR t2.data.toList,⟨#[]⟩⟩:=(by simp[mf,wB,afj]);refine nu (fun wz=>kf w2.heap.size ⟨t0,cR t1.data.toList,cR t2.data.toList,⟨#[]⟩⟩ wz/\bL w1 wz) ⟨pg.out.Cu _,Ae iM.out (by show w1.heap.size<=w2.heap.size;omega) _⟩ ?_;rintro wz ⟨hx,fo⟩;have EW:=ae hx;have we:=ae fo;clear hx fo;have pf:=tA ⟨t0,cR t1.data.toList,cR t2.data.toList,⟨#[]⟩⟩ wz ⟨by first|exact(o3 _).1|(unfold cH;simp),by first|exact(o3 _).1|(unfold cH;simp),by have:=jM.out t0 sM;simp only;omega,by first|(have:=jM.out t3 sM;simp only;omega)|(simp[ByteArray.size])⟩;obtain⟨er,iq⟩:∃er,aV ⟨t0,cR t1.data.toList,cR t2.data.toList,⟨#[]⟩⟩=er:=⟨_,rfl⟩;have hp:er=0\/0<er:=(by rcases qU ⟨t0,cR t1.data.toList,cR t2.data.toList,⟨#[]⟩⟩ with h|h|h<;>omega);rw[iq] at pf;refine pf.mono ?_;rintro e w9 ⟨rfl,jE⟩;have o8:=ae (af we.out jE);obtain⟨⟨q0,q1,q2,q3,ql⟩,-⟩:=EW.out.later jE;simp only at q0 q1 q2 q3;clear r0 r1 r2 r3 rl g0 g1 g2 g3;obtain⟨⟨r0,r1,r2,r3,rl⟩,g0,g1,g2,g3⟩:=HR.out.later o8.out;simp only[b8] at r0 r1 r2 r3;rcases hp with rfl|hp;(focus(have hk:res=(⟨t0,cR t1.data.toList,cR t2.data.toList,⟨#[]⟩⟩,0):=(by rw[<-iN.out,<-kq];exact uZ Dk.out rfl (il rfl) (by rw[kq];exact iq)));clear iN pf kq iq jE;go_wp2;refine aaY (v:=.tuple #[(⟨t0,cR t1.data.toList,cR t2.data.toList,⟨#[]⟩⟩:St).val,i6 0]) (by simp[results,results21,go_sem,r0,r1,r2,r3]) rfl ⟨by(try rw[hk]);(try rfl),by have jE:=o8.out;have aw:=aN.out;exact bQ⟩);(focus(have hk:res=(b8,4):=(by rw[<-iN.out];exact uY (by rw[kq,iq];omega)));clear iN pf kq iq jE;go_wp2;refine aaY (v:=.tuple #[b8.val,i6 4]) (by simp[results,results21,go_sem,r0,r1,r2,r3,b8]) rfl ⟨by(try rw[hk]);(try rfl),by have jE:=o8.out;have aw:=aN.out;exact bQ⟩)
  ·have hk:res=(b8,4):=(by rw[<-iN.out];exact yC (fun e=>hc (kL.out.symm.trans e)));have hq:((len:Int)==3)=false:=(aaU.2 oM);have dC:((len:Int) != 3)=true:=(afg.2 oM);have kJ:¬(len:Int)=3:=oM;clear iN JT;go_wp2;refine aaY (v:=.tuple #[b8.val,i6 4]) (by simp[results,results21,go_sem,r0,r1,r2,r3,b8]) rfl ⟨by(try rw[hk]);(try rfl),by have aC:=bT.out;have aw:=aN.out;exact bQ⟩
structure aer(W:World)(e n c:Nat)(v:Value)(L:List ByteArray)(q:Sk)(k:Nat)(p2:Sk)(B:Rs)(w:World):Prop where
 at':js e k p2 B w
 nf:p2.nf=q
 fit:ru n q
 bX:B.bX<=c
 bel:bL W w
 ay:∀j,zJ e k B j->W.heap.size<=j
 row:w.ownsRow W.heap.size 9 1 v L.length (n5 L)
 X:B.X=fun j=>v.ownBlock=some j
 off:∀j,v.ownBlock=some j->¬zJ e k B j
 bv:¬v.ownBlock=some B.v
def mO(W:World)(e n c:Nat)(v:Value)(L:List ByteArray)(q:Sk)(w:World):Prop:=∃k p2 B,aer W e n c v L q k p2 B w
section
variable{W:World}{e n c:Nat}{v:Value}{L:List ByteArray}{q:Sk}{w w':World}
theorem mO.bel(h:mO W e n c v L q w):bL W w:=by
 obtain⟨k,p2,B,h⟩:=h;exact h.bel
theorem mO.row(h:mO W e n c v L q w):w.ownsRow W.heap.size 9 1 v L.length (n5 L):=by
 obtain⟨k,p2,B,h⟩:=h;exact h.row
theorem mO.later(h:mO W e n c v L q w)(hb:bL w w'):mO W e n c v L q w':=by
 obtain⟨k,p2,B,h⟩:=h;exact⟨k,p2,B,h.at'.later hb,h.nf,h.fit,h.bX,af h.bel hb,h.ay,dR h.row (fun g hg=>hb.block g (h.row.lt g hg).2),h.X,h.off,h.bv⟩
theorem mO.mono{m d:Nat}(h:mO W e n c v L q w)(hn:n<=m)(hc:c<=d):mO W e m d v L q w:=by
 obtain⟨k,p2,B,h⟩:=h;exact⟨k,p2,B,h.at',h.nf,h.fit.mono hn,abb h.bX hc,h.bel,h.ay,h.row,h.X,h.off,h.bv⟩
theorem UI(h:mO W e n c v L q w)(hn:n<=3800000)(hc:c<=229000)(x:St)(h0:aV x=0) :
 Calls prog 13 #[.pointer (some ⟨e,0,none⟩),x.val] w fun e' w'=>e'=.returned (.string ⟨(jc q x).1.toArray⟩)/\mO W e (n+10989) (c+999) v L (jc q x).2 w':=by
 obtain⟨k,p2,B,h⟩:=h;obtain⟨eB,rfl,hf,hcc,Aq,CU,gX,hX,eX,Fm⟩:=h;refine(UL e k p2 B w eB n hf.kA hf.left hf.gO hf.vg oM oM x h0).mono ?_;rintro e' w' ⟨he,k',p',B',hs⟩;have Te:∀j,zJ e k' B' j->zJ e k B j\/w.heap.size<=j:=by
  rintro j (e|e)
  ·exact(hs.ay j e).imp il id
  ·exact il (ir e)
 refine⟨he,k',p',B',hs.at',hs.nf,hf.step x (aby x h0),abb hs.bX oM,Aq.trans (hs.only.below Aq.size CU),fun j hj=>(Te j hj).elim (CU j) (fun e=>abb Aq.size e),dR gX (fun g hg=>hs.only.block g (gX.lt g hg).2 (eX g hg)),hs.X.trans hX,fun j hj e=>(Te j e).elim (eX j hj) (fun e2=>by have:=(gX.lt j hj).2;omega),fun e=>?_⟩
 rcases hs.v with e1|e1
 ·exact Fm (e1▸e)
 ·have:=(gX.lt _ e).2;omega
theorem mO.put(h:mO W e n c v L q w){v':Value}{s:ByteArray}(hg:w.grownBy w' v.ownBlock)(gX:w'.ownsRow W.heap.size 9 1 v' (L++[s]).length (n5 (L++[s])))(eB:v'.ownBlock=v.ownBlock\/v'.ownBlock=some w.heap.size):mO W e n c v' (L++[s]) q w':=by
 obtain⟨k,p2,B,h⟩:=h;have hO:aH (fun j=>v.ownBlock=some j) w w':=(aH.refl (fun j=>v.ownBlock=some j) w).grown hg (fun k hk=>il hk);have hx:∀j,v.ownBlock=some j->B.off k j:=fun j hj=>ir (by rw[h.X];exact hj)
 have eX:∀{j:Nat},¬B.off k j->¬v.ownBlock=some j:=fun h1 e=>h1 (hx _ e)
 have aE:∀j,v'.ownBlock=some j->v.ownBlock=some j\/j=w.heap.size:=fun j hj=>eB.imp (fun e1=>e1.symm.trans hj) (fun e1=>abY (hj.symm.trans e1))
 have h2:bN k p2 B w':=h.at'.st.frame hO (fun j hj e=>h.off j e (il hj)) h.bv (fun aE q hq=>eX (h.at'.st.mem.eX aE q hq)) (fun aE q hq=>eX (h.at'.st.mem.km aE q hq)) (fun r hr=>(h.at'.st.mem.eY r hr).mono hx) (fun i hi j hj aE q hq=>eX (h.at'.st.mem.iF i hi j hj aE q hq)) (fun aE q hq=>eX (h.at'.st.mem.mS aE q hq));refine⟨k,p2,{ B with X:=fun j=>v'.ownBlock=some j },⟨h.at'.st.GS h2 (fun j=>v'.ownBlock=some j) (fun j hj=>(aE j hj).imp (fun e=>by rw[h.X];exact e) (fun e=>afM e.symm)) (fun j hj=>(gX.lt j hj).2),?_,h.at'.off⟩,h.nf,h.fit,h.bX,h.bel.trans (hO.below h.bel.size (fun j hj=>(h.row.lt j hj).1)),h.ay,gX,rfl,fun j hj e=>?_,fun e=>?_⟩
 ·rw[hO.block e (aK h.at'.a7) (fun e2=>h.off e e2 (ir rfl))];exact h.at'.a7
 ·rcases aE j hj with e1|e1
  ·exact h.off j e1 e
  ·have:=h.at'.plt j e;omega
 ·rcases aE _ e with e1|e1
  ·exact h.bv e1
  ·have e2:B.v=w.heap.size:=e1;have:=aK h.at'.st.mem.cE.a7;omega
end
theorem XA{W w w':World}{e k:Nat}{p2:Sk}{B:Rs}(h:RX e k p2 B (fun _=>False) w w')(hb:bL W w):mO W e 0 0 (.slice none 0 0) [] oQ w':=by
 refine⟨k,p2,B,h.at',h.nf,U3,afM h.bX,af hb h.bel,fun j hj=>abb hb.size (h.ay j hj),abg _ _ _ _,h.X.trans (by funext j;simp[Value.ownBlock]),fun j hj=>(by cases hj),fun e=>(by cases e)⟩
theorem Oa(s:ByteArray)(hs:s.size<=1000)(W:World):Calls prog 21 #[.string s] W (rB (.tuple #[(if kj s.data.toList=true then ju s.data.toList else b8).val,i6 (if kj s.data.toList=true then 0 else 4)]) W):=by
 obtain⟨n,b,hp,_⟩:=iB (wB (oS s) 0);have hS:=NV s hs n b hp W;rw[XS s n b hp] at hS
 cases hok:kj s.data.toList
 ·rw[hok,aaP aa7] at hS;exact hS
 ·rw[hok,aaV rfl] at hS;exact hS
theorem Zm:(⟨(eb 4).toArray⟩:ByteArray)=⟨#[101,114,114,111,114,32,52]⟩:=dK
theorem NK{w:World}{a:Option Addr}{xs:List ByteArray}{c:Nat}(h:StrsAt w a xs)(hn:a=none->c=0):gg w 1 a xs.length c (n5 xs):=by
 refine⟨by simp[n5],?_,?_⟩
 ·intro u hu;obtain⟨s,_,rfl⟩:=acM.1 hu
  rfl
 ·rcases h with rfl|⟨b,o,rfl,hc⟩
  ·cases a with
   |none=>exact il ⟨rfl,rfl,hn rfl⟩
   |some ad=>exact ir ⟨ad,rfl,fun j u hj=>by simp[n5] at hj⟩
  ·refine ir ⟨_,rfl,fun j u hj=>?_⟩;have nB:j<xs.length:=by
    rcases adI j xs.length with h|h
    ·exact h
    ·rw[acC (by simp[n5];exact h)] at hj;cases hj
   have:=hc j nB
   simp[n5,aaX nB] at hj
   subst hj;rw[Addr.add_mid,this]
   simp[List.getD,nB]
theorem Oh{w:World}{base e g n c:Nat}{xs ys:List ByteArray}(h:w.ownsRow base e 1 (.slice (some ⟨g,0,none⟩) n c) n (n5 (xs++ys)))(hn:n=xs.length+ys.length):StrsAt w (some ⟨g,0,none⟩) xs:=by
 refine ir ⟨g,0,rfl,fun i hi=>?_⟩;have hc:=h.cellAt (g:=g) i oM;rw[abc,hc,n5,acq,abU hi]
 simp[List.getD,hi]
theorem XY{l:List ByteArray}{j:Nat}(h:j<l.length):(kz l).take (j+1)=(kz l).take j++[vy l j]:=by
 rw[agk,Kr h]
 rfl
theorem aak{w:World}{base n:Nat}{v:Value}{xs:List Value}(h:w.ownsRow base 9 1 v n xs)(hn:0<n):∃g c,v=.slice (some ⟨g,0,none⟩) n c/\n<=c/\c<=9223372036854775807:=by
 obtain⟨a,c,rfl,h0,h1,h2,h3⟩:=iA h
 cases a with
 |none=>have:=h0 rfl;omega
 |some ad =>
  obtain⟨g,rfl⟩:=h1 ad rfl;exact⟨g,c,rfl,h3,h2⟩
theorem aaE(g n c i:Nat)(w:World)(h:i<=c):(Instr.slice 51 (.slice (some ⟨g,0,none⟩) n c) none (some (i6 (i:Int))) none).run prog w=.ok (.slice (some ⟨g,0,none⟩) i c) w:=by
 simp[go_sem,h]
theorem KH{l L:List ByteArray}{j:Nat}{W w w':World}{e n c n' c':Nat}{v v':Value}{q:Sk}{x:ByteArray}(h:mO W e n c v L q w)(hg:w.grownBy w' v.ownBlock)(gX:w'.ownsRow W.heap.size 9 1 v' (L.length+1) (n5 L++[.string x]))(eB:v'.ownBlock=v.ownBlock\/v'.ownBlock=some w.heap.size)(hL:L++[x]=(kz l).take (j+1))(hc:q=xG (l.take (j+1))/\n<=n'/\c<=c'):mO W e n' c' v' ((kz l).take (j+1)) (xG (l.take (j+1))) w':=by
 rw[<-hL,<-hc.1];exact(h.put hg (by simpa [n5] using gX) eB).mono hc.2.1 hc.2.2
theorem consoleSays_walk(l:List ByteArray)(la:Option Addr)(lc:Nat)(w:World)(hl:StrsAt w la l)(hn:la=none->lc=0)(hlen:l.length<=9223372036854775807)(hT:lO w)(hLW:nk w) :
 Calls prog 4 #[.slice la l.length lc] w (rB (.bool true) w):=by
 obtain⟨iS,hi,de,cC,cF⟩:=eS Ly;have HI:=ae (⟨hi,de,cC,cF⟩:prog.info? 9=some iS/\_/\_/\_);clear hi de cC cF;have HL:=ae hl;have HN:=ae hn;have HT:=ae hT;have gM:=ae hLW;clear hl hn hT hLW;go_enter func4,ntmps4;go_wp2_with fail;refine cM (Td _ HT.out gM.out) ?_;intro w1 aw;have aN:=ae aw;clear aw
 by_cases h100:100<l.length
 ·have adU:(100:Int)<(l.length:Int):=oM;go_wp2;go_ret;exact⟨rfl,aN.out⟩
 have adU:¬(100:Int)<(l.length:Int):=oM;go_wp2
 go_loopw[4] (fun i wr=>∃j:Nat,j<=l.length/\i=i6 j/\(∀(k:Nat) (h:k<l.length),k<j->(l[k]'h).size<=100)/\wr=w1) (fun i _=>l.length-(intOf i).toNat)
 case atStart=>exact⟨0,oM,rfl,fun k _ hk=>absurd hk (aa0 _),rfl⟩
 case round =>
  obtain⟨j,hj,rfl,iV,rfl⟩:=hrel;have jM:=ae iV;clear iV
  by_cases au:j<l.length
  ·have gC:(j:Int)<(l.length:Int):=oM;have uQ:(0:Int)<=(j:Int):=oM
   rcases HL.out.form with rfl|⟨bl,ol,rfl⟩
   ·exact absurd au (aa0 _)
   have vJ:=(HL.out.later aN.out).at au
   by_cases hbig:100<(l[j]).size
   ·have adW:(100:Int)<((l[j]).size:Int):=oM;clear jM;go_wp2;go_ret;exact⟨rfl,aN.out⟩
   ·have adW:¬(100:Int)<((l[j]).size:Int):=oM;go_wp2;go_roundw
    case rel =>
     refine⟨j+1,oM,gN,fun k hk vw=>?_,by first|rfl|trivial⟩
     by_cases e:k=j
     ·subst e;omega
     ·exact jM.out k hk oM
    case measure=>simp[intOf];omega
  ·have HS:Hid (∀s∈l,s.size<=1000):=by
    intro s hs;obtain⟨k,hk,rfl⟩:=List.mem_iff_getElem.1 hs;have:=jM.out k hk oM
    omega
   clear jM hj;have hmark:Hid (l.length<=100):=by show _<=_;omega
   go_wp2_with(first
    |(at_builtin;refine aP rfl (.const (.slice none 0 0)) (.tmp 35) 51 rfl wr.heap.size 9 iS _ 1 16 underlying51 HI.out.1 HI.out.2.1 HI.out.2.2.1 HI.out.2.2.2 rfl dM _ 0 [] rfl (abg _ _ _ _) la l.length lc (n5 l) rfl (NK (HL.out.later aN.out) HN.out) (by unfold maxLen;omega) oM (aaO _) ?_;intro v1 w3 aO bo)
    |(at_builtin;refine aP rfl (.tmp 36) (.tmp 37) 51 rfl wr.heap.size 9 iS _ 1 16 underlying51 HI.out.1 HI.out.2.1 HI.out.2.2.1 HI.out.2.2.2 rfl dM v1 (0+l.length) ([]++n5 l) rfl (aO.alloc _) (some ⟨w3.heap.size,0,none⟩) 1 1 [.string ⟨#[109,97,114,107]⟩] rfl ⟨rfl,by simp[Value.oneCell'],ir ⟨_,rfl,fun j u hj=>uh rfl _ _ j u hj⟩⟩ (by unfold maxLen;omega) oM (by have:=bo.size;simp;omega) ?_;intro v2 w4 aT fk;have jV:=ae (af aN.out ((bo.alloc bo.size _).trans fk));obtain⟨g,c2,rfl,Tg,ig⟩:=aak aT oM;have aL:=ae (Oh (xs:=l) (ys:=[⟨#[109,97,114,107]⟩]) (by simpa [n5] using aT) sM);have tQ:=fun w=>aaE g (0+l.length+1) c2 l.length w oM;clear bo fk aO aT)
    |fail)
   by_cases h90:90<l.length
   ·have Wp:(90:Int)<(l.length:Int):=oM;have ck:Hid (∀W,Calls prog 20 #[.iface 87 (i6 2),i6 2] W (rB (.bool true) W)):=fun W=>XJ 2 2 W
    refine cM (Ss l _ _ _ h90) ?_;intro w5 fm;have iM:=ae (af jV.out fm);clear fm;go_wp2_with fail;refine cM (ck.out _) ?_;intro w6 YO;have HB6:=ae (af iM.out YO);clear YO;go_wp2;go_ret;exact⟨rfl,HB6.out⟩
   have Wp:¬(90:Int)<(l.length:Int):=oM;refine(KJ l _ _ _ aL.out oM HS.out (HT.out.later jV.out) (gM.out.later jV.out)).mono ?_;rintro e w5 ⟨b,rfl,hbn,nT,fm⟩;have Ke:=ae (Jl nT);have z8:=ae (aL.out.later fm);have iM:=ae (af jV.out fm);clear fm nT hbn aL jV tQ Tg ig aN;go_wp2_with fail;refine(UO _ (fun _=>False) (fun _ h=>h.elim)).mono ?_;rintro e w6 ⟨m,k,p2,B,rfl,hp⟩;have HR:=ae (XA (W:=w5) hp (aX _ _));clear hp;go_wp2
   go_loopw[9,10] (fun v i wr=>∃j:Nat,j<=l.length/\i=i6 j/\mO w5 m (10989*j) (999*j) v ((kz l).take j) (xG (l.take j)) wr) (fun _ i _=>l.length-(intOf i).toNat)
   case atStart=>exact⟨0,oM,rfl,by rw[afv,afv];exact HR.out⟩
   case round =>
    clear HR;obtain⟨j,hj,rfl,hp⟩:=hrel;have HP:=ae hp;clear hp
    by_cases au:j<l.length
    ·have gC:(j:Int)<(l.length:Int):=oM;have uQ:(0:Int)<=(j:Int):=oM
     rcases HL.out.form with rfl|⟨bl,ol,rfl⟩
     ·exact absurd au (aa0 _)
     have HCE:Hid (∀w',bL w5 w'->w'.cell? ⟨bl,ol+j,none⟩=some (.string l[j])):=fun w' hb=>(HL.out.later (af iM.out hb)).at au
     have vJ:=HCE.out _ HP.out.bel;have iV:=HS.out _ (aa5 au);have Yn:=ae (fun W=>Oa l[j] iV W);have OE:=ae (XY au).symm;have kO:=Ks au;have vh:=Mx au;have iC:Hid (((kz l).take j).length<=100):=by show _<=_;rw[abm,pF];omega
     generalize (kz l).take j=L at *;generalize xG (l.take j)=q at *;generalize l[j]=sj at *;obtain⟨pk,kb⟩:∃b,kj sj.data.toList=b:=⟨_,rfl⟩
     have YV:ri sj=(decide (sj.size<=40)&&pk):=by unfold ri;rw[kb]
     rw[kb] at Yn;unfold yw at kO vh;rw[YV] at kO vh;obtain⟨x,hx⟩:∃x,vy l j=x:=⟨_,rfl⟩
     rw[hx] at kO OE;clear hx YV;obtain⟨y,hy⟩:∃y,(if pk=true then ju sj.data.toList else b8)=y:=⟨_,rfl⟩
     rw[hy] at Yn;obtain⟨wd,ya,yb,dt⟩:=y;go_wp2_with fail;refine cM (Yn.out _) ?_;intro w7 II;have HX:=ae (mQ w7 ⟨wd,ya,yb,dt⟩ 31);have RQ:=ae (HP.out.later II);have S0:=HCE.out _ RQ.out.bel;have hlb7:=aq S0;clear II Yn HP vJ
     by_cases A7:sj.size<=40
     ·have Wo:(sj.size:Int)<=40:=oM
      cases pk
      ·rw[aa1 A7,adA,aaP aa7] at kO vh;have Lt:x=⟨#[101,114,114,111,114,32,52]⟩:=kO.trans Zm;subst Lt;have RL:Hid (q=xG (l.take (j+1))/\10989*j<=10989*(j+1)/\999*j<=999*(j+1)):=⟨vh.symm,oM,oM⟩
       clear kO vh hy A7 kb;have Kg:=ae (RQ.out.later (aA w7 (.cells #[.string wd,i6 ya,i6 yb,.string dt] 31)));go_wp2_with(at_builtin;refine agy _ rfl (.tmp 85) (.tmp 87) 51 rfl w5.heap.size 9 iS _ 1 16 underlying51 HI.out.1 HI.out.2.1 HI.out.2.2.1 HI.out.2.2.2 rfl dM u9 L.length (n5 L) rfl ((Kg.out).row.alloc _) ⟨w7.heap.size+1,0,none⟩ 1 1 [.string ⟨#[101,114,114,111,114,32,52]⟩] rfl rfl (fun j u hj=>uh (by first|rfl|simp) _ _ j u hj) (by simp[Value.oneCell']) (by have:=iC.out;unfold maxLen;omega) (by have:=iC.out;omega) (by have:=(Kg.out).bel.size;simp at this ⊢;omega) ?_;intro v3 w8 bw r8 YX tZ);go_roundw;(case rel=>exact⟨j+1,oM,gN,KH ((Kg.out).later (aA _ _)) r8 bw tZ OE.out RL.out⟩);(case measure=>simp[intOf];omega)
      ·rw[aa1 A7,adA,aaV rfl] at kO vh;rw[aaV rfl] at hy;have h0:aV ⟨wd,ya,yb,dt⟩=0:=by
        rw[<-hy];refine FV (s:=sj) ?_;unfold ri;rw[aa1 A7,kb,adA]
       rw[hy] at kO vh;have oC:Hid (∀w',mO w5 m (10989*j) (999*j) u9 L q w'->Calls prog 13 #[.pointer (some ⟨m,0,none⟩),.agg #[.string wd,i6 ya,i6 yb,.string dt]] w' fun e w2=>e=.returned (.string x)/\mO w5 m (10989*j+10989) (999*j+999) u9 L (jc q ⟨wd,ya,yb,dt⟩).2 w2):=fun w' h=>by
        have:=UI h oM oM ⟨wd,ya,yb,dt⟩ h0;rw[kO];exact this
       have RL:Hid ((jc q ⟨wd,ya,yb,dt⟩).2=xG (l.take (j+1))/\10989*j+10989<=10989*(j+1)/\999*j+999<=999*(j+1)):=⟨vh.symm,oM,oM⟩
       obtain⟨⟨x0,x1,x2,x3,xl⟩,-⟩:=HX.out;simp only at x0 x1 x2 x3;generalize (jc q ⟨wd,ya,yb,dt⟩).2=q' at *;clear kO vh hy A7 kb h0;go_wp2_with fail;refine cM (oC.out _ (RQ.out.later (aA w7 _))) ?_;intro w9 hp9;have HP9:=ae hp9;clear hp9 oC RQ x0 x1 x2 x3 xl HX S0;go_wp2_with(at_builtin;refine agy _ rfl (.tmp 85) (.tmp 87) 51 rfl w5.heap.size 9 iS _ 1 16 underlying51 HI.out.1 HI.out.2.1 HI.out.2.2.1 HI.out.2.2.2 rfl dM u9 L.length (n5 L) rfl ((HP9.out).row.alloc _) ⟨w9.heap.size,0,none⟩ 1 1 [.string x] rfl rfl (fun j u hj=>uh (by first|rfl|simp) _ _ j u hj) (by simp[Value.oneCell']) (by have:=iC.out;unfold maxLen;omega) (by have:=iC.out;omega) (by have:=(HP9.out).bel.size;simp at this ⊢;omega) ?_;intro v3 w8 bw r8 YX tZ);go_roundw;(case rel=>exact⟨j+1,oM,gN,KH ((HP9.out).later (aA _ _)) r8 bw tZ OE.out RL.out⟩);(case measure=>simp[intOf];omega)
     ·have Wo:¬(sj.size:Int)<=40:=oM;rw[aa9 A7,agi,aaP aa7] at kO vh;have Lt:x=⟨#[101,114,114,111,114,32,52]⟩:=kO.trans Zm;subst Lt;have RL:Hid (q=xG (l.take (j+1))/\10989*j<=10989*(j+1)/\999*j<=999*(j+1)):=⟨vh.symm,oM,oM⟩
      clear kO vh hy A7 kb;have Kg:=ae (RQ.out.later (aA w7 (.cells #[.string wd,i6 ya,i6 yb,.string dt] 31)));go_wp2_with(at_builtin;refine agy _ rfl (.tmp 85) (.tmp 87) 51 rfl w5.heap.size 9 iS _ 1 16 underlying51 HI.out.1 HI.out.2.1 HI.out.2.2.1 HI.out.2.2.2 rfl dM u9 L.length (n5 L) rfl ((Kg.out).row.alloc _) ⟨w7.heap.size+1,0,none⟩ 1 1 [.string ⟨#[101,114,114,111,114,32,52]⟩] rfl rfl (fun j u hj=>uh (by first|rfl|simp) _ _ j u hj) (by simp[Value.oneCell']) (by have:=iC.out;unfold maxLen;omega) (by have:=iC.out;omega) (by have:=(Kg.out).bel.size;simp at this ⊢;omega) ?_;intro v3 w8 bw r8 YX tZ);go_roundw;(case rel=>exact⟨j+1,oM,gN,KH ((Kg.out).later (aA _ _)) r8 bw tZ OE.out RL.out⟩);(case measure=>simp[intOf];omega)
    ·obtain rfl:j=l.length:=oM;have gX:=HP.out.row;rw[show(kz l).take l.length=kz l from abv (by rw[pF];exact aaO _)] at gX;obtain⟨a',c',hv,cZ,-,-⟩:=mx (xs:=kz l) gX rfl;rw[pF] at hv;subst hv;have aL:=ae cZ;have gZ:=ae (af iM.out HP.out.bel);have HOU:=ae (Ke.out.later HP.out.bel);have Kf:=ae (z8.out.later HP.out.bel);clear cZ gX HP Ke z8;have HSN:=ae (fun W=>Mp 0 W);have cy:Hid (∀w',StrsAt w' (some ⟨b,0,none⟩) (kz l)->StrsAt w' a' (kz l)->Calls prog 22 #[.slice (some ⟨b,0,none⟩) l.length l.length,.slice a' l.length c'] w' (rB (.bool true) w')):=fun w' h1 h2=>by
      have:=Cw (kz l) (kz l) (some ⟨b,0,none⟩) a' l.length c' w' h1 h2 (by rw[pF];exact hlen);rw[pF,show It (kz l) (kz l)=true by simp[It]] at this;exact this
     have cS:Hid (∀w',StrsAt w' (some ⟨g,0,none⟩) l->StrsAt w' la l->Calls prog 22 #[.slice (some ⟨g,0,none⟩) l.length c2,.slice la l.length lc] w' (rB (.bool true) w')):=fun w' h1 h2=>by
      have:=Cw l l (some ⟨g,0,none⟩) la c2 lc w' h1 h2 hlen;rw[show It l l=true by simp[It]] at this;exact this
     go_wp2_with fail;refine cM (HSN.out _) ?_;intro w7 II;have HB7:=ae II;clear II;go_wp2_with fail;refine cM (cy.out _ (HOU.out.later HB7.out) (aL.out.later HB7.out)) ?_;intro w8 hb8;have RE:=ae (af HB7.out hb8);clear hb8;go_wp2_with fail;refine cM (cS.out _ (Kf.out.later RE.out) (HL.out.later (af gZ.out RE.out))) ?_;intro w9 jE;have o8:=ae (af gZ.out (af RE.out jE));clear jE;go_wp2;go_ret;exact⟨rfl,o8.out⟩
end
end Go.Proofs.YtlhgjplipgandaaGreatDoor
