/- Joined. -/
import Derived.Laws.IdiomStrings
import Derived.Deep.RegionHeld3
import Derived.Deep.RegionLaw
import Derived.Test.YtlhgjplipgandaaGreatDoorE1
set_option maxRecDepth 100000
set_option maxHeartbeats 8000000
set_option linter.unusedSimpArgs false
set_option linter.unusedSectionVars false
namespace Go.Proofs.YtlhgjplipgandaaGreatDoor
open Tryz
open Go.RowKit Go.BigFrame
def bt(n:Nat):UInt8:=UInt8.ofNat n
def Ai:Nat->Nat->List UInt8
 |0,n=>[bt (48+n)]
 |f+1,n=>if n<10 then [bt (48+n)] else Ai f (n / 10)++[bt (48+n % 10)]
theorem Xl(f g n:Nat)(hf:n<=f)(hg:n<=g):Ai f n=Ai g n:=by
 induction f generalizing g n with
 |zero =>
  obtain rfl:n=0:=oM
  cases g<;>simp[Ai]
 |succ f ih =>
  cases g with
  |zero =>
   obtain rfl:n=0:=oM
   simp[Ai]
  |succ g =>
   simp only[Ai]
   split
   ·rfl
   ·rw[ih g (n / 10) oM oM]
def gd(n:Nat):List UInt8:=Ai n n
theorem xU(n:Nat):gd n=if n<10 then [bt (48+n)] else gd (n / 10)++[bt (48+n % 10)]:=by
 unfold gd
 cases n with
 |zero=>rfl
 |succ n =>
  simp only[Ai]
  split
  ·rfl
  ·rw[Xl n ((n+1) / 10) ((n+1) / 10) oM oM]
def rD(n:Int):ByteArray:=⟨(if n < -9 then 45::(gd (n.natAbs / 10)++gd (n.natAbs % 10)) else if n<0 then 45::gd n.natAbs else gd n.natAbs).toArray⟩
theorem nG(k n:Nat)(h:n<10 ^ (k+1)):(gd n).length<=k+1:=by
 induction k generalizing n with
 |zero=>rw[xU];simp at h;simp[h]
 |succ k ih =>
  rw[xU]
  split
  ·simp
  ·have:n / 10<10 ^ (k+1):=by rw[Nat.div_lt_iff_lt_mul oM];rw[Nat.pow_succ] at h;exact h
   have:=ih _ this
   simp;omega
theorem We(W:World)(g n:Nat)(z:Int)(hz:z=(n:Int))(hn:n<256)(h:W.cell? ⟨g,0,none⟩=some (.int .u8 z)) :
 Sem.run prog (convert 174 9 (.slice (some ⟨g,0,none⟩) 1 1)) W=.ok (.string ⟨#[bt n]⟩) W:=by
 subst hz;refine run_convert_bytes_back W 174 9 5 ⟨g,0,none⟩ 1 [bt n] underlying174 underlying5 underlying9 ?_;intro j hj
 match j,hj with
 |0,_=>simpa [bt,Addr.add,Nat.mod_eq_of_lt hn] using h
theorem Qz(n:Nat)(w:World)(hn:n<10) :
 Calls prog 59 #[i6 n] w (rB (.string ⟨(gd n).toArray⟩) w):=by
 have h1:¬((n:Int) < -9):=oM;have h2:¬((n:Int)<0):=oM;have h3:((n:Int)<10):=oM;have Nc:=We (w.alloc (.cells #[.int .u8 (48+(n:Int))] 5)) w.heap.size (48+n) (48+(n:Int)) oM oM (adg w _ _ _ 0);go_enter func59,ntmps59;go_wp2;go_ret;rw[xU,aca hn];exact⟨rfl,bQ⟩
theorem PA{P:Program}{ops:Array Oper}{o:Oper}{a:Act}{w:World}{K:Act->World->Prop}{Q:Exit->Act->World->Prop}{E:Prop}
 (hg:o.guard=none) (f:FuncId) (k:Nat) (t:TypeId) (qf:o.op=Op.call { callee:=Callee.value (.func f),args:=#[.tmp k],argTypes:=#[t] }) (eg:∀args w,(callFunc f args).run P w=.ok (.enter f args) w)
 (v r:Value) (hx:a.tmps[k]?.getD undef=v) (S:World->Prop) (hc:Calls P f #[v] w fun e w'=>e=.returned r/\S w') (h:∀w',S w'->K (a.put o.dst r) w') :
 if Region.wanted o (yielded ops a.tmps)=true then Oper.wp P o a w K Q else E:=by
 have hw:Region.wanted o (yielded ops a.tmps)=true:=by simp[Region.wanted,hg]
 rw[aca hw];unfold Oper.wp
 simp[execOp,qf,resolve,invoke,hx,eg,go_sem]
 refine hc.mono ?_;rintro _ w' ⟨rfl,hs⟩;exact h w' hs
theorem WM{w w1:World}{v:Value}{T:TypeId}(h:Below (w.alloc (.cells #[v] T)).heap.size (w.alloc (.cells #[v] T)) w1):w1.cell? ⟨w.heap.size,0,none⟩=some v:=by
 rw[h.cell (p:=⟨w.heap.size,0,none⟩) sM];exact adg w _ _ _ 0
theorem WN{w w1:World}{v:Value}{T:TypeId}(h:Below (w.alloc (.cells #[v] T)).drew.heap.size (w.alloc (.cells #[v] T)).drew w1):w1.cell? ⟨w.heap.size,0,none⟩=some v:=by
 rw[h.cell (p:=⟨w.heap.size,0,none⟩) sM];exact adg w _ _ _ 0
def VQ(z:Int)(l:List UInt8):Prop:=∀z' w,z'=z->Calls prog 59 #[i6 z'] w (rB (.string ⟨l.toArray⟩) w)
theorem Xg(n:Nat)(w:World)(hn:¬n<10)(hm:n<9223372036854775808)(IH:VQ (n / 10:Nat) (gd (n / 10))) :
 Calls prog 59 #[i6 n] w (rB (.string ⟨(gd n).toArray⟩) w):=by
 have h1:¬((n:Int) < -9):=oM;have h2:¬((n:Int)<0):=oM;have h3:¬((n:Int)<10):=oM;have htd:(n:Int).tdiv 10=((n / 10:Nat):Int):=by rw[Int.tdiv_eq_ediv_of_nonneg oM];omega
 have htm:(n:Int).tmod 10=((n % 10:Nat):Int):=by rw[ad5 oM];omega
 obtain⟨q,hq⟩:∃q:Nat,n / 10=q:=⟨_,rfl⟩
 obtain⟨r,hr⟩:∃r:Nat,n % 10=r:=⟨_,rfl⟩
 have hd:gd n=gd q++[bt (48+r)]:=by rw[xU,ab6 hn,hq,hr]
 rw[hd];rw[hq] at htd IH;rw[hr] at htm;have hr9:r<10:=oM;have sf:(gd q).length<=30:=by
  have:=nG 18 q oM;omega
 have hqm:(q:Int)<922337203685477581:=oM;clear hd hq hr;have gm:IntKind.i64.wrap (q:Int)=q:=by rw[acC];omega
 have qh:IntKind.i64.wrap (48+(r:Int))=48+r:=by rw[acC];omega
 have GH:IntKind.u8.wrap (48+(r:Int))=48+r:=by rw[IntKind.wrap_u8];omega
 have Nc:∀(W:World) (g:Nat),W.cell? ⟨g,0,none⟩=some (.int .u8 (48+(r:Int)))->Sem.run prog (convert 174 9 (.slice (some ⟨g,0,none⟩) 1 1)) W=.ok (.string ⟨#[bt (48+r)]⟩) W:=fun W g h=>We W g (48+r) _ oM oM h
 have sw:∀W,Sem.run prog (Op.stringOp .add ⟨(gd q).toArray⟩ ⟨#[bt (48+r)]⟩) W=.ok (.string ⟨(gd q++[bt (48+r)]).toArray⟩) W:=by
  intro W;rw[ae2]
  ·congr 2
  ·simp[ByteArray.size];omega
 have jm:({ data:=(gd q++[bt (48+r)]).toArray }:ByteArray).size<=31:=by simp[ByteArray.size];omega
 generalize hL:({ data:=(gd q).toArray }:ByteArray)=sL at sw;generalize hR:({ data:=#[bt (48+r)] }:ByteArray)=sR at sw Nc;generalize hO:({ data:=(gd q++[bt (48+r)]).toArray }:ByteArray)=sO at sw jm ⊢;have IH':∀z' w,z'=(q:Int)->Calls prog 59 #[i6 z'] w (rB (.string sL) w):=by rw[<-hL];exact IH
 have IHH:Hid _:=IH';clear IH IH' hL hR hO;have HC:Hid _:=Nc;clear Nc;go_enter func59,ntmps59;go_wp2_with fail;clear h1 h2 h3 hn hm;have cA0:=HC.out (w.alloc (.cells #[.int .u8 (48+(r:Int))] 5)) w.heap.size (adg w _ _ _ 0);have cA1:=HC.out (w.alloc (.cells #[.int .u8 (48+(r:Int))] 5)).drew w.heap.size (adg w _ _ _ 0);have cA2:=HC.out (w.drew.alloc (.cells #[.int .u8 (48+(r:Int))] 5)) w.heap.size (adg w.drew _ _ _ 0);have cA3:=HC.out (w.drew.alloc (.cells #[.int .u8 (48+(r:Int))] 5)).drew w.heap.size (adg w.drew _ _ _ 0);have abB:∀args w,Sem.run prog (callFunc 59 args) w=.ok (.enter 59 args) w:=by intro args w;go_simp
 go_region_law (first|(refine PA rfl 59 29 3 rfl abB (i6 q) (.string sL) rfl (fun w1=>Below _ _ w1) (IHH.out _ _ rfl) ?_;intro w1 aw;replace aw:Below _ _ w1:=aw;clear cA0 cA1 cA2 cA3;have cB0:=HC.out (w1.alloc (.cells #[.int .u8 (48+(r:Int))] 5)) w1.heap.size (adg w1 _ _ _ 0);have cB1:=HC.out (w1.alloc (.cells #[.int .u8 (48+(r:Int))] 5)).drew w1.heap.size (adg w1 _ _ _ 0);have cB2:=HC.out (w1.drew.alloc (.cells #[.int .u8 (48+(r:Int))] 5)) w1.heap.size (adg w1.drew _ _ _ 0);have cB3:=HC.out (w1.drew.alloc (.cells #[.int .u8 (48+(r:Int))] 5)).drew w1.heap.size (adg w1.drew _ _ _ 0);(first|(have hk:=WM aw;have Y8:=HC.out w1 w.heap.size hk;have Y9:=HC.out w1.drew w.heap.size hk)|(have hk:=WM (w:=w.drew) aw;have Y8:=HC.out w1 w.heap.size hk;have Y9:=HC.out w1.drew w.heap.size hk)|(have hk:=WN aw;have Y8:=HC.out w1 w.heap.size hk;have Y9:=HC.out w1.drew w.heap.size hk)|(have hk:=WN (w:=w.drew) aw;have Y8:=HC.out w1 w.heap.size hk;have Y9:=HC.out w1.drew w.heap.size hk)|skip)))
 all_goals (go_wp2;go_ret;exact⟨rfl,bQ⟩)
theorem sr(n:Nat)(hm:n<9223372036854775808):VQ (n:Int) (gd n):=by
 induction n using Nat.strongRecOn with
 |_ n ih =>
  rintro _ w rfl
  by_cases hn:n<10
  ·exact Qz n w hn
  ·exact Xg n w hn hm (ih (n / 10) oM oM)
theorem xF(a b:List UInt8)(h:a.length+b.length<=9223372036854775807)(W:World):Sem.run prog (Op.stringOp .add ⟨a.toArray⟩ ⟨b.toArray⟩) W=.ok (.string ⟨(a++b).toArray⟩) W:=by
 rw[ae2]
 ·congr 2
 ·simpa [ByteArray.size] using h
theorem VF(m:Nat):(-(m:Int)).tdiv 10=-((m / 10:Nat):Int):=by rw[Int.neg_tdiv,Int.tdiv_eq_ediv_of_nonneg oM];omega
theorem VG(m:Nat):(-(m:Int)).tmod 10=-((m % 10:Nat):Int):=by rw[Int.neg_tmod,ad5 oM];omega
theorem Xh(m:Nat)(n:Int)(hn:n=-(m:Int))(w:World)(h1:n < -9)(hm:-9223372036854775808<=n) :
 Calls prog 59 #[i6 n] w (rB (.string (rD n)) w):=by
 have hq:wrap64 (-n.tdiv 10)=((m / 10:Nat):Int):=by
  rw[hn,VF];unfold wrap64;omega
 have hr:wrap64 (-n.tmod 10)=((m % 10:Nat):Int):=by
  rw[hn,VG];unfold wrap64;omega
 have e:rD n=⟨([45]++gd (m / 10)++gd (m % 10)).toArray⟩:=by unfold rD;rw[aca h1,show n.natAbs=m from oM];simp
 have l1:=nG 18 (m / 10) oM;have l2:=nG 18 (m % 10) oM;have D1:=sr (m / 10) oM;have D2:=sr (m % 10) oM;rw[e];have s1:=xF [45] (gd (m / 10)) (by simp;omega);have s2:=xF ([45]++gd (m / 10)) (gd (m % 10)) (by simp;omega);generalize ([45]++gd (m / 10)++gd (m % 10))=u at *;generalize ([45]++gd (m / 10))=v at *;generalize gd (m / 10)=x at *;generalize gd (m % 10)=y at *;generalize m / 10=q at *;generalize m % 10=r at *;clear e l1 l2 hn;go_enter func59,ntmps59;go_wp2_with fail;refine cM (D1 _ _ rfl) ?_;intro w1 aw;go_wp2_with fail;refine cM (D2 _ _ rfl) ?_;intro w2 aA;go_wp2;go_ret;exact⟨rfl,bQ⟩
theorem TZ(m:Nat)(n:Int)(hn:n=-(m:Int))(w:World)(h1:¬n < -9)(h0:n<0) :
 Calls prog 59 #[i6 n] w (rB (.string (rD n)) w):=by
 have hq:wrap64 (-n)=(m:Int):=by
  rw[hn];unfold wrap64;omega
 have e:rD n=⟨([45]++gd m).toArray⟩:=by unfold rD;rw[ab6 h1,aca h0,show n.natAbs=m from oM];simp
 have l1:=nG 18 m oM;have D1:=sr m oM;rw[e];have s1:=xF [45] (gd m) (by simp;omega);generalize ([45]++gd m)=u at *;generalize gd m=x at *;have HN:Hid (-n=(m:Int)):=by show -n=(m:Int);omega
 clear e l1 hn hq;go_enter func59,ntmps59;go_wp2_with fail;refine cM (D1 _ _ HN.out) ?_;intro w1 aw;go_wp2;go_ret;exact⟨rfl,bQ⟩
theorem Xf(n:Int)(w:World)(h1:-9223372036854775808<=n)(h2:n<=9223372036854775807) :
 Calls prog 59 #[i6 n] w (rB (.string (rD n)) w):=by
 by_cases h9:n < -9
 ·exact Xh n.natAbs n oM w h9 h1
 by_cases h0:n<0
 ·exact TZ n.natAbs n oM w h9 h0
 have e:rD n=⟨(gd n.natAbs).toArray⟩:=by unfold rD;rw[ab6 h9,ab6 h0]
 rw[e];exact sr n.natAbs oM n w oM
theorem TY(n:Int)(h1:-9223372036854775808<=n)(h2:n<=9223372036854775807):(rD n).size<=60:=by
 have l1:=nG 18 (n.natAbs / 10) oM;have l2:=nG 18 (n.natAbs % 10) oM;have l3:=nG 18 n.natAbs oM;unfold rD;simp only[ByteArray.size]
 split
 ·simp;omega
 ·split
  ·simp;omega
  ·simp;omega
def iV(n:Int):List UInt8:=(rD n).data.toList
theorem Xe(n:Int):rD n=⟨(iV n).toArray⟩:=by simp[iV]
theorem so(n:Int)(h:cY n):(iV n).length<=60:=by
 have:=TY n h.1 h.2;unfold iV;rw[adk];exact this
theorem N3(n:Int)(w:World)(h:cY n) :
 Calls prog 59 #[i6 n] w (rB (.string ⟨(iV n).toArray⟩) w):=by
 rw[<-Xe];exact Xf n w h.1 h.2
def rU(r:Rq):List UInt8:=[if r.wr=true then 119 else 114]
def D3(r:Rq):List UInt8:=rU r++iV r.f++[43]++iV r.m++[35]
def qM(l:List Int):Nat->List UInt8
 |0=>[]
 |k+1=>qM l k++(if k=0 then [] else [44])++iV (l.getD k 0)
def P8(r:Rq):Prop:=∀i,i<r.tags.length->cY (r.tags.getD i 0)
theorem Q5(r:Rq)(hf:cY r.f)(hm:cY r.m):(D3 r).length<=123:=by
 have h1:=so r.f hf;have h2:=so r.m hm
 simp[D3,rU];omega
theorem VC(r:Rq)(h:P8 r)(k:Nat)(hk:k<=r.tags.length):(qM r.tags k).length<=61*k:=by
 induction k with
 |zero=>simp[qM]
 |succ k ih =>
  have h1:=so _ (h k oM);have h2:=ih oM;have h3:(if k=0 then([]:List UInt8) else [44]).length<=1:=by split<;>simp
  simp only[qM,ab7];omega
def Iv(r:Rq):List UInt8:=D3 r++qM r.tags r.tags.length
theorem S9{w:World}{a:Option Addr}{xs:List Int}(h:dZ w a xs)(k:Nat)(hk:k<xs.length):∃b o,a=some ⟨b,o,none⟩/\w.cell? ⟨b,o+k,none⟩=some (i6 (xs.getD k 0))/\b<w.heap.size:=by
 rcases h with rfl|⟨b,o,rfl,hc⟩
 ·exact absurd hk (acg _)
 ·exact⟨b,o,rfl,hc k hk,al (hc k hk)⟩
theorem CD(r:Rq)(w:World)(hr:r.At w)(ht:P8 r)(hl:r.tags.length<=8) :
 Calls prog 110 #[r.val] w (rB (.string ⟨(Iv r).toArray⟩) w):=by
 have l1:=so r.f hr.f;have l2:=so r.m hr.m;have lh:=Q5 r hr.f hr.m;have s1:=xF (rU r) (iV r.f) (by simp[rU];omega);have s2:=xF (rU r++iV r.f) [43] (by simp[rU];omega);have s3:=xF (rU r++iV r.f++[43]) (iV r.m) (by simp[rU];omega);have s4:=xF (rU r++iV r.f++[43]++iV r.m) [35] (by simp[rU];omega);have HF:Hid _:=hr.f;have HM:Hid _:=hr.m;have HT:Hid (D3 r=rU r++iV r.f++[43]++iV r.m++[35]):=rfl;have ZT:rU r=if r.wr=true then [119] else [114]:=by unfold rU;split<;>rfl
 have LW:Hid _:=ZT;obtain⟨wr,f,m,da,dc,data,ta,tc,tags,born⟩:=r;simp only at *;have sf:=hr.tl;have HR:Hid _:=hr;have Ry:=hr.tags;have YO:Hid _:=Ry;clear hr ZT Ry;generalize rU ⟨wr,f,m,da,dc,data,ta,tc,tags,born⟩=c0 at *;generalize c0++iV f++[43]++iV m++[35]=c5 at *;generalize c0++iV f++[43]++iV m=c4 at *;generalize c0++iV f++[43]=c3 at *;generalize c0++iV f=c2 at *
 cases wr
 all_goals
  simp at LW
  obtain rfl:=LW.out;go_enter func110,ntmps110;go_wp2_with fail;refine wQ ?_
  repeat(go_big_quiet_step (first|exact rfl|(go_at_call 59;exact b8 (N3 _ _ (by first|exact HF.out|exact HM.out)))))
  refine qE ?_;(try clear hc hf hz);(try clear HB);intro p HB hc hf hz;have Js:bL w p.v:=bQ;have c4:p.v.cell? ⟨w.heap.size,4,none⟩=some (.slice ta tags.length tc):=by rw[hc _ _ sM];simp
  have z4:w.heap.size<p.v.heap.size:=al c4;generalize p.v=w1 at *;clear hc hf hz HB s1 s2 s3 s4 LW p l1 l2 HF HM;go_wp2_with fail
  go_loopw[3,4] (fun s i wr=>∃k:Nat,k<=tags.length/\i=i6 k/\s=.string ⟨(c5++qM tags k).toArray⟩/\bL w1 wr) (fun _ i _=>tags.length-(intOf i).toNat)
  case atStart=>exact⟨0,oM,rfl,by simp[qM],aQ _ _⟩
  case round =>
   obtain⟨k,hk,rfl,rfl,HB⟩:=hrel;have C4:=(HB.cell (p:=⟨w.heap.size,4,none⟩) z4).trans c4;clear c4
   by_cases aq:k<tags.length
   ·obtain⟨b,o,rfl,ct,lb⟩:=S9 YO.out k aq;have Gq:=ht k aq;have jm:=Js.size;have CT:wr.cell? ⟨b,o+k,none⟩=some (i6 (tags.getD k 0)):=by
     rw[HB.cell (p:=⟨b,o+k,none⟩) (acD lb jm),Js.cell (p:=⟨b,o+k,none⟩) lb];exact ct
    have lt:=VC _ ht k hk;have ld:=so _ Gq;rw[HT.out] at lh;have HK:Hid (qM tags (k+1)=qM tags k++(if k=0 then [] else [44])++iV (tags.getD k 0)):=rfl;simp only at lt Gq;generalize tags.getD k 0=tg at *;generalize AL:qM tags k=tk at *;have FZ:Hid _:=AL;have IA:Hid (cY tg):=Gq;clear ct AL Gq
    by_cases v8:k=0
    ·subst v8;have CT0:wr.cell? ⟨b,o,none⟩=some (i6 tg):=by simpa using CT
     clear CT;have s1:=xF (c5++tk) (iV tg) (by simp;omega);have HE:Hid (c5++qM tags (0+1)=c5++tk++iV tg):=by show _=_;rw[HK.out];simp
     generalize c5++tk++iV tg=c6 at *;generalize c5++tk=c7 at *;clear lh lt ld;go_wp2_with(go_at_call 59;refine cM (N3 _ _ IA.out) ?_;intro w2 aA);go_roundw
     case rel=>exact⟨0+1,oM,gN,by rw[HE.out],ab HB aA⟩
     case measure=>simp[intOf];omega
    ·have tB:(0:Int)<(k:Int):=oM;have s1:=xF (c5++tk) [44] (by simp;omega);have s2:=xF (c5++tk++[44]) (iV tg) (by simp;omega);have HE:Hid (c5++qM tags (k+1)=c5++tk++[44]++iV tg):=by show _=_;rw[HK.out,ab6 v8];simp
     generalize c5++tk++[44]++iV tg=c6 at *;generalize c5++tk++[44]=c8 at *;generalize c5++tk=c7 at *;clear lh lt ld;go_wp2_with(go_at_call 59;refine cM (N3 _ _ IA.out) ?_;intro w2 aA);go_roundw
     case rel=>exact⟨k+1,oM,gN,by rw[HE.out],ab HB aA⟩
     case measure=>simp[intOf];omega
   ·have we:k=tags.length:=oM;subst we;go_wp2;go_ret;refine⟨?_,Js.trans (HB.mono Js.size)⟩;show Ending.returned (.string ⟨(c5++qM tags tags.length).toArray⟩)=_;rw[Iv,HT.out]
end Go.Proofs.YtlhgjplipgandaaGreatDoor
