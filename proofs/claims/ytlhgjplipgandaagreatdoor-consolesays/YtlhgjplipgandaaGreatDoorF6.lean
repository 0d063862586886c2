/- Joined. -/
import Derived.Laws.IdiomStrings
import Derived.Deep.RegionHeld3
import Derived.Deep.RegionLaw
import Derived.Test.YtlhgjplipgandaaGreatDoorF1
set_option maxRecDepth 100000
set_option maxHeartbeats 8000000
set_option linter.unusedSimpArgs false
set_option linter.unusedSectionVars false
namespace Go.Proofs.YtlhgjplipgandaaGreatDoor
open Tryz
open Go.RowKit Go.BigFrame
def bt(n:Nat):UInt8:=UInt8.ofNat n
def Bz:Nat->Nat->List UInt8
 |0,n=>[bt (48+n)]
 |f+1,n=>if n<10 then [bt (48+n)] else Bz f (n / 10)++[bt (48+n % 10)]
theorem ZK(f g n:Nat)(hf:n<=f)(hg:n<=g):Bz f n=Bz g n:=by
 induction f generalizing g n with
 |zero =>
  obtain rfl:n=0:=oM
  cases g<;>simp[Bz]
 |succ f ih =>
  cases g with
  |zero =>
   obtain rfl:n=0:=oM
   simp[Bz]
  |succ g =>
   simp only[Bz]
   split
   ·rfl
   ·rw[ih g (n / 10) oM oM]
def gp(n:Nat):List UInt8:=Bz n n
theorem zp(n:Nat):gp n=if n<10 then [bt (48+n)] else gp (n / 10)++[bt (48+n % 10)]:=by
 unfold gp
 cases n with
 |zero=>rfl
 |succ n =>
  simp only[Bz]
  split
  ·rfl
  ·rw[ZK n ((n+1) / 10) ((n+1) / 10) oM oM]
def sG(n:Int):ByteArray:=⟨(if n < -9 then 45::(gp (n.natAbs / 10)++gp (n.natAbs % 10)) else if n<0 then 45::gp n.natAbs else gp n.natAbs).toArray⟩
theorem od(k n:Nat)(h:n<10 ^ (k+1)):(gp n).length<=k+1:=by
 induction k generalizing n with
 |zero=>rw[zp];simp at h;simp[h]
 |succ k ih =>
  rw[zp]
  split
  ·simp
  ·have:n / 10<10 ^ (k+1):=by rw[Nat.div_lt_iff_lt_mul oM];rw[Nat.pow_succ] at h;exact h
   have:=ih _ this
   simp;omega
theorem YD(W:World)(g n:Nat)(z:Int)(hz:z=(n:Int))(hn:n<256)(h:W.cell? ⟨g,0,none⟩=some (.int .u8 z)) :
 Sem.run prog (convert 174 9 (.slice (some ⟨g,0,none⟩) 1 1)) W=.ok (.string ⟨#[bt n]⟩) W:=by
 subst hz;refine run_convert_bytes_back W 174 9 5 ⟨g,0,none⟩ 1 [bt n] underlying174 underlying5 underlying9 ?_;intro j hj
 match j,hj with
 |0,_=>simpa [bt,Addr.add,Nat.mod_eq_of_lt hn] using h
theorem Sw(n:Nat)(w:World)(hn:n<10) :
 Calls prog 59 #[i6 n] w (rB (.string ⟨(gp n).toArray⟩) w):=by
 have h1:¬((n:Int) < -9):=oM;have h2:¬((n:Int)<0):=oM;have h3:((n:Int)<10):=oM;have O4:=YD (w.alloc (.cells #[.int .u8 (48+(n:Int))] 5)) w.heap.size (48+n) (48+(n:Int)) oM oM (acL w _ _ _ 0);go_enter func59,ntmps59;go_wp2;go_ret;rw[zp,aaV hn];exact⟨rfl,bQ⟩
theorem Rm{P:Program}{ops:Array Oper}{o:Oper}{a:Act}{w:World}{K:Act->World->Prop}{Q:Exit->Act->World->Prop}{E:Prop}
 (hg:o.guard=none) (f:FuncId) (k:Nat) (t:TypeId) (qY:o.op=Op.call { callee:=Callee.value (.func f),args:=#[.tmp k],argTypes:=#[t] }) (eg:∀args w,(callFunc f args).run P w=.ok (.enter f args) w)
 (v r:Value) (hx:a.tmps[k]?.getD undef=v) (S:World->Prop) (hc:Calls P f #[v] w fun e w'=>e=.returned r/\S w') (h:∀w',S w'->K (a.put o.dst r) w') :
 if Region.wanted o (yielded ops a.tmps)=true then Oper.wp P o a w K Q else E:=by
 have hw:Region.wanted o (yielded ops a.tmps)=true:=by simp[Region.wanted,hg]
 rw[aaV hw];unfold Oper.wp
 simp[execOp,qY,resolve,invoke,hx,eg,go_sem]
 refine hc.mono ?_;rintro _ w' ⟨rfl,hs⟩;exact h w' hs
theorem Za{w w1:World}{v:Value}{T:TypeId}(h:Below (w.alloc (.cells #[v] T)).heap.size (w.alloc (.cells #[v] T)) w1):w1.cell? ⟨w.heap.size,0,none⟩=some v:=by
 rw[h.cell (p:=⟨w.heap.size,0,none⟩) sM];exact acL w _ _ _ 0
theorem Zb{w w1:World}{v:Value}{T:TypeId}(h:Below (w.alloc (.cells #[v] T)).drew.heap.size (w.alloc (.cells #[v] T)).drew w1):w1.cell? ⟨w.heap.size,0,none⟩=some v:=by
 rw[h.cell (p:=⟨w.heap.size,0,none⟩) sM];exact acL w _ _ _ 0
def Yb(z:Int)(l:List UInt8):Prop:=∀z' w,z'=z->Calls prog 59 #[i6 z'] w (rB (.string ⟨l.toArray⟩) w)
theorem ZE(n:Nat)(w:World)(hn:¬n<10)(hm:n<9223372036854775808)(IH:Yb (n / 10:Nat) (gp (n / 10))) :
 Calls prog 59 #[i6 n] w (rB (.string ⟨(gp n).toArray⟩) w):=by
 have h1:¬((n:Int) < -9):=oM;have h2:¬((n:Int)<0):=oM;have h3:¬((n:Int)<10):=oM;have htd:(n:Int).tdiv 10=((n / 10:Nat):Int):=by rw[Int.tdiv_eq_ediv_of_nonneg oM];omega
 have htm:(n:Int).tmod 10=((n % 10:Nat):Int):=by rw[afH oM];omega
 obtain⟨q,hq⟩:∃q:Nat,n / 10=q:=⟨_,rfl⟩
 obtain⟨r,hr⟩:∃r:Nat,n % 10=r:=⟨_,rfl⟩
 have hd:gp n=gp q++[bt (48+r)]:=by rw[zp,aaP hn,hq,hr]
 rw[hd];rw[hq] at htd IH;rw[hr] at htm;have hr9:r<10:=oM;have tL:(gp q).length<=30:=by
  have:=od 18 q oM;omega
 have hqm:(q:Int)<922337203685477581:=oM;clear hd hq hr;have gu:IntKind.i64.wrap (q:Int)=q:=by rw[abr];omega
 have pU:IntKind.i64.wrap (48+(r:Int))=48+r:=by rw[abr];omega
 have IU:IntKind.u8.wrap (48+(r:Int))=48+r:=by rw[IntKind.wrap_u8];omega
 have O4:∀(W:World) (g:Nat),W.cell? ⟨g,0,none⟩=some (.int .u8 (48+(r:Int)))->Sem.run prog (convert 174 9 (.slice (some ⟨g,0,none⟩) 1 1)) W=.ok (.string ⟨#[bt (48+r)]⟩) W:=fun W g h=>YD W g (48+r) _ oM oM h
 have tY:∀W,Sem.run prog (Op.stringOp .add ⟨(gp q).toArray⟩ ⟨#[bt (48+r)]⟩) W=.ok (.string ⟨(gp q++[bt (48+r)]).toArray⟩) W:=by
  intro W;rw[agH]
  ·congr 2
  ·simp[ByteArray.size];omega
 have iV:({ data:=(gp q++[bt (48+r)]).toArray }:ByteArray).size<=31:=by simp[ByteArray.size];omega
 generalize hL:({ data:=(gp q).toArray }:ByteArray)=sL at tY;generalize hR:({ data:=#[bt (48+r)] }:ByteArray)=sR at tY O4;generalize hO:({ data:=(gp q++[bt (48+r)]).toArray }:ByteArray)=sO at tY iV ⊢;have IH':∀z' w,z'=(q:Int)->Calls prog 59 #[i6 z'] w (rB (.string sL) w):=by rw[<-hL];exact IH
 have IHH:Hid _:=IH';clear IH IH' hL hR hO;have HC:Hid _:=O4;clear O4;go_enter func59,ntmps59;go_wp2_with fail;clear h1 h2 h3 hn hm;have cA0:=HC.out (w.alloc (.cells #[.int .u8 (48+(r:Int))] 5)) w.heap.size (acL w _ _ _ 0);have cA1:=HC.out (w.alloc (.cells #[.int .u8 (48+(r:Int))] 5)).drew w.heap.size (acL w _ _ _ 0);have cA2:=HC.out (w.drew.alloc (.cells #[.int .u8 (48+(r:Int))] 5)) w.heap.size (acL w.drew _ _ _ 0);have cA3:=HC.out (w.drew.alloc (.cells #[.int .u8 (48+(r:Int))] 5)).drew w.heap.size (acL w.drew _ _ _ 0);have aez:∀args w,Sem.run prog (callFunc 59 args) w=.ok (.enter 59 args) w:=by intro args w;go_simp
 go_region_law (first|(refine Rm rfl 59 29 3 rfl aez (i6 q) (.string sL) rfl (fun w1=>Below _ _ w1) (IHH.out _ _ rfl) ?_;intro w1 aw;replace aw:Below _ _ w1:=aw;clear cA0 cA1 cA2 cA3;have cB0:=HC.out (w1.alloc (.cells #[.int .u8 (48+(r:Int))] 5)) w1.heap.size (acL w1 _ _ _ 0);have cB1:=HC.out (w1.alloc (.cells #[.int .u8 (48+(r:Int))] 5)).drew w1.heap.size (acL w1 _ _ _ 0);have cB2:=HC.out (w1.drew.alloc (.cells #[.int .u8 (48+(r:Int))] 5)) w1.heap.size (acL w1.drew _ _ _ 0);have cB3:=HC.out (w1.drew.alloc (.cells #[.int .u8 (48+(r:Int))] 5)).drew w1.heap.size (acL w1.drew _ _ _ 0);(first|(have hk:=Za aw;have ck0:=HC.out w1 w.heap.size hk;have ck1:=HC.out w1.drew w.heap.size hk)|(have hk:=Za (w:=w.drew) aw;have ck0:=HC.out w1 w.heap.size hk;have ck1:=HC.out w1.drew w.heap.size hk)|(have hk:=Zb aw;have ck0:=HC.out w1 w.heap.size hk;have ck1:=HC.out w1.drew w.heap.size hk)|(have hk:=Zb (w:=w.drew) aw;have ck0:=HC.out w1 w.heap.size hk;have ck1:=HC.out w1.drew w.heap.size hk)|skip)))
 all_goals (go_wp2;go_ret;exact⟨rfl,bQ⟩)
theorem tW(n:Nat)(hm:n<9223372036854775808):Yb (n:Int) (gp n):=by
 induction n using Nat.strongRecOn with
 |_ n ih =>
  rintro _ w rfl
  by_cases hn:n<10
  ·exact Sw n w hn
  ·exact ZE n w hn hm (ih (n / 10) oM oM)
theorem yZ(a b:List UInt8)(h:a.length+b.length<=9223372036854775807)(W:World):Sem.run prog (Op.stringOp .add ⟨a.toArray⟩ ⟨b.toArray⟩) W=.ok (.string ⟨(a++b).toArray⟩) W:=by
 rw[agH]
 ·congr 2
 ·simpa [ByteArray.size] using h
theorem X1(m:Nat):(-(m:Int)).tdiv 10=-((m / 10:Nat):Int):=by rw[Int.neg_tdiv,Int.tdiv_eq_ediv_of_nonneg oM];omega
theorem X3(m:Nat):(-(m:Int)).tmod 10=-((m % 10:Nat):Int):=by rw[Int.neg_tmod,afH oM];omega
theorem ZF(m:Nat)(n:Int)(hn:n=-(m:Int))(w:World)(h1:n < -9)(hm:-9223372036854775808<=n) :
 Calls prog 59 #[i6 n] w (rB (.string (sG n)) w):=by
 have hq:wrap64 (-n.tdiv 10)=((m / 10:Nat):Int):=by
  rw[hn,X1];unfold wrap64;omega
 have hr:wrap64 (-n.tmod 10)=((m % 10:Nat):Int):=by
  rw[hn,X3];unfold wrap64;omega
 have e:sG n=⟨([45]++gp (m / 10)++gp (m % 10)).toArray⟩:=by unfold sG;rw[aaV h1,show n.natAbs=m from oM];simp
 have l1:=od 18 (m / 10) oM;have l2:=od 18 (m % 10) oM;have D1:=tW (m / 10) oM;have D2:=tW (m % 10) oM;rw[e];have s1:=yZ [45] (gp (m / 10)) (by simp;omega);have s2:=yZ ([45]++gp (m / 10)) (gp (m % 10)) (by simp;omega);generalize ([45]++gp (m / 10)++gp (m % 10))=u at *;generalize ([45]++gp (m / 10))=v at *;generalize gp (m / 10)=x at *;generalize gp (m % 10)=y at *;generalize m / 10=q at *;generalize m % 10=r at *;clear e l1 l2 hn;go_enter func59,ntmps59;go_wp2_with fail;refine cM (D1 _ _ rfl) ?_;intro w1 aw;go_wp2_with fail;refine cM (D2 _ _ rfl) ?_;intro w2 aC;go_wp2;go_ret;exact⟨rfl,bQ⟩
theorem V7(m:Nat)(n:Int)(hn:n=-(m:Int))(w:World)(h1:¬n < -9)(h0:n<0) :
 Calls prog 59 #[i6 n] w (rB (.string (sG n)) w):=by
 have hq:wrap64 (-n)=(m:Int):=by
  rw[hn];unfold wrap64;omega
 have e:sG n=⟨([45]++gp m).toArray⟩:=by unfold sG;rw[aaP h1,aaV h0,show n.natAbs=m from oM];simp
 have l1:=od 18 m oM;have D1:=tW m oM;rw[e];have s1:=yZ [45] (gp m) (by simp;omega);generalize ([45]++gp m)=u at *;generalize gp m=x at *;have HN:Hid (-n=(m:Int)):=by show -n=(m:Int);omega
 clear e l1 hn hq;go_enter func59,ntmps59;go_wp2_with fail;refine cM (D1 _ _ HN.out) ?_;intro w1 aw;go_wp2;go_ret;exact⟨rfl,bQ⟩
theorem ZD(n:Int)(w:World)(h1:-9223372036854775808<=n)(h2:n<=9223372036854775807) :
 Calls prog 59 #[i6 n] w (rB (.string (sG n)) w):=by
 by_cases h9:n < -9
 ·exact ZF n.natAbs n oM w h9 h1
 by_cases h0:n<0
 ·exact V7 n.natAbs n oM w h9 h0
 have e:sG n=⟨(gp n.natAbs).toArray⟩:=by unfold sG;rw[aaP h9,aaP h0]
 rw[e];exact tW n.natAbs oM n w oM
theorem V6(n:Int)(h1:-9223372036854775808<=n)(h2:n<=9223372036854775807):(sG n).size<=60:=by
 have l1:=od 18 (n.natAbs / 10) oM;have l2:=od 18 (n.natAbs % 10) oM;have l3:=od 18 n.natAbs oM;unfold sG;simp only[ByteArray.size]
 split
 ·simp;omega
 ·split
  ·simp;omega
  ·simp;omega
def jk(n:Int):List UInt8:=(sG n).data.toList
theorem ZC(n:Int):sG n=⟨(jk n).toArray⟩:=by simp[jk]
theorem tV(n:Int)(h:cH n):(jk n).length<=60:=by
 have:=V6 n h.1 h.2;unfold jk;rw[ab6];exact this
theorem PT(n:Int)(w:World)(h:cH n) :
 Calls prog 59 #[i6 n] w (rB (.string ⟨(jk n).toArray⟩) w):=by
 rw[<-ZC];exact ZD n w h.1 h.2
def tf(r:Rq):List UInt8:=[if r.wr=true then 119 else 114]
def Fs(r:Rq):List UInt8:=tf r++jk r.f++[43]++jk r.m++[35]
def rT(l:List Int):Nat->List UInt8
 |0=>[]
 |k+1=>rT l k++(if k=0 then [] else [44])++jk (l.getD k 0)
def RY(r:Rq):Prop:=∀i,i<r.tags.length->cH (r.tags.getD i 0)
theorem S9(r:Rq)(hf:cH r.f)(hm:cH r.m):(Fs r).length<=123:=by
 have h1:=tV r.f hf;have h2:=tV r.m hm
 simp[Fs,tf];omega
theorem XX(r:Rq)(h:RY r)(k:Nat)(hk:k<=r.tags.length):(rT r.tags k).length<=61*k:=by
 induction k with
 |zero=>simp[rT]
 |succ k ih =>
  have h1:=tV _ (h k oM);have h2:=ih oM;have h3:(if k=0 then([]:List UInt8) else [44]).length<=1:=by split<;>simp
  simp only[rT,aaQ];omega
def JY(r:Rq):List UInt8:=Fs r++rT r.tags r.tags.length
theorem Vi{w:World}{a:Option Addr}{xs:List Int}(h:eF w a xs)(k:Nat)(hk:k<xs.length):∃b o,a=some ⟨b,o,none⟩/\w.cell? ⟨b,o+k,none⟩=some (i6 (xs.getD k 0))/\b<w.heap.size:=by
 rcases h with rfl|⟨b,o,rfl,hc⟩
 ·exact absurd hk (aa0 _)
 ·exact⟨b,o,rfl,hc k hk,aq (hc k hk)⟩
theorem DW(r:Rq)(w:World)(hr:r.At w)(ht:RY r)(hl:r.tags.length<=8) :
 Calls prog 110 #[r.val] w (rB (.string ⟨(JY r).toArray⟩) w):=by
 have l1:=tV r.f hr.f;have l2:=tV r.m hr.m;have lh:=S9 r hr.f hr.m;have s1:=yZ (tf r) (jk r.f) (by simp[tf];omega);have s2:=yZ (tf r++jk r.f) [43] (by simp[tf];omega);have s3:=yZ (tf r++jk r.f++[43]) (jk r.m) (by simp[tf];omega);have s4:=yZ (tf r++jk r.f++[43]++jk r.m) [35] (by simp[tf];omega);have HF:Hid _:=hr.f;have HM:Hid _:=hr.m;have HT:Hid (Fs r=tf r++jk r.f++[43]++jk r.m++[35]):=rfl;have hlw:tf r=if r.wr=true then [119] else [114]:=by unfold tf;split<;>rfl
 have LW:Hid _:=hlw;obtain⟨wr,f,m,da,dc,data,ta,tc,tags,born⟩:=r;simp only at *;have tL:=hr.tl;have HR:Hid _:=hr;have TA:=hr.tags;have HTG:Hid _:=TA;clear hr hlw TA;generalize tf ⟨wr,f,m,da,dc,data,ta,tc,tags,born⟩=c0 at *;generalize c0++jk f++[43]++jk m++[35]=c5 at *;generalize c0++jk f++[43]++jk m=c4 at *;generalize c0++jk f++[43]=c3 at *;generalize c0++jk f=c2 at *
 cases wr
 all_goals
  simp at LW
  obtain rfl:=LW.out;go_enter func110,ntmps110;go_wp2_with fail;refine wQ ?_
  repeat(go_big_quiet_step (first|exact rfl|(go_at_call 59;exact cg (PT _ _ (by first|exact HF.out|exact HM.out)))))
  refine qE ?_;(try clear hc hf hz);(try clear HB);intro p HB hc hf hz;have KW:bL w p.v:=bQ;have c4:p.v.cell? ⟨w.heap.size,4,none⟩=some (.slice ta tags.length tc):=by rw[hc _ _ sM];simp
  have z4:w.heap.size<p.v.heap.size:=aq c4;generalize p.v=w1 at *;clear hc hf hz HB s1 s2 s3 s4 LW p l1 l2 HF HM;go_wp2_with fail
  go_loopw[3,4] (fun s i wr=>∃k:Nat,k<=tags.length/\i=i6 k/\s=.string ⟨(c5++rT tags k).toArray⟩/\bL w1 wr) (fun _ i _=>tags.length-(intOf i).toNat)
  case atStart=>exact⟨0,oM,rfl,by simp[rT],aX _ _⟩
  case round =>
   obtain⟨k,hk,rfl,rfl,HB⟩:=hrel;have C4:=(HB.cell (p:=⟨w.heap.size,4,none⟩) z4).trans c4;clear c4
   by_cases au:k<tags.length
   ·obtain⟨b,o,rfl,ct,lb⟩:=Vi HTG.out k au;have IA:=ht k au;have iV:=KW.size;have CT:wr.cell? ⟨b,o+k,none⟩=some (i6 (tags.getD k 0)):=by
     rw[HB.cell (p:=⟨b,o+k,none⟩) (abF lb iV),KW.cell (p:=⟨b,o+k,none⟩) lb];exact ct
    have lt:=XX _ ht k hk;have ld:=tV _ IA;rw[HT.out] at lh;have HK:Hid (rT tags (k+1)=rT tags k++(if k=0 then [] else [44])++jk (tags.getD k 0)):=rfl;simp only at lt IA;generalize tags.getD k 0=tg at *;generalize B2:rT tags k=tk at *;have Ib:Hid _:=B2;have J1:Hid (cH tg):=IA;clear ct B2 IA
    by_cases yg:k=0
    ·subst yg;have CT0:wr.cell? ⟨b,o,none⟩=some (i6 tg):=by simpa using CT
     clear CT;have s1:=yZ (c5++tk) (jk tg) (by simp;omega);have HE:Hid (c5++rT tags (0+1)=c5++tk++jk tg):=by show _=_;rw[HK.out];simp
     generalize c5++tk++jk tg=c6 at *;generalize c5++tk=c7 at *;clear lh lt ld;go_wp2_with(go_at_call 59;refine cM (PT _ _ J1.out) ?_;intro w2 aC);go_roundw
     case rel=>exact⟨0+1,oM,gN,by rw[HE.out],af HB aC⟩
     case measure=>simp[intOf];omega
    ·have uR:(0:Int)<(k:Int):=oM;have s1:=yZ (c5++tk) [44] (by simp;omega);have s2:=yZ (c5++tk++[44]) (jk tg) (by simp;omega);have HE:Hid (c5++rT tags (k+1)=c5++tk++[44]++jk tg):=by show _=_;rw[HK.out,aaP yg];simp
     generalize c5++tk++[44]++jk tg=c6 at *;generalize c5++tk++[44]=c8 at *;generalize c5++tk=c7 at *;clear lh lt ld;go_wp2_with(go_at_call 59;refine cM (PT _ _ J1.out) ?_;intro w2 aC);go_roundw
     case rel=>exact⟨k+1,oM,gN,by rw[HE.out],af HB aC⟩
     case measure=>simp[intOf];omega
   ·have yh:k=tags.length:=oM;subst yh;go_wp2;go_ret;refine⟨?_,KW.trans (HB.mono KW.size)⟩;show Ending.returned (.string ⟨(c5++rT tags tags.length).toArray⟩)=_;rw[JY,HT.out]
end Go.Proofs.YtlhgjplipgandaaGreatDoor
