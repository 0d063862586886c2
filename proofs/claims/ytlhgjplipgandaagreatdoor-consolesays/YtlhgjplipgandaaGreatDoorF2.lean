/- Joined. -/
import Derived.BigRegion
import Derived.Test.YtlhgjplipgandaaGreatDoorF1
set_option maxRecDepth 100000
set_option maxHeartbeats 8000000
set_option linter.unusedSimpArgs false
set_option linter.unusedSectionVars false
namespace Go.Proofs.YtlhgjplipgandaaGreatDoor
open Tryz
open Go.RowKit Go.BigFrame
theorem StrsAt.form{w:World}{a:Option Addr}{l:List ByteArray}(h:StrsAt w a l):l=[]\/∃b o,a=some ⟨b,o,none⟩:=by
 rcases h with h|⟨b,o,ha,_⟩
 ·exact il h
 ·exact ir ⟨b,o,ha⟩
theorem eF.form{w:World}{a:Option Addr}{l:List Int}(h:eF w a l):l=[]\/∃b o,a=some ⟨b,o,none⟩:=by
 rcases h with h|⟨b,o,ha,_⟩
 ·exact il h
 ·exact ir ⟨b,o,ha⟩
theorem StrsAt.at{w:World}{b o:Nat}{l:List ByteArray}(h:StrsAt w (some ⟨b,o,none⟩) l){i:Nat}(hi:i<l.length):w.cell? ⟨b,o+i,none⟩=some (.string l[i]):=by
 rcases h with rfl|⟨b',o',ha,hc⟩
 ·exact absurd hi (aa0 _)
 ·simp only[aa4,aci,acS] at ha;obtain⟨rfl,rfl⟩:=ha
  simpa [List.getD,hi] using hc i hi
theorem eF.at{w:World}{b o:Nat}{l:List Int}(h:eF w (some ⟨b,o,none⟩) l){i:Nat}(hi:i<l.length):w.cell? ⟨b,o+i,none⟩=some (i6 l[i]):=by
 rcases h with rfl|⟨b',o',ha,hc⟩
 ·exact absurd hi (aa0 _)
 ·simp only[aa4,aci,acS] at ha;obtain⟨rfl,rfl⟩:=ha
  simpa [List.getD,hi] using hc i hi
theorem MC{α:Type}{xs ys:List α}{k:Nat}(h1:k<xs.length)(h2:k<ys.length)(h:xs.take k=ys.take k)(he:xs[k]=ys[k]):xs.take (k+1)=ys.take (k+1):=by
 rw[abz h1,abz h2,h,he]
theorem aea{α:Type}{xs ys:List α}{k:Nat}(h1:k<xs.length)(h2:k<ys.length)(he:¬xs[k]=ys[k]):¬xs=ys:=by
 rintro rfl;exact he rfl
theorem Ob{α:Type}{xs ys:List α}{k:Nat}(h1:xs.length<=k)(h2:ys.length<=k)(h:xs.take k=ys.take k):xs=ys:=by
 rwa [abv h1,abv h2] at h
theorem adw{s t:ByteArray}(h:¬s=t):(s.toList==t.toList)=false:=by
 rw[aaU];intro e;apply h;rw[afm,afm] at e;have e':s.data=t.data:=by rw[<-afn];exact e
 cases s;cases t;simp_all
def It(xs ys:List ByteArray):Bool:=decide (xs=ys)
theorem Od(xs ys:List ByteArray)(a a':Option Addr)(c c':Nat)(w:World)(hx:StrsAt w a xs)(hy:StrsAt w a' ys)(hl:xs.length<=9223372036854775807)(he:((xs.length:Int) != (ys.length:Int))=false) :
 Calls prog 22 #[.slice a xs.length c,.slice a' ys.length c'] w (rB (.bool (It xs ys)) w):=by
 have hlen:xs.length=ys.length:=by simp only[ace] at he;omega
 have HE:Hid (xs.length=ys.length):=hlen
 rcases hx.form with rfl|⟨b,o,rfl⟩
 ·obtain rfl:ys=[]:=aaZ hlen.symm;go_enter func22,ntmps22;go_wp2;go_loop [5] (fun i=>i=i6 0) (fun _=>0);(case atStart=>rfl);(case round=>subst hrel;go_wp2;go_ret;exact⟨rfl,bQ⟩)
 rcases hy.form with rfl|⟨b',o',rfl⟩
 ·obtain rfl:xs=[]:=aaZ hlen;go_enter func22,ntmps22;go_wp2;go_loop [5] (fun i=>i=i6 0) (fun _=>0);(case atStart=>rfl);(case round=>subst hrel;go_wp2;go_ret;exact⟨rfl,bQ⟩)
 clear hlen;go_enter func22,ntmps22;go_wp2
 go_loopw[5] (fun i wr=>∃k:Nat,k<=xs.length/\i=i6 k/\xs.take k=ys.take k/\bL w wr) (fun i _=>xs.length-(intOf i).toNat)
 case atStart=>exact⟨0,oM,rfl,sM,aX _ _⟩
 case round =>
  obtain⟨k,hk,rfl,hall,HB⟩:=hrel;have HL:Hid (xs.take k=ys.take k):=hall;clear hall
  by_cases au:k<xs.length
  ·have gC:k<ys.length:=by have:=HE.out;omega
   have c0:=hx.at au;have c1:=hy.at gC;have l0:=aq c0;have l1:=aq c1
   by_cases hq:xs[k]=ys[k]
   ·go_wp2_with fail;refine wQ ?_
    repeat(go_big_quiet_step (exact rfl))
    refine qE ?_;(try clear hc hf hz);(try clear HB);intro p HB hc hf hz;go_wp2;go_roundw
    case rel=>exact⟨k+1,oM,gN,MC au gC HL.out hq,HB⟩
    case measure=>simp[intOf];omega
   ·have cI:(xs[k].toList==ys[k].toList)=false:=adw hq;go_wp2_with fail;refine wQ ?_
    repeat(go_big_quiet_step (exact rfl))
    refine qE ?_;(try clear hc hf hz);(try clear HB);intro p HB hc hf hz;go_wp2;go_ret;exact⟨ey (aa9 (aea au gC hq)).symm,bQ⟩
  ·go_wp2;go_ret;exact⟨ey (aa1 (Ob oM (by have:=HE.out;omega) HL.out)).symm,bQ⟩
theorem Rp(xs ys:List ByteArray)(a a':Option Addr)(c c':Nat)(w:World)(he:((xs.length:Int) != (ys.length:Int))=true) :
 Calls prog 22 #[.slice a xs.length c,.slice a' ys.length c'] w (rB (.bool false) w):=by
 go_enter func22,ntmps22;go_wp2;go_ret;exact⟨rfl,aX _ _⟩
theorem Cw(xs ys:List ByteArray)(a a':Option Addr)(c c':Nat)(w:World)(hx:StrsAt w a xs)(hy:StrsAt w a' ys)(hl:xs.length<=9223372036854775807) :
 Calls prog 22 #[.slice a xs.length c,.slice a' ys.length c'] w (rB (.bool (It xs ys)) w):=by
 cases he:((xs.length:Int) != (ys.length:Int))
 ·exact Od xs ys a a' c c' w hx hy hl he
 ·have:It xs ys=false:=aa9 (by rintro rfl;simp at he);rw[this];exact Rp xs ys a a' c c' w he
theorem Rq.At.of{w w':World}{a:Option Addr}{l:List Rq}(h:aW w a l){i:Nat}(hi:i<l.length)(hb:bL w w'):l[i].At w':=(h.2.1 _ (aa5 hi)).later hb
def kY(r:Rq):Bool:=if r.wr then decide ((r.data.length:Int)=r.m) else decide (r.data.length=0)
def oF(r:Rq):Int :=
 if gK r.f r.m 4=false then 1 else if kY r=false then 3 else if r.tags.length<1\/4<r.tags.length then 3 else if r.born<0\/1000000000<r.born then 1 else KR (oR r)
theorem Jg(r:Rq):lY r↔kY r=false:=by
 unfold lY kY
 cases r.wr
 ·simp[afi]
 ·simp
theorem QT(r:Rq)(w:World)(hr:r.At w)(n:Int)(hn:oF r=n) :
 Calls prog 188 #[r.val] w (rB (i6 n) w):=by
 subst hn;unfold oF
 by_cases h:gK r.f r.m 4=false
 ·rw[aaV h];exact NF r w h
 ·rw[aaP h];have h':gK r.f r.m 4=true:=by simpa using h
  by_cases h2:kY r=false
  ·rw[aaV h2];exact Mf r w hr h' ((Jg r).2 h2)
  ·rw[aaP h2];have pq:¬lY r:=fun k=>h2 ((Jg r).1 k)
   by_cases h3:r.tags.length<1\/4<r.tags.length
   ·rw[aaV h3];exact NG r w hr h' pq h3
   ·rw[aaP h3]
    by_cases h4:r.born<0\/1000000000<r.born
    ·rw[aaV h4];exact NC r w hr h' pq h3 h4
    ·rw[aaP h4];exact ND r w hr ⟨h',pq,h3,h4⟩
structure bz(r:Rq):Prop where
 ok:gK r.f r.m 4=true
 shape:kY r=true
 t1:1<=r.tags.length
 t4:r.tags.length<=4
 b0:0<=r.born
 b1:r.born<=1000000000
 small:oR r=true
theorem Ed(r:Rq):oF r=0↔bz r:=by
 unfold oF
 constructor
 ·intro h
  split at h
  ·cases h
  split at h
  ·cases h
  split at h
  ·cases h
  split at h
  ·cases h
  rename_i h1 h2 h3 h4
  have h5:oR r=true:=by
   cases e:oR r
   ·rw[e] at h;cases h
   ·rfl
  exact⟨by simpa using h1,by simpa using h2,oM,oM,oM,oM,h5⟩
 ·intro ⟨h1,h2,h3,h4,h5,h6,h7⟩;rw[aaP (by simp[h1]),aaP (by simp[h2]),aaP oM,aaP oM,h7];rfl
theorem F6{f m:Int}(h:gK f m 4=true):gK f m 32=true:=by
 simp only[gK,aba] at *;omega
structure EI(l:List Rq):Prop where
 bO:∀i (h:i<l.length),bz l[i]
 apart:∀i j (hi:i<l.length) (hj:j<i),yx l[i].f l[i].m (l[j]'oM).f (l[j]'oM).m=false
abbrev fg(r:Rq)(xa:Option Addr)(n xc:Nat)(er:Int):Value:=.agg #[.bool r.wr,i6 r.f,i6 r.m,.slice r.da r.data.length r.dc,.slice r.ta r.tags.length r.tc,i6 r.born,.slice xa n xc,i6 er]
theorem Ph(r:Rq)(xa:Option Addr)(n xc:Nat)(er p:Int)(w:World)(h:dO r.f r.m p=false) :
 Calls prog 135 #[fg r xa n xc er,i6 p] w (rB (.tuple #[.string ⟨#[]⟩,.bool false]) w):=by
 obtain⟨wr,f,m,da,dc,data,ta,tc,tags,born⟩:=r;simp only at h;go_enter func135,ntmps135;go_wp2_with fail
 go_at_call 126;refine cM (sI _ _ _ _ _ h) ?_;intro w1 hb;(try clear hc hf hz);(first|replace HB:=af HB hb|replace HB:=af (aj HB) hb|have HB:=hb);clear hb;obtain⟨hc,hf,hz⟩:=br HB
 go_wp2
 go_ret2
 exact⟨rfl,bQ⟩
theorem G6(r:Rq)(xs:List ByteArray)(xa:Option Addr)(xc:Nat)(er p:Int)(w:World)(hx:StrsAt w xa xs)(h:dO r.f r.m p=true)(k:Nat)(hk:wrap64 (p-r.f)=k)(hn:k<xs.length)(s:ByteArray)(hs:xs.getD k bE=s) :
 Calls prog 135 #[fg r xa xs.length xc er,i6 p] w (rB (.tuple #[.string s,.bool true]) w):=by
 rcases hx with rfl|⟨b,o,rfl,hcx⟩
 ·exact absurd hn (aa0 _)
 have c0:=hcx k hn;have Lk:=aq c0;rw[hs] at c0;clear hcx hs;obtain⟨wr,f,m,da,dc,data,ta,tc,tags,born⟩:=r;simp only at h hk;have BZ:¬(xs.length:Int)<=(k:Int):=oM;go_enter func135,ntmps135;go_wp2_with fail
 go_at_call 126;refine cM (sI _ _ _ _ _ h) ?_;intro w1 hb;(try clear hc hf hz);(first|replace HB:=af HB hb|replace HB:=af (aj HB) hb|have HB:=hb);clear hb;obtain⟨hc,hf,hz⟩:=br HB
 have c1:w1.cell? ⟨b,o+k,none⟩=some (.string s):=by rw[hc _ _ (by simp;omega),af3 _ _ _ Lk];exact c0
 go_wp2
 go_ret2
 exact⟨rfl,bQ⟩
def rD(s:ByteArray):Bool:=decide (4<s.size)
theorem D0(s:ByteArray)(w:World)(b:Bool)(hb:rD s=b) :
 Calls prog 203 #[.string s] w (rB (.bool b) w):=by
 subst hb;go_enter func203,ntmps203;go_wp2;go_ret;exact⟨ey (by simp only[rD];rw[decide_eq_decide];omega),bQ⟩
theorem PS(r:Rq)(w:World) :
 Calls prog 201 #[r.val] w (rB (i6 (if r.wr=true then r.m else 0)) w):=by
 obtain⟨wr,f,m,da,dc,data,ta,tc,tags,born⟩:=r
 cases wr
 all_goals
  go_enter func201,ntmps201;go_wp2;go_ret;exact⟨rfl,bQ⟩
theorem Qi(xs:List ByteArray)(a:Option Addr)(c:Nat)(w:World)(hx:StrsAt w a xs)(hl:xs.length<=9223372036854775807) :
 Calls prog 228 #[.slice a xs.length c,.func (.func 203) #[] #[]] w fun e w'=>∃n:Int,e=.returned (i6 n)/\decide (0<=n)=xs.any rD/\bL w w':=by
 rcases hx with rfl|⟨b,o,rfl,hc⟩
 ·go_enter func228,ntmps228;go_wp2
  go_loop [8] (fun i=>i=i6 0) (fun _=>0)
  case atStart=>rfl
  case round =>
   subst hrel;go_wp2;go_ret;exact⟨-1,rfl,by first|rfl|decide,aX _ _⟩
 go_enter func228,ntmps228;go_wp2
 go_loopw[8] (fun i wr=>∃k:Nat,k<=xs.length/\i=i6 k/\(xs.take k).any rD=false/\bL w wr) (fun i _=>xs.length-(intOf i).toNat)
 case atStart=>exact⟨0,oM,rfl,sM,aX _ _⟩
 case round =>
  obtain⟨k,hk,rfl,dV,HB⟩:=hrel;have HN:Hid ((xs.take k).any rD=false):=dV;clear dV
  by_cases au:k<xs.length
  ·have c0:=aF HB (hc k au);have uP:xs.getD k bE=xs[k]:=by simp[au]
   rw[uP] at c0;clear uP hc;have l0:=aq c0;have i0:decide ((k:Int)<0)=false:=aa9 oM;have i1:decide ((xs.length:Int)<=(k:Int))=false:=aa9 oM;have i1':decide (xs.length<=k)=false:=aa9 oM
   cases Lk:rD xs[k]
   ·go_wp2_with fail;refine cM (D0 _ _ _ Lk) ?_;intro w1 hb
    replace HB:=af HB hb
    clear hb;go_wp2;go_roundw
    case rel=>exact⟨k+1,oM,gN,by rw[agk,aaX au,List.any_append,HN.out];simp[Lk],HB⟩
    case measure=>simp[intOf];omega
   ·go_wp2_with fail;refine cM (D0 _ _ _ Lk) ?_;intro w1 hb
    replace HB:=af HB hb
    clear hb;go_wp2;go_ret;exact⟨k,rfl,by rw[afo.2 ⟨xs[k],aa5 _,Lk⟩];exact aa1 oM,bQ⟩
  ·have yh:k=xs.length:=oM;have ko:Hid (xs.any rD=false):=by have:=HN.out;rw[yh,aff] at this;exact this
   subst yh;go_wp2;go_ret;exact⟨-1,rfl,by rw[ko.out];rfl,bQ⟩
theorem AY(xs:List ByteArray)(a:Option Addr)(c:Nat)(w:World)(hx:StrsAt w a xs)(hl:xs.length<=9223372036854775807)(b:Bool)(hb:xs.any rD=b) :
 Calls prog 202 #[.slice a xs.length c,.func (.func 203) #[] #[]] w (rB (.bool b) w):=by
 go_enter func202,ntmps202;go_wp2_with fail;refine(Qi xs a c _ hx hl).mono ?_;rintro e w1 ⟨n,rfl,hn,HB⟩;rw[hb] at hn;clear hb;go_wp2;go_ret;exact⟨rfl,bQ⟩
theorem uK(r:Rq)(w:World)(D:Int)(hD:(if r.wr=true then r.m else 0)=D) :
 Calls prog 201 #[r.val] w (rB (i6 D) w):=by
 subst hD;exact PS r w
theorem Ny(r:Rq)(w:World)(h:gK r.f r.m 4=false) :
 Calls prog 172 #[r.val] w (rB (.iface 87 (i6 1)) w):=by
 obtain⟨wr,f,m,da,dc,data,ta,tc,tags,born⟩:=r;simp only at h;go_enter func172,ntmps172;go_wp2_with fail
 go_at_call 200;refine cM (VY _ _ _ _ h) ?_;intro w1 hb;(try clear hc hf hz);(first|replace HB:=af HB hb|replace HB:=af (aj HB) hb|have HB:=hb);clear hb;obtain⟨hc,hf,hz⟩:=br HB
 go_wp2;go_ret;exact⟨rfl,bQ⟩
theorem Mb(r:Rq)(w:World)(hr:r.At w)(h:gK r.f r.m 4=true)(D:Int)(hD:(if r.wr=true then r.m else 0)=D)(h2:((r.data.length:Int) != D)=true) :
 Calls prog 172 #[r.val] w (rB (.iface 87 (i6 3)) w):=by
 have HD:Hid ((if r.wr=true then r.m else 0)=D):=hD;clear hD;have l1:=hr.dl;have l2:=hr.tl
 all_goals
  go_enter func172,ntmps172;go_wp2_with fail
  go_at_call 200;refine cM (uJ _ _ _ _ h) ?_;intro w1 hb;(try clear hc hf hz);(first|replace HB:=af HB hb|replace HB:=af (aj HB) hb|have HB:=hb);clear hb;obtain⟨hc,hf,hz⟩:=br HB
  go_wp2_with fail;refine wQ ?_
  repeat(go_big_quiet_step (first|exact rfl|(go_at_call 201;exact cg (uK r _ D HD.out))))
  refine qE ?_;(try clear hc hf hz);(try clear HB);intro p HB hc hf hz;go_wp2;go_ret;exact⟨rfl,bQ⟩
theorem Nz(r:Rq)(w:World)(hr:r.At w)(h:gK r.f r.m 4=true)(D:Int)(hD:(if r.wr=true then r.m else 0)=D)(h2:((r.data.length:Int) != D)=false)(h3:r.tags.length<1\/4<r.tags.length) :
 Calls prog 172 #[r.val] w (rB (.iface 87 (i6 3)) w):=by
 have HD:Hid ((if r.wr=true then r.m else 0)=D):=hD;clear hD;have l1:=hr.dl;have l2:=hr.tl
 rcases h3 with h3|h3
 all_goals
  go_enter func172,ntmps172;go_wp2_with fail
  go_at_call 200;refine cM (uJ _ _ _ _ h) ?_;intro w1 hb;(try clear hc hf hz);(first|replace HB:=af HB hb|replace HB:=af (aj HB) hb|have HB:=hb);clear hb;obtain⟨hc,hf,hz⟩:=br HB
  go_wp2_with fail;refine wQ ?_
  repeat(go_big_quiet_step (first|exact rfl|(go_at_call 201;exact cg (uK r _ D HD.out))))
  refine qE ?_;(try clear hc hf hz);(try clear HB);intro p HB hc hf hz;go_wp2;go_ret;exact⟨rfl,bQ⟩
theorem Nv(r:Rq)(w:World)(hr:r.At w)(h:gK r.f r.m 4=true)(D:Int)(hD:(if r.wr=true then r.m else 0)=D)(h2:((r.data.length:Int) != D)=false)(t1:¬r.tags.length<1)(t2:¬4<r.tags.length)(h4:r.born<0\/(0<=r.born/\1000000000<r.born)) :
 Calls prog 172 #[r.val] w (rB (.iface 87 (i6 1)) w):=by
 have HD:Hid ((if r.wr=true then r.m else 0)=D):=hD;clear hD;have l1:=hr.dl;have l2:=hr.tl
 rcases h4 with h4|⟨h4,h5⟩
 all_goals
  go_enter func172,ntmps172;go_wp2_with fail
  go_at_call 200;refine cM (uJ _ _ _ _ h) ?_;intro w1 hb;(try clear hc hf hz);(first|replace HB:=af HB hb|replace HB:=af (aj HB) hb|have HB:=hb);clear hb;obtain⟨hc,hf,hz⟩:=br HB
  go_wp2_with fail;refine wQ ?_
  repeat(go_big_quiet_step (first|exact rfl|(go_at_call 201;exact cg (uK r _ D HD.out))))
  refine qE ?_;(try clear hc hf hz);(try clear HB);intro p HB hc hf hz;go_wp2;go_ret;exact⟨rfl,bQ⟩
theorem Nx(r:Rq)(w:World)(hr:r.At w)(h:gK r.f r.m 4=true)(D:Int)(hD:(if r.wr=true then r.m else 0)=D)(h2:((r.data.length:Int) != D)=false)(t1:¬r.tags.length<1)(t2:¬4<r.tags.length)(h4:0<=r.born)(h5:r.born<=1000000000)(h6:r.data.any rD=true) :
 Calls prog 172 #[r.val] w (rB (.iface 87 (i6 1)) w):=by
 have HD:Hid ((if r.wr=true then r.m else 0)=D):=hD;clear hD;have l1:=hr.dl;have l2:=hr.tl
 all_goals
  go_enter func172,ntmps172;go_wp2_with fail
  go_at_call 200;refine cM (uJ _ _ _ _ h) ?_;intro w1 hb;(try clear hc hf hz);(first|replace HB:=af HB hb|replace HB:=af (aj HB) hb|have HB:=hb);clear hb;obtain⟨hc,hf,hz⟩:=br HB
  go_wp2_with fail;refine wQ ?_
  repeat(go_big_quiet_step (first|exact rfl|(go_at_call 201;exact cg (uK r _ D HD.out))))
  refine qE ?_;(try clear hc hf hz);(try clear HB);intro p HB hc hf hz;go_wp2_with fail
  go_at_call 202;refine cM (AY r.data _ _ _ (hr.data.later bQ) l1 _ h6) ?_;intro w1 hb;(try clear hc hf hz);(first|replace HB:=af HB hb|replace HB:=af (aj HB) hb|have HB:=hb);clear hb;obtain⟨hc,hf,hz⟩:=br HB
  go_wp2;go_ret;exact⟨rfl,bQ⟩
theorem Nw(r:Rq)(w:World)(hr:r.At w)(h:gK r.f r.m 4=true)(D:Int)(hD:(if r.wr=true then r.m else 0)=D)(h2:((r.data.length:Int) != D)=false)(t1:¬r.tags.length<1)(t2:¬4<r.tags.length)(h4:0<=r.born)(h5:r.born<=1000000000)(h6:r.data.any rD=false) :
 Calls prog 172 #[r.val] w (rB .nilIface w):=by
 have HD:Hid ((if r.wr=true then r.m else 0)=D):=hD;clear hD;have l1:=hr.dl;have l2:=hr.tl
 all_goals
  go_enter func172,ntmps172;go_wp2_with fail
  go_at_call 200;refine cM (uJ _ _ _ _ h) ?_;intro w1 hb;(try clear hc hf hz);(first|replace HB:=af HB hb|replace HB:=af (aj HB) hb|have HB:=hb);clear hb;obtain⟨hc,hf,hz⟩:=br HB
  go_wp2_with fail;refine wQ ?_
  repeat(go_big_quiet_step (first|exact rfl|(go_at_call 201;exact cg (uK r _ D HD.out))))
  refine qE ?_;(try clear hc hf hz);(try clear HB);intro p HB hc hf hz;go_wp2_with fail
  go_at_call 202;refine cM (AY r.data _ _ _ (hr.data.later bQ) l1 _ h6) ?_;intro w1 hb;(try clear hc hf hz);(first|replace HB:=af HB hb|replace HB:=af (aj HB) hb|have HB:=hb);clear hb;obtain⟨hc,hf,hz⟩:=br HB
  go_wp2;go_ret;exact⟨rfl,bQ⟩
theorem aaB(r:Rq)(D:Int)(hD:(if r.wr=true then r.m else 0)=D):((r.data.length:Int) != D)=!(kY r):=by
 subst hD;unfold kY
 cases r.wr
 all_goals
  simp only[afj,afr,adi];rw[ac0];simp only[afg,afY,acv,ne_eq]
  try omega
theorem Qr(r:Rq):r.data.any rD=!(oR r):=by
 unfold oR;rw[List.not_all_eq_any_not]
 congr 1
 funext s
 simp only[rD];rw[<-decide_not]
 congr 1
 simp
theorem QO(r:Rq)(w:World)(hr:r.At w)(n:Int)(hn:oF r=n) :
 Calls prog 172 #[r.val] w (rB (dm n) w):=by
 subst hn;unfold oF;have hD:=aaB r _ rfl
 by_cases h:gK r.f r.m 4=false
 ·rw[aaV h];exact Ny r w h
 ·rw[aaP h];have h':gK r.f r.m 4=true:=by simpa using h
  by_cases h2:kY r=false
  ·rw[aaV h2];exact Mb r w hr h' _ rfl (by rw[hD,h2];rfl)
  ·rw[aaP h2];have pq:((r.data.length:Int) != (if r.wr=true then r.m else 0))=false:=by
    rw[hD];simpa using h2
   by_cases h3:r.tags.length<1\/4<r.tags.length
   ·rw[aaV h3];exact Nz r w hr h' _ rfl pq h3
   ·rw[aaP h3]
    by_cases h4:r.born<0\/1000000000<r.born
    ·rw[aaV h4];exact Nv r w hr h' _ rfl pq oM oM oM
    ·rw[aaP h4];have Tr:=Qr r
     cases hs:oR r
     ·rw[hs] at Tr;exact Nx r w hr h' _ rfl pq oM oM oM oM Tr
     ·rw[hs] at Tr;exact Nw r w hr h' _ rfl pq oM oM oM oM Tr
def xz(R:Rq->Int)(l:List Rq)(i:Nat):Int:=match l[i]? with|some r=>R r|none=>0
def CP(F:Rq->Bool)(l:List Rq)(i:Nat):Bool:=match l[i]? with|some r=>F r|none=>false
def eo(F:Rq->Bool)(R:Rq->Int)(l:List Rq):Nat->Int
 |0=>-1
 |k+1=>if CP F l k=true/\(eo F R l k<0\/xz R l k<xz R l (eo F R l k).toNat) then k else eo F R l k
section
variable{F:Rq->Bool}{R:Rq->Int}{l:List Rq}{k j:Nat}
theorem Am(h:k<l.length):CP F l k=F l[k]:=by simp[CP,h]
theorem yz(h:k<l.length):xz R l k=R l[k]:=by simp[xz,h]
theorem rQ{B:Int}(h:k<l.length)(hF:F l[k]=false)(hB:eo F R l k=B):eo F R l (k+1)=B:=by
 rw[eo,Am h,hF,aaP sM,hB]
theorem rh(h:k<l.length)(hF:F l[k]=true)(hB:eo F R l k=-1):eo F R l (k+1)=k:=by
 rw[eo,Am h,hF,hB,aaV sM]
theorem xr(h:k<l.length)(hj:j<l.length)(hF:F l[k]=true)(hB:eo F R l k=j)(hR:R l[k]<R l[j]):eo F R l (k+1)=k:=by
 rw[eo,Am h,hF,hB,yz h,abG,yz hj,aaV ⟨rfl,ir hR⟩]
theorem xq(h:k<l.length)(hj:j<l.length)(hF:F l[k]=true)(hB:eo F R l k=j)(hR:¬R l[k]<R l[j]):eo F R l (k+1)=j:=by
 rw[eo,Am h,hF,hB,yz h,abG,yz hj,aaP (by rintro⟨_,h'|h'⟩;omega;exact hR h')]
end
def tj(b:Bool)(r:Rq):Bool:=r.wr==b
def kH(b:Bool)(at':Int)(r:Rq):Bool:=(r.wr==b)&&decide (at'<=r.f)
theorem vL(r:Rq)(b:Bool)(pb po:Nat)(w:World)(hp:w.cell? ⟨pb,po,none⟩=some (.bool b))(ff:Bool)(lS:tj b r=ff) :
 Calls prog 211 #[r.val,.pointer (some ⟨pb,po,none⟩)] w (rB (.bool ff) w):=by
 subst lS;have DK:=dU hp;go_enter func211,ntmps211;go_wp2;go_ret;exact⟨rfl,bQ⟩
theorem uz(r:Rq)(w:World) :
 Calls prog 212 #[r.val] w (rB (i6 r.born) w):=by
 go_enter func212,ntmps212;go_wp2;go_ret;exact⟨rfl,bQ⟩
theorem ux(r:Rq)(b:Bool)(a:Int)(pb po qb qo:Nat)(w:World)(hp:w.cell? ⟨pb,po,none⟩=some (.bool b))(hq:w.cell? ⟨qb,qo,none⟩=some (i6 a))(ff:Bool)(lS:kH b a r=ff) :
 Calls prog 208 #[r.val,.pointer (some ⟨pb,po,none⟩),.pointer (some ⟨qb,qo,none⟩)] w (rB (.bool ff) w):=by
 subst lS;have DK:=dU hp;have cI:=dU hq
 cases hb:(r.wr==b)
 ·go_enter func208,ntmps208;go_wp2;go_ret;exact⟨ey (by rw[kH,hb];rfl),bQ⟩
 ·go_enter func208,ntmps208;go_wp2;go_ret;exact⟨ey (by rw[kH,hb];rfl),bQ⟩
theorem sH(r:Rq)(w:World) :
 Calls prog 210 #[r.val] w (rB (i6 r.f) w):=by
 go_enter func210,ntmps210;go_wp2;go_ret;exact⟨rfl,bQ⟩
theorem LH(l:List Rq)(a:Option Addr)(c:Nat)(b':Bool)(pb po:Nat)(w:World)(hl:aW w a l)(hp:w.cell? ⟨pb,po,none⟩=some (.bool b')) :
 Calls prog 209 #[.slice a l.length c,.func (.func 211) #[] #[.pointer (some ⟨pb,po,none⟩)],.func (.func 212) #[] #[]] w
  fun e w'=>e=.returned (i6 (eo (tj b') Rq.born l l.length))/\bL w w':=by
 have bo:=hl.2.2
 rcases hl.form with rfl|⟨b,o,rfl⟩
 ·go_enter func209,ntmps209;go_wp2
  go_loop [7,12] (fun bi i=>i=i6 0/\bi=i6 (-1)) (fun _ _=>0)
  case atStart=>exact⟨rfl,rfl⟩
  case round =>
   obtain⟨rfl,rfl⟩:=hrel;go_wp2;go_ret;exact⟨rfl,bQ⟩
 go_enter func209,ntmps209;go_wp2
 go_loopw[7,12] (fun bi i wr=>∃(k:Nat) (B:Int),k<=l.length/\i=i6 k/\bi=i6 B/\eo (tj b') Rq.born l k=B/\(B=-1\/∃j:Nat,B=j/\j<k)/\bL w wr) (fun _ i _=>l.length-(intOf i).toNat)
 case atStart=>exact⟨0,-1,oM,rfl,rfl,rfl,il rfl,aX _ _⟩
 case round =>
  obtain⟨k,B,hk,rfl,rfl,hB,jQ,HB⟩:=hrel;have HL:Hid (eo (tj b') Rq.born l k=B):=hB;clear hB
  by_cases au:k<l.length
  ·obtain⟨c0,c1,c2,c3,c4,c5⟩:=(hl.later HB).cells au;have l0:=aq c0;have Fy:=aF HB hp;have et:=HB;clear HB;have pK:=jQ
   cases lS:tj b' l[k]
   ·clear jQ;go_wp2_with fail;refine wQ ?_
    repeat(go_big_quiet_step (first|exact rfl|(go_at_call 211;exact cg (vL l[k] _ _ _ _ (aF (Later.below _) (dU Fy _)) _ lS))|(go_at_call 212;exact cg (uz _ _))))
    refine qE ?_;(try clear hc hf hz);(try clear HB);intro p HB hc hf hz;go_wp2;go_roundw
    case rel=>exact⟨k+1,B,oM,gN,rfl,rQ au lS HL.out,pK.elim (fun h=>il h) (fun⟨j,h,hj⟩=>ir ⟨j,h,oM⟩),af (ah et _) HB⟩
    case measure=>simp[intOf];omega
   ·rcases jQ with rfl|⟨j,rfl,hj⟩
    ·go_wp2_with fail;refine wQ ?_
     repeat(go_big_quiet_step (first|exact rfl|(go_at_call 211;exact cg (vL l[k] _ _ _ _ (aF (Later.below _) (dU Fy _)) _ lS))|(go_at_call 212;exact cg (uz _ _))))
     refine qE ?_;(try clear hc hf hz);(try clear HB);intro p HB hc hf hz;go_wp2;go_roundw
     case rel=>exact⟨k+1,k,oM,gN,rfl,rh au lS HL.out,ir ⟨k,rfl,oM⟩,af (ah et _) HB⟩
     case measure=>simp[intOf];omega
    ·have pM:j<l.length:=oM;have uQ:decide ((j:Int)<0)=false:=aa9 oM;obtain⟨d0,d1,d2,d3,d4,d5⟩:=(hl.later et).cells pM
     by_cases hR:Rq.born l[k]<Rq.born l[j]
     ·go_wp2_with fail;refine wQ ?_
      repeat(go_big_quiet_step (first|exact rfl|(go_at_call 211;exact cg (vL l[k] _ _ _ _ (aF (Later.below _) (dU Fy _)) _ lS))|(go_at_call 212;exact cg (uz _ _))))
      refine qE ?_;(try clear hc hf hz);(try clear HB);intro p HB hc hf hz;go_wp2;go_roundw
      case rel=>exact⟨k+1,k,oM,gN,rfl,xr au pM lS HL.out hR,ir ⟨k,rfl,oM⟩,af (ah et _) HB⟩
      case measure=>simp[intOf];omega
     ·go_wp2_with fail;refine wQ ?_
      repeat(go_big_quiet_step (first|exact rfl|(go_at_call 211;exact cg (vL l[k] _ _ _ _ (aF (Later.below _) (dU Fy _)) _ lS))|(go_at_call 212;exact cg (uz _ _))))
      refine qE ?_;(try clear hc hf hz);(try clear HB);intro p HB hc hf hz;go_wp2;go_roundw
      case rel=>exact⟨k+1,j,oM,gN,rfl,xq au pM lS HL.out oM,ir ⟨j,rfl,oM⟩,af (ah et _) HB⟩
      case measure=>simp[intOf];omega
  ·go_wp2;go_ret;exact⟨jI (by rw[show l.length=k from oM];exact HL.out.symm),bQ⟩
theorem Jz(l:List Rq)(a:Option Addr)(c:Nat)(b':Bool)(a':Int)(pb po qb qo:Nat)(w:World)(hl:aW w a l)(hp:w.cell? ⟨pb,po,none⟩=some (.bool b'))(hq:w.cell? ⟨qb,qo,none⟩=some (i6 a')) :
 Calls prog 209 #[.slice a l.length c,.func (.func 208) #[] #[.pointer (some ⟨pb,po,none⟩),.pointer (some ⟨qb,qo,none⟩)],.func (.func 210) #[] #[]] w
  fun e w'=>e=.returned (i6 (eo (kH b' a') Rq.f l l.length))/\bL w w':=by
 have bo:=hl.2.2
 rcases hl.form with rfl|⟨b,o,rfl⟩
 ·go_enter func209,ntmps209;go_wp2
  go_loop [7,12] (fun bi i=>i=i6 0/\bi=i6 (-1)) (fun _ _=>0)
  case atStart=>exact⟨rfl,rfl⟩
  case round =>
   obtain⟨rfl,rfl⟩:=hrel;go_wp2;go_ret;exact⟨rfl,bQ⟩
 go_enter func209,ntmps209;go_wp2
 go_loopw[7,12] (fun bi i wr=>∃(k:Nat) (B:Int),k<=l.length/\i=i6 k/\bi=i6 B/\eo (kH b' a') Rq.f l k=B/\(B=-1\/∃j:Nat,B=j/\j<k)/\bL w wr) (fun _ i _=>l.length-(intOf i).toNat)
 case atStart=>exact⟨0,-1,oM,rfl,rfl,rfl,il rfl,aX _ _⟩
 case round =>
  obtain⟨k,B,hk,rfl,rfl,hB,jQ,HB⟩:=hrel;have HL:Hid (eo (kH b' a') Rq.f l k=B):=hB;clear hB
  by_cases au:k<l.length
  ·obtain⟨c0,c1,c2,c3,c4,c5⟩:=(hl.later HB).cells au;have l0:=aq c0;have Fy:=aF HB hp;have YY:=aF HB hq;have et:=HB;clear HB;have pK:=jQ
   cases lS:kH b' a' l[k]
   ·clear jQ;go_wp2_with fail;refine wQ ?_
    repeat(go_big_quiet_step (first|exact rfl|(go_at_call 208;exact cg (ux l[k] _ _ _ _ _ _ _ (aF (Later.below _) (dU Fy _)) (aF (Later.below _) (dU YY _)) _ lS))|(go_at_call 210;exact cg (sH _ _))))
    refine qE ?_;(try clear hc hf hz);(try clear HB);intro p HB hc hf hz;go_wp2;go_roundw
    case rel=>exact⟨k+1,B,oM,gN,rfl,rQ au lS HL.out,pK.elim (fun h=>il h) (fun⟨j,h,hj⟩=>ir ⟨j,h,oM⟩),af (ah et _) HB⟩
    case measure=>simp[intOf];omega
   ·rcases jQ with rfl|⟨j,rfl,hj⟩
    ·go_wp2_with fail;refine wQ ?_
     repeat(go_big_quiet_step (first|exact rfl|(go_at_call 208;exact cg (ux l[k] _ _ _ _ _ _ _ (aF (Later.below _) (dU Fy _)) (aF (Later.below _) (dU YY _)) _ lS))|(go_at_call 210;exact cg (sH _ _))))
     refine qE ?_;(try clear hc hf hz);(try clear HB);intro p HB hc hf hz;go_wp2;go_roundw
     case rel=>exact⟨k+1,k,oM,gN,rfl,rh au lS HL.out,ir ⟨k,rfl,oM⟩,af (ah et _) HB⟩
     case measure=>simp[intOf];omega
    ·have pM:j<l.length:=oM;have uQ:decide ((j:Int)<0)=false:=aa9 oM;obtain⟨d0,d1,d2,d3,d4,d5⟩:=(hl.later et).cells pM
     by_cases hR:Rq.f l[k]<Rq.f l[j]
     ·go_wp2_with fail;refine wQ ?_
      repeat(go_big_quiet_step (first|exact rfl|(go_at_call 208;exact cg (ux l[k] _ _ _ _ _ _ _ (aF (Later.below _) (dU Fy _)) (aF (Later.below _) (dU YY _)) _ lS))|(go_at_call 210;exact cg (sH _ _))))
      refine qE ?_;(try clear hc hf hz);(try clear HB);intro p HB hc hf hz;go_wp2;go_roundw
      case rel=>exact⟨k+1,k,oM,gN,rfl,xr au pM lS HL.out hR,ir ⟨k,rfl,oM⟩,af (ah et _) HB⟩
      case measure=>simp[intOf];omega
     ·go_wp2_with fail;refine wQ ?_
      repeat(go_big_quiet_step (first|exact rfl|(go_at_call 208;exact cg (ux l[k] _ _ _ _ _ _ _ (aF (Later.below _) (dU Fy _)) (aF (Later.below _) (dU YY _)) _ lS))|(go_at_call 210;exact cg (sH _ _))))
      refine qE ?_;(try clear hc hf hz);(try clear HB);intro p HB hc hf hz;go_wp2;go_roundw
      case rel=>exact⟨k+1,j,oM,gN,rfl,xq au pM lS HL.out oM,ir ⟨j,rfl,oM⟩,af (ah et _) HB⟩
      case measure=>simp[intOf];omega
  ·go_wp2;go_ret;exact⟨jI (by rw[show l.length=k from oM];exact HL.out.symm),bQ⟩
theorem QC(l:List Rq)(a:Option Addr)(c:Nat)(b:Bool)(w:World)(hl:aW w a l) :
 Calls prog 177 #[.slice a l.length c,.bool b] w (rB (i6 (eo (tj b) Rq.born l l.length)) w):=by
 go_enter func177,ntmps177;go_wp2_with fail;refine cM (LH l a c b _ _ _ (hl.later (aA _ _)) sM) ?_;intro w1 HB;go_wp2;go_ret;exact⟨rfl,bQ⟩
theorem Wm(l:List Rq)(a:Option Addr)(c:Nat)(b:Bool)(a':Int)(w:World)(hl:aW w a l) :
 Calls prog 176 #[.slice a l.length c,.bool b,i6 a'] w (rB (i6 (eo (kH b a') Rq.f l l.length)) w):=by
 go_enter func176,ntmps176;go_wp2_with fail;refine cM (Jz l a c b a' _ _ _ _ _ (hl.later (jo _ _ _)) sM sM) ?_;intro w1 HB;go_wp2;go_ret;exact⟨rfl,bQ⟩
structure Tn where
 w:Bool
 g:Int
 s:Int
 p:Int
abbrev Tn.val(t:Tn):Value:=.agg #[.bool t.w,i6 t.g,i6 t.s,i6 t.p]
def dG(b:Bool)(l:List Rq):Int:=eo (tj b) Rq.born l l.length
def fX(b:Bool)(a:Int)(l:List Rq):Int:=eo (kH b a) Rq.f l l.length
theorem kE(l:List Rq)(a:Option Addr)(c:Nat)(b:Bool)(w:World)(hl:aW w a l)(n:Int)(hn:dG b l=n) :
 Calls prog 177 #[.slice a l.length c,.bool b] w (rB (i6 n) w):=by
 subst hn;exact QC l a c b w hl
theorem CQ(l:List Rq)(a:Option Addr)(c:Nat)(b:Bool)(a':Int)(w:World)(hl:aW w a l)(n:Int)(hn:fX b a' l=n) :
 Calls prog 176 #[.slice a l.length c,.bool b,i6 a'] w (rB (i6 n) w):=by
 subst hn;exact Wm l a c b a' w hl
theorem vG{w w2:World}{a0 a1 a2 a3 b0 b1 b2 b3:Value}{T T':TypeId}(HB:Below ((w.alloc (.cells #[a0,a1,a2,a3] T)).alloc (.cells #[b0,b1,b2,b3] T')).heap.size ((w.alloc (.cells #[a0,a1,a2,a3] T)).alloc (.cells #[b0,b1,b2,b3] T')) w2) :
 (w2.cell? ⟨w.heap.size,0,none⟩=some a0/\w2.cell? ⟨w.heap.size,1,none⟩=some a1/\w2.cell? ⟨w.heap.size,2,none⟩=some a2/\w2.cell? ⟨w.heap.size,3,none⟩=some a3) /\
 (w2.frozen? ⟨w.heap.size,0,none⟩=false/\w2.frozen? ⟨w.heap.size,1,none⟩=false/\w2.frozen? ⟨w.heap.size,2,none⟩=false/\w2.frozen? ⟨w.heap.size,3,none⟩=false) /\
 (w2.cell? ⟨w.heap.size+1,0,none⟩=some b0/\w2.cell? ⟨w.heap.size+1,1,none⟩=some b1/\w2.cell? ⟨w.heap.size+1,2,none⟩=some b2/\w2.cell? ⟨w.heap.size+1,3,none⟩=some b3) /\
 (w2.frozen? ⟨w.heap.size+1,0,none⟩=false/\w2.frozen? ⟨w.heap.size+1,1,none⟩=false/\w2.frozen? ⟨w.heap.size+1,2,none⟩=false/\w2.frozen? ⟨w.heap.size+1,3,none⟩=false) /\
 w.heap.size<w2.heap.size/\w.heap.size+1<w2.heap.size:=by
 have hz:=HB.size;simp only[aaW] at hz;have c:=fun o=>HB.cell (p:=⟨w.heap.size,o,none⟩) (by simp only[aaW];omega)
 have f:=fun o=>HB.frozen (p:=⟨w.heap.size,o,none⟩) (by simp only[aaW];omega)
 have c':=fun o=>HB.cell (p:=⟨w.heap.size+1,o,none⟩) (by simp only[aaW];omega)
 have f':=fun o=>HB.frozen (p:=⟨w.heap.size+1,o,none⟩) (by simp only[aaW];omega)
 refine⟨⟨?_,?_,?_,?_⟩,⟨?_,?_,?_,?_⟩,⟨?_,?_,?_,?_⟩,⟨?_,?_,?_,?_⟩,oM,oM⟩
 all_goals first|rw[c]|rw[f]|rw[c']|rw[f']
 all_goals simp
theorem L3(b:Bool)(w:World):Calls prog 178 #[.bool b] w (rB (i6 (if b=true then 8 else 4)) w):=by
 cases b
 all_goals
  go_enter func178,ntmps178;go_wp2;go_ret;exact⟨rfl,aX _ _⟩
theorem SJ(l:List Rq)(a:Option Addr)(c:Nat)(t:Tn)(w:World)(h:t.g<=0\/3<=t.g) :
 Calls prog 129 #[.slice a l.length c,t.val] w (rB (i6 (-1)) w):=by
 rcases h with h|h
 ·go_enter func129,ntmps129;go_wp2;go_ret;exact⟨rfl,bQ⟩
 ·have h':¬t.g<=0:=oM;go_enter func129,ntmps129;go_wp2;go_ret;exact⟨rfl,bQ⟩
theorem Ff(l:List Rq)(a:Option Addr)(c:Nat)(t:Tn)(w:World)(hl:aW w a l)(h:0<t.g)(h2:t.g<3)(n:Int)(hn:fX t.w t.p l=n) :
 Calls prog 129 #[.slice a l.length c,t.val] w (rB (i6 n) w):=by
 go_enter func129,ntmps129;go_wp2_with fail;refine cM (CQ l a c _ _ _ (hl.later (aA _ _)) n hn) ?_;intro w1 HB;go_wp2;go_ret;exact⟨rfl,bQ⟩
theorem Zw(l:List Rq)(a:Option Addr)(c:Nat)(t:Tn)(w:World)(hl:aW w a l)(b1:Bool)(n1 n2:Int)(h1:dG false l=n1)(h2:dG true l=n2)(d1:decide (0<=n1)=b1)(d2:decide (0<=n2)=false) :
 Calls prog 130 #[.slice a l.length c,t.val] w (rB (Tn.val ⟨false,1,t.s,t.p⟩) w):=by
 go_enter func130,ntmps130;go_wp2_with fail;refine cM (kE l a c _ _ (hl.later bQ) n1 h1) ?_;intro w1 HB;go_wp2_with fail;refine cM (kE l a c _ _ (hl.later bQ) n2 h2) ?_;intro w2 hb
 replace HB:=af HB hb
 clear hb h1 h2;obtain⟨⟨p0,p1,p2,p3⟩,⟨f0,f1,f2,f3⟩,⟨q0,q1,q2,q3⟩,⟨g0,g1,g2,g3⟩,z0,z1⟩:=vG HB;go_wp2;exact aaY (v:=Tn.val ⟨false,1,t.s,t.p⟩) (by simp[results,results130,go_sem,q0,q1,q2,q3]) rfl ⟨rfl,bQ⟩
theorem Zx(l:List Rq)(a:Option Addr)(c:Nat)(t:Tn)(w:World)(hl:aW w a l)(n1 n2:Int)(h1:dG false l=n1)(h2:dG true l=n2)(d1:decide (0<=n1)=false)(d2:decide (0<=n2)=true) :
 Calls prog 130 #[.slice a l.length c,t.val] w (rB (Tn.val ⟨true,1,0,t.p⟩) w):=by
 go_enter func130,ntmps130;go_wp2_with fail;refine cM (kE l a c _ _ (hl.later bQ) n1 h1) ?_;intro w1 HB;go_wp2_with fail;refine cM (kE l a c _ _ (hl.later bQ) n2 h2) ?_;intro w2 hb
 replace HB:=af HB hb
 clear hb h1 h2;obtain⟨⟨p0,p1,p2,p3⟩,⟨f0,f1,f2,f3⟩,⟨q0,q1,q2,q3⟩,⟨g0,g1,g2,g3⟩,z0,z1⟩:=vG HB;go_wp2;exact aaY (v:=Tn.val ⟨true,1,0,t.p⟩) (by simp[results,results130,go_sem,q0,q1,q2,q3]) rfl ⟨rfl,bQ⟩
theorem Zy(l:List Rq)(a:Option Addr)(c:Nat)(t:Tn)(w:World)(hl:aW w a l)(n1 n2:Int)(h1:dG false l=n1)(h2:dG true l=n2)(d1:decide (0<=n1)=true)(d2:decide (0<=n2)=true)(hs:2<=t.s) :
 Calls prog 130 #[.slice a l.length c,t.val] w (rB (Tn.val ⟨true,1,0,t.p⟩) w):=by
 go_enter func130,ntmps130;go_wp2_with fail;refine cM (kE l a c _ _ (hl.later bQ) n1 h1) ?_;intro w1 HB;go_wp2_with fail;refine cM (kE l a c _ _ (hl.later bQ) n2 h2) ?_;intro w2 hb
 replace HB:=af HB hb
 clear hb h1 h2;obtain⟨⟨p0,p1,p2,p3⟩,⟨f0,f1,f2,f3⟩,⟨q0,q1,q2,q3⟩,⟨g0,g1,g2,g3⟩,z0,z1⟩:=vG HB;go_wp2;exact aaY (v:=Tn.val ⟨true,1,0,t.p⟩) (by simp[results,results130,go_sem,q0,q1,q2,q3]) rfl ⟨rfl,bQ⟩
theorem Zz(l:List Rq)(a:Option Addr)(c:Nat)(t:Tn)(w:World)(hl:aW w a l)(n1 n2:Int)(h1:dG false l=n1)(h2:dG true l=n2)(d1:decide (0<=n1)=true)(d2:decide (0<=n2)=true)(hs:t.s<2)(YV:-9223372036854775808<=t.s) :
 Calls prog 130 #[.slice a l.length c,t.val] w (rB (Tn.val ⟨false,1,t.s+1,t.p⟩) w):=by
 go_enter func130,ntmps130;go_wp2_with fail;refine cM (kE l a c _ _ (hl.later bQ) n1 h1) ?_;intro w1 HB;go_wp2_with fail;refine cM (kE l a c _ _ (hl.later bQ) n2 h2) ?_;intro w2 hb
 replace HB:=af HB hb
 clear hb h1 h2;obtain⟨⟨p0,p1,p2,p3⟩,⟨f0,f1,f2,f3⟩,⟨q0,q1,q2,q3⟩,⟨g0,g1,g2,g3⟩,z0,z1⟩:=vG HB;go_wp2;exact aaY (v:=Tn.val ⟨false,1,t.s+1,t.p⟩) (by simp[results,results130,go_sem,q0,q1,q2,q3]) rfl ⟨rfl,bQ⟩
def dh(b1 b2:Bool)(t:Tn):Tn:=if b2=false then⟨false,1,t.s,t.p⟩ else if b1=false\/2<=t.s then⟨true,1,0,t.p⟩ else⟨false,1,t.s+1,t.p⟩
theorem FT(F:Rq->Bool)(R:Rq->Int)(l:List Rq):∀k,k<=l.length->(eo F R l k=-1/\∀i (h:i<l.length),i<k->F l[i]=false)\/∃j,∃h:j<l.length,eo F R l k=j/\j<k/\F l[j]=true:=by
 intro k
 induction k with
 |zero=>intro _;exact il ⟨rfl,fun i _ hi=>absurd hi (aa0 _)⟩
 |succ k ih =>
  intro hk;have au:k<l.length:=oM
  rcases ih oM with⟨h1,h2⟩|⟨j,hj,h1,h2,h3⟩
  ·cases hF:F l[k]
   ·left
    refine⟨rQ au hF h1,fun i h hi=>?_⟩
    by_cases e:i=k
    ·subst e;exact hF
    ·exact h2 i h oM
   ·exact ir ⟨k,au,rh au hF h1,oM,hF⟩
  ·cases hF:F l[k]
   ·exact ir ⟨j,hj,rQ au hF h1,oM,h3⟩
   ·by_cases hR:R l[k]<R l[j]
    ·exact ir ⟨k,au,xr au hj hF h1 hR,oM,hF⟩
    ·exact ir ⟨j,hj,xq au hj hF h1 hR,oM,h3⟩
theorem Xb(b:Bool)(l:List Rq):(dG b l=-1/\∀i (h:i<l.length),l[i].wr=!b)\/∃j,∃h:j<l.length,dG b l=j/\l[j].wr=b:=by
 rcases FT (tj b) Rq.born l l.length (aaO _) with⟨h1,h2⟩|⟨j,hj,h1,_,h3⟩
 ·refine il ⟨h1,fun i h=>?_⟩;have:=h2 i h h;simp only[tj,aaU] at this
  revert this;cases l[i].wr<;>cases b<;>simp
 ·exact ir ⟨j,hj,h1,by simpa [tj] using h3⟩
theorem rZ(b:Bool)(a:Int)(l:List Rq):(fX b a l=-1/\∀i (h:i<l.length),l[i].wr=b->l[i].f<a)\/∃j,∃h:j<l.length,fX b a l=j/\l[j].wr=b/\a<=l[j].f:=by
 rcases FT (kH b a) Rq.f l l.length (aaO _) with⟨h1,h2⟩|⟨j,hj,h1,_,h3⟩
 ·refine il ⟨h1,fun i h hw=>?_⟩;have:=h2 i h h;simp only[kH,hw,beq_self_eq_true,adA,acv] at this
  omega
 ·refine ir ⟨j,hj,h1,?_⟩
  simpa [kH] using h3
def lB(b:Bool):Int:=if b=true then 8 else 4
theorem yQ(b:Bool)(w:World)(n:Int)(hn:lB b=n):Calls prog 178 #[.bool b] w (rB (i6 n) w):=by
 subst hn;exact L3 b w
theorem ZN(l:List Rq)(b o:Nat)(c:Nat)(t:Tn)(now:Int)(w:World)(hl:aW w (some ⟨b,o,none⟩) l)(i:Nat)(hi:i<l.length)(h1:dG t.w l=i)
 (n0:0<=now) (n1:now<=1000000000) (b0:0<=l[i].born) (b1:l[i].born<=1000000000) (P:Int) (hP:lB t.w=P) (hn:P<=now-l[i].born) :
 Calls prog 131 #[.slice (some ⟨b,o,none⟩) l.length c,t.val,i6 now] w (rB (i6 i) w):=by
 have bo:=hl.2.2;have iT:decide ((0:Int)<=(i:Int))=true:=aa1 oM;go_enter func131,ntmps131;go_wp2_with fail;refine cM (kE l _ c _ _ (hl.later bQ) _ h1) ?_;intro w1 HB;have et:=af (aA _ _) HB;obtain⟨c0,c1,c2,c3,c4,c5⟩:=hl.cells hi;have l0:=aq c0;have HH:Hid (dG t.w l=i):=h1;clear h1;go_wp2_with fail;refine wQ ?_
 repeat(go_big_quiet_step (first|exact rfl|(go_at_call 178;exact cg (yQ _ _ _ hP))))
 refine qE ?_;(try clear hc hf hz);(try clear HB);intro p HB hc hf hz;go_wp2;go_ret;exact⟨rfl,bQ⟩
theorem ZO(l:List Rq)(b o:Nat)(c:Nat)(t:Tn)(now:Int)(w:World)(hl:aW w (some ⟨b,o,none⟩) l)(i:Nat)(hi:i<l.length)(h1:dG t.w l=i)
 (n0:0<=now) (n1:now<=1000000000) (b0:0<=l[i].born) (b1:l[i].born<=1000000000) (P:Int) (hP:lB t.w=P) (hn:now-l[i].born<P) (j:Nat) (hj:fX t.w t.p l=j) :
 Calls prog 131 #[.slice (some ⟨b,o,none⟩) l.length c,t.val,i6 now] w (rB (i6 j) w):=by
 have bo:=hl.2.2;have iT:decide ((0:Int)<=(i:Int))=true:=aa1 oM;have uQ:decide ((0:Int)<=(j:Int))=true:=aa1 oM;go_enter func131,ntmps131;go_wp2_with fail;refine cM (kE l _ c _ _ (hl.later bQ) _ h1) ?_;intro w1 HB;obtain⟨c0,c1,c2,c3,c4,c5⟩:=hl.cells hi;have l0:=aq c0;have HJ:Hid (fX t.w t.p l=j):=hj;clear h1 hj;go_wp2_with fail;refine wQ ?_
 repeat(go_big_quiet_step (first|exact rfl|(go_at_call 178;exact cg (yQ _ _ _ hP))))
 refine qE ?_;(try clear hc hf hz);(try clear HB);intro p HB hc hf hz;go_wp2_with fail;refine cM (CQ l _ c _ _ _ (hl.later bQ) _ HJ.out) ?_;intro w2 hb;go_wp2;go_ret;exact⟨rfl,bQ⟩
theorem ZP(l:List Rq)(b o:Nat)(c:Nat)(t:Tn)(now:Int)(w:World)(hl:aW w (some ⟨b,o,none⟩) l)(i:Nat)(hi:i<l.length)(h1:dG t.w l=i)
 (n0:0<=now) (n1:now<=1000000000) (b0:0<=l[i].born) (b1:l[i].born<=1000000000) (P:Int) (hP:lB t.w=P) (hn:now-l[i].born<P) (hj:fX t.w t.p l=-1) (n:Int) (lU:fX t.w 0 l=n) :
 Calls prog 131 #[.slice (some ⟨b,o,none⟩) l.length c,t.val,i6 now] w (rB (i6 n) w):=by
 have bo:=hl.2.2;have iT:decide ((0:Int)<=(i:Int))=true:=aa1 oM;go_enter func131,ntmps131;go_wp2_with fail;refine cM (kE l _ c _ _ (hl.later bQ) _ h1) ?_;intro w1 HB;obtain⟨c0,c1,c2,c3,c4,c5⟩:=hl.cells hi;have l0:=aq c0;have HJ:Hid (fX t.w t.p l=-1):=hj;have HK:Hid (fX t.w 0 l=n):=lU;clear h1 hj lU;go_wp2_with fail;refine wQ ?_
 repeat(go_big_quiet_step (first|exact rfl|(go_at_call 178;exact cg (yQ _ _ _ hP))))
 refine qE ?_;(try clear hc hf hz);(try clear HB);intro p HB hc hf hz;go_wp2_with fail;refine cM (CQ l _ c _ _ _ (hl.later bQ) _ HJ.out) ?_;intro w2 hb
 replace HB:=af HB hb
 clear hb hc hf hz;obtain⟨hc,hf,hz⟩:=br HB;go_wp2_with fail;refine cM (CQ l _ c _ _ _ (hl.later bQ) _ HK.out) ?_;intro w3 hb;go_wp2;go_ret;exact⟨rfl,bQ⟩
theorem aah(l:List Rq)(b o:Nat)(c:Nat)(t:Tn)(now:Int)(w:World)(hl:aW w (some ⟨b,o,none⟩) l)(g0:0<t.g)(g1:t.g<3)(j:Nat)(hj:j<l.length)(h1:fX t.w t.p l=j)
 (f0:0<=l[j].f) (f1:l[j].f<=31) (m0:1<=l[j].m) (m1:l[j].m<=32) :
 Calls prog 84 #[.slice (some ⟨b,o,none⟩) l.length c,t.val,i6 now] w (rB (.tuple #[i6 j,Tn.val ⟨t.w,t.g+1,t.s,l[j].f+l[j].m⟩]) w):=by
 have bo:=hl.2.2;have iT:decide ((0:Int)<=(j:Int))=true:=aa1 oM;have Ti:decide ((j:Int)<0)=false:=aa9 oM;obtain⟨c0,c1,c2,c3,c4,c5⟩:=hl.cells hj;have l0:=aq c0;go_enter func84,ntmps84;go_wp2_with fail;refine cM (Ff l _ c t _ (hl.later bQ) g0 g1 _ h1) ?_;intro w1 HB;clear h1;have et:bL w w1:=bQ;obtain⟨⟨p0,p1,p2,p3⟩,⟨k0,k1,k2,k3⟩,⟨q0,q1,q2,q3⟩,⟨e0,e1,e2,e3⟩,z0,z1⟩:=vG HB
 replace c1:=aF et c1
 replace c2:=aF et c2
 have l1:b<w1.heap.size:=aq c1;have aE:¬b=w.heap.size:=oM;have B0:¬b=w.heap.size+1:=oM;have uc:¬b=w1.heap.size:=oM;clear c0 c3 c4 c5 et;go_wp2_with fail
 go_region
 go_wp2_with fail
 go_region
 go_wp2;refine aaY (v:=.tuple #[i6 j,Tn.val ⟨t.w,t.g+1,t.s,l[j].f+l[j].m⟩]) ?_ rfl ⟨rfl,bQ⟩
 simp[results,results84,go_sem,q0,q1,q2,q3,z1]
theorem adS{w1 w2:World}{a0 a1 a2 a3:Value}{T:TypeId}(HB:Below (w1.alloc (.cells #[a0,a1,a2,a3] T)).heap.size (w1.alloc (.cells #[a0,a1,a2,a3] T)) w2) :
 (w2.cell? ⟨w1.heap.size,0,none⟩=some a0/\w2.cell? ⟨w1.heap.size,1,none⟩=some a1/\w2.cell? ⟨w1.heap.size,2,none⟩=some a2/\w2.cell? ⟨w1.heap.size,3,none⟩=some a3) /\
 (w2.frozen? ⟨w1.heap.size,0,none⟩=false/\w2.frozen? ⟨w1.heap.size,1,none⟩=false/\w2.frozen? ⟨w1.heap.size,2,none⟩=false/\w2.frozen? ⟨w1.heap.size,3,none⟩=false) /\
 w1.heap.size<w2.heap.size:=by
 have hz:=HB.size;simp only[aaW] at hz;have c:=fun o=>HB.cell (p:=⟨w1.heap.size,o,none⟩) (by simp only[aaW];omega)
 have f:=fun o=>HB.frozen (p:=⟨w1.heap.size,o,none⟩) (by simp only[aaW];omega)
 refine⟨⟨?_,?_,?_,?_⟩,⟨?_,?_,?_,?_⟩,oM⟩
 all_goals first|rw[c]|rw[f]
 all_goals simp
theorem oG{w w':World}{b o:Nat}{x:Bool}(hb:bL w w')(au:b<w.heap.size)(h:w.frozen? ⟨b,o,none⟩=x):w'.frozen? ⟨b,o,none⟩=x:=by
 rw[hb.frozen (p:=⟨b,o,none⟩) au];exact h
theorem vH{w w':World}{b:Nat}{a0 a1 a2 a3:Value}(hb:bL w w')
 (h:(w.cell? ⟨b,0,none⟩=some a0/\w.cell? ⟨b,1,none⟩=some a1/\w.cell? ⟨b,2,none⟩=some a2/\w.cell? ⟨b,3,none⟩=some a3)/\(w.frozen? ⟨b,0,none⟩=false/\w.frozen? ⟨b,1,none⟩=false/\w.frozen? ⟨b,2,none⟩=false/\w.frozen? ⟨b,3,none⟩=false)) :
 (w'.cell? ⟨b,0,none⟩=some a0/\w'.cell? ⟨b,1,none⟩=some a1/\w'.cell? ⟨b,2,none⟩=some a2/\w'.cell? ⟨b,3,none⟩=some a3)/\(w'.frozen? ⟨b,0,none⟩=false/\w'.frozen? ⟨b,1,none⟩=false/\w'.frozen? ⟨b,2,none⟩=false/\w'.frozen? ⟨b,3,none⟩=false):=by
 obtain⟨⟨c0,c1,c2,c3⟩,⟨f0,f1,f2,f3⟩⟩:=h;have au:=aq c0;exact⟨⟨aF hb c0,aF hb c1,aF hb c2,aF hb c3⟩,⟨oG hb au f0,oG hb au f1,oG hb au f2,oG hb au f3⟩⟩
theorem cB{w:World}{b o b' o':Nat}{v:Value}(h:b' ≠ b\/o' ≠ o):(w.setCell ⟨b,o,none⟩ v).cell? ⟨b',o',none⟩=w.cell? ⟨b',o',none⟩:=by
 apply aa6;intro e;simp only[aci,acS] at e
 rcases h with h|h
 ·exact h e.1.symm
 ·exact h e.2.symm
theorem Ct{w:World}{b:Nat}{a0 a1 a2 a3:Value}(v0 v1 v2 v3:Value)
 (h:(w.cell? ⟨b,0,none⟩=some a0/\w.cell? ⟨b,1,none⟩=some a1/\w.cell? ⟨b,2,none⟩=some a2/\w.cell? ⟨b,3,none⟩=some a3)/\(w.frozen? ⟨b,0,none⟩=false/\w.frozen? ⟨b,1,none⟩=false/\w.frozen? ⟨b,2,none⟩=false/\w.frozen? ⟨b,3,none⟩=false)) :
 ∀X,X=(((w.setCell ⟨b,0,none⟩ v0).setCell ⟨b,1,none⟩ v1).setCell ⟨b,2,none⟩ v2).setCell ⟨b,3,none⟩ v3 ->
 ((X.cell? ⟨b,0,none⟩=some v0/\X.cell? ⟨b,1,none⟩=some v1/\X.cell? ⟨b,2,none⟩=some v2/\X.cell? ⟨b,3,none⟩=some v3)/\(X.frozen? ⟨b,0,none⟩=false/\X.frozen? ⟨b,1,none⟩=false/\X.frozen? ⟨b,2,none⟩=false/\X.frozen? ⟨b,3,none⟩=false)) /\
 (∀b' o',b' ≠ b->X.cell? ⟨b',o',none⟩=w.cell? ⟨b',o',none⟩)/\(∀b' o',b' ≠ b->X.frozen? ⟨b',o',none⟩=w.frozen? ⟨b',o',none⟩)/\X.heap.size=w.heap.size:=by
 obtain⟨⟨c0,c1,c2,c3⟩,⟨f0,f1,f2,f3⟩⟩:=h;intro X hX;subst hX;refine⟨⟨⟨?_,?_,?_,?_⟩,⟨?_,?_,?_,?_⟩⟩,?_,?_,?_⟩
 ·rw[cB (ir dM),cB (ir dM),cB (ir dM)];exact aa2 _ _ _ c0
 ·rw[cB (ir dM),cB (ir dM)];exact aa2 _ _ _ (by rw[cB (ir dM)];exact c1)
 ·rw[cB (ir dM)];exact aa2 _ _ _ (by rw[cB (ir dM),cB (ir dM)];exact c2)
 ·exact aa2 _ _ _ (by rw[cB (ir dM),cB (ir dM),cB (ir dM)];exact c3)
 ·simpa using f0
 ·simpa using f1
 ·simpa using f2
 ·simpa using f3
 ·intro b' o' hb;rw[cB (il hb),cB (il hb),cB (il hb),cB (il hb)]
 ·intro b' o' _;simp
 ·simp
theorem Qz(l:List Rq)(b o:Nat)(c:Nat)(t T:Tn)(now:Int)(w:World)(hl:aW w (some ⟨b,o,none⟩) l)(i:Nat)(hi:i<l.length)
 (Hg:∀w',aW w' (some ⟨b,o,none⟩) l->Calls prog 129 #[.slice (some ⟨b,o,none⟩) l.length c,t.val] w' (rB (i6 (-1)) w'))
 (Hb:∀w',aW w' (some ⟨b,o,none⟩) l->Calls prog 130 #[.slice (some ⟨b,o,none⟩) l.length c,t.val] w' (rB T.val w'))
 (Hf:∀w',aW w' (some ⟨b,o,none⟩) l->Calls prog 131 #[.slice (some ⟨b,o,none⟩) l.length c,T.val,i6 now] w' (rB (i6 i) w'))
 (f0:0<=l[i].f) (f1:l[i].f<=31) (m0:1<=l[i].m) (m1:l[i].m<=32) :
 Calls prog 84 #[.slice (some ⟨b,o,none⟩) l.length c,t.val,i6 now] w (rB (.tuple #[i6 i,Tn.val ⟨T.w,T.g,T.s,l[i].f+l[i].m⟩]) w):=by
 have bo:=hl.2.2;have iT:decide ((0:Int)<=(i:Int))=true:=aa1 oM;have Ti:decide ((i:Int)<0)=false:=aa9 oM;obtain⟨c0,c1,c2,c3,c4,c5⟩:=hl.cells hi;have l0:=aq c0;clear c0 c3 c4 c5;have HG:Hid (∀w',aW w' (some ⟨b,o,none⟩) l->Calls prog 129 #[.slice (some ⟨b,o,none⟩) l.length c,t.val] w' (rB (i6 (-1)) w')):=Hg;have HE:Hid (∀w',aW w' (some ⟨b,o,none⟩) l->Calls prog 130 #[.slice (some ⟨b,o,none⟩) l.length c,t.val] w' (rB T.val w')):=Hb;have HF:Hid (∀w',aW w' (some ⟨b,o,none⟩) l->Calls prog 131 #[.slice (some ⟨b,o,none⟩) l.length c,T.val,i6 now] w' (rB (i6 i) w')):=Hf;clear Hg Hb Hf;go_enter func84,ntmps84;go_wp2_with fail;refine cM (HG.out _ (hl.later bQ)) ?_;intro w1 HB;have et:bL w w1:=bQ;obtain⟨p,k,q,e,z0,z1⟩:=vG HB;clear HB;obtain⟨⟨p0,p1,p2,p3⟩,⟨k0,k1,k2,k3⟩⟩:=(⟨p,k⟩:_/\_)
 go_wp2_with fail;refine(HE.out _ (hl.later bQ)).mono ?_;rintro e' w2 ⟨rfl,HB⟩;clear p0 p1 p2 p3 k0 k1 k2 k3;obtain⟨⟨p0,p1,p2,p3⟩,⟨k0,k1,k2,k3⟩,y0⟩:=adS HB;obtain⟨q,e⟩:=vH (af (aA _ _) HB) ⟨q,e⟩;obtain⟨⟨q0,q1,q2,q3⟩,⟨e0,e1,e2,e3⟩⟩:=(⟨q,e⟩:_/\_)
 have aN:bL w w2:=af et (af (aA _ _) HB);go_wp2_with fail;obtain⟨⟨s0,s1⟩,s2,s3,s4⟩:=Ct (Value.bool T.w) (Value.int .i64 T.g) (Value.int .i64 T.s) (Value.int .i64 T.p) ⟨⟨p0,p1,p2,p3⟩,⟨k0,k1,k2,k3⟩⟩ _ rfl;have hq:=fun o'=>s2 (w.heap.size+1) o' oM
 have he:=fun o'=>s3 (w.heap.size+1) o' oM
 have bT:Below w.heap.size w _:=al (al (al (al aN (b:=w1.heap.size) (o:=0) oM (Value.bool T.w)) (b:=w1.heap.size) (o:=1) oM (Value.int .i64 T.g)) (b:=w1.heap.size) (o:=2) oM (Value.int .i64 T.s)) (b:=w1.heap.size) (o:=3) oM (Value.int .i64 T.p);refine(HF.out _ (hl.later bT)).mono ?_;rintro e' w3 ⟨rfl,fi⟩;obtain⟨⟨r0,r1,r2,r3⟩,⟨x0,x1,x2,x3⟩⟩:=vH fi ⟨s0,s1⟩;obtain⟨⟨t0,t1,t2,t3⟩,⟨y0',y1',y2',y3'⟩⟩:=vH (b:=w.heap.size+1) fi ⟨⟨(hq 0).trans q0,(hq 1).trans q1,(hq 2).trans q2,(hq 3).trans q3⟩,⟨(he 0).trans e0,(he 1).trans e1,(he 2).trans e2,(he 3).trans e3⟩⟩;have jV:bL w w3:=af bT fi
 replace c1:=aF jV c1
 replace c2:=aF jV c2
 have l1:b<w3.heap.size:=aq c1;have z3:w1.heap.size<w3.heap.size:=aq r0;have z4:w.heap.size+1<w3.heap.size:=aq t0;have B0:¬b=w.heap.size+1:=oM;have uc:¬b=w1.heap.size:=oM;have Ei:¬w.heap.size+1=w1.heap.size:=oM;have Ej:¬w1.heap.size=w.heap.size+1:=oM;have hne5:¬w1.heap.size=b:=oM;have hne6:¬w.heap.size+1=b:=oM;clear p0 p1 p2 p3 k0 k1 k2 k3 q0 q1 q2 q3 e0 e1 e2 e3 s0 s1 s2 s3 s4 hq he bT fi HB aN et y0 z1 l0 hl HG HE HF;go_wp2_with fail
 go_region
 go_wp2_with fail
 go_region
 go_wp2;refine aaY (v:=.tuple #[i6 i,Tn.val ⟨T.w,T.g,T.s,l[i].f+l[i].m⟩]) ?_ rfl ⟨rfl,bQ⟩
 simp[results,results84,go_sem,t0,t1,t2,t3]
def jm(w:World)(b:Nat)(a0 a1 a2 a3:Value):Prop :=
 (w.cell? ⟨b,0,none⟩=some a0/\w.cell? ⟨b,1,none⟩=some a1/\w.cell? ⟨b,2,none⟩=some a2/\w.cell? ⟨b,3,none⟩=some a3)/\(w.frozen? ⟨b,0,none⟩=false/\w.frozen? ⟨b,1,none⟩=false/\w.frozen? ⟨b,2,none⟩=false/\w.frozen? ⟨b,3,none⟩=false)
section
variable{w w':World}{b b' o:Nat}{a0 a1 a2 a3:Value}
theorem jm.later(h:jm w b a0 a1 a2 a3)(hb:bL w w'):jm w' b a0 a1 a2 a3:=vH hb h
theorem jm.other(h:jm w b a0 a1 a2 a3)(aE:b ≠ b')(v:Value):jm (w.setCell ⟨b',o,none⟩ v) b a0 a1 a2 a3:=by
 obtain⟨⟨c0,c1,c2,c3⟩,⟨f0,f1,f2,f3⟩⟩:=h;refine⟨⟨?_,?_,?_,?_⟩,⟨?_,?_,?_,?_⟩⟩
 all_goals first|(rw[cB (il aE)];assumption)|(rw[af1];assumption)
theorem jm.Cr(h:jm w b a0 a1 a2 a3)(v:Value):jm (w.setCell ⟨b,0,none⟩ v) b v a1 a2 a3:=by
 obtain⟨⟨c0,c1,c2,c3⟩,⟨f0,f1,f2,f3⟩⟩:=h;refine⟨⟨aa2 _ _ _ c0,?_,?_,?_⟩,⟨?_,?_,?_,?_⟩⟩
 all_goals first|(rw[cB (ir dM)];assumption)|(rw[af1];assumption)
theorem jm.Cs(h:jm w b a0 a1 a2 a3)(v:Value):jm (w.setCell ⟨b,2,none⟩ v) b a0 a1 v a3:=by
 obtain⟨⟨c0,c1,c2,c3⟩,⟨f0,f1,f2,f3⟩⟩:=h;refine⟨⟨?_,?_,aa2 _ _ _ c2,?_⟩,⟨?_,?_,?_,?_⟩⟩
 all_goals first|(rw[cB (ir dM)];assumption)|(rw[af1];assumption)
end
theorem NJ(l:List Rq)(a:Option Addr)(c:Nat)(b':Bool)(w:World)(hl:aW w a l) :
 Calls prog 150 #[.slice a l.length c,.bool b'] w (rB (i6 (eo (tj b') Rq.born l l.length)) w):=by
 have bo:=hl.2.2
 rcases hl.form with rfl|⟨b,o,rfl⟩
 ·go_enter func150,ntmps150;go_wp2
  go_loop [5,6] (fun bi i=>i=i6 0/\bi=i6 (-1)) (fun _ _=>0)
  case atStart=>exact⟨rfl,rfl⟩
  case round =>
   obtain⟨rfl,rfl⟩:=hrel;go_wp2;go_ret;exact⟨rfl,bQ⟩
 go_enter func150,ntmps150;go_wp2
 go_loopw[5,6] (fun bi i wr=>∃(k:Nat) (B:Int),k<=l.length/\i=i6 k/\bi=i6 B/\eo (tj b') Rq.born l k=B/\(B=-1\/∃j:Nat,B=j/\j<k)/\bL w wr) (fun _ i _=>l.length-(intOf i).toNat)
 case atStart=>exact⟨0,-1,oM,rfl,rfl,rfl,il rfl,aX _ _⟩
 case round =>
  obtain⟨k,B,hk,rfl,rfl,hB,jQ,HB⟩:=hrel;have HL:Hid (eo (tj b') Rq.born l k=B):=hB;clear hB
  by_cases au:k<l.length
  ·obtain⟨c0,c1,c2,c3,c4,c5⟩:=hl.cells au;have l0:=aq c0;obtain⟨hc,hf,hz⟩:=br HB
   cases lS:(l[k].wr==b')
   ·have pK:=jQ;clear jQ;go_wp2_with fail;refine wQ ?_
    repeat(go_big_quiet_step (exact rfl))
    refine qE ?_;(try clear hc hf hz);(try clear HB);intro p HB hc hf hz;go_wp2;go_roundw
    case rel=>exact⟨k+1,B,oM,gN,rfl,rQ au (lS) HL.out,pK.elim (fun h=>il h) (fun⟨j,h,hj⟩=>ir ⟨j,h,oM⟩),HB⟩
    case measure=>simp[intOf];omega
   ·have GY:tj b' l[k]=true:=lS
    rcases jQ with rfl|⟨j,rfl,hj⟩
    ·go_wp2_with fail;refine wQ ?_
     repeat(go_big_quiet_step (exact rfl))
     refine qE ?_;(try clear hc hf hz);(try clear HB);intro p HB hc hf hz;go_wp2;go_roundw
     case rel=>exact⟨k+1,k,oM,gN,rfl,rh au (GY) HL.out,ir ⟨k,rfl,oM⟩,HB⟩
     case measure=>simp[intOf];omega
    ·have pM:j<l.length:=oM;have uQ:decide ((j:Int)<0)=false:=aa9 oM;obtain⟨d0,d1,d2,d3,d4,d5⟩:=hl.cells pM
     by_cases hR:Rq.born l[k]<Rq.born l[j]
     ·go_wp2_with fail;refine wQ ?_
      repeat(go_big_quiet_step (exact rfl))
      refine qE ?_;(try clear hc hf hz);(try clear HB);intro p HB hc hf hz;go_wp2;go_roundw
      case rel=>exact⟨k+1,k,oM,gN,rfl,xr au pM (GY) HL.out hR,ir ⟨k,rfl,oM⟩,HB⟩
      case measure=>simp[intOf];omega
     ·go_wp2_with fail;refine wQ ?_
      repeat(go_big_quiet_step (exact rfl))
      refine qE ?_;(try clear hc hf hz);(try clear HB);intro p HB hc hf hz;go_wp2;go_roundw
      case rel=>exact⟨k+1,j,oM,gN,rfl,xq au pM (GY) HL.out oM,ir ⟨j,rfl,oM⟩,HB⟩
      case measure=>simp[intOf];omega
  ·go_wp2;go_ret;exact⟨jI (by rw[show l.length=k from oM];exact HL.out.symm),bQ⟩
theorem UG(l:List Rq)(a:Option Addr)(c:Nat)(b':Bool)(a':Int)(w:World)(hl:aW w a l) :
 Calls prog 149 #[.slice a l.length c,.bool b',i6 a'] w (rB (i6 (eo (kH b' a') Rq.f l l.length)) w):=by
 have bo:=hl.2.2
 rcases hl.form with rfl|⟨b,o,rfl⟩
 ·go_enter func149,ntmps149;go_wp2
  go_loop [7,8] (fun bi i=>i=i6 0/\bi=i6 (-1)) (fun _ _=>0)
  case atStart=>exact⟨rfl,rfl⟩
  case round =>
   obtain⟨rfl,rfl⟩:=hrel;go_wp2;go_ret;exact⟨rfl,bQ⟩
 go_enter func149,ntmps149;go_wp2
 go_loopw[7,8] (fun bi i wr=>∃(k:Nat) (B:Int),k<=l.length/\i=i6 k/\bi=i6 B/\eo (kH b' a') Rq.f l k=B/\(B=-1\/∃j:Nat,B=j/\j<k)/\bL w wr) (fun _ i _=>l.length-(intOf i).toNat)
 case atStart=>exact⟨0,-1,oM,rfl,rfl,rfl,il rfl,aX _ _⟩
 case round =>
  obtain⟨k,B,hk,rfl,rfl,hB,jQ,HB⟩:=hrel;have HL:Hid (eo (kH b' a') Rq.f l k=B):=hB;clear hB
  by_cases au:k<l.length
  ·obtain⟨c0,c1,c2,c3,c4,c5⟩:=hl.cells au;have l0:=aq c0;obtain⟨hc,hf,hz⟩:=br HB
   by_cases hw:l[k].wr=b'
   ·by_cases YV:l[k].f<a'
    ·have pK:=jQ;clear jQ;go_wp2;go_roundw
     case rel=>exact⟨k+1,B,oM,gN,rfl,rQ au (by simp only[kH];rw[aa9 oM,Bool.and_false]) HL.out,pK.elim (fun h=>il h) (fun⟨j,h,hj⟩=>ir ⟨j,h,oM⟩),HB⟩
     case measure=>simp[intOf];omega
    ·have GY:kH b' a' l[k]=true:=by
      simp only[kH,hw,beq_self_eq_true,adA,aba];omega
     have HF:Hid (kH b' a' l[k]=true):=GY;clear GY
     rcases jQ with rfl|⟨j,rfl,hj⟩
     ·go_wp2_with fail;refine wQ ?_
      repeat(go_big_quiet_step (exact rfl))
      refine qE ?_;(try clear hc hf hz);(try clear HB);intro p HB hc hf hz;go_wp2;go_roundw
      case rel=>exact⟨k+1,k,oM,gN,rfl,rh au (HF.out) HL.out,ir ⟨k,rfl,oM⟩,HB⟩
      case measure=>simp[intOf];omega
     ·have pM:j<l.length:=oM;have uQ:decide ((j:Int)<0)=false:=aa9 oM;obtain⟨d0,d1,d2,d3,d4,d5⟩:=hl.cells pM
      by_cases hR:Rq.f l[k]<Rq.f l[j]
      ·go_wp2_with fail;refine wQ ?_
       repeat(go_big_quiet_step (exact rfl))
       refine qE ?_;(try clear hc hf hz);(try clear HB);intro p HB hc hf hz;go_wp2;go_roundw
       case rel=>exact⟨k+1,k,oM,gN,rfl,xr au pM (HF.out) HL.out hR,ir ⟨k,rfl,oM⟩,HB⟩
       case measure=>simp[intOf];omega
      ·go_wp2_with fail;refine wQ ?_
       repeat(go_big_quiet_step (exact rfl))
       refine qE ?_;(try clear hc hf hz);(try clear HB);intro p HB hc hf hz;go_wp2;go_roundw
       case rel=>exact⟨k+1,j,oM,gN,rfl,xq au pM (HF.out) HL.out oM,ir ⟨j,rfl,oM⟩,HB⟩
       case measure=>simp[intOf];omega
   ·have pK:=jQ;clear jQ;go_wp2;go_roundw
    case rel=>exact⟨k+1,B,oM,gN,rfl,rQ au (by simp only[kH];rw[aaU.2 hw,agi]) HL.out,pK.elim (fun h=>il h) (fun⟨j,h,hj⟩=>ir ⟨j,h,oM⟩),HB⟩
    case measure=>simp[intOf];omega
  ·go_wp2;go_ret;exact⟨jI (by rw[show l.length=k from oM];exact HL.out.symm),bQ⟩
def ej(p:Bf->Bool)(l:List Bf):Int:=match l.findIdx? p with|some k=>(k:Int)|none=>-1
theorem TN{p:Bf->Bool}{l:List Bf}{k:Nat}(h:k<l.length)(hp:p l[k]=true)(hb:∀j (hj:j<k),p (l[j]'oM)=false):ej p l=k:=by
 have:l.findIdx? p=some k:=by
  rw[abX];exact⟨h,hp,fun j hj=>by rw[hb j hj];exact aa7⟩
 rw[ej,this]
theorem Lv{p:Bf->Bool}{l:List Bf}(h:∀j (hj:j<l.length),p l[j]=false):ej p l=-1:=by
 have:l.findIdx? p=none:=by
  rw[acy];intro x hx;obtain⟨j,hj,rfl⟩:=abM hx;exact h j hj
 rw[ej,this]
theorem jF(p:Bf->Bool)(l:List Bf):(ej p l=-1/\∀j (hj:j<l.length),p l[j]=false)\/∃(k:Nat) (h:k<l.length),ej p l=k/\p l[k]=true/\∀j (hj:j<k),p (l[j]'oM)=false:=by
 cases e:l.findIdx? p with
 |none =>
  left
  refine⟨by rw[ej,e],fun j hj=>?_⟩;rw[acy] at e;exact e _ (aa5 hj)
 |some k =>
  right
  have e':=e;rw[abX] at e;obtain⟨h1,h2,h3⟩:=e;refine⟨k,h1,by rw[ej,e'],h2,fun j hj=>?_⟩;have:=h3 j hj
  simpa using this
theorem FG(g:Nat)(eg:∀args w,(callFunc g args).run prog w=.ok (.enter g args) w)(cp:Value)(p:Bf->Bool)(l:List Bf)(a:Option Addr)(c:Nat)(w:World)(hl:bA w a l)
 (hp:∀(x:Bf) w',bL w w'->Calls prog g #[x.val,cp] w' (rB (.bool (p x)) w')) :
 Calls prog 170 #[.slice a l.length c,.func (.func g) #[] #[cp]] w (rB (i6 (ej p l)) w):=by
 have bo:=hl.2
 rcases hl.form with rfl|⟨b,o,rfl⟩
 ·clear hp;go_enter func170,ntmps170;go_wp2
  go_loop [8] (fun i=>i=i6 0) (fun _=>0)
  case atStart=>rfl
  case round =>
   subst hrel;go_wp2;go_ret;exact⟨rfl,bQ⟩
 have HP:Hid (∀(x:Bf) w',bL w w'->Calls prog g #[x.val,cp] w' (rB (.bool (p x)) w')):=hp;clear hp;go_enter func170,ntmps170;go_wp2
 go_loopw[8] (fun i wr=>∃k:Nat,k<=l.length/\i=i6 k/\(∀j (hj:j<l.length),j<k->p l[j]=false)/\bL w wr) (fun i _=>l.length-(intOf i).toNat)
 case atStart=>exact⟨0,oM,rfl,fun j hj h=>absurd h (aa0 _),aX _ _⟩
 case round =>
  obtain⟨k,hk,rfl,dV,HB⟩:=hrel;have HN:Hid (∀j (hj:j<l.length),j<k->p l[j]=false):=dV;clear dV
  by_cases au:k<l.length
  ·obtain⟨c0,c1,c2,c3⟩:=(hl.later HB).cells au;have hq:=HP.out l[k] wr HB
   cases kb:p l[k]
   ·rw[kb] at hq;have HQ:Hid _:=hq;clear hq;go_wp2_with fail;refine afT HQ.out ?_;rintro e w1 ⟨rfl,hb⟩;go_wp2;go_roundw
    case rel=>exact⟨k+1,oM,gN,fun j hj h=>by by_cases e:j=k;(subst e;exact kb);exact HN.out j hj oM,af HB hb⟩
    case measure=>simp[intOf];omega
   ·rw[kb] at hq;have HQ:Hid _:=hq;clear hq;go_wp2_with fail;refine afT HQ.out ?_;rintro e w1 ⟨rfl,hb⟩;go_wp2;go_ret;exact⟨jI (TN au kb (fun j hj=>HN.out j oM hj)).symm,af HB hb⟩
  ·go_wp2;go_ret;exact⟨jI (Lv (fun j hj=>HN.out j hj oM)).symm,HB⟩
theorem QD(x:Bf)(at':Int)(pb po:Nat)(w:World)(hp:w.cell? ⟨pb,po,none⟩=some (i6 at')) :
 Calls prog 171 #[x.val,.pointer (some ⟨pb,po,none⟩)] w (rB (.bool (x.pl==at')) w):=by
 have DK:=uv hp;go_enter func171,ntmps171;go_wp2;go_ret;exact⟨rfl,bQ⟩
def eP(at':Int)(x:Bf):Bool:=x.pl==at'
theorem Uj(l:List Bf)(a:Option Addr)(c:Nat)(at':Int)(w:World)(hl:bA w a l) :
 Calls prog 127 #[.slice a l.length c,i6 at'] w (rB (i6 (ej (eP at') l)) w):=by
 go_enter func127,ntmps127;go_wp2_with fail;refine cM (FG 171 (by intro args w;go_simp) (.pointer (some ⟨w.heap.size,0,none⟩)) (eP at') l a c _ (hl.later (aA _ _)) (fun x w' hb=>QD x at' w.heap.size 0 w' (ai hb sM))) ?_;intro w1 HB;go_wp2;go_ret;exact⟨rfl,bQ⟩
theorem aB{p:Prop}(h:p):Hid p:=h
theorem lX(l:List Bf)(a:Option Addr)(c:Nat)(at':Int)(w:World)(hl:bA w a l)(r:Int)(hr:ej (eP at') l=r) :
 Calls prog 127 #[.slice a l.length c,i6 at'] w (rB (i6 r) w):=by
 subst hr;exact Uj l a c at' w hl
abbrev JV:Value:=.agg #[i6 0,.string ⟨#[]⟩,.bool false,i6 0]
theorem C6{w w1:World}{a0 a1 a2 a3:Value}{T:TypeId}(HB:Below (w.alloc (.cells #[a0,a1,a2,a3] T)).heap.size (w.alloc (.cells #[a0,a1,a2,a3] T)) w1) :
 (w1.cell? ⟨w.heap.size,0,none⟩=some a0/\w1.cell? ⟨w.heap.size,1,none⟩=some a1/\w1.cell? ⟨w.heap.size,2,none⟩=some a2/\w1.cell? ⟨w.heap.size,3,none⟩=some a3) /\
 (w1.frozen? ⟨w.heap.size,0,none⟩=false/\w1.frozen? ⟨w.heap.size,1,none⟩=false/\w1.frozen? ⟨w.heap.size,2,none⟩=false/\w1.frozen? ⟨w.heap.size,3,none⟩=false)/\w.heap.size<w1.heap.size:=by
 have hz:=HB.size;simp only[aaW] at hz;have c:=fun o=>HB.cell (p:=⟨w.heap.size,o,none⟩) (by simp only[aaW];omega)
 have f:=fun o=>HB.frozen (p:=⟨w.heap.size,o,none⟩) (by simp only[aaW];omega)
 refine⟨⟨?_,?_,?_,?_⟩,⟨?_,?_,?_,?_⟩,oM⟩
 all_goals first|rw[c]|rw[f]
 all_goals simp
theorem Fe(l:List Bf)(a:Option Addr)(c:Nat)(at':Int)(w:World)(hl:bA w a l)(h:ej (eP at') l=-1) :
 Calls prog 81 #[.slice a l.length c,i6 at'] w (rB (.tuple #[JV,.bool false]) w):=by
 go_enter func81,ntmps81;go_wp2_with fail;refine cM (lX l a c at' _ (hl.later (aA _ _)) _ h) ?_;intro w1 HB;obtain⟨⟨m0,m1,m2,m3⟩,⟨f0,f1,f2,f3⟩,hz⟩:=C6 HB;have aN:bL w w1:=bQ;clear HB h;go_wp2;refine aaY (v:=.tuple #[JV,.bool false]) ?_ rfl ⟨rfl,bQ⟩
 simp[results,results81,go_sem,m0,m1,m2,m3]
theorem zr(l:List Bf)(a:Option Addr)(c:Nat)(at':Int)(w:World)(hl:bA w a l)(k:Nat)(hk:k<l.length)(h:ej (eP at') l=k) :
 Calls prog 81 #[.slice a l.length c,i6 at'] w (rB (.tuple #[l[k].val,.bool true]) w):=by
 have h0:l ≠ []:=by rintro rfl;exact absurd hk (aa0 _)
 obtain⟨b,o,rfl⟩:=hl.form.resolve_left h0;have bo:=hl.2;go_enter func81,ntmps81;go_wp2_with fail;refine cM (lX l _ c at' _ (hl.later (aA _ _)) _ h) ?_;intro w1 HB;obtain⟨⟨m0,m1,m2,m3⟩,⟨f0,f1,f2,f3⟩,hz⟩:=C6 HB;have aN:bL w w1:=bQ;obtain⟨c0,c1,c2,c3⟩:=(hl.later aN).cells hk;have l0:=ar c0;have l1:=ar (hl.cells hk).1;have n1:b ≠ w.heap.size:=oM;clear HB h h0;go_wp2;refine aaY (v:=.tuple #[l[k].val,.bool true]) ?_ rfl ⟨rfl,bQ⟩
 simp[results,results81,go_sem,m0,m1,m2,m3]
def Gx(l:List Bf)(i:Nat):Int:=match l[i]? with|some r=>r.used|none=>0
def KT(F:Bf->Bool)(l:List Bf)(i:Nat):Bool:=match l[i]? with|some r=>F r|none=>false
def dz(F:Bf->Bool)(l:List Bf):Nat->Int
 |0=>-1
 |k+1=>if KT F l k=true/\(dz F l k<0\/Gx l k<Gx l (dz F l k).toNat) then k else dz F l k
section
variable{F:Bf->Bool}{l:List Bf}{k j:Nat}
theorem rY(h:k<l.length):KT F l k=F l[k]:=by simp[KT,h]
theorem yG(h:k<l.length):Gx l k=l[k].used:=by simp[Gx,h]
theorem uV{B:Int}(h:k<l.length)(hF:F l[k]=false)(hB:dz F l k=B):dz F l (k+1)=B:=by
 rw[dz,rY h,hF,aaP sM,hB]
theorem xo(h:k<l.length)(hF:F l[k]=true)(hB:dz F l k=-1):dz F l (k+1)=k:=by
 rw[dz,rY h,hF,hB,aaV sM]
theorem Ce(h:k<l.length)(hj:j<l.length)(hF:F l[k]=true)(hB:dz F l k=j)(hR:l[k].used<l[j].used):dz F l (k+1)=k:=by
 rw[dz,rY h,hF,hB,yG h,abG,yG hj,aaV ⟨rfl,ir hR⟩]
theorem Cd(h:k<l.length)(hj:j<l.length)(hF:F l[k]=true)(hB:dz F l k=j)(hR:¬l[k].used<l[j].used):dz F l (k+1)=j:=by
 rw[dz,rY h,hF,hB,yG h,abG,yG hj,aaP (by rintro⟨_,h'|h'⟩;omega;exact hR h')]
theorem jz(F:Bf->Bool)(l:List Bf):∀n,n<=l.length->(dz F l n=-1/\∀j (hj:j<l.length),j<n->F l[j]=false)\/∃(k:Nat) (h:k<l.length),k<n/\dz F l n=k/\F l[k]=true/\(∀j (hj:j<l.length),j<n->F l[j]=true->l[k].used<=l[j].used)/\∀j (hj:j<k),F (l[j]'oM)=true->l[k].used<(l[j]'oM).used:=by
 intro n
 induction n with
 |zero=>intro _;exact il ⟨rfl,fun j _ h=>absurd h (aa0 _)⟩
 |succ n ih =>
  intro hn;have nW:n<l.length:=oM
  rcases ih oM with⟨h1,h2⟩|⟨k,hk,IP,h1,h2,h3,h4⟩
  ·cases hF:F l[n]
   ·left
    refine⟨uV nW hF h1,fun j hj YU=>?_⟩
    by_cases e:j=n
    ·subst e;exact hF
    ·exact h2 j hj oM
   ·right
    refine⟨n,nW,oM,xo nW hF h1,hF,fun j hj YU wO=>?_,fun j hj wO=>?_⟩
    ·by_cases e:j=n
     ·subst e;exact afw _
     ·rw[h2 j hj oM] at wO;cases wO
    ·rw[h2 j oM oM] at wO;cases wO
  ·right
   cases hF:F l[n]
   ·refine⟨k,hk,oM,uV nW hF h1,h2,fun j hj YU wO=>?_,h4⟩
    by_cases e:j=n
    ·subst e;rw[hF] at wO;cases wO
    ·exact h3 j hj oM wO
   ·by_cases hR:l[n].used<l[k].used
    ·refine⟨n,nW,oM,Ce nW hk hF h1 hR,hF,fun j hj YU wO=>?_,fun j hj wO=>?_⟩
     ·by_cases e:j=n
      ·subst e;exact afw _
      ·have:=h3 j hj oM wO;omega
     ·have:=h3 j oM oM wO;omega
    ·refine⟨k,hk,oM,Cd nW hk hF h1 hR,h2,fun j hj YU wO=>?_,h4⟩
     by_cases e:j=n
     ·subst e;omega
     ·exact h3 j hj oM wO
end
theorem AQ(r:Bf)(w:World) :
 Calls prog 167 #[r.val] w (rB (i6 r.used) w):=by
 go_enter func167,ntmps167;go_wp2;go_ret;exact⟨rfl,bQ⟩
theorem Qq(z1 z2:Value)(F:Bf->Bool)(l:List Bf)(a:Option Addr)(c:Nat)(w:World)(hl:bA w a l)
 (hp:∀(x:Bf) w',bL w w'->Calls prog 165 #[x.val,z1,z2] w' (rB (.bool (F x)) w')) :
 Calls prog 166 #[.slice a l.length c,.func (.func 165) #[] #[z1,z2],.func (.func 167) #[] #[]] w
  fun e w'=>e=.returned (i6 (dz F l l.length))/\bL w w':=by
 have bo:=hl.2
 rcases hl.form with rfl|⟨b,o,rfl⟩
 ·clear hp;go_enter func166,ntmps166;go_wp2
  go_loop [7,12] (fun bi i=>i=i6 0/\bi=i6 (-1)) (fun _ _=>0)
  case atStart=>exact⟨rfl,rfl⟩
  case round =>
   obtain⟨rfl,rfl⟩:=hrel;go_wp2;go_ret;exact⟨rfl,bQ⟩
 have HP:Hid (∀(x:Bf) w',bL w w'->Calls prog 165 #[x.val,z1,z2] w' (rB (.bool (F x)) w')):=hp;clear hp;go_enter func166,ntmps166;go_wp2
 go_loopw[7,12] (fun bi i wr=>∃(k:Nat) (B:Int),k<=l.length/\i=i6 k/\bi=i6 B/\dz F l k=B/\(B=-1\/∃j:Nat,B=j/\j<k)/\bL w wr) (fun _ i _=>l.length-(intOf i).toNat)
 case atStart=>exact⟨0,-1,oM,rfl,rfl,rfl,il rfl,aX _ _⟩
 case round =>
  obtain⟨k,B,hk,rfl,rfl,hB,jQ,HB⟩:=hrel;have HL:Hid (dz F l k=B):=hB;clear hB
  by_cases au:k<l.length
  ·obtain⟨c0,c1,c2,c3⟩:=(hl.later HB).cells au;have l0:=ar c0;have et:=HB;clear HB;have pK:=jQ;have Di:=HP.out l[k]
   cases lS:F l[k]
   ·rw[lS] at Di;have HK:=aB Di;clear Di;clear jQ;go_wp2_with fail;refine wQ ?_
    repeat(go_big_quiet_step (first|exact rfl|(go_at_call 167;exact cg (AQ _ _))|(go_at_call 165;exact cg (HK.out _ (af (ah et _) (Later.below _))))))
    refine qE ?_;(try clear hc hf hz);(try clear HB);intro p HB hc hf hz;go_wp2;go_roundw
    case rel=>exact⟨k+1,B,oM,gN,rfl,uV au lS HL.out,pK.elim (fun h=>il h) (fun⟨j,h,hj⟩=>ir ⟨j,h,oM⟩),af (ah et _) HB⟩
    case measure=>simp[intOf];omega
   ·rw[lS] at Di;have HK:=aB Di;clear Di
    rcases jQ with rfl|⟨j,rfl,hj⟩
    ·go_wp2_with fail;refine wQ ?_
     repeat(go_big_quiet_step (first|exact rfl|(go_at_call 167;exact cg (AQ _ _))|(go_at_call 165;exact cg (HK.out _ (af (ah et _) (Later.below _))))))
     refine qE ?_;(try clear hc hf hz);(try clear HB);intro p HB hc hf hz;go_wp2;go_roundw
     case rel=>exact⟨k+1,k,oM,gN,rfl,xo au lS HL.out,ir ⟨k,rfl,oM⟩,af (ah et _) HB⟩
     case measure=>simp[intOf];omega
    ·have pM:j<l.length:=oM;have uQ:decide ((j:Int)<0)=false:=aa9 oM;obtain⟨d0,d1,d2,d3⟩:=(hl.later et).cells pM
     by_cases hR:l[k].used<l[j].used
     ·go_wp2_with fail;refine wQ ?_
      repeat(go_big_quiet_step (first|exact rfl|(go_at_call 167;exact cg (AQ _ _))|(go_at_call 165;exact cg (HK.out _ (af (ah et _) (Later.below _))))))
      refine qE ?_;(try clear hc hf hz);(try clear HB);intro p HB hc hf hz;go_wp2;go_roundw
      case rel=>exact⟨k+1,k,oM,gN,rfl,Ce au pM lS HL.out hR,ir ⟨k,rfl,oM⟩,af (ah et _) HB⟩
      case measure=>simp[intOf];omega
     ·go_wp2_with fail;refine wQ ?_
      repeat(go_big_quiet_step (first|exact rfl|(go_at_call 167;exact cg (AQ _ _))|(go_at_call 165;exact cg (HK.out _ (af (ah et _) (Later.below _))))))
      refine qE ?_;(try clear hc hf hz);(try clear HB);intro p HB hc hf hz;go_wp2;go_roundw
      case rel=>exact⟨k+1,j,oM,gN,rfl,Cd au pM lS HL.out oM,ir ⟨j,rfl,oM⟩,af (ah et _) HB⟩
      case measure=>simp[intOf];omega
  ·go_wp2;go_ret;exact⟨jI (by rw[show l.length=k from oM];exact HL.out.symm),bQ⟩
end Go.Proofs.YtlhgjplipgandaaGreatDoor
