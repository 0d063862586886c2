/- Joined texts: Meets, NewAt. -/
import Derived.Lib.SliceRun
import Derived.Test.YtlhgjplipgandaaGreatDoorD7
import Derived.Test.YtlhgjplipgandaaGreatDoorD5
set_option maxRecDepth 100000
set_option maxHeartbeats 8000000
set_option linter.unusedSimpArgs false
namespace Go.Proofs.YtlhgjplipgandaaGreatDoor
open Go.RowKit Go.BigFrame
attribute [local go_sem] ze.cell ze.frozen
theorem zdT{p:Prop}(h:p):Hid p:=h
def zfs(p:Rq→Bool)(l:List Rq):Int:=match l.findIdx? p with|some k=>(k:Int)|none=>-1
theorem zlf{p:Rq→Bool}{l:List Rq}{k:Nat}(h:k<l.length)(hp:p l[k]=true)(hb:∀j (hj:j<k),p (l[j]'(by omega))=false):zfs p l=k:=by
 have:l.findIdx? p=some k:=by
  rw[List.findIdx?_eq_some_iff_getElem];exact⟨h,hp,fun j hj=>by rw[hb j hj];exact Bool.false_ne_true⟩
 rw[zfs,this]
theorem zmP{p:Rq→Bool}{l:List Rq}(h:∀j (hj:j<l.length),p l[j]=false):zfs p l=-1:=by
 have:l.findIdx? p=none:=by
  rw[List.findIdx?_eq_none_iff];intro x hx;obtain⟨j,hj,rfl⟩:=List.getElem_of_mem hx;exact h j hj
 rw[zfs,this]
theorem zoa(p:Rq→Bool)(l:List Rq):decide (0≤zfs p l)=l.any p:=by
 cases e:l.findIdx? p with
 |none =>
  rw[zfs,e];rw[List.findIdx?_eq_none_iff] at e;have:l.any p=false:=by rw[List.any_eq_false];intro x hx;rw[e x hx];exact Bool.false_ne_true
  rw[this];rfl
 |some k =>
  rw[zfs,e];rw[List.findIdx?_eq_some_iff_getElem] at e;obtain⟨h1,h2,_⟩:=e;have:l.any p=true:=by rw[List.any_eq_true];exact⟨l[k],List.getElem_mem h1,h2⟩
  rw[this];simp
theorem zlk(g:Nat)(eg:∀args w,(callFunc g args).run Tryz.prog w=.ok (.enter g args) w)(cp:Value)(p:Rq→Bool)(l:List Rq)(a:Option Addr)(c:Nat)(w:World)(hl:zm w a l)
 (hp:∀(x:Rq) w',x∈l→Below w.heap.size w w'→Calls Tryz.prog g #[x.val,cp] w' fun e w''=>e=.returned (.bool (p x))∧Below w'.heap.size w' w'') :
 Calls Tryz.prog 169 #[.slice a l.length c,.func (.func g) #[] #[cp]] w fun e w'=>e=.returned (.int .i64 (zfs p l))∧Below w.heap.size w w':=by
 have hb3:=hl.2.2
 rcases hl.form with rfl|⟨b,o,rfl⟩
 ·clear hp;go_enter Tryz.func169,Tryz.ntmps169;go_wp2
  go_loop [8] (fun i=>i=.int .i64 0) (fun _=>0)
  case atStart=>rfl
  case round =>
   subst hrel;go_wp2;go_ret;exact⟨rfl,by(with_reducible repeat first|exact Below.refl _ _|refine zc ?_ _|refine zd ?_|refine bset' ?_ (by omega) _|refine zb ?_ (by assumption))⟩
 have HP:=zdT hp;clear hp;go_enter Tryz.func169,Tryz.ntmps169;go_wp2
 go_loopw[8] (fun i wr=>∃k:Nat,k≤l.length∧i=.int .i64 k∧(∀j (hj:j<l.length),j<k→p l[j]=false)∧Below w.heap.size w wr) (fun i _=>l.length-(intOf i).toNat)
 case atStart=>exact⟨0,by omega,rfl,fun j hj h=>absurd h (Nat.not_lt_zero _),Below.refl _ _⟩
 case round =>
  obtain⟨k,hk,rfl,hno,HB⟩:=hrel;have HN:=zdT hno;clear hno
  by_cases hlt:k<l.length
  ·obtain⟨c0,c1,c2,c3,c4,c5⟩:=(hl.later HB).cells hlt;have hq:=HP.out l[k] wr (List.getElem_mem hlt) HB
   cases hpk:p l[k]
   ·rw[hpk] at hq;have HQ:=zdT hq;clear hq;go_wp2_with fail;refine Calls.mono HQ.out ?_;rintro e w1 ⟨rfl,hb⟩;go_wp2;go_roundw
    case rel=>exact⟨k+1,by omega,by go_num,fun j hj h=>by by_cases e:j=k;(subst e;exact hpk);exact HN.out j hj (by omega),zb HB hb⟩
    case measure=>simp[intOf];omega
   ·rw[hpk] at hq;have HQ:=zdT hq;clear hq;go_wp2_with fail;refine Calls.mono HQ.out ?_;rintro e w1 ⟨rfl,hb⟩;go_wp2;go_ret;exact⟨zbT (zlf hlt hpk (fun j hj=>HN.out j (by omega) hj)).symm,zb HB hb⟩
  ·go_wp2;go_ret;exact⟨zbT (zmP (fun j hj=>HN.out j hj (by omega))).symm,HB⟩
theorem zdr(g:Nat)(eg:∀args w,(callFunc g args).run Tryz.prog w=.ok (.enter g args) w)(cp:Value)(p:Rq→Bool)(l:List Rq)(a:Option Addr)(c:Nat)(w:World)(hl:zm w a l)
 (hp:∀(x:Rq) w',x∈l→Below w.heap.size w w'→Calls Tryz.prog g #[x.val,cp] w' fun e w''=>e=.returned (.bool (p x))∧Below w'.heap.size w' w'') (t:Bool) (ht:l.any p=t) :
 Calls Tryz.prog 124 #[.slice a l.length c,.func (.func g) #[] #[cp]] w fun e w'=>e=.returned (.bool t)∧Below w.heap.size w w':=by
 have HT:=zdT ((zoa p l).trans ht);clear ht;have HP:=zdT hp;clear hp;go_enter Tryz.func124,Tryz.ntmps124;go_wp2_with fail;refine(zlk g eg cp p l a c _ hl HP.out).mono ?_;rintro e w1 ⟨rfl,HB⟩;go_wp2;go_ret;exact⟨zaH HT.out,by(with_reducible repeat first|exact Below.refl _ _|refine zc ?_ _|refine zd ?_|refine bset' ?_ (by omega) _|refine zb ?_ (by assumption))⟩
theorem zh6(x r:Rq)(pb:Nat)(w:World)(h1:w.cell? ⟨pb,1,none⟩=some (.int .i64 r.f))(h2:w.cell? ⟨pb,2,none⟩=some (.int .i64 r.m)) :
 Calls Tryz.prog 173 #[x.val,.pointer (some ⟨pb,0,none⟩)] w fun e w'=>e=.returned (.bool (ze5 x.f x.m r.f r.m))∧Below w.heap.size w w':=by
 have h1':=zU h1;have h2':=zU h2;go_enter Tryz.func173,Tryz.ntmps173;go_wp2_with fail
 go_at_call 174;refine(zpr _ _ _ _ _ _ rfl).mono ?_;rintro e w1 ⟨rfl,hb⟩;(try clear hc hf hz);(first|replace HB:=zb HB hb|replace HB:=zb (zd HB) hb|have HB:=hb);clear hb;obtain⟨hc,hf,hz⟩:=zW HB
 go_wp2;go_ret;exact⟨rfl,by(with_reducible repeat first|exact Below.refl _ _|refine zc ?_ _|refine zd ?_|refine bset' ?_ (by omega) _|refine zb ?_ (by assumption))⟩
structure zbL(base:Nat)(w:World)(a:Option Addr)(c:Nat)(l:List Rq):Prop where
 here:zm w a l
 cap:l.length≤c
 capM:c≤9223372036854775807
 nil:a=none→c=0
 own:w.ownsRow base 146 6 (.slice a l.length c) l.length (zr l)
theorem zcM{w:World}{base:Nat}{v:Value}{l:List Rq}{n:Nat}(h:w.ownsRow base 146 6 v n (zr l))(hat:∀r∈l,r.At w)(hn:n=l.length)(hb:l.length≤9223372036854775807) :
 ∃a c,v=.slice a l.length c∧zbL base w a c l:=by
 have h':=h;obtain⟨a,c,rfl,h1,h2,h3,h4,_⟩:=zdt h hat hn hb;subst hn;exact⟨a,c,rfl,⟨h1,h2,h3,h4,h'⟩⟩
theorem zbL.place{base:Nat}{w:World}{a:Option Addr}{c:Nat}{l:List Rq}(h:zbL base w a c l)(hl:l ≠ []):∃b,a=some ⟨b,0,none⟩∧base≤b∧b<w.heap.size∧∀o,w.frozen? ⟨b,o,none⟩=false:=by
 rcases h.own.2 with⟨h1,h2⟩|⟨g,cap,cur,h1,hg,hh,hnc,hcm,hcs,ht⟩
 ·exact absurd (List.eq_nil_of_length_eq_zero h2) hl
 ·simp only[Value.slice.injEq] at h1;refine⟨g,h1.1,hg,?_,fun o=>by simp[World.frozen?,hh]⟩
  rcases Nat.lt_or_ge g w.heap.size with h'|h'
  ·exact h'
  ·rw[Array.getElem?_eq_none h'] at hh;cases hh
theorem zm.rowAll'{w:World}{a:Option Addr}{c:Nat}{l:List Rq}(h:zm w a l)(hn:a=none→c=0):zaS w 6 a l.length c (zr l):=by
 rcases h.1 with rfl|⟨b,o,rfl,hc⟩
 ·cases a with
  |none=>exact⟨rfl,by simp[zr],Or.inl ⟨rfl,rfl,hn rfl⟩⟩
  |some ad=>exact⟨rfl,by simp[zr],Or.inr ⟨ad,rfl,fun j u h=>by simp[zr] at h⟩⟩
 ·have:=h.row (c:=c) [] l [] (by simp)
  simpa using this
theorem zgJ(l:List Rq)(a:Option Addr)(c:Nat)(w:World)(hl:zm w a l)(hn:a=none→c=0)(h10:l.length≤100000) :
 Calls Tryz.prog 93 #[.slice a l.length c] w fun e w'=>∃a' c',e=.returned (.slice a' l.length c')∧zbL w.heap.size w' a' c' l∧Below w.heap.size w w':=by
 obtain⟨i,hi,hz0,hz1,hz2⟩:=zbA zfP;have R:=hl.rowAll' hn;have q22:∀(w:World) (a:Option Addr) (n c n' c':Nat),(binOp .eql 47 (.slice a n c) (.slice none n' c')).run Tryz.prog w=.ok (.bool a.isNone) w:=fun w a n c n' c'=>Lib.run_eql_slice_nil w _ _ a n c n' c' Tryz.underlying47
 cases a with
 |none =>
  obtain rfl:=hn rfl;have hl0:l=[]:=by
   rcases hl.form with h|⟨b,o,h⟩
   ·exact h
   ·cases h
  subst hl0;go_enter Tryz.func93,Tryz.ntmps93;go_wp2;go_ret;exact⟨none,0,rfl,⟨⟨Or.inl rfl,by simp,by simp⟩,by simp,by simp,fun _=>rfl,World.ownsRow_nil _ _ _ _⟩,by(with_reducible repeat first|exact Below.refl _ _|refine zc ?_ _|refine zd ?_|refine bset' ?_ (by omega) _|refine zb ?_ (by assumption))⟩
 |some ad =>
  go_enter Tryz.func93,Tryz.ntmps93;go_wp2_with(at_builtin;refine zR rfl _ _ 47 rfl w.heap.size 146 i _ 6 80 Tryz.underlying47 hi hz0 hz1 hz2 rfl (by decide) _ 0 [] rfl (World.ownsRow_made _ _ _ (Nat.le_refl _) (by unfold maxLen;omega) (by simp)) (some ad) l.length c (zr l) rfl (R.later (by(with_reducible repeat first|exact Below.refl _ _|refine zc ?_ _|refine zd ?_|refine bset' ?_ (by omega) _|refine zb ?_ (by assumption)))) (by unfold maxLen;omega) (by omega) (by simp) ?_;intro v1 w2 hown1 hb1);rw[Nat.zero_add,List.nil_append] at hown1;have HB:Below w.heap.size w w2:=(zc (Below.refl _ _) _).trans hb1;obtain⟨a',c',rfl,hN⟩:=zcM hown1 (fun r hr=>(hl.2.1 r hr).later HB) rfl (by omega);go_wp2;go_ret;exact⟨a',c',rfl,hN,HB⟩
end Go.Proofs.YtlhgjplipgandaaGreatDoor
namespace Go.Proofs.YtlhgjplipgandaaGreatDoor
open Go.RowKit Go.BigFrame
def zgH(base:Nat)(a:Option Addr)(c n:Nat):Prop:=(a=none→c=0)∧n≤c∧∀p,a=some p→base≤p.block
theorem zgH.mono{b b':Nat}{a:Option Addr}{c n:Nat}(h:zgH b a c n)(hb:b'≤b):zgH b' a c n:=⟨h.1,h.2.1,fun p hp=>Nat.le_trans hb (h.2.2 p hp)⟩
theorem zh8{w:World}{base e size n c:Nat}{a:Option Addr}{xs:List Value}(h:w.ownsRow base e size (.slice a n c) n xs):∀p,a=some p→base≤p.block:=by
 rintro p rfl
 rcases h.2 with⟨h1,_⟩|⟨g,cap,cur,h1,hg,_⟩
 ·cases h1
 ·simp only[Value.slice.injEq,Option.some.injEq] at h1;rw[h1.1];exact hg
theorem zal.newAt{base:Nat}{w:World}{a:Option Addr}{c:Nat}{l:List Bf}(h:zal base w a c l):zgH base a c l.length:=⟨h.nil,h.cap,zh8 h.own⟩
theorem zbL.newAt{base:Nat}{w:World}{a:Option Addr}{c:Nat}{l:List Rq}(h:zbL base w a c l):zgH base a c l.length:=⟨h.nil,h.cap,zh8 h.own⟩
end Go.Proofs.YtlhgjplipgandaaGreatDoor
