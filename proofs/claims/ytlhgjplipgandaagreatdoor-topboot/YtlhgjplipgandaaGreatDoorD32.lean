/- Joined texts: PScs. -/
import Derived.Test.YtlhgjplipgandaaGreatDoorD31
import Derived.Test.YtlhgjplipgandaaGreatDoorD11
set_option maxRecDepth 100000
set_option maxHeartbeats 8000000
set_option linter.unusedSimpArgs false
namespace Go.Proofs.YtlhgjplipgandaaGreatDoor
open Go.RowKit Go.BigFrame
attribute [local go_sem] ze.cell ze.frozen
def St.cell(x:St):Nat→Value
 |0=>.string x.word
 |1=>.int .i64 x.a
 |2=>.int .i64 x.b
 |_=>.string x.data
def zcu(w:World)(a:Option Addr)(l:List St):Prop :=
 (l=[]∨∃b o,a=some ⟨b,o,none⟩∧∀i (h:i<l.length) j,j<4→w.cell? ⟨b,o+i*4+j,none⟩=some (l[i].cell j))∧l.length≤9223372036854775807
theorem zcu.later{w w':World}{a:Option Addr}{l:List St}(h:zcu w a l)(hb:Below w.heap.size w w'):zcu w' a l:=by
 obtain⟨h1,h3⟩:=h;refine⟨?_,h3⟩
 rcases h1 with h|⟨b,o,ha,hc⟩
 ·exact Or.inl h
 ·exact Or.inr ⟨b,o,ha,fun i hi j hj=>cell_later' hb (hc i hi j hj)⟩
theorem zcu.form{w:World}{a:Option Addr}{l:List St}(h:zcu w a l):l=[]∨∃b o,a=some ⟨b,o,none⟩:=by
 rcases h.1 with h|⟨b,o,ha,_⟩
 ·exact Or.inl h
 ·exact Or.inr ⟨b,o,ha⟩
theorem zcu.cells{w:World}{b o:Nat}{l:List St}(h:zcu w (some ⟨b,o,none⟩) l){i:Nat}(hi:i<l.length) :
 w.cell? ⟨b,o+i*4,none⟩=some (.string l[i].word)∧w.cell? ⟨b,o+i*4+1,none⟩=some (.int .i64 l[i].a)∧w.cell? ⟨b,o+i*4+2,none⟩=some (.int .i64 l[i].b)∧w.cell? ⟨b,o+i*4+3,none⟩=some (.string l[i].data):=by
 rcases h.1 with rfl|⟨b',o',ha,hc⟩
 ·exact absurd hi (Nat.not_lt_zero _)
 ·simp only[Option.some.injEq,Addr.mk.injEq,and_true] at ha;obtain⟨rfl,rfl⟩:=ha;exact⟨hc i hi 0 (by omega),hc i hi 1 (by omega),hc i hi 2 (by omega),hc i hi 3 (by omega)⟩
def zdn(x:St):Bool:=decide (x.word.size≤20)&&decide (x.data.size≤20)
def zdN(l:List St)(n:Nat):Bool:=decide (l.length≤n)&&l.all zdn
theorem zjh(l:List St)(a:Option Addr)(c n:Nat)(w:World)(_h3:l.length≤9223372036854775807)(h1:n<l.length) :
 Calls Tryz.prog 8 #[.slice a l.length c,.int .i64 n] w fun e w'=>e=.returned (.bool false)∧Below w.heap.size w w':=by
 have h1':(n:Int)<(l.length:Int):=by omega
 go_enter Tryz.func8,Tryz.ntmps8;go_wp2;go_ret;exact⟨rfl,by(with_reducible repeat first|exact Below.refl _ _|refine zc ?_ _|refine zd ?_|refine bset' ?_ (by omega) _|refine zb ?_ (by assumption))⟩
theorem zis(l:List St)(a:Option Addr)(c n:Nat)(w:World)(hl:zcu w a l)(h1:l.length≤n)(hn:n≤1000) :
 Calls Tryz.prog 8 #[.slice a l.length c,.int .i64 n] w fun e w'=>e=.returned (.bool (l.all zdn))∧Below w.heap.size w w':=by
 have h1':¬(n:Int)<(l.length:Int):=by omega
 rcases hl.form with rfl|⟨b,o,rfl⟩
 ·go_enter Tryz.func8,Tryz.ntmps8;go_wp2
  go_loop [5] (fun i=>i=.int .i64 0) (fun _=>0)
  case atStart=>rfl
  case round =>
   subst hrel;go_wp2;go_ret;exact⟨rfl,by(with_reducible repeat first|exact Below.refl _ _|refine zc ?_ _|refine zd ?_|refine bset' ?_ (by omega) _|refine zb ?_ (by assumption))⟩
 have HL:Hid (zcu w (some ⟨b,o,none⟩) l):=hl;have hlen:=hl.2;clear hl;go_enter Tryz.func8,Tryz.ntmps8;go_wp2
 go_loopw[5] (fun i wr=>∃k:Nat,k≤l.length∧i=.int .i64 k∧((l.take k).all zdn)=true∧Below w.heap.size w wr) (fun i _=>l.length-(intOf i).toNat)
 case atStart=>exact⟨0,by omega,rfl,rfl,Below.refl _ _⟩
 case round =>
  obtain⟨k,hk,rfl,hno,HB⟩:=hrel;have HN:Hid (((l.take k).all zdn)=true):=hno;clear hno
  by_cases hlt:k<l.length
  ·obtain⟨c0,c1,c2,c3⟩:=(HL.out.later HB).cells hlt;have hlt':(k:Int)<(l.length:Int):=by omega
   have HE:Hid (zdn l[k]=(decide (l[k].word.size≤20)&&decide (l[k].data.size≤20))):=(show _=_ from rfl)
   generalize hwd:l[k].word=wd at *;generalize hdt:l[k].data=dt at *;clear hwd hdt
   by_cases g1:wd.size≤20
   ·have g1':¬(20:Int)<(wd.size:Int):=by omega
    by_cases g2:dt.size≤20
    ·have g2':¬(20:Int)<(dt.size:Int):=by omega
     have hb:Hid (zdn l[k]=true):=HE.out.trans (by rw[decide_eq_true g1,decide_eq_true g2];rfl);clear HE;go_wp2;go_roundw
     case rel=>exact⟨k+1,by omega,by go_num,znJ hlt HN.out hb.out,HB⟩
     case measure=>simp[intOf];omega
    ·have g2':(20:Int)<(dt.size:Int):=by omega
     have hb:Hid (zdn l[k]=false):=HE.out.trans (by rw[decide_eq_true g1,decide_eq_false g2];rfl);clear HE;go_wp2;go_ret;exact⟨zaH (ziQ hlt hb.out).symm,HB⟩
   ·have g1':(20:Int)<(wd.size:Int):=by omega
    have hb:Hid (zdn l[k]=false):=HE.out.trans (by rw[decide_eq_false g1];rfl);clear HE;go_wp2;go_ret;exact⟨zaH (ziQ hlt hb.out).symm,HB⟩
  ·go_wp2;go_ret;exact⟨zaH (zo4 (by omega) HN.out).symm,HB⟩
theorem zdc(l:List St)(a:Option Addr)(c n:Nat)(w:World)(hl:zcu w a l)(hn:n≤1000)(b:Bool)(hb:zdN l n=b) :
 Calls Tryz.prog 8 #[.slice a l.length c,.int .i64 n] w fun e w'=>e=.returned (.bool b)∧Below w.heap.size w w':=by
 subst hb;unfold zdN
 by_cases h:l.length≤n
 ·rw[decide_eq_true h,Bool.true_and];exact zis l a c n w hl h hn
 ·rw[decide_eq_false h,Bool.false_and];exact zjh l a c n w hl.2 (by omega)
end Go.Proofs.YtlhgjplipgandaaGreatDoor
