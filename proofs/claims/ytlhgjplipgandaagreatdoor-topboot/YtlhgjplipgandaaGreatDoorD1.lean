/- Joined texts: Later, HidT, ErrOf. -/
import Derived.Test.YtlhgjplipgandaaGreatDoorProg
import Derived.WalkKit
import Derived.WalkSpells
import Derived.WalkLawsBesides
import Derived.Deep.QuietTactic
import Derived.BigQuiet
set_option maxRecDepth 100000
set_option maxHeartbeats 8000000
set_option linter.unusedSimpArgs false
namespace Go.Proofs.YtlhgjplipgandaaGreatDoor
open Go.RowKit
def zai(n:Int):Prop:=-9223372036854775808≤n∧n≤9223372036854775807
structure ze(w:World) where
 v:World
 below:Below w.heap.size w v
theorem ze.cell{w:World}(p:ze w)(b o:Nat)(h:b<w.heap.size):p.v.cell? ⟨b,o,none⟩=w.cell? ⟨b,o,none⟩:=p.below.cell (p:=⟨b,o,none⟩) h
theorem ze.frozen{w:World}(p:ze w)(b o:Nat)(h:b<w.heap.size):p.v.frozen? ⟨b,o,none⟩=w.frozen? ⟨b,o,none⟩:=p.below.frozen (p:=⟨b,o,none⟩) h
theorem zF{P:Program}{id:Nat}{Q:Exit→Act→World→Prop}{a:Act}{W w:World}{l:List Oper}(HB:Below W.heap.size W w)(hm:P.follows .mixedOrders=true)(hB:Region.lexB .any l.toArray=true)
 (h:wpQuiet P l.toArray (fun w'=>∃p:ze W,w'=p.v) (fun a'=>∀w',(∃p:ze W,w'=p.v)→Q .normal a' w') l a):(Code.region id l.toArray true).wp P Q a w :=
 wp_region_quiet (C:=fun w'=>∃p:ze W,w'=p.v) hm hB ⟨⟨_,HB.drew⟩,rfl⟩ (by simpa using h)
theorem zy{P:Program}{f:FuncId}{args:Array Value}{w:World}{p:ze w}{v:Value}
 (h:Calls P f args p.v fun e w'=>e=.returned v∧Below p.v.heap.size p.v w'):Calls P f args p.v fun e w''=>e=.returned v∧∃q:ze w,w''=q.v :=
 h.mono fun _ w'' ⟨he,hb⟩=>⟨he,⟨w'',p.below.trans (hb.mono p.below.size)⟩,rfl⟩
theorem zW{W w1:World}(hb:Below W.heap.size W w1):(∀b o,b<W.heap.size→w1.cell? ⟨b,o,none⟩=W.cell? ⟨b,o,none⟩)∧(∀b o,b<W.heap.size→w1.frozen? ⟨b,o,none⟩=W.frozen? ⟨b,o,none⟩)∧W.heap.size≤w1.heap.size :=
 ⟨fun b o h=>hb.cell (p:=⟨b,o,none⟩) h,fun b o h=>hb.frozen (p:=⟨b,o,none⟩) h,hb.size⟩
theorem zs(w:World)(o:Obj):Below w.heap.size w (w.alloc o):=(Below.refl _ _).alloc (Nat.le_refl _) o
theorem zbN(w:World)(o o':Obj):Below w.heap.size w ((w.alloc o).alloc o'):=(zs w o).alloc (by simp) o'
theorem zb{W w1 w2:World}(h:Below W.heap.size W w1)(h2:Below w1.heap.size w1 w2):Below W.heap.size W w2:=h.trans (h2.mono h.size)
theorem zc{W w1:World}(h:Below W.heap.size W w1)(o:Obj):Below W.heap.size W (w1.alloc o):=h.alloc h.size o
theorem zd{W w1:World}(h:Below W.heap.size W w1):Below W.heap.size W w1.drew:=h.drew
theorem bset'{W w1:World}(h:Below W.heap.size W w1){b o:Nat}(hp:W.heap.size≤b)(u:Value):Below W.heap.size W (w1.setCell ⟨b,o,none⟩ u):=h.setCell hp u
theorem zaH{a b:Bool}(h:a=b):Ending.returned (.bool a)=.returned (.bool b):=by rw[h]
theorem zbT{k:IntKind}{a b:Int}(h:a=b):Ending.returned (.int k a)=.returned (.int k b):=by rw[h]
theorem zpC{a b:Value}(h:a=b):Ending.returned a=.returned b:=by rw[h]
theorem dP{α:Type}:(∀(l:List α) (i:Nat) (h:i<l.toArray.size),l.toArray[i]'h=l[i]'(by simpa using h))∧(∀(a:α) (l:List α) (i:Nat) (h:i+1<(a::l).length),(a::l)[i+1]'h=l[i]'(by simpa using h))∧(∀(a:α) (l:List α) (h:0<(a::l).length),(a::l)[0]'h=a)∧(∀(l:List α) (i:Nat) (a:α),l.toArray.setIfInBounds i a=(l.set i a).toArray)∧(∀(x:α) (l:List α) (a:α),(x::l).set 0 a=a::l)∧(∀(x:α) (l:List α) (n:Nat) (a:α),(x::l).set (n+1) a=x::l.set n a) :=
 ⟨fun _ _ _=>List.getElem_toArray _,fun _ _ _ _=>rfl,fun _ _ _=>rfl,fun _ _ _=>List.setIfInBounds_toArray _ _ _,fun _ _ _=>rfl,fun _ _ _ _=>rfl⟩
theorem za{p:Prop}(h:p):Hid p:=h
def zI(n:Int):Value:=if n=0 then .nilIface else .iface 87 (.int .i64 n)
def zP(w:World)(a:Option Addr)(xs:List ByteArray):Prop :=
 xs=[]∨∃b o,a=some ⟨b,o,none⟩∧∀i,i<xs.length→w.cell? ⟨b,o+i,none⟩=some (.string (xs.getD i ByteArray.empty))
def zax(w:World)(a:Option Addr)(xs:List Int):Prop :=
 xs=[]∨∃b o,a=some ⟨b,o,none⟩∧∀i,i<xs.length→w.cell? ⟨b,o+i,none⟩=some (.int .i64 (xs.getD i 0))
theorem zg{w:World}{b o:Nat}{v:Value}(h:w.cell? ⟨b,o,none⟩=some v):b<w.heap.size:=by
 rcases Nat.lt_or_ge b w.heap.size with h'|h'
 ·exact h'
 ·simp[World.cell?,Array.getElem?_eq_none h'] at h
theorem cell_later'{w w':World}{b o:Nat}{v:Value}(hb:Below w.heap.size w w')(h:w.cell? ⟨b,o,none⟩=some v):w'.cell? ⟨b,o,none⟩=some v:=by
 rw[hb.cell (p:=⟨b,o,none⟩) (zg h)];exact h
theorem zU{w:World}{b o:Nat}{v:Value}(h:w.cell? ⟨b,o,none⟩=some v)(x:Obj):(w.alloc x).cell? ⟨b,o,none⟩=some v:=by
 rw[World.cell?_alloc_lt w x _ (zg h)];exact h
theorem zP.later{w w':World}{a:Option Addr}{xs:List ByteArray}(h:zP w a xs)(hb:Below w.heap.size w w'):zP w' a xs:=by
 rcases h with h|⟨b,o,ha,hc⟩
 ·exact Or.inl h
 ·exact Or.inr ⟨b,o,ha,fun i hi=>cell_later' hb (hc i hi)⟩
theorem zax.later{w w':World}{a:Option Addr}{xs:List Int}(h:zax w a xs)(hb:Below w.heap.size w w'):zax w' a xs:=by
 rcases h with h|⟨b,o,ha,hc⟩
 ·exact Or.inl h
 ·exact Or.inr ⟨b,o,ha,fun i hi=>cell_later' hb (hc i hi)⟩
structure Rq where
 wr:Bool
 f:Int
 m:Int
 da:Option Addr
 dc:Nat
 data:List ByteArray
 ta:Option Addr
 tc:Nat
 tags:List Int
 born:Int
def Rq.cell(r:Rq):Nat→Value
 |0=>.bool r.wr
 |1=>.int .i64 r.f
 |2=>.int .i64 r.m
 |3=>.slice r.da r.data.length r.dc
 |4=>.slice r.ta r.tags.length r.tc
 |_=>.int .i64 r.born
abbrev Rq.val(r:Rq):Value:=.agg #[.bool r.wr,.int .i64 r.f,.int .i64 r.m,.slice r.da r.data.length r.dc,.slice r.ta r.tags.length r.tc,.int .i64 r.born]
structure Rq.At(r:Rq)(w:World):Prop where
 data:zP w r.da r.data
 tags:zax w r.ta r.tags
 dl:r.data.length≤9223372036854775807
 tl:r.tags.length≤9223372036854775807
 f:zai r.f
 m:zai r.m
 born:zai r.born
 dn:r.da=none→r.dc=0
 tn:r.ta=none→r.tc=0
theorem Rq.At.later{r:Rq}{w w':World}(h:r.At w)(hb:Below w.heap.size w w'):r.At w' :=
 ⟨h.data.later hb,h.tags.later hb,h.dl,h.tl,h.f,h.m,h.born,h.dn,h.tn⟩
def zm(w:World)(a:Option Addr)(l:List Rq):Prop :=
 (l=[]∨∃b o,a=some ⟨b,o,none⟩∧∀i (h:i<l.length) j,j<6→w.cell? ⟨b,o+i*6+j,none⟩=some (l[i].cell j))∧(∀r∈l,r.At w)∧l.length≤9223372036854775807
theorem zm.later{w w':World}{a:Option Addr}{l:List Rq}(h:zm w a l)(hb:Below w.heap.size w w'):zm w' a l:=by
 obtain⟨h1,h2,h3⟩:=h;refine⟨?_,fun r hr=>(h2 r hr).later hb,h3⟩
 rcases h1 with h|⟨b,o,ha,hc⟩
 ·exact Or.inl h
 ·exact Or.inr ⟨b,o,ha,fun i hi j hj=>cell_later' hb (hc i hi j hj)⟩
theorem znJ{α:Type}{p:α→Bool}{l:List α}{k:Nat}(h:k<l.length)(h1:(l.take k).all p=true)(h2:p l[k]=true):(l.take (k+1)).all p=true:=by
 rw[List.take_succ_eq_append_getElem h,List.all_append,h1];simp[h2]
theorem ziQ{α:Type}{p:α→Bool}{l:List α}{k:Nat}(h:k<l.length)(hp:p l[k]=false):l.all p=false:=by
 rw[List.all_eq_false];exact⟨l[k],by simp,by rw[hp];exact Bool.false_ne_true⟩
theorem zo4{α:Type}{p:α→Bool}{l:List α}{k:Nat}(h:l.length≤k)(h1:(l.take k).all p=true):l.all p=true:=by
 rwa [List.take_of_length_le h] at h1
theorem zm.cells{w:World}{b o:Nat}{l:List Rq}(h:zm w (some ⟨b,o,none⟩) l){i:Nat}(hi:i<l.length) :
 w.cell? ⟨b,o+i*6,none⟩=some (.bool l[i].wr)∧w.cell? ⟨b,o+i*6+1,none⟩=some (.int .i64 l[i].f)∧w.cell? ⟨b,o+i*6+2,none⟩=some (.int .i64 l[i].m) ∧
  w.cell? ⟨b,o+i*6+3,none⟩=some (.slice l[i].da l[i].data.length l[i].dc)∧w.cell? ⟨b,o+i*6+4,none⟩=some (.slice l[i].ta l[i].tags.length l[i].tc)∧w.cell? ⟨b,o+i*6+5,none⟩=some (.int .i64 l[i].born):=by
 rcases h.1 with rfl|⟨b',o',ha,hc⟩
 ·exact absurd hi (Nat.not_lt_zero _)
 ·simp only[Option.some.injEq,Addr.mk.injEq,and_true] at ha;obtain⟨rfl,rfl⟩:=ha;exact⟨hc i hi 0 (by omega),hc i hi 1 (by omega),hc i hi 2 (by omega),hc i hi 3 (by omega),hc i hi 4 (by omega),hc i hi 5 (by omega)⟩
theorem zm.form{w:World}{a:Option Addr}{l:List Rq}(h:zm w a l):l=[]∨∃b o,a=some ⟨b,o,none⟩:=by
 rcases h.1 with h|⟨b,o,ha,_⟩
 ·exact Or.inl h
 ·exact Or.inr ⟨b,o,ha⟩
def zau(f m a:Int):Bool:=decide (f≤a)&&decide (0≤wrap64 (a-f))&&decide (wrap64 (a-f)<m)
def zbh(f m a:Int):Bool:=decide (f≤a∧a<f+m)
def zfx(f g:Int):Int:=if f<g then g else f
def ze5(f m g n:Int):Bool:=zau f m (zfx f g)&&zau g n (zfx f g)
def okB(f m n:Int):Bool:=decide (0≤f∧f<32∧1≤m∧m≤n∧m≤32-f)
def errB(b:Bool):Value:=if b then .nilIface else .iface 87 (.int .i64 1)
def faultB(b:Bool):Int:=if b then 0 else 1
theorem zey(f m n a:Int)(h:okB f m n=true)(ha:a≤9223372036854775807):zau f m a=zbh f m a:=by
 simp only[okB,decide_eq_true_eq] at h;rw[Bool.eq_iff_iff];simp only[zau,zbh,Bool.and_eq_true,decide_eq_true_eq]
 by_cases h1:f≤a
 ·have:wrap64 (a-f)=a-f:=by unfold wrap64;omega
  rw[this];omega
 ·omega
theorem zok(f m g n:Int)(h:okB f m 32=true)(k:okB g n 32=true):ze5 f m g n=decide (f<g+n∧g<f+m):=by
 have h':=h;have k':=k;simp only[okB,decide_eq_true_eq] at h' k';have hk:zfx f g≤9223372036854775807:=by unfold zfx;split<;>omega
 unfold ze5;rw[zey f m 32 _ h hk,zey g n 32 _ k hk,Bool.eq_iff_iff];simp only[zbh,Bool.and_eq_true,decide_eq_true_eq];unfold zfx;split<;>omega
theorem zn8{f m a:Int}(h1:f≤a)(h2:0≤wrap64 (a-f)):decide (wrap64 (a-f)<m)=zau f m a:=by simp[zau,h1,h2]
theorem zn6{f m a:Int}(h2:wrap64 (a-f)<0):false=zau f m a:=by
 have:¬0≤wrap64 (a-f):=by omega
 simp[zau,this]
theorem zn7{f m a:Int}(h2:a<f):false=zau f m a:=by
 have:¬f≤a:=by omega
 simp[zau,this]
theorem zhz(f m a:Int)(w:World) :
 Calls Tryz.prog 126 #[.agg #[.int .i64 f,.int .i64 m],.int .i64 a] w fun e w'=>e=.returned (.bool (zau f m a))∧Below w.heap.size w w':=by
 go_enter Tryz.func126,Tryz.ntmps126;go_wp2
 all_goals
  go_ret;exact⟨zaH (by first|exact zn8 ‹_› ‹_›|exact zn6 ‹_›|exact zn7 ‹_›),zs _ _⟩
theorem zop(f m g n:Int)(w:World) :
 Calls Tryz.prog 204 #[.agg #[.int .i64 f,.int .i64 m],.agg #[.int .i64 g,.int .i64 n]] w fun e w'=>e=.returned (.bool (wrap64 (f+m)==g))∧Below w.heap.size w w':=by
 go_enter Tryz.func204,Tryz.ntmps204;go_wp2;go_ret;exact⟨rfl,zbN _ _ _⟩
theorem zmW(f m g n:Int)(w:World)(b1 b2:Bool)(k:Int)(hk:zfx f g=k)(h1:zau f m k=b1)(h2:zau g n k=b2) :
 Calls Tryz.prog 174 #[.agg #[.int .i64 f,.int .i64 m],.agg #[.int .i64 g,.int .i64 n]] w fun e w'=>e=.returned (.bool (b1&&b2))∧Below w.heap.size w w':=by
 by_cases hfg:f<g
 ·obtain rfl:g=k:=by simpa [zfx,hfg] using hk
  clear hk
  cases b1
  all_goals
   go_enter Tryz.func174,Tryz.ntmps174;go_wp2_with(go_at_call 126;refine(zhz _ _ _ _).mono ?_;rintro e w1 ⟨rfl,hb⟩;(try clear hc hf hz);(first|replace HB:=zb HB hb|replace HB:=zb (zd HB) hb|have HB:=hb);clear hb;obtain⟨hc,hf,hz⟩:=zW HB);go_ret;exact⟨rfl,by(with_reducible repeat first|exact Below.refl _ _|refine zc ?_ _|refine zd ?_|refine bset' ?_ (by omega) _|refine zb ?_ (by assumption))⟩
 ·obtain rfl:f=k:=by simpa [zfx,hfg] using hk
  clear hk
  cases b1
  all_goals
   go_enter Tryz.func174,Tryz.ntmps174;go_wp2_with(go_at_call 126;refine(zhz _ _ _ _).mono ?_;rintro e w1 ⟨rfl,hb⟩;(try clear hc hf hz);(first|replace HB:=zb HB hb|replace HB:=zb (zd HB) hb|have HB:=hb);clear hb;obtain⟨hc,hf,hz⟩:=zW HB);go_ret;exact⟨rfl,by(with_reducible repeat first|exact Below.refl _ _|refine zc ?_ _|refine zd ?_|refine bset' ?_ (by omega) _|refine zb ?_ (by assumption))⟩
theorem zol(f m g n:Int)(w:World) :
 Calls Tryz.prog 174 #[.agg #[.int .i64 f,.int .i64 m],.agg #[.int .i64 g,.int .i64 n]] w fun e w'=>e=.returned (.bool (ze5 f m g n))∧Below w.heap.size w w' :=
 zmW f m g n w _ _ _ rfl rfl rfl
theorem ok_no{f m n:Int}(h:f<0∨31<f∨m<1∨n<m∨32-f<m):okB f m n=false:=by
 simp only[okB,decide_eq_false_iff_not];omega
theorem ok_yes{f m n:Int}(h1:0≤f)(h2:f<32)(h3:1≤m)(h4:m≤n)(h5:m≤32-f):okB f m n=true:=by
 simp only[okB,decide_eq_true_eq];omega
theorem zhU(f m n:Int)(w:World) :
 Calls Tryz.prog 200 #[.agg #[.int .i64 f,.int .i64 m],.int .i64 n] w fun e w'=>e=.returned (errB (okB f m n))∧Below w.heap.size w w':=by
 go_enter Tryz.func200,Tryz.ntmps200;go_wp2
 all_goals
  go_ret;refine⟨zpC ?_,zs _ _⟩
  first|(rw[ok_no (by omega)];rfl)|(rw[ok_yes (by omega) (by omega) (by omega) (by omega) (by omega)];rfl)
theorem zdk(f m n:Int)(w:World)(h:okB f m n=true) :
 Calls Tryz.prog 200 #[.agg #[.int .i64 f,.int .i64 m],.int .i64 n] w fun e w'=>e=.returned .nilIface∧Below w.heap.size w w':=by
 have:=zhU f m n w;rw[h] at this;exact this
theorem znR(f m n:Int)(w:World)(h:okB f m n=false) :
 Calls Tryz.prog 200 #[.agg #[.int .i64 f,.int .i64 m],.int .i64 n] w fun e w'=>e=.returned (.iface 87 (.int .i64 1))∧Below w.heap.size w w':=by
 have:=zhU f m n w;rw[h] at this;exact this
theorem zpr(f m g n:Int)(w:World)(b:Bool)(h:ze5 f m g n=b) :
 Calls Tryz.prog 174 #[.agg #[.int .i64 f,.int .i64 m],.agg #[.int .i64 g,.int .i64 n]] w fun e w'=>e=.returned (.bool b)∧Below w.heap.size w w':=by
 subst h;exact zol f m g n w
theorem zch(f m g n:Int)(w:World)(b:Bool)(h:(wrap64 (f+m)==g)=b) :
 Calls Tryz.prog 204 #[.agg #[.int .i64 f,.int .i64 m],.agg #[.int .i64 g,.int .i64 n]] w fun e w'=>e=.returned (.bool b)∧Below w.heap.size w w':=by
 subst h;exact zop f m g n w
theorem zc2(f m a:Int)(w:World)(b:Bool)(h:zau f m a=b) :
 Calls Tryz.prog 126 #[.agg #[.int .i64 f,.int .i64 m],.int .i64 a] w fun e w'=>e=.returned (.bool b)∧Below w.heap.size w w':=by
 subst h;exact zhz f m a w

end Go.Proofs.YtlhgjplipgandaaGreatDoor
namespace Go.Proofs.YtlhgjplipgandaaGreatDoor
open Go.RowKit Go.BigFrame
attribute [local go_sem] ze.cell ze.frozen
def zoM(r:Rq):Prop:=(r.wr=true∧(r.data.length:Int) ≠ r.m)∨(r.wr=false∧0<r.data.length)
def zpL(r:Rq):Prop:=r.tags.length<1∨4<r.tags.length
def zpb(r:Rq):Prop:=r.born<0∨1000000000<r.born
def zcH(r:Rq):Bool:=r.data.all fun s=>decide (s.size≤4)
structure Fine(r:Rq):Prop where
 ok:okB r.f r.m 4=true
 shape:¬zoM r
 tags:¬zpL r
 born:¬zpb r
theorem zP.form{w:World}{a:Option Addr}{l:List ByteArray}(h:zP w a l):l=[]∨∃b o,a=some ⟨b,o,none⟩:=by
 rcases h with h|⟨b,o,ha,_⟩
 ·exact Or.inl h
 ·exact Or.inr ⟨b,o,ha⟩
theorem zax.form{w:World}{a:Option Addr}{l:List Int}(h:zax w a l):l=[]∨∃b o,a=some ⟨b,o,none⟩:=by
 rcases h with h|⟨b,o,ha,_⟩
 ·exact Or.inl h
 ·exact Or.inr ⟨b,o,ha⟩
theorem zP.at{w:World}{b o:Nat}{l:List ByteArray}(h:zP w (some ⟨b,o,none⟩) l){i:Nat}(hi:i<l.length):w.cell? ⟨b,o+i,none⟩=some (.string l[i]):=by
 rcases h with rfl|⟨b',o',ha,hc⟩
 ·exact absurd hi (Nat.not_lt_zero _)
 ·simp only[Option.some.injEq,Addr.mk.injEq,and_true] at ha;obtain⟨rfl,rfl⟩:=ha
  simpa [List.getD,hi] using hc i hi
theorem zax.at{w:World}{b o:Nat}{l:List Int}(h:zax w (some ⟨b,o,none⟩) l){i:Nat}(hi:i<l.length):w.cell? ⟨b,o+i,none⟩=some (.int .i64 l[i]):=by
 rcases h with rfl|⟨b',o',ha,hc⟩
 ·exact absurd hi (Nat.not_lt_zero _)
 ·simp only[Option.some.injEq,Addr.mk.injEq,and_true] at ha;obtain⟨rfl,rfl⟩:=ha
  simpa [List.getD,hi] using hc i hi
def eqS(xs ys:List ByteArray):Bool:=decide (xs=ys)
def eqN(xs ys:List Int):Bool:=decide (xs=ys)
def sameB(r s:Rq):Bool:=(r.wr==s.wr)&&((r.f==s.f)&&(r.m==s.m))&&(r.born==s.born)&&eqS r.data s.data&&eqN r.tags s.tags
theorem Rq.At.of{w w':World}{a:Option Addr}{l:List Rq}(h:zm w a l){i:Nat}(hi:i<l.length)(hb:Below w.heap.size w w'):l[i].At w':=(h.2.1 _ (List.getElem_mem hi)).later hb
def zcb(r:Rq):Bool:=if r.wr then decide ((r.data.length:Int)=r.m) else decide (r.data.length=0)
def zc0(r:Rq):Int :=
 if okB r.f r.m 4=false then 1 else if zcb r=false then 3 else if r.tags.length<1∨4<r.tags.length then 3 else if r.born<0∨1000000000<r.born then 1 else faultB (zcH r)
structure zv(r:Rq):Prop where
 ok:okB r.f r.m 4=true
 shape:zcb r=true
 t1:1≤r.tags.length
 t4:r.tags.length≤4
 b0:0≤r.born
 b1:r.born≤1000000000
 small:zcH r=true
theorem zi8(r:Rq):zc0 r=0↔zv r:=by
 unfold zc0
 constructor
 ·intro h
  split at h
  ·cases h
  split at h
  ·cases h
  split at h
  ·cases h
  split at h
  ·cases h
  rename_i h1 h2 h3 h4
  have h5:zcH r=true:=by
   cases e:zcH r
   ·rw[e] at h;cases h
   ·rfl
  exact⟨by simpa using h1,by simpa using h2,by omega,by omega,by omega,by omega,h5⟩
 ·intro ⟨h1,h2,h3,h4,h5,h6,h7⟩;rw[if_neg (by simp[h1]),if_neg (by simp[h2]),if_neg (by omega),if_neg (by omega),h7];rfl
theorem zm1{f m:Int}(h:okB f m 4=true):okB f m 32=true:=by
 simp only[okB,decide_eq_true_eq] at *;omega
structure ziG(l:List Rq):Prop where
 good:∀i (h:i<l.length),zv l[i]
 apart:∀i j (hi:i<l.length) (hj:j<i),ze5 l[i].f l[i].m (l[j]'(by omega)).f (l[j]'(by omega)).m=false
abbrev zaC(r:Rq)(xa:Option Addr)(n xc:Nat)(er:Int):Value:=.agg #[.bool r.wr,.int .i64 r.f,.int .i64 r.m,.slice r.da r.data.length r.dc,.slice r.ta r.tags.length r.tc,.int .i64 r.born,.slice xa n xc,.int .i64 er]
theorem zkM(r:Rq)(xa:Option Addr)(n xc:Nat)(er p:Int)(w:World)(h:zau r.f r.m p=false) :
 Calls Tryz.prog 135 #[zaC r xa n xc er,.int .i64 p] w fun e w'=>e=.returned (.tuple #[.string ⟨#[]⟩,.bool false])∧Below w.heap.size w w':=by
 obtain⟨wr,f,m,da,dc,data,ta,tc,tags,born⟩:=r;simp only at h;go_enter Tryz.func135,Tryz.ntmps135;go_wp2_with fail
 go_at_call 126;refine(zc2 _ _ _ _ _ h).mono ?_;rintro e w1 ⟨rfl,hb⟩;(try clear hc hf hz);(first|replace HB:=zb HB hb|replace HB:=zb (zd HB) hb|have HB:=hb);clear hb;obtain⟨hc,hf,hz⟩:=zW HB
 go_wp2
 go_ret2
 exact⟨rfl,by(with_reducible repeat first|exact Below.refl _ _|refine zc ?_ _|refine zd ?_|refine bset' ?_ (by omega) _|refine zb ?_ (by assumption))⟩
theorem zhE(r:Rq)(xs:List ByteArray)(xa:Option Addr)(xc:Nat)(er p:Int)(w:World)(hx:zP w xa xs)(h:zau r.f r.m p=true)(k:Nat)(hk:wrap64 (p-r.f)=k)(hn:k<xs.length)(s:ByteArray)(hs:xs.getD k ByteArray.empty=s) :
 Calls Tryz.prog 135 #[zaC r xa xs.length xc er,.int .i64 p] w fun e w'=>e=.returned (.tuple #[.string s,.bool true])∧Below w.heap.size w w':=by
 rcases hx with rfl|⟨b,o,rfl,hcx⟩
 ·exact absurd hn (Nat.not_lt_zero _)
 have c0:=hcx k hn;have hlb:=zg c0;rw[hs] at c0;clear hcx hs;obtain⟨wr,f,m,da,dc,data,ta,tc,tags,born⟩:=r;simp only at h hk;have hn1:¬(xs.length:Int)≤(k:Int):=by omega
 go_enter Tryz.func135,Tryz.ntmps135;go_wp2_with fail
 go_at_call 126;refine(zc2 _ _ _ _ _ h).mono ?_;rintro e w1 ⟨rfl,hb⟩;(try clear hc hf hz);(first|replace HB:=zb HB hb|replace HB:=zb (zd HB) hb|have HB:=hb);clear hb;obtain⟨hc,hf,hz⟩:=zW HB
 have c1:w1.cell? ⟨b,o+k,none⟩=some (.string s):=by rw[hc _ _ (by simp;omega),World.cell?_alloc_lt _ _ _ hlb];exact c0
 go_wp2
 go_ret2
 exact⟨rfl,by(with_reducible repeat first|exact Below.refl _ _|refine zc ?_ _|refine zd ?_|refine bset' ?_ (by omega) _|refine zb ?_ (by assumption))⟩
def zcL(s:ByteArray):Bool:=decide (4<s.size)
theorem zgk(s:ByteArray)(w:World)(b:Bool)(hb:zcL s=b) :
 Calls Tryz.prog 203 #[.string s] w fun e w'=>e=.returned (.bool b)∧Below w.heap.size w w':=by
 subst hb;go_enter Tryz.func203,Tryz.ntmps203;go_wp2;go_ret;exact⟨zaH (by simp only[zcL];rw[decide_eq_decide];omega),by(with_reducible repeat first|exact Below.refl _ _|refine zc ?_ _|refine zd ?_|refine bset' ?_ (by omega) _|refine zb ?_ (by assumption))⟩
theorem zk4(r:Rq)(w:World) :
 Calls Tryz.prog 201 #[r.val] w fun e w'=>e=.returned (.int .i64 (if r.wr=true then r.m else 0))∧Below w.heap.size w w':=by
 obtain⟨wr,f,m,da,dc,data,ta,tc,tags,born⟩:=r
 cases wr
 all_goals
  go_enter Tryz.func201,Tryz.ntmps201;go_wp2;go_ret;exact⟨rfl,by(with_reducible repeat first|exact Below.refl _ _|refine zc ?_ _|refine zd ?_|refine bset' ?_ (by omega) _|refine zb ?_ (by assumption))⟩
theorem zll(xs:List ByteArray)(a:Option Addr)(c:Nat)(w:World)(hx:zP w a xs)(hl:xs.length≤9223372036854775807) :
 Calls Tryz.prog 228 #[.slice a xs.length c,.func (.func 203) #[] #[]] w fun e w'=>∃n:Int,e=.returned (.int .i64 n)∧decide (0≤n)=xs.any zcL∧Below w.heap.size w w':=by
 rcases hx with rfl|⟨b,o,rfl,hc⟩
 ·go_enter Tryz.func228,Tryz.ntmps228;go_wp2
  go_loop [8] (fun i=>i=.int .i64 0) (fun _=>0)
  case atStart=>rfl
  case round =>
   subst hrel;go_wp2;go_ret;exact⟨-1,rfl,by first|rfl|decide,Below.refl _ _⟩
 go_enter Tryz.func228,Tryz.ntmps228;go_wp2
 go_loopw[8] (fun i wr=>∃k:Nat,k≤xs.length∧i=.int .i64 k∧(xs.take k).any zcL=false∧Below w.heap.size w wr) (fun i _=>xs.length-(intOf i).toNat)
 case atStart=>exact⟨0,by omega,rfl,by simp,Below.refl _ _⟩
 case round =>
  obtain⟨k,hk,rfl,hno,HB⟩:=hrel;have HN:Hid ((xs.take k).any zcL=false):=hno;clear hno
  by_cases hlt:k<xs.length
  ·have c0:=cell_later' HB (hc k hlt);have hgd:xs.getD k ByteArray.empty=xs[k]:=by simp[hlt]
   rw[hgd] at c0;clear hgd hc;have l0:=zg c0;have i0:decide ((k:Int)<0)=false:=decide_eq_false (by omega);have i1:decide ((xs.length:Int)≤(k:Int))=false:=decide_eq_false (by omega);have i1':decide (xs.length≤k)=false:=decide_eq_false (by omega)
   cases hlb:zcL xs[k]
   ·go_wp2_with fail;refine(zgk _ _ _ hlb).mono ?_;rintro e w1 ⟨rfl,hb⟩
    replace HB:=zb HB hb
    clear hb;go_wp2;go_roundw
    case rel=>exact⟨k+1,by omega,by go_num,by rw[List.take_add_one,List.getElem?_eq_getElem hlt,List.any_append,HN.out];simp[hlb],HB⟩
    case measure=>simp[intOf];omega
   ·go_wp2_with fail;refine(zgk _ _ _ hlb).mono ?_;rintro e w1 ⟨rfl,hb⟩
    replace HB:=zb HB hb
    clear hb;go_wp2;go_ret;exact⟨k,rfl,by rw[List.any_eq_true.2 ⟨xs[k],List.getElem_mem _,hlb⟩];exact decide_eq_true (by omega),by(with_reducible repeat first|exact Below.refl _ _|refine zc ?_ _|refine zd ?_|refine bset' ?_ (by omega) _|refine zb ?_ (by assumption))⟩
  ·have hkl:k=xs.length:=by omega
   have HN2:Hid (xs.any zcL=false):=by have:=HN.out;rw[hkl,List.take_length] at this;exact this
   subst hkl;go_wp2;go_ret;exact⟨-1,rfl,by rw[HN2.out];rfl,by(with_reducible repeat first|exact Below.refl _ _|refine zc ?_ _|refine zd ?_|refine bset' ?_ (by omega) _|refine zb ?_ (by assumption))⟩
theorem zff(xs:List ByteArray)(a:Option Addr)(c:Nat)(w:World)(hx:zP w a xs)(hl:xs.length≤9223372036854775807)(b:Bool)(hb:xs.any zcL=b) :
 Calls Tryz.prog 202 #[.slice a xs.length c,.func (.func 203) #[] #[]] w fun e w'=>e=.returned (.bool b)∧Below w.heap.size w w':=by
 go_enter Tryz.func202,Tryz.ntmps202;go_wp2_with fail;refine(zll xs a c _ hx hl).mono ?_;rintro e w1 ⟨n,rfl,hn,HB⟩;rw[hb] at hn;clear hb;go_wp2;go_ret;exact⟨rfl,by(with_reducible repeat first|exact Below.refl _ _|refine zc ?_ _|refine zd ?_|refine bset' ?_ (by omega) _|refine zb ?_ (by assumption))⟩
theorem zdl(r:Rq)(w:World)(D:Int)(hD:(if r.wr=true then r.m else 0)=D) :
 Calls Tryz.prog 201 #[r.val] w fun e w'=>e=.returned (.int .i64 D)∧Below w.heap.size w w':=by
 subst hD;exact zk4 r w
theorem zkd(r:Rq)(w:World)(h:okB r.f r.m 4=false) :
 Calls Tryz.prog 172 #[r.val] w fun e w'=>e=.returned (.iface 87 (.int .i64 1))∧Below w.heap.size w w':=by
 obtain⟨wr,f,m,da,dc,data,ta,tc,tags,born⟩:=r;simp only at h;go_enter Tryz.func172,Tryz.ntmps172;go_wp2_with fail
 go_at_call 200;refine(znR _ _ _ _ h).mono ?_;rintro e w1 ⟨rfl,hb⟩;(try clear hc hf hz);(first|replace HB:=zb HB hb|replace HB:=zb (zd HB) hb|have HB:=hb);clear hb;obtain⟨hc,hf,hz⟩:=zW HB
 go_wp2;go_ret;exact⟨rfl,by(with_reducible repeat first|exact Below.refl _ _|refine zc ?_ _|refine zd ?_|refine bset' ?_ (by omega) _|refine zb ?_ (by assumption))⟩
theorem zjs(r:Rq)(w:World)(hr:r.At w)(h:okB r.f r.m 4=true)(D:Int)(hD:(if r.wr=true then r.m else 0)=D)(h2:((r.data.length:Int) != D)=true) :
 Calls Tryz.prog 172 #[r.val] w fun e w'=>e=.returned (.iface 87 (.int .i64 3))∧Below w.heap.size w w':=by
 have HD:Hid ((if r.wr=true then r.m else 0)=D):=hD;clear hD;have l1:=hr.dl;have l2:=hr.tl
 all_goals
  go_enter Tryz.func172,Tryz.ntmps172;go_wp2_with fail
  go_at_call 200;refine(zdk _ _ _ _ h).mono ?_;rintro e w1 ⟨rfl,hb⟩;(try clear hc hf hz);(first|replace HB:=zb HB hb|replace HB:=zb (zd HB) hb|have HB:=hb);clear hb;obtain⟨hc,hf,hz⟩:=zW HB
  go_wp2_with fail;refine zF (by first|exact HB|exact zd HB|exact Below.refl _ _) (by kernel_rfl) (by kernel_rfl) ?_
  repeat(go_big_quiet_step (first|exact rfl|(go_at_call 201;exact zy (zdl r _ D HD.out))))
  refine wpQuiet_nil ?_;intro _ hw';obtain⟨p,hw''⟩:=hw';subst hw'';(try clear hc hf hz);(try clear HB);have HB:=p.below;obtain⟨hc,hf,hz⟩:=zW HB;go_wp2;go_ret;exact⟨rfl,by(with_reducible repeat first|exact Below.refl _ _|refine zc ?_ _|refine zd ?_|refine bset' ?_ (by omega) _|refine zb ?_ (by assumption))⟩
theorem zke(r:Rq)(w:World)(hr:r.At w)(h:okB r.f r.m 4=true)(D:Int)(hD:(if r.wr=true then r.m else 0)=D)(h2:((r.data.length:Int) != D)=false)(h3:r.tags.length<1∨4<r.tags.length) :
 Calls Tryz.prog 172 #[r.val] w fun e w'=>e=.returned (.iface 87 (.int .i64 3))∧Below w.heap.size w w':=by
 have HD:Hid ((if r.wr=true then r.m else 0)=D):=hD;clear hD;have l1:=hr.dl;have l2:=hr.tl
 rcases h3 with h3|h3
 all_goals
  go_enter Tryz.func172,Tryz.ntmps172;go_wp2_with fail
  go_at_call 200;refine(zdk _ _ _ _ h).mono ?_;rintro e w1 ⟨rfl,hb⟩;(try clear hc hf hz);(first|replace HB:=zb HB hb|replace HB:=zb (zd HB) hb|have HB:=hb);clear hb;obtain⟨hc,hf,hz⟩:=zW HB
  go_wp2_with fail;refine zF (by first|exact HB|exact zd HB|exact Below.refl _ _) (by kernel_rfl) (by kernel_rfl) ?_
  repeat(go_big_quiet_step (first|exact rfl|(go_at_call 201;exact zy (zdl r _ D HD.out))))
  refine wpQuiet_nil ?_;intro _ hw';obtain⟨p,hw''⟩:=hw';subst hw'';(try clear hc hf hz);(try clear HB);have HB:=p.below;obtain⟨hc,hf,hz⟩:=zW HB;go_wp2;go_ret;exact⟨rfl,by(with_reducible repeat first|exact Below.refl _ _|refine zc ?_ _|refine zd ?_|refine bset' ?_ (by omega) _|refine zb ?_ (by assumption))⟩
theorem zka(r:Rq)(w:World)(hr:r.At w)(h:okB r.f r.m 4=true)(D:Int)(hD:(if r.wr=true then r.m else 0)=D)(h2:((r.data.length:Int) != D)=false)(t1:¬r.tags.length<1)(t2:¬4<r.tags.length)(h4:r.born<0∨(0≤r.born∧1000000000<r.born)) :
 Calls Tryz.prog 172 #[r.val] w fun e w'=>e=.returned (.iface 87 (.int .i64 1))∧Below w.heap.size w w':=by
 have HD:Hid ((if r.wr=true then r.m else 0)=D):=hD;clear hD;have l1:=hr.dl;have l2:=hr.tl
 rcases h4 with h4|⟨h4,h5⟩
 all_goals
  go_enter Tryz.func172,Tryz.ntmps172;go_wp2_with fail
  go_at_call 200;refine(zdk _ _ _ _ h).mono ?_;rintro e w1 ⟨rfl,hb⟩;(try clear hc hf hz);(first|replace HB:=zb HB hb|replace HB:=zb (zd HB) hb|have HB:=hb);clear hb;obtain⟨hc,hf,hz⟩:=zW HB
  go_wp2_with fail;refine zF (by first|exact HB|exact zd HB|exact Below.refl _ _) (by kernel_rfl) (by kernel_rfl) ?_
  repeat(go_big_quiet_step (first|exact rfl|(go_at_call 201;exact zy (zdl r _ D HD.out))))
  refine wpQuiet_nil ?_;intro _ hw';obtain⟨p,hw''⟩:=hw';subst hw'';(try clear hc hf hz);(try clear HB);have HB:=p.below;obtain⟨hc,hf,hz⟩:=zW HB;go_wp2;go_ret;exact⟨rfl,by(with_reducible repeat first|exact Below.refl _ _|refine zc ?_ _|refine zd ?_|refine bset' ?_ (by omega) _|refine zb ?_ (by assumption))⟩
theorem zkc(r:Rq)(w:World)(hr:r.At w)(h:okB r.f r.m 4=true)(D:Int)(hD:(if r.wr=true then r.m else 0)=D)(h2:((r.data.length:Int) != D)=false)(t1:¬r.tags.length<1)(t2:¬4<r.tags.length)(h4:0≤r.born)(h5:r.born≤1000000000)(h6:r.data.any zcL=true) :
 Calls Tryz.prog 172 #[r.val] w fun e w'=>e=.returned (.iface 87 (.int .i64 1))∧Below w.heap.size w w':=by
 have HD:Hid ((if r.wr=true then r.m else 0)=D):=hD;clear hD;have l1:=hr.dl;have l2:=hr.tl
 all_goals
  go_enter Tryz.func172,Tryz.ntmps172;go_wp2_with fail
  go_at_call 200;refine(zdk _ _ _ _ h).mono ?_;rintro e w1 ⟨rfl,hb⟩;(try clear hc hf hz);(first|replace HB:=zb HB hb|replace HB:=zb (zd HB) hb|have HB:=hb);clear hb;obtain⟨hc,hf,hz⟩:=zW HB
  go_wp2_with fail;refine zF (by first|exact HB|exact zd HB|exact Below.refl _ _) (by kernel_rfl) (by kernel_rfl) ?_
  repeat(go_big_quiet_step (first|exact rfl|(go_at_call 201;exact zy (zdl r _ D HD.out))))
  refine wpQuiet_nil ?_;intro _ hw';obtain⟨p,hw''⟩:=hw';subst hw'';(try clear hc hf hz);(try clear HB);have HB:=p.below;obtain⟨hc,hf,hz⟩:=zW HB;go_wp2_with fail
  go_at_call 202;refine(zff r.data _ _ _ (hr.data.later (by(with_reducible repeat first|exact Below.refl _ _|refine zc ?_ _|refine zd ?_|refine bset' ?_ (by omega) _|refine zb ?_ (by assumption)))) l1 _ h6).mono ?_;rintro e w1 ⟨rfl,hb⟩;(try clear hc hf hz);(first|replace HB:=zb HB hb|replace HB:=zb (zd HB) hb|have HB:=hb);clear hb;obtain⟨hc,hf,hz⟩:=zW HB
  go_wp2;go_ret;exact⟨rfl,by(with_reducible repeat first|exact Below.refl _ _|refine zc ?_ _|refine zd ?_|refine bset' ?_ (by omega) _|refine zb ?_ (by assumption))⟩
theorem zkb(r:Rq)(w:World)(hr:r.At w)(h:okB r.f r.m 4=true)(D:Int)(hD:(if r.wr=true then r.m else 0)=D)(h2:((r.data.length:Int) != D)=false)(t1:¬r.tags.length<1)(t2:¬4<r.tags.length)(h4:0≤r.born)(h5:r.born≤1000000000)(h6:r.data.any zcL=false) :
 Calls Tryz.prog 172 #[r.val] w fun e w'=>e=.returned .nilIface∧Below w.heap.size w w':=by
 have HD:Hid ((if r.wr=true then r.m else 0)=D):=hD;clear hD;have l1:=hr.dl;have l2:=hr.tl
 all_goals
  go_enter Tryz.func172,Tryz.ntmps172;go_wp2_with fail
  go_at_call 200;refine(zdk _ _ _ _ h).mono ?_;rintro e w1 ⟨rfl,hb⟩;(try clear hc hf hz);(first|replace HB:=zb HB hb|replace HB:=zb (zd HB) hb|have HB:=hb);clear hb;obtain⟨hc,hf,hz⟩:=zW HB
  go_wp2_with fail;refine zF (by first|exact HB|exact zd HB|exact Below.refl _ _) (by kernel_rfl) (by kernel_rfl) ?_
  repeat(go_big_quiet_step (first|exact rfl|(go_at_call 201;exact zy (zdl r _ D HD.out))))
  refine wpQuiet_nil ?_;intro _ hw';obtain⟨p,hw''⟩:=hw';subst hw'';(try clear hc hf hz);(try clear HB);have HB:=p.below;obtain⟨hc,hf,hz⟩:=zW HB;go_wp2_with fail
  go_at_call 202;refine(zff r.data _ _ _ (hr.data.later (by(with_reducible repeat first|exact Below.refl _ _|refine zc ?_ _|refine zd ?_|refine bset' ?_ (by omega) _|refine zb ?_ (by assumption)))) l1 _ h6).mono ?_;rintro e w1 ⟨rfl,hb⟩;(try clear hc hf hz);(first|replace HB:=zb HB hb|replace HB:=zb (zd HB) hb|have HB:=hb);clear hb;obtain⟨hc,hf,hz⟩:=zW HB
  go_wp2;go_ret;exact⟨rfl,by(with_reducible repeat first|exact Below.refl _ _|refine zc ?_ _|refine zd ?_|refine bset' ?_ (by omega) _|refine zb ?_ (by assumption))⟩
theorem zpF(r:Rq)(D:Int)(hD:(if r.wr=true then r.m else 0)=D):((r.data.length:Int) != D)=!(zcb r):=by
 subst hD;unfold zcb
 cases r.wr
 all_goals
  simp only[if_true,if_false,Bool.false_eq_true];rw[Bool.eq_iff_iff];simp only[bne_iff_ne,Bool.not_eq_true',decide_eq_false_iff_not,ne_eq]
  try omega
theorem zlx(r:Rq):r.data.any zcL=!(zcH r):=by
 unfold zcH;rw[List.not_all_eq_any_not]
 congr 1
 funext s
 simp only[zcL];rw[←decide_not]
 congr 1
 simp
theorem zlR(r:Rq)(w:World)(hr:r.At w)(n:Int)(hn:zc0 r=n) :
 Calls Tryz.prog 172 #[r.val] w fun e w'=>e=.returned (zI n)∧Below w.heap.size w w':=by
 subst hn;unfold zc0;have hD:=zpF r _ rfl
 by_cases h:okB r.f r.m 4=false
 ·rw[if_pos h];exact zkd r w h
 ·rw[if_neg h];have h':okB r.f r.m 4=true:=by simpa using h
  by_cases h2:zcb r=false
  ·rw[if_pos h2];exact zjs r w hr h' _ rfl (by rw[hD,h2];rfl)
  ·rw[if_neg h2];have h2':((r.data.length:Int) != (if r.wr=true then r.m else 0))=false:=by
    rw[hD];simpa using h2
   by_cases h3:r.tags.length<1∨4<r.tags.length
   ·rw[if_pos h3];exact zke r w hr h' _ rfl h2' h3
   ·rw[if_neg h3]
    by_cases h4:r.born<0∨1000000000<r.born
    ·rw[if_pos h4];exact zka r w hr h' _ rfl h2' (by omega) (by omega) (by omega)
    ·rw[if_neg h4];have hls:=zlx r
     cases hs:zcH r
     ·rw[hs] at hls;exact zkc r w hr h' _ rfl h2' (by omega) (by omega) (by omega) (by omega) hls
     ·rw[hs] at hls;exact zkb r w hr h' _ rfl h2' (by omega) (by omega) (by omega) (by omega) hls
def zdV(R:Rq→Int)(l:List Rq)(i:Nat):Int:=match l[i]? with|some r=>R r|none=>0
def zfL(F:Rq→Bool)(l:List Rq)(i:Nat):Bool:=match l[i]? with|some r=>F r|none=>false
def zaj(F:Rq→Bool)(R:Rq→Int)(l:List Rq):Nat→Int
 |0=>-1
 |k+1=>if zfL F l k=true∧(zaj F R l k<0∨zdV R l k<zdV R l (zaj F R l k).toNat) then k else zaj F R l k
section
variable{F:Rq→Bool}{R:Rq→Int}{l:List Rq}{k j:Nat}
theorem zeY(h:k<l.length):zfL F l k=F l[k]:=by simp[zfL,h]
theorem zd8(h:k<l.length):zdV R l k=R l[k]:=by simp[zdV,h]
theorem ze4{B:Int}(h:k<l.length)(hF:F l[k]=false)(hB:zaj F R l k=B):zaj F R l (k+1)=B:=by
 rw[zaj,zeY h,hF,if_neg (by simp),hB]
theorem zek(h:k<l.length)(hF:F l[k]=true)(hB:zaj F R l k=-1):zaj F R l (k+1)=k:=by
 rw[zaj,zeY h,hF,hB,if_pos (by simp)]
theorem zgs(h:k<l.length)(hj:j<l.length)(hF:F l[k]=true)(hB:zaj F R l k=j)(hR:R l[k]<R l[j]):zaj F R l (k+1)=k:=by
 rw[zaj,zeY h,hF,hB,zd8 h,Int.toNat_natCast,zd8 hj,if_pos ⟨rfl,Or.inr hR⟩]
theorem zgr(h:k<l.length)(hj:j<l.length)(hF:F l[k]=true)(hB:zaj F R l k=j)(hR:¬R l[k]<R l[j]):zaj F R l (k+1)=j:=by
 rw[zaj,zeY h,hF,hB,zd8 h,Int.toNat_natCast,zd8 hj,if_neg (by rintro⟨_,h'|h'⟩;omega;exact hR h')]
end
def zen(b:Bool)(r:Rq):Bool:=r.wr==b
def zcJ(b:Bool)(at':Int)(r:Rq):Bool:=(r.wr==b)&&decide (at'≤r.f)
theorem zdB(r:Rq)(b:Bool)(pb po:Nat)(w:World)(hp:w.cell? ⟨pb,po,none⟩=some (.bool b))(ff:Bool)(hff:zen b r=ff) :
 Calls Tryz.prog 211 #[r.val,.pointer (some ⟨pb,po,none⟩)] w fun e w'=>e=.returned (.bool ff)∧Below w.heap.size w w':=by
 subst hff;have hp':=zU hp;go_enter Tryz.func211,Tryz.ntmps211;go_wp2;go_ret;exact⟨rfl,by(with_reducible repeat first|exact Below.refl _ _|refine zc ?_ _|refine zd ?_|refine bset' ?_ (by omega) _|refine zb ?_ (by assumption))⟩
theorem zdf(r:Rq)(w:World) :
 Calls Tryz.prog 212 #[r.val] w fun e w'=>e=.returned (.int .i64 r.born)∧Below w.heap.size w w':=by
 go_enter Tryz.func212,Tryz.ntmps212;go_wp2;go_ret;exact⟨rfl,by(with_reducible repeat first|exact Below.refl _ _|refine zc ?_ _|refine zd ?_|refine bset' ?_ (by omega) _|refine zb ?_ (by assumption))⟩
theorem zdb(r:Rq)(b:Bool)(a:Int)(pb po qb qo:Nat)(w:World)(hp:w.cell? ⟨pb,po,none⟩=some (.bool b))(hq:w.cell? ⟨qb,qo,none⟩=some (.int .i64 a))(ff:Bool)(hff:zcJ b a r=ff) :
 Calls Tryz.prog 208 #[r.val,.pointer (some ⟨pb,po,none⟩),.pointer (some ⟨qb,qo,none⟩)] w fun e w'=>e=.returned (.bool ff)∧Below w.heap.size w w':=by
 subst hff;have hp':=zU hp;have hq':=zU hq
 cases hb:(r.wr==b)
 ·go_enter Tryz.func208,Tryz.ntmps208;go_wp2;go_ret;exact⟨zaH (by rw[zcJ,hb];rfl),by(with_reducible repeat first|exact Below.refl _ _|refine zc ?_ _|refine zd ?_|refine bset' ?_ (by omega) _|refine zb ?_ (by assumption))⟩
 ·go_enter Tryz.func208,Tryz.ntmps208;go_wp2;go_ret;exact⟨zaH (by rw[zcJ,hb];rfl),by(with_reducible repeat first|exact Below.refl _ _|refine zc ?_ _|refine zd ?_|refine bset' ?_ (by omega) _|refine zb ?_ (by assumption))⟩
theorem zc1(r:Rq)(w:World) :
 Calls Tryz.prog 210 #[r.val] w fun e w'=>e=.returned (.int .i64 r.f)∧Below w.heap.size w w':=by
 go_enter Tryz.func210,Tryz.ntmps210;go_wp2;go_ret;exact⟨rfl,by(with_reducible repeat first|exact Below.refl _ _|refine zc ?_ _|refine zd ?_|refine bset' ?_ (by omega) _|refine zb ?_ (by assumption))⟩
theorem zjg(l:List Rq)(a:Option Addr)(c:Nat)(b':Bool)(pb po:Nat)(w:World)(hl:zm w a l)(hp:w.cell? ⟨pb,po,none⟩=some (.bool b')) :
 Calls Tryz.prog 209 #[.slice a l.length c,.func (.func 211) #[] #[.pointer (some ⟨pb,po,none⟩)],.func (.func 212) #[] #[]] w
  fun e w'=>e=.returned (.int .i64 (zaj (zen b') Rq.born l l.length))∧Below w.heap.size w w':=by
 have hb3:=hl.2.2
 rcases hl.form with rfl|⟨b,o,rfl⟩
 ·go_enter Tryz.func209,Tryz.ntmps209;go_wp2
  go_loop [7,12] (fun bi i=>i=.int .i64 0∧bi=.int .i64 (-1)) (fun _ _=>0)
  case atStart=>exact⟨rfl,rfl⟩
  case round =>
   obtain⟨rfl,rfl⟩:=hrel;go_wp2;go_ret;exact⟨rfl,by(with_reducible repeat first|exact Below.refl _ _|refine zc ?_ _|refine zd ?_|refine bset' ?_ (by omega) _|refine zb ?_ (by assumption))⟩
 go_enter Tryz.func209,Tryz.ntmps209;go_wp2
 go_loopw[7,12] (fun bi i wr=>∃(k:Nat) (B:Int),k≤l.length∧i=.int .i64 k∧bi=.int .i64 B∧zaj (zen b') Rq.born l k=B∧(B=-1∨∃j:Nat,B=j∧j<k)∧Below w.heap.size w wr) (fun _ i _=>l.length-(intOf i).toNat)
 case atStart=>exact⟨0,-1,by omega,rfl,rfl,rfl,Or.inl rfl,Below.refl _ _⟩
 case round =>
  obtain⟨k,B,hk,rfl,rfl,hB,hcase,HB⟩:=hrel;have HL:Hid (zaj (zen b') Rq.born l k=B):=hB;clear hB
  by_cases hlt:k<l.length
  ·obtain⟨c0,c1,c2,c3,c4,c5⟩:=(hl.later HB).cells hlt;have l0:=zg c0;have hpr:=cell_later' HB hp;have HB0:=HB;clear HB;have hcase':=hcase
   cases hff:zen b' l[k]
   ·clear hcase;go_wp2_with fail;refine zF (by first|exact HB|exact zd HB|exact Below.refl _ _) (by kernel_rfl) (by kernel_rfl) ?_
    repeat(go_big_quiet_step (first|exact rfl|(go_at_call 211;exact zy (zdB l[k] _ _ _ _ (cell_later' (ze.below _) (zU hpr _)) _ hff))|(go_at_call 212;exact zy (zdf _ _))))
    refine wpQuiet_nil ?_;intro _ hw';obtain⟨p,hw''⟩:=hw';subst hw'';(try clear hc hf hz);(try clear HB);have HB:=p.below;obtain⟨hc,hf,hz⟩:=zW HB;go_wp2;go_roundw
    case rel=>exact⟨k+1,B,by omega,by go_num,rfl,ze4 hlt hff HL.out,hcase'.elim (fun h=>Or.inl h) (fun⟨j,h,hj⟩=>Or.inr ⟨j,h,by omega⟩),zb (zc HB0 _) HB⟩
    case measure=>simp[intOf];omega
   ·rcases hcase with rfl|⟨j,rfl,hj⟩
    ·go_wp2_with fail;refine zF (by first|exact HB|exact zd HB|exact Below.refl _ _) (by kernel_rfl) (by kernel_rfl) ?_
     repeat(go_big_quiet_step (first|exact rfl|(go_at_call 211;exact zy (zdB l[k] _ _ _ _ (cell_later' (ze.below _) (zU hpr _)) _ hff))|(go_at_call 212;exact zy (zdf _ _))))
     refine wpQuiet_nil ?_;intro _ hw';obtain⟨p,hw''⟩:=hw';subst hw'';(try clear hc hf hz);(try clear HB);have HB:=p.below;obtain⟨hc,hf,hz⟩:=zW HB;go_wp2;go_roundw
     case rel=>exact⟨k+1,k,by omega,by go_num,rfl,zek hlt hff HL.out,Or.inr ⟨k,rfl,by omega⟩,zb (zc HB0 _) HB⟩
     case measure=>simp[intOf];omega
    ·have hjl:j<l.length:=by omega
     have hj0:decide ((j:Int)<0)=false:=decide_eq_false (by omega);obtain⟨d0,d1,d2,d3,d4,d5⟩:=(hl.later HB0).cells hjl
     by_cases hR:Rq.born l[k]<Rq.born l[j]
     ·go_wp2_with fail;refine zF (by first|exact HB|exact zd HB|exact Below.refl _ _) (by kernel_rfl) (by kernel_rfl) ?_
      repeat(go_big_quiet_step (first|exact rfl|(go_at_call 211;exact zy (zdB l[k] _ _ _ _ (cell_later' (ze.below _) (zU hpr _)) _ hff))|(go_at_call 212;exact zy (zdf _ _))))
      refine wpQuiet_nil ?_;intro _ hw';obtain⟨p,hw''⟩:=hw';subst hw'';(try clear hc hf hz);(try clear HB);have HB:=p.below;obtain⟨hc,hf,hz⟩:=zW HB;go_wp2;go_roundw
      case rel=>exact⟨k+1,k,by omega,by go_num,rfl,zgs hlt hjl hff HL.out hR,Or.inr ⟨k,rfl,by omega⟩,zb (zc HB0 _) HB⟩
      case measure=>simp[intOf];omega
     ·go_wp2_with fail;refine zF (by first|exact HB|exact zd HB|exact Below.refl _ _) (by kernel_rfl) (by kernel_rfl) ?_
      repeat(go_big_quiet_step (first|exact rfl|(go_at_call 211;exact zy (zdB l[k] _ _ _ _ (cell_later' (ze.below _) (zU hpr _)) _ hff))|(go_at_call 212;exact zy (zdf _ _))))
      refine wpQuiet_nil ?_;intro _ hw';obtain⟨p,hw''⟩:=hw';subst hw'';(try clear hc hf hz);(try clear HB);have HB:=p.below;obtain⟨hc,hf,hz⟩:=zW HB;go_wp2;go_roundw
      case rel=>exact⟨k+1,j,by omega,by go_num,rfl,zgr hlt hjl hff HL.out (by omega),Or.inr ⟨j,rfl,by omega⟩,zb (zc HB0 _) HB⟩
      case measure=>simp[intOf];omega
  ·go_wp2;go_ret;exact⟨zbT (by rw[show l.length=k by omega];exact HL.out.symm),by(with_reducible repeat first|exact Below.refl _ _|refine zc ?_ _|refine zd ?_|refine bset' ?_ (by omega) _|refine zb ?_ (by assumption))⟩
theorem zir(l:List Rq)(a:Option Addr)(c:Nat)(b':Bool)(a':Int)(pb po qb qo:Nat)(w:World)(hl:zm w a l)(hp:w.cell? ⟨pb,po,none⟩=some (.bool b'))(hq:w.cell? ⟨qb,qo,none⟩=some (.int .i64 a')) :
 Calls Tryz.prog 209 #[.slice a l.length c,.func (.func 208) #[] #[.pointer (some ⟨pb,po,none⟩),.pointer (some ⟨qb,qo,none⟩)],.func (.func 210) #[] #[]] w
  fun e w'=>e=.returned (.int .i64 (zaj (zcJ b' a') Rq.f l l.length))∧Below w.heap.size w w':=by
 have hb3:=hl.2.2
 rcases hl.form with rfl|⟨b,o,rfl⟩
 ·go_enter Tryz.func209,Tryz.ntmps209;go_wp2
  go_loop [7,12] (fun bi i=>i=.int .i64 0∧bi=.int .i64 (-1)) (fun _ _=>0)
  case atStart=>exact⟨rfl,rfl⟩
  case round =>
   obtain⟨rfl,rfl⟩:=hrel;go_wp2;go_ret;exact⟨rfl,by(with_reducible repeat first|exact Below.refl _ _|refine zc ?_ _|refine zd ?_|refine bset' ?_ (by omega) _|refine zb ?_ (by assumption))⟩
 go_enter Tryz.func209,Tryz.ntmps209;go_wp2
 go_loopw[7,12] (fun bi i wr=>∃(k:Nat) (B:Int),k≤l.length∧i=.int .i64 k∧bi=.int .i64 B∧zaj (zcJ b' a') Rq.f l k=B∧(B=-1∨∃j:Nat,B=j∧j<k)∧Below w.heap.size w wr) (fun _ i _=>l.length-(intOf i).toNat)
 case atStart=>exact⟨0,-1,by omega,rfl,rfl,rfl,Or.inl rfl,Below.refl _ _⟩
 case round =>
  obtain⟨k,B,hk,rfl,rfl,hB,hcase,HB⟩:=hrel;have HL:Hid (zaj (zcJ b' a') Rq.f l k=B):=hB;clear hB
  by_cases hlt:k<l.length
  ·obtain⟨c0,c1,c2,c3,c4,c5⟩:=(hl.later HB).cells hlt;have l0:=zg c0;have hpr:=cell_later' HB hp;have hqr:=cell_later' HB hq;have HB0:=HB;clear HB;have hcase':=hcase
   cases hff:zcJ b' a' l[k]
   ·clear hcase;go_wp2_with fail;refine zF (by first|exact HB|exact zd HB|exact Below.refl _ _) (by kernel_rfl) (by kernel_rfl) ?_
    repeat(go_big_quiet_step (first|exact rfl|(go_at_call 208;exact zy (zdb l[k] _ _ _ _ _ _ _ (cell_later' (ze.below _) (zU hpr _)) (cell_later' (ze.below _) (zU hqr _)) _ hff))|(go_at_call 210;exact zy (zc1 _ _))))
    refine wpQuiet_nil ?_;intro _ hw';obtain⟨p,hw''⟩:=hw';subst hw'';(try clear hc hf hz);(try clear HB);have HB:=p.below;obtain⟨hc,hf,hz⟩:=zW HB;go_wp2;go_roundw
    case rel=>exact⟨k+1,B,by omega,by go_num,rfl,ze4 hlt hff HL.out,hcase'.elim (fun h=>Or.inl h) (fun⟨j,h,hj⟩=>Or.inr ⟨j,h,by omega⟩),zb (zc HB0 _) HB⟩
    case measure=>simp[intOf];omega
   ·rcases hcase with rfl|⟨j,rfl,hj⟩
    ·go_wp2_with fail;refine zF (by first|exact HB|exact zd HB|exact Below.refl _ _) (by kernel_rfl) (by kernel_rfl) ?_
     repeat(go_big_quiet_step (first|exact rfl|(go_at_call 208;exact zy (zdb l[k] _ _ _ _ _ _ _ (cell_later' (ze.below _) (zU hpr _)) (cell_later' (ze.below _) (zU hqr _)) _ hff))|(go_at_call 210;exact zy (zc1 _ _))))
     refine wpQuiet_nil ?_;intro _ hw';obtain⟨p,hw''⟩:=hw';subst hw'';(try clear hc hf hz);(try clear HB);have HB:=p.below;obtain⟨hc,hf,hz⟩:=zW HB;go_wp2;go_roundw
     case rel=>exact⟨k+1,k,by omega,by go_num,rfl,zek hlt hff HL.out,Or.inr ⟨k,rfl,by omega⟩,zb (zc HB0 _) HB⟩
     case measure=>simp[intOf];omega
    ·have hjl:j<l.length:=by omega
     have hj0:decide ((j:Int)<0)=false:=decide_eq_false (by omega);obtain⟨d0,d1,d2,d3,d4,d5⟩:=(hl.later HB0).cells hjl
     by_cases hR:Rq.f l[k]<Rq.f l[j]
     ·go_wp2_with fail;refine zF (by first|exact HB|exact zd HB|exact Below.refl _ _) (by kernel_rfl) (by kernel_rfl) ?_
      repeat(go_big_quiet_step (first|exact rfl|(go_at_call 208;exact zy (zdb l[k] _ _ _ _ _ _ _ (cell_later' (ze.below _) (zU hpr _)) (cell_later' (ze.below _) (zU hqr _)) _ hff))|(go_at_call 210;exact zy (zc1 _ _))))
      refine wpQuiet_nil ?_;intro _ hw';obtain⟨p,hw''⟩:=hw';subst hw'';(try clear hc hf hz);(try clear HB);have HB:=p.below;obtain⟨hc,hf,hz⟩:=zW HB;go_wp2;go_roundw
      case rel=>exact⟨k+1,k,by omega,by go_num,rfl,zgs hlt hjl hff HL.out hR,Or.inr ⟨k,rfl,by omega⟩,zb (zc HB0 _) HB⟩
      case measure=>simp[intOf];omega
     ·go_wp2_with fail;refine zF (by first|exact HB|exact zd HB|exact Below.refl _ _) (by kernel_rfl) (by kernel_rfl) ?_
      repeat(go_big_quiet_step (first|exact rfl|(go_at_call 208;exact zy (zdb l[k] _ _ _ _ _ _ _ (cell_later' (ze.below _) (zU hpr _)) (cell_later' (ze.below _) (zU hqr _)) _ hff))|(go_at_call 210;exact zy (zc1 _ _))))
      refine wpQuiet_nil ?_;intro _ hw';obtain⟨p,hw''⟩:=hw';subst hw'';(try clear hc hf hz);(try clear HB);have HB:=p.below;obtain⟨hc,hf,hz⟩:=zW HB;go_wp2;go_roundw
      case rel=>exact⟨k+1,j,by omega,by go_num,rfl,zgr hlt hjl hff HL.out (by omega),Or.inr ⟨j,rfl,by omega⟩,zb (zc HB0 _) HB⟩
      case measure=>simp[intOf];omega
  ·go_wp2;go_ret;exact⟨zbT (by rw[show l.length=k by omega];exact HL.out.symm),by(with_reducible repeat first|exact Below.refl _ _|refine zc ?_ _|refine zd ?_|refine bset' ?_ (by omega) _|refine zb ?_ (by assumption))⟩
theorem zlG(l:List Rq)(a:Option Addr)(c:Nat)(b:Bool)(w:World)(hl:zm w a l) :
 Calls Tryz.prog 177 #[.slice a l.length c,.bool b] w fun e w'=>e=.returned (.int .i64 (zaj (zen b) Rq.born l l.length))∧Below w.heap.size w w':=by
 go_enter Tryz.func177,Tryz.ntmps177;go_wp2_with fail;refine(zjg l a c b _ _ _ (hl.later (zs _ _)) (by simp)).mono ?_;rintro e w1 ⟨rfl,HB⟩;go_wp2;go_ret;exact⟨rfl,by(with_reducible repeat first|exact Below.refl _ _|refine zc ?_ _|refine zd ?_|refine bset' ?_ (by omega) _|refine zb ?_ (by assumption))⟩
theorem zn5(l:List Rq)(a:Option Addr)(c:Nat)(b:Bool)(a':Int)(w:World)(hl:zm w a l) :
 Calls Tryz.prog 176 #[.slice a l.length c,.bool b,.int .i64 a'] w fun e w'=>e=.returned (.int .i64 (zaj (zcJ b a') Rq.f l l.length))∧Below w.heap.size w w':=by
 go_enter Tryz.func176,Tryz.ntmps176;go_wp2_with fail;refine(zir l a c b a' _ _ _ _ _ (hl.later (zbN _ _ _)) (by simp) (by simp)).mono ?_;rintro e w1 ⟨rfl,HB⟩;go_wp2;go_ret;exact⟨rfl,by(with_reducible repeat first|exact Below.refl _ _|refine zc ?_ _|refine zd ?_|refine bset' ?_ (by omega) _|refine zb ?_ (by assumption))⟩

end Go.Proofs.YtlhgjplipgandaaGreatDoor
