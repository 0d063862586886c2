/- Joined texts: Later, HidT, Append. -/
import Derived.Test.YtlhgjplipgandaaGreatProg
import Derived.WalkKit
import Derived.WalkSpells
import Derived.WalkLawsBesides
import Derived.Deep.QuietTactic
import Derived.BigQuiet
import Derived.Lib.AppendZerosOnto
import Derived.Laws.CopyOwn
import Derived.Laws.Append
import Derived.Laws.AppendOwn
import Derived.Deep.MidRow
set_option maxRecDepth 100000
set_option maxHeartbeats 8000000
set_option linter.unusedSimpArgs false
namespace Go.Proofs.YtlhgjplipgandaaGreat
open Go.RowKit
def zaj(n:Int):Prop:=-9223372036854775808≤n∧n≤9223372036854775807
structure ze(w:World) where
 v:World
 below:Below w.heap.size w v
theorem ze.cell{w:World}(p:ze w)(b o:Nat)(h:b<w.heap.size):p.v.cell? ⟨b,o,none⟩=w.cell? ⟨b,o,none⟩:=p.below.cell (p:=⟨b,o,none⟩) h
theorem ze.frozen{w:World}(p:ze w)(b o:Nat)(h:b<w.heap.size):p.v.frozen? ⟨b,o,none⟩=w.frozen? ⟨b,o,none⟩:=p.below.frozen (p:=⟨b,o,none⟩) h
theorem zj{P:Program}{id:Nat}{Q:Exit→Act→World→Prop}{a:Act}{W w:World}{l:List Oper}(HB:Below W.heap.size W w)(hm:P.follows .mixedOrders=true)(hB:Region.lexB .any l.toArray=true)
  (h:wpQuiet P l.toArray (fun w'=>∃p:ze W,w'=p.v) (fun a'=>∀w',(∃p:ze W,w'=p.v)→Q .normal a' w') l a):(Code.region id l.toArray true).wp P Q a w :=
 wp_region_quiet (C:=fun w'=>∃p:ze W,w'=p.v) hm hB ⟨⟨_,HB.drew⟩,rfl⟩ (by simpa using h)
theorem zR{P:Program}{f:FuncId}{args:Array Value}{w:World}{p:ze w}{v:Value}
  (h:Calls P f args p.v fun e w'=>e=.returned v∧Below p.v.heap.size p.v w'):Calls P f args p.v fun e w''=>e=.returned v∧∃q:ze w,w''=q.v :=
 h.mono fun _ w'' ⟨he,hb⟩=>⟨he,⟨w'',p.below.trans (hb.mono p.below.size)⟩,rfl⟩
theorem zu{W w1:World}(hb:Below W.heap.size W w1):(∀b o,b<W.heap.size→w1.cell? ⟨b,o,none⟩=W.cell? ⟨b,o,none⟩)∧(∀b o,b<W.heap.size→w1.frozen? ⟨b,o,none⟩=W.frozen? ⟨b,o,none⟩)∧W.heap.size≤w1.heap.size :=
 ⟨fun b o h=>hb.cell (p:=⟨b,o,none⟩) h,fun b o h=>hb.frozen (p:=⟨b,o,none⟩) h,hb.size⟩
theorem zn(w:World)(o:Obj):Below w.heap.size w (w.alloc o):=(Below.refl _ _).alloc (Nat.le_refl _) o
theorem zbm(w:World)(o o':Obj):Below w.heap.size w ((w.alloc o).alloc o'):=(zn w o).alloc (by simp) o'
theorem zb{W w1 w2:World}(h:Below W.heap.size W w1)(h2:Below w1.heap.size w1 w2):Below W.heap.size W w2:=h.trans (h2.mono h.size)
theorem zc{W w1:World}(h:Below W.heap.size W w1)(o:Obj):Below W.heap.size W (w1.alloc o):=h.alloc h.size o
theorem zd{W w1:World}(h:Below W.heap.size W w1):Below W.heap.size W w1.drew:=h.drew
theorem bset'{W w1:World}(h:Below W.heap.size W w1){b o:Nat}(hp:W.heap.size≤b)(u:Value):Below W.heap.size W (w1.setCell ⟨b,o,none⟩ u):=h.setCell hp u
theorem zad{a b:Bool}(h:a=b):Ending.returned (.bool a)=.returned (.bool b):=by rw[h]
theorem zbs{k:IntKind}{a b:Int}(h:a=b):Ending.returned (.int k a)=.returned (.int k b):=by rw[h]
theorem zr8{a b:Value}(h:a=b):Ending.returned a=.returned b:=by rw[h]
theorem dP{α:Type}:(∀(l:List α) (i:Nat) (h:i<l.toArray.size),l.toArray[i]'h=l[i]'(by simpa using h))∧(∀(a:α) (l:List α) (i:Nat) (h:i+1<(a::l).length),(a::l)[i+1]'h=l[i]'(by simpa using h))∧(∀(a:α) (l:List α) (h:0<(a::l).length),(a::l)[0]'h=a)∧(∀(l:List α) (i:Nat) (a:α),l.toArray.setIfInBounds i a=(l.set i a).toArray)∧(∀(x:α) (l:List α) (a:α),(x::l).set 0 a=a::l)∧(∀(x:α) (l:List α) (n:Nat) (a:α),(x::l).set (n+1) a=x::l.set n a) :=
 ⟨fun _ _ _=>List.getElem_toArray _,fun _ _ _ _=>rfl,fun _ _ _=>rfl,fun _ _ _=>List.setIfInBounds_toArray _ _ _,fun _ _ _=>rfl,fun _ _ _ _=>rfl⟩
theorem za{p:Prop}(h:p):Hid p:=h
def zaW(w:World)(size:Nat)(a:Option Addr)(n c:Nat)(xs:List Value):Prop :=
 xs.length=n*size∧(∀u∈xs,u.oneCell'=true)∧((a=none∧n=0∧c=0)∨∃ad:Addr,a=some ad∧∀j u,xs[j]?=some u→w.cell? (ad.add j)=some u)
theorem zcH{w:World}{a:Addr}{v:Value}(h:w.cell? a=some v):a.block<w.heap.size:=by
 rcases Nat.lt_or_ge a.block w.heap.size with h'|h'
 ·exact h'
 ·simp[World.cell?,Array.getElem?_eq_none h'] at h
theorem zas{w w':World}{a:Addr}{v:Value}(hb:Below w.heap.size w w')(h:w.cell? a=some v):w'.cell? a=some v:=by
 rw[hb.cell (zcH h)];exact h
theorem zaW.later{w w':World}{size n c:Nat}{a:Option Addr}{xs:List Value}(h:zaW w size a n c xs)(hb:Below w.heap.size w w'):zaW w' size a n c xs:=by
 obtain⟨h1,h2,h3⟩:=h;refine⟨h1,h2,?_⟩
 rcases h3 with h|⟨ad,ha,hc⟩
 ·exact Or.inl h
 ·exact Or.inr ⟨ad,ha,fun j u hj=>zas hb (hc j u hj)⟩
theorem zq{P:Program}{ops:Array Oper}{rest:List Oper}{o:Oper}{a:Act}{Q:Exit→Act→World→Prop}{w:World}(hgd:o.guard=none)(s x:Operand)(t:TypeId)
  (ho:o.op=.call { callee:=.builtin .append,args:=#[s,x],argTypes:=#[t,t] })
  (base:Nat) (e:TypeId) (i:TypeInfo) (z:Value) (size bytes:Nat) (ht:P.underlying t=some (.slice e)) (hi:P.info? e=some i) (hz:i.zero=some z)
  (hsize:i.size=size) (hby:i.bytes=bytes) (hzs:z.cells.size=size) (hsz:0<size)
  (v:Value) (n:Nat) (xs:List Value) (hs:a.eval s=v) (hown:w.ownsRow base e size v n xs)
  (ad:Option Addr) (m c:Nat) (news:List Value) (hx:a.eval x=.slice ad m c) (hrow:zaW w size ad m c news)
  (h63:n+m≤maxLen) (hbytes:(n+m)*bytes≤140737488355328) (hbase:base≤w.heap.size)
  (h:∀v' w',w'.ownsRow base e size v' (n+m) (xs++news)→Below base w w'→wpList P ops Q rest (a.put o.dst v') w'):wpList P ops Q (o::rest) a w:=by
 obtain⟨h1,h2,h3⟩:=hrow
 rcases h3 with⟨rfl,rfl,rfl⟩|⟨ad',rfl,hc⟩
 ·obtain rfl:news=[]:=List.eq_nil_of_length_eq_zero (by rw[h1];simp);have hr:=run_append_owned_none (P:=P) w base t o.type e i size ht hi v n xs hown;refine wpList_plain hgd fun K hK=>?_
  unfold Oper.wp execOp;simp only[ho,resolve,invoke,builtin,Sem.run_bind,Sem.run_pure,Result.andThen_ok,List.map_toArray,List.map_cons,List.map_nil,hs,hx,hr];exact hK _ _ (h v w (by simpa using hown) (Below.refl _ _))
 ·refine wpList_append_own w hgd s x t ho base e i z size bytes ht hi hz hsize hby hzs hsz v n xs hs hown ad' m c news hx h1 hc h2 h63 hbytes hbase ?_;intro v' w' h4 h5 _;exact h v' w' h4 ((Below.refl _ _).grown h5 hbase fun k hk=>(hown.lt k hk).1)
theorem zcK{P:Program}{ops:Array Oper}{rest:List Oper}{o:Oper}{a:Act}{Q:Exit→Act→World→Prop}{w:World}(hgd:o.guard=none)(s x:Operand)(t tn:TypeId)
  (ho:o.op=.call { callee:=.builtin .append,args:=#[s,x],argTypes:=#[t,tn] })
  (e:TypeId) (i:TypeInfo) (z:Value) (size bytes:Nat) (ht:P.underlying t=some (.slice e)) (htn:P.underlying tn=some (.int .i64)) (hi:P.info? e=some i) (hz:i.zero=some z)
  (hsize:i.size=size) (hby:i.bytes=bytes) (hzs:z.cells.size=size) (hsz:0<size)
  (n:Nat) (h0:0<n) (hs:a.eval s=.slice none 0 0) (hx:a.eval x=.int .i64 n) (h63:n≤4611686018427387904) (hbytes:n*bytes≤140737488355328)
  (h:∀cap w',w'.ownsRow w.heap.size e size (.slice (some ⟨w.heap.size,0,none⟩) 0 cap) 0 []→Below w.heap.size w w'→n≤cap→cap≤9223372036854775807→wpList P ops Q rest (a.put o.dst (.slice (some ⟨w.heap.size,0,none⟩) n cap)) w'):wpList P ops Q (o::rest) a w:=by
 have hr:=Lib.run_append_nil_zeros (P:=P) w t tn o.type e i z .i64 .i64 ht htn hi hz n h0 (by omega) (by omega) (by rw[hby];omega);refine wpList_plain hgd fun K hK=>?_
 unfold Oper.wp execOp;simp only[ho,resolve,invoke,builtin,Sem.run_bind,Sem.run_pure,Result.andThen_ok,List.map_toArray,List.map_cons,List.map_nil,hs,hx,hr];have hge:=grownCap_ge w n 0 e;have hcm:grownCap w n 0 e≤maxLen:=grownCap_le_maxLen w n 0 e (by unfold maxLen;omega);refine hK _ _ (h _ _ ⟨by simp,Or.inr ⟨w.heap.size,_,_,rfl,Nat.le_refl _,heap_alloc_new w.drew _,Nat.zero_le _,hcm,?_,by simp⟩⟩ ?_ hge (by unfold maxLen at hcm;omega))
 ·simp only[Array.size_append,size_zeroCells,hzs,←Nat.add_mul]
  congr 1
  omega
 ·exact((Below.refl _ _).drew).alloc (Nat.le_refl _) _
theorem zaL{P:Program}{e:TypeId}{z:Value}{size bytes:Nat}(h:(P.info? e).map (fun i=>(i.zero,i.size,i.bytes))=some (some z,size,bytes)):∃i,P.info? e=some i∧i.zero=some z∧i.size=size∧i.bytes=bytes:=by
 cases h':P.info? e with
 |none=>rw[h'] at h;cases h
 |some i =>
  rw[h'] at h;simp only[Option.map_some,Option.some.injEq,Prod.mk.injEq] at h;exact⟨i,rfl,h.1,h.2.1,h.2.2⟩
theorem zdX:(Tryz.prog.info? 111).map (fun i=>(i.zero,i.size,i.bytes))=some (some (.agg #[.bool false,.int .i64 0,.int .i64 0,.slice none 0 0,.slice none 0 0,.int .i64 0]),6,80):=by kernel_rfl
theorem znG(w:World):Calls Tryz.prog 115 #[.slice none 0 0,.int .i64 0] w fun e w'=>e=.returned (.slice none 0 0)∧Below w.heap.size w w':=by
 go_enter Tryz.func115,Tryz.ntmps115;go_wp2;go_ret;exact⟨rfl,Below.refl _ _⟩
theorem zqg(n:Nat)(w:World)(h0:0<n)(hn:n≤1000000):Calls Tryz.prog 115 #[.slice none 0 0,.int .i64 n] w fun e w'=>∃v,e=.returned v∧w'.ownsRow w.heap.size 111 6 v 0 []∧Below w.heap.size w w':=by
 obtain⟨i,hi,hz0,hz1,hz2⟩:=zaL zdX;go_enter Tryz.func115,Tryz.ntmps115;go_wp2_with(at_builtin;refine zcK rfl _ _ 34 3 rfl 111 i (.agg #[.bool false,.int .i64 0,.int .i64 0,.slice none 0 0,.slice none 0 0,.int .i64 0]) 6 80 Tryz.underlying34 Tryz.underlying3 hi hz0 hz1 hz2 rfl (by decide) n h0 rfl rfl (by omega) (by omega) ?_;intro cap w1 hown HB hcap hcm);go_ret;exact⟨_,rfl,hown,by(with_reducible repeat first|exact Below.refl _ _|refine zc ?_ _|refine zd ?_|refine bset' ?_ (by omega) _|refine zb ?_ (by assumption))⟩
theorem zpx(n:Nat)(w:World)(hn:n≤1000000):Calls Tryz.prog 115 #[.slice none 0 0,.int .i64 n] w fun e w'=>∃v,e=.returned v∧w'.ownsRow w.heap.size 111 6 v 0 []∧Below w.heap.size w w':=by
 rcases Nat.eq_zero_or_pos n with rfl|h
 ·exact(znG w).mono fun e w' ⟨he,hb⟩=>⟨_,he,World.ownsRow_nil _ _ _ _,hb⟩
 ·exact zqg n w h hn
theorem zfc:(Tryz.prog.info? 9).map (fun i=>(i.zero,i.size,i.bytes))=some (some (.string ByteArray.empty),1,16):=by kernel_rfl
theorem znu(w:World):Calls Tryz.prog 154 #[.slice none 0 0,.int .i64 0] w fun e w'=>e=.returned (.slice none 0 0)∧Below w.heap.size w w':=by
 go_enter Tryz.func154,Tryz.ntmps154;go_wp2;go_ret;exact⟨rfl,Below.refl _ _⟩
theorem zp6(n:Nat)(w:World)(h0:0<n)(hn:n≤1000000):Calls Tryz.prog 154 #[.slice none 0 0,.int .i64 n] w fun e w'=>∃v,e=.returned v∧w'.ownsRow w.heap.size 9 1 v 0 []∧Below w.heap.size w w':=by
 obtain⟨i,hi,hz0,hz1,hz2⟩:=zaL zfc;go_enter Tryz.func154,Tryz.ntmps154;go_wp2_with(at_builtin;refine zcK rfl _ _ 109 3 rfl 9 i (.string ByteArray.empty) 1 16 Tryz.underlying109 Tryz.underlying3 hi hz0 hz1 hz2 rfl (by decide) n h0 rfl rfl (by omega) (by omega) ?_;intro cap w1 hown HB hcap hcm);go_ret;exact⟨_,rfl,hown,by(with_reducible repeat first|exact Below.refl _ _|refine zc ?_ _|refine zd ?_|refine bset' ?_ (by omega) _|refine zb ?_ (by assumption))⟩
theorem zpS(n:Nat)(w:World)(hn:n≤1000000):Calls Tryz.prog 154 #[.slice none 0 0,.int .i64 n] w fun e w'=>∃v,e=.returned v∧w'.ownsRow w.heap.size 9 1 v 0 []∧Below w.heap.size w w':=by
 rcases Nat.eq_zero_or_pos n with rfl|h
 ·exact(znu w).mono fun e w' ⟨he,hb⟩=>⟨_,he,World.ownsRow_nil _ _ _ _,hb⟩
 ·exact zp6 n w h hn
theorem zf3:(Tryz.prog.info? 3).map (fun i=>(i.zero,i.size,i.bytes))=some (some (.int .i64 0),1,8):=by kernel_rfl
theorem znD(w:World):Calls Tryz.prog 155 #[.slice none 0 0,.int .i64 0] w fun e w'=>e=.returned (.slice none 0 0)∧Below w.heap.size w w':=by
 go_enter Tryz.func155,Tryz.ntmps155;go_wp2;go_ret;exact⟨rfl,Below.refl _ _⟩
theorem zp3(n:Nat)(w:World)(h0:0<n)(hn:n≤1000000):Calls Tryz.prog 155 #[.slice none 0 0,.int .i64 n] w fun e w'=>∃v,e=.returned v∧w'.ownsRow w.heap.size 3 1 v 0 []∧Below w.heap.size w w':=by
 obtain⟨i,hi,hz0,hz1,hz2⟩:=zaL zf3;go_enter Tryz.func155,Tryz.ntmps155;go_wp2_with(at_builtin;refine zcK rfl _ _ 52 3 rfl 3 i (.int .i64 0) 1 8 Tryz.underlying52 Tryz.underlying3 hi hz0 hz1 hz2 rfl (by decide) n h0 rfl rfl (by omega) (by omega) ?_;intro cap w1 hown HB hcap hcm);go_ret;exact⟨_,rfl,hown,by(with_reducible repeat first|exact Below.refl _ _|refine zc ?_ _|refine zd ?_|refine bset' ?_ (by omega) _|refine zb ?_ (by assumption))⟩
theorem zp1(n:Nat)(w:World)(hn:n≤1000000):Calls Tryz.prog 155 #[.slice none 0 0,.int .i64 n] w fun e w'=>∃v,e=.returned v∧w'.ownsRow w.heap.size 3 1 v 0 []∧Below w.heap.size w w':=by
 rcases Nat.eq_zero_or_pos n with rfl|h
 ·exact(znD w).mono fun e w' ⟨he,hb⟩=>⟨_,he,World.ownsRow_nil _ _ _ _,hb⟩
 ·exact zp3 n w h hn
theorem zeu{α:Type}(L:List α)(o:Nat):splice L o []=L:=by simp[splice]
theorem zfl{P:Program}(w:World)(dT sT ty elem:TypeId)(k:Nat)(dp sp:Option Addr)(dLen dCap sLen sCap:Nat)(g off:Nat)(cur:List Value)(t:TypeId)(cs:List Value)
  (hu:P.underlying dT=some (.slice elem)) (hs:(P.info? elem).map (·.size)=some k)
  (hg:w.heap[g]?=some (.cells cur.toArray t (0,0))) (hn:cs.length=Nat.min sLen dLen*k)
  (hpos:0<cs.length→dp=some ⟨g,off,none⟩∧∃ad,sp=some ad∧∀j v,cs[j]?=some v→w.cell? (ad.add j)=some v)
  (hfit:off+cs.length≤cur.length) (h1:∀v∈cs,v.oneCell'=true) :
  ∃w',(Builtin.copy_ #[dT,sT] ty #[.slice dp dLen dCap,.slice sp sLen sCap]).run P w=.ok (goInt (Nat.min sLen dLen)) w'∧w'.heap[g]?=some (.cells (splice cur off cs).toArray t (0,0))∧(∀B,B≤g→Below B w w')∧∀k,k ≠ g→w'.heap[k]?=w.heap[k]?:=by
 obtain⟨i,hq,hi⟩:∃i,P.info? elem=some i∧i.size=k:=by
  cases hq:P.info? elem with
  |none=>simp[hq] at hs
  |some i=>exact⟨i,rfl,by simpa [hq] using hs⟩
 by_cases h0:cs.length=0
 ·obtain rfl:cs=[]:=List.eq_nil_of_length_eq_zero h0;refine⟨w,?_,by rw[zeu];exact hg,fun B _=>Below.refl _ _,fun _ _=>rfl⟩;have hm:Nat.min sLen dLen*k=0:=by simpa using hn.symm
  have hl:∀a,(loadCells a 0).run P w=.ok #[] w:=fun a=>by simpa using run_loadCells_list (P:=P) w a [] (by simp)
  cases dp<;>cases sp<;>simp[Builtin.copy_,run_underlying hu,Builtin.lenOf,Builtin.firstCells,sizeOf,typeInfo,hq,hi,hm,hl,storeCells]
 ·obtain⟨rfl,ad,rfl,hsrc⟩:=hpos (by omega);have hl:=run_loadCells_list (P:=P) w ad cs hsrc;have hst:=run_storeCells_at P g off t cs 0 cur.toArray w hg (by simpa using hfit) h1;refine⟨_,?_,setRow_heap w g _ _ t _ hg,fun B hB=>below_setRow (Below.refl _ _) hB _,fun k hk=>setRow_other w g k _ hk⟩
  simp[Builtin.copy_,run_underlying hu,Builtin.lenOf,Builtin.firstCells,sizeOf,typeInfo,hq,hi,←hn,hl,hst,splice]
theorem zgv{P:Program}{ops:Array Oper}{op:Oper}{a:Act}{w:World}{K:Act→World→Prop}{Q:Exit→Act→World→Prop}{E:Prop}(hgd:op.guard=none)(d s:Operand)(dT sT:TypeId)
  (ho:op.op=.call { callee:=.builtin .copy,args:=#[d,s],argTypes:=#[dT,sT] }) (elem:TypeId) (k:Nat) (hu:P.underlying dT=some (.slice elem)) (hs:(P.info? elem).map (·.size)=some k)
  (dp sp:Option Addr) (dLen dCap sLen sCap:Nat) (hd:a.eval d=.slice dp dLen dCap) (hsv:a.eval s=.slice sp sLen sCap)
  (g off:Nat) (cur:List Value) (t:TypeId) (cs:List Value) (hg:w.heap[g]?=some (.cells cur.toArray t (0,0))) (hn:cs.length=Nat.min sLen dLen*k)
  (hpos:0<cs.length→dp=some ⟨g,off,none⟩∧∃ad,sp=some ad∧∀j v,cs[j]?=some v→w.cell? (ad.add j)=some v)
  (hfit:off+cs.length≤cur.length) (h1:∀v∈cs,v.oneCell'=true) (B:Nat) (hBg:B≤g)
  (h:∀w' n,Hid (w'.heap[g]?=some (.cells (splice cur off cs).toArray t (0,0)))→Below B w w'→Hid (∀k,k ≠ g→w'.heap[k]?=w.heap[k]?)→K (a.put op.dst (goInt n)) w') :
  if Region.wanted op (yielded ops a.tmps)=true then Oper.wp P op a w K Q else E:=by
 have hw:Region.wanted op (yielded ops a.tmps)=true:=by simp[Region.wanted,hgd]
 rw[if_pos hw];obtain⟨w',hrun,hrow,hb,hot⟩:=zfl (P:=P) w dT sT op.type elem k dp sp dLen dCap sLen sCap g off cur t cs hu hs hg hn hpos hfit h1;unfold Oper.wp
 simp[execOp,ho,resolve,invoke,builtin,hd,hsv,hrun,Result.andThen]
 exact h w' _ hrow (hb B hBg) hot
theorem zkg{P:Program}(w:World)(t ty e:TypeId)(k:Nat)(g n cap:Nat)(sp:Option Addr)(m c:Nat)(cur:List Value)(tr:TypeId)(cs:List Value)
  (hu:P.underlying t=some (.slice e)) (hs:(P.info? e).map (·.size)=some k) (hg:w.heap[g]?=some (.cells cur.toArray tr (0,0))) (hn:cs.length=m*k) (hroom:n+m≤cap)
  (hpos:0<cs.length→∃ad,sp=some ad∧∀j v,cs[j]?=some v→w.cell? (ad.add j)=some v)
  (hfit:n*k+cs.length≤cur.length) (h1:∀v∈cs,v.oneCell'=true) :
  ∃w',(Builtin.append_ #[t,t] ty #[.slice (some ⟨g,0,none⟩) n cap,.slice sp m c]).run P w=.ok (.slice (some ⟨g,0,none⟩) (n+m) cap) w'∧w'.heap[g]?=some (.cells (splice cur (n*k) cs).toArray tr (0,0))∧∀B,B≤g→Below B w w':=by
 obtain⟨i,hq,hi⟩:∃i,P.info? e=some i∧i.size=k:=by
  cases hq:P.info? e with
  |none=>simp[hq] at hs
  |some i=>exact⟨i,rfl,by simpa [hq] using hs⟩
 have hadd:(Addr.add ⟨g,0,none⟩ (n*k))=⟨g,n*k,none⟩:=by
  unfold Addr.add;split
  ·rename_i h;rw[h]
  ·simp
 by_cases h0:cs.length=0
 ·obtain rfl:cs=[]:=List.eq_nil_of_length_eq_zero h0;refine⟨w,?_,by rw[zeu];exact hg,fun B _=>Below.refl _ _⟩;have hm:m*k=0:=by simpa using hn.symm
  have hl:∀a,(loadCells a 0).run P w=.ok #[] w:=fun a=>by simpa using run_loadCells_list (P:=P) w a [] (by simp)
  cases sp<;>simp[Builtin.append_,run_underlying hu,Builtin.lenOf,Builtin.firstCells,sizeOf,typeInfo,hq,hi,hm,hl,hroom,storeCells]
 ·obtain⟨ad,rfl,hsrc⟩:=hpos (by omega);have hl:=run_loadCells_list (P:=P) w ad cs hsrc;have hst:=run_storeCells_at P g (n*k) tr cs 0 cur.toArray w hg (by simpa using hfit) h1;refine⟨_,?_,setRow_heap w g _ _ tr _ hg,fun B hB=>below_setRow (Below.refl _ _) hB _⟩
  simp[Builtin.append_,run_underlying hu,Builtin.lenOf,Builtin.firstCells,sizeOf,typeInfo,hq,hi,←hn,hl,hroom,hadd,hst,splice]
theorem zfx{P:Program}{ops:Array Oper}{op:Oper}{a:Act}{w:World}{K:Act→World→Prop}{Q:Exit→Act→World→Prop}{E:Prop}(hgd:op.guard=none)(s x:Operand)(t:TypeId)
  (ho:op.op=.call { callee:=.builtin .append,args:=#[s,x],argTypes:=#[t,t] }) (e:TypeId) (k:Nat) (hu:P.underlying t=some (.slice e)) (hs:(P.info? e).map (·.size)=some k)
  (g n cap:Nat) (sp:Option Addr) (m c:Nat) (hd:a.eval s=.slice (some ⟨g,0,none⟩) n cap) (hsv:a.eval x=.slice sp m c)
  (cur:List Value) (tr:TypeId) (cs:List Value) (hg:w.heap[g]?=some (.cells cur.toArray tr (0,0))) (hn:cs.length=m*k) (hroom:n+m≤cap)
  (hpos:0<cs.length→∃ad,sp=some ad∧∀j v,cs[j]?=some v→w.cell? (ad.add j)=some v)
  (hfit:n*k+cs.length≤cur.length) (h1:∀v∈cs,v.oneCell'=true) (B:Nat) (hBg:B≤g)
  (h:∀w',Hid (w'.heap[g]?=some (.cells (splice cur (n*k) cs).toArray tr (0,0)))→Below B w w'→K (a.put op.dst (.slice (some ⟨g,0,none⟩) (n+m) cap)) w') :
  if Region.wanted op (yielded ops a.tmps)=true then Oper.wp P op a w K Q else E:=by
 have hw:Region.wanted op (yielded ops a.tmps)=true:=by simp[Region.wanted,hgd]
 rw[if_pos hw];obtain⟨w',hrun,hrow,hb⟩:=zkg (P:=P) w t op.type e k g n cap sp m c cur tr cs hu hs hg hn hroom hpos hfit h1;unfold Oper.wp
 simp[execOp,ho,resolve,invoke,builtin,hd,hsv,hrun,Result.andThen]
 exact h w' hrow (hb B hBg)
theorem zgz{P:Program}(w:World)(t e ty:TypeId)(z:Value)(k:Nat)(hu:P.underlying t=some (.slice e))(hv:∀w,(zeroValue e).run P w=.ok z w)(hz:z.cells.size=k)(hz1:∀u∈z.cells.toList,u.oneCell'=true)
  (g o n c:Nat) (cur:List Value) (tr:TypeId) (hg:w.heap[g]?=some (.cells cur.toArray tr (0,0))) (hn:0<n) (hfit:o+n*k≤cur.length) (hk:0<k) :
  ∃w',(Builtin.clear_ #[t] ty #[.slice (some ⟨g,o,none⟩) n c]).run P w=.ok (.tuple #[]) w'∧w'.heap[g]?=some (.cells (splice cur o (Builtin.zeroCells z.cells n).toList).toArray tr (0,0))∧∀B,B≤g→Below B w w':=by
 have hlen:(Builtin.zeroCells z.cells n).toList.length=n*k:=by simp[Builtin.zeroCells,hz]
 have h1:∀v∈(Builtin.zeroCells z.cells n).toList,v.oneCell'=true:=by
  intro v hv;simp only[Builtin.zeroCells,Array.toList_map,List.mem_map] at hv;obtain⟨i,_,rfl⟩:=hv;have hi:i % z.cells.size<z.cells.size:=Nat.mod_lt _ (by omega);rw[getElem!_pos z.cells _ hi];exact hz1 _ (by simp)
 have hst:=run_storeCells_at P g o tr (Builtin.zeroCells z.cells n).toList 0 cur.toArray w hg (by simp only[Nat.add_zero,List.size_toArray];omega) h1;refine⟨_,?_,setRow_heap w g _ _ tr _ hg,fun B hB=>below_setRow (Below.refl _ _) hB _⟩;obtain⟨m,rfl⟩:∃m,n=m+1:=⟨n-1,by omega⟩
 simp[Builtin.clear_,run_underlying hu,hv,hst,splice]
def zU(w:World)(a:Option Addr)(xs:List ByteArray):Prop :=
 xs=[]∨∃b o,a=some ⟨b,o,none⟩∧∀i,i<xs.length→w.cell? ⟨b,o+i,none⟩=some (.string (xs.getD i ByteArray.empty))
def zay(w:World)(a:Option Addr)(xs:List Int):Prop :=
 xs=[]∨∃b o,a=some ⟨b,o,none⟩∧∀i,i<xs.length→w.cell? ⟨b,o+i,none⟩=some (.int .i64 (xs.getD i 0))
theorem zg{w:World}{b o:Nat}{v:Value}(h:w.cell? ⟨b,o,none⟩=some v):b<w.heap.size:=by
 rcases Nat.lt_or_ge b w.heap.size with h'|h'
 ·exact h'
 ·simp[World.cell?,Array.getElem?_eq_none h'] at h
theorem cell_later'{w w':World}{b o:Nat}{v:Value}(hb:Below w.heap.size w w')(h:w.cell? ⟨b,o,none⟩=some v):w'.cell? ⟨b,o,none⟩=some v:=by
 rw[hb.cell (p:=⟨b,o,none⟩) (zg h)];exact h
theorem zao{w:World}{b o:Nat}{v:Value}(h:w.cell? ⟨b,o,none⟩=some v)(x:Obj):(w.alloc x).cell? ⟨b,o,none⟩=some v:=by
 rw[World.cell?_alloc_lt w x _ (zg h)];exact h
theorem zU.later{w w':World}{a:Option Addr}{xs:List ByteArray}(h:zU w a xs)(hb:Below w.heap.size w w'):zU w' a xs:=by
 rcases h with h|⟨b,o,ha,hc⟩
 ·exact Or.inl h
 ·exact Or.inr ⟨b,o,ha,fun i hi=>cell_later' hb (hc i hi)⟩
theorem zay.later{w w':World}{a:Option Addr}{xs:List Int}(h:zay w a xs)(hb:Below w.heap.size w w'):zay w' a xs:=by
 rcases h with h|⟨b,o,ha,hc⟩
 ·exact Or.inl h
 ·exact Or.inr ⟨b,o,ha,fun i hi=>cell_later' hb (hc i hi)⟩
structure Rq where
 wr:Bool
 f:Int
 m:Int
 da:Option Addr
 dc:Nat
 data:List ByteArray
 ta:Option Addr
 tc:Nat
 tags:List Int
 born:Int
def Rq.cell(r:Rq):Nat→Value
 |0=>.bool r.wr
 |1=>.int .i64 r.f
 |2=>.int .i64 r.m
 |3=>.slice r.da r.data.length r.dc
 |4=>.slice r.ta r.tags.length r.tc
 |_=>.int .i64 r.born
abbrev Rq.val(r:Rq):Value:=.agg #[.bool r.wr,.int .i64 r.f,.int .i64 r.m,.slice r.da r.data.length r.dc,.slice r.ta r.tags.length r.tc,.int .i64 r.born]
structure Rq.At(r:Rq)(w:World):Prop where
 data:zU w r.da r.data
 tags:zay w r.ta r.tags
 dl:r.data.length≤9223372036854775807
 tl:r.tags.length≤9223372036854775807
 f:zaj r.f
 m:zaj r.m
 born:zaj r.born
 dn:r.da=none→r.dc=0
 tn:r.ta=none→r.tc=0
theorem Rq.At.later{r:Rq}{w w':World}(h:r.At w)(hb:Below w.heap.size w w'):r.At w' :=
 ⟨h.data.later hb,h.tags.later hb,h.dl,h.tl,h.f,h.m,h.born,h.dn,h.tn⟩
def zs(w:World)(a:Option Addr)(l:List Rq):Prop :=
 (l=[]∨∃b o,a=some ⟨b,o,none⟩∧∀i (h:i<l.length) j,j<6→w.cell? ⟨b,o+i*6+j,none⟩=some (l[i].cell j))∧(∀r∈l,r.At w)∧l.length≤9223372036854775807
theorem zs.later{w w':World}{a:Option Addr}{l:List Rq}(h:zs w a l)(hb:Below w.heap.size w w'):zs w' a l:=by
 obtain⟨h1,h2,h3⟩:=h;refine⟨?_,fun r hr=>(h2 r hr).later hb,h3⟩
 rcases h1 with h|⟨b,o,ha,hc⟩
 ·exact Or.inl h
 ·exact Or.inr ⟨b,o,ha,fun i hi j hj=>cell_later' hb (hc i hi j hj)⟩
theorem zlq{α:Type}{p:α→Bool}{l:List α}{k:Nat}(h:k<l.length)(h1:(l.take k).all p=true)(h2:p l[k]=true):(l.take (k+1)).all p=true:=by
 rw[List.take_succ_eq_append_getElem h,List.all_append,h1];simp[h2]
theorem zhU{α:Type}{p:α→Bool}{l:List α}{k:Nat}(h:k<l.length)(hp:p l[k]=false):l.all p=false:=by
 rw[List.all_eq_false];exact⟨l[k],by simp,by rw[hp];exact Bool.false_ne_true⟩
theorem zna{α:Type}{p:α→Bool}{l:List α}{k:Nat}(h:l.length≤k)(h1:(l.take k).all p=true):l.all p=true:=by
 rwa [List.take_of_length_le h] at h1
theorem zs.cells{w:World}{b o:Nat}{l:List Rq}(h:zs w (some ⟨b,o,none⟩) l){i:Nat}(hi:i<l.length) :
  w.cell? ⟨b,o+i*6,none⟩=some (.bool l[i].wr)∧w.cell? ⟨b,o+i*6+1,none⟩=some (.int .i64 l[i].f)∧w.cell? ⟨b,o+i*6+2,none⟩=some (.int .i64 l[i].m) ∧
   w.cell? ⟨b,o+i*6+3,none⟩=some (.slice l[i].da l[i].data.length l[i].dc)∧w.cell? ⟨b,o+i*6+4,none⟩=some (.slice l[i].ta l[i].tags.length l[i].tc)∧w.cell? ⟨b,o+i*6+5,none⟩=some (.int .i64 l[i].born):=by
 rcases h.1 with rfl|⟨b',o',ha,hc⟩
 ·exact absurd hi (Nat.not_lt_zero _)
 ·simp only[Option.some.injEq,Addr.mk.injEq,and_true] at ha;obtain⟨rfl,rfl⟩:=ha;exact⟨hc i hi 0 (by omega),hc i hi 1 (by omega),hc i hi 2 (by omega),hc i hi 3 (by omega),hc i hi 4 (by omega),hc i hi 5 (by omega)⟩
theorem zs.form{w:World}{a:Option Addr}{l:List Rq}(h:zs w a l):l=[]∨∃b o,a=some ⟨b,o,none⟩:=by
 rcases h.1 with h|⟨b,o,ha,_⟩
 ·exact Or.inl h
 ·exact Or.inr ⟨b,o,ha⟩
structure zo(F:Nat→Prop)(w w':World):Prop where
 os:w'.os=w.os
 tape:w'.tape=w.tape
 output:w'.output=w.output
 size:w.heap.size≤w'.heap.size
 block:∀k,k<w.heap.size→¬F k→w'.heap[k]?=w.heap[k]?
theorem zo.refl(F:Nat→Prop)(w:World):zo F w w:=⟨rfl,rfl,rfl,Nat.le_refl _,fun _ _ _=>rfl⟩
theorem zo.trans{F F':Nat→Prop}{a b c:World}(h:zo F a b)(k:zo F' b c)(hF:∀i,F' i→F i∨a.heap.size≤i):zo F a c :=
 ⟨k.os.trans h.os,k.tape.trans h.tape,k.output.trans h.output,Nat.le_trans h.size k.size,fun i hi hn =>
  (k.block i (Nat.lt_of_lt_of_le hi h.size) (fun e=>(hF i e).elim hn (fun h'=>by omega))).trans (h.block i hi hn)⟩
theorem zo.mono{F F':Nat→Prop}{a b:World}(h:zo F a b)(hF:∀i,F i→F' i):zo F' a b :=
 ⟨h.os,h.tape,h.output,h.size,fun i hi hn=>h.block i hi (fun e=>hn (hF i e))⟩
theorem zo.of_below{F:Nat→Prop}{a b:World}(h:Below a.heap.size a b):zo F a b:=⟨h.os,h.tape,h.output,h.size,fun i hi _=>h.block i hi⟩
theorem zo.below{F:Nat→Prop}{a b:World}{B:Nat}(h:zo F a b)(hB:B≤a.heap.size)(hF:∀i,F i→B≤i):Below B a b :=
 ⟨h.os,h.tape,h.output,h.size,fun i hi=>h.block i (by omega) (fun e=>by have:=hF i e;omega)⟩
theorem zo.grown{F:Nat→Prop}{a b c:World}{row:Option Nat}(h:zo F a b)(hg:b.grownBy c row)(hr:∀k,row=some k→F k∨a.heap.size≤k):zo F a c :=
 h.trans (F':=fun i=>row=some i) ⟨hg.os,hg.tape,hg.output,hg.size,fun k hk hn=>hg.block k hk (fun e=>hn e.symm)⟩ (fun i e=>hr i e)
theorem zo.alloc{F:Nat→Prop}{a b:World}(h:zo F a b)(o:Obj):zo F a (b.alloc o) :=
 h.trans (F':=fun _=>False) ⟨rfl,rfl,rfl,by simp,fun k hk _=>Below.heap_alloc _ _ _ hk⟩ (fun _ e=>e.elim)
theorem zo.drew{F:Nat→Prop}{a b:World}(h:zo F a b):zo F a b.drew:=⟨h.os,h.tape,h.output,h.size,h.block⟩
theorem zo.setCell{F:Nat→Prop}{a b:World}(h:zo F a b)(p:Addr)(hp:F p.block∨a.heap.size≤p.block)(u:Value):zo F a (b.setCell p u) :=
 h.trans (F':=fun i=>i=p.block) ⟨rfl,rfl,rfl,by simp[World.setCell],fun k _ hn=>Below.heap_setCell _ _ _ _ hn⟩ (fun i e=>by subst e;exact hp)
theorem zo.later{F:Nat→Prop}{a b c:World}(h:zo F a b)(k:Below b.heap.size b c):zo F a c:=h.trans (F':=fun _=>False) (zo.of_below k) (fun _ e=>e.elim)
theorem zo.cell{F:Nat→Prop}{a b:World}(h:zo F a b){p:Addr}(hp:p.block<a.heap.size)(hn:¬F p.block):b.cell? p=a.cell? p:=World.cell?_of_block (w:=a) (h.block p.block hp hn)
theorem zo.frozen{F:Nat→Prop}{a b:World}(h:zo F a b){p:Addr}(hp:p.block<a.heap.size)(hn:¬F p.block):b.frozen? p=a.frozen? p:=World.frozen?_of_block (w:=a) (h.block p.block hp hn)
theorem zK{w:World}{b:Nat}{cs:List Value}{T:TypeId}(h:w.heap[b]?=some (.cells cs.toArray T (0,0)))(j:Nat)(u:Value):(w.setCell ⟨b,j,none⟩ u).heap[b]?=some (.cells (cs.set j u).toArray T (0,0)):=by
 simp only[World.setCell,Array.getElem?_modify]
 simp[h]
theorem zb8{w:World}{b k:Nat}(j:Nat)(u:Value)(hk:k ≠ b):(w.setCell ⟨b,j,none⟩ u).heap[k]?=w.heap[k]?:=Below.heap_setCell _ _ _ _ hk
theorem zz{w:World}{b:Nat}{o:Obj}(h:w.heap[b]?=some o):b<w.heap.size:=by
 rcases Nat.lt_or_ge b w.heap.size with h'|h'
 ·exact h'
 ·rw[Array.getElem?_eq_none h'] at h;cases h
theorem zy{w:World}{b:Nat}{cs:List Value}{T:TypeId}(h:w.heap[b]?=some (.cells cs.toArray T (0,0)))(j:Nat):w.cell? ⟨b,j,none⟩=cs[j]?:=by simp[World.cell?,h]
theorem zac{w:World}{b:Nat}{cs:List Value}{T:TypeId}(h:w.heap[b]?=some (.cells cs.toArray T (0,0)))(j:Nat):w.frozen? ⟨b,j,none⟩=false:=by simp[World.frozen?,h]
theorem zcC(b:Nat)(T:TypeId):∀(vs:List Value) (o:Nat) (cs:List Value) (w:World),w.heap[b]?=some (.cells cs.toArray T (0,0))→o+vs.length≤cs.length→(w.setCells b o vs).heap[b]?=some (.cells (splice cs o vs).toArray T (0,0))
 |[],o,cs,w,h,_=>by rw[zeu];exact h
 |v::r,o,cs,w,h,hl=>by
  have hl':o+1+r.length≤(cs.set o v).length:=by simp at hl ⊢;omega
  have:=zcC b T r (o+1) (cs.set o v) _ (zK h o v) hl';rw[World.setCells,this]
  congr 3
  have ho:o<cs.length:=by simp at hl;omega
  simp only[splice];rw[List.set_eq_take_append_cons_drop,if_pos ho];have e:(cs.take o).length=o:=by rw[List.length_take];omega
  simp only[List.length_cons];rw[List.take_append,e,List.take_of_length_le (by omega:(cs.take o).length≤o+1),show o+1-o=1 by omega,List.take_succ_cons,List.take_zero,List.drop_append,e,List.drop_eq_nil_of_le (by omega:(cs.take o).length≤o+1+r.length),show o+1+r.length-o=r.length+1 by omega,List.drop_succ_cons,List.drop_drop]
  simp[Nat.add_comm,Nat.add_left_comm]
theorem zdc{F:Nat→Prop}{a:World}(b:Nat)(hb:F b∨a.heap.size≤b):∀(vs:List Value) (o:Nat) (w:World),zo F a w→zo F a (w.setCells b o vs)
 |[],_,_,h=>h
 |v::r,o,w,h=>by rw[World.setCells];exact zdc b hb r (o+1) _ (h.setCell _ hb v)
theorem zau{w w':World}{base e size n:Nat}{v:Value}{xs:List Value}(h:w.ownsRow base e size v n xs)(hk:∀g,v.ownBlock=some g→w'.heap[g]?=w.heap[g]?):w'.ownsRow base e size v n xs:=by
 refine⟨h.1,h.2.elim Or.inl ?_⟩;rintro⟨g,cap,cur,rfl,hg,hh,r⟩;exact Or.inr ⟨g,cap,cur,rfl,hg,by rw[hk g rfl];exact hh,r⟩
theorem zqV{P:Program}(w:World)(base:Nat)(t ty e:TypeId)(i:TypeInfo)(z:Value)(size bytes:Nat)(ht:P.underlying t=some (.slice e))(hi:P.info? e=some i)(hz:i.zero=some z)
  (hsize:i.size=size) (hby:i.bytes=bytes) (hzs:z.cells.size=size) (hsz:0<size)
  (v:Value) (n:Nat) (xs:List Value) (hown:w.ownsRow base e size v n xs)
  (a:Addr) (m c:Nat) (news:List Value) (hl:news.length=m*size) (hnews:∀j u,news[j]?=some u→w.cell? (a.add j)=some u) (h1:∀u∈news,u.oneCell'=true) (hm:0<m)
  (h63:n+m≤maxLen) (hbytes:(n+m)*bytes≤140737488355328) (hbase:base≤w.heap.size) :
  ∃v' w',(Builtin.append_ #[t,t] ty #[v,.slice (some a) m c]).run P w=.ok v' w'∧w'.ownsRow base e size v' (n+m) (xs++news)∧w.grownBy w' v.ownBlock∧(v'.ownBlock=v.ownBlock∨v'.ownBlock=some w.heap.size):=by
 obtain⟨v',w',hrun,r1,r2,r3⟩:=run_append_own (P:=P) w base t ty e i z size bytes ht hi hz hsize hby hzs hsz v n xs hown a m c news hl hnews h1 h63 hbytes hbase;refine⟨v',w',hrun,r1,r2,?_⟩;subst hsize;subst hby;have hsmall:n+m≤9223372036854775807:=by simp only[maxLen] at h63;omega
 rcases hown.2 with⟨rfl,rfl⟩|⟨g,cap,cur,rfl,hbg,hg,hnc,hcm,hcs,htake⟩
 ·right
  have hr:=run_append_nil (P:=P) w t ty e i z ht hi hz a m c news hl hnews (by omega) (by omega) (by have hb:=hbytes;simp only[Nat.zero_add] at hb;omega);rw[hr] at hrun;simp only[Result.ok.injEq] at hrun;rw[←hrun.1];rfl
 ·by_cases hroom:n+m≤cap
  ·left
   have hfit:n*i.size+news.length≤cur.size:=by rw[hl,hcs,←Nat.add_mul];exact Nat.mul_le_mul_right _ hroom
   have hr:=run_append_room (P:=P) w t ty e i ht hi g n cap cur hg a m c news hl hnews h1 hroom hfit;rw[hr] at hrun;simp only[Result.ok.injEq] at hrun;rw[←hrun.1];rfl
  ·right
   have holds:∀j u,xs[j]?=some u→w.cell? ((⟨g,0,none⟩:Addr).add j)=some u:=hown.cells (g:=g) rfl;have hr:=run_append_grow (P:=P) w t ty e i z ht hi hz ⟨g,0,none⟩ n cap xs hown.1 holds a m c news hl hnews (by omega) (by omega) (growslice_fits (by omega) hbytes);rw[hr] at hrun;simp only[Result.ok.injEq] at hrun;rw[←hrun.1];rfl
theorem ze9{P:Program}{ops:Array Oper}{o:Oper}{a:Act}{w:World}{K:Act→World→Prop}{Q:Exit→Act→World→Prop}{E:Prop}(hgd:o.guard=none)(s x:Operand)(t:TypeId)
  (hop:o.op=.call { callee:=.builtin .append,args:=#[s,x],argTypes:=#[t,t] }) (base:Nat) (e:TypeId) (i:TypeInfo) (z:Value) (size bytes:Nat) (ht:P.underlying t=some (.slice e)) (hi:P.info? e=some i) (hz:i.zero=some z)
  (hsize:i.size=size) (hby:i.bytes=bytes) (hzs:z.cells.size=size) (hsz:0<size)
  (v:Value) (n:Nat) (xs:List Value) (hs:a.eval s=v) (hown:w.ownsRow base e size v n xs)
  (ad:Addr) (m c:Nat) (news:List Value) (hx:a.eval x=.slice (some ad) m c) (hl:news.length=m*size) (hnews:∀j u,news[j]?=some u→w.cell? (ad.add j)=some u) (h1:∀u∈news,u.oneCell'=true) (hm:0<m)
  (h63:n+m≤maxLen) (hbytes:(n+m)*bytes≤140737488355328) (hbase:base≤w.heap.size)
  (h:∀v' w',w'.ownsRow base e size v' (n+m) (xs++news)→w.grownBy w' v.ownBlock→(v'.ownBlock=v.ownBlock∨v'.ownBlock=some w.heap.size)→K (a.put o.dst v') w') :
  if Region.wanted o (yielded ops a.tmps)=true then Oper.wp P o a w K Q else E:=by
 have hw:Region.wanted o (yielded ops a.tmps)=true:=by simp[Region.wanted,hgd]
 rw[if_pos hw];obtain⟨v',w',hrun,r1,r2,r3⟩:=zqV (P:=P) w base t o.type e i z size bytes ht hi hz hsize hby hzs hsz v n xs hown ad m c news hl hnews h1 hm h63 hbytes hbase;unfold Oper.wp
 simp[execOp,hop,resolve,invoke,builtin,hs,hx,hrun,Result.andThen]
 exact h v' w' r1 r2 r3
theorem zba{w:World}{base e size n:Nat}{v:Value}{xs:List Value}(h:w.ownsRow base e size v n xs):∃a c,v=.slice a n c∧(a=none→c=0)∧(∀ad,a=some ad→∃g,ad=⟨g,0,none⟩)∧c≤9223372036854775807∧n≤c:=by
 rcases h.2 with⟨rfl,rfl⟩|⟨g,cap,cur,rfl,hg,hh,hnc,hcm,_⟩
 ·exact⟨none,0,rfl,fun _=>rfl,by simp,by simp,by simp⟩
 ·exact⟨_,cap,rfl,by simp,fun ad e=>⟨g,by simpa using e.symm⟩,by unfold maxLen at hcm;omega,hnc⟩
def Rq.Off(F:Nat→Prop)(r:Rq):Prop:=(r.data ≠ []→∀a,r.da=some a→¬F a.block)∧(r.tags ≠ []→∀a,r.ta=some a→¬F a.block)
theorem za2{F:Nat→Prop}{w w':World}{a:Option Addr}{xs:List ByteArray}(h:zU w a xs)(hk:zo F w w')(hn:xs ≠ []→∀ad,a=some ad→¬F ad.block):zU w' a xs:=by
 rcases h with h|⟨b,o,ha,hc⟩
 ·exact Or.inl h
 ·by_cases he:xs=[]
  ·exact Or.inl he
  ·refine Or.inr ⟨b,o,ha,fun i hi=>?_⟩;rw[hk.cell (p:=⟨b,o+i,none⟩) (zg (hc i hi)) (hn he ⟨b,o,none⟩ ha)];exact hc i hi
theorem zge{F:Nat→Prop}{w w':World}{a:Option Addr}{xs:List Int}(h:zay w a xs)(hk:zo F w w')(hn:xs ≠ []→∀ad,a=some ad→¬F ad.block):zay w' a xs:=by
 rcases h with h|⟨b,o,ha,hc⟩
 ·exact Or.inl h
 ·by_cases he:xs=[]
  ·exact Or.inl he
  ·refine Or.inr ⟨b,o,ha,fun i hi=>?_⟩;rw[hk.cell (p:=⟨b,o+i,none⟩) (zg (hc i hi)) (hn he ⟨b,o,none⟩ ha)];exact hc i hi
theorem Rq.At.frame{F:Nat→Prop}{w w':World}{r:Rq}(h:r.At w)(ho:r.Off F)(hk:zo F w w'):r.At w' :=
 ⟨za2 h.data hk ho.1,zge h.tags hk ho.2,h.dl,h.tl,h.f,h.m,h.born,h.dn,h.tn⟩
theorem zfC{w:World}{a:Option Addr}{xs:List ByteArray}(h:zU w a xs)(he:xs ≠ []){ad:Addr}(ha:a=some ad):ad.block<w.heap.size:=by
 rcases h with h|⟨b,o,ha',hc⟩
 ·exact absurd h he
 ·rw[ha] at ha';simp only[Option.some.injEq] at ha';subst ha';have:0<xs.length:=List.length_pos_iff.2 he;exact zg (hc 0 this)
theorem zdp{w:World}{a:Option Addr}{xs:List Int}(h:zay w a xs)(he:xs ≠ []){ad:Addr}(ha:a=some ad):ad.block<w.heap.size:=by
 rcases h with h|⟨b,o,ha',hc⟩
 ·exact absurd h he
 ·rw[ha] at ha';simp only[Option.some.injEq] at ha';subst ha';have:0<xs.length:=List.length_pos_iff.2 he;exact zg (hc 0 this)
theorem Rq.Off.step{F F':Nat→Prop}{w:World}{r:Rq}(h:r.At w)(ho:r.Off F)(hF:∀k,F' k→F k∨w.heap.size≤k):r.Off F' :=
 ⟨fun he a ha hk=>(hF _ hk).elim (ho.1 he a ha) (fun h'=>by have:=zfC h.data he ha;omega),fun he a ha hk=>(hF _ hk).elim (ho.2 he a ha) (fun h'=>by have:=zdp h.tags he ha;omega)⟩
theorem zcF{w w':World}{b o:Nat}{v:Value}(hb:Below w.heap.size w w')(h:w.cell? ⟨b,o,none⟩=some v):w'.cell? ⟨b,o,none⟩=some v:=zas hb h
theorem zfe(g o:Nat)(a1 a2:Option Addr)(n1 n2 c1 c2:Nat)(xs1 xs2:List Value)(w:World)(h0:w.cell? ⟨g,o,none⟩=some (.slice a1 n1 c1))(h1:w.cell? ⟨g,o+1,none⟩=some (.slice a2 n2 c2))
  (r1:zaW w 6 a1 n1 c1 xs1) (r2:zaW w 6 a2 n2 c2 xs2) (b1:n1≤100000) (b2:n2≤100000) :
  Calls Tryz.prog 81 #[.slice (some ⟨g,o,none⟩) 2 2] w fun e w'=>∃v,e=.returned v∧w'.ownsRow w.heap.size 111 6 v (n1+n2) (xs1++xs2)∧Below w.heap.size w w':=by
 obtain⟨i,hi,hz0,hz1,hz2⟩:=zaL zdX;have hl0:=zcH h0;go_enter Tryz.func81,Tryz.ntmps81;go_wp2
 go_loopw[3,11] (fun sz ix wr=>w=wr∧((ix=.int .i64 0∧sz=.int .i64 0)∨(ix=.int .i64 1∧sz=.int .i64 (n1:Int))∨(ix=.int .i64 2∧sz=.int .i64 ((n1:Int)+(n2:Int))))) (fun _ ix _=>(2-intOf ix).toNat)
 case atStart=>exact⟨rfl,Or.inl ⟨rfl,rfl⟩⟩
 case round =>
  obtain⟨rfl,⟨rfl,rfl⟩|⟨rfl,rfl⟩|⟨rfl,rfl⟩⟩:=hrel
  ·go_wp2;go_roundw
   case rel=>simp
   case measure=>simp[intOf]
  ·go_wp2;go_roundw
   case rel=>simp
   case measure=>simp[intOf]
  ·go_wp2_with fail;rw[show((n1:Int)+(n2:Int))=((n1+n2:Nat):Int) by omega];refine(zpx (n1+n2) _ (by omega)).mono ?_;rintro e w1 ⟨v,rfl,hown,HB⟩;go_wp2_with fail
   go_loopw[6,27] (fun nv ix w2=>Below w.heap.size w w2∧((ix=.int .i64 0∧w2.ownsRow w.heap.size 111 6 nv 0 [])∨(ix=.int .i64 1∧w2.ownsRow w.heap.size 111 6 nv n1 xs1)∨(ix=.int .i64 2∧w2.ownsRow w.heap.size 111 6 nv (n1+n2) (xs1++xs2)))) (fun _ ix _=>(2-intOf ix).toNat)
   case atStart=>exact⟨HB,Or.inl ⟨rfl,hown⟩⟩
   case round =>
    clear HB hown;obtain⟨HB,⟨rfl,hown⟩|⟨rfl,hown⟩|⟨rfl,hown⟩⟩:=hrel
    ·have k0:=zcF HB h0;have q1:=r1.later HB;go_wp2_with(at_builtin;refine zq rfl _ _ 34 rfl w.heap.size 111 i (.agg #[.bool false,.int .i64 0,.int .i64 0,.slice none 0 0,.slice none 0 0,.int .i64 0]) 6 80 Tryz.underlying34 hi hz0 hz1 hz2 rfl (by decide) _ _ _ rfl hown a1 n1 c1 xs1 rfl q1 (by unfold maxLen;omega) (by omega) HB.size ?_;intro v' w3 hown' HB');go_roundw
     case rel=>exact⟨HB.trans HB',Or.inr (Or.inl ⟨rfl,by simpa using hown'⟩)⟩
     case measure=>simp[intOf]
    ·have k0:=zcF HB h1;have q1:=r2.later HB;go_wp2_with(at_builtin;refine zq rfl _ _ 34 rfl w.heap.size 111 i (.agg #[.bool false,.int .i64 0,.int .i64 0,.slice none 0 0,.slice none 0 0,.int .i64 0]) 6 80 Tryz.underlying34 hi hz0 hz1 hz2 rfl (by decide) _ _ _ rfl hown a2 n2 c2 xs2 rfl q1 (by unfold maxLen;omega) (by omega) HB.size ?_;intro v' w3 hown' HB');go_roundw
     case rel=>exact⟨HB.trans HB',Or.inr (Or.inr ⟨rfl,hown'⟩)⟩
     case measure=>simp[intOf]
    ·go_wp2;go_ret;exact⟨_,rfl,hown,HB⟩
theorem zmu(g o:Nat)(a1 a2:Option Addr)(n1 n2 c1 c2:Nat)(xs1 xs2:List Value)(w:World)(h0:w.cell? ⟨g,o,none⟩=some (.slice a1 n1 c1))(h1:w.cell? ⟨g,o+1,none⟩=some (.slice a2 n2 c2))
  (r1:zaW w 1 a1 n1 c1 xs1) (r2:zaW w 1 a2 n2 c2 xs2) (b1:n1≤100000) (b2:n2≤100000) :
  Calls Tryz.prog 142 #[.slice (some ⟨g,o,none⟩) 2 2] w fun e w'=>∃v,e=.returned v∧w'.ownsRow w.heap.size 9 1 v (n1+n2) (xs1++xs2)∧Below w.heap.size w w':=by
 obtain⟨i,hi,hz0,hz1,hz2⟩:=zaL zfc;have hl0:=zcH h0;go_enter Tryz.func142,Tryz.ntmps142;go_wp2
 go_loopw[3,11] (fun sz ix wr=>w=wr∧((ix=.int .i64 0∧sz=.int .i64 0)∨(ix=.int .i64 1∧sz=.int .i64 (n1:Int))∨(ix=.int .i64 2∧sz=.int .i64 ((n1:Int)+(n2:Int))))) (fun _ ix _=>(2-intOf ix).toNat)
 case atStart=>exact⟨rfl,Or.inl ⟨rfl,rfl⟩⟩
 case round =>
  obtain⟨rfl,⟨rfl,rfl⟩|⟨rfl,rfl⟩|⟨rfl,rfl⟩⟩:=hrel
  ·go_wp2;go_roundw
   case rel=>simp
   case measure=>simp[intOf]
  ·go_wp2;go_roundw
   case rel=>simp
   case measure=>simp[intOf]
  ·go_wp2_with fail;rw[show((n1:Int)+(n2:Int))=((n1+n2:Nat):Int) by omega];refine(zpS (n1+n2) _ (by omega)).mono ?_;rintro e w1 ⟨v,rfl,hown,HB⟩;go_wp2_with fail
   go_loopw[6,27] (fun nv ix w2=>Below w.heap.size w w2∧((ix=.int .i64 0∧w2.ownsRow w.heap.size 9 1 nv 0 [])∨(ix=.int .i64 1∧w2.ownsRow w.heap.size 9 1 nv n1 xs1)∨(ix=.int .i64 2∧w2.ownsRow w.heap.size 9 1 nv (n1+n2) (xs1++xs2)))) (fun _ ix _=>(2-intOf ix).toNat)
   case atStart=>exact⟨HB,Or.inl ⟨rfl,hown⟩⟩
   case round =>
    clear HB hown;obtain⟨HB,⟨rfl,hown⟩|⟨rfl,hown⟩|⟨rfl,hown⟩⟩:=hrel
    ·have k0:=zcF HB h0;have q1:=r1.later HB;go_wp2_with(at_builtin;refine zq rfl _ _ 109 rfl w.heap.size 9 i (.string ByteArray.empty) 1 16 Tryz.underlying109 hi hz0 hz1 hz2 rfl (by decide) _ _ _ rfl hown a1 n1 c1 xs1 rfl q1 (by unfold maxLen;omega) (by omega) HB.size ?_;intro v' w3 hown' HB');go_roundw
     case rel=>exact⟨HB.trans HB',Or.inr (Or.inl ⟨rfl,by simpa using hown'⟩)⟩
     case measure=>simp[intOf]
    ·have k0:=zcF HB h1;have q1:=r2.later HB;go_wp2_with(at_builtin;refine zq rfl _ _ 109 rfl w.heap.size 9 i (.string ByteArray.empty) 1 16 Tryz.underlying109 hi hz0 hz1 hz2 rfl (by decide) _ _ _ rfl hown a2 n2 c2 xs2 rfl q1 (by unfold maxLen;omega) (by omega) HB.size ?_;intro v' w3 hown' HB');go_roundw
     case rel=>exact⟨HB.trans HB',Or.inr (Or.inr ⟨rfl,hown'⟩)⟩
     case measure=>simp[intOf]
    ·go_wp2;go_ret;exact⟨_,rfl,hown,HB⟩
theorem zmA(g o:Nat)(a1 a2:Option Addr)(n1 n2 c1 c2:Nat)(xs1 xs2:List Value)(w:World)(h0:w.cell? ⟨g,o,none⟩=some (.slice a1 n1 c1))(h1:w.cell? ⟨g,o+1,none⟩=some (.slice a2 n2 c2))
  (r1:zaW w 1 a1 n1 c1 xs1) (r2:zaW w 1 a2 n2 c2 xs2) (b1:n1≤100000) (b2:n2≤100000) :
  Calls Tryz.prog 143 #[.slice (some ⟨g,o,none⟩) 2 2] w fun e w'=>∃v,e=.returned v∧w'.ownsRow w.heap.size 3 1 v (n1+n2) (xs1++xs2)∧Below w.heap.size w w':=by
 obtain⟨i,hi,hz0,hz1,hz2⟩:=zaL zf3;have hl0:=zcH h0;go_enter Tryz.func143,Tryz.ntmps143;go_wp2
 go_loopw[3,11] (fun sz ix wr=>w=wr∧((ix=.int .i64 0∧sz=.int .i64 0)∨(ix=.int .i64 1∧sz=.int .i64 (n1:Int))∨(ix=.int .i64 2∧sz=.int .i64 ((n1:Int)+(n2:Int))))) (fun _ ix _=>(2-intOf ix).toNat)
 case atStart=>exact⟨rfl,Or.inl ⟨rfl,rfl⟩⟩
 case round =>
  obtain⟨rfl,⟨rfl,rfl⟩|⟨rfl,rfl⟩|⟨rfl,rfl⟩⟩:=hrel
  ·go_wp2;go_roundw
   case rel=>simp
   case measure=>simp[intOf]
  ·go_wp2;go_roundw
   case rel=>simp
   case measure=>simp[intOf]
  ·go_wp2_with fail;rw[show((n1:Int)+(n2:Int))=((n1+n2:Nat):Int) by omega];refine(zp1 (n1+n2) _ (by omega)).mono ?_;rintro e w1 ⟨v,rfl,hown,HB⟩;go_wp2_with fail
   go_loopw[6,27] (fun nv ix w2=>Below w.heap.size w w2∧((ix=.int .i64 0∧w2.ownsRow w.heap.size 3 1 nv 0 [])∨(ix=.int .i64 1∧w2.ownsRow w.heap.size 3 1 nv n1 xs1)∨(ix=.int .i64 2∧w2.ownsRow w.heap.size 3 1 nv (n1+n2) (xs1++xs2)))) (fun _ ix _=>(2-intOf ix).toNat)
   case atStart=>exact⟨HB,Or.inl ⟨rfl,hown⟩⟩
   case round =>
    clear HB hown;obtain⟨HB,⟨rfl,hown⟩|⟨rfl,hown⟩|⟨rfl,hown⟩⟩:=hrel
    ·have k0:=zcF HB h0;have q1:=r1.later HB;go_wp2_with(at_builtin;refine zq rfl _ _ 52 rfl w.heap.size 3 i (.int .i64 0) 1 8 Tryz.underlying52 hi hz0 hz1 hz2 rfl (by decide) _ _ _ rfl hown a1 n1 c1 xs1 rfl q1 (by unfold maxLen;omega) (by omega) HB.size ?_;intro v' w3 hown' HB');go_roundw
     case rel=>exact⟨HB.trans HB',Or.inr (Or.inl ⟨rfl,by simpa using hown'⟩)⟩
     case measure=>simp[intOf]
    ·have k0:=zcF HB h1;have q1:=r2.later HB;go_wp2_with(at_builtin;refine zq rfl _ _ 52 rfl w.heap.size 3 i (.int .i64 0) 1 8 Tryz.underlying52 hi hz0 hz1 hz2 rfl (by decide) _ _ _ rfl hown a2 n2 c2 xs2 rfl q1 (by unfold maxLen;omega) (by omega) HB.size ?_;intro v' w3 hown' HB');go_roundw
     case rel=>exact⟨HB.trans HB',Or.inr (Or.inr ⟨rfl,hown'⟩)⟩
     case measure=>simp[intOf]
    ·go_wp2;go_ret;exact⟨_,rfl,hown,HB⟩
def zam(f m a:Int):Bool:=decide (f≤a)&&decide (0≤wrap64 (a-f))&&decide (wrap64 (a-f)<m)
def za1(f m a:Int):Bool:=decide (f≤a∧a<f+m)
def zej(f g:Int):Int:=if f<g then g else f
def ze4(f m g n:Int):Bool:=zam f m (zej f g)&&zam g n (zej f g)
def okB(f m n:Int):Bool:=decide (0≤f∧f<32∧1≤m∧m≤n∧m≤32-f)
def errB(b:Bool):Value:=if b then .nilIface else .iface 88 (.int .i64 1)
def zkK(b:Bool):Int:=if b then 0 else 1
theorem zeD(f m n a:Int)(h:okB f m n=true)(ha:a≤9223372036854775807):zam f m a=za1 f m a:=by
 simp only[okB,decide_eq_true_eq] at h;rw[Bool.eq_iff_iff];simp only[zam,za1,Bool.and_eq_true,decide_eq_true_eq]
 by_cases h1:f≤a
 ·have:wrap64 (a-f)=a-f:=by unfold wrap64;omega
  rw[this];omega
 ·omega
theorem zlI(f m g n:Int)(h:okB f m 32=true)(k:okB g n 32=true):ze4 f m g n=decide (f<g+n∧g<f+m):=by
 have h':=h;have k':=k;simp only[okB,decide_eq_true_eq] at h' k';have hk:zej f g≤9223372036854775807:=by unfold zej;split<;>omega
 unfold ze4;rw[zeD f m 32 _ h hk,zeD g n 32 _ k hk,Bool.eq_iff_iff];simp only[za1,Bool.and_eq_true,decide_eq_true_eq];unfold zej;split<;>omega
theorem zrm{f m a:Int}(h1:f≤a)(h2:0≤wrap64 (a-f)):decide (wrap64 (a-f)<m)=zam f m a:=by simp[zam,h1,h2]
theorem zrh{f m a:Int}(h2:wrap64 (a-f)<0):false=zam f m a:=by
 have:¬0≤wrap64 (a-f):=by omega
 simp[zam,this]
theorem zrs{f m a:Int}(h2:a<f):false=zam f m a:=by
 have:¬f≤a:=by omega
 simp[zam,this]
theorem zjh(f m a:Int)(w:World) :
  Calls Tryz.prog 85 #[.agg #[.int .i64 f,.int .i64 m],.int .i64 a] w fun e w'=>e=.returned (.bool (zam f m a))∧Below w.heap.size w w':=by
 go_enter Tryz.func85,Tryz.ntmps85;go_wp2
 all_goals
  go_ret;exact⟨zad (by first|exact zrm ‹_› ‹_›|exact zrh ‹_›|exact zrs ‹_›),zn _ _⟩
theorem zqm(f m g n:Int)(w:World) :
  Calls Tryz.prog 140 #[.agg #[.int .i64 f,.int .i64 m],.agg #[.int .i64 g,.int .i64 n]] w fun e w'=>e=.returned (.bool (wrap64 (f+m)==g))∧Below w.heap.size w w':=by
 go_enter Tryz.func140,Tryz.ntmps140;go_wp2;go_ret;exact⟨rfl,zbm _ _ _⟩
theorem zpT(f m g n:Int)(w:World)(b1 b2:Bool)(k:Int)(hk:zej f g=k)(h1:zam f m k=b1)(h2:zam g n k=b2) :
  Calls Tryz.prog 121 #[.agg #[.int .i64 f,.int .i64 m],.agg #[.int .i64 g,.int .i64 n]] w fun e w'=>e=.returned (.bool (b1&&b2))∧Below w.heap.size w w':=by
 by_cases hfg:f<g
 ·obtain rfl:g=k:=by simpa [zej,hfg] using hk
  clear hk
  cases b1
  all_goals
   go_enter Tryz.func121,Tryz.ntmps121;go_wp2_with(go_at_call 85;refine(zjh _ _ _ _).mono ?_;rintro e w1 ⟨rfl,hb⟩;(try clear hc hf hz);(first|replace HB:=zb HB hb|replace HB:=zb (zd HB) hb|have HB:=hb);clear hb;obtain⟨hc,hf,hz⟩:=zu HB);go_ret;exact⟨rfl,by(with_reducible repeat first|exact Below.refl _ _|refine zc ?_ _|refine zd ?_|refine bset' ?_ (by omega) _|refine zb ?_ (by assumption))⟩
 ·obtain rfl:f=k:=by simpa [zej,hfg] using hk
  clear hk
  cases b1
  all_goals
   go_enter Tryz.func121,Tryz.ntmps121;go_wp2_with(go_at_call 85;refine(zjh _ _ _ _).mono ?_;rintro e w1 ⟨rfl,hb⟩;(try clear hc hf hz);(first|replace HB:=zb HB hb|replace HB:=zb (zd HB) hb|have HB:=hb);clear hb;obtain⟨hc,hf,hz⟩:=zu HB);go_ret;exact⟨rfl,by(with_reducible repeat first|exact Below.refl _ _|refine zc ?_ _|refine zd ?_|refine bset' ?_ (by omega) _|refine zb ?_ (by assumption))⟩
theorem zrH(f m g n:Int)(w:World) :
  Calls Tryz.prog 121 #[.agg #[.int .i64 f,.int .i64 m],.agg #[.int .i64 g,.int .i64 n]] w fun e w'=>e=.returned (.bool (ze4 f m g n))∧Below w.heap.size w w' :=
 zpT f m g n w _ _ _ rfl rfl rfl
theorem ok_no{f m n:Int}(h:f<0∨31<f∨m<1∨n<m∨32-f<m):okB f m n=false:=by
 simp only[okB,decide_eq_false_iff_not];omega
theorem zpo{f m n:Int}(h1:0≤f)(h2:f<32)(h3:1≤m)(h4:m≤n)(h5:m≤32-f):okB f m n=true:=by
 simp only[okB,decide_eq_true_eq];omega
theorem zjX(f m n:Int)(w:World) :
  Calls Tryz.prog 136 #[.agg #[.int .i64 f,.int .i64 m],.int .i64 n] w fun e w'=>e=.returned (errB (okB f m n))∧Below w.heap.size w w':=by
 go_enter Tryz.func136,Tryz.ntmps136;go_wp2
 all_goals
  go_ret;refine⟨zr8 ?_,zn _ _⟩
  first|(rw[ok_no (by omega)];rfl)|(rw[zpo (by omega) (by omega) (by omega) (by omega) (by omega)];rfl)
theorem zec(f m n:Int)(w:World)(h:okB f m n=true) :
  Calls Tryz.prog 136 #[.agg #[.int .i64 f,.int .i64 m],.int .i64 n] w fun e w'=>e=.returned .nilIface∧Below w.heap.size w w':=by
 have:=zjX f m n w;rw[h] at this;exact this
theorem zqF(f m n:Int)(w:World)(h:okB f m n=false) :
  Calls Tryz.prog 136 #[.agg #[.int .i64 f,.int .i64 m],.int .i64 n] w fun e w'=>e=.returned (.iface 88 (.int .i64 1))∧Below w.heap.size w w':=by
 have:=zjX f m n w;rw[h] at this;exact this
theorem zjQ(f m n:Int)(w:World) :
  Calls Tryz.prog 144 #[.agg #[.int .i64 f,.int .i64 m],.int .i64 n] w fun e w'=>e=.returned (.int .i64 (zkK (okB f m n)))∧Below w.heap.size w w':=by
 go_enter Tryz.func144,Tryz.ntmps144;go_wp2
 all_goals
  go_ret;refine⟨zbs ?_,zn _ _⟩
  first|(rw[ok_no (by omega)];rfl)|(rw[zpo (by omega) (by omega) (by omega) (by omega) (by omega)];rfl)
theorem zsp(f m g n:Int)(w:World)(b:Bool)(h:ze4 f m g n=b) :
  Calls Tryz.prog 121 #[.agg #[.int .i64 f,.int .i64 m],.agg #[.int .i64 g,.int .i64 n]] w fun e w'=>e=.returned (.bool b)∧Below w.heap.size w w':=by
 subst h;exact zrH f m g n w
theorem zcG(f m g n:Int)(w:World)(b:Bool)(h:(wrap64 (f+m)==g)=b) :
  Calls Tryz.prog 140 #[.agg #[.int .i64 f,.int .i64 m],.agg #[.int .i64 g,.int .i64 n]] w fun e w'=>e=.returned (.bool b)∧Below w.heap.size w w':=by
 subst h;exact zqm f m g n w
theorem zdJ(f m a:Int)(w:World)(b:Bool)(h:zam f m a=b) :
  Calls Tryz.prog 85 #[.agg #[.int .i64 f,.int .i64 m],.int .i64 a] w fun e w'=>e=.returned (.bool b)∧Below w.heap.size w w':=by
 subst h;exact zjh f m a w
theorem zdr(f m n:Int)(w:World)(h:okB f m n=true) :
  Calls Tryz.prog 144 #[.agg #[.int .i64 f,.int .i64 m],.int .i64 n] w fun e w'=>e=.returned (.int .i64 0)∧Below w.heap.size w w':=by
 have:=zjQ f m n w;rw[h] at this;exact this
theorem zrK(f m n:Int)(w:World)(h:okB f m n=false) :
  Calls Tryz.prog 144 #[.agg #[.int .i64 f,.int .i64 m],.int .i64 n] w fun e w'=>e=.returned (.int .i64 1)∧Below w.heap.size w w':=by
 have:=zjQ f m n w;rw[h] at this;exact this
theorem zq6(f:Int)(w:World) :
  Calls Tryz.prog 17 #[.nilIface,.int .i64 f] w fun e w'=>e=.returned (.bool (f==0))∧Below w.heap.size w w':=by
 go_enter Tryz.func17,Tryz.ntmps17;go_wp2;go_ret;exact⟨rfl,Below.refl _ _⟩
theorem znx(n:Int)(w:World):Sem.run Tryz.prog (Instr.typeAssert (.iface 88 (.int .i64 n)) 44 88 true) w=.ok (.tuple #[.int .i64 n,.bool true]) w:=by kernel_rfl
theorem zrF(n f:Int)(w:World) :
  Calls Tryz.prog 17 #[.iface 88 (.int .i64 n),.int .i64 f] w fun e w'=>e=.returned (.bool (decide (0<f)&&(n==f)))∧Below w.heap.size w w':=by
 have ra:=znx n
 by_cases h:0<f
 ·go_enter Tryz.func17,Tryz.ntmps17;go_wp2;go_ret;exact⟨zad (by simp[h]),Below.refl _ _⟩
 ·go_enter Tryz.func17,Tryz.ntmps17;go_wp2;go_ret;exact⟨zad (by rw[decide_eq_false (by omega)];rfl),Below.refl _ _⟩
theorem zpN(f m a:Int)(w:World)(h0:0≤f)(h1:f<32)(h2:1≤m)(h3:m≤32-f) :
  Calls Tryz.prog 66 #[.agg #[.int .i64 f,.int .i64 m],.int .i64 a] w fun e w'=>e=.returned (.bool (za1 f m a))∧Below w.heap.size w w':=by
 go_enter Tryz.func66,Tryz.ntmps66;go_wp2
 go_loop [5] (fun i=>∃k:Int,0≤k∧k≤m∧i=.int .i64 k∧¬(f≤a∧a<f+k)) (fun i=>(m-intOf i).toNat)
 case atStart=>exact⟨0,by omega,by omega,rfl,by omega⟩
 case round =>
  obtain⟨k,hk0,hk1,rfl,hno⟩:=hrel
  by_cases hlt:k<m
  ·by_cases he:(f+k==a)=true
   ·go_wp2;go_ret;exact⟨zad (by simp only[beq_iff_eq] at he;symm;simp only[za1,decide_eq_true_eq];omega),zn _ _⟩
   ·have he':(f+k==a)=false:=by simpa using he
    clear he;go_wp2
    go_round
    case rel=>exact⟨k+1,by omega,by omega,by go_num,by simp only[beq_eq_false_iff_ne,ne_eq] at he';omega⟩
    case measure=>simp[intOf];omega
  ·go_wp2;go_ret;exact⟨zad (by symm;simp only[za1,decide_eq_false_iff_not];omega),zn _ _⟩
theorem zlb(f m n a:Int)(w:World)(h:okB f m n=true)(b:Bool)(hb:za1 f m a=b) :
  Calls Tryz.prog 66 #[.agg #[.int .i64 f,.int .i64 m],.int .i64 a] w fun e w'=>e=.returned (.bool b)∧Below w.heap.size w w':=by
 subst hb;simp only[okB,decide_eq_true_eq] at h;exact zpN f m a w (by omega) (by omega) (by omega) (by omega)
def zln(f m g n:Int):Bool:=decide (f<g+n∧g<f+m)
theorem zqj{f m g n:Int}(h:¬(f<g+n∧g<f+m)):zln f m g n=false:=decide_eq_false h
theorem zoL{f m g n:Int}(h:f<g+n∧g<f+m):zln f m g n=true:=decide_eq_true h
theorem zrV{f m g n j:Int}(h:∀t:Int,0≤t→t<j→¬((f≤t∧t<f+m)∧(g≤t∧t<g+n)))(hx:¬((f≤j∧j<f+m)∧(g≤j∧j<g+n))) :
  ∀t:Int,0≤t→t<j+1→¬((f≤t∧t<f+m)∧(g≤t∧t<g+n)):=by
 intro t t0 t1
 by_cases e:t=j
 ·subst e;exact hx
 ·exact h t t0 (by omega)
theorem zn0(f m g n:Int)(w:World)(h:okB f m 32=true)(k:okB g n 32=true) :
  Calls Tryz.prog 124 #[.agg #[.int .i64 f,.int .i64 m],.agg #[.int .i64 g,.int .i64 n]] w fun e w'=>e=.returned (.bool (zln f m g n))∧Below w.heap.size w w':=by
 go_enter Tryz.func124,Tryz.ntmps124;go_wp2;have h':=h;have k':=k;simp only[okB,decide_eq_true_eq] at h' k';obtain⟨f0,f1,m1,m2,m3⟩:=h';obtain⟨g0,g1,n1,n2,n3⟩:=k'
 go_loopw[5] (fun i wr=>∃j:Int,0≤j∧j≤32∧i=.int .i64 j∧(∀t:Int,0≤t→t<j→¬((f≤t∧t<f+m)∧(g≤t∧t<g+n)))∧Below ((w.alloc (Obj.cells #[Value.int IntKind.i64 f,Value.int IntKind.i64 m] 108)).alloc (Obj.cells #[Value.int IntKind.i64 g,Value.int IntKind.i64 n] 108)).heap.size ((w.alloc (Obj.cells #[Value.int IntKind.i64 f,Value.int IntKind.i64 m] 108)).alloc (Obj.cells #[Value.int IntKind.i64 g,Value.int IntKind.i64 n] 108)) wr) (fun i _=>(32-intOf i).toNat)
 case atStart=>exact⟨0,by omega,by omega,rfl,fun t _ _=>by omega,Below.refl _ _⟩
 case round =>
  obtain⟨j,hj0,hj1,rfl,hno,HB⟩:=hrel;have HN:Hid (∀t:Int,0≤t→t<j→¬((f≤t∧t<f+m)∧(g≤t∧t<g+n))):=hno;clear hno;obtain⟨hc,hf,hz⟩:=zu HB
  by_cases hlt:j<32
  ·cases hx:za1 f m j
   all_goals
    cases hy:za1 g n j
    all_goals
     go_wp2_with(go_at_call 66;refine(zlb _ _ 32 _ _ (by assumption) _ (by assumption)).mono ?_;rintro e w1 ⟨rfl,hb⟩;(try clear hc hf hz);(first|replace HB:=zb HB hb|replace HB:=zb (zd HB) hb|have HB:=hb);clear hb;obtain⟨hc,hf,hz⟩:=zu HB);simp only[za1,decide_eq_true_eq,decide_eq_false_iff_not] at hx hy
     first
      |(go_ret;exact⟨zad (zoL (by omega)).symm,by(with_reducible repeat first|exact Below.refl _ _|refine zc ?_ _|refine zd ?_|refine bset' ?_ (by omega) _|refine zb ?_ (by assumption))⟩)
      |(go_roundw;(case rel=>exact⟨j+1,by omega,by omega,by go_num,zrV HN.out (by omega),HB⟩);(case measure=>simp[intOf];omega))
  ·go_wp2;go_ret;have hno:=HN.out;have hd:¬(f<g+n∧g<f+m):=fun⟨a1,a2⟩=>hno (zej f g) (by unfold zej;split<;>omega) (by unfold zej;split<;>omega) (by unfold zej;split<;>omega)
   exact⟨zad (zqj hd).symm,by(with_reducible repeat first|exact Below.refl _ _|refine zc ?_ _|refine zd ?_|refine bset' ?_ (by omega) _|refine zb ?_ (by assumption))⟩
theorem zjm(f m g n:Int)(w:World)(h:okB f m 32=true)(k:okB g n 32=true)(b:Bool)(hb:ze4 f m g n=b) :
  Calls Tryz.prog 124 #[.agg #[.int .i64 f,.int .i64 m],.agg #[.int .i64 g,.int .i64 n]] w fun e w'=>e=.returned (.bool b)∧Below w.heap.size w w':=by
 subst hb;rw[zlI f m g n h k];exact zn0 f m g n w h k
end Go.Proofs.YtlhgjplipgandaaGreat
