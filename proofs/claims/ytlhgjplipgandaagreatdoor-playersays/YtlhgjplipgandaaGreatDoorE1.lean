/- Joined. -/
import Derived.Test.YtlhgjplipgandaaGreatDoorProg
import Derived.WalkKit
import Derived.WalkSpells
import Derived.WalkLawsBesides
import Derived.Deep.QuietTactic
import Derived.BigQuiet
import Derived.Lib.AppendZerosOnto
import Derived.Lib.SliceRun
import Derived.Maps.OwnSet
import Derived.Maps.OwnOps
import Derived.Maps.Views
set_option maxRecDepth 100000
set_option maxHeartbeats 8000000
set_option linter.unusedSimpArgs false
set_option linter.unusedSectionVars false
namespace Go.Proofs.YtlhgjplipgandaaGreatDoor
open Tryz
section
open Go.RowKit
def cY(n:Int):Prop:=-9223372036854775808<=n/\n<=9223372036854775807
structure Later(w:World) where
 v:World
 below:Below w.heap.size w v
theorem Later.cell{w:World}(p:Later w)(b o:Nat)(h:b<w.heap.size):p.v.cell? ⟨b,o,none⟩=w.cell? ⟨b,o,none⟩:=p.below.cell (p:=⟨b,o,none⟩) h
theorem Later.frozen{w:World}(p:Later w)(b o:Nat)(h:b<w.heap.size):p.v.frozen? ⟨b,o,none⟩=w.frozen? ⟨b,o,none⟩:=p.below.frozen (p:=⟨b,o,none⟩) h
theorem ay{P:Program}{id:Nat}{Q:Exit->Act->World->Prop}{a:Act}{W w:World}{l:List Oper}(HB:Below W.heap.size W w)(hm:P.follows .mixedOrders=true)(hB:Region.lexB .any l.toArray=true)
 (h:wpQuiet P l.toArray (fun w'=>∃p:Later W,w'=p.v) (fun a'=>∀w',(∃p:Later W,w'=p.v)->Q .normal a' w') l a):(Code.region id l.toArray true).wp P Q a w :=
 wp_region_quiet (C:=fun w'=>∃p:Later W,w'=p.v) hm hB ⟨⟨_,HB.drew⟩,rfl⟩ (by simpa using h)
theorem b8{P:Program}{f:FuncId}{args:Array Value}{w:World}{p:Later w}{v:Value}
 (h:Calls P f args p.v fun e w'=>e=.returned v/\Below p.v.heap.size p.v w'):Calls P f args p.v fun e eu=>e=.returned v/\∃q:Later w,eu=q.v :=
 h.mono fun _ eu ⟨he,hb⟩=>⟨he,⟨eu,p.below.trans (hb.mono p.below.size)⟩,rfl⟩
theorem bj{W w1:World}(hb:Below W.heap.size W w1):(∀b o,b<W.heap.size->w1.cell? ⟨b,o,none⟩=W.cell? ⟨b,o,none⟩)/\(∀b o,b<W.heap.size->w1.frozen? ⟨b,o,none⟩=W.frozen? ⟨b,o,none⟩)/\W.heap.size<=w1.heap.size :=
 ⟨fun b o h=>hb.cell (p:=⟨b,o,none⟩) h,fun b o h=>hb.frozen (p:=⟨b,o,none⟩) h,hb.size⟩
theorem aB(w:World)(o:Obj):Below w.heap.size w (w.alloc o):=(Below.refl _ _).alloc (Nat.le_refl _) o
theorem ja(w:World)(o o':Obj):Below w.heap.size w ((w.alloc o).alloc o'):=(aB w o).alloc (by simp) o'
theorem ab{W w1 w2:World}(h:Below W.heap.size W w1)(h2:Below w1.heap.size w1 w2):Below W.heap.size W w2:=h.trans (h2.mono h.size)
theorem ae{W w1:World}(h:Below W.heap.size W w1)(o:Obj):Below W.heap.size W (w1.alloc o):=h.alloc h.size o
theorem ah{W w1:World}(h:Below W.heap.size W w1):Below W.heap.size W w1.drew:=h.drew
theorem ai{W w1:World}(h:Below W.heap.size W w1){b o:Nat}(hp:W.heap.size<=b)(u:Value):Below W.heap.size W (w1.setCell ⟨b,o,none⟩ u):=h.setCell hp u
theorem dN{a b:Bool}(h:a=b):Ending.returned (.bool a)=.returned (.bool b):=by rw[h]
theorem jy{k:IntKind}{a b:Int}(h:a=b):Ending.returned (.int k a)=.returned (.int k b):=by rw[h]
theorem XY{a b:Value}(h:a=b):Ending.returned a=.returned b:=by rw[h]
theorem dP{α:Type}:(∀(l:List α) (i:Nat) (h:i<l.toArray.size),l.toArray[i]'h=l[i]'(by simpa using h))/\(∀(a:α) (l:List α) (i:Nat) (h:i+1<(a::l).length),(a::l)[i+1]'h=l[i]'(by simpa using h))/\(∀(a:α) (l:List α) (h:0<(a::l).length),(a::l)[0]'h=a)/\(∀(l:List α) (i:Nat) (a:α),l.toArray.setIfInBounds i a=(l.set i a).toArray)/\(∀(x:α) (l:List α) (a:α),(x::l).set 0 a=a::l)/\(∀(x:α) (l:List α) (n:Nat) (a:α),(x::l).set (n+1) a=x::l.set n a) :=
 ⟨fun _ _ _=>List.getElem_toArray _,fun _ _ _ _=>rfl,fun _ _ _=>rfl,fun _ _ _=>List.setIfInBounds_toArray _ _ _,fun _ _ _=>rfl,fun _ _ _ _=>rfl⟩
theorem bQ{n:Nat}{w w':World}(h:Below n w w':=by with_reducible repeat first|exact Below.refl _ _|refine ae ?_ _|refine ah ?_|refine ai ?_ (by omega) _|refine ab ?_ (by assumption)):Below n w w':=h
theorem wQ{P:Program}{id:Nat}{Q:Exit->Act->World->Prop}{a:Act}{W w:World}{l:List Oper}(h:wpQuiet P l.toArray (fun w'=>∃p:Later W,w'=p.v) (fun a'=>∀w',(∃p:Later W,w'=p.v)->Q .normal a' w') l a)(h1:Below W.heap.size W w:=by first|exact HB|exact ah HB|exact Below.refl _ _)(hm:P.follows .mixedOrders=true:=by kernel_rfl)(hB:Region.lexB .any l.toArray=true:=by kernel_rfl):(Code.region id l.toArray true).wp P Q a w:=ay h1 hm hB h
theorem oM{p:Prop}(h:p:=by omega):p:=h
theorem sM{p:Prop}(h:p:=by simp):p:=h
theorem gN{p:Prop}(h:p:=by go_num):p:=h
theorem kR{p:Prop}(h:p:=by kernel_rfl):p:=h
theorem dM{p:Prop}(h:p:=by decide):p:=h
theorem dK{p:Prop}(h:p:=by decide +kernel):p:=h
theorem aM{p:Prop}(h:p:=by assumption):p:=h
theorem cM{P:Program}{f:FuncId}{args:Array Value}{w:World}{v:Value}{R:World->Prop}{Q:Ending->World->Prop}(h:Calls P f args w fun e w'=>e=.returned v/\R w')(k:∀w',R w'->Q (.returned v) w'):Calls P f args w Q:=h.mono fun e w' x=>by rw[x.1];exact k w' x.2
abbrev i6(n:Int):Value:=.int .i64 n
abbrev bE:ByteArray:=ByteArray.empty
abbrev bL(w:World)(w':World):Prop:=Below w.heap.size w w'
attribute [go_sem] Later.cell Later.frozen
abbrev il{a b:Prop}:=@Or.inl a b
abbrev ir{a b:Prop}:=@Or.inr a b
abbrev rB(v:Value)(w:World):Ending->World->Prop:=fun e w'=>e=.returned v/\Below w.heap.size w w'
theorem qE{P:Program}{ops:Array Oper}{C:World->Prop}{Q:Act->World->Prop}{a:Act}{W:World}(h:∀p:Later W,Below W.heap.size W p.v->(∀b o,b<W.heap.size->p.v.cell? ⟨b,o,none⟩=W.cell? ⟨b,o,none⟩)->(∀b o,b<W.heap.size->p.v.frozen? ⟨b,o,none⟩=W.frozen? ⟨b,o,none⟩)->W.heap.size<=p.v.heap.size->Q a p.v):wpQuiet P ops C (fun a'=>∀w',(∃p:Later W,w'=p.v)->Q a' w') [] a:=wpQuiet_nil (fun _ ⟨p,e⟩=>by rw[e];exact h p p.below (bj p.below).1 (bj p.below).2.1 (bj p.below).2.2)
abbrev aQ:=@Go.RowKit.Below.refl
abbrev ab5:=@Nat.le_refl
abbrev ab6:=@if_neg
abbrev ab7:=@List.length_append
abbrev ab8:=@beq_eq_false_iff_ne
abbrev ab9:=@Go.World.size_alloc
abbrev aca:=@if_pos
abbrev acb:=@List.getElem?_eq_getElem
abbrev acd:=@List.eq_nil_of_length_eq_zero
abbrev ace:=@Option.some.injEq
abbrev acf:=@decide_eq_true
abbrev acg:=@Nat.not_lt_zero
abbrev ach:=@List.getElem_mem
abbrev aci:=@decide_eq_false
abbrev acj:=@List.mem_append_right
abbrev ack:=@Go.bodyPost_ret
abbrev acm:=@Go.World.cell?_setCell_same
abbrev acn:=@Bool.false_ne_true
abbrev aco:=@decide_eq_true_eq
abbrev acp:=@List.length_map
abbrev acq:=@Nat.zero_add
abbrev acr:=@List.getD_eq_getElem?_getD
abbrev acs:=@List.mem_append
abbrev acu:=@List.length_singleton
abbrev acv:=@Nat.le_trans
abbrev acw:=@List.mem_append_left
abbrev acx:=@Go.World.ownsRow_nil
abbrev acy:=@List.mem_of_mem_eraseIdx
abbrev acz:=@List.mem_singleton
abbrev acA:=@List.append_assoc
abbrev acB:=@List.length_take
abbrev acC:=@Go.IntKind.wrap_i64
abbrev acD:=@Nat.lt_of_lt_of_le
abbrev acE:=@Int.toNat_natCast
abbrev acF:=@List.nil_append
abbrev acG:=@List.take_succ_eq_append_getElem
abbrev acH:=@Go.WideMaps.keyOf_string_mk
abbrev acI:=@List.getElem_of_mem
abbrev acJ:=@List.take_of_length_le
abbrev acK:=@List.length_set
abbrev acL:=@Go.World.cell?_setCell_other
abbrev acM:=@List.take_append_of_le_length
abbrev acN:=@Go.Value.slice.injEq
abbrev acO:=@List.getElem?_append_left
abbrev acP:=@List.findIdx?_eq_some_iff_getElem
abbrev acQ:=@List.length_eraseIdx
abbrev acR:=@Option.some.inj
abbrev acS:=@bne_eq_false_iff_eq
abbrev acT:=@List.getElem?_append_right
abbrev acU:=@List.take_append_drop
abbrev acV:=@Go.Addr.mk.injEq
abbrev acW:=@List.mem_or_eq_of_mem_set
abbrev acX:=@List.mem_of_getElem?
abbrev acY:=@List.map_append
abbrev acZ:=@List.eraseIdx_eq_take_drop_succ
abbrev ac0:=@Nat.zero_le
abbrev ac1:=@List.getElem?_eq_some_iff
abbrev ac2:=@Bool.and_eq_true
abbrev ac3:=@List.mem_cons
abbrev ac4:=@decide_eq_false_iff_not
abbrev ac5:=@List.findIdx?_eq_none_iff
abbrev ac6:=@Go.RowKit.ownsRow_setCell_below
abbrev ac7:=@List.length_cons
abbrev ac8:=@Go.heap_alloc_new
abbrev ac9:=@List.drop_eq_nil_of_le
abbrev ada:=@Prod.mk.injEq
abbrev adb:=@List.size_toArray
abbrev ade:=@List.length_filter_le
abbrev adf:=@Go.Maps.string_keyed
abbrev adg:=@Go.World.cell?_alloc_mark
abbrev adh:=@and_true
abbrev adi:=@List.mem_cons_self
abbrev adj:=@List.getElem?_eq_none
abbrev adk:=@Array.length_toList
abbrev adl:=@Option.getD_some
abbrev adm:=@Go.WalkArith.wf_i64
abbrev adn:=@List.mem_map
abbrev ado:=@Bool.eq_iff_iff
abbrev adp:=@Nat.min_eq_left
abbrev adq:=@List.getElem?_map
abbrev adr:=@List.pairwise_append
abbrev ads:=@List.pairwise_iff_getElem
abbrev adt:=@beq_iff_eq
abbrev adu:=@Array.getElem?_eq_none
abbrev adv:=@Go.World.size_setCell
abbrev adw:=@Bool.false_eq_true
abbrev adx:=@List.mem_cons_of_mem
abbrev ady:=@Go.RowKit.Below.trans
abbrev adz:=@List.length_drop
abbrev adA:=@List.getElem_set_ne
abbrev adB:=@List.getElem_set_self
abbrev adC:=@List.set_append_right
abbrev adD:=@Nat.lt_or_ge
abbrev adE:=@Option.map_some
abbrev adF:=@Bool.or_eq_false_iff
abbrev adG:=@List.take_length
abbrev adH:=@List.length_pos_iff
abbrev adI:=@congrArg
abbrev adJ:=@Bool.true_and
abbrev adK:=@List.append_nil
abbrev adL:=@Go.ByteArray.toList_eq
abbrev adM:=@Array.toList_inj
abbrev adN:=@List.getElem_map
abbrev adO:=@Array.toArray_toList
abbrev adP:=@bne_iff_ne
abbrev adQ:=@true_and
abbrev adR:=@if_true
abbrev adS:=@List.any_eq_true
abbrev adT:=@List.drop_append
abbrev adU:=@if_false
abbrev adV:=@Int.le_refl
abbrev adW:=@List.countP_append
abbrev adX:=@List.filter_append
abbrev adY:=@List.set_set
abbrev adZ:=@Nat.add_sub_cancel
abbrev ad1:=@List.Perm.append_left
abbrev ad2:=@List.length_replicate
abbrev ad3:=@List.singleton_append
abbrev ad4:=@Bool.or_false
abbrev ad5:=@Int.tmod_eq_emod_of_nonneg
abbrev ad6:=@Go.plainElem_int
abbrev ad7:=@List.drop_eq_getElem_cons
abbrev ad8:=@List.take_take
abbrev ad9:=@Go.Maps.atKey_put_same
abbrev aea:=@List.ext_getElem
abbrev aeb:=@List.filter_eq_self
abbrev aec:=@List.toList_toArray
abbrev aed:=@List.filter_cons_of_neg
abbrev aee:=@List.filter_cons_of_pos
abbrev aef:=@List.pairwise_singleton
abbrev aeg:=@List.map_cons
abbrev aeh:=@Bool.or_eq_true
abbrev aei:=@Go.Calls.mono
abbrev aej:=@List.range_succ
abbrev aek:=@Option.map_none
abbrev ael:=@List.getElem_cons_drop
abbrev aem:=@List.mem_eraseIdx_iff_getElem
abbrev aen:=@Bool.not_eq_true'
abbrev aeo:=@List.any_eq_false
abbrev aep:=@List.map_nil
abbrev aeq:=@Go.World.frozen?_setCell
abbrev aer:=@List.set_append_left
abbrev aes:=@Go.World.cell?_alloc_lt
abbrev aet:=@Array.getElem?_eq_some_iff
abbrev aeu:=@List.getElem_append_right
abbrev aev:=@List.length_nil
abbrev aew:=@List.mem_filter
abbrev aex:=@Go.Maps.atKey_put_other
abbrev aey:=@Int.le_of_lt
abbrev aez:=@List.getElem?_take
abbrev aeA:=@Nat.eq_zero_or_pos
abbrev aeB:=@Nat.sub_self
abbrev aeC:=@Go.World.ownsMap_made
abbrev aeD:=@Go.Maps.keyOf_int_mk
abbrev aeE:=@List.drop_drop
abbrev aeF:=@List.take_zero
abbrev aeG:=@List.flatMap_cons
abbrev aeH:=@List.set_eq_take_append_cons_drop
abbrev aeI:=@Nat.lt_irrefl
abbrev aeK:=@List.countP_cons
abbrev aeL:=@List.not_mem_nil
abbrev aeM:=@Go.Lib.run_eql_slice_nil
abbrev aeN:=@Go.run_append_owned_none
abbrev aeO:=@Go.Exit.noGoto_ret
abbrev aeP:=@List.map_set
abbrev aeQ:=@List.mem_of_mem_take
abbrev aeR:=@Nat.le_of_lt
abbrev aeS:=@Go.World.size_drew
abbrev aeT:=@Go.wpList_mapUpdate_own
abbrev aeU:=@Int.toNat_of_nonneg
abbrev aeV:=@List.map_congr_left
abbrev aeW:=@List.map_eq_nil_iff
abbrev aeX:=@Bool.false_and
abbrev aeY:=@List.drop_zero
abbrev aeZ:=@List.getElem?_drop
abbrev ae0:=@List.pairwise_cons
abbrev ae1:=@Go.World.ownsRow_made
abbrev ae2:=@Go.run_string_add_sum
abbrev ae3:=@List.any_cons
abbrev ae4:=@List.getElem_take
abbrev ae5:=@List.pairwise_map
abbrev ae6:=@of_decide_eq_true
abbrev ae8:=@Bool.not_not
abbrev ae9:=@Decidable.em
abbrev afb:=@List.isEmpty_iff
abbrev afc:=@Nat.le_of_eq
abbrev afd:=@Prod.ext_iff
def gu(w:World)(size:Nat)(a:Option Addr)(n c:Nat)(xs:List Value):Prop :=
 xs.length=n*size/\(∀u∈xs,u.oneCell'=true)/\((a=none/\n=0/\c=0)\/∃ad:Addr,a=some ad/\∀j u,xs[j]?=some u->w.cell? (ad.add j)=some u)
theorem ot{w:World}{a:Addr}{v:Value}(h:w.cell? a=some v):a.block<w.heap.size:=by
 rcases adD a.block w.heap.size with h'|h'
 ·exact h'
 ·simp[World.cell?,adu h'] at h
theorem eb{w w':World}{a:Addr}{v:Value}(hb:bL w w')(h:w.cell? a=some v):w'.cell? a=some v:=by
 rw[hb.cell (ot h)];exact h
theorem gu.later{w w':World}{size n c:Nat}{a:Option Addr}{xs:List Value}(h:gu w size a n c xs)(hb:bL w w'):gu w' size a n c xs:=by
 obtain⟨h1,h2,h3⟩:=h;refine⟨h1,h2,?_⟩
 rcases h3 with h|⟨ad,ha,hc⟩
 ·exact il h
 ·exact ir ⟨ad,ha,fun j u hj=>eb hb (hc j u hj)⟩
theorem aO{P:Program}{ops:Array Oper}{rest:List Oper}{o:Oper}{a:Act}{Q:Exit->Act->World->Prop}{w:World}(tA:o.guard=none)(s x:Operand)(t:TypeId)
 (ho:o.op=.call { callee:=.builtin .append,args:=#[s,x],argTypes:=#[t,t] })
 (base:Nat) (e:TypeId) (i:TypeInfo) (z:Value) (size bytes:Nat) (ht:P.underlying t=some (.slice e)) (hi:P.info? e=some i) (hz:i.zero=some z)
 (rQ:i.size=size) (nY:i.bytes=bytes) (yj:z.cells.size=size) (jm:0<size)
 (v:Value) (n:Nat) (xs:List Value) (hs:a.eval s=v) (bp:w.ownsRow base e size v n xs)
 (ad:Option Addr) (m c:Nat) (news:List Value) (hx:a.eval x=.slice ad m c) (lO:gu w size ad m c news)
 (As:n+m<=maxLen) (nZ:(n+m)*bytes<=140737488355328) (j9:base<=w.heap.size)
 (h:∀v' w',w'.ownsRow base e size v' (n+m) (xs++news)->Below base w w'->wpList P ops Q rest (a.put o.dst v') w'):wpList P ops Q (o::rest) a w:=by
 obtain⟨h1,h2,h3⟩:=lO
 rcases h3 with⟨rfl,rfl,rfl⟩|⟨Qa,rfl,hc⟩
 ·obtain rfl:news=[]:=acd (by rw[h1];simp);have hr:=aeN (P:=P) w base t o.type e i size ht hi v n xs bp;refine wpList_plain tA fun K hK=>?_
  unfold Oper.wp execOp;simp only[ho,resolve,invoke,builtin,Sem.run_bind,Sem.run_pure,Result.andThen_ok,List.map_toArray,aeg,aep,hs,hx,hr];exact hK _ _ (h v w (by simpa using bp) (aQ _ _))
 ·refine wpList_append_own w tA s x t ho base e i z size bytes ht hi hz rQ nY yj jm v n xs hs bp Qa m c news hx h1 hc h2 As nZ j9 ?_;intro v' w' h4 h5 _;exact h v' w' h4 ((aQ _ _).grown h5 j9 fun k hk=>(bp.lt k hk).1)
theorem oy{P:Program}{ops:Array Oper}{rest:List Oper}{o:Oper}{a:Act}{Q:Exit->Act->World->Prop}{w:World}(tA:o.guard=none)(s x:Operand)(t tn:TypeId)
 (ho:o.op=.call { callee:=.builtin .append,args:=#[s,x],argTypes:=#[t,tn] })
 (e:TypeId) (i:TypeInfo) (z:Value) (size bytes:Nat) (ht:P.underlying t=some (.slice e)) (yi:P.underlying tn=some (.int .i64)) (hi:P.info? e=some i) (hz:i.zero=some z)
 (rQ:i.size=size) (nY:i.bytes=bytes) (yj:z.cells.size=size) (jm:0<size)
 (n:Nat) (h0:0<n) (hs:a.eval s=.slice none 0 0) (hx:a.eval x=i6 n) (As:n<=4611686018427387904) (nZ:n*bytes<=140737488355328)
 (h:∀cap w',w'.ownsRow w.heap.size e size (.slice (some ⟨w.heap.size,0,none⟩) 0 cap) 0 []->bL w w'->n<=cap->cap<=9223372036854775807->wpList P ops Q rest (a.put o.dst (.slice (some ⟨w.heap.size,0,none⟩) n cap)) w'):wpList P ops Q (o::rest) a w:=by
 have hr:=Lib.run_append_nil_zeros (P:=P) w t tn o.type e i z .i64 .i64 ht yi hi hz n h0 oM oM (by rw[nY];omega);refine wpList_plain tA fun K hK=>?_
 unfold Oper.wp execOp;simp only[ho,resolve,invoke,builtin,Sem.run_bind,Sem.run_pure,Result.andThen_ok,List.map_toArray,aeg,aep,hs,hx,hr];have mc:=grownCap_ge w n 0 e;have iA:grownCap w n 0 e<=maxLen:=grownCap_le_maxLen w n 0 e (by unfold maxLen;omega);refine hK _ _ (h _ _ ⟨sM,ir ⟨w.heap.size,_,_,rfl,ab5 _,ac8 w.drew _,ac0 _,iA,?_,sM⟩⟩ ?_ mc (by unfold maxLen at iA;omega))
 ·simp only[Array.size_append,size_zeroCells,yj,<-Nat.add_mul]
  congr 1
  omega
 ·exact((aQ _ _).drew).alloc (ab5 _) _
theorem fi{P:Program}{e:TypeId}{z:Value}{size bytes:Nat}(h:(P.info? e).map (fun i=>(i.zero,i.size,i.bytes))=some (some z,size,bytes)):∃i,P.info? e=some i/\i.zero=some z/\i.size=size/\i.bytes=bytes:=by
 cases h':P.info? e with
 |none=>rw[h'] at h;cases h
 |some i =>
  rw[h'] at h;simp only[adE,ace,ada] at h;exact⟨i,rfl,h.1,h.2.1,h.2.2⟩
theorem sQ:(prog.info? 146).map (fun i=>(i.zero,i.size,i.bytes))=some (some (.agg #[.bool false,i6 0,i6 0,.slice none 0 0,.slice none 0 0,i6 0]),6,80):=kR
theorem Oe(w:World):Calls prog 168 #[.slice none 0 0,i6 0] w (rB (.slice none 0 0) w):=by
 go_enter func168,ntmps168;go_wp2;go_ret;exact⟨rfl,aQ _ _⟩
theorem QT(n:Nat)(w:World)(h0:0<n)(hn:n<=1000000):Calls prog 168 #[.slice none 0 0,i6 n] w fun e w'=>∃v,e=.returned v/\w'.ownsRow w.heap.size 146 6 v 0 []/\bL w w':=by
 obtain⟨i,hi,dB,cP,cS⟩:=fi sQ;go_enter func168,ntmps168;go_wp2_with(at_builtin;refine oy rfl _ _ 47 3 rfl 146 i (.agg #[.bool false,i6 0,i6 0,.slice none 0 0,.slice none 0 0,i6 0]) 6 80 underlying47 underlying3 hi dB cP cS rfl dM n h0 rfl rfl oM oM ?_;intro cap w1 bp HB bU iA);go_ret;exact⟨_,rfl,bp,bQ⟩
theorem QS(n:Nat)(w:World)(hn:n<=1000000):Calls prog 168 #[.slice none 0 0,i6 n] w fun e w'=>∃v,e=.returned v/\w'.ownsRow w.heap.size 146 6 v 0 []/\bL w w':=by
 rcases aeA n with rfl|h
 ·exact(Oe w).mono fun e w' ⟨he,hb⟩=>⟨_,he,acx _ _ _ _,hb⟩
 ·exact QT n w h hn
theorem wF:(prog.info? 9).map (fun i=>(i.zero,i.size,i.bytes))=some (some (.string bE),1,16):=kR
theorem Of(w:World):Calls prog 229 #[.slice none 0 0,i6 0] w (rB (.slice none 0 0) w):=by
 go_enter func229,ntmps229;go_wp2;go_ret;exact⟨rfl,aQ _ _⟩
theorem QV(n:Nat)(w:World)(h0:0<n)(hn:n<=1000000):Calls prog 229 #[.slice none 0 0,i6 n] w fun e w'=>∃v,e=.returned v/\w'.ownsRow w.heap.size 9 1 v 0 []/\bL w w':=by
 obtain⟨i,hi,dB,cP,cS⟩:=fi wF;go_enter func229,ntmps229;go_wp2_with(at_builtin;refine oy rfl _ _ 51 3 rfl 9 i (.string bE) 1 16 underlying51 underlying3 hi dB cP cS rfl dM n h0 rfl rfl oM oM ?_;intro cap w1 bp HB bU iA);go_ret;exact⟨_,rfl,bp,bQ⟩
theorem QU(n:Nat)(w:World)(hn:n<=1000000):Calls prog 229 #[.slice none 0 0,i6 n] w fun e w'=>∃v,e=.returned v/\w'.ownsRow w.heap.size 9 1 v 0 []/\bL w w':=by
 rcases aeA n with rfl|h
 ·exact(Of w).mono fun e w' ⟨he,hb⟩=>⟨_,he,acx _ _ _ _,hb⟩
 ·exact QV n w h hn
theorem yZ:(prog.info? 3).map (fun i=>(i.zero,i.size,i.bytes))=some (some (i6 0),1,8):=kR
theorem Od(w:World):Calls prog 230 #[.slice none 0 0,i6 0] w (rB (.slice none 0 0) w):=by
 go_enter func230,ntmps230;go_wp2;go_ret;exact⟨rfl,aQ _ _⟩
theorem QR(n:Nat)(w:World)(h0:0<n)(hn:n<=1000000):Calls prog 230 #[.slice none 0 0,i6 n] w fun e w'=>∃v,e=.returned v/\w'.ownsRow w.heap.size 3 1 v 0 []/\bL w w':=by
 obtain⟨i,hi,dB,cP,cS⟩:=fi yZ;go_enter func230,ntmps230;go_wp2_with(at_builtin;refine oy rfl _ _ 122 3 rfl 3 i (i6 0) 1 8 underlying122 underlying3 hi dB cP cS rfl dM n h0 rfl rfl oM oM ?_;intro cap w1 bp HB bU iA);go_ret;exact⟨_,rfl,bp,bQ⟩
theorem QQ(n:Nat)(w:World)(hn:n<=1000000):Calls prog 230 #[.slice none 0 0,i6 n] w fun e w'=>∃v,e=.returned v/\w'.ownsRow w.heap.size 3 1 v 0 []/\bL w w':=by
 rcases aeA n with rfl|h
 ·exact(Od w).mono fun e w' ⟨he,hb⟩=>⟨_,he,acx _ _ _ _,hb⟩
 ·exact QR n w h hn
end
section
open Go.RowKit Go.BigFrame
structure Bf where
 pl:Int
 data:ByteArray
 bO:Bool
 used:Int
def Bf.cell(r:Bf):Nat->Value
 |0=>i6 r.pl
 |1=>.string r.data
 |2=>.bool r.bO
 |_=>i6 r.used
abbrev Bf.val(r:Bf):Value:=.agg #[i6 r.pl,.string r.data,.bool r.bO,i6 r.used]
theorem ao{w:World}{b o:Nat}{v:Value}(h:w.cell? ⟨b,o,none⟩=some v):b<w.heap.size:=ot h
theorem af{w w':World}{b o:Nat}{v:Value}(hb:bL w w')(h:w.cell? ⟨b,o,none⟩=some v):w'.cell? ⟨b,o,none⟩=some v:=eb hb h
theorem sK{w:World}{b o:Nat}{v:Value}(h:w.cell? ⟨b,o,none⟩=some v)(x:Obj):(w.alloc x).cell? ⟨b,o,none⟩=some v:=by
 rw[aes w x _ (ot h)];exact h
def bw(w:World)(a:Option Addr)(l:List Bf):Prop :=
 (l=[]\/∃b o,a=some ⟨b,o,none⟩/\∀i (h:i<l.length) j,j<4->w.cell? ⟨b,o+i*4+j,none⟩=some (l[i].cell j))/\l.length<=9223372036854775807
theorem bw.later{w w':World}{a:Option Addr}{l:List Bf}(h:bw w a l)(hb:bL w w'):bw w' a l:=by
 obtain⟨h1,h3⟩:=h;refine⟨?_,h3⟩
 rcases h1 with h|⟨b,o,ha,hc⟩
 ·exact il h
 ·exact ir ⟨b,o,ha,fun i hi j hj=>af hb (hc i hi j hj)⟩
theorem bw.form{w:World}{a:Option Addr}{l:List Bf}(h:bw w a l):l=[]\/∃b o,a=some ⟨b,o,none⟩:=by
 rcases h.1 with h|⟨b,o,ha,_⟩
 ·exact il h
 ·exact ir ⟨b,o,ha⟩
theorem bw.cells{w:World}{b o:Nat}{l:List Bf}(h:bw w (some ⟨b,o,none⟩) l){i:Nat}(hi:i<l.length) :
 w.cell? ⟨b,o+i*4,none⟩=some (i6 l[i].pl)/\w.cell? ⟨b,o+i*4+1,none⟩=some (.string l[i].data)/\w.cell? ⟨b,o+i*4+2,none⟩=some (.bool l[i].bO)/\w.cell? ⟨b,o+i*4+3,none⟩=some (i6 l[i].used):=by
 rcases h.1 with rfl|⟨b',o',ha,hc⟩
 ·exact absurd hi (acg _)
 ·simp only[ace,acV,adh] at ha;obtain⟨rfl,rfl⟩:=ha;exact⟨hc i hi 0 oM,hc i hi 1 oM,hc i hi 2 oM,hc i hi 3 oM⟩
def aR(l:List Bf):List Value:=l.flatMap fun r=>[r.cell 0,r.cell 1,r.cell 2,r.cell 3]
theorem fg(l:List Bf):(aR l).length=l.length*4:=by
 induction l with
 |nil=>rfl
 |cons r l ih=>rw[aR,aeG,ab7,<-aR,ih,ac7];simp;omega
theorem cc(l l':List Bf):aR (l++l')=aR l++aR l':=by simp[aR]
theorem F9(l:List Bf):∀(i j:Nat) (h:i<l.length),j<4->(aR l)[i*4+j]?=some (l[i].cell j):=by
 induction l with
 |nil=>intro i j h;exact absurd h (acg _)
 |cons r l ih =>
  intro i j h hj;rw[aR,aeG,<-aR]
  cases i with
  |zero =>
   rw[acO (by simp;omega)]
   match j,hj with
   |0,_=>rfl
   |1,_=>rfl
   |2,_=>rfl
   |3,_=>rfl
  |succ i =>
   rw[acT (by simp;omega)];have:=ih i j (by simpa using h) hj;simp only[ac7,aev,List.getElem_cons_succ];rw[<-this];congr 1;omega
theorem nD(l:List Bf):∀u∈aR l,u.oneCell'=true:=by
 intro u hu;simp only[aR,List.mem_flatMap] at hu;obtain⟨r,_,hr⟩:=hu;simp only[ac3,aeL,or_false] at hr
 rcases hr with rfl|rfl|rfl|rfl<;>rfl
theorem NP{l:List Bf}{k:Nat}{u:Value}(h:(aR l)[k]?=some u):∃i j,∃hi:i<l.length,j<4/\k=i*4+j/\u=l[i].cell j:=by
 have hk:k<(aR l).length:=by
  rcases adD k (aR l).length with h'|h'
  ·exact h'
  ·rw[adj h'] at h;cases h
 rw[fg] at hk;have hi:k / 4<l.length:=oM;have hj:k % 4<4:=Nat.mod_lt _ oM;have e:k=k / 4*4+k % 4:=oM;refine⟨k / 4,k % 4,hi,hj,e,?_⟩;rw[e,F9 l (k / 4) (k % 4) hi hj] at h;exact(acR h).symm
theorem sn(b o i:Nat):(Addr.add ⟨b,o,none⟩ i)=⟨b,o+i,none⟩:=by
 unfold Addr.add;split
 ·rename_i h;subst h;rfl
 ·rfl
theorem bw.vu{w:World}{a:Option Addr}{c:Nat}{l:List Bf}(h:bw w a l)(hn:a=none->c=0):gu w 4 a l.length c (aR l):=by
 rcases h.1 with rfl|⟨b,o,rfl,hc⟩
 ·cases a with
  |none=>exact⟨rfl,by simp[aR],il ⟨rfl,rfl,hn rfl⟩⟩
  |some ad=>exact⟨rfl,by simp[aR],ir ⟨ad,rfl,fun j u h=>by simp[aR] at h⟩⟩
 ·refine⟨fg l,nD l,ir ⟨_,rfl,fun k u hk=>?_⟩⟩;obtain⟨i,j,hi,hj,rfl,rfl⟩:=NP hk;rw[sn,<-hc i hi j hj]
  congr 2
  omega
structure fB(base:Nat)(w:World)(a:Option Addr)(c:Nat)(l:List Bf):Prop where
 here:bw w a l
 cap:l.length<=c
 Jc:c<=9223372036854775807
 nil:a=none->c=0
 own:w.ownsRow base 137 4 (.slice a l.length c) l.length (aR l)
theorem fI{w:World}{base:Nat}{v:Value}{l:List Bf}{n:Nat}(h:w.ownsRow base 137 4 v n (aR l))(hn:n=l.length)(hb:l.length<=9223372036854775807) :
 ∃a c,v=.slice a l.length c/\fB base w a c l:=by
 subst hn;have h':=h
 rcases h.2 with⟨rfl,h0⟩|⟨g,cap,cur,rfl,hg,hh,jY,iA,kf,ht⟩
 ·have hl:=acd h0;subst hl;exact⟨none,0,rfl,⟨⟨il rfl,sM⟩,sM,sM,fun _=>rfl,h'⟩⟩
 ·have yU:cap<=9223372036854775807:=by unfold maxLen at iA;omega
  refine⟨some ⟨g,0,none⟩,cap,rfl,⟨⟨ir ⟨g,0,rfl,fun i hi j hj=>?_⟩,hb⟩,jY,yU,sM,h'⟩⟩;have hx:=F9 l i j hi hj;have hc:=h.cellAt (i*4+j) oM;rw[acq,hc,hx]
theorem fB.place{base:Nat}{w:World}{a:Option Addr}{c:Nat}{l:List Bf}(h:fB base w a c l)(hl:l ≠ []):∃b,a=some ⟨b,0,none⟩/\base<=b/\b<w.heap.size/\∀o,w.frozen? ⟨b,o,none⟩=false:=by
 rcases h.own.2 with⟨h1,h2⟩|⟨g,cap,cur,h1,hg,hh,jY,iA,kf,ht⟩
 ·exact absurd (acd h2) hl
 ·simp only[acN] at h1;refine⟨g,h1.1,hg,?_,fun o=>by simp[World.frozen?,hh]⟩
  rcases adD g w.heap.size with h'|h'
  ·exact h'
  ·rw[adu h'] at hh;cases hh
theorem wE:(prog.info? 137).map (fun i=>(i.zero,i.size,i.bytes))=some (some (.agg #[i6 0,.string bE,.bool false,i6 0]),4,40):=kR
theorem kH(l:List Bf)(a:Option Addr)(c:Nat)(w:World)(hl:bw w a l)(hn:a=none->c=0)(mC:l.length<=100000) :
 Calls prog 181 #[.slice a l.length c] w fun e w'=>∃a' c',e=.returned (.slice a' l.length c')/\fB w.heap.size w' a' c' l/\bL w w':=by
 obtain⟨i,hi,dB,cP,cS⟩:=fi wE;have R:=hl.vu hn;have q22:∀(w:World) (a:Option Addr) (n c n' c':Nat),(binOp .eql 91 (.slice a n c) (.slice none n' c')).run prog w=.ok (.bool a.isNone) w:=fun w a n c n' c'=>aeM w _ _ a n c n' c' underlying91
 cases a with
 |none =>
  obtain rfl:=hn rfl;have D7:l=[]:=by
   rcases hl.form with h|⟨b,o,h⟩
   ·exact h
   ·cases h
  subst D7;go_enter func181,ntmps181;go_wp2;go_ret;exact⟨none,0,rfl,⟨⟨il rfl,sM⟩,sM,sM,fun _=>rfl,acx _ _ _ _⟩,bQ⟩
 |some ad =>
  have HL:Hid (l.length<=100000):=mC;go_enter func181,ntmps181;go_wp2_with(at_builtin;refine aO rfl _ _ 91 rfl w.heap.size 137 i _ 4 40 underlying91 hi dB cP cS rfl dM _ 0 [] rfl (ae1 _ _ _ (ab5 _) (by unfold maxLen;omega) sM) (some ad) l.length c (aR l) rfl (R.later bQ) (by unfold maxLen;omega) oM sM ?_;intro v1 w2 aK aw);rw[acq,acF] at aK;obtain⟨a',c',rfl,hN⟩:=fI aK rfl oM;go_wp2;go_ret;exact⟨a',c',rfl,hN,(ae (aQ _ _) _).trans aw⟩
end
section
open Go.RowKit
theorem aa{p:Prop}(h:p):Hid p:=h
end
section
open Go.RowKit Go.BigFrame Go.Maps
theorem Oz(D:DataW Unit)(h:IsMap D)(k:Lit)(d:DataW Unit):IsMap (D.put k d):=by
 obtain⟨l,rfl⟩:=h;exact⟨_,rfl⟩
def iC(n:Int)(b:Bool):DataW Unit:=.agg [.lit (.int .i64 n),.lit (.bool b)]
def jH(v:Value):Option (DataW Unit × List MemPlace):=match v with
 |.agg xs=>match xs.toList with
  |[.int q n,.bool b]=>if q=.i64 then some (iC n b,[]) else none
  |_=>none
 |_=>none
theorem ia(n:Int)(b:Bool):jH (.agg #[i6 n,.bool b])=some (iC n b,[]):=rfl
theorem GS{v:Value}{n:Int}{b:Bool}{ps:List MemPlace}(h:jH v=some (iC n b,ps)):v=.agg #[i6 n,.bool b]:=by
 unfold jH at h
 split at h
 ·rename_i xs
  split at h
  ·rename_i q m c hx
   split at h
   ·rename_i hq
    simp only[ace,ada,iC,DataW.agg.injEq,List.cons.injEq,DataW.lit.injEq,Lit.int.injEq,Lit.bool.injEq,adQ,adh] at h;obtain⟨⟨rfl,rfl⟩,_⟩:=h;subst hq
    congr 1
    apply adM.1;rw[hx]
   ·cases h
  ·cases h
 ·cases h
structure IW(D:DataW Unit)(g:ByteArray->Option (Int × Bool)):Prop where
 im:IsMap D
 at':∀s:ByteArray,D.atKey (.string s.data.toList) (iC 0 false)=(match g s with|some p=>iC p.1 p.2|none=>iC 0 false)
 has:∀s:ByteArray,Maps.has D (.string s.data.toList)=(g s).isSome
theorem Yg:IW (.map []) (fun _=>none):=⟨⟨_,rfl⟩,fun _=>rfl,fun _=>rfl⟩
theorem NG{s t:ByteArray}(h:¬s=t):(Lit.string s.data.toList) ≠ (Lit.string t.data.toList):=by
 intro e;simp only[Lit.string.injEq] at e;apply h
 cases s;cases t
 simp only[ByteArray.mk.injEq];exact adM.1 e
theorem IW.put{D:DataW Unit}{g:ByteArray->Option (Int × Bool)}(h:IW D g)(k:ByteArray)(n:Int)(b:Bool):IW (D.put (.string k.data.toList) (iC n b)) (fun s=>if s=k then some (n,b) else g s):=by
 refine⟨Oz _ h.im _ _,fun s=>?_,fun s=>?_⟩
 ·by_cases e:s=k
  ·subst e;rw[ad9 h.im (by trivial),aca rfl]
  ·rw[aex (NG e),ab6 e];exact h.at' s
 ·by_cases e:s=k
  ·subst e;rw[has_put_same h.im (by trivial),aca rfl];rfl
  ·rw[has_put_other (NG e),ab6 e];exact h.has s
theorem NQ{bm:Nat}{W w w':World}(h:bL W w)(ht:w.mapTurned w' bm)(hb:W.heap.size<=bm):bL W w':=by
 have g:=ht.grown;have hs:=h.size;exact⟨g.os.trans h.os,g.tape.trans h.tape,g.output.trans h.output,acv h.size g.size,fun k hk=>(g.block k oM (fun e=>by have:=acR e;omega)).trans (h.block k hk)⟩
theorem dE{P:Program}(w:World){ops:Array Oper}{rest:List Oper}{o:Oper}{a:Act}{Q:Exit->Act->World->Prop}(hg:o.guard=none)(m x v:Operand)(t:TypeId)(qf:o.op=Op.insert t m x v)
 (k e:TypeId) (K:Keyed P k) (ht:P.underlying t=some (.map k e)) (R:Value->Option (DataW Unit × List MemPlace)) (b n:Nat) (D:DataW Unit)
 (hm:a.eval m=.map (some b)) (bp:w.ownsMap P k R b n D) (hn:n<maxLen) (key val:Value) (kl:Lit) (hx:a.eval x=key) (hv:a.eval v=val) (cT:keyOf P k key=some kl)
 (d:DataW Unit) (ps:List MemPlace) (hval:R val=some (d,ps))
 (hK:∀w',w'.ownsMap P k R b (n+1) (D.put kl d)->w.mapTurned w' b->wpList P ops Q rest (a.put o.dst undef) w') :
 wpList P ops Q (o::rest) a w:=by
 refine wpList_plain hg fun K' Zx=>?_
 obtain⟨w',gV,r1,r2⟩:=bp.store K ht hn cT hval;unfold Oper.wp
 simp[execOp,qf,hm,hx,hv,gV,Result.andThen]
 exact Zx _ _ (hK w' r1 r2)
def TA(w:World)(k:Nat)(g:ByteArray->Option (Int × Bool))(w':World):Prop:=∃D,w'.ownsMap prog 9 jH w.heap.size k D/\IW D g/\bL w w'
def pc:ByteArray:=⟨#[114,101,97,100]⟩
def nc:ByteArray:=⟨#[119,114,105,116,101]⟩
def pe:ByteArray:=⟨#[115,121,110,99]⟩
def r9:ByteArray:=⟨#[103,111,116]⟩
def r8:ByteArray:=⟨#[101,110,100]⟩
def mY:ByteArray:=⟨#[102,97,117,108,116]⟩
def lC:ByteArray:=⟨#[115,101,116,116,108,101]⟩
def mW:ByteArray:=⟨#[99,114,97,115,104]⟩
def pf:ByteArray:=⟨#[116,105,99,107]⟩
def mV:ByteArray:=⟨#[99,108,101,97,110]⟩
def jw:ByteArray:=⟨#[100,105,115,112,97,116,99,104]⟩
def na:ByteArray:=⟨#[114,111,117,110,100]⟩
def mZ:ByteArray:=⟨#[113,117,101,117,101]⟩
def pa:ByteArray:=⟨#[98,117,115,121]⟩
def mX:ByteArray:=⟨#[100,105,114,116,121]⟩
def fJ(s:ByteArray):Option (Int × Bool) :=
 if s=mX then some (0,false) else if s=pa then some (0,false) else if s=mZ then some (0,false) else if s=na then some (0,false) else
 if s=jw then some (0,false) else if s=mV then some (0,false) else if s=pf then some (0,false) else if s=mW then some (1,false) else
 if s=lC then some (1,false) else if s=mY then some (1,false) else if s=r8 then some (1,false) else if s=r9 then some (1,false) else
 if s=pe then some (1,false) else if s=nc then some (2,true) else if s=pc then some (2,false) else none
theorem fO{w w':World}{k:Nat}{g:ByteArray->Option (Int × Bool)}{D:DataW Unit}(hD:IW D g)(hb:bL w w'){x:ByteArray}{n:Int}{b:Bool}{w2:World}(h2:w2.ownsMap prog 9 jH w.heap.size (k+1) (D.put (.string x.data.toList) (iC n b)))(ht:w'.mapTurned w2 w.heap.size):TA w (k+1) (fun s=>if s=x then some (n,b) else g s) w2:=⟨_,h2,hD.put x n b,NQ hb ht (ab5 _)⟩
theorem Ti(w:World):Calls prog 68 #[] w fun e w'=>e=.returned (.map (some w.heap.size))/\TA w 15 fJ w':=by
 have h0:TA w 0 (fun _=>none) (w.alloc (.map #[] 0)):=⟨_,aeC w _ _ _,Yg,aB w _⟩
 have H0:=aa h0;clear h0;have Rm:=@run_makeMap prog;go_enter func68,ntmps68;go_wp2_with(first|(obtain⟨D,ho,hw,hb⟩:=H0.out;have HD:=aa hw;have HB:=aa hb;clear hw hb;have cT:keyOf prog 9 (.string pc)=some (.string pc.data.toList):=acH underlying9 (by unfold maxLen;decide);refine dE _ rfl _ _ _ 116 rfl 9 114 (adf underlying9) underlying116 jH w.heap.size 0 D rfl ho (by unfold maxLen;omega) _ _ _ rfl rfl cT (iC 2 false) [] (ia 2 false) ?_;intro w2 fW gD;have H1:=aa (fO HD.out HB.out fW gD);clear ho fW gD HD HB cT H0)|(obtain⟨D,ho,hw,hb⟩:=H1.out;have HD:=aa hw;have HB:=aa hb;clear hw hb;have cT:keyOf prog 9 (.string nc)=some (.string nc.data.toList):=acH underlying9 (by unfold maxLen;decide);refine dE _ rfl _ _ _ 116 rfl 9 114 (adf underlying9) underlying116 jH w.heap.size 1 D rfl ho (by unfold maxLen;omega) _ _ _ rfl rfl cT (iC 2 true) [] (ia 2 true) ?_;intro w2 fW gD;have H2:=aa (fO HD.out HB.out fW gD);clear ho fW gD HD HB cT H1)|(obtain⟨D,ho,hw,hb⟩:=H2.out;have HD:=aa hw;have HB:=aa hb;clear hw hb;have cT:keyOf prog 9 (.string pe)=some (.string pe.data.toList):=acH underlying9 (by unfold maxLen;decide);refine dE _ rfl _ _ _ 116 rfl 9 114 (adf underlying9) underlying116 jH w.heap.size 2 D rfl ho (by unfold maxLen;omega) _ _ _ rfl rfl cT (iC 1 false) [] (ia 1 false) ?_;intro w2 fW gD;have H3:=aa (fO HD.out HB.out fW gD);clear ho fW gD HD HB cT H2)|(obtain⟨D,ho,hw,hb⟩:=H3.out;have HD:=aa hw;have HB:=aa hb;clear hw hb;have cT:keyOf prog 9 (.string r9)=some (.string r9.data.toList):=acH underlying9 (by unfold maxLen;decide);refine dE _ rfl _ _ _ 116 rfl 9 114 (adf underlying9) underlying116 jH w.heap.size 3 D rfl ho (by unfold maxLen;omega) _ _ _ rfl rfl cT (iC 1 false) [] (ia 1 false) ?_;intro w2 fW gD;have H4:=aa (fO HD.out HB.out fW gD);clear ho fW gD HD HB cT H3)|(obtain⟨D,ho,hw,hb⟩:=H4.out;have HD:=aa hw;have HB:=aa hb;clear hw hb;have cT:keyOf prog 9 (.string r8)=some (.string r8.data.toList):=acH underlying9 (by unfold maxLen;decide);refine dE _ rfl _ _ _ 116 rfl 9 114 (adf underlying9) underlying116 jH w.heap.size 4 D rfl ho (by unfold maxLen;omega) _ _ _ rfl rfl cT (iC 1 false) [] (ia 1 false) ?_;intro w2 fW gD;have H5:=aa (fO HD.out HB.out fW gD);clear ho fW gD HD HB cT H4)|(obtain⟨D,ho,hw,hb⟩:=H5.out;have HD:=aa hw;have HB:=aa hb;clear hw hb;have cT:keyOf prog 9 (.string mY)=some (.string mY.data.toList):=acH underlying9 (by unfold maxLen;decide);refine dE _ rfl _ _ _ 116 rfl 9 114 (adf underlying9) underlying116 jH w.heap.size 5 D rfl ho (by unfold maxLen;omega) _ _ _ rfl rfl cT (iC 1 false) [] (ia 1 false) ?_;intro w2 fW gD;have H6:=aa (fO HD.out HB.out fW gD);clear ho fW gD HD HB cT H5)|(obtain⟨D,ho,hw,hb⟩:=H6.out;have HD:=aa hw;have HB:=aa hb;clear hw hb;have cT:keyOf prog 9 (.string lC)=some (.string lC.data.toList):=acH underlying9 (by unfold maxLen;decide);refine dE _ rfl _ _ _ 116 rfl 9 114 (adf underlying9) underlying116 jH w.heap.size 6 D rfl ho (by unfold maxLen;omega) _ _ _ rfl rfl cT (iC 1 false) [] (ia 1 false) ?_;intro w2 fW gD;have H7:=aa (fO HD.out HB.out fW gD);clear ho fW gD HD HB cT H6)|(obtain⟨D,ho,hw,hb⟩:=H7.out;have HD:=aa hw;have HB:=aa hb;clear hw hb;have cT:keyOf prog 9 (.string mW)=some (.string mW.data.toList):=acH underlying9 (by unfold maxLen;decide);refine dE _ rfl _ _ _ 116 rfl 9 114 (adf underlying9) underlying116 jH w.heap.size 7 D rfl ho (by unfold maxLen;omega) _ _ _ rfl rfl cT (iC 1 false) [] (ia 1 false) ?_;intro w2 fW gD;have H8:=aa (fO HD.out HB.out fW gD);clear ho fW gD HD HB cT H7)|(obtain⟨D,ho,hw,hb⟩:=H8.out;have HD:=aa hw;have HB:=aa hb;clear hw hb;have cT:keyOf prog 9 (.string pf)=some (.string pf.data.toList):=acH underlying9 (by unfold maxLen;decide);refine dE _ rfl _ _ _ 116 rfl 9 114 (adf underlying9) underlying116 jH w.heap.size 8 D rfl ho (by unfold maxLen;omega) _ _ _ rfl rfl cT (iC 0 false) [] (ia 0 false) ?_;intro w2 fW gD;have H9:=aa (fO HD.out HB.out fW gD);clear ho fW gD HD HB cT H8)|(obtain⟨D,ho,hw,hb⟩:=H9.out;have HD:=aa hw;have HB:=aa hb;clear hw hb;have cT:keyOf prog 9 (.string mV)=some (.string mV.data.toList):=acH underlying9 (by unfold maxLen;decide);refine dE _ rfl _ _ _ 116 rfl 9 114 (adf underlying9) underlying116 jH w.heap.size 9 D rfl ho (by unfold maxLen;omega) _ _ _ rfl rfl cT (iC 0 false) [] (ia 0 false) ?_;intro w2 fW gD;have H10:=aa (fO HD.out HB.out fW gD);clear ho fW gD HD HB cT H9)|(obtain⟨D,ho,hw,hb⟩:=H10.out;have HD:=aa hw;have HB:=aa hb;clear hw hb;have cT:keyOf prog 9 (.string jw)=some (.string jw.data.toList):=acH underlying9 (by unfold maxLen;decide);refine dE _ rfl _ _ _ 116 rfl 9 114 (adf underlying9) underlying116 jH w.heap.size 10 D rfl ho (by unfold maxLen;omega) _ _ _ rfl rfl cT (iC 0 false) [] (ia 0 false) ?_;intro w2 fW gD;have H11:=aa (fO HD.out HB.out fW gD);clear ho fW gD HD HB cT H10)|(obtain⟨D,ho,hw,hb⟩:=H11.out;have HD:=aa hw;have HB:=aa hb;clear hw hb;have cT:keyOf prog 9 (.string na)=some (.string na.data.toList):=acH underlying9 (by unfold maxLen;decide);refine dE _ rfl _ _ _ 116 rfl 9 114 (adf underlying9) underlying116 jH w.heap.size 11 D rfl ho (by unfold maxLen;omega) _ _ _ rfl rfl cT (iC 0 false) [] (ia 0 false) ?_;intro w2 fW gD;have H12:=aa (fO HD.out HB.out fW gD);clear ho fW gD HD HB cT H11)|(obtain⟨D,ho,hw,hb⟩:=H12.out;have HD:=aa hw;have HB:=aa hb;clear hw hb;have cT:keyOf prog 9 (.string mZ)=some (.string mZ.data.toList):=acH underlying9 (by unfold maxLen;decide);refine dE _ rfl _ _ _ 116 rfl 9 114 (adf underlying9) underlying116 jH w.heap.size 12 D rfl ho (by unfold maxLen;omega) _ _ _ rfl rfl cT (iC 0 false) [] (ia 0 false) ?_;intro w2 fW gD;have H13:=aa (fO HD.out HB.out fW gD);clear ho fW gD HD HB cT H12)|(obtain⟨D,ho,hw,hb⟩:=H13.out;have HD:=aa hw;have HB:=aa hb;clear hw hb;have cT:keyOf prog 9 (.string pa)=some (.string pa.data.toList):=acH underlying9 (by unfold maxLen;decide);refine dE _ rfl _ _ _ 116 rfl 9 114 (adf underlying9) underlying116 jH w.heap.size 13 D rfl ho (by unfold maxLen;omega) _ _ _ rfl rfl cT (iC 0 false) [] (ia 0 false) ?_;intro w2 fW gD;have H14:=aa (fO HD.out HB.out fW gD);clear ho fW gD HD HB cT H13)|(obtain⟨D,ho,hw,hb⟩:=H14.out;have HD:=aa hw;have HB:=aa hb;clear hw hb;have cT:keyOf prog 9 (.string mX)=some (.string mX.data.toList):=acH underlying9 (by unfold maxLen;decide);refine dE _ rfl _ _ _ 116 rfl 9 114 (adf underlying9) underlying116 jH w.heap.size 14 D rfl ho (by unfold maxLen;omega) _ _ _ rfl rfl cT (iC 0 false) [] (ia 0 false) ?_;intro w2 fW gD;have H15:=aa (fO HD.out HB.out fW gD);clear ho fW gD HD HB cT H14))
 go_ret;exact⟨rfl,H15.out⟩
structure St where
 word:ByteArray
 a:Int
 b:Int
 data:ByteArray
abbrev St.val(x:St):Value:=.agg #[.string x.word,i6 x.a,i6 x.b,.string x.data]
def di(s:ByteArray):Int × Bool:=(fJ s).getD (0,false)
def ug(o:Option (Int × Bool)):Prop:=o=none\/∃n b,o=some (n,b)/\((n=0/\b=false)\/(n=1/\b=false)\/(n=2/\b=true)\/(n=2/\b=false))
theorem UT{c:Prop} [Decidable c]{x y:Option (Int × Bool)}(h1:ug x)(h2:ug y):ug (if c then x else y):=by split<;>assumption
theorem MA(s:ByteArray):ug (fJ s):=by
 have q0:ug (some (0,false)):=ir ⟨_,_,rfl,il ⟨rfl,rfl⟩⟩;have q1:ug (some (1,false)):=ir ⟨_,_,rfl,ir (il ⟨rfl,rfl⟩)⟩;have q2:ug (some (2,true)):=ir ⟨_,_,rfl,ir (ir (il ⟨rfl,rfl⟩))⟩;have q3:ug (some (2,false)):=ir ⟨_,_,rfl,ir (ir (ir ⟨rfl,rfl⟩))⟩;have qn:ug none:=il rfl;unfold fJ
 repeat' (first|exact q0|exact q1|exact q2|exact q3|exact qn|refine UT ?_ ?_)
theorem zI(s:ByteArray):∃n b,di s=(n,b)/\((n=0/\b=false)\/(n=1/\b=false)\/(n=2/\b=true)\/(n=2/\b=false)):=by
 unfold di
 rcases MA s with h|⟨n,b,h,h2⟩
 ·rw[h];exact⟨0,false,rfl,il ⟨rfl,rfl⟩⟩
 ·rw[h];exact⟨n,b,rfl,h2⟩
theorem E5(w:World):(zeroValue 114).run prog w=.ok (.agg #[i6 0,.bool false]) w:=rfl
def V7(w:World)(mb:Nat)(w':World):Prop:=∃D,w'.ownsMap prog 9 jH mb 15 D/\IW D fJ/\bL w w'
theorem Yh(w:World):Calls prog 68 #[] w fun e w'=>∃mb,e=.returned (.map (some mb))/\V7 w mb w':=(Ti w).mono (fun _ _ h=>⟨_,h.1,h.2⟩)
theorem V7.bel{w w':World}{mb:Nat}(h:V7 w mb w'):bL w w':=h.choose_spec.2.2
theorem Np{w w' w2:World}{mb:Nat}(h:V7 w mb w')(hb:bL w' w2)(s:ByteArray)(hs:s.size<=9223372036854775807)(n:Int)(b:Bool)(hn:di s=(n,b))(c:Bool)(hc:(fJ s).isSome=c) :
 (Instr.lookup 116 (.map (some mb)) (.string s) true).run prog w2=.ok (.tuple #[.agg #[i6 n,.bool b],.bool c]) w2/\(Instr.lookup 116 (.map (some mb)) (.string s) false).run prog w2=.ok (.agg #[i6 n,.bool b]) w2:=by
 obtain⟨D,ho,hD,_⟩:=h;have fW:w2.ownsMap prog 9 jH mb 15 D:=by
  obtain⟨es,clock,h1,h2,h3,h4⟩:=ho;exact⟨es,clock,(hb.block _ (aet.1 h1).1).trans h1,h2,h3,h4⟩
 have cT:keyOf prog 9 (.string s)=some (.string s.data.toList):=acH underlying9 (by unfold maxLen;omega);have h3:D.atKey (.string s.data.toList) (iC 0 false)=iC n b:=by
  rw[hD.at' s];unfold di at hn
  cases e:fJ s with
  |none=>rw[e] at hn;cases hn;rfl
  |some p=>rw[e] at hn;cases hn;rfl
 refine⟨?_,?_⟩
 ·obtain⟨v,ps,h1,h2⟩:=fW.look_ok (adf underlying9) underlying116 (E5 w2) (ia 0 false) cT;rw[h3] at h2;rw[h1,GS h2,hD.has s,hc]
 ·obtain⟨v,ps,h1,h2⟩:=fW.lookup (adf underlying9) underlying116 (E5 w2) (ia 0 false) cT;rw[h3] at h2;rw[h1,GS h2]
def ss(n:Int)(b:Bool)(x:St):Bool:=(decide (0<n)||x.a==0)&&(decide (1<n)||x.b==0)&&(b||x.data.toList.isEmpty)
theorem Xt(n:Int)(b:Bool)(x:St)(w:World)(hn:(n=0/\b=false)\/(n=1/\b=false)\/(n=2/\b=true)\/(n=2/\b=false))(t:Bool)(ht:ss n b x=t) :
 Calls prog 69 #[.agg #[i6 n,.bool b],x.val] w (rB (.bool t) w):=by
 subst ht;obtain⟨wd,xa,xb,dt⟩:=x;have H:=fun q=>aa (show ss n b ⟨wd,xa,xb,dt⟩=q->ss n b ⟨wd,xa,xb,dt⟩=q from id)
 unfold ss;simp only
 cases ha:(xa==0)<;>cases hb:(xb==0)<;>cases hd:dt.toList.isEmpty<;>rcases hn with⟨rfl,rfl⟩|⟨rfl,rfl⟩|⟨rfl,rfl⟩|⟨rfl,rfl⟩
 all_goals
  clear H;go_enter func69,ntmps69;go_wp2;go_ret;exact⟨rfl,bQ⟩
end
section
open Go.RowKit
def dz(n:Int):Value:=if n=0 then .nilIface else .iface 87 (i6 n)
def cy(w:World)(a:Option Addr)(xs:List ByteArray):Prop :=
 xs=[]\/∃b o,a=some ⟨b,o,none⟩/\∀i,i<xs.length->w.cell? ⟨b,o+i,none⟩=some (.string (xs.getD i bE))
def dZ(w:World)(a:Option Addr)(xs:List Int):Prop :=
 xs=[]\/∃b o,a=some ⟨b,o,none⟩/\∀i,i<xs.length->w.cell? ⟨b,o+i,none⟩=some (i6 (xs.getD i 0))
theorem al{w:World}{b o:Nat}{v:Value}(h:w.cell? ⟨b,o,none⟩=some v):b<w.heap.size:=by
 rcases adD b w.heap.size with h'|h'
 ·exact h'
 ·simp[World.cell?,adu h'] at h
theorem aC{w w':World}{b o:Nat}{v:Value}(hb:bL w w')(h:w.cell? ⟨b,o,none⟩=some v):w'.cell? ⟨b,o,none⟩=some v:=by
 rw[hb.cell (p:=⟨b,o,none⟩) (al h)];exact h
theorem dX{w:World}{b o:Nat}{v:Value}(h:w.cell? ⟨b,o,none⟩=some v)(x:Obj):(w.alloc x).cell? ⟨b,o,none⟩=some v:=by
 rw[aes w x _ (al h)];exact h
theorem cy.later{w w':World}{a:Option Addr}{xs:List ByteArray}(h:cy w a xs)(hb:bL w w'):cy w' a xs:=by
 rcases h with h|⟨b,o,ha,hc⟩
 ·exact il h
 ·exact ir ⟨b,o,ha,fun i hi=>aC hb (hc i hi)⟩
theorem dZ.later{w w':World}{a:Option Addr}{xs:List Int}(h:dZ w a xs)(hb:bL w w'):dZ w' a xs:=by
 rcases h with h|⟨b,o,ha,hc⟩
 ·exact il h
 ·exact ir ⟨b,o,ha,fun i hi=>aC hb (hc i hi)⟩
structure Rq where
 wr:Bool
 f:Int
 m:Int
 da:Option Addr
 dc:Nat
 data:List ByteArray
 ta:Option Addr
 tc:Nat
 tags:List Int
 born:Int
def Rq.cell(r:Rq):Nat->Value
 |0=>.bool r.wr
 |1=>i6 r.f
 |2=>i6 r.m
 |3=>.slice r.da r.data.length r.dc
 |4=>.slice r.ta r.tags.length r.tc
 |_=>i6 r.born
abbrev Rq.val(r:Rq):Value:=.agg #[.bool r.wr,i6 r.f,i6 r.m,.slice r.da r.data.length r.dc,.slice r.ta r.tags.length r.tc,i6 r.born]
structure Rq.At(r:Rq)(w:World):Prop where
 data:cy w r.da r.data
 tags:dZ w r.ta r.tags
 dl:r.data.length<=9223372036854775807
 tl:r.tags.length<=9223372036854775807
 f:cY r.f
 m:cY r.m
 born:cY r.born
 dn:r.da=none->r.dc=0
 tn:r.ta=none->r.tc=0
theorem Rq.At.later{r:Rq}{w w':World}(h:r.At w)(hb:bL w w'):r.At w' :=
 ⟨h.data.later hb,h.tags.later hb,h.dl,h.tl,h.f,h.m,h.born,h.dn,h.tn⟩
def aS(w:World)(a:Option Addr)(l:List Rq):Prop :=
 (l=[]\/∃b o,a=some ⟨b,o,none⟩/\∀i (h:i<l.length) j,j<6->w.cell? ⟨b,o+i*6+j,none⟩=some (l[i].cell j))/\(∀r∈l,r.At w)/\l.length<=9223372036854775807
theorem aS.later{w w':World}{a:Option Addr}{l:List Rq}(h:aS w a l)(hb:bL w w'):aS w' a l:=by
 obtain⟨h1,h2,h3⟩:=h;refine⟨?_,fun r hr=>(h2 r hr).later hb,h3⟩
 rcases h1 with h|⟨b,o,ha,hc⟩
 ·exact il h
 ·exact ir ⟨b,o,ha,fun i hi j hj=>aC hb (hc i hi j hj)⟩
theorem IY{α:Type}{p:α->Bool}{l:List α}{k:Nat}(h:k<l.length)(h1:(l.take k).all p=true)(h2:p l[k]=true):(l.take (k+1)).all p=true:=by
 rw[acG h,List.all_append,h1];simp[h2]
theorem CN{α:Type}{p:α->Bool}{l:List α}{k:Nat}(h:k<l.length)(hp:p l[k]=false):l.all p=false:=by
 rw[List.all_eq_false];exact⟨l[k],sM,by rw[hp];exact acn⟩
theorem MV{α:Type}{p:α->Bool}{l:List α}{k:Nat}(h:l.length<=k)(h1:(l.take k).all p=true):l.all p=true:=by
 rwa [acJ h] at h1
theorem aS.cells{w:World}{b o:Nat}{l:List Rq}(h:aS w (some ⟨b,o,none⟩) l){i:Nat}(hi:i<l.length) :
 w.cell? ⟨b,o+i*6,none⟩=some (.bool l[i].wr)/\w.cell? ⟨b,o+i*6+1,none⟩=some (i6 l[i].f)/\w.cell? ⟨b,o+i*6+2,none⟩=some (i6 l[i].m) /\
  w.cell? ⟨b,o+i*6+3,none⟩=some (.slice l[i].da l[i].data.length l[i].dc)/\w.cell? ⟨b,o+i*6+4,none⟩=some (.slice l[i].ta l[i].tags.length l[i].tc)/\w.cell? ⟨b,o+i*6+5,none⟩=some (i6 l[i].born):=by
 rcases h.1 with rfl|⟨b',o',ha,hc⟩
 ·exact absurd hi (acg _)
 ·simp only[ace,acV,adh] at ha;obtain⟨rfl,rfl⟩:=ha;exact⟨hc i hi 0 oM,hc i hi 1 oM,hc i hi 2 oM,hc i hi 3 oM,hc i hi 4 oM,hc i hi 5 oM⟩
theorem aS.form{w:World}{a:Option Addr}{l:List Rq}(h:aS w a l):l=[]\/∃b o,a=some ⟨b,o,none⟩:=by
 rcases h.1 with h|⟨b,o,ha,_⟩
 ·exact il h
 ·exact ir ⟨b,o,ha⟩
theorem og{w w':World}{b o:Nat}{v:Value}(hb:bL w w')(h:w.cell? ⟨b,o,none⟩=some v):w'.cell? ⟨b,o,none⟩=some v:=eb hb h
theorem xr(g o:Nat)(a1 a2:Option Addr)(n1 n2 c1 c2:Nat)(tN xh:List Value)(w:World)(h0:w.cell? ⟨g,o,none⟩=some (.slice a1 n1 c1))(h1:w.cell? ⟨g,o+1,none⟩=some (.slice a2 n2 c2))
 (r1:gu w 6 a1 n1 c1 tN) (r2:gu w 6 a2 n2 c2 xh) (b1:n1<=100000) (b2:n2<=100000) :
 Calls prog 122 #[.slice (some ⟨g,o,none⟩) 2 2] w fun e w'=>∃v,e=.returned v/\w'.ownsRow w.heap.size 146 6 v (n1+n2) (tN++xh)/\bL w w':=by
 obtain⟨i,hi,dB,cP,cS⟩:=fi sQ;have D7:=ot h0;go_enter func122,ntmps122;go_wp2
 go_loopw[3,11] (fun sz ix wr=>w=wr/\((ix=i6 0/\sz=i6 0)\/(ix=i6 1/\sz=i6 (n1:Int))\/(ix=i6 2/\sz=i6 ((n1:Int)+(n2:Int))))) (fun _ ix _=>(2-intOf ix).toNat)
 case atStart=>exact⟨rfl,il ⟨rfl,rfl⟩⟩
 case round =>
  obtain⟨rfl,⟨rfl,rfl⟩|⟨rfl,rfl⟩|⟨rfl,rfl⟩⟩:=hrel
  ·go_wp2;go_roundw
   case rel=>simp
   case measure=>simp[intOf]
  ·go_wp2;go_roundw
   case rel=>simp
   case measure=>simp[intOf]
  ·go_wp2_with fail;rw[show((n1:Int)+(n2:Int))=((n1+n2:Nat):Int) from oM];refine(QS (n1+n2) _ oM).mono ?_;rintro e w1 ⟨v,rfl,bp,HB⟩;go_wp2_with fail
   go_loopw[6,27] (fun nv ix w2=>bL w w2/\((ix=i6 0/\w2.ownsRow w.heap.size 146 6 nv 0 [])\/(ix=i6 1/\w2.ownsRow w.heap.size 146 6 nv n1 tN)\/(ix=i6 2/\w2.ownsRow w.heap.size 146 6 nv (n1+n2) (tN++xh)))) (fun _ ix _=>(2-intOf ix).toNat)
   case atStart=>exact⟨HB,il ⟨rfl,bp⟩⟩
   case round =>
    clear HB bp;obtain⟨HB,⟨rfl,bp⟩|⟨rfl,bp⟩|⟨rfl,bp⟩⟩:=hrel
    ·have k0:=og HB h0;have q1:=r1.later HB;go_wp2_with(at_builtin;refine aO rfl _ _ 47 rfl w.heap.size 146 i (.agg #[.bool false,i6 0,i6 0,.slice none 0 0,.slice none 0 0,i6 0]) 6 80 underlying47 hi dB cP cS rfl dM _ _ _ rfl bp a1 n1 c1 tN rfl q1 (by unfold maxLen;omega) oM HB.size ?_;intro v' w3 rM zT);go_roundw
     case rel=>exact⟨HB.trans zT,ir (il ⟨rfl,by simpa using rM⟩)⟩
     case measure=>simp[intOf]
    ·have k0:=og HB h1;have q1:=r2.later HB;go_wp2_with(at_builtin;refine aO rfl _ _ 47 rfl w.heap.size 146 i (.agg #[.bool false,i6 0,i6 0,.slice none 0 0,.slice none 0 0,i6 0]) 6 80 underlying47 hi dB cP cS rfl dM _ _ _ rfl bp a2 n2 c2 xh rfl q1 (by unfold maxLen;omega) oM HB.size ?_;intro v' w3 rM zT);go_roundw
     case rel=>exact⟨HB.trans zT,ir (ir ⟨rfl,rM⟩)⟩
     case measure=>simp[intOf]
    ·go_wp2;go_ret;exact⟨_,rfl,bp,HB⟩
theorem Ld(g o:Nat)(a1 a2:Option Addr)(n1 n2 c1 c2:Nat)(tN xh:List Value)(w:World)(h0:w.cell? ⟨g,o,none⟩=some (.slice a1 n1 c1))(h1:w.cell? ⟨g,o+1,none⟩=some (.slice a2 n2 c2))
 (r1:gu w 1 a1 n1 c1 tN) (r2:gu w 1 a2 n2 c2 xh) (b1:n1<=100000) (b2:n2<=100000) :
 Calls prog 206 #[.slice (some ⟨g,o,none⟩) 2 2] w fun e w'=>∃v,e=.returned v/\w'.ownsRow w.heap.size 9 1 v (n1+n2) (tN++xh)/\bL w w':=by
 obtain⟨i,hi,dB,cP,cS⟩:=fi wF;have D7:=ot h0;go_enter func206,ntmps206;go_wp2
 go_loopw[3,11] (fun sz ix wr=>w=wr/\((ix=i6 0/\sz=i6 0)\/(ix=i6 1/\sz=i6 (n1:Int))\/(ix=i6 2/\sz=i6 ((n1:Int)+(n2:Int))))) (fun _ ix _=>(2-intOf ix).toNat)
 case atStart=>exact⟨rfl,il ⟨rfl,rfl⟩⟩
 case round =>
  obtain⟨rfl,⟨rfl,rfl⟩|⟨rfl,rfl⟩|⟨rfl,rfl⟩⟩:=hrel
  ·go_wp2;go_roundw
   case rel=>simp
   case measure=>simp[intOf]
  ·go_wp2;go_roundw
   case rel=>simp
   case measure=>simp[intOf]
  ·go_wp2_with fail;rw[show((n1:Int)+(n2:Int))=((n1+n2:Nat):Int) from oM];refine(QU (n1+n2) _ oM).mono ?_;rintro e w1 ⟨v,rfl,bp,HB⟩;go_wp2_with fail
   go_loopw[6,27] (fun nv ix w2=>bL w w2/\((ix=i6 0/\w2.ownsRow w.heap.size 9 1 nv 0 [])\/(ix=i6 1/\w2.ownsRow w.heap.size 9 1 nv n1 tN)\/(ix=i6 2/\w2.ownsRow w.heap.size 9 1 nv (n1+n2) (tN++xh)))) (fun _ ix _=>(2-intOf ix).toNat)
   case atStart=>exact⟨HB,il ⟨rfl,bp⟩⟩
   case round =>
    clear HB bp;obtain⟨HB,⟨rfl,bp⟩|⟨rfl,bp⟩|⟨rfl,bp⟩⟩:=hrel
    ·have k0:=og HB h0;have q1:=r1.later HB;go_wp2_with(at_builtin;refine aO rfl _ _ 51 rfl w.heap.size 9 i (.string bE) 1 16 underlying51 hi dB cP cS rfl dM _ _ _ rfl bp a1 n1 c1 tN rfl q1 (by unfold maxLen;omega) oM HB.size ?_;intro v' w3 rM zT);go_roundw
     case rel=>exact⟨HB.trans zT,ir (il ⟨rfl,by simpa using rM⟩)⟩
     case measure=>simp[intOf]
    ·have k0:=og HB h1;have q1:=r2.later HB;go_wp2_with(at_builtin;refine aO rfl _ _ 51 rfl w.heap.size 9 i (.string bE) 1 16 underlying51 hi dB cP cS rfl dM _ _ _ rfl bp a2 n2 c2 xh rfl q1 (by unfold maxLen;omega) oM HB.size ?_;intro v' w3 rM zT);go_roundw
     case rel=>exact⟨HB.trans zT,ir (ir ⟨rfl,rM⟩)⟩
     case measure=>simp[intOf]
    ·go_wp2;go_ret;exact⟨_,rfl,bp,HB⟩
theorem Lc(g o:Nat)(a1 a2:Option Addr)(n1 n2 c1 c2:Nat)(tN xh:List Value)(w:World)(h0:w.cell? ⟨g,o,none⟩=some (.slice a1 n1 c1))(h1:w.cell? ⟨g,o+1,none⟩=some (.slice a2 n2 c2))
 (r1:gu w 1 a1 n1 c1 tN) (r2:gu w 1 a2 n2 c2 xh) (b1:n1<=100000) (b2:n2<=100000) :
 Calls prog 207 #[.slice (some ⟨g,o,none⟩) 2 2] w fun e w'=>∃v,e=.returned v/\w'.ownsRow w.heap.size 3 1 v (n1+n2) (tN++xh)/\bL w w':=by
 obtain⟨i,hi,dB,cP,cS⟩:=fi yZ;have D7:=ot h0;go_enter func207,ntmps207;go_wp2
 go_loopw[3,11] (fun sz ix wr=>w=wr/\((ix=i6 0/\sz=i6 0)\/(ix=i6 1/\sz=i6 (n1:Int))\/(ix=i6 2/\sz=i6 ((n1:Int)+(n2:Int))))) (fun _ ix _=>(2-intOf ix).toNat)
 case atStart=>exact⟨rfl,il ⟨rfl,rfl⟩⟩
 case round =>
  obtain⟨rfl,⟨rfl,rfl⟩|⟨rfl,rfl⟩|⟨rfl,rfl⟩⟩:=hrel
  ·go_wp2;go_roundw
   case rel=>simp
   case measure=>simp[intOf]
  ·go_wp2;go_roundw
   case rel=>simp
   case measure=>simp[intOf]
  ·go_wp2_with fail;rw[show((n1:Int)+(n2:Int))=((n1+n2:Nat):Int) from oM];refine(QQ (n1+n2) _ oM).mono ?_;rintro e w1 ⟨v,rfl,bp,HB⟩;go_wp2_with fail
   go_loopw[6,27] (fun nv ix w2=>bL w w2/\((ix=i6 0/\w2.ownsRow w.heap.size 3 1 nv 0 [])\/(ix=i6 1/\w2.ownsRow w.heap.size 3 1 nv n1 tN)\/(ix=i6 2/\w2.ownsRow w.heap.size 3 1 nv (n1+n2) (tN++xh)))) (fun _ ix _=>(2-intOf ix).toNat)
   case atStart=>exact⟨HB,il ⟨rfl,bp⟩⟩
   case round =>
    clear HB bp;obtain⟨HB,⟨rfl,bp⟩|⟨rfl,bp⟩|⟨rfl,bp⟩⟩:=hrel
    ·have k0:=og HB h0;have q1:=r1.later HB;go_wp2_with(at_builtin;refine aO rfl _ _ 122 rfl w.heap.size 3 i (i6 0) 1 8 underlying122 hi dB cP cS rfl dM _ _ _ rfl bp a1 n1 c1 tN rfl q1 (by unfold maxLen;omega) oM HB.size ?_;intro v' w3 rM zT);go_roundw
     case rel=>exact⟨HB.trans zT,ir (il ⟨rfl,by simpa using rM⟩)⟩
     case measure=>simp[intOf]
    ·have k0:=og HB h1;have q1:=r2.later HB;go_wp2_with(at_builtin;refine aO rfl _ _ 122 rfl w.heap.size 3 i (i6 0) 1 8 underlying122 hi dB cP cS rfl dM _ _ _ rfl bp a2 n2 c2 xh rfl q1 (by unfold maxLen;omega) oM HB.size ?_;intro v' w3 rM zT);go_roundw
     case rel=>exact⟨HB.trans zT,ir (ir ⟨rfl,rM⟩)⟩
     case measure=>simp[intOf]
    ·go_wp2;go_ret;exact⟨_,rfl,bp,HB⟩
def dU(f m a:Int):Bool:=decide (f<=a)&&decide (0<=wrap64 (a-f))&&decide (wrap64 (a-f)<m)
def gS(f m a:Int):Bool:=decide (f<=a/\a<f+m)
def tS(f g:Int):Int:=if f<g then g else f
def wL(f m g n:Int):Bool:=dU f m (tS f g)&&dU g n (tS f g)
def gI(f m n:Int):Bool:=decide (0<=f/\f<32/\1<=m/\m<=n/\m<=32-f)
def abC(b:Bool):Value:=if b then .nilIface else .iface 87 (i6 1)
def Jn(b:Bool):Int:=if b then 0 else 1
theorem uD(f m n a:Int)(h:gI f m n=true)(ha:a<=9223372036854775807):dU f m a=gS f m a:=by
 simp only[gI,aco] at h;rw[ado];simp only[dU,gS,ac2,aco]
 by_cases h1:f<=a
 ·have:wrap64 (a-f)=a-f:=by unfold wrap64;omega
  rw[this];omega
 ·omega
theorem J6(f m g n:Int)(h:gI f m 32=true)(k:gI g n 32=true):wL f m g n=decide (f<g+n/\g<f+m):=by
 have h':=h;have k':=k;simp only[gI,aco] at h' k';have hk:tS f g<=9223372036854775807:=by unfold tS;split<;>omega
 unfold wL;rw[uD f m 32 _ h hk,uD g n 32 _ k hk,ado];simp only[gS,ac2,aco];unfold tS;split<;>omega
theorem Uo{f m a:Int}(h1:f<=a)(h2:0<=wrap64 (a-f)):decide (wrap64 (a-f)<m)=dU f m a:=by simp[dU,h1,h2]
theorem Um{f m a:Int}(h2:wrap64 (a-f)<0):false=dU f m a:=by
 have:¬0<=wrap64 (a-f):=oM
 simp[dU,this]
theorem Un{f m a:Int}(h2:a<f):false=dU f m a:=by
 have:¬f<=a:=oM
 simp[dU,this]
theorem Fo(f m a:Int)(w:World) :
 Calls prog 126 #[.agg #[i6 f,i6 m],i6 a] w (rB (.bool (dU f m a)) w):=by
 go_enter func126,ntmps126;go_wp2
 all_goals
  go_ret;exact⟨dN (by first|exact Uo ‹_› ‹_›|exact Um ‹_›|exact Un ‹_›),aB _ _⟩
theorem UR(f m g n:Int)(w:World) :
 Calls prog 204 #[.agg #[i6 f,i6 m],.agg #[i6 g,i6 n]] w (rB (.bool (wrap64 (f+m)==g)) w):=by
 go_enter func204,ntmps204;go_wp2;go_ret;exact⟨rfl,ja _ _ _⟩
theorem RW(f m g n:Int)(w:World)(b1 b2:Bool)(k:Int)(hk:tS f g=k)(h1:dU f m k=b1)(h2:dU g n k=b2) :
 Calls prog 174 #[.agg #[i6 f,i6 m],.agg #[i6 g,i6 n]] w (rB (.bool (b1&&b2)) w):=by
 by_cases hfg:f<g
 ·obtain rfl:g=k:=by simpa [tS,hfg] using hk
  clear hk
  cases b1
  all_goals
   go_enter func174,ntmps174;go_wp2_with(go_at_call 126;refine cM (Fo _ _ _ _) ?_;intro w1 hb;(try clear hc hf hz);(first|replace HB:=ab HB hb|replace HB:=ab (ah HB) hb|have HB:=hb);clear hb;obtain⟨hc,hf,hz⟩:=bj HB);go_ret;exact⟨rfl,bQ⟩
 ·obtain rfl:f=k:=by simpa [tS,hfg] using hk
  clear hk
  cases b1
  all_goals
   go_enter func174,ntmps174;go_wp2_with(go_at_call 126;refine cM (Fo _ _ _ _) ?_;intro w1 hb;(try clear hc hf hz);(first|replace HB:=ab HB hb|replace HB:=ab (ah HB) hb|have HB:=hb);clear hb;obtain⟨hc,hf,hz⟩:=bj HB);go_ret;exact⟨rfl,bQ⟩
theorem UN(f m g n:Int)(w:World) :
 Calls prog 174 #[.agg #[i6 f,i6 m],.agg #[i6 g,i6 n]] w (rB (.bool (wL f m g n)) w) :=
 RW f m g n w _ _ _ rfl rfl rfl
theorem WS{f m n:Int}(h:f<0\/31<f\/m<1\/n<m\/32-f<m):gI f m n=false:=by
 simp only[gI,ac4];omega
theorem R5{f m n:Int}(h1:0<=f)(h2:f<32)(h3:1<=m)(h4:m<=n)(h5:m<=32-f):gI f m n=true:=by
 simp only[gI,aco];omega
theorem Gd(f m n:Int)(w:World) :
 Calls prog 200 #[.agg #[i6 f,i6 m],i6 n] w (rB (abC (gI f m n)) w):=by
 go_enter func200,ntmps200;go_wp2
 all_goals
  go_ret;refine⟨XY ?_,aB _ _⟩
  first|(rw[WS oM];rfl)|(rw[R5 oM oM oM oM oM];rfl)
theorem ti(f m n:Int)(w:World)(h:gI f m n=true) :
 Calls prog 200 #[.agg #[i6 f,i6 m],i6 n] w (rB .nilIface w):=by
 have:=Gd f m n w;rw[h] at this;exact this
theorem TO(f m n:Int)(w:World)(h:gI f m n=false) :
 Calls prog 200 #[.agg #[i6 f,i6 m],i6 n] w (rB (.iface 87 (i6 1)) w):=by
 have:=Gd f m n w;rw[h] at this;exact this
theorem Gj(f m n:Int)(w:World) :
 Calls prog 221 #[.agg #[i6 f,i6 m],i6 n] w (rB (i6 (Jn (gI f m n))) w):=by
 go_enter func221,ntmps221;go_wp2
 all_goals
  go_ret;refine⟨jy ?_,aB _ _⟩
  first|(rw[WS oM];rfl)|(rw[R5 oM oM oM oM oM];rfl)
theorem XG(f m g n:Int)(w:World)(b:Bool)(h:wL f m g n=b) :
 Calls prog 174 #[.agg #[i6 f,i6 m],.agg #[i6 g,i6 n]] w (rB (.bool b) w):=by
 subst h;exact UN f m g n w
theorem ov(f m g n:Int)(w:World)(b:Bool)(h:(wrap64 (f+m)==g)=b) :
 Calls prog 204 #[.agg #[i6 f,i6 m],.agg #[i6 g,i6 n]] w (rB (.bool b) w):=by
 subst h;exact UR f m g n w
theorem rI(f m a:Int)(w:World)(b:Bool)(h:dU f m a=b) :
 Calls prog 126 #[.agg #[i6 f,i6 m],i6 a] w (rB (.bool b) w):=by
 subst h;exact Fo f m a w
theorem qQ(f m n:Int)(w:World)(h:gI f m n=true) :
 Calls prog 221 #[.agg #[i6 f,i6 m],i6 n] w (rB (i6 0) w):=by
 have:=Gj f m n w;rw[h] at this;exact this
theorem Uh(f m n:Int)(w:World)(h:gI f m n=false) :
 Calls prog 221 #[.agg #[i6 f,i6 m],i6 n] w (rB (i6 1) w):=by
 have:=Gj f m n w;rw[h] at this;exact this
theorem Vr(f:Int)(w:World) :
 Calls prog 20 #[.nilIface,i6 f] w (rB (.bool (f==0)) w):=by
 go_enter func20,ntmps20;go_wp2;go_ret;exact⟨rfl,aQ _ _⟩
theorem Pp(n:Int)(w:World):Sem.run prog (Instr.typeAssert (.iface 87 (i6 n)) 53 87 true) w=.ok (.tuple #[i6 n,.bool true]) w:=kR
theorem Vp(n f:Int)(w:World) :
 Calls prog 20 #[.iface 87 (i6 n),i6 f] w (rB (.bool (decide (0<f)&&(n==f))) w):=by
 have ra:=Pp n
 by_cases h:0<f
 ·go_enter func20,ntmps20;go_wp2;go_ret;exact⟨dN (by simp[h]),aQ _ _⟩
 ·go_enter func20,ntmps20;go_wp2;go_ret;exact⟨dN (by rw[aci oM];rfl),aQ _ _⟩
theorem SB(f m a:Int)(w:World)(h0:0<=f)(h1:f<32)(h2:1<=m)(h3:m<=32-f) :
 Calls prog 105 #[.agg #[i6 f,i6 m],i6 a] w (rB (.bool (gS f m a)) w):=by
 go_enter func105,ntmps105;go_wp2
 go_loop [5] (fun i=>∃k:Int,0<=k/\k<=m/\i=i6 k/\¬(f<=a/\a<f+k)) (fun i=>(m-intOf i).toNat)
 case atStart=>exact⟨0,oM,oM,rfl,oM⟩
 case round =>
  obtain⟨k,v8,tB,rfl,dS⟩:=hrel
  by_cases aq:k<m
  ·by_cases he:(f+k==a)=true
   ·go_wp2;go_ret;exact⟨dN (by simp only[adt] at he;symm;simp only[gS,aco];omega),aB _ _⟩
   ·have he':(f+k==a)=false:=by simpa using he
    clear he;go_wp2
    go_round
    case rel=>exact⟨k+1,oM,oM,gN,by simp only[ab8,ne_eq] at he';omega⟩
    case measure=>simp[intOf];omega
  ·go_wp2;go_ret;exact⟨dN (by symm;simp only[gS,ac4];omega),aB _ _⟩
theorem Kv(f m n a:Int)(w:World)(h:gI f m n=true)(b:Bool)(hb:gS f m a=b) :
 Calls prog 105 #[.agg #[i6 f,i6 m],i6 a] w (rB (.bool b) w):=by
 subst hb;simp only[gI,aco] at h;exact SB f m a w oM oM oM oM
def Jg(f m g n:Int):Bool:=decide (f<g+n/\g<f+m)
theorem TT{f m g n:Int}(h:¬(f<g+n/\g<f+m)):Jg f m g n=false:=aci h
theorem Qx{f m g n:Int}(h:f<g+n/\g<f+m):Jg f m g n=true:=acf h
theorem XM{f m g n j:Int}(h:∀t:Int,0<=t->t<j->¬((f<=t/\t<f+m)/\(g<=t/\t<g+n)))(hx:¬((f<=j/\j<f+m)/\(g<=j/\j<g+n))) :
 ∀t:Int,0<=t->t<j+1->¬((f<=t/\t<f+m)/\(g<=t/\t<g+n)):=by
 intro t t0 t1
 by_cases e:t=j
 ·subst e;exact hx
 ·exact h t t0 oM
theorem Pa(f m g n:Int)(w:World)(h:gI f m 32=true)(k:gI g n 32=true) :
 Calls prog 189 #[.agg #[i6 f,i6 m],.agg #[i6 g,i6 n]] w (rB (.bool (Jg f m g n)) w):=by
 go_enter func189,ntmps189;go_wp2;have h':=h;have k':=k;simp only[gI,aco] at h' k';obtain⟨f0,f1,m1,m2,m3⟩:=h';obtain⟨g0,g1,n1,n2,n3⟩:=k'
 go_loopw[5] (fun i wr=>∃j:Int,0<=j/\j<=32/\i=i6 j/\(∀t:Int,0<=t->t<j->¬((f<=t/\t<f+m)/\(g<=t/\t<g+n)))/\Below ((w.alloc (Obj.cells #[Value.int IntKind.i64 f,Value.int IntKind.i64 m] 144)).alloc (Obj.cells #[Value.int IntKind.i64 g,Value.int IntKind.i64 n] 144)).heap.size ((w.alloc (Obj.cells #[Value.int IntKind.i64 f,Value.int IntKind.i64 m] 144)).alloc (Obj.cells #[Value.int IntKind.i64 g,Value.int IntKind.i64 n] 144)) wr) (fun i _=>(32-intOf i).toNat)
 case atStart=>exact⟨0,oM,oM,rfl,fun t _ _=>oM,aQ _ _⟩
 case round =>
  obtain⟨j,vZ,hj1,rfl,dS,HB⟩:=hrel;have HN:Hid (∀t:Int,0<=t->t<j->¬((f<=t/\t<f+m)/\(g<=t/\t<g+n))):=dS;clear dS;obtain⟨hc,hf,hz⟩:=bj HB
  by_cases aq:j<32
  ·cases hx:gS f m j
   all_goals
    cases hy:gS g n j
    all_goals
     go_wp2_with(go_at_call 105;refine cM (Kv _ _ 32 _ _ aM _ aM) ?_;intro w1 hb;(try clear hc hf hz);(first|replace HB:=ab HB hb|replace HB:=ab (ah HB) hb|have HB:=hb);clear hb;obtain⟨hc,hf,hz⟩:=bj HB);simp only[gS,aco,ac4] at hx hy
     first
      |(go_ret;exact⟨dN (Qx oM).symm,bQ⟩)
      |(go_roundw;(case rel=>exact⟨j+1,oM,oM,gN,XM HN.out oM,HB⟩);(case measure=>simp[intOf];omega))
  ·go_wp2;go_ret;have dS:=HN.out;have hd:¬(f<g+n/\g<f+m):=fun⟨a1,a2⟩=>dS (tS f g) (by unfold tS;split<;>omega) (by unfold tS;split<;>omega) (by unfold tS;split<;>omega)
   exact⟨dN (TT hd).symm,bQ⟩
theorem G0(f m g n:Int)(w:World)(h:gI f m 32=true)(k:gI g n 32=true)(b:Bool)(hb:wL f m g n=b) :
 Calls prog 189 #[.agg #[i6 f,i6 m],.agg #[i6 g,i6 n]] w (rB (.bool b) w):=by
 subst hb;rw[J6 f m g n h k];exact Pa f m g n w h k
end
section
open Go.RowKit Go.BigFrame
def lB(r:Rq):Prop:=(r.wr=true/\(r.data.length:Int) ≠ r.m)\/(r.wr=false/\0<r.data.length)
def uG(r:Rq):Prop:=r.tags.length<1\/4<r.tags.length
def Bu(r:Rq):Prop:=r.born<0\/1000000000<r.born
def n8(r:Rq):Bool:=r.data.all fun s=>decide (s.size<=4)
structure abj(r:Rq):Prop where
 ok:gI r.f r.m 4=true
 shape:¬lB r
 tags:¬uG r
 born:¬Bu r
theorem LQ(r:Rq)(w:World)(h:gI r.f r.m 4=false) :
 Calls prog 188 #[r.val] w (rB (i6 1) w):=by
 obtain⟨wr,f,m,da,dc,data,ta,tc,tags,born⟩:=r;simp only[Rq.val];simp only at h;go_enter func188,ntmps188;go_wp2_with(go_at_call 221;refine cM (Uh _ _ _ _ h) ?_;intro w1 hb;(try clear hc hf hz);(first|replace HB:=ab HB hb|replace HB:=ab (ah HB) hb|have HB:=hb);clear hb;obtain⟨hc,hf,hz⟩:=bj HB);go_ret;exact⟨rfl,bQ⟩
theorem Ks(r:Rq)(w:World)(hr:r.At w)(h:gI r.f r.m 4=true)(h2:lB r) :
 Calls prog 188 #[r.val] w (rB (i6 3) w):=by
 obtain⟨wr,f,m,da,dc,data,ta,tc,tags,born⟩:=r;have l1:=hr.dl;simp only[Rq.val];simp only[lB] at h h2 l1
 rcases h2 with⟨rfl,h2⟩|⟨rfl,h2⟩
 ·have h3:((data.length:Int) != m)=true:=by simp only[adP];exact h2
  go_enter func188,ntmps188;go_wp2_with(go_at_call 221;refine cM (qQ _ _ _ _ h) ?_;intro w1 hb;(try clear hc hf hz);(first|replace HB:=ab HB hb|replace HB:=ab (ah HB) hb|have HB:=hb);clear hb;obtain⟨hc,hf,hz⟩:=bj HB);go_ret;exact⟨rfl,bQ⟩
 ·go_enter func188,ntmps188;go_wp2_with(go_at_call 221;refine cM (qQ _ _ _ _ h) ?_;intro w1 hb;(try clear hc hf hz);(first|replace HB:=ab HB hb|replace HB:=ab (ah HB) hb|have HB:=hb);clear hb;obtain⟨hc,hf,hz⟩:=bj HB);go_ret;exact⟨rfl,bQ⟩
theorem LU(r:Rq)(w:World)(hr:r.At w)(h:gI r.f r.m 4=true)(h2:¬lB r)(h3:uG r) :
 Calls prog 188 #[r.val] w (rB (i6 3) w):=by
 obtain⟨wr,f,m,da,dc,data,ta,tc,tags,born⟩:=r;have l1:=hr.dl;have l2:=hr.tl;simp only[Rq.val];simp only[lB,uG] at h h2 h3 l1 l2;have pE:(wr=true/\((data.length:Int) != m)=false)\/(wr=false/\¬(0:Int)<(data.length:Int)):=by
  cases wr
  ·right;refine⟨rfl,fun h'=>h2 (ir ⟨rfl,oM⟩)⟩
  ·left;refine⟨rfl,?_⟩;rw[acS];rcases Int.decEq (data.length:Int) m with h'|h';exact absurd (il ⟨rfl,h'⟩) h2;exact h'
 clear h2
 rcases h3 with h3|h3
 all_goals
  rcases pE with⟨rfl,zD⟩|⟨rfl,zD⟩
  all_goals
   go_enter func188,ntmps188;go_wp2_with(go_at_call 221;refine cM (qQ _ _ _ _ h) ?_;intro w1 hb;(try clear hc hf hz);(first|replace HB:=ab HB hb|replace HB:=ab (ah HB) hb|have HB:=hb);clear hb;obtain⟨hc,hf,hz⟩:=bj HB);go_ret;exact⟨rfl,bQ⟩
theorem LO(r:Rq)(w:World)(hr:r.At w)(h:gI r.f r.m 4=true)(h2:¬lB r)(h3:¬uG r)(h4:Bu r) :
 Calls prog 188 #[r.val] w (rB (i6 1) w):=by
 obtain⟨wr,f,m,da,dc,data,ta,tc,tags,born⟩:=r;have l1:=hr.dl;have l2:=hr.tl;simp only[Rq.val];simp only[lB,uG,Bu] at h h2 h3 h4 l1 l2;have pE:(wr=true/\((data.length:Int) != m)=false)\/(wr=false/\¬(0:Int)<(data.length:Int)):=by
  cases wr
  ·right;refine⟨rfl,fun h'=>h2 (ir ⟨rfl,oM⟩)⟩
  ·left;refine⟨rfl,?_⟩;rw[acS];rcases Int.decEq (data.length:Int) m with h'|h';exact absurd (il ⟨rfl,h'⟩) h2;exact h'
 clear h2;have t1:¬tags.length<1:=fun h'=>h3 (il h')
 have t2:¬4<tags.length:=fun h'=>h3 (ir h')
 clear h3
 rcases h4 with h4|h4
 all_goals
  rcases pE with⟨rfl,zD⟩|⟨rfl,zD⟩
  all_goals
   go_enter func188,ntmps188;go_wp2_with(go_at_call 221;refine cM (qQ _ _ _ _ h) ?_;intro w1 hb;(try clear hc hf hz);(first|replace HB:=ab HB hb|replace HB:=ab (ah HB) hb|have HB:=hb);clear hb;obtain⟨hc,hf,hz⟩:=bj HB);go_ret;exact⟨rfl,bQ⟩
theorem LP(r:Rq)(w:World)(hr:r.At w)(aa5:abj r) :
 Calls prog 188 #[r.val] w (rB (i6 (Jn (n8 r))) w):=by
 obtain⟨h,h2,h3,h4⟩:=aa5;obtain⟨wr,f,m,da,dc,data,ta,tc,tags,born⟩:=r;have l1:=hr.dl;have l2:=hr.tl;simp only[Rq.val];simp only[lB,uG,Bu] at h h2 h3 h4 l1 l2;have pE:(wr=true/\((data.length:Int) != m)=false)\/(wr=false/\¬(0:Int)<(data.length:Int)):=by
  cases wr
  ·right;refine⟨rfl,fun h'=>h2 (ir ⟨rfl,oM⟩)⟩
  ·left;refine⟨rfl,?_⟩;rw[acS];rcases Int.decEq (data.length:Int) m with h'|h';exact absurd (il ⟨rfl,h'⟩) h2;exact h'
 clear h2;have hs:=hr.data;simp only at hs;have t1:¬tags.length<1:=fun h'=>h3 (il h')
 have t2:¬4<tags.length:=fun h'=>h3 (ir h')
 have t3:¬born<0:=fun h'=>h4 (il h')
 have t4:¬1000000000<born:=fun h'=>h4 (ir h')
 clear h3 h4 hr;simp only[n8]
 rcases pE with⟨rfl,zD⟩|⟨rfl,zD⟩
 ·rcases hs with rfl|⟨b,o,rfl,Wu⟩
  ·exfalso
   simp only[gI,aco] at h;simp only[aev,acS] at zD
   omega
  ·have HA:Hid (∀i,i<data.length->w.cell? ⟨b,o+i,none⟩=some (.string (data.getD i bE))):=Wu;clear Wu;go_enter func188,ntmps188;go_wp2_with(go_at_call 221;refine cM (qQ _ _ _ _ h) ?_;intro w1 hb;(try clear hc hf hz);(first|replace HB:=ab HB hb|replace HB:=ab (ah HB) hb|have HB:=hb);clear hb;obtain⟨hc,hf,hz⟩:=bj HB)
   go_loopw[4] (fun i wr=>∃k:Nat,k<=data.length/\i=i6 k/\(data.take k).all (fun s=>decide (s.size<=4))=true/\wr=w1) (fun i _=>data.length-(intOf i).toNat)
   case atStart=>exact⟨0,oM,rfl,sM,rfl⟩
   case round =>
    clear h l2 t1 t2 t3 t4;obtain⟨k,hk,rfl,hall,rfl⟩:=hrel;have HL:Hid ((data.take k).all (fun s=>decide (s.size<=4))=true):=hall;clear hall
    by_cases aq:k<data.length
    ·have hck:=HA.out k aq;have gw:=dX hck;have l0:=al hck;go_wp2
     ·go_ret;exact⟨jy (by rw[CN aq (by simp only[ac4];omega)];rfl),bQ⟩
     ·go_roundw
      case rel=>exact⟨k+1,oM,gN,IY aq HL.out (by simp only[aco];omega),trivial⟩
      case measure=>simp[intOf];omega
    ·go_wp2;go_ret;exact⟨jy (by rw[MV oM HL.out];rfl),bQ⟩
 ·obtain rfl:data=[]:=acd oM;go_enter func188,ntmps188;go_wp2_with(go_at_call 221;refine cM (qQ _ _ _ _ h) ?_;intro w1 hb;(try clear hc hf hz);(first|replace HB:=ab HB hb|replace HB:=ab (ah HB) hb|have HB:=hb);clear hb;obtain⟨hc,hf,hz⟩:=bj HB)
  go_loop [4] (fun i=>i=i6 0) (fun _=>0)
  case atStart=>rfl
  case round =>
   subst hrel;go_wp2;go_ret;exact⟨rfl,bQ⟩
end
end Go.Proofs.YtlhgjplipgandaaGreatDoor
