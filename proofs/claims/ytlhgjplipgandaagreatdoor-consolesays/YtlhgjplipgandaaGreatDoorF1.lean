/- Joined. -/
import Derived.Test.YtlhgjplipgandaaGreatDoorProg
import Derived.WalkKit
import Derived.WalkSpells
import Derived.WalkLawsBesides
import Derived.Deep.QuietTactic
import Derived.BigQuiet
import Derived.Lib.AppendZerosOnto
import Derived.Lib.SliceRun
import Derived.Maps.OwnSet
import Derived.Maps.OwnOps
import Derived.Maps.Views
set_option maxRecDepth 100000
set_option maxHeartbeats 8000000
set_option linter.unusedSimpArgs false
set_option linter.unusedSectionVars false
namespace Go.Proofs.YtlhgjplipgandaaGreatDoor
open Tryz
section
open Go.RowKit
def cH(n:Int):Prop:=-9223372036854775808<=n/\n<=9223372036854775807
structure Later(w:World) where
 v:World
 below:Below w.heap.size w v
theorem Later.cell{w:World}(p:Later w)(b o:Nat)(h:b<w.heap.size):p.v.cell? ⟨b,o,none⟩=w.cell? ⟨b,o,none⟩:=p.below.cell (p:=⟨b,o,none⟩) h
theorem Later.frozen{w:World}(p:Later w)(b o:Nat)(h:b<w.heap.size):p.v.frozen? ⟨b,o,none⟩=w.frozen? ⟨b,o,none⟩:=p.below.frozen (p:=⟨b,o,none⟩) h
theorem aD{P:Program}{id:Nat}{Q:Exit->Act->World->Prop}{a:Act}{W w:World}{l:List Oper}(HB:Below W.heap.size W w)(hm:P.follows .mixedOrders=true)(hB:Region.lexB .any l.toArray=true)
 (h:wpQuiet P l.toArray (fun w'=>∃p:Later W,w'=p.v) (fun a'=>∀w',(∃p:Later W,w'=p.v)->Q .normal a' w') l a):(Code.region id l.toArray true).wp P Q a w :=
 wp_region_quiet (C:=fun w'=>∃p:Later W,w'=p.v) hm hB ⟨⟨_,HB.drew⟩,rfl⟩ (by simpa using h)
theorem cg{P:Program}{f:FuncId}{args:Array Value}{w:World}{p:Later w}{v:Value}
 (h:Calls P f args p.v fun e w'=>e=.returned v/\Below p.v.heap.size p.v w'):Calls P f args p.v fun e eZ=>e=.returned v/\∃q:Later w,eZ=q.v :=
 h.mono fun _ eZ ⟨he,hb⟩=>⟨he,⟨eZ,p.below.trans (hb.mono p.below.size)⟩,rfl⟩
theorem br{W w1:World}(hb:Below W.heap.size W w1):(∀b o,b<W.heap.size->w1.cell? ⟨b,o,none⟩=W.cell? ⟨b,o,none⟩)/\(∀b o,b<W.heap.size->w1.frozen? ⟨b,o,none⟩=W.frozen? ⟨b,o,none⟩)/\W.heap.size<=w1.heap.size :=
 ⟨fun b o h=>hb.cell (p:=⟨b,o,none⟩) h,fun b o h=>hb.frozen (p:=⟨b,o,none⟩) h,hb.size⟩
theorem aA(w:World)(o:Obj):Below w.heap.size w (w.alloc o):=(Below.refl _ _).alloc (Nat.le_refl _) o
theorem jo(w:World)(o o':Obj):Below w.heap.size w ((w.alloc o).alloc o'):=(aA w o).alloc (by simp) o'
theorem af{W w1 w2:World}(h:Below W.heap.size W w1)(h2:Below w1.heap.size w1 w2):Below W.heap.size W w2:=h.trans (h2.mono h.size)
theorem ah{W w1:World}(h:Below W.heap.size W w1)(o:Obj):Below W.heap.size W (w1.alloc o):=h.alloc h.size o
theorem aj{W w1:World}(h:Below W.heap.size W w1):Below W.heap.size W w1.drew:=h.drew
theorem Ae{W w1:World}(h:Below W.heap.size W w1){p:Addr}(hp:W.heap.size<=p.block)(u:Value):Below W.heap.size W (w1.setCell p u):=h.setCell hp u
theorem al{W w1:World}(h:Below W.heap.size W w1){b o:Nat}(hp:W.heap.size<=b)(u:Value):Below W.heap.size W (w1.setCell ⟨b,o,none⟩ u):=h.setCell hp u
theorem ey{a b:Bool}(h:a=b):Ending.returned (.bool a)=.returned (.bool b):=by rw[h]
theorem jI{k:IntKind}{a b:Int}(h:a=b):Ending.returned (.int k a)=.returned (.int k b):=by rw[h]
theorem aar{a b:Value}(h:a=b):Ending.returned a=.returned b:=by rw[h]
theorem dP{α:Type}:(∀(l:List α) (i:Nat) (h:i<l.toArray.size),l.toArray[i]'h=l[i]'(by simpa using h))/\(∀(a:α) (l:List α) (i:Nat) (h:i+1<(a::l).length),(a::l)[i+1]'h=l[i]'(by simpa using h))/\(∀(a:α) (l:List α) (h:0<(a::l).length),(a::l)[0]'h=a)/\(∀(l:List α) (i:Nat) (a:α),l.toArray.setIfInBounds i a=(l.set i a).toArray)/\(∀(x:α) (l:List α) (a:α),(x::l).set 0 a=a::l)/\(∀(x:α) (l:List α) (n:Nat) (a:α),(x::l).set (n+1) a=x::l.set n a) :=
 ⟨fun _ _ _=>List.getElem_toArray _,fun _ _ _ _=>rfl,fun _ _ _=>rfl,fun _ _ _=>List.setIfInBounds_toArray _ _ _,fun _ _ _=>rfl,fun _ _ _ _=>rfl⟩
theorem bQ{n:Nat}{w w':World}(h:Below n w w':=by with_reducible repeat first|exact Below.refl _ _|refine ah ?_ _|refine aj ?_|refine al ?_ (by omega) _|refine af ?_ (by assumption)):Below n w w':=h
theorem wQ{P:Program}{id:Nat}{Q:Exit->Act->World->Prop}{a:Act}{W w:World}{l:List Oper}(h:wpQuiet P l.toArray (fun w'=>∃p:Later W,w'=p.v) (fun a'=>∀w',(∃p:Later W,w'=p.v)->Q .normal a' w') l a)(h1:Below W.heap.size W w:=by first|exact HB|exact aj HB|exact Below.refl _ _)(hm:P.follows .mixedOrders=true:=by kernel_rfl)(hB:Region.lexB .any l.toArray=true:=by kernel_rfl):(Code.region id l.toArray true).wp P Q a w:=aD h1 hm hB h
theorem oM{p:Prop}(h:p:=by omega):p:=h
theorem sM{p:Prop}(h:p:=by simp):p:=h
theorem gN{p:Prop}(h:p:=by go_num):p:=h
theorem kR{p:Prop}(h:p:=by kernel_rfl):p:=h
theorem dM{p:Prop}(h:p:=by decide):p:=h
theorem dK{p:Prop}(h:p:=by decide +kernel):p:=h
theorem aM{p:Prop}(h:p:=by assumption):p:=h
theorem cM{P:Program}{f:FuncId}{args:Array Value}{w:World}{v:Value}{R:World->Prop}{Q:Ending->World->Prop}(h:Calls P f args w fun e w'=>e=.returned v/\R w')(k:∀w',R w'->Q (.returned v) w'):Calls P f args w Q:=h.mono fun e w' x=>by rw[x.1];exact k w' x.2
abbrev i6(n:Int):Value:=.int .i64 n
abbrev bE:ByteArray:=ByteArray.empty
abbrev bL(w:World)(w':World):Prop:=Below w.heap.size w w'
attribute [go_sem] Later.cell Later.frozen
abbrev il{a b:Prop}:=@Or.inl a b
abbrev ir{a b:Prop}:=@Or.inr a b
abbrev rB(v:Value)(w:World):Ending->World->Prop:=fun e w'=>e=.returned v/\Below w.heap.size w w'
theorem qE{P:Program}{ops:Array Oper}{C:World->Prop}{Q:Act->World->Prop}{a:Act}{W:World}(h:∀p:Later W,Below W.heap.size W p.v->(∀b o,b<W.heap.size->p.v.cell? ⟨b,o,none⟩=W.cell? ⟨b,o,none⟩)->(∀b o,b<W.heap.size->p.v.frozen? ⟨b,o,none⟩=W.frozen? ⟨b,o,none⟩)->W.heap.size<=p.v.heap.size->Q a p.v):wpQuiet P ops C (fun a'=>∀w',(∃p:Later W,w'=p.v)->Q a' w') [] a:=wpQuiet_nil (fun _ ⟨p,e⟩=>by rw[e];exact h p p.below (br p.below).1 (br p.below).2.1 (br p.below).2.2)
abbrev aX:=@Go.RowKit.Below.refl
abbrev aaO:=@Nat.le_refl
abbrev aaP:=@if_neg
abbrev aaQ:=@List.length_append
abbrev aaU:=@beq_eq_false_iff_ne
abbrev aaV:=@if_pos
abbrev aaW:=@Go.World.size_alloc
abbrev aaX:=@List.getElem?_eq_getElem
abbrev aaY:=@Go.bodyPost_ret
abbrev aaZ:=@List.eq_nil_of_length_eq_zero
abbrev aa0:=@Nat.not_lt_zero
abbrev aa1:=@decide_eq_true
abbrev aa2:=@Go.World.cell?_setCell_same
abbrev aa4:=@Option.some.injEq
abbrev aa5:=@List.getElem_mem
abbrev aa6:=@Go.World.cell?_setCell_other
abbrev aa7:=@Bool.false_ne_true
abbrev aa8:=@List.mem_append_right
abbrev aa9:=@decide_eq_false
abbrev aba:=@decide_eq_true_eq
abbrev abb:=@Nat.le_trans
abbrev abc:=@Nat.zero_add
abbrev abd:=@List.getD_eq_getElem?_getD
abbrev abe:=@List.length_map
abbrev abg:=@Go.World.ownsRow_nil
abbrev abh:=@List.mem_append
abbrev abl:=@List.length_singleton
abbrev abm:=@List.length_take
abbrev abn:=@List.mem_append_left
abbrev abo:=@List.mem_of_mem_eraseIdx
abbrev abp:=@List.append_assoc
abbrev abq:=@List.mem_singleton
abbrev abr:=@Go.IntKind.wrap_i64
abbrev abv:=@List.take_of_length_le
abbrev abz:=@List.take_succ_eq_append_getElem
abbrev abF:=@Nat.lt_of_lt_of_le
abbrev abG:=@Int.toNat_natCast
abbrev abJ:=@List.nil_append
abbrev abL:=@Go.WideMaps.keyOf_string_mk
abbrev abM:=@List.getElem_of_mem
abbrev abS:=@List.length_set
abbrev abT:=@List.take_append_of_le_length
abbrev abU:=@List.getElem?_append_left
abbrev abV:=@Go.Value.slice.injEq
abbrev abW:=@Bool.and_eq_true
abbrev abX:=@List.findIdx?_eq_some_iff_getElem
abbrev abY:=@Option.some.inj
abbrev abZ:=@List.getElem?_append_right
abbrev ab6:=@Array.length_toList
abbrev ab7:=@List.length_eraseIdx
abbrev ab8:=@List.take_append_drop
abbrev aca:=@List.map_append
abbrev acb:=@List.mem_or_eq_of_mem_set
abbrev acd:=@List.mem_cons_self
abbrev ace:=@bne_eq_false_iff_eq
abbrev acf:=@List.length_cons
abbrev acg:=@List.mem_of_getElem?
abbrev ach:=@Nat.zero_le
abbrev aci:=@Go.Addr.mk.injEq
abbrev acj:=@List.mem_cons
abbrev ack:=@List.eraseIdx_eq_take_drop_succ
abbrev acm:=@Go.heap_alloc_new
abbrev acp:=@List.getElem?_eq_some_iff
abbrev acq:=@List.getElem?_map
abbrev acs:=@List.mem_cons_of_mem
abbrev acv:=@decide_eq_false_iff_not
abbrev acy:=@List.findIdx?_eq_none_iff
abbrev acz:=@Go.RowKit.ownsRow_setCell_below
abbrev acA:=@List.drop_eq_nil_of_le
abbrev acB:=@List.size_toArray
abbrev acC:=@List.getElem?_eq_none
abbrev acE:=@List.length_filter_le
abbrev acI:=@Go.Maps.string_keyed
abbrev acK:=@Prod.mk.injEq
abbrev acL:=@Go.World.cell?_alloc_mark
abbrev acM:=@List.mem_map
abbrev acO:=@Option.getD_some
abbrev acP:=@Go.WalkArith.wf_i64
abbrev acS:=@and_true
abbrev acT:=@congrArg
abbrev ac0:=@Bool.eq_iff_iff
abbrev ac1:=@Nat.min_eq_left
abbrev ac3:=@beq_iff_eq
abbrev ac5:=@List.length_drop
abbrev ac6:=@List.pairwise_append
abbrev ac7:=@List.pairwise_iff_getElem
abbrev ac9:=@Array.getElem?_eq_none
abbrev adh:=@Go.RowKit.Below.trans
abbrev adi:=@Bool.false_eq_true
abbrev adk:=@Go.World.size_setCell
abbrev adn:=@List.set_append_right
abbrev adA:=@Bool.true_and
abbrev adI:=@Nat.lt_or_ge
abbrev adJ:=@List.getElem_cons_succ
abbrev afb:=@List.getElem_set_ne
abbrev afc:=@List.getElem_set_self
abbrev afd:=@List.append_nil
abbrev afe:=@Bool.or_eq_false_iff
abbrev aff:=@List.take_length
abbrev afg:=@bne_iff_ne
abbrev afh:=@List.getElem_cons_zero
abbrev afi:=@List.length_pos_iff
abbrev afj:=@if_true
abbrev afk:=@Array.toArray_toList
abbrev afl:=@Option.map_some
abbrev afm:=@Go.ByteArray.toList_eq
abbrev afn:=@Array.toList_inj
abbrev afo:=@List.any_eq_true
abbrev afp:=@List.getElem_map
abbrev afq:=@List.drop_eq_getElem_cons
abbrev afr:=@if_false
abbrev afs:=@true_and
abbrev aft:=@List.map_cons
abbrev afu:=@List.drop_append
abbrev afv:=@List.take_zero
abbrev afw:=@Int.le_refl
abbrev afx:=@List.countP_append
abbrev afy:=@List.filter_append
abbrev afz:=@List.map_nil
abbrev afA:=@List.set_set
abbrev afB:=@Nat.add_sub_cancel
abbrev afC:=@Nat.sub_self
abbrev afD:=@List.Perm.append_left
abbrev afE:=@List.length_replicate
abbrev afF:=@List.singleton_append
abbrev afG:=@Bool.or_false
abbrev afH:=@Int.tmod_eq_emod_of_nonneg
abbrev afI:=@Go.plainElem_int
abbrev afJ:=@List.take_take
abbrev afK:=@Go.Maps.atKey_put_same
abbrev afL:=@List.ext_getElem
abbrev afM:=@Nat.le_of_eq
abbrev afN:=@List.filter_eq_self
abbrev afO:=@List.toList_toArray
abbrev afP:=@List.filter_cons_of_neg
abbrev afQ:=@List.filter_cons_of_pos
abbrev afR:=@List.pairwise_singleton
abbrev afS:=@Bool.or_eq_true
abbrev afT:=@Go.Calls.mono
abbrev afU:=@List.range_succ
abbrev afV:=@Option.map_none
abbrev afW:=@List.getElem_cons_drop
abbrev afX:=@List.mem_eraseIdx_iff_getElem
abbrev afY:=@Bool.not_eq_true'
abbrev afZ:=@List.any_eq_false
abbrev af0:=@List.drop_drop
abbrev af1:=@Go.World.frozen?_setCell
abbrev af2:=@List.set_append_left
abbrev af3:=@Go.World.cell?_alloc_lt
abbrev af4:=@Array.getElem?_eq_some_iff
abbrev af5:=@Prod.mk.inj
abbrev af6:=@List.getElem_append_right
abbrev af7:=@List.length_nil
abbrev af8:=@List.mem_filter
abbrev af9:=@UInt8.toNat_inj
abbrev aga:=@Go.Maps.atKey_put_other
abbrev agb:=@Int.le_of_lt
abbrev agc:=@List.getElem?_take
abbrev agd:=@List.map_set
abbrev age:=@Nat.eq_zero_or_pos
abbrev agf:=@Go.World.ownsMap_made
abbrev agh:=@Go.Maps.keyOf_int_mk
abbrev agi:=@Bool.false_and
abbrev agj:=@List.flatMap_cons
abbrev agk:=@List.take_add_one
abbrev agl:=@List.set_eq_take_append_cons_drop
abbrev agm:=@List.all_cons
abbrev agn:=@Nat.lt_irrefl
abbrev agp:=@List.all_eq_true
abbrev agq:=@List.countP_cons
abbrev agr:=@List.not_mem_nil
abbrev ags:=@Go.Lib.run_eql_slice_nil
abbrev agt:=@Go.run_append_owned_none
abbrev agu:=@Go.Exit.noGoto_ret
abbrev agv:=@List.mem_of_mem_take
abbrev agw:=@Nat.le_of_lt
abbrev agx:=@Go.World.size_drew
abbrev agy:=@Go.wpList_append_own_at
abbrev agz:=@Go.wpList_mapUpdate_own
abbrev agA:=@Int.toNat_of_nonneg
abbrev agB:=@List.map_congr_left
abbrev agC:=@List.map_eq_nil_iff
abbrev agD:=@List.drop_zero
abbrev agE:=@List.getElem?_drop
abbrev agF:=@List.pairwise_cons
abbrev agG:=@Go.World.ownsRow_made
abbrev agH:=@Go.run_string_add_sum
abbrev agI:=@List.any_cons
abbrev agJ:=@List.getElem_drop
abbrev agK:=@List.getElem_take
abbrev agL:=@List.pairwise_map
abbrev agM:=@of_decide_eq_true
abbrev agO:=@Bool.not_not
abbrev agP:=@Decidable.em
abbrev agR:=@List.isEmpty_iff
abbrev agS:=@Nat.add_zero
abbrev agT:=@Prod.ext_iff
def gg(w:World)(size:Nat)(a:Option Addr)(n c:Nat)(xs:List Value):Prop :=
 xs.length=n*size/\(∀u∈xs,u.oneCell'=true)/\((a=none/\n=0/\c=0)\/∃ad:Addr,a=some ad/\∀j u,xs[j]?=some u->w.cell? (ad.add j)=some u)
theorem mU{w:World}{a:Addr}{v:Value}(h:w.cell? a=some v):a.block<w.heap.size:=by
 rcases adI a.block w.heap.size with h'|h'
 ·exact h'
 ·simp[World.cell?,ac9 h'] at h
theorem ea{w w':World}{a:Addr}{v:Value}(hb:bL w w')(h:w.cell? a=some v):w'.cell? a=some v:=by
 rw[hb.cell (mU h)];exact h
theorem gg.later{w w':World}{size n c:Nat}{a:Option Addr}{xs:List Value}(h:gg w size a n c xs)(hb:bL w w'):gg w' size a n c xs:=by
 obtain⟨h1,h2,h3⟩:=h;refine⟨h1,h2,?_⟩
 rcases h3 with h|⟨ad,ha,hc⟩
 ·exact il h
 ·exact ir ⟨ad,ha,fun j u hj=>ea hb (hc j u hj)⟩
theorem aP{P:Program}{ops:Array Oper}{rest:List Oper}{o:Oper}{a:Act}{Q:Exit->Act->World->Prop}{w:World}(uP:o.guard=none)(s x:Operand)(t:TypeId)
 (ho:o.op=.call { callee:=.builtin .append,args:=#[s,x],argTypes:=#[t,t] })
 (base:Nat) (e:TypeId) (i:TypeInfo) (z:Value) (size bytes:Nat) (ht:P.underlying t=some (.slice e)) (hi:P.info? e=some i) (hz:i.zero=some z)
 (sU:i.size=size) (jh:i.bytes=bytes) (zD:z.cells.size=size) (iV:0<size)
 (v:Value) (n:Nat) (xs:List Value) (hs:a.eval s=v) (bu:w.ownsRow base e size v n xs)
 (ad:Option Addr) (m c:Nat) (news:List Value) (hx:a.eval x=.slice ad m c) (gX:gg w size ad m c news)
 (BK:n+m<=maxLen) (oI:(n+m)*bytes<=140737488355328) (kx:base<=w.heap.size)
 (h:∀v' w',w'.ownsRow base e size v' (n+m) (xs++news)->Below base w w'->wpList P ops Q rest (a.put o.dst v') w'):wpList P ops Q (o::rest) a w:=by
 obtain⟨h1,h2,h3⟩:=gX
 rcases h3 with⟨rfl,rfl,rfl⟩|⟨R0,rfl,hc⟩
 ·obtain rfl:news=[]:=aaZ (by rw[h1];simp);have hr:=agt (P:=P) w base t o.type e i size ht hi v n xs bu;refine wpList_plain uP fun K hK=>?_
  unfold Oper.wp execOp;simp only[ho,resolve,invoke,builtin,Sem.run_bind,Sem.run_pure,Result.andThen_ok,List.map_toArray,aft,afz,hs,hx,hr];exact hK _ _ (h v w (by simpa using bu) (aX _ _))
 ·refine wpList_append_own w uP s x t ho base e i z size bytes ht hi hz sU jh zD iV v n xs hs bu R0 m c news hx h1 hc h2 BK oI kx ?_;intro v' w' h4 h5 _;exact h v' w' h4 ((aX _ _).grown h5 kx fun k hk=>(bu.lt k hk).1)
theorem o7{P:Program}{ops:Array Oper}{rest:List Oper}{o:Oper}{a:Act}{Q:Exit->Act->World->Prop}{w:World}(uP:o.guard=none)(s x:Operand)(t tn:TypeId)
 (ho:o.op=.call { callee:=.builtin .append,args:=#[s,x],argTypes:=#[t,tn] })
 (e:TypeId) (i:TypeInfo) (z:Value) (size bytes:Nat) (ht:P.underlying t=some (.slice e)) (zA:P.underlying tn=some (.int .i64)) (hi:P.info? e=some i) (hz:i.zero=some z)
 (sU:i.size=size) (jh:i.bytes=bytes) (zD:z.cells.size=size) (iV:0<size)
 (n:Nat) (h0:0<n) (hs:a.eval s=.slice none 0 0) (hx:a.eval x=i6 n) (BK:n<=4611686018427387904) (oI:n*bytes<=140737488355328)
 (h:∀cap w',w'.ownsRow w.heap.size e size (.slice (some ⟨w.heap.size,0,none⟩) 0 cap) 0 []->bL w w'->n<=cap->cap<=9223372036854775807->wpList P ops Q rest (a.put o.dst (.slice (some ⟨w.heap.size,0,none⟩) n cap)) w'):wpList P ops Q (o::rest) a w:=by
 have hr:=Lib.run_append_nil_zeros (P:=P) w t tn o.type e i z .i64 .i64 ht zA hi hz n h0 oM oM (by rw[jh];omega);refine wpList_plain uP fun K hK=>?_
 unfold Oper.wp execOp;simp only[ho,resolve,invoke,builtin,Sem.run_bind,Sem.run_pure,Result.andThen_ok,List.map_toArray,aft,afz,hs,hx,hr];have mE:=grownCap_ge w n 0 e;have ig:grownCap w n 0 e<=maxLen:=grownCap_le_maxLen w n 0 e (by unfold maxLen;omega);refine hK _ _ (h _ _ ⟨sM,ir ⟨w.heap.size,_,_,rfl,aaO _,acm w.drew _,ach _,ig,?_,sM⟩⟩ ?_ mE (by unfold maxLen at ig;omega))
 ·simp only[Array.size_append,size_zeroCells,zD,<-Nat.add_mul]
  congr 1
  omega
 ·exact((aX _ _).drew).alloc (aaO _) _
theorem eS{P:Program}{e:TypeId}{z:Value}{size bytes:Nat}(h:(P.info? e).map (fun i=>(i.zero,i.size,i.bytes))=some (some z,size,bytes)):∃i,P.info? e=some i/\i.zero=some z/\i.size=size/\i.bytes=bytes:=by
 cases h':P.info? e with
 |none=>rw[h'] at h;cases h
 |some i =>
  rw[h'] at h;simp only[afl,aa4,acK] at h;exact⟨i,rfl,h.1,h.2.1,h.2.2⟩
theorem uy:(prog.info? 146).map (fun i=>(i.zero,i.size,i.bytes))=some (some (.agg #[.bool false,i6 0,i6 0,.slice none 0 0,.slice none 0 0,i6 0]),6,80):=kR
theorem P2(w:World):Calls prog 168 #[.slice none 0 0,i6 0] w (rB (.slice none 0 0) w):=by
 go_enter func168,ntmps168;go_wp2;go_ret;exact⟨rfl,aX _ _⟩
theorem SP(n:Nat)(w:World)(h0:0<n)(hn:n<=1000000):Calls prog 168 #[.slice none 0 0,i6 n] w fun e w'=>∃v,e=.returned v/\w'.ownsRow w.heap.size 146 6 v 0 []/\bL w w':=by
 obtain⟨i,hi,de,cC,cF⟩:=eS uy;go_enter func168,ntmps168;go_wp2_with(at_builtin;refine o7 rfl _ _ 47 3 rfl 146 i (.agg #[.bool false,i6 0,i6 0,.slice none 0 0,.slice none 0 0,i6 0]) 6 80 underlying47 underlying3 hi de cC cF rfl dM n h0 rfl rfl oM oM ?_;intro cap w1 bu HB bS ig);go_ret;exact⟨_,rfl,bu,bQ⟩
theorem SO(n:Nat)(w:World)(hn:n<=1000000):Calls prog 168 #[.slice none 0 0,i6 n] w fun e w'=>∃v,e=.returned v/\w'.ownsRow w.heap.size 146 6 v 0 []/\bL w w':=by
 rcases age n with rfl|h
 ·exact(P2 w).mono fun e w' ⟨he,hb⟩=>⟨_,he,abg _ _ _ _,hb⟩
 ·exact SP n w h hn
theorem yr:(prog.info? 9).map (fun i=>(i.zero,i.size,i.bytes))=some (some (.string bE),1,16):=kR
theorem P3(w:World):Calls prog 229 #[.slice none 0 0,i6 0] w (rB (.slice none 0 0) w):=by
 go_enter func229,ntmps229;go_wp2;go_ret;exact⟨rfl,aX _ _⟩
theorem SR(n:Nat)(w:World)(h0:0<n)(hn:n<=1000000):Calls prog 229 #[.slice none 0 0,i6 n] w fun e w'=>∃v,e=.returned v/\w'.ownsRow w.heap.size 9 1 v 0 []/\bL w w':=by
 obtain⟨i,hi,de,cC,cF⟩:=eS yr;go_enter func229,ntmps229;go_wp2_with(at_builtin;refine o7 rfl _ _ 51 3 rfl 9 i (.string bE) 1 16 underlying51 underlying3 hi de cC cF rfl dM n h0 rfl rfl oM oM ?_;intro cap w1 bu HB bS ig);go_ret;exact⟨_,rfl,bu,bQ⟩
theorem SQ(n:Nat)(w:World)(hn:n<=1000000):Calls prog 229 #[.slice none 0 0,i6 n] w fun e w'=>∃v,e=.returned v/\w'.ownsRow w.heap.size 9 1 v 0 []/\bL w w':=by
 rcases age n with rfl|h
 ·exact(P3 w).mono fun e w' ⟨he,hb⟩=>⟨_,he,abg _ _ _ _,hb⟩
 ·exact SR n w h hn
theorem Ax:(prog.info? 3).map (fun i=>(i.zero,i.size,i.bytes))=some (some (i6 0),1,8):=kR
theorem P1(w:World):Calls prog 230 #[.slice none 0 0,i6 0] w (rB (.slice none 0 0) w):=by
 go_enter func230,ntmps230;go_wp2;go_ret;exact⟨rfl,aX _ _⟩
theorem SN(n:Nat)(w:World)(h0:0<n)(hn:n<=1000000):Calls prog 230 #[.slice none 0 0,i6 n] w fun e w'=>∃v,e=.returned v/\w'.ownsRow w.heap.size 3 1 v 0 []/\bL w w':=by
 obtain⟨i,hi,de,cC,cF⟩:=eS Ax;go_enter func230,ntmps230;go_wp2_with(at_builtin;refine o7 rfl _ _ 122 3 rfl 3 i (i6 0) 1 8 underlying122 underlying3 hi de cC cF rfl dM n h0 rfl rfl oM oM ?_;intro cap w1 bu HB bS ig);go_ret;exact⟨_,rfl,bu,bQ⟩
theorem SM(n:Nat)(w:World)(hn:n<=1000000):Calls prog 230 #[.slice none 0 0,i6 n] w fun e w'=>∃v,e=.returned v/\w'.ownsRow w.heap.size 3 1 v 0 []/\bL w w':=by
 rcases age n with rfl|h
 ·exact(P1 w).mono fun e w' ⟨he,hb⟩=>⟨_,he,abg _ _ _ _,hb⟩
 ·exact SN n w h hn
end
section
open Go.RowKit Go.BigFrame
structure Bf where
 pl:Int
 data:ByteArray
 bM:Bool
 used:Int
def Bf.cell(r:Bf):Nat->Value
 |0=>i6 r.pl
 |1=>.string r.data
 |2=>.bool r.bM
 |_=>i6 r.used
abbrev Bf.val(r:Bf):Value:=.agg #[i6 r.pl,.string r.data,.bool r.bM,i6 r.used]
theorem ar{w:World}{b o:Nat}{v:Value}(h:w.cell? ⟨b,o,none⟩=some v):b<w.heap.size:=mU h
theorem ai{w w':World}{b o:Nat}{v:Value}(hb:bL w w')(h:w.cell? ⟨b,o,none⟩=some v):w'.cell? ⟨b,o,none⟩=some v:=ea hb h
theorem uv{w:World}{b o:Nat}{v:Value}(h:w.cell? ⟨b,o,none⟩=some v)(x:Obj):(w.alloc x).cell? ⟨b,o,none⟩=some v:=by
 rw[af3 w x _ (mU h)];exact h
def bA(w:World)(a:Option Addr)(l:List Bf):Prop :=
 (l=[]\/∃b o,a=some ⟨b,o,none⟩/\∀i (h:i<l.length) j,j<4->w.cell? ⟨b,o+i*4+j,none⟩=some (l[i].cell j))/\l.length<=9223372036854775807
theorem bA.later{w w':World}{a:Option Addr}{l:List Bf}(h:bA w a l)(hb:bL w w'):bA w' a l:=by
 obtain⟨h1,h3⟩:=h;refine⟨?_,h3⟩
 rcases h1 with h|⟨b,o,ha,hc⟩
 ·exact il h
 ·exact ir ⟨b,o,ha,fun i hi j hj=>ai hb (hc i hi j hj)⟩
theorem bA.form{w:World}{a:Option Addr}{l:List Bf}(h:bA w a l):l=[]\/∃b o,a=some ⟨b,o,none⟩:=by
 rcases h.1 with h|⟨b,o,ha,_⟩
 ·exact il h
 ·exact ir ⟨b,o,ha⟩
theorem bA.cells{w:World}{b o:Nat}{l:List Bf}(h:bA w (some ⟨b,o,none⟩) l){i:Nat}(hi:i<l.length) :
 w.cell? ⟨b,o+i*4,none⟩=some (i6 l[i].pl)/\w.cell? ⟨b,o+i*4+1,none⟩=some (.string l[i].data)/\w.cell? ⟨b,o+i*4+2,none⟩=some (.bool l[i].bM)/\w.cell? ⟨b,o+i*4+3,none⟩=some (i6 l[i].used):=by
 rcases h.1 with rfl|⟨b',o',ha,hc⟩
 ·exact absurd hi (aa0 _)
 ·simp only[aa4,aci,acS] at ha;obtain⟨rfl,rfl⟩:=ha;exact⟨hc i hi 0 oM,hc i hi 1 oM,hc i hi 2 oM,hc i hi 3 oM⟩
def aU(l:List Bf):List Value:=l.flatMap fun r=>[r.cell 0,r.cell 1,r.cell 2,r.cell 3]
theorem fj(l:List Bf):(aU l).length=l.length*4:=by
 induction l with
 |nil=>rfl
 |cons r l ih=>rw[aU,agj,aaQ,<-aU,ih,acf];simp;omega
theorem bZ(l l':List Bf):aU (l++l')=aU l++aU l':=by simp[aU]
theorem Ii(l:List Bf):∀(i j:Nat) (h:i<l.length),j<4->(aU l)[i*4+j]?=some (l[i].cell j):=by
 induction l with
 |nil=>intro i j h;exact absurd h (aa0 _)
 |cons r l ih =>
  intro i j h hj;rw[aU,agj,<-aU]
  cases i with
  |zero =>
   rw[abU (by simp;omega)]
   match j,hj with
   |0,_=>rfl
   |1,_=>rfl
   |2,_=>rfl
   |3,_=>rfl
  |succ i =>
   rw[abZ (by simp;omega)];have:=ih i j (by simpa using h) hj;simp only[acf,af7,adJ];rw[<-this];congr 1;omega
theorem n9(l:List Bf):∀u∈aU l,u.oneCell'=true:=by
 intro u hu;simp only[aU,List.mem_flatMap] at hu;obtain⟨r,_,hr⟩:=hu;simp only[acj,agr,or_false] at hr
 rcases hr with rfl|rfl|rfl|rfl<;>rfl
theorem PG{l:List Bf}{k:Nat}{u:Value}(h:(aU l)[k]?=some u):∃i j,∃hi:i<l.length,j<4/\k=i*4+j/\u=l[i].cell j:=by
 have hk:k<(aU l).length:=by
  rcases adI k (aU l).length with h'|h'
  ·exact h'
  ·rw[acC h'] at h;cases h
 rw[fj] at hk;have hi:k / 4<l.length:=oM;have hj:k % 4<4:=Nat.mod_lt _ oM;have e:k=k / 4*4+k % 4:=oM;refine⟨k / 4,k % 4,hi,hj,e,?_⟩;rw[e,Ii l (k / 4) (k % 4) hi hj] at h;exact(abY h).symm
theorem tT(b o i:Nat):(Addr.add ⟨b,o,none⟩ i)=⟨b,o+i,none⟩:=by
 unfold Addr.add;split
 ·rename_i h;subst h;rfl
 ·rfl
theorem bA.xB{w:World}{a:Option Addr}{c:Nat}{l:List Bf}(h:bA w a l)(hn:a=none->c=0):gg w 4 a l.length c (aU l):=by
 rcases h.1 with rfl|⟨b,o,rfl,hc⟩
 ·cases a with
  |none=>exact⟨rfl,by simp[aU],il ⟨rfl,rfl,hn rfl⟩⟩
  |some ad=>exact⟨rfl,by simp[aU],ir ⟨ad,rfl,fun j u h=>by simp[aU] at h⟩⟩
 ·refine⟨fj l,n9 l,ir ⟨_,rfl,fun k u hk=>?_⟩⟩;obtain⟨i,j,hi,hj,rfl,rfl⟩:=PG hk;rw[tT,<-hc i hi j hj]
  congr 2
  omega
structure fH(base:Nat)(w:World)(a:Option Addr)(c:Nat)(l:List Bf):Prop where
 here:bA w a l
 cap:l.length<=c
 KF:c<=9223372036854775807
 nil:a=none->c=0
 own:w.ownsRow base 137 4 (.slice a l.length c) l.length (aU l)
theorem fQ{w:World}{base:Nat}{v:Value}{l:List Bf}{n:Nat}(h:w.ownsRow base 137 4 v n (aU l))(hn:n=l.length)(hb:l.length<=9223372036854775807) :
 ∃a c,v=.slice a l.length c/\fH base w a c l:=by
 subst hn;have h':=h
 rcases h.2 with⟨rfl,h0⟩|⟨g,cap,cur,rfl,hg,hh,jO,ig,hcs,ht⟩
 ·have hl:=aaZ h0;subst hl;exact⟨none,0,rfl,⟨⟨il rfl,sM⟩,sM,sM,fun _=>rfl,h'⟩⟩
 ·have Ar:cap<=9223372036854775807:=by unfold maxLen at ig;omega
  refine⟨some ⟨g,0,none⟩,cap,rfl,⟨⟨ir ⟨g,0,rfl,fun i hi j hj=>?_⟩,hb⟩,jO,Ar,sM,h'⟩⟩;have hx:=Ii l i j hi hj;have hc:=h.cellAt (i*4+j) oM;rw[abc,hc,hx]
theorem fH.place{base:Nat}{w:World}{a:Option Addr}{c:Nat}{l:List Bf}(h:fH base w a c l)(hl:l ≠ []):∃b,a=some ⟨b,0,none⟩/\base<=b/\b<w.heap.size/\∀o,w.frozen? ⟨b,o,none⟩=false:=by
 rcases h.own.2 with⟨h1,h2⟩|⟨g,cap,cur,h1,hg,hh,jO,ig,hcs,ht⟩
 ·exact absurd (aaZ h2) hl
 ·simp only[abV] at h1;refine⟨g,h1.1,hg,?_,fun o=>by simp[World.frozen?,hh]⟩
  rcases adI g w.heap.size with h'|h'
  ·exact h'
  ·rw[ac9 h'] at hh;cases hh
theorem yq:(prog.info? 137).map (fun i=>(i.zero,i.size,i.bytes))=some (some (.agg #[i6 0,.string bE,.bool false,i6 0]),4,40):=kR
theorem ln(l:List Bf)(a:Option Addr)(c:Nat)(w:World)(hl:bA w a l)(hn:a=none->c=0)(mj:l.length<=100000) :
 Calls prog 181 #[.slice a l.length c] w fun e w'=>∃a' c',e=.returned (.slice a' l.length c')/\fH w.heap.size w' a' c' l/\bL w w':=by
 obtain⟨i,hi,de,cC,cF⟩:=eS yq;have R:=hl.xB hn;have q22:∀(w:World) (a:Option Addr) (n c n' c':Nat),(binOp .eql 91 (.slice a n c) (.slice none n' c')).run prog w=.ok (.bool a.isNone) w:=fun w a n c n' c'=>ags w _ _ a n c n' c' underlying91
 cases a with
 |none =>
  obtain rfl:=hn rfl;have BY:l=[]:=by
   rcases hl.form with h|⟨b,o,h⟩
   ·exact h
   ·cases h
  subst BY;go_enter func181,ntmps181;go_wp2;go_ret;exact⟨none,0,rfl,⟨⟨il rfl,sM⟩,sM,sM,fun _=>rfl,abg _ _ _ _⟩,bQ⟩
 |some ad =>
  have HL:Hid (l.length<=100000):=mj;go_enter func181,ntmps181;go_wp2_with(at_builtin;refine aP rfl _ _ 91 rfl w.heap.size 137 i _ 4 40 underlying91 hi de cC cF rfl dM _ 0 [] rfl (agG _ _ _ (aaO _) (by unfold maxLen;omega) sM) (some ad) l.length c (aU l) rfl (R.later bQ) (by unfold maxLen;omega) oM sM ?_;intro v1 w2 aO aw);rw[abc,abJ] at aO;obtain⟨a',c',rfl,hN⟩:=fQ aO rfl oM;go_wp2;go_ret;exact⟨a',c',rfl,hN,(ah (aX _ _) _).trans aw⟩
end
section
open Go.RowKit
theorem ae{p:Prop}(h:p):Hid p:=h
end
section
open Go.RowKit Go.BigFrame Go.Maps
theorem Qk(D:DataW Unit)(h:IsMap D)(k:Lit)(d:DataW Unit):IsMap (D.put k d):=by
 obtain⟨l,rfl⟩:=h;exact⟨_,rfl⟩
def iL(n:Int)(b:Bool):DataW Unit:=.agg [.lit (.int .i64 n),.lit (.bool b)]
def jS(v:Value):Option (DataW Unit × List MemPlace):=match v with
 |.agg xs=>match xs.toList with
  |[.int q n,.bool b]=>if q=.i64 then some (iL n b,[]) else none
  |_=>none
 |_=>none
theorem iz(n:Int)(b:Bool):jS (.agg #[i6 n,.bool b])=some (iL n b,[]):=rfl
theorem I3{v:Value}{n:Int}{b:Bool}{ps:List MemPlace}(h:jS v=some (iL n b,ps)):v=.agg #[i6 n,.bool b]:=by
 unfold jS at h
 split at h
 ·rename_i xs
  split at h
  ·rename_i q m c hx
   split at h
   ·rename_i hq
    simp only[aa4,acK,iL,DataW.agg.injEq,List.cons.injEq,DataW.lit.injEq,Lit.int.injEq,Lit.bool.injEq,afs,acS] at h;obtain⟨⟨rfl,rfl⟩,_⟩:=h;subst hq
    congr 1
    apply afn.1;rw[hx]
   ·cases h
  ·cases h
 ·cases h
structure Kp(D:DataW Unit)(g:ByteArray->Option (Int × Bool)):Prop where
 im:IsMap D
 at':∀s:ByteArray,D.atKey (.string s.data.toList) (iL 0 false)=(match g s with|some p=>iL p.1 p.2|none=>iL 0 false)
 has:∀s:ByteArray,Maps.has D (.string s.data.toList)=(g s).isSome
theorem aaM:Kp (.map []) (fun _=>none):=⟨⟨_,rfl⟩,fun _=>rfl,fun _=>rfl⟩
theorem Pt{s t:ByteArray}(h:¬s=t):(Lit.string s.data.toList) ≠ (Lit.string t.data.toList):=by
 intro e;simp only[Lit.string.injEq] at e;apply h
 cases s;cases t
 simp only[ByteArray.mk.injEq];exact afn.1 e
theorem Kp.put{D:DataW Unit}{g:ByteArray->Option (Int × Bool)}(h:Kp D g)(k:ByteArray)(n:Int)(b:Bool):Kp (D.put (.string k.data.toList) (iL n b)) (fun s=>if s=k then some (n,b) else g s):=by
 refine⟨Qk _ h.im _ _,fun s=>?_,fun s=>?_⟩
 ·by_cases e:s=k
  ·subst e;rw[afK h.im (by trivial),aaV rfl]
  ·rw[aga (Pt e),aaP e];exact h.at' s
 ·by_cases e:s=k
  ·subst e;rw[has_put_same h.im (by trivial),aaV rfl];rfl
  ·rw[has_put_other (Pt e),aaP e];exact h.has s
theorem PH{bm:Nat}{W w w':World}(h:bL W w)(ht:w.mapTurned w' bm)(hb:W.heap.size<=bm):bL W w':=by
 have g:=ht.grown;have hs:=h.size;exact⟨g.os.trans h.os,g.tape.trans h.tape,g.output.trans h.output,abb h.size g.size,fun k hk=>(g.block k oM (fun e=>by have:=abY e;omega)).trans (h.block k hk)⟩
theorem dD{P:Program}(w:World){ops:Array Oper}{rest:List Oper}{o:Oper}{a:Act}{Q:Exit->Act->World->Prop}(hg:o.guard=none)(m x v:Operand)(t:TypeId)(qY:o.op=Op.insert t m x v)
 (k e:TypeId) (K:Keyed P k) (ht:P.underlying t=some (.map k e)) (R:Value->Option (DataW Unit × List MemPlace)) (b n:Nat) (D:DataW Unit)
 (hm:a.eval m=.map (some b)) (bu:w.ownsMap P k R b n D) (hn:n<maxLen) (key val:Value) (kl:Lit) (hx:a.eval x=key) (hv:a.eval v=val) (cV:keyOf P k key=some kl)
 (d:DataW Unit) (ps:List MemPlace) (hval:R val=some (d,ps))
 (hK:∀w',w'.ownsMap P k R b (n+1) (D.put kl d)->w.mapTurned w' b->wpList P ops Q rest (a.put o.dst undef) w') :
 wpList P ops Q (o::rest) a w:=by
 refine wpList_plain hg fun K' hK'=>?_
 obtain⟨w',gY,r1,r2⟩:=bu.store K ht hn cV hval;unfold Oper.wp
 simp[execOp,qY,hm,hx,hv,gY,Result.andThen]
 exact hK' _ _ (hK w' r1 r2)
def VH(w:World)(k:Nat)(g:ByteArray->Option (Int × Bool))(w':World):Prop:=∃D,w'.ownsMap prog 9 jS w.heap.size k D/\Kp D g/\bL w w'
def p9:ByteArray:=⟨#[114,101,97,100]⟩
def nM:ByteArray:=⟨#[119,114,105,116,101]⟩
def qd:ByteArray:=⟨#[115,121,110,99]⟩
def tD:ByteArray:=⟨#[103,111,116]⟩
def tC:ByteArray:=⟨#[101,110,100]⟩
def nJ:ByteArray:=⟨#[102,97,117,108,116]⟩
def lZ:ByteArray:=⟨#[115,101,116,116,108,101]⟩
def nH:ByteArray:=⟨#[99,114,97,115,104]⟩
def qe:ByteArray:=⟨#[116,105,99,107]⟩
def nG:ByteArray:=⟨#[99,108,101,97,110]⟩
def jG:ByteArray:=⟨#[100,105,115,112,97,116,99,104]⟩
def nL:ByteArray:=⟨#[114,111,117,110,100]⟩
def nK:ByteArray:=⟨#[113,117,101,117,101]⟩
def p8:ByteArray:=⟨#[98,117,115,121]⟩
def nI:ByteArray:=⟨#[100,105,114,116,121]⟩
def dY(s:ByteArray):Option (Int × Bool) :=
 if s=nI then some (0,false) else if s=p8 then some (0,false) else if s=nK then some (0,false) else if s=nL then some (0,false) else
 if s=jG then some (0,false) else if s=nG then some (0,false) else if s=qe then some (0,false) else if s=nH then some (1,false) else
 if s=lZ then some (1,false) else if s=nJ then some (1,false) else if s=tC then some (1,false) else if s=tD then some (1,false) else
 if s=qd then some (1,false) else if s=nM then some (2,true) else if s=p9 then some (2,false) else none
theorem fS{w w':World}{k:Nat}{g:ByteArray->Option (Int × Bool)}{D:DataW Unit}(hD:Kp D g)(hb:bL w w'){x:ByteArray}{n:Int}{b:Bool}{w2:World}(h2:w2.ownsMap prog 9 jS w.heap.size (k+1) (D.put (.string x.data.toList) (iL n b)))(ht:w'.mapTurned w2 w.heap.size):VH w (k+1) (fun s=>if s=x then some (n,b) else g s) w2:=⟨_,h2,hD.put x n b,PH hb ht (aaO _)⟩
theorem Vs(w:World):Calls prog 68 #[] w fun e w'=>e=.returned (.map (some w.heap.size))/\VH w 15 dY w':=by
 have h0:VH w 0 (fun _=>none) (w.alloc (.map #[] 0)):=⟨_,agf w _ _ _,aaM,aA w _⟩
 have H0:=ae h0;clear h0;have Tt:=@run_makeMap prog;go_enter func68,ntmps68;go_wp2_with(first|(obtain⟨D,ho,hw,hb⟩:=H0.out;have HD:=ae hw;have HB:=ae hb;clear hw hb;have cV:keyOf prog 9 (.string p9)=some (.string p9.data.toList):=abL underlying9 (by unfold maxLen;decide);refine dD _ rfl _ _ _ 116 rfl 9 114 (acI underlying9) underlying116 jS w.heap.size 0 D rfl ho (by unfold maxLen;omega) _ _ _ rfl rfl cV (iL 2 false) [] (iz 2 false) ?_;intro w2 fZ gG;have H1:=ae (fS HD.out HB.out fZ gG);clear ho fZ gG HD HB cV H0)|(obtain⟨D,ho,hw,hb⟩:=H1.out;have HD:=ae hw;have HB:=ae hb;clear hw hb;have cV:keyOf prog 9 (.string nM)=some (.string nM.data.toList):=abL underlying9 (by unfold maxLen;decide);refine dD _ rfl _ _ _ 116 rfl 9 114 (acI underlying9) underlying116 jS w.heap.size 1 D rfl ho (by unfold maxLen;omega) _ _ _ rfl rfl cV (iL 2 true) [] (iz 2 true) ?_;intro w2 fZ gG;have H2:=ae (fS HD.out HB.out fZ gG);clear ho fZ gG HD HB cV H1)|(obtain⟨D,ho,hw,hb⟩:=H2.out;have HD:=ae hw;have HB:=ae hb;clear hw hb;have cV:keyOf prog 9 (.string qd)=some (.string qd.data.toList):=abL underlying9 (by unfold maxLen;decide);refine dD _ rfl _ _ _ 116 rfl 9 114 (acI underlying9) underlying116 jS w.heap.size 2 D rfl ho (by unfold maxLen;omega) _ _ _ rfl rfl cV (iL 1 false) [] (iz 1 false) ?_;intro w2 fZ gG;have H3:=ae (fS HD.out HB.out fZ gG);clear ho fZ gG HD HB cV H2)|(obtain⟨D,ho,hw,hb⟩:=H3.out;have HD:=ae hw;have HB:=ae hb;clear hw hb;have cV:keyOf prog 9 (.string tD)=some (.string tD.data.toList):=abL underlying9 (by unfold maxLen;decide);refine dD _ rfl _ _ _ 116 rfl 9 114 (acI underlying9) underlying116 jS w.heap.size 3 D rfl ho (by unfold maxLen;omega) _ _ _ rfl rfl cV (iL 1 false) [] (iz 1 false) ?_;intro w2 fZ gG;have H4:=ae (fS HD.out HB.out fZ gG);clear ho fZ gG HD HB cV H3)|(obtain⟨D,ho,hw,hb⟩:=H4.out;have HD:=ae hw;have HB:=ae hb;clear hw hb;have cV:keyOf prog 9 (.string tC)=some (.string tC.data.toList):=abL underlying9 (by unfold maxLen;decide);refine dD _ rfl _ _ _ 116 rfl 9 114 (acI underlying9) underlying116 jS w.heap.size 4 D rfl ho (by unfold maxLen;omega) _ _ _ rfl rfl cV (iL 1 false) [] (iz 1 false) ?_;intro w2 fZ gG;have H5:=ae (fS HD.out HB.out fZ gG);clear ho fZ gG HD HB cV H4)|(obtain⟨D,ho,hw,hb⟩:=H5.out;have HD:=ae hw;have HB:=ae hb;clear hw hb;have cV:keyOf prog 9 (.string nJ)=some (.string nJ.data.toList):=abL underlying9 (by unfold maxLen;decide);refine dD _ rfl _ _ _ 116 rfl 9 114 (acI underlying9) underlying116 jS w.heap.size 5 D rfl ho (by unfold maxLen;omega) _ _ _ rfl rfl cV (iL 1 false) [] (iz 1 false) ?_;intro w2 fZ gG;have H6:=ae (fS HD.out HB.out fZ gG);clear ho fZ gG HD HB cV H5)|(obtain⟨D,ho,hw,hb⟩:=H6.out;have HD:=ae hw;have HB:=ae hb;clear hw hb;have cV:keyOf prog 9 (.string lZ)=some (.string lZ.data.toList):=abL underlying9 (by unfold maxLen;decide);refine dD _ rfl _ _ _ 116 rfl 9 114 (acI underlying9) underlying116 jS w.heap.size 6 D rfl ho (by unfold maxLen;omega) _ _ _ rfl rfl cV (iL 1 false) [] (iz 1 false) ?_;intro w2 fZ gG;have H7:=ae (fS HD.out HB.out fZ gG);clear ho fZ gG HD HB cV H6)|(obtain⟨D,ho,hw,hb⟩:=H7.out;have HD:=ae hw;have HB:=ae hb;clear hw hb;have cV:keyOf prog 9 (.string nH)=some (.string nH.data.toList):=abL underlying9 (by unfold maxLen;decide);refine dD _ rfl _ _ _ 116 rfl 9 114 (acI underlying9) underlying116 jS w.heap.size 7 D rfl ho (by unfold maxLen;omega) _ _ _ rfl rfl cV (iL 1 false) [] (iz 1 false) ?_;intro w2 fZ gG;have H8:=ae (fS HD.out HB.out fZ gG);clear ho fZ gG HD HB cV H7)|(obtain⟨D,ho,hw,hb⟩:=H8.out;have HD:=ae hw;have HB:=ae hb;clear hw hb;have cV:keyOf prog 9 (.string qe)=some (.string qe.data.toList):=abL underlying9 (by unfold maxLen;decide);refine dD _ rfl _ _ _ 116 rfl 9 114 (acI underlying9) underlying116 jS w.heap.size 8 D rfl ho (by unfold maxLen;omega) _ _ _ rfl rfl cV (iL 0 false) [] (iz 0 false) ?_;intro w2 fZ gG;have H9:=ae (fS HD.out HB.out fZ gG);clear ho fZ gG HD HB cV H8)|(obtain⟨D,ho,hw,hb⟩:=H9.out;have HD:=ae hw;have HB:=ae hb;clear hw hb;have cV:keyOf prog 9 (.string nG)=some (.string nG.data.toList):=abL underlying9 (by unfold maxLen;decide);refine dD _ rfl _ _ _ 116 rfl 9 114 (acI underlying9) underlying116 jS w.heap.size 9 D rfl ho (by unfold maxLen;omega) _ _ _ rfl rfl cV (iL 0 false) [] (iz 0 false) ?_;intro w2 fZ gG;have H10:=ae (fS HD.out HB.out fZ gG);clear ho fZ gG HD HB cV H9)|(obtain⟨D,ho,hw,hb⟩:=H10.out;have HD:=ae hw;have HB:=ae hb;clear hw hb;have cV:keyOf prog 9 (.string jG)=some (.string jG.data.toList):=abL underlying9 (by unfold maxLen;decide);refine dD _ rfl _ _ _ 116 rfl 9 114 (acI underlying9) underlying116 jS w.heap.size 10 D rfl ho (by unfold maxLen;omega) _ _ _ rfl rfl cV (iL 0 false) [] (iz 0 false) ?_;intro w2 fZ gG;have H11:=ae (fS HD.out HB.out fZ gG);clear ho fZ gG HD HB cV H10)|(obtain⟨D,ho,hw,hb⟩:=H11.out;have HD:=ae hw;have HB:=ae hb;clear hw hb;have cV:keyOf prog 9 (.string nL)=some (.string nL.data.toList):=abL underlying9 (by unfold maxLen;decide);refine dD _ rfl _ _ _ 116 rfl 9 114 (acI underlying9) underlying116 jS w.heap.size 11 D rfl ho (by unfold maxLen;omega) _ _ _ rfl rfl cV (iL 0 false) [] (iz 0 false) ?_;intro w2 fZ gG;have H12:=ae (fS HD.out HB.out fZ gG);clear ho fZ gG HD HB cV H11)|(obtain⟨D,ho,hw,hb⟩:=H12.out;have HD:=ae hw;have HB:=ae hb;clear hw hb;have cV:keyOf prog 9 (.string nK)=some (.string nK.data.toList):=abL underlying9 (by unfold maxLen;decide);refine dD _ rfl _ _ _ 116 rfl 9 114 (acI underlying9) underlying116 jS w.heap.size 12 D rfl ho (by unfold maxLen;omega) _ _ _ rfl rfl cV (iL 0 false) [] (iz 0 false) ?_;intro w2 fZ gG;have H13:=ae (fS HD.out HB.out fZ gG);clear ho fZ gG HD HB cV H12)|(obtain⟨D,ho,hw,hb⟩:=H13.out;have HD:=ae hw;have HB:=ae hb;clear hw hb;have cV:keyOf prog 9 (.string p8)=some (.string p8.data.toList):=abL underlying9 (by unfold maxLen;decide);refine dD _ rfl _ _ _ 116 rfl 9 114 (acI underlying9) underlying116 jS w.heap.size 13 D rfl ho (by unfold maxLen;omega) _ _ _ rfl rfl cV (iL 0 false) [] (iz 0 false) ?_;intro w2 fZ gG;have H14:=ae (fS HD.out HB.out fZ gG);clear ho fZ gG HD HB cV H13)|(obtain⟨D,ho,hw,hb⟩:=H14.out;have HD:=ae hw;have HB:=ae hb;clear hw hb;have cV:keyOf prog 9 (.string nI)=some (.string nI.data.toList):=abL underlying9 (by unfold maxLen;decide);refine dD _ rfl _ _ _ 116 rfl 9 114 (acI underlying9) underlying116 jS w.heap.size 14 D rfl ho (by unfold maxLen;omega) _ _ _ rfl rfl cV (iL 0 false) [] (iz 0 false) ?_;intro w2 fZ gG;have H15:=ae (fS HD.out HB.out fZ gG);clear ho fZ gG HD HB cV H14))
 go_ret;exact⟨rfl,H15.out⟩
structure St where
 word:ByteArray
 a:Int
 b:Int
 data:ByteArray
abbrev St.val(x:St):Value:=.agg #[.string x.word,i6 x.a,i6 x.b,.string x.data]
def cu(s:ByteArray):Int × Bool:=(dY s).getD (0,false)
def vx(o:Option (Int × Bool)):Prop:=o=none\/∃n b,o=some (n,b)/\((n=0/\b=false)\/(n=1/\b=false)\/(n=2/\b=true)\/(n=2/\b=false))
theorem Xc{c:Prop} [Decidable c]{x y:Option (Int × Bool)}(h1:vx x)(h2:vx y):vx (if c then x else y):=by split<;>assumption
theorem Ou(s:ByteArray):vx (dY s):=by
 have q0:vx (some (0,false)):=ir ⟨_,_,rfl,il ⟨rfl,rfl⟩⟩;have q1:vx (some (1,false)):=ir ⟨_,_,rfl,ir (il ⟨rfl,rfl⟩)⟩;have q2:vx (some (2,true)):=ir ⟨_,_,rfl,ir (ir (il ⟨rfl,rfl⟩))⟩;have q3:vx (some (2,false)):=ir ⟨_,_,rfl,ir (ir (ir ⟨rfl,rfl⟩))⟩;have qn:vx none:=il rfl;unfold dY
 repeat' (first|exact q0|exact q1|exact q2|exact q3|exact qn|refine Xc ?_ ?_)
theorem iB(s:ByteArray):∃n b,cu s=(n,b)/\((n=0/\b=false)\/(n=1/\b=false)\/(n=2/\b=true)\/(n=2/\b=false)):=by
 unfold cu
 rcases Ou s with h|⟨n,b,h,h2⟩
 ·rw[h];exact⟨0,false,rfl,il ⟨rfl,rfl⟩⟩
 ·rw[h];exact⟨n,b,rfl,h2⟩
theorem GB(w:World):(zeroValue 114).run prog w=.ok (.agg #[i6 0,.bool false]) w:=rfl
def Yw(w:World)(mb:Nat)(w':World):Prop:=∃D,w'.ownsMap prog 9 jS mb 15 D/\Kp D dY/\bL w w'
theorem Ht(w:World):Calls prog 68 #[] w fun e w'=>∃mb,e=.returned (.map (some mb))/\Yw w mb w':=(Vs w).mono (fun _ _ h=>⟨_,h.1,h.2⟩)
theorem Yw.bel{w w':World}{mb:Nat}(h:Yw w mb w'):bL w w':=h.choose_spec.2.2
theorem zF{w w' w2:World}{mb:Nat}(h:Yw w mb w')(hb:bL w' w2)(s:ByteArray)(hs:s.size<=9223372036854775807)(n:Int)(b:Bool)(hn:cu s=(n,b))(c:Bool)(hc:(dY s).isSome=c) :
 (Instr.lookup 116 (.map (some mb)) (.string s) true).run prog w2=.ok (.tuple #[.agg #[i6 n,.bool b],.bool c]) w2/\(Instr.lookup 116 (.map (some mb)) (.string s) false).run prog w2=.ok (.agg #[i6 n,.bool b]) w2:=by
 obtain⟨D,ho,hD,_⟩:=h;have fZ:w2.ownsMap prog 9 jS mb 15 D:=by
  obtain⟨es,clock,h1,h2,h3,h4⟩:=ho;exact⟨es,clock,(hb.block _ (af4.1 h1).1).trans h1,h2,h3,h4⟩
 have cV:keyOf prog 9 (.string s)=some (.string s.data.toList):=abL underlying9 (by unfold maxLen;omega);have h3:D.atKey (.string s.data.toList) (iL 0 false)=iL n b:=by
  rw[hD.at' s];unfold cu at hn
  cases e:dY s with
  |none=>rw[e] at hn;cases hn;rfl
  |some p=>rw[e] at hn;cases hn;rfl
 refine⟨?_,?_⟩
 ·obtain⟨v,ps,h1,h2⟩:=fZ.look_ok (acI underlying9) underlying116 (GB w2) (iz 0 false) cV;rw[h3] at h2;rw[h1,I3 h2,hD.has s,hc]
 ·obtain⟨v,ps,h1,h2⟩:=fZ.lookup (acI underlying9) underlying116 (GB w2) (iz 0 false) cV;rw[h3] at h2;rw[h1,I3 h2]
def rI(n:Int)(b:Bool)(x:St):Bool:=(decide (0<n)||x.a==0)&&(decide (1<n)||x.b==0)&&(b||x.data.toList.isEmpty)
theorem ZR(n:Int)(b:Bool)(x:St)(w:World)(hn:(n=0/\b=false)\/(n=1/\b=false)\/(n=2/\b=true)\/(n=2/\b=false))(t:Bool)(ht:rI n b x=t) :
 Calls prog 69 #[.agg #[i6 n,.bool b],x.val] w (rB (.bool t) w):=by
 subst ht;obtain⟨wd,xa,xb,dt⟩:=x;have H:=fun q=>ae (show rI n b ⟨wd,xa,xb,dt⟩=q->rI n b ⟨wd,xa,xb,dt⟩=q from id)
 unfold rI;simp only
 cases ha:(xa==0)<;>cases hb:(xb==0)<;>cases hd:dt.toList.isEmpty<;>rcases hn with⟨rfl,rfl⟩|⟨rfl,rfl⟩|⟨rfl,rfl⟩|⟨rfl,rfl⟩
 all_goals
  clear H;go_enter func69,ntmps69;go_wp2;go_ret;exact⟨rfl,bQ⟩
end
section
open Go.RowKit
def dm(n:Int):Value:=if n=0 then .nilIface else .iface 87 (i6 n)
def StrsAt(w:World)(a:Option Addr)(xs:List ByteArray):Prop :=
 xs=[]\/∃b o,a=some ⟨b,o,none⟩/\∀i,i<xs.length->w.cell? ⟨b,o+i,none⟩=some (.string (xs.getD i bE))
def eF(w:World)(a:Option Addr)(xs:List Int):Prop :=
 xs=[]\/∃b o,a=some ⟨b,o,none⟩/\∀i,i<xs.length->w.cell? ⟨b,o+i,none⟩=some (i6 (xs.getD i 0))
theorem aq{w:World}{b o:Nat}{v:Value}(h:w.cell? ⟨b,o,none⟩=some v):b<w.heap.size:=by
 rcases adI b w.heap.size with h'|h'
 ·exact h'
 ·simp[World.cell?,ac9 h'] at h
theorem aF{w w':World}{b o:Nat}{v:Value}(hb:bL w w')(h:w.cell? ⟨b,o,none⟩=some v):w'.cell? ⟨b,o,none⟩=some v:=by
 rw[hb.cell (p:=⟨b,o,none⟩) (aq h)];exact h
theorem dU{w:World}{b o:Nat}{v:Value}(h:w.cell? ⟨b,o,none⟩=some v)(x:Obj):(w.alloc x).cell? ⟨b,o,none⟩=some v:=by
 rw[af3 w x _ (aq h)];exact h
theorem StrsAt.later{w w':World}{a:Option Addr}{xs:List ByteArray}(h:StrsAt w a xs)(hb:bL w w'):StrsAt w' a xs:=by
 rcases h with h|⟨b,o,ha,hc⟩
 ·exact il h
 ·exact ir ⟨b,o,ha,fun i hi=>aF hb (hc i hi)⟩
theorem eF.later{w w':World}{a:Option Addr}{xs:List Int}(h:eF w a xs)(hb:bL w w'):eF w' a xs:=by
 rcases h with h|⟨b,o,ha,hc⟩
 ·exact il h
 ·exact ir ⟨b,o,ha,fun i hi=>aF hb (hc i hi)⟩
structure Rq where
 wr:Bool
 f:Int
 m:Int
 da:Option Addr
 dc:Nat
 data:List ByteArray
 ta:Option Addr
 tc:Nat
 tags:List Int
 born:Int
def Rq.cell(r:Rq):Nat->Value
 |0=>.bool r.wr
 |1=>i6 r.f
 |2=>i6 r.m
 |3=>.slice r.da r.data.length r.dc
 |4=>.slice r.ta r.tags.length r.tc
 |_=>i6 r.born
abbrev Rq.val(r:Rq):Value:=.agg #[.bool r.wr,i6 r.f,i6 r.m,.slice r.da r.data.length r.dc,.slice r.ta r.tags.length r.tc,i6 r.born]
structure Rq.At(r:Rq)(w:World):Prop where
 data:StrsAt w r.da r.data
 tags:eF w r.ta r.tags
 dl:r.data.length<=9223372036854775807
 tl:r.tags.length<=9223372036854775807
 f:cH r.f
 m:cH r.m
 born:cH r.born
 dn:r.da=none->r.dc=0
 tn:r.ta=none->r.tc=0
theorem Rq.At.later{r:Rq}{w w':World}(h:r.At w)(hb:bL w w'):r.At w' :=
 ⟨h.data.later hb,h.tags.later hb,h.dl,h.tl,h.f,h.m,h.born,h.dn,h.tn⟩
def aW(w:World)(a:Option Addr)(l:List Rq):Prop :=
 (l=[]\/∃b o,a=some ⟨b,o,none⟩/\∀i (h:i<l.length) j,j<6->w.cell? ⟨b,o+i*6+j,none⟩=some (l[i].cell j))/\(∀r∈l,r.At w)/\l.length<=9223372036854775807
theorem aW.later{w w':World}{a:Option Addr}{l:List Rq}(h:aW w a l)(hb:bL w w'):aW w' a l:=by
 obtain⟨h1,h2,h3⟩:=h;refine⟨?_,fun r hr=>(h2 r hr).later hb,h3⟩
 rcases h1 with h|⟨b,o,ha,hc⟩
 ·exact il h
 ·exact ir ⟨b,o,ha,fun i hi j hj=>aF hb (hc i hi j hj)⟩
theorem VN{α:Type}{p:α->Bool}{l:List α}{k:Nat}(h:k<l.length)(h1:(l.take k).all p=true)(h2:p l[k]=true):(l.take (k+1)).all p=true:=by
 rw[abz h,List.all_append,h1];simp[h2]
theorem VM{α:Type}{p:α->Bool}{l:List α}{k:Nat}(h:k<l.length)(hp:p l[k]=false):l.all p=false:=by
 rw[List.all_eq_false];exact⟨l[k],sM,by rw[hp];exact aa7⟩
theorem Zu{α:Type}{p:α->Bool}{l:List α}{k:Nat}(h:l.length<=k)(h1:(l.take k).all p=true):l.all p=true:=by
 rwa [abv h] at h1
theorem aW.cells{w:World}{b o:Nat}{l:List Rq}(h:aW w (some ⟨b,o,none⟩) l){i:Nat}(hi:i<l.length) :
 w.cell? ⟨b,o+i*6,none⟩=some (.bool l[i].wr)/\w.cell? ⟨b,o+i*6+1,none⟩=some (i6 l[i].f)/\w.cell? ⟨b,o+i*6+2,none⟩=some (i6 l[i].m) /\
  w.cell? ⟨b,o+i*6+3,none⟩=some (.slice l[i].da l[i].data.length l[i].dc)/\w.cell? ⟨b,o+i*6+4,none⟩=some (.slice l[i].ta l[i].tags.length l[i].tc)/\w.cell? ⟨b,o+i*6+5,none⟩=some (i6 l[i].born):=by
 rcases h.1 with rfl|⟨b',o',ha,hc⟩
 ·exact absurd hi (aa0 _)
 ·simp only[aa4,aci,acS] at ha;obtain⟨rfl,rfl⟩:=ha;exact⟨hc i hi 0 oM,hc i hi 1 oM,hc i hi 2 oM,hc i hi 3 oM,hc i hi 4 oM,hc i hi 5 oM⟩
theorem aW.form{w:World}{a:Option Addr}{l:List Rq}(h:aW w a l):l=[]\/∃b o,a=some ⟨b,o,none⟩:=by
 rcases h.1 with h|⟨b,o,ha,_⟩
 ·exact il h
 ·exact ir ⟨b,o,ha⟩
theorem oX{w w':World}{b o:Nat}{v:Value}(hb:bL w w')(h:w.cell? ⟨b,o,none⟩=some v):w'.cell? ⟨b,o,none⟩=some v:=ea hb h
theorem yN(g o:Nat)(a1 a2:Option Addr)(n1 n2 c1 c2:Nat)(xs1 yI:List Value)(w:World)(h0:w.cell? ⟨g,o,none⟩=some (.slice a1 n1 c1))(h1:w.cell? ⟨g,o+1,none⟩=some (.slice a2 n2 c2))
 (r1:gg w 6 a1 n1 c1 xs1) (r2:gg w 6 a2 n2 c2 yI) (b1:n1<=100000) (b2:n2<=100000) :
 Calls prog 122 #[.slice (some ⟨g,o,none⟩) 2 2] w fun e w'=>∃v,e=.returned v/\w'.ownsRow w.heap.size 146 6 v (n1+n2) (xs1++yI)/\bL w w':=by
 obtain⟨i,hi,de,cC,cF⟩:=eS uy;have BY:=mU h0;go_enter func122,ntmps122;go_wp2
 go_loopw[3,11] (fun sz ix wr=>w=wr/\((ix=i6 0/\sz=i6 0)\/(ix=i6 1/\sz=i6 (n1:Int))\/(ix=i6 2/\sz=i6 ((n1:Int)+(n2:Int))))) (fun _ ix _=>(2-intOf ix).toNat)
 case atStart=>exact⟨rfl,il ⟨rfl,rfl⟩⟩
 case round =>
  obtain⟨rfl,⟨rfl,rfl⟩|⟨rfl,rfl⟩|⟨rfl,rfl⟩⟩:=hrel
  ·go_wp2;go_roundw
   case rel=>simp
   case measure=>simp[intOf]
  ·go_wp2;go_roundw
   case rel=>simp
   case measure=>simp[intOf]
  ·go_wp2_with fail;rw[show((n1:Int)+(n2:Int))=((n1+n2:Nat):Int) from oM];refine(SO (n1+n2) _ oM).mono ?_;rintro e w1 ⟨v,rfl,bu,HB⟩;go_wp2_with fail
   go_loopw[6,27] (fun nv ix w2=>bL w w2/\((ix=i6 0/\w2.ownsRow w.heap.size 146 6 nv 0 [])\/(ix=i6 1/\w2.ownsRow w.heap.size 146 6 nv n1 xs1)\/(ix=i6 2/\w2.ownsRow w.heap.size 146 6 nv (n1+n2) (xs1++yI)))) (fun _ ix _=>(2-intOf ix).toNat)
   case atStart=>exact⟨HB,il ⟨rfl,bu⟩⟩
   case round =>
    clear HB bu;obtain⟨HB,⟨rfl,bu⟩|⟨rfl,bu⟩|⟨rfl,bu⟩⟩:=hrel
    ·have k0:=oX HB h0;have q1:=r1.later HB;go_wp2_with(at_builtin;refine aP rfl _ _ 47 rfl w.heap.size 146 i (.agg #[.bool false,i6 0,i6 0,.slice none 0 0,.slice none 0 0,i6 0]) 6 80 underlying47 hi de cC cF rfl dM _ _ _ rfl bu a1 n1 c1 xs1 rfl q1 (by unfold maxLen;omega) oM HB.size ?_;intro v' w3 sP Bn);go_roundw
     case rel=>exact⟨HB.trans Bn,ir (il ⟨rfl,by simpa using sP⟩)⟩
     case measure=>simp[intOf]
    ·have k0:=oX HB h1;have q1:=r2.later HB;go_wp2_with(at_builtin;refine aP rfl _ _ 47 rfl w.heap.size 146 i (.agg #[.bool false,i6 0,i6 0,.slice none 0 0,.slice none 0 0,i6 0]) 6 80 underlying47 hi de cC cF rfl dM _ _ _ rfl bu a2 n2 c2 yI rfl q1 (by unfold maxLen;omega) oM HB.size ?_;intro v' w3 sP Bn);go_roundw
     case rel=>exact⟨HB.trans Bn,ir (ir ⟨rfl,sP⟩)⟩
     case measure=>simp[intOf]
    ·go_wp2;go_ret;exact⟨_,rfl,bu,HB⟩
theorem MZ(g o:Nat)(a1 a2:Option Addr)(n1 n2 c1 c2:Nat)(xs1 yI:List Value)(w:World)(h0:w.cell? ⟨g,o,none⟩=some (.slice a1 n1 c1))(h1:w.cell? ⟨g,o+1,none⟩=some (.slice a2 n2 c2))
 (r1:gg w 1 a1 n1 c1 xs1) (r2:gg w 1 a2 n2 c2 yI) (b1:n1<=100000) (b2:n2<=100000) :
 Calls prog 206 #[.slice (some ⟨g,o,none⟩) 2 2] w fun e w'=>∃v,e=.returned v/\w'.ownsRow w.heap.size 9 1 v (n1+n2) (xs1++yI)/\bL w w':=by
 obtain⟨i,hi,de,cC,cF⟩:=eS yr;have BY:=mU h0;go_enter func206,ntmps206;go_wp2
 go_loopw[3,11] (fun sz ix wr=>w=wr/\((ix=i6 0/\sz=i6 0)\/(ix=i6 1/\sz=i6 (n1:Int))\/(ix=i6 2/\sz=i6 ((n1:Int)+(n2:Int))))) (fun _ ix _=>(2-intOf ix).toNat)
 case atStart=>exact⟨rfl,il ⟨rfl,rfl⟩⟩
 case round =>
  obtain⟨rfl,⟨rfl,rfl⟩|⟨rfl,rfl⟩|⟨rfl,rfl⟩⟩:=hrel
  ·go_wp2;go_roundw
   case rel=>simp
   case measure=>simp[intOf]
  ·go_wp2;go_roundw
   case rel=>simp
   case measure=>simp[intOf]
  ·go_wp2_with fail;rw[show((n1:Int)+(n2:Int))=((n1+n2:Nat):Int) from oM];refine(SQ (n1+n2) _ oM).mono ?_;rintro e w1 ⟨v,rfl,bu,HB⟩;go_wp2_with fail
   go_loopw[6,27] (fun nv ix w2=>bL w w2/\((ix=i6 0/\w2.ownsRow w.heap.size 9 1 nv 0 [])\/(ix=i6 1/\w2.ownsRow w.heap.size 9 1 nv n1 xs1)\/(ix=i6 2/\w2.ownsRow w.heap.size 9 1 nv (n1+n2) (xs1++yI)))) (fun _ ix _=>(2-intOf ix).toNat)
   case atStart=>exact⟨HB,il ⟨rfl,bu⟩⟩
   case round =>
    clear HB bu;obtain⟨HB,⟨rfl,bu⟩|⟨rfl,bu⟩|⟨rfl,bu⟩⟩:=hrel
    ·have k0:=oX HB h0;have q1:=r1.later HB;go_wp2_with(at_builtin;refine aP rfl _ _ 51 rfl w.heap.size 9 i (.string bE) 1 16 underlying51 hi de cC cF rfl dM _ _ _ rfl bu a1 n1 c1 xs1 rfl q1 (by unfold maxLen;omega) oM HB.size ?_;intro v' w3 sP Bn);go_roundw
     case rel=>exact⟨HB.trans Bn,ir (il ⟨rfl,by simpa using sP⟩)⟩
     case measure=>simp[intOf]
    ·have k0:=oX HB h1;have q1:=r2.later HB;go_wp2_with(at_builtin;refine aP rfl _ _ 51 rfl w.heap.size 9 i (.string bE) 1 16 underlying51 hi de cC cF rfl dM _ _ _ rfl bu a2 n2 c2 yI rfl q1 (by unfold maxLen;omega) oM HB.size ?_;intro v' w3 sP Bn);go_roundw
     case rel=>exact⟨HB.trans Bn,ir (ir ⟨rfl,sP⟩)⟩
     case measure=>simp[intOf]
    ·go_wp2;go_ret;exact⟨_,rfl,bu,HB⟩
theorem MY(g o:Nat)(a1 a2:Option Addr)(n1 n2 c1 c2:Nat)(xs1 yI:List Value)(w:World)(h0:w.cell? ⟨g,o,none⟩=some (.slice a1 n1 c1))(h1:w.cell? ⟨g,o+1,none⟩=some (.slice a2 n2 c2))
 (r1:gg w 1 a1 n1 c1 xs1) (r2:gg w 1 a2 n2 c2 yI) (b1:n1<=100000) (b2:n2<=100000) :
 Calls prog 207 #[.slice (some ⟨g,o,none⟩) 2 2] w fun e w'=>∃v,e=.returned v/\w'.ownsRow w.heap.size 3 1 v (n1+n2) (xs1++yI)/\bL w w':=by
 obtain⟨i,hi,de,cC,cF⟩:=eS Ax;have BY:=mU h0;go_enter func207,ntmps207;go_wp2
 go_loopw[3,11] (fun sz ix wr=>w=wr/\((ix=i6 0/\sz=i6 0)\/(ix=i6 1/\sz=i6 (n1:Int))\/(ix=i6 2/\sz=i6 ((n1:Int)+(n2:Int))))) (fun _ ix _=>(2-intOf ix).toNat)
 case atStart=>exact⟨rfl,il ⟨rfl,rfl⟩⟩
 case round =>
  obtain⟨rfl,⟨rfl,rfl⟩|⟨rfl,rfl⟩|⟨rfl,rfl⟩⟩:=hrel
  ·go_wp2;go_roundw
   case rel=>simp
   case measure=>simp[intOf]
  ·go_wp2;go_roundw
   case rel=>simp
   case measure=>simp[intOf]
  ·go_wp2_with fail;rw[show((n1:Int)+(n2:Int))=((n1+n2:Nat):Int) from oM];refine(SM (n1+n2) _ oM).mono ?_;rintro e w1 ⟨v,rfl,bu,HB⟩;go_wp2_with fail
   go_loopw[6,27] (fun nv ix w2=>bL w w2/\((ix=i6 0/\w2.ownsRow w.heap.size 3 1 nv 0 [])\/(ix=i6 1/\w2.ownsRow w.heap.size 3 1 nv n1 xs1)\/(ix=i6 2/\w2.ownsRow w.heap.size 3 1 nv (n1+n2) (xs1++yI)))) (fun _ ix _=>(2-intOf ix).toNat)
   case atStart=>exact⟨HB,il ⟨rfl,bu⟩⟩
   case round =>
    clear HB bu;obtain⟨HB,⟨rfl,bu⟩|⟨rfl,bu⟩|⟨rfl,bu⟩⟩:=hrel
    ·have k0:=oX HB h0;have q1:=r1.later HB;go_wp2_with(at_builtin;refine aP rfl _ _ 122 rfl w.heap.size 3 i (i6 0) 1 8 underlying122 hi de cC cF rfl dM _ _ _ rfl bu a1 n1 c1 xs1 rfl q1 (by unfold maxLen;omega) oM HB.size ?_;intro v' w3 sP Bn);go_roundw
     case rel=>exact⟨HB.trans Bn,ir (il ⟨rfl,by simpa using sP⟩)⟩
     case measure=>simp[intOf]
    ·have k0:=oX HB h1;have q1:=r2.later HB;go_wp2_with(at_builtin;refine aP rfl _ _ 122 rfl w.heap.size 3 i (i6 0) 1 8 underlying122 hi de cC cF rfl dM _ _ _ rfl bu a2 n2 c2 yI rfl q1 (by unfold maxLen;omega) oM HB.size ?_;intro v' w3 sP Bn);go_roundw
     case rel=>exact⟨HB.trans Bn,ir (ir ⟨rfl,sP⟩)⟩
     case measure=>simp[intOf]
    ·go_wp2;go_ret;exact⟨_,rfl,bu,HB⟩
def dO(f m a:Int):Bool:=decide (f<=a)&&decide (0<=wrap64 (a-f))&&decide (wrap64 (a-f)<m)
def gU(f m a:Int):Bool:=decide (f<=a/\a<f+m)
def vi(f g:Int):Int:=if f<g then g else f
def yx(f m g n:Int):Bool:=dO f m (vi f g)&&dO g n (vi f g)
def gK(f m n:Int):Bool:=decide (0<=f/\f<32/\1<=m/\m<=n/\m<=32-f)
def aeA(b:Bool):Value:=if b then .nilIface else .iface 87 (i6 1)
def KR(b:Bool):Int:=if b then 0 else 1
theorem vV(f m n a:Int)(h:gK f m n=true)(ha:a<=9223372036854775807):dO f m a=gU f m a:=by
 simp only[gK,aba] at h;rw[ac0];simp only[dO,gU,abW,aba]
 by_cases h1:f<=a
 ·have:wrap64 (a-f)=a-f:=by unfold wrap64;omega
  rw[this];omega
 ·omega
theorem LJ(f m g n:Int)(h:gK f m 32=true)(k:gK g n 32=true):yx f m g n=decide (f<g+n/\g<f+m):=by
 have h':=h;have k':=k;simp only[gK,aba] at h' k';have hk:vi f g<=9223372036854775807:=by unfold vi;split<;>omega
 unfold yx;rw[vV f m 32 _ h hk,vV g n 32 _ k hk,ac0];simp only[gU,abW,aba];unfold vi;split<;>omega
theorem Wv{f m a:Int}(h1:f<=a)(h2:0<=wrap64 (a-f)):decide (wrap64 (a-f)<m)=dO f m a:=by simp[dO,h1,h2]
theorem Wt{f m a:Int}(h2:wrap64 (a-f)<0):false=dO f m a:=by
 have:¬0<=wrap64 (a-f):=oM
 simp[dO,this]
theorem Wu{f m a:Int}(h2:a<f):false=dO f m a:=by
 have:¬f<=a:=oM
 simp[dO,this]
theorem GX(f m a:Int)(w:World) :
 Calls prog 126 #[.agg #[i6 f,i6 m],i6 a] w (rB (.bool (dO f m a)) w):=by
 go_enter func126,ntmps126;go_wp2
 all_goals
  go_ret;exact⟨ey (by first|exact Wv ‹_› ‹_›|exact Wt ‹_›|exact Wu ‹_›),aA _ _⟩
theorem Xa(f m g n:Int)(w:World) :
 Calls prog 204 #[.agg #[i6 f,i6 m],.agg #[i6 g,i6 n]] w (rB (.bool (wrap64 (f+m)==g)) w):=by
 go_enter func204,ntmps204;go_wp2;go_ret;exact⟨rfl,jo _ _ _⟩
theorem T4(f m g n:Int)(w:World)(b1 b2:Bool)(k:Int)(hk:vi f g=k)(h1:dO f m k=b1)(h2:dO g n k=b2) :
 Calls prog 174 #[.agg #[i6 f,i6 m],.agg #[i6 g,i6 n]] w (rB (.bool (b1&&b2)) w):=by
 by_cases hfg:f<g
 ·obtain rfl:g=k:=by simpa [vi,hfg] using hk
  clear hk
  cases b1
  all_goals
   go_enter func174,ntmps174;go_wp2_with(go_at_call 126;refine cM (GX _ _ _ _) ?_;intro w1 hb;(try clear hc hf hz);(first|replace HB:=af HB hb|replace HB:=af (aj HB) hb|have HB:=hb);clear hb;obtain⟨hc,hf,hz⟩:=br HB);go_ret;exact⟨rfl,bQ⟩
 ·obtain rfl:f=k:=by simpa [vi,hfg] using hk
  clear hk
  cases b1
  all_goals
   go_enter func174,ntmps174;go_wp2_with(go_at_call 126;refine cM (GX _ _ _ _) ?_;intro w1 hb;(try clear hc hf hz);(first|replace HB:=af HB hb|replace HB:=af (aj HB) hb|have HB:=hb);clear hb;obtain⟨hc,hf,hz⟩:=br HB);go_ret;exact⟨rfl,bQ⟩
theorem W4(f m g n:Int)(w:World) :
 Calls prog 174 #[.agg #[i6 f,i6 m],.agg #[i6 g,i6 n]] w (rB (.bool (yx f m g n)) w) :=
 T4 f m g n w _ _ _ rfl rfl rfl
theorem Ze{f m n:Int}(h:f<0\/31<f\/m<1\/n<m\/32-f<m):gK f m n=false:=by
 simp only[gK,acv];omega
theorem Ud{f m n:Int}(h1:0<=f)(h2:f<32)(h3:1<=m)(h4:m<=n)(h5:m<=32-f):gK f m n=true:=by
 simp only[gK,aba];omega
theorem Im(f m n:Int)(w:World) :
 Calls prog 200 #[.agg #[i6 f,i6 m],i6 n] w (rB (aeA (gK f m n)) w):=by
 go_enter func200,ntmps200;go_wp2
 all_goals
  go_ret;refine⟨aar ?_,aA _ _⟩
  first|(rw[Ze oM];rfl)|(rw[Ud oM oM oM oM oM];rfl)
theorem uJ(f m n:Int)(w:World)(h:gK f m n=true) :
 Calls prog 200 #[.agg #[i6 f,i6 m],i6 n] w (rB .nilIface w):=by
 have:=Im f m n w;rw[h] at this;exact this
theorem VY(f m n:Int)(w:World)(h:gK f m n=false) :
 Calls prog 200 #[.agg #[i6 f,i6 m],i6 n] w (rB (.iface 87 (i6 1)) w):=by
 have:=Im f m n w;rw[h] at this;exact this
theorem Iu(f m n:Int)(w:World) :
 Calls prog 221 #[.agg #[i6 f,i6 m],i6 n] w (rB (i6 (KR (gK f m n))) w):=by
 go_enter func221,ntmps221;go_wp2
 all_goals
  go_ret;refine⟨jI ?_,aA _ _⟩
  first|(rw[Ze oM];rfl)|(rw[Ud oM oM oM oM oM];rfl)
theorem Z9(f m g n:Int)(w:World)(b:Bool)(h:yx f m g n=b) :
 Calls prog 174 #[.agg #[i6 f,i6 m],.agg #[i6 g,i6 n]] w (rB (.bool b) w):=by
 subst h;exact W4 f m g n w
theorem o4(f m g n:Int)(w:World)(b:Bool)(h:(wrap64 (f+m)==g)=b) :
 Calls prog 204 #[.agg #[i6 f,i6 m],.agg #[i6 g,i6 n]] w (rB (.bool b) w):=by
 subst h;exact Xa f m g n w
theorem sI(f m a:Int)(w:World)(b:Bool)(h:dO f m a=b) :
 Calls prog 126 #[.agg #[i6 f,i6 m],i6 a] w (rB (.bool b) w):=by
 subst h;exact GX f m a w
theorem rX(f m n:Int)(w:World)(h:gK f m n=true) :
 Calls prog 221 #[.agg #[i6 f,i6 m],i6 n] w (rB (i6 0) w):=by
 have:=Iu f m n w;rw[h] at this;exact this
theorem Wk(f m n:Int)(w:World)(h:gK f m n=false) :
 Calls prog 221 #[.agg #[i6 f,i6 m],i6 n] w (rB (i6 1) w):=by
 have:=Iu f m n w;rw[h] at this;exact this
theorem Mp(f:Int)(w:World) :
 Calls prog 20 #[.nilIface,i6 f] w (rB (.bool (f==0)) w):=by
 go_enter func20,ntmps20;go_wp2;go_ret;exact⟨rfl,aX _ _⟩
theorem Rb(n:Int)(w:World):Sem.run prog (Instr.typeAssert (.iface 87 (i6 n)) 53 87 true) w=.ok (.tuple #[i6 n,.bool true]) w:=kR
theorem XJ(n f:Int)(w:World) :
 Calls prog 20 #[.iface 87 (i6 n),i6 f] w (rB (.bool (decide (0<f)&&(n==f))) w):=by
 have ra:=Rb n
 by_cases h:0<f
 ·go_enter func20,ntmps20;go_wp2;go_ret;exact⟨ey (by simp[h]),aX _ _⟩
 ·go_enter func20,ntmps20;go_wp2;go_ret;exact⟨ey (by rw[aa9 oM];rfl),aX _ _⟩
theorem UH(f m a:Int)(w:World)(h0:0<=f)(h1:f<32)(h2:1<=m)(h3:m<=32-f) :
 Calls prog 105 #[.agg #[i6 f,i6 m],i6 a] w (rB (.bool (gU f m a)) w):=by
 go_enter func105,ntmps105;go_wp2
 go_loop [5] (fun i=>∃k:Int,0<=k/\k<=m/\i=i6 k/\¬(f<=a/\a<f+k)) (fun i=>(m-intOf i).toNat)
 case atStart=>exact⟨0,oM,oM,rfl,oM⟩
 case round =>
  obtain⟨k,yg,uR,rfl,dV⟩:=hrel
  by_cases au:k<m
  ·by_cases he:(f+k==a)=true
   ·go_wp2;go_ret;exact⟨ey (by simp only[ac3] at he;symm;simp only[gU,aba];omega),aA _ _⟩
   ·have he':(f+k==a)=false:=by simpa using he
    clear he;go_wp2
    go_round
    case rel=>exact⟨k+1,oM,oM,gN,by simp only[aaU,ne_eq] at he';omega⟩
    case measure=>simp[intOf];omega
  ·go_wp2;go_ret;exact⟨ey (by symm;simp only[gU,acv];omega),aA _ _⟩
theorem Mh(f m n a:Int)(w:World)(h:gK f m n=true)(b:Bool)(hb:gU f m a=b) :
 Calls prog 105 #[.agg #[i6 f,i6 m],i6 a] w (rB (.bool b) w):=by
 subst hb;simp only[gK,aba] at h;exact UH f m a w oM oM oM oM
def KI(f m g n:Int):Bool:=decide (f<g+n/\g<f+m)
theorem V2{f m g n:Int}(h:¬(f<g+n/\g<f+m)):KI f m g n=false:=aa9 h
theorem Sr{f m g n:Int}(h:f<g+n/\g<f+m):KI f m g n=true:=aa1 h
theorem aai{f m g n j:Int}(h:∀t:Int,0<=t->t<j->¬((f<=t/\t<f+m)/\(g<=t/\t<g+n)))(hx:¬((f<=j/\j<f+m)/\(g<=j/\j<g+n))) :
 ∀t:Int,0<=t->t<j+1->¬((f<=t/\t<f+m)/\(g<=t/\t<g+n)):=by
 intro t t0 t1
 by_cases e:t=j
 ·subst e;exact hx
 ·exact h t t0 oM
theorem QW(f m g n:Int)(w:World)(h:gK f m 32=true)(k:gK g n 32=true) :
 Calls prog 189 #[.agg #[i6 f,i6 m],.agg #[i6 g,i6 n]] w (rB (.bool (KI f m g n)) w):=by
 go_enter func189,ntmps189;go_wp2;have h':=h;have k':=k;simp only[gK,aba] at h' k';obtain⟨f0,f1,m1,m2,m3⟩:=h';obtain⟨g0,g1,n1,n2,n3⟩:=k'
 go_loopw[5] (fun i wr=>∃j:Int,0<=j/\j<=32/\i=i6 j/\(∀t:Int,0<=t->t<j->¬((f<=t/\t<f+m)/\(g<=t/\t<g+n)))/\Below ((w.alloc (Obj.cells #[Value.int IntKind.i64 f,Value.int IntKind.i64 m] 144)).alloc (Obj.cells #[Value.int IntKind.i64 g,Value.int IntKind.i64 n] 144)).heap.size ((w.alloc (Obj.cells #[Value.int IntKind.i64 f,Value.int IntKind.i64 m] 144)).alloc (Obj.cells #[Value.int IntKind.i64 g,Value.int IntKind.i64 n] 144)) wr) (fun i _=>(32-intOf i).toNat)
 case atStart=>exact⟨0,oM,oM,rfl,fun t _ _=>oM,aX _ _⟩
 case round =>
  obtain⟨j,uQ,hj1,rfl,dV,HB⟩:=hrel;have HN:Hid (∀t:Int,0<=t->t<j->¬((f<=t/\t<f+m)/\(g<=t/\t<g+n))):=dV;clear dV;obtain⟨hc,hf,hz⟩:=br HB
  by_cases au:j<32
  ·cases hx:gU f m j
   all_goals
    cases hy:gU g n j
    all_goals
     go_wp2_with(go_at_call 105;refine cM (Mh _ _ 32 _ _ aM _ aM) ?_;intro w1 hb;(try clear hc hf hz);(first|replace HB:=af HB hb|replace HB:=af (aj HB) hb|have HB:=hb);clear hb;obtain⟨hc,hf,hz⟩:=br HB);simp only[gU,aba,acv] at hx hy
     first
      |(go_ret;exact⟨ey (Sr oM).symm,bQ⟩)
      |(go_roundw;(case rel=>exact⟨j+1,oM,oM,gN,aai HN.out oM,HB⟩);(case measure=>simp[intOf];omega))
  ·go_wp2;go_ret;have dV:=HN.out;have hd:¬(f<g+n/\g<f+m):=fun⟨a1,a2⟩=>dV (vi f g) (by unfold vi;split<;>omega) (by unfold vi;split<;>omega) (by unfold vi;split<;>omega)
   exact⟨ey (V2 hd).symm,bQ⟩
theorem Ja(f m g n:Int)(w:World)(h:gK f m 32=true)(k:gK g n 32=true)(b:Bool)(hb:yx f m g n=b) :
 Calls prog 189 #[.agg #[i6 f,i6 m],.agg #[i6 g,i6 n]] w (rB (.bool b) w):=by
 subst hb;rw[LJ f m g n h k];exact QW f m g n w h k
end
section
open Go.RowKit Go.BigFrame
def lY(r:Rq):Prop:=(r.wr=true/\(r.data.length:Int) ≠ r.m)\/(r.wr=false/\0<r.data.length)
def vZ(r:Rq):Prop:=r.tags.length<1\/4<r.tags.length
def CN(r:Rq):Prop:=r.born<0\/1000000000<r.born
def oR(r:Rq):Bool:=r.data.all fun s=>decide (s.size<=4)
structure aeg(r:Rq):Prop where
 ok:gK r.f r.m 4=true
 shape:¬lY r
 tags:¬vZ r
 born:¬CN r
theorem NF(r:Rq)(w:World)(h:gK r.f r.m 4=false) :
 Calls prog 188 #[r.val] w (rB (i6 1) w):=by
 obtain⟨wr,f,m,da,dc,data,ta,tc,tags,born⟩:=r;simp only[Rq.val];simp only at h;go_enter func188,ntmps188;go_wp2_with(go_at_call 221;refine cM (Wk _ _ _ _ h) ?_;intro w1 hb;(try clear hc hf hz);(first|replace HB:=af HB hb|replace HB:=af (aj HB) hb|have HB:=hb);clear hb;obtain⟨hc,hf,hz⟩:=br HB);go_ret;exact⟨rfl,bQ⟩
theorem Mf(r:Rq)(w:World)(hr:r.At w)(h:gK r.f r.m 4=true)(h2:lY r) :
 Calls prog 188 #[r.val] w (rB (i6 3) w):=by
 obtain⟨wr,f,m,da,dc,data,ta,tc,tags,born⟩:=r;have l1:=hr.dl;simp only[Rq.val];simp only[lY] at h h2 l1
 rcases h2 with⟨rfl,h2⟩|⟨rfl,h2⟩
 ·have h3:((data.length:Int) != m)=true:=by simp only[afg];exact h2
  go_enter func188,ntmps188;go_wp2_with(go_at_call 221;refine cM (rX _ _ _ _ h) ?_;intro w1 hb;(try clear hc hf hz);(first|replace HB:=af HB hb|replace HB:=af (aj HB) hb|have HB:=hb);clear hb;obtain⟨hc,hf,hz⟩:=br HB);go_ret;exact⟨rfl,bQ⟩
 ·go_enter func188,ntmps188;go_wp2_with(go_at_call 221;refine cM (rX _ _ _ _ h) ?_;intro w1 hb;(try clear hc hf hz);(first|replace HB:=af HB hb|replace HB:=af (aj HB) hb|have HB:=hb);clear hb;obtain⟨hc,hf,hz⟩:=br HB);go_ret;exact⟨rfl,bQ⟩
theorem NG(r:Rq)(w:World)(hr:r.At w)(h:gK r.f r.m 4=true)(h2:¬lY r)(h3:vZ r) :
 Calls prog 188 #[r.val] w (rB (i6 3) w):=by
 obtain⟨wr,f,m,da,dc,data,ta,tc,tags,born⟩:=r;have l1:=hr.dl;have l2:=hr.tl;simp only[Rq.val];simp only[lY,vZ] at h h2 h3 l1 l2;have pq:(wr=true/\((data.length:Int) != m)=false)\/(wr=false/\¬(0:Int)<(data.length:Int)):=by
  cases wr
  ·right;refine⟨rfl,fun h'=>h2 (ir ⟨rfl,oM⟩)⟩
  ·left;refine⟨rfl,?_⟩;rw[ace];rcases Int.decEq (data.length:Int) m with h'|h';exact absurd (il ⟨rfl,h'⟩) h2;exact h'
 clear h2
 rcases h3 with h3|h3
 all_goals
  rcases pq with⟨rfl,A6⟩|⟨rfl,A6⟩
  all_goals
   go_enter func188,ntmps188;go_wp2_with(go_at_call 221;refine cM (rX _ _ _ _ h) ?_;intro w1 hb;(try clear hc hf hz);(first|replace HB:=af HB hb|replace HB:=af (aj HB) hb|have HB:=hb);clear hb;obtain⟨hc,hf,hz⟩:=br HB);go_ret;exact⟨rfl,bQ⟩
theorem NC(r:Rq)(w:World)(hr:r.At w)(h:gK r.f r.m 4=true)(h2:¬lY r)(h3:¬vZ r)(h4:CN r) :
 Calls prog 188 #[r.val] w (rB (i6 1) w):=by
 obtain⟨wr,f,m,da,dc,data,ta,tc,tags,born⟩:=r;have l1:=hr.dl;have l2:=hr.tl;simp only[Rq.val];simp only[lY,vZ,CN] at h h2 h3 h4 l1 l2;have pq:(wr=true/\((data.length:Int) != m)=false)\/(wr=false/\¬(0:Int)<(data.length:Int)):=by
  cases wr
  ·right;refine⟨rfl,fun h'=>h2 (ir ⟨rfl,oM⟩)⟩
  ·left;refine⟨rfl,?_⟩;rw[ace];rcases Int.decEq (data.length:Int) m with h'|h';exact absurd (il ⟨rfl,h'⟩) h2;exact h'
 clear h2;have t1:¬tags.length<1:=fun h'=>h3 (il h')
 have t2:¬4<tags.length:=fun h'=>h3 (ir h')
 clear h3
 rcases h4 with h4|h4
 all_goals
  rcases pq with⟨rfl,A6⟩|⟨rfl,A6⟩
  all_goals
   go_enter func188,ntmps188;go_wp2_with(go_at_call 221;refine cM (rX _ _ _ _ h) ?_;intro w1 hb;(try clear hc hf hz);(first|replace HB:=af HB hb|replace HB:=af (aj HB) hb|have HB:=hb);clear hb;obtain⟨hc,hf,hz⟩:=br HB);go_ret;exact⟨rfl,bQ⟩
theorem ND(r:Rq)(w:World)(hr:r.At w)(adX:aeg r) :
 Calls prog 188 #[r.val] w (rB (i6 (KR (oR r))) w):=by
 obtain⟨h,h2,h3,h4⟩:=adX;obtain⟨wr,f,m,da,dc,data,ta,tc,tags,born⟩:=r;have l1:=hr.dl;have l2:=hr.tl;simp only[Rq.val];simp only[lY,vZ,CN] at h h2 h3 h4 l1 l2;have pq:(wr=true/\((data.length:Int) != m)=false)\/(wr=false/\¬(0:Int)<(data.length:Int)):=by
  cases wr
  ·right;refine⟨rfl,fun h'=>h2 (ir ⟨rfl,oM⟩)⟩
  ·left;refine⟨rfl,?_⟩;rw[ace];rcases Int.decEq (data.length:Int) m with h'|h';exact absurd (il ⟨rfl,h'⟩) h2;exact h'
 clear h2;have hs:=hr.data;simp only at hs;have t1:¬tags.length<1:=fun h'=>h3 (il h')
 have t2:¬4<tags.length:=fun h'=>h3 (ir h')
 have t3:¬born<0:=fun h'=>h4 (il h')
 have t4:¬1000000000<born:=fun h'=>h4 (ir h')
 clear h3 h4 hr;simp only[oR]
 rcases pq with⟨rfl,A6⟩|⟨rfl,A6⟩
 ·rcases hs with rfl|⟨b,o,rfl,vJ⟩
  ·exfalso
   simp only[gK,aba] at h;simp only[af7,ace] at A6
   omega
  ·have HA:Hid (∀i,i<data.length->w.cell? ⟨b,o+i,none⟩=some (.string (data.getD i bE))):=vJ;clear vJ;go_enter func188,ntmps188;go_wp2_with(go_at_call 221;refine cM (rX _ _ _ _ h) ?_;intro w1 hb;(try clear hc hf hz);(first|replace HB:=af HB hb|replace HB:=af (aj HB) hb|have HB:=hb);clear hb;obtain⟨hc,hf,hz⟩:=br HB)
   go_loopw[4] (fun i wr=>∃k:Nat,k<=data.length/\i=i6 k/\(data.take k).all (fun s=>decide (s.size<=4))=true/\wr=w1) (fun i _=>data.length-(intOf i).toNat)
   case atStart=>exact⟨0,oM,rfl,sM,rfl⟩
   case round =>
    clear h l2 t1 t2 t3 t4;obtain⟨k,hk,rfl,hall,rfl⟩:=hrel;have HL:Hid ((data.take k).all (fun s=>decide (s.size<=4))=true):=hall;clear hall
    by_cases au:k<data.length
    ·have hck:=HA.out k au;have fR:=dU hck;have l0:=aq hck;go_wp2
     ·go_ret;exact⟨jI (by rw[VM au (by simp only[acv];omega)];rfl),bQ⟩
     ·go_roundw
      case rel=>exact⟨k+1,oM,gN,VN au HL.out (by simp only[aba];omega),trivial⟩
      case measure=>simp[intOf];omega
    ·go_wp2;go_ret;exact⟨jI (by rw[Zu oM HL.out];rfl),bQ⟩
 ·obtain rfl:data=[]:=aaZ oM;go_enter func188,ntmps188;go_wp2_with(go_at_call 221;refine cM (rX _ _ _ _ h) ?_;intro w1 hb;(try clear hc hf hz);(first|replace HB:=af HB hb|replace HB:=af (aj HB) hb|have HB:=hb);clear hb;obtain⟨hc,hf,hz⟩:=br HB)
  go_loop [4] (fun i=>i=i6 0) (fun _=>0)
  case atStart=>rfl
  case round =>
   subst hrel;go_wp2;go_ret;exact⟨rfl,bQ⟩
end
end Go.Proofs.YtlhgjplipgandaaGreatDoor
