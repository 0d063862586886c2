/- Joined texts: Script1, Script2, KMap. -/
import Derived.Maps.OwnSet
import Derived.Maps.OwnOps
import Derived.Maps.Views
import Derived.Test.YtlhgjplipgandaaGreatDoorD5
set_option maxRecDepth 100000
set_option maxHeartbeats 8000000
set_option linter.unusedSimpArgs false
namespace Go.Proofs.YtlhgjplipgandaaGreatDoor
open Go.RowKit Go.BigFrame Go.Maps
attribute [local go_sem] ze.cell ze.frozen
theorem zlq(D:DataW Unit)(h:IsMap D)(k:Lit)(d:DataW Unit):IsMap (D.put k d):=by
 obtain⟨l,rfl⟩:=h;exact⟨_,rfl⟩
def zaI(n:Int)(b:Bool):DataW Unit:=.agg [.lit (.int .i64 n),.lit (.bool b)]
def za3(v:Value):Option (DataW Unit × List MemPlace):=match v with
 |.agg xs=>match xs.toList with
  |[.int q n,.bool b]=>if q=.i64 then some (zaI n b,[]) else none
  |_=>none
 |_=>none
theorem zaF(n:Int)(b:Bool):za3 (.agg #[.int .i64 n,.bool b])=some (zaI n b,[]):=rfl
theorem zh9{v:Value}{n:Int}{b:Bool}{ps:List MemPlace}(h:za3 v=some (zaI n b,ps)):v=.agg #[.int .i64 n,.bool b]:=by
 unfold za3 at h
 split at h
 ·rename_i xs
  split at h
  ·rename_i q m c hx
   split at h
   ·rename_i hq
    simp only[Option.some.injEq,Prod.mk.injEq,zaI,DataW.agg.injEq,List.cons.injEq,DataW.lit.injEq,Lit.int.injEq,Lit.bool.injEq,true_and,and_true] at h;obtain⟨⟨rfl,rfl⟩,_⟩:=h;subst hq
    congr 1
    apply Array.toList_inj.1;rw[hx]
   ·cases h
  ·cases h
 ·cases h
structure WIs(D:DataW Unit)(g:ByteArray→Option (Int × Bool)):Prop where
 im:IsMap D
 at':∀s:ByteArray,D.atKey (.string s.data.toList) (zaI 0 false)=(match g s with|some p=>zaI p.1 p.2|none=>zaI 0 false)
 has:∀s:ByteArray,Maps.has D (.string s.data.toList)=(g s).isSome
theorem zpP:WIs (.map []) (fun _=>none):=⟨⟨_,rfl⟩,fun _=>rfl,fun _=>rfl⟩
theorem zkR{s t:ByteArray}(h:¬s=t):(Lit.string s.data.toList) ≠ (Lit.string t.data.toList):=by
 intro e;simp only[Lit.string.injEq] at e;apply h
 cases s;cases t
 simp only[ByteArray.mk.injEq];exact Array.toList_inj.1 e
theorem WIs.put{D:DataW Unit}{g:ByteArray→Option (Int × Bool)}(h:WIs D g)(k:ByteArray)(n:Int)(b:Bool):WIs (D.put (.string k.data.toList) (zaI n b)) (fun s=>if s=k then some (n,b) else g s):=by
 refine⟨zlq _ h.im _ _,fun s=>?_,fun s=>?_⟩
 ·by_cases e:s=k
  ·subst e;rw[atKey_put_same h.im (by trivial),if_pos rfl]
  ·rw[atKey_put_other (zkR e),if_neg e];exact h.at' s
 ·by_cases e:s=k
  ·subst e;rw[has_put_same h.im (by trivial),if_pos rfl];rfl
  ·rw[has_put_other (zkR e),if_neg e];exact h.has s
theorem zkW{bm:Nat}{W w w':World}(h:Below W.heap.size W w)(ht:w.mapTurned w' bm)(hb:W.heap.size≤bm):Below W.heap.size W w':=by
 have g:=ht.grown;have hs:=h.size;exact⟨g.os.trans h.os,g.tape.trans h.tape,g.output.trans h.output,Nat.le_trans h.size g.size,fun k hk=>(g.block k (by omega) (fun e=>by have:=Option.some.inj e;omega)).trans (h.block k hk)⟩
theorem zJ{P:Program}(w:World){ops:Array Oper}{rest:List Oper}{o:Oper}{a:Act}{Q:Exit→Act→World→Prop}(hg:o.guard=none)(m x v:Operand)(t:TypeId)(hop:o.op=Op.insert t m x v)
 (k e:TypeId) (K:Keyed P k) (ht:P.underlying t=some (.map k e)) (R:Value→Option (DataW Unit × List MemPlace)) (b n:Nat) (D:DataW Unit)
 (hm:a.eval m=.map (some b)) (hown:w.ownsMap P k R b n D) (hn:n<maxLen) (key val:Value) (kl:Lit) (hx:a.eval x=key) (hv:a.eval v=val) (hkey:keyOf P k key=some kl)
 (d:DataW Unit) (ps:List MemPlace) (hval:R val=some (d,ps))
 (hK:∀w',w'.ownsMap P k R b (n+1) (D.put kl d)→w.mapTurned w' b→wpList P ops Q rest (a.put o.dst undef) w') :
 wpList P ops Q (o::rest) a w:=by
 refine wpList_plain hg fun K' hK'=>?_
 obtain⟨w',hrun,r1,r2⟩:=hown.store K ht hn hkey hval;unfold Oper.wp
 simp[execOp,hop,hm,hx,hv,hrun,Result.andThen]
 exact hK' _ _ (hK w' r1 r2)
def WsAt(w:World)(k:Nat)(g:ByteArray→Option (Int × Bool))(w':World):Prop:=∃D,w'.ownsMap Tryz.prog 9 za3 w.heap.size k D∧WIs D g∧Below w.heap.size w w'
def zhk:ByteArray:=⟨#[114,101,97,100]⟩
def zf0:ByteArray:=⟨#[119,114,105,116,101]⟩
def zhl:ByteArray:=⟨#[115,121,110,99]⟩
def ziJ:ByteArray:=⟨#[103,111,116]⟩
def ziI:ByteArray:=⟨#[101,110,100]⟩
def zfX:ByteArray:=⟨#[102,97,117,108,116]⟩
def zfc:ByteArray:=⟨#[115,101,116,116,108,101]⟩
def zeJ:ByteArray:=⟨#[99,114,97,115,104]⟩
def zhm:ByteArray:=⟨#[116,105,99,107]⟩
def zfV:ByteArray:=⟨#[99,108,101,97,110]⟩
def zdI:ByteArray:=⟨#[100,105,115,112,97,116,99,104]⟩
def zfZ:ByteArray:=⟨#[114,111,117,110,100]⟩
def zfY:ByteArray:=⟨#[113,117,101,117,101]⟩
def zhj:ByteArray:=⟨#[98,117,115,121]⟩
def zfW:ByteArray:=⟨#[100,105,114,116,121]⟩
def zb7(s:ByteArray):Option (Int × Bool) :=
 if s=zfW then some (0,false) else if s=zhj then some (0,false) else if s=zfY then some (0,false) else if s=zfZ then some (0,false) else
 if s=zdI then some (0,false) else if s=zfV then some (0,false) else if s=zhm then some (0,false) else if s=zeJ then some (1,false) else
 if s=zfc then some (1,false) else if s=zfX then some (1,false) else if s=ziI then some (1,false) else if s=ziJ then some (1,false) else
 if s=zhl then some (1,false) else if s=zf0 then some (2,true) else if s=zhk then some (2,false) else none
theorem zaq{w w':World}{k:Nat}{g:ByteArray→Option (Int × Bool)}{D:DataW Unit}(hD:WIs D g)(hb:Below w.heap.size w w'){x:ByteArray}{n:Int}{b:Bool}{w2:World}(h2:w2.ownsMap Tryz.prog 9 za3 w.heap.size (k+1) (D.put (.string x.data.toList) (zaI n b)))(ht:w'.mapTurned w2 w.heap.size):WsAt w (k+1) (fun s=>if s=x then some (n,b) else g s) w2:=⟨_,h2,hD.put x n b,zkW hb ht (Nat.le_refl _)⟩
theorem znA(w:World):Calls Tryz.prog 68 #[] w fun e w'=>e=.returned (.map (some w.heap.size))∧WsAt w 15 zb7 w':=by
 have h0:WsAt w 0 (fun _=>none) (w.alloc (.map #[] 0)):=⟨_,World.ownsMap_made w _ _ _,zpP,zs w _⟩
 have H0:=za h0;clear h0;have hmm:=@run_makeMap Tryz.prog;go_enter Tryz.func68,Tryz.ntmps68;go_wp2_with(first|(obtain⟨D,ho,hw,hb⟩:=H0.out;have HD:=za hw;have HB:=za hb;clear hw hb;have hkey:keyOf Tryz.prog 9 (.string zhk)=some (.string zhk.data.toList):=WideMaps.keyOf_string_mk Tryz.underlying9 (by unfold maxLen;decide);refine zJ _ rfl _ _ _ 116 rfl 9 114 (string_keyed Tryz.underlying9) Tryz.underlying116 za3 w.heap.size 0 D rfl ho (by unfold maxLen;omega) _ _ _ rfl rfl hkey (zaI 2 false) [] (zaF 2 false) ?_;intro w2 ho2 ht2;have H1:=za (zaq HD.out HB.out ho2 ht2);clear ho ho2 ht2 HD HB hkey H0)|(obtain⟨D,ho,hw,hb⟩:=H1.out;have HD:=za hw;have HB:=za hb;clear hw hb;have hkey:keyOf Tryz.prog 9 (.string zf0)=some (.string zf0.data.toList):=WideMaps.keyOf_string_mk Tryz.underlying9 (by unfold maxLen;decide);refine zJ _ rfl _ _ _ 116 rfl 9 114 (string_keyed Tryz.underlying9) Tryz.underlying116 za3 w.heap.size 1 D rfl ho (by unfold maxLen;omega) _ _ _ rfl rfl hkey (zaI 2 true) [] (zaF 2 true) ?_;intro w2 ho2 ht2;have H2:=za (zaq HD.out HB.out ho2 ht2);clear ho ho2 ht2 HD HB hkey H1)|(obtain⟨D,ho,hw,hb⟩:=H2.out;have HD:=za hw;have HB:=za hb;clear hw hb;have hkey:keyOf Tryz.prog 9 (.string zhl)=some (.string zhl.data.toList):=WideMaps.keyOf_string_mk Tryz.underlying9 (by unfold maxLen;decide);refine zJ _ rfl _ _ _ 116 rfl 9 114 (string_keyed Tryz.underlying9) Tryz.underlying116 za3 w.heap.size 2 D rfl ho (by unfold maxLen;omega) _ _ _ rfl rfl hkey (zaI 1 false) [] (zaF 1 false) ?_;intro w2 ho2 ht2;have H3:=za (zaq HD.out HB.out ho2 ht2);clear ho ho2 ht2 HD HB hkey H2)|(obtain⟨D,ho,hw,hb⟩:=H3.out;have HD:=za hw;have HB:=za hb;clear hw hb;have hkey:keyOf Tryz.prog 9 (.string ziJ)=some (.string ziJ.data.toList):=WideMaps.keyOf_string_mk Tryz.underlying9 (by unfold maxLen;decide);refine zJ _ rfl _ _ _ 116 rfl 9 114 (string_keyed Tryz.underlying9) Tryz.underlying116 za3 w.heap.size 3 D rfl ho (by unfold maxLen;omega) _ _ _ rfl rfl hkey (zaI 1 false) [] (zaF 1 false) ?_;intro w2 ho2 ht2;have H4:=za (zaq HD.out HB.out ho2 ht2);clear ho ho2 ht2 HD HB hkey H3)|(obtain⟨D,ho,hw,hb⟩:=H4.out;have HD:=za hw;have HB:=za hb;clear hw hb;have hkey:keyOf Tryz.prog 9 (.string ziI)=some (.string ziI.data.toList):=WideMaps.keyOf_string_mk Tryz.underlying9 (by unfold maxLen;decide);refine zJ _ rfl _ _ _ 116 rfl 9 114 (string_keyed Tryz.underlying9) Tryz.underlying116 za3 w.heap.size 4 D rfl ho (by unfold maxLen;omega) _ _ _ rfl rfl hkey (zaI 1 false) [] (zaF 1 false) ?_;intro w2 ho2 ht2;have H5:=za (zaq HD.out HB.out ho2 ht2);clear ho ho2 ht2 HD HB hkey H4)|(obtain⟨D,ho,hw,hb⟩:=H5.out;have HD:=za hw;have HB:=za hb;clear hw hb;have hkey:keyOf Tryz.prog 9 (.string zfX)=some (.string zfX.data.toList):=WideMaps.keyOf_string_mk Tryz.underlying9 (by unfold maxLen;decide);refine zJ _ rfl _ _ _ 116 rfl 9 114 (string_keyed Tryz.underlying9) Tryz.underlying116 za3 w.heap.size 5 D rfl ho (by unfold maxLen;omega) _ _ _ rfl rfl hkey (zaI 1 false) [] (zaF 1 false) ?_;intro w2 ho2 ht2;have H6:=za (zaq HD.out HB.out ho2 ht2);clear ho ho2 ht2 HD HB hkey H5)|(obtain⟨D,ho,hw,hb⟩:=H6.out;have HD:=za hw;have HB:=za hb;clear hw hb;have hkey:keyOf Tryz.prog 9 (.string zfc)=some (.string zfc.data.toList):=WideMaps.keyOf_string_mk Tryz.underlying9 (by unfold maxLen;decide);refine zJ _ rfl _ _ _ 116 rfl 9 114 (string_keyed Tryz.underlying9) Tryz.underlying116 za3 w.heap.size 6 D rfl ho (by unfold maxLen;omega) _ _ _ rfl rfl hkey (zaI 1 false) [] (zaF 1 false) ?_;intro w2 ho2 ht2;have H7:=za (zaq HD.out HB.out ho2 ht2);clear ho ho2 ht2 HD HB hkey H6)|(obtain⟨D,ho,hw,hb⟩:=H7.out;have HD:=za hw;have HB:=za hb;clear hw hb;have hkey:keyOf Tryz.prog 9 (.string zeJ)=some (.string zeJ.data.toList):=WideMaps.keyOf_string_mk Tryz.underlying9 (by unfold maxLen;decide);refine zJ _ rfl _ _ _ 116 rfl 9 114 (string_keyed Tryz.underlying9) Tryz.underlying116 za3 w.heap.size 7 D rfl ho (by unfold maxLen;omega) _ _ _ rfl rfl hkey (zaI 1 false) [] (zaF 1 false) ?_;intro w2 ho2 ht2;have H8:=za (zaq HD.out HB.out ho2 ht2);clear ho ho2 ht2 HD HB hkey H7)|(obtain⟨D,ho,hw,hb⟩:=H8.out;have HD:=za hw;have HB:=za hb;clear hw hb;have hkey:keyOf Tryz.prog 9 (.string zhm)=some (.string zhm.data.toList):=WideMaps.keyOf_string_mk Tryz.underlying9 (by unfold maxLen;decide);refine zJ _ rfl _ _ _ 116 rfl 9 114 (string_keyed Tryz.underlying9) Tryz.underlying116 za3 w.heap.size 8 D rfl ho (by unfold maxLen;omega) _ _ _ rfl rfl hkey (zaI 0 false) [] (zaF 0 false) ?_;intro w2 ho2 ht2;have H9:=za (zaq HD.out HB.out ho2 ht2);clear ho ho2 ht2 HD HB hkey H8)|(obtain⟨D,ho,hw,hb⟩:=H9.out;have HD:=za hw;have HB:=za hb;clear hw hb;have hkey:keyOf Tryz.prog 9 (.string zfV)=some (.string zfV.data.toList):=WideMaps.keyOf_string_mk Tryz.underlying9 (by unfold maxLen;decide);refine zJ _ rfl _ _ _ 116 rfl 9 114 (string_keyed Tryz.underlying9) Tryz.underlying116 za3 w.heap.size 9 D rfl ho (by unfold maxLen;omega) _ _ _ rfl rfl hkey (zaI 0 false) [] (zaF 0 false) ?_;intro w2 ho2 ht2;have H10:=za (zaq HD.out HB.out ho2 ht2);clear ho ho2 ht2 HD HB hkey H9)|(obtain⟨D,ho,hw,hb⟩:=H10.out;have HD:=za hw;have HB:=za hb;clear hw hb;have hkey:keyOf Tryz.prog 9 (.string zdI)=some (.string zdI.data.toList):=WideMaps.keyOf_string_mk Tryz.underlying9 (by unfold maxLen;decide);refine zJ _ rfl _ _ _ 116 rfl 9 114 (string_keyed Tryz.underlying9) Tryz.underlying116 za3 w.heap.size 10 D rfl ho (by unfold maxLen;omega) _ _ _ rfl rfl hkey (zaI 0 false) [] (zaF 0 false) ?_;intro w2 ho2 ht2;have H11:=za (zaq HD.out HB.out ho2 ht2);clear ho ho2 ht2 HD HB hkey H10)|(obtain⟨D,ho,hw,hb⟩:=H11.out;have HD:=za hw;have HB:=za hb;clear hw hb;have hkey:keyOf Tryz.prog 9 (.string zfZ)=some (.string zfZ.data.toList):=WideMaps.keyOf_string_mk Tryz.underlying9 (by unfold maxLen;decide);refine zJ _ rfl _ _ _ 116 rfl 9 114 (string_keyed Tryz.underlying9) Tryz.underlying116 za3 w.heap.size 11 D rfl ho (by unfold maxLen;omega) _ _ _ rfl rfl hkey (zaI 0 false) [] (zaF 0 false) ?_;intro w2 ho2 ht2;have H12:=za (zaq HD.out HB.out ho2 ht2);clear ho ho2 ht2 HD HB hkey H11)|(obtain⟨D,ho,hw,hb⟩:=H12.out;have HD:=za hw;have HB:=za hb;clear hw hb;have hkey:keyOf Tryz.prog 9 (.string zfY)=some (.string zfY.data.toList):=WideMaps.keyOf_string_mk Tryz.underlying9 (by unfold maxLen;decide);refine zJ _ rfl _ _ _ 116 rfl 9 114 (string_keyed Tryz.underlying9) Tryz.underlying116 za3 w.heap.size 12 D rfl ho (by unfold maxLen;omega) _ _ _ rfl rfl hkey (zaI 0 false) [] (zaF 0 false) ?_;intro w2 ho2 ht2;have H13:=za (zaq HD.out HB.out ho2 ht2);clear ho ho2 ht2 HD HB hkey H12)|(obtain⟨D,ho,hw,hb⟩:=H13.out;have HD:=za hw;have HB:=za hb;clear hw hb;have hkey:keyOf Tryz.prog 9 (.string zhj)=some (.string zhj.data.toList):=WideMaps.keyOf_string_mk Tryz.underlying9 (by unfold maxLen;decide);refine zJ _ rfl _ _ _ 116 rfl 9 114 (string_keyed Tryz.underlying9) Tryz.underlying116 za3 w.heap.size 13 D rfl ho (by unfold maxLen;omega) _ _ _ rfl rfl hkey (zaI 0 false) [] (zaF 0 false) ?_;intro w2 ho2 ht2;have H14:=za (zaq HD.out HB.out ho2 ht2);clear ho ho2 ht2 HD HB hkey H13)|(obtain⟨D,ho,hw,hb⟩:=H14.out;have HD:=za hw;have HB:=za hb;clear hw hb;have hkey:keyOf Tryz.prog 9 (.string zfW)=some (.string zfW.data.toList):=WideMaps.keyOf_string_mk Tryz.underlying9 (by unfold maxLen;decide);refine zJ _ rfl _ _ _ 116 rfl 9 114 (string_keyed Tryz.underlying9) Tryz.underlying116 za3 w.heap.size 14 D rfl ho (by unfold maxLen;omega) _ _ _ rfl rfl hkey (zaI 0 false) [] (zaF 0 false) ?_;intro w2 ho2 ht2;have H15:=za (zaq HD.out HB.out ho2 ht2);clear ho ho2 ht2 HD HB hkey H14))
 go_ret;exact⟨rfl,H15.out⟩
structure St where
 word:ByteArray
 a:Int
 b:Int
 data:ByteArray
abbrev St.val(x:St):Value:=.agg #[.string x.word,.int .i64 x.a,.int .i64 x.b,.string x.data]
def zbx(s:ByteArray):Int × Bool:=(zb7 s).getD (0,false)
def zdv(o:Option (Int × Bool)):Prop:=o=none∨∃n b,o=some (n,b)∧((n=0∧b=false)∨(n=1∧b=false)∨(n=2∧b=true)∨(n=2∧b=false))
theorem zot{c:Prop} [Decidable c]{x y:Option (Int × Bool)}(h1:zdv x)(h2:zdv y):zdv (if c then x else y):=by split<;>assumption
theorem zky(s:ByteArray):zdv (zb7 s):=by
 have q0:zdv (some (0,false)):=Or.inr ⟨_,_,rfl,Or.inl ⟨rfl,rfl⟩⟩;have q1:zdv (some (1,false)):=Or.inr ⟨_,_,rfl,Or.inr (Or.inl ⟨rfl,rfl⟩)⟩;have q2:zdv (some (2,true)):=Or.inr ⟨_,_,rfl,Or.inr (Or.inr (Or.inl ⟨rfl,rfl⟩))⟩;have q3:zdv (some (2,false)):=Or.inr ⟨_,_,rfl,Or.inr (Or.inr (Or.inr ⟨rfl,rfl⟩))⟩;have qn:zdv none:=Or.inl rfl;unfold zb7
 repeat' (first|exact q0|exact q1|exact q2|exact q3|exact qn|refine zot ?_ ?_)
theorem zit(s:ByteArray):∃n b,zbx s=(n,b)∧((n=0∧b=false)∨(n=1∧b=false)∨(n=2∧b=true)∨(n=2∧b=false)):=by
 unfold zbx
 rcases zky s with h|⟨n,b,h,h2⟩
 ·rw[h];exact⟨0,false,rfl,Or.inl ⟨rfl,rfl⟩⟩
 ·rw[h];exact⟨n,b,rfl,h2⟩
theorem zhr(w:World):(zeroValue 114).run Tryz.prog w=.ok (.agg #[.int .i64 0,.bool false]) w:=rfl
def WsB(w:World)(mb:Nat)(w':World):Prop:=∃D,w'.ownsMap Tryz.prog 9 za3 mb 15 D∧WIs D zb7∧Below w.heap.size w w'
theorem zpQ(w:World):Calls Tryz.prog 68 #[] w fun e w'=>∃mb,e=.returned (.map (some mb))∧WsB w mb w':=(znA w).mono (fun _ _ h=>⟨_,h.1,h.2⟩)
theorem WsB.bel{w w':World}{mb:Nat}(h:WsB w mb w'):Below w.heap.size w w':=h.choose_spec.2.2
theorem zkK{w w' w2:World}{mb:Nat}(h:WsB w mb w')(hb:Below w'.heap.size w' w2)(s:ByteArray)(hs:s.size≤9223372036854775807)(n:Int)(b:Bool)(hn:zbx s=(n,b))(c:Bool)(hc:(zb7 s).isSome=c) :
 (Instr.lookup 116 (.map (some mb)) (.string s) true).run Tryz.prog w2=.ok (.tuple #[.agg #[.int .i64 n,.bool b],.bool c]) w2∧(Instr.lookup 116 (.map (some mb)) (.string s) false).run Tryz.prog w2=.ok (.agg #[.int .i64 n,.bool b]) w2:=by
 obtain⟨D,ho,hD,_⟩:=h;have ho2:w2.ownsMap Tryz.prog 9 za3 mb 15 D:=by
  obtain⟨es,clock,h1,h2,h3,h4⟩:=ho;exact⟨es,clock,(hb.block _ (Array.getElem?_eq_some_iff.1 h1).1).trans h1,h2,h3,h4⟩
 have hkey:keyOf Tryz.prog 9 (.string s)=some (.string s.data.toList):=WideMaps.keyOf_string_mk Tryz.underlying9 (by unfold maxLen;omega);have h3:D.atKey (.string s.data.toList) (zaI 0 false)=zaI n b:=by
  rw[hD.at' s];unfold zbx at hn
  cases e:zb7 s with
  |none=>rw[e] at hn;cases hn;rfl
  |some p=>rw[e] at hn;cases hn;rfl
 refine⟨?_,?_⟩
 ·obtain⟨v,ps,h1,h2⟩:=ho2.look_ok (string_keyed Tryz.underlying9) Tryz.underlying116 (zhr w2) (zaF 0 false) hkey;rw[h3] at h2;rw[h1,zh9 h2,hD.has s,hc]
 ·obtain⟨v,ps,h1,h2⟩:=ho2.lookup (string_keyed Tryz.underlying9) Tryz.underlying116 (zhr w2) (zaF 0 false) hkey;rw[h3] at h2;rw[h1,zh9 h2]
def zei(n:Int)(b:Bool)(x:St):Bool:=(decide (0<n)||x.a==0)&&(decide (1<n)||x.b==0)&&(b||x.data.toList.isEmpty)
theorem zpl(n:Int)(b:Bool)(x:St)(w:World)(hn:(n=0∧b=false)∨(n=1∧b=false)∨(n=2∧b=true)∨(n=2∧b=false))(t:Bool)(ht:zei n b x=t) :
 Calls Tryz.prog 69 #[.agg #[.int .i64 n,.bool b],x.val] w fun e w'=>e=.returned (.bool t)∧Below w.heap.size w w':=by
 subst ht;obtain⟨wd,xa,xb,dt⟩:=x;have H:=fun q=>za (show zei n b ⟨wd,xa,xb,dt⟩=q→zei n b ⟨wd,xa,xb,dt⟩=q from id)
 unfold zei;simp only
 cases ha:(xa==0)<;>cases hb:(xb==0)<;>cases hd:dt.toList.isEmpty<;>rcases hn with⟨rfl,rfl⟩|⟨rfl,rfl⟩|⟨rfl,rfl⟩|⟨rfl,rfl⟩
 all_goals
  clear H;go_enter Tryz.func69,Tryz.ntmps69;go_wp2;go_ret;exact⟨rfl,by(with_reducible repeat first|exact Below.refl _ _|refine zc ?_ _|refine zd ?_|refine bset' ?_ (by omega) _|refine zb ?_ (by assumption))⟩
theorem zeg{bm:Nat}{W w w':World}(h:Below W.heap.size W w)(ht:w.mapTurned w' bm)(hb:W.heap.size≤bm):Below W.heap.size W w':=by
 have g:=ht.grown;have hs:=h.size;exact⟨g.os.trans h.os,g.tape.trans h.tape,g.output.trans h.output,Nat.le_trans h.size g.size,fun k hk=>(g.block k (by omega) (fun e=>by have:=Option.some.inj e;omega)).trans (h.block k hk)⟩
theorem zct{P:Program}(w:World){ops:Array Oper}{rest:List Oper}{o:Oper}{a:Act}{Q:Exit→Act→World→Prop}(hg:o.guard=none)(m x v:Operand)(t:TypeId)(hop:o.op=Op.insert t m x v)
 (k e:TypeId) (K:Keyed P k) (ht:P.underlying t=some (.map k e)) (R:Value→Option (DataW Unit × List MemPlace)) (b n:Nat) (D:DataW Unit)
 (hm:a.eval m=.map (some b)) (hown:w.ownsMap P k R b n D) (hn:n<maxLen) (key val:Value) (kl:Lit) (hx:a.eval x=key) (hv:a.eval v=val) (hkey:keyOf P k key=some kl)
 (d:DataW Unit) (ps:List MemPlace) (hval:R val=some (d,ps))
 (hK:∀w',w'.ownsMap P k R b (n+1) (D.put kl d)→w.mapTurned w' b→wpList P ops Q rest (a.put o.dst undef) w') :
 wpList P ops Q (o::rest) a w:=by
 refine wpList_plain hg fun K' hK'=>?_
 obtain⟨w',hrun,r1,r2⟩:=hown.store K ht hn hkey hval;unfold Oper.wp
 simp[execOp,hop,hm,hx,hv,hrun,Result.andThen]
 exact hK' _ _ (hK w' r1 r2)
def zht(w0:World)(k:Nat)(D:DataW Unit)(w':World):Prop:=w'.ownsMap Tryz.prog 9 (plainElem Tryz.prog 3) w0.heap.size k D∧Below w0.heap.size w0 w'
theorem zoh(w0:World):zht w0 0 (.map []) (w0.alloc (.map #[] 0)):=⟨World.ownsMap_made w0 _ _ _,zs w0 _⟩
def zg3:ByteArray:=⟨#[114,101,97,100]⟩
def zfQ:ByteArray:=⟨#[119,114,105,116,101]⟩
def zg4:ByteArray:=⟨#[115,121,110,99]⟩
theorem ze1{D:DataW Unit}(h:IsMap D)(k:Lit)(d:DataW Unit):IsMap (D.put k d):=by
 obtain⟨l,rfl⟩:=h;exact⟨_,rfl⟩
theorem zgz{s t:ByteArray}(h:¬s=t):(Lit.string s.data.toList) ≠ (Lit.string t.data.toList):=by
 intro e;simp only[Lit.string.injEq] at e;apply h
 cases s;cases t
 simp only[ByteArray.mk.injEq];exact Array.toList_inj.1 e
def zc3:DataW Unit:=(((DataW.map []).put (.string zg3.data.toList) (.lit (.int .i64 1))).put (.string zfQ.data.toList) (.lit (.int .i64 2))).put (.string zg4.data.toList) (.lit (.int .i64 3))
theorem zlu{c:Int}(h:zc3.atKey (.string zg3.data.toList) (.lit (.int .i64 0))=.lit (.int .i64 c)):c=1:=by
 unfold zc3 at h;rw[atKey_put_other (zgz (by decide)),atKey_put_other (zgz (by decide)),atKey_put_same ⟨_,rfl⟩ (by trivial)] at h;injection h with e;injection e with _ e;exact e.symm
theorem zjW{c:Int}(h:zc3.atKey (.string zfQ.data.toList) (.lit (.int .i64 0))=.lit (.int .i64 c)):c=2:=by
 unfold zc3 at h;rw[atKey_put_other (zgz (by decide)),atKey_put_same (ze1 ⟨_,rfl⟩ _ _) (by trivial)] at h;injection h with e;injection e with _ e;exact e.symm
theorem zlv{c:Int}(h:zc3.atKey (.string zg4.data.toList) (.lit (.int .i64 0))=.lit (.int .i64 c)):c=3:=by
 unfold zc3 at h;rw[atKey_put_same (ze1 (ze1 ⟨_,rfl⟩ _ _) _ _) (by trivial)] at h;injection h with e;injection e with _ e;exact e.symm
theorem zeroIK(w:World):(zeroValue 3).run Tryz.prog w=.ok (.int .i64 0) w:=by kernel_rfl
theorem zpq(s:ByteArray)(h:s.size≤9223372036854775807):keyOf Tryz.prog 9 (.string s)=some (.string s.data.toList):=WideMaps.keyOf_string_mk Tryz.underlying9 (by unfold maxLen;exact h)
end Go.Proofs.YtlhgjplipgandaaGreatDoor
