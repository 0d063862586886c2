/- Joined. -/
import Derived.Laws.RangeAny
import Derived.Laws.Runes
import Derived.WalkMore
import Derived.Deep.RegionHeld3
import Derived.Deep.LoopGhost
import Derived.Lib.OthersKept
import Derived.Test.YtlhgjplipgandaaGreatDoorF1
import Derived.Test.YtlhgjplipgandaaGreatDoorF34
set_option maxRecDepth 100000
set_option maxHeartbeats 8000000
set_option linter.unusedSimpArgs false
set_option linter.unusedSectionVars false
namespace Go.Proofs.YtlhgjplipgandaaGreatDoor
open Tryz
open Go.RowKit Go.BigFrame Go.Maps
abbrev adE:=@Go.Lib.toList_data
def kV(x:UInt8):Bool:=x==32||x==10
def j7(s:ByteArray):Bool:=s.data.toList.any kV
theorem OX(s:ByteArray)(i:Nat)(h:i<s.size):s.get! i=s[i]'h:=by
 simp[ByteArray.get!,getElem!_pos,h]
 rfl
theorem M0(s:ByteArray)(pos:Nat)(h:pos<s.size)(BJ:128<=(s[pos]'h).toNat):pos+(Utf8.decode s pos).2<=s.size/\∀k,k<(Utf8.decode s pos).2->∀h2:pos+k<s.size,128<=(s[pos+k]'h2).toNat:=by
 have e0:(s.get! (pos+0)).toNat=(s[pos]'h).toNat:=by rw[agS,OX s pos h]
 have one:pos+1<=s.size/\∀k,k<1->∀h2:pos+k<s.size,128<=(s[pos+k]'h2).toNat:=⟨oM,fun k hk h2=>by
  obtain rfl:k=0:=oM
  simpa using BJ⟩
 have cont:∀k,(decide (pos+k<s.size)&&(s.get! (pos+k)).toNat / 64==2)=true->∃h2:pos+k<s.size,128<=(s[pos+k]'h2).toNat:=fun k hk=>by
  simp only[abW,aba,ac3] at hk;refine⟨hk.1,?_⟩;rw[OX s _ hk.1] at hk
  omega
 unfold Utf8.decode;simp only;rw[aaP (by rw[e0];omega)]
 split
 ·rename_i hc
  rw[abW] at hc;obtain⟨l1,g1⟩:=cont 1 hc.2
  split
  ·refine⟨oM,fun k hk h2=>?_⟩;have:k=0\/k=1:=oM
   rcases this with rfl|rfl
   ·simpa using BJ
   ·exact g1
  ·exact one
 split
 ·rename_i hc
  simp only[abW] at hc;obtain⟨l1,g1⟩:=cont 1 (by simpa using hc.1.2);obtain⟨l2,g2⟩:=cont 2 (by simpa using hc.2)
  split
  ·refine⟨oM,fun k hk h2=>?_⟩;have:k=0\/k=1\/k=2:=oM
   rcases this with rfl|rfl|rfl
   ·simpa using BJ
   ·exact g1
   ·exact g2
  ·exact one
 split
 ·rename_i hc
  simp only[abW] at hc;obtain⟨l1,g1⟩:=cont 1 (by simpa using hc.1.1.2);obtain⟨l2,g2⟩:=cont 2 (by simpa using hc.1.2);obtain⟨l3,g3⟩:=cont 3 (by simpa using hc.2)
  split
  ·refine⟨oM,fun k hk h2=>?_⟩;have:k=0\/k=1\/k=2\/k=3:=oM
   rcases this with rfl|rfl|rfl|rfl
   ·simpa using BJ
   ·exact g1
   ·exact g2
   ·exact g3
  ·exact one
 ·exact one
def ae8:ByteArray:=⟨#[32,10]⟩
theorem PU(s:ByteArray)(pos:Nat):(Utf8.decode s pos).1<=1114111:=by
 have hb:∀k,(s.get! (pos+k)).toNat<256:=fun k=>(s.get! (pos+k)).toNat_lt
 have h0:=hb 0;have h1:=hb 1;have h2:=hb 2;have h3:=hb 3;simp only[Utf8.decode]
 repeat' split
 all_goals simp_all [Utf8.runeError,Utf8.valid]
 all_goals omega
theorem X6(r:Int)(h:Lib.validRune r=true):Utf8.valid r=true:=by
 unfold Lib.validRune at h;unfold Utf8.valid;simp only[aba,afS,abW] at h ⊢
 omega
theorem aau(c:Int)(w:World)(h0:128<=c)(h1:c<=1114111):Calls prog 155 #[.string ⟨#[32,10]⟩,.int .i32 c] w (rB (i6 (-1)) w):=by
 have g1:decide ((0:Int)<=c)=true:=aa1 oM;have g2:decide (c<(128:Int))=false:=aa9 oM
 by_cases hE:c=65533
 ·subst hE;have n0:∀ty,(Instr.next (.pointer (some ⟨w.heap.size,0,none⟩)) true ty).run prog (w.iter ⟨#[32,10]⟩ 0)=.ok (.tuple #[.bool true,i6 0,.int .i32 32]) (w.iter ⟨#[32,10]⟩ 1):=fun ty=>run_next_ascii (P:=prog) w ⟨#[32,10]⟩ 0 ty dM dM
  have n1:∀ty,(Instr.next (.pointer (some ⟨w.heap.size,0,none⟩)) true ty).run prog (w.iter ⟨#[32,10]⟩ 1)=.ok (.tuple #[.bool true,i6 1,.int .i32 10]) (w.iter ⟨#[32,10]⟩ 2):=fun ty=>run_next_ascii (P:=prog) w ⟨#[32,10]⟩ 1 ty dM dM
  have n2:∀ty,(Instr.next (.pointer (some ⟨w.heap.size,0,none⟩)) true ty).run prog (w.iter ⟨#[32,10]⟩ 2)=.ok (.tuple #[.bool false]) (w.iter ⟨#[32,10]⟩ 2):=fun ty=>run_next_end (P:=prog) w ⟨#[32,10]⟩ 2 ty dM
  go_enter func155,ntmps155;go_wp2
  go_loopg [5,6] 2 (fun g _ _ wx=>∃i:Nat,i+g=2/\wx=w.iter ⟨#[32,10]⟩ i)
  case atStart=>exact⟨0,rfl,rfl⟩
  case round =>
   obtain⟨i,hig,rfl⟩:=hrel;have hi:i=0\/i=1\/i=2:=oM
   rcases hi with rfl|rfl|rfl
   ·go_wp2
    go_roundg 1
    case measure=>omega
    case rel=>exact⟨1,rfl,rfl⟩
   ·go_wp2
    go_roundg 0
    case measure=>omega
    case rel=>exact⟨2,rfl,rfl⟩
   ·go_wp2;go_ret;exact⟨rfl,(aX _ _).alloc (aaO _) _⟩
 ·have ge:(c==(65533:Int))=false:=aaU.2 hE
  cases hv:Lib.validRune c
  ·go_enter func155,ntmps155;go_wp2_with fail;refine(Tryz.utf8_ValidRune c _).mono ?_;rw[hv];rintro e w1 ⟨rfl,rfl⟩;go_wp2;go_ret;exact⟨rfl,bQ⟩
  ·obtain⟨e1,e2,e3⟩:=encode_facts c (X6 c hv) h0;have HE:∃E:ByteArray,Utf8.encode c=E:=⟨_,rfl⟩
   obtain⟨E,hE2⟩:=HE;have O4:∀w',(convert 21 9 (.int .i32 c)).run prog w'=.ok (.string E) w':=fun w'=>by rw[<-hE2];exact run_convert_int_string w' _ _ _ _ rfl underlying9
   rw[hE2] at e1 e2 e3;clear hE2;obtain⟨⟨l⟩⟩:=E;have e1':2<=l.length:=e1;have e2':l.length<=4:=e2;clear e1 e2;go_enter func155,ntmps155;go_wp2_with fail;refine(Tryz.utf8_ValidRune c _).mono ?_;rw[hv];rintro e w1 ⟨rfl,rfl⟩
   rcases l with _|⟨x0,_|⟨x1,_|⟨x2,_|⟨x3,_|⟨x4,l⟩⟩⟩⟩⟩
   ·simp at e1'
   ·simp at e1'
   ·have g5:∀(k1:1<(ByteArray.mk #[32,10]).size) (k2:1<(ByteArray.mk ⟨[x0,x1]⟩).size),((((ByteArray.mk #[32,10])[1]'k1).toNat:Int) != (((ByteArray.mk ⟨[x0,x1]⟩)[1]'k2).toNat:Int))=true:=fun k1 k2=>by
     have h5:128<=((ByteArray.mk ⟨[x0,x1]⟩)[1]'k2).toNat:=e3 (by show(1:Nat)<2;omega);have h6:((ByteArray.mk #[32,10])[1]'k1).toNat=10:=rfl;simp only[afg,ne_eq]
     omega
    go_wp2
    go_step3
    go_wp2
    go_loopw[9] (fun i wr=>i=i6 1/\bL w1 wr) (fun _ _=>0)
    case atStart=>exact⟨rfl,aX _ _⟩
    case round =>
     obtain⟨rfl,hb⟩:=hrel;go_wp2_with fail;have pr:∀y,Lib.indexByte [] y=-1:=fun _=>rfl
     have pU:IntKind.i64.wrap 2=2:=dM
     go_step3
     go_wp2_with fail
     go_region_held3 (fun w'=>bL w1 w') (exact bQ) (fail)
     all_goals
      go_wp2_with fail
      go_region_held3 (fun w'=>bL w1 w') (exact bQ) (first|(go_at_call 193;refine cM (Tryz.strings_IndexByte _ _ _) ?_;intro w2 rfl))
      all_goals
       go_wp2;rw[agu];go_wp2;rw[agu];go_ret;exact⟨rfl,af hb bQ⟩
   ·go_wp2
    go_step3
    go_wp2
    go_loopw[9] (fun i wr=>i=i6 2/\bL w1 wr) (fun _ _=>0)
    case atStart=>exact⟨rfl,aX _ _⟩
    case round =>
     obtain⟨rfl,hb⟩:=hrel;go_wp2;rw[agu];go_ret;exact⟨rfl,hb⟩
   ·go_wp2
    go_step3
    go_wp2
    go_loopw[9] (fun i wr=>i=i6 3/\bL w1 wr) (fun _ _=>0)
    case atStart=>exact⟨rfl,aX _ _⟩
    case round =>
     obtain⟨rfl,hb⟩:=hrel;go_wp2;rw[agu];go_ret;exact⟨rfl,hb⟩
   ·exact absurd e2' (by simp only[acf];omega)
def GH(s:ByteArray)(i:Nat):Prop:=∀j,j<i->∀h:j<s.size,kV (s[j]'h)=false
theorem LU{s:ByteArray}(h:GH s s.size):j7 s=false:=by
 unfold j7;rw[afZ];intro x hx;obtain⟨j,hj,rfl⟩:=abM hx;have:=h j hj hj;intro e;have e2:kV (s[j]'hj)=true:=e;rw[this] at e2;cases e2
theorem KB{s:ByteArray}{i:Nat}(h:i<s.size)(hb:kV (s[i]'h)=true):j7 s=true:=by
 unfold j7;rw[afo];exact⟨s.data.toList[i]'h,aa5 h,hb⟩
theorem ZU{x:UInt8}(h:128<=x.toNat):kV x=false:=by
 unfold kV;rw[afe]
 constructor<;>(rw[aaU];intro e;subst e;revert h;decide)
theorem Ij(x:UInt8):decide ((0:Int)<=Lib.indexByte [32,10] x)=kV x:=by
 have h:=Lib.contains_iff_indexByte [32,10] x;rw[<-h];simp only[kV,List.contains_cons,List.contains_nil,afG]
theorem wF{W w:World}{k:Nat}{s:ByteArray}{pos:Nat}(h:bL W w)(hk:W.heap.size<=k):bL W (w.iterAt k s pos):=by
 refine⟨h.os,h.tape,h.output,by simpa [World.iterAt] using h.size,fun i hi=>?_⟩;have:(w.iterAt k s pos).heap[i]?=w.heap[i]?:=by
  simp only[World.iterAt];rw[Array.getElem?_setIfInBounds_ne oM]
 rw[this];exact h.block i hi
theorem B9{w:World}{k:Nat}{s:ByteArray}{p pos:Nat}(h:w.heap[k]?=some (.stringIter s p)):(w.iterAt k s pos).heap[k]?=some (.stringIter s pos):=by
 have hl:=(af4.1 h).1
 simp[World.iterAt,hl]
theorem GZ(s:ByteArray)(h8:s.size<=8)(w:World):Calls prog 115 #[.string s,.string ⟨#[32,10]⟩] w fun e w'=>∃n:Int,e=.returned (i6 n)/\decide (0<=n)=j7 s/\bL w w':=by
 have h8z:decide ((8:Int)<(s.size:Int))=false:=aa9 oM;go_enter func115,ntmps115;go_wp2_with(go_at_call 156;refine cM (Tryz.strings_shouldUseASCIISet _ _) ?_;intro w' hw;rw[hw,h8z])
 go_loopg [9,10] s.size (fun g _ _ wx=>∃i:Nat,i<=s.size/\s.size<=i+g/\bL w wx/\wx.heap[w.heap.size]?=some (.stringIter s i)/\GH s i)
 case atStart=>exact⟨0,oM,oM,(aX _ _).alloc (aaO _) _,w.iter_heap s 0,fun j hj=>absurd hj (aa0 _)⟩
 case round =>
  obtain⟨i,hi,hig,hb,hit,dV⟩:=hrel;have HN:Hid (GH s i):=dV;have HB:=ae hb;have HI:=ae hit;clear dV hb
  by_cases au:i<s.size
  ·cases gk with
   |zero=>omega
   |succ g =>
   by_cases hx:(s[i]'au).toNat<128
   ·have sN:=fun ty=>Lib.run_next_ascii_at (P:=prog) wr w.heap.size s i ty hit au hx
    obtain⟨x,Lt⟩:∃x,s[i]'au=x:=⟨_,rfl⟩
    rw[Lt] at sN hx;have HX:Hid (s[i]'au=x):=Lt;have YP:((x.toNat:Int)).toNat.toUInt8=x:=sM;clear Lt hit
    cases nT:kV x
    ·have WH:¬((0:Int)<=Lib.indexByte [32,10] x):=of_decide_eq_false ((Ij x).trans nT);go_wp2_with(go_at_call 155;refine cM (Tryz.strings_IndexRune_ascii _ _ _ oM oM) ?_;intro w' hw;rw[hw,YP])
     go_roundg g
     case measure=>omega
     case rel=>exact⟨i+1,oM,oM,wF HB.out (aaO _),B9 HI.out,fun j hj h=>by
      by_cases e:j=i
      ·subst e;rw[HX.out];exact nT
      ·exact HN.out j oM h⟩
    ·have mE:(0:Int)<=Lib.indexByte [32,10] x:=agM ((Ij x).trans nT);go_wp2_with(go_at_call 155;refine cM (Tryz.strings_IndexRune_ascii _ _ _ oM oM) ?_;intro w' hw;rw[hw,YP]);go_ret;exact⟨_,rfl,by rw[KB au (by rw[HX.out];exact nT)];exact aa1 oM,wF HB.out (aaO _)⟩
   ·have BJ:128<=(s[i]'au).toNat:=oM;have sN:=fun ty=>Lib.run_next_any_at (P:=prog) wr w.heap.size s i ty hit au
    have hd:=decode_high s i au BJ;have hp:=M0 s i au BJ;have hm:=PU s i;obtain⟨c,hc⟩:∃c,(Utf8.decode s i).1=c:=⟨_,rfl⟩
    obtain⟨n,hn⟩:∃n,(Utf8.decode s i).2=n:=⟨_,rfl⟩
    rw[hc,hn] at sN;rw[hc,hn] at hd;rw[hn] at hp;rw[hc] at hm;have HP:=ae hp.2;have hp1:=hp.1;clear hc hn hp hit BJ hx;go_wp2_with fail;refine cM (aau c _ oM oM) ?_;intro w1 aw;have aN:=ae (af (wF (s:=s) (pos:=i+n) HB.out (aaO _)) aw);have pD:Hid (w1.heap[w.heap.size]?=some (.stringIter s (i+n))):=(aw.block _ (af4.1 (B9 (pos:=i+n) HI.out)).1).trans (B9 HI.out);clear aw sN;go_wp2
    go_roundg g
    case measure=>omega
    case rel=>exact⟨i+n,oM,oM,aN.out,pD.out,fun j hj h=>by
     by_cases e:j<i
     ·exact HN.out j e h
     ·obtain⟨k,rfl⟩:∃k,j=i+k:=⟨j-i,oM⟩
      exact ZU (HP.out k oM h)⟩
  ·have sN:=fun ty=>Lib.run_next_end_at (P:=prog) wr w.heap.size s i ty hit au
   go_wp2;go_ret;exact⟨_,rfl,by rw[LU (show GH s s.size from fun j hj h=>HN.out j oM h)];rfl,HB.out⟩
theorem Xu{x y:Bool}(h:x=y):Ending.returned (.bool x)=Ending.returned (.bool y):=by rw[h]
theorem Xv{x y:Int}(h:x=y):Ending.returned (i6 x)=Ending.returned (i6 y):=by rw[h]
theorem Jy(l:List UInt8):decide (0<=Lib.indexAny l [32,10])=l.any kV:=by
 induction l with
 |nil=>rfl
 |cons b l ih =>
  have mE:=Lib.indexAny_ge [32,10] l;have hc:[32,10].contains b=kV b:=by simp only[kV,List.contains_cons,List.contains_nil,afG]
  rw[agI,Lib.indexAny,hc]
  cases hb:kV b
  ·rw[aaP aa7,Bool.false_or,<-ih]
   split
   ·rename_i e
    have:Lib.indexAny l [32,10]=-1:=by simpa using e
    rw[this]
   ·rename_i e
    have:¬Lib.indexAny l [32,10]=-1:=by simpa using e
    rw[aa1 oM,aa1 oM]
  ·rfl
theorem Ya(w:World):(zeroValue 227).run prog w=.ok (.agg (Array.replicate 256 (.bool false))) w:=kR
theorem Lx(s:ByteArray)(h9:s.size<=9)(w:World):Calls prog 115 #[.string s,.string ⟨#[32,10]⟩] w fun e w'=>∃n:Int,e=.returned (i6 n)/\decide (0<=n)=j7 s/\bL w w':=by
 by_cases h8:s.size<=8
 ·exact GZ s h8 w
 ·refine(Tryz.strings_IndexAny_long Ya s ⟨#[32,10]⟩ w dM oM oM dM (fun j b hb=>?_)).mono ?_
  ·match j,hb with
   |0,hb=>cases hb;decide
   |1,hb=>cases hb;decide
  ·rintro e w' ⟨rfl,rfl⟩;exact⟨_,rfl,Jy _,((aX _ _).alloc (aaO _) _).alloc sM _⟩
theorem E7(s:ByteArray)(h9:s.size<=9)(t:Bool)(ht:j7 s=t)(w:World):Calls prog 71 #[.string s,.string ⟨#[32,10]⟩] w (rB (.bool t) w):=by
 go_enter func71,ntmps71;go_wp2_with fail;refine(Lx s h9 _).mono ?_;rintro e w1 ⟨n,rfl,hn,hb⟩;rw[ht] at hn;have HN:=ae hn;have HB:=ae hb;clear hn hb ht;go_wp2;go_ret;exact⟨Xu HN.out,HB.out⟩
def fM(n:Int):Bool:=decide (n<0)||decide (999<n)
theorem vC(n:Int)(t:Bool)(ht:fM n=t)(w:World):Calls prog 114 #[i6 n] w (rB (.bool t) w):=by
 subst ht;unfold fM
 cases g1:decide (n<0)<;>cases g2:decide ((999:Int)<n)
 all_goals
  go_enter func114,ntmps114;go_wp2;go_ret;exact⟨rfl,aX _ _⟩
def Em(x y:Int):Int:=if fM x=true then 0 else if fM y=true then 1 else -1
theorem Qe(b:Nat)(x y:Int)(w:World)(h0:w.cell? ⟨b,0,none⟩=some (i6 x))(h1:w.cell? ⟨b,1,none⟩=some (i6 y)):Calls prog 154 #[.slice (some ⟨b,0,none⟩) 2 2,.func (.func 114) #[] #[]] w (rB (i6 (Em x y)) w):=by
 have eg:∀args w,(callFunc 114 args).run prog w=.ok (.enter 114 args) w:=by intro args w;go_simp
 have H0:=ae h0;have H1:=ae h1;clear h0 h1;go_enter func154,ntmps154;go_wp2
 go_loopw[8] (fun i wr=>∃k:Nat,k<=2/\i=i6 k/\(1<=k->fM x=false)/\(2<=k->fM y=false)/\bL w wr) (fun i _=>2-(intOf i).toNat)
 case atStart=>exact⟨0,oM,rfl,fun h=>oM,fun h=>oM,aX _ _⟩
 case round =>
  obtain⟨k,hk,rfl,hx,hy,hb⟩:=hrel;have HX:=ae hx;have HY:=ae hy;have HB:=ae hb;have c0:=ai hb H0.out;have c1:=ai hb H1.out;clear hx hy hb;have IN:k=0\/k=1\/k=2:=oM
  rcases IN with rfl|rfl|rfl
  ·obtain⟨tx,cA⟩:∃t,fM x=t:=⟨_,rfl⟩
   cases tx
   ·go_wp2_with fail;refine cM (vC x _ cA _) ?_;intro w1 aw;have aN:=ae (af HB.out aw);have kG:=ae cA;clear aw cA;go_wp2;go_roundw
    case rel=>exact⟨1,oM,by first|rfl|go_num,fun _=>kG.out,fun h=>oM,aN.out⟩
    case measure=>simp[intOf]
   ·go_wp2_with fail;refine cM (vC x _ cA _) ?_;intro w1 aw;have aN:=ae (af HB.out aw);have kG:=ae cA;clear aw cA;go_wp2;go_ret;exact⟨Xv (by unfold Em;rw[aaV kG.out]),aN.out⟩
  ·obtain⟨ty,jh⟩:∃t,fM y=t:=⟨_,rfl⟩
   cases ty
   ·go_wp2_with fail;refine cM (vC y _ jh _) ?_;intro w1 aw;have aN:=ae (af HB.out aw);have lK:=ae jh;clear aw jh;go_wp2;go_roundw
    case rel=>exact⟨2,oM,by first|rfl|go_num,fun _=>HX.out oM,fun _=>lK.out,aN.out⟩
    case measure=>simp[intOf]
   ·go_wp2_with fail;refine cM (vC y _ jh _) ?_;intro w1 aw;have aN:=ae (af HB.out aw);have lK:=ae jh;clear aw jh;go_wp2;go_ret;exact⟨Xv (by unfold Em;rw[HX.out oM,aaP aa7,aaV lK.out]),aN.out⟩
  ·go_wp2;go_ret;exact⟨Xv (by unfold Em;rw[HX.out oM,HY.out oM,aaP aa7,aaP aa7]),HB.out⟩
theorem Jv(b:Nat)(x y:Int)(t:Bool)(ht:(fM x||fM y)=t)(w:World)(h0:w.cell? ⟨b,0,none⟩=some (i6 x))(h1:w.cell? ⟨b,1,none⟩=some (i6 y)):Calls prog 113 #[.slice (some ⟨b,0,none⟩) 2 2,.func (.func 114) #[] #[]] w (rB (.bool t) w):=by
 have hi:decide (0<=Em x y)=t:=by
  rw[<-ht];unfold Em
  cases fM x<;>cases fM y<;>rfl
 have HI:=ae hi;clear hi ht;go_enter func113,ntmps113;go_wp2_with fail;refine(Qe b x y _ h0 h1).mono ?_;generalize Em x y=n at *;rintro e w1 ⟨rfl,aw⟩;have aN:=ae aw;clear aw;go_wp2;go_ret;exact⟨Xu HI.out,aN.out⟩
theorem Lw(b:Nat)(x y:Int)(t:Bool)(ht:(fM x||fM y)=!t)(w:World)(h0:w.cell? ⟨b,0,none⟩=some (i6 x))(h1:w.cell? ⟨b,1,none⟩=some (i6 y)):Calls prog 70 #[.slice (some ⟨b,0,none⟩) 2 2] w (rB (.bool t) w):=by
 go_enter func70,ntmps70;go_wp2_with fail;refine cM (Jv b x y _ ht _ h0 h1) ?_;intro w1 aw;have aN:=ae aw;clear aw;go_wp2;go_ret;exact⟨Xu (by cases t<;>rfl),aN.out⟩
end Go.Proofs.YtlhgjplipgandaaGreatDoor
