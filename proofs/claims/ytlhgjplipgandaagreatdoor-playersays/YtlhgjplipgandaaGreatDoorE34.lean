/- Joined. -/
import Derived.Laws.RangeAny
import Derived.Laws.Runes
import Derived.WalkMore
import Derived.Deep.RegionHeld3
import Derived.Deep.LoopGhost
import Derived.Lib.OthersKept
import Derived.Test.YtlhgjplipgandaaGreatDoorE1
import Derived.Test.YtlhgjplipgandaaGreatDoorE33
set_option maxRecDepth 100000
set_option maxHeartbeats 8000000
set_option linter.unusedSimpArgs false
set_option linter.unusedSectionVars false
namespace Go.Proofs.YtlhgjplipgandaaGreatDoor
open Tryz
open Go.RowKit Go.BigFrame Go.Maps
abbrev ad0:=@Go.Lib.toList_data
def kA(x:UInt8):Bool:=x==32||x==10
def kY(s:ByteArray):Bool:=s.data.toList.any kA
theorem M4(s:ByteArray)(i:Nat)(h:i<s.size):s.get! i=s[i]'h:=by
 simp[ByteArray.get!,getElem!_pos,h]
 rfl
theorem Le(s:ByteArray)(pos:Nat)(h:pos<s.size)(Ar:128<=(s[pos]'h).toNat):pos+(Utf8.decode s pos).2<=s.size/\∀k,k<(Utf8.decode s pos).2->∀h2:pos+k<s.size,128<=(s[pos+k]'h2).toNat:=by
 have e0:(s.get! (pos+0)).toNat=(s[pos]'h).toNat:=by rw[Nat.add_zero,M4 s pos h]
 have one:pos+1<=s.size/\∀k,k<1->∀h2:pos+k<s.size,128<=(s[pos+k]'h2).toNat:=⟨oM,fun k hk h2=>by
  obtain rfl:k=0:=oM
  simpa using Ar⟩
 have cont:∀k,(decide (pos+k<s.size)&&(s.get! (pos+k)).toNat / 64==2)=true->∃h2:pos+k<s.size,128<=(s[pos+k]'h2).toNat:=fun k hk=>by
  simp only[ac2,aco,adt] at hk;refine⟨hk.1,?_⟩;rw[M4 s _ hk.1] at hk
  omega
 unfold Utf8.decode;simp only;rw[ab6 (by rw[e0];omega)]
 split
 ·rename_i hc
  rw[ac2] at hc;obtain⟨l1,g1⟩:=cont 1 hc.2
  split
  ·refine⟨oM,fun k hk h2=>?_⟩;have:k=0\/k=1:=oM
   rcases this with rfl|rfl
   ·simpa using Ar
   ·exact g1
  ·exact one
 split
 ·rename_i hc
  simp only[ac2] at hc;obtain⟨l1,g1⟩:=cont 1 (by simpa using hc.1.2);obtain⟨l2,g2⟩:=cont 2 (by simpa using hc.2)
  split
  ·refine⟨oM,fun k hk h2=>?_⟩;have:k=0\/k=1\/k=2:=oM
   rcases this with rfl|rfl|rfl
   ·simpa using Ar
   ·exact g1
   ·exact g2
  ·exact one
 split
 ·rename_i hc
  simp only[ac2] at hc;obtain⟨l1,g1⟩:=cont 1 (by simpa using hc.1.1.2);obtain⟨l2,g2⟩:=cont 2 (by simpa using hc.1.2);obtain⟨l3,g3⟩:=cont 3 (by simpa using hc.2)
  split
  ·refine⟨oM,fun k hk h2=>?_⟩;have:k=0\/k=1\/k=2\/k=3:=oM
   rcases this with rfl|rfl|rfl|rfl
   ·simpa using Ar
   ·exact g1
   ·exact g2
   ·exact g3
  ·exact one
 ·exact one
theorem N4(s:ByteArray)(pos:Nat):(Utf8.decode s pos).1<=1114111:=by
 have hb:∀k,(s.get! (pos+k)).toNat<256:=fun k=>(s.get! (pos+k)).toNat_lt
 have h0:=hb 0;have h1:=hb 1;have h2:=hb 2;have h3:=hb 3;simp only[Utf8.decode]
 repeat' split
 all_goals simp_all [Utf8.runeError,Utf8.valid]
 all_goals omega
theorem VJ(r:Int)(h:Lib.validRune r=true):Utf8.valid r=true:=by
 unfold Lib.validRune at h;unfold Utf8.valid;simp only[aco,aeh,ac2] at h ⊢
 omega
theorem X0(c:Int)(w:World)(h0:128<=c)(h1:c<=1114111):Calls prog 155 #[.string ⟨#[32,10]⟩,.int .i32 c] w (rB (i6 (-1)) w):=by
 have g1:decide ((0:Int)<=c)=true:=acf oM;have g2:decide (c<(128:Int))=false:=aci oM
 by_cases hE:c=65533
 ·subst hE;have n0:∀ty,(Instr.next (.pointer (some ⟨w.heap.size,0,none⟩)) true ty).run prog (w.iter ⟨#[32,10]⟩ 0)=.ok (.tuple #[.bool true,i6 0,.int .i32 32]) (w.iter ⟨#[32,10]⟩ 1):=fun ty=>run_next_ascii (P:=prog) w ⟨#[32,10]⟩ 0 ty dM dM
  have n1:∀ty,(Instr.next (.pointer (some ⟨w.heap.size,0,none⟩)) true ty).run prog (w.iter ⟨#[32,10]⟩ 1)=.ok (.tuple #[.bool true,i6 1,.int .i32 10]) (w.iter ⟨#[32,10]⟩ 2):=fun ty=>run_next_ascii (P:=prog) w ⟨#[32,10]⟩ 1 ty dM dM
  have n2:∀ty,(Instr.next (.pointer (some ⟨w.heap.size,0,none⟩)) true ty).run prog (w.iter ⟨#[32,10]⟩ 2)=.ok (.tuple #[.bool false]) (w.iter ⟨#[32,10]⟩ 2):=fun ty=>run_next_end (P:=prog) w ⟨#[32,10]⟩ 2 ty dM
  go_enter func155,ntmps155;go_wp2
  go_loopg [5,6] 2 (fun g _ _ wx=>∃i:Nat,i+g=2/\wx=w.iter ⟨#[32,10]⟩ i)
  case atStart=>exact⟨0,rfl,rfl⟩
  case round =>
   obtain⟨i,hig,rfl⟩:=hrel;have hi:i=0\/i=1\/i=2:=oM
   rcases hi with rfl|rfl|rfl
   ·go_wp2
    go_roundg 1
    case measure=>omega
    case rel=>exact⟨1,rfl,rfl⟩
   ·go_wp2
    go_roundg 0
    case measure=>omega
    case rel=>exact⟨2,rfl,rfl⟩
   ·go_wp2;go_ret;exact⟨rfl,(aQ _ _).alloc (ab5 _) _⟩
 ·have ge:(c==(65533:Int))=false:=ab8.2 hE
  cases hv:Lib.validRune c
  ·go_enter func155,ntmps155;go_wp2_with fail;refine(Tryz.utf8_ValidRune c _).mono ?_;rw[hv];rintro e w1 ⟨rfl,rfl⟩;go_wp2;go_ret;exact⟨rfl,bQ⟩
  ·obtain⟨e1,e2,e3⟩:=encode_facts c (VJ c hv) h0;have HE:∃E:ByteArray,Utf8.encode c=E:=⟨_,rfl⟩
   obtain⟨E,Zu⟩:=HE;have Nc:∀w',(convert 21 9 (.int .i32 c)).run prog w'=.ok (.string E) w':=fun w'=>by rw[<-Zu];exact run_convert_int_string w' _ _ _ _ rfl underlying9
   rw[Zu] at e1 e2 e3;clear Zu;obtain⟨⟨l⟩⟩:=E;have e1':2<=l.length:=e1;have e2':l.length<=4:=e2;clear e1 e2;go_enter func155,ntmps155;go_wp2_with fail;refine(Tryz.utf8_ValidRune c _).mono ?_;rw[hv];rintro e w1 ⟨rfl,rfl⟩
   rcases l with _|⟨x0,_|⟨x1,_|⟨x2,_|⟨x3,_|⟨x4,l⟩⟩⟩⟩⟩
   ·simp at e1'
   ·simp at e1'
   ·have g5:∀(k1:1<(ByteArray.mk #[32,10]).size) (k2:1<(ByteArray.mk ⟨[x0,x1]⟩).size),((((ByteArray.mk #[32,10])[1]'k1).toNat:Int) != (((ByteArray.mk ⟨[x0,x1]⟩)[1]'k2).toNat:Int))=true:=fun k1 k2=>by
     have h5:128<=((ByteArray.mk ⟨[x0,x1]⟩)[1]'k2).toNat:=e3 (by show(1:Nat)<2;omega);have h6:((ByteArray.mk #[32,10])[1]'k1).toNat=10:=rfl;simp only[adP,ne_eq]
     omega
    go_wp2
    go_step3
    go_wp2
    go_loopw[9] (fun i wr=>i=i6 1/\bL w1 wr) (fun _ _=>0)
    case atStart=>exact⟨rfl,aQ _ _⟩
    case round =>
     obtain⟨rfl,hb⟩:=hrel;go_wp2_with fail;have oD:∀y,Lib.indexByte [] y=-1:=fun _=>rfl
     have qh:IntKind.i64.wrap 2=2:=dM
     go_step3
     go_wp2_with fail
     go_region_held3 (fun w'=>bL w1 w') (exact bQ) (fail)
     all_goals
      go_wp2_with fail
      go_region_held3 (fun w'=>bL w1 w') (exact bQ) (first|(go_at_call 193;refine cM (Tryz.strings_IndexByte _ _ _) ?_;intro w2 rfl))
      all_goals
       go_wp2;rw[aeO];go_wp2;rw[aeO];go_ret;exact⟨rfl,ab hb bQ⟩
   ·go_wp2
    go_step3
    go_wp2
    go_loopw[9] (fun i wr=>i=i6 2/\bL w1 wr) (fun _ _=>0)
    case atStart=>exact⟨rfl,aQ _ _⟩
    case round =>
     obtain⟨rfl,hb⟩:=hrel;go_wp2;rw[aeO];go_ret;exact⟨rfl,hb⟩
   ·go_wp2
    go_step3
    go_wp2
    go_loopw[9] (fun i wr=>i=i6 3/\bL w1 wr) (fun _ _=>0)
    case atStart=>exact⟨rfl,aQ _ _⟩
    case round =>
     obtain⟨rfl,hb⟩:=hrel;go_wp2;rw[aeO];go_ret;exact⟨rfl,hb⟩
   ·exact absurd e2' (by simp only[ac7];omega)
def Fb(s:ByteArray)(i:Nat):Prop:=∀j,j<i->∀h:j<s.size,kA (s[j]'h)=false
theorem Kc{s:ByteArray}(h:Fb s s.size):kY s=false:=by
 unfold kY;rw[aeo];intro x hx;obtain⟨j,hj,rfl⟩:=acI hx;have:=h j hj hj;intro e;have e2:kA (s[j]'hj)=true:=e;rw[this] at e2;cases e2
theorem I8{s:ByteArray}{i:Nat}(h:i<s.size)(hb:kA (s[i]'h)=true):kY s=true:=by
 unfold kY;rw[adS];exact⟨s.data.toList[i]'h,ach h,hb⟩
theorem Xw{x:UInt8}(h:128<=x.toNat):kA x=false:=by
 unfold kA;rw[adF]
 constructor<;>(rw[ab8];intro e;subst e;revert h;decide)
theorem Ga(x:UInt8):decide ((0:Int)<=Lib.indexByte [32,10] x)=kA x:=by
 have h:=Lib.contains_iff_indexByte [32,10] x;rw[<-h];simp only[kA,List.contains_cons,List.contains_nil,ad4]
theorem uR{W w:World}{k:Nat}{s:ByteArray}{pos:Nat}(h:bL W w)(hk:W.heap.size<=k):bL W (w.iterAt k s pos):=by
 refine⟨h.os,h.tape,h.output,by simpa [World.iterAt] using h.size,fun i hi=>?_⟩;have:(w.iterAt k s pos).heap[i]?=w.heap[i]?:=by
  simp only[World.iterAt];rw[Array.getElem?_setIfInBounds_ne oM]
 rw[this];exact h.block i hi
theorem AR{w:World}{k:Nat}{s:ByteArray}{p pos:Nat}(h:w.heap[k]?=some (.stringIter s p)):(w.iterAt k s pos).heap[k]?=some (.stringIter s pos):=by
 have hl:=(aet.1 h).1
 simp[World.iterAt,hl]
theorem Fq(s:ByteArray)(h8:s.size<=8)(w:World):Calls prog 115 #[.string s,.string ⟨#[32,10]⟩] w fun e w'=>∃n:Int,e=.returned (i6 n)/\decide (0<=n)=kY s/\bL w w':=by
 have h8z:decide ((8:Int)<(s.size:Int))=false:=aci oM;go_enter func115,ntmps115;go_wp2_with(go_at_call 156;refine cM (Tryz.strings_shouldUseASCIISet _ _) ?_;intro w' hw;rw[hw,h8z])
 go_loopg [9,10] s.size (fun g _ _ wx=>∃i:Nat,i<=s.size/\s.size<=i+g/\bL w wx/\wx.heap[w.heap.size]?=some (.stringIter s i)/\Fb s i)
 case atStart=>exact⟨0,oM,oM,(aQ _ _).alloc (ab5 _) _,w.iter_heap s 0,fun j hj=>absurd hj (acg _)⟩
 case round =>
  obtain⟨i,hi,hig,hb,hit,dS⟩:=hrel;have HN:Hid (Fb s i):=dS;have HB:=aa hb;have HI:=aa hit;clear dS hb
  by_cases aq:i<s.size
  ·cases gk with
   |zero=>omega
   |succ g =>
   by_cases hx:(s[i]'aq).toNat<128
   ·have yg:=fun ty=>Lib.run_next_ascii_at (P:=prog) wr w.heap.size s i ty hit aq hx
    obtain⟨x,hxe⟩:∃x,s[i]'aq=x:=⟨_,rfl⟩
    rw[hxe] at yg hx;have HX:Hid (s[i]'aq=x):=hxe;have Ws:((x.toNat:Int)).toNat.toUInt8=x:=sM;clear hxe hit
    cases oQ:kA x
    ·have Ux:¬((0:Int)<=Lib.indexByte [32,10] x):=of_decide_eq_false ((Ga x).trans oQ);go_wp2_with(go_at_call 155;refine cM (Tryz.strings_IndexRune_ascii _ _ _ oM oM) ?_;intro w' hw;rw[hw,Ws])
     go_roundg g
     case measure=>omega
     case rel=>exact⟨i+1,oM,oM,uR HB.out (ab5 _),AR HI.out,fun j hj h=>by
      by_cases e:j=i
      ·subst e;rw[HX.out];exact oQ
      ·exact HN.out j oM h⟩
    ·have mc:(0:Int)<=Lib.indexByte [32,10] x:=ae6 ((Ga x).trans oQ);go_wp2_with(go_at_call 155;refine cM (Tryz.strings_IndexRune_ascii _ _ _ oM oM) ?_;intro w' hw;rw[hw,Ws]);go_ret;exact⟨_,rfl,by rw[I8 aq (by rw[HX.out];exact oQ)];exact acf oM,uR HB.out (ab5 _)⟩
   ·have Ar:128<=(s[i]'aq).toNat:=oM;have yg:=fun ty=>Lib.run_next_any_at (P:=prog) wr w.heap.size s i ty hit aq
    have hd:=decode_high s i aq Ar;have hp:=Le s i aq Ar;have hm:=N4 s i;obtain⟨c,hc⟩:∃c,(Utf8.decode s i).1=c:=⟨_,rfl⟩
    obtain⟨n,hn⟩:∃n,(Utf8.decode s i).2=n:=⟨_,rfl⟩
    rw[hc,hn] at yg;rw[hc,hn] at hd;rw[hn] at hp;rw[hc] at hm;have HP:=aa hp.2;have Nj:=hp.1;clear hc hn hp hit Ar hx;go_wp2_with fail;refine cM (X0 c _ oM oM) ?_;intro w1 aw;have aU:=aa (ab (uR (s:=s) (pos:=i+n) HB.out (ab5 _)) aw);have oK:Hid (w1.heap[w.heap.size]?=some (.stringIter s (i+n))):=(aw.block _ (aet.1 (AR (pos:=i+n) HI.out)).1).trans (AR HI.out);clear aw yg;go_wp2
    go_roundg g
    case measure=>omega
    case rel=>exact⟨i+n,oM,oM,aU.out,oK.out,fun j hj h=>by
     by_cases e:j<i
     ·exact HN.out j e h
     ·obtain⟨k,rfl⟩:∃k,j=i+k:=⟨j-i,oM⟩
      exact Xw (HP.out k oM h)⟩
  ·have yg:=fun ty=>Lib.run_next_end_at (P:=prog) wr w.heap.size s i ty hit aq
   go_wp2;go_ret;exact⟨_,rfl,by rw[Kc (show Fb s s.size from fun j hj h=>HN.out j oM h)];rfl,HB.out⟩
theorem Vd{x y:Bool}(h:x=y):Ending.returned (.bool x)=Ending.returned (.bool y):=by rw[h]
theorem Ve{x y:Int}(h:x=y):Ending.returned (i6 x)=Ending.returned (i6 y):=by rw[h]
theorem Hr(l:List UInt8):decide (0<=Lib.indexAny l [32,10])=l.any kA:=by
 induction l with
 |nil=>rfl
 |cons b l ih =>
  have mc:=Lib.indexAny_ge [32,10] l;have hc:[32,10].contains b=kA b:=by simp only[kA,List.contains_cons,List.contains_nil,ad4]
  rw[ae3,Lib.indexAny,hc]
  cases hb:kA b
  ·rw[ab6 acn,Bool.false_or,<-ih]
   split
   ·rename_i e
    have:Lib.indexAny l [32,10]=-1:=by simpa using e
    rw[this]
   ·rename_i e
    have:¬Lib.indexAny l [32,10]=-1:=by simpa using e
    rw[acf oM,acf oM]
  ·rfl
theorem VP(w:World):(zeroValue 227).run prog w=.ok (.agg (Array.replicate 256 (.bool false))) w:=kR
theorem JV(s:ByteArray)(h9:s.size<=9)(w:World):Calls prog 115 #[.string s,.string ⟨#[32,10]⟩] w fun e w'=>∃n:Int,e=.returned (i6 n)/\decide (0<=n)=kY s/\bL w w':=by
 by_cases h8:s.size<=8
 ·exact Fq s h8 w
 ·refine(Tryz.strings_IndexAny_long VP s ⟨#[32,10]⟩ w dM oM oM dM (fun j b hb=>?_)).mono ?_
  ·match j,hb with
   |0,hb=>cases hb;decide
   |1,hb=>cases hb;decide
  ·rintro e w' ⟨rfl,rfl⟩;exact⟨_,rfl,Hr _,((aQ _ _).alloc (ab5 _) _).alloc sM _⟩
theorem DL(s:ByteArray)(h9:s.size<=9)(t:Bool)(ht:kY s=t)(w:World):Calls prog 71 #[.string s,.string ⟨#[32,10]⟩] w (rB (.bool t) w):=by
 go_enter func71,ntmps71;go_wp2_with fail;refine(JV s h9 _).mono ?_;rintro e w1 ⟨n,rfl,hn,hb⟩;rw[ht] at hn;have HN:=aa hn;have HB:=aa hb;clear hn hb ht;go_wp2;go_ret;exact⟨Vd HN.out,HB.out⟩
def fF(n:Int):Bool:=decide (n<0)||decide (999<n)
theorem uj(n:Int)(t:Bool)(ht:fF n=t)(w:World):Calls prog 114 #[i6 n] w (rB (.bool t) w):=by
 subst ht;unfold fF
 cases g1:decide (n<0)<;>cases g2:decide ((999:Int)<n)
 all_goals
  go_enter func114,ntmps114;go_wp2;go_ret;exact⟨rfl,aQ _ _⟩
def C6(x y:Int):Int:=if fF x=true then 0 else if fF y=true then 1 else -1
theorem Ot(b:Nat)(x y:Int)(w:World)(h0:w.cell? ⟨b,0,none⟩=some (i6 x))(h1:w.cell? ⟨b,1,none⟩=some (i6 y)):Calls prog 154 #[.slice (some ⟨b,0,none⟩) 2 2,.func (.func 114) #[] #[]] w (rB (i6 (C6 x y)) w):=by
 have eg:∀args w,(callFunc 114 args).run prog w=.ok (.enter 114 args) w:=by intro args w;go_simp
 have H0:=aa h0;have H1:=aa h1;clear h0 h1;go_enter func154,ntmps154;go_wp2
 go_loopw[8] (fun i wr=>∃k:Nat,k<=2/\i=i6 k/\(1<=k->fF x=false)/\(2<=k->fF y=false)/\bL w wr) (fun i _=>2-(intOf i).toNat)
 case atStart=>exact⟨0,oM,rfl,fun h=>oM,fun h=>oM,aQ _ _⟩
 case round =>
  obtain⟨k,hk,rfl,hx,hy,hb⟩:=hrel;have HX:=aa hx;have HY:=aa hy;have HB:=aa hb;have c0:=af hb H0.out;have c1:=af hb H1.out;clear hx hy hb;have GB:k=0\/k=1\/k=2:=oM
  rcases GB with rfl|rfl|rfl
  ·obtain⟨tx,cF⟩:∃t,fF x=t:=⟨_,rfl⟩
   cases tx
   ·go_wp2_with fail;refine cM (uj x _ cF _) ?_;intro w1 aw;have aU:=aa (ab HB.out aw);have kx:=aa cF;clear aw cF;go_wp2;go_roundw
    case rel=>exact⟨1,oM,by first|rfl|go_num,fun _=>kx.out,fun h=>oM,aU.out⟩
    case measure=>simp[intOf]
   ·go_wp2_with fail;refine cM (uj x _ cF _) ?_;intro w1 aw;have aU:=aa (ab HB.out aw);have kx:=aa cF;clear aw cF;go_wp2;go_ret;exact⟨Ve (by unfold C6;rw[aca kx.out]),aU.out⟩
  ·obtain⟨ty,nY⟩:∃t,fF y=t:=⟨_,rfl⟩
   cases ty
   ·go_wp2_with fail;refine cM (uj y _ nY _) ?_;intro w1 aw;have aU:=aa (ab HB.out aw);have pB:=aa nY;clear aw nY;go_wp2;go_roundw
    case rel=>exact⟨2,oM,by first|rfl|go_num,fun _=>HX.out oM,fun _=>pB.out,aU.out⟩
    case measure=>simp[intOf]
   ·go_wp2_with fail;refine cM (uj y _ nY _) ?_;intro w1 aw;have aU:=aa (ab HB.out aw);have pB:=aa nY;clear aw nY;go_wp2;go_ret;exact⟨Ve (by unfold C6;rw[HX.out oM,ab6 acn,aca pB.out]),aU.out⟩
  ·go_wp2;go_ret;exact⟨Ve (by unfold C6;rw[HX.out oM,HY.out oM,ab6 acn,ab6 acn]),HB.out⟩
theorem Ho(b:Nat)(x y:Int)(t:Bool)(ht:(fF x||fF y)=t)(w:World)(h0:w.cell? ⟨b,0,none⟩=some (i6 x))(h1:w.cell? ⟨b,1,none⟩=some (i6 y)):Calls prog 113 #[.slice (some ⟨b,0,none⟩) 2 2,.func (.func 114) #[] #[]] w (rB (.bool t) w):=by
 have hi:decide (0<=C6 x y)=t:=by
  rw[<-ht];unfold C6
  cases fF x<;>cases fF y<;>rfl
 have HI:=aa hi;clear hi ht;go_enter func113,ntmps113;go_wp2_with fail;refine(Ot b x y _ h0 h1).mono ?_;generalize C6 x y=n at *;rintro e w1 ⟨rfl,aw⟩;have aU:=aa aw;clear aw;go_wp2;go_ret;exact⟨Vd HI.out,aU.out⟩
theorem JU(b:Nat)(x y:Int)(t:Bool)(ht:(fF x||fF y)=!t)(w:World)(h0:w.cell? ⟨b,0,none⟩=some (i6 x))(h1:w.cell? ⟨b,1,none⟩=some (i6 y)):Calls prog 70 #[.slice (some ⟨b,0,none⟩) 2 2] w (rB (.bool t) w):=by
 go_enter func70,ntmps70;go_wp2_with fail;refine cM (Ho b x y _ ht _ h0 h1) ?_;intro w1 aw;have aU:=aa aw;clear aw;go_wp2;go_ret;exact⟨Vd (by cases t<;>rfl),aU.out⟩
end Go.Proofs.YtlhgjplipgandaaGreatDoor
