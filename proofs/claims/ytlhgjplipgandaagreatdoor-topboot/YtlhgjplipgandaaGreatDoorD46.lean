/- Joined texts: PlyA. -/
import Derived.Test.YtlhgjplipgandaaGreatDoorShelf
import Derived.Lib.Join
import Derived.Test.YtlhgjplipgandaaGreatDoorD45
import Derived.Test.YtlhgjplipgandaaGreatDoorD19
import Derived.Test.YtlhgjplipgandaaGreatDoorD11
set_option maxRecDepth 100000
set_option maxHeartbeats 8000000
set_option linter.unusedSimpArgs false
namespace Go.Proofs.YtlhgjplipgandaaGreatDoor
open Go.RowKit Go.BigFrame Go.Maps
attribute [local go_sem] ze.cell ze.frozen
def zaD(e:Int):List UInt8:=if e=0 then [111,107] else [101,114,114,111,114,32]++Lib.itoa e
def ynL(t:Bool):List UInt8:=if t=true then [121,101,115] else [110,111]
theorem zdY(e:Int)(w:World)(h:TabW w)(he:0≤e∧e≤100):Calls Tryz.prog 48 #[.int .i64 e] w fun x w'=>x=.returned (.string ⟨(zaD e).toArray⟩)∧Below w.heap.size w w':=by
 unfold zaD
 by_cases h0:e=0
 ·subst h0;clear h he;go_enter Tryz.func48,Tryz.ntmps48;go_wp2;go_ret;exact⟨rfl,Below.refl _ _⟩
 ·rw[if_neg h0];have h1:(e==0)=false:=beq_eq_false_iff_ne.2 h0;have hl:=Lib.itoa_length_le e (by omega) (by omega);have HI:=za (zcO e w h (by omega) (by omega));have hcat:=strS [101,114,114,111,114,32] (Lib.itoa e) (by simp;omega);clear h he;generalize Lib.itoa e=L at *;have HC:Hid ([101,114,114,111,114,32]++L=[101,114,114,111,114,32]++L):=rfl;obtain⟨T,hT⟩:∃T,([101,114,114,111,114,32]:List UInt8)++L=T:=⟨_,rfl⟩
  rw[hT] at hcat ⊢;clear hT HC;go_enter Tryz.func48,Tryz.ntmps48;go_wp2_with fail;refine HI.out.mono ?_;rintro x w1 ⟨rfl,hb1⟩;go_wp2;go_ret;exact⟨rfl,hb1⟩
theorem zki(n:Int)(w:World):Sem.run Tryz.prog (Instr.typeAssert (.iface 87 (.int .i64 n)) 53 87 true) w=.ok (.tuple #[.int .i64 n,.bool true]) w:=by kernel_rfl
theorem zkh(w:World):Sem.run Tryz.prog (Instr.typeAssert .nilIface 53 87 true) w=.ok (.tuple #[.int .i64 0,.bool false]) w:=by kernel_rfl
theorem zbY(e:Int)(w:World)(h:TabW w)(he:0≤e∧e≤100):Calls Tryz.prog 34 #[zI e] w fun x w'=>x=.returned (.string ⟨(zaD e).toArray⟩)∧Below w.heap.size w w':=by
 by_cases h0:e=0
 ·subst h0;rw[show zI 0=.nilIface from rfl];have HT:=za (zdY 0 w h (by omega));have hra:=zkh;clear h he;generalize zaD 0=L at *;go_enter Tryz.func34,Tryz.ntmps34;go_wp2_with fail;refine HT.out.mono ?_;rintro x w1 ⟨rfl,hb1⟩;go_wp2;go_ret;exact⟨rfl,hb1⟩
 ·rw[show zI e=.iface 87 (.int .i64 e) by unfold zI;rw[if_neg h0]];have HT:=za (zdY e w h he);have hra:=zki e;clear h he h0;generalize zaD e=L at *;go_enter Tryz.func34,Tryz.ntmps34;go_wp2_with fail;refine HT.out.mono ?_;rintro x w1 ⟨rfl,hb1⟩;go_wp2;go_ret;exact⟨rfl,hb1⟩
theorem zjH(t:Bool)(w:World):Calls Tryz.prog 39 #[.bool t] w fun x w'=>x=.returned (.string ⟨(ynL t).toArray⟩)∧w'=w:=by
 cases t
 all_goals
  go_enter Tryz.func39,Tryz.ntmps39;go_wp2;go_ret;exact⟨rfl,rfl⟩
def zdE(l:List Rq):List UInt8:=if l=[] then [45] else Lib.join (l.map zbK) [32]
theorem znw(r:Rq)(hf:zai r.f)(hm:zai r.m)(ht:zdw r)(h8:r.tags.length≤8):(zbK r).length≤700:=by
 have h1:=zh0 r hf hm;have h2:=zjB r ht r.tags.length (Nat.le_refl _);unfold zbK;rw[List.length_append]
 omega
theorem zoi(l:List (List UInt8))(h:∀x∈l,x.length≤700):Lib.lens l≤700*l.length:=by
 induction l with
 |nil=>exact Nat.le_refl 0
 |cons x l ih =>
  have h1:=h x List.mem_cons_self;have h2:=ih (fun y hy=>h y (List.mem_cons_of_mem _ hy));unfold Lib.lens at h2 ⊢;simp only[List.map_cons,List.sum_cons,List.length_cons] at h2 ⊢
  omega
theorem zof(l:List (List UInt8))(h:∀x∈l,x.length≤700):(Lib.join l [32]).length≤701*l.length:=by
 cases l with
 |nil=>exact Nat.le_refl 0
 |cons x l =>
  rw[Lib.join_cons,List.length_append,Lib.joinTail_length];have h1:=h x List.mem_cons_self;have h2:=zoi l (fun y hy=>h y (List.mem_cons_of_mem _ hy));simp only[List.length_cons,List.length_nil]
  omega
theorem infoSq:(Tryz.prog.info? 9).map (fun i=>(i.zero,i.size,i.bytes))=some (some (.string ByteArray.empty),1,16):=by kernel_rfl
theorem zhF{w:World}{base e g n cap:Nat}{xs:List Value}(h:w.ownsRow base e 1 (.slice (some ⟨g,0,none⟩) n cap) n xs){j:Nat}(hj:j<n):w.cell? ⟨g,j,none⟩=some (xs.getD j undef)∧w.frozen? ⟨g,j,none⟩=false∧g<w.heap.size:=by
 have hl:xs.length=n:=by simpa using h.1
 refine⟨?_,?_,?_⟩
 ·rw[h.cellAt j (by omega),List.getD_eq_getElem?_getD,List.getElem?_eq_getElem (by omega),Option.getD_some]
 ·rcases h.2 with⟨h',_⟩|⟨g',cap',cur,h',hb,hg,_⟩
  ·simp at h'
  ·simp only[Value.slice.injEq,Option.some.injEq,Addr.mk.injEq,and_true,true_and] at h';obtain⟨rfl,rfl⟩:=h';exact zK hg _
 ·exact(h.lt g rfl).2
theorem ziw(l:List Rq)(a:Option Addr)(c:Nat)(w:World)(hl:zm w a l)(hLW:TabW w)(h8:∀r∈l,zdw r∧r.tags.length≤8)(hn:l.length≤1000)(h0:0<l.length):Calls Tryz.prog 44 #[.slice a l.length c] w fun x w'=>x=.returned (.string ⟨(Lib.join (l.map zbK) [32]).toArray⟩)∧Below w.heap.size w w':=by
 obtain⟨iS,hi,hz0,hz1,hz2⟩:=zbA infoSq;have HI:=za (⟨hi,hz0,hz1,hz2⟩:Tryz.prog.info? 9=some iS∧_∧_∧_)
 rcases hl.form with rfl|⟨b,o,rfl⟩
 ·exact absurd h0 (Nat.lt_irrefl _)
 have HL:=za hl;have HLW:=za hLW;have H8:=za h8;have hz:((l.length:Int)==0)=false:=beq_eq_false_iff_ne.2 (by omega);have HJ:Hid (∀g w',(∀(j:Nat) (h:j<l.length),w'.cell? ⟨g,j,none⟩=some (.string ⟨(zbK l[j]).toArray⟩))→g<w'.heap.size→Calls Tryz.prog 92 #[.slice (some ⟨g,0,none⟩) l.length l.length,.string ⟨#[32]⟩] w' fun x w2=>x=.returned (.string ⟨(Lib.join (l.map zbK) [32]).toArray⟩)∧Below w'.heap.size w' w2):=fun g w' hc hg=>by
  have e:(l.map fun r=>(⟨(zbK r).toArray⟩:ByteArray)).map (·.data.toList)=l.map zbK:=by
   rw[List.map_map]
   rfl
  have hj:=Tryz.strings_Join g 0 l.length (l.map fun r=>⟨(zbK r).toArray⟩) ⟨#[32]⟩ w' (fun j x hx=>by
   rw[List.getElem?_map] at hx
   rcases Nat.lt_or_ge j l.length with hlt|hge
   ·rw[List.getElem?_eq_getElem hlt] at hx;simp only[Option.map_some,Option.some.injEq] at hx;subst hx;rw[Nat.zero_add];exact hc j hlt
   ·rw[List.getElem?_eq_none hge] at hx;cases hx) hg (by rw[List.length_map];omega) (by rw[List.length_map];exact Nat.le_refl _) (by
    rw[e];refine Nat.le_trans (zof _ (fun x hx=>?_)) (by rw[List.length_map];omega);obtain⟨r,hr,rfl⟩:=List.mem_map.1 hx;have hra:=hl.2.1 r hr;exact znw r hra.f hra.m (h8 r hr).1 (h8 r hr).2)
  rw[e,List.length_map] at hj;exact hj
 clear hl hLW h8 hi hz0 hz1 hz2;go_enter Tryz.func44,Tryz.ntmps44;go_wp2_with(at_make;refine wpList_make_full _ rfl _ _ 51 rfl w.heap.size 9 iS _ 1 Tryz.underlying51 HI.out.1 HI.out.2.1 HI.out.2.2.1 .i64 .i64 _ _ l.length rfl rfl rfl rfl (by rw[HI.out.2.2.2];omega) (by unfold maxLen;omega) (Nat.le_refl _) ?_;intro w1 hown1 hgr1);have HB1:Hid (Below w.heap.size w w1):=(Below.refl _ _).grown hgr1 (Nat.le_refl _) (fun k hk=>by cases hk);have HO1:=za hown1;clear hown1 hgr1;generalize hgg:w.heap.size=g at *;have HGG:=za hgg;clear hgg
 go_loopw[14] (fun i wr=>∃(k:Nat) (xs:List Value),k≤l.length∧i=.int .i64 k∧(∀(j:Nat) (h:j<l.length),j<k→xs.getD j undef=.string ⟨(zbK l[j]).toArray⟩)∧wr.ownsRow g 9 1 (.slice (some ⟨g,0,none⟩) l.length l.length) l.length xs∧Below g w wr) (fun i _=>l.length-(intOf i).toNat)
 case atStart=>exact⟨0,_,by omega,rfl,fun j _ hj=>absurd hj (Nat.not_lt_zero _),HO1.out,HB1.out⟩
 case round =>
  obtain⟨k,xs,hk,rfl,hxs,hown,hb⟩:=hrel;have HX:=za hxs;have HO:=za hown;have HB:=za hb;have hgl:g≤wr.heap.size:=by have:=hb.size;have:=HGG.out;omega
  clear hxs hown
  by_cases hlt:k<l.length
  ·have hlt':(k:Int)<(l.length:Int):=by omega
   have hk0:(0:Int)≤(k:Int):=by omega
   have hbw:Below w.heap.size w wr:=by rw[HGG.out];exact hb
   obtain⟨c0,c1,c2,c3,c4,c5⟩:=(HL.out.later hbw).cells hlt;have HT:=za (znv l[k] (wr.alloc (.cells #[.bool l[k].wr,.int .i64 l[k].f,.int .i64 l[k].m,.slice l[k].da l[k].data.length l[k].dc,.slice l[k].ta l[k].tags.length l[k].tc,.int .i64 l[k].born] 146)) (((HL.out.2.1 _ (List.getElem_mem hlt)).later hbw).later (zs wr _)) (H8.out _ (List.getElem_mem hlt)).1 (H8.out _ (List.getElem_mem hlt)).2 ((HLW.out.later hbw).later (zs wr _)));obtain⟨T,hT⟩:∃T,zbK l[k]=T:=⟨_,rfl⟩
   rw[hT] at HT;have HTT:Hid (∀(j:Nat) (h:j<l.length),j=k→zbK l[j]=T):=fun j h e=>by subst e;exact hT
   have hO2:=zc8 HO.out (zs wr (.cells #[.bool l[k].wr,.int .i64 l[k].f,.int .i64 l[k].m,.slice l[k].da l[k].data.length l[k].dc,.slice l[k].ta l[k].tags.length l[k].tc,.int .i64 l[k].born] 146));have HO2:=za hO2;have HB2:=za (HB.out.trans ((zs wr (.cells #[.bool l[k].wr,.int .i64 l[k].f,.int .i64 l[k].m,.slice l[k].da l[k].data.length l[k].dc,.slice l[k].ta l[k].tags.length l[k].tc,.int .i64 l[k].born] 146)).mono hgl));clear hT hO2 hb HO HB;generalize l[k]=r at *;obtain⟨wr0,f,m,da,dc,data,ta,tc,tags,born⟩:=r;simp only at *;go_wp2_with fail;refine HT.out.mono ?_;rintro x w5 ⟨rfl,hb5⟩;have hO5:=zc8 HO2.out hb5;obtain⟨y1,y2,y3⟩:=zhF hO5 hlt;have HO5:=za (hO5.stored k (.string ⟨T.toArray⟩));have HB5:Hid (Below g w w5):=HB2.out.trans (hb5.mono (by simp;omega));clear hO5 hb5 HT HO2 HB2 c0 c1 c2 c3 c4 c5;go_wp2;go_roundw
   case rel =>
    refine⟨k+1,xs.set k (.string ⟨T.toArray⟩),by omega,by go_num,fun j hj hjk=>?_,HO5.out.1,HB5.out.setCell (Nat.le_refl _) _⟩;have hxl:xs.length=l.length:=by have:=HO5.out.1.1;simpa using this
    by_cases e:j=k
    ·subst e;rw[List.getD_eq_getElem?_getD,List.getElem?_set_self (by omega),Option.getD_some];exact congrArg (fun x:List UInt8=>Value.string ⟨x.toArray⟩) (HTT.out j hj rfl).symm
    ·rw[List.getD_eq_getElem?_getD,List.getElem?_set_ne (fun h=>e h.symm),←List.getD_eq_getElem?_getD];exact HX.out j hj (by omega)
   case measure=>simp[intOf];omega
  ·obtain rfl:k=l.length:=by omega
   have HC:Hid (∀(j:Nat) (h:j<l.length),wr.cell? ⟨g,j,none⟩=some (.string ⟨(zbK l[j]).toArray⟩)):=fun j hj=>by
    rw[(zhF HO.out hj).1,HX.out j hj hj]
   have hgw:=(zhF HO.out h0).2.2;go_wp2_with fail;refine(HJ.out g wr HC.out hgw).mono ?_;rintro x w5 ⟨rfl,hb5⟩;have HB5:Hid (Below g w w5):=HB.out.trans (hb5.mono hgl);clear hb5 HJ;go_wp2;go_ret;exact⟨rfl,by rw[HGG.out];exact HB5.out⟩
theorem ziv(a:Option Addr)(c:Nat)(w:World):Calls Tryz.prog 44 #[.slice a 0 c] w fun x w'=>x=.returned (.string ⟨([45]:List UInt8).toArray⟩)∧Below w.heap.size w w':=by
 go_enter Tryz.func44,Tryz.ntmps44;go_wp2;go_ret;exact⟨rfl,Below.refl _ _⟩
theorem zfA(l:List Rq)(a:Option Addr)(c:Nat)(w:World)(hl:zm w a l)(hLW:TabW w)(h8:∀r∈l,zdw r∧r.tags.length≤8)(hn:l.length≤1000):Calls Tryz.prog 44 #[.slice a l.length c] w fun x w'=>x=.returned (.string ⟨(zdE l).toArray⟩)∧Below w.heap.size w w':=by
 unfold zdE
 by_cases h:l=[]
 ·subst h;exact ziv a c w
 ·rw[if_neg h];exact ziw l a c w hl hLW h8 hn (List.length_pos_iff.2 h)
end Go.Proofs.YtlhgjplipgandaaGreatDoor
