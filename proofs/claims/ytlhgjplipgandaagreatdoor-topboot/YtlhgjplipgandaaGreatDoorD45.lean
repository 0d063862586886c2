/- Joined texts: TextI. -/
import Derived.Lib.ItoaLen
import Derived.Test.YtlhgjplipgandaaGreatDoorD31
import Derived.Test.YtlhgjplipgandaaGreatDoorD44
set_option maxRecDepth 100000
set_option maxHeartbeats 8000000
set_option linter.unusedSimpArgs false
namespace Go.Proofs.YtlhgjplipgandaaGreatDoor
open Go.RowKit Go.BigFrame
attribute [local go_sem] ze.cell ze.frozen
theorem zb2(n:Int)(h:zai n):(Lib.itoa n).length≤60:=by
 exact Nat.le_trans (Lib.itoa_length_le n h.1 h.2) (by omega)
def zfR(r:Rq):List UInt8:=[if r.wr=true then 119 else 114]
def zfO(r:Rq):List UInt8:=zfR r++Lib.itoa r.f++[43]++Lib.itoa r.m++[35]
def zdW(l:List Int):Nat→List UInt8
 |0=>[]
 |k+1=>zdW l k++(if k=0 then [] else [44])++Lib.itoa (l.getD k 0)
def zdw(r:Rq):Prop:=∀i,i<r.tags.length→zai (r.tags.getD i 0)
theorem zh0(r:Rq)(hf:zai r.f)(hm:zai r.m):(zfO r).length≤123:=by
 have h1:=zb2 r.f hf;have h2:=zb2 r.m hm
 simp[zfO,zfR];omega
theorem zjB(r:Rq)(h:zdw r)(k:Nat)(hk:k≤r.tags.length):(zdW r.tags k).length≤61*k:=by
 induction k with
 |zero=>simp[zdW]
 |succ k ih =>
  have h1:=zb2 _ (h k (by omega));have h2:=ih (by omega);have h3:(if k=0 then([]:List UInt8) else [44]).length≤1:=by split<;>simp
  simp only[zdW,List.length_append];omega
def zbK(r:Rq):List UInt8:=zfO r++zdW r.tags r.tags.length
theorem znt{w:World}{a:Option Addr}{xs:List Int}(h:zax w a xs)(k:Nat)(hk:k<xs.length):∃b o,a=some ⟨b,o,none⟩∧w.cell? ⟨b,o+k,none⟩=some (.int .i64 (xs.getD k 0))∧b<w.heap.size:=by
 rcases h with rfl|⟨b,o,rfl,hc⟩
 ·exact absurd hk (Nat.not_lt_zero _)
 ·exact⟨b,o,rfl,hc k hk,zg (hc k hk)⟩
theorem zgR{w w':World}(hb:Below w.heap.size w w'):w.grownBy w' none:=⟨hb.os,hb.tape,hb.output,hb.size,fun k hk _=>hb.block k hk⟩
theorem zc8{w w':World}{base size n:Nat}{e:TypeId}{v:Value}{xs:List Value}(h:w.ownsRow base e size v n xs)(hb:Below w.heap.size w w'):w'.ownsRow base e size v n xs:=by
 refine h.kept (zgR hb) ?_
 cases v.ownBlock with
 |none=>exact Or.inl rfl
 |some k=>exact Or.inr (by simp)
theorem zew{T e:TypeId}{B b:Nat}{p:Value}{bs:List Value}{w w':World}(h:Lib.BuilderAt T e B b p bs w)(hb:Below w.heap.size w w'):Lib.BuilderAt T e B b p bs w':=by
 have hl:=h.lt;obtain⟨h1,v,h2,h3,h4⟩:=h;exact⟨h1,v,by rw[hb.block b hl];exact h2,zc8 h3 hb,h4⟩
theorem zcc.laterI{B b:Nat}{s:List UInt8}{w w':World}(h:zcc B b s w)(hb:Below w.heap.size w w'):zcc B b s w' :=
 ⟨h.1.elim (fun x=>Or.inl (zew x hb)) (fun x=>Or.inr (zew x hb)),Nat.le_trans h.2 hb.size⟩
theorem zcS(B b:Nat)(s t:List UInt8)(w:World)(h:zcc B b s w)(hl:s.length+t.length≤100000) :
 Calls Tryz.prog 140 #[.pointer (some ⟨b,0,none⟩),.string ⟨t.toArray⟩] w fun e w'=>e=.returned (.tuple #[.int .i64 t.length,.nilIface])∧zcc B b (s++t) w'∧Below B w w':=by
 refine(zkY B b s ⟨t.toArray⟩ w h (by simp[ByteArray.size];omega)).mono ?_;rintro e w' ⟨rfl,h1,h2⟩;exact⟨by simp[ByteArray.size],by simpa using h1,h2⟩
theorem zjX(r:Rq)(w:World) :
 Calls Tryz.prog 141 #[r.val] w fun e w'=>e=.returned (.string ⟨(zfR r).toArray⟩)∧Below w.heap.size w w':=by
 obtain⟨wr,f,m,da,dc,data,ta,tc,tags,born⟩:=r
 cases wr
 all_goals
  go_enter Tryz.func141,Tryz.ntmps141;go_wp2;go_ret;exact⟨rfl,by(with_reducible repeat first|exact Below.refl _ _|refine zc ?_ _|refine zd ?_|refine bset' ?_ (by omega) _|refine zb ?_ (by assumption))⟩
theorem zf4{P:Program}(w:World)(t:TypeId)(ps rs:Array TypeId)(vd:Bool)(f:Fn)(x c:Array Value)(h:P.underlying t=some (.func ps rs vd)) :
 (binOp .eql t (.func f x c) .nilFunc).run P w=.ok (.bool false) w:=by
 have h1:∀d,(Op.equalIn (d+1) t (.func f x c) .nilFunc).run P w=.ok false w:=fun d=>by simp[Op.equalIn,run_underlying h]
 simp only[binOp]
 simp[Op.equal,Op.maxDepth,h1 9999]
theorem znv(r:Rq)(w:World)(hr:r.At w)(ht:zdw r)(hl:r.tags.length≤8)(hLW:TabW w) :
 Calls Tryz.prog 91 #[r.val,.func (.func 43) #[] #[]] w fun e w'=>e=.returned (.string ⟨(zbK r).toArray⟩)∧Below w.heap.size w w':=by
 have q43:∀(w:World) (f:Fn) (x c:Array Value),(binOp .eql 44 (.func f x c) .nilFunc).run Tryz.prog w=.ok (.bool false) w:=fun w f x c=>zf4 w _ _ _ _ f x c Tryz.underlying44
 have l1:=zb2 r.f hr.f;have l2:=zb2 r.m hr.m;have lh:=zh0 r hr.f hr.m;have l0:(zfR r).length=1:=rfl;have L1:=za hr.f;have L2:=za hr.m;have HT:Hid (zfO r=zfR r++Lib.itoa r.f++[43]++Lib.itoa r.m++[35]):=rfl;have hdl:=hr.tl;have HTG:=za hr.tags;have HX:Hid (zbK r=zfO r++zdW r.tags r.tags.length):=rfl;have HLT:=za (zjX r);have HTL:=za (zjB r ht);have HLW:=za hLW;clear hr hLW;obtain⟨wr0,f,m,da,dc,data,ta,tc,tags,born⟩:=r;simp only at *;generalize zbK ⟨wr0,f,m,da,dc,data,ta,tc,tags,born⟩=c9 at *;generalize zfO ⟨wr0,f,m,da,dc,data,ta,tc,tags,born⟩=c5 at *;generalize zfR ⟨wr0,f,m,da,dc,data,ta,tc,tags,born⟩=c0 at *;go_enter Tryz.func91,Tryz.ntmps91;go_wp2_with fail;refine(HLT.out _).mono ?_;rintro e w1 ⟨rfl,hb1⟩;have hsz:(w.alloc (.cells #[.bool wr0,.int .i64 f,.int .i64 m,.slice da data.length dc,.slice ta tags.length tc,.int .i64 born] 146)).heap.size=w.heap.size+1:=by simp
 have BA:=(zmf (w.alloc (.cells #[.bool wr0,.int .i64 f,.int .i64 m,.slice da data.length dc,.slice ta tags.length tc,.int .i64 born] 146))).laterI hb1;rw[hsz] at BA;have HB:=(Below.refl (w.heap.size+1) (w.alloc (.cells #[.bool wr0,.int .i64 f,.int .i64 m,.slice da data.length dc,.slice ta tags.length tc,.int .i64 born] 146))).trans ((zb (zc (Below.refl (w.alloc (.cells #[.bool wr0,.int .i64 f,.int .i64 m,.slice da data.length dc,.slice ta tags.length tc,.int .i64 born] 146)).heap.size (w.alloc (.cells #[.bool wr0,.int .i64 f,.int .i64 m,.slice da data.length dc,.slice ta tags.length tc,.int .i64 born] 146))) _) hb1).mono (Nat.le_of_eq hsz.symm));clear hsz;clear hb1;go_wp2_with fail;refine(zcS _ _ _ (c0) _ BA (by simp;omega)).mono ?_;rintro e w2 ⟨rfl,BA2,hb2⟩;replace BA:=BA2;replace HB:=HB.trans hb2;clear BA2 hb2;have c1:=(HB.cell (p:=⟨w.heap.size,1,none⟩) (by simp)).trans (show _=some (.int .i64 f) by simp);go_wp2_with fail;clear c1;refine(zcO _ _ (HLW.out.later ((zs w _).trans (HB.mono (by omega)))) (L1.out).1 (L1.out).2).mono ?_;rintro e w2 ⟨rfl,hb2⟩;replace HB:=HB.trans (hb2.mono BA.2);replace BA:=BA.laterI hb2;clear hb2;go_wp2_with fail;refine(zcS _ _ _ (Lib.itoa f) _ BA (by simp;omega)).mono ?_;rintro e w2 ⟨rfl,BA2,hb2⟩;replace BA:=BA2;replace HB:=HB.trans hb2;clear BA2 hb2;go_wp2_with fail;refine(zcS _ _ _ ([43]) _ BA (by simp;omega)).mono ?_;rintro e w2 ⟨rfl,BA2,hb2⟩;replace BA:=BA2;replace HB:=HB.trans hb2;clear BA2 hb2;have c2:=(HB.cell (p:=⟨w.heap.size,2,none⟩) (by simp)).trans (show _=some (.int .i64 m) by simp);go_wp2_with fail;clear c2;refine(zcO _ _ (HLW.out.later ((zs w _).trans (HB.mono (by omega)))) (L2.out).1 (L2.out).2).mono ?_;rintro e w2 ⟨rfl,hb2⟩;replace HB:=HB.trans (hb2.mono BA.2);replace BA:=BA.laterI hb2;clear hb2;go_wp2_with fail;refine(zcS _ _ _ (Lib.itoa m) _ BA (by simp;omega)).mono ?_;rintro e w2 ⟨rfl,BA2,hb2⟩;replace BA:=BA2;replace HB:=HB.trans hb2;clear BA2 hb2;go_wp2_with fail;refine(zcS _ _ _ ([35]) _ BA (by simp;omega)).mono ?_;rintro e w2 ⟨rfl,BA2,hb2⟩;replace BA:=BA2;replace HB:=HB.trans hb2;clear BA2 hb2;have c4:=(HB.cell (p:=⟨w.heap.size,4,none⟩) (by simp)).trans (show _=some (.slice ta tags.length tc) by simp);simp only[List.nil_append] at BA;rw[←HT.out] at BA;go_wp2_with fail
 go_loopw[30] (fun i wr=>∃k:Nat,k≤tags.length∧i=.int .i64 k∧zcc (w.heap.size+1) (w.heap.size+1) (c5++zdW tags k) wr∧Below (w.heap.size+1) (w.alloc (.cells #[.bool wr0,.int .i64 f,.int .i64 m,.slice da data.length dc,.slice ta tags.length tc,.int .i64 born] 146)) wr) (fun i _=>tags.length-(intOf i).toNat)
 case atStart=>exact⟨0,by omega,rfl,by simpa [zdW] using BA,HB⟩
 case round =>
  clear BA HB c4;obtain⟨k,hk,rfl,BA,HB⟩:=hrel
  by_cases hlt:k<tags.length
  ·obtain⟨b,o,rfl,ct,lb⟩:=znt HTG.out k hlt;have h64:=ht k hlt;have CT:wr.cell? ⟨b,o+k,none⟩=some (.int .i64 (tags.getD k 0)):=by
    rw[HB.cell (p:=⟨b,o+k,none⟩) (show b<w.heap.size+1 by omega),World.cell?_alloc_lt _ _ _ lb];exact ct
   have lt:=HTL.out k hk;have ld:=zb2 _ h64;have HK:Hid (zdW tags (k+1)=zdW tags k++(if k=0 then [] else [44])++Lib.itoa (tags.getD k 0)):=rfl;generalize tags.getD k 0=tg at *;generalize htk:zdW tags k=tk at *;have HTK:Hid _:=htk;have H64:Hid (zai tg):=h64;clear ct htk h64
   by_cases hk0:k=0
   ·subst hk0;have CT0:wr.cell? ⟨b,o,none⟩=some (.int .i64 tg):=by simpa using CT
    clear CT;go_wp2_with fail;refine(zcO _ _ (HLW.out.later ((zs w _).trans (HB.mono (by omega)))) (H64.out).1 (H64.out).2).mono ?_;rintro e w2 ⟨rfl,hb2⟩;replace HB:=HB.trans (hb2.mono BA.2);replace BA:=BA.laterI hb2;clear hb2;go_wp2_with fail;refine(zcS _ _ _ (Lib.itoa tg) _ BA (by simp;omega)).mono ?_;rintro e w2 ⟨rfl,BA2,hb2⟩;replace BA:=BA2;replace HB:=HB.trans hb2;clear BA2 hb2;go_wp2;go_roundw
    case rel=>exact⟨0+1,by omega,by go_num,by rw[HK.out];simpa using BA,HB⟩
    case measure=>simp[intOf];omega
   ·have hk1:(0:Int)<(k:Int):=by omega
    go_wp2_with fail;refine(zcS _ _ _ ([44]) _ BA (by simp;omega)).mono ?_;rintro e w2 ⟨rfl,BA2,hb2⟩;replace BA:=BA2;replace HB:=HB.trans hb2;clear BA2 hb2;go_wp2_with fail;refine(zcO _ _ (HLW.out.later ((zs w _).trans (HB.mono (by omega)))) (H64.out).1 (H64.out).2).mono ?_;rintro e w2 ⟨rfl,hb2⟩;replace HB:=HB.trans (hb2.mono BA.2);replace BA:=BA.laterI hb2;clear hb2;go_wp2_with fail;refine(zcS _ _ _ (Lib.itoa tg) _ BA (by simp;omega)).mono ?_;rintro e w2 ⟨rfl,BA2,hb2⟩;replace BA:=BA2;replace HB:=HB.trans hb2;clear BA2 hb2;go_wp2;go_roundw
    case rel=>exact⟨k+1,by omega,by go_num,by rw[HK.out,if_neg hk0];simpa using BA,HB⟩
    case measure=>simp[intOf];omega
  ·have hkl:k=tags.length:=by omega
   subst hkl;go_wp2_with fail;refine(zlY _ _ _ _ BA).mono ?_;rintro e w2 ⟨rfl,hb2⟩
   replace HB:=HB.trans hb2
   go_wp2;go_ret;refine⟨?_,(zs w _).trans (HB.mono (by omega))⟩;rw[HX.out]
   rfl
end Go.Proofs.YtlhgjplipgandaaGreatDoor
