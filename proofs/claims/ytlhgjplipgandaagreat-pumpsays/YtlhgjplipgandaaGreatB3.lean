/- Joined texts: Same2. -/
import Derived.Test.YtlhgjplipgandaaGreatB2
set_option maxRecDepth 100000
set_option maxHeartbeats 8000000
set_option linter.unusedSimpArgs false
namespace Go.Proofs.YtlhgjplipgandaaGreat
open Go.RowKit Go.BigFrame
attribute [local go_sem] ze.cell ze.frozen
def zf0(r s:Rq):Bool:=(r.wr==s.wr)&&((r.f==s.f)&&(r.m==s.m))&&(r.born==s.born)&&eqS r.data s.data&&eqN r.tags s.tags
theorem zlg(r s:Rq)(w:World)(hr:r.At w)(hs:s.At w)(b1 b2 b6 b3 b4 b5:Bool)(h1:(r.wr==s.wr)=b1)(h2:(r.f==s.f)=b2)(h6:(r.m==s.m)=b6)(h3:(r.born==s.born)=b3)(h4:eqS r.data s.data=b4)(h5:eqN r.tags s.tags=b5) :
  Calls Tryz.prog 70 #[r.val,s.val] w fun e w'=>e=.returned (.bool (b1&&(b2&&b6)&&b3&&b4&&b5))∧Below w.heap.size w w':=by
 obtain⟨wr,f,m,da,dc,data,ta,tc,tags,born⟩:=r;obtain⟨wr',f',m',da',dc',data',ta',tc',tags',born'⟩:=s;obtain⟨d1,t1,l1,l2,-,-,-⟩:=hr;obtain⟨d2,t2,-,-,-,-,-⟩:=hs;simp only at h1 h2 h6 h3 h4 h5 d1 t1 d2 t2 l1 l2;simp only[Rq.val];go_enter Tryz.func70,Tryz.ntmps70;go_wp2_with fail;refine(zpK _ _ _ _ _ _ _ (d1.later (by(with_reducible repeat first|exact Below.refl _ _|refine zc ?_ _|refine zd ?_|refine bset' ?_ (by omega) _|refine zb ?_ (by assumption)))) (d2.later (by(with_reducible repeat first|exact Below.refl _ _|refine zc ?_ _|refine zd ?_|refine bset' ?_ (by omega) _|refine zb ?_ (by assumption)))) l1).mono ?_;rintro e w1 ⟨rfl,HB⟩;obtain⟨hc,hf,hz⟩:=zu HB;go_wp2_with fail;refine(zl5 _ _ _ _ _ _ _ (t1.later (by(with_reducible repeat first|exact Below.refl _ _|refine zc ?_ _|refine zd ?_|refine bset' ?_ (by omega) _|refine zb ?_ (by assumption)))) (t2.later (by(with_reducible repeat first|exact Below.refl _ _|refine zc ?_ _|refine zd ?_|refine bset' ?_ (by omega) _|refine zb ?_ (by assumption)))) l2).mono ?_;rintro e w1 ⟨rfl,hb⟩;clear hc hf hz
 replace HB:=zb HB hb
 clear hb;obtain⟨hc,hf,hz⟩:=zu HB;rw[h5];clear h4 h5 d1 d2 t1 t2 l1 l2
 cases b1<;>cases b2<;>cases b6<;>cases b3<;>cases b4
 all_goals
  go_wp2;go_ret;exact⟨rfl,by(with_reducible repeat first|exact Below.refl _ _|refine zc ?_ _|refine zd ?_|refine bset' ?_ (by omega) _|refine zb ?_ (by assumption))⟩
theorem zmQ(r s:Rq)(w:World)(hr:r.At w)(hs:s.At w)(b:Bool)(hb:zf0 r s=b) :
  Calls Tryz.prog 70 #[r.val,s.val] w fun e w'=>e=.returned (.bool b)∧Below w.heap.size w w':=by
 subst hb;exact zlg r s w hr hs _ _ _ _ _ _ rfl rfl rfl rfl rfl rfl
theorem Rq.At.of{w w':World}{a:Option Addr}{l:List Rq}(h:zs w a l){i:Nat}(hi:i<l.length)(hb:Below w.heap.size w w'):l[i].At w':=(h.2.1 _ (List.getElem_mem hi)).later hb
def zks(l l':List Rq):Prop:=l.length=l'.length∧∀i (h:i<l.length) (h':i<l'.length),zf0 l[i] l'[i]=true
theorem zjK(l l':List Rq)(a a':Option Addr)(c c':Nat)(w:World)(hl:zs w a l)(hl':zs w a' l')(hs:zks l l') :
  Calls Tryz.prog 37 #[.slice a l.length c,.slice a' l'.length c'] w fun e w'=>e=.returned (.bool true)∧Below w.heap.size w w':=by
 obtain⟨hlen,hsame⟩:=hs;have hb3:=hl.2.2
 rcases hl.form with rfl|⟨b,o,rfl⟩
 ·obtain rfl:l'=[]:=List.eq_nil_of_length_eq_zero hlen.symm;go_enter Tryz.func37,Tryz.ntmps37;go_wp2;go_loop [5] (fun i=>i=.int .i64 0) (fun _=>0);(case atStart=>rfl);(case round=>subst hrel;go_wp2;go_ret;exact⟨rfl,by(with_reducible repeat first|exact Below.refl _ _|refine zc ?_ _|refine zd ?_|refine bset' ?_ (by omega) _|refine zb ?_ (by assumption))⟩)
 rcases hl'.form with rfl|⟨b',o',rfl⟩
 ·obtain rfl:l=[]:=List.eq_nil_of_length_eq_zero hlen;go_enter Tryz.func37,Tryz.ntmps37;go_wp2;go_loop [5] (fun i=>i=.int .i64 0) (fun _=>0);(case atStart=>rfl);(case round=>subst hrel;go_wp2;go_ret;exact⟨rfl,by(with_reducible repeat first|exact Below.refl _ _|refine zc ?_ _|refine zd ?_|refine bset' ?_ (by omega) _|refine zb ?_ (by assumption))⟩)
 have he:((l.length:Int) != (l'.length:Int))=false:=by rw[hlen];simp
 have HS:Hid (∀i (h:i<l.length) (h':i<l'.length),zf0 l[i] l'[i]=true):=hsame;have HE:Hid (l.length=l'.length):=hlen;clear hsame hlen;go_enter Tryz.func37,Tryz.ntmps37;go_wp2
 go_loopw[5] (fun i wr=>∃k:Nat,k≤l.length∧i=.int .i64 k∧Below w.heap.size w wr) (fun i _=>l.length-(intOf i).toNat)
 case atStart=>exact⟨0,by omega,rfl,Below.refl _ _⟩
 case round =>
  obtain⟨k,hk,rfl,HB⟩:=hrel
  by_cases hlt:k<l.length
  ·have hlt':k<l'.length:=by have:=HE.out;omega
   obtain⟨c0,c1,c2,c3,c4,c5⟩:=hl.cells hlt;obtain⟨d0,d1,d2,d3,d4,d5⟩:=hl'.cells hlt';have l0:=zg c0;have l1:=zg d0;have hcs:=HS.out k hlt hlt';go_wp2_with fail;refine zj (by first|exact HB|exact zd HB|exact Below.refl _ _) (by kernel_rfl) (by kernel_rfl) ?_
   repeat(go_big_quiet_step (first|exact rfl|(go_at_call 70;exact zR (zmQ l[k] l'[k] _ (Rq.At.of hl hlt (ze.below _)) (Rq.At.of hl' hlt' (ze.below _)) _ hcs))))
   refine wpQuiet_nil ?_;intro _ hw';obtain⟨p,hw''⟩:=hw';subst hw'';(try clear hc hf hz);(try clear HB);have HB:=p.below;obtain⟨hc,hf,hz⟩:=zu HB;go_wp2;go_roundw
   case rel=>exact⟨k+1,by omega,by go_num,HB⟩
   case measure=>simp[intOf];omega
  ·go_wp2;go_ret;exact⟨rfl,by(with_reducible repeat first|exact Below.refl _ _|refine zc ?_ _|refine zd ?_|refine bset' ?_ (by omega) _|refine zb ?_ (by assumption))⟩
end Go.Proofs.YtlhgjplipgandaaGreat
