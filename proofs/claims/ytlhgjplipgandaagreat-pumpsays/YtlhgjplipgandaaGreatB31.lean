/- Joined texts: Stk10, Stk11. -/
import Derived.Test.YtlhgjplipgandaaGreatB28
set_option maxRecDepth 100000
set_option maxHeartbeats 8000000
set_option linter.unusedSimpArgs false
namespace Go.Proofs.YtlhgjplipgandaaGreat
open Go.RowKit Go.BigFrame Go.Maps
attribute [local go_sem] ze.cell ze.frozen
theorem ziA(s:Nat)(p:Sk)(A:Sa)(w:World)(h:zv s p A w)(hl3:p.cl.length=3)(i:Nat)(hi:i<3)(hd:p.dead=true)(q:Sk)(hq:p.nf.serveWrite i=q) :
  Calls Tryz.prog 74 #[.pointer (some ⟨s,0,none⟩),.pointer (some ⟨s,2+i*6,none⟩)] w fun e w'=>e=.returned (.tuple #[])∧SOk s p A w w' q:=by
 have e1:p.nf.serveWrite i=p.nf.answer i ByteArray.empty 9:=by
  unfold Sk.serveWrite;rw[if_pos (show p.nf.dead=true from hd)]
 rw[e1] at hq;have c29:=h.cell 29 _ rfl;rw[hd] at c29;have hl:=h.lt;have HANS:=za (zcV s p A w h hl3 i hi ByteArray.empty 9);have HQ:=za hq;clear h e1 hq;go_enter Tryz.func74,Tryz.ntmps74;go_wp2_with fail;refine HANS.out.mono ?_;rintro e w7 ⟨rfl,hs7⟩;have HS7:=za hs7;clear hs7;go_wp2;refine bodyPost_ret (v:=.tuple #[]) (by simp[results,Tryz.results74,go_sem]) rfl ?_;exact⟨rfl,_,_,HS7.out,by rw[←HQ.out];rfl⟩
theorem zhV(s:Nat)(p:Sk)(A:Sa)(w:World)(h:zv s p A w)(i:Nat)(hi:i<3)(hd:p.dead=false)(h6:6≤zN p.hand)(h8:p.hand.length≤8)(hn:zQ p.hand (p.client i).pl=false)(q:Sk)(hq:p.nf.serveWrite i=q) :
  Calls Tryz.prog 74 #[.pointer (some ⟨s,0,none⟩),.pointer (some ⟨s,2+i*6,none⟩)] w fun e w'=>e=.returned (.tuple #[])∧SOk s p A w w' q:=by
 have e1:p.nf.serveWrite i=p.nf:=by
  unfold Sk.serveWrite;rw[if_neg (by rw[show p.nf.dead=false from hd];exact Bool.false_ne_true),if_pos ⟨h6,hn⟩]
 rw[e1] at hq;have c29:=h.cell 29 _ rfl;rw[hd] at c29;have hl:=h.lt;obtain⟨-,d1,-⟩:=h.client i hi;have HQ:=za hq;have HST:=za h;have HN:=za hn;have h9:zN p.hand≤8:=Nat.le_trans (List.length_filter_le _ _) h8;obtain⟨n,hnn⟩:∃n,zN p.hand=n:=⟨_,rfl⟩
 rw[hnn] at h6 h9;have HNN:=za hnn;generalize hpl:(p.client i).pl=pl at *;have h6':(6:Int)≤(n:Int):=by omega
 clear h e1 hq hn hnn h8 hpl;go_enter Tryz.func74,Tryz.ntmps74;go_wp2_with fail;refine(zb9 s p A w HST.out n HNN.out).mono ?_;rintro e w1 ⟨rfl,hb1⟩;have HS1:=za (zG.same' HST.out hb1);have g1:=cellB_later' hb1 d1;have l1:=HS1.out.at'.lt;go_wp2_with fail;refine(zhy s p A pl w1 HS1.out.at' false HN.out).mono ?_;rintro e w2 ⟨rfl,hb2⟩;have HS2:=za (HS1.out.later hb2);clear hb1 hb2;go_wp2;refine bodyPost_ret (v:=.tuple #[]) (by simp[results,Tryz.results74,go_sem]) rfl ?_;exact⟨rfl,p,A,HS2.out,HQ.out⟩
theorem zm8{l m:List Bf}{x:Bf}{H:Int→Bool}(h:zeX l x H m):zbo l x H=some m:=by
 unfold zbo
 rcases h with⟨k,hk,hi,rfl⟩|⟨hi,h8,rfl⟩|⟨hi,h8,k,hk,hl,rfl⟩
 ·rw[hi,if_pos (by omega)];simp
 ·rw[hi,if_neg (by omega),if_pos h8]
 ·rw[hi,if_neg (by omega),if_neg (by omega),hl,if_pos (by omega)];simp
theorem zq9{l:List Bf}{x:Bf}{H:Int→Bool}(hi:zap (plB x.pl) l=-1)(h8:l.length=8)(hl:zab (zaw false H) l l.length=-1):zbo l x H=none:=by
 unfold zbo;rw[hi,if_neg (by omega),if_neg (by omega),hl,if_neg (by omega)]
theorem zle(hb:Nat)(lq:List Rq)(l:List Bf)(a:Option Addr)(c:Nat)(x:Bf)(w:World)(hl:zB w a l)(hn:a=none→c=0)(h8:l.length≤8)(hh:zcb w hb lq)(hp:zbo l x (za0 lq)=none) :
  Calls Tryz.prog 107 #[.slice a l.length c,x.val,.func (.func 82) #[] #[.pointer (some ⟨hb,0,none⟩)]] w fun e w'=>e=.returned (.tuple #[.slice none 0 0,.iface 88 (.int .i64 7)])∧Below w.heap.size w w':=by
 refine(zlG 82 (by intro args w;go_simp) #[.pointer (some ⟨hb,0,none⟩)] (za0 lq) l a c x w hl hn h8 (fun n w' hb'=>zeb hb lq n w' (hh.later hb'))).mono ?_;rintro e w' ⟨⟨m,a',c',hm,_⟩|⟨_,_,_,he⟩,hb'⟩
 ·rw[zm8 hm] at hp;cases hp
 ·exact⟨he,hb'⟩
theorem zkv(hb:Nat)(lq:List Rq)(l:List Bf)(a:Option Addr)(c:Nat)(x:Bf)(w:World)(hl:zB w a l)(hn:a=none→c=0)(h8:l.length≤8)(hh:zcb w hb lq)(m:List Bf)(hp:zbo l x (za0 lq)=some m) :
  Calls Tryz.prog 107 #[.slice a l.length c,x.val,.func (.func 82) #[] #[.pointer (some ⟨hb,0,none⟩)]] w fun e w'=>∃a' c',e=.returned (.tuple #[.slice a' m.length c',.nilIface])∧(zB w' a' m∧m.length≤c'∧zdV w.heap.size a'∧(a'=none→c'=0))∧Below w.heap.size w w':=by
 refine(zlG 82 (by intro args w;go_simp) #[.pointer (some ⟨hb,0,none⟩)] (za0 lq) l a c x w hl hn h8 (fun n w' hb'=>zeb hb lq n w' (hh.later hb'))).mono ?_;rintro e w' ⟨⟨m',a',c',hm,he,h1⟩|⟨hi,h8',hl',_⟩,hb'⟩
 ·rw[zm8 hm] at hp
  cases hp
  exact⟨a',c',he,h1,hb'⟩
 ·rw[zq9 hi h8' hl'] at hp;cases hp
end Go.Proofs.YtlhgjplipgandaaGreat
