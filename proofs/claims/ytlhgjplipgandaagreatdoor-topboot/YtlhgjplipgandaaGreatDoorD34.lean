/- Joined texts: Cache8, Cache9. -/
import Derived.Lib.Overlaps
import Derived.Test.YtlhgjplipgandaaGreatDoorD33
set_option maxRecDepth 100000
set_option maxHeartbeats 8000000
set_option linter.unusedSimpArgs false
namespace Go.Proofs.YtlhgjplipgandaaGreatDoor
open Go.RowKit Go.BigFrame
attribute [local go_sem] ze.cell ze.frozen
def bcs(x:Bf):List Value:=[x.cell 0,x.cell 1,x.cell 2,x.cell 3]
theorem zeR(x:Bf):zC [x]=bcs x:=rfl
theorem zob(l:List Bf)(a:Option Addr)(c base vb:Nat)(x:Bf)(tv:TypeId)(w:World)(h8:l.length≤1000)(hbase:base≤w.heap.size)(hN:zal base w a c l)(hv:w.heap[vb]?=some (.cells (bcs x).toArray tv (0,0))) :
 Calls Tryz.prog 199 #[.slice a l.length c,.int .i64 l.length,.slice (some ⟨vb,0,none⟩) 1 1] w fun e w' =>
  ∃a' c',e=.returned (.slice a' (l.length+1) c')∧zal base w' a' c' (l++[x])∧Below base w w':=by
 obtain⟨i,hi,hz0,hz1,hz2⟩:=zbA zlm;have R:zaS w 4 (some ⟨vb,0,none⟩) 1 1 (zC [x]):=⟨rfl,zcx _,Or.inr ⟨_,rfl,fun j u hj=>by rw[zeR] at hj;exact zcp hv 0 j u (by simpa using hj)⟩⟩
 have HL:Hid (l.length≤1000):=h8;have HO:=zG hN.own;have HNil:=zG hN.nil;have cp:=hN.cap;clear hN hv
 cases a with
 |none =>
  obtain rfl:=HNil.out rfl;have h0:l.length=0:=by omega
  obtain rfl:=List.eq_nil_of_length_eq_zero h0;go_enter Tryz.func199,Tryz.ntmps199;go_wp2_with(at_builtin;refine zR rfl _ _ 91 rfl base 137 i _ 4 40 Tryz.underlying91 hi hz0 hz1 hz2 rfl (by decide) _ 0 [] rfl HO.out (some ⟨vb,0,none⟩) 1 1 (zC [x]) rfl R (by unfold maxLen;omega) (by omega) hbase ?_;intro v1 w2 hown1 hb1)
  all_goals
   rw[Nat.zero_add,List.nil_append] at hown1;obtain⟨a',c',rfl,hN'⟩:=zbS (l:=[x]) hown1 rfl (by simp;try omega);have HN:=zG hN';clear hN';go_wp2;go_ret;exact⟨a',c',rfl,HN.out,hb1⟩
 |some ad =>
  go_enter Tryz.func199,Tryz.ntmps199;go_wp2_with(at_builtin;refine zR rfl _ _ 91 rfl base 137 i _ 4 40 Tryz.underlying91 hi hz0 hz1 hz2 rfl (by decide) _ l.length (zC l) rfl HO.out (some ⟨vb,0,none⟩) 1 1 (zC [x]) rfl R (by unfold maxLen;omega) (by omega) hbase ?_;intro v1 w2 hown1 hb1)
  all_goals
   rw[←zbv] at hown1;obtain⟨a',c',rfl,hN'⟩:=zbS (l:=l++[x]) hown1 (by simp) (by simp;try omega);have e:(l++[x]).length=l.length+1:=by simp
   have HN:=zG hN';clear hN';rw[e];clear e;go_wp2;go_ret;exact⟨a',c',rfl,HN.out,hb1⟩
theorem overB(vb b o lb cb:Nat)(w:World)(X cur:List Value)(tv tr:TypeId)(hne:vb ≠ b)(hv:w.heap[vb]?=some (.cells X.toArray tv (0,0)))(hg:w.heap[b]?=some (.cells cur.toArray tr (0,0)))(h0:cur.length ≠ 0) :
 (callFunc 226 #[.slice (some ⟨vb,0,none⟩) 1 1,.slice (some ⟨b,o,none⟩) lb cb]).run Tryz.prog w=.ok (.value (.bool false)) w:=by
 rw[run_callFunc_extern Tryz.func226 (by kernel_rfl) (by kernel_rfl) (by kernel_rfl) (e:=Extern.SlicesOverlaps.overlaps #[91,91] #[4]) (by kernel_rfl),
  Lib.run_overlaps_apart w 91 4 137 Tryz.underlying91 4 Tryz.sizeOf137 ⟨vb,0,none⟩ ⟨b,o,none⟩ 1 1 lb cb hne tv tr X.length cur.length (by simp[World.shape?,hv]) (by simp[World.shape?,hg]) h0 (by simp[World.frozen?,hv]) (by simp[World.frozen?,hv])]
 rfl
theorem zkj(b n c:Nat)(w:World)(hroom:n+1≤c):(Instr.slice 91 (.slice (some ⟨b,0,none⟩) n c) none (some (.int .i64 ((n:Int)+1))) none).run Tryz.prog w=.ok (.slice (some ⟨b,0,none⟩) (n+1) c) w:=by
 have h1:(0:Int)≤(n:Int)+1:=by omega
 have h2:(n:Int)+1≤(c:Int):=by omega
 have h3:((n:Int)+1).toNat=n+1:=by omega
 simp[go_sem,h1,h2,h3]
theorem zea(b n c i:Nat)(w:World)(hlt:i<n)(hcap:n≤c):(Instr.slice 91 (.slice (some ⟨b,0,none⟩) n c) (some (.int .i64 (i:Int))) none none).run Tryz.prog w=.ok (.slice (some ⟨b,i*4,none⟩) (n-i) (c-i)) w:=by
 have h1:i≤n:=by omega
 have h2:¬c=i:=by omega
 simp[go_sem,h1,h2]
theorem zlp(b n c i vb:Nat)(cur xs X:List Value)(tv:TypeId)(base:Nat)(w:World)(hbb:base≤b)(hne:vb ≠ b)(hg:w.heap[b]?=some (.cells cur.toArray 137 (0,0)))(hcl:cur.length=c*4)(hi:i<n)(hroom:n+1≤c)(hcm:c≤9223372036854775807)
 (hxl:xs.length=(n-i)*4) (hx:∀j v,xs[j]?=some v→cur[i*4+j]?=some v) (h1:∀v∈xs,v.oneCell'=true) (hv:w.heap[vb]?=some (.cells X.toArray tv (0,0))) (hXl:X.length=4) (hX1:∀v∈X,v.oneCell'=true) :
 Calls Tryz.prog 199 #[.slice (some ⟨b,0,none⟩) n c,.int .i64 i,.slice (some ⟨vb,0,none⟩) 1 1] w fun e w' =>
  e=.returned (.slice (some ⟨b,0,none⟩) (n+1) c)∧w'.heap[b]?=some (.cells (splice (splice cur ((i+1)*4) xs) (i*4) X).toArray 137 (0,0))∧Below base w w':=by
 have q1:¬((i:Int)=(n:Int)):=by omega
 have q2:¬((c:Int)<(n:Int)+1):=by omega
 have hwr:IntKind.i64.wrap ((n:Int)+1)=(n:Int)+1:=by rw[IntKind.wrap_i64];omega
 have hwi:IntKind.i64.wrap ((i:Int)+1)=(i:Int)+1:=by rw[IntKind.wrap_i64];omega
 have hov:=fun o lb cb=>overB vb b o lb cb w X cur tv 137 hne hv hg (by omega)
 have hs1:=fun w=>zkj b n c w hroom
 have hs2:=fun w=>zes b (n+1) c i w (by omega) (by omega)
 have hs3:=fun w=>zea b (n+1) c i w (by omega) hroom
 have hs4:=fun w=>zea b n c i w hi (by omega)
 have e1:cur.length=c*4∧xs.length=(n-i)*4∧X.length=4:=⟨hcl,hxl,hXl⟩
 have HE:=zG e1;have HX:=zG hx;have HG:=zG hg;have H1:=zG h1;have HV:=zG hv;have HX1:=zG hX1;have HM:Hid (Nat.min (n+1-i) (n+1-(i+1))=n-i):=(by show Nat.min (n+1-i) (n+1-(i+1))=n-i;simp only[Nat.min_def];split<;>omega)
 have HM2:Hid (Nat.min 1 (n+1-i)=1):=(by show Nat.min 1 (n+1-i)=1;simp only[Nat.min_def];split<;>omega)
 clear e1 hcl hx hxl hg h1 hv hXl hX1;go_enter Tryz.func199,Tryz.ntmps199;go_wp2_with fail
 go_region_law (refine zfE rfl (.tmp 73) (.tmp 76) 91 91 rfl 137 4 Tryz.underlying91 zfU (some ⟨b,(i+1)*4,none⟩) (some ⟨b,i*4,none⟩) (n+1-(i+1)) (c-(i+1)) (n+1-i) (c-i) (by simp[Act.eval,Act.put]) (by simp[Act.eval,Act.put]) b ((i+1)*4) cur 137 xs HG.out (by rw[HE.out.2.1,HM.out]) (fun _=>⟨rfl,_,rfl,fun j v hj=>zcp HG.out _ _ _ (HX.out j v hj)⟩) (by rw[HE.out.1,HE.out.2.1];omega) H1.out base hbb ?_;intro w1 n1 G1 hb1 K1)
 have HV1:Hid (w1.heap[vb]?=some (.cells X.toArray tv (0,0))):=(K1.out vb hne).trans HV.out;have HS:Hid ((splice cur ((i+1)*4) xs).length=c*4):=(by show _=_;rw[length_splice _ _ _ (by rw[HE.out.1,HE.out.2.1];omega),HE.out.1])
 obtain⟨w2,hcp,G2,hb2,K2⟩:=zer (P:=Tryz.prog) w1 91 91 3 137 4 (some ⟨b,i*4,none⟩) (some ⟨vb,0,none⟩) (n+1-i) (c-i) 1 1 b (i*4) _ 137 X Tryz.underlying91 zfU G1.out (by rw[HE.out.2.2,HM2.out]) (fun _=>⟨rfl,_,rfl,fun j v hj=>zcp HV1.out _ _ _ (by simpa using hj)⟩) (by rw[HS.out,HE.out.2.2];omega) HX1.out;have HG2:=zG G2;have HB2:=zG (hb2 base hbb);clear G2 hb2 K2;go_wp2;go_ret;exact⟨rfl,HG2.out,((Below.refl _ _).drew.trans hb1).trans HB2.out⟩
end Go.Proofs.YtlhgjplipgandaaGreatDoor
