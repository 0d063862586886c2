/- Joined. -/
import Derived.Test.YtlhgjplipgandaaGreatDoorE14
set_option maxRecDepth 100000
set_option maxHeartbeats 8000000
set_option linter.unusedSimpArgs false
set_option linter.unusedSectionVars false
namespace Go.Proofs.YtlhgjplipgandaaGreatDoor
open Tryz
section
open Go.RowKit Go.BigFrame
theorem K8(kp:Int)(l:List Pu)(k:Nat)(h:k<l.length)(G:List ByteArray):kz kp 0 (l.take (k+1)) G=if mG kp (k % 64)=true then(kz kp 0 (l.take k) G).set l[k].pl l[k].data else kz kp 0 (l.take k) G:=by
 rw[acG h,B5,acB,adp oM,acq]
theorem dv.putAt{b:Nat}{d:Rd}{a:Ra}{w:World}(h:dv b d a w){k:Nat}(hk:k<d.waits.length):∃g,a.wa=some ⟨g,0,none⟩/\w.cell? ⟨g,k*2,none⟩=some (i6 d.waits[k].pl)/\w.cell? ⟨g,k*2+1,none⟩=some (.string d.waits[k].data):=by
 rcases h.jx.2 with⟨e,h0⟩|⟨g,cap,cur,e,hg,hh,_⟩
 ·omega
 ·simp only[acN] at e;obtain⟨e,_,_⟩:=e;have hl:=Hw d.waits;have hw:=h.jx;rw[e] at hw;have h1:=hw.cellAt (k*2) oM;have h2:=hw.cellAt (k*2+1) oM;obtain⟨p1,p2⟩:=R7 d.waits k hk;exact⟨g,e,h1.trans p1,h2.trans p2⟩
theorem O3(b:Nat)(d:Rd)(a:Ra)(kp:Int)(_hkp:0<=kp/\kp<=18446744073709551615)(w:World)(h:dv b d a w)(hw0:d.waits.length<=1000000) :
 Calls prog 62 #[.pointer (some ⟨b,0,none⟩),.int .u64 kp] w fun e w'=>e=.returned (.tuple #[])/\dR b d a (d.fk kp) ⟨none,0,none,0⟩ w w':=by
 have HD:=aa h;clear h;go_enter func62,ntmps62;go_wp2_with fail
 go_loopw[4] (fun i wr=>∃k:Nat,k<=d.waits.length/\i=i6 k/\dR b d a { d with kept:=kz kp 0 (d.waits.take k) d.kept } a w wr) (fun i _=>d.waits.length-(intOf i).toNat)
 case atStart=>exact⟨0,oM,rfl,dR.same HD.out (aQ _ _)⟩
 case round =>
  obtain⟨k,hk,rfl,hs⟩:=hrel;have zv:=aa hs;have oN:=hs.dev.oN;have lbr:=hs.dev.lt;simp only at oN;clear hs
  by_cases aq:k<d.waits.length
  ·have fM:(k:Int)<(d.waits.length:Int):=oM;obtain⟨g,hg,p1,p2⟩:=zv.out.dev.putAt aq;have hf:=HD.out.jX _ (ach aq);have AL:=K8 kp d.waits k aq d.kept;simp only at p1 p2 hg;generalize d.waits[k]=x at *;have FZ:=aa AL;obtain⟨r,hr⟩:∃r:Nat,r=k % 64:=⟨_,rfl⟩
   have hrm:(k:Int).tmod 64=(r:Int):=by rw[ad5 oM];omega
   have hr64:r<64:=oM;have Nc:IntKind.u64.wrap (k:Int)=(k:Int):=by rw[IntKind.wrap_u64];omega
   rw[<-hr] at FZ;rw[hg] at oN;clear AL hr;have p1':(x.pl:Int)<32:=oM
   cases tz:mG kp r
   ·have gP:(bits BinOp.and IntKind.u64 (kp / 2 ^ r) 1==1)=false:=tz;have IE:=aa tz;clear tz;go_wp2;go_roundw
    case rel =>
     refine⟨k+1,oM,gN,?_⟩;rw[FZ.out,IE.out,ab6 sM];exact zv.out
    case measure=>simp[intOf];omega
   ·have gP:(bits BinOp.and IntKind.u64 (kp / 2 ^ r) 1==1)=true:=tz;have IE:=aa tz;have cK:=zv.out.dev.aaZ x.pl hf;have fK:=zv.out.dev.fz x.pl;have lg:=al p1;have HS:Hid ((fun wz:World=>wz.cell? ⟨b,64,none⟩=some (.slice (some ⟨g,0,none⟩) d.waits.length a.wc)/\wz.cell? ⟨g,k*2,none⟩=some (i6 x.pl)/\wz.cell? ⟨g,k*2+1,none⟩=some (.string x.data)/\b<wz.heap.size/\wz.frozen? ⟨b,x.pl,none⟩=false/\∃u,wz.cell? ⟨b,x.pl,none⟩=some u) wr.drew):=⟨oN,p1,p2,lbr,fK,_,cK⟩
    have v8:(0:Int)<=(k:Int):=oM;have GI:(0:Int)<=(x.pl:Int):=oM;clear tz;go_wp2_with fail;refine eK (S:=fun wz:World=>wz.cell? ⟨b,64,none⟩=some (.slice (some ⟨g,0,none⟩) d.waits.length a.wc)/\wz.cell? ⟨g,k*2,none⟩=some (i6 x.pl)/\wz.cell? ⟨g,k*2+1,none⟩=some (.string x.data)/\b<wz.heap.size/\wz.frozen? ⟨b,x.pl,none⟩=false/\∃u,wz.cell? ⟨b,x.pl,none⟩=some u) (d:=20) kR ?_;refine tK 0 rfl HS.out ?_;(try simp only[Act.put,dP]);refine tK 1 rfl HS.out ?_;(try simp only[Act.put,dP]);refine tK 2 rfl HS.out ?_;(try simp only[Act.put,dP]);refine tK 3 rfl HS.out ?_;(try simp only[Act.put,dP]);refine tK 4 rfl HS.out ?_;(try simp only[Act.put,dP]);refine tK 5 rfl HS.out ?_;(try simp only[Act.put,dP]);refine tK 6 rfl HS.out ?_;(try simp only[Act.put,dP]);refine tK 7 rfl HS.out ?_;(try simp only[Act.put,dP]);refine tK 8 rfl HS.out ?_;(try simp only[Act.put,dP]);refine tK 9 rfl HS.out ?_;(try simp only[Act.put,dP]);refine tK 10 rfl HS.out ?_;(try simp only[Act.put,dP]);refine tK 11 rfl HS.out ?_;(try simp only[Act.put,dP]);refine tK 12 rfl HS.out ?_;(try simp only[Act.put,dP]);refine tK 13 rfl HS.out ?_;(try simp only[Act.put,dP]);refine tK 14 rfl HS.out ?_;(try simp only[Act.put,dP]);refine tK 15 rfl HS.out ?_;(try simp only[Act.put,dP]);refine tK 16 rfl HS.out ?_;(try simp only[Act.put,dP]);refine bn (i:=17) rfl kR ?_;intro K hK;go_simp;refine hK _ _ (fun _=>HS.out) ?_;(try simp only[Act.put,dP]);clear hK;refine bn (i:=18) rfl kR ?_;intro K hK;go_simp;refine hK _ _ (fun _=>HS.out) ?_;(try simp only[Act.put,dP]);clear hK;refine bn (i:=19) rfl kR ?_;intro K hK;go_simp;refine hK _ _ (fun _=>HS.out) ?_;(try simp only[Act.put,dP]);clear hK;refine bn (i:=20) rfl kR ?_;intro K hK;go_simp;refine hK _ _ (fun h=>absurd rfl h) ?_
    (try simp only[Act.put,dP])
    clear hK;refine fp kR ?_ _;go_wp2;go_roundw
    case rel =>
     refine⟨k+1,oM,gN,?_⟩;rw[FZ.out,aca IE.out];exact(zv.out.trans (zv.out.dev.Vw hf x.data)).oP
    case measure=>simp[intOf];omega
  ·have we:k=d.waits.length:=oM;subst we;rw[adG] at zv;have Uk:=zv.out.dev.lu;have S5:=zv.out.dev.X5 _ Uk;have S6:=S5.dev.Ns;have S7:=S6.dev.aaw;have HE:Hid ((dw (kz kp 0 d.waits d.kept)).length=32):=by show _=_;rw[aN];exact Uk
   have f64:=S5.dev.fz 64;have x64:=S5.dev.oN;have f65:=S6.dev.fz 65;have x65:=S6.dev.jb;have qN:=aa (((zv.out.trans S5).trans S6).trans S7);simp only at f64 x64 f65 x65;clear S5 S6 S7 Uk;go_wp2_with(first|(refine wpList_load_mid rfl 45 (.tmp 44) rfl b 0 rfl (dw (kz kp 0 d.waits d.kept)) _ zv.out.dev.Su underlying45 rfl (by rw[HE.out];exact qm) ?_)|(refine wpList_store_mid rfl 45 (.tmp 47) (.tmp 45) rfl b 32 (dw (kz kp 0 d.waits d.kept)).toArray rfl rfl (by rw[adb,HE.out];exact zv.out.dev.there 32 32 oM) (by rw[adb,HE.out];exact qm) (all_oneCell_toArray (vz _)) ?_;simp only));go_end0;exact⟨rfl,qN.out⟩
theorem dR.other{b:Nat}{d d':Rd}{a a':Ra}{w w' eu:World}{q:Nat}(h:dR b d a d' a' w w')(hO:aG (fun k=>k=q) w' eu)(hq:w.heap.size<=q)(nf:¬a'.au b q)(nl:d'.busy ≠ []->∀p,a'.la=some p->p.block ≠ q)(nr:∀r∈d'.busy,r.dC (fun k=>k=q)):dR b d a d' a' w eu :=
 ⟨h.dev.frame hO (fun k hk e=>nf (e▸hk)) nl nr,h.only.trans hO (fun i e=>ir (by subst e;exact hq)),h.au,h.tG⟩
theorem Sy(b:Nat)(d:Rd)(a:Ra)(i:Int)(fl:Bool)(w:World)(h:dv b d a w)(hi:i<0\/(d.busy.length:Int)<=i) :
 Calls prog 151 #[.pointer (some ⟨b,0,none⟩),i6 i,.bool fl] w (rB (.tuple #[oG,i6 5]) w):=by
 have c:=h.jb;have hl:=h.lt;clear h;have hz:=eM w 151;have HZ:=aa hz;have HB:=aa (aB w (.cells #[.bool false,i6 0,i6 0,.slice none 0 0,.slice none 0 0,i6 0,.slice none 0 0,i6 0] 151));clear hz
 by_cases h0:i<0
 ·go_enter func151,ntmps151;go_wp2_with(refine cf rfl (.tmp 6) (.tmp 23) rfl w.heap.size ie none 0 0 0 rfl rfl (cv HZ.out) (fun wK=>bL w wK/\dO wK w.heap.size ie none 0 0 0) ⟨HB.out.trans ((dW _ w.heap.size _ _ _ _ _ _ _ _).below sM (fun i e=>oM)),gn (cv HZ.out) HZ.out.2.2⟩ ?_;rintro w3 ⟨bC,⟨z0,z1,z2,z3,z4,z5,z6,z7⟩,-,-⟩;have jK:=aa bC;clear bC);exact ack (v:=.tuple #[oG,i6 5]) (by simp[results,results151,go_sem,z0,z1,z2,z3,z4,z5,z6,z7,ie]) rfl ⟨rfl,jK.out⟩
 ·have h1:(d.busy.length:Int)<=i:=hi.resolve_left h0;go_enter func151,ntmps151;go_wp2_with(refine cf rfl (.tmp 6) (.tmp 23) rfl w.heap.size ie none 0 0 0 rfl rfl (cv HZ.out) (fun wK=>bL w wK/\dO wK w.heap.size ie none 0 0 0) ⟨HB.out.trans ((dW _ w.heap.size _ _ _ _ _ _ _ _).below sM (fun i e=>oM)),gn (cv HZ.out) HZ.out.2.2⟩ ?_;rintro w3 ⟨bC,⟨z0,z1,z2,z3,z4,z5,z6,z7⟩,-,-⟩;have jK:=aa bC;clear bC);exact ack (v:=.tuple #[oG,i6 5]) (by simp[results,results151,go_sem,z0,z1,z2,z3,z4,z5,z6,z7,ie]) rfl ⟨rfl,jK.out⟩
structure YW(b:Nat)(d:Rd)(a:Ra)(k:Nat)(r:Rq)(a':Ra)(w w4:World):Prop where
 step:dR b d a { d with busy:=d.busy.eraseIdx k } a' w w4
 zero:mL w4 w.heap.size
 box:gW w4 (w.heap.size+1) r
 nf:∀q,w.heap.size<=q->¬a'.au b q
 nl:∀p,a'.la=some p->w.heap.size+2<=p.block
 at':r.At w4
 off:r.dC (a'.au b)
 same:a'.au b=a.au b
theorem YW.nr{b:Nat}{d:Rd}{a:Ra}{k:Nat}{r:Rq}{a':Ra}{w w4:World}(_h:YW b d a k r a' w w4)(hd:dv b d a w)(q:Nat)(hq:w.heap.size<=q):∀x∈d.busy.eraseIdx k,x.dC (fun j=>j=q):=fun x hx =>
 n7 (hd.eW.2.1 x (acy hx)) (fun j e=>oM)
theorem Al{b:Nat}{d:Rd}{a:Ra}{w w2 w3:World}{k:Nat}(hk:k<d.busy.length)(h:dv b d a w)(hb:bL w w2)(hz:mL w2 w.heap.size)(hx:gW w2 (w.heap.size+1) d.busy[k])(hs:w.heap.size+2<=w2.heap.size){x:Option Addr}{c:Nat}(bC:bL w2 w3)(hN:NM w2.heap.size w3 x c (d.busy.eraseIdx k)) :
 YW b d a k d.busy[k] { a with la:=x,lc:=c } w (w3.setCell ⟨b,65,none⟩ (.slice x (d.busy.eraseIdx k).length c)):=by
 have hl:=h.lt;have dA:=h.uS (ab hb bC) (d.busy.eraseIdx k) (by have:=h.gL;rw[acQ];split<;>omega) x c hN.here hN.nil hN.cap (fun _ p hp=>by have:=hN.new p hp;omega) (fun r hr=>⟨h.eW.2.1 r (acy hr),h.reqs r (acy hr)⟩);have hO:aG (fun j=>j=b) w3 (w3.setCell ⟨b,65,none⟩ (.slice x (d.busy.eraseIdx k).length c)):=aG.vp _;have hm:=ach hk;exact {
  step:=dA
  zero:=(hz.only (F:=fun _=>False) (aG.cj bC) (fun e=>e)).only hO oM
  box:=(hx.later bC).only hO oM
  nf:=fun q hq e=>by have:=h.bz q e;omega
  nl:=fun p hp=>by have:=hN.new p hp;omega
  at':=(h.eW.2.1 _ hm).frame (h.reqs _ hm) dA.only
  off:=h.reqs _ hm
  same:=rfl }
theorem dv.J5{b:Nat}{d:Rd}{a:Ra}{w:World}(h:dv b d a w){k:Nat}(hk:k<d.busy.length):∃g o,a.la=some ⟨g,o,none⟩/\w.cell? ⟨g,o+k*6,none⟩=some (.bool d.busy[k].wr)/\w.cell? ⟨g,o+k*6+1,none⟩=some (i6 d.busy[k].f)/\w.cell? ⟨g,o+k*6+2,none⟩=some (i6 d.busy[k].m) /\
 w.cell? ⟨g,o+k*6+3,none⟩=some (.slice d.busy[k].da d.busy[k].data.length d.busy[k].dc)/\w.cell? ⟨g,o+k*6+4,none⟩=some (.slice d.busy[k].ta d.busy[k].tags.length d.busy[k].tc)/\w.cell? ⟨g,o+k*6+5,none⟩=some (i6 d.busy[k].born):=by
 have hl:=h.eW
 rcases hl.form with e|⟨g,o,e⟩
 ·rw[e] at hk;exact absurd hk (acg _)
 ·rw[e] at hl;exact⟨g,o,e,hl.cells hk⟩
theorem O5(b:Nat)(d:Rd)(a:Ra)(k:Nat)(hk:k<d.busy.length)(w:World)(h:dv b d a w) :
 Calls prog 151 #[.pointer (some ⟨b,0,none⟩),i6 k,.bool true] w fun e w'=>∃a',e=.returned (.tuple #[fb d.busy[k] none 0 0 8,i6 0])/\a'.wa=a.wa/\dR b d a { d with busy:=d.busy.eraseIdx k } a' w w':=by
 have hl:=h.lt;have HD:=aa h;have h0:¬(k:Int)<0:=oM;have h1:¬(d.busy.length:Int)<=(k:Int):=oM;have h2:(k:Int)<(d.busy.length:Int):=oM;have ve:(k:Int)<=1:=(by have:=h.gL;omega);have c:=h.jb;obtain⟨g,o,n4,r0,r1,r2,r3,r4,r5⟩:=h.J5 hk;have hR:=h.eW;have bU:=h.qJ;rw[n4] at c hR;have HR:=aa (⟨hR,bU⟩:_/\_);have lg:=al r0;have BU:=aa h.gL;clear h hR bU n4;generalize hr:d.busy[k]=r at *;have pC:=aa hr;clear hr;go_enter func151,ntmps151;go_wp2_with fail;have cX:=ja w (.cells #[.bool false,i6 0,i6 0,.slice none 0 0,.slice none 0 0,i6 0,.slice none 0 0,i6 0] 151) (.cells #[.bool r.wr,i6 r.f,i6 r.m,.slice r.da r.data.length r.dc,.slice r.ta r.tags.length r.tc,i6 r.born] 146);refine(r6 d.busy g o a.lc k _ (HR.out.1.later cX) (by have:=BU.out;omega) HR.out.2 hk).mono ?_;rintro e w3 ⟨xa,xc,rfl,hN,bC⟩;have cS:=(eM w 151).only (F:=fun _=>False) ((aG.refl _ _).alloc (.cells #[.bool r.wr,i6 r.f,i6 r.m,.slice r.da r.data.length r.dc,.slice r.ta r.tags.length r.tc,i6 r.born] 146)) (fun e=>e);have kh:=lR (w.alloc (.cells #[.bool false,i6 0,i6 0,.slice none 0 0,.slice none 0 0,i6 0,.slice none 0 0,i6 0] 151)) 146 r;rw[ab9] at kh;have hO:=Al hk HD.out cX cS (by rw[pC.out];exact kh) sM bC hN;rw[pC.out] at hO;have c3:=(HD.out.later (ab cX bC)).jb;have f3:=(HD.out.later (ab cX bC)).fz 65;have l3:=(HD.out.later (ab cX bC)).lt;have HO:=aa hO;clear cS kh hO hN bC cX r0 r1 r2 r3 r4 r5 c lg;obtain⟨x0,x1,x2,x3,x4,x5⟩:=id HO.out.box;generalize hW:w3.setCell ⟨b,65,none⟩ (.slice xa (d.busy.eraseIdx k).length xc)=w4 at *;go_wp2_with(refine cf rfl (.tmp 6) (.tmp 42) rfl w.heap.size r none 0 0 8 rfl rfl (cv HO.out.zero) (fun wK=>dR b d a { d with busy:=d.busy.eraseIdx k } { a with la:=xa,lc:=xc } w wK/\dO wK w.heap.size r none 0 0 8) ⟨HO.out.step.other (dW _ w.heap.size _ _ _ _ _ _ _ _) (ab5 _) (HO.out.nf _ (ab5 _)) (fun _ p hp=>by have:=HO.out.nl p hp;omega) (HO.out.nr HD.out _ (ab5 _)),gn (cv HO.out.zero) HO.out.zero.2.2⟩ ?_;rintro w5 ⟨zH,⟨z0,z1,z2,z3,z4,z5,z6,z7⟩,-,-⟩;have eP:=aa zH;clear zH);exact ack (v:=.tuple #[fb r none 0 0 8,i6 0]) (by simp[results,results151,go_sem,z0,z1,z2,z3,z4,z5,z6,z7]) rfl ⟨{ a with la:=xa,lc:=xc },rfl,rfl,eP.out⟩
theorem KW(r:Rq)(g:bu r):∃F M:Nat,r.f=F/\r.m=M/\F+M<=32/\1<=M/\M<=4/\r.f.toNat=F/\r.m.toNat=M:=by
 have h1:=g.ok;simp only[gI,aco] at h1;exact⟨r.f.toNat,r.m.toNat,oM,oM,oM,oM,oM,rfl,rfl⟩
theorem aa9:(prog.info? 178).map (fun i=>(i.zero,i.size,i.bytes))=some (some (.agg #[i6 0,.string bE]),2,24):=kR
def LS(w:World)(q b j:Nat)(v:Value)(da:Option Addr)(n dc db o:Nat)(s:ByteArray):Prop:=w.cell? ⟨q,3,none⟩=some (.slice da n dc)/\w.cell? ⟨db,o,none⟩=some (.string s)/\b<w.heap.size/\w.cell? ⟨b,j,none⟩=some v/\w.frozen? ⟨b,j,none⟩=false
theorem LS.later{w w':World}{q b j:Nat}{v:Value}{da:Option Addr}{n dc db o:Nat}{s:ByteArray}(h:LS w q b j v da n dc db o s)(hb:bL w w'):LS w' q b j v da n dc db o s :=
 ⟨eb hb h.1,eb hb h.2.1,acD h.2.2.1 hb.size,eb hb h.2.2.2.1,by rw[hb.frozen (p:=⟨b,j,none⟩) h.2.2.1];exact h.2.2.2.2⟩
theorem dv.abV{b:Nat}{d:Rd}{a:Ra}{w:World}(h:dv b d a w){p:Nat}(hp:p<32):w.cell? ⟨b,32+p,none⟩=some (.string (d.now.getD p bE))/\w.frozen? ⟨b,32+p,none⟩=false:=⟨h.Ae p hp,h.fz _⟩
theorem O6(b:Nat)(d:Rd)(a:Ra)(k:Nat)(hk:k<d.busy.length)(w:World)(h:dv b d a w)(gr:bu d.busy[k])(hw:d.busy[k].wr=true)(Jv:d.waits.length<=1000000) :
 Calls prog 151 #[.pointer (some ⟨b,0,none⟩),i6 k,.bool false] w fun e w'=>∃a',e=.returned (.tuple #[fb d.busy[k] none 0 0 0,i6 0])/\dR b d a (({ d with busy:=d.busy.eraseIdx k }:Rd).cG d.busy[k] d.busy[k].m.toNat) a' w w':=by
 have sf:(d.busy[k].data.length:Int)=d.busy[k].m:=by
  have:=gr.shape;simp only[kD,hw,adR,aco] at this;exact this
 have HW:=aa hw;have PU:=aa sf;have DB:=aa (KW _ gr);clear hw gr sf;have hl:=h.lt;have HD:=aa h;have h0:¬(k:Int)<0:=oM;have h1:¬(d.busy.length:Int)<=(k:Int):=oM;have h2:(k:Int)<(d.busy.length:Int):=oM;have ve:(k:Int)<=1:=(by have:=h.gL;omega);have c:=h.jb;obtain⟨g,o,n4,r0,r1,r2,r3,r4,r5⟩:=h.J5 hk;have hR:=h.eW;have bU:=h.qJ;rw[n4] at c hR;have HR:=aa (⟨hR,bU⟩:_/\_);have lg:=al r0;have BU:=aa h.gL;clear h hR bU n4;generalize hr:d.busy[k]=r at *;have pC:=aa hr;clear hr;go_enter func151,ntmps151;go_wp2_with fail;have cX:=ja w (.cells #[.bool false,i6 0,i6 0,.slice none 0 0,.slice none 0 0,i6 0,.slice none 0 0,i6 0] 151) (.cells #[.bool r.wr,i6 r.f,i6 r.m,.slice r.da r.data.length r.dc,.slice r.ta r.tags.length r.tc,i6 r.born] 146);refine(r6 d.busy g o a.lc k _ (HR.out.1.later cX) (by have:=BU.out;omega) HR.out.2 hk).mono ?_;rintro e w3 ⟨xa,xc,rfl,hN,bC⟩;have cS:=(eM w 151).only (F:=fun _=>False) ((aG.refl _ _).alloc (.cells #[.bool r.wr,i6 r.f,i6 r.m,.slice r.da r.data.length r.dc,.slice r.ta r.tags.length r.tc,i6 r.born] 146)) (fun e=>e);have kh:=lR (w.alloc (.cells #[.bool false,i6 0,i6 0,.slice none 0 0,.slice none 0 0,i6 0,.slice none 0 0,i6 0] 151)) 146 r;rw[ab9] at kh;have hO:=Al hk HD.out cX cS (by rw[pC.out];exact kh) sM bC hN;rw[pC.out] at hO;have c3:=(HD.out.later (ab cX bC)).jb;have f3:=(HD.out.later (ab cX bC)).fz 65;have l3:=(HD.out.later (ab cX bC)).lt;have HO:=aa hO;clear cS kh hO hN bC cX r0 r1 r2 r3 r4 r5 c lg;obtain⟨x0,x1,x2,x3,x4,x5⟩:=id HO.out.box;generalize hW:w3.setCell ⟨b,65,none⟩ (.slice xa (d.busy.eraseIdx k).length xc)=w4 at *;have F0:=aa (id HO.out.box);have Eg:=aa (eM w4 151);go_wp2_with(refine cf rfl (.tmp 9) (.tmp 44) rfl w4.heap.size r none 0 0 0 rfl rfl (cv Eg.out) (fun wK=>bL w4 wK/\dO wK w4.heap.size r none 0 0 0) ⟨((aB w4 _)).trans ((dW _ w4.heap.size _ _ _ _ _ _ _ _).below sM (fun i e=>oM)),gn (cv Eg.out) Eg.out.2.2⟩ ?_;rintro w5 ⟨fT,Rv⟩;have lW:=aa fT;have B0:=aa Rv;clear fT Rv);obtain⟨F,M,hF,hM,hFM,hM1,hM4,tF,tM⟩:=DB.out;have hD5:=HO.out.step.later lW.out;have MD:=aa hD5;have dD:w.heap.size+1<w4.heap.size:=al x0;have hx5:=F0.out.later lW.out;have pD:=aa hx5;have HZ5:=aa (HO.out.zero.only (F:=fun _=>False) (aG.cj lW.out) (fun e=>e));have zS:=aa (HO.out.at'.later lW.out);have zH:w4.heap.size<w5.heap.size:=B0.out.2.2;obtain⟨d1,nt⟩:∃d1:Rd,d1={ d with busy:=d.busy.eraseIdx k }:=⟨_,rfl⟩
 obtain⟨a1,tu⟩:∃a1:Ra,a1={ a with la:=xa,lc:=xc }:=⟨_,rfl⟩
 rw[<-nt,<-tu] at MD;have se:=HO.out;rw[<-tu] at se;have eB:=aa se;have JQ:d1.waits.length<=1000000:=by rw[nt];exact Jv
 have oJ:=aa nt;have zr:=aa tu;have HQ:=aa (⟨hF,hM,tF,tM⟩:_/\_/\_/\_);clear nt tu se x0 x1 x2 x3 x4 x5 hD5 hx5 hF hM tF tM HO hW c3 f3 l3 Eg
 go_loopw[10] (fun i wr=>∃(j:Nat) (a':Ra),j<=M/\i=i6 j/\(d1.cG r j).waits.length=d1.waits.length+j/\a'.la=a1.la/\dR b d1 a1 (d1.cG r j) a' w5 wr) (fun i _=>M-(intOf i).toNat)
 case atStart=>exact⟨0,a1,oM,rfl,rfl,rfl,dR.same MD.out.dev (aQ _ _)⟩
 case round =>
  obtain⟨j,a',hj,rfl,hwj,Rk,hs⟩:=hrel;have HLA:=aa Rk;have cu:=aa hs;have HWJ:=aa hwj;have cF:=pD.out.only hs.only (fun e=>by have:=eB.out.nf (w.heap.size+1) oM;exact this e);have lb:=hs.dev.lt;have kx:=aa cF;obtain⟨x0,x1,x2,x3,x4,x5⟩:=cF;rw[HW.out] at x0;rw[HQ.out.1] at x1;rw[HQ.out.2.1] at x2;have l1:=al x0;clear hs hwj Rk
  by_cases aq:j<M
  ·have fM:(j:Int)<(M:Int):=oM;have qV:j<r.data.length:=by have:=PU.out;have:=HQ.out.2.1;omega
   have ZO:(j:Int)<(r.data.length:Int):=oM;have vZ:(0:Int)<=(j:Int):=oM;obtain⟨P,hP⟩:∃P:Nat,P=F+j:=⟨_,rfl⟩
   have hPi:(F:Int)+(j:Int)=(P:Int):=oM;have CS:P<32:=oM;have aa4:(P:Int)<32:=oM;have hP0:(0:Int)<=(P:Int):=oM;have fS:=zS.out.frame eB.out.off cu.out.only;obtain⟨db,ns,Cn,Nf⟩:∃db ns,r.da=some ⟨db,ns,none⟩/\wr.cell? ⟨db,ns+j,none⟩=some (.string (r.data.getD j bE)):=by
    rcases fS.data with h|⟨db,o,h,hc⟩
    ·rw[h] at qV;exact absurd qV (acg _)
    ·exact⟨db,o,h,hc j qV⟩
   have lV:=aa fS;obtain⟨s,Ef⟩:∃s,s=r.data.getD j bE:=⟨_,rfl⟩
   have MO:=aa Ef;rw[<-Ef] at Nf;rw[Cn] at x3;obtain⟨n1,n2⟩:=cu.out.dev.abV CS;obtain⟨WT,hold⟩:∃WT,(d1.cG r j).now.getD P bE=WT:=⟨_,rfl⟩
   rw[hold] at n1;have YE:=aa hP;have Yo:=aa Cn;have ldb:=al Nf;clear fS Ef hold hP Cn;have HS:Hid (LS wr.drew (w.heap.size+1) b (32+P) (.string WT) (some ⟨db,ns,none⟩) r.data.length r.dc db (ns+j) s):=⟨x3,Nf,lb,n1,n2⟩
   go_wp2_with fail;refine eK (S:=fun wz=>LS wz (w.heap.size+1) b (32+P) (.string WT) (some ⟨db,ns,none⟩) r.data.length r.dc db (ns+j) s) (d:=10) kR ?_;refine tK 0 rfl HS.out ?_;(try simp only[Act.put,dP]);refine tK 1 rfl HS.out ?_;(try simp only[Act.put,dP]);refine tK 2 rfl HS.out ?_;(try simp only[Act.put,dP]);refine tK 3 rfl HS.out ?_;(try simp only[Act.put,dP]);refine tK 4 rfl HS.out ?_;(try simp only[Act.put,dP]);refine tK 5 rfl HS.out ?_;(try simp only[Act.put,dP]);refine tK 6 rfl HS.out ?_;(try simp only[Act.put,dP]);refine bn (i:=7) rfl kR ?_;intro K hK;go_simp;refine hK _ _ (fun _=>HS.out) ?_;(try simp only[Act.put,dP]);clear hK;refine bn (i:=8) rfl kR ?_;intro K hK;go_simp;refine hK _ _ (fun _=>HS.out) ?_;(try simp only[Act.put,dP]);clear hK;refine bn (i:=9) rfl kR ?_;intro K hK;go_simp;refine hK _ _ (fun _=>HS.out) ?_;(try simp only[Act.put,dP]);clear hK;refine bn (i:=10) rfl kR ?_;intro K hK;go_simp;refine hK _ _ (fun h=>absurd rfl h) ?_;(try simp only[Act.put,dP]);clear hK;refine fp kR ?_ _;go_wp2_with fail;have oY:=(cu.out.trans (cu.out.dev.X4 CS s)).oP;refine ej (fun wK=>dR b d1 a1 { d1.cG r j with now:=(d1.cG r j).now.set P s } a' w5 wK) oY ?_;clear oY HS n1 n2 x0 x1 x2 x3 x4 x5 Nf lb l1 ldb lV kx;intro w6 oY;have lY:=aa oY;have cF:=pD.out.only oY.only (fun e=>by have:=eB.out.nf (w.heap.size+1) oM;exact this e);have lb:=oY.dev.lt;obtain⟨x0,x1,x2,x3,x4,x5⟩:=cF;rw[Yo.out] at x3;have fS:=zS.out.frame eB.out.off oY.only;have Nf:w6.cell? ⟨db,ns+j,none⟩=some (.string s):=by
    rcases fS.data with h|⟨db2,o2,h,hc⟩
    ·rw[h] at qV;exact absurd qV (acg _)
    ·rw[Yo.out] at h;simp only[ace,acV,adh] at h;obtain⟨rfl,rfl⟩:=h;rw[MO.out];exact hc j qV
   have oN:=oY.dev.oN;have f64:=oY.dev.fz 64;have CY:=oY.dev.jX;have aaf:=aa oY.dev.jx;have hwn:=HWJ.out;simp only at oN CY aaf;have Ts:=aa CY;generalize hN:(d1.cG r j).waits=W at *;have HN:=aa hN;obtain⟨iP,hi,dB,cP,cS⟩:=fi aa9;have HI:=aa (⟨hi,dB,cP,cS⟩:prog.info? 178=some iP/\_/\_/\_);have hWb:W.length<=1000010:=oM;have HWB:=aa hWb;have HS:Hid (LS w6.drew (w.heap.size+1) b 64 (.slice a'.wa W.length a'.wc) (some ⟨db,ns,none⟩) r.data.length r.dc db (ns+j) s):=⟨x3,Nf,lb,oN,f64⟩
   clear oY fS CY hwn hN hi dB cP cS hWb;refine eK (S:=fun wz=>LS wz (w.heap.size+1) b 64 (.slice a'.wa W.length a'.wc) (some ⟨db,ns,none⟩) r.data.length r.dc db (ns+j) s) (d:=16) kR ?_;refine tK 0 rfl HS.out ?_;(try simp only[Act.put,dP]);refine tK 1 rfl HS.out ?_;(try simp only[Act.put,dP]);refine tK 2 rfl HS.out ?_;(try simp only[Act.put,dP]);refine tK 3 rfl HS.out ?_;(try simp only[Act.put,dP]);refine tK 4 rfl HS.out ?_;(try simp only[Act.put,dP]);refine tK 5 rfl HS.out ?_;(try simp only[Act.put,dP]);refine tK 6 rfl HS.out ?_;(try simp only[Act.put,dP]);refine tK 7 rfl HS.out ?_;(try simp only[Act.put,dP]);refine tK 8 rfl HS.out ?_;(try simp only[Act.put,dP]);refine tK 9 rfl HS.out ?_;(try simp only[Act.put,dP]);refine tK 10 rfl HS.out ?_;(try simp only[Act.put,dP]);refine tK 11 rfl HS.out ?_;(try simp only[Act.put,dP]);refine bn (i:=12) rfl kR ?_;intro K hK;go_simp;refine hK _ _ (fun _=>HS.out.later (aB _ _)) ?_;(try simp only[Act.put,dP]);clear hK;refine bn (i:=13) rfl kR ?_;intro K hK;refine wV rfl (.tmp 73) (.tmp 81) 46 rfl 0 178 iP _ 2 24 underlying46 HI.out.1 HI.out.2.1 HI.out.2.2.1 HI.out.2.2.2 rfl dM (.slice a'.wa W.length a'.wc) W.length (mn W) rfl (EC aaf.out bQ) ⟨w6.heap.size,0,none⟩ 1 1 [i6 P,.string s] rfl rfl (fun i u hi=>sE rfl _ _ i u hi) (by simp[Value.oneCell']) oM (by have:=HWB.out;unfold maxLen;omega) (by have:=HWB.out;omega) (ac0 _) ?_;intro v7 w7 yW Ng hv7;have Ju:aG (fun k=>∃p,a'.wa=some p/\k=p.block) (w6.alloc (.cells #[i6 P,.string s] 178)).drew w7:=⟨Ng.os,Ng.tape,Ng.output,Ng.size,fun k hk hn=>Ng.block k hk (fun e=>hn (bH.1 e.symm))⟩
   obtain⟨x7,c7,e7,Z9⟩:=lY.out.dev.Ny (w2:=(w6.alloc (.cells #[i6 P,.string s] 178)).drew) bQ (W++[⟨P,s⟩]) (fun x hx=>by rcases acs.1 hx with mE|mE;exact Ts.out x mE;(rw[acz.1 mE];exact CS)) (by rw[LA,ab7];exact yW) Ju (fun g hg=>by
    rcases hv7 with hv|hv
    ·rw[hv] at hg;exact il (bH.1 hg)
    ·rw[hv] at hg;exact ir (afc (acR hg)))
   subst e7;have HS8:=aa (lY.out.trans Z9);have l7:LS w7 (w.heap.size+1) b 64 (.slice a'.wa W.length a'.wc) (some ⟨db,ns,none⟩) r.data.length r.dc db (ns+j) s:=by
    have l6:=LS.later (w:=w6) HS.out (w':=(w6.alloc (.cells #[i6 P,.string s] 178)).drew) bQ;have abZ:r.dC (a'.au b):=Rq.dC.step zS.out eB.out.off lY.out.au;have aE:r.data ≠ []:=fun e=>by rw[e] at qV;exact absurd qV (acg _)
    have nq:¬∃p,a'.wa=some p/\w.heap.size+1=p.block:=fun e=>by
     rcases lY.out.au (w.heap.size+1) (ir e) with h'|h'
     ·exact eB.out.nf _ oM h'
     ·omega
    have nb:¬∃p,a'.wa=some p/\b=p.block:=fun⟨p,hp,e⟩=>lY.out.dev.iX p hp e.symm
    have nd:¬∃p,a'.wa=some p/\db=p.block:=fun e=>abZ.1 aE _ Yo.out (ir e)
    exact⟨(Ju.cell (p:=⟨w.heap.size+1,3,none⟩) (al l6.1) nq).trans l6.1,(Ju.cell (p:=⟨db,ns+j,none⟩) (al l6.2.1) nd).trans l6.2.1,acD l6.2.2.1 Ju.size,(Ju.cell (p:=⟨b,64,none⟩) l6.2.2.1 nb).trans l6.2.2.2.1,(Ju.frozen (p:=⟨b,64,none⟩) l6.2.2.1 nb).trans l6.2.2.2.2⟩
   have qN:=aa l7;clear yW Ng hv7 Ju Z9 l7;refine hK _ _ (fun _=>qN.out) ?_
   (try simp only[Act.put,dP])
   clear hK;refine bn (i:=14) rfl kR ?_;intro K hK;go_simp;refine hK _ _ (fun _=>qN.out) ?_;(try simp only[Act.put,dP]);clear hK;refine bn (i:=15) rfl kR ?_;intro K hK;go_simp;refine hK _ _ (fun _=>qN.out) ?_;(try simp only[Act.put,dP]);clear hK;obtain⟨-,-,s2,s3,s4⟩:=id qN.out;refine bn (i:=16) rfl kR ?_;intro K hK;go_simp;refine hK _ _ (fun h=>absurd rfl h) ?_;(try simp only[Act.put,dP]);clear hK;refine fp kR ?_ _;go_wp2;go_roundw
   case rel =>
    have e1:d1.cG r (j+1)={ { d1.cG r j with now:=(d1.cG r j).now.set P s } with waits:=W++[⟨P,s⟩] }:=by
     rw[Rd.fD,HQ.out.2.2.1,<-YE.out,<-MO.out,<-HN.out]
     rfl
    refine⟨j+1,{ a' with wa:=x7,wc:=c7 },oM,gN,?_,HLA.out,?_⟩
    ·rw[e1];show(W++[(⟨P,s⟩:Pu)]).length=_;rw[ab7,acu];have:=HWJ.out
     omega
    ·rw[e1];have:=HS8.out;rw[ab7,acu] at this;exact this
   case measure=>simp[intOf];omega
  ·have ZM:j=M:=oM;subst ZM;have WB:=B0.out.only cu.out.only (eB.out.nf _ oM);have RE:=HZ5.out.only cu.out.only (eB.out.nf _ (ab5 _));obtain⟨⟨y0,y1,y2,y3,y4,y5,y6,y7⟩,-,yl⟩:=WB;have IT:=aa RE;have qe:¬a'.au b w.heap.size:=fun e=>by
    rcases cu.out.au _ e with h'|h'
    ·exact eB.out.nf _ (ab5 _) h'
    ·omega
   have Dy:=aa qe;have YK:=aa (MD.out.trans cu.out);have pB:Hid ((d1.cG r j).busy=d.busy.eraseIdx k):=by show _=_;rw[Rd.oa,oJ.out]
   clear RE x0 x1 x3 x4 x5 qe;go_wp2_with(refine cf rfl (.tmp 6) (.tmp 96) rfl w.heap.size r none 0 0 0 rfl rfl (cv IT.out) (fun wK=>dR b d a (d1.cG r j) a' w wK/\dO wK w.heap.size r none 0 0 0) ⟨YK.out.other (dW _ w.heap.size _ _ _ _ _ _ _ _) (ab5 _) Dy.out (fun _ p hp=>by rw[HLA.out] at hp;have:=eB.out.nl p hp;omega) (by rw[pB.out];exact eB.out.nr HD.out _ (ab5 _)),gn (cv IT.out) IT.out.2.2⟩ ?_;rintro w9 ⟨Rw,⟨z0,z1,z2,z3,z4,z5,z6,z7⟩,-,-⟩;have V0:=aa Rw;clear Rw);refine ack (v:=.tuple #[fb r none 0 0 0,i6 0]) (by simp[results,results151,go_sem,z0,z1,z2,z3,z4,z5,z6,z7]) rfl ⟨a',rfl,?_⟩;rw[HQ.out.2.2.2,<-oJ.out];exact V0.out
def jz(d:Rd)(f n:Nat):List ByteArray:=(List.range n).map fun j=>d.now.getD (f+j) bE
theorem KB(d:Rd)(f n:Nat):jz d f (n+1)=jz d f n++[d.now.getD (f+n) bE]:=by simp[jz,aej]
theorem yq(d:Rd)(f n:Nat):(jz d f n).length=n:=by simp[jz]
theorem aG.R4{a b:World}{B:Nat}(h:Below B a b):aG (fun k=>B<=k) a b:=⟨h.os,h.tape,h.output,h.size,fun i _ hn=>h.block i oM⟩
theorem XX{w:World}{q n xc n' xc':Nat}{r:Rq}{xa xa':Option Addr}{er:Int}(h:dO w q r xa n xc er):dO (w.setCell ⟨q,6,none⟩ (.slice xa' n' xc')) q r xa' n' xc' er:=by
 obtain⟨⟨h0,h1,h2,h3,h4,h5,h6,h7⟩,ht,hl⟩:=h;have k:∀o,o ≠ 6->(w.setCell ⟨q,6,none⟩ (.slice xa' n' xc')).cell? ⟨q,o,none⟩=w.cell? ⟨q,o,none⟩:=fun o ho=>acL _ _ _ _ (fun e=>ho (by injection e with _ e2 _;exact e2.symm))
 refine⟨⟨(k 0 oM).trans h0,(k 1 oM).trans h1,(k 2 oM).trans h2,(k 3 oM).trans h3,(k 4 oM).trans h4,(k 5 oM).trans h5,?_,(k 7 oM).trans h7⟩,?_,by simpa [World.setCell] using hl⟩
 ·exact World.rangeAt_setCells_same w q 6 [.slice xa' n' xc'] (fun j hj=>by have:=ht (6+j) (by simp at hj;omega);rw[acq] at this;exact this) 0 _ rfl
 ·exact World.there_setCells ht q 6 [.slice xa' n' xc']
def LR(w:World)(q b p:Nat)(v:Value)(s:ByteArray):Prop:=w.cell? ⟨q,6,none⟩=some v/\w.cell? ⟨b,32+p,none⟩=some (.string s)/\b<w.heap.size/\w.frozen? ⟨q,6,none⟩=false
theorem LR.below{w w':World}{q b p B:Nat}{v:Value}{s:ByteArray}(h:LR w q b p v s)(hb:Below B w w')(hq:q<B)(gP:b<B):LR w' q b p v s :=
 ⟨(hb.cell (p:=⟨q,6,none⟩) hq).trans h.1,(hb.cell (p:=⟨b,32+p,none⟩) gP).trans h.2.1,acD h.2.2.1 hb.size,(hb.frozen (p:=⟨q,6,none⟩) hq).trans h.2.2.2⟩
theorem Sz(b:Nat)(d:Rd)(a:Ra)(k:Nat)(hk:k<d.busy.length)(w:World)(h:dv b d a w)(gr:bu d.busy[k])(hw:d.busy[k].wr=false) :
 Calls prog 151 #[.pointer (some ⟨b,0,none⟩),i6 k,.bool false] w fun e w'=>∃a' xa xc,e=.returned (.tuple #[fb d.busy[k] xa (jz d d.busy[k].f.toNat d.busy[k].m.toNat).length xc 0,i6 0])/\cy w' xa (jz d d.busy[k].f.toNat d.busy[k].m.toNat)/\(xa=none->xc=0)/\(∀ad,xa=some ad->w.heap.size<=ad.block/\¬a'.au b ad.block)/\dR b d a { d with busy:=d.busy.eraseIdx k } a' w w':=by
 have HW:=aa hw;have DB:=aa (KW _ gr);clear hw gr;have hl:=h.lt;have HD:=aa h;have h0:¬(k:Int)<0:=oM;have h1:¬(d.busy.length:Int)<=(k:Int):=oM;have h2:(k:Int)<(d.busy.length:Int):=oM;have ve:(k:Int)<=1:=(by have:=h.gL;omega);have c:=h.jb;obtain⟨g,o,n4,r0,r1,r2,r3,r4,r5⟩:=h.J5 hk;have hR:=h.eW;have bU:=h.qJ;rw[n4] at c hR;have HR:=aa (⟨hR,bU⟩:_/\_);have lg:=al r0;have BU:=aa h.gL;clear h hR bU n4;generalize hr:d.busy[k]=r at *;have pC:=aa hr;clear hr;go_enter func151,ntmps151;go_wp2_with fail;have cX:=ja w (.cells #[.bool false,i6 0,i6 0,.slice none 0 0,.slice none 0 0,i6 0,.slice none 0 0,i6 0] 151) (.cells #[.bool r.wr,i6 r.f,i6 r.m,.slice r.da r.data.length r.dc,.slice r.ta r.tags.length r.tc,i6 r.born] 146);refine(r6 d.busy g o a.lc k _ (HR.out.1.later cX) (by have:=BU.out;omega) HR.out.2 hk).mono ?_;rintro e w3 ⟨xa,xc,rfl,hN,bC⟩;have cS:=(eM w 151).only (F:=fun _=>False) ((aG.refl _ _).alloc (.cells #[.bool r.wr,i6 r.f,i6 r.m,.slice r.da r.data.length r.dc,.slice r.ta r.tags.length r.tc,i6 r.born] 146)) (fun e=>e);have kh:=lR (w.alloc (.cells #[.bool false,i6 0,i6 0,.slice none 0 0,.slice none 0 0,i6 0,.slice none 0 0,i6 0] 151)) 146 r;rw[ab9] at kh;have hO:=Al hk HD.out cX cS (by rw[pC.out];exact kh) sM bC hN;rw[pC.out] at hO;have c3:=(HD.out.later (ab cX bC)).jb;have f3:=(HD.out.later (ab cX bC)).fz 65;have l3:=(HD.out.later (ab cX bC)).lt;have HO:=aa hO;clear cS kh hO hN bC cX r0 r1 r2 r3 r4 r5 c lg;obtain⟨x0,x1,x2,x3,x4,x5⟩:=id HO.out.box;generalize hW:w3.setCell ⟨b,65,none⟩ (.slice xa (d.busy.eraseIdx k).length xc)=w4 at *;have F0:=aa (id HO.out.box);have Eg:=aa (eM w4 151);go_wp2_with(refine cf rfl (.tmp 9) (.tmp 44) rfl w4.heap.size r none 0 0 0 rfl rfl (cv Eg.out) (fun wK=>bL w4 wK/\dO wK w4.heap.size r none 0 0 0) ⟨((aB w4 _)).trans ((dW _ w4.heap.size _ _ _ _ _ _ _ _).below sM (fun i e=>oM)),gn (cv Eg.out) Eg.out.2.2⟩ ?_;rintro w5 ⟨fT,Rv⟩;have lW:=aa fT;have B0:=aa Rv;clear fT Rv);obtain⟨F,M,hF,hM,hFM,hM1,hM4,tF,tM⟩:=DB.out;have dD:w.heap.size+1<w4.heap.size:=al x0;have gj:=HO.out.step.dev.lt;obtain⟨d1,nt⟩:∃d1:Rd,d1={ d with busy:=d.busy.eraseIdx k }:=⟨_,rfl⟩
 obtain⟨a1,tu⟩:∃a1:Ra,a1={ a with la:=xa,lc:=xc }:=⟨_,rfl⟩
 have uW:=HO.out.step;rw[<-nt,<-tu] at uW;have gA:=aa uW;have se:=HO.out;rw[<-tu] at se;have eB:=aa se;have Cs:∀n,jz d F n=jz d1 F n:=fun n=>by rw[nt];rfl
 have oJ:=aa nt;have HRD:=aa Cs;have HQ:=aa (⟨hF,hM,tF,tM⟩:_/\_/\_/\_);obtain⟨iS,hi,dB,cP,cS⟩:=fi wF;have HI:=aa (⟨hi,dB,cP,cS⟩:prog.info? 9=some iS/\_/\_/\_);clear nt tu se uW Cs x0 x1 x2 x3 x4 x5 hF hM tF tM HO hW c3 f3 l3 Eg hi dB cP cS
 go_loopw[10] (fun i wr=>∃(j:Nat) (xa:Option Addr) (xc:Nat),j<=M/\i=i6 j/\dO wr w4.heap.size r xa j xc 0/\wr.ownsRow (w4.heap.size+1) 9 1 (.slice xa j xc) j (dw (jz d1 F j))/\bL w4 wr) (fun i _=>M-(intOf i).toNat)
 case atStart=>exact⟨0,none,0,oM,rfl,B0.out,acx _ _ _ _,lW.out⟩
 case round =>
  clear lW B0;obtain⟨j,xa,xc,hj,rfl,WB,bp,hB⟩:=hrel;have HRE:=aa WB;have P0:=aa bp;have HB:=aa hB;obtain⟨⟨y0,y1,y2,y3,y4,y5,y6,y7⟩,yt,yl⟩:=WB;obtain⟨x0,x1,x2,x3,x4,x5⟩:=F0.out.later hB;have AD:=gA.out.dev.later hB;have lb:=AD.lt;rw[HW.out] at x0;rw[HQ.out.1] at x1;rw[HQ.out.2.1] at x2
  by_cases aq:j<M
  ·have fM:(j:Int)<(M:Int):=oM;obtain⟨P,hP⟩:∃P:Nat,P=F+j:=⟨_,rfl⟩
   have hPi:(F:Int)+(j:Int)=(P:Int):=oM;have CS:P<32:=oM;have aa4:(P:Int)<32:=oM;have hP0:(0:Int)<=(P:Int):=oM;have cn:=AD.Ae P CS;obtain⟨s,Ef⟩:∃s,d1.now.getD P bE=s:=⟨_,rfl⟩
   rw[Ef] at cn;have MO:=aa Ef;have YE:=aa hP;have f6:wr.frozen? ⟨w4.heap.size,6,none⟩=false:=by have:=(yt 6 oM).2;rw[acq] at this;exact this
   have HS:Hid (LR wr.drew w4.heap.size b P (.slice xa j xc) s):=⟨y6,cn,lb,f6⟩
   have HYL:=aa yl;clear Ef hP yt AD bp hB y0 y1 y2 y3 y4 y5 y7;go_wp2_with fail;refine eK (S:=fun wz=>LR wz w4.heap.size b P (.slice xa j xc) s) (d:=11) kR ?_;refine tK 0 rfl HS.out ?_;(try simp only[Act.put,dP]);refine tK 1 rfl HS.out ?_;(try simp only[Act.put,dP]);refine tK 2 rfl HS.out ?_;(try simp only[Act.put,dP]);refine tK 3 rfl HS.out ?_;(try simp only[Act.put,dP]);refine tK 4 rfl HS.out ?_;(try simp only[Act.put,dP]);refine tK 5 rfl HS.out ?_;(try simp only[Act.put,dP]);refine tK 6 rfl HS.out ?_;(try simp only[Act.put,dP]);refine tK 7 rfl HS.out ?_;(try simp only[Act.put,dP]);refine bn (i:=8) rfl kR ?_;intro K hK;go_simp;refine hK _ _ (fun _=>HS.out.below (aB _ _) yl lb) ?_;(try simp only[Act.put,dP]);clear hK;refine bn (i:=9) rfl kR ?_;intro K hK;refine kj rfl (.tmp 86) (.tmp 93) 51 rfl (w4.heap.size+1) 9 iS _ 1 16 underlying51 HI.out.1 HI.out.2.1 HI.out.2.2.1 HI.out.2.2.2 rfl dM (.slice xa j xc) j (dw (jz d1 F j)) rfl (EC P0.out bQ) (some ⟨wr.heap.size,0,none⟩) 1 1 [.string s] rfl ⟨rfl,by simp[Value.oneCell'],ir ⟨_,rfl,fun i u hi=>sE rfl _ _ i u hi⟩⟩ (by unfold maxLen;omega) oM (by have:=HYL.out;simp;omega) ?_;intro v7 w7 yW M9;have Oh:Below (w4.heap.size+1) wr w7:=ady (((aQ _ _).alloc oM _).drew) M9;obtain⟨x7,c7,rfl,-⟩:=iK yW;have WA:=HRE.out.only (aG.R4 Oh) oM;have l7:LR w7 w4.heap.size b P (.slice xa j xc) s:=LR.below (w:=wr) HS.out Oh oM oM;have hq7:(Value.slice x7 (j+1) c7).ownBlock ≠ some w4.heap.size:=fun e=>by have:=(yW.lt _ e).1;omega
   have HR8:=aa (XX (xa':=x7) (n':=j+1) (xc':=c7) WA);have HO8:=aa (ei (w':=w7.setCell ⟨w4.heap.size,6,none⟩ (.slice x7 (j+1) c7)) yW (fun g hg=>mu _ _ (fun e=>hq7 (e▸hg))));have HB8:=aa ((HB.out.trans (Oh.mono oM)).setCell (p:=⟨w4.heap.size,6,none⟩) (ab5 _) (.slice x7 (j+1) c7));have qN:=aa l7;clear yW M9 Oh WA l7 hq7;refine hK _ _ (fun _=>qN.out) ?_
   (try simp only[Act.put,dP])
   clear hK;refine bn (i:=10) rfl kR ?_;intro K hK;go_simp;refine hK _ _ (fun _=>qN.out) ?_;(try simp only[Act.put,dP]);clear hK;obtain⟨s0,-,-,s3⟩:=id qN.out;refine bn (i:=11) rfl kR ?_;intro K hK;go_simp;refine hK _ _ (fun h=>absurd rfl h) ?_;(try simp only[Act.put,dP]);clear hK;refine fp kR ?_ _;go_wp2;go_roundw
   case rel =>
    refine⟨j+1,x7,c7,oM,gN,HR8.out,?_,HB8.out⟩;have e1:dw (jz d1 F (j+1))=dw (jz d1 F j)++[.string s]:=by rw[KB,<-YE.out,MO.out];simp[dw]
    rw[e1];exact HO8.out
   case measure=>simp[intOf];omega
  ·have ZM:j=M:=oM;subst ZM;have RE:=eB.out.zero.only (F:=fun _=>False) (aG.cj hB) (fun e=>e);have IT:=aa RE;have YK:=aa (gA.out.later hB);obtain⟨ya,yc,e1,dA,pM,pG⟩:=yz bp (yq _ _ _).symm;simp only[acN] at e1;obtain⟨rfl,-,rfl⟩:=e1;have Ru:∀ad,xa=some ad->ad.block ≠ w.heap.size:=fun ad e=>by have:=pG ad e;omega
   have aI:=aa (⟨dA,pM,pG,Ru⟩:_/\_/\_/\_);have pB:Hid (d1.busy=d.busy.eraseIdx k):=by show _=_;rw[oJ.out]
   clear dA pM pG Ru bp RE yt AD hB;go_wp2_with(refine cf rfl (.tmp 6) (.tmp 96) rfl w.heap.size r xa j xc 0 rfl rfl (cv IT.out) (fun wK=>(cy wK xa (jz d1 F j)/\dR b d a d1 a1 w wK)/\dO wK w.heap.size r xa j xc 0) ⟨⟨gT aI.out.1 (dW _ w.heap.size _ _ _ _ _ _ _ _) (fun _ ad e=>aI.out.2.2.2 ad e),YK.out.other (dW _ w.heap.size _ _ _ _ _ _ _ _) (ab5 _) (eB.out.nf _ (ab5 _)) (fun _ p hp=>by have:=eB.out.nl p hp;omega) (by rw[pB.out];exact eB.out.nr HD.out _ (ab5 _))⟩,gn (cv IT.out) IT.out.2.2⟩ ?_;rintro w9 ⟨Rw,⟨z0,z1,z2,z3,z4,z5,z6,z7⟩,-,-⟩;have V0:=aa Rw;clear Rw);refine ack (v:=.tuple #[fb r xa j xc 0,i6 0]) (by simp[results,results151,go_sem,z0,z1,z2,z3,z4,z5,z6,z7]) rfl ⟨a1,xa,xc,?_,?_,aI.out.2.1,fun ad e=>⟨by have:=aI.out.2.2.1 ad e;omega,eB.out.nf _ (by have:=aI.out.2.2.1 ad e;omega)⟩,?_⟩
   ·rw[yq,HQ.out.2.2.2]
   ·rw[HQ.out.2.2.1,HQ.out.2.2.2,HRD.out];exact V0.out.1
   ·rw[<-oJ.out];exact V0.out.2
def qL(d:Rd)(r:Rq):List ByteArray:=if r.wr=true then [] else jz d r.f.toNat r.m.toNat
theorem Vb(b:Nat)(d:Rd)(a:Ra)(k:Nat)(hk:k<d.busy.length)(w:World)(h:dv b d a w)(gr:bu d.busy[k])(Jv:d.waits.length<=1000000) :
 Calls prog 151 #[.pointer (some ⟨b,0,none⟩),i6 k,.bool false] w fun e w'=>∃a' xa xc xs,e=.returned (.tuple #[fb d.busy[k] xa (List.length xs) xc 0,i6 0])/\Hid (xs=qL d d.busy[k])/\cy w' xa xs/\(∀ad,xa=some ad->w.heap.size<=ad.block/\¬a'.au b ad.block)/\dR b d a (({ d with busy:=d.busy.eraseIdx k }:Rd).cq d.busy[k]) a' w w':=by
 by_cases hw:d.busy[k].wr=true
 ·refine(O6 b d a k hk w h gr hw Jv).mono ?_;rintro e w' ⟨a',rfl,hs⟩;refine⟨a',none,0,[],rfl,?_,il rfl,(fun ad e=>by cases e),?_⟩
  ·show []=_;rw[qL,aca hw]
  ·rw[Rd.cq,aca hw];exact hs
 ·refine(Sz b d a k hk w h gr (by simpa using hw)).mono ?_;rintro e w' ⟨a',xa,xc,rfl,h1,-,h2,hs⟩;refine⟨a',xa,xc,_,rfl,?_,h1,h2,?_⟩
  ·show _=_;rw[qL,ab6 hw]
  ·rw[Rd.cq,ab6 hw];exact hs
end
section
open Go.RowKit Go.BigFrame Go.Maps
structure kG(v b bm:Nat)(m:Rd)(a:Ra)(n:Nat)(D:DataW Unit)(w:World):Prop where
 dev:dv b m a w
 aW:w.heap[v]?=some (.cells [.pointer (some ⟨b,0,none⟩),.map (some bm)].toArray 133 (0,0))
 map:w.ownsMap prog 3 (plainElem prog 3) bm n D
 au:∀k,a.au b k->k ≠ v/\k ≠ bm
def mq(b bm:Nat)(a:Ra)(k:Nat):Prop:=k=bm\/a.au b k
structure gB(v b bm:Nat)(m:Rd)(a:Ra)(n:Nat)(D:DataW Unit)(m':Rd)(a':Ra)(n':Nat)(D':DataW Unit)(w w':World):Prop where
 at':kG v b bm m' a' n' D' w'
 only:aG (mq b bm a) w w'
 au:∀k,mq b bm a' k->mq b bm a k\/w.heap.size<=k
 tG:m'.busy ≠ []->∀p,a'.la=some p->(m.busy ≠ []/\a.la=some p)\/w.heap.size<=p.block
section
variable{v b bm:Nat}{m m' m2:Rd}{a a' a2:Ra}{n n' n2:Nat}{D D' D2:DataW Unit}{w w' w2:World}
theorem kG.mlt(h:kG v b bm m a n D w):bm<w.heap.size:=h.map.lt
theorem kG.ne(h:kG v b bm m a n D w):v ≠ bm:=by
 rintro rfl;obtain⟨es,clock,hb,_⟩:=h.map;rw[h.aW] at hb
 cases hb
theorem kG.lm(h:kG v b bm m a n D w)(aE:m.busy ≠ [])(p:Addr)(hp:a.la=some p):p.block ≠ bm:=by
 rcases h.dev.eW.1 with e|⟨b',o',ha,hc⟩
 ·exact absurd e aE
 ·have GF:m.busy.length ≠ 0:=fun e=>aE (acd e)
  have:=hc 0 oM 0 oM;rw[ha] at hp;simp only[ace] at hp;subst hp;rintro rfl;obtain⟨es,clock,hb,_⟩:=h.map;simp only at this hb
  simp[World.cell?,hb] at this
theorem kG.step(h:kG v b bm m a n D w)(hs:dR b m a m' a' w w'):gB v b bm m a n D m' a' n D w w' where
 at':=⟨hs.dev,by rw[hs.only.block v (aH h.aW) (fun e=>(h.au v e).1 rfl)];exact h.aW,mj h.map (hs.only.block bm h.mlt (fun e=>(h.au bm e).2 rfl)),fun k hk=>(hs.au k hk).elim (h.au k) (fun h'=>by have:=aH h.aW;have:=h.mlt;omega)⟩
 only:=hs.only.mono (fun _ e=>ir e)
 au:=fun k hk=>hk.elim (fun e=>il (il e)) (fun e=>(hs.au k e).elim (fun h'=>il (ir h')) ir)
 tG:=hs.tG
theorem gB.trans(h:gB v b bm m a n D m' a' n' D' w w')(k:gB v b bm m' a' n' D' m2 a2 n2 D2 w' w2):gB v b bm m a n D m2 a2 n2 D2 w w2 :=
 ⟨k.at',h.only.trans k.only h.au,fun i hi=>(k.au i hi).elim (h.au i) (fun h'=>ir (acv h.only.size h')),fun aE p hp=>(k.tG aE p hp).elim (fun e=>h.tG e.1 p e.2) (fun h'=>ir (acv h.only.size h'))⟩
theorem gB.later(h:gB v b bm m a n D m' a' n' D' w w')(hb:bL w' w2):gB v b bm m a n D m' a' n' D' w w2:=h.trans (h.at'.step (dR.same h.at'.dev hb))
theorem kG.dV(h:kG v b bm m a n D w)(ho:aG (fun k=>k=bm) w w')(hm:w'.ownsMap prog 3 (plainElem prog 3) bm n' D')(hr:∀r∈m.busy,r.dC (fun k=>k=bm)):gB v b bm m a n D m a n' D' w w' where
 at':=⟨h.dev.frame ho (fun k hk=>(h.au k hk).2) h.lm hr,by rw[ho.block v (aH h.aW) h.ne];exact h.aW,hm,h.au⟩
 only:=ho.mono (fun _ e=>il e)
 au:=fun _ hk=>il hk
 tG:=fun aE _ hp=>il ⟨aE,hp⟩
theorem kG.cells(h:kG v b bm m a n D w):w.cell? ⟨v,0,none⟩=some (.pointer (some ⟨b,0,none⟩))/\w.cell? ⟨v,1,none⟩=some (.map (some bm)):=⟨by rw[aP h.aW];rfl,by rw[aP h.aW];rfl⟩
theorem KC(h:gB v b bm m a n D m' a' n' D' w w')(q:Nat)(hq:w.heap.size<=q)(cE:¬mq b bm a' q)(Z5:q ≠ v)(hl:m'.busy ≠ []->∀p,a'.la=some p->p.block ≠ q)(hr:∀r∈m'.busy,r.dC (fun k=>k=q))(v0 v1 v2 v3 v4 v5 v6 v7:Value):gB v b bm m a n D m' a' n' D' w (xB w' q v0 v1 v2 v3 v4 v5 v6 v7) where
 at':=⟨h.at'.dev.frame (dW w' q _ _ _ _ _ _ _ _) (fun k hk e=>cE (by rw[<-e];exact ir hk)) hl hr,by rw[(dW w' q v0 v1 v2 v3 v4 v5 v6 v7).block v (aH h.at'.aW) (Ne.symm Z5)];exact h.at'.aW,mj h.at'.map ((dW w' q v0 v1 v2 v3 v4 v5 v6 v7).block bm h.at'.mlt (fun e=>cE (il e.symm))),h.at'.au⟩
 only:=h.only.trans (dW w' q v0 v1 v2 v3 v4 v5 v6 v7) (fun i e=>ir (by subst e;exact hq))
 au:=h.au
 tG:=h.tG
end
theorem Rd.Gf(m:Rd)(r:Rq):(m.cq r).busy=m.busy:=by unfold Rd.cq;split;exact Rd.oa _ _ _;rfl
structure Bp(bm:Nat)(d:Rd)(k:Nat)(r:Rq)(tg:Int):Prop where
 at':d.busy[k]?=some r
 tag:r.tags.getD 0 0=tg
 rS:cY tg
 sU:1<=r.tags.length
 off:∀q∈d.busy,q.dC (fun j=>j=bm)
theorem Bp.mem{bm:Nat}{d:Rd}{k:Nat}{r:Rq}{tg:Int}(h:Bp bm d k r tg):r∈d.busy:=acX h.at'
theorem Vc(b:Nat)(d:Rd)(a:Ra)(k:Nat)(r:Rq)(hk:d.busy[k]?=some r)(w:World)(h:dv b d a w)(gr:bu r)(Jv:d.waits.length<=1000000) :
 Calls prog 151 #[.pointer (some ⟨b,0,none⟩),i6 k,.bool false] w fun e w'=>∃a' xa xc xs,e=.returned (.tuple #[fb r xa (List.length xs) xc 0,i6 0])/\Hid (xs=qL d r)/\cy w' xa xs/\(∀ad,xa=some ad->w.heap.size<=ad.block/\¬a'.au b ad.block)/\dR b d a (({ d with busy:=d.busy.eraseIdx k }:Rd).cq r) a' w w':=by
 obtain⟨eH,rfl⟩:=ac1.1 hk;exact Vb b d a k eH w h gr Jv
theorem CC(b:Nat)(d:Rd)(a:Ra)(k:Nat)(r:Rq)(hk:d.busy[k]?=some r)(w:World)(h:dv b d a w) :
 Calls prog 151 #[.pointer (some ⟨b,0,none⟩),i6 k,.bool true] w fun e w'=>∃a',e=.returned (.tuple #[fb r none 0 0 8,i6 0])/\a'.wa=a.wa/\dR b d a { d with busy:=d.busy.eraseIdx k } a' w w':=by
 obtain⟨eH,rfl⟩:=ac1.1 hk;exact O5 b d a k eH w h
theorem Dk{w:World}{r:Rq}{tg:Int}(h:r.At w)(ht:r.tags.getD 0 0=tg)(h1:1<=r.tags.length):∃tb tof,r.ta=some ⟨tb,tof,none⟩/\w.cell? ⟨tb,tof,none⟩=some (i6 tg):=by
 rcases h.tags with e|⟨tb,tof,e,hc⟩
 ·rw[e] at h1;simp at h1
 ·refine⟨tb,tof,e,?_⟩;have:=hc 0 oM;rw[ht] at this
  simpa using this
theorem X1(v b bm:Nat)(m:Rd)(a:Ra)(n:Nat)(D:DataW Unit)(i:Int)(fl:Bool)(w:World)(h:kG v b bm m a n D w)(hi:i<0\/(m.busy.length:Int)<=i) :
 Calls prog 104 #[.pointer (some ⟨v,0,none⟩),i6 i,.bool fl] w (rB (.tuple #[oG,.bool false,i6 5]) w):=by
 obtain⟨c0,c1⟩:=h.cells;have HV:=aa h;have hv:=aH h.aW;have hm:=h.mlt;have JB:=h.dev.lt;have fw:=aa (aB w (.cells #[.bool false,i6 0,i6 0,.slice none 0 0,.slice none 0 0,i6 0,.slice none 0 0,i6 0] 151));clear h;have HI:=aa hi;clear hi;go_enter func104,ntmps104;go_wp2_with fail;refine cM (Sy b m a i fl _ (HV.out.dev.later fw.out) HI.out) ?_;intro w1 aw;have my:=ab aw (aB w1 (.cells #[.bool false,i6 0,i6 0,.slice none 0 0,.slice none 0 0,i6 0,.slice none 0 0,i6 0] 151));have cP:=(eM w 151).only (F:=fun _=>False) (aG.cj my) (fun e=>e);have eC:=fw.out.trans (my.mono fw.out.size);have oL:=aa cP;have aU:=aa eC;clear aw my eC cP;go_wp2_with(refine cf rfl (.tmp 6) (.tmp 24) rfl w.heap.size ie none 0 0 0 rfl rfl (cv oL.out) (fun wK=>bL w wK/\dO wK w.heap.size ie none 0 0 0) ⟨aU.out.trans ((dW _ w.heap.size _ _ _ _ _ _ _ _).below aU.out.size (fun i e=>oM)),gn (cv oL.out) oL.out.2.2⟩ ?_;rintro w3 ⟨bC,⟨z0,z1,z2,z3,z4,z5,z6,z7⟩,-,-⟩;have jK:=aa bC;clear bC);exact ack (v:=.tuple #[oG,.bool false,i6 5]) (by simp[results,results104,go_sem,z0,z1,z2,z3,z4,z5,z6,z7,ie]) rfl ⟨rfl,jK.out⟩
end
section
open Go.RowKit Go.BigFrame
theorem dv.llt{b:Nat}{d:Rd}{a:Ra}{w:World}(h:dv b d a w)(aE:d.busy ≠ []){p:Addr}(hp:a.la=some p):p.block<w.heap.size:=by
 rcases h.eW.1 with e|⟨b',o',ha,hc⟩
 ·exact absurd e aE
 ·have GF:d.busy.length ≠ 0:=fun e=>aE (acd e)
  have:=al (hc 0 oM 0 oM);rw[ha] at hp;simp only[ace] at hp;subst hp;exact this
def m0:Rd:=⟨List.replicate 32 bE,List.replicate 32 bE,[],[]⟩
def Km:Ra:=⟨none,0,none,0⟩
theorem abd(w:World)(b:Nat)(h:w.heap[b]?=some (.cells (m0.cells Km).toArray 49 (0,0))):dv b m0 Km w where
 lu:=rfl
 dr:=rfl
 aW:=h
 jx:=acx _ _ _ _
 eW:=⟨il rfl,by simp[m0],by simp[m0]⟩
 ze:=fun _=>rfl
 qJ:=by simp[m0]
 ij:=fun h=>absurd rfl h
 iX:=fun p hp=>by cases hp
 reqs:=fun r hr=>by cases hr
 jX:=fun r hr=>by cases hr
 gL:=by simp[m0]
end
end Go.Proofs.YtlhgjplipgandaaGreatDoor
