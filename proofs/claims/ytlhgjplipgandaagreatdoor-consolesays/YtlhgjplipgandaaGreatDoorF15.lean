/- Joined. -/
import Derived.Test.YtlhgjplipgandaaGreatDoorF14
set_option maxRecDepth 100000
set_option maxHeartbeats 8000000
set_option linter.unusedSimpArgs false
set_option linter.unusedSectionVars false
namespace Go.Proofs.YtlhgjplipgandaaGreatDoor
open Tryz
section
open Go.RowKit Go.BigFrame
theorem MU(kp:Int)(l:List Pu)(k:Nat)(h:k<l.length)(G:List ByteArray):kU kp 0 (l.take (k+1)) G=if ng kp (k % 64)=true then(kU kp 0 (l.take k) G).set l[k].pl l[k].data else kU kp 0 (l.take k) G:=by
 rw[abz h,Dq,abm,ac1 oM,abc]
theorem dw.putAt{b:Nat}{d:Rd}{a:Ra}{w:World}(h:dw b d a w){k:Nat}(hk:k<d.waits.length):∃g,a.wa=some ⟨g,0,none⟩/\w.cell? ⟨g,k*2,none⟩=some (i6 d.waits[k].pl)/\w.cell? ⟨g,k*2+1,none⟩=some (.string d.waits[k].data):=by
 rcases h.jH.2 with⟨e,h0⟩|⟨g,cap,cur,e,hg,hh,_⟩
 ·omega
 ·simp only[abV] at e;obtain⟨e,_,_⟩:=e;have hl:=JB d.waits;have hw:=h.jH;rw[e] at hw;have h1:=hw.cellAt (k*2) oM;have h2:=hw.cellAt (k*2+1) oM;obtain⟨p1,p2⟩:=Ui d.waits k hk;exact⟨g,e,h1.trans p1,h2.trans p2⟩
theorem QP(b:Nat)(d:Rd)(a:Ra)(kp:Int)(_hkp:0<=kp/\kp<=18446744073709551615)(w:World)(h:dw b d a w)(hw0:d.waits.length<=1000000) :
 Calls prog 62 #[.pointer (some ⟨b,0,none⟩),.int .u64 kp] w fun e w'=>e=.returned (.tuple #[])/\dL b d a (d.fs kp) ⟨none,0,none,0⟩ w w':=by
 have HD:=ae h;clear h;go_enter func62,ntmps62;go_wp2_with fail
 go_loopw[4] (fun i wr=>∃k:Nat,k<=d.waits.length/\i=i6 k/\dL b d a { d with kept:=kU kp 0 (d.waits.take k) d.kept } a w wr) (fun i _=>d.waits.length-(intOf i).toNat)
 case atStart=>exact⟨0,oM,rfl,dL.same HD.out (aX _ _)⟩
 case round =>
  obtain⟨k,hk,rfl,hs⟩:=hrel;have AV:=ae hs;have pG:=hs.dev.pG;have lbr:=hs.dev.lt;simp only at pG;clear hs
  by_cases au:k<d.waits.length
  ·have gC:(k:Int)<(d.waits.length:Int):=oM;obtain⟨g,hg,p1,p2⟩:=AV.out.dev.putAt au;have hf:=HD.out.kn _ (aa5 au);have B2:=MU kp d.waits k au d.kept;simp only at p1 p2 hg;generalize d.waits[k]=x at *;have Ib:=ae B2;obtain⟨r,hr⟩:∃r:Nat,r=k % 64:=⟨_,rfl⟩
   have hrm:(k:Int).tmod 64=(r:Int):=by rw[afH oM];omega
   have hr64:r<64:=oM;have O4:IntKind.u64.wrap (k:Int)=(k:Int):=by rw[IntKind.wrap_u64];omega
   rw[<-hr] at Ib;rw[hg] at pG;clear B2 hr;have Ug:(x.pl:Int)<32:=oM
   cases uN:ng kp r
   ·have hJ:(bits BinOp.and IntKind.u64 (kp / 2 ^ r) 1==1)=false:=uN;have J5:=ae uN;clear uN;go_wp2;go_roundw
    case rel =>
     refine⟨k+1,oM,gN,?_⟩;rw[Ib.out,J5.out,aaP sM];exact AV.out
    case measure=>simp[intOf];omega
   ·have hJ:(bits BinOp.and IntKind.u64 (kp / 2 ^ r) 1==1)=true:=uN;have J5:=ae uN;have cK:=AV.out.dev.adP x.pl hf;have fK:=AV.out.dev.fz x.pl;have lg:=aq p1;have HS:Hid ((fun wz:World=>wz.cell? ⟨b,64,none⟩=some (.slice (some ⟨g,0,none⟩) d.waits.length a.wc)/\wz.cell? ⟨g,k*2,none⟩=some (i6 x.pl)/\wz.cell? ⟨g,k*2+1,none⟩=some (.string x.data)/\b<wz.heap.size/\wz.frozen? ⟨b,x.pl,none⟩=false/\∃u,wz.cell? ⟨b,x.pl,none⟩=some u) wr.drew):=⟨pG,p1,p2,lbr,fK,_,cK⟩
    have yg:(0:Int)<=(k:Int):=oM;have IV:(0:Int)<=(x.pl:Int):=oM;clear uN;go_wp2_with fail;refine eL (S:=fun wz:World=>wz.cell? ⟨b,64,none⟩=some (.slice (some ⟨g,0,none⟩) d.waits.length a.wc)/\wz.cell? ⟨g,k*2,none⟩=some (i6 x.pl)/\wz.cell? ⟨g,k*2+1,none⟩=some (.string x.data)/\b<wz.heap.size/\wz.frozen? ⟨b,x.pl,none⟩=false/\∃u,wz.cell? ⟨b,x.pl,none⟩=some u) (d:=20) kR ?_;refine tK 0 rfl HS.out ?_;(try simp only[Act.put,dP]);refine tK 1 rfl HS.out ?_;(try simp only[Act.put,dP]);refine tK 2 rfl HS.out ?_;(try simp only[Act.put,dP]);refine tK 3 rfl HS.out ?_;(try simp only[Act.put,dP]);refine tK 4 rfl HS.out ?_;(try simp only[Act.put,dP]);refine tK 5 rfl HS.out ?_;(try simp only[Act.put,dP]);refine tK 6 rfl HS.out ?_;(try simp only[Act.put,dP]);refine tK 7 rfl HS.out ?_;(try simp only[Act.put,dP]);refine tK 8 rfl HS.out ?_;(try simp only[Act.put,dP]);refine tK 9 rfl HS.out ?_;(try simp only[Act.put,dP]);refine tK 10 rfl HS.out ?_;(try simp only[Act.put,dP]);refine tK 11 rfl HS.out ?_;(try simp only[Act.put,dP]);refine tK 12 rfl HS.out ?_;(try simp only[Act.put,dP]);refine tK 13 rfl HS.out ?_;(try simp only[Act.put,dP]);refine tK 14 rfl HS.out ?_;(try simp only[Act.put,dP]);refine tK 15 rfl HS.out ?_;(try simp only[Act.put,dP]);refine tK 16 rfl HS.out ?_;(try simp only[Act.put,dP]);refine bn (i:=17) rfl kR ?_;intro K hK;go_simp;refine hK _ _ (fun _=>HS.out) ?_;(try simp only[Act.put,dP]);clear hK;refine bn (i:=18) rfl kR ?_;intro K hK;go_simp;refine hK _ _ (fun _=>HS.out) ?_;(try simp only[Act.put,dP]);clear hK;refine bn (i:=19) rfl kR ?_;intro K hK;go_simp;refine hK _ _ (fun _=>HS.out) ?_;(try simp only[Act.put,dP]);clear hK;refine bn (i:=20) rfl kR ?_;intro K hK;go_simp;refine hK _ _ (fun h=>absurd rfl h) ?_
    (try simp only[Act.put,dP])
    clear hK;refine fw kR ?_ _;go_wp2;go_roundw
    case rel =>
     refine⟨k+1,oM,gN,?_⟩;rw[Ib.out,aaV J5.out];exact(AV.out.trans (AV.out.dev.XO hf x.data)).pI
    case measure=>simp[intOf];omega
  ·have yh:k=d.waits.length:=oM;subst yh;rw[aff] at AV;have Wq:=AV.out.dev.lV;have S5:=AV.out.dev.aaz _ Wq;have S6:=S5.dev.Pf;have S7:=S6.dev.adl;have HE:Hid ((dx (kU kp 0 d.waits d.kept)).length=32):=by show _=_;rw[aS];exact Wq
   have f64:=S5.dev.fz 64;have x64:=S5.dev.pG;have f65:=S6.dev.fz 65;have x65:=S6.dev.j8;have rU:=ae (((AV.out.trans S5).trans S6).trans S7);simp only at f64 x64 f65 x65;clear S5 S6 S7 Wq;go_wp2_with(first|(refine wpList_load_mid rfl 45 (.tmp 44) rfl b 0 rfl (dx (kU kp 0 d.waits d.kept)) _ AV.out.dev.Uz underlying45 rfl (by rw[HE.out];exact rp) ?_)|(refine wpList_store_mid rfl 45 (.tmp 47) (.tmp 45) rfl b 32 (dx (kU kp 0 d.waits d.kept)).toArray rfl rfl (by rw[acB,HE.out];exact AV.out.dev.there 32 32 oM) (by rw[acB,HE.out];exact rp) (all_oneCell_toArray (xH _)) ?_;simp only));go_end0;exact⟨rfl,rU.out⟩
theorem dL.other{b:Nat}{d d':Rd}{a a':Ra}{w w' eZ:World}{q:Nat}(h:dL b d a d' a' w w')(hO:aH (fun k=>k=q) w' eZ)(hq:w.heap.size<=q)(nf:¬a'.ay b q)(nl:d'.busy ≠ []->∀p,a'.la=some p->p.block ≠ q)(nr:∀r∈d'.busy,r.dB (fun k=>k=q)):dL b d a d' a' w eZ :=
 ⟨h.dev.frame hO (fun k hk e=>nf (e▸hk)) nl nr,h.only.trans hO (fun i e=>ir (by subst e;exact hq)),h.ay,h.uU⟩
theorem UE(b:Nat)(d:Rd)(a:Ra)(i:Int)(fl:Bool)(w:World)(h:dw b d a w)(hi:i<0\/(d.busy.length:Int)<=i) :
 Calls prog 151 #[.pointer (some ⟨b,0,none⟩),i6 i,.bool fl] w (rB (.tuple #[px,i6 5]) w):=by
 have c:=h.j8;have hl:=h.lt;clear h;have hz:=eN w 151;have HZ:=ae hz;have HB:=ae (aA w (.cells #[.bool false,i6 0,i6 0,.slice none 0 0,.slice none 0 0,i6 0,.slice none 0 0,i6 0] 151));clear hz
 by_cases h0:i<0
 ·go_enter func151,ntmps151;go_wp2_with(refine cc rfl (.tmp 6) (.tmp 23) rfl w.heap.size iD none 0 0 0 rfl rfl (cw HZ.out) (fun wK=>bL w wK/\dI wK w.heap.size iD none 0 0 0) ⟨HB.out.trans ((dS _ w.heap.size _ _ _ _ _ _ _ _).below sM (fun i e=>oM)),gw (cw HZ.out) HZ.out.2.2⟩ ?_;rintro w3 ⟨bo,⟨z0,z1,z2,z3,z4,z5,z6,z7⟩,-,-⟩;have fi:=ae bo;clear bo);exact aaY (v:=.tuple #[px,i6 5]) (by simp[results,results151,go_sem,z0,z1,z2,z3,z4,z5,z6,z7,iD]) rfl ⟨rfl,fi.out⟩
 ·have h1:(d.busy.length:Int)<=i:=hi.resolve_left h0;go_enter func151,ntmps151;go_wp2_with(refine cc rfl (.tmp 6) (.tmp 23) rfl w.heap.size iD none 0 0 0 rfl rfl (cw HZ.out) (fun wK=>bL w wK/\dI wK w.heap.size iD none 0 0 0) ⟨HB.out.trans ((dS _ w.heap.size _ _ _ _ _ _ _ _).below sM (fun i e=>oM)),gw (cw HZ.out) HZ.out.2.2⟩ ?_;rintro w3 ⟨bo,⟨z0,z1,z2,z3,z4,z5,z6,z7⟩,-,-⟩;have fi:=ae bo;clear bo);exact aaY (v:=.tuple #[px,i6 5]) (by simp[results,results151,go_sem,z0,z1,z2,z3,z4,z5,z6,z7,iD]) rfl ⟨rfl,fi.out⟩
structure Out(b:Nat)(d:Rd)(a:Ra)(k:Nat)(r:Rq)(a':Ra)(w w4:World):Prop where
 step:dL b d a { d with busy:=d.busy.eraseIdx k } a' w w4
 zero:ns w4 w.heap.size
 box:hZ w4 (w.heap.size+1) r
 nf:∀q,w.heap.size<=q->¬a'.ay b q
 nl:∀p,a'.la=some p->w.heap.size+2<=p.block
 at':r.At w4
 off:r.dB (a'.ay b)
 same:a'.ay b=a.ay b
theorem Out.nr{b:Nat}{d:Rd}{a:Ra}{k:Nat}{r:Rq}{a':Ra}{w w4:World}(_h:Out b d a k r a' w w4)(hd:dw b d a w)(q:Nat)(hq:w.heap.size<=q):∀x∈d.busy.eraseIdx k,x.dB (fun j=>j=q):=fun x hx =>
 oP (hd.fb.2.1 x (abo hx)) (fun j e=>oM)
theorem BD{b:Nat}{d:Rd}{a:Ra}{w w2 w3:World}{k:Nat}(hk:k<d.busy.length)(h:dw b d a w)(hb:bL w w2)(hz:ns w2 w.heap.size)(hx:hZ w2 (w.heap.size+1) d.busy[k])(hs:w.heap.size+2<=w2.heap.size){x:Option Addr}{c:Nat}(bo:bL w2 w3)(hN:PB w2.heap.size w3 x c (d.busy.eraseIdx k)) :
 Out b d a k d.busy[k] { a with la:=x,lc:=c } w (w3.setCell ⟨b,65,none⟩ (.slice x (d.busy.eraseIdx k).length c)):=by
 have hl:=h.lt;have cZ:=h.wG (af hb bo) (d.busy.eraseIdx k) (by have:=h.gQ;rw[ab7];split<;>omega) x c hN.here hN.nil hN.cap (fun _ p hp=>by have:=hN.new p hp;omega) (fun r hr=>⟨h.fb.2.1 r (abo hr),h.reqs r (abo hr)⟩);have hO:aH (fun j=>j=b) w3 (w3.setCell ⟨b,65,none⟩ (.slice x (d.busy.eraseIdx k).length c)):=aH.xx _;have hm:=aa5 hk;exact {
  step:=cZ
  zero:=(hz.only (F:=fun _=>False) (aH.cj bo) (fun e=>e)).only hO oM
  box:=(hx.later bo).only hO oM
  nf:=fun q hq e=>by have:=h.bC q e;omega
  nl:=fun p hp=>by have:=hN.new p hp;omega
  at':=(h.fb.2.1 _ hm).frame (h.reqs _ hm) cZ.only
  off:=h.reqs _ hm
  same:=rfl }
theorem dw.LI{b:Nat}{d:Rd}{a:Ra}{w:World}(h:dw b d a w){k:Nat}(hk:k<d.busy.length):∃g o,a.la=some ⟨g,o,none⟩/\w.cell? ⟨g,o+k*6,none⟩=some (.bool d.busy[k].wr)/\w.cell? ⟨g,o+k*6+1,none⟩=some (i6 d.busy[k].f)/\w.cell? ⟨g,o+k*6+2,none⟩=some (i6 d.busy[k].m) /\
 w.cell? ⟨g,o+k*6+3,none⟩=some (.slice d.busy[k].da d.busy[k].data.length d.busy[k].dc)/\w.cell? ⟨g,o+k*6+4,none⟩=some (.slice d.busy[k].ta d.busy[k].tags.length d.busy[k].tc)/\w.cell? ⟨g,o+k*6+5,none⟩=some (i6 d.busy[k].born):=by
 have hl:=h.fb
 rcases hl.form with e|⟨g,o,e⟩
 ·rw[e] at hk;exact absurd hk (aa0 _)
 ·rw[e] at hl;exact⟨g,o,e,hl.cells hk⟩
theorem QR(b:Nat)(d:Rd)(a:Ra)(k:Nat)(hk:k<d.busy.length)(w:World)(h:dw b d a w) :
 Calls prog 151 #[.pointer (some ⟨b,0,none⟩),i6 k,.bool true] w fun e w'=>∃a',e=.returned (.tuple #[fg d.busy[k] none 0 0 8,i6 0])/\a'.wa=a.wa/\dL b d a { d with busy:=d.busy.eraseIdx k } a' w w':=by
 have hl:=h.lt;have HD:=ae h;have h0:¬(k:Int)<0:=oM;have h1:¬(d.busy.length:Int)<=(k:Int):=oM;have h2:(k:Int)<(d.busy.length:Int):=oM;have vw:(k:Int)<=1:=(by have:=h.gQ;omega);have c:=h.j8;obtain⟨g,o,oJ,r0,r1,r2,r3,r4,r5⟩:=h.LI hk;have hR:=h.fb;have bS:=h.rP;rw[oJ] at c hR;have HR:=ae (⟨hR,bS⟩:_/\_);have lg:=aq r0;have za:=ae h.gQ;clear h hR bS oJ;generalize hr:d.busy[k]=r at *;have qv:=ae hr;clear hr;go_enter func151,ntmps151;go_wp2_with fail;have cY:=jo w (.cells #[.bool false,i6 0,i6 0,.slice none 0 0,.slice none 0 0,i6 0,.slice none 0 0,i6 0] 151) (.cells #[.bool r.wr,i6 r.f,i6 r.m,.slice r.da r.data.length r.dc,.slice r.ta r.tags.length r.tc,i6 r.born] 146);refine(tz d.busy g o a.lc k _ (HR.out.1.later cY) (by have:=za.out;omega) HR.out.2 hk).mono ?_;rintro e w3 ⟨xa,xc,rfl,hN,bo⟩;have cF:=(eN w 151).only (F:=fun _=>False) ((aH.refl _ _).alloc (.cells #[.bool r.wr,i6 r.f,i6 r.m,.slice r.da r.data.length r.dc,.slice r.ta r.tags.length r.tc,i6 r.born] 146)) (fun e=>e);have kD:=mv (w.alloc (.cells #[.bool false,i6 0,i6 0,.slice none 0 0,.slice none 0 0,i6 0,.slice none 0 0,i6 0] 151)) 146 r;rw[aaW] at kD;have hO:=BD hk HD.out cY cF (by rw[qv.out];exact kD) sM bo hN;rw[qv.out] at hO;have c3:=(HD.out.later (af cY bo)).j8;have f3:=(HD.out.later (af cY bo)).fz 65;have l3:=(HD.out.later (af cY bo)).lt;have HO:=ae hO;clear cF kD hO hN bo cY r0 r1 r2 r3 r4 r5 c lg;obtain⟨x0,x1,x2,x3,x4,x5⟩:=id HO.out.box;generalize hW:w3.setCell ⟨b,65,none⟩ (.slice xa (d.busy.eraseIdx k).length xc)=w4 at *;go_wp2_with(refine cc rfl (.tmp 6) (.tmp 42) rfl w.heap.size r none 0 0 8 rfl rfl (cw HO.out.zero) (fun wK=>dL b d a { d with busy:=d.busy.eraseIdx k } { a with la:=xa,lc:=xc } w wK/\dI wK w.heap.size r none 0 0 8) ⟨HO.out.step.other (dS _ w.heap.size _ _ _ _ _ _ _ _) (aaO _) (HO.out.nf _ (aaO _)) (fun _ p hp=>by have:=HO.out.nl p hp;omega) (HO.out.nr HD.out _ (aaO _)),gw (cw HO.out.zero) HO.out.zero.2.2⟩ ?_;rintro w5 ⟨Bc,⟨z0,z1,z2,z3,z4,z5,z6,z7⟩,-,-⟩;have eO:=ae Bc;clear Bc);exact aaY (v:=.tuple #[fg r none 0 0 8,i6 0]) (by simp[results,results151,go_sem,z0,z1,z2,z3,z4,z5,z6,z7]) rfl ⟨{ a with la:=xa,lc:=xc },rfl,rfl,eO.out⟩
theorem MK(r:Rq)(g:bz r):∃F M:Nat,r.f=F/\r.m=M/\F+M<=32/\1<=M/\M<=4/\r.f.toNat=F/\r.m.toNat=M:=by
 have h1:=g.ok;simp only[gK,aba] at h1;exact⟨r.f.toNat,r.m.toNat,oM,oM,oM,oM,oM,rfl,rfl⟩
theorem ad1:(prog.info? 178).map (fun i=>(i.zero,i.size,i.bytes))=some (some (.agg #[i6 0,.string bE]),2,24):=kR
def LS(w:World)(q b j:Nat)(v:Value)(da:Option Addr)(n dc db o:Nat)(s:ByteArray):Prop:=w.cell? ⟨q,3,none⟩=some (.slice da n dc)/\w.cell? ⟨db,o,none⟩=some (.string s)/\b<w.heap.size/\w.cell? ⟨b,j,none⟩=some v/\w.frozen? ⟨b,j,none⟩=false
theorem LS.later{w w':World}{q b j:Nat}{v:Value}{da:Option Addr}{n dc db o:Nat}{s:ByteArray}(h:LS w q b j v da n dc db o s)(hb:bL w w'):LS w' q b j v da n dc db o s :=
 ⟨ea hb h.1,ea hb h.2.1,abF h.2.2.1 hb.size,ea hb h.2.2.2.1,by rw[hb.frozen (p:=⟨b,j,none⟩) h.2.2.1];exact h.2.2.2.2⟩
theorem dw.ae1{b:Nat}{d:Rd}{a:Ra}{w:World}(h:dw b d a w){p:Nat}(hp:p<32):w.cell? ⟨b,32+p,none⟩=some (.string (d.now.getD p bE))/\w.frozen? ⟨b,32+p,none⟩=false:=⟨h.GL p hp,h.fz _⟩
theorem QS(b:Nat)(d:Rd)(a:Ra)(k:Nat)(hk:k<d.busy.length)(w:World)(h:dw b d a w)(gr:bz d.busy[k])(hw:d.busy[k].wr=true)(K0:d.waits.length<=1000000) :
 Calls prog 151 #[.pointer (some ⟨b,0,none⟩),i6 k,.bool false] w fun e w'=>∃a',e=.returned (.tuple #[fg d.busy[k] none 0 0 0,i6 0])/\dL b d a (({ d with busy:=d.busy.eraseIdx k }:Rd).cL d.busy[k] d.busy[k].m.toNat) a' w w':=by
 have tL:(d.busy[k].data.length:Int)=d.busy[k].m:=by
  have:=gr.shape;simp only[kY,hw,afj,aba] at this;exact this
 have HW:=ae hw;have RH:=ae tL;have EV:=ae (MK _ gr);clear hw gr tL;have hl:=h.lt;have HD:=ae h;have h0:¬(k:Int)<0:=oM;have h1:¬(d.busy.length:Int)<=(k:Int):=oM;have h2:(k:Int)<(d.busy.length:Int):=oM;have vw:(k:Int)<=1:=(by have:=h.gQ;omega);have c:=h.j8;obtain⟨g,o,oJ,r0,r1,r2,r3,r4,r5⟩:=h.LI hk;have hR:=h.fb;have bS:=h.rP;rw[oJ] at c hR;have HR:=ae (⟨hR,bS⟩:_/\_);have lg:=aq r0;have za:=ae h.gQ;clear h hR bS oJ;generalize hr:d.busy[k]=r at *;have qv:=ae hr;clear hr;go_enter func151,ntmps151;go_wp2_with fail;have cY:=jo w (.cells #[.bool false,i6 0,i6 0,.slice none 0 0,.slice none 0 0,i6 0,.slice none 0 0,i6 0] 151) (.cells #[.bool r.wr,i6 r.f,i6 r.m,.slice r.da r.data.length r.dc,.slice r.ta r.tags.length r.tc,i6 r.born] 146);refine(tz d.busy g o a.lc k _ (HR.out.1.later cY) (by have:=za.out;omega) HR.out.2 hk).mono ?_;rintro e w3 ⟨xa,xc,rfl,hN,bo⟩;have cF:=(eN w 151).only (F:=fun _=>False) ((aH.refl _ _).alloc (.cells #[.bool r.wr,i6 r.f,i6 r.m,.slice r.da r.data.length r.dc,.slice r.ta r.tags.length r.tc,i6 r.born] 146)) (fun e=>e);have kD:=mv (w.alloc (.cells #[.bool false,i6 0,i6 0,.slice none 0 0,.slice none 0 0,i6 0,.slice none 0 0,i6 0] 151)) 146 r;rw[aaW] at kD;have hO:=BD hk HD.out cY cF (by rw[qv.out];exact kD) sM bo hN;rw[qv.out] at hO;have c3:=(HD.out.later (af cY bo)).j8;have f3:=(HD.out.later (af cY bo)).fz 65;have l3:=(HD.out.later (af cY bo)).lt;have HO:=ae hO;clear cF kD hO hN bo cY r0 r1 r2 r3 r4 r5 c lg;obtain⟨x0,x1,x2,x3,x4,x5⟩:=id HO.out.box;generalize hW:w3.setCell ⟨b,65,none⟩ (.slice xa (d.busy.eraseIdx k).length xc)=w4 at *;have Ic:=ae (id HO.out.box);have FD:=ae (eN w4 151);go_wp2_with(refine cc rfl (.tmp 9) (.tmp 44) rfl w4.heap.size r none 0 0 0 rfl rfl (cw FD.out) (fun wK=>bL w4 wK/\dI wK w4.heap.size r none 0 0 0) ⟨((aA w4 _)).trans ((dS _ w4.heap.size _ _ _ _ _ _ _ _).below sM (fun i e=>oM)),gw (cw FD.out) FD.out.2.2⟩ ?_;rintro w5 ⟨fm,Ty⟩;have iM:=ae fm;have Dm:=ae Ty;clear fm Ty);obtain⟨F,M,hF,hM,hFM,hM1,hM4,tF,tM⟩:=EV.out;have hD5:=HO.out.step.later iM.out;have Oy:=ae hD5;have dA:w.heap.size+1<w4.heap.size:=aq x0;have hx5:=Ic.out.later iM.out;have pg:=ae hx5;have HZ5:=ae (HO.out.zero.only (F:=fun _=>False) (aH.cj iM.out) (fun e=>e));have Bm:=ae (HO.out.at'.later iM.out);have Bc:w4.heap.size<w5.heap.size:=Dm.out.2.2;obtain⟨d1,nU⟩:∃d1:Rd,d1={ d with busy:=d.busy.eraseIdx k }:=⟨_,rfl⟩
 obtain⟨a1,uM⟩:∃a1:Ra,a1={ a with la:=xa,lc:=xc }:=⟨_,rfl⟩
 rw[<-nU,<-uM] at Oy;have tJ:=HO.out;rw[<-uM] at tJ;have ez:=ae tJ;have Lr:d1.waits.length<=1000000:=by rw[nU];exact K0
 have qN:=ae nU;have AT:=ae uM;have HQ:=ae (⟨hF,hM,tF,tM⟩:_/\_/\_/\_);clear nU uM tJ x0 x1 x2 x3 x4 x5 hD5 hx5 hF hM tF tM HO hW c3 f3 l3 FD
 go_loopw[10] (fun i wr=>∃(j:Nat) (a':Ra),j<=M/\i=i6 j/\(d1.cL r j).waits.length=d1.waits.length+j/\a'.la=a1.la/\dL b d1 a1 (d1.cL r j) a' w5 wr) (fun i _=>M-(intOf i).toNat)
 case atStart=>exact⟨0,a1,oM,rfl,rfl,rfl,dL.same Oy.out.dev (aX _ _)⟩
 case round =>
  obtain⟨j,a',hj,rfl,hwj,Tq,hs⟩:=hrel;have HLA:=ae Tq;have ck:=ae hs;have HWJ:=ae hwj;have cA:=pg.out.only hs.only (fun e=>by have:=ez.out.nf (w.heap.size+1) oM;exact this e);have lb:=hs.dev.lt;have kG:=ae cA;obtain⟨x0,x1,x2,x3,x4,x5⟩:=cA;rw[HW.out] at x0;rw[HQ.out.1] at x1;rw[HQ.out.2.1] at x2;have l1:=aq x0;clear hs hwj Tq
  by_cases au:j<M
  ·have gC:(j:Int)<(M:Int):=oM;have r9:j<r.data.length:=by have:=RH.out;have:=HQ.out.2.1;omega
   have acD:(j:Int)<(r.data.length:Int):=oM;have uQ:(0:Int)<=(j:Int):=oM;obtain⟨P,hP⟩:∃P:Nat,P=F+j:=⟨_,rfl⟩
   have hPi:(F:Int)+(j:Int)=(P:Int):=oM;have Ee:P<32:=oM;have adV:(P:Int)<32:=oM;have hP0:(0:Int)<=(P:Int):=oM;have eB:=Bm.out.frame ez.out.off ck.out.only;obtain⟨db,nS,DH,O5⟩:∃db nS,r.da=some ⟨db,nS,none⟩/\wr.cell? ⟨db,nS+j,none⟩=some (.string (r.data.getD j bE)):=by
    rcases eB.data with h|⟨db,o,h,hc⟩
    ·rw[h] at r9;exact absurd r9 (aa0 _)
    ·exact⟨db,o,h,hc j r9⟩
   have iJ:=ae eB;obtain⟨s,FC⟩:∃s,s=r.data.getD j bE:=⟨_,rfl⟩
   have OK:=ae FC;rw[<-FC] at O5;rw[DH] at x3;obtain⟨n1,n2⟩:=ck.out.dev.ae1 Ee;obtain⟨Zf,hold⟩:∃Zf,(d1.cL r j).now.getD P bE=Zf:=⟨_,rfl⟩
   rw[hold] at n1;have HPF:=ae hP;have HDA:=ae DH;have ldb:=aq O5;clear eB FC hold hP DH;have HS:Hid (LS wr.drew (w.heap.size+1) b (32+P) (.string Zf) (some ⟨db,nS,none⟩) r.data.length r.dc db (nS+j) s):=⟨x3,O5,lb,n1,n2⟩
   go_wp2_with fail;refine eL (S:=fun wz=>LS wz (w.heap.size+1) b (32+P) (.string Zf) (some ⟨db,nS,none⟩) r.data.length r.dc db (nS+j) s) (d:=10) kR ?_;refine tK 0 rfl HS.out ?_;(try simp only[Act.put,dP]);refine tK 1 rfl HS.out ?_;(try simp only[Act.put,dP]);refine tK 2 rfl HS.out ?_;(try simp only[Act.put,dP]);refine tK 3 rfl HS.out ?_;(try simp only[Act.put,dP]);refine tK 4 rfl HS.out ?_;(try simp only[Act.put,dP]);refine tK 5 rfl HS.out ?_;(try simp only[Act.put,dP]);refine tK 6 rfl HS.out ?_;(try simp only[Act.put,dP]);refine bn (i:=7) rfl kR ?_;intro K hK;go_simp;refine hK _ _ (fun _=>HS.out) ?_;(try simp only[Act.put,dP]);clear hK;refine bn (i:=8) rfl kR ?_;intro K hK;go_simp;refine hK _ _ (fun _=>HS.out) ?_;(try simp only[Act.put,dP]);clear hK;refine bn (i:=9) rfl kR ?_;intro K hK;go_simp;refine hK _ _ (fun _=>HS.out) ?_;(try simp only[Act.put,dP]);clear hK;refine bn (i:=10) rfl kR ?_;intro K hK;go_simp;refine hK _ _ (fun h=>absurd rfl h) ?_;(try simp only[Act.put,dP]);clear hK;refine fw kR ?_ _;go_wp2_with fail;have pS:=(ck.out.trans (ck.out.dev.aay Ee s)).pI;refine ei (fun wK=>dL b d1 a1 { d1.cL r j with now:=(d1.cL r j).now.set P s } a' w5 wK) pS ?_;clear pS HS n1 n2 x0 x1 x2 x3 x4 x5 O5 lb l1 ldb iJ kG;intro w6 pS;have mA:=ae pS;have cA:=pg.out.only pS.only (fun e=>by have:=ez.out.nf (w.heap.size+1) oM;exact this e);have lb:=pS.dev.lt;obtain⟨x0,x1,x2,x3,x4,x5⟩:=cA;rw[HDA.out] at x3;have eB:=Bm.out.frame ez.out.off pS.only;have O5:w6.cell? ⟨db,nS+j,none⟩=some (.string s):=by
    rcases eB.data with h|⟨db2,o2,h,hc⟩
    ·rw[h] at r9;exact absurd r9 (aa0 _)
    ·rw[HDA.out] at h;simp only[aa4,aci,acS] at h;obtain⟨rfl,rfl⟩:=h;rw[OK.out];exact hc j r9
   have pG:=pS.dev.pG;have f64:=pS.dev.fz 64;have Eh:=pS.dev.kn;have ac2:=ae pS.dev.jH;have hwn:=HWJ.out;simp only at pG Eh ac2;have Vy:=ae Eh;generalize hN:(d1.cL r j).waits=W at *;have HN:=ae hN;obtain⟨iP,hi,de,cC,cF⟩:=eS ad1;have HI:=ae (⟨hi,de,cC,cF⟩:prog.info? 178=some iP/\_/\_/\_);have hWb:W.length<=1000010:=oM;have HWB:=ae hWb;have HS:Hid (LS w6.drew (w.heap.size+1) b 64 (.slice a'.wa W.length a'.wc) (some ⟨db,nS,none⟩) r.data.length r.dc db (nS+j) s):=⟨x3,O5,lb,pG,f64⟩
   clear pS eB Eh hwn hN hi de cC cF hWb;refine eL (S:=fun wz=>LS wz (w.heap.size+1) b 64 (.slice a'.wa W.length a'.wc) (some ⟨db,nS,none⟩) r.data.length r.dc db (nS+j) s) (d:=16) kR ?_;refine tK 0 rfl HS.out ?_;(try simp only[Act.put,dP]);refine tK 1 rfl HS.out ?_;(try simp only[Act.put,dP]);refine tK 2 rfl HS.out ?_;(try simp only[Act.put,dP]);refine tK 3 rfl HS.out ?_;(try simp only[Act.put,dP]);refine tK 4 rfl HS.out ?_;(try simp only[Act.put,dP]);refine tK 5 rfl HS.out ?_;(try simp only[Act.put,dP]);refine tK 6 rfl HS.out ?_;(try simp only[Act.put,dP]);refine tK 7 rfl HS.out ?_;(try simp only[Act.put,dP]);refine tK 8 rfl HS.out ?_;(try simp only[Act.put,dP]);refine tK 9 rfl HS.out ?_;(try simp only[Act.put,dP]);refine tK 10 rfl HS.out ?_;(try simp only[Act.put,dP]);refine tK 11 rfl HS.out ?_;(try simp only[Act.put,dP]);refine bn (i:=12) rfl kR ?_;intro K hK;go_simp;refine hK _ _ (fun _=>HS.out.later (aA _ _)) ?_;(try simp only[Act.put,dP]);clear hK;refine bn (i:=13) rfl kR ?_;intro K hK;refine yD rfl (.tmp 73) (.tmp 81) 46 rfl 0 178 iP _ 2 24 underlying46 HI.out.1 HI.out.2.1 HI.out.2.2.1 HI.out.2.2.2 rfl dM (.slice a'.wa W.length a'.wc) W.length (mK W) rfl (F7 ac2.out bQ) ⟨w6.heap.size,0,none⟩ 1 1 [i6 P,.string s] rfl rfl (fun i u hi=>ug rfl _ _ i u hi) (by simp[Value.oneCell']) oM (by have:=HWB.out;unfold maxLen;omega) (by have:=HWB.out;omega) (ach _) ?_;intro v7 w7 Au O6 hv7;have KY:aH (fun k=>∃p,a'.wa=some p/\k=p.block) (w6.alloc (.cells #[i6 P,.string s] 178)).drew w7:=⟨O6.os,O6.tape,O6.output,O6.size,fun k hk hn=>O6.block k hk (fun e=>hn (bG.1 e.symm))⟩
   obtain⟨x7,c7,e7,acW⟩:=mA.out.dev.Pl (w2:=(w6.alloc (.cells #[i6 P,.string s] 178)).drew) bQ (W++[⟨P,s⟩]) (fun x hx=>by rcases abh.1 hx with nc|nc;exact Vy.out x nc;(rw[abq.1 nc];exact Ee)) (by rw[Np,aaQ];exact Au) KY (fun g hg=>by
    rcases hv7 with hv|hv
    ·rw[hv] at hg;exact il (bG.1 hg)
    ·rw[hv] at hg;exact ir (afM (abY hg)))
   subst e7;have HS8:=ae (mA.out.trans acW);have l7:LS w7 (w.heap.size+1) b 64 (.slice a'.wa W.length a'.wc) (some ⟨db,nS,none⟩) r.data.length r.dc db (nS+j) s:=by
    have l6:=LS.later (w:=w6) HS.out (w':=(w6.alloc (.cells #[i6 P,.string s] 178)).drew) bQ;have ae3:r.dB (a'.ay b):=Rq.dB.step Bm.out ez.out.off mA.out.ay;have aE:r.data ≠ []:=fun e=>by rw[e] at r9;exact absurd r9 (aa0 _)
    have nq:¬∃p,a'.wa=some p/\w.heap.size+1=p.block:=fun e=>by
     rcases mA.out.ay (w.heap.size+1) (ir e) with h'|h'
     ·exact ez.out.nf _ oM h'
     ·omega
    have nb:¬∃p,a'.wa=some p/\b=p.block:=fun⟨p,hp,e⟩=>mA.out.dev.jl p hp e.symm
    have nd:¬∃p,a'.wa=some p/\db=p.block:=fun e=>ae3.1 aE _ HDA.out (ir e)
    exact⟨(KY.cell (p:=⟨w.heap.size+1,3,none⟩) (aq l6.1) nq).trans l6.1,(KY.cell (p:=⟨db,nS+j,none⟩) (aq l6.2.1) nd).trans l6.2.1,abF l6.2.2.1 KY.size,(KY.cell (p:=⟨b,64,none⟩) l6.2.2.1 nb).trans l6.2.2.2.1,(KY.frozen (p:=⟨b,64,none⟩) l6.2.2.1 nb).trans l6.2.2.2.2⟩
   have rU:=ae l7;clear Au O6 hv7 KY acW l7;refine hK _ _ (fun _=>rU.out) ?_
   (try simp only[Act.put,dP])
   clear hK;refine bn (i:=14) rfl kR ?_;intro K hK;go_simp;refine hK _ _ (fun _=>rU.out) ?_;(try simp only[Act.put,dP]);clear hK;refine bn (i:=15) rfl kR ?_;intro K hK;go_simp;refine hK _ _ (fun _=>rU.out) ?_;(try simp only[Act.put,dP]);clear hK;obtain⟨-,-,s2,s3,s4⟩:=id rU.out;refine bn (i:=16) rfl kR ?_;intro K hK;go_simp;refine hK _ _ (fun h=>absurd rfl h) ?_;(try simp only[Act.put,dP]);clear hK;refine fw kR ?_ _;go_wp2;go_roundw
   case rel =>
    have e1:d1.cL r (j+1)={ { d1.cL r j with now:=(d1.cL r j).now.set P s } with waits:=W++[⟨P,s⟩] }:=by
     rw[Rd.fJ,HQ.out.2.2.1,<-HPF.out,<-OK.out,<-HN.out]
     rfl
    refine⟨j+1,{ a' with wa:=x7,wc:=c7 },oM,gN,?_,HLA.out,?_⟩
    ·rw[e1];show(W++[(⟨P,s⟩:Pu)]).length=_;rw[aaQ,abl];have:=HWJ.out
     omega
    ·rw[e1];have:=HS8.out;rw[aaQ,abl] at this;exact this
   case measure=>simp[intOf];omega
  ·have hjM:j=M:=oM;subst hjM;have YZ:=Dm.out.only ck.out.only (ez.out.nf _ oM);have TG:=HZ5.out.only ck.out.only (ez.out.nf _ (aaO _));obtain⟨⟨y0,y1,y2,y3,y4,y5,y6,y7⟩,-,yl⟩:=YZ;have Ko:=ae TG;have qX:¬a'.ay b w.heap.size:=fun e=>by
    rcases ck.out.ay _ e with h'|h'
    ·exact ez.out.nf _ (aaO _) h'
    ·omega
   have ES:=ae qX;have HSE:=ae (Oy.out.trans ck.out);have lK:Hid ((d1.cL r j).busy=d.busy.eraseIdx k):=by show _=_;rw[Rd.oT,qN.out]
   clear TG x0 x1 x3 x4 x5 qX;go_wp2_with(refine cc rfl (.tmp 6) (.tmp 96) rfl w.heap.size r none 0 0 0 rfl rfl (cw Ko.out) (fun wK=>dL b d a (d1.cL r j) a' w wK/\dI wK w.heap.size r none 0 0 0) ⟨HSE.out.other (dS _ w.heap.size _ _ _ _ _ _ _ _) (aaO _) ES.out (fun _ p hp=>by rw[HLA.out] at hp;have:=ez.out.nl p hp;omega) (by rw[lK.out];exact ez.out.nr HD.out _ (aaO _)),gw (cw Ko.out) Ko.out.2.2⟩ ?_;rintro w9 ⟨Tz,⟨z0,z1,z2,z3,z4,z5,z6,z7⟩,-,-⟩;have Ym:=ae Tz;clear Tz);refine aaY (v:=.tuple #[fg r none 0 0 0,i6 0]) (by simp[results,results151,go_sem,z0,z1,z2,z3,z4,z5,z6,z7]) rfl ⟨a',rfl,?_⟩;rw[HQ.out.2.2.2,<-qN.out];exact Ym.out
def jJ(d:Rd)(f n:Nat):List ByteArray:=(List.range n).map fun j=>d.now.getD (f+j) bE
theorem Mn(d:Rd)(f n:Nat):jJ d f (n+1)=jJ d f n++[d.now.getD (f+n) bE]:=by simp[jJ,afU]
theorem zK(d:Rd)(f n:Nat):(jJ d f n).length=n:=by simp[jJ]
theorem aH.Uc{a b:World}{B:Nat}(h:Below B a b):aH (fun k=>B<=k) a b:=⟨h.os,h.tape,h.output,h.size,fun i _ hn=>h.block i oM⟩
theorem aaq{w:World}{q n xc n' xc':Nat}{r:Rq}{xa xa':Option Addr}{er:Int}(h:dI w q r xa n xc er):dI (w.setCell ⟨q,6,none⟩ (.slice xa' n' xc')) q r xa' n' xc' er:=by
 obtain⟨⟨h0,h1,h2,h3,h4,h5,h6,h7⟩,ht,hl⟩:=h;have k:∀o,o ≠ 6->(w.setCell ⟨q,6,none⟩ (.slice xa' n' xc')).cell? ⟨q,o,none⟩=w.cell? ⟨q,o,none⟩:=fun o ho=>aa6 _ _ _ _ (fun e=>ho (by injection e with _ e2 _;exact e2.symm))
 refine⟨⟨(k 0 oM).trans h0,(k 1 oM).trans h1,(k 2 oM).trans h2,(k 3 oM).trans h3,(k 4 oM).trans h4,(k 5 oM).trans h5,?_,(k 7 oM).trans h7⟩,?_,by simpa [World.setCell] using hl⟩
 ·exact World.rangeAt_setCells_same w q 6 [.slice xa' n' xc'] (fun j hj=>by have:=ht (6+j) (by simp at hj;omega);rw[abc] at this;exact this) 0 _ rfl
 ·exact World.there_setCells ht q 6 [.slice xa' n' xc']
def LR(w:World)(q b p:Nat)(v:Value)(s:ByteArray):Prop:=w.cell? ⟨q,6,none⟩=some v/\w.cell? ⟨b,32+p,none⟩=some (.string s)/\b<w.heap.size/\w.frozen? ⟨q,6,none⟩=false
theorem LR.below{w w':World}{q b p B:Nat}{v:Value}{s:ByteArray}(h:LR w q b p v s)(hb:Below B w w')(hq:q<B)(hJ:b<B):LR w' q b p v s :=
 ⟨(hb.cell (p:=⟨q,6,none⟩) hq).trans h.1,(hb.cell (p:=⟨b,32+p,none⟩) hJ).trans h.2.1,abF h.2.2.1 hb.size,(hb.frozen (p:=⟨q,6,none⟩) hq).trans h.2.2.2⟩
theorem UF(b:Nat)(d:Rd)(a:Ra)(k:Nat)(hk:k<d.busy.length)(w:World)(h:dw b d a w)(gr:bz d.busy[k])(hw:d.busy[k].wr=false) :
 Calls prog 151 #[.pointer (some ⟨b,0,none⟩),i6 k,.bool false] w fun e w'=>∃a' xa xc,e=.returned (.tuple #[fg d.busy[k] xa (jJ d d.busy[k].f.toNat d.busy[k].m.toNat).length xc 0,i6 0])/\StrsAt w' xa (jJ d d.busy[k].f.toNat d.busy[k].m.toNat)/\(xa=none->xc=0)/\(∀ad,xa=some ad->w.heap.size<=ad.block/\¬a'.ay b ad.block)/\dL b d a { d with busy:=d.busy.eraseIdx k } a' w w':=by
 have HW:=ae hw;have EV:=ae (MK _ gr);clear hw gr;have hl:=h.lt;have HD:=ae h;have h0:¬(k:Int)<0:=oM;have h1:¬(d.busy.length:Int)<=(k:Int):=oM;have h2:(k:Int)<(d.busy.length:Int):=oM;have vw:(k:Int)<=1:=(by have:=h.gQ;omega);have c:=h.j8;obtain⟨g,o,oJ,r0,r1,r2,r3,r4,r5⟩:=h.LI hk;have hR:=h.fb;have bS:=h.rP;rw[oJ] at c hR;have HR:=ae (⟨hR,bS⟩:_/\_);have lg:=aq r0;have za:=ae h.gQ;clear h hR bS oJ;generalize hr:d.busy[k]=r at *;have qv:=ae hr;clear hr;go_enter func151,ntmps151;go_wp2_with fail;have cY:=jo w (.cells #[.bool false,i6 0,i6 0,.slice none 0 0,.slice none 0 0,i6 0,.slice none 0 0,i6 0] 151) (.cells #[.bool r.wr,i6 r.f,i6 r.m,.slice r.da r.data.length r.dc,.slice r.ta r.tags.length r.tc,i6 r.born] 146);refine(tz d.busy g o a.lc k _ (HR.out.1.later cY) (by have:=za.out;omega) HR.out.2 hk).mono ?_;rintro e w3 ⟨xa,xc,rfl,hN,bo⟩;have cF:=(eN w 151).only (F:=fun _=>False) ((aH.refl _ _).alloc (.cells #[.bool r.wr,i6 r.f,i6 r.m,.slice r.da r.data.length r.dc,.slice r.ta r.tags.length r.tc,i6 r.born] 146)) (fun e=>e);have kD:=mv (w.alloc (.cells #[.bool false,i6 0,i6 0,.slice none 0 0,.slice none 0 0,i6 0,.slice none 0 0,i6 0] 151)) 146 r;rw[aaW] at kD;have hO:=BD hk HD.out cY cF (by rw[qv.out];exact kD) sM bo hN;rw[qv.out] at hO;have c3:=(HD.out.later (af cY bo)).j8;have f3:=(HD.out.later (af cY bo)).fz 65;have l3:=(HD.out.later (af cY bo)).lt;have HO:=ae hO;clear cF kD hO hN bo cY r0 r1 r2 r3 r4 r5 c lg;obtain⟨x0,x1,x2,x3,x4,x5⟩:=id HO.out.box;generalize hW:w3.setCell ⟨b,65,none⟩ (.slice xa (d.busy.eraseIdx k).length xc)=w4 at *;have Ic:=ae (id HO.out.box);have FD:=ae (eN w4 151);go_wp2_with(refine cc rfl (.tmp 9) (.tmp 44) rfl w4.heap.size r none 0 0 0 rfl rfl (cw FD.out) (fun wK=>bL w4 wK/\dI wK w4.heap.size r none 0 0 0) ⟨((aA w4 _)).trans ((dS _ w4.heap.size _ _ _ _ _ _ _ _).below sM (fun i e=>oM)),gw (cw FD.out) FD.out.2.2⟩ ?_;rintro w5 ⟨fm,Ty⟩;have iM:=ae fm;have Dm:=ae Ty;clear fm Ty);obtain⟨F,M,hF,hM,hFM,hM1,hM4,tF,tM⟩:=EV.out;have dA:w.heap.size+1<w4.heap.size:=aq x0;have fk:=HO.out.step.dev.lt;obtain⟨d1,nU⟩:∃d1:Rd,d1={ d with busy:=d.busy.eraseIdx k }:=⟨_,rfl⟩
 obtain⟨a1,uM⟩:∃a1:Ra,a1={ a with la:=xa,lc:=xc }:=⟨_,rfl⟩
 have wR:=HO.out.step;rw[<-nU,<-uM] at wR;have gD:=ae wR;have tJ:=HO.out;rw[<-uM] at tJ;have ez:=ae tJ;have DM:∀n,jJ d F n=jJ d1 F n:=fun n=>by rw[nU];rfl
 have qN:=ae nU;have Yl:=ae DM;have HQ:=ae (⟨hF,hM,tF,tM⟩:_/\_/\_/\_);obtain⟨iS,hi,de,cC,cF⟩:=eS yr;have HI:=ae (⟨hi,de,cC,cF⟩:prog.info? 9=some iS/\_/\_/\_);clear nU uM tJ wR DM x0 x1 x2 x3 x4 x5 hF hM tF tM HO hW c3 f3 l3 FD hi de cC cF
 go_loopw[10] (fun i wr=>∃(j:Nat) (xa:Option Addr) (xc:Nat),j<=M/\i=i6 j/\dI wr w4.heap.size r xa j xc 0/\wr.ownsRow (w4.heap.size+1) 9 1 (.slice xa j xc) j (dx (jJ d1 F j))/\bL w4 wr) (fun i _=>M-(intOf i).toNat)
 case atStart=>exact⟨0,none,0,oM,rfl,Dm.out,abg _ _ _ _,iM.out⟩
 case round =>
  clear iM Dm;obtain⟨j,xa,xc,hj,rfl,YZ,bu,hB⟩:=hrel;have HRE:=ae YZ;have Kf:=ae bu;have HB:=ae hB;obtain⟨⟨y0,y1,y2,y3,y4,y5,y6,y7⟩,yt,yl⟩:=YZ;obtain⟨x0,x1,x2,x3,x4,x5⟩:=Ic.out.later hB;have BU:=gD.out.dev.later hB;have lb:=BU.lt;rw[HW.out] at x0;rw[HQ.out.1] at x1;rw[HQ.out.2.1] at x2
  by_cases au:j<M
  ·have gC:(j:Int)<(M:Int):=oM;obtain⟨P,hP⟩:∃P:Nat,P=F+j:=⟨_,rfl⟩
   have hPi:(F:Int)+(j:Int)=(P:Int):=oM;have Ee:P<32:=oM;have adV:(P:Int)<32:=oM;have hP0:(0:Int)<=(P:Int):=oM;have cn:=BU.GL P Ee;obtain⟨s,FC⟩:∃s,d1.now.getD P bE=s:=⟨_,rfl⟩
   rw[FC] at cn;have OK:=ae FC;have HPF:=ae hP;have f6:wr.frozen? ⟨w4.heap.size,6,none⟩=false:=by have:=(yt 6 oM).2;rw[abc] at this;exact this
   have HS:Hid (LR wr.drew w4.heap.size b P (.slice xa j xc) s):=⟨y6,cn,lb,f6⟩
   have HYL:=ae yl;clear FC hP yt BU bu hB y0 y1 y2 y3 y4 y5 y7;go_wp2_with fail;refine eL (S:=fun wz=>LR wz w4.heap.size b P (.slice xa j xc) s) (d:=11) kR ?_;refine tK 0 rfl HS.out ?_;(try simp only[Act.put,dP]);refine tK 1 rfl HS.out ?_;(try simp only[Act.put,dP]);refine tK 2 rfl HS.out ?_;(try simp only[Act.put,dP]);refine tK 3 rfl HS.out ?_;(try simp only[Act.put,dP]);refine tK 4 rfl HS.out ?_;(try simp only[Act.put,dP]);refine tK 5 rfl HS.out ?_;(try simp only[Act.put,dP]);refine tK 6 rfl HS.out ?_;(try simp only[Act.put,dP]);refine tK 7 rfl HS.out ?_;(try simp only[Act.put,dP]);refine bn (i:=8) rfl kR ?_;intro K hK;go_simp;refine hK _ _ (fun _=>HS.out.below (aA _ _) yl lb) ?_;(try simp only[Act.put,dP]);clear hK;refine bn (i:=9) rfl kR ?_;intro K hK;refine kF rfl (.tmp 86) (.tmp 93) 51 rfl (w4.heap.size+1) 9 iS _ 1 16 underlying51 HI.out.1 HI.out.2.1 HI.out.2.2.1 HI.out.2.2.2 rfl dM (.slice xa j xc) j (dx (jJ d1 F j)) rfl (F7 Kf.out bQ) (some ⟨wr.heap.size,0,none⟩) 1 1 [.string s] rfl ⟨rfl,by simp[Value.oneCell'],ir ⟨_,rfl,fun i u hi=>ug rfl _ _ i u hi⟩⟩ (by unfold maxLen;omega) oM (by have:=HYL.out;simp;omega) ?_;intro v7 w7 Au II;have P5:Below (w4.heap.size+1) wr w7:=adh (((aX _ _).alloc oM _).drew) II;obtain⟨x7,c7,rfl,-⟩:=iA Au;have hr7:=HRE.out.only (aH.Uc P5) oM;have l7:LR w7 w4.heap.size b P (.slice xa j xc) s:=LR.below (w:=wr) HS.out P5 oM oM;have hq7:(Value.slice x7 (j+1) c7).ownBlock ≠ some w4.heap.size:=fun e=>by have:=(Au.lt _ e).1;omega
   have HR8:=ae (aaq (xa':=x7) (n':=j+1) (xc':=c7) hr7);have HO8:=ae (dR (w':=w7.setCell ⟨w4.heap.size,6,none⟩ (.slice x7 (j+1) c7)) Au (fun g hg=>mN _ _ (fun e=>hq7 (e▸hg))));have RE:=ae ((HB.out.trans (P5.mono oM)).setCell (p:=⟨w4.heap.size,6,none⟩) (aaO _) (.slice x7 (j+1) c7));have rU:=ae l7;clear Au II P5 hr7 l7 hq7;refine hK _ _ (fun _=>rU.out) ?_
   (try simp only[Act.put,dP])
   clear hK;refine bn (i:=10) rfl kR ?_;intro K hK;go_simp;refine hK _ _ (fun _=>rU.out) ?_;(try simp only[Act.put,dP]);clear hK;obtain⟨s0,-,-,s3⟩:=id rU.out;refine bn (i:=11) rfl kR ?_;intro K hK;go_simp;refine hK _ _ (fun h=>absurd rfl h) ?_;(try simp only[Act.put,dP]);clear hK;refine fw kR ?_ _;go_wp2;go_roundw
   case rel =>
    refine⟨j+1,x7,c7,oM,gN,HR8.out,?_,RE.out⟩;have e1:dx (jJ d1 F (j+1))=dx (jJ d1 F j)++[.string s]:=by rw[Mn,<-HPF.out,OK.out];simp[dx]
    rw[e1];exact HO8.out
   case measure=>simp[intOf];omega
  ·have hjM:j=M:=oM;subst hjM;have TG:=ez.out.zero.only (F:=fun _=>False) (aH.cj hB) (fun e=>e);have Ko:=ae TG;have HSE:=ae (gD.out.later hB);obtain⟨ya,yc,e1,cZ,oK,qx⟩:=zR bu (zK _ _ _).symm;simp only[abV] at e1;obtain⟨rfl,-,rfl⟩:=e1;have Ll:∀ad,xa=some ad->ad.block ≠ w.heap.size:=fun ad e=>by have:=qx ad e;omega
   have aL:=ae (⟨cZ,oK,qx,Ll⟩:_/\_/\_/\_);have lK:Hid (d1.busy=d.busy.eraseIdx k):=by show _=_;rw[qN.out]
   clear cZ oK qx Ll bu TG yt BU hB;go_wp2_with(refine cc rfl (.tmp 6) (.tmp 96) rfl w.heap.size r xa j xc 0 rfl rfl (cw Ko.out) (fun wK=>(StrsAt wK xa (jJ d1 F j)/\dL b d a d1 a1 w wK)/\dI wK w.heap.size r xa j xc 0) ⟨⟨gV aL.out.1 (dS _ w.heap.size _ _ _ _ _ _ _ _) (fun _ ad e=>aL.out.2.2.2 ad e),HSE.out.other (dS _ w.heap.size _ _ _ _ _ _ _ _) (aaO _) (ez.out.nf _ (aaO _)) (fun _ p hp=>by have:=ez.out.nl p hp;omega) (by rw[lK.out];exact ez.out.nr HD.out _ (aaO _))⟩,gw (cw Ko.out) Ko.out.2.2⟩ ?_;rintro w9 ⟨Tz,⟨z0,z1,z2,z3,z4,z5,z6,z7⟩,-,-⟩;have Ym:=ae Tz;clear Tz);refine aaY (v:=.tuple #[fg r xa j xc 0,i6 0]) (by simp[results,results151,go_sem,z0,z1,z2,z3,z4,z5,z6,z7]) rfl ⟨a1,xa,xc,?_,?_,aL.out.2.1,fun ad e=>⟨by have:=aL.out.2.2.1 ad e;omega,ez.out.nf _ (by have:=aL.out.2.2.1 ad e;omega)⟩,?_⟩
   ·rw[zK,HQ.out.2.2.2]
   ·rw[HQ.out.2.2.1,HQ.out.2.2.2,Yl.out];exact Ym.out.1
   ·rw[<-qN.out];exact Ym.out.2
def rR(d:Rd)(r:Rq):List ByteArray:=if r.wr=true then [] else jJ d r.f.toNat r.m.toNat
theorem Xs(b:Nat)(d:Rd)(a:Ra)(k:Nat)(hk:k<d.busy.length)(w:World)(h:dw b d a w)(gr:bz d.busy[k])(K0:d.waits.length<=1000000) :
 Calls prog 151 #[.pointer (some ⟨b,0,none⟩),i6 k,.bool false] w fun e w'=>∃a' xa xc xs,e=.returned (.tuple #[fg d.busy[k] xa (List.length xs) xc 0,i6 0])/\Hid (xs=rR d d.busy[k])/\StrsAt w' xa xs/\(∀ad,xa=some ad->w.heap.size<=ad.block/\¬a'.ay b ad.block)/\dL b d a (({ d with busy:=d.busy.eraseIdx k }:Rd).cr d.busy[k]) a' w w':=by
 by_cases hw:d.busy[k].wr=true
 ·refine(QS b d a k hk w h gr hw K0).mono ?_;rintro e w' ⟨a',rfl,hs⟩;refine⟨a',none,0,[],rfl,?_,il rfl,(fun ad e=>by cases e),?_⟩
  ·show []=_;rw[rR,aaV hw]
  ·rw[Rd.cr,aaV hw];exact hs
 ·refine(UF b d a k hk w h gr (by simpa using hw)).mono ?_;rintro e w' ⟨a',xa,xc,rfl,h1,-,h2,hs⟩;refine⟨a',xa,xc,_,rfl,?_,h1,h2,?_⟩
  ·show _=_;rw[rR,aaP hw]
  ·rw[Rd.cr,aaP hw];exact hs
end
section
open Go.RowKit Go.BigFrame Go.Maps
structure lj(v b bm:Nat)(m:Rd)(a:Ra)(n:Nat)(D:DataW Unit)(w:World):Prop where
 dev:dw b m a w
 a7:w.heap[v]?=some (.cells [.pointer (some ⟨b,0,none⟩),.map (some bm)].toArray 133 (0,0))
 map:w.ownsMap prog 3 (plainElem prog 3) bm n D
 ay:∀k,a.ay b k->k ≠ v/\k ≠ bm
def mM(b bm:Nat)(a:Ra)(k:Nat):Prop:=k=bm\/a.ay b k
structure gE(v b bm:Nat)(m:Rd)(a:Ra)(n:Nat)(D:DataW Unit)(m':Rd)(a':Ra)(n':Nat)(D':DataW Unit)(w w':World):Prop where
 at':lj v b bm m' a' n' D' w'
 only:aH (mM b bm a) w w'
 ay:∀k,mM b bm a' k->mM b bm a k\/w.heap.size<=k
 uU:m'.busy ≠ []->∀p,a'.la=some p->(m.busy ≠ []/\a.la=some p)\/w.heap.size<=p.block
section
variable{v b bm:Nat}{m m' m2:Rd}{a a' a2:Ra}{n n' n2:Nat}{D D' D2:DataW Unit}{w w' w2:World}
theorem lj.mlt(h:lj v b bm m a n D w):bm<w.heap.size:=h.map.lt
theorem lj.ne(h:lj v b bm m a n D w):v ≠ bm:=by
 rintro rfl;obtain⟨es,clock,hb,_⟩:=h.map;rw[h.a7] at hb
 cases hb
theorem lj.lm(h:lj v b bm m a n D w)(aE:m.busy ≠ [])(p:Addr)(hp:a.la=some p):p.block ≠ bm:=by
 rcases h.dev.fb.1 with e|⟨b',o',ha,hc⟩
 ·exact absurd e aE
 ·have DK:m.busy.length ≠ 0:=fun e=>aE (aaZ e)
  have:=hc 0 oM 0 oM;rw[ha] at hp;simp only[aa4] at hp;subst hp;rintro rfl;obtain⟨es,clock,hb,_⟩:=h.map;simp only at this hb
  simp[World.cell?,hb] at this
theorem lj.step(h:lj v b bm m a n D w)(hs:dL b m a m' a' w w'):gE v b bm m a n D m' a' n D w w' where
 at':=⟨hs.dev,by rw[hs.only.block v (aK h.a7) (fun e=>(h.ay v e).1 rfl)];exact h.a7,mJ h.map (hs.only.block bm h.mlt (fun e=>(h.ay bm e).2 rfl)),fun k hk=>(hs.ay k hk).elim (h.ay k) (fun h'=>by have:=aK h.a7;have:=h.mlt;omega)⟩
 only:=hs.only.mono (fun _ e=>ir e)
 ay:=fun k hk=>hk.elim (fun e=>il (il e)) (fun e=>(hs.ay k e).elim (fun h'=>il (ir h')) ir)
 uU:=hs.uU
theorem gE.trans(h:gE v b bm m a n D m' a' n' D' w w')(k:gE v b bm m' a' n' D' m2 a2 n2 D2 w' w2):gE v b bm m a n D m2 a2 n2 D2 w w2 :=
 ⟨k.at',h.only.trans k.only h.ay,fun i hi=>(k.ay i hi).elim (h.ay i) (fun h'=>ir (abb h.only.size h')),fun aE p hp=>(k.uU aE p hp).elim (fun e=>h.uU e.1 p e.2) (fun h'=>ir (abb h.only.size h'))⟩
theorem gE.later(h:gE v b bm m a n D m' a' n' D' w w')(hb:bL w' w2):gE v b bm m a n D m' a' n' D' w w2:=h.trans (h.at'.step (dL.same h.at'.dev hb))
theorem lj.dQ(h:lj v b bm m a n D w)(ho:aH (fun k=>k=bm) w w')(hm:w'.ownsMap prog 3 (plainElem prog 3) bm n' D')(hr:∀r∈m.busy,r.dB (fun k=>k=bm)):gE v b bm m a n D m a n' D' w w' where
 at':=⟨h.dev.frame ho (fun k hk=>(h.ay k hk).2) h.lm hr,by rw[ho.block v (aK h.a7) h.ne];exact h.a7,hm,h.ay⟩
 only:=ho.mono (fun _ e=>il e)
 ay:=fun _ hk=>il hk
 uU:=fun aE _ hp=>il ⟨aE,hp⟩
theorem lj.cells(h:lj v b bm m a n D w):w.cell? ⟨v,0,none⟩=some (.pointer (some ⟨b,0,none⟩))/\w.cell? ⟨v,1,none⟩=some (.map (some bm)):=⟨by rw[aR h.a7];rfl,by rw[aR h.a7];rfl⟩
theorem Mo(h:gE v b bm m a n D m' a' n' D' w w')(q:Nat)(hq:w.heap.size<=q)(cI:¬mM b bm a' q)(hqv:q ≠ v)(hl:m'.busy ≠ []->∀p,a'.la=some p->p.block ≠ q)(hr:∀r∈m'.busy,r.dB (fun k=>k=q))(v0 v1 v2 v3 v4 v5 v6 v7:Value):gE v b bm m a n D m' a' n' D' w (yV w' q v0 v1 v2 v3 v4 v5 v6 v7) where
 at':=⟨h.at'.dev.frame (dS w' q _ _ _ _ _ _ _ _) (fun k hk e=>cI (by rw[<-e];exact ir hk)) hl hr,by rw[(dS w' q v0 v1 v2 v3 v4 v5 v6 v7).block v (aK h.at'.a7) (Ne.symm hqv)];exact h.at'.a7,mJ h.at'.map ((dS w' q v0 v1 v2 v3 v4 v5 v6 v7).block bm h.at'.mlt (fun e=>cI (il e.symm))),h.at'.ay⟩
 only:=h.only.trans (dS w' q v0 v1 v2 v3 v4 v5 v6 v7) (fun i e=>ir (by subst e;exact hq))
 ay:=h.ay
 uU:=h.uU
end
theorem Rd.Ip(m:Rd)(r:Rq):(m.cr r).busy=m.busy:=by unfold Rd.cr;split;exact Rd.oT _ _ _;rfl
structure CI(bm:Nat)(d:Rd)(k:Nat)(r:Rq)(tg:Int):Prop where
 at':d.busy[k]?=some r
 tag:r.tags.getD 0 0=tg
 sY:cH tg
 uA:1<=r.tags.length
 off:∀q∈d.busy,q.dB (fun j=>j=bm)
theorem CI.mem{bm:Nat}{d:Rd}{k:Nat}{r:Rq}{tg:Int}(h:CI bm d k r tg):r∈d.busy:=acg h.at'
theorem Xt(b:Nat)(d:Rd)(a:Ra)(k:Nat)(r:Rq)(hk:d.busy[k]?=some r)(w:World)(h:dw b d a w)(gr:bz r)(K0:d.waits.length<=1000000) :
 Calls prog 151 #[.pointer (some ⟨b,0,none⟩),i6 k,.bool false] w fun e w'=>∃a' xa xc xs,e=.returned (.tuple #[fg r xa (List.length xs) xc 0,i6 0])/\Hid (xs=rR d r)/\StrsAt w' xa xs/\(∀ad,xa=some ad->w.heap.size<=ad.block/\¬a'.ay b ad.block)/\dL b d a (({ d with busy:=d.busy.eraseIdx k }:Rd).cr r) a' w w':=by
 obtain⟨eH,rfl⟩:=acp.1 hk;exact Xs b d a k eH w h gr K0
theorem DV(b:Nat)(d:Rd)(a:Ra)(k:Nat)(r:Rq)(hk:d.busy[k]?=some r)(w:World)(h:dw b d a w) :
 Calls prog 151 #[.pointer (some ⟨b,0,none⟩),i6 k,.bool true] w fun e w'=>∃a',e=.returned (.tuple #[fg r none 0 0 8,i6 0])/\a'.wa=a.wa/\dL b d a { d with busy:=d.busy.eraseIdx k } a' w w':=by
 obtain⟨eH,rfl⟩:=acp.1 hk;exact QR b d a k eH w h
theorem EF{w:World}{r:Rq}{tg:Int}(h:r.At w)(ht:r.tags.getD 0 0=tg)(h1:1<=r.tags.length):∃tb tof,r.ta=some ⟨tb,tof,none⟩/\w.cell? ⟨tb,tof,none⟩=some (i6 tg):=by
 rcases h.tags with e|⟨tb,tof,e,hc⟩
 ·rw[e] at h1;simp at h1
 ·refine⟨tb,tof,e,?_⟩;have:=hc 0 oM;rw[ht] at this
  simpa using this
theorem aav(v b bm:Nat)(m:Rd)(a:Ra)(n:Nat)(D:DataW Unit)(i:Int)(fl:Bool)(w:World)(h:lj v b bm m a n D w)(hi:i<0\/(m.busy.length:Int)<=i) :
 Calls prog 104 #[.pointer (some ⟨v,0,none⟩),i6 i,.bool fl] w (rB (.tuple #[px,.bool false,i6 5]) w):=by
 obtain⟨c0,c1⟩:=h.cells;have HV:=ae h;have hv:=aK h.a7;have hm:=h.mlt;have Fm:=h.dev.lt;have fq:=ae (aA w (.cells #[.bool false,i6 0,i6 0,.slice none 0 0,.slice none 0 0,i6 0,.slice none 0 0,i6 0] 151));clear h;have HI:=ae hi;clear hi;go_enter func104,ntmps104;go_wp2_with fail;refine cM (UE b m a i fl _ (HV.out.dev.later fq.out) HI.out) ?_;intro w1 aw;have mT:=af aw (aA w1 (.cells #[.bool false,i6 0,i6 0,.slice none 0 0,.slice none 0 0,i6 0,.slice none 0 0,i6 0] 151));have cC:=(eN w 151).only (F:=fun _=>False) (aH.cj mT) (fun e=>e);have eA:=fq.out.trans (mT.mono fq.out.size);have pE:=ae cC;have aN:=ae eA;clear aw mT eA cC;go_wp2_with(refine cc rfl (.tmp 6) (.tmp 24) rfl w.heap.size iD none 0 0 0 rfl rfl (cw pE.out) (fun wK=>bL w wK/\dI wK w.heap.size iD none 0 0 0) ⟨aN.out.trans ((dS _ w.heap.size _ _ _ _ _ _ _ _).below aN.out.size (fun i e=>oM)),gw (cw pE.out) pE.out.2.2⟩ ?_;rintro w3 ⟨bo,⟨z0,z1,z2,z3,z4,z5,z6,z7⟩,-,-⟩;have fi:=ae bo;clear bo);exact aaY (v:=.tuple #[px,.bool false,i6 5]) (by simp[results,results104,go_sem,z0,z1,z2,z3,z4,z5,z6,z7,iD]) rfl ⟨rfl,fi.out⟩
end
section
open Go.RowKit Go.BigFrame
theorem dw.llt{b:Nat}{d:Rd}{a:Ra}{w:World}(h:dw b d a w)(aE:d.busy ≠ []){p:Addr}(hp:a.la=some p):p.block<w.heap.size:=by
 rcases h.fb.1 with e|⟨b',o',ha,hc⟩
 ·exact absurd e aE
 ·have DK:d.busy.length ≠ 0:=fun e=>aE (aaZ e)
  have:=aq (hc 0 oM 0 oM);rw[ha] at hp;simp only[aa4] at hp;subst hp;exact this
def m0:Rd:=⟨List.replicate 32 bE,List.replicate 32 bE,[],[]⟩
def L7:Ra:=⟨none,0,none,0⟩
theorem ad9(w:World)(b:Nat)(h:w.heap[b]?=some (.cells (m0.cells L7).toArray 49 (0,0))):dw b m0 L7 w where
 lV:=rfl
 dv:=rfl
 a7:=h
 jH:=abg _ _ _ _
 fb:=⟨il rfl,by simp[m0],by simp[m0]⟩
 AG:=fun _=>rfl
 rP:=by simp[m0]
 iF:=fun h=>absurd rfl h
 jl:=fun p hp=>by cases hp
 reqs:=fun r hr=>by cases hr
 kn:=fun r hr=>by cases hr
 gQ:=by simp[m0]
end
end Go.Proofs.YtlhgjplipgandaaGreatDoor
