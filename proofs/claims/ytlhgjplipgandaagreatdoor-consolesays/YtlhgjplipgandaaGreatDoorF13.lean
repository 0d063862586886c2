/- Joined. -/
import Derived.Deep.RegionHeld3
import Derived.Test.YtlhgjplipgandaaGreatDoorF11
import Derived.Test.YtlhgjplipgandaaGreatDoorF8
set_option maxRecDepth 100000
set_option maxHeartbeats 8000000
set_option linter.unusedSimpArgs false
set_option linter.unusedSectionVars false
namespace Go.Proofs.YtlhgjplipgandaaGreatDoor
open Tryz
open Go.RowKit Go.BigFrame
def Dl.write(d:Dl)(p:Nat)(s:ByteArray):Dl:={ d with now:=d.now.set p s,wr:=eR p d.next d.wr++[⟨p,s,d.next⟩],next:=(d.next+1) % 64 }
theorem Rq.dB.mono{F F':Nat->Prop}{r:Rq}(h:r.dB F)(hF:∀k,F' k->F k):r.dB F':=⟨fun he a ha hk=>h.1 he a ha (hF _ hk),fun he a ha hk=>h.2 he a ha (hF _ hk)⟩
theorem bR.Cu{b:Nat}{d d':Dl}{a:An}{w:World}(h:bR b d a w)(j:Nat)(v:Value)(hc:(d.cells a).set j v=d'.cells a)(e1:d'.wr=d.wr)(e2:d'.busy=d.busy)(dv:d'.now.length=32)(fY:d'.bO.length=32)(pX:d'.next<64):bR b d' a (w.setCell ⟨b,j,none⟩ v) where
 dv:=dv
 fY:=fY
 a7:=by rw[bJ h.a7,hc]
 jH:=by
  rw[e1];exact dR h.jH fun g hg=>by
   obtain⟨p,hp,rfl⟩:=bG.1 hg;exact mN _ _ (h.jl p hp)
 oa:=by
  rw[e2];exact dR h.oa fun g hg=>by
   obtain⟨p,hp,rfl⟩:=bG.1 hg;exact mN _ _ (h.qK p hp)
 jl:=h.jl
 qK:=h.qK
 qq:=h.qq
 reqs:=fun r hr=>by
  rw[e2] at hr;have:=h.reqs r hr;exact⟨this.1.frame (F:=fun k=>k=b) (this.2.mono fun k hk=>il hk) ((aH.refl (fun k=>k=b) w).setCell ⟨b,j,none⟩ (il rfl) v),this.2⟩
 kn:=by rw[e1];exact h.kn
 xv:=by rw[e1];exact h.xv
 gQ:=by rw[e2];exact h.gQ
 pX:=pX
theorem Bw(d:Dl)(a:An)(k:Nat)(s:ByteArray)(h1:d.now.length=32)(hk:k<32):(d.cells a).set k (.string s)=({ d with now:=d.now.set k s }:Dl).cells a:=by
 rw[Dl.cells,abp,af2 _ _ (by rw[aS];omega),Dl.cells,abp]
 simp[dx,agd]
theorem Dv(d:Dl)(a:An)(n:Nat)(h1:d.now.length=32)(h2:d.bO.length=32):(d.cells a).set 65 (i6 n)=({ d with next:=n }:Dl).cells a:=by
 rw[Dl.cells,adn _ _ (by simp[aS,h1,h2])]
 simp[aS,h1,h2,Dl.cells]
theorem Du(d:Dl)(a:An)(l:List Wn)(x:Option Addr)(c:Nat)(h1:d.now.length=32)(h2:d.bO.length=32):(d.cells a).set 64 (.slice x l.length c)=({ d with wr:=l }:Dl).cells { a with wa:=x,wc:=c }:=by
 rw[Dl.cells,adn _ _ (by simp[aS,h1,h2])]
 simp[aS,h1,h2,Dl.cells]
theorem ei{P:Program}{Q:Exit->Act->World->Prop}{a:Act}{c:Code}{w:World}(R:World->Prop)(h:R w)(k:∀w',R w'->c.wp P Q a w'):c.wp P Q a w:=k w h
theorem tB{P:Program}{ops:Array Oper}{o:Oper}{a:Act}{w:World}{K:Act->World->Prop}{Q:Exit->Act->World->Prop}{E:Prop}
 (hg:o.guard=none) (f:FuncId) (x1 x2:Nat) (t1 t2:TypeId) (qY:o.op=Op.call { callee:=Callee.value (.func f),args:=#[.tmp x1,.tmp x2],argTypes:=#[t1,t2] }) (eg:∀args w,(callFunc f args).run P w=.ok (.enter f args) w)
 (v1 v2:Value) (e1:a.tmps[x1]?.getD undef=v1) (e2:a.tmps[x2]?.getD undef=v2) (r:Value) (S:World->Prop) (hc:Calls P f #[v1,v2] w fun e w'=>e=.returned r/\S w') (h:∀w',S w'->K (a.put o.dst r) w') :
 if Region.wanted o (yielded ops a.tmps)=true then Oper.wp P o a w K Q else E:=by
 have hw:Region.wanted o (yielded ops a.tmps)=true:=by simp[Region.wanted,hg]
 rw[aaV hw];unfold Oper.wp
 simp[execOp,qY,resolve,invoke,e1,e2,eg,go_sem]
 refine hc.mono ?_;rintro _ w' ⟨rfl,hs⟩;exact h w' hs
theorem Zc{b q:Nat}{d:Dl}{a:An}{w X w2:World}{p:Nat}(h:bR b d a w)(hX:bL w X)(hO:aH (gB a.wa) X w2)(k1:w.cell? ⟨q,0,none⟩=some (.pointer (some ⟨b,0,none⟩)))(k2:w.cell? ⟨q+1,0,none⟩=some (i6 p))(n1:¬gB a.wa q)(n2:¬gB a.wa (q+1))(n3:¬gB a.wa b) :
 w2.cell? ⟨q,0,none⟩=some (.pointer (some ⟨b,0,none⟩))/\w2.cell? ⟨q+1,0,none⟩=some (i6 p)/\w2.cell? ⟨b,64,none⟩=some (.slice a.wa d.wr.length a.wc)/\w2.cell? ⟨b,65,none⟩=some (i6 d.next)/\w2.frozen? ⟨b,64,none⟩=false/\q+1<w2.heap.size/\b<w2.heap.size:=by
 have l1:=aq k1;have l2:=aq k2;have hs:=hX.size;have qC:=hO.size;have lb:=h.lt;refine⟨?_,?_,?_,?_,?_,oM,oM⟩
 ·rw[hO.cell (p:=⟨q,0,none⟩) (show q<_ from oM) n1,hX.cell (p:=⟨q,0,none⟩) l1];exact k1
 ·rw[hO.cell (p:=⟨q+1,0,none⟩) (show q+1<_ from oM) n2,hX.cell (p:=⟨q+1,0,none⟩) l2];exact k2
 ·rw[hO.cell (p:=⟨b,64,none⟩) (show b<_ from oM) n3,hX.cell (p:=⟨b,64,none⟩) lb];exact h.pG
 ·rw[hO.cell (p:=⟨b,65,none⟩) (show b<_ from oM) n3,hX.cell (p:=⟨b,65,none⟩) lb];exact h.j8
 ·rw[hO.frozen (p:=⟨b,64,none⟩) (show b<_ from oM) n3,hX.frozen (p:=⟨b,64,none⟩) lb];exact h.fz 64
theorem Ck{a:Option Addr}{n c k:Nat}:(Value.slice a n c).ownBlock=some k↔gB a k:=bG
theorem bR.I9{b:Nat}{d:Dl}{a:An}{w w3:World}(h:bR b d a w)(hO:aH (gB a.wa) w w3)(l:List Wn){v:Value}(bu:w3.ownsRow 0 213 3 v l.length (eK l))(hv:∀g,v.ownBlock=some g->gB a.wa g\/w.heap.size<=g)
 (hf:∀x∈l,x.pl<32/\x.bit<64) (hn:(l.map Wn.key).Nodup) :
 ∃x c,v=.slice x l.length c/\cP b d a { d with wr:=l } { a with wa:=x,wc:=c } w (w3.setCell ⟨b,64,none⟩ v):=by
 obtain⟨x,c,rfl,_⟩:=iA bu;have au:=h.lt;have nb:¬gB a.wa b:=fun⟨q,hq,e⟩=>h.jl q hq e.symm
 have e3:w3.heap[b]?=some (.cells (d.cells a).toArray 108 (0,0)):=by
  rw[hO.block b au nb];exact h.a7
 have xb:∀p,x=some p->p.block ≠ b:=fun p hp e=>by
  rcases hv p.block (bG.2 ⟨p,hp,rfl⟩) with⟨q,hq,e'⟩|h'
  ·exact h.jl q hq oM
  ·omega
 have yj:aH (a.ay b) w (w3.setCell ⟨b,64,none⟩ (.slice x l.length c)) :=
  (hO.mono (F':=a.ay b) (fun i hi=>ir (il hi))).setCell ⟨b,64,none⟩ (il (il rfl)) _
 have mD:∀k,({ a with wa:=x,wc:=c }:An).ay b k->a.ay b k\/w.heap.size<=k:=by
  rintro k (rfl|⟨p,hp,rfl⟩|⟨p,hp,rfl⟩)
  ·exact il (il rfl)
  ·rcases hv p.block (bG.2 ⟨p,hp,rfl⟩) with h'|h'
   ·exact il (ir (il h'))
   ·exact ir oM
  ·exact il (ir (ir ⟨p,hp,rfl⟩))
 refine⟨x,c,rfl,⟨?_,yj,mD⟩⟩;exact {
  dv:=h.dv
  fY:=h.fY
  a7:=by rw[bJ e3,Du d a l x c h.dv h.fY]
  jH:=dR bu fun g sJ=>by
   obtain⟨p,hp,rfl⟩:=bG.1 sJ;exact mN _ _ (xb p hp)
  oa:=dR h.oa fun g sJ=>by
   obtain⟨p,hp,rfl⟩:=bG.1 sJ;have bV:=h.blt p hp;rw[mN _ _ (h.qK p hp),hO.block _ bV];rintro⟨q,hq,e⟩;exact h.qq q p hq hp e.symm
  jl:=xb
  qK:=h.qK
  qq:=fun p q hp hq e=>by
   rcases hv p.block (bG.2 ⟨p,hp,rfl⟩) with⟨p',DK,e'⟩|h'
   ·exact h.qq p' q DK hq oM
   ·have:=h.blt q hq;omega
  reqs:=fun r dj=>⟨(h.reqs r dj).1.frame (h.reqs r dj).2 yj,(h.reqs r dj).2.step (h.reqs r dj).1 mD⟩
  kn:=hf
  xv:=hn
  gQ:=h.gQ
  pX:=h.pX }
theorem TX{b:Nat}{d:Dl}{a:An}{w w3:World}(h:bR b d a w)(hO:aH (gB a.wa) w w3):w3.cell? ⟨b,64,none⟩=some (.slice a.wa d.wr.length a.wc)/\w3.frozen? ⟨b,64,none⟩=false/\b<w3.heap.size:=by
 have nb:¬gB a.wa b:=fun⟨q,hq,e⟩=>h.jl q hq e.symm
 have hs:=hO.size;have hl:=h.lt;exact⟨by rw[hO.cell (p:=⟨b,64,none⟩) hl nb];exact h.pG,by rw[hO.frozen (p:=⟨b,64,none⟩) hl nb];exact h.fz 64,oM⟩
theorem D3(l:List Wn)(x:Wn):eK (l++[x])=eK l++[i6 x.pl,.string x.data,i6 x.bit]:=by rw[Bi];rfl
theorem Py{a:Option Addr}{n c n' c':Nat}{x:Option Addr}{B W:Nat}(hv:(Value.slice x n' c').ownBlock=(Value.slice a n c).ownBlock\/(Value.slice x n' c').ownBlock=some W){g:Nat}(hg:(Value.slice x n' c').ownBlock=some g)(hB:B<=W):gB a g\/B<=g:=by
 rcases hv with h|h
 ·rw[h] at hg;exact il (Ck.1 hg)
 ·rw[h] at hg;cases hg;exact ir hB
theorem F0{w w2:World}{F:Nat->Prop}{n:Nat}(hn:w.heap.size=n)(vs:List Value)(T:TypeId)(hO:aH F (w.alloc (.cells vs.toArray T)) w2)(hF:¬F n)(j:Nat)(u:Value)(h:vs[j]?=some u):w2.cell? (Addr.add ⟨n,0,none⟩ j)=some u:=by
 have:=ug hn vs T j u h;rw[Addr.add_mid] at this ⊢;rw[hO.cell (p:=⟨n,0+j,none⟩) (by simp[hn]) hF];exact this
theorem Nn{w w2:World}{F:Nat->Prop}{n:Nat}(hn:w.heap.size=n)(vs:List Value)(T:TypeId)(hO:aH F (w.alloc (.cells vs.toArray T)).drew w2)(hF:¬F n)(j:Nat)(u:Value)(h:vs[j]?=some u):w2.cell? (Addr.add ⟨n,0,none⟩ j)=some u :=
 F0 hn vs T ⟨hO.os,hO.tape,hO.output,hO.size,hO.block⟩ hF j u h
def zh(q b p nx:Nat)(sl:Value)(w:World):Prop:=w.cell? ⟨q,0,none⟩=some (.pointer (some ⟨b,0,none⟩))/\w.cell? ⟨q+1,0,none⟩=some (i6 p)/\w.cell? ⟨b,65,none⟩=some (i6 nx)/\w.cell? ⟨b,64,none⟩=some sl/\w.frozen? ⟨b,64,none⟩=false
theorem zh.only{F:Nat->Prop}{q b p nx:Nat}{sl:Value}{w w':World}(h:zh q b p nx sl w)(hO:aH F w w')(n1:¬F q)(n2:¬F (q+1))(n3:¬F b):zh q b p nx sl w':=by
 obtain⟨h1,h2,h3,h4,h5⟩:=h;have l1:=aq h1;have l2:=aq h2;have l3:=aq h3;exact⟨by rw[hO.cell (p:=⟨q,0,none⟩) l1 n1];exact h1,by rw[hO.cell (p:=⟨q+1,0,none⟩) l2 n2];exact h2,by rw[hO.cell (p:=⟨b,65,none⟩) l3 n3];exact h3,(hO.cell (p:=⟨b,64,none⟩) l3 n3).trans h4,by rw[hO.frozen (p:=⟨b,64,none⟩) l3 n3];exact h5⟩
theorem zh.alloc{q b p nx:Nat}{sl:Value}{w:World}(h:zh q b p nx sl w)(o:Obj):zh q b p nx sl (w.alloc o):=h.only (F:=fun _=>False) ((aH.refl _ _).alloc o) (fun e=>e) (fun e=>e) (fun e=>e)
theorem LA{l:List Wn}{p n:Nat}{s:ByteArray}(h:∀x∈l,x.pl<32/\x.bit<64)(hp:p<32)(hn:n<64):∀x∈eR p n l++[⟨p,s,n⟩],x.pl<32/\x.bit<64:=by
 intro x hx
 rcases abh.1 hx with hx|hx
 ·exact h x (af8.1 hx).1
 ·obtain rfl:=abq.1 hx;exact⟨hp,hn⟩
theorem LB{l:List Wn}{p n:Nat}{s:ByteArray}(h:∀x∈l,x.pl<32/\x.bit<64)(hn:n<64)(hd:(l.map Wn.key).Nodup):((eR p n l++[(⟨p,s,n⟩:Wn)]).map Wn.key).Nodup:=by
 rw[aca,List.nodup_append];refine⟨hd.sublist (List.filter_sublist.map _),sM,?_⟩;intro k hk k' eH;simp only[aft,afz,abq] at eH;subst eH;obtain⟨x,hx,rfl⟩:=acM.1 hk;have h1:=af8.1 hx;have h2:=h x h1.1;simp only[Wn.key];intro e;have:kh p n x=true:=by simp only[kh,abW,ac3];omega
 simp[this] at h1
theorem LQ(n:Nat):((n:Int)+1).tmod 64=(((n+1) % 64:Nat):Int):=by rw[afH oM];omega
theorem GA{b:Nat}{d d1 d2:Dl}{a a2:An}{p:Nat}{s:ByteArray}{w wK wM:World}(nU:d1={ d with now:=d.now.set p s })(x8:d2={ d1 with wr:=eR p d1.next d1.wr++[⟨p,s,d1.next⟩] })(hK:bR b d1 a wK)(hO:aH (a.ay b) w wK)(h:cP b d1 a d2 a2 wK wM):cP b d a (d.write p s) a2 w (wM.setCell ⟨b,65,none⟩ (i6 ((d1.next+1) % 64:Nat))):=by
 have h1:cP b d a d1 a w wK:=⟨hK,hO,fun k hk=>il hk⟩
 have h2:=h1.trans h;refine h2.trans ⟨?_,(aH.refl (a2.ay b) wM).setCell ⟨b,65,none⟩ (il (il rfl)) _,fun k hk=>il hk⟩;have e:d.write p s={ d2 with next:=(d1.next+1) % 64 }:=by subst x8;subst nU;rfl
 rw[e];exact h.dev.Cu 65 _ (Dv d2 a2 _ h.dev.dv h.dev.fY) rfl rfl h.dev.dv h.dev.fY (Nat.mod_lt _ oM)
theorem ad2:(prog.info? 213).map (fun i=>(i.zero,i.size,i.bytes))=some (some (.agg #[i6 0,.string bE,i6 0]),3,32):=kR
theorem Vt(b:Nat)(d:Dl)(a:An)(p:Nat)(s:ByteArray)(w:World)(h:bR b d a w)(hp:p<32) :
 Calls prog 213 #[.pointer (some ⟨b,0,none⟩),i6 p,.string s] w fun e w'=>∃a',e=.returned (.tuple #[])/\cP b d a (d.write p s) a' w w':=by
 have hl:=h.lt;have cN:=h.GL p hp;have fN:=h.fz p;have p1:(p:Int)<32:=oM;have p2:(0:Int)<=(p:Int):=oM;have HD:=ae h;clear h;go_enter func213,ntmps213;go_wp2_with fail
 go_region
 go_wp2_with fail;obtain⟨d1,nU⟩:∃d1:Dl,d1={ d with now:=d.now.set p s }:=⟨_,rfl⟩
 have qN:=ae nU;clear nU;refine ei (fun wK=>bR b d1 a wK/\wK.cell? ⟨w.heap.size,0,none⟩=some (.pointer (some ⟨b,0,none⟩))/\wK.cell? ⟨w.heap.size+1,0,none⟩=some (i6 p)/\aH (a.ay b) w wK) ⟨?_,by simp[go_sem],by simp[go_sem],?_⟩ ?_
 ·rw[qN.out];exact(((HD.out.Cu p (.string s) (Bw d a p s HD.out.dv hp) rfl rfl (by simpa using HD.out.dv) HD.out.fY HD.out.pX).alloc _).alloc _).later (aX _ _).drew
 ·exact((((aH.refl (a.ay b) w).setCell ⟨b,p,none⟩ (il (il rfl)) (.string s)).alloc _).alloc _).drew
 rintro wK ⟨hK,k1,k2,hO⟩;have HK:=ae hK;have HO:=ae hO;have k3:=hK.pG;have k4:=hK.j8;have lb:=hK.lt;have l1:=aq k1;have l2:=aq k2;clear hK hO cN fN p1 p2;have eg:∀args w,Sem.run prog (callFunc 232 args) w=.ok (.enter 232 args) w:=by intro args w;go_simp
 have Lr:=HK.out.adD;have nr:∀k,k=w.heap.size\/k=w.heap.size+1\/k=b->¬gB a.wa k:=by
  rintro k hk ⟨q,hq,rfl⟩;have h1:=HD.out.CB q hq;have h2:=HD.out.jl q hq
  omega
 have NR:=ae nr;have HHK:Hid (rv (w.heap.size+1) w.heap.size b p d1.next wK):=⟨k2,k1,k4⟩
 have NRK:Hid (¬gB a.wa wK.heap.size):=by
  rintro⟨q,hq,e⟩;have:=HK.out.CB q hq
  omega
 clear nr;obtain⟨iW,hi,de,cC,cF⟩:=eS ad2;have HI:=ae (⟨hi,de,cC,cF⟩:prog.info? 213=some iW/\_/\_/\_);have Yg:Hid ((eR p d1.next d1.wr).length<=2048):=abb (acE _ _) Lr;clear hi de cC cF;have T0:zh w.heap.size b p d1.next (.slice a.wa d1.wr.length a.wc) wK:=⟨k1,k2,k4,k3,HK.out.fz 64⟩
 have HS:Hid (zh w.heap.size b p d1.next (.slice a.wa d1.wr.length a.wc) wK.drew):=T0;refine eL (S:=zh w.heap.size b p d1.next (.slice a.wa d1.wr.length a.wc)) (d:=18) kR ?_;refine tK 0 rfl HS.out ?_;(try simp only[Act.put,dP]);refine tK 1 rfl HS.out ?_;(try simp only[Act.put,dP]);refine tK 2 rfl HS.out ?_;(try simp only[Act.put,dP]);refine tK 3 rfl HS.out ?_;(try simp only[Act.put,dP]);refine tK 4 rfl HS.out ?_;(try simp only[Act.put,dP]);refine tK 5 rfl HS.out ?_;(try simp only[Act.put,dP]);refine tK 7 rfl HS.out ?_;(try simp only[Act.put,dP]);refine tK 8 rfl HS.out ?_;(try simp only[Act.put,dP]);refine tK 9 rfl HS.out ?_;(try simp only[Act.put,dP]);refine tK 10 rfl HS.out ?_;(try simp only[Act.put,dP]);refine tK 11 rfl HS.out ?_;(try simp only[Act.put,dP]);refine tK 12 rfl HS.out ?_;(try simp only[Act.put,dP]);refine tK 13 rfl HS.out ?_;(try simp only[Act.put,dP]);refine MG (i:=6) (j:=14) rfl rfl kR ?_ ?_
 ·intro K hK;refine tB rfl 232 18 19 106 289 rfl eg (.slice a.wa d1.wr.length a.wc) (.func (.func 231) #[] #[.pointer (some ⟨w.heap.size+1,0,none⟩),.pointer (some ⟨w.heap.size,0,none⟩)]) rfl rfl (.slice a.wa (eR p d1.next d1.wr).length a.wc) (fun w'=>w'.ownsRow 0 213 3 (.slice a.wa (eR p d1.next d1.wr).length a.wc) (eR p d1.next d1.wr).length (eK (eR p d1.next d1.wr))/\aH (gB a.wa) _ w') (abO (w.heap.size+1) w.heap.size b p d1.next d1.wr a.wa a.wc _ (HK.out.later bQ).jH oM HK.out.xv (HHK.out.later bQ) (NR.out _ oM) (NR.out _ oM) (NR.out _ oM)) ?_;rintro w2 ⟨aT,tJ⟩;obtain⟨q1,q2,q3,q4,q5,q6,q7⟩:=Zc HK.out bQ tJ k1 k2 (NR.out _ oM) (NR.out _ oM) (NR.out _ oM);have ez:=ae (⟨aT,tJ⟩:_/\_);have T2:zh w.heap.size b p d1.next (.slice a.wa d1.wr.length a.wc) w2:=⟨q1,q2,q4,q3,q5⟩;clear aT tJ;refine hK _ _ (fun _=>T2) ?_;(try simp only[Act.put,dP]);clear hK;refine bn (i:=14) rfl kR ?_;intro K hK;go_simp;refine hK _ _ (fun _=>T2.alloc _) ?_;(try simp only[Act.put,dP]);clear hK;refine bn (i:=15) rfl kR ?_;intro K hK;refine yD rfl (.tmp 20) (.tmp 28) 106 rfl 0 213 iW _ 3 32 underlying106 HI.out.1 HI.out.2.1 HI.out.2.2.1 HI.out.2.2.2 rfl dM (.slice a.wa (eR p d1.next d1.wr).length a.wc) (eR p d1.next d1.wr).length (eK (eR p d1.next d1.wr)) rfl (ez.out.1.alloc _) ⟨w2.heap.size,0,none⟩ 1 1 [i6 p,.string s,i6 d1.next] rfl rfl (fun j u hj=>ug rfl _ _ j u hj) (by simp[Value.oneCell']) oM (by have:=Yg.out;unfold maxLen;omega) (by have:=Yg.out;omega) (ach _) ?_;intro v3 w3 bw r8 TD;have nz:aH (gB a.wa) wK w3:=(((aH.cj bQ).trans ez.out.2 (fun _ e=>il e)).alloc _).grown r8 (fun k hk=>il (Ck.1 hk));obtain⟨x3,c3,rfl,-⟩:=iA bw;obtain⟨r1,r2,r3⟩:=TX HK.out nz;have B4:∀g,(Value.slice x3 ((eR p d1.next d1.wr).length+1) c3).ownBlock=some g->gB a.wa g\/wK.heap.size<=g:=fun g hg=>Py TD hg (by have:=ez.out.2.size;simp at this;simp;omega);have T3:zh w.heap.size b p d1.next (.slice a.wa d1.wr.length a.wc) w3:=T0.only nz (NR.out _ oM) (NR.out _ oM) (NR.out _ oM);have HP3:=ae (⟨bw,nz,B4⟩:_/\_/\_);clear bw nz TD r8 B4;refine hK _ _ (fun _=>T3) ?_;(try simp only[Act.put,dP]);clear hK;refine bn (i:=16) rfl kR ?_;intro K hK;go_simp;refine hK _ _ (fun _=>T3) ?_;(try simp only[Act.put,dP]);clear hK;refine bn (i:=17) rfl kR ?_;intro K hK;go_simp;refine hK _ _ (fun _=>T3) ?_;(try simp only[Act.put,dP]);clear hK;refine bn (i:=18) rfl kR ?_;intro K hK;go_simp;refine hK _ _ (fun h=>absurd rfl h) ?_;(try simp only[Act.put,dP]);clear hK;refine fw kR ?_ _
  obtain⟨bw,nz,B4⟩:=HP3.out;obtain⟨x4,c4,e4,cZ⟩:=HK.out.I9 nz (eR p d1.next d1.wr++[⟨p,s,d1.next⟩]) (by rw[D3,aaQ];exact bw) B4 (LA HK.out.kn hp HK.out.pX) (LB HK.out.kn HK.out.pX HK.out.xv);obtain⟨d2,x8⟩:∃d2:Dl,d2={ d1 with wr:=eR p d1.next d1.wr++[⟨p,s,d1.next⟩] }:=⟨_,rfl⟩;rw[<-x8] at cZ;have aL:=ae cZ;have ko:Hid (d2.next=d1.next):=(by rw[x8];rfl);have pa:=ae x8;clear bw nz B4 cZ x8 r1 r2 r3;go_wp2_with fail;refine ei (fun wM=>cP b d1 a d2 { a with wa:=x4,wc:=c4 } wK wM/\wM.cell? ⟨w.heap.size,0,none⟩=some (.pointer (some ⟨b,0,none⟩))) ⟨aL.out,(by rw[aa6 _ _ _ _ (fun e=>absurd (acT Addr.block e) (by simp;omega))];exact T3.1)⟩ ?_;rintro wM ⟨hM,m1⟩;have m2:=hM.dev.j8;rw[ko.out] at m2;have m3:=hM.dev.fz 65;have m4:=hM.dev.lt;have m5:=aq m1;have sN:=HK.out.pX;have gu:IntKind.i64.wrap ((d1.next:Int)+1)=(d1.next:Int)+1:=(by rw[abr];omega);have pU:=LQ d1.next;have IU:IntKind.i64.wrap (((d1.next+1) % 64:Nat):Int)=(((d1.next+1) % 64:Nat):Int):=(by rw[abr];omega);have HM:=ae (GA qN.out pa.out HK.out HO.out hM);clear hM;generalize (d1.next+1) % 64=nn at *
  go_region
  go_end0;exact⟨_,rfl,HM.out.pI⟩
 ·intro K hK;go_simp;refine hK _ _ (fun _=>HS.out.alloc _) ?_
  (try simp only[Act.put,dP])
  clear hK;refine bn (i:=6) rfl kR ?_;intro K hK;refine tB rfl 232 18 19 106 289 rfl eg (.slice a.wa d1.wr.length a.wc) (.func (.func 231) #[] #[.pointer (some ⟨w.heap.size+1,0,none⟩),.pointer (some ⟨w.heap.size,0,none⟩)]) rfl rfl (.slice a.wa (eR p d1.next d1.wr).length a.wc) (fun w'=>w'.ownsRow 0 213 3 (.slice a.wa (eR p d1.next d1.wr).length a.wc) (eR p d1.next d1.wr).length (eK (eR p d1.next d1.wr))/\aH (gB a.wa) _ w') (abO (w.heap.size+1) w.heap.size b p d1.next d1.wr a.wa a.wc _ (HK.out.later bQ).jH oM HK.out.xv (HHK.out.later bQ) (NR.out _ oM) (NR.out _ oM) (NR.out _ oM)) ?_;rintro w2 ⟨aT,tJ⟩;obtain⟨q1,q2,q3,q4,q5,q6,q7⟩:=Zc HK.out bQ tJ k1 k2 (NR.out _ oM) (NR.out _ oM) (NR.out _ oM);have ez:=ae (⟨aT,tJ⟩:_/\_);have T2:zh w.heap.size b p d1.next (.slice a.wa d1.wr.length a.wc) w2:=⟨q1,q2,q4,q3,q5⟩;clear aT tJ;refine hK _ _ (fun _=>T2) ?_;(try simp only[Act.put,dP]);clear hK;refine bn (i:=15) rfl kR ?_;intro K hK;refine yD rfl (.tmp 20) (.tmp 28) 106 rfl 0 213 iW _ 3 32 underlying106 HI.out.1 HI.out.2.1 HI.out.2.2.1 HI.out.2.2.2 rfl dM (.slice a.wa (eR p d1.next d1.wr).length a.wc) (eR p d1.next d1.wr).length (eK (eR p d1.next d1.wr)) rfl ez.out.1 ⟨wK.heap.size,0,none⟩ 1 1 [i6 p,.string s,i6 d1.next] rfl rfl (by first|exact F0 rfl _ _ ez.out.2 NRK.out|exact Nn rfl _ _ ez.out.2 NRK.out) (by simp[Value.oneCell']) oM (by have:=Yg.out;unfold maxLen;omega) (by have:=Yg.out;omega) (ach _) ?_;intro v3 w3 bw r8 TD;have nz:aH (gB a.wa) wK w3:=((aH.cj bQ).trans ez.out.2 (fun _ e=>il e)).grown r8 (fun k hk=>il (Ck.1 hk));obtain⟨x3,c3,rfl,-⟩:=iA bw;obtain⟨r1,r2,r3⟩:=TX HK.out nz;have B4:∀g,(Value.slice x3 ((eR p d1.next d1.wr).length+1) c3).ownBlock=some g->gB a.wa g\/wK.heap.size<=g:=fun g hg=>Py TD hg (by have:=ez.out.2.size;simp at this;simp;omega);have T3:zh w.heap.size b p d1.next (.slice a.wa d1.wr.length a.wc) w3:=T0.only nz (NR.out _ oM) (NR.out _ oM) (NR.out _ oM);have HP3:=ae (⟨bw,nz,B4⟩:_/\_/\_);clear bw nz TD r8 B4;refine hK _ _ (fun _=>T3) ?_;(try simp only[Act.put,dP]);clear hK;refine bn (i:=16) rfl kR ?_;intro K hK;go_simp;refine hK _ _ (fun _=>T3) ?_;(try simp only[Act.put,dP]);clear hK;refine bn (i:=17) rfl kR ?_;intro K hK;go_simp;refine hK _ _ (fun _=>T3) ?_;(try simp only[Act.put,dP]);clear hK;refine bn (i:=18) rfl kR ?_;intro K hK;go_simp;refine hK _ _ (fun h=>absurd rfl h) ?_;(try simp only[Act.put,dP]);clear hK;refine fw kR ?_ _
  obtain⟨bw,nz,B4⟩:=HP3.out;obtain⟨x4,c4,e4,cZ⟩:=HK.out.I9 nz (eR p d1.next d1.wr++[⟨p,s,d1.next⟩]) (by rw[D3,aaQ];exact bw) B4 (LA HK.out.kn hp HK.out.pX) (LB HK.out.kn HK.out.pX HK.out.xv);obtain⟨d2,x8⟩:∃d2:Dl,d2={ d1 with wr:=eR p d1.next d1.wr++[⟨p,s,d1.next⟩] }:=⟨_,rfl⟩;rw[<-x8] at cZ;have aL:=ae cZ;have ko:Hid (d2.next=d1.next):=(by rw[x8];rfl);have pa:=ae x8;clear bw nz B4 cZ x8 r1 r2 r3;go_wp2_with fail;refine ei (fun wM=>cP b d1 a d2 { a with wa:=x4,wc:=c4 } wK wM/\wM.cell? ⟨w.heap.size,0,none⟩=some (.pointer (some ⟨b,0,none⟩))) ⟨aL.out,(by rw[aa6 _ _ _ _ (fun e=>absurd (acT Addr.block e) (by simp;omega))];exact T3.1)⟩ ?_;rintro wM ⟨hM,m1⟩;have m2:=hM.dev.j8;rw[ko.out] at m2;have m3:=hM.dev.fz 65;have m4:=hM.dev.lt;have m5:=aq m1;have sN:=HK.out.pX;have gu:IntKind.i64.wrap ((d1.next:Int)+1)=(d1.next:Int)+1:=(by rw[abr];omega);have pU:=LQ d1.next;have IU:IntKind.i64.wrap (((d1.next+1) % 64:Nat):Int)=(((d1.next+1) % 64:Nat):Int):=(by rw[abr];omega);have HM:=ae (GA qN.out pa.out HK.out HO.out hM);clear hM;generalize (d1.next+1) % 64=nn at *
  go_region
  go_end0;exact⟨_,rfl,HM.out.pI⟩
theorem bz.GJ{r:Rq}(h:bz r):0<=r.f/\r.f<=31/\1<=r.m/\r.m<=4/\r.m<=32-r.f:=by
 have:=h.ok;simp only[gK,aba] at this
 omega
theorem zR{w:World}{base e n:Nat}{v:Value}{xs:List ByteArray}(h:w.ownsRow base e 1 v n (dx xs))(hn:n=xs.length):∃a c,v=.slice a xs.length c/\StrsAt w a xs/\(a=none->c=0)/\∀ad,a=some ad->base<=ad.block:=by
 subst hn
 rcases h.2 with⟨rfl,h0⟩|⟨g,cap,cur,rfl,hg,hh,jO,ig,hcs,ht⟩
 ·obtain rfl:=aaZ h0;exact⟨none,0,rfl,il rfl,fun _=>rfl,sM⟩
 ·refine⟨_,cap,rfl,ir ⟨g,0,rfl,fun i hi=>?_⟩,sM,fun ad e=>?_⟩
  ·have hc:=h.cellAt i oM;rw[abc,hc]
   simp[dx,aaX hi]
  ·simp only[aa4] at e;subst e;exact hg
def ke(d:Dl)(f n:Nat):List ByteArray:=(List.range n).map fun j=>d.now.getD (f+j) bE
theorem NA(d:Dl)(f n:Nat):ke d f (n+1)=ke d f n++[d.now.getD (f+n) bE]:=by simp[ke,afU]
theorem vj(d:Dl)(f n:Nat):(ke d f n).length=n:=by simp[ke]
theorem BR(r:Rq)(gr:bz r)(k:Nat)(hk:k<32):dO r.f r.m k=decide (r.f.toNat<=k/\k<r.f.toNat+r.m.toNat):=by
 have:=gr.GJ;rw[vV r.f r.m 4 k gr.ok oM,gU]
 congr 1
 simp only[eq_iff_iff]
 omega
def below(f m k:Nat):Nat:=min (k-f) m
theorem Ad{f m k:Nat}(h1:f<=k)(h2:k<f+m):below f m (k+1)=below f m k+1/\f+below f m k=k:=by unfold below;omega
theorem xU{f m k:Nat}(h:¬(f<=k/\k<f+m)):below f m (k+1)=below f m k:=by unfold below;omega
theorem xT{f m:Nat}(h:f+m<=32):below f m 32=m:=by unfold below;omega
theorem ZL(b:Nat)(d:Dl)(a:An)(r:Rq)(w:World)(h:bR b d a w)(gr:bz r)(hw:r.wr=false) :
 Calls prog 180 #[.pointer (some ⟨b,0,none⟩),r.val] w fun e w'=>∃xa xc,e=.returned (.slice xa (ke d r.f.toNat r.m.toNat).length xc)/\StrsAt w' xa (ke d r.f.toNat r.m.toNat)/\(xa=none->xc=0)/\(∀ad,xa=some ad->w.heap.size<=ad.block)/\bL w w':=by
 obtain⟨iS,hi,de,cC,cF⟩:=eS yr;have HI:=ae (⟨hi,de,cC,cF⟩:prog.info? 9=some iS/\_/\_/\_);have et:=ae gr.GJ;have D6:=ae (BR r gr);have HD:=ae h;have hl:=h.lt;clear hi de cC cF h gr;obtain⟨Bj,f,m,da,dc,data,ta,tc,tags,born⟩:=r;simp only at *;subst hw;go_enter func180,ntmps180;go_wp2_with fail;have KW:=ae (aA w (.cells #[.bool false,i6 f,i6 m,.slice da data.length dc,.slice ta tags.length tc,i6 born] 146));have BS:Hid (∀wr,Below (w.heap.size+1) (w.alloc (.cells #[.bool false,i6 f,i6 m,.slice da data.length dc,.slice ta tags.length tc,i6 born] 146)) wr->wr.cell? ⟨w.heap.size,0,none⟩=some (.bool false)/\wr.cell? ⟨w.heap.size,1,none⟩=some (i6 f)/\wr.cell? ⟨w.heap.size,2,none⟩=some (i6 m)):=fun wr hb =>
  ⟨(hb.cell (p:=⟨w.heap.size,0,none⟩) sM).trans sM,(hb.cell (p:=⟨w.heap.size,1,none⟩) sM).trans sM,(hb.cell (p:=⟨w.heap.size,2,none⟩) sM).trans sM⟩
 generalize A9:w.alloc (.cells #[.bool false,i6 f,i6 m,.slice da data.length dc,.slice ta tags.length tc,i6 born] 146)=w1 at *;have eI:w1.heap.size=w.heap.size+1:=by rw[<-A9];simp
 have cf:=ae eI;clear A9 eI
 go_loopw[5,9] (fun v i wr=>∃k:Nat,k<=32/\i=i6 k/\wr.ownsRow (w.heap.size+1) 9 1 v (below f.toNat m.toNat k) (dx (ke d f.toNat (below f.toNat m.toNat k)))/\Below (w.heap.size+1) w1 wr) (fun _ i _=>32-(intOf i).toNat)
 case atStart=>exact⟨0,oM,rfl,by simpa [below,ke,dx] using abg w1 (w.heap.size+1) 9 1,aX _ _⟩
 case round =>
  obtain⟨k,hk,rfl,bu,HB⟩:=hrel;have z8:=ae bu;obtain⟨c0,c1,c2⟩:=BS.out wr HB;have iV:=HB.size;rw[cf.out] at iV;clear bu
  by_cases au:k<32
  ·have zy:=D6.out k au;have gC:(k:Int)<32:=oM
   by_cases hY:f.toNat<=k/\k<f.toNat+m.toNat
   ·rw[aa1 hY] at zy;obtain⟨e1,e2⟩:=Ad hY.1 hY.2;have HE:=ae (⟨e1,e2⟩:_/\_);have hbm:below f.toNat m.toNat k<=32:=by unfold below;omega
    clear e1 e2 hY;go_wp2_with fail;refine cM (sI _ _ _ _ _ zy) ?_;intro w2 aC;have bT:=HB.trans (aC.mono iV);have aT:=ae (dR z8.out (fun g hg=>aC.block g (z8.out.lt g hg).2));obtain⟨c0',OT,wL⟩:=BS.out w2 bT;have oe:=bT.size;rw[cf.out] at oe;have BU:bR b d a w2:=HD.out.later (af KW.out (bT.mono (by rw[cf.out];omega)));have cn:=BU.GL k au;have lbb:=BU.lt;have za:=ae hbm;clear BU aC zy hbm c0 c1 c2;generalize hs:d.now.getD k bE=s at *;have OK:=ae hs;clear hs;go_wp2_with(at_builtin;refine aP rfl _ _ 51 rfl (w.heap.size+1) 9 iS _ 1 16 underlying51 HI.out.1 HI.out.2.1 HI.out.2.2.1 HI.out.2.2.2 rfl dM _ (below f.toNat m.toNat k) (dx (ke d f.toNat (below f.toNat m.toNat k))) rfl (aT.out.alloc _) (some ⟨w2.heap.size,0,none⟩) 1 1 [.string s] rfl ⟨rfl,by simp[Value.oneCell'],ir ⟨_,rfl,fun j u hj=>ug rfl _ _ j u hj⟩⟩ (by have:=za.out;unfold maxLen;omega) (by have:=za.out;omega) (by simp;omega) ?_;intro v3 w3 bw bo);go_roundw
    case rel =>
     refine⟨k+1,oM,gN,?_,bT.trans (((aX _ _).alloc oM _).trans bo)⟩;rw[HE.out.1,NA,HE.out.2,OK.out]
     simpa [dx] using bw
    case measure=>simp[intOf];omega
   ·rw[aa9 hY] at zy;have HE:=ae (xU hY);clear hY;go_wp2_with fail;refine cM (sI _ _ _ _ _ zy) ?_;intro w2 aC;have bT:=HB.trans (aC.mono iV);have aT:=ae (dR z8.out (fun g hg=>aC.block g (z8.out.lt g hg).2));clear aC zy c0 c1 c2;go_wp2;go_roundw
    case rel=>exact⟨k+1,oM,gN,by rw[HE.out];exact aT.out,bT⟩
    case measure=>simp[intOf];omega
  ·have WD:k=32:=oM;subst WD;obtain⟨b1,b2,b3,b4,b5⟩:=et.out;have hall:below f.toNat m.toNat 32=m.toNat:=xT oM;rw[hall] at z8;obtain⟨xa,xc,rfl,cZ,oK,qx⟩:=zR z8.out (vj _ _ _).symm;have aL:=ae (⟨cZ,oK,qx⟩:_/\_/\_);clear cZ oK qx b1 b2 b3 b4 b5 hall;go_wp2;go_ret;exact⟨xa,xc,rfl,aL.out.1,aL.out.2.1,fun ad e=>Nat.le_of_succ_le (aL.out.2.2 ad e),KW.out.trans (HB.mono oM)⟩
def Dl.cL(d:Dl)(r:Rq)(n:Nat):Dl:=(List.range n).foldl (fun d j=>d.write (r.f.toNat+j) (r.data.getD j bE)) d
theorem Dl.fJ(d:Dl)(r:Rq)(n:Nat):d.cL r (n+1)=(d.cL r n).write (r.f.toNat+n) (r.data.getD n bE):=by simp[Dl.cL,afU]
theorem cP.later{b:Nat}{d d':Dl}{a a':An}{w w' eZ:World}(h:cP b d a d' a' w w')(hb:bL w' eZ):cP b d a d' a' w eZ:=⟨h.dev.later hb,h.only.later hb,h.ay⟩
theorem cP.same{b:Nat}{d:Dl}{a:An}{w w':World}(h:bR b d a w)(hb:bL w w'):cP b d a d a w w':=⟨h.later hb,aH.cj hb,fun _ hk=>il hk⟩
def hZ(w:World)(q:Nat)(r:Rq):Prop:=w.cell? ⟨q,0,none⟩=some (.bool r.wr)/\w.cell? ⟨q,1,none⟩=some (i6 r.f)/\w.cell? ⟨q,2,none⟩=some (i6 r.m)/\w.cell? ⟨q,3,none⟩=some (.slice r.da r.data.length r.dc)/\w.cell? ⟨q,4,none⟩=some (.slice r.ta r.tags.length r.tc)/\w.cell? ⟨q,5,none⟩=some (i6 r.born)
theorem hZ.only{F:Nat->Prop}{w w':World}{q:Nat}{r:Rq}(h:hZ w q r)(hO:aH F w w')(hn:¬F q):hZ w' q r:=by
 obtain⟨h0,h1,h2,h3,h4,h5⟩:=h;have hl:=aq h0;exact⟨(hO.cell (p:=⟨q,0,none⟩) hl hn).trans h0,(hO.cell (p:=⟨q,1,none⟩) hl hn).trans h1,(hO.cell (p:=⟨q,2,none⟩) hl hn).trans h2,(hO.cell (p:=⟨q,3,none⟩) hl hn).trans h3,(hO.cell (p:=⟨q,4,none⟩) hl hn).trans h4,(hO.cell (p:=⟨q,5,none⟩) hl hn).trans h5⟩
theorem hZ.later{w w':World}{q:Nat}{r:Rq}(h:hZ w q r)(hb:bL w w'):hZ w' q r:=h.only (F:=fun _=>False) (aH.cj hb) (fun e=>e)
theorem mv(w:World)(T:TypeId)(r:Rq):hZ (w.alloc (.cells #[.bool r.wr,i6 r.f,i6 r.m,.slice r.da r.data.length r.dc,.slice r.ta r.tags.length r.tc,i6 r.born] T)) w.heap.size r:=by
 refine⟨?_,?_,?_,?_,?_,?_⟩<;>simp
theorem We(b:Nat)(d:Dl)(a:An)(r:Rq)(w:World)(h:bR b d a w)(gr:bz r)(hw:r.wr=true)(hr:r.At w)(ho:r.dB (a.ay b)) :
 Calls prog 180 #[.pointer (some ⟨b,0,none⟩),r.val] w fun e w'=>∃a',e=.returned (.slice none 0 0)/\cP b d a (d.cL r r.m.toNat) a' w w':=by
 have et:=ae gr.GJ;have D6:=ae (BR r gr);have tL:(r.data.length:Int)=r.m:=by
  have:=gr.shape;simp only[kY,hw,afj,aba] at this;exact this
 have RH:=ae tL;have HD:=ae h;have hl:=h.lt;have eA:=aA w (.cells #[.bool r.wr,i6 r.f,i6 r.m,.slice r.da r.data.length r.dc,.slice r.ta r.tags.length r.tc,i6 r.born] 146);have hX:=mv w 146 r;have HR:=ae (hr.later eA);have HO:=ae ho;have HW:=ae hw;clear h gr tL hr ho hw;go_enter func180,ntmps180;go_wp2_with fail;generalize A9:w.alloc (.cells #[.bool r.wr,i6 r.f,i6 r.m,.slice r.da r.data.length r.dc,.slice r.ta r.tags.length r.tc,i6 r.born] 146)=w1 at *;have eI:w1.heap.size=w.heap.size+1:=by rw[<-A9];simp
 have cf:=ae eI;have HX:=ae hX;have aN:=ae eA;clear A9 eI hX eA
 go_loopw[5,9] (fun v i wr=>∃(k:Nat) (a':An),k<=32/\i=i6 k/\v=.slice none 0 0/\cP b d a (d.cL r (below r.f.toNat r.m.toNat k)) a' w1 wr) (fun _ i _=>32-(intOf i).toNat)
 case atStart=>exact⟨0,a,oM,rfl,rfl,by simpa [below,Dl.cL] using cP.same (HD.out.later aN.out) (aX _ _)⟩
 case round =>
  obtain⟨k,a',hk,rfl,rfl,cZ⟩:=hrel;have aL:=ae cZ;have nq:¬a.ay b w.heap.size:=fun e=>by have:=HD.out.bC _ e;omega
  have cA:=HX.out.only aL.out.only nq;have FA:=ae (HR.out.frame HO.out aL.out.only);clear cZ nq
  by_cases au:k<32
  ·have zy:=D6.out k au;have gC:(k:Int)<32:=oM;obtain⟨b1,b2,b3,b4,b5⟩:=et.out
   by_cases hY:r.f.toNat<=k/\k<r.f.toNat+r.m.toNat
   ·rw[aa1 hY] at zy;obtain⟨e1,e2⟩:=Ad hY.1 hY.2;have HE:=ae (⟨e1,e2⟩:_/\_);have hwp:wrap64 ((k:Int)-r.f)=((below r.f.toNat r.m.toNat k:Nat):Int):=by unfold wrap64;omega
    have pM:below r.f.toNat r.m.toNat k<r.data.length:=by have:=RH.out;omega
    have Kn:=ae hwp;have Ye:=ae zy;obtain⟨x0,x1,x2,x3,x4,x5⟩:=id cA;have lx:=aq x0;rw[HW.out] at x0;clear e1 e2 hY hwp b1 b2 b3 b4 b5 zy;go_wp2_with fail;refine cM (sI _ _ _ _ _ Ye.out) ?_;intro w2 aC;obtain⟨y0,y1,y2,y3,y4,y5⟩:=cA.later aC;rw[HW.out] at y0;clear x0 x1 x2 x3 x4 x5;go_wp2_with fail;refine cM (G6 { r with wr:=true } r.data r.da r.dc 0 k _ (FA.out.data.later aC) Ye.out _ Kn.out pM _ rfl) ?_;intro w3 bo;have El:=ae ((aL.out.later aC).later bo);go_wp2_with fail;refine(Vt b _ a' k _ _ El.out.dev au).mono ?_;rintro e w4 ⟨a4,rfl,acV⟩;have yK:=ae (El.out.trans acV);clear acV aC bo y0 y1 y2 y3 y4 y5 FA cA;go_wp2;go_roundw
    case rel =>
     refine⟨k+1,a4,oM,gN,rfl,?_⟩;rw[HE.out.1,Dl.fJ,HE.out.2,abd,aaX pM,acO];exact yK.out
    case measure=>simp[intOf];omega
   ·rw[aa9 hY] at zy;have HE:=ae (xU hY);have Ye:=ae zy;obtain⟨x0,x1,x2,x3,x4,x5⟩:=id cA;clear hY b1 b2 b3 b4 b5 zy;go_wp2_with fail;refine cM (sI _ _ _ _ _ Ye.out) ?_;intro w2 aC;have tR:=ae (aL.out.later aC);clear aC x0 x1 x2 x3 x4 x5 FA cA;go_wp2;go_roundw
    case rel=>exact⟨k+1,a',oM,gN,rfl,by rw[HE.out];exact tR.out⟩
    case measure=>simp[intOf];omega
  ·have WD:k=32:=oM;subst WD;obtain⟨b1,b2,b3,b4,b5⟩:=et.out;have hall:below r.f.toNat r.m.toNat 32=r.m.toNat:=xT oM;rw[hall] at aL;clear hall b1 b2 b3 b4 b5 FA cA;go_wp2;go_ret;exact⟨a',rfl,(cP.same HD.out aN.out).trans aL.out⟩
def Dl.flush(d:Dl):Dl:={ d with bO:=d.now,wr:=[],next:=0 }
theorem xH(l:List ByteArray):∀v∈dx l,v.oneCell'=true:=by
 intro v hv;simp only[dx,acM] at hv;obtain⟨s,_,rfl⟩:=hv
 rfl
theorem PJ(d:Dl)(a:An)(l:List ByteArray)(h1:d.now.length=32)(h2:d.bO.length=32)(h3:l.length=32):splice (d.cells a) 32 (dx l)=({ d with bO:=l }:Dl).cells a:=by
 have e1:(dx d.now).length=32:=by rw[aS,h1]
 have e2:(dx d.bO).length=32:=by rw[aS,h2]
 have e3:(dx l).length=32:=by rw[aS,h3]
 rw[splice,Dl.cells,Dl.cells,e3,abp,abT oM,abv oM,afu,acA oM,abJ,e1,show 32+32-32=32 from oM,afu,acA oM,abJ,e2,afC,agD,abp]
theorem Se(d:Dl)(a:An)(l:List ByteArray)(h1:d.now.length=32)(h3:l.length=32):splice (d.cells a) 0 (dx l)=({ d with now:=l }:Dl).cells a:=by
 have e1:(dx d.now).length=32:=by rw[aS,h1]
 have e3:(dx l).length=32:=by rw[aS,h3]
 rw[splice,Dl.cells,Dl.cells,e3,afv,abJ,abp,afu,acA oM,abJ,e1,show 0+32-32=0 from oM,agD,abp]
theorem bR.sd{b:Nat}{d d':Dl}{a a':An}{w w':World}(h:bR b d a w)(hO:aH (fun k=>k=b) w w')(ua:w'.heap[b]?=some (.cells (d'.cells a').toArray 108 (0,0)))
 (hw:(d'.wr=d.wr/\a'.wa=a.wa/\a'.wc=a.wc)\/(d'.wr=[]/\a'.wa=none/\a'.wc=0)) (hb:(d'.busy=d.busy/\a'.ba=a.ba/\a'.bc=a.bc)\/(d'.busy=[]/\a'.ba=none/\a'.bc=0)) (dv:d'.now.length=32) (fY:d'.bO.length=32) (pX:d'.next<64):cP b d a d' a' w w':=by
 have mD:∀k,a'.ay b k->a.ay b k:=by
  rintro k (e|⟨p,hp,e⟩|⟨p,hp,e⟩)
  ·exact il e
  ·rcases hw with⟨_,h2,_⟩|⟨_,h2,_⟩
   ·rw[h2] at hp;exact ir (il ⟨p,hp,e⟩)
   ·rw[h2] at hp;cases hp
  ·rcases hb with⟨_,h2,_⟩|⟨_,h2,_⟩
   ·rw[h2] at hp;exact ir (ir ⟨p,hp,e⟩)
   ·rw[h2] at hp;cases hp
 refine⟨?_,hO.mono (fun k hk=>il hk),fun k hk=>il (mD k hk)⟩;exact {
  dv:=dv
  fY:=fY
  a7:=ua
  jH:=by
   rcases hw with⟨h1,h2,h3⟩|⟨h1,h2,h3⟩
   ·rw[h1,h2,h3];exact dR h.jH fun g hg=>by
     obtain⟨p,hp,rfl⟩:=bG.1 hg;exact hO.block _ (h.CB p hp) (h.jl p hp)
   ·rw[h1,h2,h3];exact abg _ _ _ _
  oa:=by
   rcases hb with⟨h1,h2,h3⟩|⟨h1,h2,h3⟩
   ·rw[h1,h2,h3];exact dR h.oa fun g hg=>by
     obtain⟨p,hp,rfl⟩:=bG.1 hg;exact hO.block _ (h.blt p hp) (h.qK p hp)
   ·rw[h1,h2,h3];exact abg _ _ _ _
  jl:=fun p hp=>by
   rcases hw with⟨_,h2,_⟩|⟨_,h2,_⟩
   ·rw[h2] at hp;exact h.jl p hp
   ·rw[h2] at hp;cases hp
  qK:=fun p hp=>by
   rcases hb with⟨_,h2,_⟩|⟨_,h2,_⟩
   ·rw[h2] at hp;exact h.qK p hp
   ·rw[h2] at hp;cases hp
  qq:=fun p q hp hq=>by
   rcases hw with⟨_,h2,_⟩|⟨_,h2,_⟩
   ·rcases hb with⟨_,k2,_⟩|⟨_,k2,_⟩
    ·rw[h2] at hp;rw[k2] at hq;exact h.qq p q hp hq
    ·rw[k2] at hq;cases hq
   ·rw[h2] at hp;cases hp
  reqs:=fun r hr=>by
   rcases hb with⟨h1,_,_⟩|⟨h1,_,_⟩
   ·rw[h1] at hr;have:=h.reqs r hr;exact⟨this.1.frame (F:=fun k=>k=b) (this.2.mono fun k hk=>il hk) hO,this.2.mono mD⟩
   ·rw[h1] at hr;cases hr
  kn:=by
   rcases hw with⟨h1,_,_⟩|⟨h1,_,_⟩
   ·rw[h1];exact h.kn
   ·rw[h1];simp
  xv:=by
   rcases hw with⟨h1,_,_⟩|⟨h1,_,_⟩
   ·rw[h1];exact h.xv
   ·rw[h1];simp
  gQ:=by
   rcases hb with⟨h1,_,_⟩|⟨h1,_,_⟩
   ·rw[h1];exact h.gQ
   ·rw[h1];simp
  pX:=pX }
theorem bR.Es{b:Nat}{d:Dl}{a:An}{w:World}(h:bR b d a w):w.rangeAt b 0 (dx d.now):=fun j v hv=>by
 have hj:j<32:=by
  have:=(acp.1 hv).1;rw[aS,h.dv] at this;exact this
 rw[abc,aR h.a7,Dl.cells,abp,abU (by rw[aS,h.dv];exact hj)];exact hv
theorem bR.I4{b:Nat}{d:Dl}{a:An}{w:World}(h:bR b d a w):w.rangeAt b 32 (dx d.bO):=fun j v hv=>by
 have hj:j<32:=by
  have:=(acp.1 hv).1;rw[aS,h.fY] at this;exact this
 rw[aR h.a7,Dl.cells,abp,abZ (by rw[aS,h.dv];omega),aS,h.dv,show 32+j-32=j from oM,abU (by rw[aS,h.fY];exact hj)];exact hv
theorem bR.there{b:Nat}{d:Dl}{a:An}{w:World}(h:bR b d a w)(o n:Nat)(ho:o+n<=67):w.there b o n:=fun j hj=>by
 refine⟨?_,h.fz _⟩;rw[aR h.a7,aaX (by rw[Dl.lP h.dv h.fY];omega)]
 rfl
theorem rp:(prog.info? 45).map (·.size)=some 32:=kR
theorem qs(b:Nat)(vs:List Value)(o:Nat)(w:World):aH (fun k=>k=b) w (w.setCells b o vs):=rG (F:=fun k=>k=b) b (il rfl) vs o w (aH.refl _ _)
theorem BG(b:Nat)(d:Dl)(a:An)(w:World)(h:bR b d a w) :
 Calls prog 144 #[.pointer (some ⟨b,0,none⟩)] w fun e w'=>e=.returned (.tuple #[])/\cP b d a d.flush { a with wa:=none,wc:=0 } w w':=by
 have HD:=ae h;have hl:=h.lt;have e32:(dx d.now).length=32:=by rw[aS];exact h.dv
 have HE:=ae e32;have D9:=kQ b 108 (dx d.now) 32 (d.cells a) w h.a7 (by rw[e32,Dl.lP h.dv h.fY];omega);rw[PJ d a d.now h.dv h.fY h.dv] at D9;have pG:=(aR D9 64).trans (Dl.E4 h.dv h.dv);have j8:=(aR D9 65).trans (Dl.E5 h.dv h.dv);have f64:=cG D9 64;have f65:=cG D9 65;have aN:=ae D9;clear h e32 D9;go_enter func144,ntmps144;go_wp2_with(first|(refine wpList_load_mid rfl 45 (.tmp 5) rfl b 0 rfl (dx d.now) _ HD.out.Es underlying45 rfl (by rw[HE.out];exact rp) ?_)|(refine wpList_store_mid rfl 45 (.tmp 8) (.tmp 6) rfl b 32 (dx d.now).toArray rfl rfl (by rw[acB,HE.out];exact HD.out.there 32 32 oM) (by rw[acB,HE.out];exact rp) (all_oneCell_toArray (xH _)) ?_;simp only));go_end0;refine⟨rfl,HD.out.sd (((qs b (dx d.now) 32 w).setCell ⟨b,64,none⟩ (il rfl) _).setCell ⟨b,65,none⟩ (il rfl) _) ?_ (ir ⟨rfl,rfl,rfl⟩) (il ⟨rfl,rfl,rfl⟩) HD.out.dv HD.out.dv (by simp[Dl.flush])⟩;rw[bJ (bJ aN.out 64 _) 65 _];have e1:=Du ({ d with bO:=d.now }:Dl) a [] none 0 HD.out.dv HD.out.dv;have e2:=Dv ({ d with bO:=d.now,wr:=[] }:Dl) { a with wa:=none,wc:=0 } 0 HD.out.dv HD.out.dv;simp only[af7] at e1;rw[e1];exact acT (fun l:List Value=>some (Obj.cells l.toArray 108 (0,0))) e2
def ng(kp:Int)(n:Nat):Bool:=bits BinOp.and IntKind.u64 (kp / 2 ^ n) 1==1
def gR(kp:Int)(l:List Wn)(now:List ByteArray):List ByteArray:=l.foldl (fun n x=>if ng kp x.bit=true then n.set x.pl x.data else n) now
def Dl.fs(d:Dl)(kp:Int):Dl:=({ d with busy:=[],now:=gR kp d.wr d.bO }:Dl).flush
theorem Ju(kp:Int)(l:List Wn):∀now,(gR kp l now).length=now.length:=by
 induction l with
 |nil=>intro now;rfl
 |cons x l ih =>
  intro now;show(gR kp l (if ng kp x.bit=true then now.set x.pl x.data else now)).length=_;rw[ih];split<;>simp
theorem yL(kp:Int)(l:List Wn)(x:Wn)(now:List ByteArray):gR kp (l++[x]) now=if ng kp x.bit=true then(gR kp l now).set x.pl x.data else gR kp l now:=by simp[gR]
theorem cP.adt{b:Nat}{d0 d:Dl}{a0 a:An}{w w':World}(h:cP b d0 a0 d a w w'){p:Nat}(hp:p<32)(s:ByteArray):cP b d0 a0 { d with now:=d.now.set p s } a w (w'.setCell ⟨b,p,none⟩ (.string s)) :=
 h.trans ⟨h.dev.Cu p _ (Bw d a p s h.dev.dv hp) rfl rfl (by simpa using h.dev.dv) h.dev.fY h.dev.pX,(aH.refl (a.ay b) w').setCell ⟨b,p,none⟩ (il (il rfl)) _,fun k hk=>il hk⟩
theorem oY{b:Nat}{d:Dl}{a:An}{w:World}(h:bR b d a w):cP b d a { d with busy:=[],now:=d.bO } { a with ba:=none,bc:=0 } w ((w.setCell ⟨b,66,none⟩ (.slice none 0 0)).setCells b 0 (dx d.bO))/\bR b { d with busy:=[] } { a with ba:=none,bc:=0 } (w.setCell ⟨b,66,none⟩ (.slice none 0 0)):=by
 have S1:cP b d a { d with busy:=[] } { a with ba:=none,bc:=0 } w (w.setCell ⟨b,66,none⟩ (.slice none 0 0)) :=
  h.sd ((aH.refl (fun k=>k=b) w).setCell ⟨b,66,none⟩ (il rfl) _) (by rw[bJ h.a7,<-Dw d a [] none 0 h.dv h.fY];rfl) (il ⟨rfl,rfl,rfl⟩) (ir ⟨rfl,rfl,rfl⟩) h.dv h.fY h.pX
 have eg:(dx d.bO).length=32:=by rw[aS];exact h.fY
 have abH:=kQ b 108 (dx d.bO) 0 _ _ S1.dev.a7 (by rw[eg,Dl.lP S1.dev.dv S1.dev.fY];omega);rw[Se _ _ d.bO S1.dev.dv S1.dev.fY] at abH;exact⟨S1.trans (S1.dev.sd (qs b (dx d.bO) 0 _) abH (il ⟨rfl,rfl,rfl⟩) (il ⟨rfl,rfl,rfl⟩) h.fY h.fY h.pX),S1.dev⟩
theorem PO(b:Nat)(d:Dl)(g wc:Nat)(ba:Option Addr)(bc:Nat)(kp:Int)(_hkp:0<=kp/\kp<=18446744073709551615)(w:World)(h:bR b d ⟨some ⟨g,0,none⟩,wc,ba,bc⟩ w) :
 Calls prog 95 #[.pointer (some ⟨b,0,none⟩),.int .u64 kp] w fun e w'=>∃a',e=.returned (.tuple #[])/\cP b d ⟨some ⟨g,0,none⟩,wc,ba,bc⟩ (d.fs kp) a' w w':=by
 have HD:=ae h;have hl:=h.lt;have zm:=h.zm;have f66:=h.fz 66;have HE:Hid ((dx d.bO).length=32):=(by show _=_;rw[aS];exact h.fY);have S2:=ae (oY h).1;have cf:=ae (oY h).2;have pG:=(oY h).1.dev.pG;clear h;go_enter func95,ntmps95;go_wp2_with(first|(refine wpList_load_mid rfl 45 (.tmp 12) rfl b 32 rfl (dx d.bO) _ cf.out.I4 underlying45 rfl (by rw[HE.out];exact rp) ?_)|(refine wpList_store_mid rfl 45 (.tmp 15) (.tmp 13) rfl b 0 (dx d.bO).toArray rfl rfl (by rw[acB,HE.out];exact cf.out.there 0 32 oM) (by rw[acB,HE.out];exact rp) (all_oneCell_toArray (xH _)) ?_;simp only));refine ei (fun wK=>cP b d ⟨some ⟨g,0,none⟩,wc,ba,bc⟩ { d with busy:=[],now:=d.bO } ⟨some ⟨g,0,none⟩,wc,none,0⟩ w wK) S2.out ?_;clear S2 cf pG zm f66;intro w2 h2;have H2:=ae h2;clear h2
 go_loopw[21] (fun i wr=>∃k:Nat,k<=d.wr.length/\i=i6 k/\cP b d ⟨some ⟨g,0,none⟩,wc,ba,bc⟩ { d with busy:=[],now:=gR kp (d.wr.take k) d.bO } ⟨some ⟨g,0,none⟩,wc,none,0⟩ w wr) (fun i _=>d.wr.length-(intOf i).toNat)
 case atStart=>exact⟨0,oM,rfl,H2.out⟩
 case round =>
  obtain⟨k,hk,rfl,hs⟩:=hrel;have HS:=ae hs;have oN:=vT hs.dev.jH;have Eh:=hs.dev.kn;have lbr:=hs.dev.lt;have Lr:=hs.dev.adD;simp only at oN Eh Lr;clear hs
  by_cases au:k<d.wr.length
  ·rcases oN with e|⟨g',hg,hcs⟩
   ·rw[e] at au;exact absurd au (aa0 _)
   simp only[aa4,aci,acS] at hg;obtain rfl:=hg;obtain⟨c0,c1,c2⟩:=hcs k au;obtain⟨p1,p2⟩:=Eh _ (aa5 au);clear hcs Eh;have lg:=aq c0;have B2:d.wr.take (k+1)=d.wr.take k++[d.wr[k]]:=abz au;have Ib:=ae B2;generalize d.wr[k]=x at *;have gC:(k:Int)<(d.wr.length:Int):=oM;have Ug:(x.pl:Int)<32:=oM;have cN:=HS.out.dev.GL x.pl p1;have fN:=HS.out.dev.fz x.pl;clear B2
   cases uN:ng kp x.bit
   ·have hJ:(bits BinOp.and IntKind.u64 (kp / 2 ^ x.bit) 1==1)=false:=uN;have J5:=ae uN;clear uN;go_wp2;refine⟨⟨k+1,oM,gN,?_⟩,by simp[intOf];omega⟩;rw[Ib.out,yL,J5.out,aaP sM];exact HS.out.later (aA _ _)
   ·have hJ:(bits BinOp.and IntKind.u64 (kp / 2 ^ x.bit) 1==1)=true:=uN;have J5:=ae uN;clear uN;go_wp2_with fail
    go_region
    go_wp2;refine⟨⟨k+1,oM,gN,?_⟩,by simp[intOf];omega⟩;rw[Ib.out,yL,aaV J5.out];exact((HS.out.adt p1 x.data).later (aA _ _)).pI
  ·have yh:k=d.wr.length:=oM;subst yh;rw[aff] at HS;go_wp2_with fail;refine cM (BG b _ _ _ HS.out.dev) ?_;intro w3 Bb;have eV:=ae (HS.out.trans Bb);clear Bb;go_wp2;go_end0;exact⟨_,rfl,eV.out⟩
theorem So(b:Nat)(d:Dl)(a:An)(kp:Int)(_hkp:0<=kp/\kp<=18446744073709551615)(w:World)(h:bR b d a w)(h0:d.wr=[]) :
 Calls prog 95 #[.pointer (some ⟨b,0,none⟩),.int .u64 kp] w fun e w'=>∃a',e=.returned (.tuple #[])/\cP b d a (d.fs kp) a' w w':=by
 have BY:d.wr.length=0:=by rw[h0];rfl
 have H0:=ae h0;clear h0;have HD:=ae h;have hl:=h.lt;have zm:=h.zm;have f66:=h.fz 66;have HE:Hid ((dx d.bO).length=32):=(by show _=_;rw[aS];exact h.fY);have S2:=ae (oY h).1;have cf:=ae (oY h).2;have pG:=(oY h).1.dev.pG;clear h;go_enter func95,ntmps95;go_wp2_with(first|(refine wpList_load_mid rfl 45 (.tmp 12) rfl b 32 rfl (dx d.bO) _ cf.out.I4 underlying45 rfl (by rw[HE.out];exact rp) ?_)|(refine wpList_store_mid rfl 45 (.tmp 15) (.tmp 13) rfl b 0 (dx d.bO).toArray rfl rfl (by rw[acB,HE.out];exact cf.out.there 0 32 oM) (by rw[acB,HE.out];exact rp) (all_oneCell_toArray (xH _)) ?_;simp only));have eg:gR kp d.wr d.bO=d.bO:=by rw[H0.out];rfl
 refine ei (fun wK=>cP b d a { d with busy:=[],now:=gR kp d.wr d.bO } { a with ba:=none,bc:=0 } w wK) (by rw[eg];exact S2.out) ?_;clear S2 cf pG zm f66 eg;intro w2 h2;have H2:=ae h2;clear h2
 go_loopw[21] (fun i wr=>i=i6 0/\cP b d a { d with busy:=[],now:=gR kp d.wr d.bO } { a with ba:=none,bc:=0 } w wr) (fun _ _=>0)
 case atStart=>exact⟨rfl,H2.out⟩
 case round =>
  obtain⟨rfl,hs⟩:=hrel;have HS:=ae hs;clear hs;go_wp2_with fail;refine cM (BG b _ _ _ HS.out.dev) ?_;intro w3 Bb;have eV:=ae (HS.out.trans Bb);clear Bb;go_wp2;go_end0;exact⟨_,rfl,eV.out⟩
theorem Sn(b:Nat)(d:Dl)(a:An)(kp:Int)(To:0<=kp/\kp<=18446744073709551615)(w:World)(h:bR b d a w) :
 Calls prog 95 #[.pointer (some ⟨b,0,none⟩),.int .u64 kp] w fun e w'=>∃a',e=.returned (.tuple #[])/\cP b d a (d.fs kp) a' w w':=by
 rcases vT h.jH with e|⟨g,hg,_⟩
 ·exact So b d a kp To w h e
 ·obtain⟨wa,wc,ba,bc⟩:=a;simp only at hg;subst hg;exact PO b d g wc ba bc kp To w h
abbrev px:Value:=.agg #[.bool false,i6 0,i6 0,.slice none 0 0,.slice none 0 0,i6 0,.slice none 0 0,i6 0]
theorem Wi(b:Nat)(d:Dl)(a:An)(i:Int)(fl:Bool)(w:World)(h:bR b d a w)(hi:i<0\/(d.busy.length:Int)<=i) :
 Calls prog 133 #[.pointer (some ⟨b,0,none⟩),i6 i,.bool fl] w (rB (.tuple #[px,.iface 87 (i6 5)]) w):=by
 have c:=h.zm;have hl:=h.lt;clear h
 by_cases h0:i<0
 ·go_enter func133,ntmps133;go_wp2;exact aaY (v:=.tuple #[px,.iface 87 (i6 5)]) (by simp[results,results133,go_sem]) rfl ⟨rfl,bQ⟩
 ·have h1:(d.busy.length:Int)<=i:=oM;go_enter func133,ntmps133;go_wp2;exact aaY (v:=.tuple #[px,.iface 87 (i6 5)]) (by simp[results,results133,go_sem]) rfl ⟨rfl,bQ⟩
theorem aH.xx{w:World}{q o:Nat}(v:Value):aH (fun k=>k=q) w (w.setCell ⟨q,o,none⟩ v):=(aH.refl (fun k=>k=q) w).setCell ⟨q,o,none⟩ (il rfl) v
theorem cP.Ms{b:Nat}{d d':Dl}{a a':An}{w w':World}(h:cP b d a d' a' w w')(hd:bR b d a w)(hs:∀r∈d'.busy,r∈d.busy){q:Nat}(hq:w.heap.size<=q)(hn:¬a'.ay b q)(o:Nat)(v:Value):cP b d a d' a' w (w'.setCell ⟨q,o,none⟩ v) :=
 ⟨h.dev.frame (aH.xx v) (fun k hk e=>hn (e▸hk)) (fun r hr=>by
  have eB:=(hd.reqs r (hs r hr)).1;exact⟨fun he ad ha e=>by have:=zQ eB.data he ha;omega,fun he ad ha e=>by have:=sa eB.tags he ha;omega⟩),
  h.only.setCell ⟨q,o,none⟩ (ir hq) v,h.ay⟩
def ns(w:World)(q:Nat):Prop:=(w.cell? ⟨q,0,none⟩=some (.bool false)/\w.cell? ⟨q,1,none⟩=some (i6 0)/\w.cell? ⟨q,2,none⟩=some (i6 0)/\w.cell? ⟨q,3,none⟩=some (.slice none 0 0)/\w.cell? ⟨q,4,none⟩=some (.slice none 0 0)/\w.cell? ⟨q,5,none⟩=some (i6 0)/\w.cell? ⟨q,6,none⟩=some (.slice none 0 0)/\w.cell? ⟨q,7,none⟩=some (i6 0))/\(∀o,w.frozen? ⟨q,o,none⟩=false)/\q<w.heap.size
theorem ns.only{F:Nat->Prop}{w w':World}{q:Nat}(h:ns w q)(hO:aH F w w')(hn:¬F q):ns w' q:=by
 obtain⟨⟨h0,h1,h2,h3,h4,h5,h6,h7⟩,hf,hl⟩:=h;exact⟨⟨(hO.cell (p:=⟨q,0,none⟩) hl hn).trans h0,(hO.cell (p:=⟨q,1,none⟩) hl hn).trans h1,(hO.cell (p:=⟨q,2,none⟩) hl hn).trans h2,(hO.cell (p:=⟨q,3,none⟩) hl hn).trans h3,(hO.cell (p:=⟨q,4,none⟩) hl hn).trans h4,(hO.cell (p:=⟨q,5,none⟩) hl hn).trans h5,(hO.cell (p:=⟨q,6,none⟩) hl hn).trans h6,(hO.cell (p:=⟨q,7,none⟩) hl hn).trans h7⟩,fun o=>(hO.frozen (p:=⟨q,o,none⟩) hl hn).trans (hf o),abF hl hO.size⟩
theorem eN(w:World)(T:TypeId):ns (w.alloc (.cells #[.bool false,i6 0,i6 0,.slice none 0 0,.slice none 0 0,i6 0,.slice none 0 0,i6 0] T)) w.heap.size:=by
 refine⟨⟨?_,?_,?_,?_,?_,?_,?_,?_⟩,fun o=>?_,?_⟩<;>simp
theorem bR.place{b:Nat}{d:Dl}{a:An}{w:World}(h:bR b d a w){k:Nat}(hk:k<d.busy.length):∃g,a.ba=some ⟨g,0,none⟩/\g<w.heap.size:=by
 obtain⟨x,cx,hv,h1,h2,_⟩:=iA h.oa;simp only[abV,afs] at hv;obtain⟨rfl,rfl⟩:=hv
 cases ha:a.ba with
 |none =>
  have:=h.Ch.form;rw[ha] at this
  rcases this with e|⟨_,_,e⟩
  ·rw[e] at hk;exact absurd hk (aa0 _)
  ·cases e
 |some ad =>
  obtain⟨g,rfl⟩:=h2 ad ha;exact⟨g,rfl,h.blt _ ha⟩
theorem PX{b:Nat}{d:Dl}{a:An}{w w2 w3:World}{k g:Nat}{r:Rq}(h:bR b d a w)(hk:k<d.busy.length)(oJ:a.ba=some ⟨g,0,none⟩)(hb:bL w w2)(hz:ns w2 w.heap.size)(hx:hZ w2 (w.heap.size+1) r)
 (bu:w3.ownsRow 0 146 6 (.slice (some ⟨g,0,none⟩) (d.busy.eraseIdx k).length a.bc) (d.busy.eraseIdx k).length (a8 (d.busy.eraseIdx k))) (hg:w2.grownBy w3 (some g)) :
 (w3.cell? ⟨b,66,none⟩=some (.slice (some ⟨g,0,none⟩) d.busy.length a.bc)/\w3.frozen? ⟨b,66,none⟩=false/\b<w3.heap.size)/\∃a',cP b d a { d with busy:=d.busy.eraseIdx k } a' w (w3.setCell ⟨b,66,none⟩ (.slice (some ⟨g,0,none⟩) (d.busy.eraseIdx k).length a.bc))/\ns (w3.setCell ⟨b,66,none⟩ (.slice (some ⟨g,0,none⟩) (d.busy.eraseIdx k).length a.bc)) w.heap.size/\hZ (w3.setCell ⟨b,66,none⟩ (.slice (some ⟨g,0,none⟩) (d.busy.eraseIdx k).length a.bc)) (w.heap.size+1) r/\¬a'.ay b w.heap.size/\¬a'.ay b (w.heap.size+1):=by
 have O7:(Value.slice a.ba d.busy.length a.bc).ownBlock=some g:=bG.2 ⟨_,oJ,rfl⟩;have k66:=h.TY hb (by rw[O7];exact hg);rw[oJ] at k66;have au:=h.lt;have yf:=h.blt _ oJ;have Ba:(d.busy.eraseIdx k).length<=2:=by rw[ab7,aaV hk];have:=h.gQ;omega
 obtain⟨x,c,e,cZ⟩:=h.wG hb (d.busy.eraseIdx k) Ba (fun q hq=>h.reqs q (abo hq)) bu (by rw[O7];exact hg) (fun g' sJ=>il ⟨_,oJ,by simpa [Value.ownBlock] using sJ.symm⟩);simp only[abV,afs] at e;obtain⟨rfl,rfl⟩:=e;have hO:aH (fun i=>i=g\/i=b) w2 (w3.setCell ⟨b,66,none⟩ (.slice (some ⟨g,0,none⟩) (d.busy.eraseIdx k).length a.bc)) :=
  ((aH.refl (fun i=>i=g\/i=b) w2).grown hg (fun i hi=>il (il (by simpa using hi.symm)))).setCell ⟨b,66,none⟩ (il (ir rfl)) _
 have mD:∀q,w.heap.size<=q->¬({ a with ba:=some ⟨g,0,none⟩,bc:=a.bc }:An).ay b q:=by
  rintro q hq (e|⟨p,hp,e⟩|⟨p,hp,e⟩)
  ·omega
  ·have:=h.CB p hp;omega
  ·simp only[aa4] at hp;subst hp;simp only at e yf;omega
 exact⟨k66,_,cZ,hz.only hO (by simp only at yf;omega),hx.only hO (by simp only at yf;omega),mD _ (aaO _),mD _ oM⟩
theorem SC(b:Nat)(d:Dl)(a:An)(k:Nat)(hk:k<d.busy.length)(w:World)(h:bR b d a w) :
 Calls prog 133 #[.pointer (some ⟨b,0,none⟩),i6 k,.bool true] w fun e w'=>∃a',e=.returned (.tuple #[fg d.busy[k] none 0 0 8,.nilIface])/\cP b d a { d with busy:=d.busy.eraseIdx k } a' w w':=by
 have hl:=h.lt;have HD:=ae h;have h0:¬(k:Int)<0:=oM;have h1:¬(d.busy.length:Int)<=(k:Int):=oM;have h2:(k:Int)<(d.busy.length:Int):=oM;have vw:(k:Int)<=1:=(by have:=h.gQ;omega);have hR:=h.Ch;have c:=h.zm;obtain⟨g,oJ,lg⟩:=h.place hk;rw[oJ] at hR c;obtain⟨r0,r1,r2,r3,r4,r5⟩:=hR.cells hk;simp only[abc] at r0 r1 r2 r3 r4 r5;have EL:=ae oJ;clear h hR oJ;generalize hr:d.busy[k]=r at *;have qv:=ae hr;clear hr;go_enter func133,ntmps133;go_wp2_with fail;have jN:=(HD.out.later (jo w (.cells #[.bool false,i6 0,i6 0,.slice none 0 0,.slice none 0 0,i6 0,.slice none 0 0,i6 0] 151) (.cells #[.bool r.wr,i6 r.f,i6 r.m,.slice r.da r.data.length r.dc,.slice r.ta r.tags.length r.tc,i6 r.born] 146))).oa;rw[EL.out] at jN;refine(Wa d.busy g a.bc k _ hk jN).mono ?_;rintro e w3 ⟨rfl,bw,r8⟩;have cF:=(eN w 151).only (F:=fun _=>False) ((aH.refl _ _).alloc (.cells #[.bool r.wr,i6 r.f,i6 r.m,.slice r.da r.data.length r.dc,.slice r.ta r.tags.length r.tc,i6 r.born] 146)) (fun e=>e);have kD:=mv (w.alloc (.cells #[.bool false,i6 0,i6 0,.slice none 0 0,.slice none 0 0,i6 0,.slice none 0 0,i6 0] 151)) 146 r;rw[aaW] at kD;obtain⟨⟨c3,f3,l3⟩,a',cZ,DN,yo,Pe,nf8⟩:=PX HD.out hk EL.out (jo w _ _) cF kD bw r8;clear cF kD jN bw r8 r0 r1 r2 r3 r4 r5 c;obtain⟨⟨z0,z1,z2,z3,z4,z5,z6,z7⟩,zf,zl⟩:=DN;obtain⟨x0,x1,x2,x3,x4,x5⟩:=yo;have aL:=ae cZ;clear cZ;generalize hW:w3.setCell ⟨b,66,none⟩ (.slice (some ⟨g,0,none⟩) (d.busy.eraseIdx k).length a.bc)=w4 at *;go_wp2;refine aaY (v:=.tuple #[fg r none 0 0 8,.nilIface]) (by simp[results,results133,go_sem,z0,z1,z2,z3,z4,z5,z6,z7]) rfl ⟨a',rfl,?_⟩
 repeat(first|with_reducible exact aL.out|with_reducible refine cP.Ms ?_ HD.out (fun q hq=>abo hq) (aaO _) Pe _ _|with_reducible refine cP.pI ?_)
theorem yX{P:Program}{ops:Array Oper}{o:Oper}{a:Act}{w:World}{K:Act->World->Prop}{Q:Exit->Act->World->Prop}{E:Prop}
 (hg:o.guard=none) (f:FuncId) (x1 x2:Nat) (t1 t2:TypeId) (qY:o.op=Op.call { callee:=Callee.value (.func f),args:=#[.tmp x1,.tmp x2],argTypes:=#[t1,t2] }) (eg:∀args w,(callFunc f args).run P w=.ok (.enter f args) w)
 (v1 v2:Value) (e1:a.tmps[x1]?.getD undef=v1) (e2:a.tmps[x2]?.getD undef=v2) (R:Value->World->Prop) (hc:Calls P f #[v1,v2] w fun e w'=>∃r,e=.returned r/\R r w') (h:∀r w',R r w'->K (a.put o.dst r) w') :
 if Region.wanted o (yielded ops a.tmps)=true then Oper.wp P o a w K Q else E:=by
 have hw:Region.wanted o (yielded ops a.tmps)=true:=by simp[Region.wanted,hg]
 rw[aaV hw];unfold Oper.wp
 simp[execOp,qY,resolve,invoke,e1,e2,eg,go_sem]
 refine hc.mono ?_;rintro _ w' ⟨r,rfl,hs⟩;exact h r w' hs
theorem uI{w:World}{q q' o:Nat}{r:Rq}{v:Value}(h:hZ w q r)(hn:q ≠ q'):hZ (w.setCell ⟨q',o,none⟩ v) q r:=h.only (aH.xx v) hn
theorem abI{w:World}{q:Nat}{r:Rq}{v0 v1 v2 v3 v4 v5 v6 v7:Value}(h:hZ w (q+1) r):hZ ((((((((w.setCell ⟨q,0,none⟩ v0).setCell ⟨q,1,none⟩ v1).setCell ⟨q,2,none⟩ v2).setCell ⟨q,3,none⟩ v3).setCell ⟨q,4,none⟩ v4).setCell ⟨q,5,none⟩ v5).setCell ⟨q,6,none⟩ v6).setCell ⟨q,7,none⟩ v7) (q+1) r :=
 uI (uI (uI (uI (uI (uI (uI (uI h oM) oM) oM) oM) oM) oM) oM) oM
theorem Dl.oT(d:Dl)(r:Rq)(n:Nat):(d.cL r n).busy=d.busy:=by
 induction n with
 |zero=>rfl
 |succ n ih=>rw[Dl.fJ];exact ih
theorem SD(b:Nat)(d:Dl)(a:An)(k:Nat)(hk:k<d.busy.length)(w:World)(h:bR b d a w)(gr:bz d.busy[k])(hw:d.busy[k].wr=true) :
 Calls prog 133 #[.pointer (some ⟨b,0,none⟩),i6 k,.bool false] w fun e w'=>∃a',e=.returned (.tuple #[fg d.busy[k] none 0 0 0,.nilIface])/\cP b d a (({ d with busy:=d.busy.eraseIdx k }:Dl).cL d.busy[k] d.busy[k].m.toNat) a' w w':=by
 have AU:=ae (h.reqs _ (aa5 hk));have GR:=ae gr;have HW:=ae hw;clear gr hw;have hl:=h.lt;have HD:=ae h;have h0:¬(k:Int)<0:=oM;have h1:¬(d.busy.length:Int)<=(k:Int):=oM;have h2:(k:Int)<(d.busy.length:Int):=oM;have vw:(k:Int)<=1:=(by have:=h.gQ;omega);have hR:=h.Ch;have c:=h.zm;obtain⟨g,oJ,lg⟩:=h.place hk;rw[oJ] at hR c;obtain⟨r0,r1,r2,r3,r4,r5⟩:=hR.cells hk;simp only[abc] at r0 r1 r2 r3 r4 r5;have EL:=ae oJ;clear h hR oJ;generalize hr:d.busy[k]=r at *;have qv:=ae hr;clear hr;go_enter func133,ntmps133;go_wp2_with fail;have jN:=(HD.out.later (jo w (.cells #[.bool false,i6 0,i6 0,.slice none 0 0,.slice none 0 0,i6 0,.slice none 0 0,i6 0] 151) (.cells #[.bool r.wr,i6 r.f,i6 r.m,.slice r.da r.data.length r.dc,.slice r.ta r.tags.length r.tc,i6 r.born] 146))).oa;rw[EL.out] at jN;refine(Wa d.busy g a.bc k _ hk jN).mono ?_;rintro e w3 ⟨rfl,bw,r8⟩;have cF:=(eN w 151).only (F:=fun _=>False) ((aH.refl _ _).alloc (.cells #[.bool r.wr,i6 r.f,i6 r.m,.slice r.da r.data.length r.dc,.slice r.ta r.tags.length r.tc,i6 r.born] 146)) (fun e=>e);have kD:=mv (w.alloc (.cells #[.bool false,i6 0,i6 0,.slice none 0 0,.slice none 0 0,i6 0,.slice none 0 0,i6 0] 151)) 146 r;rw[aaW] at kD;obtain⟨⟨c3,f3,l3⟩,a',cZ,DN,yo,Pe,nf8⟩:=PX HD.out hk EL.out (jo w _ _) cF kD bw r8;clear cF kD jN bw r8 r0 r1 r2 r3 r4 r5 c;have aL:=ae cZ;generalize hW:w3.setCell ⟨b,66,none⟩ (.slice (some ⟨g,0,none⟩) (d.busy.eraseIdx k).length a.bc)=w4 at *;clear cZ;have HS:Hid (hZ w4.drew (w.heap.size+1) r):=yo;have egd:∀args w,Sem.run prog (callFunc 180 args) w=.ok (.enter 180 args) w:=(by intro args w;go_simp);go_wp2_with fail;refine eL (S:=fun wz=>hZ wz (w.heap.size+1) r) (d:=5) kR ?_;refine tK 0 rfl HS.out ?_;(try simp only[Act.put,dP]);refine tK 1 rfl HS.out ?_;(try simp only[Act.put,dP]);refine tK 2 rfl HS.out ?_;(try simp only[Act.put,dP]);refine bn (i:=3) rfl kR ?_;intro K hK;refine yX rfl 180 44 45 42 146 rfl egd (.pointer (some ⟨b,0,none⟩)) r.val rfl rfl (fun v w5=>v=.slice none 0 0/\∃a5,cP b { d with busy:=d.busy.eraseIdx k } a' (({ d with busy:=d.busy.eraseIdx k }:Dl).cL r r.m.toNat) a5 w4.drew w5) ((We b _ a' r _ (aL.out.dev.later (aX _ _).drew) GR.out HW.out ((AU.out.1.frame AU.out.2 aL.out.only).later (aX _ _).drew) (AU.out.2.step AU.out.1 aL.out.ay)).mono fun e w' ⟨a5,he,hs⟩=>⟨_,he,rfl,a5,hs⟩) ?_;rintro v w5 ⟨rfl,a5,Lo⟩;have hz5:=(DN.only (F:=fun _=>False) (aH.refl _ w4).drew (fun e=>e)).only Lo.only Pe;have pg:=ae (HS.out.only Lo.only nf8);have VE:=ae (aL.out.pI.trans Lo);have ae0:¬a5.ay b w.heap.size:=fun e=>(Lo.ay _ e).elim Pe (fun h'=>by have:=DN.2.2;simp at h';omega)
 refine hK _ _ (fun _=>pg.out) ?_
 (try simp only[Act.put,dP])
 clear hK Lo DN;obtain⟨⟨z0,z1,z2,z3,z4,z5,z6,z7⟩,zf,zl⟩:=hz5;refine bn (i:=4) rfl kR ?_;intro K hK;go_simp;refine hK _ _ (fun _=>pg.out) ?_;(try simp only[Act.put,dP]);clear hK;refine bn (i:=5) rfl kR ?_;intro K hK;go_simp;refine hK _ _ (fun h=>absurd rfl h) ?_;(try simp only[Act.put,dP]);clear hK;refine bn (i:=6) rfl kR ?_;intro K hK;go_simp;refine hK _ _ (fun _=>abI pg.out) ?_;(try simp only[Act.put,dP]);clear hK;refine fw kR ?_ _;go_wp2;refine aaY (v:=.tuple #[fg r none 0 0 0,.nilIface]) (by simp[results,results133,go_sem,z0,z1,z2,z3,z4,z5,z6,z7]) rfl ⟨a5,rfl,?_⟩
 repeat(first|with_reducible exact VE.out|with_reducible refine cP.Ms ?_ HD.out (fun q hq=>abo (by rw[Dl.oT] at hq;exact hq)) (aaO _) ae0 _ _|with_reducible refine cP.pI ?_)
theorem XV{w:World}{q o:Nat}{v:Value}{xa:Option Addr}{xs:List ByteArray}(h:StrsAt w xa xs)(hn:∀ad,xa=some ad->ad.block ≠ q):StrsAt (w.setCell ⟨q,o,none⟩ v) xa xs:=gV h (aH.xx v) (fun _ ad ha=>hn ad ha)
theorem Wj(b:Nat)(d:Dl)(a:An)(k:Nat)(hk:k<d.busy.length)(w:World)(h:bR b d a w)(gr:bz d.busy[k])(hw:d.busy[k].wr=false) :
 Calls prog 133 #[.pointer (some ⟨b,0,none⟩),i6 k,.bool false] w fun e w'=>∃a' xa xc,e=.returned (.tuple #[fg d.busy[k] xa (ke d d.busy[k].f.toNat d.busy[k].m.toNat).length xc 0,.nilIface])/\StrsAt w' xa (ke d d.busy[k].f.toNat d.busy[k].m.toNat)/\(xa=none->xc=0)/\(∀ad,xa=some ad->w.heap.size<=ad.block/\¬a'.ay b ad.block)/\cP b d a { d with busy:=d.busy.eraseIdx k } a' w w':=by
 have AU:=ae (h.reqs _ (aa5 hk));have GR:=ae gr;have HW:=ae hw;clear gr hw;have hl:=h.lt;have HD:=ae h;have h0:¬(k:Int)<0:=oM;have h1:¬(d.busy.length:Int)<=(k:Int):=oM;have h2:(k:Int)<(d.busy.length:Int):=oM;have vw:(k:Int)<=1:=(by have:=h.gQ;omega);have hR:=h.Ch;have c:=h.zm;obtain⟨g,oJ,lg⟩:=h.place hk;rw[oJ] at hR c;obtain⟨r0,r1,r2,r3,r4,r5⟩:=hR.cells hk;simp only[abc] at r0 r1 r2 r3 r4 r5;have EL:=ae oJ;clear h hR oJ;generalize hr:d.busy[k]=r at *;have qv:=ae hr;clear hr;go_enter func133,ntmps133;go_wp2_with fail;have jN:=(HD.out.later (jo w (.cells #[.bool false,i6 0,i6 0,.slice none 0 0,.slice none 0 0,i6 0,.slice none 0 0,i6 0] 151) (.cells #[.bool r.wr,i6 r.f,i6 r.m,.slice r.da r.data.length r.dc,.slice r.ta r.tags.length r.tc,i6 r.born] 146))).oa;rw[EL.out] at jN;refine(Wa d.busy g a.bc k _ hk jN).mono ?_;rintro e w3 ⟨rfl,bw,r8⟩;have cF:=(eN w 151).only (F:=fun _=>False) ((aH.refl _ _).alloc (.cells #[.bool r.wr,i6 r.f,i6 r.m,.slice r.da r.data.length r.dc,.slice r.ta r.tags.length r.tc,i6 r.born] 146)) (fun e=>e);have kD:=mv (w.alloc (.cells #[.bool false,i6 0,i6 0,.slice none 0 0,.slice none 0 0,i6 0,.slice none 0 0,i6 0] 151)) 146 r;rw[aaW] at kD;obtain⟨⟨c3,f3,l3⟩,a',cZ,DN,yo,Pe,nf8⟩:=PX HD.out hk EL.out (jo w _ _) cF kD bw r8;clear cF kD jN bw r8 r0 r1 r2 r3 r4 r5 c;have aL:=ae cZ;generalize hW:w3.setCell ⟨b,66,none⟩ (.slice (some ⟨g,0,none⟩) (d.busy.eraseIdx k).length a.bc)=w4 at *;clear cZ;have HS:Hid (hZ w4.drew (w.heap.size+1) r):=yo;have egd:∀args w,Sem.run prog (callFunc 180 args) w=.ok (.enter 180 args) w:=(by intro args w;go_simp);go_wp2_with fail;refine eL (S:=fun wz=>hZ wz (w.heap.size+1) r) (d:=5) kR ?_;refine tK 0 rfl HS.out ?_;(try simp only[Act.put,dP]);refine tK 1 rfl HS.out ?_;(try simp only[Act.put,dP]);refine tK 2 rfl HS.out ?_;(try simp only[Act.put,dP]);refine bn (i:=3) rfl kR ?_;intro K hK;refine yX rfl 180 44 45 42 146 rfl egd (.pointer (some ⟨b,0,none⟩)) r.val rfl rfl (fun v w5=>∃xa xc,v=.slice xa (ke d r.f.toNat r.m.toNat).length xc/\StrsAt w5 xa (ke d r.f.toNat r.m.toNat)/\(xa=none->xc=0)/\(∀ad,xa=some ad->w4.heap.size<=ad.block)/\Below w4.heap.size w4.drew w5) ((ZL b _ a' r _ (aL.out.dev.later (aX _ _).drew) GR.out HW.out).mono fun e w' ⟨xa,xc,he,h1,h2,h3,h4⟩=>⟨_,he,xa,xc,rfl,h1,h2,h3,h4⟩) ?_;rintro v w5 ⟨xa,xc,rfl,kc,pw,re,fm⟩;have hz5:=DN.only (F:=fun _=>False) (aH.cj ((aX w4.heap.size w4).drew.trans fm)) (fun e=>e);have pg:=ae (HS.out.later fm);have VE:=ae (aL.out.pI.later fm);have HXB:=ae (⟨kc,pw,re⟩:_/\_/\_);have zl4:=DN.2.2;refine hK _ _ (fun _=>pg.out) ?_
 (try simp only[Act.put,dP])
 clear hK DN kc pw re fm;obtain⟨⟨z0,z1,z2,z3,z4,z5,z6,z7⟩,zf,zl⟩:=hz5;refine bn (i:=4) rfl kR ?_;intro K hK;go_simp;refine hK _ _ (fun _=>pg.out) ?_;(try simp only[Act.put,dP]);clear hK;refine bn (i:=5) rfl kR ?_;intro K hK;go_simp;refine hK _ _ (fun h=>absurd rfl h) ?_;(try simp only[Act.put,dP]);clear hK;refine bn (i:=6) rfl kR ?_;intro K hK;go_simp;refine hK _ _ (fun _=>abI pg.out) ?_;(try simp only[Act.put,dP]);clear hK;refine fw kR ?_ _;go_wp2;obtain⟨kc,pw,re⟩:=HXB.out;refine aaY (v:=.tuple #[fg r xa (ke d r.f.toNat r.m.toNat).length xc 0,.nilIface]) (by simp[results,results133,go_sem,z0,z1,z2,z3,z4,z5,z6,z7]) rfl ⟨a',xa,xc,rfl,?_,pw,fun ad qx=>⟨by have:=re ad qx;omega,fun e=>?_⟩,?_⟩
 ·repeat(first|with_reducible exact kc|with_reducible refine XV ?_ (fun ad qx=>by have:=re ad qx;omega))
 ·have h1:=aL.out.dev.bC _ e;have h2:=re ad qx
  omega
 ·repeat(first|with_reducible exact VE.out|with_reducible refine cP.Ms ?_ HD.out (fun q hq=>abo hq) (aaO _) Pe _ _|with_reducible refine cP.pI ?_)
def Dl.cr(d:Dl)(r:Rq):Dl:=if r.wr=true then d.cL r r.m.toNat else d
theorem Dl.mR(d:Dl)(r:Rq):(d.cr r).busy=d.busy:=by unfold Dl.cr;split;exact Dl.oT _ _ _;rfl
def cW(d:Dl)(r:Rq):List ByteArray:=if r.wr=true then [] else ke d r.f.toNat r.m.toNat
theorem oP{F:Nat->Prop}{w:World}{r:Rq}(h:r.At w)(hF:∀k,F k->w.heap.size<=k):r.dB F :=
 ⟨fun he ad ha hk=>by have h1:=zQ h.data he ha;have h2:=hF _ hk;omega,fun he ad ha hk=>by have h1:=sa h.tags he ha;have h2:=hF _ hk;omega⟩
def jA(w:World)(q:Nat)(r:Rq)(xa:Option Addr)(n xc:Nat)(er:Int):Prop:=w.cell? ⟨q,0,none⟩=some (.bool r.wr)/\w.cell? ⟨q,1,none⟩=some (i6 r.f)/\w.cell? ⟨q,2,none⟩=some (i6 r.m)/\w.cell? ⟨q,3,none⟩=some (.slice r.da r.data.length r.dc)/\w.cell? ⟨q,4,none⟩=some (.slice r.ta r.tags.length r.tc)/\w.cell? ⟨q,5,none⟩=some (i6 r.born)/\w.cell? ⟨q,6,none⟩=some (.slice xa n xc)/\w.cell? ⟨q,7,none⟩=some (i6 er)
theorem zI(w:World)(T:TypeId)(r:Rq)(xa:Option Addr)(n xc:Nat)(er:Int):jA (w.alloc (.cells #[.bool r.wr,i6 r.f,i6 r.m,.slice r.da r.data.length r.dc,.slice r.ta r.tags.length r.tc,i6 r.born,.slice xa n xc,i6 er] T)) w.heap.size r xa n xc er:=by
 refine⟨?_,?_,?_,?_,?_,?_,?_,?_⟩<;>simp
theorem ZM(b:Nat)(d:Dl)(a:An)(k:Nat)(hk:k<d.busy.length)(w:World)(h:bR b d a w)(gr:bz d.busy[k]) :
 Calls prog 133 #[.pointer (some ⟨b,0,none⟩),i6 k,.bool false] w fun e w'=>∃a' xa xc xs,e=.returned (.tuple #[fg d.busy[k] xa (List.length xs) xc 0,.nilIface])/\Hid (xs=cW d d.busy[k])/\StrsAt w' xa xs/\(∀ad,xa=some ad->w.heap.size<=ad.block/\¬a'.ay b ad.block)/\cP b d a (({ d with busy:=d.busy.eraseIdx k }:Dl).cr d.busy[k]) a' w w':=by
 by_cases hw:d.busy[k].wr=true
 ·refine(SD b d a k hk w h gr hw).mono ?_;rintro e w' ⟨a',rfl,hs⟩;refine⟨a',none,0,[],rfl,by show _=_;rw[cW,aaV hw],il rfl,sM,?_⟩;rw[Dl.cr,aaV hw];exact hs
 ·have bB:d.busy[k].wr=false:=by simpa using hw
  refine(Wj b d a k hk w h gr bB).mono ?_;rintro e w' ⟨a',xa,xc,rfl,h1,h2,h3,hs⟩;refine⟨a',xa,xc,_,rfl,by show _=_;rw[cW,aaP hw],h1,h3,?_⟩;rw[Dl.cr,aaP hw];exact hs
theorem ab0(b:Nat)(d:Dl)(a:An)(l:List Rq)(k:Nat)(r:Rq)(hb:d.busy=l)(hk:l[k]?=some r)(w:World)(h:bR b d a w)(gr:bz r) :
 Calls prog 133 #[.pointer (some ⟨b,0,none⟩),i6 k,.bool false] w fun e w'=>∃a' xa xc xs,e=.returned (.tuple #[fg r xa (List.length xs) xc 0,.nilIface])/\Hid (xs=cW d r)/\StrsAt w' xa xs/\(∀ad,xa=some ad->w.heap.size<=ad.block/\¬a'.ay b ad.block)/\cP b d a (({ d with busy:=l.eraseIdx k }:Dl).cr r) a' w w':=by
 subst hb;obtain⟨eH,rfl⟩:=acp.1 hk;exact ZM b d a k eH w h gr
theorem Vu(d:Dl)(q:Nat)(s:ByteArray):(d.write q s).now.length=d.now.length:=by simp[Dl.write]
theorem MN(d:Dl)(r:Rq)(n:Nat):(d.cL r n).now.length=d.now.length:=by
 induction n with
 |zero=>rfl
 |succ n ih=>rw[Dl.fJ,Vu,ih]
theorem ZI(d:Dl)(r:Rq):(d.cr r).now.length=d.now.length:=by unfold Dl.cr;split;exact MN _ _ _;rfl
structure Two(w:World)(bc:Nat)(dc:Dl)(ac:An)(bd:Nat)(dd:Dl)(ad:An)(wr:World):Prop where
 c:bR bc dc ac wr
 d:bR bd dd ad wr
 apart:∀k,ac.ay bc k->ad.ay bd k->False
 fc:∀k,ac.ay bc k->w.heap.size<=k
 fd:∀k,ad.ay bd k->w.heap.size<=k
 rc:∀r∈dc.busy,r.At w
 rd:∀r∈dd.busy,r.At w
 bel:bL w wr
theorem oW(kp:Int)(x:Wn)(l:List Wn)(G:List ByteArray):gR kp (x::l) G=gR kp l (if ng kp x.bit=true then G.set x.pl x.data else G):=rfl
theorem FO(p n:Nat)(x:Wn)(l:List Wn):eR p n (x::l)=if kh p n x=true then eR p n l else x::eR p n l:=by
 unfold eR;rw[List.filter_cons]
 cases kh p n x<;>simp
theorem Tj{p n:Nat}{x:Wn}(h:kh p n x=true):x.pl=p/\x.bit=n:=by simpa [kh] using h
theorem R4(kp:Int)(p n:Nat)(h:ng kp n=false)(l:List Wn):∀G,gR kp (eR p n l) G=gR kp l G:=by
 induction l with
 |nil=>intro G;rfl
 |cons x l ih =>
  intro G;rw[FO]
  by_cases e:kh p n x=true
  ·rw[aaV e,ih,oW,(Tj e).2,h];rfl
  ·rw[aaP e,oW,oW,ih]
theorem VO(kp:Int)(p n:Nat)(s:ByteArray)(l:List Wn):∀G H:List ByteArray,G.set p s=H.set p s->(gR kp (eR p n l) G).set p s=(gR kp l H).set p s:=by
 induction l with
 |nil=>intro G H h;exact h
 |cons x l ih =>
  intro G H h;rw[FO]
  by_cases e:kh p n x=true
  ·rw[aaV e,oW];refine ih _ _ ?_
   by_cases hb:ng kp x.bit=true
   ·rw[aaV hb,(Tj e).1,afA];exact h
   ·rw[aaP hb];exact h
  ·rw[aaP e,oW,oW];refine ih _ _ ?_
   by_cases hb:ng kp x.bit=true
   ·rw[aaV hb,aaV hb]
    by_cases hq:x.pl=p
    ·rw[hq,afA,afA];exact h
    ·rw[List.set_comm _ _ hq,List.set_comm _ _ hq,h]
   ·rw[aaP hb,aaP hb];exact h
theorem MV(kp:Int)(p n:Nat)(s:ByteArray)(l:List Wn)(G:List ByteArray):gR kp (eR p n l++[⟨p,s,n⟩]) G=if ng kp n=true then(gR kp l G).set p s else gR kp l G:=by
 rw[yL]
 by_cases hb:ng kp n=true
 ·rw[aaV hb,aaV hb];exact VO kp p n s l G G rfl
 ·rw[aaP hb,aaP hb];exact R4 kp p n (by simpa using hb) l G
def Dl.after(d:Dl)(kp:Int):List ByteArray:=gR kp d.wr d.bO
theorem MS(d:Dl)(kp:Int)(p:Nat)(s:ByteArray):(d.write p s).after kp=if ng kp d.next=true then(d.after kp).set p s else d.after kp:=MV kp p d.next s d.wr d.bO
theorem JO(d:Dl)(r:Rq)(n:Nat):(d.cL r n).bO=d.bO:=by
 induction n with
 |zero=>rfl
 |succ n ih=>rw[Dl.fJ];exact ih
theorem Mz(l:List ByteArray)(p:Nat)(s:ByteArray):(dx l).set p (.string s)=dx (l.set p s):=by simp[dx,agd]
end Go.Proofs.YtlhgjplipgandaaGreatDoor
