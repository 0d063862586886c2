/- Joined. -/
import Derived.Deep.RegionHeld3
import Derived.Test.YtlhgjplipgandaaGreatDoorE11
import Derived.Test.YtlhgjplipgandaaGreatDoorE8
set_option maxRecDepth 100000
set_option maxHeartbeats 8000000
set_option linter.unusedSimpArgs false
set_option linter.unusedSectionVars false
namespace Go.Proofs.YtlhgjplipgandaaGreatDoor
open Tryz
open Go.RowKit Go.BigFrame
def Dl.write(d:Dl)(p:Nat)(s:ByteArray):Dl:={ d with now:=d.now.set p s,wr:=eT p d.next d.wr++[⟨p,s,d.next⟩],next:=(d.next+1) % 64 }
theorem Rq.dC.mono{F F':Nat->Prop}{r:Rq}(h:r.dC F)(hF:∀k,F' k->F k):r.dC F':=⟨fun he a ha hk=>h.1 he a ha (hF _ hk),fun he a ha hk=>h.2 he a ha (hF _ hk)⟩
theorem bR.Vv{b:Nat}{d d':Dl}{a:An}{w:World}(h:bR b d a w)(j:Nat)(v:Value)(hc:(d.cells a).set j v=d'.cells a)(e1:d'.wr=d.wr)(e2:d'.busy=d.busy)(dr:d'.now.length=32)(fV:d'.bP.length=32)(o5:d'.next<64):bR b d' a (w.setCell ⟨b,j,none⟩ v) where
 dr:=dr
 fV:=fV
 aW:=by rw[bM h.aW,hc]
 jx:=by
  rw[e1];exact ei h.jx fun g hg=>by
   obtain⟨p,hp,rfl⟩:=bH.1 hg;exact mu _ _ (h.iX p hp)
 nE:=by
  rw[e2];exact ei h.nE fun g hg=>by
   obtain⟨p,hp,rfl⟩:=bH.1 hg;exact mu _ _ (h.pT p hp)
 iX:=h.iX
 pT:=h.pT
 px:=h.px
 reqs:=fun r hr=>by
  rw[e2] at hr;have:=h.reqs r hr;exact⟨this.1.frame (F:=fun k=>k=b) (this.2.mono fun k hk=>il hk) ((aG.refl (fun k=>k=b) w).setCell ⟨b,j,none⟩ (il rfl) v),this.2⟩
 jX:=by rw[e1];exact h.jX
 vo:=by rw[e1];exact h.vo
 gL:=by rw[e2];exact h.gL
 o5:=o5
theorem Af(d:Dl)(a:An)(k:Nat)(s:ByteArray)(h1:d.now.length=32)(hk:k<32):(d.cells a).set k (.string s)=({ d with now:=d.now.set k s }:Dl).cells a:=by
 rw[Dl.cells,acA,aer _ _ (by rw[aN];omega),Dl.cells,acA]
 simp[dw,aeP]
theorem Ca(d:Dl)(a:An)(n:Nat)(h1:d.now.length=32)(h2:d.bP.length=32):(d.cells a).set 65 (i6 n)=({ d with next:=n }:Dl).cells a:=by
 rw[Dl.cells,adC _ _ (by simp[aN,h1,h2])]
 simp[aN,h1,h2,Dl.cells]
theorem B9(d:Dl)(a:An)(l:List Wn)(x:Option Addr)(c:Nat)(h1:d.now.length=32)(h2:d.bP.length=32):(d.cells a).set 64 (.slice x l.length c)=({ d with wr:=l }:Dl).cells { a with wa:=x,wc:=c }:=by
 rw[Dl.cells,adC _ _ (by simp[aN,h1,h2])]
 simp[aN,h1,h2,Dl.cells]
theorem ej{P:Program}{Q:Exit->Act->World->Prop}{a:Act}{c:Code}{w:World}(R:World->Prop)(h:R w)(k:∀w',R w'->c.wp P Q a w'):c.wp P Q a w:=k w h
theorem r7{P:Program}{ops:Array Oper}{o:Oper}{a:Act}{w:World}{K:Act->World->Prop}{Q:Exit->Act->World->Prop}{E:Prop}
 (hg:o.guard=none) (f:FuncId) (x1 x2:Nat) (t1 t2:TypeId) (qf:o.op=Op.call { callee:=Callee.value (.func f),args:=#[.tmp x1,.tmp x2],argTypes:=#[t1,t2] }) (eg:∀args w,(callFunc f args).run P w=.ok (.enter f args) w)
 (v1 v2:Value) (e1:a.tmps[x1]?.getD undef=v1) (e2:a.tmps[x2]?.getD undef=v2) (r:Value) (S:World->Prop) (hc:Calls P f #[v1,v2] w fun e w'=>e=.returned r/\S w') (h:∀w',S w'->K (a.put o.dst r) w') :
 if Region.wanted o (yielded ops a.tmps)=true then Oper.wp P o a w K Q else E:=by
 have hw:Region.wanted o (yielded ops a.tmps)=true:=by simp[Region.wanted,hg]
 rw[aca hw];unfold Oper.wp
 simp[execOp,qf,resolve,invoke,e1,e2,eg,go_sem]
 refine hc.mono ?_;rintro _ w' ⟨rfl,hs⟩;exact h w' hs
theorem WO{b q:Nat}{d:Dl}{a:An}{w X w2:World}{p:Nat}(h:bR b d a w)(hX:bL w X)(hO:aG (gz a.wa) X w2)(k1:w.cell? ⟨q,0,none⟩=some (.pointer (some ⟨b,0,none⟩)))(k2:w.cell? ⟨q+1,0,none⟩=some (i6 p))(n1:¬gz a.wa q)(n2:¬gz a.wa (q+1))(n3:¬gz a.wa b) :
 w2.cell? ⟨q,0,none⟩=some (.pointer (some ⟨b,0,none⟩))/\w2.cell? ⟨q+1,0,none⟩=some (i6 p)/\w2.cell? ⟨b,64,none⟩=some (.slice a.wa d.wr.length a.wc)/\w2.cell? ⟨b,65,none⟩=some (i6 d.next)/\w2.frozen? ⟨b,64,none⟩=false/\q+1<w2.heap.size/\b<w2.heap.size:=by
 have l1:=al k1;have l2:=al k2;have hs:=hX.size;have pN:=hO.size;have lb:=h.lt;refine⟨?_,?_,?_,?_,?_,oM,oM⟩
 ·rw[hO.cell (p:=⟨q,0,none⟩) (show q<_ from oM) n1,hX.cell (p:=⟨q,0,none⟩) l1];exact k1
 ·rw[hO.cell (p:=⟨q+1,0,none⟩) (show q+1<_ from oM) n2,hX.cell (p:=⟨q+1,0,none⟩) l2];exact k2
 ·rw[hO.cell (p:=⟨b,64,none⟩) (show b<_ from oM) n3,hX.cell (p:=⟨b,64,none⟩) lb];exact h.oN
 ·rw[hO.cell (p:=⟨b,65,none⟩) (show b<_ from oM) n3,hX.cell (p:=⟨b,65,none⟩) lb];exact h.jb
 ·rw[hO.frozen (p:=⟨b,64,none⟩) (show b<_ from oM) n3,hX.frozen (p:=⟨b,64,none⟩) lb];exact h.fz 64
theorem A4{a:Option Addr}{n c k:Nat}:(Value.slice a n c).ownBlock=some k↔gz a k:=bH
theorem bR.GZ{b:Nat}{d:Dl}{a:An}{w w3:World}(h:bR b d a w)(hO:aG (gz a.wa) w w3)(l:List Wn){v:Value}(bp:w3.ownsRow 0 213 3 v l.length (eJ l))(hv:∀g,v.ownBlock=some g->gz a.wa g\/w.heap.size<=g)
 (hf:∀x∈l,x.pl<32/\x.bit<64) (hn:(l.map Wn.key).Nodup) :
 ∃x c,v=.slice x l.length c/\cI b d a { d with wr:=l } { a with wa:=x,wc:=c } w (w3.setCell ⟨b,64,none⟩ v):=by
 obtain⟨x,c,rfl,_⟩:=iK bp;have aq:=h.lt;have nb:¬gz a.wa b:=fun⟨q,hq,e⟩=>h.iX q hq e.symm
 have e3:w3.heap[b]?=some (.cells (d.cells a).toArray 108 (0,0)):=by
  rw[hO.block b aq nb];exact h.aW
 have xb:∀p,x=some p->p.block ≠ b:=fun p hp e=>by
  rcases hv p.block (bH.2 ⟨p,hp,rfl⟩) with⟨q,hq,e'⟩|h'
  ·exact h.iX q hq oM
  ·omega
 have wh:aG (a.au b) w (w3.setCell ⟨b,64,none⟩ (.slice x l.length c)) :=
  (hO.mono (F':=a.au b) (fun i hi=>ir (il hi))).setCell ⟨b,64,none⟩ (il (il rfl)) _
 have l9:∀k,({ a with wa:=x,wc:=c }:An).au b k->a.au b k\/w.heap.size<=k:=by
  rintro k (rfl|⟨p,hp,rfl⟩|⟨p,hp,rfl⟩)
  ·exact il (il rfl)
  ·rcases hv p.block (bH.2 ⟨p,hp,rfl⟩) with h'|h'
   ·exact il (ir (il h'))
   ·exact ir oM
  ·exact il (ir (ir ⟨p,hp,rfl⟩))
 refine⟨x,c,rfl,⟨?_,wh,l9⟩⟩;exact {
  dr:=h.dr
  fV:=h.fV
  aW:=by rw[bM e3,B9 d a l x c h.dr h.fV]
  jx:=ei bp fun g rJ=>by
   obtain⟨p,hp,rfl⟩:=bH.1 rJ;exact mu _ _ (xb p hp)
  nE:=ei h.nE fun g rJ=>by
   obtain⟨p,hp,rfl⟩:=bH.1 rJ;have bW:=h.blt p hp;rw[mu _ _ (h.pT p hp),hO.block _ bW];rintro⟨q,hq,e⟩;exact h.px q p hq hp e.symm
  iX:=xb
  pT:=h.pT
  px:=fun p q hp hq e=>by
   rcases hv p.block (bH.2 ⟨p,hp,rfl⟩) with⟨p',GF,e'⟩|h'
   ·exact h.px p' q GF hq oM
   ·have:=h.blt q hq;omega
  reqs:=fun r dh=>⟨(h.reqs r dh).1.frame (h.reqs r dh).2 wh,(h.reqs r dh).2.step (h.reqs r dh).1 l9⟩
  jX:=hf
  vo:=hn
  gL:=h.gL
  o5:=h.o5 }
theorem RT{b:Nat}{d:Dl}{a:An}{w w3:World}(h:bR b d a w)(hO:aG (gz a.wa) w w3):w3.cell? ⟨b,64,none⟩=some (.slice a.wa d.wr.length a.wc)/\w3.frozen? ⟨b,64,none⟩=false/\b<w3.heap.size:=by
 have nb:¬gz a.wa b:=fun⟨q,hq,e⟩=>h.iX q hq e.symm
 have hs:=hO.size;have hl:=h.lt;exact⟨by rw[hO.cell (p:=⟨b,64,none⟩) hl nb];exact h.oN,by rw[hO.frozen (p:=⟨b,64,none⟩) hl nb];exact h.fz 64,oM⟩
theorem CJ(l:List Wn)(x:Wn):eJ (l++[x])=eJ l++[i6 x.pl,.string x.data,i6 x.bit]:=by rw[zO];rfl
theorem NJ{a:Option Addr}{n c n' c':Nat}{x:Option Addr}{B W:Nat}(hv:(Value.slice x n' c').ownBlock=(Value.slice a n c).ownBlock\/(Value.slice x n' c').ownBlock=some W){g:Nat}(hg:(Value.slice x n' c').ownBlock=some g)(hB:B<=W):gz a g\/B<=g:=by
 rcases hv with h|h
 ·rw[h] at hg;exact il (A4.1 hg)
 ·rw[h] at hg;cases hg;exact ir hB
theorem EA{w w2:World}{F:Nat->Prop}{n:Nat}(hn:w.heap.size=n)(vs:List Value)(T:TypeId)(hO:aG F (w.alloc (.cells vs.toArray T)) w2)(hF:¬F n)(j:Nat)(u:Value)(h:vs[j]?=some u):w2.cell? (Addr.add ⟨n,0,none⟩ j)=some u:=by
 have:=sE hn vs T j u h;rw[Addr.add_mid] at this ⊢;rw[hO.cell (p:=⟨n,0+j,none⟩) (by simp[hn]) hF];exact this
theorem Lw{w w2:World}{F:Nat->Prop}{n:Nat}(hn:w.heap.size=n)(vs:List Value)(T:TypeId)(hO:aG F (w.alloc (.cells vs.toArray T)).drew w2)(hF:¬F n)(j:Nat)(u:Value)(h:vs[j]?=some u):w2.cell? (Addr.add ⟨n,0,none⟩ j)=some u :=
 EA hn vs T ⟨hO.os,hO.tape,hO.output,hO.size,hO.block⟩ hF j u h
def xO(q b p nx:Nat)(sl:Value)(w:World):Prop:=w.cell? ⟨q,0,none⟩=some (.pointer (some ⟨b,0,none⟩))/\w.cell? ⟨q+1,0,none⟩=some (i6 p)/\w.cell? ⟨b,65,none⟩=some (i6 nx)/\w.cell? ⟨b,64,none⟩=some sl/\w.frozen? ⟨b,64,none⟩=false
theorem xO.only{F:Nat->Prop}{q b p nx:Nat}{sl:Value}{w w':World}(h:xO q b p nx sl w)(hO:aG F w w')(n1:¬F q)(n2:¬F (q+1))(n3:¬F b):xO q b p nx sl w':=by
 obtain⟨h1,h2,h3,h4,h5⟩:=h;have l1:=al h1;have l2:=al h2;have l3:=al h3;exact⟨by rw[hO.cell (p:=⟨q,0,none⟩) l1 n1];exact h1,by rw[hO.cell (p:=⟨q+1,0,none⟩) l2 n2];exact h2,by rw[hO.cell (p:=⟨b,65,none⟩) l3 n3];exact h3,(hO.cell (p:=⟨b,64,none⟩) l3 n3).trans h4,by rw[hO.frozen (p:=⟨b,64,none⟩) l3 n3];exact h5⟩
theorem xO.alloc{q b p nx:Nat}{sl:Value}{w:World}(h:xO q b p nx sl w)(o:Obj):xO q b p nx sl (w.alloc o):=h.only (F:=fun _=>False) ((aG.refl _ _).alloc o) (fun e=>e) (fun e=>e) (fun e=>e)
theorem JX{l:List Wn}{p n:Nat}{s:ByteArray}(h:∀x∈l,x.pl<32/\x.bit<64)(hp:p<32)(hn:n<64):∀x∈eT p n l++[⟨p,s,n⟩],x.pl<32/\x.bit<64:=by
 intro x hx
 rcases acs.1 hx with hx|hx
 ·exact h x (aew.1 hx).1
 ·obtain rfl:=acz.1 hx;exact⟨hp,hn⟩
theorem JY{l:List Wn}{p n:Nat}{s:ByteArray}(h:∀x∈l,x.pl<32/\x.bit<64)(hn:n<64)(hd:(l.map Wn.key).Nodup):((eT p n l++[(⟨p,s,n⟩:Wn)]).map Wn.key).Nodup:=by
 rw[acY,List.nodup_append];refine⟨hd.sublist (List.filter_sublist.map _),sM,?_⟩;intro k hk k' eH;simp only[aeg,aep,acz] at eH;subst eH;obtain⟨x,hx,rfl⟩:=adn.1 hk;have h1:=aew.1 hx;have h2:=h x h1.1;simp only[Wn.key];intro e;have:jU p n x=true:=by simp only[jU,ac2,adt];omega
 simp[this] at h1
theorem Kb(n:Nat):((n:Int)+1).tmod 64=(((n+1) % 64:Nat):Int):=by rw[ad5 oM];omega
theorem E4{b:Nat}{d d1 d2:Dl}{a a2:An}{p:Nat}{s:ByteArray}{w wK wM:World}(nt:d1={ d with now:=d.now.set p s })(vT:d2={ d1 with wr:=eT p d1.next d1.wr++[⟨p,s,d1.next⟩] })(hK:bR b d1 a wK)(hO:aG (a.au b) w wK)(h:cI b d1 a d2 a2 wK wM):cI b d a (d.write p s) a2 w (wM.setCell ⟨b,65,none⟩ (i6 ((d1.next+1) % 64:Nat))):=by
 have h1:cI b d a d1 a w wK:=⟨hK,hO,fun k hk=>il hk⟩
 have h2:=h1.trans h;refine h2.trans ⟨?_,(aG.refl (a2.au b) wM).setCell ⟨b,65,none⟩ (il (il rfl)) _,fun k hk=>il hk⟩;have e:d.write p s={ d2 with next:=(d1.next+1) % 64 }:=by subst vT;subst nt;rfl
 rw[e];exact h.dev.Vv 65 _ (Ca d2 a2 _ h.dev.dr h.dev.fV) rfl rfl h.dev.dr h.dev.fV (Nat.mod_lt _ oM)
theorem aba:(prog.info? 213).map (fun i=>(i.zero,i.size,i.bytes))=some (some (.agg #[i6 0,.string bE,i6 0]),3,32):=kR
theorem Tl(b:Nat)(d:Dl)(a:An)(p:Nat)(s:ByteArray)(w:World)(h:bR b d a w)(hp:p<32) :
 Calls prog 213 #[.pointer (some ⟨b,0,none⟩),i6 p,.string s] w fun e w'=>∃a',e=.returned (.tuple #[])/\cI b d a (d.write p s) a' w w':=by
 have hl:=h.lt;have cN:=h.Ae p hp;have fN:=h.fz p;have p1:(p:Int)<32:=oM;have p2:(0:Int)<=(p:Int):=oM;have HD:=aa h;clear h;go_enter func213,ntmps213;go_wp2_with fail
 go_region
 go_wp2_with fail;obtain⟨d1,nt⟩:∃d1:Dl,d1={ d with now:=d.now.set p s }:=⟨_,rfl⟩
 have oJ:=aa nt;clear nt;refine ej (fun wK=>bR b d1 a wK/\wK.cell? ⟨w.heap.size,0,none⟩=some (.pointer (some ⟨b,0,none⟩))/\wK.cell? ⟨w.heap.size+1,0,none⟩=some (i6 p)/\aG (a.au b) w wK) ⟨?_,by simp[go_sem],by simp[go_sem],?_⟩ ?_
 ·rw[oJ.out];exact(((HD.out.Vv p (.string s) (Af d a p s HD.out.dr hp) rfl rfl (by simpa using HD.out.dr) HD.out.fV HD.out.o5).alloc _).alloc _).later (aQ _ _).drew
 ·exact((((aG.refl (a.au b) w).setCell ⟨b,p,none⟩ (il (il rfl)) (.string s)).alloc _).alloc _).drew
 rintro wK ⟨hK,k1,k2,hO⟩;have HK:=aa hK;have HO:=aa hO;have k3:=hK.oN;have k4:=hK.jb;have lb:=hK.lt;have l1:=al k1;have l2:=al k2;clear hK hO cN fN p1 p2;have eg:∀args w,Sem.run prog (callFunc 232 args) w=.ok (.enter 232 args) w:=by intro args w;go_simp
 have JQ:=HK.out.aaN;have nr:∀k,k=w.heap.size\/k=w.heap.size+1\/k=b->¬gz a.wa k:=by
  rintro k hk ⟨q,hq,rfl⟩;have h1:=HD.out.Bj q hq;have h2:=HD.out.iX q hq
  omega
 have NR:=aa nr;have HHK:Hid (qq (w.heap.size+1) w.heap.size b p d1.next wK):=⟨k2,k1,k4⟩
 have NRK:Hid (¬gz a.wa wK.heap.size):=by
  rintro⟨q,hq,e⟩;have:=HK.out.Bj q hq
  omega
 clear nr;obtain⟨iW,hi,dB,cP,cS⟩:=fi aba;have HI:=aa (⟨hi,dB,cP,cS⟩:prog.info? 213=some iW/\_/\_/\_);have VV:Hid ((eT p d1.next d1.wr).length<=2048):=acv (ade _ _) JQ;clear hi dB cP cS;have T0:xO w.heap.size b p d1.next (.slice a.wa d1.wr.length a.wc) wK:=⟨k1,k2,k4,k3,HK.out.fz 64⟩
 have HS:Hid (xO w.heap.size b p d1.next (.slice a.wa d1.wr.length a.wc) wK.drew):=T0;refine eK (S:=xO w.heap.size b p d1.next (.slice a.wa d1.wr.length a.wc)) (d:=18) kR ?_;refine tK 0 rfl HS.out ?_;(try simp only[Act.put,dP]);refine tK 1 rfl HS.out ?_;(try simp only[Act.put,dP]);refine tK 2 rfl HS.out ?_;(try simp only[Act.put,dP]);refine tK 3 rfl HS.out ?_;(try simp only[Act.put,dP]);refine tK 4 rfl HS.out ?_;(try simp only[Act.put,dP]);refine tK 5 rfl HS.out ?_;(try simp only[Act.put,dP]);refine tK 7 rfl HS.out ?_;(try simp only[Act.put,dP]);refine tK 8 rfl HS.out ?_;(try simp only[Act.put,dP]);refine tK 9 rfl HS.out ?_;(try simp only[Act.put,dP]);refine tK 10 rfl HS.out ?_;(try simp only[Act.put,dP]);refine tK 11 rfl HS.out ?_;(try simp only[Act.put,dP]);refine tK 12 rfl HS.out ?_;(try simp only[Act.put,dP]);refine tK 13 rfl HS.out ?_;(try simp only[Act.put,dP]);refine KS (i:=6) (j:=14) rfl rfl kR ?_ ?_
 ·intro K hK;refine r7 rfl 232 18 19 106 289 rfl eg (.slice a.wa d1.wr.length a.wc) (.func (.func 231) #[] #[.pointer (some ⟨w.heap.size+1,0,none⟩),.pointer (some ⟨w.heap.size,0,none⟩)]) rfl rfl (.slice a.wa (eT p d1.next d1.wr).length a.wc) (fun w'=>w'.ownsRow 0 213 3 (.slice a.wa (eT p d1.next d1.wr).length a.wc) (eT p d1.next d1.wr).length (eJ (eT p d1.next d1.wr))/\aG (gz a.wa) _ w') (Zb (w.heap.size+1) w.heap.size b p d1.next d1.wr a.wa a.wc _ (HK.out.later bQ).jx oM HK.out.vo (HHK.out.later bQ) (NR.out _ oM) (NR.out _ oM) (NR.out _ oM)) ?_;rintro w2 ⟨aT,se⟩;obtain⟨q1,q2,q3,q4,q5,q6,q7⟩:=WO HK.out bQ se k1 k2 (NR.out _ oM) (NR.out _ oM) (NR.out _ oM);have eB:=aa (⟨aT,se⟩:_/\_);have T2:xO w.heap.size b p d1.next (.slice a.wa d1.wr.length a.wc) w2:=⟨q1,q2,q4,q3,q5⟩;clear aT se;refine hK _ _ (fun _=>T2) ?_;(try simp only[Act.put,dP]);clear hK;refine bn (i:=14) rfl kR ?_;intro K hK;go_simp;refine hK _ _ (fun _=>T2.alloc _) ?_;(try simp only[Act.put,dP]);clear hK;refine bn (i:=15) rfl kR ?_;intro K hK;refine wV rfl (.tmp 20) (.tmp 28) 106 rfl 0 213 iW _ 3 32 underlying106 HI.out.1 HI.out.2.1 HI.out.2.2.1 HI.out.2.2.2 rfl dM (.slice a.wa (eT p d1.next d1.wr).length a.wc) (eT p d1.next d1.wr).length (eJ (eT p d1.next d1.wr)) rfl (eB.out.1.alloc _) ⟨w2.heap.size,0,none⟩ 1 1 [i6 p,.string s,i6 d1.next] rfl rfl (fun j u hj=>sE rfl _ _ j u hj) (by simp[Value.oneCell']) oM (by have:=VV.out;unfold maxLen;omega) (by have:=VV.out;omega) (ac0 _) ?_;intro v3 w3 bF vX RB;have mO:aG (gz a.wa) wK w3:=(((aG.cj bQ).trans eB.out.2 (fun _ e=>il e)).alloc _).grown vX (fun k hk=>il (A4.1 hk));obtain⟨x3,c3,rfl,-⟩:=iK bF;obtain⟨r1,r2,r3⟩:=RT HK.out mO;have AM:∀g,(Value.slice x3 ((eT p d1.next d1.wr).length+1) c3).ownBlock=some g->gz a.wa g\/wK.heap.size<=g:=fun g hg=>NJ RB hg (by have:=eB.out.2.size;simp at this;simp;omega);have T3:xO w.heap.size b p d1.next (.slice a.wa d1.wr.length a.wc) w3:=T0.only mO (NR.out _ oM) (NR.out _ oM) (NR.out _ oM);have MJ:=aa (⟨bF,mO,AM⟩:_/\_/\_);clear bF mO RB vX AM;refine hK _ _ (fun _=>T3) ?_;(try simp only[Act.put,dP]);clear hK;refine bn (i:=16) rfl kR ?_;intro K hK;go_simp;refine hK _ _ (fun _=>T3) ?_;(try simp only[Act.put,dP]);clear hK;refine bn (i:=17) rfl kR ?_;intro K hK;go_simp;refine hK _ _ (fun _=>T3) ?_;(try simp only[Act.put,dP]);clear hK;refine bn (i:=18) rfl kR ?_;intro K hK;go_simp;refine hK _ _ (fun h=>absurd rfl h) ?_;(try simp only[Act.put,dP]);clear hK;refine fp kR ?_ _
  obtain⟨bF,mO,AM⟩:=MJ.out;obtain⟨x4,c4,e4,dA⟩:=HK.out.GZ mO (eT p d1.next d1.wr++[⟨p,s,d1.next⟩]) (by rw[CJ,ab7];exact bF) AM (JX HK.out.jX hp HK.out.o5) (JY HK.out.jX HK.out.o5 HK.out.vo);obtain⟨d2,vT⟩:∃d2:Dl,d2={ d1 with wr:=eT p d1.next d1.wr++[⟨p,s,d1.next⟩] }:=⟨_,rfl⟩;rw[<-vT] at dA;have aI:=aa dA;have ky:Hid (d2.next=d1.next):=(by rw[vT];rfl);have nk:=aa vT;clear bF mO AM dA vT r1 r2 r3;go_wp2_with fail;refine ej (fun wM=>cI b d1 a d2 { a with wa:=x4,wc:=c4 } wK wM/\wM.cell? ⟨w.heap.size,0,none⟩=some (.pointer (some ⟨b,0,none⟩))) ⟨aI.out,(by rw[acL _ _ _ _ (fun e=>absurd (adI Addr.block e) (by simp;omega))];exact T3.1)⟩ ?_;rintro wM ⟨hM,m1⟩;have m2:=hM.dev.jb;rw[ky.out] at m2;have m3:=hM.dev.fz 65;have m4:=hM.dev.lt;have m5:=al m1;have yg:=HK.out.o5;have gm:IntKind.i64.wrap ((d1.next:Int)+1)=(d1.next:Int)+1:=(by rw[acC];omega);have qh:=Kb d1.next;have GH:IntKind.i64.wrap (((d1.next+1) % 64:Nat):Int)=(((d1.next+1) % 64:Nat):Int):=(by rw[acC];omega);have HM:=aa (E4 oJ.out nk.out HK.out HO.out hM);clear hM;generalize (d1.next+1) % 64=nn at *
  go_region
  go_end0;exact⟨_,rfl,HM.out.oP⟩
 ·intro K hK;go_simp;refine hK _ _ (fun _=>HS.out.alloc _) ?_
  (try simp only[Act.put,dP])
  clear hK;refine bn (i:=6) rfl kR ?_;intro K hK;refine r7 rfl 232 18 19 106 289 rfl eg (.slice a.wa d1.wr.length a.wc) (.func (.func 231) #[] #[.pointer (some ⟨w.heap.size+1,0,none⟩),.pointer (some ⟨w.heap.size,0,none⟩)]) rfl rfl (.slice a.wa (eT p d1.next d1.wr).length a.wc) (fun w'=>w'.ownsRow 0 213 3 (.slice a.wa (eT p d1.next d1.wr).length a.wc) (eT p d1.next d1.wr).length (eJ (eT p d1.next d1.wr))/\aG (gz a.wa) _ w') (Zb (w.heap.size+1) w.heap.size b p d1.next d1.wr a.wa a.wc _ (HK.out.later bQ).jx oM HK.out.vo (HHK.out.later bQ) (NR.out _ oM) (NR.out _ oM) (NR.out _ oM)) ?_;rintro w2 ⟨aT,se⟩;obtain⟨q1,q2,q3,q4,q5,q6,q7⟩:=WO HK.out bQ se k1 k2 (NR.out _ oM) (NR.out _ oM) (NR.out _ oM);have eB:=aa (⟨aT,se⟩:_/\_);have T2:xO w.heap.size b p d1.next (.slice a.wa d1.wr.length a.wc) w2:=⟨q1,q2,q4,q3,q5⟩;clear aT se;refine hK _ _ (fun _=>T2) ?_;(try simp only[Act.put,dP]);clear hK;refine bn (i:=15) rfl kR ?_;intro K hK;refine wV rfl (.tmp 20) (.tmp 28) 106 rfl 0 213 iW _ 3 32 underlying106 HI.out.1 HI.out.2.1 HI.out.2.2.1 HI.out.2.2.2 rfl dM (.slice a.wa (eT p d1.next d1.wr).length a.wc) (eT p d1.next d1.wr).length (eJ (eT p d1.next d1.wr)) rfl eB.out.1 ⟨wK.heap.size,0,none⟩ 1 1 [i6 p,.string s,i6 d1.next] rfl rfl (by first|exact EA rfl _ _ eB.out.2 NRK.out|exact Lw rfl _ _ eB.out.2 NRK.out) (by simp[Value.oneCell']) oM (by have:=VV.out;unfold maxLen;omega) (by have:=VV.out;omega) (ac0 _) ?_;intro v3 w3 bF vX RB;have mO:aG (gz a.wa) wK w3:=((aG.cj bQ).trans eB.out.2 (fun _ e=>il e)).grown vX (fun k hk=>il (A4.1 hk));obtain⟨x3,c3,rfl,-⟩:=iK bF;obtain⟨r1,r2,r3⟩:=RT HK.out mO;have AM:∀g,(Value.slice x3 ((eT p d1.next d1.wr).length+1) c3).ownBlock=some g->gz a.wa g\/wK.heap.size<=g:=fun g hg=>NJ RB hg (by have:=eB.out.2.size;simp at this;simp;omega);have T3:xO w.heap.size b p d1.next (.slice a.wa d1.wr.length a.wc) w3:=T0.only mO (NR.out _ oM) (NR.out _ oM) (NR.out _ oM);have MJ:=aa (⟨bF,mO,AM⟩:_/\_/\_);clear bF mO RB vX AM;refine hK _ _ (fun _=>T3) ?_;(try simp only[Act.put,dP]);clear hK;refine bn (i:=16) rfl kR ?_;intro K hK;go_simp;refine hK _ _ (fun _=>T3) ?_;(try simp only[Act.put,dP]);clear hK;refine bn (i:=17) rfl kR ?_;intro K hK;go_simp;refine hK _ _ (fun _=>T3) ?_;(try simp only[Act.put,dP]);clear hK;refine bn (i:=18) rfl kR ?_;intro K hK;go_simp;refine hK _ _ (fun h=>absurd rfl h) ?_;(try simp only[Act.put,dP]);clear hK;refine fp kR ?_ _
  obtain⟨bF,mO,AM⟩:=MJ.out;obtain⟨x4,c4,e4,dA⟩:=HK.out.GZ mO (eT p d1.next d1.wr++[⟨p,s,d1.next⟩]) (by rw[CJ,ab7];exact bF) AM (JX HK.out.jX hp HK.out.o5) (JY HK.out.jX HK.out.o5 HK.out.vo);obtain⟨d2,vT⟩:∃d2:Dl,d2={ d1 with wr:=eT p d1.next d1.wr++[⟨p,s,d1.next⟩] }:=⟨_,rfl⟩;rw[<-vT] at dA;have aI:=aa dA;have ky:Hid (d2.next=d1.next):=(by rw[vT];rfl);have nk:=aa vT;clear bF mO AM dA vT r1 r2 r3;go_wp2_with fail;refine ej (fun wM=>cI b d1 a d2 { a with wa:=x4,wc:=c4 } wK wM/\wM.cell? ⟨w.heap.size,0,none⟩=some (.pointer (some ⟨b,0,none⟩))) ⟨aI.out,(by rw[acL _ _ _ _ (fun e=>absurd (adI Addr.block e) (by simp;omega))];exact T3.1)⟩ ?_;rintro wM ⟨hM,m1⟩;have m2:=hM.dev.jb;rw[ky.out] at m2;have m3:=hM.dev.fz 65;have m4:=hM.dev.lt;have m5:=al m1;have yg:=HK.out.o5;have gm:IntKind.i64.wrap ((d1.next:Int)+1)=(d1.next:Int)+1:=(by rw[acC];omega);have qh:=Kb d1.next;have GH:IntKind.i64.wrap (((d1.next+1) % 64:Nat):Int)=(((d1.next+1) % 64:Nat):Int):=(by rw[acC];omega);have HM:=aa (E4 oJ.out nk.out HK.out HO.out hM);clear hM;generalize (d1.next+1) % 64=nn at *
  go_region
  go_end0;exact⟨_,rfl,HM.out.oP⟩
theorem bu.Fe{r:Rq}(h:bu r):0<=r.f/\r.f<=31/\1<=r.m/\r.m<=4/\r.m<=32-r.f:=by
 have:=h.ok;simp only[gI,aco] at this
 omega
theorem yz{w:World}{base e n:Nat}{v:Value}{xs:List ByteArray}(h:w.ownsRow base e 1 v n (dw xs))(hn:n=xs.length):∃a c,v=.slice a xs.length c/\cy w a xs/\(a=none->c=0)/\∀ad,a=some ad->base<=ad.block:=by
 subst hn
 rcases h.2 with⟨rfl,h0⟩|⟨g,cap,cur,rfl,hg,hh,jY,iA,kf,ht⟩
 ·obtain rfl:=acd h0;exact⟨none,0,rfl,il rfl,fun _=>rfl,sM⟩
 ·refine⟨_,cap,rfl,ir ⟨g,0,rfl,fun i hi=>?_⟩,sM,fun ad e=>?_⟩
  ·have hc:=h.cellAt i oM;rw[acq,hc]
   simp[dw,acb hi]
  ·simp only[ace] at e;subst e;exact hg
def jR(d:Dl)(f n:Nat):List ByteArray:=(List.range n).map fun j=>d.now.getD (f+j) bE
theorem LM(d:Dl)(f n:Nat):jR d f (n+1)=jR d f n++[d.now.getD (f+n) bE]:=by simp[jR,aej]
theorem tT(d:Dl)(f n:Nat):(jR d f n).length=n:=by simp[jR]
theorem AB(r:Rq)(gr:bu r)(k:Nat)(hk:k<32):dU r.f r.m k=decide (r.f.toNat<=k/\k<r.f.toNat+r.m.toNat):=by
 have:=gr.Fe;rw[uD r.f r.m 4 k gr.ok oM,gS]
 congr 1
 simp only[eq_iff_iff]
 omega
def below(f m k:Nat):Nat:=min (k-f) m
theorem yJ{f m k:Nat}(h1:f<=k)(h2:k<f+m):below f m (k+1)=below f m k+1/\f+below f m k=k:=by unfold below;omega
theorem vN{f m k:Nat}(h:¬(f<=k/\k<f+m)):below f m (k+1)=below f m k:=by unfold below;omega
theorem vM{f m:Nat}(h:f+m<=32):below f m 32=m:=by unfold below;omega
theorem Xm(b:Nat)(d:Dl)(a:An)(r:Rq)(w:World)(h:bR b d a w)(gr:bu r)(hw:r.wr=false) :
 Calls prog 180 #[.pointer (some ⟨b,0,none⟩),r.val] w fun e w'=>∃xa xc,e=.returned (.slice xa (jR d r.f.toNat r.m.toNat).length xc)/\cy w' xa (jR d r.f.toNat r.m.toNat)/\(xa=none->xc=0)/\(∀ad,xa=some ad->w.heap.size<=ad.block)/\bL w w':=by
 obtain⟨iS,hi,dB,cP,cS⟩:=fi wF;have HI:=aa (⟨hi,dB,cP,cS⟩:prog.info? 9=some iS/\_/\_/\_);have eN:=aa gr.Fe;have CL:=aa (AB r gr);have HD:=aa h;have hl:=h.lt;clear hi dB cP cS h gr;obtain⟨zP,f,m,da,dc,data,ta,tc,tags,born⟩:=r;simp only at *;subst hw;go_enter func180,ntmps180;go_wp2_with fail;have Js:=aa (aB w (.cells #[.bool false,i6 f,i6 m,.slice da data.length dc,.slice ta tags.length tc,i6 born] 146));have yd:Hid (∀wr,Below (w.heap.size+1) (w.alloc (.cells #[.bool false,i6 f,i6 m,.slice da data.length dc,.slice ta tags.length tc,i6 born] 146)) wr->wr.cell? ⟨w.heap.size,0,none⟩=some (.bool false)/\wr.cell? ⟨w.heap.size,1,none⟩=some (i6 f)/\wr.cell? ⟨w.heap.size,2,none⟩=some (i6 m)):=fun wr hb =>
  ⟨(hb.cell (p:=⟨w.heap.size,0,none⟩) sM).trans sM,(hb.cell (p:=⟨w.heap.size,1,none⟩) sM).trans sM,(hb.cell (p:=⟨w.heap.size,2,none⟩) sM).trans sM⟩
 generalize zF:w.alloc (.cells #[.bool false,i6 f,i6 m,.slice da data.length dc,.slice ta tags.length tc,i6 born] 146)=w1 at *;have eI:w1.heap.size=w.heap.size+1:=by rw[<-zF];simp
 have cg:=aa eI;clear zF eI
 go_loopw[5,9] (fun v i wr=>∃k:Nat,k<=32/\i=i6 k/\wr.ownsRow (w.heap.size+1) 9 1 v (below f.toNat m.toNat k) (dw (jR d f.toNat (below f.toNat m.toNat k)))/\Below (w.heap.size+1) w1 wr) (fun _ i _=>32-(intOf i).toNat)
 case atStart=>exact⟨0,oM,rfl,by simpa [below,jR,dw] using acx w1 (w.heap.size+1) 9 1,aQ _ _⟩
 case round =>
  obtain⟨k,hk,rfl,bp,HB⟩:=hrel;have E9:=aa bp;obtain⟨c0,c1,c2⟩:=yd.out wr HB;have jm:=HB.size;rw[cg.out] at jm;clear bp
  by_cases aq:k<32
  ·have yf:=CL.out k aq;have fM:(k:Int)<32:=oM
   by_cases jc:f.toNat<=k/\k<f.toNat+m.toNat
   ·rw[acf jc] at yf;obtain⟨e1,e2⟩:=yJ jc.1 jc.2;have HE:=aa (⟨e1,e2⟩:_/\_);have hbm:below f.toNat m.toNat k<=32:=by unfold below;omega
    clear e1 e2 jc;go_wp2_with fail;refine cM (rI _ _ _ _ _ yf) ?_;intro w2 aA;have cw:=HB.trans (aA.mono jm);have aT:=aa (ei E9.out (fun g hg=>aA.block g (E9.out.lt g hg).2));obtain⟨c0',MY,uT⟩:=yd.out w2 cw;have nH:=cw.size;rw[cg.out] at nH;have AD:bR b d a w2:=HD.out.later (ab Js.out (cw.mono (by rw[cg.out];omega)));have cn:=AD.Ae k aq;have lbb:=AD.lt;have BU:=aa hbm;clear AD aA yf hbm c0 c1 c2;generalize hs:d.now.getD k bE=s at *;have MO:=aa hs;clear hs;go_wp2_with(at_builtin;refine aO rfl _ _ 51 rfl (w.heap.size+1) 9 iS _ 1 16 underlying51 HI.out.1 HI.out.2.1 HI.out.2.2.1 HI.out.2.2.2 rfl dM _ (below f.toNat m.toNat k) (dw (jR d f.toNat (below f.toNat m.toNat k))) rfl (aT.out.alloc _) (some ⟨w2.heap.size,0,none⟩) 1 1 [.string s] rfl ⟨rfl,by simp[Value.oneCell'],ir ⟨_,rfl,fun j u hj=>sE rfl _ _ j u hj⟩⟩ (by have:=BU.out;unfold maxLen;omega) (by have:=BU.out;omega) (by simp;omega) ?_;intro v3 w3 bF bC);go_roundw
    case rel =>
     refine⟨k+1,oM,gN,?_,cw.trans (((aQ _ _).alloc oM _).trans bC)⟩;rw[HE.out.1,LM,HE.out.2,MO.out]
     simpa [dw] using bF
    case measure=>simp[intOf];omega
   ·rw[aci jc] at yf;have HE:=aa (vN jc);clear jc;go_wp2_with fail;refine cM (rI _ _ _ _ _ yf) ?_;intro w2 aA;have cw:=HB.trans (aA.mono jm);have aT:=aa (ei E9.out (fun g hg=>aA.block g (E9.out.lt g hg).2));clear aA yf c0 c1 c2;go_wp2;go_roundw
    case rel=>exact⟨k+1,oM,gN,by rw[HE.out];exact aT.out,cw⟩
    case measure=>simp[intOf];omega
  ·have Uv:k=32:=oM;subst Uv;obtain⟨b1,b2,b3,b4,b5⟩:=eN.out;have hall:below f.toNat m.toNat 32=m.toNat:=vM oM;rw[hall] at E9;obtain⟨xa,xc,rfl,dA,pM,pG⟩:=yz E9.out (tT _ _ _).symm;have aI:=aa (⟨dA,pM,pG⟩:_/\_/\_);clear dA pM pG b1 b2 b3 b4 b5 hall;go_wp2;go_ret;exact⟨xa,xc,rfl,aI.out.1,aI.out.2.1,fun ad e=>Nat.le_of_succ_le (aI.out.2.2 ad e),Js.out.trans (HB.mono oM)⟩
def Dl.cG(d:Dl)(r:Rq)(n:Nat):Dl:=(List.range n).foldl (fun d j=>d.write (r.f.toNat+j) (r.data.getD j bE)) d
theorem Dl.fD(d:Dl)(r:Rq)(n:Nat):d.cG r (n+1)=(d.cG r n).write (r.f.toNat+n) (r.data.getD n bE):=by simp[Dl.cG,aej]
theorem cI.later{b:Nat}{d d':Dl}{a a':An}{w w' eu:World}(h:cI b d a d' a' w w')(hb:bL w' eu):cI b d a d' a' w eu:=⟨h.dev.later hb,h.only.later hb,h.au⟩
theorem cI.same{b:Nat}{d:Dl}{a:An}{w w':World}(h:bR b d a w)(hb:bL w w'):cI b d a d a w w':=⟨h.later hb,aG.cj hb,fun _ hk=>il hk⟩
def gW(w:World)(q:Nat)(r:Rq):Prop:=w.cell? ⟨q,0,none⟩=some (.bool r.wr)/\w.cell? ⟨q,1,none⟩=some (i6 r.f)/\w.cell? ⟨q,2,none⟩=some (i6 r.m)/\w.cell? ⟨q,3,none⟩=some (.slice r.da r.data.length r.dc)/\w.cell? ⟨q,4,none⟩=some (.slice r.ta r.tags.length r.tc)/\w.cell? ⟨q,5,none⟩=some (i6 r.born)
theorem gW.only{F:Nat->Prop}{w w':World}{q:Nat}{r:Rq}(h:gW w q r)(hO:aG F w w')(hn:¬F q):gW w' q r:=by
 obtain⟨h0,h1,h2,h3,h4,h5⟩:=h;have hl:=al h0;exact⟨(hO.cell (p:=⟨q,0,none⟩) hl hn).trans h0,(hO.cell (p:=⟨q,1,none⟩) hl hn).trans h1,(hO.cell (p:=⟨q,2,none⟩) hl hn).trans h2,(hO.cell (p:=⟨q,3,none⟩) hl hn).trans h3,(hO.cell (p:=⟨q,4,none⟩) hl hn).trans h4,(hO.cell (p:=⟨q,5,none⟩) hl hn).trans h5⟩
theorem gW.later{w w':World}{q:Nat}{r:Rq}(h:gW w q r)(hb:bL w w'):gW w' q r:=h.only (F:=fun _=>False) (aG.cj hb) (fun e=>e)
theorem lR(w:World)(T:TypeId)(r:Rq):gW (w.alloc (.cells #[.bool r.wr,i6 r.f,i6 r.m,.slice r.da r.data.length r.dc,.slice r.ta r.tags.length r.tc,i6 r.born] T)) w.heap.size r:=by
 refine⟨?_,?_,?_,?_,?_,?_⟩<;>simp
theorem Ua(b:Nat)(d:Dl)(a:An)(r:Rq)(w:World)(h:bR b d a w)(gr:bu r)(hw:r.wr=true)(hr:r.At w)(ho:r.dC (a.au b)) :
 Calls prog 180 #[.pointer (some ⟨b,0,none⟩),r.val] w fun e w'=>∃a',e=.returned (.slice none 0 0)/\cI b d a (d.cG r r.m.toNat) a' w w':=by
 have eN:=aa gr.Fe;have CL:=aa (AB r gr);have sf:(r.data.length:Int)=r.m:=by
  have:=gr.shape;simp only[kD,hw,adR,aco] at this;exact this
 have PU:=aa sf;have HD:=aa h;have hl:=h.lt;have eC:=aB w (.cells #[.bool r.wr,i6 r.f,i6 r.m,.slice r.da r.data.length r.dc,.slice r.ta r.tags.length r.tc,i6 r.born] 146);have hX:=lR w 146 r;have HR:=aa (hr.later eC);have HO:=aa ho;have HW:=aa hw;clear h gr sf hr ho hw;go_enter func180,ntmps180;go_wp2_with fail;generalize zF:w.alloc (.cells #[.bool r.wr,i6 r.f,i6 r.m,.slice r.da r.data.length r.dc,.slice r.ta r.tags.length r.tc,i6 r.born] 146)=w1 at *;have eI:w1.heap.size=w.heap.size+1:=by rw[<-zF];simp
 have cg:=aa eI;have HX:=aa hX;have aU:=aa eC;clear zF eI hX eC
 go_loopw[5,9] (fun v i wr=>∃(k:Nat) (a':An),k<=32/\i=i6 k/\v=.slice none 0 0/\cI b d a (d.cG r (below r.f.toNat r.m.toNat k)) a' w1 wr) (fun _ i _=>32-(intOf i).toNat)
 case atStart=>exact⟨0,a,oM,rfl,rfl,by simpa [below,Dl.cG] using cI.same (HD.out.later aU.out) (aQ _ _)⟩
 case round =>
  obtain⟨k,a',hk,rfl,rfl,dA⟩:=hrel;have aI:=aa dA;have nq:¬a.au b w.heap.size:=fun e=>by have:=HD.out.bz _ e;omega
  have cF:=HX.out.only aI.out.only nq;have Ed:=aa (HR.out.frame HO.out aI.out.only);clear dA nq
  by_cases aq:k<32
  ·have yf:=CL.out k aq;have fM:(k:Int)<32:=oM;obtain⟨b1,b2,b3,b4,b5⟩:=eN.out
   by_cases jc:r.f.toNat<=k/\k<r.f.toNat+r.m.toNat
   ·rw[acf jc] at yf;obtain⟨e1,e2⟩:=yJ jc.1 jc.2;have HE:=aa (⟨e1,e2⟩:_/\_);have hwp:wrap64 ((k:Int)-r.f)=((below r.f.toNat r.m.toNat k:Nat):Int):=by unfold wrap64;omega
    have oT:below r.f.toNat r.m.toNat k<r.data.length:=by have:=PU.out;omega
    have IS:=aa hwp;have VT:=aa yf;obtain⟨x0,x1,x2,x3,x4,x5⟩:=id cF;have lx:=al x0;rw[HW.out] at x0;clear e1 e2 jc hwp b1 b2 b3 b4 b5 yf;go_wp2_with fail;refine cM (rI _ _ _ _ _ VT.out) ?_;intro w2 aA;obtain⟨y0,y1,y2,y3,y4,y5⟩:=cF.later aA;rw[HW.out] at y0;clear x0 x1 x2 x3 x4 x5;go_wp2_with fail;refine cM (Fv { r with wr:=true } r.data r.da r.dc 0 k _ (Ed.out.data.later aA) VT.out _ IS.out oT _ rfl) ?_;intro w3 bC;have C2:=aa ((aI.out.later aA).later bC);go_wp2_with fail;refine(Tl b _ a' k _ _ C2.out.dev aq).mono ?_;rintro e w4 ⟨a4,rfl,Z8⟩;have xj:=aa (C2.out.trans Z8);clear Z8 aA bC y0 y1 y2 y3 y4 y5 Ed cF;go_wp2;go_roundw
    case rel =>
     refine⟨k+1,a4,oM,gN,rfl,?_⟩;rw[HE.out.1,Dl.fD,HE.out.2,acr,acb oT,adl];exact xj.out
    case measure=>simp[intOf];omega
   ·rw[aci jc] at yf;have HE:=aa (vN jc);have VT:=aa yf;obtain⟨x0,x1,x2,x3,x4,x5⟩:=id cF;clear jc b1 b2 b3 b4 b5 yf;go_wp2_with fail;refine cM (rI _ _ _ _ _ VT.out) ?_;intro w2 aA;have uL:=aa (aI.out.later aA);clear aA x0 x1 x2 x3 x4 x5 Ed cF;go_wp2;go_roundw
    case rel=>exact⟨k+1,a',oM,gN,rfl,by rw[HE.out];exact uL.out⟩
    case measure=>simp[intOf];omega
  ·have Uv:k=32:=oM;subst Uv;obtain⟨b1,b2,b3,b4,b5⟩:=eN.out;have hall:below r.f.toNat r.m.toNat 32=r.m.toNat:=vM oM;rw[hall] at aI;clear hall b1 b2 b3 b4 b5 Ed cF;go_wp2;go_ret;exact⟨a',rfl,(cI.same HD.out aU.out).trans aI.out⟩
def Dl.flush(d:Dl):Dl:={ d with bP:=d.now,wr:=[],next:=0 }
theorem vz(l:List ByteArray):∀v∈dw l,v.oneCell'=true:=by
 intro v hv;simp only[dw,adn] at hv;obtain⟨s,_,rfl⟩:=hv
 rfl
theorem NU(d:Dl)(a:An)(l:List ByteArray)(h1:d.now.length=32)(h2:d.bP.length=32)(h3:l.length=32):splice (d.cells a) 32 (dw l)=({ d with bP:=l }:Dl).cells a:=by
 have e1:(dw d.now).length=32:=by rw[aN,h1]
 have e2:(dw d.bP).length=32:=by rw[aN,h2]
 have e3:(dw l).length=32:=by rw[aN,h3]
 rw[splice,Dl.cells,Dl.cells,e3,acA,acM oM,acJ oM,adT,ac9 oM,acF,e1,show 32+32-32=32 from oM,adT,ac9 oM,acF,e2,aeB,aeY,acA]
theorem Qm(d:Dl)(a:An)(l:List ByteArray)(h1:d.now.length=32)(h3:l.length=32):splice (d.cells a) 0 (dw l)=({ d with now:=l }:Dl).cells a:=by
 have e1:(dw d.now).length=32:=by rw[aN,h1]
 have e3:(dw l).length=32:=by rw[aN,h3]
 rw[splice,Dl.cells,Dl.cells,e3,aeF,acF,acA,adT,ac9 oM,acF,e1,show 0+32-32=0 from oM,aeY,acA]
theorem bR.qY{b:Nat}{d d':Dl}{a a':An}{w w':World}(h:bR b d a w)(hO:aG (fun k=>k=b) w w')(sx:w'.heap[b]?=some (.cells (d'.cells a').toArray 108 (0,0)))
 (hw:(d'.wr=d.wr/\a'.wa=a.wa/\a'.wc=a.wc)\/(d'.wr=[]/\a'.wa=none/\a'.wc=0)) (hb:(d'.busy=d.busy/\a'.ba=a.ba/\a'.bc=a.bc)\/(d'.busy=[]/\a'.ba=none/\a'.bc=0)) (dr:d'.now.length=32) (fV:d'.bP.length=32) (o5:d'.next<64):cI b d a d' a' w w':=by
 have l9:∀k,a'.au b k->a.au b k:=by
  rintro k (e|⟨p,hp,e⟩|⟨p,hp,e⟩)
  ·exact il e
  ·rcases hw with⟨_,h2,_⟩|⟨_,h2,_⟩
   ·rw[h2] at hp;exact ir (il ⟨p,hp,e⟩)
   ·rw[h2] at hp;cases hp
  ·rcases hb with⟨_,h2,_⟩|⟨_,h2,_⟩
   ·rw[h2] at hp;exact ir (ir ⟨p,hp,e⟩)
   ·rw[h2] at hp;cases hp
 refine⟨?_,hO.mono (fun k hk=>il hk),fun k hk=>il (l9 k hk)⟩;exact {
  dr:=dr
  fV:=fV
  aW:=sx
  jx:=by
   rcases hw with⟨h1,h2,h3⟩|⟨h1,h2,h3⟩
   ·rw[h1,h2,h3];exact ei h.jx fun g hg=>by
     obtain⟨p,hp,rfl⟩:=bH.1 hg;exact hO.block _ (h.Bj p hp) (h.iX p hp)
   ·rw[h1,h2,h3];exact acx _ _ _ _
  nE:=by
   rcases hb with⟨h1,h2,h3⟩|⟨h1,h2,h3⟩
   ·rw[h1,h2,h3];exact ei h.nE fun g hg=>by
     obtain⟨p,hp,rfl⟩:=bH.1 hg;exact hO.block _ (h.blt p hp) (h.pT p hp)
   ·rw[h1,h2,h3];exact acx _ _ _ _
  iX:=fun p hp=>by
   rcases hw with⟨_,h2,_⟩|⟨_,h2,_⟩
   ·rw[h2] at hp;exact h.iX p hp
   ·rw[h2] at hp;cases hp
  pT:=fun p hp=>by
   rcases hb with⟨_,h2,_⟩|⟨_,h2,_⟩
   ·rw[h2] at hp;exact h.pT p hp
   ·rw[h2] at hp;cases hp
  px:=fun p q hp hq=>by
   rcases hw with⟨_,h2,_⟩|⟨_,h2,_⟩
   ·rcases hb with⟨_,k2,_⟩|⟨_,k2,_⟩
    ·rw[h2] at hp;rw[k2] at hq;exact h.px p q hp hq
    ·rw[k2] at hq;cases hq
   ·rw[h2] at hp;cases hp
  reqs:=fun r hr=>by
   rcases hb with⟨h1,_,_⟩|⟨h1,_,_⟩
   ·rw[h1] at hr;have:=h.reqs r hr;exact⟨this.1.frame (F:=fun k=>k=b) (this.2.mono fun k hk=>il hk) hO,this.2.mono l9⟩
   ·rw[h1] at hr;cases hr
  jX:=by
   rcases hw with⟨h1,_,_⟩|⟨h1,_,_⟩
   ·rw[h1];exact h.jX
   ·rw[h1];simp
  vo:=by
   rcases hw with⟨h1,_,_⟩|⟨h1,_,_⟩
   ·rw[h1];exact h.vo
   ·rw[h1];simp
  gL:=by
   rcases hb with⟨h1,_,_⟩|⟨h1,_,_⟩
   ·rw[h1];exact h.gL
   ·rw[h1];simp
  o5:=o5 }
theorem bR.C8{b:Nat}{d:Dl}{a:An}{w:World}(h:bR b d a w):w.rangeAt b 0 (dw d.now):=fun j v hv=>by
 have hj:j<32:=by
  have:=(ac1.1 hv).1;rw[aN,h.dr] at this;exact this
 rw[acq,aP h.aW,Dl.cells,acA,acO (by rw[aN,h.dr];exact hj)];exact hv
theorem bR.GU{b:Nat}{d:Dl}{a:An}{w:World}(h:bR b d a w):w.rangeAt b 32 (dw d.bP):=fun j v hv=>by
 have hj:j<32:=by
  have:=(ac1.1 hv).1;rw[aN,h.fV] at this;exact this
 rw[aP h.aW,Dl.cells,acA,acT (by rw[aN,h.dr];omega),aN,h.dr,show 32+j-32=j from oM,acO (by rw[aN,h.fV];exact hj)];exact hv
theorem bR.there{b:Nat}{d:Dl}{a:An}{w:World}(h:bR b d a w)(o n:Nat)(ho:o+n<=67):w.there b o n:=fun j hj=>by
 refine⟨?_,h.fz _⟩;rw[aP h.aW,acb (by rw[Dl.kZ h.dr h.fV];omega)]
 rfl
theorem qm:(prog.info? 45).map (·.size)=some 32:=kR
theorem py(b:Nat)(vs:List Value)(o:Nat)(w:World):aG (fun k=>k=b) w (w.setCells b o vs):=qA (F:=fun k=>k=b) b (il rfl) vs o w (aG.refl _ _)
theorem Ao(b:Nat)(d:Dl)(a:An)(w:World)(h:bR b d a w) :
 Calls prog 144 #[.pointer (some ⟨b,0,none⟩)] w fun e w'=>e=.returned (.tuple #[])/\cI b d a d.flush { a with wa:=none,wc:=0 } w w':=by
 have HD:=aa h;have hl:=h.lt;have Zl:(dw d.now).length=32:=by rw[aN];exact h.dr
 have HE:=aa Zl;have CP:=ks b 108 (dw d.now) 32 (d.cells a) w h.aW (by rw[Zl,Dl.kZ h.dr h.fV];omega);rw[NU d a d.now h.dr h.fV h.dr] at CP;have oN:=(aP CP 64).trans (Dl.DI h.dr h.dr);have jb:=(aP CP 65).trans (Dl.DJ h.dr h.dr);have f64:=cQ CP 64;have f65:=cQ CP 65;have aU:=aa CP;clear h Zl CP;go_enter func144,ntmps144;go_wp2_with(first|(refine wpList_load_mid rfl 45 (.tmp 5) rfl b 0 rfl (dw d.now) _ HD.out.C8 underlying45 rfl (by rw[HE.out];exact qm) ?_)|(refine wpList_store_mid rfl 45 (.tmp 8) (.tmp 6) rfl b 32 (dw d.now).toArray rfl rfl (by rw[adb,HE.out];exact HD.out.there 32 32 oM) (by rw[adb,HE.out];exact qm) (all_oneCell_toArray (vz _)) ?_;simp only));go_end0;refine⟨rfl,HD.out.qY (((py b (dw d.now) 32 w).setCell ⟨b,64,none⟩ (il rfl) _).setCell ⟨b,65,none⟩ (il rfl) _) ?_ (ir ⟨rfl,rfl,rfl⟩) (il ⟨rfl,rfl,rfl⟩) HD.out.dr HD.out.dr (by simp[Dl.flush])⟩;rw[bM (bM aU.out 64 _) 65 _];have e1:=B9 ({ d with bP:=d.now }:Dl) a [] none 0 HD.out.dr HD.out.dr;have e2:=Ca ({ d with bP:=d.now,wr:=[] }:Dl) { a with wa:=none,wc:=0 } 0 HD.out.dr HD.out.dr;simp only[aev] at e1;rw[e1];exact adI (fun l:List Value=>some (Obj.cells l.toArray 108 (0,0))) e2
def mG(kp:Int)(n:Nat):Bool:=bits BinOp.and IntKind.u64 (kp / 2 ^ n) 1==1
def gM(kp:Int)(l:List Wn)(now:List ByteArray):List ByteArray:=l.foldl (fun n x=>if mG kp x.bit=true then n.set x.pl x.data else n) now
def Dl.fk(d:Dl)(kp:Int):Dl:=({ d with busy:=[],now:=gM kp d.wr d.bP }:Dl).flush
theorem Hn(kp:Int)(l:List Wn):∀now,(gM kp l now).length=now.length:=by
 induction l with
 |nil=>intro now;rfl
 |cons x l ih =>
  intro now;show(gM kp l (if mG kp x.bit=true then now.set x.pl x.data else now)).length=_;rw[ih];split<;>simp
theorem xo(kp:Int)(l:List Wn)(x:Wn)(now:List ByteArray):gM kp (l++[x]) now=if mG kp x.bit=true then(gM kp l now).set x.pl x.data else gM kp l now:=by simp[gM]
theorem cI.aaD{b:Nat}{d0 d:Dl}{a0 a:An}{w w':World}(h:cI b d0 a0 d a w w'){p:Nat}(hp:p<32)(s:ByteArray):cI b d0 a0 { d with now:=d.now.set p s } a w (w'.setCell ⟨b,p,none⟩ (.string s)) :=
 h.trans ⟨h.dev.Vv p _ (Af d a p s h.dev.dr hp) rfl rfl (by simpa using h.dev.dr) h.dev.fV h.dev.o5,(aG.refl (a.au b) w').setCell ⟨b,p,none⟩ (il (il rfl)) _,fun k hk=>il hk⟩
theorem oo{b:Nat}{d:Dl}{a:An}{w:World}(h:bR b d a w):cI b d a { d with busy:=[],now:=d.bP } { a with ba:=none,bc:=0 } w ((w.setCell ⟨b,66,none⟩ (.slice none 0 0)).setCells b 0 (dw d.bP))/\bR b { d with busy:=[] } { a with ba:=none,bc:=0 } (w.setCell ⟨b,66,none⟩ (.slice none 0 0)):=by
 have S1:cI b d a { d with busy:=[] } { a with ba:=none,bc:=0 } w (w.setCell ⟨b,66,none⟩ (.slice none 0 0)) :=
  h.qY ((aG.refl (fun k=>k=b) w).setCell ⟨b,66,none⟩ (il rfl) _) (by rw[bM h.aW,<-Cb d a [] none 0 h.dr h.fV];rfl) (il ⟨rfl,rfl,rfl⟩) (ir ⟨rfl,rfl,rfl⟩) h.dr h.fV h.o5
 have eg:(dw d.bP).length=32:=by rw[aN];exact h.fV
 have Y5:=ks b 108 (dw d.bP) 0 _ _ S1.dev.aW (by rw[eg,Dl.kZ S1.dev.dr S1.dev.fV];omega);rw[Qm _ _ d.bP S1.dev.dr S1.dev.fV] at Y5;exact⟨S1.trans (S1.dev.qY (py b (dw d.bP) 0 _) Y5 (il ⟨rfl,rfl,rfl⟩) (il ⟨rfl,rfl,rfl⟩) h.fV h.fV h.o5),S1.dev⟩
theorem NZ(b:Nat)(d:Dl)(g wc:Nat)(ba:Option Addr)(bc:Nat)(kp:Int)(_hkp:0<=kp/\kp<=18446744073709551615)(w:World)(h:bR b d ⟨some ⟨g,0,none⟩,wc,ba,bc⟩ w) :
 Calls prog 95 #[.pointer (some ⟨b,0,none⟩),.int .u64 kp] w fun e w'=>∃a',e=.returned (.tuple #[])/\cI b d ⟨some ⟨g,0,none⟩,wc,ba,bc⟩ (d.fk kp) a' w w':=by
 have HD:=aa h;have hl:=h.lt;have xS:=h.xS;have f66:=h.fz 66;have HE:Hid ((dw d.bP).length=32):=(by show _=_;rw[aN];exact h.fV);have S2:=aa (oo h).1;have cg:=aa (oo h).2;have oN:=(oo h).1.dev.oN;clear h;go_enter func95,ntmps95;go_wp2_with(first|(refine wpList_load_mid rfl 45 (.tmp 12) rfl b 32 rfl (dw d.bP) _ cg.out.GU underlying45 rfl (by rw[HE.out];exact qm) ?_)|(refine wpList_store_mid rfl 45 (.tmp 15) (.tmp 13) rfl b 0 (dw d.bP).toArray rfl rfl (by rw[adb,HE.out];exact cg.out.there 0 32 oM) (by rw[adb,HE.out];exact qm) (all_oneCell_toArray (vz _)) ?_;simp only));refine ej (fun wK=>cI b d ⟨some ⟨g,0,none⟩,wc,ba,bc⟩ { d with busy:=[],now:=d.bP } ⟨some ⟨g,0,none⟩,wc,none,0⟩ w wK) S2.out ?_;clear S2 cg oN xS f66;intro w2 h2;have H2:=aa h2;clear h2
 go_loopw[21] (fun i wr=>∃k:Nat,k<=d.wr.length/\i=i6 k/\cI b d ⟨some ⟨g,0,none⟩,wc,ba,bc⟩ { d with busy:=[],now:=gM kp (d.wr.take k) d.bP } ⟨some ⟨g,0,none⟩,wc,none,0⟩ w wr) (fun i _=>d.wr.length-(intOf i).toNat)
 case atStart=>exact⟨0,oM,rfl,H2.out⟩
 case round =>
  obtain⟨k,hk,rfl,hs⟩:=hrel;have HS:=aa hs;have uf:=uA hs.dev.jx;have CY:=hs.dev.jX;have lbr:=hs.dev.lt;have JQ:=hs.dev.aaN;simp only at uf CY JQ;clear hs
  by_cases aq:k<d.wr.length
  ·rcases uf with e|⟨g',hg,kf⟩
   ·rw[e] at aq;exact absurd aq (acg _)
   simp only[ace,acV,adh] at hg;obtain rfl:=hg;obtain⟨c0,c1,c2⟩:=kf k aq;obtain⟨p1,p2⟩:=CY _ (ach aq);clear kf CY;have lg:=al c0;have AL:d.wr.take (k+1)=d.wr.take k++[d.wr[k]]:=acG aq;have FZ:=aa AL;generalize d.wr[k]=x at *;have fM:(k:Int)<(d.wr.length:Int):=oM;have p1':(x.pl:Int)<32:=oM;have cN:=HS.out.dev.Ae x.pl p1;have fN:=HS.out.dev.fz x.pl;clear AL
   cases tz:mG kp x.bit
   ·have gP:(bits BinOp.and IntKind.u64 (kp / 2 ^ x.bit) 1==1)=false:=tz;have IE:=aa tz;clear tz;go_wp2;refine⟨⟨k+1,oM,gN,?_⟩,by simp[intOf];omega⟩;rw[FZ.out,xo,IE.out,ab6 sM];exact HS.out.later (aB _ _)
   ·have gP:(bits BinOp.and IntKind.u64 (kp / 2 ^ x.bit) 1==1)=true:=tz;have IE:=aa tz;clear tz;go_wp2_with fail
    go_region
    go_wp2;refine⟨⟨k+1,oM,gN,?_⟩,by simp[intOf];omega⟩;rw[FZ.out,xo,aca IE.out];exact((HS.out.aaD p1 x.data).later (aB _ _)).oP
  ·have we:k=d.wr.length:=oM;subst we;rw[adG] at HS;go_wp2_with fail;refine cM (Ao b _ _ _ HS.out.dev) ?_;intro w3 zG;have fL:=aa (HS.out.trans zG);clear zG;go_wp2;go_end0;exact⟨_,rfl,fL.out⟩
theorem Qw(b:Nat)(d:Dl)(a:An)(kp:Int)(_hkp:0<=kp/\kp<=18446744073709551615)(w:World)(h:bR b d a w)(h0:d.wr=[]) :
 Calls prog 95 #[.pointer (some ⟨b,0,none⟩),.int .u64 kp] w fun e w'=>∃a',e=.returned (.tuple #[])/\cI b d a (d.fk kp) a' w w':=by
 have D7:d.wr.length=0:=by rw[h0];rfl
 have H0:=aa h0;clear h0;have HD:=aa h;have hl:=h.lt;have xS:=h.xS;have f66:=h.fz 66;have HE:Hid ((dw d.bP).length=32):=(by show _=_;rw[aN];exact h.fV);have S2:=aa (oo h).1;have cg:=aa (oo h).2;have oN:=(oo h).1.dev.oN;clear h;go_enter func95,ntmps95;go_wp2_with(first|(refine wpList_load_mid rfl 45 (.tmp 12) rfl b 32 rfl (dw d.bP) _ cg.out.GU underlying45 rfl (by rw[HE.out];exact qm) ?_)|(refine wpList_store_mid rfl 45 (.tmp 15) (.tmp 13) rfl b 0 (dw d.bP).toArray rfl rfl (by rw[adb,HE.out];exact cg.out.there 0 32 oM) (by rw[adb,HE.out];exact qm) (all_oneCell_toArray (vz _)) ?_;simp only));have eg:gM kp d.wr d.bP=d.bP:=by rw[H0.out];rfl
 refine ej (fun wK=>cI b d a { d with busy:=[],now:=gM kp d.wr d.bP } { a with ba:=none,bc:=0 } w wK) (by rw[eg];exact S2.out) ?_;clear S2 cg oN xS f66 eg;intro w2 h2;have H2:=aa h2;clear h2
 go_loopw[21] (fun i wr=>i=i6 0/\cI b d a { d with busy:=[],now:=gM kp d.wr d.bP } { a with ba:=none,bc:=0 } w wr) (fun _ _=>0)
 case atStart=>exact⟨rfl,H2.out⟩
 case round =>
  obtain⟨rfl,hs⟩:=hrel;have HS:=aa hs;clear hs;go_wp2_with fail;refine cM (Ao b _ _ _ HS.out.dev) ?_;intro w3 zG;have fL:=aa (HS.out.trans zG);clear zG;go_wp2;go_end0;exact⟨_,rfl,fL.out⟩
theorem Qv(b:Nat)(d:Dl)(a:An)(kp:Int)(Ri:0<=kp/\kp<=18446744073709551615)(w:World)(h:bR b d a w) :
 Calls prog 95 #[.pointer (some ⟨b,0,none⟩),.int .u64 kp] w fun e w'=>∃a',e=.returned (.tuple #[])/\cI b d a (d.fk kp) a' w w':=by
 rcases uA h.jx with e|⟨g,hg,_⟩
 ·exact Qw b d a kp Ri w h e
 ·obtain⟨wa,wc,ba,bc⟩:=a;simp only at hg;subst hg;exact NZ b d g wc ba bc kp Ri w h
abbrev oG:Value:=.agg #[.bool false,i6 0,i6 0,.slice none 0 0,.slice none 0 0,i6 0,.slice none 0 0,i6 0]
theorem Uf(b:Nat)(d:Dl)(a:An)(i:Int)(fl:Bool)(w:World)(h:bR b d a w)(hi:i<0\/(d.busy.length:Int)<=i) :
 Calls prog 133 #[.pointer (some ⟨b,0,none⟩),i6 i,.bool fl] w (rB (.tuple #[oG,.iface 87 (i6 5)]) w):=by
 have c:=h.xS;have hl:=h.lt;clear h
 by_cases h0:i<0
 ·go_enter func133,ntmps133;go_wp2;exact ack (v:=.tuple #[oG,.iface 87 (i6 5)]) (by simp[results,results133,go_sem]) rfl ⟨rfl,bQ⟩
 ·have h1:(d.busy.length:Int)<=i:=oM;go_enter func133,ntmps133;go_wp2;exact ack (v:=.tuple #[oG,.iface 87 (i6 5)]) (by simp[results,results133,go_sem]) rfl ⟨rfl,bQ⟩
theorem aG.vp{w:World}{q o:Nat}(v:Value):aG (fun k=>k=q) w (w.setCell ⟨q,o,none⟩ v):=(aG.refl (fun k=>k=q) w).setCell ⟨q,o,none⟩ (il rfl) v
theorem cI.KH{b:Nat}{d d':Dl}{a a':An}{w w':World}(h:cI b d a d' a' w w')(hd:bR b d a w)(hs:∀r∈d'.busy,r∈d.busy){q:Nat}(hq:w.heap.size<=q)(hn:¬a'.au b q)(o:Nat)(v:Value):cI b d a d' a' w (w'.setCell ⟨q,o,none⟩ v) :=
 ⟨h.dev.frame (aG.vp v) (fun k hk e=>hn (e▸hk)) (fun r hr=>by
  have fS:=(hd.reqs r (hs r hr)).1;exact⟨fun he ad ha e=>by have:=yx fS.data he ha;omega,fun he ad ha e=>by have:=qW fS.tags he ha;omega⟩),
  h.only.setCell ⟨q,o,none⟩ (ir hq) v,h.au⟩
def mL(w:World)(q:Nat):Prop:=(w.cell? ⟨q,0,none⟩=some (.bool false)/\w.cell? ⟨q,1,none⟩=some (i6 0)/\w.cell? ⟨q,2,none⟩=some (i6 0)/\w.cell? ⟨q,3,none⟩=some (.slice none 0 0)/\w.cell? ⟨q,4,none⟩=some (.slice none 0 0)/\w.cell? ⟨q,5,none⟩=some (i6 0)/\w.cell? ⟨q,6,none⟩=some (.slice none 0 0)/\w.cell? ⟨q,7,none⟩=some (i6 0))/\(∀o,w.frozen? ⟨q,o,none⟩=false)/\q<w.heap.size
theorem mL.only{F:Nat->Prop}{w w':World}{q:Nat}(h:mL w q)(hO:aG F w w')(hn:¬F q):mL w' q:=by
 obtain⟨⟨h0,h1,h2,h3,h4,h5,h6,h7⟩,hf,hl⟩:=h;exact⟨⟨(hO.cell (p:=⟨q,0,none⟩) hl hn).trans h0,(hO.cell (p:=⟨q,1,none⟩) hl hn).trans h1,(hO.cell (p:=⟨q,2,none⟩) hl hn).trans h2,(hO.cell (p:=⟨q,3,none⟩) hl hn).trans h3,(hO.cell (p:=⟨q,4,none⟩) hl hn).trans h4,(hO.cell (p:=⟨q,5,none⟩) hl hn).trans h5,(hO.cell (p:=⟨q,6,none⟩) hl hn).trans h6,(hO.cell (p:=⟨q,7,none⟩) hl hn).trans h7⟩,fun o=>(hO.frozen (p:=⟨q,o,none⟩) hl hn).trans (hf o),acD hl hO.size⟩
theorem eM(w:World)(T:TypeId):mL (w.alloc (.cells #[.bool false,i6 0,i6 0,.slice none 0 0,.slice none 0 0,i6 0,.slice none 0 0,i6 0] T)) w.heap.size:=by
 refine⟨⟨?_,?_,?_,?_,?_,?_,?_,?_⟩,fun o=>?_,?_⟩<;>simp
theorem bR.place{b:Nat}{d:Dl}{a:An}{w:World}(h:bR b d a w){k:Nat}(hk:k<d.busy.length):∃g,a.ba=some ⟨g,0,none⟩/\g<w.heap.size:=by
 obtain⟨x,cx,hv,h1,h2,_⟩:=iK h.nE;simp only[acN,adQ] at hv;obtain⟨rfl,rfl⟩:=hv
 cases ha:a.ba with
 |none =>
  have:=h.AZ.form;rw[ha] at this
  rcases this with e|⟨_,_,e⟩
  ·rw[e] at hk;exact absurd hk (acg _)
  ·cases e
 |some ad =>
  obtain⟨g,rfl⟩:=h2 ad ha;exact⟨g,rfl,h.blt _ ha⟩
theorem N7{b:Nat}{d:Dl}{a:An}{w w2 w3:World}{k g:Nat}{r:Rq}(h:bR b d a w)(hk:k<d.busy.length)(n4:a.ba=some ⟨g,0,none⟩)(hb:bL w w2)(hz:mL w2 w.heap.size)(hx:gW w2 (w.heap.size+1) r)
 (bp:w3.ownsRow 0 146 6 (.slice (some ⟨g,0,none⟩) (d.busy.eraseIdx k).length a.bc) (d.busy.eraseIdx k).length (aY (d.busy.eraseIdx k))) (hg:w2.grownBy w3 (some g)) :
 (w3.cell? ⟨b,66,none⟩=some (.slice (some ⟨g,0,none⟩) d.busy.length a.bc)/\w3.frozen? ⟨b,66,none⟩=false/\b<w3.heap.size)/\∃a',cI b d a { d with busy:=d.busy.eraseIdx k } a' w (w3.setCell ⟨b,66,none⟩ (.slice (some ⟨g,0,none⟩) (d.busy.eraseIdx k).length a.bc))/\mL (w3.setCell ⟨b,66,none⟩ (.slice (some ⟨g,0,none⟩) (d.busy.eraseIdx k).length a.bc)) w.heap.size/\gW (w3.setCell ⟨b,66,none⟩ (.slice (some ⟨g,0,none⟩) (d.busy.eraseIdx k).length a.bc)) (w.heap.size+1) r/\¬a'.au b w.heap.size/\¬a'.au b (w.heap.size+1):=by
 have Ni:(Value.slice a.ba d.busy.length a.bc).ownBlock=some g:=bH.2 ⟨_,n4,rfl⟩;have k66:=h.RU hb (by rw[Ni];exact hg);rw[n4] at k66;have aq:=h.lt;have vY:=h.blt _ n4;have hel:(d.busy.eraseIdx k).length<=2:=by rw[acQ,aca hk];have:=h.gL;omega
 obtain⟨x,c,e,dA⟩:=h.uS hb (d.busy.eraseIdx k) hel (fun q hq=>h.reqs q (acy hq)) bp (by rw[Ni];exact hg) (fun g' rJ=>il ⟨_,n4,by simpa [Value.ownBlock] using rJ.symm⟩);simp only[acN,adQ] at e;obtain⟨rfl,rfl⟩:=e;have hO:aG (fun i=>i=g\/i=b) w2 (w3.setCell ⟨b,66,none⟩ (.slice (some ⟨g,0,none⟩) (d.busy.eraseIdx k).length a.bc)) :=
  ((aG.refl (fun i=>i=g\/i=b) w2).grown hg (fun i hi=>il (il (by simpa using hi.symm)))).setCell ⟨b,66,none⟩ (il (ir rfl)) _
 have l9:∀q,w.heap.size<=q->¬({ a with ba:=some ⟨g,0,none⟩,bc:=a.bc }:An).au b q:=by
  rintro q hq (e|⟨p,hp,e⟩|⟨p,hp,e⟩)
  ·omega
  ·have:=h.Bj p hp;omega
  ·simp only[ace] at hp;subst hp;simp only at e vY;omega
 exact⟨k66,_,dA,hz.only hO (by simp only at vY;omega),hx.only hO (by simp only at vY;omega),l9 _ (ab5 _),l9 _ oM⟩
theorem QG(b:Nat)(d:Dl)(a:An)(k:Nat)(hk:k<d.busy.length)(w:World)(h:bR b d a w) :
 Calls prog 133 #[.pointer (some ⟨b,0,none⟩),i6 k,.bool true] w fun e w'=>∃a',e=.returned (.tuple #[fb d.busy[k] none 0 0 8,.nilIface])/\cI b d a { d with busy:=d.busy.eraseIdx k } a' w w':=by
 have hl:=h.lt;have HD:=aa h;have h0:¬(k:Int)<0:=oM;have h1:¬(d.busy.length:Int)<=(k:Int):=oM;have h2:(k:Int)<(d.busy.length:Int):=oM;have ve:(k:Int)<=1:=(by have:=h.gL;omega);have hR:=h.AZ;have c:=h.xS;obtain⟨g,n4,lg⟩:=h.place hk;rw[n4] at hR c;obtain⟨r0,r1,r2,r3,r4,r5⟩:=hR.cells hk;simp only[acq] at r0 r1 r2 r3 r4 r5;have Ds:=aa n4;clear h hR n4;generalize hr:d.busy[k]=r at *;have pC:=aa hr;clear hr;go_enter func133,ntmps133;go_wp2_with fail;have iT:=(HD.out.later (ja w (.cells #[.bool false,i6 0,i6 0,.slice none 0 0,.slice none 0 0,i6 0,.slice none 0 0,i6 0] 151) (.cells #[.bool r.wr,i6 r.f,i6 r.m,.slice r.da r.data.length r.dc,.slice r.ta r.tags.length r.tc,i6 r.born] 146))).nE;rw[Ds.out] at iT;refine(T6 d.busy g a.bc k _ hk iT).mono ?_;rintro e w3 ⟨rfl,bF,vX⟩;have cS:=(eM w 151).only (F:=fun _=>False) ((aG.refl _ _).alloc (.cells #[.bool r.wr,i6 r.f,i6 r.m,.slice r.da r.data.length r.dc,.slice r.ta r.tags.length r.tc,i6 r.born] 146)) (fun e=>e);have kh:=lR (w.alloc (.cells #[.bool false,i6 0,i6 0,.slice none 0 0,.slice none 0 0,i6 0,.slice none 0 0,i6 0] 151)) 146 r;rw[ab9] at kh;obtain⟨⟨c3,f3,l3⟩,a',dA,Ct,wu,Nr,nf8⟩:=N7 HD.out hk Ds.out (ja w _ _) cS kh bF vX;clear cS kh iT bF vX r0 r1 r2 r3 r4 r5 c;obtain⟨⟨z0,z1,z2,z3,z4,z5,z6,z7⟩,zf,zl⟩:=Ct;obtain⟨x0,x1,x2,x3,x4,x5⟩:=wu;have aI:=aa dA;clear dA;generalize hW:w3.setCell ⟨b,66,none⟩ (.slice (some ⟨g,0,none⟩) (d.busy.eraseIdx k).length a.bc)=w4 at *;go_wp2;refine ack (v:=.tuple #[fb r none 0 0 8,.nilIface]) (by simp[results,results133,go_sem,z0,z1,z2,z3,z4,z5,z6,z7]) rfl ⟨a',rfl,?_⟩
 repeat(first|with_reducible exact aI.out|with_reducible refine cI.KH ?_ HD.out (fun q hq=>acy hq) (ab5 _) Nr _ _|with_reducible refine cI.oP ?_)
theorem xD{P:Program}{ops:Array Oper}{o:Oper}{a:Act}{w:World}{K:Act->World->Prop}{Q:Exit->Act->World->Prop}{E:Prop}
 (hg:o.guard=none) (f:FuncId) (x1 x2:Nat) (t1 t2:TypeId) (qf:o.op=Op.call { callee:=Callee.value (.func f),args:=#[.tmp x1,.tmp x2],argTypes:=#[t1,t2] }) (eg:∀args w,(callFunc f args).run P w=.ok (.enter f args) w)
 (v1 v2:Value) (e1:a.tmps[x1]?.getD undef=v1) (e2:a.tmps[x2]?.getD undef=v2) (R:Value->World->Prop) (hc:Calls P f #[v1,v2] w fun e w'=>∃r,e=.returned r/\R r w') (h:∀r w',R r w'->K (a.put o.dst r) w') :
 if Region.wanted o (yielded ops a.tmps)=true then Oper.wp P o a w K Q else E:=by
 have hw:Region.wanted o (yielded ops a.tmps)=true:=by simp[Region.wanted,hg]
 rw[aca hw];unfold Oper.wp
 simp[execOp,qf,resolve,invoke,e1,e2,eg,go_sem]
 refine hc.mono ?_;rintro _ w' ⟨r,rfl,hs⟩;exact h r w' hs
theorem th{w:World}{q q' o:Nat}{r:Rq}{v:Value}(h:gW w q r)(hn:q ≠ q'):gW (w.setCell ⟨q',o,none⟩ v) q r:=h.only (aG.vp v) hn
theorem Y6{w:World}{q:Nat}{r:Rq}{v0 v1 v2 v3 v4 v5 v6 v7:Value}(h:gW w (q+1) r):gW ((((((((w.setCell ⟨q,0,none⟩ v0).setCell ⟨q,1,none⟩ v1).setCell ⟨q,2,none⟩ v2).setCell ⟨q,3,none⟩ v3).setCell ⟨q,4,none⟩ v4).setCell ⟨q,5,none⟩ v5).setCell ⟨q,6,none⟩ v6).setCell ⟨q,7,none⟩ v7) (q+1) r :=
 th (th (th (th (th (th (th (th h oM) oM) oM) oM) oM) oM) oM) oM
theorem Dl.oa(d:Dl)(r:Rq)(n:Nat):(d.cG r n).busy=d.busy:=by
 induction n with
 |zero=>rfl
 |succ n ih=>rw[Dl.fD];exact ih
theorem QH(b:Nat)(d:Dl)(a:An)(k:Nat)(hk:k<d.busy.length)(w:World)(h:bR b d a w)(gr:bu d.busy[k])(hw:d.busy[k].wr=true) :
 Calls prog 133 #[.pointer (some ⟨b,0,none⟩),i6 k,.bool false] w fun e w'=>∃a',e=.returned (.tuple #[fb d.busy[k] none 0 0 0,.nilIface])/\cI b d a (({ d with busy:=d.busy.eraseIdx k }:Dl).cG d.busy[k] d.busy[k].m.toNat) a' w w':=by
 have zt:=aa (h.reqs _ (ach hk));have GR:=aa gr;have HW:=aa hw;clear gr hw;have hl:=h.lt;have HD:=aa h;have h0:¬(k:Int)<0:=oM;have h1:¬(d.busy.length:Int)<=(k:Int):=oM;have h2:(k:Int)<(d.busy.length:Int):=oM;have ve:(k:Int)<=1:=(by have:=h.gL;omega);have hR:=h.AZ;have c:=h.xS;obtain⟨g,n4,lg⟩:=h.place hk;rw[n4] at hR c;obtain⟨r0,r1,r2,r3,r4,r5⟩:=hR.cells hk;simp only[acq] at r0 r1 r2 r3 r4 r5;have Ds:=aa n4;clear h hR n4;generalize hr:d.busy[k]=r at *;have pC:=aa hr;clear hr;go_enter func133,ntmps133;go_wp2_with fail;have iT:=(HD.out.later (ja w (.cells #[.bool false,i6 0,i6 0,.slice none 0 0,.slice none 0 0,i6 0,.slice none 0 0,i6 0] 151) (.cells #[.bool r.wr,i6 r.f,i6 r.m,.slice r.da r.data.length r.dc,.slice r.ta r.tags.length r.tc,i6 r.born] 146))).nE;rw[Ds.out] at iT;refine(T6 d.busy g a.bc k _ hk iT).mono ?_;rintro e w3 ⟨rfl,bF,vX⟩;have cS:=(eM w 151).only (F:=fun _=>False) ((aG.refl _ _).alloc (.cells #[.bool r.wr,i6 r.f,i6 r.m,.slice r.da r.data.length r.dc,.slice r.ta r.tags.length r.tc,i6 r.born] 146)) (fun e=>e);have kh:=lR (w.alloc (.cells #[.bool false,i6 0,i6 0,.slice none 0 0,.slice none 0 0,i6 0,.slice none 0 0,i6 0] 151)) 146 r;rw[ab9] at kh;obtain⟨⟨c3,f3,l3⟩,a',dA,Ct,wu,Nr,nf8⟩:=N7 HD.out hk Ds.out (ja w _ _) cS kh bF vX;clear cS kh iT bF vX r0 r1 r2 r3 r4 r5 c;have aI:=aa dA;generalize hW:w3.setCell ⟨b,66,none⟩ (.slice (some ⟨g,0,none⟩) (d.busy.eraseIdx k).length a.bc)=w4 at *;clear dA;have HS:Hid (gW w4.drew (w.heap.size+1) r):=wu;have Zm:∀args w,Sem.run prog (callFunc 180 args) w=.ok (.enter 180 args) w:=(by intro args w;go_simp);go_wp2_with fail;refine eK (S:=fun wz=>gW wz (w.heap.size+1) r) (d:=5) kR ?_;refine tK 0 rfl HS.out ?_;(try simp only[Act.put,dP]);refine tK 1 rfl HS.out ?_;(try simp only[Act.put,dP]);refine tK 2 rfl HS.out ?_;(try simp only[Act.put,dP]);refine bn (i:=3) rfl kR ?_;intro K hK;refine xD rfl 180 44 45 42 146 rfl Zm (.pointer (some ⟨b,0,none⟩)) r.val rfl rfl (fun v w5=>v=.slice none 0 0/\∃a5,cI b { d with busy:=d.busy.eraseIdx k } a' (({ d with busy:=d.busy.eraseIdx k }:Dl).cG r r.m.toNat) a5 w4.drew w5) ((Ua b _ a' r _ (aI.out.dev.later (aQ _ _).drew) GR.out HW.out ((zt.out.1.frame zt.out.2 aI.out.only).later (aQ _ _).drew) (zt.out.2.step zt.out.1 aI.out.au)).mono fun e w' ⟨a5,he,hs⟩=>⟨_,he,rfl,a5,hs⟩) ?_;rintro v w5 ⟨rfl,a5,JO⟩;have hz5:=(Ct.only (F:=fun _=>False) (aG.refl _ w4).drew (fun e=>e)).only JO.only Nr;have pD:=aa (HS.out.only JO.only nf8);have Ty:=aa (aI.out.oP.trans JO);have abU:¬a5.au b w.heap.size:=fun e=>(JO.au _ e).elim Nr (fun h'=>by have:=Ct.2.2;simp at h';omega)
 refine hK _ _ (fun _=>pD.out) ?_
 (try simp only[Act.put,dP])
 clear hK JO Ct;obtain⟨⟨z0,z1,z2,z3,z4,z5,z6,z7⟩,zf,zl⟩:=hz5;refine bn (i:=4) rfl kR ?_;intro K hK;go_simp;refine hK _ _ (fun _=>pD.out) ?_;(try simp only[Act.put,dP]);clear hK;refine bn (i:=5) rfl kR ?_;intro K hK;go_simp;refine hK _ _ (fun h=>absurd rfl h) ?_;(try simp only[Act.put,dP]);clear hK;refine bn (i:=6) rfl kR ?_;intro K hK;go_simp;refine hK _ _ (fun _=>Y6 pD.out) ?_;(try simp only[Act.put,dP]);clear hK;refine fp kR ?_ _;go_wp2;refine ack (v:=.tuple #[fb r none 0 0 0,.nilIface]) (by simp[results,results133,go_sem,z0,z1,z2,z3,z4,z5,z6,z7]) rfl ⟨a5,rfl,?_⟩
 repeat(first|with_reducible exact Ty.out|with_reducible refine cI.KH ?_ HD.out (fun q hq=>acy (by rw[Dl.oa] at hq;exact hq)) (ab5 _) abU _ _|with_reducible refine cI.oP ?_)
theorem VA{w:World}{q o:Nat}{v:Value}{xa:Option Addr}{xs:List ByteArray}(h:cy w xa xs)(hn:∀ad,xa=some ad->ad.block ≠ q):cy (w.setCell ⟨q,o,none⟩ v) xa xs:=gT h (aG.vp v) (fun _ ad ha=>hn ad ha)
theorem Ug(b:Nat)(d:Dl)(a:An)(k:Nat)(hk:k<d.busy.length)(w:World)(h:bR b d a w)(gr:bu d.busy[k])(hw:d.busy[k].wr=false) :
 Calls prog 133 #[.pointer (some ⟨b,0,none⟩),i6 k,.bool false] w fun e w'=>∃a' xa xc,e=.returned (.tuple #[fb d.busy[k] xa (jR d d.busy[k].f.toNat d.busy[k].m.toNat).length xc 0,.nilIface])/\cy w' xa (jR d d.busy[k].f.toNat d.busy[k].m.toNat)/\(xa=none->xc=0)/\(∀ad,xa=some ad->w.heap.size<=ad.block/\¬a'.au b ad.block)/\cI b d a { d with busy:=d.busy.eraseIdx k } a' w w':=by
 have zt:=aa (h.reqs _ (ach hk));have GR:=aa gr;have HW:=aa hw;clear gr hw;have hl:=h.lt;have HD:=aa h;have h0:¬(k:Int)<0:=oM;have h1:¬(d.busy.length:Int)<=(k:Int):=oM;have h2:(k:Int)<(d.busy.length:Int):=oM;have ve:(k:Int)<=1:=(by have:=h.gL;omega);have hR:=h.AZ;have c:=h.xS;obtain⟨g,n4,lg⟩:=h.place hk;rw[n4] at hR c;obtain⟨r0,r1,r2,r3,r4,r5⟩:=hR.cells hk;simp only[acq] at r0 r1 r2 r3 r4 r5;have Ds:=aa n4;clear h hR n4;generalize hr:d.busy[k]=r at *;have pC:=aa hr;clear hr;go_enter func133,ntmps133;go_wp2_with fail;have iT:=(HD.out.later (ja w (.cells #[.bool false,i6 0,i6 0,.slice none 0 0,.slice none 0 0,i6 0,.slice none 0 0,i6 0] 151) (.cells #[.bool r.wr,i6 r.f,i6 r.m,.slice r.da r.data.length r.dc,.slice r.ta r.tags.length r.tc,i6 r.born] 146))).nE;rw[Ds.out] at iT;refine(T6 d.busy g a.bc k _ hk iT).mono ?_;rintro e w3 ⟨rfl,bF,vX⟩;have cS:=(eM w 151).only (F:=fun _=>False) ((aG.refl _ _).alloc (.cells #[.bool r.wr,i6 r.f,i6 r.m,.slice r.da r.data.length r.dc,.slice r.ta r.tags.length r.tc,i6 r.born] 146)) (fun e=>e);have kh:=lR (w.alloc (.cells #[.bool false,i6 0,i6 0,.slice none 0 0,.slice none 0 0,i6 0,.slice none 0 0,i6 0] 151)) 146 r;rw[ab9] at kh;obtain⟨⟨c3,f3,l3⟩,a',dA,Ct,wu,Nr,nf8⟩:=N7 HD.out hk Ds.out (ja w _ _) cS kh bF vX;clear cS kh iT bF vX r0 r1 r2 r3 r4 r5 c;have aI:=aa dA;generalize hW:w3.setCell ⟨b,66,none⟩ (.slice (some ⟨g,0,none⟩) (d.busy.eraseIdx k).length a.bc)=w4 at *;clear dA;have HS:Hid (gW w4.drew (w.heap.size+1) r):=wu;have Zm:∀args w,Sem.run prog (callFunc 180 args) w=.ok (.enter 180 args) w:=(by intro args w;go_simp);go_wp2_with fail;refine eK (S:=fun wz=>gW wz (w.heap.size+1) r) (d:=5) kR ?_;refine tK 0 rfl HS.out ?_;(try simp only[Act.put,dP]);refine tK 1 rfl HS.out ?_;(try simp only[Act.put,dP]);refine tK 2 rfl HS.out ?_;(try simp only[Act.put,dP]);refine bn (i:=3) rfl kR ?_;intro K hK;refine xD rfl 180 44 45 42 146 rfl Zm (.pointer (some ⟨b,0,none⟩)) r.val rfl rfl (fun v w5=>∃xa xc,v=.slice xa (jR d r.f.toNat r.m.toNat).length xc/\cy w5 xa (jR d r.f.toNat r.m.toNat)/\(xa=none->xc=0)/\(∀ad,xa=some ad->w4.heap.size<=ad.block)/\Below w4.heap.size w4.drew w5) ((Xm b _ a' r _ (aI.out.dev.later (aQ _ _).drew) GR.out HW.out).mono fun e w' ⟨xa,xc,he,h1,h2,h3,h4⟩=>⟨_,he,xa,xc,rfl,h1,h2,h3,h4⟩) ?_;rintro v w5 ⟨xa,xc,rfl,jQ,oF,n5,fT⟩;have hz5:=Ct.only (F:=fun _=>False) (aG.cj ((aQ w4.heap.size w4).drew.trans fT)) (fun e=>e);have pD:=aa (HS.out.later fT);have Ty:=aa (aI.out.oP.later fT);have YS:=aa (⟨jQ,oF,n5⟩:_/\_/\_);have zl4:=Ct.2.2;refine hK _ _ (fun _=>pD.out) ?_
 (try simp only[Act.put,dP])
 clear hK Ct jQ oF n5 fT;obtain⟨⟨z0,z1,z2,z3,z4,z5,z6,z7⟩,zf,zl⟩:=hz5;refine bn (i:=4) rfl kR ?_;intro K hK;go_simp;refine hK _ _ (fun _=>pD.out) ?_;(try simp only[Act.put,dP]);clear hK;refine bn (i:=5) rfl kR ?_;intro K hK;go_simp;refine hK _ _ (fun h=>absurd rfl h) ?_;(try simp only[Act.put,dP]);clear hK;refine bn (i:=6) rfl kR ?_;intro K hK;go_simp;refine hK _ _ (fun _=>Y6 pD.out) ?_;(try simp only[Act.put,dP]);clear hK;refine fp kR ?_ _;go_wp2;obtain⟨jQ,oF,n5⟩:=YS.out;refine ack (v:=.tuple #[fb r xa (jR d r.f.toNat r.m.toNat).length xc 0,.nilIface]) (by simp[results,results133,go_sem,z0,z1,z2,z3,z4,z5,z6,z7]) rfl ⟨a',xa,xc,rfl,?_,oF,fun ad pG=>⟨by have:=n5 ad pG;omega,fun e=>?_⟩,?_⟩
 ·repeat(first|with_reducible exact jQ|with_reducible refine VA ?_ (fun ad pG=>by have:=n5 ad pG;omega))
 ·have h1:=aI.out.dev.bz _ e;have h2:=n5 ad pG
  omega
 ·repeat(first|with_reducible exact Ty.out|with_reducible refine cI.KH ?_ HD.out (fun q hq=>acy hq) (ab5 _) Nr _ _|with_reducible refine cI.oP ?_)
def Dl.cq(d:Dl)(r:Rq):Dl:=if r.wr=true then d.cG r r.m.toNat else d
theorem Dl.mw(d:Dl)(r:Rq):(d.cq r).busy=d.busy:=by unfold Dl.cq;split;exact Dl.oa _ _ _;rfl
def cV(d:Dl)(r:Rq):List ByteArray:=if r.wr=true then [] else jR d r.f.toNat r.m.toNat
theorem n7{F:Nat->Prop}{w:World}{r:Rq}(h:r.At w)(hF:∀k,F k->w.heap.size<=k):r.dC F :=
 ⟨fun he ad ha hk=>by have h1:=yx h.data he ha;have h2:=hF _ hk;omega,fun he ad ha hk=>by have h1:=qW h.tags he ha;have h2:=hF _ hk;omega⟩
def jq(w:World)(q:Nat)(r:Rq)(xa:Option Addr)(n xc:Nat)(er:Int):Prop:=w.cell? ⟨q,0,none⟩=some (.bool r.wr)/\w.cell? ⟨q,1,none⟩=some (i6 r.f)/\w.cell? ⟨q,2,none⟩=some (i6 r.m)/\w.cell? ⟨q,3,none⟩=some (.slice r.da r.data.length r.dc)/\w.cell? ⟨q,4,none⟩=some (.slice r.ta r.tags.length r.tc)/\w.cell? ⟨q,5,none⟩=some (i6 r.born)/\w.cell? ⟨q,6,none⟩=some (.slice xa n xc)/\w.cell? ⟨q,7,none⟩=some (i6 er)
theorem yp(w:World)(T:TypeId)(r:Rq)(xa:Option Addr)(n xc:Nat)(er:Int):jq (w.alloc (.cells #[.bool r.wr,i6 r.f,i6 r.m,.slice r.da r.data.length r.dc,.slice r.ta r.tags.length r.tc,i6 r.born,.slice xa n xc,i6 er] T)) w.heap.size r xa n xc er:=by
 refine⟨?_,?_,?_,?_,?_,?_,?_,?_⟩<;>simp
theorem Xp(b:Nat)(d:Dl)(a:An)(k:Nat)(hk:k<d.busy.length)(w:World)(h:bR b d a w)(gr:bu d.busy[k]) :
 Calls prog 133 #[.pointer (some ⟨b,0,none⟩),i6 k,.bool false] w fun e w'=>∃a' xa xc xs,e=.returned (.tuple #[fb d.busy[k] xa (List.length xs) xc 0,.nilIface])/\Hid (xs=cV d d.busy[k])/\cy w' xa xs/\(∀ad,xa=some ad->w.heap.size<=ad.block/\¬a'.au b ad.block)/\cI b d a (({ d with busy:=d.busy.eraseIdx k }:Dl).cq d.busy[k]) a' w w':=by
 by_cases hw:d.busy[k].wr=true
 ·refine(QH b d a k hk w h gr hw).mono ?_;rintro e w' ⟨a',rfl,hs⟩;refine⟨a',none,0,[],rfl,by show _=_;rw[cV,aca hw],il rfl,sM,?_⟩;rw[Dl.cq,aca hw];exact hs
 ·have br:d.busy[k].wr=false:=by simpa using hw
  refine(Ug b d a k hk w h gr br).mono ?_;rintro e w' ⟨a',xa,xc,rfl,h1,h2,h3,hs⟩;refine⟨a',xa,xc,_,rfl,by show _=_;rw[cV,ab6 hw],h1,h3,?_⟩;rw[Dl.cq,ab6 hw];exact hs
theorem Zn(b:Nat)(d:Dl)(a:An)(l:List Rq)(k:Nat)(r:Rq)(hb:d.busy=l)(hk:l[k]?=some r)(w:World)(h:bR b d a w)(gr:bu r) :
 Calls prog 133 #[.pointer (some ⟨b,0,none⟩),i6 k,.bool false] w fun e w'=>∃a' xa xc xs,e=.returned (.tuple #[fb r xa (List.length xs) xc 0,.nilIface])/\Hid (xs=cV d r)/\cy w' xa xs/\(∀ad,xa=some ad->w.heap.size<=ad.block/\¬a'.au b ad.block)/\cI b d a (({ d with busy:=l.eraseIdx k }:Dl).cq r) a' w w':=by
 subst hb;obtain⟨eH,rfl⟩:=ac1.1 hk;exact Xp b d a k eH w h gr
theorem Tm(d:Dl)(q:Nat)(s:ByteArray):(d.write q s).now.length=d.now.length:=by simp[Dl.write]
theorem KY(d:Dl)(r:Rq)(n:Nat):(d.cG r n).now.length=d.now.length:=by
 induction n with
 |zero=>rfl
 |succ n ih=>rw[Dl.fD,Tm,ih]
theorem Xk(d:Dl)(r:Rq):(d.cq r).now.length=d.now.length:=by unfold Dl.cq;split;exact KY _ _ _;rfl
structure Two(w:World)(bc:Nat)(dc:Dl)(ac:An)(bd:Nat)(dd:Dl)(ad:An)(wr:World):Prop where
 c:bR bc dc ac wr
 d:bR bd dd ad wr
 apart:∀k,ac.au bc k->ad.au bd k->False
 fc:∀k,ac.au bc k->w.heap.size<=k
 fd:∀k,ad.au bd k->w.heap.size<=k
 rc:∀r∈dc.busy,r.At w
 rd:∀r∈dd.busy,r.At w
 bel:bL w wr
theorem oe(kp:Int)(x:Wn)(l:List Wn)(G:List ByteArray):gM kp (x::l) G=gM kp l (if mG kp x.bit=true then G.set x.pl x.data else G):=rfl
theorem Er(p n:Nat)(x:Wn)(l:List Wn):eT p n (x::l)=if jU p n x=true then eT p n l else x::eT p n l:=by
 unfold eT;rw[List.filter_cons]
 cases jU p n x<;>simp
theorem Re{p n:Nat}{x:Wn}(h:jU p n x=true):x.pl=p/\x.bit=n:=by simpa [jU] using h
theorem Qe(kp:Int)(p n:Nat)(h:mG kp n=false)(l:List Wn):∀G,gM kp (eT p n l) G=gM kp l G:=by
 induction l with
 |nil=>intro G;rfl
 |cons x l ih =>
  intro G;rw[Er]
  by_cases e:jU p n x=true
  ·rw[aca e,ih,oe,(Re e).2,h];rfl
  ·rw[ab6 e,oe,oe,ih]
theorem TG(kp:Int)(p n:Nat)(s:ByteArray)(l:List Wn):∀G H:List ByteArray,G.set p s=H.set p s->(gM kp (eT p n l) G).set p s=(gM kp l H).set p s:=by
 induction l with
 |nil=>intro G H h;exact h
 |cons x l ih =>
  intro G H h;rw[Er]
  by_cases e:jU p n x=true
  ·rw[aca e,oe];refine ih _ _ ?_
   by_cases hb:mG kp x.bit=true
   ·rw[aca hb,(Re e).1,adY];exact h
   ·rw[ab6 hb];exact h
  ·rw[ab6 e,oe,oe];refine ih _ _ ?_
   by_cases hb:mG kp x.bit=true
   ·rw[aca hb,aca hb]
    by_cases hq:x.pl=p
    ·rw[hq,adY,adY];exact h
    ·rw[List.set_comm _ _ hq,List.set_comm _ _ hq,h]
   ·rw[ab6 hb,ab6 hb];exact h
theorem K9(kp:Int)(p n:Nat)(s:ByteArray)(l:List Wn)(G:List ByteArray):gM kp (eT p n l++[⟨p,s,n⟩]) G=if mG kp n=true then(gM kp l G).set p s else gM kp l G:=by
 rw[xo]
 by_cases hb:mG kp n=true
 ·rw[aca hb,aca hb];exact TG kp p n s l G G rfl
 ·rw[ab6 hb,ab6 hb];exact Qe kp p n (by simpa using hb) l G
def Dl.after(d:Dl)(kp:Int):List ByteArray:=gM kp d.wr d.bP
theorem K6(d:Dl)(kp:Int)(p:Nat)(s:ByteArray):(d.write p s).after kp=if mG kp d.next=true then(d.after kp).set p s else d.after kp:=K9 kp p d.next s d.wr d.bP
theorem Il(d:Dl)(r:Rq)(n:Nat):(d.cG r n).bP=d.bP:=by
 induction n with
 |zero=>rfl
 |succ n ih=>rw[Dl.fD];exact ih
theorem KN(l:List ByteArray)(p:Nat)(s:ByteArray):(dw l).set p (.string s)=dw (l.set p s):=by simp[dw,aeP]
end Go.Proofs.YtlhgjplipgandaaGreatDoor
