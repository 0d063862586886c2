/- Joined. -/
import Derived.Deep.MidRow
import Derived.Lib.SliceRun
import Derived.Deep.RegionLaw
import Derived.Deep.QuietTactic
import Derived.BigQuiet
import Derived.Test.YtlhgjplipgandaaGreatDoorF4
import Derived.Test.YtlhgjplipgandaaGreatDoorF10
set_option maxRecDepth 100000
set_option maxHeartbeats 8000000
set_option linter.unusedSimpArgs false
set_option linter.unusedSectionVars false
namespace Go.Proofs.YtlhgjplipgandaaGreatDoor
open Tryz
section
open Go.RowKit
abbrev ago:=@Go.length_splice
structure aH(F:Nat->Prop)(w w':World):Prop where
 os:w'.os=w.os
 tape:w'.tape=w.tape
 output:w'.output=w.output
 size:w.heap.size<=w'.heap.size
 block:∀k,k<w.heap.size->¬F k->w'.heap[k]?=w.heap[k]?
theorem aH.refl(F:Nat->Prop)(w:World):aH F w w:=⟨rfl,rfl,rfl,aaO _,fun _ _ _=>rfl⟩
theorem aH.trans{F F':Nat->Prop}{a b c:World}(h:aH F a b)(k:aH F' b c)(hF:∀i,F' i->F i\/a.heap.size<=i):aH F a c :=
 ⟨k.os.trans h.os,k.tape.trans h.tape,k.output.trans h.output,abb h.size k.size,fun i hi hn =>
  (k.block i (abF hi h.size) (fun e=>(hF i e).elim hn (fun h'=>oM))).trans (h.block i hi hn)⟩
theorem aH.mono{F F':Nat->Prop}{a b:World}(h:aH F a b)(hF:∀i,F i->F' i):aH F' a b :=
 ⟨h.os,h.tape,h.output,h.size,fun i hi hn=>h.block i hi (fun e=>hn (hF i e))⟩
theorem aH.cj{F:Nat->Prop}{a b:World}(h:bL a b):aH F a b:=⟨h.os,h.tape,h.output,h.size,fun i hi _=>h.block i hi⟩
theorem aH.below{F:Nat->Prop}{a b:World}{B:Nat}(h:aH F a b)(hB:B<=a.heap.size)(hF:∀i,F i->B<=i):Below B a b :=
 ⟨h.os,h.tape,h.output,h.size,fun i hi=>h.block i oM (fun e=>by have:=hF i e;omega)⟩
theorem aH.grown{F:Nat->Prop}{a b c:World}{row:Option Nat}(h:aH F a b)(hg:b.grownBy c row)(hr:∀k,row=some k->F k\/a.heap.size<=k):aH F a c :=
 h.trans (F':=fun i=>row=some i) ⟨hg.os,hg.tape,hg.output,hg.size,fun k hk hn=>hg.block k hk (fun e=>hn e.symm)⟩ (fun i e=>hr i e)
theorem aH.alloc{F:Nat->Prop}{a b:World}(h:aH F a b)(o:Obj):aH F a (b.alloc o) :=
 h.trans (F':=fun _=>False) ⟨rfl,rfl,rfl,sM,fun k hk _=>Below.heap_alloc _ _ _ hk⟩ (fun _ e=>e.elim)
theorem aH.drew{F:Nat->Prop}{a b:World}(h:aH F a b):aH F a b.drew:=⟨h.os,h.tape,h.output,h.size,h.block⟩
theorem aH.setCell{F:Nat->Prop}{a b:World}(h:aH F a b)(p:Addr)(hp:F p.block\/a.heap.size<=p.block)(u:Value):aH F a (b.setCell p u) :=
 h.trans (F':=fun i=>i=p.block) ⟨rfl,rfl,rfl,by simp[World.setCell],fun k _ hn=>Below.heap_setCell _ _ _ _ hn⟩ (fun i e=>by subst e;exact hp)
theorem aH.later{F:Nat->Prop}{a b c:World}(h:aH F a b)(k:bL b c):aH F a c:=h.trans (F':=fun _=>False) (aH.cj k) (fun _ e=>e.elim)
theorem aH.cell{F:Nat->Prop}{a b:World}(h:aH F a b){p:Addr}(hp:p.block<a.heap.size)(hn:¬F p.block):b.cell? p=a.cell? p:=World.cell?_of_block (w:=a) (h.block p.block hp hn)
theorem aH.frozen{F:Nat->Prop}{a b:World}(h:aH F a b){p:Addr}(hp:p.block<a.heap.size)(hn:¬F p.block):b.frozen? p=a.frozen? p:=World.frozen?_of_block (w:=a) (h.block p.block hp hn)
theorem bJ{w:World}{b:Nat}{cs:List Value}{T:TypeId}(h:w.heap[b]?=some (.cells cs.toArray T (0,0)))(j:Nat)(u:Value):(w.setCell ⟨b,j,none⟩ u).heap[b]?=some (.cells (cs.set j u).toArray T (0,0)):=by
 simp only[World.setCell,Array.getElem?_modify]
 simp[h]
theorem mN{w:World}{b k:Nat}(j:Nat)(u:Value)(hk:k ≠ b):(w.setCell ⟨b,j,none⟩ u).heap[k]?=w.heap[k]?:=Below.heap_setCell _ _ _ _ hk
theorem aK{w:World}{b:Nat}{o:Obj}(h:w.heap[b]?=some o):b<w.heap.size:=by
 rcases adI b w.heap.size with h'|h'
 ·exact h'
 ·rw[ac9 h'] at h;cases h
theorem aR{w:World}{b:Nat}{cs:List Value}{T:TypeId}(h:w.heap[b]?=some (.cells cs.toArray T (0,0)))(j:Nat):w.cell? ⟨b,j,none⟩=cs[j]?:=by simp[World.cell?,h]
theorem cG{w:World}{b:Nat}{cs:List Value}{T:TypeId}(h:w.heap[b]?=some (.cells cs.toArray T (0,0)))(j:Nat):w.frozen? ⟨b,j,none⟩=false:=by simp[World.frozen?,h]
theorem kQ(b:Nat)(T:TypeId):∀(vs:List Value) (o:Nat) (cs:List Value) (w:World),w.heap[b]?=some (.cells cs.toArray T (0,0))->o+vs.length<=cs.length->(w.setCells b o vs).heap[b]?=some (.cells (splice cs o vs).toArray T (0,0))
 |[],o,cs,w,h,_=>by rw[vR];exact h
 |v::r,o,cs,w,h,hl=>by
  have wY:o+1+r.length<=(cs.set o v).length:=by simp at hl ⊢;omega
  have:=kQ b T r (o+1) (cs.set o v) _ (bJ h o v) wY;rw[World.setCells,this]
  congr 3
  have ho:o<cs.length:=by simp at hl;omega
  simp only[splice];rw[agl,aaV ho];have e:(cs.take o).length=o:=by rw[abm];omega
  simp only[acf];rw[List.take_append,e,abv (by omega:(cs.take o).length<=o+1),show o+1-o=1 from oM,List.take_succ_cons,afv,afu,e,acA (by omega:(cs.take o).length<=o+1+r.length),show o+1+r.length-o=r.length+1 from oM,List.drop_succ_cons,af0]
  simp[Nat.add_comm,Nat.add_left_comm]
theorem rG{F:Nat->Prop}{a:World}(b:Nat)(hb:F b\/a.heap.size<=b):∀(vs:List Value) (o:Nat) (w:World),aH F a w->aH F a (w.setCells b o vs)
 |[],_,_,h=>h
 |v::r,o,w,h=>by rw[World.setCells];exact rG b hb r (o+1) _ (h.setCell _ hb v)
theorem dR{w w':World}{base e size n:Nat}{v:Value}{xs:List Value}(h:w.ownsRow base e size v n xs)(hk:∀g,v.ownBlock=some g->w'.heap[g]?=w.heap[g]?):w'.ownsRow base e size v n xs:=by
 refine⟨h.1,h.2.elim il ?_⟩;rintro⟨g,cap,cur,rfl,hg,hh,r⟩;exact ir ⟨g,cap,cur,rfl,hg,by rw[hk g rfl];exact hh,r⟩
theorem XH{P:Program}(w:World)(base:Nat)(t ty e:TypeId)(i:TypeInfo)(z:Value)(size bytes:Nat)(ht:P.underlying t=some (.slice e))(hi:P.info? e=some i)(hz:i.zero=some z)
 (sU:i.size=size) (jh:i.bytes=bytes) (zD:z.cells.size=size) (iV:0<size)
 (v:Value) (n:Nat) (xs:List Value) (bu:w.ownsRow base e size v n xs)
 (a:Addr) (m c:Nat) (news:List Value) (hl:news.length=m*size) (CV:∀j u,news[j]?=some u->w.cell? (a.add j)=some u) (h1:∀u∈news,u.oneCell'=true) (hm:0<m)
 (BK:n+m<=maxLen) (oI:(n+m)*bytes<=140737488355328) (kx:base<=w.heap.size) :
 ∃v' w',(Builtin.append_ #[t,t] ty #[v,.slice (some a) m c]).run P w=.ok v' w'/\w'.ownsRow base e size v' (n+m) (xs++news)/\w.grownBy w' v.ownBlock/\(v'.ownBlock=v.ownBlock\/v'.ownBlock=some w.heap.size):=by
 obtain⟨v',w',gY,r1,r2,r3⟩:=run_append_own (P:=P) w base t ty e i z size bytes ht hi hz sU jh zD iV v n xs bu a m c news hl CV h1 BK oI kx;refine⟨v',w',gY,r1,r2,?_⟩;subst sU;subst jh;have ae9:n+m<=9223372036854775807:=by simp only[maxLen] at BK;omega
 rcases bu.2 with⟨rfl,rfl⟩|⟨g,cap,cur,rfl,YQ,hg,jO,ig,hcs,htake⟩
 ·right
  have hr:=run_append_nil (P:=P) w t ty e i z ht hi hz a m c news hl CV oM oM (by have hb:=oI;simp only[abc] at hb;omega);rw[hr] at gY;simp only[Result.ok.injEq] at gY;rw[<-gY.1];rfl
 ·by_cases l8:n+m<=cap
  ·left
   have nA:n*i.size+news.length<=cur.size:=by rw[hl,hcs,<-Nat.add_mul];exact Nat.mul_le_mul_right _ l8
   have hr:=run_append_room (P:=P) w t ty e i ht hi g n cap cur hg a m c news hl CV h1 l8 nA;rw[hr] at gY;simp only[Result.ok.injEq] at gY;rw[<-gY.1];rfl
  ·right
   have holds:∀j u,xs[j]?=some u->w.cell? ((⟨g,0,none⟩:Addr).add j)=some u:=bu.cells (g:=g) rfl;have hr:=run_append_grow (P:=P) w t ty e i z ht hi hz ⟨g,0,none⟩ n cap xs bu.1 holds a m c news hl CV oM oM (growslice_fits oM oI);rw[hr] at gY;simp only[Result.ok.injEq] at gY;rw[<-gY.1];rfl
theorem yD{P:Program}{ops:Array Oper}{o:Oper}{a:Act}{w:World}{K:Act->World->Prop}{Q:Exit->Act->World->Prop}{E:Prop}(uP:o.guard=none)(s x:Operand)(t:TypeId)
 (qY:o.op=.call { callee:=.builtin .append,args:=#[s,x],argTypes:=#[t,t] }) (base:Nat) (e:TypeId) (i:TypeInfo) (z:Value) (size bytes:Nat) (ht:P.underlying t=some (.slice e)) (hi:P.info? e=some i) (hz:i.zero=some z)
 (sU:i.size=size) (jh:i.bytes=bytes) (zD:z.cells.size=size) (iV:0<size)
 (v:Value) (n:Nat) (xs:List Value) (hs:a.eval s=v) (bu:w.ownsRow base e size v n xs)
 (ad:Addr) (m c:Nat) (news:List Value) (hx:a.eval x=.slice (some ad) m c) (hl:news.length=m*size) (CV:∀j u,news[j]?=some u->w.cell? (ad.add j)=some u) (h1:∀u∈news,u.oneCell'=true) (hm:0<m)
 (BK:n+m<=maxLen) (oI:(n+m)*bytes<=140737488355328) (kx:base<=w.heap.size)
 (h:∀v' w',w'.ownsRow base e size v' (n+m) (xs++news)->w.grownBy w' v.ownBlock->(v'.ownBlock=v.ownBlock\/v'.ownBlock=some w.heap.size)->K (a.put o.dst v') w') :
 if Region.wanted o (yielded ops a.tmps)=true then Oper.wp P o a w K Q else E:=by
 have hw:Region.wanted o (yielded ops a.tmps)=true:=by simp[Region.wanted,uP]
 rw[aaV hw];obtain⟨v',w',gY,r1,r2,r3⟩:=XH (P:=P) w base t o.type e i z size bytes ht hi hz sU jh zD iV v n xs bu ad m c news hl CV h1 hm BK oI kx;unfold Oper.wp
 simp[execOp,qY,resolve,invoke,builtin,hs,hx,gY,Result.andThen]
 exact h v' w' r1 r2 r3
theorem iA{w:World}{base e size n:Nat}{v:Value}{xs:List Value}(h:w.ownsRow base e size v n xs):∃a c,v=.slice a n c/\(a=none->c=0)/\(∀ad,a=some ad->∃g,ad=⟨g,0,none⟩)/\c<=9223372036854775807/\n<=c:=by
 rcases h.2 with⟨rfl,rfl⟩|⟨g,cap,cur,rfl,hg,hh,jO,ig,_⟩
 ·exact⟨none,0,rfl,fun _=>rfl,sM,sM,sM⟩
 ·exact⟨_,cap,rfl,sM,fun ad e=>⟨g,by simpa using e.symm⟩,by unfold maxLen at ig;omega,jO⟩
def Rq.dB(F:Nat->Prop)(r:Rq):Prop:=(r.data ≠ []->∀a,r.da=some a->¬F a.block)/\(r.tags ≠ []->∀a,r.ta=some a->¬F a.block)
theorem gV{F:Nat->Prop}{w w':World}{a:Option Addr}{xs:List ByteArray}(h:StrsAt w a xs)(hk:aH F w w')(hn:xs ≠ []->∀ad,a=some ad->¬F ad.block):StrsAt w' a xs:=by
 rcases h with h|⟨b,o,ha,hc⟩
 ·exact il h
 ·by_cases he:xs=[]
  ·exact il he
  ·refine ir ⟨b,o,ha,fun i hi=>?_⟩;rw[hk.cell (p:=⟨b,o+i,none⟩) (aq (hc i hi)) (hn he ⟨b,o,none⟩ ha)];exact hc i hi
theorem Ay{F:Nat->Prop}{w w':World}{a:Option Addr}{xs:List Int}(h:eF w a xs)(hk:aH F w w')(hn:xs ≠ []->∀ad,a=some ad->¬F ad.block):eF w' a xs:=by
 rcases h with h|⟨b,o,ha,hc⟩
 ·exact il h
 ·by_cases he:xs=[]
  ·exact il he
  ·refine ir ⟨b,o,ha,fun i hi=>?_⟩;rw[hk.cell (p:=⟨b,o+i,none⟩) (aq (hc i hi)) (hn he ⟨b,o,none⟩ ha)];exact hc i hi
theorem Rq.At.frame{F:Nat->Prop}{w w':World}{r:Rq}(h:r.At w)(ho:r.dB F)(hk:aH F w w'):r.At w' :=
 ⟨gV h.data hk ho.1,Ay h.tags hk ho.2,h.dl,h.tl,h.f,h.m,h.born,h.dn,h.tn⟩
theorem zQ{w:World}{a:Option Addr}{xs:List ByteArray}(h:StrsAt w a xs)(he:xs ≠ []){ad:Addr}(ha:a=some ad):ad.block<w.heap.size:=by
 rcases h with h|⟨b,o,qw,hc⟩
 ·exact absurd h he
 ·rw[ha] at qw;simp only[aa4] at qw;subst qw;have:0<xs.length:=afi.2 he;exact aq (hc 0 this)
theorem sa{w:World}{a:Option Addr}{xs:List Int}(h:eF w a xs)(he:xs ≠ []){ad:Addr}(ha:a=some ad):ad.block<w.heap.size:=by
 rcases h with h|⟨b,o,qw,hc⟩
 ·exact absurd h he
 ·rw[ha] at qw;simp only[aa4] at qw;subst qw;have:0<xs.length:=afi.2 he;exact aq (hc 0 this)
theorem Rq.dB.step{F F':Nat->Prop}{w:World}{r:Rq}(h:r.At w)(ho:r.dB F)(hF:∀k,F' k->F k\/w.heap.size<=k):r.dB F' :=
 ⟨fun he a ha hk=>(hF _ hk).elim (ho.1 he a ha) (fun h'=>by have:=zQ h.data he ha;omega),fun he a ha hk=>(hF _ hk).elim (ho.2 he a ha) (fun h'=>by have:=sa h.tags he ha;omega)⟩
structure Wn where
 pl:Nat
 data:ByteArray
 bit:Nat
abbrev Wn.val(x:Wn):Value:=.agg #[i6 x.pl,.string x.data,i6 x.bit]
def Wn.key(x:Wn):Nat:=x.pl*64+x.bit
def eK(l:List Wn):List Value:=l.flatMap fun x=>[i6 x.pl,.string x.data,i6 x.bit]
theorem uC(x:Wn)(l:List Wn):eK (x::l)=i6 x.pl::.string x.data::i6 x.bit::eK l:=rfl
theorem my(l:List Wn):(eK l).length=l.length*3:=by
 induction l with
 |nil=>rfl
 |cons r l ih=>rw[uC,acf,acf,acf,ih,acf];omega
theorem Bi(l l':List Wn):eK (l++l')=eK l++eK l':=by simp[eK]
theorem CA(l:List Wn):∀(i:Nat) (h:i<l.length),(eK l)[i*3]?=some (i6 l[i].pl)/\(eK l)[i*3+1]?=some (.string l[i].data)/\(eK l)[i*3+2]?=some (i6 l[i].bit):=by
 induction l with
 |nil=>intro i h;exact absurd h (aa0 _)
 |cons r l ih =>
  intro i h
  cases i with
  |zero=>exact⟨rfl,rfl,rfl⟩
  |succ i =>
   have:=ih i (by simpa using h);rw[uC,show(i+1)*3=i*3+3 from oM];exact this
theorem On(l:List Wn)(k:Nat):(eK l).take (k*3)=eK (l.take k):=by
 by_cases hk:k<=l.length
 ·have e:=Bi (l.take k) (l.drop k);rw[ab8] at e;have hl:(eK (l.take k)).length=k*3:=by rw[my,abm,ac1 hk]
  rw[e,abT oM,abv oM]
 ·rw[abv (by rw[my];omega),abv oM]
structure Dl where
 now:List ByteArray
 bO:List ByteArray
 wr:List Wn
 next:Nat
 busy:List Rq
structure An where
 wa:Option Addr
 wc:Nat
 ba:Option Addr
 bc:Nat
def dx(l:List ByteArray):List Value:=l.map fun s=>.string s
def Dl.cells(d:Dl)(a:An):List Value:=dx d.now++dx d.bO++[.slice a.wa d.wr.length a.wc,i6 d.next,.slice a.ba d.busy.length a.bc]
def An.ay(a:An)(b:Nat)(k:Nat):Prop:=k=b\/(∃p,a.wa=some p/\k=p.block)\/(∃p,a.ba=some p/\k=p.block)
structure bR(b:Nat)(d:Dl)(a:An)(w:World):Prop where
 dv:d.now.length=32
 fY:d.bO.length=32
 a7:w.heap[b]?=some (.cells (d.cells a).toArray 108 (0,0))
 jH:w.ownsRow 0 213 3 (.slice a.wa d.wr.length a.wc) d.wr.length (eK d.wr)
 oa:w.ownsRow 0 146 6 (.slice a.ba d.busy.length a.bc) d.busy.length (a8 d.busy)
 jl:∀p,a.wa=some p->p.block ≠ b
 qK:∀p,a.ba=some p->p.block ≠ b
 qq:∀p q,a.wa=some p->a.ba=some q->p.block ≠ q.block
 reqs:∀r∈d.busy,r.At w/\r.dB (a.ay b)
 kn:∀x∈d.wr,x.pl<32/\x.bit<64
 xv:(d.wr.map Wn.key).Nodup
 gQ:d.busy.length<=2
 pX:d.next<64
structure cP(b:Nat)(d:Dl)(a:An)(d':Dl)(a':An)(w w':World):Prop where
 dev:bR b d' a' w'
 only:aH (a.ay b) w w'
 ay:∀k,a'.ay b k->a.ay b k\/w.heap.size<=k
theorem cP.trans{b:Nat}{d d' Su:Dl}{a a' RZ:An}{w w' eZ:World}(h:cP b d a d' a' w w')(k:cP b d' a' Su RZ w' eZ):cP b d a Su RZ w eZ :=
 ⟨k.dev,h.only.trans k.only h.ay,fun i hi=>(k.ay i hi).elim (h.ay i) (fun h'=>ir (abb h.only.size h'))⟩
theorem aS(l:List ByteArray):(dx l).length=l.length:=by simp[dx]
theorem Dl.lP{d:Dl}{a:An}(h1:d.now.length=32)(h2:d.bO.length=32):(d.cells a).length=67:=by simp[Dl.cells,aS,h1,h2]
theorem Dl.E4{d:Dl}{a:An}(h1:d.now.length=32)(h2:d.bO.length=32):(d.cells a)[64]?=some (.slice a.wa d.wr.length a.wc):=by
 rw[Dl.cells,abZ (by simp[aS,h1,h2])];simp[aS,h1,h2]
theorem Dl.E5{d:Dl}{a:An}(h1:d.now.length=32)(h2:d.bO.length=32):(d.cells a)[65]?=some (i6 d.next):=by
 rw[Dl.cells,abZ (by simp[aS,h1,h2])];simp[aS,h1,h2]
theorem Dl.Sd{d:Dl}{a:An}(h1:d.now.length=32)(h2:d.bO.length=32):(d.cells a)[66]?=some (.slice a.ba d.busy.length a.bc):=by
 rw[Dl.cells,abZ (by simp[aS,h1,h2])];simp[aS,h1,h2]
theorem Dl.GN{d:Dl}{a:An}(h1:d.now.length=32)(k:Nat)(hk:k<32):(d.cells a)[k]?=some (.string (d.now.getD k bE)):=by
 rw[Dl.cells,abp,abU (by rw[aS];omega)]
 simp[dx,aaX (show k<d.now.length from oM)]
theorem LV:∀(n:Nat) (l:List Nat),l.Nodup->(∀x∈l,x<n)->l.length<=n
 |0,l,_,h=>by
  cases l with
  |nil=>simp
  |cons x l=>exact absurd (h x sM) (aa0 _)
 |n+1,l,hn,h=>by
  have h1:=LV n (l.erase n) (hn.erase n) (fun x hx=>by
   have:=h x (List.mem_of_mem_erase hx);have aE:=(hn.mem_erase_iff).1 hx
   omega)
  have h2:l.length-1<=(l.erase n).length:=by rw[List.length_erase];split<;>omega
  omega
section
variable{b:Nat}{d:Dl}{a:An}{w:World}
theorem bR.adD(h:bR b d a w):d.wr.length<=2048:=by
 have:=LV 2048 _ h.xv (fun x hx=>by
  obtain⟨y,hy,rfl⟩:=acM.1 hx;have:=h.kn y hy;unfold Wn.key;omega)
 simpa using this
theorem bR.pG(h:bR b d a w):w.cell? ⟨b,64,none⟩=some (.slice a.wa d.wr.length a.wc):=by rw[aR h.a7];exact Dl.E4 h.dv h.fY
theorem bR.j8(h:bR b d a w):w.cell? ⟨b,65,none⟩=some (i6 d.next):=by rw[aR h.a7];exact Dl.E5 h.dv h.fY
theorem bR.zm(h:bR b d a w):w.cell? ⟨b,66,none⟩=some (.slice a.ba d.busy.length a.bc):=by rw[aR h.a7];exact Dl.Sd h.dv h.fY
theorem bR.GL(h:bR b d a w)(k:Nat)(hk:k<32):w.cell? ⟨b,k,none⟩=some (.string (d.now.getD k bE)):=by rw[aR h.a7];exact Dl.GN h.dv k hk
theorem bR.fz(h:bR b d a w)(j:Nat):w.frozen? ⟨b,j,none⟩=false:=cG h.a7 j
theorem bR.lt(h:bR b d a w):b<w.heap.size:=aK h.a7
theorem bR.CB(h:bR b d a w)(p:Addr)(hp:a.wa=some p):p.block<w.heap.size:=(h.jH.lt p.block (by rw[hp];rfl)).2
theorem bR.blt(h:bR b d a w)(p:Addr)(hp:a.ba=some p):p.block<w.heap.size:=(h.oa.lt p.block (by rw[hp];rfl)).2
theorem bR.bC(h:bR b d a w)(k:Nat)(hk:a.ay b k):k<w.heap.size:=by
 rcases hk with rfl|⟨p,hp,rfl⟩|⟨p,hp,rfl⟩
 ·exact h.lt
 ·exact h.CB p hp
 ·exact h.blt p hp
theorem bR.frame{F:Nat->Prop}{w':World}(h:bR b d a w)(hk:aH F w w')(hF:∀k,a.ay b k->¬F k)(hr:∀r∈d.busy,r.dB F):bR b d a w' where
 dv:=h.dv
 fY:=h.fY
 a7:=by rw[hk.block b h.lt (hF b (il rfl))];exact h.a7
 jH:=dR h.jH fun g hg=>by
  have hl:=h.jH.lt g hg
  cases hp:a.wa with
  |none=>rw[hp] at hg;cases hg
  |some p =>
   rw[hp] at hg;simp only[Value.ownBlock,aa4] at hg;subst hg;exact hk.block _ hl.2 (hF _ (ir (il ⟨p,hp,rfl⟩)))
 oa:=dR h.oa fun g hg=>by
  have hl:=h.oa.lt g hg
  cases hp:a.ba with
  |none=>rw[hp] at hg;cases hg
  |some p =>
   rw[hp] at hg;simp only[Value.ownBlock,aa4] at hg;subst hg;exact hk.block _ hl.2 (hF _ (ir (ir ⟨p,hp,rfl⟩)))
 jl:=h.jl
 qK:=h.qK
 qq:=h.qq
 reqs:=fun r dj=>⟨(h.reqs r dj).1.frame (hr r dj) hk,(h.reqs r dj).2⟩
 kn:=h.kn
 xv:=h.xv
 gQ:=h.gQ
 pX:=h.pX
theorem bR.later{w':World}(h:bR b d a w)(hk:bL w w'):bR b d a w' :=
 h.frame (F:=fun _=>False) (aH.cj hk) (fun _ _ e=>e) (fun _ _=>⟨fun _ _ _ e=>e,fun _ _ _ e=>e⟩)
theorem bR.alloc(h:bR b d a w)(o:Obj):bR b d a (w.alloc o):=h.later (aA w o)
theorem bR.Ch(h:bR b d a w):aW w a.ba d.busy:=by
 have hl:d.busy.length<=9223372036854775807:=by have:=h.gQ;omega
 obtain⟨a',c',hv,hR,_⟩:=rF h.oa (fun r hr=>(h.reqs r hr).1) rfl oM;simp only[abV,afs] at hv;rw[hv.1];exact hR
end
end
section
open Go.RowKit Go.BigFrame
def d0:Dl:=⟨List.replicate 32 bE,List.replicate 32 bE,[],0,[]⟩
def Ih:An:=⟨none,0,none,0⟩
theorem adQ(w:World)(b:Nat)(h:w.heap[b]?=some (.cells (d0.cells Ih).toArray 108 (0,0))):bR b d0 Ih w where
 dv:=rfl
 fY:=rfl
 a7:=h
 jH:=abg _ _ _ _
 oa:=abg _ _ _ _
 jl:=fun p hp=>by cases hp
 qK:=fun p hp=>by cases hp
 qq:=fun p q hp=>by cases hp
 reqs:=fun r hr=>by cases hr
 kn:=fun r hr=>by cases hr
 xv:=by simp[d0]
 gQ:=by simp[d0]
 pX:=by simp[d0]
theorem aag(w:World):Calls prog 30 #[] w fun e w'=>e=.returned (.pointer (some ⟨w.heap.size,0,none⟩))/\bR w.heap.size d0 Ih w'/\bL w w'/\w'.heap.size=w.heap.size+1:=by
 have hz:∀w',Sem.run prog (zeroValue 108) w'=.ok (.agg (d0.cells Ih).toArray) w':=fun _=>rfl
 go_enter func30,ntmps30;go_wp2;go_ret;refine⟨rfl,adQ _ _ ?_,aA _ _,sM⟩;rw[acm]
theorem xB{w:World}{a:Option Addr}{c:Nat}{l:List Rq}(h:aW w a l)(hn:a=none->c=0):gg w 6 a l.length c (a8 l):=by
 rcases h.1 with rfl|⟨b,o,rfl,hc⟩
 ·cases a with
  |none=>exact⟨rfl,by simp[a8],il ⟨rfl,rfl,hn rfl⟩⟩
  |some ad=>exact⟨rfl,by simp[a8],ir ⟨ad,rfl,fun j u h=>by simp[a8] at h⟩⟩
 ·refine⟨je l,tm l,ir ⟨_,rfl,fun k u hk=>?_⟩⟩;obtain⟨i,j,hi,hj,rfl,rfl⟩:=vM hk;rw[vU,<-hc i hi j hj]
  congr 2
  omega
theorem Sm(l:List Rq)(a:Option Addr)(c:Nat)(w:World)(hl:aW w a l)(hn:a=none->c=0)(mj:l.length<=100000) :
 Calls prog 93 #[.slice a l.length c] w fun e w'=>∃a' c',e=.returned (.slice a' l.length c')/\aW w' a' l/\(a'=none->c'=0)/\bL w w':=by
 obtain⟨i,hi,de,cC,cF⟩:=eS uy;have R:=xB hl hn;have q22:∀(w:World) (a:Option Addr) (n c n' c':Nat),(binOp .eql 47 (.slice a n c) (.slice none n' c')).run prog w=.ok (.bool a.isNone) w:=fun w a n c n' c'=>ags w _ _ a n c n' c' underlying47
 cases a with
 |none =>
  obtain rfl:=hn rfl;have BY:l=[]:=by
   rcases hl.form with h|⟨b,o,h⟩
   ·exact h
   ·cases h
  subst BY;go_enter func93,ntmps93;go_wp2;go_ret;exact⟨none,0,rfl,⟨il rfl,sM,sM⟩,fun _=>rfl,bQ⟩
 |some ad =>
  have HL:Hid (l.length<=100000):=mj;go_enter func93,ntmps93;go_wp2_with(at_builtin;refine aP rfl _ _ 47 rfl w.heap.size 146 i _ 6 80 underlying47 hi de cC cF rfl dM _ 0 [] rfl (agG _ _ _ (aaO _) (by unfold maxLen;omega) sM) (some ad) l.length c (a8 l) rfl (R.later bQ) (by unfold maxLen;omega) oM sM ?_;intro v1 w2 aO aw);rw[abc,abJ] at aO;obtain⟨a',c',rfl,hR,_,_,oK,_⟩:=rF aO (fun r hr=>(hl.2.1 r hr).later ((ah (aX _ _) _).trans aw)) rfl oM;go_wp2;go_ret;exact⟨a',c',rfl,hR,oK,(ah (aX _ _) _).trans aw⟩
theorem bR.aes{b:Nat}{d:Dl}{a:An}{w:World}(h:bR b d a w):a.ba=none->a.bc=0:=by
 obtain⟨x,c,hv,h1,_⟩:=iA h.oa;simp only[abV,afs] at hv;obtain⟨rfl,rfl⟩:=hv;exact h1
theorem Af(b:Nat)(d:Dl)(a:An)(w:World)(h:bR b d a w) :
 Calls prog 94 #[.pointer (some ⟨b,0,none⟩)] w fun e w'=>∃a' c',e=.returned (.slice a' d.busy.length c')/\aW w' a' d.busy/\(a'=none->c'=0)/\bL w w':=by
 have c:=h.zm;have hb:=h.gQ;go_enter func94,ntmps94;go_wp2_with fail;refine(Sm d.busy a.ba a.bc _ h.Ch h.aes oM).mono ?_;rintro e w1 ⟨a',c',rfl,hR,hn,aw⟩;go_wp2;go_ret;exact⟨a',c',rfl,hR,hn,aw⟩
theorem Dw(d:Dl)(a:An)(l:List Rq)(x:Option Addr)(c:Nat)(h1:d.now.length=32)(h2:d.bO.length=32):(d.cells a).set 66 (.slice x l.length c)=({ d with busy:=l }:Dl).cells { a with ba:=x,bc:=c }:=by
 rw[Dl.cells,adn _ _ (by simp[aS,h1,h2])]
 simp[aS,h1,h2,Dl.cells]
theorem bG{a:Option Addr}{n c:Nat}{g:Nat}:(Value.slice a n c).ownBlock=some g↔∃p,a=some p/\g=p.block:=by
 cases a with
 |none=>simp[Value.ownBlock]
 |some p=>simp[Value.ownBlock,eq_comm]
theorem cP.pI{b:Nat}{d d':Dl}{a a':An}{w w':World}(h:cP b d a d' a' w w'):cP b d a d' a' w w'.drew:=⟨h.dev.later (aX _ _).drew,h.only.drew,h.ay⟩
theorem bR.wG{b:Nat}{d:Dl}{a:An}{w w2 w3:World}(h:bR b d a w)(hb:bL w w2)(l:List Rq)(pN:l.length<=2)(hr:∀r∈l,r.At w/\r.dB (a.ay b)){v:Value}
 (bu:w3.ownsRow 0 146 6 v l.length (a8 l)) (hg:w2.grownBy w3 (Value.slice a.ba d.busy.length a.bc).ownBlock) (hv:∀g,v.ownBlock=some g->(∃p,a.ba=some p/\g=p.block)\/w2.heap.size<=g) :
 ∃x c,v=.slice x l.length c/\cP b d a { d with busy:=l } { a with ba:=x,bc:=c } w (w3.setCell ⟨b,66,none⟩ v):=by
 obtain⟨x,c,rfl,_⟩:=iA bu;have qC:=hb.size;have nb:some b ≠ (Value.slice a.ba d.busy.length a.bc).ownBlock:=fun e=>by
  obtain⟨p,hp,e'⟩:=bG.1 e.symm;exact h.qK p hp e'.symm
 have au:=h.lt;have e3:w3.heap[b]?=some (.cells (d.cells a).toArray 108 (0,0)):=by
  rw[hg.block b oM nb,hb.block b au];exact h.a7
 have xb:∀p,x=some p->p.block ≠ b:=fun p hp e=>by
  rcases hv p.block (bG.2 ⟨p,hp,rfl⟩) with⟨q,hq,e'⟩|h'
  ·exact h.qK q hq oM
  ·omega
 have yj:aH (a.ay b) w (w3.setCell ⟨b,66,none⟩ (.slice x l.length c)):=by
  refine((aH.cj hb).grown hg (fun k hk=>il ?_)).setCell _ (il (il rfl)) _;obtain⟨p,hp,e⟩:=bG.1 hk;exact ir (ir ⟨p,hp,e⟩)
 have mD:∀k,({ a with ba:=x,bc:=c }:An).ay b k->a.ay b k\/w.heap.size<=k:=by
  rintro k (rfl|⟨p,hp,rfl⟩|⟨p,hp,rfl⟩)
  ·exact il (il rfl)
  ·exact il (ir (il ⟨p,hp,rfl⟩))
  ·rcases hv p.block (bG.2 ⟨p,hp,rfl⟩) with⟨q,hq,e'⟩|h'
   ·exact il (ir (ir ⟨q,hq,e'⟩))
   ·exact ir oM
 refine⟨x,c,rfl,⟨?_,yj,mD⟩⟩;exact {
  dv:=h.dv
  fY:=h.fY
  a7:=by rw[bJ e3,Dw d a l x c h.dv h.fY]
  jH:=dR h.jH fun g sJ=>by
   obtain⟨p,hp,rfl⟩:=bG.1 sJ;have bV:=h.CB p hp;rw[mN _ _ (h.jl p hp),hg.block _ oM (fun e=>?_),hb.block _ bV];obtain⟨q,hq,e'⟩:=bG.1 e.symm;exact h.qq p q hp hq e'
  oa:=dR bu fun g sJ=>by
   obtain⟨p,hp,rfl⟩:=bG.1 sJ;exact mN _ _ (xb p hp)
  jl:=h.jl
  qK:=xb
  qq:=fun p q hp hq e=>by
   rcases hv q.block (bG.2 ⟨q,hq,rfl⟩) with⟨q',cI,e'⟩|h'
   ·exact h.qq p q' hp cI oM
   ·have:=h.CB p hp;omega
  reqs:=fun r dj=>⟨(hr r dj).1.frame (hr r dj).2 yj,(hr r dj).2.step (hr r dj).1 mD⟩
  kn:=h.kn
  xv:=h.xv
  gQ:=pN
  pX:=h.pX }
theorem ug{w:World}{n:Nat}(hn:w.heap.size=n)(vs:List Value)(T:TypeId)(j:Nat)(u:Value)(h:vs[j]?=some u):(w.alloc (.cells vs.toArray T)).cell? (Addr.add ⟨n,0,none⟩ j)=some u:=by
 subst hn;rw[Addr.add_mid,abc];exact(aR (acm w (.cells vs.toArray T)) j).trans h
theorem bR.TY{b:Nat}{d:Dl}{a:An}{w w2 w3:World}(h:bR b d a w)(hb:bL w w2)(hg:w2.grownBy w3 (Value.slice a.ba d.busy.length a.bc).ownBlock):w3.cell? ⟨b,66,none⟩=some (.slice a.ba d.busy.length a.bc)/\w3.frozen? ⟨b,66,none⟩=false/\b<w3.heap.size:=by
 have qC:=hb.size;have Bb:=hg.size;have nb:some b ≠ (Value.slice a.ba d.busy.length a.bc).ownBlock:=fun e=>by
  obtain⟨p,hp,e'⟩:=bG.1 e.symm;exact h.qK p hp e'.symm
 have au:=h.lt;have e3:w3.heap[b]?=some (.cells (d.cells a).toArray 108 (0,0)):=by
  rw[hg.block b oM nb,hb.block b au];exact h.a7
 exact⟨by rw[aR e3];exact Dl.Sd h.dv h.fY,cG e3 66,aK e3⟩
theorem Nt(l:List Rq)(r:Rq):a8 (l++[r])=a8 l++[.bool r.wr,i6 r.f,i6 r.m,.slice r.da r.data.length r.dc,.slice r.ta r.tags.length r.tc,i6 r.born]:=by rw[fI];rfl
theorem My(b:Nat)(d:Dl)(a:An)(r:Rq)(w:World)(h:bR b d a w)(h2:d.busy.length<2)(hr:r.At w)(ho:r.dB (a.ay b)) :
 Calls prog 132 #[.pointer (some ⟨b,0,none⟩),r.val] w fun e w'=>∃a',e=.returned .nilIface/\cP b d a { d with busy:=d.busy++[r] } a' w w':=by
 obtain⟨i,hi,de,cC,cF⟩:=eS uy;have HI:=ae (⟨hi,de,cC,cF⟩:prog.info? 146=some i/\_/\_/\_);have c:=h.zm;have hl:=h.lt;have h3:¬(2:Int)<=(d.busy.length:Int):=oM;have HD:=ae h;have HR:=ae (⟨hr,ho⟩:r.At w/\r.dB (a.ay b));clear h hr ho hi de cC cF;go_enter func132,ntmps132;go_wp2_with fail
 go_region_law (refine yD rfl (.tmp 16) (.tmp 18) 47 rfl 0 146 i _ 6 80 underlying47 HI.out.1 HI.out.2.1 HI.out.2.2.1 HI.out.2.2.2 rfl dM (.slice a.ba d.busy.length a.bc) d.busy.length (a8 d.busy) (by simp[Act.eval]) (HD.out.later bQ).oa ⟨w.heap.size+1,0,none⟩ 1 1 [.bool r.wr,i6 r.f,i6 r.m,.slice r.da r.data.length r.dc,.slice r.ta r.tags.length r.tc,i6 r.born] (by simp[Act.eval]) rfl (fun j u hj=>ug sM _ _ j u hj) (by simp[Value.oneCell']) oM (by unfold maxLen;omega) oM (ach _) ?_;intro v' w3 bu hg hv;obtain⟨x,cx,rfl,-⟩:=iA bu;obtain⟨c3,f3,l3⟩:=HD.out.TY bQ hg;have HG:=ae (⟨bu,hg,hv⟩:_/\_/\_);clear bu hg hv)
 all_goals
  obtain⟨bu,hg,hv⟩:=HG.out;obtain⟨x',c',e',cZ⟩:=HD.out.wG (w2:=_) bQ (d.busy++[r]) (by simp;omega) (fun q hq=>by
   rcases abh.1 hq with hq|hq
   ·exact HD.out.reqs q hq
   ·obtain rfl:=abq.1 hq;exact HR.out) (by rw[Nt,aaQ];exact bu) hg (fun g sJ=>by
   rcases hv with hv|hv
   ·rw[hv] at sJ;exact il (bG.1 sJ)
   ·rw[hv] at sJ;exact ir (by simpa using afM (abY sJ)))
  have aL:=ae cZ;clear bu hg hv cZ e';go_wp2;go_ret;exact⟨_,rfl,aL.out⟩
theorem Fh{a b c:World}{g:Nat}(h:a.grownBy b (some g))(k:b.grownBy c (some g)):a.grownBy c (some g) :=
 ⟨k.os.trans h.os,k.tape.trans h.tape,k.output.trans h.output,abb h.size k.size,fun i hi hn=>(k.block i (abF hi h.size) hn).trans (h.block i hi hn)⟩
theorem Iy{a b:World}{row:Option Nat}(h:a.drew.grownBy b row):a.grownBy b row:=⟨h.os,h.tape,h.output,h.size,h.block⟩
theorem Zq(w:World):(zeroValue 146).run prog w=.ok (.agg #[.bool false,i6 0,i6 0,.slice none 0 0,.slice none 0 0,i6 0]) w:=Tryz.zeroValue146 w
theorem Zj:(prog.info? 146).map (·.size)=some 6:=kR
theorem N6(b n c i:Nat)(w:World)(au:i<n)(qW:¬c=i+1):(Instr.slice 47 (.slice (some ⟨b,0,none⟩) n c) (some (i6 ((i:Int)+1))) none none).run prog w=.ok (.slice (some ⟨b,(i+1)*6,none⟩) (n-(i+1)) (c-(i+1))) w:=by
 have h1:(0:Int)<=(i:Int)+1:=oM;have h2:(i:Int)+1<=(n:Int):=oM
 simp[go_sem,h1,h2,qW]
theorem U7(b n c i:Nat)(w:World)(au:i<n)(bS:n<=c):(Instr.slice 47 (.slice (some ⟨b,0,none⟩) n c) none (some (i6 (i:Int))) none).run prog w=.ok (.slice (some ⟨b,0,none⟩) i c) w:=by
 have h2:i<=c:=oM
 simp[go_sem,h2]
theorem Rl(b n i:Nat)(w:World)(au:n=i+1):(Instr.slice 47 (.slice (some ⟨b,0,none⟩) n (i+1)) (some (i6 ((i:Int)+1))) none none).run prog w=.ok (.slice (some ⟨b,0,none⟩) 0 0) w:=by
 subst au;have h1:(0:Int)<=(i:Int)+1:=oM
 simp[go_sem,h1]
theorem Gr(b n c i:Nat)(w:World)(au:i<n)(bS:n<=c)(hm:c<=9223372036854775807):(Instr.slice 47 (.slice (some ⟨b,0,none⟩) (n-1) c) (some (i6 ((n-1:Nat):Int))) (some (i6 (n:Int))) none).run prog w=.ok (.slice (some ⟨b,(n-1)*6,none⟩) 1 (c-(n-1))) w:=by
 have h1:((n-1:Nat):Int)<=(n:Int):=oM;have h2:¬c=n-1:=oM;have h3:n-(n-1)=1:=oM
 simp[go_sem,h1,h2,h3,bS]
def zs6:List Value:=(Builtin.zeroCells (Value.agg #[.bool false,i6 0,i6 0,.slice none 0 0,.slice none 0 0,i6 0]).cells 1).toList
theorem RC:zs6.length=6:=by simp[zs6,Builtin.zeroCells,Value.cells]
theorem VW{w:World}{b:Nat}{cur:List Value}{t:TypeId}(hg:w.heap[b]?=some (.cells cur.toArray t (0,0)))(o j:Nat)(v:Value)(h:cur[o+j]?=some v):w.cell? (Addr.add ⟨b,o,none⟩ j)=some v:=by
 rw[Addr.add_mid]
 simp[World.cell?,hg,h]
theorem Sz(b n c k:Nat)(cur xs:List Value)(w:World)(hg:w.heap[b]?=some (.cells cur.toArray 146 (0,0)))(fR:cur.length=c*6)(hk:k<n)(jO:n<=c)(ig:c<=9223372036854775807)
 (lF:xs.length=(n-(k+1))*6) (hx:∀j v,xs[j]?=some v->cur[(k+1)*6+j]?=some v) (h1:∀v∈xs,v.oneCell'=true) :
 Calls prog 179 #[.slice (some ⟨b,0,none⟩) n c,i6 k,i6 ((k:Int)+1)] w fun e w' =>
  e=.returned (.slice (some ⟨b,0,none⟩) (n-1) c)/\w'.heap[b]?=some (.cells (splice (splice cur (k*6) xs) ((n-1)*6) zs6).toArray 146 (0,0))/\w.grownBy w' (some b):=by
 have q1:(k:Int)+1<=(n:Int):=oM;have q2:(0:Int)<=(k:Int)+1:=oM;have q3:¬((k:Int)=(k:Int)+1):=oM;have q4:(k:Int)<=(k:Int)+1:=oM;have HC:=ae fR;have HX:=ae hx;have HL:=ae lF;have HG:=ae hg;have H1:=ae h1;clear fR hx lF hg h1;have Ek:=fun w=>U7 b n c k w hk jO
 have Aw:=fun w=>Gr b n c k w hk jO ig
 have hcut:(splice cur (k*6) xs).length=c*6:=by rw[ago _ _ _ (by rw[HC.out,HL.out];omega),HC.out]
 have HS:=ae hcut;clear hcut;have BZ:k+(n-(k+1))=n-1:=oM;have wh:=ae BZ;clear BZ
 by_cases qW:c=k+1
 ·have hnk:n=k+1:=oM;subst qW;subst hnk;clear Aw;have Aw:=fun w=>Gr b (k+1) (k+1) k w hk jO ig
  simp only[afB] at Aw HS;rw[show k+1-k=1 from oM] at Aw;have Av:=fun w=>Rl b (k+1) k w rfl
  obtain rfl:xs=[]:=aaZ (by rw[HL.out];omega);go_enter func179,ntmps179;go_wp2_with fail
  go_region_law (refine zN rfl (.tmp 22) (.tmp 25) 47 rfl 146 6 underlying47 Zj b k (k+1) (some ⟨b,0,none⟩) 0 0 (by simp[Act.eval,Act.put]) (by simp[Act.eval,Act.put]) cur 146 [] HG.out rfl oM (fun h=>absurd h (aa0 _)) (by rw[HC.out];simp;omega) sM ?_;intro w1 G1 aw)
  obtain⟨w2,fR,G2,aC⟩:=tu (P:=prog) w1 47 146 0 _ 6 underlying47 Zq rfl dM b (k*6) 1 1 _ 146 G1.out oM (by have:=HS.out;omega) oM;have qO:=ae G2;have bT:=ae aC;clear G2 aC;go_wp2;go_ret;exact⟨rfl,qO.out,Fh (Iy aw) bT.out⟩
 ·have Av:=fun w=>N6 b n c k w hk qW
  go_enter func179,ntmps179;go_wp2_with fail
  go_region_law (refine zN rfl (.tmp 22) (.tmp 25) 47 rfl 146 6 underlying47 Zj b k c (some ⟨b,(k+1)*6,none⟩) (n-(k+1)) (c-(k+1)) (by simp[Act.eval,Act.put]) (by simp[Act.eval,Act.put]) cur 146 xs HG.out HL.out oM (fun _=>⟨_,rfl,fun j v hj=>VW HG.out _ _ _ (HX.out j v hj)⟩) (by rw[HC.out,HL.out];omega) H1.out ?_;intro w1 G1 aw;rw[wh.out])
  obtain⟨w2,fR,G2,aC⟩:=tu (P:=prog) w1 47 146 0 _ 6 underlying47 Zq rfl dM b ((n-1)*6) 1 (c-(n-1)) _ 146 G1.out oM (by rw[HS.out];omega) oM;have qO:=ae G2;have bT:=ae aC;clear G2 aC;go_wp2;go_ret;exact⟨rfl,qO.out,Fh (Iy aw) bT.out⟩
theorem Oc{α:Type}(L cs:List α)(o:Nat)(h:o<=L.length):(splice L o cs).take (o+cs.length)=L.take o++cs:=by
 have e:(L.take o).length=o:=by rw[abm];omega
 rw[splice,<-abp,abT (by rw[aaQ,e];exact aaO _),abv (by rw[aaQ,e];exact aaO _)]
theorem uo{α:Type}(L cs:List α)(o m:Nat)(h:o<=L.length)(hm:m<=o):(splice L o cs).take m=L.take m:=by
 have e:(L.take o).length=o:=by rw[abm];omega
 rw[splice,abT (by rw[e];exact hm),afJ,ac1 hm]
theorem Nu(l:List Rq)(k:Nat):(a8 l).take (k*6)=a8 (l.take k):=by
 by_cases hk:k<=l.length
 ·have e:=fI (l.take k) (l.drop k);rw[ab8] at e;have hl:(a8 (l.take k)).length=k*6:=by rw[je,abm,ac1 hk]
  rw[e,abT oM,abv oM]
 ·rw[abv (by rw[je];omega),abv oM]
theorem Nr(l:List Rq)(k j:Nat):(a8 (l.drop k))[j]?=(a8 l)[k*6+j]?:=by
 by_cases hk:k<=l.length
 ·have e:=fI (l.take k) (l.drop k);rw[ab8] at e;have hl:(a8 (l.take k)).length=k*6:=by rw[je,abm,ac1 hk]
  rw[e,abZ oM,hl]
  congr 1;omega
 ·rw[acA oM,acC (by simp[a8]),acC (by rw[je];omega)]
theorem Wa(l:List Rq)(b c k:Nat)(w:World)(hk:k<l.length)(hN:w.ownsRow 0 146 6 (.slice (some ⟨b,0,none⟩) l.length c) l.length (a8 l)) :
 Calls prog 179 #[.slice (some ⟨b,0,none⟩) l.length c,i6 k,i6 ((k:Int)+1)] w fun e w' =>
  e=.returned (.slice (some ⟨b,0,none⟩) (l.eraseIdx k).length c)/\w'.ownsRow 0 146 6 (.slice (some ⟨b,0,none⟩) (l.eraseIdx k).length c) (l.eraseIdx k).length (a8 (l.eraseIdx k))/\w.grownBy w' (some b):=by
 rcases hN.2 with⟨h,_⟩|⟨g,cap,cur,hv,hg,hh,jO,ig,hcs,ht⟩
 ·cases h
 ·simp only[abV,aa4,aci,acS,afs] at hv;obtain⟨rfl,rfl⟩:=hv;have Ar:c<=9223372036854775807:=by unfold maxLen at ig;omega
  have fR:cur.toList.length=c*6:=by rw[ab6];exact hcs
  have lF:(a8 (l.drop (k+1))).length=(l.length-(k+1))*6:=by rw[je,ac5]
  have Ba:(l.eraseIdx k).length=l.length-1:=by rw[ab7,aaV hk]
  refine(Sz b l.length c k cur.toList (a8 (l.drop (k+1))) w (by rw[afk];exact hh) fR hk jO Ar lF (fun j v hj=>?_) (tm _)).mono ?_
  ·rw[Nr,<-ht,agc] at hj
   split at hj
   ·exact hj
   ·cases hj
  ·rintro e w' ⟨rfl,gX,hB⟩;refine⟨by rw[Ba],?_,hB⟩;have tQ:(splice cur.toList (k*6) (a8 (l.drop (k+1)))).length=c*6:=by rw[ago _ _ _ (by rw[fR,lF];omega),fR]
   refine⟨je _,ir ⟨b,c,_,rfl,ach _,gX,oM,ig,?_,?_⟩⟩
   ·rw[acB,ago _ _ _ (by rw[tQ,RC];omega),tQ]
   ·rw[afO,Ba,uo _ _ _ _ (by rw[tQ];omega) (aaO _),show(l.length-1)*6=k*6+(a8 (l.drop (k+1))).length by rw[lF];omega,Oc _ _ _ oM,ack,fI,<-Nu,<-ht,afJ,ac1 oM]
def kh(pl nx:Nat)(x:Wn):Bool:=x.pl==pl&&x.bit==nx
structure rv(pb pd b pl nx:Nat)(w:World):Prop where
 c1:w.cell? ⟨pb,0,none⟩=some (i6 pl)
 c2:w.cell? ⟨pd,0,none⟩=some (.pointer (some ⟨b,0,none⟩))
 c3:w.cell? ⟨b,65,none⟩=some (i6 nx)
theorem rv.later{pb pd b pl nx:Nat}{w w':World}(h:rv pb pd b pl nx w)(hb:bL w w'):rv pb pd b pl nx w':=⟨aF hb h.c1,aF hb h.c2,aF hb h.c3⟩
theorem rv.frame{F:Nat->Prop}{pb pd b pl nx:Nat}{w w':World}(h:rv pb pd b pl nx w)(hk:aH F w w')(h1:¬F pb)(h2:¬F pd)(h3:¬F b):rv pb pd b pl nx w' :=
 ⟨by rw[hk.cell (p:=⟨pb,0,none⟩) (aq h.c1) h1];exact h.c1,by rw[hk.cell (p:=⟨pd,0,none⟩) (aq h.c2) h2];exact h.c2,by rw[hk.cell (p:=⟨b,65,none⟩) (aq h.c3) h3];exact h.c3⟩
theorem R7{B:Nat}{a w:World}(h:Below B a w)(n:Nat):Below B a (w.drewN n):=⟨h.os,h.tape,h.output,h.size,h.block⟩
theorem Fv(x:Wn)(pb pd b pl nx:Nat)(w:World)(h:rv pb pd b pl nx w) :
 Calls prog 231 #[x.val,.pointer (some ⟨pb,0,none⟩),.pointer (some ⟨pd,0,none⟩)] w (rB (.bool (kh pl nx x)) w):=by
 have c1:=dU h.c1;have c2:=dU h.c2;have c3:=dU h.c3;have l1:=aq h.c1;have l2:=aq h.c2;have l3:=aq h.c3;have d1:=h.c1;have d2:=h.c2;have d3:=h.c3;clear h;unfold kh
 by_cases hp:x.pl=pl
 ·have e1:((x.pl:Int)==(pl:Int))=true:=by rw[ac3];omega
  have e2:((x.bit:Int)==(nx:Int))=(x.bit==nx):=by
   rw[ac0,ac3,ac3];omega
  have e3:(x.pl==pl)=true:=by rw[ac3];exact hp
  rw[e3,adA];have HP:=ae hp;clear hp e3;go_enter func231,ntmps231;go_wp2_with fail
  go_quiet (fail)
  go_wp2;go_ret;exact⟨rfl,R7 (aA _ _) _⟩
 ·have e1:((x.pl:Int)==(pl:Int))=false:=by rw[aaU];omega
  have e3:(x.pl==pl)=false:=by rw[aaU];exact hp
  rw[e3,agi];have HP:=ae hp;clear hp e3;go_enter func231,ntmps231;go_wp2_with fail
  go_quiet (fail)
  go_wp2;go_ret;exact⟨rfl,R7 (aA _ _) _⟩
def JQ(w:World)(a:Option Addr)(l:List Wn):Prop:=l=[]\/∃g,a=some ⟨g,0,none⟩/\∀i (h:i<l.length),w.cell? ⟨g,i*3,none⟩=some (i6 l[i].pl)/\w.cell? ⟨g,i*3+1,none⟩=some (.string l[i].data)/\w.cell? ⟨g,i*3+2,none⟩=some (i6 l[i].bit)
theorem vT{w:World}{a:Option Addr}{c:Nat}{l:List Wn}(h:w.ownsRow 0 213 3 (.slice a l.length c) l.length (eK l)):JQ w a l:=by
 rcases h.2 with⟨h1,h2⟩|⟨g,cap,cur,hv,hg,hh,jO,ig,hcs,ht⟩
 ·exact il (aaZ h2)
 ·simp only[abV,afs] at hv;obtain⟨rfl,rfl⟩:=hv;refine ir ⟨g,rfl,fun i hi=>?_⟩;obtain⟨k0,k1,k2⟩:=CA l i hi;exact⟨(h.cellAt (i*3) oM).trans k0,(h.cellAt (i*3+1) oM).trans k1,(h.cellAt (i*3+2) oM).trans k2⟩
def xj(p:Wn->Bool)(l:List Wn):Int:=match l.findIdx? p with|some k=>(k:Int)|none=>-1
theorem Qd{p:Wn->Bool}{l:List Wn}{k:Nat}(h:k<l.length)(hp:p l[k]=true)(hb:∀j (hj:j<k),p (l[j]'oM)=false):xj p l=k:=by
 have:l.findIdx? p=some k:=by
  rw[abX];exact⟨h,hp,fun j hj=>by rw[hb j hj];exact aa7⟩
 rw[xj,this]
theorem TK{p:Wn->Bool}{l:List Wn}(h:∀j (hj:j<l.length),p l[j]=false):xj p l=-1:=by
 have:l.findIdx? p=none:=by
  rw[acy];intro x hx;obtain⟨j,hj,rfl⟩:=abM hx;exact h j hj
 rw[xj,this]
theorem TL(p:Wn->Bool)(l:List Wn):(xj p l=-1/\∀j (hj:j<l.length),p l[j]=false)\/∃(k:Nat) (h:k<l.length),xj p l=k/\p l[k]=true/\∀j (hj:j<k),p (l[j]'oM)=false:=by
 cases e:l.findIdx? p with
 |none =>
  left
  refine⟨by rw[xj,e],fun j hj=>?_⟩;rw[acy] at e;exact e _ (aa5 hj)
 |some k =>
  right
  have e':=e;rw[abX] at e;obtain⟨h1,h2,h3⟩:=e;refine⟨k,h1,by rw[xj,e'],h2,fun j hj=>?_⟩;have:=h3 j hj
  simpa using this
theorem FI(pb pd b pl nx:Nat)(l:List Wn)(a:Option Addr)(c:Nat)(w:World)(hl:JQ w a l)(hlen:l.length<=100000)(hh:rv pb pd b pl nx w) :
 Calls prog 239 #[.slice a l.length c,.func (.func 231) #[] #[.pointer (some ⟨pb,0,none⟩),.pointer (some ⟨pd,0,none⟩)]] w (rB (i6 (xj (kh pl nx) l)) w):=by
 rcases hl with rfl|⟨g,rfl,hcs⟩
 ·clear hh;go_enter func239,ntmps239;go_wp2
  go_loop [8] (fun i=>i=i6 0) (fun _=>0)
  case atStart=>rfl
  case round =>
   subst hrel;go_wp2;go_ret;exact⟨rfl,bQ⟩
 have HC:=ae hcs;have HH:=ae hh;clear hcs hh;go_enter func239,ntmps239;go_wp2
 go_loopw[8] (fun i wr=>∃k:Nat,k<=l.length/\i=i6 k/\(∀j (hj:j<l.length),j<k->kh pl nx l[j]=false)/\bL w wr) (fun i _=>l.length-(intOf i).toNat)
 case atStart=>exact⟨0,oM,rfl,fun j hj h=>absurd h (aa0 _),aX _ _⟩
 case round =>
  obtain⟨k,hk,rfl,dV,HB⟩:=hrel;have HN:=ae dV;clear dV
  by_cases au:k<l.length
  ·obtain⟨c0,c1,c2⟩:=HC.out k au
   replace c0:=aF HB c0
   replace c1:=aF HB c1
   replace c2:=aF HB c2
   have hq:=Fv l[k] pb pd b pl nx wr (HH.out.later HB)
   cases kb:kh pl nx l[k]
   ·rw[kb] at hq;have HQ:=ae hq;clear hq;go_wp2_with fail;refine afT HQ.out ?_;rintro e w1 ⟨rfl,hb⟩;go_wp2;go_roundw
    case rel=>exact⟨k+1,oM,gN,fun j hj h=>by by_cases e:j=k;(subst e;exact kb);exact HN.out j hj oM,af HB hb⟩
    case measure=>simp[intOf];omega
   ·rw[kb] at hq;have HQ:=ae hq;clear hq;go_wp2_with fail;refine afT HQ.out ?_;rintro e w1 ⟨rfl,hb⟩;go_wp2;go_ret;exact⟨jI (Qd au kb (fun j hj=>HN.out j oM hj)).symm,af HB hb⟩
  ·go_wp2;go_ret;exact⟨jI (TK (fun j hj=>HN.out j hj oM)).symm,HB⟩
theorem WC{l:List Wn}(hn:(l.map Wn.key).Nodup){pl nx i j:Nat}(hi:i<l.length)(hj:j<l.length)(h1:kh pl nx l[i]=true)(h2:kh pl nx l[j]=true):i=j:=by
 simp only[kh,abW,ac3] at h1 h2;have e:(l.map Wn.key)[i]'(by simpa using hi)=(l.map Wn.key)[j]'(by simpa using hj):=by
  simp only[afp,Wn.key];omega
 exact(List.getElem_inj hn).1 e
def eR(pl nx:Nat)(l:List Wn):List Wn:=l.filter fun x=>!kh pl nx x
theorem WU{l:List Wn}{pl nx:Nat}(h:∀j (hj:j<l.length),kh pl nx l[j]=false):eR pl nx l=l:=by
 unfold eR;rw[afN];intro x hx;obtain⟨j,hj,rfl⟩:=abM hx
 simp[h j hj]
theorem Qn{l:List Wn}{pl nx k:Nat}(hk:k<l.length)(h1:kh pl nx l[k]=true)(h2:∀j (hj:j<l.length),j ≠ k->kh pl nx l[j]=false):eR pl nx l=l.eraseIdx k:=by
 have e:l=l.take k++l[k]::l.drop (k+1):=by rw[afW,ab8]
 unfold eR;rw[ack]
 conv=>lhs;rw[e]
 rw[afy,List.filter_cons,aaP (by simp[h1])]
 congr 1
 ·rw[afN];intro x hx;obtain⟨j,hj,rfl⟩:=abM hx;simp only[abm] at hj;rw[agK]
  simp[h2 j oM oM]
 ·rw[afN];intro x hx;obtain⟨j,hj,rfl⟩:=abM hx;simp only[ac5] at hj;rw[agJ]
  simp[h2 (k+1+j) oM oM]
def mV(l:List Wn)(k j:Nat):List Wn:=(l.eraseIdx k).take (j-1)++l.drop (j-1)
theorem Qw(l:List Wn)(k:Nat)(hk:k<l.length):mV l k (k+1)=l:=by
 rw[mV,afB,ack,abT (by rw[abm];omega),afJ,Nat.min_self,ab8]
theorem Nl(l:List Wn)(k j:Nat)(hk:k<l.length)(h1:k+1<=j)(h2:j<=l.length):(mV l k j).length=l.length:=by
 rw[mV,aaQ,abm,ac5,ab7,aaV hk];omega
theorem aab(l:List Wn)(k j:Nat)(hk:k<l.length)(h1:k+1<=j)(h2:j<l.length):(mV l k j)[j]?=some l[j]:=by
 have e:((l.eraseIdx k).take (j-1)).length=j-1:=by rw[abm,ab7,aaV hk];omega
 rw[mV,abZ oM,e,agE,show j-1+(j-(j-1))=j from oM,aaX h2]
theorem T7(l:List Wn)(k j:Nat)(hk:k<l.length)(h1:k+1<=j)(h2:j<l.length):(mV l k j).set (j-1) l[j]=mV l k (j+1):=by
 have e:((l.eraseIdx k).take (j-1)).length=j-1:=by rw[abm,ab7,aaV hk];omega
 have e2:(l.eraseIdx k).length=l.length-1:=by rw[ab7,aaV hk]
 have e3:(l.eraseIdx k).take j=(l.eraseIdx k).take (j-1)++[l[j]]:=by
  have h:=abz (l:=l.eraseIdx k) (i:=j-1) oM;rw[show j-1+1=j from oM] at h;rw[h,List.getElem_eraseIdx_of_ge oM oM];simp only[show j-1+1=j from oM]
 have e4:l.drop (j-1)=l[j-1]::l.drop j:=by
  have h:=afq (l:=l) (i:=j-1) oM
  rwa [show j-1+1=j from oM] at h
 rw[mV,mV,afB,adn _ _ oM,e,afC,e4,List.set_cons_zero,e3]
 simp
theorem T6(l:List Wn)(k:Nat)(hk:k<l.length):(mV l k l.length).take (l.length-1)=l.eraseIdx k:=by
 have e2:(l.eraseIdx k).length=l.length-1:=by rw[ab7,aaV hk]
 rw[mV,abT (by rw[abm];omega),afJ,Nat.min_self,abv oM]
theorem Rz(l:List Wn)(x:Wn):∀(i:Nat) (_:i<l.length) (tl:List Value),(((eK l++tl).set (i*3) (i6 x.pl)).set (i*3+1) (.string x.data)).set (i*3+2) (i6 x.bit)=eK (l.set i x)++tl:=by
 induction l with
 |nil=>intro i h;exact absurd h (aa0 _)
 |cons y l ih =>
  intro i h tl
  cases i with
  |zero=>rfl
  |succ i =>
   have:=ih i (by simpa using h) tl;rw[uC,List.set_cons_succ,uC,show(i+1)*3=i*3+3 from oM];simp only[List.cons_append,List.set_cons_succ];rw[this]
theorem aef(w:World):(zeroValue 213).run prog w=.ok (.agg #[i6 0,.string bE,i6 0]) w:=Tryz.zeroValue213 w
theorem N7(g n c m:Nat)(w:World)(h1:m<n)(h2:n<=c):(Instr.slice 106 (.slice (some ⟨g,0,none⟩) n c) (some (i6 (m:Int))) none none).run prog w=.ok (.slice (some ⟨g,m*3,none⟩) (n-m) (c-m)) w:=by
 have k1:(m:Int)<=(n:Int):=oM;have k2:¬c=m:=oM;have k3:m<=n:=oM
 simp[go_sem,k2,k3]
theorem U8(g n c m:Nat)(w:World)(h1:m<n)(h2:n<=c):(Instr.slice 106 (.slice (some ⟨g,0,none⟩) n c) none (some (i6 (m:Int))) none).run prog w=.ok (.slice (some ⟨g,0,none⟩) m c) w:=by
 have k2:m<=c:=oM
 simp[go_sem,k2]
def gB(a:Option Addr)(k:Nat):Prop:=∃p,a=some p/\k=p.block
theorem Wb(pb pd b pl nx:Nat)(l:List Wn)(g c k:Nat)(tl:List Value)(w:World)(hg:w.heap[g]?=some (.cells (eK l++tl).toArray 213 (0,0)))(B3:tl.length=(c-l.length)*3)(jO:l.length<=c)(_hcm:c<=9223372036854775807)(hlen:l.length<=100000)(hh:rv pb pd b pl nx w)(n1:pb ≠ g)(n2:pd ≠ g)(n3:b ≠ g)
 (hk:k<l.length) (_hk1:kh pl nx l[k]=true) (vw:∀j (hj:j<l.length),j ≠ k->kh pl nx l[j]=false) (hi:xj (kh pl nx) l=k) (hw:JQ w (some ⟨g,0,none⟩) l) :
 Calls prog 232 #[.slice (some ⟨g,0,none⟩) l.length c,.func (.func 231) #[] #[.pointer (some ⟨pb,0,none⟩),.pointer (some ⟨pd,0,none⟩)]] w fun e w' =>
  e=.returned (.slice (some ⟨g,0,none⟩) (l.length-1) c)/\(∃cur:List Value,w'.heap[g]?=some (.cells cur.toArray 213 (0,0))/\cur.length=c*3/\cur.take ((l.length-1)*3)=eK (l.eraseIdx k))/\aH (fun i=>i=g) w w':=by
 have HI:=ae hi;have HG:=ae hg;have HH:=ae hh;have HW:=ae hw;have HT:=ae B3;have Kc:=ae vw;clear hi hg hh hw B3 vw;go_enter func232,ntmps232;go_wp2_with fail;refine(FI pb pd b pl nx l _ c _ HW.out hlen HH.out).mono ?_;rw[HI.out];rintro e w1 ⟨rfl,aw⟩;have aE:((k:Int) == -1)=false:=by rw[aaU];omega
 go_wp2_with fail;have jL:Hid (aH (fun i=>i=g) w w1):=aH.cj aw;have EM:Hid (w1.heap[g]?=some (.cells (eK l++tl).toArray 213 (0,0))):=by show _=_;rw[aw.block g (aK HG.out)];exact HG.out
 clear aw
 go_loopw[5,6] (fun i jv wr=>∃m:Nat,k<=m/\m+1<=l.length/\jv=i6 ((m:Int)+1)/\i=i6 m/\wr.heap[g]?=some (.cells (eK (mV l k (m+1))++tl).toArray 213 (0,0))/\aH (fun i=>i=g) w wr) (fun i _ _=>l.length-(intOf i).toNat)
 case atStart=>exact⟨k,aaO _,hk,rfl,rfl,by rw[Qw l k hk];exact EM.out,jL.out⟩
 case round =>
  clear EM jL;obtain⟨m,mH,YW,rfl,rfl,Le,HO⟩:=hrel;have pc:=ae Le;have jW:=ae HO;have lg:=aK Le;have hml:=Nl l k (m+1) hk oM YW;have ER:=ae hml;clear Le HO hml
  by_cases au:m+1<l.length
  ·have hma:=aab l k (m+1) hk oM au;have hms:=ae (T7 l k (m+1) hk oM au);obtain⟨k0,k1,k2⟩:=CA (mV l k (m+1)) (m+1) (by rw[ER.out];exact au);have hmx:(mV l k (m+1))[m+1]'(by rw[ER.out];exact au)=l[m+1]:=by
    have:=aaX (l:=mV l k (m+1)) (i:=m+1) (by rw[ER.out];exact au);rw[this] at hma;exact abY hma
   rw[hmx] at k0 k1 k2;have Lr:(eK (mV l k (m+1))).length=l.length*3:=by rw[my,ER.out]
   have c0:=(aR pc.out ((m+1)*3)).trans ((abU oM).trans k0);have c1:=(aR pc.out ((m+1)*3+1)).trans ((abU oM).trans k1);have c2:=(aR pc.out ((m+1)*3+2)).trans ((abU oM).trans k2);have hnh:=Kc.out (m+1) au oM;have hhr:=ae (HH.out.frame jW.out n1 n2 n3);have t1:(m:Int)+1<(l.length:Int):=oM;have t2:((m:Int)+1).toNat=m+1:=oM;have HWL:=ae Lr;clear hma hmx k0 k1 k2 Lr;generalize hx:l[m+1]=x at *;have HX:=ae hx;clear hx;have T2:=ae t2;clear t2;go_wp2_with fail;have hq:=Fv x pb pd b pl nx _ (hhr.out.later (aA wr (.cells #[i6 x.pl,.string x.data,i6 x.bit] 213)));rw[hnh] at hq;refine hq.mono ?_;rintro e w2 ⟨rfl,aC⟩;have Fo:=ae (af (aA wr (.cells #[i6 x.pl,.string x.data,i6 x.bit] 213)) aC);have uO:w2.heap[g]?=some (.cells (eK (mV l k (m+1))++tl).toArray 213 (0,0)):=by rw[Fo.out.block g lg];exact pc.out
   have d0:=(aC.cell (p:=⟨wr.heap.size,0,none⟩) sM).trans (show _=some (i6 x.pl) from sM);have d1:=(aC.cell (p:=⟨wr.heap.size,1,none⟩) sM).trans (show _=some (.string x.data) from sM);have d2:=(aC.cell (p:=⟨wr.heap.size,2,none⟩) sM).trans (show _=some (i6 x.bit) from sM);have f0:=cG uO (m*3);have f1:=cG uO (m*3+1);have f2:=cG uO (m*3+2);obtain⟨k0,k1,k2⟩:=CA (mV l k (m+1)) m (by rw[ER.out];omega);have e0:=(aR uO (m*3)).trans ((abU (by rw[HWL.out];omega)).trans k0);have e1:=(aR uO (m*3+1)).trans ((abU (by rw[HWL.out];omega)).trans k1);have e2:=(aR uO (m*3+2)).trans ((abU (by rw[HWL.out];omega)).trans k2);generalize hy:(mV l k (m+1))[m]'(by rw[ER.out];omega)=y at *;have qO:=ae uO;have hm0:(m:Int)<(l.length:Int):=oM;clear hy k0 k1 k2 uO hq aC hhr hnh c0 c1 c2;go_wp2;go_roundw
   case rel =>
    refine⟨m+1,oM,oM,gN,gN,?_,?_⟩
    ·rw[bJ (bJ (bJ qO.out _ _) _ _) _ _,Rz _ x m (by rw[ER.out];omega) tl];have:=hms.out;rw[afB] at this;rw[this]
    ·exact(((jW.out.later Fo.out).setCell _ (il rfl) _).setCell _ (il rfl) _).setCell _ (il rfl) _
   case measure=>simp[intOf];omega
  ·have Fx:l.length=m+1:=oM;have t1:¬(m:Int)+1<(l.length:Int):=oM;have fR:=(by rw[aaQ,my,ER.out,HT.out];omega:(eK (mV l k (m+1))++tl).length=c*3)
   obtain⟨w2,hcr,G2,aC⟩:=tu (P:=prog) wr 106 213 0 _ 3 underlying106 aef rfl dM g (m*3) 1 (c-m) _ 213 pc.out oM (by rw[fR];omega) oM;have Ek:=fun w=>N7 g l.length c m w oM jO
   have Av:=fun w=>U8 g l.length c m w oM jO
   rw[show l.length-m=1 from oM] at Ek;have qO:=ae (⟨G2,aC,fR⟩:_/\_/\_);have HMN:=ae Fx;clear G2 aC fR Fx;go_wp2;go_ret;obtain⟨G2,aC,fR⟩:=qO.out;have Fx:=HMN.out;refine⟨by rw[Fx];rfl,⟨_,G2,?_,?_⟩,jW.out.grown aC (fun i e=>il (by simpa using e.symm))⟩
   ·rw[ago _ _ _ (by rw[fR];simp[Builtin.zeroCells,Value.cells];omega),fR]
   ·have Ts:l.length-1=m:=oM;rw[Ts,uo _ _ _ _ (by rw[fR];omega) (aaO _),abT (by rw[my,ER.out];omega),On];have:=T6 l k hk;rw[Fx,afB] at this;rw[this]
theorem ZH(pb pd b pl nx:Nat)(l:List Wn)(a:Option Addr)(c:Nat)(w:World)(hlen:l.length<=100000)(hh:rv pb pd b pl nx w)(hi:xj (kh pl nx) l=-1)(hw:JQ w a l) :
 Calls prog 232 #[.slice a l.length c,.func (.func 231) #[] #[.pointer (some ⟨pb,0,none⟩),.pointer (some ⟨pd,0,none⟩)]] w (rB (.slice a l.length c) w):=by
 have HI:=ae hi;have HW:=ae hw;have HH:=ae hh;clear hi hw hh;go_enter func232,ntmps232;go_wp2_with fail;refine(FI pb pd b pl nx l _ c _ HW.out hlen HH.out).mono ?_;rw[HI.out];rintro e w1 ⟨rfl,aw⟩;go_wp2;go_ret;exact⟨rfl,aw⟩
theorem abO(pb pd b pl nx:Nat)(l:List Wn)(a:Option Addr)(c:Nat)(w:World)(h:w.ownsRow 0 213 3 (.slice a l.length c) l.length (eK l))(hlen:l.length<=100000)(hn:(l.map Wn.key).Nodup)(hh:rv pb pd b pl nx w)(n1:¬gB a pb)(n2:¬gB a pd)(n3:¬gB a b) :
 Calls prog 232 #[.slice a l.length c,.func (.func 231) #[] #[.pointer (some ⟨pb,0,none⟩),.pointer (some ⟨pd,0,none⟩)]] w fun e w' =>
  e=.returned (.slice a (eR pl nx l).length c)/\w'.ownsRow 0 213 3 (.slice a (eR pl nx l).length c) (eR pl nx l).length (eK (eR pl nx l))/\aH (gB a) w w':=by
 rcases TL (kh pl nx) l with⟨hi,dV⟩|⟨k,hk,hi,uR,vw⟩
 ·rw[WU dV];refine cM (ZH pb pd b pl nx l a c w hlen hh hi (vT h)) ?_;intro w' hb;refine⟨rfl,dR h (fun g hg=>hb.block g (h.lt g hg).2),aH.cj hb⟩
 ·have IN:∀j (hj:j<l.length),j ≠ k->kh pl nx l[j]=false:=fun j hj aE=>by
   cases e:kh pl nx l[j]
   ·rfl
   ·exact absurd (WC hn hj hk e uR) aE
  rw[Qn hk uR IN];have Ba:(l.eraseIdx k).length=l.length-1:=by rw[ab7,aaV hk]
  rcases h.2 with⟨_,h0⟩|⟨g,cap,cur,hv,hg,Lg,jO,ig,hcs,ht⟩
  ·omega
  ·simp only[abV,afs] at hv;obtain⟨rfl,rfl⟩:=hv;have fR:cur.toList.length=c*3:=by rw[ab6];exact hcs
   have Wg:cur.toList=eK l++cur.toList.drop (l.length*3):=by rw[<-ht,ab8]
   refine(Wb pb pd b pl nx l g c k (cur.toList.drop (l.length*3)) w (by rw[<-Wg,afk];exact Lg) (by rw[ac5,fR];omega) jO (by unfold maxLen at ig;omega) hlen hh (fun e=>n1 ⟨_,rfl,e⟩) (fun e=>n2 ⟨_,rfl,e⟩) (fun e=>n3 ⟨_,rfl,e⟩) hk uR IN hi (vT h)).mono ?_;rintro e w' ⟨rfl,⟨V3,g',l',t'⟩,ho⟩;refine⟨by rw[Ba],⟨my _,ir ⟨g,c,V3.toArray,rfl,ach _,g',oM,ig,by simpa using l',by rw[Ba];simpa using t'⟩⟩,ho.mono (fun i e=>⟨_,rfl,e⟩)⟩
theorem AK(w:World)(hs:Array Value)(T:TypeId):(w.alloc (.cells hs T)).rangeAt w.heap.size 0 hs.toList:=by
 intro j v hj;have h:=acm w (.cells hs T);simp only[World.cell?,h,abc]
 simpa using hj
theorem XG(l:List Bf)(a:Option Addr)(c:Nat)(hs:Array Value)(hz:hs.size=32)(B:Nat->Bool)(w:World)(hl:bA w a l)(G:kZ l)(hB:∀i,i<32->hs[i]?=some (.bool (B i)))(hr:dz (eu true (lu B)) l l.length=-1) :
 Calls prog 97 #[.slice a l.length c,.agg hs] w (rB (i6 (-1)) w):=by
 have HR:=aB hr;have et:=aB hB;clear hr hB;have iV:Hid ((prog.info? 162).map (·.size)=some hs.toList.length):=(by rw[Hid,ab6,hz];kernel_rfl)
 have Bt:=aB (AK w hs 162);have b0:=aA w (.cells hs 162);clear hz;go_enter func97,ntmps97;go_wp2_with(refine wpList_load_mid rfl 162 (.tmp 3) rfl w.heap.size 0 rfl hs.toList _ Bt.out underlying162 rfl iV.out ?_);refine cM (Gb l a c true hs B _ (hl.later b0) G et.out _ HR.out) ?_;intro w1 HB;go_wp2;go_ret;exact⟨rfl,bQ⟩
theorem UK(l:List Bf)(a:Option Addr)(c:Nat)(hs:Array Value)(hz:hs.size=32)(B:Nat->Bool)(w:World)(hl:bA w a l)(G:kZ l)(hB:∀i,i<32->hs[i]?=some (.bool (B i)))(k:Nat)(hk:k<l.length)(hr:dz (eu true (lu B)) l l.length=k) :
 Calls prog 97 #[.slice a l.length c,.agg hs] w (rB (i6 l[k].pl) w):=by
 have h0:l ≠ []:=by rintro rfl;exact absurd hk (aa0 _)
 obtain⟨b,o,rfl⟩:=hl.form.resolve_left h0;have bo:=hl.2;have HR:=aB hr;have et:=aB hB;clear hr hB h0;have iV:Hid ((prog.info? 162).map (·.size)=some hs.toList.length):=(by rw[Hid,ab6,hz];kernel_rfl)
 have Bt:=aB (AK w hs 162);have b0:=aA w (.cells hs 162);clear hz;go_enter func97,ntmps97;go_wp2_with(refine wpList_load_mid rfl 162 (.tmp 3) rfl w.heap.size 0 rfl hs.toList _ Bt.out underlying162 rfl iV.out ?_);refine cM (Gb l _ c true hs B _ (hl.later b0) G et.out _ HR.out) ?_;intro w1 HB;obtain⟨c0,c1,c2,c3⟩:=((hl.later b0).later HB).cells hk;go_wp2;go_ret;exact⟨rfl,bQ⟩
def nN(f:Bf->Bf)(l:List Bf)(k:Nat):List Bf:=(l.take k).map f++l.drop k
theorem Vm(f:Bf->Bf)(l:List Bf):nN f l 0=l:=by simp[nN]
theorem MJ(f:Bf->Bf)(l:List Bf):nN f l l.length=l.map f:=by simp[nN]
theorem y8(f:Bf->Bf)(l:List Bf)(k:Nat):(nN f l k).length=l.length:=by
 simp only[nN,aaQ,abe,abm,ac5];omega
theorem zV(f:Bf->Bf)(l:List Bf)(k:Nat)(hk:k<l.length)(h:k<(nN f l k).length):(nN f l k)[k]=l[k]:=by
 simp only[nN];rw[af6 (by rw[abe,abm];omega)]
 simp[abm,ac1 (agw hk)]
theorem Cx(f:Bf->Bf)(l:List Bf)(k:Nat)(hk:k<l.length):(nN f l k).set k (f l[k])=nN f l (k+1):=by
 have e:((l.take k).map f).length=k:=by rw[abe,abm];omega
 rw[nN,adn _ _ oM,e,afC,nN,abz hk,aca,abp]
 congr 1
 rw[afq hk]
 rfl
theorem Jp(f:Bf->Bf)(l:List Bf)(k:Nat)(hk:k<l.length)(h:f l[k]=l[k]):nN f l (k+1)=nN f l k:=by
 rw[<-Cx f l k hk,h];have h':k<(nN f l k).length:=by rw[y8];exact hk
 conv=>lhs;rw[<-zV f l k hk h']
 exact List.set_getElem_self h'
def y9(at' now:Int)(x:Bf):Bf:=if x.pl=at' then { x with used:=now } else x
theorem X5(l:List Bf)(at' now:Int):l.map (y9 at' now)=kT l at' now:=rfl
def qS(at':Int)(data:ByteArray)(x:Bf):Bf:=if x.pl=at'/\x.data=data then { x with bM:=false } else x
theorem PK(l:List Bf)(at':Int)(data:ByteArray):l.map (qS at' data)=fO l at' data:=rfl
theorem aec(l:List Bf)(a:Option Addr)(c:Nat)(at' now:Int)(w:World)(hl:bA w a l)(hn:a=none->c=0)(mj:l.length<=1000) :
 Calls prog 145 #[.slice a l.length c,i6 at',i6 now] w fun e w'=>∃a' c',e=.returned (.slice a' l.length c')/\bA w' a' (kT l at' now)/\bL w w'/\n8 w.heap.size a' c' l.length:=by
 obtain⟨i,hi,de,cC,cF⟩:=eS yq;have R:=hl.xB hn;have HL:Hid (l.length<=1000):=mj;go_enter func145,ntmps145;go_wp2_with(at_builtin;refine aP rfl _ _ 91 rfl w.heap.size 137 i _ 4 40 underlying91 hi de cC cF rfl dM _ 0 [] rfl (abg _ _ _ _) a l.length c (aU l) rfl (R.later bQ) (by unfold maxLen;omega) oM sM ?_;intro v1 w2 aO aw);rw[abc,abJ] at aO;obtain⟨a1,c1,rfl,hN⟩:=fQ aO rfl (by have:=HL.out;omega);have cp:=hN.cap;have cm:=hN.KF;have HN:=aB hN;have OF:=aB hN.newAt;clear aO hN R
 go_loopw[8] (fun i wr=>∃k:Nat,k<=l.length/\i=i6 k/\bA wr a1 (nN (y9 at' now) l k)/\(∀b,a1=some ⟨b,0,none⟩->b<wr.heap.size/\∀o,wr.frozen? ⟨b,o,none⟩=false)/\bL w wr) (fun i _=>l.length-(intOf i).toNat)
 case atStart =>
  refine⟨0,oM,rfl,by rw[Vm];exact HN.out.here,fun b hb=>?_,aw⟩;have au:=HN.out.lt b hb;refine⟨au,fun o=>?_⟩;subst hb
  rcases HN.out.own.2 with⟨h1,_⟩|⟨g,cap,cur,h1,hg,hh,_⟩
  ·cases h1
  ·simp only[abV,aa4,aci,acS] at h1;obtain⟨rfl,_⟩:=h1
   simp[World.frozen?,hh]
 case round =>
  obtain⟨k,hk,rfl,hU,hfz,HB⟩:=hrel
  by_cases au:k<l.length
  ·have h0:l ≠ []:=by rintro rfl;exact absurd au (aa0 _)
   obtain⟨b,rfl,-,-,-⟩:=HN.out.place h0;obtain⟨qz,hf⟩:=hfz b rfl;have mE:=HN.out.own.2;have Fo:w.heap.size<=b:=by
    rcases mE with⟨h1,_⟩|⟨g,cap,cur,h1,hg,_⟩
    ·cases h1
    ·simp only[abV,aa4,aci,acS] at h1;obtain⟨rfl,_⟩:=h1;exact hg
   have gC:k<(nN (y9 at' now) l k).length:=by rw[y8];exact au
   obtain⟨c0,OT,c2,c3⟩:=hU.cells gC;rw[zV _ _ _ au,abc] at c0 OT c2 c3;have f3:=hf (k*4+3);have HU:=aB hU;have HF:=aB hf;clear hU hfz hf h0 mE HN
   by_cases hp:l[k].pl=at'
   ·have e:y9 at' now l[k]={ l[k] with used:=now }:=by rw[y9,aaV hp]
    have HS:=aB (Cx (y9 at' now) l k au);have HE:=aB e;have HA:=aB (zV (y9 at' now) l k au gC);have s1:(l[k].pl==at')=true:=by rw[hp];simp
    clear hp e;go_wp2;go_roundw
    case rel =>
     refine⟨k+1,oM,gN,?_,fun b' hJ=>?_,bQ⟩
     ·rw[<-HS.out,HE.out];have:=HU.out.set gC 3 oM { l[k] with used:=now } (i6 now) rfl (fun i hi aE=>by rw[HA.out];rcases(show i=0\/i=1\/i=2 from oM) with rfl|rfl|rfl<;>rfl);rw[abc] at this;exact this
     ·simp only[aa4,aci,acS] at hJ;subst hJ;exact⟨by simpa using qz,fun o=>by simpa using HF.out o⟩
    case measure=>simp[intOf];omega
   ·have e:y9 at' now l[k]=l[k]:=by rw[y9,aaP hp]
    have HS:=aB (Jp (y9 at' now) l k au e);have s1:(l[k].pl==at')=false:=by rw[aaU];exact hp
    clear hp e;go_wp2;go_roundw
    case rel =>
     refine⟨k+1,oM,gN,by rw[HS.out];exact HU.out,fun b' hJ=>?_,bQ⟩;simp only[aa4,aci,acS] at hJ;subst hJ;exact⟨qz,HF.out⟩
    case measure=>simp[intOf];omega
  ·obtain rfl:k=l.length:=oM;rw[MJ,X5] at hU;have HU:=aB hU;clear hU hfz HN;go_wp2;go_ret;exact⟨a1,c1,rfl,HU.out,HB,OF.out⟩
theorem aao(l:List Bf)(a:Option Addr)(c:Nat)(at':Int)(data:ByteArray)(w:World)(hl:bA w a l)(hn:a=none->c=0)(mj:l.length<=1000) :
 Calls prog 107 #[.slice a l.length c,i6 at',.string data] w fun e w'=>∃a' c',e=.returned (.slice a' l.length c')/\bA w' a' (fO l at' data)/\bL w w'/\n8 w.heap.size a' c' l.length:=by
 obtain⟨i,hi,de,cC,cF⟩:=eS yq;have R:=hl.xB hn;have HL:Hid (l.length<=1000):=mj;go_enter func107,ntmps107;go_wp2_with(at_builtin;refine aP rfl _ _ 91 rfl w.heap.size 137 i _ 4 40 underlying91 hi de cC cF rfl dM _ 0 [] rfl (abg _ _ _ _) a l.length c (aU l) rfl (R.later bQ) (by unfold maxLen;omega) oM sM ?_;intro v1 w2 aO aw);rw[abc,abJ] at aO;obtain⟨a1,c1,rfl,hN⟩:=fQ aO rfl (by have:=HL.out;omega);have cp:=hN.cap;have cm:=hN.KF;have HN:=aB hN;have OF:=aB hN.newAt;clear aO hN R
 go_loopw[8] (fun i wr=>∃k:Nat,k<=l.length/\i=i6 k/\bA wr a1 (nN (qS at' data) l k)/\(∀b,a1=some ⟨b,0,none⟩->b<wr.heap.size/\∀o,wr.frozen? ⟨b,o,none⟩=false)/\bL w wr) (fun i _=>l.length-(intOf i).toNat)
 case atStart =>
  refine⟨0,oM,rfl,by rw[Vm];exact HN.out.here,fun b hb=>?_,aw⟩;have au:=HN.out.lt b hb;refine⟨au,fun o=>?_⟩;subst hb
  rcases HN.out.own.2 with⟨h1,_⟩|⟨g,cap,cur,h1,hg,hh,_⟩
  ·cases h1
  ·simp only[abV,aa4,aci,acS] at h1;obtain⟨rfl,_⟩:=h1
   simp[World.frozen?,hh]
 case round =>
  obtain⟨k,hk,rfl,hU,hfz,HB⟩:=hrel
  by_cases au:k<l.length
  ·have h0:l ≠ []:=by rintro rfl;exact absurd au (aa0 _)
   obtain⟨b,rfl,-,-,-⟩:=HN.out.place h0;obtain⟨qz,hf⟩:=hfz b rfl;have mE:=HN.out.own.2;have Fo:w.heap.size<=b:=by
    rcases mE with⟨h1,_⟩|⟨g,cap,cur,h1,hg,_⟩
    ·cases h1
    ·simp only[abV,aa4,aci,acS] at h1;obtain⟨rfl,_⟩:=h1;exact hg
   have gC:k<(nN (qS at' data) l k).length:=by rw[y8];exact au
   obtain⟨c0,OT,c2,c3⟩:=hU.cells gC;rw[zV _ _ _ au,abc] at c0 OT c2 c3;have f3:=hf (k*4+3);have HU:=aB hU;have HF:=aB hf;clear hU hfz hf h0 mE HN;have f2:=HF.out (k*4+2);have hbw1:=Fo
   by_cases hp:l[k].pl=at'/\l[k].data=data
   ·have e:qS at' data l[k]={ l[k] with bM:=false }:=by rw[qS,aaV hp]
    have HS:=aB (Cx (qS at' data) l k au);have HE:=aB e;have HA:=aB (zV (qS at' data) l k au gC);have s1:(l[k].pl==at')=true:=by rw[hp.1];simp
    have s2:=Pr hp.2;clear hp e f3;go_wp2;go_roundw
    case rel =>
     refine⟨k+1,oM,gN,?_,fun b' hJ=>?_,bQ⟩
     ·rw[<-HS.out,HE.out];have:=HU.out.set gC 2 oM { l[k] with bM:=false } (.bool false) rfl (fun i hi aE=>by rw[HA.out];rcases(show i=0\/i=1\/i=3 from oM) with rfl|rfl|rfl<;>rfl);rw[abc] at this;exact this
     ·simp only[aa4,aci,acS] at hJ;subst hJ;exact⟨by simpa using qz,fun o=>by simpa using HF.out o⟩
    case measure=>simp[intOf];omega
   ·have e:qS at' data l[k]=l[k]:=by rw[qS,aaP hp]
    have HS:=aB (Jp (qS at' data) l k au e)
    by_cases h1:l[k].pl=at'
    ·have s1:(l[k].pl==at')=true:=by rw[h1];simp
     have s2:=Ps (fun h=>hp ⟨h1,h⟩);clear hp e h1 f3;go_wp2;go_roundw
     case rel =>
      refine⟨k+1,oM,gN,by rw[HS.out];exact HU.out,fun b' hJ=>?_,bQ⟩;simp only[aa4,aci,acS] at hJ;subst hJ;exact⟨qz,HF.out⟩
     case measure=>simp[intOf];omega
    ·have s1:(l[k].pl==at')=false:=by rw[aaU];exact h1
     clear hp e h1 f3;go_wp2;go_roundw
     case rel =>
      refine⟨k+1,oM,gN,by rw[HS.out];exact HU.out,fun b' hJ=>?_,bQ⟩;simp only[aa4,aci,acS] at hJ;subst hJ;exact⟨qz,HF.out⟩
     case measure=>simp[intOf];omega
  ·obtain rfl:k=l.length:=oM;rw[MJ,PK] at hU;have HU:=aB hU;clear hU hfz HN;go_wp2;go_ret;exact⟨a1,c1,rfl,HU.out,HB,OF.out⟩
theorem aal:∀(a b:List Bf),a.Pairwise rj->b.Pairwise rj->(∀y,y∈a↔y∈b)->a=b:=by
 intro a
 induction a with
 |nil =>
  intro b _ _ h
  cases b with
  |nil=>rfl
  |cons y b=>exact absurd ((h y).2 (acd)) sM
 |cons x a ih =>
  intro b ha hb h
  cases b with
  |nil=>exact absurd ((h x).1 (acd)) sM
  |cons y b =>
   rw[agF] at ha hb;have hxy:x=y:=by
    have h1:=(h x).1 acd;have h2:=(h y).2 acd;rw[acj] at h1 h2
    rcases h1 with h1|h1
    ·exact h1
    ·rcases h2 with h2|h2
     ·exact h2.symm
     ·have u:=hb.1 x h1;have v:=ha.1 y h2;simp only[rj] at u v
      omega
   subst hxy
   congr 1
   apply ih b ha.2 hb.2;intro z;have hz:=h z;rw[acj,acj] at hz
   constructor
   ·intro hza
    rcases hz.1 (ir hza) with e|e
    ·subst e;have:=ha.1 z hza;simp only[rj] at this;omega
    ·exact e
   ·intro TF
    rcases hz.2 (ir TF) with e|e
    ·subst e;have:=hb.1 z TF;simp only[rj] at this;omega
    ·exact e
theorem Pd{p:Prop} [Decidable p]{y z:Bf}:y∈(if p then [z] else [])↔p/\y=z:=by
 by_cases h:p
 ·rw[aaV h,abq];exact⟨fun e=>⟨h,e⟩,fun e=>e.2⟩
 ·rw[aaP h];exact⟨fun e=>absurd e sM,fun e=>absurd e.1 h⟩
structure xR(l:List Bf)(x:Bf)(gone:Int)(k:Nat)(O:List Bf)(b:Bool):Prop where
 mr:O.Pairwise rj
 len:O.length<=2*k
 mem:∀y,y∈O↔(b=true/\y=x)\/∃i,∃hi:i<l.length,i<k/\(i:Int) ≠ gone/\l[i]=y/\y.pl ≠ x.pl
 no:b=false->∀i (hi:i<l.length),i<k->l[i].pl<x.pl
 yes:b=true->∀i (hi:i<l.length),k<=i->x.pl<l[i].pl
theorem Hd(l:List Bf)(x:Bf)(gone:Int):xR l x gone 0 [] false :=
 ⟨List.Pairwise.nil,sM,fun y=>sM,fun _ i _ h=>absurd h (aa0 _),fun h=>by cases h⟩
def ch(l:List Bf)(x:Bf)(gone:Int)(k:Nat)(hk:k<l.length)(O:List Bf)(b:Bool):List Bf :=
 (O++(if b=false/\x.pl<=l[k].pl then [x] else []))++(if l[k].pl ≠ x.pl/\(k:Int) ≠ gone then [l[k]] else [])
theorem ep{l:List Bf}{x:Bf}{gone:Int}{k:Nat}{O:List Bf}{b:Bool}(G:kZ l)(hk:k<l.length)(h:xR l x gone k O b) :
 xR l x gone (k+1) (ch l x gone k hk O b) (b||decide (x.pl<=l[k].pl)):=by
 have hO:∀y∈O,y.pl<l[k].pl:=by
  intro y hy
  rcases(h.mem y).1 hy with⟨hb,rfl⟩|⟨i,hi,BX,_,rfl,_⟩
  ·exact h.yes hb k hk (aaO _)
  ·exact G.DR i k BX hk
 have hOx:b=false->∀y∈O,y.pl<x.pl:=by
  intro hb y hy
  rcases(h.mem y).1 hy with⟨hJ,_⟩|⟨i,hi,BX,_,rfl,_⟩
  ·rw[hb] at hJ;cases hJ
  ·exact h.no hb i hi BX
 unfold ch;refine⟨?_,?_,?_,?_,?_⟩
 ·by_cases h1:b=false/\x.pl<=l[k].pl
  ·by_cases h2:l[k].pl ≠ x.pl/\(k:Int) ≠ gone
   ·rw[aaV h1,aaV h2,abp,ac6];refine⟨h.mr,?_,?_⟩
    ·simp only[afF,agF,abq,forall_eq,agr,false_implies,implies_true,List.Pairwise.nil,acS];simp only[rj];omega
    ·intro y hy z hz;simp only[afF,acj,agr,or_false] at hz
     rcases hz with rfl|rfl
     ·exact hOx h1.1 y hy
     ·exact hO y hy
   ·rw[aaV h1,aaP h2,afd,ac6];refine⟨h.mr,afR _ _,?_⟩;intro y hy z hz;rw[abq] at hz;subst hz;exact hOx h1.1 y hy
  ·by_cases h2:l[k].pl ≠ x.pl/\(k:Int) ≠ gone
   ·rw[aaP h1,aaV h2,afd,ac6];refine⟨h.mr,afR _ _,?_⟩;intro y hy z hz;rw[abq] at hz;subst hz;exact hO y hy
   ·rw[aaP h1,aaP h2,afd,afd];exact h.mr
 ·have:=h.len;rw[aaQ,aaQ]
  split<;>split<;>simp<;>omega
 ·intro y;rw[abh,abh,h.mem y,Pd,Pd]
  constructor
  ·rintro(((⟨hb,rfl⟩|⟨i,hi,BX,hg,rfl,aE⟩)|⟨h1,rfl⟩)|⟨h2,rfl⟩)
   ·exact il ⟨by rw[hb];rfl,rfl⟩
   ·exact ir ⟨i,hi,oM,hg,rfl,aE⟩
   ·exact il ⟨by rw[aa1 h1.2,Bool.or_true],rfl⟩
   ·exact ir ⟨k,hk,oM,h2.2,rfl,h2.1⟩
  ·rintro(⟨hb,rfl⟩|⟨i,hi,BX,hg,rfl,aE⟩)
   ·cases b
    ·simp only[Bool.false_or,aba] at hb;exact il (ir ⟨⟨rfl,hb⟩,rfl⟩)
    ·exact il (il (il ⟨rfl,rfl⟩))
   ·by_cases e:i=k
    ·subst e;exact ir ⟨⟨aE,hg⟩,rfl⟩
    ·exact il (il (ir ⟨i,hi,oM,hg,rfl,aE⟩))
 ·intro hb i hi BX;rw[afe,acv] at hb
  by_cases e:i=k
  ·subst e;omega
  ·exact h.no hb.1 i hi oM
 ·intro hb i hi BX;rw[afS,aba] at hb
  rcases hb with hb|hb
  ·exact h.yes hb i hi oM
  ·have:=G.DR k i oM hi;omega
def D7(l:List Bf)(x:Bf)(gone:Int)(M:List Bf):Prop:=M.Pairwise rj/\∀y,y∈M↔y=x\/∃i,∃hi:i<l.length,(i:Int) ≠ gone/\l[i]=y/\y.pl ≠ x.pl
theorem Cm{l:List Bf}{x:Bf}{gone:Int}{O:List Bf}(h:xR l x gone l.length O true):D7 l x gone O:=by
 refine⟨h.mr,fun y=>?_⟩;rw[h.mem y]
 constructor
 ·rintro(⟨_,e⟩|⟨i,hi,_,r⟩)
  ·exact il e
  ·exact ir ⟨i,hi,r⟩
 ·rintro(e|⟨i,hi,r⟩)
  ·exact il ⟨rfl,e⟩
  ·exact ir ⟨i,hi,hi,r⟩
theorem Ew{l:List Bf}{x:Bf}{gone:Int}{O:List Bf}(h:xR l x gone l.length O false):D7 l x gone (O++[x]):=by
 refine⟨?_,fun y=>?_⟩
 ·rw[ac6];refine⟨h.mr,afR _ _,?_⟩;intro y hy z hz;rw[abq] at hz;subst hz
  rcases(h.mem y).1 hy with⟨hb,_⟩|⟨i,hi,_,_,rfl,_⟩
  ·cases hb
  ·exact h.no rfl i hi hi
 ·rw[abh,abq,h.mem y]
  constructor
  ·rintro((⟨hb,_⟩|⟨i,hi,_,r⟩)|e)
   ·cases hb
   ·exact ir ⟨i,hi,r⟩
   ·exact il e
  ·rintro(e|⟨i,hi,r⟩)
   ·exact ir e
   ·exact il (ir ⟨i,hi,hi,r⟩)
theorem D7.eq{l:List Bf}{x:Bf}{M m:List Bf}{H:Int->Bool}{gone:Int}(G:kZ l)(hM:D7 l x gone M)(hm:CG l x H m)
 (hg:(ej (eP x.pl) l=-1/\l.length=8/\gone=dz (eu false H) l l.length)\/(¬(ej (eP x.pl) l=-1/\l.length=8)/\gone=-1)):M=m:=by
 obtain⟨K,hF⟩:=hm.facts G;refine aal M m hM.1 hF.mr (fun y=>?_);rw[hM.2 y]
 rcases hm with⟨k,hk,gA,rfl⟩|⟨gA,h8,rfl⟩|⟨gA,h8,k,hk,hr,rfl⟩
 ·have bV:=FF hk gA;have BW:gone=-1:=by
   rcases hg with⟨h1,_⟩|⟨_,h1⟩
   ·rw[gA] at h1;omega
   ·exact h1
  constructor
  ·rintro(rfl|⟨i,hi,_,rfl,aE⟩)
   ·exact List.mem_set hk _
   ·have e:i ≠ k:=by rintro rfl;exact aE bV
    have pL:i<(l.set k x).length:=by rw[abS];exact hi
    have hm:=aa5 pL;rw[afb (fun h=>e h.symm)] at hm;exact hm
  ·intro hy;obtain⟨i,hi,rfl⟩:=abM hy;rw[abS] at hi
   by_cases e:i=k
   ·subst e;left;simp
   ·right
    rw[afb (fun h=>e h.symm)];refine⟨i,hi,oM,rfl,?_⟩
    rcases Nat.lt_or_gt_of_ne e with h|h
    ·have:=G.DR i k h hk;omega
    ·have:=G.DR k i h hi;omega
 ·have BW:gone=-1:=by
   rcases hg with⟨_,h1,_⟩|⟨_,h1⟩
   ·omega
   ·exact h1
  rw[ou]
  constructor
  ·rintro(rfl|⟨i,hi,_,rfl,_⟩)
   ·exact il rfl
   ·exact ir (aa5 hi)
  ·rintro(rfl|hy)
   ·exact il rfl
   ·have aE:=B8 gA y hy;obtain⟨i,hi,rfl⟩:=abM hy;exact ir ⟨i,hi,oM,rfl,aE⟩
 ·have BW:gone=k:=by
   rcases hg with⟨_,_,h1⟩|⟨h1,_⟩
   ·rw[h1,hr]
   ·exact absurd ⟨gA,h8⟩ h1
  rw[ou,afX]
  constructor
  ·rintro(rfl|⟨i,hi,aE,rfl,_⟩)
   ·exact il rfl
   ·exact ir ⟨i,hi,oM,rfl⟩
  ·rintro(rfl|⟨i,hi,aE,rfl⟩)
   ·exact il rfl
   ·exact ir ⟨i,hi,oM,rfl,B8 gA _ (aa5 hi)⟩
theorem iY(x:Bf)(w:World):gg (w.alloc (.cells #[i6 x.pl,.string x.data,.bool x.bM,i6 x.used] 137)) 4 (some ⟨w.heap.size,0,none⟩) 1 1 (aU [x]) :=
 ⟨rfl,n9 _,ir ⟨_,rfl,fun j u hj=>by
  have nB:[Value.int .i64 x.pl,.string x.data,.bool x.bM,i6 x.used][j]?=some u:=hj;rw[tT];have h:=acm w (.cells #[i6 x.pl,.string x.data,.bool x.bM,i6 x.used] 137);simp only[World.cell?,h,abc]
  simpa using nB⟩⟩
end
end Go.Proofs.YtlhgjplipgandaaGreatDoor
