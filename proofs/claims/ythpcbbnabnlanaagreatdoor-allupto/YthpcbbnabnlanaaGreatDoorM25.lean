import Derived.Test.YthpcbbnabnlanaaGreatDoorM12
import Derived.Test.YthpcbbnabnlanaaGreatDoorM20
import Derived.Test.YthpcbbnabnlanaaGreatDoorM13
import Derived.Test.YthpcbbnabnlanaaGreatDoorM23
import Derived.Deep.DeepAppendRoom
import Derived.Deep.QuietTactic
import Derived.BigQuiet
namespace Go.Proofs.YthpcbbnabnlanaaGreatDoor
set_option maxHeartbeats 4000000
set_option maxRecDepth 100000
open Go.Proofs.Tryz
open Go.RowKit
set_option linter.all false
section
def Tw (w:A)(v v':aF)(w':A):Prop:=(v'.ownBlock=v.ownBlock/\w.grownBy w' v.ownBlock)\/(v'.ownBlock=some w.heap.size/\aB w w')
theorem aaM (w:A)(base:Nat)(t ty e:TypeId)(i:TypeInfo)(anZ:aF)(size bytes:Nat)(ht:prog.underlying t=some (.slice e))(hi:prog.info? e=some i)(hz:i.zero=some anZ)(au:i.size=size)(aH:i.bytes=bytes)(aN:anZ.cells.size=size)(Yw:0<size)(v:aF)(n:Nat)(xs:ay)(ZO:w.ownsRow base e size v n xs)(a:Addr)(m c:Nat)(news:ay)(hl:news.length=m*size)(ar:∀j u,news[j]?=some u->w.cell? (a.add j)=some u)(F:∀u∈news,u.oneCell'=true)(aL:n+m<=maxLen)(aO:(n+m)*bytes<=140737488355328)(aR:base<=w.heap.size):∃v' w',(Builtin.append_ #[t,t] ty #[v,.slice (some a) m c]).run prog w=.ok v' w'/\w'.ownsRow base e size v' (n+m) (xs++news)/\
   ((v'.ownBlock=v.ownBlock/\w.grownBy w' v.ownBlock)\/(v'.ownBlock=some w.heap.size/\aB w w')):=by
 obtain⟨v',w',hr,h2,h3,h4,h5⟩:=run_append_own_at (P:=prog) w base t ty e i anZ size bytes ht hi hz au aH aN Yw v n xs ZO a m c news hl ar F aL aO aR;refine⟨v',w',hr,h2,?_⟩;rcases ZO.2 with⟨rfl,rfl⟩|⟨g,cap,cur,rfl,hb,z,bN,cA,WS,aI⟩
 ·rcases h5 with h5|h5
  ·exact .inl ⟨h5,h3⟩
  ·exact .inr ⟨h5,h3⟩
 ·by_cases aG:n+m<=cap
  ·obtain⟨w2,WI,_,ZU⟩:=run_append_own_spare (P:=prog) w base t ty e i size ht hi au g n cap xs ZO a m c news hl ar F aG;rw[WI]at hr;injection hr with e1 e2;subst e1 e2;exact .inl ⟨rfl,ZU⟩
  ·have aJ:n+m<=9223372036854775807:=by simp only[maxLen]at aL;omega
   have hold:∀j u,xs[j]?=some u->w.cell? (((ah g):Addr).add j)=some u:=ZO.cells (g:=g) rfl;subst au aH;have WI:=run_append_grow (P:=prog) w t ty e i anZ ht hi hz (ah g) n cap xs ZO.1 hold a m c news hl ar J J (growslice_fits J aO);rw[WI]at hr;injection hr with e1 e2;subst e1 e2;exact .inr ⟨rfl,(ZG w none).trans (di _ _ _)⟩
theorem RH {w:A}{ops:Array Oper}{rest:List Oper}{o:Oper}{a:Act}{Q:Exit->Act->A->Prop}(Qw:o.guard=none)(s x:Operand)(t:TypeId)(ho:o.op=.call {callee:=.builtin .append,args:=#[s,x],argTypes:=#[t,t]})
  (base:Nat) (e:TypeId) (i:TypeInfo) (anZ:aF) (size bytes:Nat) (ht:prog.underlying t=some (.slice e)) (hi:prog.info? e=some i) (hz:i.zero=some anZ)
  (au:i.size=size) (aH:i.bytes=bytes) (aN:anZ.cells.size=size) (Yw:0<size) (v:aF) (n:Nat) (xs:ay) (hs:a.eval s=v) (ZO:w.ownsRow base e size v n xs)
  (ad:Addr) (m c:Nat) (news:ay) (hx:a.eval x=.slice (some ad) m c) (hl:news.length=m*size) (ar:∀j u,news[j]?=some u->w.cell? (ad.add j)=some u) (F:∀u∈news,u.oneCell'=true)
  (aL:n+m<=maxLen) (aO:(n+m)*bytes<=140737488355328) (aR:base<=w.heap.size)
  (h:∀v' w',w'.ownsRow base e size v' (n+m) (xs++news)->Tw w v v' w'->wpList prog ops Q rest (a.put o.dst v') w'):
  wpList prog ops Q (o::rest) a w:=by
 refine wpList_plain Qw λK hK=> ?_
 obtain⟨v',w',hr,h2,h3⟩:=aaM w base t o.type e i anZ size bytes ht hi hz au aH aN Yw v n xs ZO ad m c news hl ar F aL aO aR;unfold Oper.wp execOp;simp only[ho,resolve,invoke,builtin,il,Sem.run_pure,dZ,List.map_toArray,gG,gR,hs,hx,hr];exact hK _ _ (h v' w' h2 h3)
structure VX where
 S:List Nat
 P:A->Prop
 ok:∀w w':A,(∀k∈S,w'.heap[k]?=w.heap[k]?)->P w->P w'
structure LP where
 g:Nat
 len:Nat
 cap:Nat
 mark:aF
def LP.v (x:LP):aF:=aj x.g x.len x.cap
def LP.r (x:LP):aF:=if x.len=0 then af else x.v
def LP.at (x:LP)(i:Nat):aF:=if i=5 then x.r else x.v
def FO (w:A)(x:LP):Prop:=∀j,j<x.len->w.cell? (O x.g j)=some x.mark
def QM (x:LP):VX:=⟨[x.g],λw=>FO w x,λw w' h q j hj=>(cJ (a:=(O x.g j)) (h x.g pG)).trans (q j hj)⟩
structure SR (w0:A)(H:Nat)(w:A):Prop where
 size:w0.heap.size<=w.heap.size
 Zl:∀k,H<=k->k<w0.heap.size->w.heap[k]?=w0.heap[k]?
theorem aaN {w:A}{g o:Nat}{u:aF}(h:w.cell? (O g o)=some u):g<w.heap.size:=by
 rcases ib g w.heap.size with q|q
 ·exact q
 ·simp[World.cell?,bD q]at h
section
variable {w0 w1 w w':A}{H:Nat}
theorem SR.cell (h:SR w0 H w){g o:Nat}{u:aF}(z:H<=g)(hu:ak w0 g o u):w.cell? (O g o)=some u:=
 (cJ (a:=(O g o)) (h.Zl g z (aaN hu))).trans hu
theorem SR.own (h:SR w0 H w){B e s n:Nat}{v:aF}{xs:ay}(hB:H<=B)(ho:w0.ownsRow B e s v n xs):w.ownsRow B e s v n xs:=by
 refine⟨ho.1,?_⟩;rcases ho.2 with q|⟨g,cap,cur,F,h2,h3,h4⟩
 ·exact .inl q
 ·exact .inr ⟨g,cap,cur,F,h2,by rw[h.Zl g J (ho.lt g uZ).2];exact h3,h4⟩
theorem SR.low (h:SR w1 H w)(z:aB w0 w1):SR w0 H w:=⟨gZ z.size h.size,λk F h2=>(h.Zl k F (dH h2 z.size)).trans (z.block k h2 pG)⟩
theorem SR.up (h:SR w0 H w){H':Nat}(hH:H<=H'):SR w0 H' w:=⟨h.size,λk F h2=>h.Zl k J h2⟩
theorem SR.self (w:A)(H:Nat):SR w H w:=⟨iw _,λ_ _ _=>rfl⟩
theorem A7.FN {b:Nat}{s:aA}(h:A7 w0 H b s)(hb:H<=b)(hq:Qz (XT (T6 s) q0))(hS:SR w0 H w):Ov w b (W5 s) (TT s) (Pa (Y0 s)):=by
 obtain⟨bc,bm,B,k,SM,hB,_,F,h2,h3,n,g,vV,vC,cs,hc,_,_,hv,ho,hs,_⟩:=h;refine⟨hS.cell hb F,dH h3 hS.size,bc,B,vV,vC,cs,hS.cell hb h2,⟨hS.cell SM hc.c1,hS.cell SM hc.c2,dH hc.lt hS.size,hS.own hB hv,?_,λx hx=> ?_⟩,hs.row⟩
 ·have hm:=hq.m;unfold T6 at hm;have e:(XT (Xc (Y0 s)).1 q0).m=cs.length:=by rw[hm,<-hs.row,fy]
  rw[e]at ho;exact hS.own hB ho
 ·have q:=hs.at_ x hx;exact⟨hS.own hB q.t,hS.own hB q.l,hS.own hB q.v,hS.own hB q.i⟩
end
def Qv (w:A)(r:Nat)(s:aA):Prop:=∃(ta va la ra:ax) (tc vc lc rc:Nat) (lists:List YZ) (rules:List YL),r<w.heap.size/\TkA w r ta tc (lex s).2.1/\JQ w r va la ra vc lc rc (Uv s).vars lists rules/\lists.map YZ.bare=(Uv s).lists/\rules.map YL.bare=(Uv s).rules
structure MP where
 b:Nat
 r:Nat
 H:Nat
 w0:A
 s:aA
def MP.blocks (x:MP):List Nat:=List.range' x.H (x.w0.heap.size-x.H)
theorem MP.mem {x:MP}{k:Nat}(F:x.H<=k)(h2:k<x.w0.heap.size):k∈x.blocks:=by unfold MP.blocks;rw[dT];omega
structure PL (w:A)(x:MP):Prop where
 FN:SR x.w0 x.H w
 p:∀w,SR x.w0 x.H w->Ov w x.b (W5 x.s) (TT x.s) (Pa (Y0 x.s))
 r:∀w,SR x.w0 x.H w->Qv w x.r x.s
 JM:U0 x.s
 lt:x.H<x.w0.heap.size
theorem PL.UZ {w w':A}{x:MP}(h:∀k∈x.blocks,w'.heap[k]?=w.heap[k]?)(q:PL w x):PL w' x:=by
 have hb:∀k,x.H<=k->k<x.w0.heap.size->w'.heap[k]?=x.w0.heap[k]?:=λk F h2=>(h k (MP.mem F h2)).trans (q.FN.Zl k F h2)
 have hl:=q.lt;refine⟨⟨?_,hb⟩,q.p,q.r,q.JM,hl⟩;have e:=hb (x.w0.heap.size-1) J J;rcases ib (x.w0.heap.size-1) w'.heap.size with c|c
 ·omega
 ·rw[bD c,aP J]at e;cases e
theorem PL.prog {w:A}{x:MP}(q:PL w x):Ov w x.b (W5 x.s) (TT x.s) (Pa (Y0 x.s)):=q.p w q.FN
theorem PL.ref {w:A}{x:MP}(q:PL w x):Qv w x.r x.s:=q.r w q.FN
def AY (x:MP):VX:=⟨x.blocks,λw=>PL w x,λ_ _ h q=>q.UZ h⟩
def JL (x:MP):ay:=[ai x.b,ai x.r]
structure LV where
 m:aF
 n:aF
 k:aF
 u:aF
 x:aF
 r:aF
 y:aF
def LV.get (V:LV):Nat->aF
 |0=>V.m
 |1=>V.n
 |2=>V.k
 |3=>V.u
 |4=>V.x
 |5=>V.r
 |_=>V.y
def LV.put (V:LV)(i:Nat)(v:aF):LV:=match i with
 |0=>{V with m:=v}
 |1=>{V with n:=v}
 |2=>{V with k:=v}
 |3=>{V with u:=v}
 |4=>{V with x:=v}
 |5=>{V with r:=v}
 |_=>{V with y:=v}
def AX (V:LV)(c:Nat):Array aF:=#[V.m,V.n,V.k,V.u,V.x,V.r,V.y,Y c]
theorem PK {i:Nat}(hi:i<7):i=0\/i=1\/i=2\/i=3\/i=4\/i=5\/i=6:=J
theorem LV.Ib (V:LV)(i j:Nat)(v:aF)(hi:i<7)(hj:j<7):(V.put i v).get j=if j=i then v else V.get j:=by
 rcases PK hi with rfl|rfl|rfl|rfl|rfl|rfl|rfl<;>rcases PK hj with rfl|rfl|rfl|rfl|rfl|rfl|rfl<;>rfl
theorem ajr (V:LV)(c i:Nat)(v:aF)(hi:i<7):(AX V c).setIfInBounds i v=AX (V.put i v) c:=by
 rcases PK hi with rfl|rfl|rfl|rfl|rfl|rfl|rfl<;>rfl
structure LD where
 ms:List MP
 ns:List LP
 ks:ay
 us:List LP
 xs:ay
 rs:List LP
 ys:ay
def LD.cells (D:LD):Nat->ay
 |0=>D.ms.flatMap JL
 |1=>D.ns.map LP.v
 |2=>D.ks
 |3=>D.us.map LP.v
 |4=>D.xs
 |5=>D.rs.map LP.r
 |_=>D.ys
def LD.Zi (D:LD):Nat->Nat
 |0=>D.ms.length
 |1=>D.ns.length
 |2=>D.ks.length
 |3=>D.us.length
 |4=>D.xs.length
 |5=>D.rs.length
 |_=>D.ys.length
def Ia:Nat->TypeId
 |0=>83
 |1=>37
 |2=>9
 |3=>33
 |4=>3
 |5=>30
 |_=>3
def H5:Nat->Nat
 |0=>2
 |_=>1
def Yj (Z:Nat)(V:LV)(k:Nat):Prop:=k≠Z/\∀i,i<7->(V.get i).ownBlock≠some k
structure LW (w:A)(B Z:Nat)(V:LV)(D:LD)(c:Nat)(K:VX->Prop):Prop where
 Zl:w.heap[Z]?=some (.cells (AX V c) 59 (0,0))
 lt:Z<B
 hB:B<=w.heap.size
 own:∀i,i<7->w.ownsRow B (Ia i) (H5 i) (V.get i) (D.Zi i) (D.cells i)
 ap:∀i j,i<7->j<7->i≠j->∀k,(V.get i).ownBlock=some k->(V.get j).ownBlock≠some k
 kp:∀x,K x->x.P w/\∀k∈x.S,k<w.heap.size/\Yj Z V k
variable {w w' w1:A}{B Z c:Nat}{V:LV}{D:LD}{K:VX->Prop}
theorem LW.slt (h:LW w B Z V D c K):Z<w.heap.size:=dH h.lt h.hB
theorem LW.PJ (h:LW w B Z V D c K){i k:Nat}(hi:i<7)(e:(V.get i).ownBlock=some k):B<=k/\k<w.heap.size:=(h.own i hi).lt k e
theorem LW.frame {S:List Nat}(h:LW w B Z V D c K)(hb:Y9 S w w')(hS:∀k∈S,Yj Z V k/\∀x,K x->k∉x.S):LW w' B Z V D c K where
 Zl:=(hb.block Z h.slt (λe=>(hS Z e).1.1 rfl)).trans h.Zl
 lt:=h.lt
 hB:=gZ h.hB hb.size
 own:=λi hi=>Gv (h.own i hi) hb (λk e q=>(hS k q).1.2 i hi e)
 ap:=h.ap
 kp:=λx hx=>⟨x.ok w w' (λk I=>hb.block k ((h.kp x hx).2 k I).1 (λq=>(hS k q).2 x hx I)) (h.kp x hx).1,λk I=>⟨dH ((h.kp x hx).2 k I).1 hb.size,((h.kp x hx).2 k I).2⟩⟩
theorem LW.grown (h:LW w B Z V D c K)(z:aB w w'):LW w' B Z V D c K:=
 h.frame (S:=[]) (Y9.Pe z (λk e=>pL)) (λk I=>by simp at I)
theorem LW.alloc (h:LW w B Z V D c K)(o:Obj):LW (w.alloc o) B Z V D c K:=h.grown (di _ _ _)
theorem LW.keep (h:LW w B Z V D c K)(K':VX->Prop)(hK:∀x,K' x->K x\/(x.P w/\∀k∈x.S,k<w.heap.size/\Yj Z V k)):LW w B Z V D c K':=
 ⟨h.Zl,h.lt,h.hB,h.own,h.ap,λx hx=>(hK x hx).elim (h.kp x) id⟩
theorem LW.count (h:LW w B Z V D c K)(c':Nat):LW (w.setCell (O Z 7) (Y c')) B Z V D c' K where
 Zl:=YE h.Zl 7 _ rfl
 lt:=h.lt
 hB:=gZ h.hB (ZC w Z 7 _).size
 own:=λi hi=>(h.own i hi).kept (ZC w Z 7 _) (.inr (λe=>by have:=(h.PJ hi e).1;have:=h.lt;omega))
 ap:=h.ap
 kp:=λx hx=>⟨x.ok _ _ (λk I=>(ZC w Z 7 (Y c')).block k ((h.kp x hx).2 k I).1 (λe=>((h.kp x hx).2 k I).2.1 (fO e))) (h.kp x hx).1,λk I=>⟨dH ((h.kp x hx).2 k I).1 (ZC w Z 7 _).size,((h.kp x hx).2 k I).2⟩⟩
theorem Tw.by {v v':aF}(h:Tw w v v' w'):w.grownBy w' v.ownBlock:=by
 rcases h with⟨_,h⟩|⟨_,h⟩
 ·exact h
 ·exact⟨h.os,h.tape,h.output,h.size,λk I _=>h.block k I pG⟩
theorem Tw.Zl {v v':aF}(h:Tw w v v' w'){k:Nat}(e:v'.ownBlock=some k):v.ownBlock=some k\/k=w.heap.size:=by
 rcases h with⟨h,_⟩|⟨h,_⟩
 ·exact .inl (h▸e)
 ·rw[h]at e;exact .inr (fO e).symm
def lW{P:Prop}(h:P:=by
 rw[V.Ib i j v' hi hj];split
 ·intro e;rcases z.Zl e with q|q
  ·exact f.2 i hi q
  ·omega
 ·exact f.2 j hj):P:=h
theorem LW.push {i n':Nat}{v':aF}{xs':ay}{D':LD}(h:LW w B Z V D c K)(hi:i<7)(ZO:w1.ownsRow B (Ia i) (H5 i) v' n' xs')(z:Tw w (V.get i) v' w1)(hn:∀j,j<7->D'.Zi j=if j=i then n' else D.Zi j)(hc:∀j,j<7->D'.cells j=if j=i then xs' else D.cells j):LW (w1.setCell (O Z i) v') B Z (V.put i v') D' c K:=by
 have g1:=z.by
 have V8:(V.get i).ownBlock≠some Z:=λe=>by have:=(h.PJ hi e).1;have:=h.lt;omega
 have gs:=ZC w1 Z i v';have old:∀k,k<w.heap.size->k≠Z->(V.get i).ownBlock≠some k->(w1.setCell (O Z i) v').heap[k]?=w.heap[k]?:=λk I F h2=>
  (gs.block k (dH I g1.size) (λe=>F (fO e))).trans (g1.block k I (λe=>h2 e.symm))
 have fr:∀k,k<w.heap.size->Yj Z V k->Yj Z (V.put i v') k:=λk I f=>by
  refine⟨f.1,λj hj=> ?_⟩
  exact lW
 refine⟨?_,h.lt,gZ h.hB (gZ g1.size gs.size),λj hj=> ?_,λj j' hj PN ZP k=> ?_,λx hx=> ?_⟩
 ·exact YE ((g1.block Z h.slt (λe=>V8 e.symm)).trans h.Zl) i v' (ajr V c i v' hi)
 ·rw[V.Ib i j v' hi hj,hn j hj,hc j hj];by_cases e:j=i
  ·subst e;rw[iR rfl,iR rfl,iR rfl];exact ZO.kept gs (.inr (λe=>by have:=(ZO.lt _ e).1;have:=h.lt;omega))
  ·rw[iQ e,iQ e,iQ e];have q1:(V.get j).ownBlock=none\/(V.get j).ownBlock≠(V.get i).ownBlock:=by
    cases hq:(V.get j).ownBlock with
    |none=>exact .inl rfl
    |some k=>exact .inr (λq=>h.ap j i hj hi e k hq q.symm)
   exact((h.own j hj).kept g1 q1).kept gs (.inr (λe=>by have:=(h.PJ hj e).1;have:=h.lt;omega))
 ·rw[V.Ib i j v' hi hj,V.Ib i j' v' hi PN];intro e1;by_cases c1:j=i
  ·subst c1;rw[iR rfl]at e1;rw[iQ (λq=>ZP q.symm)]
   intro e2;rcases z.Zl e1 with q|q
   ·exact h.ap j j' hj PN ZP k q e2
   ·have:=(h.PJ PN e2).2;omega
  ·rw[iQ c1]at e1;by_cases c2:j'=i
   ·subst c2;rw[iR rfl];intro e2;rcases z.Zl e2 with q|q
    ·exact h.ap j j' hj PN ZP k e1 q
    ·have:=(h.PJ hj e1).2;omega
   ·rw[iQ c2];exact h.ap j j' hj PN ZP k e1
 ·have I:=(h.kp x hx).2;exact⟨x.ok _ _ (λk q=>old k (I k q).1 (I k q).2.1 ((I k q).2.2 i hi)) (h.kp x hx).1,λk q=>⟨dH (I k q).1 (gZ g1.size gs.size),fr k (I k q).1 (I k q).2⟩⟩
structure Wp (B Z:Nat)(w w':A):Prop where
 os:w'.os=w.os
 tape:w'.tape=w.tape
 output:w'.output=w.output
 size:w.heap.size<=w'.heap.size
 block:∀i,i<B->i≠Z->w'.heap[i]?=w.heap[i]?
theorem Wp.refl (B Z:Nat)(w:A):Wp B Z w w:=⟨rfl,rfl,rfl,iw _,λ_ _ _=>rfl⟩
theorem Wp.trans (h:Wp B Z w w1)(k:Wp B Z w1 w'):Wp B Z w w':=⟨k.os.trans h.os,k.tape.trans h.tape,k.output.trans h.output,gZ h.size k.size,λi F h2=>(k.block i F h2).trans (h.block i F h2)⟩
theorem Wp.grown {row:Option Nat}(h:Wp B Z w w1)(hB:B<=w1.heap.size)(z:w1.grownBy w' row)(hr:∀k,row=some k->k=Z\/B<=k):Wp B Z w w':=
 ⟨z.os.trans h.os,z.tape.trans h.tape,z.output.trans h.output,gZ h.size z.size,λi F h2=>(z.block i J (λe=>by rcases hr i e.symm with q|q;exact h2 q;omega)).trans (h.block i F h2)⟩
end
section
variable {w w' w1 wr wB:A}{B Z c:Nat}{V V1:LV}{D D1:LD}{K:VX->Prop}
def LD.pl (D:LD)(i:Nat)(x:LP):LD:=match i with
 |1=>{D with ns:=D.ns++[x]}
 |3=>{D with us:=D.us++[x]}
 |_=>{D with rs:=D.rs++[x]}
def LD.pk (D:LD)(i:Nat)(v:aF):LD:=match i with
 |2=>{D with ks:=D.ks++[v]}
 |4=>{D with xs:=D.xs++[v]}
 |_=>{D with ys:=D.ys++[v]}
theorem My (D:LD)(x:LP){i j:Nat}(hi:i=1\/i=3\/i=5)(hj:j<7):(D.pl i x).Zi j=if j=i then D.Zi i+1 else D.Zi j:=by
 rcases hi with rfl|rfl|rfl<;>rcases PK hj with rfl|rfl|rfl|rfl|rfl|rfl|rfl<;>simp[LD.pl,LD.Zi]
theorem JK (D:LD)(x:LP){i j:Nat}(hi:i=1\/i=3\/i=5)(hj:j<7):(D.pl i x).cells j=if j=i then D.cells i++[x.at i]else D.cells j:=by
 rcases hi with rfl|rfl|rfl<;>rcases PK hj with rfl|rfl|rfl|rfl|rfl|rfl|rfl<;>simp[LD.pl,LD.cells,LP.at]
theorem AW (D:LD)(v:aF){i j:Nat}(hi:i=2\/i=4\/i=6)(hj:j<7):(D.pk i v).Zi j=if j=i then D.Zi i+1 else D.Zi j:=by
 rcases hi with rfl|rfl|rfl<;>rcases PK hj with rfl|rfl|rfl|rfl|rfl|rfl|rfl<;>simp[LD.pk,LD.Zi]
theorem aaO (D:LD)(v:aF){i j:Nat}(hi:i=2\/i=4\/i=6)(hj:j<7):(D.pk i v).cells j=if j=i then D.cells i++[v]else D.cells j:=by
 rcases hi with rfl|rfl|rfl<;>rcases PK hj with rfl|rfl|rfl|rfl|rfl|rfl|rfl<;>simp[LD.pk,LD.cells]
def Wo (D:LD)(i:Nat)(L:List LP):LD:=L.foldl (λD x=>(D.pl i x).pk (i+1) x.mark) D
theorem aaP (D:LD)(i:Nat)(L:List LP)(x:LP):Wo D i (L++[x])=((Wo D i L).pl i x).pk (i+1) x.mark:=by simp[Wo]
theorem Ot (D:LD){i:Nat}(hi:i=1\/i=3\/i=5)(L:List LP):∀j,j<7->(Wo D i L).Zi j<=D.Zi j+L.length:=by
 induction L generalizing D with
 |nil=>intro j hj;simp[Wo]
 |cons x L ih=>
  intro j hj;have h:=ih ((D.pl i x).pk (i+1) x.mark) j hj;have e:Wo D i (x::L)=Wo ((D.pl i x).pk (i+1) x.mark) i L:=rfl;rw[e];rw[AW _ _ J hj,My _ _ hi (by omega:i+1<7),My _ _ hi hj]at h;simp only[eM];split at h
  ·rename_i az;subst az;have:¬(i+1=i):=J;simp only[this,iK]at h;omega
  ·split at h
   ·rename_i az;subst az;omega
   ·omega
structure Hz (w w':A)(B Z g:Nat)(V V':LV)(K K':VX->Prop):Prop where
 fr:∀k,k<w.heap.size->Yj Z V k->Yj Z V' k
 bl:∀k,k<w.heap.size->Yj Z V k->k≠g->w'.heap[k]?=w.heap[k]?
 VW:Wp B Z w w'
 kk:∀x,K x->K' x
 kn:∀x,K' x->K x\/∀k∈x.S,k=g\/w.heap.size<=k
theorem Dx {i:Nat}{v':aF}(h:LW w B Z V D c K)(hi:i<7)(z:Tw w (V.get i) v' w1):∀k,k<w.heap.size->Yj Z V k->(w1.setCell (O Z i) v').heap[k]?=w.heap[k]?/\Yj Z (V.put i v') k:=λk I f=>by
 have g1:=z.by
 refine⟨((ZC w1 Z i v').block k (dH I g1.size) (λe=>f.1 (fO e))).trans (g1.block k I (λe=>f.2 i hi e.symm)),f.1,λj hj=> ?_⟩
 exact lW
theorem FM {i:Nat}{v':aF}{w0:A}(hf:Wp B Z w0 w)(h:LW w B Z V D c K)(hi:i<7)(z:Tw w (V.get i) v' w1):Wp B Z w0 (w1.setCell (O Z i) v'):=
 (hf.grown h.hB z.by (λk e=>.inr (h.PJ hi e).1)).grown (gZ h.hB z.by.size) (ZC w1 Z i v') (λk e=>by cases e;exact .inl rfl)
theorem JJ {B e s n:Nat}{v:aF}{xs:ay}(h:w.ownsRow B e s v n xs)(hb:∀k,v.ownBlock=some k->w'.heap[k]?=w.heap[k]?):w'.ownsRow B e s v n xs:=by
 refine⟨h.1,?_⟩;rcases h.2 with q|⟨g,cap,cur,F,h2,h3,h4⟩
 ·exact .inl q
 ·exact .inr ⟨g,cap,cur,F,h2,by rw[hb g uZ];exact h3,h4⟩
theorem FL {x:LP}(h:FO w x)(hb:w'.heap[x.g]?=w.heap[x.g]?):FO w' x:=λj hj=>(cJ (a:=(O x.g j)) hb).trans (h j hj)
theorem aaQ {B e gi m cap:Nat}{mark:aF}(h:w.ownsRow B e 1 (aj gi m cap) m (List.replicate m mark)):FO w ⟨gi,m,cap,mark⟩:=λj hj=>by
 change j<m at hj;have q:=h.cells (g:=gi) rfl j mark vy;have P5:((ah gi):Addr).add j=(O gi j):=by unfold Addr.add;split<;>simp_all
 rw[P5]at q;exact q
structure Tx (w wr:A)(B Z g c:Nat)(V:LV)(D:LD)(K:VX->Prop)(ri:Nat)(e:TypeId)(V1:LV)(D1:LD)(L:List LP)(gi cap m:Nat)(mark:aF):Prop where
 lw:LW wr B Z V1 D1 c K
 d:D1=Wo D ri L
 own:wr.ownsRow B e 1 (aj gi m cap) m (List.replicate m mark)
 new:gi=g\/w.heap.size<=gi
 free:Yj Z V1 gi
 nk:∀x,K x->gi∉x.S
 RG:∀x∈L,x.mark=mark/\x.len<=m/\(x.g=g\/w.heap.size<=x.g)/\x.g<wr.heap.size/\Yj Z V1 x.g/\FO wr x
 wf:∀k,k<w.heap.size->Yj Z V k->Yj Z V1 k
 wb:∀k,k<w.heap.size->Yj Z V k->k≠g->wr.heap[k]?=w.heap[k]?
 VW:Wp B Z w wr
variable {g ri gi cap m:Nat}{e:TypeId}{L:List LP}{mark:aF}
theorem Tx.grown (h:Tx w wr B Z g c V D K ri e V1 D1 L gi cap m mark)(z:aB wr w'):Tx w w' B Z g c V D K ri e V1 D1 L gi cap m mark where
 lw:=h.lw.grown z
 d:=h.d
 own:=h.own.kept z (XY _)
 new:=h.new
 free:=h.free
 nk:=h.nk
 RG:=λx hx=>by
  obtain⟨F,h2,h3,h4,h5,h6⟩:=h.RG x hx;exact⟨F,h2,h3,dH h4 z.size,h5,FL h6 (z.block _ h4 pG)⟩
 wf:=h.wf
 wb:=λk I f ZP=>(z.block k (dH I h.VW.size) pG).trans (h.wb k I f ZP)
 VW:=h.VW.grown h.lw.hB z (λk e=>pL)
theorem Tx.push {W1 W2 w2:A}{va vb:aF}(h:Tx w wr B Z g c V D K ri e V1 D1 L gi cap m mark)(WI:ri=1\/ri=3)(ha:w1.ownsRow B (Ia ri) (H5 ri) va (D1.Zi ri+1) (D1.cells ri++[aj gi m cap]))(XW:aB wr W1)(ga:Tw W1 (V1.get ri) va w1)(hb:w2.ownsRow B (Ia (ri+1)) (H5 (ri+1)) vb (D1.Zi (ri+1)+1) (D1.cells (ri+1)++[mark]))(W7:(w1.setCell (O Z ri) va).grownBy W2 none)(gb:Tw W2 (V1.get (ri+1)) vb w2):∃V2 D2,Tx w (w2.setCell (O Z (ri+1)) vb) B Z g c V D K ri e V2 D2 (L++[⟨gi,m,cap,mark⟩]) gi cap m mark:=by
 have aw:ri=1\/ri=3\/ri=5:=J;have bP:ri<7:=J;have aa:ri+1<7:=J;have h0:=h.grown XW;have l1:=h0.lw.push (D':=D1.pl ri ⟨gi,m,cap,mark⟩) bP ha ga (λj hj=>My _ _ aw hj) (λj hj=>by rw[JK _ _ aw hj,show LP.at ⟨gi,m,cap,mark⟩ ri=aj gi m cap from iQ J])
 have e1:(V1.put ri va).get (ri+1)=V1.get (ri+1):=by rw[V1.Ib ri (ri+1) va bP aa,iQ J]
 have aM:=l1.grown W7;have bu:Tw W2 ((V1.put ri va).get (ri+1)) vb w2:=by rw[e1];exact gb
 have c1:(D1.pl ri ⟨gi,m,cap,mark⟩).Zi (ri+1)=D1.Zi (ri+1):=by rw[My _ _ aw aa,iQ J]
 have c2:(D1.pl ri ⟨gi,m,cap,mark⟩).cells (ri+1)=D1.cells (ri+1):=by rw[JK _ _ aw aa,iQ J]
 have l2:=aM.push (D':=(D1.pl ri ⟨gi,m,cap,mark⟩).pk (ri+1) mark) aa hb bu (λj hj=>by rw[AW _ _ J hj,c1]) (λj hj=>by rw[aaO _ _ J hj,c2])
 have p1:=Dx h0.lw bP ga;have p2:=Dx aM aa bu;have z0:wr.heap.size<=W1.heap.size:=XW.size;have z1:=gZ z0 (gZ ga.by.size (ZC w1 Z ri va).size);have z2:=gZ z1 W7.size;have z3:=gZ z2 (gZ gb.by.size (ZC w2 Z (ri+1) vb).size);have old:∀k,k<wr.heap.size->Yj Z V1 k->(w2.setCell (O Z (ri+1)) vb).heap[k]?=wr.heap[k]?/\Yj Z ((V1.put ri va).put (ri+1) vb) k:=λk I f=>by
  obtain⟨q1,q2⟩:=p1 k J f;obtain⟨q3,q4⟩:=p2 k J q2;exact⟨q3.trans ((W7.block k J pG).trans (q1.trans (XW.block k I pG))),q4⟩
 have gl:gi<wr.heap.size:=(h.own.lt gi rfl).2;refine⟨_,_,l2,by rw[h.d,aaP],JJ h.own (λk e=> ?_),h.new,(old gi gl h.free).2,h.nk,λx hx=> ?_,λk I f=> ?_,λk I f ZP=> ?_,?_⟩
 ·have:gi=k:=fO e;subst this;exact(old gi gl h.free).1
 ·rcases fE.1 hx with hx|hx
  ·obtain⟨F,h2,h3,h4,h5,h6⟩:=h.RG x hx;exact⟨F,h2,h3,dH h4 z3,(old _ h4 h5).2,FL h6 (old _ h4 h5).1⟩
  ·simp only[gH,eQ,iM]at hx;subst hx;exact⟨rfl,iw _,h.new,dH gl z3,(old _ gl h.free).2,FL (aaQ h.own) (old _ gl h.free).1⟩
 ·exact(old k (dH I h.VW.size) (h.wf k I f)).2
 ·exact(old k (dH I h.VW.size) (h.wf k I f)).1.trans (h.wb k I f ZP)
 ·exact FM ((FM h0.VW h0.lw bP ga).grown l1.hB W7 (λk e=>pL)) aM aa bu
theorem Tx.app {W:A}{v':aF}(h:Tx w wr B Z g c V D K ri e V1 D1 L gi cap m mark)(hB:B<=g)(b6:B<=w.heap.size)(ho:w1.ownsRow B e 1 v' (m+1) (List.replicate m mark++[mark]))(hW:aB wr W)(z:Tw W (aj gi m cap) v' w1)(V6:∀x,K x->∀k∈x.S,k<w.heap.size):∃RF UH,v'=aj RF (m+1) UH/\Tx w w1 B Z g c V D K ri e V1 D1 L RF UH (m+1) mark:=by
 have h0:=h.grown hW;have aQ:=hW.size;have gl:gi<wr.heap.size:=(h.own.lt gi rfl).2;have er:List.replicate m mark++[mark]=List.replicate (m+1) mark:=by rw[cF]
 rw[er]at ho;obtain⟨RF,UH,rfl⟩:∃RF UH,v'=aj RF (m+1) UH:=by
  rcases ho.2 with⟨_,h2⟩|⟨g2,c2,_,h2,_⟩
  ·omega
  ·exact⟨g2,c2,h2⟩
 have aS:gi<W.heap.size:=J;have gn:RF=gi\/RF=W.heap.size:=by
  rcases z.Zl (k:=RF) rfl with q|q
  ·exact .inl (fO q).symm
  ·exact .inr q
 have gb:=z.by
 have zw:=h.VW.size;have old:∀k,k<W.heap.size->k≠gi->w1.heap[k]?=W.heap[k]?:=λk I ZP=>gb.block k I (λq=>ZP (fO q))
 have Ww:gi=g\/w.heap.size<=gi:=h.new;have bR:Y9 [gi] W w1:=Y9.Pe gb (λk e=>by have:gi=k:=fO e;simp[this])
 have lw:=h0.lw.frame bR (λk I=>by
  simp only[gH,eQ,iM]at I;subst I;exact⟨h0.free,h0.nk⟩)
 have gf:Yj Z V1 RF:=by
  rcases gn with rfl|q
  ·exact h.free
  ·refine⟨λe=> ?_,λi hi e=> ?_⟩
   ·have:=h.lw.slt;omega
   ·have:=(h.lw.PJ hi e).2;omega
 have aT:RF<w1.heap.size:=(ho.lt RF rfl).2;refine⟨RF,UH,rfl,lw,h.d,ho,?_,gf,λx hx q=> ?_,λx hx=> ?_,h.wf,λk I f ZP=> ?_,?_⟩
 ·rcases gn with rfl|q
  ·exact h.new
  ·exact .inr J
 ·rcases gn with rfl|q'
  ·exact h.nk x hx q
  ·have:=V6 x hx _ q;omega
 ·obtain⟨F,h2,h3,h4,h5,h6⟩:=h0.RG x hx;refine⟨F,J,h3,dH h4 gb.size,h5,?_⟩;by_cases c1:x.g=gi
  ·rcases z with⟨e1,_⟩|⟨_,e2⟩
   ·have e1:RF=gi:=fO e1;intro j hj;have q:=aaQ ho j (by show j<m+1;omega);simp only at q;rw[c1,F,<-e1];exact q
   ·exact FL h6 (e2.block _ h4 pG)
  ·exact FL h6 (old _ h4 c1)
 ·have aC:k<W.heap.size:=J;have bp:k≠gi:=by rcases Ww with q|q<;>omega
  exact(old k aC bp).trans (h0.wb k I f ZP)
 ·refine h0.VW.grown h0.lw.hB gb (λk e=> ?_)
  have:gi=k:=fO e;exact .inr (by rcases Ww with q|q<;>omega)
theorem Tx.done (h:Tx w wr B Z g c V D K ri e V1 D1 L gi cap m mark):∃K',LW wr B Z V1 D1 c K'/\Hz w wr B Z g V V1 K K'/\∀x∈L,K' (QM x)/\x.mark=mark/\x.len<=m:=by
 refine⟨λx=>K x\/∃y∈L,x=QM y,h.lw.keep _ (λx hx=> ?_),⟨h.wf,h.wb,h.VW,λx hx=>.inl hx,λx hx=> ?_⟩,λx hx=>⟨.inr ⟨x,hx,rfl⟩,(h.RG x hx).1,(h.RG x hx).2.1⟩⟩
 ·rcases hx with hx|⟨y,hy,rfl⟩
  ·exact .inl hx
  ·obtain⟨F,h2,h3,h4,h5,h6⟩:=h.RG y hy;refine .inr ⟨h6,λk I=> ?_⟩
   have:k=y.g:=by simpa[QM]using I
   subst this;exact⟨h4,h5⟩
 ·rcases hx with hx|⟨y,hy,rfl⟩
  ·exact .inl hx
  ·refine .inr (λk I=> ?_)
   have:k=y.g:=by simpa[QM]using I
   subst this;exact(h.RG y hy).2.2.1
end
section
variable {w w' w1:A}{B Z c:Nat}{V:LV}{D:LD}{K:VX->Prop}
def ajs (w:A)(x:LP)(bs:List Nat):Prop:=∀j,j<x.len->∃b o c,b∈bs/\w.cell? (O x.g j)=some (.slice (some (O b o)) 1 c)/\w.cell? (O b o)=some x.mark
def FK (x:LP)(bs:List Nat):VX:=⟨x.g::bs,λw=>ajs w x bs,λw w' h q j hj=>by
 obtain⟨b,o,c,F,h2,h3⟩:=q j hj;exact⟨b,o,c,F,(cJ (a:=(O x.g j)) (h x.g pG)).trans h2,(cJ (a:=(O b o)) (h b sk)).trans h3⟩⟩
theorem LW.at (h:LW w B Z V D c K){i j:Nat}(hi:i<7){v:aF}(hv:(D.cells i)[j]?=some v):∃g cap,V.get i=aj g (D.Zi i) cap/\w.cell? (O g j)=some v/\g<w.heap.size:=by
 rcases Lt (h.own i hi)with⟨F,h2⟩|⟨g,cap,F,_,hl,h2⟩
 ·have:=(h.own i hi).1;rw[F]at this;have:D.cells i=[]:=bA.1 J;rw[this]at hv;simp at hv
 ·exact⟨g,cap,F,h2 j v hv,hl⟩
structure LG (w:A)(B Z:Nat)(V:LV)(D:LD)(c:Nat)(K:VX->Prop)(T:Nat):Prop where
 lw:LW w B Z V D c K
 n1:D.ks=D.ns.map (·.mark)
 n2:D.xs=D.us.map (·.mark)
 n3:D.ys=D.rs.map (·.mark)
 l1:∀x∈D.ns,K (QM x)/\x.len<=3000000/\∃s,x.mark=.string s
 l2:∀x∈D.us,K (QM x)/\x.len<=3000000/\∃i,x.mark=Y i
 l3:∀x∈D.rs,(∃bs,K (FK x bs))/\x.len<=3000000/\∃i,x.mark=Y i
 ms:∀x∈D.ms,K (AY x)
 m20:D.ms.length<=20
 bd:∀i,i<7->D.Zi i<=200000*T+20
 cb:c<=200000*T
theorem LG.grown {T:Nat}(h:LG w B Z V D c K T)(z:aB w w'):LG w' B Z V D c K T:=
 ⟨h.lw.grown z,h.n1,h.n2,h.n3,h.l1,h.l2,h.l3,h.ms,h.m20,h.bd,h.cb⟩
def lH{P:Prop}(h:P:=by
 rw[c2]at e3;exact⟨gn,cn,gk,ck,s,q1.trans (iJ some e1),e2,q2.trans (iJ some e3),e4,hl,λj hj=>by rw[<-hs];exact(h.lw.kp _ I).1 j hj⟩):P:=h
theorem LG.names {T i:Nat}{x:LP}(h:LG w B Z V D c K T)(hx:D.ns[i]?=some x):∃gn cn gk ck s,w.cell? (O Z 1)=some (aj gn D.ns.length cn)/\w.cell? (O gn i)=some (aj x.g x.len x.cap)/\w.cell? (O Z 2)=some (aj gk D.ns.length ck)/\w.cell? (O gk i)=some (.string s)/\x.len<=3000000/\∀j,j<x.len->w.cell? (O x.g j)=some (.string s):=by
 obtain⟨I,hl,s,hs⟩:=h.l1 x (cq hx);obtain⟨gn,cn,e1,e2,_⟩:=h.lw.at (i:=1) (j:=i) (v:=x.v) J uO;obtain⟨gk,ck,e3,e4,_⟩:=h.lw.at (i:=2) (j:=i) (v:=.string s) J (by simp[LD.cells,h.n1,hx,hs]);have q1:ak w Z 1 V.n:=Z0 h.lw.Zl 1 _ rfl;have q2:ak w Z 2 V.k:=Z0 h.lw.Zl 2 _ rfl;have c2:D.Zi 2=D.ns.length:=by simp[LD.Zi,h.n1]
 exact lH
theorem LG.Xb {T i:Nat}{x:LP}(h:LG w B Z V D c K T)(hx:D.us[i]?=some x):∃gn cn gk ck s,w.cell? (O Z 3)=some (aj gn D.us.length cn)/\w.cell? (O gn i)=some (aj x.g x.len x.cap)/\w.cell? (O Z 4)=some (aj gk D.us.length ck)/\w.cell? (O gk i)=some (Y s)/\x.len<=3000000/\∀j,j<x.len->w.cell? (O x.g j)=some (Y s):=by
 obtain⟨I,hl,s,hs⟩:=h.l2 x (cq hx);obtain⟨gn,cn,e1,e2,_⟩:=h.lw.at (i:=3) (j:=i) (v:=x.v) J uO;obtain⟨gk,ck,e3,e4,_⟩:=h.lw.at (i:=4) (j:=i) (v:=Y s) J (by simp[LD.cells,h.n2,hx,hs]);have q1:ak w Z 3 V.u:=Z0 h.lw.Zl 3 _ rfl;have q2:ak w Z 4 V.x:=Z0 h.lw.Zl 4 _ rfl;have c2:D.Zi 4=D.us.length:=by simp[LD.Zi,h.n2]
 exact lH
theorem LG.rows {T i:Nat}{x:LP}(h:LG w B Z V D c K T)(hx:D.rs[i]?=some x):∃gn cn gk ck s,w.cell? (O Z 5)=some (aj gn D.rs.length cn)/\(∃a k,w.cell? (O gn i)=some (.slice a x.len k)/\(x.len≠0->a=some (ah x.g)))/\w.cell? (O Z 6)=some (aj gk D.rs.length ck)/\w.cell? (O gk i)=some (Y s)/\x.len<=3000000/\∀j,j<x.len->∃b o c,w.cell? (O x.g j)=some (.slice (some (O b o)) 1 c)/\w.cell? (O b o)=some (Y s):=by
 obtain⟨⟨bs,I⟩,hl,s,hs⟩:=h.l3 x (cq hx);obtain⟨gn,cn,e1,e2,_⟩:=h.lw.at (i:=5) (j:=i) (v:=x.r) J uO;obtain⟨gk,ck,e3,e4,_⟩:=h.lw.at (i:=6) (j:=i) (v:=Y s) J (by simp[LD.cells,h.n3,hx,hs]);have q1:ak w Z 5 V.r:=Z0 h.lw.Zl 5 _ rfl;have q2:ak w Z 6 V.y:=Z0 h.lw.Zl 6 _ rfl;have c2:D.Zi 6=D.rs.length:=by simp[LD.Zi,h.n3]
 rw[c2]at e3;have e5:∃a k,w.cell? (O gn i)=some (.slice a x.len k)/\(x.len≠0->a=some (ah x.g)):=by
  unfold LP.r at e2;split at e2
  ·rename_i anZ;exact⟨none,0,by rw[anZ];exact e2,λq=>absurd anZ q⟩
  ·exact⟨_,x.cap,e2,λ_=>rfl⟩
 exact⟨gn,cn,gk,ck,s,q1.trans (iJ some e1),e5,q2.trans (iJ some e3),e4,hl,λj hj=>by
  obtain⟨b,o,c,_,h2,h3⟩:=(h.lw.kp _ I).1 j hj;exact⟨b,o,c,h2,by rw[<-hs];exact h3⟩⟩
theorem LG.lens {T:Nat}(h:LG w B Z V D c K T):(∃a k,w.cell? (O Z 1)=some (.slice a D.ns.length k))/\(∃a k,w.cell? (O Z 3)=some (.slice a D.us.length k))/\(∃a k,w.cell? (O Z 5)=some (.slice a D.rs.length k)):=by
 have q1:ak w Z 1 V.n:=Z0 h.lw.Zl 1 _ rfl;have q2:ak w Z 3 V.u:=Z0 h.lw.Zl 3 _ rfl;have q3:ak w Z 5 V.r:=Z0 h.lw.Zl 5 _ rfl;obtain⟨a1,k1,e1⟩:=Wt (h.lw.own 1 J);obtain⟨a2,k2,e2⟩:=Wt (h.lw.own 3 J);obtain⟨a3,k3,e3⟩:=Wt (h.lw.own 5 J);exact⟨⟨a1,k1,q1.trans (iJ some e1)⟩,⟨a2,k2,q2.trans (iJ some e2)⟩,⟨a3,k3,q3.trans (iJ some e3)⟩⟩
def O3 (w:A)(B Z:Nat)(V:LV)(D:LD)(c:Nat)(K:VX->Prop)(T n:Nat)(vi:aF)(wr:A):Prop:=
 ∃i:Nat,i<=n/\vi=Y i/\LG wr B Z V D c K T/\aB w wr
def jY{P:Prop}(h:P:=by
 go_wp2;go_quiet (fail);go_wp2;go_roundw
 case rel=>exact⟨j+1,J,pQ,HG.out.grown (XN _ _ _),Zm.out.trans (XN _ _ _)⟩
 case measure=>simp[intOf];omega):P:=h
def oF{P:Prop}(h:P:=by
 go_wp2;go_roundw
 case rel=>exact⟨i+1,J,pQ,HG.out,Zm.out⟩
 case measure=>simp[intOf];omega):P:=h
def kr{P:Prop}(h:P:=by
 obtain rfl:j=x.len:=J;have HG:=Z8 hG;have Zm:=Z8 ZX;clear hG ZX m5;exact oF):P:=h
def oW{P:Prop}(h:P:=by
 have HG:=Z8 hG;have Zm:=Z8 ZX;clear hG ZX m5;exact jY):P:=h
theorem ajt {T:Nat}(h:LG w B Z V D c K T)(hT:T<=2000000):aq 34 #[ai Z] w λe w'=>e=.returned (.bool true)/\LG w' B Z V D c K T/\aB w w':=by
 have b1:D.ns.length<=200000*T+20:=h.bd 1 J;have b3:D.us.length<=200000*T+20:=h.bd 3 J;have b5:D.rs.length<=200000*T+20:=h.bd 5 J;have HS:=Z8 (⟨0,J,rfl,h,WW w none⟩:O3 w B Z V D c K T D.ns.length (Y 0) w);clear h;go_enter func34,ntmps34;go_wp2
 go_loopw [3] (λvi wr=>O3 w B Z V D c K T D.ns.length vi wr) (λvi _=>D.ns.length-(intOf vi).toNat)
 case atStart=>exact HS.out
 case round=>
  clear HS;obtain⟨i,hi,rfl,hG,ZX⟩:=hrel;obtain⟨⟨a1,k1,q1⟩,_,_⟩:=hG.lens;by_cases ZR:i<D.ns.length
  ·have X8:(i:Int)<D.ns.length:=J;obtain⟨x,hx⟩:∃x,D.ns[i]?=some x:=⟨D.ns[i],by simp[ZR]⟩;obtain⟨gn,cn,gk,ck,s,m1,m2,m3,m4,hl,m5⟩:=hG.names hx;have HS:=Z8 (⟨0,J,rfl,hG,ZX⟩:O3 w B Z V D c K T x.len (Y 0) wr);clear hG ZX m1 m2 m3 m4 m5;go_wp2
   go_loopw [4] (λvi wr=>O3 w B Z V D c K T x.len vi wr) (λvi _=>x.len-(intOf vi).toNat)
   case atStart=>exact HS.out
   case round=>
    clear HS q1;obtain⟨j,hj,rfl,hG,ZX⟩:=hrel;obtain⟨gn,cn,gk,ck,s,m1,m2,m3,m4,hl,m5⟩:=hG.names hx;by_cases YK:j<x.len
    ·have bJ:(j:Int)<x.len:=J;have aK:(0:Int)<=i:=J;have FV:(0:Int)<=j:=J;have m6:=m5 j YK;exact oW
    ·exact kr
  ·obtain rfl:i=D.ns.length:=J;have HS:=Z8 (⟨0,J,rfl,hG,ZX⟩:O3 w B Z V D c K T D.us.length (Y 0) wr);clear hG ZX;go_wp2
   go_loopw [5] (λvi wr=>O3 w B Z V D c K T D.us.length vi wr) (λvi _=>D.us.length-(intOf vi).toNat)
   case atStart=>exact HS.out
   case round=>
    clear HS;obtain⟨i,hi,rfl,hG,ZX⟩:=hrel;obtain⟨_,⟨a1,k1,q1⟩,_⟩:=hG.lens;by_cases ZR:i<D.us.length
    ·have X8:(i:Int)<D.us.length:=J;obtain⟨x,hx⟩:∃x,D.us[i]?=some x:=⟨D.us[i],by simp[ZR]⟩;obtain⟨gn,cn,gk,ck,s,m1,m2,m3,m4,hl,m5⟩:=hG.Xb hx;have HS:=Z8 (⟨0,J,rfl,hG,ZX⟩:O3 w B Z V D c K T x.len (Y 0) wr);clear hG ZX m1 m2 m3 m4 m5;go_wp2
     go_loopw [6] (λvi wr=>O3 w B Z V D c K T x.len vi wr) (λvi _=>x.len-(intOf vi).toNat)
     case atStart=>exact HS.out
     case round=>
      clear HS q1;obtain⟨j,hj,rfl,hG,ZX⟩:=hrel;obtain⟨gn,cn,gk,ck,s,m1,m2,m3,m4,hl,m5⟩:=hG.Xb hx;by_cases YK:j<x.len
      ·have bJ:(j:Int)<x.len:=J;have aK:(0:Int)<=i:=J;have FV:(0:Int)<=j:=J;have m6:=m5 j YK;have av:(s != s)=false:=pG;exact oW
      ·exact kr
    ·obtain rfl:i=D.us.length:=J;have HS:=Z8 (⟨0,J,rfl,hG,ZX⟩:O3 w B Z V D c K T D.rs.length (Y 0) wr);clear hG ZX;go_wp2
     go_loopw [7] (λvi wr=>O3 w B Z V D c K T D.rs.length vi wr) (λvi _=>D.rs.length-(intOf vi).toNat)
     case atStart=>exact HS.out
     case round=>
      clear HS;obtain⟨i,hi,rfl,hG,ZX⟩:=hrel;obtain⟨_,_,⟨a1,k1,q1⟩⟩:=hG.lens;by_cases ZR:i<D.rs.length
      ·have X8:(i:Int)<D.rs.length:=J;obtain⟨x,hx⟩:∃x,D.rs[i]?=some x:=⟨D.rs[i],by simp[ZR]⟩;obtain⟨gn,cn,gk,ck,s,m1,⟨ra,rk,m2,m8⟩,m3,m4,hl,m5⟩:=hG.rows hx;have HS:=Z8 (⟨0,J,rfl,hG,ZX⟩:O3 w B Z V D c K T x.len (Y 0) wr);clear hG ZX m1 m2 m3 m4 m5 m8;go_wp2
       go_loopw [8] (λvi wr=>O3 w B Z V D c K T x.len vi wr) (λvi _=>x.len-(intOf vi).toNat)
       case atStart=>exact HS.out
       case round=>
        clear HS q1;obtain⟨j,hj,rfl,hG,ZX⟩:=hrel;obtain⟨gn,cn,gk,ck,s,m1,⟨ra,rk,m2,m8⟩,m3,m4,hl,m5⟩:=hG.rows hx;by_cases YK:j<x.len
        ·have bJ:(j:Int)<x.len:=J;have aK:(0:Int)<=i:=J;have FV:(0:Int)<=j:=J;obtain⟨b,o,c',m6,m7⟩:=m5 j YK;obtain rfl:=m8 J;have av:(s != s)=false:=pG;have aW:(0:Int)<((1:Nat):Int):=J;have HG:=Z8 hG;have Zm:=Z8 ZX;clear hG ZX m5 m8;exact jY
        ·obtain rfl:j=x.len:=J;have HG:=Z8 hG;have Zm:=Z8 ZX;clear hG ZX m5 m8;exact oF
      ·obtain rfl:i=D.rs.length:=J;have HG:=Z8 hG;have Zm:=Z8 ZX;clear hG ZX;go_wp2;go_ret;exact⟨rfl,HG.out,Zm.out⟩
end
end Go.Proofs.YthpcbbnabnlanaaGreatDoor
