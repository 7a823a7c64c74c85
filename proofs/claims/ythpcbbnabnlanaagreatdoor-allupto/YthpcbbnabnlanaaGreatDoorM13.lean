import Derived.Test.YthpcbbnabnlanaaGreatDoorM10
import Derived.Deep.LoopGhost
import Derived.Deep.RegionLaw
namespace Go.Proofs.YthpcbbnabnlanaaGreatDoor
set_option maxHeartbeats 2000000
set_option maxRecDepth 100000
open Go.Proofs.Tryz
open Go.RowKit
set_option linter.all false
section
attribute [local go_sem ↓] Go.wp_at_zero Go.wp_at_succ
theorem BM:(prog.info? 183).map (λi=>(i.zero,i.size,i.bytes))=some (some (.agg #[Y 0,Y 0]),2,16):=pH
def kq{P:Prop}(h:P:=by
 simp only[World.cell?,e1];rfl):P:=h
def lX{P:Prop}(h:P:=by
 simp only[World.frozen?,e1];rfl):P:=h
def mG{P:Prop}(h:P:=by
 show((w.heap.push _).push _)[w.heap.size]?=_;rw[cK,iQ pG,cK,iR rfl]):P:=h
def mM{P:Prop}(h:P:=by
 show((w.heap.push _).push _)[w.heap.size+1]?=_;rw[cK,iR pG]):P:=h
theorem afy (w:A)(a b c d e:aF)(t1 t2:TypeId):let w2:=((w.alloc (.cells #[a,b] t1)).alloc (.cells #[c,d,e] t2)).drew;w2.cell? (ah w.heap.size)=some a/\w2.cell? (O w.heap.size 1)=some b/\w2.frozen? (ah w.heap.size)=false/\w2.frozen? (O w.heap.size 1)=false/\w2.cell? (O (w.heap.size+1) 1)=some d/\w2.heap.size=w.heap.size+2:=by
 have e1:((w.alloc (.cells #[a,b] t1)).alloc (.cells #[c,d,e] t2)).drew.heap[w.heap.size]?=some (.cells #[a,b] t1):=by
  exact mG
 have e2:((w.alloc (.cells #[a,b] t1)).alloc (.cells #[c,d,e] t2)).drew.heap[w.heap.size+1]?=some (.cells #[c,d,e] t2):=by
  exact mM
 refine⟨?_,?_,?_,?_,?_,pG⟩
 ·exact kq
 ·exact kq
 ·exact lX
 ·exact lX
 ·simp only[World.cell?,e2];rfl
theorem afz {s:aA}(h:UU s):-9999999999<=YU s/\YU s<=9999999999:=by
 have:=CA s h s.size (iw _);unfold YU;split<;>omega
structure Rl (w:A)(br B:Nat)(vL:aF)(parts:List (Int×Int))(C:Nat->Option aF):Prop where
 c1:w.cell? (O br 1)=some vL
 f1:w.frozen? (O br 1)=false
 c2:∃u,w.cell? (O br 2)=some u
 f2:w.frozen? (O br 2)=false
 c3:∃u,w.cell? (O br 3)=some u
 f3:w.frozen? (O br 3)=false
 own:w.ownsRow B 183 2 vL parts.length (Un parts)
 lt:br<w.heap.size
 QR:br<B
 MN:∀q,q≠1->q≠2->q≠3->w.cell? (O br q)=C q
 fz:∀q,w.frozen? (O br q)=false
theorem Rl.grown {w w':A}{br B:Nat}{vL:aF}{parts:List (Int×Int)}{C:Nat->Option aF}{row:Option Nat}(h:Rl w br B vL parts C)(z:w.grownBy w' row)(hr:∀b,row=some b->b≠br/\vL.ownBlock≠some b):Rl w' br B vL parts C:=by
 have ZP:some br≠row:=λe=>(hr br e.symm).1 rfl
 obtain⟨u2,h2⟩:=h.c2;obtain⟨u3,h3⟩:=h.c3;exact⟨z.cell h.c1 ZP,(z.frozen_far (O br 1) h.lt ZP).trans h.f1,⟨u2,z.cell h2 ZP⟩,(z.frozen_far (O br 2) h.lt ZP).trans h.f2,⟨u3,z.cell h3 ZP⟩,(z.frozen_far (O br 3) h.lt ZP).trans h.f3,
  h.own.kept z (by
   cases hv:vL.ownBlock with
   |none=>exact .inl rfl
   |some g=>exact .inr (λe=>(hr g e.symm).2 hv)),dH h.lt z.size,h.QR,λq a b c=>(cJ (a:=(O br q)) (z.block br h.lt ZP)).trans (h.MN q a b c),λq=>(z.frozen_far (O br q) h.lt ZP).trans (h.fz q)⟩
theorem Rl.xr {w w9:A}{Z bm gt Z1 br:Nat}{U:List ZY}{vv vL:aF}{vars:List Y7}{j:Nat}{kd ln:Int}{parts:List (Int×Int)}{C:Nat->Option aF}(h:Rl w9 br w.heap.size vL parts C)(hf:NW Z bm gt vv br)(hb:Y9 [Z,br] w w9)(hc:XI w9 Z bm gt Z1 U vv vars j kd ln)(s:aA):XI (w9.setCell (O br 2) (.string s)) Z bm gt Z1 U vv vars j kd ln/\Rl (w9.setCell (O br 2) (.string s)) br w.heap.size vL parts C/\Y9 [Z,br] w (w9.setCell (O br 2) (.string s))/\(w9.setCell (O br 2) (.string s)).cell? (O br 2)=some (.string s):=by
 obtain⟨u2,h2⟩:=h.c2;obtain⟨u3,h3⟩:=h.c3;have e:=bo w9 (O br 2) (.string s) h2;exact⟨hc.GK hf _ _,⟨(YJ _ _ _ _ _ _ J).trans h.c1,(bR _ _ _ _).trans h.f1,⟨_,e⟩,(bR _ _ _ _).trans h.f2,⟨u3,(YJ _ _ _ _ _ _ J).trans h3⟩,(bR _ _ _ _).trans h.f3,
  h.own.kept (ZC w9 br 2 _) (by
   cases hv:vL.ownBlock with
   |none=>exact .inl rfl
   |some g=>exact .inr (λe=>by have:=(h.own.lt _ hv).1;have:=h.QR;cases e;omega)),by simpa[World.setCell]using h.lt,h.QR,λq a b c=>(YJ _ _ _ _ _ _ (.inr b)).trans (h.MN q a b c),λq=>(bR _ _ _ _).trans (h.fz q)⟩,hb.set (.inl pG) _ _,e⟩
theorem Rl.xq {w w9:A}{Z bm gt Z1 br:Nat}{U:List ZY}{vv vL:aF}{vars:List Y7}{j:Nat}{kd ln:Int}{parts:List (Int×Int)}{C:Nat->Option aF}{s:aA}(h:Rl w9 br w.heap.size vL parts C)(hf:NW Z bm gt vv br)(hb:Y9 [Z,br] w w9)(hc:XI w9 Z bm gt Z1 U vv vars j kd ln)(hs:w9.cell? (O br 2)=some (.string s))(n:Int):XI (w9.setCell (O br 3) (Y n)) Z bm gt Z1 U vv vars j kd ln/\Rl (w9.setCell (O br 3) (Y n)) br w.heap.size vL parts C/\Y9 [Z,br] w (w9.setCell (O br 3) (Y n))/\(w9.setCell (O br 3) (Y n)).cell? (O br 2)=some (.string s)/\(w9.setCell (O br 3) (Y n)).cell? (O br 3)=some (Y n):=by
 obtain⟨u2,h2⟩:=h.c2;obtain⟨u3,h3⟩:=h.c3;have e:=bo w9 (O br 3) (Y n) h3;exact⟨hc.GK hf _ _,⟨(YJ _ _ _ _ _ _ J).trans h.c1,(bR _ _ _ _).trans h.f1,⟨u2,(YJ _ _ _ _ _ _ J).trans h2⟩,(bR _ _ _ _).trans h.f2,⟨_,e⟩,(bR _ _ _ _).trans h.f3,
  h.own.kept (ZC w9 br 3 _) (by
   cases hv:vL.ownBlock with
   |none=>exact .inl rfl
   |some g=>exact .inr (λe=>by have:=(h.own.lt _ hv).1;have:=h.QR;cases e;omega)),by simpa[World.setCell]using h.lt,h.QR,λq a b c=>(YJ _ _ _ _ _ _ (.inr c)).trans (h.MN q a b c),λq=>(bR _ _ _ _).trans (h.fz q)⟩,hb.set (.inl pG) _ _,(YJ _ _ _ _ _ _ J).trans hs,e⟩
structure SA (U:List ZY)(vars:List Y7)(Z bm gt Z1 br:Nat)(vv vL:aF)(done:List (Int×Int))(C:Nat->Option aF)(bp:Nat)(w:A)(anW:Int)(j:Nat)(kd ln:Int)(w4:A):Prop where
 ctx:XI w4 Z bm gt Z1 U vv vars j kd ln
 rl:Rl w4 br w.heap.size vL done C
 but:Y9 [Z,br] w w4
 p0:w4.cell? (ah bp)=some (Y anW)
 p1:∃u,w4.cell? (O bp 1)=some u
 ML:w4.frozen? (ah bp)=false
 Ph:w4.frozen? (O bp 1)=false
 lt:bp<w4.heap.size
 ge:w.heap.size<=bp
 YQ:NW Z bm gt vv bp
 ne:bp≠br
 Pu:vL.ownBlock≠some bp
 Ep:Z<w.heap.size
 Kf:NW Z bm gt vv br
section
variable {U:List ZY}{vars:List Y7}{Z bm gt Z1 br:Nat}{vv vL:aF}{done:List (Int×Int)}{C:Nat->Option aF}{bp:Nat}{w:A}{anW:Int}{j:Nat}{kd ln:Int}{w4 w5:A}
theorem SA.kept (h:SA U vars Z bm gt Z1 br vv vL done C bp w anW j kd ln w4)(z:w4.grownBy w5 (some Z)){j':Nat}{bU bV:Int}(hc:XI w5 Z bm gt Z1 U vv vars j' bU bV):SA U vars Z bm gt Z1 br vv vL done C bp w anW j' bU bV w5:=by
 have bM:some bp≠some Z:=by simpa using h.YQ.a
 obtain⟨u,hu⟩:=h.p1;exact⟨hc,h.rl.grown z (λb e=>by cases e;exact⟨λe=>h.Kf.a e.symm,λe=>by have:=(h.rl.own.lt _ e).1;have:=h.Ep;omega⟩),h.but.grown z (λk e=>by cases e;exact .inl pG),
  z.cell h.p0 bM,⟨u,z.cell hu bM⟩,(z.frozen_far (ah bp) h.lt bM).trans h.ML,(z.frozen_far (O bp 1) h.lt bM).trans h.Ph,dH h.lt z.size,h.ge,h.YQ,h.ne,h.Pu,h.Ep,h.Kf⟩
theorem SA.Wv (h:SA U vars Z bm gt Z1 br vv vL done C bp w anW j kd ln w4)(j':Nat):SA U vars Z bm gt Z1 br vv vL done C bp w anW j' kd ln (w4.setCell (O Z 1) (Y j')):=
 h.kept (ZC _ _ _ _) (h.ctx.Wv j')
theorem SA.afA (h:SA U vars Z bm gt Z1 br vv vL done C bp w anW j kd ln w4)(F':Int):SA U vars Z bm gt Z1 br vv vL done C bp w F' j kd ln (w4.setCell (ah bp) (Y F')):=by
 have z:=ZC w4 bp 0 (Y F');obtain⟨u,hu⟩:=h.p1;exact⟨h.ctx.GK h.YQ _ _,h.rl.grown z (λb e=>by cases e;exact⟨h.ne,h.Pu⟩),h.but.grown z (λk e=>by cases e;exact .inr h.ge),
  bo _ _ _ h.p0,⟨u,(YJ _ _ _ _ _ _ J).trans hu⟩,(bR _ _ _ _).trans h.ML,(bR _ _ _ _).trans h.Ph,by simpa[World.setCell]using h.lt,h.ge,h.YQ,h.ne,h.Pu,h.Ep,h.Kf⟩
theorem SA.Lx (h:SA U vars Z bm gt Z1 br vv vL done C bp w anW j kd ln w4)(X:aF):SA U vars Z bm gt Z1 br vv vL done C bp w anW j kd ln (w4.setCell (O bp 1) X)/\(w4.setCell (O bp 1) X).cell? (O bp 1)=some X:=by
 have z:=ZC w4 bp 1 X;obtain⟨u,hu⟩:=h.p1;have e:=bo w4 (O bp 1) X hu;exact⟨⟨h.ctx.GK h.YQ _ _,h.rl.grown z (λb e=>by cases e;exact⟨h.ne,h.Pu⟩),h.but.grown z (λk e=>by cases e;exact .inr h.ge),
  (YJ _ _ _ _ _ _ J).trans h.p0,⟨X,e⟩,(bR _ _ _ _).trans h.ML,(bR _ _ _ _).trans h.Ph,by simpa[World.setCell]using h.lt,h.ge,h.YQ,h.ne,h.Pu,h.Ep,h.Kf⟩,e⟩
theorem SA.MT (h:SA U vars Z bm gt Z1 br vv vL done C bp w anW j kd ln w4)(o:Obj):(w4.alloc o).drew.ownsRow w.heap.size 183 2 vL done.length (Un done):=
 h.rl.own.kept ((di w4 o none).trans (ZG _ none)) (by cases vL.ownBlock with
  |none=>exact .inl rfl
  |some g=>exact .inr pG)
theorem SA.xp (h:SA U vars Z bm gt Z1 br vv vL done C bp w anW j kd ln w4){X:aF}(hX:ak w4 bp 1 X){o:Obj}{wA:A}(z:(w4.alloc o).drew.grownBy wA vL.ownBlock):wA.cell? (O br 1)=some vL/\wA.frozen? (O br 1)=false/\wA.cell? (ah bp)=some (Y anW)/\wA.cell? (O bp 1)=some X:=by
 have g0:w4.grownBy (w4.alloc o).drew none:=(di w4 o none).trans (ZG _ none);have n1:some br≠vL.ownBlock:=λe=>by have:=(h.rl.own.lt _ e.symm).1;have:=h.rl.QR;omega
 have n2:some bp≠vL.ownBlock:=λe=>h.Pu e.symm
 have RP:br<(w4.alloc o).drew.heap.size:=dH h.rl.lt g0.size;refine⟨z.cell (g0.cell h.rl.c1 pG) n1,?_,z.cell (g0.cell h.p0 pG) n2,z.cell (g0.cell hX pG) n2⟩;exact(z.frozen_far (O br 1) RP n1).trans ((g0.frozen_far (O br 1) h.rl.lt pG).trans h.rl.f1)
theorem SA.step (h:SA U vars Z bm gt Z1 br vv vL done C bp w anW j kd ln w4)(hF:∀b,w.heap.size<=b->NW Z bm gt vv b){X:Int}{o:Obj}{wA:A}{v':aF}(ZO:wA.ownsRow w.heap.size 183 2 v' (done.length+1) (Un done++[Y anW,Y X]))(z:(w4.alloc o).drew.grownBy wA vL.ownBlock):XI (wA.setCell (O br 1) v') Z bm gt Z1 U vv vars j kd ln/\Rl (wA.setCell (O br 1) v') br w.heap.size v' (done++[(anW,X)]) C/\Y9 [Z,br] w (wA.setCell (O br 1) v'):=by
 have g0:w4.grownBy (w4.alloc o).drew none:=(di w4 o none).trans (ZG _ none);have Yl:∀b,vL.ownBlock=some b->w.heap.size<=b:=λb e=>(h.rl.own.lt _ e).1
 have cA:XI wA Z bm gt Z1 U vv vars j kd ln:=((h.ctx.alloc o).drew).grown z (λb e=>hF b (Yl b e))
 have n1:some br≠vL.ownBlock:=λe=>by have:=Yl _ e.symm;have:=h.rl.QR;omega
 have rA:∀q u,w4.cell? (O br q)=some u->wA.cell? (O br q)=some u:=λq u hu=>z.cell (g0.cell hu pG) n1
 have RP:br<(w4.alloc o).drew.heap.size:=dH h.rl.lt g0.size;have fA:∀q,w4.frozen? (O br q)=false->wA.frozen? (O br q)=false:=λq hq=>(z.frozen_far (O br q) RP n1).trans ((g0.frozen_far (O br q) h.rl.lt pG).trans hq)
 obtain⟨u2,h2⟩:=h.rl.c2;obtain⟨u3,h3⟩:=h.rl.c3;refine⟨cA.GK h.Kf _ _,⟨bo _ _ _ (rA 1 _ h.rl.c1),(bR _ _ _ _).trans (fA 1 h.rl.f1),⟨u2,(YJ _ _ _ _ _ _ J).trans (rA 2 _ h2)⟩,(bR _ _ _ _).trans (fA 2 h.rl.f2),
  ⟨u3,(YJ _ _ _ _ _ _ J).trans (rA 3 _ h3)⟩,(bR _ _ _ _).trans (fA 3 h.rl.f3),?_,?_,h.rl.QR,λq a b c=>(YJ _ _ _ _ _ _ (.inr a)).trans ((cJ (a:=(O br q)) ((z.block br RP n1).trans (g0.block br h.rl.lt pG))).trans (h.rl.MN q a b c)),λq=>(bR _ _ _ _).trans (fA q (h.rl.fz q))⟩,?_⟩
 ·rw[xK,dA];exact ZO.kept (ZC wA br 1 v') (by
   cases hv:v'.ownBlock with
   |none=>exact .inl rfl
   |some g=>exact .inr (λe=>by have:=(ZO.lt _ hv).1;have:=h.rl.QR;cases e;omega))
 ·have:=z.size;simp[World.setCell];omega
 ·exact(((h.but.alloc o).drew).grown z (λk e=>.inr (Yl k e))).set (.inl pG) _ _
theorem Lv (a b:Int):∀u∈[Y a,Y b],u.oneCell'=true:=by
 intro u hu;simp at hu;rcases hu with rfl|rfl<;>rfl
end
def Eo (U:List ZY)(vars:List Y7)(Z bm gt Z1 br:Nat)(vv:aF)(C:Nat->Option aF)(q:Nat)(ST:Zv)(aN:List (Int×Int))(w:A)(n:Nat)(vf vk:aF)(wr:A):Prop:=
 ∃(k i m:Nat) (t:Sl) (ts:List Sl) (done:List (Int×Int)) (kind line:Int) (vL:aF),n=ts.length+1/\vk=Y k/\vf=Y (Wd t.neg)/\k<=i+1/\done.length<=i/\
  XI wr Z bm gt Z1 U vv vars i kind line/\Pm U i t m/\LI U m ts q/\Hid (NV vars k (t::ts) (kind,line)=ST)/\Hid (done++(t::ts).map (SF vars)=aN)/\Rl wr br w.heap.size vL done C/\Y9 [Z,br] w wr
def jP{P:Prop}(h:P:=by
 rw[Tb]at Xu;clear b1 b2 b3 b4 Pg Q9 Lu Tb;go_wp2
 go_roundg (IK.length+1)
 case measure=>simp
 case rel=>exact Xu.out _ (by congr 2<;>go_num)):P:=h
def lL{P:Prop}(h:P:=by
 rcases ib (q+1) U.length with h|h
 ·exact h
 ·have h5:=SJ.2.2.2.1;rw[bN h]at h5;exact absurd h5 pG):P:=h
def mj{P:Prop}(h:P:=by
 rw[<-Sg.out,<-IJ];exact⟨rfl,II.out.2.2.1,II.out.1,_,II.out.2.1,II.out.2.2.2.1,II.out.2.2.2.2⟩):P:=h
def o7{P:Prop}(h:P:=by
 have YB:sg.s.toList=[43]:=by rw[b2,Tb];rfl
 exact jP):P:=h
def o9{P:Prop}(h:P:=by
 have YB:sg.s.toList=[45]:=by rw[b2,Tb];rfl
 exact jP):P:=h
theorem xo (U:List ZY)(vars:List Y7)(Z bm gt Z1 br:Nat)(vv:aF)(i m q:Nat)(t:Sl)(ts:List Sl)(rel num:ZY)(kind line:Int)(w:A)(h:XI w Z bm gt Z1 U vv vars i kind line)(dh:NW Z bm gt vv br)(ht:Pm U i t m)(bW:t.neg=false)(Xm:LI U m ts q)(hrel:U[q]?=some rel)(aM:rel.s.toList≠[43])(WI:rel.s.toList≠[45])(aa:U[q+1]?=some num)(bj:UU num.s)(C:Nat->Option aF)(hR:Rl w br w.heap.size (af) [] C):aq 101 #[ai Z,ai br] w λe w'=>e=.returned (.tuple #[])/\Y9 [Z,br] w w'/\
   XI w' Z bm gt Z1 U vv vars (q+2) (ZE (Yg (YU num.s) 1000000) 5 num.line (NV vars 1 (t::ts) (kind,line))).1 (ZE (Yg (YU num.s) 1000000) 5 num.line (NV vars 1 (t::ts) (kind,line))).2/\
   ∃vL,Rl w' br w.heap.size vL ((t::ts).map (SF vars)) C/\w'.cell? (O br 2)=some (.string rel.s)/\w'.cell? (O br 3)=some (Y (YU num.s)):=by
 obtain⟨i0,Y8,Ze,Zq,Zn⟩:=iE BM;have dC:Hid (Z<w.heap.size):=h.wk.lt;have dn:Hid (∀b,w.heap.size<=b->NW Z bm gt vv b):=λb hb=>h.LJ hb
 have HX:Hid (U[q]?=some rel/\rel.s.toList≠[43]/\rel.s.toList≠[45]/\U[q+1]?=some num/\UU num.s):=⟨hrel,aM,WI,aa,bj⟩;have HS:Hid (Eo U vars Z bm gt Z1 br vv C q (NV vars 1 (t::ts) (kind,line)) ((t::ts).map (SF vars)) w (ts.length+1) (Y 1) (Y 1) w):=
  ⟨1,i,m,t,ts,[],kind,line,_,rfl,rfl,by rw[bW];rfl,J,pG,h,ht,Xm,rfl,rfl,hR,Y9.refl _ _⟩
 generalize Sg:NV vars 1 (t::ts) (kind,line)=ST at *;generalize aU:(t::ts).map (SF vars)=aN at *;generalize hN:ts.length+1=N at *;clear Sg aU hN hrel aM WI aa bj h ht bW Xm hR t ts i m kind line;go_enter func101,ntmps101;go_wp2
 go_loopg [4,5] N (λn vf vk wr=>Eo U vars Z bm gt Z1 br vv C q ST aN w n vf vk wr)
 case atStart=>exact HS
 case round=>
  clear HS;have cP:Hid (Z<w.heap.size):=dC;obtain⟨k,i,m,t,ts,done,kind,line,vL,rfl,rfl,rfl,cI,a8,hC,cj,dp,Sg,aU,RX,bX⟩:=hrel;have HC:=Z8 hC;have bt:i<U.length:=by
   rcases ib i U.length with h|h
   ·exact h
   ·unfold Pm at cj;rw[bN h]at cj;split at cj<;>exact absurd cj.1 pG
  have bJ:=hC.hn;have HR:=Z8 RX;have HB:=Z8 bX;have HA:=Z8 cj;have cL:=Z8 dp;clear hC cj dp RX bX;go_wp2_with fail;refine(Re HC.out bt (decide (8<(k:Int))) 6).mono ?_;rintro e w1 ⟨rfl,ZZ,Y1⟩;have aZ:=Z8 Y1;have We:=Z8 ZZ;have XH:Hid True:=trivial;obtain⟨c0,c1,_,_,_,_,_,_⟩:=Y1.wk;obtain⟨m0,row,_,_⟩:=Y1.tk;obtain⟨tk,aC⟩:∃tk,U[i]?=some tk:=⟨U[i],by simp[bt]⟩;have aJ:=Kt U i tk aC;have bI:=row _ _ aJ.1;have T8:=row _ _ aJ.2.1;have V7:=row _ _ aJ.2.2;have ar:(w1.heap.size:Nat)≠Z/\w1.heap.size≠bm/\w1.heap.size≠gt:=by
   have:=Y1.LJ (iw _);exact⟨this.a,this.b,this.c⟩
  have cO:=Y1.wk.lt;have YK:=Y1.tk.Ya;have X8:=Y1.tk.VG;have dD:(i:Int)<U.length:=J;have h0:(0:Int)<=(i:Int):=J;have cQ:=Z8 (Y1.LJ (iw _));clear ZZ Y1 row aJ;go_wp2;go_region_held3 (λw'=>w'.cell? (ah Z)=some (ai bm)/\w'.cell? (O Z 1)=some (Y i)/\w'.cell? (ah bm)=some (aj gt U.length Z1)/\w'.cell? (O gt (i*3))=some (.string tk.s)/\w'.cell? (O gt (i*3+1))=some (.int .u8 tk.kind)/\w'.cell? (O gt (i*3+2))=some (Y tk.line)) (go_keep) (fail)
  have TN:=afy w1 (Y (Wd t.neg)) (Y 0) (.string tk.s) (.int .u8 tk.kind) (Y tk.line) 183 170;have aX:Hid (XI (((w1.alloc (.cells #[Y (Wd t.neg),Y 0] 183)).alloc (.cells #[.string tk.s,.int .u8 tk.kind,Y tk.line] 170)).drew) Z bm gt Z1 U vv vars i (Vc (decide (8<(k:Int))) 6 kind) (U4 (decide (8<(k:Int))) kind (Wi U i) line)):=((aZ.out.alloc _).alloc _).drew;have U3:Hid (wr.grownBy (((w1.alloc (.cells #[Y (Wd t.neg),Y 0] 183)).alloc (.cells #[.string tk.s,.int .u8 tk.kind,Y tk.line] 170)).drew) (some Z)):=((We.out.trans (di _ _ _)).trans (di _ _ _)).trans (ZG _ _);have dJ:=We.out.size;clear c0 c1 m0 bI T8 V7 cO YK X8 aZ We;generalize ((w1.alloc (.cells #[Y (Wd t.neg),Y 0] 183)).alloc (.cells #[.string tk.s,.int .u8 tk.kind,Y tk.line] 170)).drew=w2 at TN aX U3⊢;obtain⟨bp,b6⟩:∃bp,w1.heap.size=bp:=⟨_,rfl⟩;rw[b6]at TN ar cQ⊢;obtain⟨p0,p1,ML,Ph,t1,OC⟩:=TN;have Xz:Hid (Y' U i=tk.s/\Wi U i=tk.line):=by unfold Hid Y' Wi;rw[aC];exact⟨rfl,rfl⟩
  have bO:Z<w.heap.size:=cP.out;have dr:SA U vars Z bm gt Z1 br vv vL done C bp w (Wd t.neg) i (Vc (decide (8<(k:Int))) 6 kind) (U4 (decide (8<(k:Int))) kind (Wi U i) line) w2:=
   ⟨aX.out,HR.out.grown U3.out (λb e=>by cases e;exact⟨λe=>dh.a e.symm,λe=>by have:=(HR.out.own.lt _ e).1;omega⟩),HB.out.grown U3.out (λk e=>by cases e;exact .inl pG),p0,⟨_,p1⟩,ML,Ph,J,
    by have:=HB.out.size;omega,cQ.out,by have:=HR.out.lt;omega,λe=>by have:=(HR.out.own.lt _ e).2;omega,bO,dh⟩
  have M2:=Z8 dr;clear ar cQ dr p0 p1 ML Ph OC aX U3 HR HB
  cases ck:t.Ex with
  |some f=>
   have hA:=HA.out;unfold Pm at hA;rw[ck]at hA;simp only at hA;obtain⟨a1,a2,a3,a4,a5⟩:=hA;obtain rfl:tk=f:=by rw[aC]at a1;exact fO a1
   have cm:(tk.kind==105)=true:=by simpa using a2
   have cn:=afz a3;have cd:=IZ M2.out.ctx bt 100 J J (by rw[Xz.out.1];exact a3);rw[Xz.out.1,Xz.out.2]at cd;have cx:=Z8 cd;clear cd;go_wp2_with fail;refine(Xd cx).mono ?_;rintro e w3 ⟨rfl,ZJ,aL⟩;have cp:=M2.out.kept ZJ aL;obtain⟨c0,c1,c2,c3,f1,f2,f3,_⟩:=aL.wk;have p0:=cp.p0;have ML:=cp.ML;have aV:=λW o u b' o' h=>YJ W bp o u b' o' h
   obtain⟨nv,bH⟩:∃nv,YU tk.s=nv:=⟨_,rfl⟩;rw[bH]at cn⊢;obtain⟨Kh,Pn⟩:=cn;have hmul:-9999999999<=Wd t.neg*nv/\Wd t.neg*nv<=9999999999:=by
    unfold Wd;split<;>omega
   obtain⟨bu,dK⟩:=hmul;have MR:=Z8 bH;have YS:(0:Int)<=(i:Int)+1:=J;have bM:bp≠Z:=cp.YQ.a;have M4:=Z8 ((cp.afA (Wd t.neg*nv)).Wv (i+2));have M3:=Z8 cp;have dL:=();clear bH ZJ aL cp M2 t1;go_wp2_with fail;rw[show((i:Int)+1+1)=((i+2:Nat):Int) by omega];generalize (w3.setCell (ah bp) (Y (Wd t.neg*nv))).setCell (O Z 1) (Y ((i+2:Nat):Int))=w4 at M4⊢;clear c0 c1 c2 c3 f1 f2 f3 p0 ML M3;obtain rfl:m=i+2+1:=J;have bf:Hid (Y' U (i+2)=t.name.s/\Wi U (i+2)=t.name.line):=sB;have Ke:i+2<U.length:=by
    rcases ib (i+2) U.length with h|h
    ·exact h
    ·rw[bN h]at a4;exact absurd a4 pG
   have bz:=IY M4.out.ctx Ke;rw[bf.out.1,bf.out.2]at bz;have ct:=Z8 bz;clear bz;refine(Xd ct).mono ?_;rintro e w5 ⟨rfl,Yo,ba⟩;have aK:=M4.out.kept Yo ba;obtain⟨u5,p1⟩:=aK.p1;have Ph:=aK.Ph;obtain⟨X,hX⟩:∃X,Y6 vars t.name.s=X:=⟨_,rfl⟩;rw[hX];have cR:=Z8 hX;have M6:=Z8 (aK.Lx (Y X));clear hX Yo ba aK M4 ct;go_wp2;generalize (w5.setCell (O bp 1) (Y X))=w6 at M6⊢;clear p1 Ph;have r1:=M6.out.1.rl.c1;have a6:=M6.out.1.rl.f1;have p0:=M6.out.1.p0;have p1:=M6.out.2;have aS:=M6.out.1.lt;have aW:=M6.out.1.rl.lt;have cu:=M6.out.1.MT (.cells #[Y (Wd t.neg*nv),Y X] 183);have cv:∀jj u,[Y (Wd t.neg*nv),Y X][jj]?=some u->(w6.alloc (.cells #[Y (Wd t.neg*nv),Y X] 183)).drew.cell? (((ah w6.heap.size):Addr).add jj)=some u:=
    World.news_of_block (cs:=#[Y (Wd t.neg*nv),Y X]) (t:=183) (fr:=(0,0)) (gp w6 _)
   have WK:Hid (∀wA,(w6.alloc (.cells #[Y (Wd t.neg*nv),Y X] 183)).drew.grownBy wA vL.ownBlock->ak wA br 1 vL/\wA.frozen? (O br 1)=false/\ak wA bp 0 (Y (Wd t.neg*nv))/\ak wA bp 1 (Y X)):=
    λwA z=>M6.out.1.xp M6.out.2 z
   have YD:=Z8 cu;have YF:=Z8 cv;have dt:w.heap.size<=w6.heap.size+1:=by have:=M6.out.1.but.size;omega
   have bP:done.length<=2000:=J;clear cu cv;have cS:=λW o u b' o' h=>YJ W br o u b' o' h
   have cT:bp≠br:=M6.out.1.ne;go_region_law ((refine step_append_lies _ p8 _ _ 174 p8 w.heap.size 183 i0 (.agg #[Y 0,Y 0]) 2 16 underlying174 Y8 Ze Zq Zn rfl pF vL done.length (Un done) p8 YD.out (ah w6.heap.size) 1 1 [Y (Wd t.neg*nv),Y X] p8 rfl YF.out (Lv _ _) pF pK J pI _ rfl ?_;intro gA XC wA YT Zo XL Xq;obtain⟨k1,k2,k3,k4⟩:=WK.out wA Zo))
   all_goals
    have ax:=Z8 (M6.out.1.step dn.out YT Zo);have au:=Z8 M6.out.1.Kf;clear r1 a6 p0 p1 aS aW WK YD YF YT Zo XL Xq k1 k2 k3 k4 cS cT M6;go_wp2_with fail;generalize (wA.setCell (O br 1) (aj gA (done.length+1) XC))=w7 at ax⊢;refine(SG ax.out.1 J).mono ?_;rintro e w8 ⟨rfl,bk,bB⟩;have dE:=cP.out;have cw:=ax.out.2.1.grown bk (λb e=>by cases e;exact⟨λe=>au.out.a e.symm,λe=>by have:=(ax.out.2.1.own.lt _ e).1;omega⟩)
    have bS:=ax.out.2.2.grown bk (λb e=>by cases e;exact .inl pG)
    have cy:XI w8 Z bm gt Z1 U vv vars (i+2+1) (LH vars k t (kind,line)).1 (LH vars k t (kind,line)).2:=by
     unfold LH ZE;rw[ck];exact bB
    have cz:Hid (SF vars t=(Wd t.neg*nv,X)):=by unfold Hid SF;rw[ck,cR.out];show(Wd t.neg*YU tk.s,X)=_;rw[MR.out]
    have Pg:=Z8 cy;have Q9:=Z8 cw;have Lu:=Z8 bS;clear ax bk bB cy cw bS
    cases ts with
    |nil=>
     have hq:i+2+1=q:=cL.out;rw[hq]at Pg⊢;have SJ:=HX.out;have aT:Hid (Y' U q=rel.s/\Wi U q=rel.line):=se;have b7:Hid (Y' U (q+1)=num.s/\Wi U (q+1)=num.line):=rL;have cB:q+1<U.length:=by
      exact lL
     rw[aT.out.1];have bT:(rel.s.toList==[43])=false:=by simpa using SJ.2.1
     have dF:(rel.s.toList==[45])=false:=by simpa using SJ.2.2.1
     have ar:=xL Pg.out J;rw[aT.out.1]at ar;have MK:=Z8 ar;clear ar SJ;go_wp2_with fail;refine(Xd MK).mono ?_;rintro e w9 ⟨rfl,S8,b5⟩;have bc:=Q9.out.grown S8 (λb e=>by cases e;exact⟨λe=>au.out.a e.symm,λe=>by have:=(Q9.out.own.lt _ e).1;omega⟩)
     obtain⟨u2,r2⟩:=bc.c2;have cU:=bc.f2;have H9:=Z8 (bc.xr au.out (Lu.out.grown S8 (λb e=>by cases e;exact .inl pG)) b5 rel.s)
     clear S8 b5 bc MK Pg Q9 Lu;go_wp2_with fail;generalize (w9.setCell (O br 2) (.string rel.s))=wB at H9⊢;have b8:=IZ H9.out.1 cB 1000000 J J (by rw[b7.out.1];exact HX.out.2.2.2.2);rw[b7.out.1,b7.out.2]at b8;refine b8.mono ?_;rintro e b9 ⟨rfl,aP,cC⟩;have bM:some br≠some Z:=by simpa using au.out.a
     have bl:=H9.out.2.1.grown aP (λb e=>by cases e;exact⟨λe=>au.out.a e.symm,λe=>by have:=(H9.out.2.1.own.lt _ e).1;omega⟩)
     obtain⟨u3,r3⟩:=bl.c3;have dG:=bl.f3;have II:=Z8 (bl.xq au.out (H9.out.2.2.1.grown aP (λb e=>by cases e;exact .inl pG)) cC (aP.cell H9.out.2.2.2 bM) (YU num.s))
     clear aP cC bl b8 H9 r2 cU;go_wp2;go_end0;have IJ:done++[(Wd t.neg*nv,X)]=aN:=by rw[<-aU.out,<-cz.out];rfl
     exact mj
    |cons t2 IK=>
     obtain⟨sg,m2,b1,b2,b3,b4⟩:=cL.out;have aT:Hid (Y' U (i+2+1)=sg.s):=by unfold Hid Y';rw[b1];rfl
     rw[aT.out];obtain⟨c0,c1,c2,c3,f1,f2,f3,_⟩:=Pg.out.wk;have Xu:Hid (∀W,W=w8.setCell (O Z 1) (Y ((i+2+1+1:Nat):Int))->Eo U vars Z bm gt Z1 br vv C q ST aN w (IK.length+1) (Y (Wd t2.neg)) (Y ((k+1:Nat):Int)) W):=by
      rintro W rfl;exact⟨k+1,i+2+1+1,m2,t2,IK,done++[(Wd t.neg*nv,X)],_,_,_,rfl,rfl,rfl,J,by simp;omega,Pg.out.Wv _,b3,b4,Sg.out,by unfold Hid;rw[<-aU.out,<-cz.out];simp,Q9.out.grown (ZC _ _ _ _) (λb e=>by cases e;exact⟨λe=>au.out.a e.symm,λe=>by have:=(Q9.out.own.lt _ e).1;omega⟩),
       Lu.out.set (.inl pG) _ _⟩
     cases Tb:t2.neg with
     |false=>
      exact o7
     |true=>
      exact o9
  |none=>
   have hA:=HA.out;unfold Pm at hA;rw[ck]at hA;simp only at hA;obtain⟨a4,a2,a5⟩:=hA;obtain rfl:tk=t.name:=by rw[aC]at a4;exact fO a4
   have cm:(t.name.kind==105)=false:=by simpa using a2
   rw[Xz.out.2]at M2;have M4:=M2;clear M2;go_wp2_with fail;obtain rfl:m=i+1:=a5;generalize w2=w4 at M4⊢;have bf:Hid (Y' U (i)=t.name.s/\Wi U (i)=t.name.line):=sB;have Ke:i<U.length:=by
    rcases ib (i) U.length with h|h
    ·exact h
    ·rw[bN h]at a4;exact absurd a4 pG
   have bz:=IY M4.out.ctx Ke;rw[bf.out.1,bf.out.2]at bz;have ct:=Z8 bz;clear bz;refine(Xd ct).mono ?_;rintro e w5 ⟨rfl,Yo,ba⟩;have aK:=M4.out.kept Yo ba;obtain⟨u5,p1⟩:=aK.p1;have Ph:=aK.Ph;obtain⟨X,hX⟩:∃X,Y6 vars t.name.s=X:=⟨_,rfl⟩;rw[hX];have cR:=Z8 hX;have M6:=Z8 (aK.Lx (Y X));clear hX Yo ba aK M4 ct;go_wp2;generalize (w5.setCell (O bp 1) (Y X))=w6 at M6⊢;clear p1 Ph;have r1:=M6.out.1.rl.c1;have a6:=M6.out.1.rl.f1;have p0:=M6.out.1.p0;have p1:=M6.out.2;have aS:=M6.out.1.lt;have aW:=M6.out.1.rl.lt;have cu:=M6.out.1.MT (.cells #[Y (Wd t.neg),Y X] 183);have cv:∀jj u,[Y (Wd t.neg),Y X][jj]?=some u->(w6.alloc (.cells #[Y (Wd t.neg),Y X] 183)).drew.cell? (((ah w6.heap.size):Addr).add jj)=some u:=
    World.news_of_block (cs:=#[Y (Wd t.neg),Y X]) (t:=183) (fr:=(0,0)) (gp w6 _)
   have WK:Hid (∀wA,(w6.alloc (.cells #[Y (Wd t.neg),Y X] 183)).drew.grownBy wA vL.ownBlock->ak wA br 1 vL/\wA.frozen? (O br 1)=false/\ak wA bp 0 (Y (Wd t.neg))/\ak wA bp 1 (Y X)):=
    λwA z=>M6.out.1.xp M6.out.2 z
   have YD:=Z8 cu;have YF:=Z8 cv;have dt:w.heap.size<=w6.heap.size+1:=by have:=M6.out.1.but.size;omega
   have bP:done.length<=2000:=J;clear cu cv;have cS:=λW o u b' o' h=>YJ W br o u b' o' h
   have cT:bp≠br:=M6.out.1.ne;go_region_law ((refine step_append_lies _ p8 _ _ 174 p8 w.heap.size 183 i0 (.agg #[Y 0,Y 0]) 2 16 underlying174 Y8 Ze Zq Zn rfl pF vL done.length (Un done) p8 YD.out (ah w6.heap.size) 1 1 [Y (Wd t.neg),Y X] p8 rfl YF.out (Lv _ _) pF pK J pI _ rfl ?_;intro gA XC wA YT Zo XL Xq;obtain⟨k1,k2,k3,k4⟩:=WK.out wA Zo))
   all_goals
    have ax:=Z8 (M6.out.1.step dn.out YT Zo);have au:=Z8 M6.out.1.Kf;clear r1 a6 p0 p1 aS aW WK YD YF YT Zo XL Xq k1 k2 k3 k4 cS cT M6;go_wp2_with fail;generalize (wA.setCell (O br 1) (aj gA (done.length+1) XC))=w7 at ax⊢;refine(SG ax.out.1 J).mono ?_;rintro e w8 ⟨rfl,bk,bB⟩;have dE:=cP.out;have cw:=ax.out.2.1.grown bk (λb e=>by cases e;exact⟨λe=>au.out.a e.symm,λe=>by have:=(ax.out.2.1.own.lt _ e).1;omega⟩)
    have bS:=ax.out.2.2.grown bk (λb e=>by cases e;exact .inl pG)
    have cy:XI w8 Z bm gt Z1 U vv vars (i+1) (LH vars k t (kind,line)).1 (LH vars k t (kind,line)).2:=by
     unfold LH ZE;rw[ck];exact bB
    have cz:Hid (SF vars t=(Wd t.neg,X)):=by unfold Hid SF;rw[ck,cR.out];skip
    have Pg:=Z8 cy;have Q9:=Z8 cw;have Lu:=Z8 bS;clear ax bk bB cy cw bS
    cases ts with
    |nil=>
     have hq:i+1=q:=cL.out;rw[hq]at Pg⊢;have SJ:=HX.out;have aT:Hid (Y' U q=rel.s/\Wi U q=rel.line):=se;have b7:Hid (Y' U (q+1)=num.s/\Wi U (q+1)=num.line):=rL;have cB:q+1<U.length:=by
      exact lL
     rw[aT.out.1];have bT:(rel.s.toList==[43])=false:=by simpa using SJ.2.1
     have dF:(rel.s.toList==[45])=false:=by simpa using SJ.2.2.1
     have ar:=xL Pg.out J;rw[aT.out.1]at ar;have MK:=Z8 ar;clear ar SJ;go_wp2_with fail;refine(Xd MK).mono ?_;rintro e w9 ⟨rfl,S8,b5⟩;have bc:=Q9.out.grown S8 (λb e=>by cases e;exact⟨λe=>au.out.a e.symm,λe=>by have:=(Q9.out.own.lt _ e).1;omega⟩)
     obtain⟨u2,r2⟩:=bc.c2;have cU:=bc.f2;have H9:=Z8 (bc.xr au.out (Lu.out.grown S8 (λb e=>by cases e;exact .inl pG)) b5 rel.s)
     clear S8 b5 bc MK Pg Q9 Lu;go_wp2_with fail;generalize (w9.setCell (O br 2) (.string rel.s))=wB at H9⊢;have b8:=IZ H9.out.1 cB 1000000 J J (by rw[b7.out.1];exact HX.out.2.2.2.2);rw[b7.out.1,b7.out.2]at b8;refine b8.mono ?_;rintro e b9 ⟨rfl,aP,cC⟩;have bM:some br≠some Z:=by simpa using au.out.a
     have bl:=H9.out.2.1.grown aP (λb e=>by cases e;exact⟨λe=>au.out.a e.symm,λe=>by have:=(H9.out.2.1.own.lt _ e).1;omega⟩)
     obtain⟨u3,r3⟩:=bl.c3;have dG:=bl.f3;have II:=Z8 (bl.xq au.out (H9.out.2.2.1.grown aP (λb e=>by cases e;exact .inl pG)) cC (aP.cell H9.out.2.2.2 bM) (YU num.s))
     clear aP cC bl b8 H9 r2 cU;go_wp2;go_end0;have IJ:done++[(Wd t.neg,X)]=aN:=by rw[<-aU.out,<-cz.out];rfl
     exact mj
    |cons t2 IK=>
     obtain⟨sg,m2,b1,b2,b3,b4⟩:=cL.out;have aT:Hid (Y' U (i+1)=sg.s):=by unfold Hid Y';rw[b1];rfl
     rw[aT.out];obtain⟨c0,c1,c2,c3,f1,f2,f3,_⟩:=Pg.out.wk;have Xu:Hid (∀W,W=w8.setCell (O Z 1) (Y ((i+1+1:Nat):Int))->Eo U vars Z bm gt Z1 br vv C q ST aN w (IK.length+1) (Y (Wd t2.neg)) (Y ((k+1:Nat):Int)) W):=by
      rintro W rfl;exact⟨k+1,i+1+1,m2,t2,IK,done++[(Wd t.neg,X)],_,_,_,rfl,rfl,rfl,J,by simp;omega,Pg.out.Wv _,b3,b4,Sg.out,by unfold Hid;rw[<-aU.out,<-cz.out];simp,Q9.out.grown (ZC _ _ _ _) (λb e=>by cases e;exact⟨λe=>au.out.a e.symm,λe=>by have:=(Q9.out.own.lt _ e).1;omega⟩),
       Lu.out.set (.inl pG) _ _⟩
     cases Tb:t2.neg with
     |false=>
      exact o7
     |true=>
      exact o9
end
section
structure YZ where
 name:aA
 Xb:az
 v:aF
structure YL where
 sort:Int
 parts:List (Int×Int)
 pv:aF
 rel:aA
 n:Int
 v:Int
 w:Int
 x:Int
def P6 (l:List Y7):ay:=l.flatMap λx=>[.string x.name,Y x.low,Y x.high]
def Pf (l:List YZ):ay:=l.flatMap λx=>[.string x.name,x.v]
def NK (l:List YL):ay:=l.flatMap λr=>[.int .u8 r.sort,r.pv,.string r.rel,Y r.n,Y r.v,Y r.w,Y r.x]
theorem afB (l:List Y7)(x:Y7):P6 (l++[x])=P6 l++[.string x.name,Y x.low,Y x.high]:=by simp[P6]
theorem afC (l:List YZ)(x:YZ):Pf (l++[x])=Pf l++[.string x.name,x.v]:=by simp[Pf]
theorem afD (l:List YL)(r:YL):NK (l++[r])=NK l++[.int .u8 r.sort,r.pv,.string r.rel,Y r.n,Y r.v,Y r.w,Y r.x]:=by simp[NK]
theorem En (l:List Y7)(k:Nat)(x:Y7)(h:l[k]?=some x):(P6 l)[k*3]?=some (.string x.name)/\(P6 l)[k*3+1]?=some (Y x.low)/\(P6 l)[k*3+2]?=some (Y x.high):=by
 induction l generalizing k with
 |nil=>simp at h
 |cons a l ih=>
  cases k with
  |zero=>simp at h;subst h;simp[P6]
  |succ k=>
   have e:P6 (a::l)=[.string a.name,Y a.low,Y a.high]++P6 l:=rfl;have h3:=ih k pX;have e1:(k+1)*3=k*3+3:=J;rw[e,e1];refine⟨?_,?_,?_⟩
   ·exact mC
   ·rw[aO pG];have:=h3.2.1;simpa[show k*3+3+1-3=k*3+1 by omega]using this
   ·rw[aO pG];have:=h3.2.2;simpa[show k*3+3+2-3=k*3+2 by omega]using this
theorem xn (l:List YZ)(k:Nat)(x:YZ)(h:l[k]?=some x):(Pf l)[k*2]?=some (.string x.name)/\(Pf l)[k*2+1]?=some x.v:=by
 induction l generalizing k with
 |nil=>simp at h
 |cons a l ih=>
  cases k with
  |zero=>simp at h;subst h;simp[Pf]
  |succ k=>
   have e:Pf (a::l)=[.string a.name,a.v]++Pf l:=rfl;have h3:=ih k pX;have e1:(k+1)*2=k*2+2:=J;rw[e,e1];refine⟨?_,?_⟩
   ·exact mC
   ·rw[aO pG];have:=h3.2;simpa[show k*2+2+1-2=k*2+1 by omega]using this
def l8{P:Prop}(h:P:=by
 have P5:((ah g):Addr).add j=(O g j):=by unfold Addr.add;split<;>simp_all
 rw[<-P5];exact hc rfl j u hu):P:=h
theorem Lt {w:A}{base n size:Nat}{e:TypeId}{v:aF}{xs:ay}(h:w.ownsRow base e size v n xs):(n=0/\v=af)\/∃g cap,v=aj g n cap/\base<=g/\g<w.heap.size/\∀j u,xs[j]?=some u->w.cell? (O g j)=some u:=by
 have hc:=@dm w base e size v n xs h;have hl:=h.lt;rcases h.2 with⟨F,h2⟩|⟨g,cap,cur,rfl,h2,h3,h4,_⟩
 ·exact .inl ⟨h2,F⟩
 ·refine .inr ⟨g,cap,rfl,h2,(hl g rfl).2,λj u hu=> ?_⟩
  exact l8
theorem xk {w:A}{base:Nat}{v:aF}{vars:List Y7}(h:w.ownsRow base 119 3 v vars.length (P6 vars)):LM w v vars:=by
 rcases Lt h with⟨F,h2⟩|⟨g,cap,F,_,_,h2⟩
 ·exact .inl ⟨bA.1 F,h2⟩
 ·exact .inr ⟨g,cap,F,λk x hx=>⟨h2 _ _ (En vars k x hx).1,h2 _ _ (En vars k x hx).2.1,h2 _ _ (En vars k x hx).2.2⟩⟩
def NJ (l:List YZ):List aA:=l.map (·.name)
theorem xj {w:A}{base:Nat}{v:aF}{l:List YZ}(h:w.ownsRow base 178 2 v l.length (Pf l)):RQ w v 2 (NJ l):=by
 rcases Lt h with⟨F,h2⟩|⟨g,cap,F,_,_,h2⟩
 ·exact .inl ⟨by rw[bA.1 F];rfl,h2⟩
 ·refine .inr ⟨g,cap,by simpa[NJ]using F,λk a ha=> ?_⟩
  simp only[NJ,dR,bK]at ha;obtain⟨x,hx,rfl⟩:=ha;exact h2 _ _ (xn l k x hx).1
def NI (lists:List YZ)(s:aA):Int:=XO s (NJ lists) 0
structure Md (w:A)(Z bm gt Z1 B:Nat)(U:List ZY)(vv vl vr:aF)(vars:List Y7)(lists:List YZ)(rules:List YL)(i:Nat)(kind line:Int):Prop where
 wk:Wk w Z bm i kind line
 tk:Tk w bm gt Z1 U
 m1:w.cell? (O bm 1)=some vv
 m2:w.cell? (O bm 2)=some vl
 m3:w.cell? (O bm 3)=some vr
 f1:w.frozen? (O bm 1)=false
 f2:w.frozen? (O bm 2)=false
 f3:w.frozen? (O bm 3)=false
 ov:w.ownsRow B 119 3 vv vars.length (P6 vars)
 ol:w.ownsRow B 178 2 vl lists.length (Pf lists)
 RM:w.ownsRow B 176 7 vr rules.length (NK rules)
 li:∀l∈lists,w.ownsRow B 3 1 l.v l.Xb.length (l.Xb.map (.int .i64))
 ri:∀r∈rules,w.ownsRow B 183 2 r.pv r.parts.length (Un r.parts)
 Uq:bm≠Z
 Kd:gt≠Z
 Kc:gt≠bm
 V8:Z<B
 UL:bm<B
 Vm:gt<B
 hB:B<=w.heap.size
 hn:U.length<=2000
 lv:vars.length<=i
 ll:lists.length<=i
 lr:rules.length<=i
section
variable {w w' w0:A}{Z bm gt Z1 B:Nat}{U:List ZY}{vv vl vr:aF}{vars:List Y7}{lists:List YZ}{rules:List YL}{i:Nat}{kind line:Int}
theorem Md.ctx (h:Md w Z bm gt Z1 B U vv vl vr vars lists rules i kind line)(hi:i<=4000):XI w Z bm gt Z1 U vv vars i kind line:=
 ⟨h.wk,h.tk,h.m1,xk h.ov,λe=>by have:=(h.ov.lt _ e).1;have:=h.V8;omega,h.Uq,h.Kd,h.hn,by have:=h.lv;omega,λb e=>(h.ov.lt _ e).2⟩
theorem Gt {e:TypeId}{size n:Nat}{v:aF}{xs:ay}{S:List Nat}(h:w0.ownsRow B e size v n xs)(hb:Y9 S w0 w)(hS:∀k,k∈S->k<B):w.ownsRow B e size v n xs:=by
 obtain⟨F,h2⟩:=h;refine⟨F,?_⟩;rcases h2 with h2|⟨g,cap,cur,hv,z,hh,r⟩
 ·exact .inl h2
 ·have UB:g<w0.heap.size:=by
   rcases ib g w0.heap.size with hl|hl
   ·exact hl
   ·rw[bD hl]at hh;cases hh
  exact .inr ⟨g,cap,cur,hv,z,by rw[hb.block g UB (λe=>by have:=hS g e;omega)];exact hh,r⟩
theorem Md.but (h:Md w0 Z bm gt Z1 B U vv vl vr vars lists rules i kind line)(hb:Y9 [Z] w0 w){j:Nat}{k l:Int}(hW:Wk w Z bm j k l)(cD:i<=j):Md w Z bm gt Z1 B U vv vl vr vars lists rules j k l:=by
 have hS:∀k,k∈[Z]->k<B:=λk I=>by have:=h.V8;simp at I;omega
 have nm:bm∉[Z]:=by simpa using h.Uq
 have ng:gt∉[Z]:=by simpa using h.Kd
 have fz:∀q,w.frozen? (O bm q)=w0.frozen? (O bm q):=λq=>bL (hb.block bm h.tk.Ya nm)
 exact⟨hW,⟨(hb.cell h.tk.Ya nm 0).trans h.tk.m0,λj u hu=>(hb.cell h.tk.VG ng j).trans (h.tk.row j u hu),dH h.tk.Ya hb.size,dH h.tk.VG hb.size⟩,
  (hb.cell h.tk.Ya nm 1).trans h.m1,(hb.cell h.tk.Ya nm 2).trans h.m2,(hb.cell h.tk.Ya nm 3).trans h.m3,(fz 1).trans h.f1,(fz 2).trans h.f2,(fz 3).trans h.f3,
  Gt h.ov hb hS,Gt h.ol hb hS,Gt h.RM hb hS,λl hl=>Gt (h.li l hl) hb hS,λr hr=>Gt (h.ri r hr) hb hS,h.Uq,h.Kd,h.Kc,h.V8,h.UL,h.Vm,gZ h.hB hb.size,h.hn,
  by have:=h.lv;omega,by have:=h.ll;omega,by have:=h.lr;omega⟩
theorem Y9.Pe {S:List Nat}{row:Option Nat}(z:w.grownBy w' row)(hr:∀k,row=some k->k∈S):Y9 S w w':=(Y9.refl S w).grown z (λk e=>.inl (hr k e))
theorem Y9.walk (h:Y9 [Z] w0 w)(z:w.grownBy w' (some Z)):Y9 [Z] w0 w':=h.grown z (λk e=>by cases e;exact .inl pG)
theorem Y9.sub {S S':List Nat}(h:Y9 S w0 w)(k:Y9 S' w w')(hs:∀b,b∈S'->b∈S\/w0.heap.size<=b):Y9 S w0 w':=
 ⟨k.os.trans h.os,k.tape.trans h.tape,k.output.trans h.output,gZ h.size k.size,λb hb hn=>
  (k.block b (dH hb h.size) (λe=>by rcases hs b e with q|q;exact hn q;omega)).trans (h.block b hb hn)⟩
theorem xi (h:Md w Z bm gt Z1 B U vv vl vr vars lists rules i kind line)(hi:i<U.length):aq 97 #[ai Z] w λe w'=>e=.returned (.string (Y' U i))/\w.grownBy w' (some Z)/\
   Wk w' Z bm ((i+1:Nat):Int) (Vc (decide (0<=Y6 vars (Y' U i))||decide (0<=NI lists (Y' U i))) 4 kind) (U4 (decide (0<=Y6 vars (Y' U i))||decide (0<=NI lists (Y' U i))) kind (Wi U i) line):=by
 have hn:=h.hn;have l1:=h.lv;have l2:=h.ll;exact aeQ U i kind line Z bm gt Z1 vv vl (Ua vars) (NJ lists) w h.hn hi h.Uq h.Kd (by simp[Ua];omega) (by simp[NJ];omega) ⟨h.m1,h.m2⟩ ⟨(xk h.ov).names,xj h.ol⟩
  ⟨λe=>by have:=(h.ov.lt _ e).1;have:=h.V8;omega,λe=>by have:=(h.ol.lt _ e).1;have:=h.V8;omega⟩ h.wk h.tk
structure Um (B:Nat)(S:List Nat)(w w':A):Prop where
 os:w'.os=w.os
 tape:w'.tape=w.tape
 output:w'.output=w.output
 size:w.heap.size<=w'.heap.size
 block:∀k,k<B->k∉S->w'.heap[k]?=w.heap[k]?
theorem Um.refl (B:Nat)(S:List Nat)(w:A):Um B S w w:=⟨rfl,rfl,rfl,iw _,λ_ _ _=>rfl⟩
theorem Um.trans {B:Nat}{S:List Nat}{a b c:A}(h:Um B S a b)(k:Um B S b c):Um B S a c:=
 ⟨k.os.trans h.os,k.tape.trans h.tape,k.output.trans h.output,gZ h.size k.size,λi hi hn=>(k.block i hi hn).trans (h.block i hi hn)⟩
theorem Y9.IH {S S':List Nat}(h:Y9 S w0 w)(hB:B<=w0.heap.size)(hs:∀k,k∈S->k∈S'):Um B S' w0 w:=⟨h.os,h.tape,h.output,h.size,λk I hn=>h.block k J (λe=>hn (hs k e))⟩
theorem Um.grown {S:List Nat}{row:Option Nat}(h:Um B S w0 w)(z:w.grownBy w' row)(hB:B<=w.heap.size)(hr:∀k,row=some k->k∈S\/B<=k):Um B S w0 w':=
 ⟨z.os.trans h.os,z.tape.trans h.tape,z.output.trans h.output,gZ h.size z.size,λi hi hn=>
  (z.block i J (λe=>by rcases hr i e.symm with q|q;exact hn q;omega)).trans (h.block i hi hn)⟩
def ky{P:Prop}(h:P:=by
 rcases h.2 with⟨rfl,_⟩|⟨g,cap,cur,rfl,_,h3,_⟩
 ·exact .inl rfl
 ·right
  intro e1;rcases h'.2 with⟨rfl,_⟩|⟨g',UH,IP,rfl,_,Pj,_⟩
  ·cases e1
  ·have:g=g':=fO e1;subst this;rw[h3]at Pj
   cases Pj;exact he rfl):P:=h
theorem BL {B':Nat}{e e':TypeId}{s s' n n':Nat}{v v':aF}{xs xs':ay}(h:w.ownsRow B e s v n xs)(h':w.ownsRow B' e' s' v' n' xs')(he:e≠e'):v.ownBlock=none\/v.ownBlock≠v'.ownBlock:=by
 exact ky
theorem IG {e:TypeId}{s n b:Nat}{v:aF}{xs:ay}(h:w.ownsRow B e s v n xs)(hb:b<B):v.ownBlock=none\/v.ownBlock≠some b:=by
 cases hv:v.ownBlock with
 |none=>exact .inl rfl
 |some g=>exact .inr (λe=>by have:=(h.lt _ hv).1;cases e;omega)
def mK{P:Prop}(h:P:=by
 exact ZO.kept gs (IG ZO h.UL)):P:=h
theorem Md.afE (h:Md w Z bm gt Z1 B U vv vl vr vars lists rules i kind line){o:Obj}{wA:A}{v':aF}{x:Y7}(hi:vars.length+1<=i)(ZO:wA.ownsRow B 119 3 v' (vars.length+1) (P6 vars++[.string x.name,Y x.low,Y x.high]))(z:(w.alloc o).drew.grownBy wA vv.ownBlock):Md (wA.setCell (O bm 1) v') Z bm gt Z1 B U v' vl vr (vars++[x]) lists rules i kind line/\Um B [Z,bm] w (wA.setCell (O bm 1) v'):=by
 have g0:w.grownBy (w.alloc o).drew none:=(di w o none).trans (ZG _ none);have gs:=ZC wA bm 1 v';have Vb:∀b,b<B->some b≠vv.ownBlock:=λb hb e=>by have:=(h.ov.lt _ e.symm).1;omega
 have nn:∀{v:aF},v.ownBlock=none\/v.ownBlock≠none:=λ{v}=>by cases v.ownBlock with
  |none=>exact .inl rfl
  |some g=>exact .inr pG
 have keep:∀{e:TypeId} {s n:Nat} {v:aF} {xs:ay},w.ownsRow B e s v n xs->e≠119->(wA.setCell (O bm 1) v').ownsRow B e s v n xs:=λ{e s n v xs} ho he=>
  have F:=ho.kept g0 nn;have h2:=F.kept z (BL ho h.ov he)
  h2.kept gs (IG h2 h.UL)
 have cell:∀b q u,b<B->b≠bm->w.cell? (O b q)=some u->(wA.setCell (O bm 1) v').cell? (O b q)=some u:=λb q u hb hn hu=>
  gs.cell (z.cell (g0.cell hu pG) (Vb b hb)) uH
 have bC:∀q u,q≠1->w.cell? (O bm q)=some u->(wA.setCell (O bm 1) v').cell? (O bm q)=some u:=λq u hq hu=>
  (YJ _ _ _ _ _ _ (.inr hq)).trans (z.cell (g0.cell hu pG) (Vb bm h.UL))
 have Yw:w.heap.size<=wA.heap.size:=gZ g0.size z.size;have cE:∀q,wA.frozen? (O bm q)=w.frozen? (O bm q):=λq=>
  (z.frozen_far (O bm q) (dH h.tk.Ya g0.size) (Vb bm h.UL)).trans (g0.frozen_far (O bm q) h.tk.Ya pG)
 have fr:∀q,(wA.setCell (O bm 1) v').frozen? (O bm q)=w.frozen? (O bm q):=λq=>(bR _ _ _ _).trans (cE q)
 have cF:Wk (wA.setCell (O bm 1) v') Z bm i kind line:=by
  have n1:=Vb Z h.V8;have n2:some Z≠some bm:=rr;have f0:∀q,(wA.setCell (O bm 1) v').frozen? (O Z q)=w.frozen? (O Z q):=λq=>
   (bR _ _ _ _).trans ((z.frozen_far (O Z q) (dH h.wk.lt g0.size) n1).trans (g0.frozen_far (O Z q) h.wk.lt pG))
  exact⟨cell Z 0 _ h.V8 (λe=>h.Uq e.symm) h.wk.c0,cell Z 1 _ h.V8 (λe=>h.Uq e.symm) h.wk.c1,cell Z 2 _ h.V8 (λe=>h.Uq e.symm) h.wk.c2,cell Z 3 _ h.V8 (λe=>h.Uq e.symm) h.wk.c3,
   (f0 1).trans h.wk.f1,(f0 2).trans h.wk.f2,(f0 3).trans h.wk.f3,by have:=h.wk.lt;simp[World.setCell];omega⟩
 have dv:(wA.setCell (O bm 1) v').heap.size=wA.heap.size:=pV;refine⟨⟨cF,⟨bC 0 _ J h.tk.m0,λj u hu=>cell gt j u h.Vm h.Kc (h.tk.row j u hu),by have:=h.tk.Ya;omega,by have:=h.tk.VG;omega⟩,?_,bC 2 _ J h.m2,bC 3 _ J h.m3,(fr 1).trans h.f1,(fr 2).trans h.f2,(fr 3).trans h.f3,?_,
  keep h.ol pF,keep h.RM pF,λl hl=>keep (h.li l hl) pF,λr hr=>keep (h.ri r hr) pF,h.Uq,h.Kd,h.Kc,h.V8,h.UL,h.Vm,by have:=h.hB;omega,h.hn,by simp;omega,h.ll,h.lr⟩,?_⟩
 ·exact bo _ _ _ (z.cell (g0.cell h.m1 pG) (Vb bm h.UL))
 ·rw[afB,dA];exact mK
 ·refine(((Um.refl B [Z,bm] w).grown g0 h.hB (λ_ e=>pL)).grown z rX (λk e=>.inr ((h.ov.lt _ e).1))).grown gs uJ (λk e=>by cases e;exact .inl pG)
end
end
section
attribute [local go_sem ↓] Go.wp_at_zero Go.wp_at_succ
theorem afF:(prog.info? 119).map (λi=>(i.zero,i.size,i.bytes))=some (some (.agg #[.string .empty,Y 0,Y 0]),3,32):=pH
def Gs (vars:List Y7)(lists:List YZ)(nm lo hi:ZY)(st:Zv):Zv:=
 ZE (Yg (YU hi.s) 1000||decide (YU hi.s<YU lo.s)) 5 hi.line
  (ZE (Yg (YU lo.s) 1000) 5 lo.line
   (ZE (decide (0<=Y6 vars nm.s)||decide (0<=NI lists nm.s)) 4 nm.line
    (ZE (decide (8<=(vars.length:Int))) 6 nm.line st)))
theorem VE {U:List ZY}{i:Nat}{t:ZY}(h:U[i]?=some t):Y' U i=t.s/\Wi U i=t.line/\i<U.length:=by
 refine⟨by unfold Y';rw[h];rfl,by unfold Wi;rw[h];rfl,?_⟩;rcases ib i U.length with hl|hl
 ·exact hl
 ·rw[bN hl]at h;exact absurd h pG
theorem Ls {w:A}{B:Nat}{e:TypeId}{size n:Nat}{v:aF}{xs:ay}(h:w.ownsRow B e size v n xs):∃a cap,v=.slice a n cap:=by
 rcases h.2 with⟨F,h2⟩|⟨g,cap,cur,rfl,_⟩
 ·exact⟨none,0,by rw[F,h2]⟩
 ·exact⟨_,_,rfl⟩
theorem Wk.YQ {w w':A}{Z bm:Nat}{i k l:Int}{row:Option Nat}(h:Wk w Z bm i k l)(z:w.grownBy w' row)(ZP:some Z≠row):Wk w' Z bm i k l:=
 ⟨z.cell h.c0 ZP,z.cell h.c1 ZP,z.cell h.c2 ZP,z.cell h.c3 ZP,(z.frozen_far (O Z 1) h.lt ZP).trans h.f1,(z.frozen_far (O Z 2) h.lt ZP).trans h.f2,(z.frozen_far (O Z 3) h.lt ZP).trans h.f3,dH h.lt z.size⟩
theorem afG (a:aA)(b c:Int):∀u∈[Value.string a,Y b,Y c],u.oneCell'=true:=by
 intro u hu;simp at hu;rcases hu with rfl|rfl|rfl<;>rfl
structure Bv (w:A)(bv:Nat)(s:aA)(a b:Int):Prop where
 c0:w.cell? (ah bv)=some (.string s)
 c1:w.cell? (O bv 1)=some (Y a)
 c2:w.cell? (O bv 2)=some (Y b)
 f1:w.frozen? (O bv 1)=false
 f2:w.frozen? (O bv 2)=false
 lt:bv<w.heap.size
theorem Bv.YQ {w w':A}{bv:Nat}{s:aA}{a b:Int}{row:Option Nat}(h:Bv w bv s a b)(z:w.grownBy w' row)(ZP:some bv≠row):Bv w' bv s a b:=
 ⟨z.cell h.c0 ZP,z.cell h.c1 ZP,z.cell h.c2 ZP,(z.frozen_far (O bv 1) h.lt ZP).trans h.f1,(z.frozen_far (O bv 2) h.lt ZP).trans h.f2,dH h.lt z.size⟩
theorem Bv.IE {w:A}{bv:Nat}{s:aA}{a b:Int}(h:Bv w bv s a b)(x:Int):Bv (w.setCell (O bv 1) (Y x)) bv s x b:=
 ⟨(YJ _ _ _ _ _ _ J).trans h.c0,bo _ _ _ h.c1,(YJ _ _ _ _ _ _ J).trans h.c2,(bR _ _ _ _).trans h.f1,(bR _ _ _ _).trans h.f2,by simpa[World.setCell]using h.lt⟩
theorem Bv.afH {w:A}{bv:Nat}{s:aA}{a b:Int}(h:Bv w bv s a b)(x:Int):Bv (w.setCell (O bv 2) (Y x)) bv s a x:=
 ⟨(YJ _ _ _ _ _ _ J).trans h.c0,(YJ _ _ _ _ _ _ J).trans h.c1,bo _ _ _ h.c2,(bR _ _ _ _).trans h.f1,(bR _ _ _ _).trans h.f2,by simpa[World.setCell]using h.lt⟩
theorem afI (w:A)(s:aA)(t:TypeId):Bv (w.alloc (.cells #[.string s,Y 0,Y 0] t)) w.heap.size s 0 0:=by
 have e1:=gp w (.cells #[.string s,Y 0,Y 0] t);refine⟨?_,?_,?_,?_,?_,pG⟩
 ·exact kq
 ·exact kq
 ·exact kq
 ·exact lX
 ·exact lX
def iX{P:Prop}(h:P:=by
 rw[P4.out.2.2.2.2.2]at TH;refine TH.mono ?_;rintro e wi ⟨rfl,BK,Gr⟩;have xh:=Z8 (xg.out.walk BK);have xf:=HVh.out.YQ BK pU;have xe:=Z8 xf;have xd:=Z8 Gr.wk;obtain⟨d0,d1,_,_,e1,_,_,_⟩:=Gr.wk;obtain⟨v0,v1',v2,Sz,Gq,_⟩:=xf;clear Gr BK TH v1;go_wp2;have RL:=Z8 ((xh.out.set (k:=Z) (.inl pG) 1 (Y ((i:Int)+5+1))).set (k:=bv) (.inr Ww) 2 (Y HV));have Pd:=Z8 ((xd.out.Wv ((i:Int)+5+1)).YQ (ZC _ bv 2 (Y HV)) (by simpa using λe:Z=bv=>WL e.symm))
 have xb:=Z8 ((xe.out.YQ (ZC wi Z 1 (Y ((i:Int)+5+1))) pU).afH HV);generalize ((wi.setCell (O Z 1) (Y ((i:Int)+5+1))).setCell (O bv 2) (Y HV))=wj at RL Pd xb⊢;clear d0 d1 e1 v0 v1' v2 Sz Gq xh xd xe;have Mj:=H0.out.but (j:=i+6) RL.out Pd.out J;obtain⟨v0,v1,v2,Sz,Gq,Yv⟩:=xb.out;have m1:=Mj.m1;have mf1:=Mj.f1;have Gp:=Mj.tk.Ya;have U2:=Z8 Mj;have YD:=Z8 (Mj.ov.kept ((di wj (.cells #[.string nm.s,Y LO,Y HV] 119) none).trans (ZG _ none)) (by cases vv.ownBlock with
  |none=>exact .inl rfl
  |some g=>exact .inr pG))
 have YF:Hid (∀jj u,[Value.string nm.s,Y LO,Y HV][jj]?=some u->(wj.alloc (.cells #[.string nm.s,Y LO,Y HV] 119)).drew.cell? (((ah wj.heap.size):Addr).add jj)=some u):=
  World.news_of_block (cs:=#[.string nm.s,Y LO,Y HV]) (t:=119) (fr:=(0,0)) (gp wj _)
 have WK:Hid (∀wA,(wj.alloc (.cells #[.string nm.s,Y LO,Y HV] 119)).drew.grownBy wA vv.ownBlock->wA.frozen? (O bm 1)=false/\wA.cell? (O bm 1)=some vv):=by
  intro wA z;have g0:wj.grownBy (wj.alloc (.cells #[.string nm.s,Y LO,Y HV] 119)).drew none:=(di wj _ none).trans (ZG _ none);have Vb:some bm≠vv.ownBlock:=λe=>by have:=(U2.out.ov.lt _ e.symm).1;have:=U2.out.UL;omega
  exact⟨(z.frozen_far (O bm 1) (dH U2.out.tk.Ya g0.size) Vb).trans ((g0.frozen_far (O bm 1) U2.out.tk.Ya pG).trans U2.out.f1),z.cell (g0.cell U2.out.m1 pG) Vb⟩
 have Kb:B<=wj.heap.size:=Mj.hB;have Ws:vars.length<=2000:=by have:=H0.out.lv;omega
 clear Mj;go_region_law ((refine step_append_lies _ p8 _ _ 112 p8 B 119 i0 (.agg #[.string .empty,Y 0,Y 0]) 3 32 underlying112 Y8 Ze Zq Zn rfl pF vv vars.length (P6 vars) p8 YD.out (ah wj.heap.size) 1 1 [.string nm.s,Y LO,Y HV] p8 rfl YF.out (afG _ _ _) pF pK J pI _ rfl ?_;intro gA XC wA YT Zo XL Xq;obtain⟨q1,q2⟩:=WK.out wA Zo))
 all_goals
  have HP:=Z8 (U2.out.afE (x:=⟨nm.s,LO,HV⟩) (by have:=H0.out.lv;omega) YT Zo);clear YD YF WK YT Zo XL Xq m1 mf1 v0 v1 v2 Sz Gq;go_wp2;refine iq (iu (by first|rfl|kernel_rfl) _ _ _) rfl ?_
  rw[Gn.out,wZ.out,afJ.out,HT.out];exact⟨rfl,(RL.out.IH H0.out.hB (λk I=>by simp at I;simp[I])).trans HP.out.2,_,HP.out.1⟩):P:=h
def oA{P:Prop}(h:P:=by
 go_wp2_with fail;have TH:=Re (BJ.out.ctx J) g3 true 5;exact iX):P:=h
theorem afK (w0:A)(Z bm gt Z1 B:Nat)(U:List ZY)(vv vl vr:aF)(vars:List Y7)(lists:List YZ)(rules:List YL)(i:Nat)(kind line:Int)(kw nm lo hi:ZY)(h:Md w0 Z bm gt Z1 B U vv vl vr vars lists rules i kind line)(I:U[i]?=some kw)(V6:kw.s=⟨#[118,97,114]⟩)(bf:U[i+1]?=some nm)(Yu:U[i+3]?=some lo)(dw:UU lo.s)(bn:U[i+5]?=some hi)(dx:UU hi.s):aq 54 #[ai Z] w0 λe w'=>e=.returned (.tuple #[])/\Um B [Z,bm] w0 w'/\
   ∃cV,Md w' Z bm gt Z1 B U cV vl vr (vars++[⟨nm.s,YU lo.s,YU hi.s⟩]) lists rules (i+6) (Gs vars lists nm lo hi (kind,line)).1 (Gs vars lists nm lo hi (kind,line)).2:=by
 obtain⟨i0,Y8,Ze,Zq,Zn⟩:=iE afF;obtain⟨k1,k2,k3⟩:=VE I;obtain⟨n1,n2,n3⟩:=VE bf;obtain⟨l1,l2,l3⟩:=VE Yu;obtain⟨g1,g2,g3⟩:=VE bn;have hn:=h.hn;have c0:=h.wk.c0;have H0:=Z8 h;have aH:=h.ctx J;have Xz:=SG aH J;rw[k1,V6]at Xz;have UM:=Z8 Xz;have Gm:=Z8 dw;have dI:=Z8 dx;have P4:=Z8 (iG n1 (iG n2 (iG l1 (iG l2 (iG g1 g2)))));clear Xz h aH k1 k2 n1 n2 l1 l2 g1 g2 I bf Yu bn dw dx V6;go_enter func54,ntmps54;go_wp2_with fail;refine(Xd UM).mono ?_;rintro e w1 ⟨rfl,ZZ,Y1⟩;have aB:=Z8 (Y9.Pe (S:=[Z]) ZZ (λk e=>by cases e;simp))
 have M1:=H0.out.but aB.out Y1.wk (iw _);obtain⟨av,dM,cW⟩:=Ls M1.ov;obtain⟨d0,d1,_,_,e1,_,_,_⟩:=Y1.wk;have m1:=M1.m1;have ZP:=M1.Uq;have Yc:=M1.tk.Ya;have UA:=Z8 Y1.wk;rw[cW]at m1;have Lr:=Z8 cW;have aV:=λW o u b' o' h=>YJ W Z o u b' o' h
 clear ZZ Y1 c0 UM cW M1;go_wp2_with fail;have a7:=Z8 ((aB.out.set (k:=Z) (.inl pG) 1 (Y ((i:Int)+1))).alloc (.cells #[.int .u8 ((ByteArray.mk #[118,97,114])[0].toNat:Int),af,.string ⟨#[]⟩,Y 0,Y 0,Y 0,Y 0] 176));have aG:=Z8 (((UA.out.Wv ((i:Int)+1)).YQ (di _ (.cells #[.int .u8 ((ByteArray.mk #[118,97,114])[0].toNat:Int),af,.string ⟨#[]⟩,Y 0,Y 0,Y 0,Y 0] 176) none) pG));generalize ((w1.setCell (O Z 1) (Y ((i:Int)+1))).alloc (.cells #[.int .u8 ((ByteArray.mk #[118,97,114])[0].toNat:Int),af,.string ⟨#[]⟩,Y 0,Y 0,Y 0,Y 0] 176))=wa at a7 aG⊢;clear d0 d1 e1 m1 UA aB;have Ma:=H0.out.but (j:=i+1) a7.out aG.out J;have aI:=Re (Ma.ctx J) n3 (decide (8<=(vars.length:Int))) 6;rw[P4.out.2.1]at aI;refine aI.mono ?_;rintro e wb ⟨rfl,aQ,bF⟩;have bE:=Z8 (a7.out.walk aQ);have Mb:=H0.out.but (j:=i+1) bE.out bF.wk J;have bg:=xi Mb n3;rw[P4.out.1,P4.out.2.1]at bg;have dy:=Z8 bg;clear bg bF aQ aI Ma Mb a7 aG;go_wp2_with fail;refine(Xd dy).mono ?_;rintro e wc ⟨rfl,bq,cf⟩;have bG:=Z8 (bE.out.walk bq);have bY:=Z8 cf;have cX:=cf.lt;obtain⟨d0,d1,_,_,e1,_,_,_⟩:=cf;have WL:(wc.heap.size:Nat)≠Z:=J;clear bq dy bE;go_wp2_with fail;have cg:=Z8 ((bG.out.set (k:=Z) (.inl pG) 1 (Y ((i:Int)+1+1+1))).alloc (.cells #[.string nm.s,Y 0,Y 0] 119));have cq:=Z8 ((bY.out.Wv ((i:Int)+1+1+1)).YQ (di _ (.cells #[.string nm.s,Y 0,Y 0] 119) none) pG);have cG:=Z8 (afI (wc.setCell (O Z 1) (Y ((i:Int)+1+1+1))) nm.s 119);have aY:(wc.setCell (O Z 1) (Y ((i:Int)+1+1+1))).heap.size=wc.heap.size:=pV;rw[aY]at cG;have Ww:w0.heap.size<=wc.heap.size:=bG.out.size;generalize ((wc.setCell (O Z 1) (Y ((i:Int)+1+1+1))).alloc (.cells #[.string nm.s,Y 0,Y 0] 119))=we at cg cq cG⊢;clear aY;generalize wc.heap.size=bv at WL Ww cG cX⊢;clear d0 d1 e1 bY bG;have Me:=H0.out.but (j:=i+3) cg.out cq.out J;have bb:=IZ (Me.ctx J) l3 1000 J J (by rw[P4.out.2.2.1];exact Gm.out);rw[P4.out.2.2.1,P4.out.2.2.2.1]at bb;refine bb.mono ?_;rintro e wf ⟨rfl,aw,aR⟩;have bs:=Z8 (cg.out.walk aw);have dz:=cG.out.YQ aw pU;have dB:=Z8 dz;have cr:=Z8 aR.wk;obtain⟨d0,d1,_,_,e1,_,_,_⟩:=aR.wk;obtain⟨v0,v1,v2,Sz,Gq,_⟩:=dz;obtain⟨LO,cY⟩:∃x,YU lo.s=x:=⟨_,rfl⟩;rw[cY];have Gn:=Z8 cY;have cM:=λW o u b' o' h=>YJ W bv o u b' o' h
 clear aR aw bb Me cg cq cG cY;go_wp2_with fail;have cN:=Z8 ((bs.out.set (k:=bv) (.inr Ww) 1 (Y LO)).set (k:=Z) (.inl pG) 1 (Y ((i:Int)+3+1+1)));have cZ:=Z8 ((cr.out.YQ (ZC wf bv 1 (Y LO)) (by simpa using λe:Z=bv=>WL e.symm)).Wv ((i:Int)+3+1+1))
 have dc:=Z8 ((dB.out.IE LO).YQ (ZC _ Z 1 (Y ((i:Int)+3+1+1))) pU);generalize ((wf.setCell (O bv 1) (Y LO)).setCell (O Z 1) (Y ((i:Int)+3+1+1)))=wg at cN cZ dc⊢;clear d0 d1 e1 v0 v1 v2 Sz Gq bs cr dB;have Mg:=H0.out.but (j:=i+5) cN.out cZ.out J;have bh:=SG (Mg.ctx J) J;rw[P4.out.2.2.2.2.1]at bh;refine bh.mono ?_;rintro e wh ⟨rfl,bQ,bZ⟩;have xg:=Z8 (cN.out.walk bQ);have df:=dc.out.YQ bQ pU;have HVh:=Z8 df;have Mh:=H0.out.but (j:=i+5) xg.out bZ.wk J;have BJ:=Z8 Mh;have v1:=df.c1;have OJ:=EL hi.s dI.out wh;obtain⟨HV,cH⟩:∃x,YU hi.s=x:=⟨_,rfl⟩;rw[cH]at OJ;have GN:=Z8 OJ;have wZ:=Z8 cH;have afJ:Hid (Gs vars lists nm lo hi (kind,line)=ZE (Yg HV 1000||decide (HV<LO)) 5 hi.line
  (ZE (Yg LO 1000) 5 lo.line (ZE (decide (0<=Y6 vars nm.s)||decide (0<=NI lists nm.s)) 4 nm.line (ZE (decide (8<=(vars.length:Int))) 6 nm.line (kind,line))))):=by
  unfold Hid Gs;rw[Gn.out,wZ.out]
 rw[Gn.out]at BJ;clear bZ bQ bh Mg cN cZ dc cH OJ Mh df;go_wp2_with fail;refine(Xd GN).mono ?_;rintro e w9 ⟨rfl,Zf⟩;subst w9;by_cases b1:HV< -1000
 ·have t1:decide (HV< -1000)=true:=by simpa using b1
  have HT:Hid ((Yg HV 1000||decide (HV<LO))=true):=by unfold Hid Yg;simp[b1]
  exact oA
 ·have t1:decide (HV< -1000)=false:=by simpa using b1
  by_cases b2:1000<HV
  ·have t2:decide (1000<HV)=true:=uI;have HT:Hid ((Yg HV 1000||decide (HV<LO))=true):=by unfold Hid Yg;simp[b2]
   exact oA
  ·have t2:decide (1000<HV)=false:=uI;by_cases b3:HV<LO
   ·have t3:decide (HV<LO)=true:=by simpa using b3
    have HT:Hid ((Yg HV 1000||decide (HV<LO))=true):=by unfold Hid;simp[b3]
    exact oA
   ·have t3:decide (HV<LO)=false:=by simpa using b3
    have HT:Hid ((Yg HV 1000||decide (HV<LO))=false):=by unfold Hid Yg;simp;omega
    go_wp2_with fail;have TH:=Re (BJ.out.ctx J) g3 false 5;exact iX
end
section
section
variable {w w' w0:A}{Z bm gt Z1 B:Nat}{U:List ZY}{vv vl vr:aF}{vars:List Y7}{lists:List YZ}{rules:List YL}{i:Nat}{kind line:Int}
theorem Md.Em (h:Md w Z bm gt Z1 B U vv vl vr vars lists rules i kind line){o:Obj}{wA:A}{v':aF}{x:YL}(hi:rules.length+1<=i)(hp:w.ownsRow B 183 2 x.pv x.parts.length (Un x.parts))(ZO:wA.ownsRow B 176 7 v' (rules.length+1) (NK rules++[.int .u8 x.sort,x.pv,.string x.rel,Y x.n,Y x.v,Y x.w,Y x.x]))(z:(w.alloc o).drew.grownBy wA vr.ownBlock):Md (wA.setCell (O bm 3) v') Z bm gt Z1 B U vv vl v' vars lists (rules++[x]) i kind line/\Um B [Z,bm] w (wA.setCell (O bm 3) v'):=by
 have g0:w.grownBy (w.alloc o).drew none:=(di w o none).trans (ZG _ none);have gs:=ZC wA bm 3 v';have Vb:∀b,b<B->some b≠vr.ownBlock:=λb hb e=>by have:=(h.RM.lt _ e.symm).1;omega
 have nn:∀{v:aF},v.ownBlock=none\/v.ownBlock≠none:=λ{v}=>by cases v.ownBlock with
  |none=>exact .inl rfl
  |some g=>exact .inr pG
 have keep:∀{e:TypeId} {s n:Nat} {v:aF} {xs:ay},w.ownsRow B e s v n xs->e≠176->(wA.setCell (O bm 3) v').ownsRow B e s v n xs:=λ{e s n v xs} ho he=>
  have F:=ho.kept g0 nn;have h2:=F.kept z (BL ho h.RM he)
  h2.kept gs (IG h2 h.UL)
 have cell:∀b q u,b<B->b≠bm->w.cell? (O b q)=some u->(wA.setCell (O bm 3) v').cell? (O b q)=some u:=λb q u hb hn hu=>
  gs.cell (z.cell (g0.cell hu pG) (Vb b hb)) uH
 have bC:∀q u,q≠3->w.cell? (O bm q)=some u->(wA.setCell (O bm 3) v').cell? (O bm q)=some u:=λq u hq hu=>
  (YJ _ _ _ _ _ _ (.inr hq)).trans (z.cell (g0.cell hu pG) (Vb bm h.UL))
 have Yw:w.heap.size<=wA.heap.size:=gZ g0.size z.size;have cE:∀q,wA.frozen? (O bm q)=w.frozen? (O bm q):=λq=>
  (z.frozen_far (O bm q) (dH h.tk.Ya g0.size) (Vb bm h.UL)).trans (g0.frozen_far (O bm q) h.tk.Ya pG)
 have fr:∀q,(wA.setCell (O bm 3) v').frozen? (O bm q)=w.frozen? (O bm q):=λq=>(bR _ _ _ _).trans (cE q)
 have cF:Wk (wA.setCell (O bm 3) v') Z bm i kind line:=by
  have n1:=Vb Z h.V8;have n2:some Z≠some bm:=rr;have f0:∀q,(wA.setCell (O bm 3) v').frozen? (O Z q)=w.frozen? (O Z q):=λq=>
   (bR _ _ _ _).trans ((z.frozen_far (O Z q) (dH h.wk.lt g0.size) n1).trans (g0.frozen_far (O Z q) h.wk.lt pG))
  exact⟨cell Z 0 _ h.V8 (λe=>h.Uq e.symm) h.wk.c0,cell Z 1 _ h.V8 (λe=>h.Uq e.symm) h.wk.c1,cell Z 2 _ h.V8 (λe=>h.Uq e.symm) h.wk.c2,cell Z 3 _ h.V8 (λe=>h.Uq e.symm) h.wk.c3,
   (f0 1).trans h.wk.f1,(f0 2).trans h.wk.f2,(f0 3).trans h.wk.f3,by have:=h.wk.lt;simp[World.setCell];omega⟩
 have dv:(wA.setCell (O bm 3) v').heap.size=wA.heap.size:=pV;refine⟨⟨cF,⟨bC 0 _ J h.tk.m0,λj u hu=>cell gt j u h.Vm h.Kc (h.tk.row j u hu),by have:=h.tk.Ya;omega,by have:=h.tk.VG;omega⟩,bC 1 _ J h.m1,bC 2 _ J h.m2,?_,(fr 1).trans h.f1,(fr 2).trans h.f2,(fr 3).trans h.f3,keep h.ov pF,
  keep h.ol pF,?_,λl hl=>keep (h.li l hl) pF,λr hr=> ?_,h.Uq,h.Kd,h.Kc,h.V8,h.UL,h.Vm,by have:=h.hB;omega,h.hn,h.lv,h.ll,by simp;omega⟩,?_⟩
 ·exact bo _ _ _ (z.cell (g0.cell h.m3 pG) (Vb bm h.UL))
 ·rw[afD,dA];exact mK
 ·rcases fE.1 hr with hr|hr
  ·exact keep (h.ri r hr) pF
  ·obtain rfl:r=x:=by simpa using hr
   exact keep hp pF
 ·refine(((Um.refl B [Z,bm] w).grown g0 h.hB (λ_ e=>pL)).grown z rX (λk e=>.inr ((h.RM.lt _ e).1))).grown gs uJ (λk e=>by cases e;exact .inl pG)
end
structure Br (w:A)(br:Nat)(r:YL):Prop where
 c0:w.cell? (ah br)=some (.int .u8 r.sort)
 c1:w.cell? (O br 1)=some r.pv
 c2:w.cell? (O br 2)=some (.string r.rel)
 c3:w.cell? (O br 3)=some (Y r.n)
 c4:w.cell? (O br 4)=some (Y r.v)
 c5:w.cell? (O br 5)=some (Y r.w)
 c6:w.cell? (O br 6)=some (Y r.x)
 fz:∀q,w.frozen? (O br q)=false
 lt:br<w.heap.size
theorem Br.YQ {w w':A}{br:Nat}{r:YL}{row:Option Nat}(h:Br w br r)(z:w.grownBy w' row)(ZP:some br≠row):Br w' br r:=
 ⟨z.cell h.c0 ZP,z.cell h.c1 ZP,z.cell h.c2 ZP,z.cell h.c3 ZP,z.cell h.c4 ZP,z.cell h.c5 ZP,z.cell h.c6 ZP,λq=>(z.frozen_far (O br q) h.lt ZP).trans (h.fz q),dH h.lt z.size⟩
theorem Gl (w:A)(s:Int)(t:TypeId):Br (w.alloc (.cells #[.int .u8 s,af,.string ⟨#[]⟩,Y 0,Y 0,Y 0,Y 0] t)) w.heap.size ⟨s,[],af,⟨#[]⟩,0,0,0,0⟩:=by
 have e1:=gp w (.cells #[.int .u8 s,af,.string ⟨#[]⟩,Y 0,Y 0,Y 0,Y 0] t);refine⟨?_,?_,?_,?_,?_,?_,?_,λq=> ?_,pG⟩
 ·exact kq
 ·exact kq
 ·exact kq
 ·exact kq
 ·exact kq
 ·exact kq
 ·exact kq
 ·simp only[World.frozen?,e1];simp
theorem Br.Lx {w:A}{br:Nat}{r:YL}(h:Br w br r)(x:Int):Br (w.setCell (O br 4) (Y x)) br {r with v:=x}:=
 ⟨(YJ _ _ _ _ _ _ J).trans h.c0,(YJ _ _ _ _ _ _ J).trans h.c1,(YJ _ _ _ _ _ _ J).trans h.c2,(YJ _ _ _ _ _ _ J).trans h.c3,bo _ _ _ h.c4,(YJ _ _ _ _ _ _ J).trans h.c5,(YJ _ _ _ _ _ _ J).trans h.c6,λq=>(bR _ _ _ _).trans (h.fz q),by simpa[World.setCell]using h.lt⟩
theorem Br.afL {w:A}{br:Nat}{r:YL}(h:Br w br r)(x:Int):Br (w.setCell (O br 5) (Y x)) br {r with w:=x}:=
 ⟨(YJ _ _ _ _ _ _ J).trans h.c0,(YJ _ _ _ _ _ _ J).trans h.c1,(YJ _ _ _ _ _ _ J).trans h.c2,(YJ _ _ _ _ _ _ J).trans h.c3,(YJ _ _ _ _ _ _ J).trans h.c4,bo _ _ _ h.c5,(YJ _ _ _ _ _ _ J).trans h.c6,λq=>(bR _ _ _ _).trans (h.fz q),by simpa[World.setCell]using h.lt⟩
theorem Br.afM {w:A}{br:Nat}{r:YL}(h:Br w br r)(x:Int):Br (w.setCell (O br 6) (Y x)) br {r with x:=x}:=
 ⟨(YJ _ _ _ _ _ _ J).trans h.c0,(YJ _ _ _ _ _ _ J).trans h.c1,(YJ _ _ _ _ _ _ J).trans h.c2,(YJ _ _ _ _ _ _ J).trans h.c3,(YJ _ _ _ _ _ _ J).trans h.c4,(YJ _ _ _ _ _ _ J).trans h.c5,bo _ _ _ h.c6,λq=>(bR _ _ _ _).trans (h.fz q),by simpa[World.setCell]using h.lt⟩
theorem Br.El {w:A}{br:Nat}{r:YL}(h:Br w br r)(hp:r.pv=af)(B:Nat)(hB:br<B):Rl w br B (af) [] (λq=>w.cell? (O br q)):=
 ⟨by rw[h.c1,hp],h.fz 1,⟨_,h.c2⟩,h.fz 2,⟨_,h.c3⟩,h.fz 3,ed _ _ _ _,h.lt,hB,λ_ _ _ _=>rfl,h.fz⟩
theorem Br.Ek {w w':A}{br B:Nat}{r:YL}{vL:aF}{parts:List (Int×Int)}{rel:aA}{n:Int}(h:Br w br r)(hR:Rl w' br B vL parts (λq=>w.cell? (O br q)))(h2:ak w' br 2 (.string rel))(h3:ak w' br 3 (Y n)):Br w' br {r with parts:=parts,pv:=vL,rel:=rel,n:=n}:=
 ⟨(hR.MN 0 J J J).trans h.c0,hR.c1,h2,h3,(hR.MN 4 J J J).trans h.c4,(hR.MN 5 J J J).trans h.c5,(hR.MN 6 J J J).trans h.c6,hR.fz,hR.lt⟩
theorem Gk:(prog.info? 176).map (λi=>(i.zero,i.size,i.bytes))=some (some (.agg #[.int .u8 0,af,.string .empty,Y 0,Y 0,Y 0,Y 0]),7,80):=pH
end
end Go.Proofs.YthpcbbnabnlanaaGreatDoor
