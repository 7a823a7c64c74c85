import Derived.Test.YthpcbbnabnlanaaGreatDoorM02
import Derived.Test.YthpcbbnabnlanaaGreatDoorM07
import Derived.Test.YthpcbbnabnlanaaGreatDoorM09
import Derived.Test.YthpcbbnabnlanaaGreatDoorM10
import Derived.Test.YthpcbbnabnlanaaGreatDoorM20
import Derived.Test.YthpcbbnabnlanaaGreatDoorM13
import Derived.Test.YthpcbbnabnlanaaGreatDoorM18
import Derived.Test.YthpcbbnabnlanaaGreatDoorM21
import Derived.Deep.QuietTactic
import Derived.BigQuiet
import Derived.Lib.ItoaNum
namespace Go.Proofs.YthpcbbnabnlanaaGreatDoor
set_option maxHeartbeats 8000000
set_option maxRecDepth 100000
open Go.Proofs.Tryz
open Go.RowKit
set_option linter.all false
section
variable {w w':A}
def Ox (v:Xx)(x:Int):Bool:=decide (v.low<=x)&&decide (x<=v.high)
def VQ:List Xx->az->Bool
 |[],[]=>true
 |v::vs,x::xs=>Ox v x&&VQ vs xs
 |_,_=>false
def Ut (vars:List Xx)(cons:List Yz)(Z7:az):Bool:=VQ vars Z7&&cons.all (Yt Z7)
structure PQ (w:A)(bc B:Nat)(vV vC:aF)(vars:List Xx)(cs:List X7):Prop where
 c1:w.cell? (O bc 1)=some vV
 c2:w.cell? (O bc 2)=some vC
 lt:bc<w.heap.size
 ov:w.ownsRow B 78 3 vV vars.length (vars.flatMap Rb)
 oc:w.ownsRow B 99 10 vC cs.length (cs.flatMap X7.cells)
 at_:∀x∈cs,NQ w B x
theorem PQ.grown {bc B:Nat}{vV vC:aF}{vars:List Xx}{cs:List X7}(h:PQ w bc B vV vC vars cs)(z:aB w w'):PQ w' bc B vV vC vars cs:=
 ⟨z.cell h.c1 pG,z.cell h.c2 pG,dH h.lt z.size,h.ov.kept z (XY _),h.oc.kept z (XY _),λx hx=>(h.at_ x hx).but ((Y9.refl [] w).grown z (λk e=>pL)) (λk I=>vh)⟩
def Lj (w:A)(v:aF)(Z7:az):Prop:=(Z7=[]/\∃a c,v=.slice a 0 c)\/∃g cap,SU w v g cap Z7
theorem Lj.is {v:aF}{Z7:az}(h:Lj w v Z7):∃a c,v=.slice a Z7.length c:=by
 rcases h with⟨rfl,a,c,e⟩|⟨g,cap,h⟩
 ·exact⟨a,c,e⟩
 ·exact⟨_,_,h.is⟩
theorem Ik:∀{vars:List Xx} {Z7:az},VQ vars Z7=true->Z7.length=vars.length
 |[],[],_=>rfl
 |v::vs,x::xs,h=>by simp[VQ]at h;have:=Ik h.2;simp[this]
 |[],_::_,h=>by simp[VQ]at h
 |_::_,[],h=>by simp[VQ]at h
theorem ah7:∀{vars:List Xx} {Z7:az},Z7.length≠vars.length->VQ vars Z7=false:=λ{vars Z7} h=>by
 cases e:VQ vars Z7 with
 |false=>rfl
 |true=>exact absurd (Ik e) h
def lA{P:Prop}(h:P:=by
 rintro⟨F,h2⟩ i v' x' hv hx
 cases i with
 |zero=>simp at hv hx;subst hv hx;exact F
 |succ i=>exact h2 i v' x' (by simpa using hv) rK):P:=h
theorem Ba:∀{vars:List Xx} {Z7:az},Z7.length=vars.length->(VQ vars Z7=true↔∀(i:Nat) v x,vars[i]?=some v->Z7[i]?=some x->Ox v x=true)
 |[],[],_=>by simp[VQ]
 |v::vs,x::xs,h=>by
  have ih:=Ba (vars:=vs) (Z7:=xs) pX;simp only[VQ,eC,ih];constructor
  ·exact lA
  ·intro bg;exact⟨bg 0 v x rfl rfl,λi v' x' hv hx=>bg (i+1) v' x' (by simpa using hv) rK⟩
 |[],_::_,h=>pZ
 |_::_,[],h=>pZ
def kU{P:Prop}(h:P:=by
 rw[Hid,HR.out]
 cases e:VQ vars Z7 with
 |false=>rfl
 |true=>
  have q:=O7.out.1 e i v x DN.out.1 DN.out.2;simp[Ox]at q;omega):P:=h
theorem ah8 {bc B:Nat}{vV vC vv:aF}{vars:List Xx}{cs:List X7}{Z7:az}(h:PQ w bc B vV vC vars cs)(hV:Lj w vv Z7)(hl:vars.length<=3000):aq 47 #[.pointer (some (O bc 1)),vv] w (au w (.bool (VQ vars Z7))):=by
 obtain⟨R,hR⟩:∃R,R=VQ vars Z7:=⟨_,rfl⟩;have HR:Hid (R=VQ vars Z7):=hR;rw[<-hR];clear hR;obtain⟨va,vc,rfl⟩:=hV.is;obtain⟨ra,rc,bC⟩:=Wt h.ov;have c1:=h.c1;rw[bC]at c1;have bB:=Z8 bC;have HS:=Z8 h;have HV:=Z8 hV;have ZR:=h.lt;clear h hV bC;by_cases hn:Z7.length=vars.length
 ·have bp:((Z7.length:Int) != (vars.length:Int))=false:=by simp[hn]
  have O7:=Z8 (Ba hn);go_enter func47,ntmps47;go_wp2
  go_loopw [20] (λvi wr=>∃i:Nat,i<=vars.length/\vi=Y i/\(∀(j:Nat) v x,j<i->vars[j]?=some v->Z7[j]?=some x->Ox v x=true)/\aB w wr) (λvi _=>vars.length-(intOf vi).toNat)
  case atStart=>exact⟨0,iz _,rfl,λj v x hj=>J,WW _ _⟩
  case round=>
   obtain⟨i,hi,rfl,bg,ZX⟩:=hrel;have aC:=Z8 bg;clear bg;by_cases YK:i<vars.length
   ·obtain⟨v,hv⟩:∃v,vars[i]?=some v:=⟨vars[i],aZ YK⟩;obtain⟨x,hx⟩:∃x,Z7[i]?=some x:=⟨Z7[i]'J,aZ J⟩;obtain⟨gr,cr,bs,_⟩:=YR.TX HS.out.ov J;have er:ra=some (ah gr):=by
     have q:=bs.is;rw[bB.out]at q;injection q with q1 q2 q3
    subst er;rcases HV.out with⟨rfl,_⟩|⟨gv,cv,aw⟩
    ·simp at hx
    have ev:va=some (ah gv):=by
     have q:=aw.is;injection q with q1 q2 q3
    subst ev;have hR:=bs.kept ZX pG;have k0:ak wr gr (i*3) (.string v.name):=hR.at (sz:=3) (λ_=>rfl) hv 0 _ rfl
    have k1:ak wr gr (i*3+1) (Y v.low):=hR.at (sz:=3) (λ_=>rfl) hv 1 _ rfl
    have k2:ak wr gr (i*3+2) (Y v.high):=hR.at (sz:=3) (λ_=>rfl) hv 2 _ rfl
    have k3:wr.cell? (O gv i)=some (Y x):=by have q:=(aw.kept ZX pG).at (sz:=1) (λ_=>rfl) hx 0 _ rfl;rw[iy]at q;exact q
    have cG:gv<wr.heap.size:=dH aw.lt ZX.size;have X8:(i:Int)<vars.length:=J;have bJ:(i:Int)<Z7.length:=J;have Xy:(0:Int)<=i:=J;have Zm:=Z8 ZX;have DN:=Z8 (iG hv hx);clear bs aw hR ZX hv hx;by_cases c1:x<v.low
    ·have HE:Hid (R=false):=by
      exact kU
     go_wp2;exact ku
    ·have aY:decide (x<v.low)=false:=ry;by_cases c2:v.high<x
     ·have HE:Hid (R=false):=by
       exact kU
      clear c1;go_wp2;exact ku
     ·have bn:decide (v.high<x)=false:=th;have HE:Hid (∀(j:Nat) v x,j<i+1->vars[j]?=some v->Z7[j]?=some x->Ox v x=true):=λj v' x' hj hv hx=>by
       by_cases e:j=i
       ·subst e;rw[DN.out.1]at hv;rw[DN.out.2]at hx;injection hv with hv;injection hx with hx;subst hv hx;simp[Ox];omega
       ·exact aC.out j v' x' J hv hx
      clear c1 c2;exact kN
   ·obtain rfl:i=vars.length:=J;have HE:Hid (R=true):=by
     rw[Hid,HR.out];exact O7.out.2 (λj v x hv hx=>aC.out j v x (aU.1 hv).1 hv hx)
    go_wp2;exact kZ
 ·have bp:((Z7.length:Int) != (vars.length:Int))=true:=pI;have HE:Hid (R=false):=by rw[Hid,HR.out];exact ah7 hn
  go_enter func47,ntmps47;go_wp2;go_ret;rw[HE.out];exact⟨rfl,WW _ _⟩
end
section
variable {w w':A}
def O6 (w:A)(g o:Nat)(Z7:az):Prop:=∀p,YX Z7.length p->w.cell? (O g (o+p.toNat))=some (Y (ZB Z7 p))
theorem O6.grown {g o:Nat}{Z7:az}(h:O6 w g o Z7)(z:aB w w'):O6 w' g o Z7:=λp hp=>z.cell (h p hp) pG
structure Ij (w:A)(b o:Nat)(r:YL)(a:ax)(c:Nat):Prop where
 k0:w.cell? (O b o)=some (.int .u8 r.sort)
 k1:w.cell? (O b (o+1))=some (.slice a r.parts.length c)
 k2:w.cell? (O b (o+2))=some (.string r.rel)
 k3:w.cell? (O b (o+3))=some (Y r.n)
 k4:w.cell? (O b (o+4))=some (Y r.v)
 k5:w.cell? (O b (o+5))=some (Y r.w)
 k6:w.cell? (O b (o+6))=some (Y r.x)
 pt:∀j p,r.parts[j]?=some p->∃g,a=some (ah g)/\w.cell? (O g (j*2))=some (Y p.1)/\w.cell? (O g (j*2+1))=some (Y p.2)
theorem Ij.grown {b o c:Nat}{r:YL}{a:ax}(h:Ij w b o r a c)(z:aB w w'):Ij w' b o r a c:=
 have k:∀{x u},w.cell? x=some u->w'.cell? x=some u:=λe=>z.cell e pG
 ⟨k h.k0,k h.k1,k h.k2,k h.k3,k h.k4,k h.k5,k h.k6,λj p hp=>by obtain⟨g,e,F,h2⟩:=h.pt j p hp;exact⟨g,e,k F,k h2⟩⟩
def Ny (Z7:az)(r:YL)(i:Nat):Int:=UE Z7 ((r.parts.take i).map Qy)
theorem ah9 {b:aA}{x y:Int}(h:b.toList=[61]):Vi (QN b) x y=(x==y):=by unfold QN Vi;rw[iR h];rfl
theorem aia {b:aA}{x y:Int}(h0:¬b.toList=[61])(h:b.toList=[33,61]):Vi (QN b) x y=(x != y):=by unfold QN Vi;rw[iQ h0,iR h];rfl
theorem aib {b:aA}{x y:Int}(h0:¬b.toList=[61])(h:¬b.toList=[33,61]):Vi (QN b) x y=decide (x<=y):=by unfold QN Vi;rw[iQ h0,iQ h];rfl
def kR{P:Prop}(h:P:=by
 go_wp2;go_ret;exact⟨by rw[HE.out];rfl,Zm.out⟩):P:=h
theorem aas {b o c gv ov cv:Nat}{r:YL}{a:ax}{Z7:az}(h:Ij w b o r a c)(hV:O6 w gv ov Z7)(ar:∀p∈r.parts,YX Z7.length p.2/\-100<=p.1/\p.1<=100)(Yv:∀x∈Z7,-1000<=x/\x<=1000)(hl:r.parts.length<=8)(Ws:Z7.length<=1000):aq 142 #[.pointer (some (O b o)),.slice (some (O gv ov)) Z7.length cv] w (au w (.bool (Vi (QN r.rel) (UE Z7 (r.parts.map Qy)) r.n))):=by
 obtain⟨R,hR⟩:∃R,R=Vi (QN r.rel) (UE Z7 (r.parts.map Qy)) r.n:=⟨_,rfl⟩;rw[<-hR];have HR:=Z8 hR;have HH:=Z8 h;have HV:=Z8 hV;have a8:=Z8 ar;clear h hV ar hR;go_enter func142,ntmps142;go_wp2
 go_loopw [5,6] (λvs vi wr=>∃i:Nat,i<=r.parts.length/\vi=Y i/\vs=Y (Ny Z7 r i)/\aB w wr) (λ_ vi _=>r.parts.length-(intOf vi).toNat)
 case atStart=>exact⟨0,iz _,rfl,rfl,WW _ _⟩
 case round=>
  obtain⟨i,hi,rfl,rfl,ZX⟩:=hrel;have hI:=HH.out.grown ZX;have q1:=hI.k1;have Zm:=Z8 ZX;by_cases ZR:i<r.parts.length
  ·obtain⟨p,hp⟩:∃p,r.parts[i]?=some p:=⟨r.parts[i],by simp[ZR]⟩;obtain⟨aL,aI,WR⟩:=a8.out p (cq hp);obtain⟨g,rfl,c1,c2⟩:=hI.pt i p hp;have c3:=HV.out.grown ZX p.2 aL;have hx:=FX Yv p.2;have hs:=aao Yv ((r.parts.take i).map Qy) (λq hq=>by
    obtain⟨q0,bl,rfl⟩:=gU.1 hq;exact(a8.out q0 (cy bl)).2)
   have aP:Hid (Ny Z7 r (i+1)=Ny Z7 r i+p.1*ZB Z7 p.2):=by
    unfold Hid Ny;rw[dX,hp,fD];exact aan _ _ _
   have hm:=FW aI WR hx.1 hx.2;have aH:(((r.parts.take i).map Qy).length:Int)<=8:=by rw[fy];have:=cY i r.parts;omega
   have ba:=aL.1;have bh:=aL.2;have X8:(i:Int)<r.parts.length:=J;have Xy:(0:Int)<=i:=J;obtain⟨a1,a2⟩:=p;change-100000*_<=Ny Z7 r i/\Ny Z7 r i<=_ at hs;simp only at *;generalize ZB Z7 a2=X at *;generalize Ny Z7 r i=S at *;have YB:-800000<=S:=J;have YM:S<=800000:=J;have bq:=hm.1;have Sm:=hm.2;have WG:=hx.1;have WH:=hx.2;clear hI ZX hs aH aL hp hm hx;go_wp2;go_quiet (fail);go_wp2;go_roundw
   case rel=>exact⟨i+1,J,pQ,by rw[aP.out],Zm.out.trans (XN _ _ _)⟩
   case measure=>simp[intOf]<;>omega
  ·obtain rfl:i=r.parts.length:=J;have q2:=hI.k2;have q3:=hI.k3;have eS:Ny Z7 r r.parts.length=UE Z7 (r.parts.map Qy):=by unfold Ny;rw[bH (iw _)]
   rw[<-eS]at HR;generalize Ny Z7 r r.parts.length=S at *;clear hI ZX eS;by_cases h0:r.rel.toList=[61]
   ·have HE:=Z8 (HR.out.trans (ah9 (x:=S) (y:=r.n) h0));exact kR
   ·by_cases F:r.rel.toList=[33,61]
    ·have HE:=Z8 (HR.out.trans (aia (x:=S) (y:=r.n) h0 F));exact kR
    ·have HE:=Z8 (HR.out.trans (aib (x:=S) (y:=r.n) h0 F));have Z:(r.rel.toList==[61])=false:=by rw[dn];exact h0
     have bG:(r.rel.toList==[33,61])=false:=by rw[dn];exact F
     clear h0 F;exact kR
end
section
variable {w w':A}
def FU (w:A)(la:ax)(L:List YZ):Prop:=∀j l,L[j]?=some l->∃gl na nc,la=some (ah gl)/\w.cell? (O gl (j*2+1))=some (.slice na l.Xb.length nc)/\∀k x,l.Xb[k]?=some x->∃g,na=some (ah g)/\w.cell? (O g k)=some (Y x)
theorem FU.grown {la:ax}{L:List YZ}(h:FU w la L)(z:aB w w'):FU w' la L:=λj l hl=>by
 obtain⟨gl,na,nc,F,h2,h3⟩:=h j l hl;exact⟨gl,na,nc,F,z.cell h2 pG,λk x hx=>by obtain⟨g,e,q⟩:=h3 k x hx;exact⟨g,e,z.cell q pG⟩⟩
structure aat (n:Nat)(Z7:az)(r:YL):Prop where
 JT:r.sort=105\/r.sort=119->(∀p∈r.parts,YX n p.2/\-100<=p.1/\p.1<=100)/\r.parts.length<=8
 wh:r.sort=119->YX n r.v
 at_:r.sort=97->YX n r.v/\YX n r.w
 dif:r.sort=100->(∀p∈r.parts,YX n p.2)/\r.parts.length<=8
 ors:r.sort=111->(∀p∈r.parts,YX n p.2/\(p.1=0\/p.1=1)/\(ZB Z7 p.2=0\/ZB Z7 p.2=1))/\r.parts.length<=8
section
variable {b o c bm lc gv ov cv:Nat}{r:YL}{a la:ax}{L:List YZ}{Z7:az}
structure Ii (w:A)(b o c bm lc gv ov:Nat)(r:YL)(a la:ax)(L:List YZ)(Z7:az):Prop where
 h:Ij w b o r a c
 m2:w.cell? (O bm 2)=some (.slice la L.length lc)
 ll:FU w la L
 v:O6 w gv ov Z7
 fit:aat Z7.length Z7 r
 ok:Lm (L.map YZ.bare) r.bare
 vb:∀x∈Z7,-1000<=x/\x<=1000
 vn:Z7.length<=1000
 lb:∀l∈L,l.Xb.length<=20
 ln:L.length<=4000
abbrev O5 (w:A)(b o bm gv ov cv:Nat)(r:YL)(L:List YZ)(Z7:az):Prop:=
 aq 105 #[ai bm,.pointer (some (O b o)),.slice (some (O gv ov)) Z7.length cv] w λe w'=>e=.returned (.bool (Yt Z7 (W4 (L.map YZ.bare) r.bare)))/\aB w w'
theorem aic (h:Ii w b o c bm lc gv ov r a la L Z7)(hs:r.sort=105):O5 w b o bm gv ov cv r L Z7:=by
 have k0:=h.h.k0;rw[hs]at k0;have KH:=ZQ.mk (aas (cv:=cv) h.h h.v (h.fit.JT (.inl hs)).1 h.vb (h.fit.JT (.inl hs)).2 h.vn);have HE:Hid (Yt Z7 (W4 (L.map YZ.bare) r.bare)=Vi (QN r.rel) (UE Z7 (r.parts.map Qy)) r.n):=by
  unfold Hid W4 Yt YL.bare;simp[hs]
 unfold O5;rw[HE.out];clear h HE;go_enter func105,ntmps105;go_wp2_with (go_at_call 142;refine KH.get.mono ?_;rintro e w1 ⟨rfl,z⟩);go_ret;exact⟨rfl,z⟩
theorem aid (h:Ii w b o c bm lc gv ov r a la L Z7)(hs:r.sort=119):O5 w b o bm gv ov cv r L Z7:=by
 have k0:=h.h.k0;rw[hs]at k0;have KH:=ZQ.mk (aas (cv:=cv) h.h h.v (h.fit.JT (.inr hs)).1 h.vb (h.fit.JT (.inr hs)).2 h.vn);have HE:Hid (Yt Z7 (W4 (L.map YZ.bare) r.bare)=((ZB Z7 r.v==1)==Vi (QN r.rel) (UE Z7 (r.parts.map Qy)) r.n)):=by
  unfold Hid W4 Yt YL.bare;simp[hs];rw[Bool.beq_comm]
 unfold O5;rw[HE.out];have hp:=h.fit.wh hs;have ba:=hp.1;have bh:=hp.2;have Ws:=h.vn;have v0:=h.v r.v hp;have q4:=h.h.k4;obtain⟨R,hR⟩:∃R,Vi (QN r.rel) (UE Z7 (r.parts.map Qy)) r.n=R:=⟨_,rfl⟩;rw[hR]at KH⊢;generalize ZB Z7 r.v=X at *;clear h HE hR hp;go_enter func105,ntmps105;go_wp2_with (go_at_call 142;refine KH.get.mono ?_;rintro e w1 ⟨rfl,z⟩;have v1:=z.cell v0 pG;have q5:=z.cell q4 pG)
 all_goals go_ret
 all_goals exact⟨by simp_all,z⟩
def ke{P:Prop}(h:P:=by
 go_enter func105,ntmps105;go_wp2;go_quiet (fail);go_wp2;go_quiet (fail);go_wp2;go_ret;exact⟨rfl,(XN _ _ _).trans (XN _ _ _)⟩):P:=h
theorem aie (h:Ii w b o c bm lc gv ov r a la L Z7)(hs:r.sort=97):O5 w b o bm gv ov cv r L Z7:=by
 have k0:=h.h.k0;rw[hs]at k0;obtain⟨hp,he⟩:=h.fit.at_ hs;obtain⟨x0,xl⟩:=h.ok.x hs;change 0<=r.x at x0;change r.x.toNat<(L.map YZ.bare).length at xl;rw[fy]at xl;obtain⟨l,hl⟩:∃l,L[r.x.toNat]?=some l:=⟨L[r.x.toNat],by simp[xl]⟩;obtain⟨gl,na,nc,rfl,c1,c2⟩:=h.ll _ l hl;obtain⟨anS,hJ⟩:∃anS:Nat,r.x=anS:=⟨r.x.toNat,J⟩;have a7:=h.lb l (cq hl);have HE:Hid (Yt Z7 (W4 (L.map YZ.bare) r.bare)=(decide (1<=ZB Z7 r.v)&&decide (ZB Z7 r.v<=l.Xb.length)&&decide (l.Xb.getD (ZB Z7 r.v-1).toNat 0=ZB Z7 r.w))):=by
  unfold Hid W4 Yt YL.bare PR;simp[hs,hl,YZ.bare]
 unfold O5;rw[HE.out];have ba:=hp.1;have bh:=hp.2;have bL:=he.1;have bD:=he.2;have Ws:=h.vn;have bF:=h.ln;have v1:=h.v r.v hp;have v2:=h.v r.w he;have q4:=h.h.k4;have q5:=h.h.k5;have q6:=h.h.k6;have m2:=h.m2;have hb:=FX h.vb r.v;have bb:=hb.1;have aK:=hb.2;rw[hJ]at q6 hl c1 xl;simp only[dJ]at hl c1 xl;have cm:(0:Int)<=anS:=J;have cn:(anS:Int)<L.length:=J;have aX:=Z8 c2;generalize ZB Z7 r.v=PV at *;generalize ZB Z7 r.w=PW at *;clear h HE hp he hb hl x0 hJ c2;by_cases aY:1<=PV
 ·by_cases bn:PV<=l.Xb.length
  ·obtain⟨anX,hI⟩:∃anX:Nat,PV=(anX:Int)+1:=⟨(PV-1).toNat,J⟩;have bA:anX<l.Xb.length:=J;obtain⟨y,hy⟩:∃y,l.Xb[anX]?=some y:=⟨l.Xb[anX],aZ bA⟩;obtain⟨g,rfl,kl⟩:=aX.out anX y hy;have HA:Hid ((decide (1<=PV)&&decide (PV<=l.Xb.length)&&decide (l.Xb.getD (PV-1).toNat 0=PW))=(y==PW)):=by
    rw[Hid,gj aY,gj bn,show(PV-1).toNat=anX by omega,aN,hy];rfl
   rw[HA.out];subst hI;have cp:(1:Int)<=(anX:Int)+1:=J;have ct:(anX:Int)+1<=l.Xb.length:=J;have bR:(0:Int)<=anX:=J;have bT:(anX:Int)<l.Xb.length:=J;have eI:(anX:Int)+1-1=anX:=J;clear hy aY bn bb aK HA aX;exact ke
  ·have cu:decide (PV<=(l.Xb.length:Int))=false:=by simpa using bn
   have HA:Hid ((decide (1<=PV)&&decide (PV<=l.Xb.length)&&decide (l.Xb.getD (PV-1).toNat 0=PW))=false):=by rw[Hid];simp[bn]
   rw[HA.out];clear bn;exact ke
 ·have cw:decide ((1:Int)<=PV)=false:=by simpa using aY
  have HA:Hid ((decide (1<=PV)&&decide (PV<=l.Xb.length)&&decide (l.Xb.getD (PV-1).toNat 0=PW))=false):=by rw[Hid];simp[aY]
  rw[HA.out];clear aY;exact ke
end
end
section
variable {w w':A}
section
variable {b o c bm lc gv ov cv:Nat}{r:YL}{a la:ax}{L:List YZ}{Z7:az}
theorem aif {p:Int×Int}{r:YL}{i:Nat}(h:r.parts[i]?=some p):(r.parts.map (·.2))[i]?=some p.2:=by rw[dR,h];rfl
def lK{P:Prop}(h:P:=by
 go_wp2;go_quiet (fail);go_wp2;go_ret;rw[HX.out];exact⟨rfl,Zm.out.trans (XN _ _ _)⟩):P:=h
theorem aih (h:Ii w b o c bm lc gv ov r a la L Z7)(hs:r.sort=100):O5 w b o bm gv ov cv r L Z7:=by
 have k0:=h.h.k0;rw[hs]at k0;have HE:Hid (Yt Z7 (W4 (L.map YZ.bare) r.bare)=Sx Z7 (r.parts.map (·.2))):=by
  unfold Hid W4 Yt YL.bare;simp[hs]
 unfold O5;rw[HE.out];have a8:=Z8 (h.fit.dif hs).1;have hl:=(h.fit.dif hs).2;have Ws:=h.vn;have HH:=Z8 h.h;have HV:=Z8 h.v;obtain⟨vars,aj⟩:∃l:az,l=r.parts.map (·.2):=⟨_,rfl⟩;have Yv:vars.length=r.parts.length:=by rw[aj,fy]
 have HP:Hid (∀(i:Nat) (p:Int×Int),r.parts[i]?=some p->vars[i]?=some p.2):=λi p hp=>by rw[aj];exact aif hp
 rw[<-aj];obtain⟨R,hR⟩:∃R,R=Sx Z7 vars:=⟨_,rfl⟩;have HR:=Z8 hR;rw[<-hR];clear h HE hR aj;go_enter func105,ntmps105;go_wp2
 go_loopw [10] (λvi wr=>∃i:Nat,i<=r.parts.length/\vi=Y i/\((List.range i).all λi=>Oy Z7 vars i)=true/\aB w wr) (λvi _=>r.parts.length-(intOf vi).toNat)
 case atStart=>exact⟨0,iz _,rfl,rfl,WW _ _⟩
 case round=>
  obtain⟨i,hi,rfl,Uu,ZX⟩:=hrel;have Tj:=Z8 Uu;have q1:=(HH.out.grown ZX).k1;clear Uu;by_cases ZR:i<r.parts.length
  ·obtain⟨p,hp⟩:∃p,r.parts[i]?=some p:=⟨r.parts[i],by simp[ZR]⟩;have aL:=a8.out p (cq hp);have X8:(i:Int)<r.parts.length:=J;have Xy:(0:Int)<=i:=J;have JS:=Z8 (show vars.getD i 0=p.2 by simp[aN,HP.out i p hp]);have HS:Hid (∃j:Nat,j<=i/\(Y 0)=Y j/\((vars.take j).all λu=>decide (ZB Z7 p.2≠ZB Z7 u))=true/\aB w wr):=⟨0,iz _,rfl,rfl,ZX⟩
   have HA:=Z8 hp;clear ZX hp;go_wp2
   go_loopw [11] (λvi wr=>∃j:Nat,j<=i/\vi=Y j/\((vars.take j).all λu=>decide (ZB Z7 p.2≠ZB Z7 u))=true/\aB w wr) (λvi _=>i-(intOf vi).toNat)
   case atStart=>exact HS.out
   case round=>
    clear HS q1;obtain⟨j,hj,rfl,br,ZX⟩:=hrel;have Lk:=Z8 br;have Zm:=Z8 ZX;clear br;have hI:=HH.out.grown ZX;have q1:=hI.k1;by_cases YK:j<i
    ·obtain⟨u,hu⟩:∃u,r.parts[j]?=some u:=⟨r.parts[j]'J,aZ J⟩;have aQ:=a8.out u (cq hu);obtain⟨g,rfl,c1,c2⟩:=hI.pt i p HA.out;obtain⟨g',eg,d1,d2⟩:=hI.pt j u hu;injection eg with eg;injection eg with eg _ _;subst eg;have k1:=HV.out.grown ZX p.2 aL;have k2:=HV.out.grown ZX u.2 aQ;have ba:=aL.1;have bh:=aL.2;have aW:=aQ.1;have bj:=aQ.2;have bJ:(j:Int)<i:=J;have bS:(j:Int)<r.parts.length:=J;have FV:(0:Int)<=j:=J;have af:=HP.out j u hu;have bK:=Z8 (aaq (Z7:=Z7) (i:=i) af (ZB Z7 p.2));by_cases hc:ZB Z7 p.2=ZB Z7 u.2
     ·have HX:Hid (R=false):=by
       rw[Hid,HR.out];unfold Sx;rw[dM];refine⟨i,fX.2 J,?_⟩;unfold Oy;rw[JS.out];rw[eE];intro bg;have q:=bg u.2 (aV.2 ⟨j,J,by rw[(aU.1 af).2]⟩);simp[hc]at q
      have bo:(ZB Z7 p.2==ZB Z7 u.2)=true:=qy;obtain⟨p0,pv⟩:=p;obtain⟨u0,uv⟩:=u;simp only at *;generalize ZB Z7 pv=X at *;generalize ZB Z7 uv=anR at *;clear ZX hc hu aL aQ bK hI af;exact lK
     ·have bo:(ZB Z7 p.2==ZB Z7 u.2)=false:=qy;have HX:Hid (((vars.take (j+1)).all λu=>decide (ZB Z7 p.2≠ZB Z7 u))=true):=by
       rw[Hid,bK.out,Lk.out];simpa using hc
      clear Lk;clear ZX hc hu aQ bK hI af;go_wp2;go_quiet (fail);go_wp2;go_roundw
      case rel=>exact⟨j+1,J,pQ,HX.out,Zm.out.trans (XN _ _ _)⟩
      case measure=>simp[intOf]<;>omega
    ·obtain rfl:j=i:=J;have HX:Hid (((List.range (j+1)).all λi=>Oy Z7 vars i)=true):=by
      exact lO
     clear ZX hI;go_wp2;go_roundw
     case rel=>exact⟨j+1,J,pQ,HX.out,Zm.out⟩
     case measure=>simp[intOf]<;>omega
  ·obtain rfl:i=r.parts.length:=J;have HX:Hid (R=true):=by rw[Hid,HR.out];unfold Sx;rw[Yv];exact Tj.out
   go_wp2;go_ret;rw[HX.out];exact⟨rfl,ZX⟩
def JR (p:Int×Int):Int×Int:=(p.2,1-p.1)
theorem aii (h:Ii w b o c bm lc gv ov r a la L Z7)(hs:r.sort=111):O5 w b o bm gv ov cv r L Z7:=by
 have k0:=h.h.k0;rw[hs]at k0;have HE:Hid (Yt Z7 (W4 (L.map YZ.bare) r.bare)=Sa Z7 (r.parts.map JR)):=by
  unfold Hid W4 Yt YL.bare;simp[hs];rfl
 unfold O5;rw[HE.out];have a8:=Z8 (h.fit.ors hs).1;have hl:=(h.fit.ors hs).2;have Ws:=h.vn;have HH:=Z8 h.h;have HV:=Z8 h.v;obtain⟨R,hR⟩:∃R,R=Sa Z7 (r.parts.map JR):=⟨_,rfl⟩;have HR:=Z8 hR;rw[<-hR];clear h HE hR;go_enter func105,ntmps105;go_wp2
 go_loopw [12] (λvi wr=>∃i:Nat,i<=r.parts.length/\vi=Y i/\Sa Z7 ((r.parts.take i).map JR)=false/\aB w wr) (λvi _=>r.parts.length-(intOf vi).toNat)
 case atStart=>exact⟨0,iz _,rfl,rfl,WW _ _⟩
 case round=>
  obtain⟨i,hi,rfl,Uu,ZX⟩:=hrel;have Tj:=Z8 Uu;clear Uu;have hI:=HH.out.grown ZX;have q1:=hI.k1;have Zm:=Z8 ZX;by_cases ZR:i<r.parts.length
  ·obtain⟨p,hp⟩:∃p,r.parts[i]?=some p:=⟨r.parts[i],by simp[ZR]⟩;obtain⟨aL,hf,hv⟩:=a8.out p (cq hp);obtain⟨g,rfl,c1,c2⟩:=hI.pt i p hp;have k2:=HV.out.grown ZX p.2 aL;have ba:=aL.1;have bh:=aL.2;have X8:(i:Int)<r.parts.length:=J;have Xy:(0:Int)<=i:=J;by_cases hc:ZB Z7 p.2=p.1
   ·have bo:(ZB Z7 p.2 != p.1)=false:=qy;have HX:Hid (Sa Z7 ((r.parts.take (i+1)).map JR)=false):=by
     rw[Hid,dX,hp,fD];unfold Sa;rw[List.any_append];have F:(((r.parts.take i).map JR).any λp=>decide (ZB Z7 p.1=p.2))=false:=Tj.out
     rw[F];simp[JR];omega
    obtain⟨p0,pv⟩:=p;simp only at *;generalize ZB Z7 pv=X at *;clear ZX hc aL hf hv hI hp Tj;go_wp2;go_quiet (fail);go_wp2;go_roundw
    case rel=>exact⟨i+1,J,pQ,HX.out,Zm.out.trans (XN _ _ _)⟩
    case measure=>simp[intOf]<;>omega
   ·have bo:(ZB Z7 p.2 != p.1)=true:=qy;have HX:Hid (R=true):=by
     rw[Hid,HR.out];have e:ZB Z7 p.2=1-p.1:=by rcases hf with q|q<;>rcases hv with q'|q'<;>omega
     exact eF.2 ⟨JR p,gU.2 ⟨p,cq hp,rfl⟩,gj e⟩
    obtain⟨p0,pv⟩:=p;simp only at *;generalize ZB Z7 pv=X at *;clear ZX hc aL hf hv hI hp Tj;exact lK
  ·obtain rfl:i=r.parts.length:=J;have HX:Hid (R=false):=by
    exact mY
   clear ZX hI;go_wp2;go_ret;rw[HX.out];exact⟨rfl,Zm.out⟩
theorem aij (h:Ii w b o c bm lc gv ov r a la L Z7):O5 w b o bm gv ov cv r L Z7:=by
 rcases h.ok.sort with e|e|e|e|e
 ·exact aic h e
 ·exact aid h e
 ·exact aie h e
 ·exact aih h e
 ·exact aii h e
end
end
section
variable {w w':A}
structure JQ (w:A)(bm:Nat)(va la ra:ax)(vc lc rc:Nat)(vars:List Y7)(L:List YZ)(R:List YL):Prop where
 m1:w.cell? (O bm 1)=some (.slice va vars.length vc)
 m2:w.cell? (O bm 2)=some (.slice la L.length lc)
 m3:w.cell? (O bm 3)=some (.slice ra R.length rc)
 v:∀(j:Nat) (x:Y7),vars[j]?=some x->∃g,va=some (ah g)/\w.cell? (O g (j*3))=some (.string x.name)/\w.cell? (O g (j*3+1))=some (Y x.low)/\w.cell? (O g (j*3+2))=some (Y x.high)
 l:FU w la L
 r:∀(j:Nat) (x:YL),R[j]?=some x->∃g a c,ra=some (ah g)/\Ij w g (j*7) x a c
theorem JQ.grown {bm vc lc rc:Nat}{va la ra:ax}{vars:List Y7}{L:List YZ}{R:List YL}(h:JQ w bm va la ra vc lc rc vars L R)(z:aB w w'):JQ w' bm va la ra vc lc rc vars L R:=
 have k:∀{x u},w.cell? x=some u->w'.cell? x=some u:=λe=>z.cell e pG
 ⟨k h.m1,k h.m2,k h.m3,λj x hx=>by obtain⟨g,e,F,h2,h3⟩:=h.v j x hx;exact⟨g,e,k F,k h2,k h3⟩,h.l.grown z,λj x hx=>by obtain⟨g,a,c,e,F⟩:=h.r j x hx;exact⟨g,a,c,e,F.grown z⟩⟩
def Li (v:Y7)(x:Int):Bool:=decide (v.low<=x)&&decide (x<=v.high)
def PO:List Y7->az->Bool
 |[],[]=>true
 |v::vs,x::xs=>Li v x&&PO vs xs
 |_,_=>false
def JP (vars:List Y7)(L:List YZ)(R:List YL)(Z7:az):Bool:=PO vars Z7&&R.all λr=>Yt Z7 (W4 (L.map YZ.bare) r.bare)
theorem aau:∀{vars:List Y7} {Z7:az},Z7.length≠vars.length->PO vars Z7=false
 |[],[],h=>absurd rfl h
 |v::vs,x::xs,h=>by simp only[PO];rw[aau (by simp at h;omega)];simp
 |[],_::_,_=>rfl
 |_::_,[],_=>rfl
theorem DM:∀{vars:List Y7} {Z7:az},Z7.length=vars.length->(PO vars Z7=true↔∀(i:Nat) v x,vars[i]?=some v->Z7[i]?=some x->Li v x=true)
 |[],[],_=>by simp[PO]
 |v::vs,x::xs,h=>by
  simp only[PO,eC];rw[DM (by simp at h;omega)];constructor
  ·exact lA
  ·intro h;exact⟨h 0 v x rfl rfl,λi v' x' hv hx=>h (i+1) v' x' (by simpa using hv) rK⟩
 |[],_::_,h=>pZ
 |_::_,[],h=>pZ
structure aav (vars:List Y7)(L:List YZ)(R:List YL):Prop where
 vl:vars.length<=8
 vb:∀v∈vars,-1000<=v.low/\v.high<=1000
 ln:L.length<=4000
 lb:∀l∈L,l.Xb.length<=20
 rn:R.length<=16
 ok:∀r∈R,Lm (L.map YZ.bare) r.bare/\(∀Z7,PO vars Z7=true->aat Z7.length Z7 r)/\0<vars.length
def kx{P:Prop}(h:P:=by
 rw[Hid,HR.out];unfold JP;have:PO vars Z7=false:=by
  cases q:PO vars Z7 with
  |false=>rfl
  |true=>have:=(DM Pv.out).1 q i v x hv hx;simp[Li]at this;omega
 rw[this];rfl):P:=h
def kH{P:Prop}(h:P:=by
 go_wp2;go_quiet (fail);go_wp2;go_ret;exact⟨by rw[HX.out];rfl,Zm.out.trans (XN _ _ _)⟩):P:=h
theorem aik {bm vc lc rc:Nat}{va la ra:ax}{vars:List Y7}{L:List YZ}{R:List YL}{Z7:az}{a:ax}{cv:Nat}(h:JQ w bm va la ra vc lc rc vars L R)(hf:aav vars L R)(hV:Z7=[]\/∃g o,a=some (O g o)/\O6 w g o Z7):aq 57 #[ai bm,.slice a Z7.length cv] w (au w (.bool (JP vars L R Z7))):=by
 obtain⟨Zw,a6⟩:∃R',R'=JP vars L R Z7:=⟨_,rfl⟩;rw[<-a6];have HR:=Z8 a6;have HH:=Z8 h;have HF:=Z8 hf;have m1:=h.m1;have Yv:=hf.vl;have Ea:=hf.rn;clear a6 h hf;by_cases hlen:Z7.length=vars.length
 ·have I2:∀x,Z7[0]?=some x->∃g o,a=some (O g o)/\O6 w g o Z7:=λx hx=>by
   rcases hV with e|e
   ·rw[e]at hx;simp at hx
   ·exact e
  have HV:=Z8 I2;clear hV I2;have ZP:(((Z7.length:Nat):Int) != vars.length)=false:=by simp[hlen]
  have Pv:=Z8 hlen;have bW:Z7.length<=8:=J;clear hlen;go_enter func57,ntmps57;go_wp2
  go_loopw [5] (λvi wr=>∃i:Nat,i<=Z7.length/\vi=Y i/\(∀(j:Nat) v x,j<i->vars[j]?=some v->Z7[j]?=some x->Li v x=true)/\aB w wr) (λvi _=>Z7.length-(intOf vi).toNat)
  case atStart=>exact⟨0,iz _,rfl,λj _ _ h=>absurd h J,WW _ _⟩
  case round=>
   clear m1;obtain⟨i,hi,rfl,bg,ZX⟩:=hrel;have hM:=HH.out.grown ZX;have Zm:=Z8 ZX;have m1:=hM.m1;have m3:=hM.m3;by_cases ZR:i<Z7.length
   ·obtain⟨x,hx⟩:∃x,Z7[i]?=some x:=⟨Z7[i],by simp[ZR]⟩;obtain⟨v,hv⟩:∃v,vars[i]?=some v:=⟨vars[i]'qK,aZ qK⟩;obtain⟨g,o,rfl,aw⟩:=HV.out (Z7[0]'J) (aZ J);have k1:wr.cell? (O g (o+i))=some (Y x):=by
     have q:=aw.grown ZX (i:Int) ⟨J,J⟩;have e:ZB Z7 (i:Int)=x:=by simp[ZB,aN,hx]
     rw[e]at q;exact q
    obtain⟨gV,rfl,c1,c2,c3⟩:=hM.v i v hv;have X8:(i:Int)<Z7.length:=J;have bJ:(i:Int)<vars.length:=qK;have Xy:(0:Int)<=i:=J;have aC:=Z8 bg;have cH:=Z8 (iG hv hx);by_cases d1:x<v.low
    ·have HX:Hid (Zw=false):=by
      exact kx
     have bV:decide (x<v.low)=true:=by simpa using d1
     clear ZX hM bg hv hx m3 d1 aw;exact kH
    ·have bV:decide (x<v.low)=false:=by simpa using d1
     by_cases d2:v.high<x
     ·have HX:Hid (Zw=false):=by
       exact kx
      have bX:decide (v.high<x)=true:=by simpa using d2
      clear ZX hM bg hv hx m3 d1 d2 aw;exact kH
     ·have bX:decide (v.high<x)=false:=by simpa using d2
      have HI:=Z8 (show Li v x=true by simp[Li];omega);have bY:Hid (∀(j:Nat) v x,j<i+1->vars[j]?=some v->Z7[j]?=some x->Li v x=true):=λj v' x' hj T5 aG=>by
       rcases ib j i with q|q
       ·exact aC.out j v' x' q T5 aG
       ·obtain rfl:j=i:=J;obtain⟨e1,e2⟩:=cH.out;rw[e1]at T5;rw[e2]at aG
        cases T5
        cases aG;exact HI.out
      clear ZX hM bg hv hx m3 d1 d2 aw;go_wp2;go_quiet (fail);go_wp2;go_roundw
      case rel=>exact⟨i+1,J,pQ,bY.out,Zm.out.trans (XN _ _ _)⟩
      case measure=>simp[intOf]<;>omega
   ·obtain rfl:i=Z7.length:=J;have hA:PO vars Z7=true:=(DM Pv.out).2 (λj v x hv hx=>bg j v x (by have:=(aU.1 hx).1;omega) hv hx)
    have HA:=Z8 hA;have HX:Hid (Zw=R.all λr=>Yt Z7 (W4 (L.map YZ.bare) r.bare)):=by rw[Hid,HR.out];unfold JP;rw[hA];rfl
    have bZ:Hid (∀x∈Z7,-1000<=x/\x<=1000):=λx hx=>by
     obtain⟨k,I,e⟩:=cX hx;have aG:Z7[k]?=some x:=by rw[aZ I,e]
     obtain⟨v,hv⟩:∃v,vars[k]?=some v:=⟨vars[k]'qK,aZ qK⟩;have q:=(DM Pv.out).1 hA k v x hv aG;have:=HF.out.vb v (cq hv);simp[Li]at q;omega
    have HS:Hid (∃j:Nat,j<=R.length/\(Y 0)=Y j/\((R.take j).all λr=>Yt Z7 (W4 (L.map YZ.bare) r.bare))=true/\aB w wr):=⟨0,iz _,rfl,rfl,ZX⟩
    clear bg ZX hM hA;go_wp2
    go_loopw [6] (λvi wr=>∃j:Nat,j<=R.length/\vi=Y j/\((R.take j).all λr=>Yt Z7 (W4 (L.map YZ.bare) r.bare))=true/\aB w wr) (λvi _=>R.length-(intOf vi).toNat)
    case atStart=>exact HS.out
    case round=>
     clear HS m1 m3 Zm;obtain⟨j,hj,rfl,br,ZX⟩:=hrel;have hM:=HH.out.grown ZX;have m3:=hM.m3;have Zm:=Z8 ZX;have Lk:=Z8 br;by_cases ZR:j<R.length
     ·obtain⟨r,hr⟩:∃r,R[j]?=some r:=⟨R[j],by simp[ZR]⟩;obtain⟨o1,o2,o3⟩:=HF.out.ok r (cq hr);obtain⟨g,o,rfl,aw⟩:=HV.out (Z7[0]'qK) (aZ qK);obtain⟨gr,b9,cf,rfl,bN⟩:=hM.r j r hr;have KS:=ZQ.mk (aij (cv:=cv) (b:=gr) (bm:=bm) ⟨bN,hM.m2,hM.l,aw.grown ZX,o2 Z7 HA.out,o1,bZ.out,J,HF.out.lb,HF.out.ln⟩);have X8:(j:Int)<R.length:=J;have Xy:(0:Int)<=j:=J;have HT:=Z8 (show((R.take (j+1)).all λr=>Yt Z7 (W4 (L.map YZ.bare) r.bare))=(((R.take j).all λr=>Yt Z7 (W4 (L.map YZ.bare) r.bare))&&Yt Z7 (W4 (L.map YZ.bare) r.bare)) by rw[dX,hr,fo];simp)
      have cg:=Z8 (cq hr);unfold O5 at KS;obtain⟨B,hB⟩:∃B,Yt Z7 (W4 (L.map YZ.bare) r.bare)=B:=⟨_,rfl⟩;rw[hB]at KS;have HB:=Z8 hB;clear br ZX hM hr o1 o2 o3 aw bN hB
      cases B with
      |true=>
       go_wp2_with (go_at_call 105;refine KS.get.mono ?_;rintro e w1 ⟨rfl,ZZ⟩);go_roundw
       case rel=>exact⟨j+1,J,pQ,by rw[HT.out,Lk.out,HB.out];rfl,Zm.out.trans ZZ⟩
       case measure=>simp[intOf]<;>omega
      |false=>
       go_wp2_with (go_at_call 105;refine KS.get.mono ?_;rintro e w1 ⟨rfl,ZZ⟩);go_ret;refine⟨?_,Zm.out.trans ZZ⟩;have e:Zw=false:=by
        rw[HX.out,dM];exact⟨r,cg.out,by rw[HB.out];simp⟩
       rw[e];rfl
     ·obtain rfl:j=R.length:=J;have e:Hid (Zw=true):=by
       have q:=Lk.out;rw[bH (iw _)]at q;rw[Hid,HX.out,q]
      clear br ZX hM;go_wp2;go_ret;exact⟨by rw[e.out];rfl,Zm.out⟩
 ·have ZP:(((Z7.length:Nat):Int) != vars.length)=true:=pI;have HX:Hid (Zw=false):=by rw[Hid,HR.out];unfold JP;rw[aau hlen];rfl
  clear hV;go_enter func57,ntmps57;go_wp2;go_ret;exact⟨by rw[HX.out];rfl,WW _ _⟩
end
section
def zB (c:Int):Bool:=c==45||c==48
def zU (c:UInt8):Bool:=c==45||c==48
theorem DL {s:aA}{i:Nat}(h:i<s.size):zU (s[i])=zB (ZI s i):=by
 rw[UC h];unfold zU zB;have e:∀k:UInt8,(s[i]==k)=((s[i].toNat:Int)==(k.toNat:Int)):=λk=>by
  rw[fj,iD,iD,<-fP];omega
 rw[e 45,e 48];rfl
theorem ail {n d:Nat}(hn:n≠0)(hd:d<10):Lib.decDigits (10*n+d)=Lib.decDigits n++[UInt8.ofNat (48+d)]:=by
 rw[Lib.decDigits,dif_neg J,show(10*n+d)/10=n by omega,show(10*n+d)%10=d by omega]
theorem A9 (n:Nat):(Lib.decDigits n).isEmpty=false:=by
 rw[Lib.decDigits];split<;>simp
def ni{P:Prop}(h:P:=by
 apply fP.1;rw[bk uN];omega):P:=h
theorem aim (s:aA)(h:Kr s):∀i,i<=s.size->0<=Xt s i/\(s.data.toList.take i).dropWhile zU=if Xt s i=0 then[]else Lib.decDigits (Xt s i).toNat:=by
 have hl:s.data.toList.length=s.size:=qR;intro i
 induction i with
 |zero=>intro _;simp[Xt]
 |succ i ih=>
  intro hi;obtain⟨p1,p2⟩:=ih J;have hz:=DL (s:=s) (i:=i) J;have hb:=UC (s:=s) (i:=i) J;have e0:s.data.toList[i]?=some s[i]:=by rw[aZ J];rfl
  rw[dX,e0,List.dropWhile_append,p2];simp only[Option.toList];by_cases UT:ZI s i=45
  ·have i0:i=0:=by
    cases i with
    |zero=>rfl
    |succ i=>
     have:=h.2.2 (i+1) J J;rw[UT]at this;cases this
   subst i0;have z1:zU s[0]=true:=by rw[hz,UT];rfl
   have en:Xt s (0+1)=0:=by simp[Xt,UT]
   rw[en];simp[Xt,z1]
  ·have hd:Zk (ZI s i)=true:=by
    cases i with
    |zero=>exact h.1.elim id (λq=>absurd q.1 UT)
    |succ i=>exact h.2.2 (i+1) J J
   simp only[Zk,eC,ee]at hd;have en:Xt s (i+1)=10*Xt s i+(ZI s i-48):=by simp only[Xt];rw[iQ UT]
   rw[en];refine⟨J,?_⟩;by_cases c0:Xt s i=0
   ·rw[iR c0,c0];simp only[List.isEmpty_nil,iP];by_cases Qx:ZI s i=48
    ·have z1:zU s[i]=true:=by rw[hz,Qx];rfl
     simp[Qx,z1]
    ·have z1:zU s[i]=false:=by rw[hz];simp[zB,UT,Qx]
     rw[iQ J];simp only[cT,z1,dv,iK];rw[Lib.decDigits_one J];congr 1;exact ni
   ·have ZP:¬(10*Xt s i+(ZI s i-48)=0):=J;rw[iQ c0,iQ ZP,A9];simp only[dv,iK];have e1:(10*Xt s i+(ZI s i-48)).toNat=10*(Xt s i).toNat+(ZI s i-48).toNat:=J;rw[e1,ail J J];congr 2;exact ni
theorem ain (s:aA):∀i,i<s.size->(∀j,j<i->zB (ZI s j)=true)->zB (ZI s i)=false->s.data.toList.dropWhile zU=s.data.toList.drop i:=by
 have hl:s.data.toList.length=s.size:=qR;intro i hi hj hn;have key:∀k,k<=i->s.data.toList.dropWhile zU=(s.data.toList.drop k).dropWhile zU:=by
  intro k
  induction k with
  |zero=>intro _;rfl
  |succ k ih=>
   intro I;rw[ih J,aR J];have e0:s.data.toList[k]=s[k]:=rfl;rw[e0,cT,iR (by rw[DL J];exact hj k J)]
 rw[key i (iw _),aR J];have e0:s.data.toList[i]=s[i]:=rfl;rw[e0,cT,DL hi,hn];rfl
theorem aio (s:aA)(h:Kr s):0<=Xt s s.size/\s.data.toList.dropWhile zU=if Xt s s.size=0 then[]else Lib.decDigits (Xt s s.size).toNat:=by
 have hl:s.data.toList.length=s.size:=qR;have q:=aim s h s.size (iw _)
 rwa [bH J]at q
theorem aaw (s:aA)(i:Nat):s.extract i s.size=⟨(s.data.toList.drop i).toArray⟩:=by
 have e:=Lib.extract_data s i s.size;have hl:s.data.toList.length=s.size:=qR;rw[bH (by rw[eO];omega)]at e;have:(s.extract i s.size)=⟨(s.extract i s.size).data⟩:=rfl;rw[this,<-bU (xs:=(s.extract i s.size).data),e]
theorem aax:∀{l:List UInt8},(∀x∈l,zU x=true)->l.dropWhile zU=[]
 |[],_=>rfl
 |a::l,h=>by rw[cT,iR (h a pG)];exact aax (λx hx=>h x uY)
theorem A8 (a b:List UInt8):(⟨a.toArray⟩:aA)++⟨b.toArray⟩=⟨(a++b).toArray⟩:=by
 apply gF;rw[ByteArray.data_append];simp
theorem aip:Lib.itoa 0=[48]:=Lib.decDigits_one (i:=0) pF
def PlI (s:aA)(vi:aF):Prop:=∃i:Nat,i<=s.size/\vi=Y i/\∀j,j<i->zB (ZI s j)=true
def oT{P:Prop}(h:P:=by
 go_wp2
 go_round
 case rel=>exact⟨i+1,J,pQ,HJ.out⟩
 case measure=>simp[intOf];omega):P:=h
def jW{P:Prop}(h:P:=by
 have e48:((s[i].toNat:Int)==48)=true:=by rw[<-Yb,Qx];rfl
 have HJ:Hid (∀j,j<i+1->zB (ZI s j)=true):=λj PN=>by
  rcases ib j i with q|q
  ·exact hj j q
  ·obtain rfl:j=i:=J;rw[Qx];rfl
 clear Yb UT Qx hj;exact oT):P:=h
def jZ{P:Prop}(h:P:=by
 have e45:((s[i].toNat:Int)==45)=true:=by rw[<-Yb,UT];rfl
 have HJ:Hid (∀j,j<i+1->zB (ZI s j)=true):=λj PN=>by
  rcases ib j i with q|q
  ·exact hj j q
  ·obtain rfl:j=i:=J;rw[UT];rfl
 clear Yb UT hj;exact oT):P:=h
def mv{P:Prop}(h:P:=by
 rcases ib K i with q|q
 ·have:=hj K q;rw[HKz.out]at this;cases this
 ·omega):P:=h
theorem aiq (s:aA)(h:Kr s)(hz:s.size<=10)(w:A):aq 103 #[.string s] w λe w'=>e=.returned (.string ⟨(Lib.itoa (YU s)).toArray⟩)/\w'=w:=by
 have hI:UU s:=⟨h.2.1,hz,λi hi=>by
  cases i with
  |zero=>exact h.1.imp id (·.1)
  |succ i=>exact .inl (h.2.2 (i+1) J hi)⟩
 have KN:=ZQ.mk (λW=>EL s hI W)
 obtain⟨p1,p2⟩:=aio s h;obtain⟨n,hn⟩:∃n,YU s=n:=⟨_,rfl⟩;have bp:=hn;unfold YU at bp;have HE:Hid (n≠0->∀i:Nat,i<s.size->(∀j,j<i->zB (ZI s j)=true)->zB (ZI s i)=false->Lib.itoa n=(if n<0 then[45]else[])++s.data.toList.drop i):=λbz i hi F h2=>by
  have ZP:Xt s s.size≠0:=tL;rw[<-ain s i hi F h2,p2,iQ ZP];unfold Lib.itoa;by_cases c:ZI s 0=45
  ·rw[iR c]at bp;have c1:n<0:=J;simp only[c1,iP];rw[show n.natAbs=(Xt s s.size).toNat by omega];rfl
  ·rw[iQ c]at bp;have c1:¬n<0:=J;simp only[c1,iK];rw[show n.toNat=(Xt s s.size).toNat by omega];rfl
 have HX:Hid (n≠0->∃i,i<s.size/\zB (ZI s i)=false):=λbz=>by
  by_cases c:∃i,i<s.size/\zB (ZI s i)=false
  ·exact c
  ·exfalso
   have all:∀x∈s.data.toList,zU x=true:=λx hx=>by
    obtain⟨i,hi,he⟩:=cX hx;have P8:i<s.size:=by rw[cO]at hi;exact hi
    have e0:s.data.toList[i]=s[i]:=rfl;rw[<-he,e0,DL P8]
    cases q:zB (ZI s i)with
    |true=>rfl
    |false=>exact absurd ⟨i,P8,q⟩ c
   have ZP:Xt s s.size≠0:=tL;rw[iQ ZP]at p2;have e1:s.data.toList.dropWhile zU=[]:=aax all;rw[e1]at p2;have:=A9 (Xt s s.size).toNat;rw[<-p2]at this;cases this
 rw[hn]at KN⊢;clear h hI p1 p2 hn bp;by_cases h0:n=0
 ·subst h0;go_enter func103,ntmps103;go_wp2_with (go_at_call 99;refine(KN.get _).mono ?_;rintro e w1 ⟨rfl,rfl⟩);go_ret;exact⟨by rw[aip];rfl,rfl⟩
 ·have Z:(n==0)=false:=qb;have aT:=Z8 (HE.out h0);obtain⟨K,hK,bO⟩:=HX.out h0;have HKz:=Z8 bO;clear HE HX bO;by_cases aO:n<0
  ·simp only[aO,iP]at aT;clear h0;go_enter func103,ntmps103;go_wp2_with (go_at_call 99;refine(KN.get _).mono ?_;rintro e w1 ⟨rfl,rfl⟩)
   go_loop [5] (λvi=>PlI s vi) (λvi=>s.size-(intOf vi).toNat)
   case atStart=>exact⟨0,J,rfl,λj hj=>J⟩
   case round=>
    obtain⟨i,hi,rfl,hj⟩:=hrel;have ZR:i<s.size:=by
     exact mv
    have Yb:=UC ZR;by_cases UT:ZI s i=45
    ·exact jZ
    ·have e45:((s[i].toNat:Int)==45)=false:=by rw[<-Yb];simpa using UT
     by_cases Qx:ZI s i=48
     ·exact jW
     ·have e48:((s[i].toNat:Int)==48)=false:=by rw[<-Yb];simpa using Qx
      have HR:=Z8 (aT.out i ZR hj (by simp[zB,UT,Qx]));have HB:=Z8 (aaw s i);clear Yb UT Qx hj aT;go_wp2;go_ret;refine⟨?_,rfl⟩;rw[HR.out];refine iJ (λx=>Ending.returned (.string x)) ?_
      show(⟨([45]:List UInt8).toArray⟩:aA)++s.extract i s.size=_;rw[HB.out,A8]
  ·simp only[aO,iK]at aT;clear h0;go_enter func103,ntmps103;go_wp2_with (go_at_call 99;refine(KN.get _).mono ?_;rintro e w1 ⟨rfl,rfl⟩)
   go_loop [5] (λvi=>PlI s vi) (λvi=>s.size-(intOf vi).toNat)
   case atStart=>exact⟨0,J,rfl,λj hj=>J⟩
   case round=>
    obtain⟨i,hi,rfl,hj⟩:=hrel;have ZR:i<s.size:=by
     exact mv
    have Yb:=UC ZR;by_cases UT:ZI s i=45
    ·exact jZ
    ·have e45:((s[i].toNat:Int)==45)=false:=by rw[<-Yb];simpa using UT
     by_cases Qx:ZI s i=48
     ·exact jW
     ·have e48:((s[i].toNat:Int)==48)=false:=by rw[<-Yb];simpa using Qx
      have HR:=Z8 (aT.out i ZR hj (by simp[zB,UT,Qx]));have HB:=Z8 (aaw s i);clear Yb UT Qx hj aT;go_wp2;go_ret;refine⟨?_,rfl⟩;rw[HR.out];refine iJ (λx=>Ending.returned (.string x)) ?_
      show(⟨([]:List UInt8).toArray⟩:aA)++s.extract i s.size=_;rw[HB.out,A8]
end
section
structure aay (t:ZY):Prop where
 n1:Z6 t≠1
 len:(UQ t).length<=2000
 int:t.kind=105↔Z6 t=3
 one:t.kind=105->Kr t.s/\t.s.size<=10
 b:∀k l,(k,l)∈[((11:Int),([59]:List UInt8)),(13,[44]),(12,[58]),(19,[93]),(18,[91]),(17,[46,46]),(22,[33]),(21,[42])]->(t.s.toList=l↔Z6 t=k)
def TkA (w:A)(bm:Nat)(a:ax)(cap:Nat)(T:List ZY):Prop:=w.cell? (ah bm)=some (.slice a T.length cap)/\∀i t,T[i]?=some t->∃gt,a=some (ah gt)/\w.cell? (O gt (i*3))=some (.string t.s)/\w.cell? (O gt (i*3+1))=some (.int .u8 t.kind)/\w.cell? (O gt (i*3+2))=some (Y t.line)
def Ow (bf:Int):Bool:=bf==18||bf==22||bf==17
def JO (P:List ZY)(Zw:List UInt8)(n:Nat)(w:A)(vo vf vg vi:aF)(wr:A):Prop:=∃(i fu:Nat) (out:List UInt8) (bf:Int) (f g:Bool),i<=n/\out.length<=3000*i/\vo=.string ⟨out.toArray⟩/\vf=.bool f/\vg=.bool g/\f=(bf==11)/\g=Ow bf/\vi=Y i/\aB w wr/\n-i<fu/\Uk P fu i bf out=Zw
theorem air (s:aA):(⟨s.data.toList.toArray⟩:aA)=s:=by rw[bU]
theorem JO.next {P:List ZY}{Zw out:List UInt8}{n i fu:Nat}{bf:Int}{w wr:A}{t:ZY}{X:aA}{f g:Bool}(hL:(UQ t).length<=2000)(hO:out.length<=3000*i)(ZR:i<n)(hP:ZT P i=t)(F:Z6 t≠1)(h2:SX t (ZT P (i+1))=false)(hf:n-i<fu)(hR:Uk P fu i bf out=Zw)(z:aB w wr)(hX:X=⟨(out++(if SE bf||SD (Z6 t)then[]else[32])++UQ t++(if Z6 t=11 then[10]else[])).toArray⟩)(aI:f=(Z6 t==11))(ZZ:g=Ow (Z6 t)):JO P Zw n w (.string X) (.bool f) (.bool g) (Y ((i:Int)+1)) wr:=by
 obtain⟨fu,rfl⟩:∃k,fu=k+1:=⟨fu-1,J⟩;rw[vX (by rw[hP];exact F) (by rw[hP];exact h2),hP]at hR;refine⟨i+1,fu,_,_,f,g,J,?_,by rw[hX],rfl,rfl,aI,ZZ,pG,z,J,hR⟩;simp only[dA];have e1:(if (SE bf||SD (Z6 t))=true then[]else([32]:List UInt8)).length<=1:=by split<;>simp
 have e2:(if Z6 t=11 then([10]:List UInt8)else[]).length<=1:=by split<;>simp
 omega
theorem JO.skip {P:List ZY}{Zw out:List UInt8}{n i fu:Nat}{bf:Int}{w wr:A}{t:ZY}{f g:Bool}(hO:out.length<=3000*i)(aI:f=(bf==11))(ZZ:g=Ow bf)(ZR:i+1<n)(hP:ZT P i=t)(F:Z6 t≠1)(h2:SX t (ZT P (i+1))=true)(hf:n-i<fu)(hR:Uk P fu i bf out=Zw)(z:aB w wr):JO P Zw n w (.string ⟨out.toArray⟩) (.bool f) (.bool g) (Y ((i:Int)+1+1)) wr:=by
 obtain⟨fu,rfl⟩:∃k,fu=k+1:=⟨fu-1,J⟩;rw[vY (by rw[hP];exact F) (by rw[hP];exact h2)]at hR;exact⟨i+2,fu,out,bf,f,g,J,J,rfl,rfl,rfl,aI,ZZ,by simp;omega,z,J,hR⟩
theorem aaz (u:Nat):∀c∈Lib.decDigits u,48<=c.toNat/\c.toNat<=57:=by
 induction u using Nat.strongRecOn with
 |_ u ih=>
  intro c hc;rw[Lib.decDigits]at hc;have key:∀d,d<10->c=UInt8.ofNat (48+d)->48<=c.toNat/\c.toNat<=57:=λd hd e=>by
   subst e;rw[bk uN];omega
  split at hc
  ·simp only[gH,eQ,iM]at hc;exact key u J hc
  ·rcases fE.1 hc with q|q
   ·exact ih (u/10) J c q
   ·simp only[gH,eQ,iM]at q;exact key (u%10) J q
theorem ais (n:Int):∀c∈Lib.itoa n,c.toNat=45\/(48<=c.toNat/\c.toNat<=57):=by
 intro c hc;unfold Lib.itoa at hc;split at hc
 ·rcases gH.1 hc with q|q
  ·left;rw[q];rfl
  ·exact .inr (aaz _ c q)
 ·exact .inr (aaz _ c hc)
theorem L5 (n:Int)(c:UInt8)(l:List UInt8)(h:c.toNat≠45/\(c.toNat<48\/57<c.toNat)):¬Lib.itoa n=c::l:=λe=>by
 have:=ais n c vd;omega
theorem aaA (n:Int):Lib.itoa n=[49]↔n=1:=by
 constructor
 ·intro e;unfold Lib.itoa at e;split at e
  ·injection e with e1 _;cases e1
  ·rw[Lib.decDigits]at e;split at e
   ·rename_i h;injection e with e1 _;have:=iJ UInt8.toNat e1;rw[bk uN]at this;have cx:(49:UInt8).toNat=49:=rfl;omega
   ·have:=iJ List.length e;have hd:=A9 (n.toNat/10)
    cases hq:Lib.decDigits (n.toNat/10)with
    |nil=>rw[hq]at hd;cases hd
    |cons a l=>rw[hq]at this;simp at this
 ·rintro rfl;exact Lib.decDigits_one (i:=1) pF
theorem ait (l:List UInt8):(⟨l.toArray⟩:aA).toList=l:=by rw[cP]
theorem Ih (bf:Int):SE bf=(bf==11||Ow bf):=by unfold SE Ow;simp only[Bool.or_comm,Bool.or_left_comm]
def nO{P:Prop}(h:P:=by
 go_roundw
 case rel=>exact JO.next HT.out.len Nx YK HP.out HT.out.n1 HN.out HFU.out Xu.out (Zm.out.trans (di _ _ _)) (by simp only[HJ.out,HA.out,FT.out,N6.out,A8,gO,gC,iP,dv,iK,fp,dN]) Tz.out We.out
 case measure=>simp[intOf]<;>omega):P:=h
def iY{P:Prop}(h:P:=by
 cases f with
 |true=>
  have HJ:=Z8 (show SE bf=true by rw[Ih,<-O4.out.1];rfl);clear h0;go_wp2;exact nO
 |false=>
  cases g with
  |true=>
   have HJ:=Z8 (show SE bf=true by rw[Ih,<-O4.out.1,<-O4.out.2];rfl);clear h0;go_wp2;exact nO
  |false=>
   have HJ:=Z8 (show SE bf=false by rw[Ih,<-O4.out.1,<-O4.out.2];rfl);clear h0;go_wp2;exact nO):P:=h
def jb{P:Prop}(h:P:=by
 exact nO):P:=h
def px{P:Prop}(h:P:=by
 clear h0;go_wp2_with (go_at_call 103;refine(KP.get _).mono ?_;rintro e w1 ⟨rfl,LF⟩;subst w1);exact jb):P:=h
def nJ{P:Prop}(h:P:=by
 have HA:=Z8 (show SD (Z6 t)=false by simp[SD,Uf,TZ,MU,JZ,MG,MH]);have FT:=Z8 (show(if Z6 t=11 then[10]else[])=([]:List UInt8) by rw[iQ Uf])
 have Tz:=Z8 (show false=(Z6 t==11) by simp[Uf]);have We:=Z8 (show false=Ow (Z6 t) by simp[Ow,MG,MH,hc]);clear Uf TZ MU JZ MG MH hc
 cases f with
 |true=>
  have HJ:=Z8 (show SE bf=true by rw[Ih,<-O4.out.1];rfl);exact px
 |false=>
  cases g with
  |true=>
   have HJ:=Z8 (show SE bf=true by rw[Ih,<-O4.out.1,<-O4.out.2];rfl);exact px
  |false=>
   have HJ:=Z8 (show SE bf=false by rw[Ih,<-O4.out.1,<-O4.out.2];rfl);exact px):P:=h
def pB{P:Prop}(h:P:=by
 have We:=Z8 (show false=Ow (Z6 t) by rw[hc];rfl);clear hc;exact iY):P:=h
def nP{P:Prop}(h:P:=by
 have HA:=Z8 (show SD (Z6 t)=true by rw[hc];rfl);have FT:=Z8 (show(if Z6 t=11 then[10]else[])=([]:List UInt8) by rw[hc];rfl)
 have Tz:=Z8 (show false=(Z6 t==11) by rw[hc];rfl);exact pB):P:=h
def nS{P:Prop}(h:P:=by
 have FT:=Z8 (show(if Z6 t=11 then[10]else[])=([]:List UInt8) by rw[hc];rfl)
 have Tz:=Z8 (show false=(Z6 t==11) by rw[hc];rfl);have We:=Z8 (show true=Ow (Z6 t) by rw[hc];rfl);clear hc;exact iY):P:=h
def pC{P:Prop}(h:P:=by
 have HA:=Z8 (show SD (Z6 t)=true by rw[hc];rfl);exact nS):P:=h
theorem aiu {w:A}{bm cap:Nat}{a:ax}{T P:List ZY}(h:TkA w bm a cap T)(hn:T.length<=2000)(ZR:bm<w.heap.size)(hP:∀i t,T[i]?=some t->ZT P i=t/\aay t)(hE:Z6 (ZT P T.length)=1):aq 55 #[ai bm] w (au w (.string ⟨(Uk P (T.length+1) 0 11 []).toArray⟩)):=by
 obtain⟨h0,hc⟩:=h;obtain⟨Zw,a6⟩:∃r,Uk P (T.length+1) 0 11 []=r:=⟨_,rfl⟩;rw[a6];have HC:=Z8 hc;have bI:=Z8 hP;have bP:=Z8 hE;have Yn:=Z8 a6;clear hc hP hE a6;go_enter func55,ntmps55;go_wp2
 go_loopw [3,4,5,6] (λvo vf vg vi wr=>JO P Zw T.length w vo vf vg vi wr) (λ_ _ _ vi _=>T.length-(intOf vi).toNat)
 case atStart=>exact⟨0,T.length+1,[],11,true,false,J,pG,rfl,rfl,rfl,rfl,rfl,rfl,WW _ _,J,Yn.out⟩
 case round=>
  clear Yn;obtain⟨i,fu,out,bf,f,g,hi,Nx,rfl,rfl,rfl,hf,z,rfl,ZX,cd,bM⟩:=hrel;have k0:=ZX.cell h0 pG;have cz:∀o,(wr.alloc o).cell? (ah bm)=some (.slice a T.length cap):=λo=>(di wr o none).cell k0 pG
  have O4:=Z8 (iG hf z);have Zm:=Z8 ZX;have HFU:=Z8 cd;have Xu:=Z8 bM;clear hf z cd bM;by_cases YK:i<T.length
  ·obtain⟨t,ht⟩:∃t,T[i]?=some t:=⟨T[i],by simp[YK]⟩;obtain⟨gt,ha,c1,c2,c3⟩:=HC.out i t ht;obtain⟨aa,bu⟩:=bI.out i t ht;subst ha;have k1:=ZX.cell c1 pG;have k2:=ZX.cell c2 pG;have k3:=ZX.cell c3 pG;have X8:(i:Int)<T.length:=J;have Xy:(0:Int)<=i:=J;have HP:=Z8 aa;have HT:=Z8 bu;by_cases I:t.kind=105
   ·have bt:(t.kind==105)=true:=qz;have Yh:Z6 t=3:=bu.int.1 I;obtain⟨S,hS⟩:∃S:aA,S=⟨(Lib.itoa (YU t.s)).toArray⟩:=⟨_,rfl⟩;have KP:=ZQ.mk (λW=>aiq t.s (bu.one I).1 (bu.one I).2 W)
    rw[<-hS]at KP;have ev:ZW t=YU t.s:=by unfold ZW;rw[iR I]
    have N6:=Z8 (show S=⟨(UQ t).toArray⟩ by rw[hS];unfold UQ;rw[iR Yh,ev]);have cj:S.size<=2000:=tQ;have eS:S.toList=Lib.itoa (YU t.s):=by rw[hS,ait]
    have b1:(S.toList==[59])=false:=by rw[eS,dn];exact L5 _ _ _ pF
    have b2:(S.toList==[44])=false:=by rw[eS,dn];exact L5 _ _ _ pF
    have b3:(S.toList==[58])=false:=by rw[eS,dn];exact L5 _ _ _ pF
    have b4:(S.toList==[93])=false:=by rw[eS,dn];exact L5 _ _ _ pF
    have b5:(S.toList==[91])=false:=by rw[eS,dn];exact L5 _ _ _ pF
    have b6:(S.toList==[46,46])=false:=by rw[eS,dn];exact L5 _ _ _ pF
    have b7:(S.toList==[33])=false:=by rw[eS,dn];exact L5 _ _ _ pF
    have Uf:¬Z6 t=11:=J;have TZ:¬Z6 t=13:=J;have MU:¬Z6 t=12:=J;have JZ:¬Z6 t=19:=J;have MG:¬Z6 t=18:=J;have MH:¬Z6 t=17:=J;have hc:¬Z6 t=22:=J;by_cases F:YU t.s=1
    ·have b0:S.toList=[49]:=by rw[eS];exact(aaA _).2 F
     by_cases bJ:i+1<T.length
     ·have bS:(i:Int)+1<T.length:=J;obtain⟨t',av⟩:∃t',T[i+1]?=some t':=⟨T[i+1],by simp[bJ]⟩;obtain⟨cA,bE,d1,_⟩:=HC.out (i+1) t' av;obtain⟨ay,aS⟩:=bI.out (i+1) t' av;injection bE with bE;injection bE with bE _ _;subst bE;have k4:=ZX.cell d1 pG;have k5:∀o,(wr.alloc o).cell? (O gt ((i+1)*3))=some (.string t'.s):=λo=>(di wr o none).cell k4 pG
      by_cases aJ:Z6 t'=21
      ·have b8:(t'.s.toList==[42])=true:=by rw[iD];exact(aS.b 21 [42] pG).2 aJ
       have HN:=Z8 (show SX t (ZT P (i+1))=true by rw[ay];simp[SX,Yh,ev,F,aJ]);clear I ZX c1 c2 c3 aa bu ht Yh hS ev eS Uf TZ MU JZ MG MH hc F d1 ay aS av aJ b1 b2 b3 b4 b5 b6 b7 h0;go_wp2_with (go_at_call 103;refine(KP.get _).mono ?_;rintro e w1 ⟨rfl,LF⟩;subst w1);go_roundw
       case rel=>exact JO.skip Nx O4.out.1 O4.out.2 bJ HP.out HT.out.n1 HN.out HFU.out Xu.out (Zm.out.trans (di _ _ _))
       case measure=>simp[intOf]<;>omega
      ·have b8:(t'.s.toList==[42])=false:=by rw[dn];exact λq=>aJ ((aS.b 21 [42] pG).1 q)
       have HN:=Z8 (show SX t (ZT P (i+1))=false by rw[ay];simp[SX,aJ]);clear I ZX c1 c2 c3 aa bu ht Yh hS ev eS F d1 ay aS av aJ;exact nJ
     ·have bS:¬((i:Int)+1<T.length):=J;have bQ:ZT P (i+1)=ZT P T.length:=by rw[show i+1=T.length by omega]
      have HN:=Z8 (show SX t (ZT P (i+1))=false by rw[bQ];simp[SX,bP.out]);clear I ZX c1 c2 c3 aa bu ht Yh hS ev eS F bQ bJ;exact nJ
    ·have b0:(S.toList==[49])=false:=by rw[eS,dn];exact λq=>F ((aaA _).1 q)
     have HN:=Z8 (show SX t (ZT P (i+1))=false by simp[SX,ev,F]);clear I ZX c1 c2 c3 aa bu ht Yh hS ev eS F;exact nJ
   ·have bt:(t.kind==105)=false:=qz;have Yh:¬Z6 t=3:=λq=>I (bu.int.2 q)
    have HN:=Z8 (show SX t (ZT P (i+1))=false by simp[SX,Yh]);have N6:=Z8 (show t.s=⟨(UQ t).toArray⟩ by unfold UQ;rw[iQ Yh,air]);have cj:t.s.size<=2000:=tQ;clear I ZX c1 c2 c3 aa bu ht Yh;by_cases hc:Z6 t=11
    ·have aM:t.s.toList=[59]:=(HT.out.b 11 [59] pG).2 hc;have HA:=Z8 (show SD (Z6 t)=true by rw[hc];rfl);have FT:=Z8 (show(if Z6 t=11 then[10]else[])=([10]:List UInt8) by rw[hc];rfl)
     have Tz:=Z8 (show true=(Z6 t==11) by rw[hc];rfl);exact pB
    have b1:(t.s.toList==[59])=false:=by rw[dn];exact λq=>hc ((HT.out.b 11 [59] pG).1 q)
    have Uf:=hc;clear hc;by_cases hc:Z6 t=13
    ·have aM:t.s.toList=[44]:=(HT.out.b 13 [44] pG).2 hc;exact nP
    have b2:(t.s.toList==[44])=false:=by rw[dn];exact λq=>hc ((HT.out.b 13 [44] pG).1 q)
    have TZ:=hc;clear hc;by_cases hc:Z6 t=12
    ·have aM:t.s.toList=[58]:=(HT.out.b 12 [58] pG).2 hc;exact nP
    have b3:(t.s.toList==[58])=false:=by rw[dn];exact λq=>hc ((HT.out.b 12 [58] pG).1 q)
    have MU:=hc;clear hc;by_cases hc:Z6 t=19
    ·have aM:t.s.toList=[93]:=(HT.out.b 19 [93] pG).2 hc;exact nP
    have b4:(t.s.toList==[93])=false:=by rw[dn];exact λq=>hc ((HT.out.b 19 [93] pG).1 q)
    have JZ:=hc;clear hc;by_cases hc:Z6 t=18
    ·have aM:t.s.toList=[91]:=(HT.out.b 18 [91] pG).2 hc;exact pC
    have b5:(t.s.toList==[91])=false:=by rw[dn];exact λq=>hc ((HT.out.b 18 [91] pG).1 q)
    have MG:=hc;clear hc;by_cases hc:Z6 t=17
    ·have aM:t.s.toList=[46,46]:=(HT.out.b 17 [46,46] pG).2 hc;exact pC
    have b6:(t.s.toList==[46,46])=false:=by rw[dn];exact λq=>hc ((HT.out.b 17 [46,46] pG).1 q)
    have MH:=hc;clear hc;by_cases hc:Z6 t=22
    ·have aM:t.s.toList=[33]:=(HT.out.b 22 [33] pG).2 hc;have HA:=Z8 (show SD (Z6 t)=false by rw[hc];rfl);exact nS
    have b7:(t.s.toList==[33])=false:=by rw[dn];exact λq=>hc ((HT.out.b 22 [33] pG).1 q)
    have HA:=Z8 (show SD (Z6 t)=false by simp[SD,Uf,TZ,MU,JZ,MG,MH]);have FT:=Z8 (show(if Z6 t=11 then[10]else[])=([]:List UInt8) by rw[iQ Uf])
    have Tz:=Z8 (show false=(Z6 t==11) by simp[Uf]);have We:=Z8 (show false=Ow (Z6 t) by simp[Ow,MG,MH,hc]);clear Uf TZ MU JZ MG MH hc;exact iY
  ·obtain rfl:i=T.length:=J;have ck:=Z8 (show out=Zw by rw[<-Xu.out,vZ bP.out]);clear ZX HC bI;go_wp2;go_ret;exact⟨by rw[<-ck.out];rfl,Zm.out⟩
end
end Go.Proofs.YthpcbbnabnlanaaGreatDoor
