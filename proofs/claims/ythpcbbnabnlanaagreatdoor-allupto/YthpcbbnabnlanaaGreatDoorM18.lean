import Derived.Test.YthpcbbnabnlanaaGreatDoorM13
import Derived.Test.YthpcbbnabnlanaaGreatDoorM17
import Derived.Deep.DeepMust
namespace Go.Proofs.YthpcbbnabnlanaaGreatDoor
set_option maxHeartbeats 2000000
set_option maxRecDepth 100000
open Go.Proofs.Tryz
open Go.RowKit
set_option linter.all false
section
attribute [local go_sem ↓] Go.wp_at_zero Go.wp_at_succ
structure Ss where
 neg:Option ZY
 name:ZY
def Q6 (U:List ZY)(i:Nat)(l:Ss)(j:Nat):Prop:=
 match l.neg with
 |some b=>U[i]?=some b/\b.s.toList=[33]/\U[i+1]?=some l.name/\j=i+2
 |none=>U[i]?=some l.name/\l.name.s.toList≠[33]/\j=i+1
def MI (U:List ZY):Nat->List Ss->Nat->Prop
 |i,[],j=>i=j
 |i,l::ls,j=>(∃c,U[i]?=some c/\c.s.toList=[44])/\∃m,Q6 U (i+1) l m/\MI U m ls j
def Ss.head (l:Ss):ZY:=l.neg.getD l.name
def wF (vars:List Y7)(k:Nat)(l:Ss)(st:Zv):Zv:=D9 vars l.name (ZE (decide (8<(k:Int))) 6 l.head.line st)
def Gd (vars:List Y7):Nat->List Ss->Zv->Zv
 |_,[],st=>st
 |k,n::ns,st=>Gd vars (k+1) ns (wF vars k n st)
def QP (vars:List Y7)(l:Ss):Int×Int:=(if l.neg.isSome then 1 else 0,Y6 vars l.name.s)
def Gc (vars:List Y7)(nr:Nat)(kw:ZY)(ls:List Ss)(st:Zv):Zv:=Gd vars 1 ls (ZE (decide (16<=(nr:Int))) 6 kw.line st)
theorem Q6.lt {U:List ZY}{i:Nat}{l:Ss}{j:Nat}(h:Q6 U i l j):i<j/\U[i]?=some l.head:=by
 unfold Q6 at h;unfold Ss.head;split at h
 ·rename_i b hb;rw[hb];exact⟨J,h.1⟩
 ·rename_i hb;rw[hb];exact⟨J,h.1⟩
theorem MI.le {U:List ZY}:∀{ns:List Ss} {i j:Nat},MI U i ns j->i<=j
 |[],i,j,h=>by have:i=j:=h;omega
 |n::ns,i,j,h=>by
  obtain⟨m,F,h2⟩:=h.2;have:=MI.le h2;have:=F.lt.1;omega
def Iz (U:List ZY)(vars:List Y7)(Z bm br:Nat)(B' i j:Nat)(ST:Zv)(aN:List (Int×Int))(C:Nat->Option aF)(w0:A)(n:Nat)(vk:aF)(wr:A):Prop:=
 ∃(k p:Nat) (rem:List Ss) (done:List (Int×Int)) (kd ln:Int) (vL:aF),n=rem.length/\vk=Y k/\k<=p+1/\done.length<=p/\p<=j/\i<=p/\
  ((k=1/\∃n0 ns m,rem=n0::ns/\Q6 U p n0 m/\MI U m ns j)\/(1<k/\MI U p rem j))/\
  Hid (Gd vars k rem (kd,ln)=ST)/\Hid (done++rem.map (QP vars)=aN)/\B'<=wr.heap.size/\(wr.cell? (O br 2)=some (.string ⟨#[]⟩)/\wr.cell? (O br 3)=some (Y 0))/\Rl wr br B' vL done C/\Y9 [Z] w0 wr/\Wk wr Z bm p kd ln
structure Bp (w:A)(bp:Nat)(a b:Int):Prop where
 c0:w.cell? (ah bp)=some (Y a)
 c1:w.cell? (O bp 1)=some (Y b)
 f0:w.frozen? (ah bp)=false
 f1:w.frozen? (O bp 1)=false
 lt:bp<w.heap.size
theorem Bp.YQ {w w':A}{bp:Nat}{a b:Int}{row:Option Nat}(h:Bp w bp a b)(z:w.grownBy w' row)(ZP:some bp≠row):Bp w' bp a b:=
 ⟨z.cell h.c0 ZP,z.cell h.c1 ZP,(z.frozen_far (ah bp) h.lt ZP).trans h.f0,(z.frozen_far (O bp 1) h.lt ZP).trans h.f1,dH h.lt z.size⟩
theorem Bp.PY {w:A}{bp:Nat}{a b:Int}(h:Bp w bp a b)(x:Int):Bp (w.setCell (ah bp) (Y x)) bp x b:=
 ⟨bo _ _ _ h.c0,(YJ _ _ _ _ _ _ J).trans h.c1,(bR _ _ _ _).trans h.f0,(bR _ _ _ _).trans h.f1,by simpa[World.setCell]using h.lt⟩
theorem Bp.IE {w:A}{bp:Nat}{a b:Int}(h:Bp w bp a b)(x:Int):Bp (w.setCell (O bp 1) (Y x)) bp a x:=
 ⟨(YJ _ _ _ _ _ _ J).trans h.c0,bo _ _ _ h.c1,(bR _ _ _ _).trans h.f0,(bR _ _ _ _).trans h.f1,by simpa[World.setCell]using h.lt⟩
theorem wE (w:A)(t:TypeId):Bp (w.alloc (.cells #[Y 0,Y 0] t)) w.heap.size 0 0:=by
 have e1:=gp w (.cells #[Y 0,Y 0] t);refine⟨?_,?_,?_,?_,pG⟩
 ·exact kq
 ·exact kq
 ·exact lX
 ·exact lX
structure Oc (U:List ZY)(Z bm br B' bp:Nat)(vL:aF)(done:List (Int×Int))(C:Nat->Option aF)(w0:A)(a b:Int)(p:Nat)(kd ln:Int)(w:A):Prop where
 hB:B'<=w.heap.size
 h2:w.cell? (O br 2)=some (.string ⟨#[]⟩)
 h3:w.cell? (O br 3)=some (Y 0)
 rl:Rl w br B' vL done C
 bt:Y9 [Z] w0 w
 wk:Wk w Z bm p kd ln
 Tm:Bp w bp a b
 n1:bp≠Z
 n2:bp≠br
 n3:vL.ownBlock≠some bp
 n4:br≠Z
 n5:Z<B'
 n6:w0.heap.size<=bp
 n7:w0.heap.size<=B'
 n8:w0.heap.size<=br
section
variable {U:List ZY}{Z bm br B' bp:Nat}{vL:aF}{done:List (Int×Int)}{C:Nat->Option aF}{w0:A}{a b:Int}{p:Nat}{kd ln:Int}{w w':A}
theorem Oc.walk (h:Oc U Z bm br B' bp vL done C w0 a b p kd ln w)(z:w.grownBy w' (some Z)){p':Nat}{bU bV:Int}(hW:Wk w' Z bm p' bU bV):Oc U Z bm br B' bp vL done C w0 a b p' bU bV w':=
 ⟨gZ h.hB z.size,z.cell h.h2 (by simpa using h.n4),z.cell h.h3 (by simpa using h.n4),h.rl.grown z (λq e=>by cases e;exact⟨λe=>h.n4 e.symm,λe=>by have:=(h.rl.own.lt _ e).1;have:=h.n5;omega⟩),h.bt.walk z,hW,h.Tm.YQ z (by simpa using h.n1),
  h.n1,h.n2,h.n3,h.n4,h.n5,h.n6,h.n7,h.n8⟩
theorem Oc.Wv (h:Oc U Z bm br B' bp vL done C w0 a b p kd ln w)(p':Nat):Oc U Z bm br B' bp vL done C w0 a b p' kd ln (w.setCell (O Z 1) (Y p')):=h.walk (ZC _ _ _ _) (h.wk.Wv _)
theorem Oc.part (h:Oc U Z bm br B' bp vL done C w0 a b p kd ln w){a' b':Int}{o:Nat}{u:aF}(hb:Bp (w.setCell (O bp o) u) bp a' b'):Oc U Z bm br B' bp vL done C w0 a' b' p kd ln (w.setCell (O bp o) u):=
 have z:=ZC w bp o u
 ⟨gZ h.hB z.size,z.cell h.h2 (by simpa using λe:br=bp=>h.n2 e.symm),z.cell h.h3 (by simpa using λe:br=bp=>h.n2 e.symm),h.rl.grown z (λq e=>by cases e;exact⟨h.n2,h.n3⟩),h.bt.set (.inr h.n6) _ _,h.wk.YQ z (by simpa using λe:Z=bp=>h.n1 e.symm),hb,
  h.n1,h.n2,h.n3,h.n4,h.n5,h.n6,h.n7,h.n8⟩
theorem Oc.push (h:Oc U Z bm br B' bp vL done C w0 a b p kd ln w){wA:A}{v':aF}{o:Obj}(ZO:wA.ownsRow B' 183 2 v' (done.length+1) (Un done++[Y a,Y b]))(z:(w.alloc o).grownBy wA vL.ownBlock):B'<=(wA.setCell (O br 1) v').heap.size/\((wA.setCell (O br 1) v').cell? (O br 2)=some (.string ⟨#[]⟩)/\(wA.setCell (O br 1) v').cell? (O br 3)=some (Y 0))/\Rl (wA.setCell (O br 1) v') br B' v' (done++[(a,b)]) C/\
   Y9 [Z] w0 (wA.setCell (O br 1) v')/\Wk (wA.setCell (O br 1) v') Z bm p kd ln:=by
 have g0:w.grownBy (w.alloc o) none:=di w o none;have n1:some br≠vL.ownBlock:=λe=>by have:=(h.rl.own.lt _ e.symm).1;have:=h.rl.QR;omega
 have nb:some Z≠vL.ownBlock:=λe=>by have:=(h.rl.own.lt _ e.symm).1;have:=h.n5;omega
 have hB:=h.hB;have s0:=g0.size;have s1:=z.size;refine⟨by simp only[World.setCell,Array.size_modify];omega,⟨(YJ _ _ _ _ _ _ J).trans (z.cell (g0.cell h.h2 pG) n1),(YJ _ _ _ _ _ _ J).trans (z.cell (g0.cell h.h3 pG) n1)⟩,h.rl.push ZO z,?_,((h.wk.YQ g0 pG).YQ z nb).YQ (ZC wA br 1 v') (by simpa using λe:Z=br=>h.n4 e.symm)⟩
 exact((h.bt.alloc o).grown z (λk e=>.inr (by have:=(h.rl.own.lt _ e).1;have:=h.n7;omega))).set (.inr h.n8) _ _
end
def j2{P:Prop}(h:P:=by
 go_wp2
 go_roundg NB.length
 case measure=>simp
 case rel=>first|exact OB|(have F:=OB.out;simpa using F)):P:=h
def kX{P:Prop}(h:P:=by
 have F:=World.news_of_block (cs:=#[Y (1),Y X]) (t:=183) (fr:=(0,0)) (gp (wk.setCell (O bp 1) (Y X)) (.cells #[Y (1),Y X] 183));rw[Gb]at F;exact F):P:=h
def kY{P:Prop}(h:P:=by
 have F:=World.news_of_block (cs:=#[Y (0),Y X]) (t:=183) (fr:=(0,0)) (gp (wk.setCell (O bp 1) (Y X)) (.cells #[Y (0),Y X] 183));rw[Gb]at F;exact F):P:=h
def oC{P:Prop}(h:P:=by
 intro wA z;have hR:=Ux.out.rl;have g0:=di (wk.setCell (O bp 1) (Y X)) (.cells #[Y (1),Y X] 183) none;exact jx):P:=h
def oD{P:Prop}(h:P:=by
 intro wA z;have hR:=Ux.out.rl;have g0:=di (wk.setCell (O bp 1) (Y X)) (.cells #[Y (0),Y X] 183) none;exact jx):P:=h
theorem agA (w0:A)(Z bm gt Z1 B:Nat)(U:List ZY)(vv vl vr:aF)(vars:List Y7)(lists:List YZ)(rules:List YL)(i j m0:Nat)(kind line:Int)(kw:ZY)(n0:Ss)(ns:List Ss)(h:Md w0 Z bm gt Z1 B U vv vl vr vars lists rules i kind line)(I:U[i]?=some kw)(V6:kw.s=⟨#[111,114]⟩)(bz:Q6 U (i+1) n0 m0)(bh:MI U m0 ns j)(hj:j<=U.length)(aP:(Y' U j).toList≠[44]):aq 54 #[ai Z] w0 λe w'=>e=.returned (.tuple #[])/\Um B [Z,bm] w0 w'/\
   ∃P2 pv,Md w' Z bm gt Z1 B U vv vl P2 vars lists (rules++[⟨111,(n0::ns).map (QP vars),pv,⟨#[]⟩,0,0,0,0⟩]) j (Gc vars rules.length kw (n0::ns) (kind,line)).1 (Gc vars rules.length kw (n0::ns) (kind,line)).2:=by
 obtain⟨ip,bH,T7,UJ,UI⟩:=iE BM;have cD:=bh.le;have cB:=bz.lt.1;have bn:=Z8 (iG bz bh);have cz:=Z8 aP;clear bz bh aP;obtain⟨i0,Y8,Ze,Zq,Zn⟩:=iE Gk;obtain⟨k1,k2,k3⟩:=VE I;have hn:=h.hn;have c0:=h.wk.c0;have H0:=Z8 h;have aH:=h.ctx J;have bI:=Z8 (λb (hb:w0.heap.size<=b)=>aH.LJ hb)
 have Xz:=SG aH J;rw[k1,V6]at Xz;have UM:=Z8 Xz;have bJ:=Z8 k2;clear Xz h aH k1 k2 I V6;go_enter func54,ntmps54;go_wp2_with fail;refine(Xd UM).mono ?_;rintro e w1 ⟨rfl,ZZ,Y1⟩;have aB:=Z8 (Y9.Pe (S:=[Z]) ZZ (λk e=>by cases e;simp))
 have M1:=H0.out.but aB.out Y1.wk (iw _);obtain⟨ar,ct,Wb⟩:=Ls M1.RM;obtain⟨d0,d1,_,_,e1,_,_,_⟩:=Y1.wk;have m3:=M1.m3;have ZP:=M1.Uq;rw[Wb]at m3;have J8:=Z8 Wb;have aV:=λW o u b' o' h=>YJ W Z o u b' o' h
 have aI:=Re (M1.ctx J) k3 (decide (16<=(rules.length:Int))) 6;rw[bJ.out]at aI;have Tz:=Z8 aI;clear ZZ Y1 c0 UM Wb M1 aI;go_wp2_with fail;refine(Xd Tz).mono ?_;rintro e w2 ⟨rfl,ZU,XJ⟩;have Vt:=Z8 (aB.out.walk ZU);have Uc:=Z8 XJ.wk;have YK:=XJ.wk.lt;clear d0 d1 e1 m3 Tz aB;obtain⟨d0,d1,_,_,e1,_,_,_⟩:=XJ.wk;clear ZU XJ;go_wp2_with fail;have a7:=Z8 ((Vt.out.set (k:=Z) (.inl pG) 1 (Y ((i:Int)+1))).alloc (.cells #[.int .u8 (((ByteArray.mk #[111,114])[0].toNat:Int)),af,.string ⟨#[]⟩,Y 0,Y 0,Y 0,Y 0] 176));have aG:=Z8 ((Uc.out.Wv ((i:Int)+1)).YQ (di _ (.cells #[.int .u8 (((ByteArray.mk #[111,114])[0].toNat:Int)),af,.string ⟨#[]⟩,Y 0,Y 0,Y 0,Y 0] 176) none) pG);have ak:=Z8 (Gl (w2.setCell (O Z 1) (Y ((i:Int)+1))) (((ByteArray.mk #[111,114])[0].toNat:Int)) 176);have aY:(w2.setCell (O Z 1) (Y ((i:Int)+1))).heap.size=w2.heap.size:=pV;rw[aY]at ak;have Ww:w0.heap.size<=w2.heap.size:=Vt.out.size;have WL:(w2.heap.size:Nat)≠Z:=J;generalize ((w2.setCell (O Z 1) (Y ((i:Int)+1))).alloc (.cells #[.int .u8 (((ByteArray.mk #[111,114])[0].toNat:Int)),af,.string ⟨#[]⟩,Y 0,Y 0,Y 0,Y 0] 176))=wa at a7 aG ak⊢;clear aY;generalize w2.heap.size=br at WL Ww ak YK⊢;clear d0 d1 e1 Uc Vt;have HF:=Z8 (bI.out br Ww);have ax:Hid (Iz U vars Z bm br wa.heap.size i j (Gc vars rules.length kw (n0::ns) (kind,line)) ((n0::ns).map (QP vars)) (λq=>wa.cell? (O br q)) w0 (ns.length+1) (Y 1) wa):=
  ⟨1,i+1,n0::ns,[],_,_,_,rfl,rfl,J,pG,J,J,.inl ⟨rfl,n0,ns,m0,rfl,bn.out.1,bn.out.2⟩,rfl,rfl,iw _,⟨ak.out.c2,ak.out.c3⟩,ak.out.El rfl _ ak.out.lt,a7.out,aG.out⟩
 have cG:B<=wa.heap.size:=tD;have aO:w0.heap.size<=wa.heap.size:=a7.out.size;obtain⟨B',aK⟩:∃b,wa.heap.size=b:=⟨_,rfl⟩;obtain⟨C,hC⟩:∃c:Nat->Option aF,(λq=>wa.cell? (O br q))=c:=⟨_,rfl⟩
 rw[aK,hC]at ax;rw[aK]at cG aO;have cH:=Z8 hC;obtain⟨ST,bu⟩:∃s,Gc vars rules.length kw (n0::ns) (kind,line)=s:=⟨_,rfl⟩;obtain⟨aN,bA⟩:∃s,(n0::ns).map (QP vars)=s:=⟨_,rfl⟩;rw[bu,bA]at ax;have bB:=Z8 ak.out;have Sc:=Z8 (iG bu bA);obtain⟨N,hN⟩:∃n,ns.length+1=n:=⟨_,rfl⟩;rw[hN]at ax;clear hC bu bA hN bn ak a7 aG aK
 go_loopg [11] N (λn vk wr=>Iz U vars Z bm br B' i j ST aN C w0 n vk wr)
 case atStart=>exact ax
 case round=>
  clear ax;obtain⟨k,p,rem,done,kd,ln,vL,rfl,rfl,cP,a8,cQ,b5,b6,Sg,aU,cI,aS,RX,bX,b7⟩:=hrel;have cd:=Z8 b5;have Sn:=Z8 aS;clear aS;have Q7:=Z8 bX;have Pc:=Z8 b7;have Sd:=Z8 RX;clear bX b7 RX;rcases b6 with⟨rfl,l,NB,m,rfl,aX,aZ⟩|⟨Vo,aZ⟩
  ·have b8:B'<=wr.heap.size:=cI;have ba:=Q7;have bk:=Pc;have bb:=Sd;have bc:=Sn;have au:=Z8 (iG aX aZ);clear aX aZ Q7 Pc Sd;go_wp2_with fail;have Mq:=H0.out.but (j:=p) ba.out bk.out pT;obtain⟨t1,t2,t3⟩:=VE au.out.1.lt.2;have hf:=Re (Mq.ctx J) t3 (false) 6;rw[t2]at hf;have Uz:=Z8 (iG t1 t2);clear Mq t1 t2;refine hf.mono ?_;rintro e wf ⟨rfl,aw,aR⟩;have bO:Z<B':=qB;have aT:=bb.out.grown aw (λb e=>by cases e;exact⟨λe=>WL e.symm,λe=>by have:=(bb.out.own.lt _ e).1;omega⟩)
   have bE:=ba.out.walk aw;have g0:=di wf (.cells #[Y 0,Y 0] 183) none;have n0:some br≠some Z:=pU;have bT:w0.heap.size<=wf.heap.size:=bE.size;have cg:=aR.wk.lt;have Wq:Hid (Oc U Z bm br B' wf.heap.size vL done C w0 0 0 (p) _ _ (wf.alloc (.cells #[Y 0,Y 0] 183))):=
    ⟨by have:=aw.size;simp;omega,g0.cell (aw.cell bc.out.1 n0) pG,g0.cell (aw.cell bc.out.2 n0) pG,aT.grown g0 (λb e=>pL),bE.alloc _,aR.wk.YQ g0 pG,wE _ _,
     by omega,by have:=aT.lt;omega,λe=>by have:=(aT.own.lt _ e).2;omega,WL,bO,bT,aO,Ww⟩
   clear hf aw aR aT bE ba bk bb bc bT cg;go_wp2_with fail;generalize (wf.alloc (.cells #[Y 0,Y 0] 183))=wg at Wq⊢;generalize wf.heap.size=bp at Wq⊢;clear g0;have Mg:=H0.out.but (j:=p) Wq.out.bt Wq.out.wk pT;have hp:=SG (Mg.ctx J) J;rw[Uz.out.1]at hp;refine hp.mono ?_;rintro e wh ⟨rfl,bQ,bZ⟩;have av:=Z8 (Wq.out.walk bQ bZ.wk);clear hp bQ bZ Mg Wq;have cx:bp≠Z:=av.out.n1;obtain⟨d0,d1,_,_,e1,_,_,_⟩:=av.out.wk;obtain⟨v0,v1,bW,Sz,Yv⟩:=av.out.Tm;have cM:=λW o u b' o' h=>YJ W bp o u b' o' h
   cases Tb:l.neg with
   |some b=>
    have hA:=au.out.1;unfold Q6 at hA;rw[Tb]at hA;simp only at hA;obtain⟨a1,a2,a3,a4⟩:=hA;obtain rfl:m=p+2:=a4;have cm:l.head=b:=rJ;have hq:(l.head.s.toList==[33])=true:=sI;have aJ:=Z8 ((av.out.part (av.out.Tm.PY 1)).Wv (p+1));have bG:=Z8 a3;have bL:=Z8 Tb;clear a1 a2 a3 cm Tb av;go_wp2_with fail;rw[show((p:Int)+1)=((p+1:Nat):Int) by omega];generalize ((wh.setCell (ah bp) (Y 1)).setCell (O Z 1) (Y ((p+1:Nat):Int)))=wi at aJ⊢;clear d0 d1 e1 v0 v1 bW Sz Yv hq;obtain⟨s1,s2,s3⟩:=VE bG.out;have Mi:=H0.out.but (j:=p+1) aJ.out.bt aJ.out.wk pT;have hu:=GJ (Mi.ctx J) s3;rw[s1,s2]at hu;refine hu.mono ?_;rintro e wk ⟨rfl,aM,aQ⟩;have aa:=aJ.out.walk aM aQ.wk;obtain⟨X,hX⟩:∃x,Y6 vars l.name.s=x:=⟨_,rfl⟩;rw[hX];have HX:=Z8 hX;have v0:=aa.Tm.c0;have v1:=aa.Tm.c1;have Sz:=aa.Tm.f1;have r1:=aa.rl.c1;have a6:=aa.rl.f1;have aW:=aa.rl.lt;have IA:br≠bp:=λe=>aa.n2 e.symm
    have ck:bp≠br:=aa.n2;have Ux:=Z8 (aa.part (aa.Tm.IE X));have Gb:(wk.setCell (O bp 1) (Y X)).heap.size=wk.heap.size:=pV;have YD:=Z8 (Ux.out.rl.own.alloc (.cells #[Y (1),Y X] 183));have YF:Hid (∀jj u,[Y (1),Y X][jj]?=some u->((wk.setCell (O bp 1) (Y X)).alloc (.cells #[Y (1),Y X] 183)).cell? (((ah wk.heap.size):Addr).add jj)=some u):=by
     exact kX
    have bY:B'<=wk.heap.size:=aa.hB;have aC:Hid (∀wA,((wk.setCell (O bp 1) (Y X)).alloc (.cells #[Y (1),Y X] 183)).grownBy wA vL.ownBlock->wA.cell? (O br 1)=some vL/\wA.frozen? (O br 1)=false):=by
     exact oC
    have bP:done.length<=2000:=J;clear hu aM aQ aa Mi s1 s2 hX aJ;go_wp2_with (at_builtin;go_must (refine wpList_append_lies _ rfl _ _ 174 rfl B' 183 ip (.agg #[Y 0,Y 0]) 2 16 underlying174 bH T7 UJ UI rfl pF vL done.length (Un done) rfl YD.out (ah wk.heap.size) 1 1 [Y (1),Y X] rfl rfl YF.out (Lv _ _) pF pK J pI _ rfl ?_));intro gA XC wA YT Zo XL Xq;obtain⟨q1,q2⟩:=aC.out wA Zo;have hP:=Ux.out.push YT Zo;have hle:=au.out.2.le;have OB:Hid (Iz U vars Z bm br B' i j ST aN C w0 NB.length (Y ((1+1:Nat):Int)) (wA.setCell (O br 1) (aj gA (done.length+1) XC))):=
     ⟨1+1,p+2,NB,done++[(1,X)],_,_,_,rfl,rfl,J,by simp;omega,hle,by have:=cd.out;omega,.inr ⟨J,au.out.2⟩,Sg.out,by unfold Hid;rw[<-aU.out,<-HX.out];simp[QP,bL.out],hP.1,hP.2.1,hP.2.2.1,hP.2.2.2.1,hP.2.2.2.2⟩
    clear hP Ux YD YF aC YT Zo XL Xq v0 v1 Sz r1 a6;exact j2
   |none=>
    have hA:=au.out.1;unfold Q6 at hA;rw[Tb]at hA;simp only at hA;obtain⟨a1,a2,a4⟩:=hA;obtain rfl:m=p+1:=a4;have cm:l.head=l.name:=rJ;have hq:(l.head.s.toList==[33])=false:=sI;have aJ:=av;have bG:=Z8 a1;have bL:=Z8 Tb;clear a1 a2 cm Tb av;go_wp2_with fail;generalize wh=wi at aJ⊢;clear d0 d1 e1 v0 v1 bW Sz Yv hq;obtain⟨s1,s2,s3⟩:=VE bG.out;have Mi:=H0.out.but (j:=p) aJ.out.bt aJ.out.wk pT;have hu:=GJ (Mi.ctx J) s3;rw[s1,s2]at hu;refine hu.mono ?_;rintro e wk ⟨rfl,aM,aQ⟩;have aa:=aJ.out.walk aM aQ.wk;obtain⟨X,hX⟩:∃x,Y6 vars l.name.s=x:=⟨_,rfl⟩;rw[hX];have HX:=Z8 hX;have v0:=aa.Tm.c0;have v1:=aa.Tm.c1;have Sz:=aa.Tm.f1;have r1:=aa.rl.c1;have a6:=aa.rl.f1;have aW:=aa.rl.lt;have IA:br≠bp:=λe=>aa.n2 e.symm
    have ck:bp≠br:=aa.n2;have Ux:=Z8 (aa.part (aa.Tm.IE X));have Gb:(wk.setCell (O bp 1) (Y X)).heap.size=wk.heap.size:=pV;have YD:=Z8 (Ux.out.rl.own.alloc (.cells #[Y (0),Y X] 183));have YF:Hid (∀jj u,[Y (0),Y X][jj]?=some u->((wk.setCell (O bp 1) (Y X)).alloc (.cells #[Y (0),Y X] 183)).cell? (((ah wk.heap.size):Addr).add jj)=some u):=by
     exact kY
    have bY:B'<=wk.heap.size:=aa.hB;have aC:Hid (∀wA,((wk.setCell (O bp 1) (Y X)).alloc (.cells #[Y (0),Y X] 183)).grownBy wA vL.ownBlock->wA.cell? (O br 1)=some vL/\wA.frozen? (O br 1)=false):=by
     exact oD
    have bP:done.length<=2000:=J;clear hu aM aQ aa Mi s1 s2 hX aJ;go_wp2_with (at_builtin;go_must (refine wpList_append_lies _ rfl _ _ 174 rfl B' 183 ip (.agg #[Y 0,Y 0]) 2 16 underlying174 bH T7 UJ UI rfl pF vL done.length (Un done) rfl YD.out (ah wk.heap.size) 1 1 [Y (0),Y X] rfl rfl YF.out (Lv _ _) pF pK J pI _ rfl ?_));intro gA XC wA YT Zo XL Xq;obtain⟨q1,q2⟩:=aC.out wA Zo;have hP:=Ux.out.push YT Zo;have hle:=au.out.2.le;have OB:Hid (Iz U vars Z bm br B' i j ST aN C w0 NB.length (Y ((1+1:Nat):Int)) (wA.setCell (O br 1) (aj gA (done.length+1) XC))):=
     ⟨1+1,p+1,NB,done++[(0,X)],_,_,_,rfl,rfl,J,by simp;omega,hle,by have:=cd.out;omega,.inr ⟨J,au.out.2⟩,Sg.out,by unfold Hid;rw[<-aU.out,<-HX.out];simp[QP,bL.out],hP.1,hP.2.1,hP.2.2.1,hP.2.2.2.1,hP.2.2.2.2⟩
    clear hP Ux YD YF aC YT Zo XL Xq v0 v1 Sz r1 a6;exact j2
  ·cases rem with
   |nil=>
    obtain rfl:p=j:=aZ;have G0:((k:Int)==1)=false:=pI;have Mq:=H0.out.but (j:=p) Q7.out Pc.out pT;have hp:=SG (Mq.ctx J) J;have Q8:=Z8 hp;have bN:((Y' U p).toList==[44])=false:=uL;have bO:Z<B':=qB;clear hp Mq;go_wp2_with fail;refine(Xd Q8).mono ?_;rintro e wj ⟨rfl,NC,NF⟩;have RL:=Z8 (Q7.out.walk NC);have Pd:=Z8 NF.wk;have QB:=Sd.out.grown NC (λb e=>by cases e;exact⟨λe=>WL e.symm,λe=>by have:=(Sd.out.own.lt _ e).1;omega⟩)
    have IJ:done=aN:=by rw[<-aU.out];simp
    have n0:some br≠some Z:=pU;have N7:=Z8 (bB.out.Ek (by rw[cH.out];exact QB) (NC.cell Sn.out.1 n0) (NC.cell Sn.out.2 n0));have Kv:=Z8 (QB.own.mono (base':=B) J);obtain⟨R,hR⟩:∃R:YL,R=⟨111,done,vL,⟨#[]⟩,0,0,0,0⟩:=⟨_,rfl⟩;exact jk
   |cons l NB=>
    obtain⟨⟨c,T8,V7⟩,m,aX,bK⟩:=aZ;have G0:((k:Int)==1)=false:=pI;have cT:(1:Int)<(k:Int):=J;have aL:=(VE T8).2.2;have Mq:=H0.out.but (j:=p) Q7.out Pc.out pT;have hp:=SG (Mq.ctx J) J;rw[(VE T8).1]at hp;have Q8:=Z8 hp;have bN:(c.s.toList==[44])=true:=uX;have cU:Z<B':=qB;have au:=Z8 (iG aX bK);clear hp Mq T8 V7 aX bK;go_wp2_with fail;refine(Xd Q8).mono ?_;rintro e wp ⟨rfl,b9,bD⟩;have cn:some br≠some Z:=pU;have cp:=Sd.out.grown b9 (λb e=>by cases e;exact⟨λe=>WL e.symm,λe=>by have:=(Sd.out.own.lt _ e).1;omega⟩)
    have ba:=Z8 ((Q7.out.walk b9).set (k:=Z) (.inl pG) 1 (Y ((p:Int)+1)));have bk:=Z8 (bD.wk.Wv ((p:Int)+1));have bb:=Z8 (cp.grown (ZC wp Z 1 (Y ((p:Int)+1))) (λb e=>by cases e;exact⟨λe=>WL e.symm,λe=>by have:=(Sd.out.own.lt _ e).1;omega⟩))
    have bc:Hid ((wp.setCell (O Z 1) (Y ((p:Int)+1))).cell? (O br 2)=some (.string ⟨#[]⟩)/\(wp.setCell (O Z 1) (Y ((p:Int)+1))).cell? (O br 3)=some (Y 0)):=
     ⟨(YJ _ _ _ _ _ _ (.inl WL)).trans (b9.cell Sn.out.1 cn),(YJ _ _ _ _ _ _ (.inl WL)).trans (b9.cell Sn.out.2 cn)⟩
    have b8:B'<=(wp.setCell (O Z 1) (Y ((p:Int)+1))).heap.size:=sW;obtain⟨d0,d1,_,_,e1,_,_,_⟩:=bD.wk;clear b9 bD cp Q8 Q7 Pc Sd Sn;go_wp2_with fail;generalize (wp.setCell (O Z 1) (Y ((p:Int)+1)))=wq at ba bk bb bc b8⊢;clear d0 d1 e1;have Mq:=H0.out.but (j:=p+1) ba.out bk.out pT;obtain⟨t1,t2,t3⟩:=VE au.out.1.lt.2;have hf:=Re (Mq.ctx J) t3 (decide (8<(k:Int))) 6;rw[t2]at hf;have Uz:=Z8 (iG t1 t2);clear Mq t1 t2;refine hf.mono ?_;rintro e wf ⟨rfl,aw,aR⟩;have bO:Z<B':=qB;have aT:=bb.out.grown aw (λb e=>by cases e;exact⟨λe=>WL e.symm,λe=>by have:=(bb.out.own.lt _ e).1;omega⟩)
    have bE:=ba.out.walk aw;have g0:=di wf (.cells #[Y 0,Y 0] 183) none;have n0:some br≠some Z:=pU;have bT:w0.heap.size<=wf.heap.size:=bE.size;have cg:=aR.wk.lt;have Wq:Hid (Oc U Z bm br B' wf.heap.size vL done C w0 0 0 (p+1) _ _ (wf.alloc (.cells #[Y 0,Y 0] 183))):=
     ⟨by have:=aw.size;simp;omega,g0.cell (aw.cell bc.out.1 n0) pG,g0.cell (aw.cell bc.out.2 n0) pG,aT.grown g0 (λb e=>pL),bE.alloc _,aR.wk.YQ g0 pG,wE _ _,
      by omega,by have:=aT.lt;omega,λe=>by have:=(aT.own.lt _ e).2;omega,WL,bO,bT,aO,Ww⟩
    clear hf aw aR aT bE ba bk bb bc bT cg;go_wp2_with fail;generalize (wf.alloc (.cells #[Y 0,Y 0] 183))=wg at Wq⊢;generalize wf.heap.size=bp at Wq⊢;clear g0;have Mg:=H0.out.but (j:=p+1) Wq.out.bt Wq.out.wk pT;have hp:=SG (Mg.ctx J) J;rw[Uz.out.1]at hp;refine hp.mono ?_;rintro e wh ⟨rfl,bQ,bZ⟩;have av:=Z8 (Wq.out.walk bQ bZ.wk);clear hp bQ bZ Mg Wq;have cx:bp≠Z:=av.out.n1;obtain⟨d0,d1,_,_,e1,_,_,_⟩:=av.out.wk;obtain⟨v0,v1,bW,Sz,Yv⟩:=av.out.Tm;have cM:=λW o u b' o' h=>YJ W bp o u b' o' h
    cases Tb:l.neg with
    |some b=>
     have hA:=au.out.1;unfold Q6 at hA;rw[Tb]at hA;simp only at hA;obtain⟨a1,a2,a3,a4⟩:=hA;obtain rfl:m=p+1+2:=a4;have cm:l.head=b:=rJ;have hq:(l.head.s.toList==[33])=true:=sI;have aJ:=Z8 ((av.out.part (av.out.Tm.PY 1)).Wv (p+1+1));have bG:=Z8 a3;have bL:=Z8 Tb;clear a1 a2 a3 cm Tb av;go_wp2_with fail;rw[show((p:Int)+1+1)=((p+1+1:Nat):Int) by omega];generalize ((wh.setCell (ah bp) (Y 1)).setCell (O Z 1) (Y ((p+1+1:Nat):Int)))=wi at aJ⊢;clear d0 d1 e1 v0 v1 bW Sz Yv hq;obtain⟨s1,s2,s3⟩:=VE bG.out;have Mi:=H0.out.but (j:=p+1+1) aJ.out.bt aJ.out.wk pT;have hu:=GJ (Mi.ctx J) s3;rw[s1,s2]at hu;refine hu.mono ?_;rintro e wk ⟨rfl,aM,aQ⟩;have aa:=aJ.out.walk aM aQ.wk;obtain⟨X,hX⟩:∃x,Y6 vars l.name.s=x:=⟨_,rfl⟩;rw[hX];have HX:=Z8 hX;have v0:=aa.Tm.c0;have v1:=aa.Tm.c1;have Sz:=aa.Tm.f1;have r1:=aa.rl.c1;have a6:=aa.rl.f1;have aW:=aa.rl.lt;have IA:br≠bp:=λe=>aa.n2 e.symm
     have ck:bp≠br:=aa.n2;have Ux:=Z8 (aa.part (aa.Tm.IE X));have Gb:(wk.setCell (O bp 1) (Y X)).heap.size=wk.heap.size:=pV;have YD:=Z8 (Ux.out.rl.own.alloc (.cells #[Y (1),Y X] 183));have YF:Hid (∀jj u,[Y (1),Y X][jj]?=some u->((wk.setCell (O bp 1) (Y X)).alloc (.cells #[Y (1),Y X] 183)).cell? (((ah wk.heap.size):Addr).add jj)=some u):=by
      exact kX
     have bY:B'<=wk.heap.size:=aa.hB;have aC:Hid (∀wA,((wk.setCell (O bp 1) (Y X)).alloc (.cells #[Y (1),Y X] 183)).grownBy wA vL.ownBlock->wA.cell? (O br 1)=some vL/\wA.frozen? (O br 1)=false):=by
      exact oC
     have bP:done.length<=2000:=J;clear hu aM aQ aa Mi s1 s2 hX aJ;go_wp2_with (at_builtin;go_must (refine wpList_append_lies _ rfl _ _ 174 rfl B' 183 ip (.agg #[Y 0,Y 0]) 2 16 underlying174 bH T7 UJ UI rfl pF vL done.length (Un done) rfl YD.out (ah wk.heap.size) 1 1 [Y (1),Y X] rfl rfl YF.out (Lv _ _) pF pK J pI _ rfl ?_));intro gA XC wA YT Zo XL Xq;obtain⟨q1,q2⟩:=aC.out wA Zo;have hP:=Ux.out.push YT Zo;have hle:=au.out.2.le;have OB:Hid (Iz U vars Z bm br B' i j ST aN C w0 NB.length (Y ((k+1:Nat):Int)) (wA.setCell (O br 1) (aj gA (done.length+1) XC))):=
      ⟨k+1,p+1+2,NB,done++[(1,X)],_,_,_,rfl,rfl,J,by simp;omega,hle,by have:=cd.out;omega,.inr ⟨J,au.out.2⟩,Sg.out,by unfold Hid;rw[<-aU.out,<-HX.out];simp[QP,bL.out],hP.1,hP.2.1,hP.2.2.1,hP.2.2.2.1,hP.2.2.2.2⟩
     clear hP Ux YD YF aC YT Zo XL Xq v0 v1 Sz r1 a6;exact j2
    |none=>
     have hA:=au.out.1;unfold Q6 at hA;rw[Tb]at hA;simp only at hA;obtain⟨a1,a2,a4⟩:=hA;obtain rfl:m=p+1+1:=a4;have cm:l.head=l.name:=rJ;have hq:(l.head.s.toList==[33])=false:=sI;have aJ:=av;have bG:=Z8 a1;have bL:=Z8 Tb;clear a1 a2 cm Tb av;go_wp2_with fail;generalize wh=wi at aJ⊢;clear d0 d1 e1 v0 v1 bW Sz Yv hq;obtain⟨s1,s2,s3⟩:=VE bG.out;have Mi:=H0.out.but (j:=p+1) aJ.out.bt aJ.out.wk pT;have hu:=GJ (Mi.ctx J) s3;rw[s1,s2]at hu;refine hu.mono ?_;rintro e wk ⟨rfl,aM,aQ⟩;have aa:=aJ.out.walk aM aQ.wk;obtain⟨X,hX⟩:∃x,Y6 vars l.name.s=x:=⟨_,rfl⟩;rw[hX];have HX:=Z8 hX;have v0:=aa.Tm.c0;have v1:=aa.Tm.c1;have Sz:=aa.Tm.f1;have r1:=aa.rl.c1;have a6:=aa.rl.f1;have aW:=aa.rl.lt;have IA:br≠bp:=λe=>aa.n2 e.symm
     have ck:bp≠br:=aa.n2;have Ux:=Z8 (aa.part (aa.Tm.IE X));have Gb:(wk.setCell (O bp 1) (Y X)).heap.size=wk.heap.size:=pV;have YD:=Z8 (Ux.out.rl.own.alloc (.cells #[Y (0),Y X] 183));have YF:Hid (∀jj u,[Y (0),Y X][jj]?=some u->((wk.setCell (O bp 1) (Y X)).alloc (.cells #[Y (0),Y X] 183)).cell? (((ah wk.heap.size):Addr).add jj)=some u):=by
      exact kY
     have bY:B'<=wk.heap.size:=aa.hB;have aC:Hid (∀wA,((wk.setCell (O bp 1) (Y X)).alloc (.cells #[Y (0),Y X] 183)).grownBy wA vL.ownBlock->wA.cell? (O br 1)=some vL/\wA.frozen? (O br 1)=false):=by
      exact oD
     have bP:done.length<=2000:=J;clear hu aM aQ aa Mi s1 s2 hX aJ;go_wp2_with (at_builtin;go_must (refine wpList_append_lies _ rfl _ _ 174 rfl B' 183 ip (.agg #[Y 0,Y 0]) 2 16 underlying174 bH T7 UJ UI rfl pF vL done.length (Un done) rfl YD.out (ah wk.heap.size) 1 1 [Y (0),Y X] rfl rfl YF.out (Lv _ _) pF pK J pI _ rfl ?_));intro gA XC wA YT Zo XL Xq;obtain⟨q1,q2⟩:=aC.out wA Zo;have hP:=Ux.out.push YT Zo;have hle:=au.out.2.le;have OB:Hid (Iz U vars Z bm br B' i j ST aN C w0 NB.length (Y ((k+1:Nat):Int)) (wA.setCell (O br 1) (aj gA (done.length+1) XC))):=
      ⟨k+1,p+1+1,NB,done++[(0,X)],_,_,_,rfl,rfl,J,by simp;omega,hle,by have:=cd.out;omega,.inr ⟨J,au.out.2⟩,Sg.out,by unfold Hid;rw[<-aU.out,<-HX.out];simp[QP,bL.out],hP.1,hP.2.1,hP.2.2.1,hP.2.2.2.1,hP.2.2.2.2⟩
     clear hP Ux YD YF aC YT Zo XL Xq v0 v1 Sz r1 a6;exact j2
end
section
attribute [local go_sem ↓] Go.wp_at_zero Go.wp_at_succ
section
variable {w w' w0:A}{Z bm gt Z1 B:Nat}{U:List ZY}{vv vl vr:aF}{vars:List Y7}{lists:List YZ}{rules:List YL}{i:Nat}{kind line:Int}
theorem Md.agB (h:Md w Z bm gt Z1 B U vv vl vr vars lists rules i kind line){o:Obj}{wA:A}{v':aF}{x:YZ}(hi:lists.length+1<=i)(hp:w.ownsRow B 3 1 x.v x.Xb.length (x.Xb.map (.int .i64)))(ZO:wA.ownsRow B 178 2 v' (lists.length+1) (Pf lists++[.string x.name,x.v]))(z:(w.alloc o).drew.grownBy wA vl.ownBlock):Md (wA.setCell (O bm 2) v') Z bm gt Z1 B U vv v' vr vars (lists++[x]) rules i kind line/\Um B [Z,bm] w (wA.setCell (O bm 2) v'):=by
 have g0:w.grownBy (w.alloc o).drew none:=(di w o none).trans (ZG _ none);have gs:=ZC wA bm 2 v';have Vb:∀b,b<B->some b≠vl.ownBlock:=λb hb e=>by have:=(h.ol.lt _ e.symm).1;omega
 have nn:∀{v:aF},v.ownBlock=none\/v.ownBlock≠none:=λ{v}=>by cases v.ownBlock with
  |none=>exact .inl rfl
  |some g=>exact .inr pG
 have keep:∀{e:TypeId} {s n:Nat} {v:aF} {xs:ay},w.ownsRow B e s v n xs->e≠178->(wA.setCell (O bm 2) v').ownsRow B e s v n xs:=λ{e s n v xs} ho he=>
  have F:=ho.kept g0 nn;have h2:=F.kept z (BL ho h.ol he)
  h2.kept gs (IG h2 h.UL)
 have cell:∀b q u,b<B->b≠bm->w.cell? (O b q)=some u->(wA.setCell (O bm 2) v').cell? (O b q)=some u:=λb q u hb hn hu=>
  gs.cell (z.cell (g0.cell hu pG) (Vb b hb)) uH
 have bC:∀q u,q≠2->w.cell? (O bm q)=some u->(wA.setCell (O bm 2) v').cell? (O bm q)=some u:=λq u hq hu=>
  (YJ _ _ _ _ _ _ (.inr hq)).trans (z.cell (g0.cell hu pG) (Vb bm h.UL))
 have Yw:w.heap.size<=wA.heap.size:=gZ g0.size z.size;have cE:∀q,wA.frozen? (O bm q)=w.frozen? (O bm q):=λq=>
  (z.frozen_far (O bm q) (dH h.tk.Ya g0.size) (Vb bm h.UL)).trans (g0.frozen_far (O bm q) h.tk.Ya pG)
 have fr:∀q,(wA.setCell (O bm 2) v').frozen? (O bm q)=w.frozen? (O bm q):=λq=>(bR _ _ _ _).trans (cE q)
 have cF:Wk (wA.setCell (O bm 2) v') Z bm i kind line:=by
  have n1:=Vb Z h.V8;have n2:some Z≠some bm:=rr;have f0:∀q,(wA.setCell (O bm 2) v').frozen? (O Z q)=w.frozen? (O Z q):=λq=>
   (bR _ _ _ _).trans ((z.frozen_far (O Z q) (dH h.wk.lt g0.size) n1).trans (g0.frozen_far (O Z q) h.wk.lt pG))
  exact⟨cell Z 0 _ h.V8 (λe=>h.Uq e.symm) h.wk.c0,cell Z 1 _ h.V8 (λe=>h.Uq e.symm) h.wk.c1,cell Z 2 _ h.V8 (λe=>h.Uq e.symm) h.wk.c2,cell Z 3 _ h.V8 (λe=>h.Uq e.symm) h.wk.c3,
   (f0 1).trans h.wk.f1,(f0 2).trans h.wk.f2,(f0 3).trans h.wk.f3,by have:=h.wk.lt;simp[World.setCell];omega⟩
 have dv:(wA.setCell (O bm 2) v').heap.size=wA.heap.size:=pV;refine⟨⟨cF,⟨bC 0 _ J h.tk.m0,λj u hu=>cell gt j u h.Vm h.Kc (h.tk.row j u hu),by have:=h.tk.Ya;omega,by have:=h.tk.VG;omega⟩,bC 1 _ J h.m1,?_,bC 3 _ J h.m3,(fr 1).trans h.f1,(fr 2).trans h.f2,(fr 3).trans h.f3,keep h.ov pF,
  ?_,keep h.RM pF,λl hl=> ?_,λr hr=>keep (h.ri r hr) pF,h.Uq,h.Kd,h.Kc,h.V8,h.UL,h.Vm,by have:=h.hB;omega,h.hn,h.lv,by simp;omega,h.lr⟩,?_⟩
 ·exact bo _ _ _ (z.cell (g0.cell h.m2 pG) (Vb bm h.UL))
 ·rw[afC,dA];exact mK
 ·rcases fE.1 hl with hl|hl
  ·exact keep (h.li l hl) pF
  ·obtain rfl:l=x:=rM;exact keep hp pF
 ·refine(((Um.refl B [Z,bm] w).grown g0 h.hB (λ_ e=>pL)).grown z rX (λk e=>.inr ((h.ol.lt _ e).1))).grown gs uJ (λk e=>by cases e;exact .inl pG)
end
theorem agC:(prog.info? 178).map (λi=>(i.zero,i.size,i.bytes))=some (some (.agg #[.string .empty,af]),2,40):=pH
theorem agD:(prog.info? 3).map (λi=>(i.zero,i.size,i.bytes))=some (some (Y 0),1,8):=pH
def wD (k:Nat)(n:ZY)(st:Zv):Zv:=ZE (Yg (YU n.s) 1000) 5 n.line (ZE (decide (20<(k:Int))) 6 n.line st)
def Iy:Nat->List ZY->Zv->Zv
 |_,[],st=>st
 |k,n::ns,st=>Iy (k+1) ns (wD k n st)
def Ga (vars:List Y7)(lists:List YZ)(nm:ZY)(ns:List ZY)(st:Zv):Zv:=
 Iy 1 ns (ZE (decide (0<=Y6 vars nm.s)||decide (0<=NI lists nm.s)) 4 nm.line st)
structure Lc (Z bm bl B':Nat)(vL:aF)(Xb:az)(w0:A)(s:aA)(p:Nat)(kd ln:Int)(w:A):Prop where
 hB:B'<=w.heap.size
 c0:w.cell? (ah bl)=some (.string s)
 c1:w.cell? (O bl 1)=some vL
 f1:w.frozen? (O bl 1)=false
 own:w.ownsRow B' 3 1 vL Xb.length (Xb.map (.int .i64))
 bt:Y9 [Z] w0 w
 wk:Wk w Z bm p kd ln
 n1:bl≠Z
 n2:bl<B'
 n3:Z<B'
 n4:w0.heap.size<=bl
 n5:w0.heap.size<=B'
section
variable {Z bm bl B':Nat}{vL:aF}{Xb:az}{w0:A}{s:aA}{p:Nat}{kd ln:Int}{w w':A}
theorem Lc.walk (h:Lc Z bm bl B' vL Xb w0 s p kd ln w)(z:w.grownBy w' (some Z)){p':Nat}{bU bV:Int}(hW:Wk w' Z bm p' bU bV):Lc Z bm bl B' vL Xb w0 s p' bU bV w':=
 have n0:some bl≠some Z:=by simpa using h.n1
 ⟨gZ h.hB z.size,z.cell h.c0 n0,z.cell h.c1 n0,(z.frozen_far (O bl 1) (by have:=h.hB;have:=h.n2;show bl<_;omega) n0).trans h.f1,h.own.kept z (IG h.own h.n3),h.bt.walk z,hW,h.n1,h.n2,h.n3,h.n4,h.n5⟩
theorem Lc.Wv (h:Lc Z bm bl B' vL Xb w0 s p kd ln w)(p':Nat):Lc Z bm bl B' vL Xb w0 s p' kd ln (w.setCell (O Z 1) (Y p')):=h.walk (ZC _ _ _ _) (h.wk.Wv _)
theorem Lc.push (h:Lc Z bm bl B' vL Xb w0 s p kd ln w){wA:A}{v':aF}{o:Obj}{x:Int}(ZO:wA.ownsRow B' 3 1 v' (Xb.length+1) (Xb.map (.int .i64)++[Y x]))(z:(w.alloc o).grownBy wA vL.ownBlock):Lc Z bm bl B' v' (Xb++[x]) w0 s p kd ln (wA.setCell (O bl 1) v'):=by
 have g0:w.grownBy (w.alloc o) none:=di w o none;have gs:=ZC wA bl 1 v';have n1:some bl≠vL.ownBlock:=λe=>by have:=(h.own.lt _ e.symm).1;have:=h.n2;omega
 have nb:some Z≠vL.ownBlock:=λe=>by have:=(h.own.lt _ e.symm).1;have:=h.n3;omega
 have hB:=h.hB;have s0:=g0.size;have s1:=z.size;have hl:bl<(w.alloc o).heap.size:=by have:=h.n2;omega
 refine⟨by have:=gs.size;omega,(YJ _ _ _ _ _ _ J).trans (z.cell (g0.cell h.c0 pG) n1),bo _ _ _ (z.cell (g0.cell h.c1 pG) n1),
  (bR _ _ _ _).trans ((z.frozen_far (O bl 1) hl n1).trans ((g0.frozen_far (O bl 1) (by have:=h.n2;show bl<_;omega) pG).trans h.f1)),?_,?_,
  ((h.wk.YQ g0 pG).YQ z nb).YQ gs (by simpa using λe:Z=bl=>h.n1 e.symm),h.n1,h.n2,h.n3,h.n4,h.n5⟩
 ·rw[dA,fD];exact ZO.kept gs (IG ZO h.n2)
 ·exact((h.bt.alloc o).grown z (λk e=>.inr (by have:=(h.own.lt _ e).1;have:=h.n5;omega))).set (.inr h.n4) _ _
end
def D5 (U:List ZY)(Z bm bl:Nat)(B' i j:Nat)(ST:Zv)(bS:az)(s:aA)(w0:A)(n:Nat)(vk:aF)(wr:A):Prop:=
 ∃(k p:Nat) (rem:List ZY) (done:az) (kd ln:Int) (vL:aF),n=rem.length/\vk=Y k/\k<=p+1/\done.length<=p/\p<=j/\i<=p/\(∀t∈rem,UU t.s)/\
  ((k=1/\∃n0 ns,rem=n0::ns/\U[p+2]?=some n0/\P1 U (p+3) ns j)\/(1<k/\P1 U p rem j))/\
  Hid (Iy k rem (kd,ln)=ST)/\Hid (done++rem.map (λt=>YU t.s)=bS)/\Lc Z bm bl B' vL done w0 s p kd ln wr
theorem agE {s:aA}{v:aF}(h:v.oneCell'=true):∀u∈[Value.string s,v],u.oneCell'=true:=by
 intro u hu;simp at hu;rcases hu with rfl|rfl
 ·rfl
 ·exact h
theorem wC (a:Int):∀u∈[Y a],u.oneCell'=true:=by
 intro u hu;simp at hu;rcases hu with rfl;rfl
def j7{P:Prop}(h:P:=by
 intro wA z;have g0:=di wk (.cells #[Y X] 3) none;have n1:some bl≠vL.ownBlock:=λe=>by have:=(Ux.out.own.lt _ e.symm).1;have:=Ux.out.n2;omega
 exact⟨z.cell (g0.cell Ux.out.c1 pG) n1,(z.frozen_far (O bl 1) (dH Po g0.size) n1).trans ((g0.frozen_far (O bl 1) Po pG).trans Ux.out.f1)⟩):P:=h
theorem agF (w0:A)(Z bm gt Z1 B:Nat)(U:List ZY)(vv vl vr:aF)(vars:List Y7)(lists:List YZ)(rules:List YL)(i j:Nat)(kind line:Int)(kw nm n0:ZY)(ns:List ZY)(h:Md w0 Z bm gt Z1 B U vv vl vr vars lists rules i kind line)(I:U[i]?=some kw)(V6:kw.s=⟨#[108,105,115,116]⟩)(bf:U[i+1]?=some nm)(bz:U[i+4]?=some n0)(bh:P1 U (i+5) ns j)(hint:∀t∈n0::ns,UU t.s)(hj:j<U.length)(aP:(Y' U j).toList≠[44]):aq 54 #[ai Z] w0 λe w'=>e=.returned (.tuple #[])/\Um B [Z,bm] w0 w'/\
   ∃cq v,Md w' Z bm gt Z1 B U vv cq vr vars (lists++[⟨nm.s,(n0::ns).map (λt=>YU t.s),v⟩]) rules (j+1) (Ga vars lists nm (n0::ns) (kind,line)).1 (Ga vars lists nm (n0::ns) (kind,line)).2:=by
 obtain⟨i0,Y8,Ze,Zq,Zn⟩:=iE agC;obtain⟨ip,bH,T7,UJ,UI⟩:=iE agD;obtain⟨k1,k2,k3⟩:=VE I;obtain⟨n1,n2,n3⟩:=VE bf;have cD:=bh.le;have hn:=h.hn;have c0:=h.wk.c0;have H0:=Z8 h;have aH:=h.ctx J;have Xz:=SG aH J;rw[k1,V6]at Xz;have UM:=Z8 Xz;have P4:=Z8 (iG n1 n2);have bn:=Z8 (iG bz (iG bh hint));have cz:=Z8 aP;clear Xz h aH k1 k2 n1 n2 I bf V6 bz bh hint aP;go_enter func54,ntmps54;go_wp2_with fail;refine(Xd UM).mono ?_;rintro e w1 ⟨rfl,ZZ,Y1⟩;have aB:=Z8 (Y9.Pe (S:=[Z]) ZZ (λk e=>by cases e;simp))
 obtain⟨d0,d1,_,_,e1,_,_,_⟩:=Y1.wk;have UA:=Z8 Y1.wk;clear ZZ Y1 c0 UM;go_wp2_with fail;have a7:=Z8 ((aB.out.set (k:=Z) (.inl pG) 1 (Y ((i:Int)+1))).alloc (.cells #[.int .u8 ((ByteArray.mk #[108,105,115,116])[0].toNat:Int),af,.string ⟨#[]⟩,Y 0,Y 0,Y 0,Y 0] 176));have aG:=Z8 (((UA.out.Wv ((i:Int)+1)).YQ (di _ (.cells #[.int .u8 ((ByteArray.mk #[108,105,115,116])[0].toNat:Int),af,.string ⟨#[]⟩,Y 0,Y 0,Y 0,Y 0] 176) none) pG));generalize ((w1.setCell (O Z 1) (Y ((i:Int)+1))).alloc (.cells #[.int .u8 ((ByteArray.mk #[108,105,115,116])[0].toNat:Int),af,.string ⟨#[]⟩,Y 0,Y 0,Y 0,Y 0] 176))=wa at a7 aG⊢;clear d0 d1 e1 UA aB;have Ma:=H0.out.but (j:=i+1) a7.out aG.out J;have bg:=xi Ma n3;rw[P4.out.1,P4.out.2]at bg;refine bg.mono ?_;rintro e wc ⟨rfl,bq,cf⟩;have cr:=a7.out.walk bq;have cX:=cf.lt;have aY:=cr.size;have g0:=di wc (.cells #[.string nm.s,af] 178) none;have e1:=gp wc (.cells #[.string nm.s,af] 178);have cv:Lc Z bm wc.heap.size (wc.heap.size+1) (af) [] w0 nm.s (i+2) _ _ (wc.alloc (.cells #[.string nm.s,af] 178)):=
  ⟨pG,by simp only[World.cell?,e1];rfl,by simp only[World.cell?,e1];rfl,by simp only[World.frozen?,e1];rfl,ed _ _ _ _,cr.alloc _,cf.YQ g0 pG,J,J,J,J,J⟩
 have ax:Hid (D5 U Z bm wc.heap.size (wc.heap.size+1) i j (Ga vars lists nm (n0::ns) (kind,line)) ((n0::ns).map (λt=>YU t.s)) nm.s w0 (ns.length+1) (Y 1) (wc.alloc (.cells #[.string nm.s,af] 178))):=
  ⟨1,i+2,n0::ns,[],_,_,_,rfl,rfl,J,pG,J,J,bn.out.2.2,.inl ⟨rfl,n0,ns,rfl,bn.out.1,bn.out.2.1⟩,rfl,rfl,cv⟩
 have aO:B<=wc.heap.size+1:=by have:=H0.out.hB;omega
 obtain⟨ST,bu⟩:∃s,Ga vars lists nm (n0::ns) (kind,line)=s:=⟨_,rfl⟩;obtain⟨bS,bA⟩:∃s,(n0::ns).map (λt=>YU t.s)=s:=⟨_,rfl⟩
 obtain⟨N,hN⟩:∃n,ns.length+1=n:=⟨_,rfl⟩;obtain⟨bl,Yc⟩:∃b,wc.heap.size=b:=⟨_,rfl⟩;obtain⟨B',aK⟩:∃b,wc.heap.size+1=b:=⟨_,rfl⟩;rw[aK]at ax aO;rw[bu,bA,hN,Yc]at ax;have Sc:=Z8 (iG bu bA);clear cv e1 g0 cr cf bq bg Ma a7 aG bu bA hN aK bn cX aY;go_wp2_with fail;clear Yc
 go_loopg [8] N (λn vk wr=>D5 U Z bm bl B' i j ST bS nm.s w0 n vk wr)
 case atStart=>exact ax
 case round=>
  clear ax;obtain⟨k,p,rem,done,kd,ln,vL,rfl,rfl,cP,a8,cQ,b5,hint,b6,Sg,aU,hL⟩:=hrel;have cd:=Z8 b5;have cj:=Z8 hint;have cu:=Z8 hL;clear hint;rcases b6 with⟨rfl,n,Pb,rfl,aX,aZ⟩|⟨Vo,aZ⟩
  ·have au:=Z8 (iG aX aZ);have aL:=aZ.le;obtain⟨d0,d1,_,_,e1,_,_,_⟩:=hL.wk;have Wq:=Z8 ((hL.Wv (p+1)).Wv (p+2));clear aX aZ hL cu;go_wp2_with fail;rw[show((p:Int)+1+1)=((p+2:Nat):Int) by omega,show((p:Int)+1)=((p+1:Nat):Int) by omega];generalize ((wr.setCell (O Z 1) (Y ((p+1:Nat):Int))).setCell (O Z 1) (Y ((p+2:Nat):Int)))=wq at Wq⊢;clear d0 d1 e1;have Mq:=H0.out.but (j:=p+2) Wq.out.bt Wq.out.wk pT;obtain⟨t1,t2,t3⟩:=VE au.out.1;have hf:=Re (Mq.ctx J) t3 (false) 6;rw[t2]at hf;refine hf.mono ?_;rintro e wf ⟨rfl,aw,aR⟩;have av:=Z8 (Wq.out.walk aw aR.wk);have Mf:=H0.out.but (j:=p+2) av.out.bt av.out.wk pT;have hb:=IZ (Mf.ctx J) t3 1000 J J (by rw[t1];exact cj.out n pG);rw[t1,t2]at hb;have Tn:=Z8 hb;clear hf aw aR Mq Mf hb Wq t1 t2;go_wp2_with fail;refine(Xd Tn).mono ?_;rintro e wk ⟨rfl,aM,aQ⟩;have aa:=av.out.walk aM aQ.wk;obtain⟨X,hX⟩:∃x,YU n.s=x:=⟨_,rfl⟩;rw[hX];have HX:=Z8 hX;have r1:=aa.c1;have a6:=aa.f1;have bY:B'<=wk.heap.size:=aa.hB;have Po:bl<wk.heap.size:=by have:=aa.n2;omega
   have Ux:=Z8 aa;have YD:=Z8 (aa.own.alloc (.cells #[Y X] 3));have YF:Hid (∀jj u,[Y X][jj]?=some u->(wk.alloc (.cells #[Y X] 3)).cell? (((ah wk.heap.size):Addr).add jj)=some u):=
    World.news_of_block (cs:=#[Y X]) (t:=3) (fr:=(0,0)) (gp wk (.cells #[Y X] 3))
   have aC:Hid (∀wA,(wk.alloc (.cells #[Y X] 3)).grownBy wA vL.ownBlock->wA.cell? (O bl 1)=some vL/\wA.frozen? (O bl 1)=false):=by
    exact j7
   have bP:done.length<=2000:=J;clear aM aQ aa hX av Tn;go_wp2_with (at_builtin;go_must (refine wpList_append_lies _ rfl _ _ 33 rfl B' 3 ip (Y 0) 1 8 underlying33 bH T7 UJ UI rfl pF vL done.length (done.map (.int .i64)) rfl YD.out (ah wk.heap.size) 1 1 [Y X] rfl rfl YF.out (wC _) pF pK J pI _ rfl ?_));intro gA XC wA YT Zo XL Xq;obtain⟨q1,q2⟩:=aC.out wA Zo;have hP:=Ux.out.push YT Zo;have hle:=au.out.2.le;have OB:Hid (D5 U Z bm bl B' i j ST bS nm.s w0 Pb.length (Y ((1+1:Nat):Int)) (wA.setCell (O bl 1) (aj gA (done.length+1) XC))):=
    ⟨1+1,p+2+1,Pb,done++[X],_,_,_,rfl,rfl,J,by simp;omega,hle,by have:=cd.out;omega,λt ht=>cj.out t (by simp[ht]),.inr ⟨J,au.out.2⟩,Sg.out,by unfold Hid;rw[<-aU.out,<-HX.out];simp,hP⟩
   clear hP Ux YD YF aC YT Zo XL Xq r1 a6;exact j3
  ·have G0:((k:Int)==1)=false:=pI
   cases rem with
   |nil=>
    obtain rfl:p=j:=aZ;have Mq:=H0.out.but (j:=p) hL.bt hL.wk J;have hp:=SG (Mq.ctx J) J;have Q8:=Z8 hp;have bN:((Y' U p).toList==[44])=false:=uL;clear hp Mq;go_wp2_with fail;refine(Xd Q8).mono ?_;rintro e ws ⟨rfl,XD,bM⟩;have bj:=hL.walk XD bM.wk;obtain⟨d0,d1,_,_,e1,_,_,_⟩:=bM.wk;have bs:=Z8 (bj.Wv (p+1));clear XD bM bj Q8 hL cu;go_wp2;rw[show((p:Int)+1)=((p+1:Nat):Int) by omega];generalize (ws.setCell (O Z 1) (Y ((p+1:Nat):Int)))=wj at bs⊢;clear d0 d1 e1;have Mj:=H0.out.but (j:=p+1) bs.out.bt bs.out.wk J;have U2:=Z8 Mj;have m2:=Mj.m2;have cy:=Mj.f2;have Gp:=Mj.tk.Ya;have v0:=bs.out.c0;have v1:=bs.out.c1;have Po:bl<wj.heap.size:=by have:=bs.out.n2;have:=bs.out.hB;omega
    have QQ:=Z8 (bs.out.own.mono (base':=B) aO);have ND:Hid (vL.oneCell'=true):=Gg QQ.out;have YD:=Z8 (Mj.ol.kept ((di wj (.cells #[.string nm.s,vL] 178) none).trans (ZG _ none)) (by cases vl.ownBlock with
     |none=>exact .inl rfl
     |some g=>exact .inr pG))
    have YF:Hid (∀jj u,[Value.string nm.s,vL][jj]?=some u->(wj.alloc (.cells #[.string nm.s,vL] 178)).drew.cell? (((ah wj.heap.size):Addr).add jj)=some u):=
     World.news_of_block (cs:=#[.string nm.s,vL]) (t:=178) (fr:=(0,0)) (gp wj _)
    have WK:Hid (∀wA,(wj.alloc (.cells #[.string nm.s,vL] 178)).drew.grownBy wA vl.ownBlock->wA.frozen? (O bm 2)=false/\wA.cell? (O bm 2)=some vl):=by
     intro wA z;have g0:wj.grownBy (wj.alloc (.cells #[.string nm.s,vL] 178)).drew none:=(di wj _ none).trans (ZG _ none);have Vb:some bm≠vl.ownBlock:=λe=>by have:=(U2.out.ol.lt _ e.symm).1;have:=U2.out.UL;omega
     exact⟨(z.frozen_far (O bm 2) (dH U2.out.tk.Ya g0.size) Vb).trans ((g0.frozen_far (O bm 2) U2.out.tk.Ya pG).trans U2.out.f2),z.cell (g0.cell U2.out.m2 pG) Vb⟩
    have Kb:B<=wj.heap.size:=Mj.hB;have bF:lists.length<=2000:=by have:=H0.out.ll;omega
    have cw:Hid (done=bS):=by unfold Hid;rw[<-aU.out];simp
    clear Mj;go_region_law ((refine step_append_lies _ p8 _ _ 113 p8 B 178 i0 (.agg #[.string .empty,af]) 2 40 underlying113 Y8 Ze Zq Zn rfl pF vl lists.length (Pf lists) p8 YD.out (ah wj.heap.size) 1 1 [.string nm.s,vL] p8 rfl YF.out (agE ND.out) pF pK J pI _ rfl ?_;intro gA XC wA YT Zo XL Xq;obtain⟨q1,q2⟩:=WK.out wA Zo))
    all_goals
     have HP:=Z8 (U2.out.agB (x:=⟨nm.s,done,vL⟩) (by have:=H0.out.ll;omega) QQ.out YT Zo);have cA:=Z8 bs.out.bt;clear YD YF WK YT Zo XL Xq m2 cy v0 v1 QQ U2 bs ND;go_wp2;refine iq (iu (by first|rfl|kernel_rfl) _ _ _) rfl ?_
     refine⟨rfl,(cA.out.IH H0.out.hB (λk I=>by simp at I;simp[I])).trans HP.out.2,?_⟩
     have F:=HP.out.1;rw[cw.out,<-Sc.out.2]at F;rw[Sc.out.1,<-Sg.out];exact⟨_,_,F⟩
   |cons n Pb=>
    obtain⟨⟨c,T8,V7⟩,aX,bK⟩:=aZ;have aL:=(VE T8).2.2;have Mq:=H0.out.but (j:=p) hL.bt hL.wk J;have hp:=SG (Mq.ctx J) J;rw[(VE T8).1]at hp;have Q8:=Z8 hp;have bN:(c.s.toList==[44])=true:=uX;have au:=Z8 (iG aX bK);clear hp Mq T8 V7 aX bK;go_wp2_with fail;refine(Xd Q8).mono ?_;rintro e ws ⟨rfl,XD,bM⟩;have bj:=hL.walk XD bM.wk;obtain⟨d0,d1,_,_,e1,_,_,_⟩:=bM.wk;have Wq:=Z8 (bj.Wv (p+1));clear XD bM bj Q8 hL cu;go_wp2_with fail;rw[show((p:Int)+1)=((p+1:Nat):Int) by omega];generalize (ws.setCell (O Z 1) (Y ((p+1:Nat):Int)))=wq at Wq⊢;clear d0 d1 e1;have Mq:=H0.out.but (j:=p+1) Wq.out.bt Wq.out.wk pT;obtain⟨t1,t2,t3⟩:=VE au.out.1;have hf:=Re (Mq.ctx J) t3 (decide (20<(k:Int))) 6;rw[t2]at hf;refine hf.mono ?_;rintro e wf ⟨rfl,aw,aR⟩;have av:=Z8 (Wq.out.walk aw aR.wk);have Mf:=H0.out.but (j:=p+1) av.out.bt av.out.wk pT;have hb:=IZ (Mf.ctx J) t3 1000 J J (by rw[t1];exact cj.out n pG);rw[t1,t2]at hb;have Tn:=Z8 hb;clear hf aw aR Mq Mf hb Wq t1 t2;go_wp2_with fail;refine(Xd Tn).mono ?_;rintro e wk ⟨rfl,aM,aQ⟩;have aa:=av.out.walk aM aQ.wk;obtain⟨X,hX⟩:∃x,YU n.s=x:=⟨_,rfl⟩;rw[hX];have HX:=Z8 hX;have r1:=aa.c1;have a6:=aa.f1;have bY:B'<=wk.heap.size:=aa.hB;have Po:bl<wk.heap.size:=by have:=aa.n2;omega
    have Ux:=Z8 aa;have YD:=Z8 (aa.own.alloc (.cells #[Y X] 3));have YF:Hid (∀jj u,[Y X][jj]?=some u->(wk.alloc (.cells #[Y X] 3)).cell? (((ah wk.heap.size):Addr).add jj)=some u):=
     World.news_of_block (cs:=#[Y X]) (t:=3) (fr:=(0,0)) (gp wk (.cells #[Y X] 3))
    have aC:Hid (∀wA,(wk.alloc (.cells #[Y X] 3)).grownBy wA vL.ownBlock->wA.cell? (O bl 1)=some vL/\wA.frozen? (O bl 1)=false):=by
     exact j7
    have bP:done.length<=2000:=J;clear aM aQ aa hX av Tn;go_wp2_with (at_builtin;go_must (refine wpList_append_lies _ rfl _ _ 33 rfl B' 3 ip (Y 0) 1 8 underlying33 bH T7 UJ UI rfl pF vL done.length (done.map (.int .i64)) rfl YD.out (ah wk.heap.size) 1 1 [Y X] rfl rfl YF.out (wC _) pF pK J pI _ rfl ?_));intro gA XC wA YT Zo XL Xq;obtain⟨q1,q2⟩:=aC.out wA Zo;have hP:=Ux.out.push YT Zo;have hle:=au.out.2.le;have OB:Hid (D5 U Z bm bl B' i j ST bS nm.s w0 Pb.length (Y ((k+1:Nat):Int)) (wA.setCell (O bl 1) (aj gA (done.length+1) XC))):=
     ⟨k+1,p+1+1,Pb,done++[X],_,_,_,rfl,rfl,J,by simp;omega,hle,by have:=cd.out;omega,λt ht=>cj.out t (by simp[ht]),.inr ⟨J,au.out.2⟩,Sg.out,by unfold Hid;rw[<-aU.out,<-HX.out];simp,hP⟩
    clear hP Ux YD YF aC YT Zo XL Xq r1 a6;exact j3
end
section
structure PX where
 tag:Nat
 kw:ZY
 a:ZY
 b:ZY
 c:ZY
 ts:List Sl
 ns:List ZY
 ls:List Ss
def Bw (U:List ZY)(i:Nat)(ts:List Sl)(rel num:ZY)(j:Nat):Prop:=
 ∃t r m q,ts=t::r/\Pm U i t m/\t.neg=false/\LI U m r q/\i<=q/\U[q]?=some rel/\rel.s.toList≠[43]/\rel.s.toList≠[45]/\U[q+1]?=some num/\UU num.s/\j=q+2
def D4 (U:List ZY)(i:Nat)(s:PX)(j:Nat):Prop:=
 U[i]?=some s.kw/\
 match s.tag with
 |0=>s.kw.s=⟨#[118,97,114]⟩/\U[i+1]?=some s.a/\U[i+3]?=some s.b/\UU s.b.s/\U[i+5]?=some s.c/\UU s.c.s/\j=i+6
 |1=>s.kw.s=⟨#[108,105,115,116]⟩/\U[i+1]?=some s.a/\∃n0 r q,s.ns=n0::r/\U[i+4]?=some n0/\P1 U (i+5) r q/\(∀t∈n0::r,UU t.s)/\q<U.length/\(Y' U q).toList≠[44]/\j=q+1
 |2=>s.kw.s=⟨#[108,105,110]⟩/\Bw U (i+1) s.ts s.b s.c j
 |3=>s.kw.s=⟨#[119,104,101,110]⟩/\U[i+1]?=some s.a/\Bw U (i+3) s.ts s.b s.c j
 |4=>s.kw.s=⟨#[97,116]⟩/\U[i+1]?=some s.a/\U[i+3]?=some s.b/\U[i+6]?=some s.c/\j=i+7
 |5=>s.kw.s=⟨#[100,105,102,102]⟩/\∃n0 r,s.ns=n0::r/\U[i+1]?=some n0/\P1 U (i+2) r j/\j<=U.length/\(Y' U j).toList≠[44]
 |6=>s.kw.s=⟨#[111,114]⟩/\∃l0 r m,s.ls=l0::r/\Q6 U (i+1) l0 m/\MI U m r j/\j<=U.length/\(Y' U j).toList≠[44]
 |_=>False
structure OA where
 name:aA
 Xb:az
structure J4 where
 sort:Int
 parts:List (Int×Int)
 rel:aA
 n:Int
 v:Int
 w:Int
 x:Int
def YZ.bare (l:YZ):OA:=⟨l.name,l.Xb⟩
def YL.bare (r:YL):J4:=⟨r.sort,r.parts,r.rel,r.n,r.v,r.w,r.x⟩
structure SV where
 vars:List Y7
 lists:List OA
 rules:List J4
def Va (lists:List OA)(s:aA):Int:=XO s (lists.map (·.name)) 0
theorem Bu (l:List YZ)(s:aA):NI l s=Va (l.map YZ.bare) s:=by
 unfold NI Va NJ;simp[YZ.bare,Function.comp_def]
def Sb (M:SV)(s:PX)(st:Zv):Zv:=
 match s.tag with
 |0=>ZE (Yg (YU s.c.s) 1000||decide (YU s.c.s<YU s.b.s)) 5 s.c.line (ZE (Yg (YU s.b.s) 1000) 5 s.b.line
   (ZE (decide (0<=Y6 M.vars s.a.s)||decide (0<=Va M.lists s.a.s)) 4 s.a.line (ZE (decide (8<=(M.vars.length:Int))) 6 s.a.line st)))
 |1=>Iy 1 s.ns (ZE (decide (0<=Y6 M.vars s.a.s)||decide (0<=Va M.lists s.a.s)) 4 s.a.line st)
 |2=>BB M.vars M.rules.length s.kw s.ts s.c st
 |3=>BA M.vars M.rules.length s.kw s.a s.ts s.c st
 |4=>ZE (decide (Y6 M.vars s.c.s<0)) 4 s.c.line (ZE (decide (Y6 M.vars s.b.s<0)) 4 s.b.line (ZE (decide (Va M.lists s.a.s<0)) 4 s.a.line (ZE (decide (16<=(M.rules.length:Int))) 6 s.kw.line st)))
 |5=>Ge M.vars M.rules.length s.kw s.ns st
 |_=>Gc M.vars M.rules.length s.kw s.ls st
def Vk (M:SV)(s:PX):SV:=
 match s.tag with
 |0=>{M with vars:=M.vars++[⟨s.a.s,YU s.b.s,YU s.c.s⟩]}
 |1=>{M with lists:=M.lists++[⟨s.a.s,s.ns.map λt=>YU t.s⟩]}
 |2=>{M with rules:=M.rules++[⟨105,s.ts.map (SF M.vars),s.b.s,YU s.c.s,0,0,0⟩]}
 |3=>{M with rules:=M.rules++[⟨119,s.ts.map (SF M.vars),s.b.s,YU s.c.s,Y6 M.vars s.a.s,0,0⟩]}
 |4=>{M with rules:=M.rules++[⟨97,[],⟨#[]⟩,0,Y6 M.vars s.b.s,Y6 M.vars s.c.s,Va M.lists s.a.s⟩]}
 |5=>{M with rules:=M.rules++[⟨100,s.ns.map (J5 M.vars),⟨#[]⟩,0,0,0,0⟩]}
 |_=>{M with rules:=M.rules++[⟨111,s.ls.map (QP M.vars),⟨#[]⟩,0,0,0,0⟩]}
def Ix (w:A)(Z bm gt Z1 B:Nat)(U:List ZY)(M:SV)(i:Nat)(st:Zv):Prop:=
 ∃vv vl vr lists rules,Md w Z bm gt Z1 B U vv vl vr M.vars lists rules i st.1 st.2/\lists.map YZ.bare=M.lists/\rules.map YL.bare=M.rules
def j1{P:Prop}(h:P:=by
 rintro e w' ⟨rfl,hb,P2,pv,hM⟩;exact⟨rfl,hb,vv,vl,P2,lists,_,by simpa[Sb,Vk]using hM,rfl,by simp[Vk,YL.bare]⟩):P:=h
theorem agG (w0:A)(Z bm gt Z1 B:Nat)(U:List ZY)(M:SV)(i j:Nat)(st:Zv)(s:PX)(h:Ix w0 Z bm gt Z1 B U M i st)(hs:D4 U i s j):aq 54 #[ai Z] w0 λe w'=>e=.returned (.tuple #[])/\Um B [Z,bm] w0 w'/\Ix w' Z bm gt Z1 B U (Vk M s) j (Sb M s st):=by
 obtain⟨vv,vl,vr,lists,rules,h,hl,hr⟩:=h;obtain⟨vars,L,R⟩:=M;simp only at h hl hr;subst hl hr;obtain⟨I,hs⟩:=hs;obtain⟨kd,ln⟩:=st;obtain⟨tag,kw,a,b,c,ts,ns,ls⟩:=s;simp only at I hs;split at hs
 ·obtain⟨e1,e2,e3,e4,e5,e6,rfl⟩:=hs;refine(afK w0 Z bm gt Z1 B U vv vl vr vars lists rules i kd ln kw a b c h I e1 e2 e3 e4 e5 e6).mono ?_;rintro e w' ⟨rfl,hb,cV,hM⟩;exact⟨rfl,hb,cV,vl,vr,lists,rules,by simpa[Sb,Vk,Gs,Bu]using hM,rfl,rfl⟩
 ·obtain⟨e1,e2,n0,r,q,rfl,e3,e4,e5,e6,e7,rfl⟩:=hs;refine(agF w0 Z bm gt Z1 B U vv vl vr vars lists rules i q kd ln kw a n0 r h I e1 e2 e3 e4 e5 e6 e7).mono ?_;rintro e w' ⟨rfl,hb,cq,v,hM⟩;exact⟨rfl,hb,vv,cq,vr,_,rules,by simpa[Sb,Vk,Ga,Bu]using hM,by simp[Vk,YZ.bare],rfl⟩
 ·obtain⟨e1,t,r,m,q,rfl,f1,f2,f3,f4,f5,f6,f7,f8,f9,rfl⟩:=hs;refine(agw w0 Z bm gt Z1 B U vv vl vr vars lists rules i m q kd ln kw t r b c h I e1 J f1 f2 f3 f5 f6 f7 f8 f9).mono ?_;exact j1
 ·obtain⟨e1,e2,t,r,m,q,rfl,f1,f2,f3,f4,f5,f6,f7,f8,f9,rfl⟩:=hs;refine(agx w0 Z bm gt Z1 B U vv vl vr vars lists rules i m q kd ln kw a t r b c h I e1 e2 f4 f1 f2 f3 f5 f6 f7 f8 f9).mono ?_;exact j1
 ·obtain⟨e1,e2,e3,e4,rfl⟩:=hs;refine(agy w0 Z bm gt Z1 B U vv vl vr vars lists rules i kd ln kw a b c h I e1 e2 e3 e4).mono ?_;rintro e w' ⟨rfl,hb,P2,hM⟩;exact⟨rfl,hb,vv,vl,P2,lists,_,by simpa[Sb,Vk,Bz,Bu]using hM,rfl,by simp[Vk,YL.bare]⟩
 ·obtain⟨e1,n0,r,rfl,e2,e3,e4,e5⟩:=hs;refine(agz w0 Z bm gt Z1 B U vv vl vr vars lists rules i j kd ln kw n0 r h I e1 e2 e3 e4 e5).mono ?_;exact j1
 ·obtain⟨e1,l0,r,m,rfl,e2,e3,e4,e5⟩:=hs;refine(agA w0 Z bm gt Z1 B U vv vl vr vars lists rules i j m kd ln kw l0 r h I e1 e2 e3 e4 e5).mono ?_;exact j1
 ·exact hs.elim
end
end Go.Proofs.YthpcbbnabnlanaaGreatDoor
