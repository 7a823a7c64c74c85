import Derived.Test.YthpcbbnabnlanaaGreatDoorM12
import Derived.Test.YthpcbbnabnlanaaGreatDoorM20
import Derived.Test.YthpcbbnabnlanaaGreatDoorM21
import Derived.Test.YthpcbbnabnlanaaGreatDoorM22
import Derived.Deep.MidRow
import Derived.Laws.Tables
import Derived.Deep.LoopGhost
import Derived.Laws.Bits64b
import Derived.Lib.LaidTab
namespace Go.Proofs.YthpcbbnabnlanaaGreatDoor
set_option maxHeartbeats 8000000
set_option maxRecDepth 100000
open Go.Proofs.Tryz
set_option linter.all false
section
open Go.RowKit
theorem aiv (w:A)(old cells:Array aF)(t:TypeId):(w.alloc (.cells old t)).setRow w.heap.size cells=w.alloc (.cells cells t):=by
 have hz:(w.alloc (.cells old t)).heap=w.heap.push (.cells old t):=rfl;have hn:(w.alloc (.cells cells t)).heap=w.heap.push (.cells cells t):=rfl;have hh:((w.alloc (.cells old t)).setRow w.heap.size cells).heap=(w.alloc (.cells cells t)).heap:=by
  unfold World.setRow;rw[hn];simp only[hz];apply Array.ext
  ·simp
  ·intro i F h2;rw[Array.getElem_modify];simp only[Array.size_push]at h2;by_cases e:w.heap.size=i
   ·subst e;simp
   ·rw[iQ e,Array.getElem_push_lt J,Array.getElem_push_lt J]
 generalize hA:(w.alloc (.cells old t)).setRow w.heap.size cells=anY at hh⊢;have e1:anY.tape=w.tape:=uP;have e2:anY.drawn=w.drawn:=uP;have e3:anY.os=w.os:=uP;have e4:anY.output=w.output:=uP
 cases anY;simp only at hh e1 e2 e3 e4;subst hh e1 e2 e3 e4;rfl
theorem MA {ops:Array Oper}{rest:List Oper}{o:Oper}{a:Act}{w:A}{Q:Exit->Act->A->Prop}(Qw:o.guard=none)(ty:TypeId)(x y:Operand)(ho:o.op=.store ty x y)(cells:Array aF)(t:TypeId)(old:Array aF)(hx:a.eval x=ai w.heap.size)(hy:a.eval y=.agg cells)(hi:(prog.info? ty).map (·.size)=some cells.size)(hold:old.size=cells.size)(F:cells.all (·.oneCell')=true)(h:wpList prog ops Q rest (a.put o.dst undef) (w.alloc (.cells cells t))):wpList prog ops Q (o::rest) a (w.alloc (.cells old t)):=by
 refine fh Qw ty x y ho w.heap.size cells hx hy t old (gp w _) hi hold F ?_;rw[aiv];exact h
theorem DK:(prog.info? 99).map (·.size)=some 10:=pH
end
section
open Go.RowKit
variable {w w':A}
theorem aiw {B:Nat}{x:X7}(h:NQ w B x):Ty (w.alloc (.cells x.cells.toArray 99)) w.heap.size 0 B x:=by
 have hB:=gp w (.cells x.cells.toArray 99);refine⟨λk u hu=> ?_,pG,h.but ((Y9.refl [] w).alloc _) (λk I=>vh)⟩
 rw[ik];exact Z0 hB k u ub
theorem aix (x:X7):x.cells.length=10:=rfl
theorem aaB:∀{vars:List Xx} {Z7:az},VQ vars Z7=true->(∀v∈vars,-1000<=v.low/\v.low<=v.high/\v.high<=1000)->∀x∈Z7,-1000<=x/\x<=1000
 |[],[],_,_=>λx hx=>qA
 |v::vs,x::xs,h,hv=>λy hy=>by
  simp[VQ,Ox]at h;rcases gH.1 hy with e|e
  ·subst e;have:=hv v pG;omega
  ·exact aaB h.2 (λu hu=>hv u rB) y e
 |[],_::_,h,_=>by simp[VQ]at h
 |_::_,[],h,_=>by simp[VQ]at h
theorem aaC {n:Nat}{t:Int->Prop}{c:Yz}(h:UF n t c):0<n:=by
 rcases h.sort with e|e|e|e|e
 ·cases hc:c.ZA with
  |nil=>exact absurd hc (h.Ky (.inl e))
  |cons p _=>have q:=(h.ZA p tB).1;have:=q.1;have:=q.2;omega
 ·have q:=(h.Yp e).1;have:=q.1;have:=q.2;omega
 ·have q:=(h.place e).1;have:=q.1;have:=q.2;omega
 ·cases hc:c.vars with
  |nil=>exact absurd hc (h.Pu e)
  |cons p _=>have q:=h.vars p tB;have:=q.1;have:=q.2;omega
 ·cases hc:c.lits with
  |nil=>exact absurd hc (h.Ha e)
  |cons p _=>have q:=(h.lits p tB).1;have:=q.1;have:=q.2;omega
theorem aiy {bc B:Nat}{vV vC vv:aF}{vars:List Xx}{cs:List X7}{Z7:az}(h:PQ w bc B vV vC vars cs)(hV:Lj w vv Z7)(bj:∀v∈vars,-1000<=v.low/\v.low<=v.high/\v.high<=1000)(Yv:vars.length<=8)(WS:∀x∈cs,UF vars.length (O9 vars) x.c)(aH:cs.length<=16):aq 36 #[.pointer (some (O bc 1)),vv] w (au w (.bool (Ut vars (cs.map (·.c)) Z7))):=by
 obtain⟨R,hR⟩:∃R,R=Ut vars (cs.map (·.c)) Z7:=⟨_,rfl⟩;have HR:Hid (R=Ut vars (cs.map (·.c)) Z7):=hR;rw[<-hR];clear hR;obtain⟨va,vc,rfl⟩:=hV.is;have KA:=ZQ.mk (ah8 h hV J);by_cases ha:VQ vars Z7=true
 ·have Pv:=Z8 (Ik ha);have Tn:=Z8 (aaB ha bj);rw[ha]at KA;obtain⟨ca,cc,bL⟩:=Wt h.oc;have c2:=h.c2;rw[bL]at c2;have bG:=Z8 bL;have HS:=Z8 h;have HV:=Z8 hV;have br:=Z8 WS;have HA:=Z8 ha;have ZR:=h.lt;clear h hV bL WS ha bj;go_enter func36,ntmps36;go_wp2_with (go_at_call 47;refine KA.get.mono ?_;rintro e w1 ⟨rfl,ZZ⟩;have bn:=ZZ.cell c2 pG);have W6:Hid (∃i:Nat,i<=cs.length/\(Y 0)=Y i/\((cs.take i).all λx=>Yt Z7 x.c)=true/\aB w w1):=⟨0,iz _,rfl,rfl,ZZ⟩
  clear ZZ bn
  go_loopw [16] (λvi wr=>∃i:Nat,i<=cs.length/\vi=Y i/\((cs.take i).all λx=>Yt Z7 x.c)=true/\aB w wr) (λvi _=>cs.length-(intOf vi).toNat)
  case atStart=>exact W6.out
  case round=>
   clear W6;obtain⟨i,hi,rfl,bg,ZX⟩:=hrel;have aC:=Z8 bg;clear bg;by_cases YK:i<cs.length
   ·obtain⟨x,hx⟩:∃x,cs[i]?=some x:=⟨cs[i],aZ YK⟩;have aJ:=cq hx;have av:=br.out x aJ;have Z:=aaC av;obtain⟨gc,cr,aV,_⟩:=YR.TX HS.out.oc J;have er:ca=some (ah gc):=by
     have q:=aV.is;rw[bG.out]at q;injection q with q1 q2 q3
    subst er;rcases HV.out with⟨e0,_⟩|⟨gv,cv,aw⟩
    ·have hlen:=Pv.out;rw[e0]at hlen;simp at hlen;omega
    have bz:=HS.out.grown ZX;have YG:=bz.at_ x aJ;have hR:=aV.kept ZX pG;have KS:=ZQ.mk (λ(W:A) (q:Ty W wr.heap.size 0 B x) (z:aB w W)=>aar q (aw.kept z pG) av Pv.out.symm Tn.out qK)
    have aS:=Z8 (aiw YG);have cells:∀k u,x.cells[k]?=some u->ak wr gc (i*10+k) u:=λk u hu=>hR.at (sz:=10) aix hx k u hu
    have bK:Hid ((cs.take (i+1)).all (λx=>Yt Z7 x.c)=Yt Z7 x.c):=by
     rw[Hid,dX,hx,fo,aC.out];simp
    have bN:=Z8 hx;obtain⟨ta,tm,tc,et⟩:=Vd YG.t;obtain⟨la,lm,lc,el⟩:=Vd YG.l;obtain⟨pa,pm,pc,ep⟩:=Vd YG.v;obtain⟨ia,im,ic,ei⟩:=Vd YG.i;have bB:Hid (wr.rangeAt gc (i*10) [Y x.c.sort,Y x.c.Yp,.slice ta tm tc,Y x.c.rel,Y x.c.num,.slice la lm lc,Y x.c.place,Y x.c.entry,.slice pa pm pc,.slice ia im ic]):=λj u hu=>by
     refine cells j u ?_;unfold X7.cells;rw[et,el,ep,ei];exact hu
    have eb:x.cells.toArray=#[Y x.c.sort,Y x.c.Yp,.slice ta tm tc,Y x.c.rel,Y x.c.num,.slice la lm lc,Y x.c.place,Y x.c.entry,.slice pa pm pc,.slice ia im ic]:=by
     unfold X7.cells;rw[et,el,ep,ei]
    rw[eb]at aS;have X8:(i:Int)<cs.length:=J;have Xy:(0:Int)<=i:=J;have Zm:=Z8 ZX;clear aV aw bz YG hR cells hx ZX et el ep ei eb av aJ;by_cases hc:Yt Z7 x.c=true
    ·rw[hc]at KS;have HE:Hid ((cs.take (i+1)).all (λx=>Yt Z7 x.c)=true):=by rw[Hid,bK.out];exact hc
     clear hc;go_wp2_with (first|(go_at_call 48;refine(KS.get _ aS.out (Zm.out.trans (di _ _ _))).mono ?_;rintro e w2 ⟨rfl,ZU⟩)|(refine MA rfl 99 _ _ rfl #[Y x.c.sort,Y x.c.Yp,.slice ta tm tc,Y x.c.rel,Y x.c.num,.slice la lm lc,Y x.c.place,Y x.c.entry,.slice pa pm pc,.slice ia im ic] 99 _ rfl rfl DK rfl rfl ?_)|(refine wpList_load_mid rfl 99 _ rfl gc (i*10) rfl [Y x.c.sort,Y x.c.Yp,.slice ta tm tc,Y x.c.rel,Y x.c.num,.slice la lm lc,Y x.c.place,Y x.c.entry,.slice pa pm pc,.slice ia im ic] _ bB.out underlying99 rfl DK ?_))
     go_roundw
     case rel=>exact⟨i+1,J,pQ,HE.out,(Zm.out.trans (di _ _ _)).trans ZU⟩
     case measure=>simp[intOf];omega
    ·have bo:Yt Z7 x.c=false:=qy;rw[bo]at KS;have HE:Hid (R=false):=by
      rw[Hid,HR.out];unfold Ut;have:(cs.map (·.c)).all (Yt Z7)=false:=by
       rw[dM];exact⟨x.c,gU.2 ⟨x,cq bN.out,rfl⟩,hc⟩
      rw[this];simp
     clear hc bo;go_wp2_with (first|(go_at_call 48;refine(KS.get _ aS.out (Zm.out.trans (di _ _ _))).mono ?_;rintro e w2 ⟨rfl,ZU⟩)|(refine MA rfl 99 _ _ rfl #[Y x.c.sort,Y x.c.Yp,.slice ta tm tc,Y x.c.rel,Y x.c.num,.slice la lm lc,Y x.c.place,Y x.c.entry,.slice pa pm pc,.slice ia im ic] 99 _ rfl rfl DK rfl rfl ?_)|(refine wpList_load_mid rfl 99 _ rfl gc (i*10) rfl [Y x.c.sort,Y x.c.Yp,.slice ta tm tc,Y x.c.rel,Y x.c.num,.slice la lm lc,Y x.c.place,Y x.c.entry,.slice pa pm pc,.slice ia im ic] _ bB.out underlying99 rfl DK ?_))
     go_ret;rw[HE.out];exact⟨rfl,(Zm.out.trans (di _ _ _)).trans ZU⟩
   ·obtain rfl:i=cs.length:=J;have HE:Hid (R=true):=by
     rw[Hid,HR.out];unfold Ut;have q:=aC.out;rw[bH (iw _)]at q;rw[HA.out];simp only[List.all_map,gD];exact q
    go_wp2;exact kZ
 ·have bE:VQ vars Z7=false:=td;rw[bE]at KA;have HE:Hid (R=false):=by rw[Hid,HR.out];unfold Ut;rw[bE];rfl
  clear h hV bj WS ha bE;go_enter func36,ntmps36;go_wp2_with (go_at_call 47;refine KA.get.mono ?_;rintro e w1 ⟨rfl,ZZ⟩);go_ret;rw[HE.out];exact⟨rfl,ZZ⟩
theorem aiz {b bc B:Nat}{vV vC vv:aF}{vars:List Xx}{cs:List X7}{Z7:az}(hb:ak w b 1 (.pointer (some (O bc 1))))(h:PQ w bc B vV vC vars cs)(hV:Lj w vv Z7)(bj:∀v∈vars,-1000<=v.low/\v.low<=v.high/\v.high<=1000)(Yv:vars.length<=8)(WS:∀x∈cs,UF vars.length (O9 vars) x.c)(aH:cs.length<=16):aq 27 #[ai b,vv] w (au w (.bool (Ut vars (cs.map (·.c)) Z7))):=by
 have K:=ZQ.mk (aiy h hV bj Yv WS aH);obtain⟨va,vc,rfl⟩:=hV.is;clear h hV bj WS;go_enter func27,ntmps27;go_wp2_with (go_at_call 36;refine K.get.mono ?_;rintro e w1 ⟨rfl,ZZ⟩);go_ret;exact⟨rfl,ZZ⟩
end
section
open Go.RowKit
variable {w:A}
def aiA (l:List WU)(gr cap:Nat)(Zw:TI)(w:A)(m:Nat)(vi:aF)(wr:A):Prop:=
 ∃(i:Nat) (q:TI),i<=l.length/\m=l.length-i/\vi=Y i/\q.st.1=0/\Hid (XT ((l.drop i).map (·.s)) q=Zw)/\SC wr (w.heap.size+1) w.heap.size (w.heap.size+2) i q/\
  YR wr (aj gr l.length cap) gr cap WU.cells l/\(∀x∈l,OD wr (w.heap.size+2) (w.heap.size+1) w.heap.size x)/\aB w wr
theorem Q5 (x:WU):x.cells.length=16:=rfl
theorem Fr.grown {B bc bm:Nat}{a b c:A}(h:aB a b)(hc:a.heap.size<=bc)(hm:a.heap.size<=bm)(hB:a.heap.size<=B)(k:Fr B bc bm b c):aB a c:=
 ⟨k.os.trans h.os,k.tape.trans h.tape,k.output.trans h.output,gZ h.size k.size,λi hi hn=>(k.block i J J J).trans (h.block i hi hn)⟩
theorem SC.alloc {bc bm B k:Nat}{q:TI}(h:SC w bc bm B k q)(o:Obj):SC (w.alloc o) bc bm B k q:=by
 obtain⟨n,g,vV,vC,cs,hC,eg,hv,aQ,Xw,hD,b1,b2,b3,hc,hm,hB⟩:=h;exact⟨n,g,vV,vC,cs,hC.alloc o,eg,hv,aQ.alloc o,Xw.alloc o,hD.alloc o,b1,b2,b3,hc,hm,by simp;omega⟩
theorem SC.size {bc bm B k:Nat}{q:TI}(h:SC w bc bm B k q):B<=w.heap.size:=by
 obtain⟨n,g,vV,vC,cs,hC,eg,hv,aQ,Xw,hD,b1,b2,b3,hc,hm,hB⟩:=h;exact hB
theorem SC.cells {bc bm B k:Nat}{q:TI}(h:SC w bc bm B k q):w.cell? (O bc 3)=some (Y q.st.1)/\w.cell? (O bc 4)=some (Y q.st.2):=by
 obtain⟨n,g,vV,vC,cs,hC,eg,hv,aQ,Xw,hD,b1,b2,b3,hc,hm,hB⟩:=h;exact⟨hC.c3,hC.c4⟩
theorem aaD (w:A):SC ((w.alloc (.map #[] 0)).alloc (.cells #[.map (some w.heap.size),af,af,Y 0,Y 0] 142)) (w.heap.size+1) w.heap.size (w.heap.size+2) 0 q0:=by
 have hB:=fR w (.map #[] 0) (.cells #[.map (some w.heap.size),af,af,Y 0,Y 0] 142);refine⟨0,λ_=>IV,af,af,[],⟨Z0 hB 0 _ rfl,Z0 hB 1 _ rfl,Z0 hB 2 _ rfl,Z0 hB 3 _ rfl,Z0 hB 4 _ rfl,Zz hB 1,Zz hB 2,Zz hB 3,Zz hB 4,pG,?_,by simp;omega,J⟩,rfl,λs=>⟨_,_,_,rfl⟩,ed _ _ _ _,ed _ _ _ _,⟨rfl,(λx hx=>qA),λs=>ed _ _ _ _⟩,iw _,iw _,iw _,J,J,pG⟩
 exact⟨.map [],(World.ownsMap_made w prog 9 B1).alloc _,⟨[],rfl⟩,λs=>rfl⟩
theorem DJ {α:Type}{v:aF}{cell:α->ay}{l:List α}{o o':Obj}(h:NL w w.heap.size w.heap.size w.heap.size v cell l):NL ((w.alloc o).alloc o') (w.heap.size+2) (w.heap.size+1) w.heap.size v cell l:=
 ⟨h.1,λhl=>by
  obtain⟨gr,cap,hr,F,h2,h3⟩:=h.2 hl;exact⟨gr,cap,(hr.kept (di w o none) pG).kept (di _ o' none) pG,J,J,J⟩⟩
theorem aiB {x:WU}{o o':Obj}(h:OD w w.heap.size w.heap.size w.heap.size x):OD ((w.alloc o).alloc o') (w.heap.size+2) (w.heap.size+1) w.heap.size x:=⟨DJ h.n,DJ h.u,DJ h.t,DJ h.l⟩
theorem aiC (l:List WU)(v1:aF)(gr cap:Nat)(hR:YR w v1 gr cap WU.cells l)(hl:l.length<=2500)(aX:∀x∈l,OD w w.heap.size w.heap.size w.heap.size x)(ar:∀x∈l,NM x.s):aq 45 #[v1] w λe w'=>
   (((XT (l.map (·.s)) q0).st.1≠0/\e=.returned (.tuple #[.pointer none,Y (XT (l.map (·.s)) q0).st.1,Y (XT (l.map (·.s)) q0).st.2]))\/
   ((XT (l.map (·.s)) q0).st.1=0/\e=.returned (.tuple #[.pointer (some (O (w.heap.size+1) 1)),Y 0,Y 0])/\SC w' (w.heap.size+1) w.heap.size (w.heap.size+2) l.length (XT (l.map (·.s)) q0)))/\aB w w':=by
 have HR:Hid (YR w v1 gr cap WU.cells l):=hR;have PM:Hid (∀x∈l,OD w w.heap.size w.heap.size w.heap.size x):=aX;have a8:Hid (∀x∈l,NM x.s):=ar;have UB:=hR.lt;obtain⟨Zw,a6⟩:∃R,R=XT (l.map (·.s)) q0:=⟨_,rfl⟩;have HS:Hid (XT ((l.drop 0).map (·.s)) q0=Zw):=sX;rw[<-a6];obtain rfl:=hR.is;clear hR aX ar a6;have bp:(Instr.makeMap 140 none).run prog w=.ok (.map (some w.heap.size)) (w.alloc (.map #[] 0)):=rfl;go_enter func45,ntmps45;go_wp2
 go_loopg [12] l.length (λm vi wr=>aiA l gr cap Zw w m vi wr)
 case atStart=>exact⟨0,q0,iz _,rfl,rfl,rfl,HS,aaD w,(HR.out.kept (di w _ none) pG).kept (di _ _ none) pG,λx hx=>aiB (PM.out x hx),(di _ _ _).trans (di _ _ _)⟩
 case round=>
  obtain⟨i,q,hi,rfl,rfl,bl,YO,hS,hR,aX,ZX⟩:=hrel;by_cases ZR:i<l.length
  ·obtain⟨x,ha⟩:∃a,l[i]?=some a:=⟨l[i],by simp[ZR]⟩;have aJ:=cq ha;have hx:=aX x aJ;obtain⟨na,nm,nc,en⟩:=hx.n.1;obtain⟨ua,um,uc,eu⟩:=hx.u.1;obtain⟨ta,tm,tc,et⟩:=hx.t.1;obtain⟨la,lm,lc,el⟩:=hx.l.1;have c0:ak wr gr (i*16) (Y (Z6 x.s.kw)):=hR.at (sz:=16) Q5 ha 0 _ rfl;have c1:ak wr gr (i*16+1) (.string x.s.kw.s):=hR.at (sz:=16) Q5 ha 1 _ rfl;have c2:ak wr gr (i*16+2) (Y (ZW x.s.kw)):=hR.at (sz:=16) Q5 ha 2 _ rfl;have c3:ak wr gr (i*16+3) (Y x.s.kw.line):=hR.at (sz:=16) Q5 ha 3 _ rfl;have c4:ak wr gr (i*16+4) (Y (Z6 x.s.name)):=hR.at (sz:=16) Q5 ha 4 _ rfl;have c5:ak wr gr (i*16+5) (.string x.s.name.s):=hR.at (sz:=16) Q5 ha 5 _ rfl;have c6:ak wr gr (i*16+6) (Y (ZW x.s.name)):=hR.at (sz:=16) Q5 ha 6 _ rfl;have c7:ak wr gr (i*16+7) (Y x.s.name.line):=hR.at (sz:=16) Q5 ha 7 _ rfl;have c8:wr.cell? (O gr (i*16+8))=some (.slice na nm nc):=by rw[<-en];exact hR.at (sz:=16) Q5 ha 8 _ rfl
   have c9:wr.cell? (O gr (i*16+9))=some (.slice ua um uc):=by rw[<-eu];exact hR.at (sz:=16) Q5 ha 9 _ rfl
   have ba:wr.cell? (O gr (i*16+10))=some (.slice ta tm tc):=by rw[<-et];exact hR.at (sz:=16) Q5 ha 10 _ rfl
   have c11:ak wr gr (i*16+11) (Y (Z6 x.s.rel)):=hR.at (sz:=16) Q5 ha 11 _ rfl;have c12:ak wr gr (i*16+12) (.string x.s.rel.s):=hR.at (sz:=16) Q5 ha 12 _ rfl;have c13:ak wr gr (i*16+13) (Y (ZW x.s.rel)):=hR.at (sz:=16) Q5 ha 13 _ rfl;have c14:ak wr gr (i*16+14) (Y x.s.rel.line):=hR.at (sz:=16) Q5 ha 14 _ rfl;have c15:wr.cell? (O gr (i*16+15))=some (.slice la lm lc):=by rw[<-el];exact hR.at (sz:=16) Q5 ha 15 _ rfl
   have Vn:w.heap.size+2<=wr.heap.size:=hS.size;have K:=ZQ.mk (λo=>afs (hS.alloc o) J x (hx.fr ((Fr.refl _ _ _ wr).alloc Vn o)) (a8.out x aJ))
   rw[en,eu,et,el]at K;have X8:(i:Int)<l.length:=J;have Xy:(0:Int)<=i:=J;have aO:Hid (XT ((l.drop i).map (·.s)) q=if (Xv x.s q).st.1=0 then XT ((l.drop (i+1)).map (·.s)) (Xv x.s q)else Xv x.s q):=by
    have aG:l[i]=x:=(aU.1 ha).2;rw[Hid,aR ZR,aG];rfl
   have bC:Hid (∀(w1:A) (o:Obj),Fr (w.heap.size+2) (w.heap.size+1) w.heap.size (wr.alloc o) w1->YR w1 (aj gr l.length cap) gr cap WU.cells l/\(∀x∈l,OD w1 (w.heap.size+2) (w.heap.size+1) w.heap.size x)/\aB w w1):=λw1 o hf=>by
    have f2:=((Fr.refl (w.heap.size+2) (w.heap.size+1) w.heap.size wr).alloc Vn o).trans hf;refine⟨⟨hR.is,λj u hu=>(cJ (a:=(O gr j)) (f2.block gr J J J)).trans (hR.row j u hu),dH hR.lt f2.size⟩,λx hx=>(aX x hx).fr f2,f2.grown ZX J J J⟩
   generalize Xv x.s q=q' at *;unfold Xs at K;by_cases hz:q'.st.1=0
   ·have hl:Hid (XT ((l.drop (i+1)).map (·.s)) q'=Zw):=by rw[Hid,<-YO.out,aO.out,iR hz]
    go_wp2_with (go_at_call 70;refine(K.get _).mono ?_;rintro e w1 ⟨rfl,aa,bs⟩;obtain⟨k3,k4⟩:=aa.cells;rw[hz]at k3)
    go_roundg (l.length-(i+1))
    case measure=>omega
    case rel=>
     obtain⟨r1,r2,r3⟩:=bC.out w1 _ bs;exact⟨i+1,q',J,rfl,pQ,hz,hl,aa,r1,r2,r3⟩
   ·have hl:Hid (Zw=q'):=by rw[Hid,<-YO.out,aO.out,iQ hz]
    have bP:(q'.st.1 != 0)=true:=tj;go_wp2_with (go_at_call 70;refine(K.get _).mono ?_;rintro e w1 ⟨rfl,aa,bs⟩;obtain⟨k3,k4⟩:=aa.cells);go_quiet (fail);go_wp2
    go_ret3
    rw[hl.out];obtain⟨r1,r2,r3⟩:=bC.out w1 _ bs;exact⟨.inl ⟨hz,rfl⟩,r3.trans (XN _ _ _)⟩
  ·obtain rfl:i=l.length:=J;have SZ:Hid (Zw=q):=sF;clear YO;go_wp2
   go_ret3
   rw[SZ.out];exact⟨.inr ⟨bl,rfl,hS⟩,ZX⟩
end
section
open Go.RowKit
theorem SC.grown {w w':A}{bc bm B k:Nat}{q:TI}(h:SC w bc bm B k q)(z:aB w w'):SC w' bc bm B k q:=by
 obtain⟨n,g,vV,vC,cs,hC,eg,hv,aQ,Xw,hD,b1,b2,b3,hc,hm,hB⟩:=h;exact⟨n,g,vV,vC,cs,hC.kept z pG pG,eg,hv,aQ.kept z (XY _),Xw.kept z (XY _),hD.grown z,b1,b2,b3,hc,hm,gZ hB z.size⟩
theorem aiD (w:A)(a:ax)(c:Nat):aq 45 #[.slice a 0 c] w λe w'=>e=.returned (.tuple #[.pointer (some (O (w.heap.size+1) 1)),Y 0,Y 0])/\SC w' (w.heap.size+1) w.heap.size (w.heap.size+2) 0 q0/\aB w w':=by
 have bp:(Instr.makeMap 140 none).run prog w=.ok (.map (some w.heap.size)) (w.alloc (.map #[] 0)):=rfl;go_enter func45,ntmps45;go_wp2
 go_loopg [12] 0 (λn v wr=>v=Y 0/\wr=(w.alloc (.map #[] 0)).alloc (.cells #[.map (some w.heap.size),af,af,Y 0,Y 0] 142))
 case atStart=>exact⟨rfl,rfl⟩
 case round=>
  obtain⟨rfl,rfl⟩:=hrel;go_wp2
  go_ret3
  exact⟨rfl,aaD w,(di _ _ _).trans (di _ _ _)⟩
theorem aiE {w:A}{B:Nat}{v:aF}{U:List ZY}(h:w.ownsRow B 129 4 v U.length (Wf U))(hp:0<U.length):∃gt cap,v=aj gt U.length cap/\U.length<=cap/\gt<w.heap.size/\∀j u,(Wf U)[j]?=some u->w.cell? (O gt j)=some u:=by
 obtain⟨gr,cap,hr,_⟩:=YR.TX (cell:=U6) (l:=U) h hp;rcases h.2 with⟨_,h0⟩|⟨g,UH,cur,hv,_,_,hc,_⟩
 ·omega
 ·have e:=hr.is;rw[hv]at e;injection e with e1 e2 e3;exact⟨gr,cap,hr.is,J,hr.lt,hr.row⟩
theorem DI {α:Type}{w:A}{B e sz:Nat}{v:aF}{cell:α->ay}{l:List α}(h:w.ownsRow B e sz v l.length (l.flatMap cell)):NL w w.heap.size w.heap.size w.heap.size v cell l:=
 ⟨Vd h,λhl=>by
  obtain⟨gr,cap,hr,_⟩:=YR.TX h (by cases l with|nil=>exact absurd rfl hl|cons _ _=>simp)
  exact⟨gr,cap,hr,hr.lt,by have:=hr.lt;omega,by have:=hr.lt;omega⟩⟩
theorem aiF {w:A}{B:Nat}{x:WU}(h:x.own w B):OD w w.heap.size w.heap.size w.heap.size x:=⟨DI h.n,DI h.u,DI h.t,DI h.l⟩
def A7 (w:A)(H b:Nat)(s:aA):Prop:=
 ∃bc bm B k,H<=bc/\H<=B/\k<=2500/\w.cell? (ah b)=some (.string ⟨(Pa (Y0 s)).toArray⟩)/\w.cell? (O b 1)=some (.pointer (some (O bc 1)))/\b<w.heap.size/\SC w bc bm B k (XT (Xc (Y0 s)).1 q0)
theorem aiG (s:aA)(w:A)(hs:2000<s.size):aq 35 #[.string s] w λe w'=>e=.returned (.tuple #[.pointer none,Y 1,Y 0])/\w'=w:=by
 have bf:(2000:Int)<s.size:=J;go_enter func35,ntmps35;go_wp2
 go_ret3
 exact⟨rfl,rfl⟩
theorem aaE {w w':A}(h:Below w.heap.size w w'):aB w w':=⟨h.os,h.tape,h.output,h.size,λk I _=>h.block k I⟩
theorem aiH (s:aA)(w:A)(hs:s.size<=2000)(hl:(lex s).1≠0):aq 35 #[.string s] w (au w (.tuple #[.pointer none,Y 2,Y (lex s).1])):=by
 have bf:(s.size:Int)<=2000:=J;have K:=ZQ.mk (yi s w hs);have hz:(((lex s).1:Int) != 0)=true:=rM;generalize (lex s).1=L at *;clear hl;go_enter func35,ntmps35;go_wp2_with (go_at_call 43;refine K.get.mono ?_;rintro e w1 ⟨v,rfl,_,hb⟩)
 go_ret3
 exact⟨rfl,aaE hb⟩
end
section
open Go.RowKit
theorem A6 (s:aA)(w:A)(hs:s.size<=2000)(hl:(lex s).1=0):aq 43 #[.string s] w λe w'=>∃gt cap,e=.returned (.tuple #[aj gt (Y0 s).length cap,Y 0])/\(Y0 s).length<=cap/\gt<w'.heap.size/\(∀j u,(Wf (Y0 s))[j]?=some u->w'.cell? (O gt j)=some u)/\aB w w':=by
 refine(yi s w hs).mono ?_;rintro e w' ⟨v,rfl,ho,hb⟩;have h:=ho hl;have hlen:(Y0 s).length=(lex s).2.1.length+1:=by simp[Y0]
 rw[<-hlen]at h;obtain⟨gt,cap,rfl,F,h2,h3⟩:=aiE (U:=Y0 s) h J;rw[hl];exact⟨gt,cap,rfl,F,h2,h3,aaE hb⟩
theorem aiI (s:aA)(w:A)(hs:s.size<=2000)(hl:(lex s).1=0)(hp:(Xc (Y0 s)).2.2≠0):aq 35 #[.string s] w (au w (.tuple #[.pointer none,Y 3,Y (Xc (Y0 s)).2.2])):=by
 have bf:(s.size:Int)<=2000:=J;have K:=ZQ.mk (A6 s w hs hl);have K2:=ZQ.mk (λ{w1:A} {gt cap:Nat} (Yl:∀j u,(Wf (Y0 s))[j]?=some u->ak w1 gt j u) (aP:gt<w1.heap.size)=>B4 (w:=w1) (gt:=gt) (Z1:=cap) (IL s hs) (D3 s) Yl aP)
 have hz:((Xc (Y0 s)).2.2 != 0)=true:=by simpa using hp
 generalize (Xc (Y0 s)).2.2=L at *;clear hp hl;go_enter func35,ntmps35;go_wp2_with (first|(go_at_call 44;refine(K2.get Yl aP).mono ?_;rintro e w2 ⟨v2,rfl,_,ZU⟩)|(go_at_call 43;refine K.get.mono ?_;rintro e w1 ⟨gt,cap,rfl,TD,aP,Yl,ZZ⟩))
 go_ret3
 exact⟨rfl,ZZ.trans ZU⟩
theorem aaF (s:aA)(hs:s.size<=2000)(hp:(Xc (Y0 s)).2.2=0)(w:A)(v:aF)(B:Nat)(acc:List WU)(ha:acc.map (·.s)=(Xc (Y0 s)).1)(ho:w.ownsRow B 137 16 v acc.length (acc.flatMap WU.cells))(hx:∀x∈acc,x.own w B):aq 45 #[v] w λe w'=>
   (((XT (Xc (Y0 s)).1 q0).st.1≠0/\e=.returned (.tuple #[.pointer none,Y (XT (Xc (Y0 s)).1 q0).st.1,Y (XT (Xc (Y0 s)).1 q0).st.2]))\/
   ((XT (Xc (Y0 s)).1 q0).st.1=0/\∃bc bm B' k,(w.heap.size<=bc/\w.heap.size<=B'/\k<=2500)/\e=.returned (.tuple #[.pointer (some (O bc 1)),Y 0,Y 0])/\SC w' bc bm B' k (XT (Xc (Y0 s)).1 q0)))/\aB w w':=by
 obtain⟨ar,bF⟩:=Bn s hs hp;have a7:acc.length<=2500:=by have:=iJ List.length ha;simp at this;omega
 by_cases h0:acc.length=0
 ·obtain rfl:acc=[]:=bA.1 h0;obtain⟨a,c,rfl⟩:=Wt ho;rw[<-ha];refine(aiD w a c).mono ?_;rintro e w' ⟨rfl,hS,z⟩;exact⟨.inr ⟨rfl,_,_,_,_,⟨ix _,Nat.le_add_right _ 2,iz _⟩,rfl,hS⟩,z⟩
 ·obtain⟨gr,cap,hr,_⟩:=YR.TX (cell:=WU.cells) (l:=acc) ho J;have q:=aiC (w:=w) acc v gr cap hr a7 (λx hm=>aiF (hx x hm)) (λx hm=>ar x.s (by rw[<-ha];exact List.mem_map_of_mem hm))
  rw[ha]at q;refine q.mono ?_;rintro e w' ⟨h|⟨F,h2,h3⟩,z⟩
  ·exact⟨.inl h,z⟩
  ·exact⟨.inr ⟨F,_,_,_,_,⟨ix _,Nat.le_add_right _ 2,a7⟩,h2,h3⟩,z⟩
end
section
open Go.RowKit
theorem aiJ (s:aA)(w:A)(hs:s.size<=2000)(hl:(lex s).1=0)(hp:(Xc (Y0 s)).2.2=0)(hq:(XT (Xc (Y0 s)).1 q0).st.1≠0):aq 35 #[.string s] w (au w (.tuple #[.pointer none,Y (XT (Xc (Y0 s)).1 q0).st.1,Y (XT (Xc (Y0 s)).1 q0).st.2])):=by
 have bf:(s.size:Int)<=2000:=J;have K:=ZQ.mk (A6 s w hs hl);have K2:=ZQ.mk (λ{w1:A} {gt cap:Nat} (Yl:∀j u,(Wf (Y0 s))[j]?=some u->ak w1 gt j u) (aP:gt<w1.heap.size)=>B4 (w:=w1) (gt:=gt) (Z1:=cap) (IL s hs) (D3 s) Yl aP)
 have K3:=ZQ.mk (λ{w2:A} {v2:aF} {B:Nat} {acc:List WU} ha ho hx=>aaF s hs hp w2 v2 B acc ha ho hx)
 rw[hp]at K2;have hz:((XT (Xc (Y0 s)).1 q0).st.1 != 0)=true:=by simpa using hq
 generalize XT (Xc (Y0 s)).1 q0=Q at *;have HQ:Hid (Q.st.1≠0):=hq;clear hp hl hq;go_enter func35,ntmps35;go_wp2_with (first|(go_at_call 45;refine(K3.get ha ho hx).mono ?_;rintro e w3 ⟨⟨_,rfl⟩|⟨bq,_⟩,ZJ⟩;rotate_left;(exact absurd bq HQ.out))|(go_at_call 44;refine(K2.get Yl aP).mono ?_;rintro e w2 ⟨v2,rfl,bb,ZU⟩;obtain⟨acc,ha,ho,hx⟩:=bb sr)|(go_at_call 43;refine K.get.mono ?_;rintro e w1 ⟨gt,cap,rfl,TD,aP,Yl,ZZ⟩))
 go_ret3
 exact⟨rfl,(ZZ.trans ZU).trans ZJ⟩
theorem aiK (s:aA)(w:A)(ht:Sj w)(hs:s.size<=2000)(hl:(lex s).1=0)(hp:(Xc (Y0 s)).2.2=0)(hq:(XT (Xc (Y0 s)).1 q0).st.1=0):aq 35 #[.string s] w λe w'=>∃b,e=.returned (.tuple #[ai b,Y 0,Y 0])/\w.heap.size<=b/\A7 w' w.heap.size b s/\aB w w':=by
 have bf:(s.size:Int)<=2000:=J;have K:=ZQ.mk (A6 s w hs hl);have K2:=ZQ.mk (λ{w1:A} {gt cap:Nat} (Yl:∀j u,(Wf (Y0 s))[j]?=some u->ak w1 gt j u) (aP:gt<w1.heap.size)=>B4 (w:=w1) (gt:=gt) (Z1:=cap) (IL s hs) (D3 s) Yl aP)
 have K3:=ZQ.mk (λ{w2:A} {v2:aF} {B:Nat} {acc:List WU} ha ho hx=>aaF s hs hp w2 v2 B acc ha ho hx)
 rw[hp]at K2;have HQ:Hid ((XT (Xc (Y0 s)).1 q0).st.1=0):=hq;have K4:=ZQ.mk (λ{W:A} {gt cap:Nat} (TD:(Y0 s).length<=cap) (Yl:∀j u,(Wf (Y0 s))[j]?=some u->ak W gt j u) (aP:gt<W.heap.size) (hW:Sj W)=>agP (w:=W) (gt:=gt) (cap:=cap) (U:=Y0 s) (IL s hs) (λi _=>BN s hs i) TD Yl aP hW)
 have HT:Hid (Sj w):=ht;clear hp hl hq ht;go_enter func35,ntmps35;go_wp2_with (first|(go_at_call 46;refine(K4.get TD (λj u hu=>(ZU.trans ZJ).cell (Yl j u hu) pG) (dH aP (ZU.trans ZJ).size) (OH HT.out (λk I=>((ZZ.trans ZU).trans ZJ).block k I pG))).mono ?_;rintro e w4 ⟨rfl,Xr⟩)|(go_at_call 45;refine(K3.get ha ho hx).mono ?_;rintro e w3 ⟨⟨bq,_⟩|⟨_,bc,bm,B',k,bt,rfl,hS⟩,ZJ⟩;(exact absurd HQ.out bq))|(go_at_call 44;refine(K2.get Yl aP).mono ?_;rintro e w2 ⟨v2,rfl,bb,ZU⟩;obtain⟨acc,ha,ho,hx⟩:=bb sr)|(go_at_call 43;refine K.get.mono ?_;rintro e w1 ⟨gt,cap,rfl,TD,aP,Yl,ZZ⟩))
 go_ret3
 have hB:=gp w4 (.cells #[.string ⟨(Pa (Y0 s)).toArray⟩,.pointer (some (O bc 1))] 71);have bg:=((ZZ.trans ZU).trans ZJ).trans Xr;exact⟨w4.heap.size,rfl,bg.size,⟨bc,bm,B',k,gZ (ZZ.trans ZU).size bt.1,gZ (ZZ.trans ZU).size bt.2.1,bt.2.2,Z0 hB 0 _ rfl,Z0 hB 1 _ rfl,pG,(hS.grown Xr).alloc _⟩,bg.trans (di _ _ _)⟩
end
section
open Go.RowKit
variable {w w':A}
structure Ov (w:A)(b:Nat)(V:List Xx)(C:List Yz)(t:List UInt8):Prop where
 pl:w.cell? (ah b)=some (.string ⟨t.toArray⟩)
 lt:b<w.heap.size
 set:∃(bc B:Nat) (vV vC:aF) (cs:List X7),w.cell? (O b 1)=some (.pointer (some (O bc 1)))/\PQ w bc B vV vC V cs/\cs.map (·.c)=C
theorem Ov.grown {b:Nat}{V:List Xx}{C:List Yz}{t:List UInt8}(h:Ov w b V C t)(z:aB w w'):Ov w' b V C t:=by
 obtain⟨bc,B,vV,vC,cs,F,h2,h3⟩:=h.set;exact⟨z.cell h.pl pG,dH h.lt z.size,bc,B,vV,vC,cs,z.cell F pG,h2.grown z,h3⟩
structure A5 (V:List Xx)(C:List Yz):Prop where
 vars:∀v∈V,-1000<=v.low/\v.low<=v.high/\v.high<=1000
 WB:V.length<=8
 cons:∀c∈C,UF V.length (O9 V) c
 O8:C.length<=16
end
def W5 (s:aA):List Xx:=(XT (T6 s) q0).vars
def TT (s:aA):List Yz:=(XT (T6 s) q0).cons
structure U0 (s:aA):Prop where
 sz:s.size<=2000
 lx:(lex s).1=0
 fm:(Xc (Y0 s)).2.2=0
 sn:(XT (T6 s) q0).st.1=0
variable {s:aA}
theorem U0.q (h:U0 s):Qz (XT (T6 s) q0):=ahP s h.sz h.fm h.sn
theorem U0.md (h:U0 s):A5 (W5 s) (TT s):=⟨h.q.vars,h.q.WB,h.q.cons,h.q.O8⟩
theorem U0.inv (h:U0 s):UG (Uv s) (XT (T6 s) q0):=(Bb s h.sz h.lx h.fm).2.2.2 h.sn
theorem U0.vars (h:U0 s):(Uv s).vars=(W5 s).map qP:=h.inv.vars.symm
theorem U0.inv2 (h:U0 s):Ll (Uv s) (XT (T6 s) q0):=ahX s h.fm h.sn
theorem aiL (M:SV)(r:PX):(Vk M r).lists.length<=M.lists.length+1:=by
 unfold Vk;split<;>simp
theorem aiM (ss:List PX):∀(M:SV) (st:Zv),(TV ss M st).1.lists.length<=M.lists.length+ss.length:=by
 induction ss with
 |nil=>intro M st;simp[TV]
 |cons r ss ih=>
  intro M st;simp only[TV,eM];split
  ·have F:=ih (Vk M r) (Sb M r st);have h2:=aiL M r;omega
  ·simp only;omega
theorem U0.F4 (h:U0 s):(Uv s).lists.length<=2500:=by
 have F:=aiM ((T6 s).map gS) ⟨[],[],[]⟩ (0,0);have h2:=(Bn s h.sz h.fm).2;unfold Uv;rw[fy]at F;unfold T6 at *;simp only[fB]at F;omega
theorem A4:∀(V:List Xx) (Z7:az),PO (V.map qP) Z7=VQ V Z7
 |[],[]=>rfl
 |[],_::_=>rfl
 |_::_,[]=>rfl
 |v::V,x::xs=>by simp only[gG,PO,VQ];rw[A4 V xs];rfl
theorem aiN {V:List Xx}{Z7:az}{p:Int}(ha:VQ V Z7=true)(ht:O9 V p)(hp:YX V.length p):ZB Z7 p=0\/ZB Z7 p=1:=by
 obtain⟨v,hv,F,h2⟩:=ht;have hl:=Ik ha;have hx:=FY (Z7:=Z7) (p:=p) ⟨hp.1,by rw[hl];exact hp.2⟩;have q:=(Ba hl).1 ha _ v _ hv hx;simp[Ox]at q;omega
theorem U0.fit (h:U0 s){lists:List YZ}{rules:List YL}(hl:lists.map YZ.bare=(Uv s).lists)(hr:rules.map YL.bare=(Uv s).rules):aav (Uv s).vars lists rules:=by
 have q:=h.q;have i2:=h.inv2;have ev:=h.vars;have aJ:∀r∈rules,W4 (lists.map YZ.bare) r.bare∈(XT (T6 s) q0).cons:=λr bk=>by
  rw[i2.cons,<-hr,hl];exact gU.2 ⟨r.bare,gU.2 ⟨r,bk,rfl⟩,rfl⟩
 refine⟨by rw[ev,fy];exact q.WB,λv hv=> ?_,?_,λl bh=> ?_,?_,λr bk=>⟨?_,λZ7 ha=> ?_,?_⟩⟩
 ·rw[ev]at hv;obtain⟨a,ha,rfl⟩:=gU.1 hv;have:=q.vars a ha;exact⟨this.1,this.2.2⟩
 ·have:=h.F4;rw[<-hl,fy]at this;omega
 ·exact i2.lb l.bare (by rw[<-hl];exact gU.2 ⟨l,bh,rfl⟩)
 ·have:=q.O8;rw[i2.cons,<-hr]at this;simpa using this
 ·have:=i2.FZ r.bare (by rw[<-hr];exact gU.2 ⟨r,bk,rfl⟩);rw[hl];exact this
 ·rw[ev,A4]at ha;have hc:=q.cons _ (aJ r bk);have hlen:Z7.length=(W5 s).length:=Ik ha;change UF (W5 s).length (O9 (W5 s)) _ at hc;rw[<-hlen]at hc;refine⟨λe=> ?_,λe=> ?_,λe=> ?_,λe=> ?_,λe=> ?_⟩
  ·have ht:(W4 (lists.map YZ.bare) r.bare).ZA=r.parts.map Qy:=by
    rcases e with e|e
    ·unfold W4 YL.bare;simp[e]
    ·unfold W4 YL.bare;simp[e]
   refine⟨λp hp=> ?_,?_⟩
   ·exact hc.ZA (Qy p) sV
   ·have:=hc.MC;rw[ht,fy]at this;exact this
  ·have e1:(W4 (lists.map YZ.bare) r.bare).sort=1:=qm;have e2:(W4 (lists.map YZ.bare) r.bare).Yp=r.v:=qm;rw[<-e2];exact(hc.Yp e1).1
  ·have e1:(W4 (lists.map YZ.bare) r.bare).sort=2:=qm;have e2:(W4 (lists.map YZ.bare) r.bare).place=r.v:=qm;have e3:(W4 (lists.map YZ.bare) r.bare).entry=r.w:=qm;rw[<-e2,<-e3];exact hc.place e1
  ·have ht:(W4 (lists.map YZ.bare) r.bare).vars=r.parts.map (·.2):=qm;refine⟨λp hp=> ?_,?_⟩
   ·exact hc.vars p.2 sV
   ·have:=hc.WB;rw[ht,fy]at this;exact this
  ·have ht:(W4 (lists.map YZ.bare) r.bare).lits=r.parts.map λp=>(p.2,1-p.1):=qm
   refine⟨λp hp=> ?_,?_⟩
   ·obtain⟨F,h2,h3⟩:=hc.lits (p.2,1-p.1) sV;simp only at F h2 h3;exact⟨F,J,aiN ha h2 (by rw[hlen]at F;exact F)⟩
   ·have:=hc.Ip;rw[ht,fy]at this;exact this
 ·have:=aaC (q.cons _ (aJ r bk));rw[ev,fy];exact this
theorem U0.FR (h:U0 s){lists:List YZ}{rules:List YL}(hl:lists.map YZ.bare=(Uv s).lists)(hr:rules.map YL.bare=(Uv s).rules)(Z7:az):JP (Uv s).vars lists rules Z7=Ut (W5 s) (TT s) Z7:=by
 unfold JP Ut TT;rw[h.vars,A4,h.inv2.cons,<-hr,hl,gQ,List.all_map];rfl
theorem aiO (hs:s.size<=2000){i:Nat}{t:ZY}(ht:(lex s).2.1[i]?=some t):ZT (Y0 s) i=t/\aay t:=by
 have hm:=cq ht;have ZR:=(aU.1 ht).1;have e:ZT (Y0 s) i=t:=by
  unfold ZT Y0;rw[aN,aT ZR,ht];rfl
 have I:=vP s t hm;have ho:=DZ I;have hT:=BN s hs i;rw[e]at hT;refine⟨e,λq=> ?_,hT.lit,ho.int,λq=> ?_,λk l VS=> ?_⟩
 ·have:=ho.eof.2 q;rcases I with h|h|h|h<;>omega
 ·refine⟨?_,(Cy s t hm q).2.1⟩;rcases I with h|h|h|h
  ·exact h.2
  all_goals omega
 ·simp only[gH,gK,eQ,iM]at VS;rcases VS with⟨rfl,rfl⟩|⟨rfl,rfl⟩|⟨rfl,rfl⟩|⟨rfl,rfl⟩|⟨rfl,rfl⟩|⟨rfl,rfl⟩|⟨rfl,rfl⟩|⟨rfl,rfl⟩
  ·exact ho.Uw 11 pF pF
  ·exact ho.Uw 13 pF pF
  ·exact ho.Uw 12 pF pF
  ·exact ho.Uw 19 pF pF
  ·exact ho.Uw 18 pF pF
  ·exact ho.Uw 17 pF pF
  ·exact ho.Uw 22 pF pF
  ·exact ho.Uw 21 pF pF
theorem aiP (hs:s.size<=2000):Z6 (ZT (Y0 s) (lex s).2.1.length)=1:=by
 have:=(IL s hs).2;unfold Y0;rw[show ZT ((lex s).2.1++[Qd (lex s).2.2]) (lex s).2.1.length=Qd (lex s).2.2 by unfold ZT;simp[aN]];exact IM _
theorem aiQ:Uk (Y0 s) ((lex s).2.1.length+1) 0 11 []=Pa (Y0 s):=by
 unfold Pa;rw[show(Y0 s).length=(lex s).2.1.length+1 by simp[Y0]]
section
open Go.RowKit
variable {w:A}
def nC{P:Prop}(h:P:=by
 unfold IntKind.wrap;simp[IntKind.bits,IntKind.signed];omega):P:=h
theorem wrap_u64 {n:Int}(h0:0<=n)(F:n<18446744073709551616):IntKind.u64.wrap n=n:=by
 exact nC
theorem aiR {k:Int}(h:k<64)(h0:0<=k):IntKind.u64.wrap ((2:Int) ^ k.toNat)=(2:Int) ^ k.toNat:=by
 have F:k.toNat<64:=J;have h2:(2:Nat) ^ k.toNat<18446744073709551616:=cI (n:=64) pF F;have h3:((2:Int) ^ k.toNat)=((2 ^ k.toNat:Nat):Int):=pG;rw[h3];have h4:(0:Int)<=((2 ^ k.toNat:Nat):Int):=dw _;have h5:((2 ^ k.toNat:Nat):Int)<18446744073709551616:=Int.ofNat_lt.2 h2;exact wrap_u64 h4 h5
theorem aaG (v:Int)(F:-1000<=v)(h2:v<=1000)(w:A):aq 199 #[Y v] w (au w (.tuple #[Y ((v+1000)/64),.int .u64 ((2:Int) ^ ((v+1000)%64).toNat)])):=by
 have h0:(0:Int)<=v+1000:=J;have hm:(0:Int)<=(v+1000)%64:=J;have Sm:(v+1000)%64<64:=J;go_enter func199,ntmps199;go_wp2;go_quiet (fail);go_wp2
 go_ret2
 rw[aiR Sm hm];exact⟨rfl,XN _ _ _⟩
theorem aiS (x k:Nat):(x &&& 2 ^ k≠0)↔x.testBit k=true:=by
 constructor
 ·intro h
  cases e:x.testBit k with
  |true=>rfl
  |false=>
   refine absurd (cG λj=> ?_) h
   rw[fJ,dh,eW];by_cases c:k=j
   ·subst c;simp[e]
   ·simp[c]
 ·intro h e;have q:(x &&& 2 ^ k).testBit k=true:=by rw[fJ,dh];simp[h]
  rw[e]at q;simp at q
def YW (D i:Nat):Nat:=(D >>> (64*i))%2 ^ 64
def Zh (D:Nat):Array aF:=((List.range 32).map λi=>Value.int .u64 (YW D i:Nat)).toArray
theorem Sq (D:Nat):(Zh D).size=32:=by simp[Zh]
theorem Nw (D:Nat){i:Nat}(h:i<32):(Zh D)[i]?=some (.int .u64 (YW D i:Nat)):=by
 simp[Zh,h]
theorem G' (D i:Nat):YW D i<2 ^ 64:=Nat.mod_lt _ pF
theorem Q4 (D i j:Nat):(YW D i).testBit j=(decide (j<64)&&D.testBit (64*i+j)):=by
 unfold YW;rw[Nat.testBit_mod_two_pow,Nat.testBit_shiftRight]
theorem aiT (D:Nat)(v:Int)(F:-1000<=v)(h2:v<=1000)(w:A):aq 169 #[.agg (Zh D),Y v] w (au w (.bool (D.testBit (v+1000).toNat))):=by
 have K:=ZQ.mk (aaG v F h2);obtain⟨P,hP⟩:∃P:Nat,v+1000=P:=⟨(v+1000).toNat,J⟩;have U5:P<=2000:=J;have e1:(v+1000)/64=((P/64:Nat):Int):=J;have e2:((v+1000)%64).toNat=P%64:=J;have e3:(v+1000).toNat=P:=J;rw[e1,e2]at K;rw[e3];have hq:P/64<32:=J;have aW:((P/64:Nat):Int)<32:=J;have bl:(0:Int)<=((P/64:Nat):Int):=J;have ha:=Nw D hq;have hs:=Sq D;have hw:=G' D (P/64);have z:∀w1,(w.alloc (.cells (Zh D) 161)).grownBy w1 none->ak w1 w.heap.size (P/64) (.int .u64 (YW D (P/64):Nat)):=λw1 z=>z.cell (Z0 (gp w _) (P/64) _ ha) pG
 have HG:=Z8 z;have HE:Hid ((bits BinOp.and IntKind.u64 ((YW D (P/64):Nat):Int) ((2:Int) ^ (P%64)) != 0)=D.testBit P):=by
  have h3:((2:Int) ^ (P%64))=((2 ^ (P%64):Nat):Int):=pG;have h4:(2:Nat) ^ (P%64)<18446744073709551616:=cI (n:=64) pF J;rw[Hid,h3,eZ _ _ (by simpa using hw) h4];have h5:(YW D (P/64) &&& 2 ^ (P%64)≠0)↔(YW D (P/64)).testBit (P%64)=true:=by
   exact aiS _ _
  have h6:(YW D (P/64)).testBit (P%64)=D.testBit P:=by
   rw[Q4,gj J,gD,show 64*(P/64)+P%64=P by omega]
  rw[<-h6,fj,<-h5];simp
 clear hP e1 e2 e3 z;generalize P/64=Q at *;go_enter func169,ntmps169;go_wp2_with (go_at_call 199;refine(K.get _).mono ?_;rintro e w1 ⟨rfl,ZZ⟩;have k1:=HG.out w1 ZZ);go_ret;rw[HE.out];exact⟨rfl,(di _ _ _).trans ZZ⟩
end
section
open Go.RowKit
variable {w:A}
theorem DG:(prog.info? 161).map (·.size)=some 32:=pH
theorem Lh (D:Nat):(Zh D).all (·.oneCell')=true:=by
 unfold Zh;simp[Value.oneCell']
theorem aiU (D P i:Nat)(hi:i<32):YW (D ||| 2 ^ P) i=if i=P/64 then YW D i ||| 2 ^ (P%64)else YW D i:=by
 apply cG;intro j;rw[Q4,gh,dh];split
 ·rename_i e;rw[gh,Q4,dh];by_cases c:j<64
  ·simp only[c,decide_true,gD];congr 1;rw[fe];omega
  ·have:¬P%64=j:=J;simp[c,this]
 ·rename_i e;rw[Q4];by_cases c:j<64
  ·have:¬P=64*i+j:=J;simp[c,this]
  ·simp[c]
theorem DF {anY:Array aF}{D:Nat}(hs:anY.size=32)(h:∀i,i<32->anY[i]?=some (.int .u64 (YW D i:Nat))):anY=Zh D:=by
 apply dp;intro i;by_cases hi:i<32
 ·rw[h i hi,Nw D hi]
 ·rw[bD J,bD (by rw[Sq];omega)]
theorem aiV (D P:Nat)(hP:P<2048):(Zh D).setIfInBounds (P/64) (.int .u64 ((YW D (P/64) ||| 2 ^ (P%64):Nat):Int))=Zh (D ||| 2 ^ P):=by
 refine DF (by rw[aY,Sq]) (λi hi=> ?_)
 rw[aI,aiU D P i hi];by_cases c:P/64=i
 ·subst c;rw[iR rfl,iR (by rw[Sq];exact hi),iR rfl]
 ·rw[iQ c,iQ (λq=>c q.symm),Nw D hi]
theorem FQ (w:A)(g:Nat)(cs:Array aF):w.grownBy (w.setRow g cs) (some g):=
 ⟨rfl,rfl,rfl,by simp[World.setRow],λk _ ZP=>by
  have:g≠k:=λe=>ZP (by rw[e])
  simp[World.setRow,bM,this]⟩
theorem Ti (D:Nat):(prog.info? 161).map (·.size)=some (Zh D).size:=by rw[Sq];exact DG
theorem aaH (D:Nat)(v:Int)(F:-1000<=v)(h2:v<=1000)(w:A):aq 170 #[.agg (Zh D),Y v] w (au w (.agg (Zh (D ||| 2 ^ (v+1000).toNat)))):=by
 have K:=ZQ.mk (aaG v F h2);obtain⟨P,hP⟩:∃P:Nat,v+1000=P:=⟨(v+1000).toNat,J⟩;have U5:P<=2000:=J;have e1:(v+1000)/64=((P/64:Nat):Int):=J;have e2:((v+1000)%64).toNat=P%64:=J;have e3:(v+1000).toNat=P:=J;rw[e1,e2]at K;rw[e3];have hq:P/64<32:=J;have aW:((P/64:Nat):Int)<32:=J;have bl:(0:Int)<=((P/64:Nat):Int):=J;have ha:=Nw D hq;have hs:=Sq D;have hw:=G' D (P/64);have bU:=Z8 (aiV D P J);have HE:Hid (bits BinOp.or IntKind.u64 ((YW D (P/64):Nat):Int) ((2:Int) ^ (P%64))=((YW D (P/64) ||| 2 ^ (P%64):Nat):Int)):=by
  have h3:((2:Int) ^ (P%64))=((2 ^ (P%64):Nat):Int):=pG;have h4:(2:Nat) ^ (P%64)<18446744073709551616:=cI (n:=64) pF J;rw[Hid,h3,bits_or_u64_nat _ _ (by simpa using hw) h4]
 have HG:Hid (∀(o:Obj) w1,((w.alloc (.cells (Zh D) 161)).alloc o).grownBy w1 none->w1.heap[w.heap.size]?=some (.cells (Zh D) 161 (0,0))):=λo w1 z=>XX (fS w _ _) pI z pG
 have U3:Hid (∀(cs:Array aF) w1,((w.alloc (.cells (Zh D) 161)).alloc (.cells cs 161)).grownBy w1 none->w1.heap[w.heap.size+1]?=some (.cells cs 161 (0,0))):=λcs w1 z=>XX (fR w _ _) pG z pG
 generalize hD:D ||| 2 ^ P=E at bU⊢;clear hP e1 e2 e3 hD;go_enter func170,ntmps170;go_wp2_with (first|(refine fh rfl 161 _ _ rfl (w.heap.size+1) (Zh E) rfl rfl 161 _ b4 (Ti E) sN (Lh E) ?_)|(refine fT rfl 161 _ rfl w.heap.size rfl 161 (Zh E) (0,0) _ b3 underlying161 rfl (Ti E) ?_)|(go_at_call 199;refine(K.get _).mono ?_;rintro e w1 ⟨rfl,ZZ⟩;have b1:=HG.out _ w1 ZZ;have b2:=U3.out _ w1 ZZ;have k1:=Z0 b1 (P/64) _ ha;have f1:=Zz b1 (P/64);have b3:(w1.setCell (O w.heap.size (P/64)) (.int .u64 (bits BinOp.or IntKind.u64 ((YW D (P/64):Nat):Int) ((2:Int) ^ (P%64))))).heap[w.heap.size]?=some (.cells (Zh E) 161 (0,0)):=YE b1 (P/64) _ (by rw[HE.out];exact bU.out);have b4:=(dr w1 (O w.heap.size (P/64)) (.int .u64 (bits BinOp.or IntKind.u64 ((YW D (P/64):Nat):Int) ((2:Int) ^ (P%64)))) (w.heap.size+1) tH).trans b2))
 refine iq (fg rfl _ _ (w.heap.size+1) 161 (Zh E) (0,0) _ rfl (iA _ _ _ _ _ _ b4) underlying161 rfl (Ti E)) rfl ?_;exact⟨rfl,Up (Up (((di _ _ _).trans (di _ _ _)).trans ZZ) (iw _) (ZC _ _ _ _)) J (FQ _ _ _)⟩
theorem Ig:Zh 0=#[.int .u64 0,.int .u64 0,.int .u64 0,.int .u64 0,.int .u64 0,.int .u64 0,.int .u64 0,.int .u64 0,.int .u64 0,.int .u64 0,.int .u64 0,.int .u64 0,.int .u64 0,.int .u64 0,.int .u64 0,.int .u64 0,.int .u64 0,.int .u64 0,.int .u64 0,.int .u64 0,.int .u64 0,.int .u64 0,.int .u64 0,.int .u64 0,.int .u64 0,.int .u64 0,.int .u64 0,.int .u64 0,.int .u64 0,.int .u64 0,.int .u64 0,.int .u64 0]:=by
 refine(DF rfl (λi hi=> ?_)).symm
 have hw:YW 0 i=0:=by unfold YW;simp
 rw[hw];have:i=0\/i=1\/i=2\/i=3\/i=4\/i=5\/i=6\/i=7\/i=8\/i=9\/i=10\/i=11\/i=12\/i=13\/i=14\/i=15\/i=16\/i=17\/i=18\/i=19\/i=20\/i=21\/i=22\/i=23\/i=24\/i=25\/i=26\/i=27\/i=28\/i=29\/i=30\/i=31:=J;rcases this with rfl|rfl|rfl|rfl|rfl|rfl|rfl|rfl|rfl|rfl|rfl|rfl|rfl|rfl|rfl|rfl|rfl|rfl|rfl|rfl|rfl|rfl|rfl|rfl|rfl|rfl|rfl|rfl|rfl|rfl|rfl|rfl<;>rfl
def oY{P:Prop}(h:P:=by
 exact⟨rfl,Up ((di _ _ _).trans ZZ) (iw _) (FQ _ _ _)⟩):P:=h
def kP{P:Prop}(h:P:=by
 exact oY):P:=h
theorem aaI (v:Int)(F:-1000<=v)(h2:v<=1000)(w:A):aq 138 #[Y v] w (au w (.agg (Zh (2 ^ (v+1000).toNat)))):=by
 have K:=ZQ.mk (λW=>aaH 0 v F h2 W)
 rw[Nat.zero_or,Ig]at K;generalize (2:Nat) ^ (v+1000).toNat=E at *;have U3:Hid (∀(cs:Array aF) w1,(w.alloc (.cells cs 161)).grownBy w1 none->w1.heap[w.heap.size]?=some (.cells cs 161 (0,0))):=λcs w1 z=>XX (gp w _) pG z pG
 go_enter func138,ntmps138;go_wp2_with (first|(refine fh rfl 161 _ _ rfl w.heap.size (Zh E) rfl rfl 161 _ b2 (Ti E) sN (Lh E) ?_)|(go_at_call 170;refine(K.get _).mono ?_;rintro e w1 ⟨rfl,ZZ⟩;have b2:=U3.out _ w1 ZZ))
 refine iq (fg rfl _ _ w.heap.size 161 (Zh E) (0,0) _ rfl (iA _ _ _ _ _ _ b2) underlying161 rfl (Ti E)) rfl ?_;exact kP
end
section
open Go.RowKit
variable {w:A}
def TG (D E:Nat):Nat:=D ^^^ (D &&& E)
theorem JN (D E j:Nat):(TG D E).testBit j=(D.testBit j&& !E.testBit j):=by
 unfold TG;rw[Nat.testBit_xor,fJ]
 cases D.testBit j<;>cases E.testBit j<;>rfl
theorem aiW (D E i:Nat):YW (D &&& E) i=YW D i &&& YW E i:=by
 apply cG;intro j;rw[fJ,Q4,Q4,Q4,fJ];by_cases c:j<64<;>simp[c]
theorem aiX (a b:Nat)(ha:a<18446744073709551616)(hb:b<18446744073709551616):bits .andNot .u64 (a:Int) (b:Int)=((a ^^^ (a &&& b):Nat):Int):=by
 have F:(BitVec.ofInt 64 (a:Int)).toNat=a:=by
  rw[bV,dt];exact eU J
 have h2:(BitVec.ofInt 64 (b:Int)).toNat=b:=by
  rw[bV,dt];exact eU J
 have hx:a ^^^ (a &&& b)<2 ^ 64:=Nat.xor_lt_two_pow J (Nat.and_lt_two_pow _ J);show IntKind.u64.wrap ((BitVec.ofInt 64 (a:Int) &&& ~~~ BitVec.ofInt 64 (b:Int)).toNat:Int)=_;have e:(BitVec.ofInt 64 (a:Int) &&& ~~~ BitVec.ofInt 64 (b:Int)).toNat=a ^^^ (a &&& b):=by
  apply cG;intro j;rw[bW,BitVec.getLsbD_and,BitVec.getLsbD_not,<-bW,<-bW,F,h2,Nat.testBit_xor,fJ];by_cases c:j<64
  ·simp only[c,decide_true,gD]
   cases a.testBit j<;>cases b.testBit j<;>rfl
  ·have q:a.testBit j=false:=bJ (dH (by omega:a<2 ^ 64) (cH pF J));simp[q]
 rw[e,eD];omega
theorem aiY (D E i:Nat):YW (TG D E) i=YW D i ^^^ (YW D i &&& YW E i):=by
 apply cG;intro j;rw[Nat.testBit_xor,fJ,Q4,Q4,Q4,JN];by_cases c:j<64
 ·simp only[c,decide_true,gD]
  cases D.testBit (64*i+j)<;>cases E.testBit (64*i+j)<;>rfl
 ·simp[c]
theorem FP (w:A)(a b c:Obj):(((w.alloc a).alloc b).alloc c).heap[w.heap.size]?=some a:=(gq _ c pI).trans (fS w a b)
theorem DB (w:A)(a b c:Obj):(((w.alloc a).alloc b).alloc c).heap[w.heap.size+2]?=some c:=by
 have h:=gp ((w.alloc a).alloc b) c;have e:((w.alloc a).alloc b).heap.size=w.heap.size+2:=pG;rw[e]at h;exact h
def Mz (w:A)(D E R:Nat)(anV:Array aF)(vi:aF)(wr:A):Prop:=
 ∃(i:Nat) (anY:Array aF),i<=32/\vi=Y i/\anY.size=32/\(∀j,j<32->anY[j]?=some (.int .u64 ((if j<i then YW R j else YW D j:Nat):Int)))/\wr.heap[w.heap.size]?=some (.cells anY 161 (0,0))/\
  wr.heap[w.heap.size+1]?=some (.cells (Zh E) 161 (0,0))/\wr.heap[w.heap.size+2]?=some (.cells anV 161 (0,0))/\aB w wr
def ly{P:Prop}(h:P:=by
 rw[aI];by_cases c:i=j
 ·subst c;rw[iR rfl,iR J,iR J]
 ·rw[iQ c,hw j hj];by_cases c2:j<i
  ·rw[iR c2,iR J]
  ·rw[iQ c2,iQ J]):P:=h
theorem Mz.step {D E R i:Nat}{anV anY:Array aF}{wr:A}(hi:i<32)(hA:anY.size=32)(hw:∀j,j<32->anY[j]?=some (.int .u64 ((if j<i then YW R j else YW D j:Nat):Int)))(b0:wr.heap[w.heap.size]?=some (.cells anY 161 (0,0)))(b1:wr.heap[w.heap.size+1]?=some (.cells (Zh E) 161 (0,0)))(b2:wr.heap[w.heap.size+2]?=some (.cells anV 161 (0,0)))(z:aB w wr):Mz w D E R anV (Y ((i:Int)+1)) (wr.setCell (O w.heap.size i) (.int .u64 (YW R i:Nat))):=by
 refine⟨i+1,anY.setIfInBounds i (.int .u64 (YW R i:Nat)),J,pG,by rw[aY,hA],λj hj=> ?_,YE b0 i _ rfl,(dr _ _ _ _ tH).trans b1,(dr _ _ _ _ (by show w.heap.size+2≠w.heap.size;omega)).trans b2,Up z (iw _) (ZC _ _ _ _)⟩
 exact ly
theorem Mz.grown {D E R:Nat}{anV:Array aF}{vi:aF}{wr wr':A}(h:Mz w D E R anV vi wr)(z:aB wr wr'):Mz w D E R anV vi wr':=by
 obtain⟨i,anY,F,h2,h3,h4,h5,h6,h7,h8⟩:=h;exact⟨i,anY,F,h2,h3,h4,(z.block _ (aM.1 h5).1 pG).trans h5,(z.block _ (aM.1 h6).1 pG).trans h6,(z.block _ (aM.1 h7).1 pG).trans h7,h8.trans z⟩
def ju{P:Prop}(h:P:=by
 go_wp2;rw[<-Ig]
 go_loopw [6] (λvi wr=>Mz w D E R (Zh 0) vi wr) (λvi _=>32-(intOf vi).toNat)
 case atStart=>exact W6.out _
 case round=>
  clear W6;obtain⟨i,anY,hi,rfl,hA,hw,b0,b1,b2,ZX⟩:=hrel;by_cases ZR:i<32
  ·have X8:(i:Int)<32:=J;have Xy:(0:Int)<=i:=J;have k0:wr.cell? (O w.heap.size i)=some (.int .u64 (YW D i:Nat)):=by
    have q:=hw i ZR;rw[iQ J]at q;exact Z0 b0 i _ q
   have f0:=Zz b0 i;have k1:=Z0 b1 i _ (Nw E ZR);have HN:=Z8 (Mz.step ZR hA hw b0 b1 b2 ZX);rw[<-HW.out i]at HN;clear b0 b1 b2 hw ZX;go_wp2;go_region
   all_goals go_wp2
   all_goals go_roundw
   all_goals first|(case rel=>exact HN.out.grown (ZG _ _))|(case measure=>simp[intOf];omega)
  ·obtain rfl:i=32:=J;have eA:anY=Zh R:=DF hA (λj hj=>by have q:=hw j hj;rw[iR hj]at q;exact q)
   subst eA;clear hw hA;go_wp2_with (first|(refine fh rfl 161 _ _ rfl (w.heap.size+2) (Zh R) rfl rfl 161 _ b2 (Ti R) (by rw[Sq,Sq]) (Lh R) ?_)|(refine fT rfl 161 _ rfl w.heap.size rfl 161 (Zh R) (0,0) _ b0 underlying161 rfl (Ti R) ?_))
   refine iq (fg rfl _ _ (w.heap.size+2) 161 (Zh R) (0,0) _ rfl (iA _ _ _ _ _ _ b2) underlying161 rfl (Ti R)) rfl ?_;exact⟨rfl,Up ZX J (FQ _ _ _)⟩):P:=h
theorem aiZ (D E:Nat)(w:A):aq 171 #[.agg (Zh D),.agg (Zh E)] w (au w (.agg (Zh (D &&& E)))):=by
 obtain⟨R,hR⟩:∃R,R=D &&& E:=⟨_,rfl⟩;have HW:Hid (∀i,bits BinOp.and IntKind.u64 ((YW D i:Nat):Int) ((YW E i:Nat):Int)=((YW R i:Nat):Int)):=λi=>by
  rw[hR,aiW,eZ _ _ rS tR]
 rw[<-hR];clear hR;have bu:=Sq D;have bO:=Sq E;have W6:Hid (∀cs:Array aF,Mz w D E R cs (Y 0) (((w.alloc (.cells (Zh D) 161)).alloc (.cells (Zh E) 161)).alloc (.cells cs 161))):=λcs=>
  ⟨0,Zh D,J,rfl,bu,λj hj=>by rw[Nw D hj];simp,FP w _ _ _,IU w _ _ _,DB w _ _ _,((di _ _ _).trans (di _ _ _)).trans (di _ _ _)⟩
 go_enter func171,ntmps171;exact ju
theorem ai0 (D E:Nat)(w:A):aq 198 #[.agg (Zh D),.agg (Zh E)] w (au w (.agg (Zh (TG D E)))):=by
 obtain⟨R,hR⟩:∃R,R=TG D E:=⟨_,rfl⟩;have HW:Hid (∀i,bits BinOp.andNot IntKind.u64 ((YW D i:Nat):Int) ((YW E i:Nat):Int)=((YW R i:Nat):Int)):=λi=>by
  rw[hR,aiY,aiX _ _ rS tR]
 rw[<-hR];clear hR;have bu:=Sq D;have bO:=Sq E;have W6:Hid (∀cs:Array aF,Mz w D E R cs (Y 0) (((w.alloc (.cells (Zh D) 161)).alloc (.cells (Zh E) 161)).alloc (.cells cs 161))):=λcs=>
  ⟨0,Zh D,J,rfl,bu,λj hj=>by rw[Nw D hj];simp,FP w _ _ _,IU w _ _ _,DB w _ _ _,((di _ _ _).trans (di _ _ _)).trans (di _ _ _)⟩
 go_enter func198,ntmps198;exact ju
end
section
open Go.RowKit
variable {w:A}
def U' (lo hi:Int):Nat:=if lo<=hi then(2 ^ (hi-lo+1).toNat-1) <<< (lo+1000).toNat else 0
theorem Ou (lo hi:Int)(F:-1000<=lo)(j:Nat):(U' lo hi).testBit j=(decide (lo+1000<=j)&&decide ((j:Int)<=hi+1000)):=by
 unfold U';split
 ·rename_i h;rw[Nat.testBit_shiftLeft,aL,fj];simp only[eC,ee,ge_iff_le];omega
 ·rename_i h;rw[eW,fj];simp only[eC,ee,dv,false_iff];omega
theorem ai1 {lo hi:Int}(F:-1000<=lo)(h2:hi<=1000)(i:Nat){anW T:Nat}(hF:(anW:Int)=max (lo-(64*i-1000)) 0)(hT:(T:Int)=min (hi-(64*i-1000)) 63)(bQ:anW<=T):YW (U' lo hi) i=(2 ^ (T-anW+1)-1) <<< anW:=by
 apply cG;intro j;rw[Q4,Ou lo hi F,Nat.testBit_shiftLeft,aL,fj];simp only[eC,ee,ge_iff_le];omega
theorem ai2 {lo hi:Int}(F:-1000<=lo)(i:Nat)(h:min (hi-(64*i-1000)) 63<max (lo-(64*i-1000)) 0):YW (U' lo hi) i=0:=by
 apply cG;intro j;rw[Q4,Ou lo hi F,eW,fj];simp only[eC,ee,dv,iff_false];omega
theorem ai3 {n k:Nat}(h:k<=n):(2 ^ n-1)/2 ^ k=2 ^ (n-k)-1:=by
 rw[<-Nat.shiftRight_eq_div_pow];apply cG;intro j;rw[Nat.testBit_shiftRight,aL,aL,fe];omega
theorem ai4 {anW T K:Nat}(h:anW<=T)(hT:T<=63)(hK:K=63-T+anW):IntKind.u64.wrap ((18446744073709551615:Int)/2 ^ K*2 ^ anW)=(((2 ^ (T-anW+1)-1) <<< anW:Nat):Int):=by
 have e1:((18446744073709551615:Int)/2 ^ K*2 ^ anW)=((((2 ^ 64-1)/2 ^ K*2 ^ anW:Nat)):Int):=by
  rw[Int.natCast_mul,Int.natCast_ediv,Int.natCast_pow,Int.natCast_pow];rfl
 rw[e1,ai3 J,Nat.shiftLeft_eq,show 64-K=T-anW+1 by omega];have h2:(2 ^ (T-anW+1)-1)*2 ^ anW<18446744073709551616:=by
  have h3:(2 ^ (T-anW+1)-1)*2 ^ anW<2 ^ (T-anW+1)*2 ^ anW:=Nat.mul_lt_mul_of_pos_right (Nat.sub_lt (fK _) pF) (fK _);rw[<-Nat.pow_add]at h3;exact dH h3 (cH (n:=2) (j:=64) pF J)
 exact wrap_u64 (dw _) (Int.ofNat_lt.2 h2)
def Lg (w:A)(R:Nat)(anV:Array aF)(vi:aF)(wr:A):Prop:=
 ∃(i:Nat) (anY:Array aF),i<=32/\vi=Y i/\anY.size=32/\(∀j,j<32->anY[j]?=some (.int .u64 ((if j<i then YW R j else 0:Nat):Int)))/\wr.heap[w.heap.size+1]?=some (.cells anY 161 (0,0))/\wr.heap[w.heap.size]?=some (.cells anV 161 (0,0))/\aB w wr
theorem Lg.step {R i:Nat}{anV anY:Array aF}{wr:A}(hi:i<32)(hA:anY.size=32)(hw:∀j,j<32->anY[j]?=some (.int .u64 ((if j<i then YW R j else 0:Nat):Int)))(b0:wr.heap[w.heap.size+1]?=some (.cells anY 161 (0,0)))(b2:wr.heap[w.heap.size]?=some (.cells anV 161 (0,0)))(z:aB w wr):Lg w R anV (Y ((i:Int)+1)) (wr.setCell (O (w.heap.size+1) i) (.int .u64 (YW R i:Nat))):=by
 refine⟨i+1,anY.setIfInBounds i (.int .u64 (YW R i:Nat)),J,pG,by rw[aY,hA],λj hj=> ?_,YE b0 i _ rfl,(dr _ _ _ _ tI).trans b2,Up z J (ZC _ _ _ _)⟩
 exact ly
theorem Lg.skip {R i:Nat}{anV anY:Array aF}{wr:A}(hi:i<32)(hA:anY.size=32)(hw:∀j,j<32->anY[j]?=some (.int .u64 ((if j<i then YW R j else 0:Nat):Int)))(b0:wr.heap[w.heap.size+1]?=some (.cells anY 161 (0,0)))(b2:wr.heap[w.heap.size]?=some (.cells anV 161 (0,0)))(z:aB w wr)(h0:YW R i=0):Lg w R anV (Y ((i:Int)+1)) wr:=by
 refine⟨i+1,anY,J,pG,hA,λj hj=> ?_,b0,b2,z⟩
 rw[hw j hj];by_cases c:j<i
 ·rw[iR c,iR J]
 ·by_cases c2:j=i
  ·subst c2;rw[iQ c,iR J,h0]
  ·rw[iQ c,iQ J]
def kG{P:Prop}(h:P:=by
 go_wp2;go_roundw
 case rel=>exact HN.out
 case measure=>simp[intOf];omega):P:=h
theorem DA (lo hi:Int)(F:-1000000000000<=lo)(h2:lo<=1000000000000)(h3:-1000000000000<=hi)(h4:hi<=1000000000000)(w:A):aq 83 #[Y lo,Y hi] w (au w (.agg (Zh (U' (max lo (-1000)) (min hi 1000))))):=by
 have g1:-1000<=max lo (-1000):=J;have g2:max lo (-1000)<=1000000000000:=J;have g3:min hi 1000<=1000:=J;have g4:-1000000000000<=min hi 1000:=J;obtain⟨R,hR⟩:∃R,R=U' (max lo (-1000)) (min hi 1000):=⟨_,rfl⟩;have HR:Hid (R=U' (max lo (-1000)) (min hi 1000)):=hR;rw[<-hR];clear hR;have W6:Hid (∀cs:Array aF,cs=Zh 0->Lg w R cs (Y 0) ((w.alloc (.cells cs 161)).alloc (.cells cs 161))):=λcs WS=>
  ⟨0,cs,J,rfl,by rw[WS];exact Sq 0,λj hj=>by rw[WS,Nw 0 hj];simp[YW],fR w _ _,fS w _ _,(di _ _ _).trans (di _ _ _)⟩
 go_enter func83,ntmps83;go_wp2;rw[<-Ig];generalize max lo (-1000)=LO at *;generalize min hi 1000=HI at *
 go_loopw [14] (λvi wr=>Lg w R (Zh 0) vi wr) (λvi _=>32-(intOf vi).toNat)
 case atStart=>exact W6.out _ rfl
 case round=>
  clear W6;obtain⟨i,anY,P8,rfl,hA,hw,b0,b2,ZX⟩:=hrel;by_cases ZR:i<32
  ·have X8:(i:Int)<32:=J;have Xy:(0:Int)<=i:=J;by_cases hc:max (LO-((i:Int)*64-1000)) 0<=min (HI-((i:Int)*64-1000)) 63
   ·have HW:Hid (YW R i=(2 ^ ((min (HI-((i:Int)*64-1000)) 63).toNat-(max (LO-((i:Int)*64-1000)) 0).toNat+1)-1) <<< (max (LO-((i:Int)*64-1000)) 0).toNat):=by
     rw[Hid,HR.out];exact ai1 g1 g3 i J J J
    have HN:=Z8 (Lg.step ZR hA hw b0 b2 ZX);have k0:=Z0 b0 i _ (hw i ZR);have f0:=Zz b0 i;have bT:0<=max (LO-((i:Int)*64-1000)) 0:=J;have bI:min (HI-((i:Int)*64-1000)) 63<=63:=J;clear b0 b2 hw ZX;have HB:Hid (IntKind.u64.wrap (18446744073709551615/2 ^ (63-min (HI-((i:Int)*64-1000)) 63+max (LO-((i:Int)*64-1000)) 0).toNat*2 ^ (max (LO-((i:Int)*64-1000)) 0).toNat)=((YW R i:Nat):Int)):=by
     rw[Hid,HW.out];exact ai4 J J J
    go_wp2;go_roundw
    case rel=>rw[HB.out];exact HN.out
    case measure=>simp[intOf];omega
   ·have bo:decide (max (LO-((i:Int)*64-1000)) 0<=min (HI-((i:Int)*64-1000)) 63)=false:=qy;have HN:=Z8 (Lg.skip ZR hA hw b0 b2 ZX (by rw[HR.out];exact ai2 g1 i J));clear b0 b2 hw ZX hc;exact kG
  ·obtain rfl:i=32:=J;have eA:anY=Zh R:=DF hA (λj hj=>by have q:=hw j hj;rw[iR hj]at q;exact q)
   subst eA;clear hw hA;go_wp2_with (first|(refine fh rfl 161 _ _ rfl w.heap.size (Zh R) rfl rfl 161 _ b2 (Ti R) (by rw[Sq,Sq]) (Lh R) ?_)|(refine fT rfl 161 _ rfl (w.heap.size+1) rfl 161 (Zh R) (0,0) _ b0 underlying161 rfl (Ti R) ?_))
   refine iq (fg rfl _ _ w.heap.size 161 (Zh R) (0,0) _ rfl (iA _ _ _ _ _ _ b2) underlying161 rfl (Ti R)) rfl ?_;exact⟨rfl,Up ZX (iw _) (FQ _ _ _)⟩
end
section
open Go.RowKit
variable {w:A}
def Ie:Nat->Nat->Nat
 |0,_=>0
 |f+1,x=>if x%2=1 then 0 else Ie f (x/2)+1
def Vr (x:Nat):Nat:=Ie 64 x
theorem aaJ:∀(f x:Nat),0<x->x<2 ^ f->∃m,x=2 ^ Ie f x*m/\m%2=1/\Ie f x<f
 |0,x,h0,F=>by simp at F;omega
 |f+1,x,h0,F=>by
  unfold Ie;by_cases c:x%2=1
  ·rw[iR c];exact⟨x,pG,c,J⟩
  ·rw[iQ c];obtain⟨m,e,hm,hf⟩:=aaJ f (x/2) J (by rw[ig]at F;omega);refine⟨m,?_,hm,J⟩;have h2:x=2*(x/2):=J;generalize I:Ie f (x/2)=k at e hf;rw[ig];generalize 2 ^ k=q at e;have e2:q*2*m=2*(q*m):=by rw[Nat.mul_comm q 2,gJ]
   omega
theorem G8 {x:Nat}(h0:0<x)(F:x<2 ^ 64):∃m,x=2 ^ Vr x*m/\m%2=1/\Vr x<64:=aaJ 64 x h0 F
theorem aaK {x k m:Nat}(e:x=2 ^ k*m)(hm:m%2=1)(i:Nat):(x-1).testBit i=if i<k then true else if i=k then false else x.testBit i:=by
 have hp:=fK k;have e1:x-1=2 ^ k*(m-1)+(2 ^ k-1):=by
  have:m=(m-1)+1:=J;rw[e]
  conv=>lhs;rw[this,Nat.mul_add]
  omega
 have e0:x=2 ^ k*m+0:=J;rw[e1,aK _ J];by_cases c:i<k
 ·rw[iR c,iR c,aL];simp[c]
 ·rw[iQ c,iQ c];by_cases c2:i=k
  ·subst c2;rw[iR rfl];simp[Nat.testBit_zero];omega
  ·rw[iQ c2,e0,aK _ hp,iQ c];obtain⟨j,hj⟩:∃j,i-k=j+1:=⟨i-k-1,J⟩;rw[hj,Nat.testBit_succ,Nat.testBit_succ];congr 1;omega
theorem Ic {x k m:Nat}(e:x=2 ^ k*m)(hm:m%2=1)(i:Nat)(hi:i<=k):x.testBit i=decide (i=k):=by
 have e0:x=2 ^ k*m+0:=J;rw[e0,aK _ (fK k)];by_cases c:i<k
 ·rw[iR c];simp;omega
 ·have:i=k:=J;subst this;simp[Nat.testBit_zero,hm]
theorem ai5 {x:Nat}(h0:0<x)(F:x<2 ^ 64):x &&& (2 ^ 64-x)=2 ^ Vr x:=by
 obtain⟨m,e,hm,I⟩:=G8 h0 F;apply cG;intro i;have e2:2 ^ 64-x=2 ^ 64-((x-1)+1):=J;rw[fJ,e2,Nat.testBit_two_pow_sub_succ J,dh,aaK e hm i];by_cases c:i<Vr x
 ·have:=Ic e hm i J;rw[this];have c3:¬i=Vr x:=J;have c4:¬Vr x=i:=J;simp[c3,c4]
 ·rw[iQ c];by_cases c2:i=Vr x
  ·have:=Ic e hm i J;rw[iR c2,this];simp[c2,I]
  ·rw[iQ c2];have c4:¬Vr x=i:=J;simp[c4];intro h _;exact h
theorem A3 {x:Nat}(h0:0<x)(F:x<2 ^ 64)(i:Nat):(x &&& (x-1)).testBit i=(x.testBit i&&decide (i≠Vr x)):=by
 obtain⟨m,e,hm,I⟩:=G8 h0 F;rw[fJ,aaK e hm i];by_cases c:i<Vr x
 ·have:=Ic e hm i J;have c3:¬i=Vr x:=J;rw[iR c,this];simp[c3]
 ·rw[iQ c];by_cases c2:i=Vr x
  ·rw[iR c2];simp[c2]
  ·rw[iQ c2];simp[c2]
def Dz:az:=[0,1,56,2,57,49,28,3,61,58,42,50,38,29,17,4,62,47,59,36,45,43,51,22,53,39,33,30,24,18,12,5,63,55,48,27,60,41,37,16,46,35,44,21,52,32,23,11,54,26,40,15,34,20,31,10,25,14,19,9,13,8,7,6]
theorem aaL:∀k:Nat,k<64->Dz.getD ((2 ^ k*285870213051353865%18446744073709551616)/288230376151711744) 0=(k:Int)/\(2 ^ k*285870213051353865%18446744073709551616)/288230376151711744<64:=pF
abbrev VP (w:A):Prop:=Lib.TabIs prog w "math/bits.deBruijn64tab" .u8 Dz
theorem A0:prog.globalNamed "math/bits.deBruijn64tab"=some 0:=pH
theorem ai6 {w:A}(h:VP w){k:Nat}(I:k<64):w.cell? (O 0 ((2 ^ k*285870213051353865%18446744073709551616)/288230376151711744))=some (.int .u8 k):=by
 obtain⟨F,h2⟩:=aaL k I;have hl:Dz.length=64:=pF;have q:=h.cell A0 ((2 ^ k*285870213051353865%18446744073709551616)/288230376151711744) (by rw[hl];exact h2);rw[F]at q;exact q
theorem ai7 {w:A}(ht:VP w){x:Nat}(h0:0<x)(F:x<18446744073709551616):∃j:Nat,j<64/\IntKind.u64.wrap (bits .and .u64 (x:Int) (IntKind.u64.wrap (-(x:Int)))*285870213051353865)/288230376151711744=(j:Int)/\w.cell? (O 0 j)=some (.int .u8 (Vr x:Nat)):=by
 have I:Vr x<64:=tq;refine⟨_,(aaL _ I).2,?_,ai6 ht I⟩;have e1:IntKind.u64.wrap (-(x:Int))=((18446744073709551616-x:Nat):Int):=by
  rw[eD];omega
 rw[e1,eZ _ _ F J,eD];have e2:=ai5 h0 F;have e3:(2:Nat) ^ 64=18446744073709551616:=rfl;rw[e3]at e2;rw[e2];omega
def lZ{P:Prop}(h:P:=by
 simp only[IntKind.wrap,IntKind.bits,IntKind.signed];simp;omega):P:=h
theorem ai8 {w:A}(ht:VP w)(x:Nat)(h0:0<x)(F:x<18446744073709551616):aq 179 #[.int .u64 (x:Int)] w λe w'=>e=.returned (Y (Vr x:Nat))/\w'=w:=by
 have I:Vr x<64:=tq;obtain⟨j,hj,hA,k0⟩:=ai7 ht h0 F;have hz:(((x:Nat):Int)==0)=false:=pI;generalize Vr x=T at *;have hw:IntKind.i64.wrap ((T:Nat):Int)=((T:Nat):Int):=by
  clear hA k0;exact lZ
 go_enter func179,ntmps179;exact lq
end
end Go.Proofs.YthpcbbnabnlanaaGreatDoor
