import Derived.Test.YthpcbbnabnlanaaGreatDoorM11
import Derived.Deep.AppendLies
namespace Go.Proofs.YthpcbbnabnlanaaGreatDoor
set_option maxHeartbeats 8000000
set_option maxRecDepth 100000
open Go.Proofs.Tryz
set_option linter.all false
section
open Go.RowKit
variable {w w':A}{bc bm n:Nat}{g:aA->Th}{f:aA->aF}{vV vC:aF}{st:Zv}
def jU{P:Prop}(h:P:=by
 intro v' w9 YA YN _;have YA:w9.ownsRow w.heap.size 203 2 v' (i+1) ((l.take i).flatMap (Lz g)++Lz g a):=by rw[hO.out];exact YA
 have R:=Es (step:=RO g) HC.out UB (((ZX.trans (di _ _ _)).trans ZZ).trans ZU) ha YO XJ (((hR.kept (di _ _ none) pG).kept ZZ pI).kept ZU pI) ZO YA YN;exact oO):P:=h
theorem afg (h:Zc w bc bm n (λs=>Zj (g s)) vV vC st)(l:List Ud)(v1:aF)(gr cap:Nat)(hR:YR w v1 gr cap OM l)(bq:gr≠bc)(hl:l.length<=3000)(ar:∀a∈l,YI a.first/\YI a.name)(hv:Sk g):aq 161 #[ai bc,v1] w λe w'=>∃v,e=.returned v/\w'.ownsRow w.heap.size 203 2 v l.length (l.flatMap (Lz g))/\w.grownBy w' (some bc)/\Zc w' bc bm n (λs=>Zj (g s)) vV vC (X9 (RO g) 0 l st):=by
 obtain⟨i0,Y8,Ze,Zq,Zn⟩:=iE afa;have HC:Hid (Zc w bc bm n (λs=>Zj (g s)) vV vC st):=h
 have ZR:=h.lt;have UB:=hR.lt;have HR:Hid (YR w v1 gr cap OM l):=hR;have a8:Hid (∀a∈l,YI a.first/\YI a.name):=ar
 have HV:Hid (Sk g):=hv;obtain⟨Zw,a6⟩:∃R,R=X9 (RO g) 0 l st:=⟨_,rfl⟩;have HS:Hid (X9 (RO g) 0 (l.drop 0) st=Zw):=sX;rw[<-a6];obtain rfl:=hR.is;clear h hR a6 ar hv;go_enter func161,ntmps161;go_wp2
 go_loopg [5,11] l.length (λm v vi wr=>GC l (RO g) Zw (aj gr l.length cap) gr cap OM 203 2 (Lz g) w bc bm n (λs=>Zj (g s)) vV vC m v vi wr)
 case atStart=>exact⟨0,st,iz _,rfl,rfl,HS,HC.out,HR.out,ed _ _ _ _,WW _ _⟩
 case round=>
  obtain⟨i,S,hi,rfl,rfl,YO,hC,hR,ZO,ZX⟩:=hrel;have aW:=hC.lt;have bs:=hC.Ya;by_cases YK:i<l.length
  ·obtain⟨a,ha⟩:∃a,l[i]?=some a:=⟨l[i],by simp[YK]⟩;have bl:=a8.out a (cq ha);have c0:ak wr gr (i*8) (Y (Z6 a.first)):=hR.at (sz:=8) (λ_=>rfl) ha 0 _ rfl
   have c1:ak wr gr (i*8+1) (.string a.first.s):=hR.at (sz:=8) (λ_=>rfl) ha 1 _ rfl
   have c2:ak wr gr (i*8+2) (Y (ZW a.first)):=hR.at (sz:=8) (λ_=>rfl) ha 2 _ rfl
   have c3:ak wr gr (i*8+3) (Y a.first.line):=hR.at (sz:=8) (λ_=>rfl) ha 3 _ rfl
   have c4:ak wr gr (i*8+4) (Y (Z6 a.name)):=hR.at (sz:=8) (λ_=>rfl) ha 4 _ rfl
   have c5:ak wr gr (i*8+5) (.string a.name.s):=hR.at (sz:=8) (λ_=>rfl) ha 5 _ rfl
   have c6:ak wr gr (i*8+6) (Y (ZW a.name)):=hR.at (sz:=8) (λ_=>rfl) ha 6 _ rfl
   have c7:ak wr gr (i*8+7) (Y a.name.line):=hR.at (sz:=8) (λ_=>rfl) ha 7 _ rfl
   have K1:=ZQ.mk (λ{W:A} (hW:Zc W bc bm n (λs=>Zj (g s)) vV vC S)=>NT hW a.first i 8)
   have K2:=ZQ.mk (λ{W:A} (hW:Zc W bc bm n (λs=>Zj (g s)) vV vC (ZE (decide ((8:Int)<=i)) 6 a.first.line S))=>xG hW a.name bl.2.1 HV.out)
   have X8:(i:Int)<l.length:=J;have Xy:(0:Int)<=i:=J;unfold XM at K1 K2
   skip
   by_cases hq:Z6 a.first=22
   ·have bj:(Z6 a.first==22)=true:=by simpa using hq
    have hO:Hid (Lz g a=[Y (Zs g a.name.s 4).pl,Y 0]):=by simp[Hid,Lz,hq]
    clear hq;go_wp2_with (first|(at_builtin;refine ey _ rfl _ _ 97 rfl w.heap.size 203 i0 (.agg #[Y 0,Y 0]) 2 16 underlying97 Y8 Ze Zq Zn rfl pF _ _ _ rfl (bC.alloc _) (ah w2.heap.size) 1 1 [Y (Zs g a.name.s 4).pl,Y 0] rfl rfl (World.news_of_block (gp _ _)) (BS _ _) ?c3 ?c4 ?c5 ?_)|(go_at_call 155;refine((K2).get Y1).mono ?_;rintro e w2 ⟨rfl,ZU,XJ⟩;have Xf:=XX Za YB ZU pI;have YM:wr.heap.size<w2.heap.size:=rh;have bC:=WT.kept ZU (X1 ZO ZR))|(go_at_call 149;refine((K1).get (hC.alloc _)).mono ?_;rintro e w1 ⟨rfl,ZZ,Y1⟩;obtain⟨YB,Za⟩:=LC aW ZZ;have WT:=(ZO.alloc _).kept ZZ (X1 ZO ZR);have b7:=Z0 Za 0 _ rfl;have b8:=Z0 Za 1 _ rfl;have b9:=Z0 Za 2 _ rfl;have cd:=Z0 Za 3 _ rfl;have ct:=Z0 Za 4 _ rfl;have cv:=Z0 Za 5 _ rfl;have cw:=Z0 Za 6 _ rfl;have cx:=Z0 Za 7 _ rfl))
    case c3=>unfold maxLen;omega
    case c4=>omega
    case c5=>have:=ZX.size;simp at *;omega
    exact jU
   ·have bj:(Z6 a.first==22)=false:=by simpa using hq
    have hO:Hid (Lz g a=[Y (Zs g a.name.s 4).pl,Y 1]):=by simp[Hid,Lz,hq]
    clear hq;go_wp2_with (first|(at_builtin;refine ey _ rfl _ _ 97 rfl w.heap.size 203 i0 (.agg #[Y 0,Y 0]) 2 16 underlying97 Y8 Ze Zq Zn rfl pF _ _ _ rfl (bC.alloc _) (ah w2.heap.size) 1 1 [Y (Zs g a.name.s 4).pl,Y 1] rfl rfl (World.news_of_block (gp _ _)) (BS _ _) ?c3 ?c4 ?c5 ?_)|(go_at_call 155;refine((K2).get Y1).mono ?_;rintro e w2 ⟨rfl,ZU,XJ⟩;have Xf:=XX Za YB ZU pI;have YM:wr.heap.size<w2.heap.size:=rh;have bC:=WT.kept ZU (X1 ZO ZR))|(go_at_call 149;refine((K1).get (hC.alloc _)).mono ?_;rintro e w1 ⟨rfl,ZZ,Y1⟩;obtain⟨YB,Za⟩:=LC aW ZZ;have WT:=(ZO.alloc _).kept ZZ (X1 ZO ZR);have b7:=Z0 Za 0 _ rfl;have b8:=Z0 Za 1 _ rfl;have b9:=Z0 Za 2 _ rfl;have cd:=Z0 Za 3 _ rfl;have ct:=Z0 Za 4 _ rfl;have cv:=Z0 Za 5 _ rfl;have cw:=Z0 Za 6 _ rfl;have cx:=Z0 Za 7 _ rfl))
    case c3=>unfold maxLen;omega
    case c4=>omega
    case c5=>have:=ZX.size;simp at *;omega
    exact jU
  ·exact jQ
end
section
open Go.RowKit
variable {w W W':A}{bc bm n br:Nat}{g:aA->Th}{vV vC:aF}{S S':Zv}{anY cs aw:Array aF}{B:Nat}
structure Er where
 e:TypeId
 s:Nat
 v:aF
 n:Nat
 xs:ay
variable {R:List Er}
structure AC (w W:A)(bc bm n br:Nat)(g:aA->Th)(vV vC:aF)(anY cs:Array aF)(S:Zv)(B:Nat)(R:List Er):Prop where
 ck:Zc W bc bm n (λs=>Zj (g s)) vV vC S
 hA:W.heap[w.heap.size]?=some (.cells anY 137 (0,0))
 hS:W.heap[br]?=some (.cells cs 99 (0,0))
 lt:br<W.heap.size
 lo:w.heap.size<br
 gr:w.grownBy W (some bc)
 lp:bc<w.heap.size
 lm:bm<w.heap.size
 hb:bc<B
 rw:∀r∈R,r.e≠99/\W.ownsRow B r.e r.s r.v r.n r.xs
theorem AC.UR (h:AC w W bc bm n br g vV vC anY cs S B R)(z:W.grownBy W' (some bc))(hC:Zc W' bc bm n (λs=>Zj (g s)) vV vC S'):AC w W' bc bm n br g vV vC anY cs S' B R:=
 have F:=h.lo;have h2:=h.lp;have h3:=h.lt
 ⟨hC,XX h.hA J z pI,XX h.hS h.lt z pI,dH h.lt z.size,h.lo,h.gr.trans z,h.lp,h.lm,h.hb,λr hr=>⟨(h.rw r hr).1,(h.rw r hr).2.kept z (X1 (h.rw r hr).2 h.hb)⟩⟩
theorem AC.sf (h:AC w W bc bm n br g vV vC anY cs S B R)(i:Nat)(v:aF)(e:cs.setIfInBounds i v=aw):AC w (W.setCell (O br i) v) bc bm n br g vV vC anY aw S B R:=
 have F:=h.lo;have h2:=h.lp;have h3:=h.lt;have h4:=h.lm
 ⟨h.ck.kept (ZC W br i v) pI pI,(dr _ _ _ _ (by show w.heap.size≠br;omega)).trans h.hA,YE h.hS i v e,by have:=(ZC W br i v).size;omega,h.lo,Up h.gr J (ZC W br i v),h.lp,h.lm,h.hb,λr hr=>⟨(h.rw r hr).1,(h.rw r hr).2.kept (ZC W br i v) (.inr (xJ (h.rw r hr).2 h.hS (h.rw r hr).1))⟩⟩
theorem AC.add (h:AC w W bc bm n br g vV vC anY cs S B R)(r:Er)(he:r.e≠99)(ho:W.ownsRow B r.e r.s r.v r.n r.xs):AC w W bc bm n br g vV vC anY cs S B (r::R):=
 ⟨h.ck,h.hA,h.hS,h.lt,h.lo,h.gr,h.lp,h.lm,h.hb,λq hq=>by
  rcases gH.1 hq with e|e
  ·subst e;exact⟨he,ho⟩
  ·exact h.rw q e⟩
theorem GA {w1:A}(aS:bc<w.heap.size)(bs:bm<w.heap.size)(hb:bc<B)(hR:∀r∈R,r.e≠99/\w.ownsRow B r.e r.s r.v r.n r.xs)(z:(w.alloc (.cells anY 137)).drew.grownBy w1 (some bc))(hC:Zc w1 bc bm n (λs=>Zj (g s)) vV vC S)(cs:Array aF):AC w (w1.alloc (.cells cs 99)) bc bm n w1.heap.size g vV vC anY cs S B R:=by
 have hz:=z.size;have bS:=(ZG (w.alloc (.cells anY 137)) (some bc)).trans z;simp at hz;have hA:=XX (gp w _) pG bS pI;exact⟨hC.alloc _,(gq _ _ J).trans hA,gp _ _,pG,J,((di w _ _).trans bS).trans (di _ _ _),aS,bs,hb,
  λr hr=>⟨(hR r hr).1,((((hR r hr).2.alloc _).kept bS (X1 (hR r hr).2 hb))).alloc _⟩⟩
structure Yz where
 sort:Int
 Yp:Int
 ZA:List (Int×Int)
 rel:Int
 num:Int
 list:az
 place:Int
 entry:Int
 vars:az
 lits:List (Int×Int)
structure X7 where
 c:Yz
 vt:aF
 vl:aF
 vv:aF
 vi:aF
def X7.cells (x:X7):ay:=[Y x.c.sort,Y x.c.Yp,x.vt,Y x.c.rel,Y x.c.num,x.vl,Y x.c.place,Y x.c.entry,x.vv,x.vi]
def P7 (p:Int×Int):ay:=[Y p.1,Y p.2]
def QE (i:Int):ay:=[Y i]
structure NQ (w:A)(B:Nat)(x:X7):Prop where
 t:w.ownsRow B 201 2 x.vt x.c.ZA.length (x.c.ZA.flatMap P7)
 l:w.ownsRow B 3 1 x.vl x.c.list.length (x.c.list.flatMap QE)
 v:w.ownsRow B 3 1 x.vv x.c.vars.length (x.c.vars.flatMap QE)
 i:w.ownsRow B 203 2 x.vi x.c.lits.length (x.c.lits.flatMap P7)
theorem Gz {α β:Type}{w:A}{B B' e s:Nat}{v:aF}{l:List α}(f:α->β){cell:β->ay}{out:α->ay}(he:∀a,out a=cell (f a))(h:w.ownsRow B' e s v l.length (l.flatMap out))(hB:B<=B'):w.ownsRow B e s v (l.map f).length ((l.map f).flatMap cell):=by
 have e1:(l.map f).flatMap cell=l.flatMap out:=by
  rw[List.flatMap_map];exact iJ (λk=>List.flatMap k l) (funext λa=>(he a).symm)
 rw[e1,fy];refine⟨h.1,?_⟩;rcases h.2 with q|⟨g,cap,cur,F,h2,h3⟩
 ·exact .inl q
 ·exact .inr ⟨g,cap,cur,F,gZ hB h2,h3⟩
theorem NQ.but {w w':A}{B:Nat}{x:X7}{S:List Nat}(h:NQ w B x)(hb:Y9 S w w')(hS:∀k,k∈S->k<B\/∃c e,w.heap[k]?=some (.cells c e (0,0))/\(e=99\/e=78)):NQ w' B x:=by
 have key:∀{e s n:Nat} {v:aF} {xs:ay},w.ownsRow B e s v n xs->e≠99->e≠78->w'.ownsRow B e s v n xs:=λ{e s n v xs} ho F h2=>by
  refine⟨ho.1,?_⟩;rcases ho.2 with q|⟨g,cap,cur,q1,q2,q3,q4⟩
  ·exact .inl q
  ·refine .inr ⟨g,cap,cur,q1,q2,?_,q4⟩;rw[hb.block g (aM.1 q3).1 (λz=> ?_)]
   ·exact q3
   ·rcases hS g z with q|⟨c,e',q,r⟩
    ·omega
    ·rw[q3]at q;injection q with q;injection q with _ q _;subst q;rcases r with r|r
     ·exact F r
     ·exact h2 r
 exact⟨key h.t pF pF,key h.l pF pF,key h.v pF pF,key h.i pF pF⟩
theorem Gy:(prog.info? 99).map (λi=>(i.zero,i.size,i.bytes))=some (some (.agg #[Y 0,Y 0,af,Y 0,Y 0,af,Y 0,Y 0,af,af]),10,144):=pH
theorem Gx (a b:Int)(v1:ax)(m1 c1:Nat)(c d:Int)(v2:ax)(m2 c2:Nat)(e f:Int)(v3:ax)(m3 c3:Nat)(v4:ax)(m4 c4:Nat):∀u∈[Y a,Y b,.slice v1 m1 c1,Y c,Y d,.slice v2 m2 c2,Y e,Y f,.slice v3 m3 c3,.slice v4 m4 c4],u.oneCell'=true:=by
 intro u hu;simp only[gH,eQ,iM]at hu;rcases hu with rfl|rfl|rfl|rfl|rfl|rfl|rfl|rfl|rfl|rfl<;>rfl
def NP (w:A)(bc bm n B m:Nat)(g:aA->Th)(vV vC:aF)(S:Zv)(xs:ay)(C:Yz)(e:Ending)(w':A):Prop:=
 e=.returned (.tuple #[])/\∃v x,x.c=C/\NQ w' B x/\w'.ownsRow B 99 10 v (m+1) (xs++x.cells)/\Y9 ([bc]++vC.ownBlock.toList) w w'/\Zc w' bc bm n (λs=>Zj (g s)) vV v S
theorem Gw {wj wA:A}{m:Nat}{o:Obj}{v:aF}{xs:ay}(h:AC w wj bc bm n br g vV vC anY cs S B R)(Wu:bc<B)(RN:bm<B)(Xw:w.ownsRow B 99 10 vC m xs)(x:X7)(hx:NQ wj B x)(ZO:wA.ownsRow B 99 10 v (m+1) (xs++x.cells))(z:(wj.alloc o).drew.grownBy wA vC.ownBlock):NP w bc bm n B m g vV vC S xs x.c (.returned (.tuple #[])) (wA.setCell (O bc 2) v):=by
 have hC:Zc wA bc bm n (λs=>Zj (g s)) vV vC S:=((h.ck.alloc o).drew).kept z (Pp Xw Wu) (Pp Xw RN)
 have av:=Xw.kept h.gr (X1 Xw Wu);have b1:Y9 ([bc]++vC.ownBlock.toList) wj (wA.setCell (O bc 2) v):=((((Y9.refl _ wj).alloc o).drew).grown z (λk e=>.inl (by simp[e]))).set (.inl pG) _ _
 refine⟨rfl,v,x,rfl,hx.but b1 (λk I=> ?_),ZO.kept (ZC _ _ _ _) (X1 ZO Wu),?_,hC.afd⟩
 ·rcases fE.1 I with q|q
  ·simp at q;exact .inl J
  ·have q':vC.ownBlock=some k:=qE;rcases av.2 with⟨e,_⟩|⟨g',cap,cur,e,_,e3,_⟩
   ·rw[e]at q';cases q'
   ·rw[e]at q';have:g'=k:=fO q';subst this;exact .inr ⟨cur,_,e3,.inl rfl⟩
 ·have q:=(((Y9.of (S:=[bc]++vC.ownBlock.toList) h.gr pG).alloc o).drew).grown z (λk e=>by exact .inl (by simp[e]))
  exact q.set (.inl pG) _ _
end
section
open Go.RowKit
variable {w:A}{bc bm n:Nat}{g:aA->Th}{vV vC:aF}{st:Zv}
def j4{P:Prop}(h:P:=by
 have q:=((xE.ck.alloc _).drew).kept z (Pp Xw Wu) (Pp Xw RN);exact⟨q.f2,q.c2⟩):P:=h
theorem afh (B m:Nat)(xs:ay)(ca:ax)(cc:Nat)(h:Zc w bc bm n (λs=>Zj (g s)) vV (.slice ca m cc) st)(Xw:w.ownsRow B 99 10 (.slice ca m cc) m xs)(Wu:bc<B)(RN:bm<B)(Vn:B<=w.heap.size)(hm:m<=3000)(hv:Sk g)(kw nm rel:ZY)(l numbers:List ZY)(ZA:List XU)(lits:List Ud)(v1 vu vt vl:aF)(gr cap:Nat)(hR:YR w v1 gr cap U6 l)(bq:gr≠bc)(hl:l.length<=3000)(ar:∀a∈l,YI a)(I:QZ (Z6 kw)=3):aq 123 #[ai bc,.agg (Xs ⟨kw,nm,l,numbers,ZA,rel,lits⟩ v1 vu vt vl)] w (NP w bc bm n B m g vV (.slice ca m cc) (X9 (QT g) 0 l (ZE (decide ((16:Int)<=m)) 6 kw.line st)) xs ⟨3,0,[],0,0,[],0,0,l.map (λt=>(Zs g t.s 4).pl),[]⟩):=by
 obtain⟨i0,Y8,Ze,Zq,Zn⟩:=iE Gy;have HC:Hid (Zc w bc bm n (λs=>Zj (g s)) vV (.slice ca m cc) st):=h
 have ZR:=h.lt;have aI:=h.Ya;have V7:=h.c2;have aR:Hid (QZ (Z6 kw)=3):=I;obtain⟨vC,bV⟩:∃v,v=Value.slice ca m cc:=⟨_,rfl⟩;have K1:=ZQ.mk (λ{W:A} (hW:Zc W bc bm n (λs=>Zj (g s)) vV (.slice ca m cc) st)=>NT hW kw m 16)
 generalize aa:ZE (decide ((16:Int)<=m)) 6 kw.line st=S1 at *;have K2:=ZQ.mk (λ{W:A} (hW:Zc W bc bm n (λs=>Zj (g s)) vV (.slice ca m cc) S1) (OE:YR W v1 gr cap U6 l)=>aff hW l v1 gr cap OE bq hl ar hv)
 generalize YH:X9 (QT g) 0 l S1=S2 at *;unfold XM at K1;unfold Xs;simp only;clear h I;go_enter func123,ntmps123;go_wp2;go_region_law (go_simp;go_at_call 149;refine(K1.get (HC.out.alloc _).drew).mono ?_;rintro e w1 ⟨rfl,ZZ,Y1⟩;have x1:=GA ZR aI Wu (R:=[]) (λr hr=>ve) ZZ Y1 #[Y 3,Y 0,af,Y 0,Y 0,af,Y 0,Y 0,af,af];have YB:w.heap.size<w1.heap.size:=x1.lo;have bT:w.heap.size≠w1.heap.size:=J;have bJ:w1.heap.size≠w.heap.size:=J;have Za:=XX (gp w _) pG ((ZG _ (some bc)).trans ZZ) pI;have cD:=Z0 Za 8 _ rfl;have ba:=Z0 Za 0 _ rfl)
 all_goals
  go_wp2_with (first|(go_at_call 160;refine(K2.get x1.ck (hR.kept x1.gr p7)).mono ?_;rintro e w2 ⟨v2,rfl,Vu,ZU,XJ⟩;obtain⟨au,aC,aG,rfl⟩:=Vd Vu;have x2:=(x1.UR ZU XJ).add ⟨3,1,.slice au aC aG,(l.map (λt:ZY=>(Zs g t.s 4).pl)).length,(l.map (λt:ZY=>(Zs g t.s 4).pl)).flatMap QE⟩ (by show 3≠99;decide) (Gz (λt:ZY=>(Zs g t.s 4).pl) (λ_=>rfl) Vu tT);have cE:=Z0 x2.hS 8 _ rfl;have cF:=Zz x2.hS 8;have bH:=x2.sf (aw:=#[Y 3,Y 0,af,Y 0,Y 0,af,Y 0,Y 0,.slice au aC aG,af]) 8 (.slice au aC aG) rfl)|(go_at_call 154;refine(GF _ _).mono ?_;rw[aR.out];rintro e w' ⟨rfl,Zf⟩;subst w'))
  have xE:=bH;generalize (w2.setCell (O w1.heap.size 8) (.slice au aC aG))=wj at xE⊢;have m2:=xE.ck.c2;have mf:=xE.ck.f2;have mlt:=xE.ck.lt;have c0:=Z0 xE.hS 0 _ rfl;have c1:=Z0 xE.hS 1 _ rfl;have c2:=Z0 xE.hS 2 _ rfl;have c3:=Z0 xE.hS 3 _ rfl;have c4:=Z0 xE.hS 4 _ rfl;have c5:=Z0 xE.hS 5 _ rfl;have c6:=Z0 xE.hS 6 _ rfl;have c7:=Z0 xE.hS 7 _ rfl;have c8:=Z0 xE.hS 8 _ rfl;have c9:=Z0 xE.hS 9 _ rfl;have blt:=xE.lt;have av:=Xw.kept xE.gr (X1 Xw Wu);have YD:=ZQ.mk ((av.kept ((di wj (.cells #[Y 3,Y 0,af,Y 0,Y 0,af,Y 0,Y 0,.slice au aC aG,af] 99) none).trans (ZG _ none)) (XY _)));have YF:=ZQ.mk (World.news_of_block (w:=(wj.alloc (.cells #[Y 3,Y 0,af,Y 0,Y 0,af,Y 0,Y 0,.slice au aC aG,af] 99)).drew) (cs:=#[Y 3,Y 0,af,Y 0,Y 0,af,Y 0,Y 0,.slice au aC aG,af]) (t:=99) (fr:=(0,0)) (gp wj _));have WK:Hid (∀wA,(wj.alloc (.cells #[Y 3,Y 0,af,Y 0,Y 0,af,Y 0,Y 0,.slice au aC aG,af] 99)).drew.grownBy wA (Value.slice ca m cc).ownBlock->wA.frozen? (O bc 2)=false/\ak wA bc 2 (.slice ca m cc)):=λwA z=>by
   exact j4
  have bb:B<=wj.heap.size:=rF;go_region_law ((refine step_append_lies _ p8 _ _ 74 p8 B 99 i0 (.agg #[Y 0,Y 0,af,Y 0,Y 0,af,Y 0,Y 0,af,af]) 10 144 underlying74 Y8 Ze Zq Zn rfl pF (.slice ca m cc) m xs p8 YD.get (ah wj.heap.size) 1 1 [Y 3,Y 0,af,Y 0,Y 0,af,Y 0,Y 0,.slice au aC aG,af] p8 rfl YF.get (Gx _ _ _ _ _ _ _ _ _ _ _ _ _ _ _ _ _ _) pF pK J pI _ rfl ?_;intro gA XC wA YT Zo XL Xq;obtain⟨q1,q2⟩:=WK.out wA Zo))
  all_goals have R:=Gw xE Wu RN Xw ⟨⟨3,0,[],0,0,[],0,0,l.map (λt=>(Zs g t.s 4).pl),[]⟩,af,af,.slice au aC aG,af⟩ ⟨ed _ _ _ _,ed _ _ _ _,(xE.rw _ (dC ..)).2,ed _ _ _ _⟩ YT Zo
  all_goals clear YD YF WK YT Zo XL Xq
  all_goals go_wp2
  all_goals go_end0
  all_goals exact R
end
section
open Go.RowKit
variable {w:A}{bc bm n:Nat}{g:aA->Th}{vV vC:aF}{st:Zv}
theorem afi (B m:Nat)(xs:ay)(ca:ax)(cc:Nat)(h:Zc w bc bm n (λs=>Zj (g s)) vV (.slice ca m cc) st)(Xw:w.ownsRow B 99 10 (.slice ca m cc) m xs)(Wu:bc<B)(RN:bm<B)(Vn:B<=w.heap.size)(hm:m<=3000)(hv:Sk g)(kw nm rel:ZY)(names numbers:List ZY)(ZA:List XU)(l:List Ud)(vn vu vt v1:aF)(gr cap:Nat)(hR:YR w v1 gr cap OM l)(bq:gr≠bc)(hl:l.length<=3000)(ar:∀a∈l,YI a.first/\YI a.name)(I:QZ (Z6 kw)=4):aq 123 #[ai bc,.agg (Xs ⟨kw,nm,names,numbers,ZA,rel,l⟩ vn vu vt v1)] w (NP w bc bm n B m g vV (.slice ca m cc) (X9 (RO g) 0 l (ZE (decide ((16:Int)<=m)) 6 kw.line st)) xs ⟨4,0,[],0,0,[],0,0,[],l.map (λt=>((Zs g t.name.s 4).pl,if Z6 t.first=22 then 0 else 1))⟩):=by
 obtain⟨i0,Y8,Ze,Zq,Zn⟩:=iE Gy;have HC:Hid (Zc w bc bm n (λs=>Zj (g s)) vV (.slice ca m cc) st):=h
 have ZR:=h.lt;have aI:=h.Ya;have V7:=h.c2;have aR:Hid (QZ (Z6 kw)=4):=I;obtain⟨vC,bV⟩:∃v,v=Value.slice ca m cc:=⟨_,rfl⟩;have K1:=ZQ.mk (λ{W:A} (hW:Zc W bc bm n (λs=>Zj (g s)) vV (.slice ca m cc) st)=>NT hW kw m 16)
 generalize aa:ZE (decide ((16:Int)<=m)) 6 kw.line st=S1 at *;have K2:=ZQ.mk (λ{W:A} (hW:Zc W bc bm n (λs=>Zj (g s)) vV (.slice ca m cc) S1) (OE:YR W v1 gr cap OM l)=>afg hW l v1 gr cap OE bq hl ar hv)
 generalize YH:X9 (RO g) 0 l S1=S2 at *;unfold XM at K1;unfold Xs;simp only;clear h I;go_enter func123,ntmps123;go_wp2;go_region_law (go_simp;go_at_call 149;refine(K1.get (HC.out.alloc _).drew).mono ?_;rintro e w1 ⟨rfl,ZZ,Y1⟩;have x1:=GA ZR aI Wu (R:=[]) (λr hr=>ve) ZZ Y1 #[Y 4,Y 0,af,Y 0,Y 0,af,Y 0,Y 0,af,af];have YB:w.heap.size<w1.heap.size:=x1.lo;have bT:w.heap.size≠w1.heap.size:=J;have bJ:w1.heap.size≠w.heap.size:=J;have Za:=XX (gp w _) pG ((ZG _ (some bc)).trans ZZ) pI;have cG:=Z0 Za 15 _ rfl;have ba:=Z0 Za 0 _ rfl)
 all_goals
  go_wp2_with (first|(go_at_call 161;refine(K2.get x1.ck (hR.kept x1.gr p7)).mono ?_;rintro e w2 ⟨v2,rfl,Vu,ZU,XJ⟩;obtain⟨au,aC,aG,rfl⟩:=Vd Vu;have x2:=(x1.UR ZU XJ).add ⟨203,2,.slice au aC aG,(l.map (λt:Ud=>((Zs g t.name.s 4).pl,if Z6 t.first=22 then 0 else 1))).length,(l.map (λt:Ud=>((Zs g t.name.s 4).pl,if Z6 t.first=22 then 0 else 1))).flatMap P7⟩ (by show 203≠99;decide) (Gz (λt:Ud=>((Zs g t.name.s 4).pl,if Z6 t.first=22 then 0 else 1)) (λ_=>rfl) Vu tT);have cH:=Z0 x2.hS 9 _ rfl;have cI:=Zz x2.hS 9;have bI:=x2.sf (aw:=#[Y 4,Y 0,af,Y 0,Y 0,af,Y 0,Y 0,af,.slice au aC aG]) 9 (.slice au aC aG) rfl)|(go_at_call 154;refine(GF _ _).mono ?_;rw[aR.out];rintro e w' ⟨rfl,Zf⟩;subst w'))
  have xE:=bI;generalize (w2.setCell (O w1.heap.size 9) (.slice au aC aG))=wj at xE⊢;have m2:=xE.ck.c2;have mf:=xE.ck.f2;have mlt:=xE.ck.lt;have c0:=Z0 xE.hS 0 _ rfl;have c1:=Z0 xE.hS 1 _ rfl;have c2:=Z0 xE.hS 2 _ rfl;have c3:=Z0 xE.hS 3 _ rfl;have c4:=Z0 xE.hS 4 _ rfl;have c5:=Z0 xE.hS 5 _ rfl;have c6:=Z0 xE.hS 6 _ rfl;have c7:=Z0 xE.hS 7 _ rfl;have c8:=Z0 xE.hS 8 _ rfl;have c9:=Z0 xE.hS 9 _ rfl;have blt:=xE.lt;have av:=Xw.kept xE.gr (X1 Xw Wu);have YD:=ZQ.mk ((av.kept ((di wj (.cells #[Y 4,Y 0,af,Y 0,Y 0,af,Y 0,Y 0,af,.slice au aC aG] 99) none).trans (ZG _ none)) (XY _)));have YF:=ZQ.mk (World.news_of_block (w:=(wj.alloc (.cells #[Y 4,Y 0,af,Y 0,Y 0,af,Y 0,Y 0,af,.slice au aC aG] 99)).drew) (cs:=#[Y 4,Y 0,af,Y 0,Y 0,af,Y 0,Y 0,af,.slice au aC aG]) (t:=99) (fr:=(0,0)) (gp wj _));have WK:Hid (∀wA,(wj.alloc (.cells #[Y 4,Y 0,af,Y 0,Y 0,af,Y 0,Y 0,af,.slice au aC aG] 99)).drew.grownBy wA (Value.slice ca m cc).ownBlock->wA.frozen? (O bc 2)=false/\ak wA bc 2 (.slice ca m cc)):=λwA z=>by
   exact j4
  have bb:B<=wj.heap.size:=rF;go_region_law ((refine step_append_lies _ p8 _ _ 74 p8 B 99 i0 (.agg #[Y 0,Y 0,af,Y 0,Y 0,af,Y 0,Y 0,af,af]) 10 144 underlying74 Y8 Ze Zq Zn rfl pF (.slice ca m cc) m xs p8 YD.get (ah wj.heap.size) 1 1 [Y 4,Y 0,af,Y 0,Y 0,af,Y 0,Y 0,af,.slice au aC aG] p8 rfl YF.get (Gx _ _ _ _ _ _ _ _ _ _ _ _ _ _ _ _ _ _) pF pK J pI _ rfl ?_;intro gA XC wA YT Zo XL Xq;obtain⟨q1,q2⟩:=WK.out wA Zo))
  all_goals have R:=Gw xE Wu RN Xw ⟨⟨4,0,[],0,0,[],0,0,[],l.map (λt=>((Zs g t.name.s 4).pl,if Z6 t.first=22 then 0 else 1))⟩,af,af,af,.slice au aC aG⟩ ⟨ed _ _ _ _,ed _ _ _ _,ed _ _ _ _,(xE.rw _ (dC ..)).2⟩ YT Zo
  all_goals clear YD YF WK YT Zo XL Xq
  all_goals go_wp2
  all_goals go_end0
  all_goals exact R
end
section
open Go.RowKit
variable {w:A}{bc bm n:Nat}{g:aA->Th}{vV vC:aF}{st:Zv}
theorem afj (B m:Nat)(xs:ay)(ca:ax)(cc:Nat)(h:Zc w bc bm n (λs=>Zj (g s)) vV (.slice ca m cc) st)(Xw:w.ownsRow B 99 10 (.slice ca m cc) m xs)(Wu:bc<B)(RN:bm<B)(Vn:B<=w.heap.size)(hm:m<=3000)(hv:Sk g)(kw nm rel M:ZY)(names:List ZY)(l:List XU)(lits:List Ud)(vn vu v1 vl:aF)(gr cap aU bh:Nat)(hR:YR w v1 gr cap QV l)(bq:gr≠bc)(hU:YR w vu aU bh U6 [M])(Pt:aU≠bc)(hl:l.length<=3000)(ar:∀a∈l,YI a.first/\YI a.name)(bn:YI nm)(aV:YI M)(I:QZ (Z6 kw)=0):aq 123 #[ai bc,.agg (Xs ⟨kw,nm,names,[M],l,rel,lits⟩ vn vu v1 vl)] w (NP w bc bm n B m g vV (.slice ca m cc) (ZE (Yg (ZW M) 1000000) 5 M.line (X9 (TA g) 0 l (ZE (decide ((16:Int)<=m)) 6 kw.line st))) xs ⟨0,0,l.map (λt=>((Zs g t.name.s 4).pl,Vv t)),Wc (Z6 rel),ZW M,[],0,0,[],[]⟩):=by
 obtain⟨i0,Y8,Ze,Zq,Zn⟩:=iE Gy;have HC:Hid (Zc w bc bm n (λs=>Zj (g s)) vV (.slice ca m cc) st):=h
 have ZR:=h.lt;have aI:=h.Ya;have V7:=h.c2;have aR:Hid (QZ (Z6 kw)=0):=I;obtain⟨vC,bV⟩:∃v,v=Value.slice ca m cc:=⟨_,rfl⟩;have UJ:=aV.2.1;have UI:=aV.2.2;obtain rfl:=hU.is;have K1:=ZQ.mk (λ{W:A} (hW:Zc W bc bm n (λs=>Zj (g s)) vV (.slice ca m cc) st)=>NT hW kw m 16)
 generalize aa:ZE (decide ((16:Int)<=m)) 6 kw.line st=S1 at *;have K2:=ZQ.mk (λ{W:A} (hW:Zc W bc bm n (λs=>Zj (g s)) vV (.slice ca m cc) S1) (OE:YR W v1 gr cap QV l)=>xz hW l v1 gr cap OE bq hl ar hv)
 generalize YH:X9 (TA g) 0 l S1=S2 at *;have K3:=ZQ.mk (λ{W:A} (hW:Zc W bc bm n (λs=>Zj (g s)) vV (.slice ca m cc) S2)=>IW hW M 1000000 pF pF)
 generalize bf:ZE (Yg (ZW M) 1000000) 5 M.line S2=S3 at *;unfold XM at K1 K3;unfold Xs;simp only;clear h I;go_enter func123,ntmps123;go_wp2;go_region_law (go_simp;go_at_call 149;refine(K1.get (HC.out.alloc _).drew).mono ?_;rintro e w1 ⟨rfl,ZZ,Y1⟩;have x1:=GA ZR aI Wu (R:=[]) (λr hr=>ve) ZZ Y1 #[Y 0,Y 0,af,Y 0,Y 0,af,Y 0,Y 0,af,af];have YB:w.heap.size<w1.heap.size:=x1.lo;have bT:w.heap.size≠w1.heap.size:=J;have bJ:w1.heap.size≠w.heap.size:=J;have Za:=XX (gp w _) pG ((ZG _ (some bc)).trans ZZ) pI;have ba:=Z0 Za 0 _ rfl;have cK:=Z0 Za 10 _ rfl)
 all_goals
  go_wp2_with (first|(go_at_call 157;refine(xF _ _).mono ?_;rintro e w' ⟨rfl,Zf⟩;subst w')|(go_at_call 151;refine(K3.get bz.ck).mono ?_;rintro e w3 ⟨rfl,ZJ,aL⟩;have x3:=(bz.UR ZJ aL);have cL:=Z0 x3.hS 4 _ rfl;have cM:=Zz x3.hS 4;have bK:=x3.sf (aw:=#[Y 0,Y 0,.slice au aC aG,Y (Wc (Z6 rel)),Y (ZW M),af,Y 0,Y 0,af,af]) 4 (Y (ZW M)) rfl)|(go_at_call 156;refine(K2.get x1.ck (hR.kept x1.gr p7)).mono ?_;rintro e w2 ⟨v2,rfl,Vu,ZU,XJ⟩;obtain⟨au,aC,aG,rfl⟩:=Vd Vu;have x2:=(x1.UR ZU XJ).add ⟨201,2,.slice au aC aG,(l.map (λt:XU=>((Zs g t.name.s 4).pl,Vv t))).length,(l.map (λt:XU=>((Zs g t.name.s 4).pl,Vv t))).flatMap P7⟩ (by show 201≠99;decide) (Gz (λt:XU=>((Zs g t.name.s 4).pl,Vv t)) (λ_=>rfl) Vu tT);have cr:=Z0 x2.hA 9 _ rfl;have cN:=Z0 x2.hA 11 _ rfl;have cO:=Z0 x2.hS 2 _ rfl;have cP:=Zz x2.hS 2;have cQ:=Z0 x2.hS 3 _ rfl;have cR:=Zz x2.hS 3;have bL:=x2.sf (aw:=#[Y 0,Y 0,.slice au aC aG,Y 0,Y 0,af,Y 0,Y 0,af,af]) 2 (.slice au aC aG) rfl;have bz:=bL.sf (aw:=#[Y 0,Y 0,.slice au aC aG,Y (Wc (Z6 rel)),Y 0,af,Y 0,Y 0,af,af]) 3 (Y (Wc (Z6 rel))) rfl;have bO:=(hU.kept x2.gr qQ).row 0 _ rfl;have bP:=(hU.kept x2.gr qQ).row 1 _ rfl;have bR:=(hU.kept x2.gr qQ).row 2 _ rfl;have bU:=(hU.kept x2.gr qQ).row 3 _ rfl;have bM:aU≠w1.heap.size:=(by have:=hU.lt;omega))|(go_at_call 154;refine(GF _ _).mono ?_;rw[aR.out];rintro e w' ⟨rfl,Zf⟩;subst w'))
  have xE:=bK;generalize (w3.setCell (O w1.heap.size 4) (Y (ZW M)))=wj at xE⊢;have m2:=xE.ck.c2;have mf:=xE.ck.f2;have mlt:=xE.ck.lt;have c0:=Z0 xE.hS 0 _ rfl;have c1:=Z0 xE.hS 1 _ rfl;have c2:=Z0 xE.hS 2 _ rfl;have c3:=Z0 xE.hS 3 _ rfl;have c4:=Z0 xE.hS 4 _ rfl;have c5:=Z0 xE.hS 5 _ rfl;have c6:=Z0 xE.hS 6 _ rfl;have c7:=Z0 xE.hS 7 _ rfl;have c8:=Z0 xE.hS 8 _ rfl;have c9:=Z0 xE.hS 9 _ rfl;have blt:=xE.lt;have av:=Xw.kept xE.gr (X1 Xw Wu);have YD:=ZQ.mk ((av.kept ((di wj (.cells #[Y 0,Y 0,.slice au aC aG,Y (Wc (Z6 rel)),Y (ZW M),af,Y 0,Y 0,af,af] 99) none).trans (ZG _ none)) (XY _)));have YF:=ZQ.mk (World.news_of_block (w:=(wj.alloc (.cells #[Y 0,Y 0,.slice au aC aG,Y (Wc (Z6 rel)),Y (ZW M),af,Y 0,Y 0,af,af] 99)).drew) (cs:=#[Y 0,Y 0,.slice au aC aG,Y (Wc (Z6 rel)),Y (ZW M),af,Y 0,Y 0,af,af]) (t:=99) (fr:=(0,0)) (gp wj _));have WK:Hid (∀wA,(wj.alloc (.cells #[Y 0,Y 0,.slice au aC aG,Y (Wc (Z6 rel)),Y (ZW M),af,Y 0,Y 0,af,af] 99)).drew.grownBy wA (Value.slice ca m cc).ownBlock->wA.frozen? (O bc 2)=false/\ak wA bc 2 (.slice ca m cc)):=λwA z=>by
   exact j4
  have bb:B<=wj.heap.size:=rF;go_region_law ((refine step_append_lies _ p8 _ _ 74 p8 B 99 i0 (.agg #[Y 0,Y 0,af,Y 0,Y 0,af,Y 0,Y 0,af,af]) 10 144 underlying74 Y8 Ze Zq Zn rfl pF (.slice ca m cc) m xs p8 YD.get (ah wj.heap.size) 1 1 [Y 0,Y 0,.slice au aC aG,Y (Wc (Z6 rel)),Y (ZW M),af,Y 0,Y 0,af,af] p8 rfl YF.get (Gx _ _ _ _ _ _ _ _ _ _ _ _ _ _ _ _ _ _) pF pK J pI _ rfl ?_;intro gA XC wA YT Zo XL Xq;obtain⟨q1,q2⟩:=WK.out wA Zo))
  all_goals have R:=Gw xE Wu RN Xw ⟨⟨0,0,l.map (λt=>((Zs g t.name.s 4).pl,Vv t)),Wc (Z6 rel),ZW M,[],0,0,[],[]⟩,.slice au aC aG,af,af,af⟩ ⟨(xE.rw _ (dC ..)).2,ed _ _ _ _,ed _ _ _ _,ed _ _ _ _⟩ YT Zo
  all_goals clear YD YF WK YT Zo XL Xq
  all_goals go_wp2
  all_goals go_end0
  all_goals exact R
end
section
open Go.RowKit
variable {w:A}{bc bm n:Nat}{g:aA->Th}{vV vC:aF}{st:Zv}
theorem afk (B m:Nat)(xs:ay)(ca:ax)(cc:Nat)(h:Zc w bc bm n (λs=>Zj (g s)) vV (.slice ca m cc) st)(Xw:w.ownsRow B 99 10 (.slice ca m cc) m xs)(Wu:bc<B)(RN:bm<B)(Vn:B<=w.heap.size)(hm:m<=3000)(hv:Sk g)(kw nm rel M:ZY)(names:List ZY)(l:List XU)(lits:List Ud)(vn vu v1 vl:aF)(gr cap aU bh:Nat)(hR:YR w v1 gr cap QV l)(bq:gr≠bc)(hU:YR w vu aU bh U6 [M])(Pt:aU≠bc)(hl:l.length<=3000)(ar:∀a∈l,YI a.first/\YI a.name)(bn:YI nm)(aV:YI M)(I:QZ (Z6 kw)=1):aq 123 #[ai bc,.agg (Xs ⟨kw,nm,names,[M],l,rel,lits⟩ vn vu v1 vl)] w (NP w bc bm n B m g vV (.slice ca m cc) (ZE (Yg (ZW M) 1000000) 5 M.line (X9 (TA g) 0 l (ZE (SY (Zs g nm.s 4)) 7 nm.line (ZE ((g nm.s).so != 4) 4 nm.line (ZE (decide ((16:Int)<=m)) 6 kw.line st))))) xs ⟨1,(Zs g nm.s 4).pl,l.map (λt=>((Zs g t.name.s 4).pl,Vv t)),Wc (Z6 rel),ZW M,[],0,0,[],[]⟩):=by
 obtain⟨i0,Y8,Ze,Zq,Zn⟩:=iE Gy;have HC:Hid (Zc w bc bm n (λs=>Zj (g s)) vV (.slice ca m cc) st):=h
 have ZR:=h.lt;have aI:=h.Ya;have V7:=h.c2;have aR:Hid (QZ (Z6 kw)=1):=I;obtain⟨vC,bV⟩:∃v,v=Value.slice ca m cc:=⟨_,rfl⟩;have UJ:=aV.2.1;have UI:=aV.2.2;obtain rfl:=hU.is;have K1:=ZQ.mk (λ{W:A} (hW:Zc W bc bm n (λs=>Zj (g s)) vV (.slice ca m cc) st)=>NT hW kw m 16)
 generalize aa:ZE (decide ((16:Int)<=m)) 6 kw.line st=S1 at *;have K2:=ZQ.mk (λ{W:A} (hW:Zc W bc bm n (λs=>Zj (g s)) vV (.slice ca m cc) S1)=>xG hW nm bn.1 hv)
 generalize YH:ZE (SY (Zs g nm.s 4)) 7 nm.line (ZE ((g nm.s).so != 4) 4 nm.line S1)=S2 at *;have K3:=ZQ.mk (λ{W:A} (hW:Zc W bc bm n (λs=>Zj (g s)) vV (.slice ca m cc) S2) (OE:YR W v1 gr cap QV l)=>xz hW l v1 gr cap OE bq hl ar hv)
 generalize bf:X9 (TA g) 0 l S2=S3 at *;have K4:=ZQ.mk (λ{W:A} (hW:Zc W bc bm n (λs=>Zj (g s)) vV (.slice ca m cc) S3)=>IW hW M 1000000 pF pF)
 generalize bt:ZE (Yg (ZW M) 1000000) 5 M.line S3=S4 at *;unfold XM at K1 K2 K4;unfold Xs;simp only;clear h I;go_enter func123,ntmps123;go_wp2;go_region_law (go_simp;go_at_call 149;refine(K1.get (HC.out.alloc _).drew).mono ?_;rintro e w1 ⟨rfl,ZZ,Y1⟩;have x1:=GA ZR aI Wu (R:=[]) (λr hr=>ve) ZZ Y1 #[Y 1,Y 0,af,Y 0,Y 0,af,Y 0,Y 0,af,af];have YB:w.heap.size<w1.heap.size:=x1.lo;have bT:w.heap.size≠w1.heap.size:=J;have bJ:w1.heap.size≠w.heap.size:=J;have Za:=XX (gp w _) pG ((ZG _ (some bc)).trans ZZ) pI;have ba:=Z0 Za 0 _ rfl;have bX:=Z0 Za 4 _ rfl;have bY:=Z0 Za 5 _ rfl;have bZ:=Z0 Za 6 _ rfl;have b6:=Z0 Za 7 _ rfl)
 all_goals
  go_wp2_with (first|(go_at_call 157;refine(xF _ _).mono ?_;rintro e w' ⟨rfl,Zf⟩;subst w')|(go_at_call 151;refine(K4.get bA.ck).mono ?_;rintro e w4 ⟨rfl,Xr,a7⟩;have x4:=(bA.UR Xr a7);have cS:=Z0 x4.hS 4 _ rfl;have cT:=Zz x4.hS 4;have bQ:=x4.sf (aw:=#[Y 1,Y (Zs g nm.s 4).pl,.slice aH aJ aO,Y (Wc (Z6 rel)),Y (ZW M),af,Y 0,Y 0,af,af]) 4 (Y (ZW M)) rfl)|(go_at_call 156;refine(K3.get bg.ck (hR.kept bg.gr p7)).mono ?_;rintro e w3 ⟨v3,rfl,Pk,ZJ,aL⟩;obtain⟨aH,aJ,aO,rfl⟩:=Vd Pk;have x3:=(bg.UR ZJ aL).add ⟨201,2,.slice aH aJ aO,(l.map (λt:XU=>((Zs g t.name.s 4).pl,Vv t))).length,(l.map (λt:XU=>((Zs g t.name.s 4).pl,Vv t))).flatMap P7⟩ (by show 201≠99;decide) (Gz (λt:XU=>((Zs g t.name.s 4).pl,Vv t)) (λ_=>rfl) Pk (by have:=bg.gr.size;omega));have cg:=Z0 x3.hA 9 _ rfl;have cV:=Z0 x3.hA 11 _ rfl;have cW:=Z0 x3.hS 2 _ rfl;have cX:=Zz x3.hS 2;have cY:=Z0 x3.hS 3 _ rfl;have cZ:=Zz x3.hS 3;have bW:=x3.sf (aw:=#[Y 1,Y (Zs g nm.s 4).pl,.slice aH aJ aO,Y 0,Y 0,af,Y 0,Y 0,af,af]) 2 (.slice aH aJ aO) rfl;have bA:=bW.sf (aw:=#[Y 1,Y (Zs g nm.s 4).pl,.slice aH aJ aO,Y (Wc (Z6 rel)),Y 0,af,Y 0,Y 0,af,af]) 3 (Y (Wc (Z6 rel))) rfl;have dc:=(hU.kept x3.gr qQ).row 0 _ rfl;have df:=(hU.kept x3.gr qQ).row 1 _ rfl;have dh:=(hU.kept x3.gr qQ).row 2 _ rfl;have dm:=(hU.kept x3.gr qQ).row 3 _ rfl;have cz:aU≠w1.heap.size:=(by have:=hU.lt;omega))|(go_at_call 155;refine(K2.get x1.ck).mono ?_;rintro e w2 ⟨rfl,ZU,XJ⟩;have x2:=(x1.UR ZU XJ);have dn:=Z0 x2.hA 10 _ rfl;have dp:=Z0 x2.hS 1 _ rfl;have dt:=Zz x2.hS 1;have bg:=x2.sf (aw:=#[Y 1,Y (Zs g nm.s 4).pl,af,Y 0,Y 0,af,Y 0,Y 0,af,af]) 1 (Y (Zs g nm.s 4).pl) rfl)|(go_at_call 154;refine(GF _ _).mono ?_;rw[aR.out];rintro e w' ⟨rfl,Zf⟩;subst w'))
  have xE:=bQ;generalize (w4.setCell (O w1.heap.size 4) (Y (ZW M)))=wj at xE⊢;have m2:=xE.ck.c2;have mf:=xE.ck.f2;have mlt:=xE.ck.lt;have c0:=Z0 xE.hS 0 _ rfl;have c1:=Z0 xE.hS 1 _ rfl;have c2:=Z0 xE.hS 2 _ rfl;have c3:=Z0 xE.hS 3 _ rfl;have c4:=Z0 xE.hS 4 _ rfl;have c5:=Z0 xE.hS 5 _ rfl;have c6:=Z0 xE.hS 6 _ rfl;have c7:=Z0 xE.hS 7 _ rfl;have c8:=Z0 xE.hS 8 _ rfl;have c9:=Z0 xE.hS 9 _ rfl;have blt:=xE.lt;have av:=Xw.kept xE.gr (X1 Xw Wu);have YD:=ZQ.mk ((av.kept ((di wj (.cells #[Y 1,Y (Zs g nm.s 4).pl,.slice aH aJ aO,Y (Wc (Z6 rel)),Y (ZW M),af,Y 0,Y 0,af,af] 99) none).trans (ZG _ none)) (XY _)));have YF:=ZQ.mk (World.news_of_block (w:=(wj.alloc (.cells #[Y 1,Y (Zs g nm.s 4).pl,.slice aH aJ aO,Y (Wc (Z6 rel)),Y (ZW M),af,Y 0,Y 0,af,af] 99)).drew) (cs:=#[Y 1,Y (Zs g nm.s 4).pl,.slice aH aJ aO,Y (Wc (Z6 rel)),Y (ZW M),af,Y 0,Y 0,af,af]) (t:=99) (fr:=(0,0)) (gp wj _));have WK:Hid (∀wA,(wj.alloc (.cells #[Y 1,Y (Zs g nm.s 4).pl,.slice aH aJ aO,Y (Wc (Z6 rel)),Y (ZW M),af,Y 0,Y 0,af,af] 99)).drew.grownBy wA (Value.slice ca m cc).ownBlock->wA.frozen? (O bc 2)=false/\ak wA bc 2 (.slice ca m cc)):=λwA z=>by
   exact j4
  have bb:B<=wj.heap.size:=rF;go_region_law ((refine step_append_lies _ p8 _ _ 74 p8 B 99 i0 (.agg #[Y 0,Y 0,af,Y 0,Y 0,af,Y 0,Y 0,af,af]) 10 144 underlying74 Y8 Ze Zq Zn rfl pF (.slice ca m cc) m xs p8 YD.get (ah wj.heap.size) 1 1 [Y 1,Y (Zs g nm.s 4).pl,.slice aH aJ aO,Y (Wc (Z6 rel)),Y (ZW M),af,Y 0,Y 0,af,af] p8 rfl YF.get (Gx _ _ _ _ _ _ _ _ _ _ _ _ _ _ _ _ _ _) pF pK J pI _ rfl ?_;intro gA XC wA YT Zo XL Xq;obtain⟨q1,q2⟩:=WK.out wA Zo))
  all_goals have R:=Gw xE Wu RN Xw ⟨⟨1,(Zs g nm.s 4).pl,l.map (λt=>((Zs g t.name.s 4).pl,Vv t)),Wc (Z6 rel),ZW M,[],0,0,[],[]⟩,.slice aH aJ aO,af,af,af⟩ ⟨(xE.rw _ (dC ..)).2,ed _ _ _ _,ed _ _ _ _,ed _ _ _ _⟩ YT Zo
  all_goals clear YD YF WK YT Zo XL Xq
  all_goals go_wp2
  all_goals go_end0
  all_goals exact R
end
section
open Go.RowKit
variable {w:A}{bc bm n:Nat}{g:aA->Th}{vV vC:aF}{st:Zv}
theorem afl (B m:Nat)(xs:ay)(ca:ax)(cc:Nat)(h:Zc w bc bm n (λs=>Zj (g s)) vV (.slice ca m cc) st)(Xw:w.ownsRow B 99 10 (.slice ca m cc) m xs)(Wu:bc<B)(RN:bm<B)(Vn:B<=w.heap.size)(hm:m<=3000)(hv:Sk g)(kw nm rel P Q:ZY)(ln:az)(bF:w.ownsRow B 3 1 (Zs g nm.s 5).v ln.length (ln.flatMap QE))(numbers:List ZY)(ZA:List XU)(lits:List Ud)(v1 vu vt vl:aF)(gr cap:Nat)(hR:YR w v1 gr cap U6 [P,Q])(bq:gr≠bc)(bn:YI nm)(b5:YI P)(cy:YI Q)(I:QZ (Z6 kw)=2):aq 123 #[ai bc,.agg (Xs ⟨kw,nm,[P,Q],numbers,ZA,rel,lits⟩ v1 vu vt vl)] w (NP w bc bm n B m g vV (.slice ca m cc) (ZE ((g Q.s).so != 4) 4 Q.line (ZE ((g P.s).so != 4) 4 P.line (ZE ((g nm.s).so != 5) 4 nm.line (ZE (decide ((16:Int)<=m)) 6 kw.line st)))) xs ⟨2,0,[],0,0,ln,(Zs g P.s 4).pl,(Zs g Q.s 4).pl,[],[]⟩):=by
 obtain⟨i0,Y8,Ze,Zq,Zn⟩:=iE Gy;have HC:Hid (Zc w bc bm n (λs=>Zj (g s)) vV (.slice ca m cc) st):=h
 have ZR:=h.lt;have aI:=h.Ya;have V7:=h.c2;have aR:Hid (QZ (Z6 kw)=2):=I;obtain⟨vC,bV⟩:∃v,v=Value.slice ca m cc:=⟨_,rfl⟩;have cf:=λa b c d e W=>(B0 a b c d e W).2.2
 have NS:∃a m c,(Zs g nm.s 5).v=.slice a m c:=by
  exact nx
 obtain⟨fa,fm,fc,NS⟩:=NS;obtain⟨Fn,bB⟩:∃anW,anW=Zs g nm.s 5:=⟨_,rfl⟩;rw[<-bB]at NS bF;rw[NS]at bF;have Kq:Hid (∀r∈[(⟨3,1,.slice fa fm fc,ln.length,ln.flatMap QE⟩:Er)],r.e≠99/\w.ownsRow B r.e r.s r.v r.n r.xs):=λr hr=>by
  simp only[gH,eQ,iM]at hr;subst hr;exact⟨by show 3≠99;decide,bF⟩
 clear bF;obtain rfl:=hR.is;have K1:=ZQ.mk (λ{W:A} (hW:Zc W bc bm n (λs=>Zj (g s)) vV (.slice ca m cc) st)=>NT hW kw m 16)
 generalize aa:ZE (decide ((16:Int)<=m)) 6 kw.line st=S1 at *;have K2:=ZQ.mk (λ{W:A} (hW:Zc W bc bm n (λs=>Zj (g s)) vV (.slice ca m cc) S1)=>BZ hW nm bn.1 5 (hv nm.s))
 rw[<-bB]at K2;generalize YH:ZE ((g nm.s).so != 5) 4 nm.line S1=S2 at *;have K3:=ZQ.mk (λ{W:A} (hW:Zc W bc bm n (λs=>Zj (g s)) vV (.slice ca m cc) S2)=>Eu hW P b5.1 hv)
 generalize bf:ZE ((g P.s).so != 4) 4 P.line S2=S3 at *;have K4:=ZQ.mk (λ{W:A} (hW:Zc W bc bm n (λs=>Zj (g s)) vV (.slice ca m cc) S3)=>Eu hW Q cy.1 hv)
 generalize bt:ZE ((g Q.s).so != 4) 4 Q.line S3=S4 at *;unfold XM at K1 K2 K3 K4;unfold Xs;simp only;clear h I;go_enter func123,ntmps123;go_wp2;go_region_law (go_simp;go_at_call 149;refine(K1.get (HC.out.alloc _).drew).mono ?_;rintro e w1 ⟨rfl,ZZ,Y1⟩;have x1:=GA ZR aI Wu (R:=[⟨3,1,.slice fa fm fc,ln.length,ln.flatMap QE⟩]) Kq.out ZZ Y1 #[Y 2,Y 0,af,Y 0,Y 0,af,Y 0,Y 0,af,af];have YB:w.heap.size<w1.heap.size:=x1.lo;have bT:w.heap.size≠w1.heap.size:=J;have bJ:w1.heap.size≠w.heap.size:=J;have Za:=XX (gp w _) pG ((ZG _ (some bc)).trans ZZ) pI;have ba:=Z0 Za 0 _ rfl;have bX:=Z0 Za 4 _ rfl;have bY:=Z0 Za 5 _ rfl;have bZ:=Z0 Za 6 _ rfl;have b6:=Z0 Za 7 _ rfl)
 all_goals
  go_wp2_with (first|(go_at_call 159;refine(K4.get bD.ck).mono ?_;rintro e w4 ⟨rfl,Xr,a7⟩;have x4:=(bD.UR Xr a7);have dv:=Z0 x4.hS 7 _ rfl;have dw:=Zz x4.hS 7;have cA:=x4.sf (aw:=#[Y 2,Y 0,af,Y 0,Y 0,.slice fa fm fc,Y (Zs g P.s 4).pl,Y (Zs g Q.s 4).pl,af,af]) 7 (Y (Zs g Q.s 4).pl) rfl)|(go_at_call 159;refine(K3.get bE.ck).mono ?_;rintro e w3 ⟨rfl,ZJ,aL⟩;have x3:=(bE.UR ZJ aL);have dx:=Z0 x3.hA 8 _ rfl;have dy:=Z0 x3.hS 6 _ rfl;have dz:=Zz x3.hS 6;have bD:=x3.sf (aw:=#[Y 2,Y 0,af,Y 0,Y 0,.slice fa fm fc,Y (Zs g P.s 4).pl,Y 0,af,af]) 6 (Y (Zs g P.s 4).pl) rfl;have cj:=(hR.kept x3.gr p7).row 4 _ rfl;have cm:=(hR.kept x3.gr p7).row 5 _ rfl;have cn:=(hR.kept x3.gr p7).row 6 _ rfl;have cp:=(hR.kept x3.gr p7).row 7 _ rfl)|(go_at_call 158;refine(K2.get x1.ck).mono ?_;simp only[show Zj Fn=.agg #[Y Fn.so,Y Fn.pl,Y Fn.lo,Y Fn.hi,Fn.v] from rfl,NS];rintro e w2 ⟨rfl,ZU,XJ⟩;have x2:=(x1.UR ZU XJ);have dA:=Z0 x2.hA 8 _ rfl;have dB:=Z0 x2.hS 5 _ rfl;have dD:=Zz x2.hS 5;have bE:=x2.sf (aw:=#[Y 2,Y 0,af,Y 0,Y 0,.slice fa fm fc,Y 0,Y 0,af,af]) 5 (.slice fa fm fc) rfl;have bO:=(hR.kept x2.gr p7).row 0 _ rfl;have bP:=(hR.kept x2.gr p7).row 1 _ rfl;have bR:=(hR.kept x2.gr p7).row 2 _ rfl;have bU:=(hR.kept x2.gr p7).row 3 _ rfl;have dE:=(hR.kept x2.gr p7).row 4 _ rfl;have dF:=(hR.kept x2.gr p7).row 5 _ rfl;have dG:=(hR.kept x2.gr p7).row 6 _ rfl;have dI:=(hR.kept x2.gr p7).row 7 _ rfl;have bM:gr≠w1.heap.size:=(by have:=hR.lt;omega))|(go_at_call 154;refine(GF _ _).mono ?_;rw[aR.out];rintro e w' ⟨rfl,Zf⟩;subst w'))
  have xE:=cA;generalize (w4.setCell (O w1.heap.size 7) (Y (Zs g Q.s 4).pl))=wj at xE⊢;have m2:=xE.ck.c2;have mf:=xE.ck.f2;have mlt:=xE.ck.lt;have c0:=Z0 xE.hS 0 _ rfl;have c1:=Z0 xE.hS 1 _ rfl;have c2:=Z0 xE.hS 2 _ rfl;have c3:=Z0 xE.hS 3 _ rfl;have c4:=Z0 xE.hS 4 _ rfl;have c5:=Z0 xE.hS 5 _ rfl;have c6:=Z0 xE.hS 6 _ rfl;have c7:=Z0 xE.hS 7 _ rfl;have c8:=Z0 xE.hS 8 _ rfl;have c9:=Z0 xE.hS 9 _ rfl;have blt:=xE.lt;have av:=Xw.kept xE.gr (X1 Xw Wu);have YD:=ZQ.mk ((av.kept ((di wj (.cells #[Y 2,Y 0,af,Y 0,Y 0,.slice fa fm fc,Y (Zs g P.s 4).pl,Y (Zs g Q.s 4).pl,af,af] 99) none).trans (ZG _ none)) (XY _)));have YF:=ZQ.mk (World.news_of_block (w:=(wj.alloc (.cells #[Y 2,Y 0,af,Y 0,Y 0,.slice fa fm fc,Y (Zs g P.s 4).pl,Y (Zs g Q.s 4).pl,af,af] 99)).drew) (cs:=#[Y 2,Y 0,af,Y 0,Y 0,.slice fa fm fc,Y (Zs g P.s 4).pl,Y (Zs g Q.s 4).pl,af,af]) (t:=99) (fr:=(0,0)) (gp wj _));have WK:Hid (∀wA,(wj.alloc (.cells #[Y 2,Y 0,af,Y 0,Y 0,.slice fa fm fc,Y (Zs g P.s 4).pl,Y (Zs g Q.s 4).pl,af,af] 99)).drew.grownBy wA (Value.slice ca m cc).ownBlock->wA.frozen? (O bc 2)=false/\ak wA bc 2 (.slice ca m cc)):=λwA z=>by
   exact j4
  have bb:B<=wj.heap.size:=rF;go_region_law ((refine step_append_lies _ p8 _ _ 74 p8 B 99 i0 (.agg #[Y 0,Y 0,af,Y 0,Y 0,af,Y 0,Y 0,af,af]) 10 144 underlying74 Y8 Ze Zq Zn rfl pF (.slice ca m cc) m xs p8 YD.get (ah wj.heap.size) 1 1 [Y 2,Y 0,af,Y 0,Y 0,.slice fa fm fc,Y (Zs g P.s 4).pl,Y (Zs g Q.s 4).pl,af,af] p8 rfl YF.get (Gx _ _ _ _ _ _ _ _ _ _ _ _ _ _ _ _ _ _) pF pK J pI _ rfl ?_;intro gA XC wA YT Zo XL Xq;obtain⟨q1,q2⟩:=WK.out wA Zo))
  all_goals have R:=Gw xE Wu RN Xw ⟨⟨2,0,[],0,0,ln,(Zs g P.s 4).pl,(Zs g Q.s 4).pl,[],[]⟩,af,.slice fa fm fc,af,af⟩ ⟨ed _ _ _ _,(xE.rw _ (dC ..)).2,ed _ _ _ _,ed _ _ _ _⟩ YT Zo
  all_goals clear YD YF WK YT Zo XL Xq
  all_goals go_wp2
  all_goals go_end0
  all_goals exact R
end
section
open Go.RowKit
variable {w:A}{bc:Nat}
theorem afm (P:Ending->A->Prop)(HE:∀e w',P e w'->e=.returned (.tuple #[]))(s:Xl)(na:ax)(nm nc:Nat)(ua:ax)(um uc:Nat)(ta:ax)(tm tc:Nat)(la:ax)(lm lc:Nat)(h4:Z6 s.kw=4->aq 121 #[ai bc,.agg (Xs s (.slice na nm nc) (.slice ua um uc) (.slice ta tm tc) (.slice la lm lc))] (w.alloc (.cells (Xs s (.slice na nm nc) (.slice ua um uc) (.slice ta tm tc) (.slice la lm lc)) 137)) P)(h5:Z6 s.kw=5->aq 122 #[ai bc,.agg (Xs s (.slice na nm nc) (.slice ua um uc) (.slice ta tm tc) (.slice la lm lc))] (w.alloc (.cells (Xs s (.slice na nm nc) (.slice ua um uc) (.slice ta tm tc) (.slice la lm lc)) 137)) P)(h6:Z6 s.kw≠4->Z6 s.kw≠5->aq 123 #[ai bc,.agg (Xs s (.slice na nm nc) (.slice ua um uc) (.slice ta tm tc) (.slice la lm lc))] (w.alloc (.cells (Xs s (.slice na nm nc) (.slice ua um uc) (.slice ta tm tc) (.slice la lm lc)) 137)) P):aq 70 #[ai bc,.agg (Xs s (.slice na nm nc) (.slice ua um uc) (.slice ta tm tc) (.slice la lm lc))] w P:=by
 have aT:=ZQ.mk HE;by_cases c4:Z6 s.kw=4
 ·have K:=ZQ.mk (h4 c4);have e4:(Z6 s.kw==4)=true:=by simpa using c4
  unfold Xs at *;clear h4 h5 h6 c4 HE;go_enter func70,ntmps70;go_wp2_with (go_at_call 121;refine K.get.mono ?_;intro e w1 hP;have hq:=aT.get e w1 hP;subst hq);go_end0;exact hP
 ·have e4:(Z6 s.kw==4)=false:=by simpa using c4
  by_cases c5:Z6 s.kw=5
  ·have K:=ZQ.mk (h5 c5);have e5:(Z6 s.kw==5)=true:=by simpa using c5
   unfold Xs at *;clear h4 h5 h6 c4 c5 HE;go_enter func70,ntmps70;go_wp2_with (go_at_call 122;refine K.get.mono ?_;intro e w1 hP;have hq:=aT.get e w1 hP;subst hq);go_end0;exact hP
  ·have K:=ZQ.mk (h6 c4 c5);have e5:(Z6 s.kw==5)=false:=by simpa using c5
   unfold Xs at *;clear h4 h5 h6 c4 c5 HE;go_enter func70,ntmps70;go_wp2_with (go_at_call 123;refine K.get.mono ?_;intro e w1 hP;have hq:=aT.get e w1 hP;subst hq);go_end0;exact hP
end
section
open Go.RowKit
structure TI where
 g:aA->Th
 vars:List Xx
 m:Nat
 st:Zv
 cons:List Yz
 ls:aA->az
def Sh (g:aA->Th):aA->Th:=λs=>{g s with v:=af}
def NN (g:aA->Th)(t:ZY)(st:Zv):Zv:=ZE (SY (Zs g t.s 4)) 7 t.line (ZE ((g t.s).so != 4) 4 t.line st)
def M7 (g:aA->Th)(s:Xl)(st:Zv):Zv:=match s.numbers with
 |[M]=>ZE (Yg (ZW M) 1000000) 5 M.line (X9 (TA g) 0 s.ZA st)
 |_=>st
def Vf (g:aA->Th)(s:Xl)(st:Zv):Zv:=
 if Z6 s.kw=7 then M7 g s (NN g s.name st)
 else if Z6 s.kw=8 then(match s.names with
  |[P,Q]=>ZE ((g Q.s).so != 4) 4 Q.line (ZE ((g P.s).so != 4) 4 P.line (ZE ((g s.name.s).so != 5) 4 s.name.line st))
  |_=>st)
 else if Z6 s.kw=9 then X9 (QT g) 0 s.names st
 else if Z6 s.kw=10 then X9 (RO g) 0 s.lits st
 else M7 g s st
def QD (ls:aA->az)(s:aA)(l:az):aA->az:=λs'=>if s'=s then l else ls s'
def BR:Yz:=⟨0,0,[],0,0,[],0,0,[],[]⟩
def Ug (g:aA->Th)(ls:aA->az)(s:Xl):Yz:=
 if Z6 s.kw=7 then(match s.numbers with
  |[M]=>⟨1,(Zs g s.name.s 4).pl,s.ZA.map (λt=>((Zs g t.name.s 4).pl,Vv t)),Wc (Z6 s.rel),ZW M,[],0,0,[],[]⟩
  |_=>BR)
 else if Z6 s.kw=8 then(match s.names with
  |[P,Q]=>⟨2,0,[],0,0,if (g s.name.s).so=5 then ls s.name.s else[],(Zs g P.s 4).pl,(Zs g Q.s 4).pl,[],[]⟩
  |_=>BR)
 else if Z6 s.kw=9 then⟨3,0,[],0,0,[],0,0,s.names.map (λt=>(Zs g t.s 4).pl),[]⟩
 else if Z6 s.kw=10 then⟨4,0,[],0,0,[],0,0,[],s.lits.map (λt=>((Zs g t.name.s 4).pl,if Z6 t.first=22 then 0 else 1))⟩
 else(match s.numbers with
  |[M]=>⟨0,0,s.ZA.map (λt=>((Zs g t.name.s 4).pl,Vv t)),Wc (Z6 s.rel),ZW M,[],0,0,[],[]⟩
  |_=>BR)
def Xv (s:Xl)(q:TI):TI:=
 if Z6 s.kw=4 then(match s.numbers with
  |[lo,hi]=>⟨VF q.g s.name.s ⟨4,q.vars.length,ZW lo,ZW hi,af⟩,q.vars++[⟨s.name.s,ZW lo,ZW hi⟩],q.m,OG q.g q.vars.length s.name lo hi q.st,q.cons,QD q.ls s.name.s []⟩
  |_=>q)
 else if Z6 s.kw=5 then⟨VF q.g s.name.s ⟨5,0,0,0,af⟩,q.vars,q.m,X9 QF 0 s.numbers (ZE ((q.g s.name.s).so != 0) 4 s.name.line q.st),q.cons,QD q.ls s.name.s (s.numbers.map ZW)⟩
 else⟨q.g,q.vars,q.m+1,Vf q.g s (ZE (decide ((16:Int)<=q.m)) 6 s.kw.line q.st),q.cons++[Ug q.g q.ls s],q.ls⟩
def XT:List Xl->TI->TI
 |[],q=>q
 |s::ss,q=>if (Xv s q).st.1=0 then XT ss (Xv s q)else Xv s q
def q0:TI:=⟨λ_=>IV,[],0,(0,0),[],λ_=>[]⟩
theorem xy (g:aA->Th)(s:aA)(k:Int):SY (Zs (Sh g) s k)=SY (Zs g s k):=by
 unfold Zs Sh SY;simp only;split<;>rfl
theorem afn (g:aA->Th):RO (Sh g)=RO g:=by
 funext k t st;unfold RO;rw[xy];rfl
theorem xx (g:aA->Th)(s:aA)(t:Th):Sh (VF g s t)=VF (Sh g) s {t with v:=af}:=by
 funext s';unfold Sh VF;split<;>rfl
theorem afo (g:aA->Th)(s:Xl)(st:Zv):Vf (Sh g) s st=Vf g s st:=by
 unfold Vf NN;rw[xy,afn];rfl
theorem afp (g:aA->Th)(s:aA)(k:Int):(Zs (Sh g) s k).pl=(Zs g s k).pl:=by
 unfold Zs Sh;simp only;split<;>rfl
theorem afq (g:aA->Th)(ls:aA->az)(s:Xl):Ug (Sh g) ls s=Ug g ls s:=by
 unfold Ug;simp only[afp];rfl
structure NM (s:Xl):Prop where
 nm:YI s.name
 Xb:∀a∈s.numbers,YI a
 names:∀a∈s.names,YI a
 ZA:∀a∈s.ZA,YI a.first/\YI a.name
 lits:∀a∈s.lits,YI a.first/\YI a.name
 l1:s.numbers.length<=3000
 l2:s.names.length<=3000
 l3:s.ZA.length<=3000
 l4:s.lits.length<=3000
 s4:Z6 s.kw=4->∃lo hi,s.numbers=[lo,hi]
 s5:Z6 s.kw=5->s.numbers≠[]
 s6:Z6 s.kw=6\/Z6 s.kw=7->s.ZA≠[]/\∃M,s.numbers=[M]
 s8:Z6 s.kw=8->∃P Q,s.names=[P,Q]
 s9:Z6 s.kw=9->s.names≠[]
 BQ:Z6 s.kw=10->s.lits≠[]
 MO:Z6 s.kw=4\/Z6 s.kw=5\/Z6 s.kw=6\/Z6 s.kw=7\/Z6 s.kw=8\/Z6 s.kw=9\/Z6 s.kw=10
def NL {α:Type}(w:A)(B bc bm:Nat)(v:aF)(cell:α->ay)(l:List α):Prop:=
 (∃a m c,v=.slice a m c)/\(l≠[]->∃gr cap,YR w v gr cap cell l/\gr<B/\gr≠bc/\gr≠bm)
structure OD (w:A)(B bc bm:Nat)(x:WU):Prop where
 n:NL w B bc bm x.vn U6 x.s.names
 u:NL w B bc bm x.vu U6 x.s.numbers
 t:NL w B bc bm x.vt QV x.s.ZA
 l:NL w B bc bm x.vl OM x.s.lits
structure Fr (B bc bm:Nat)(w w':A):Prop where
 os:w'.os=w.os
 tape:w'.tape=w.tape
 output:w'.output=w.output
 size:w.heap.size<=w'.heap.size
 block:∀i,i<B->i≠bc->i≠bm->w'.heap[i]?=w.heap[i]?
theorem Fr.trans {B bc bm:Nat}{a b c:A}(h:Fr B bc bm a b)(k:Fr B bc bm b c):Fr B bc bm a c:=
 ⟨k.os.trans h.os,k.tape.trans h.tape,k.output.trans h.output,gZ h.size k.size,λi F h2 h3=>(k.block i F h2 h3).trans (h.block i F h2 h3)⟩
theorem Fr.alloc {B bc bm:Nat}{a b:A}(h:Fr B bc bm a b)(hB:B<=b.heap.size)(o:Obj):Fr B bc bm a (b.alloc o):=
 ⟨h.os,h.tape,h.output,by have:=h.size;simp;omega,λi F h2 h3=>(gq b o J).trans (h.block i F h2 h3)⟩
theorem Fr.refl (B bc bm:Nat)(w:A):Fr B bc bm w w:=⟨rfl,rfl,rfl,iw _,λ_ _ _ _=>rfl⟩
theorem Fr.BP {B bc bm:Nat}{S:List Nat}{a b:A}(h:Y9 S a b)(hB:B<=a.heap.size)(hS:∀k∈S,k=bc\/k=bm\/B<=k):Fr B bc bm a b:=
 ⟨h.os,h.tape,h.output,h.size,λi F h2 h3=>h.block i J (λq=>by rcases hS i q with e|e|e;exact h2 e;exact h3 e;omega)⟩
theorem NL.fr {α:Type}{w w':A}{B bc bm:Nat}{v:aF}{cell:α->ay}{l:List α}(h:NL w B bc bm v cell l)(hf:Fr B bc bm w w'):NL w' B bc bm v cell l:=
 ⟨h.1,λhl=>by
  obtain⟨gr,cap,hr,F,h2,h3⟩:=h.2 hl;exact⟨gr,cap,⟨hr.is,λj u hu=>(cJ (a:=(O gr j)) (hf.block gr F h2 h3)).trans (hr.row j u hu),dH hr.lt hf.size⟩,F,h2,h3⟩⟩
theorem OD.fr {w w':A}{B bc bm:Nat}{x:WU}(h:OD w B bc bm x)(hf:Fr B bc bm w w'):OD w' B bc bm x:=⟨h.n.fr hf,h.u.fr hf,h.t.fr hf,h.l.fr hf⟩
structure QS (w:A)(B:Nat)(g:aA->Th)(cons:List Yz)(ls:aA->az)(cs:List X7):Prop where
 row:cs.map (·.c)=cons
 at_:∀x∈cs,NQ w B x
 ls:∀s,w.ownsRow B 3 1 (g s).v (ls s).length ((ls s).flatMap QE)
theorem QS.but {w w':A}{B:Nat}{g:aA->Th}{cons:List Yz}{ls:aA->az}{cs:List X7}{S:List Nat}(h:QS w B g cons ls cs)(hb:Y9 S w w')(hS:∀k,k∈S->k<B\/∃c e,w.heap[k]?=some (.cells c e (0,0))/\(e=99\/e=78)):QS w' B g cons ls cs:=
 ⟨h.row,λx hx=>(h.at_ x hx).but hb hS,λs=>(NQ.but (x:=⟨⟨0,0,[],0,0,ls s,0,0,[],[]⟩,af,(g s).v,af,af⟩) ⟨ed _ _ _ _,h.ls s,ed _ _ _ _,ed _ _ _ _⟩ hb hS).l⟩
theorem QS.grown {w w':A}{B:Nat}{g:aA->Th}{cons:List Yz}{ls:aA->az}{cs:List X7}(h:QS w B g cons ls cs)(z:aB w w'):QS w' B g cons ls cs:=
 h.but (S:=[]) ((Y9.refl [] w).grown z (λk e=>pL)) (λk I=>vh)
theorem QS.alloc {w:A}{B:Nat}{g:aA->Th}{cons:List Yz}{ls:aA->az}{cs:List X7}(h:QS w B g cons ls cs)(o:Obj):QS (w.alloc o) B g cons ls cs:=h.grown (di w o none)
def SC (w:A)(bc bm B k:Nat)(q:TI):Prop:=
 ∃(n:Nat) (g:aA->Th) (vV vC:aF) (cs:List X7),Zc w bc bm n (λs=>Zj (g s)) vV vC q.st/\Sh g=q.g/\Sk g/\w.ownsRow B 78 3 vV q.vars.length (q.vars.flatMap Rb)/\w.ownsRow B 99 10 vC q.m (cs.flatMap X7.cells)/\QS w B g q.cons q.ls cs/\
  n<=k/\q.vars.length<=k/\q.m<=k/\bc<B/\bm<B/\B<=w.heap.size
theorem Wt {w:A}{B n s:Nat}{e:TypeId}{v:aF}{xs:ay}(h:w.ownsRow B e s v n xs):∃a c,v=.slice a n c:=by
 rcases h.2 with⟨h,h0⟩|⟨g,cap,cur,h,_⟩
 ·exact⟨none,0,by rw[h,h0]⟩
 ·exact⟨_,_,h⟩
theorem Sk.put {g:aA->Th}(h:Sk g)(s:aA)(t:Th)(ht:∃a m c,t.v=.slice a m c):Sk (VF g s t):=λs'=>by
 unfold VF;split
 ·exact ht
 ·exact h s'
end
section
open Go.RowKit
theorem BO {w:A}{B e s n b:Nat}{v:aF}{xs:ay}(h:w.ownsRow B e s v n xs)(hb:v.ownBlock=some b):∃cur,w.heap[b]?=some (.cells cur e (0,0)):=by
 rcases h.2 with⟨h,_⟩|⟨g,cap,cur,h,_,h3,_⟩
 ·rw[h]at hb;cases hb
 ·rw[h]at hb;have:g=b:=fO hb;subst this;exact⟨cur,h3⟩
theorem Gv {w w':A}{B e s n:Nat}{v:aF}{xs:ay}{S:List Nat}(h:w.ownsRow B e s v n xs)(hb:Y9 S w w')(hn:∀b,v.ownBlock=some b->b∉S):w'.ownsRow B e s v n xs:=by
 refine⟨h.1,?_⟩;rcases h.2 with h2|⟨g,cap,cur,F,hB,h3,h4⟩
 ·exact .inl h2
 ·refine .inr ⟨g,cap,cur,F,hB,?_,h4⟩;rw[hb.block g (aM.1 h3).1 (hn g uZ)];exact h3
theorem xw {w:A}{B e e' s s' n n' bc bm:Nat}{v v':aF}{xs xs':ay}(h:w.ownsRow B e s v n xs)(h':w.ownsRow B e' s' v' n' xs')(he:e≠e')(hc:bc<B)(hm:bm<B)(b:Nat)(hb:v.ownBlock=some b):b∉[bc,bm]++v'.ownBlock.toList:=by
 have hB:=(h.lt b hb).1;obtain⟨cur,h3⟩:=BO h hb;intro q;rcases fE.1 q with q|q
 ·simp at q;omega
 ·have q2:v'.ownBlock=some b:=qE;obtain⟨IP,Pj⟩:=BO h' q2;rw[h3]at Pj
  cases Pj;exact he rfl
theorem xv {w:A}{B e s n bc bm:Nat}{v:aF}{xs:ay}(h:w.ownsRow B e s v n xs)(hc:bc<B)(hm:bm<B)(b:Nat)(hb:v.ownBlock=some b):b∉[bc,bm]:=by
 have hB:=(h.lt b hb).1;intro q;simp at q;omega
theorem xu {w:A}{B e s n bc bm:Nat}{v:aF}{xs:ay}(h:w.ownsRow B e s v n xs):∀k∈[bc,bm]++v.ownBlock.toList,k=bc\/k=bm\/B<=k:=by
 intro k I;rcases fE.1 I with q|q
 ·simp at q;rcases q with q|q
  ·exact .inl q
  ·exact .inr (.inl q)
 ·exact .inr (.inr ((h.lt k qE).1))
theorem xt {w:A}{B e s n bc bm:Nat}{v:aF}{xs:ay}(h:w.ownsRow B e s v n xs)(he:e=99\/e=78)(hc:bc<B)(hm:bm<B):∀k,k∈[bc,bm]++v.ownBlock.toList->k<B\/∃c e,w.heap[k]?=some (.cells c e (0,0))/\(e=99\/e=78):=by
 intro k I;rcases fE.1 I with q|q
 ·simp at q;exact .inl J
 ·obtain⟨cur,h3⟩:=BO h qE;exact .inr ⟨cur,e,h3,he⟩
theorem NP.done {w W:A}{bc bm n B m k:Nat}{g:aA->Th}{vV vC:aF}{vars:List Xx}{S:Zv}{cs:List X7}{cons:List Yz}{ls:aA->az}{C:Yz}{e:Ending}{w':A}(hf:Fr B bc bm w W)(h:NP W bc bm n B m g vV vC S (cs.flatMap X7.cells) C e w')(hv:Sk g)(aQ:W.ownsRow B 78 3 vV vars.length (vars.flatMap Rb))(Xw:W.ownsRow B 99 10 vC m (cs.flatMap X7.cells))(hD:QS W B g cons ls cs)(F:n<=k)(h2:vars.length<=k)(h3:m<=k)(hc:bc<B)(hm:bm<B)(hB:B<=W.heap.size):e=.returned (.tuple #[])/\SC w' bc bm B (k+1) ⟨Sh g,vars,m+1,S,cons++[C],ls⟩/\Fr B bc bm w w':=by
 obtain⟨rfl,v,x,rfl,hx,ZO,aP,hC⟩:=h;have bk:Y9 ([bc,bm]++vC.ownBlock.toList) W w':=aP.mono (λk I=>by
  rcases fE.1 I with q|q
  ·simp only[gH,eQ,iM]at q;exact fE.2 (.inl (by simp[q]))
  ·exact fE.2 (.inr q))
 have fr:=Fr.BP (bc:=bc) (bm:=bm) bk hB (xu Xw);have bo:=hD.but bk (xt Xw (.inl rfl) hc hm);refine⟨rfl,⟨n,g,vV,v,cs++[x],hC,rfl,hv,Gv aQ bk (xw aQ Xw pF hc hm),?_,⟨by rw[fD,bo.row];rfl,λy hy=> ?_,bo.ls⟩,J,by simp only;omega,by simp only;omega,hc,hm,?_⟩,hf.trans fr⟩
 ·rw[cU];simpa using ZO
 ·rcases fE.1 hy with q|q
  ·exact bo.at_ y q
  ·simp only[gH,eQ,iM]at q;subst q;exact hx
 ·have:=fr.size;omega
theorem afr {w:A}{B:Nat}{g:aA->Th}{cons:List Yz}{ls:aA->az}{cs:List X7}(h:QS w B g cons ls cs)(s:aA):w.ownsRow B 3 1 (Zs g s 5).v (if (g s).so=5 then ls s else[]).length ((if (g s).so=5 then ls s else[]).flatMap QE):=by
 unfold Zs;split
 ·exact h.ls s
 ·exact ed _ _ _ _
theorem QS.put {w:A}{B:Nat}{g:aA->Th}{cons:List Yz}{ls:aA->az}{cs:List X7}(h:QS w B g cons ls cs)(s:aA){t:Th}{l:az}(hl:w.ownsRow B 3 1 t.v l.length (l.flatMap QE)):QS w B (VF g s t) cons (QD ls s l) cs:=
 ⟨h.row,h.at_,λs'=>by
  unfold VF QD;split
  ·exact hl
  ·exact h.ls s'⟩
theorem afs {w:A}{bc bm B k:Nat}{q:TI}(h:SC w bc bm B k q)(I:k<=2500)(x:WU)(hx:OD w B bc bm x)(ho:NM x.s):aq 70 #[ai bc,.agg (Xs x.s x.vn x.vu x.vt x.vl)] w λe w'=>e=.returned (.tuple #[])/\SC w' bc bm B (k+1) (Xv x.s q)/\Fr B bc bm w w':=by
 obtain⟨n,g,vV,vC,cs,hC,eg,hv,aQ,Xw,hD,b1,b2,b3,hc,hm,hB⟩:=h;obtain⟨qg,vars,m,st,cons,ls⟩:=q;obtain⟨⟨kw,nm,names,numbers,ZA,rel,lits⟩,vn,vu,vt,vl⟩:=x;obtain⟨iN,iU,iT,iL⟩:=hx;obtain⟨aX,aY,bp,bG,cB,l1,l2,l3,l4,s4,s5,s6,s8,s9,BQ,MO⟩:=ho;simp only at *;subst eg;obtain⟨na,bu,nc,rfl⟩:=iN.1;obtain⟨ua,um,uc,rfl⟩:=iU.1;obtain⟨ta,tm,tc,rfl⟩:=iT.1;obtain⟨la,lm,lc,rfl⟩:=iL.1;have Yf:∀o,Fr B bc bm w (w.alloc o):=λo=>(Fr.refl B bc bm w).alloc hB o
 have aK:∀o,B<=(w.alloc o).heap.size:=λo=>by simp;omega
 refine afm _ (λe w' hP=>hP.1) ⟨kw,nm,names,numbers,ZA,rel,lits⟩ na bu nc ua um uc ta tm tc la lm lc ?_ ?_ ?_
 ·intro h4;simp only at h4;obtain⟨lo,hi,rfl⟩:=s4 h4;obtain⟨gr,cap,hR,g1,g2,g3⟩:=iU.2 pG;obtain⟨va,vc,rfl⟩:=Wt aQ;refine(afe B vars va vc (hC.alloc _) kw nm lo hi rel names ZA lits _ _ _ _ gr cap (hR.kept (di w _ none) pG) g2 g3 g1 hc hm (aK _) (aQ.alloc _) J aX (aY lo pG) (aY hi pG) J rfl rfl rfl).mono ?_;rintro e w' ⟨rfl,v,cC,aP,Z⟩;have fr:=Fr.BP (bc:=bc) (bm:=bm) aP (aK _) (xu aQ);have eq:Xv ⟨kw,nm,names,[lo,hi],ZA,rel,lits⟩ ⟨Sh g,vars,m,st,cons,ls⟩=⟨Sh (VF g nm.s ⟨4,vars.length,ZW lo,ZW hi,af⟩),vars++[⟨nm.s,ZW lo,ZW hi⟩],m,OG g vars.length nm lo hi st,cons,QD ls nm.s []⟩:=by
   unfold Xv;rw[iR h4,xx];rfl
  rw[eq];refine⟨rfl,⟨n+1,_,v,vC,cs,Z,rfl,hv.put _ _ ⟨_,_,_,rfl⟩,?_,Gv (Xw.alloc _) aP (xw Xw aQ pF hc hm),((hD.alloc _).but aP (xt (aQ.alloc _) (.inr rfl) hc hm)).put nm.s (ed _ _ _ _),J,by simp;omega,by simp only;omega,hc,hm,?_⟩,(Yf _).trans fr⟩
  ·rw[cU];simpa using cC
  ·have:=fr.size;have:=aK (.cells (Xs ⟨kw,nm,names,[lo,hi],ZA,rel,lits⟩ (.slice na bu nc) (.slice ua um uc) (.slice ta tm tc) (.slice la lm lc)) 137);omega
 ·intro h5;simp only at h5;obtain⟨gr,cap,hR,g1,g2,g3⟩:=iU.2 (s5 h5);refine(afb (hC.alloc _) ⟨kw,nm,names,numbers,ZA,rel,lits⟩ _ _ _ _ gr cap (hR.kept (di w _ none) pG) g2 g3 l1 aY aX J rfl rfl rfl).mono ?_;rintro e w' ⟨rfl,v,Gu,aP,Z⟩;have fr:=Fr.BP (bc:=bc) (bm:=bm) aP (aK _) (λk I=>by simp at I;rcases I with e|e;exact .inl e;exact .inr (.inl e))
  have eq:Xv ⟨kw,nm,names,numbers,ZA,rel,lits⟩ ⟨Sh g,vars,m,st,cons,ls⟩=⟨Sh (VF g nm.s ⟨5,0,0,0,v⟩),vars,m,X9 QF 0 numbers (ZE ((g nm.s).so != 0) 4 nm.line st),cons,QD ls nm.s (numbers.map ZW)⟩:=by
   unfold Xv;rw[iQ (by simp only;omega),iR h5,xx];rfl
  rw[eq];refine⟨rfl,⟨n+1,_,vV,vC,cs,Z,rfl,hv.put _ _ (Vd Gu),Gv (aQ.alloc _) aP (xv aQ hc hm),Gv (Xw.alloc _) aP (xv Xw hc hm),((hD.alloc _).but aP (λk I=>.inl uS)).put nm.s (Gz ZW (λ_=>rfl) Gu (aK _)),J,by simp only;omega,by simp only;omega,hc,hm,?_⟩,(Yf _).trans fr⟩
  have:=fr.size;have:=aK (.cells (Xs ⟨kw,nm,names,numbers,ZA,rel,lits⟩ (.slice na bu nc) (.slice ua um uc) (.slice ta tm tc) (.slice la lm lc)) 137);omega
 ·intro n4 n5;simp only at n4 n5;obtain⟨ca,cc,rfl⟩:=Wt Xw;have eq:Xv ⟨kw,nm,names,numbers,ZA,rel,lits⟩ ⟨Sh g,vars,m,st,cons,ls⟩=⟨Sh g,vars,m+1,Vf g ⟨kw,nm,names,numbers,ZA,rel,lits⟩ (ZE (decide ((16:Int)<=m)) 6 kw.line st),cons++[Ug g ls ⟨kw,nm,names,numbers,ZA,rel,lits⟩],ls⟩:=by
   unfold Xv;rw[iQ n4,iQ n5,afo,afq]
  rw[eq];have done:=λ{S:Zv} {C:Yz} {e:Ending} {w':A} {o:Obj} (hp:NP (w.alloc o) bc bm n B m g vV (.slice ca m cc) S (cs.flatMap X7.cells) C e w')=>NP.done (Yf o) hp hv (aQ.alloc o) (Xw.alloc o) (hD.alloc o) b1 b2 b3 hc hm (aK o)
  have rk:∀{α:Type} {v:aF} {gr cap:Nat} {cell:α->ay} {l:List α} {o:Obj},YR w v gr cap cell l->YR (w.alloc o) v gr cap cell l:=λ{α v gr cap cell l o} hr=>hr.kept (di w o none) pG
  rcases MO with e|e|e|e|e|e|e
  ·exact absurd e n4
  ·exact absurd e n5
  ·obtain⟨hT,M,rfl⟩:=s6 (.inl e);obtain⟨gr,cap,hR,g1,g2,g3⟩:=iT.2 hT;obtain⟨gu,cu,hU,u1,u2,u3⟩:=iU.2 pG;refine(afj B m _ ca cc (hC.alloc _) (Xw.alloc _) hc hm (aK _) J hv kw nm rel M names ZA lits _ _ _ _ gr cap gu cu (rk hR) g2 (rk hU) u2 l3 bG aX (aY M pG) ud).mono ?_;intro e' w' hp;have q:=done hp;have e2:Vf g ⟨kw,nm,names,[M],ZA,rel,lits⟩ (ZE (decide ((16:Int)<=m)) 6 kw.line st)=ZE (Yg (ZW M) 1000000) 5 M.line (X9 (TA g) 0 ZA (ZE (decide ((16:Int)<=m)) 6 kw.line st)):=by simp[Vf,M7,e]
   have e3:Ug g ls ⟨kw,nm,names,[M],ZA,rel,lits⟩=⟨0,0,ZA.map (λt=>((Zs g t.name.s 4).pl,Vv t)),Wc (Z6 rel),ZW M,[],0,0,[],[]⟩:=qV
   rw[e2,e3];exact q
  ·obtain⟨hT,M,rfl⟩:=s6 (.inr e);obtain⟨gr,cap,hR,g1,g2,g3⟩:=iT.2 hT;obtain⟨gu,cu,hU,u1,u2,u3⟩:=iU.2 pG;refine(afk B m _ ca cc (hC.alloc _) (Xw.alloc _) hc hm (aK _) J hv kw nm rel M names ZA lits _ _ _ _ gr cap gu cu (rk hR) g2 (rk hU) u2 l3 bG aX (aY M pG) ud).mono ?_;intro e' w' hp;have q:=done hp;have e2:Vf g ⟨kw,nm,names,[M],ZA,rel,lits⟩ (ZE (decide ((16:Int)<=m)) 6 kw.line st)=ZE (Yg (ZW M) 1000000) 5 M.line (X9 (TA g) 0 ZA (ZE (SY (Zs g nm.s 4)) 7 nm.line (ZE ((g nm.s).so != 4) 4 nm.line (ZE (decide ((16:Int)<=m)) 6 kw.line st)))):=by simp[Vf,M7,NN,e]
   have e3:Ug g ls ⟨kw,nm,names,[M],ZA,rel,lits⟩=⟨1,(Zs g nm.s 4).pl,ZA.map (λt=>((Zs g t.name.s 4).pl,Vv t)),Wc (Z6 rel),ZW M,[],0,0,[],[]⟩:=qV
   rw[e2,e3];exact q
  ·obtain⟨P,Q,rfl⟩:=s8 e;obtain⟨gr,cap,hR,g1,g2,g3⟩:=iN.2 pG;refine(afl B m _ ca cc (hC.alloc _) (Xw.alloc _) hc hm (aK _) J hv kw nm rel P Q _ (afr (hD.alloc _) nm.s) numbers ZA lits _ _ _ _ gr cap (rk hR) g2 aX (bp P pG) (bp Q pG) ud).mono ?_;intro e' w' hp;have q:=done hp;have e2:Vf g ⟨kw,nm,[P,Q],numbers,ZA,rel,lits⟩ (ZE (decide ((16:Int)<=m)) 6 kw.line st)=ZE ((g Q.s).so != 4) 4 Q.line (ZE ((g P.s).so != 4) 4 P.line (ZE ((g nm.s).so != 5) 4 nm.line (ZE (decide ((16:Int)<=m)) 6 kw.line st))):=by simp[Vf,e]
   have e3:Ug g ls ⟨kw,nm,[P,Q],numbers,ZA,rel,lits⟩=⟨2,0,[],0,0,if (g nm.s).so=5 then ls nm.s else[],(Zs g P.s 4).pl,(Zs g Q.s 4).pl,[],[]⟩:=qV
   rw[e2,e3];exact q
  ·obtain⟨gr,cap,hR,g1,g2,g3⟩:=iN.2 (s9 e);refine(afh B m _ ca cc (hC.alloc _) (Xw.alloc _) hc hm (aK _) J hv kw nm rel names numbers ZA lits _ _ _ _ gr cap (rk hR) g2 l2 bp ud).mono ?_;intro e' w' hp;have q:=done hp;have e2:Vf g ⟨kw,nm,names,numbers,ZA,rel,lits⟩ (ZE (decide ((16:Int)<=m)) 6 kw.line st)=X9 (QT g) 0 names (ZE (decide ((16:Int)<=m)) 6 kw.line st):=by simp[Vf,e]
   have e3:Ug g ls ⟨kw,nm,names,numbers,ZA,rel,lits⟩=⟨3,0,[],0,0,[],0,0,names.map (λt=>(Zs g t.s 4).pl),[]⟩:=qV
   rw[e2,e3];exact q
  ·obtain⟨gr,cap,hR,g1,g2,g3⟩:=iL.2 (BQ e);refine(afi B m _ ca cc (hC.alloc _) (Xw.alloc _) hc hm (aK _) J hv kw nm rel names numbers ZA lits _ _ _ _ gr cap (rk hR) g2 l4 cB ud).mono ?_;intro e' w' hp;have q:=done hp;have e2:Vf g ⟨kw,nm,names,numbers,ZA,rel,lits⟩ (ZE (decide ((16:Int)<=m)) 6 kw.line st)=X9 (RO g) 0 lits (ZE (decide ((16:Int)<=m)) 6 kw.line st):=by simp[Vf,e]
   have e3:Ug g ls ⟨kw,nm,names,numbers,ZA,rel,lits⟩=⟨4,0,[],0,0,[],0,0,[],lits.map (λt=>((Zs g t.name.s 4).pl,if Z6 t.first=22 then 0 else 1))⟩:=qV
   rw[e2,e3];exact q
end
def Y0 (s:aA):List ZY:=(lex s).2.1++[Qd (lex s).2.2]
theorem IM (l:Nat):Z6 (Qd l)=1:=by simp[Z6,Qd]
theorem aft (s:aA)(f:Nat):∀(i line:Nat) (acc:List ZY),(Ym s f i line acc).2.1.length<=acc.length+f:=by
 induction f with
 |zero=>intro i line acc;simp[Ym]
 |succ f ih=>
  intro i line acc;simp only[Ym];split
  ·split
   ·have:=ih (i+1) (line+1) acc;omega
   ·split
    ·have:=ih (i+1) line acc;omega
    ·split
     ·have:=ih (Zt Xn s i) line acc;omega
     ·split
      ·simp
      ·have:=ih (Zd s i).1 line (acc++[⟨s.extract i (Zd s i).1,(Zd s i).2,line⟩]);simp at this;omega
  ·simp
theorem afu (s:aA)(hs:s.size<=2000):(Y0 s).length<=2001:=by
 have:=aft s s.size 0 1 [];unfold Y0;show((Ym s s.size 0 1 []).2.1++_).length<=2001;simp at this⊢;omega
theorem afv (l:List ZY)(t:ZY):ZT (l++[t]) ((l++[t]).length-1)=t:=by
 unfold ZT;simp
theorem IL (s:aA)(hs:s.size<=2000):Ve (Y0 s):=
 ⟨by simp[Y0],by unfold Y0;rw[afv];exact IM _,afu s hs⟩
theorem afw (s:aA)(f:Nat):∀(i line:Nat) (acc:List ZY),(∀t∈acc,t.s.size<=s.size)->∀t∈(Ym s f i line acc).2.1,t.s.size<=s.size:=by
 induction f with
 |zero=>intro i line acc h;exact h
 |succ f ih=>
  intro i line acc h;simp only[Ym];split
  ·rename_i hi;split
   ·exact ih _ _ _ h
   ·split
    ·exact ih _ _ _ h
    ·split
     ·exact ih _ _ _ h
     ·split
      ·intro t ht;simp at ht
      ·rename_i ZP;refine ih _ _ _ (λt ht=> ?_)
       rcases fE.1 ht with ht|ht
       ·exact h t ht
       ·obtain rfl:t=⟨s.extract i (Zd s i).1,(Zd s i).2,line⟩:=sq;have F:=I9 s i hi;have h2:=EP s i ZP;show(s.extract i (Zd s i).1).size<=s.size;rw[Rk s i _ J F];omega
  ·exact h
theorem afx {t:ZY}(h:t.kind=105->UU t.s):-9999999999<=ZW t/\ZW t<=9999999999:=by
 unfold ZW;split
 ·rename_i I;have:=CA t.s (h I) t.s.size (iw _);unfold YU;split<;>omega
 ·omega
theorem BN (s:aA)(hs:s.size<=2000)(i:Nat):YI (ZT (Y0 s) i):=by
 have key:∀t∈Y0 s,YI t:=λt ht=>by
  rcases fE.1 ht with ht|ht
  ·refine⟨?_,afx (Cy s t ht)⟩;have:=afw s s.size 0 1 [] (λt ht=>tW) t ht
   omega
  ·obtain rfl:t=Qd (lex s).2.2:=sq;exact⟨by show ByteArray.empty.size<=2000;decide,by simp[ZW,Qd],by simp[ZW,Qd]⟩
 unfold ZT;rcases ib i (Y0 s).length with h|h
 ·rw[aN,aZ h];exact key _ (eL h)
 ·rw[aN,bN h];exact⟨by show ByteArray.empty.size<=2000;decide,by simp[ZW,RT],by simp[ZW,RT]⟩
end Go.Proofs.YthpcbbnabnlanaaGreatDoor
