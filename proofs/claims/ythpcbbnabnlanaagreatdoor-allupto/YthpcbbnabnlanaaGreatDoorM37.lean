import Derived.Test.YthpcbbnabnlanaaGreatDoorM29
import Derived.Test.YthpcbbnabnlanaaGreatDoorM36
namespace Go.Proofs.YthpcbbnabnlanaaGreatDoor
set_option maxHeartbeats 8000000
set_option maxRecDepth 100000
open Go.Proofs.Tryz
open Go.RowKit
set_option linter.all false
variable {w w' w1:A}
def KY (w0 w2:A)(LA LB Zw:List (az))(vo vi vk:aF)(wr:A):Prop:=
 ∃(i k:Nat) (X:List (az)) (xa:ax) (xc:Nat),i<=LA.length/\k<=LB.length/\X.length=i+k/\vo=.slice xa (i+k) xc/\vi=Y i/\vk=Y k/\OR w0 wr w2.heap.size (.slice xa (i+k) xc) X/\aB w2 wr/\X++Ui (LA.drop i) (LB.drop k)=Zw
theorem KY.one {w0 w2 wr wa W:A}{LA LB Zw X:List (az)}{us:ay}{v v' u:aF}{r:az}{i' k':Nat}(hi:i'<=LA.length)(I:k'<=LB.length)(hX:X.length+1=i'+k')(z:aB w2 wr)(hW:aB wr W)(ho:wr.ownsRow w2.heap.size 33 1 v X.length us)(hv:∀(i:Nat) (u:aF) (r:az),us[i]?=some u->X[i]?=some r->RV w0 u r)(hr:RV w0 u r)(bK:wa.ownsRow w2.heap.size 33 1 v' (X.length+1) (us++[u]))(ZX:Tw W v v' wa)(hE:X++r::Ui (LA.drop i') (LB.drop k')=Zw):KY w0 w2 LA LB Zw v' (Y i') (Y k') wa:=by
 have hl:us.length=X.length:=by have:=ho.1;omega
 have hp:OR w0 wa w2.heap.size v' (X++[r]):=OR.push hv hl rfl (λj x l hx bh=>by
  have:j=0:=by have:=(aU.1 hx).1;simp at this;omega
  subst this;simp at hx bh;subst hx bh;exact hr) bK
 obtain⟨xa,xc,e,_,_⟩:=hp.lr;rw[show(X++[r]).length=i'+k' by simp;omega]at e;subst e;exact⟨i',k',X++[r],xa,xc,hi,I,by simp;omega,rfl,rfl,rfl,hp,Hw (z.trans hW) ZX.by (λq e=>(ho.lt q e).1),by rw[dN];exact hE⟩
theorem acx (g o j:Nat):((O g o):Addr).add j=(O g (o+j)):=by unfold Addr.add;split<;>simp_all
theorem LR.take {w0:A}{a:ax}{rows:List (az)}(h:LR w0 w a rows)(n:Nat):LR w0 w a (rows.take n):=λi r hr=>by
 rw[dz]at hr;split at hr
 ·exact h i r hr
 ·cases hr
theorem LR.drop {w0:A}{g o:Nat}{rows:List (az)}(h:LR w0 w (some (O g o)) rows)(n:Nat):LR w0 w (some (O g (o+n))) (rows.drop n):=λi r hr=>by
 rw[dy]at hr;obtain⟨g',o',u,e,F,h2⟩:=h _ r hr
 cases e;exact⟨g,o+n,u,rfl,by rw[gI];exact F,h2⟩
abbrev alO (f:Nat):Prop:=∀(w0 w:A) (a:ax) (c:Nat) (rows:List (az)),rows.length<=f->aB w0 w->LR w0 w a rows->rows.length<=c->(∀r∈rows,r.length<=1000)->rows.length<=200000->
 aq 106 #[.slice a rows.length c] w λe w'=>∃a' c',e=.returned (.slice a' rows.length c')/\LR w0 w' a' (Tv f rows)/\rows.length<=c'/\aB w w'
def jB{P:Prop}(h:P:=by
 have zE:=Nc.out.kept OU (XY _);have k3:=OU.cell k2 pG;have Dw:=(Zm.out.trans OU).size;have zD:=Z8 OU;have HY1:=Z8 Jl.out.2;clear OU k2;go_wp2_with (at_builtin;refine RH rfl _ _ 30 rfl w2.heap.size 33 i1 (af) 1 24 underlying30 YS T7 UJ UI rfl pF _ _ _ rfl (zE.alloc _) (ah w3.heap.size) 1 1 [.slice va y.length vc] rfl rfl (World.news_of_block (gp _ _)) (Lf _ _ _) ?c3 ?c4 ?c5 ?_)
 case c3=>unfold maxLen;omega
 case c4=>omega
 case c5=>simp;omega
 intro v1 w4 WT ZZ;go_wp2;go_roundw
 case rel=>
  have q:=KY.one (i':=i) (k':=k+1) (LA:=LA) (LB:=LB) (Zw:=Zw) hi (by rw[MJ.out];omega) J Zm.out (zD.out.trans (di _ _ none)) HUX.out CV.out HY1.out (by rw[hX];exact WT) ZZ HEX.out;exact q
 case measure=>simp[intOf]<;>omega):P:=h
def kg{P:Prop}(h:P:=by
 exact⟨((ZG _ none).trans ZJ).cell k1 pG,((ZG _ none).trans ZJ).cell k2 pG⟩):P:=h
def kt{P:Prop}(h:P:=by
 intro v1 w4 WT ZZ;obtain⟨a',c',rfl,e2,e3,e4⟩:=Sc.out v1 w4 WT ZZ;have HF:=Z8 (iG e2 (iG e3 e4));clear WT ZZ e2 e4 Sc Nc;go_wp2;go_ret;exact⟨a',c',rfl,by rw[HS.out];exact HF.out.1,e3,HF.out.2.2⟩):P:=h
def kD{P:Prop}(h:P:=by
 exact⟨(ZG _ none).cell k1 pG,(ZG _ none).cell k2 pG⟩):P:=h
theorem alP (f:Nat):alO f:=by
 induction f with
 |zero=>
  intro w0 w a c rows hf U1 h hc hr hn;obtain rfl:rows=[]:=bA.1 J;have hz:((0:Nat):Int)<2:=J;go_enter func106,ntmps106;go_wp2;go_ret;exact⟨a,c,rfl,h,hc,WW _ _⟩
 |succ f ih=>
  intro w0 w a c rows hf U1 h hc hr hn;by_cases c2:rows.length<2
  ·have bn:(rows.length:Int)<2:=J;have HS:Hid (Tv (f+1) rows=rows):=by unfold Hid Tv;rw[iR c2]
   have HH:=Z8 h;clear ih h;go_enter func106,ntmps106;go_wp2;go_ret;exact⟨a,c,rfl,by rw[HS.out];exact HH.out,hc,WW _ _⟩
  ·have bn:¬((rows.length:Int)<2):=J;have bq:1<=rows.length/2:=J;have Sm:rows.length/2<rows.length:=J;obtain⟨g,o,u0,rfl,-,-⟩:=h 0 (rows[0]'J) (aZ J);have l1:(rows.take (rows.length/2)).length=rows.length/2:=sK;have l2:(rows.drop (rows.length/2)).length=rows.length-rows.length/2:=eO;have K1:=ZQ.mk (ih w0 w (some (O g o)) c (rows.take (rows.length/2)) J U1 (h.take _) J (λr q=>hr r (cy q)) J)
   have K2:=ZQ.mk (λ{W:A} (hW:aB w W)=>ih w0 W (some (O g (o+rows.length/2))) (c-rows.length/2) (rows.drop (rows.length/2)) J (U1.trans hW) ((h.drop _).grown hW) J (λr q=>hr r (cx q)) J)
   rw[l1]at K1;rw[l2]at K2;have TL:Hid ((Tv f (rows.take (rows.length/2))).length=rows.length/2):=by rw[Hid,Dr,l1]
   have MJ:Hid ((Tv f (rows.drop (rows.length/2))).length=rows.length-rows.length/2):=by rw[Hid,Dr,l2]
   have HS:Hid (Tv (f+1) rows=Ui (Tv f (rows.take (rows.length/2))) (Tv f (rows.drop (rows.length/2)))):=iQ c2;have bB:Hid (∀r∈Tv f (rows.take (rows.length/2)),r.length<=1000):=λr q=>hr r (cy (Dq f _ r q))
   have br:Hid (∀r∈Tv f (rows.drop (rows.length/2)),r.length<=1000):=λr q=>hr r (cx (Dq f _ r q))
   generalize Tv f (rows.take (rows.length/2))=LA at *;generalize Tv f (rows.drop (rows.length/2))=LB at *;have cA:((rows.length/2:Nat):Int)<=c:=J;have bs:((rows.length/2:Nat):Int)<=rows.length:=J;have ZP:¬c=rows.length/2:=J;clear l1 l2 ih h hr;go_enter func106,ntmps106;go_wp2_with (first|(go_at_call 106;refine(K2.get ZZ).mono ?_;rintro e w2 ⟨a2,bT,rfl,bj,V7,ZU⟩)|(go_at_call 106;refine K1.get.mono ?_;rintro e w1 ⟨a1,aN,rfl,aX,T8,ZZ⟩))
   have HA:=Z8 (aX.grown ZU);have HB:=Z8 bj;have Ld:=Z8 (ZZ.trans ZU);have QL:=Z8 (U1.trans (ZZ.trans ZU));obtain⟨Zw,a6⟩:∃R,Ui LA LB=R:=⟨_,rfl⟩;rw[a6]at HS;have W6:Hid (KY w0 w2 LA LB Zw (af) (Y 0) (Y 0) w2):=⟨0,0,[],none,0,iz _,iz _,rfl,rfl,rfl,rfl,⟨[],ed _ _ _ _,λi u r h=>pZ⟩,WW _ _,a6⟩
   have cD:rows.length/2+(rows.length-rows.length/2)=rows.length:=J;have bt:=Z8 cD;generalize rows.length-rows.length/2=nB at *;generalize rows.length/2=nA at *;have T2:nA<=200000:=J;have Xf:nB<=200000:=J;obtain⟨i1,YS,T7,UJ,UI⟩:=iE abd;clear K1 K2 aX bj ZZ ZU a6 cA bs ZP cD c2 bn
   go_loopw [5,6,7] (λvo vi vk wr=>KY w0 w2 LA LB Zw vo vi vk wr) (λ_ _ vk _=>nB-(intOf vk).toNat)
   case atStart=>exact W6.out
   case round=>
    clear W6;obtain⟨i0,k,X0,xa,xc,Y8,I,SJ,rfl,rfl,rfl,aO,aj,aw⟩:=hrel;by_cases ck:k<nB
    ·have Ka:(k:Int)<nB:=J;have bz:(0:Int)<=k:=J;have bb:k<LB.length:=by rw[MJ.out];exact ck
     obtain⟨y,hy⟩:∃y,LB[k]?=some y:=⟨LB[k],by simp[bb]⟩;obtain⟨g2,o2,u2,rfl,q2,r2⟩:=HB.out k y hy;have Jl:=Z8 (iG q2 r2);have HY:=Z8 hy;have bI:Hid (KY w0 w2 LA LB Zw (.slice xa (i0+k) xc) (Y i0) (Y k) wr):=⟨i0,k,X0,xa,xc,Y8,I,SJ,rfl,rfl,rfl,aO,aj,aw⟩;clear aO aj aw SJ Y8 I q2 r2 hy bb;go_wp2
     go_loopw [5,6] (λvo vi wr=>KY w0 w2 LA LB Zw vo vi (Y k) wr) (λ_ vi _=>nA-(intOf vi).toNat)
     case atStart=>exact bI.out
     case round=>
      clear bI;obtain⟨i,k',X,ya,yc,hi,I,hX,rfl,rfl,ek,⟨us,aI,ar⟩,ZX,hE⟩:=hrel;obtain rfl:k=k':=by injection ek with _ ek;omega
      clear ek;have k2:=ZX.cell Jl.out.1 pG;have Zm:=Z8 ZX;have Nc:=Z8 aI;have CV:=Z8 ar;have HUX:Hid (wr.ownsRow w2.heap.size 33 1 (.slice ya (i+k) yc) X.length us):=aI;have a8:=Z8 (show LB.drop k=y::LB.drop (k+1) by rw[aR (by have:=(aU.1 HY.out).1;exact this),(aU.1 HY.out).2]);have aJ:X.length<=400000:=by rw[hX];rw[TL.out]at hi;omega
      by_cases ci:i<nA
      ·have bC:decide ((i:Int)<nA)=true:=pI;have bU:(i:Int)<nA:=J;have aK:(0:Int)<=i:=J;have aP:i<LA.length:=by rw[TL.out];exact ci
       obtain⟨x,hx⟩:∃x,LA[i]?=some x:=⟨LA[i],by simp[aP]⟩;have bD:=Z8 (show LA.drop i=x::LA.drop (i+1) by rw[aR aP,(aU.1 hx).2]);obtain⟨g1,o1,u1,rfl,q1,r1⟩:=HA.out i x hx;have k1:=ZX.cell q1 pG;have aQ:=bB.out x (cq hx);have bf:=br.out y (cq HY.out);have KL:=ZQ.mk (λ{W:A} (hW:aB wr W)=>AB (r1.grown (QL.out.trans (ZX.trans hW))) (Jl.out.2.grown (QL.out.trans (ZX.trans hW))) aQ bf)
       have bo:=Z8 r1;obtain⟨ua,uc,rfl,_⟩:=r1;obtain⟨va,vc,rfl,_⟩:=Jl.out.2;obtain⟨R,hR⟩:∃R,Ye x y=R:=⟨_,rfl⟩;rw[hR]at KL;have Xu:=Z8 hR;have bE:=Z8 hx;have a7:=Z8 (show RV w0 (.slice ua x.length uc) x from bo.out);clear ZX aI ar hR aQ bf aP
       cases R with
       |true=>
        go_wp2;refine wp_region_held_drew (S:=(λw1=>w1.cell? (O g1 (o1+i))=some (.slice ua x.length uc)/\w1.cell? (O g2 (o2+k))=some (.slice va y.length vc))) pH ?_ (λZV=> ?_)
        ·exact kD
        apply ZL 0 30 ZV
        ·exact iW
        (try simp only[Act.put,Z5,Z4,Z2])
        apply ZL 1 31 ZV
        ·exact iW
        (try simp only[Act.put,Z5,Z4,Z2])
        apply ZL 2 32 ZV
        ·exact iW
        (try simp only[Act.put,Z5,Z4,Z2])
        apply ZL 3 33 ZV
        ·exact iW
        (try simp only[Act.put,Z5,Z4,Z2])
        apply ZL 4 34 ZV
        ·exact iW
        (try simp only[Act.put,Z5,Z4,Z2])
        apply ZL 5 35 ZV
        ·exact iW
        (try simp only[Act.put,Z5,Z4,Z2])
        apply ZL 6 36 ZV
        ·exact iW
        (try simp only[Act.put,Z5,Z4,Z2])
        apply ZL 7 37 ZV
        ·exact iW
        (try simp only[Act.put,Z5,Z4,Z2])
        apply ZL 8 38 ZV
        ·exact iW
        (try simp only[Act.put,Z5,Z4,Z2])
        apply ZL 9 39 ZV
        ·exact iW
        (try simp only[Act.put,Z5,Z4,Z2])
        apply ZL 10 40 ZV
        ·exact iW
        (try simp only[Act.put,Z5,Z4,Z2])
        apply ZL 11 41 ZV
        ·exact iW
        (try simp only[Act.put,Z5,Z4,Z2])
        apply ZL 12 42 ZV
        ·exact iW
        (try simp only[Act.put,Z5,Z4,Z2])
        refine wpAnyH_ready (rs:=[13]) pH pG ?_;refine AllReadyH.cons rfl (λK hK=> ?_) AllReadyH.nil
        go_simp;go_wp2_with ((go_at_call 107;refine(KL.get (ZG _ none)).mono ?_;rintro e w3 ⟨rfl,ZJ⟩));refine hK.out _ _ ?_ (λZV=> ?_)
        ·exact kg
        clear hK K
        (try simp only[Act.put,Z5,Z4,Z2])
        apply ZL 14 44 ZV
        ·exact iW
        (try simp only[Act.put,Z5,Z4,Z2])
        refine wpAnyH_done pH ?_ _;have OU:=(ZG wr none).trans ZJ;have zE:=Nc.out.kept OU (XY _);have k3:=OU.cell k1 pG;have Dw:=(Zm.out.trans OU).size;have zD:=Z8 OU;clear KL ZJ OU ZV k1 k2;go_wp2_with (at_builtin;refine RH rfl _ _ 30 rfl w2.heap.size 33 i1 (af) 1 24 underlying30 YS T7 UJ UI rfl pF _ _ _ rfl (zE.alloc _) (ah w3.heap.size) 1 1 [.slice ua x.length uc] rfl rfl (World.news_of_block (gp _ _)) (Lf _ _ _) ?c3 ?c4 ?c5 ?_)
        case c3=>unfold maxLen;omega
        case c4=>omega
        case c5=>simp;omega
        intro v1 w4 WT ZZ;go_wp2;go_roundw
        case rel=>
         have q:=KY.one (i':=i+1) (k':=k) (LA:=LA) (LB:=LB) (Zw:=Zw) uq I J Zm.out (zD.out.trans (di _ _ none)) HUX.out CV.out a7.out (by rw[hX];exact WT) ZZ (by rw[<-hE,bD.out,a8.out,akh Xu.out]);exact q
        case measure=>simp[intOf]<;>omega
       |false=>
        go_wp2;refine wp_region_held_drew (S:=(λw1=>w1.cell? (O g1 (o1+i))=some (.slice ua x.length uc)/\w1.cell? (O g2 (o2+k))=some (.slice va y.length vc))) pH ?_ (λZV=> ?_)
        ·exact kD
        apply ZL 0 30 ZV
        ·exact iW
        (try simp only[Act.put,Z5,Z4,Z2])
        apply ZL 1 31 ZV
        ·exact iW
        (try simp only[Act.put,Z5,Z4,Z2])
        apply ZL 2 32 ZV
        ·exact iW
        (try simp only[Act.put,Z5,Z4,Z2])
        apply ZL 3 33 ZV
        ·exact iW
        (try simp only[Act.put,Z5,Z4,Z2])
        apply ZL 4 34 ZV
        ·exact iW
        (try simp only[Act.put,Z5,Z4,Z2])
        apply ZL 5 35 ZV
        ·exact iW
        (try simp only[Act.put,Z5,Z4,Z2])
        apply ZL 6 36 ZV
        ·exact iW
        (try simp only[Act.put,Z5,Z4,Z2])
        apply ZL 7 37 ZV
        ·exact iW
        (try simp only[Act.put,Z5,Z4,Z2])
        apply ZL 8 38 ZV
        ·exact iW
        (try simp only[Act.put,Z5,Z4,Z2])
        apply ZL 9 39 ZV
        ·exact iW
        (try simp only[Act.put,Z5,Z4,Z2])
        apply ZL 10 40 ZV
        ·exact iW
        (try simp only[Act.put,Z5,Z4,Z2])
        apply ZL 11 41 ZV
        ·exact iW
        (try simp only[Act.put,Z5,Z4,Z2])
        apply ZL 12 42 ZV
        ·exact iW
        (try simp only[Act.put,Z5,Z4,Z2])
        refine wpAnyH_ready (rs:=[13]) pH pG ?_;refine AllReadyH.cons rfl (λK hK=> ?_) AllReadyH.nil
        go_simp;go_wp2_with ((go_at_call 107;refine(KL.get (ZG _ none)).mono ?_;rintro e w3 ⟨rfl,ZJ⟩));refine hK.out _ _ ?_ (λZV=> ?_)
        ·exact kg
        clear hK K
        (try simp only[Act.put,Z5,Z4,Z2])
        apply ZL 14 44 ZV
        ·exact iW
        (try simp only[Act.put,Z5,Z4,Z2])
        refine wpAnyH_done pH ?_ _;have OU:=(ZG wr none).trans ZJ;have HEX:=Z8 (show X++y::Ui (LA.drop i) (LB.drop (k+1))=Zw by rw[<-hE,a8.out,abb (λx' aG=>by rw[dy,gX]at aG;rw[bE.out]at aG;cases aG;exact Xu.out)])
        clear KL ZJ ZV k1;exact jB
      ·have bC:decide ((i:Int)<nA)=false:=pI;have HEX:=Z8 (show X++y::Ui (LA.drop i) (LB.drop (k+1))=Zw by rw[<-hE,a8.out,abb (λx' aG=>by rw[dy,bN uq]at aG;cases aG)])
       obtain⟨va,vc,rfl,_⟩:=Jl.out.2;clear ZX aI ar;go_wp2;go_quiet (fail);generalize cV:wr.drewN nq=w3;have OU:aB wr w3:=by rw[<-cV];exact XN _ _ _
       clear cV;exact jB
    ·obtain rfl:k=nB:=by rw[MJ.out]at I;omega
     have Ka:¬((k:Int)<k):=J;obtain⟨us,aI,ar⟩:=aO;have bc:0<LA.length:=by rw[TL.out];exact bq
     obtain⟨g1,o1,u1,rfl,-,-⟩:=HA.out 0 (LA[0]) (aZ bc);have aS:=Y8;rw[TL.out]at aS;have Ro:(i0:Int)<=nA:=J;have aK:(0:Int)<=i0:=J;have eB:LB.drop k=[]:=bF (by rw[MJ.out];exact iw _);have Yn:=Z8 (show X0++LA.drop i0=Zw by rw[<-aw,eB,aki]);clear eB;obtain⟨ms,aC⟩:∃ms:ay,ms=(List.range (nA-i0)).map λj=>(wr.cell? (O g1 (o1+i0+j))).getD undef:=⟨_,rfl⟩
     have bu:ms.length=nA-i0:=by rw[aC];simp
     have aL:∀(j:Nat) (u:aF),ms[j]?=some u->∃r,LA[i0+j]?=some r/\ak wr g1 (o1+i0+j) u/\RV w0 u r:=λj u hu=>by
      have hj:j<nA-i0:=by rw[<-bu];exact(aU.1 hu).1
      obtain⟨r,hr⟩:∃r,LA[i0+j]?=some r:=⟨LA[i0+j]'uq,aZ uq⟩;obtain⟨g',o',u',e,q1,q2⟩:=HA.out (i0+j) r hr
      cases e;have q3:=aj.cell q1 pG;rw[<-gI]at q3;rw[aC,dR,List.getElem?_range hj]at hu;simp only[fN,q3,eY,dY]at hu;subst hu;exact⟨r,hr,q3,q2⟩
     have bk:=Z8 aL;have bG:=Z8 bu;rw[SJ]at aI;have Nc:=Z8 aI;have CV:=Z8 ar;have Zm:=Z8 aj;have bL:=aj.size;have bH:Hid (∀u∈ms,u.oneCell'=true):=λu hu=>by
      obtain⟨j,hj,e⟩:=cX hu;obtain⟨r,_,_,_,_,e2,_⟩:=aL j u (by rw[aZ hj,e]);rw[e2];rfl
     have P9:Hid (ms.length=(nA-i0)*1):=by rw[Hid,bu];omega
     have Sc:Hid (∀(v:aF) (wa:A),wa.ownsRow w2.heap.size 33 1 v (i0+k+(nA-i0)) (us++ms)->Tw wr (.slice xa (i0+k) xc) v wa->∃a' c',v=.slice a' rows.length c'/\LR w0 wa a' Zw/\rows.length<=c'/\aB w wa):=λv wa ho z=>by
      have hp:OR w0 wa w2.heap.size v (X0++LA.drop i0):=OR.push (us:=us) (ms:=ms) CV.out (by have:=Nc.out.1;omega) (by rw[bG.out,eO,TL.out]) (λj u r hu hr=>by
       obtain⟨r',e1,_,e3⟩:=bk.out j u hu;rw[dy,e1]at hr
       cases hr;exact e3) (by rw[SJ,eO,TL.out];exact ho)
      rw[Yn.out]at hp;obtain⟨a',c',e1,e2,e3⟩:=hp.lr;have hl:Zw.length=rows.length:=by rw[<-Yn.out,dA,eO,TL.out,SJ,<-bt.out];omega
      rw[hl]at e1 e3;exact⟨a',c',e1,e2,e3,Hw (Ld.out.trans Zm.out) z.by (λq e=>by have:=(Nc.out.lt q e).1;have:=Ld.out.size;omega)⟩
     have RD:i0+k<=400000:=J;by_cases aY:aN=i0
     ·have hz:nA-i0=0:=J;obtain rfl:ms=[]:=bA.1 J;subst aY;clear aL bu aI ar aj aw aC SJ Y8 I aS;rw[hz,gX,fp]at Sc;go_wp2_with (at_builtin;refine RH rfl _ _ 30 rfl w2.heap.size 33 i1 (af) 1 24 underlying30 YS T7 UJ UI rfl pF _ _ _ rfl Nc.out (O g1 o1) 0 0 [] rfl rfl (λj u h=>pZ) (λu h=>pZ) ?c3 ?c4 bL ?_)
      case c3=>unfold maxLen;omega
      case c4=>omega
      exact kt
     ·have aH:(i0:Int)<=aN:=J;clear aL bu aI ar aj aw aC SJ Y8 I aS;go_wp2_with (at_builtin;refine RH rfl _ _ 30 rfl w2.heap.size 33 i1 (af) 1 24 underlying30 YS T7 UJ UI rfl pF _ _ _ rfl Nc.out (O g1 (o1+i0)) (nA-i0) (aN-i0) ms rfl P9.out (λj u hu=>by obtain⟨_,_,q,_⟩:=bk.out j u hu;rw[acx];exact q) bH.out ?c3 ?c4 bL ?_)
      case c3=>unfold maxLen;omega
      case c4=>omega
      exact kt
theorem RV.AJ {u:aF}{r:az}(h:RV w u r):∃a c,u=.slice a r.length c/\(r=[]\/∃g o,a=some (O g o)/\O6 w g o r):=by
 obtain⟨a,c,e,F⟩:=h;refine⟨a,c,e,?_⟩
 cases hr:r with
 |nil=>exact .inl rfl
 |cons x l=>
  obtain⟨g,o,e1,_⟩:=F 0 x (by rw[hr];rfl);refine .inr ⟨g,o,e1,λp hp=> ?_⟩
  rw[<-hr]at hp⊢;obtain⟨g',o',e2,q⟩:=F p.toNat _ (FY hp);rw[e1]at e2
  cases e2;exact q
structure zC (V:List Xx)(C:List Yz)(order:Int)(rows:List (az)):Prop where
 FR:∀r∈rows,Ut V C r=true
 ok:Dt V.length rows
 lex:order≠1->rows.Pairwise (Ye · ·=true)
 len:rows.length<=100000
theorem acy {l:List (az)}(h:l.Pairwise (Ye · ·=true)){i:Nat}{x y:az}(hx:l[i]?=some x)(hy:l[i+1]?=some y):Ye x y=true:=by
 obtain⟨F,e1⟩:=aU.1 hx;obtain⟨h2,e2⟩:=aU.1 hy;have:=(aW.1 h) i (i+1) F h2 J;rw[e1,e2]at this;exact this
def j8{P:Prop}(h:P:=by
 refine wpAnyH_done pH ?_ _;have O1:=(ZG wr none).trans ZJ;have Ld:=Z8 O1;clear ZV k1 k2 ZJ O1 KL;go_wp2;go_roundw
 case rel=>exact⟨i+1,J,pQ,Zm.out.trans Ld.out⟩
 case measure=>simp[intOf]<;>omega):P:=h
def kI{P:Prop}(h:P:=by
 exact⟨ta,va,la,ra,tc,vc,lc,rc,lists,rules,dH F z.size,⟨z.cell h2.1 pG,λi t ht=>by obtain⟨gt,e,q1,q2,q3⟩:=h2.2 i t ht;exact⟨gt,e,z.cell q1 pG,z.cell q2 pG,z.cell q3 pG⟩⟩,h3.grown z,h4⟩):P:=h
def mO{P:Prop}(h:P:=by
 clear ZX;go_wp2;go_ret;exact⟨rfl,Zm.out⟩):P:=h
theorem alQ {r:Nat}{s:aA}{a:ax}{c:Nat}{order:Int}{rows:List (az)}(hR:Qv w r s)(hG:U0 s)(h:LR w w a rows)(hc:rows.length<=c)(hT:zC (W5 s) (TT s) order rows):aq 60 #[ai r,.slice a rows.length c,Y order] w (au w (.bool true)):=by
 have bW:=hG.md.WB;have HR:=Z8 hR;have HH:=Z8 h;have HT:=Z8 hT;have RI:=hT.len;have bV:Hid (∀W,aB w W->Qv W r s):=λW z=>by
  obtain⟨ta,va,la,ra,tc,vc,lc,rc,lists,rules,F,h2,h3,h4⟩:=HR.out;exact kI
 have H8:Hid (∀r∈rows,r.length<=1000):=λr hr=>by rw[hT.ok.len r hr];omega
 obtain⟨LS,aT⟩:∃l,Tv rows.length rows=l:=⟨_,rfl⟩;have aa:=AD rows.length rows (iw _) hT.ok;rw[aT]at aa;have CZ:=Z8 aa.2;have Ku:Hid (LS.length=rows.length):=aa.1.length_eq;have bl:Hid (∀r∈LS,r.length<=1000):=λr hr=>H8.out r (aa.1.mem_iff.1 hr)
 have aV:=ZQ.mk (λ{W:A} (hW:aB w W)=>alP rows.length w W a c rows (iw _) hW (h.grown hW) hc H8.out J)
 rw[aT]at aV;clear h hR hT aa aT;go_enter func60,ntmps60;go_wp2
 go_loopw [7] (λvi wr=>∃i:Nat,i<=rows.length/\vi=Y i/\aB w wr) (λvi _=>rows.length-(intOf vi).toNat)
 case atStart=>exact⟨0,iz _,rfl,WW _ _⟩
 case round=>
  obtain⟨i,hi,rfl,ZX⟩:=hrel;have Zm:=Z8 ZX;by_cases ZR:i<rows.length
  ·have X8:(i:Int)<rows.length:=J;have Xy:(0:Int)<=i:=J;obtain⟨x,hx⟩:∃x,rows[i]?=some x:=⟨rows[i],by simp[ZR]⟩;obtain⟨g1,o1,u1,rfl,q1,r1⟩:=HH.out i x hx;have k1:=ZX.cell q1 pG;obtain⟨ua,uc,rfl,Z⟩:=(r1.grown ZX).AJ;have KS:=ZQ.mk (AH (cv:=uc) (bV.out wr ZX) hG Z);rw[HT.out.FR x (cq hx)]at KS;clear ZX q1 r1 hx Z;go_wp2_with (go_at_call 57;refine KS.get.mono ?_;rintro e w2 ⟨rfl,ZU⟩);go_roundw
   case rel=>exact⟨i+1,J,pQ,Zm.out.trans ZU⟩
   case measure=>simp[intOf]<;>omega
  ·obtain rfl:i=rows.length:=J;have bp:=ZQ.mk (aV.get ZX);clear ZX aV;go_wp2_with (go_at_call 106;refine bp.get.mono ?_;rintro e w2 ⟨a2,c2,rfl,bj,V7,ZU⟩);have MJ:=Z8 bj;have U3:=Z8 (Zm.out.trans ZU);clear bj ZU Zm bp
   go_loopw [10] (λvi wr=>∃i:Nat,i<=rows.length/\vi=Y ((i:Int)+1)/\aB w2 wr) (λvi _=>rows.length+1-(intOf vi).toNat)
   case atStart=>exact⟨0,iz _,rfl,WW _ _⟩
   case round=>
    obtain⟨i,hi,rfl,ZX⟩:=hrel;have Zm:=Z8 ZX;by_cases ZR:i+1<rows.length
    ·have X8:(i:Int)+1<rows.length:=J;have bS:(i:Int)<rows.length:=J;have Xy:(0:Int)<=i:=J;have bO:(0:Int)<=(i:Int)+1:=J;obtain⟨x,hx⟩:∃x,LS[i]?=some x:=⟨LS[i]'ur,aZ ur⟩;obtain⟨y,hy⟩:∃y,LS[i+1]?=some y:=⟨LS[i+1]'ur,aZ ur⟩;obtain⟨g1,o1,u1,rfl,q1,r1⟩:=MJ.out i x hx;obtain⟨g2,o2,u2,e2,q2,r2⟩:=MJ.out (i+1) y hy
     cases e2;have k1:=ZX.cell q1 pG;have k2:=ZX.cell q2 pG;have av:=acy CZ.out hx hy;have KL:=ZQ.mk (λ{W:A} (hW:aB wr W)=>AB (r1.grown (U3.out.trans (ZX.trans hW))) (r2.grown (U3.out.trans (ZX.trans hW))) (bl.out x (cq hx)) (bl.out y (cq hy)))
     rw[av]at KL;obtain⟨ua,uc,rfl,_⟩:=r1;obtain⟨va,vc,rfl,_⟩:=r2;have bM:IntKind.i64.wrap (i:Int)=i:=wrap_small _ J J;clear ZX av hx hy q1 q2;go_wp2;refine wp_region_held_drew (S:=(λw1=>w1.cell? (O g1 (o1+i))=some (.slice ua x.length uc)/\w1.cell? (O g1 (o1+(i+1)))=some (.slice va y.length vc))) pH ?_ (λZV=> ?_)
     ·exact kD
     apply ZL 0 36 ZV
     ·exact iW
     (try simp only[Act.put,Z5,Z4,Z2])
     apply ZL 1 37 ZV
     ·exact iW
     (try simp only[Act.put,Z5,Z4,Z2])
     apply ZL 2 38 ZV
     ·exact iW
     (try simp only[Act.put,Z5,Z4,Z2])
     apply ZL 3 39 ZV
     ·exact iW
     (try simp only[Act.put,Z5,Z4,Z2])
     apply ZL 4 40 ZV
     ·exact iW
     (try simp only[Act.put,Z5,Z4,Z2])
     apply ZL 5 41 ZV
     ·exact iW
     (try simp only[Act.put,Z5,Z4,Z2])
     apply ZL 6 42 ZV
     ·exact iW
     (try simp only[Act.put,Z5,Z4,Z2])
     apply ZL 7 43 ZV
     ·exact iW
     (try simp only[Act.put,Z5,Z4,Z2])
     apply ZL 8 44 ZV
     ·exact iW
     (try simp only[Act.put,Z5,Z4,Z2])
     refine wpAnyH_ready (rs:=[9]) pH pG ?_;refine AllReadyH.cons rfl (λK hK=> ?_) AllReadyH.nil
     go_simp;go_wp2_with ((go_at_call 107;refine(KL.get (ZG _ none)).mono ?_;rintro e w3 ⟨rfl,ZJ⟩));refine hK.out _ _ ?_ (λZV=> ?_)
     ·exact kg
     clear hK K
     (try simp only[Act.put,Z5,Z4,Z2])
     apply ZL 10 11 ZV
     ·exact iW
     (try simp only[Act.put,Z5,Z4,Z2])
     exact j8
    ·have X8:¬((i:Int)+1<rows.length):=J;by_cases ho:order=1
     ·subst ho;clear ZX;go_wp2;go_ret;exact⟨rfl,U3.out.trans Zm.out⟩
     ·have bK:(order==1)=false:=by simpa using ho
      have bP:=Z8 (HT.out.lex ho);have JS:=Z8 (U3.out.trans ZX);clear ZX ZR ho MJ;go_wp2
      go_loopw [12] (λvi w5=>∃i:Nat,i<=rows.length/\vi=Y ((i:Int)+1)/\aB w w5) (λvi _=>rows.length+1-(intOf vi).toNat)
      case atStart=>exact⟨0,iz _,rfl,JS.out⟩
      case round=>
       clear JS Zm U3;obtain⟨i,hi,rfl,ZX⟩:=hrel;have Zm:=Z8 ZX;by_cases ZR:i+1<rows.length
       ·have X8:(i:Int)+1<rows.length:=J;have bS:(i:Int)<rows.length:=J;have Xy:(0:Int)<=i:=J;have bO:(0:Int)<=(i:Int)+1:=J;obtain⟨x,hx⟩:∃x,rows[i]?=some x:=⟨rows[i],aZ J⟩;obtain⟨y,hy⟩:∃y,rows[i+1]?=some y:=⟨rows[i+1],aZ J⟩;obtain⟨g1,o1,u1,rfl,q1,r1⟩:=HH.out i x hx;obtain⟨g2,o2,u2,e2,q2,r2⟩:=HH.out (i+1) y hy
        cases e2;have k1:=ZX.cell q1 pG;have k2:=ZX.cell q2 pG;have av:=acy bP.out hx hy;have KL:=ZQ.mk (λ{W:A} (hW:aB wr W)=>AB (r1.grown (ZX.trans hW)) (r2.grown (ZX.trans hW)) (H8.out x (cq hx)) (H8.out y (cq hy)))
        rw[av]at KL;obtain⟨ua,uc,rfl,_⟩:=r1;obtain⟨va,vc,rfl,_⟩:=r2;have bM:IntKind.i64.wrap (i:Int)=i:=wrap_small _ J J;clear ZX av hx hy q1 q2;go_wp2;refine wp_region_held_drew (S:=(λw1=>w1.cell? (O g1 (o1+i))=some (.slice ua x.length uc)/\w1.cell? (O g1 (o1+(i+1)))=some (.slice va y.length vc))) pH ?_ (λZV=> ?_)
        ·exact kD
        apply ZL 0 56 ZV
        ·exact iW
        (try simp only[Act.put,Z5,Z4,Z2])
        apply ZL 1 57 ZV
        ·exact iW
        (try simp only[Act.put,Z5,Z4,Z2])
        apply ZL 2 58 ZV
        ·exact iW
        (try simp only[Act.put,Z5,Z4,Z2])
        apply ZL 3 59 ZV
        ·exact iW
        (try simp only[Act.put,Z5,Z4,Z2])
        apply ZL 4 60 ZV
        ·exact iW
        (try simp only[Act.put,Z5,Z4,Z2])
        apply ZL 5 61 ZV
        ·exact iW
        (try simp only[Act.put,Z5,Z4,Z2])
        apply ZL 6 62 ZV
        ·exact iW
        (try simp only[Act.put,Z5,Z4,Z2])
        apply ZL 7 63 ZV
        ·exact iW
        (try simp only[Act.put,Z5,Z4,Z2])
        apply ZL 8 64 ZV
        ·exact iW
        (try simp only[Act.put,Z5,Z4,Z2])
        refine wpAnyH_ready (rs:=[9]) pH pG ?_;refine AllReadyH.cons rfl (λK hK=> ?_) AllReadyH.nil
        go_simp;go_wp2_with ((go_at_call 107;refine(KL.get (ZG _ none)).mono ?_;rintro e w3 ⟨rfl,ZJ⟩));refine hK.out _ _ ?_ (λZV=> ?_)
        ·exact kg
        clear hK K
        (try simp only[Act.put,Z5,Z4,Z2])
        apply ZL 10 13 ZV
        ·exact iW
        (try simp only[Act.put,Z5,Z4,Z2])
        exact j8
       ·have X8:¬((i:Int)+1<rows.length):=J;exact mO
theorem alR {a b:ax}{c d:Nat}{rows:List (az)}(ha:LR w w a rows)(hb:LR w w b rows)(hl:rows.length<=200000)(h8:∀r∈rows,r.length<=1000):aq 64 #[.slice a rows.length c,.slice b rows.length d] w (au w (.bool true)):=by
 have HA:=Z8 ha;have HB:=Z8 hb;have H8:=Z8 h8;have ZP:(((rows.length:Nat):Int) != rows.length)=false:=pG;clear ha hb h8;go_enter func64,ntmps64;go_wp2
 go_loopw [5] (λvi wr=>∃i:Nat,i<=rows.length/\vi=Y i/\aB w wr) (λvi _=>rows.length-(intOf vi).toNat)
 case atStart=>exact⟨0,iz _,rfl,WW _ _⟩
 case round=>
  obtain⟨i,hi,rfl,ZX⟩:=hrel;have Zm:=Z8 ZX;by_cases ZR:i<rows.length
  ·have X8:(i:Int)<rows.length:=J;have Xy:(0:Int)<=i:=J;obtain⟨x,hx⟩:∃x,rows[i]?=some x:=⟨rows[i],by simp[ZR]⟩;obtain⟨g1,o1,u1,rfl,q1,ua,uc,rfl,r1⟩:=HA.out i x hx;obtain⟨g2,o2,u2,rfl,q2,va,vc,rfl,r2⟩:=HB.out i x hx;have aQ:=H8.out x (cq hx);have k1:=ZX.cell q1 pG;have k2:=ZX.cell q2 pG;have bQ:=Z8 q1;have Jl:=Z8 q2;have bo:=Z8 r1;have Xk:=Z8 r2;have WL:(((x.length:Nat):Int) != x.length)=false:=pG;clear ZX hx q1 q2 r1 r2;go_wp2;go_quiet (fail);have Ki:=Z8 (Zm.out.trans (XN wr nq none));clear Zm k1 k2;go_wp2
   go_loopw [6] (λvi wr=>∃k:Nat,k<=x.length/\vi=Y k/\aB w wr) (λvi _=>x.length-(intOf vi).toNat)
   case atStart=>exact⟨0,iz _,rfl,Ki.out⟩
   case round=>
    clear Ki;obtain⟨k,I,rfl,ZX⟩:=hrel;have Zm:=Z8 ZX;have k1:=ZX.cell bQ.out pG;have k2:=ZX.cell Jl.out pG;by_cases YK:k<x.length
    ·have bJ:(k:Int)<x.length:=J;have bz:(0:Int)<=k:=J;obtain⟨anZ,hz⟩:∃anZ,x[k]?=some anZ:=⟨x[k],by simp[YK]⟩;obtain⟨g3,o3,rfl,q3⟩:=bo.out k anZ hz;obtain⟨g4,o4,rfl,q4⟩:=Xk.out k anZ hz;have k3:=ZX.cell q3 pG;have k4:=ZX.cell q4 pG;have bX:(anZ != anZ)=false:=pG;clear ZX hz q3 q4;go_wp2;go_quiet (fail);go_wp2;go_roundw
     case rel=>exact⟨k+1,J,pQ,Zm.out.trans (XN _ _ _)⟩
     case measure=>simp[intOf]<;>omega
    ·obtain rfl:k=x.length:=J;clear ZX;go_wp2;go_roundw
     case rel=>exact⟨i+1,J,pQ,Zm.out⟩
     case measure=>simp[intOf]<;>omega
  ·obtain rfl:i=rows.length:=J;exact mO
def Oe (b:Int):Int:=if 4000<b then 4000+b%64 else b
theorem alS (b:Int):Oe b<=4064:=by
 unfold Oe;split
 ·omega
 ·omega
def mH{P:Prop}(h:P:=by
 go_enter func59,ntmps59;go_wp2;go_ret;exact⟨by rw[HE.out];rfl,rfl⟩):P:=h
theorem alT (b:Int)(w:A)(F:-9223372036854775808<=b)(h2:b<=9223372036854775807):aq 59 #[Y b] w λe w'=>e=.returned (Y (Oe b))/\w'=w:=by
 by_cases c:4000<b
 ·have m1:0<=b%64:=J;have m2:b%64<64:=J;have HE:Hid (Oe b=4000+b%64):=iR c;exact mH
 ·have HE:Hid (Oe b=b):=iQ c;exact mH
def Nb:List Y7->Int->Int
 |[],p=>p
 |v::vs,p=>if 3000<p*(v.high-v.low+1)then-1 else Nb vs (p*(v.high-v.low+1))
theorem alU {bm vc lc rc:Nat}{va la ra:ax}{vars:List Y7}{L:List YZ}{R:List YL}(h:JQ w bm va la ra vc lc rc vars L R)(hv:vars.length<=8)(hb:∀v∈vars,-1000<=v.low/\v.low<=v.high/\v.high<=1000):aq 61 #[ai bm,Y 3000] w (au w (Y (Nb vars 1))):=by
 obtain⟨Zw,a6⟩:∃r,Nb vars 1=r:=⟨_,rfl⟩;rw[a6];have HH:=Z8 h;have HB:=Z8 hb;have HR:=Z8 a6;clear h hb a6;go_enter func61,ntmps61;go_wp2
 go_loopw [5,6] (λvp vi wr=>∃(i:Nat) (p:Int),i<=vars.length/\0<=p/\p<=3000/\vp=Y p/\vi=Y i/\Nb (vars.drop i) p=Zw/\aB w wr) (λ_ vi _=>vars.length-(intOf vi).toNat)
 case atStart=>exact⟨0,1,iz _,J,J,rfl,rfl,HR.out,WW _ _⟩
 case round=>
  obtain⟨i,p,hi,bR,ba,rfl,rfl,hE,ZX⟩:=hrel;have hM:=HH.out.grown ZX;have m1:=hM.m1;have Zm:=Z8 ZX;have HE:=Z8 hE;by_cases ZR:i<vars.length
  ·have X8:(i:Int)<vars.length:=J;have Xy:(0:Int)<=i:=J;obtain⟨v,T5⟩:∃v,vars[i]?=some v:=⟨vars[i],by simp[ZR]⟩;obtain⟨g,rfl,_,c2,c3⟩:=hM.v i v T5;obtain⟨b1,b2,b3⟩:=HB.out v (cq T5);have HD:Hid (Nb (vars.drop i) p=if 3000<p*(v.high-v.low+1)then-1 else Nb (vars.drop (i+1)) (p*(v.high-v.low+1))):=by
    rw[Hid,aR ZR,(aU.1 T5).2];rfl
   obtain⟨d,hd⟩:∃d,v.high-v.low+1=d:=⟨_,rfl⟩;have bg:1<=d:=J;have aM:d<=2001:=J;have bq:0<=p*d:=fV bR J;have Sm:p*d<=3000*2001:=Int.mul_le_mul ba aM J J;rw[hd]at HD;by_cases c:3000<p*d
   ·have HX:=Z8 (show Zw=-1 by rw[<-HE.out,HD.out,iR c]);clear ZX hM hE T5 HD;exact kH
   ·have HX:=Z8 (show Nb (vars.drop (i+1)) (p*d)=Zw by rw[<-HE.out,HD.out,iQ c]);clear ZX hM hE T5 HD;go_wp2;go_quiet (fail);go_wp2;go_roundw
    case rel=>exact⟨i+1,p*d,J,bq,J,rfl,pQ,HX.out,Zm.out.trans (XN _ _ _)⟩
    case measure=>simp[intOf]<;>omega
  ·obtain rfl:i=vars.length:=J;rw[bF (iw _)]at HE;clear ZX hM hE;go_wp2;go_ret;exact⟨by rw[<-HE.out];rfl,Zm.out⟩
end Go.Proofs.YthpcbbnabnlanaaGreatDoor
