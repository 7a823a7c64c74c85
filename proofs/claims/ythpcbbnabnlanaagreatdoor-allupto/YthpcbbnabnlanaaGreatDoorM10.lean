import Derived.Test.YthpcbbnabnlanaaGreatDoorM01
import Derived.Test.YthpcbbnabnlanaaGreatDoorM02
import Derived.Test.YthpcbbnabnlanaaGreatDoorM03
import Derived.Deep.AppendLies
import Derived.Deep.QuietTactic
import Derived.BigQuiet
import Derived.Deep.RegionHeld3
import Derived.Deep.DrawnRows
import Derived.Deep.DeepMust
import Derived.Deep.Light
namespace Go.Proofs.YthpcbbnabnlanaaGreatDoor
set_option maxHeartbeats 1000000
set_option maxRecDepth 100000
open Go.Proofs.Tryz
set_option linter.all false
section
open Go.RowKit
attribute [local go_sem ↓] Go.wp_at_zero Go.wp_at_succ
structure Wk (w:A)(Z bm:Nat)(i kind line:Int):Prop where
 c0:w.cell? (ah Z)=some (ai bm)
 c1:w.cell? (O Z 1)=some (Y i)
 c2:w.cell? (O Z 2)=some (Y kind)
 c3:w.cell? (O Z 3)=some (Y line)
 f1:w.frozen? (O Z 1)=false
 f2:w.frozen? (O Z 2)=false
 f3:w.frozen? (O Z 3)=false
 lt:Z<w.heap.size
structure Tk (w:A)(bm gt Z1:Nat)(U:List ZY):Prop where
 m0:w.cell? (ah bm)=some (aj gt U.length Z1)
 row:∀j u,(Tq U)[j]?=some u->w.cell? (O gt j)=some u
 Ya:bm<w.heap.size
 VG:gt<w.heap.size
theorem Wk.drewN {w:A}{Z bm:Nat}{i k l:Int}(h:Wk w Z bm i k l)(n:Nat):Wk (w.drewN n) Z bm i k l:=⟨h.c0,h.c1,h.c2,h.c3,h.f1,h.f2,h.f3,h.lt⟩
theorem Wk.drew {w:A}{Z bm:Nat}{i k l:Int}(h:Wk w Z bm i k l):Wk w.drew Z bm i k l:=⟨h.c0,h.c1,h.c2,h.c3,h.f1,h.f2,h.f3,h.lt⟩
theorem Wk.Wv {w:A}{Z bm:Nat}{i k l:Int}(h:Wk w Z bm i k l)(j:Int):Wk (w.setCell (O Z 1) (Y j)) Z bm j k l:=
 ⟨(aX _ _ _ _ pG).trans h.c0,bo _ _ _ h.c1,(aX _ _ _ _ pG).trans h.c2,(aX _ _ _ _ pG).trans h.c3,
  (bR _ _ _ _).trans h.f1,(bR _ _ _ _).trans h.f2,(bR _ _ _ _).trans h.f3,by simpa[World.setCell]using h.lt⟩
theorem Wk.aeM {w:A}{Z bm:Nat}{i k l:Int}(h:Wk w Z bm i k l)(j:Int):Wk (w.setCell (O Z 2) (Y j)) Z bm i j l:=
 ⟨(aX _ _ _ _ pG).trans h.c0,(aX _ _ _ _ pG).trans h.c1,bo _ _ _ h.c2,(aX _ _ _ _ pG).trans h.c3,
  (bR _ _ _ _).trans h.f1,(bR _ _ _ _).trans h.f2,(bR _ _ _ _).trans h.f3,by simpa[World.setCell]using h.lt⟩
theorem Wk.aeN {w:A}{Z bm:Nat}{i k l:Int}(h:Wk w Z bm i k l)(j:Int):Wk (w.setCell (O Z 3) (Y j)) Z bm i k j:=
 ⟨(aX _ _ _ _ pG).trans h.c0,(aX _ _ _ _ pG).trans h.c1,(aX _ _ _ _ pG).trans h.c2,bo _ _ _ h.c3,
  (bR _ _ _ _).trans h.f1,(bR _ _ _ _).trans h.f2,(bR _ _ _ _).trans h.f3,by simpa[World.setCell]using h.lt⟩
theorem Tk.kept {w w':A}{Z bm gt Z1:Nat}{U:List ZY}(h:Tk w bm gt Z1 U)(z:w.grownBy w' (some Z))(F:bm≠Z)(h2:gt≠Z):Tk w' bm gt Z1 U:=
 ⟨z.cell h.m0 pW,λj u hu=>z.cell (h.row j u hu) rv,dH h.Ya z.size,dH h.VG z.size⟩
theorem YJ (W:A)(b o:Nat)(u:aF)(b' o':Nat)(h:b'≠b\/o'≠o):(W.setCell (O b o) u).cell? (O b' o')=W.cell? (O b' o'):=
 aX _ _ _ _ (by
  intro e;simp only[Addr.mk.injEq]at e;omega)
def Y' (U:List ZY)(i:Nat):aA:=((U[i]?).map (·.s)).getD ⟨#[]⟩
theorem I3 (U:List ZY)(i:Nat)(kind line:Int)(Z bm gt Z1:Nat)(w:A)(hn:U.length<=2000)(hi:i<=4000)(hW:Wk w Z bm i kind line)(hT:Tk w bm gt Z1 U):aq 95 #[ai Z] w λe w'=>e=.returned (.string (Y' U i))/\w.grownBy w' (some Z)/\Wk w' Z bm i kind line:=by
 have HW:Hid (Wk w Z bm i kind line):=hW;obtain⟨c0,c1,_,_,_,_,_,_⟩:=hW;obtain⟨m0,row,_,_⟩:=hT;by_cases ZR:i<U.length
 ·obtain⟨t,aC⟩:∃t,U[i]?=some t:=⟨U[i],by simp[ZR]⟩;have bI:ak w gt (i*3) (.string t.s):=row _ _ (Kt U i t aC).1;have hp:Hid (Y' U i=t.s):=by unfold Hid Y';rw[aC];rfl
  have N4:(i:Int)<U.length:=J;have h0:(0:Int)<=(i:Int):=J;clear row aC;go_enter func95,ntmps95;go_wp2;go_quiet (fail);go_wp2;go_quiet (fail);go_wp2;go_ret;rw[hp.out];exact⟨rfl,(XN _ _ _).trans (XN _ _ _),(HW.out.drewN _).drewN _⟩
 ·have hp:Hid (Y' U i=⟨#[]⟩):=by unfold Hid Y';rw[bN J];rfl
  have N4:(U.length:Int)<=(i:Int):=J;clear row;go_enter func95,ntmps95;go_wp2;go_quiet (fail);go_wp2;go_ret;rw[hp.out];exact⟨rfl,XN _ _ _,HW.out.drewN _⟩
def Vc (aa:Bool)(k kind:Int):Int:=if aa&&kind==0 then k else kind
def U4 (aa:Bool)(kind l line:Int):Int:=if aa&&kind==0 then l else line
def Wi (U:List ZY)(i:Nat):Int:=((U[i]?).map λt=>(t.line:Int)).getD 0
def nH{P:Prop}(h:P:=by
 exact⟨rfl,⟨rfl,rfl,rfl,iw _,λ_ _ _=>rfl⟩,HW.out⟩):P:=h
theorem OL (U:List ZY)(i:Nat)(aa:Bool)(k kind line:Int)(Z bm gt Z1:Nat)(w:A)(hn:U.length<=2000)(hi:i<U.length)(F:bm≠Z)(h2:gt≠Z)(hW:Wk w Z bm i kind line)(hT:Tk w bm gt Z1 U):aq 96 #[ai Z,.bool aa,Y k] w λe w'=>e=.returned (.tuple #[])/\w.grownBy w' (some Z)/\
   Wk w' Z bm i (Vc aa k kind) (U4 aa kind (Wi U i) line):=by
 have HW:Hid (Wk w Z bm i kind line):=hW;obtain⟨c0,c1,c2,c3,f1,f2,f3,_⟩:=hW;obtain⟨m0,row,_,_⟩:=hT
 cases aa with
 |false=>
  go_enter func96,ntmps96;go_wp2;go_end0;exact nH
 |true=>
  by_cases I:(kind==0)=true
  ·obtain⟨t,aC⟩:∃t,U[i]?=some t:=⟨U[i],by simp[hi]⟩;have V7:ak w gt (i*3+2) (Y t.line):=row _ _ (Kt U i t aC).2.2;have hp:Hid (Wi U i=t.line):=by unfold Hid Wi;rw[aC];rfl
   have N4:(i:Int)<U.length:=J;have h0:(0:Int)<=(i:Int):=J;have e1:Hid (Vc true k kind=k/\U4 true kind (Wi U i) line=t.line):=by unfold Hid Vc U4;rw[I,hp.out];exact⟨rfl,rfl⟩
   have aV:=λW o u b' o' h=>YJ W Z o u b' o' h
   clear row aC hp;go_enter func96,ntmps96;go_wp2;go_region_held3 (λw'=>w'.cell? (ah Z)=some (ai bm)/\w'.cell? (O Z 1)=some (Y i)/\w'.cell? (ah bm)=some (aj gt U.length Z1)/\w'.cell? (O gt (i*3+2))=some (Y t.line)) (go_keep) (fail)
   go_wp2;go_end0;rw[e1.out.1,e1.out.2];exact⟨rfl,((ZC _ _ _ _).trans (ZC _ _ _ _)).trans (ZG _ _),((HW.out.aeM k).aeN _).drew⟩
  ·have I:(kind==0)=false:=qz;have e1:Hid (Vc true k kind=kind/\U4 true kind (Wi U i) line=line):=by unfold Hid Vc U4;rw[I];exact⟨rfl,rfl⟩
   go_enter func96,ntmps96;go_wp2;go_end0;rw[e1.out.1,e1.out.2];exact nH
theorem aeO (U:List ZY)(i:Nat)(kind line:Int)(Z bm gt Z1:Nat)(w:A)(hn:U.length<=2000)(hi:i<U.length)(F:bm≠Z)(h2:gt≠Z)(hW:Wk w Z bm i kind line)(hT:Tk w bm gt Z1 U):aq 141 #[ai Z] w λe w'=>e=.returned (.string (Y' U i))/\w.grownBy w' (some Z)/\Wk w' Z bm ((i+1:Nat):Int) kind line:=by
 have HW:Hid (Wk w Z bm i kind line):=hW;obtain⟨c0,c1,c2,c3,f1,f2,f3,_⟩:=hW;obtain⟨m0,row,_,_⟩:=hT;obtain⟨t,aC⟩:∃t,U[i]?=some t:=⟨U[i],by simp[hi]⟩;have bI:ak w gt (i*3) (.string t.s):=row _ _ (Kt U i t aC).1;have hp:Hid (Y' U i=t.s):=by unfold Hid Y';rw[aC];rfl
 have N4:(i:Int)<U.length:=J;have h0:(0:Int)<=(i:Int):=J;clear row aC;go_enter func141,ntmps141;go_wp2;go_quiet (fail);go_wp2;go_ret;rw[hp.out];exact⟨rfl,(XN _ _ _).trans (ZC _ _ _ _),by rw[show(((i+1:Nat):Int))=(i:Int)+1 by omega];exact(HW.out.drewN _).Wv _⟩
def XO (s:aA):List aA->Nat->Int
 |[],_=>-1
 |a::l,k=>if a.toList==s.toList then(k:Int)else XO s l (k+1)
def RQ (w:A)(v:aF)(size:Nat)(names:List aA):Prop:=
 (names=[]/\v=af)\/∃g cap,v=aj g names.length cap/\∀k a,names[k]?=some a->w.cell? (O g (k*size))=some (.string a)
def pw{P:Prop}(h:P:=by
 go_wp2;go_ret;exact⟨QX hR.out.symm,rfl⟩):P:=h
def jr{P:Prop}(h:P:=by
 go_wp2
 go_loop [5] (λvi=>∃k:Nat,k<=names.length/\vi=Y k/\Hid (XO s (names.drop k) k=XO s names 0)) (λvi=>names.length-(intOf vi).toNat)
 case atStart=>exact⟨0,J,rfl,rfl⟩
 case round=>
  obtain⟨k,I,rfl,hF⟩:=hrel;by_cases ZR:k<names.length
  ·rcases HN.out with⟨h,_⟩|⟨g,cap,rfl,Yl⟩
   ·rw[h]at ZR;simp at ZR
   obtain⟨a,GP⟩:∃a,names[k]?=some a:=⟨names[k],by simp[ZR]⟩;have hc:=Yl k a GP;have hd:names.drop k=a::names.drop (k+1):=by
    rw[aR ZR];simp[ZR]at GP;rw[GP]
   rw[hd]at hF;have N4:(k:Int)<names.length:=J;have h0:(0:Int)<=(k:Int):=J;by_cases he:(a.toList==s.toList)=true
   ·have hR:Hid (XO s names 0=(k:Int)):=tu;clear Yl GP hd hF;exact pw
   ·have he:(a.toList==s.toList)=false:=by simpa using he
    have hR:Hid (XO s (names.drop (k+1)) (k+1)=XO s names 0):=tu;clear Yl GP hd hF;go_wp2
    go_round
    case rel=>exact⟨k+1,J,pQ,hR⟩
    case measure=>simp[intOf];omega
  ·have hR:Hid (XO s names 0=-1):=by
    rw[<-hF.out,bE J];rfl
   have Ww:(names.length:Int)<=(k:Int):=J;obtain⟨a0,cap,rfl⟩:∃a cap,vv=Value.slice a names.length cap:=by
    rcases HN.out with⟨h,rfl⟩|⟨g,cap,rfl,_⟩
    ·exact⟨_,_,by rw[h];rfl⟩
    ·exact⟨_,_,rfl⟩
   clear hF ZR;exact pw):P:=h
theorem Cg (s:aA)(names:List aA)(vv:aF)(bm:Nat)(w:A)(hl:names.length<=100000)(hm:ak w bm 1 vv)(hN:RQ w vv 3 names):aq 140 #[ai bm,.string s] w λe w'=>e=.returned (Y (XO s names 0))/\w'=w:=by
 have HN:Hid (RQ w vv 3 names):=hN;clear hN;go_enter func140,ntmps140;exact jr
theorem Cf (s:aA)(names:List aA)(vv:aF)(bm:Nat)(w:A)(hl:names.length<=100000)(hm:ak w bm 2 vv)(hN:RQ w vv 2 names):aq 102 #[ai bm,.string s] w λe w'=>e=.returned (Y (XO s names 0))/\w'=w:=by
 have HN:Hid (RQ w vv 2 names):=hN;clear hN;go_enter func102,ntmps102;exact jr
end
section
open Go.RowKit
attribute [local go_sem ↓] Go.wp_at_zero Go.wp_at_succ
theorem Z8 {p:Prop}(h:p):Hid p:=h
theorem Xd {p:Prop}(h:Hid p):p:=h
def Yg (n most:Int):Bool:=decide (n< -most)||decide (most<n)
def ot{P:Prop}(h:P:=by
 go_wp2;go_ret;refine⟨rfl,(We.out.trans U3.out).trans (ZC _ _ _ _),?_⟩;rw[HB.out];exact Uc.out.Wv _):P:=h
def jy{P:Prop}(h:P:=by
 have Xz:=I3 U i kind line Z bm gt Z1 w hn J HW.out HT.out;rw[HS.out]at Xz;have OJ:=λw=>EL s HI.out w
 rw[MR.out]at OJ;have UM:=Z8 Xz;have GN:=Z8 OJ;clear Xz OJ;go_enter func98,ntmps98;go_wp2_with fail;refine(Xd UM).mono ?_;rintro e w1 ⟨rfl,ZZ,XW⟩;have UA:Hid (Wk w1 Z bm i kind line):=XW;have Uz:Hid (Tk w1 bm gt Z1 U):=HT.out.kept ZZ F h2;have We:Hid (w.grownBy w1 (some Z)):=ZZ;clear XW ZZ;go_wp2_with fail;refine(Xd GN _).mono ?_;rintro e w2 ⟨rfl,Zf⟩;subst w2;go_wp2_with fail;refine(OL U i true 5 kind line Z bm gt Z1 _ hn hi F h2 UA.out Uz.out).mono ?_;rintro e w2 ⟨rfl,ZU,W7⟩;have Uc:Hid (Wk w2 Z bm i (Vc true 5 kind) (U4 true kind (Wi U i) line)):=W7;have U3:Hid (w1.grownBy w2 (some Z)):=ZU;obtain⟨c0,c1,c2,c3,f1,f2,f3,_⟩:=W7;clear ZU;exact ot):P:=h
def jF{P:Prop}(h:P:=by
 exact ot):P:=h
theorem aeP (U:List ZY)(i:Nat)(most kind line:Int)(Z bm gt Z1:Nat)(w:A)(hn:U.length<=2000)(hi:i<U.length)(F:bm≠Z)(h2:gt≠Z)(bu:0<=most)(bq:most<=10000000)(hI:UU (Y' U i))(hW:Wk w Z bm i kind line)(hT:Tk w bm gt Z1 U):aq 98 #[ai Z,Y most] w λe w'=>e=.returned (Y (YU (Y' U i)))/\w.grownBy w' (some Z)/\
   Wk w' Z bm ((i:Int)+1) (Vc (Yg (YU (Y' U i)) most) 5 kind) (U4 (Yg (YU (Y' U i)) most) kind (Wi U i) line):=by
 have HW:Hid (Wk w Z bm i kind line):=hW;have HT:Hid (Tk w bm gt Z1 U):=hT;have HI:Hid (UU (Y' U i)):=hI;clear hW hT hI;obtain⟨s,hs⟩:∃s,Y' U i=s:=⟨_,rfl⟩;rw[hs]at HI⊢;have HS:Hid (Y' U i=s):=hs;obtain⟨n,bH⟩:∃n,YU s=n:=⟨_,rfl⟩;rw[bH];have MR:Hid (YU s=n):=bH;clear hs bH;by_cases Yu:n< -most
 ·have HB:Hid (Yg n most=true):=by unfold Hid Yg;simp[Yu]
  exact jy
 ·by_cases bn:most<n
  ·have HB:Hid (Yg n most=true):=by unfold Hid Yg;simp[bn]
   exact jy
  ·have HB:Hid (Yg n most=false):=by unfold Hid Yg;simp;omega
   have aM:decide (most<n)=false:=uz;have bg:decide (n< -most)=false:=tP;have Xz:=I3 U i kind line Z bm gt Z1 w hn J HW.out HT.out;rw[HS.out]at Xz;have OJ:=λw=>EL s HI.out w
   rw[MR.out]at OJ;have UM:=Z8 Xz;have GN:=Z8 OJ;clear Xz OJ;go_enter func98,ntmps98;go_wp2_with fail;refine(Xd UM).mono ?_;rintro e w1 ⟨rfl,ZZ,XW⟩;have UA:Hid (Wk w1 Z bm i kind line):=XW;have Uz:Hid (Tk w1 bm gt Z1 U):=HT.out.kept ZZ F h2;have We:Hid (w.grownBy w1 (some Z)):=ZZ;clear XW ZZ;go_wp2_with fail;refine(Xd GN _).mono ?_;rintro e w2 ⟨rfl,Zf⟩;subst w2;go_wp2_with fail;refine(OL U i false 5 kind line Z bm gt Z1 _ hn hi F h2 UA.out Uz.out).mono ?_;rintro e w2 ⟨rfl,ZU,W7⟩;have Uc:Hid (Wk w2 Z bm i (Vc false 5 kind) (U4 false kind (Wi U i) line)):=W7;have U3:Hid (w1.grownBy w2 (some Z)):=ZU;obtain⟨c0,c1,c2,c3,f1,f2,f3,_⟩:=W7;clear ZU;exact jF
def Kj (v:aF)(Z:Nat):Prop:=v.ownBlock≠some Z
theorem RQ.kept {w w':A}{v:aF}{size Z:Nat}{names:List aA}(h:RQ w v size names)(z:w.grownBy w' (some Z))(ZP:Kj v Z):RQ w' v size names:=by
 rcases h with h|⟨g,cap,rfl,h⟩
 ·exact .inl h
 ·exact .inr ⟨g,cap,rfl,λk a ha=>z.cell (h k a ha) (λe=>ZP e)⟩
def jt{P:Prop}(h:P:=by
 have Xz:=I3 U i kind line Z bm gt Z1 w hn J HW.out HT.out;rw[HS.out]at Xz;have UM:=Z8 Xz;clear Xz;go_enter func97,ntmps97;go_wp2_with fail;refine(Xd UM).mono ?_;rintro e w1 ⟨rfl,ZZ,XW⟩;have UA:Hid (Wk w1 Z bm i kind line):=XW;have Uz:Hid (Tk w1 bm gt Z1 U):=HT.out.kept ZZ F h2;have We:Hid (w.grownBy w1 (some Z)):=ZZ;have P9:Hid (ak w1 bm 1 vv/\ak w1 bm 2 vl):=⟨ZZ.cell HM.out.1 pW,ZZ.cell HM.out.2 pW⟩;have GM:Hid (RQ w1 vv 3 names/\RQ w1 vl 2 lists):=⟨MR.out.1.kept ZZ Ub.out.1,MR.out.2.kept ZZ Ub.out.2⟩;have c0:=XW.c0;clear XW ZZ;go_wp2_with fail;refine(Cg s names vv bm _ RP P9.out.1 GM.out.1).mono ?_;rintro e w2 ⟨rfl,Zf⟩;subst w2;rw[HV.out];go_wp2_with fail;refine(Cf s lists vl bm _ SZ P9.out.2 GM.out.2).mono ?_;rintro e w2 ⟨rfl,Zf⟩;subst w2;rw[HL.out];go_wp2_with fail;refine(OL U i true 4 kind line Z bm gt Z1 _ hn hi F h2 UA.out Uz.out).mono ?_;rintro e w2 ⟨rfl,ZU,W7⟩;have Uc:Hid (Wk w2 Z bm i (Vc true 4 kind) (U4 true kind (Wi U i) line)):=W7;have U3:Hid (w1.grownBy w2 (some Z)):=ZU;obtain⟨d0,d1,d2,d3,f1,f2,f3,_⟩:=W7;clear ZU c0;exact ot):P:=h
theorem aeQ (U:List ZY)(i:Nat)(kind line:Int)(Z bm gt Z1:Nat)(vv vl:aF)(names lists:List aA)(w:A)(hn:U.length<=2000)(hi:i<U.length)(F:bm≠Z)(h2:gt≠Z)(RP:names.length<=100000)(SZ:lists.length<=100000)(hM:ak w bm 1 vv/\ak w bm 2 vl)(aw:RQ w vv 3 names/\RQ w vl 2 lists)(ar:Kj vv Z/\Kj vl Z)(hW:Wk w Z bm i kind line)(hT:Tk w bm gt Z1 U):aq 97 #[ai Z] w λe w'=>e=.returned (.string (Y' U i))/\w.grownBy w' (some Z)/\
   Wk w' Z bm ((i:Int)+1) (Vc (decide (0<=XO (Y' U i) names 0)||decide (0<=XO (Y' U i) lists 0)) 4 kind)
    (U4 (decide (0<=XO (Y' U i) names 0)||decide (0<=XO (Y' U i) lists 0)) kind (Wi U i) line):=by
 have HW:Hid (Wk w Z bm i kind line):=hW;have HT:Hid (Tk w bm gt Z1 U):=hT;have HM:=Z8 hM;have MR:=Z8 aw;have Ub:=Z8 ar;clear hW hT hM aw ar;obtain⟨s,hs⟩:∃s,Y' U i=s:=⟨_,rfl⟩;rw[hs];have HS:Hid (Y' U i=s):=hs;obtain⟨x,hx⟩:∃x,XO s names 0=x:=⟨_,rfl⟩;obtain⟨y,hy⟩:∃y,XO s lists 0=y:=⟨_,rfl⟩;rw[hx,hy];have HV:Hid (XO s names 0=x):=hx;have HL:Hid (XO s lists 0=y):=hy;clear hs hx hy;by_cases Yu:0<=x
 ·have HB:Hid ((decide (0<=x)||decide (0<=y))=true):=by unfold Hid;simp[Yu]
  exact jt
 ·by_cases bn:0<=y
  ·have HB:Hid ((decide (0<=x)||decide (0<=y))=true):=by unfold Hid;simp[bn]
   exact jt
  ·have HB:Hid ((decide (0<=x)||decide (0<=y))=false):=by unfold Hid;simp;omega
   have aM:decide (0<=y)=false:=uz;have bg:decide (0<=x)=false:=tP;have Xz:=I3 U i kind line Z bm gt Z1 w hn J HW.out HT.out;rw[HS.out]at Xz;have UM:=Z8 Xz;clear Xz;go_enter func97,ntmps97;go_wp2_with fail;refine(Xd UM).mono ?_;rintro e w1 ⟨rfl,ZZ,XW⟩;have UA:Hid (Wk w1 Z bm i kind line):=XW;have Uz:Hid (Tk w1 bm gt Z1 U):=HT.out.kept ZZ F h2;have We:Hid (w.grownBy w1 (some Z)):=ZZ;have P9:Hid (ak w1 bm 1 vv/\ak w1 bm 2 vl):=⟨ZZ.cell HM.out.1 pW,ZZ.cell HM.out.2 pW⟩;have GM:Hid (RQ w1 vv 3 names/\RQ w1 vl 2 lists):=⟨MR.out.1.kept ZZ Ub.out.1,MR.out.2.kept ZZ Ub.out.2⟩;have c0:=XW.c0;clear XW ZZ;go_wp2_with fail;refine(Cg s names vv bm _ RP P9.out.1 GM.out.1).mono ?_;rintro e w2 ⟨rfl,Zf⟩;subst w2;rw[HV.out];go_wp2_with fail;refine(Cf s lists vl bm _ SZ P9.out.2 GM.out.2).mono ?_;rintro e w2 ⟨rfl,Zf⟩;subst w2;rw[HL.out];go_wp2_with fail;refine(OL U i false 4 kind line Z bm gt Z1 _ hn hi F h2 UA.out Uz.out).mono ?_;rintro e w2 ⟨rfl,ZU,W7⟩;have Uc:Hid (Wk w2 Z bm i (Vc false 4 kind) (U4 false kind (Wi U i) line)):=W7;have U3:Hid (w1.grownBy w2 (some Z)):=ZU;obtain⟨d0,d1,d2,d3,f1,f2,f3,_⟩:=W7;clear ZU c0;exact jF
end
section
open Go.RowKit
attribute [local go_sem ↓] Go.wp_at_zero Go.wp_at_succ
structure Y7 where
 name:aA
 low:Int
 high:Int
def LM (w:A)(v:aF)(vars:List Y7):Prop:=
 (vars=[]/\v=af)\/∃g cap,v=aj g vars.length cap/\∀k x,vars[k]?=some x->
  w.cell? (O g (k*3))=some (.string x.name)/\w.cell? (O g (k*3+1))=some (Y x.low)/\w.cell? (O g (k*3+2))=some (Y x.high)
def Ua (vars:List Y7):List aA:=vars.map (·.name)
theorem LM.names {w:A}{v:aF}{vars:List Y7}(h:LM w v vars):RQ w v 3 (Ua vars):=by
 rcases h with⟨rfl,rfl⟩|⟨g,cap,rfl,h⟩
 ·exact .inl ⟨rfl,rfl⟩
 ·refine .inr ⟨g,cap,by simp[Ua],λk a ha=> ?_⟩
  simp only[Ua,dR,bK]at ha;obtain⟨x,hx,rfl⟩:=ha;exact(h k x hx).1
theorem LM.kept {w w':A}{v:aF}{Z:Nat}{vars:List Y7}(h:LM w v vars)(z:w.grownBy w' (some Z))(ZP:Kj v Z):LM w' v vars:=by
 rcases h with h|⟨g,cap,rfl,h⟩
 ·exact .inl h
 ·have bp:some g≠some Z:=λe=>ZP e
  exact .inr ⟨g,cap,rfl,λk a ha=>⟨z.cell (h k a ha).1 bp,z.cell (h k a ha).2.1 bp,z.cell (h k a ha).2.2 bp⟩⟩
theorem Tk.drew {w:A}{bm gt Z1:Nat}{U:List ZY}(h:Tk w bm gt Z1 U):Tk w.drew bm gt Z1 U:=⟨h.m0,h.row,h.Ya,h.VG⟩
theorem aeR (s:aA)(l:List aA)(k:Nat):-1<=XO s l k/\XO s l k<k+l.length/\(XO s l k=-1\/k<=XO s l k):=by
 induction l generalizing k with
 |nil=>simp[XO];omega
 |cons a l ih=>
  simp only[XO];split
  ·simp;omega
  ·have:=ih (k+1);simp;omega
theorem EB {U:List ZY}{i:Nat}{s:aA}(hs:Y' U i=s){kind line:Int}{Z bm gt Z1:Nat}{w:A}(hn:U.length<=2000)(hi:i<=4000)(hW:Wk w Z bm i kind line)(hT:Tk w bm gt Z1 U):aq 95 #[ai Z] w λe w'=>e=.returned (.string s)/\w.grownBy w' (some Z)/\Wk w' Z bm i kind line:=by
 rw[<-hs];exact I3 U i kind line Z bm gt Z1 w hn hi hW hT
theorem EA {s:aA}{names:List aA}{x:Int}(hx:XO s names 0=x){vv:aF}{bm:Nat}{w:A}(hl:names.length<=100000)(hm:ak w bm 1 vv)(hN:RQ w vv 3 names):aq 140 #[ai bm,.string s] w λe w'=>e=.returned (Y x)/\w'=w:=by
 rw[<-hx];exact Cg s names vv bm w hl hm hN
def OI (vars:List Y7)(x:Int):Bool:=match vars[x.toNat]? with
 |some v=>decide (v.low<0)||decide (1<v.high)
 |none=>false
def oL{P:Prop}(h:P:=by
 have U3:Hid (w1.grownBy w2 (some Z)):=ZU;obtain⟨q0,q1,q2,q3,f1,f2,f3,_⟩:=W7;clear ZU;exact jF):P:=h
theorem xO (Yp:Bool)(U:List ZY)(i:Nat)(kind line:Int)(Z bm gt Z1:Nat)(vv:aF)(names:List aA)(w:A)(hn:U.length<=2000)(hi:i<U.length)(F:bm≠Z)(h2:gt≠Z)(hl:names.length<=100000)(hM:ak w bm 1 vv)(ax:RQ w vv 3 names)(ar:Kj vv Z)(ht:Yp=false\/XO (Y' U i) names 0<0)(hW:Wk w Z bm i kind line)(hT:Tk w bm gt Z1 U):aq 100 #[ai Z,.bool Yp] w λe w'=>e=.returned (Y (XO (Y' U i) names 0))/\w.grownBy w' (some Z)/\
   Wk w' Z bm ((i:Int)+1) (Vc (decide (XO (Y' U i) names 0<0)) 4 kind) (U4 (decide (XO (Y' U i) names 0<0)) kind (Wi U i) line):=by
 have HW:Hid (Wk w Z bm i kind line):=hW;have HT:Hid (Tk w bm gt Z1 U):=hT;have HM:=Z8 hM;have GL:=Z8 ax;have Ub:=Z8 ar;have P8:i<=4000:=J;have c0:=hW.c0;obtain⟨s,hs⟩:∃s,Y' U i=s:=⟨_,rfl⟩;rw[hs]at ht⊢;have HS:Hid (Y' U i=s):=hs;obtain⟨x,hx⟩:∃x,XO s names 0=x:=⟨_,rfl⟩;rw[hx]at ht⊢;have HX:Hid (XO s names 0=x):=hx;clear hs hx hW hT hM ax ar;by_cases Yu:x<0
 ·have HB:Hid (decide (x<0)=true):=by unfold Hid;simp[Yu]
  have az:decide (0<=x)=false:=pI;clear ht;go_enter func100,ntmps100;go_wp2;go_region_held3 (λw'=>w'.cell? (ah Z)=some (ai bm)) (go_keep)
   (first|(go_at_call 95;refine(EB HS.out hn P8 HW.out.drew HT.out.drew).mono ?_;rintro e w1 ⟨rfl,ZZ,XW⟩;have d0:=XW.c0)|(go_at_call 140;refine(EA HX.out hl (ZZ.cell HM.out pW) (GL.out.kept ((ZG _ _).trans ZZ) Ub.out)).mono ?_;rintro e w2 ⟨rfl,Zf⟩;subst w2))
  have UA:Hid (Wk w1 Z bm i kind line):=XW;have Uz:Hid (Tk w1 bm gt Z1 U):=HT.out.kept ((ZG _ _).trans ZZ) F h2;have We:Hid (w.grownBy w1 (some Z)):=(ZG _ _).trans ZZ;have P9:Hid (ak w1 bm 1 vv):=ZZ.cell HM.out pW;clear XW ZZ d0;go_wp2_with fail;refine(OL U i true 4 kind line Z bm gt Z1 _ hn hi F h2 UA.out Uz.out).mono ?_;rintro e w2 ⟨rfl,ZU,W7⟩;have Uc:Hid (Wk w2 Z bm i (Vc true 4 kind) (U4 true kind (Wi U i) line)):=W7;exact oL
 ·obtain rfl:Yp=false:=by rcases ht with h|h;exact h;exact absurd h Yu
  have HB:Hid (decide (x<0)=false):=by unfold Hid;simpa using Yu
  have az:decide (x<0)=false:=tP;have bz:decide (0<=x)=true:=pI;clear ht;go_enter func100,ntmps100;go_wp2;go_region_held3 (λw'=>w'.cell? (ah Z)=some (ai bm)) (go_keep)
   (first|(go_at_call 95;refine(EB HS.out hn P8 HW.out.drew HT.out.drew).mono ?_;rintro e w1 ⟨rfl,ZZ,XW⟩;have d0:=XW.c0)|(go_at_call 140;refine(EA HX.out hl (ZZ.cell HM.out pW) (GL.out.kept ((ZG _ _).trans ZZ) Ub.out)).mono ?_;rintro e w2 ⟨rfl,Zf⟩;subst w2))
  have UA:Hid (Wk w1 Z bm i kind line):=XW;have Uz:Hid (Tk w1 bm gt Z1 U):=HT.out.kept ((ZG _ _).trans ZZ) F h2;have We:Hid (w.grownBy w1 (some Z)):=(ZG _ _).trans ZZ;have P9:Hid (ak w1 bm 1 vv):=ZZ.cell HM.out pW;clear XW ZZ d0;go_wp2_with fail;refine(OL U i false 4 kind line Z bm gt Z1 _ hn hi F h2 UA.out Uz.out).mono ?_;rintro e w2 ⟨rfl,ZU,W7⟩;have Uc:Hid (Wk w2 Z bm i (Vc false 4 kind) (U4 false kind (Wi U i) line)):=W7;exact oL
def nZ{P:Prop}(h:P:=by
 have Ki:Hid (w2.grownBy w3 (some Z)):=ZJ;clear q0 q1 q2 q3 f1 f2 f3 Kh Pn Sm;obtain⟨q0,q1,q2,q3,f1,f2,f3,_⟩:=Rf;clear ZJ;go_wp2;go_ret;refine⟨rfl,((We.out.trans U3.out).trans Ki.out).trans (ZC _ _ _ _),?_⟩;rw[HB.out];exact Kg.out.Wv _):P:=h
def jo{P:Prop}(h:P:=by
 go_enter func100,ntmps100;go_wp2;go_region_held3 (λw'=>w'.cell? (ah Z)=some (ai bm)) (go_keep)
  (first|(go_at_call 95;refine(EB HS.out hn P8 HW.out.drew HT.out.drew).mono ?_;rintro e w1 ⟨rfl,ZZ,XW⟩;have d0:=XW.c0)|(go_at_call 140;refine(EA HX.out hl (ZZ.cell HM.out pW) (GL.out.kept ((ZG _ _).trans ZZ) Ub.out)).mono ?_;rintro e w2 ⟨rfl,Zf⟩;subst w2))
 have UA:Hid (Wk w1 Z bm i kind line):=XW;have Uz:Hid (Tk w1 bm gt Z1 U):=HT.out.kept ((ZG _ _).trans ZZ) F h2;have We:Hid (w.grownBy w1 (some Z)):=(ZG _ _).trans ZZ;have P9:Hid (ak w1 bm 1 (aj g vars.length cap)):=ZZ.cell HM.out pW;clear XW ZZ d0;go_wp2_with fail;refine(OL U i false 4 kind line Z bm gt Z1 _ hn hi F h2 UA.out Uz.out).mono ?_;rintro e w2 ⟨rfl,ZU,W7⟩;have Uc:Hid (Wk w2 Z bm i kind line):=W7;have SH:Hid (Tk w2 bm gt Z1 U):=Uz.out.kept ZU F h2;have U3:Hid (w1.grownBy w2 (some Z)):=ZU;have Ce:=(xN.out.kept (We.out.trans ZU) Ub.out).names;have I2:ak w2 g (X*3+1) (Y v.low)/\ak w2 g (X*3+2) (Y v.high):=
  ⟨ZU.cell (We.out.cell I1.out.1 LK.out) LK.out,ZU.cell (We.out.cell I1.out.2 LK.out) LK.out⟩
 obtain⟨Kh,Pn⟩:=I2;have Sm:ak w2 bm 1 (aj g vars.length cap):=ZU.cell P9.out pW;obtain⟨q0,q1,q2,q3,f1,f2,f3,_⟩:=W7;clear ZU Ce;go_wp2_with fail;refine(OL U i true 7 kind line Z bm gt Z1 _ hn hi F h2 Uc.out SH.out).mono ?_;rintro e w3 ⟨rfl,ZJ,Rf⟩;have Kg:Hid (Wk w3 Z bm i (Vc true 7 kind) (U4 true kind (Wi U i) line)):=Rf;exact nZ):P:=h
theorem aeS (U:List ZY)(i:Nat)(kind line:Int)(Z bm gt Z1:Nat)(vv:aF)(vars:List Y7)(w:A)(hn:U.length<=2000)(hi:i<U.length)(F:bm≠Z)(h2:gt≠Z)(bh:vars.length<=100000)(hM:ak w bm 1 vv)(au:LM w vv vars)(ar:Kj vv Z)(ht:0<=XO (Y' U i) (Ua vars) 0)(hW:Wk w Z bm i kind line)(hT:Tk w bm gt Z1 U):aq 100 #[ai Z,.bool true] w λe w'=>e=.returned (Y (XO (Y' U i) (Ua vars) 0))/\w.grownBy w' (some Z)/\
   Wk w' Z bm ((i:Int)+1) (Vc (OI vars (XO (Y' U i) (Ua vars) 0)) 7 kind) (U4 (OI vars (XO (Y' U i) (Ua vars) 0)) kind (Wi U i) line):=by
 have HW:Hid (Wk w Z bm i kind line):=hW;have HT:Hid (Tk w bm gt Z1 U):=hT;have xN:=Z8 au;have GL:=Z8 au.names;have Ub:=Z8 ar;have P8:i<=4000:=J;have c0:=hW.c0;obtain⟨s,hs⟩:∃s,Y' U i=s:=⟨_,rfl⟩;rw[hs]at ht⊢;have HS:Hid (Y' U i=s):=hs;have bD:=aeR s (Ua vars) 0;have bQ:(Ua vars).length=vars.length:=by simp[Ua]
 have hl:(Ua vars).length<=100000:=J;obtain⟨X,hX⟩:∃X:Nat,XO s (Ua vars) 0=(X:Int):=⟨(XO s (Ua vars) 0).toNat,J⟩;rw[hX]at bD⊢;have aJ:X<vars.length:=J;have HX:Hid (XO s (Ua vars) 0=(X:Int)):=hX;obtain⟨v,hv⟩:∃v,vars[X]?=some v:=⟨vars[X],by simp[aJ]⟩;rcases au with⟨h,_⟩|⟨g,cap,rfl,Yl⟩
 ·rw[h]at aJ;simp at aJ
 have HM:=Z8 hM;have I1:Hid (ak w g (X*3+1) (Y v.low)/\ak w g (X*3+2) (Y v.high)):=⟨(Yl X v hv).2.1,(Yl X v hv).2.2⟩;have LK:Hid (some g≠some Z):=λe=>ar e
 have aG:(X:Int)<vars.length:=J;have SJ:(0:Int)<=(X:Int):=J;have xM:decide ((X:Int)<0)=false:=pG;have bg:decide ((0:Int)<=(X:Int))=true:=pG;have av:Hid (OI vars (X:Int)=(decide (v.low<0)||decide (1<v.high))):=by
  unfold Hid OI;rw[dJ,hv]
 clear hs hX hW hT hM ar Yl hv bD bQ ht;by_cases Yu:v.low<0
 ·have HB:Hid (OI vars (X:Int)=true):=by unfold Hid;rw[av.out];simp[Yu]
  exact jo
 ·by_cases bn:1<v.high
  ·have HB:Hid (OI vars (X:Int)=true):=by unfold Hid;rw[av.out];simp[bn]
   have a8:decide (v.low<0)=false:=tP;have aB:decide (1<v.high)=true:=uz;exact jo
  ·have HB:Hid (OI vars (X:Int)=false):=by unfold Hid;rw[av.out];simp;omega
   have a8:decide (v.low<0)=false:=tP;have aB:decide (1<v.high)=false:=uz;go_enter func100,ntmps100;go_wp2;go_region_held3 (λw'=>w'.cell? (ah Z)=some (ai bm)) (go_keep)
    (first|(go_at_call 95;refine(EB HS.out hn P8 HW.out.drew HT.out.drew).mono ?_;rintro e w1 ⟨rfl,ZZ,XW⟩;have d0:=XW.c0)|(go_at_call 140;refine(EA HX.out hl (ZZ.cell HM.out pW) (GL.out.kept ((ZG _ _).trans ZZ) Ub.out)).mono ?_;rintro e w2 ⟨rfl,Zf⟩;subst w2))
   have UA:Hid (Wk w1 Z bm i kind line):=XW;have Uz:Hid (Tk w1 bm gt Z1 U):=HT.out.kept ((ZG _ _).trans ZZ) F h2;have We:Hid (w.grownBy w1 (some Z)):=(ZG _ _).trans ZZ;have P9:Hid (ak w1 bm 1 (aj g vars.length cap)):=ZZ.cell HM.out pW;clear XW ZZ d0;go_wp2_with fail;refine(OL U i false 4 kind line Z bm gt Z1 _ hn hi F h2 UA.out Uz.out).mono ?_;rintro e w2 ⟨rfl,ZU,W7⟩;have Uc:Hid (Wk w2 Z bm i kind line):=W7;have SH:Hid (Tk w2 bm gt Z1 U):=Uz.out.kept ZU F h2;have U3:Hid (w1.grownBy w2 (some Z)):=ZU;have Ce:=(xN.out.kept (We.out.trans ZU) Ub.out).names;have I2:ak w2 g (X*3+1) (Y v.low)/\ak w2 g (X*3+2) (Y v.high):=
    ⟨ZU.cell (We.out.cell I1.out.1 LK.out) LK.out,ZU.cell (We.out.cell I1.out.2 LK.out) LK.out⟩
   obtain⟨Kh,Pn⟩:=I2;have Sm:ak w2 bm 1 (aj g vars.length cap):=ZU.cell P9.out pW;obtain⟨q0,q1,q2,q3,f1,f2,f3,_⟩:=W7;clear ZU Ce;go_wp2_with fail;refine(OL U i false 7 kind line Z bm gt Z1 _ hn hi F h2 Uc.out SH.out).mono ?_;rintro e w3 ⟨rfl,ZJ,Rf⟩;have Kg:Hid (Wk w3 Z bm i (Vc false 7 kind) (U4 false kind (Wi U i) line)):=Rf;exact nZ
end
section
open Go.RowKit
structure XI (w:A)(Z bm gt Z1:Nat)(U:List ZY)(vv:aF)(vars:List Y7)(i:Nat)(kind line:Int):Prop where
 wk:Wk w Z bm i kind line
 tk:Tk w bm gt Z1 U
 hm:w.cell? (O bm 1)=some vv
 va:LM w vv vars
 ne:Kj vv Z
 F:bm≠Z
 h2:gt≠Z
 hn:U.length<=2000
 hl:vars.length<=100000
 I0:∀b,vv.ownBlock=some b->b<w.heap.size
structure NW (Z bm gt:Nat)(vv:aF)(q:Nat):Prop where
 a:q≠Z
 b:q≠bm
 c:q≠gt
 d:vv.ownBlock≠some q
variable {w w':A}{Z bm gt Z1:Nat}{U:List ZY}{vv:aF}{vars:List Y7}{i:Nat}{kind line:Int}
theorem XI.LJ (h:XI w Z bm gt Z1 U vv vars i kind line){b:Nat}(hb:w.heap.size<=b):NW Z bm gt vv b:=
 ⟨by have:=h.wk.lt;omega,by have:=h.tk.Ya;omega,by have:=h.tk.VG;omega,λe=>by have:=h.I0 b e;omega⟩
theorem XI.frame (h:XI w Z bm gt Z1 U vv vars i kind line)(hs:w.heap.size<=w'.heap.size)(V8:w'.heap[Z]?=w.heap[Z]?)(UL:w'.heap[bm]?=w.heap[bm]?)(Vm:w'.heap[gt]?=w.heap[gt]?)(hv:∀b,vv.ownBlock=some b->w'.heap[b]?=w.heap[b]?):XI w' Z bm gt Z1 U vv vars i kind line where
 wk:=⟨(cJ (a:=(ah Z)) V8).trans h.wk.c0,(cJ (a:=(O Z 1)) V8).trans h.wk.c1,(cJ (a:=(O Z 2)) V8).trans h.wk.c2,(cJ (a:=(O Z 3)) V8).trans h.wk.c3,
  (bL (a:=(O Z 1)) V8).trans h.wk.f1,(bL (a:=(O Z 2)) V8).trans h.wk.f2,(bL (a:=(O Z 3)) V8).trans h.wk.f3,dH h.wk.lt hs⟩
 tk:=⟨(cJ (a:=(ah bm)) UL).trans h.tk.m0,λj u hu=>(cJ (a:=(O gt j)) Vm).trans (h.tk.row j u hu),dH h.tk.Ya hs,dH h.tk.VG hs⟩
 hm:=(cJ (a:=(O bm 1)) UL).trans h.hm
 va:=by
  rcases h.va with x|⟨g,cap,rfl,hr⟩
  ·exact .inl x
  ·have e:=hv g rfl;exact .inr ⟨g,cap,rfl,λk a ha=>⟨(cJ (a:=(O g (k*3))) e).trans (hr k a ha).1,(cJ (a:=(O g (k*3+1))) e).trans (hr k a ha).2.1,(cJ (a:=(O g (k*3+2))) e).trans (hr k a ha).2.2⟩⟩
 ne:=h.ne
 F:=h.F
 h2:=h.h2
 hn:=h.hn
 hl:=h.hl
 I0:=λb hb=>dH (h.I0 b hb) hs
theorem XI.grown (h:XI w Z bm gt Z1 U vv vars i kind line){row:Option Nat}(z:w.grownBy w' row)(hr:∀b,row=some b->NW Z bm gt vv b):XI w' Z bm gt Z1 U vv vars i kind line:=
 h.frame z.size (z.block Z h.wk.lt (λe=>(hr Z e.symm).a rfl)) (z.block bm h.tk.Ya (λe=>(hr bm e.symm).b rfl)) (z.block gt h.tk.VG (λe=>(hr gt e.symm).c rfl))
  (λb hb=>z.block b (h.I0 b hb) (λe=>(hr b e.symm).d hb))
theorem XI.alloc (h:XI w Z bm gt Z1 U vv vars i kind line)(o:Obj):XI (w.alloc o) Z bm gt Z1 U vv vars i kind line:=h.grown (di w o none) (λ_ e=>pL)
theorem XI.drew (h:XI w Z bm gt Z1 U vv vars i kind line):XI w.drew Z bm gt Z1 U vv vars i kind line:=h.grown (ZG w none) (λ_ e=>pL)
theorem XI.GK (h:XI w Z bm gt Z1 U vv vars i kind line){b:Nat}(hb:NW Z bm gt vv b)(o:Nat)(u:aF):XI (w.setCell (O b o) u) Z bm gt Z1 U vv vars i kind line:=
 h.grown (ZC w b o u) (λ_ e=>by cases e;exact hb)
theorem XI.kept (h:XI w Z bm gt Z1 U vv vars i kind line)(z:w.grownBy w' (some Z)){j:Nat}{k l:Int}(hW:Wk w' Z bm j k l):XI w' Z bm gt Z1 U vv vars j k l where
 wk:=hW
 tk:=h.tk.kept z h.F h.h2
 hm:=z.cell h.hm (by simpa using h.F)
 va:=h.va.kept z h.ne
 ne:=h.ne
 F:=h.F
 h2:=h.h2
 hn:=h.hn
 hl:=h.hl
 I0:=λb hb=>dH (h.I0 b hb) z.size
theorem XI.Wv (h:XI w Z bm gt Z1 U vv vars i kind line)(j:Nat):XI (w.setCell (O Z 1) (Y j)) Z bm gt Z1 U vv vars j kind line:=
 h.kept (ZC _ _ _ _) (h.wk.Wv _)
theorem SG (h:XI w Z bm gt Z1 U vv vars i kind line)(hi:i<=4000):aq 95 #[ai Z] w λe w'=>e=.returned (.string (Y' U i))/\w.grownBy w' (some Z)/\XI w' Z bm gt Z1 U vv vars i kind line:=
 (I3 U i kind line Z bm gt Z1 w h.hn hi h.wk h.tk).mono λe w' ⟨F,h2,h3⟩=>⟨F,h2,h.kept h2 h3⟩
theorem xL (h:XI w Z bm gt Z1 U vv vars i kind line)(hi:i<U.length):aq 141 #[ai Z] w λe w'=>e=.returned (.string (Y' U i))/\w.grownBy w' (some Z)/\XI w' Z bm gt Z1 U vv vars (i+1) kind line:=
 (aeO U i kind line Z bm gt Z1 w h.hn hi h.F h.h2 h.wk h.tk).mono λe w' ⟨F,h2,h3⟩=>⟨F,h2,h.kept h2 h3⟩
theorem Re (h:XI w Z bm gt Z1 U vv vars i kind line)(hi:i<U.length)(aa:Bool)(k:Int):aq 96 #[ai Z,.bool aa,Y k] w λe w'=>e=.returned (.tuple #[])/\w.grownBy w' (some Z)/\
   XI w' Z bm gt Z1 U vv vars i (Vc aa k kind) (U4 aa kind (Wi U i) line):=
 (OL U i aa k kind line Z bm gt Z1 w h.hn hi h.F h.h2 h.wk h.tk).mono λe w' ⟨F,h2,h3⟩=>⟨F,h2,h.kept h2 h3⟩
theorem IZ (h:XI w Z bm gt Z1 U vv vars i kind line)(hi:i<U.length)(most:Int)(bu:0<=most)(bq:most<=10000000)(hI:UU (Y' U i)):aq 98 #[ai Z,Y most] w λe w'=>e=.returned (Y (YU (Y' U i)))/\w.grownBy w' (some Z)/\
   XI w' Z bm gt Z1 U vv vars (i+1) (Vc (Yg (YU (Y' U i)) most) 5 kind) (U4 (Yg (YU (Y' U i)) most) kind (Wi U i) line):=
 (aeP U i most kind line Z bm gt Z1 w h.hn hi h.F h.h2 bu bq hI h.wk h.tk).mono λe w' ⟨F,h2,h3⟩=>⟨F,h2,h.kept h2 h3⟩
def Y6 (vars:List Y7)(s:aA):Int:=XO s (Ua vars) 0
theorem IY (h:XI w Z bm gt Z1 U vv vars i kind line)(hi:i<U.length):aq 100 #[ai Z,.bool false] w λe w'=>e=.returned (Y (Y6 vars (Y' U i)))/\w.grownBy w' (some Z)/\
   XI w' Z bm gt Z1 U vv vars (i+1) (Vc (decide (Y6 vars (Y' U i)<0)) 4 kind) (U4 (decide (Y6 vars (Y' U i)<0)) kind (Wi U i) line):=
 (xO false U i kind line Z bm gt Z1 vv (Ua vars) w h.hn hi h.F h.h2 (by simp[Ua];exact h.hl) h.hm h.va.names h.ne (.inl rfl) h.wk h.tk).mono λe w' ⟨F,h2,h3⟩=>⟨F,h2,h.kept h2 h3⟩
def Ez (vars:List Y7)(s:aA)(kind:Int):Int:=if Y6 vars s<0 then Vc true 4 kind else Vc (OI vars (Y6 vars s)) 7 kind
def Ey (vars:List Y7)(s:aA)(kind l line:Int):Int:=if Y6 vars s<0 then U4 true kind l line else U4 (OI vars (Y6 vars s)) kind l line
theorem GJ (h:XI w Z bm gt Z1 U vv vars i kind line)(hi:i<U.length):aq 100 #[ai Z,.bool true] w λe w'=>e=.returned (Y (Y6 vars (Y' U i)))/\w.grownBy w' (some Z)/\
   XI w' Z bm gt Z1 U vv vars (i+1) (Ez vars (Y' U i) kind) (Ey vars (Y' U i) kind (Wi U i) line):=by
 unfold Ez Ey;by_cases hx:Y6 vars (Y' U i)<0
 ·rw[iR hx,iR hx];have hd:decide (Y6 vars (Y' U i)<0)=true:=rK;refine(xO true U i kind line Z bm gt Z1 vv (Ua vars) w h.hn hi h.F h.h2 (by simp[Ua];exact h.hl) h.hm h.va.names h.ne (.inr hx) h.wk h.tk).mono λe w' ⟨F,h2,h3⟩=>⟨F,h2,?_⟩
  have h4:=h.kept (j:=i+1) h2 h3;rw[show XO (Y' U i) (Ua vars) 0=Y6 vars (Y' U i) from rfl,hd]at h4;exact h4
 ·rw[iQ hx,iQ hx];exact(aeS U i kind line Z bm gt Z1 vv vars w h.hn hi h.F h.h2 h.hl h.hm h.va h.ne (by show 0<=Y6 vars (Y' U i);omega) h.wk h.tk).mono λe w' ⟨F,h2,h3⟩=>⟨F,h2,h.kept h2 h3⟩
end
structure Sl where
 neg:Bool
 Ex:Option ZY
 name:ZY
def Pm (U:List ZY)(i:Nat)(t:Sl)(j:Nat):Prop:=
 match t.Ex with
 |some f=>U[i]?=some f/\f.kind=105/\UU f.s/\U[i+2]?=some t.name/\j=i+3
 |none=>U[i]?=some t.name/\t.name.kind≠105/\j=i+1
def LI (U:List ZY):Nat->List Sl->Nat->Prop
 |i,[],j=>i=j
 |i,t::ts,j=>∃sg m,U[i]?=some sg/\sg.s.toList=(if t.neg then[45]else[43])/\Pm U (i+1) t m/\LI U m ts j
abbrev Zv:=Int×Int
def ZE (b:Bool)(k l:Int)(st:Zv):Zv:=(Vc b k st.1,U4 b st.1 l st.2)
def LH (vars:List Y7)(k:Nat)(t:Sl)(st:Zv):Zv:=
 ZE (decide (Y6 vars t.name.s<0)) 4 t.name.line
  (match t.Ex with
  |some f=>ZE (Yg (YU f.s) 100) 5 f.line (ZE (decide (8<(k:Int))) 6 f.line st)
  |none=>ZE (decide (8<(k:Int))) 6 t.name.line st)
def Wd (b:Bool):Int:=if b then-1 else 1
def SF (vars:List Y7)(t:Sl):Int×Int:=(match t.Ex with|some f=>Wd t.neg*YU f.s|none=>Wd t.neg,Y6 vars t.name.s)
def NV (vars:List Y7):Nat->List Sl->Zv->Zv
 |_,[],st=>st
 |k,t::ts,st=>NV vars (k+1) ts (LH vars k t st)
def Un (l:List (Int×Int)):ay:=l.flatMap λp=>[Y p.1,Y p.2]
theorem xK (l:List (Int×Int))(p:Int×Int):Un (l++[p])=Un l++[Y p.1,Y p.2]:=by simp[Un]
end Go.Proofs.YthpcbbnabnlanaaGreatDoor
