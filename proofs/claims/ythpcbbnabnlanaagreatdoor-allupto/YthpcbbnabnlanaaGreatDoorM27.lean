import Derived.Test.YthpcbbnabnlanaaGreatDoorM02
import Derived.Test.YthpcbbnabnlanaaGreatDoorM21
import Derived.Test.YthpcbbnabnlanaaGreatDoorM25
import Derived.Test.YthpcbbnabnlanaaGreatDoorM26
import Derived.Deep.OwnRows
import Derived.Deep.RegionLaw
import Derived.Deep.Cut
import Derived.Deep.RegionHeld3
import Derived.Deep.LoopGhost
import Derived.Deep.AppendLies
namespace Go.Proofs.YthpcbbnabnlanaaGreatDoor
set_option maxHeartbeats 8000000
set_option maxRecDepth 100000
open Go.Proofs.Tryz
open Go.RowKit
set_option linter.all false
variable {w w' w1:A}{B Z c:Nat}{V:LV}{D:LD}{K:VX->Prop}
theorem ajy:(prog.info? 37).map (λi=>(i.zero,i.size,i.bytes))=some (some (af),1,24):=pH
theorem ajz:(prog.info? 9).map (λi=>(i.zero,i.size,i.bytes))=some (some (.string .empty),1,16):=pH
def mz{P:Prop}(h:P:=by
 intro u hu;simp only[gH,eQ,iM]at hu;subst hu;rfl):P:=h
theorem Lf (a:ax)(n c:Nat):∀u∈[Value.slice a n c],u.oneCell'=true:=by
 exact mz
theorem AV (s:aA):∀u∈[Value.string s],u.oneCell'=true:=by
 exact mz
theorem ajA {w w':A}(h:Below w.heap.size w w'):aB w w':=⟨h.os,h.tape,h.output,h.size,λk I _=>h.block k I⟩
def Nu (w:A)(B Z g cap n c:Nat)(V:LV)(D:LD)(K:VX->Prop)(e:TypeId)(mark:aF)(vi:aF)(wr:A):Prop:=
 ∃(i:Nat) (xs:ay),i<=n/\vi=Y i/\xs.take i=List.replicate i mark/\wr.ownsRow B e 1 (aj g n cap) n xs/\LW wr B Z V D c K/\(∀k,k<w.heap.size->Yj Z V k->k≠g->wr.heap[k]?=w.heap[k]?)/\Wp B Z w wr
def AU (w:A)(B Z g n c:Nat)(V:LV)(D:LD)(K:VX->Prop)(ri:Nat)(e:TypeId)(mark:aF)(vl vi:aF)(wr:A):Prop:=
 ∃(i gi cap:Nat) (V1:LV) (D1:LD) (L:List LP),i<=65/\vi=Y i/\vl=aj gi (n+i) cap/\L.length<=i/\Tx w wr B Z g c V D K ri e V1 D1 L gi cap (n+i) mark
theorem ajB {xs:ay}{i n:Nat}{mark:aF}(hl:xs.length=n)(hi:i<n)(h:xs.take i=List.replicate i mark):(xs.set i mark).take (i+1)=List.replicate (i+1) mark:=by
 have e1:(xs.set i mark)[i]?=some mark:=by simp[hl,hi]
 rw[dX,e1,df (iw i),h,cF];simp
theorem Nu.step {g cap n i:Nat}{e:TypeId}{mark:aF}{xs:ay}{wr:A}(hi:i<n)(TS:xs.take i=List.replicate i mark)(ZO:wr.ownsRow B e 1 (aj g n cap) n xs)(Uj:LW wr B Z V D c K)(hb:∀k,k<w.heap.size->Yj Z V k->k≠g->wr.heap[k]?=w.heap[k]?)(Yf:Wp B Z w wr)(hf:Yj Z V g)(I:∀x,K x->g∉x.S)(hB:B<=g):Nu w B Z g cap n c V D K e mark (Y ((i:Int)+1)) (wr.setCell (O g i) mark):=by
 have hl:xs.length=n:=rV;have aV:=ZO.stored i mark;have z:=ZC wr g i mark;refine⟨i+1,xs.set i mark,J,pG,ajB hl hi TS,aV.1,Uj.frame (S:=[g]) (Y9.Pe z (λk e=>by cases e;simp)) (λk aC=> ?_),λk F h2 h3=> ?_,Yf.grown Uj.hB z (λk e=>by cases e;exact .inr hB)⟩
 ·simp only[gH,eQ,iM]at aC;subst aC;exact⟨hf,I⟩
 ·exact(z.block k (dH F Yf.size) (λe=>h3 (fO e))).trans (hb k F h2 h3)
theorem Nu.last {g cap n:Nat}{e:TypeId}{mark:aF}{xs:ay}{wr:A}(ri:Nat)(TS:xs.take n=List.replicate n mark)(ZO:wr.ownsRow B e 1 (aj g n cap) n xs)(Uj:LW wr B Z V D c K)(hb:∀k,k<w.heap.size->Yj Z V k->k≠g->wr.heap[k]?=w.heap[k]?)(Yf:Wp B Z w wr)(hf:Yj Z V g)(I:∀x,K x->g∉x.S):AU w B Z g n c V D K ri e mark (aj g n cap) (Y 0) wr:=by
 have hl:xs.length=n:=rV;rw[bH J]at TS;subst TS;exact⟨0,g,cap,V,D,[],J,rfl,rfl,pG,Uj,rfl,ZO,.inl rfl,hf,I,λx hx=>ue,λk _ f=>f,hb,Yf⟩
def nY{P:Prop}(h:P:=by
 intro v5 w5 PI Yo;obtain⟨RF,Nt,rfl,FJ⟩:=SH.out.app GS Vn PI (di _ _ _) Yo Hy.out;have JI:=Z8 FJ;clear FJ PI Yo SH o5 m4 f4;go_wp2;go_roundw
 case rel=>exact⟨i+1,RF,Nt,V2,D2,_,J,pQ,rfl,by simp;omega,JI.out⟩
 case measure=>simp[intOf];omega):P:=h
def je{P:Prop}(h:P:=by
 obtain⟨na,nc,en⟩:=Wt (hT.lw.own 1 J);obtain⟨ka,kc,ek⟩:=Wt (hT.lw.own 2 J);have o1:wr.ownsRow B 37 1 (.slice na (D1.Zi 1) nc) (D1.Zi 1) (D1.cells 1):=by rw[<-en];exact hT.lw.own 1 J
 have m1:wr.cell? (O Z 1)=some (.slice na (D1.Zi 1) nc):=by rw[<-en];exact Z0 hT.lw.Zl 1 _ rfl
 have T8:D1.Zi 1<=D.Zi 1+L.length:=by rw[hT.d];exact Ot D (.inl rfl) L 1 J
 have V7:D1.Zi 2<=D.Zi 2+L.length:=by rw[hT.d];exact Ot D (.inl rfl) L 2 J
 have HT:=Z8 hT;have PH:=Z8 en;have Qu:=Z8 ek;have Yw:=hT.lw.hB;have RD:=hT.lw.slt;clear hT en ek;go_wp2_with (at_builtin;refine RH rfl _ _ 56 rfl B 37 i1 (af) 1 24 underlying56 YS T7 UJ UI rfl pF _ _ _ rfl (o1.alloc _) (ah wr.heap.size) 1 1 [aj gi (n+i) UH] rfl rfl (World.news_of_block (gp _ _)) (Lf _ _ _) ?c3 ?c4 ?c5 ?_)
 case c3=>unfold maxLen;omega
 case c4=>omega
 case c5=>simp;omega
 intro v1 w2 WT ZZ;have Oq:=ZZ;rw[<-PH.out]at Oq;have l1:=(HT.out.lw.alloc _).push (D':=D1.pl 1 ⟨gi,n+i,UH,.string t⟩) (i:=1) J WT Oq (λj hj=>My _ _ (.inl rfl) hj) (λj hj=>JK _ _ (.inl rfl) hj)
 obtain⟨xa,xm,xc,rfl⟩:=Vd WT;have f2:w2.frozen? (O Z 1)=false:=Zz ((ZZ.by.block Z pI (λe=>by have:=(o1.lt Z e.symm).1;have:=HT.out.lw.lt;omega)).trans (gq wr _ RD |>.trans HT.out.lw.Zl)) 1
 have m2:w2.cell? (O Z 1)=some (.slice na (D1.Zi 1) nc):=ZZ.by.cell ((di wr _ none).cell m1 pG) (λe=>by have:=(o1.lt Z e.symm).1;have:=HT.out.lw.lt;omega)
 have o2:(w2.setCell (O Z 1) (.slice xa xm xc)).ownsRow B 9 1 (.slice ka (D1.Zi 2) kc) (D1.Zi 2) (D1.cells 2):=by rw[<-Qu.out];exact l1.own 2 J
 have m3:(w2.setCell (O Z 1) (.slice xa xm xc)).cell? (O Z 2)=some (.slice ka (D1.Zi 2) kc):=by rw[<-Qu.out];exact Z0 l1.Zl 2 _ rfl
 have L0:(w2.setCell (O Z 1) (.slice xa xm xc)).heap.size=w2.heap.size:=pV;have N2:∀j u,[Value.string t][j]?=some u->((w2.setCell (O Z 1) (.slice xa xm xc)).alloc (.cells #[.string t] 9)).cell? (((ah w2.heap.size):Addr).add j)=some u:=sO;have OC:=l1.hB;have PG:=l1.slt;have TL:=Z8 l1;have Wq:=Z8 WT;have We:=Z8 ZZ;clear l1 WT ZZ o1 m1 Oq;go_wp2_with (at_builtin;refine RH rfl _ _ 37 rfl B 9 i2 (.string .empty) 1 16 underlying37 XB Ze Zq Zn rfl pF _ _ _ rfl (o2.alloc _) (ah w2.heap.size) 1 1 [.string t] rfl rfl N2 (AV _) ?c3 ?c4 ?c5 ?_)
 case c3=>unfold maxLen;omega
 case c4=>omega
 case c5=>simp;omega
 intro v3 w3 TJ ZJ;have ga:=We.out;rw[<-PH.out]at ga;have gb:=ZJ;rw[<-Qu.out]at gb;obtain⟨V2,D2,Pr⟩:=HT.out.push (.inl rfl) Wq.out (di _ _ _) ga TJ (di _ _ _) gb;obtain⟨ya,ym,yc,rfl⟩:=Vd TJ;have f4:w3.frozen? (O Z 2)=false:=Zz ((ZJ.by.block Z pI (λe=>by have:=(o2.lt Z e.symm).1;have:=TL.out.lt;omega)).trans (gq _ _ PG |>.trans TL.out.Zl)) 2
 have m4:w3.cell? (O Z 2)=some (.slice ka (D1.Zi 2) kc):=ZJ.by.cell ((di _ _ none).cell m3 pG) (λe=>by have:=(o2.lt Z e.symm).1;have:=TL.out.lt;omega)
 have o5:=Pr.own;have SH:=Z8 Pr;have M8:(w3.setCell (O Z 2) (.slice ya ym yc)).heap.size=w3.heap.size:=pV;have FI:B<=w3.heap.size:=tM;have N3:∀j u,[Value.string t][j]?=some u->((w3.setCell (O Z 2) (.slice ya ym yc)).alloc (.cells #[.string t] 9)).cell? (((ah w3.heap.size):Addr).add j)=some u:=sP;clear ga gb L0 N2 Pr TJ ZJ o2 m3 TL Wq We HT PH Qu m2 f2;go_wp2_with (at_builtin;refine RH rfl _ _ 37 rfl B 9 i2 (.string .empty) 1 16 underlying37 XB Ze Zq Zn rfl pF _ _ _ rfl (o5.alloc _) (ah w3.heap.size) 1 1 [.string t] rfl rfl N3 (AV _) ?c3 ?c4 ?c5 ?_)
 case c3=>unfold maxLen;omega
 case c4=>omega
 case c5=>simp;omega
 exact nY):P:=h
def j5{P:Prop}(h:P:=by
 intro v5 w5 PI Yo;obtain⟨RF,Nt,rfl,FJ⟩:=SH.out.app GS Vn PI (di _ _ _) Yo Hy.out;have JI:=Z8 FJ;clear FJ PI Yo SH o5;go_wp2;go_roundw
 case rel=>exact⟨i+1,RF,Nt,V1,D1,_,J,pQ,rfl,J,JI.out⟩
 case measure=>simp[intOf];omega):P:=h
def oP{P:Prop}(h:P:=by
 have HN:=Z8 (Nu.step ZR TS ZO Uj O2 Yf HF.out HK.out GS);clear ZO TS Uj O2 Yf;exact kG):P:=h
theorem aaT (h:LW w B Z V D c K){g n cap:Nat}{xs:ay}(hl:w.ownsRow B 9 1 (aj g n cap) n xs)(hf:Yj Z V g)(I:∀x,K x->g∉x.S)(hn:n<=2000000)(hc:c<=900000000000)(aw:∀i,i<7->D.Zi i<=900000000000):aq 56 #[ai Z,aj g n cap] w λe w'=>e=.returned (.tuple #[])/\∃V' K' L t,LW w' B Z V' (Wo D 1 L) (c+1) K'/\Hz w w' B Z g V V' K K'/\L.length<=65/\∀x∈L,K' (QM x)/\x.mark=.string t/\x.len<=n+65:=by
 obtain⟨i1,YS,T7,UJ,UI⟩:=iE ajy;obtain⟨i2,XB,Ze,Zq,Zn⟩:=iE ajz;have GS:B<=g:=(hl.lt g rfl).1;have UB:g<w.heap.size:=(hl.lt g rfl).2;have Vn:=h.hB;have Yc:=h.slt;have O1:g≠Z:=hf.1;have Hy:=Z8 (λx hx k I=>((h.kp x hx).2 k I).1:∀x,K x->∀k∈x.S,k<w.heap.size)
 have HF:=Z8 hf;have HK:=Z8 I;have c7:w.cell? (O Z 7)=some (Y c):=Z0 h.Zl 7 _ rfl;have f7:w.frozen? (O Z 7)=false:=Zz h.Zl 7;have aY:=h.count (c+1);have ec:((c+1:Nat):Int)=(c:Int)+1:=J;rw[ec]at aY;have HC:=Z8 aY;have c8:(w.setCell (O Z 7) (Y ((c:Int)+1))).cell? (O Z 7)=some (Y ((c:Int)+1)):=by
  have:=Z0 aY.Zl 7 (Y ((c+1:Nat):Int)) rfl;rw[ec]at this;exact this
 have HL:=Z8 (hl.kept (ZC w Z 7 (Y ((c:Int)+1))) (.inr (λe=>O1 (by simpa[Value.ownBlock]using e))))
 have KW:=ZQ.mk (λW=>adR ((c:Int)+1) W J J)
 have bZ:=aw 1 J;have b5:=aw 2 J;clear h hl aY hf I ec aw;go_enter func56,ntmps56;go_wp2_with (go_at_call 104;refine(KW.get _).mono ?_;rintro e w1 ⟨t,rfl,ht,hb⟩);have ZZ:=ajA hb;have HA:Hid (Nu w B Z g cap n (c+1) V D K 9 (.string t) (Y 0) w1):=by
  refine⟨0,_,J,rfl,pG,HL.out.kept ZZ (XY _),HC.out.grown ZZ,λk F h2 h3=> ?_,((Wp.refl B Z w).grown Vn (ZC w Z 7 _) (λk e=>by cases e;exact .inl rfl)).grown HC.out.hB ZZ (λk e=>pL)⟩
  exact(ZZ.block k (dH F (ZC w Z 7 _).size) pG).trans ((ZC w Z 7 _).block k F (λe=>h2.1 (fO e)))
 clear HL HC hb ZZ c7 f7 c8
 go_loopw [5] (λvi wr=>Nu w B Z g cap n (c+1) V D K 9 (.string t) vi wr) (λvi _=>n-(intOf vi).toNat)
 case atStart=>exact HA.out
 case round=>
  clear HA;obtain⟨i,xs,hi,rfl,TS,ZO,Uj,O2,Yf⟩:=hrel;have a8:xs.length=n:=rV;by_cases ZR:i<n
  ·have X8:(i:Int)<n:=J;have Xy:(0:Int)<=i:=J;have k1:wr.cell? (O g i)=some (xs[i]'J):=by rw[ZO.cellAt i J];simp[a8,ZR]
   have k2:=ZO.frozenAt i;exact oP
  ·obtain rfl:n=i:=J;have HB:=Z8 (Nu.last 1 TS ZO Uj O2 Yf HF.out HK.out);clear ZO TS Uj O2 Yf;go_wp2
   go_loopw [1,6] (λvl vi wr=>AU w B Z g n (c+1) V D K 1 9 (.string t) vl vi wr) (λ_ vi _=>65-(intOf vi).toNat)
   case atStart=>exact HB.out
   case round=>
    clear HB;obtain⟨i,gi,UH,V1,D1,L,hi,rfl,rfl,bR,hT⟩:=hrel;by_cases bU:i<=64
    ·have bW:(i:Int)<=64:=J;by_cases h3:i<3
     ·have Pj:(i:Int)<3:=J;exact je
     ·have Pj:decide ((i:Int)<3)=false:=pI;by_cases ba:i=64
      ·have bj:((i:Int)==64)=true:=pI;clear ba;exact je
      ·have bj:((i:Int)==64)=false:=pI;have o5:=hT.own;have FI:=hT.lw.hB;have SH:=Z8 hT;clear hT;go_wp2_with (at_builtin;refine RH rfl _ _ 37 rfl B 9 i2 (.string .empty) 1 16 underlying37 XB Ze Zq Zn rfl pF _ _ _ rfl (o5.alloc _) (ah wr.heap.size) 1 1 [.string t] rfl rfl (World.news_of_block (gp _ _)) (AV _) ?c3 ?c4 ?c5 ?_)
       case c3=>unfold maxLen;omega
       case c4=>omega
       case c5=>simp;omega
       exact j5
    ·obtain rfl:i=65:=J;obtain⟨K',q1,q2,q3⟩:=hT.done;have hd:=hT.d;subst hd;have HQ:=Z8 (iG q1 (iG q2 q3));clear q1 q2 q3 hT;go_wp2;go_end0;exact⟨rfl,V1,K',L,t,HQ.out.1,HQ.out.2.1,J,HQ.out.2.2⟩
abbrev ajC (s:aA)(kd ln:Int):Prop:=∀W:A,aq 35 #[.string s] W λe w'=>e=.returned (.tuple #[.pointer none,Y kd,Y ln])/\aB W w'
abbrev ajD (s:aA)(kd ln:Int):Prop:=∀W:A,aq 38 #[.string s] W λe w'=>e=.returned (.tuple #[.pointer none,Y kd,Y ln])/\aB W w'
abbrev aaU (s:aA):Prop:=∀W:A,Sj W->aq 35 #[.string s] W λe w'=>∃b,e=.returned (.tuple #[ai b,Y 0,Y 0])/\W.heap.size<=b/\b<w'.heap.size/\(∀w,SR w' W.heap.size w->Ov w b (W5 s) (TT s) (Pa (Y0 s)))/\aB W w'
abbrev aaV (s:aA):Prop:=∀W:A,aq 38 #[.string s] W λe w'=>∃r,e=.returned (.tuple #[ai r,Y 0,Y 0])/\(∀w,SR w' W.heap.size w->Qv w r s)/\aB W w'
theorem FH {w w':A}(h:Below w.heap.size w w'):aB w w':=⟨h.os,h.tape,h.output,h.size,λk I _=>h.block k I⟩
theorem ajE (s:aA)(h:U0 s):aaU s:=λW hW=>(aiK s W hW h.sz h.lx h.fm h.sn).mono λe w' ⟨b,e1,hb,hM,z⟩=>
 ⟨b,e1,hb,by obtain⟨_,_,_,_,_,_,_,_,_,h3,_⟩:=hM;exact h3,λw hS=>hM.FN hb h.q hS,z⟩
theorem FE {w:A}{B e sz n H:Nat}{v:aF}{xs:ay}(h:w.ownsRow B e sz v n xs)(hH:H<=B):∃a c,v=.slice a n c/\∀j u,xs[j]?=some u->∃g,a=some (ah g)/\H<=g/\w.cell? (O g j)=some u:=by
 rcases Lt h with⟨F,h2⟩|⟨g,cap,F,h2,_,h3⟩
 ·refine⟨none,0,by rw[h2,F],λj u hu=> ?_⟩
  have:=h.1;rw[F]at this;have:xs=[]:=bA.1 J;rw[this]at hu;simp at hu
 ·exact⟨_,cap,F,λj u hu=>⟨g,rfl,J,h3 j u hu⟩⟩
theorem ajF (R:List YL){j:Nat}{r:YL}(h:R[j]?=some r):∀k u,[Value.int .u8 r.sort,r.pv,.string r.rel,Y r.n,Y r.v,Y r.w,Y r.x][k]?=some u->(NK R)[j*7+k]?=some u:=
 λk u I=>GD _ 7 (λ_=>rfl) R j r h k u I
theorem ajG (l:List (Int×Int)){j:Nat}{p:Int×Int}(h:l[j]?=some p):(Un l)[j*2]?=some (Y p.1)/\(Un l)[j*2+1]?=some (Y p.2):=by
 have q:=λk u I=>GD (λp:Int×Int=>[Y p.1,Y p.2]) 2 (λ_=>rfl) l j p h k u I
 exact⟨q 0 _ rfl,q 1 _ rfl⟩
theorem Md.seen {s:aA}{w0 w:A}{H Z bm gt Z1 B:Nat}{vv vl vr:aF}{lists:List YZ}{rules:List YL}{i:Nat}{kd ln:Int}(h:Md w0 Z bm gt Z1 B (lex s).2.1 vv vl vr (Uv s).vars lists rules i kd ln)(hB:H<=B)(UL:H<=bm)(Vm:H<=gt)(hl:lists.map YZ.bare=(Uv s).lists)(hr:rules.map YL.bare=(Uv s).rules)(hS:SR w0 H w):Qv w bm s:=by
 obtain⟨va,vc,ev,qv⟩:=FE h.ov hB;obtain⟨la,lc,el,ql⟩:=FE h.ol hB;obtain⟨ra,rc,er,qr⟩:=FE h.RM hB;have m1:=h.m1;have m2:=h.m2;have m3:=h.m3;rw[ev]at m1;rw[el]at m2;rw[er]at m3;refine⟨some (ah gt),va,la,ra,Z1,vc,lc,rc,lists,rules,dH h.tk.Ya hS.size,⟨hS.cell UL h.tk.m0,λi t ht=>⟨gt,rfl,?_⟩⟩,⟨hS.cell UL m1,hS.cell UL m2,hS.cell UL m3,λj x hx=> ?_,λj l bh=> ?_,λj r bk=> ?_⟩,hl,hr⟩
 ·obtain⟨c1,c2,c3⟩:=Kt _ i t ht;exact⟨hS.cell Vm (h.tk.row _ _ c1),hS.cell Vm (h.tk.row _ _ c2),hS.cell Vm (h.tk.row _ _ c3)⟩
 ·obtain⟨c1,c2,c3⟩:=En _ j x hx;obtain⟨g,e,z,d1⟩:=qv _ _ c1;obtain⟨g2,e2,_,d2⟩:=qv _ _ c2;obtain⟨g3,e3,_,d3⟩:=qv _ _ c3;rw[e]at e2 e3
  cases e2;cases e3;exact⟨g,e,hS.cell z d1,hS.cell z d2,hS.cell z d3⟩
 ·obtain⟨g,e,z,d⟩:=ql _ _ (xn _ j l bh).2;obtain⟨na,nc,en,qn⟩:=FE (h.li l (cq bh)) hB;rw[en]at d;refine⟨g,na,nc,e,hS.cell z d,λk x hx=> ?_⟩
  obtain⟨g2,e2,ZU,d2⟩:=qn k (Y x) (by rw[dR,hx];rfl);exact⟨g2,e2,hS.cell ZU d2⟩
 ·have rg:=ajF rules bk;obtain⟨g,e,z,d0⟩:=qr _ _ (rg 0 _ rfl);have all:∀k u,[Value.int .u8 r.sort,r.pv,.string r.rel,Y r.n,Y r.v,Y r.w,Y r.x][k]?=some u->ak w g (j*7+k) u:=λk u I=>by
   obtain⟨g2,e2,ZU,d⟩:=qr _ _ (rg k u I);rw[e]at e2
   cases e2;exact hS.cell z d
  obtain⟨pa,pc,ep,qp⟩:=FE (h.ri r (cq bk)) hB;have a1:=all 1 _ rfl;rw[ep]at a1;refine⟨g,pa,pc,e,⟨all 0 _ rfl,a1,all 2 _ rfl,all 3 _ rfl,all 4 _ rfl,all 5 _ rfl,all 6 _ rfl,λk p hp=> ?_⟩⟩
  obtain⟨c1,c2⟩:=ajG _ hp;obtain⟨g2,e2,ZU,d1⟩:=qp _ _ c1;obtain⟨g3,e3,_,d2⟩:=qp _ _ c2;rw[e2]at e3
  cases e3;exact⟨g2,e2,hS.cell ZU d1,hS.cell ZU d2⟩
def mm{P:Prop}(h:P:=by
 rw[z]at hS;obtain⟨m,F,_⟩:=hS;have:=wo F;simp at this):P:=h
theorem ajH (s:aA)(h:U0 s):aaV s:=by
 obtain⟨hs,hl,hp,hq⟩:=h;obtain⟨⟨f,hf,hF⟩,hS,hR,hI⟩:=Bb s hs hl hp;intro W;by_cases ZP:(lex s).2.1=[]
 ·rw[ZP]at hF;have XD:T6 s=[]:=by
   rw[ZP]at hS
   cases z:T6 s with
   |nil=>rfl
   |cons a l=>
    exact mm
  have hm:Uv s=⟨[],[],[]⟩:=by unfold Uv;rw[XD];rfl
  refine(agN s W hs hl ZP f hf hF).mono ?_;rintro e w' ⟨hb,bm,F,h2,rfl,a0,cap,h3⟩;refine⟨bm,rfl,λw az=> ?_,FH hb⟩
  unfold Qv;rw[hm,ZP];exact⟨a0,none,none,none,cap,0,0,0,[],[],dH h2 az.size,⟨az.cell F (Z0 h3 0 _ rfl),λi t ht=>tW⟩,⟨az.cell F (Z0 h3 1 _ rfl),az.cell F (Z0 h3 2 _ rfl),az.cell F (Z0 h3 3 _ rfl),(λj x hx=>ue),(λj x hx=>ue),(λj x hx=>ue)⟩,rfl,rfl⟩
 ·refine(wm s W hs hl ZP f hf hF _ hS).mono ?_;rintro e w' ⟨hb,⟨bq,_⟩|⟨_,Z,bm,gt,Z1,B,i,F,h2,h3,rfl,hM⟩⟩
  ·rw[hR]at bq;exact absurd hq bq
  ·obtain⟨vv,vl,vr,lists,rules,aZ,a7,bM⟩:=hM;exact⟨bm,rfl,λw az=>aZ.seen J J J a7 bM az,FH hb⟩
theorem ajI (s:aA):(∃kd ln:Int,ajC s kd ln/\ajD s kd ln)\/(U0 s/\aaU s/\aaV s):=by
 by_cases hs:s.size<=2000
 ·by_cases hl:(lex s).1=0
  ·by_cases hp:(Xc (Y0 s)).2.2=0
   ·by_cases hq:(XT (T6 s) q0).st.1=0
    ·have hG:U0 s:=⟨hs,hl,hp,hq⟩;exact .inr ⟨hG,ajE s hG,ajH s hG⟩
    ·refine .inl ⟨_,_,λW=>aiJ s W hs hl hp hq,λW=> ?_⟩
     obtain⟨⟨f,hf,hF⟩,hS,hR,hI⟩:=Bb s hs hl hp;have ZP:(lex s).2.1≠[]:=λZP=>by
      rw[ZP]at hS
      cases z:T6 s with
      |nil=>rw[z]at hq;exact hq rfl
      |cons a l=>
       exact mm
     refine(wm s W hs hl ZP f hf hF _ hS).mono ?_;rintro e w' ⟨hb,⟨_,rfl⟩|⟨bq,_⟩⟩
     ·rw[hR];exact⟨rfl,FH hb⟩
     ·rw[hR]at bq;exact absurd bq hq
   ·obtain⟨k,R,I,hR,bE,bF⟩:=ahJ s hs hl hp;refine .inl ⟨3,_,λW=>aiI s W hs hl hp,λW=>(agL s W hs hl k I R hR bE).mono ?_⟩
    rintro e w' ⟨rfl,hb⟩;rw[bF];exact⟨rfl,FH hb⟩
  ·refine .inl ⟨2,(lex s).1,λW=>aiH s W hs hl,λW=>(agK s W hs hl).mono ?_⟩
   rintro e w' ⟨rfl,hb⟩;exact⟨rfl,FH hb⟩
 ·refine .inl ⟨1,0,λW=>(aiG s W J).mono ?_,λW=>(agJ s W J).mono ?_⟩
  ·rintro e w' ⟨rfl,rfl⟩;exact⟨rfl,WW _ _⟩
  ·rintro e w' ⟨rfl,rfl⟩;exact⟨rfl,WW _ _⟩
variable {B Z c T:Nat}
theorem ajJ:(prog.info? 83).map (λi=>(i.zero,i.size,i.bytes))=some (some (.agg #[.pointer none,.pointer none]),2,16):=pH
theorem ajK (a b:ax):∀u∈[Value.pointer a,.pointer b],u.oneCell'=true:=by
 intro u hu;simp only[gH,eQ,iM]at hu;rcases hu with rfl|rfl<;>rfl
def T4 (w:A)(B Z T:Nat)(w':A):Prop:=∃V' D' c' K',LG w' B Z V' D' c' K' (T+1)/\Wp B Z w w'
theorem T4.same (h:LG w B Z V D c K T)(z:aB w w'):T4 w B Z T w':=
 ⟨V,D,c,K,⟨h.lw.grown z,h.n1,h.n2,h.n3,h.l1,h.l2,h.l3,h.ms,h.m20,λi hi=>by have:=h.bd i hi;omega,by have:=h.cb;omega⟩,(Wp.refl B Z w).grown h.lw.hB z (λk e=>pL)⟩
theorem LG.more {o:Obj}{v':aF}(x:MP)(h:LG w B Z V D c K T)(hM:PL w x)(hx:∀k∈x.blocks,k<w.heap.size/\Yj Z V k)(aQ:D.ms.length<20)(ZO:w1.ownsRow B 83 2 v' (D.ms.length+1) (D.ms.flatMap JL++JL x))(z:Tw (w.alloc o) V.m v' w1):T4 w B Z T (w1.setCell (ah Z) v'):=by
 have l0:=h.lw.keep (λy=>K y\/y=AY x) (λy hy=>by
  rcases hy with hy|rfl
  ·exact .inl hy
  ·exact .inr ⟨hM,hx⟩)
 have l1:=l0.alloc o;have l2:=l1.push (D':={D with ms:=D.ms++[x]}) (i:=0) J ZO z
  (λj hj=>by rcases PK hj with rfl|rfl|rfl|rfl|rfl|rfl|rfl<;>simp[LD.Zi])
  (λj hj=>by rcases PK hj with rfl|rfl|rfl|rfl|rfl|rfl|rfl<;>simp[LD.cells])
 refine⟨_,_,c,_,⟨l2,h.n1,h.n2,h.n3,λy hy=>⟨.inl (h.l1 y hy).1,(h.l1 y hy).2⟩,λy hy=>⟨.inl (h.l2 y hy).1,(h.l2 y hy).2⟩,λy hy=> ?_,λy hy=> ?_,?_,λi hi=> ?_,?_⟩,FM ((Wp.refl B Z w).grown h.lw.hB (di w o none) (λk e=>pL)) l1 J z⟩
 ·obtain⟨⟨bs,q⟩,r⟩:=h.l3 y hy;exact⟨⟨bs,.inl q⟩,r⟩
 ·rcases fE.1 hy with q|q
  ·exact .inl (h.ms y q)
  ·simp only[gH,eQ,iM]at q;exact .inr (by rw[q])
 ·simp;omega
 ·have hb:=h.bd i hi;rcases PK hi with rfl|rfl|rfl|rfl|rfl|rfl|rfl<;>simp[LD.Zi]at hb⊢<;>omega
 ·have:=h.cb;omega
theorem aaW (h:LG w B Z V D c K T)(ht:Sj w)(s:aA):aq 32 #[ai Z,.string s] w λe w'=>e=.returned (.bool true)/\T4 w B Z T w':=by
 obtain⟨i1,YS,T7,UJ,UI⟩:=iE ajJ;have HT:=Z8 ht;rcases ajI s with⟨kd,ln,hP,hR⟩|⟨a7,hP,hR⟩
 ·have KP:=ZQ.mk hP;have KR:=ZQ.mk hR;have HG:=Z8 h;have e1:(kd != kd)=false:=pG;have e2:(ln != ln)=false:=pG;clear h hP hR ht;go_enter func32,ntmps32;go_wp2_with (first|(go_at_call 38;refine(KR.get _).mono ?_;rintro e w2 ⟨rfl,ZU⟩)|(go_at_call 35;refine(KP.get _).mono ?_;rintro e w1 ⟨rfl,ZZ⟩))
  go_ret;exact⟨rfl,T4.same HG.out (ZZ.trans ZU)⟩
 ·have KP:=ZQ.mk (hP w ht);have KR:=ZQ.mk hR;have HG:=Z8 h;obtain⟨ma,mc,em⟩:=Wt (h.lw.own 0 J);have RD:=h.lw.slt;have Kb:=h.lw.hB;have ct:=h.lw.lt;have aQ:=h.m20;have m0:ak w Z 0 (.slice ma D.ms.length mc):=(Z0 h.lw.Zl 0 _ rfl).trans (iJ some em);have o0:w.ownsRow B 83 2 (.slice ma D.ms.length mc) D.ms.length (D.ms.flatMap JL):=em▸h.lw.own 0 J;have f0:=Zz h.lw.Zl 0;have b6:=Z8 em;have HB:=Z8 h.lw.Zl;clear h hP hR ht em;by_cases hc:D.ms.length<20
  ·have bo:(D.ms.length:Int)<20:=J;go_enter func32,ntmps32;go_wp2_with (first|(at_builtin;refine RH rfl _ _ 55 rfl B 83 i1 (.agg #[.pointer none,.pointer none]) 2 16 underlying55 YS T7 UJ UI rfl pF _ _ _ rfl (o2.alloc _) (ah w2.heap.size) 1 1 [ai b,ai r] rfl rfl (World.news_of_block (gp _ _)) (ajK _ _) ?c3 ?c4 ?c5 ?_)|(go_at_call 38;refine(KR.get _).mono ?_;rintro e w2 ⟨r,rfl,bK,ZU⟩;have aa:=ZZ.trans ZU;have m2:=aa.cell m0 pG;have o2:=o0.kept aa (XY _))|(go_at_call 35;refine KP.get.mono ?_;rintro e w1 ⟨b,rfl,bb,aK,bP,ZZ⟩))
   case c3=>unfold maxLen;omega
   case c4=>omega
   case c5=>have:=aa.size;simp;omega
   intro v' w3 TJ ZJ;have G2:=HG.out.grown aa;have aV:=G2.more ⟨b,r,w.heap.size,w2,s⟩ ⟨SR.self _ _,λW hS=>bP W (hS.low ZU),λW hS=>bK W (hS.up ZZ.size),a7,by have:=ZU.size;show w.heap.size<w2.heap.size;omega⟩ (λk I=>by
     have q:w.heap.size<=k/\k<w2.heap.size:=by
      have q:k∈List.range' w.heap.size (w2.heap.size-w.heap.size):=I;rw[dT]at q;have:=aa.size;omega
     refine⟨q.2,J,λi hi e=> ?_⟩
     have:=(HG.out.lw.PJ hi e).2;omega) hc TJ (by rw[show V.m=_ from b6.out];exact ZJ)
   obtain⟨xa,xm,xc,rfl⟩:=Vd TJ;have bg:=(ZJ.by.block Z (by have:=aa.size;simp;omega) (λe=>by have:=(o2.lt _ e.symm).1;omega)).trans ((gq w2 _ (by have:=aa.size;omega)).trans ((aa.block Z RD pG).trans HB.out))
   have f3:=Zz bg 0;have m3:=Z0 bg 0 _ rfl;have W6:=Z8 aV;have HF:=Z8 ((Wp.refl B Z w).grown Kb aa (λk e=>pL))
   clear aV TJ ZJ o2 m2 o0 bg G2;go_wp2;go_ret;obtain⟨V',D',c',K',q1,q2⟩:=W6.out;exact⟨rfl,V',D',c',K',q1,HF.out.trans q2⟩
  ·have bo:decide ((D.ms.length:Int)<20)=false:=pI;go_enter func32,ntmps32;go_wp2_with (first|(go_at_call 38;refine(KR.get _).mono ?_;rintro e w2 ⟨r,rfl,bK,ZU⟩;have aa:=ZZ.trans ZU;have m2:=aa.cell m0 pG)|(go_at_call 35;refine KP.get.mono ?_;rintro e w1 ⟨b,rfl,bb,aK,bP,ZZ⟩))
   go_ret;exact⟨rfl,T4.same HG.out aa⟩
theorem ajL {w:A}{B B' e s n:Nat}{v:aF}{xs:ay}(h:w.ownsRow B' e s v n xs)(hB:B<=B'):w.ownsRow B e s v n xs:=by
 refine⟨h.1,?_⟩;rcases h.2 with q|⟨g,cap,cur,F,h2,h3⟩
 ·exact .inl q
 ·exact .inr ⟨g,cap,cur,F,J,h3⟩
theorem ajM {b:Nat}{V:List Xx}{C:List Yz}{t:List UInt8}(h:Ov w b V C t)(hl:V.length<=2500):aq 31 #[ai b] w λe w'=>e=.returned (aj w.heap.size V.length V.length)/\w'.ownsRow w.heap.size 9 1 (aj w.heap.size V.length V.length) V.length (Nv V)/\aB w w':=by
 obtain⟨bc,B,vV,vC,cs,F,h2,_⟩:=h.set;have hc:=h2.lt;have h3:=h2.c1;rcases Lt h2.ov with⟨e1,e2⟩|⟨gr,cap,e1,_,z,e4⟩
 ·obtain rfl:V=[]:=bA.1 e1;rw[e2]at h3;refine(ajw F h3 h.lt hc).mono ?_;rintro e w' ⟨rfl,rfl⟩;refine⟨rfl,⟨rfl,.inr ⟨w.heap.size,0,_,rfl,iw _,gp w _,iw _,by unfold maxLen;omega,?_,rfl⟩⟩,di _ _ _⟩;rw[gy]
 ·rw[e1]at h3;exact ajv F ⟨rfl,e4,z⟩ h3 J h.lt hc
theorem ajN {W:A}{b:Nat}{V:List Xx}{C:List Yz}{t:List UInt8}(h:Ov w b V C t)(hl:V.length<=2500)(z:aB w W)(hB:B<=w.heap.size):aq 31 #[ai b] W λe w'=>∃g,e=.returned (aj g V.length V.length)/\W.heap.size<=g/\g<w'.heap.size/\w'.ownsRow B 9 1 (aj g V.length V.length) V.length (Nv V)/\aB W w':=by
 refine(ajM (w:=W) (h.grown z) hl).mono ?_;rintro e w' ⟨rfl,ho,bS⟩;exact⟨_,rfl,iw _,(ho.lt _ rfl).2,ajL ho (gZ hB z.size),bS⟩
theorem aaX (D:LD)(L:List LP):Wo D 1 L={D with ns:=D.ns++L,ks:=D.ks++L.map (·.mark)}:=by
 induction L generalizing D with
 |nil=>simp[Wo]
 |cons x L ih=>
  have e:Wo D 1 (x::L)=Wo ((D.pl 1 x).pk 2 x.mark) 1 L:=rfl;rw[e,ih];simp[LD.pl,LD.pk]
theorem LG.two {K1 K2:VX->Prop}{V2:LV}{L1 L2:List LP}{t1 t2:aA}{n:Nat}(h:LG w B Z V D c K T)(hl:LW w' B Z V2 (Wo (Wo D 1 L1) 1 L2) (c+1+1) K2)(k1:∀x,K x->K1 x)(k2:∀x,K1 x->K2 x)(F:∀x∈L1,K1 (QM x)/\x.mark=.string t1/\x.len<=n+65)(h2:∀x∈L2,K2 (QM x)/\x.mark=.string t2/\x.len<=n+65)(l1:L1.length<=65)(l2:L2.length<=65)(hn:n<=2500):LG w' B Z V2 (Wo (Wo D 1 L1) 1 L2) (c+1+1) K2 (T+1):=by
 have c1:=Ot D (i:=1) (.inl rfl) L1;have c2:=Ot (Wo D 1 L1) (i:=1) (.inl rfl) L2;have e:Wo (Wo D 1 L1) 1 L2={D with ns:=D.ns++L1++L2,ks:=D.ks++L1.map (·.mark)++L2.map (·.mark)}:=by rw[aaX,aaX]
 refine⟨hl,?_,?_,?_,λx hx=> ?_,λx hx=> ?_,λx hx=> ?_,λx hx=> ?_,?_,λi hi=> ?_,?_⟩
 ·rw[e];simp[h.n1]
 ·rw[e];exact h.n2
 ·rw[e];exact h.n3
 ·rw[e]at hx;rcases fE.1 hx with hx|hx
  ·rcases fE.1 hx with hx|hx
   ·obtain⟨q1,q2,q3⟩:=h.l1 x hx;exact⟨k2 _ (k1 _ q1),q2,q3⟩
   ·obtain⟨q1,q2,q3⟩:=F x hx;exact⟨k2 _ q1,J,_,q2⟩
  ·obtain⟨q1,q2,q3⟩:=h2 x hx;exact⟨q1,J,_,q2⟩
 ·rw[e]at hx;exact⟨k2 _ (k1 _ (h.l2 x hx).1),(h.l2 x hx).2⟩
 ·rw[e]at hx;obtain⟨⟨bs,q1⟩,q2⟩:=h.l3 x hx;exact⟨⟨bs,k2 _ (k1 _ q1)⟩,q2⟩
 ·rw[e]at hx;exact k2 _ (k1 _ (h.ms x hx))
 ·rw[e];exact h.m20
 ·have:=h.bd i hi;have:=c1 i hi;have:=c2 i hi;omega
 ·have:=h.cb;omega
def ajO (w2:A)(n:Nat)(vo vi:aF)(wr:A):Prop:=∃i:Nat,i<=n/\vo=.bool true/\vi=Y i/\aB w2 wr
theorem aaY {l:List Xx}{i:Nat}{a:Xx}(ha:l[i]?=some a):(Nv l)[i]?=some (.string a.name):=by simp[Nv,ha]
theorem R9 {w:A}{B e g n cap j:Nat}{xs:ay}{u:aF}(h:w.ownsRow B e 1 (aj g n cap) n xs)(hu:xs[j]?=some u):w.cell? (O g j)=some u:=by
 have q:=h.cells (g:=g) rfl j u hu;have P5:((ah g):Addr).add j=(O g j):=by unfold Addr.add;split<;>simp_all
 rw[P5]at q;exact q
theorem Ns {w:A}(h:LW w B Z V D c K){k:Nat}(I:w.heap.size<=k):Yj Z V k:=
 ⟨by have:=h.slt;omega,λi hi e=>by have:=(h.PJ hi e).2;omega⟩
theorem ajP (h:LG w B Z V D c K T)(hT:T<=1100000)(x:MP)(hx:x∈D.ms)(kd on od bu:Int)(tx:aA)(va:ax)(vn vc:Nat)(wk:Bool)(I:kd≠3):aq 40 #[ai Z,.agg #[ai x.b,ai x.r],.agg #[Y kd,Y on,.string tx,.slice va vn vc,Y od,Y bu,.bool wk]] w λe w'=>e=.returned (.bool true)/\T4 w B Z T w':=by
 have bt:(kd==3)=false:=qz;have hMod:=(h.lw.kp _ (h.ms x hx)).1;have bD:=h.bd;have aI:=h.cb;have HG:=Z8 h;obtain⟨b,r,H0,w0,s⟩:=x;have hP:=hMod.prog;have a7:(W5 s).length<=2500:=by have:=hMod.JM.md.WB;simp only at this;omega
 obtain⟨ta,bQ,la,b9,tc,b7,lc,cf,lists,rules,aW,_,aU,_,_⟩:=hMod.ref;have ev:(Uv s).vars=(W5 s).map qP:=hMod.JM.vars;simp only at hP aU aW;rw[ev]at aU;generalize W5 s=l at *;have aM:w.cell? (O r 1)=some (.slice bQ l.length b7):=by have:=aU.m1;rwa [fy]at this
 have bC:∀(k:Nat) (a:Xx),l[k]?=some a->∃gv,bQ=some (ah gv)/\ak w gv (k*3) (.string a.name):=λk a ha=>by
  obtain⟨g,e,c1,_⟩:=aU.v k (qP a) (by rw[dR,ha];rfl);exact⟨g,e,c1⟩
 have KN:=ZQ.mk (λ{W:A} (z:aB w W)=>ajN (B:=B) hP a7 z h.lw.hB)
 have bB:=Z8 bC;have Vn:=h.lw.hB;have aw:Hid (∀i,i<7->D.Zi i<=900000000000):=λi hi=>by have:=h.bd i hi;omega
 have V6:Hid (∀x,K x->∀k∈x.S,k<w.heap.size):=λx hx k aC=>((h.lw.kp x hx).2 k aC).1
 clear h hMod hP I bD bC aU ev;go_enter func40,ntmps40;go_wp2_with (first|(go_at_call 31;refine(KN.get br).mono ?_;rintro e w2 ⟨g2,rfl,YM,SZ,o2,ZU⟩;have aP:=br.trans ZU;have y1:=ZU.cell x1 pG;have r2:=aP.cell aM pG)|(go_at_call 31;refine(KN.get ((di w _ none).trans (di _ _ none))).mono ?_;rintro e w1 ⟨g1,rfl,YB,RP,o1,ZZ⟩;have br:=((di w _ none).trans (di _ _ none)).trans ZZ;have x0:=ZZ.cell (Z0 (fS w _ _) 0 _ rfl) pG;have x1:=ZZ.cell (Z0 (fS w _ _) 1 _ rfl) pG))
 have Wq:=Z8 (o1.kept ZU (XY _));have av:=Z8 o2;have aT:=Z8 aP;have Zq:w.heap.size<=g1:=by have:=YB;simp at this;omega
 have Zn:g1<g2:=J;have Dw:=aP.size;clear o1 o2 ZZ ZU br aP x0 x1
 go_loopw [11,12] (λvo vi wr=>ajO w2 l.length vo vi wr) (λ_ vi _=>l.length-(intOf vi).toNat)
 case atStart=>exact⟨0,J,rfl,rfl,WW _ _⟩
 case round=>
  obtain⟨i,hi,rfl,rfl,ZX⟩:=hrel;by_cases ZR:i<l.length
  ·obtain⟨a,ha⟩:∃a,l[i]?=some a:=⟨l[i],by simp[ZR]⟩;obtain⟨gv,bC,hq⟩:=bB.out i a ha;subst bC;have k1:=ZX.cell y1 pG;have k2:=ZX.cell r2 pG;have k3:=(aT.out.trans ZX).cell hq pG;have k4:=ZX.cell (R9 Wq.out (aaY ha)) pG;have k5:=ZX.cell (R9 av.out (aaY ha)) pG;have X8:(i:Int)<l.length:=J;have Xy:(0:Int)<=i:=J;have Zm:=Z8 ZX;clear ZX;go_wp2;go_quiet (fail);go_wp2;go_roundw
   case rel=>exact⟨i+1,J,rfl,pQ,Zm.out.trans (XN _ _ _)⟩
   case measure=>simp[intOf];omega
  ·obtain rfl:i=l.length:=J;have a6:=aT.out.trans ZX;have G3:=HG.out.lw.grown a6;have bT:=Wq.out.kept ZX (XY _);have bX:=av.out.kept ZX (XY _);have K1:=ZQ.mk (aaT G3 bT (Ns HG.out.lw Zq) (λx hx q=>by have:=V6.out x hx _ q;omega) J J aw.out)
   have bp:=Z8 (Ns HG.out.lw J:Yj Z V g2);have b8:g2<wr.heap.size:=by have:=ZX.size;omega
   have cd:=Z8 bX;have cj:=Z8 a6;have bL:=a6.size;clear G3 bT bX a6 ZX Wq av aT;go_wp2_with (first|(go_at_call 56;refine(aaT q4 ck f24 n24 J J cn).mono ?_;rintro e w5 ⟨rfl,V5,K5,L2,t2,q5,bY,cp,f25⟩)|(go_at_call 56;refine K1.get.mono ?_;rintro e w4 ⟨rfl,V4,K4,L1,t1,q4,aX,cr,f14⟩;have ck:=JJ cd.out (λk e=>(aX.bl k (by have:g2=k:=fO e;omega) (by have:g2=k:=fO e;rw[<-this];exact bp.out) (by have:g2=k:=fO e;omega)));have f24:=aX.fr g2 b8 bp.out;have n24:∀x,K4 x->g2∉x.S:=(λx hx q=>by rcases aX.kn x hx with e|e;(have:=V6.out x e _ q;omega);(have:=e _ q;omega));have cn:∀i,i<7->(Wo D 1 L1).Zi i<=900000000000:=(λi hi=>by have:=Ot D (i:=1) (.inl rfl) L1 i hi;have:=HG.out.bd i hi;omega)))
   go_ret;exact⟨rfl,V5,_,_,K5,HG.out.two q5 aX.kk bY.kk f14 f25 cr cp a7,(((Wp.refl B Z w).grown Vn cj.out (λk e=>pL)).trans aX.VW).trans bY.VW⟩
structure TR where
 kd:Int
 on:Int
 tx:aA
 va:ax
 vn:Nat
 vc:Nat
 od:Int
 bu:Int
 wk:Bool
def TR.cells (o:TR):Array aF:=#[Y o.kd,Y o.on,.string o.tx,.slice o.va o.vn o.vc,Y o.od,Y o.bu,.bool o.wk]
theorem T4.from (hB:B<=w.heap.size)(z:aB w w1)(h:T4 w1 B Z T w'):T4 w B Z T w':=by
 obtain⟨V',D',c',K',F,h2⟩:=h;exact⟨V',D',c',K',F,((Wp.refl B Z w).grown hB z (λk e=>pL)).trans h2⟩
theorem Le {ms:List MP}{i:Nat}{x:MP}(h:ms[i]?=some x):(ms.flatMap JL)[i*2]?=some (ai x.b)/\(ms.flatMap JL)[i*2+1]?=some (ai x.r):=by
 have q:=λk u I=>GD JL 2 (λ_=>rfl) ms i x h k u I
 exact⟨q 0 _ rfl,q 1 _ rfl⟩
def jI{P:Prop}(h:P:=by
 go_enter func33,ntmps33;go_wp2;go_region_held3 (λw'=>w'.cell? (ah Z)=some (aj gm D.ms.length mc)/\w'.cell? (O w.heap.size 1)=some (Y on)/\w'.cell? (O gm (P*2))=some (ai x.b)/\w'.cell? (O gm (P*2+1))=some (ai x.r)) (go_keep)
  (first|(go_at_call 39;refine(KP.get _).mono ?_;rintro e w' ⟨rfl,Zf⟩;subst w'))
 all_goals go_wp2_with (go_at_call 40;refine(KT.get (((di w _ none).trans (di _ _ none)).trans (ZG _ none))).mono ?_;rintro e w1 ⟨rfl,hS⟩)
 all_goals go_ret
 all_goals exact⟨rfl,hS.from Vn (((di w _ none).trans (di _ _ none)).trans (ZG _ none))⟩):P:=h
def pq{P:Prop}(h:P:=by
 go_wp2;go_ret;exact⟨rfl,T4.same HG.out (di _ _ _)⟩):P:=h
def lB{P:Prop}(h:P:=by
 go_enter func33,ntmps33;exact pq):P:=h
theorem ajQ (h:LG w B Z V D c K T)(hT:T<=1100000)(ht:Sj w)(o:TR)(I:o.kd<=2)(Yu:-9223372036854775808<=o.on)(bn:o.on<=9223372036854775807):aq 33 #[ai Z,.agg o.cells] w λe w'=>e=.returned (.bool true)/\T4 w B Z T w':=by
 obtain⟨kd,on,tx,va,vn,vc,od,bu,wk⟩:=o;unfold TR.cells;simp only at I Yu bn⊢;have Vn:=h.lw.hB;have RD:=h.lw.slt;by_cases F:kd=1
 ·subst F;have KB:=ZQ.mk (λo=>aaW (h.grown (di w o none)) (OH ht (λk I=>gq w o I)) tx)
  clear h ht I;go_enter func33,ntmps33;go_wp2_with (go_at_call 32;refine(KB.get _).mono ?_;rintro e w1 ⟨rfl,hS⟩);go_ret;exact⟨rfl,hS.from Vn (di _ _ _)⟩
 ·have bG:(kd==1)=false:=pW;obtain⟨ma,mc,em⟩:=Wt (h.lw.own 0 J);have m0:ak w Z 0 (.slice ma D.ms.length mc):=(Z0 h.lw.Zl 0 _ rfl).trans (iJ some em);have m1:∀o,(w.alloc o).cell? (ah Z)=some (.slice ma D.ms.length mc):=λo=>(di w o none).cell m0 pG
  have HG:=Z8 h;by_cases h0:D.ms.length=0
  ·rw[h0]at m1;clear h ht m0 em h0;exact lB
  ·have aQ:=h.m20;have aS:=EJ on (D.ms.length:Int) J;obtain⟨P,hP⟩:∃P:Nat,Rj on (D.ms.length:Int)=P:=⟨(Rj on (D.ms.length:Int)).toNat,J⟩;rw[hP]at aS;have bf:P<D.ms.length:=J;obtain⟨x,hx⟩:∃x,D.ms[P]?=some x:=⟨D.ms[P],by simp[bf]⟩;obtain⟨gm,cm,e1,bI,_⟩:=h.lw.at (i:=0) (j:=P*2) J (Le hx).1;obtain⟨bN,bO,aJ,T8,_⟩:=h.lw.at (i:=0) (j:=P*2+1) J (Le hx).2;rw[e1]at aJ;injection aJ with q1 q2 q3;injection q1 with q1;injection q1 with q1 _ _;subst q1;rw[e1]at em;injection em with q4 q5 q6;subst q4;have bJ:=(h.lw.PJ (i:=0) J (by rw[e1];rfl:(V.get 0).ownBlock=some gm)).2;have bz:(((D.ms.length:Nat):Int)==0)=false:=qb;have KP:=ZQ.mk (λW=>EI on (D.ms.length:Int) W Yu bn J J)
   rw[hP]at KP;have cg:(0:Int)<=P:=J;have bV:(P:Int)<D.ms.length:=J;have HX:=Z8 (cq hx);clear h ht e1 hx hP;by_cases h2:kd=2
   ·subst h2;have KT:=ZQ.mk (λ{W:A} (z:aB w W)=>ajP (HG.out.grown z) hT x HX.out 2 on od bu tx va vn vc wk pF)
    exact jI
   ·have aG:(kd==2)=false:=rv;have Pj:(kd==3)=false:=pI;have cu:(kd==4)=false:=pI;have cv:(kd==5)=false:=pI;go_enter func33,ntmps33;go_wp2;go_region_held3 (λw'=>w'.cell? (ah Z)=some (aj gm D.ms.length mc)/\w'.cell? (O w.heap.size 1)=some (Y on)/\w'.cell? (O gm (P*2))=some (ai x.b)/\w'.cell? (O gm (P*2+1))=some (ai x.r)) (go_keep)
     (first|(go_at_call 39;refine(KP.get _).mono ?_;rintro e w' ⟨rfl,Zf⟩;subst w'))
    all_goals go_wp2
    all_goals go_ret
    all_goals exact⟨rfl,T4.same HG.out (((di w _ none).trans (di _ _ none)).trans (ZG _ none))⟩
def AR (w:A)(v:aF)(ops:List TR):Prop:=
 (ops=[]/\∃a c,v=.slice a 0 c)\/∃g off cap,v=.slice (some (O g off)) ops.length cap/\g<w.heap.size/\∀i o,ops[i]?=some o->∀j u,o.cells[j]?=some u->w.cell? (O g (off+i*7+j))=some u
theorem LG.later {T':Nat}(h:LG w B Z V D c K T)(hT:T<=T'):LG w B Z V D c K T':=
 ⟨h.lw,h.n1,h.n2,h.n3,h.l1,h.l2,h.l3,h.ms,h.m20,λi hi=>by have:=h.bd i hi;omega,by have:=h.cb;omega⟩
def V0:LV:=⟨af,af,af,af,af,af,af⟩
def D0:LD:=⟨[],[],[],[],[],[],[]⟩
theorem ajR (w:A):LG (w.alloc (.cells #[af,af,af,af,af,af,af,Y 0] 59)) (w.heap.size+1) w.heap.size V0 D0 0 (λ_=>False) 0:=by
 refine⟨⟨gp w _,J,pG,λi hi=> ?_,λi j hi hj ZP k=> ?_,λx hx=>hx.elim⟩,rfl,rfl,rfl,λx hx=>by simp[D0]at hx,λx hx=>by simp[D0]at hx,λx hx=>by simp[D0]at hx,λx hx=>by simp[D0]at hx,by simp[D0],λi hi=> ?_,J⟩
 ·rcases PK hi with rfl|rfl|rfl|rfl|rfl|rfl|rfl<;>exact ed _ _ _ _
 ·rcases PK hi with rfl|rfl|rfl|rfl|rfl|rfl|rfl<;>intro e<;>cases e
 ·rcases PK hi with rfl|rfl|rfl|rfl|rfl|rfl|rfl<;>simp[D0,LD.Zi]
theorem AQ {o:Obj}(h:Wp (w.heap.size+1) w.heap.size (w.alloc o) w'):∀k,k<w.heap.size->w'.heap[k]?=w.heap[k]?:=λk I=>(h.block k J J).trans (gq w o I)
theorem ajS {o:Obj}(h:Wp (w.heap.size+1) w.heap.size (w.alloc o) w'):aB w w':=⟨h.os,h.tape,h.output,by have:=h.size;simp at this;omega,λk I _=>AQ h k I⟩
def aaZ:aA:=⟨#[118,97,114,32,97,58,32,48,46,46,50,59,32,108,105,110,32,97,32,33,61,32,49,59]⟩
theorem aa0:(prog.info? 33).map (λi=>(i.zero,i.size,i.bytes))=some (some (af),1,24):=pH
theorem FD:(prog.info? 3).map (λi=>(i.zero,i.size,i.bytes))=some (some (Y 0),1,8):=pH
theorem Dv (x:Int):∀u∈[Y x],u.oneCell'=true:=by
 exact mz
theorem ajT (c:Nat)(hc:c<=900000000000):IntKind.i64.wrap (-((c:Int)+1))=-((c:Int)+1):=by
 rw[IntKind.wrap_i64];omega
theorem aa1 {w:A}{ops:Array Oper}{o:Oper}{a:Act}{K:Act->A->Prop}{Q:Exit->Act->A->Prop}{E:Prop}(Qw:o.guard=none)(s x:Operand)(t:TypeId)(ho:o.op=.call {callee:=.builtin .append,args:=#[s,x],argTypes:=#[t,t]})
  (base:Nat) (e:TypeId) (i:TypeInfo) (anZ:aF) (size bytes:Nat) (ht:prog.underlying t=some (.slice e)) (hi:prog.info? e=some i) (hz:i.zero=some anZ)
  (au:i.size=size) (aH:i.bytes=bytes) (aN:anZ.cells.size=size) (Yw:0<size) (v:aF) (n:Nat) (xs:ay) (hs:a.eval s=v) (ZO:w.ownsRow base e size v n xs)
  (ad:Addr) (m c:Nat) (news:ay) (hx:a.eval x=.slice (some ad) m c) (hl:news.length=m*size) (ar:∀j u,news[j]?=some u->w.cell? (ad.add j)=some u) (F:∀u∈news,u.oneCell'=true)
  (aL:n+m<=maxLen) (aO:(n+m)*bytes<=140737488355328) (aR:base<=w.heap.size)
  (h:∀v' w',w'.ownsRow base e size v' (n+m) (xs++news)->Tw w v v' w'->K (a.put o.dst v') w'):
  if Region.wanted o (yielded ops a.tmps)=true then Oper.wp prog o a w K Q else E:=by
 have hw:Region.wanted o (yielded ops a.tmps)=true:=by simp[Region.wanted,Qw]
 rw[iR hw];obtain⟨v',w',hr,h2,h3⟩:=aaM w base t o.type e i anZ size bytes ht hi hz au aH aN Yw v n xs ZO ad m c news hl ar F aL aO aR;unfold Oper.wp execOp;simp only[ho,resolve,invoke,builtin,il,Sem.run_pure,dZ,List.map_toArray,gG,gR,hs,hx,hr];exact h v' w' h2 h3
def jc{P:Prop}(h:P:=by
 obtain⟨na,nc,en⟩:=Wt (hT.lw.own 3 J);obtain⟨ka,kc,ek⟩:=Wt (hT.lw.own 4 J);have o1:wr.ownsRow B 33 1 (.slice na (D1.Zi 3) nc) (D1.Zi 3) (D1.cells 3):=by rw[<-en];exact hT.lw.own 3 J
 have m1:wr.cell? (O Z 3)=some (.slice na (D1.Zi 3) nc):=by rw[<-en];exact Z0 hT.lw.Zl 3 _ rfl
 have T8:D1.Zi 3<=D.Zi 3+L.length:=by rw[hT.d];exact Ot D (.inr (.inl rfl)) L 3 J
 have V7:D1.Zi 4<=D.Zi 4+L.length:=by rw[hT.d];exact Ot D (.inr (.inl rfl)) L 4 J
 have HT:=Z8 hT;have PH:=Z8 en;have Qu:=Z8 ek;have Yw:=hT.lw.hB;have RD:=hT.lw.slt;clear hT en ek;go_wp2_with (at_builtin;refine RH rfl _ _ 30 rfl B 33 i1 (af) 1 24 underlying30 YS T7 UJ UI rfl pF _ _ _ rfl (o1.alloc _) (ah wr.heap.size) 1 1 [aj gi (n+i) UH] rfl rfl (World.news_of_block (gp _ _)) (Lf _ _ _) ?c3 ?c4 ?c5 ?_)
 case c3=>unfold maxLen;omega
 case c4=>omega
 case c5=>simp;omega
 intro v1 w2 WT ZZ;have Oq:=ZZ;rw[<-PH.out]at Oq;have l1:=(HT.out.lw.alloc _).push (D':=D1.pl 3 ⟨gi,n+i,UH,Y (-((c:Int)+1))⟩) (i:=3) J WT Oq (λj hj=>My _ _ (.inr (.inl rfl)) hj) (λj hj=>JK _ _ (.inr (.inl rfl)) hj)
 obtain⟨xa,xm,xc,rfl⟩:=Vd WT;have f2:w2.frozen? (O Z 3)=false:=Zz ((ZZ.by.block Z pI (λe=>by have:=(o1.lt Z e.symm).1;have:=HT.out.lw.lt;omega)).trans (gq wr _ RD |>.trans HT.out.lw.Zl)) 3
 have m2:w2.cell? (O Z 3)=some (.slice na (D1.Zi 3) nc):=ZZ.by.cell ((di wr _ none).cell m1 pG) (λe=>by have:=(o1.lt Z e.symm).1;have:=HT.out.lw.lt;omega)
 have o2:(w2.setCell (O Z 3) (.slice xa xm xc)).ownsRow B 3 1 (.slice ka (D1.Zi 4) kc) (D1.Zi 4) (D1.cells 4):=by rw[<-Qu.out];exact l1.own 4 J
 have m3:(w2.setCell (O Z 3) (.slice xa xm xc)).cell? (O Z 4)=some (.slice ka (D1.Zi 4) kc):=by rw[<-Qu.out];exact Z0 l1.Zl 4 _ rfl
 have L0:(w2.setCell (O Z 3) (.slice xa xm xc)).heap.size=w2.heap.size:=pV;have N2:∀j u,[Y (-((c:Int)+1))][j]?=some u->((w2.setCell (O Z 3) (.slice xa xm xc)).alloc (.cells #[Y (-((c:Int)+1))] 3)).cell? (((ah w2.heap.size):Addr).add j)=some u:=sO;have OC:=l1.hB;have PG:=l1.slt;have TL:=Z8 l1;have Wq:=Z8 WT;have We:=Z8 ZZ;clear l1 WT ZZ o1 m1 Oq;have AP:(w2.setCell (O Z 3) (.slice xa xm xc)).cell? (O Z 7)=some (Y ((c:Int)+1)):=by have q:=Z0 TL.out.Zl 7 (Y ((c+1:Nat):Int)) rfl;rw[ec]at q;exact q
 have FC:=(o2.alloc (.cells #[Y (-((c:Int)+1))] 3)).kept (ZG _ none) (XY _);have FB:∀j u,[Y (-((c:Int)+1))][j]?=some u->((w2.setCell (O Z 3) (.slice xa xm xc)).alloc (.cells #[Y (-((c:Int)+1))] 3)).drew.cell? (((ah w2.heap.size):Addr).add j)=some u:=by rw[<-L0];exact World.news_of_block (w:=(w2.setCell (O Z 3) (.slice xa xm xc)).alloc (.cells #[Y (-((c:Int)+1))] 3)) (gp _ _)
 have U1:(w2.setCell (O Z 3) (.slice xa xm xc)).grownBy ((w2.setCell (O Z 3) (.slice xa xm xc)).alloc (.cells #[Y (-((c:Int)+1))] 3)).drew none:=(di _ _ none).trans (ZG _ none);have QL:=Z8 U1;have FA:B<=((w2.setCell (O Z 3) (.slice xa xm xc)).alloc (.cells #[Y (-((c:Int)+1))] 3)).drew.heap.size:=gZ OC U1.size;have Fz:Hid (∀(v3:aF) (w3:A),Tw ((w2.setCell (O Z 3) (.slice xa xm xc)).alloc (.cells #[Y (-((c:Int)+1))] 3)).drew (.slice ka (D1.Zi 4) kc) v3 w3->w3.frozen? (O Z 4)=false/\w3.cell? (O Z 4)=some (.slice ka (D1.Zi 4) kc)):=λv3 w3 ZJ=>by
  have ZP:some Z≠(Value.slice ka (D1.Zi 4) kc).ownBlock:=λe=>by have:=(o2.lt Z e.symm).1;have:=TL.out.lt;omega
  have XK:=(ZJ.by.block Z (dH PG QL.out.size) ZP).trans ((QL.out.block Z PG pG).trans TL.out.Zl);exact⟨Zz XK 4,ZJ.by.cell (QL.out.cell m3 pG) ZP⟩
 have Fy:IntKind.i64.wrap (-((c:Int)+1))=(-((c:Int)+1)):=ajT c hc;have Fx:=Z8 Fy;have AO:∀o,((w2.setCell (O Z 3) (.slice xa xm xc)).alloc o).drew.cell? (O Z 4)=some (.slice ka (D1.Zi 4) kc):=λo=>((di _ o none).trans (ZG _ none)).cell m3 pG
 clear U1 Fy;clear N2;go_wp2;go_region_law (refine aa1 p8 _ _ 33 p8 B 3 i2 (Y 0) 1 8 underlying33 XB Ze Zq Zn rfl pF (.slice ka (D1.Zi 4) kc) (D1.Zi 4) (D1.cells 4) p8 (by rw[Fx.out];exact FC) (ah w2.heap.size) 1 1 [Y (-((c:Int)+1))] p8 rfl (by rw[Fx.out];exact FB) (Dv _) pK J (by rw[Fx.out];exact FA) ?_;intro v3 w3 TJ ZJ;rw[Fx.out]at ZJ;have JH:=Fz.out v3 w3 ZJ;have f4:=JH.1;have m4:=JH.2;obtain⟨ya,ym,yc,rfl⟩:=Vd TJ)
 all_goals
  have ga:=We.out;rw[<-PH.out]at ga;have gb:=ZJ;rw[<-Qu.out]at gb;obtain⟨V2,D2,Pr⟩:=HT.out.push (.inr rfl) Wq.out (di _ _ _) ga TJ QL.out gb;have o5:=Pr.own;have SH:=Z8 Pr;have M8:(w3.setCell (O Z 4) (.slice ya ym yc)).heap.size=w3.heap.size:=pV;have FI:B<=w3.heap.size:=tM;have N3:∀j u,[Y (-((c:Int)+1))][j]?=some u->((w3.setCell (O Z 4) (.slice ya ym yc)).alloc (.cells #[Y (-((c:Int)+1))] 3)).cell? (((ah w3.heap.size):Addr).add j)=some u:=sP;have k73:(w3.setCell (O Z 4) (.slice ya ym yc)).cell? (O Z 7)=some (Y ((c:Int)+1)):=by have q:=Z0 SH.out.lw.Zl 7 (Y ((c+1:Nat):Int)) rfl;rw[ec]at q;exact q
  clear ga gb L0 Pr TJ ZJ o2 m3 TL Wq We HT PH Qu m2 f2 AP AO FC FB FA Fz QL Fx JH;go_wp2_with (at_builtin;refine RH rfl _ _ 33 rfl B 3 i2 (Y 0) 1 8 underlying33 XB Ze Zq Zn rfl pF _ _ _ rfl (o5.alloc _) (ah w3.heap.size) 1 1 [Y (-((c:Int)+1))] rfl rfl N3 (Dv _) ?c3 ?c4 ?c5 ?_)
  case c3=>unfold maxLen;omega
  case c4=>omega
  case c5=>simp;omega
  exact nY):P:=h
theorem aa2 (h:LW w B Z V D c K){g n cap:Nat}{xs:ay}(hl:w.ownsRow B 3 1 (aj g n cap) n xs)(hf:Yj Z V g)(I:∀x,K x->g∉x.S)(hn:n<=2000000)(hc:c<=900000000000)(aw:∀i,i<7->D.Zi i<=900000000000):aq 58 #[ai Z,aj g n cap] w λe w'=>e=.returned (.tuple #[])/\∃V' K' L,LW w' B Z V' (Wo D 3 L) (c+1) K'/\Hz w w' B Z g V V' K K'/\L.length<=65/\∀x∈L,K' (QM x)/\x.mark=Y (-((c:Int)+1))/\x.len<=n+65:=by
 obtain⟨i1,YS,T7,UJ,UI⟩:=iE aa0;obtain⟨i2,XB,Ze,Zq,Zn⟩:=iE FD;have GS:B<=g:=(hl.lt g rfl).1;have UB:g<w.heap.size:=(hl.lt g rfl).2;have Vn:=h.hB;have Yc:=h.slt;have O1:g≠Z:=hf.1;have Hy:=Z8 (λx hx k I=>((h.kp x hx).2 k I).1:∀x,K x->∀k∈x.S,k<w.heap.size)
 have HF:=Z8 hf;have HK:=Z8 I;have c7:w.cell? (O Z 7)=some (Y c):=Z0 h.Zl 7 _ rfl;have f7:w.frozen? (O Z 7)=false:=Zz h.Zl 7;have aY:=h.count (c+1);have ec:((c+1:Nat):Int)=(c:Int)+1:=J;rw[ec]at aY;have HC:=Z8 aY;have c8:(w.setCell (O Z 7) (Y ((c:Int)+1))).cell? (O Z 7)=some (Y ((c:Int)+1)):=by
  have:=Z0 aY.Zl 7 (Y ((c+1:Nat):Int)) rfl;rw[ec]at this;exact this
 have HL:=Z8 (hl.kept (ZC w Z 7 (Y ((c:Int)+1))) (.inr (λe=>O1 (by simpa[Value.ownBlock]using e))))
 have bZ:=aw 3 J;have b5:=aw 4 J;clear h hl aY hf I aw;go_enter func58,ntmps58;go_wp2;have HA:Hid (Nu w B Z g cap n (c+1) V D K 3 (Y (-((c:Int)+1))) (Y 0) (w.setCell (O Z 7) (Y ((c:Int)+1)))):=by
  refine⟨0,_,J,rfl,pG,HL.out,by rw[<-ec]at HC⊢;exact HC.out,λk F h2 h3=> ?_,(Wp.refl B Z w).grown Vn (ZC w Z 7 _) (λk e=>by cases e;exact .inl rfl)⟩
  exact(ZC w Z 7 _).block k F (λe=>h2.1 (fO e))
 generalize (w.setCell (O Z 7) (Y ((c:Int)+1)))=w1 at *;clear HL HC c7 f7 c8
 go_loopw [4] (λvi wr=>Nu w B Z g cap n (c+1) V D K 3 (Y (-((c:Int)+1))) vi wr) (λvi _=>n-(intOf vi).toNat)
 case atStart=>exact HA.out
 case round=>
  clear HA;obtain⟨i,xs,hi,rfl,TS,ZO,Uj,O2,Yf⟩:=hrel;have a8:xs.length=n:=rV;by_cases ZR:i<n
  ·have X8:(i:Int)<n:=J;have Xy:(0:Int)<=i:=J;have k1:wr.cell? (O g i)=some (xs[i]'J):=by rw[ZO.cellAt i J];simp[a8,ZR]
   have k2:=ZO.frozenAt i;have k7:wr.cell? (O Z 7)=some (Y ((c:Int)+1)):=by have q:=Z0 Uj.Zl 7 (Y ((c+1:Nat):Int)) rfl;rw[ec]at q;exact q
   exact oP
  ·obtain rfl:n=i:=J;have HB:=Z8 (Nu.last 3 TS ZO Uj O2 Yf HF.out HK.out);clear ZO TS Uj O2 Yf;go_wp2
   go_loopw [1,5] (λvl vi wr=>AU w B Z g n (c+1) V D K 3 3 (Y (-((c:Int)+1))) vl vi wr) (λ_ vi _=>65-(intOf vi).toNat)
   case atStart=>exact HB.out
   case round=>
    clear HB;obtain⟨i,gi,UH,V1,D1,L,hi,rfl,rfl,bR,hT⟩:=hrel;have k7:wr.cell? (O Z 7)=some (Y ((c:Int)+1)):=by have q:=Z0 hT.lw.Zl 7 (Y ((c+1:Nat):Int)) rfl;rw[ec]at q;exact q
    by_cases bU:i<=64
    ·have bW:(i:Int)<=64:=J;by_cases h3:i<3
     ·have Pj:(i:Int)<3:=J;exact jc
     ·have Pj:decide ((i:Int)<3)=false:=pI;by_cases ba:i=64
      ·have bj:((i:Int)==64)=true:=pI;clear ba;exact jc
      ·have bj:((i:Int)==64)=false:=pI;have o5:=hT.own;have FI:=hT.lw.hB;have SH:=Z8 hT;clear hT;go_wp2_with (at_builtin;refine RH rfl _ _ 33 rfl B 3 i2 (Y 0) 1 8 underlying33 XB Ze Zq Zn rfl pF _ _ _ rfl (o5.alloc _) (ah wr.heap.size) 1 1 [Y (-((c:Int)+1))] rfl rfl (World.news_of_block (gp _ _)) (Dv _) ?c3 ?c4 ?c5 ?_)
       case c3=>unfold maxLen;omega
       case c4=>omega
       case c5=>simp;omega
       exact j5
    ·obtain rfl:i=65:=J;obtain⟨K',q1,q2,q3⟩:=hT.done;have hd:=hT.d;subst hd;have HQ:=Z8 (iG q1 (iG q2 q3));clear q1 q2 q3 hT;go_wp2;go_end0;exact⟨rfl,V1,K',L,HQ.out.1,HQ.out.2.1,J,HQ.out.2.2⟩
end Go.Proofs.YthpcbbnabnlanaaGreatDoor
