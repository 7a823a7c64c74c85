import Derived.Test.YthpcbbnabnlanaaGreatDoorM20
import Derived.Deep.RegionHeld3
namespace Go.Proofs.YthpcbbnabnlanaaGreatDoor
set_option maxHeartbeats 8000000
set_option maxRecDepth 100000
open Go.Proofs.Tryz
set_option linter.all false
section
variable {T:List ZY}{L:Nat}
theorem ahv {t:ZY}(h:PT t)(k:Int)(h4:4<=k)(aS:k<=23)(I:Z6 t=k):t.s=bs (Tl k):=RJ _ _ ((h.Uw k h4 aS).2 I)
theorem ahw (hC:QO T L){S:ZK}(hi:S.1<=T.length)(h:(Yr (pt T L) S).2.2=0):S.2=0/\D4 T S.1 (gS (Yr (pt T L) S).1) (Yr (pt T L) S).2.1/\S.1<(Yr (pt T L) S).2.1/\(Yr (pt T L) S).2.1<=T.length/\ME (Yr (pt T L) S).1:=by
 have hz:=(GI (pt T L) S).2 h;obtain⟨b0,b1,b2,b3,b4,b5⟩:=Ln hC hi (av:=WV) rfl hz;have anY:=λav S=>UK (pt T L) av S
 have nt:∀t∈([]:List XU),Z6 t.first≠3->t.first=t.name:=λa ha=>uC
 have nl:∀t∈([]:List Ud),Z6 t.first≠22->t.first=t.name:=λa ha=>uC
 obtain⟨k,I⟩:∃k,Z6 (ZT (pt T L) S.1)=k:=⟨_,rfl⟩;have WS:k=4\/k=5\/k=6\/k=7\/k=8\/k=9\/k=10:=by rw[I]at b2;simpa[WV]using b2
 have bt:=λh4 aS=>ahv b5 k h4 aS I
 unfold Yr at h⊢;simp only[I,b3]at h⊢;rcases WS with rfl|rfl|rfl|rfl|rfl|rfl|rfl
 ·simp only[iP]at h⊢;have a5:=(anY _ _).2 h;have a4:=(anY _ _).2 a5;have a3:=(anY _ _).2 a4;have a2:=(anY _ _).2 a3;obtain⟨-,c1,c2,c3,c4,c5⟩:=TU hC (S:=(S.1+1,0)) qh 2 pF a2;rw[c3]at a3 a4 a5 h⊢;obtain⟨-,d1,d2,d3,d4,d5⟩:=TU hC (S:=(S.1+1+1,0)) c1 12 pF a3;rw[d3]at a4 a5 h⊢;obtain⟨-,e1,e2,e3,e4,e5⟩:=TU hC (S:=(S.1+1+1+1,0)) d1 3 pF a4;rw[e3]at a5 h⊢;obtain⟨-,f1,f2,f3,f4,f5⟩:=TU hC (S:=(S.1+1+1+1+1,0)) e1 17 pF a5;rw[f3]at h⊢;obtain⟨-,g1,g2,g3,g4,g5⟩:=TU hC (S:=(S.1+1+1+1+1+1,0)) f1 3 pF h;rw[g3];have he:=e5.int.2 e2;have z:=g5.int.2 g2;refine⟨b0,⟨b4,?_⟩,by simp only;omega,g1,⟨by simp[I],by simp[I],λ_=>⟨_,_,rfl,he,z⟩,λq=>by simp[I]at q,λq=>by simp[I]at q,λq=>by simp[I]at q,nt,nl,λq=>by simp[I]at q⟩⟩
  simp only[gS,I];exact⟨bt pF pF,c4,e4,DT hC e4 he,g4,DT hC g4 z,sr⟩
 ·simp only[show ¬(5:Int)=4 by decide,iK,iP]at h⊢;have a5:=(anY _ _).2 h;have a4:=(B9 (pt T L) (W8 (pt T L) 3) (λb=>UK _ [3] b) _).2 a5
  have a3:=(anY _ _).2 a4;have a2:=(anY _ _).2 a3;obtain⟨-,c1,c2,c3,c4,c5⟩:=TU hC (S:=(S.1+1,0)) qh 2 pF a2;rw[c3]at a3 a4 a5 h⊢;obtain⟨-,d1,d2,d3,d4,d5⟩:=TU hC (S:=(S.1+1+1,0)) c1 14 pF a3;rw[d3]at a4 a5 h⊢;obtain⟨-,e1,e2,e3,e4,e5⟩:=TU hC (S:=(S.1+1+1+1,0)) d1 18 pF a4;rw[e3]at a5 h⊢;obtain⟨n0,r,m,r1,r2,⟨r3,rm⟩,r4,r5,r6,r7,r8⟩:=Bf hC (W8 (pt T L) 3) (F6 T) (λt=>PT t/\Z6 t=3) (λS=>UK _ [3] S) (vz hC 3 pF) (S:=(S.1+1+1+1+1,0)) e1 a5
  obtain⟨-,f1,f2,f3,f4,f5⟩:=TU hC r6 19 pF h;rw[f3];simp only at r5 rm;have hI:∀t∈n0::r,t.kind=105:=λt ht=>(r8 t ht).1.int.2 (r8 t ht).2
  have aJ:∀t∈n0::r,t∈T:=by
   intro t ht;have key:∀(l:List ZY) (i j:Nat),Ir T (F6 T) i l j->∀t∈l,t∈T:=by
    intro l
    induction l with
    |nil=>intro i j _ t ht;simp at ht
    |cons a l ih=>
     rintro i j ⟨_,m,⟨q1,_⟩,q2⟩ t ht;rcases gH.1 ht with rfl|ht
     ·exact cq q1
     ·exact ih _ _ q2 t ht
   rcases gH.1 ht with rfl|ht
   ·exact cq r3
   ·exact key _ _ _ r4 t ht
  refine⟨b0,⟨b4,?_⟩,by simp only;omega,f1,⟨by simp[I],by simp[I],λq=>by simp[I]at q,λ_=>by rw[r1];exact hI,λq=>by simp[I]at q,λq=>by simp[I]at q,nt,nl,λq=>by simp[I]at q⟩⟩
  simp only[gS,I];refine⟨bt pF pF,c4,n0,r,_,?_,r3,by rw[rm]at r4;exact vA r4,λt ht=>hC.ints t (aJ t ht) (hI t ht),f1,Be hC r6 r7,sr⟩
  simpa using r1
 ·simp only[show ¬(6:Int)=4 by decide,show ¬(6:Int)=5 by decide,show ¬(6:Int)=7 by decide,iK,iP]at h⊢;obtain⟨-,num,n1,n2,n3,n4,n5,n6,n7⟩:=vB hC (S:=(S.1+1,0)) qh h;have aC:Z6 (Xe (pt T L) {kw:=ZT (pt T L) S.1} (S.1+1,0)).1.kw=6:=I;simp only at n4;refine⟨b0,⟨b4,?_⟩,J,n5,⟨by rw[aC];decide,by rw[aC];decide,λq=>by rw[aC]at q;simp at q,λq=>by rw[aC]at q;simp at q,λ_=>⟨num,n1,n2⟩,λq=>by rw[aC]at q;simp at q,n6,nl,λ_=>n7⟩⟩
  simp only[gS,aC,n1];exact⟨bt pF pF,n3⟩
 ·simp only[show ¬(7:Int)=4 by decide,show ¬(7:Int)=5 by decide,iK,iP]at h⊢;have a3:=(B8 (pt T L) _ _).2 h;have a2:=(anY _ _).2 a3;obtain⟨-,c1,c2,c3,c4,c5⟩:=TU hC (S:=(S.1+1,0)) qh 2 pF a2;rw[c3]at a3 h⊢;obtain⟨-,d1,d2,d3,d4,d5⟩:=TU hC (S:=(S.1+1+1,0)) c1 12 pF a3;rw[d3]at h⊢;obtain⟨-,num,n1,n2,n3,n4,n5,n6,n7⟩:=vB hC (S:=(S.1+1+1+1,0)) d1 h;have aC:Z6 (Xe (pt T L) {kw:=ZT (pt T L) S.1,name:=ZT (pt T L) (S.1+1)} (S.1+1+1+1,0)).1.kw=7:=I;simp only at n4;refine⟨b0,⟨b4,?_⟩,by simp only;omega,n5,⟨by rw[aC];decide,by rw[aC];decide,λq=>by rw[aC]at q;simp at q,λq=>by rw[aC]at q;simp at q,λ_=>⟨num,n1,n2⟩,λq=>by rw[aC]at q;simp at q,n6,nl,λ_=>n7⟩⟩
  simp only[gS,aC,n1];exact⟨bt pF pF,c4,n3⟩
 ·simp only[show ¬(8:Int)=4 by decide,show ¬(8:Int)=5 by decide,show ¬(8:Int)=7 by decide,show ¬(8:Int)=6 by decide,iK,iP]at h⊢;have a6:=(anY _ _).2 h;have a5:=(anY _ _).2 a6;have a4:=(anY _ _).2 a5;have a3:=(anY _ _).2 a4;have a2:=(anY _ _).2 a3;obtain⟨-,c1,c2,c3,c4,c5⟩:=TU hC (S:=(S.1+1,0)) qh 2 pF a2;rw[c3]at a3 a4 a5 a6 h⊢;obtain⟨-,d1,d2,d3,d4,d5⟩:=TU hC (S:=(S.1+1+1,0)) c1 18 pF a3;rw[d3]at a4 a5 a6 h⊢;obtain⟨-,e1,e2,e3,e4,e5⟩:=TU hC (S:=(S.1+1+1+1,0)) d1 2 pF a4;rw[e3]at a5 a6 h⊢;obtain⟨-,f1,f2,f3,f4,f5⟩:=TU hC (S:=(S.1+1+1+1+1,0)) e1 19 pF a5;rw[f3]at a6 h⊢;obtain⟨-,g1,g2,g3,g4,g5⟩:=TU hC (S:=(S.1+1+1+1+1+1,0)) f1 14 pF a6;rw[g3]at h⊢;obtain⟨-,i1,i2,i3,i4,i5⟩:=TU hC (S:=(S.1+1+1+1+1+1+1,0)) g1 2 pF h;rw[i3];refine⟨b0,⟨b4,?_⟩,by simp only;omega,i1,⟨by simp[I],by simp[I],λq=>by simp[I]at q,λq=>by simp[I]at q,λq=>by simp[I]at q,λ_=>⟨_,_,rfl⟩,nt,nl,λq=>by simp[I]at q⟩⟩
  simp only[gS,I];exact⟨bt pF pF,c4,e4,i4,sr⟩
 ·simp only[show ¬(9:Int)=4 by decide,show ¬(9:Int)=5 by decide,show ¬(9:Int)=7 by decide,show ¬(9:Int)=6 by decide,show ¬(9:Int)=8 by decide,iK,iP]at h⊢;obtain⟨n0,r,m,r1,r2,⟨r3,rm⟩,r4,r5,r6,r7,r8⟩:=Bf hC (W8 (pt T L) 2) (F6 T) (λt=>PT t/\Z6 t=2) (λS=>UK _ [2] S) (vz hC 2 pF) (S:=(S.1+1,0)) qh h
  simp only at r5 rm;refine⟨b0,⟨b4,?_⟩,J,r6,⟨by simp[I],by simp[I],λq=>by simp[I]at q,λq=>by simp[I]at q,λq=>by simp[I]at q,λq=>by simp[I]at q,nt,nl,λq=>by simp[I]at q⟩⟩
  simp only[gS,I];exact⟨bt pF pF,n0,r,by simpa using r1,r3,by rw[rm]at r4;exact vA r4,r6,Be hC r6 r7⟩
 ·simp only[show ¬(10:Int)=4 by decide,show ¬(10:Int)=5 by decide,show ¬(10:Int)=7 by decide,show ¬(10:Int)=6 by decide,show ¬(10:Int)=8 by decide,show ¬(10:Int)=9 by decide,iK,iP]at h⊢;obtain⟨l0,r,m,r1,r2,r3,r4,r5,r6,r7,r8⟩:=Bf hC (Xh (pt T L)) (λi a j=>Q6 T i (gL a) j) (λl=>Z6 l.first≠22->l.first=l.name) (Cc _) (λS hi h=>ahr hC hi h) (S:=(S.1+1,0)) qh h
  simp only at r5;refine⟨b0,⟨b4,?_⟩,J,r6,⟨by simp[I],by simp[I],λq=>by simp[I]at q,λq=>by simp[I]at q,λq=>by simp[I]at q,λq=>by simp[I]at q,nt,by rw[r1];exact r8,λq=>by simp[I]at q⟩⟩
  simp only[gS,I];exact⟨bt pF pF,gL l0,r.map gL,m,by rw[r1];rfl,r3,ahu r4,r6,Be hC r6 r7⟩
theorem ahx (hC:QO T L)(f:Nat):∀(acc:List Xl) (S:ZK),S.1<=T.length->T.length-S.1<f->(TK (pt T L) f acc S).2.2=0->∃r,(TK (pt T L) f acc S).1=acc++r/\Iw T S.1 (r.map gS) T.length/\∀g∈r,ME g:=by
 induction f with
 |zero=>intro acc S _ h;omega
 |succ f ih=>
  intro acc S hi hf h;by_cases c:S.2=0/\Z6 (ZT (pt T L) S.1)≠1
  ·rw[Ev c.1 c.2]at h⊢;have Zq:=(vQ (U:=pt T L) f (acc++[(Yr (pt T L) S).1]) _).2 h;have Zn:=(UK (pt T L) [11] (Yr (pt T L) S).2).2 Zq;obtain⟨s0,s1,s2,s3,s4⟩:=ahw hC hi Zn;obtain⟨b0,b1,b2,b3,b4,b5⟩:=TU hC s3 11 pF Zq;rw[b3]at h⊢;obtain⟨r,e1,e2,e3⟩:=ih (acc++[(Yr (pt T L) S).1]) ((Yr (pt T L) S).2.1+1,0) b1 (by show T.length-((Yr (pt T L) S).2.1+1)<f;omega) h;refine⟨(Yr (pt T L) S).1::r,by rw[e1,dN];rfl,⟨_,s1,b1,e2⟩,λg z=> ?_⟩
   rcases gH.1 z with rfl|z
   ·exact s4
   ·exact e3 g z
  ·rw[GH c]at h⊢;have hs:Z6 (ZT (pt T L) S.1)=1:=by
    by_cases q:Z6 (ZT (pt T L) S.1)=1
    ·exact q
    ·exact absurd ⟨h,q⟩ c
   have he:S.1=T.length:=by
    rcases ib S.1 T.length with q|q
    ·exfalso
     have ho:=DZ (hC.kind _ (eL q));rw[Iu q]at hs;have:=ho.eof.2 hs;rcases hC.kind _ (eL q)with q|q|q|q<;>omega
    ·omega
   exact⟨[],pG,he,λg z=>by simp at z⟩
theorem aab (hC:QO T L)(h:(Xc (pt T L)).2.2=0):Iw T 0 ((Xc (pt T L)).1.map gS) T.length/\∀g∈(Xc (pt T L)).1,ME g:=by
 obtain⟨r,e1,e2,e3⟩:=ahx hC ((pt T L).length+1) [] (0,0) (iz _) rY h;have e:(Xc (pt T L)).1=r:=e1;rw[e];exact⟨e2,e3⟩
end
section
theorem ahy {a b:aA}:a.toList=b.toList↔a=b:=⟨λh=>(RJ a _ h).trans (RJ b _ rfl).symm,λh=>by rw[h]⟩
theorem ahz (a b:Bool)(k l:Int)(st:Zv)(I:k≠0):ZE (a||b) k l st=ZE b k l (ZE a k l st):=by
 obtain⟨x,y⟩:=st;unfold ZE Vc U4
 cases a<;>cases b<;>by_cases h:x=0<;>simp[h,I]
theorem MD {b:Bool}{k l:Int}{st:Zv}(I:k≠0)(h:(ZE b k l st).1=0):b=false/\st.1=0:=by
 obtain⟨x,y⟩:=st;unfold ZE Vc U4 at h
 cases b
 ·simpa using h
 ·by_cases q:x=0
  ·simp[q]at h;exact absurd h I
  ·simp[q]at h
theorem aac {b:Bool}{k l:Int}{st:Zv}(h:st.1≠0):(ZE b k l st).1≠0:=by
 obtain⟨x,y⟩:=st;simp only at h;unfold ZE Vc;simp[h]
theorem ahA {α:Type}{step:Nat->α->Zv->Zv}(hs:∀k a st,st.1≠0->(step k a st).1≠0):∀(l:List α) (k:Nat) (st:Zv),st.1≠0->(X9 step k l st).1≠0:=by
 intro l
 induction l with
 |nil=>intro k st h;exact h
 |cons a l ih=>intro k st h;exact ih _ _ (hs k a st h)
theorem aad (s a:aA)(l:List aA):∀k:Nat,XO s (l++[a]) k=if 0<=XO s l k then XO s l k else if a=s then((k+l.length:Nat):Int)else-1:=by
 induction l with
 |nil=>
  intro k;simp only[fF,XO];by_cases h:a=s
  ·subst h;simp
  ·have:¬a.toList=s.toList:=λq=>h (ahy.1 q)
   simp[h,this]
 |cons b l ih=>
  intro k;simp only[eG,XO];split
  ·simp
  ·rw[ih (k+1)];simp only[eM];split
   ·rfl
   ·split
    ·congr 1;omega
    ·rfl
def qP (v:Xx):Y7:=⟨v.name,v.low,v.high⟩
structure UG (M:SV)(q:TI):Prop where
 vars:q.vars.map qP=M.vars
 m:q.m=M.rules.length
 so:∀s,(q.g s).so=if 0<=Y6 M.vars s then 4 else if 0<=Va M.lists s then 5 else 0
 pl:∀s,0<=Y6 M.vars s->(q.g s).pl=Y6 M.vars s/\∃v,M.vars[(Y6 M.vars s).toNat]?=some v/\(q.g s).lo=v.low/\(q.g s).hi=v.high
 apart:∀s,0<=Y6 M.vars s->Va M.lists s<0
variable {M:SV}{q:TI}
theorem UG.F5 (h:UG M q)(s:aA):((q.g s).so != 4)=decide (Y6 M.vars s<0):=by
 rw[h.so s];by_cases c:0<=Y6 M.vars s
 ·rw[iR c];simp;exact c
 ·rw[iQ c,gj J];split<;>decide
theorem UG.Iq (h:UG M q)(s:aA):((q.g s).so != 0)=(decide (0<=Y6 M.vars s)||decide (0<=Va M.lists s)):=by
 rw[h.so s];by_cases c:0<=Y6 M.vars s
 ·rw[iR c,gj c];rfl
 ·rw[iQ c,fQ c];by_cases c':0<=Va M.lists s
  ·rw[iR c',gj c'];rfl
  ·rw[iQ c',fQ c'];rfl
theorem UG.so5 (h:UG M q)(s:aA):((q.g s).so != 5)=decide (Va M.lists s<0):=by
 rw[h.so s];by_cases c:0<=Y6 M.vars s
 ·rw[iR c,gj (h.apart s c)];rfl
 ·rw[iQ c];by_cases c':0<=Va M.lists s
  ·rw[iR c',fQ J];rfl
  ·rw[iQ c',gj J];rfl
theorem UG.Yp (h:UG M q)(t:ZY)(st:Zv):D9 M.vars t st=NN q.g t st:=by
 unfold D9 Ez Ey NN;rw[h.F5 t.s];have hs:=h.so t.s;by_cases c:0<=Y6 M.vars t.s
 ·rw[iQ J,iQ J,fQ J,MQ];rw[iR c]at hs;obtain⟨-,v,hv,F,h2⟩:=h.pl t.s c;have e:SY (Zs q.g t.s 4)=OI M.vars (Y6 M.vars t.s):=by
   unfold Zs SY OI;rw[iR hs,hv,F,h2]
  rw[e];rfl
 ·rw[iR J,iR J,gj J];have e:SY (Zs q.g t.s 4)=false:=by
   unfold Zs;rw[iQ]
   ·rfl
   ·rw[hs,iQ c];split<;>decide
  rw[e,MQ];rfl
theorem QA {t:ZY}(h:t.kind=105):ZW t=YU t.s:=by unfold ZW;rw[iR h]
theorem ahB (s:aA):Ta s=2\/4<=Ta s:=by
 unfold Ta
 repeat' split
 all_goals decide
theorem aae {t:ZY}(h:Z6 t=3):t.kind=105:=by
 unfold Z6 at h;by_cases c:t.kind=105
 ·exact c
 ·rw[iQ c]at h;by_cases c2:t.kind=115
  ·rw[iR c2]at h;by_cases anZ:UN t.s=0
   ·omega
   ·have:=vN t.s anZ;omega
  ·rw[iQ c2]at h;split at h
   ·omega
   ·have:=ahB t.s;omega
theorem DR (n k:Nat):decide ((n:Int)<((k+1:Nat):Int))=decide ((n:Int)<=(k:Int)):=fe.2 J
theorem aaf (h:UG M q):∀(ts:List XU) (k:Nat) (st:Zv),(∀t∈ts,Z6 t.first≠3->t.first=t.name)->NV M.vars (k+1) (ts.map gP) st=X9 (TA q.g) k ts st:=by
 intro ts
 induction ts with
 |nil=>intro k st _;rfl
 |cons t ts ih=>
  intro k st ht;simp only[gG,NV,X9];rw[ih (k+1) _ (λa ha=>ht a tS)]
  congr 1;unfold LH TA NR gP;simp only;rw[h.F5];have e8:decide ((8:Int)<((k+1:Nat):Int))=decide ((8:Int)<=(k:Int)):=DR 8 k;by_cases c:Z6 t.first=3
  ·simp only[c,iP];rw[QA (aae c),e8]
  ·simp only[c,iK];rw[e8,ht t pG c]
theorem ahC (h:UG M q):∀(ts:List ZY) (k:Nat) (st:Zv),Gf M.vars (k+1) ts st=X9 (QT q.g) k ts st:=by
 intro ts
 induction ts with
 |nil=>intro k st;rfl
 |cons t ts ih=>
  intro k st;simp only[Gf,X9];rw[ih (k+1) _];congr 1;unfold wG QT;rw[h.F5,show decide ((8:Int)<((k+1:Nat):Int))=decide ((8:Int)<=(k:Int)) from DR 8 k]
theorem ahD (h:UG M q):∀(ts:List Ud) (k:Nat) (st:Zv),(∀t∈ts,Z6 t.first≠22->t.first=t.name)->Gd M.vars (k+1) (ts.map gL) st=X9 (RO q.g) k ts st:=by
 intro ts
 induction ts with
 |nil=>intro k st _;rfl
 |cons t ts ih=>
  intro k st ht;simp only[gG,Gd,X9];rw[ih (k+1) _ (λa ha=>ht a tS)]
  congr 1;unfold wF;rw[h.Yp];have e8:decide ((8:Int)<((k+1:Nat):Int))=decide ((8:Int)<=(k:Int)):=DR 8 k;have eh:(gL t).head=t.first:=by
   unfold Ss.head gL;by_cases c:Z6 t.first=22
   ·simp[c]
   ·simp[c];exact(ht t pG c).symm
  rw[e8,eh];rfl
theorem ahE:∀(ts:List ZY) (k:Nat) (st:Zv),(∀t∈ts,t.kind=105)->Iy (k+1) ts st=X9 QF k ts st:=by
 intro ts
 induction ts with
 |nil=>intro k st _;rfl
 |cons t ts ih=>
  intro k st ht;simp only[Iy,X9];rw[ih (k+1) _ (λa ha=>ht a tS)]
  congr 1;unfold wD QF;rw[QA (ht t pG),show decide ((20:Int)<((k+1:Nat):Int))=decide ((20:Int)<=(k:Int)) from DR 20 k]
theorem aag (h:UG M q){g:Xl}(z:ME g):Sb M (gS g) q.st=(Xv g q).st:=by
 obtain⟨k,I⟩:∃k,Z6 g.kw=k:=⟨_,rfl⟩;have h4:=z.k4;have XP:=z.DU;have WS:k=4\/k=5\/k=6\/k=7\/k=8\/k=9\/k=10:=J;rcases WS with rfl|rfl|rfl|rfl|rfl|rfl|rfl
 ·obtain⟨lo,hi,e,k1,k2⟩:=z.n4 I;unfold Xv Sb gS;simp only[I,e,iP,cW,cV];unfold OG;rw[h.Iq,QA k1,QA k2,<-h.vars,fy];exact ahz _ _ _ _ _ pF
 ·unfold Xv Sb gS;simp only[I,iP,show ¬(5:Int)=4 by decide,iK];rw[h.Iq];exact ahE _ 0 _ (z.n5 I)
 ·obtain⟨N,e,k1⟩:=z.n6 (.inl I);unfold Xv Sb gS Vf M7;simp only[I,e,show ¬(6:Int)=4 by decide,show ¬(6:Int)=5 by decide,show ¬(6:Int)=7 by decide,show ¬(6:Int)=8 by decide,show ¬(6:Int)=9 by decide,show ¬(6:Int)=10 by decide,iK,cW];rw[QA k1,<-aaf h _ 0 _ z.tm,h.m];rfl
 ·obtain⟨N,e,k1⟩:=z.n6 (.inr I);unfold Xv Sb gS Vf M7;simp only[I,e,show ¬(7:Int)=4 by decide,show ¬(7:Int)=5 by decide,show ¬(7:Int)=8 by decide,iK,iP,cW];rw[QA k1,<-aaf h _ 0 _ z.tm,h.m,<-h.Yp];rfl
 ·obtain⟨anY,B,e⟩:=z.n8 I;unfold Xv Sb gS Vf;simp only[I,e,show ¬(8:Int)=4 by decide,show ¬(8:Int)=5 by decide,show ¬(8:Int)=7 by decide,iK,iP,cW,cV];rw[h.F5,h.F5,h.so5,h.m];rfl
 ·unfold Xv Sb gS Vf;simp only[I,show ¬(9:Int)=4 by decide,show ¬(9:Int)=5 by decide,show ¬(9:Int)=7 by decide,show ¬(9:Int)=8 by decide,iK,iP];rw[<-ahC h,h.m];rfl
 ·unfold Xv Sb gS Vf;simp only[I,show ¬(10:Int)=4 by decide,show ¬(10:Int)=5 by decide,show ¬(10:Int)=7 by decide,show ¬(10:Int)=8 by decide,show ¬(10:Int)=9 by decide,iK,iP];rw[<-ahD h _ 0 _ z.lt,h.m];rfl
end
section
variable {M:SV}{q:TI}
theorem Bd (vars:List Y7)(v:Y7)(s:aA):Y6 (vars++[v]) s=if 0<=Y6 vars s then Y6 vars s else if v.name=s then(vars.length:Int)else-1:=by
 unfold Y6 Ua;rw[fD,gG,gR,aad];simp
theorem Bc (lists:List OA)(v:OA)(s:aA):Va (lists++[v]) s=if 0<=Va lists s then Va lists s else if v.name=s then(lists.length:Int)else-1:=by
 unfold Va;rw[fD,gG,gR,aad];simp
theorem ahF (k:Nat)(t:ZY)(st:Zv)(h:st.1≠0):(QF k t st).1≠0:=aac (aac h)
def mV{P:Prop}(h:P:=by
 have:¬g.name.s=s:=λq=>c q.symm
 simp[c',this]):P:=h
theorem aah (h:UG M q){g:Xl}(z:ME g)(h0:(Xv g q).st.1=0):UG (Vk M (gS g)) (Xv g q):=by
 obtain⟨k,I⟩:∃k,Z6 g.kw=k:=⟨_,rfl⟩;have h4:=z.k4;have XP:=z.DU;have WS:k=4\/k=5\/k=6\/k=7\/k=8\/k=9\/k=10:=J;have Vs:∀r:J4,∀st:Zv,∀c l,UG {M with rules:=M.rules++[r]} ⟨q.g,q.vars,q.m+1,st,c,l⟩:=λr st c l=>⟨h.vars,by simp[h.m],h.so,h.pl,h.apart⟩
 rcases WS with rfl|rfl|rfl|rfl|rfl|rfl|rfl
 ·obtain⟨lo,hi,e,k1,k2⟩:=z.n4 I;unfold Xv at h0⊢;unfold Vk gS;simp only[I,e,iP,cW,cV]at h0⊢;unfold OG at h0;have f1:=MD pF h0;have f2:=MD pF f1.2;have f3:=MD pF f2.2;have f4:=MD pF f3.2;have hd:=f4.1;rw[h.Iq]at hd;simp only[bX,bC]at hd;have hlen:M.vars.length=q.vars.length:=by rw[<-h.vars,fy]
  refine⟨?_,h.m,λs=> ?_,λs hs=> ?_,λs hs=> ?_⟩
  ·show(q.vars++[_]).map qP=_;rw[fD,h.vars,QA k1,QA k2];rfl
  ·show(VF q.g g.name.s _ s).so=if 0<=Y6 (M.vars++[_]) s then 4 else if 0<=Va M.lists s then 5 else 0
   rw[Bd];unfold VF;by_cases c:s=g.name.s
   ·rw[iR c,c,iQ hd.1,iR rfl,iR J]
   ·rw[iQ c,h.so s];by_cases c':0<=Y6 M.vars s
    ·simp[c']
    ·exact mV
  ·change 0<=Y6 (M.vars++[_]) s at hs;show(VF q.g g.name.s _ s).pl=Y6 (M.vars++[_]) s/\∃v,(M.vars++[_])[(Y6 (M.vars++[_]) s).toNat]?=some v/\(VF q.g g.name.s _ s).lo=v.low/\(VF q.g g.name.s _ s).hi=v.high;rw[Bd]at hs⊢;unfold VF;by_cases c:s=g.name.s
   ·rw[iR c];rw[c,iQ hd.1,iR rfl]at hs⊢;refine⟨by simp only;omega,⟨g.name.s,YU lo.s,YU hi.s⟩,?_,QA k1,QA k2⟩;rw[dJ,aO (iw _)];simp
   ·rw[iQ c];have ZP:¬g.name.s=s:=λq=>c q.symm
    by_cases c':0<=Y6 M.vars s
    ·rw[iR c']at hs⊢;obtain⟨p1,v,p2,p3,p4⟩:=h.pl s c';refine⟨p1,v,?_,p3,p4⟩;have ZR:(Y6 M.vars s).toNat<M.vars.length:=(aU.1 p2).1;rw[aT ZR,p2]
    ·rw[iQ c',iQ ZP]at hs;omega
  ·change 0<=Y6 (M.vars++[_]) s at hs;show Va M.lists s<0;rw[Bd]at hs;by_cases c':0<=Y6 M.vars s
   ·exact h.apart s c'
   ·rw[iQ c']at hs;by_cases c:g.name.s=s
    ·rw[<-c];omega
    ·rw[iQ c]at hs;omega
 ·unfold Xv at h0⊢;unfold Vk gS;simp only[I,iP,show ¬(5:Int)=4 by decide,iK]at h0⊢;have f1:(ZE ((q.g g.name.s).so != 0) 4 (↑g.name.line) q.st).1=0:=by
   by_cases c:(ZE ((q.g g.name.s).so != 0) 4 (↑g.name.line) q.st).1=0
   ·exact c
   ·exact absurd h0 (ahA ahF _ 0 _ c)
  have hd:=(MD pF f1).1;rw[h.Iq]at hd;simp only[bX,bC]at hd;refine⟨h.vars,h.m,λs=> ?_,λs hs=> ?_,λs hs=> ?_⟩
  ·show(VF q.g g.name.s _ s).so=if 0<=Y6 M.vars s then 4 else if 0<=Va (M.lists++[_]) s then 5 else 0
   rw[Bc];unfold VF;by_cases c:s=g.name.s
   ·rw[iR c,c,iQ hd.1,iQ hd.2,iR rfl,iR J]
   ·rw[iQ c,h.so s];by_cases c':0<=Va M.lists s
    ·simp[c']
    ·exact mV
  ·change 0<=Y6 M.vars s at hs;have c:¬s=g.name.s:=λe=>hd.1 (by rw[<-e];exact hs)
   show(VF q.g g.name.s _ s).pl=Y6 M.vars s/\∃v,M.vars[(Y6 M.vars s).toNat]?=some v/\(VF q.g g.name.s _ s).lo=v.low/\(VF q.g g.name.s _ s).hi=v.high;unfold VF;rw[iQ c];exact h.pl s hs
  ·change 0<=Y6 M.vars s at hs;show Va (M.lists++[_]) s<0;have c:¬g.name.s=s:=λe=>hd.1 (by rw[e];exact hs)
   have:=h.apart s hs;rw[Bc,iQ J,iQ c];omega
 ·unfold Xv Vk gS;simp only[I,show ¬(6:Int)=4 by decide,show ¬(6:Int)=5 by decide,iK];exact Vs _ _ _ _
 ·unfold Xv Vk gS;simp only[I,show ¬(7:Int)=4 by decide,show ¬(7:Int)=5 by decide,iK];exact Vs _ _ _ _
 ·unfold Xv Vk gS;simp only[I,show ¬(8:Int)=4 by decide,show ¬(8:Int)=5 by decide,iK];exact Vs _ _ _ _
 ·unfold Xv Vk gS;simp only[I,show ¬(9:Int)=4 by decide,show ¬(9:Int)=5 by decide,iK];exact Vs _ _ _ _
 ·unfold Xv Vk gS;simp only[I,show ¬(10:Int)=4 by decide,show ¬(10:Int)=5 by decide,iK];exact Vs _ _ _ _
theorem ahG (ss:List PX)(M:SV)(st:Zv)(h:st.1≠0):TV ss M st=(M,st):=by
 cases ss with
 |nil=>rfl
 |cons s ss=>simp only[TV];rw[iQ h]
theorem ahH (gs:List Xl):∀{M:SV} {q:TI},UG M q->q.st.1=0->(∀g∈gs,ME g)->(TV (gs.map gS) M q.st).2=(XT gs q).st/\((XT gs q).st.1=0->UG (TV (gs.map gS) M q.st).1 (XT gs q)):=by
 induction gs with
 |nil=>intro M q h _ _;exact⟨rfl,λ_=>h⟩
 |cons g gs ih=>
  intro M q h h0 z;have ha:=aag h (z g pG);simp only[gG,TV,XT];rw[iR h0,ha];by_cases c:(Xv g q).st.1=0
  ·rw[iR c];exact ih (aah h (z g pG) c) c (λa ha=>z a tS)
  ·rw[iQ c,ahG _ _ _ c];exact⟨rfl,λq=>absurd q c⟩
theorem aai:UG ⟨[],[],[]⟩ q0:=⟨rfl,rfl,λs=>rfl,λs h=>by simp[Y6,Ua,XO]at h,λs h=>by simp[Y6,Ua,XO]at h⟩
theorem DO (s:aA):QO (lex s).2.1 (lex s).2.2:=⟨⟨vP s,yD s,vR s s.size 0 1 []⟩,Cy s⟩
theorem ahI (s:aA)(hl:(lex s).1=0)(R:Int):Lq s R=Lp (lex s).2.2 R:=by
 have h:=adM s s.size 0 1 [] J J (by simp[TY]) hl J (λk I=>I9 s k I)
 have e:(lex s).2.2=1+TY s s.size:=h;unfold Lq Lp;rw[e];simp
def T6 (s:aA):List Xl:=(Xc (Y0 s)).1
def Uv (s:aA):SV:=(TV ((T6 s).map gS) ⟨[],[],[]⟩ (0,0)).1
theorem ahJ (s:aA)(hs:s.size<=2000)(hl:(lex s).1=0)(h:(Xc (Y0 s)).2.2≠0):∃k R,k<=1000000/\Vl k [XF] (lex s).2.1=some R/\R≠0/\Lq s R=(Xc (Y0 s)).2.2:=by
 have hn:=F9 s;obtain⟨k,R,I,hR,hE⟩:=vE (DO s).toCut J;rcases hE with⟨e,_⟩|⟨e,hr,hf⟩
 ·exact absurd e h
 ·exact⟨k,R,I,hR,hr,(ahI s hl R).trans hf⟩
theorem Bb (s:aA)(hs:s.size<=2000)(hl:(lex s).1=0)(h:(Xc (Y0 s)).2.2=0):(∃k,k<=1000000/\Vl k [XF] (lex s).2.1=some 0)/\Iw (lex s).2.1 0 ((T6 s).map gS) (lex s).2.1.length/\(TV ((T6 s).map gS) ⟨[],[],[]⟩ (0,0)).2=(XT (T6 s) q0).st/\((XT (T6 s) q0).st.1=0->UG (Uv s) (XT (T6 s) q0)):=by
 have hn:=F9 s;obtain⟨k,R,I,hR,hE⟩:=vE (DO s).toCut J;obtain⟨F,h2⟩:=aab (DO s) h;obtain⟨h3,h4⟩:=ahH (T6 s) aai rfl h2;rcases hE with⟨e,rfl⟩|⟨e,hr,hf⟩
 ·exact⟨⟨k,I,hR⟩,F,h3,h4⟩
 ·exact absurd h e
end
section
def YX (n:Nat)(p:Int):Prop:=0<=p/\p<n
structure UF (n:Nat)(t:Int->Prop)(c:Yz):Prop where
 sort:c.sort=0\/c.sort=1\/c.sort=2\/c.sort=3\/c.sort=4
 Yp:c.sort=1->YX n c.Yp/\t c.Yp
 ZA:∀p∈c.ZA,YX n p.1/\-100<=p.2/\p.2<=100
 MC:c.ZA.length<=8
 Ky:c.sort=0\/c.sort=1->c.ZA≠[]
 rel:c.rel=0\/c.rel=1\/c.rel=2
 num:-1000000<=c.num/\c.num<=1000000
 F4:c.list.length<=20
 list:∀x∈c.list,-1000<=x/\x<=1000
 place:c.sort=2->YX n c.place/\YX n c.entry
 vars:∀x∈c.vars,YX n x
 WB:c.vars.length<=8
 Pu:c.sort=3->c.vars≠[]
 lits:∀p∈c.lits,YX n p.1/\t p.1/\(p.2=0\/p.2=1)
 Ip:c.lits.length<=8
 Ha:c.sort=4->c.lits≠[]
def O9 (vars:List Xx)(p:Int):Prop:=∃v,vars[p.toNat]?=some v/\0<=v.low/\v.high<=1
structure Qz (q:TI):Prop where
 pl:∀s,(q.g s).so=4->0<=(q.g s).pl/\∃v,q.vars[(q.g s).pl.toNat]?=some v/\v.low=(q.g s).lo/\v.high=(q.g s).hi
 vars:∀v∈q.vars,-1000<=v.low/\v.low<=v.high/\v.high<=1000
 WB:q.vars.length<=8
 cons:∀c∈q.cons,UF q.vars.length (O9 q.vars) c
 O8:q.cons.length<=16
 m:q.m=q.cons.length
 ls:∀s,(q.ls s).length<=20/\∀x∈q.ls s,-1000<=x/\x<=1000
theorem UF.more {n n':Nat}{t t':Int->Prop}{c:Yz}(h:UF n t c)(hn:n<=n')(ht:∀p,t p->t' p):UF n' t' c:=
 have k:∀p,YX n p->YX n' p:=λp hp=>⟨hp.1,by have:=hp.2;omega⟩
 ⟨h.sort,λe=>⟨k _ (h.Yp e).1,ht _ (h.Yp e).2⟩,λp hp=>⟨k _ (h.ZA p hp).1,(h.ZA p hp).2⟩,h.MC,h.Ky,h.rel,h.num,h.F4,h.list,λe=>⟨k _ (h.place e).1,k _ (h.place e).2⟩,λx hx=>k _ (h.vars x hx),h.WB,h.Pu,λp hp=>⟨k _ (h.lits p hp).1,ht _ (h.lits p hp).2.1,(h.lits p hp).2.2⟩,h.Ip,h.Ha⟩
theorem Vj {b:Bool}{k l:Int}{st:Zv}(I:k≠0)(h:(ZE b k l st).1=0):b=false/\st.1=0:=by
 cases b with
 |false=>exact⟨rfl,by rw[MQ]at h;exact h⟩
 |true=>
  rw[xI]at h;split at h
  ·exact absurd h I
  ·exact absurd h ‹_›
theorem Nz {α:Type}{step:Nat->α->Zv->Zv}(hs:∀k a st,(step k a st).1=0->st.1=0):∀(l:List α) (k:Nat) (st:Zv),(X9 step k l st).1=0->st.1=0/\∀i a,l[i]?=some a->∃ax,(step (k+i) a ax).1=0:=by
 intro l
 induction l with
 |nil=>intro k st h;exact⟨h,λi a ha=>uC⟩
 |cons x l ih=>
  intro k st h;obtain⟨F,h2⟩:=ih (k+1) (step k x st) h;refine⟨hs _ _ _ F,λi a ha=> ?_⟩
  cases i with
  |zero=>simp at ha;subst ha;exact⟨st,F⟩
  |succ i=>
   obtain⟨ax,h3⟩:=h2 i a td;exact⟨ax,by rw[show k+(i+1)=k+1+i by omega];exact h3⟩
theorem F3 {α:Type}{step:Nat->α->Zv->Zv}{n:Nat}(hs:∀k a st,(step k a st).1=0->st.1=0)(hn:∀k a st,(step k a st).1=0->k<n){l:List α}{st:Zv}(h:(X9 step 0 l st).1=0):l.length<=n:=by
 cases hl:l.length with
 |zero=>omega
 |succ m=>
  obtain⟨a,ha⟩:∃a,l[m]?=some a:=⟨l[m]'J,by simp[hl]⟩;obtain⟨ax,h'⟩:=(Nz hs l 0 st h).2 m a ha;have:=hn _ _ _ h';omega
theorem MB {x:Int}(h:(x != 4)=false):x=4:=pX
theorem F2 {g:aA->Th}{s:aA}{k:Int}(h:(g s).so=k):Zs g s k=g s:=by unfold Zs;rw[iR h]
theorem F0 {x m:Int}(h:Yg x m=false):-m<=x/\x<=m:=by
 unfold Yg at h;simp at h;omega
theorem JV {g:aA->Th}{k:Nat}{t:XU}{st:Zv}(h:(TA g k t st).1=0):st.1=0/\(g t.name.s).so=4/\k<8/\-100<=Vv t/\Vv t<=100:=by
 unfold TA at h;obtain⟨F,h2⟩:=Vj pF h;have aa:=MB F;by_cases c:Z6 t.first=3
 ·unfold NR at h2;rw[iR c]at h2;obtain⟨h3,h4⟩:=Vj pF h2;obtain⟨h5,h6⟩:=Vj pF h4;have h7:=F0 h3;have h8:¬(8:Int)<=k:=dI h5;refine⟨h6,aa,J,?_⟩;unfold Vv;rw[iR c];split<;>omega
 ·unfold NR at h2;rw[iQ c]at h2;obtain⟨h5,h6⟩:=Vj pF h2;have h8:¬(8:Int)<=k:=dI h5;refine⟨h6,aa,J,?_⟩;unfold Vv;rw[iQ c];split<;>omega
theorem Io {g:aA->Th}{k:Nat}{t:ZY}{st:Zv}(h:(QT g k t st).1=0):st.1=0/\(g t.s).so=4/\k<8:=by
 unfold QT at h;obtain⟨F,h2⟩:=Vj pF h;obtain⟨h5,h6⟩:=Vj pF h2;have h8:¬(8:Int)<=k:=dI h5;exact⟨h6,MB F,J⟩
theorem aaj {t:Th}(h:SY t=false):0<=t.lo/\t.hi<=1:=by
 unfold SY at h;simp at h;omega
theorem Im {g:aA->Th}{k:Nat}{t:Ud}{st:Zv}(h:(RO g k t st).1=0):st.1=0/\(g t.name.s).so=4/\k<8/\0<=(g t.name.s).lo/\(g t.name.s).hi<=1:=by
 unfold RO at h;obtain⟨h0,h⟩:=Vj pF h;obtain⟨F,h2⟩:=Vj pF h;obtain⟨h5,h6⟩:=Vj pF h2;have h8:¬(8:Int)<=k:=dI h5;have aa:=MB F;rw[F2 aa]at h0;exact⟨h6,aa,J,aaj h0⟩
theorem JU {k:Nat}{t:ZY}{st:Zv}(h:(QF k t st).1=0):st.1=0/\k<20/\-1000<=ZW t/\ZW t<=1000:=by
 unfold QF at h;obtain⟨F,h2⟩:=Vj pF h;obtain⟨h5,h6⟩:=Vj pF h2;have h8:¬(20:Int)<=k:=dI h5;exact⟨h6,J,F0 F⟩
section
variable {q:TI}
theorem Qz.PS (h:Qz q){s:aA}(hs:(q.g s).so=4):YX q.vars.length (Zs q.g s 4).pl:=by
 rw[F2 hs];obtain⟨h0,v,hv,_⟩:=h.pl s hs;have:=(aU.1 hv).1;exact⟨h0,J⟩
theorem Qz.mo (h:Qz q){s:aA}(hs:(q.g s).so=4)(hl:0<=(q.g s).lo)(hh:(q.g s).hi<=1):O9 q.vars (Zs q.g s 4).pl:=by
 rw[F2 hs];obtain⟨h0,v,hv,e1,e2⟩:=h.pl s hs;exact⟨v,hv,J,J⟩
theorem ahK (k:Int):Wc k=0\/Wc k=1\/Wc k=2:=by
 unfold Wc;split
 ·exact .inr (.inl rfl)
 ·split
  ·exact .inr (.inr rfl)
  ·exact .inl rfl
theorem aak (h:Qz q){ts:List XU}{st:Zv}(hz:(X9 (TA q.g) 0 ts st).1=0):st.1=0/\(ts.map (λt=>((Zs q.g t.name.s 4).pl,Vv t))).length<=8/\∀p∈ts.map (λt=>((Zs q.g t.name.s 4).pl,Vv t)),YX q.vars.length p.1/\-100<=p.2/\p.2<=100:=by
 have F:=Nz (λk a st h=>(JV h).1) ts 0 st hz
 refine⟨F.1,by rw[fy];exact F3 (λk a st h=>(JV h).1) (λk a st h=>(JV h).2.2.1) hz,λp hp=> ?_⟩
 obtain⟨t,ht,rfl⟩:=gU.1 hp;obtain⟨i,hi,he⟩:=cX ht;obtain⟨ax,h2⟩:=F.2 i t sJ;obtain⟨_,h3,_,h4⟩:=JV h2;exact⟨h.PS h3,h4⟩
theorem ahL (h:Qz q){s:Xl}(ho:NM s)(I:Z6 s.kw≠4)(cm:Z6 s.kw≠5){st:Zv}(hz:(Vf q.g s st).1=0):st.1=0/\UF q.vars.length (O9 q.vars) (Ug q.g q.ls s):=by
 obtain⟨kw,nm,names,numbers,ZA,rel,lits⟩:=s;simp only at I cm;have MO:=ho.MO;simp only at MO;have JT:∀(sort Yp:Int) (M:ZY),(sort=0\/sort=1)->(sort=1->YX q.vars.length Yp/\O9 q.vars Yp)->ZA≠[]->∀st:Zv,(ZE (Yg (ZW M) 1000000) 5 M.line (X9 (TA q.g) 0 ZA st)).1=0->
   st.1=0/\UF q.vars.length (O9 q.vars) ⟨sort,Yp,ZA.map (λt=>((Zs q.g t.name.s 4).pl,Vv t)),Wc (Z6 rel),ZW M,[],0,0,[],[]⟩:=λsort Yp M hs ht ZP st hz=>by
  obtain⟨F,h2⟩:=Vj pF hz;obtain⟨h3,h4,h5⟩:=aak h h2;refine⟨h3,⟨by simp only;omega,ht,h5,h4,λ_=>ux,ahK _,F0 F,pG,(λx hx=>qA),(λe=>(by simp only at e;omega)),(λx hx=>qA),pG,(λe=>(by simp only at e;omega)),(λx hx=>qA),pG,λe=>by simp only at e;omega⟩⟩
 rcases MO with e|e|e|e|e|e|e
 ·exact absurd e I
 ·exact absurd e cm
 ·obtain⟨hT,M,hM⟩:=ho.s6 (.inl e);simp only at hM hT;subst hM;have e1:Ug q.g q.ls ⟨kw,nm,names,[M],ZA,rel,lits⟩=⟨0,0,ZA.map (λt=>((Zs q.g t.name.s 4).pl,Vv t)),Wc (Z6 rel),ZW M,[],0,0,[],[]⟩:=qV
  rw[e1];simp[Vf,M7,e]at hz;exact JT 0 0 M (.inl rfl) (λe=>pL) hT st hz
 ·obtain⟨hT,M,hM⟩:=ho.s6 (.inr e);simp only at hM hT;subst hM;have e1:Ug q.g q.ls ⟨kw,nm,names,[M],ZA,rel,lits⟩=⟨1,(Zs q.g nm.s 4).pl,ZA.map (λt=>((Zs q.g t.name.s 4).pl,Vv t)),Wc (Z6 rel),ZW M,[],0,0,[],[]⟩:=qV
  rw[e1];have aw:(ZE (Yg (ZW M) 1000000) 5 M.line (X9 (TA q.g) 0 ZA (NN q.g nm st))).1=0:=by simpa[Vf,M7,e]using hz
  have h0:(NN q.g nm st).1=0:=(aak h (Vj pF aw).2).1;unfold NN at h0;obtain⟨F,h2⟩:=Vj pF h0;obtain⟨h3,h4⟩:=Vj pF h2;have aa:=MB h3;rw[F2 aa]at F;have h5:=aaj F;exact⟨h4,(JT 1 _ M (.inr rfl) (λ_=>⟨h.PS aa,h.mo aa h5.1 h5.2⟩) hT _ aw).2⟩
 ·obtain⟨P,Q,aL⟩:=ho.s8 e;simp only at aL;subst aL;have e1:Ug q.g q.ls ⟨kw,nm,[P,Q],numbers,ZA,rel,lits⟩=⟨2,0,[],0,0,if (q.g nm.s).so=5 then q.ls nm.s else[],(Zs q.g P.s 4).pl,(Zs q.g Q.s 4).pl,[],[]⟩:=qV
  rw[e1];have aw:(ZE ((q.g Q.s).so != 4) 4 Q.line (ZE ((q.g P.s).so != 4) 4 P.line (ZE ((q.g nm.s).so != 5) 4 nm.line st))).1=0:=tU;obtain⟨F,h2⟩:=Vj pF aw;obtain⟨h3,h4⟩:=Vj pF h2;obtain⟨h5,h6⟩:=Vj pF h4;refine⟨h6,⟨pG,(λe=>pL),(λx hx=>qA),pG,(λe=>vx),.inl rfl,pG,?_,?_,λ_=>⟨h.PS (MB h3),h.PS (MB F)⟩,(λx hx=>qA),pG,(λe=>pL),(λx hx=>qA),pG,λe=>pL⟩⟩
  ·show(if (q.g nm.s).so=5 then q.ls nm.s else[]).length<=20
   split
   ·exact(h.ls nm.s).1
   ·simp
  ·intro x hx;change x∈(if (q.g nm.s).so=5 then q.ls nm.s else[])at hx
   split at hx
   ·exact(h.ls nm.s).2 x hx
   ·cases hx
 ·have e1:Ug q.g q.ls ⟨kw,nm,names,numbers,ZA,rel,lits⟩=⟨3,0,[],0,0,[],0,0,names.map (λt=>(Zs q.g t.s 4).pl),[]⟩:=qV
  rw[e1];have aw:(X9 (QT q.g) 0 names st).1=0:=tU;have F:=Nz (λk a st h=>(Io h).1) names 0 st aw
  have ZP:=ho.s9 e;simp only at ZP;refine⟨F.1,⟨pG,(λe=>pL),(λx hx=>qA),pG,(λe=>vx),.inl rfl,pG,pG,(λx hx=>qA),(λe=>pL),λx hx=> ?_,?_,λ_=>ux,(λx hx=>qA),pG,λe=>pL⟩⟩
  ·obtain⟨t,ht,rfl⟩:=gU.1 hx;obtain⟨i,hi,he⟩:=cX ht;obtain⟨ax,h2⟩:=F.2 i t sJ;exact h.PS (Io h2).2.1
  ·show(names.map _).length<=8;rw[fy];exact F3 (λk a st h=>(Io h).1) (λk a st h=>(Io h).2.2) aw
 ·have e1:Ug q.g q.ls ⟨kw,nm,names,numbers,ZA,rel,lits⟩=⟨4,0,[],0,0,[],0,0,[],lits.map (λt=>((Zs q.g t.name.s 4).pl,if Z6 t.first=22 then 0 else 1))⟩:=qV
  rw[e1];have aw:(X9 (RO q.g) 0 lits st).1=0:=tU;have F:=Nz (λk a st h=>(Im h).1) lits 0 st aw
  have ZP:=ho.BQ e;simp only at ZP;refine⟨F.1,⟨pG,(λe=>pL),(λx hx=>qA),pG,(λe=>vx),.inl rfl,pG,pG,(λx hx=>qA),(λe=>pL),(λx hx=>qA),pG,(λe=>pL),λx hx=> ?_,?_,λ_=>ux⟩⟩
  ·obtain⟨t,ht,rfl⟩:=gU.1 hx;obtain⟨i,hi,he⟩:=cX ht;obtain⟨ax,h2⟩:=F.2 i t sJ;obtain⟨_,h3,_,h4,h5⟩:=Im h2;exact⟨h.PS h3,h.mo h3 h4 h5,by simp only;split<;>simp⟩
  ·show(lits.map _).length<=8;rw[fy];exact F3 (λk a st h=>(Im h).1) (λk a st h=>(Im h).2.2.1) aw
theorem ahM (h:Qz q){s:Xl}(ho:NM s)(hz:(Xv s q).st.1=0):Qz (Xv s q):=by
 by_cases c4:Z6 s.kw=4
 ·obtain⟨lo,hi,hn⟩:=ho.s4 c4;have e1:Xv s q=⟨VF q.g s.name.s ⟨4,q.vars.length,ZW lo,ZW hi,af⟩,q.vars++[⟨s.name.s,ZW lo,ZW hi⟩],q.m,OG q.g q.vars.length s.name lo hi q.st,q.cons,QD q.ls s.name.s []⟩:=by
   unfold Xv;rw[iR c4,hn]
  rw[e1]at hz⊢;have aw:(OG q.g q.vars.length s.name lo hi q.st).1=0:=hz;unfold OG at aw;obtain⟨F,aw⟩:=Vj pF aw;obtain⟨h2,aw⟩:=Vj pF aw;obtain⟨h3,aw⟩:=Vj pF aw;obtain⟨h4,aw⟩:=Vj pF aw;obtain⟨h5,aw⟩:=Vj pF aw;have g1:¬ZW hi<ZW lo:=dI F;have g2:=F0 h2;have g3:=F0 h3;have g5:¬(8:Int)<=q.vars.length:=dI h5;refine⟨λs' bf=> ?_,λv hv=> ?_,by simp;omega,λc hc=>(h.cons c hc).more pG (λp hp=> ?_),h.O8,h.m,λs'=> ?_⟩
  ·simp only[VF]at bf⊢;split at bf
   ·rename_i e;rw[iR e];exact⟨pG,⟨s.name.s,ZW lo,ZW hi⟩,pG,rfl,rfl⟩
   ·rename_i e;rw[iQ e];obtain⟨k1,v,k2,k3⟩:=h.pl s' bf;exact⟨k1,v,by rw[aT (aU.1 k2).1];exact k2,k3⟩
  ·rcases fE.1 hv with q'|q'
   ·exact h.vars v q'
   ·simp only[gH,eQ,iM]at q';subst q';exact⟨g3.1,by simp only;omega,g2.2⟩
  ·obtain⟨v,k1,k2⟩:=hp;exact⟨v,by rw[aT (aU.1 k1).1];exact k1,k2⟩
  ·simp only[QD];split
   ·exact⟨pG,λx hx=>qA⟩
   ·exact h.ls s'
 ·by_cases c5:Z6 s.kw=5
  ·have e1:Xv s q=⟨VF q.g s.name.s ⟨5,0,0,0,af⟩,q.vars,q.m,X9 QF 0 s.numbers (ZE ((q.g s.name.s).so != 0) 4 s.name.line q.st),q.cons,QD q.ls s.name.s (s.numbers.map ZW)⟩:=by
    unfold Xv;rw[iQ c4,iR c5]
   rw[e1]at hz⊢;have aw:(X9 QF 0 s.numbers (ZE ((q.g s.name.s).so != 0) 4 s.name.line q.st)).1=0:=hz;have F:=Nz (λk a st h=>(JU h).1) s.numbers 0 _ aw
   refine⟨λs' bf=> ?_,h.vars,h.WB,h.cons,h.O8,h.m,λs'=> ?_⟩
   ·simp only[VF]at bf⊢;split at bf
    ·simp at bf
    ·rename_i e;rw[iQ e];exact h.pl s' bf
   ·simp only[QD];split
    ·refine⟨by rw[fy];exact F3 (λk a st h=>(JU h).1) (λk a st h=>(JU h).2.1) aw,λx hx=> ?_⟩
     obtain⟨t,ht,rfl⟩:=gU.1 hx;obtain⟨i,hi,he⟩:=cX ht;obtain⟨ax,h2⟩:=F.2 i t sJ;exact(JU h2).2.2
    ·exact h.ls s'
  ·have e1:Xv s q=⟨q.g,q.vars,q.m+1,Vf q.g s (ZE (decide ((16:Int)<=q.m)) 6 s.kw.line q.st),q.cons++[Ug q.g q.ls s],q.ls⟩:=by
    unfold Xv;rw[iQ c4,iQ c5]
   rw[e1]at hz⊢;obtain⟨F,h2⟩:=ahL h ho c4 c5 hz;obtain⟨h3,h4⟩:=Vj pF F;have g3:¬(16:Int)<=q.m:=dI h3;have hm:=h.m;refine⟨h.pl,h.vars,h.WB,λc hc=> ?_,by simp;omega,by simp[hm],h.ls⟩
   rcases fE.1 hc with q'|q'
   ·exact h.cons c q'
   ·simp only[gH,eQ,iM]at q';subst q';exact h2
end
theorem ahN:Qz q0:=⟨(λs hs=>(by simp[q0,IV]at hs)),(λv hv=>(by cases hv)),by simp[q0],(λc hc=>(by cases hc)),by simp[q0],rfl,λs=>⟨by simp[q0],λx hx=>qA⟩⟩
theorem ahO (gs:List Xl):∀q:TI,Qz q->(∀g∈gs,NM g)->(XT gs q).st.1=0->Qz (XT gs q):=by
 induction gs with
 |nil=>intro q h _ _;exact h
 |cons g gs ih=>
  intro q h z hz;simp only[XT]at hz⊢;by_cases c:(Xv g q).st.1=0
  ·rw[iR c]at hz⊢;exact ih _ (ahM h (z g pG) c) (λa ha=>z a tS) hz
  ·rw[iQ c]at hz;exact absurd hz c
theorem ahP (s:aA)(hs:s.size<=2000)(hp:(Xc (Y0 s)).2.2=0)(hq:(XT (Xc (Y0 s)).1 q0).st.1=0):Qz (XT (Xc (Y0 s)).1 q0):=
 ahO _ q0 ahN (λg z=>(Bn s hs hp).1 g z) hq
end
section
variable {M:SV}{q:TI}
def QN (b:aA):Int:=if b.toList=[61]then 0 else if b.toList=[33,61]then 1 else 2
def Qy (p:Int×Int):Int×Int:=(p.2,p.1)
def W4 (L:List OA)(r:J4):Yz:=
 if r.sort=105 then⟨0,0,r.parts.map Qy,QN r.rel,r.n,[],0,0,[],[]⟩
 else if r.sort=119 then⟨1,r.v,r.parts.map Qy,QN r.rel,r.n,[],0,0,[],[]⟩
 else if r.sort=97 then⟨2,0,[],0,0,((L[r.x.toNat]?).map (·.Xb)).getD [],r.v,r.w,[],[]⟩
 else if r.sort=100 then⟨3,0,[],0,0,[],0,0,r.parts.map (·.2),[]⟩
 else⟨4,0,[],0,0,[],0,0,[],r.parts.map λp=>(p.2,1-p.1)⟩
structure Lm (L:List OA)(r:J4):Prop where
 sort:r.sort=105\/r.sort=119\/r.sort=97\/r.sort=100\/r.sort=111
 x:r.sort=97->0<=r.x/\r.x.toNat<L.length
 lit:r.sort=111->∀p∈r.parts,p.1=0\/p.1=1
structure Ll (M:SV)(q:TI):Prop where
 ls:∀s,0<=Va M.lists s->∃l,M.lists[(Va M.lists s).toNat]?=some l/\q.ls s=l.Xb
 cons:q.cons=M.rules.map (W4 M.lists)
 FZ:∀r∈M.rules,Lm M.lists r
 lb:∀l∈M.lists,l.Xb.length<=20
theorem ahQ {L:List OA}{r:J4}(h:Lm L r)(x:OA):W4 (L++[x]) r=W4 L r:=by
 unfold W4;by_cases c:r.sort=97
 ·rw[aT (h.x c).2]
 ·simp only[c,iK]
theorem Lm.more {L:List OA}{r:J4}(h:Lm L r)(x:OA):Lm (L++[x]) r:=⟨h.sort,λc=>⟨(h.x c).1,by have:=(h.x c).2;simp;omega⟩,h.lit⟩
theorem UG.PS (h:UG M q){s:aA}(hs:(q.g s).so=4):(Zs q.g s 4).pl=Y6 M.vars s:=by
 rw[F2 hs];have F:=h.so s;rw[hs]at F;by_cases c:0<=Y6 M.vars s
 ·exact(h.pl s c).1
 ·rw[iQ c]at F;split at F<;>omega
theorem UG.ahR (h:UG M q){s:aA}(hs:(q.g s).so=5):0<=Va M.lists s:=by
 have F:=h.so s;rw[hs]at F;by_cases c:0<=Y6 M.vars s
 ·rw[iR c]at F;omega
 ·rw[iQ c]at F;by_cases c':0<=Va M.lists s
  ·exact c'
  ·rw[iQ c']at F;omega
theorem ahS (vars:List Y7)(t:XU):(SF vars (gP t)).1=Vv t:=by
 unfold SF gP Vv Wd;by_cases c:Z6 t.first=3
 ·simp only[c,iP];rw[QA (aae c)];split<;>simp
 ·simp only[c,iK]
theorem aal {t:ZY}(h:PT t)(I:Z6 t=14\/Z6 t=15\/Z6 t=16):QN t.s=Wc (Z6 t):=by
 have aR:t.s.toList=[61]↔Z6 t=14:=h.Uw 14 pF pF;have bl:t.s.toList=[33,61]↔Z6 t=15:=h.Uw 15 pF pF;unfold QN Wc;rcases I with e|e|e
 ·rw[iR (aR.2 e),e];rfl
 ·rw[iQ (λc=>by have:=aR.1 c;omega),iR (bl.2 e),e];rfl
 ·rw[iQ (λc=>by have:=aR.1 c;omega),iQ (λc=>by have:=bl.1 c;omega),e];rfl
theorem aam (h:UG M q){ts:List XU}{st:Zv}(hz:(X9 (TA q.g) 0 ts st).1=0):((ts.map gP).map (SF M.vars)).map Qy=ts.map (λt=>((Zs q.g t.name.s 4).pl,Vv t)):=by
 have F:=Nz (λk a st h=>(JV h).1) ts 0 st hz
 rw[gQ,gQ];refine cZ λt ht=> ?_
 obtain⟨i,hi,he⟩:=cX ht;obtain⟨ax,h2⟩:=F.2 i t sJ;have e:=h.PS (JV h2).2.1;show((SF M.vars (gP t)).2,(SF M.vars (gP t)).1)=_;rw[ahS,e];rfl
theorem ahT (h:UG M q)(h2:Ll M q){g:Xl}(z:ME g)(bc:Z6 g.kw≠4)(cm:Z6 g.kw≠5){st:Zv}(hz:(Vf q.g g st).1=0):∃r,Vk M (gS g)={M with rules:=M.rules++[r]}/\W4 M.lists r=Ug q.g q.ls g/\Lm M.lists r:=by
 have k4:=z.k4;have DU:=z.DU;obtain⟨k,I⟩:∃k,Z6 g.kw=k:=⟨_,rfl⟩;rw[I]at bc cm;have WS:k=6\/k=7\/k=8\/k=9\/k=10:=J;rcases WS with rfl|rfl|rfl|rfl|rfl
 ·obtain⟨N,hN,aX⟩:=z.n6 (.inl I);obtain⟨aM,WI⟩:=z.rl (.inl I);have aw:(ZE (Yg (ZW N) 1000000) 5 N.line (X9 (TA q.g) 0 g.ZA st)).1=0:=uf;have ht:=aam h (Vj pF aw).2;refine⟨_,by unfold Vk gS;simp only[I];rfl,?_,.inl rfl,(λe=>pL),λe=>pL⟩
  unfold W4 Ug;simp only[I,hN,iP,show ¬(6:Int)=7 by decide,show ¬(6:Int)=8 by decide,show ¬(6:Int)=9 by decide,show ¬(6:Int)=10 by decide,show ¬(6:Int)=4 by decide,iK];rw[ht,aal aM WI];simp[QA aX]
 ·obtain⟨N,hN,aX⟩:=z.n6 (.inr I);obtain⟨aM,WI⟩:=z.rl (.inr I);have aw:(ZE (Yg (ZW N) 1000000) 5 N.line (X9 (TA q.g) 0 g.ZA (NN q.g g.name st))).1=0:=uf;have bm:=(Vj pF aw).2;have ht:=aam h bm;have h0:=(Nz (λk a st h=>(JV h).1) g.ZA 0 _ bm).1
  unfold NN at h0;have aa:=MB (Vj pF (Vj pF h0).2).1;refine⟨_,by unfold Vk gS;simp only[I];rfl,?_,.inr (.inl rfl),(λe=>pL),λe=>pL⟩
  unfold W4 Ug;simp only[I,hN,iP,show ¬(119:Int)=105 by decide,show ¬(7:Int)=8 by decide,show ¬(7:Int)=4 by decide,iK];rw[ht,aal aM WI,h.PS aa];simp[QA aX]
 ·obtain⟨P,Q,aL⟩:=z.n8 I;have aw:(ZE ((q.g Q.s).so != 4) 4 Q.line (ZE ((q.g P.s).so != 4) 4 P.line (ZE ((q.g g.name.s).so != 5) 4 g.name.line st))).1=0:=by simpa[Vf,I,aL]using hz
  obtain⟨F,aw⟩:=Vj pF aw;obtain⟨h3,aw⟩:=Vj pF aw;obtain⟨h5,aw⟩:=Vj pF aw;have e5:(q.g g.name.s).so=5:=by simpa using h5
  have hx:=h.ahR e5;obtain⟨l,hl,bu⟩:=h2.ls _ hx;have ZR:=(aU.1 hl).1;refine⟨⟨97,[],⟨#[]⟩,0,Y6 M.vars P.s,Y6 M.vars Q.s,Va M.lists g.name.s⟩,by unfold Vk gS;simp[I,aL],?_,.inr (.inr (.inl rfl)),(λ_=>⟨hx,ZR⟩),λe=>pL⟩
  unfold W4 Ug;simp only[I,aL,iP,show ¬(97:Int)=105 by decide,show ¬(97:Int)=119 by decide,show ¬(8:Int)=7 by decide,iK,hl,e5,bu,h.PS (MB h3),h.PS (MB F),fN,eY]
 ·have aw:(X9 (QT q.g) 0 g.names st).1=0:=by simpa[Vf,I]using hz
  have F:=Nz (λk a st h=>(Io h).1) g.names 0 st aw
  refine⟨_,by unfold Vk gS;simp only[I];rfl,?_,.inr (.inr (.inr (.inl rfl))),(λe=>pL),λe=>pL⟩
  unfold W4 Ug;simp only[I,show ¬(100:Int)=105 by decide,show ¬(100:Int)=119 by decide,show ¬(100:Int)=97 by decide,show ¬(9:Int)=7 by decide,show ¬(9:Int)=8 by decide,show ¬(9:Int)=5 by decide,iP,iK];congr 1;rw[gQ];refine cZ λt ht=> ?_
  obtain⟨i,hi,he⟩:=cX ht;obtain⟨ax,aG⟩:=F.2 i t sJ;exact(h.PS (Io aG).2.1).symm
 ·have aw:(X9 (RO q.g) 0 g.lits st).1=0:=by simpa[Vf,I]using hz
  have F:=Nz (λk a st h=>(Im h).1) g.lits 0 st aw
  refine⟨_,by unfold Vk gS;simp only[I];rfl,?_,.inr (.inr (.inr (.inr rfl))),(λe=>pL),λ_ p hp=> ?_⟩
  ·unfold W4 Ug;simp only[I,show ¬(111:Int)=105 by decide,show ¬(111:Int)=119 by decide,show ¬(111:Int)=97 by decide,show ¬(111:Int)=100 by decide,show ¬(10:Int)=7 by decide,show ¬(10:Int)=8 by decide,show ¬(10:Int)=9 by decide,iP,iK];congr 1;rw[gQ,gQ];refine cZ λt ht=> ?_
   obtain⟨i,hi,he⟩:=cX ht;obtain⟨ax,aG⟩:=F.2 i t sJ;have e:=h.PS (Im aG).2.1;show((QP M.vars (gL t)).2,1-(QP M.vars (gL t)).1)=_;rw[e];unfold QP gL;by_cases c:Z6 t.first=22
   ·simp[c]
   ·simp[c]
  ·simp only[gQ]at hp;obtain⟨t,ht,rfl⟩:=gU.1 hp;show(QP M.vars (gL t)).1=0\/(QP M.vars (gL t)).1=1;unfold QP;simp only;split
   ·exact .inr rfl
   ·exact .inl rfl
theorem ahU (h:UG M q)(h2:Ll M q){g:Xl}(z:ME g)(hz:(Xv g q).st.1=0):Ll (Vk M (gS g)) (Xv g q):=by
 by_cases c4:Z6 g.kw=4
 ·obtain⟨lo,hi,e,k1,k2⟩:=z.n4 c4;unfold Xv at hz⊢;unfold Vk gS;simp only[c4,e,iP,cW,cV]at hz⊢;unfold OG at hz;have hd:=(MD pF (MD pF (MD pF (MD pF hz).2).2).2).1;rw[h.Iq]at hd;simp only[bX,bC]at hd;refine⟨λs hs=> ?_,h2.cons,h2.FZ,h2.lb⟩
  change 0<=Va M.lists s at hs;obtain⟨l,e1,e2⟩:=h2.ls s hs;refine⟨l,e1,?_⟩;show QD q.ls g.name.s [] s=_;unfold QD;rw[iQ (λc=>hd.2 (by rw[<-c];exact hs))]
  exact e2
 ·by_cases c5:Z6 g.kw=5
  ·unfold Xv at hz⊢;unfold Vk gS;simp only[c5,show ¬(5:Int)=4 by decide,iK,iP]at hz⊢;have F:=Nz (λk a st h=>(JU h).1) g.numbers 0 _ hz
   have hd:=(Vj pF F.1).1;rw[h.Iq]at hd;simp only[bX,bC]at hd;have en:g.numbers.map ZW=g.numbers.map λt=>YU t.s:=cZ λt ht=>QA (z.n5 c5 t ht)
   refine⟨λs hs=> ?_,?_,λr hr=>(h2.FZ r hr).more _,λl hl=> ?_⟩
   ·change 0<=Va (M.lists++[_]) s at hs;show ∃l,(M.lists++[_])[(Va (M.lists++[_]) s).toNat]?=some l/\QD q.ls g.name.s (g.numbers.map ZW) s=l.Xb;rw[Bc]at hs⊢;unfold QD;by_cases c:s=g.name.s
    ·rw[iR c];rw[c,iQ hd.2,iR rfl]at hs⊢;exact⟨⟨g.name.s,g.numbers.map λt=>YU t.s⟩,pG,en⟩
    ·rw[iQ c];have c':¬g.name.s=s:=λq=>c q.symm
     by_cases c2:0<=Va M.lists s
     ·rw[iR c2]at hs⊢;obtain⟨l,e1,e2⟩:=h2.ls s c2;exact⟨l,by rw[aT (aU.1 e1).1];exact e1,e2⟩
     ·rw[iQ c2,iQ c']at hs;omega
   ·show q.cons=M.rules.map (W4 (M.lists++[_]));rw[h2.cons];exact cZ λr hr=>(ahQ (h2.FZ r hr) _).symm
   ·rcases fE.1 hl with q|q
    ·exact h2.lb l q
    ·obtain rfl:l=_:=qE;simp only[fy];exact F3 (λk a st h=>(JU h).1) (λk a st h=>(JU h).2.1) hz
  ·have e1:Xv g q=⟨q.g,q.vars,q.m+1,Vf q.g g (ZE (decide ((16:Int)<=q.m)) 6 g.kw.line q.st),q.cons++[Ug q.g q.ls g],q.ls⟩:=by
    unfold Xv;rw[iQ c4,iQ c5]
   rw[e1]at hz⊢;obtain⟨r,r1,r2,r3⟩:=ahT h h2 z c4 c5 hz;rw[r1];refine⟨h2.ls,?_,λa ha=> ?_,h2.lb⟩
   ·show q.cons++[_]=(M.rules++[r]).map (W4 M.lists);rw[fD,<-h2.cons,<-r2];rfl
   ·rcases fE.1 ha with ha|ha
    ·exact h2.FZ a ha
    ·obtain rfl:a=r:=td;exact r3
theorem ahV (gs:List Xl):∀{M:SV} {q:TI},UG M q->Ll M q->q.st.1=0->(∀g∈gs,ME g)->(XT gs q).st.1=0->Ll (TV (gs.map gS) M q.st).1 (XT gs q):=by
 induction gs with
 |nil=>intro M q _ h _ _ _;exact h
 |cons g gs ih=>
  intro M q h h2 h0 z hz;have ha:=aag h (z g pG);simp only[gG,TV,XT]at hz⊢;rw[iR h0,ha];by_cases c:(Xv g q).st.1=0
  ·rw[iR c]at hz⊢;exact ih (aah h (z g pG) c) (ahU h h2 (z g pG) c) c (λa ha=>z a tS) hz
  ·rw[iQ c]at hz;exact absurd hz c
theorem ahW:Ll ⟨[],[],[]⟩ q0:=⟨λs h=>by simp[Va,XO]at h,rfl,(λr hr=>ve),λl hl=>by cases hl⟩
theorem ahX (s:aA)(h:(Xc (Y0 s)).2.2=0)(hq:(XT (T6 s) q0).st.1=0):Ll (Uv s) (XT (T6 s) q0):=
 ahV (T6 s) aai ahW rfl (aab (DO s) h).2 hq
end
section
open Go.RowKit
variable {w:A}
def ZB (Z7:az)(p:Int):Int:=Z7.getD p.toNat 0
def Vi (r a b:Int):Bool:=if r=0 then decide (a=b)else if r=1 then a != b else if r=2 then decide (a<=b)else false
def UE (Z7:az)(ts:List (Int×Int)):Int:=ts.foldl (λs p=>s+p.2*ZB Z7 p.1) 0
def Oy (Z7:az)(vars:az)(i:Nat):Bool:=(vars.take i).all λu=>decide (ZB Z7 (vars.getD i 0)≠ZB Z7 u)
def Sx (Z7:az)(vars:az):Bool:=(List.range vars.length).all λi=>Oy Z7 vars i
def Sa (Z7:az)(lits:List (Int×Int)):Bool:=lits.any λp=>decide (ZB Z7 p.1=p.2)
theorem FY {Z7:az}{p:Int}(h:YX Z7.length p):Z7[p.toNat]?=some (ZB Z7 p):=by
 obtain⟨F,h2⟩:=h;have:p.toNat<Z7.length:=J;simp[ZB,this]
abbrev SU (w:A)(v:aF)(g cap:Nat)(Z7:az):Prop:=YR w v g cap QE Z7
theorem SU.at_ {v:aF}{g cap:Nat}{Z7:az}(h:SU w v g cap Z7){p:Int}(hp:YX Z7.length p):w.cell? (O g p.toNat)=some (Y (ZB Z7 p)):=by
 have q:=h.at (sz:=1) (λ_=>rfl) (FY hp) 0 _ rfl
 rw[iy]at q;exact q
theorem FX {Z7:az}(h:∀x∈Z7,-1000<=x/\x<=1000)(p:Int):-1000<=ZB Z7 p/\ZB Z7 p<=1000:=by
 unfold ZB;rw[aN]
 cases e:Z7[p.toNat]? with
 |none=>simp
 |some x=>exact h x (cq e)
theorem FW {a b:Int}(F:-100<=a)(h2:a<=100)(h3:-1000<=b)(h4:b<=1000):-100000<=a*b/\a*b<=100000:=by
 constructor
 ·rcases Int.le_total 0 a with c|c
  ·have:=Int.mul_le_mul_of_nonneg_left h3 c;omega
  ·have:=Int.mul_le_mul_of_nonpos_left c h4;omega
 ·rcases Int.le_total 0 a with c|c
  ·have:=Int.mul_le_mul_of_nonneg_left h4 c;omega
  ·have:=Int.mul_le_mul_of_nonpos_left c h3;omega
theorem aan (Z7:az)(ts:List (Int×Int))(p:Int×Int):UE Z7 (ts++[p])=UE Z7 ts+p.2*ZB Z7 p.1:=by simp[UE]
theorem aao {Z7:az}(hv:∀x∈Z7,-1000<=x/\x<=1000)(ts:List (Int×Int))(ht:∀p∈ts,-100<=p.2/\p.2<=100):-100000*(ts.length:Int)<=UE Z7 ts/\UE Z7 ts<=100000*(ts.length:Int):=by
 have key:∀(ts:List (Int×Int)),(∀p∈ts,-100<=p.2/\p.2<=100)->∀acc:Int,acc-100000*(ts.length:Int)<=ts.foldl (λs p=>s+p.2*ZB Z7 p.1) acc/\ts.foldl (λs p=>s+p.2*ZB Z7 p.1) acc<=acc+100000*(ts.length:Int):=by
  intro ts
  induction ts with
  |nil=>intro _ acc;simp
  |cons p ts ih=>
   intro ht acc;have F:=ih (λq hq=>ht q (by simp[hq])) (acc+p.2*ZB Z7 p.1)
   have h2:=ht p pG;have h3:=FX hv p.1;have h4:=FW h2.1 h2.2 h3.1 h3.2;simp only[ft,eM];omega
 have:=key ts ht 0;unfold UE;omega
def kE{P:Prop}(h:P:=by
 go_enter func78,ntmps78;go_wp2
 all_goals go_ret
 all_goals (refine⟨?_,rfl⟩;rw[HR.out,HE.out];first|rfl|simp_all)):P:=h
theorem ahY (r a b:Int)(w:A):aq 78 #[Y r,Y a,Y b] w λe w'=>e=.returned (.bool (Vi r a b))/\w'=w:=by
 obtain⟨R,hR⟩:∃R,R=Vi r a b:=⟨_,rfl⟩;rw[<-hR];have HR:Hid (R=Vi r a b):=hR;clear hR;by_cases h0:r=0
 ·have Z:(r==0)=true:=qb;have HE:Hid (Vi r a b=decide (a=b)):=by unfold Hid Vi;rw[iR h0]
  clear h0;exact kE
 ·have Z:(r==0)=false:=qb;by_cases F:r=1
  ·have bG:(r==1)=true:=pW;have HE:Hid (Vi r a b=(a != b)):=by unfold Hid Vi;rw[iQ h0,iR F]
   clear h0 F;exact kE
  ·have bG:(r==1)=false:=pW;by_cases h2:r=2
   ·have aG:(r==2)=true:=rv;have HE:Hid (Vi r a b=decide (a<=b)):=by unfold Hid Vi;rw[iQ h0,iQ F,iR h2]
    clear h0 F h2;exact kE
   ·have aG:(r==2)=false:=rv;have HE:Hid (Vi r a b=false):=by unfold Hid Vi;rw[iQ h0,iQ F,iQ h2]
    clear h0 F h2;go_enter func78,ntmps78;go_wp2;go_ret;exact⟨by rw[HR.out,HE.out];rfl,rfl⟩
theorem aap {vt vv:aF}{gt ct gv cv:Nat}{ts:List (Int×Int)}{Z7:az}(hT:YR w vt gt ct P7 ts)(hV:SU w vv gv cv Z7)(ar:∀p∈ts,YX Z7.length p.1/\-100<=p.2/\p.2<=100)(Yv:∀x∈Z7,-1000<=x/\x<=1000)(hl:ts.length<=8)(Ws:Z7.length<=1000):aq 79 #[vt,vv] w (au w (Y (UE Z7 ts))):=by
 have HT:=Z8 hT;have HV:=Z8 hV;have a8:=Z8 ar;have Vm:=hT.lt;have cG:=hV.lt;obtain rfl:=hT.is;obtain rfl:=hV.is;clear hT hV ar;go_enter func79,ntmps79;go_wp2
 go_loopw [5,10] (λvs vi wr=>∃i:Nat,i<=ts.length/\vi=Y i/\vs=Y (UE Z7 (ts.take i))/\aB w wr) (λ_ vi _=>ts.length-(intOf vi).toNat)
 case atStart=>exact⟨0,iz _,rfl,rfl,WW _ _⟩
 case round=>
  obtain⟨i,hi,rfl,rfl,ZX⟩:=hrel;by_cases ZR:i<ts.length
  ·obtain⟨a,ha⟩:∃a,ts[i]?=some a:=⟨ts[i],by simp[ZR]⟩;obtain⟨hp,aI,WR⟩:=a8.out a (cq ha);have hR:=HT.out.kept ZX pG;have hW:=HV.out.kept ZX pG;have k0:ak wr gt (i*2) (Y a.1):=hR.at (sz:=2) (λ_=>rfl) ha 0 _ rfl
   have k1:ak wr gt (i*2+1) (Y a.2):=hR.at (sz:=2) (λ_=>rfl) ha 1 _ rfl
   have k2:=SU.at_ hW hp;have hx:=FX Yv a.1;have hs:=aao Yv (ts.take i) (λp hp=>(a8.out p (cy hp)).2)
   have aP:Hid (UE Z7 (ts.take (i+1))=UE Z7 (ts.take i)+a.2*ZB Z7 a.1):=by
    rw[Hid,dX,ha];exact aan _ _ _
   have hm:=FW aI WR hx.1 hx.2;have aH:((ts.take i).length:Int)<=8:=by have:=cY i ts;omega
   have ba:=hp.1;have bh:=hp.2;have X8:(i:Int)<ts.length:=J;have Xy:(0:Int)<=i:=J;obtain⟨a1,a2⟩:=a;simp only at *;generalize ZB Z7 a1=X at *;generalize UE Z7 (ts.take i)=S at *;have YB:-800000<=S:=J;have YM:S<=800000:=J;have bz:gv<wr.heap.size:=hW.lt;have bq:=hm.1;have Sm:=hm.2;have WG:=hx.1;have WH:=hx.2;have Zm:=Z8 ZX;clear hR hW ZX hs aH hp ha hm hx;go_wp2;go_quiet (fail);go_wp2;go_roundw
   case rel=>exact⟨i+1,J,pQ,by rw[aP.out],(Zm.out.trans (di _ _ _)).trans (XN _ _ _)⟩
   case measure=>simp[intOf];omega
  ·obtain rfl:i=ts.length:=J;go_wp2;go_ret;rw[bH (iw _)];exact⟨rfl,ZX⟩
end
section
open Go.RowKit
variable {w:A}
def ku{P:Prop}(h:P:=by
 go_quiet (fail);go_wp2;go_ret;rw[HE.out];exact⟨rfl,(Zm.out.trans (di _ _ _)).trans (XN _ _ _)⟩):P:=h
def kN{P:Prop}(h:P:=by
 go_wp2;go_quiet (fail);go_wp2;go_roundw
 case rel=>exact⟨i+1,J,pQ,HE.out,(Zm.out.trans (di _ _ _)).trans (XN _ _ _)⟩
 case measure=>simp[intOf];omega):P:=h
def kZ{P:Prop}(h:P:=by
 go_ret;rw[HE.out];exact⟨rfl,ZX⟩):P:=h
def mY{P:Prop}(h:P:=by
 have q:=Tj.out;rw[bH (iw _)]at q;rw[Hid,HR.out,q]):P:=h
theorem ahZ {vt vv:aF}{gt ct gv cv:Nat}{ts:List (Int×Int)}{Z7:az}(hT:YR w vt gt ct P7 ts)(hV:SU w vv gv cv Z7)(ar:∀p∈ts,YX Z7.length p.1)(hl:ts.length<=3000)(Ws:Z7.length<=1000):aq 81 #[vt,vv] w (au w (.bool (Sa Z7 ts))):=by
 have HT:=Z8 hT;have HV:=Z8 hV;have a8:=Z8 ar;have Vm:=hT.lt;have cG:=hV.lt;obtain⟨R,hR⟩:∃R,R=Sa Z7 ts:=⟨_,rfl⟩;have HR:Hid (R=Sa Z7 ts):=hR;rw[<-hR];obtain rfl:=hT.is;obtain rfl:=hV.is;clear hT hV ar hR;go_enter func81,ntmps81;go_wp2
 go_loopw [9] (λvi wr=>∃i:Nat,i<=ts.length/\vi=Y i/\Sa Z7 (ts.take i)=false/\aB w wr) (λvi _=>ts.length-(intOf vi).toNat)
 case atStart=>exact⟨0,iz _,rfl,rfl,WW _ _⟩
 case round=>
  obtain⟨i,hi,rfl,Uu,ZX⟩:=hrel;have Tj:=Z8 Uu;clear Uu;by_cases ZR:i<ts.length
  ·obtain⟨a,ha⟩:∃a,ts[i]?=some a:=⟨ts[i],by simp[ZR]⟩;have hp:=a8.out a (cq ha);have hR:=HT.out.kept ZX pG;have hW:=HV.out.kept ZX pG;have k0:ak wr gt (i*2) (Y a.1):=hR.at (sz:=2) (λ_=>rfl) ha 0 _ rfl
   have k1:ak wr gt (i*2+1) (Y a.2):=hR.at (sz:=2) (λ_=>rfl) ha 1 _ rfl
   have k2:=SU.at_ hW hp;have bz:gv<wr.heap.size:=hW.lt;have ba:=hp.1;have bh:=hp.2;have X8:(i:Int)<ts.length:=J;have Xy:(0:Int)<=i:=J;have HA:=Z8 ha;have Zm:=Z8 ZX;by_cases hc:ZB Z7 a.1=a.2
   ·have bo:(ZB Z7 a.1==a.2)=true:=qy;have HE:Hid (R=true):=by
     rw[Hid,HR.out];exact eF.2 ⟨a,cq ha,qy⟩
    obtain⟨a1,a2⟩:=a;simp only at *;generalize ZB Z7 a1=X at *;clear hR hW ZX hp ha hc;go_wp2;exact ku
   ·have bo:(ZB Z7 a.1==a.2)=false:=qy;have HE:Hid (Sa Z7 (ts.take (i+1))=false):=by
     rw[Hid,dX,ha];unfold Sa;rw[List.any_append];have F:((ts.take i).any λp=>decide (ZB Z7 p.1=p.2))=false:=Tj.out
     simp[F,hc]
    obtain⟨a1,a2⟩:=a;simp only at *;generalize ZB Z7 a1=X at *;clear hR hW ZX hp ha hc;exact kN
  ·obtain rfl:i=ts.length:=J;have HE:Hid (R=false):=by
    exact mY
   go_wp2;exact kZ
theorem aaq {Z7 vars:az}{i j:Nat}{u:Int}(hu:vars[j]?=some u)(v:Int):((vars.take (j+1)).all λu=>decide (v≠ZB Z7 u))=(((vars.take j).all λu=>decide (v≠ZB Z7 u))&&decide (v≠ZB Z7 u)):=by
 rw[dX,hu,fo];simp
def lO{P:Prop}(h:P:=by
 rw[Hid,List.range_succ,fo,Tj.out];have q:Oy Z7 vars j=true:=by unfold Oy;rw[JS.out];exact Lk.out
 simp[q]):P:=h
theorem ah0 {vt vv:aF}{gt ct gv cv:Nat}{vars:az}{Z7:az}(hT:YR w vt gt ct QE vars)(TD:vars.length<=ct)(hV:SU w vv gv cv Z7)(ar:∀p∈vars,YX Z7.length p)(hl:vars.length<=3000)(Ws:Z7.length<=1000):aq 80 #[vt,vv] w (au w (.bool (Sx Z7 vars))):=by
 have HT:=Z8 hT;have HV:=Z8 hV;have a8:=Z8 ar;have Vm:=hT.lt;have cG:=hV.lt;obtain⟨R,hR⟩:∃R,R=Sx Z7 vars:=⟨_,rfl⟩;have HR:Hid (R=Sx Z7 vars):=hR;rw[<-hR];obtain rfl:=hT.is;obtain rfl:=hV.is;clear hT hV ar hR;go_enter func80,ntmps80;go_wp2
 go_loopw [11] (λvi wr=>∃i:Nat,i<=vars.length/\vi=Y i/\((List.range i).all λi=>Oy Z7 vars i)=true/\aB w wr) (λvi _=>vars.length-(intOf vi).toNat)
 case atStart=>exact⟨0,iz _,rfl,rfl,WW _ _⟩
 case round=>
  obtain⟨i,hi,rfl,Uu,ZX⟩:=hrel;have Tj:=Z8 Uu;clear Uu;by_cases ZR:i<vars.length
  ·obtain⟨a,ha⟩:∃a,vars[i]?=some a:=⟨vars[i],by simp[ZR]⟩;have k0:wr.cell? (O gt i)=some (Y a):=by have q:=(HT.out.kept ZX pG).at (sz:=1) (λ_=>rfl) ha 0 _ rfl;rw[iy]at q;exact q
   have hp:=a8.out a (cq ha);have X8:(i:Int)<vars.length:=J;have b8:(i:Int)<=ct:=J;have Xy:(0:Int)<=i:=J;have bp:vars.getD i 0=a:=by simp[aN,ha]
   have HS:Hid (∃j:Nat,j<=i/\(Y 0)=Y j/\((vars.take j).all λu=>decide (ZB Z7 a≠ZB Z7 u))=true/\aB w wr):=⟨0,iz _,rfl,rfl,ZX⟩
   have HA:=Z8 ha;have JS:=Z8 bp;clear ZX ha bp;go_wp2
   go_loopw [20] (λvi wr=>∃j:Nat,j<=i/\vi=Y j/\((vars.take j).all λu=>decide (ZB Z7 a≠ZB Z7 u))=true/\aB w wr) (λvi _=>i-(intOf vi).toNat)
   case atStart=>exact HS.out
   case round=>
    clear HS k0;obtain⟨j,hj,rfl,br,ZX⟩:=hrel;have Lk:=Z8 br;have Zm:=Z8 ZX;clear br;by_cases YK:j<i
    ·obtain⟨u,hu⟩:∃u,vars[j]?=some u:=⟨vars[j]'J,aZ J⟩;have aQ:=a8.out u (cq hu);have hW:=HV.out.kept ZX pG;have k0:wr.cell? (O gt j)=some (Y u):=by have q:=(HT.out.kept ZX pG).at (sz:=1) (λ_=>rfl) hu 0 _ rfl;rw[iy]at q;exact q
     have k1:=SU.at_ hW hp;have k2:=SU.at_ hW aQ;have ba:=hp.1;have bh:=hp.2;have aW:=aQ.1;have bj:=aQ.2;have bJ:(j:Int)<i:=J;have FV:(0:Int)<=j:=J;have bK:=Z8 (aaq (Z7:=Z7) (i:=i) hu (ZB Z7 a));by_cases hc:ZB Z7 a=ZB Z7 u
     ·have HE:Hid (R=false):=by
       rw[Hid,HR.out];unfold Sx;rw[dM];refine⟨i,fX.2 ZR,?_⟩;unfold Oy;rw[JS.out];rw[eE];intro bg;have q:=bg u (aV.2 ⟨j,J,by rw[(aU.1 hu).2]⟩);simp[hc]at q
      have bo:(ZB Z7 a==ZB Z7 u)=true:=qy;clear hW ZX hc hu hp aQ;go_wp2;go_quiet (fail);go_wp2;go_ret;rw[HE.out];exact⟨rfl,Zm.out.trans (XN _ _ _)⟩
     ·have bo:(ZB Z7 a==ZB Z7 u)=false:=qy;have HE:Hid (((vars.take (j+1)).all λu=>decide (ZB Z7 a≠ZB Z7 u))=true):=by
       rw[Hid,bK.out,Lk.out];simpa using hc
      have bB:=Zm;clear hW ZX hc hu hp aQ bK;go_wp2;go_quiet (fail);go_wp2;go_roundw
      case rel=>exact⟨j+1,J,pQ,HE.out,Zm.out.trans (XN _ _ _)⟩
      case measure=>simp[intOf];omega
    ·obtain rfl:j=i:=J;have HE:Hid (((List.range (j+1)).all λi=>Oy Z7 vars i)=true):=by
      exact lO
     clear ZX;go_wp2;go_roundw
     case rel=>exact⟨j+1,J,pQ,HE.out,Zm.out⟩
     case measure=>simp[intOf];omega
  ·obtain rfl:i=vars.length:=J;have HE:Hid (R=true):=by rw[Hid,HR.out];exact Tj.out
   go_wp2;exact kZ
end
section
open Go.RowKit
variable {w:A}
def PR (c:Yz)(Z7:az):Bool:=decide (1<=ZB Z7 c.place)&&decide (ZB Z7 c.place<=c.list.length)&&decide (c.list.getD (ZB Z7 c.place-1).toNat 0=ZB Z7 c.entry)
def Yt (Z7:az)(c:Yz):Bool:=
 if c.sort=1 then Vi c.rel (UE Z7 c.ZA) c.num==(ZB Z7 c.Yp==1)
 else if c.sort=0 then Vi c.rel (UE Z7 c.ZA) c.num
 else if c.sort=2 then PR c Z7
 else if c.sort=3 then Sx Z7 c.vars
 else if c.sort=4 then Sa Z7 c.lits
 else false
structure Ty (w:A)(b o B:Nat)(x:X7):Prop where
 cell:∀k u,x.cells[k]?=some u->w.cell? (O b (o+k))=some u
 lt:b<w.heap.size
 at_:NQ w B x
theorem Ty.grown {w':A}{b o B:Nat}{x:X7}(h:Ty w b o B x)(z:aB w w'):Ty w' b o B x:=
 ⟨λk u hu=>z.cell (h.cell k u hu) pG,dH h.lt z.size,h.at_.but ((Y9.refl [] w).grown z (λk e=>pL)) (λk I=>vh)⟩
theorem ah1 {w:A}{B e s n g cap:Nat}{xs:ay}(h:w.ownsRow B e s (aj g n cap) n xs):n<=cap:=by
 rcases h.2 with⟨e,_⟩|⟨g',UH,cur,e,_,_,hc,_⟩
 ·cases e
 ·injection e with e1 e2 e3;omega
def jR{P:Prop}(h:P:=by
 go_enter func48,ntmps48;go_wp2;go_region_held3 (λw'=>w'.cell? (O b (o+2))=some (aj gt x.c.ZA.length ct)/\w'.cell? (O b (o+3))=some (Y x.c.rel)/\w'.cell? (O b (o+4))=some (Y x.c.num)) (go_keep)
  (first|(go_at_call 79;refine(KS.get (ZG w none)).mono ?_;rintro e w1 ⟨rfl,ZZ⟩;obtain⟨q2,q3,q4⟩:=Oz w1 ((ZG w none).trans ZZ))|(go_at_call 78;refine(ahY _ _ _ _).mono ?_;rintro e w' ⟨rfl,Zf⟩;subst w'))
 go_wp2;go_ret;rw[HR.out];exact⟨rfl,(ZG w none).trans ZZ⟩):P:=h
theorem ah2 {b o B gv cv n:Nat}{x:X7}{vv:aF}{Z7:az}{t:Int->Prop}(h:Ty w b o B x)(hV:SU w vv gv cv Z7)(ar:UF n t x.c)(hn:n=Z7.length)(Yv:∀y∈Z7,-1000<=y/\y<=1000)(Ws:Z7.length<=1000)(h0:x.c.sort=0):aq 48 #[.pointer (some (O b o)),vv] w (au w (.bool (Yt Z7 x.c))):=by
 subst hn;have hs:x.c.sort=0\/x.c.sort=1:=.inl h0;have k0:w.cell? (O b o)=some (Y 0):=pP;obtain⟨gt,ct,hT,_⟩:=YR.TX h.at_.t qJ;have k2:w.cell? (O b (o+2))=some (aj gt x.c.ZA.length ct):=qu;have k3:ak w b (o+3) (Y x.c.rel):=h.cell 3 _ rfl;have k4:ak w b (o+4) (Y x.c.num):=h.cell 4 _ rfl;have ai:=hT.is;have KS:=ZQ.mk (λ{W:A} (z:aB w W)=>aap (hT.kept z pG) (hV.kept z pG) ar.ZA Yv ar.MC Ws)
 rw[ai]at KS;have Oz:=λ(W:A) (z:aB w W)=>iG (z.cell k2 pG) (iG (z.cell k3 pG) (z.cell k4 pG))
 have HR:Hid (Yt Z7 x.c=Vi x.c.rel (UE Z7 x.c.ZA) x.c.num):=by
  rw[Hid];unfold Yt;rw[iQ J,iR h0]
 have ZR:=h.lt;obtain rfl:=hV.is;clear hs h hV ar Yv hT ai h0;exact jR
theorem ah3 {b o B gv cv n:Nat}{x:X7}{vv:aF}{Z7:az}{t:Int->Prop}(h:Ty w b o B x)(hV:SU w vv gv cv Z7)(ar:UF n t x.c)(hn:n=Z7.length)(Yv:∀y∈Z7,-1000<=y/\y<=1000)(Ws:Z7.length<=1000)(h0:x.c.sort=1):aq 48 #[.pointer (some (O b o)),vv] w (au w (.bool (Yt Z7 x.c))):=by
 subst hn;have hs:x.c.sort=0\/x.c.sort=1:=.inr h0;have k0:w.cell? (O b o)=some (Y 1):=pP;have k1:ak w b (o+1) (Y x.c.Yp):=h.cell 1 _ rfl;have ht:=(ar.Yp h0).1;have k5:=SU.at_ hV ht;have bE:=ht.1;have bI:=ht.2;obtain⟨gt,ct,hT,_⟩:=YR.TX h.at_.t qJ;have k2:w.cell? (O b (o+2))=some (aj gt x.c.ZA.length ct):=qu;have k3:ak w b (o+3) (Y x.c.rel):=h.cell 3 _ rfl;have k4:ak w b (o+4) (Y x.c.num):=h.cell 4 _ rfl;have ai:=hT.is;have KS:=ZQ.mk (λ{W:A} (z:aB w W)=>aap (hT.kept z pG) (hV.kept z pG) ar.ZA Yv ar.MC Ws)
 rw[ai]at KS;have Oz:=λ(W:A) (z:aB w W)=>iG (z.cell k2 pG) (iG (z.cell k3 pG) (z.cell k4 pG))
 have HR:Hid (Yt Z7 x.c=(Vi x.c.rel (UE Z7 x.c.ZA) x.c.num==(ZB Z7 x.c.Yp==1))):=by
  rw[Hid];unfold Yt;rw[iR h0]
 have ZR:=h.lt;obtain rfl:=hV.is;clear hs h hV ar Yv hT ai h0 ht;exact jR
theorem ah4 {b o B gv cv n:Nat}{x:X7}{vv:aF}{Z7:az}{t:Int->Prop}(h:Ty w b o B x)(hV:SU w vv gv cv Z7)(ar:UF n t x.c)(hn:n=Z7.length)(Ws:Z7.length<=1000)(h0:x.c.sort=3):aq 48 #[.pointer (some (O b o)),vv] w (au w (.bool (Yt Z7 x.c))):=by
 subst hn;have k0:w.cell? (O b o)=some (Y 3):=pP;obtain⟨gt,ct,hT,_⟩:=YR.TX h.at_.v qL;have k8:w.cell? (O b (o+8))=some (aj gt x.c.vars.length ct):=sw;have ai:=hT.is;have TD:=h.at_.v;rw[ai]at TD;have KS:=ZQ.mk (ah0 hT (ah1 TD) hV ar.vars (by have:=ar.WB;omega) Ws);rw[ai]at KS;have HR:Hid (Yt Z7 x.c=Sx Z7 x.c.vars):=by
  rw[Hid];unfold Yt;rw[iQ J,iQ J,iQ J,iR h0]
 have ZR:=h.lt;obtain rfl:=hV.is;clear h hV ar hT ai h0 TD;go_enter func48,ntmps48;go_wp2_with (go_at_call 80;refine KS.get.mono ?_;rintro e w1 ⟨rfl,ZZ⟩);go_ret;rw[HR.out];exact⟨rfl,ZZ⟩
theorem ah5 {b o B gv cv n:Nat}{x:X7}{vv:aF}{Z7:az}{t:Int->Prop}(h:Ty w b o B x)(hV:SU w vv gv cv Z7)(ar:UF n t x.c)(hn:n=Z7.length)(Ws:Z7.length<=1000)(h0:x.c.sort=4):aq 48 #[.pointer (some (O b o)),vv] w (au w (.bool (Yt Z7 x.c))):=by
 subst hn;have k0:w.cell? (O b o)=some (Y 4):=pP;obtain⟨gt,ct,hT,_⟩:=YR.TX h.at_.i qM;have k9:w.cell? (O b (o+9))=some (aj gt x.c.lits.length ct):=sx;have ai:=hT.is;have KS:=ZQ.mk (ahZ hT hV (λp hp=>(ar.lits p hp).1) (by have:=ar.Ip;omega) Ws)
 rw[ai]at KS;have HR:Hid (Yt Z7 x.c=Sa Z7 x.c.lits):=by
  rw[Hid];unfold Yt;rw[iQ J,iQ J,iQ J,iQ J,iR h0]
 have ZR:=h.lt;obtain rfl:=hV.is;clear h hV ar hT ai h0;go_enter func48,ntmps48;go_wp2_with (go_at_call 81;refine KS.get.mono ?_;rintro e w1 ⟨rfl,ZZ⟩);go_ret;rw[HR.out];exact⟨rfl,ZZ⟩
def kB{P:Prop}(h:P:=by
 go_enter func48,ntmps48;go_wp2;go_quiet (fail);go_wp2;go_ret;rw[HR.out,HA.out];exact⟨rfl,XN _ _ _⟩):P:=h
def mR{P:Prop}(h:P:=by
 have q:=Il.is;rw[HLA.out]at q;injection q with q1 q2 q3):P:=h
theorem ah6 {b o B gv cv n:Nat}{x:X7}{vv:aF}{Z7:az}{t:Int->Prop}(h:Ty w b o B x)(hV:SU w vv gv cv Z7)(ar:UF n t x.c)(hn:n=Z7.length)(Yv:∀y∈Z7,-1000<=y/\y<=1000)(Ws:Z7.length<=1000)(h0:x.c.sort=2):aq 48 #[.pointer (some (O b o)),vv] w (au w (.bool (Yt Z7 x.c))):=by
 subst hn;have k0:w.cell? (O b o)=some (Y 2):=pP;have k6:ak w b (o+6) (Y x.c.place):=h.cell 6 _ rfl;have k7:ak w b (o+7) (Y x.c.entry):=h.cell 7 _ rfl;obtain⟨hp,he⟩:=ar.place h0;have v1:=SU.at_ hV hp;have v2:=SU.at_ hV he;have ba:=hp.1;have bh:=hp.2;have bL:=he.1;have bD:=he.2;have hb:=FX Yv x.c.place;have bb:=hb.1;have aK:=hb.2;have a7:=ar.F4;obtain⟨la,lc,bk⟩:=Wt h.at_.l;have k5:w.cell? (O b (o+5))=some (.slice la x.c.list.length lc):=by have q:=h.cell 5 _ rfl;rw[bk]at q;exact q
 have HR:Hid (Yt Z7 x.c=PR x.c Z7):=by
  rw[Hid];unfold Yt;rw[iQ J,iQ J,iR h0]
 have ZR:=h.lt;have HL:=Z8 h.at_.l;have HLA:=Z8 bk;obtain rfl:=hV.is;clear h hV ar Yv h0 hp he hb bk;by_cases c1:1<=ZB Z7 x.c.place
 ·by_cases c2:ZB Z7 x.c.place<=x.c.list.length
  ·obtain⟨anX,hI⟩:∃anX:Nat,ZB Z7 x.c.place=(anX:Int)+1:=⟨(ZB Z7 x.c.place-1).toNat,J⟩;have bA:anX<x.c.list.length:=J;obtain⟨y,hy⟩:∃y,x.c.list[anX]?=some y:=⟨x.c.list[anX],aZ bA⟩;obtain⟨gl,cl,Il,_⟩:=YR.TX HL.out J;have el:la=some (ah gl):=by
    exact mR
   subst el;have kl:w.cell? (O gl anX)=some (Y y):=by have q:=Il.at (sz:=1) (λ_=>rfl) hy 0 _ rfl;rw[iy]at q;exact q
   have HA:Hid (PR x.c Z7=(y==ZB Z7 x.c.entry)):=by
    have e1:(ZB Z7 x.c.place-1).toNat=anX:=J;rw[Hid];unfold PR;rw[gj c1,gj c2,e1,aN,hy];rfl
   have aY:(1:Int)<=(anX:Int)+1:=J;have bn:(anX:Int)+1<=x.c.list.length:=J;have bR:(0:Int)<=anX:=J;have bT:(anX:Int)<x.c.list.length:=J;have eI:(anX:Int)+1-1=anX:=J;rw[hI]at v1;clear Il hy c1 c2 bb aK HL;generalize ZB Z7 x.c.place=PV at *;clear hI;exact kB
  ·have bn:decide (ZB Z7 x.c.place<=(x.c.list.length:Int))=false:=th;have HA:Hid (PR x.c Z7=false):=by rw[Hid];unfold PR;simp[c2]
   generalize ZB Z7 x.c.place=PV at *;clear c2;exact kB
 ·have aY:decide ((1:Int)<=ZB Z7 x.c.place)=false:=ry;have HA:Hid (PR x.c Z7=false):=by rw[Hid];unfold PR;simp[c1]
  generalize ZB Z7 x.c.place=PV at *;clear c1;exact kB
theorem aar {b o B gv cv n:Nat}{x:X7}{vv:aF}{Z7:az}{t:Int->Prop}(h:Ty w b o B x)(hV:SU w vv gv cv Z7)(ar:UF n t x.c)(hn:n=Z7.length)(Yv:∀y∈Z7,-1000<=y/\y<=1000)(Ws:Z7.length<=1000):aq 48 #[.pointer (some (O b o)),vv] w (au w (.bool (Yt Z7 x.c))):=by
 rcases ar.sort with e|e|e|e|e
 ·exact ah2 h hV ar hn Yv Ws e
 ·exact ah3 h hV ar hn Yv Ws e
 ·exact ah6 h hV ar hn Yv Ws e
 ·exact ah4 h hV ar hn Ws e
 ·exact ah5 h hV ar hn Ws e
end
end Go.Proofs.YthpcbbnabnlanaaGreatDoor
