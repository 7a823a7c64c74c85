import Derived.Test.YthpcbbnabnlanaaGreatDoorM32
import Derived.Deep.RegionHeld3
namespace Go.Proofs.YthpcbbnabnlanaaGreatDoor
set_option maxHeartbeats 4000000
set_option maxRecDepth 100000
open Go.RowKit
set_option linter.all false
theorem abV {D:Nat}{v:Int}(h:∀j,D.testBit j=true->(Zu v).testBit j=true)(h0:D≠0):D=Zu v:=by
 obtain⟨p,hp⟩:=aH h0;have bh:=h p hp;rw[PD]at bh;have e:=ew bh;apply cG;intro j;rw[PD];by_cases c:(v+1000).toNat=j
 ·rw[gj c,<-c,e];exact hp
 ·rw[fQ c]
  cases d:D.testBit j with
  |false=>rfl
  |true=>have:=h j d;rw[PD]at this;exact absurd (ew this) c
theorem UY.fixed {K:SK}(hK:YV K){s s':SS}(hs:Y5 K s)(h:UY K s s'){v:Int}(hv:YX K.vars.length v)(hf:s.fixed v=true):s'.L v=s.L v:=by
 obtain⟨a,b,c⟩:=Fm (hs.TP hK v) hf;rw[c];refine abV (λj hj=> ?_) ?_
 ·rw[<-c];exact h.sub v.toNat j hj
 ·exact h.ne v.toNat (hs.ne v.toNat qj)
theorem abW {K:SK}(hK:YV K){a:Int}(ha:-1000<=a):∀(vs:az) {s:SS},Y5 K s->(∀v∈vs,YX K.vars.length v)->UY K s (WD K a vs s).2/\Qo (λx=>∀v∈vs,ZB x v≠a) s (WD K a vs s):=by
 intro vs
 induction vs with
 |nil=>intro s hs _;exact⟨UY.refl K s,λx _ hf _=>⟨rfl,hf⟩⟩
 |cons v vs ih=>
  intro s hs hv;have bl:=hv v pG;rw[WD];by_cases c:Xp (s.L v) a=true
  ·rw[iR c];obtain⟨k1,k2⟩:=Mt hK hs bl (D:=TG (s.L v) (Zu a)) (λj h=>by rw[JN]at h;simp at h;exact h.1)
   have WH:∀x,(∀y∈x,-1000<=y)->Rx s.left x->(∀u∈v::vs,ZB x u≠a)->Xp (TG (s.L v) (Zu a)) (ZB x v)=true:=by
    intro x hx hf hq;have F:=hf.at_ (v:=v) tJ;have h2:-1000<=ZB x v:=(hf.bd hs hK hx v.toNat).1;have h3:=JD ha h2;unfold Xp at *;rw[JN,F,h3,fQ (λe=>hq v pG e.symm)];rfl
   simp only[];by_cases q:(Vq K v (TG (s.L v) (Zu a)) s).1=true
   ·rw[iR q];obtain⟨m1,m2⟩:=ih (k1.ok hs) (λu hu=>hv u rB)
    refine⟨k1.trans m1,λx hx hf hq=> ?_⟩
    exact m2 x hx (k2 x hx hf (WH x hx hf hq)).2 (λu hu=>hq u rB)
   ·rw[iQ q];exact⟨k1,λx hx hf hq=>absurd (k2 x hx hf (WH x hx hf hq)).1 q⟩
  ·rw[iQ c];obtain⟨m1,m2⟩:=ih hs (λu hu=>hv u rB)
   exact⟨m1,λx hx hf hq=>m2 x hx hf (λu hu=>hq u rB)⟩
theorem abX {x vars:az}(h:Sx x vars=true):∀i k,i<k->k<vars.length->ZB x (vars.getD k 0)≠ZB x (vars.getD i 0):=by
 intro i k LY I;unfold Sx at h;rw[eE]at h;have F:=h k qz;unfold Oy at F;rw[eE]at F;have h2:=F (vars.getD i 0) (by
  rw[aV];exact⟨i,J,by rw[aN,aZ J];rfl⟩)
 exact ew h2
theorem akT {K:SK}(hK:YV K){vars:az}(hv:∀v∈vars,YX K.vars.length v):∀(is:List Nat) {s:SS},Y5 K s->(∀i∈is,i<vars.length)->UY K s (R8 K vars is s).2/\Qo (λx=>Sx x vars=true) s (R8 K vars is s):=by
 intro is
 induction is with
 |nil=>intro s hs _;exact⟨UY.refl K s,λx _ hf _=>⟨rfl,hf⟩⟩
 |cons i is ih=>
  intro s hs hi;have bt:=hi i pG;have bl:=hv _ (Dh bt);rw[R8];simp only[];by_cases c:s.fixed (vars.getD i 0)=true
  ·rw[iR c];obtain⟨b1,b2,b3⟩:=Fm (hs.TP hK (vars.getD i 0)) c;obtain⟨k1,k2⟩:=abW hK b1 (vars.take i) hs (λu hu=>hv u (cy hu))
   have WG:∀x,(∀y∈x,-1000<=y)->Rx s.left x->Sx x vars=true->∀u∈vars.take i,ZB x u≠s.val (vars.getD i 0):=by
    intro x hx hf hq u hu;rw[<-hf.one hs hK hx tJ c];obtain⟨m,hm,rfl⟩:=aV.1 hu;have:=abX hq m i J bt;rw[show vars.getD m 0=vars[m] by rw[aN,aZ J];rfl]at this;exact λe=>this e.symm
   have bH:UY K s (WD K (s.val (vars.getD i 0)) (vars.take i) s).2:=k1;by_cases q:(WD K (s.val (vars.getD i 0)) (vars.take i) s).1=true
   ·rw[iR q];generalize I:WD K (s.val (vars.getD i 0)) (vars.take i) s=k at *;have ar:k.2.val (vars.getD i 0)=s.val (vars.getD i 0):=by
     unfold SS.val;rw[bH.fixed hK hs bl c]
    have YM:=bH.ok hs;have V3:Qo (λx=>∀v∈vars.take i,ZB x v≠s.val (vars.getD i 0)) s k:=by rw[<-I];exact k2
    rw[ar];obtain⟨m1,m2⟩:=abW hK b1 (vars.drop (i+1)) YM (λu hu=>hv u (cx hu))
    have bq:∀x,(∀y∈x,-1000<=y)->Rx s.left x->Sx x vars=true->∀u∈vars.drop (i+1),ZB x u≠s.val (vars.getD i 0):=by
     intro x hx hf hq u hu;rw[<-hf.one hs hK hx tJ c];obtain⟨m,hm,rfl⟩:=cj.1 hu;have Sm:i+1+m<vars.length:=by simp at hm;omega
     have:=abX hq i (i+1+m) J Sm;rw[show vars.getD (i+1+m) 0=vars[i+1+m] by rw[aN,aZ J];rfl]at this;rw[List.getElem_drop];exact this
    have b5:UY K k.2 (WD K (s.val (vars.getD i 0)) (vars.drop (i+1)) k.2).2:=m1;by_cases q2:(WD K (s.val (vars.getD i 0)) (vars.drop (i+1)) k.2).1=true
    ·rw[iR q2];obtain⟨n1,n2⟩:=ih (b5.ok YM) (λj hj=>hi j vy)
     refine⟨(bH.trans b5).trans n1,λx hx hf hq=> ?_⟩
     have f1:=(V3 x hx hf (WG x hx hf hq)).2;exact n2 x hx (m2 x hx f1 (bq x hx hf hq)).2 hq
    ·rw[iQ q2];refine⟨bH.trans b5,λx hx hf hq=> ?_⟩
     have f1:=(V3 x hx hf (WG x hx hf hq)).2;exact absurd (m2 x hx f1 (bq x hx hf hq)).1 q2
   ·rw[iQ q];exact⟨bH,λx hx hf hq=>absurd (k2 x hx hf (WG x hx hf hq)).1 q⟩
  ·rw[iQ c];exact ih hs (λj hj=>hi j vy)
theorem akU {K:SK}(hK:YV K){vars:az}(hv:∀v∈vars,YX K.vars.length v){s:SS}(hs:Y5 K s):UY K s (JF K vars s).2/\Qo (λx=>Sx x vars=true) s (JF K vars s):=
 akT hK hv _ hs (λi hi=>rO)
theorem akV {K:SK}(hK:YV K){lits:List (Int×Int)}(hl:∀p∈lits,YX K.vars.length p.1/\(p.2=0\/p.2=1)){s:SS}(hs:Y5 K s)(hm:∃l∈lits,Uh s l=true):UY K s (PE K lits s).2/\Qo (λx=>Sa x lits=true) s (PE K lits s):=by
 obtain⟨f,hf⟩:∃f,lits.find? (Uh s)=some f:=by
  obtain⟨l,F,h2⟩:=hm;have:=List.find?_isSome.2 ⟨l,F,h2⟩;exact bj.1 this
 have bW:=List.find?_some hf;have bE:=List.mem_of_find?_eq_some hf;obtain⟨cC,b9⟩:=hl f bE;unfold PE;rw[hf];simp only[eY];by_cases c:(lits.any λl=>decide (l≠f)&&Uh s l)=true
 ·rw[iR c];exact⟨UY.refl K s,λx _ hx _=>⟨rfl,hx⟩⟩
 ·rw[iQ c];obtain⟨k1,k2⟩:=Mt hK hs cC (D:=Zu f.2) (λj h=>by
   rw[PD]at h;rw[<-ew h];exact bW)
  refine⟨k1,k2.imp λx hx cR hq=> ?_⟩
  unfold Sa at hq;rw[eF]at hq;obtain⟨p,hp,bm⟩:=hq;have bm:=ew bm;have cS:Uh s p=true:=by
   unfold Uh;rw[<-bm];exact cR.at_ (by rw[hs.ll];exact(hl p hp).1)
  have cT:p=f:=by
   refine aQ λq=>c ?_
   rw[eF];exact⟨p,hp,by rw[gj q,cS];rfl⟩
  subst cT;rw[JD J J];exact gj bm.symm
def nu{P:Prop}(h:P:=by
 have:u=v:=qE;rw[this];exact c):P:=h
theorem Oj (s:SS)(vs:az):0<=(XR s vs).2/\((XR s vs).2=0->∀v∈vs,s.fixed v=true)/\(0<(XR s vs).2->(XR s vs).1∈vs/\s.fixed (XR s vs).1=false)/\((XR s vs).2=1->∀v∈vs,v≠(XR s vs).1->s.fixed v=true):=by
 have key:∀(vs pre:az) (p:Int×Int),(0<=p.2/\(p.2=0->∀v∈pre,s.fixed v=true)/\(0<p.2->p.1∈pre/\s.fixed p.1=false)/\(p.2=1->∀v∈pre,v≠p.1->s.fixed v=true))->
   let q:=vs.foldl (λp v=>if s.fixed v then p else(v,p.2+1)) p
   (0<=q.2/\(q.2=0->∀v∈pre++vs,s.fixed v=true)/\(0<q.2->q.1∈pre++vs/\s.fixed q.1=false)/\(q.2=1->∀v∈pre++vs,v≠q.1->s.fixed v=true)):=by
  intro vs
  induction vs with
  |nil=>intro pre p h;simpa using h
  |cons v vs ih=>
   intro pre p h;have:=ih (pre++[v]) (if s.fixed v then p else(v,p.2+1)) (by
    obtain⟨h0,F,h2,h3⟩:=h;by_cases c:s.fixed v=true
    ·rw[iR c];refine⟨h0,λe u hu=> ?_,λe=>⟨by simp[(h2 e).1],(h2 e).2⟩,λe u hu ZP=> ?_⟩
     ·rcases fE.1 hu with q|q
      ·exact F e u q
      ·exact nu
     ·rcases fE.1 hu with q|q
      ·exact h3 e u q ZP
      ·exact nu
    ·rw[iQ c];refine⟨by simp only[];omega,λe=>by simp only[]at e;omega,λ_=>⟨pG,qT⟩,λe u hu ZP=> ?_⟩
     simp only[]at e ZP;rcases fE.1 hu with q|q
     ·exact F J u q
     ·have:u=v:=qE;exact absurd this ZP)
   rw[dN]at this;exact this
 have:=key vs [] (0,0) pG;simpa[XR]using this
theorem De {K:SK}(hK:YV K){s:SS}(hs:Y5 K s){i:Nat}{c:Yz}(hc:K.cons[i]?=some c)(c4:c.sort=4){v:Int}(bo:v∈c.lits.map (·.1))(oo:s.fixed v=false):∃l∈c.lits,Uh s l=true:=by
 have av:=hK.cons c (cq hc);obtain⟨l,hl,hle⟩:=gU.1 bo;refine⟨l,hl,?_⟩;obtain⟨p1,⟨u,p2,p3,p4⟩,p5⟩:=av.lits l hl;have bl:YX K.vars.length v:=by rw[<-hle];exact p1
 obtain⟨a,b,t,ht⟩:=akK (hs.TP hK v) (hs.ne v.toNat sD) oo;have cE:=Ap (s.L v);rw[ht]at cE;have bM:=(dD.1 cE).1 b pG;have ha:=(JE (hs.TP hK v) (v:=a)).1 (by rw[ht];simp);have hb:=(JE (hs.TP hK v) (v:=b)).1 (by rw[ht];simp);rw[hle]at p2;have s1:=hs.sub v.toNat u p2 _ ha.2.2;have s2:=hs.sub v.toNat u p2 _ hb.2.2;have ea:a=0:=J;have eb:b=1:=J;unfold Uh;rw[hle];rcases p5 with e|e
 ·rw[e,<-ea];exact ha.2.2
 ·rw[e,<-eb];exact hb.2.2
def kS{P:Prop}(h:P:=by
 first
 |exact UY.refl K s
 |exact λx _ hf _=>⟨rfl,hf⟩):P:=h
theorem JA {K:SK}(hK:YV K){s:SS}(hs:Y5 K s){i:Nat}{c:Yz}(hc:K.cons[i]?=some c):UY K s (Yq K i s).2/\Qo (λx=>Yt x c=true) s (Yq K i s)/\((Yq K i s).1=true->(∀v∈K.YP.getD i [],s.fixed v=true)->Yt s.Z7 c=true):=by
 have aJ:=cq hc;have av:=hK.cons c aJ;have bk:=hK.cv i c hc;have ba:K.cons.getD i RA=c:=by rw[aN,hc];rfl
 obtain⟨o0,o1,o2,o3⟩:=Oj s (K.YP.getD i []);unfold Yq;rw[ba];simp only[];generalize hO:XR s (K.YP.getD i [])=o at *;by_cases c0:o.2=0
 ·rw[iR c0];refine⟨UY.refl K s,λx hx hf hq=>⟨?_,hf⟩,λh _=>h⟩
  simp only[];rw[<-hq];refine abQ λv hv=> ?_
  have bl:YX s.left.length v:=by rw[hs.ll];exact R6 av v hv
  rw[Ah bl];exact(hf.one hs hK hx bl (o1 c0 v ((bk v).2 hv))).symm
 ·rw[iQ c0];have Z:0<o.2:=J;obtain⟨ov,oo⟩:=o2 Z;have cU:¬(∀v∈K.YP.getD i [],s.fixed v=true):=λh=>by rw[h o.1 ov]at oo;cases oo
  have bo:=(bk o.1).1 ov;have bl:=R6 av o.1 bo;refine⟨?_,?_,λ_ h=>absurd h cU⟩
  all_goals
   by_cases cw:K.VO=true
   ·rw[iR cw];exact kS
   rw[iQ cw];by_cases c1:c.sort=1
   ·rw[iR c1];by_cases ct:s.fixed c.Yp=true
    ·rw[iR ct];by_cases cm:1<o.2
     ·rw[iR cm];exact kS
     ·rw[iQ cm];have F:o.2=1:=J;have q:=abS hK hs aJ (t:=decide (s.val c.Yp=1)) bl (λp hp ZP=>o3 F p.1 ((bk p.1).2 (by unfold Y2;rw[iR c1];simp;exact .inr ⟨p.2,hp⟩)) ZP)
      first
      |exact q.1
      |exact q.2.imp λx hx hf hq=>by
        have ht:=hf.one hs hK hx (v:=c.Yp) (by rw[hs.ll];exact(av.Yp c1).1) ct;unfold Yt at hq;rw[iR c1,ht]at hq;rw[iD]at hq;rw[hq];by_cases anZ:s.val c.Yp=1<;>simp[anZ]
    ·rw[iQ ct];exact kS
   rw[iQ c1];by_cases cz:c.sort=0
   ·rw[iR cz];by_cases cm:1<o.2
    ·rw[iR cm];exact kS
    ·rw[iQ cm];have F:o.2=1:=J;have q:=abS hK hs aJ (t:=true) bl (λp hp ZP=>o3 F p.1 ((bk p.1).2 (by unfold Y2;rw[iQ c1,iR cz];simp;exact⟨p.2,hp⟩)) ZP)
     first
     |exact q.1
     |exact q.2.imp λx hx hf hq=>by
       unfold Yt at hq;rw[iQ c1,iR cz]at hq;exact hq
   rw[iQ cz];by_cases c2:c.sort=2
   ·rw[iR c2];have q:=akS hK hs aJ c2
    first
    |exact q.1
    |exact q.2.imp λx hx hf hq=>by
      unfold Yt at hq;rw[iQ c1,iQ cz,iR c2]at hq;exact hq
   rw[iQ c2];by_cases c3:c.sort=3
   ·rw[iR c3];have q:=akU hK (vars:=c.vars) av.vars hs
    first
    |exact q.1
    |exact q.2.imp λx hx hf hq=>by
      unfold Yt at hq;rw[iQ c1,iQ cz,iQ c2,iR c3]at hq;exact hq
   rw[iQ c3];by_cases c4:c.sort=4
   ·rw[iR c4];have hm:∃l∈c.lits,Uh s l=true:=by
     unfold Y2 at bo;rw[iQ c1,iQ cz,iQ c2,iQ c3,iR c4]at bo;exact De hK hs hc c4 bo oo
    have q:=akV hK (lits:=c.lits) (λp hp=>⟨(av.lits p hp).1,(av.lits p hp).2.2⟩) hs hm
    first
    |exact q.1
    |exact q.2.imp λx hx hf hq=>by
      unfold Yt at hq;rw[iQ c1,iQ cz,iQ c2,iQ c3,iR c4]at hq;exact hq
   exfalso
   rcases av.sort with e|e|e|e|e<;>omega
def Tu (V:az)(s s':SS):Prop:=∀j:Nat,(j:Int)∉V->s'.left.getD j 0=s.left.getD j 0
theorem Tu.refl (V:az)(s:SS):Tu V s s:=λ_ _=>rfl
theorem Tu.trans {V:az}{a b c:SS}(h:Tu V a b)(k:Tu V b c):Tu V a c:=λj hj=>(k j hj).trans (h j hj)
theorem Jz {K:SK}{V:az}{v:Int}{D:Nat}{s:SS}(hv:v∈V)(h0:0<=v):Tu V s (Vq K v D s).2:=by
 unfold Vq;split
 ·exact Tu.refl V s
 ·split
  ·exact Tu.refl V s
  ·intro j hj;have:v.toNat≠j:=λe=>hj (by rw[<-e,show((v.toNat:Nat):Int)=v by omega];exact hv)
   simp only[Zb];rw[aN,bZ this,<-aN]
theorem abY {K:SK}{V:az}{a:Int}:∀(vs:az) {s:SS},(∀v∈vs,v∈V/\0<=v)->Tu V s (WD K a vs s).2:=by
 intro vs
 induction vs with
 |nil=>intro s _;exact Tu.refl V s
 |cons v vs ih=>
  intro s hv;obtain⟨F,h2⟩:=hv v pG;rw[WD];split
  ·simp only[];split
   ·exact(Jz F h2).trans (ih (λu hu=>hv u rB))
   ·exact Jz F h2
  ·exact ih (λu hu=>hv u rB)
theorem akW {K:SK}{vars:az}(hv:∀v∈vars,0<=v):∀(is:List Nat) {s:SS},Tu vars s (R8 K vars is s).2:=by
 intro is
 induction is with
 |nil=>intro s;exact Tu.refl vars s
 |cons i is ih=>
  intro s;have F:∀(a:Int) (s:SS),Tu vars s (WD K a (vars.take i) s).2:=λa s=>abY _ (λu hu=>⟨cy hu,hv u (cy hu)⟩)
  have h2:∀(a:Int) (s:SS),Tu vars s (WD K a (vars.drop (i+1)) s).2:=λa s=>abY _ (λu hu=>⟨cx hu,hv u (cx hu)⟩)
  rw[R8];simp only[];split
  ·split
   ·split
    ·exact((F _ _).trans (h2 _ _)).trans ih
    ·exact(F _ _).trans (h2 _ _)
   ·exact F _ _
  ·exact ih
def mX{P:Prop}(h:P:=by
 split
 ·exact Tu.refl _ s
 ·exact Jz Gu.1 Gu.2):P:=h
theorem akX {K:SK}(hK:YV K){s:SS}(hs:Y5 K s){i:Nat}{c:Yz}(hc:K.cons[i]?=some c):Tu (K.YP.getD i []) s (Yq K i s).2:=by
 have aJ:=cq hc;have av:=hK.cons c aJ;have bk:=hK.cv i c hc;have ba:K.cons.getD i RA=c:=by rw[aN,hc];rfl
 have bo:∀v,v∈Y2 c->v∈K.YP.getD i []/\0<=v:=λv hv=>⟨(bk v).2 hv,(R6 av v hv).1⟩
 obtain⟨o0,o1,o2,o3⟩:=Oj s (K.YP.getD i []);unfold Yq;rw[ba];simp only[];generalize hO:XR s (K.YP.getD i [])=o at *;by_cases c0:o.2=0
 ·rw[iR c0];exact Tu.refl _ s
 rw[iQ c0];obtain⟨ov,oo⟩:=o2 J;have Gu:=bo o.1 ((bk o.1).1 ov);by_cases cw:K.VO=true
 ·rw[iR cw];exact Tu.refl _ s
 rw[iQ cw];by_cases c1:c.sort=1
 ·rw[iR c1];split
  ·exact mX
  ·exact Tu.refl _ s
 rw[iQ c1];by_cases cz:c.sort=0
 ·rw[iR cz];exact mX
 rw[iQ cz];by_cases c2:c.sort=2
 ·rw[iR c2];have hr:Y2 c=[c.place,c.entry]:=by unfold Y2;rw[iQ c1,iQ cz,iR c2]
  rw[hr]at bo;have p1:=bo c.place pG;have p2:=bo c.entry pG;unfold Qq;simp only[];split
  ·exact(Jz p1.1 p1.2).trans (Jz p2.1 p2.2)
  ·exact Jz p1.1 p1.2
 rw[iQ c2];by_cases c3:c.sort=3
 ·rw[iR c3];have hr:Y2 c=c.vars:=by unfold Y2;rw[iQ c1,iQ cz,iQ c2,iR c3]
  rw[hr]at bo;intro j hj;exact akW (λv hv=>(bo v hv).2) _ j (λh=>hj (bo _ h).1)
 rw[iQ c3];by_cases c4:c.sort=4
 ·rw[iR c4];have hr:Y2 c=c.lits.map (·.1):=by unfold Y2;rw[iQ c1,iQ cz,iQ c2,iQ c3,iR c4]
  rw[hr]at bo;have cn:=bk o.1 |>.1 ov;rw[hr]at cn;unfold PE;simp only[];split
  ·exact Tu.refl _ s
  ·cases hf:c.lits.find? (Uh s)with
   |some f=>
    simp only[eY];have:=bo f.1 (gU.2 ⟨f,List.mem_of_find?_eq_some hf,rfl⟩);exact Jz this.1 this.2
   |none=>
    exfalso
    obtain⟨l,hl,hm⟩:=De hK hs hc c4 cn oo;rw[List.find?_eq_none]at hf;exact hf l hl hm
 rw[iQ c4];exact Tu.refl _ s
structure TM (s s':SS):Prop where
 ll:s'.left.length=s.left.length
 ml:s'.marked.length=s.marked.length
 sub:∀i j,(s'.left.getD i 0).testBit j=true->(s.left.getD i 0).testBit j=true
 ne:∀i,s.left.getD i 0≠0->s'.left.getD i 0≠0
 nodes:s'.nodes=s.nodes
 Zx:s'.Zx=s.Zx
 ending:s'.ending=s.ending
 tr:∃t,s'.ZF=s.ZF++t/\JB t s'.left=s.left
theorem UY.Dd {K:SK}{s s':SS}(h:UY K s s'):TM s s':=⟨h.ll,h.ml,h.sub,h.ne,h.nodes,h.Zx,h.ending,h.tr⟩
theorem TM.refl (s:SS):TM s s:=⟨rfl,rfl,λ_ _ h=>h,λ_ h=>h,rfl,rfl,rfl,⟨[],pG,rfl⟩⟩
theorem TM.trans {a b c:SS}(h:TM a b)(k:TM b c):TM a c:=by
 refine⟨k.ll.trans h.ll,k.ml.trans h.ml,λi j q=>h.sub i j (k.sub i j q),λi q=>k.ne i (h.ne i q),k.nodes.trans h.nodes,k.Zx.trans h.Zx,k.ending.trans h.ending,?_⟩
 exact lR
theorem TM.ok {K:SK}{s s':SS}(h:TM s s')(hs:Y5 K s):Y5 K s':=
 ⟨h.ll.trans hs.ll,h.ml.trans hs.ml,λi hi=>h.ne i (hs.ne i uD),λi v hv j hj=>hs.sub i v hv j (h.sub i j hj)⟩
theorem Jy (i:Nat)(s:SS):TM s (T3 i s):=⟨rfl,by simp[T3],λ_ _ h=>h,λ_ h=>h,rfl,rfl,rfl,⟨[],by simp[T3],rfl⟩⟩
theorem abZ (s:SS):TM s (Om s):=⟨rfl,by simp[Om],λ_ _ h=>h,λ_ h=>h,rfl,rfl,rfl,⟨[],by simp[Om],rfl⟩⟩
def OX (K:SK)(s:SS):Prop:=∀i c,K.cons[i]?=some c->s.marked.getD i true=false->∃s0,Y5 K s0/\(∀v∈K.YP.getD i [],s0.L v=s.L v)/\Yq K i s0=(true,s0)
theorem OX.asked {K:SK}(hK:YV K){s:SS}(hs:Y5 K s)(h:OX K s){i:Nat}{c:Yz}(hc:K.cons[i]?=some c)(hm:s.marked.getD i true=false)(hf:∀v∈K.YP.getD i [],s.fixed v=true):Yt s.Z7 c=true:=by
 obtain⟨s0,F,h2,h3⟩:=h i c hc hm;have av:=hK.cons c (cq hc);have q:=(JA hK F hc).2.2 (by rw[h3]) (λv hv=>by unfold SS.fixed;rw[h2 v hv];exact hf v hv)
 rw[<-q];refine abQ λv hv=> ?_
 have bl:=R6 av v hv;rw[Ah tJ,Ah (by rw[F.ll];exact bl)];unfold SS.val;rw[h2 v ((hK.cv i c hc v).2 hv)]
theorem G7 {m:List Bool}{i:Nat}(h:Qp m=some i):i<m.length/\m.getD i false=true:=by
 unfold Qp at h;obtain⟨F,h2,_⟩:=aG.1 h;refine⟨F,?_⟩;rw[aN,aZ F];simpa using h2
theorem akY {m:List Bool}(h:Qp m=none)(i:Nat):m.getD i false=false:=by
 unfold Qp at h;rw[aS]at h;rw[aN]
 cases e:m[i]? with
 |none=>rfl
 |some b=>simpa using h b (cq e)
theorem ab0:∀{m:List Bool} {i:Nat},m.getD i false=true->(m.set i false).countP id+1=m.countP id
 |[],i,h=>pZ
 |b::m,0,h=>by
  have:b=true:=pX;subst this;simp
 |b::m,i+1,h=>by
  have:=ab0 (m:=m) (i:=i) pX;rw[dF,eH,eH];omega
theorem akZ {anY A' m c c':Nat}(h:A'<anY)(hc:c'<=m):A'*(m+1)+c'<anY*(m+1)+c:=by
 have:(A'+1)*(m+1)<=anY*(m+1):=Nat.mul_le_mul_right _ h;rw[Nat.add_mul]at this;omega
theorem Dc {K:SK}(hK:YV K){s:SS}(hs:Y5 K s){i:Nat}(hi:Qp s.marked=some i):Ol (Yq K i (T3 i s)).2<Ol s:=by
 obtain⟨F,h2⟩:=G7 hi;have hu:=(Jy i s).ok hs;have bf:K.cons[i]?=some (K.cons[i]'(by rw[<-hs.ml];exact F)):=aZ _;have q:=(JA hK hu bf).1;have hc:=ab0 h2;unfold Ol;have bu:(Yq K i (T3 i s)).2.marked.length=s.marked.length:=by rw[q.ml];simp[T3]
 rw[bu];rcases q.Fk with e|e
 ·rw[e];simp only[T3];omega
 ·refine akZ e ?_;rw[<-bu];exact List.countP_le_length
theorem ak0 {a b:List Nat}(hl:a.length=b.length)(h:∀j:Nat,a.getD j 0=b.getD j 0):a=b:=by
 apply eJ hl;intro j F h2;have:=h j;rw[aN,aN,aZ F,aZ h2]at this;simpa using this
theorem ab1 {K:SK}(hK:YV K):∀(n:Nat) {s:SS},Y5 K s->OX K s->Ol s<n->TM s (Ry K n s).2/\Qo (λx=>∀c∈K.cons,Yt x c=true) s (Ry K n s)/\(∀i,(Ry K n s).2.marked.getD i false=false)/\((Ry K n s).1=true->OX K (Ry K n s).2)
 |0,s,_,_,h=>J
 |n+1,s,hs,hF,hm=>by
  rw[Ry]
  cases e:Qp s.marked with
  |none=>exact⟨TM.refl s,λx _ hf _=>⟨rfl,hf⟩,akY e,λ_=>hF⟩
  |some i=>
   simp only[];obtain⟨F,h2⟩:=G7 e;have hu:=(Jy i s).ok hs;have bf:K.cons[i]?=some (K.cons[i]'(by rw[<-hs.ml];exact F)):=aZ _;obtain⟨q1,q2,q3⟩:=JA hK hu bf;have cp:=Dc hK hs e;have r1:=(Jy i s).trans q1.Dd;by_cases c:(Yq K i (T3 i s)).1=true
   ·rw[iR c];have aR:OX K (Yq K i (T3 i s)).2:=by
     intro k ck I cX;obtain⟨m1,m2⟩:=q1.Fl k cX;by_cases cI:k=i
     ·subst cI;refine⟨T3 k s,hu,λv hv=>(m2 v hv).symm,?_⟩
      rcases q1.Fk with anZ|anZ
      ·exact Prod.ext c anZ
      ·exfalso
       have z2:(Yq K k (T3 k s)).2.left=(T3 k s).left:=by
        refine ak0 q1.ll λj=> ?_
        by_cases hj:(j:Int)∈K.YP.getD k []
        ·exact m2 (j:Int) hj
        ·exact akX hK hu bf j hj
       rw[z2]at anZ;omega
     ·have m3:s.marked.getD k true=false:=by
       simp only[T3]at m1;rw[aN,bZ (λanZ=>cI anZ.symm),<-aN]at m1
       exact m1
      obtain⟨s0,a1,a2,a3⟩:=hF k ck I m3;exact⟨s0,a1,λv hv=>(a2 v hv).trans (m2 v hv).symm,a3⟩
    obtain⟨w1,w2,w3,w4⟩:=ab1 hK n (q1.ok hu) aR J;refine⟨r1.trans w1,λx hx hf hq=> ?_,w3,w4⟩
    exact w2 x hx (q2 x hx hf (hq _ (cq bf))).2 hq
   ·rw[iQ c];refine⟨r1.trans (abZ _),λx hx hf hq=> ?_,λk=> ?_,λh=>rN⟩
    ·exact absurd (q2 x hx hf (hq _ (cq bf))).1 c
    ·simp only[Om];rw[aN,dR]
     cases (Yq K i (T3 i s)).2.marked[k]?<;>rfl
theorem ab2 {K:SK}(hK:YV K):∀(n m:Nat) {s:SS},Y5 K s->Ol s<n->Ol s<m->Ry K n s=Ry K m s
 |0,m,s,_,h,_=>J
 |n+1,0,s,_,_,h=>J
 |n+1,m+1,s,hs,F,h2=>by
  rw[Ry,Ry]
  cases e:Qp s.marked with
  |none=>rfl
  |some i=>
   simp only[];have cp:=Dc hK hs e;have hu:=(Jy i s).ok hs;have bf:K.cons[i]?=some (K.cons[i]'ug):=aZ _;have YM:=(JA hK hu bf).1.ok hu;split
   ·exact ab2 hK n m YM J J
   ·rfl
theorem ak1 {K:SK}{s:SS}(h:Qp s.marked=none):Zp K s=(true,s):=by
 unfold Zp;rw[Ry,h]
theorem ak2 {K:SK}(hK:YV K){s:SS}(hs:Y5 K s){i:Nat}(h:Qp s.marked=some i):Zp K s=if (Yq K i (T3 i s)).1 then Zp K (Yq K i (T3 i s)).2 else(false,Om (Yq K i (T3 i s)).2):=by
 unfold Zp;rw[Ry,h];simp only[];have cp:=Dc hK hs h;have hu:=(Jy i s).ok hs;have bf:K.cons[i]?=some (K.cons[i]'(by rw[<-hs.ml];exact(G7 h).1)):=aZ _;have YM:=(JA hK hu bf).1.ok hu;split
 ·exact ab2 hK _ _ YM J J
 ·rfl
theorem Hp {K:SK}(hK:YV K){s:SS}(hs:Y5 K s)(hF:OX K s):TM s (Zp K s).2/\Qo (λx=>∀c∈K.cons,Yt x c=true) s (Zp K s)/\(∀i,(Zp K s).2.marked.getD i false=false)/\((Zp K s).1=true->OX K (Zp K s).2):=
 ab1 hK _ hs hF (eT _)
theorem Ae:∀(n:Nat) (t:List (Int×Nat)),t.length=n->∀(a:List (Int×Nat)) (s:SS),s.ZF=a++t->Np n s={s with ZF:=a,left:=JB t s.left}
 |0,t,h,a,s,e=>by
  have:t=[]:=List.eq_nil_of_length_eq_zero h;subst this;simp at e;simp[Np,JB,<-e]
 |n+1,t,h,a,s,e=>by
  obtain⟨t',p,rfl⟩:∃t' p,t=t'++[p]:=⟨t.dropLast,t.getLast (by intro q;simp[q]at h),by rw[List.dropLast_concat_getLast]⟩;rw[Np];have hl:s.ZF.getLastD (0,0)=p:=by rw[e,<-dN];simp
  have hd:s.ZF.dropLast=a++t':=by rw[e,<-dN,List.dropLast_concat]
  rw[Ae n t' pX a (Oo s) hd];unfold Oo JB;rw[hl,dQ];rfl
theorem ab3 {s s':SS}(h:TM s s'):Rz s.ZF.length s'={s' with ZF:=s.ZF,left:=s.left}:=by
 obtain⟨t,F,h2⟩:=h.tr;unfold Rz;rw[F,dA,bB,Ae t.length t rfl s.ZF s' F,h2]
def ak3 (K:SK)(x:az):Prop:=∀c∈K.cons,Yt x c=true
structure PB (K:SK)(left:List Nat)(x:az):Prop where
 low:∀y∈x,-1000<=y
 fits:Rx left x
 all:ak3 K x
structure U9 (K:SK)(s:SS):Prop where
 ok:Y5 K s
 fix:OX K s
 no:∀i,s.marked.getD i false=false
theorem U9.same {K:SK}{s s':SS}(h:U9 K s)(hl:s'.left=s.left)(hm:s'.marked=s.marked):U9 K s':=by
 refine⟨⟨by rw[hl];exact h.ok.ll,by rw[hm];exact h.ok.ml,by rw[hl];exact h.ok.ne,by rw[hl];exact h.ok.sub⟩,λi c hc I=> ?_,by rw[hm];exact h.no⟩
 rw[hm]at I;obtain⟨s0,a,b,d⟩:=h.fix i c hc I;exact⟨s0,a,λv hv=>by rw[b v hv];unfold SS.L;rw[hl],d⟩
theorem U9.un {K:SK}{s:SS}(h:U9 K s){i:Nat}(hi:i<s.marked.length):s.marked.getD i true=false:=by
 have:=h.no i;rw[aN,aZ hi]at this⊢;simpa using this
theorem Db {a b:List Bool}(hl:a.length=b.length)(ha:∀i,a.getD i false=false)(hb:∀i,b.getD i false=false):a=b:=by
 apply eJ hl;intro j F h2;have p:=ha j;have q:=hb j;rw[aN,aZ F]at p;rw[aN,aZ h2]at q;simp at p q;rw[p,q]
def Qn (l:List Nat):Nat:=l.foldr (λD p=>VC D*p) 1
theorem ak4 {v:Int}(F:-1000<=v)(h2:v<=1000):VC (Zu v)=1:=by rw[Dj,Al F h2];rfl
theorem ak5 {D E:Nat}(hE:E<2 ^ 2001)(hs:∀j,D.testBit j=true->E.testBit j=true):VC D<=VC E:=by
 by_cases c:D=E
 ·rw[c];exact iw _
 ·exact gY (Ak hE hs c)
theorem ab4 {f:Nat->Nat}:∀{a b:List Nat},a.length=b.length->(∀i,f (a.getD i 0)<=f (b.getD i 0))->a.foldr (λD p=>f D*p) 1<=b.foldr (λD p=>f D*p) 1
 |[],[],_,_=>iw _
 |x::a,y::b,hl,h=>by
  have h0:=h 0;have:=ab4 (f:=f) (a:=a) (b:=b) rM (λi=>by simpa using h (i+1))
  exact Nat.mul_le_mul qb this
 |[],_::_,h,_=>pZ
 |_::_,[],h,_=>pZ
theorem ab5 {f:Nat->Nat}:∀{l:List Nat} {i:Nat},i<l.length->∃M,l.foldr (λD p=>f D*p) 1=M*f (l.getD i 0)/\∀D,f D=1->(l.set i D).foldr (λD p=>f D*p) 1=M
 |[],i,h=>pZ
 |x::l,0,_=>⟨l.foldr (λD p=>f D*p) 1,by simp[Nat.mul_comm],λD h=>by simp[h]⟩
 |x::l,i+1,h=>by
  obtain⟨M,F,h2⟩:=ab5 (f:=f) (l:=l) (i:=i) pX;refine⟨f x*M,?_,λD hD=> ?_⟩
  ·rw[fx,F,cV,gJ]
  ·rw[dF,fx,h2 D hD]
theorem ab6 {f:Nat->Nat}:∀{l:List Nat},(∀i,i<l.length->0<f (l.getD i 0))->0<l.foldr (λD p=>f D*p) 1
 |[],_=>Nat.one_pos
 |x::l,h=>by
  rw[fx];exact Nat.mul_pos (by simpa using h 0 pG) (ab6 λi hi=>by simpa using h (i+1) rO)
theorem ab7 {p:Nat->Bool}:∀{a b:List Nat},a.length=b.length->(∀i,i<a.length->p (a.getD i 0)=true->p (b.getD i 0)=true)->a.countP p<=b.countP p
 |[],[],_,_=>iw _
 |x::a,y::b,hl,h=>by
  have h0:=h 0 pG;have:=ab7 (p:=p) (a:=a) (b:=b) rM (λi hi=>by simpa using h (i+1) rO)
  rw[eH,eH];simp only[cW]at h0;by_cases c:p x=true
  ·rw[iR c,iR (h0 c)];omega
  ·rw[iQ c];omega
 |[],_::_,h,_=>pZ
 |_::_,[],h,_=>pZ
theorem Ad {p:Nat->Bool}:∀{l:List Nat} {i D:Nat},i<l.length->p (l.getD i 0)=true->p D=false->(l.set i D).countP p+1=l.countP p
 |[],i,D,h,_,_=>pZ
 |x::l,0,D,_,h,k=>by
  have h':p x=true:=pX;rw[List.set_cons_zero,eH,eH,h',k];simp
 |x::l,i+1,D,h,hp,k=>by
  have:=Ad (p:=p) (l:=l) (i:=i) (D:=D) pX (by simpa using hp) k;rw[dF,eH,eH];omega
theorem TM.fixed {K:SK}(hK:YV K){s s':SS}(hs:Y5 K s)(h:TM s s'){i:Nat}(hi:i<s.left.length)(hf:Yd (s.left.getD i 0)=true):s'.left.getD i 0=s.left.getD i 0:=by
 obtain⟨a,b,c⟩:=Fm (hs.lt hK i) hf;rw[c];refine abV (λj hj=> ?_) (h.ne i (hs.ne i hi))
 rw[<-c];exact h.sub i j hj
theorem TM.ab8 {K:SK}(hK:YV K){s s':SS}(hs:Y5 K s)(h:TM s s'):XG s'<=XG s:=by
 refine ab7 h.ll λi hi hp=> ?_
 cases c:Yd (s.left.getD i 0)with
 |false=>rfl
 |true=>rw[h.fixed hK hs uD c,c]at hp;exact hp
theorem TM.ab9 {K:SK}(hK:YV K){s s':SS}(hs:Y5 K s)(h:TM s s'):Qn s'.left<=Qn s.left:=
 ab4 h.ll λi=>ak5 (hs.lt hK i) (h.sub i)
def Ac (a b:az):Prop:=∃k:Nat,(∀i,i<k->a.getD i 0=b.getD i 0)/\a.getD k 0<b.getD k 0
structure Ab (K:SK)(s:SS)(P:az->Prop)(B:Nat)(r:Bool×SS)(new:List (az)):Prop where
 Zx:r.2.Zx=s.Zx++new
 all:∀x∈new,P x
 nd:new.Nodup
 lex:K.order≠1->new.Pairwise Ac
 tt:r.1=true->r.2.left=s.left/\r.2.ZF=s.ZF/\r.2.marked=s.marked/\r.2.ending=s.ending/\∀x,P x->x∈new
 ff:r.1=false->(r.2.ending=1/\r.2.nodes+1<=s.nodes+B/\K.XS<=r.2.nodes)\/(r.2.ending=2/\r.2.Zx.length=100000/\∃x,P x/\x∉new)
 lo:s.nodes<=r.2.nodes
 hi:s.nodes<=K.XS->r.2.nodes<=K.XS
 bd:r.2.nodes<=s.nodes+B
def lj{P:Prop}(h:P:=by
 obtain⟨t,a1,a2⟩:=hR.tr;unfold Rz;have Rw:g.2.ZF=s.ZF++t:=by rw[t2,a1]
 rw[Rw,dA,bB,Ae t.length t rfl s.ZF g.2 Rw,t1,a2]):P:=h
def mn{P:Prop}(h:P:=by
 exact .inl ⟨u1,J,u3⟩):P:=h
def po{P:Prop}(h:P:=by
 exact⟨s0,a1,λu hu=>(a2 u hu).trans (m2 u hu).symm,a3⟩):P:=h
theorem ak6 {K:SK}(hK:YV K){e:SS->Bool×SS}{v:Int}(hv:YX K.vars.length v){b N M:Nat}{l0:List Nat}(hM:∀D,VC D=1->Qn (l0.set v.toNat D)<=M)(hN:l0.countP (λD=> !Yd D)<=N)(Tg:Yd (l0.getD v.toNat 0)=false)(cF:K.order≠1->∀i,i<v.toNat->Yd (l0.getD i 0)=true)(he:∀s2:SS,U9 K s2->XG s2<N->Qn s2.left<=M->∃new,Ab K s2 (PB K s2.left) b (e s2) new):∀(xs:az) {s:SS},U9 K s->s.left=l0->(∀x∈xs,x∈WQ (l0.getD v.toNat 0))->xs.Pairwise (·<·)->∃new,Ab K s (λx=>PB K l0 x/\ZB x v∈xs) (xs.length*b) (Xa K e v xs s) new:=by
 intro xs
 induction xs with
 |nil=>
  intro s hn _ _ _;refine⟨[],?_⟩;rw[Xa];exact⟨pG,(λx hx=>qA),fY,λ_=>dK,(λ_=>⟨rfl,rfl,rfl,rfl,λx hx=>by have q:=hx.2;cases q⟩),(λh=>rN),iv _,λh=>h,pG⟩
 |cons x xs ih=>
  intro s hn cY hx cH;subst cY;have hs:=hn.ok;have hl:v.toNat<s.left.length:=qj;have bG:=hx x pG;obtain⟨x1,x2,x3⟩:=(JE (hs.TP hK v)).1 bG;have ZP:Zu x≠s.L v:=λq=>by
   have q':Zu x=s.left.getD v.toNat 0:=q;rw[<-q',Hr x1 x2]at Tg;cases Tg
  have Nl:=Dg hK hs hv (D:=Zu x) (λj h=>by rw[PD]at h;rw[<-ew h];exact x3) (Ao x) ZP
  have YB:=Nl.ok hs;have bs:OX K (Zb K v (Zu x) s):=λi c hc I=>by
   obtain⟨m1,m2⟩:=Nl.Fl i I;obtain⟨s0,a1,a2,a3⟩:=hn.fix i c hc m1;exact po
  obtain⟨c1,c2,c3,c4⟩:=Hp hK YB bs;have hR:TM s (Zp K (Zb K v (Zu x) s)).2:=Nl.Dd.trans c1;have bA:XG (Zp K (Zb K v (Zu x) s)).2<N:=by
   have F:=c1.ab8 hK YB;have h2:XG (Zb K v (Zu x) s)+1=XG s:=Ad (p:=λD=> !Yd D) hl (by rw[Tg];rfl) (by rw[Hr x1 x2];rfl)
   have h3:XG s<=N:=hN;omega
  have cZ:Qn (Zp K (Zb K v (Zu x) s)).2.left<=M:=gZ (c1.ab9 hK YB) (hM (Zu x) (ak4 x1 x2))
  --of the rows with this value
  have cL:∀y,PB K s.left y->ZB y v=x->Rx (Zb K v (Zu x) s).left y:=λy hy bK=>by
   refine⟨by simp[Zb];exact hy.fits.len,λi hi=> ?_⟩
   simp only[Zb,Hq hl];split
   ·rename_i q;have:y.getD i 0=x:=by rw[<-q];exact bK
    rw[this,JD x1 x1];simp
   ·exact hy.fits.has i (by simpa[Zb]using hi)
  have c5:∀y,(∀anZ∈y,-1000<=anZ)->Rx (Zp K (Zb K v (Zu x) s)).2.left y->Rx s.left y/\ZB y v=x:=λy Vb hy=>by
   have f1:∀i,i<s.left.length->Xp (s.left.getD i 0) (y.getD i 0)=true:=λi hi=>hR.sub i _ (hy.has i (by rw[hR.ll];exact hi))
   have bF:y.length=s.left.length:=by rw[hy.len,hR.ll]
   refine⟨⟨bF,f1⟩,?_⟩;have q:=c1.sub v.toNat _ (hy.has v.toNat (by rw[hR.ll];exact hl));simp only[Zb,Hq hl,iP]at q;have bK:-1000<=ZB y v:=Vb _ (Dh (by rw[bF];exact hl));have q2:Xp (Zu x) (ZB y v)=true:=q;rw[JD x1 bK]at q2;exact(ew q2).symm
  rw[Xa];simp only[];have TS:∀y∈xs,y∈WQ (s.left.getD v.toNat 0):=λy hy=>hx y (by simp[hy])
  have cM:=(dD.1 cH).2;have ZR:=(dD.1 cH).1;have b6:(Zp K (Zb K v (Zu x) s)).2.nodes=s.nodes:=hR.nodes;have cN:(Zp K (Zb K v (Zu x) s)).2.Zx=s.Zx:=hR.Zx;have cO:(Zp K (Zb K v (Zu x) s)).2.ending=s.ending:=hR.ending;have hlen:(x::xs).length*b=b+xs.length*b:=by rw[eM,Nat.add_mul];omega
  rw[hlen];by_cases c:(Zp K (Zb K v (Zu x) s)).1=true
  ·rw[iR c];have bJ:U9 K (Zp K (Zb K v (Zu x) s)).2:=⟨c1.ok YB,c4 c,c3⟩;obtain⟨new,o⟩:=he _ bJ bA cZ;have hP:∀y,PB K (Zp K (Zb K v (Zu x) s)).2.left y↔PB K s.left y/\ZB y v=x:=λy=>by
    constructor
    ·intro h;obtain⟨q1,q2⟩:=c5 y h.low h.fits;exact⟨⟨h.low,q1,h.all⟩,q2⟩
    ·rintro⟨h,bK⟩;exact⟨h.low,(c2 y h.low (cL y h bK) h.all).2,h.all⟩
   generalize z:e (Zp K (Zb K v (Zu x) s)).2=g at *;have Yu:=o.lo;have bD:=o.bd;have bn:=o.hi;rw[b6]at Yu bD bn;have RD:=o.Zx;rw[cN]at RD;by_cases cg:g.1=true
   ·rw[iR cg];obtain⟨t1,t2,t3,t4,t5⟩:=o.tt cg;have b8:Rz s.ZF.length g.2={g.2 with ZF:=s.ZF,left:=s.left}:=by
     exact lj
    have bp:g.2.marked=s.marked:=by
     rw[t3];exact Db vq c3 hn.no
    obtain⟨s3,Yh,ax,b7,bL,bN,cd,cf⟩:∃s3:SS,Rz s.ZF.length g.2=s3/\s3.left=s.left/\s3.ZF=s.ZF/\s3.marked=g.2.marked/\s3.nodes=g.2.nodes/\s3.Zx=g.2.Zx/\s3.ending=g.2.ending:=⟨_,b8,rfl,rfl,rfl,rfl,rfl,rfl⟩;rw[Yh];have cK:U9 K s3:=hn.same ax (bL.trans bp);obtain⟨cu,o2⟩:=ih cK ax TS cM;have PG:=o2.Zx;have bz:=o2.lo;have br:=o2.bd;have bO:=o2.hi;rw[bN]at bz br bO;rw[cd]at PG;refine⟨new++cu,?_,?_,?_,?_,?_,?_,J,λh=>bO (bn h),J⟩
    ·rw[PG,RD,dN]
    ·intro y hy;rcases fE.1 hy with q|q
     ·obtain⟨a1,a2⟩:=(hP y).1 (o.all y q);exact⟨a1,by simp[a2]⟩
     ·obtain⟨a1,a2⟩:=o2.all y q;exact⟨a1,by simp[a2]⟩
    ·rw[List.nodup_append];refine⟨o.nd,o2.nd,λy hy anZ hz bR=> ?_⟩
     have F:=((hP y).1 (o.all y hy)).2;have h2:=ZR _ (o2.all anZ hz).2;rw[bR]at F;omega
    ·intro bS;rw[cB];refine⟨o.lex bS,o2.lex bS,λy hy anZ hz=> ?_⟩
     obtain⟨p1,p2⟩:=(hP y).1 (o.all y hy);obtain⟨r1,r2⟩:=o2.all anZ hz;refine⟨v.toNat,λi hi=> ?_,?_⟩
     ·have XB:YX s.left.length (i:Int):=⟨J,J⟩;have e1:=p1.fits.one hs hK p1.low XB (cF bS i hi);have e2:=r1.fits.one hs hK r1.low XB (cF bS i hi);exact e1.trans e2.symm
     ·have:=ZR _ r2;have e3:ZB y v=x:=p2;show ZB y v<ZB anZ v;omega
    ·intro h;obtain⟨u1,u2,u3,u4,u5⟩:=o2.tt h;refine⟨u1.trans ax,u2.trans b7,(u3.trans bL).trans bp,(u4.trans cf).trans (t4.trans cO),λy hy=> ?_⟩
     rcases gH.1 hy.2 with q|q
     ·exact List.mem_append_left _ (t5 y ((hP y).2 ⟨hy.1,q⟩))
     ·exact List.mem_append_right _ (u5 y ⟨hy.1,q⟩)
    ·intro h;rcases o2.ff h with⟨u1,u2,u3⟩|⟨u1,u2,y,u3,u4⟩
     ·rw[bN]at u2;exact mn
     ·refine .inr ⟨u1,u2,y,⟨u3.1,by simp[u3.2]⟩,λq=> ?_⟩
      rcases fE.1 q with q|q
      ·have F:=((hP y).1 (o.all y q)).2;have h2:=ZR _ u3.2;omega
      ·exact u4 q
   ·rw[iQ cg];have di:g.1=false:=by simpa using cg
    have G5:0<=xs.length*b:=iz _;refine⟨new,RD,λy hy=> ?_,o.nd,o.lex,λh=>absurd h cg,λh=> ?_,Yu,bn,J⟩
    ·obtain⟨a1,a2⟩:=(hP y).1 (o.all y hy);exact⟨a1,by simp[a2]⟩
    ·rcases o.ff h with⟨u1,u2,u3⟩|⟨u1,u2,y,u3,u4⟩
     ·rw[b6]at u2;exact mn
     ·obtain⟨a1,a2⟩:=(hP y).1 u3;exact .inr ⟨u1,u2,y,⟨a1,by simp[a2]⟩,u4⟩
  ·rw[iQ c];have c':(Zp K (Zb K v (Zu x) s)).1=false:=qT;have bp:(Zp K (Zb K v (Zu x) s)).2.marked=s.marked:=Db vq c3 hn.no;obtain⟨s3,Yh,ax,b7,bL,bN,cd,cf⟩:∃s3:SS,Rz s.ZF.length (Zp K (Zb K v (Zu x) s)).2=s3/\s3.left=s.left/\s3.ZF=s.ZF/\s3.marked=(Zp K (Zb K v (Zu x) s)).2.marked/\s3.nodes=s.nodes/\s3.Zx=s.Zx/\s3.ending=s.ending:=⟨_,ab3 hR,rfl,rfl,rfl,b6,cN,cO⟩;rw[Yh];have cK:U9 K s3:=hn.same ax (bL.trans bp);obtain⟨cu,o2⟩:=ih cK ax TS cM;have PG:=o2.Zx;have bz:=o2.lo;have br:=o2.bd;have bO:=o2.hi;rw[bN]at bz br bO;rw[cd]at PG;have dc:∀y,PB K s.left y->ZB y v≠x:=λy hy q=>c (c2 y hy.low (cL y hy q) hy.all).1
   refine⟨cu,PG,λy hy=>⟨(o2.all y hy).1,by simp[(o2.all y hy).2]⟩,o2.nd,o2.lex,λh=> ?_,λh=> ?_,bz,bO,J⟩
   ·obtain⟨u1,u2,u3,u4,u5⟩:=o2.tt h;refine⟨u1.trans ax,u2.trans b7,(u3.trans bL).trans bp,u4.trans cf,λy hy=> ?_⟩
    rcases gH.1 hy.2 with q|q
    ·exact absurd q (dc y hy.1)
    ·exact u5 y ⟨hy.1,q⟩
   ·rcases o2.ff h with⟨u1,u2,u3⟩|⟨u1,u2,y,u3,u4⟩
    ·rw[bN]at u2;exact mn
    ·exact .inr ⟨u1,u2,y,⟨u3.1,by simp[u3.2]⟩,u4⟩
def pg{P:Prop}(h:P:=by
 exact .inr ⟨k+1,by simpa using a1,by rw[a2];congr 1;omega,a3⟩):P:=h
def lM{P:Prop}(h:P:=by
 rcases h2 h with q|⟨k,a1,a2,a3⟩
 ·exact .inl q
 ·exact pg):P:=h
theorem aca:∀(l:List Nat) (i:Nat) (r:Int×Int),((Q3 i l r).1<0->r.1<0/\∀k,k<l.length->Yd (l.getD k 0)=true)/\(0<=(Q3 i l r).1->Q3 i l r=r\/∃k,k<l.length/\(Q3 i l r).1=((i+k:Nat):Int)/\Yd (l.getD k 0)=false)
 |[],i,r=>⟨λh=>⟨h,λk I=>by simp at I⟩,λ_=>.inl rfl⟩
 |D::l,i,r=>by
  rw[Q3];obtain⟨F,h2⟩:=aca l (i+1) (if Yd D then r else if r.1<0\/(VC D:Int)<r.2 then((i:Int),(VC D:Int))else r)
  by_cases c:Yd D=true
  ·rw[iR c]at F h2⊢;refine⟨λh=>⟨(F h).1,λk I=> ?_⟩,λh=> ?_⟩
   ·cases k with
    |zero=>exact c
    |succ k=>exact(F h).2 k qz
   ·exact lM
  ·rw[iQ c]at F h2⊢;have c':Yd D=false:=qT;by_cases c2:r.1<0\/(VC D:Int)<r.2
   ·rw[iR c2]at F h2⊢;refine⟨λh=> ?_,λh=> ?_⟩
    ·have:=(F h).1;simp only[]at this;omega
    ·rcases h2 h with q|⟨k,a1,a2,a3⟩
     ·exact .inr ⟨0,pG,by rw[q];rfl,c'⟩
     ·exact pg
   ·rw[iQ c2]at F h2⊢;refine⟨λh=> ?_,λh=> ?_⟩
    ·have:=(F h).1;omega
    ·exact lM
theorem Aa (K:SK)(s:SS):(R7 K s<0->∀i,i<s.left.length->Yd (s.left.getD i 0)=true)/\(0<=R7 K s->R7 K s<s.left.length/\Yd (s.left.getD (R7 K s).toNat 0)=false/\(K.order≠1->∀i,i<(R7 K s).toNat->Yd (s.left.getD i 0)=true)):=by
 unfold R7;by_cases c:K.order=1
 ·rw[iR c];obtain⟨F,h2⟩:=aca s.left 0 (-1,0);refine⟨λh=>(F h).2,λh=> ?_⟩
  rcases h2 h with q|⟨k,a1,a2,a3⟩
  ·rw[q]at h;simp at h
  ·rw[ik]at a2;rw[a2];exact⟨J,by simpa using a3,λq=>absurd c q⟩
 ·rw[iQ c]
  cases e:s.left.findIdx? (λD=> !Yd D)with
  |none=>
   simp only[];rw[aS]at e;refine⟨λ_ i hi=> ?_,λh=>J⟩
   have:=e (s.left.getD i 0) (by rw[aN,aZ hi];simp);simpa using this
  |some i=>
   simp only[];obtain⟨F,h2,h3⟩:=aG.1 e;refine⟨λh=>J,λ_=>⟨J,?_,λ_ k I=> ?_⟩⟩
   ·have:(i:Int).toNat=i:=J;rw[this,aN,aZ F];simpa using h2
   ·have aC:k<i:=J;have:=h3 k aC;rw[aN,aZ J];simpa using this
theorem ak7 {s:SS}(h:∀i,i<s.left.length->Yd (s.left.getD i 0)=true):XG s=0:=by
 unfold XG;rw[List.countP_eq_zero];intro D hD;obtain⟨i,hi,rfl⟩:=cj.1 hD;have:=h i hi;rw[aN,aZ hi]at this;simpa using this
theorem ak8 {K:SK}(hK:YV K){s:SS}(hn:U9 K s)(h:∀i,i<s.left.length->Yd (s.left.getD i 0)=true):∀x,PB K s.left x↔x=s.Z7:=by
 have hs:=hn.ok;have Yv:s.Z7.length=s.left.length:=by simp[SS.Z7]
 have YG:∀i,i<s.left.length->s.Z7.getD i 0=WE (s.left.getD i 0):=λi hi=>by
  unfold SS.Z7;rw[aN,dR,aN,aZ hi];rfl
 intro x;constructor
 ·intro hx;apply eJ (by rw[hx.fits.len,Yv]);intro i F h2;have hi:i<s.left.length:=by rw[<-hx.fits.len];exact F
  have:=hx.fits.one hs hK hx.low (v:=(i:Int)) ⟨J,J⟩ (h i hi);have e1:ZB x (i:Int)=x[i]:=by unfold ZB;rw[aN,dJ,aZ F];rfl
  have e2:=YG i hi;rw[aN,aZ h2]at e2;rw[<-e1,this];exact e2.symm
 ·rintro rfl;have hb:∀i,i<s.left.length->-1000<=WE (s.left.getD i 0)/\Xp (s.left.getD i 0) (WE (s.left.getD i 0))=true:=λi hi=>by
   obtain⟨a,b,c⟩:=Fm (hs.lt hK i) (h i hi);refine⟨a,?_⟩;rw[abN (hs.lt hK i) (h i hi) a];simp
  refine⟨λy hy=> ?_,⟨Yv,λi hi=>by rw[YG i hi];exact(hb i hi).2⟩,λc hc=> ?_⟩
  ·obtain⟨i,hi,rfl⟩:=cj.1 hy;have XB:i<s.left.length:=by rw[<-Yv];exact hi
   have e2:=YG i XB;rw[aN,aZ hi]at e2;have e3:s.Z7[i]=WE (s.left.getD i 0):=e2;rw[e3];exact(hb i XB).1
  ·obtain⟨i,hi,rfl⟩:=cj.1 hc;have bf:K.cons[i]?=some K.cons[i]:=aZ hi;refine hn.fix.asked hK hs bf (hn.un (by rw[hs.ml];exact hi)) (λv hv=> ?_)
   have bl:=R6 (hK.cons _ hc) v ((hK.cv i _ bf v).1 hv);exact h v.toNat sD
theorem Fj {K:SK}(hK:YV K):∀(n:Nat) {s:SS},U9 K s->XG s<n->∃new,Ab K s (PB K s.left) (XG s*Qn s.left+1) (Yy K n s) new
 |0,s,_,h=>J
 |n+1,s,hn,aA=>by
  have hs:=hn.ok;rw[Yy];by_cases c:K.XS<=s.nodes
  ·rw[iR c];refine⟨[],pG,(λx hx=>qA),fY,λ_=>dK,(λh=>rN),λ_=>.inl ⟨rfl,?_,c⟩,iv _,λh=>h,?_⟩
   ·have:0<=XG s*Qn s.left:=iz _;simp only[];omega
   ·simp only[];omega
  ·rw[iQ c];simp only[];obtain⟨t,ht,tl,tt,tm,tn,ts,te⟩:∃t:SS,({s with nodes:=s.nodes+1}:SS)=t/\t.left=s.left/\t.ZF=s.ZF/\t.marked=s.marked/\t.nodes=s.nodes+1/\t.Zx=s.Zx/\t.ending=s.ending:=⟨_,rfl,rfl,rfl,rfl,rfl,rfl,rfl⟩;rw[ht];have cA:U9 K t:=hn.same tl tm;obtain⟨n1,n2⟩:=Aa K t;generalize hv:R7 K t=v at *;by_cases cv:v<0
   ·rw[iR cv];have bg:=n1 cv;have bT:=ak8 hK cA bg;rw[tl]at bT bg;have h0:XG s=0:=ak7 bg;rw[h0,Nat.zero_mul];unfold K6;by_cases cs:t.Zx.length=100000
    ·rw[iR cs];refine⟨[],by simp[ts],(λx hx=>qA),fY,λ_=>dK,(λh=>rN),λ_=>.inr ⟨rfl,cs,t.Z7,(bT _).2 rfl,pG⟩,?_,λh=> ?_,?_⟩
     ·simp only[];omega
     ·simp only[];omega
     ·simp only[];omega
    ·rw[iQ cs];refine⟨[t.Z7],by simp[ts],λx hx=>(bT x).2 rK,pG,λ_=>List.pairwise_singleton _ _,λ_=>⟨tl,tt,tm,te,λx hx=>by rw[(bT x).1 hx];simp⟩,(λh=>rN),?_,λh=> ?_,?_⟩
     ·simp only[];omega
     ·simp only[];omega
     ·simp only[];omega
   ·rw[iQ cv];obtain⟨v1,v2,v3⟩:=n2 J;have bl:YX K.vars.length v:=⟨J,by rw[<-cA.ok.ll];exact v1⟩;have hl:v.toNat<s.left.length:=by rw[<-tl];omega
    obtain⟨M,m1,m2⟩:=ab5 (f:=VC) hl;have df:∀i,i<s.left.length->0<VC (s.left.getD i 0):=λi hi=>by
     rw[Dj];have h0:=hs.ne i hi;obtain⟨p,hp⟩:=aH h0;have:=Mv hp (hs.lt hK i);exact List.length_pos_of_mem (K7.2 ⟨p,hp,rfl,J⟩)
    have dh:0<M:=by
     have hp:0<Qn s.left:=ab6 df;have:Qn s.left=M*VC (s.left.getD v.toNat 0):=m1;rw[this]at hp;exact Nat.pos_of_mul_pos_right hp
    rw[tl]at v2 v3;obtain⟨new,o⟩:=ak6 hK bl (e:=Yy K n) (b:=(XG s-1)*M+1) (N:=XG s) (M:=M) (l0:=s.left) (λD hD=>Nat.le_of_eq (m2 D hD)) (iw _) v2 v3
     (λs2 bJ bC bh=>by
      obtain⟨new,o⟩:=Fj hK n bJ J;have hb:XG s2*Qn s2.left+1<=(XG s-1)*M+1:=Nat.succ_le_succ (Nat.mul_le_mul J bh);refine⟨new,o.Zx,o.all,o.nd,o.lex,o.tt,λh=> ?_,o.lo,o.hi,by have:=o.bd;omega⟩
      rcases o.ff h with⟨u1,u2,u3⟩|u
      ·exact mn
      ·exact .inr u)
     (WQ (s.left.getD v.toNat 0)) cA tl (λx hx=>hx) (Ap _)
    have hL:t.L v=s.left.getD v.toNat 0:=by unfold SS.L;rw[tl]
    rw[hL];have aY:(WQ (s.left.getD v.toNat 0)).length=VC (s.left.getD v.toNat 0):=(Dj _).symm;rw[aY]at o;have Z:0<XG s:=by
     unfold XG;rw[List.countP_pos_iff];exact⟨s.left.getD v.toNat 0,by rw[aN,aZ hl];simp,by rw[v2];rfl⟩
    have hB:1+VC (s.left.getD v.toNat 0)*((XG s-1)*M+1)<=XG s*Qn s.left+1:=by
     have hp:Qn s.left=M*VC (s.left.getD v.toNat 0):=m1;rw[hp];generalize VC (s.left.getD v.toNat 0)=d;obtain⟨k,I⟩:∃k,XG s=k+1:=⟨XG s-1,J⟩;rw[I,Nat.add_sub_cancel,Nat.mul_add,iy,Nat.add_mul,Nat.one_mul];have e1:d*(k*M)=k*(M*d):=by rw[Nat.mul_comm d,gJ]
     have e2:d<=M*d:=Nat.le_mul_of_pos_left d dh;omega
    have hP:∀x,(PB K s.left x/\ZB x v∈WQ (s.left.getD v.toNat 0))↔PB K s.left x:=λx=>by
     refine⟨λh=>h.1,λh=>⟨h,?_⟩⟩
     rw[JE (hs.lt hK v.toNat)];have hb:=h.fits.bd hs hK h.low v.toNat;exact⟨hb.1,hb.2,h.fits.has v.toNat hl⟩
    have bU:=o.lo;have cD:=o.bd;have bP:=o.hi;have aa:=o.Zx;rw[tn]at bU cD bP;rw[ts]at aa;refine⟨new,aa,λx hx=>(o.all x hx).1,o.nd,o.lex,λh=> ?_,λh=> ?_,J,λh=>bP J,J⟩
    ·obtain⟨u1,u2,u3,u4,u5⟩:=o.tt h;exact⟨u1.trans tl,u2.trans tt,u3.trans tm,u4.trans te,λx hx=>u5 x ((hP x).2 hx)⟩
    ·rcases o.ff h with⟨u1,u2,u3⟩|⟨u1,u2,y,u3,u4⟩
     ·rw[tn]at u2;exact mn
     ·exact .inr ⟨u1,u2,y,u3.1,u4⟩
theorem acb:∀{vars:List Xx} {x:az},(∀v∈vars,-1000<=v.low/\v.low<=v.high/\v.high<=1000)->(VQ vars x=true↔(∀y∈x,-1000<=y)/\Rx (vars.map λv=>U' v.low v.high) x)
 |[],[],_=>⟨λ_=>⟨(λy hy=>by cases hy),rfl,λi hi=>by simp at hi⟩,λ_=>rfl⟩
 |[],y::x,_=>⟨λh=>by simp[VQ]at h,λh=>by have:=h.2.len;simp at this⟩
 |v::vs,[],_=>⟨λh=>by simp[VQ]at h,λh=>by have:=h.2.len;simp at this⟩
 |v::vs,y::x,h=>by
  have ih:=acb (vars:=vs) (x:=x) (λu hu=>h u rB)
  have hv:=h v pG;have key:-1000<=y->(Xp (U' v.low v.high) y=true↔v.low<=y/\y<=v.high):=λF=>by
   unfold Xp;rw[Ou _ _ hv.1];simp only[eC,ee];omega
  rw[VQ];unfold Ox;simp only[eC,ee];rw[ih];constructor
  ·rintro⟨⟨F,h2⟩,h3,h4⟩;refine⟨λanZ hz=> ?_,by simp[h4.len],λi hi=> ?_⟩
   ·rcases gH.1 hz with q|q
    ·omega
    ·exact h3 anZ q
   ·cases i with
    |zero=>exact(key J).2 ⟨F,h2⟩
    |succ i=>exact h4.has i rO
  ·rintro⟨F,h2⟩;have hy:=F y pG;refine⟨(key hy).1 (h2.has 0 pG),λanZ hz=>F anZ (by simp[hz]),by simpa using h2.len,λi hi=>h2.has (i+1) rO⟩
theorem acd (K:SK)(i:Nat)(v:Xx)(h:K.vars[i]?=some v):(Xj K).left.getD i 0=U' v.low v.high:=by
 simp only[Xj];rw[aN,dR,h];rfl
theorem zZ {K:SK}(hK:YV K):Y5 K (Xj K)/\OX K (Xj K):=by
 refine⟨⟨by simp[Xj],by simp[Xj],λi hi=> ?_,λi v hv j hj=> ?_⟩,λi c hc hm=> ?_⟩
 ·have XB:i<K.vars.length:=by simpa[Xj]using hi
  have hv:K.vars[i]?=some K.vars[i]:=aZ XB;rw[acd K i _ hv];have hb:=hK.vars _ (cq hv);intro e;have:(U' K.vars[i].low K.vars[i].high).testBit (K.vars[i].low+1000).toNat=true:=by
   rw[Ou _ _ hb.1];simp only[eC,ee];omega
  rw[e]at this;simp at this
 ·rw[acd K i v hv,Ou _ _ (hK.vars _ (cq hv)).1]at hj;simp only[eC,ee]at hj;exact hj
 ·simp only[Xj]at hm;rw[aN,dR,hc]at hm
  cases hm
def Jw (vars:List Xx):Nat:=Qn (vars.map λv=>U' v.low v.high)
theorem ak9 (s:SS):XG s<=s.left.length:=List.countP_le_length
structure ala (K:SK)(r:SS):Prop where
 FR:∀x∈r.Zx,Ut K.vars K.cons x=true
 nd:r.Zx.Nodup
 lex:K.order≠1->r.Zx.Pairwise Ac
 ends:(r.ending=0/\∀x,Ut K.vars K.cons x=true->x∈r.Zx)\/(r.ending=1/\K.XS<=r.nodes/\r.nodes<K.vars.length*Jw K.vars+1)\/(r.ending=2/\r.Zx.length=100000/\∃x,Ut K.vars K.cons x=true/\x∉r.Zx)
 lo:0<=r.nodes
 hi:0<=K.XS->r.nodes<=K.XS
 hn:K.XS<0->r.nodes=0
 bd:r.nodes<=K.vars.length*Jw K.vars+1
theorem ace {K:SK}(hK:YV K)(x:az):PB K (Xj K).left x↔Ut K.vars K.cons x=true:=by
 unfold Ut;rw[eC,acb hK.vars,eE];exact⟨λh=>⟨⟨h.low,h.fits⟩,h.all⟩,λh=>⟨h.1.1,h.1.2,h.2⟩⟩
theorem alb {K:SK}(hK:YV K):ala K (TQ K):=by
 obtain⟨hs,hF⟩:=zZ hK;obtain⟨c1,c2,c3,c4⟩:=Hp hK hs hF;have cP:∀x,Ut K.vars K.cons x=true->(Zp K (Xj K)).1=true/\PB K (Zp K (Xj K)).2.left x:=λx hx=>by
  have h:=(ace hK x).2 hx;obtain⟨a,b⟩:=c2 x h.low h.fits h.all;exact⟨a,h.low,b,h.all⟩
 have cQ:∀x,PB K (Zp K (Xj K)).2.left x->Ut K.vars K.cons x=true:=λx h=>by
  refine(ace hK x).1 ⟨h.low,⟨by rw[h.fits.len,c1.ll],λi hi=>c1.sub i _ (h.fits.has i (by rw[c1.ll];exact hi))⟩,h.all⟩
 have n0:(Zp K (Xj K)).2.nodes=0:=c1.nodes;have s0:(Zp K (Xj K)).2.Zx=[]:=c1.Zx;have e0:(Zp K (Xj K)).2.ending=0:=c1.ending;unfold TQ;simp only[];by_cases c:(Zp K (Xj K)).1=true
 ·rw[iR c];have hn:U9 K (Zp K (Xj K)).2:=⟨c1.ok hs,c4 c,c3⟩;obtain⟨new,o⟩:=Fj hK _ hn (eT _);have hB:XG (Zp K (Xj K)).2*Qn (Zp K (Xj K)).2.left+1<=K.vars.length*Jw K.vars+1:=by
   refine Nat.succ_le_succ (Nat.mul_le_mul ?_ (c1.ab9 hK hs));exact gZ (ak9 _) (by rw[(c1.ok hs).ll];exact iw _)
  have aO:K.XS<0->(Yy K (XG (Zp K (Xj K)).2+1) (Zp K (Xj K)).2).2.nodes=0:=λh=>by
   rw[Yy,iR J];exact n0
  generalize Yy K (XG (Zp K (Xj K)).2+1) (Zp K (Xj K)).2=r at *;have aa:=o.Zx;have bU:=o.lo;have cD:=o.bd;have bP:=o.hi;rw[s0,fF]at aa;rw[n0]at bU cD bP;refine⟨λx hx=>cQ x (o.all x (by rw[<-aa];exact hx)),by rw[aa];exact o.nd,λh=>by rw[aa];exact o.lex h,?_,bU,bP,λh=> ?_,J⟩
  ·cases hr:r.1 with
   |true=>
    obtain⟨u1,u2,u3,u4,u5⟩:=o.tt hr;exact .inl ⟨u4.trans e0,λx hx=>by rw[aa];exact u5 x (cP x hx).2⟩
   |false=>
    rcases o.ff hr with⟨u1,u2,u3⟩|⟨u1,u2,y,u3,u4⟩
    ·rw[n0]at u2;exact .inr (.inl ⟨u1,u3,J⟩)
    ·exact .inr (.inr ⟨u1,u2,y,cQ y u3,by rw[aa];exact u4⟩)
  ·exact aO h
 ·rw[iQ c];refine⟨by rw[s0];exact(λx hx=>qA),by rw[s0];exact fY,λ_=>by rw[s0];exact dK,.inl ⟨e0,λx hx=>absurd (cP x hx).1 c⟩,J,J,λ_=>n0,?_⟩
  rw[n0];have:(0:Int)<=(K.vars.length:Int)*(Jw K.vars:Int):=fV (dw _) (dw _);omega
variable {w0 w w' aW:A}
def dL (D:Nat):ay:=(Zh D).toList
theorem SQ (D:Nat):Zh D=(dL D).toArray:=by simp[dL]
theorem QK (D:Nat):(dL D).length=32:=by have:=Sq D;simpa[dL]using this
theorem zY (D:Nat):∀v∈dL D,v.oneCell'=true:=λv hv=>(Array.all_eq_true_iff_forall_mem.1 (Lh D)) v (by simpa[dL]using hv)
def SN (p:Int×Nat):ay:=Y p.1::dL p.2
theorem Da (p:Int×Nat):(SN p).length=33:=by simp[SN,QK]
theorem acf (p:Int×Nat):∀v∈SN p,v.oneCell'=true:=λv hv=>by
 rcases gH.1 hv with e|e
 ·subst e;rfl
 ·exact zY _ v e
structure SL where
 b:Nat
 gl:Nat
 gv:Nat
 gf:Nat
 gm:Nat
 gc:Nat
 gu:Nat
 bc:Nat
 B:Nat
 vV:aF
 vC:aF
 cs:List X7
 cv:ay
 us:ay
def SL.own (X:SL):List Nat:=[X.b,X.gl,X.gv,X.gf,X.gm]
def Q2 (X:SL)(w:A)(v:aF)(l:az):Prop:=(l=[]/\∃a c,v=.slice a 0 c)\/∃(g cap:Nat) (cells:Array aF),v=aj g l.length cap/\w.heap[g]?=some (.cells cells 3 (0,0))/\(∀(j:Nat) (x:Int),l[j]?=some x->cells[j]?=some (Y x))/\g∉X.own/\l.length<=cap
def Jv (w0:A)(X:SL)(w:A)(v:aF)(l:az):Prop:=w.ownsRow w0.heap.size 3 1 v l.length (l.map (Value.int .i64))/\(∀g,v.ownBlock=some g->g∉X.own)/\v≠af
def Ho (rows:ay):Prop:=∀(i j:Nat) (v u:aF) (g:Nat),rows[i]?=some v->rows[j]?=some u->v.ownBlock=some g->u.ownBlock=some g->i=j
theorem Jv.kept {w0 w w':A}{X:SL}{v:aF}{l:az}(h:Jv w0 X w v l)(I:∀k cells,w.heap[k]?=some (.cells cells 3 (0,0))->k∉X.own->w'.heap[k]?=some (.cells cells 3 (0,0))):Jv w0 X w' v l:=by
 refine⟨⟨h.1.1,?_⟩,h.2⟩;rcases h.1.2 with q|⟨g,cap,cur,q1,q2,q3,q4⟩
 ·exact .inl q
 ·exact .inr ⟨g,cap,cur,q1,q2,I g cur q3 (h.2.1 g tO),q4⟩
def Nk (w:A)(X:SL)(n:Nat)(left:List Nat):Prop:=∃cells:Array aF,w.heap[X.gl]?=some (.cells cells 161 (0,0))/\cells.size=n*32/\left.length=n/\∀i D,left[i]?=some D->∀j v,(dL D)[j]?=some v->cells[i*32+j]?=some v
def Hn (X:SL)(K:SK)(s:SS)(vT vS:aF):Array aF:=#[.pointer (some (O X.bc 1)),Y K.order,.bool K.VO,Y K.XS,aj X.gl K.vars.length K.vars.length,aj X.gv K.vars.length K.vars.length,aj X.gf K.vars.length K.vars.length,vT,aj X.gc K.cons.length K.cons.length,aj X.gu K.vars.length K.vars.length,aj X.gm K.cons.length K.cons.length,vS,Y s.ending,Y s.nodes]
structure ZN (w0 w:A)(X:SL)(K:SK)(s:SS)(vT vS:aF):Prop where
 g0:aB w0 w
 low:∀k∈X.own,w0.heap.size<=k
 nd:X.own.Nodup
 U8:w.heap[X.b]?=some (.cells (Hn X K s vT vS) 106 (0,0))
 left:Nk w X K.vars.length s.left
 Z7:w.heap[X.gv]?=some (.cells (s.left.map λD=>Y (WE D)).toArray 3 (0,0))
 Rv:w.heap[X.gf]?=some (.cells (s.left.map λD=>Value.bool (Yd D)).toArray 4 (0,0))
 mark:w.heap[X.gm]?=some (.cells (s.marked.map Value.bool).toArray 4 (0,0))
 ZF:w.ownsRow w0.heap.size 250 33 vT s.ZF.length (s.ZF.flatMap SN)
 Nj:∀g,vT.ownBlock=some g->g∉X.own
 Zx:∃rows:ay,w.ownsRow w0.heap.size 33 1 vS s.Zx.length rows/\(∀i v,rows[i]?=some v->Jv w0 X w v (s.Zx.getD i []))/\Ho rows/\(rows=[]->vS=af)
 OW:∀g,vS.ownBlock=some g->g∉X.own/\g≠X.gc/\g≠X.gu
 Ru:w.heap[X.gc]?=some (.cells X.cv.toArray 33 (0,0))
 PC:X.cv.length=K.cons.length
 Ni:∀i v,X.cv[i]?=some v->Q2 X w v (K.YP.getD i [])
 Q1:w.heap[X.gu]?=some (.cells X.us.toArray 33 (0,0))
 Nh:X.us.length=K.vars.length
 usr:∀i v,X.us[i]?=some v->Q2 X w v (K.Wm.getD i [])
 cap:X.gc∉X.own/\X.gu∉X.own
 PY:PQ w0 X.bc X.B X.vV X.vC K.vars X.cs
 Ng:X.cs.map (·.c)=K.cons
 Ms:VP w0
structure Zy (X:SL)(w w':A):Prop where
 size:w.heap.size<=w'.heap.size
 block:∀k o,w.heap[k]?=some o->k∉X.own->(∀c f,o≠.cells c 250 f)->(∀c f,o≠.cells c 33 f)->w'.heap[k]?=some o
theorem Zy.refl (X:SL)(w:A):Zy X w w:=⟨iw _,λ_ _ h _ _ _=>h⟩
theorem Zy.trans {X:SL}(h:Zy X w w')(k:Zy X w' aW):Zy X w aW:=⟨gZ h.size k.size,λi o q1 q2 q3 q4=>k.block i o (h.block i o q1 q2 q3 q4) q2 q3 q4⟩
theorem YY {w:A}{k:Nat}{o:Obj}(h:w.heap[k]?=some o):k<w.heap.size:=(aM.1 h).1
theorem Zy.grown {X:SL}(z:aB w w'):Zy X w w':=⟨z.size,λk o h _ _ _=>(z.block k (YY h) pG).trans h⟩
theorem Zy.UZ {X:SL}{g:Nat}(z:w.grownBy w' (some g))(h:g∈X.own):Zy X w w':=⟨z.size,λk o q1 q2 _ _=>(z.block k (YY q1) (λe=>by cases e;exact q2 h)).trans q1⟩
theorem Zy.fresh {X:SL}{g:Nat}(h:Zy X w w')(z:w'.grownBy aW (some g))(hn:w.heap.size<=g):Zy X w aW:=⟨gZ h.size z.size,λk o q1 q2 q3 q4=>(z.block k (dH (YY q1) h.size) (λe=>by cases e;have:=YY q1;omega)).trans (h.block k o q1 q2 q3 q4)⟩
theorem Q2.kept {X:SL}{v:aF}{l:az}(h:Q2 X w v l)(I:∀k cells,w.heap[k]?=some (.cells cells 3 (0,0))->k∉X.own->w'.heap[k]?=some (.cells cells 3 (0,0))):Q2 X w' v l:=by
 rcases h with h|⟨g,cap,cells,F,h2,h3,h4,h5⟩
 ·exact .inl h
 ·exact .inr ⟨g,cap,cells,F,I g cells h2 h4,h3,h4,h5⟩
theorem C9 (l:az):l.flatMap QE=l.map (Value.int .i64):=by
 induction l with
 |nil=>rfl
 |cons x l ih=>rw[dO,ih];rfl
def Kp (anV:List Nat)(w w':A):Prop:=∀k o,w.heap[k]?=some o->k∉anV->w'.heap[k]?=some o
theorem Kp.refl (anV:List Nat)(w:A):Kp anV w w:=λ_ _ h _=>h
theorem Kp.grown {anV:List Nat}(h:Kp anV w w')(z:aB w' aW):Kp anV w aW:=λk o F h2=>(z.block k (YY (h k o F h2)) pG).trans (h k o F h2)
theorem Kp.UZ {anV:List Nat}{g:Nat}(h:Kp anV w w')(z:w'.grownBy aW (some g))(hm:g∈anV):Kp anV w aW:=λk o F h2=>(z.block k (YY (h k o F h2)) (λe=>by cases e;exact h2 hm)).trans (h k o F h2)
theorem Kp.drew {anV:List Nat}(h:Kp anV w w'):Kp anV w w'.drew:=h.grown (ZG _ _)
theorem Kp.set {anV:List Nat}{g i:Nat}{u:aF}(h:Kp anV w w')(hm:g∈anV):Kp anV w (w'.setCell (O g i) u):=h.UZ (ZC _ _ _ _) hm
theorem Kp.cell {anV:List Nat}{b i:Nat}{u:aF}(h:Kp anV w w')(hc:ak w b i u)(hn:b∉anV):w'.cell? (O b i)=some u:=by
 have hb:=World.block_lt_of_cell? w _ hc;have I:=h b _ (aP hb) hn;rw[<-hc];exact cJ (by rw[I];exact(aP hb).symm)
theorem Kp.range {anV:List Nat}{b o:Nat}{cs:ay}(h:Kp anV w w')(hc:w.rangeAt b o cs)(hn:b∉anV):w'.rangeAt b o cs:=λj u hu=>h.cell (hc j u hu) hn
theorem ZN.UZ {X:SL}{K:SK}{s s':SS}{vT vS:aF}(h:ZN w0 w X K s vT vS)(z:aB w0 w')(I:∀k o,w.heap[k]?=some o->k∉X.own->w'.heap[k]?=some o)(hr:w'.heap[X.b]?=some (.cells (Hn X K s' vT vS) 106 (0,0)))(hl:Nk w' X K.vars.length s'.left)(hv:w'.heap[X.gv]?=some (.cells (s'.left.map λD=>Y (WE D)).toArray 3 (0,0)))(hf:w'.heap[X.gf]?=some (.cells (s'.left.map λD=>Value.bool (Yd D)).toArray 4 (0,0)))(hm:w'.heap[X.gm]?=some (.cells (s'.marked.map Value.bool).toArray 4 (0,0)))(ht:s'.ZF=s.ZF)(hs:s'.Zx=s.Zx):ZN w0 w' X K s' vT vS:=by
 have ki:∀k cells,w.heap[k]?=some (.cells cells 3 (0,0))->k∉X.own->w'.heap[k]?=some (.cells cells 3 (0,0)):=λk c q1 q2=>I k _ q1 q2
 have keep:∀{B e anZ n:Nat} {v:aF} {xs:ay},w.ownsRow B e anZ v n xs->(∀g,v.ownBlock=some g->g∉X.own)->w'.ownsRow B e anZ v n xs:=λ{B e anZ n v xs} ho hn=>by
  refine⟨ho.1,?_⟩;rcases ho.2 with q|⟨g,cap,cur,q1,q2,q3,q4⟩
  ·exact .inl q
  ·exact .inr ⟨g,cap,cur,q1,q2,I g _ q3 (hn g tO),q4⟩
 refine⟨z,h.low,h.nd,hr,hl,hv,hf,hm,by rw[ht];exact keep h.ZF h.Nj,h.Nj,?_,h.OW,I _ _ h.Ru h.cap.1,h.PC,λi v q=>(h.Ni i v q).kept ki,I _ _ h.Q1 h.cap.2,h.Nh,λi v q=>(h.usr i v q).kept ki,h.cap,h.PY,h.Ng,h.Ms⟩
 obtain⟨rows,r1,r2,r3⟩:=h.Zx;rw[hs];exact⟨rows,keep r1 (λg q=>(h.OW g q).1),λi v q=>(r2 i v q).kept ki,r3⟩
theorem Nk.kept {X:SL}{n:Nat}{left:List Nat}(h:Nk w X n left)(I:∀o,w.heap[X.gl]?=some o->w'.heap[X.gl]?=some o):Nk w' X n left:=by
 obtain⟨cells,F,h2⟩:=h;exact⟨cells,I _ F,h2⟩
theorem ZN.grown {X:SL}{K:SK}{s:SS}{vT vS:aF}(h:ZN w0 w X K s vT vS)(z:aB w w'):ZN w0 w' X K s vT vS:=by
 have I:∀k o,w.heap[k]?=some o->w'.heap[k]?=some o:=λk o q=>(z.block k (YY q) pG).trans q
 exact h.UZ (h.g0.trans z) (λk o q _=>I k o q) (I _ _ h.U8) (h.left.kept (I _)) (I _ _ h.Z7) (I _ _ h.Rv) (I _ _ h.mark) rfl rfl
theorem ZN.Fi {X:SL}{K:SK}{s:SS}{vT vS:aF}(h:ZN w0 w X K s vT vS){g:Nat}(z:w.grownBy w' (some g))(hm:g∈X.own):aB w0 w':=Ri h.g0 (h.low g hm) z
theorem ZN.set {X:SL}{K:SK}{s:SS}{vT vS:aF}(h:ZN w0 w X K s vT vS):PQ w X.bc X.B X.vV X.vC K.vars X.cs:=h.PY.grown h.g0
theorem ZN.db {X:SL}{K:SK}{s:SS}{vT vS:aF}(h:ZN w0 w X K s vT vS):VP w:=Hs h.Ms h.g0
theorem ZN.ll {X:SL}{K:SK}{s:SS}{vT vS:aF}(h:ZN w0 w X K s vT vS):s.left.length=K.vars.length:=by
 obtain⟨_,_,_,F,_⟩:=h.left;exact F
theorem ZN.f0 {X:SL}{K:SK}{s:SS}{vT vS:aF}(h:ZN w0 w X K s vT vS):w.cell? (ah X.b)=some (.pointer (some (O X.bc 1))):=Z0 h.U8 0 _ rfl
theorem ZN.f1 {X:SL}{K:SK}{s:SS}{vT vS:aF}(h:ZN w0 w X K s vT vS):w.cell? (O X.b 1)=some (Y K.order):=Z0 h.U8 1 _ rfl
theorem ZN.f2 {X:SL}{K:SK}{s:SS}{vT vS:aF}(h:ZN w0 w X K s vT vS):w.cell? (O X.b 2)=some (.bool K.VO):=Z0 h.U8 2 _ rfl
theorem ZN.f3 {X:SL}{K:SK}{s:SS}{vT vS:aF}(h:ZN w0 w X K s vT vS):w.cell? (O X.b 3)=some (Y K.XS):=Z0 h.U8 3 _ rfl
theorem ZN.f4 {X:SL}{K:SK}{s:SS}{vT vS:aF}(h:ZN w0 w X K s vT vS):w.cell? (O X.b 4)=some (aj X.gl K.vars.length K.vars.length):=Z0 h.U8 4 _ rfl
theorem ZN.f5 {X:SL}{K:SK}{s:SS}{vT vS:aF}(h:ZN w0 w X K s vT vS):w.cell? (O X.b 5)=some (aj X.gv K.vars.length K.vars.length):=Z0 h.U8 5 _ rfl
theorem ZN.f6 {X:SL}{K:SK}{s:SS}{vT vS:aF}(h:ZN w0 w X K s vT vS):w.cell? (O X.b 6)=some (aj X.gf K.vars.length K.vars.length):=Z0 h.U8 6 _ rfl
theorem ZN.f7 {X:SL}{K:SK}{s:SS}{vT vS:aF}(h:ZN w0 w X K s vT vS):w.cell? (O X.b 7)=some (vT):=Z0 h.U8 7 _ rfl
theorem ZN.f8 {X:SL}{K:SK}{s:SS}{vT vS:aF}(h:ZN w0 w X K s vT vS):w.cell? (O X.b 8)=some (aj X.gc K.cons.length K.cons.length):=Z0 h.U8 8 _ rfl
theorem ZN.f9 {X:SL}{K:SK}{s:SS}{vT vS:aF}(h:ZN w0 w X K s vT vS):w.cell? (O X.b 9)=some (aj X.gu K.vars.length K.vars.length):=Z0 h.U8 9 _ rfl
theorem ZN.f10 {X:SL}{K:SK}{s:SS}{vT vS:aF}(h:ZN w0 w X K s vT vS):w.cell? (O X.b 10)=some (aj X.gm K.cons.length K.cons.length):=Z0 h.U8 10 _ rfl
theorem ZN.f11 {X:SL}{K:SK}{s:SS}{vT vS:aF}(h:ZN w0 w X K s vT vS):w.cell? (O X.b 11)=some (vS):=Z0 h.U8 11 _ rfl
theorem ZN.f12 {X:SL}{K:SK}{s:SS}{vT vS:aF}(h:ZN w0 w X K s vT vS):w.cell? (O X.b 12)=some (Y s.ending):=Z0 h.U8 12 _ rfl
theorem ZN.f13 {X:SL}{K:SK}{s:SS}{vT vS:aF}(h:ZN w0 w X K s vT vS):w.cell? (O X.b 13)=some (Y s.nodes):=Z0 h.U8 13 _ rfl
theorem ZN.fz {X:SL}{K:SK}{s:SS}{vT vS:aF}(h:ZN w0 w X K s vT vS)(i:Nat):w.frozen? (O X.b i)=false:=Zz h.U8 i
theorem ZN.lt {X:SL}{K:SK}{s:SS}{vT vS:aF}(h:ZN w0 w X K s vT vS):X.b<w.heap.size/\X.gl<w.heap.size/\X.gv<w.heap.size/\X.gf<w.heap.size/\X.gm<w.heap.size:=by
 obtain⟨c,hc,_⟩:=h.left;exact⟨YY h.U8,YY hc,YY h.Z7,YY h.Rv,YY h.mark⟩
theorem ZN.QJ {X:SL}{K:SK}{s:SS}{vT vS:aF}(h:ZN w0 w X K s vT vS){k:Nat}(I:w.heap.size<=k):k∉X.own:=λq=>by
 obtain⟨F,h2,h3,h4,h5⟩:=h.lt;simp only[SL.own,gH,eQ,iM]at q;rcases q with e|e|e|e|e<;>omega
theorem ZN.OQ {X:SL}{K:SK}{s:SS}{vT vS:aF}(h:ZN w0 w X K s vT vS){v:Int}(hv:YX K.vars.length v):w.rangeAt X.gl (v.toNat*32) (dL (s.L v))/\w.there X.gl (v.toNat*32) 32:=by
 have hl:=h.ll;have hi:v.toNat<s.left.length:=rC;obtain⟨cells,F,h2,h3,h4⟩:=h.left;have hD:s.left[v.toNat]?=some (s.L v):=by unfold SS.L;rw[aN,aZ hi];rfl
 refine⟨λj u hu=>Z0 F _ _ (h4 _ _ hD j u hu),λj hj=>⟨?_,Zz F _⟩⟩
 have:v.toNat*32+j<cells.size:=by rw[h2];omega
 rw[Z0 F _ _ (aP this)];rfl
theorem ZN.K0 {X:SL}{K:SK}{s:SS}{vT vS:aF}(h:ZN w0 w X K s vT vS){v:Int}(hv:YX K.vars.length v):w.cell? (O X.gv v.toNat)=some (Y (s.val v))/\w.cell? (O X.gf v.toNat)=some (.bool (s.fixed v))/\w.frozen? (O X.gv v.toNat)=false/\w.frozen? (O X.gf v.toNat)=false:=by
 have hl:=h.ll;have hi:v.toNat<s.left.length:=rC;have hD:s.left[v.toNat]?=some (s.L v):=by unfold SS.L;rw[aN,aZ hi];rfl
 refine⟨Z0 h.Z7 _ _ ?_,Z0 h.Rv _ _ ?_,Zz h.Z7 _,Zz h.Rv _⟩
 ·simp[hD,SS.val]
 ·simp[hD,SS.fixed]
theorem Fh {b:Nat}{t:TypeId}:∀(vs:ay) (o:Nat) (w:A) (cells:Array aF),w.heap[b]?=some (.cells cells t (0,0))->∃bV,(w.setCells b o vs).heap[b]?=some (.cells bV t (0,0))/\bV.size=cells.size/\(∀j,j<vs.length->o+j<cells.size->bV[o+j]?=vs[j]?)/\(∀k,k<o\/o+vs.length<=k->bV[k]?=cells[k]?)
 |[],o,w,cells,h=>⟨cells,h,rfl,λj hj=>by simp at hj,λ_ _=>rfl⟩
 |v::vs,o,w,cells,h=>by
  obtain⟨c,F,h2,h3,h4⟩:=Fh vs (o+1) (w.setCell (O b o) v) (cells.setIfInBounds o v) (eo w b o cells t v h);refine⟨c,F,by rw[h2];simp,λj hj hs=> ?_,λk I=> ?_⟩
  ·cases j with
   |zero=>
    rw[h4 (o+0) (.inl J)];simp at hs⊢;simp[hs]
   |succ j=>
    have:=h3 j (by simpa using hj) pI;rw[show o+(j+1)=o+1+j by omega,this];simp
  ·have V3:k≠o:=uS;rw[h4 k uS,aI,iQ (λe=>V3 e.symm)]
theorem Qm (w:A)(b o:Nat)(vs:ay):w.grownBy (w.setCells b o vs) (some b):=by
 induction vs generalizing w o with
 |nil=>exact WW w _
 |cons v vs ih=>exact(ZC w b o v).trans (ih _ _)
theorem Nk.store {X:SL}{n:Nat}{left:List Nat}(h:Nk w X n left){i:Nat}(hi:i<n)(D:Nat):Nk (w.setCells X.gl (i*32) (dL D)) X n (left.set i D):=by
 obtain⟨cells,F,h2,h3,h4⟩:=h;obtain⟨c,c1,c2,c3,c4⟩:=Fh (dL D) (i*32) w cells F;rw[QK]at c3 c4;refine⟨c,c1,c2.trans h2,qN,λk E I j v hj=> ?_⟩
 have cr:j<32:=by have:=(aU.1 hj).1;rw[QK]at this;exact this
 rw[dS]at I;split at I
 ·rename_i e;subst e;split at I
  ·have:D=E:=qz;subst this;rw[c3 j cr (by rw[h2];omega)];exact hj
  ·cases I
 ·rename_i e;rw[c4 (k*32+j) J];exact h4 k E I j v hj
theorem Z5 {α:Type}(l:List α)(i:Nat)(x:α):l.toArray.setIfInBounds i x=(l.set i x).toArray:=pG
theorem Z4 {α:Type}(a:α)(l:List α)(b:α):(a::l).set 0 b=b::l:=rfl
theorem Z2 {α:Type}(a:α)(l:List α)(n:Nat)(b:α):(a::l).set (n+1) b=a::l.set n b:=rfl
variable {X:SL}{K:SK}{s:SS}{vT vS:aF}
theorem acg (D:Nat):(Tryz.prog.info? 161).map (·.size)=some (dL D).length:=by rw[QK];exact DG
theorem Rt:Tryz.prog.underlying 161=some (.array 32 159):=pH
theorem Nf (h:ZN w0 w X K s vT vS):X.b≠X.gl/\X.b≠X.gv/\X.b≠X.gf/\X.b≠X.gm/\X.gl≠X.gv/\X.gl≠X.gf/\X.gl≠X.gm/\X.gv≠X.gf/\X.gv≠X.gm/\X.gf≠X.gm:=by
 have:=h.nd;simp only[SL.own,List.nodup_cons,gH,eQ,iM,not_or,fY,iI,not_false_eq_true]at this;obtain⟨⟨a1,a2,a3,a4⟩,⟨a5,a6,a7⟩,⟨a8,a9⟩,aT⟩:=this;exact⟨a1,a2,a3,a4,a5,a6,a7,a8,a9,aT⟩
theorem Rn:X.b∈X.own:=by simp[SL.own]
theorem Fg:X.gl∈X.own:=by simp[SL.own]
theorem C8:X.gv∈X.own:=by simp[SL.own]
theorem C7:X.gf∈X.own:=by simp[SL.own]
theorem KZ:X.gm∈X.own:=by simp[SL.own]
theorem ZN.alc (h:ZN w0 w X K s vT vS){i:Nat}(hi:i<K.vars.length){D:Nat}{w1:A}(z:(w.setCells X.gl (i*32) (dL D)).grownBy w1 none):ZN w0 ((w1.setCell (O X.gv i) (Y (WE D))).setCell (O X.gf i) (.bool (Yd D))) X K {s with left:=s.left.set i D} vT vS/\Zy X w ((w1.setCell (O X.gv i) (Y (WE D))).setCell (O X.gf i) (.bool (Yd D))):=by
 obtain⟨n1,n2,n3,n4,n5,n6,n7,n8,n9,n10⟩:=Nf h;have gs:=Qm w X.gl (i*32) (dL D);have ga:=ZC w1 X.gv i (Y (WE D));have gb:=ZC (w1.setCell (O X.gv i) (Y (WE D))) X.gf i (.bool (Yd D));have step:∀k o,w.heap[k]?=some o->k≠X.gl->w1.heap[k]?=some o:=λk o I ZP=>by
  have q:=(gs.block k (YY I) (λe=>ZP qI)).trans I
  exact(z.block k (YY q) pG).trans q
 have last:∀k o,w1.heap[k]?=some o->k≠X.gv->k≠X.gf->((w1.setCell (O X.gv i) (Y (WE D))).setCell (O X.gf i) (.bool (Yd D))).heap[k]?=some o:=λk o I F h2=>by
  rw[gb.block k (by rw[show(w1.setCell (O X.gv i) (Y (WE D))).heap.size=w1.heap.size by simp];exact YY I) (λe=>h2 qI),ga.block k (YY I) (λe=>F qI)];exact I
 have Yf:Zy X w ((w1.setCell (O X.gv i) (Y (WE D))).setCell (O X.gf i) (.bool (Yd D))):=((Zy.UZ gs Fg).trans (Zy.grown z)).trans ((Zy.UZ ga C8).trans (Zy.UZ gb C7));refine⟨h.UZ ?_ (λk o I hn=> ?_) (last _ _ (step _ _ h.U8 n1) n2 n3) ?_ ?_ ?_ (last _ _ (step _ _ h.mark n7.symm) n9.symm n10.symm) rfl rfl,Yf⟩
 ·exact Ri (Ri ((Ri h.g0 (h.low _ Fg) gs).trans z) (h.low _ C8) ga) (h.low _ C7) gb
 ·simp only[SL.own,gH,eQ,iM,not_or]at hn;exact last _ _ (step _ _ I hn.2.1) hn.2.2.1 hn.2.2.2.1
 ·refine(h.left.store hi D).kept λo ho=> ?_
  exact last _ _ ((z.block _ (YY ho) pG).trans ho) n5 n6
 ·have q:=step _ _ h.Z7 n5.symm;have q2:=YE q i (Y (WE D)) (aw:=((s.left.set i D).map λD=>Y (WE D)).toArray) (by simp[gT])
  exact(gb.block _ (YY q2) (λe=>n8 (fO e))).trans q2
 ·have q:=step _ _ h.Rv n6.symm;have q1:=(ga.block _ (YY q) (λe=>n8 (fO e).symm)).trans q
  exact YE q1 i (.bool (Yd D)) (by simp[gT])
theorem ald (h:ZN w0 w X K s vT vS)(hn:K.vars.length<=8){v:Int}(hv:YX K.vars.length v){D:Nat}(hD:D<2 ^ 2001):aq 82 #[ai X.b,Y v,.agg (dL D).toArray] w λe w'=>e=.returned (.tuple #[])/\ZN w0 w' X K (Mu v D s) vT vS/\Zy X w w':=by
 obtain⟨n1,n2,n3,n4,n5,n6,n7,n8,n9,n10⟩:=Nf h;obtain⟨anX,hI⟩:∃anX:Nat,v=(anX:Int):=⟨v.toNat,by have:=hv.1;omega⟩;subst hI;have bX:anX<K.vars.length:=sQ;have bb:(0:Int)<=anX:=J;have aK:(anX:Int)<K.vars.length:=J;obtain⟨W,hW⟩:∃W,W=w.alloc (.cells (dL D).toArray 161):=⟨_,rfl⟩;have au:W.heap[w.heap.size]?=some (.cells (dL D).toArray 161 (0,0)):=by rw[hW];exact gp w _
 have aL:aB w W:=rT;have hA:=h.grown aL;have Yw:X.gl≠w.heap.size:=by have:=h.lt.2.1;omega
 have r4:=hA.f4;have r5:=hA.f5;have r6:=hA.f6;have rl:=(hA.OQ hv).2;rw[dJ]at rl;have rb:W.rangeAt w.heap.size 0 (dL D):=λj u hu=>by rw[ik];exact Z0 au j u ub
 have aX:=acg D;have RZ:=Rt;have hle:=QK D;have bQ:=zY D;have K1:=ZQ.mk (λ(W':A) (hd:VP W')=>akC D hD W' hd)
 rw[SQ]at K1;have KD:Hid (VP (W.drew.setCells X.gl (anX*32) (dL D)).drew):=Hs hA.Ms (((Ri hA.g0 (hA.low _ Fg) ((ZG W (some X.gl)).trans (Qm W.drew X.gl (anX*32) (dL D)))).trans (ZG _ none)));have HF:Hid (∀w1:A,(W.drew.setCells X.gl (anX*32) (dL D)).grownBy w1 none->ZN w0 ((w1.setCell (O X.gv anX) (Y (WE D))).setCell (O X.gf anX) (.bool (Yd D))) X K (Mu (anX:Int) D s) vT vS/\Zy X w ((w1.setCell (O X.gv anX) (Y (WE D))).setCell (O X.gf anX) (.bool (Yd D)))):=λw1 z=>by
  have q:=ZN.alc (hA.grown (ZG W none)) bX z;refine⟨q.1,(Zy.grown (aL.trans (ZG W none))).trans q.2⟩
 have HC:Hid (∀w1:A,(W.drew.setCells X.gl (anX*32) (dL D)).grownBy w1 none->(∃u,ak w1 X.gv anX u)/\(∃u,ak w1 X.gf anX u)/\w1.frozen? (O X.gv anX)=false/\w1.frozen? (O X.gf anX)=false):=λw1 z=>by
  obtain⟨a1,a2,a3,a4⟩:=hA.K0 hv;have gg:=(ZG W (some X.gl)).trans (Qm W.drew X.gl (anX*32) (dL D));have lt:=hA.lt;have q1:=gg.cell a1 (λe=>n5 (fO e).symm)
  have q2:=gg.cell a2 (λe=>n6 (fO e).symm)
  have z1:=gg.frozen_far (O X.gv anX) lt.2.2.1 (λe=>n5 (fO e).symm)
  have z2:=gg.frozen_far (O X.gf anX) lt.2.2.2.1 (λe=>n6 (fO e).symm)
  have gz:=gg.size;refine⟨⟨_,z.cell q1 pG⟩,⟨_,z.cell q2 pG⟩,?_,?_⟩
  ·exact(z.frozen_far (O X.gv anX) (by have:=lt.2.2.1;show X.gv<_;omega) pG).trans (z1.trans a3)
  ·exact(z.frozen_far (O X.gf anX) (by have:=lt.2.2.2.1;show X.gf<_;omega) pG).trans (z2.trans a4)
 have bY:Hid (∀W',Kp [X.gl] W W'->ak W' X.b 4 (aj X.gl K.vars.length K.vars.length)/\W'.rangeAt w.heap.size 0 (dL D)):=λW' I=>
  ⟨I.cell r4 (by simpa using n1),I.range rb (by simpa using Yw.symm)⟩
 have bI:Hid (∀W',Kp [X.gl,X.gv,X.gf] W W'->ak W' X.b 5 (aj X.gv K.vars.length K.vars.length)/\ak W' X.b 6 (aj X.gf K.vars.length K.vars.length)/\W'.rangeAt w.heap.size 0 (dL D)):=λW' I=>by
  have l:=h.lt;exact⟨I.cell r5 (by simp[n1,n2,n3]),I.cell r6 (by simp[n1,n2,n3]),I.range rb pI⟩
 have dm:W.drew.there X.gl (anX*32) 32:=rl;have HA:=Z8 hA;have HH:=Z8 h;have Ld:=Z8 aL;clear h hA hv aL r4 r5 r6 rb;clear HH Ld HA au;generalize WS:dL D=cs at *;clear WS;go_enter Tryz.func82,Tryz.ntmps82;go_wp2;rw[<-hW];clear hW;go_region_held3 (λw'=>w'.cell? (O X.b 4)=some (aj X.gl K.vars.length K.vars.length)/\w'.rangeAt w.heap.size 0 cs) (first|exact bY.out _ (Kp.refl _ _).drew|exact bY.out _ ((Kp.refl _ _).drew.UZ (Qm _ _ _ _) pG)) (fail)
 go_wp2;go_region_held3 (λw'=>w'.cell? (O X.b 5)=some (aj X.gv K.vars.length K.vars.length)/\w'.cell? (O X.b 6)=some (aj X.gf K.vars.length K.vars.length)/\w'.rangeAt w.heap.size 0 cs)
  (first|exact bI.out _ (((Kp.refl _ _).drew.UZ (Qm _ _ _ _) pG).drew)|exact bI.out _ (((Kp.refl _ _).drew.UZ (Qm _ _ _ _) pG).drew.grown ZU)|exact bI.out _ ((((Kp.refl _ _).drew.UZ (Qm _ _ _ _) pG).drew.grown ZU).set pG)|exact bI.out _ (((((Kp.refl _ _).drew.UZ (Qm _ _ _ _) pG).drew.grown ZU).set pG).set pG))
  (first|(go_at_call 126;refine(K1.get _ KD.out).mono ?_;rintro e w2 ⟨rfl,ZU⟩;obtain⟨⟨u1,k1⟩,⟨u2,k2⟩,f1,f2⟩:=HC.out w2 ((ZG _ _).trans ZU)))
 all_goals go_wp2
 all_goals go_end0
 all_goals exact⟨rfl,HF.out _ ((ZG _ _).trans ZU)⟩
end Go.Proofs.YthpcbbnabnlanaaGreatDoor
