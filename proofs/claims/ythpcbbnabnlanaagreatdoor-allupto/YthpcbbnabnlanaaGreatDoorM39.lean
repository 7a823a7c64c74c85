import Derived.Test.YthpcbbnabnlanaaGreatDoorM38
namespace Go.Proofs.YthpcbbnabnlanaaGreatDoor
set_option maxHeartbeats 8000000
set_option maxRecDepth 100000
set_option linter.all false
section
open Go.RowKit
variable {w0 w w' aW:A}{X:SL}{K:SK}{s:SS}{vT vS:aF}
theorem Hj (e:SS->Bool×SS)(v:Int):∀(xs ys:az) (s:SS),Xa K e v (xs++ys) s=if (Xa K e v xs s).1 then Xa K e v ys (Xa K e v xs s).2 else Xa K e v xs s
 |[],ys,s=>by simp[Xa]
 |x::xs,ys,s=>by
  rw[eG,Xa,Xa];simp only[];split
  ·split
   ·exact Hj e v xs ys _
   ·rfl
  ·exact Hj e v xs ys _
def kK{P:Prop}(h:P:=by
 have F:=c1.ab8 hK YB;have h2:XG (Zb K v (Zu x) s)+1=XG s:=Ad (p:=λD=> !Yd D) hl (by have:Yd (s.left.getD v.toNat 0)=false:=Tg;rw[this];rfl) (by rw[Hr x1 x2];rfl)
 omega):P:=h
def lF{P:Prop}(h:P:=by
 obtain⟨m1,m2⟩:=Nl.Fl i I;obtain⟨s0,a1,a2,a3⟩:=hN.fix i c hc m1;exact po):P:=h
theorem zu (hK:YV K){n:Nat}(hN:U9 K s)(aA:XG s<=n){v:Int}(hv:YX K.vars.length v)(Tg:s.fixed v=false){x:Int}(hx:x∈WQ (s.L v)){si:SS}(h:Xa K (Yy K n) v [x] s=(true,si)):U9 K si/\si.left=s.left/\si.ZF=s.ZF:=by
 have hl:v.toNat<s.left.length:=sy;have key:∃r,Xa K (Yy K n) v [x] s=r/\(r.1=true->r.2.left=s.left/\r.2.ZF=s.ZF/\r.2.marked=s.marked):=by
  refine⟨_,rfl,λhr=> ?_⟩
  rw[Xa]at hr⊢;simp only[]at hr⊢;have hs:=hN.ok;obtain⟨x1,x2,x3⟩:=(JE (hs.TP hK v)).1 hx;have ZP:Zu x≠s.L v:=λq=>by unfold SS.fixed at Tg;rw[<-q,Hr x1 x2]at Tg;cases Tg
  have Nl:=Dg hK hs hv (D:=Zu x) (λj h=>by rw[PD]at h;rw[<-ew h];exact x3) (Ao x) ZP
  have YB:=Nl.ok hs;have bs:OX K (Zb K v (Zu x) s):=λi c hc I=>by
   exact lF
  obtain⟨c1,c2,c3,c4⟩:=Hp hK YB bs;have hR:TM s (Zp K (Zb K v (Zu x) s)).2:=Nl.Dd.trans c1;have bA:XG (Zp K (Zb K v (Zu x) s)).2<n:=by
   exact kK
  by_cases c:(Zp K (Zb K v (Zu x) s)).1=true
  ·rw[iR c]at hr⊢;obtain⟨new,o⟩:=Fj hK n ⟨c1.ok YB,c4 c,c3⟩ bA;generalize Yy K n (Zp K (Zb K v (Zu x) s)).2=g at *;by_cases cg:g.1=true
   ·rw[iR cg]at hr⊢;obtain⟨t1,t2,t3,t4,t5⟩:=o.tt cg;rw[Xa];have b8:Rz s.ZF.length g.2={g.2 with ZF:=s.ZF,left:=s.left}:=by
     exact lj
    rw[b8];exact⟨rfl,rfl,t3.trans (Db vq c3 hN.no)⟩
   ·rw[iQ cg]at hr;exact absurd hr cg
  ·rw[iQ c,Xa,ab3 hR];exact⟨rfl,rfl,Db vq c3 hN.no⟩
 obtain⟨r,aM,WI⟩:=key;rw[h]at aM;subst aM;obtain⟨a,b,c⟩:=WI rfl;exact⟨hN.same a c,a,b⟩
theorem zt (hK:YV K){n:Nat}(hN:U9 K s)(hT:TB s)(aA:XG s<=n){v:Int}(hv:YX K.vars.length v)(Tg:s.fixed v=false){x:Int}(hx:x∈WQ (s.L v)):(Y5 K (Zb K v (Zu x) s)/\TB (Zb K v (Zu x) s))/\(Y5 K (Zp K (Zb K v (Zu x) s)).2/\TB (Zp K (Zb K v (Zu x) s)).2)/\s.ZF.length<=(Zp K (Zb K v (Zu x) s)).2.ZF.length/\(Zp K (Zb K v (Zu x) s)).2.Zx=s.Zx/\(Zp K (Zb K v (Zu x) s)).2.nodes=s.nodes/\((Zp K (Zb K v (Zu x) s)).1=true->U9 K (Zp K (Zb K v (Zu x) s)).2/\XG (Zp K (Zb K v (Zu x) s)).2<n/\((Yy K n (Zp K (Zb K v (Zu x) s)).2).1=true->(Yy K n (Zp K (Zb K v (Zu x) s)).2).2.left=(Zp K (Zb K v (Zu x) s)).2.left/\(Yy K n (Zp K (Zb K v (Zu x) s)).2).2.ZF=(Zp K (Zb K v (Zu x) s)).2.ZF)):=by
 have hl:v.toNat<s.left.length:=sy;have hs:=hN.ok;obtain⟨x1,x2,x3⟩:=(JE (hs.TP hK v)).1 hx;have ZP:Zu x≠s.L v:=λq=>by unfold SS.fixed at Tg;rw[<-q,Hr x1 x2]at Tg;cases Tg
 have bg:∀j,(Zu x).testBit j=true->(s.L v).testBit j=true:=λj h=>by rw[PD]at h;rw[<-ew h];exact x3
 have Nl:=Dg hK hs hv (D:=Zu x) bg (Ao x) ZP;have YB:=Nl.ok hs;have bJ:=acn hK hs hv bg ZP hT;have bs:OX K (Zb K v (Zu x) s):=λi c hc I=>by
  exact lF
 obtain⟨c1,c2,c3,c4⟩:=Hp hK YB bs;have hR:TM s (Zp K (Zb K v (Zu x) s)).2:=Nl.Dd.trans c1;have bA:XG (Zp K (Zb K v (Zu x) s)).2<n:=by
  exact kK
 refine⟨⟨YB,bJ⟩,zv hK YB bJ,?_,hR.Zx,hR.nodes,λc=>⟨⟨c1.ok YB,c4 c,c3⟩,bA,λcg=> ?_⟩⟩
 ·obtain⟨t,a1,_⟩:=hR.tr;rw[a1,dA];omega
 ·obtain⟨new,o⟩:=Fj hK n ⟨c1.ok YB,c4 c,c3⟩ bA;obtain⟨t1,t2,_⟩:=o.tt cg;exact⟨t1,t2⟩
theorem Zy.others (hf:Zy X w w')(h:ZN w0 w X K s vT vS):∀(k:Nat) (o:Obj),w.heap[k]?=some o->o.isCells=false->w'.heap[k]?=some o:=λk o I ho=>by
 refine hf.block k o I (λhm=> ?_) (λ_ _ e=>by rw[e]at ho;cases ho) (λ_ _ e=>by rw[e]at ho;cases ho)
 obtain⟨c,hc,_⟩:=h.left;simp only[SL.own,gH,eQ,iM]at hm;rcases hm with e|e|e|e|e<;>subst e
 ·rw[h.U8]at I;cases I;cases ho
 ·rw[hc]at I;cases I;cases ho
 ·rw[h.Z7]at I;cases I;cases ho
 ·rw[h.Rv]at I;cases I;cases ho
 ·rw[h.mark]at I;cases I;cases ho
end
section
open Go.RowKit Go.Shelf
variable {w0 w w' aW:A}{X:SL}{K:SK}{s:SS}{vT vS:aF}
theorem ZN.cells (h:ZN w0 w X K s vT vS)(z:aB w0 w')(I:∀(k:Nat) (c:Array aF) (t:TypeId) (f:Nat×Nat),w.heap[k]?=some (.cells c t f)->w'.heap[k]?=some (.cells c t f)):ZN w0 w' X K s vT vS:=by
 have ki:∀k cells,w.heap[k]?=some (.cells cells 3 (0,0))->k∉X.own->w'.heap[k]?=some (.cells cells 3 (0,0)):=λk c q1 _=>I k _ _ _ q1
 have keep:∀{B e anZ n:Nat} {v:aF} {xs:ay},w.ownsRow B e anZ v n xs->w'.ownsRow B e anZ v n xs:=λ{B e anZ n v xs} ho=>by
  refine⟨ho.1,?_⟩;rcases ho.2 with q|⟨g,cap,cur,q1,q2,q3,q4⟩
  ·exact .inl q
  ·exact .inr ⟨g,cap,cur,q1,q2,I g _ _ _ q3,q4⟩
 have hl:Nk w' X K.vars.length s.left:=by
  obtain⟨cells,F,h2⟩:=h.left;exact⟨cells,I _ _ _ _ F,h2⟩
 refine⟨z,h.low,h.nd,I _ _ _ _ h.U8,hl,I _ _ _ _ h.Z7,I _ _ _ _ h.Rv,I _ _ _ _ h.mark,keep h.ZF,h.Nj,?_,h.OW,I _ _ _ _ h.Ru,h.PC,λi v q=>(h.Ni i v q).kept ki,I _ _ _ _ h.Q1,h.Nh,λi v q=>(h.usr i v q).kept ki,h.cap,h.PY,h.Ng,h.Ms⟩
 obtain⟨rows,r1,r2,r3⟩:=h.Zx;exact⟨rows,keep r1,λi v q=>(r2 i v q).kept ki,r3⟩
theorem E6 {B k:Nat}{W W':A}{row:Option Nat}{c:Array aF}{t:TypeId}{f:Nat×Nat}(h:W.heap[k]?=some (.cells c t f))(z:W.grownBy W' row)(hr:∀r,row=some r->B<=r/\∃o:Obj,W.heap[r]?=some o/\o.isCells=false):W'.heap[k]?=some (.cells c t f):=by
 refine(z.block k (YY h) (λe=> ?_)).trans h
 obtain⟨_,o,ho,hc⟩:=hr k e.symm;rw[h]at ho
 cases ho
 cases hc
theorem ZN.Mn (h:ZN w0 w X K s vT vS){B:Nat}{row:Option Nat}(z:w.grownBy w' row)(hr:∀r,row=some r->B<=r/\∃o:Obj,w.heap[r]?=some o/\o.isCells=false)(hB:w0.heap.size<=B):ZN w0 w' X K s vT vS:=
 h.cells (Ax h.g0 z hr hB) (λk c t f q=>E6 q z hr)
theorem Zy.Mn (h:Zy X w w'){B:Nat}{row:Option Nat}(z:w'.grownBy aW row)(hr:∀r,row=some r->B<=r/\∃o:Obj,w'.heap[r]?=some o/\o.isCells=false)(hB:w.heap.size<=B):Zy X w aW:=by
 cases row with
 |none=>exact h.trans (Zy.grown z)
 |some r=>exact h.fresh z (gZ hB (hr r rfl).1)
def Hi (w0 w:A)(X:SL)(K:SK)(n:Nat)(v:Int)(s:SS)(D:Nat)(pre:List (Qr D))(W:A):Prop:=
 ∃(si:SS) (vT vS:aF),Xa K (Yy K n) v (pre.map Subtype.val) s=(true,si)/\ZN w0 W X K si vT vS/\U9 K si/\si.left=s.left/\si.ZF=s.ZF/\si.Zx.length<=100000/\0<=si.nodes/\Zy X w W/\
  W.heap[w.heap.size]?=some (.cells #[ai X.b] 100 (0,0))/\W.heap[w.heap.size+1]?=some (.cells #[Y v] 3 (0,0))/\W.heap[w.heap.size+2]?=some (.cells #[.bool false] 4 (0,0))
def E5 (w0 w:A)(X:SL)(K:SK)(n:Nat)(v:Int)(s:SS)(D:Nat)(c:Code)(pre:List (Qr D))(W:A):Prop:=
 c=.ret/\∃(si:SS) (vT vS:aF),Xa K (Yy K n) v (pre.map Subtype.val) s=(false,si)/\ZN w0 W X K si vT vS/\Zy X w W/\W.heap[w.heap.size+2]?=some (.cells #[.bool false] 4 (0,0))
theorem Hi.from {n:Nat}{v:Int}{D B:Nat}(h0:w0.heap.size<=w.heap.size)(hB:w.heap.size+3<=B):OwnFrom B (Hi w0 w X K n v s D):=λp anY B' row hs z hr=>by
 obtain⟨si,vT,vS,F,h2,h3,h4,h5,h6,h7,h8,b0,b1,b2⟩:=hs;exact⟨si,vT,vS,F,h2.Mn z hr J,h3,h4,h5,h6,h7,h8.Mn z hr J,E6 b0 z hr,E6 b1 z hr,E6 b2 z hr⟩
theorem E5.from {n:Nat}{v:Int}{D B:Nat}(h0:w0.heap.size<=w.heap.size)(hB:w.heap.size+3<=B)(c:Code):OwnFrom B (E5 w0 w X K n v s D c):=λp anY B' row hs z hr=>by
 obtain⟨hc,si,vT,vS,F,h2,h3,b2⟩:=hs;exact⟨hc,si,vT,vS,F,h2.Mn z hr J,h3.Mn z hr J,E6 b2 z hr⟩
theorem acJ {n:Nat}{v:Int}{D:Nat}{pre:List (Qr D)}{x:Qr D}{si sj:SS}(F:Xa K (Yy K n) v (pre.map Subtype.val) s=(true,si))(h2:Xa K (Yy K n) v [x.1] si=(true,sj)):Xa K (Yy K n) v ((pre++[x]).map Subtype.val) s=(true,sj):=by
 rw[fD,Hj,F,iR rfl];exact h2
theorem amm {n:Nat}{v:Int}{D:Nat}{pre:List (Qr D)}{x:Qr D}{si sj:SS}(F:Xa K (Yy K n) v (pre.map Subtype.val) s=(true,si))(h2:Xa K (Yy K n) v [x.1] si=(false,sj)):Xa K (Yy K n) v ((pre++[x]).map Subtype.val) s=(false,sj):=by
 rw[fD,Hj,F,iR rfl];exact h2
theorem amn {n:Nat}{v:Int}{D:Nat}{pre:List (Qr D)}{sj:SS}(hp:pre<+:(WQ D).attach)(h:Xa K (Yy K n) v (pre.map Subtype.val) s=(false,sj)):Xa K (Yy K n) v (WQ D) s=(false,sj):=by
 obtain⟨t,ht⟩:=hp;have e:WQ D=pre.map Subtype.val++t.map Subtype.val:=by rw[<-fD,ht,aJ]
 rw[e,Hj,h,iQ pG]
theorem acK {n:Nat}{v x:Int}(hc:(Zp K (Zb K v (Zu x) s)).1=false):Xa K (Yy K n) v [x] s=(true,Rz s.ZF.length (Zp K (Zb K v (Zu x) s)).2):=by
 rw[Xa];simp only[];rw[iQ (by rw[hc];simp),Xa]
theorem acL {n:Nat}{v x:Int}(hc:(Zp K (Zb K v (Zu x) s)).1=true)(z:(Yy K n (Zp K (Zb K v (Zu x) s)).2).1=true):Xa K (Yy K n) v [x] s=(true,Rz s.ZF.length (Yy K n (Zp K (Zb K v (Zu x) s)).2).2):=by
 rw[Xa];simp only[];rw[iR hc,iR z,Xa]
theorem acM {n:Nat}{v x:Int}(hc:(Zp K (Zb K v (Zu x) s)).1=true)(z:(Yy K n (Zp K (Zb K v (Zu x) s)).2).1=false):Xa K (Yy K n) v [x] s=(false,(Yy K n (Zp K (Zb K v (Zu x) s)).2).2):=by
 rw[Xa];simp only[];rw[iR hc,iQ (by rw[z];simp)];exact Prod.ext z rfl
end
section
open Go.RowKit Go.Shelf
variable {w0 w w' aW:A}{X:SL}{K:SK}{s:SS}{vT vS:aF}
theorem acN:∀(n:Nat) (s:SS),(Np n s).Zx=s.Zx/\(Np n s).nodes=s.nodes
 |0,s=>⟨rfl,rfl⟩
 |n+1,s=>by rw[Np];exact acN n (Oo s)
theorem Hh (k:Nat)(s:SS):(Rz k s).Zx=s.Zx/\(Rz k s).nodes=s.nodes:=acN _ s
theorem zr {s t:SS}(hl:t.left=s.left)(ht:t.ZF=s.ZF)(hT:TB s):TB t:=by unfold TB at hT⊢;rw[hl,ht];exact hT
theorem amo (hK:YV K){n:Nat}(he:∀t:SS,U9 K t->TB t->XG t<n->t.Zx.length<=100000->(Yy K n t).2.Zx.length<=100000){v:Int}(hv:YX K.vars.length v):∀(xs:az) {s:SS},U9 K s->TB s->XG s<=n->s.fixed v=false->(∀x∈xs,x∈WQ (s.L v))->s.Zx.length<=100000->(Xa K (Yy K n) v xs s).2.Zx.length<=100000:=by
 intro xs
 induction xs with
 |nil=>intro s _ _ _ _ _ h;exact h
 |cons x xs ih=>
  intro s hN hT aA Tg hx hle;have bG:=hx x pG;obtain⟨_,_,_,f4,_,f6⟩:=zt hK hN hT aA hv Tg bG;rw[show x::xs=[x]++xs from rfl,Hj];have one:(Xa K (Yy K n) v [x] s).2.Zx.length<=100000:=by
   cases c:(Zp K (Zb K v (Zu x) s)).1 with
   |false=>rw[acK c,(Hh _ _).1,f4];exact hle
   |true=>
    obtain⟨g1,g2,g3⟩:=f6 c;have z:=he _ g1 (zt hK hN hT aA hv Tg bG).2.1.2 g2 (by rw[f4];exact hle)
    cases cg:(Yy K n (Zp K (Zb K v (Zu x) s)).2).1 with
    |true=>rw[acL c cg,(Hh _ _).1];exact z
    |false=>rw[acM c cg];exact z
  split
  ·rename_i hr;generalize hq:Xa K (Yy K n) v [x] s=r at *;obtain⟨r1,r2⟩:=r;simp only[]at hr one⊢;subst hr;obtain⟨a,b,c⟩:=zu hK hN aA hv Tg bG hq;have hL:∀u,r2.L u=s.L u:=λu=>by unfold SS.L;rw[b]
   exact ih a (zr b c hT) (by unfold XG at aA⊢;rw[b];exact aA) (by unfold SS.fixed at Tg⊢;rw[hL];exact Tg) (λy hy=>by rw[hL];exact hx y (by simp[hy])) one
  ·exact one
theorem zq (hK:YV K):∀(n:Nat) {s:SS},U9 K s->TB s->XG s<n->s.Zx.length<=100000->(Yy K n s).2.Zx.length<=100000
 |0,s,_,_,h,_=>J
 |n+1,s,hN,hT,aA,hle=>by
  rw[Yy];split
  ·exact hle
  ·simp only[];obtain⟨t,ht,tl,tt,tm,ts⟩:∃t:SS,({s with nodes:=s.nodes+1}:SS)=t/\t.left=s.left/\t.ZF=s.ZF/\t.marked=s.marked/\t.Zx=s.Zx:=⟨_,rfl,rfl,rfl,rfl,rfl⟩;rw[ht];have cu:U9 K t:=hN.same tl tm;obtain⟨n1,n2⟩:=Aa K t;split
   ·unfold K6;split
    ·rw[ts];exact hle
    ·rename_i hc;simp only[dA,bP];rw[ts]at hc⊢;omega
   ·rename_i hc;obtain⟨v1,v2,v3⟩:=n2 J;refine amo hK (λu hu aY bE bF=>zq hK n hu aY bE bF) ⟨J,by rw[<-cu.ok.ll];exact v1⟩ _ cu (zr tl tt hT) (by unfold XG at aA⊢;rw[tl];omega) v2 (λy hy=>hy) (by rw[ts];exact hle)
theorem amp (hK:YV K){n:Nat}(hN:U9 K s)(aA:XG s<n):s.nodes<=(Yy K n s).2.nodes:=by
 obtain⟨new,o⟩:=Fj hK n hN aA;exact o.lo
end
section
open Go.RowKit Go.Shelf
attribute [local go_sem] Oper.semAt_some
attribute [local go_sem ↓] Pz Py
variable {w0 w w' aW:A}{X:SL}{K:SK}{s:SS}{vT vS:aF}
theorem amq {D:Nat}{c:ay}(h:DC D c)(w:A):aq 136 #[.agg c.toArray] w λe w'=>e=.returned (.func (.func 178) #[] #[ai w.heap.size])/\w'=w.alloc (.cells c.toArray 161):=by
 rw[h.is,<-SQ];exact abC D w
theorem acO {r:Bool×SS}{b:Bool}{si:SS}(hr:r=(b,si))(hS:ZN w0 w' X K si vT vS)(hF:Zy X w w'):Na w0 w X K r (.returned (.bool b)) w':=by
 subst hr;exact⟨rfl,⟨_,_,hS⟩,hF⟩
theorem ZN.other (h:ZN w0 w X K s vT vS){g i:Nat}{c:Array aF}{u:aF}(hb:w.heap[g]?=some (.cells c 4 (0,0)))(z:g∉X.own)(h0:w0.heap.size<=g):ZN w0 (w.setCell (O g i) u) X K s vT vS:=by
 have gs:=ZC w g i u;have YQ:∀{k:Nat} {o:Obj},w.heap[k]?=some o->k≠g->(w.setCell (O g i) u).heap[k]?=some o:=λ{k o} I ZP=>(gs.block k (YY I) (λe=>ZP qI)).trans I
 have Sw:∀{k:Nat} {c':Array aF} {t:TypeId} {f:Nat×Nat},w.heap[k]?=some (.cells c' t f)->t≠4->(w.setCell (O g i) u).heap[k]?=some (.cells c' t f):=λ{k c' t f} I ht=>YQ I (λe=>by
  subst e;rw[hb]at I;injection I with I;injection I with _ q;exact ht q.symm)
 have own:∀{k:Nat} {o:Obj},w.heap[k]?=some o->k∈X.own->(w.setCell (O g i) u).heap[k]?=some o:=λ{k o} I hm=>YQ I (λe=>z uQ)
 have ki:∀k cells,w.heap[k]?=some (.cells cells 3 (0,0))->k∉X.own->(w.setCell (O g i) u).heap[k]?=some (.cells cells 3 (0,0)):=λk c q1 _=>Sw q1 pF
 have keep:∀{B e anZ n:Nat} {v:aF} {xs:ay},w.ownsRow B e anZ v n xs->e≠4->(w.setCell (O g i) u).ownsRow B e anZ v n xs:=λ{B e anZ n v xs} ho he=>by
  refine⟨ho.1,?_⟩;rcases ho.2 with q|⟨g,cap,cur,q1,q2,q3,q4⟩
  ·exact .inl q
  ·exact .inr ⟨g,cap,cur,q1,q2,Sw q3 he,q4⟩
 have hl:Nk (w.setCell (O g i) u) X K.vars.length s.left:=by
  obtain⟨cells,F,h2⟩:=h.left;exact⟨cells,own F Fg,h2⟩
 refine⟨Ri h.g0 h0 gs,h.low,h.nd,own h.U8 Rn,hl,own h.Z7 C8,own h.Rv C7,own h.mark KZ,keep h.ZF pF,h.Nj,?_,h.OW,Sw h.Ru pF,h.PC,λi v q=>(h.Ni i v q).kept ki,Sw h.Q1 pF,h.Nh,λi v q=>(h.usr i v q).kept ki,h.cap,h.PY,h.Ng,h.Ms⟩
 obtain⟨rows,r1,r2,r3⟩:=h.Zx;exact⟨rows,keep r1 pF,λi v q=>(r2 i v q).kept ki,r3⟩
theorem amr (h:ZN w0 w X K s vT vS)(hK:YV K)(hN:U9 K s)(hT:TB s)(hle:s.Zx.length<=100000)(bz:0<=s.nodes){n:Nat}(aA:XG s<=n){v:Int}(hv:YX K.vars.length v)(Tg:s.fixed v=false)(af:∀{W:A} {a6 bH:aF} {t:SS},ZN w0 W X K t a6 bH->U9 K t->TB t->XG t<n->t.Zx.length<=100000->0<=t.nodes->aq 51 #[ai X.b] W (Na w0 W X K (Yy K n t))):aq 89 #[ai X.b,Y v] w (Na w0 w X K (Xa K (Yy K n) v (WQ (s.L v)) s)):=by
 have hD:=hN.ok.TP hK v;obtain⟨d,hd⟩:=dc (s.L v);have a8:=hd.len;have KA:=ZQ.mk (λW=>amq hd W)
 obtain⟨W1,XW⟩:∃W1,((w.alloc (.cells #[ai X.b] 100)).alloc (.cells #[Y v] 3)).alloc (.cells #[.bool false] 4)=W1:=⟨_,rfl⟩;have Yw:W1.heap.size=w.heap.size+3:=by rw[<-XW];simp
 have g1:aB w W1:=by rw[<-XW];exact((di _ _ _).trans (di _ _ _)).trans (di _ _ _)
 have b0:W1.heap[w.heap.size]?=some (.cells #[ai X.b] 100 (0,0)):=by rw[<-XW];exact FP w _ _ _
 have b1:W1.heap[w.heap.size+1]?=some (.cells #[Y v] 3 (0,0)):=by rw[<-XW];exact IU w _ _ _
 have b2:W1.heap[w.heap.size+2]?=some (.cells #[.bool false] 4 (0,0)):=by rw[<-XW];exact DB w _ _ _
 have bh:=h.grown g1;have c0:=Z0 b0 0 _ rfl;have c1:=Z0 b1 0 _ rfl;have c4:=bh.f4;have cJ:=Tf (w:=W1.drew) (b:=X.gl) (o:=v.toNat*32) (c:=d) (by rw[hd.is];exact(bh.OQ hv).1) a8;have Kh:=hv.1;have Pn:=hv.2;have bD:Tryz.prog.follows .mixedOrders=true:=pH;refine(ir (n:=3)).1 ?_;refine callsIn_of_wp_marks Tryz.func89 rfl trivial ?_ rfl;simp only[Tryz.ntmps89,dW,eM,fB,Nat.reduceAdd,Nat.reduceSub,bS,bT,dV,cQ,fF,eG];have HH:=Z8 h;have aV:=Z8 bh;have HB:Hid (W1.heap[w.heap.size]?=some (.cells #[ai X.b] 100 (0,0))/\W1.heap[w.heap.size+1]?=some (.cells #[Y v] 3 (0,0))/\W1.heap[w.heap.size+2]?=some (.cells #[.bool false] 4 (0,0))/\aB w W1):=⟨b0,b1,b2,g1⟩;have bI:Hid (d=dL (s.L v)):=hd.is;clear h bh b0 b1 b2 g1 hd;gi_wp2;have e1:w.heap.size+1+1=w.heap.size+2:=rfl
 try rw[e1]
 try rw[XW]
 clear XW;refine wpIn_mono ?_ NoPanic.imp;gi_region_with_o (refine⟨trivial,(ir.2 (KA.get _)).mono ?_⟩;rintro e w1 ⟨rfl,rfl⟩)
 all_goals refine NoPanic.normal ?_
 all_goals gi_wp2
 all_goals
  obtain⟨b0,b1,b2,g1⟩:=HB.out;obtain⟨W2,W7⟩:∃W2,(W1.alloc (.cells d.toArray 161)).drew=W2:=⟨_,rfl⟩;have g2:aB W1 W2:=by rw[<-W7];exact(di _ _ _).trans (ZG _ _)
  have OC:W2.heap.size=w.heap.size+4:=by rw[<-W7];show(W1.alloc _).heap.size=_;simp[Yw]
  have b3:W2.heap[w.heap.size+3]?=some (.cells (Zh (s.L v)) 161 (0,0)):=by
   rw[<-W7,SQ,<-bI.out,<-Yw];exact gp W1 _
  have T2:=aV.out.grown g2;have r0:=(g2.block _ (YY b0) pG).trans b0;have r1:=(g2.block _ (YY b1) pG).trans b1;have r2:=(g2.block _ (YY b2) pG).trans b2;have bb:w0.heap.size<=w.heap.size:=HH.out.g0.size
  try rw[W7]
  clear W7;refine wpIn_rangeFunc_ownF (α:=Qr (s.L v)) rfl pF (gf:=178) (lb:=#[ai (w.heap.size+3)]) rfl trivial (enters_of Tryz.func178 pH rfl)
   (abB (λx:Qr (s.L v)=>x.1) (WQ (s.L v)).attach (s.L v) (aJ _) _ (w.heap.size+3) W2 b3 T2.db) abz abA (iC _ _) (λ_=>rfl)
   (Hi w0 w X K n v s (s.L v)) (E5 w0 w X K n v s (s.L v)) (Hi.from bb J) (E5.from bb J) ⟨s,vT,vS,by rw[gR,Xa],T2,hN,rfl,rfl,hle,bz,Zy.grown (g1.trans g2),r0,r1,r2⟩
   (λx=>{tmps:=#[ai X.b,Y v,ai w.heap.size,ai (w.heap.size+1),ai (w.heap.size+2),Y x.1,undef,ai X.b,ai X.b,.pointer (some (O X.b 4)),aj X.gl K.vars.length K.vars.length,Y v,.pointer (some (O X.gl (v.toNat*32))),.agg d.toArray,.func (.func 178) #[] #[ai (w.heap.size+3)],Y x.1,undef,undef,undef,undef,undef,undef,undef,undef,undef,undef,undef,undef,undef,undef,undef,undef,undef,undef,undef,undef],defers:=[]}) ?assign ?body ?done ?stop
  case assign=>
   intro l x W K hK;gi_wp2;exact hK
  case body=>
   rintro l pre x W ⟨si,bK,ax,e1,aa,aw,aG,aH,aI,bj,av,t0,t1,t2⟩ _;have aT:∀u,si.L u=s.L u:=λu=>by unfold SS.L;rw[aG]
   have bG:x.1∈WQ (si.L v):=by rw[aT];exact x.2
   have aL:si.fixed v=false:=by unfold SS.fixed at Tg⊢;rw[aT];exact Tg
   have bu:TB si:=zr aG aH hT;have aN:XG si<=n:=by unfold XG at aA⊢;rw[aG];exact aA
   obtain⟨⟨p1,p2⟩,⟨q1,q2⟩,q3,q4,q5,q6⟩:=zt hK aw bu aN hv aL bG;obtain⟨x1,x2⟩:=Hv hD x.2;obtain⟨r,hr⟩:=dc (Zu x.1);obtain⟨ta,tc,bL⟩:=Wt aa.ZF;subst bL;have KO:=ZQ.mk (λW'=>zX hr (v:=x.1) x1 x2 W')
   have KP:=ZQ.mk (λ{W':A} (q:ZN w0 W' X K si (.slice ta si.ZF.length tc) ax)=>acm hr q hK aw.ok.ml hv (Am x2) bu.le)
   have KC:=ZQ.mk (λ{W':A} {ar:aF} (q:ZN w0 W' X K (Zb K v (Zu x.1) si) ar ax)=>acC q hK p1 p2)
   have b5:=Z0 t0 0 (ai X.b) rfl;have b6:=Z0 t1 0 (Y v) rfl;have f7:=aa.f7;have bM:w.heap.size∉X.own:=HH.out.QJ (iw _);have bN:w.heap.size+1∉X.own:=HH.out.QJ J;have bc:w.heap.size+2∉X.own:=HH.out.QJ J;have aS:Hid (∀W',Zy X W W'->W'.heap[w.heap.size]?=some (.cells #[ai X.b] 100 (0,0))/\W'.heap[w.heap.size+1]?=some (.cells #[Y v] 3 (0,0))/\W'.heap[w.heap.size+2]?=some (.cells #[.bool false] 4 (0,0))/\W'.cell? (ah w.heap.size)=some (ai X.b)/\W'.cell? (ah (w.heap.size+1))=some (Y v)):=λW' hf=>by
    have a0:=hf.block _ _ t0 bM (λ_ _ e=>pL) (λ_ _ e=>pL)
    have a1:=hf.block _ _ t1 bN (λ_ _ e=>pL) (λ_ _ e=>pL)
    have a2:=hf.block _ _ t2 bc (λ_ _ e=>pL) (λ_ _ e=>pL)
    exact⟨a0,a1,a2,Z0 a0 0 _ rfl,Z0 a1 0 _ rfl⟩
   have aZ:Hid (∀W',Zy X W W'->KeepsOthers W W'):=λW' hf=>⟨hf.size,hf.others aa⟩
   have a7:=Z8 aa;have ba:=Z8 av;have Rw:∀{t:SS},Y5 K t->TB t->∀p∈t.ZF,YX K.vars.length p.1/\p.2<2 ^ 2001:=λ{t} F h2 p hp=>by
    obtain⟨a,b,c⟩:=h2.2 p hp;exact⟨⟨a,by rw[<-F.ll];exact b⟩,c⟩
   have aC:Hid (∀W',(∃si vT vS,ZN w0 W' X K si vT vS)->Mw W W'):=λW' ⟨_,_,_,q⟩ _=>q.db
   cases hc:(Zp K (Zb K v (Zu x.1) si)).1 with
   |false=>
    have aO:=acK (n:=n) hc;obtain⟨z1,z2,z3⟩:=zu hK aw aN hv aL bG aO;have Sc:Hid (∀(W':A) (ar:aF),ZN w0 W' X K (Rz si.ZF.length (Zp K (Zb K v (Zu x.1) si)).2) ar ax->Zy X W W'->KeepsOthers W W'/\Mw W W'/\Hi w0 w X K n v s (s.L v) (pre++[x]) W'):=λW' ar q hf=>by
     obtain⟨a0,a1,a2,_,_⟩:=aS.out W' hf;exact⟨aZ.out W' hf,aC.out W' ⟨_,_,_,q⟩,_,ar,ax,acJ e1 aO,q,z1,z2.trans aG,z3.trans aH,by rw[(Hh _ _).1,q4];exact aI,by rw[(Hh _ _).2,q5];exact bj,ba.out.trans hf,a0,a1,a2⟩
    have KT:=ZQ.mk (λ{W':A} {ar:aF} (q:ZN w0 W' X K (Zp K (Zb K v (Zu x.1) si)).2 ar ax)=>acF q hK.WB q3 q2.le (Rw q1 q2))
    rw[hc]at KC;generalize Zp K (Zb K v (Zu x.1) si)=k at *;clear hc aO z1 z2 z3 q1 q2 q3 q4 q5 q6 p1 p2 bG aL bu aN aT e1 aa aw av hr t0 t1 t2 af Rw aG aH aI bj;gi_wp2;gi_region_with_o (first|(have hz:=ZJ;clear hz;refine⟨trivial,(CallsIn.inRound l (ir.2 (KP.get (a7.out.grown ((ZG _ _).trans ZJ))))).mono ?_⟩;rintro e w4 ⟨rfl,⟨bO,br⟩,bB⟩)|(refine⟨trivial,(CallsIn.inRound l (ir.2 (KO.get _))).mono ?_⟩;rintro e w3 ⟨rfl,ZJ⟩;obtain⟨_,_,_,bk,bm⟩:=aS.out w3 (Zy.grown ((ZG _ _).trans ZJ))))
    all_goals
     have au:=(Zy.grown ((ZG _ _).trans ZJ)).trans bB;obtain⟨_,_,_,bn,bo⟩:=aS.out w4 au;gi_wp2_with (refine⟨trivial,(CallsIn.inRound l (ir.2 (KC.get br))).mono ?_⟩;rintro e w5 ⟨rfl,⟨C3,Si⟩,Te⟩;obtain⟨_,_,_,bp,bq⟩:=aS.out w5 (au.trans Te));refine⟨trivial,?_⟩;gi_wp2_with (refine⟨trivial,(CallsIn.inRound l (ir.2 (KT.get Si))).mono ?_⟩;rintro e w6 ⟨rfl,⟨Z,hs6⟩,aQ⟩);exact Sc.out _ _ hs6 ((au.trans Te).trans aQ)
   |true=>
    obtain⟨g1,g2,g3⟩:=q6 hc;have KE:ZQ (∀{W':A} {ar:aF},ZN w0 W' X K (Zp K (Zb K v (Zu x.1) si)).2 ar ax->aq 51 #[ai X.b] W' (λe w'=>e=.returned (.bool (Yy K n (Zp K (Zb K v (Zu x.1) si)).2).1)/\(∃ar aK,ZN w0 w' X K (Yy K n (Zp K (Zb K v (Zu x.1) si)).2).2 ar aK)/\Zy X W' w')):=ZQ.mk (λ{W' ar} q=>af q g1 q2 g2 (by rw[q4];exact aI) (by rw[q5];exact bj))
    have UB:=zq hK n g1 q2 g2 (by rw[q4];exact aI);have QI:=amp hK g1 g2;rw[q5]at QI;rw[hc]at KC
    cases z:(Yy K n (Zp K (Zb K v (Zu x.1) si)).2).1 with
    |true=>
     obtain⟨y1,y2⟩:=g3 z;have aO:=acL (n:=n) hc z;obtain⟨z1,z2,z3⟩:=zu hK aw aN hv aL bG aO;have Sc:Hid (∀(W':A) (ar aK:aF),ZN w0 W' X K (Rz si.ZF.length (Yy K n (Zp K (Zb K v (Zu x.1) si)).2).2) ar aK->Zy X W W'->KeepsOthers W W'/\Mw W W'/\Hi w0 w X K n v s (s.L v) (pre++[x]) W'):=λW' ar aK q hf=>by
      obtain⟨a0,a1,a2,_,_⟩:=aS.out W' hf;exact⟨aZ.out W' hf,aC.out W' ⟨_,_,_,q⟩,_,ar,aK,acJ e1 aO,q,z1,z2.trans aG,z3.trans aH,by rw[(Hh _ _).1];exact UB,by rw[(Hh _ _).2];omega,ba.out.trans hf,a0,a1,a2⟩
     have KT:=ZQ.mk (λ{W':A} {ar aK:aF} (q:ZN w0 W' X K (Yy K n (Zp K (Zb K v (Zu x.1) si)).2).2 ar aK)=>acF q hK.WB (by rw[y2];exact q3) (by rw[y2];exact q2.le) (by rw[y2];exact Rw q1 q2))
     rw[z]at KE;generalize Yy K n (Zp K (Zb K v (Zu x.1) si)).2=g at *;generalize Zp K (Zb K v (Zu x.1) si)=k at *;clear hc z aO z1 z2 z3 y1 y2 g1 g2 g3 UB QI q1 q2 q3 q4 q5 q6 p1 p2 bG aL bu aN aT e1 aa aw av hr t0 t1 t2 af Rw aG aH aI bj;gi_wp2;gi_region_with_o (first|(have hz:=ZJ;clear hz;refine⟨trivial,(CallsIn.inRound l (ir.2 (KP.get (a7.out.grown ((ZG _ _).trans ZJ))))).mono ?_⟩;rintro e w4 ⟨rfl,⟨bO,br⟩,bB⟩)|(refine⟨trivial,(CallsIn.inRound l (ir.2 (KO.get _))).mono ?_⟩;rintro e w3 ⟨rfl,ZJ⟩;obtain⟨_,_,_,bk,bm⟩:=aS.out w3 (Zy.grown ((ZG _ _).trans ZJ))))
     all_goals
      have au:=(Zy.grown ((ZG _ _).trans ZJ)).trans bB;obtain⟨_,_,_,bn,bo⟩:=aS.out w4 au;gi_wp2_with (first|(have hz:=hs6;clear hz;refine⟨trivial,(CallsIn.inRound l (ir.2 (KT.get hs6))).mono ?_⟩;rintro e w7 ⟨rfl,⟨b9,bQ⟩,bU⟩)|(have hz:=Si;clear hz;refine⟨trivial,(CallsIn.inRound l (ir.2 (KE.get Si))).mono ?_⟩;rintro e w6 ⟨rfl,⟨Z,bV,hs6⟩,aQ⟩;obtain⟨_,_,_,cd,cf⟩:=aS.out w6 ((au.trans Te).trans aQ))|(refine⟨trivial,(CallsIn.inRound l (ir.2 (KC.get br))).mono ?_⟩;rintro e w5 ⟨rfl,⟨C3,Si⟩,Te⟩;obtain⟨_,_,_,bp,bq⟩:=aS.out w5 (au.trans Te)))
      exact Sc.out _ _ _ bQ (((au.trans Te).trans aQ).trans bU)
    |false=>
     have aO:=acM (n:=n) hc z;have Sc:Hid (∀(W':A) (ar aK:aF),ZN w0 W' X K (Yy K n (Zp K (Zb K v (Zu x.1) si)).2).2 ar aK->Zy X W W'->KeepsOthers W (W'.setCell (ah (w.heap.size+2)) (.bool false))/\E5 w0 w X K n v s (s.L v) .ret (pre++[x]) (W'.setCell (ah (w.heap.size+2)) (.bool false))/\W'.cell? (ah (w.heap.size+2))=some (.bool false)/\W'.frozen? (ah (w.heap.size+2))=false):=λW' ar aK q hf=>by
      obtain⟨a0,a1,a2,_,_⟩:=aS.out W' hf;refine⟨(aZ.out W' hf).trans (KeepsOthers.setCell _ _ _),⟨rfl,_,ar,aK,amm e1 aO,q.other a2 bc J,(ba.out.trans hf).fresh (ZC W' (w.heap.size+2) 0 (.bool false)) J,YE a2 0 _ rfl⟩,Z0 a2 0 _ rfl,Zz a2 0⟩
     rw[z]at KE;generalize Yy K n (Zp K (Zb K v (Zu x.1) si)).2=g at *;generalize Zp K (Zb K v (Zu x.1) si)=k at *;clear hc z aO g1 g2 g3 UB QI q1 q2 q3 q4 q5 q6 p1 p2 bG aL bu aN aT e1 aa aw av hr t0 t1 t2 af Rw aG aH aI bj;gi_wp2;gi_region_with_o (first|(have hz:=ZJ;clear hz;refine⟨trivial,(CallsIn.inRound l (ir.2 (KP.get (a7.out.grown ((ZG _ _).trans ZJ))))).mono ?_⟩;rintro e w4 ⟨rfl,⟨bO,br⟩,bB⟩)|(refine⟨trivial,(CallsIn.inRound l (ir.2 (KO.get _))).mono ?_⟩;rintro e w3 ⟨rfl,ZJ⟩;obtain⟨_,_,_,bk,bm⟩:=aS.out w3 (Zy.grown ((ZG _ _).trans ZJ))))
     all_goals
      have au:=(Zy.grown ((ZG _ _).trans ZJ)).trans bB;obtain⟨_,_,_,bn,bo⟩:=aS.out w4 au;gi_wp2_with (first|(have hz:=Si;clear hz;refine⟨trivial,(CallsIn.inRound l (ir.2 (KE.get Si))).mono ?_⟩;rintro e w6 ⟨rfl,⟨Z,bV,hs6⟩,aQ⟩;obtain⟨WG,WH,cj,ck⟩:=Sc.out w6 _ _ hs6 ((au.trans Te).trans aQ))|(refine⟨trivial,(CallsIn.inRound l (ir.2 (KC.get br))).mono ?_⟩;rintro e w5 ⟨rfl,⟨C3,Si⟩,Te⟩;obtain⟨_,_,_,bp,bq⟩:=aS.out w5 (au.trans Te)))
      exact⟨WG,WH⟩
  case done=>
   rintro dd ys W bW rfl ⟨si,bK,ax,e1,aa,aw,_,_,_,_,av,_,_,t2⟩ aR;rw[aJ]at e1;have k2:=Z0 t2 0 _ rfl;have f2:=Zz t2 0;have bl:=(KeepsOthers.setCell W (ah (w.heap.size+2)) (.bool true)).same dd _ aR rfl;have d2:(W.setCell (ah (w.heap.size+2)) (.bool true)).heap[w.heap.size+2]?=some (.cells #[.bool true] 4 (0,0)):=YE t2 0 _ rfl;have n2:=cell_kept (Z0 d2 0 _ rfl) (grownBy_putObj' _ dd (.deferred none)) (λr e=>by cases e;exact⟨_,bl,rfl⟩)
   have bt:w.heap.size+2∉X.own:=HH.out.QJ J;have YH:=aa.other (i:=0) (u:=.bool true) t2 bt J;have bf:=YH.Mn (B:=w.heap.size+4) (grownBy_putObj' _ dd (.deferred none)) (λr e=>by cases e;exact⟨J,_,bl,rfl⟩) J
   have aU:=(av.fresh (ZC W (w.heap.size+2) 0 (.bool true)) J).Mn (B:=w.heap.size+4) (grownBy_putObj' _ dd (.deferred none)) (λr e=>by cases e;exact⟨J,_,bl,rfl⟩) J
   have N2:=Z8 n2;have bX:=Z8 bl;have Oz:=Z8 bf;have E7:=Z8 aU;have bY:=Z8 e1;clear n2 d2 bl YH bf aU e1 aa aw av;gi_wp2;have n2:=N2.out;refine⟨pG,.inl ⟨_,_,rfl,run_takeDeferred bX.out,?_⟩⟩;refine⟨.bool true,?_,?_⟩
   ·simp[results,Tryz.f89,go_sem,n2]
   ·exact acO bY.out Oz.out E7.out
  case stop=>
   rintro dd c pre W bW aX ⟨rfl,si,bK,ax,e1,aa,av,t2⟩ aR;have e2:=amn aX e1;have k2:=Z0 t2 0 _ rfl;have n2:=cell_kept k2 (grownBy_putObj' W dd (.deferred none)) (λr e=>by cases e;exact⟨_,aR,rfl⟩)
   have bf:=aa.Mn (B:=w.heap.size+4) (grownBy_putObj' W dd (.deferred none)) (λr e=>by cases e;exact⟨J,_,aR,rfl⟩) J
   have aU:=av.Mn (B:=w.heap.size+4) (grownBy_putObj' W dd (.deferred none)) (λr e=>by cases e;exact⟨J,_,aR,rfl⟩) J
   have Oz:=Z8 bf;have E7:=Z8 aU;have bZ:=Z8 e2;clear e1 e2 aa av bf aU;gi_wp2;refine⟨pG,.inl ⟨_,_,rfl,run_takeDeferred aR,?_⟩⟩;refine⟨.bool false,?_,?_⟩
   ·simp[results,Tryz.f89,go_sem,n2]
   ·exact acO bZ.out Oz.out E7.out
end
section
open Go.RowKit
variable {w0 w w' aW:A}{X:SL}{K:SK}{s:SS}{vT vS:aF}
theorem acP (hK:YV K)(bR:K.XS<=9223372036854775807):∀(n:Nat) {W:A} {vT vS:aF} {t:SS},ZN w0 W X K t vT vS->U9 K t->TB t->XG t<n->t.Zx.length<=100000->0<=t.nodes->aq 51 #[ai X.b] W (Na w0 W X K (Yy K n t))
 |0,W,vT,vS,t,_,_,_,h,_,_=>absurd h (fI _)
 |n+1,W,vT,vS,t,h,hN,hT,aA,hle,bz=>
  aml h hK hN hT hle bz bR (λ{W2 a6 u v} q bC aY us ul un hv h0=>by
   obtain⟨_,n2⟩:=Aa K u;rw[hv]at n2;obtain⟨v1,v2,_⟩:=n2 h0;exact amr q hK bC aY (by rw[us];exact hle) (by rw[un];omega) (by unfold XG at aA⊢;rw[ul];omega) ⟨h0,by rw[<-bC.ok.ll];exact v1⟩ v2 (λ{W3 b7 dy y} a b c d e f=>acP hK bR n a b c d e f))
end
end Go.Proofs.YthpcbbnabnlanaaGreatDoor
