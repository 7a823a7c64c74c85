import Derived.Test.YthpcbbnabnlanaaGreatDoorM31
import Derived.Test.YthpcbbnabnlanaaGreatDoorM40
import Derived.Deep.OwnRows
namespace Go.Proofs.YthpcbbnabnlanaaGreatDoor
set_option maxHeartbeats 8000000
set_option maxRecDepth 100000
open Go.Proofs.Tryz
open Go.RowKit
set_option linter.all false
def Oa {n:Nat}{α:Type}(f:Fin n->α)(j:Fin n)(v:α):Fin n->α:=λi=>if i=j then v else f i
theorem E2 {n:Nat}{α:Type}(f:Fin n->α)(j:Fin n)(v:α):Oa f j v j=v:=by simp[Oa]
theorem Jg {n:Nat}{α:Type}(f:Fin n->α){j i:Fin n}(v:α)(h:i≠j):Oa f j v i=f i:=by simp[Oa,h]
structure KU {n:Nat}(w0 W:A)(Zl:Fin n->Obj)(f:Fin n->Option Nat):Prop where
 g:aB w0 W
 at_:∀j k,f j=some k->w0.heap.size<=k/\W.heap[k]?=some (Zl j)
 inj:∀i j k,f i=some k->f j=some k->i=j
theorem KU.more {n:Nat}{w0 W:A}{Zl:Fin n->Obj}{f:Fin n->Option Nat}(h:KU w0 W Zl f)(j:Fin n):KU w0 (W.alloc (Zl j)) Zl (Oa f j (some W.heap.size)):=by
 refine⟨h.g.trans (di _ _ _),λi k I=> ?_,λi i' k I aC=> ?_⟩
 ·by_cases e:i=j
  ·subst e;rw[E2]at I
   cases I;exact⟨h.g.size,gp _ _⟩
  ·rw[Jg _ _ e]at I;obtain⟨q1,q2⟩:=h.at_ i k I;exact⟨q1,(gq _ _ (aM.1 q2).1).trans q2⟩
 ·have lt:∀i k,f i=some k->k<W.heap.size:=λi k I=>(aM.1 (h.at_ i k I).2).1
  by_cases e:i=j
  ·by_cases e':i'=j
   ·rw[e,e']
   ·subst e;rw[E2]at I;rw[Jg _ _ e']at aC
    cases I;exact absurd (lt _ _ aC) (Nat.lt_irrefl _)
  ·by_cases e':i'=j
   ·subst e';rw[E2]at aC;rw[Jg _ _ e]at I
    cases aC;exact absurd (lt _ _ I) (Nat.lt_irrefl _)
   ·rw[Jg _ _ e]at I;rw[Jg _ _ e']at aC;exact h.inj i i' k I aC
theorem acR {P:Program}{ops:Array Oper}{Q:Exit->Act->A->Prop}{md:Region.Mode}{S:A->Prop}{n:Nat}(w0:A)(Zl:Fin n->Obj)(at_:Fin n->Nat)(sl:Fin n->Option Tmp)(nn:Fin n->Nat)(L:(Fin n->Bool)->Array Bool)(anY:(Fin n->Option Nat)->Act)(fuel:Nat)(hS:∀W,aB w0 W->S W)(aA:∀j,∃o t l c,ops[at_ j]?=some o/\o.guard=none/\o.dst=sl j/\o.op=Op.makeSlice t l c/\(∀f,(anY f).eval l=Y (nn j:Int))/\(∀f,(anY f).eval c=Y (nn j:Int))/\
   ∀W:A,(Instr.makeSlice t (Y (nn j:Int)) (Y (nn j:Int))).run P W=.ok (aj W.heap.size (nn j) (nn j)) (W.alloc (Zl j)))
  (hL:∀j g,(L g).setIfInBounds (at_ j) true=L (Oa g j true))
  (hA:∀j f k,(anY f).put (sl j) (aj k (nn j) (nn j))=anY (Oa f j (some k)))
  (bX:∀g,(∃j,g j=false)->Region.ready md ops (L g)≠[]/\∀i∈Region.ready md ops (L g),∃j,i=at_ j/\g j=false)
  (aP:∀f W,(∀j,f j≠none)->KU w0 W Zl f->wpAnyH P md ops Q S fuel (L λ_=>true) (anY f) W):
  ∀(m:Nat) (f:Fin n->Option Nat) (T:List (Fin n)) (W:A),T.length=m->(∀j,f j=none↔j∈T)->T.Nodup->KU w0 W Zl f->wpAnyH P md ops Q S (fuel+m) (L λj=>(f j).isSome) (anY f) W
 |0,f,T,W,hT,hf,_,hM=>by
  have bI:T=[]:=bA.1 hT;subst bI;have ck:∀j,f j≠none:=λj e=>by have:=(hf j).1 e;cases this
  have:(λj=>(f j).isSome)=λ_=>true:=funext λj=>by
   cases e:f j with
   |none=>exact absurd e (ck j)
   |some k=>rfl
  rw[this];exact aP f W ck hM
 |m+1,f,T,W,hT,hf,aK,hM=>by
  have hex:∃j,(λj=>(f j).isSome) j=false:=by
   match T,hT with
   |j::T,_=>exact⟨j,by simp[(hf j).2 (dC ..)]⟩
  obtain⟨ZP,bg⟩:=bX _ hex;refine wpAnyH_all rfl ZP (λi hi=> ?_)
  obtain⟨j,rfl,hj⟩:=bg i hi;have cG:f j=none:=by cases e:f j with|none=>rfl|some k=>simp[e]at hj
  obtain⟨o,t,l,c,F,h2,h3,h4,h5,h6,h7⟩:=aA j;refine wpOp_step F (λK' bl=> ?_)
  rw[iR (by simp[Region.wanted,h2])];unfold Oper.wp;have Yi:(execOp (anY f).eval o).run P W=.ok (.value (aj W.heap.size (nn j) (nn j))) (W.alloc (Zl j)):=by
   simp[execOp,h4,h5,h6,h7,Result.andThen]
  rw[Yi,fM];refine bl _ _ ?_;have cm:=hM.more j;refine⟨hS _ cm.g,?_⟩;rw[hL j,h3,hA j];have e1:Oa (λj=>(f j).isSome) j true=λi=>(Oa f j (some W.heap.size) i).isSome:=funext λi=>by
   by_cases e:i=j
   ·subst e;simp[E2]
   ·simp[Jg _ _ e]
  rw[e1];refine acR w0 Zl at_ sl nn L anY fuel hS aA hL hA bX aP m _ (T.erase j) _ ?_ (λi=> ?_) (aK.erase j) cm
  ·rw[List.length_erase_of_mem ((hf j).1 cG)];omega
  ·by_cases e:i=j
   ·subst e;simp[E2,List.Nodup.mem_erase_iff aK]
   ·rw[Jg _ _ e,hf i,List.Nodup.mem_erase_iff aK];exact⟨λh=>⟨e,h⟩,λh=>h.2⟩
variable {w0 w w' aW:A}{X:SL}{K:SK}{s:SS}{vT vS:aF}
def Tt (us:List (az))(c:Int)(vs:az):List (az):=vs.foldl (λus v=>us.set v.toNat (us.getD v.toNat []++[c])) us
def UW (n:Nat)(YP:List (az)):List (az):=YP.zipIdx.foldl (λus p=>Tt us (p.2:Int) p.1) (List.replicate n [])
theorem acS (us:List (az))(c:Int):Tt us c []=us:=rfl
theorem zm (us:List (az))(c v:Int)(vs:az):Tt us c (v::vs)=Tt (us.set v.toNat (us.getD v.toNat []++[c])) c vs:=rfl
theorem amC (us:List (az))(c v:Int)(vs:az):Tt us c (vs++[v])=(Tt us c vs).set v.toNat ((Tt us c vs).getD v.toNat []++[c]):=by
 unfold Tt;rw[List.foldl_append];rfl
theorem zl (c:Int):∀(vs:az) (us:List (az)),(Tt us c vs).length=us.length
 |[],us=>rfl
 |v::vs,us=>by rw[zm,zl c vs,fC]
theorem zk (us:List (az))(i j:Nat)(x:az)(hi:i<us.length):(us.set i x).getD j []=if j=i then x else us.getD j []:=by
 simp only[aN,dS];by_cases e:j=i
 ·subst e;simp[hi]
 ·rw[iQ (λh=>e h.symm),iQ e]
theorem acT (c:Int):∀(vs:az) (us:List (az)),(∀v∈vs,0<=v/\v.toNat<us.length)->∀(j:Nat) (x:Int),x∈(Tt us c vs).getD j []↔x∈us.getD j []\/(x=c/\(j:Int)∈vs)
 |[],us,_,j,x=>by simp[acS]
 |v::vs,us,h,j,x=>by
  obtain⟨F,h2⟩:=h v pG;rw[zm,acT c vs _ (λu hu=>by have:=h u rB;rw[fC];exact this),zk _ _ _ _ h2]
  by_cases e:j=v.toNat
  ·have:(j:Int)=v:=J;rw[iR e];simp[this,<-e];intro h _;exact .inr h
  ·have:(j:Int)≠v:=J;rw[iQ e];simp[this]
theorem zj (c:Int):∀(vs:az) (us:List (az)) (j:Nat),((Tt us c vs).getD j []).length<=(us.getD j []).length+vs.length
 |[],us,j=>by simp[acS]
 |v::vs,us,j=>by
  have:=zj c vs (us.set v.toNat (us.getD v.toNat []++[c])) j;rw[zm];have k:((us.set v.toNat (us.getD v.toNat []++[c])).getD j []).length<=(us.getD j []).length+1:=by
   by_cases hl:v.toNat<us.length
   ·rw[zk _ _ _ _ hl];split
    ·rename_i e;subst e;simp
    ·omega
   ·rw[List.set_eq_of_length_le J];omega
  simp only[eM];omega
theorem zi (n:Nat)(l:List (az))(x:az):UW n (l++[x])=Tt (UW n l) l.length x:=by
 unfold UW;rw[List.zipIdx_append,List.foldl_append];simp
theorem zh (n:Nat)(l:List (az)):(UW n l).length=n:=by
 unfold UW
 suffices h:∀(ps:List (az×Nat)) (us:List (az)),(ps.foldl (λus p=>Tt us (p.2:Int) p.1) us).length=us.length by rw[h];simp
 intro ps
 induction ps with
 |nil=>intro us;rfl
 |cons p ps ih=>intro us;rw[ft,ih,zl]
theorem acU {α:Type}{p:List α->Prop}(h0:p [])(F:∀l x,p l->p (l++[x]))(l:List α):p l:=by
 have:∀r:List α,p r.reverse:=λr=>by
  induction r with
  |nil=>exact h0
  |cons x r ih=>rw[List.reverse_cons];exact F _ _ ih
 have q:=this l.reverse
 rwa [List.reverse_reverse]at q
theorem amD (n:Nat)(l:List (az)):(∀vs∈l,∀v∈vs,0<=v/\v<n)->∀(j:Nat),j<n->∀x:Int,x∈(UW n l).getD j []↔0<=x/\x<l.length/\(j:Int)∈l.getD x.toNat []:=by
 refine acU (p:=λl=>(∀vs∈l,∀v:Int,v∈vs->0<=v/\v<(n:Int))->∀(j:Nat),j<n->∀x:Int,x∈(UW n l).getD j []↔0<=x/\x<l.length/\(j:Int)∈l.getD x.toNat []) ?_ ?_ l
 ·intro _ j hj x;simp[UW,hj]
 ·intro l vs ih h j hj x;rw[zi,acT _ _ _ (λv hv=>by have:=h vs pG v hv;rw[zh];omega),ih (λu hu=>h u rB) j hj x]
  constructor
  ·rintro(⟨F,h2,h3⟩|⟨rfl,h2⟩)
   ·refine⟨F,by simp;omega,?_⟩;rw[aN,aT J,<-aN];exact h3
   ·refine⟨J,by simp;omega,?_⟩;simp[h2]
  ·rintro⟨F,h2,h3⟩;by_cases e:x<l.length
   ·left
    refine⟨F,e,?_⟩;rw[aN,aT J,<-aN]at h3;exact h3
   ·right
    have e2:x=l.length:=by simp at h2;omega
    subst e2;refine⟨rfl,?_⟩;simpa using h3
theorem acV (n b:Nat)(l:List (az)):(∀vs∈l,vs.length<=b)->∀j:Nat,((UW n l).getD j []).length<=b*l.length:=by
 refine acU (p:=λl=>(∀vs∈l,vs.length<=b)->∀j:Nat,((UW n l).getD j []).length<=b*l.length) ?_ ?_ l
 ·intro _ j;simp[UW,bz];split<;>simp
 ·intro l vs ih h j;rw[zi];have F:=zj l.length vs (UW n l) j;have h2:=ih (λu hu=>h u rB) j
  have h3:=h vs pG;rw[dA,bP,Nat.mul_add];omega
theorem amE (l:List Nat)(n i:Nat)(h:i<l.length)(hn:n=l.length)(D:Nat)(hD:l[i]?=some D):(l.take i++List.replicate (n-i) 0).set i D=l.take (i+1)++List.replicate (n-(i+1)) 0:=by
 subst hn;have e:l.length-i=(l.length-(i+1))+1:=J;rw[e,List.replicate_succ,bQ _ _ pI,dX,hD];simp[eP,fH (gY h)]
theorem amF (m i:Nat)(h:i<m):(List.replicate i true++List.replicate (m-i) false).set i true=List.replicate (i+1) true++List.replicate (m-(i+1)) false:=by
 have e:m-i=(m-(i+1))+1:=J;rw[e,List.replicate_succ,bQ _ _ pG];simp[cF]
def QH (vars:List Xx)(cons:List Yz)(order:Int)(VO:Bool)(XS:Int):SK:=⟨vars,cons,cons.map XV,UW vars.length (cons.map XV),order,VO,XS⟩
theorem amG (cons:List Yz){i:Nat}{c:Yz}(h:cons[i]?=some c):(cons.map XV).getD i []=XV c:=by
 rw[aN,dR,h];rfl
theorem acW {vars:List Xx}{cons:List Yz}{order XS:Int}{VO:Bool}(F:∀v∈vars,-1000<=v.low/\v.low<=v.high/\v.high<=1000)(h2:vars.length<=8)(h3:∀c∈cons,UF vars.length (O9 vars) c)(h4:cons.length<=16):YV (QH vars cons order VO XS):=by
 have hle:∀vs∈cons.map XV,vs.length<=9:=λvs bj=>by
  obtain⟨c,hc,rfl⟩:=gU.1 bj;exact gZ (zn c) (KX (h3 c hc))
 have aX:∀vs∈cons.map XV,∀v:Int,v∈vs->0<=v/\v<(vars.length:Int):=λvs bj v hv=>by
  obtain⟨c,hc,rfl⟩:=gU.1 bj;have q:=R6 (h3 c hc) v ((zo c v).1 hv);exact⟨q.1,q.2⟩
 refine⟨F,h2,h3,h4,by simp[QH],zh _ _,λi c hc v=> ?_,λv=> ?_,λi=> ?_,λv hv c=> ?_⟩
 ·show v∈(cons.map XV).getD i []↔_;rw[amG cons hc,zo]
 ·have:=acV vars.length 9 (cons.map XV) hle v;rw[fy]at this;show((UW vars.length (cons.map XV)).getD v []).length<=3000;omega
 ·show((cons.map XV).getD i []).length<=3000;rw[aN]
  cases e:(cons.map XV)[i]? with
  |none=>simp
  |some vs=>have:=hle vs (cq e);simp;omega
 ·have:=amD vars.length (cons.map XV) aX v hv c;rw[fy]at this;exact this
def N9 (n m:Nat):Fin 6->Obj
 |0=>.cells (madeCells (dL 0).toArray (n*32)) 161
 |1=>.cells (madeCells #[Y 0] n) 3
 |2=>.cells (madeCells #[.bool false] n) 4
 |3=>.cells (madeCells #[af] m) 33
 |4=>.cells (madeCells #[af] n) 33
 |5=>.cells (madeCells #[.bool false] m) 4
def N8 (k:Fin 6->Nat)(b bc B:Nat)(vV vC:aF)(cs:List X7)(n m:Nat):SL:=⟨b,k 0,k 1,k 2,k 5,k 3,k 4,bc,B,vV,vC,cs,List.replicate m (af),List.replicate n (af)⟩
def Q0 (K:SK)(YP Wm:List (az)):SK:={K with YP:=YP,Wm:=Wm}
def UD (K:SK)(i j:Nat):SS:={left:=(K.vars.map λv=>U' v.low v.high).take i++List.replicate (K.vars.length-i) 0,ZF:=[],marked:=List.replicate j true++List.replicate (K.cons.length-j) false,nodes:=0,Zx:=[],ending:=0}
theorem amH (K:SK):UD K K.vars.length K.cons.length=Xj K:=by
 unfold UD Xj;congr 1
 ·rw[bH pG,ij];simp
 ·rw[ij,List.map_const'];simp
theorem E1 (anZ:aF)(n:Nat):madeCells #[anZ] n=(List.replicate n anZ).toArray:=by
 apply dp;intro i;simp only[madeCells,bO,bz];by_cases h:i<n
 ·simp[h,Nat.mod_one]
 ·simp[h]
theorem amI:WE 0=0:=pF
theorem amJ:Yd 0=false:=pF
theorem acX (n i:Nat):(List.replicate n ([]:az)).getD i []=[]:=by
 rw[aN,bz];split<;>rfl
theorem CR {n i:Nat}{anZ v:aF}(h:(List.replicate n anZ)[i]?=some v):v=anZ:=by
 rw[bz]at h;split at h
 ·cases h;rfl
 ·cases h
theorem amK {k:Fin 6->Nat}{W:A}{bc B:Nat}{vV vC:aF}{cs:List X7}(hM:KU w W (N9 K.vars.length K.cons.length) (λj=>some (k j)))(aV:PQ w bc B vV vC K.vars cs)(WS:cs.map (·.c)=K.cons)(aL:VP w){X:SL}(hX:X=N8 k W.heap.size bc B vV vC cs K.vars.length K.cons.length):ZN w (W.alloc (.cells (Hn X K (UD K 0 0) (af) (af)) 106)) X (Q0 K [] (List.replicate K.vars.length [])) (UD K 0 0) (af) (af):=by
 subst hX;have lt:∀j,k j<W.heap.size:=λj=>YY (hM.at_ j _ rfl).2
 have lo:∀j,w.heap.size<=k j:=λj=>(hM.at_ j _ rfl).1
 have ne:∀i j,i≠j->k i≠k j:=λi j h e=>h (hM.inj i j (k i) rfl (iJ some e.symm))
 have at_:∀(o:Obj) j,(W.alloc o).heap[k j]?=some (N9 K.vars.length K.cons.length j):=λo j=>(gq _ _ (lt j)).trans (hM.at_ j _ rfl).2
 refine⟨hM.g.trans (di _ _ _),?_,?_,gp _ _,?_,?_,?_,?_,ed _ _ _ _,(λg e=>pL),⟨[],ed _ _ _ _,(λi v h=>rN),(λi j v u g h=>rN),λ_=>rfl⟩,(λg e=>pL),?_,?_,?_,?_,?_,?_,?_,aV,WS,aL⟩
 ·intro b hb;simp only[SL.own,N8,gH,eQ,iM]at hb;rcases hb with rfl|rfl|rfl|rfl|rfl
  ·exact hM.g.size
  all_goals exact lo _
 ·have n0:∀j,W.heap.size≠k j:=λj e=>by have:=lt j;omega
  simp only[SL.own,N8,List.nodup_cons,gH,eQ,iM,not_or,fY,iI,not_false_eq_true];refine⟨⟨n0 0,n0 1,n0 2,n0 5⟩,⟨ne 0 1 pF,ne 0 2 pF,ne 0 5 pF⟩,⟨ne 1 2 pF,ne 1 5 pF⟩,ne 2 5 pF⟩
 ·refine⟨_,at_ _ 0,gy _ _,by simp[UD,Q0],λi D hD j v hv=> ?_⟩
  have hi:i<K.vars.length/\D=0:=by
   simp only[UD,List.take_zero,fF,Nat.sub_zero,bz]at hD;split at hD
   ·rename_i h;exact⟨h,by cases hD;rfl⟩
   ·cases hD
  obtain⟨hi,rfl⟩:=hi;have hj:j<32:=by have:=(aU.1 hv).1;rw[QK]at this;exact this
  have ZR:i*32+j<K.vars.length*32:=J;have hs:(dL 0).toArray.size=32:=by simp[QK]
  have hm:(i*32+j)%32=j:=J;have Ke:j<(dL 0).length:=by rw[QK];exact hj
  unfold madeCells;rw[Array.getElem?_map,Array.getElem?_range,iR ZR,fN,hs,hm];rw[aZ Ke]at hv;rw[<-hv];simp[Ke]
 ·refine(at_ _ 1).trans ?_;simp[N9,UD,E1,dB,amI]
 ·refine(at_ _ 2).trans ?_;simp[N9,UD,E1,dB,amJ]
 ·refine(at_ _ 5).trans ?_;simp[N9,UD,E1,dB]
 ·refine(at_ _ 3).trans ?_;simp[N9,E1,N8]
 ·simp[N8,Q0]
 ·intro i v hv;have:v=af:=CR hv;exact .inl ⟨by simp[Q0],none,0,this⟩
 ·refine(at_ _ 4).trans ?_;simp[N9,E1,N8]
 ·simp[N8,Q0]
 ·intro i v hv;have:v=af:=CR hv;exact .inl ⟨acX _ _,none,0,this⟩
 ·have n0:∀j,k j≠W.heap.size:=λj e=>by have:=lt j;omega
  simp only[SL.own,N8,gH,eQ,iM,not_or];exact⟨⟨n0 3,ne 3 0 pF,ne 3 1 pF,ne 3 2 pF,ne 3 5 pF⟩,⟨n0 4,ne 4 0 pF,ne 4 1 pF,ne 4 2 pF,ne 4 5 pF⟩⟩
theorem ZN.rows (h:ZN w0 w X K s vT vS)(z:aB w0 w')(I:∀k o,w.heap[k]?=some o->k∈X.own->w'.heap[k]?=some o){cv us:ay}{YP Wm:List (az)}(c1:w'.heap[X.gc]?=some (.cells cv.toArray 33 (0,0)))(c2:cv.length=K.cons.length)(c3:∀i v,cv[i]?=some v->Q2 X w' v (YP.getD i []))(u1:w'.heap[X.gu]?=some (.cells us.toArray 33 (0,0)))(u2:us.length=K.vars.length)(u3:∀i v,us[i]?=some v->Q2 X w' v (Wm.getD i []))(ht:s.ZF=[])(hs:s.Zx=[])(e1:vT=af)(e2:vS=af):ZN w0 w' {X with cv:=cv,us:=us} (Q0 K YP Wm) s vT vS:=by
 subst e1 e2;refine⟨z,h.low,h.nd,I _ _ h.U8 Rn,h.left.kept (λo ho=>I _ _ ho Fg),I _ _ h.Z7 C8,I _ _ h.Rv C7,I _ _ h.mark KZ,by rw[ht];exact ed _ _ _ _,(λg e=>pL),by rw[hs];exact⟨[],ed _ _ _ _,(λi v h=>rN),(λi j v u g h=>rN),λ_=>rfl⟩,(λg e=>pL),c1,c2,c3,u1,u2,u3,h.cap,h.PY,h.Ng,h.Ms⟩
structure RY (w0 w:A)(X:SL)(K:SK)(s:SS):Prop where
 sat:ZN w0 w X K s (af) (af)
 tr:s.ZF=[]
 so:s.Zx=[]
 E0:X.gc≠X.gu
 lo:w0.heap.size<=X.gc/\w0.heap.size<=X.gu
 own:∀(i:Nat) (v:aF),X.us[i]?=some v->w.ownsRow w0.heap.size 3 1 v (K.Wm.getD i []).length ((K.Wm.getD i []).map (Value.int .i64))
 ap:∀(i:Nat) (v:aF) (g:Nat),X.us[i]?=some v->v.ownBlock=some g->g∉X.own/\∀u∈X.cv,u.ownBlock≠some g
 inj:∀(i j:Nat) (v u:aF) (g:Nat),X.us[i]?=some v->X.us[j]?=some u->v.ownBlock=some g->u.ownBlock=some g->i=j
 CQ:∀u∈X.cv,∀g,u.ownBlock=some g->g<w.heap.size
theorem EZ {B n:Nat}{v:aF}{xs:ay}(h:w.ownsRow B 3 1 v n xs)(I:∀g cur,v.ownBlock=some g->w.heap[g]?=some (.cells cur 3 (0,0))->w'.heap[g]?=some (.cells cur 3 (0,0))):w'.ownsRow B 3 1 v n xs:=by
 refine⟨h.1,?_⟩;rcases h.2 with q|⟨g,cap,cur,q1,q2,q3,q4⟩
 ·exact .inl q
 ·exact .inr ⟨g,cap,cur,q1,q2,I g cur tO q3,q4⟩
theorem Hg {B n b:Nat}{e s:Nat}{v:aF}{xs:ay}(h:w.ownsRow B e s v n xs)(hb:v.ownBlock=some b):∃cur,w.heap[b]?=some (.cells cur e (0,0)):=by
 rcases h.2 with⟨q,_⟩|⟨g,cap,cur,q1,_,q3,_⟩
 ·rw[q]at hb;cases hb
 ·rw[q1]at hb;have:g=b:=by injection hb
  subst this;exact⟨cur,q3⟩
theorem RY.Jt {s':SS}(h:RY w0 w X K s)(hs:ZN w0 w' X K s' (af) (af))(hf:Zy X w w')(F:s'.ZF=[])(h2:s'.Zx=[]):RY w0 w' X K s':=
 ⟨hs,F,h2,h.E0,h.lo,λi v hv=>EZ (h.own i v hv) (λg cur e q=>hf.block g _ q (h.ap i v g hv e).1 (λc f e=>pL) (λc f e=>pL)),h.ap,h.inj,λu hu g e=>dH (h.CQ u hu g e) hf.size⟩
theorem RY.grown (h:RY w0 w X K s)(z:aB w w'):RY w0 w' X K s:=h.Jt (h.sat.grown z) (Zy.grown z) h.tr h.so
theorem amL {B n:Nat}{v:aF}{l:az}(h:w.ownsRow B 3 1 v n (l.map (Value.int .i64)))(hn:n=l.length)(hX:∀g,v.ownBlock=some g->g∉X.own):Q2 X w v l:=by
 subst hn;rcases h.2 with⟨q1,q2⟩|⟨g,cap,cur,q1,q2,q3,q4,q5,q6,q7⟩
 ·subst q1;exact .inl ⟨bA.1 q2,none,0,rfl⟩
 ·refine .inr ⟨g,cap,cur,q1,q3,λj x hx=> ?_,hX g tO,q4⟩
  have hj:j<l.length:=(aU.1 hx).1;have e:(cur.toList.take (l.length*1))[j]?=some (Y x):=by rw[q7,dR,hx];rfl
  rw[dz,iR J]at e;simpa using e
theorem Q2.at_ {v:aF}{l:az}(h:Q2 X w v l)(I:∀g cells,v.ownBlock=some g->w.heap[g]?=some (.cells cells 3 (0,0))->w'.heap[g]?=some (.cells cells 3 (0,0))):Q2 X w' v l:=by
 rcases h with h|⟨g,cap,cells,F,h2,h3,h4,h5⟩
 ·exact .inl h
 ·exact .inr ⟨g,cap,cells,F,I g cells uZ h2,h3,h4,h5⟩
theorem CP {k g:Nat}{c c':Array aF}(F:w.heap[k]?=some (.cells c 3 (0,0)))(h2:w.heap[g]?=some (.cells c' 33 (0,0))):k≠g:=λe=>by
 subst e;rw[h2]at F;injection F with F;injection F with _ F;exact absurd F pF
def mQ{P:Prop}(h:P:=by
 exact amL ou rfl (λk I=>by rw[Mm]at I;cases I;exact zg)):P:=h
theorem RY.vars (h:RY w0 w X K s){c:Nat}(hc:K.YP.length=c)(hl:c<K.cons.length){l:az}{g cap:Nat}(z:aB w w')(ho:w'.ownsRow w.heap.size 3 1 (aj g l.length cap) l.length (l.map (Value.int .i64))):RY w0 (w'.setCell (O X.gc c) (aj g l.length cap)) {X with cv:=X.cv.set c (aj g l.length cap)} (Q0 K (K.YP++[l]) K.Wm) s:=by
 obtain⟨u,hu⟩:∃u:aF,u=aj g l.length cap:=⟨_,rfl⟩;have Mm:u.ownBlock=some g:=by rw[hu];rfl
 rw[<-hu]at ho⊢;have gs:=ZC w' X.gc c u;have aQ:w.heap.size<=g:=(ho.lt g Mm).1;obtain⟨cur,cH⟩:=Hg ho Mm;have hs:=h.sat;have zg:g∉X.own:=hs.QJ aQ;have old:∀{k:Nat} {o:Obj},w.heap[k]?=some o->w'.heap[k]?=some o:=λ{k o} I=>(z.block k (YY I) pG).trans I
 have last:∀{k:Nat} {o:Obj},w'.heap[k]?=some o->k≠X.gc->(w'.setCell (O X.gc c) u).heap[k]?=some o:=λ{k o} I ZP=>(gs.block k (YY I) (λe=>ZP qI)).trans I
 have ints:∀(k:Nat) (cells:Array aF),w'.heap[k]?=some (.cells cells 3 (0,0))->(w'.setCell (O X.gc c) u).heap[k]?=some (.cells cells 3 (0,0)):=λk cells I=>last I (CP I (old hs.Ru))
 have ou:(w'.setCell (O X.gc c) u).ownsRow w.heap.size 3 1 u l.length (l.map (Value.int .i64)):=EZ ho (λk cur _ q=>ints k cur q)
 refine⟨hs.rows (Ri (hs.g0.trans z) h.lo.1 gs) (λk o I hm=>last (old I) (λe=>hs.cap.1 uQ)) (YE (old hs.Ru) c u pG) (by rw[fC];exact hs.PC) (λi v hv=> ?_) (last (old hs.Q1) h.E0.symm) hs.Nh (λi v hv=>(hs.usr i v hv).at_ (λk cells _ q=>ints k cells (old q))) h.tr h.so rfl rfl,h.tr,h.so,h.E0,h.lo,λi v hv=>EZ (h.own i v hv) (λk cur _ q=>ints k cur (old q)),λi v k hv I=>⟨(h.ap i v k hv I).1,λx hx=> ?_⟩,h.inj,λx hx k I=> ?_⟩
 ·by_cases e:i=c
  ·subst e;have:v=u:=by
    rw[bG (by have:=hs.PC;omega)]at hv
    cases hv;rfl
   subst this;have e2:(K.YP++[l]).getD i []=l:=by simp[aN,<-hc]
   rw[e2];exact mQ
  ·rw[bZ (λq=>e q.symm)]at hv
   have e2:(K.YP++[l]).getD i []=K.YP.getD i []:=by
    rw[aN,aN];rcases ib i K.YP.length with q|q
    ·rw[aT q]
    ·rw[aO q,bN pI,bN q]
   rw[e2];exact(hs.Ni i v hv).at_ (λk cells _ q=>ints k cells (old q))
 ·rcases List.mem_or_eq_of_mem_set hx with q|q
  ·exact(h.ap i v k hv I).2 x q
  ·subst q;rw[Mm];intro e
   cases e;obtain⟨c2,V7⟩:=Hg (h.own i v hv) I;have:=YY V7;omega
 ·have hle:=gZ z.size gs.size;rcases List.mem_or_eq_of_mem_set hx with q|q
  ·exact dH (h.CQ x q k I) hle
  ·subst q;rw[Mm]at I
   cases I;exact YY (ints _ _ cH)
theorem RY.user (h:RY w0 w X K s){i:Nat}{v:aF}(hv:X.us[i]?=some v)(hi:i<K.Wm.length){c:Int}{g cap:Nat}(z:w.grownBy w' v.ownBlock)(YG:v.ownBlock=some g\/g=w.heap.size)(ho:w'.ownsRow w0.heap.size 3 1 (aj g ((K.Wm.getD i []).length+1) cap) ((K.Wm.getD i []).length+1) ((K.Wm.getD i []).map (Value.int .i64)++[Y c])):RY w0 (w'.setCell (O X.gu i) (aj g ((K.Wm.getD i []).length+1) cap)) {X with us:=X.us.set i (aj g ((K.Wm.getD i []).length+1) cap)} (Q0 K K.YP (K.Wm.set i (K.Wm.getD i []++[c]))) s:=by
 obtain⟨u,hu⟩:∃u:aF,u=aj g ((K.Wm.getD i []).length+1) cap:=⟨_,rfl⟩;have Mm:u.ownBlock=some g:=by rw[hu];rfl
 rw[<-hu]at ho⊢;have bC:w'.ownsRow w0.heap.size 3 1 u (K.Wm.getD i []++[c]).length ((K.Wm.getD i []++[c]).map (Value.int .i64)):=by
  rw[dA,fD];exact ho
 have hs:=h.sat;have gs:=ZC w' X.gu i u;have Z:=h.own i v hv;have sub:∀{k:Nat},v.ownBlock=some k->k<w.heap.size:=λ{k} e=>by obtain⟨c2,V7⟩:=Hg Z e;exact YY V7
 have old:∀{k:Nat} {o:Obj},w.heap[k]?=some o->v.ownBlock≠some k->w'.heap[k]?=some o:=λ{k o} I ZP=>(z.block k (YY I) (λe=>ZP e.symm)).trans I
 have cn:∀{k:Nat} {c2:Array aF},w.heap[k]?=some (.cells c2 33 (0,0))->v.ownBlock≠some k:=λ{k c2} I e=>by
  obtain⟨c3,aJ⟩:=Hg Z e;exact CP aJ I rfl
 have bm:=old hs.Q1 (cn hs.Q1);have cI:=old hs.Ru (cn hs.Ru);have last:∀{k:Nat} {o:Obj},w'.heap[k]?=some o->k≠X.gu->(w'.setCell (O X.gu i) u).heap[k]?=some o:=λ{k o} I ZP=>(gs.block k (YY I) (λe=>ZP qI)).trans I
 have ints:∀(k:Nat) (cells:Array aF),w'.heap[k]?=some (.cells cells 3 (0,0))->(w'.setCell (O X.gu i) u).heap[k]?=some (.cells cells 3 (0,0)):=λk cells I=>last I (CP I bm)
 have ou:(w'.setCell (O X.gu i) u).ownsRow w0.heap.size 3 1 u (K.Wm.getD i []++[c]).length ((K.Wm.getD i []++[c]).map (Value.int .i64)):=EZ bC (λk cur _ q=>ints k cur q)
 have zg:g∉X.own:=by
  rcases YG with e|e
  ·exact(h.ap i v g hv e).1
  ·exact hs.QJ (Nat.le_of_eq e.symm)
 have bt:i<X.us.length:=(aU.1 hv).1;have split:∀{j:Nat} {x:aF},(X.us.set i u)[j]?=some x->(j=i/\x=u)\/(j≠i/\X.us[j]?=some x):=λ{j x} q=>by
  by_cases e:j=i
  ·subst e;rw[bG bt]at q
   cases q;exact .inl ⟨rfl,rfl⟩
  ·rw[bZ (λq=>e q.symm)]at q
   exact .inr ⟨e,q⟩
 have YQ:∀{j:Nat} {x:aF} {k:Nat},j≠i->X.us[j]?=some x->x.ownBlock=some k->v.ownBlock≠some k:=λ{j x k} hj hx I e=>hj (h.inj j i x v k hx hv I e)
 have cp:∀j,(K.Wm.set i (K.Wm.getD i []++[c])).getD j []=if j=i then K.Wm.getD i []++[c]else K.Wm.getD j []:=λj=>zk _ _ _ _ hi
 refine⟨hs.rows (Ri (CU hs.g0 Z (iw _) z) h.lo.2 gs) (λk o I hm=>last (old I (λe=>(h.ap i v k hv e).1 hm)) (λe=>hs.cap.2 uQ)) (last cI h.E0) hs.PC (λj x hx=> ?_) (YE bm i u pG) (by rw[fC];exact hs.Nh) (λj x hx=> ?_) h.tr h.so rfl rfl,h.tr,h.so,h.E0,h.lo,λj x hx=> ?_,λj x k hx I=> ?_,λj j' x x' k hx aG I aC=> ?_,λx hx k I=>dH (h.CQ x hx k I) (gZ z.size gs.size)⟩
 ·exact(hs.Ni j x hx).at_ (λk cells e q=>ints k cells (old q (λe2=>(h.ap i v k hv e2).2 x (cq hx) e)))
 ·rw[cp];rcases split hx with⟨rfl,rfl⟩|⟨hj,hx⟩
  ·rw[iR rfl];exact mQ
  ·rw[iQ hj];exact(hs.usr j x hx).at_ (λk cells e q=>ints k cells (old q (YQ hj hx e)))
 ·show World.ownsRow _ _ _ _ _ ((K.Wm.set i (K.Wm.getD i []++[c])).getD j []).length (((K.Wm.set i (K.Wm.getD i []++[c])).getD j []).map (Value.int .i64));rw[cp];rcases split hx with⟨rfl,rfl⟩|⟨hj,hx⟩
  ·rw[iR rfl];exact ou
  ·rw[iQ hj];exact EZ (h.own j x hx) (λk cur e q=>ints k cur (old q (YQ hj hx e)))
 ·rcases split hx with⟨rfl,rfl⟩|⟨hj,hx⟩
  ·rw[Mm]at I
   cases I;refine⟨zg,λy hy e=> ?_⟩
   rcases YG with q|q
   ·exact(h.ap j v g hv q).2 y hy e
   ·have:=h.CQ y hy g e;omega
  ·exact h.ap j x k hx I
 ·have blt:∀{j:Nat} {x:aF} {k:Nat},X.us[j]?=some x->x.ownBlock=some k->k<w.heap.size:=λ{j x k} q1 q2=>by obtain⟨c2,V7⟩:=Hg (h.own j x q1) q2;exact YY V7
  rcases split hx with⟨rfl,rfl⟩|⟨hj,WH⟩
  ·rcases split aG with⟨rfl,_⟩|⟨PN,bq⟩
   ·rfl
   ·rw[Mm]at I
    cases I;rcases YG with q|q
    ·exact absurd q (YQ PN bq aC)
    ·have:=blt bq aC;omega
  ·rcases split aG with⟨rfl,rfl⟩|⟨PN,bq⟩
   ·rw[Mm]at aC
    cases aC;rcases YG with q|q
    ·exact absurd q (YQ hj WH I)
    ·have:=blt WH I;omega
   ·exact h.inj j j' x x' k WH bq I aC
theorem amM {k:Fin 6->Nat}{W:A}{bc B:Nat}{vV vC:aF}{cs:List X7}(hM:KU w W (N9 K.vars.length K.cons.length) (λj=>some (k j)))(aV:PQ w bc B vV vC K.vars cs)(WS:cs.map (·.c)=K.cons)(aL:VP w){X:SL}(hX:X=N8 k W.heap.size bc B vV vC cs K.vars.length K.cons.length):RY w (W.alloc (.cells (Hn X K (UD K 0 0) (af) (af)) 106)) X (Q0 K [] (List.replicate K.vars.length [])) (UD K 0 0):=by
 have q:=amK hM aV WS aL hX;subst hX;have lo:∀j,w.heap.size<=k j:=λj=>(hM.at_ j _ rfl).1
 have ne:∀i j,i≠j->k i≠k j:=λi j h e=>h (hM.inj i j (k i) rfl (iJ some e.symm))
 have no:∀{i:Nat} {v:aF} {g:Nat},(List.replicate K.vars.length (af))[i]?=some v->v.ownBlock≠some g:=λ{i v g} h e=>by rw[CR h]at e;cases e
 refine⟨q,rfl,rfl,ne 3 4 pF,⟨lo 3,lo 4⟩,λi v hv=> ?_,λi v g hv e=>absurd e (no hv),λi j v u g hv _ e _=>absurd e (no hv),λu hu g e=> ?_⟩
 ·show World.ownsRow _ _ _ _ _ ((List.replicate K.vars.length ([]:az)).getD i []).length (((List.replicate K.vars.length ([]:az)).getD i []).map _);rw[acX,CR hv];exact ed _ _ _ _
 ·have:u=af:=List.eq_of_mem_replicate hu;rw[this]at e
  cases e
def SL.wi (X:SL)(cv us:ay):SL:={X with cv:=cv,us:=us}
def Wl (K:SK):List (az):=K.cons.map XV
theorem zf {c:Nat}{q:Yz}(h:K.cons[c]?=some q):(Wl K)[c]?=some (XV q):=by unfold Wl;rw[dR,h];rfl
theorem ze:(Wl K).length=K.cons.length:=by simp[Wl]
def EY (w0:A)(X:SL)(K:SK)(c:Nat)(wr:A):Prop:=∃cv us,RY w0 wr (X.wi cv us) (Q0 K ((Wl K).take c) (UW K.vars.length ((Wl K).take c))) (UD K K.vars.length c)
def Ml (w0:A)(X:SL)(K:SK)(c:Nat)(wr:A):Prop:=∃cv us,RY w0 wr (X.wi cv us) (Q0 K ((Wl K).take c) (UW K.vars.length ((Wl K).take c))) (UD K K.vars.length (c+1))
def OT (w0:A)(X:SL)(K:SK)(c j:Nat)(l:az)(vl:aF)(wr:A):Prop:=∃cv us,cv[c]?=some vl/\RY w0 wr (X.wi cv us) (Q0 K ((Wl K).take (c+1)) (Tt (UW K.vars.length ((Wl K).take c)) c (l.take j))) (UD K K.vars.length (c+1))
theorem amN {c:Nat}(h:EY w0 X K c w)(hc:c<K.cons.length):w.cell? (O X.b 10)=some (aj X.gm K.cons.length K.cons.length)/\(∃u,w.cell? (O X.gm c)=some u)/\w.frozen? (O X.gm c)=false/\X.gm<w.heap.size/\X.b<w.heap.size/\Ml w0 X K c (w.setCell (O X.gm c) (.bool true)):=by
 obtain⟨cv,us,h⟩:=h;have hs:=h.sat;obtain⟨m1,m2⟩:=hs.zK c true;have hm:(UD K K.vars.length c).marked[c]?=some false:=by
  simp only[UD];rw[aO pG,bz,iR pI]
 obtain⟨k1,k2⟩:=hs.zJ hm;have hl:=hs.lt;refine⟨hs.f10,⟨_,k1⟩,k2,hl.2.2.2.2,hl.1,cv,us,h.Jt ?_ m2 rfl rfl⟩;have e:({UD K K.vars.length c with marked:=(UD K K.vars.length c).marked.set c true}:SS)=UD K K.vars.length (c+1):=by
  unfold UD;simp only;rw[amF _ _ hc]
 rw[<-e];exact m1
theorem acY {c:Nat}(h:Ml w0 X K c w){q:Yz}(hq:K.cons[c]?=some q):w.cell? (O X.b 8)=some (aj X.gc K.cons.length K.cons.length)/\X.gc<w.heap.size/\(∃u,w.cell? (O X.gc c)=some u)/\w.frozen? (O X.gc c)=false/\(∃(x:X7) (g cap:Nat),x.c=q/\X.vC=aj g K.cons.length cap/\Ty w g (c*10) X.B x/\w.cell? (O X.bc 2)=some X.vC/\X.bc<w.heap.size):=by
 obtain⟨cv,us,h⟩:=h;have hs:=h.sat;obtain⟨x,g,cap,e1,e2,e3,e4⟩:=hs.Vs (i:=c) (c:=q) hq;have hc:c<cv.length:=by have:=hs.PC;have q1:cv.length=K.cons.length:=this;rw[q1];exact(aU.1 hq).1
 have k:w.cell? (O X.gc c)=some cv[c]:=Z0 hs.Ru c _ (by show cv.toArray[c]?=_;simp[hc]);exact⟨hs.f8,YY hs.Ru,⟨_,k⟩,Zz hs.Ru c,x,g,cap,e1,e2,e3,hs.set.c2,hs.set.lt⟩
theorem amO {c:Nat}(h:Ml w0 X K c w){q:Yz}(hq:K.cons[c]?=some q){g cap:Nat}(z:aB w w')(ho:w'.ownsRow w.heap.size 3 1 (aj g (XV q).length cap) (XV q).length ((XV q).map (Value.int .i64))):OT w0 X K c 0 (XV q) (aj g (XV q).length cap) (w'.setCell (O X.gc c) (aj g (XV q).length cap)):=by
 obtain⟨cv,us,h⟩:=h;have hc:c<K.cons.length:=(aU.1 hq).1;have hl:((Wl K).take c).length=c:=by rw[eP,ze];omega
 have r:=h.vars (c:=c) hl hc z ho;have aH:c<cv.length:=by have q1:cv.length=K.cons.length:=h.sat.PC;omega
 refine⟨cv.set c (aj g (XV q).length cap),us,by rw[bG aH],?_⟩;have e:(Wl K).take (c+1)=(Wl K).take c++[XV q]:=by rw[dX,zf hq];rfl
 rw[e];exact r
theorem amP {c j:Nat}{l:az}{vl:aF}(h:OT w0 X K c j l vl w){q:Yz}(hq:K.cons[c]?=some q)(hl:l=XV q):w.cell? (O X.b 8)=some (aj X.gc K.cons.length K.cons.length)/\X.gc<w.heap.size/\X.b<w.heap.size/\w.cell? (O X.gc c)=some vl/\∀g cap,vl=aj g l.length cap->l≠[]->g<w.heap.size/\∀(j:Nat) (y:Int),l[j]?=some y->w.cell? (O g j)=some (Y y):=by
 obtain⟨cv,us,hv,h⟩:=h;have hs:=h.sat;have e:((Wl K).take (c+1)).getD c []=l:=by
  rw[aN,dz,iR J,zf hq,hl];rfl
 refine⟨hs.f8,YY hs.Ru,hs.lt.1,Z0 hs.Ru c _ (by show cv.toArray[c]?=_;simpa using hv),λg cap e1 ZP=> ?_⟩
 have r:=hs.Ni c vl hv;have r:Q2 (X.wi cv us) w vl (((Wl K).take (c+1)).getD c []):=r;rw[e]at r;rcases r with⟨r,_⟩|⟨g',UH,cells,r1,r2,r3,r4,r5⟩
 ·exact absurd r ZP
 ·rw[e1]at r1;injection r1 with r1 _ _;injection r1 with r1;injection r1 with r1;subst r1;exact⟨YY r2,λj y hy=>Z0 r2 j _ (r3 j y hy)⟩
theorem amQ {c j:Nat}{l:az}{vl:aF}(h:OT w0 X K c j l vl w){y:Int}(hy:l[j]?=some y)(hp:YX K.vars.length y)(hb:∀vs∈Wl K,vs.length<=9)(a7:l.length<=9)(aH:c<=16):w.cell? (O X.b 9)=some (aj X.gu K.vars.length K.vars.length)/\X.gu<w.heap.size/\∃(a:ax) (n cc:Nat) (xs:ay),n<=100000/\w.cell? (O X.gu y.toNat)=some (.slice a n cc)/\w.ownsRow w0.heap.size 3 1 (.slice a n cc) n xs/\w0.heap.size<=w.heap.size/\
   ∀(wA wB:A) (g cap:Nat),aB w wA->wA.grownBy wB (Value.slice a n cc).ownBlock->((Value.slice a n cc).ownBlock=some g\/g=wA.heap.size)->wB.ownsRow w0.heap.size 3 1 (aj g (n+1) cap) (n+1) (xs++[Y c])->
    wB.cell? (O X.gu y.toNat)=some (.slice a n cc)/\wB.frozen? (O X.gu y.toNat)=false/\X.gu<wB.heap.size/\wB.cell? (O X.b 9)=some (aj X.gu K.vars.length K.vars.length)/\X.b<wB.heap.size/\OT w0 X K c (j+1) l vl (wB.setCell (O X.gu y.toNat) (aj g (n+1) cap)):=by
 obtain⟨cv,us,hv,h⟩:=h;have hs:=h.sat;have bF:y.toNat<K.vars.length:=by have:=hp.1;have:=hp.2;omega
 have b8:us.length=K.vars.length:=hs.Nh;obtain⟨u,hu⟩:∃u,us[y.toNat]?=some u:=⟨us[y.toNat]'J,aZ J⟩;have hlen:(Tt (UW K.vars.length ((Wl K).take c)) c (l.take j)).length=K.vars.length:=by rw[zl,zh]
 have ho:=h.own y.toNat u hu;have bD:((Tt (UW K.vars.length ((Wl K).take c)) c (l.take j)).getD y.toNat []).length<=100000:=by
  have q1:=zj c (l.take j) (UW K.vars.length ((Wl K).take c)) y.toNat;have q2:=acV K.vars.length 9 ((Wl K).take c) (λvs bj=>hb vs (cy bj)) y.toNat
  have q3:(l.take j).length<=9:=sK;have q4:((Wl K).take c).length<=16:=sK;omega
 obtain⟨a,cc,rfl⟩:=Wt ho;have kc:w.cell? (O X.gu y.toNat)=some _:=Z0 hs.Q1 y.toNat _ (by show us.toArray[y.toNat]?=_;simpa using hu);refine⟨hs.f9,YY hs.Q1,a,_,cc,_,bD,kc,ho,hs.g0.size,λwA wB g cap cJ bW YG ZO=> ?_⟩
 have hA:=h.grown cJ;have ZP:∀k,(Value.slice a ((Tt (UW K.vars.length ((Wl K).take c)) c (l.take j)).getD y.toNat []).length cc).ownBlock=some k->k≠X.gu:=λk e=>by
  obtain⟨c3,aJ⟩:=Hg (hA.own y.toNat _ hu) e;exact CP aJ hA.sat.Q1
 have bm:wB.heap[X.gu]?=some (.cells us.toArray 33 (0,0)):=(bW.block X.gu (YY hA.sat.Q1) (λe=>ZP _ e.symm rfl)).trans hA.sat.Q1
 have nb:(Value.slice a ((Tt (UW K.vars.length ((Wl K).take c)) c (l.take j)).getD y.toNat []).length cc).ownBlock≠some X.b:=λe=>(hA.ap y.toNat _ X.b hu e).1 Rn
 have bu:=(bW.block X.b (YY hA.sat.U8) (λe=>nb e.symm)).trans hA.sat.U8
 have cz:us.toArray[y.toNat]?=some (Value.slice a ((Tt (UW K.vars.length ((Wl K).take c)) c (l.take j)).getD y.toNat []).length cc):=(bO ..).trans hu;refine⟨Z0 bm y.toNat _ cz,Zz bm _,YY bm,Z0 bu 9 _ rfl,YY bu,cv,us.set y.toNat (aj g (((Tt (UW K.vars.length ((Wl K).take c)) c (l.take j)).getD y.toNat []).length+1) cap),hv,?_⟩;have r:=hA.user hu (by show y.toNat<(Tt (UW K.vars.length ((Wl K).take c)) c (l.take j)).length;omega) bW YG ZO;have e:l.take (j+1)=l.take j++[y]:=by rw[dX,hy];rfl
 rw[e,amC];exact r
theorem amR {c:Nat}{l:az}{vl:aF}(h:OT w0 X K c l.length l vl w){q:Yz}(hq:K.cons[c]?=some q)(hl:l=XV q):EY w0 X K (c+1) w:=by
 obtain⟨cv,us,hv,h⟩:=h;have hc:c<K.cons.length:=(aU.1 hq).1;refine⟨cv,us,?_⟩;have e:(Wl K).take (c+1)=(Wl K).take c++[XV q]:=by rw[dX,zf hq];rfl
 have e2:((Wl K).take c).length=c:=by rw[eP,ze];omega
 have e3:UW K.vars.length ((Wl K).take (c+1))=Tt (UW K.vars.length ((Wl K).take c)) c (l.take l.length):=by rw[e,zi,e2,List.take_length,hl]
 rw[e3];exact h
section
attribute [local go_sem ↓] Pz Py
variable {w0 w w' aW:A}{X:SL}{K:SK}{s:SS}{vT vS:aF}
theorem amS {lo hi:Int}(F:-1000<=lo)(h2:hi<=1000):U' lo hi<2 ^ 2001:=by
 apply Nat.lt_pow_two_of_testBit;intro j hj;rw[Ou _ _ F];simp;omega
theorem amT {lo hi:Int}{r:ay}(hr:DC (U' lo hi) r)(F:-1000<=lo)(h2:lo<=hi)(h3:hi<=1000)(w:A):aq 83 #[Y lo,Y hi] w (au w (.agg r.toArray)):=by
 have q:=DA lo hi J J J J w;rw[show max lo (-1000)=lo by omega,show min hi 1000=hi by omega]at q;rw[hr.is,<-SQ];exact q
theorem amU (n:Nat)(hn:n<=16)(w:A):(Instr.makeSlice 33 (Y (n:Int)) (Y (n:Int))).run prog w=.ok (aj w.heap.size n n) (w.alloc (.cells (madeCells #[Y 0] n) 3)):=
 run_make_row' 33 3 (Y 0) 8 underlying33 Jk rfl .i64 .i64 n J J w
theorem amV:(prog.info? 4).map (λi=>(i.zero,i.size,i.bytes))=some (some (.bool false),1,1):=pH
theorem acZ (n:Nat)(hn:n<=16)(w:A):(Instr.makeSlice 103 (Y (n:Int)) (Y (n:Int))).run prog w=.ok (aj w.heap.size n n) (w.alloc (.cells (madeCells #[.bool false] n) 4)):=
 run_make_row' 103 4 (.bool false) 1 pH amV rfl .i64 .i64 n J J w
theorem ac0 (n:Nat)(hn:n<=16)(w:A):(Instr.makeSlice 30 (Y (n:Int)) (Y (n:Int))).run prog w=.ok (aj w.heap.size n n) (w.alloc (.cells (madeCells #[af] n) 33)):=
 run_make_row' 30 33 (af) 24 pH acH rfl .i64 .i64 n J J w
theorem amW:(prog.info? 161).map (λi=>(i.zero,i.size,i.bytes))=some (some (.agg (Array.replicate 32 (.int .u64 0))),32,256):=pH
theorem amX:(Value.agg (Array.replicate 32 (.int .u64 0))).cells=(dL 0).toArray:=by
 rw[<-SQ,Ig]
 kernel_rfl
theorem amY (n:Nat)(hn:n<=8)(w:A):(Instr.makeSlice 102 (Y (n:Int)) (Y (n:Int))).run prog w=.ok (aj w.heap.size n n) (w.alloc (.cells (madeCells (dL 0).toArray (n*32)) 161)):=by
 obtain⟨i,hi,bf⟩:=bK.1 amW;simp only[gK]at bf;obtain⟨hz,hs,hb⟩:=bf;have hr:=run_make (P:=prog) w 102 161 i (.agg (Array.replicate 32 (.int .u64 0))) pH hi hz .i64 .i64 n n J (iv _) (by rw[hb];omega) J;rw[amX,hs]at hr;simpa using hr
theorem ac1 {p:Fin 6->Prop}(h0:p 0)(F:p 1)(h2:p 2)(h3:p 3)(h4:p 4)(h5:p 5):∀j,p j
 |0=>h0
 |1=>F
 |2=>h2
 |3=>h3
 |4=>h4
 |5=>h5
def CO:Fin 6->Nat
 |0=>5
 |1=>7
 |2=>9
 |3=>15
 |4=>17
 |5=>23
def zb:Fin 6->Option Tmp
 |0=>some 26
 |1=>some 28
 |2=>some 30
 |3=>some 36
 |4=>some 38
 |5=>some 44
def Mk (n m:Nat):Fin 6->Nat
 |0=>n
 |1=>n
 |2=>n
 |3=>m
 |4=>n
 |5=>m
def za (b0 b1 b2 b3 b4 b5:Bool):Array Bool:=#[true,true,true,true,true,b0,true,b1,true,b2,true,true,true,true,true,b3,true,b4,true,true,true,true,true,b5,false,false,false]
def KJ (g:Fin 6->Bool):Array Bool:=za (g 0) (g 1) (g 2) (g 3) (g 4) (g 5)
def CN (b0 b1 b2 b3 b4 b5:Bool):List Nat:=(if b0 then[]else[5])++((if b1 then[]else[7])++((if b2 then[]else[9])++((if b3 then[]else[15])++((if b4 then[]else[17])++(if b5 then[]else[23])))))
theorem amZ {ops:Array Oper}(h:∀b0 b1 b2 b3 b4 b5:Bool,(b0&&b1&&b2&&b3&&b4&&b5)=false->Region.ready .any ops (za b0 b1 b2 b3 b4 b5)=CN b0 b1 b2 b3 b4 b5)(g:Fin 6->Bool)(z:∃j,g j=false):Region.ready .any ops (KJ g)≠[]/\∀i∈Region.ready .any ops (KJ g),∃j,i=CO j/\g j=false:=by
 have hf:(g 0&&g 1&&g 2&&g 3&&g 4&&g 5)=false:=by
  obtain⟨j,hj⟩:=z
  match j,hj with
  |0,hj=>simp[hj]
  |1,hj=>simp[hj]
  |2,hj=>simp[hj]
  |3,hj=>simp[hj]
  |4,hj=>simp[hj]
  |5,hj=>simp[hj]
 have e:Region.ready .any ops (KJ g)=CN (g 0) (g 1) (g 2) (g 3) (g 4) (g 5):=h _ _ _ _ _ _ hf;rw[e];refine⟨λq=> ?_,λi hi=> ?_⟩
 ·revert hf q
  cases g 0<;>cases g 1<;>cases g 2<;>cases g 3<;>cases g 4<;>cases g 5<;>decide
 ·unfold CN at hi;simp only[fE]at hi;have one:∀(b:Bool) (k:Nat),i∈(if b=true then[]else[k])->i=k/\b=false:=λb k hb=>by
   cases b with
   |true=>simp at hb
   |false=>exact⟨tZ,rfl⟩
  rcases hi with hi|hi|hi|hi|hi|hi
  ·obtain⟨a,b⟩:=one _ _ hi;exact⟨0,a,b⟩
  ·obtain⟨a,b⟩:=one _ _ hi;exact⟨1,a,b⟩
  ·obtain⟨a,b⟩:=one _ _ hi;exact⟨2,a,b⟩
  ·obtain⟨a,b⟩:=one _ _ hi;exact⟨3,a,b⟩
  ·obtain⟨a,b⟩:=one _ _ hi;exact⟨4,a,b⟩
  ·obtain⟨a,b⟩:=one _ _ hi;exact⟨5,a,b⟩
theorem am0 (j:Fin 6)(g:Fin 6->Bool):(KJ g).setIfInBounds (CO j) true=KJ (Oa g j true):=by
 match j with
 |0=>rfl
 |1=>rfl
 |2=>rfl
 |3=>rfl
 |4=>rfl
 |5=>rfl
def Jf (n:Nat):Option Nat->aF
 |none=>undef
 |some k=>aj k n n
def KG (a:Act)(n m:Nat)(f:Fin 6->Option Nat):Act:=
 (((((a.put (some 26) (Jf n (f 0))).put (some 28) (Jf n (f 1))).put (some 30) (Jf n (f 2))).put (some 36) (Jf m (f 3))).put (some 38) (Jf n (f 4))).put (some 44) (Jf m (f 5))
theorem am1 {ops:Array Oper}{Q:Exit->Act->A->Prop}{S:A->Prop}{listed:Array Bool}{a:Act}(w0:A)(n m:Nat)(hl:KJ (λ_=>false)=listed)(ha:KG a n m (λ_=>none)=a)(hS:∀W,aB w0 W->S W)(aA:∀j,∃o t l c,ops[CO j]?=some o/\o.guard=none/\o.dst=zb j/\o.op=Op.makeSlice t l c/\(∀f,(KG a n m f).eval l=Y (Mk n m j:Int))/\(∀f,(KG a n m f).eval c=Y (Mk n m j:Int))/\
   ∀W:A,(Instr.makeSlice t (Y (Mk n m j:Int)) (Y (Mk n m j:Int))).run prog W=.ok (aj W.heap.size (Mk n m j) (Mk n m j)) (W.alloc (N9 n m j)))
  (hA:∀j f k,(KG a n m f).put (zb j) (aj k (Mk n m j) (Mk n m j))=KG a n m (Oa f j (some k)))
  (bX:∀b0 b1 b2 b3 b4 b5:Bool,(b0&&b1&&b2&&b3&&b4&&b5)=false->Region.ready .any ops (za b0 b1 b2 b3 b4 b5)=CN b0 b1 b2 b3 b4 b5)
  (aP:∀(k:Fin 6->Nat) W,KU w0 W (N9 n m) (λj=>some (k j))->S W->wpAnyH prog .any ops Q S 3 (KJ λ_=>true) (KG a n m λj=>some (k j)) W):
  wpAnyH prog .any ops Q S 9 listed a w0:=by
 have r:=acR (P:=prog) (ops:=ops) (Q:=Q) (md:=.any) (S:=S) w0 (N9 n m) CO zb (Mk n m) KJ (KG a n m) 3 hS aA am0 hA (amZ bX) (λf W hf hM=>by
  have e:f=λj=>some ((f j).getD 0):=funext λj=>by
   cases q:f j with
   |none=>exact absurd q (hf j)
   |some k=>rfl
  rw[e]at hM⊢;exact aP _ W hM (hS W hM.g)) 6 (λ_=>none) [0,1,2,3,4,5] w0 rfl (λj=>⟨λ_=>by match j with|0|1|2|3|4|5=>decide,λ_=>rfl⟩) pF ⟨WW _ _,λj k h=>rN,λi j k h=>rN⟩
 rw[ha]at r;rw[<-hl];exact r
end
section
attribute [local go_sem ↓] Pz Py
variable {w0 w w' aW:A}{X:SL}{K:SK}{s:SS}{vT vS:aF}
theorem Ml.g0 {c:Nat}(h:Ml w0 X K c w):aB w0 w:=by obtain⟨_,_,h⟩:=h;exact h.sat.g0
theorem Ml.grown {c:Nat}(h:Ml w0 X K c w)(z:aB w w'):Ml w0 X K c w':=by obtain⟨cv,us,h⟩:=h;exact⟨cv,us,h.grown z⟩
theorem OT.g0 {c j:Nat}{l:az}{vl:aF}(h:OT w0 X K c j l vl w):aB w0 w:=by obtain⟨_,_,_,h⟩:=h;exact h.sat.g0
theorem am2 {c:Nat}(h:Ml w0 X K c w){q:Yz}(hq:K.cons[c]?=some q){g cap:Nat}(z:aB w w')(ho:w'.ownsRow w.heap.size 3 1 (aj g (XV q).length cap) (XV q).length ((XV q).map (Value.int .i64))):(∃u,w'.cell? (O X.gc c)=some u)/\w'.frozen? (O X.gc c)=false/\X.gc<w'.heap.size/\OT w0 X K c 0 (XV q) (aj g (XV q).length cap) (w'.setCell (O X.gc c) (aj g (XV q).length cap)):=by
 obtain⟨_,F,h2,h3,_⟩:=acY (h.grown z) hq;exact⟨h2,h3,F,amO h hq z ho⟩
theorem am3 {bc B:Nat}{vV vC:aF}{cs:List X7}(aV:PQ w bc B vV vC K.vars cs)(WS:cs.map (·.c)=K.cons)(aL:VP w)(hK:YV K)(bk:K.YP=Wl K)(aI:K.Wm=UW K.vars.length (Wl K)):aq 49 #[.pointer (some (O bc 1)),Y K.order,.bool K.VO,Y K.XS] w λe w'=>∃X,e=.returned (ai X.b)/\ZN w w' X K (Xj K) (af) (af):=by
 obtain⟨ra,rc,rfl⟩:=Wt aV.ov;obtain⟨ca,cc,bL⟩:=Wt aV.oc;have aH:cs.length=K.cons.length:=by rw[<-WS,fy]
 rw[aH]at bL;subst bL;have c1:=aV.c1;have c2:=aV.c2;have ZR:=aV.lt;have Yv:=hK.WB;have ct:=hK.O8;have bU:=Z8 aV;have br:=Z8 WS;have a8:=Z8 aL;have HK:=Z8 hK;have I1:=Z8 bk;have Nc:=Z8 aI;clear aV WS aL hK bk aI aH;go_enter func49,ntmps49;go_wp2;refine wp_region_held_drew (S:=λw1=>w1.cell? (O bc 2)=some (.slice ca K.cons.length cc)) pH ?_ (λZV=> ?_)
 ·exact c2
 apply ZL 0 21 ZV
 ·exact iW
 (try simp only[Act.put,Z5,Z4,Z2])
 apply ZL 1 22 ZV
 ·exact iW
 (try simp only[Act.put,Z5,Z4,Z2])
 apply ZL 2 23 ZV
 ·exact iW
 (try simp only[Act.put,Z5,Z4,Z2])
 apply ZL 3 24 ZV
 ·exact iW
 (try simp only[Act.put,Z5,Z4,Z2])
 apply ZL 4 25 ZV
 ·exact iW
 (try simp only[Act.put,Z5,Z4,Z2])
 apply ZL 6 27 ZV
 ·exact iW
 (try simp only[Act.put,Z5,Z4,Z2])
 apply ZL 8 29 ZV
 ·exact iW
 (try simp only[Act.put,Z5,Z4,Z2])
 apply ZL 10 31 ZV
 ·exact iW
 (try simp only[Act.put,Z5,Z4,Z2])
 apply ZL 11 32 ZV
 ·exact iW
 (try simp only[Act.put,Z5,Z4,Z2])
 apply ZL 12 33 ZV
 ·exact iW
 (try simp only[Act.put,Z5,Z4,Z2])
 apply ZL 13 34 ZV
 ·exact iW
 (try simp only[Act.put,Z5,Z4,Z2])
 apply ZL 14 35 ZV
 ·exact iW
 (try simp only[Act.put,Z5,Z4,Z2])
 apply ZL 16 37 ZV
 ·exact iW
 (try simp only[Act.put,Z5,Z4,Z2])
 apply ZL 18 39 ZV
 ·exact iW
 (try simp only[Act.put,Z5,Z4,Z2])
 apply ZL 19 40 ZV
 ·exact iW
 (try simp only[Act.put,Z5,Z4,Z2])
 apply ZL 20 41 ZV
 ·exact iW
 (try simp only[Act.put,Z5,Z4,Z2])
 apply ZL 21 42 ZV
 ·exact iW
 (try simp only[Act.put,Z5,Z4,Z2])
 apply ZL 22 43 ZV
 ·exact iW
 (try simp only[Act.put,Z5,Z4,Z2])
 have m1:=amY K.vars.length Yv;have m2:=amU K.vars.length J;have m3:=acZ K.vars.length J;have m4:=ac0 K.cons.length ct;have m5:=ac0 K.vars.length J;have m6:=acZ K.cons.length ct;refine am1 w.drew K.vars.length K.cons.length pH pH (λW hW=>hW.cell ZV pG) ?op ?anY ?rd (λk W hM ZV=> ?_)
 case op=>
  refine ac1 ?_ ?_ ?_ ?_ ?_ ?_
  ·exact⟨_,_,_,_,rfl,rfl,rfl,rfl,(λf=>pH),(λf=>pH),m1⟩
  ·exact⟨_,_,_,_,rfl,rfl,rfl,rfl,(λf=>pH),(λf=>pH),m2⟩
  ·exact⟨_,_,_,_,rfl,rfl,rfl,rfl,(λf=>pH),(λf=>pH),m3⟩
  ·exact⟨_,_,_,_,rfl,rfl,rfl,rfl,(λf=>pH),(λf=>pH),m4⟩
  ·exact⟨_,_,_,_,rfl,rfl,rfl,rfl,(λf=>pH),(λf=>pH),m5⟩
  ·exact⟨_,_,_,_,rfl,rfl,rfl,rfl,(λf=>pH),(λf=>pH),m6⟩
 case anY=>
  refine ac1 ?_ ?_ ?_ ?_ ?_ ?_
  all_goals (intro f k;kernel_rfl)
 case rd=>
  intro b0 b1 b2 b3 b4 b5
  cases b0<;>cases b1<;>cases b2<;>cases b3<;>cases b4<;>cases b5<;>first|(intro h;cases h;done)|(intro _;kernel_rfl)
 unfold KG;simp only[Act.put,Z5,Z4,Z2];simp only[Jf];obtain⟨X,hX⟩:∃X,X=N8 k W.heap.size bc B (.slice ra K.vars.length rc) (.slice ca K.cons.length cc) cs K.vars.length K.cons.length:=⟨_,rfl⟩;have HB:=Z8 (amM (K:=K) ⟨(ZG w none).trans hM.g,hM.at_,hM.inj⟩ bU.out br.out a8.out hX);obtain⟨W1,XW⟩:∃W1,W1=W.alloc (.cells (Hn X K (UD K 0 0) (af) (af)) 106):=⟨_,rfl⟩;have cu:W.heap.size=X.b:=by rw[hX];rfl
 have cK:X.vC=.slice ca K.cons.length cc:=by rw[hX];rfl
 have aa:W1.cell? (O bc 2)=some (.slice ca K.cons.length cc):=by rw[XW];exact(di _ _ none).cell ZV pG
 rw[<-XW]at HB;rw[hX]at XW;have UA:=Z8 XW;have cw:=Z8 cu;have bY:=Z8 aa;clear hX XW cu aa;apply ZL 24 45 ZV
 ·exact iW
 (try simp only[Act.put,Z5,Z4,Z2])
 refine wpAnyH_ready (rs:=[25]) pH pG ?_;refine AllReadyH.cons rfl (λK9 hK=> ?_) AllReadyH.nil
 go_simp;change K9 _ (W.alloc (.cells (Hn (N8 k W.heap.size bc B (.slice ra K.vars.length rc) (.slice ca K.cons.length cc) cs K.vars.length K.cons.length) K (UD K 0 0) (af) (af)) 106));rw[<-UA.out,cw.out];refine hK.out _ _ ?_ (λZV=> ?_)
 ·exact bY.out
 clear hK K9 hM UA cw m1 m2 m3 m4 m5 m6
 (try simp only[Act.put,Z5,Z4,Z2])
 apply ZL 26 10 ZV
 ·exact iW
 (try simp only[Act.put,Z5,Z4,Z2])
 refine wpAnyH_done pH ?_ _;have aY:=HB.out.sat.g0.cell c1 pG;have N4:bc<W1.heap.size:=dH ZR HB.out.sat.g0.size;go_wp2
 go_loopw [52] (λvi wr=>∃i:Nat,i<=K.vars.length/\vi=Y i/\RY w wr X (Q0 K [] (List.replicate K.vars.length [])) (UD K i 0)) (λvi _=>K.vars.length-(intOf vi).toNat)
 case atStart=>exact⟨0,iz _,rfl,HB.out⟩
 case round=>
  obtain⟨i,hi,rfl,hB⟩:=hrel;by_cases YK:i<K.vars.length
  ·obtain⟨v,hv⟩:∃v,K.vars[i]?=some v:=⟨K.vars[i],aZ YK⟩;obtain⟨gr,cr,bs,_⟩:=YR.TX bU.out.ov J;have er:ra=some (ah gr):=by have q:=bs.is;injection q
   subst er;have hR:=bs.kept hB.sat.g0 pG;have k0:ak wr gr (i*3) (.string v.name):=hR.at (sz:=3) (λ_=>rfl) hv 0 _ rfl
   have k1:ak wr gr (i*3+1) (Y v.low):=hR.at (sz:=3) (λ_=>rfl) hv 1 _ rfl
   have k2:ak wr gr (i*3+2) (Y v.high):=hR.at (sz:=3) (λ_=>rfl) hv 2 _ rfl
   have ZX:gr<wr.heap.size:=hR.lt;obtain⟨v1,v2,v3⟩:=HK.out.vars v (cq hv);obtain⟨r,hr⟩:=dc (U' v.low v.high);have KB:=ZQ.mk (λW=>amT hr v1 v2 v3 W)
   have KS:=ZQ.mk (λ{W:A} (z:aB wr W)=>zT hr (hB.grown z).sat Yv (v:=(i:Int)) ⟨J,by show(i:Int)<(K.vars.length:Int);omega⟩ (amS v1 v3))
   have HN:Hid (∀W w',aB wr W->ZN w w' X (Q0 K [] (List.replicate K.vars.length [])) (Mu (i:Int) (U' v.low v.high) (UD K i 0)) (af) (af)->Zy X W w'->RY w w' X (Q0 K [] (List.replicate K.vars.length [])) (UD K (i+1) 0)):=λW w' z hs hf=>by
    have e:Mu (i:Int) (U' v.low v.high) (UD K i 0)=UD K (i+1) 0:=by
     unfold Mu UD;simp only[dJ];rw[amE (K.vars.map λv=>U' v.low v.high) K.vars.length i (by simpa using YK) pG (U' v.low v.high) (by rw[dR,hv];rfl)]
    rw[e]at hs;exact(hB.grown z).Jt hs hf rfl rfl
   have X8:(i:Int)<K.vars.length:=J;have Xy:(0:Int)<=i:=J;clear bs hR hB hv;go_wp2_with (first|(go_at_call 82;refine(KS.get ((di _ _ _).trans ZU)).mono ?_;rintro e w3 ⟨rfl,Yh,TH⟩)|(go_at_call 83;refine(KB.get _).mono ?_;rintro e w2 ⟨rfl,ZU⟩))
   go_roundw
   case rel=>exact⟨i+1,J,pQ,HN.out _ _ ((di _ _ _).trans ZU) Yh TH⟩
   case measure=>simp[intOf];omega
  ·obtain rfl:i=K.vars.length:=J;have bE:EY w X K 0 wr:=⟨X.cv,X.us,hB⟩;have cL:=Z8 bE;have bn:=hB.sat.g0.cell c2 pG;have bS:bc<wr.heap.size:=dH ZR hB.sat.g0.size;clear hB bE;go_wp2
   go_loopw [71] (λvi wr=>∃c:Nat,c<=K.cons.length/\vi=Y c/\EY w X K c wr) (λvi _=>K.cons.length-(intOf vi).toNat)
   case atStart=>exact⟨0,iz _,rfl,cL.out⟩
   case round=>
    obtain⟨c,hc,rfl,hR⟩:=hrel;by_cases cx:c<K.cons.length
    ·obtain⟨q,hq⟩:∃q,K.cons[c]?=some q:=⟨K.cons[c],aZ cx⟩;obtain⟨f10,⟨u1,k1⟩,k2,l1,l2,hM⟩:=amN hR cx;have cS:(c:Int)<K.cons.length:=J;have cT:(0:Int)<=c:=J;have HM:=Z8 hM;have HQ:=Z8 hq;clear hM hq;go_wp2;obtain⟨W2,W7⟩:∃W2,W2=wr.setCell (O X.gm c) (.bool true):=⟨_,rfl⟩;rw[<-W7]at HM⊢;clear W7 f10 k1 k2 l1 l2 hR;obtain⟨f8,l3,_,_,x,g,cap,cE,cd,cA,_,_⟩:=acY HM.out HQ.out;have ar:=HK.out.cons q (cq HQ.out);have SM:=HM.out.g0.cell c2 pG;have Po:=dH ZR HM.out.g0.size;have cM:ca=some (ah g):=by rw[cK]at cd;injection cd
     subst cM;have KV:=ZQ.mk (λ{W:A} (z:aB W2 W)=>amB (cA.grown z) (by rw[cE];exact ar))
     rw[cE]at KV;have HV:Hid (∀(W w2:A) (gv cv:Nat),aB W2 W->aB W w2->w2.ownsRow W.heap.size 3 1 (aj gv (XV q).length cv) (XV q).length ((XV q).map (Value.int .i64))->
       (∃u,ak w2 X.gc c u)/\w2.frozen? (O X.gc c)=false/\X.gc<w2.heap.size/\OT w X K c 0 (XV q) (aj gv (XV q).length cv) (w2.setCell (O X.gc c) (aj gv (XV q).length cv))):=
      λW w2 gv cv F h2 h3=>am2 (HM.out.grown F) HQ.out h2 h3
     have cN:Hid (∀y∈XV q,YX K.vars.length y):=λy hy=>R6 ar y ((zo q y).1 hy)
     have a7:(XV q).length<=9:=gZ (zn q) (KX ar);have cO:Hid (∀vs∈Wl K,vs.length<=9):=λvs bj=>by
      obtain⟨c',bo,rfl⟩:=gU.1 bj;exact gZ (zn c') (KX (HK.out.cons c' bo))
     have cf:Hid (∀W j vl,OT w X K c j (XV q) vl W->ak W X.b 8 (aj X.gc K.cons.length K.cons.length)/\X.gc<W.heap.size/\X.b<W.heap.size/\ak W X.gc c vl/\
       ∀g cap,vl=aj g (XV q).length cap->XV q≠[]->g<W.heap.size/\∀(j:Nat) (y:Int),(XV q)[j]?=some y->ak W g j (Y y)):=λW j vl h=>amP h HQ.out rfl
     have cP:Hid (∀W vl,OT w X K c (XV q).length (XV q) vl W->EY w X K (c+1) W):=λW vl h=>amR h HQ.out rfl
     clear ar cA cE cd;unfold Jj at KV;generalize XV q=l at *;refine wp_region_held_drew (S:=λw1=>w1.cell? (O X.b 8)=some (aj X.gc K.cons.length K.cons.length)/\w1.cell? (O bc 2)=some (aj g K.cons.length cc)) pH ?_ (λZV=> ?_)
     ·exact⟨f8,SM⟩
     apply ZL 0 80 ZV
     ·exact iW
     (try simp only[Act.put,Z5,Z4,Z2])
     apply ZL 1 81 ZV
     ·exact iW
     (try simp only[Act.put,Z5,Z4,Z2])
     apply ZL 2 82 ZV
     ·exact iW
     (try simp only[Act.put,Z5,Z4,Z2])
     apply ZL 3 83 ZV
     ·exact iW
     (try simp only[Act.put,Z5,Z4,Z2])
     apply ZL 4 84 ZV
     ·exact iW
     (try simp only[Act.put,Z5,Z4,Z2])
     apply ZL 5 85 ZV
     ·exact iW
     (try simp only[Act.put,Z5,Z4,Z2])
     apply ZL 6 86 ZV
     ·exact iW
     (try simp only[Act.put,Z5,Z4,Z2])
     apply ZL 7 87 ZV
     ·exact iW
     (try simp only[Act.put,Z5,Z4,Z2])
     apply ZL 8 88 ZV
     ·exact iW
     (try simp only[Act.put,Z5,Z4,Z2])
     apply ZL 9 89 ZV
     ·exact iW
     (try simp only[Act.put,Z5,Z4,Z2])
     apply ZL 10 90 ZV
     ·exact iW
     (try simp only[Act.put,Z5,Z4,Z2])
     refine wpAnyH_ready (rs:=[11]) pH pG ?_;refine AllReadyH.cons rfl (λK hK=> ?_) AllReadyH.nil
     go_simp;go_wp2_with ((go_at_call 84;refine(KV.get (ZG _ _)).mono ?_;rintro e w2 ⟨gv,cv,rfl,ZO,ZU⟩;obtain⟨⟨u2,k3⟩,k4,l4,hU⟩:=HV.out _ _ _ _ (ZG _ _) ZU ZO));refine hK.out _ _ ?_ (λZV=> ?_)
     ·exact⟨ZU.cell ZV.1 pG,ZU.cell ZV.2 pG⟩
     clear hK K
     (try simp only[Act.put,Z5,Z4,Z2])
     apply ZL 12 92 ZV
     ·exact iW
     (try simp only[Act.put,Z5,Z4,Z2])
     refine wpAnyH_ready (rs:=[13]) pH pG ?_;refine AllReadyH.cons rfl (λK9 hK=> ?_) AllReadyH.nil
     have HU:=Z8 hU;clear hU ZO;go_simp;refine hK.out _ _ ?_ (λZV=> ?_)
     ·exact⟨(cf.out _ _ _ HU.out).1,HU.out.g0.cell c2 pG⟩
     clear hK K9 k3 k4
     (try simp only[Act.put,Z5,Z4,Z2])
     refine wpAnyH_done pH ?_ _;obtain⟨W3,Rf⟩:∃W3,W3=w2.setCell (O X.gc c) (aj gv l.length cv):=⟨_,rfl⟩;rw[<-Rf]at HU⊢;obtain⟨r1,r2,r3,r4,_⟩:=cf.out _ _ _ HU.out;clear Rf ZV f8 SM ZU l4 l3;obtain⟨i0,Y8,Ze,Zq,Zn⟩:=iE Jk;go_wp2
     go_loopw [101] (λvi wr=>∃j:Nat,j<=l.length/\vi=Y j/\OT w X K c j l (aj gv l.length cv) wr) (λvi _=>l.length-(intOf vi).toNat)
     case atStart=>exact⟨0,iz _,rfl,HU.out⟩
     case round=>
      obtain⟨j,hj,rfl,hU⟩:=hrel;by_cases cg:j<l.length
      ·obtain⟨y,hy⟩:∃y,l[j]?=some y:=⟨l[j],aZ cg⟩;obtain⟨_,_,l2,_,r5⟩:=cf.out _ _ _ hU;obtain⟨r6,r7⟩:=r5 gv cv rfl (λe=>by rw[e]at cg;simp at cg)
       have r8:=r7 j y hy;have hp:=cN.out y (cq hy);obtain⟨f9,g1,a,n',cB,xs,bp,k1,ho,Yw,cC⟩:=amQ hU hy hp cO.out a7 J;have ba:=hp.1;have bh:=hp.2;have cU:(j:Int)<l.length:=J;have cV:(0:Int)<=j:=J;have HO:Hid ((wr.drew.alloc (.cells #[Y (c:Int)] 3)).ownsRow w.heap.size 3 1 (.slice a n' cB) n' xs):=(ho.kept (ZG _ _) (XY _)).alloc _;have b6:=Z8 (λ(wB:A) (g cap:Nat)=>cC (wr.drew.alloc (.cells #[Y (c:Int)] 3)) wB g cap ((ZG _ _).trans (di _ _ _)))
       clear r5 r7 hp cC hU hy ho;go_wp2;go_region_law ((refine step_append_lies _ p8 _ _ 33 p8 w.heap.size 3 i0 (Y 0) 1 8 underlying33 Y8 Ze Zq Zn rfl pF (.slice a n' cB) n' xs p8 HO.out (ah wr.heap.size) 1 1 [Y (c:Int)] p8 rfl (World.news_of_block (cs:=#[Y (c:Int)]) (t:=3) (fr:=(0,0)) (gp wr.drew _)) qs pF pK J pI _ rfl ?_;intro gA XC wA YT Zo XL Xq;obtain⟨k3,k4,g4,b9,g5,cD⟩:=b6.out wA gA XC Zo XL YT))
       all_goals
        have cQ:=Z8 cD;clear cD YT Zo XL;go_wp2;go_roundw
       all_goals first
        |exact⟨j+1,J,pQ,cQ.out⟩
        |(simp[intOf];omega)
      ·obtain rfl:j=l.length:=J;have bV:=Z8 (cP.out _ _ hU);clear hU;go_wp2;go_roundw
       case rel=>exact⟨c+1,J,pQ,bV.out⟩
       case measure=>simp[intOf];omega
    ·obtain rfl:c=K.cons.length:=J;have bV:=Z8 hR;clear hR;go_wp2;go_ret;obtain⟨cv,us,hI⟩:=bV.out;refine⟨X.wi cv us,rfl,?_⟩;have hs:=hI.sat;have e1:Q0 K ((Wl K).take K.cons.length) (UW K.vars.length ((Wl K).take K.cons.length))=K:=by
      rw[bH (by rw[ze];exact iw _),<-Nc.out,<-I1.out];rfl
     rw[e1,amH]at hs;exact hs
end
def Hf (w w':A):Prop:=∀(k:Nat) (c:Array aF) (t:TypeId),w.heap[k]?=some (.cells c t (0,0))->t=33\/t=3->w'.heap[k]?=some (.cells c t (0,0))
def y9 (w:A)(v:aF)(rows:List (az)):Prop:=∀W,Hf w W->LL W v rows
theorem y9.ll {v:aF}{rows:List (az)}(h:y9 w v rows):LL w v rows:=h w (λ_ _ _ q _=>q)
def L8 (w:A)(B:Nat)(v:aF)(rows:List (az)):Prop:=∃us:ay,w.ownsRow B 33 1 v rows.length us/\(∀(i:Nat) (u:aF),us[i]?=some u->w.ownsRow B 3 1 u (rows.getD i []).length ((rows.getD i []).map (Value.int .i64))/\u≠af)/\Ho us/\(us=[]->v=af)
def M9 (w:A)(B:Nat)(v:aF)(rows:List (az)):Prop:=∀W,Hf w W->L8 W B v rows
theorem M9.UZ {B:Nat}{v:aF}{rows:List (az)}(h:M9 w B v rows)(I:Hf w w'):M9 w' B v rows:=λW q=>h W (λk c t q1 q2=>q k c t (I k c t q1 q2) q2)
theorem ac2 {B e n:Nat}{v:aF}{xs:ay}(h:w.ownsRow B e 1 v n xs)(he:e=33\/e=3)(I:Hf w w'):w'.ownsRow B e 1 v n xs:=by
 refine⟨h.1,?_⟩;rcases h.2 with q|⟨g,cap,cur,q1,q2,q3,q4⟩
 ·exact .inl q
 ·exact .inr ⟨g,cap,cur,q1,q2,I g cur e q3 he,q4⟩
theorem CM {B B' e s n:Nat}{v:aF}{xs:ay}(h:w.ownsRow B e s v n xs)(hB:B'<=B):w.ownsRow B' e s v n xs:=by
 refine⟨h.1,?_⟩;rcases h.2 with q|⟨g,cap,cur,q1,q2,q3⟩
 ·exact .inl q
 ·exact .inr ⟨g,cap,cur,q1,gZ hB q2,q3⟩
theorem L8.low {B B':Nat}{v:aF}{rows:List (az)}(h:L8 w B v rows)(hB:B'<=B):L8 w B' v rows:=by
 obtain⟨us,F,h2,h3⟩:=h;exact⟨us,CM F hB,λi u hu=>⟨CM (h2 i u hu).1 hB,(h2 i u hu).2⟩,h3⟩
theorem am4 (h:ZN w0 w X K s vT vS)(I:Hf w w'):L8 w' w0.heap.size vS s.Zx:=by
 obtain⟨rows,r1,r2,r3⟩:=h.Zx;exact⟨rows,ac2 r1 (.inl rfl) I,λi u hu=>⟨ac2 (r2 i u hu).1 (.inr rfl) I,(r2 i u hu).2.2⟩,r3⟩
theorem am5 {B n:Nat}{v:aF}{l:az}(h:w.ownsRow B 3 1 v n (l.map (Value.int .i64)))(hn:n=l.length):Lj w v l:=by
 subst hn;have hc:=@dm w B 3 1 v l.length (l.map (Value.int .i64)) h;rcases h.2 with⟨F,h2⟩|⟨g,cap,cur,rfl,_,h3,_⟩
 ·exact .inl ⟨bA.1 h2,none,0,by rw[F]⟩
 ·refine .inr ⟨g,cap,rfl,λj u hu=> ?_,YY h3⟩
  rw[C9]at hu;exact l8
theorem L8.ll {B:Nat}{v:aF}{rows:List (az)}(h:L8 w B v rows):LL w v rows:=by
 obtain⟨us,r1,r2,_⟩:=h;have RI:=r1.1;rcases r1.2 with⟨q1,q2⟩|⟨g,cap,cur,q1,q2,q3,q4,q5,q6,q7⟩
 ·subst q1;exact .inl ⟨bA.1 q2,none,0,rfl⟩
 ·refine .inr ⟨g,cap,q1,YY q3,λi r hr=> ?_,q4⟩
  have hi:i<rows.length:=(aU.1 hr).1;obtain⟨u,hu⟩:∃u,us[i]?=some u:=⟨us[i]'J,aZ J⟩;refine⟨u,Z0 q3 i u ?_,?_⟩
  ·have e:(cur.toList.take (rows.length*1))[i]?=some u:=by rw[q7];exact hu
   rw[dz,iR J]at e;simpa using e
  ·have e:=(r2 i u hu).1;have e2:rows.getD i []=r:=by rw[aN,hr];rfl
   rw[e2]at e;exact am5 e rfl
theorem M9.llt {B:Nat}{v:aF}{rows:List (az)}(h:M9 w B v rows):y9 w v rows:=λW I=>(h W I).ll
theorem ac3 (hK:YV K):TB (Xj K):=by
 refine⟨?_,λp hp=>by cases hp⟩
 have key:∀l:List Nat,(l.map VC).sum<=2048*l.length:=λl=>by
  induction l with
  |nil=>simp
  |cons D l ih=>
   have:=Dn D 32;simp only[gG,List.sum_cons,eM];unfold VC at *;omega
 have:=key (Xj K).left;have e:(Xj K).left.length=K.vars.length:=by simp[Xj]
 have e2:(Xj K).ZF.length=0:=rfl;have:=hK.WB;omega
theorem am6 {b k:Nat}{x y anZ:aF}{o:Obj}(h:w.heap[k]?=some o)(ZP:k≠b):(((w.setCell (ah b) x).setCell (O b 1) y).setCell (O b 2) anZ).heap[k]?=some o:=by
 have one:∀{W:A} {i:Nat} {v:aF},W.heap[k]?=some o->(W.setCell (O b i) v).heap[k]?=some o:=λ{W i v} q=>((ZC W b i v).block k (YY q) (λe=>ZP qI)).trans q
 exact one (one (one h))
theorem y8 {b:Nat}{a0 a1 a2 x y anZ:aF}{t:TypeId}(h:w.heap[b]?=some (.cells #[a0,a1,a2] t (0,0))):(((w.setCell (ah b) x).setCell (O b 1) y).setCell (O b 2) anZ).heap[b]?=some (.cells #[x,y,anZ] t (0,0)):=
 YE (YE (YE h 0 x (aw:=#[x,a1,a2]) rfl) 1 y (aw:=#[x,y,a2]) rfl) 2 anZ rfl
theorem ac4 {b:Nat}{x y anZ:aF}(z:aB w0 w)(hb:w0.heap.size<=b):w0.grownBy (((w.setCell (ah b) x).setCell (O b 1) y).setCell (O b 2) anZ) none:=
 Ri (Ri (Ri z hb (ZC _ _ _ _)) hb (ZC _ _ _ _)) hb (ZC _ _ _ _)
theorem ac5 {b:Nat}{a0 a1 a2 x y anZ:aF}(hb:w.heap[b]?=some (.cells #[a0,a1,a2] 50 (0,0))):Hf w (((w.setCell (ah b) x).setCell (O b 1) y).setCell (O b 2) anZ):=λk c t q ht=>am6 q (λe=>by
  subst e;rw[hb]at q;injection q with q;injection q with _ q;subst q;rcases ht with e|e<;>exact absurd e pF)
theorem am7 (h:ZN w0 w X K s vT vS)(hB:w'.heap.size<=w0.heap.size){b:Nat}{a0 a1 a2 x y anZ:aF}(hb:w.heap[b]?=some (.cells #[a0,a1,a2] 50 (0,0))):M9 (((w.setCell (ah b) x).setCell (O b 1) y).setCell (O b 2) anZ) w'.heap.size vS s.Zx:=
 M9.UZ (λW I=>(am4 h I).low hB) (ac5 hb)
def my{P:Prop}(h:P:=by
 rw[HE.out];exact⟨_,rfl,am7 Yh (gY ac6) bb,ac4 (U1.trans Yh.g0) (iw _)⟩):P:=h
theorem am8 {bc B:Nat}{vV vC:aF}{cs:List X7}(aV:PQ w bc B vV vC K.vars cs)(WS:cs.map (·.c)=K.cons)(aL:VP w)(hK:YV K)(bk:K.YP=Wl K)(aI:K.Wm=UW K.vars.length (Wl K))(bR:K.XS<=9223372036854775807):aq 37 #[.pointer (some (O bc 1)),Y K.order,.bool K.VO,Y K.XS] w λe w'=>∃vS,e=.returned (.agg #[vS,Y (TQ K).ending,Y (TQ K).nodes])/\M9 w' w.heap.size vS (TQ K).Zx/\aB w w':=by
 obtain⟨bB,bT⟩:=zZ hK;have bI:=ac3 hK;obtain⟨c1,c2,c3,c4⟩:=Hp hK bB bT;obtain⟨YB,bJ⟩:=zv hK bB bI;obtain⟨W0,aR⟩:∃W0,W0=w.alloc (.cells #[af,Y 0,Y 0] 50):=⟨_,rfl⟩;have U1:aB w W0:=by rw[aR];exact di _ _ _
 have KB:=ZQ.mk (am3 (w:=W0) (aV.grown U1) WS (Hs aL U1) hK bk aI);have KC:=ZQ.mk (λ{W:A} {X:SL} (h:ZN W0 W X K (Xj K) (af) (af))=>acC h hK bB bI)
 have av:W0.heap[w.heap.size]?=some (.cells #[af,Y 0,Y 0] 50 (0,0)):=by rw[aR];exact gp _ _
 have ac6:w.heap.size<W0.heap.size:=YY av;have aS:Hid (∀W',aB W0 W'->W'.heap[w.heap.size]?=some (.cells #[af,Y 0,Y 0] 50 (0,0))):=λW' z=>(z.block _ ac6 pG).trans av
 by_cases c:(Zp K (Xj K)).1=true
 ·have hn:U9 K (Zp K (Xj K)).2:=⟨c1.ok bB,c4 c,c3⟩;have KE:=ZQ.mk (λ{W:A} {X:SL} {vT vS:aF} (h:ZN W0 W X K (Zp K (Xj K)).2 vT vS)=>acP hK bR (XG (Zp K (Xj K)).2+1) h hn bJ (eT _) (by rw[c1.Zx];exact iz _) (by rw[c1.nodes];exact iv _))
  have HE:Hid (TQ K=(Yy K (XG (Zp K (Xj K)).2+1) (Zp K (Xj K)).2).2):=by unfold Hid TQ;simp only[];rw[iR c]
  unfold Na at KE;rw[c]at KC;generalize TQ K=S at *;generalize Yy K (XG (Zp K (Xj K)).2+1) (Zp K (Xj K)).2=R at *;generalize Zp K (Xj K)=CS at *;clear c1 c2 c3 c4 YB bJ hn c aV WS aL bk aI bB bT bI av;go_enter func37,ntmps37;go_wp2_with (first|(go_at_call 51;refine(KE.get YM).mono ?_;rintro e w3 ⟨rfl,⟨b7,dy,Yh⟩,TH⟩;obtain⟨sa,sc,cj⟩:=Wt Yh.Zx.choose_spec.1;subst cj;have f11:=Yh.f11;have f12:=Yh.f12;have f13:=Yh.f13;have bb:=aS.out w3 Yh.g0;have b0:=Z0 bb 0 _ rfl;have b1:=Z0 bb 1 _ rfl;have b2:=Z0 bb 2 _ rfl;have z0:=Zz bb 0;have z1:=Zz bb 1;have z2:=Zz bb 2;have l3:=Yh.lt.1;have l4:=YY bb)|(go_at_call 50;refine(KC.get YB).mono ?_;rintro e w2 ⟨rfl,⟨a6,YM⟩,WR⟩)|(go_at_call 49;rw[<-aR];refine KB.get.mono ?_;rintro e w1 ⟨X,rfl,YB⟩))
  refine iq (fg rfl _ _ w.heap.size 50 #[.slice sa R.2.Zx.length sc,Y R.2.ending,Y R.2.nodes] (0,0) _ rfl (y8 bb) underlying50 rfl pH) rfl ?_;exact my
 ·have c:(Zp K (Xj K)).1=false:=qT;have HE:Hid (TQ K=(Zp K (Xj K)).2):=by unfold Hid TQ;simp only[];rw[iQ (by rw[c];decide)]
  rw[c]at KC;generalize TQ K=S at *;generalize Zp K (Xj K)=CS at *;clear c1 c2 c3 c4 YB bJ c aV WS aL bk aI bB bT bI av;go_enter func37,ntmps37;go_wp2_with (first|(go_at_call 50;refine(KC.get YB).mono ?_;rintro e w3 ⟨rfl,⟨b7,Yh⟩,TH⟩;have f11:=Yh.f11;have f12:=Yh.f12;have f13:=Yh.f13;have bb:=aS.out w3 Yh.g0;have b0:=Z0 bb 0 _ rfl;have b1:=Z0 bb 1 _ rfl;have b2:=Z0 bb 2 _ rfl;have z0:=Zz bb 0;have z1:=Zz bb 1;have z2:=Zz bb 2;have l3:=Yh.lt.1;have l4:=YY bb)|(go_at_call 49;rw[<-aR];refine KB.get.mono ?_;rintro e w1 ⟨X,rfl,YB⟩))
  refine iq (fg rfl _ _ w.heap.size 50 #[af,Y CS.2.ending,Y CS.2.nodes] (0,0) _ rfl (y8 bb) underlying50 rfl pH) rfl ?_;exact my
theorem am9 {b:Nat}{V:List Xx}{C:List Yz}{t:List UInt8}(h:Ov w b V C t)(hM:A5 V C)(aL:VP w)(order:Int)(VO:Bool)(XS:Int)(bR:XS<=9223372036854775807):aq 29 #[ai b,Y order,.bool VO,Y XS] w λe w'=>∃vS,e=.returned (.agg #[vS,Y (TQ (QH V C order VO XS)).ending,Y (TQ (QH V C order VO XS)).nodes])/\M9 w' w.heap.size vS (TQ (QH V C order VO XS)).Zx/\aB w w':=by
 obtain⟨bc,B,vV,vC,cs,F,h2,h3⟩:=h.set;obtain⟨W0,aR⟩:∃W0,W0=w.alloc (.cells #[af,Y 0,Y 0] 50):=⟨_,rfl⟩;have U1:aB w W0:=by rw[aR];exact di _ _ _
 have KS:=ZQ.mk (am8 (w:=W0) (K:=QH V C order VO XS) (h2.grown U1) h3 (Hs aL U1) (acW hM.vars hM.WB hM.cons hM.O8) rfl rfl bR);have av:W0.heap[w.heap.size]?=some (.cells #[af,Y 0,Y 0] 50 (0,0)):=by rw[aR];exact gp _ _
 have aS:Hid (∀W',aB W0 W'->W'.heap[w.heap.size]?=some (.cells #[af,Y 0,Y 0] 50 (0,0))):=λW' z=>(z.block _ (YY av) pG).trans av
 have ZR:=h.lt;generalize hR:TQ (QH V C order VO XS)=R at *;have cR:=ZQ.mk (show aq 37 #[.pointer (some (O bc 1)),Y order,.bool VO,Y XS] W0 λe w'=>∃vS,e=.returned (.agg #[vS,Y R.ending,Y R.nodes])/\M9 w' W0.heap.size vS R.Zx/\aB W0 w' from KS.get)
 clear KS h h2 h3 av aL hM hR;go_enter func29,ntmps29;go_wp2_with (go_at_call 37;rw[<-aR];refine cR.get.mono ?_;rintro e w3 ⟨vS,rfl,hL,ZJ⟩;obtain⟨sa,sc,cj⟩:=hL.llt.ll.is;subst cj;have bb:=aS.out w3 ZJ;have b0:=Z0 bb 0 _ rfl;have b1:=Z0 bb 1 _ rfl;have b2:=Z0 bb 2 _ rfl;have z0:=Zz bb 0;have z1:=Zz bb 1;have z2:=Zz bb 2;have l4:=YY bb);refine iq (fg rfl _ _ w.heap.size 50 #[.slice sa R.Zx.length sc,Y R.ending,Y R.nodes] (0,0) _ rfl (y8 bb) underlying50 rfl pH) rfl ?_;exact⟨_,rfl,λW I=>(hL.UZ (ac5 bb) W I).low U1.size,ac4 (U1.trans ZJ) (iw _)⟩
def Ts (lo hi:Int):az:=(List.range (hi-lo+1).toNat).map λ(k:Nat)=>lo+(k:Int)
theorem y7 (lo hi x:Int):x∈Ts lo hi↔lo<=x/\x<=hi:=by
 unfold Ts;rw[gU];constructor
 ·rintro⟨k,I,rfl⟩;rw[fX]at I;omega
 ·rintro⟨F,h2⟩;exact⟨(x-lo).toNat,by rw[fX];omega,J⟩
theorem ac7 (lo hi:Int):(Ts lo hi).Nodup:=by
 unfold Ts List.Nodup;rw[dU];exact List.nodup_range.imp (λh e=>h J)
def Xi:List (Int×Int)->List (az)
 |[]=>[[]]
 |v::vs=>(Ts v.1 v.2).flatMap λx=>(Xi vs).map (x::·)
def Tr (vars:List Xx):List (Int×Int):=vars.map λv=>(v.low,v.high)
theorem yZ:∀(vars:List Xx) (x:az),x∈Xi (Tr vars)↔VQ vars x=true
 |[],x=>by
  cases x with
  |nil=>simp[Xi,Tr,VQ]
  |cons a x=>simp[Xi,Tr,VQ]
 |v::vs,x=>by
  show x∈(Ts v.low v.high).flatMap (λy=>(Xi (Tr vs)).map (y::·))↔_
  rw[List.mem_flatMap];constructor
  ·rintro⟨y,hy,hx⟩;obtain⟨r,hr,rfl⟩:=gU.1 hx;have F:=(y7 _ _ _).1 hy;have h2:=(yZ vs r).1 hr;simp[VQ,Ox,F,h2]
  ·intro h
   cases x with
   |nil=>simp[VQ]at h
   |cons y r=>
    simp only[VQ,eC,Ox,ee]at h;exact⟨y,(y7 _ _ _).2 h.1,gU.2 ⟨r,(yZ vs r).2 h.2,rfl⟩⟩
theorem ac8:∀vs:List (Int×Int),(Xi vs).Nodup
 |[]=>by simp[Xi]
 |v::vs=>by
  have ih:=ac8 vs;unfold Xi List.Nodup;rw[List.pairwise_flatMap];refine⟨λx _=> ?_,(ac7 v.1 v.2).imp (λ{a b} bM r hr s hs e=> ?_)⟩
  ·rw[dU];exact ih.imp (λh e=>h rU)
  ·obtain⟨r',_,rfl⟩:=gU.1 hr;obtain⟨s',_,rfl⟩:=gU.1 hs;injection e with e1 e2;exact bM e1
theorem ana {lo hi:Int}(F:-1000<=lo)(h2:hi<=1000):VC (U' lo hi)=(Ts lo hi).length:=by
 rw[Dj];refine List.Perm.length_eq ((List.perm_ext_iff_of_nodup ?_ (ac7 lo hi)).2 (λx=> ?_))
 ·rw[Ar];unfold List.Nodup;rw[dU];exact(List.nodup_range.filter _).imp (λh e=>h J)
 ·rw[K7,y7];constructor
  ·rintro⟨p,hp,rfl,_⟩;rw[Ou _ _ F]at hp;simp at hp;omega
  ·rintro⟨q1,q2⟩;refine⟨(x+1000).toNat,?_,J,J⟩;rw[Ou _ _ F];simp;omega
theorem CL:∀vs:List (Int×Int),(Xi vs).length=vs.foldr (λv p=>(Ts v.1 v.2).length*p) 1
 |[]=>rfl
 |v::vs=>by
  have ih:=CL vs;have key:∀(l:az),(l.flatMap λx=>(Xi vs).map (x::·)).length=l.length*(Xi vs).length:=λl=>by
   induction l with
   |nil=>simp
   |cons x l ih=>rw[dO,dA,ih,fy,eM,Nat.succ_mul,Nat.add_comm]
  show((Ts v.1 v.2).flatMap λx=>(Xi vs).map (x::·)).length=(Ts v.1 v.2).length*vs.foldr (λv p=>(Ts v.1 v.2).length*p) 1
  rw[key,ih]
theorem ac9:∀{V:List Xx},(∀v∈V,-1000<=v.low/\v.low<=v.high/\v.high<=1000)->Jw V=(Xi (Tr V)).length
 |[],_=>rfl
 |v::V,h=>by
  have ih:=ac9 (V:=V) (λu hu=>h u rB)
  rw[CL]at ih⊢;have hv:=h v pG;show VC (U' v.low v.high)*Jw V=(Ts v.low v.high).length*(Tr V).foldr (λv p=>(Ts v.1 v.2).length*p) 1
  rw[ih,ana hv.1 hv.2.2]
end Go.Proofs.YthpcbbnabnlanaaGreatDoor
