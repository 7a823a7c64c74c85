import Derived.Test.YthpcbbnabnlanaaGreatDoorM31
import Derived.RangeFuncNested
import Derived.RangeFuncBound
import Derived.RangeFuncCalls
import Derived.RangeFuncLeaves
import Derived.Shelf.Abstract
import Derived.Shelf.RegionOpen
import Derived.WalkKit
import Derived.OwnWalkIn
import Derived.TacticsInMore
import Derived.LoopNIn
import Derived.LoopIn
import Derived.ChangeKeysEq
namespace Go.Proofs.YthpcbbnabnlanaaGreatDoor
set_option maxHeartbeats 4000000
set_option maxRecDepth 100000
open Go.Proofs.Tryz
set_option linter.all false
section
open Go.RowKit Go.Shelf
attribute [local go_sem] Oper.semAt_some
theorem abr {anW:Fence}{nF:Nat}{P:Program}{ops:Array Oper}{rest:List Oper}{o:Oper}{a:Act}{w:A}{Q:Exit->Act->A->Prop}(Qw:o.guard=none)(ty:TypeId)(x:Operand)(ho:o.op=.load ty x)(g:Nat)(hx:a.eval x=ai g)(t:TypeId)(cs:Array aF)(fr:Nat×Nat)(d:TypeDesc)(z:w.heap[g]?=some (.cells cs t fr))(hu:P.underlying ty=some d)(hd:(match d with|.struct _|.array _ _=>true|_=>false)=true)(hi:(P.info? ty).map (·.size)=some cs.size)(h:wpListIn anW nF P ops Q rest (a.put o.dst (.agg cs)) w):wpListIn anW nF P ops Q (o::rest) a w:=by
 refine wpListIn_plain Qw λK' bl=> ?_
 unfold Oper.wpIn;refine⟨by simp[Oper.about,ho],?_⟩;rw[Oper.semAt_plain anW _ _ (by rw[ho];intro c bo;cases bo)];simp[execOp,ho,hx,Instr.loadAt,Instr.sureAddr,run_loadVar_row w g t ty cs fr d z hu hd hi,Result.andThen];exact bl _ _ h
def Mw (W W':A):Prop:=VP W->VP W'
def abt {α:Type}(val:α->Int)(xs:List α)(D:Nat)(anS:List α->A->Prop)(va vb vi:aF)(wr:A):Prop:=
 ∃(i:Nat) (pre rest:List α),i<=32/\vi=Y i/\xs=pre++rest/\rest.map val=PF D (32-i) i/\anS pre wr/\VP wr
def abu {α:Type}(val:α->Int)(xs:List α)(D i:Nat)(anS:List α->A->Prop)(vb:aF)(wr:A):Prop:=
 ∃(x:Nat) (pre rest:List α),x<18446744073709551616/\vb=.int .u64 x/\xs=pre++rest/\rest.map val=Nq i x++PF D (31-i) (i+1)/\anS pre wr/\VP wr
theorem abv {x:Nat}(h:0<x):x &&& (x-1)<x:=by
 have:x &&& (x-1)<=x-1:=Nat.and_le_right;omega
theorem akx {α:Type}(val:α->Int)(xs:List α)(D:Nat)(TS:xs.map val=WQ D)(n l B:Nat)(anS Jx:List α->A->Prop)(hY:∀pre x W,anS pre W->pre.length<xs.length->YieldAt Fence.wide (n-1) prog l #[Y (val x)] W λe W'=>
   (e=.returned (.bool true)/\anS (pre++[x]) W'/\Mw W W')\/(e=.returned (.bool false)/\Jx (pre++[x]) W'))
  (W:A) (hB:W.heap[B]?=some (.cells (Zh D) 161 (0,0))) (hT:VP W) (h0:anS [] W):
  CallsIn Fence.wide n prog 178 #[.func (.yield l) #[] #[],ai B] W λe W'=>(∃v,e=.returned v)/\
   ((∃ys,ys=xs/\anS ys W')\/(∃pre,pre<+:xs/\Jx pre W')):=by
 refine callsIn_of_wp func178 rfl trivial ?_ rfl;simp only[ntmps178,dW,eM,fB,Nat.reduceAdd,Nat.reduceSub,bS,bT,dV,cQ,fF,eG];gi_wp2_with (refine abr rfl 161 _ rfl B rfl 161 (Zh D) (0,0) _ hB underlying161 rfl (Ti D) ?_);gi_loopw [3,4,6] (λva vb vi wr=>abt val xs D anS va vb vi wr) (λva vb vi _=>32-(intOf vi).toNat)
 case atStart=>exact⟨0,[],xs,J,rfl,rfl,TS,h0,hT⟩
 case round=>
  clear hT h0 hB;obtain⟨i,pre,rest,hi,rfl,hx,hr,hJ,hT⟩:=hrel;by_cases ZR:i<32
  ·have X8:(i:Int)<32:=J;have Xy:(0:Int)<=i:=J;have ha:=abl D ZR wr;have HS:Hid (abu val xs D i anS (.int .u64 (YW D i:Nat)) wr):=by
    refine⟨_,pre,rest,by have:=G' D i;simpa using this,rfl,hx,?_,hJ,hT⟩;rw[hr,show 32-i=(31-i)+1 by omega,PF]
   clear hr hJ hT hx;gi_wp2;gi_loopw [4] (λvb wr=>abu val xs D i anS vb wr) (λvb _=>(intOf vb).toNat)
   case atStart=>exact HS.out
   case round=>
    clear HS ha;obtain⟨x,pre,rest,a8,rfl,hx,hr,hJ,hT⟩:=hrel;by_cases c:x=0
    ·subst c;have HN:Hid (∀va vb,abt val xs D anS va vb (Y ((i:Int)+1)) wr):=λva vb=>by
      refine⟨i+1,pre,rest,J,pG,hx,?_,hJ,hT⟩;rw[hr,akv,fF,show 31-i=32-(i+1) by omega]
     clear hr hx hJ hT;gi_wp2;go_roundw
     case rel=>exact HN.out _ _
     case measure=>simp[intOf];omega
    ·have hp:0<x:=J;have hz:(((x:Nat):Int) != 0)=true:=pI;obtain⟨y,rest,rfl⟩:∃y r,rest=y::r:=by
      cases rest with
      |nil=>rw[abm hp a8]at hr;simp at hr
      |cons y r=>exact⟨y,r,rfl⟩
     rw[abm hp a8,gG,eG]at hr;obtain⟨hv,WI⟩:=List.cons.inj hr;have aa:=hY pre y wr hJ (by rw[hx];simp);rw[hv]at aa;have K:=ZQ.mk (ai8 hT x hp a8);have I:Vr x<64:=by obtain⟨m,e,hm,I⟩:=G8 hp a8;exact I
     have HB:Hid (bits .and .u64 (x:Int) ((x:Int)-1)=((x &&& (x-1):Nat):Int)):=by
      rw[Hid,show((x:Int)-1)=((x-1:Nat):Int) by omega,eZ _ _ a8 J]
     have HR:=Z8 WI;have HX:=Z8 hx;clear hr WI hx hv c;generalize Vr x=T at *;obtain⟨fn,tmps,assign,body,hy,hR⟩:=aa;clear hY;gi_wp2;refine⟨trivial,(λh=>rN),(ir.2 K.get).mono ?_⟩
     rintro e w1 ⟨rfl,rfl⟩;clear K;gi_wp2;refine⟨(λh=>rN),hR.mono ?_⟩
     rintro e W3 (⟨rfl,O,aL⟩|⟨rfl,aj⟩)
     ·gi_wp2;rw[HB.out];go_roundw
      case rel=>exact⟨_,pre++[y],rest,Nat.lt_trans (abv hp) a8,rfl,by rw[HX.out];simp,HR.out,O,aL hT⟩
      case measure=>have:=abv hp;simp[intOf];omega
     ·gi_wp2;refine iq (iu rfl _ _ _) rfl ?_;exact⟨⟨_,rfl⟩,.inr ⟨pre++[y],⟨rest,by rw[HX.out];simp⟩,aj⟩⟩
  ·obtain rfl:i=32:=J;gi_wp2;go_end0;have e:rest=[]:=by
    have:rest.map val=[]:=hr;simpa using this
   subst e;exact⟨⟨_,rfl⟩,.inl ⟨pre,by rw[hx,fp],hJ⟩⟩
end
section
open Go.RowKit Go.Shelf
attribute [local go_sem] Oper.semAt_some
theorem abw {D:Nat}{v:Int}:∀{f i:Nat},v∈PF D f i->∃p:Nat,D.testBit p=true/\v=(p:Int)-1000/\64*i<=p/\p<64*(i+f)
 |0,i,h=>by simp[PF]at h
 |f+1,i,h=>by
  rw[PF,fE]at h;rcases h with h|h
  ·unfold Nq K8 at h;obtain⟨j,hj,rfl⟩:=gU.1 h;obtain⟨F,h2⟩:=List.mem_filter.1 hj;rw[Q4]at h2;have h3:j<64:=pW;refine⟨64*i+j,by simpa[h3]using h2,J,J,J⟩
  ·obtain⟨p,q1,q2,q3,q4⟩:=abw h;exact⟨p,q1,q2,J,J⟩
theorem abx {D p:Nat}(h:D.testBit p=true):∀{f i:Nat},64*i<=p->p<64*(i+f)->((p:Int)-1000)∈PF D f i
 |0,i,F,h2=>J
 |f+1,i,F,h2=>by
  rw[PF,fE];by_cases c:p<64*(i+1)
  ·left
   unfold Nq K8;refine gU.2 ⟨p-64*i,List.mem_filter.2 ⟨by simp;omega,?_⟩,J⟩;rw[Q4,show 64*i+(p-64*i)=p by omega,h];simp;omega
  ·right
   exact abx h J J
theorem K7 {D:Nat}{v:Int}:v∈WQ D↔∃p:Nat,D.testBit p=true/\v=(p:Int)-1000/\p<2048:=by
 constructor
 ·intro h;obtain⟨p,F,h2,h3,h4⟩:=abw h;exact⟨p,F,h2,J⟩
 ·rintro⟨p,F,rfl,h2⟩;exact abx F J J
theorem Mv {D p k:Nat}(h:D.testBit p=true)(hD:D<2 ^ k):p<k:=by
 refine Nat.lt_of_not_le λc=> ?_
 rw[bJ (dH hD (cH pF c))]at h
 cases h
theorem Hv {D:Nat}(hD:D<2 ^ 2001){v:Int}(h:v∈WQ D):-1000<=v/\v<=1000:=by
 obtain⟨p,F,rfl,h2⟩:=K7.1 h;have:=Mv F hD;omega
theorem Hu {w w':A}(h:VP w)(hb:w'.heap[0]?=w.heap[0]?):VP w':=by
 unfold VP Lib.TabIs World.var? at *;rw[A0]at h⊢;simp only[eX]at h⊢;rw[hb];exact h
theorem aby {w:A}(h:VP w):∃cs t fr,w.heap[0]?=some (.cells cs t fr):=by
 unfold VP Lib.TabIs World.var? at h;rw[A0]at h;simp only[eX]at h;split at h
 ·next cs t fr e=>exact⟨cs,t,fr,e⟩
 ·cases h
theorem Ht {w:A}(h:VP w):0<w.heap.size:=by
 obtain⟨cs,t,fr,e⟩:=aby h;exact(aM.1 e).1
theorem Hs {w w':A}(h:VP w)(z:aB w w'):VP w':=Hu h (z.block 0 (Ht h) pG)
theorem abz {anY B C:A}(h:Mw anY B)(k:Mw B C):Mw anY C:=λq=>k (h q)
theorem abA {w:A}(W:A)(l:Nat)(o o':Obj)(_:w.heap.size<=l)(h:W.heap[l]?=some o)(hc:o.isCells=false)(_:o.isWalk=false):Mw W (W.putObj l o'):=λq=>by
 obtain⟨cs,t,fr,e⟩:=aby q;have hl:l≠0:=by
  rintro rfl;rw[e]at h
  cases h
  cases hc
 exact Hu q ((grownBy_putObj' W l o').block 0 (Ht q) (λe=>hl qI))
theorem abB {α:Type}(val:α->Int)(xs:List α)(D:Nat)(TS:xs.map val=WQ D)(n B:Nat)(w:A)(hB:w.heap[B]?=some (.cells (Zh D) 161 (0,0)))(hT:VP w):SeqStopsK Fence.wide n prog 178 #[ai B] (λx:α=>#[Y (val x)]) Mw (λys=>ys=xs) (λpre=>pre<+:xs) xs.length w:=λl anS Jx W hW _ _ hY h0=>by
 have Xf:B<w.heap.size:=(aM.1 hB).1;exact akx val xs D TS n l B anS Jx hY W ((hW.block B Xf).trans hB) (Hu hT (hW.block 0 (Ht hT))) h0
theorem abC (D:Nat)(w:A):aq 136 #[.agg (Zh D)] w λe w'=>e=.returned (.func (.func 178) #[] #[ai w.heap.size])/\w'=w.alloc (.cells (Zh D) 161):=by
 go_enter func136,ntmps136;exact lq
end
section
open Go.RowKit Go.Shelf
theorem abD {D p k:Nat}(hD:D<2 ^ k)(h:k<=p):D.testBit p=false:=bJ (dH hD (cH pF h))
theorem aky {D E:Nat}(hD:D<2 ^ 2048)(hE:E<2 ^ 2048)(h:∀i,i<32->YW D i=YW E i):D=E:=by
 apply cG;intro p;by_cases c:p<2048
 ·have q:=iJ (λx=>Nat.testBit x (p%64)) (h (p/64) J)
  simp only[Q4]at q;rw[show 64*(p/64)+p%64=p by omega]at q;have:p%64<64:=J;simpa[this]using q
 ·have a:D.testBit p=false:=abD hD (Nat.le_of_not_lt c);have b:E.testBit p=false:=abD hE (Nat.le_of_not_lt c);rw[a,b]
theorem abE (d D E:Nat)(w:A):∀is:List Nat,(∀i∈is,i<32)->∃r:Bool,Sem.run prog (Op.eqItems (d+1) 159 1 (Zh D) (Zh E) is) w=.ok r w/\(r=true↔∀i∈is,YW D i=YW E i)
 |[],_=>⟨true,by simp[Op.eqItems],pG⟩
 |i::is,h=>by
  have hi:i<32:=h i pG;obtain⟨r,F,h2⟩:=abE d D E w is (λj hj=>h j vy)
  have a1:∀w:A,Sem.run prog (isAgg 159) w=.ok false w:=λw=>pH
  have p:∀D:Nat,Sem.run prog (part 159 (Zh D) (i*1)) w=.ok (.int .u64 (YW D i:Nat)) w:=λD=>by
   rw[iy];unfold part;simp only[il,a1,dZ,Nw D hi];rfl
  have u:prog.underlying 159=some (.int .u64):=pH;have q:Sem.run prog (Op.equalIn (d+1) 159 (.int .u64 (YW D i:Nat)) (.int .u64 (YW E i:Nat))) w=.ok (((YW D i:Nat):Int)==((YW E i:Nat):Int)) w:=by
   simp only[Op.equalIn,il,run_underlying u,dZ];simp
  simp only[Op.eqItems,il,p,q,dZ];by_cases c:YW D i=YW E i
  ·refine⟨r,by simpa[c]using F,?_⟩;rw[h2];simp[c]
  ·refine⟨false,?_,by simp[c]⟩;have c2:(((YW D i:Nat):Int)==((YW E i:Nat):Int))=false:=pI;rw[c2];simp
theorem abF {D E:Nat}(hD:D<2 ^ 2048)(hE:E<2 ^ 2048)(w:A):Sem.run prog (Op.equal 161 (.agg (Zh D)) (.agg (Zh E))) w=.ok (D==E) w:=by
 obtain⟨r,F,h2⟩:=abE 9998 D E w (List.range 32) (λi hi=>rO)
 have hr:r=(D==E):=by
  rw[fj,h2];constructor
  ·intro h;simp;exact aky hD hE (λi hi=>h i rO)
  ·intro h i _;have:D=E:=pX;rw[this]
 have u:prog.underlying 161=some (.array 32 159):=pH;obtain⟨i0,hi⟩:∃i,prog.info? 159=some i:=bj.1 pH;have hc:prog.cellsOf 159=1:=pH;have q:=run_equalIn_array w (9998+1) (Zh D) (Zh E) u hi;rw[hc,F,hr]at q;exact q
end
section
open Go.RowKit Go.Shelf
attribute [local go_sem] Oper.semAt_some
def WE (D:Nat):Int:=(WQ D).headD 0
def Yd (D:Nat):Bool:= !(WQ D).isEmpty&&(D==2 ^ (WE D+1000).toNat)
theorem Fq {w w':A}(h:Below w.heap.size w w'):aB w w':=⟨h.os,h.tape,h.output,h.size,λk I _=>h.block k I⟩
theorem Ay {w w':A}(h:aB w w'):Below w.heap.size w w':=⟨h.os,h.tape,h.output,h.size,λk I=>h.block k I pG⟩
abbrev Qr (D:Nat):Type:={v:Int//v∈WQ D}
def Dk (D:Nat)(w:A)(pre:List (Qr D))(W:A):Prop:=
 pre=[]/\W.heap[w.heap.size]?=some (.cells (Zh D) 161 (0,0))/\W.heap[w.heap.size+1]?=some (.cells #[Y 0] 3 (0,0))/\W.heap[w.heap.size+2]?=some (.cells #[.bool false] 4 (0,0))/\aB w W
def Fp (D:Nat)(w:A)(c:Code)(pre:List (Qr D))(W:A):Prop:=
 c=.ret/\(∃x:Qr D,pre=[x]/\W.heap[w.heap.size+1]?=some (.cells #[Y x.1] 3 (0,0))/\W.heap[w.heap.size+2]?=some (.cells #[.bool (D==2 ^ (x.1+1000).toNat)] 4 (0,0)))/\aB w W
theorem Fo {B k:Nat}{W W':A}{row:Option Nat}{o:Obj}(h:W.heap[k]?=some o)(z:W.grownBy W' row)(hr:∀r,row=some r->B<=r/\∃o:Obj,W.heap[r]?=some o/\o.isCells=false)(I:k<B):W'.heap[k]?=some o:=
 (z.block k (aM.1 h).1 (λe=>by have:=(hr k e.symm).1;omega)).trans h
theorem Ax {B:Nat}{w W W':A}{row:Option Nat}(h:aB w W)(z:W.grownBy W' row)(hr:∀r,row=some r->B<=r/\∃o:Obj,W.heap[r]?=some o/\o.isCells=false)(I:w.heap.size<=B):aB w W':=
 Fq ((Ay h).grown z h.size (λk e=>by have:=(hr k e).1;omega))
theorem Dk.from {D B:Nat}{w:A}(hB:w.heap.size+4<=B):OwnFrom B (Dk D w):=λs anY B' row hs z hr=>
 ⟨hs.1,Fo hs.2.1 z hr J,Fo hs.2.2.1 z hr J,Fo hs.2.2.2.1 z hr J,Ax hs.2.2.2.2 z hr J⟩
theorem Fp.from {D B:Nat}{w:A}(hB:w.heap.size+4<=B)(c:Code):OwnFrom B (Fp D w c):=λs anY B' row hs z hr=>by
 obtain⟨F,⟨x,h2,h3,h4⟩,h5⟩:=hs;exact⟨F,⟨x,h2,Fo h3 z hr J,Fo h4 z hr J⟩,Ax h5 z hr J⟩
theorem Aw {a b:Nat}(h:a<b):(2:Nat) ^ a<2 ^ b:=cI pF h
theorem akz {v:Int}(h:v<=1000):(2:Nat) ^ (v+1000).toNat<2 ^ 2048:=Aw (a:=(v+1000).toNat) (b:=2048) J
theorem Av {D:Nat}(h:D<2 ^ 2001):D<2 ^ 2048:=Nat.lt_trans h (Aw (a:=2001) (b:=2048) J)
theorem akA {l t:az}{x:Int}(h:x::t=l):l.headD 0=x/\l.isEmpty=false:=by subst h;exact⟨rfl,rfl⟩
def Au (p:aF):Sem aF:=Instr.loadAt 161 p
theorem akB (p:aF):Instr.loadAt 161 p=Au p:=rfl
attribute [local go_sem ↓] akB
theorem akC (D:Nat)(hD:D<2 ^ 2001)(w:A)(hT:VP w):aq 126 #[.agg (Zh D)] w (au w (.tuple #[Y (WE D),.bool (Yd D)])):=by
 refine(ir (n:=3)).1 ?_;refine callsIn_of_wp_marks func126 rfl trivial ?_ rfl;simp only[ntmps126,dW,eM,fB,Nat.reduceAdd,Nat.reduceSub,bS,bT,dV,cQ,fF,eG];have K:=ZQ.mk (λW=>abC D W)
 gi_wp2_with (first|(refine abr rfl 161 _ rfl w.heap.size rfl 161 (Zh D) (0,0) _ (FP w _ _ _) underlying161 rfl (Ti D) ?_)|(refine⟨trivial,(ir.2 (K.get _)).mono ?_⟩;rintro e w1 ⟨rfl,rfl⟩))
 clear K;obtain⟨W0,aR⟩:∃W0,(((w.alloc (.cells (Zh D) 161)).alloc (.cells #[Y 0] 3)).alloc (.cells #[.bool false] 4)).alloc (.cells (Zh D) 161)=W0:=⟨_,rfl⟩;have Yw:W0.heap.size=w.heap.size+4:=by rw[<-aR];simp
 have aO:Below w.heap.size w W0:=by rw[<-aR];exact((((iC _ w).alloc (iw _) _).alloc pG _).alloc pI _).alloc pI _
 have b0:W0.heap[w.heap.size]?=some (.cells (Zh D) 161 (0,0)):=by rw[<-aR];exact(gq _ _ pI).trans (FP w _ _ _)
 have b1:W0.heap[w.heap.size+1]?=some (.cells #[Y 0] 3 (0,0)):=by rw[<-aR];exact(gq _ _ pG).trans (IU w _ _ _)
 have b2:W0.heap[w.heap.size+2]?=some (.cells #[.bool false] 4 (0,0)):=by rw[<-aR];exact(gq _ _ pG).trans (DB w _ _ _)
 have b3:W0.heap[w.heap.size+3]?=some (.cells (Zh D) 161 (0,0)):=by
  rw[<-aR];have q:=gp (((w.alloc (.cells (Zh D) 161)).alloc (.cells #[Y 0] 3)).alloc (.cells #[.bool false] 4)) (.cells (Zh D) 161);have e:(((w.alloc (.cells (Zh D) 161)).alloc (.cells #[Y 0] 3)).alloc (.cells #[.bool false] 4)).heap.size=w.heap.size+3:=pG;rw[e]at q;exact q
 have bI:VP W0:=Hu hT (aO.block 0 (Ht hT));rw[aR];clear aR;have e1:w.heap.size+1+1=w.heap.size+2:=rfl;have e2:w.heap.size+1+1+1=w.heap.size+3:=rfl;rw[e2,e1];refine wpIn_rangeFunc_ownF (α:=Qr D) rfl pF (gf:=178) (lb:=#[ai (w.heap.size+3)]) rfl trivial (enters_of func178 pH rfl)
  (abB (λx:Qr D=>x.1) (WQ D).attach D (aJ _) _ (w.heap.size+3) W0 b3 bI) abz abA (iC _ _) (λ_=>rfl)
  (Dk D w) (Fp D w) (Dk.from J) (Fp.from J) ⟨rfl,b0,b1,b2,Fq aO⟩
  (λx=>{tmps:=#[.agg (Zh D),ai w.heap.size,ai (w.heap.size+1),ai (w.heap.size+2),Y x.1,.agg (Zh D),.func (.func 178) #[] #[ai (w.heap.size+3)],Y x.1,undef,undef,undef,undef,undef],defers:=[]}) ?assign ?body ?done ?stop
 case assign=>
  intro l x W K hK;gi_wp2;exact hK
 case body=>
  rintro l pre x W ⟨rfl,c0,c1,c2,z⟩ _;obtain⟨x1,x2⟩:=Hv hD x.2;have K:=ZQ.mk (λW=>aaI x.1 x1 x2 W)
  have hE:=akz x2;have br:=Av hD;have HE:∀W':A,Sem.run prog (Op.equalIn 10000 161 (.agg (Zh D)) (.agg (Zh (2 ^ (x.1+1000).toNat)))) W'=.ok (D==2 ^ (x.1+1000).toNat) W':=λW'=>abF br hE W'
  have HX:Hid (∀w1:A,aB W w1->KeepsOthers W ((w1.setCell (ah (w.heap.size+1)) (Y x.1)).setCell (ah (w.heap.size+2)) (.bool (D==2 ^ (x.1+1000).toNat)))/\Fp D w .ret [x] ((w1.setCell (ah (w.heap.size+1)) (Y x.1)).setCell (ah (w.heap.size+2)) (.bool (D==2 ^ (x.1+1000).toNat)))):=λw1 F=>by
   have d1:=(F.block _ (aM.1 c1).1 pG).trans c1;have d2:=(F.block _ (aM.1 c2).1 pG).trans c2;refine⟨((KeepsOthers.of_grownBy F (λr o e _=>pL)).trans (KeepsOthers.setCell _ _ _)).trans (KeepsOthers.setCell _ _ _),rfl,⟨x,rfl,?_,?_⟩,?_⟩
   ·exact(dr _ _ _ _ sT).trans (YE d1 0 _ rfl)
   ·exact YE ((dr _ _ _ _ sU).trans d2) 0 _ rfl
   ·exact Up (Up (z.trans F) J (ZC _ _ _ _)) J (ZC _ _ _ _)
  have bD:prog.follows .mixedOrders=true:=pH;have HL:Hid (∀W':A,W'.heap[w.heap.size]?=some (.cells (Zh D) 161 (0,0))->Sem.run prog (Au (ai w.heap.size)) W'=.ok (.agg (Zh D)) W'):=λW' h=>by
   simp only[Au,Instr.loadAt,Instr.sureAddr,il,Sem.run_pure,dZ];exact run_loadVar_row W' w.heap.size 161 161 (Zh D) (0,0) _ h underlying161 rfl (Ti D)
  have l0:=HL.out W.drew c0;have C0:=Z8 c0;have C1:=Z8 c1;have C2:=Z8 c2;clear c0 c1 c2 z hE br;generalize ak:(2:Nat) ^ (x.1+1000).toNat=E at *;clear ak;gi_wp2;gi_region_with_o (refine⟨trivial,(CallsIn.inRound l (ir.2 (K.get _))).mono ?_⟩;rintro e w1 ⟨rfl,ZZ⟩;have l1:=HL.out w1 ((ZZ.block _ (aM.1 C0.out).1 pG).trans C0.out);have l2:=HL.out (w1.setCell (ah (w.heap.size+1)) (Y x.1)) ((dr _ _ _ _ tI).trans ((ZZ.block _ (aM.1 C0.out).1 pG).trans C0.out));have k1:=Z0 ((ZZ.block _ (aM.1 C1.out).1 pG).trans C1.out) 0 _ rfl;have f1:=Zz ((ZZ.block _ (aM.1 C1.out).1 pG).trans C1.out) 0;have k2:=Z0 ((ZZ.block _ (aM.1 C2.out).1 pG).trans C2.out) 0 _ rfl;have f2:=Zz ((ZZ.block _ (aM.1 C2.out).1 pG).trans C2.out) 0)
  all_goals gi_wp2
  all_goals exact HX.out _ ((ZG _ _).trans ZZ)
 case done=>
  rintro d ys W hd rfl ⟨he,c0,c1,c2,z⟩ hK;have k1:=Z0 c1 0 _ rfl;have f1:=Zz c1 0;have k2:=Z0 c2 0 _ rfl;have f2:=Zz c2 0;have hv:WQ D=[]:=by
   have:=iJ (List.map Subtype.val) he
   rwa [aJ]at this
  have q1:WE D=0:=by unfold WE;rw[hv];rfl
  have q2:Yd D=false:=by unfold Yd;rw[hv];rfl
  have bl:=((KeepsOthers.setCell W (ah (w.heap.size+1)) (Y 0)).trans (KeepsOthers.setCell _ (ah (w.heap.size+2)) (.bool false))).same d _ hK rfl;have d1:((W.setCell (ah (w.heap.size+1)) (Y 0)).setCell (ah (w.heap.size+2)) (.bool false)).heap[w.heap.size+1]?=some (.cells #[Y 0] 3 (0,0)):=
   (dr _ _ _ _ sT).trans (YE c1 0 _ rfl)
  have d2:((W.setCell (ah (w.heap.size+1)) (Y 0)).setCell (ah (w.heap.size+2)) (.bool false)).heap[w.heap.size+2]?=some (.cells #[.bool false] 4 (0,0)):=
   YE ((dr _ _ _ _ sU).trans c2) 0 _ rfl
  have n1:=cell_kept (Z0 d1 0 _ rfl) (grownBy_putObj' _ d (.deferred none)) (λr e=>by cases e;exact⟨_,bl,rfl⟩)
  have n2:=cell_kept (Z0 d2 0 _ rfl) (grownBy_putObj' _ d (.deferred none)) (λr e=>by cases e;exact⟨_,bl,rfl⟩)
  have ZU:=Z8 (Up (Up z (by omega:w.heap.size<=w.heap.size+1) (ZC W (w.heap.size+1) 0 (Y 0))) (by omega:w.heap.size<=w.heap.size+2) (ZC _ (w.heap.size+2) 0 (.bool false)));have N1:=Z8 n1;have N2:=Z8 n2;have HK:=Z8 bl;clear n1 n2 d1 d2 bl;gi_wp2;have n1:=N1.out;have n2:=N2.out;refine⟨pG,.inl ⟨_,_,rfl,run_takeDeferred HK.out,?_⟩⟩;refine⟨.tuple #[Y 0,.bool false],?_,rfl,?_⟩
  ·simp[results,f126,go_sem,n1,n2]
  ·exact Fq ((Ay ZU.out).trans (belowK_b (w:=w) (iw _) _ d _ _ J HK.out rfl rfl))
 case stop=>
  rintro d c pre W hd aX ⟨rfl,⟨x,rfl,c1,c2⟩,z⟩ hK;obtain⟨q1,q3⟩:WE D=x.1/\(WQ D).isEmpty=false:=by
   obtain⟨t,ht⟩:=aX;have:=iJ (List.map Subtype.val) ht;rw[aJ]at this;exact akA this
  have q2:Yd D=(D==2 ^ (x.1+1000).toNat):=by
   unfold Yd;rw[q1,q3];simp
  have k1:=Z0 c1 0 _ rfl;have k2:=Z0 c2 0 _ rfl;have n1:=cell_kept k1 (grownBy_putObj' W d (.deferred none)) (λr e=>by cases e;exact⟨_,hK,rfl⟩)
  have n2:=cell_kept k2 (grownBy_putObj' W d (.deferred none)) (λr e=>by cases e;exact⟨_,hK,rfl⟩)
  gi_wp2;refine⟨pG,.inl ⟨_,_,rfl,run_takeDeferred hK,?_⟩⟩;refine⟨.tuple #[Y x.1,.bool (D==2 ^ (x.1+1000).toNat)],?_,rfl,?_⟩
  ·simp[results,f126,go_sem,n1,n2]
  ·exact Fq ((Ay z).trans (belowK_b (w:=w) (iw _) W d _ _ J hK rfl rfl))
end
section
open Go.RowKit
variable {w:A}
theorem abG {n b:Int}(hb:0<b):n/b=if n.tmod b<0 then n.tdiv b-1 else n.tdiv b:=by
 have F:=Int.mul_tdiv_add_tmod n b;have h5:=Int.tmod_lt_of_pos n hb;have h6:=Int.lt_tmod_of_pos n hb;rw[Int.mul_comm]at F;by_cases c:n.tmod b<0
 ·rw[iR c];refine(Int.ediv_eq_iff_of_pos hb).2 ?_;rw[Int.sub_mul,Int.one_mul];omega
 ·rw[iQ c];refine(Int.ediv_eq_iff_of_pos hb).2 ?_;omega
theorem abH {n b:Int}(hb:0<b)(F:-100000000000<=n)(h2:n<=100000000000):-100000000000<=n.tdiv b/\n.tdiv b<=100000000000:=by
 have h:(n.tdiv b).natAbs<=n.natAbs:=by rw[Int.natAbs_tdiv];exact Nat.div_le_self _ _
 omega
theorem abI (n b:Int)(hb:0<b)(aK:b<=1000000000)(F:-100000000000<=n)(h2:n<=100000000000)(w:A):aq 216 #[Y n,Y b] w λe w'=>e=.returned (Y (n/b))/\w'=w:=by
 have HF:=Z8 (abG (n:=n) hb);obtain⟨t1,t2⟩:=abH hb F h2;have hz:(b==0)=false:=pI;have hn:b≠0:=J;go_enter func216,ntmps216;go_wp2
 ·go_ret;have c:n.tmod b<0:=by assumption
  rw[HF.out,iR c];exact⟨rfl,rfl⟩
 ·go_ret;have c:¬n.tmod b<0:=J;rw[HF.out,iQ c];exact⟨rfl,rfl⟩
end
section
open Go.RowKit
variable {w:A}
def Wn (f n:Int):Nat:=
 if 0<f then U' (-1000) (min (n/f) 1000)else if f<0 then U' (max (-(n/ -f)) (-1000)) 1000 else if 0<=n then U' (-1000) 1000 else 0
theorem abJ {n b:Int}(hb:0<b)(F:-100000000000<=n)(h2:n<=100000000000):-100000000001<=n/b/\n/b<=100000000000:=by
 have:=abH hb F h2;rw[abG hb];split<;>omega
def jO{P:Prop}(h:P:=by
 go_enter func197,ntmps197;go_wp2_with (first|(refine fh rfl 161 _ _ rfl w.heap.size (Zh R) rfl rfl 161 _ B2 (Ti R) sN (Lh R) ?_)|(go_at_call 216;refine(K1.get _).mono ?_;rintro e w1 ⟨rfl,rfl⟩)|(go_at_call 83;refine(K2.get _).mono ?_;rintro e w1 ⟨rfl,ZZ⟩;have B2:=(ZZ.block w.heap.size pG pG).trans (gp w _)))
 refine iq (fg rfl _ _ w.heap.size 161 (Zh R) (0,0) _ rfl (iA _ _ _ _ _ _ B2) underlying161 rfl (Ti R)) rfl ?_;exact oY):P:=h
theorem akD (f n:Int)(g1:-1000000000<=f)(g2:f<=1000000000)(F:-100000000000<=n)(h2:n<=100000000000)(w:A)(c:0<f):aq 197 #[Y f,Y n] w (au w (.agg (Zh (Wn f n)))):=by
 obtain⟨q1,q2⟩:=abJ c F h2;have K1:=ZQ.mk (λW=>abI n f c g2 F h2 W)
 have K2:=ZQ.mk (λW=>DA (-1000) (n/f) J J J J W)
 rw[Int.max_self]at K2;have e:Wn f n=U' (-1000) (min (n/f) 1000):=by unfold Wn;rw[iR c]
 rw[e];clear e;generalize U' (-1000) (min (n/f) 1000)=R at *;generalize n/f=Q at *;exact jO
theorem akE (f n:Int)(g1:-1000000000<=f)(g2:f<=1000000000)(F:-100000000000<=n)(h2:n<=100000000000)(w:A)(c:¬0<f)(c2:f<0):aq 197 #[Y f,Y n] w (au w (.agg (Zh (Wn f n)))):=by
 obtain⟨q1,q2⟩:=abJ (b:=-f) J F h2;have K1:=ZQ.mk (λW=>abI n (-f) J J F h2 W)
 have K2:=ZQ.mk (λW=>DA (-(n/ -f)) 1000 J J J J W)
 rw[Int.min_self]at K2;have e:Wn f n=U' (max (-(n/ -f)) (-1000)) 1000:=by unfold Wn;rw[iQ c,iR c2]
 rw[e];clear e;generalize U' (max (-(n/ -f)) (-1000)) 1000=R at *;generalize n/ -f=Q at *;exact jO
theorem akF (f n:Int)(g1:-1000000000<=f)(g2:f<=1000000000)(F:-100000000000<=n)(h2:n<=100000000000)(w:A)(c:¬0<f)(c2:¬f<0)(c3:0<=n):aq 197 #[Y f,Y n] w (au w (.agg (Zh (Wn f n)))):=by
 obtain⟨R,hR⟩:∃R,R=U' (-1000) 1000:=⟨_,rfl⟩;have K2:ZQ (∀W:A,aq 83 #[Y (-1000),Y 1000] W λe w'=>e=.returned (.agg (Zh R))/\aB W w'):=ZQ.mk (λW=>by
  have q:=DA (-1000) 1000 J J J J W;rw[Int.max_self,Int.min_self,<-hR]at q;exact q)
 have e:Wn f n=R:=by unfold Wn;rw[iQ c,iQ c2,iR c3,hR]
 rw[e];clear e hR;go_enter func197,ntmps197;go_wp2_with (first|(refine fh rfl 161 _ _ rfl w.heap.size (Zh R) rfl rfl 161 _ B2 (Ti R) sN (Lh R) ?_)|(go_at_call 83;refine(K2.get _).mono ?_;rintro e w1 ⟨rfl,ZZ⟩;have B2:=(ZZ.block w.heap.size pG pG).trans (gp w _)))
 refine iq (fg rfl _ _ w.heap.size 161 (Zh R) (0,0) _ rfl (iA _ _ _ _ _ _ B2) underlying161 rfl (Ti R)) rfl ?_;exact kP
end
section
open Go.RowKit
variable {w:A}
theorem akG (f n:Int)(g1:-1000000000<=f)(g2:f<=1000000000)(F:-100000000000<=n)(h2:n<=100000000000)(w:A)(c:¬0<f)(c2:¬f<0)(c3:¬0<=n):aq 197 #[Y f,Y n] w (au w (.agg (Zh (Wn f n)))):=by
 have e:Wn f n=0:=by unfold Wn;rw[iQ c,iQ c2,iQ c3]
 rw[e];clear e;go_enter func197,ntmps197;go_wp2_with (refine fh rfl 161 _ _ rfl w.heap.size (Zh 0) rfl (iJ Value.agg Ig.symm) 161 _ (gp w _) (Ti 0) sN (Lh 0) ?_);refine iq (fg rfl _ _ w.heap.size 161 (Zh 0) (0,0) _ rfl (iA _ _ _ _ _ _ (gp w _)) underlying161 rfl (Ti 0)) rfl ?_;exact⟨rfl,Up (di _ _ _) (iw _) (FQ _ _ _)⟩
theorem akH (f n:Int)(g1:-1000000000<=f)(g2:f<=1000000000)(F:-100000000000<=n)(h2:n<=100000000000)(w:A):aq 197 #[Y f,Y n] w (au w (.agg (Zh (Wn f n)))):=by
 by_cases c:0<f
 ·exact akD f n g1 g2 F h2 w c
 ·by_cases c2:f<0
  ·exact akE f n g1 g2 F h2 w c c2
  ·by_cases c3:0<=n
   ·exact akF f n g1 g2 F h2 w c c2 c3
   ·exact akG f n g1 g2 F h2 w c c2 c3
end
section
open Go.RowKit
def G9 (f rel n:Int):Nat:=if rel=2 then Wn f n else Wn f n &&& Wn (-f) (-n)
def TE (D:Nat)(f rel n:Int)(Yp:Bool):Nat:=if Yp=decide (rel=1)then TG D (G9 f rel n)else D &&& G9 f rel n
def RA:Yz:=⟨0,0,[],0,0,[],0,0,[],[]⟩
structure SK where
 vars:List Xx
 cons:List Yz
 YP:List (az)
 Wm:List (az)
 order:Int
 VO:Bool
 XS:Int
structure SS where
 left:List Nat
 ZF:List (Int×Nat)
 marked:List Bool
 nodes:Int
 Zx:List (az)
 ending:Int
def SS.L (s:SS)(v:Int):Nat:=s.left.getD v.toNat 0
def SS.Z7 (s:SS):az:=s.left.map WE
def SS.fixed (s:SS)(v:Int):Bool:=Yd (s.L v)
def SS.val (s:SS)(v:Int):Int:=WE (s.L v)
def OY (us:az)(m:List Bool):List Bool:=us.foldl (λm c=>m.set c.toNat true) m
def Mu (v:Int)(D:Nat)(s:SS):SS:={s with left:=s.left.set v.toNat D}
def Zb (K:SK)(v:Int)(D:Nat)(s:SS):SS:=
 {s with ZF:=s.ZF++[(v,s.L v)],left:=s.left.set v.toNat D,marked:=OY (K.Wm.getD v.toNat []) s.marked}
def Vq (K:SK)(v:Int)(D:Nat)(s:SS):Bool×SS:=if D=0 then(false,s)else if D=s.L v then(true,s)else(true,Zb K v D s)
def Oo (s:SS):SS:={s with ZF:=s.ZF.dropLast,left:=s.left.set ((s.ZF.getLastD (0,0)).1.toNat) (s.ZF.getLastD (0,0)).2}
def Np:Nat->SS->SS
 |0,s=>s
 |n+1,s=>Np n (Oo s)
def Rz (start:Nat)(s:SS):SS:=Np (s.ZF.length-start) s
def VV (s:SS)(ts:List (Int×Int))(v:Int):Int×Int:=ts.foldl (λp t=>if t.1=v then(p.1+t.2,p.2)else(p.1,p.2+t.2*s.val t.1)) (0,0)
def XR (s:SS)(vs:az):Int×Int:=vs.foldl (λp v=>if s.fixed v then p else(v,p.2+1)) (0,0)
def Nn (K:SK)(c:Yz)(Yp:Bool)(v:Int)(s:SS):Bool×SS:=
 Vq K v (TE (s.L v) (VV s c.ZA v).1 c.rel (c.num-(VV s c.ZA v).2) Yp) s
def Zu (v:Int):Nat:=2 ^ (v+1000).toNat
def Xp (D:Nat)(v:Int):Bool:=D.testBit (v+1000).toNat
def Us (P E:Nat):Nat->az->Nat×Nat->Nat×Nat
 |_,[],r=>r
 |i,x::xs,r=>Us P E (i+1) xs (if Xp P ((i:Int)+1)&&Xp E x then(r.1 ||| Zu ((i:Int)+1),r.2 ||| Zu x)else r)
def Qq (K:SK)(c:Yz)(s:SS):Bool×SS:=
 let r:=Us (s.L c.place) (s.L c.entry) 0 c.list (0,0)
 let k:=Vq K c.place r.1 s
 if k.1 then Vq K c.entry (r.2 &&& k.2.L c.entry) k.2 else k
def WD (K:SK)(x:Int):az->SS->Bool×SS
 |[],s=>(true,s)
 |v::vs,s=>if Xp (s.L v) x then(let k:=Vq K v (TG (s.L v) (Zu x)) s;if k.1 then WD K x vs k.2 else k)else WD K x vs s
def R8 (K:SK)(vars:az):List Nat->SS->Bool×SS
 |[],s=>(true,s)
 |i::is,s=>
  let v:=vars.getD i 0
  if s.fixed v then
   let k:=WD K (s.val v) (vars.take i) s
   if k.1 then(let k2:=WD K (k.2.val v) (vars.drop (i+1)) k.2;if k2.1 then R8 K vars is k2.2 else k2)else k
  else R8 K vars is s
def JF (K:SK)(vars:az)(s:SS):Bool×SS:=R8 K vars (List.range vars.length) s
def Uh (s:SS)(l:Int×Int):Bool:=Xp (s.L l.1) l.2
def PE (K:SK)(lits:List (Int×Int))(s:SS):Bool×SS:=
 let f:=(lits.find? (Uh s)).getD (0,0)
 if lits.any (λl=>decide (l≠f)&&Uh s l)then(true,s)else Vq K f.1 (Zu f.2) s
def Yq (K:SK)(i:Nat)(s:SS):Bool×SS:=
 let c:=K.cons.getD i RA
 let o:=XR s (K.YP.getD i [])
 if o.2=0 then(Yt s.Z7 c,s)
 else if K.VO then(true,s)
 else if c.sort=1 then(if s.fixed c.Yp then(if 1<o.2 then(true,s)else Nn K c (decide (s.val c.Yp=1)) o.1 s)else(true,s))
 else if c.sort=0 then(if 1<o.2 then(true,s)else Nn K c true o.1 s)
 else if c.sort=2 then Qq K c s
 else if c.sort=3 then JF K c.vars s
 else if c.sort=4 then PE K c.lits s
 else(true,s)
def Qp (m:List Bool):Option Nat:=m.findIdx? id
def T3 (i:Nat)(s:SS):SS:={s with marked:=s.marked.set i false}
def Om (s:SS):SS:={s with marked:=s.marked.map λ_=>false}
def Ry (K:SK):Nat->SS->Bool×SS
 |0,s=>(true,s)
 |n+1,s=>match Qp s.marked with
  |none=>(true,s)
  |some i=>let k:=Yq K i (T3 i s);if k.1 then Ry K n k.2 else(false,Om k.2)
def Ol (s:SS):Nat:=(s.left.map VC).sum*(s.marked.length+1)+s.marked.countP id
def Zp (K:SK)(s:SS):Bool×SS:=Ry K (Ol s+1) s
def Q3:Nat->List Nat->Int×Int->Int×Int
 |_,[],r=>r
 |i,D::Ds,r=>Q3 (i+1) Ds (if Yd D then r else if r.1<0\/(VC D:Int)<r.2 then((i:Int),(VC D:Int))else r)
def R7 (K:SK)(s:SS):Int:=
 if K.order=1 then(Q3 0 s.left (-1,0)).1 else(match s.left.findIdx? (λD=> !Yd D)with|some i=>(i:Int)|none=>-1)
def K6 (s:SS):Bool×SS:=
 if s.Zx.length=100000 then(false,{s with ending:=2})else(true,{s with Zx:=s.Zx++[s.Z7]})
def Xa (K:SK)(e:SS->Bool×SS)(v:Int):az->SS->Bool×SS
 |[],s=>(true,s)
 |x::xs,s=>
  let k:=Zp K (Zb K v (Zu x) s)
  if k.1 then(let g:=e k.2;if g.1 then Xa K e v xs (Rz s.ZF.length g.2)else g)
  else Xa K e v xs (Rz s.ZF.length k.2)
def Yy (K:SK):Nat->SS->Bool×SS
 |0,s=>(true,s)
 |n+1,s=>
  if K.XS<=s.nodes then(false,{s with ending:=1})
  else
   let t:SS:={s with nodes:=s.nodes+1}
   let v:=R7 K t
   if v<0 then K6 t else Xa K (Yy K n) v (WQ (t.L v)) t
def XG (s:SS):Nat:=s.left.countP λD=> !Yd D
def Xj (K:SK):SS:=
 {left:=K.vars.map λv=>U' v.low v.high,ZF:=[],marked:=K.cons.map λ_=>true,nodes:=0,Zx:=[],ending:=0}
def TQ (K:SK):SS:=
 let k:=Zp K (Xj K)
 if k.1 then(Yy K (XG k.2+1) k.2).2 else k.2
end
section
open Go.RowKit
def mW{P:Prop}(h:P:=by
 have:a<64:=td;rw[Q4];simp[this]):P:=h
theorem abK (D:Nat):∀f i,PF D f i=((List.range' (64*i) (64*f)).filter D.testBit).map λp:Nat=>(p:Int)-1000
 |0,i=>by simp[PF]
 |f+1,i=>by
  rw[PF,abK D f (i+1),show 64*(f+1)=64+64*f by omega,<-List.range'_append_1,dx,fD,show 64*i+64=64*(i+1) by omega];congr 1;unfold Nq K8;have e:List.range' (64*i) 64=(List.range 64).map (64*i+·):=by rw[cC,List.map_add_range'];simp
  rw[e,List.filter_map,gQ];have e2:(List.range 64).filter (YW D i).testBit=(List.range 64).filter (D.testBit ∘ (64*i+·)):=Fs λa ha=>by
   exact mW
  rw[e2];apply cZ;intro a _;simp only[Function.comp];omega
theorem Ar (D:Nat):WQ D=((List.range 2048).filter D.testBit).map λp:Nat=>(p:Int)-1000:=by
 unfold WQ;rw[abK,cC]
theorem abL:∀(n x:Nat),Qs 1 n x=((List.range n).filter x.testBit).length
 |0,x=>by simp[Qs]
 |n+1,x=>by
  rw[Qs,abL n (x/2 ^ 1),List.range_succ_eq_map,eK,List.filter_map,Nat.testBit_zero];have e:(List.range n).filter (x.testBit ∘ Nat.succ)=(List.range n).filter (x/2 ^ 1).testBit:=Fs λa _=>by
   simp[Nat.testBit_succ]
  rw[e];have h2:x%2=0\/x%2=1:=J;rcases h2 with h|h<;>simp[h]<;>omega
theorem abM (D:Nat):∀i,OZ D i=((List.range (64*i)).filter D.testBit).length
 |0=>by simp[OZ]
 |i+1=>by
  rw[OZ,abM D i,show 64*(i+1)=64*i+64 by omega,List.range_add,dx,dA,List.filter_map,fy];unfold La;rw[abL];congr 2;exact Fs λa ha=>by
   exact mW
theorem Aq (D:Nat):VC D=((List.range 2048).filter D.testBit).length:=abM D 32
theorem Dj (D:Nat):VC D=(WQ D).length:=by rw[Aq,Ar,fy]
theorem Ap (D:Nat):(WQ D).Pairwise (·<·):=by
 rw[Ar,dU];refine List.Pairwise.imp ?_ (List.Pairwise.filter _ List.pairwise_lt_range);intro a b h;omega
theorem JE {D:Nat}(hD:D<2 ^ 2001){v:Int}:v∈WQ D↔-1000<=v/\v<=1000/\Xp D v=true:=by
 constructor
 ·intro h;obtain⟨p,F,h2,h3⟩:=K7.1 h;obtain⟨q1,q2⟩:=Hv hD h;refine⟨q1,q2,?_⟩;unfold Xp;rw[show(v+1000).toNat=p by omega];exact F
 ·rintro⟨F,h2,h3⟩;exact K7.2 ⟨(v+1000).toNat,h3,J,J⟩
theorem PD (v:Int)(j:Nat):(Zu v).testBit j=decide ((v+1000).toNat=j):=by unfold Zu;exact dh
theorem JD {v u:Int}(hv:-1000<=v)(hu:-1000<=u):Xp (Zu v) u=decide (v=u):=by
 unfold Xp;rw[PD,fe];omega
theorem Ao (v:Int):Zu v≠0:=by unfold Zu;exact Nat.ne_of_gt (fK _)
theorem Am {v:Int}(h:v<=1000):Zu v<2 ^ 2001:=Aw (a:=(v+1000).toNat) (b:=2001) J
theorem akI:∀{l:az} {v:Int},l.Pairwise (·<·)->(∀x,x∈l↔x=v)->l=[v]
 |[],v,_,h=>by have:=(h v).2 rfl;cases this
 |[a],v,_,h=>by have:=(h a).1 pG;rw[this]
 |a::b::l,v,hp,h=>by
  have F:=(h a).1 pG;have h2:=(h b).1 pG;have:=(dD.1 hp).1 b pG;omega
theorem Al {v:Int}(F:-1000<=v)(h2:v<=1000):WQ (Zu v)=[v]:=by
 refine akI (Ap _) (λx=> ?_)
 rw[JE (Am h2)];constructor
 ·rintro⟨a,b,c⟩;rw[JD F a]at c;have:=ew c;omega
 ·rintro rfl;exact⟨F,h2,by rw[JD F F];simp⟩
theorem akJ {v:Int}(F:-1000<=v)(h2:v<=1000):WE (Zu v)=v:=by unfold WE;rw[Al F h2];rfl
theorem Hr {v:Int}(F:-1000<=v)(h2:v<=1000):Yd (Zu v)=true:=by
 unfold Yd;rw[Al F h2,akJ F h2];simp[Zu]
theorem Fm {D:Nat}(hD:D<2 ^ 2001)(h:Yd D=true):-1000<=WE D/\WE D<=1000/\D=Zu (WE D):=by
 unfold Yd at h;simp only[eC,Bool.not_eq_true',iD]at h;have hm:WE D∈WQ D:=by
  unfold WE
  cases e:WQ D with
  |nil=>rw[e]at h;simp at h
  |cons a l=>simp
 obtain⟨a,b⟩:=Hv hD hm;exact⟨a,b,h.2⟩
theorem abN {D:Nat}(hD:D<2 ^ 2001)(h:Yd D=true){v:Int}(hv:-1000<=v):Xp D v=decide (v=WE D):=by
 obtain⟨a,b,c⟩:=Fm hD h
 conv=>lhs;rw[c]
 rw[JD a hv,fe];exact⟨λe=>e.symm,λe=>e.symm⟩
theorem akK {D:Nat}(hD:D<2 ^ 2001)(h0:D≠0)(h:Yd D=false):∃a b l,WQ D=a::b::l:=by
 obtain⟨p,hp⟩:∃p,D.testBit p=true:=by
  rcases aH h0 with⟨p,hp⟩;exact⟨p,hp⟩
 have bh:=Mv hp hD;have hm:((p:Int)-1000)∈WQ D:=K7.2 ⟨p,hp,rfl,J⟩
 match e:WQ D with
 |[]=>rw[e]at hm;cases hm
 |a::b::l=>exact⟨a,b,l,rfl⟩
 |[a]=>
  exfalso
  have ho:WE D=a:=by unfold WE;rw[e];rfl
  have ha:=Hv hD (v:=a) vd;have ar:D=Zu a:=by
   apply cG;intro j;rw[PD];by_cases c:D.testBit j=true
   ·have hj:=Mv c hD;have:((j:Int)-1000)∈WQ D:=K7.2 ⟨j,c,rfl,J⟩;rw[e]at this;have:(j:Int)-1000=a:=by simpa using this
    rw[c,eq_comm,decide_eq_true_iff];omega
   ·have c':D.testBit j=false:=qT;rw[c',eq_comm,bC];intro q;have Sm:a∈WQ D:=vd;obtain⟨p2,a1,a2,a3⟩:=K7.1 Sm;have:p2=j:=J;rw[this]at a1;exact c a1
  rw[ar,Hr ha.1 ha.2]at h
  cases h
theorem abO {p q:Nat->Bool}:∀{l:List Nat},(∀a∈l,p a=true->q a=true)->(∃a∈l,q a=true/\p a=false)->(l.filter p).length<(l.filter q).length
 |[],_,h=>by obtain⟨a,ha,_⟩:=h;cases ha
 |a::l,F,h2=>by
  have hle:∀{l:List Nat},(∀a∈l,p a=true->q a=true)->(l.filter p).length<=(l.filter q).length:=by
   intro l
   induction l with
   |nil=>intro _;simp
   |cons b l ih=>
    intro h;have:=ih (λc hc=>h c tB)
    rw[eK,eK];by_cases c:p b=true
    ·rw[iR c,iR (h b pG c)];simp;exact this
    ·rw[iQ c];split<;>simp<;>omega
  rw[eK,eK];obtain⟨b,hb,hq,hp⟩:=h2;rcases gH.1 hb with e|e
  ·subst e;rw[hp,hq];have:=hle (l:=l) (λc hc=>F c tB)
   simp;omega
  ·have:=abO (l:=l) (λc hc=>F c tB) ⟨b,e,hq,hp⟩
   by_cases c:p a=true
   ·rw[iR c,iR (F a pG c)];simp;exact this
   ·rw[iQ c];split<;>simp<;>omega
theorem Ak {D E:Nat}(hE:E<2 ^ 2001)(hs:∀j,D.testBit j=true->E.testBit j=true)(ZP:D≠E):VC D<VC E:=by
 rw[Aq,Aq];refine abO (λa _=>hs a) ?_
 obtain⟨j,hj⟩:∃j,D.testBit j≠E.testBit j:=by
  refine aQ λh=>ZP (cG λj=> ?_)
  exact aQ λq=>h ⟨j,q⟩
 cases d:D.testBit j with
 |true=>rw[d,hs j d]at hj;exact absurd rfl hj
 |false=>
  rw[d]at hj;have he:E.testBit j=true:=by cases e:E.testBit j with
   |true=>rfl
   |false=>rw[e]at hj;exact absurd rfl hj
  exact⟨j,by simp;have:=Mv he hE;omega,he,d⟩
theorem Di {D k:Nat}(h:∀j,D.testBit j=true->j<k):D<2 ^ k:=by
 refine Nat.lt_pow_two_of_testBit D λj hj=> ?_
 cases e:D.testBit j with
 |false=>rfl
 |true=>have:=h j e;omega
theorem Aj {f n v:Int}(F:-1000<=v)(h2:v<=1000):Xp (Wn f n) v=decide (f*v<=n):=by
 unfold Wn Xp;by_cases c:0<f
 ·rw[iR c,Ou _ _ J,fj];have q:=Int.le_ediv_iff_mul_le (a:=v) (b:=n) c;rw[Int.mul_comm]at q;simp only[eC,ee,<-q];omega
 ·rw[iQ c];by_cases c2:f<0
  ·have hf:0< -f:=J;rw[iR c2,Ou _ _ J,fj];have q:=Int.le_ediv_iff_mul_le (a:=-v) (b:=n) hf;rw[Int.neg_mul_neg,Int.mul_comm]at q;simp only[eC,ee,<-q];omega
  ·rw[iQ c2];have:f=0:=J;subst this;rw[Int.zero_mul];split
   ·rename_i h;rw[Ou _ _ J,fj];simp only[eC,ee];omega
   ·rename_i h;rw[eW,eq_comm,bC];exact h
theorem akL {f rel n v:Int}(hr:rel=0\/rel=1\/rel=2)(F:-1000<=v)(h2:v<=1000):Xp (G9 f rel n) v=if rel=2 then decide (f*v<=n)else decide (f*v=n):=by
 unfold G9;by_cases c:rel=2
 ·rw[iR c,iR c];exact Aj F h2
 ·rw[iQ c,iQ c];have e1:=Aj (f:=f) (n:=n) F h2;have e2:=Aj (f:=-f) (n:=-n) F h2;unfold Xp at *;rw[fJ,e1,e2,fj,Int.neg_mul];simp only[eC,ee];omega
theorem akM {D:Nat}{f rel n v:Int}{t:Bool}(hr:rel=0\/rel=1\/rel=2)(F:-1000<=v)(h2:v<=1000):Xp (TE D f rel n t) v=(Xp D v&&(Vi rel (f*v) n==t)):=by
 have e:=akL (f:=f) (n:=n) hr F h2;unfold TE;unfold Xp at *;rcases hr with rfl|rfl|rfl<;>cases t<;>simp[JN,e,Vi,fJ]<;>cases D.testBit (v+1000).toNat<;>simp<;>(first|done|rw[fj];simp|skip)
theorem Ai {D:Nat}{f rel n:Int}{t:Bool}(j:Nat)(h:(TE D f rel n t).testBit j=true):D.testBit j=true:=by
 unfold TE at h;split at h
 ·rw[JN]at h;simp at h;exact h.1
 ·rw[fJ]at h;simp at h;exact h.1
end
section
open Go.RowKit
def Y2 (c:Yz):az:=
 if c.sort=1 then c.Yp::c.ZA.map (·.1)else if c.sort=0 then c.ZA.map (·.1)else if c.sort=2 then[c.place,c.entry]else if c.sort=3 then c.vars else if c.sort=4 then c.lits.map (·.1)else[]
structure YV (K:SK):Prop where
 vars:∀v∈K.vars,-1000<=v.low/\v.low<=v.high/\v.high<=1000
 WB:K.vars.length<=8
 cons:∀c∈K.cons,UF K.vars.length (O9 K.vars) c
 O8:K.cons.length<=16
 PC:K.YP.length=K.cons.length
 ul:K.Wm.length=K.vars.length
 cv:∀i c,K.cons[i]?=some c->∀v,v∈K.YP.getD i []↔v∈Y2 c
 ull:∀v:Nat,(K.Wm.getD v []).length<=3000
 JC:∀i:Nat,(K.YP.getD i []).length<=3000
 us:∀v:Nat,v<K.vars.length->∀c:Int,c∈K.Wm.getD v []↔0<=c/\c<K.cons.length/\(v:Int)∈K.YP.getD c.toNat []
theorem R6 {n:Nat}{t:Int->Prop}{c:Yz}(h:UF n t c):∀v∈Y2 c,YX n v:=by
 intro v hv;unfold Y2 at hv;split at hv
 ·rename_i e;rcases gH.1 hv with q|q
  ·subst q;exact(h.Yp e).1
  ·obtain⟨p,hp,rfl⟩:=gU.1 q;exact(h.ZA p hp).1
 ·split at hv
  ·obtain⟨p,hp,rfl⟩:=gU.1 hv;exact(h.ZA p hp).1
  ·split at hv
   ·rename_i e;simp at hv;rcases hv with q|q
    ·subst q;exact(h.place e).1
    ·subst q;exact(h.place e).2
   ·split at hv
    ·exact h.vars v hv
    ·split at hv
     ·obtain⟨p,hp,rfl⟩:=gU.1 hv;exact(h.lits p hp).1
     ·cases hv
theorem abP {x y:az}{ts:List (Int×Int)}(h:∀p∈ts,ZB x p.1=ZB y p.1):UE x ts=UE y ts:=by
 unfold UE;have:∀(ts:List (Int×Int)) (a:Int),(∀p∈ts,ZB x p.1=ZB y p.1)->ts.foldl (λs p=>s+p.2*ZB x p.1) a=ts.foldl (λs p=>s+p.2*ZB y p.1) a:=by
  intro ts
  induction ts with
  |nil=>intro a _;rfl
  |cons p ts ih=>intro a h;rw[ft,ft,h p pG];exact ih _ (λq hq=>h q (by simp[hq]))
 exact this ts 0 h
theorem Dh {l:az}{i:Nat}(h:i<l.length):l.getD i 0∈l:=by
 rw[aN,aZ h];simp
theorem akN {x y vars:az}(h:∀v∈vars,ZB x v=ZB y v):Sx x vars=Sx y vars:=by
 unfold Sx Oy;rw[fj,eE,eE];have key:∀i∈List.range vars.length,((vars.take i).all λu=>decide (ZB x (vars.getD i 0)≠ZB x u))=((vars.take i).all λu=>decide (ZB y (vars.getD i 0)≠ZB y u)):=by
  intro i hi;have P8:i<vars.length:=rO;rw[fj,eE,eE];have F:=h _ (Dh P8);constructor<;>intro q u hu<;>have h2:=h u (cy hu)<;>have h3:=q u hu
  ·rw[<-F,<-h2];exact h3
  ·rw[F,h2];exact h3
 constructor<;>intro q i hi<;>have:=q i hi
 ·rw[<-key i hi];exact this
 ·rw[key i hi];exact this
theorem akO {x y:az}{lits:List (Int×Int)}(h:∀p∈lits,ZB x p.1=ZB y p.1):Sa x lits=Sa y lits:=by
 unfold Sa;rw[fj,eF,eF];constructor<;>rintro⟨p,hp,q⟩<;>refine⟨p,hp,?_⟩
 ·rw[<-h p hp];exact q
 ·rw[h p hp];exact q
theorem abQ {x y:az}{c:Yz}(h:∀v∈Y2 c,ZB x v=ZB y v):Yt x c=Yt y c:=by
 unfold Yt Y2 at *;by_cases c1:c.sort=1
 ·rw[iR c1]at h;rw[iR c1,iR c1,abP (λp hp=>h p.1 (by simp;exact .inr ⟨p.2,hp⟩)),h c.Yp pG]
 ·rw[iQ c1]at h;rw[iQ c1,iQ c1];by_cases c0:c.sort=0
  ·rw[iR c0]at h;rw[iR c0,iR c0,abP (λp hp=>h p.1 (by simp;exact⟨p.2,hp⟩))]
  ·rw[iQ c0]at h;rw[iQ c0,iQ c0];by_cases c2:c.sort=2
   ·rw[iR c2]at h;rw[iR c2,iR c2];unfold PR;rw[h c.place pG,h c.entry pG]
   ·rw[iQ c2]at h;rw[iQ c2,iQ c2];by_cases c3:c.sort=3
    ·rw[iR c3]at h;rw[iR c3,iR c3];exact akN h
    ·rw[iQ c3]at h;rw[iQ c3,iQ c3];by_cases c4:c.sort=4
     ·rw[iR c4]at h;rw[iR c4,iR c4];exact akO (λp hp=>h p.1 (by simp;exact⟨p.2,hp⟩))
     ·rw[iQ c4,iQ c4]
structure Y5 (K:SK)(s:SS):Prop where
 ll:s.left.length=K.vars.length
 ml:s.marked.length=K.cons.length
 ne:∀i,i<s.left.length->s.left.getD i 0≠0
 sub:∀i v,K.vars[i]?=some v->∀j:Nat,(s.left.getD i 0).testBit j=true->v.low+1000<=(j:Int)/\(j:Int)<=v.high+1000
theorem Y5.lt {K:SK}{s:SS}(h:Y5 K s)(hK:YV K)(i:Nat):s.left.getD i 0<2 ^ 2001:=by
 by_cases c:i<s.left.length
 ·refine Di (k:=2001) λj hj=> ?_
  have hv:K.vars[i]?=some (K.vars[i]'(by rw[<-h.ll];exact c)):=aZ _;have q:=h.sub i _ hv j hj;have:=hK.vars _ (cq hv);omega
 ·rw[aN,bN J];exact fK 2001
theorem Y5.TP {K:SK}{s:SS}(h:Y5 K s)(hK:YV K)(v:Int):s.L v<2 ^ 2001:=h.lt hK v.toNat
structure Rx (left:List Nat)(x:az):Prop where
 len:x.length=left.length
 has:∀i,i<left.length->Xp (left.getD i 0) (x.getD i 0)=true
theorem Rx.at_ {s:SS}{x:az}(h:Rx s.left x){v:Int}(hv:YX s.left.length v):Xp (s.L v) (ZB x v)=true:=by
 have:=h.has v.toNat rC;exact this
theorem Rx.bd {K:SK}{s:SS}{x:az}(h:Rx s.left x)(hs:Y5 K s)(hK:YV K)(hx:∀y∈x,-1000<=y)(i:Nat):-1000<=x.getD i 0/\x.getD i 0<=1000:=by
 by_cases c:i<x.length
 ·have F:=h.has i (by rw[<-h.len];exact c);have h2:=Mv F (hs.lt hK i);have h3:=hx _ (Dh c);omega
 ·rw[aN,bN J];simp
theorem Ah {s:SS}{v:Int}(hv:YX s.left.length v):ZB s.Z7 v=s.val v:=by
 have h:v.toNat<s.left.length:=rC;unfold ZB SS.Z7 SS.val SS.L;rw[aN,aN,dR,aZ h];rfl
theorem Rx.one {K:SK}{s:SS}{x:az}(h:Rx s.left x)(hs:Y5 K s)(hK:YV K)(hx:∀y∈x,-1000<=y){v:Int}(hv:YX s.left.length v)(hf:s.fixed v=true):ZB x v=s.val v:=by
 have F:=h.at_ hv;have h2:=(h.bd hs hK hx v.toNat).1;have:=abN (hs.TP hK v) hf (v:=ZB x v) h2;rw[this]at F;exact ew F
end
section
open Go.RowKit
def JB (t:List (Int×Nat))(l:List Nat):List Nat:=t.foldr (λp l=>l.set p.1.toNat p.2) l
structure UY (K:SK)(s s':SS):Prop where
 ll:s'.left.length=s.left.length
 ml:s'.marked.length=s.marked.length
 sub:∀i j,(s'.left.getD i 0).testBit j=true->(s.left.getD i 0).testBit j=true
 ne:∀i,s.left.getD i 0≠0->s'.left.getD i 0≠0
 nodes:s'.nodes=s.nodes
 Zx:s'.Zx=s.Zx
 ending:s'.ending=s.ending
 tr:∃t,s'.ZF=s.ZF++t/\JB t s'.left=s.left
 Fl:∀c:Nat,s'.marked.getD c true=false->s.marked.getD c true=false/\∀v∈K.YP.getD c [],s'.L v=s.L v
 Fk:s'=s\/(s'.left.map VC).sum<(s.left.map VC).sum
theorem UY.refl (K:SK)(s:SS):UY K s s:=
 ⟨rfl,rfl,λ_ _ h=>h,λ_ h=>h,rfl,rfl,rfl,⟨[],pG,rfl⟩,λc h=>⟨h,λ_ _=>rfl⟩,.inl rfl⟩
def lR{P:Prop}(h:P:=by
 obtain⟨t,t1,t2⟩:=h.tr;obtain⟨u,u1,u2⟩:=k.tr;refine⟨t++u,by rw[u1,t1,dN],?_⟩;unfold JB at *;rw[dQ,u2,t2]):P:=h
theorem UY.trans {K:SK}{a b c:SS}(h:UY K a b)(k:UY K b c):UY K a c:=by
 refine⟨k.ll.trans h.ll,k.ml.trans h.ml,λi j q=>h.sub i j (k.sub i j q),λi q=>k.ne i (h.ne i q),k.nodes.trans h.nodes,k.Zx.trans h.Zx,k.ending.trans h.ending,?_,?_,?_⟩
 ·exact lR
 ·intro i q;obtain⟨k1,k2⟩:=k.Fl i q;obtain⟨F,h2⟩:=h.Fl i k1;exact⟨F,λv hv=>(k2 v hv).trans (h2 v hv)⟩
 ·rcases h.Fk with e|e
  ·rcases k.Fk with f|f
   ·exact .inl (f.trans e)
   ·subst e;exact .inr f
  ·rcases k.Fk with f|f
   ·subst f;exact .inr e
   ·exact .inr (Nat.lt_trans f e)
theorem UY.ok {K:SK}{s s':SS}(h:UY K s s')(hs:Y5 K s):Y5 K s':=
 ⟨h.ll.trans hs.ll,h.ml.trans hs.ml,λi hi=>h.ne i (hs.ne i uD),λi v hv j hj=>hs.sub i v hv j (h.sub i j hj)⟩
theorem abR (us:az):∀m:List Bool,(OY us m).length=m.length:=by
 induction us with
 |nil=>intro m;rfl
 |cons u us ih=>intro m;show(OY us (m.set u.toNat true)).length=_;rw[ih];simp
theorem akP {us:az}(h0:∀u∈us,0<=u):∀(m:List Bool) (c:Nat),(OY us m).getD c true=false->m.getD c true=false/\(c:Int)∉us:=by
 induction us with
 |nil=>intro m c h;exact⟨h,pG⟩
 |cons u us ih=>
  intro m c h;obtain⟨F,h2⟩:=ih (λv hv=>h0 v (by simp[hv])) (m.set u.toNat true) c h
  rw[aN,dS]at F;have hu:=h0 u pG;split at F
  ·rename_i e;split at F<;>simp at F
  ·rename_i e;refine⟨by rw[aN];exact F,?_⟩;simp only[gH,not_or];exact⟨J,h2⟩
theorem Hq {l:List Nat}{i k D:Nat}(h:i<l.length):(l.set i D).getD k 0=if i=k then D else l.getD k 0:=by
 rw[aN,dS];split
 ·rename_i e;subst e;simp
 ·rw[aN]
theorem Ag {f:Nat->Nat}:∀{l:List Nat} {i D:Nat},i<l.length->f D<f (l.getD i 0)->((l.set i D).map f).sum<(l.map f).sum
 |[],i,D,h,_=>pZ
 |a::l,0,D,_,h=>by simp at h⊢;exact h
 |a::l,i+1,D,h,k=>by
  have:=Ag (f:=f) (l:=l) (i:=i) (D:=D) pX (by simpa using k);rw[dF,gG,gG,List.sum_cons,List.sum_cons];omega
theorem Dg {K:SK}(hK:YV K){s:SS}(hs:Y5 K s){v:Int}(hv:YX K.vars.length v){D:Nat}(bg:∀j,D.testBit j=true->(s.L v).testBit j=true)(h0:D≠0)(ZP:D≠s.L v):UY K s (Zb K v D s):=by
 have hl:v.toNat<s.left.length:=qj;have aV:v.toNat<K.vars.length:=by have:=hs.ll;omega
 refine⟨by simp[Zb],by simp[Zb,abR],λi j h=> ?_,λi h=> ?_,rfl,rfl,rfl,⟨[(v,s.L v)],rfl,?_⟩,λc h=> ?_,.inr ?_⟩
 ·simp only[Zb,Hq hl]at h;split at h
  ·rename_i e;subst e;exact bg j h
  ·exact h
 ·simp only[Zb,Hq hl];split
  ·exact h0
  ·exact h
 ·simp only[Zb,JB,fx,List.foldr_nil,List.set_set];apply List.ext_getElem?;intro k;rw[dS];split
  ·rename_i e;subst e;rw[aZ hl];simp[SS.L,aN,aZ hl]
  ·rfl
 ·have aI:=hK.us v.toNat aV;obtain⟨m1,m2⟩:=akP (λu hu=>((aI u).1 hu).1) _ c h
  refine⟨m1,λu hu=> ?_⟩
  have hc:c<K.cons.length:=by
   refine Nat.lt_of_not_le λq=> ?_
   rw[aN,bN (by rw[hs.ml];exact q)]at m1;cases m1
  have bf:K.cons[c]?=some (K.cons[c]):=aZ hc;have af:=R6 (hK.cons _ (cq bf)) u ((hK.cv c _ bf u).1 hu);have WL:v.toNat≠u.toNat:=by
   intro e;have e2:u=v:=by have:=af.1;have:=hv.1;omega
   subst e2;refine m2 ((aI c).2 ⟨J,J,?_⟩);rw[show((u.toNat:Nat):Int)=u by have:=af.1;omega,show(c:Int).toNat=c by omega];exact hu
  simp only[SS.L,Zb,Hq hl,iQ WL]
 ·exact Ag hl (Ak (hs.TP hK v) bg ZP)
def Qo (P:az->Prop)(s:SS)(r:Bool×SS):Prop:=∀x,(∀y∈x,-1000<=y)->Rx s.left x->P x->r.1=true/\Rx r.2.left x
theorem Mt {K:SK}(hK:YV K){s:SS}(hs:Y5 K s){v:Int}(hv:YX K.vars.length v){D:Nat}(bg:∀j,D.testBit j=true->(s.L v).testBit j=true):UY K s (Vq K v D s).2/\Qo (λx=>Xp D (ZB x v)=true) s (Vq K v D s):=by
 have hl:v.toNat<s.left.length:=qj;unfold Vq;by_cases c:D=0
 ·rw[iR c];refine⟨UY.refl K s,λx _ _ h=> ?_⟩
  rw[c]at h;simp[Xp]at h
 ·rw[iQ c];by_cases c2:D=s.L v
  ·rw[iR c2];exact⟨UY.refl K s,λx _ hx _=>⟨rfl,hx⟩⟩
  ·rw[iQ c2];refine⟨Dg hK hs hv bg c c2,λx _ hx h=>⟨rfl,?_,λi hi=> ?_⟩⟩
   ·simp[Zb];exact hx.len
   ·simp only[Zb,Hq hl];split
    ·rename_i e;subst e;exact h
    ·exact hx.has i (by simpa[Zb]using hi)
theorem Qo.imp {P Q':az->Prop}{s:SS}{r:Bool×SS}(h:Qo P s r)(hi:∀x,(∀y∈x,-1000<=y)->Rx s.left x->Q' x->P x):Qo Q' s r:=λx hx hf hq=>h x hx hf (hi x hx hf hq)
theorem akQ {s:SS}{x:az}{v:Int}{ts:List (Int×Int)}(h:∀p∈ts,p.1≠v->ZB x p.1=s.val p.1):UE x ts=(VV s ts v).1*ZB x v+(VV s ts v).2:=by
 have:∀(ts:List (Int×Int)),(∀p∈ts,p.1≠v->ZB x p.1=s.val p.1)->∀(a:Int) (q:Int×Int),a=q.1*ZB x v+q.2->
   ts.foldl (λs p=>s+p.2*ZB x p.1) a=(ts.foldl (λp t=>if t.1=v then(p.1+t.2,p.2)else(p.1,p.2+t.2*s.val t.1)) q).1*ZB x v+(ts.foldl (λp t=>if t.1=v then(p.1+t.2,p.2)else(p.1,p.2+t.2*s.val t.1)) q).2:=by
  intro ts
  induction ts with
  |nil=>intro _ a q e;exact e
  |cons p ts ih=>
   intro h a q e;rw[ft,ft];refine ih (λp' aw=>h p' (by simp[aw])) _ _ ?_
   by_cases c:p.1=v
   ·rw[iR c,e,c,Int.add_mul];omega
   ·rw[iQ c,h p pG c,e];simp only[];omega
 exact this ts h 0 (0,0) pG
theorem akR {r a b c:Int}(hr:r=0\/r=1\/r=2):Vi r (a+b) c=Vi r a (c-b):=by
 rcases hr with rfl|rfl|rfl<;>simp[Vi,bne]<;>(first|rw[fe]|skip)<;>(first|omega|skip)
 ·rw[fj];simp;omega
theorem abS {K:SK}(hK:YV K){s:SS}(hs:Y5 K s){c:Yz}(hc:c∈K.cons){t:Bool}{v:Int}(hv:YX K.vars.length v)(ho:∀p∈c.ZA,p.1≠v->s.fixed p.1=true):UY K s (Nn K c t v s).2/\Qo (λx=>Vi c.rel (UE x c.ZA) c.num=t) s (Nn K c t v s):=by
 have av:=hK.cons c hc;obtain⟨F,h2⟩:=Mt hK hs hv (D:=TE (s.L v) (VV s c.ZA v).1 c.rel (c.num-(VV s c.ZA v).2) t) (λj=>Ai j)
 refine⟨F,h2.imp λx hx hf hq=> ?_⟩
 have T5:YX s.left.length v:=by rw[hs.ll];exact hv
 have hb:-1000<=ZB x v/\ZB x v<=1000:=hf.bd hs hK hx v.toNat;rw[akM av.rel hb.1 hb.2,hf.at_ T5];have e:UE x c.ZA=(VV s c.ZA v).1*ZB x v+(VV s c.ZA v).2:=akQ λp hp ZP=>hf.one hs hK hx (by rw[hs.ll];exact(av.ZA p hp).1) (ho p hp ZP)
 rw[e,akR av.rel]at hq;rw[hq];simp
theorem Af {P E:Nat}:∀{l:az} {i:Nat} {r:Nat×Nat} (j:Nat),(r.1.testBit j=true->(Us P E i l r).1.testBit j=true)/\(r.2.testBit j=true->(Us P E i l r).2.testBit j=true)
 |[],i,r,j=>⟨id,id⟩
 |x::l,i,r,j=>by
  have q:=Af (P:=P) (E:=E) (l:=l) (i:=i+1) (r:=if Xp P ((i:Int)+1)&&Xp E x then(r.1 ||| Zu ((i:Int)+1),r.2 ||| Zu x)else r) j
  rw[Us];constructor
  ·intro h;refine q.1 ?_;split
   ·rw[gh,h];rfl
   ·exact h
  ·intro h;refine q.2 ?_;split
   ·rw[gh,h];rfl
   ·exact h
theorem Df {P E:Nat}:∀{l:az} {i:Nat} {r:Nat×Nat},(∀j,r.1.testBit j=true->P.testBit j=true)->(∀j,r.2.testBit j=true->E.testBit j=true)->(∀j,(Us P E i l r).1.testBit j=true->P.testBit j=true)/\(∀j,(Us P E i l r).2.testBit j=true->E.testBit j=true)
 |[],i,r,F,h2=>⟨F,h2⟩
 |x::l,i,r,F,h2=>by
  rw[Us];refine Df (λj h=> ?_) (λj h=> ?_)
  ·split at h
   ·rename_i c;simp only[gh,fk,eC]at h c;rcases h with h|h
    ·exact F j h
    ·rw[PD]at h;rw[<-ew h];exact c.1
   ·exact F j h
  ·split at h
   ·rename_i c;simp only[gh,fk,eC]at h c;rcases h with h|h
    ·exact h2 j h
    ·rw[PD]at h;rw[<-ew h];exact c.2
   ·exact h2 j h
theorem abT (r:Nat)(v:Int):Xp (r ||| Zu v) v=true:=by
 unfold Xp;rw[gh,PD,gj rfl,gO]
theorem abU {P E:Nat}{x:Int}(he:Xp E x=true)(l:az):∀(i k:Nat) (r:Nat×Nat),l[k]?=some x->Xp P (((i+k:Nat):Int)+1)=true->Xp (Us P E i l r).1 (((i+k:Nat):Int)+1)=true/\Xp (Us P E i l r).2 x=true:=by
 induction l with
 |nil=>intro i k r h;simp at h
 |cons y l ih=>
  intro i k r h hp
  cases k with
  |zero=>
   have e:y=x:=pX;subst e;rw[gX]at hp⊢;rw[Us,hp,he];exact⟨(Af _).1 (abT _ _),(Af _).2 (abT _ _)⟩
  |succ k=>
   rw[Us,show i+(k+1)=i+1+k by omega];exact ih _ _ _ pX (by rw[show i+1+k=i+(k+1) by omega];exact hp)
theorem akS {K:SK}(hK:YV K){s:SS}(hs:Y5 K s){c:Yz}(hc:c∈K.cons)(h2:c.sort=2):UY K s (Qq K c s).2/\Qo (λx=>PR c x=true) s (Qq K c s):=by
 have av:=hK.cons c hc;obtain⟨hp,he⟩:=av.place h2;obtain⟨u1,u2⟩:=Df (P:=s.L c.place) (E:=s.L c.entry) (l:=c.list) (i:=0) (r:=(0,0)) (λj h=>pZ) (λj h=>pZ)
 obtain⟨k1,k2⟩:=Mt hK hs hp u1;have YM:=k1.ok hs;obtain⟨m1,m2⟩:=Mt hK YM he (D:=(Us (s.L c.place) (s.L c.entry) 0 c.list (0,0)).2 &&& ((Vq K c.place (Us (s.L c.place) (s.L c.entry) 0 c.list (0,0)).1 s).2).L c.entry) (λj h=>by rw[fJ]at h;simp at h;exact h.2)
 unfold Qq;simp only[];by_cases q:(Vq K c.place (Us (s.L c.place) (s.L c.entry) 0 c.list (0,0)).1 s).1=true
 ·rw[iR q];refine⟨k1.trans m1,λx hx hf ha=> ?_⟩
  obtain⟨a1,a2⟩:=hf.at_ (v:=c.place) (by rw[hs.ll];exact hp) |> λa=>iG a (hf.at_ (v:=c.entry) (by rw[hs.ll];exact he))
  have hh:Xp (Us (s.L c.place) (s.L c.entry) 0 c.list (0,0)).1 (ZB x c.place)=true/\Xp (Us (s.L c.place) (s.L c.entry) 0 c.list (0,0)).2 (ZB x c.entry)=true:=by
   unfold PR at ha;simp only[eC,ee]at ha;obtain⟨⟨b1,b2⟩,b3⟩:=ha;obtain⟨k,I⟩:∃k:Nat,ZB x c.place=(k:Int)+1:=⟨(ZB x c.place-1).toNat,J⟩;have VS:k<c.list.length:=J;rw[I]at b3;rw[show((k:Int)+1-1).toNat=k by omega]at b3;have ba:c.list[k]?=some (ZB x c.entry):=by
    rw[aN,aZ VS]at b3;rw[aZ VS];simpa using b3
   have:=abU (P:=s.L c.place) (E:=s.L c.entry) a2 c.list 0 k (0,0) ba (by rw[ik,<-I];exact a1);rw[ik,<-I]at this;exact this
  obtain⟨_,f2⟩:=k2 x hx hf hh.1;refine m2 x hx f2 ?_;have g:=f2.at_ (v:=c.entry) (by rw[YM.ll];exact he);have aP:=hh.2;show Xp (_ &&& _) _=true;unfold Xp at aP g⊢;rw[fJ,aP,g];rfl
 ·rw[iQ q];refine⟨k1,λx hx hf ha=> ?_⟩
  exfalso
  obtain⟨a1,a2⟩:=hf.at_ (v:=c.place) (by rw[hs.ll];exact hp) |> λa=>iG a (hf.at_ (v:=c.entry) (by rw[hs.ll];exact he))
  unfold PR at ha;simp only[eC,ee]at ha;obtain⟨⟨b1,b2⟩,b3⟩:=ha;obtain⟨k,I⟩:∃k:Nat,ZB x c.place=(k:Int)+1:=⟨(ZB x c.place-1).toNat,J⟩;have VS:k<c.list.length:=J;rw[I]at b3;rw[show((k:Int)+1-1).toNat=k by omega]at b3;have ba:c.list[k]?=some (ZB x c.entry):=by
   rw[aN,aZ VS]at b3;rw[aZ VS];simpa using b3
  have:=abU (P:=s.L c.place) (E:=s.L c.entry) a2 c.list 0 k (0,0) ba (by rw[ik,<-I];exact a1);rw[ik,<-I]at this;exact q (k2 x hx hf this.1).1
end
end Go.Proofs.YthpcbbnabnlanaaGreatDoor
