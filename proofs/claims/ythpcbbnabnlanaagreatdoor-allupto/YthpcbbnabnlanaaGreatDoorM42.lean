import Derived.Test.YthpcbbnabnlanaaGreatDoorM29
import Derived.Test.YthpcbbnabnlanaaGreatDoorM37
import Derived.Test.YthpcbbnabnlanaaGreatDoorM41
namespace Go.Proofs.YthpcbbnabnlanaaGreatDoor
set_option maxHeartbeats 8000000
set_option maxRecDepth 100000
open Go.Proofs.Tryz
open Go.RowKit
set_option linter.all false
variable {w w' w1:A}
theorem ada:∀{a b:az},a.length=b.length->Ac a b->Ye a b=true
 |[],[],_,⟨k,_,h⟩=>pZ
 |[],_::_,h,_=>pZ
 |_::_,[],h,_=>pZ
 |x::xs,y::ys,hl,⟨k,F,h2⟩=>by
  simp only[Ye]
  cases k with
  |zero=>
   have:x<y:=rv;rw[iQ J];exact gj this
  |succ k=>
   have e:x=y:=by have:=F 0 J;simpa using this
   rw[iR e];exact ada rM ⟨k,λi hi=>by have:=F (i+1) J;simpa using this,rv⟩
def Sv (bs:List (Int×Int)):az:=bs.map (·.1)
def Rs:List (Int×Int)->az->List (az)
 |b::bs,x::xs=>(Rs bs xs).map (x::·)++(Ts (x+1) b.2).flatMap λy=>(Xi bs).map (y::·)
 |_,_=>[[]]
def Qi:List (Int×Int)->az->Option (az)
 |b::bs,x::xs=>match Qi bs xs with
  |some ys=>some (x::ys)
  |none=>if x=b.2 then none else some ((x+1)::Sv bs)
 |_,_=>none
theorem adb {lo hi:Int}(h:lo<=hi):Ts lo hi=lo::Ts (lo+1) hi:=by
 unfold Ts;rw[show(hi-lo+1).toNat=(hi-(lo+1)+1).toNat+1 by omega,List.range_succ_eq_map,gG,gQ];congr 1
 ·simp
 ·refine cZ λk _=> ?_
  simp;omega
theorem anb {lo hi:Int}(h:hi<lo):Ts lo hi=[]:=by
 unfold Ts;rw[show(hi-lo+1).toNat=0 by omega];rfl
def Pw (bs:List (Int×Int)):Prop:=∀b∈bs,b.1<=b.2
def Rq:List (Int×Int)->az->Prop
 |b::bs,x::xs=>b.1<=x/\x<=b.2/\Rq bs xs
 |[],[]=>True
 |_,_=>False
theorem EX:∀{bs:List (Int×Int)},Pw bs->Rs bs (Sv bs)=Xi bs
 |[],_=>rfl
 |b::bs,h=>by
  simp only[Sv,gG,Rs,Xi];have ih:=EX (bs:=bs) (λc hc=>h c tB)
  unfold Sv at ih;rw[ih,adb (h b pG),dO]
theorem CK:∀{bs:List (Int×Int)} {r:az},Pw bs->Rq bs r->Rs bs r=r::(match Qi bs r with|some r'=>Rs bs r'|none=>[])
 |[],[],_,_=>rfl
 |[],_::_,_,h=>by simp[Rq]at h
 |_::_,[],_,h=>by simp[Rq]at h
 |b::bs,x::xs,hb,h=>by
  have ar:Pw bs:=λc hc=>hb c tB
  obtain⟨F,h2,h3⟩:=h;have ih:=CK ar h3;simp only[Rs,Qi];rw[ih]
  cases hs:Qi bs xs with
  |some ys=>simp[Rs]
  |none=>
   simp only[gG,gR];by_cases e:x=b.2
   ·rw[iR e,anb J];simp
   ·rw[iQ e,adb J,dO];simp only[Rs];rw[EX ar];simp
def lG{P:Prop}(h:P:=by
 induction bs with
 |nil=>intro _;trivial
 |cons c bs ih=>intro hc;exact⟨iv _,hc c pG,ih (λd hd=>hc d (by simp[hd]))⟩):P:=h
theorem ade:∀{bs:List (Int×Int)} {r r':az},Pw bs->Rq bs r->Qi bs r=some r'->Rq bs r'
 |[],[],_,_,_,h=>by simp[Qi]at h
 |[],_::_,_,_,h,_=>by simp[Rq]at h
 |_::_,[],_,_,h,_=>by simp[Rq]at h
 |b::bs,x::xs,r',hb,h,hs=>by
  have ar:Pw bs:=λc hc=>hb c tB
  obtain⟨F,h2,h3⟩:=h;simp only[Qi]at hs
  cases q:Qi bs xs with
  |some ys=>
   rw[q]at hs;simp at hs;subst hs;exact⟨F,h2,ade ar h3 q⟩
  |none=>
   rw[q]at hs;simp only at hs;split at hs
   ·cases hs
   ·simp at hs;subst hs;refine⟨J,J,?_⟩;have low:∀{bs:List (Int×Int)},Pw bs->Rq bs (Sv bs)
     :=by
      intro bs;exact lG
    exact low ar
theorem adf {bs:List (Int×Int)}:Pw bs->Rq bs (Sv bs):=by
 exact lG
theorem adg:∀{bs:List (Int×Int)} {r:az},Rq bs r->r.length=bs.length
 |[],[],_=>rfl
 |[],_::_,h=>by simp[Rq]at h
 |_::_,[],h=>by simp[Rq]at h
 |b::bs,x::xs,h=>by simp[adg h.2.2]
theorem yY:∀{bs:List (Int×Int)} {r:az},r.length=bs.length->(∀(i:Nat) b x,bs[i]?=some b->r[i]?=some x->x=b.2)->Qi bs r=none
 |[],[],_,_=>rfl
 |[],_::_,h,_=>pZ
 |_::_,[],h,_=>pZ
 |b::bs,x::xs,hl,h=>by
  simp only[Qi];rw[yY rM (λi c y hc hy=>h (i+1) c y qy (by simpa using hy))]
  simp only;rw[iR (h 0 b x rfl rfl)]
theorem adh:∀{bs:List (Int×Int)} {r:az} (k:Nat) {b:Int×Int} {x:Int},r.length=bs.length->bs[k]?=some b->r[k]?=some x->x≠b.2->(∀(i:Nat) b x,k<i->bs[i]?=some b->r[i]?=some x->x=b.2)->Qi bs r=some (r.take k++(x+1)::Sv (bs.drop (k+1)))
 |[],[],_,_,_,_,h,_,_,_=>pZ
 |[],_::_,_,_,_,h,_,_,_,_=>pZ
 |_::_,[],_,_,_,h,_,_,_,_=>pZ
 |c::bs,y::ys,k,b,x,hl,hb,hx,ZP,h=>by
  simp only[Qi]
  cases k with
  |zero=>
   simp at hb hx;subst hb hx;rw[yY rM (λi d anZ hd hz=>h (i+1) d anZ J (by simpa using hd) tj)]
   simp only;rw[iQ ZP];simp
  |succ k=>
   rw[adh k rM tZ rK ZP (λi d anZ hi hd hz=>h (i+1) d anZ J (by simpa using hd) tj)]
   simp
def WO (vars:List Y7):List (Int×Int):=vars.map λv=>(v.low,v.high)
def yX (w:A)(vars:List Y7)(P:az->Bool)(N:Nat)(m:Nat)(vo:aF)(wr:A):Prop:=
 ∃(cur:az) (Zi:Nat) (us:ay) (xa:ax) (xc:Nat),Rq (WO vars) cur/\m=(Rs (WO vars) cur).length/\vo=.slice xa Zi xc/\wr.ownsRow w.heap.size 3 1 (aj w.heap.size vars.length vars.length) vars.length (VD cur)/\
  wr.ownsRow (w.heap.size+1) 33 1 (.slice xa Zi xc) Zi us/\aB w wr/\Zi+((Rs (WO vars) cur).filter P).length=N
def yV (w:A)(vars:List Y7)(cur:az)(xa:ax)(Zi xc:Nat)(us:ay)(vk:aF)(wr:A):Prop:=
 ∃kk:Nat,kk<=vars.length/\vk=Y ((kk:Int)-1)/\(∀(i:Nat) b x,kk<=i->(WO vars)[i]?=some b->cur[i]?=some x->x=b.2)/\wr.ownsRow w.heap.size 3 1 (aj w.heap.size vars.length vars.length) vars.length (VD (cur.take kk++(Sv (WO vars)).drop kk))/\
  wr.ownsRow (w.heap.size+1) 33 1 (.slice xa Zi xc) Zi us/\aB w wr
theorem adi {vars:List Y7}(hb:∀v∈vars,-1000<=v.low/\v.low<=v.high/\v.high<=1000):Pw (WO vars):=λb ar=>by
 obtain⟨v,hv,rfl⟩:=gU.1 ar;exact(hb v hv).2.1
theorem CJ (vars:List Y7):(WO vars).length=vars.length:=by simp[WO]
theorem adj (vars:List Y7):(Sv (WO vars)).length=vars.length:=by simp[Sv,WO]
theorem yU (xs:az)(i:Nat)(x:Int):(VD xs).set i (Y x)=VD (xs.set i x):=by simp[VD,gT]
theorem yT {vars:List Y7}{i:Nat}{v:Y7}(h:vars[i]?=some v):(WO vars)[i]?=some (v.low,v.high):=by simp[WO,h]
theorem CI {vars:List Y7}{i:Nat}{v:Y7}(h:vars[i]?=some v):(Sv (WO vars))[i]?=some v.low:=by simp[Sv,WO,h]
theorem anc {xs ys:az}{i:Nat}{x:Int}(hi:i<xs.length)(hy:ys[i]?=some x)(h:xs.take i=ys.take i):(xs.set i x).take (i+1)=ys.take (i+1):=by
 have e1:(xs.set i x)[i]?=some x:=by simp[hi]
 rw[dX,e1,df (iw i),h,dX,hy]
theorem ane (w:A)(n:Nat)(hn:n<=8):(w.alloc (.cells (madeCells #[Y 0] n) 3)).ownsRow w.heap.size 3 1 (aj w.heap.size n n) n (VD (List.replicate n 0)):=by
 have e:(madeCells #[Y 0] n).toList=VD (List.replicate n 0):=by
  simp only[madeCells,dW,bP,Nat.mod_one];simp[List.map_const',VD]
 refine⟨by simp[Sr],.inr ⟨w.heap.size,n,_,rfl,iw _,gp _ _,iw _,by unfold maxLen;omega,by rw[gy];omega,?_⟩⟩;rw[e,bH (by simp[Sr])]
theorem adk {cur ak:az}{j:Nat}{x:Int}(anZ:Int)(hj:j<cur.length)(Vb:ak[j]?=some x):(cur.take (j+1)++ak.drop (j+1)).set j anZ=cur.take j++anZ::ak.drop (j+1):=by
 rw[List.set_append_left _ _ sK];have e:(cur.take (j+1)).set j anZ=cur.take j++[anZ]:=by
  rw[dX,aZ hj,bQ _ _ sK,eP,fH J,ij];rfl
 rw[e,dN];rfl
theorem anf {ak:az}{j:Nat}{x:Int}(Vb:ak[j]?=some x):x::ak.drop (j+1)=ak.drop j:=by
 obtain⟨h,e⟩:=aU.1 Vb;rw[aR h,e]
theorem ang {cur ak:az}{j:Nat}(hj:j<cur.length):(cur.take (j+1)++ak.drop (j+1))[j]?=cur[j]?:=by
 rw[aT sK,bh J]
theorem adl:∀{bs:List (Int×Int)} {r:az} {i:Nat} {b:Int×Int} {x:Int},Rq bs r->bs[i]?=some b->r[i]?=some x->b.1<=x/\x<=b.2
 |[],_,_,_,_,_,h,_=>pZ
 |_::_,[],_,_,_,_,_,h=>pZ
 |c::bs,y::ys,i,b,x,h,hb,hx=>by
  cases i with
  |zero=>simp at hb hx;subst hb hx;exact⟨h.1,h.2.1⟩
  |succ i=>exact adl h.2.2 tZ rK
def Je (bs:List (Int×Int))(cur:az):List (az):=match Qi bs cur with
 |some c=>Rs bs c
 |none=>[]
theorem anh {bs:List (Int×Int)}{cur IP:az}(hb:Pw bs)(aX:Rq bs cur)(hs:Qi bs cur=some IP):(Rs bs IP).length<(Rs bs cur).length/\Je bs cur=Rs bs IP:=by
 rw[CK hb aX,Je,hs];exact⟨pG,rfl⟩
theorem adm {bs:List (Int×Int)}{cur:az}{P:az->Bool}{R:Bool}(hb:Pw bs)(aX:Rq bs cur)(hR:P cur=R):((Rs bs cur).filter P).length=((Je bs cur).filter P).length+R.toNat:=by
 rw[CK hb aX,eK,hR]
 cases R<;>simp[Je]<;>rfl
def yS (w:A)(vars:List Y7)(vi:aF)(wr:A):Prop:=
 ∃(i:Nat) (xs:az),i<=vars.length/\vi=Y i/\xs.length=vars.length/\xs.take i=(Sv (WO vars)).take i/\wr.ownsRow w.heap.size 3 1 (aj w.heap.size vars.length vars.length) vars.length (VD xs)/\aB w wr
theorem ani {B g n cap:Nat}{xs:az}(h:w.ownsRow B 3 1 (aj g n cap) n (VD xs)):O6 w g 0 xs:=λp hp=>by
 rw[ik];exact R9 h (Du (FY hp))
def jf{P:Prop}(h:P:=by
 have HIS:Hid (yV w vars cur Jd Jc Jb He (Y ((vars.length:Int)-1)) w3):=⟨vars.length,iw _,rfl,λi b x hi hb _=>(by rw[bN (by rw[CJ];exact hi)]at hb;cases hb),by rw[bH (by rw[L3.out];exact iw _),bF (by rw[adj];exact iw _),fp];exact yR,TJ,yQ⟩
 clear yR TJ yQ;go_wp2
 go_loopw [8] (λvk wr=>yV w vars cur Jd Jc Jb He vk wr) (λvk _=>(intOf vk+1).toNat)
 case atStart=>exact HIS.out
 case round=>
  clear HIS;obtain⟨kk,hkk,rfl,Hd,EW,yP,EU⟩:=hrel;have yO:=Z8 Hd;clear Hd
  cases kk with
  |zero=>
   have xM:decide ((0:Int)<=((0:Nat):Int)-1)=false:=pF;have HE:Hid (Jc=N):=by
    have e:=yN.out;rw[Je,yY (by rw[L3.out,CJ]) (λi b x hb hx=>yO.out i b x (iz _) hb hx)]at e
    exact e
   have Zm:=Z8 EU;clear EW yP EU;go_wp2;go_quiet (fail);go_wp2;go_ret;exact⟨Jd,Jb,by rw[HE.out];rfl,Zm.out.trans (XN _ _ _)⟩
  |succ j=>
   have hj:j<vars.length:=J;obtain⟨v,T5⟩:∃v,vars[j]?=some v:=⟨vars[j],by simp[hj]⟩;obtain⟨x,hx⟩:∃x,cur[j]?=some x:=⟨cur[j]'sA,aZ sA⟩;have hM:=HM.out.grown EU;have m1:=hM.m1;obtain⟨g,rfl,_,c2,c3⟩:=hM.v j v T5;have k1:=R9 EW (Du ((ang sA).trans hx));have ej:((j+1:Nat):Int)-1=(j:Int):=J;have FV:(0:Int)<=j:=J;have xM:decide ((0:Int)<=j)=true:=pG;have Ke:(j:Int)<vars.length:=J;have hj8:j<8:=J;rw[ej];have Zm:=Z8 EU;have HO:=Z8 yP;have HV:=Z8 EW;have Lr:=Z8 T5;have HX:=Z8 hx;have k2:=EW.frozenAt j;have HLB:=Z8 (HB.out v (cq T5));have hxb:-1000<=x/\x<=1000:=by have:=adl PM.out (yT T5) hx;have:=HLB.out;omega
   clear hM EU yP EW T5 hx ej;by_cases Hc:x=v.high
   ·have anj:(x==v.high)=true:=by simpa using Hc
    have MK:Hid (∀nq,yV w vars cur Jd Jc Jb He (Y ((j:Int)-1)) ((wr.drewN nq).setCell (O w.heap.size j) (Y v.low))):=λnq=>by
     obtain⟨h5,g5⟩:=(HV.out.kept (XN wr nq none) (XY _)).stored j (Y v.low);rw[yU,adk v.low sA (CI Lr.out),anf (CI Lr.out)]at h5;have Qw:=Zm.out.trans (XN wr nq none);refine⟨j,J,rfl,λi b y hi hb hy=> ?_,h5,(HO.out.kept (XN wr nq none) (XY _)).kept g5 (.inr (λe=>by have:=(HO.out.lt _ e).1;omega)),Hw Qw g5 (λk e=>by cases e;exact iw _)⟩
     rcases ib j i with q|q
     ·exact yO.out i b y q hb hy
     ·obtain rfl:i=j:=J;rw[HX.out]at hy;rw[yT Lr.out]at hb
      cases hy
      cases hb;exact Hc
    clear Hc;go_wp2;go_quiet (fail);go_wp2;go_roundw
    case rel=>exact MK.out _
    case measure=>simp[intOf]
   ·have anj:(x==v.high)=false:=by simpa using Hc
    have hjn:¬((j:Int)<0):=J;have Od:=adh j (by rw[L3.out,CJ]) (yT Lr.out) HX.out Hc (λi b y hi hb hy=>yO.out i b y hi hb hy)
    rw[show Sv ((WO vars).drop (j+1))=(Sv (WO vars)).drop (j+1) by simp[Sv]]at Od;obtain⟨ql,qr⟩:=anh Tn.out PM.out Od;have HQL:=Z8 ql;have MK:Hid (∀nq,yX w vars P N (Rs (WO vars) (cur.take j++(x+1)::(Sv (WO vars)).drop (j+1))).length (.slice Jd Jc Jb) ((wr.drewN nq).setCell (O w.heap.size j) (Y (x+1)))):=λnq=>by
     obtain⟨h5,g5⟩:=(HV.out.kept (XN wr nq none) (XY _)).stored j (Y (x+1));rw[yU,adk (x+1) sA (CI Lr.out)]at h5;have Qw:=Zm.out.trans (XN wr nq none);exact⟨_,Jc,He,Jd,Jb,ade Tn.out PM.out Od,rfl,rfl,h5,(HO.out.kept (XN wr nq none) (XY _)).kept g5 (.inr (λe=>by have:=(HO.out.lt _ e).1;omega)),Hw Qw g5 (λk e=>by cases e;exact iw _),by rw[<-qr];exact yN.out⟩
    clear Hc Od ql qr;go_wp2;go_quiet (fail);have k3:=(XN wr nq none).cell k1 pG;go_wp2
    go_roundg ((Rs (WO vars) (cur.take j++(x+1)::(Sv (WO vars)).drop (j+1))).length)
    case measure=>exact HQL.out
    case rel=>exact MK.out _):P:=h
theorem ank {bm vc lc rc:Nat}{va la ra:ax}{vars:List Y7}{L:List YZ}{R:List YL}(h:JQ w bm va la ra vc lc rc vars L R)(hv:vars.length<=8)(hb:∀v∈vars,-1000<=v.low/\v.low<=v.high/\v.high<=1000)(P:az->Bool)(hP:∀(W:A) (Z7:az) (g:Nat),aB w W->O6 W g 0 Z7->aq 57 #[ai bm,aj g Z7.length vars.length] W λe w'=>e=.returned (.bool (P Z7))/\aB W w')(bL:(Xi (WO vars)).length<=3000):aq 62 #[ai bm] w λe w'=>∃a c,e=.returned (.slice a ((Xi (WO vars)).filter P).length c)/\aB w w':=by
 obtain⟨N,hN⟩:∃N,((Xi (WO vars)).filter P).length=N:=⟨_,rfl⟩;rw[hN];have ct:N<=3000:=by rw[<-hN];exact gZ (List.length_filter_le _ _) bL
 have HM:=Z8 h;have HB:=Z8 hb;have Tn:=Z8 (adi hb);have HP:=Z8 hP;have HN:=Z8 hN;have m1:=h.m1;obtain⟨i1,YS,T7,UJ,UI⟩:=iE abd;obtain⟨i2,XB,Ze,Zq,Zn⟩:=iE FD;have bp:=run_make_row' (P:=prog) 33 3 (Y 0) 8 underlying33 FD rfl .i64 .i64 vars.length J J;have HA:Hid (yS w vars (Y 0) (w.alloc (.cells (madeCells #[Y 0] vars.length) 3))):=⟨0,List.replicate vars.length 0,iz _,rfl,pG,pG,ane w _ hv,di _ _ _⟩;clear h hb hP hN bL;go_enter func62,ntmps62;go_wp2;clear bp
 go_loopw [5] (λvi wr=>yS w vars vi wr) (λvi _=>vars.length-(intOf vi).toNat)
 case atStart=>exact HA.out
 case round=>
  clear HA m1;obtain⟨i,xs,hi,rfl,a8,aS,ZO,ZX⟩:=hrel;have hM:=HM.out.grown ZX;have m1:=hM.m1;have b7:=Z8 a8;have b9:=Z8 aS;by_cases ZR:i<vars.length
  ·have X8:(i:Int)<vars.length:=J;have Xy:(0:Int)<=i:=J;obtain⟨v,T5⟩:∃v,vars[i]?=some v:=⟨vars[i],by simp[ZR]⟩;obtain⟨g,rfl,_,c2,c3⟩:=hM.v i v T5;obtain⟨y,hy⟩:∃y,xs[i]?=some y:=⟨xs[i]'J,aZ J⟩;have k1:=R9 ZO (Du hy);have k2:=ZO.frozenAt i;obtain⟨h5,g5⟩:=ZO.stored i (Y v.low);rw[yU]at h5;have cd:Hid (yS w vars (Y ((i:Int)+1)) (wr.setCell (O w.heap.size i) (Y v.low))):=⟨i+1,xs.set i v.low,J,pG,by rw[fC];exact a8,anc J (CI T5) aS,h5,Hw ZX g5 (λk e=>by cases e;exact iw _)⟩
   clear a8 aS hM ZX h5 g5 ZO T5 c3 hy;go_wp2;go_roundw
   case rel=>exact cd.out
   case measure=>simp[intOf]<;>omega
  ·obtain rfl:i=vars.length:=J;rw[bH J,bH (by rw[adj];exact iw _)]at aS;have W6:Hid (yX w vars P N (Xi (WO vars)).length (af) wr):=⟨Sv (WO vars),0,[],none,0,adf Tn.out,by rw[EX Tn.out],rfl,by rw[<-aS];exact ZO,ed _ _ _ _,ZX,by rw[EX Tn.out,HN.out,ik]⟩;clear hM ZX ZO a8 aS m1 b7 b9;go_wp2
   go_loopg [3] (Xi (WO vars)).length (λm vo wr=>yX w vars P N m vo wr)
   case atStart=>exact W6.out
   case round=>
    clear W6;obtain⟨cur,Zi,us,xa,xc,aX,hm,rfl,Pn,bC,bk,aw⟩:=hrel;subst hm;have PM:=Z8 aX;have bb:=Z8 aw;have L3:Hid (cur.length=vars.length):=by rw[Hid,adg aX,CJ]
    have KS:=ZQ.mk (HP.out wr cur w.heap.size bk (ani Pn));rw[L3.out]at KS;obtain⟨RR,aP⟩:∃R,P cur=R:=⟨_,rfl⟩;rw[aP]at KS;have Xu:=Z8 aP;have bc:=Z8 Pn;have av:=Z8 bC;have U3:=Z8 bk;have aH:Zi<=3000:=J;clear aX aw Pn bC bk aP;rcases RR with _|_
    ·have yN:Hid (Zi+((Je (WO vars) cur).filter P).length=N):=by rw[Hid,<-bb.out,adm Tn.out PM.out Xu.out];rfl
     go_wp2_with (go_at_call 57;refine KS.get.mono ?_;rintro e w3 ⟨rfl,ZJ⟩);have yR:=bc.out.kept ZJ (XY _);have TJ:=av.out.kept ZJ (XY _);have yQ:=U3.out.trans ZJ;clear ZJ bc av U3 KS bb aH;obtain⟨Jd,rfl⟩:∃x,x=xa:=⟨_,rfl⟩;obtain⟨Jb,rfl⟩:∃x,x=xc:=⟨_,rfl⟩;obtain⟨He,rfl⟩:∃x,x=us:=⟨_,rfl⟩;obtain⟨Jc,rfl⟩:∃x,x=Zi:=⟨_,rfl⟩;exact jf
    ·have yN:Hid (Zi+1+((Je (WO vars) cur).filter P).length=N):=by rw[Hid,<-bb.out,adm Tn.out PM.out Xu.out,dG];rfl
     have cf:Hid ((VD cur).length=vars.length*1):=by rw[Hid,Sr,L3.out,iy]
     go_wp2_with (first|(at_builtin;refine RH rfl _ _ 33 rfl w2.heap.size 3 i2 (Y 0) 1 8 underlying33 XB Ze Zq Zn rfl pF _ 0 [] rfl (ed _ _ _ _) (ah w.heap.size) vars.length vars.length (VD cur) rfl cf.out (λj u hu=>by rw[acx,ik];exact R9 Pn hu) (aa6 _) ?c3 ?c4 (iw _) ?_)|(go_at_call 57;refine KS.get.mono ?_;rintro e w2 ⟨rfl,ZU⟩;have Pn:=bc.out.kept ZU (XY _);have aJ:=Z8 (av.out.kept ZU (XY _));have Ki:=Z8 (U3.out.trans ZU);clear bc av U3 ZU KS))
     case c3=>unfold maxLen;omega
     case c4=>omega
     intro v1 w4 WT ZZ;obtain⟨l1,c1,rfl⟩:=Wt WT;have QI:aB w2 w4:=ZZ.by
     have bn:=Z8 (Pn.kept QI (XY _));have aa:=aJ.out.kept QI (XY _);have bo:=Ki.out.trans QI;have cu:=bo.size;have a7:=Z8 bo;have cv:w.heap.size+1<=w4.heap.size:=(bn.out.lt _ rfl).2;clear aJ Ki QI ZZ WT Pn bo;go_wp2_with (at_builtin;refine RH rfl _ _ 30 rfl (w.heap.size+1) 33 i1 (af) 1 24 underlying30 YS T7 UJ UI rfl pF _ _ _ rfl (aa.alloc _) (ah w4.heap.size) 1 1 [.slice l1 vars.length c1] rfl rfl (World.news_of_block (gp _ _)) (Lf _ _ _) ?c3 ?c4 ?c5 ?_)
     case c3=>unfold maxLen;omega
     case c4=>omega
     case c5=>simp;omega
     intro v1 w3 TJ ZZ;obtain⟨Jd,Jb,rfl⟩:=Wt TJ;have ZP:∀k,(Value.slice xa Zi xc).ownBlock=some k->w.heap.size+1<=k:=λk e=>(aa.lt k e).1
     have yQ:=Hw (a7.out.trans (di w4 _ none)) ZZ.by (λk e=>by have:=ZP k e;omega)
     have yR:=(bn.out.alloc _).kept ZZ.by (.inr (λe=>by have:=ZP w.heap.size e.symm;omega))
     clear ZZ ZP aa bn a7 bb aH;generalize us++[Value.slice l1 vars.length c1]=He at TJ;generalize Zi+1=Jc at *;exact jf
variable {w w' w1 wr:A}{B Z c N:Nat}{V V1 V2:LV}{D D1:LD}{K K1 K2:VX->Prop}{anY A1 A2:Nat->Prop}
structure Rp (w w':A)(B Z:Nat)(anY:Nat->Prop)(V V':LV)(K K':VX->Prop):Prop where
 fr:∀k,k<w.heap.size->Yj Z V k->Yj Z V' k
 bl:∀k,k<w.heap.size->Yj Z V k->¬anY k->w'.heap[k]?=w.heap[k]?
 VW:Wp B Z w w'
 kk:∀x,K x->K' x
 kn:∀x,K' x->K x\/∀k∈x.S,anY k\/w.heap.size<=k
theorem Rp.refl (w:A)(B Z:Nat)(anY:Nat->Prop)(V:LV)(K:VX->Prop):Rp w w B Z anY V V K K:=⟨λ_ _ f=>f,λ_ _ _ _=>rfl,Wp.refl _ _ _,λ_ h=>h,λ_ h=>.inl h⟩
theorem Rp.trans (h:Rp w w1 B Z anY V V1 K K1)(k:Rp w1 w' B Z A1 V1 V2 K1 K2)(F:∀i,anY i->A2 i)(h2:∀i,A1 i->A2 i\/w.heap.size<=i):Rp w w' B Z A2 V V2 K K2 where
 fr:=λi a b=>k.fr i (dH a h.VW.size) (h.fr i a b)
 bl:=λi a b c=>(k.bl i (dH a h.VW.size) (h.fr i a b) (λq=>(h2 i q).elim c (λr=>J))).trans (h.bl i a b (λq=>c (F i q)))
 VW:=h.VW.trans k.VW
 kk:=λx hx=>k.kk x (h.kk x hx)
 kn:=λx hx=>(k.kn x hx).elim (λq=>(h.kn x q).elim .inl (λr=>.inr (λi hi=>(r i hi).elim (λa=>.inl (F i a)) .inr))) (λq=>.inr (λi hi=>(q i hi).elim (h2 i) (λr=>.inr (gZ h.VW.size r))))
theorem Hz.a {g:Nat}{V':LV}{K':VX->Prop}(h:Hz w w' B Z g V V' K K'):Rp w w' B Z (·=g) V V' K K':=⟨h.fr,h.bl,h.VW,h.kk,h.kn⟩
theorem anl (D:LD)(L:List LP):Wo D 5 L={D with rs:=D.rs++L,ys:=D.ys++L.map (·.mark)}:=by
 induction L generalizing D with
 |nil=>simp[Wo]
 |cons x L ih=>
  have e:Wo D 5 (x::L)=Wo ((D.pl 5 x).pk 6 x.mark) 5 L:=rfl;rw[e,ih];simp[LD.pl,LD.pk]
theorem LX.anm {L:List LP}{i:Int}{c':Nat}(h:LX w B Z V D c K N)(hl:LW w' B Z V2 (Wo D 5 L) c' K2)(k2:∀x,K x->K2 x)(F:∀x∈L,(∃bs,K2 (FK x bs))/\x.mark=Y i/\x.len<=3000000)(l1:L.length<=65)(hc:c'<=N+65):LX w' B Z V2 (Wo D 5 L) c' K2 (N+65):=by
 have c1:=Ot D (i:=5) (.inr (.inr rfl)) L;have e:=anl D L;refine⟨hl,?_,?_,?_,λx hx=> ?_,λx hx=> ?_,λx hx=> ?_,λx hx=> ?_,?_,λi hi=> ?_,hc⟩
 ·rw[e];exact h.n1
 ·rw[e];exact h.n2
 ·rw[e];simp[h.n3]
 ·rw[e]at hx;exact⟨k2 _ (h.l1 x hx).1,(h.l1 x hx).2⟩
 ·rw[e]at hx;exact⟨k2 _ (h.l2 x hx).1,(h.l2 x hx).2⟩
 ·rw[e]at hx;rcases fE.1 hx with hx|hx
  ·exact mL
  ·obtain⟨q1,q2,q3⟩:=F x hx;exact⟨q1,q3,_,q2⟩
 ·rw[e]at hx;exact k2 _ (h.ms x hx)
 ·rw[e];exact h.m20
 ·have:=h.bd i hi;have:=c1 i hi;omega
theorem adn {e s n k:Nat}{v:aF}{xs:ay}(h:w.ownsRow B e s v n xs)(I:v.ownBlock=some k):∃cur,w.heap[k]?=some (.cells cur e (0,0)):=by
 rcases h.2 with⟨q,_⟩|⟨g,cap,cur,q1,_,q3,_⟩
 ·rw[q]at I;cases I
 ·rw[q1]at I;cases I;exact⟨cur,q3⟩
theorem ado {e k b t:Nat}{n s:Nat}{v:aF}{xs:ay}{cs:Array aF}(h:w.ownsRow B e s v n xs)(I:v.ownBlock=some k)(hb:w.heap[b]?=some (.cells cs t (0,0)))(ht:t≠e):b≠k:=λq=>by
 obtain⟨cur,hc⟩:=adn h I;rw[<-q,hb]at hc;injection hc with hc;injection hc with _ hc;exact ht hc
structure Qh (w wr:A)(B Z:Nat)(anY:Nat->Prop)(c:Nat)(V:LV)(D:LD)(K:VX->Prop)(V1:LV)(D1:LD)(L:List LP)(vl:aF)(m:Nat)(cs:ay)(E:List Nat)(mark:aF):Prop where
 lw:LW wr B Z V1 D1 c K
 d:D1=Wo D 5 L
 own:wr.ownsRow B 33 1 vl m cs
 Zl:∀k,vl.ownBlock=some k->(anY k\/w.heap.size<=k)/\Yj Z V1 k/\∀x,K x->k∉x.S
 RG:∀x∈L,x.mark=mark/\x.len<=m/\(anY x.g\/w.heap.size<=x.g)/\x.g<wr.heap.size/\Yj Z V1 x.g/\∀j,j<x.len->wr.cell? (O x.g j)=cs[j]?
 ext:∀b∈E,w.heap.size<=b/\Yj Z V1 b/\wr.heap[b]?=some (.cells #[mark] 3 (0,0))
 cse:∀u∈cs,∃b∈E,u=aj b 1 1
 wf:∀k,k<w.heap.size->Yj Z V k->Yj Z V1 k
 wb:∀k,k<w.heap.size->Yj Z V k->¬anY k->wr.heap[k]?=w.heap[k]?
 VW:Wp B Z w wr
variable {L:List LP}{vl mark:aF}{m:Nat}{cs:ay}{E:List Nat}
theorem Qh.grown (h:Qh w wr B Z anY c V D K V1 D1 L vl m cs E mark)(z:aB wr w'):Qh w w' B Z anY c V D K V1 D1 L vl m cs E mark where
 lw:=h.lw.grown z
 d:=h.d
 own:=h.own.kept z (XY _)
 Zl:=h.Zl
 RG:=λx hx=>by
  obtain⟨F,h2,h3,h4,h5,h6⟩:=h.RG x hx;exact⟨F,h2,h3,dH h4 z.size,h5,λj hj=>(cJ (a:=(O x.g j)) (z.block _ h4 pG)).trans (h6 j hj)⟩
 ext:=λb hb=>⟨(h.ext b hb).1,(h.ext b hb).2.1,(z.block b (YY (h.ext b hb).2.2) pG).trans (h.ext b hb).2.2⟩
 cse:=h.cse
 wf:=h.wf
 wb:=λk I f ZP=>(z.block k (dH I h.VW.size) pG).trans (h.wb k I f ZP)
 VW:=h.VW.grown h.lw.hB z (λk e=>pL)
theorem Qh.push {W1 W2 w2:A}{va vb:aF}(h:Qh w wr B Z anY c V D K V1 D1 L vl m cs E mark)(Yv:vl=af\/m≠0)(ha:w1.ownsRow B (Ia 5) (H5 5) va (D1.Zi 5+1) (D1.cells 5++[vl]))(XW:aB wr W1)(hz:wr.heap.size<W1.heap.size)(ga:Tw W1 (V1.get 5) va w1)(hb:w2.ownsRow B (Ia 6) (H5 6) vb (D1.Zi 6+1) (D1.cells 6++[mark]))(W7:(w1.setCell (O Z 5) va).grownBy W2 none)(gb:Tw W2 (V1.get 6) vb w2):∃V2 D2 x,Qh w (w2.setCell (O Z 6) vb) B Z anY c V D K V2 D2 (L++[x]) vl m cs E mark:=by
 have h0:=h.grown XW;have aH:cs.length=m:=uw;obtain⟨x,WG,WH,bq,a6,br,cg⟩:∃x:LP,x.r=vl/\x.mark=mark/\x.len=m/\x.g<W1.heap.size/\((anY x.g\/w.heap.size<=x.g)/\Yj Z V1 x.g)/\∀j,j<x.len->W1.cell? (O x.g j)=cs[j]?:=by
  rcases h0.own.2 with⟨q1,q2⟩|⟨g,cap,cur,q1,q2,q3,q4⟩
  ·refine⟨⟨wr.heap.size,m,0,mark⟩,?_,rfl,rfl,hz,⟨.inr h.VW.size,Ns h.lw (iw _)⟩,λj hj=> ?_⟩
   ·unfold LP.r;rw[iR q2,q1]
   ·change j<m at hj;omega
  ·have hm:m≠0:=by
    rcases Yv with q|q
    ·rw[q]at q1;cases q1
    ·exact q
   refine⟨⟨g,m,cap,mark⟩,?_,rfl,rfl,YY q3,⟨(h.Zl g tO).1,(h.Zl g tO).2.1⟩,λj hj=> ?_⟩
   ·unfold LP.r;rw[iQ hm,q1];rfl
   ·change j<m at hj;have:=h0.own;rw[q1]at this;exact(R9 this (aZ J)).trans (aZ J).symm
 have l1:=h0.lw.push (D':=D1.pl 5 x) J ha ga (λj hj=>My _ _ (.inr (.inr rfl)) hj) (λj hj=>by rw[JK _ _ (.inr (.inr rfl)) hj,LP.at,iR rfl,WG])
 have e1:(V1.put 5 va).get 6=V1.get 6:=by rw[V1.Ib 5 6 va J J,iQ J]
 have aM:=l1.grown W7;have bu:Tw W2 ((V1.put 5 va).get 6) vb w2:=by rw[e1];exact gb
 have c1:(D1.pl 5 x).Zi 6=D1.Zi 6:=by rw[My _ _ (.inr (.inr rfl)) J,iQ J]
 have c2:(D1.pl 5 x).cells 6=D1.cells 6:=by rw[JK _ _ (.inr (.inr rfl)) J,iQ J]
 have l2:=aM.push (D':=(D1.pl 5 x).pk 6 x.mark) J hb bu (λj hj=>by rw[AW _ _ J hj,c1]) (λj hj=>by rw[aaO _ _ J hj,c2,WH])
 have p1:=Dx h0.lw J ga;have p2:=Dx aM J bu;have z1:W1.heap.size<=(w1.setCell (O Z 5) va).heap.size:=gZ ga.by.size (ZC w1 Z 5 va).size;have z2:=gZ z1 W7.size;have z3:W1.heap.size<=(w2.setCell (O Z 6) vb).heap.size:=gZ z2 (gZ gb.by.size (ZC w2 Z 6 vb).size);have old:∀k,k<W1.heap.size->Yj Z V1 k->(w2.setCell (O Z 6) vb).heap[k]?=W1.heap[k]?/\Yj Z ((V1.put 5 va).put 6 vb) k:=λk I f=>by
  obtain⟨q1,q2⟩:=p1 k I f;obtain⟨q3,q4⟩:=p2 k J q2;exact⟨q3.trans ((W7.block k J pG).trans q1),q4⟩
 refine⟨_,_,x,l2,by rw[h.d,aaP],JJ h0.own (λk e=>(old k (h0.own.lt k e).2 (h.Zl k e).2.1).1),λk e=>⟨(h.Zl k e).1,(old k (h0.own.lt k e).2 (h.Zl k e).2.1).2,(h.Zl k e).2.2⟩,λy hy=> ?_,λb hb=> ?_,h.cse,λk I f=> ?_,λk I f ZP=> ?_,?_⟩
 ·rcases fE.1 hy with hy|hy
  ·obtain⟨F,h2,h3,h4,h5,h6⟩:=h0.RG y hy;exact⟨F,h2,h3,dH h4 z3,(old _ h4 h5).2,λj hj=>(cJ (a:=(O y.g j)) (old _ h4 h5).1).trans (h6 j hj)⟩
  ·simp only[gH,eQ,iM]at hy;subst hy;exact⟨WH,J,br.1,dH a6 z3,(old _ a6 br.2).2,λj hj=>(cJ (a:=(O y.g j)) (old _ a6 br.2).1).trans (cg j hj)⟩
 ·obtain⟨q1,q2,q3⟩:=h0.ext b hb;exact⟨q1,(old b (YY q3) q2).2,(old b (YY q3) q2).1.trans q3⟩
 ·exact(old k (dH I h0.VW.size) (h.wf k I f)).2
 ·exact(old k (dH I h0.VW.size) (h.wf k I f)).1.trans (h0.wb k I f ZP)
 ·exact FM ((FM h0.VW h0.lw J ga).grown l1.hB W7 (λk e=>pL)) aM J bu
theorem Qh.app {W:A}{v':aF}{b:Nat}(h:Qh w wr B Z anY c V D K V1 D1 L vl m cs E mark)(hW:aB wr W)(cj:∀k,anY k->B<=k)(b6:B<=w.heap.size)(hb:W.heap[b]?=some (.cells #[mark] 3 (0,0)))(aK:wr.heap.size<=b)(ho:w1.ownsRow B 33 1 v' (m+1) (cs++[aj b 1 1]))(z:Tw W vl v' w1)(V6:∀x,K x->∀k∈x.S,k<w.heap.size):Qh w w1 B Z anY c V D K V1 D1 L v' (m+1) (cs++[aj b 1 1]) (E++[b]) mark:=by
 have h0:=h.grown hW;have gb:=z.by
 have zw:=h.VW.size;have zW:=hW.size;have aH:cs.length=m:=uw;have old:∀k,k<W.heap.size->vl.ownBlock≠some k->w1.heap[k]?=W.heap[k]?:=λk I ZP=>gb.block k I (λq=>ZP q.symm)
 have lw:LW w1 B Z V1 D1 c K:=h0.lw.frame (S:=vl.ownBlock.toList) (Y9.Pe gb (λk e=>by rw[e];simp)) (λk I=>by
  have e:vl.ownBlock=some k:=qz;exact⟨(h.Zl k e).2.1,(h.Zl k e).2.2⟩)
 have ext':∀b'∈E++[b],w.heap.size<=b'/\Yj Z V1 b'/\W.heap[b']?=some (.cells #[mark] 3 (0,0)):=λb' ar=>by
  rcases fE.1 ar with q|q
  ·exact h0.ext b' q
  ·simp only[gH,eQ,iM]at q;subst q;exact⟨J,Ns h.lw aK,hb⟩
 refine⟨lw,h.d,ho,λk e=> ?_,λx hx=> ?_,λb' ar=> ?_,λu hu=> ?_,h.wf,λk I f ZP=> ?_,?_⟩
 ·rcases z.Zl e with q|q
  ·exact h.Zl k q
  ·subst q;exact⟨.inr J,Ns h0.lw (iw _),λx hx q=>by have:=V6 x hx _ q;omega⟩
 ·obtain⟨F,h2,h3,h4,h5,h6⟩:=h0.RG x hx;refine⟨F,J,h3,dH h4 gb.size,h5,λj hj=> ?_⟩
  have ej:(cs++[aj b 1 1])[j]?=cs[j]?:=aT J;rw[ej];by_cases c1:vl.ownBlock=some x.g
  ·rcases z with⟨e1,_⟩|⟨_,e2⟩
   ·rw[<-e1]at c1;obtain⟨g2,Nt,cur,q1,_⟩:∃g2 Nt cur,v'=aj g2 (m+1) Nt/\w1.heap[g2]?=some (.cells cur 33 (0,0)):=by
     rcases ho.2 with⟨_,q⟩|⟨g2,c2,cur,q,_,q3,_⟩
     ·omega
     ·exact⟨g2,c2,cur,q,q3⟩
    rw[q1]at c1 ho;have c2:g2=x.g:=fO c1;rw[<-c2,<-ej];have hl:j<(cs++[aj b 1 1]).length:=pI;rw[R9 ho (aZ hl),aZ hl]
   ·exact(cJ (a:=(O x.g j)) (e2.block _ h4 pG)).trans (h6 j hj)
  ·exact(cJ (a:=(O x.g j)) (old _ h4 c1)).trans (h6 j hj)
 ·obtain⟨q1,q2,q3⟩:=ext' b' ar;exact⟨q1,q2,(old b' (YY q3) (λe=>ado h0.own e q3 pF rfl)).trans q3⟩
 ·rcases fE.1 hu with q|q
  ·obtain⟨b',q1,q2⟩:=h.cse u q;exact⟨b',by simp[q1],q2⟩
  ·simp only[gH,eQ,iM]at q;exact⟨b,pG,q⟩
 ·refine(old k J (λe=> ?_)).trans (h0.wb k I f ZP)
  rcases(h.Zl k e).1 with q|q
  ·exact ZP q
  ·omega
 ·refine h0.VW.grown h0.lw.hB gb (λk e=>.inr ?_)
  rcases(h.Zl k e).1 with q|q
  ·exact cj k q
  ·omega
theorem Qh.done (h:Qh w wr B Z anY c V D K V1 D1 L vl m cs E mark):∃K',LW wr B Z V1 D1 c K'/\Rp w wr B Z anY V V1 K K'/\∀x∈L,(∃bs,K' (FK x bs))/\x.mark=mark/\x.len<=m:=by
 have aH:cs.length=m:=uw;refine⟨λx=>K x\/∃y∈L,x=FK y E,h.lw.keep _ (λx hx=> ?_),⟨h.wf,h.wb,h.VW,λx hx=>.inl hx,λx hx=> ?_⟩,λx hx=>⟨⟨E,.inr ⟨x,hx,rfl⟩⟩,(h.RG x hx).1,(h.RG x hx).2.1⟩⟩
 ·rcases hx with hx|⟨y,hy,rfl⟩
  ·exact .inl hx
  ·obtain⟨F,h2,h3,h4,h5,h6⟩:=h.RG y hy;refine .inr ⟨λj hj=> ?_,λk I=> ?_⟩
   ·have PN:j<cs.length:=J;obtain⟨b,q1,q2⟩:=h.cse (cs[j]) (eL PN);refine⟨b,0,1,q1,(h6 j hj).trans ?_,?_⟩
    ·rw[aZ PN,q2]
    ·rw[F];exact Z0 (h.ext b q1).2.2 0 _ rfl
   ·rcases gH.1 I with q|q
    ·subst q;exact⟨h4,h5⟩
    ·exact⟨YY (h.ext k q).2.2,(h.ext k q).2.1⟩
 ·rcases hx with hx|⟨y,hy,rfl⟩
  ·exact .inl hx
  ·refine .inr (λk I=> ?_)
   rcases gH.1 I with q|q
   ·subst q;exact(h.RG y hy).2.2.1
   ·exact .inr (h.ext k q).1
theorem ann:(prog.info? 30).map (λi=>(i.zero,i.size,i.bytes))=some (some (af),1,24):=pH
def Qg (i:Nat):Nat:=if i<=100 then i else 100+(i-51)/50
theorem ano (i:Nat):Qg i<=Qg (i+1):=by unfold Qg;split<;>split<;>omega
theorem anp {i:Nat}(h:i<100\/i%50=0):Qg i+1<=Qg (i+1):=by unfold Qg;split<;>split<;>omega
theorem adp {i:Nat}(h:i<=100000):Qg i<=2100:=by unfold Qg;split<;>omega
def ET (us:ay)(i:Nat)(b:Nat):Prop:=∃j u,j<i/\us[j]?=some u/\u.ownBlock=some b
def CH (w:A)(B Z:Nat)(V:LV)(K:VX->Prop)(N n:Nat)(us:ay)(vi:aF)(wr:A):Prop:=
 ∃(i k:Nat) (V':LV) (D':LD) (c':Nat) (K':VX->Prop),i<=n/\vi=Y i/\k<=Qg i/\LX wr B Z V' D' c' K' (N+65*k)/\Rp w wr B Z (ET us i) V V' K K'
structure Tc (w:A)(B:Nat)(v:aF)(rows:List (az))(us:ay):Prop where
 own:w.ownsRow B 33 1 v rows.length us
 row:∀(i:Nat) (u:aF),us[i]?=some u->w.ownsRow B 3 1 u (rows.getD i []).length ((rows.getD i []).map (Value.int .i64))/\u≠af
 yM:Ho us
 nil:us=[]->v=af
theorem Tc.len {v:aF}{rows:List (az)}{us:ay}(h:Tc w B v rows us):us.length=rows.length:=by have:=h.own.1;omega
theorem Tc.UZ {v:aF}{rows:List (az)}{us:ay}(h:Tc w B v rows us)(hb:∀k,(v.ownBlock=some k\/∃u∈us,u.ownBlock=some k)->w'.heap[k]?=w.heap[k]?):Tc w' B v rows us:=
 ⟨JJ h.own (λk e=>hb k (.inl e)),λi u hu=>⟨JJ (h.row i u hu).1 (λk e=>hb k (.inr ⟨u,cq hu,e⟩)),(h.row i u hu).2⟩,h.yM,h.nil⟩
theorem anq {v:aF}{rows:List (az)}{us:ay}{V':LV}{K':VX->Prop}{i:Nat}{u:aF}(h:Tc w B v rows us)(hF:∀k,anY k->Yj Z V k/\∀x,K x->k∉x.S)(hA:∀u∈us,∀k,u.ownBlock=some k->anY k)(hW:Rp w wr B Z (ET us i) V V' K K')(hu:us[i]?=some u):∃g cap,u=.slice (some ⟨g,0,none⟩) (rows.getD i []).length cap/\wr.ownsRow B 3 1 (.slice (some ⟨g,0,none⟩) (rows.getD i []).length cap) (rows.getD i []).length ((rows.getD i []).map (Value.int .i64))/\Yj Z V' g/\∀x,K' x->g∉x.S:=by
 obtain⟨ho,ZP⟩:=h.row i u hu;rcases ho.2 with⟨q,_⟩|⟨g,cap,cur,q1,q2,q3,q4⟩
 ·exact absurd (by rw[q]) ZP
 ·have eb:u.ownBlock=some g:=tO;have hf:=hF g (hA u (cq hu) g eb);have ZR:=YY q3;have hn:¬ET us i g:=λ⟨j,u',hj,bz,e'⟩=>by have:=h.yM j i u' u g bz hu e' eb;omega
  refine⟨g,cap,q1,?_,hW.fr g ZR hf.1,λx hx q=> ?_⟩
  ·rw[<-q1];exact JJ ho (λk e=>by rw[eb]at e;cases e;exact hW.bl g ZR hf.1 hn)
  ·rcases hW.kn x hx with r|r
   ·exact hf.2 x r q
   ·rcases r g q with r|r
    ·exact hn r
    ·omega
theorem adq {v:aF}{rows:List (az)}{us:ay}{V':LV}{K':VX->Prop}{i:Nat}(h:Tc w B v rows us)(hF:∀k,anY k->Yj Z V k/\∀x,K x->k∉x.S)(hA:∀k,v.ownBlock=some k->anY k)(hW:Rp w wr B Z (ET us i) V V' K K'):wr.ownsRow B 33 1 v rows.length us/\∀k,v.ownBlock=some k->Yj Z V' k/\∀x,K' x->k∉x.S:=by
 have key:∀k,v.ownBlock=some k->¬ET us i k:=λk e ⟨j,u,hj,hu,eu⟩=>by
  obtain⟨cur,hc⟩:=adn (h.row j u hu).1 eu;exact ado h.own e hc pF rfl
 refine⟨JJ h.own (λk e=>hW.bl k (h.own.lt k e).2 (hF k (hA k e)).1 (key k e)),λk e=>⟨hW.fr k (h.own.lt k e).2 (hF k (hA k e)).1,λx hx q=> ?_⟩⟩
 rcases hW.kn x hx with r|r
 ·exact(hF k (hA k e)).2 x r q
 ·rcases r k q with r|r
  ·exact key k e r
  ·have:=(h.own.lt k e).2;omega
def Ja (w:A)(B Z c:Nat)(V:LV)(D:LD)(K:VX->Prop)(v:aF)(n:Nat)(mark:aF)(vi:aF)(wr:A):Prop:=
 ∃(i:Nat) (xs:ay) (E:List Nat),i<=n/\vi=Y i/\wr.ownsRow B 33 1 v n xs/\LW wr B Z V D c K/\(∀b∈E,w.heap.size<=b/\Yj Z V b/\wr.heap[b]?=some (.cells #[mark] 3 (0,0)))/\(∀j,j<i->∃b∈E,xs[j]?=some (aj b 1 1))/\
  (∀k,k<w.heap.size->Yj Z V k->v.ownBlock≠some k->wr.heap[k]?=w.heap[k]?)/\Wp B Z w wr
theorem Ja.step {g cap n i:Nat}{mark:aF}{xs:ay}{E:List Nat}(hi:i<n)(ho:wr.ownsRow B 33 1 (aj g n cap) n xs)(Uj:LW wr B Z V D c K)(hE:∀b∈E,w.heap.size<=b/\Yj Z V b/\wr.heap[b]?=some (.cells #[mark] 3 (0,0)))(hX:∀j,j<i->∃b∈E,xs[j]?=some (aj b 1 1))(hb:∀k,k<w.heap.size->Yj Z V k->(aj g n cap).ownBlock≠some k->wr.heap[k]?=w.heap[k]?)(Yf:Wp B Z w wr)(hf:Yj Z V g)(I:∀x,K x->g∉x.S)(hB:B<=g)(O1:g<w.heap.size):Ja w B Z c V D K (aj g n cap) n mark (Y ((i:Int)+1)) ((wr.alloc (.cells #[mark] 3)).setCell (O g i) (aj wr.heap.size 1 1)):=by
 have hl:xs.length=n:=uW;have ga:=di wr (.cells #[mark] 3) none;have aV:=(ho.alloc (.cells #[mark] 3)).stored i (aj wr.heap.size 1 1);have z:=ZC (wr.alloc (.cells #[mark] 3)) g i (aj wr.heap.size 1 1);have hz:=Yf.size;have nb:∀b,w.heap.size<=b->some b≠some g:=λb hb e=>by have:=fO e;omega
 refine⟨i+1,xs.set i _,E++[wr.heap.size],J,pG,aV.1,(Uj.alloc _).frame (S:=[g]) (Y9.Pe z (λk e=>by cases e;simp)) (λk aC=> ?_),λb ar=> ?_,λj hj=> ?_,λk F h2 h3=> ?_,(Yf.grown Uj.hB ga (λk e=>pL)).grown (gZ Uj.hB ga.size) z (λk e=>by cases e;exact .inr hB)⟩
 ·simp only[gH,eQ,iM]at aC;subst aC;exact⟨hf,I⟩
 ·rcases fE.1 ar with q|q
  ·obtain⟨q1,q2,q3⟩:=hE b q;exact⟨q1,q2,(z.block b (dH (YY q3) ga.size) (nb b q1)).trans ((ga.block b (YY q3) pG).trans q3)⟩
  ·simp only[gH,eQ,iM]at q;subst q;exact⟨hz,Ns Uj (iw _),(z.block _ pG (nb _ hz)).trans (gp _ _)⟩
 ·rcases ib j i with q|q
  ·obtain⟨b,q1,q2⟩:=hX j q;exact⟨b,by simp[q1],by rw[bZ J];exact q2⟩
  ·obtain rfl:j=i:=J;exact⟨wr.heap.size,pG,by simp[hl,hi]⟩
 ·exact(z.block k (dH F (gZ hz ga.size)) (λe=>h3 e.symm)).trans ((ga.block k (dH F hz) pG).trans (hb k F h2 h3))
def LsC (w:A)(B Z:Nat)(anY:Nat->Prop)(c:Nat)(V:LV)(D:LD)(K:VX->Prop)(n:Nat)(mark:aF)(vl vi:aF)(wr:A):Prop:=
 ∃(i:Nat) (a:ax) (cap:Nat) (V1:LV) (D1:LD) (L:List LP) (cs:ay) (E:List Nat),i<=65/\vi=Y i/\vl=.slice a (n+i) cap/\(Value.slice a (n+i) cap=af\/n+i≠0)/\L.length<=i/\Qh w wr B Z anY c V D K V1 D1 L (.slice a (n+i) cap) (n+i) cs E mark
theorem Ja.last {v:aF}{n:Nat}{mark:aF}{xs:ay}{E:List Nat}(ho:wr.ownsRow B 33 1 v n xs)(Uj:LW wr B Z V D c K)(hE:∀b∈E,w.heap.size<=b/\Yj Z V b/\wr.heap[b]?=some (.cells #[mark] 3 (0,0)))(hX:∀j,j<n->∃b∈E,xs[j]?=some (aj b 1 1))(hb:∀k,k<w.heap.size->Yj Z V k->v.ownBlock≠some k->wr.heap[k]?=w.heap[k]?)(Yf:Wp B Z w wr)(hv:∀k,v.ownBlock=some k->Yj Z V k/\∀x,K x->k∉x.S)(ck:n=0->v=af):LsC w B Z (λk=>v.ownBlock=some k) c V D K n mark v (Y 0) wr:=by
 obtain⟨a,cap,rfl⟩:=Wt ho;have hl:xs.length=n:=uW;refine⟨0,a,cap,V,D,[],xs,E,J,rfl,rfl,?_,pG,Uj,rfl,ho,λk e=>⟨.inl e,hv k e⟩,λx hx=>ue,hE,λu hu=> ?_,λk _ f=>f,hb,Yf⟩
 ·by_cases h0:n=0
  ·exact .inl (ck h0)
  ·exact .inr h0
 ·obtain⟨j,hj,e⟩:=cX hu;obtain⟨b,q1,q2⟩:=hX j J;refine⟨b,q1,?_⟩;rw[aZ hj,e]at q2;exact fO q2
theorem Qh.lp {V1:LV}{D1:LD}{L:List LP}{vl mark:aF}{m:Nat}{cs:ay}{E:List Nat}(h:Qh w wr B Z anY c V D K V1 D1 L vl m cs E mark)(Yv:vl=af\/m≠0):∃x:LP,x.r=vl:=by
 rcases h.own.2 with⟨q1,q2⟩|⟨g,cap,cur,q1,q2,q3,q4⟩
 ·exact⟨⟨0,0,0,mark⟩,by rw[q1];rfl⟩
 ·rcases Yv with q|q
  ·exact⟨⟨0,0,0,mark⟩,by rw[q];rfl⟩
  ·exact⟨⟨g,m,cap,mark⟩,by unfold LP.r;rw[iQ q,q1];rfl⟩
theorem LX.up {N':Nat}(h:LX w B Z V D c K N)(hN:N<=N'):LX w B Z V D c K N':=⟨h.lw,h.n1,h.n2,h.n3,h.l1,h.l2,h.l3,h.ms,h.m20,λi hi=>gZ (h.bd i hi) hN,gZ h.cb hN⟩
def ja{P:Prop}(h:P:=by
 obtain⟨na,nc,en⟩:=Wt (hT.lw.own 5 J);obtain⟨ka,kc,ek⟩:=Wt (hT.lw.own 6 J);obtain⟨x,hxr⟩:=hT.lp Yv;have HXR:=Z8 hxr;have Fv:=Z8 Yv;have o1:wr.ownsRow B 30 1 (.slice na (D1.Zi 5) nc) (D1.Zi 5) (D1.cells 5):=by rw[<-en];exact hT.lw.own 5 J
 have m1:wr.cell? (O Z 5)=some (.slice na (D1.Zi 5) nc):=by rw[<-en];exact Z0 hT.lw.Zl 5 _ rfl
 have T8:D1.Zi 5<=D'.Zi 5+L.length:=by rw[hT.d];exact Ot D' (.inr (.inr rfl)) L 5 J
 have V7:D1.Zi 6<=D'.Zi 6+L.length:=by rw[hT.d];exact Ot D' (.inr (.inr rfl)) L 6 J
 have HT:=Z8 hT;have PH:=Z8 en;have Qu:=Z8 ek;have Yw:=hT.lw.hB;have RD:=hT.lw.slt;clear hT en ek Yv hxr;go_wp2_with (at_builtin;refine RH rfl _ _ 57 rfl B 30 i1 (af) 1 24 underlying57 YS T7 UJ UI rfl pF _ _ _ rfl (o1.alloc _) (ah wr.heap.size) 1 1 [.slice a (rows.length+i) cap] rfl rfl (World.news_of_block (gp _ _)) (Lf _ _ _) ?c3 ?c4 ?c5 ?_)
 case c3=>unfold maxLen;omega
 case c4=>omega
 case c5=>simp;omega
 intro v1 w2 WT ZZ;have Oq:=ZZ;rw[<-PH.out]at Oq;have l1:=(HT.out.lw.alloc _).push (D':=D1.pl 5 x) (i:=5) J WT Oq (λj hj=>My _ _ (.inr (.inr rfl)) hj) (λj hj=>by rw[JK _ _ (.inr (.inr rfl)) hj,LP.at,iR rfl,HXR.out])
 obtain⟨xa,xm,xc,rfl⟩:=Vd WT;have f2:w2.frozen? (O Z 5)=false:=Zz ((ZZ.by.block Z pI (λe=>by have:=(o1.lt Z e.symm).1;have:=HT.out.lw.lt;omega)).trans (gq wr _ RD |>.trans HT.out.lw.Zl)) 5
 have m2:w2.cell? (O Z 5)=some (.slice na (D1.Zi 5) nc):=ZZ.by.cell ((di wr _ none).cell m1 pG) (λe=>by have:=(o1.lt Z e.symm).1;have:=HT.out.lw.lt;omega)
 obtain⟨WA,CG⟩:∃W,W=w2.setCell (O Z 5) (.slice xa xm xc):=⟨_,rfl⟩;rw[<-CG]at l1;have o2:WA.ownsRow B 3 1 (.slice ka (D1.Zi 6) kc) (D1.Zi 6) (D1.cells 6):=by rw[<-Qu.out];exact l1.own 6 J
 have m3:WA.cell? (O Z 6)=some (.slice ka (D1.Zi 6) kc):=by rw[<-Qu.out];exact Z0 l1.Zl 6 _ rfl
 have L0:WA.heap.size=w2.heap.size:=by rw[CG];simp[World.setCell]
 have OC:=l1.hB;have PG:=l1.slt;have TL:=Z8 l1;have Wq:=Z8 WT;have We:=Z8 ZZ;clear l1 WT ZZ o1 m1 Oq;have AP:WA.cell? (O Z 7)=some (Y ((c':Int)+1)):=by have q:=Z0 TL.out.Zl 7 (Y ((c'+1:Nat):Int)) rfl;rw[ec]at q;exact q
 have FC:=(o2.alloc (.cells #[Y ((c':Int)+1)] 3)).kept (ZG _ none) (XY _);have FB:∀j u,[Y ((c':Int)+1)][j]?=some u->(WA.alloc (.cells #[Y ((c':Int)+1)] 3)).drew.cell? (((ah w2.heap.size):Addr).add j)=some u:=by rw[<-L0];exact World.news_of_block (w:=WA.alloc (.cells #[Y ((c':Int)+1)] 3)) (gp _ _)
 have QL:Hid (WA.grownBy (WA.alloc (.cells #[Y ((c':Int)+1)] 3)).drew none):=(di _ _ none).trans (ZG _ none);have FA:B<=(WA.alloc (.cells #[Y ((c':Int)+1)] 3)).drew.heap.size:=gZ OC QL.out.size;have Fz:Hid (∀(v3:aF) (w3:A),Tw (WA.alloc (.cells #[Y ((c':Int)+1)] 3)).drew (.slice ka (D1.Zi 6) kc) v3 w3->w3.frozen? (O Z 6)=false/\w3.cell? (O Z 6)=some (.slice ka (D1.Zi 6) kc)):=λv3 w3 ZJ=>by
  have ZP:some Z≠(Value.slice ka (D1.Zi 6) kc).ownBlock:=λe=>by have:=(o2.lt Z e.symm).1;have:=TL.out.lt;omega
  have XK:=(ZJ.by.block Z (dH PG QL.out.size) ZP).trans ((QL.out.block Z PG pG).trans TL.out.Zl);exact⟨Zz XK 6,ZJ.by.cell (QL.out.cell m3 pG) ZP⟩
 have AO:∀o,(WA.alloc o).drew.cell? (O Z 6)=some (.slice ka (D1.Zi 6) kc):=λo=>((di _ o none).trans (ZG _ none)).cell m3 pG
 have HWA:=Z8 CG;subst CG;go_wp2;go_region_law (refine aa1 p8 _ _ 33 p8 B 3 i3 (Y 0) 1 8 underlying33 Ro PU WG WH rfl pF (.slice ka (D1.Zi 6) kc) (D1.Zi 6) (D1.cells 6) p8 FC (ah w2.heap.size) 1 1 [Y ((c':Int)+1)] p8 rfl FB (Dv _) pK J FA ?_;intro v3 w3 TJ ZJ;have JH:=Fz.out v3 w3 ZJ;have f4:=JH.1;have m4:=JH.2;obtain⟨ya,ym,yc,rfl⟩:=Vd TJ)
 all_goals
  have ga:=We.out;rw[<-PH.out]at ga;have gb:=ZJ;rw[<-Qu.out]at gb;obtain⟨V2,D2,y,Pr⟩:=HT.out.push Fv.out Wq.out (di _ _ _) pG ga TJ QL.out gb;have SH:=Z8 Pr;have o5:=Pr.own;have M8:(w3.setCell (O Z 6) (.slice ya ym yc)).heap.size=w3.heap.size:=pV;have FI:B<=w3.heap.size:=tM;have N3:Hid (∀j u,[aj w3.heap.size 1 1][j]?=some u->(((w3.setCell (O Z 6) (.slice ya ym yc)).alloc (.cells #[Y ((c':Int)+1)] 3)).alloc (.cells #[aj w3.heap.size 1 1] 33)).cell? (((ah (w3.heap.size+1)):Addr).add j)=some u):=by
   have e:=gp ((w3.setCell (O Z 6) (.slice ya ym yc)).alloc (.cells #[Y ((c':Int)+1)] 3)) (.cells #[aj w3.heap.size 1 1] 33);rw[Hx,M8]at e;exact World.news_of_block e
  have B3:Hid ((((w3.setCell (O Z 6) (.slice ya ym yc)).alloc (.cells #[Y ((c':Int)+1)] 3)).alloc (.cells #[aj w3.heap.size 1 1] 33)).heap[w3.heap.size]?=some (.cells #[Y ((c':Int)+1)] 3 (0,0))):=by
   rw[Hid,gq _ _ (by rw[Hx,M8];omega),<-M8];exact gp _ _
  have Z3:Hid ((w3.setCell (O Z 6) (.slice ya ym yc)).heap.size<=w3.heap.size):=by rw[Hid,M8];exact iw _
  have k73:(w3.setCell (O Z 6) (.slice ya ym yc)).cell? (O Z 7)=some (Y ((c':Int)+1)):=by have q:=Z0 SH.out.lw.Zl 7 (Y ((c'+1:Nat):Int)) rfl;rw[ec]at q;exact q
  clear ga gb L0 Pr TJ ZJ o2 m3 TL Wq We HT PH Qu m2 f2 AP AO FC FB FA Fz QL JH Fv HXR HWA M8;go_wp2_with (at_builtin;refine RH rfl _ _ 30 rfl B 33 i2 (af) 1 24 underlying30 XB Ze Zq Zn rfl pF _ _ _ rfl ((o5.alloc _).alloc _) (ah (w3.heap.size+1)) 1 1 [aj w3.heap.size 1 1] rfl rfl N3.out (Lf _ _ _) ?c3 ?c4 ?c5 ?_)
  case c3=>unfold maxLen;omega
  case c4=>omega
  case c5=>simp;omega
  intro v5 w5 PI Yo;obtain⟨a',Nt,rfl⟩:=Wt PI;have JI:=Z8 (SH.out.app ((di _ _ none).trans (di _ _ none)) yL.out Vn B3.out Z3.out PI Yo Hy.out);clear PI Yo SH o5 N3 B3 Z3;go_wp2;go_roundw
  case rel=>exact⟨i+1,a',Nt,_,_,_,_,_,J,pQ,rfl,.inr J,by simp;omega,JI.out⟩
  case measure=>simp[intOf];omega):P:=h
def oZ{P:Prop}(h:P:=by
 go_roundw
 case rel=>exact HR.out
 case measure=>simp[intOf];omega):P:=h
def ko{P:Prop}(h:P:=by
 clear hc;go_wp2_with (go_at_call 58;refine KI.get.mono ?_;rintro e w9 ⟨rfl,V9,K9,L9,q9,Lb,l9,f9⟩);have HR:=Z8 (anr.out w9 V9 K9 L9 q9 Lb l9 f9);clear q9 Lb l9 f9;exact oZ):P:=h
theorem ans {v:aF}{rows:List (az)}{us:ay}(h:LX w B Z V D c K N)(ht:Tc w B v rows us)(hr:∀r∈rows,r.length<=1000)(RI:rows.length<=100000)(hN:N<=800000000000)(hF:∀k,anY k->Yj Z V k/\∀x,K x->k∉x.S)(bM:∀k,v.ownBlock=some k->anY k)(bO:∀u∈us,∀k,u.ownBlock=some k->anY k):aq 63 #[ai Z,v] w λe w'=>e=.returned (.tuple #[])/\∃V' D' c' K',LX w' B Z V' D' c' K' (N+(65*Qg rows.length+65))/\Rp w w' B Z anY V V' K K':=by
 obtain⟨i1,YS,T7,UJ,UI⟩:=iE ann;obtain⟨i2,XB,Ze,Zq,Zn⟩:=iE aa0;obtain⟨i3,Ro,PU,WG,WH⟩:=iE FD;obtain⟨va,vc,rfl⟩:=Wt ht.own;have b8:=ht.len;have HT:=Z8 ht;have T1:=Z8 hF;have bD:=Z8 bM;have bS:=Z8 bO;have H8:=Z8 hr;have aO:=h.lw.hB;have HS:Hid (CH w B Z V K N rows.length us (Y 0) w):=⟨0,0,V,D,c,K,iz _,rfl,iz _,h,Rp.refl _ _ _ _ _ _⟩;have bI:=Z8 b8;clear h ht hF bM bO hr b8;go_enter func63,ntmps63;go_wp2
 go_loopw [4] (λvi wr=>CH w B Z V K N rows.length us vi wr) (λvi _=>rows.length-(intOf vi).toNat)
 case atStart=>exact HS.out
 case round=>
  clear HS;obtain⟨i,k,V',D',c',K',hi,rfl,I,hX,hW⟩:=hrel;have bt:=adp (i:=i) J;by_cases ZR:i<rows.length
  ·have X8:(i:Int)<rows.length:=J;have Xy:(0:Int)<=i:=J;obtain⟨u,hu⟩:∃u,us[i]?=some u:=⟨us[i]'(by rw[bI.out];exact ZR),aZ (by rw[bI.out];exact ZR)⟩;by_cases hc:i<100\/i%50=0
   ·obtain⟨g,cap,rfl,ho,bV,bX⟩:=anq HT.out T1.out bS.out hW hu;obtain⟨aL,bE⟩:=adq HT.out T1.out bD.out hW;obtain⟨gl,rfl⟩:∃gl,va=some (ah gl):=by
     rcases aL.2 with⟨_,q⟩|⟨gl,_,_,q,_⟩
     ·omega
     ·injection q with q;exact⟨gl,q⟩
    have m1:=R9 aL hu;have cw:(rows.getD i []).length<=1000:=by
     rw[aN,aZ ZR];exact H8.out _ (eL ZR)
    generalize (rows.getD i []).length=rl at *;have KI:=ZQ.mk (aa2 hX.lw ho bV bX J (by have:=hX.cb;omega) (λi hi=>by have:=hX.bd i hi;omega))
    have HX:=Z8 hX;have HW:=Z8 hW;have HU:=Z8 hu;have bY:=Z8 (anp hc);have anr:Hid (∀(w9:A) (V9:LV) (K9:VX->Prop) (L9:List LP),LW w9 B Z V9 (Wo D' 3 L9) (c'+1) K9->Hz wr w9 B Z g V' V9 K' K9->L9.length<=65->(∀x∈L9,K9 (QM x)/\x.mark=Y (-((c':Int)+1))/\x.len<=rl+65)->CH w B Z V K N rows.length us (Y ((i:Int)+1)) w9):=λw9 V9 K9 L9 q9 Lb l9 f9=>
     ⟨i+1,k+1,V9,_,_,K9,J,pG,by have:=bY.out;omega,HX.out.Qe q9 Lb.kk f9 l9 J,HW.out.trans Lb.a (λb ⟨j,u,F,h2⟩=>⟨j,u,J,h2⟩) (λb e=>.inl ⟨i,_,J,HU.out,by rw[e];rfl⟩)⟩
    clear hX hW hu ho bV bX aL bE bY HX HW HU;by_cases F:i<100
    ·have bG:(i:Int)<100:=J;exact ko
    ·have bG:¬((i:Int)<100):=J;have aG:(i:Int)%50=0:=J;exact ko
   ·have bG:¬((i:Int)<100):=J;have aG:¬((i:Int)%50=0):=J;have HR:Hid (CH w B Z V K N rows.length us (Y ((i:Int)+1)) wr):=⟨i+1,k,V',D',c',K',J,pG,gZ I (ano i),hX,hW.trans (Rp.refl _ _ _ (λ_=>False) _ _) (λb ⟨j,u,F,h2⟩=>⟨j,u,J,h2⟩) (λb e=>e.elim)⟩
    clear hX hW hu hc;go_wp2;exact oZ
  ·obtain rfl:i=rows.length:=J;obtain⟨aL,bE⟩:=adq HT.out T1.out bD.out hW;obtain⟨w0,aQ⟩:∃W,W=wr:=⟨_,rfl⟩;subst aQ;have aI:=hX.cb;have cx:=hX.bd 5 J;have cy:=hX.bd 6 J;have Vn:=hX.lw.hB;have ec:((c'+1:Nat):Int)=(c':Int)+1:=J;have c7:w0.cell? (O Z 7)=some (Y c'):=Z0 hX.lw.Zl 7 _ rfl;have f7:w0.frozen? (O Z 7)=false:=Zz hX.lw.Zl 7;have Hy:Hid (∀x,K' x->∀k∈x.S,k<w0.heap.size):=λx hx k I=>((hX.lw.kp x hx).2 k I).1
   have yL:Hid (∀k,(Value.slice va rows.length vc).ownBlock=some k->B<=k):=λk e=>(aL.lt k e).1
   have aY:=hX.lw.count (c'+1);rw[ec]at aY;have HS:Hid (Ja w0 B Z (c'+1) V' D' K' (.slice va rows.length vc) rows.length (Y ((c':Int)+1)) (Y 0) (w0.setCell (O Z 7) (Y ((c':Int)+1)))):=⟨0,us,[],iz _,rfl,aL.kept (ZC w0 Z 7 _) (.inr (λe=>(bE Z e).1.1 rfl)),aY,λb hb=>by simp at hb,λj hj=>J,λk F h2 h3=>(ZC w0 Z 7 _).block k F (λe=>h2.1 (fO e)),(Wp.refl B Z w0).grown Vn (ZC w0 Z 7 _) (λk e=>by cases e;exact .inl rfl)⟩
   have HX:=Z8 hX;have HW:=Z8 hW;have bK:=Z8 bE;have cm:=Z8 aL;have cn:Hid (rows.length=0->Value.slice va rows.length vc=af):=λe=>HT.out.nil (bA.1 (by rw[bI.out];exact e))
   clear hX hW aL bE aY ZR;go_wp2;generalize (w0.setCell (O Z 7) (Y ((c':Int)+1)))=w1 at *;clear c7 f7
   go_loopw [5] (λvi wr=>Ja w0 B Z (c'+1) V' D' K' (.slice va rows.length vc) rows.length (Y ((c':Int)+1)) vi wr) (λvi _=>rows.length-(intOf vi).toNat)
   case atStart=>exact HS.out
   case round=>
    clear HS;obtain⟨i,xs,E,hi,rfl,ho,Uj,hE,bf,O2,Yf⟩:=hrel;have k7:wr.cell? (O Z 7)=some (Y ((c':Int)+1)):=by have q:=Z0 Uj.Zl 7 (Y ((c'+1:Nat):Int)) rfl;rw[ec]at q;exact q
    by_cases ZR:i<rows.length
    ·have X8:(i:Int)<rows.length:=J;have Xy:(0:Int)<=i:=J;obtain⟨gl,rfl⟩:∃gl,va=some (ah gl):=by
      rcases ho.2 with⟨_,q⟩|⟨gl,_,_,q,_⟩
      ·omega
      ·injection q with q;exact⟨gl,q⟩
     have a8:xs.length=rows.length:=uW;obtain⟨y,hy⟩:∃y,xs[i]?=some y:=⟨xs[i]'J,aZ J⟩;have ga:=di wr (.cells #[Y ((c':Int)+1)] 3) none;have m1:=ga.cell (R9 ho hy) pG;have m2:=(ho.alloc (.cells #[Y ((c':Int)+1)] 3)).frozenAt i;have HN:=Z8 (Ja.step ZR ho Uj hE bf O2 Yf (bK.out gl rfl).1 (bK.out gl rfl).2 (yL.out gl rfl) (cm.out.lt gl rfl).2);clear ho Uj hE bf O2 Yf a8 hy ga;exact kG
    ·obtain rfl:i=rows.length:=J;have HS:=Z8 (Ja.last ho Uj hE bf O2 Yf bK.out cn.out);clear ho Uj hE bf O2 Yf ZR;go_wp2
     go_loopw [1,6] (λvl vi wr=>LsC w0 B Z (λk=>(Value.slice va rows.length vc).ownBlock=some k) (c'+1) V' D' K' rows.length (Y ((c':Int)+1)) vl vi wr) (λ_ vi _=>65-(intOf vi).toNat)
     case atStart=>exact HS.out
     case round=>
      clear HS k7;obtain⟨i,a,cap,V1,D1,L,cs,E,hi,rfl,rfl,Yv,bR,hT⟩:=hrel;have k7:wr.cell? (O Z 7)=some (Y ((c':Int)+1)):=by have q:=Z0 hT.lw.Zl 7 (Y ((c'+1:Nat):Int)) rfl;rw[ec]at q;exact q
      by_cases bU:i<=64
      ·have bW:(i:Int)<=64:=J;by_cases h3:i<3
       ·have Pj:(i:Int)<3:=J;exact ja
       ·have Pj:decide ((i:Int)<3)=false:=pI;by_cases ba:i=64
        ·have bj:((i:Int)==64)=true:=pI;clear ba;exact ja
        ·have bj:((i:Int)==64)=false:=pI;have o5:=hT.own;have FI:=hT.lw.hB;have SH:=Z8 hT;have N3:Hid (∀j u,[aj wr.heap.size 1 1][j]?=some u->((wr.alloc (.cells #[Y ((c':Int)+1)] 3)).alloc (.cells #[aj wr.heap.size 1 1] 33)).cell? (((ah (wr.heap.size+1)):Addr).add j)=some u):=by
          have e:=gp (wr.alloc (.cells #[Y ((c':Int)+1)] 3)) (.cells #[aj wr.heap.size 1 1] 33);rw[Hx]at e;exact World.news_of_block e
         have B3:Hid (((wr.alloc (.cells #[Y ((c':Int)+1)] 3)).alloc (.cells #[aj wr.heap.size 1 1] 33)).heap[wr.heap.size]?=some (.cells #[Y ((c':Int)+1)] 3 (0,0))):=by
          rw[Hid,gq _ _ (by rw[Hx];omega)];exact gp _ _
         have Z3:Hid (wr.heap.size<=wr.heap.size):=iw _;clear hT Yv;go_wp2_with (at_builtin;refine RH rfl _ _ 30 rfl B 33 i2 (af) 1 24 underlying30 XB Ze Zq Zn rfl pF _ _ _ rfl ((o5.alloc _).alloc _) (ah (wr.heap.size+1)) 1 1 [aj wr.heap.size 1 1] rfl rfl N3.out (Lf _ _ _) ?c3 ?c4 ?c5 ?_)
         case c3=>unfold maxLen;omega
         case c4=>omega
         case c5=>simp;omega
         intro v5 w5 PI Yo;obtain⟨a',Nt,rfl⟩:=Wt PI;have JI:=Z8 (SH.out.app ((di _ _ none).trans (di _ _ none)) yL.out Vn B3.out Z3.out PI Yo Hy.out);clear PI Yo SH o5 N3 B3 Z3;go_wp2;go_roundw
         case rel=>exact⟨i+1,a',Nt,_,_,_,_,_,J,pQ,rfl,.inr J,J,JI.out⟩
         case measure=>simp[intOf];omega
      ·obtain rfl:i=65:=J;obtain⟨K9,q1,q2,q3⟩:=hT.done;have hd:=hT.d;subst hd;have HQ:=Z8 (iG q1 (iG q2 q3));clear q1 q2 q3 hT Yv k7;go_wp2;go_end0;have q:=HX.out.anm HQ.out.1 HQ.out.2.1.kk (i:=(c':Int)+1) (λx hx=>⟨(HQ.out.2.2 x hx).1,(HQ.out.2.2 x hx).2.1,by have:=(HQ.out.2.2 x hx).2.2;omega⟩) J J
       exact⟨rfl,V1,_,_,K9,q.up J,HW.out.trans HQ.out.2.1 (λb ⟨j,u,_,hu,e⟩=>bS.out u (cq hu) b e) (λb e=>.inl (bD.out b e))⟩
theorem ant:∀(bs:List (Int×Int)),Pw bs->1<=(Xi bs).length:=λbs h=>by
 rw[<-EX h,CK h (adf h)];simp
theorem anu (lo hi:Int):(Ts lo hi).length=(hi-lo+1).toNat:=by simp[Ts]
theorem anv (v:Int×Int)(vs:List (Int×Int)):(Xi (v::vs)).length=(Ts v.1 v.2).length*(Xi vs).length:=by rw[CL,CL];rfl
theorem adr:∀{vars:List Y7} {p:Nat},Pw (WO vars)->1<=p->p<=3000->Nb vars p=if p*(Xi (WO vars)).length<=3000 then((p*(Xi (WO vars)).length:Nat):Int)else-1
 |[],p,_,F,h3=>by
  show(p:Int)=if p*1<=3000 then((p*1:Nat):Int)else-1
  rw[iR J,iy]
 |v::vs,p,hb,F,h3=>by
  have ar:Pw (WO vs):=λc hc=>hb c (List.mem_cons_of_mem _ hc)
  have hv:v.low<=v.high:=hb (v.low,v.high) (by simp[WO]);obtain⟨d,hd⟩:∃d:Nat,v.high-v.low+1=d:=⟨(v.high-v.low+1).toNat,J⟩;have bg:1<=d:=J;have hl:(Xi (WO (v::vs))).length=d*(Xi (WO vs)).length:=by
   show(Xi ((v.low,v.high)::WO vs)).length=_;rw[anv,anu];show(v.high-v.low+1).toNat*_=_;rw[hd];rfl
  have hp:=ant _ ar;have e:p*(d*(Xi (WO vs)).length)=p*d*(Xi (WO vs)).length:=(gJ _ _ _).symm;have cp:1<=p*d:=Nat.mul_pos F bg;have Ww:p*d<=p*d*(Xi (WO vs)).length:=Nat.le_mul_of_pos_right _ hp;simp only[Nb];rw[hd,hl,e];rw[show(p:Int)*(d:Int)=((p*d:Nat):Int) by simp];by_cases c:3000<p*d
  ·rw[iR J,iQ J]
  ·rw[iQ J,adr ar cp J]
def L6 (s:aA):Int:=if (Xi (Tr (W5 s))).length<=3000 then((Xi (Tr (W5 s))).length:Int)else-1
theorem yK {s:aA}(hG:U0 s):WO (Uv s).vars=Tr (W5 s):=by
 rw[hG.vars];unfold WO Tr;rw[gQ];rfl
theorem yJ {s:aA}(hG:U0 s):(Uv s).vars.length=(W5 s).length/\∀v∈(Uv s).vars,-1000<=v.low/\v.low<=v.high/\v.high<=1000:=by
 rw[hG.vars];refine⟨pG,λv hv=> ?_⟩
 obtain⟨q,hq,rfl⟩:=gU.1 hv;exact hG.md.vars q hq
theorem anw {r:Nat}{s:aA}(hR:Qv w r s)(hG:U0 s):aq 61 #[ai r,Y 3000] w (au w (Y (L6 s))):=by
 obtain⟨ta,va,la,ra,tc,vc,lc,rc,lists,rules,_,_,hM,_,_⟩:=hR;obtain⟨b1,b2⟩:=yJ hG;have q:=alU hM (by have:=hG.md.WB;omega) b2;have e:=adr (vars:=(Uv s).vars) (p:=1) (adi b2) J J;rw[yK hG,Nat.one_mul]at e;have e2:Nb (Uv s).vars 1=L6 s:=e;rw[e2]at q;exact q
theorem Qv.grown {r:Nat}{s:aA}(h:Qv w r s)(z:aB w w'):Qv w' r s:=by
 obtain⟨ta,va,la,ra,tc,vc,lc,rc,lists,rules,F,h2,h3,h4⟩:=h;exact kI
theorem anx {r:Nat}{s:aA}(hR:Qv w r s)(hG:U0 s)(hb:(Xi (Tr (W5 s))).length<=3000):aq 62 #[ai r] w λe w'=>∃a c,e=.returned (.slice a ((Xi (Tr (W5 s))).filter (Ut (W5 s) (TT s))).length c)/\aB w w':=by
 have cr:=hR;obtain⟨ta,va,la,ra,tc,vc,lc,rc,lists,rules,_,_,hM,_,_⟩:=hR;obtain⟨b1,b2⟩:=yJ hG;have q:=ank hM (by have:=hG.md.WB;omega) b2 (Ut (W5 s) (TT s)) (λW Z7 g z hv=>AH (cr.grown z) hG (.inr ⟨g,0,rfl,hv⟩)) (by rw[yK hG];exact hb)
 rw[yK hG]at q;exact q
theorem anz {K:SK}(hK:YV K):(TQ K).Zx.length<=100000:=by
 obtain⟨bB,bT⟩:=zZ hK;obtain⟨c1,c2,c3,c4⟩:=Hp hK bB bT;obtain⟨YB,bJ⟩:=zv hK bB (ac3 hK);have e0:(Zp K (Xj K)).2.Zx.length<=100000:=by rw[c1.Zx];exact iz _
 unfold TQ;simp only[];split
 ·rename_i c;exact zq hK _ ⟨c1.ok bB,c4 c,c3⟩ bJ (eT _) e0
 ·exact e0
structure SvT (V:List Xx)(C:List Yz)(order XS:Int)(rows:List (az))(en nd:Int):Prop where
 told:zC V C order rows
 ok:(nd<=XS)\/(XS<1/\nd=0)
 lo:0<=nd
 ends:(en=0/\rows.length=((Xi (Tr V)).filter (Ut V C)).length)\/(en=1/\(nd=XS\/XS<1)/\XS<2*(V.length:Int)*((Xi (Tr V)).length:Int)+1)\/(en=2/\rows.length=100000)
theorem anA {s:aA}(hG:U0 s)(order:Int)(VO:Bool)(XS:Int):SvT (W5 s) (TT s) order XS (TQ (QH (W5 s) (TT s) order VO XS)).Zx (TQ (QH (W5 s) (TT s) order VO XS)).ending (TQ (QH (W5 s) (TT s) order VO XS)).nodes:=by
 have hM:=hG.md;have hK:=acW (order:=order) (VO:=VO) (XS:=XS) hM.vars hM.WB hM.cons hM.O8;have sv:=alb hK;have hl:=anz hK;have hp:Jw (QH (W5 s) (TT s) order VO XS).vars=(Xi (Tr (W5 s))).length:=ac9 hM.vars;generalize TQ (QH (W5 s) (TT s) order VO XS)=r at *;generalize W5 s=V at *;generalize TT s=C at *;have hs:∀x∈r.Zx,Ut V C x=true:=sv.FR;have b5:∀{x},Ut V C x=true->VQ V x=true:=λ{x} h=>by unfold Ut at h;simp at h;exact h.1
 have hlen:∀x∈r.Zx,x.length=V.length:=λx hx=>Ik (b5 (hs x hx))
 refine⟨⟨hs,⟨hlen,sv.nd⟩,λho=> ?_,hl⟩,?_,sv.lo,?_⟩
 ·refine aW.2 λi j hi hj cD=> ?_
  exact ada ((hlen _ (eL hi)).trans (hlen _ (eL hj)).symm) (aW.1 (sv.lex ho) i j hi hj cD)
 ·rcases Int.lt_or_le XS 0 with c|c
  ·exact .inr ⟨J,sv.hn c⟩
  ·exact .inl (sv.hi c)
 ·rcases sv.ends with⟨e1,e2⟩|⟨e1,e2,e3⟩|⟨e1,e2,_⟩
  ·refine .inl ⟨e1,List.Perm.length_eq ((List.perm_ext_iff_of_nodup sv.nd ((ac8 _).filter _)).2 (λx=> ?_))⟩
   rw[List.mem_filter];exact⟨λh=>⟨(yZ V x).2 (b5 (hs x h)),hs x h⟩,λh=>e2 x h.2⟩
  ·refine .inr (.inl ⟨e1,?_,?_⟩)
   ·have e2:XS<=r.nodes:=e2;rcases Int.lt_or_le XS 1 with c|c
    ·exact .inr c
    ·exact .inl (Int.le_antisymm (sv.hi (by show 0<=XS;omega)) e2)
   ·rw[hp]at e3;have e3:r.nodes<(V.length:Int)*((Xi (Tr V)).length:Int)+1:=e3;have e2:XS<=r.nodes:=e2;have:(0:Int)<=(V.length:Int)*((Xi (Tr V)).length:Int):=fV (dw _) (dw _);rw[Int.mul_assoc];omega
  ·exact .inr (.inr ⟨e1,e2⟩)
end Go.Proofs.YthpcbbnabnlanaaGreatDoor
