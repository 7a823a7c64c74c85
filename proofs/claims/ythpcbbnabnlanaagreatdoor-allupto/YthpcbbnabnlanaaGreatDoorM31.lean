import Derived.Test.YthpcbbnabnlanaaGreatDoorM02
import Derived.Test.YthpcbbnabnlanaaGreatDoorM11
import Derived.Test.YthpcbbnabnlanaaGreatDoorM12
import Derived.Test.YthpcbbnabnlanaaGreatDoorM22
import Derived.Test.YthpcbbnabnlanaaGreatDoorM23
import Derived.Test.YthpcbbnabnlanaaGreatDoorM30
namespace Go.Proofs.YthpcbbnabnlanaaGreatDoor
set_option maxHeartbeats 4000000
set_option maxRecDepth 100000
open Go.Proofs.Tryz
set_option linter.all false
section
open Go.RowKit
variable {w:A}
theorem akj (p a b c d:Nat)(ha:a<2 ^ p)(hc:c<2 ^ p):(2 ^ p*b+a) &&& (2 ^ p*d+c)=2 ^ p*(b &&& d)+(a &&& c):=by
 apply cG;intro i;have h:a &&& c<2 ^ p:=Nat.lt_of_le_of_lt Nat.and_le_left ha;rw[fJ,aK _ ha,aK _ hc,aK _ h];by_cases q:i<p
 ·simp[q]
 ·simp[q]
def O0 (k:Nat):Nat->Nat
 |0=>0
 |n+1=>2 ^ (2*k)*O0 k n+(2 ^ k-1)
def Qs (k:Nat):Nat->Nat->Nat
 |0,_=>0
 |n+1,x=>x%2 ^ k+Qs k n (x/2 ^ k)
def Mx (k b:Nat):Nat->Nat->Prop
 |0,x=>x=0
 |n+1,x=>x%2 ^ k<=b/\Mx k b n (x/2 ^ k)
def RB (k:Nat):Nat->Nat->Nat
 |0,_=>0
 |n+1,x=>2 ^ (2*k)*RB k n (x/2 ^ k/2 ^ k)+(x%2 ^ k+x/2 ^ k%2 ^ k)
theorem abe (k:Nat):(2:Nat) ^ (2*k)=2 ^ k*2 ^ k:=by rw[Nat.two_mul,Nat.pow_add]
theorem AA (k:Nat):∀(n x:Nat),x &&& O0 k (n+1)=2 ^ (2*k)*(x/2 ^ (2*k) &&& O0 k n)+x%2 ^ k:=by
 intro n x;have hp:=fK (2*k);have I:=fK k;have F:(2:Nat) ^ k<=2 ^ (2*k):=cH J J
 conv=>lhs;rw[<-fG x (2 ^ (2*k))]
 rw[O0,akj _ _ _ _ _ (Nat.mod_lt _ hp) J,Nat.and_two_pow_sub_one_eq_mod,Nat.mod_mod_of_dvd];exact Nat.pow_dvd_pow 2 J
theorem Az (k:Nat):∀(n x:Nat),(x/2 ^ k &&& O0 k n)+(x &&& O0 k n)=RB k n x
 |0,x=>by simp[O0,RB]
 |n+1,x=>by
  rw[AA,AA,RB,<-Az k n (x/2 ^ k/2 ^ k),abe,bI x (2 ^ k) (2 ^ k),bI x (2 ^ k) (2 ^ k*2 ^ k)];have e:x/(2 ^ k*(2 ^ k*2 ^ k))=x/(2 ^ k*2 ^ k)/2 ^ k:=by rw[bI,gJ]
  rw[e,Nat.mul_add];omega
theorem Dp (k b:Nat)(hb:b+b<2 ^ (2*k)):∀(n x:Nat),Mx k b (2*n) x->Qs (2*k) n (RB k n x)=Qs k (2*n) x/\Mx (2*k) (b+b) n (RB k n x)
 |0,x,_=>⟨rfl,rfl⟩
 |n+1,x,h=>by
  have e:2*(n+1)=2*n+1+1:=J;rw[e]at h⊢;obtain⟨F,h2,h3⟩:=h;obtain⟨q1,q2⟩:=Dp k b hb n _ h3;have hp:=fK (2*k);have m1:RB k (n+1) x%2 ^ (2*k)=x%2 ^ k+x/2 ^ k%2 ^ k:=by
   rw[RB,Nat.mul_add_mod,eU (a:=x%2 ^ k+x/2 ^ k%2 ^ k) J]
  have m2:RB k (n+1) x/2 ^ (2*k)=RB k n (x/2 ^ k/2 ^ k):=by
   rw[RB,Nat.mul_add_div hp,Nat.div_eq_of_lt (a:=x%2 ^ k+x/2 ^ k%2 ^ k) J];omega
  refine⟨?_,?_,?_⟩
  ·rw[Qs,m1,m2,q1,Qs,Qs];omega
  ·rw[m1];omega
  ·rw[m2];exact q2
theorem abf:∀(n x:Nat),x<2 ^ n->Mx 1 1 n x
 |0,x,h=>by simp at h;exact h
 |n+1,x,h=>⟨J,abf n _ (by rw[ig]at h;omega)⟩
def La (x:Nat):Nat:=Qs 1 64 x
theorem abg (k b:Nat)(hb:b+b<2 ^ k):∀(n x:Nat),Mx k b (2*n) x->(x/2 ^ k+x) &&& O0 k n=RB k n x
 |0,x,_=>by simp[O0,RB]
 |n+1,x,h=>by
  have e:2*(n+1)=2*n+1+1:=J;rw[e]at h;obtain⟨F,h2,h3⟩:=h;have I:=fK k;have hx:x/2 ^ k/2 ^ k%2 ^ k<=b:=by
   cases n with
   |zero=>have:x/2 ^ k/2 ^ k=0:=h3;rw[this];simp
   |succ m=>
    have e2:2*(m+1)=2*m+1+1:=J;rw[e2]at h3;exact h3.1
  rw[AA,RB,<-abg k b hb n _ h3];have a1:(x/2 ^ k+x)%2 ^ k=x%2 ^ k+x/2 ^ k%2 ^ k:=by
   rw[Nat.add_mod,eU (a:=x/2 ^ k%2 ^ k+x%2 ^ k) J];omega
  have a2:(x/2 ^ k+x)/2 ^ (2*k)=x/2 ^ k/2 ^ k/2 ^ k+x/2 ^ k/2 ^ k:=by
   rw[abe,<-bI];have b1:(x/2 ^ k+x)/2 ^ k=x/2 ^ k/2 ^ k+x/2 ^ k:=by
    rw[Nat.add_div I,iQ J];omega
   rw[b1,Nat.add_div I,iQ J];omega
  rw[a1,a2]
theorem akk (d0 d1 d2 anZ:Nat)(h0:d0<=8)(F:d1<=8)(h2:d2<=8):(65536*anZ+(d0+d1+256*(d1+d2)))/65536=anZ:=J
theorem akl (d0 d1 d2 d3 d4 d5 d6 d7 y y1 y2 y3 y4 y5 y6:Nat)(h0:d0<=8)(F:d1<=8)(h2:d2<=8)(h3:d3<=8)(h4:d4<=8)(h5:d5<=8)(h6:d6<=8)(h7:d7<=8)(e0:y=256*y1+d0)(e1:y1=256*y2+d1)(e2:y2=256*y3+d2)(e3:y3=256*y4+d3)(e4:y4=256*y5+d4)(e5:y5=256*y6+d5)(e6:y6=256*d7+d6):y<578721382704613385/\(((y+y1)+(y+y1)/65536)+((y+y1)+(y+y1)/65536)/4294967296)%128=d0+d1+d2+d3+d4+d5+d6+d7:=by
 have c1:(y+y1)/65536=y2+y3:=by
  have:y+y1=65536*(y2+y3)+(d0+d1+256*(d1+d2)):=by clear e3 e4 e5 e6;omega
  rw[this];exact akk _ _ _ _ h0 F h2
 have c2:(y+y1+(y2+y3))/4294967296=y4+y5+y6+d7:=by
  have:y+y1+(y2+y3)=4294967296*(y4+y5+y6+d7)+(d0+d1+d2+d3+256*(d1+d2+d3+d4)+65536*(d2+d3+d4+d5)+16777216*(d3+d4+d5+d6)):=J;rw[this];clear this c1 e0 e1 e2 e3 e4 e5 e6;omega
 rw[c1,c2];clear c1 c2;have c3:y+y1+(y2+y3)+(y4+y5+y6+d7)=128*(2*(y1+y2+y3+y4+y5+y6+d7))+(d0+d1+d2+d3+d4+d5+d6+d7):=J;refine⟨J,?_⟩;rw[c3];clear c3 e0 e1 e2 e3 e4 e5 e6;omega
theorem akm (y:Nat)(h:Mx 8 8 8 y):y<578721382704613385/\(((y+y/256)+(y+y/256)/65536)+((y+y/256)+(y+y/256)/65536)/4294967296)%128=Qs 8 8 y:=by
 obtain⟨h0,F,h2,h3,h4,h5,h6,h7,h8⟩:=h;have hs:Qs 8 8 y=y%256+(y/256%256+(y/256/256%256+(y/256/256/256%256+(y/256/256/256/256%256+(y/256/256/256/256/256%256+(y/256/256/256/256/256/256%256+(y/256/256/256/256/256/256/256%256+0))))))):=rfl;rw[hs];have af:y/256/256/256/256/256/256/256/256=0:=h8;have q:=akl (y%256) (y/256%256) (y/256/256%256) (y/256/256/256%256) (y/256/256/256/256%256) (y/256/256/256/256/256%256) (y/256/256/256/256/256/256%256) (y/256/256/256/256/256/256/256%256)
  y (y/256) (y/256/256) (y/256/256/256) (y/256/256/256/256) (y/256/256/256/256/256) (y/256/256/256/256/256/256) h0 F h2 h3 h4 h5 h6 h7
  (fG _ _).symm (fG _ _).symm (fG _ _).symm (fG _ _).symm (fG _ _).symm (fG _ _).symm
  (by
   have r:=(fG (y/256/256/256/256/256/256) 256).symm;have r2:=fG (y/256/256/256/256/256/256/256) 256;rw[af,Nat.mul_zero,ik]at r2;rw[r2];exact r)
 refine⟨q.1,q.2.trans ?_⟩;simp only[gI,gX]
theorem abh:∀(n x:Nat),Mx 4 4 n x->15*x+4<=4*16 ^ n
 |0,x,h=>by have:x=0:=h;subst this;decide
 |n+1,x,h=>by
  have q:=abh n _ h.2;have F:x%16<=4:=h.1;have e:x/2 ^ 4=x/16:=rfl;rw[e]at q;rw[ig];generalize (16:Nat) ^ n=r at *;omega
theorem abj (k b n x:Nat)(h:Mx k b n x):x<2 ^ (k*n):=by
 induction n generalizing x with
 |zero=>have:x=0:=h;subst this;simp
 |succ n ih=>
  have q:=ih _ h.2;rw[Nat.mul_succ,Nat.pow_add];exact(Nat.div_lt_iff_lt_mul (fK k)).1 q
def nj{P:Prop}(h:P:=by
 refine(iJ _ (congr (iJ _ g1) g2)).trans ?_;rw[eD];omega):P:=h
theorem akn {x:Nat}(F:x<18446744073709551616):∃y1 y2 y3 y4 y5 y6:Nat,IntKind.u64.wrap (bits .and .u64 ((x:Int)/2) 6148914691236517205+bits .and .u64 (x:Int) 6148914691236517205)=(y1:Int)/\IntKind.u64.wrap (bits .and .u64 ((y1:Int)/4) 3689348814741910323+bits .and .u64 (y1:Int) 3689348814741910323)=(y2:Int)/\bits .and .u64 (IntKind.u64.wrap ((y2:Int)/16+(y2:Int))) 1085102592571150095=(y3:Int)/\IntKind.u64.wrap ((y3:Int)+(y3:Int)/256)=(y4:Int)/\IntKind.u64.wrap ((y4:Int)+(y4:Int)/65536)=(y5:Int)/\IntKind.u64.wrap ((y5:Int)+(y5:Int)/4294967296)=(y6:Int)/\y6<9223372036854775808/\y6%128=La x:=by
 have b0:Mx 1 1 (2*32) x:=abf 64 x F;obtain⟨s1,b1⟩:=Dp 1 1 pF 32 x b0;obtain⟨s2,b2⟩:=Dp 2 2 pF 16 _ b1;obtain⟨s3,b3⟩:=Dp 4 4 pF 8 _ b2;have m1:O0 1 32=6148914691236517205:=pF;have m2:O0 2 16=3689348814741910323:=pF;have m4:O0 4 8=1085102592571150095:=pF;have p1:=Az 1 32 x;have l1:=abj _ _ _ _ b1;generalize RB 1 32 x=y1 at *;have p2:=Az 2 16 y1;have l2:=abj _ _ _ _ b2;generalize RB 2 16 y1=y2 at *;have p3:=abg 4 4 pF 8 y2 b2;generalize RB 4 8 y2=y3 at *;obtain⟨t1,t2⟩:=akm y3 b3;have t3:=abh _ _ b2;have e3:(16:Nat) ^ (2*8)=18446744073709551616:=pF;rw[e3]at t3;have e1:(2:Nat) ^ (2*1*32)=18446744073709551616:=pF;have e2:(2:Nat) ^ (2*2*16)=18446744073709551616:=pF;rw[m1]at p1;rw[m2]at p2;rw[m4]at p3;rw[e1]at l1;rw[e2]at l2;clear b0 b1 b2 b3 m1 m2 m4 e1 e2 e3;have f2:∀anZ:Nat,((anZ:Int)/2)=((anZ/2 ^ 1:Nat):Int):=λanZ=>J
 have f4:∀anZ:Nat,((anZ:Int)/4)=((anZ/2 ^ 2:Nat):Int):=λanZ=>J
 have f16:∀anZ:Nat,((anZ:Int)/16)=((anZ/2 ^ 4:Nat):Int):=λanZ=>J
 have aa:∀a b:Nat,a<18446744073709551616->b<18446744073709551616->bits .and .u64 (a:Int) (b:Int)=((a &&& b:Nat):Int):=eZ;refine⟨y1,y2,y3,y3+y3/256,(y3+y3/256)+(y3+y3/256)/65536,_,?_,?_,?_,?_,?_,?_,?_,t2.trans (s3.trans (s2.trans s1))⟩
 ·have g1:=aa (x/2 ^ 1) 6148914691236517205 J J;have g2:=aa x 6148914691236517205 J J;rw[f2];exact nj
 ·have g1:=aa (y1/2 ^ 2) 3689348814741910323 J J;have g2:=aa y1 3689348814741910323 J J;rw[f4];exact nj
 ·have l3:y2/2 ^ 4+y2<18446744073709551616:=by clear t2 p1 p2 p3 f2 f4 f16 s1 s2 s3;omega
  have g1:=aa (y2/2 ^ 4+y2) 1085102592571150095 l3 J;have g2:IntKind.u64.wrap ((y2:Int)/16+(y2:Int))=((y2/2 ^ 4+y2:Nat):Int):=by
   rw[f16,eD];omega
  rw[g2];refine g1.trans ?_;rw[p3]
 ·rw[eD];omega
 ·rw[eD];omega
 ·rw[eD];omega
 ·omega
theorem ako {y:Nat}(h:y<9223372036854775808):bits .and .i64 (y:Int) 127=((y%128:Nat):Int):=by
 have F:(BitVec.ofInt 64 (y:Int)).toNat=y:=by
  rw[bV,dt];exact eU J
 have h2:(BitVec.ofInt 64 (127:Int)).toNat=127:=pF;show IntKind.i64.wrap ((BitVec.ofInt 64 (y:Int) &&& BitVec.ofInt 64 (127:Int)).toNat:Int)=_;rw[BitVec.toNat_and,F,h2,show(127:Nat)=2 ^ 7-1 from rfl,Nat.and_two_pow_sub_one_eq_mod];exact lZ
theorem akp {w:A}(x:Nat)(F:x<18446744073709551616):aq 200 #[.int .u64 (x:Int)] w λe w'=>e=.returned (Y (La x:Nat))/\w'=w:=by
 obtain⟨y1,y2,y3,y4,y5,y6,a1,a2,a3,a4,a5,a6,a7,a8⟩:=akn F;have hw:IntKind.i64.wrap ((y6:Nat):Int)=((y6:Nat):Int):=by
  clear a1 a2 a3 a4 a5 a6;exact lZ
 rw[<-a8];clear a8;go_enter func200,ntmps200;go_wp2;go_ret;have hb:=ako a7;rw[hb];exact⟨rfl,rfl⟩
end
section
open Go.RowKit
variable {w:A}
theorem abk (x:Nat):La x<=64:=by
 have h:∀n y,Qs 1 n y<=n:=by
  intro n
  induction n with
  |zero=>intro y;exact iw 0
  |succ n ih=>intro y;have:=ih (y/2 ^ 1);rw[Qs];omega
 exact h 64 x
def OZ (D:Nat):Nat->Nat
 |0=>0
 |i+1=>OZ D i+La (YW D i)
theorem Dn (D:Nat):∀i,OZ D i<=64*i
 |0=>iw 0
 |i+1=>by have:=Dn D i;have:=abk (YW D i);rw[OZ];omega
def VC (D:Nat):Nat:=OZ D 32
theorem abl (D:Nat){i:Nat}(h:i<32)(w:A):Sem.run prog (Instr.index 161 (.agg (Zh D)) (Y (i:Int))) w=.ok (.int .u64 (YW D i:Nat)) w:=by
 have F:∀w:A,Sem.run prog (isAgg 159) w=.ok false w:=λw=>pH
 have h2:∀w:A,Sem.run prog (sizeOf 159) w=.ok 1 w:=λw=>pH
 have h3:=Nw D h;have h4:(0:Int)<=i/\(i:Int)<32:=J;have h5:prog.underlying 161=some (.array 32 159):=pH;simp[Instr.index,run_underlying h5,asIntOf,h4,F,h2,h3,part,il,go_sem];intro h6;omega
def akq (D:Nat)(w:A)(vc vw vi:aF)(wr:A):Prop:=
 ∃i:Nat,i<=32/\vi=Y i/\vc=Y (OZ D i:Nat)/\aB w wr
theorem akr (D:Nat)(w:A):aq 177 #[.agg (Zh D)] w (au w (Y (VC D:Nat))):=by
 have hs:=Sq D;have K:∀i w,ZQ (aq 200 #[.int .u64 ((YW D i:Nat):Int)] w λe w'=>e=.returned (Y (La (YW D i):Nat))/\w'=w):=λi w=>ZQ.mk (akp (YW D i) rS)
 go_enter func177,ntmps177;go_wp2_with (refine fT rfl 161 _ rfl w.heap.size rfl 161 (Zh D) (0,0) _ (gp w _) underlying161 rfl (Ti D) ?_)
 go_loopw [3,5,7] (λvc vw vi wr=>akq D w vc vw vi wr) (λvc vw vi _=>32-(intOf vi).toNat)
 case atStart=>exact⟨0,J,rfl,rfl,di _ _ _⟩
 case round=>
  obtain⟨i,hi,rfl,rfl,ZX⟩:=hrel;by_cases ZR:i<32
  ·have X8:(i:Int)<32:=J;have Xy:(0:Int)<=i:=J;have ha:=abl D ZR wr;have K1:=K i;have hc:=Dn D i;have ho:=abk (YW D i);have HE:Hid (((OZ D i:Nat):Int)+((La (YW D i):Nat):Int)=((OZ D (i+1):Nat):Int)):=by rw[Hid,OZ];omega
   generalize La (YW D i)=anU at *;generalize OZ D i=C at *;go_wp2_with (go_at_call 200;refine(K1 _).get.mono ?_;rintro e w1 ⟨rfl,rfl⟩);go_roundw
   case rel=>exact⟨i+1,J,pG,by rw[HE.out],ZX⟩
   case measure=>simp[intOf];omega
  ·obtain rfl:i=32:=J;go_wp2;go_ret;exact⟨rfl,ZX⟩
end
section
open Go.RowKit
variable {w:A}
def K8 (x:Nat):List Nat:=(List.range 64).filter x.testBit
theorem Dm {α:Type}{p:α->Bool}:∀{l:List α},(∀a∈l,p a=false)->l.filter p=[]
 |[],_=>rfl
 |a::l,h=>by rw[eK,h a pG,Dm (λb hb=>h b (by simp[hb]))];rfl
theorem Fs {α:Type}{p q:α->Bool}:∀{l:List α},(∀a∈l,p a=q a)->l.filter p=l.filter q
 |[],_=>rfl
 |a::l,h=>by rw[eK,eK,h a pG,Fs (λb hb=>h b (by simp[hb]))]
theorem aks {n k:Nat}(h:k<n):List.range n=List.range k++k::List.range' (k+1) (n-k-1):=by
 rw[cC,cC];have e:n=k+(n-k-1+1):=J
 conv=>lhs;rw[e]
 rw[<-List.range'_append_1 (s:=0),List.range'_succ];simp
theorem akt:K8 0=[]:=Dm λa _=>eW a
theorem aku {x:Nat}(h0:0<x)(F:x<2 ^ 64):K8 x=Vr x::K8 (x &&& (x-1)):=by
 obtain⟨m,e,hm,I⟩:=G8 h0 F;unfold K8;rw[aks I,dx,dx,eK,eK];have a1:(List.range (Vr x)).filter x.testBit=[]:=Dm λa ha=>by
  have h2:a<Vr x:=td;rw[Ic e hm a J];simp;omega
 have a2:(List.range (Vr x)).filter (x &&& (x-1)).testBit=[]:=Dm λa ha=>by
  have h2:a<Vr x:=td;rw[A3 h0 F,Ic e hm a J];simp
 have b1:x.testBit (Vr x)=true:=by rw[Ic e hm _ (iw _)];simp
 have b2:(x &&& (x-1)).testBit (Vr x)=false:=by rw[A3 h0 F];simp
 have c1:(List.range' (Vr x+1) (64-Vr x-1)).filter x.testBit=(List.range' (Vr x+1) (64-Vr x-1)).filter (x &&& (x-1)).testBit:=Fs λa ha=>by
  have h2:Vr x+1<=a:=(dT.1 ha).1;rw[A3 h0 F];have h3:a≠Vr x:=J;simp[h3]
 rw[a1,a2,b1,b2,c1];rfl
def Nq (i x:Nat):az:=(K8 x).map λj:Nat=>((i:Int)*64+(j:Int))-1000
def PF (D:Nat):Nat->Nat->az
 |0,_=>[]
 |f+1,i=>Nq i (YW D i)++PF D f (i+1)
def WQ (D:Nat):az:=PF D 32 0
theorem abm {i x:Nat}(h0:0<x)(F:x<2 ^ 64):Nq i x=((i:Int)*64+((Vr x:Nat):Int)-1000)::Nq i (x &&& (x-1)):=by
 unfold Nq;rw[aku h0 F];rfl
theorem akv (i:Nat):Nq i 0=[]:=by unfold Nq;rw[akt];rfl
end
def bn (t:List UInt8):aA:=⟨t.toArray⟩
theorem akw (t:List UInt8):(bn t).data.toList=t:=rfl
theorem abn (t:List UInt8):(bn t).size=t.length:=by rw[adD,akw]
section
open Go.RowKit
theorem Dl (a b:List UInt8):bn a++bn b=bn (a++b):=by
 apply gF;rw[ByteArray.data_append];apply ez.1;rw[Array.toList_append];rfl
theorem abo (a:List UInt8)(xs:Array UInt8):bn a++⟨xs⟩=bn (a++xs.toList):=Dl a xs.toList
theorem abp (a:List UInt8)(xs:Array UInt8):(⟨xs⟩:aA)++bn a=bn (xs.toList++a):=Dl xs.toList a
theorem abq (xs:Array UInt8):(ByteArray.mk xs).size=xs.size:=rfl
attribute [local go_sem] Dl abo abp abn abq List.length_append List.length_cons List.length_nil
end
section
open Go.RowKit
variable {w w':A}
attribute [local go_sem] Dl abo abp abn abq List.length_append List.length_cons List.length_nil
def LL (w:A)(v:aF)(rows:List (az)):Prop:=(rows=[]/\∃a c,v=.slice a 0 c)\/∃g cap,v=aj g rows.length cap/\g<w.heap.size/\(∀(i:Nat) r,rows[i]?=some r->∃u,w.cell? (O g i)=some u/\Lj w u r)/\rows.length<=cap
theorem LL.is {v:aF}{rows:List (az)}(h:LL w v rows):∃a c,v=.slice a rows.length c:=by
 rcases h with⟨rfl,a,c,e⟩|⟨g,cap,e,_⟩
 ·exact⟨a,c,e⟩
 ·exact⟨_,_,e⟩
end
end Go.Proofs.YthpcbbnabnlanaaGreatDoor
