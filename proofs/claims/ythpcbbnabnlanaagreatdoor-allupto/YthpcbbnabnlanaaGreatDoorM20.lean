import Derived.Test.YthpcbbnabnlanaaGreatDoorM06
import Derived.Test.YthpcbbnabnlanaaGreatDoorM11
import Derived.Test.YthpcbbnabnlanaaGreatDoorM12
import Derived.Test.YthpcbbnabnlanaaGreatDoorM19
namespace Go.Proofs.YthpcbbnabnlanaaGreatDoor
set_option maxHeartbeats 4000000
set_option maxRecDepth 100000
set_option linter.all false
section
open Go.RowKit
def Uk (U:List ZY):Nat->Nat->Int->List UInt8->List UInt8
 |0,_,_,out=>out
 |f+1,i,bf,out=>
  if Z6 (ZT U i)=1 then out
  else if SX (ZT U i) (ZT U (i+1))then Uk U f (i+2) bf out
  else Uk U f (i+1) (Z6 (ZT U i)) (out++(if SE bf||SD (Z6 (ZT U i))then[]else[32])++UQ (ZT U i)++(if Z6 (ZT U i)=11 then[10]else[]))
def Pa (U:List ZY):List UInt8:=Uk U U.length 0 11 []
theorem vZ {U:List ZY}{f i:Nat}{bf:Int}{out:List UInt8}(h:Z6 (ZT U i)=1):Uk U f i bf out=out:=by
 cases f with
 |zero=>rfl
 |succ f=>simp only[Uk];rw[iR h]
theorem vY {U:List ZY}{f i:Nat}{bf:Int}{out:List UInt8}(h:Z6 (ZT U i)≠1)(h2:SX (ZT U i) (ZT U (i+1))=true):Uk U (f+1) i bf out=Uk U f (i+2) bf out:=by
 simp only[Uk];rw[iQ h,iR h2]
theorem vX {U:List ZY}{f i:Nat}{bf:Int}{out:List UInt8}(h:Z6 (ZT U i)≠1)(h2:SX (ZT U i) (ZT U (i+1))=false):Uk U (f+1) i bf out=Uk U f (i+1) (Z6 (ZT U i)) (out++(if SE bf||SD (Z6 (ZT U i))then[]else[32])++UQ (ZT U i)++(if Z6 (ZT U i)=11 then[10]else[])):=by
 simp only[Uk];rw[iQ h,h2];simp
theorem MS.low {w wr w':A}(h:aB w wr)(k:MS w.heap.size w.heap.size wr w'):aB w w':=
 ⟨k.os.trans h.os,k.tape.trans h.tape,k.output.trans h.output,gZ h.size k.size,λi hi hn=>(k.block i (dH hi h.size) J (.inl hi)).trans (h.block i hi hn)⟩
theorem MS.box {B b c:Nat}{w w':A}{cs:Array aF}(k:MS B b w w')(h:w.heap[c]?=some (.cells cs 129 (0,0)))(hc:c≠b):w'.heap[c]?=some (.cells cs 129 (0,0)):=
 (k.block c (aM.1 h).1 hc (.inr λaw fr q=>by rw[h]at q;cases q)).trans h
theorem J3 {B b:Nat}{bs:ay}{w w':A}{r:Option Nat}(h:Lib.IsBuilder 146 5 B b bs w)(z:aB w w'):Lib.IsBuilder 146 5 B b bs w':=by
 have key:∀p,Lib.BuilderAt 146 5 B b p bs w->Lib.BuilderAt 146 5 B b p bs w':=λp hx=>by
  obtain⟨hB,v,XK,ZO,ZP⟩:=hx;exact⟨hB,v,XX XK (aM.1 XK).1 z pG,ZO.kept z (XY _),ZP⟩
 rcases h with h|h
 ·exact .inl (key _ h)
 ·exact .inr (key _ h)
def agO (U:List ZY)(Zw:List UInt8)(w:A)(vb vi:aF)(wr:A):Prop:=
 ∃(i f:Nat) (bf:Int) (out:List UInt8),i<U.length/\vb=Y bf/\vi=Y i/\U.length<=i+f/\Hid (Uk U f i bf out=Zw)/\out.length<=3000*i/\
  Lib.IsBuilder 146 5 w.heap.size w.heap.size (Lib.byteCells out) wr/\aB w wr
def jM{P:Prop}(h:P:=by
 have es:Lib.strCells SP=Lib.byteCells (UQ T):=HSC.out;rw[es]at e;simpa[Lib.byteCells]using e):P:=h
def og{P:Prop}(h:P:=by
 go_roundw
 case rel=>
  refine⟨i+1,f,Z6 T,(out++[]++UQ T++[10]),XB,rfl,pQ,J,hl,?_,?_,ZJ⟩
  ·have:=Ku.out;simp;omega
  ·have e:=SI;exact jM
 case measure=>simp[intOf];omega):P:=h
def oh{P:Prop}(h:P:=by
 go_roundw
 case rel=>
  refine⟨i+1,f,Z6 T,(out++[]++UQ T++[]),XB,rfl,pQ,J,hl,?_,?_,ZU⟩
  ·have:=Ku.out;simp;omega
  ·have e:=Xf;exact jM
 case measure=>simp[intOf];omega):P:=h
theorem agP {w:A}{gt cap:Nat}{U:List ZY}(hE:Ve U)(ar:∀i,i<U.length->YI (ZT U i))(TD:U.length<=cap)(Yl:∀j u,(Wf U)[j]?=some u->ak w gt j u)(aP:gt<w.heap.size)(ht:Sj w):aq 46 #[aj gt U.length cap] w (au w (.string ⟨(Pa U).toArray⟩)):=by
 have hlen:=hE.len;have Z:=hE.pos;obtain⟨Zw,hR⟩:∃R,R=Pa U:=⟨_,rfl⟩;have HS:Hid (Uk U U.length 0 11 []=Zw):=uy;have HR:Hid (∀j u,(Wf U)[j]?=some u->ak w gt j u):=Yl;have HK:Hid (∀i,i<U.length->YI (ZT U i)):=ar;have HT:Hid (Sj w):=ht;have HL:Hid (Z6 (ZT U (U.length-1))=1):=hE.last;rw[<-hR];clear Yl hR ar ht;go_enter Tryz.func46,Tryz.ntmps46;go_wp2
 go_loopw [4,5] (λvb vi wr=>agO U Zw w vb vi wr) (λ_ vi _=>U.length-(intOf vi).toNat)
 case atStart=>exact⟨0,U.length,11,[],Z,rfl,rfl,J,HS,pG,.inl ⟨iw _,af,gp w _,ed _ _ _ _,by simp[Value.ownBlock]⟩,di _ _ _⟩
 case round=>
  obtain⟨i,f,bf,out,hi,rfl,rfl,hf,YO,bO,hB,ZX⟩:=hrel;obtain⟨T,hT⟩:∃T,T=ZT U i:=⟨_,rfl⟩;obtain⟨q0,q1,q2,q3⟩:=Cr U i _ (Cs hi);rw[<-hT]at q0 q1 q2 q3;have cc:∀j u,(Wf U)[j]?=some u->ak wr gt j u:=λj u hu=>ZX.cell (HR.out j u hu) pG
  have c0:=cc _ _ q0;have c1:=cc _ _ q1;have c2:=cc _ _ q2;have c3:=cc _ _ q3;have X8:(i:Int)<U.length:=J;have Xy:(0:Int)<=i:=J;clear q0 q1 q2 q3;by_cases F:Z6 T=1
  ·have e1:(Z6 T != 1)=false:=pW;have hl:Hid (Zw=out):=by rw[Hid,<-YO.out];exact vZ uM
   have K:=ZQ.mk (Tryz.Builder_String_any w.heap.size w.heap.size out wr hB ZX.size);clear YO F cc hT;go_wp2_with (go_at_call 77;refine K.get.mono ?_;rintro e w1 ⟨rfl,bb⟩);go_ret;rw[hl.out];exact⟨rfl,bb.os.trans ZX.os,bb.tape.trans ZX.tape,bb.output.trans ZX.output,gZ ZX.size bb.size,λk I hn=>(bb.block k I).trans (ZX.block k I hn)⟩
  ·have e1:(Z6 T != 1)=true:=pW;have XB:i+1<U.length:=by
    rcases ib (i+1) U.length with q|q
    ·exact q
    ·have e:i=U.length-1:=J;rw[e]at hT;rw[hT]at F;exact absurd HL.out F
   obtain⟨anT,hU⟩:∃anT,anT=ZT U (i+1):=⟨_,rfl⟩;have d0:wr.cell? (O gt (i*4+4))=some (Y (Z6 anT)):=by
    have:=cc _ _ (Cr U (i+1) _ (Cs XB)).1;rw[<-hU,show(i+1)*4=i*4+4 by omega]at this;exact this
   have K1:=ZQ.mk (λlen cp (hl:2<=len)=>ae8 T anT gt (i*4) len cp hl wr c0 c2 d0)
   obtain⟨f,rfl⟩:∃g,f=g+1:=⟨f-1,J⟩;have aY:¬cap=i:=J;by_cases aK:SX T anT=true
   ·have bl:Z6 anT≠1:=by
     intro q;unfold SX at aK;rw[q]at aK;simp at aK
    have Ro:i+2<U.length:=by
     rcases ib (i+2) U.length with q|q
     ·exact q
     ·have e:i+1=U.length-1:=J;rw[e]at hU;rw[hU]at bl;exact absurd HL.out bl
    have hl:Hid (Uk U f (i+2) bf out=Zw):=by rw[Hid,<-YO.out];exact(vY uM (by rw[<-hT,<-hU];exact aK)).symm
    rw[aK]at K1;clear cc hT hU F aK bl YO;go_wp2_with (go_at_call 71;refine(K1.get _ _ J).mono ?_;rintro e w' ⟨rfl,Zf⟩;subst w');go_roundw
    case rel=>exact⟨i+2,f,bf,out,Ro,rfl,pQ,J,hl,J,hB,ZX⟩
    case measure=>simp[intOf];omega
   ·have bm:SX T anT=false:=by simpa using aK
    rw[bm]at K1;have hl:=vX (f:=f) (bf:=bf) (out:=out) uM (by rw[<-hT,<-hU];exact bm);rw[YO.out,<-hT]at hl;have aU:=HK.out i hi;rw[<-hT]at aU;have Ku:Hid ((UQ T).length<=2000):=aU.lit;obtain⟨SP,a7⟩:∃s:aA,s=⟨(UQ T).toArray⟩:=⟨_,rfl⟩;have N6:Hid (∀W,Sj W->aq 76 #[.agg #[Y (Z6 T),.string T.s,Y (ZW T),Y T.line]] W λe w'=>e=.returned (.string SP)/\aB W w'):=λW hW=>by rw[a7];exact ae7 T aU W hW
    have HSC:Hid (Lib.strCells SP=Lib.byteCells (UQ T)):=by rw[a7];simp[Hid,Lib.strCells,Lib.byteCells]
    have Yw:SP.size<=2000:=by have:=Ku.out;rw[a7];show(UQ T).toArray.size<=2000;simpa using this
    have Yc:w.heap.size<wr.heap.size:=by
     rcases hB with q|q
     ·exact q.lt
     ·exact q.lt
    have aI:wr.heap.size≠w.heap.size:=J;have aO:=J3 (r:=none) hB (di wr (.cells #[Y (Z6 T),.string T.s,Y (ZW T),Y T.line] 129) none);have U1:=ZX.trans (di wr (.cells #[Y (Z6 T),.string T.s,Y (ZW T),Y T.line] 129) none);have PU:=gp wr (.cells #[Y (Z6 T),.string T.s,Y (ZW T),Y T.line] 129);have bP:=Z0 PU 0 _ rfl;clear cc hT hU F aK bm YO aU a7 hB;by_cases a8:SE bf=true
    ·have cg:Hid (SE bf=true):=a8;clear a8;by_cases Uf:Z6 T=11
     ·have e11:(Z6 T==11)=true:=sM;have hl:Hid (Uk U f (i+1) (Z6 T) (out++[]++UQ T++[10])=Zw):=tG;clear Uf;go_wp2_with (first|(go_at_call 74;refine(GR w.heap.size w.heap.size _ 10 _ Xf qY ZU.size).mono ?_;rintro e w3 ⟨rfl,SI,aL⟩;have ZJ:=aL.low ZU;have bq:=aL.box WH aI;have bn:=Z0 bq 0 _ rfl)|(go_at_call 75;refine(I4 w.heap.size w.heap.size _ SP _ Za qq J ZZ.size).mono ?_;rintro e w2 ⟨rfl,Xf,V3⟩;have ZU:=V3.low ZZ;have WH:=V3.box WG aI;have bo:=Z0 WH 0 _ rfl)|(go_at_call 76;refine(N6.out _ (OH HT.out (λk I=>U1.block k I pG))).mono ?_;rintro e w1 ⟨rfl,aW⟩;have ZZ:=U1.trans aW;have WG:=XX PU (aM.1 PU).1 aW pG;have Za:=J3 (r:=none) aO aW)|(go_at_call 72;refine(IQ _ _).mono ?_;rw[cg.out];rintro e w' ⟨rfl,Zf⟩;subst w')|(go_at_call 71;refine(K1.get _ _ J).mono ?_;rintro e w' ⟨rfl,Zf⟩;subst w'))
      exact og
     ·have e11:(Z6 T==11)=false:=sM;have hl:Hid (Uk U f (i+1) (Z6 T) (out++[]++UQ T++[])=Zw):=tG;clear Uf;go_wp2_with (first|(go_at_call 75;refine(I4 w.heap.size w.heap.size _ SP _ Za qq J ZZ.size).mono ?_;rintro e w2 ⟨rfl,Xf,V3⟩;have ZU:=V3.low ZZ;have WH:=V3.box WG aI;have bo:=Z0 WH 0 _ rfl)|(go_at_call 76;refine(N6.out _ (OH HT.out (λk I=>U1.block k I pG))).mono ?_;rintro e w1 ⟨rfl,aW⟩;have ZZ:=U1.trans aW;have WG:=XX PU (aM.1 PU).1 aW pG;have Za:=J3 (r:=none) aO aW)|(go_at_call 72;refine(IQ _ _).mono ?_;rw[cg.out];rintro e w' ⟨rfl,Zf⟩;subst w')|(go_at_call 71;refine(K1.get _ _ J).mono ?_;rintro e w' ⟨rfl,Zf⟩;subst w'))
      exact oh
    ·have cg:Hid (SE bf=false):=by rw[Hid];simpa using a8
     clear a8;by_cases bg:SD (Z6 T)=true
     ·have cr:Hid (SD (Z6 T)=true):=bg;clear bg;by_cases Uf:Z6 T=11
      ·have e11:(Z6 T==11)=true:=sM;have hl:Hid (Uk U f (i+1) (Z6 T) (out++[]++UQ T++[10])=Zw):=qx;clear Uf;go_wp2_with (first|(go_at_call 74;refine(GR w.heap.size w.heap.size _ 10 _ Xf qY ZU.size).mono ?_;rintro e w3 ⟨rfl,SI,aL⟩;have ZJ:=aL.low ZU;have bq:=aL.box WH aI;have bn:=Z0 bq 0 _ rfl)|(go_at_call 75;refine(I4 w.heap.size w.heap.size _ SP _ Za qq J ZZ.size).mono ?_;rintro e w2 ⟨rfl,Xf,V3⟩;have ZU:=V3.low ZZ;have WH:=V3.box WG aI;have bo:=Z0 WH 0 _ rfl)|(go_at_call 76;refine(N6.out _ (OH HT.out (λk I=>U1.block k I pG))).mono ?_;rintro e w1 ⟨rfl,aW⟩;have ZZ:=U1.trans aW;have WG:=XX PU (aM.1 PU).1 aW pG;have Za:=J3 (r:=none) aO aW)|(go_at_call 73;refine(Et _ _).mono ?_;rw[cr.out];rintro e w' ⟨rfl,Zf⟩;subst w')|(go_at_call 72;refine(IQ _ _).mono ?_;rw[cg.out];rintro e w' ⟨rfl,Zf⟩;subst w')|(go_at_call 71;refine(K1.get _ _ J).mono ?_;rintro e w' ⟨rfl,Zf⟩;subst w'))
       exact og
      ·have e11:(Z6 T==11)=false:=sM;have hl:Hid (Uk U f (i+1) (Z6 T) (out++[]++UQ T++[])=Zw):=qx;clear Uf;go_wp2_with (first|(go_at_call 75;refine(I4 w.heap.size w.heap.size _ SP _ Za qq J ZZ.size).mono ?_;rintro e w2 ⟨rfl,Xf,V3⟩;have ZU:=V3.low ZZ;have WH:=V3.box WG aI;have bo:=Z0 WH 0 _ rfl)|(go_at_call 76;refine(N6.out _ (OH HT.out (λk I=>U1.block k I pG))).mono ?_;rintro e w1 ⟨rfl,aW⟩;have ZZ:=U1.trans aW;have WG:=XX PU (aM.1 PU).1 aW pG;have Za:=J3 (r:=none) aO aW)|(go_at_call 73;refine(Et _ _).mono ?_;rw[cr.out];rintro e w' ⟨rfl,Zf⟩;subst w')|(go_at_call 72;refine(IQ _ _).mono ?_;rw[cg.out];rintro e w' ⟨rfl,Zf⟩;subst w')|(go_at_call 71;refine(K1.get _ _ J).mono ?_;rintro e w' ⟨rfl,Zf⟩;subst w'))
       exact oh
     ·have cr:Hid (SD (Z6 T)=false):=by rw[Hid];simpa using bg
      clear bg;by_cases Uf:Z6 T=11
      ·have e11:(Z6 T==11)=true:=sM;have hl:Hid (Uk U f (i+1) (Z6 T) (out++[32]++UQ T++[10])=Zw):=qx;clear Uf;go_wp2_with (first|(go_at_call 74;refine(GR w.heap.size w.heap.size _ 10 _ SI qY ZJ.size).mono ?_;rintro e w4 ⟨rfl,Ra,bc⟩;have Xr:=bc.low ZJ;have a6:=bc.box bq aI;have bQ:=Z0 a6 0 _ rfl)|(go_at_call 75;refine(I4 w.heap.size w.heap.size _ SP _ Xf qq J ZU.size).mono ?_;rintro e w3 ⟨rfl,SI,aL⟩;have ZJ:=aL.low ZU;have bq:=aL.box WH aI;have bn:=Z0 bq 0 _ rfl)|(go_at_call 76;refine(N6.out _ (OH HT.out (λk I=>ZZ.block k I pG))).mono ?_;rintro e w2 ⟨rfl,bj⟩;have ZU:=ZZ.trans bj;have WH:=XX WG (aM.1 WG).1 bj pG;have Xf:=J3 (r:=none) Za bj)|(go_at_call 74;refine(GR w.heap.size w.heap.size (Lib.byteCells out) 32 _ aO qq U1.size).mono ?_;rintro e w1 ⟨rfl,Za,Vo⟩;have ZZ:=Vo.low U1;have WG:=Vo.box PU aI;have bC:=Z0 WG 0 _ rfl;have bH:=Z0 WG 1 _ rfl;have bJ:=Z0 WG 2 _ rfl;have bK:=Z0 WG 3 _ rfl)|(go_at_call 73;refine(Et _ _).mono ?_;rw[cr.out];rintro e w' ⟨rfl,Zf⟩;subst w')|(go_at_call 72;refine(IQ _ _).mono ?_;rw[cg.out];rintro e w' ⟨rfl,Zf⟩;subst w')|(go_at_call 71;refine(K1.get _ _ J).mono ?_;rintro e w' ⟨rfl,Zf⟩;subst w'))
       go_roundw
       case rel=>
        refine⟨i+1,f,Z6 T,(out++[32]++UQ T++[10]),XB,rfl,pQ,J,hl,?_,?_,Xr⟩
        ·have:=Ku.out;simp;omega
        ·have e:=Ra;exact jM
       case measure=>simp[intOf];omega
      ·have e11:(Z6 T==11)=false:=sM;have hl:Hid (Uk U f (i+1) (Z6 T) (out++[32]++UQ T++[])=Zw):=qx;clear Uf;go_wp2_with (first|(go_at_call 75;refine(I4 w.heap.size w.heap.size _ SP _ Xf qq J ZU.size).mono ?_;rintro e w3 ⟨rfl,SI,aL⟩;have ZJ:=aL.low ZU;have bq:=aL.box WH aI;have bn:=Z0 bq 0 _ rfl)|(go_at_call 76;refine(N6.out _ (OH HT.out (λk I=>ZZ.block k I pG))).mono ?_;rintro e w2 ⟨rfl,bj⟩;have ZU:=ZZ.trans bj;have WH:=XX WG (aM.1 WG).1 bj pG;have Xf:=J3 (r:=none) Za bj)|(go_at_call 74;refine(GR w.heap.size w.heap.size (Lib.byteCells out) 32 _ aO qq U1.size).mono ?_;rintro e w1 ⟨rfl,Za,Vo⟩;have ZZ:=Vo.low U1;have WG:=Vo.box PU aI;have bC:=Z0 WG 0 _ rfl;have bH:=Z0 WG 1 _ rfl;have bJ:=Z0 WG 2 _ rfl;have bK:=Z0 WG 3 _ rfl)|(go_at_call 73;refine(Et _ _).mono ?_;rw[cr.out];rintro e w' ⟨rfl,Zf⟩;subst w')|(go_at_call 72;refine(IQ _ _).mono ?_;rw[cg.out];rintro e w' ⟨rfl,Zf⟩;subst w')|(go_at_call 71;refine(K1.get _ _ J).mono ?_;rintro e w' ⟨rfl,Zf⟩;subst w'))
       go_roundw
       case rel=>
        refine⟨i+1,f,Z6 T,(out++[32]++UQ T++[]),XB,rfl,pQ,J,hl,?_,?_,ZJ⟩
        ·have:=Ku.out;simp;omega
        ·have e:=SI;exact jM
       case measure=>simp[intOf];omega
end
variable {U:List ZY}
theorem Bt:YI RT:=⟨by show ByteArray.empty.size<=2000;decide,by simp[ZW,RT],by simp[ZW,RT]⟩
def mg{P:Prop}(h:P:=by
 obtain rfl:a=_:=by simpa using hm
 unfold XE;split
 ·exact⟨h _,h _⟩
 ·exact⟨h _,h _⟩):P:=h
theorem agQ (h:∀i,YI (ZT U i))(f:Nat):∀(acc:List XU) (S:ZK),(∀a∈acc,YI a.first/\YI a.name)->∀a∈(VH U f acc S).1,YI a.first/\YI a.name:=by
 induction f with
 |zero=>intro acc S ha;exact ha
 |succ f ih=>
  intro acc S ha;simp only[VH];split
  ·refine ih _ _ (λa hm=> ?_)
   rcases fE.1 hm with hm|hm
   ·exact ha a hm
   ·exact mg
  ·exact ha
theorem vW (h:∀i,YI (ZT U i))(S:ZK):∀a∈(Vw U S).1,YI a.first/\YI a.name:=by
 refine agQ h _ _ _ (λa hm=> ?_)
 exact mg
theorem agR (f:Nat):∀(acc:List XU) (S:ZK),acc.length<=(VH U f acc S).1.length/\(VH U f acc S).1.length<=acc.length+f:=by
 induction f with
 |zero=>intro acc S;simp[VH]
 |succ f ih=>
  intro acc S;simp only[VH];split
  ·have:=ih (acc++[(XE U (Z6 (ZT U S.1)==23) (ZM U [20,23] S)).1]) (XE U (Z6 (ZT U S.1)==23) (ZM U [20,23] S)).2;simp at this;omega
  ·simp
theorem agS {α:Type}{one:ZK->α×ZK}{P:α->Prop}(h:∀S,P (one S).1)(f:Nat):∀(acc:List α) (S:ZK),(∀a∈acc,P a)->∀a∈(VZ U one f acc S).1,P a:=by
 induction f with
 |zero=>intro acc S ha;exact ha
 |succ f ih=>
  intro acc S ha;simp only[VZ];split
  ·refine ih _ _ (λa hm=> ?_)
   rcases fE.1 hm with hm|hm
   ·exact ha a hm
   ·obtain rfl:a=_:=by simpa using hm
    exact h _
  ·exact ha
theorem Bq {α:Type}{one:ZK->α×ZK}{P:α->Prop}(h:∀S,P (one S).1)(S:ZK):∀a∈(Xg U one S).1,P a:=
 agS h _ _ _ (λa hm=>by obtain rfl:a=_:=(by simpa using hm);exact h _)
theorem agT {α:Type}{one:ZK->α×ZK}(f:Nat):∀(acc:List α) (S:ZK),acc.length<=(VZ U one f acc S).1.length/\(VZ U one f acc S).1.length<=acc.length+f:=by
 induction f with
 |zero=>intro acc S;simp[VZ]
 |succ f ih=>
  intro acc S;simp only[VZ];split
  ·have:=ih (acc++[(one (ZM U [13] S)).1]) (one (ZM U [13] S)).2;simp at this;omega
  ·simp
theorem Bo {α:Type}{one:ZK->α×ZK}(S:ZK):1<=(Xg U one S).1.length/\(Xg U one S).1.length<=1+U.length:=by
 have:=agT (U:=U) (one:=one) U.length [(one S).1] (one S).2;unfold Xg;simpa using this
theorem vU (S:ZK):1<=(Vw U S).1.length/\(Vw U S).1.length<=1+U.length:=by
 have:=agR (U:=U) U.length [(XE U false S).1] (XE U false S).2;unfold Vw;simpa using this
theorem F8 {α:Type}{l:List α}(h:1<=l.length):l≠[]:=by intro e;rw[e]at h;simp at h
theorem agU (h:∀i,YI (ZT U i))(S:ZK):YI (Xh U S).1.first/\YI (Xh U S).1.name:=by
 unfold Xh;split
 ·exact⟨h _,h _⟩
 ·exact⟨h _,h _⟩
theorem agV (hlen:U.length<=2001)(h:∀i,YI (ZT U i))(S:ZK)(I:WV.contains (Z6 (ZT U S.1))=true):NM (Yr U S).1:=by
 have Eg:Z6 (ZT U S.1)=4\/Z6 (ZT U S.1)=5\/Z6 (ZT U S.1)=6\/Z6 (ZT U S.1)=7\/Z6 (ZT U S.1)=8\/Z6 (ZT U S.1)=9\/Z6 (ZT U S.1)=10:=by
  simpa[WV]using I
 have nl:∀{P:ZY->Prop},∀a∈([]:List ZY),P a:=λa ha=>uC
 have nt:∀a∈([]:List XU),YI a.first/\YI a.name:=λa ha=>uC
 have aH:∀a∈([]:List Ud),YI a.first/\YI a.name:=λa ha=>uC
 unfold Yr;simp only;generalize XH:Z6 (ZT U S.1)=k at *;rcases Eg with rfl|rfl|rfl|rfl|rfl|rfl|rfl
 ·rw[iR rfl];exact⟨h _,λa ha=>by simp at ha;rcases ha with rfl|rfl<;>exact h _,nl,nt,aH,pG,pG,pG,pG,λ_=>⟨_,_,rfl⟩,λq=>by simp[XH]at q,λq=>by simp[XH]at q,λq=>by simp[XH]at q,λq=>by simp[XH]at q,λq=>by simp[XH]at q,by simp[XH]⟩
 ·rw[iQ pF,iR rfl];have hl:=Bo (U:=U) (one:=W8 U 3) (ZM U [18] (ZM U [14] (ZM U [2] (ZM U WV S))));exact⟨h _,Bq (P:=YI) (λS=>h _) _,nl,nt,aH,(by show(Xg U (W8 U 3) _).1.length<=3000;omega),pG,pG,pG,λq=>by simp[XH]at q,λ_=>F8 hl.1,λq=>by simp[XH]at q,λq=>by simp[XH]at q,λq=>by simp[XH]at q,λq=>by simp[XH]at q,by simp[XH]⟩
 ·rw[iQ pF,iQ pF,iQ pF,iR rfl];have hl:=vU (U:=U) (ZM U WV S);exact⟨Bt,λa ha=>by simp[Xe]at ha;rw[ha];exact h _,nl,vW h _,aH,by simp[Xe],by simp[Xe],tF,by simp[Xe],λq=>by simp[Xe,XH]at q,λq=>by simp[Xe,XH]at q,λ_=>⟨F8 hl.1,_,rfl⟩,λq=>by simp[Xe,XH]at q,λq=>by simp[Xe,XH]at q,λq=>by simp[Xe,XH]at q,by simp[Xe,XH]⟩
 ·rw[iQ pF,iQ pF,iR rfl];have hl:=vU (U:=U) (ZM U [12] (ZM U [2] (ZM U WV S)));exact⟨h _,λa ha=>by simp[Xe]at ha;rw[ha];exact h _,nl,vW h _,aH,by simp[Xe],by simp[Xe],tF,by simp[Xe],λq=>by simp[Xe,XH]at q,λq=>by simp[Xe,XH]at q,λ_=>⟨F8 hl.1,_,rfl⟩,λq=>by simp[Xe,XH]at q,λq=>by simp[Xe,XH]at q,λq=>by simp[Xe,XH]at q,by simp[Xe,XH]⟩
 ·rw[iQ pF,iQ pF,iQ pF,iQ pF,iR rfl];exact⟨h _,nl,λa ha=>by simp at ha;rcases ha with rfl|rfl<;>exact h _,nt,aH,pG,pG,pG,pG,λq=>by simp[XH]at q,λq=>by simp[XH]at q,λq=>by simp[XH]at q,λ_=>⟨_,_,rfl⟩,λq=>by simp[XH]at q,λq=>by simp[XH]at q,by simp[XH]⟩
 ·rw[iQ pF,iQ pF,iQ pF,iQ pF,iQ pF,iR rfl];have hl:=Bo (U:=U) (one:=W8 U 2) (ZM U WV S);exact⟨Bt,nl,Bq (P:=YI) (λS=>h _) _,nt,aH,pG,(by show(Xg U (W8 U 2) _).1.length<=3000;omega),pG,pG,λq=>by simp[XH]at q,λq=>by simp[XH]at q,λq=>by simp[XH]at q,λq=>by simp[XH]at q,λ_=>F8 hl.1,λq=>by simp[XH]at q,by simp[XH]⟩
 ·rw[iQ pF,iQ pF,iQ pF,iQ pF,iQ pF,iQ pF,iR rfl];have hl:=Bo (U:=U) (one:=Xh U) (ZM U WV S);exact⟨Bt,nl,nl,nt,Bq (P:=λa:Ud=>YI a.first/\YI a.name) (agU h) _,pG,pG,pG,(by show(Xg U (Xh U) _).1.length<=3000;omega),λq=>by simp[XH]at q,λq=>by simp[XH]at q,λq=>by simp[XH]at q,λq=>by simp[XH]at q,λq=>by simp[XH]at q,λ_=>F8 hl.1,by simp[XH]⟩
theorem vR (s:aA)(f:Nat):∀(i line:Nat) (acc:List ZY),line<=(Ym s f i line acc).2.2:=by
 induction f with
 |zero=>intro i line acc;simp[Ym]
 |succ f ih=>
  intro i line acc;simp only[Ym];split
  ·split
   ·have:=ih (i+1) (line+1) acc;omega
   ·split
    ·exact ih _ _ _
    ·split
     ·exact ih _ _ _
     ·split
      ·simp
      ·exact ih _ _ _
  ·simp
theorem D3 (s:aA)(i:Nat)(hi:i<(Y0 s).length):1<=(ZT (Y0 s) i).line:=by
 have key:∀t∈Y0 s,1<=t.line:=λt ht=>by
  rcases fE.1 ht with ht|ht
  ·exact yD s t ht
  ·obtain rfl:t=Qd (lex s).2.2:=sq;exact vR s s.size 0 1 []
 unfold ZT;rw[aN,aZ hi];exact key _ (eL hi)
theorem agW (hE:Ve U){S:ZK}(hi:S.1<U.length):(Yr U S).2.1<U.length:=by
 have T:∀{av:az} {S:ZK},av.contains 1=false->S.1<U.length->(ZM U av S).1<U.length:=λhs h=>Ur hE hs h
 have F:=T (av:=WV) rfl hi;have h2:=T (av:=[2]) rfl F;have h3:=T (av:=[12]) rfl h2;have L:∀(s:Xl) {S:ZK},S.1<U.length->(Xe U s S).2.1<U.length:=λs S h=>T rfl (T rfl (Ci hE h))
 unfold Yr;simp only;split
 ·exact T rfl (T rfl (T rfl h3))
 ·split
  ·exact T rfl (GU hE (λS h=>T rfl h) (T rfl (T rfl h2)))
  ·split
   ·exact L _ h3
   ·split
    ·exact L _ F
    ·split
     ·exact T rfl (T rfl (T rfl (T rfl (T rfl h2))))
     ·split
      ·exact GU hE (λS h=>T rfl h) F
      ·split
       ·exact GU hE (λS h=>(EF hE h).1) F
       ·exact F
theorem vQ (f:Nat):∀(acc:List Xl) (S:ZK),Uy S (TK U f acc S).2:=by
 induction f with
 |zero=>intro acc S;exact Uy.refl S
 |succ f ih=>
  intro acc S;simp only[TK];split
  ·exact(((UK U WV S).trans (GI U S)).trans (UK U [11] _)).trans (ih _ _)
  ·exact Uy.refl S
theorem agX (hL:∀i,i<U.length->1<=(ZT U i).line){S:ZK}(hi:S.1<U.length)(h0:S.2=0)(h:(ZM U WV S).2=0):WV.contains (Z6 (ZT U S.1))=true:=by
 unfold ZM at h;rw[iR h0]at h;by_cases c:WV.contains (Z6 (ZT U S.1))=true
 ·exact c
 ·rw[iQ c]at h;have:=hL S.1 hi;simp only at h;omega
theorem agY (hE:Ve U)(hL:∀i,i<U.length->1<=(ZT U i).line)(hT:∀i,YI (ZT U i))(f:Nat):∀(acc:List Xl) (S:ZK),S.1<U.length->(∀s∈acc,NM s)->(TK U f acc S).2.2=0->∀s∈(TK U f acc S).1,NM s:=by
 induction f with
 |zero=>intro acc S _ ha _;exact ha
 |succ f ih=>
  intro acc S hi ha hz;simp only[TK]at hz⊢;by_cases c:S.2=0/\Z6 (ZT U S.1)≠1
  ·rw[iR c]at hz⊢;have Zq:=(vQ f (acc++[(Yr U S).1]) (ZM U [11] (Yr U S).2)).2 hz;have Zn:=((GI U S).trans (UK U [11] _)).2 Zq;refine ih _ _ (Ur hE rfl (agW hE hi)) (λs hs=> ?_) hz
   rcases fE.1 hs with hs|hs
   ·exact ha s hs
   ·obtain rfl:s=(Yr U S).1:=by simpa using hs
    exact agV hE.len hT S (agX hL hi c.1 Zn)
  ·rw[iQ c];exact ha
theorem agZ (f:Nat):∀(acc:List Xl) (S:ZK),(TK U f acc S).1.length<=acc.length+f:=by
 induction f with
 |zero=>intro acc S;simp[TK]
 |succ f ih=>
  intro acc S;simp only[TK];split
  ·have:=ih (acc++[(Yr U S).1]) (ZM U [11] (Yr U S).2);simp at this;omega
  ·simp
theorem Bn (s:aA)(hs:s.size<=2000)(h:(Xc (Y0 s)).2.2=0):(∀x∈(Xc (Y0 s)).1,NM x)/\(Xc (Y0 s)).1.length<=2500:=by
 have hE:=IL s hs;refine⟨agY hE (D3 s) (BN s hs) _ [] (0,0) hE.pos (λx hx=>ue) h,?_⟩
 have:=agZ (U:=Y0 s) ((Y0 s).length+1) [] (0,0);have:=hE.len;unfold Xc;simp at *;omega
def J0 (t:ZY):Prop:=
 (t.kind=105/\Kr t.s)\/(t.kind=107/\Rm t.s=true)\/(t.kind=110/\Rm t.s=false/\Vp (ZI t.s 0)=true)\/(t.kind=115/\UN t.s≠0)
theorem ag0 (u:aA)(hu:0<u.size)(h0:(Zd u 0).1≠0)(line:Nat):J0 ⟨u.extract 0 (Zd u 0).1,(Zd u 0).2,line⟩:=by
 have Yw:=I9 u 0 hu;have r1:=RU Zk u (0+1);have r2:=RU YC u (0+1);unfold Zd at h0 Yw⊢;by_cases hn:U7 u 0=true
 ·rw[iR hn]at h0 Yw⊢;by_cases hl:10<Zt Zk u (0+1)-0
  ·exact mZ
  ·rw[iQ hl]at Yw⊢;exact .inl ⟨rfl,yu u _ Yw J hn rfl⟩
 ·rw[iQ hn]at h0 Yw⊢;by_cases hl:Vp (ZI u 0)=true
  ·rw[iR hl]at h0 Yw⊢;by_cases hb:8<Zt YC u (0+1)-0
   ·rw[iR hb]at h0;exact absurd rfl h0
   ·rw[iQ hb]at Yw⊢;simp only at Yw⊢;have e:ZI (u.extract 0 (Zt YC u (0+1))) 0=ZI u 0:=by
     have:=EK u 0 (Zt YC u (0+1)) 0 J Yw;simpa using this
    by_cases I:Rm (u.extract 0 (Zt YC u (0+1)))=true
    ·rw[iR I];exact .inr (.inl ⟨rfl,I⟩)
    ·rw[iQ I];exact .inr (.inr (.inl ⟨rfl,qz,by show Vp (ZI (u.extract 0 (Zt YC u (0+1))) 0)=true;rw[e];exact hl⟩))
  ·rw[iQ hl]at h0⊢;by_cases hz:Wh u 0=0
   ·rw[iR hz]at h0;exact absurd rfl h0
   ·rw[iQ hz];refine .inr (.inr (.inr ⟨rfl,?_⟩));show UN (u.extract 0 (0+Wh u 0))≠0;rw[ik];exact yo u hu hz
theorem ag1 (s:aA)(i:Nat)(hi:i<s.size)(h0:(Zd s i).1≠0)(line:Nat):J0 ⟨s.extract i (Zd s i).1,(Zd s i).2,line⟩:=by
 obtain⟨e1,e2,e3⟩:=yB s i hi;have hd:(Zd (s.extract i s.size) 0).1≠0:=λe=>h0 (e2 e)
 have hz:(s.extract i s.size).size=s.size-i:=Rk s i _ J (iw _);have Yw:=I9 s i hi;have h:=ag0 (s.extract i s.size) J hd line;rw[Cw s i _ J (by rw[<-e3 hd];exact Yw),<-e3 hd,<-e1]at h;exact h
theorem ag2 (s:aA)(f:Nat):∀(i line:Nat) (acc:List ZY),(∀t∈acc,J0 t)->∀t∈(Ym s f i line acc).2.1,J0 t:=by
 induction f with
 |zero=>intro i line acc h;exact h
 |succ f ih=>
  intro i line acc h;simp only[Ym];by_cases hi:i<s.size
  ·rw[iR hi];split
   ·exact ih _ _ _ h
   ·split
    ·exact ih _ _ _ h
    ·split
     ·exact ih _ _ _ h
     ·split
      ·intro t ht;simp at ht
      ·rename_i ZP;refine ih _ _ _ (λt ht=> ?_)
       rcases fE.1 ht with ht|ht
       ·exact h t ht
       ·obtain rfl:t=⟨s.extract i (Zd s i).1,(Zd s i).2,line⟩:=sq;exact ag1 s i hi ZP line
  ·rw[iQ hi];exact h
theorem vP (s:aA):∀t∈(lex s).2.1,J0 t:=ag2 s s.size 0 1 [] (λt ht=>tW)
def Tl (k:Int):List UInt8:=
 if k=4 then VJ else if k=5 then VK else if k=6 then VL else if k=7 then VI else if k=8 then VN else if k=9 then VM else if k=10 then Vy
 else if k=11 then VT else if k=12 then WJ else if k=13 then XQ else if k=14 then Xo else if k=15 then VA else if k=16 then VB else if k=17 then Wa
 else if k=18 then WN else if k=19 then W9 else if k=20 then Vg else if k=21 then Vz else if k=22 then VU else Vh
structure PT (t:ZY):Prop where
 int:t.kind=105↔Z6 t=3
 nam:t.kind=110↔Z6 t=2
 MO:t.kind=107↔4<=Z6 t/\Z6 t<=10
 eof:t.kind=101↔Z6 t=1
 Uw:∀k:Int,4<=k->k<=23->(t.s.toList=Tl k↔Z6 t=k)
theorem vO (s:aA)(c:Int)(h:ZI s 0=c)(hc:c<256):∃b l,s.toList=b::l/\(b.toNat:Int)=c:=by
 rw[cP];rw[Cz]at h
 cases hl:s.data.toList with
 |nil=>rw[hl]at h;simp at h;omega
 |cons b l=>rw[hl]at h;simp at h;exact⟨b,l,rfl,h⟩
theorem ag3 (s:aA)(h:Rm s=true):4<=Ta s/\Ta s<=10/\s.toList=Tl (Ta s):=by
 unfold Rm at h;unfold Ta
 repeat' split
 all_goals simp_all [Tl,VJ,VK,VL,VI,VN,VM,Vy]
theorem ag4 (s:aA)(h:Rm s=false):Ta s=2:=by
 unfold Rm at h;unfold Ta
 repeat' split
 all_goals simp_all
theorem vN (s:aA)(h:UN s≠0):11<=UN s/\UN s<=23/\s.toList=Tl (UN s):=by
 by_cases c0:UN s=0
 ·exact absurd c0 h
 clear h;revert c0;unfold UN;by_cases c1:(s.toList==[59])=true
 ·simp only[c1,iP];intro _;exact⟨pF,pF,by rw[iH c1];rfl⟩
 rw[iQ c1];by_cases c2:(s.toList==[58])=true
 ·simp only[c2,iP];intro _;exact⟨pF,pF,by rw[iH c2];rfl⟩
 rw[iQ c2];by_cases c3:(s.toList==[44])=true
 ·simp only[c3,iP];intro _;exact⟨pF,pF,by rw[iH c3];rfl⟩
 rw[iQ c3];by_cases c4:(s.toList==[61])=true
 ·simp only[c4,iP];intro _;exact⟨pF,pF,by rw[iH c4];rfl⟩
 rw[iQ c4];by_cases c5:(s.toList==[33,61])=true
 ·simp only[c5,iP];intro _;exact⟨pF,pF,by rw[iH c5];rfl⟩
 rw[iQ c5];by_cases c6:(s.toList==[60,61])=true
 ·simp only[c6,iP];intro _;exact⟨pF,pF,by rw[iH c6];rfl⟩
 rw[iQ c6];by_cases c7:(s.toList==[46,46])=true
 ·simp only[c7,iP];intro _;exact⟨pF,pF,by rw[iH c7];rfl⟩
 rw[iQ c7];by_cases c8:(s.toList==[91])=true
 ·simp only[c8,iP];intro _;exact⟨pF,pF,by rw[iH c8];rfl⟩
 rw[iQ c8];by_cases c9:(s.toList==[93])=true
 ·simp only[c9,iP];intro _;exact⟨pF,pF,by rw[iH c9];rfl⟩
 rw[iQ c9];by_cases ba:(s.toList==[43])=true
 ·simp only[ba,iP];intro _;exact⟨pF,pF,by rw[iH ba];rfl⟩
 rw[iQ ba];by_cases c11:(s.toList==[42])=true
 ·simp only[c11,iP];intro _;exact⟨pF,pF,by rw[iH c11];rfl⟩
 rw[iQ c11];by_cases c12:(s.toList==[33])=true
 ·simp only[c12,iP];intro _;exact⟨pF,pF,by rw[iH c12];rfl⟩
 rw[iQ c12];by_cases c13:(s.toList==[45])=true
 ·simp only[c13,iP];intro _;exact⟨pF,pF,by rw[iH c13];rfl⟩
 rw[iQ c13];intro h;exact absurd rfl h
theorem F7 {p:Int->Prop}(h4:p 4)(h5:p 5)(h6:p 6)(h7:p 7)(h8:p 8)(h9:p 9)(XP:p 10)(Uf:p 11)(MU:p 12)(TZ:p 13)(bD:p 14)(bG:p 15)(bI:p 16)(MH:p 17)(MG:p 18)(JZ:p 19)(aQ:p 20)(aJ:p 21)(bR:p 22)(aS:p 23):∀k:Int,4<=k->k<=23->p k:=by
 intro k F h2;have:k=4\/k=5\/k=6\/k=7\/k=8\/k=9\/k=10\/k=11\/k=12\/k=13\/k=14\/k=15\/k=16\/k=17\/k=18\/k=19\/k=20\/k=21\/k=22\/k=23:=J;rcases this with rfl|rfl|rfl|rfl|rfl|rfl|rfl|rfl|rfl|rfl|rfl|rfl|rfl|rfl|rfl|rfl|rfl|rfl|rfl|rfl<;>assumption
def JY (l:List UInt8):Nat:=match l with|[]=>0|b::_=>b.toNat
def lC{P:Prop}(h:P:=by
 refine F7 ?_ ?_ ?_ ?_ ?_ ?_ ?_ ?_ ?_ ?_ ?_ ?_ ?_ ?_ ?_ ?_ ?_ ?_ ?_ ?_<;>decide):P:=h
theorem Bl:∀k:Int,4<=k->k<=23->(k<=10/\97<=JY (Tl k))\/(11<=k/\JY (Tl k)<97/\(JY (Tl k)<48\/57<JY (Tl k))/\(JY (Tl k)=45->(Tl k).length=1)):=by
 exact lC
theorem ag5:∀k:Int,4<=k->k<=23->∀j:Int,4<=j->j<=23->Tl k=Tl j->k=j:=by
 refine F7 ?_ ?_ ?_ ?_ ?_ ?_ ?_ ?_ ?_ ?_ ?_ ?_ ?_ ?_ ?_ ?_ ?_ ?_ ?_ ?_<;>refine F7 ?_ ?_ ?_ ?_ ?_ ?_ ?_ ?_ ?_ ?_ ?_ ?_ ?_ ?_ ?_ ?_ ?_ ?_ ?_ ?_<;>decide
theorem ag6 (s:aA):s.toList.length=s.size:=by rw[cP,cO];rfl
theorem ag7 (s:aA)(k:Int)(F:4<=k)(h2:k<=10)(h:s.toList=Tl k):Rm s=true:=by
 unfold Rm;rw[h];have:k=4\/k=5\/k=6\/k=7\/k=8\/k=9\/k=10:=J;rcases this with rfl|rfl|rfl|rfl|rfl|rfl|rfl<;>decide
def kJ{P:Prop}(h:P:=by
 refine⟨by simp[I];omega,by simp[I];omega,by simp[I];omega,by simp[I];omega,λk F h2=>⟨λhb=> ?_,λq=> ?_⟩⟩
 ·rw[e];exact ag5 _ J J k F h2 (a3.symm.trans hb)
 ·rw[<-q,e];exact a3):P:=h
theorem DZ {t:ZY}(h:J0 t):PT t:=by
 rcases h with⟨I,h⟩|⟨I,h⟩|⟨I,h,h'⟩|⟨I,h⟩
 ·have e:Z6 t=3:=by simp[Z6,I]
  refine⟨by simp[I,e],by simp[I,e],by simp[I,e],by simp[I,e],λk F h2=>⟨λhb=> ?_,λq=>J⟩⟩
  exfalso
  have hh:=Bl k F h2;rw[<-hb]at hh;obtain⟨b,l,hl,SM⟩:=vO t.s (ZI t.s 0) rfl (CF h.2.1);rw[hl]at hh;simp only[JY]at hh;have hlen:=ag6 t.s;rw[hl]at hlen;simp at hlen;rcases h.1 with q|⟨q,q2⟩
  ·simp[Zk]at q;simp only[eM]at hh;omega
  ·simp only[eM]at hh;omega
 ·obtain⟨a1,a2,a3⟩:=ag3 t.s h;have e:Z6 t=Ta t.s:=by simp[Z6,I]
  exact kJ
 ·have e:Z6 t=2:=by simp[Z6,I,ag4 t.s h]
  refine⟨by simp[I,e],by simp[I,e],by simp[I,e],by simp[I,e],λk F h2=>⟨λhb=> ?_,λq=>J⟩⟩
  exfalso
  have hh:=Bl k F h2;rcases hh with⟨q,_⟩|⟨q,q2,_⟩
  ·rw[ag7 t.s k F q hb]at h;cases h
  ·rw[<-hb]at q2;have ZR:ZI t.s 0<256:=by simp[Vp]at h';omega
   obtain⟨b,l,hl,SM⟩:=vO t.s (ZI t.s 0) rfl ZR;rw[hl]at q2;simp only[JY]at q2;simp[Vp]at h';omega
 ·obtain⟨a1,a2,a3⟩:=vN t.s h;have e:Z6 t=UN t.s:=by simp[Z6,I]
  exact kJ
theorem ag8:PT Sy:=by
 have e:Z6 Sy=1:=by simp[Z6,Sy]
 have hn:Sy.s.toList=[]:=Ch;refine⟨by rw[e];simp[Sy],by rw[e];simp[Sy],by rw[e];simp[Sy],by rw[e];simp[Sy],λk F h2=>⟨λhb=> ?_,λq=>J⟩⟩
 exfalso
 have hh:=Bl k F h2;rw[<-hb,hn]at hh;revert k;refine F7 ?_ ?_ ?_ ?_ ?_ ?_ ?_ ?_ ?_ ?_ ?_ ?_ ?_ ?_ ?_ ?_ ?_ ?_ ?_ ?_<;>(intro hb _;rw[hn]at hb;revert hb;decide)
variable {T:List ZY}{L:Nat}
structure Cut (T:List ZY)(L:Nat):Prop where
 kind:∀t∈T,J0 t
 line:∀t∈T,1<=t.line
 last:1<=L
def pt (T:List ZY)(L:Nat):List ZY:=T++[Qd L]
def JX (t:ZY):Int:=if t.kind=101 then-1 else(t.line:Int)
def Lp (L:Nat)(R:Int):Int:=if R<0 then(L:Int)else R
theorem Iu {i:Nat}(h:i<T.length):ZT (pt T L) i=T[i]:=by
 unfold ZT pt;simp[aN,aT h,h]
theorem DY:ZT (pt T L) T.length=Qd L:=by
 unfold ZT pt;simp[aN]
theorem Bk {i:Nat}(h:i<T.length):Yk (T.drop i)=T[i]:=by
 unfold Yk;rw[aR h];rfl
theorem ag9:Yk (T.drop T.length)=Sy:=by
 unfold Yk;simp
theorem MF (hC:Cut T L){i:Nat}(hi:i<=T.length):PT (Yk (T.drop i))/\Z6 (Yk (T.drop i))=Z6 (ZT (pt T L) i)/\JX (Yk (T.drop i))≠0/\Lp L (JX (Yk (T.drop i)))=((ZT (pt T L) i).line:Int)/\1<=(ZT (pt T L) i).line:=by
 rcases ib i T.length with h|h
 ·rw[Bk h,Iu h];have I:=DZ (hC.kind _ (eL h));have hl:=hC.line _ (eL h);have ZP:T[i].kind≠101:=by
   intro e;rcases hC.kind _ (eL h)with q|q|q|q<;>omega
  refine⟨I,rfl,?_,?_,hl⟩
  ·unfold JX;rw[iQ ZP];omega
  ·unfold JX Lp;rw[iQ ZP,iQ J]
 ·obtain rfl:i=T.length:=J;rw[ag9,DY];refine⟨ag8,?_,?_,?_,hC.last⟩
  ·rw[IM];simp[Z6,Sy]
  ·unfold JX Sy;simp
  ·unfold JX Sy Lp Qd;simp
def ZH (k:Int):List UInt8:=if k=2 then Zg else if k=3 then Y3 else Tl k
theorem vM {p:Int->Prop}(h2:p 2)(h3:p 3)(h:∀k:Int,4<=k->k<=23->p k):∀k:Int,2<=k->k<=23->p k:=by
 intro k a b;rcases(by omega:k=2\/k=3\/4<=k)with rfl|rfl|c
 ·exact h2
 ·exact h3
 ·exact h k c b
theorem aha (kd:Int)(ts:List UInt8):∀k:Int,2<=k->k<=23->Yx (ZH k) kd ts=none:=by
 refine vM ?_ ?_ (F7 ?_ ?_ ?_ ?_ ?_ ?_ ?_ ?_ ?_ ?_ ?_ ?_ ?_ ?_ ?_ ?_ ?_ ?_ ?_ ?_)<;>
  (unfold Yx;rw[iQ pF,iQ pF,iQ pF,iQ pF,iQ pF,iQ pF,iQ pF,iQ pF,iQ pF,iQ pF])
theorem ahb:∀k:Int,4<=k->k<=23->Tl k≠Y3:=by
 exact lC
theorem ahc:∀k:Int,4<=k->k<=23->Tl k≠Zg:=by
 exact lC
theorem ahd {t:ZY}(h:PT t):∀k:Int,2<=k->k<=23->fits (ZH k) t=decide (Z6 t=k):=by
 refine vM ?_ ?_ ?_
 ·unfold fits;rw[iQ pF,iR pF];exact fe.2 h.nam
 ·unfold fits;rw[iR pF];exact fe.2 h.int
 ·intro k a b;have e:ZH k=Tl k:=by unfold ZH;rw[iQ J,iQ J]
  have n1:Tl k≠Y3:=ahb k a b;have n2:Tl k≠Zg:=ahc k a b;have hb:=h.Uw k a b;unfold fits;rw[e,iQ n1,iQ n2];by_cases c:Z6 t=k
  ·have I:t.kind≠101:=λq=>by have:=h.eof.1 q;omega
   rw[gj c,hb.2 c];simpa using I
  ·have:¬Tl k=t.s.toList:=λq=>c (hb.1 q.symm)
   rw[fQ c];simp[this]
def Run (T:List ZY)(k:Nat)(want:List (List UInt8))(i j:Nat):Prop:=∀f rest,Vl (f+k) (want++rest) (T.drop i)=Vl f rest (T.drop j)
def Bad (T:List ZY)(k:Nat)(want:List (List UInt8))(i:Nat)(R:Int):Prop:=∀f rest,Vl (f+k) (want++rest) (T.drop i)=some R
def Y4 (T:List ZY)(L:Nat)(d D:Int)(want:List (List UInt8))(i:Nat)(S:ZK):Prop:=
 (S.2=0/\i<=S.1/\S.1<=T.length/\∃k:Nat,(k:Int)<=50*((S.1:Int)-i)+d/\Run T k want i S.1)\/
 (S.2≠0/\∃(k:Nat) (R:Int),(k:Int)<=50*((T.length:Int)-i)+D/\R≠0/\Lp L R=S.2/\Bad T k want i R)
theorem Y4.seq {d1 d2 D1 D2 d D:Int}{a b:List (List UInt8)}{i:Nat}{S S':ZK}(F:Y4 T L d1 D1 a i S)(h2:S.2=0->S.1<=T.length->Y4 T L d2 D2 b S.1 S')(h3:S.2≠0->S'=S)(hd:d1+d2<=d)(dh:D1<=D)(br:d1+D2<=D):Y4 T L d D (a++b) i S':=by
 rcases F with⟨e,hi,hn,k,I,hr⟩|⟨e,k,R,I,hR,hf,hb⟩
 ·rcases h2 e hn with⟨e',P8,bp,k',aC,bk⟩|⟨e',k',R,aC,hR,hf,hb⟩
  ·refine .inl ⟨e',J,bp,k'+k,J,λf rest=> ?_⟩
   rw[<-gI,dN,hr,bk]
  ·refine .inr ⟨e',k'+k,R,J,hR,hf,λf rest=> ?_⟩
   rw[<-gI,dN,hr,hb]
 ·rw[h3 e];refine .inr ⟨e,k,R,J,hR,hf,λf rest=> ?_⟩
  rw[dN,hb]
theorem Y4.le {d D d' D':Int}{a:List (List UInt8)}{i:Nat}{S:ZK}(h:Y4 T L d D a i S)(hd:d<=d')(hD:D<=D'):Y4 T L d' D' a i S:=by
 rcases h with⟨e,hi,hn,k,I,hr⟩|⟨e,k,R,I,hR,hf,hb⟩
 ·exact .inl ⟨e,hi,hn,k,J,hr⟩
 ·exact .inr ⟨e,k,R,J,hR,hf,hb⟩
theorem Y4.expand {d D d' D':Int}{y:List UInt8}{next:List (List UInt8)}{i:Nat}{S:ZK}(hb:Yx y (Yk (T.drop i)).kind (Yk (T.drop i)).s.toList=some next)(h:Y4 T L d D next i S)(hd:d+1<=d')(hD:D+1<=D'):Y4 T L d' D' [y] i S:=by
 have key:∀f rest,Vl (f+1) ([y]++rest) (T.drop i)=Vl f (next++rest) (T.drop i):=λf rest=>ID hb
 rcases h with⟨e,hi,hn,k,I,hr⟩|⟨e,k,R,I,hR,hf,hb⟩
 ·exact .inl ⟨e,hi,hn,k+1,J,λf rest=>by rw[<-gI,key,hr]⟩
 ·exact .inr ⟨e,k+1,R,J,hR,hf,λf rest=>by rw[<-gI,key,hb]⟩
theorem ahe {S:ZK}(h0:S.2=0)(hi:S.1<=T.length):Y4 T L 0 0 [] S.1 S:=.inl ⟨h0,iw _,hi,0,J,λf rest=>rfl⟩
theorem NA (hC:Cut T L)(k:Int)(h2:2<=k)(aS:k<=23)(av:az){S:ZK}(hs:av.contains (Z6 (ZT (pt T L) S.1))=decide (Z6 (ZT (pt T L) S.1)=k))(h0:S.2=0)(hi:S.1<=T.length):Y4 T L (-49) 1 [ZH k] S.1 (ZM (pt T L) av S):=by
 obtain⟨ho,aa,aX,bE,RP⟩:=MF hC hi;have hn:=aha (Yk (T.drop S.1)).kind (Yk (T.drop S.1)).s.toList k h2 aS;have hf:=ahd ho k h2 aS;rw[aa,<-hs]at hf;unfold ZM;rw[iR h0];by_cases c:av.contains (Z6 (ZT (pt T L) S.1))=true
 ·rw[iR c];rw[c]at hf;have ZR:S.1<T.length:=by
   rcases ib S.1 T.length with q|q
   ·exact q
   ·have e:S.1=T.length:=J;rw[c,e,DY,IM]at hs;have:=ew hs.symm;omega
  refine .inl ⟨rfl,ix _,ZR,1,by simp;omega,λf rest=> ?_⟩
  show Vl (f+1) (ZH k::rest) _=_;rw[wU hn hf,fZ]
 ·rw[iQ c];rw[Bool.eq_false_iff.2 c]at hf;refine .inr ⟨by simp only;omega,1,JX (Yk (T.drop S.1)),J,aX,bE,λf rest=> ?_⟩
  show Vl (f+1) (ZH k::rest) _=_;rw[wT hn hf];rfl
theorem JW (hC:Cut T L)(k:Int)(h2:2<=k)(aS:k<=23){S:ZK}(h0:S.2=0)(hi:S.1<=T.length):Y4 T L (-49) 1 [ZH k] S.1 (ZM (pt T L) [k] S):=
 NA hC k h2 aS [k] pG h0 hi
theorem VY {U:List ZY}{av:az}{S:ZK}(h:S.2≠0):ZM U av S=S:=by unfold ZM;rw[iQ h]
theorem Bj {U:List ZY}{neg:Bool}{S:ZK}(h:S.2≠0):(XE U neg S).2=S:=by
 unfold XE;split
 ·simp only[VY h]
 ·simp only[VY h]
theorem vK {U:List ZY}{S:ZK}(h:S.2≠0):(Xh U S).2=S:=by
 unfold Xh;split
 ·simp only[VY h]
 ·simp only[VY h]
theorem vJ {U:List ZY}{k:Int}{S:ZK}(h:S.2≠0):XZ U k S=false:=by unfold XZ;simp[h]
theorem DX {U:List ZY}{f:Nat}{acc:List XU}{S:ZK}(h:S.2≠0):VH U f acc S=(acc,S):=by
 cases f with
 |zero=>rfl
 |succ f=>simp[VH,vJ h]
theorem DW {α:Type}{U:List ZY}{one:ZK->α×ZK}{f:Nat}{acc:List α}{S:ZK}(h:S.2≠0):VZ U one f acc S=(acc,S):=by
 cases f with
 |zero=>rfl
 |succ f=>simp[VZ,vJ h]
theorem ahf {U:List ZY}{S:ZK}(h:S.2≠0):(Vw U S).2=S:=by
 unfold Vw;rw[DX (by rw[Bj h];exact h),Bj h]
theorem Bi {α:Type}{U:List ZY}{one:ZK->α×ZK}(ah:∀S:ZK,S.2≠0->(one S).2=S){S:ZK}(h:S.2≠0):(Xg U one S).2=S:=by
 unfold Xg;rw[DW (by rw[ah S h];exact h),ah S h]
theorem vI (hC:Cut T L)(neg:Bool){S:ZK}(h0:S.2=0)(hi:S.1<=T.length):Y4 T L (-48) 2 [WM] S.1 (XE (pt T L) neg S).2:=by
 obtain⟨ho,aa,-⟩:=MF hC hi;unfold XE;by_cases c:Z6 (ZT (pt T L) S.1)=3
 ·rw[iR c];have I:(Yk (T.drop S.1)).kind=105:=ho.int.2 (aa.trans c);refine Y4.expand (next:=[Y3,Vz,Zg]) pM (d:=-49) (D:=1) ?_ pF pF
  refine Y4.seq (a:=[Y3]) (b:=[Vz,Zg]) (NA hC 3 pF pF [3,2] uR h0 hi) (λe hn=> ?_) (λe=>by simp only[VY e]) (d2:=-98) (D2:=1) pF pF pF
  exact Y4.seq (a:=[Vz]) (b:=[Zg]) (JW hC 21 pF pF e hn) (λe hn=>JW hC 2 pF pF e hn) (λe=>VY e) pF pF pF
 ·rw[iQ c];have I:¬(Yk (T.drop S.1)).kind=105:=λq=>c (aa.symm.trans (ho.int.1 q))
  refine Y4.expand (next:=[Zg]) (by unfold Yx;rw[iQ pF,iQ pF,iQ pF,iQ pF,iQ pF,iQ pF,iQ pF,iQ pF,iR rfl,iQ I]) (d:=-49) (D:=1) ?_ pF pF
  exact NA hC 2 pF pF [3,2] (by simp[c]) h0 hi
theorem ahg (hC:Cut T L){S:ZK}(h0:S.2=0)(hi:S.1<=T.length):Y4 T L (-48) 2 [Wz] S.1 (Xh (pt T L) S).2:=by
 obtain⟨ho,aa,-⟩:=MF hC hi;have hb:=ho.Uw 22 pF pF;rw[aa]at hb;unfold Xh;by_cases c:Z6 (ZT (pt T L) S.1)=22
 ·rw[iR c];have Xm:(Yk (T.drop S.1)).s.toList=VU:=hb.2 c;refine Y4.expand (next:=[VU,Zg]) (by rw[Xm];rfl) (d:=-49) (D:=1) ?_ pF pF
  exact Y4.seq (a:=[VU]) (b:=[Zg]) (NA hC 22 pF pF [22,2] uR h0 hi) (λe hn=>JW hC 2 pF pF e hn) (λe=>VY e) pF pF pF
 ·rw[iQ c];have Xm:¬(Yk (T.drop S.1)).s.toList=VU:=λq=>c (hb.1 q)
  refine Y4.expand (next:=[Zg]) (by unfold Yx;rw[iQ pF,iQ pF,iQ pF,iQ pF,iQ pF,iR rfl,iQ Xm]) (d:=-49) (D:=1) ?_ pF pF
  exact NA hC 2 pF pF [22,2] (by simp[c]) h0 hi
theorem ahh (hC:Cut T L){S:ZK}(h0:S.2=0)(hi:S.1<=T.length):Y4 T L (-48) 2 [Vx] S.1 (ZM (pt T L) [14,15,16] S):=by
 obtain⟨ho,aa,-⟩:=MF hC hi;have bt:=ho.Uw 15 pF pF;have bu:=ho.Uw 16 pF pF;rw[aa]at bt bu;by_cases c:Z6 (ZT (pt T L) S.1)=15
 ·have Xm:(Yk (T.drop S.1)).s.toList=VA:=bt.2 c;exact Y4.expand (next:=[VA]) (by rw[Xm];rfl) (NA hC 15 pF pF [14,15,16] uR h0 hi) pF pF
 by_cases c':Z6 (ZT (pt T L) S.1)=16
 ·have Xm:(Yk (T.drop S.1)).s.toList=VB:=bu.2 c';exact Y4.expand (next:=[VB]) (by rw[Xm];rfl) (NA hC 16 pF pF [14,15,16] (by rw[c'];rfl) h0 hi) pF pF
 have Xm:¬((Yk (T.drop S.1)).s.toList=VA\/(Yk (T.drop S.1)).s.toList=VB):=λq=>by
  rcases q with q|q
  ·exact c (bt.1 q)
  ·exact c' (bu.1 q)
 refine Y4.expand (next:=[Xo]) (by unfold Yx;rw[iQ pF,iQ pF,iQ pF,iQ pF,iQ pF,iQ pF,iQ pF,iQ pF,iQ pF,iR rfl,iQ Xm]) (d:=-49) (D:=1) ?_ pF pF
 exact NA hC 14 pF pF [14,15,16] (by simp[c,c']) h0 hi
theorem ahi (hC:Cut T L)(f:Nat):∀(acc:List XU) (S:ZK),S.2=0->S.1<=T.length->T.length-S.1<f->Y4 T L (-47) 3 [WX] S.1 (ZM (pt T L) [14,15,16] (VH (pt T L) f acc S).2):=by
 induction f with
 |zero=>intro acc S _ _ h;omega
 |succ f ih=>
  intro acc S h0 hi hf;obtain⟨ho,aa,-⟩:=MF hC hi;have bz:=ho.Uw 20 pF pF;have bA:=ho.Uw 23 pF pF;rw[aa]at bz bA;simp only[VH];by_cases c:Z6 (ZT (pt T L) S.1)=20\/Z6 (ZT (pt T L) S.1)=23
  ·rw[iR (by unfold XZ;rcases c with c|c<;>simp[h0,c])];obtain⟨k,V3,bL,V6,Xm⟩:∃k:Int,2<=k/\k<=23/\Z6 (ZT (pt T L) S.1)=k/\(k=20\/k=23)/\(Yk (T.drop S.1)).s.toList=ZH k:=by
    rcases c with c|c
    ·exact⟨20,pF,pF,c,.inl rfl,bz.2 c⟩
    ·exact⟨23,pF,pF,c,.inr rfl,bA.2 c⟩
   have ax:Yx WX (Yk (T.drop S.1)).kind (Yk (T.drop S.1)).s.toList=some [ZH k,WM,WX]:=by
    rw[Xm.2];rcases Xm.1 with rfl|rfl<;>rfl
   refine Y4.expand (next:=[ZH k,WM,WX]) ax (d:=-100) (D:=1) ?_ pF pF
   have s1:=NA hC k V3 bL [20,23] (S:=S) (by rw[V6];rcases Xm.1 with rfl|rfl<;>rfl) h0 hi;refine Y4.seq (a:=[ZH k]) (b:=[WM,WX]) s1 (λe hn=> ?_) (λe=> ?_) (d2:=-95) (D2:=2) pF pF pF
   ·have s2:=vI hC (Z6 (ZT (pt T L) S.1)==23) e hn;refine Y4.seq (a:=[WM]) (b:=[WX]) s2 (λe' bp=> ?_) (λe'=> ?_) (d2:=-47) (D2:=3) pF pF pF
    ·refine ih _ _ e' bp ?_;have q1:=(Ew (pt T L) (Z6 (ZT (pt T L) S.1)==23) (ZM (pt T L) [20,23] S)).1;have q2:(ZM (pt T L) [20,23] S).1=S.1+1:=by
      rw[LU h0 (by rcases c with c|c<;>rw[c]<;>rfl)]
     omega
    ·rw[DX e',VY e']
   ·rw[Bj e,DX e,VY e]
  ·rw[iQ tv];have Xm:¬((Yk (T.drop S.1)).s.toList=Vg\/(Yk (T.drop S.1)).s.toList=Vh):=λq=>c (q.imp bz.1 bA.1)
   exact Y4.expand (next:=[Vx]) (by unfold Yx;rw[iQ pF,iQ pF,iQ pF,iQ pF,iQ pF,iQ pF,iQ pF,iR rfl,iQ Xm]) (ahh hC h0 hi) pF pF
theorem adw:(pt T L).length=T.length+1:=by simp[pt]
theorem ahj (hC:Cut T L){S:ZK}(h0:S.2=0)(hi:S.1<=T.length):Y4 T L (-90) 3 [WY] S.1 (ZM (pt T L) [14,15,16] (Vw (pt T L) S).2):=by
 refine Y4.expand (next:=[WM,WX]) rfl (d:=-95) (D:=2) ?_ pF pF
 refine Y4.seq (a:=[WM]) (b:=[WX]) (vI hC false h0 hi) (λe hn=> ?_) (λe=> ?_) (d2:=-47) (D2:=3) pF pF pF
 ·exact ahi hC _ _ _ e hn rY
 ·unfold Vw;rw[DX e,VY e]
theorem ahk {α:Type}(hC:Cut T L)(X Ys:List UInt8)(one:ZK->α×ZK)(hY:∀kd ts,Yx Ys kd ts=some (if ts=XQ then[XQ,X,Ys]else[]))(ah:∀S:ZK,S.2=0->S.1<=T.length->Y4 T L (-48) 2 [X] S.1 (one S).2)(aV:∀S:ZK,S.2≠0->(one S).2=S)(ai:∀S:ZK,S.1<=(one S).2.1)(f:Nat):∀(acc:List α) (S:ZK),S.2=0->S.1<=T.length->T.length-S.1<f->Y4 T L 1 3 [Ys] S.1 (VZ (pt T L) one f acc S).2:=by
 induction f with
 |zero=>intro acc S _ _ h;omega
 |succ f ih=>
  intro acc S h0 hi hf;obtain⟨ho,aa,-⟩:=MF hC hi;have bB:=ho.Uw 13 pF pF;rw[aa]at bB;simp only[VZ];by_cases c:Z6 (ZT (pt T L) S.1)=13
  ·rw[iR (by unfold XZ;simp[h0,c])];have Xm:(Yk (T.drop S.1)).s.toList=XQ:=bB.2 c;refine Y4.expand (next:=[XQ,X,Ys]) (by rw[hY,iR Xm]) (d:=-90) (D:=1) ?_ pF pF
   refine Y4.seq (a:=[XQ]) (b:=[X,Ys]) (JW hC 13 pF pF h0 hi) (λe hn=> ?_) (λe=> ?_) (d2:=-47) (D2:=3) pF pF pF
   ·refine Y4.seq (a:=[X]) (b:=[Ys]) (ah _ e hn) (λe' bp=> ?_) (λe'=> ?_) (d2:=1) (D2:=3) pF pF pF
    ·refine ih _ _ e' bp ?_;have q1:=ai (ZM (pt T L) [13] S);have q2:(ZM (pt T L) [13] S).1=S.1+1:=by rw[LU h0 uR]
     omega
    ·rw[DW e']
   ·rw[aV _ e,DW e]
  ·rw[iQ tv];have Xm:¬(Yk (T.drop S.1)).s.toList=XQ:=λq=>c (bB.1 q)
   exact Y4.expand (next:=[]) (by rw[hY,iQ Xm]) (ahe h0 hi) pF pF
theorem Bh {α:Type}(hC:Cut T L)(X Ys:List UInt8)(one:ZK->α×ZK)(hY:∀kd ts,Yx Ys kd ts=some (if ts=XQ then[XQ,X,Ys]else[]))(ah:∀S:ZK,S.2=0->S.1<=T.length->Y4 T L (-48) 2 [X] S.1 (one S).2)(aV:∀S:ZK,S.2≠0->(one S).2=S)(ai:∀S:ZK,S.1<=(one S).2.1){S:ZK}(h0:S.2=0)(hi:S.1<=T.length):Y4 T L (-47) 2 [X,Ys] S.1 (Xg (pt T L) one S).2:=by
 refine Y4.seq (a:=[X]) (b:=[Ys]) (ah S h0 hi) (λe hn=> ?_) (λe=> ?_) (d2:=1) (D2:=3) pF pF pF
 ·exact ahk hC X Ys one hY ah aV ai _ _ _ e hn rY
 ·rw[Xg,DW e]
def nh{P:Prop}(h:P:=by
 rcases this with rfl|rfl|rfl|rfl|rfl|rfl|rfl<;>rfl):P:=h
theorem ahl (hC:Cut T L)(k:Int)(h4:4<=k)(XP:k<=10){S:ZK}(h0:S.2=0)(hi:S.1<=T.length)(I:Z6 (ZT (pt T L) S.1)=k):Y4 T L (-49) 1 [ZH k] S.1 (ZM (pt T L) WV S):=by
 refine NA hC k J J WV ?_ h0 hi;rw[I];have:k=4\/k=5\/k=6\/k=7\/k=8\/k=9\/k=10:=J;exact nh
theorem ahm (kd:Int)(ts:List UInt8):Yx WZ kd ts=some (if ts=XQ then[XQ,Y3,WZ]else[]):=rfl
theorem ahn (kd:Int)(ts:List UInt8):Yx Wx kd ts=some (if ts=XQ then[XQ,Zg,Wx]else[]):=rfl
theorem aho (kd:Int)(ts:List UInt8):Yx Wy kd ts=some (if ts=XQ then[XQ,Wz,Wy]else[]):=rfl
theorem vH (hC:Cut T L)(s:Xl){S:ZK}(h0:S.2=0)(hi:S.1<=T.length):Y4 T L (-90) 3 [WY,Y3] S.1 (Xe (pt T L) s S).2:=by
 unfold Xe;exact Y4.seq (a:=[WY]) (b:=[Y3]) (ahj hC h0 hi) (λe hn=>JW hC 3 pF pF e hn) (λe=>VY e) pF pF pF
theorem DV {U:List ZY}{s:Xl}{S:ZK}(h:S.2≠0):(Xe U s S).2=S:=by
 unfold Xe;simp only[ahf h,VY h]
theorem ahp (hC:Cut T L){S:ZK}(h0:S.2=0)(hi:S.1<=T.length)(bc:4<=Z6 (ZT (pt T L) S.1))(aG:Z6 (ZT (pt T L) S.1)<=10):Y4 T L (-48) 2 [Wj] S.1 (Yr (pt T L) S).2:=by
 obtain⟨ho,aa,-⟩:=MF hC hi;obtain⟨k,I⟩:∃k,Z6 (ZT (pt T L) S.1)=k:=⟨_,rfl⟩;have hb:=(ho.Uw k J J).2 (aa.trans I);have s1:=ahl hC k J J h0 hi I;have one:∀(j:Int) (a:2<=j) (b:j<=23) {S:ZK} (e:S.2=0) (hn:S.1<=T.length),Y4 T L (-49) 1 [ZH j] S.1 (ZM (pt T L) [j] S):=λj a b {S} e hn=>JW hC j a b e hn
 have WS:k=4\/k=5\/k=6\/k=7\/k=8\/k=9\/k=10:=J;unfold Yr;simp only;rw[I];rcases WS with rfl|rfl|rfl|rfl|rfl|rfl|rfl
 ·rw[iR rfl];refine Y4.expand (next:=[VJ,Zg,WJ,Y3,Wa,Y3]) tN (d:=-49) (D:=1) ?_ pF pF
  refine Y4.seq (a:=[VJ]) (b:=[Zg,WJ,Y3,Wa,Y3]) s1 (λe hn=> ?_) (λe=>by simp only[VY e]) (d2:=-49) (D2:=1) pF pF pF
  refine Y4.seq (a:=[Zg]) (b:=[WJ,Y3,Wa,Y3]) (one 2 pF pF e hn) (λe hn=> ?_) (λe=>by simp only[VY e]) (d2:=-49) (D2:=1) pF pF pF
  refine Y4.seq (a:=[WJ]) (b:=[Y3,Wa,Y3]) (one 12 pF pF e hn) (λe hn=> ?_) (λe=>by simp only[VY e]) (d2:=-49) (D2:=1) pF pF pF
  refine Y4.seq (a:=[Y3]) (b:=[Wa,Y3]) (one 3 pF pF e hn) (λe hn=> ?_) (λe=>by simp only[VY e]) (d2:=-49) (D2:=1) pF pF pF
  exact Y4.seq (a:=[Wa]) (b:=[Y3]) (one 17 pF pF e hn) (λe hn=>one 3 pF pF e hn) (λe=>VY e) pF pF pF
 ·rw[iQ pF,iR rfl];refine Y4.expand (next:=[VK,Zg,Xo,WN,Y3,WZ,W9]) tN (d:=-49) (D:=1) ?_ pF pF
  have st:∀{S:ZK},S.2≠0->(Xg (pt T L) (W8 (pt T L) 3) S).2=S:=λh=>Bi (λS h=>VY h) h
  refine Y4.seq (a:=[VK]) (b:=[Zg,Xo,WN,Y3,WZ,W9]) s1 (λe hn=> ?_) (λe=>by simp only[VY e,st e]) (d2:=-49) (D2:=1) pF pF pF
  refine Y4.seq (a:=[Zg]) (b:=[Xo,WN,Y3,WZ,W9]) (one 2 pF pF e hn) (λe hn=> ?_) (λe=>by simp only[VY e,st e]) (d2:=-49) (D2:=1) pF pF pF
  refine Y4.seq (a:=[Xo]) (b:=[WN,Y3,WZ,W9]) (one 14 pF pF e hn) (λe hn=> ?_) (λe=>by simp only[VY e,st e]) (d2:=-49) (D2:=1) pF pF pF
  refine Y4.seq (a:=[WN]) (b:=[Y3,WZ,W9]) (one 18 pF pF e hn) (λe hn=> ?_) (λe=>by simp only[VY e,st e]) (d2:=-49) (D2:=2) pF pF pF
  exact Y4.seq (a:=[Y3,WZ]) (b:=[W9]) (Bh hC Y3 WZ (W8 (pt T L) 3) ahm (λS e hn=>(one 3 pF pF e hn).le pF pF) (λS h=>VY h) (λS=>MV) e hn) (λe hn=>one 19 pF pF e hn) (λe=>VY e) pF pF pF
 ·rw[iQ pF,iQ pF,iQ pF,iR rfl];refine Y4.expand (next:=[VL,WY,Y3]) tN (d:=-49) (D:=1) ?_ pF pF
  exact Y4.seq (a:=[VL]) (b:=[WY,Y3]) s1 (λe hn=>vH hC _ e hn) (λe=>DV e) pF pF pF
 ·rw[iQ pF,iQ pF,iR rfl];refine Y4.expand (next:=[VI,Zg,WJ,WY,Y3]) tN (d:=-49) (D:=1) ?_ pF pF
  refine Y4.seq (a:=[VI]) (b:=[Zg,WJ,WY,Y3]) s1 (λe hn=> ?_) (λe=>by simp only[VY e,DV e]) (d2:=-49) (D2:=1) pF pF pF
  refine Y4.seq (a:=[Zg]) (b:=[WJ,WY,Y3]) (one 2 pF pF e hn) (λe hn=> ?_) (λe=>by simp only[VY e,DV e]) (d2:=-49) (D2:=1) pF pF pF
  exact Y4.seq (a:=[WJ]) (b:=[WY,Y3]) (one 12 pF pF e hn) (λe hn=>vH hC _ e hn) (λe=>DV e) pF pF pF
 ·rw[iQ pF,iQ pF,iQ pF,iQ pF,iR rfl];refine Y4.expand (next:=[VN,Zg,WN,Zg,W9,Xo,Zg]) tN (d:=-49) (D:=1) ?_ pF pF
  refine Y4.seq (a:=[VN]) (b:=[Zg,WN,Zg,W9,Xo,Zg]) s1 (λe hn=> ?_) (λe=>by simp only[VY e]) (d2:=-49) (D2:=1) pF pF pF
  refine Y4.seq (a:=[Zg]) (b:=[WN,Zg,W9,Xo,Zg]) (one 2 pF pF e hn) (λe hn=> ?_) (λe=>by simp only[VY e]) (d2:=-49) (D2:=1) pF pF pF
  refine Y4.seq (a:=[WN]) (b:=[Zg,W9,Xo,Zg]) (one 18 pF pF e hn) (λe hn=> ?_) (λe=>by simp only[VY e]) (d2:=-49) (D2:=1) pF pF pF
  refine Y4.seq (a:=[Zg]) (b:=[W9,Xo,Zg]) (one 2 pF pF e hn) (λe hn=> ?_) (λe=>by simp only[VY e]) (d2:=-49) (D2:=1) pF pF pF
  refine Y4.seq (a:=[W9]) (b:=[Xo,Zg]) (one 19 pF pF e hn) (λe hn=> ?_) (λe=>by simp only[VY e]) (d2:=-49) (D2:=1) pF pF pF
  exact Y4.seq (a:=[Xo]) (b:=[Zg]) (one 14 pF pF e hn) (λe hn=>one 2 pF pF e hn) (λe=>VY e) pF pF pF
 ·rw[iQ pF,iQ pF,iQ pF,iQ pF,iQ pF,iR rfl];refine Y4.expand (next:=[VM,Zg,Wx]) tN (d:=-49) (D:=1) ?_ pF pF
  exact Y4.seq (a:=[VM]) (b:=[Zg,Wx]) s1 (λe hn=>Bh hC Zg Wx (W8 (pt T L) 2) ahn (λS e hn=>(one 2 pF pF e hn).le pF pF) (λS h=>VY h) (λS=>MV) e hn) (λe=>Bi (λS h=>VY h) e) pF pF pF
 ·rw[iQ pF,iQ pF,iQ pF,iQ pF,iQ pF,iQ pF,iR rfl];refine Y4.expand (next:=[Vy,Wz,Wy]) tN (d:=-49) (D:=1) ?_ pF pF
  exact Y4.seq (a:=[Vy]) (b:=[Wz,Wy]) s1 (λe hn=>Bh hC Wz Wy (Xh (pt T L)) aho (λS e hn=>ahg hC e hn) (λS h=>vK h) (λS=>(Cc _ S).1) e hn) (λe=>Bi (λS h=>vK h) e) pF pF pF
theorem vG {U:List ZY}{f:Nat}{acc:List Xl}{S:ZK}(h:S.2≠0):TK U f acc S=(acc,S):=GH (λq=>h q.1)
def vF (L:Nat)(R:Int)(S:ZK):Prop:=(S.2=0/\R=0)\/(S.2≠0/\R≠0/\Lp L R=S.2)
theorem ahq (hC:Cut T L)(f:Nat):∀(acc:List Xl) (S:ZK),S.2=0->S.1<=T.length->T.length-S.1<f->∃(k:Nat) (R:Int),(k:Int)<=50*((T.length:Int)-S.1)+10/\Vl k [XF] (T.drop S.1)=some R/\vF L R (TK (pt T L) f acc S).2:=by
 induction f with
 |zero=>intro acc S _ _ h;omega
 |succ f ih=>
  intro acc S h0 hi hf;obtain⟨ho,aa,aX,bE,RP⟩:=MF hC hi;by_cases ck:4<=Z6 (ZT (pt T L) S.1)/\Z6 (ZT (pt T L) S.1)<=10
  ·have XH:(Yk (T.drop S.1)).kind=107:=ho.MO.2 (by rw[aa];exact ck);have ax:Yx XF (Yk (T.drop S.1)).kind (Yk (T.drop S.1)).s.toList=some [Wj,VT,XF]:=by rw[XH];rfl
   rw[Ev h0 J];have hs:Y4 T L (-97) 2 [Wj,VT] S.1 (ZM (pt T L) [11] (Yr (pt T L) S).2):=
    Y4.seq (a:=[Wj]) (b:=[VT]) (ahp hC h0 hi ck.1 ck.2) (λe hn=>JW hC 11 pF pF e hn) (λe=>VY e) pF pF pF
   rcases hs with⟨e,P8,hn,k,I,hr⟩|⟨e,k,R,I,hR,bM,hb⟩
   ·have ai:S.1<(ZM (pt T L) [11] (Yr (pt T L) S).2).1:=by
     have:=(GI (pt T L) S).trans (UK (pt T L) [11] _);have F:=this.1;have h2:(ZM (pt T L) WV S).1=S.1+1:=by
      rw[LU h0];obtain⟨j,hj⟩:∃j,Z6 (ZT (pt T L) S.1)=j:=⟨_,rfl⟩;rw[hj]at ck⊢;have:j=4\/j=5\/j=6\/j=7\/j=8\/j=9\/j=10:=J;exact nh
     omega
    obtain⟨k',R,aC,hR,hE⟩:=ih (acc++[(Yr (pt T L) S).1]) _ e hn J;refine⟨k'+k+1,R,J,?_,hE⟩;rw[ID ax];have:=hr k' [XF];rw[show[Wj,VT,XF]++[]=[Wj,VT]++[XF] from rfl,this,hR]
   ·rw[vG e];refine⟨k+1,R,J,?_,.inr ⟨e,hR,bM⟩⟩;rw[ID ax];have:=hb 0 [XF];rw[ik]at this;exact this
  ·have XH:¬(Yk (T.drop S.1)).kind=107:=λq=>ck (by have:=ho.MO.1 q;rwa [aa]at this)
   have ax:Yx XF (Yk (T.drop S.1)).kind (Yk (T.drop S.1)).s.toList=some []:=by unfold Yx;rw[iR rfl,iQ XH]
   rcases ib S.1 T.length with ZR|Ww
   ·have ZP:Z6 (ZT (pt T L) S.1)≠1:=by
     intro q;have:=ho.eof.2 (aa.trans q);rw[Bk ZR]at this;rcases hC.kind _ (eL ZR)with q|q|q|q<;>omega
    rw[Ev h0 ZP];have bh:WV.contains (Z6 (ZT (pt T L) S.1))=false:=by
     obtain⟨j,hj⟩:∃j,Z6 (ZT (pt T L) S.1)=j:=⟨_,rfl⟩;rw[hj]at ck⊢;have e:j≠4/\j≠5/\j≠6/\j≠7/\j≠8/\j≠9/\j≠10:=J;simp[WV,e.1,e.2.1,e.2.2.1,e.2.2.2.1,e.2.2.2.2.1,e.2.2.2.2.2.1,e.2.2.2.2.2.2]
    have aV:(Yr (pt T L) S).2=(S.1,((ZT (pt T L) S.1).line:Int)):=by
     have ht:ZM (pt T L) WV S=(S.1,((ZT (pt T L) S.1).line:Int)):=by
      unfold ZM;rw[iR h0,bh];simp
     unfold Yr;simp only;rw[iQ J,iQ J,iQ J,iQ J,iQ J,iQ J,iQ J,ht]
    have YM:(Yr (pt T L) S).2.2≠0:=by rw[aV];simp only;omega
    rw[VY YM,vG YM];refine⟨2,T[S.1].line,J,?_,.inr ⟨YM,?_,?_⟩⟩
    ·rw[ID ax,aR ZR];rfl
    ·have:=hC.line _ (eL ZR);omega
    ·rw[aV,Iu ZR];unfold Lp;rw[iQ J]
   ·have e:S.1=T.length:=J;rw[GH (λq=>q.2 (by rw[e,DY,IM]))]
    refine⟨2,0,J,?_,.inl ⟨h0,rfl⟩⟩;rw[ID ax,e,List.drop_length];rfl
theorem vE (hC:Cut T L)(hn:T.length<=2000):∃(k:Nat) (R:Int),k<=1000000/\Vl k [XF] T=some R/\vF L R (Xc (pt T L)).2:=by
 obtain⟨k,R,I,hR,hE⟩:=ahq hC ((pt T L).length+1) [] (0,0) rfl (iz _) rY;exact⟨k,R,by simp only at I;omega,hR,hE⟩
def gP (g:XU):Sl:=⟨g.neg,if Z6 g.first=3 then some g.first else none,g.name⟩
def gL (g:Ud):Ss:=⟨if Z6 g.first=22 then some g.first else none,g.name⟩
def gS (g:Xl):PX where
 tag:=(Z6 g.kw-4).toNat
 kw:=g.kw
 a:=g.name
 b:=if Z6 g.kw=4 then g.numbers.getD 0 RT else if Z6 g.kw=8 then g.names.getD 0 RT else g.rel
 c:=if Z6 g.kw=4 then g.numbers.getD 1 RT else if Z6 g.kw=8 then g.names.getD 1 RT else g.numbers.getD 0 RT
 ts:=g.ZA.map gP
 ns:=if Z6 g.kw=5 then g.numbers else g.names
 ls:=g.lits.map gL
structure ME (g:Xl):Prop where
 k4:4<=Z6 g.kw
 DU:Z6 g.kw<=10
 n4:Z6 g.kw=4->∃lo hi,g.numbers=[lo,hi]/\lo.kind=105/\hi.kind=105
 n5:Z6 g.kw=5->∀t∈g.numbers,t.kind=105
 n6:Z6 g.kw=6\/Z6 g.kw=7->∃M,g.numbers=[M]/\M.kind=105
 n8:Z6 g.kw=8->∃P Q,g.names=[P,Q]
 tm:∀t∈g.ZA,Z6 t.first≠3->t.first=t.name
 lt:∀l∈g.lits,Z6 l.first≠22->l.first=l.name
 rl:Z6 g.kw=6\/Z6 g.kw=7->PT g.rel/\(Z6 g.rel=14\/Z6 g.rel=15\/Z6 g.rel=16)
structure QO (T:List ZY)(L:Nat):Prop extends Cut T L where
 ints:∀t∈T,t.kind=105->UU t.s
theorem Ln (hC:QO T L){S:ZK}(hi:S.1<=T.length){av:az}(hs:av.contains 1=false)(h:(ZM (pt T L) av S).2=0):S.2=0/\S.1<T.length/\av.contains (Z6 (ZT (pt T L) S.1))=true/\ZM (pt T L) av S=(S.1+1,0)/\T[S.1]?=some (ZT (pt T L) S.1)/\PT (ZT (pt T L) S.1):=by
 obtain⟨ho,aa,aX,bE,RP⟩:=MF hC.toCut hi;unfold ZM at h⊢;by_cases c0:S.2=0
 ·rw[iR c0]at h⊢;by_cases c:av.contains (Z6 (ZT (pt T L) S.1))=true
  ·rw[iR c];have ZR:S.1<T.length:=by
    rcases ib S.1 T.length with q|q
    ·exact q
    ·have e:S.1=T.length:=J;rw[e,DY,IM,hs]at c;cases c
   refine⟨c0,ZR,c,rfl,?_,?_⟩
   ·rw[Iu ZR];exact aZ ZR
   ·rw[Iu ZR,<-Bk ZR];exact ho
  ·rw[iQ c]at h;simp only at h;omega
 ·rw[iQ c0]at h;exact absurd h c0
theorem TU (hC:QO T L){S:ZK}(hi:S.1<=T.length)(k:Int)(I:2<=k)(h:(ZM (pt T L) [k] S).2=0):S.2=0/\S.1<T.length/\Z6 (ZT (pt T L) S.1)=k/\ZM (pt T L) [k] S=(S.1+1,0)/\T[S.1]?=some (ZT (pt T L) S.1)/\PT (ZT (pt T L) S.1):=by
 obtain⟨a,b,c,d⟩:=Ln hC hi (av:=[k]) pI h;exact⟨a,b,qT,d⟩
theorem DT (hC:QO T L){i:Nat}{t:ZY}(h:T[i]?=some t)(I:t.kind=105):UU t.s:=hC.ints t (cq h) I
theorem vD (hC:QO T L){neg:Bool}{S:ZK}(hi:S.1<=T.length)(h:(XE (pt T L) neg S).2.2=0):S.2=0/\Pm T S.1 (gP (XE (pt T L) neg S).1) (XE (pt T L) neg S).2.1/\S.1<(XE (pt T L) neg S).2.1/\(XE (pt T L) neg S).2.1<=T.length/\(XE (pt T L) neg S).1.neg=neg/\(Z6 (XE (pt T L) neg S).1.first≠3->(XE (pt T L) neg S).1.first=(XE (pt T L) neg S).1.name):=by
 unfold XE at h⊢;by_cases c:Z6 (ZT (pt T L) S.1)=3
 ·rw[iR c]at h⊢;simp only at h⊢;have a2:=(UK (pt T L) [2] (ZM (pt T L) [21] (ZM (pt T L) [3,2] S))).2 h;have a1:=(UK (pt T L) [21] (ZM (pt T L) [3,2] S)).2 a2;obtain⟨b0,b1,b2,b3,b4,b5⟩:=Ln hC hi (av:=[3,2]) rfl a1;rw[b3]at a2 h⊢;obtain⟨c0,c1,c2,c3,c4,c5⟩:=TU hC (S:=(S.1+1,0)) qh 21 pF a2;rw[c3]at h⊢;obtain⟨d0,d1,d2,d3,d4,d5⟩:=TU hC (S:=(S.1+1+1,0)) (by show S.1+1+1<=_;exact c1) 2 pF h;rw[d3];refine⟨b0,?_,by simp only;omega,d1,sr,λq=>absurd c q⟩
  have I:(ZT (pt T L) S.1).kind=105:=b5.int.2 c;unfold Pm gP;simp only[c,iP];exact⟨b4,I,DT hC b4 I,d4,sr⟩
 ·rw[iQ c]at h⊢;simp only at h⊢;obtain⟨b0,b1,b2,b3,b4,b5⟩:=Ln hC hi (av:=[3,2]) rfl h;rw[b3];refine⟨b0,?_,by simp only;omega,b1,sr,λ_=>sr⟩
  have I:¬(ZT (pt T L) S.1).kind=105:=λq=>c (b5.int.1 q)
  unfold Pm gP;simp only[c,iK];exact⟨b4,I,sr⟩
theorem ahr (hC:QO T L){S:ZK}(hi:S.1<=T.length)(h:(Xh (pt T L) S).2.2=0):S.2=0/\Q6 T S.1 (gL (Xh (pt T L) S).1) (Xh (pt T L) S).2.1/\S.1<(Xh (pt T L) S).2.1/\(Xh (pt T L) S).2.1<=T.length/\(Z6 (Xh (pt T L) S).1.first≠22->(Xh (pt T L) S).1.first=(Xh (pt T L) S).1.name):=by
 unfold Xh at h⊢;by_cases c:Z6 (ZT (pt T L) S.1)=22
 ·rw[iR c]at h⊢;simp only at h⊢;have a1:=(UK (pt T L) [2] (ZM (pt T L) [22,2] S)).2 h;obtain⟨b0,b1,b2,b3,b4,b5⟩:=Ln hC hi (av:=[22,2]) rfl a1;rw[b3]at h⊢;obtain⟨d0,d1,d2,d3,d4,d5⟩:=TU hC (S:=(S.1+1,0)) qh 2 pF h;rw[d3];refine⟨b0,?_,by simp only;omega,d1,λq=>absurd c q⟩
  unfold Q6 gL;simp only[c,iP];exact⟨b4,(b5.Uw 22 pF pF).2 c,d4,sr⟩
 ·rw[iQ c]at h⊢;simp only at h⊢;obtain⟨b0,b1,b2,b3,b4,b5⟩:=Ln hC hi (av:=[22,2]) rfl h;rw[b3];refine⟨b0,?_,by simp only;omega,b1,λ_=>sr⟩
  unfold Q6 gL;simp only[c,iK];exact⟨b4,λq=>c ((b5.Uw 22 pF pF).1 q),sr⟩
theorem Bg {S:ZK}{k:Int}(h0:S.2=0)(h:¬XZ (pt T L) k S=true):Z6 (ZT (pt T L) S.1)≠k:=by
 unfold XZ at h;simp[h0]at h;exact h
theorem ahs (hC:QO T L)(f:Nat):∀(acc:List XU) (S:ZK),S.1<=T.length->T.length-S.1<f->(VH (pt T L) f acc S).2.2=0->∃r,(VH (pt T L) f acc S).1=acc++r/\S.2=0/\LI T S.1 (r.map gP) (VH (pt T L) f acc S).2.1/\S.1<=(VH (pt T L) f acc S).2.1/\(VH (pt T L) f acc S).2.1<=T.length/\
   Z6 (ZT (pt T L) (VH (pt T L) f acc S).2.1)≠20/\Z6 (ZT (pt T L) (VH (pt T L) f acc S).2.1)≠23/\∀t∈r,Z6 t.first≠3->t.first=t.name:=by
 induction f with
 |zero=>intro acc S _ h;omega
 |succ f ih=>
  intro acc S hi hf h;simp only[VH]at h⊢;by_cases c:(XZ (pt T L) 20 S||XZ (pt T L) 23 S)=true
  ·rw[iR c]at h⊢;have Zq:=(Cb (pt T L) f (acc++[(XE (pt T L) (Z6 (ZT (pt T L) S.1)==23) (ZM (pt T L) [20,23] S)).1]) _).2 h;have Zn:=(Ew (pt T L) (Z6 (ZT (pt T L) S.1)==23) (ZM (pt T L) [20,23] S)).2 Zq;obtain⟨b0,b1,b2,b3,b4,b5⟩:=Ln hC hi (av:=[20,23]) rfl Zn;rw[b3]at h Zq⊢;obtain⟨t0,t1,t2,t3,t4,t5⟩:=vD hC (S:=(S.1+1,0)) qh Zq;simp only at t2;obtain⟨r,e1,e2,e3,e4,e5,e6,e7,e8⟩:=ih (acc++[(XE (pt T L) (Z6 (ZT (pt T L) S.1)==23) (S.1+1,0)).1]) _ t3 J h;refine⟨(XE (pt T L) (Z6 (ZT (pt T L) S.1)==23) (S.1+1,0)).1::r,by rw[e1,dN];rfl,b0,?_,J,e5,e6,e7,?_⟩
   ·rw[gG];refine⟨ZT (pt T L) S.1,_,b4,?_,t1,e3⟩;show _=if (XE (pt T L) (Z6 (ZT (pt T L) S.1)==23) (S.1+1,0)).1.neg then[45]else[43]
    rw[t4];by_cases q:Z6 (ZT (pt T L) S.1)=23
    ·rw[q];exact(b5.Uw 23 pF pF).2 q
    ·have q':Z6 (ZT (pt T L) S.1)=20:=by
      have:Z6 (ZT (pt T L) S.1)=20\/Z6 (ZT (pt T L) S.1)=23:=uI;rcases this with q'|q'
      ·exact q'
      ·exact absurd q' q
     rw[q'];exact(b5.Uw 20 pF pF).2 q'
   ·intro t ht;rcases gH.1 ht with rfl|ht
    ·exact t5
    ·exact e8 t ht
  ·rw[iQ c]at h⊢;have aQ:¬XZ (pt T L) 20 S=true:=λq=>c (by rw[q];rfl)
   have aS:¬XZ (pt T L) 23 S=true:=λq=>c (by rw[q];simp)
   exact⟨[],pG,h,rfl,iw _,hi,Bg h aQ,Bg h aS,λt ht=>tW⟩
theorem vB (hC:QO T L){g:Xl}{S:ZK}(hi:S.1<=T.length)(h:(Xe (pt T L) g S).2.2=0):S.2=0/\∃num,(Xe (pt T L) g S).1.numbers=[num]/\num.kind=105/\Bw T S.1 ((Xe (pt T L) g S).1.ZA.map gP) (Xe (pt T L) g S).1.rel num (Xe (pt T L) g S).2.1/\S.1<(Xe (pt T L) g S).2.1/\(Xe (pt T L) g S).2.1<=T.length/\(∀t∈(Xe (pt T L) g S).1.ZA,Z6 t.first≠3->t.first=t.name)/\PT (Xe (pt T L) g S).1.rel/\(Z6 (Xe (pt T L) g S).1.rel=14\/Z6 (Xe (pt T L) g S).1.rel=15\/Z6 (Xe (pt T L) g S).1.rel=16):=by
 unfold Xe at h⊢;simp only at h⊢;have a2:=(UK (pt T L) [3] (ZM (pt T L) [14,15,16] (Vw (pt T L) S).2)).2 h;have a1:=(UK (pt T L) [14,15,16] (Vw (pt T L) S).2).2 a2;have a0:(XE (pt T L) false S).2.2=0:=(Cb (pt T L) _ _ _).2 a1;obtain⟨t0,t1,t2,t3,t4,t5⟩:=vD hC hi a0;obtain⟨r,e1,e2,e3,e4,e5,e6,e7,e8⟩:=ahs hC (pt T L).length [(XE (pt T L) false S).1] _ t3 rY a1;change (Vw (pt T L) S).1=_ at e1;change (XE (pt T L) false S).2.1<=(Vw (pt T L) S).2.1 at e4;change (Vw (pt T L) S).2.1<=_ at e5;change Z6 (ZT (pt T L) (Vw (pt T L) S).2.1)≠20 at e6;change Z6 (ZT (pt T L) (Vw (pt T L) S).2.1)≠23 at e7;change LI T _ _ (Vw (pt T L) S).2.1 at e3;obtain⟨b0,b1,b2,b3,b4,b5⟩:=Ln hC e5 (av:=[14,15,16]) rfl a2;rw[b3]at h⊢;obtain⟨c0,c1,c2,c3,c4,c5⟩:=TU hC (S:=((Vw (pt T L) S).2.1+1,0)) (by show _+1<=_;omega) 3 pF h;rw[c3];simp only at c4 c5 c2;have I:=c5.int.2 c2;refine⟨t0,_,rfl,I,?_,by simp only;omega,c1,?_,b5,uI⟩
 ·refine⟨gP (XE (pt T L) false S).1,r.map gP,_,(Vw (pt T L) S).2.1,by rw[e1];rfl,t1,t4,e3,J,b4,?_,?_,c4,DT hC c4 I,rfl⟩
  ·exact λq=>e6 ((b5.Uw 20 pF pF).1 q)
  ·exact λq=>e7 ((b5.Uw 23 pF pF).1 q)
 ·intro t ht;rw[e1]at ht;rcases fE.1 ht with ht|ht
  ·obtain rfl:t=_:=sq;exact t5
  ·exact e8 t ht
def Ir {α:Type}(T:List ZY)(At:Nat->α->Nat->Prop):Nat->List α->Nat->Prop
 |i,[],j=>i=j
 |i,a::l,j=>(∃c,T[i]?=some c/\c.s.toList=[44])/\∃m,At (i+1) a m/\Ir T At m l j
def mN{P:Prop}(h:P:=by
 intro t ht;rcases gH.1 ht with rfl|ht
 ·exact t4
 ·exact e7 t ht):P:=h
theorem aht {α:Type}(hC:QO T L)(one:ZK->α×ZK)(At:Nat->α->Nat->Prop)(Q:α->Prop)(ai:∀S,Uy S (one S).2)(ah:∀S:ZK,S.1<=T.length->(one S).2.2=0->S.2=0/\At S.1 (one S).1 (one S).2.1/\S.1<(one S).2.1/\(one S).2.1<=T.length/\Q (one S).1)(f:Nat):∀(acc:List α) (S:ZK),S.1<=T.length->T.length-S.1<f->(VZ (pt T L) one f acc S).2.2=0->∃r,(VZ (pt T L) one f acc S).1=acc++r/\S.2=0/\Ir T At S.1 r (VZ (pt T L) one f acc S).2.1/\S.1<=(VZ (pt T L) one f acc S).2.1/\(VZ (pt T L) one f acc S).2.1<=T.length/\
   Z6 (ZT (pt T L) (VZ (pt T L) one f acc S).2.1)≠13/\∀t∈r,Q t:=by
 induction f with
 |zero=>intro acc S _ h;omega
 |succ f ih=>
  intro acc S hi hf h;simp only[VZ]at h⊢;by_cases c:XZ (pt T L) 13 S=true
  ·rw[iR c]at h⊢;have Zq:=(Ca (pt T L) one ai f (acc++[(one (ZM (pt T L) [13] S)).1]) _).2 h;have Zn:=(ai (ZM (pt T L) [13] S)).2 Zq;obtain⟨b0,b1,b2,b3,b4,b5⟩:=TU hC hi 13 pF Zn;rw[b3]at h Zq⊢;obtain⟨t0,t1,t2,t3,t4⟩:=ah (S.1+1,0) qh Zq;simp only at t2;obtain⟨r,e1,e2,e3,e4,e5,e6,e7⟩:=ih (acc++[(one (S.1+1,0)).1]) _ t3 J h;refine⟨(one (S.1+1,0)).1::r,by rw[e1,dN];rfl,b0,⟨⟨_,b4,(b5.Uw 13 pF pF).2 b2⟩,_,t1,e3⟩,J,e5,e6,?_⟩;exact mN
  ·rw[iQ c]at h⊢;exact⟨[],pG,h,rfl,iw _,hi,Bg h c,λt ht=>tW⟩
theorem Bf {α:Type}(hC:QO T L)(one:ZK->α×ZK)(At:Nat->α->Nat->Prop)(Q:α->Prop)(ai:∀S,Uy S (one S).2)(ah:∀S:ZK,S.1<=T.length->(one S).2.2=0->S.2=0/\At S.1 (one S).1 (one S).2.1/\S.1<(one S).2.1/\(one S).2.1<=T.length/\Q (one S).1){S:ZK}(hi:S.1<=T.length)(h:(Xg (pt T L) one S).2.2=0):∃a r m,(Xg (pt T L) one S).1=a::r/\S.2=0/\At S.1 a m/\Ir T At m r (Xg (pt T L) one S).2.1/\S.1<(Xg (pt T L) one S).2.1/\(Xg (pt T L) one S).2.1<=T.length/\Z6 (ZT (pt T L) (Xg (pt T L) one S).2.1)≠13/\∀t∈a::r,Q t:=by
 unfold Xg at h⊢;have hz:=(Ca (pt T L) one ai (pt T L).length [(one S).1] _).2 h;obtain⟨t0,t1,t2,t3,t4⟩:=ah S hi hz;obtain⟨r,e1,e2,e3,e4,e5,e6,e7⟩:=aht hC one At Q ai ah (pt T L).length [(one S).1] _ t3 rY h;refine⟨(one S).1,r,_,by rw[e1];rfl,t0,t1,e3,J,e5,e6,?_⟩;exact mN
def F6 (T:List ZY)(i:Nat)(t:ZY)(j:Nat):Prop:=T[i]?=some t/\j=i+1
theorem vA {i j:Nat}{l:List ZY}(h:Ir T (F6 T) i l j):P1 T i l j:=by
 induction l generalizing i with
 |nil=>exact h
 |cons a l ih=>
  obtain⟨F,m,⟨h2,rfl⟩,h3⟩:=h;exact⟨F,h2,ih h3⟩
theorem ahu {i j:Nat}{l:List Ud}(h:Ir T (λi a j=>Q6 T i (gL a) j) i l j):MI T i (l.map gL) j:=by
 induction l generalizing i with
 |nil=>exact h
 |cons a l ih=>
  obtain⟨F,m,h2,h3⟩:=h;exact⟨F,m,h2,ih h3⟩
theorem vz (hC:QO T L)(k:Int)(I:2<=k)(S:ZK)(hi:S.1<=T.length)(h:(W8 (pt T L) k S).2.2=0):S.2=0/\F6 T S.1 (W8 (pt T L) k S).1 (W8 (pt T L) k S).2.1/\S.1<(W8 (pt T L) k S).2.1/\(W8 (pt T L) k S).2.1<=T.length/\(PT (W8 (pt T L) k S).1/\Z6 (W8 (pt T L) k S).1=k):=by
 obtain⟨a,b,c,d,e,f⟩:=TU hC hi k I h;unfold W8;rw[d];exact⟨a,⟨e,rfl⟩,by simp only;omega,b,f,c⟩
theorem Be (hC:QO T L){j:Nat}(hj:j<=T.length)(h:Z6 (ZT (pt T L) j)≠13):(Y' T j).toList≠[44]:=by
 unfold Y';rcases ib j T.length with q|q
 ·rw[aZ q];have ho:=DZ (hC.kind _ (eL q));rw[Iu q]at h;exact λe=>h ((ho.Uw 13 pF pF).1 e)
 ·rw[bN q];show ByteArray.toList ⟨#[]⟩≠[44];rw[show(⟨#[]⟩:aA)=ByteArray.empty from rfl,Ch];decide
end Go.Proofs.YthpcbbnabnlanaaGreatDoor
