import Derived.Test.YthpcbbnabnlanaaGreatDoorM05
import Derived.Test.YthpcbbnabnlanaaGreatDoorM06
import Derived.Lib.Atoi
import Derived.Deep.AppendLies
import Derived.Lib.Bytealg
import Derived.Lib.Builder
import Derived.Lib.AppendStr
import Derived.Lib.UnsafeStr
import Derived.Laws.Externs
namespace Go.Proofs.YthpcbbnabnlanaaGreatDoor
set_option maxHeartbeats 4000000
set_option maxRecDepth 100000
open Go.Proofs.Tryz
set_option linter.all false
section
open Go.RowKit
theorem yv (s:aA):∀(m i acc:Nat),i+m=s.size->(∀j,i<=j->j<s.size->Zk (ZI s j)=true)->Xt s i=(acc:Int)->∃n:Nat,Lib.decFrom acc (s.data.toList.drop i)=some n/\Xt s s.size=n:=by
 have hl:s.data.toList.length=s.size:=qR;intro m
 induction m with
 |zero=>
  intro i acc h hd hn;obtain rfl:i=s.size:=J;rw[bF J];exact⟨acc,rfl,hn⟩
 |succ m ih=>
  intro i acc h hd hn;have hi:i<s.size:=J;have hb:=UC hi;have MX:=hd i (iw _) hi;simp only[Zk,eC,ee]at MX;rw[aR J];have e0:s.data.toList[i]=s[i]:=rfl;have ev:Lib.digitVal s[i]=some (s[i].toNat-48):=by
   unfold Lib.digitVal;exact iR ⟨J,J⟩
  rw[e0];simp only[Lib.decFrom,ev];refine ih (i+1) _ J (λj F h2=>hd j J h2) ?_
  simp only[Xt];rw[iQ J,hn];omega
def Kr (s:aA):Prop:=(Zk (ZI s 0)=true\/ZI s 0=45/\2<=s.size)/\0<s.size/\∀j,1<=j->j<s.size->Zk (ZI s j)=true
theorem aea (s:aA)(h:Kr s):Lib.atoi s.data.toList=some (YU s):=by
 have hl:s.data.toList.length=s.size:=qR;obtain⟨h0,hp,hd⟩:=h;have hb:=UC hp;have e:s.data.toList=s[0]::s.data.toList.drop 1:=by
  have:=aR (l:=s.data.toList) (i:=0) J
  rwa [fW]at this
 rcases h0 with h0|⟨h0,h2⟩
 ·obtain⟨n,F,h2⟩:=yv s s.size 0 0 J (λj _ hj=>by
   cases j with
   |zero=>exact h0
   |succ j=>exact hd (j+1) J hj) rfl
  simp only[Zk,eC,ee]at h0;rw[fW]at F;have aG:(s[0]==45)=false:=by rw[dn];intro q;rw[q]at hb;have:(UInt8.toNat 45:Int)=45:=rfl;omega
  have aJ:(s[0]==43)=false:=by rw[dn];intro q;rw[q]at hb;have:(UInt8.toNat 43:Int)=43:=rfl;omega
  unfold YU;rw[iQ J,h2];rw[e]at F⊢;simp only[Lib.atoi,aG,aJ,dv,iK,Lib.decNat,List.isEmpty_cons,F,fN]
 ·obtain⟨n,F,h3⟩:=yv s (s.size-1) 1 0 J (λj F hj=>hd j F hj) (by simp[Xt,h0])
  have aM:(s[0]==45)=true:=by rw[iD];apply fP.1;have:(UInt8.toNat 45:Int)=45:=rfl;omega
  have ne:(s.data.toList.drop 1).isEmpty=false:=by
   cases hq:s.data.toList.drop 1 with
   |nil=>have:=iJ List.length hq;simp at this;have h5:s.data.size=s.size:=rfl;omega
   |cons _ _=>rfl
  unfold YU;rw[iR h0,h3];rw[e];simp only[Lib.atoi,aM,iP,Lib.decNat,ne,dv,iK,F,fN]
theorem yu (s:aA)(k:Nat)(I:k<=s.size)(Vo:1<=k)(hn:U7 s 0=true)(he:k=Zt Zk s 1):Kr (s.extract 0 k):=by
 have hz:=Rk s 0 k J I;have hb:∀j,j<k->ZI (s.extract 0 k) j=ZI s j:=λj hj=>by rw[EK s 0 k j J I,ik]
 refine⟨?_,J,λj F hj=> ?_⟩
 ·rw[hb 0 J];simp only[U7,fk,eC,iD,ik]at hn;rcases hn with hn|hn
  ·exact .inl hn
  ·refine .inr ⟨hn.1,?_⟩;have F:1<s.size:=by
    by_cases q:1<s.size
    ·exact q
    ·have:=hn.2;rw[LZ J]at this;simp[Zk]at this
   have h2:=Qf Zk s 1 F hn.2;have h3:=RU Zk s (1+1);omega
 ·rw[hb j J];exact G4 Zk s 1 j F J
theorem aeb (s:aA)(n:Int)(hl:s.size<=18)(h:Lib.atoi s.data.toList=some n)(w:A):aq 145 #[.string s] w (au w (.tuple #[Y n,.nilIface])):=by
 refine(Tryz.strconv_Atoi s n hl h w).mono ?_;rintro e w' ⟨rfl,tb,rfl⟩;exact⟨rfl,rfl,rfl,rfl,by rw[Lib.bytesWorld_size];omega,λk I _=>Lib.bytesWorld_at_old w _ tb k I⟩
def lJ{P:Prop}(h:P:=by
 exact⟨h,Z0 h 0 _ rfl,Z0 h 1 _ rfl,Z0 h 2 _ rfl,Z0 h 3 _ rfl,Zz h 0,Zz h 1,Zz h 2,Zz h 3⟩):P:=h
theorem EG {w w':A}{t:TypeId}(z:(w.alloc (.cells #[Y 0,.string .empty,Y 0,Y 0] t)).grownBy w' none):w'.heap[w.heap.size]?=some (.cells #[Y 0,.string .empty,Y 0,Y 0] t (0,0))/\w'.cell? (ah w.heap.size)=some (Y 0)/\w'.cell? (O w.heap.size 1)=some (.string .empty)/\w'.cell? (O w.heap.size 2)=some (Y 0)/\w'.cell? (O w.heap.size 3)=some (Y 0)/\
   w'.frozen? (ah w.heap.size)=false/\w'.frozen? (O w.heap.size 1)=false/\w'.frozen? (O w.heap.size 2)=false/\w'.frozen? (O w.heap.size 3)=false:=by
 have h:=(z.block w.heap.size pG pG).trans (gp w _);exact lJ
def MW (s:aA):aF:=if 10<Zt Zk s 1 then M0 else NZ 3 (s.extract 0 (Zt Zk s 1)) (YU (s.extract 0 (Zt Zk s 1))) 0
def jv{P:Prop}(h:P:=by
 by_cases h8:10<k
 ·have c8:(10:Int)<(k:Int):=J;have hl:Hid (MW s=M0):=by unfold MW;rw[<-he.out,iR h8];trivial
  clear h8;go_wp2_with (go_at_call 111;refine(M5 _ _).mono ?_;rintro e w' ⟨rfl,Zf⟩;subst w');refine iq (fg rfl _ _ w.heap.size 129 _ _ _ rfl (gp w _) underlying129 rfl pH) rfl ?_;exact⟨by rw[hl.out];rfl,di w _ none⟩
 ·have c8:(k:Int)<=10:=J;have hl:Hid (MW s=NZ 3 (s.extract 0 k) (YU (s.extract 0 k)) 0):=by unfold MW;rw[<-he.out,iQ h8];trivial
  have G0:(k:Int)<=s.size:=J;have YG:Hid (Lib.atoi (s.extract 0 k).data.toList=some (YU (s.extract 0 k))):=aea _ (yu s k I Vo HN.out he.out);have hz:Hid ((s.extract 0 k).size<=18):=by rw[Hid,Rk s 0 k J I];omega
  clear h8;go_wp2_with (first|(go_at_call 111;refine(M5 _ _).mono ?_;rintro e w' ⟨rfl,Zf⟩;subst w')|(go_at_call 145;refine(aeb _ _ hz.out YG.out _).mono ?_;rintro e w1 ⟨rfl,z⟩;obtain⟨hB,c0,c1,c2,c3,f0,f1,f2,f3⟩:=EG z))
  refine iq (fg rfl _ _ w.heap.size 129 _ _ _ rfl (N0 hB _ _ _ _) underlying129 rfl pH) rfl ?_;exact⟨by rw[hl.out];rfl,Ri ((di w _ none).trans z) (iw _) (EH w1 _ _ _ _ _)⟩):P:=h
theorem yt (s:aA)(w:A)(hs:s.size<=2000)(h0:0<s.size)(hn:U7 s 0=true):aq 112 #[.string s] w (au w (MW s)):=by
 have HN:Hid (U7 s 0=true):=hn;clear hn;go_enter func112,ntmps112;go_wp2
 go_loop [3] (λv=>∃k:Nat,1<=k/\k<=s.size/\v=Y k/\Hid (Zt Zk s k=Zt Zk s 1)) (λv=>s.size-(intOf v).toNat)
 case atStart=>exact⟨1,J,J,rfl,rfl⟩
 case round=>
  obtain⟨k,Vo,I,rfl,Yi⟩:=hrel;by_cases VS:k<s.size
  ·have XK:=UC VS;by_cases hD:Zk (ZI s k)=true
   ·have cD:Zk (s[k].toNat:Int)=true:=by rw[<-XK];exact hD
    have WI:Hid (Zt Zk s (k+1)=Zt Zk s 1):=by rw[<-Yi.out];exact(Qf _ _ _ VS hD).symm
    clear XK hD Yi;go_wp2_with (go_at_call 111;refine(M5 _ _).mono ?_;rintro e w' ⟨rfl,Zf⟩;subst w');exact oN
   ·have cD:Zk (s[k].toNat:Int)=false:=by rw[<-XK];simpa using hD
    have he:Hid (k=Zt Zk s 1):=by rw[<-Yi.out];exact(OS _ _ _ (by simpa using hD)).symm
    clear XK hD Yi;exact jv
  ·have he:Hid (k=Zt Zk s 1):=by rw[<-Yi.out];exact(Kw _ _ _ J).symm
   have V6:(s.size:Int)<=(k:Int):=J;clear VS Yi;exact jv
end
section
open Go.RowKit
def Tp (s:aA):aF:=if Vp (ZI s 0)then MZ s else if U7 s 0 then MW s else Ks s
theorem aec (s:aA):∃so tx v,MZ s=.agg #[Y so,.string tx,Y v,Y 0]:=by
 unfold MZ M0 NZ;split
 ·exact⟨_,_,_,rfl⟩
 ·exact⟨_,_,_,rfl⟩
theorem yr (s:aA):∃so tx v,MW s=.agg #[Y so,.string tx,Y v,Y 0]:=by
 unfold MW M0 NZ;split
 ·exact⟨_,_,_,rfl⟩
 ·exact⟨_,_,_,rfl⟩
theorem Cu (s:aA):∃so tx v,Ks s=.agg #[Y so,.string tx,Y v,Y 0]:=by
 unfold Ks M0 NZ;split
 ·exact⟨_,_,_,rfl⟩
 ·exact⟨_,_,_,rfl⟩
def ow{P:Prop}(h:P:=by
 refine iq (fg rfl _ _ w.heap.size 129 _ _ _ rfl (N0 hB _ _ _ _) underlying129 rfl pH) rfl ?_;exact⟨by rw[hv.out],Ri ((di w _ none).trans z) (iw _) (EH w1 _ _ _ _ _)⟩):P:=h
def jA{P:Prop}(h:P:=by
 go_wp2_with (first|(go_at_call 109;refine(I8 _ _).mono ?_;rintro e w' ⟨rfl,Zf⟩;subst w')|(go_at_call 111;refine(M5 _ _).mono ?_;rintro e w' ⟨rfl,Zf⟩;subst w')|(go_at_call 113;refine(HC.out _).mono ?_;rintro e w1 ⟨rfl,z⟩;obtain⟨hB,c0,c1,c2,c3,f0,f1,f2,f3⟩:=EG z))
 exact ow):P:=h
def jC{P:Prop}(h:P:=by
 exact ow):P:=h
def nV{P:Prop}(h:P:=by
 have HC:Hid (∀w:A,aq 113 #[.string s] w λe w'=>e=.returned (.agg #[Y so,.string tx,Y v,Y 0])/\aB w w'):=λw=>by rw[<-hv];exact yx s w hs h0
 have hv:Hid (Tp s=_):=(show Tp s=_ from by unfold Tp;rw[iQ hL,iQ hn]).trans hv;go_enter func66,ntmps66;clear hL hb hD hn VR;exact jA):P:=h
def nX{P:Prop}(h:P:=by
 go_wp2_with (first|(go_at_call 109;refine(I8 _ _).mono ?_;rintro e w' ⟨rfl,Zf⟩;subst w')|(go_at_call 111;refine(M5 _ _).mono ?_;rintro e w' ⟨rfl,Zf⟩;subst w')|(go_at_call 112;refine(HC.out _).mono ?_;rintro e w1 ⟨rfl,z⟩;obtain⟨hB,c0,c1,c2,c3,f0,f1,f2,f3⟩:=EG z))
 exact jC):P:=h
theorem yq (s:aA)(w:A)(hs:s.size<=2000)(h0:0<s.size):aq 66 #[.string s] w (au w (Tp s)):=by
 have hb:=UC h0;by_cases hL:Vp (ZI s 0)=true
 ·have cL:Vp (s[0].toNat:Int)=true:=by rw[<-hb];exact hL
  obtain⟨so,tx,v,hv⟩:=aec s;have HC:Hid (∀w:A,aq 110 #[.string s] w λe w'=>e=.returned (.agg #[Y so,.string tx,Y v,Y 0])/\aB w w'):=λw=>by rw[<-hv];exact adT s w hs h0
  have hv:Hid (Tp s=_):=(show Tp s=_ from by unfold Tp;rw[iR hL]).trans hv;go_enter func66,ntmps66;clear hL hb;go_wp2_with (first|(go_at_call 109;refine(I8 _ _).mono ?_;rintro e w' ⟨rfl,Zf⟩;subst w')|(go_at_call 111;refine(M5 _ _).mono ?_;rintro e w' ⟨rfl,Zf⟩;subst w')|(go_at_call 110;refine(HC.out _).mono ?_;rintro e w1 ⟨rfl,z⟩;obtain⟨hB,c0,c1,c2,c3,f0,f1,f2,f3⟩:=EG z))
  exact jC
 ·have cL:Vp (s[0].toNat:Int)=false:=by rw[<-hb];simpa using hL
  by_cases hD:Zk (ZI s 0)=true
  ·have cD:Zk (s[0].toNat:Int)=true:=by rw[<-hb];exact hD
   have hn:U7 s 0=true:=by simp[U7,hD]
   obtain⟨so,tx,v,hv⟩:=yr s;have HC:Hid (∀w:A,aq 112 #[.string s] w λe w'=>e=.returned (.agg #[Y so,.string tx,Y v,Y 0])/\aB w w'):=λw=>by rw[<-hv];exact yt s w hs h0 hn
   have hv:Hid (Tp s=_):=(show Tp s=_ from by unfold Tp;rw[iQ hL,iR hn]).trans hv;go_enter func66,ntmps66;clear hL hb hD hn;exact nX
  ·have cD:Zk (s[0].toNat:Int)=false:=by rw[<-hb];simpa using hD
   by_cases VR:ZI s 0=45
   ·have UT:((s[0].toNat:Int)==45)=true:=by rw[<-hb];simpa using VR
    by_cases F:1<s.size
    ·have bG:(1:Int)<s.size:=J;have bb:=UC F;by_cases hE:Zk (ZI s 1)=true
     ·have cE:Zk (s[1].toNat:Int)=true:=by rw[<-bb];exact hE
      have hn:U7 s 0=true:=by simp[U7,hE,VR]
      obtain⟨so,tx,v,hv⟩:=yr s;have HC:Hid (∀w:A,aq 112 #[.string s] w λe w'=>e=.returned (.agg #[Y so,.string tx,Y v,Y 0])/\aB w w'):=λw=>by rw[<-hv];exact yt s w hs h0 hn
      have hv:Hid (Tp s=_):=(show Tp s=_ from by unfold Tp;rw[iQ hL,iR hn]).trans hv;go_enter func66,ntmps66;clear hL hb hD hn VR bb hE;exact nX
     ·have cE:Zk (s[1].toNat:Int)=false:=by rw[<-bb];simpa using hE
      have hn:¬U7 s 0=true:=by simp[U7,hE,hD]
      obtain⟨so,tx,v,hv⟩:=Cu s;have HC:Hid (∀w:A,aq 113 #[.string s] w λe w'=>e=.returned (.agg #[Y so,.string tx,Y v,Y 0])/\aB w w'):=λw=>by rw[<-hv];exact yx s w hs h0
      have hv:Hid (Tp s=_):=(show Tp s=_ from by unfold Tp;rw[iQ hL,iQ hn]).trans hv;go_enter func66,ntmps66;clear hL hb hD hn VR bb hE;exact jA
    ·have bG:decide ((1:Int)<s.size)=false:=pI;have hn:¬U7 s 0=true:=by
      have:=LZ (s:=s) (i:=1) J;simp[U7,hD,this];intro _;rfl
     obtain⟨so,tx,v,hv⟩:=Cu s;exact nV
   ·have UT:((s[0].toNat:Int)==45)=false:=by rw[<-hb];simpa using VR
    have hn:¬U7 s 0=true:=by simp[U7,VR,hD]
    obtain⟨so,tx,v,hv⟩:=Cu s;exact nV
end
section
open Go.RowKit
theorem aed (s:aA):Ta s≠0:=by
 unfold Ta
 repeat' split
 all_goals decide
theorem yo (s:aA)(h0:0<s.size)(h:Wh s 0≠0):UN (s.extract 0 (Wh s 0))≠0:=by
 unfold Wh at h⊢;by_cases h2:Sp (ZI s 0) (ZI s (0+1))=true
 ·rw[iR h2]at h⊢;have hz:2<=s.size:=by
   by_cases q:0+1<s.size
   ·omega
   ·rw[EM s 0 q]at h2;simp at h2
  have:=yz s hz;rw[show(1:Nat)=0+1 from rfl,h2]at this;simpa using this
 ·rw[iQ h2]at h⊢;by_cases F:Qe (ZI s 0)=true
  ·rw[iR F];have:=yy s h0;rw[F]at this;simpa using this
  ·rw[iQ F]at h;exact absurd rfl h
theorem aee (t:aA)(h0:0<t.size)(l:Nat):((Zd t 0).1=0->Tp t=M0)/\((Zd t 0).1≠0->Tp t=NZ (Z6 ⟨t.extract 0 (Zd t 0).1,(Zd t 0).2,l⟩) (t.extract 0 (Zd t 0).1) (ZW ⟨t.extract 0 (Zd t 0).1,(Zd t 0).2,l⟩) 0
   /\Z6 ⟨t.extract 0 (Zd t 0).1,(Zd t 0).2,l⟩≠0):=by
 unfold Tp;by_cases hn:U7 t 0=true
 ·have hL:¬Vp (ZI t 0)=true:=by
   simp only[U7,fk,eC,iD]at hn;rcases hn with hn|hn
   ·simp[Zk]at hn;simp[Vp];omega
   ·rw[hn.1];decide
  have ht:Zd t 0=if 10<Zt Zk t 1 then(0,105)else(Zt Zk t 1,105):=by simp[Zd,hn]
  rw[iQ hL,iR hn,ht];unfold MW;by_cases c:10<Zt Zk t 1
  ·simp[iR c]
  ·have hp:=RU Zk t 1;rw[iQ c,iQ c];exact⟨λh=>by simp at h;omega,λ_=>⟨rfl,by simp[Z6]⟩⟩
 ·by_cases hL:Vp (ZI t 0)=true
  ·have ht:Zd t 0=if 8<Zt YC t 1 then(0,110)else(Zt YC t 1,if Rm (t.extract 0 (Zt YC t 1))then 107 else 110):=by simp[Zd,hn,hL]
   rw[iR hL,ht];unfold MZ;by_cases c:8<Zt YC t 1
   ·simp[iR c]
   ·have hp:=RU YC t 1;rw[iQ c,iQ c];refine⟨λh=>by simp at h;omega,λ_=> ?_⟩
    have e1:∀b:Bool,Z6 ⟨t.extract 0 (Zt YC t 1),if b then 107 else 110,l⟩=Ta (t.extract 0 (Zt YC t 1)):=λb=>by cases b<;>simp[Z6]
    have e2:∀b:Bool,ZW ⟨t.extract 0 (Zt YC t 1),if b then 107 else 110,l⟩=0:=λb=>by cases b<;>simp[ZW]
    exact⟨by simp only[e1,e2],by simp only[e1];exact aed _⟩
  ·have ht:Zd t 0=if Wh t 0=0 then(0,115)else(Wh t 0,115):=by simp[Zd,hn,hL]
   rw[iQ hL,iQ hn,ht];unfold Ks;by_cases c:Wh t 0=0
   ·simp[iR c]
   ·rw[iQ c,iQ c];exact⟨λh=>absurd h c,λ_=>⟨by simp[Z6,ZW],by simp[Z6];exact yo t h0 c⟩⟩
theorem aef (s:aA)(i:Nat)(h:i<s.size)(l:Nat):((Zd s i).1=0->Tp (s.extract i s.size)=.agg #[Y 0,.string .empty,Y 0,Y 0])/\((Zd s i).1≠0->Tp (s.extract i s.size)=.agg #[Y (Z6 ⟨s.extract i (Zd s i).1,(Zd s i).2,l⟩),.string (s.extract i (Zd s i).1),Y (ZW ⟨s.extract i (Zd s i).1,(Zd s i).2,l⟩),Y 0]
   /\Z6 ⟨s.extract i (Zd s i).1,(Zd s i).2,l⟩≠0):=by
 obtain⟨h2,h3,h4⟩:=yB s i h;have hz:=Rk s i s.size J (iw _);have hf:=aee (s.extract i s.size) J l;by_cases c:(Zd (s.extract i s.size) 0).1=0
 ·exact⟨λ_=>hf.1 c,λq=>absurd (h3 c) q⟩
 ·have e:=h4 c;have hle:=I9 (s.extract i s.size) 0 J;have ex:=Cw s i (Zd (s.extract i s.size) 0).1 J J;refine⟨λq=>by have:=h4 c;omega,λ_=> ?_⟩
  rw[h2,e,<-ex];exact hf.2 c
theorem aeg (s:aA):∀(m k:Nat),k+m=s.size->Lib.indexByte (s.data.toList.drop k) 10=if Zt Xn s k=s.size then-1 else((Zt Xn s k:Int)-k):=by
 have hl:s.data.toList.length=s.size:=qR;intro m
 induction m with
 |zero=>
  intro k h;rw[bF J,Kw Xn s k J,iR J];rfl
 |succ m ih=>
  intro k h;have I:k<s.size:=J;have hb:=UC I;rw[aR J];have e0:s.data.toList[k]=s[k]:=rfl;rw[e0];simp only[Lib.indexByte];by_cases c:s[k]=10
  ·have e:Zt Xn s k=k:=OS _ _ _ (by rw[hb,c];rfl);have c2:(s[k]==10)=true:=uR;rw[iR c2,e,iQ J];omega
  ·have c':(s[k]==10)=false:=qT;have ne:ZI s k≠10:=λq=>c (fP.1 (by have:(UInt8.toNat 10:Int)=10:=rfl;omega))
   have e:=Qf Xn s k I (by have:=CF I;simp[Xn];omega);have hle:=RU Xn s (k+1);rw[c',e,ih (k+1) J];simp only[dv,iK];by_cases q:Zt Xn s (k+1)=s.size
   ·rw[iR q,iR q];rfl
   ·rw[iQ q,iQ q];have:¬((Zt Xn s (k+1):Int)-((k+1:Nat):Int)==-1)=true:=pI;rw[iQ this];omega
theorem aeh (s:aA)(w:A)(hs:s.size<=2000):aq 65 #[.string s] w λe w'=>e=.returned (Y (Zt Xn s 0))/\w'=w:=by
 have hi:=aeg s s.size 0 J;rw[fW]at hi;have hz:=QY Xn s 0 J;by_cases q:Zt Xn s 0=s.size
 ·rw[iR q]at hi;have HI:Hid (Lib.indexByte s.data.toList 10=-1):=hi;have HQ:Hid (Zt Xn s 0=s.size):=q;clear hi q hz;go_enter func65,ntmps65;go_wp2_with (go_at_call 108;refine(Tryz.strings_IndexByte s 10 _).mono ?_;rw[show((10:Int).toNat.toUInt8)=10 from rfl,HI.out];rintro e w' ⟨rfl,Zf⟩;subst w');go_ret;exact⟨QX (by rw[HQ.out]),rfl⟩
 ·rw[iQ q]at hi;have HI:Hid (Lib.indexByte s.data.toList 10=((Zt Xn s 0:Nat):Int)):=by rw[Hid,hi];omega
  obtain⟨k,I⟩:∃k,k=Zt Xn s 0:=⟨_,rfl⟩;rw[<-I]at HI hz⊢;clear hi q I;go_enter func65,ntmps65;go_wp2_with (go_at_call 108;refine(Tryz.strings_IndexByte s 10 _).mono ?_;rw[show((10:Int).toNat.toUInt8)=10 from rfl,HI.out];rintro e w' ⟨rfl,Zf⟩;subst w');go_ret;exact⟨rfl,rfl⟩
end
section
open Go.RowKit
def U6 (t:ZY):ay:=[Y (Z6 t),.string t.s,Y (ZW t),Y t.line]
def Wf (l:List ZY):ay:=l.flatMap U6
theorem yn (l:List ZY)(t:ZY):Wf (l++[t])=Wf l++[Y (Z6 t),.string t.s,Y (ZW t),Y t.line]:=by
 simp[Wf,U6]
theorem Ct:(prog.info? 129).map (λi=>(i.zero,i.size,i.bytes))=some (some (.agg #[Y 0,.string .empty,Y 0,Y 0]),4,40):=pH
theorem XY (v:aF):v.ownBlock=none\/v.ownBlock≠none:=by cases v.ownBlock<;>simp
def yl (s:aA)(w:A)(vl aj vi:aF)(wr:A):Prop:=
 ∃(i line f:Nat) (acc:List ZY),i<=s.size/\vi=Y i/\aj=Y line/\line<=i+1/\acc.length<=i/\s.size<=i+f/\Hid (Ym s f i line acc=lex s)/\1<=line/\
  wr.ownsRow w.heap.size 129 4 vl acc.length (Wf acc)/\Below w.heap.size w wr
theorem yj (a:Int)(b:aA)(c d:Int):∀u∈[Y a,.string b,Y c,Y d],u.oneCell'=true:=by
 intro u hu;simp at hu;rcases hu with rfl|rfl|rfl|rfl<;>rfl
theorem aei {s:aA}{w wr w1 w2:A}{vl v':aF}{o o':Obj}{i k line f:Nat}{kind:Int}{acc:List ZY}(Vo:i<k)(V3:k<=s.size)(GZ:line<=i+1)(ar:1<=line)(Rh:acc.length<=i)(hf:s.size<=i+(f+1))(hl:Hid (Ym s f k line (acc++[⟨s.extract i k,kind,line⟩])=lex s))(ZO:wr.ownsRow w.heap.size 129 4 vl acc.length (Wf acc))(hb:Below w.heap.size w wr)(z:aB wr w1)(YA:w2.ownsRow w.heap.size 129 4 v' (acc.length+1) (Wf acc++[Y (Z6 ⟨s.extract i k,kind,line⟩),.string (s.extract i k),Y (ZW ⟨s.extract i k,kind,line⟩),Y line]))(YN:((w1.alloc o).alloc o').grownBy w2 vl.ownBlock):yl s w v' (Y line) (Y k) w2:=by
 refine⟨k,line,f,acc++[⟨s.extract i k,kind,line⟩],V3,rfl,rfl,J,by simp;omega,J,hl,ar,?_,?_⟩
 ·rw[yn];simpa using YA
 ·have bb:Below w.heap.size w w1:=hb.grown z hb.size (λj hj=>by cases hj)
  exact((bb.alloc bb.size o).alloc (by have:=bb.size;simp;omega) o').grown YN (by have:=bb.size;simp;omega) (λj hj=>(ZO.lt j hj).1)
def kM{P:Prop}(h:P:=by
 clear XP YO Yb Yc;go_wp2;go_roundw
 case rel=>exact⟨i+1,line,f,acc,J,pQ,rfl,J,J,J,hl,J,ZO,hb⟩
 case measure=>simp[intOf];omega):P:=h
theorem yi (s:aA)(w:A)(hs:s.size<=2000):aq 43 #[.string s] w λe w'=>∃v,e=.returned (.tuple #[v,Y (lex s).1])/\
   ((lex s).1=0->w'.ownsRow w.heap.size 129 4 v ((lex s).2.1.length+1) (Wf ((lex s).2.1++[Qd (lex s).2.2])))/\Below w.heap.size w w':=by
 obtain⟨i0,hi,Ze,Zq,Zn⟩:=iE Ct;go_enter func43,ntmps43;go_wp2
 go_loopw [4,5,6] (λvl aj vi wr=>yl s w vl aj vi wr) (λ_ _ vi _=>s.size-(intOf vi).toNat)
 case atStart=>exact⟨0,1,s.size,[],iz _,rfl,rfl,J,pG,J,rfl,J,ed _ _ _ _,iC _ _⟩
 case round=>
  obtain⟨i,line,f,acc,aN,rfl,rfl,GZ,Rh,hf,YO,ar,ZO,hb⟩:=hrel;by_cases ZR:i<s.size
  ·obtain⟨f,rfl⟩:∃g,f=g+1:=⟨f-1,J⟩;have Yb:=UC ZR;by_cases XP:ZI s i=10
   ·have hl:Hid (Ym s f (i+1) (line+1) acc=lex s):=sZ;have ba:((s[i].toNat:Int)==10)=true:=by rw[<-Yb,XP];rfl
    clear Yb XP YO;go_wp2;go_roundw
    case rel=>exact⟨i+1,line+1,f,acc,J,pQ,pQ,J,J,J,hl,J,ZO,hb⟩
    case measure=>simp[intOf];omega
   ·have ba:((s[i].toNat:Int)==10)=false:=by rw[<-Yb];simpa using XP
    by_cases Yc:ZI s i=32\/ZI s i=9
    ·have hl:Hid (Ym s f (i+1) line acc=lex s):=sL;rcases Yc with Yc|Yc
     ·have ax:((s[i].toNat:Int)==32)=true:=tA;exact kM
     ·have ax:((s[i].toNat:Int)==32)=false:=by rw[<-Yb,Yc];rfl
      have c9:((s[i].toNat:Int)==9)=true:=tA;exact kM
    ·have ax:((s[i].toNat:Int)==32)=false:=sR;have c9:((s[i].toNat:Int)==9)=false:=sR;by_cases aw:ZI s i=37
     ·have hl:Hid (Ym s f (Zt Xn s i) line acc=lex s):=sS;have aH:((s[i].toNat:Int)==37)=true:=by rw[<-Yb,aw];rfl
      have b7:Zt Xn s i=Zt Xn s (i+1):=Qf _ _ _ ZR (by rw[aw];rfl);have aI:=RU Xn s (i+1);have aP:=QY Xn s i J;have aC:=Cx Xn s i 0 J;have hz:=Rk s i s.size J (iw _);obtain⟨d,hd⟩:∃d,d=Zt Xn (s.extract i s.size) 0:=⟨_,rfl⟩;have HC:Hid (∀w:A,aq 65 #[.string (s.extract i s.size)] w λe w'=>e=.returned (Y d)/\w'=w):=λw=>by rw[hd];exact aeh _ w J
      rw[<-hd]at aC;rw[show i+0=i from rfl]at aC;rw[<-aC]at hl b7 aP;have aL:d<=2000:=J;have HG:Hid (i+1<=i+d/\i+d<=s.size):=by unfold Hid;omega
      clear XP YO Yb Yc b7 aI aP aw aC hd hz;go_wp2_with (go_at_call 65;refine(HC.out _).mono ?_;rintro e w' ⟨rfl,Zf⟩;subst w');go_roundw
      case rel=>exact⟨i+d,line,f,acc,HG.out.2,pQ,rfl,by have:=HG.out;omega,by have:=HG.out;omega,by have:=HG.out;omega,hl,J,ZO,hb⟩
      case measure=>have:=HG.out;simp[intOf];omega
     ·have aH:((s[i].toNat:Int)==37)=false:=by rw[<-Yb];simpa using aw
      have aa:=aef s i ZR line;have hz:=Rk s i s.size J (iw _);have Xm:=I9 s i ZR;have af:=EP s i;by_cases h0:(Zd s i).1=0
      ·have hl:Hid (lex s=(line,[],line)):=by
        rw[<-YO.out];exact CE ZR XP Yc aw h0
       have HC:Hid (∀w:A,aq 66 #[.string (s.extract i s.size)] w λe w'=>e=.returned (.agg #[Y 0,.string .empty,Y 0,Y 0])/\aB w w'):=λw=>by
        rw[<-aa.1 h0];exact yq _ w J J
       have Kq:Hid (1<=line):=ar;clear XP YO Yb Yc aw aa hz Xm af h0;go_wp2_with (go_at_call 66;refine(HC.out _).mono ?_;rintro e w1 ⟨rfl,z⟩)
       go_ret2
       rw[hl.out];exact⟨_,rfl,λq=>absurd q (by have:=Kq.out;simp;omega),(hb.grown z hb.size (λj hj=>by cases hj)).alloc (by have:=hb.size;have:=z.size;omega) _⟩
      ·obtain⟨k,kind,ht⟩:∃k kind,Zd s i=(k,kind):=⟨_,_,rfl⟩;rw[ht]at aa Xm af h0;simp only at aa Xm af h0;have LY:=af h0;obtain⟨b9,ZP⟩:=aa.2 h0;have HC:Hid (∀w:A,aq 66 #[.string (s.extract i s.size)] w λe w'=>e=.returned (.agg #[Y (Z6 ⟨s.extract i k,kind,line⟩),.string (s.extract i k),Y (ZW ⟨s.extract i k,kind,line⟩),Y 0])/\aB w w'):=λw=>by
        rw[<-b9];exact yq _ w J J
       have hl:Hid (Ym s f k line (acc++[⟨s.extract i k,kind,line⟩])=lex s):=by
        rw[<-YO.out,yG ZR XP Yc aw (by rw[ht];exact h0),ht];rfl
       have Yw:((s.extract i k).size:Int)=(k:Int)-i:=by rw[Rk s i k J Xm];omega
       have aQ:(Z6 ⟨s.extract i k,kind,line⟩==0)=false:=ux;clear XP YO Yb Yc aw aa hz af h0 ht b9 ZP;go_wp2_with (first|(go_at_call 66;refine(HC.out _).mono ?_;rintro e w1 ⟨rfl,z⟩;have Ue:=ZO.kept z (XY _))|(at_builtin;refine ey _ rfl _ _ 85 rfl w.heap.size 129 i0 (.agg #[Y 0,.string .empty,Y 0,Y 0]) 4 40 underlying85 hi Ze Zq Zn rfl pF _ _ _ rfl ((Ue.alloc _).alloc _) (ah (w1.heap.size+1)) 1 1 [Y (Z6 ⟨s.extract i k,kind,line⟩),.string (s.extract i k),Y (ZW ⟨s.extract i k,kind,line⟩),Y line] rfl rfl (World.news_of_block (fR _ _ _)) (yj _ _ _ _) ?c3 ?c4 ?c5 ?_))
       case c3=>unfold maxLen;omega
       case c4=>omega
       case c5=>have:=hb.size;have:=z.size;simp;omega
       intro v' w2 YA YN _;have R:=aei LY Xm GZ ar Rh hf hl ZO hb z YA YN;have cS:ak w2 w1.heap.size 1 (.string (s.extract i k)):=YN.cell pG (by have:=ZO.lt;cases h:u4.ownBlock with|none=>simp|some q=>have:=(ZO.lt q h).2;have:=z.size;simp;omega)
       clear YA YN ZO Ue;go_wp2;go_roundw
       case rel=>rw[show((i:Int)+((k-i:Nat):Int))=(k:Int) by omega];exact R
       case measure=>simp[intOf];omega
  ·obtain rfl:i=s.size:=J;have hl:Hid (lex s=(0,acc,line)):=sH;clear YO;go_wp2_with (at_builtin;refine ey _ rfl _ _ 85 rfl w.heap.size 129 i0 (.agg #[Y 0,.string .empty,Y 0,Y 0]) 4 40 underlying85 hi Ze Zq Zn rfl pF _ _ _ rfl (ZO.alloc _) (ah wr.heap.size) 1 1 [Y 1,.string .empty,Y 0,Y line] rfl rfl (World.news_of_block (gp _ _)) (yj _ _ _ _) ?c3 ?c4 ?c5 ?_)
   case c3=>unfold maxLen;omega
   case c4=>omega
   case c5=>have:=hb.size;simp;omega
   intro v' w2 YA YN _;have aK:Below w.heap.size w w2:=(hb.alloc hb.size _).grown YN (by have:=hb.size;simp;omega) (λj hj=>(ZO.lt j hj).1)
   clear YN ZO;go_wp2
   go_ret2
   rw[hl.out];exact⟨_,rfl,λ_=>by rw[yn];exact YA,aK⟩
end
section
open Go.RowKit
theorem yh:(prog.info? 146).map (·.size)=some 2:=pH
theorem yg:(prog.info? 5).map (λi=>(i.zero,i.size,i.bytes))=some (some (.int .u8 0),1,1):=pH
theorem aej (b:Nat)(w:A)(h0:ak w b 0 (ai b)):aq 124 #[ai b] w λe w'=>e=.returned (.tuple #[])/\w'=w:=by
 obtain⟨j,hj,_⟩:=bK.1 yh;go_enter func124,ntmps124;go_wp2;rw[Lib.run_neq_ptr_same w _ underlying144 hj];go_wp2;go_end0;exact⟨rfl,rfl⟩
theorem aek (b:Nat)(w:A)(h0:ak w b 0 (.pointer none))(hs:w.shape? b=some (146,2))(hf:w.frozen? (ah b)=false):aq 124 #[ai b] w λe w'=>e=.returned (.tuple #[])/\w'=w.setCell (ah b) (ai b):=by
 obtain⟨j,hj,aO⟩:=bK.1 yh;go_enter func124,ntmps124;go_wp2;rw[Lib.run_to_unsafe w (ah b) underlying144 underlying235 hj (by rw[aO];decide) hs (Nat.zero_lt_succ 1)];simp only[Result.andThen];rw[fM];go_wp2;rw[run_callFunc_extern func162 pH pH pH (e:=Extern.AbiNoEscape.same) pH];rw[Lib.run_noEscape];simp only[Result.andThen];rw[fM];go_wp2;rw[Lib.run_from_unsafe w (ah b) underlying235 underlying144 hj hs pH];simp only[Result.andThen];rw[fM];go_wp2;go_end0;exact⟨rfl,rfl⟩
theorem yf (B b:Nat)(bs:ay)(w:A)(h:Lib.IsBuilder 146 5 B b bs w):aq 124 #[ai b] w λe w'=>e=.returned (.tuple #[])/\Lib.BuilderAt 146 5 B b (ai b) bs w'/\w.grownBy w' (some b):=by
 rcases h with h|h
 ·exact(aek b w h.cell0 h.shape h.frozen0).mono λe w' hx=>by obtain⟨rfl,rfl⟩:=hx;exact⟨rfl,h.used _,ZC _ _ _ _⟩
 ·exact(aej b w h.cell0).mono λe w' hx=>by obtain⟨rfl,rfl⟩:=hx;exact⟨rfl,h,rfl,rfl,rfl,iw _,λ_ _ _=>rfl⟩
end
abbrev ZK:=Nat×Int
def RT:ZY:=⟨.empty,115,0⟩
def ZT (U:List ZY)(i:Nat):ZY:=U.getD i RT
def ZM (U:List ZY)(av:az)(st:ZK):ZK:=
 if st.2=0 then(if av.contains (Z6 (ZT U st.1))then(st.1+1,0)else(st.1,((ZT U st.1).line:Int)))else st
def XZ (U:List ZY)(sort:Int)(st:ZK):Bool:=st.2==0&&Z6 (ZT U st.1)==sort
structure XU where
 neg:Bool
 first:ZY
 name:ZY
structure Ud where
 first:ZY
 name:ZY
def XE (U:List ZY)(neg:Bool)(st:ZK):XU×ZK:=
 if Z6 (ZT U st.1)=3 then(⟨neg,ZT U st.1,ZT U (ZM U [21] (ZM U [3,2] st)).1⟩,ZM U [2] (ZM U [21] (ZM U [3,2] st)))
 else(⟨neg,ZT U st.1,ZT U st.1⟩,ZM U [3,2] st)
def Xh (U:List ZY)(st:ZK):Ud×ZK:=
 if Z6 (ZT U st.1)=22 then(⟨ZT U st.1,ZT U (ZM U [22,2] st).1⟩,ZM U [2] (ZM U [22,2] st))
 else(⟨ZT U st.1,ZT U st.1⟩,ZM U [22,2] st)
def VH (U:List ZY):Nat->List XU->ZK->List XU×ZK
 |0,acc,st=>(acc,st)
 |f+1,acc,st=>if XZ U 20 st||XZ U 23 st then VH U f (acc++[(XE U (Z6 (ZT U st.1)==23) (ZM U [20,23] st)).1]) (XE U (Z6 (ZT U st.1)==23) (ZM U [20,23] st)).2 else(acc,st)
def Vw (U:List ZY)(st:ZK):List XU×ZK:=VH U U.length [(XE U false st).1] (XE U false st).2
def VZ {α:Type}(U:List ZY)(one:ZK->α×ZK):Nat->List α->ZK->List α×ZK
 |0,acc,st=>(acc,st)
 |f+1,acc,st=>if XZ U 13 st then VZ U one f (acc++[(one (ZM U [13] st)).1]) (one (ZM U [13] st)).2 else(acc,st)
def Xg {α:Type}(U:List ZY)(one:ZK->α×ZK)(st:ZK):List α×ZK:=VZ U one U.length [(one st).1] (one st).2
def W8 (U:List ZY)(sort:Int)(st:ZK):ZY×ZK:=(ZT U st.1,ZM U [sort] st)
structure Ve (U:List ZY):Prop where
 pos:0<U.length
 last:Z6 (ZT U (U.length-1))=1
 len:U.length<=2001
theorem Ur {U:List ZY}(h:Ve U){av:az}(hs:av.contains 1=false){st:ZK}(hi:st.1<U.length):(ZM U av st).1<U.length:=by
 unfold ZM;split
 ·split
  ·rename_i hc;show st.1+1<U.length;rcases ib (st.1+1) U.length with q|q
   ·exact q
   ·have e:st.1=U.length-1:=J;rw[e,h.last,hs]at hc;exact absurd hc pG
  ·exact hi
 ·exact hi
theorem MV {U:List ZY}{av:az}{st:ZK}:st.1<=(ZM U av st).1:=by
 unfold ZM;split
 ·split
  ·exact ix _
  ·exact iw _
 ·exact iw _
theorem LU {U:List ZY}{av:az}{st:ZK}(h0:st.2=0)(h:av.contains (Z6 (ZT U st.1))=true):ZM U av st=(st.1+1,0):=by
 unfold ZM;rw[iR h0,iR h]
def mD{P:Prop}(h:P:=by
 split
 ·exact⟨a3,by show _<=(ZM U [2] _).1;omega⟩
 ·exact⟨a1,b1⟩):P:=h
theorem GY {U:List ZY}(h:Ve U)(neg:Bool){st:ZK}(hi:st.1<U.length):(XE U neg st).2.1<U.length/\st.1<=(XE U neg st).2.1:=by
 have a1:=Ur h (av:=[3,2]) rfl hi;have b1:=MV (U:=U) (av:=[3,2]) (st:=st);have a2:=Ur h (av:=[21]) rfl a1;have b2:=MV (U:=U) (av:=[21]) (st:=ZM U [3,2] st);have a3:=Ur h (av:=[2]) rfl a2;have b3:=MV (U:=U) (av:=[2]) (st:=ZM U [21] (ZM U [3,2] st));unfold XE;exact mD
theorem EF {U:List ZY}(h:Ve U){st:ZK}(hi:st.1<U.length):(Xh U st).2.1<U.length/\st.1<=(Xh U st).2.1:=by
 have a1:=Ur h (av:=[22,2]) rfl hi;have b1:=MV (U:=U) (av:=[22,2]) (st:=st);have a3:=Ur h (av:=[2]) rfl a1;have b3:=MV (U:=U) (av:=[2]) (st:=ZM U [22,2] st);unfold Xh;exact mD
theorem Cs {U:List ZY}{i:Nat}(h:i<U.length):U[i]?=some (ZT U i):=by
 unfold ZT;simp[h]
end Go.Proofs.YthpcbbnabnlanaaGreatDoor
