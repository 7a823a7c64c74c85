import Derived.Test.YthpcbbnabnlanaaGreatDoorM01
import Derived.Test.YthpcbbnabnlanaaGreatDoorProg
import Derived.WalkKit
import Derived.WalkSpells
import Derived.WalkLawsBesides
import Derived.Lib.Strings
import Derived.Deep.Light
import Derived.Laws.BytesArg
namespace Go.Proofs.YthpcbbnabnlanaaGreatDoor
set_option maxHeartbeats 2000000
set_option maxRecDepth 100000
open Go.Proofs.Tryz
set_option linter.all false
abbrev aq:=@Calls Tryz.prog
section
open Go.RowKit
theorem G6 {a b:Bool}(h:a=b):Ending.returned (.bool a)=.returned (.bool b):=by rw[h]
theorem QX {k:IntKind}{a b:Int}(h:a=b):Ending.returned (.int k a)=.returned (.int k b):=by rw[h]
def kF{P:Prop}(h:P:=by
 go_wp2
 all_goals go_ret
 all_goals simp):P:=h
theorem EO (c:Int)(w:A):aq 90 #[.int .u8 c] w λe w'=>e=.returned (.bool (Zk c))/\w'=w:=by
 unfold Zk;by_cases F:48<=c
 ·have e:(decide (48<=c)&&decide (c<=57))=decide (c<=57):=sk;rw[e];clear e;go_enter func90,ntmps90;exact kF
 ·have e:(decide (48<=c)&&decide (c<=57))=false:=sk;rw[e];clear e;go_enter func90,ntmps90;exact kF
theorem EN (c:Int)(w:A):aq 91 #[.int .u8 c] w λe w'=>e=.returned (.bool (Vp c))/\w'=w:=by
 unfold Vp;by_cases F:97<=c
 ·have e:(decide (97<=c)&&decide (c<=122))=decide (c<=122):=sk;rw[e];clear e;go_enter func91,ntmps91;exact kF
 ·have e:(decide (97<=c)&&decide (c<=122))=false:=sk;rw[e];clear e;go_enter func91,ntmps91;exact kF
theorem CC (s:aA)(w:A):aq 92 #[.string s] w λe w'=>e=.returned (.bool (Rm s))/\w'=w:=by
 have I:Hid (Rm s=(s.toList==[118,97,114]||s.toList==[108,105,115,116]||s.toList==[108,105,110]||s.toList==[119,104,101,110]||s.toList==[97,116]||s.toList==[100,105,102,102]||s.toList==[111,114])):=rfl;go_enter func92,ntmps92;go_wp2
 all_goals go_ret
 all_goals refine⟨G6 ?_,rfl⟩
 all_goals rw[I.out]
 all_goals simp[*]
theorem CB (s:aA)(i:Nat)(h:i+1<s.size)(a b:UInt8):((s.extract i (i+2)).toList==[a,b])=(ZI s i==(a.toNat:Int)&&ZI s (i+1)==(b.toNat:Int)):=by
 rw[Lib.extract_toList,UC h,UC (show i<s.size by omega)];have hl:s.data.toList.length=s.size:=qR;have e:(s.data.toList.drop i).take (i+2-i)=[s[i],s[i+1]]:=by
  rw[aR J,aR J];have:i+2-i=2:=J;rw[this];rfl
 rw[e,fj];simp only[iD,eC,fq,iI];constructor
 ·rintro⟨F,h2⟩;rw[F,h2];exact⟨rfl,rfl⟩
 ·rintro⟨F,h2⟩;exact⟨fP.1 J,fP.1 J⟩
theorem yF (s:aA)(i:Nat)(h:i+1<s.size):Sp (ZI s i) (ZI s (i+1))=((s.extract i (i+2)).toList==[33,61]||(s.extract i (i+2)).toList==[60,61]||(s.extract i (i+2)).toList==[46,46]):=by
 rw[CB s i h,CB s i h,CB s i h];rfl
theorem EM (s:aA)(i:Nat)(h:¬i+1<s.size):Sp (ZI s i) (ZI s (i+1))=false:=by
 rw[LZ (show s.size<=i+1 by omega)];simp[Sp]
def kC{P:Prop}(h:P:=by
 go_enter func93,ntmps93;go_wp2
 all_goals go_ret
 all_goals refine⟨QX ?_,rfl⟩
 all_goals unfold Wh
 all_goals rw[ht.out,ho.out]
 all_goals clear ht ho
 all_goals go_light
 all_goals first|(simp[*];done)|(simp_all;done)):P:=h
theorem yE (s:aA)(i:Nat)(w:A)(hs:s.size<=2000)(hi:i<s.size):aq 93 #[.string s,Y i] w λe w'=>e=.returned (Y (Wh s i))/\w'=w:=by
 have ho:Hid (Qe (ZI s i)=((s[i].toNat:Int)==59||(s[i].toNat:Int)==58||(s[i].toNat:Int)==44||(s[i].toNat:Int)==61||(s[i].toNat:Int)==91||(s[i].toNat:Int)==93||(s[i].toNat:Int)==43||(s[i].toNat:Int)==42||(s[i].toNat:Int)==33||(s[i].toNat:Int)==45)):=by
  rw[UC hi];rfl
 by_cases h2:i+1<s.size
 ·have ht:Hid (Sp (ZI s i) (ZI s (i+1))=_):=yF s i h2;have aG:(i:Int)+1<s.size:=J;exact kC
 ·have ht:Hid (Sp (ZI s i) (ZI s (i+1))=false):=EM s i h2;have aG:(s.size:Int)<=(i:Int)+1:=J;exact kC
end
section
open Go.RowKit
def UU (s:aA):Prop:=0<s.size/\s.size<=10/\∀i,i<s.size->Zk (ZI s i)=true\/ZI s i=45
def Xt (s:aA):Nat->Int
 |0=>0
 |i+1=>if ZI s i=45 then Xt s i else 10*Xt s i+(ZI s i-48)
def YU (s:aA):Int:=if ZI s 0=45 then-Xt s s.size else Xt s s.size
theorem adE (s:aA)(h:UU s)(i:Nat)(hi:i<=s.size):0<=Xt s i/\Xt s i+1<=10 ^ i:=by
 induction i with
 |zero=>simp[Xt]
 |succ i ih=>
  have ih':=ih J;have hd:=h.2.2 i J;have e:(10:Int) ^ (i+1)=10*10 ^ i:=by rw[Int.pow_succ];omega
  simp only[Xt];rw[e];split
  ·omega
  ·rcases hd with hd|hd
   ·simp[Zk]at hd;omega
   ·omega
theorem CA (s:aA)(h:UU s)(i:Nat)(hi:i<=s.size):0<=Xt s i/\Xt s i<=9999999999:=by
 have F:=adE s h i hi;have h2:10 ^ i<=10 ^ 10:=cH J (show i<=10 by have:=h.2.1;omega);have e:(10:Nat) ^ 10=10000000000:=pF;have e2:(10:Int) ^ i=((10 ^ i:Nat):Int):=pG;omega
def lV{P:Prop}(h:P:=by
 go_wp2
 go_round
 case rel=>exact⟨i+1,J,pQ,by rw[hn.out]⟩
 case measure=>simp[intOf];omega):P:=h
def mB{P:Prop}(h:P:=by
 clear G5 VR;go_wp2;go_ret;exact⟨QX (by rw[hv.out]),rfl⟩):P:=h
theorem EL (s:aA)(h:UU s)(w:A):aq 99 #[.string s] w λe w'=>e=.returned (Y (YU s))/\w'=w:=by
 have Yw:=h.2.1;have Z:=h.1;have H:=CA s h;have HH:Hid (∀i,i<=s.size->0<=Xt s i/\Xt s i<=9999999999):=H;have HI:Hid (UU s):=h;clear h H;go_enter func99,ntmps99;go_wp2
 go_loop [3,4] (λvn vi=>∃i:Nat,i<=s.size/\vi=Y i/\vn=Y (Xt s i)) (λ_ vi=>s.size-(intOf vi).toNat)
 case atStart=>exact⟨0,J,rfl,rfl⟩
 case round=>
  obtain⟨i,hi,rfl,rfl⟩:=hrel;have bD:=HH.out i hi;by_cases ZR:i<s.size
  ·have Yb:=UC ZR;have br:=HH.out (i+1) ZR;have hd:=HI.out.2.2 i ZR;by_cases VR:ZI s i=45
   ·have UT:((s[i].toNat:Int) != 45)=false:=by rw[<-Yb,VR];rfl
    have hn:Hid (Xt s (i+1)=Xt s i):=by simp[Hid,Xt,VR]
    clear Yb br hd VR;exact lV
   ·have UT:((s[i].toNat:Int) != 45)=true:=by rw[<-Yb];simpa using VR
    have af:48<=ZI s i/\ZI s i<=57:=by
     rcases hd with hd|hd
     ·simpa[Zk]using hd
     ·exact absurd hd VR
    have c1:(48:Int)<=(s[i].toNat:Int):=J;have c2:(s[i].toNat:Int)<=57:=J;have hn:Hid (Xt s (i+1)=10*Xt s i+((s[i].toNat:Int)-48)):=by rw[<-Yb];simp[Hid,Xt,VR]
    clear Yb br hd VR af;exact lV
  ·obtain rfl:i=s.size:=J;have G5:=UC Z;by_cases VR:ZI s 0=45
   ·have UT:((s[0].toNat:Int)==45)=true:=by rw[<-G5,VR];rfl
    have hv:Hid (YU s=-Xt s s.size):=by simp[Hid,YU,VR]
    exact mB
   ·have UT:((s[0].toNat:Int)==45)=false:=by rw[<-G5];simpa using VR
    have hv:Hid (YU s=Xt s s.size):=by simp[Hid,YU,VR]
    exact mB
end
theorem adF (p:Int->Bool)(s:aA)(f:Nat):∀(k j:Nat),k<=j->j<QG p s f k->p (ZI s j)=true:=by
 induction f with
 |zero=>intro k j F h2;simp only[QG]at h2;omega
 |succ f ih=>
  intro k j F h2;simp only[QG]at h2;by_cases c:p (ZI s k)=true
  ·rw[iR c]at h2;rcases Nat.eq_or_lt_of_le F with rfl|h
   ·exact c
   ·exact ih (k+1) j J h2
  ·rw[iQ c]at h2;omega
theorem G4 (p:Int->Bool)(s:aA)(k j:Nat)(F:k<=j)(h2:j<Zt p s k):p (ZI s j)=true:=adF p s _ k j F h2
theorem Rk (s:aA)(a b:Nat)(F:a<=b)(h2:b<=s.size):(s.extract a b).size=b-a:=by
 have e:=Lib.extract_data s a b;have hl:(s.extract a b).data.toList.length=(s.extract a b).size:=qR;have hs:s.data.toList.length=s.size:=qR;rw[<-hl,e,eP,eO,hs];omega
theorem Cz (s:aA)(i:Nat):ZI s i=((s.data.toList[i]?).map λc=>(c.toNat:Int)).getD 256:=by
 have hs:s.data.toList.length=s.size:=qR;by_cases h:i<s.size
 ·rw[UC h,aZ J];rfl
 ·rw[LZ J,bN J];rfl
theorem EK (s:aA)(a b j:Nat)(h:a+j<b)(h2:b<=s.size):ZI (s.extract a b) j=ZI s (a+j):=by
 rw[Cz,Cz,Lib.extract_data,bh J,dy]
def mZ{P:Prop}(h:P:=by
 rw[iR hl]at h0;exact absurd rfl h0):P:=h
theorem adG (s:aA)(i:Nat)(hi:i<s.size)(h0:(Zd s i).1≠0)(h:(Zd s i).2=105):UU (s.extract i (Zd s i).1):=by
 have Yw:=QY Zk s (i+1) J;have hle:=RU Zk s (i+1);unfold Zd at h h0⊢;by_cases hn:U7 s i=true
 ·rw[iR hn]at h h0⊢;by_cases hl:10<Zt Zk s (i+1)-i
  ·exact mZ
  ·rw[iQ hl];simp only;refine⟨?_,?_,λj hj=> ?_⟩
   ·rw[Rk s i _ J Yw];omega
   ·rw[Rk s i _ J Yw];omega
   ·rw[Rk s i _ J Yw]at hj;rw[EK s i _ j J Yw]
    cases j with
    |zero=>
     simp only[U7,fk,eC,iD]at hn;rcases hn with hn|hn
     ·exact .inl hn
     ·exact .inr hn.1
    |succ j=>exact .inl (G4 Zk s (i+1) (i+(j+1)) J J)
 ·rw[iQ hn]at h;by_cases hl:Vp (ZI s i)=true
  ·rw[iR hl]at h;split at h
   ·simp at h
   ·simp only at h;split at h<;>omega
  ·rw[iQ hl]at h;split at h<;>simp at h
theorem adH (s:aA)(f:Nat):∀(i line:Nat) (acc:List ZY),(∀t∈acc,t.kind=105->UU t.s)->∀t∈(Ym s f i line acc).2.1,t.kind=105->UU t.s:=by
 induction f with
 |zero=>intro i line acc h;exact h
 |succ f ih=>
  intro i line acc h;simp only[Ym];by_cases hi:i<s.size
  ·rw[iR hi];split
   ·exact ih _ _ _ h
   ·split
    ·exact ih _ _ _ h
    ·split
     ·exact ih _ _ _ h
     ·split
      ·intro t ht;simp at ht
      ·rename_i ZP;refine ih _ _ _ (λt ht I=> ?_)
       rcases fE.1 ht with ht|ht
       ·exact h t ht I
       ·obtain rfl:t=⟨s.extract i (Zd s i).1,(Zd s i).2,line⟩:=sq;exact adG s i hi ZP I
  ·rw[iQ hi];exact h
theorem Cy (s:aA):∀t∈(lex s).2.1,t.kind=105->UU t.s:=adH s s.size 0 1 [] (λt ht=>tW)
theorem adI (s:aA)(f:Nat):∀(i line:Nat) (acc:List ZY),1<=line->(∀t∈acc,1<=t.line)->∀t∈(Ym s f i line acc).2.1,1<=t.line:=by
 induction f with
 |zero=>intro i line acc _ h;exact h
 |succ f ih=>
  intro i line acc hl h;simp only[Ym];by_cases hi:i<s.size
  ·rw[iR hi];split
   ·exact ih _ _ _ J h
   ·split
    ·exact ih _ _ _ hl h
    ·split
     ·exact ih _ _ _ hl h
     ·split
      ·intro t ht;simp at ht
      ·refine ih _ _ _ hl (λt ht=> ?_)
       rcases fE.1 ht with ht|ht
       ·exact h t ht
       ·obtain rfl:t=⟨s.extract i (Zd s i).1,(Zd s i).2,line⟩:=sq;exact hl
  ·rw[iQ hi];exact h
theorem yD (s:aA):∀t∈(lex s).2.1,1<=t.line:=adI s s.size 0 1 [] J (λt ht=>tW)
def TY (s:aA):Nat->Nat
 |0=>0
 |k+1=>TY s k+if ZI s k=10 then 1 else 0
theorem adJ (s:aA)(k:Nat):TY s k<=k:=by
 induction k with
 |zero=>simp[TY]
 |succ k ih=>simp only[TY];split<;>omega
theorem adK (s:aA)(a:Nat):∀(d:Nat),(∀j,a<=j->j<a+d->ZI s j≠10)->TY s (a+d)=TY s a:=by
 intro d
 induction d with
 |zero=>intro _;rfl
 |succ d ih=>
  intro h;have F:=ih (λj F h2=>h j F J)
  have h2:=h (a+d) J J;show TY s (a+d)+(if ZI s (a+d)=10 then 1 else 0)=_
  rw[iQ h2,F];rfl
theorem yC (s:aA)(a b:Nat)(bM:a<=b)(h:∀j,a<=j->j<b->ZI s j≠10):TY s b=TY s a:=by
 have:=adK s a (b-a) (λj F h2=>h j F J)
 rwa [show a+(b-a)=b by omega]at this
theorem adL (s:aA)(i:Nat)(XP:ZI s i≠10)(h0:(Zd s i).1≠0)(j:Nat)(F:i<=j)(h2:j<(Zd s i).1):ZI s j≠10:=by
 rcases Nat.eq_or_lt_of_le F with rfl|F
 ·exact XP
 unfold Zd at h0 h2;by_cases hn:U7 s i=true
 ·rw[iR hn]at h0 h2;by_cases hl:10<Zt Zk s (i+1)-i
  ·exact mZ
  ·rw[iQ hl]at h2;have:=G4 Zk s (i+1) j J h2;intro e;rw[e]at this;simp[Zk]at this
 ·rw[iQ hn]at h0 h2;by_cases hl:Vp (ZI s i)=true
  ·rw[iR hl]at h0 h2;by_cases hb:8<Zt YC s (i+1)-i
   ·rw[iR hb]at h0;exact absurd rfl h0
   ·rw[iQ hb]at h2;have:=G4 YC s (i+1) j J h2;intro e;rw[e]at this;simp[YC,Vp,Zk]at this
  ·rw[iQ hl]at h0 h2;by_cases hz:Wh s i=0
   ·rw[iR hz]at h0;exact absurd rfl h0
   ·rw[iQ hz]at h2;simp only at h2;unfold Wh at h2 hz;by_cases aa:Sp (ZI s i) (ZI s (i+1))=true
    ·rw[iR aa]at h2;obtain rfl:j=i+1:=J;intro e;rw[e]at aa;simp[Sp]at aa
    ·rw[iQ aa]at h2;split at h2<;>omega
theorem adM (s:aA)(f:Nat):∀(i line:Nat) (acc:List ZY),s.size<=i+f->i<=s.size->line=1+TY s i->(Ym s f i line acc).1=0->0<line->(∀k,k<s.size->(Zd s k).1<=s.size)->(Ym s f i line acc).2.2=1+TY s s.size:=by
 induction f with
 |zero=>
  intro i line acc F h2 h3 _ _ _;obtain rfl:i=s.size:=J;exact h3
 |succ f ih=>
  intro i line acc F h2 h3 hb aX aC;simp only[Ym]at hb⊢;by_cases hi:i<s.size
  ·rw[iR hi]at hb⊢;by_cases XP:ZI s i=10
   ·rw[iR XP]at hb⊢;exact ih _ _ _ J J (by simp only[TY,XP];simp;omega) hb J aC
   ·rw[iQ XP]at hb⊢;by_cases Yc:ZI s i=32\/ZI s i=9
    ·rw[iR Yc]at hb⊢;exact ih _ _ _ J J (by simp only[TY];rw[iQ XP];omega) hb aX aC
    ·rw[iQ Yc]at hb⊢;by_cases aw:ZI s i=37
     ·rw[iR aw]at hb⊢;have b7:Zt Xn s i=Zt Xn s (i+1):=Qf _ _ _ hi (by rw[aw];rfl);have Ww:=RU Xn s (i+1);refine ih _ _ _ J (QY _ _ _ J) ?_ hb aX aC;rw[yC s i (Zt Xn s i) J (λj a1 a2 e=>by have:=G4 Xn s i j a1 a2;rw[e]at this;simp[Xn]at this)]
      exact h3
     ·rw[iQ aw]at hb⊢;by_cases h0:(Zd s i).1=0
      ·rw[iR h0]at hb;simp only at hb;omega
      ·rw[iQ h0]at hb⊢;have he:=EP s i h0;refine ih _ _ _ J (aC i hi) ?_ hb aX aC;rw[yC s i (Zd s i).1 J (λj a1 a2=>adL s i XP h0 j a1 a2)]
       exact h3
  ·rw[iQ hi];obtain rfl:i=s.size:=J;exact h3
def Ta (s:aA):Int:=
 if s.toList==[118,97,114]then 4 else if s.toList==[108,105,115,116]then 5 else if s.toList==[108,105,110]then 6 else if s.toList==[119,104,101,110]then 7
 else if s.toList==[97,116]then 8 else if s.toList==[100,105,102,102]then 9 else if s.toList==[111,114]then 10 else 2
def UN (s:aA):Int:=
 if s.toList==[59]then 11 else if s.toList==[58]then 12 else if s.toList==[44]then 13 else if s.toList==[61]then 14 else if s.toList==[33,61]then 15
 else if s.toList==[60,61]then 16 else if s.toList==[46,46]then 17 else if s.toList==[91]then 18 else if s.toList==[93]then 19 else if s.toList==[43]then 20
 else if s.toList==[42]then 21 else if s.toList==[33]then 22 else if s.toList==[45]then 23 else 0
def Z6 (t:ZY):Int:=if t.kind=105 then 3 else if t.kind=115 then UN t.s else if t.kind=101 then 1 else Ta t.s
def ZW (t:ZY):Int:=if t.kind=105 then YU t.s else 0
def Qd (line:Nat):ZY:=⟨.empty,101,line⟩
theorem I' (s:aA)(i j:Nat)(h:i<=s.size):ZI (s.extract i s.size) j=ZI s (i+j):=by
 by_cases hj:i+j<s.size
 ·exact EK s i s.size j hj (iw _)
 ·rw[LZ (show s.size<=i+j by omega),LZ];rw[Rk s i s.size h (iw _)];omega
theorem adN (p:Int->Bool)(s:aA)(i:Nat)(h:i<=s.size)(f:Nat):∀k,i+QG p (s.extract i s.size) f k=QG p s f (i+k):=by
 induction f with
 |zero=>intro k;rfl
 |succ f ih=>
  intro k;simp only[QG];rw[I' s i k h];by_cases c:p (ZI s (i+k))=true
  ·rw[iR c,iR c,ih (k+1)];rfl
  ·rw[iQ c,iQ c]
theorem Cx (p:Int->Bool)(s:aA)(i k:Nat)(h:i<=s.size):i+Zt p (s.extract i s.size) k=Zt p s (i+k):=by
 unfold Zt;rw[adN p s i h,Rk s i s.size h (iw _),show s.size-i-k=s.size-(i+k) by omega]
theorem Cw (s:aA)(i k:Nat)(h:i<=s.size)(I:i+k<=s.size):(s.extract i s.size).extract 0 k=s.extract i (i+k):=by
 apply gF;apply ez.1;rw[Lib.extract_data,Lib.extract_data,Lib.extract_data];rw[fW,List.take_take];congr 1;omega
theorem adO (s:aA)(i:Nat)(h:i<=s.size):U7 (s.extract i s.size) 0=U7 s i:=by
 unfold U7;rw[I' s i 0 h,I' s i (0+1) h];rfl
theorem adP (s:aA)(i:Nat)(h:i<=s.size):Wh (s.extract i s.size) 0=Wh s i:=by
 unfold Wh;rw[I' s i 0 h,I' s i (0+1) h];rfl
theorem yB (s:aA)(i:Nat)(h:i<s.size):(Zd s i).2=(Zd (s.extract i s.size) 0).2/\((Zd (s.extract i s.size) 0).1=0->(Zd s i).1=0)/\((Zd (s.extract i s.size) 0).1≠0->(Zd s i).1=i+(Zd (s.extract i s.size) 0).1):=by
 have hi:i<=s.size:=J;have r1:=Cx Zk s i (0+1) hi;have r2:=Cx YC s i (0+1) hi;have r0:=QY YC (s.extract i s.size) (0+1) (by rw[Rk s i _ hi (iw _)];omega);have r4:=QY Zk s (i+1) J;have r5:=QY YC s (i+1) J;have l1:=RU Zk (s.extract i s.size) (0+1);have l2:=RU YC (s.extract i s.size) (0+1);rw[Rk s i _ hi (iw _)]at r0;have r3:=Cw s i (Zt YC (s.extract i s.size) (0+1)) hi J;rw[r2]at r3;have b0:ZI (s.extract i s.size) 0=ZI s i:=by rw[I' s i 0 hi];rfl
 unfold Zd;rw[adO s i hi,adP s i hi,r3,b0];rw[show i+(0+1)=i+1 by omega]at *;generalize Zt Zk (s.extract i s.size) (0+1)=a at *;generalize Zt YC (s.extract i s.size) (0+1)=b at *;rw[<-r1,<-r2]
 repeat' split
 all_goals simp only[ne_eq,true_and,not_true_eq_false,false_implies,implies_true,iI]
 all_goals (try constructor)
 all_goals (try(intro _))
 all_goals (try omega)
theorem I9 (s:aA)(i:Nat)(h:i<s.size):(Zd s i).1<=s.size:=by
 have r4:=QY Zk s (i+1) J;have r5:=QY YC s (i+1) J;unfold Zd
 repeat' split
 all_goals simp only
 all_goals (try omega)
 rename_i hs;unfold Wh at hs⊢;by_cases h2:i+1<s.size
 ·split<;>(try split)<;>omega
 ·rw[EM s i h2];simp only[dv,iK];split<;>omega
section
open Go.RowKit
theorem M5 (c:Int)(w:A):aq 111 #[.int .u8 c] w λe w'=>e=.returned (.bool (Zk c))/\w'=w:=by
 unfold Zk;by_cases F:48<=c
 ·have e:(decide (48<=c)&&decide (c<=57))=decide (c<=57):=sk;rw[e];clear e;go_enter func111,ntmps111;exact kF
 ·have e:(decide (48<=c)&&decide (c<=57))=false:=sk;rw[e];clear e;go_enter func111,ntmps111;exact kF
theorem I8 (c:Int)(w:A):aq 109 #[.int .u8 c] w λe w'=>e=.returned (.bool (Vp c))/\w'=w:=by
 unfold Vp;by_cases F:97<=c
 ·have e:(decide (97<=c)&&decide (c<=122))=decide (c<=122):=sk;rw[e];clear e;go_enter func109,ntmps109;exact kF
 ·have e:(decide (97<=c)&&decide (c<=122))=false:=sk;rw[e];clear e;go_enter func109,ntmps109;exact kF
theorem adQ (s:aA)(w:A):aq 144 #[.string s] w λe w'=>e=.returned (Y (Ta s))/\w'=w:=by
 obtain⟨x,hx⟩:∃x,x=Ta s:=⟨_,rfl⟩;have I:Hid (x=Ta s):=hx;rw[<-hx];clear hx;go_enter func144,ntmps144;go_wp2
 all_goals go_ret
 all_goals refine⟨QX ?_,rfl⟩
 all_goals rw[I.out]
 all_goals clear I
 all_goals go_light
 all_goals simp_all [Ta]
theorem Cv (s:aA)(w:A):aq 146 #[.string s] w λe w'=>e=.returned (Y (UN s))/\w'=w:=by
 obtain⟨x,hx⟩:∃x,x=UN s:=⟨_,rfl⟩;have I:Hid (x=UN s):=hx;rw[<-hx];clear hx;go_enter func146,ntmps146;go_wp2
 all_goals go_ret
 all_goals refine⟨QX ?_,rfl⟩
 all_goals rw[I.out]
 all_goals clear I
 all_goals go_light
 all_goals simp_all [UN]
end
section
open Go.RowKit
def Rj (c n:Int):Int:=(if c<0 then-(c+1)else c).tmod n
theorem EJ (c n:Int)(hn:0<n):0<=Rj c n/\Rj c n<n:=by
 unfold Rj;have h:0<=(if c<0 then-(c+1)else c):=by split<;>omega
 exact⟨Int.tmod_nonneg _ h,Int.tmod_lt_of_pos _ hn⟩
theorem EI (c n:Int)(w:A)(Yu:-9223372036854775808<=c)(bn:c<=9223372036854775807)(hn:0<n)(bJ:n<=1000):aq 39 #[Y c,Y n] w λe w'=>e=.returned (Y (Rj c n))/\w'=w:=by
 have bz:(n==0)=false:=pI;by_cases hc:c<0
 ·have HP:Hid (Rj c n=(-(c+1)).tmod n):=by unfold Hid Rj;rw[iR hc]
  go_enter func39,ntmps39;go_wp2
  all_goals go_ret
  all_goals refine⟨QX ?_,rfl⟩
  all_goals rw[HP.out]
  exact(Int.neg_tmod ..).symm
 ·have HP:Hid (Rj c n=c.tmod n):=by unfold Hid Rj;rw[iQ hc]
  go_enter func39,ntmps39;go_wp2
  all_goals go_ret
  all_goals refine⟨QX ?_,rfl⟩
  all_goals rw[HP.out]
  exact(Int.tmod_eq_emod_of_nonneg ‹_›).symm
theorem adR (mark:Int)(w:A)(h0:0<=mark)(F:mark<=1000000000000):aq 104 #[Y mark] w λe w'=>∃t:aA,e=.returned (.string t)/\t.size=10/\Below w.heap.size w w':=by
 go_enter func104,ntmps104;go_wp2
 go_loopw [0,3,4] (λvm vt vk wr=>∃(k:Nat) (m:Int) (t:aA),k<=9/\0<=m/\m<=1000000000000/\vm=Y m/\vt=.string t/\vk=Y k/\t.size=1+k/\Below w.heap.size w wr) (λ_ _ vk _=>9-(intOf vk).toNat)
 case atStart=>exact⟨0,mark,⟨#[35]⟩,J,h0,F,rfl,rfl,rfl,rfl,iC _ _⟩
 case round=>
  obtain⟨k,m,t,I,bu,bq,rfl,rfl,rfl,Yw,hb⟩:=hrel;by_cases ZR:k<9
  ·have N4:(k:Int)<9:=J;have bk:(convert 65 9 (aj wr.heap.size 1 1)).run prog (wr.alloc (.cells #[.int .u8 (97+m%16)] 5))=.ok (.string (strOfNums [97+m%16])) (wr.alloc (.cells #[.int .u8 (97+m%16)] 5)):=
    run_convert_bytes_arg _ 65 5 underlying65 underlying5 wr.heap.size 0 1 1 [97+m%16] rfl (λi hi=>by
     obtain rfl:i=0:=J;simp) 9 underlying9
   have av:(strOfNums [97+m%16]).size=1:=rfl;have aO:=hb.alloc hb.size (.cells #[.int .u8 (97+m%16)] 5);have au:Hid (Below w.heap.size w (wr.alloc (.cells #[.int .u8 (97+m%16)] 5))):=aO;clear aO;go_wp2;go_roundw
   case rel=>
    refine⟨k+1,m/16,_,J,J,J,rfl,rfl,pQ,?_,au.out⟩;rw[ByteArray.size_append,Yw,av];omega
   case measure=>simp[intOf];omega
  ·obtain rfl:k=9:=J;go_wp2;go_ret;exact⟨t,rfl,J,hb⟩
end
end Go.Proofs.YthpcbbnabnlanaaGreatDoor
