import Derived.Test.YthpcbbnabnlanaaGreatDoorM00
import Derived.WalkKit
namespace Go.Proofs.YthpcbbnabnlanaaGreatDoor
set_option linter.all false
def ZI (s:aA)(i:Nat):Int:=if h:i<s.size then(s[i].toNat:Int)else 256
def Zk (c:Int):Bool:=decide (48<=c)&&decide (c<=57)
def Vp (c:Int):Bool:=decide (97<=c)&&decide (c<=122)
def YC (c:Int):Bool:=Vp c||Zk c
def Xn (c:Int):Bool:=c != 10&&c != 256
theorem UC {s:aA}{i:Nat}(h:i<s.size):ZI s i=((s[i]'h).toNat:Int):=by simp[ZI,h]
theorem LZ {s:aA}{i:Nat}(h:s.size<=i):ZI s i=256:=by
 have:¬i<s.size:=J;simp[ZI,this]
theorem CF {s:aA}{i:Nat}(h:i<s.size):ZI s i<256:=by
 rw[UC h];have:=(s[i]'h).toNat_lt;omega
def QG (p:Int->Bool)(s:aA):Nat->Nat->Nat
 |0,k=>k
 |f+1,k=>if p (ZI s k)then QG p s f (k+1)else k
def Zt (p:Int->Bool)(s:aA)(k:Nat):Nat:=QG p s (s.size-k) k
theorem yH (p:Int->Bool)(s:aA)(f k:Nat):k<=QG p s f k/\QG p s f k<=k+f:=by
 induction f generalizing k with
 |zero=>simp[QG]
 |succ f ih=>
  simp only[QG];split
  ·have:=ih (k+1);omega
  ·omega
theorem RU (p:Int->Bool)(s:aA)(k:Nat):k<=Zt p s k:=(yH p s _ k).1
theorem QY (p:Int->Bool)(s:aA)(k:Nat)(h:k<=s.size):Zt p s k<=s.size:=by
 have:=(yH p s (s.size-k) k).2;unfold Zt;omega
theorem Qf (p:Int->Bool)(s:aA)(k:Nat)(h:k<s.size)(hp:p (ZI s k)=true):Zt p s k=Zt p s (k+1):=by
 unfold Zt;have e:s.size-k=(s.size-(k+1))+1:=J;rw[e];simp[QG,hp]
theorem OS (p:Int->Bool)(s:aA)(k:Nat)(hp:p (ZI s k)=false):Zt p s k=k:=by
 unfold Zt
 cases h:s.size-k with
 |zero=>rfl
 |succ n=>simp[QG,hp]
theorem Kw (p:Int->Bool)(s:aA)(k:Nat)(h:s.size<=k):Zt p s k=k:=by
 unfold Zt;have e:s.size-k=0:=J;rw[e];rfl
def Sp (a b:Int):Bool:=(a==33&&b==61)||(a==60&&b==61)||(a==46&&b==46)
def Qe (a:Int):Bool:=a==59||a==58||a==44||a==61||a==91||a==93||a==43||a==42||a==33||a==45
def Wh (s:aA)(i:Nat):Nat:=if Sp (ZI s i) (ZI s (i+1))then 2 else if Qe (ZI s i)then 1 else 0
def Rm (s:aA):Bool:=
 s.toList==[118,97,114]||s.toList==[108,105,115,116]||s.toList==[108,105,110]||s.toList==[119,104,101,110]||s.toList==[97,116]||s.toList==[100,105,102,102]||s.toList==[111,114]
structure ZY where
 s:aA
 kind:Int
 line:Nat
def U7 (s:aA)(i:Nat):Bool:=Zk (ZI s i)||(ZI s i==45&&Zk (ZI s (i+1)))
def Zd (s:aA)(i:Nat):Nat×Int:=
 if U7 s i then
  if 10<Zt Zk s (i+1)-i then(0,105)else(Zt Zk s (i+1),105)
 else if Vp (ZI s i)then
  if 8<Zt YC s (i+1)-i then(0,110)
  else(Zt YC s (i+1),if Rm (s.extract i (Zt YC s (i+1)))then 107 else 110)
 else if Wh s i=0 then(0,115)else(i+Wh s i,115)
theorem EP (s:aA)(i:Nat)(h:(Zd s i).1≠0):i<(Zd s i).1:=by
 unfold Zd at h⊢;have F:=RU Zk s (i+1);have h2:=RU YC s (i+1)
 repeat' split
 all_goals simp_all
 all_goals omega
def Ym (s:aA):Nat->Nat->Nat->List ZY->Nat×List ZY×Nat
 |0,_,line,acc=>(0,acc,line)
 |f+1,i,line,acc=>
  if i<s.size then
   if ZI s i=10 then Ym s f (i+1) (line+1) acc
   else if ZI s i=32\/ZI s i=9 then Ym s f (i+1) line acc
   else if ZI s i=37 then Ym s f (Zt Xn s i) line acc
   else if (Zd s i).1=0 then(line,[],line)
   else Ym s f (Zd s i).1 line (acc++[⟨s.extract i (Zd s i).1,(Zd s i).2,line⟩])
  else(0,acc,line)
def lex (s:aA):Nat×List ZY×Nat:=Ym s s.size 0 1 []
theorem adx (s:aA)(f i line:Nat)(acc:List ZY)(h:s.size<=i):Ym s f i line acc=(0,acc,line):=by
 cases f with
 |zero=>rfl
 |succ f=>simp[Ym,show ¬i<s.size by omega]
theorem adA {s:aA}{f i line:Nat}{acc:List ZY}(h:i<s.size)(hc:ZI s i=10):Ym s (f+1) i line acc=Ym s f (i+1) (line+1) acc:=by simp[Ym,h,hc]
theorem ady {s:aA}{f i line:Nat}{acc:List ZY}(h:i<s.size)(hc:ZI s i=32\/ZI s i=9):Ym s (f+1) i line acc=Ym s f (i+1) line acc:=by
 have:¬ZI s i=10:=by rcases hc with h|h<;>rw[h]<;>decide
 simp[Ym,h,hc,this]
theorem adz {s:aA}{f i line:Nat}{acc:List ZY}(h:i<s.size)(hc:ZI s i=37):Ym s (f+1) i line acc=Ym s f (Zt Xn s i) line acc:=by
 simp[Ym,h,hc]
theorem CE {s:aA}{f i line:Nat}{acc:List ZY}(h:i<s.size)(F:¬ZI s i=10)(h2:¬(ZI s i=32\/ZI s i=9))(h3:¬ZI s i=37)(h4:(Zd s i).1=0):Ym s (f+1) i line acc=(line,[],line):=by
 simp only[Ym];rw[iR h,iQ F,iQ h2,iQ h3,iR h4]
theorem yG {s:aA}{f i line:Nat}{acc:List ZY}(h:i<s.size)(F:¬ZI s i=10)(h2:¬(ZI s i=32\/ZI s i=9))(h3:¬ZI s i=37)(h4:(Zd s i).1≠0):Ym s (f+1) i line acc=Ym s f (Zd s i).1 line (acc++[⟨s.extract i (Zd s i).1,(Zd s i).2,line⟩]):=by
 simp only[Ym];rw[iR h,iQ F,iQ h2,iQ h3,iQ h4]
section
open Go.RowKit
def CD (t:ZY):ay:=[.string t.s,.int .u8 t.kind,Y t.line]
def Tq (l:List ZY):ay:=l.flatMap CD
theorem adC (l:List ZY)(t:ZY):Tq (l++[t])=Tq l++[.string t.s,.int .u8 t.kind,Y t.line]:=by
 simp[Tq,CD]
def mC{P:Prop}(h:P:=by
 rw[aO pG];simpa using h3.1):P:=h
theorem Kt (l:List ZY)(i:Nat)(t:ZY)(h:l[i]?=some t):(Tq l)[i*3]?=some (.string t.s)/\(Tq l)[i*3+1]?=some (.int .u8 t.kind)/\(Tq l)[i*3+2]?=some (Y t.line):=by
 induction l generalizing i with
 |nil=>simp at h
 |cons a l ih=>
  cases i with
  |zero=>simp at h;subst h;simp[Tq,CD]
  |succ i=>
   have e:Tq (a::l)=[.string a.s,.int .u8 a.kind,Y a.line]++Tq l:=rfl;have h3:=ih i pX;have e1:(i+1)*3=i*3+3:=J;rw[e,e1];refine⟨?_,?_,?_⟩
   ·exact mC
   ·rw[aO pG];have:=h3.2.1;simpa[show i*3+3+1-3=i*3+1 by omega]using this
   ·rw[aO pG];have:=h3.2.2;simpa[show i*3+3+2-3=i*3+2 by omega]using this
end
theorem adD (s:aA):s.size=s.data.toList.length:=by
 show s.data.size=_;exact Array.length_toList.symm
end Go.Proofs.YthpcbbnabnlanaaGreatDoor
