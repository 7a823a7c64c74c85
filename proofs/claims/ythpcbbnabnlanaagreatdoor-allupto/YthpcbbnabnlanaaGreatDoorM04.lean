import Derived.Test.YthpcbbnabnlanaaGreatDoorM02
import Derived.Test.YthpcbbnabnlanaaGreatDoorM03
namespace Go.Proofs.YthpcbbnabnlanaaGreatDoor
set_option maxHeartbeats 1000000
open Go.Proofs.Tryz
open Go.RowKit
set_option linter.all false
def NZ (so:Int)(tx:aA)(v l:Int):aF:=.agg #[Y so,.string tx,Y v,Y l]
def M0:aF:=NZ 0 .empty 0 0
theorem yA (s:aA)(a b:Nat)(F:a<=b)(h2:b<=s.size):(s.extract a b).toList.length=b-a:=by
 have e:=Rk s a b F h2;have e2:(s.extract a b).data.toList.length=(s.extract a b).size:=qR;rw[Lib.extract_toList,<-Lib.extract_data,e2,e]
theorem adS (s:aA)(i:Nat)(h:i<s.size)(a:UInt8):((s.extract i (i+1)).toList==[a])=(ZI s i==(a.toNat:Int)):=by
 rw[Lib.extract_toList,UC h];have hl:s.data.toList.length=s.size:=qR;have e:(s.data.toList.drop i).take (i+1-i)=[s[i]]:=by
  rw[aR J,show i+1-i=1 by omega];rfl
 rw[e,fj];simp only[iD,fq,iI];constructor
 ·intro F;rw[F]
 ·intro F;exact fP.1 J
theorem yz (s:aA)(h:2<=s.size):(UN (s.extract 0 2) != 0)=Sp (ZI s 0) (ZI s 1):=by
 rw[yF s 0 J];have hl:=yA s 0 2 J J;have n1:∀a:UInt8,((s.extract 0 2).toList==[a])=false:=λa=>by
  rw[dn];intro e;rw[e]at hl;simp at hl
 unfold UN;simp only[n1,dv,iK,ik]
 cases ((s.extract 0 2).toList==[33,61])<;>cases ((s.extract 0 2).toList==[60,61])<;>cases ((s.extract 0 2).toList==[46,46])<;>rfl
theorem yy (s:aA)(h:1<=s.size):(UN (s.extract 0 1) != 0)=Qe (ZI s 0):=by
 have hl:=yA s 0 1 J J;have n1:∀a b:UInt8,((s.extract 0 1).toList==[a,b])=false:=λa b=>by
  rw[dn];intro e;rw[e]at hl;simp at hl
 have n2:=λa=>adS s 0 J a
 rw[show 0+1=1 from rfl]at n2;unfold UN Qe;simp only[n1,n2,dv,iK];generalize ZI s 0=c;have e:∀n:Nat,n<256->((UInt8.ofNat n).toNat:Int)=n:=λn hn=>by simp[UInt8.toNat_ofNat'];omega
 show(_ != _)=_;by_cases c1:c=59<;>by_cases c2:c=58<;>by_cases c3:c=44<;>by_cases c4:c=61<;>by_cases c5:c=91<;>by_cases c6:c=93<;>by_cases c7:c=43<;>by_cases c8:c=42<;>by_cases c9:c=33<;>by_cases ba:c=45<;>first|(exfalso;omega)|(subst c;rfl)|(simp_all;done)|skip
def Ks (s:aA):aF:=if Wh s 0=0 then M0 else NZ (UN (s.extract 0 (Wh s 0))) (s.extract 0 (Wh s 0)) 0 0
def oa{P:Prop}(h:P:=by
 clear ht;go_wp2_with (go_at_call 146;refine(Cv _ _).mono ?_;rintro e w' ⟨rfl,Zf⟩;subst w');refine iq (fg rfl _ _ w.heap.size 129 _ _ _ rfl (gp w _) underlying129 rfl pH) rfl ?_;refine⟨?_,di w _ none⟩;unfold Ks;rw[hl.out];rfl):P:=h
def jE{P:Prop}(h:P:=by
 by_cases ht:Qe (ZI s 0)=true
 ·have hc:(UN (s.extract 0 1) != 0)=true:=by rw[H1.out,ht]
  have hl:Hid (Wh s 0=1):=by rw[Hid,HS.out,I.out];simp[ht]
  exact oa
 ·have hc:(UN (s.extract 0 1) != 0)=false:=by rw[H1.out];simpa using ht
  have hl:Hid (Wh s 0=0):=by rw[Hid,HS.out,I.out];simp[ht]
  clear ht;go_wp2_with (go_at_call 146;refine(Cv _ _).mono ?_;rintro e w' ⟨rfl,Zf⟩;subst w')
  go_round
  case rel=>first|exact .inr (.inr ⟨rfl,hl⟩)|exact .inr ⟨rfl,hl⟩
  case measure=>simp[intOf]):P:=h
def lu{P:Prop}(h:P:=by
 go_wp2;refine iq (fg rfl _ _ w.heap.size 129 _ _ _ rfl (gp w _) underlying129 rfl pH) rfl ?_;refine⟨?_,di w _ none⟩;unfold Ks;rw[I.out];rfl):P:=h
theorem yx (s:aA)(w:A)(hs:s.size<=2000)(h0:0<s.size):aq 113 #[.string s] w (au w (Ks s)):=by
 have H2:Hid (2<=s.size->(UN (s.extract 0 2) != 0)=Sp (ZI s 0) (ZI s 1)):=λh=>yz s h
 have H1:Hid ((UN (s.extract 0 1) != 0)=Qe (ZI s 0)):=yy s h0;have HO:Hid (¬2<=s.size->Sp (ZI s 0) (ZI s 1)=false):=λh=>EM s 0 J
 have HS:Hid (Wh s 0=if Sp (ZI s 0) (ZI s 1)then 2 else if Qe (ZI s 0)then 1 else 0):=rfl
 by_cases h2:2<=s.size
 ·have aG:2<=(s.size:Int):=J;go_enter func113,ntmps113;go_wp2
  go_loop [3,4] (λv3 _=>v3=Y 2/\2<=s.size\/v3=Y 1/\Hid (Sp (ZI s 0) (ZI s 1)=false)\/v3=Y 0/\Hid (Wh s 0=0)) (λv3 _=>(intOf v3).toNat)
  case atStart=>exact .inl ⟨rfl,J⟩
  case round=>
   obtain⟨rfl,I⟩|⟨rfl,I⟩|⟨rfl,I⟩:=hrel
   ·by_cases ht:Sp (ZI s 0) (ZI s 1)=true
    ·have hc:(UN (s.extract 0 2) != 0)=true:=by rw[H2.out I,ht]
     have hl:Hid (Wh s 0=2):=by rw[Hid,HS.out,iR ht]
     exact oa
    ·have hc:(UN (s.extract 0 2) != 0)=false:=by rw[H2.out I];simpa using ht
     have hf:Hid (Sp (ZI s 0) (ZI s 1)=false):=by rw[Hid];simpa using ht
     clear ht;go_wp2_with (go_at_call 146;refine(Cv _ _).mono ?_;rintro e w' ⟨rfl,Zf⟩;subst w')
     go_round
     case rel=>exact .inr (.inl ⟨rfl,hf⟩)
     case measure=>simp[intOf]
   ·exact jE
   ·exact lu
 ·have aG:(s.size:Int)<2:=J;go_enter func113,ntmps113;go_wp2
  go_loop [3,4] (λv3 _=>v3=Y 1/\Hid (Sp (ZI s 0) (ZI s 1)=false)\/v3=Y 0/\Hid (Wh s 0=0)) (λv3 _=>(intOf v3).toNat)
  case atStart=>exact .inl ⟨by rw[show(s.size:Int)=1 by omega],HO.out J⟩
  case round=>
   obtain⟨rfl,I⟩|⟨rfl,I⟩:=hrel
   ·exact jE
   ·exact lu
end Go.Proofs.YthpcbbnabnlanaaGreatDoor
