import Derived.Test.YthpcbbnabnlanaaGreatDoorM04
import Derived.Deep.RegionLaw
namespace Go.Proofs.YthpcbbnabnlanaaGreatDoor
set_option maxHeartbeats 1000000
open Go.RowKit
set_option linter.all false
def MZ (s:aA):aF:=if 8<Zt YC s 1 then M0 else NZ (Ta (s.extract 0 (Zt YC s 1))) (s.extract 0 (Zt YC s 1)) 0 0
def jw{P:Prop}(h:P:=by
 by_cases h8:8<k
 ·have c8:(8:Int)<(k:Int):=J;have hl:Hid (MZ s=M0):=by unfold MZ;rw[<-he.out,iR h8];trivial
  clear h8;go_wp2_with (first|(go_at_call 109;refine(I8 _ _).mono ?_;rintro e w' ⟨rfl,Zf⟩;subst w')|(go_at_call 111;refine(M5 _ _).mono ?_;rintro e w' ⟨rfl,Zf⟩;subst w'))
  refine iq (fg rfl _ _ w.heap.size 129 _ _ _ rfl (gp w _) Tryz.underlying129 rfl pH) rfl ?_;exact⟨by rw[hl.out];rfl,di w _ none⟩
 ·have c8:(k:Int)<=8:=J;have hl:Hid (MZ s=NZ (Ta (s.extract 0 k)) (s.extract 0 k) 0 0):=by unfold MZ;rw[<-he.out,iQ h8];trivial
  have Vo:(k:Int)<=s.size:=J;clear h8;go_wp2_with (first|(go_at_call 109;refine(I8 _ _).mono ?_;rintro e w' ⟨rfl,Zf⟩;subst w')|(go_at_call 111;refine(M5 _ _).mono ?_;rintro e w' ⟨rfl,Zf⟩;subst w'))
  go_region_law (go_simp;go_at_call 144;refine(adQ _ _).mono ?_;rintro e w' ⟨rfl,Zf⟩;subst w')
  all_goals go_wp2
  all_goals refine iq (fg rfl _ _ w.heap.size 129 _ _ _ rfl (gp w _) Tryz.underlying129 rfl pH) rfl ?_
  all_goals exact⟨by rw[hl.out];rfl,(di w _ none).trans (ZG _ none)⟩):P:=h
def oN{P:Prop}(h:P:=by
 go_round
 case rel=>exact⟨k+1,J,J,pQ,WI⟩
 case measure=>simp[intOf];omega):P:=h
def kh{P:Prop}(h:P:=by
 go_wp2_with (first|(go_at_call 109;refine(I8 _ _).mono ?_;rintro e w' ⟨rfl,Zf⟩;subst w')|(go_at_call 111;refine(M5 _ _).mono ?_;rintro e w' ⟨rfl,Zf⟩;subst w'))
 exact oN):P:=h
theorem adT (s:aA)(w:A)(hs:s.size<=2000)(h0:0<s.size):aq 110 #[.string s] w (au w (MZ s)):=by
 go_enter Tryz.func110,Tryz.ntmps110;go_wp2
 go_loop [3] (λv=>∃k:Nat,1<=k/\k<=s.size/\v=Y k/\Hid (Zt YC s k=Zt YC s 1)) (λv=>s.size-(intOf v).toNat)
 case atStart=>exact⟨1,J,J,rfl,rfl⟩
 case round=>
  obtain⟨k,Vo,I,rfl,Yi⟩:=hrel;by_cases VS:k<s.size
  ·have XK:=UC VS;by_cases hL:Vp (ZI s k)=true
   ·have cL:Vp (s[k].toNat:Int)=true:=by rw[<-XK];exact hL
    have WI:Hid (Zt YC s (k+1)=Zt YC s 1):=by rw[<-Yi.out];exact(Qf _ _ _ VS (by simp[YC,hL])).symm
    clear XK hL Yi;exact kh
   ·have cL:Vp (s[k].toNat:Int)=false:=by rw[<-XK];simpa using hL
    by_cases hD:Zk (ZI s k)=true
    ·have cD:Zk (s[k].toNat:Int)=true:=by rw[<-XK];exact hD
     have WI:Hid (Zt YC s (k+1)=Zt YC s 1):=by rw[<-Yi.out];exact(Qf _ _ _ VS (by simp[YC,hD])).symm
     clear XK hL hD Yi;exact kh
    ·have cD:Zk (s[k].toNat:Int)=false:=by rw[<-XK];simpa using hD
     have he:Hid (k=Zt YC s 1):=by rw[<-Yi.out];exact(OS _ _ _ (by simp[YC,hD,hL])).symm
     clear XK hL hD Yi;exact jw
  ·have he:Hid (k=Zt YC s 1):=by rw[<-Yi.out];exact(Kw _ _ _ J).symm
   have V6:(s.size:Int)<=(k:Int):=J;clear VS Yi;exact jw
end Go.Proofs.YthpcbbnabnlanaaGreatDoor
