import Derived.Test.YthpcbbnabnlanaaGreatDoorM02
import Derived.Test.YthpcbbnabnlanaaGreatDoorM19
import Derived.Test.YthpcbbnabnlanaaGreatDoorM23
import Derived.Deep.OwnRows
namespace Go.Proofs.YthpcbbnabnlanaaGreatDoor
set_option maxHeartbeats 4000000
set_option maxRecDepth 100000
open Go.Proofs.Tryz
set_option linter.all false
section
open Go.RowKit
def Nv (l:List Xx):ay:=l.map λv=>.string v.name
theorem aaR:(prog.info? 9).map (λi=>(i.zero,i.size,i.bytes))=some (some (.string .empty),1,16):=pH
theorem aju {l:List Xx}{xs:ay}{i:Nat}{a:Xx}(F:xs.length=l.length)(h2:i<l.length)(ha:l[i]?=some a)(h:xs.take i=Nv (l.take i)):(xs.set i (.string a.name)).take (i+1)=Nv (l.take (i+1)):=by
 have e1:(xs.set i (.string a.name))[i]?=some (.string a.name):=by simp[F,h2]
 rw[dX,e1,df (iw i),h,dX,ha];simp[Nv]
def aaS (l:List Xx)(w:A)(vi:aF)(wr:A):Prop:=
 ∃i:Nat,i<=l.length/\vi=Y i/\aB w wr/\∃xs,wr.ownsRow w.heap.size 9 1 (aj w.heap.size l.length l.length) l.length xs/\xs.take i=Nv (l.take i)
theorem ajv {w:A}{b bc gr cap:Nat}{l:List Xx}(hb:ak w b 1 (.pointer (some (O bc 1))))(hr:YR w (aj gr l.length cap) gr cap Rb l)(hv:ak w bc 1 (aj gr l.length cap))(hl:l.length<=3000)(Po:b<w.heap.size)(aa:bc<w.heap.size):aq 31 #[ai b] w λe w'=>e=.returned (aj w.heap.size l.length l.length)/\w'.ownsRow w.heap.size 9 1 (aj w.heap.size l.length l.length) l.length (Nv l)/\aB w w':=by
 have bp:=run_make_row' (P:=prog) 37 9 (.string .empty) 16 underlying37 aaR rfl .i64 .i64 l.length J J;have b7:Hid (YR w (aj gr l.length cap) gr cap Rb l):=hr;have UB:=hr.lt;have b2:∀o,(w.alloc o).cell? (O b 1)=some (.pointer (some (O bc 1))):=λo=>(di w o none).cell hb pG
 have v2:∀o,(w.alloc o).cell? (O bc 1)=some (aj gr l.length cap):=λo=>(di w o none).cell hv pG
 clear hr;go_enter func31,ntmps31;go_wp2
 go_loopw [23] (λvi wr=>aaS l w vi wr) (λvi _=>l.length-(intOf vi).toNat)
 case atStart=>
  refine⟨0,iz _,rfl,di _ _ _,_,⟨?_,.inr ⟨w.heap.size,l.length,_,rfl,iw _,gp w _,iw _,by unfold maxLen;omega,?_,rfl⟩⟩,?_⟩
  ·simp[gy]
  ·rw[gy];omega
  ·simp[Nv]
 case round=>
  obtain⟨i,hi,rfl,ZX,xs,ZO,TS⟩:=hrel;by_cases ZR:i<l.length
  ·obtain⟨a,ha⟩:∃a,l[i]?=some a:=⟨l[i],by simp[ZR]⟩;have hR:=b7.out.kept ZX pG;have c0:ak wr gr (i*3) (.string a.name):=hR.at (sz:=3) (λ_=>rfl) ha 0 _ rfl
   have c1:ak wr gr (i*3+1) (Y a.low):=hR.at (sz:=3) (λ_=>rfl) ha 1 _ rfl
   have c2:ak wr gr (i*3+2) (Y a.high):=hR.at (sz:=3) (λ_=>rfl) ha 2 _ rfl
   have X8:(i:Int)<l.length:=J;have Xy:(0:Int)<=i:=J;have a8:xs.length=l.length:=rV;have k1:wr.cell? (O w.heap.size i)=some (xs[i]'J):=by rw[ZO.cellAt i J];simp[a8,ZR]
   have k2:=ZO.frozenAt i;have Yc:w.heap.size<wr.heap.size:=(ZO.lt w.heap.size rfl).2;have aV:=ZO.stored i (.string a.name);have HN:Hid (∀o,aaS l w (Y ((i:Int)+1)) ((wr.setCell (O w.heap.size i) (.string a.name)).alloc o)):=λo=>by
    refine⟨i+1,J,pG,(Up ZX (iw _) aV.2).trans (di _ _ _),xs.set i (.string a.name),aV.1.alloc o,?_⟩;exact aju a8 ZR ha TS
   clear aV ZO TS;go_wp2;go_roundw
   case rel=>exact HN.out _
   case measure=>simp[intOf];omega
  ·obtain rfl:i=l.length:=J;go_wp2;go_ret;have a8:xs.length=l.length:=rV;rw[bH J,bH (iw _)]at TS;rw[<-TS];exact⟨rfl,ZO,ZX⟩
end
section
open Go.RowKit
theorem ajw {w:A}{b bc:Nat}{a:ax}{c:Nat}(hb:ak w b 1 (.pointer (some (O bc 1))))(hv:ak w bc 1 (.slice a 0 c))(Po:b<w.heap.size)(aa:bc<w.heap.size):aq 31 #[ai b] w λe w'=>e=.returned (aj w.heap.size 0 0)/\w'=w.alloc (.cells (madeCells #[.string .empty] 0) 9):=by
 have bp:∀W:A,(Instr.makeSlice 37 (Y 0) (Y 0)).run prog W=.ok (aj W.heap.size 0 0) (W.alloc (.cells (madeCells #[.string .empty] 0) 9)):=λW=>run_make_row' (P:=prog) 37 9 (.string .empty) 16 underlying37 aaR rfl .i64 .i64 0 J J W
 have b2:∀o,(w.alloc o).cell? (O b 1)=some (.pointer (some (O bc 1))):=λo=>(di w o none).cell hb pG
 have v2:∀o,(w.alloc o).cell? (O bc 1)=some (.slice a 0 c):=λo=>(di w o none).cell hv pG
 go_enter func31,ntmps31;go_wp2
 go_loopg [23] 0 (λn v wr=>v=Y 0/\wr=w.alloc (.cells (madeCells #[.string .empty] 0) 9))
 case atStart=>exact⟨rfl,rfl⟩
 case round=>
  obtain⟨rfl,rfl⟩:=hrel;exact lq
theorem ajx {w:A}{b:Nat}{s:aA}(hb:ak w b 0 (.string s)):aq 30 #[ai b] w λe w'=>e=.returned (.string s)/\w'=w:=by
 go_enter func30,ntmps30;exact lq
end
end Go.Proofs.YthpcbbnabnlanaaGreatDoor
