import Derived.Test.YthpcbbnabnlanaaGreatDoorM01
import Derived.Test.YthpcbbnabnlanaaGreatDoorM10
import Derived.Test.YthpcbbnabnlanaaGreatDoorM15
import Derived.Deep.LoopGhost
import Derived.Deep.QuietTactic
import Derived.BigQuiet
import Derived.Deep.DeepMust
import Derived.Deep.RegionHeld3
import Derived.Deep.DrawnRows
import Derived.Deep.Light
namespace Go.Proofs.YthpcbbnabnlanaaGreatDoor
set_option maxHeartbeats 2000000
set_option maxRecDepth 100000
open Go.RowKit
set_option linter.all false
section
attribute [local go_sem ↓] Go.wp_at_zero Go.wp_at_succ
theorem wS {p:Prop}(h:p):Hid p:=h
theorem Ee {W w1:A}(hb:Below W.heap.size W w1):(∀b o,b<W.heap.size->w1.cell? (O b o)=W.cell? (O b o))/\(∀b o,b<W.heap.size->w1.frozen? (O b o)=W.frozen? (O b o)):=
 ⟨λb o h=>hb.cell (p:=(O b o)) h,λb o h=>hb.frozen (p:=(O b o)) h⟩
def Gi (w:A)(v:aF)(n:Nat)(cs:ay):Prop:=
 (n=0/\v=af)\/∃g off cap,v=.slice (some (O g off)) n cap/\n<=cap/\g<w.heap.size/\∀j u,cs[j]?=some u->w.cell? (O g (off+j))=some u
theorem Gi.TX {w:A}{base n:Nat}{e:TypeId}{v:aF}{xs:ay}(h:w.ownsRow base e 1 v n xs):Gi w v n xs:=by
 have hc:=@dm w base e 1 v n xs h;rcases h.2 with⟨F,h2⟩|⟨g,cap,cur,rfl,h2,h3,h4,_⟩
 ·exact .inl ⟨h2,F⟩
 ·refine .inr ⟨g,0,cap,rfl,h4,?_,λj u hu=> ?_⟩
  ·rcases ib g w.heap.size with hl|hl
   ·exact hl
   ·rw[bD hl]at h3;cases h3
  ·have P5:((ah g):Addr).add j=(O g (0+j)):=by unfold Addr.add;split<;>simp_all
   rw[<-P5];exact hc rfl j u hu
theorem agl (a b:List (List UInt8)):strCells (a++b)=strCells a++strCells b:=by simp[strCells]
theorem strCells_length (a:List (List UInt8)):(strCells a).length=a.length:=by simp[strCells]
theorem BG (a:List (List UInt8)):∀u∈strCells a,u.oneCell'=true:=by
 intro u hu;simp only[strCells,gU]at hu;obtain⟨x,_,rfl⟩:=hu;rfl
def IC (o:Option (List (List UInt8))):Prop:=∀l,o=some l->l.length<=7
theorem NH {c:Prop}[Decidable c]{a b:Option (List (List UInt8))}(ha:IC a)(hb:IC b):IC (if c then a else b):=by split<;>assumption
theorem NG {l:List (List UInt8)}(h:l.length<=7):IC (some l):=λ_ e=>by cases e;exact h
theorem agm:IC none:=λ_ e=>pL
theorem QC {c:Prop}[Decidable c]{a b:List (List UInt8)}(ha:a.length<=7)(hb:b.length<=7):(if c then a else b).length<=7:=by split<;>assumption
theorem agn (y ts:List UInt8)(k:Int):IC (Yx y k ts):=by
 exact NH (NG (QC pG pG)) (NH (NG (QC pG (QC pG (QC pG (QC pG (QC pG (QC pG pG))))))) (NH (NG (QC pG pG)) (NH (NG (QC pG pG)) (NH (NG (QC pG pG)) (NH (NG (QC pG pG)) (NH (NG pG) (NH (NG (QC pG pG)) (NH (NG (QC pG pG)) (NH (NG (QC pG pG)) agm)))))))))
theorem wR {y ts:List UInt8}{k:Int}{l:List (List UInt8)}(h:Yx y k ts=some l):l.length<=7:=agn y ts k l h
def kW{P:Prop}(h:P:=by
 have e2:(wr.alloc o).drew.cell? (O g (off+1+j))=wr.cell? (O g (off+1+j)):=cJ (by show(wr.alloc o).heap[g]?=_;exact Below.heap_alloc _ _ _ z);rw[e2];exact WS j u hu):P:=h
theorem wQ {wr w2 w3:A}{o:Obj}{g off:Nat}{cs:ay}(WS:∀j u,cs[j]?=some u->ak wr g (off+1+j) u)(z:g<wr.heap.size)(aa:Below (wr.alloc o).drew.heap.size (wr.alloc o).drew w2)(YN:aB w2 w3):∀j u,cs[j]?=some u->w3.cell? (((O g (off+1)):Addr).add j)=some u:=by
 intro j u hu;have hs:=aa.size;have P5:((O g (off+1)):Addr).add j=(O g (off+1+j)):=by unfold Addr.add;split<;>simp_all
 have e1:(wr.alloc o).drew.heap.size=wr.heap.size+1:=pG;rw[P5,YN.cell_far (O g (off+1+j)) uT pG,aa.cell (p:=(O g (off+1+j))) uT];exact kW
def lh{P:Prop}(h:P:=by
 by_cases hc:cap=1
 ·have hr:rest=[]:=bA.1 J;subst hr;exact⟨off,by rw[iR hc],λj u hu=>by simp[strCells]at hu⟩
 ·exact⟨off+1,by rw[iQ hc],h⟩):P:=h
theorem wP {g off cap:Nat}{rest:List (List UInt8)}{w:A}(TD:rest.length+1<=cap)(h:∀j u,(strCells rest)[j]?=some u->w.cell? (((O g (off+1)):Addr).add j)=some u):∃o1,(if cap=1 then some ((O g off):Addr)else some (O g (off+1)))=some (O g o1)/\∀j u,(strCells rest)[j]?=some u->w.cell? (((O g o1):Addr).add j)=some u:=by
 exact lh
theorem wO {w wr w2 w3 w4:A}{o:Obj}{v:aF}{e:TypeId}{n:Nat}{xs:ay}(hb:Below w.heap.size w wr)(aa:Below (wr.alloc o).drew.heap.size (wr.alloc o).drew w2)(ai:aB w2 w3)(ZO:w3.ownsRow w.heap.size e 1 v n xs)(Ed:w3.grownBy w4 v.ownBlock):Below w.heap.size w w4:=by
 have e1:(wr.alloc o).drew.heap.size=wr.heap.size+1:=pG;have YB:=hb.size;have YM:=aa.size;have F:Below w.heap.size w w2:=((hb.alloc hb.size o).drew).trans (aa.mono J);have h2:=F.grown ai J (λk I=>vh)
 exact h2.grown Ed h2.size (λk I=>(ZO.lt k I).1)
theorem wN {w wr w2:A}{o:Obj}(hb:Below w.heap.size w wr)(aa:Below (wr.alloc o).drew.heap.size (wr.alloc o).drew w2):Below w.heap.size w w2:=by
 have e1:(wr.alloc o).drew.heap.size=wr.heap.size+1:=pG;have YB:=hb.size;exact((hb.alloc hb.size o).drew).trans (aa.mono J)
theorem wM {wr w2:A}{o:Obj}{g off:Nat}{cs:ay}(WS:∀j u,cs[j]?=some u->ak wr g (off+1+j) u)(z:g<wr.heap.size)(aa:Below (wr.alloc o).drew.heap.size (wr.alloc o).drew w2):∀j u,cs[j]?=some u->w2.cell? (O g (off+1+j))=some u:=by
 intro j u hu;have e1:(wr.alloc o).drew.heap.size=wr.heap.size+1:=pG;rw[aa.cell (p:=(O g (off+1+j))) uT];exact kW
theorem wL {y:List UInt8}{t:ZY}{b:Bool}(h:(y==[73,78,84])=true)(I:(t.kind==105)=b):fits y t=b:=by
 have h':y=Y3:=uA;unfold fits;rw[iR h',<-I];rfl
theorem wK {y:List UInt8}{t:ZY}{b:Bool}(h:(y==[73,78,84])=false)(h2:(y==[78,65,77,69])=true)(I:(t.kind==110)=b):fits y t=b:=by
 have h':¬y=Y3:=uA;have aG:y=Zg:=by simpa[Zg]using h2
 unfold fits;rw[iQ h',iR aG,<-I];rfl
theorem BF {y:List UInt8}{t:ZY}(h:(y==[73,78,84])=false)(h2:(y==[78,65,77,69])=false):fits y t=(y==t.s.toList&&t.kind != 101):=by
 have h':¬y=Y3:=uA;have aG:¬y=Zg:=by simpa[Zg]using h2
 unfold fits;rw[iQ h',iQ aG]
theorem ago {y:List UInt8}{t:ZY}(h:(y==[73,78,84])=false)(h2:(y==[78,65,77,69])=false)(e1:(y==t.s.toList)=true)(e2:(t.kind != 101)=true):fits y t=true:=by
 rw[BF h h2,e1,e2];rfl
theorem agp {y:List UInt8}{t:ZY}(h:(y==[73,78,84])=false)(h2:(y==[78,65,77,69])=false)(e1:(y==t.s.toList)=true)(e2:(t.kind != 101)=false):fits y t=false:=by
 rw[BF h h2,e1,e2];rfl
theorem agq {y:List UInt8}{t:ZY}(h:(y==[73,78,84])=false)(h2:(y==[78,65,77,69])=false)(e1:(y==t.s.toList)=false):fits y t=false:=by
 rw[BF h h2,e1];rfl
theorem agr {k a b:Int}(h:(k==101)=true):(if k=101 then a else b)=a:=iR pX
theorem ags {k a b:Int}(h:(k==101)=false):(if k=101 then a else b)=b:=iQ pX
theorem wJ {y:List UInt8}{t:ZY}(h:fits y t=true):t.kind≠101:=by
 intro e;unfold fits at h;rw[e]at h;split at h
 ·simp at h
 ·split at h
  ·simp at h
  ·simp at h
theorem agt (y:List UInt8):fits y Sy=false:=by
 cases h:fits y Sy with
 |false=>rfl
 |true=>exact absurd rfl (wJ h)
theorem agu {g off cap:Nat}{rest:List (List UInt8)}{w:A}(TD:rest.length+1<=cap)(h:∀j u,(strCells rest)[j]?=some u->ak w g (off+1+j) u):∃o1,(if cap=1 then some ((O g off):Addr)else some (O g (off+1)))=some (O g o1)/\∀j u,(strCells rest)[j]?=some u->w.cell? (O g (o1+j))=some u:=by
 exact lh
theorem agv:(Tryz.prog.info? 9).map (λi=>(i.zero,i.size,i.bytes))=some (some (.string .empty),1,16):=pH
def wI (U:List ZY)(R:Int)(f:Nat)(w:A)(k:Nat)(vw vi:aF)(wr:A):Prop:=
 ∃(i:Nat) (want:List (List UInt8)),i<=U.length/\vi=Y i/\Hid (Vl k want (U.drop i)=some R)/\Gi wr vw want.length (strCells want)/\want.length+7*k<=7*f+1/\Below w.heap.size w wr
def jg{P:Prop}(h:P:=by
 have N4:i<U.length:=HL.out (wJ P3);have HF:Hid (Vl k rest (U.drop (i+1))=some R):=by
  have:=hF.out;rw[wU IB.out (by rw[HH.out];exact P3)]at this;show Vl k rest _=some R;simpa[fZ]using this
 obtain⟨o1,WT,Gh⟩:=agu uU wH.out;have HRO:Hid (∀j u,(strCells rest)[j]?=some u->ak w2 g (o1+j) u):=Gh;clear Gh hF IB P3;go_wp2
 go_roundg k
 case measure=>omega
 case rel=>exact⟨i+1,rest,J,pQ,HF,.inr ⟨g,o1,cap-1,rfl,by simp at TD;omega,by show g<w2.heap.size;omega,HRO.out⟩,by simp at BD⊢;omega,by first|exact Xf.out.drew|exact below_drewN Xf.out _⟩):P:=h
def oX{P:Prop}(h:P:=by
 rw[wT IB.out (by rw[HH.out];exact P3),HH.out]at this;exact(fO this).symm):P:=h
def jh{P:Prop}(h:P:=by
 have Xu:Hid (R=if t.kind=101 then(-1:Int)else(t.line:Int)):=by
  have:=hF.out;exact oX
 clear hF IB P3;by_cases Ec:(t.kind==101)=true
 ·go_wp2;go_ret;exact⟨QX (Xu.out.trans (agr Ec)).symm,by first|exact Xf.out.drew|exact below_drewN Xf.out _⟩
 ·have Ec:(t.kind==101)=false:=by simpa using Ec
  go_wp2;go_ret;exact⟨QX (Xu.out.trans (ags Ec)).symm,by first|exact Xf.out.drew|exact below_drewN Xf.out _⟩):P:=h
def jG{P:Prop}(h:P:=by
 have RI:rest.length<=7000001:=by simp at BD;omega
 go_wp2_with (at_builtin;go_must (refine ey _ rfl _ _ 37 rfl w.heap.size 9 i0 (.string .empty) 1 16 Tryz.underlying37 Y8 Ze Zq Zn rfl pF v3 next.length (strCells next) rfl Pk (O g o1) rest.length (cap-1) (strCells rest) rfl tK YF.out (BG _) pK J J ?_))
 intro v4 w4 GQ Ed _;have R4:wI U R f w k v4 (Y i) w4:=⟨i,next++rest,hi,rfl,HF,by rw[agl,dA];exact Gi.TX GQ,by simp at BD⊢;omega,HB.out w4 Ed⟩
 clear GQ Ed Pk HB YF HF;go_wp2
 go_roundg k
 case measure=>omega
 case rel=>exact R4):P:=h
def jH{P:Prop}(h:P:=by
 exact oX):P:=h
def kV{P:Prop}(h:P:=by
 go_wp2;go_quiet (fail);go_wp2
 all_goals go_ret
 all_goals exact⟨QX Xu.out.symm,by first|exact Xf.out.drew|exact below_drewN Xf.out _⟩):P:=h
def mI{P:Prop}(h:P:=by
 rcases HA.out with h|h
 ·rw[h]at ZR;simp at ZR
 ·exact h):P:=h
def ny{P:Prop}(h:P:=by
 rw[<-hF.out];exact(ID (by rw[HH.out];exact SM)).symm):P:=h
def nE{P:Prop}(h:P:=by
 go_wp2;go_ret;exact⟨QX Xu.out.symm,hb⟩):P:=h
def nN{P:Prop}(h:P:=by
 have eN:(y==[78,65,77,69])=false:=by simp only[iD]at eI;rw[eI];rfl
 by_cases ek:(t.kind==105)=true
 ·have P3:fits y t=true:=wL eI ek;exact jg
 ·have ek:(t.kind==105)=false:=by simpa using ek
  have P3:fits y t=false:=wL eI ek;exact jh):P:=h
def nR{P:Prop}(h:P:=by
 by_cases ek:(t.kind==110)=true
 ·have P3:fits y t=true:=wK eI eN ek;exact jg
 ·have ek:(t.kind==110)=false:=by simpa using ek
  have P3:fits y t=false:=wK eI eN ek;exact jh):P:=h
def oy{P:Prop}(h:P:=by
 have P3:fits y Sy=false:=agt y;have Xu:Hid (R=-1):=by
  have:=hF.out;exact jH
 clear hF IB P3;exact kV):P:=h
theorem BC (U:List ZY)(gt Z1:Nat)(a0:ax)(ha:U=[]\/a0=some (ah gt))(w:A)(hn:U.length<=2000)(az:U≠[]->gt<w.heap.size)(ht:∀j u,(Tq U)[j]?=some u->ak w gt j u)(f:Nat)(hf:f<=1000000)(R:Int)(hR:Vl f [XF] U=some R):aq 53 #[.slice a0 U.length Z1] w λe w'=>e=.returned (Y R)/\Below w.heap.size w w':=by
 obtain⟨i0,Y8,Ze,Zq,Zn⟩:=iE agv;have aI:=wS az;have HA:=wS ha;clear az ha;have HR:Hid (Vl f [XF] U=some R):=hR;clear hR;have HT:Hid (∀j u,(Tq U)[j]?=some u->ak w gt j u):=ht;clear ht;go_enter Tryz.func53,Tryz.ntmps53;go_wp2
 go_loopg [3,4] f (λk vw vi wr=>wI U R f w k vw vi wr)
 case atStart=>exact⟨0,[XF],J,rfl,HR,Gi.TX (BI (base:=w.heap.size) #[.string (bs XF)] (iw _) uK),by simp;omega,(iC _ _).alloc (iw _) _⟩
 case round=>
  obtain⟨i,want,hi,rfl,hF,Yl,BD,hb⟩:=hrel;obtain⟨k,rfl⟩:∃k,gk=k+1:=by
   cases gk with
   |zero=>cases hF.out
   |succ k=>exact⟨k,rfl⟩
  cases want with
  |nil=>
   have hlen:∃a cap,u3=Value.slice a 0 cap:=by
    rcases Yl with⟨_,h⟩|⟨g,off,cap,h,_⟩
    ·exact⟨_,_,h⟩
    ·exact⟨_,_,h⟩
   obtain⟨aw,cap,rfl⟩:=hlen;have hR:=hF.out;rw[agk]at hR;clear Yl hF;by_cases ZR:i<U.length
   ·obtain rfl:a0=some (ah gt):=by
     exact mI
    have Vm:gt<w.heap.size:=aI.out (λe=>by rw[e]at ZR;simp at ZR)
    have aA:gt<wr.heap.size:=by have:=hb.size;omega
    obtain⟨t,aC⟩:∃t,U[i]?=some t:=⟨U[i],by simp[ZR]⟩;have aJ:=Kt U i t aC;have V7:ak wr gt (i*3+2) (Y t.line):=(hb.cell Vm).trans (HT.out _ _ aJ.2.2);have hd:U.drop i=t::U.drop (i+1):=by
     rw[aR ZR];simp[ZR]at aC;rw[aC]
    rw[hd]at hR;have Xu:Hid (R=t.line):=(fO hR).symm;clear hd hR aJ aC;exact nE
   ·rw[bE J]at hR;have Xu:Hid (R=0):=(fO hR).symm;have Ww:(U.length:Int)<=(i:Int):=J;clear hR ZR;exact nE
  |cons y rest=>
   rcases Yl with⟨h0,_⟩|⟨g,off,cap,rfl,TD,z,WS⟩
   ·simp at h0
   have ZU:g<wr.heap.size+1:=J;have aQ:ak wr g off (.string (bs y)):=WS 0 _ rfl;have br:Hid (∀j u,(strCells rest)[j]?=some u->ak wr g (off+1+j) u):=λj u hu=>by
    have:=WS (j+1) u (by simpa[strCells]using hu);rw[show off+1+j=off+(j+1) by omega];exact this
   clear WS;by_cases ZR:i<U.length
   ·obtain rfl:a0=some (ah gt):=by
     exact mI
    have Vm:gt<w.heap.size:=aI.out (λe=>by rw[e]at ZR;simp at ZR)
    have aA:gt<wr.heap.size:=by have:=hb.size;omega
    obtain⟨t,aC⟩:∃t,U[i]?=some t:=⟨U[i],by simp[ZR]⟩;have aJ:=Kt U i t aC;have bI:ak wr gt (i*3) (.string t.s):=(hb.cell Vm).trans (HT.out _ _ aJ.1);have T8:ak wr gt (i*3+1) (.int .u8 t.kind):=(hb.cell Vm).trans (HT.out _ _ aJ.2.1);have V7:ak wr gt (i*3+2) (Y t.line):=(hb.cell Vm).trans (HT.out _ _ aJ.2.2);have HH:Hid (Yk (U.drop i)=t):=by
     unfold Hid Yk;rw[List.headD_eq_head?_getD,List.head?_drop,aC];rfl
    have HL:Hid (t.kind≠101->i<U.length):=λ_=>ZR
    clear aJ aC;go_wp2
    cases SM:Yx y t.kind t.s.toList with
    |some next=>
     have bQ:=wR SM;have HO:Hid (Yx (bs y).toList t.kind t.s.toList=some next):=qW
     have HF:Hid (Vl k (next++rest) (U.drop i)=some R):=by
      exact ny
     clear SM hF;go_region_held3 (λw'=>w'.cell? (O g off)=some (.string (bs y))/\w'.cell? (ah wr.heap.size)=some (.string t.s)/\w'.cell? (O wr.heap.size 1)=some (.int .u8 t.kind)/\w'.cell? (O wr.heap.size 2)=some (Y t.line)) (go_keep)
      (first|(go_at_call 94;refine(wW _ _ _ _ _ _ HO.out).mono ?_;rintro e w2 ⟨gn,rfl,Vu,av⟩;obtain⟨aH,aj⟩:=Ee av))
     have OC:wr.heap.size+1<=w2.heap.size:=qX;have V8:=hb.size;go_wp2_with (at_builtin;refine ey _ rfl _ _ 37 rfl w.heap.size 9 i0 (.string .empty) 1 16 Tryz.underlying37 Y8 Ze Zq Zn rfl pF _ _ _ rfl (ed _ _ _ _) (ah gn) next.length next.length (strCells next) rfl tK (Vu.cells rfl) (BG _) pK J J ?_)
     intro v3 w3 Pk ai _;have Pk:w3.ownsRow w.heap.size 9 1 v3 next.length (strCells next):=by simpa using Pk
     have ar:=wQ br.out z av ai;obtain⟨o1,WT,au⟩:=wP uU ar;have YF:Hid (∀j u,(strCells rest)[j]?=some u->w3.cell? (((O g o1):Addr).add j)=some u):=au;have aK:=ai.size;have HB:Hid (∀w4,w3.grownBy w4 v3.ownBlock->Below w.heap.size w w4):=λw4 h4=>wO hb av ai Pk h4
     clear au ar aH aj Vu av ai bI T8 V7 aQ br HO;exact jG
    |none=>
     have HO:Hid (Yx (bs y).toList t.kind t.s.toList=none):=qW;have IB:Hid (Yx y (Yk (U.drop i)).kind (Yk (U.drop i)).s.toList=none):=by unfold Hid;rw[HH.out];exact SM
     have bF:(bs y).toList=y:=TF y;clear SM;go_region_held3 (λw'=>w'.cell? (O g off)=some (.string (bs y))/\w'.cell? (ah wr.heap.size)=some (.string t.s)/\w'.cell? (O wr.heap.size 1)=some (.int .u8 t.kind)/\w'.cell? (O wr.heap.size 2)=some (Y t.line)) (go_keep)
      (first|(go_at_call 94;refine(wV _ _ _ _ _ HO.out).mono ?_;rintro e w2 ⟨rfl,av⟩;obtain⟨aH,aj⟩:=Ee av))
     have ZV:w2.cell? (O g off)=some (.string (bs y))/\w2.cell? (ah wr.heap.size)=some (.string t.s)/\w2.cell? (O wr.heap.size 1)=some (.int .u8 t.kind)/\w2.cell? (O wr.heap.size 2)=some (Y t.line):=by assumption
     obtain⟨aM,Vo,V3,aL⟩:=ZV;have OC:wr.heap.size+1<=w2.heap.size:=qX;have Xf:Hid (Below w.heap.size w w2):=wN hb av;have Xk:=wM br.out z av;have wH:Hid (∀j u,(strCells rest)[j]?=some u->ak w2 g (off+1+j) u):=Xk;clear aH aj av bI T8 V7 aQ br HO Xk;have MJ:=HL;by_cases e1:(y==t.s.toList)=true
     ·by_cases e2:(t.kind != 101)=true
      ·go_wp2;go_region_held3 (λw'=>w'.cell? (O g off)=some (.string (bs y))/\w'.cell? (ah wr.heap.size)=some (.string t.s)/\w'.cell? (O wr.heap.size 1)=some (.int .u8 t.kind)) (go_keep) (fail)
       by_cases eI:(y==[73,78,84])=true
       ·exact nN
       ·have eI:(y==[73,78,84])=false:=by simpa using eI
        by_cases eN:(y==[78,65,77,69])=true
        ·exact nR
        ·have eN:(y==[78,65,77,69])=false:=by simpa using eN
         have P3:fits y t=true:=ago eI eN e1 e2;exact jg
      ·have e2:(t.kind != 101)=false:=by simpa using e2
       go_wp2;go_region_held3 (λw'=>w'.cell? (O g off)=some (.string (bs y))/\w'.cell? (ah wr.heap.size)=some (.string t.s)/\w'.cell? (O wr.heap.size 1)=some (.int .u8 t.kind)) (go_keep) (fail)
       by_cases eI:(y==[73,78,84])=true
       ·exact nN
       ·have eI:(y==[73,78,84])=false:=by simpa using eI
        by_cases eN:(y==[78,65,77,69])=true
        ·exact nR
        ·have eN:(y==[78,65,77,69])=false:=by simpa using eN
         have P3:fits y t=false:=agp eI eN e1 e2;exact jh
     ·have e1:(y==t.s.toList)=false:=by simpa using e1
      go_wp2;go_quiet (fail);by_cases eI:(y==[73,78,84])=true
      ·exact nN
      ·have eI:(y==[73,78,84])=false:=by simpa using eI
       by_cases eN:(y==[78,65,77,69])=true
       ·exact nR
       ·have eN:(y==[78,65,77,69])=false:=by simpa using eN
        have P3:fits y t=false:=agq eI eN e1;exact jh
   ·obtain⟨t,rfl⟩:∃t,t=Sy:=⟨_,rfl⟩;have HH:Hid (Yk (U.drop i)=Sy):=by
     unfold Hid Yk;rw[bE J];rfl
    have HL:Hid (Sy.kind≠101->i<U.length):=λh=>absurd rfl h
    go_wp2
    cases SM:Yx y (101:Int) (ByteArray.mk #[]).toList with
    |some next=>
     have bQ:=wR SM;have HO:Hid (Yx (bs y).toList (101:Int) (ByteArray.mk #[]).toList=some next):=qW
     have HF:Hid (Vl k (next++rest) (U.drop i)=some R):=by
      exact ny
     clear SM hF;go_region_held3 (λw'=>w'.cell? (O g off)=some (.string (bs y))/\w'.cell? (ah wr.heap.size)=some (.string (ByteArray.mk #[]))/\w'.cell? (O wr.heap.size 1)=some (.int .u8 (101:Int))/\w'.cell? (O wr.heap.size 2)=some (Y (0:Int))) (go_keep)
      (first|(go_at_call 94;refine(wW _ _ _ _ _ _ HO.out).mono ?_;rintro e w2 ⟨gn,rfl,Vu,av⟩;obtain⟨aH,aj⟩:=Ee av))
     have OC:wr.heap.size+1<=w2.heap.size:=qX;have V8:=hb.size;go_wp2_with (at_builtin;refine ey _ rfl _ _ 37 rfl w.heap.size 9 i0 (.string .empty) 1 16 Tryz.underlying37 Y8 Ze Zq Zn rfl pF _ _ _ rfl (ed _ _ _ _) (ah gn) next.length next.length (strCells next) rfl tK (Vu.cells rfl) (BG _) pK J J ?_)
     intro v3 w3 Pk ai _;have Pk:w3.ownsRow w.heap.size 9 1 v3 next.length (strCells next):=by simpa using Pk
     have ar:=wQ br.out z av ai;obtain⟨o1,WT,au⟩:=wP uU ar;have YF:Hid (∀j u,(strCells rest)[j]?=some u->w3.cell? (((O g o1):Addr).add j)=some u):=au;have aK:=ai.size;have HB:Hid (∀w4,w3.grownBy w4 v3.ownBlock->Below w.heap.size w w4):=λw4 h4=>wO hb av ai Pk h4
     clear au ar aH aj Vu av ai aQ br HO;exact jG
    |none=>
     have HO:Hid (Yx (bs y).toList (101:Int) (ByteArray.mk #[]).toList=none):=qW;have IB:Hid (Yx y (Yk (U.drop i)).kind (Yk (U.drop i)).s.toList=none):=by unfold Hid;rw[HH.out];exact SM
     have bF:(bs y).toList=y:=TF y;clear SM;go_region_held3 (λw'=>w'.cell? (O g off)=some (.string (bs y))/\w'.cell? (ah wr.heap.size)=some (.string (ByteArray.mk #[]))/\w'.cell? (O wr.heap.size 1)=some (.int .u8 (101:Int))/\w'.cell? (O wr.heap.size 2)=some (Y (0:Int))) (go_keep)
      (first|(go_at_call 94;refine(wV _ _ _ _ _ HO.out).mono ?_;rintro e w2 ⟨rfl,av⟩;obtain⟨aH,aj⟩:=Ee av))
     have ZV:w2.cell? (O g off)=some (.string (bs y))/\w2.cell? (ah wr.heap.size)=some (.string (ByteArray.mk #[]))/\w2.cell? (O wr.heap.size 1)=some (.int .u8 (101:Int))/\w2.cell? (O wr.heap.size 2)=some (Y (0:Int)):=by assumption
     obtain⟨aM,Vo,V3,aL⟩:=ZV;have OC:wr.heap.size+1<=w2.heap.size:=qX;have Xf:Hid (Below w.heap.size w w2):=wN hb av;have Xk:=wM br.out z av;have wH:Hid (∀j u,(strCells rest)[j]?=some u->ak w2 g (off+1+j) u):=Xk;clear aH aj av aQ br HO Xk;by_cases e1:(y==[])=true
     ·exact oy
     ·have e1:(y==[])=false:=by simpa using e1
      exact oy
end
end Go.Proofs.YthpcbbnabnlanaaGreatDoor
