import Derived.Test.YthpcbbnabnlanaaGreatDoorM39
import Derived.Lib.OwnBridge
import Derived.Sort.OwnSortedInts
namespace Go.Proofs.YthpcbbnabnlanaaGreatDoor
set_option maxHeartbeats 4000000
set_option maxRecDepth 100000
open Go.Proofs.Tryz
open Go.RowKit
set_option linter.all false
variable {w0 w w' aW:A}
def Ob (l:az):az:=l.mergeSort λx y=>decide (x<=y)
def XV (c:Yz):az:=Lib.compact (Ob (Y2 c))
theorem acQ (d:Array Int):∀(m:Nat),m<=d.size->∀v,v∈Lib.compactUpTo d m↔∃j,j<m/\d[j]! =v
 |0,_,v=>by simp[Lib.compactUpTo]
 |m+1,h,v=>by
  have ih:=acQ d m J v;rw[Lib.compactUpTo_succ,fE,ih];constructor
  ·rintro(⟨j,F,h2⟩|F)
   ·exact⟨j,J,h2⟩
   ·split at F
    ·exact⟨m,J,(List.mem_singleton.1 F).symm⟩
    ·cases F
  ·rintro⟨j,F,h2⟩;by_cases c:j<m
   ·exact .inl ⟨j,c,h2⟩
   ·have:j=m:=J;subst this;by_cases k:Lib.keeps d j=true
    ·right;rw[iR k];simp[h2]
    ·left
     have k2:¬(j=0\/d[j]! ≠d[j-1]!):=by simpa[Lib.keeps]using k
     have k3:j≠0:=λe=>k2 (.inl e)
     have k4:d[j]! =d[j-1]! :=Decidable.byContradiction λe=>k2 (.inr e)
     exact⟨j-1,J,by rw[<-k4];exact h2⟩
theorem ams (l:az)(v:Int):v∈Lib.compact l↔v∈l:=by
 unfold Lib.compact;rw[acQ l.toArray l.length pG v];constructor
 ·rintro⟨j,F,h2⟩;have:l.toArray[j]! =l[j]:=sk;rw[this]at h2;rw[<-h2];exact eL F
 ·intro h;obtain⟨j,F,h2⟩:=cX h;exact⟨j,F,by simp[F,h2]⟩
theorem amt (l:az)(v:Int):v∈Ob l↔v∈l:=(List.mergeSort_perm l _).mem_iff
theorem Hb (l:az):(Ob l).length=l.length:=(List.mergeSort_perm l _).length_eq
theorem zo (c:Yz)(v:Int):v∈XV c↔v∈Y2 c:=by unfold XV;rw[ams,amt]
theorem zn (c:Yz):(XV c).length<=(Y2 c).length:=by
 have:=Lib.compact_length_le (Ob (Y2 c));rw[Hb]at this;exact this
theorem CU {B e anZ n:Nat}{v:aF}{xs:ay}(h:aB w0 w)(ho:w.ownsRow B e anZ v n xs)(hB:w0.heap.size<=B)(z:w.grownBy w' v.ownBlock):aB w0 w':=by
 cases hv:v.ownBlock with
 |none=>rw[hv]at z;exact h.trans z
 |some k=>rw[hv]at z;exact Ri h (gZ hB (ho.lt k hv).1) z
theorem amu {B:Nat}{v:aF}{l:az}(ho:w.ownsRow B 3 1 v l.length (l.map (Value.int .i64)))(ZP:l≠[])(hl:l.length<=1000):aq 127 #[v] w λe w1=>e=.returned (.tuple #[])/\w1.ownsRow B 3 1 v (Ob l).length ((Ob l).map (Value.int .i64))/\w.grownBy w1 v.ownBlock:=by
 have aX:0<l.length:=List.length_pos_iff.2 ZP;obtain⟨g,cap,rfl,hB,ZR,hc,hm,_,hH⟩:=Lib.holds_of_ownsRow ho (by
  rintro rfl;rcases ho.2 with⟨_,q⟩|⟨g,cap,cur,q,_⟩
  ·exact ZP (bA.1 q)
  ·cases q)
 refine(Tryz.slices_Sort_int g 0 cap l w hH ZR J).mono ?_;rintro e w1 ⟨rfl,n,os,rfl⟩;refine⟨rfl,?_,grownBy_sortedI _⟩;rcases ho.2 with⟨q,_⟩|⟨g',UH,cur,q,q1,q2,q3,q4,q5,q6⟩
 ·cases q
 ·injection q with e1 e2 e3;injection e1 with e1;injection e1 with e1;subst e1 e3;rw[Hb];exact ownsRow_sortedI (ss:=l) (Hb l) hB q2 q3 q4 q5
theorem amv {B:Nat}{v:aF}{l:az}(ho:w.ownsRow B 3 1 v l.length (l.map (Value.int .i64)))(ZP:l≠[])(hl:l.length<=1000):aq 128 #[v] w λe w1=>∃g cap,e=.returned (aj g (Lib.compact l).length cap)/\w1.ownsRow B 3 1 (aj g (Lib.compact l).length cap) (Lib.compact l).length ((Lib.compact l).map (Value.int .i64))/\w.grownBy w1 v.ownBlock:=by
 obtain⟨g,cap,rfl,hB,ZR,hc,hm,_,hH⟩:=Lib.holds_of_ownsRow ho (by
  rintro rfl;rcases ho.2 with⟨_,q⟩|⟨g,cap,cur,q,_⟩
  ·exact ZP (bA.1 q)
  ·cases q)
 refine(Tryz.slices_Compact_int g 0 cap l w hH J hc).mono ?_;rintro e w1 ⟨rfl,q,rfl⟩;have I:=Lib.compact_length_le l;refine⟨g,cap,rfl,?_,?_⟩
 ·have r:=Lib.ownsRow_putRow (q:=q) (k:=(Lib.compact l).length) (ys:=Lib.compact l++List.replicate (l.length-(Lib.compact l).length) 0) ho pI I;rw[List.take_left' rfl]at r;exact r
 ·have r:=grownBy_sortedI (w:=w) (g:=g) (n:=q) (os:=#[]) (Lib.compact l++List.replicate (l.length-(Lib.compact l).length) 0).toArray;rw[Sort.grow_empty]at r;exact r
theorem Jk:(prog.info? 3).map (λi=>(i.zero,i.size,i.bytes))=some (some (Y 0),1,8):=pH
def Jj (w:A)(c:Yz)(e:Ending)(w':A):Prop:=∃g cap,e=.returned (aj g (XV c).length cap)/\w'.ownsRow w.heap.size 3 1 (aj g (XV c).length cap) (XV c).length ((XV c).map (Value.int .i64))/\aB w w'
def Px (w:A)(l:az)(i:Nat)(v:aF)(wr:A):Prop:=aB w wr/\wr.ownsRow w.heap.size 3 1 v (l.take i).length ((l.take i).map (Value.int .i64))
theorem Px.next {l:az}{i:Nat}{v v':aF}{wr w8 w9:A}{a:Int}(h:Px w l i v wr)(ha:l[i]?=some a)(h8:aB wr w8)(au:w8.ownsRow w.heap.size 3 1 v (l.take i).length ((l.take i).map (Value.int .i64)))(ZO:w9.ownsRow w.heap.size 3 1 v' ((l.take i).length+1) ((l.take i).map (Value.int .i64)++[Y a]))(z:w8.grownBy w9 v.ownBlock):Px w l (i+1) v' w9:=by
 refine⟨CU (h.1.trans h8) au (iw _) z,?_⟩;rw[dX,ha];simp only[Option.toList_some,dA,fD,bP,gG,gR];exact ZO
theorem KX {n:Nat}{t:Int->Prop}{c:Yz}(h:UF n t c):(Y2 c).length<=9:=by
 have F:=h.MC;have h2:=h.WB;have h3:=h.Ip;unfold Y2;split
 ·simp;omega
 ·split
  ·simp;omega
  ·split
   ·simp
   ·split
    ·omega
    ·split
     ·simp;omega
     ·simp
theorem E4 {n:Nat}{t:Int->Prop}{c:Yz}(h:UF n t c):Y2 c≠[]:=by
 unfold Y2;rcases h.sort with e|e|e|e|e
 ·rw[iQ J,iR e];intro q;exact h.Ky (.inl e) qE
 ·rw[iR e];simp
 ·rw[iQ J,iQ J,iR e];simp
 ·rw[iQ J,iQ J,iQ J,iR e];exact h.Pu e
 ·rw[iQ J,iQ J,iQ J,iQ J,iR e];intro q;exact h.Ha e qE
def js{P:Prop}(h:P:=by
 have Zm:=Z8 ZX;clear ZO ZX;go_wp2_with (first|(go_at_call 128;refine(amv Ue E3.out (by rw[Hb];exact L4.out)).mono ?_;rintro e w2 ⟨g,cap,rfl,Vu,ZU⟩)|(go_at_call 127;refine(amu YD.out Ub.out L4.out).mono ?_;rintro e w1 ⟨rfl,Ue,ZZ⟩))
 go_ret;exact⟨g,cap,rfl,Vu,CU (CU Zm.out YD.out (iw _) ZZ) Ue (iw _) ZU⟩):P:=h
def oz{P:Prop}(h:P:=by
 clear YA YN ZO R;go_wp2;go_roundw
 case rel=>exact⟨i+1,_,J,pQ,rfl,by have q:=Ji.out;simpa[dG]using q⟩
 case measure=>simp[intOf];omega):P:=h
def oI{P:Prop}(h:P:=by
 rw[HT9.out]at ZO YA;exact Px.next J8.out OE.out ((di _ _ _).trans (di _ _ _)) ((ZO.alloc _).alloc _) YA YN):P:=h
def jz{P:Prop}(h:P:=by
 have Xy:(0:Int)<=i:=J;have J8:=Z8 Wb;clear hR Wb ha;obtain⟨T9,Jh⟩:∃T9,T9=(Y2 x.c).take (i+0):=⟨_,rfl⟩;rw[<-Jh]at ZO hlen;have HT9:=Z8 Jh;clear Jh;go_wp2_with (at_builtin;refine ey _ rfl _ _ 33 rfl w.heap.size 3 i0 (Y 0) 1 8 underlying33 Y8 Ze Zq Zn rfl pF _ _ _ rfl ((ZO.alloc _).alloc _) (ah (wr.heap.size+1)) 1 1 [Y a1] rfl rfl (World.news_of_block CT) qs ?c3 ?c4 ?c5 ?_)
 case c3=>unfold maxLen;omega
 case c4=>omega
 case c5=>simp;omega
 intro v' w9 YA YN _;have R:Px w (Y2 x.c) (i+0+1) v' w9:=by
  exact oI
 have Ji:=Z8 R;exact oz):P:=h
def lS{P:Prop}(h:P:=by
 have q:=Wb.2;rw[bH (by have:=Kq.out;omega)]at q;exact q):P:=h
def mA{P:Prop}(h:P:=by
 have q:=gp (wr.alloc (.cells #[Y a1,Y a2] 201)) (.cells #[Y a1] 3);simpa using q):P:=h
def nW{P:Prop}(h:P:=by
 have ZX:=Wb.1;have ZO:wr.ownsRow w.heap.size 3 1 u (Y2 x.c).length ((Y2 x.c).map (Value.int .i64)):=by
  exact lS
 have YD:=Z8 ZO;exact js):P:=h
def pD{P:Prop}(h:P:=by
 obtain rfl:i=(x.c.ZA).length:=J;exact nW):P:=h
theorem amw {b o B n:Nat}{x:X7}{t:Int->Prop}(h:Ty w b o B x)(ar:UF n t x.c)(h0:x.c.sort=0):aq 84 #[.pointer (some (O b o))] w (Jj w x.c):=by
 have k0:w.cell? (O b o)=some (Y 0):=pP;obtain⟨gt,ct,hT,_⟩:=YR.TX h.at_.t (by cases e:x.c.ZA with|nil=>exact absurd e (ar.Ky (.inl h0))|cons _ _=>simp)
 have k2:w.cell? (O b (o+2))=some (aj gt x.c.ZA.length ct):=qu;have b7:Hid (Y2 x.c=x.c.ZA.map (·.1)):=by unfold Hid Y2;rw[iQ J,iR h0]
 have bB:Hid (∀i a,x.c.ZA[i]?=some a->(Y2 x.c)[i+0]?=some a.1):=λi a ha=>by rw[b7.out,gX,dR,ha];rfl
 have Kq:Hid ((Y2 x.c).length=x.c.ZA.length+0):=uF;have ax:Hid (Px w (Y2 x.c) (0+0) (af) w):=⟨WW _ _,ed _ _ _ _⟩;have Vm:=hT.lt;have b8:=ar.MC;have Ub:Hid (Y2 x.c≠[]):=E4 ar;have L4:Hid ((Y2 x.c).length<=1000):=gZ (KX ar) J;have E3:Hid (Ob (Y2 x.c)≠[]):=λe=>Ub.out pY
 have ZR:=h.lt;obtain⟨i0,Y8,Ze,Zq,Zn⟩:=iE Jk;have HT:=Z8 hT;clear h hT ar h0;go_enter func84,ntmps84;go_wp2
 go_loopw [3,34] (λv vi wr=>∃(i:Nat) (u:aF),i<=(x.c.ZA).length/\vi=Y i/\u=v/\Px w (Y2 x.c) (i+0) u wr) (λ_ vi _=>(x.c.ZA).length-(intOf vi).toNat)
 case atStart=>exact⟨0,_,iz _,rfl,rfl,ax.out⟩
 case round=>
  obtain⟨i,u,hi,rfl,rfl,Wb⟩:=hrel;by_cases YK:i<(x.c.ZA).length
  ·obtain⟨a,ha⟩:∃a,(x.c.ZA)[i]?=some a:=⟨_,aZ YK⟩;have hR:=HT.out.kept Wb.1 pG;have q0:ak wr gt (i*2) (Y a.1):=hR.at (sz:=2) (λ_=>rfl) ha 0 _ rfl
   have q1:ak wr gt (i*2+1) (Y a.2):=hR.at (sz:=2) (λ_=>rfl) ha 1 _ rfl
   have OE:=Z8 (bB.out i a ha);obtain⟨a1,a2⟩:=a;simp only at *;have ZO:=Wb.2;have hlen:((Y2 x.c).take (i+0)).length<=1000:=rG;have Fy:w.heap.size<=wr.heap.size:=Wb.1.size;have aA:gt<wr.heap.size:=hR.lt;have CT:((wr.alloc (.cells #[Y a1,Y a2] 201)).alloc (.cells #[Y a1] 3)).heap[wr.heap.size+1]?=some (.cells #[Y a1] 3 (0,0)):=by
    exact mA
   have X8:(i:Int)<(x.c.ZA).length:=J;exact jz
  ·exact pD
theorem amx {b o B n:Nat}{x:X7}{t:Int->Prop}(h:Ty w b o B x)(ar:UF n t x.c)(h0:x.c.sort=4):aq 84 #[.pointer (some (O b o))] w (Jj w x.c):=by
 have k0:w.cell? (O b o)=some (Y 4):=pP;obtain⟨gt,ct,hT,_⟩:=YR.TX h.at_.i qM;have k2:w.cell? (O b (o+9))=some (aj gt x.c.lits.length ct):=sx;have b7:Hid (Y2 x.c=x.c.lits.map (·.1)):=by unfold Hid Y2;rw[iQ J,iQ J,iQ J,iQ J,iR h0]
 have bB:Hid (∀i a,x.c.lits[i]?=some a->(Y2 x.c)[i+0]?=some a.1):=λi a ha=>by rw[b7.out,gX,dR,ha];rfl
 have Kq:Hid ((Y2 x.c).length=x.c.lits.length+0):=uF;have ax:Hid (Px w (Y2 x.c) (0+0) (af) w):=⟨WW _ _,ed _ _ _ _⟩;have Vm:=hT.lt;have b8:=ar.Ip;have Ub:Hid (Y2 x.c≠[]):=E4 ar;have L4:Hid ((Y2 x.c).length<=1000):=gZ (KX ar) J;have E3:Hid (Ob (Y2 x.c)≠[]):=λe=>Ub.out pY
 have ZR:=h.lt;obtain⟨i0,Y8,Ze,Zq,Zn⟩:=iE Jk;have HT:=Z8 hT;clear h hT ar h0;go_enter func84,ntmps84;go_wp2
 go_loopw [3,66] (λv vi wr=>∃(i:Nat) (u:aF),i<=(x.c.lits).length/\vi=Y i/\u=v/\Px w (Y2 x.c) (i+0) u wr) (λ_ vi _=>(x.c.lits).length-(intOf vi).toNat)
 case atStart=>exact⟨0,_,iz _,rfl,rfl,ax.out⟩
 case round=>
  obtain⟨i,u,hi,rfl,rfl,Wb⟩:=hrel;by_cases YK:i<(x.c.lits).length
  ·obtain⟨a,ha⟩:∃a,(x.c.lits)[i]?=some a:=⟨_,aZ YK⟩;have hR:=HT.out.kept Wb.1 pG;have q0:ak wr gt (i*2) (Y a.1):=hR.at (sz:=2) (λ_=>rfl) ha 0 _ rfl
   have q1:ak wr gt (i*2+1) (Y a.2):=hR.at (sz:=2) (λ_=>rfl) ha 1 _ rfl
   have OE:=Z8 (bB.out i a ha);obtain⟨a1,a2⟩:=a;simp only at *;have ZO:=Wb.2;have hlen:((Y2 x.c).take (i+0)).length<=1000:=rG;have Fy:w.heap.size<=wr.heap.size:=Wb.1.size;have aA:gt<wr.heap.size:=hR.lt;have CT:((wr.alloc (.cells #[Y a1,Y a2] 203)).alloc (.cells #[Y a1] 3)).heap[wr.heap.size+1]?=some (.cells #[Y a1] 3 (0,0)):=by
    have q:=gp (wr.alloc (.cells #[Y a1,Y a2] 203)) (.cells #[Y a1] 3);simpa using q
   have X8:(i:Int)<(x.c.lits).length:=J;exact jz
  ·obtain rfl:i=(x.c.lits).length:=J;exact nW
theorem amy {b o B n:Nat}{x:X7}{t:Int->Prop}(h:Ty w b o B x)(ar:UF n t x.c)(h0:x.c.sort=1):aq 84 #[.pointer (some (O b o))] w (Jj w x.c):=by
 have k0:w.cell? (O b o)=some (Y 1):=pP;have k1:ak w b (o+1) (Y x.c.Yp):=h.cell 1 _ rfl;obtain⟨gt,ct,hT,_⟩:=YR.TX h.at_.t (by cases e:x.c.ZA with|nil=>exact absurd e (ar.Ky (.inr h0))|cons _ _=>simp)
 have k2:w.cell? (O b (o+2))=some (aj gt x.c.ZA.length ct):=qu;have b7:Hid (Y2 x.c=x.c.Yp::x.c.ZA.map (·.1)):=by unfold Hid Y2;rw[iR h0]
 have bB:Hid (∀i a,x.c.ZA[i]?=some a->(Y2 x.c)[i+1]?=some a.1):=λi a ha=>by rw[b7.out,List.getElem?_cons_succ,dR,ha];rfl
 have Kq:Hid ((Y2 x.c).length=x.c.ZA.length+1):=uF;have av:(w.alloc (.cells #[Y x.c.Yp] 3)).heap[w.heap.size]?=some (.cells #[Y x.c.Yp] 3 (0,0)):=gp _ _;have aw:Hid (∀v' w9,w9.ownsRow w.heap.size 3 1 v' (0+1) ([]++[Y x.c.Yp])->(w.alloc (.cells #[Y x.c.Yp] 3)).grownBy w9 (af).ownBlock->Px w (Y2 x.c) (0+1) v' w9):=λv' w9 q1 q2=>by
  refine Px.next (v:=af) (wr:=w) ⟨WW _ _,ed _ _ _ _⟩ (by rw[b7.out];rfl) (di _ _ _) (ed _ _ _ _) q1 q2
 have aa:Hid (∀W:A,W.ownsRow w.heap.size 3 1 (af) 0 []):=λW=>ed _ _ _ _
 have Vm:=hT.lt;have b8:=ar.MC;have Ub:Hid (Y2 x.c≠[]):=E4 ar;have L4:Hid ((Y2 x.c).length<=1000):=gZ (KX ar) J;have E3:Hid (Ob (Y2 x.c)≠[]):=λe=>Ub.out pY
 have ZR:=h.lt;obtain⟨i0,Y8,Ze,Zq,Zn⟩:=iE Jk;have HT:=Z8 hT;clear h hT ar h0;go_enter func84,ntmps84;go_wp2_with (at_builtin;refine ey _ rfl _ _ 33 rfl w.heap.size 3 i0 (Y 0) 1 8 underlying33 Y8 Ze Zq Zn rfl pF _ _ _ rfl (aa.out _) (ah w.heap.size) 1 1 [Y x.c.Yp] rfl rfl (World.news_of_block av) qs ?c3 ?c4 ?c5 ?_)
 case c3=>unfold maxLen;omega
 case c4=>omega
 case c5=>simp
 intro v1 w1 Ue ai _;have ax:=Z8 (aw.out v1 w1 Ue ai);have aC:=ax.out.1.cell k2 pG;have N4:b<w1.heap.size:=dH ZR ax.out.1.size;clear Ue ai;go_wp2
 go_loopw [3,34] (λv vi wr=>∃(i:Nat) (u:aF),i<=(x.c.ZA).length/\vi=Y i/\u=v/\Px w (Y2 x.c) (i+1) u wr) (λ_ vi _=>(x.c.ZA).length-(intOf vi).toNat)
 case atStart=>exact⟨0,_,iz _,rfl,rfl,ax.out⟩
 case round=>
  obtain⟨i,u,hi,rfl,rfl,Wb⟩:=hrel;by_cases YK:i<(x.c.ZA).length
  ·obtain⟨a,ha⟩:∃a,(x.c.ZA)[i]?=some a:=⟨_,aZ YK⟩;have hR:=HT.out.kept Wb.1 pG;have q0:ak wr gt (i*2) (Y a.1):=hR.at (sz:=2) (λ_=>rfl) ha 0 _ rfl
   have q1:ak wr gt (i*2+1) (Y a.2):=hR.at (sz:=2) (λ_=>rfl) ha 1 _ rfl
   have OE:=Z8 (bB.out i a ha);obtain⟨a1,a2⟩:=a;simp only at *;have ZO:=Wb.2;have hlen:((Y2 x.c).take (i+1)).length<=1000:=by have:=L4.out;have:=cY (i+1) (Y2 x.c);rw[eP];omega
   have Fy:w.heap.size<=wr.heap.size:=Wb.1.size;have aA:gt<wr.heap.size:=hR.lt;have CT:((wr.alloc (.cells #[Y a1,Y a2] 201)).alloc (.cells #[Y a1] 3)).heap[wr.heap.size+1]?=some (.cells #[Y a1] 3 (0,0)):=by
    exact mA
   have X8:(i:Int)<(x.c.ZA).length:=J;have Xy:(0:Int)<=i:=J;have J8:=Z8 Wb;clear hR Wb ha;obtain⟨T9,Jh⟩:∃T9,T9=(Y2 x.c).take (i+1):=⟨_,rfl⟩;rw[<-Jh]at ZO hlen;have HT9:=Z8 Jh;clear Jh;go_wp2_with (at_builtin;refine ey _ rfl _ _ 33 rfl w.heap.size 3 i0 (Y 0) 1 8 underlying33 Y8 Ze Zq Zn rfl pF _ _ _ rfl ((ZO.alloc _).alloc _) (ah (wr.heap.size+1)) 1 1 [Y a1] rfl rfl (World.news_of_block CT) qs ?c3 ?c4 ?c5 ?_)
   case c3=>unfold maxLen;omega
   case c4=>omega
   case c5=>simp;omega
   intro v' w9 YA YN _;have R:Px w (Y2 x.c) (i+1+1) v' w9:=by
    exact oI
   have Ji:=Z8 R;exact oz
  ·exact pD
theorem amz {b o B n:Nat}{x:X7}{t:Int->Prop}(h:Ty w b o B x)(ar:UF n t x.c)(h0:x.c.sort=3):aq 84 #[.pointer (some (O b o))] w (Jj w x.c):=by
 have k0:w.cell? (O b o)=some (Y 3):=pP;obtain⟨gt,ct,hT,_⟩:=YR.TX h.at_.v qL;have k2:w.cell? (O b (o+8))=some (aj gt x.c.vars.length ct):=sw;have b7:Hid (Y2 x.c=x.c.vars):=by unfold Hid Y2;rw[iQ J,iQ J,iQ J,iR h0]
 have YF:Hid (∀j u,(x.c.vars.map (Value.int .i64))[j]?=some u->w.cell? (((ah gt):Addr).add j)=some u):=λj u hu=>by
  have P5:((ah gt):Addr).add j=(O gt j):=by unfold Addr.add;split<;>simp_all
  rw[P5];exact hT.row j u (by rw[C9];exact hu)
 have aa:Hid (∀W:A,W.ownsRow w.heap.size 3 1 (af) 0 []):=λW=>ed _ _ _ _
 have Vm:=hT.lt;have b8:=ar.WB;have Ub:Hid (Y2 x.c≠[]):=E4 ar;have L4:Hid ((Y2 x.c).length<=1000):=gZ (KX ar) J;have E3:Hid (Ob (Y2 x.c)≠[]):=λe=>Ub.out pY
 have ZR:=h.lt;obtain⟨i0,Y8,Ze,Zq,Zn⟩:=iE Jk;clear h hT ar h0;go_enter func84,ntmps84;go_wp2_with (at_builtin;refine ey _ rfl _ _ 33 rfl w.heap.size 3 i0 (Y 0) 1 8 underlying33 Y8 Ze Zq Zn rfl pF _ _ _ rfl (aa.out _) (ah gt) x.c.vars.length ct (x.c.vars.map (Value.int .i64)) rfl pG YF.out (by intro u hu;obtain⟨y,_,rfl⟩:=gU.1 hu;rfl) ?c3 ?c4 ?c5 ?_)
 case c3=>unfold maxLen;omega
 case c4=>omega
 case c5=>simp
 intro v1 wr Ue ZX _;have ZX:aB w wr:=ZX;have ZO:wr.ownsRow w.heap.size 3 1 v1 (Y2 x.c).length ((Y2 x.c).map (Value.int .i64)):=by
  rw[b7.out];simpa using Ue
 clear Ue;have YD:=Z8 ZO;exact js
theorem amA {b o B n:Nat}{x:X7}{t:Int->Prop}(h:Ty w b o B x)(ar:UF n t x.c)(h0:x.c.sort=2):aq 84 #[.pointer (some (O b o))] w (Jj w x.c):=by
 have k0:w.cell? (O b o)=some (Y 2):=pP;have k6:ak w b (o+6) (Y x.c.place):=h.cell 6 _ rfl;have k7:ak w b (o+7) (Y x.c.entry):=h.cell 7 _ rfl;have b7:Hid (Y2 x.c=[x.c.place,x.c.entry]):=by unfold Hid Y2;rw[iQ J,iQ J,iR h0]
 have aa:Hid (∀W:A,W.ownsRow w.heap.size 3 1 (af) 0 []):=λW=>ed _ _ _ _
 have Ub:Hid (Y2 x.c≠[]):=E4 ar;have L4:Hid ((Y2 x.c).length<=1000):=gZ (KX ar) J;have E3:Hid (Ob (Y2 x.c)≠[]):=λe=>Ub.out pY
 have ZR:=h.lt;obtain⟨i0,Y8,Ze,Zq,Zn⟩:=iE Jk;clear h ar h0;go_enter func84,ntmps84;go_wp2;go_region_law ((refine step_append_lies _ p8 _ _ 33 p8 w.heap.size 3 i0 (Y 0) 1 8 underlying33 Y8 Ze Zq Zn rfl pF (af) 0 [] p8 (aa.out _) (ah w.heap.size) 2 2 [Y x.c.place,Y x.c.entry] p8 rfl (World.news_of_block (cs:=#[Y x.c.place,Y x.c.entry]) (t:=3) (fr:=(0,0)) (gp w.drew _)) (by intro u hu;simp at hu;rcases hu with rfl|rfl<;>rfl) pF pK J pG _ rfl ?_;intro gA XC wA YT Zo XL Xq))
 all_goals
  have ZX:aB w wA:=((ZG _ _).trans (di _ _ _)).trans Zo;have ZO:wA.ownsRow w.heap.size 3 1 (aj gA 2 XC) (Y2 x.c).length ((Y2 x.c).map (Value.int .i64)):=by
   rw[b7.out];exact YT
  clear YT Zo;have YD:=Z8 ZO;exact js
theorem amB {b o B n:Nat}{x:X7}{t:Int->Prop}(h:Ty w b o B x)(ar:UF n t x.c):aq 84 #[.pointer (some (O b o))] w (Jj w x.c):=by
 rcases ar.sort with e|e|e|e|e
 ·exact amw h ar e
 ·exact amy h ar e
 ·exact amA h ar e
 ·exact amz h ar e
 ·exact amx h ar e
end Go.Proofs.YthpcbbnabnlanaaGreatDoor
