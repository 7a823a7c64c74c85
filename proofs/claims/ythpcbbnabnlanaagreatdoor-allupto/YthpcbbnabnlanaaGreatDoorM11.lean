import Derived.Test.YthpcbbnabnlanaaGreatDoorM09
import Derived.Test.YthpcbbnabnlanaaGreatDoorM10
import Derived.Maps.Own
import Derived.Maps.Views
import Derived.Deep.RegionHeld3
import Derived.BigQuiet
import Derived.Deep.RegionLaw
import Derived.Deep.LoopGhost
import Derived.Lib.ItoaNum
namespace Go.Proofs.YthpcbbnabnlanaaGreatDoor
set_option maxHeartbeats 4000000
set_option maxRecDepth 100000
open Go.Proofs.Tryz
open Go.RowKit
set_option linter.all false
variable {w:A}{bp gt Z1:Nat}{U:List ZY}{st:ZK}
theorem aeT (h:Ps w bp gt Z1 U st)(hE:Ve U)(hi:st.1<U.length):aq 68 #[ai bp] w (Uo U st w bp gt Z1):=by
 by_cases h4:Z6 (ZT U st.1)=4
 ·exact aeE h hE hi h4
 by_cases h5:Z6 (ZT U st.1)=5
 ·exact aeF h hE hi h5
 by_cases h6:Z6 (ZT U st.1)=6
 ·exact aeG h hE hi h6
 by_cases h7:Z6 (ZT U st.1)=7
 ·exact aeH h hE hi h7
 by_cases h8:Z6 (ZT U st.1)=8
 ·exact aeI h hE hi h8
 by_cases h9:Z6 (ZT U st.1)=9
 ·exact aeJ h hE hi h9
 by_cases XP:Z6 (ZT U st.1)=10
 ·exact aeK h hE hi XP
 ·exact aeL h hE hi (by simp[WV,h4,h5,h6,h7,h8,h9,XP])
def TK (U:List ZY):Nat->List Xl->ZK->List Xl×ZK
 |0,acc,st=>(acc,st)
 |f+1,acc,st=>if st.2=0/\Z6 (ZT U st.1)≠1 then TK U f (acc++[(Yr U st).1]) (ZM U [11] (Yr U st).2)else(acc,st)
def Xc (U:List ZY):List Xl×ZK:=TK U (U.length+1) [] (0,0)
def Uy (a b:ZK):Prop:=a.1<=b.1/\(b.2=0->a.2=0)
theorem Uy.refl (a:ZK):Uy a a:=⟨iw _,λh=>h⟩
theorem Uy.trans {a b c:ZK}(h:Uy a b)(k:Uy b c):Uy a c:=⟨gZ h.1 k.1,λq=>h.2 (k.2 q)⟩
theorem UK (U:List ZY)(av:az)(a:ZK):Uy a (ZM U av a):=by
 refine⟨MV,λh=> ?_⟩
 unfold ZM at h;split at h
 ·assumption
 ·exact h
theorem Ew (U:List ZY)(neg:Bool)(a:ZK):Uy a (XE U neg a).2:=by
 unfold XE;split
 ·exact((UK _ _ _).trans (UK _ _ _)).trans (UK _ _ _)
 ·exact UK _ _ _
theorem Cc (U:List ZY)(a:ZK):Uy a (Xh U a).2:=by
 unfold Xh;split
 ·exact(UK _ _ _).trans (UK _ _ _)
 ·exact UK _ _ _
theorem Cb (U:List ZY)(f:Nat):∀(acc:List XU) (a:ZK),Uy a (VH U f acc a).2:=by
 induction f with
 |zero=>intro acc a;exact Uy.refl a
 |succ f ih=>
  intro acc a;simp only[VH];split
  ·exact((UK _ _ _).trans (Ew _ _ _)).trans (ih _ _)
  ·exact Uy.refl a
theorem aeU (U:List ZY)(a:ZK):Uy a (Vw U a).2:=(Ew _ _ _).trans (Cb _ _ _ _)
theorem Ca {α:Type}(U:List ZY)(one:ZK->α×ZK)(h:∀a,Uy a (one a).2)(f:Nat):∀(acc:List α) (a:ZK),Uy a (VZ U one f acc a).2:=by
 induction f with
 |zero=>intro acc a;exact Uy.refl a
 |succ f ih=>
  intro acc a;simp only[VZ];split
  ·exact((UK _ _ _).trans (h _)).trans (ih _ _)
  ·exact Uy.refl a
theorem B9 {α:Type}(U:List ZY)(one:ZK->α×ZK)(h:∀a,Uy a (one a).2)(a:ZK):Uy a (Xg U one a).2:=(h _).trans (Ca _ _ h _ _ _)
theorem B8 (U:List ZY)(s:Xl)(a:ZK):Uy a (Xe U s a).2:=((aeU _ _).trans (UK _ _ _)).trans (UK _ _ _)
theorem GI (U:List ZY)(a:ZK):Uy (ZM U WV a) (Yr U a).2:=by
 have T:=λav b=>UK U av b
 have S:=λs b=>B9 U (W8 U s) (λb=>UK U [s] b) b
 unfold Yr;simp only;split
 ·exact((((T _ _).trans (T _ _)).trans (T _ _)).trans (T _ _)).trans (T _ _)
 ·split
  ·exact((((T _ _).trans (T _ _)).trans (T _ _)).trans (S _ _)).trans (T _ _)
  ·split
   ·exact((T _ _).trans (T _ _)).trans (B8 _ _ _)
   ·split
    ·exact B8 _ _ _
    ·split
     ·exact(((((T _ _).trans (T _ _)).trans (T _ _)).trans (T _ _)).trans (T _ _)).trans (T _ _)
     ·split
      ·exact S _ _
      ·split
       ·exact B9 _ _ (Cc U) _
       ·exact Uy.refl _
def Rc (U:List ZY)(S:ZK):Nat:=if S.2=0 then U.length-S.1+1 else 0
theorem aeV {S:ZK}(hL:∀i,i<U.length->1<=(ZT U i).line)(hi:S.1<U.length)(h0:S.2=0):Rc U (ZM U [11] (Yr U S).2)<Rc U S:=by
 have F:=(GI U S).trans (UK U [11] _);unfold Rc;rw[iR h0];split
 ·rename_i h;have h2:=F.2 h;have h3:(ZM U WV S).1=S.1+1:=by
   unfold ZM at h2⊢;rw[iR h0]at h2⊢;split
   ·rfl
   ·rename_i hc;rw[iQ hc]at h2;have:=hL S.1 hi;simp only at h2;omega
  have h4:=F.1;omega
 ·omega
structure WU where
 s:Xl
 vn:aF
 vu:aF
 vt:aF
 vl:aF
def WU.cells (x:WU):ay:=(Xs x.s x.vn x.vu x.vt x.vl).toList
def WU.own (w:A)(B:Nat)(x:WU):Prop:=NX w B x.s x.vn x.vu x.vt x.vl
theorem xJ {w:A}{B e n s b:Nat}{v:aF}{xs:ay}{cs:Array aF}{t:TypeId}{fr:Nat×Nat}(h:w.ownsRow B e s v n xs)(hb:w.heap[b]?=some (.cells cs t fr))(he:e≠t):v.ownBlock≠some b:=by
 rcases h.2 with⟨rfl,_⟩|⟨g,cap,cur,rfl,_,h3,_⟩
 ·intro e;cases e
 ·intro e1;have:g=b:=fO e1;subst this;rw[h3]at hb
  cases hb;exact he rfl
theorem WU.kept {w w':A}{B:Nat}{x:WU}{row:Option Nat}(h:x.own w B)(z:w.grownBy w' row)(hr:∀b,row=some b->b<B\/∃cs fr,w.heap[b]?=some (.cells cs 137 fr)):x.own w' B:=by
 have key:∀{e s n:Nat} {v:aF} {xs:ay},e≠137->w.ownsRow B e s v n xs->w'.ownsRow B e s v n xs:=λ{e s n v xs} he ho=>by
  refine ho.kept z ?_
  cases row with
  |none=>exact XY v
  |some b=>
   right
   rcases hr b rfl with q|⟨cs,fr,q⟩
   ·exact Pp ho q
   ·exact xJ ho q he
 exact⟨key pF h.n,key pF h.u,key pF h.t,key pF h.l⟩
theorem aeW (x:WU)(hn:x.vn.oneCell'=true)(hu:x.vu.oneCell'=true)(ht:x.vt.oneCell'=true)(hl:x.vl.oneCell'=true):∀u∈x.cells,u.oneCell'=true:=by
 intro u bz;simp only[WU.cells,Xs,gH,eQ,iM]at bz;rcases bz with rfl|rfl|rfl|rfl|rfl|rfl|rfl|rfl|rfl|rfl|rfl|rfl|rfl|rfl|rfl|rfl
 all_goals first|rfl|assumption
theorem aeX:(prog.info? 137).map (λi=>(i.zero,i.size,i.bytes))=some (some (.agg Qa),16,216):=pH
def B7 (U:List ZY)(gt Z1:Nat)(Zw:List Xl×ZK)(w:A)(n:Nat)(v:aF)(wr:A):Prop:=
 ∃(acc:List WU) (S:ZK) (f:Nat),S.1<U.length/\n=Rc U S/\Rc U S<=f/\Hid (TK U f (acc.map (·.s)) S=Zw)/\acc.length<=3000-n/\n<=2100/\Ps wr w.heap.size gt Z1 U S/\
  wr.ownsRow (w.heap.size+1) 137 16 v acc.length (acc.flatMap WU.cells)/\(∀x∈acc,x.own wr (w.heap.size+1))/\aB w wr
theorem Ev {f:Nat}{acc:List Xl}{S:ZK}(h0:S.2=0)(F:Z6 (ZT U S.1)≠1):TK U (f+1) acc S=TK U f (acc++[(Yr U S).1]) (ZM U [11] (Yr U S).2):=by
 simp only[TK];rw[iR ⟨h0,F⟩]
theorem GH {f:Nat}{acc:List Xl}{S:ZK}(h:¬(S.2=0/\Z6 (ZT U S.1)≠1)):TK U f acc S=(acc,S):=by
 cases f with
 |zero=>rfl
 |succ f=>simp only[TK];rw[iQ h]
theorem aeY {Zw:List Xl×ZK}{wr w1 w2 w3:A}{v v':aF}{o o':Obj}{acc:List WU}{S S2:ZK}{G:WU}{f:Nat}(aP:gt<w.heap.size)(bf:(ZM U [11] S2).1<U.length)(ZR:Rc U (ZM U [11] S2)<Rc U S)(hf:Rc U S<=f+1)(hl:Hid (TK U f (acc.map (·.s)++[G.s]) (ZM U [11] S2)=Zw))(Rh:acc.length<=3000-Rc U S)(hn:Rc U S<=2100)(ZX:aB w wr)(aW:w.heap.size<wr.heap.size)(aZ:∀x∈acc,x.own wr (w.heap.size+1))(ZO:wr.ownsRow (w.heap.size+1) 137 16 v acc.length (acc.flatMap WU.cells))(hO:G.own w1 (w.heap.size+1))(ZZ:wr.grownBy w1 (some w.heap.size))(YA:w2.ownsRow (w.heap.size+1) 137 16 v' (acc.length+1) (acc.flatMap WU.cells++G.cells))(YN:(w1.alloc o).grownBy w2 v.ownBlock)(ZJ:(w2.alloc o').grownBy w3 (some w.heap.size))(aY:Ps w3 w.heap.size gt Z1 U (ZM U [11] S2)):B7 U gt Z1 Zw w (Rc U (ZM U [11] S2)) v' w3:=by
 have e:∀k,v.ownBlock=some k->w.heap.size+1<=k:=λk I=>(ZO.lt k I).1
 have ty:∀b,v.ownBlock=some b->∃cs fr,(w1.alloc o).heap[b]?=some (.cells cs 137 fr):=λb hb=>by
  have F:=((ZO.kept ZZ (X1 ZO J)).alloc o);rcases F.2 with⟨h,_⟩|⟨g,cap,cur,h,_,h3,_⟩
  ·rw[h]at hb;cases hb
  ·rw[h]at hb;have:g=b:=fO hb;subst this;exact⟨_,_,h3⟩
 have k1:∀x:WU,x.own w1 (w.heap.size+1)->x.own w3 (w.heap.size+1):=λx hx=>
  WU.kept (WU.kept (WU.kept (WU.kept hx (di w1 o none) (λb q=>by cases q)) YN (λb q=>.inr (ty b q))) (di w2 o' none) (λb q=>by cases q)) ZJ (λb q=>by cases q;exact .inl J)
 refine⟨acc++[G],ZM U [11] S2,f,bf,rfl,J,by rw[fD];exact hl,by simp;omega,J,aY,?_,?_,?_⟩
 ·rw[cU,dA];have F:=((YA.alloc o').kept ZJ (X1 YA J));simpa using F
 ·intro x hx;rcases fE.1 hx with hx|hx
  ·exact k1 x (WU.kept (aZ x hx) ZZ (λb q=>by cases q;exact .inl J))
  ·obtain rfl:x=G:=rK;exact k1 x hO
 ·have z1:=ZX.size;have z2:=ZZ.size;have z3:=YN.size;have z4:=ZJ.size;simp at z3 z4;refine⟨ZJ.os.trans (YN.os.trans (ZZ.os.trans ZX.os)),ZJ.tape.trans (YN.tape.trans (ZZ.tape.trans ZX.tape)),ZJ.output.trans (YN.output.trans (ZZ.output.trans ZX.output)),J,λi hi hn=> ?_⟩
  have a3:=ZJ.block i pI pI;have a2:=YN.block i pI (λq=>by have:=e i q.symm;omega)
  have a1:=ZZ.block i J pI;exact(a3.trans (gq _ _ J)).trans ((a2.trans (gq _ _ J)).trans (a1.trans (ZX.block i hi hn)))
theorem B4 (hE:Ve U)(hL:∀i,i<U.length->1<=(ZT U i).line)(Yl:∀j u,(Wf U)[j]?=some u->ak w gt j u)(aP:gt<w.heap.size):aq 44 #[aj gt U.length Z1] w λe w'=>∃v,e=.returned (.tuple #[v,Y (Xc U).2.2])/\
   ((Xc U).2.2=0->∃acc:List WU,acc.map (·.s)=(Xc U).1/\w'.ownsRow (w.heap.size+1) 137 16 v acc.length (acc.flatMap WU.cells)/\∀x∈acc,x.own w' (w.heap.size+1))/\aB w w':=by
 obtain⟨i0,Y8,Ze,Zq,Zn⟩:=iE aeX;have hlen:=hE.len;have Z:=hE.pos;obtain⟨Zw,hR⟩:∃R,R=Xc U:=⟨_,rfl⟩;have HS:Hid (TK U (U.length+1) [] (0,0)=Zw):=uy;have HR:Hid (∀j u,(Wf U)[j]?=some u->ak w gt j u):=Yl;have HL:Hid (∀i,i<U.length->1<=(ZT U i).line):=hL;rw[<-hR];clear Yl hR hL;go_enter func44,ntmps44;go_wp2
 go_loopg [5] (U.length+1) (λn v wr=>B7 U gt Z1 Zw w n v wr)
 case atStart=>
  refine⟨[],(0,0),U.length+1,Z,by simp[Rc],by simp[Rc],HS,pG,J,?_,ed _ _ _ _,(λx hx=>qA),di _ _ _⟩
  have hB:=gp w (.cells #[aj gt U.length Z1,Y 0,Y 0] 132);exact⟨Z0 hB 0 _ rfl,Z0 hB 1 _ rfl,Z0 hB 2 _ rfl,Zz hB 1,Zz hB 2,pG,λj u hu=>(di w _ none).cell (HR.out j u hu) pG,by simp;omega,J⟩
 case round=>
  obtain⟨acc,⟨i,fl⟩,f,hi,rfl,hf,YO,Rh,hn,hP,ZO,aZ,ZX⟩:=hrel;have HP:Hid (Ps wr w.heap.size gt Z1 U (i,fl)):=hP;have c2:=hP.c2;have aW:=hP.lt;simp only at c2 hi;by_cases h0:fl=0
  ·subst h0;by_cases F:Z6 (ZT U i)=1
   ·have hs:Hid (XZ U 1 (i,0)=true):=by unfold Hid XZ;simp[F]
    have hl:Hid (Zw=(acc.map (·.s),(i,0))):=by rw[Hid,<-YO.out];exact GH sk
    clear YO F hP;go_wp2_with (go_at_call 67;refine(OO HP.out hlen hi 1).mono ?_;rw[hs.out];rintro e ws ⟨rfl,XD⟩;have RS:=HP.out.kept XD pG pG;have d2:=RS.c2)
    go_ret2
    rw[hl.out];exact⟨_,rfl,λ_=>⟨acc,rfl,ZO.kept XD (XY _),λx hx=>WU.kept (aZ x hx) XD (λb q=>by cases q)⟩,ZX.trans XD⟩
   ·obtain⟨f,rfl⟩:∃g,f=g+1:=⟨f-1,by simp[Rc]at hf;omega⟩;have hs:Hid (XZ U 1 (i,0)=false):=by unfold Hid XZ;simp[F]
    obtain⟨⟨G,S2⟩,bg⟩:∃x,Yr U (i,0)=x:=⟨_,rfl⟩;have hm:=aeV HL.out hi (S:=(i,0)) rfl;have hl:Hid (TK U f (acc.map (·.s)++[G]) (ZM U [11] S2)=Zw):=by rw[Hid,<-YO.out,Ev rfl F,bg]
    rw[bg]at hm;have HG:Hid (Yr U (i,0)=(G,S2)):=bg;clear YO F hP bg;go_wp2_with (first|(at_builtin;refine ey _ rfl _ _ 88 rfl (w.heap.size+1) 137 i0 (.agg Qa) 16 216 underlying88 Y8 Ze Zq Zn rfl pF _ _ _ rfl (Ue.alloc _) (ah w1.heap.size) 1 1 (WU.cells ⟨G,.slice na nm nc,.slice ua um uc,.slice ta tm tc,.slice la lm lc⟩) rfl rfl (World.news_of_block (gp _ _)) (aeW ⟨G,.slice na nm nc,.slice ua um uc,.slice ta tm tc,.slice la lm lc⟩ rfl rfl rfl rfl) ?c3 ?c4 ?c5 ?_)|(go_at_call 68;refine(aeT RS hE hi).mono ?_;unfold Uo;rw[HG.out];unfold Xs;rintro e w1 ⟨vn,vu,vt,vl,rfl,hO,ZZ,XA,YS⟩;obtain⟨na,nm,nc,rfl⟩:=Vd hO.n;obtain⟨ua,um,uc,rfl⟩:=Vd hO.u;obtain⟨ta,tm,tc,rfl⟩:=Vd hO.t;obtain⟨la,lm,lc,rfl⟩:=Vd hO.l;have Ue:=(ZO.kept XD (XY _)).kept ZZ (X1 ZO J))|(go_at_call 67;refine(OO HP.out hlen hi 1).mono ?_;rw[hs.out];rintro e ws ⟨rfl,XD⟩;have RS:=HP.out.kept XD pG pG))
    case c3=>unfold maxLen;omega
    case c4=>omega
    case c5=>have:=XD.size;have:=ZZ.size;simp at *;omega
    intro v' w2 YA YN _;have U5:=(XA.alloc _).kept YN (Pp ZO J) (Pp ZO J);have bV:w.heap.size<ws.heap.size:=by have:=XD.size;omega
    have HK:Hid (∀w3 o',(w2.alloc o').grownBy w3 (some w.heap.size)->Ps w3 w.heap.size gt Z1 U (ZM U [11] S2)->B7 U gt Z1 Zw w (Rc U (ZM U [11] S2)) v' w3):=λw3 o' ZJ aY=>
     aeY (G:=⟨G,.slice na nm nc,.slice ua um uc,.slice ta tm tc,.slice la lm lc⟩) aP (Ur hE rfl YS) hm hf hl Rh hn (ZX.trans XD) bV (λx hx=>WU.kept (aZ x hx) XD (λb q=>by cases q)) (ZO.kept XD (XY _))
      ⟨World.ownsRow.mono hO.n J,World.ownsRow.mono hO.u J,World.ownsRow.mono hO.t J,World.ownsRow.mono hO.l J⟩ ZZ YA YN ZJ aY
    clear YA YN ZO Ue aZ hO XD ZZ RS XA;go_wp2_with (go_at_call 69;refine(S0 hE YS [11] 1 rfl pF rfl rfl w2 U5 w2.heap.size rfl rfl).mono ?_;rintro e w3 ⟨rfl,ZJ,aY⟩)
    go_roundg (Rc U (ZM U [11] S2))
    case measure=>exact hm
    case rel=>exact HK.out w3 _ ZJ aY
  ·have hl:Hid (Zw=(acc.map (·.s),(i,fl))):=by rw[Hid,<-YO.out];exact GH (by simp[h0])
   have hb:(fl==0)=false:=qb;have aK:(fl != 0)=true:=qb;clear YO hP;go_wp2;go_quiet (fail);go_wp2
   go_ret2
   rw[hl.out];exact⟨_,rfl,λq=>absurd q h0,ZX.trans (XN _ _ _)⟩
def B1 (v:aF):Option (DataW aF×List MemPlace):=some (.held v,[])
def GG:aF:=.agg #[Y 0,Y 0,Y 0,Y 0,af]
def NU (w:A)(b n:Nat)(f:aA->aF):Prop:=
 ∃D:DataW aF,w.ownsMap prog 9 B1 b n D/\Maps.IsMap D/\∀s:aA,D.atKey (.string s.data.toList) (.held GG)=.held (f s)
theorem aeZ (w:A):(zeroValue 227).run prog w=.ok GG w:=by
 have h:(prog.info? 227).map (λi=>i.zero)=some (some GG):=pH
 cases hq:prog.info? 227 with
 |none=>rw[hq]at h;cases h
 |some i=>
  rw[hq]at h;have h2:i.zero=some GG:=pX;simp[zeroValue,typeInfo,hq,h2,il]
theorem NU.look {w:A}{b n:Nat}{f:aA->aF}(h:NU w b n f)(s:aA)(hs:s.size<=2000):(Instr.lookup 140 (.map (some b)) (.string s) false).run prog w=.ok (f s) w:=by
 obtain⟨D,ho,_,hf⟩:=h;obtain⟨v,ps,hr,hv⟩:=ho.lookup (t:=140) (Maps.string_keyed underlying9) underlying140 (aeZ w) (zd:=.held GG) (zp:=[]) rfl (Go.WideMaps.keyOf_string_mk underlying9 pK:keyOf prog 9 (.string s)=some (.string s.data.toList));rw[hf s]at hv;have:v=f s:=by unfold B1 at hv;simp at hv;exact hv.1
 rw[this]at hr;exact hr
theorem NU.kept {w w':A}{b n:Nat}{f:aA->aF}(h:NU w b n f){row:Option Nat}(z:w.grownBy w' row)(ZP:row≠some b):NU w' b n f:=by
 obtain⟨D,ho,hm,hf⟩:=h;exact⟨D,ho.kept z (λe=>ZP e.symm),hm,hf⟩
theorem ae0 {s s':aA}(e:¬s'=s):Lit.string s'.data.toList≠Lit.string s.data.toList:=by
 intro q;have q2:s'.data.toList=s.data.toList:=Lit.string.inj q;have q3:s'.data=s.data:=ez.1 q2;exact e (gF q3)
theorem NU.put {w:A}{b n:Nat}{f:aA->aF}(h:NU w b n f)(s:aA)(hs:s.size<=2000)(hn:n<5000)(v:aF):∃w',(Instr.mapUpdate 140 (.map (some b)) (.string s) v).run prog w=.ok () w'/\NU w' b (n+1) (λs'=>if s'=s then v else f s')/\w.grownBy w' (some b):=by
 obtain⟨D,ho,hm,hf⟩:=h;obtain⟨w',hr,bK,z⟩:=ho.update (t:=140) (Maps.string_keyed underlying9) underlying140 pK (Go.WideMaps.keyOf_string_mk underlying9 pK:keyOf prog 9 (.string s)=some (.string s.data.toList)) (val:=v) (d:=.held v) (ps:=[]) rfl;refine⟨w',hr,⟨_,bK,by obtain⟨es,rfl⟩:=hm;exact⟨_,rfl⟩,λs'=> ?_⟩,z⟩
 show _=DataW.held (if s'=s then v else f s')
 by_cases e:s'=s
 ·subst e;rw[iR rfl];exact Maps.atKey_put_same hm (by simp[WideAt.IsKeyLit]) _ _
 ·rw[iQ e,Maps.atKey_put_other (ae0 e),hf s']
structure Ck (w:A)(bc bm n:Nat)(f:aA->aF)(vV vC:aF)(kd ln:Int):Prop where
 c0:w.cell? (ah bc)=some (.map (some bm))
 c1:w.cell? (O bc 1)=some vV
 c2:w.cell? (O bc 2)=some vC
 c3:w.cell? (O bc 3)=some (Y kd)
 c4:w.cell? (O bc 4)=some (Y ln)
 f1:w.frozen? (O bc 1)=false
 f2:w.frozen? (O bc 2)=false
 f3:w.frozen? (O bc 3)=false
 f4:w.frozen? (O bc 4)=false
 lt:bc<w.heap.size
 mp:NU w bm n f
 Ya:bm<w.heap.size
 ne:bm≠bc
variable {w w':A}{bc bm n:Nat}{f:aA->aF}{vV vC:aF}{kd ln:Int}
theorem Ck.kept (h:Ck w bc bm n f vV vC kd ln){row:Option Nat}(z:w.grownBy w' row)(F:row≠some bc)(h2:row≠some bm):Ck w' bc bm n f vV vC kd ln where
 c0:=z.cell h.c0 (λe=>F e.symm)
 c1:=z.cell h.c1 (λe=>F e.symm)
 c2:=z.cell h.c2 (λe=>F e.symm)
 c3:=z.cell h.c3 (λe=>F e.symm)
 c4:=z.cell h.c4 (λe=>F e.symm)
 f1:=(bL (a:=(O bc 1)) (z.block bc h.lt (λe=>F e.symm))).trans h.f1
 f2:=(bL (a:=(O bc 2)) (z.block bc h.lt (λe=>F e.symm))).trans h.f2
 f3:=(bL (a:=(O bc 3)) (z.block bc h.lt (λe=>F e.symm))).trans h.f3
 f4:=(bL (a:=(O bc 4)) (z.block bc h.lt (λe=>F e.symm))).trans h.f4
 lt:=dH h.lt z.size
 mp:=h.mp.kept z h2
 Ya:=dH h.Ya z.size
 ne:=h.ne
theorem Ck.alloc (h:Ck w bc bm n f vV vC kd ln)(o:Obj):Ck (w.alloc o) bc bm n f vV vC kd ln:=h.kept (di w o none) pG pG
theorem Ck.drew (h:Ck w bc bm n f vV vC kd ln):Ck w.drew bc bm n f vV vC kd ln:=h.kept (ZG w none) pG pG
theorem Ck.drewN (h:Ck w bc bm n f vV vC kd ln)(k:Nat):Ck (w.drewN k) bc bm n f vV vC kd ln:=h.kept (XN w k none) pG pG
theorem Ck.ae1 (h:Ck w bc bm n f vV vC kd ln)(k l:Int):Ck ((w.setCell (O bc 3) (Y k)).setCell (O bc 4) (Y l)) bc bm n f vV vC k l:=by
 have g:=(ZC w bc 3 (Y k)).trans (ZC _ bc 4 (Y l));have d3:(w.setCell (O bc 3) (Y k)).cell? (O bc 3)=some (Y k):=I7 _ _ _ _ _ h.c3;have d4:(w.setCell (O bc 3) (Y k)).cell? (O bc 4)=some (Y ln):=(TC _ _ _ _ _ _ pG).trans h.c4;exact⟨(TC _ _ _ _ _ _ pG).trans ((TC _ _ _ _ _ _ pG).trans h.c0),(TC _ _ _ _ _ _ pG).trans ((TC _ _ _ _ _ _ pG).trans h.c1),(TC _ _ _ _ _ _ pG).trans ((TC _ _ _ _ _ _ pG).trans h.c2),
  (TC _ _ _ _ _ _ pG).trans d3,I7 _ _ _ _ _ d4,(S9 _ _ _ _ _ _).trans ((S9 _ _ _ _ _ _).trans h.f1),(S9 _ _ _ _ _ _).trans ((S9 _ _ _ _ _ _).trans h.f2),(S9 _ _ _ _ _ _).trans ((S9 _ _ _ _ _ _).trans h.f3),(S9 _ _ _ _ _ _).trans ((S9 _ _ _ _ _ _).trans h.f4),
  dH h.lt g.size,h.mp.kept g uu,dH h.Ya g.size,h.ne⟩
variable {st:Zv}
abbrev Zc (w:A)(bc bm n:Nat)(f:aA->aF)(vV vC:aF)(st:Zv):Prop:=Ck w bc bm n f vV vC st.1 st.2
theorem xI (k l:Int)(st:Zv):ZE true k l st=if st.1=0 then(k,l)else st:=by
 obtain⟨a,b⟩:=st;unfold ZE Vc U4;by_cases h:a=0<;>simp[h]
theorem MQ (k l:Int)(st:Zv):ZE false k l st=st:=by
 obtain⟨a,b⟩:=st;simp[ZE,Vc,U4]
theorem IX (h:Zc w bc bm n f vV vC st)(T:ZY)(k:Int):aq 152 #[ai bc,Y k,XM T] w λe w'=>e=.returned (.tuple #[])/\w.grownBy w' (some bc)/\Zc w' bc bm n f vV vC (ZE true k T.line st):=by
 rw[xI];obtain⟨kd,ln⟩:=st;have HC:Hid (Ck w bc bm n f vV vC kd ln):=h;have c3:=h.c3;have c4:=h.c4;have f3:=h.f3;have f4:=h.f4;have ZR:=h.lt;simp only at c3 c4;unfold XM;by_cases h0:kd=0
 ·subst h0;have aV:=λW o u b' o' h=>YJ W bc o u b' o' h
  clear h;go_enter func152,ntmps152;go_wp2;go_region
  all_goals go_wp2
  all_goals go_end0
  exact⟨rfl,(((ZC _ _ _ _).trans (ZC _ _ _ _)).trans (di _ _ _)).trans (ZG _ _),((HC.out.ae1 k T.line).alloc _).drew⟩
 ·have hb:(kd==0)=false:=qb;clear h;go_enter func152,ntmps152;go_wp2;go_end0;exact⟨rfl,di _ _ _,HC.out.alloc _⟩
def oU{P:Prop}(h:P:=by
 exact⟨rfl,(di w _ _).trans ZZ,Y1⟩):P:=h
def pn{P:Prop}(h:P:=by
 exact⟨rfl,di w _ _,HC.out.alloc _⟩):P:=h
theorem NT (h:Zc w bc bm n f vV vC st)(T:ZY)(k m:Int):aq 149 #[ai bc,XM T,Y k,Y m] w λe w'=>e=.returned (.tuple #[])/\w.grownBy w' (some bc)/\Zc w' bc bm n f vV vC (ZE (decide (m<=k)) 6 T.line st):=by
 have HC:Hid (Zc w bc bm n f vV vC st):=h;have ZR:=h.lt;by_cases I:m<=k
 ·rw[gj I];have HF:=ZQ.mk (λo=>IX (HC.out.alloc o) T 6)
  unfold XM at *;clear h;go_enter func149,ntmps149;go_wp2_with (go_at_call 152;refine(HF.get _).mono ?_;rintro e w1 ⟨rfl,ZZ,Y1⟩);go_end0;exact oU
 ·rw[fQ I,MQ];have aC:k<m:=J;unfold XM at *;clear h I;go_enter func149,ntmps149;go_wp2;go_end0;exact pn
def kO{P:Prop}(h:P:=by
 go_enter func151,ntmps151;go_wp2_with (go_at_call 152;refine(HF.get _).mono ?_;rintro e w1 ⟨rfl,ZZ,Y1⟩;have d2:=ae2.out w1 _ ZZ (Y (ZW T)) pG);go_ret;exact oU):P:=h
theorem IW (h:Zc w bc bm n f vV vC st)(T:ZY)(m:Int)(bu:0<=m)(hm:m<=10000000):aq 151 #[ai bc,XM T,Y m] w λe w'=>e=.returned (Y (ZW T))/\w.grownBy w' (some bc)/\Zc w' bc bm n f vV vC (ZE (Yg (ZW T) m) 5 T.line st):=by
 have HC:Hid (Zc w bc bm n f vV vC st):=h;have ZR:=h.lt;have HF:=ZQ.mk (λo=>IX (HC.out.alloc o) T 5)
 have ae2:Hid (∀w1 (o:Obj),(w.alloc o).grownBy w1 (some bc)->∀v,(w.alloc o).cell? (O w.heap.size 2)=some v->ak w1 w.heap.size 2 v):=λw1 o z v hv=>z.cell hv pI
 by_cases F:ZW T< -m
 ·have e:Yg (ZW T) m=true:=by simp[Yg,F]
  rw[e];unfold XM at *;clear h e;exact kO
 ·by_cases h2:m<ZW T
  ·have e:Yg (ZW T) m=true:=by simp[Yg,h2]
   rw[e];have bG:-m<=ZW T:=J;unfold XM at *;clear h e F;exact kO
  ·have e:Yg (ZW T) m=false:=by simp[Yg,F,h2]
   rw[e,MQ];have bG:-m<=ZW T:=J;have aG:ZW T<=m:=J;unfold XM at *;clear h e F h2;go_enter func151,ntmps151;go_wp2;go_ret;exact pn
structure Th where
 so:Int
 pl:Int
 lo:Int
 hi:Int
 v:aF
def Zj (t:Th):aF:=.agg #[Y t.so,Y t.pl,Y t.lo,Y t.hi,t.v]
def IV:Th:=⟨0,0,0,0,af⟩
theorem B0 (a b c d e:aF)(w:A):(Instr.field 227 (.agg #[a,b,c,d,e]) 0).run prog w=.ok a w/\(Instr.field 227 (.agg #[a,b,c,d,e]) 1).run prog w=.ok b w/\(Instr.field 227 (.agg #[a,b,c,d,e]) 4).run prog w=.ok e w:=by
 refine⟨?_,?_,?_⟩<;>kernel_rfl
variable {g:aA->Th}
theorem xH (h:Zc w bc bm n (λs=>Zj (g s)) vV vC st)(T:ZY)(hs:T.s.size<=2000):aq 150 #[ai bc,XM T] w λe w'=>e=.returned (.tuple #[])/\w.grownBy w' (some bc)/\Zc w' bc bm n (λs=>Zj (g s)) vV vC (ZE ((g T.s).so != 0) 4 T.line st):=by
 have HC:Hid (Zc w bc bm n (λs=>Zj (g s)) vV vC st):=h
 have ZR:=h.lt;have c0:=h.c0;have HF:=ZQ.mk (λo k=>IX ((HC.out.alloc o).drewN k) T 4)
 have bA:∀k,(Instr.lookup 140 (.map (some bm)) (.string T.s) false).run prog ((w.alloc (.cells #[Y (Z6 T),.string T.s,Y (ZW T),Y T.line] 129)).drewN k)=.ok (.agg #[Y (g T.s).so,Y (g T.s).pl,Y (g T.s).lo,Y (g T.s).hi,(g T.s).v]) ((w.alloc (.cells #[Y (Z6 T),.string T.s,Y (ZW T),Y T.line] 129)).drewN k):=λk=>((h.alloc _).drewN k).mp.look T.s hs
 have cf:=λa b c d e W=>(B0 a b c d e W).1
 by_cases h0:(g T.s).so=0
 ·have e:((g T.s).so != 0)=false:=qb;rw[e,MQ];unfold XM at *;clear h h0;go_enter func150,ntmps150;go_wp2;go_quiet (fail);go_wp2;go_end0;exact⟨rfl,(di w _ _).trans (XN _ _ _),(HC.out.alloc _).drewN _⟩
 ·have e:((g T.s).so != 0)=true:=qb;rw[e];unfold XM at *;clear h h0;go_enter func150,ntmps150;go_wp2;go_quiet (fail);go_wp2_with (go_at_call 152;refine(HF.get _ _).mono ?_;rintro e w1 ⟨rfl,ZZ,Y1⟩);go_end0;exact⟨rfl,((di w _ _).trans (XN _ _ _)).trans ZZ,Y1⟩
def Zs (g:aA->Th)(s:aA)(sort:Int):Th:=if (g s).so=sort then g s else IV
theorem ae3 {w:A}{b:Nat}{t:TypeId}{a0 a1 a2 a3 a4:aF}(h:w.heap[b]?=some (.cells #[a0,a1,a2,a3,a4] t (0,0)))(v0 v1 v2 v3 v4:aF):(((((w.setCell (ah b) v0).setCell (O b 1) v1).setCell (O b 2) v2).setCell (O b 3) v3).setCell (O b 4) v4).heap[b]?=some (.cells #[v0,v1,v2,v3,v4] t (0,0)):=by
 have F:=YE h 0 v0 (aw:=#[v0,a1,a2,a3,a4]) rfl;have h2:=YE F 1 v1 (aw:=#[v0,v1,a2,a3,a4]) rfl;have h3:=YE h2 2 v2 (aw:=#[v0,v1,v2,a3,a4]) rfl;have h4:=YE h3 3 v3 (aw:=#[v0,v1,v2,v3,a4]) rfl;exact YE h4 4 v4 rfl
theorem ae4 (w:A)(b:Nat)(v0 v1 v2 v3 v4:aF):w.grownBy (((((w.setCell (ah b) v0).setCell (O b 1) v1).setCell (O b 2) v2).setCell (O b 3) v3).setCell (O b 4) v4) (some b):=
 ((((ZC w b 0 v0).trans (ZC _ b 1 v1)).trans (ZC _ b 2 v2)).trans (ZC _ b 3 v3)).trans (ZC _ b 4 v4)
theorem IU (w:A)(anY B C:Obj):(((w.alloc anY).alloc B).alloc C).heap[w.heap.size+1]?=some B:=by
 rw[gq _ _ pG];exact fR w anY B
theorem BZ (h:Zc w bc bm n (λs=>Zj (g s)) vV vC st)(T:ZY)(hs:T.s.size<=2000)(sort:Int)(hv:∃a m c,(g T.s).v=.slice a m c):aq 158 #[ai bc,XM T,Y sort] w λe w'=>e=.returned (Zj (Zs g T.s sort))/\w.grownBy w' (some bc)/\Zc w' bc bm n (λs=>Zj (g s)) vV vC (ZE ((g T.s).so != sort) 4 T.line st):=by
 have HC:Hid (Zc w bc bm n (λs=>Zj (g s)) vV vC st):=h
 have ZR:=h.lt;have aI:=h.Ya;have c0:=h.c0;obtain⟨va,vm,vc,hv⟩:=hv;have bA:∀W,W=(((w.alloc (.cells #[Y (Z6 T),.string T.s,Y (ZW T),Y T.line] 129)).alloc (.cells #[Y 0,Y 0,Y 0,Y 0,af] 227))).drew\/W=((((w.alloc (.cells #[Y (Z6 T),.string T.s,Y (ZW T),Y T.line] 129)).alloc (.cells #[Y 0,Y 0,Y 0,Y 0,af] 227))).alloc (.cells #[Y 0,Y 0,Y 0,Y 0,af] 227)).drew->
   (Instr.lookup 140 (.map (some bm)) (.string T.s) false).run prog W=.ok (.agg #[Y (g T.s).so,Y (g T.s).pl,Y (g T.s).lo,Y (g T.s).hi,.slice va vm vc]) W:=λW hW=>by
  have hM:NU W bm n (λs=>Zj (g s)):=by
   rcases hW with rfl|rfl
   ·exact(((h.alloc _).alloc _).drew).mp
   ·exact((((h.alloc _).alloc _).alloc _).drew).mp
  have q:=hM.look T.s hs;rw[<-hv];exact q
 have RP:=bA _ (.inl rfl);have SZ:=bA _ (.inr rfl);clear bA;have V7:∀o1 o2,((w.alloc o1).alloc o2).cell? (ah bc)=some (.map (some bm)):=λo1 o2=>((h.alloc o1).alloc o2).c0
 have aJ:∀o1 o2 o3,(((w.alloc o1).alloc o2).alloc o3).cell? (ah bc)=some (.map (some bm)):=λo1 o2 o3=>(((h.alloc o1).alloc o2).alloc o3).c0
 have cE:∀o2 o3,(((w.alloc (.cells #[Y (Z6 T),.string T.s,Y (ZW T),Y T.line] 129)).alloc o2).alloc o3).cell? (O w.heap.size 1)=some (.string T.s):=λo2 o3=>by
  rw[World.cell?_alloc_past _ _ _ pI];exact Z0 (fS w _ _) 1 _ rfl
 by_cases h0:(g T.s).so=sort
 ·have e:((g T.s).so != sort)=false:=qb;have hf:Zs g T.s sort=g T.s:=iR h0;rw[e,MQ,hf];unfold XM Zj at *;rw[hv];clear h h0 hf;go_enter func158,ntmps158;go_wp2;go_region
  all_goals go_wp2
  all_goals refine iq (fg rfl _ _ (w.heap.size+1) 227 _ _ _ rfl (IU w _ _ _) underlying227 rfl pH) rfl ?_
  all_goals exact⟨rfl,(((di w _ _).trans (di _ _ _)).trans (di _ _ _)).trans (ZG _ _),(((HC.out.alloc _).alloc _).alloc _).drew⟩
 ·have e:((g T.s).so != sort)=true:=qb;have hf:Zs g T.s sort=IV:=iQ h0;rw[e,hf];have HF:=ZQ.mk (λo1 o2 o3=>IX ((((HC.out.alloc o1).alloc o2).alloc o3).drew) T 4)
  have I:Hid (∀w1 (o1 o3:Obj),(((w.alloc o1).alloc (.cells #[Y 0,Y 0,Y 0,Y 0,af] 227)).alloc o3).drew.grownBy w1 (some bc)->w1.heap[w.heap.size+1]?=some (.cells #[Y 0,Y 0,Y 0,Y 0,af] 227 (0,0))):=λw1 o1 o3 z=>
   XX (IU w _ _ _) pG ((ZG _ (some bc)).trans z) pI
  unfold XM Zj at *;unfold IV;clear h h0 hf;go_enter func158,ntmps158;go_wp2;go_region
  all_goals go_wp2_with (go_at_call 152;refine(HF.get _ _ _).mono ?_;rintro e w1 ⟨rfl,ZZ,Y1⟩;have hB:=I.out w1 _ _ ZZ;have b0:=Z0 hB 0 _ rfl;have b1:=Z0 hB 1 _ rfl;have b2:=Z0 hB 2 _ rfl;have b3:=Z0 hB 3 _ rfl;have b4:=Z0 hB 4 _ rfl;have z0:=Zz hB 0;have z1:=Zz hB 1;have z2:=Zz hB 2;have z3:=Zz hB 3;have z4:=Zz hB 4)
  all_goals refine iq (fg rfl _ _ (w.heap.size+1) 227 _ _ _ rfl (ae3 hB _ _ _ _ _) underlying227 rfl pH) rfl ?_
  all_goals have g5:=ae4 w1 (w.heap.size+1) (Y 0) (Y 0) (Y 0) (Y 0) (af)
  all_goals exact⟨rfl,Up (((((di w _ _).trans (di _ _ _)).trans (di _ _ _)).trans (ZG _ _)).trans ZZ) J g5,Y1.kept g5 pI pI⟩
def Sk (g:aA->Th):Prop:=∀s,∃a m c,(g s).v=.slice a m c
theorem Eu (h:Zc w bc bm n (λs=>Zj (g s)) vV vC st)(T:ZY)(hs:T.s.size<=2000)(hv:Sk g):aq 159 #[ai bc,XM T] w λe w'=>e=.returned (Y (Zs g T.s 4).pl)/\w.grownBy w' (some bc)/\Zc w' bc bm n (λs=>Zj (g s)) vV vC (ZE ((g T.s).so != 4) 4 T.line st):=by
 have HC:Hid (Zc w bc bm n (λs=>Zj (g s)) vV vC st):=h
 have HF:=ZQ.mk (λo=>BZ (HC.out.alloc o) T hs 4 (hv T.s))
 have cf:=λa b c d e W=>(B0 a b c d e W).2.1
 generalize Zs g T.s 4=anW at *;unfold XM at *;clear h hv;go_enter func159,ntmps159;go_wp2_with (go_at_call 158;refine(HF.get _).mono ?_;simp only[show Zj anW=.agg #[Y anW.so,Y anW.pl,Y anW.lo,Y anW.hi,anW.v] from rfl];rintro e w1 ⟨rfl,ZZ,Y1⟩);go_ret;exact oU
def SY (t:Th):Bool:=decide (t.lo<0)||decide (1<t.hi)
def jK{P:Prop}(h:P:=by
 go_enter func155,ntmps155;go_wp2_with (first|(go_at_call 152;refine(HT.out w1 _ Y1).mono ?_;rintro e w2 ⟨rfl,ZU,XJ⟩;have hC:=V3.out w1 w2 _ RP ZU;have d1:=Z0 hC 1 _ rfl)|(go_at_call 158;refine(HF.get _).mono ?_;simp only[show Zj anW=.agg #[Y anW.so,Y anW.pl,Y anW.lo,Y anW.hi,anW.v] from rfl,NS];rintro e w1 ⟨rfl,ZZ,Y1⟩;obtain⟨YB,Za⟩:=I.out w1 _ ZZ;have RP:=Y1.lt;have a0:=Z0 Za 0 _ rfl;have a1:=Z0 Za 1 _ rfl;have a2:=Z0 Za 2 _ rfl;have a3:=Z0 Za 3 _ rfl))
 go_ret;exact⟨rfl,(((di w _ _).trans ZZ).trans (di _ _ _)).trans ZU,XJ⟩):P:=h
def nx{P:Prop}(h:P:=by
 unfold Zs;split
 ·exact hv _
 ·exact⟨_,_,_,rfl⟩):P:=h
theorem xG (h:Zc w bc bm n (λs=>Zj (g s)) vV vC st)(T:ZY)(hs:T.s.size<=2000)(hv:Sk g):aq 155 #[ai bc,XM T] w λe w'=>e=.returned (Y (Zs g T.s 4).pl)/\w.grownBy w' (some bc)/\Zc w' bc bm n (λs=>Zj (g s)) vV vC (ZE (SY (Zs g T.s 4)) 7 T.line (ZE ((g T.s).so != 4) 4 T.line st)):=by
 have HC:Hid (Zc w bc bm n (λs=>Zj (g s)) vV vC st):=h
 have ZR:=h.lt;have HF:=ZQ.mk (λo=>BZ (HC.out.alloc o) T hs 4 (hv T.s))
 have NS:∃a m c,(Zs g T.s 4).v=.slice a m c:=by
  exact nx
 obtain⟨va,vm,vc,NS⟩:=NS;generalize Zs g T.s 4=anW at *;generalize ZE ((g T.s).so != 4) 4 T.line st=S1 at *;have HT:Hid (∀(w1:A) (o:Obj),Zc w1 bc bm n (λs=>Zj (g s)) vV vC S1->aq 152 #[ai bc,Y 7,XM T] (w1.alloc o) λe w'=>e=.returned (.tuple #[])/\(w1.alloc o).grownBy w' (some bc)/\Zc w' bc bm n (λs=>Zj (g s)) vV vC (ZE true 7 T.line S1)):=λw1 o hC=>IX (hC.alloc o) T 7
 have I:Hid (∀(w1:A) (t:Obj),(w.alloc t).grownBy w1 (some bc)->w.heap.size<w1.heap.size/\w1.heap[w.heap.size]?=some t):=λw1 t z=>⟨by have:=z.size;simp at this;omega,XX (gp w t) pG z pI⟩
 have V3:Hid (∀(w1 w2:A) (t:Obj),bc<w1.heap.size->(w1.alloc t).grownBy w2 (some bc)->w2.heap[w1.heap.size]?=some t):=λw1 w2 t hb z=>XX (gp w1 t) pG z pI
 unfold XM at *;clear h hv;by_cases F:anW.lo<0
 ·have e:SY anW=true:=by simp[SY,F]
  rw[e];clear e;exact jK
 ·have bG:0<=anW.lo:=J;by_cases h2:1<anW.hi
  ·have e:SY anW=true:=by simp[SY,h2]
   rw[e];clear e F;exact jK
  ·have e:SY anW=false:=by simp[SY,F,h2]
   have aG:anW.hi<=1:=J;rw[e,MQ];clear e F h2;go_enter func155,ntmps155;go_wp2_with (go_at_call 158;refine(HF.get _).mono ?_;simp only[show Zj anW=.agg #[Y anW.so,Y anW.pl,Y anW.lo,Y anW.hi,anW.v] from rfl,NS];rintro e w1 ⟨rfl,ZZ,Y1⟩);go_ret;exact⟨rfl,((di w _ _).trans ZZ).trans (di _ _ _),Y1.alloc _⟩
def QZ (k:Int):Int:=if k=7 then 1 else if k=8 then 2 else if k=9 then 3 else if k=10 then 4 else 0
def Wc (k:Int):Int:=if k=15 then 1 else if k=16 then 2 else 0
theorem GF (k:Int)(w:A):aq 154 #[Y k] w λe w'=>e=.returned (Y (QZ k))/\w'=w:=by
 obtain⟨x,hx⟩:∃x,x=QZ k:=⟨_,rfl⟩;have I:Hid (x=QZ k):=hx;rw[<-hx];clear hx;go_enter func154,ntmps154;go_wp2
 all_goals go_ret
 all_goals refine⟨QX ?_,rfl⟩
 all_goals rw[I.out]
 all_goals clear I
 all_goals go_light
 all_goals simp_all [QZ]
theorem xF (k:Int)(w:A):aq 157 #[Y k] w λe w'=>e=.returned (Y (Wc k))/\w'=w:=by
 obtain⟨x,hx⟩:∃x,x=Wc k:=⟨_,rfl⟩;have I:Hid (x=Wc k):=hx;rw[<-hx];clear hx;go_enter func157,ntmps157;go_wp2
 all_goals go_ret
 all_goals refine⟨QX ?_,rfl⟩
 all_goals rw[I.out]
 all_goals clear I
 all_goals go_light
 all_goals simp_all [Wc]
def YI (t:ZY):Prop:=t.s.size<=2000/\-9999999999<=ZW t/\ZW t<=9999999999
theorem GD {α:Type}(cell:α->ay)(sz:Nat)(Yw:∀a,(cell a).length=sz)(l:List α):∀(i:Nat) (a:α),l[i]?=some a->∀(k:Nat) (u:aF),(cell a)[k]?=some u->(l.flatMap cell)[i*sz+k]?=some u:=by
 induction l with
 |nil=>intro i a h;simp at h
 |cons b l ih=>
  intro i a h k u I;rw[dO]
  cases i with
  |zero=>
   have e:b=a:=pX;subst e;rw[Nat.zero_mul,ik,aT]
   ·exact I
   ·exact(aU.1 I).1
  |succ i=>
   have:=ih i a pX k u I;rw[aO (by rw[Yw];rw[Nat.succ_mul];omega),Yw,show(i+1)*sz+k-sz=i*sz+k by rw[Nat.succ_mul];omega];exact this
structure YR {α:Type}(w:A)(v:aF)(gr cap:Nat)(cell:α->ay)(l:List α):Prop where
 is:v=aj gr l.length cap
 row:∀j u,(l.flatMap cell)[j]?=some u->w.cell? (O gr j)=some u
 lt:gr<w.heap.size
theorem YR.kept {α:Type}{v:aF}{gr cap:Nat}{cell:α->ay}{l:List α}(h:YR w v gr cap cell l){r:Option Nat}(z:w.grownBy w' r)(ZP:r≠some gr):YR w' v gr cap cell l:=
 ⟨h.is,λj u hu=>z.cell (h.row j u hu) (λe=>ZP e.symm),dH h.lt z.size⟩
theorem YR.at {α:Type}{v:aF}{gr cap:Nat}{cell:α->ay}{l:List α}(h:YR w v gr cap cell l){sz:Nat}(Yw:∀a,(cell a).length=sz){i:Nat}{a:α}(ha:l[i]?=some a)(k:Nat)(u:aF)(I:(cell a)[k]?=some u):w.cell? (O gr (i*sz+k))=some u:=
 h.row _ _ (GD cell sz Yw l i a ha k u I)
theorem YR.TX {α:Type}{B e sz:Nat}{v:aF}{cell:α->ay}{l:List α}(h:w.ownsRow B e sz v l.length (l.flatMap cell))(hl:0<l.length):∃gr cap,YR w v gr cap cell l/\B<=gr:=by
 rcases h.2 with⟨_,h2⟩|⟨gr,cap,cur,F,hB,h3,h4,h5,h6,h7⟩
 ·omega
 ·refine⟨gr,cap,⟨F,λj u hu=> ?_,(aM.1 h3).1⟩,hB⟩
  rw[<-h7]at hu;have hj:j<(cur.toList.take (l.length*sz)).length:=(aU.1 hu).1;rw[bh (by simp at hj;omega)]at hu;exact Z0 h3 j u ub
def NR (t:XU)(st:Zv):Zv:=if Z6 t.first=3 then ZE (Yg (ZW t.first) 100) 5 t.first.line st else st
def Vv (t:XU):Int:=if t.neg then-(if Z6 t.first=3 then ZW t.first else 1)else(if Z6 t.first=3 then ZW t.first else 1)
def kz{P:Prop}(h:P:=by
 rw[eV];clear eV h3;go_enter func184,ntmps184;go_wp2_with (go_at_call 151;refine(HF.get _).mono ?_;rintro e w1 ⟨rfl,ZZ,Y1⟩;have hB:=I.out w1 _ ZZ;have d0:=Z0 hB 0 _ rfl);go_ret;exact oU):P:=h
def l5{P:Prop}(h:P:=by
 rw[eV];clear eV h3;go_enter func184,ntmps184;go_wp2;go_ret;exact pn):P:=h
theorem ae5 (h:Zc w bc bm n f vV vC st)(t:XU)(ht:YI t.first):aq 184 #[ai bc,Ko t] w λe w'=>e=.returned (Y (Vv t))/\w.grownBy w' (some bc)/\Zc w' bc bm n f vV vC (NR t st):=by
 have HC:Hid (Zc w bc bm n f vV vC st):=h;have ZR:=h.lt;obtain⟨neg,T,N⟩:=t;have bb:=ht.2.1;have aK:=ht.2.2;simp only at bb aK;have HF:=ZQ.mk (λo=>IW (HC.out.alloc o) T 100 pF pF)
 have I:Hid (∀(w1:A) (t:Obj),(w.alloc t).grownBy w1 (some bc)->w1.heap[w.heap.size]?=some t):=λw1 t z=>XX (gp w t) pG z pI
 unfold Ko;clear h ht;by_cases h3:Z6 T=3
 ·have e3:(Z6 T==3)=true:=qN;have eS:Hid (NR ⟨neg,T,N⟩ st=ZE (Yg (ZW T) 100) 5 T.line st):=by unfold Hid NR;simp[h3]
  rw[eS.out];unfold XM at *
  cases neg with
  |true=>
   have eV:Vv ⟨true,T,N⟩=-ZW T:=uG;exact kz
  |false=>
   have eV:Vv ⟨false,T,N⟩=ZW T:=uG;exact kz
 ·have e3:(Z6 T==3)=false:=qN;have eS:Hid (NR ⟨neg,T,N⟩ st=st):=by unfold Hid NR;simp[h3]
  rw[eS.out]
  cases neg with
  |true=>
   have eV:Vv ⟨true,T,N⟩=-1:=uG;exact l5
  |false=>
   have eV:Vv ⟨false,T,N⟩=1:=uG;exact l5
def SE (k:Int):Bool:=k==18||k==22||k==17||k==11
def SD (k:Int):Bool:=k==11||k==13||k==12||k==19||k==18||k==17
theorem IQ (k:Int)(w:A):aq 72 #[Y k] w λe w'=>e=.returned (.bool (SE k))/\w'=w:=by
 obtain⟨x,hx⟩:∃x,x=SE k:=⟨_,rfl⟩;have I:Hid (x=SE k):=hx;rw[<-hx];clear hx;go_enter func72,ntmps72;go_wp2
 all_goals go_ret
 all_goals refine⟨G6 ?_,rfl⟩
 all_goals rw[I.out]
 all_goals clear I
 all_goals go_light
 all_goals simp_all [SE]
theorem Et (k:Int)(w:A):aq 73 #[Y k] w λe w'=>e=.returned (.bool (SD k))/\w'=w:=by
 obtain⟨x,hx⟩:∃x,x=SD k:=⟨_,rfl⟩;have I:Hid (x=SD k):=hx;rw[<-hx];clear hx;go_enter func73,ntmps73;go_wp2
 all_goals go_ret
 all_goals refine⟨G6 ?_,rfl⟩
 all_goals rw[I.out]
 all_goals clear I
 all_goals go_light
 all_goals simp_all [SD]
def UQ (t:ZY):List UInt8:=if Z6 t=3 then Lib.itoa (ZW t)else t.s.data.toList
theorem ae6 (w:A)(k:Nat)(os:Array Obj):w.grownBy (Go.Sort.grow (w.drewN k) os) none:=
 ⟨rfl,rfl,rfl,by simp[Go.Sort.grow],λi hi _=>by
  show(w.heap++os)[i]?=w.heap[i]?;exact Array.getElem?_append_left hi⟩
abbrev Sj (w:A):Prop:=Lib.TabIs prog w "internal/strconv.uint64pow10" .u64 Lib.pow10Tab
theorem OH {w w':A}(h:Sj w)(hb:∀k,k<w.heap.size->w'.heap[k]?=w.heap[k]?):Sj w':=by
 unfold Sj Lib.TabIs World.var? at *
 cases z:prog.globalNamed "internal/strconv.uint64pow10" with
 |none=>rw[z]at h;cases h
 |some g=>
  rw[z]at h;simp only[eX]at h⊢;have ZR:g<w.heap.size:=by
   rcases ib g w.heap.size with q|q
   ·exact q
   ·rw[bD q]at h;cases h
  rw[hb g ZR];exact h
theorem BX:∀(k u:Nat),u<10 ^ (k+1)->Lib.nDigits u<=k+1
 |0,u,h=>by rw[Lib.nDigits_small pX];exact iw _
 |k+1,u,h=>by
  by_cases q:u<10
  ·rw[Lib.nDigits_small q];omega
  ·rw[Lib.nDigits_big q];have h2:u<10*10 ^ (k+1):=by rw[ig]at h;omega
   have:=BX k (u/10) J;omega
theorem YI.lit {t:ZY}(h:YI t):(UQ t).length<=2000:=by
 unfold UQ;split
 ·have F:=h.2.1;have h2:=h.2.2;unfold Lib.itoa;split
  ·rw[eM,Lib.decDigits_length];have:=BX 10 (ZW t).natAbs ru;omega
  ·rw[Lib.decDigits_length];have:=BX 10 (ZW t).toNat ru;omega
 ·rw[cO];exact h.1
theorem ae7 (T:ZY)(hT:YI T)(w:A)(ht:Sj w):aq 76 #[XM T] w (au w (.string ⟨(UQ T).toArray⟩)):=by
 have F:=hT.2.1;have h2:=hT.2.2;by_cases h3:Z6 T=3
 ·have e3:(Z6 T==3)=true:=qN;have hs:UQ T=Lib.itoa (ZW T):=iR h3;rw[hs];have K:=ZQ.mk (λo=>Tryz.strconv_Itoa (ZW T) J J (w.alloc o) (OH ht (λk I=>gq w o I)))
  unfold XM;clear h3 hs;go_enter func76,ntmps76;go_wp2_with (go_at_call 125;refine(K.get _).mono ?_;rintro e w1 ⟨rfl,kk,os,LF⟩;subst w1);go_ret;exact⟨rfl,(di w _ none).trans (ae6 _ _ _)⟩
 ·have e3:(Z6 T==3)=false:=qN;have hs:UQ T=T.s.data.toList:=iQ h3;rw[hs];unfold XM;clear h3 hs;go_enter func76,ntmps76;go_wp2;go_ret;exact⟨rfl,di w _ none⟩
def SX (a b:ZY):Bool:=Z6 a==3&&ZW a==1&&Z6 b==21
def lq{P:Prop}(h:P:=by
 go_wp2;go_ret;exact⟨rfl,rfl⟩):P:=h
def pj{P:Prop}(h:P:=by
 rw[e1];clear h3 F;go_enter func71,ntmps71;exact lq):P:=h
theorem ae8 (T anT:ZY)(gt off len cap:Nat)(hl:2<=len)(w:A)(c0:ak w gt off (Y (Z6 T)))(c2:ak w gt (off+2) (Y (ZW T)))(d0:ak w gt (off+4) (Y (Z6 anT))):aq 71 #[.slice (some (O gt off)) len cap] w λe w'=>e=.returned (.bool (SX T anT))/\w'=w:=by
 have RP:(1:Int)<len:=J;have aX:(0:Int)<len:=J;unfold SX;by_cases h3:Z6 T=3
 ·have e3:(Z6 T==3)=true:=qN;rw[e3];by_cases F:ZW T=1
  ·have e1:(ZW T==1)=true:=pW;exact pj
  ·have e1:(ZW T==1)=false:=pW;exact pj
 ·have e3:(Z6 T==3)=false:=qN;rw[e3];clear h3;go_enter func71,ntmps71;exact lq
def X9 {α:Type}(step:Nat->α->Zv->Zv):Nat->List α->Zv->Zv
 |_,[],st=>st
 |k,t::ts,st=>X9 step (k+1) ts (step k t st)
def GC {α:Type}(l:List α)(step:Nat->α->Zv->Zv)(Zw:Zv)(v1:aF)(gr cap:Nat)(cell:α->ay)(E sz:Nat)(aS:α->ay)(w:A)(bc bm n:Nat)(f:aA->aF)(vV vC:aF)(m:Nat)(v vi:aF)(wr:A):Prop:=
 ∃(i:Nat) (S:Zv),i<=l.length/\m=l.length-i/\vi=Y i/\Hid (X9 step i (l.drop i) S=Zw)/\Zc wr bc bm n f vV vC S/\YR wr v1 gr cap cell l/\wr.ownsRow w.heap.size E sz v i ((l.take i).flatMap aS)/\w.grownBy wr (some bc)
theorem Es {α:Type}{l:List α}{step:Nat->α->Zv->Zv}{Zw:Zv}{v1:aF}{gr cap:Nat}{cell:α->ay}{E sz:Nat}{aS:α->ay}{v v':aF}{wr w2 w3:A}{o:Obj}{i:Nat}{S:Zv}{a:α}(h0:Zc w bc bm n f vV vC st)(ZX:gr<w.heap.size)(z:w.grownBy w2 (some bc))(ha:l[i]?=some a)(hl:Hid (X9 step i (l.drop i) S=Zw))(hC:Zc w2 bc bm n f vV vC (step i a S))(hR:YR w2 v1 gr cap cell l)(ZO:wr.ownsRow w.heap.size E sz v i ((l.take i).flatMap aS))(YA:w3.ownsRow w.heap.size E sz v' (i+1) ((l.take i).flatMap aS++aS a))(YN:(w2.alloc o).grownBy w3 v.ownBlock):GC l step Zw v1 gr cap cell E sz aS w bc bm n f vV vC (l.length-(i+1)) v' (Y ((i:Int)+1)) w3:=by
 have e:∀k,v.ownBlock=some k->w.heap.size<=k:=λk I=>(ZO.lt k I).1
 have hi:i<l.length:=(aU.1 ha).1;have bE:l[i]=a:=(aU.1 ha).2;have:=h0.lt;have:=h0.Ya;refine⟨i+1,step i a S,J,rfl,rfl,?_,?_,?_,?_,?_⟩
 ·have q:=hl.out;rw[aR hi,bE]at q;exact q
 ·exact(hC.alloc o).kept YN (λq=>by have:=e _ q;omega) (λq=>by have:=e _ q;omega)
 ·exact(hR.kept (di w2 o none) pG).kept YN (λq=>by have:=e _ q;omega)
 ·rw[dX,ha,cU];simpa using YA
 ·have g2:=z.trans (di w2 o (some bc));exact j0
theorem LC {w1:A}{wr:A}{t:Obj}(hb:bc<wr.heap.size)(z:(wr.alloc t).grownBy w1 (some bc)):wr.heap.size<w1.heap.size/\w1.heap[wr.heap.size]?=some t:=
 ⟨by have:=z.size;simp at this;omega,XX (gp wr t) pG z pI⟩
def TA (g:aA->Th)(k:Nat)(t:XU)(st:Zv):Zv:=ZE ((g t.name.s).so != 4) 4 t.name.line (NR t (ZE (decide ((8:Int)<=k)) 6 t.first.line st))
def BW (g:aA->Th)(t:XU):ay:=[Y (Zs g t.name.s 4).pl,Y (Vv t)]
def QT (g:aA->Th)(k:Nat)(t:ZY)(st:Zv):Zv:=ZE ((g t.s).so != 4) 4 t.line (ZE (decide ((8:Int)<=k)) 6 t.line st)
def BV (g:aA->Th)(t:ZY):ay:=[Y (Zs g t.s 4).pl]
def RO (g:aA->Th)(k:Nat)(t:Ud)(st:Zv):Zv:=ZE (SY (Zs g t.name.s 4)) 7 t.name.line (ZE ((g t.name.s).so != 4) 4 t.name.line (ZE (decide ((8:Int)<=k)) 6 t.first.line st))
def Lz (g:aA->Th)(t:Ud):ay:=[Y (Zs g t.name.s 4).pl,Y (if Z6 t.first=22 then 0 else 1)]
def QF (k:Nat)(t:ZY)(st:Zv):Zv:=ZE (Yg (ZW t) 1000) 5 t.line (ZE (decide ((20:Int)<=k)) 6 t.line st)
def BU (t:ZY):ay:=[Y (ZW t)]
theorem ae9:(prog.info? 201).map (λi=>(i.zero,i.size,i.bytes))=some (some (.agg #[Y 0,Y 0]),2,16):=pH
theorem afa:(prog.info? 203).map (λi=>(i.zero,i.size,i.bytes))=some (some (.agg #[Y 0,Y 0]),2,16):=pH
theorem xD:(prog.info? 3).map (λi=>(i.zero,i.size,i.bytes))=some (some (Y 0),1,8):=pH
theorem BS (a b:Int):∀u∈[Y a,Y b],u.oneCell'=true:=by
 intro u hu;simp at hu;rcases hu with rfl|rfl<;>rfl
theorem xC (a:Int):∀u∈[Y a],u.oneCell'=true:=by
 intro u hu;simp at hu;rcases hu with rfl;rfl
def VF (g:aA->Th)(s:aA)(t:Th):aA->Th:=λs'=>if s'=s then t else g s'
theorem Ck.put {kd ln:Int}(h:Ck w bc bm n (λs=>Zj (g s)) vV vC kd ln)(s:aA)(hs:s.size<=2000)(hn:n<5000)(t:Th):∃w',(Instr.mapUpdate 140 (.map (some bm)) (.string s) (Zj t)).run prog w=.ok () w'/\w.grownBy w' (some bm)/\Ck w' bc bm (n+1) (λs'=>Zj (VF g s t s')) vV vC kd ln:=by
 obtain⟨w',hr,hm,z⟩:=h.mp.put s hs hn (Zj t);refine⟨w',hr,z,?_⟩;have ne:some bm≠some bc:=by simpa using h.ne
 have e:(λs'=>if s'=s then Zj t else Zj (g s'))=λs'=>Zj (VF g s t s'):=by
  funext s';unfold VF;split<;>rfl
 rw[e]at hm;exact⟨z.cell h.c0 (λq=>ne q.symm),z.cell h.c1 (λq=>ne q.symm),z.cell h.c2 (λq=>ne q.symm),z.cell h.c3 (λq=>ne q.symm),z.cell h.c4 (λq=>ne q.symm),
  (bL (a:=(O bc 1)) (z.block bc h.lt (λq=>ne q.symm))).trans h.f1,(bL (a:=(O bc 2)) (z.block bc h.lt (λq=>ne q.symm))).trans h.f2,(bL (a:=(O bc 3)) (z.block bc h.lt (λq=>ne q.symm))).trans h.f3,(bL (a:=(O bc 4)) (z.block bc h.lt (λq=>ne q.symm))).trans h.f4,
  dH h.lt z.size,hm,dH h.Ya z.size,h.ne⟩
theorem Y9.of {S:List Nat}{a b:A}{r:Nat}(h:a.grownBy b (some r))(hr:r∈S):Y9 S a b:=(Y9.refl S a).grown h (λk e=>by cases e;exact .inl hr)
def oO{P:Prop}(h:P:=by
 clear YA YN ZO;go_wp2
 go_roundg (l.length-(i+1))
 case measure=>omega
 case rel=>simpa using R):P:=h
def jX{P:Prop}(h:P:=by
 exact oO):P:=h
theorem afb (h:Zc w bc bm n (λs=>Zj (g s)) vV vC st)(s:Xl)(vn vt vl v1:aF)(gr cap:Nat)(hR:YR w v1 gr cap U6 s.numbers)(bq:gr≠bc)(bJ:gr≠bm)(hl:s.numbers.length<=3000)(ar:∀a∈s.numbers,YI a)(bQ:YI s.name)(hn:n<5000)(ck:vn.oneCell'=true)(cu:vt.oneCell'=true)(cy:vl.oneCell'=true):aq 122 #[ai bc,.agg (Xs s vn v1 vt vl)] w λe w'=>e=.returned (.tuple #[])/\∃v,w'.ownsRow w.heap.size 3 1 v s.numbers.length (s.numbers.flatMap BU)/\Y9 [bc,bm] w w'/\
   Zc w' bc bm (n+1) (λs'=>Zj (VF g s.name.s ⟨5,0,0,0,v⟩ s')) vV vC (X9 QF 0 s.numbers (ZE ((g s.name.s).so != 0) 4 s.name.line st)):=by
 obtain⟨i0,Y8,Ze,Zq,Zn⟩:=iE xD;have HC:Hid (Zc w bc bm n (λs=>Zj (g s)) vV vC st):=h
 have ZR:=h.lt;have aI:=h.Ya;have UB:=hR.lt;have HR:Hid (YR w v1 gr cap U6 s.numbers):=hR;have a8:Hid (∀a∈s.numbers,YI a):=ar;have K1:=ZQ.mk (λ{W:A} (hW:Zc W bc bm n (λs=>Zj (g s)) vV vC st)=>xH hW s.name bQ.1)
 obtain⟨kw,N,names,l,ZA,rel,lits⟩:=s;simp only at *;generalize aa:ZE ((g N.s).so != 0) 4 N.line st=S1 at *;obtain⟨Zw,a6⟩:∃R,R=X9 QF 0 l S1:=⟨_,rfl⟩;have HS:Hid (X9 QF 0 (l.drop 0) S1=Zw):=sX;rw[<-a6];obtain rfl:=hR.is;have hN:=bQ.1;unfold XM at K1;unfold Xs;simp only;clear h hR a6 ar aa bQ;go_enter func122,ntmps122;go_wp2_with (go_at_call 150;refine(K1.get (HC.out.alloc _)).mono ?_;rintro e w1 ⟨rfl,ZZ,Y1⟩;obtain⟨YB,Za⟩:=LC ZR ZZ;have d9:=Z0 Za 9 _ rfl;have d5:=Z0 Za 5 _ rfl);have bo:YR w1 _ gr cap U6 l:=(HR.out.kept (di w _ none) pG).kept ZZ pI
 go_loopg [4,14] l.length (λm v vi wr=>GC l QF Zw (aj gr l.length cap) gr cap U6 3 1 BU w1 bc bm n (λs=>Zj (g s)) vV vC m v vi wr)
 case atStart=>exact⟨0,S1,iz _,rfl,rfl,HS,Y1,bo,ed _ _ _ _,WW _ _⟩
 case round=>
  obtain⟨i,S,hi,rfl,rfl,YO,hC,hR,ZO,ZX⟩:=hrel;have aW:=hC.lt;have bs:=hC.Ya;have bM:=Y1.lt;have cz:=bo.lt;by_cases YK:i<l.length
  ·obtain⟨a,ha⟩:∃a,l[i]?=some a:=⟨l[i],by simp[YK]⟩;have bl:=a8.out a (cq ha);have c0:ak wr gr (i*4) (Y (Z6 a)):=hR.at (sz:=4) (λ_=>rfl) ha 0 _ rfl
   have c1:ak wr gr (i*4+1) (.string a.s):=hR.at (sz:=4) (λ_=>rfl) ha 1 _ rfl
   have c2:ak wr gr (i*4+2) (Y (ZW a)):=hR.at (sz:=4) (λ_=>rfl) ha 2 _ rfl
   have c3:ak wr gr (i*4+3) (Y a.line):=hR.at (sz:=4) (λ_=>rfl) ha 3 _ rfl
   have J1:=ZQ.mk (λ{W:A} (hW:Zc W bc bm n (λs=>Zj (g s)) vV vC S)=>NT hW a i 20)
   have J2:=ZQ.mk (λ{W:A} (hW:Zc W bc bm n (λs=>Zj (g s)) vV vC (ZE (decide ((20:Int)<=i)) 6 a.line S))=>IW hW a 1000 pF pF)
   have X8:(i:Int)<l.length:=J;have Xy:(0:Int)<=i:=J;unfold XM at J1 J2;go_wp2_with (first|(at_builtin;refine ey _ rfl _ _ 33 rfl w1.heap.size 3 i0 (Y 0) 1 8 underlying33 Y8 Ze Zq Zn rfl pF _ _ _ rfl (bC.alloc _) (ah w3.heap.size) 1 1 (BU a) rfl rfl (World.news_of_block (gp _ _)) (xC _) ?c3 ?c4 ?c5 ?_)|(go_at_call 151;refine(J2.get cA).mono ?_;rintro e w3 ⟨rfl,ZJ,bF⟩;have bC:=WT.kept ZJ (X1 ZO bM))|(go_at_call 149;refine(J1.get (hC.alloc _)).mono ?_;rintro e w2 ⟨rfl,ZU,cA⟩;obtain⟨YM,Xf⟩:=LC aW ZU;have WT:=(ZO.alloc _).kept ZU (X1 ZO bM);have b0:=Z0 Xf 0 _ rfl;have b1:=Z0 Xf 1 _ rfl;have b2:=Z0 Xf 2 _ rfl;have b3:=Z0 Xf 3 _ rfl))
   case c3=>unfold maxLen;omega
   case c4=>omega
   case c5=>have:=ZX.size;have:=ZU.size;have:=ZJ.size;simp at *;omega
   intro v' w9 YA YN _;have R:=Es (step:=QF) Y1 cz (((ZX.trans (di _ _ _)).trans ZU).trans ZJ) ha YO bF (((hR.kept (di _ _ none) pG).kept ZU pI).kept ZJ pI) ZO YA YN;exact jX
  ·obtain rfl:i=l.length:=J;have SZ:Hid (Zw=S):=sF;rw[bH (iw _)]at ZO;obtain⟨va,vm,vc,rfl⟩:=Vd ZO;have cB:=XX Za YB ZX pI;have e5:=Z0 cB 5 _ rfl;have e0:=hC.c0;obtain⟨w9,Yi,S8,b5⟩:=hC.drew.put N.s hN hn ⟨5,0,0,0,.slice va vm vc⟩;unfold Zj at Yi;clear YO;go_wp2;go_region
   all_goals go_wp2
   all_goals go_end0
   all_goals rw[SZ.out]
   all_goals exact⟨rfl,.slice va vm vc,World.ownsRow.mono (((ZO.kept (ZG _ none) (XY _))).kept S8 (X1 ZO J)) J,(((((Y9.refl _ w).alloc _).grown ZZ (λk e=>by cases e;exact .inl pG)).grown ZX (λk e=>by cases e;exact .inl pG)).drew).grown S8 (λk e=>by cases e;exact .inl pG),b5⟩
theorem xB (s:aA)(w:A)(hs:s.size<=2000):aq 153 #[.string s] w (au w (.string s)):=by
 have K:=ZQ.mk (Tryz.stringslite_Clone s w J);go_enter func153,ntmps153;go_wp2_with (go_at_call 183;refine K.get.mono ?_;rintro e w1 ⟨rfl,hb⟩);go_ret;exact⟨rfl,hb.os,hb.tape,hb.output,hb.size,λk I _=>hb.block k I⟩
structure Xx where
 name:aA
 low:Int
 high:Int
def Rb (v:Xx):ay:=[.string v.name,Y v.low,Y v.high]
theorem afc:(prog.info? 78).map (λi=>(i.zero,i.size,i.bytes))=some (some (.agg #[.string .empty,Y 0,Y 0]),3,32):=pH
theorem xA (v:Xx):∀u∈Rb v,u.oneCell'=true:=by
 intro u hu;simp[Rb]at hu;rcases hu with rfl|rfl|rfl<;>rfl
theorem Ck.Lx {kd ln:Int}{v:aF}(h:Ck w bc bm n f vV vC kd ln):Ck (w.setCell (O bc 1) v) bc bm n f v vC kd ln:=by
 have gw:=ZC w bc 1 v;exact⟨(TC _ _ _ _ _ _ pG).trans h.c0,I7 _ _ _ _ _ h.c1,(TC _ _ _ _ _ _ pG).trans h.c2,(TC _ _ _ _ _ _ pG).trans h.c3,(TC _ _ _ _ _ _ pG).trans h.c4,
  (S9 _ _ _ _ _ _).trans h.f1,(S9 _ _ _ _ _ _).trans h.f2,(S9 _ _ _ _ _ _).trans h.f3,(S9 _ _ _ _ _ _).trans h.f4,dH h.lt gw.size,h.mp.kept gw uu,dH h.Ya gw.size,h.ne⟩
theorem Ck.afd {kd ln:Int}{v:aF}(h:Ck w bc bm n f vV vC kd ln):Ck (w.setCell (O bc 2) v) bc bm n f vV v kd ln:=by
 have gw:=ZC w bc 2 v;exact⟨(TC _ _ _ _ _ _ pG).trans h.c0,(TC _ _ _ _ _ _ pG).trans h.c1,I7 _ _ _ _ _ h.c2,(TC _ _ _ _ _ _ pG).trans h.c3,(TC _ _ _ _ _ _ pG).trans h.c4,
  (S9 _ _ _ _ _ _).trans h.f1,(S9 _ _ _ _ _ _).trans h.f2,(S9 _ _ _ _ _ _).trans h.f3,(S9 _ _ _ _ _ _).trans h.f4,dH h.lt gw.size,h.mp.kept gw uu,dH h.Ya gw.size,h.ne⟩
def OG (g:aA->Th)(N:Nat)(nm lo hi:ZY)(st:Zv):Zv:=
 ZE (decide (ZW hi<ZW lo)) 5 hi.line (ZE (Yg (ZW hi) 1000) 5 hi.line (ZE (Yg (ZW lo) 1000) 5 lo.line (ZE ((g nm.s).so != 0) 4 nm.line (ZE (decide ((8:Int)<=N)) 6 nm.line st))))
def mr{P:Prop}(h:P:=by
 exact((q2.alloc _).grown YN (λk e=>by exact .inl (by simp[e]))).set (.inl pG) _ _):P:=h
theorem afe (B:Nat)(vars:List Xx)(va:ax)(vc:Nat)(h:Zc w bc bm n (λs=>Zj (g s)) (.slice va vars.length vc) vC st)(kw nm lo hi rel:ZY)(names:List ZY)(ZA:List XU)(lits:List Ud)(vn vt vl v1:aF)(gr cap:Nat)(hR:YR w v1 gr cap U6 [lo,hi])(bq:gr≠bc)(bJ:gr≠bm)(bW:gr<B)(Wu:bc<B)(RN:bm<B)(Vn:B<=w.heap.size)(aQ:w.ownsRow B 78 3 (.slice va vars.length vc) vars.length (vars.flatMap Rb))(hN:vars.length<=3000)(bn:YI nm)(VS:YI lo)(bN:YI hi)(hn:n<5000)(ck:vn.oneCell'=true)(cu:vt.oneCell'=true)(cy:vl.oneCell'=true):aq 121 #[ai bc,.agg (Xs ⟨kw,nm,names,[lo,hi],ZA,rel,lits⟩ vn v1 vt vl)] w λe w'=>e=.returned (.tuple #[])/\∃v,w'.ownsRow B 78 3 v (vars.length+1) (vars.flatMap Rb++Rb ⟨nm.s,ZW lo,ZW hi⟩)/\Y9 ([bc,bm]++(Value.slice va vars.length vc).ownBlock.toList) w w'/\
   Zc w' bc bm (n+1) (λs'=>Zj (VF g nm.s ⟨4,vars.length,ZW lo,ZW hi,af⟩ s')) v vC (OG g vars.length nm lo hi st):=by
 obtain⟨i0,Y8,Ze,Zq,Zn⟩:=iE afc;have HC:Hid (Zc w bc bm n (λs=>Zj (g s)) (.slice va vars.length vc) vC st):=h
 have ZR:=h.lt;have aI:=h.Ya;have UB:=hR.lt;have T8:=h.c1;have WG:=VS.2.1;have WH:=VS.2.2;have UJ:=bN.2.1;have UI:=bN.2.2;have R0:YR w v1 gr cap U6 [lo,hi]:=hR;have o0:=aQ;have bI:=bn.1;have K1:=ZQ.mk (λ{W:A} (hW:Zc W bc bm n (λs=>Zj (g s)) (.slice va vars.length vc) vC st)=>NT hW nm vars.length 8)
 generalize aa:ZE (decide ((8:Int)<=vars.length)) 6 nm.line st=S1 at *;have K2:=ZQ.mk (λ{W:A} (hW:Zc W bc bm n (λs=>Zj (g s)) (.slice va vars.length vc) vC S1)=>xH hW nm bn.1)
 generalize YH:ZE ((g nm.s).so != 0) 4 nm.line S1=S2 at *;have K3:=ZQ.mk (λ{W:A} (hW:Zc W bc bm n (λs=>Zj (g s)) (.slice va vars.length vc) vC S2)=>IW hW lo 1000 pF pF)
 generalize bf:ZE (Yg (ZW lo) 1000) 5 lo.line S2=S3 at *;have K4:=ZQ.mk (λ{W:A} (hW:Zc W bc bm n (λs=>Zj (g s)) (.slice va vars.length vc) vC S3)=>IW hW hi 1000 pF pF)
 generalize bt:ZE (Yg (ZW hi) 1000) 5 hi.line S3=S4 at *;have K5:=ZQ.mk (λ{W:A} (hW:Zc W bc bm n (λs=>Zj (g s)) (.slice va vars.length vc) vC S4)=>IX hW hi 5)
 have Yn:Hid (OG g vars.length nm lo hi st=ZE (decide (ZW hi<ZW lo)) 5 hi.line S4):=by rw[Hid];unfold OG;rw[aa,YH,bf,bt]
 rw[Yn.out];obtain rfl:=hR.is;unfold XM at K1 K2 K3 K4 K5;unfold Xs;simp only;clear h hR aa YH bf bt;have cF:((2:Nat):Int)=2:=rfl;by_cases bT:ZW hi<ZW lo
 ·rw[gj bT];go_enter func121,ntmps121;go_wp2_with (first|(go_at_call 152;refine(K5.get a7).mono ?_;rintro e w8 ⟨rfl,bk,bB⟩;have bS:=XX Ra br bk pI;have cC:w.heap.size<w8.heap.size:=(by have:=bk.size;omega);have o8:=o4.kept bk (X1 aQ Wu);have cG:=Z0 bS 5 _ rfl;have m8:=bB.c0)|(go_at_call 151;refine(K4.get aL).mono ?_;rintro e w4 ⟨rfl,Xr,a7⟩;have Ra:=XX SI Yh Xr pI;have br:w.heap.size<w4.heap.size:=(by have:=Xr.size;omega);have R4:=R3.kept Xr pI;have o4:=o3.kept Xr (X1 aQ Wu);have cH:=Z0 Ra 9 _ rfl;have cI:=R4.row 4 _ rfl;have cJ:=R4.row 5 _ rfl;have cK:=R4.row 6 _ rfl;have cL:=R4.row 7 _ rfl)|(go_at_call 151;refine(K3.get XJ).mono ?_;rintro e w3 ⟨rfl,ZJ,aL⟩;have SI:=XX Xf YM ZJ pI;have Yh:w.heap.size<w3.heap.size:=uo;have R3:=R2.kept ZJ pI;have o3:=o2.kept ZJ (X1 aQ Wu);have cg:=Z0 SI 9 _ rfl;have cj:=R3.row 4 _ rfl;have cm:=R3.row 5 _ rfl;have cn:=R3.row 6 _ rfl;have cp:=R3.row 7 _ rfl)|(go_at_call 150;refine(K2.get Y1).mono ?_;rintro e w2 ⟨rfl,ZU,XJ⟩;have Xf:=XX Za YB ZU pI;have YM:w.heap.size<w2.heap.size:=rh;have R2:=R1.kept ZU pI;have o2:=o1.kept ZU (X1 aQ Wu);have cr:=Z0 Xf 9 _ rfl;have bO:=R2.row 0 _ rfl;have bP:=R2.row 1 _ rfl;have bR:=R2.row 2 _ rfl;have bU:=R2.row 3 _ rfl)|(go_at_call 149;refine(K1.get (HC.out.alloc _)).mono ?_;rintro e w1 ⟨rfl,ZZ,Y1⟩;obtain⟨YB,Za⟩:=LC ZR ZZ;have R1:=(R0.kept (di w _ none) pG).kept ZZ pI;have o1:=(o0.alloc _).kept ZZ (X1 aQ Wu);have bX:=Z0 Za 4 _ rfl;have bY:=Z0 Za 5 _ rfl;have bZ:=Z0 Za 6 _ rfl;have b6:=Z0 Za 7 _ rfl))
  obtain⟨w5,Yi,Yo,ba⟩:=bB.drew.put nm.s bI hn ⟨4,vars.length,ZW lo,ZW hi,af⟩;unfold Zj at Yi;have Su:=XX (w:=w8.drew) bS cC Yo pI;have Si:w.heap.size<w5.heap.size:=qU;have o5:=(o8.kept (ZG _ none) (XY _)).kept Yo (X1 aQ RN);have cD:=Z0 Su 5 _ rfl;go_region;go_wp2_with (first|(at_builtin;refine ey _ rfl _ _ 73 rfl B 78 i0 (.agg #[.string .empty,Y 0,Y 0]) 3 32 underlying73 Y8 Ze Zq Zn rfl pF _ _ _ rfl (o6.alloc _) (ah w6.heap.size) 1 1 (Rb ⟨nm.s,ZW lo,ZW hi⟩) rfl rfl (World.news_of_block (gp _ _)) (xA _) ?c3 ?c4 ?c5 ?_)|(go_at_call 153;refine(xB nm.s w5 bI).mono ?_;rintro e w6 ⟨rfl,aH⟩;have bj:=ba.kept aH pG pG;have o6:=o5.kept aH (XY _);have m6:=bj.c1))
  case c3=>unfold maxLen;omega
  case c4=>omega
  case c5=>have:=Yo.size;have:=aH.size;simp at *;omega
  intro v' w7 YA YN _;have aN:=(bj.alloc _).kept YN (Pp aQ Wu) (Pp aQ RN);have m7:=aN.c1;have f7:=aN.f1;obtain⟨xa,xm,xc,rfl⟩:=Vd YA;have HK:Hid (∀W,W=w7.setCell (O bc 1) (.slice xa xm xc)->(∃v,W.ownsRow B 78 3 v (vars.length+1) (vars.flatMap Rb++Rb ⟨nm.s,ZW lo,ZW hi⟩)/\Y9 ([bc,bm]++(Value.slice va vars.length vc).ownBlock.toList) w W/\Zc W bc bm (n+1) (λs'=>Zj (VF g nm.s ⟨4,vars.length,ZW lo,ZW hi,af⟩ s')) v vC (ZE true 5 hi.line S4))):=λW e=>by
   subst e;refine⟨_,YA.kept (ZC _ _ _ _) (X1 YA Wu),?_,aN.Lx⟩;have q1:=((((Y9.refl ([bc,bm]++(Value.slice va vars.length vc).ownBlock.toList) w).alloc _).grown ZZ (λk e=>by cases e;exact .inl pG)).grown ZU (λk e=>by cases e;exact .inl pG)).grown ZJ (λk e=>by cases e;exact .inl pG)
   have q2:=(((q1.grown Xr (λk e=>by cases e;exact .inl pG)).grown bk (λk e=>by cases e;exact .inl pG)).drew.grown Yo (λk e=>by cases e;exact .inl pG)).grown aH (λk e=>pL)
   exact mr
  clear YA YN;go_wp2;go_end0;exact⟨rfl,HK.out _ rfl⟩
 ·rw[fQ bT,MQ];have cM:ZW lo<=ZW hi:=J;go_enter func121,ntmps121;go_wp2_with (first|(go_at_call 151;refine(K4.get aL).mono ?_;rintro e w4 ⟨rfl,Xr,a7⟩;have Ra:=XX SI Yh Xr pI;have br:w.heap.size<w4.heap.size:=(by have:=Xr.size;omega);have R4:=R3.kept Xr pI;have o4:=o3.kept Xr (X1 aQ Wu);have cN:=Z0 Ra 5 _ rfl;have m4:=a7.c0)|(go_at_call 151;refine(K3.get XJ).mono ?_;rintro e w3 ⟨rfl,ZJ,aL⟩;have SI:=XX Xf YM ZJ pI;have Yh:w.heap.size<w3.heap.size:=uo;have R3:=R2.kept ZJ pI;have o3:=o2.kept ZJ (X1 aQ Wu);have cg:=Z0 SI 9 _ rfl;have cj:=R3.row 4 _ rfl;have cm:=R3.row 5 _ rfl;have cn:=R3.row 6 _ rfl;have cp:=R3.row 7 _ rfl)|(go_at_call 150;refine(K2.get Y1).mono ?_;rintro e w2 ⟨rfl,ZU,XJ⟩;have Xf:=XX Za YB ZU pI;have YM:w.heap.size<w2.heap.size:=rh;have R2:=R1.kept ZU pI;have o2:=o1.kept ZU (X1 aQ Wu);have cr:=Z0 Xf 9 _ rfl;have bO:=R2.row 0 _ rfl;have bP:=R2.row 1 _ rfl;have bR:=R2.row 2 _ rfl;have bU:=R2.row 3 _ rfl)|(go_at_call 149;refine(K1.get (HC.out.alloc _)).mono ?_;rintro e w1 ⟨rfl,ZZ,Y1⟩;obtain⟨YB,Za⟩:=LC ZR ZZ;have R1:=(R0.kept (di w _ none) pG).kept ZZ pI;have o1:=(o0.alloc _).kept ZZ (X1 aQ Wu);have bX:=Z0 Za 4 _ rfl;have bY:=Z0 Za 5 _ rfl;have bZ:=Z0 Za 6 _ rfl;have b6:=Z0 Za 7 _ rfl))
  obtain⟨w5,Yi,Yo,ba⟩:=a7.drew.put nm.s bI hn ⟨4,vars.length,ZW lo,ZW hi,af⟩;unfold Zj at Yi;have Su:=XX (w:=w4.drew) Ra br Yo pI;have Si:w.heap.size<w5.heap.size:=qU;have o5:=(o4.kept (ZG _ none) (XY _)).kept Yo (X1 aQ RN);have cD:=Z0 Su 5 _ rfl;go_region;go_wp2_with (first|(at_builtin;refine ey _ rfl _ _ 73 rfl B 78 i0 (.agg #[.string .empty,Y 0,Y 0]) 3 32 underlying73 Y8 Ze Zq Zn rfl pF _ _ _ rfl (o6.alloc _) (ah w6.heap.size) 1 1 (Rb ⟨nm.s,ZW lo,ZW hi⟩) rfl rfl (World.news_of_block (gp _ _)) (xA _) ?c3 ?c4 ?c5 ?_)|(go_at_call 153;refine(xB nm.s w5 bI).mono ?_;rintro e w6 ⟨rfl,aH⟩;have bj:=ba.kept aH pG pG;have o6:=o5.kept aH (XY _);have m6:=bj.c1))
  case c3=>unfold maxLen;omega
  case c4=>omega
  case c5=>have:=Yo.size;have:=aH.size;simp at *;omega
  intro v' w7 YA YN _;have aN:=(bj.alloc _).kept YN (Pp aQ Wu) (Pp aQ RN);have m7:=aN.c1;have f7:=aN.f1;obtain⟨xa,xm,xc,rfl⟩:=Vd YA;have HK:Hid (∀W,W=w7.setCell (O bc 1) (.slice xa xm xc)->(∃v,W.ownsRow B 78 3 v (vars.length+1) (vars.flatMap Rb++Rb ⟨nm.s,ZW lo,ZW hi⟩)/\Y9 ([bc,bm]++(Value.slice va vars.length vc).ownBlock.toList) w W/\Zc W bc bm (n+1) (λs'=>Zj (VF g nm.s ⟨4,vars.length,ZW lo,ZW hi,af⟩ s')) v vC S4)):=λW e=>by
   subst e;refine⟨_,YA.kept (ZC _ _ _ _) (X1 YA Wu),?_,aN.Lx⟩;have q1:=((((Y9.refl ([bc,bm]++(Value.slice va vars.length vc).ownBlock.toList) w).alloc _).grown ZZ (λk e=>by cases e;exact .inl pG)).grown ZU (λk e=>by cases e;exact .inl pG)).grown ZJ (λk e=>by cases e;exact .inl pG)
   have q2:=(((q1.grown Xr (λk e=>by cases e;exact .inl pG))).drew.grown Yo (λk e=>by cases e;exact .inl pG)).grown aH (λk e=>pL)
   exact mr
  clear YA YN;go_wp2;go_end0;exact⟨rfl,HK.out _ rfl⟩
def jQ{P:Prop}(h:P:=by
 obtain rfl:i=l.length:=J;have SZ:Hid (Zw=S):=sF;have Ww:(l.length:Int)<=(l.length:Int):=J;rw[bH (iw _)]at ZO;clear YO;go_wp2;go_ret;rw[SZ.out];exact⟨_,rfl,ZO,ZX,hC⟩):P:=h
theorem xz (h:Zc w bc bm n (λs=>Zj (g s)) vV vC st)(l:List XU)(v1:aF)(gr cap:Nat)(hR:YR w v1 gr cap QV l)(bq:gr≠bc)(hl:l.length<=3000)(ar:∀a∈l,YI a.first/\YI a.name)(hv:Sk g):aq 156 #[ai bc,v1] w λe w'=>∃v,e=.returned v/\w'.ownsRow w.heap.size 201 2 v l.length (l.flatMap (BW g))/\w.grownBy w' (some bc)/\Zc w' bc bm n (λs=>Zj (g s)) vV vC (X9 (TA g) 0 l st):=by
 obtain⟨i0,Y8,Ze,Zq,Zn⟩:=iE ae9;have HC:Hid (Zc w bc bm n (λs=>Zj (g s)) vV vC st):=h
 have ZR:=h.lt;have UB:=hR.lt;have HR:Hid (YR w v1 gr cap QV l):=hR;have a8:Hid (∀a∈l,YI a.first/\YI a.name):=ar
 have HV:Hid (Sk g):=hv;obtain⟨Zw,a6⟩:∃R,R=X9 (TA g) 0 l st:=⟨_,rfl⟩;have HS:Hid (X9 (TA g) 0 (l.drop 0) st=Zw):=sX;rw[<-a6];obtain rfl:=hR.is;clear h hR a6 ar hv;go_enter func156,ntmps156;go_wp2
 go_loopg [5,11] l.length (λm v vi wr=>GC l (TA g) Zw (aj gr l.length cap) gr cap QV 201 2 (BW g) w bc bm n (λs=>Zj (g s)) vV vC m v vi wr)
 case atStart=>exact⟨0,st,iz _,rfl,rfl,HS,HC.out,HR.out,ed _ _ _ _,WW _ _⟩
 case round=>
  obtain⟨i,S,hi,rfl,rfl,YO,hC,hR,ZO,ZX⟩:=hrel;have aW:=hC.lt;have bs:=hC.Ya;by_cases YK:i<l.length
  ·obtain⟨a,ha⟩:∃a,l[i]?=some a:=⟨l[i],by simp[YK]⟩;have bl:=a8.out a (cq ha);have c0:ak wr gr (i*9) (.bool a.neg):=hR.at (sz:=9) (λ_=>rfl) ha 0 _ rfl
   have c1:ak wr gr (i*9+1) (Y (Z6 a.first)):=hR.at (sz:=9) (λ_=>rfl) ha 1 _ rfl
   have c2:ak wr gr (i*9+2) (.string a.first.s):=hR.at (sz:=9) (λ_=>rfl) ha 2 _ rfl
   have c3:ak wr gr (i*9+3) (Y (ZW a.first)):=hR.at (sz:=9) (λ_=>rfl) ha 3 _ rfl
   have c4:ak wr gr (i*9+4) (Y a.first.line):=hR.at (sz:=9) (λ_=>rfl) ha 4 _ rfl
   have c5:ak wr gr (i*9+5) (Y (Z6 a.name)):=hR.at (sz:=9) (λ_=>rfl) ha 5 _ rfl
   have c6:ak wr gr (i*9+6) (.string a.name.s):=hR.at (sz:=9) (λ_=>rfl) ha 6 _ rfl
   have c7:ak wr gr (i*9+7) (Y (ZW a.name)):=hR.at (sz:=9) (λ_=>rfl) ha 7 _ rfl
   have c8:ak wr gr (i*9+8) (Y a.name.line):=hR.at (sz:=9) (λ_=>rfl) ha 8 _ rfl
   have K1:=ZQ.mk (λ{W:A} (hW:Zc W bc bm n (λs=>Zj (g s)) vV vC S)=>NT hW a.first i 8)
   have K2:=ZQ.mk (λ{W:A} (hW:Zc W bc bm n (λs=>Zj (g s)) vV vC (ZE (decide ((8:Int)<=i)) 6 a.first.line S))=>ae5 hW a bl.1)
   have K3:=ZQ.mk (λ{W:A} (hW:Zc W bc bm n (λs=>Zj (g s)) vV vC (NR a (ZE (decide ((8:Int)<=i)) 6 a.first.line S)))=>Eu hW a.name bl.2.1 HV.out)
   have X8:(i:Int)<l.length:=J;have Xy:(0:Int)<=i:=J;unfold XM at K1 K3;unfold Ko at K2;go_wp2_with (first|(at_builtin;refine ey _ rfl _ _ 95 rfl w.heap.size 201 i0 (.agg #[Y 0,Y 0]) 2 16 underlying95 Y8 Ze Zq Zn rfl pF _ _ _ rfl (TJ.alloc _) (ah w3.heap.size) 1 1 (BW g a) rfl rfl (World.news_of_block (gp _ _)) (BS _ _) ?c3 ?c4 ?c5 ?_)|(go_at_call 159;refine((K3).get XJ).mono ?_;rintro e w3 ⟨rfl,ZJ,aL⟩;have SI:=XX Xf YM ZJ pI;have Yh:wr.heap.size<w3.heap.size:=uo;have TJ:=bC.kept ZJ (X1 ZO ZR))|(go_at_call 184;refine((K2).get Y1).mono ?_;rintro e w2 ⟨rfl,ZU,XJ⟩;have Xf:=XX Za YB ZU pI;have YM:wr.heap.size<w2.heap.size:=rh;have bC:=WT.kept ZU (X1 ZO ZR);have cP:=Z0 Xf 5 _ rfl;have cQ:=Z0 Xf 6 _ rfl;have cR:=Z0 Xf 7 _ rfl;have cS:=Z0 Xf 8 _ rfl)|(go_at_call 149;refine((K1).get (hC.alloc _)).mono ?_;rintro e w1 ⟨rfl,ZZ,Y1⟩;obtain⟨YB,Za⟩:=LC aW ZZ;have WT:=(ZO.alloc _).kept ZZ (X1 ZO ZR);have b7:=Z0 Za 0 _ rfl;have b8:=Z0 Za 1 _ rfl;have b9:=Z0 Za 2 _ rfl;have cd:=Z0 Za 3 _ rfl;have ct:=Z0 Za 4 _ rfl;have cv:=Z0 Za 5 _ rfl;have cw:=Z0 Za 6 _ rfl;have cx:=Z0 Za 7 _ rfl;have cT:=Z0 Za 8 _ rfl))
   case c3=>unfold maxLen;omega
   case c4=>omega
   case c5=>have:=ZX.size;simp at *;omega
   intro v' w9 YA YN _;have R:=Es (step:=TA g) HC.out UB ((((ZX.trans (di _ _ _)).trans ZZ).trans ZU).trans ZJ) ha YO aL ((((hR.kept (di _ _ none) pG).kept ZZ pI).kept ZU pI).kept ZJ pI) ZO YA YN;exact jX
  ·exact jQ
theorem aff (h:Zc w bc bm n (λs=>Zj (g s)) vV vC st)(l:List ZY)(v1:aF)(gr cap:Nat)(hR:YR w v1 gr cap U6 l)(bq:gr≠bc)(hl:l.length<=3000)(ar:∀a∈l,YI a)(hv:Sk g):aq 160 #[ai bc,v1] w λe w'=>∃v,e=.returned v/\w'.ownsRow w.heap.size 3 1 v l.length (l.flatMap (BV g))/\w.grownBy w' (some bc)/\Zc w' bc bm n (λs=>Zj (g s)) vV vC (X9 (QT g) 0 l st):=by
 obtain⟨i0,Y8,Ze,Zq,Zn⟩:=iE xD;have HC:Hid (Zc w bc bm n (λs=>Zj (g s)) vV vC st):=h
 have ZR:=h.lt;have UB:=hR.lt;have HR:Hid (YR w v1 gr cap U6 l):=hR;have a8:Hid (∀a∈l,YI a):=ar;have HV:Hid (Sk g):=hv;obtain⟨Zw,a6⟩:∃R,R=X9 (QT g) 0 l st:=⟨_,rfl⟩;have HS:Hid (X9 (QT g) 0 (l.drop 0) st=Zw):=sX;rw[<-a6];obtain rfl:=hR.is;clear h hR a6 ar hv;go_enter func160,ntmps160;go_wp2
 go_loopg [5,10] l.length (λm v vi wr=>GC l (QT g) Zw (aj gr l.length cap) gr cap U6 3 1 (BV g) w bc bm n (λs=>Zj (g s)) vV vC m v vi wr)
 case atStart=>exact⟨0,st,iz _,rfl,rfl,HS,HC.out,HR.out,ed _ _ _ _,WW _ _⟩
 case round=>
  obtain⟨i,S,hi,rfl,rfl,YO,hC,hR,ZO,ZX⟩:=hrel;have aW:=hC.lt;have bs:=hC.Ya;by_cases YK:i<l.length
  ·obtain⟨a,ha⟩:∃a,l[i]?=some a:=⟨l[i],by simp[YK]⟩;have bl:=a8.out a (cq ha);have c0:ak wr gr (i*4) (Y (Z6 a)):=hR.at (sz:=4) (λ_=>rfl) ha 0 _ rfl
   have c1:ak wr gr (i*4+1) (.string a.s):=hR.at (sz:=4) (λ_=>rfl) ha 1 _ rfl
   have c2:ak wr gr (i*4+2) (Y (ZW a)):=hR.at (sz:=4) (λ_=>rfl) ha 2 _ rfl
   have c3:ak wr gr (i*4+3) (Y a.line):=hR.at (sz:=4) (λ_=>rfl) ha 3 _ rfl
   have K1:=ZQ.mk (λ{W:A} (hW:Zc W bc bm n (λs=>Zj (g s)) vV vC S)=>NT hW a i 8)
   have K2:=ZQ.mk (λ{W:A} (hW:Zc W bc bm n (λs=>Zj (g s)) vV vC (ZE (decide ((8:Int)<=i)) 6 a.line S))=>Eu hW a bl.1 HV.out)
   have X8:(i:Int)<l.length:=J;have Xy:(0:Int)<=i:=J;unfold XM at K1 K2;go_wp2_with (first|(at_builtin;refine ey _ rfl _ _ 33 rfl w.heap.size 3 i0 (Y 0) 1 8 underlying33 Y8 Ze Zq Zn rfl pF _ _ _ rfl (bC.alloc _) (ah w2.heap.size) 1 1 (BV g a) rfl rfl (World.news_of_block (gp _ _)) (xC _) ?c3 ?c4 ?c5 ?_)|(go_at_call 159;refine((K2).get Y1).mono ?_;rintro e w2 ⟨rfl,ZU,XJ⟩;have Xf:=XX Za YB ZU pI;have YM:wr.heap.size<w2.heap.size:=rh;have bC:=WT.kept ZU (X1 ZO ZR))|(go_at_call 149;refine((K1).get (hC.alloc _)).mono ?_;rintro e w1 ⟨rfl,ZZ,Y1⟩;obtain⟨YB,Za⟩:=LC aW ZZ;have WT:=(ZO.alloc _).kept ZZ (X1 ZO ZR);have b7:=Z0 Za 0 _ rfl;have b8:=Z0 Za 1 _ rfl;have b9:=Z0 Za 2 _ rfl;have cd:=Z0 Za 3 _ rfl))
   case c3=>unfold maxLen;omega
   case c4=>omega
   case c5=>have:=ZX.size;simp at *;omega
   intro v' w9 YA YN _;have R:=Es (step:=QT g) HC.out UB (((ZX.trans (di _ _ _)).trans ZZ).trans ZU) ha YO XJ (((hR.kept (di _ _ none) pG).kept ZZ pI).kept ZU pI) ZO YA YN;exact jX
  ·exact jQ
end Go.Proofs.YthpcbbnabnlanaaGreatDoor
