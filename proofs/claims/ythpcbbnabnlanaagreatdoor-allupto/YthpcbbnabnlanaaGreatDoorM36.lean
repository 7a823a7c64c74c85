import Derived.Test.YthpcbbnabnlanaaGreatDoorM35
namespace Go.Proofs.YthpcbbnabnlanaaGreatDoor
set_option maxHeartbeats 8000000
set_option maxRecDepth 100000
open Go.Proofs.Tryz
open Go.RowKit
set_option linter.all false
section
attribute [local go_sem ↓] Pz Py
variable {w0 w w' aW:A}{X:SL}{K:SK}{s:SS}{vT vS:aF}
theorem zH {P:Program}{ops:Array Oper}{Q:Exit->Act->A->Prop}{md:Region.Mode}{S:A->Prop}{i:Nat}{oi:Oper}{v:aF}{fuel:Nat}{listed:Array Bool}{a:Act}{w:A}(d:Option Tmp)(hi:ops[i]?=some oi)(hd:oi.dst=d)(hs:Region.noSelect ops=true)(hf:Region.free md ops listed i=true)(hr:(Region.ready md ops listed).contains i=true)(hQ:∀c a w,Q (.panic c) (a.put d v) w->Q (.panic c) a w)(hy:YieldsIf P ops S oi v a)(hS:S w)(h:wpAnyH P md ops Q S fuel (listed.setIfInBounds i true) (a.put d v) w):wpAnyH P md ops Q S (fuel+1) listed a w:=by
 subst hd;exact wpAnyH_take hi hs hf hr hQ hy hS h
theorem Nd {P:Program}{ops:Array Oper}{Q:Exit->Act->A->Prop}{md:Region.Mode}{S:A->Prop}{i:Nat}{oi:Oper}{v:aF}{fuel:Nat}{listed:Array Bool}{a:Act}{w:A}(d:Nat)(hi:ops[i]?=some oi)(hd:oi.dst=some d)(hc:(Region.noSelect ops&&Region.free md ops listed i&&(Region.ready md ops listed).contains i)=true)(hQ:∀c a w,Q (.panic c) (a.put (some d) v) w->Q (.panic c) a w)(hy:YieldsIf P ops S oi v a)(hS:S w)(h:wpAnyH P md ops Q S fuel (listed.setIfInBounds i true) (a.put (some d) v) w):wpAnyH P md ops Q S (fuel+1) listed a w:=by
 simp only[eC]at hc;exact zH (some d) hi hd hc.1.1 hc.1.2 hc.2 hQ hy hS h
theorem ZL {P:Program}{ops:Array Oper}{Q:Exit->Act->A->Prop}{md:Region.Mode}{S:A->Prop}{oi:Oper}{v:aF}{fuel:Nat}{listed:Array Bool}{a:Act}{w:A}(i d:Nat)(hS:S w)(hy:∀w,S w->(execOp a.eval oi).run P w=.ok (.value v) w)(h:wpAnyH P md ops Q S fuel (listed.setIfInBounds i true) (a.put (some d) v) w)(hi:ops[i]?=some oi:=by rfl)(hd:oi.dst=some d:=by rfl)(z:Region.wanted oi (yielded ops a.tmps)=true:=by rfl)(hc:(Region.noSelect ops&&Region.free md ops listed i&&(Region.ready md ops listed).contains i)=true:=by kernel_rfl)(hQ:∀c a w,Q (.panic c) (a.put (some d) v) w->Q (.panic c) a w:=by exact λ_ _ _ h=>h):wpAnyH P md ops Q S (fuel+1) listed a w:=by
 simp only[eC]at hc;exact zH (some d) hi hd hc.1.1 hc.1.2 hc.2 hQ (Or.inl ⟨z,hy⟩) hS h
theorem UX {P:Program}{ops:Array Oper}{Q:Exit->Act->A->Prop}{md:Region.Mode}{S:A->Prop}{oi:Oper}{fuel:Nat}{listed:Array Bool}{a:Act}{w:A}(i d:Nat)(hS:S w)(h:wpAnyH P md ops Q S fuel (listed.setIfInBounds i true) (a.put (some d) undef) w)(hi:ops[i]?=some oi:=by rfl)(hd:oi.dst=some d:=by rfl)(z:Region.wanted oi (yielded ops a.tmps)=false:=by kernel_rfl)(hc:(Region.noSelect ops&&Region.free md ops listed i&&(Region.ready md ops listed).contains i)=true:=by kernel_rfl)(hQ:∀c a w,Q (.panic c) (a.put (some d) undef) w->Q (.panic c) a w:=by exact λ_ _ _ h=>h):wpAnyH P md ops Q S (fuel+1) listed a w:=by
 simp only[eC]at hc;exact zH (some d) hi hd hc.1.1 hc.1.2 hc.2 hQ (Or.inr ⟨z,rfl⟩) hS h
def acr (w:A)(Pl E:Nat)(l:az)(R:Nat×Nat)(vi:aF)(wr:A):Prop:=
 ∃(i P Q:Nat) (p q:ay),i<=l.length/\vi=Y i/\aB w wr/\WC wr w.heap.size p/\WC wr (w.heap.size+1) q/\DC P p/\DC Q q/\Us Pl E i (l.drop i) (P,Q)=R
theorem alE {w:A}{Pl E:Nat}{l:az}{R:Nat×Nat}{anV Z':Array aF}(hz:anV=(dL 0).toArray)(aw:Z'=(dL 0).toArray)(hR:Us Pl E 0 l (0,0)=R):acr w Pl E l R (Y 0) ((w.alloc (.cells anV 161)).alloc (.cells Z' 161)):=by
 subst hz aw;refine⟨0,0,0,dL 0,dL 0,iz _,rfl,(di _ _ _).trans (di _ _ _),⟨(gq _ _ pG).trans (gp w _),QK 0⟩,⟨?_,QK 0⟩,⟨rfl⟩,⟨rfl⟩,hR⟩;have q:=gp (w.alloc (.cells (dL 0).toArray 161)) (.cells (dL 0).toArray 161);simpa using q
def iW{P:Prop}(h:P:=by
 (intro w Td;(try dsimp only at Td);go_simp;try with_reducible rfl)):P:=h
def kT{P:Prop}(h:P:=by
 go_wp2;go_roundw
 case rel=>exact⟨i+1,P,Q,p,q,J,pQ,Zm.out.trans Yo,zG.out.kept Yo,HBQ.out.kept Yo,zF.out,CY.out,CX.out⟩
 case measure=>simp[intOf];omega):P:=h
def mJ{P:Prop}(h:P:=by
 exact Hk.out _ ((ZG _ _).trans ZU)):P:=h
def nw{P:Prop}(h:P:=by
 exact E8.out _ _ _ YM ((Zy.grown (ZG _ _)).trans WR)):P:=h
theorem alF (h:ZN w0 w X K s vT vS)(hK:YV K)(hs:Y5 K s)(hT:TB s){x:X7}{g o:Nat}(hx:Ty w g o X.B x)(cL:g<w0.heap.size)(aJ:x.c∈K.cons)(aa:x.c.sort=2):aq 131 #[ai X.b,.pointer (some (O g o))] w λe w'=>e=.returned (.bool (Qq K x.c s).1)/\(∃ar,ZN w0 w' X K (Qq K x.c s).2 ar vS)/\Zy X w w':=by
 have av:=hK.cons _ aJ;obtain⟨aL,af⟩:=av.place aa;have a7:=av.F4;have aV:=av.list;obtain⟨dP,bj⟩:=dc (s.L x.c.place);obtain⟨dE,bs⟩:=dc (s.L x.c.entry);obtain⟨R,hR⟩:∃R,Us (s.L x.c.place) (s.L x.c.entry) 0 x.c.list (0,0)=R:=⟨_,rfl⟩;obtain⟨la,lc,bk⟩:=Wt hx.at_.l;have k5:w.cell? (O g (o+5))=some (.slice la x.c.list.length lc):=by have q:=hx.cell 5 _ rfl;rw[bk]at q;exact q
 have cu:=hx.lt;have W6:=Z8 (alE (w:=w) Mp.symm Mp.symm hR);have HW:Hid (∀w1:A,aB w w1->(w1.cell? (O X.b 4)=some (aj X.gl K.vars.length K.vars.length)/\w1.cell? (O g (o+6))=some (Y x.c.place)/\w1.cell? (O g (o+7))=some (Y x.c.entry)/\w1.rangeAt X.gl (x.c.place.toNat*32) dP/\w1.rangeAt X.gl (x.c.entry.toNat*32) dE)):=λw1 z=>by
  have hA:=h.grown z;have hX:=hx.grown z;exact⟨hA.f4,hX.cell 6 _ rfl,hX.cell 7 _ rfl,by rw[bj.is];exact(hA.OQ aL).1,by rw[bs.is];exact(hA.OQ af).1⟩
 have HX:=Z8 hx;have HLA:=Z8 bk;have HH:=Z8 h;have b5:=ZQ.mk (λ(v:Int) (F:-1000<=v) (h2:v<=1000) (W:A)=>C6 bj v F h2 W)
 have b9:=ZQ.mk (λ(v:Int) (F:-1000<=v) (h2:v<=1000) (W:A)=>C6 bs v F h2 W)
 have bH:=bj.info;have bR:=bs.info;have ba:=aL.1;have bh:=aL.2;have bL:=af.1;have bD:=af.2;have cd:=Z8 aV;have aC:Hid (YV K/\Y5 K s/\TB s/\YX K.vars.length x.c.place/\YX K.vars.length x.c.entry/\Us (s.L x.c.place) (s.L x.c.entry) 0 x.c.list (0,0)=R):=⟨hK,hs,hT,aL,af,hR⟩;clear h hx bk bj bs aL af av hR aV hs hK hT;go_enter func131,ntmps131;go_wp2
 go_loopw [14] (λvi wr=>acr w (s.L x.c.place) (s.L x.c.entry) x.c.list R vi wr) (λvi _=>x.c.list.length-(intOf vi).toNat)
 case atStart=>exact W6.out
 case round=>
  clear W6;obtain⟨i,P,Q,p,q,hi,rfl,ZX,b6,aO,aI,ax,aA⟩:=hrel;by_cases YK:i<x.c.list.length
  ·obtain⟨v,ha⟩:∃v,x.c.list[i]?=some v:=⟨x.c.list[i],aZ YK⟩;obtain⟨gl,cl,Il,_⟩:=YR.TX HX.out.at_.l J;have el:la=some (ah gl):=by
    exact mR
   subst el;have k0:wr.cell? (O gl i)=some (Y v):=by have q:=(Il.kept ZX pG).at (sz:=1) (λ_=>rfl) ha 0 _ rfl;rw[iy]at q;exact q
   obtain⟨v1,v2⟩:=cd.out v (cq ha);have bA:x.c.list.drop i=v::x.c.list.drop (i+1):=by
    exact mS
   have X8:(i:Int)<x.c.list.length:=J;have Xy:(0:Int)<=i:=J;have bM:IntKind.i64.wrap ((i:Int)+1)=(i:Int)+1:=Pq J J;have KA:=ZQ.mk (λW=>b5.get ((i:Int)+1) J J W)
   have KB:=ZQ.mk (λW=>b9.get v v1 v2 W)
   have Hk:Hid (∀w1:A,aB wr w1->(w1.cell? (O X.b 4)=some (aj X.gl K.vars.length K.vars.length)/\w1.cell? (O g (o+6))=some (Y x.c.place)/\w1.cell? (O g (o+7))=some (Y x.c.entry)/\w1.rangeAt X.gl (x.c.place.toNat*32) dP/\w1.rangeAt X.gl (x.c.entry.toNat*32) dE)):=λw1 z=>HW.out w1 (ZX.trans z)
   have Zm:=Z8 ZX;have zG:=Z8 b6;have HBQ:=Z8 aO;clear Il ha ZX b6 aO;by_cases c1:Xp (s.L x.c.place) ((i:Int)+1)=true
   ·rw[c1]at KA;by_cases c2:Xp (s.L x.c.entry) v=true
    ·rw[c2]at KB;obtain⟨p',bI⟩:=dc (P ||| Zu ((i:Int)+1));obtain⟨q',bJ⟩:=dc (Q ||| Zu v);have bU:Us (s.L x.c.place) (s.L x.c.entry) (i+1) (x.c.list.drop (i+1)) (P ||| Zu ((i:Int)+1),Q ||| Zu v)=R:=by
      rw[<-aA,bA,Us,c1,c2];rfl
     have KP:=ZQ.mk (λW=>aci aI bI J J W)
     have KQ:=ZQ.mk (λW=>aci ax bJ v1 v2 W)
     have CX:=Z8 bU;have zF:=Z8 aI;have CY:=Z8 ax;have bu:=Z8 bI;have bz:=Z8 bJ;have H6:Hid (∀w4:A,aB wr w4->Sem.run prog (PA (ai w.heap.size)) w4=.ok (.agg p.toArray) w4/\Sem.run prog (Hl (ai w.heap.size) (.agg p'.toArray)) w4=.ok () (w4.setCells w.heap.size 0 p')):=λw4 z=>by
      have b:=zG.out.kept z;exact⟨Tf b.range b.len,zS b.there bu.out.len bu.out.one⟩
     have H7:Hid (∀w4 w6:A,aB wr w4->(w4.setCells w.heap.size 0 p').grownBy w6 none->Sem.run prog (PA (ai (w.heap.size+1))) w6=.ok (.agg q.toArray) w6/\Sem.run prog (Hl (ai (w.heap.size+1)) (.agg q'.toArray)) w6=.ok () (w6.setCells (w.heap.size+1) 0 q')/\w.grownBy (w6.setCells (w.heap.size+1) 0 q') none/\WC (w6.setCells (w.heap.size+1) 0 q') w.heap.size p'/\WC (w6.setCells (w.heap.size+1) 0 q') (w.heap.size+1) q'):=λw4 w6 z aH=>by
      have gs:=Qm w4 w.heap.size 0 p';have bp:=((zG.out.kept z).store bu.out.len).kept aH;have bq:=((HBQ.out.kept z).YQ gs J).kept aH;have bS:=Qm w6 (w.heap.size+1) 0 q';exact⟨Tf bq.range bq.len,zS bq.there bz.out.len bz.out.one,Up ((Up (Zm.out.trans z) (iw _) gs).trans aH) J bS,bp.YQ bS J,bq.store bz.out.len⟩
     clear aA bA c1 c2 bU aI ax bI bJ;go_wp2;refine wp_region_held_drew (S:=(λw1=>w1.cell? (O X.b 4)=some (aj X.gl K.vars.length K.vars.length)/\w1.cell? (O g (o+6))=some (Y x.c.place)/\w1.cell? (O g (o+7))=some (Y x.c.entry)/\w1.rangeAt X.gl (x.c.place.toNat*32) dP/\w1.rangeAt X.gl (x.c.entry.toNat*32) dE)) pH ?_ (λZV=> ?_)
     ·exact Hk.out _ (ZG _ _)
     apply ZL 0 19 ZV
     ·exact iW
     (try simp only[Act.put,Z5,Z4,Z2])
     apply ZL 1 20 ZV
     ·exact iW
     (try simp only[Act.put,Z5,Z4,Z2])
     apply ZL 2 21 ZV
     ·exact iW
     (try simp only[Act.put,Z5,Z4,Z2])
     apply ZL 3 22 ZV
     ·exact iW
     (try simp only[Act.put,Z5,Z4,Z2])
     apply ZL 4 23 ZV
     ·exact iW
     (try simp only[Act.put,Z5,Z4,Z2])
     apply ZL 5 24 ZV
     ·exact iW
     (try simp only[Act.put,Z5,Z4,Z2])
     apply ZL 6 25 ZV
     ·exact iW
     (try simp only[Act.put,Z5,Z4,Z2])
     apply ZL 7 26 ZV
     ·exact iW
     (try simp only[Act.put,Z5,Z4,Z2])
     apply ZL 8 27 ZV
     ·exact iW
     (try simp only[Act.put,Z5,Z4,Z2])
     refine Nd (i:=9) (v:=.agg (dP).toArray) 28 rfl rfl pH (λ_ _ _ h=>h) (yieldsIf_load_mid p8 _ _ rfl _ _ rfl (dP) _ (λw Td=>Td.2.2.2.1) Rt rfl bH) ZV ?_
     (try simp only[Act.put,Z5,Z4,Z2])
     apply ZL 10 29 ZV
     ·exact iW
     (try simp only[Act.put,Z5,Z4,Z2])
     apply ZL 11 30 ZV
     ·exact iW
     (try simp only[Act.put,Z5,Z4,Z2])
     refine wpAnyH_ready (rs:=[12]) pH pG ?_;refine AllReadyH.cons rfl (λK hK=> ?_) AllReadyH.nil
     go_simp;go_wp2_with ((go_at_call 169;refine(KA.get _).mono ?_;rintro e w2 ⟨rfl,ZU⟩));refine hK.out _ _ ?_ (λZV=> ?_)
     ·exact mJ
     clear hK K
     (try simp only[Act.put,Z5,Z4,Z2])
     apply ZL 13 32 ZV
     ·exact iW
     (try simp only[Act.put,Z5,Z4,Z2])
     apply ZL 14 33 ZV
     ·exact iW
     (try simp only[Act.put,Z5,Z4,Z2])
     apply ZL 15 34 ZV
     ·exact iW
     (try simp only[Act.put,Z5,Z4,Z2])
     apply ZL 16 35 ZV
     ·exact iW
     (try simp only[Act.put,Z5,Z4,Z2])
     apply ZL 17 36 ZV
     ·exact iW
     (try simp only[Act.put,Z5,Z4,Z2])
     apply ZL 18 37 ZV
     ·exact iW
     (try simp only[Act.put,Z5,Z4,Z2])
     apply ZL 19 38 ZV
     ·exact iW
     (try simp only[Act.put,Z5,Z4,Z2])
     apply ZL 20 39 ZV
     ·exact iW
     (try simp only[Act.put,Z5,Z4,Z2])
     apply ZL 21 40 ZV
     ·exact iW
     (try simp only[Act.put,Z5,Z4,Z2])
     apply ZL 22 41 ZV
     ·exact iW
     (try simp only[Act.put,Z5,Z4,Z2])
     refine Nd (i:=23) (v:=.agg (dE).toArray) 42 rfl rfl pH (λ_ _ _ h=>h) (yieldsIf_load_mid p8 _ _ rfl _ _ rfl (dE) _ (λw Td=>Td.2.2.2.2) Rt rfl bR) ZV ?_
     (try simp only[Act.put,Z5,Z4,Z2])
     apply ZL 24 43 ZV
     ·exact iW
     (try simp only[Act.put,Z5,Z4,Z2])
     refine wpAnyH_ready (rs:=[25]) pH pG ?_;refine AllReadyH.cons rfl (λK hK=> ?_) AllReadyH.nil
     go_simp;go_wp2_with ((go_at_call 169;refine(KB.get _).mono ?_;rintro e w3 ⟨rfl,ZJ⟩));refine hK.out _ _ ?_ (λZV=> ?_)
     ·exact Hk.out _ (((ZG _ _).trans ZU).trans ZJ)
     clear hK K
     (try simp only[Act.put,Z5,Z4,Z2])
     apply ZL 26 45 ZV
     ·exact iW
     (try simp only[Act.put,Z5,Z4,Z2])
     refine wpAnyH_done pH ?_ _;have Yo:=((ZG wr none).trans ZU).trans ZJ;obtain⟨l6,_⟩:=H6.out w3 Yo;go_wp2_with (first|(have hz:=l7;clear hz;go_at_call 170;refine(KQ.get _).mono ?_;rintro e w6 ⟨rfl,aH⟩;obtain⟨_,t7,gg,bb1,bb2⟩:=H7.out w4 w6 (Yo.trans Xr) aH)|(go_at_call 170;refine(KP.get _).mono ?_;rintro e w4 ⟨rfl,Xr⟩;obtain⟨_,t6⟩:=H6.out w4 (Yo.trans Xr);obtain⟨l7,_⟩:=H7.out w4 _ (Yo.trans Xr) (WW _ _)))
     go_roundw
     case rel=>exact⟨i+1,_,_,p',q',J,pQ,gg,bb1,bb2,bu.out,bz.out,CX.out⟩
     case measure=>simp[intOf];omega
    ·have bn:Xp (s.L x.c.entry) v=false:=th;rw[bn]at KB;have CX:Hid (Us (s.L x.c.place) (s.L x.c.entry) (i+1) (x.c.list.drop (i+1)) (P,Q)=R):=by
      rw[Hid,<-aA,bA,Us,c1,bn];rfl
     have zF:=Z8 aI;have CY:=Z8 ax;clear aA bA c1 c2 bn aI ax;go_wp2;refine wp_region_held_drew (S:=(λw1=>w1.cell? (O X.b 4)=some (aj X.gl K.vars.length K.vars.length)/\w1.cell? (O g (o+6))=some (Y x.c.place)/\w1.cell? (O g (o+7))=some (Y x.c.entry)/\w1.rangeAt X.gl (x.c.place.toNat*32) dP/\w1.rangeAt X.gl (x.c.entry.toNat*32) dE)) pH ?_ (λZV=> ?_)
     ·exact Hk.out _ (ZG _ _)
     apply ZL 0 19 ZV
     ·exact iW
     (try simp only[Act.put,Z5,Z4,Z2])
     apply ZL 1 20 ZV
     ·exact iW
     (try simp only[Act.put,Z5,Z4,Z2])
     apply ZL 2 21 ZV
     ·exact iW
     (try simp only[Act.put,Z5,Z4,Z2])
     apply ZL 3 22 ZV
     ·exact iW
     (try simp only[Act.put,Z5,Z4,Z2])
     apply ZL 4 23 ZV
     ·exact iW
     (try simp only[Act.put,Z5,Z4,Z2])
     apply ZL 5 24 ZV
     ·exact iW
     (try simp only[Act.put,Z5,Z4,Z2])
     apply ZL 6 25 ZV
     ·exact iW
     (try simp only[Act.put,Z5,Z4,Z2])
     apply ZL 7 26 ZV
     ·exact iW
     (try simp only[Act.put,Z5,Z4,Z2])
     apply ZL 8 27 ZV
     ·exact iW
     (try simp only[Act.put,Z5,Z4,Z2])
     refine Nd (i:=9) (v:=.agg (dP).toArray) 28 rfl rfl pH (λ_ _ _ h=>h) (yieldsIf_load_mid p8 _ _ rfl _ _ rfl (dP) _ (λw Td=>Td.2.2.2.1) Rt rfl bH) ZV ?_
     (try simp only[Act.put,Z5,Z4,Z2])
     apply ZL 10 29 ZV
     ·exact iW
     (try simp only[Act.put,Z5,Z4,Z2])
     apply ZL 11 30 ZV
     ·exact iW
     (try simp only[Act.put,Z5,Z4,Z2])
     refine wpAnyH_ready (rs:=[12]) pH pG ?_;refine AllReadyH.cons rfl (λK hK=> ?_) AllReadyH.nil
     go_simp;go_wp2_with ((go_at_call 169;refine(KA.get _).mono ?_;rintro e w2 ⟨rfl,ZU⟩));refine hK.out _ _ ?_ (λZV=> ?_)
     ·exact mJ
     clear hK K
     (try simp only[Act.put,Z5,Z4,Z2])
     apply ZL 13 32 ZV
     ·exact iW
     (try simp only[Act.put,Z5,Z4,Z2])
     apply ZL 14 33 ZV
     ·exact iW
     (try simp only[Act.put,Z5,Z4,Z2])
     apply ZL 15 34 ZV
     ·exact iW
     (try simp only[Act.put,Z5,Z4,Z2])
     apply ZL 16 35 ZV
     ·exact iW
     (try simp only[Act.put,Z5,Z4,Z2])
     apply ZL 17 36 ZV
     ·exact iW
     (try simp only[Act.put,Z5,Z4,Z2])
     apply ZL 18 37 ZV
     ·exact iW
     (try simp only[Act.put,Z5,Z4,Z2])
     apply ZL 19 38 ZV
     ·exact iW
     (try simp only[Act.put,Z5,Z4,Z2])
     apply ZL 20 39 ZV
     ·exact iW
     (try simp only[Act.put,Z5,Z4,Z2])
     apply ZL 21 40 ZV
     ·exact iW
     (try simp only[Act.put,Z5,Z4,Z2])
     apply ZL 22 41 ZV
     ·exact iW
     (try simp only[Act.put,Z5,Z4,Z2])
     refine Nd (i:=23) (v:=.agg (dE).toArray) 42 rfl rfl pH (λ_ _ _ h=>h) (yieldsIf_load_mid p8 _ _ rfl _ _ rfl (dE) _ (λw Td=>Td.2.2.2.2) Rt rfl bR) ZV ?_
     (try simp only[Act.put,Z5,Z4,Z2])
     apply ZL 24 43 ZV
     ·exact iW
     (try simp only[Act.put,Z5,Z4,Z2])
     refine wpAnyH_ready (rs:=[25]) pH pG ?_;refine AllReadyH.cons rfl (λK hK=> ?_) AllReadyH.nil
     go_simp;go_wp2_with ((go_at_call 169;refine(KB.get _).mono ?_;rintro e w3 ⟨rfl,ZJ⟩));refine hK.out _ _ ?_ (λZV=> ?_)
     ·exact Hk.out _ (((ZG _ _).trans ZU).trans ZJ)
     clear hK K
     (try simp only[Act.put,Z5,Z4,Z2])
     apply ZL 26 45 ZV
     ·exact iW
     (try simp only[Act.put,Z5,Z4,Z2])
     refine wpAnyH_done pH ?_ _;have Yo:=((ZG wr none).trans ZU).trans ZJ;exact kT
   ·have aY:Xp (s.L x.c.place) ((i:Int)+1)=false:=ry;rw[aY]at KA;have CX:Hid (Us (s.L x.c.place) (s.L x.c.entry) (i+1) (x.c.list.drop (i+1)) (P,Q)=R):=by
     rw[Hid,<-aA,bA,Us,aY];rfl
    have zF:=Z8 aI;have CY:=Z8 ax;clear aA bA c1 aY aI ax;go_wp2;refine wp_region_held_drew (S:=(λw1=>w1.cell? (O X.b 4)=some (aj X.gl K.vars.length K.vars.length)/\w1.cell? (O g (o+6))=some (Y x.c.place)/\w1.cell? (O g (o+7))=some (Y x.c.entry)/\w1.rangeAt X.gl (x.c.place.toNat*32) dP/\w1.rangeAt X.gl (x.c.entry.toNat*32) dE)) pH ?_ (λZV=> ?_)
    ·exact Hk.out _ (ZG _ _)
    apply ZL 0 19 ZV
    ·exact iW
    (try simp only[Act.put,Z5,Z4,Z2])
    apply ZL 1 20 ZV
    ·exact iW
    (try simp only[Act.put,Z5,Z4,Z2])
    apply ZL 2 21 ZV
    ·exact iW
    (try simp only[Act.put,Z5,Z4,Z2])
    apply ZL 3 22 ZV
    ·exact iW
    (try simp only[Act.put,Z5,Z4,Z2])
    apply ZL 4 23 ZV
    ·exact iW
    (try simp only[Act.put,Z5,Z4,Z2])
    apply ZL 5 24 ZV
    ·exact iW
    (try simp only[Act.put,Z5,Z4,Z2])
    apply ZL 6 25 ZV
    ·exact iW
    (try simp only[Act.put,Z5,Z4,Z2])
    apply ZL 7 26 ZV
    ·exact iW
    (try simp only[Act.put,Z5,Z4,Z2])
    apply ZL 8 27 ZV
    ·exact iW
    (try simp only[Act.put,Z5,Z4,Z2])
    refine Nd (i:=9) (v:=.agg (dP).toArray) 28 rfl rfl pH (λ_ _ _ h=>h) (yieldsIf_load_mid p8 _ _ rfl _ _ rfl (dP) _ (λw Td=>Td.2.2.2.1) Rt rfl bH) ZV ?_
    (try simp only[Act.put,Z5,Z4,Z2])
    apply ZL 10 29 ZV
    ·exact iW
    (try simp only[Act.put,Z5,Z4,Z2])
    apply ZL 11 30 ZV
    ·exact iW
    (try simp only[Act.put,Z5,Z4,Z2])
    refine wpAnyH_ready (rs:=[12]) pH pG ?_;refine AllReadyH.cons rfl (λK hK=> ?_) AllReadyH.nil
    go_simp;go_wp2_with ((go_at_call 169;refine(KA.get _).mono ?_;rintro e w2 ⟨rfl,ZU⟩));refine hK.out _ _ ?_ (λZV=> ?_)
    ·exact mJ
    clear hK K
    (try simp only[Act.put,Z5,Z4,Z2])
    apply ZL 13 32 ZV
    ·exact iW
    (try simp only[Act.put,Z5,Z4,Z2])
    apply UX 14 33 ZV
    (try simp only[Act.put,Z5,Z4,Z2])
    apply UX 15 34 ZV
    (try simp only[Act.put,Z5,Z4,Z2])
    apply UX 16 35 ZV
    (try simp only[Act.put,Z5,Z4,Z2])
    apply UX 17 36 ZV
    (try simp only[Act.put,Z5,Z4,Z2])
    apply UX 18 37 ZV
    (try simp only[Act.put,Z5,Z4,Z2])
    apply UX 19 38 ZV
    (try simp only[Act.put,Z5,Z4,Z2])
    apply UX 20 39 ZV
    (try simp only[Act.put,Z5,Z4,Z2])
    apply UX 21 40 ZV
    (try simp only[Act.put,Z5,Z4,Z2])
    apply UX 22 41 ZV
    (try simp only[Act.put,Z5,Z4,Z2])
    apply UX 23 42 ZV
    (try simp only[Act.put,Z5,Z4,Z2])
    apply UX 24 43 ZV
    (try simp only[Act.put,Z5,Z4,Z2])
    apply UX 25 44 ZV
    (try simp only[Act.put,Z5,Z4,Z2])
    apply ZL 26 45 ZV
    ·exact iW
    (try simp only[Act.put,Z5,Z4,Z2])
    refine wpAnyH_done pH ?_ _;have Yo:=(ZG wr none).trans ZU;exact kT
  ·obtain rfl:i=x.c.list.length:=J;rw[bF (iw _)]at aA;have eR:(P,Q)=R:=aA;subst eR;obtain⟨hK,hs,hT,aL,af,aP⟩:=aC.out;obtain⟨u1,u2⟩:=Df (P:=s.L x.c.place) (E:=s.L x.c.entry) (l:=x.c.list) (i:=0) (r:=(0,0)) (λj h=>pZ) (λj h=>pZ)
   rw[aP]at u1 u2;simp only[]at u1 u2;have bf:P<2 ^ 2001:=Di (k:=2001) λj hj=>Mv (u1 j hj) (hs.TP hK x.c.place)
   have hA:=HH.out.grown ZX;have bC:=Z8 (hA.grown (ZG wr none));have bt:w.heap.size∉X.own:=HH.out.QJ (iw _);have bN:w.heap.size+1∉X.own:=HH.out.QJ (ix _);have E8:Hid (∀(W':A) (s':SS) (ar:aF),ZN w0 W' X K s' ar vS->Zy X wr W'->(W'.cell? (O X.b 4)=some (aj X.gl K.vars.length K.vars.length)/\W'.cell? (O g (o+6))=some (Y x.c.place)/\W'.cell? (O g (o+7))=some (Y x.c.entry)/\W'.rangeAt w.heap.size 0 p/\W'.rangeAt (w.heap.size+1) 0 q)):=λW' s' ar bT hf=>by
    have YQ:∀k u,x.cells[k]?=some u->W'.cell? (O g (o+k))=some u:=λk u hu=>by
     rw[<-HX.out.cell k u hu];exact(cJ (bT.g0.block g cL pG)).trans (cJ (HH.out.g0.block g cL pG)).symm
    exact⟨bT.f4,YQ 6 _ rfl,YQ 7 _ rfl,(b6.Jt hf bt).range,(aO.Jt hf bN).range⟩
   have bE:=ZQ.mk (λ{W:A} (q:ZN w0 W X K s vT vS)=>E9 aI q hK hs aL bf hT.le)
   have aX:Y5 K (Vq K x.c.place P s).2/\TB (Vq K x.c.place P s).2:=⟨(Mt hK hs aL u1).1.ok hs,Jm hK hs aL u1 hT⟩;have Yn:Hid (Qq K x.c s=(if (Vq K x.c.place P s).1 then Vq K x.c.entry (Q &&& (Vq K x.c.place P s).2.L x.c.entry) (Vq K x.c.place P s).2 else Vq K x.c.place P s)):=by
    rw[Hid];unfold Qq;rw[aP]
   have bo:=aI.info;have cg:=ax.info;generalize aM:Vq K x.c.place P s=k at *;have Zm:=Z8 ZX;have CY:=Z8 ax;have PH:=Z8 af
   cases I:k.1 with
   |false=>
    rw[I]at bE;have Xk:Hid (Qq K x.c s=k):=by rw[Hid,Yn.out,I];rfl
    have Vo:(Qq K x.c s).1=false:=by rw[Xk.out];exact I
    clear I aM Yn aX hA ZX b6 aO aI ax aA aP u1 u2 hK hs hT aL af aC bf;go_wp2;refine wp_region_held_drew (S:=(λw1=>w1.cell? (O X.b 4)=some (aj X.gl K.vars.length K.vars.length)/\w1.cell? (O g (o+6))=some (Y x.c.place)/\w1.cell? (O g (o+7))=some (Y x.c.entry)/\w1.rangeAt w.heap.size 0 p/\w1.rangeAt (w.heap.size+1) 0 q)) pH ?_ (λZV=> ?_)
    ·exact E8.out _ _ _ bC.out (Zy.grown (ZG _ _))
    apply ZL 0 54 ZV
    ·exact iW
    (try simp only[Act.put,Z5,Z4,Z2])
    apply ZL 1 55 ZV
    ·exact iW
    (try simp only[Act.put,Z5,Z4,Z2])
    apply ZL 2 56 ZV
    ·exact iW
    (try simp only[Act.put,Z5,Z4,Z2])
    apply ZL 3 57 ZV
    ·exact iW
    (try simp only[Act.put,Z5,Z4,Z2])
    apply ZL 4 58 ZV
    ·exact iW
    (try simp only[Act.put,Z5,Z4,Z2])
    refine Nd (i:=5) (v:=.agg (p).toArray) 59 rfl rfl pH (λ_ _ _ h=>h) (yieldsIf_load_mid p8 _ _ rfl _ _ rfl (p) _ (λw Td=>Td.2.2.2.1) Rt rfl bo) ZV ?_
    (try simp only[Act.put,Z5,Z4,Z2])
    refine wpAnyH_ready (rs:=[6]) pH pG ?_;refine AllReadyH.cons rfl (λK hK=> ?_) AllReadyH.nil
    go_simp;go_wp2_with ((go_at_call 167;refine(bE.get bC.out).mono ?_;rintro e w2 ⟨rfl,⟨a6,YM⟩,WR⟩));refine hK.out _ _ ?_ (λZV=> ?_)
    ·exact nw
    clear hK K
    (try simp only[Act.put,Z5,Z4,Z2])
    apply ZL 7 61 ZV
    ·exact iW
    (try simp only[Act.put,Z5,Z4,Z2])
    apply UX 8 62 ZV
    (try simp only[Act.put,Z5,Z4,Z2])
    apply UX 9 63 ZV
    (try simp only[Act.put,Z5,Z4,Z2])
    apply UX 10 64 ZV
    (try simp only[Act.put,Z5,Z4,Z2])
    apply UX 11 65 ZV
    (try simp only[Act.put,Z5,Z4,Z2])
    apply UX 12 66 ZV
    (try simp only[Act.put,Z5,Z4,Z2])
    apply UX 13 67 ZV
    (try simp only[Act.put,Z5,Z4,Z2])
    apply UX 14 68 ZV
    (try simp only[Act.put,Z5,Z4,Z2])
    apply UX 15 69 ZV
    (try simp only[Act.put,Z5,Z4,Z2])
    apply UX 16 70 ZV
    (try simp only[Act.put,Z5,Z4,Z2])
    apply UX 17 71 ZV
    (try simp only[Act.put,Z5,Z4,Z2])
    apply UX 18 72 ZV
    (try simp only[Act.put,Z5,Z4,Z2])
    apply UX 19 73 ZV
    (try simp only[Act.put,Z5,Z4,Z2])
    apply UX 20 74 ZV
    (try simp only[Act.put,Z5,Z4,Z2])
    apply UX 21 75 ZV
    (try simp only[Act.put,Z5,Z4,Z2])
    apply UX 22 76 ZV
    (try simp only[Act.put,Z5,Z4,Z2])
    apply UX 23 77 ZV
    (try simp only[Act.put,Z5,Z4,Z2])
    apply UX 24 78 ZV
    (try simp only[Act.put,Z5,Z4,Z2])
    apply UX 25 79 ZV
    (try simp only[Act.put,Z5,Z4,Z2])
    apply ZL 26 80 ZV
    ·exact iW
    (try simp only[Act.put,Z5,Z4,Z2])
    apply ZL 27 4 ZV
    ·exact iW
    (try simp only[Act.put,Z5,Z4,Z2])
    refine wpAnyH_done pH ?_ _;go_wp2;go_ret;rw[Vo,Xk.out];exact⟨rfl,⟨_,YM⟩,(Zy.grown (Zm.out.trans (ZG _ _))).trans WR⟩
   |true=>
    rw[I]at bE;have Xk:Hid (Qq K x.c s=Vq K x.c.entry (Q &&& k.2.L x.c.entry) k.2):=by rw[Hid,Yn.out,I];rfl
    obtain⟨e2,bD⟩:=dc (k.2.L x.c.entry);obtain⟨r,hr⟩:=dc (Q &&& k.2.L x.c.entry);have RI:Q &&& k.2.L x.c.entry<2 ^ 2001:=Nat.lt_of_le_of_lt Nat.and_le_right (aX.1.TP hK x.c.entry);have ck:=ZQ.mk (λW=>Fe ax bD hr W)
    have cm:=ZQ.mk (λ{W:A} {a6:aF} (q:ZN w0 W X K k.2 a6 vS)=>E9 hr q hK aX.1 af RI aX.2.le)
    have cn:Hid (∀{W:A} {a6:aF},ZN w0 W X K k.2 a6 vS->Sem.run prog (PA (.pointer (some (O X.gl (x.c.entry.toNat*32))))) W=.ok (.agg e2.toArray) W):=λ{W a6} q=>Tf (by rw[bD.is];exact(q.OQ PH.out).1) bD.len
    clear I aM Yn aX hA ZX b6 aO aI ax aA aP u1 u2 hK hs hT aL af aC bf RI bD hr;go_wp2;refine wp_region_held_drew (S:=(λw1=>w1.cell? (O X.b 4)=some (aj X.gl K.vars.length K.vars.length)/\w1.cell? (O g (o+6))=some (Y x.c.place)/\w1.cell? (O g (o+7))=some (Y x.c.entry)/\w1.rangeAt w.heap.size 0 p/\w1.rangeAt (w.heap.size+1) 0 q)) pH ?_ (λZV=> ?_)
    ·exact E8.out _ _ _ bC.out (Zy.grown (ZG _ _))
    apply ZL 0 54 ZV
    ·exact iW
    (try simp only[Act.put,Z5,Z4,Z2])
    apply ZL 1 55 ZV
    ·exact iW
    (try simp only[Act.put,Z5,Z4,Z2])
    apply ZL 2 56 ZV
    ·exact iW
    (try simp only[Act.put,Z5,Z4,Z2])
    apply ZL 3 57 ZV
    ·exact iW
    (try simp only[Act.put,Z5,Z4,Z2])
    apply ZL 4 58 ZV
    ·exact iW
    (try simp only[Act.put,Z5,Z4,Z2])
    refine Nd (i:=5) (v:=.agg (p).toArray) 59 rfl rfl pH (λ_ _ _ h=>h) (yieldsIf_load_mid p8 _ _ rfl _ _ rfl (p) _ (λw Td=>Td.2.2.2.1) Rt rfl bo) ZV ?_
    (try simp only[Act.put,Z5,Z4,Z2])
    refine wpAnyH_ready (rs:=[6]) pH pG ?_;refine AllReadyH.cons rfl (λK hK=> ?_) AllReadyH.nil
    go_simp;go_wp2_with ((go_at_call 167;refine(bE.get bC.out).mono ?_;rintro e w2 ⟨rfl,⟨a6,YM⟩,WR⟩));refine hK.out _ _ ?_ (λZV=> ?_)
    ·exact nw
    clear hK K
    (try simp only[Act.put,Z5,Z4,Z2])
    apply ZL 7 61 ZV
    ·exact iW
    (try simp only[Act.put,Z5,Z4,Z2])
    apply ZL 8 62 ZV
    ·exact iW
    (try simp only[Act.put,Z5,Z4,Z2])
    apply ZL 9 63 ZV
    ·exact iW
    (try simp only[Act.put,Z5,Z4,Z2])
    apply ZL 10 64 ZV
    ·exact iW
    (try simp only[Act.put,Z5,Z4,Z2])
    apply ZL 11 65 ZV
    ·exact iW
    (try simp only[Act.put,Z5,Z4,Z2])
    apply ZL 12 66 ZV
    ·exact iW
    (try simp only[Act.put,Z5,Z4,Z2])
    refine Nd (i:=13) (v:=.agg (q).toArray) 67 rfl rfl pH (λ_ _ _ h=>h) (yieldsIf_load_mid p8 _ _ rfl _ _ rfl (q) _ (λw Td=>Td.2.2.2.2) Rt rfl cg) ZV ?_
    (try simp only[Act.put,Z5,Z4,Z2])
    apply ZL 14 68 ZV
    ·exact iW
    (try simp only[Act.put,Z5,Z4,Z2])
    apply ZL 15 69 ZV
    ·exact iW
    (try simp only[Act.put,Z5,Z4,Z2])
    apply ZL 16 70 ZV
    ·exact iW
    (try simp only[Act.put,Z5,Z4,Z2])
    apply ZL 17 71 ZV
    ·exact iW
    (try simp only[Act.put,Z5,Z4,Z2])
    apply ZL 18 72 ZV
    ·exact iW
    (try simp only[Act.put,Z5,Z4,Z2])
    apply ZL 19 73 ZV
    ·exact iW
    (try simp only[Act.put,Z5,Z4,Z2])
    apply ZL 20 74 ZV
    ·exact iW
    (try simp only[Act.put,Z5,Z4,Z2])
    apply ZL 21 75 ZV
    ·exact iW
    (try simp only[Act.put,Z5,Z4,Z2])
    apply ZL 22 76 ZV
    ·exact iW
    (try simp only[Act.put,Z5,Z4,Z2])
    have cB:=cn.out YM;refine wpAnyH_ready (rs:=[23]) pH pG ?_;refine AllReadyH.cons rfl (λK hK=> ?_) AllReadyH.nil
    go_simp;refine hK.out _ _ ?_ (λZV=> ?_)
    ·exact ZV
    clear hK K
    (try simp only[Act.put,Z5,Z4,Z2])
    refine wpAnyH_ready (rs:=[24]) pH pG ?_;refine AllReadyH.cons rfl (λK hK=> ?_) AllReadyH.nil
    go_simp;go_wp2_with ((go_at_call 171;refine(ck.get _).mono ?_;rintro e w3 ⟨rfl,ZJ⟩));refine hK.out _ _ ?_ (λZV=> ?_)
    ·exact E8.out _ _ _ (YM.grown ZJ) (((Zy.grown (ZG _ _)).trans WR).trans (Zy.grown ZJ))
    clear hK K
    (try simp only[Act.put,Z5,Z4,Z2])
    refine wpAnyH_ready (rs:=[25]) pH pG ?_;refine AllReadyH.cons rfl (λK hK=> ?_) AllReadyH.nil
    go_simp;go_wp2_with ((go_at_call 167;refine(cm.get (YM.grown ZJ)).mono ?_;rintro e w4 ⟨rfl,⟨bO,br⟩,bB⟩));refine hK.out _ _ ?_ (λZV=> ?_)
    ·exact E8.out _ _ _ br ((((Zy.grown (ZG _ _)).trans WR).trans (Zy.grown ZJ)).trans bB)
    clear hK K
    (try simp only[Act.put,Z5,Z4,Z2])
    apply ZL 26 80 ZV
    ·exact iW
    (try simp only[Act.put,Z5,Z4,Z2])
    apply ZL 27 4 ZV
    ·exact iW
    (try simp only[Act.put,Z5,Z4,Z2])
    refine wpAnyH_done pH ?_ _;go_wp2;go_ret;rw[Xk.out];exact⟨rfl,⟨_,br⟩,(Zy.grown (Zm.out.trans (ZG _ _))).trans ((WR.trans (Zy.grown ZJ)).trans bB)⟩
end
section
attribute [local go_sem ↓] Pz Py
variable {w0 w w' aW:A}{X:SL}{K:SK}{s:SS}{vT vS:aF}
def Mo (a:Int×Int):aF:=.agg #[Y a.1,Y a.2]
theorem acs (h:ZN w0 w X K s vT vS)(hK:YV K)(a:Int×Int)(hv:YX K.vars.length a.1)(ha:a.2=0\/a.2=1){N:Nat}(hN:ak w N 0 (ai X.b)):aq 173 #[Mo a,ai N] w (au w (.bool (Uh s a))):=by
 obtain⟨v,anZ⟩:=a;simp only at hv ha;unfold Mo Uh;simp only[];obtain⟨d,hd⟩:=dc (s.L v);have KH:=ZQ.mk (λW=>C6 hd anZ J J W)
 have MX:=hd.info;have bb:=hv.1;have aK:=hv.2;have cv:=World.block_lt_of_cell? w _ hN;have HS:Hid (∀W:A,(w.alloc (.cells #[Y v,Y anZ] 203)).grownBy W none->(ak W N 0 (ai X.b)/\ak W X.b 4 (aj X.gl K.vars.length K.vars.length)/\ak W w.heap.size 0 (Y v)/\ak W w.heap.size 1 (Y anZ)/\W.rangeAt X.gl (v.toNat*32) d)):=λW z=>by
  have g:=(di w (.cells #[Y v,Y anZ] 203) none).trans z;have hA:=h.grown g;have hB:=(z.block w.heap.size pG pG).trans (gp w _);exact⟨g.cell hN pG,hA.f4,Z0 hB 0 _ rfl,Z0 hB 1 _ rfl,by rw[hd.is];exact(hA.OQ hv).1⟩
 clear h hd hv hN;go_enter func173,ntmps173;go_wp2;refine wp_region_held_drew (S:=(λW=>W.cell? (ah N)=some (ai X.b)/\W.cell? (O X.b 4)=some (aj X.gl K.vars.length K.vars.length)/\W.cell? (ah w.heap.size)=some (Y v)/\W.cell? (O w.heap.size 1)=some (Y anZ)/\W.rangeAt X.gl (v.toNat*32) d)) pH ?_ (λZV=> ?_)
 ·exact HS.out _ (ZG _ _)
 apply ZL 0 4 ZV
 ·exact iW
 (try simp only[Act.put,Z5,Z4,Z2])
 apply ZL 1 5 ZV
 ·exact iW
 (try simp only[Act.put,Z5,Z4,Z2])
 apply ZL 2 6 ZV
 ·exact iW
 (try simp only[Act.put,Z5,Z4,Z2])
 apply ZL 3 7 ZV
 ·exact iW
 (try simp only[Act.put,Z5,Z4,Z2])
 apply ZL 4 8 ZV
 ·exact iW
 (try simp only[Act.put,Z5,Z4,Z2])
 apply ZL 5 9 ZV
 ·exact iW
 (try simp only[Act.put,Z5,Z4,Z2])
 apply ZL 6 10 ZV
 ·exact iW
 (try simp only[Act.put,Z5,Z4,Z2])
 refine Nd (i:=7) (v:=.agg (d).toArray) 11 rfl rfl pH (λ_ _ _ h=>h) (yieldsIf_load_mid p8 _ _ rfl _ _ rfl (d) _ (λw Td=>Td.2.2.2.2) Rt rfl MX) ZV ?_
 (try simp only[Act.put,Z5,Z4,Z2])
 apply ZL 8 12 ZV
 ·exact iW
 (try simp only[Act.put,Z5,Z4,Z2])
 apply ZL 9 13 ZV
 ·exact iW
 (try simp only[Act.put,Z5,Z4,Z2])
 refine wpAnyH_ready (rs:=[10]) pH pG ?_;refine AllReadyH.cons rfl (λK hK=> ?_) AllReadyH.nil
 go_simp;go_wp2_with ((go_at_call 169;refine(KH.get _).mono ?_;rintro e w2 ⟨rfl,ZU⟩));refine hK.out _ _ ?_ (λZV=> ?_)
 ·exact HS.out _ ((ZG _ _).trans ZU)
 clear hK K
 (try simp only[Act.put,Z5,Z4,Z2])
 apply ZL 11 3 ZV
 ·exact iW
 (try simp only[Act.put,Z5,Z4,Z2])
 refine wpAnyH_done pH ?_ _;go_wp2;go_ret;exact⟨rfl,((di _ _ _).trans (ZG _ _)).trans ZU⟩
def Qk (p:Int×Int->Bool)(l:List (Int×Int)):Int:=match l.findIdx? p with|some i=>(i:Int)|none=>-1
theorem acu {p:Int×Int->Bool}{l:List (Int×Int)}{i:Nat}{a:Int×Int}(Uu:∀j b,j<i->l[j]?=some b->p b=false)(ha:l[i]?=some a)(hp:p a=true):Qk p l=i:=by
 have:l.findIdx? p=some i:=by
  rw[aG];have hi:=(aU.1 ha).1;refine⟨hi,?_,λj hj=> ?_⟩
  ·rw[(aU.1 ha).2];exact hp
  ·have:=Uu j _ hj (aZ J);simpa using this
 unfold Qk;rw[this]
def mE{P:Prop}(h:P:=by
 rw[aS];intro x hx;obtain⟨j,hj,rfl⟩:=cj.1 hx;exact Uu j _ hj (aZ hj)):P:=h
theorem alG {p:Int×Int->Bool}{l:List (Int×Int)}(Uu:∀j b,j<l.length->l[j]?=some b->p b=false):Qk p l=-1:=by
 have:l.findIdx? p=none:=by
  exact mE
 unfold Qk;rw[this]
def lY{P:Prop}(h:P:=by
 go_roundw
 case rel=>exact⟨i+1,J,pQ,HE.out,Zm.out.trans ZZ⟩
 case measure=>simp[intOf];omega):P:=h
def mi{P:Prop}(h:P:=by
 by_cases e:j=i
 ·subst e;rw[HA.out]at hb;cases hb;exact hp
 ·exact Tj.out j b J hb):P:=h
def nD{P:Prop}(h:P:=by
 go_ret;rw[HE.out];exact⟨rfl,Zm.out.trans ZZ⟩):P:=h
def oM{P:Prop}(h:P:=by
 obtain rfl:i=l.length:=J;have HE:Hid (Qk p l=-1):=alG Tj.out;go_wp2;exact kZ):P:=h
theorem alH {p:Int×Int->Bool}{gt ct:Nat}{l:List (Int×Int)}(hT:YR w (aj gt l.length ct) gt ct P7 l)(a7:l.length<=3000){N:Nat}(KF:∀a∈l,∀W:A,aB w W->aq 173 #[Mo a,ai N] W λe W'=>e=.returned (.bool (p a))/\aB W W'):aq 174 #[aj gt l.length ct,.func (.func 173) #[] #[ai N]] w (au w (Y (Qk p l))):=by
 have HT:=Z8 hT;have bP:=ZQ.mk KF;have Vm:=hT.lt;clear hT KF;go_enter func174,ntmps174;go_wp2
 go_loopw [8] (λvi wr=>∃i:Nat,i<=l.length/\vi=Y i/\(∀j b,j<i->l[j]?=some b->p b=false)/\aB w wr) (λvi _=>l.length-(intOf vi).toNat)
 case atStart=>exact⟨0,iz _,rfl,λj b hj=>absurd hj (fI j),WW _ _⟩
 case round=>
  obtain⟨i,hi,rfl,Uu,ZX⟩:=hrel;have Tj:=Z8 Uu;clear Uu;by_cases ZR:i<l.length
  ·obtain⟨a,ha⟩:∃a,l[i]?=some a:=⟨l[i],aZ ZR⟩;have hR:=HT.out.kept ZX pG;have k0:ak wr gt (i*2) (Y a.1):=hR.at (sz:=2) (λ_=>rfl) ha 0 _ rfl
   have k1:ak wr gt (i*2+1) (Y a.2):=hR.at (sz:=2) (λ_=>rfl) ha 1 _ rfl
   have K1:=ZQ.mk (bP.get a (cq ha) wr ZX);unfold Mo at K1;have X8:(i:Int)<l.length:=J;have Xy:(0:Int)<=i:=J;have Zm:=Z8 ZX;have HA:=Z8 ha;clear hR ZX ha
   cases hp:p a with
   |true=>
    rw[hp]at K1;have HE:Hid (Qk p l=i):=acu Tj.out HA.out hp;go_wp2_with (go_at_call 173;refine K1.get.mono ?_;rintro e w1 ⟨rfl,ZZ⟩);exact nD
   |false=>
    rw[hp]at K1;have HE:Hid (∀j b,j<i+1->l[j]?=some b->p b=false):=λj b hj hb=>by
     exact mi
    go_wp2_with (go_at_call 173;refine K1.get.mono ?_;rintro e w1 ⟨rfl,ZZ⟩);exact lY
  ·exact oM
theorem alI {p:Int×Int->Bool}{gt ct:Nat}{l:List (Int×Int)}(hT:YR w (aj gt l.length ct) gt ct P7 l)(a7:l.length<=3000){B6 B5:Nat}(KF:∀a∈l,∀W:A,aB w W->aq 176 #[Mo a,ai B6,ai B5] W λe W'=>e=.returned (.bool (p a))/\aB W W'):aq 174 #[aj gt l.length ct,.func (.func 176) #[] #[ai B6,ai B5]] w (au w (Y (Qk p l))):=by
 have HT:=Z8 hT;have bP:=ZQ.mk KF;have Vm:=hT.lt;clear hT KF;go_enter func174,ntmps174;go_wp2
 go_loopw [8] (λvi wr=>∃i:Nat,i<=l.length/\vi=Y i/\(∀j b,j<i->l[j]?=some b->p b=false)/\aB w wr) (λvi _=>l.length-(intOf vi).toNat)
 case atStart=>exact⟨0,iz _,rfl,λj b hj=>absurd hj (fI j),WW _ _⟩
 case round=>
  obtain⟨i,hi,rfl,Uu,ZX⟩:=hrel;have Tj:=Z8 Uu;clear Uu;by_cases ZR:i<l.length
  ·obtain⟨a,ha⟩:∃a,l[i]?=some a:=⟨l[i],aZ ZR⟩;have hR:=HT.out.kept ZX pG;have k0:ak wr gt (i*2) (Y a.1):=hR.at (sz:=2) (λ_=>rfl) ha 0 _ rfl
   have k1:ak wr gt (i*2+1) (Y a.2):=hR.at (sz:=2) (λ_=>rfl) ha 1 _ rfl
   have K1:=ZQ.mk (bP.get a (cq ha) wr ZX);unfold Mo at K1;have X8:(i:Int)<l.length:=J;have Xy:(0:Int)<=i:=J;have Zm:=Z8 ZX;have HA:=Z8 ha;clear hR ZX ha
   cases hp:p a with
   |true=>
    rw[hp]at K1;have HE:Hid (Qk p l=i):=acu Tj.out HA.out hp;go_wp2_with (go_at_call 176;refine K1.get.mono ?_;rintro e w1 ⟨rfl,ZZ⟩);exact nD
   |false=>
    rw[hp]at K1;have HE:Hid (∀j b,j<i+1->l[j]?=some b->p b=false):=λj b hj hb=>by
     exact mi
    go_wp2_with (go_at_call 176;refine K1.get.mono ?_;rintro e w1 ⟨rfl,ZZ⟩);exact lY
  ·exact oM
theorem alJ (p:Int×Int->Bool)(l:List (Int×Int)):decide (0<=Qk p l)=l.any p:=by
 unfold Qk
 cases e:l.findIdx? p with
 |none=>
  rw[aS]at e;have:l.any p=false:=by rw[List.any_eq_false];intro x hx;simp[e x hx]
  rw[this];rfl
 |some i=>
  obtain⟨F,h2,_⟩:=aG.1 e;have:l.any p=true:=eF.2 ⟨_,eL F,rv⟩;rw[this];simp
def lD{P:Prop}(h:P:=by
 go_enter func176,ntmps176;go_wp2_with (go_at_call 173;refine KM.get.mono ?_;rintro e w1 ⟨rfl,ZZ⟩);go_ret;exact⟨rfl,(di _ _ _).trans ZZ⟩):P:=h
theorem alK (h:ZN w0 w X K s vT vS)(hK:YV K)(a f:Int×Int)(hv:YX K.vars.length a.1)(ha:a.2=0\/a.2=1){N B5 B6:Nat}(hN:ak w N 0 (ai X.b))(h5:ak w B5 0 (.func (.func 173) #[] #[ai N]))(h6:ak w B6 0 (Y f.1))(bV:ak w B6 1 (Y f.2)):aq 176 #[Mo a,ai B6,ai B5] w (au w (.bool (decide (a≠f)&&Uh s a))):=by
 obtain⟨R,hR⟩:∃R,(decide (a≠f)&&Uh s a)=R:=⟨_,rfl⟩;rw[hR];have HR:Hid ((decide (a≠f)&&Uh s a)=R):=hR;have g:=di w (.cells #[Y a.1,Y a.2] 203) none;have KM:=ZQ.mk (acs (h.grown g) hK a hv ha (g.cell hN pG));have q5:=g.cell h5 pG;have q6:=g.cell h6 pG;have cw:=g.cell bV pG;have bQ:=gp w (.cells #[Y a.1,Y a.2] 203);have b0:=Z0 bQ 0 _ rfl;have b1:=Z0 bQ 1 _ rfl;unfold Mo at *;clear h hv ha hN h5 h6 bV hR g bQ;by_cases c1:a.1=f.1
 ·by_cases c2:a.2=f.2
  ·have bc:R=false:=by
    rw[<-HR.out];have:a=f:=Prod.ext c1 c2;simp[this]
   have aY:(a.1==f.1)=true:=ry;have bn:(a.2==f.2)=true:=th;clear c1 c2;go_enter func176,ntmps176;go_wp2;go_ret;rw[bc];exact⟨rfl,di _ _ _⟩
  ·have bc:R=Uh s a:=by
    rw[<-HR.out];have:a≠f:=λe=>c2 (by rw[e])
    simp[this]
   have aY:(a.1==f.1)=true:=ry;have bn:(a.2==f.2)=false:=th;rw[<-bc]at KM;clear c1 c2 bc;exact lD
 ·have bc:R=Uh s a:=by
   rw[<-HR.out];have:a≠f:=λe=>c1 (by rw[e])
   simp[this]
  have aY:(a.1==f.1)=false:=ry;rw[<-bc]at KM;clear c1 bc;exact lD
theorem alL {p:Int×Int->Bool}{gt ct:Nat}{l:List (Int×Int)}(hT:YR w (aj gt l.length ct) gt ct P7 l)(a7:l.length<=3000){B6 B5:Nat}(KF:∀a∈l,∀W:A,aB w W->aq 176 #[Mo a,ai B6,ai B5] W λe W'=>e=.returned (.bool (p a))/\aB W W'):aq 175 #[aj gt l.length ct,.func (.func 176) #[] #[ai B6,ai B5]] w (au w (.bool (l.any p))):=by
 have K1:=ZQ.mk (alI hT a7 KF);have HA:=Z8 (alJ p l);clear hT KF;generalize l.any p=B at *;generalize Qk p l=anS at *;go_enter func175,ntmps175;go_wp2_with (go_at_call 174;refine K1.get.mono ?_;rintro e w1 ⟨rfl,ZZ⟩);go_ret;rw[<-HA.out];exact⟨rfl,ZZ⟩
end
variable {w0 w w' aW:A}{X:SL}{K:SK}{s:SS}{vT vS:aF}
theorem CW (hK:YV K){a:Int}:∀(vs:az) {s:SS},Y5 K s->TB s->(∀v∈vs,YX K.vars.length v)->Y5 K (WD K a vs s).2/\TB (WD K a vs s).2:=by
 intro vs
 induction vs with
 |nil=>intro s hs hT _;exact⟨hs,hT⟩
 |cons v vs ih=>
  intro s hs hT hv;have bl:=hv v pG;have q1:=(Mt hK hs bl (D:=TG (s.L v) (Zu a)) C4).1.ok hs;have q2:=Jm hK hs bl (D:=TG (s.L v) (Zu a)) C4 hT;rw[WD];split
  ·simp only[];split
   ·exact ih q1 q2 (λu hu=>hv u rB)
   ·exact⟨q1,q2⟩
  ·exact ih hs hT (λu hu=>hv u rB)
theorem alM (hK:YV K){vars:az}(hv:∀v∈vars,YX K.vars.length v):∀(is:List Nat) {s:SS},Y5 K s->TB s->Y5 K (R8 K vars is s).2/\TB (R8 K vars is s).2:=by
 intro is
 induction is with
 |nil=>intro s hs hT;exact⟨hs,hT⟩
 |cons i is ih=>
  intro s hs hT;have t1:∀(a:Int) {s:SS},Y5 K s->TB s->Y5 K (WD K a (vars.take i) s).2/\TB (WD K a (vars.take i) s).2:=λa {s} F h2=>CW hK _ F h2 (λu hu=>hv u (cy hu))
  have t2:∀(a:Int) {s:SS},Y5 K s->TB s->Y5 K (WD K a (vars.drop (i+1)) s).2/\TB (WD K a (vars.drop (i+1)) s).2:=λa {s} F h2=>CW hK _ F h2 (λu hu=>hv u (cx hu))
  rw[R8];simp only[];have a1:=t1 (s.val (vars.getD i 0)) hs hT;have a2:=t2 ((WD K (s.val (vars.getD i 0)) (vars.take i) s).2.val (vars.getD i 0)) a1.1 a1.2;split
  ·split
   ·split
    ·exact ih a2.1 a2.2
    ·exact a2
   ·exact a1
  ·exact ih hs hT
theorem acv {n i:Nat}(h:i<n):(List.range n).drop i=i::(List.range n).drop (i+1):=by
 rw[aR pX];simp
theorem OV.tail {g cap:Nat}{l:az}{cells:Array aF}(h2:w.heap[g]?=some (.cells cells 3 (0,0)))(h3:∀(j:Nat) (x:Int),l[j]?=some x->cells[j]?=some (Y x))(h4:g∉X.own){i:Nat}(hi:i<l.length)(TD:l.length<=cap){n:Nat}(hn:n=l.length-(i+1)):OV X w (.slice (if cap=i+1 then some (ah g)else some (O g (i+1))) n (cap-(i+1))) (l.drop (i+1)):=by
 subst hn;have a8:(l.drop (i+1)).length=l.length-(i+1):=pG;by_cases c:cap=i+1
 ·left
  refine⟨List.eq_nil_of_length_eq_zero (by rw[a8];omega),(if cap=i+1 then some (ah g)else some (O g (i+1))),cap-(i+1),?_⟩
  rw[show l.length-(i+1)=0 by omega]
 ·right
  refine⟨g,i+1,cap-(i+1),cells,by rw[iQ c,a8],h2,λj x hx=> ?_,h4⟩
  rw[dy]at hx;exact h3 _ _ hx
theorem OV.head {g cap:Nat}{l:az}{cells:Array aF}(h2:w.heap[g]?=some (.cells cells 3 (0,0)))(h3:∀(j:Nat) (x:Int),l[j]?=some x->cells[j]?=some (Y x))(h4:g∉X.own){i:Nat}(hi:i<l.length):OV X w (aj g i cap) (l.take i):=by
 right
 refine⟨g,0,cap,cells,by rw[eP,fH J],h2,λj x hx=> ?_,h4⟩
 rw[ik];rw[dz]at hx;split at hx
 ·exact h3 _ _ hx
 ·cases hx
def acw (w0 w:A)(X:SL)(K:SK)(l:az)(vS:aF)(R:Bool×SS)(vi:aF)(wr:A):Prop:=
 ∃(i:Nat) (s:SS) (vT:aF),i<=l.length/\vi=Y i/\ZN w0 wr X K s vT vS/\Y5 K s/\TB s/\Zy X w wr/\R8 K l ((List.range l.length).drop i) s=R
theorem alN (h:ZN w0 w X K s vT vS)(hK:YV K)(hs:Y5 K s)(hT:TB s){g cap:Nat}{l:az}{cells:Array aF}(h2:w.heap[g]?=some (.cells cells 3 (0,0)))(h3:∀(j:Nat) (x:Int),l[j]?=some x->cells[j]?=some (Y x))(h4:g∉X.own)(TD:l.length<=cap)(hp:∀v∈l,YX K.vars.length v)(a7:l.length<=3000):aq 132 #[ai X.b,aj g l.length cap] w λe w'=>e=.returned (.bool (JF K l s).1)/\(∃ar,ZN w0 w' X K (JF K l s).2 ar vS)/\Zy X w w':=by
 obtain⟨R,hR⟩:∃R,JF K l s=R:=⟨_,rfl⟩;rw[hR];have W6:Hid (acw w0 w X K l vS R (Y 0) w):=⟨0,s,vT,iz _,rfl,h,hs,hT,Zy.refl X w,hR⟩;have H2:=Z8 h2;have H3:=Z8 h3;have H4:=Z8 h4;have HP:=Z8 hp;have HK:=Z8 hK;clear h hs hT h2 h3 h4 hp hK hR;go_enter func132,ntmps132;go_wp2
 go_loopw [9] (λvi wr=>acw w0 w X K l vS R vi wr) (λvi _=>l.length-(intOf vi).toNat)
 case atStart=>exact W6.out
 case round=>
  clear W6;obtain⟨i,si,bK,hi,rfl,YG,aa,Z,Yf,aA⟩:=hrel;by_cases YK:i<l.length
  ·obtain⟨v,ha⟩:∃v,l[i]?=some v:=⟨l[i],aZ YK⟩;have Qw:l.getD i 0=v:=by rw[aN,ha];rfl
   have bg:=Yf.block g _ H2.out H4.out (λ_ _ e=>pL) (λ_ _ e=>pL)
   have k0:ak wr g i (Y v):=Z0 bg _ _ (H3.out i v ha);have bm:=HP.out v (cq ha);have bb:=bm.1;have aK:=bm.2;have X8:(i:Int)<l.length:=J;have Xy:(0:Int)<=i:=J;have b8:(i:Int)<=cap:=J;have cz:(i:Int)+1<=l.length:=J;have cA:(l.length:Int)<=cap:=J;have bM:IntKind.i64.wrap ((i:Int)+1)=(i:Int)+1:=Pq J J;have cC:(0:Int)<=(i:Int)+1:=J;have c6:=YG.f6;have c5:=YG.f5;obtain⟨kv,kf,_,_⟩:=YG.K0 bm;by_cases cf:si.fixed v=true
   ·rw[cf]at kf;obtain⟨a1,a2⟩:=Ff (aa.TP HK.out v);have Yn:Hid ((let k:=WD K (si.val v) (l.take i) si;if k.1 then(let k2:=WD K (k.2.val v) (l.drop (i+1)) k.2;if k2.1 then R8 K l ((List.range l.length).drop (i+1)) k2.2 else k2)else k)=R):=by
     rw[Hid,<-aA,acv YK,R8,Qw];simp only[];rw[iR cf]
    have aX:=CW HK.out (a:=si.val v) (l.take i) aa Z (λu hu=>HP.out u (cy hu))
    have K1:=ZQ.mk (acp (YG.grown (ZG wr none)) HK.out aa Z (a:=si.val v) a1 a2 (OV.head (cap:=cap) (w:=wr.drew) bg H3.out H4.out YK) (λu hu=>HP.out u (cy hu)) (by have:=cY i l;omega))
    generalize aM:WD K (si.val v) (l.take i) si=k at *;have aT:=Z8 bg;have T1:=Z8 Yf;clear YG aa Z Yf aA aM bg;have bW:=Z8 bm;obtain⟨z1,z2⟩:=Ff (aX.1.TP HK.out v)
    cases I:k.1 with
    |false=>
     rw[I]at K1;have Xk:Hid (k=R):=tV;have Vo:R.1=false:=by rw[<-Xk.out];exact I
     clear I Yn aX;go_wp2;refine gM pH ?_
     try(change wpAny _ _ _ _ _ _ _ (World.drew _))
     apply Zr 0 14
     ·exact ji
     (try simp only[Act.put,Z5,Z4,Z2])
     apply Zr 1 15
     ·exact ji
     (try simp only[Act.put,Z5,Z4,Z2])
     apply Zr 2 16
     ·exact ji
     (try simp only[Act.put,Z5,Z4,Z2])
     apply Zr 4 18
     ·exact ji
     (try simp only[Act.put,Z5,Z4,Z2])
     refine iB (rs:=[3]) pH pG ?_;refine gB rfl (λK hK=> ?_) gN
     go_simp;refine hK _ _ ?_;clear hK K;apply Zr 5 19
     ·exact ji
     (try simp only[Act.put,Z5,Z4,Z2])
     refine iB (rs:=[6]) pH pG ?_;refine gB rfl (λK hK=> ?_) gN
     go_simp;refine hK _ _ ?_;clear hK K;apply Zr 7 21
     ·exact ji
     (try simp only[Act.put,Z5,Z4,Z2])
     apply Zr 8 22
     ·exact ji
     (try simp only[Act.put,Z5,Z4,Z2])
     apply Zr 9 23
     ·exact ji
     (try simp only[Act.put,Z5,Z4,Z2])
     apply Zr 10 24
     ·exact ji
     (try simp only[Act.put,Z5,Z4,Z2])
     apply Zr 11 25
     ·exact ji
     (try simp only[Act.put,Z5,Z4,Z2])
     apply Zr 13 27
     ·exact ji
     (try simp only[Act.put,Z5,Z4,Z2])
     apply Zr 16 30
     ·exact ji
     (try simp only[Act.put,Z5,Z4,Z2])
     apply Zr 17 31
     ·exact ji
     (try simp only[Act.put,Z5,Z4,Z2])
     apply Zr 18 32
     ·exact ji
     (try simp only[Act.put,Z5,Z4,Z2])
     refine iB (rs:=[12]) pH pG ?_;refine gB rfl (λK hK=> ?_) gN
     go_simp;refine hK _ _ ?_;clear hK K;apply Zr 14 28
     ·exact ji
     (try simp only[Act.put,Z5,Z4,Z2])
     refine iB (rs:=[15]) pH pG ?_;refine gB rfl (λK hK=> ?_) gN
     go_simp;refine hK _ _ ?_;clear hK K;refine iB (rs:=[19]) pH pG ?_;refine gB rfl (λK hK=> ?_) gN
     go_simp;go_wp2_with ((go_at_call 172;refine K1.get.mono ?_;rintro e w2 ⟨rfl,⟨a6,YM⟩,WR⟩;have cp:=YM.f5;have cr:=(YM.K0 bW.out).1));apply Zr 20 34
     ·exact ji
     (try simp only[Act.put,Z5,Z4,Z2])
     apply X2 21 35
     (try simp only[Act.put,Z5,Z4,Z2])
     apply X2 22 36
     (try simp only[Act.put,Z5,Z4,Z2])
     apply X2 23 37
     (try simp only[Act.put,Z5,Z4,Z2])
     apply X2 24 38
     (try simp only[Act.put,Z5,Z4,Z2])
     apply X2 25 39
     (try simp only[Act.put,Z5,Z4,Z2])
     apply X2 26 40
     (try simp only[Act.put,Z5,Z4,Z2])
     apply X2 27 41
     (try simp only[Act.put,Z5,Z4,Z2])
     apply X2 28 42
     (try simp only[Act.put,Z5,Z4,Z2])
     apply X2 29 43
     (try simp only[Act.put,Z5,Z4,Z2])
     apply X2 30 44
     (try simp only[Act.put,Z5,Z4,Z2])
     apply X2 31 45
     (try simp only[Act.put,Z5,Z4,Z2])
     apply X2 32 46
     (try simp only[Act.put,Z5,Z4,Z2])
     apply X2 33 47
     (try simp only[Act.put,Z5,Z4,Z2])
     apply Zr 34 48
     ·exact ji
     (try simp only[Act.put,Z5,Z4,Z2])
     apply Zr 35 49
     ·exact ji
     (try simp only[Act.put,Z5,Z4,Z2])
     apply Zr 36 50
     ·exact ji
     (try simp only[Act.put,Z5,Z4,Z2])
     refine iF pH ?_ _;go_wp2;go_ret;rw[Vo,<-Xk.out];exact⟨rfl,⟨_,YM⟩,T1.out.trans ((Zy.grown (ZG _ _)).trans WR)⟩
    |true=>
     rw[I]at K1;have Xk:Hid ((let k2:=WD K (k.2.val v) (l.drop (i+1)) k.2;if k2.1 then R8 K l ((List.range l.length).drop (i+1)) k2.2 else k2)=R):=uh
     have K2:=ZQ.mk (λ{W:A} {a6:aF} (q:ZN w0 W X K k.2 a6 vS) (hb:W.heap[g]?=some (.cells cells 3 (0,0)))=>acp q HK.out aX.1 aX.2 (a:=k.2.val v) z1 z2 (OV.tail hb H3.out H4.out YK TD rfl) (λu hu=>HP.out u (cx hu)) pI)
     obtain⟨anY,hA⟩:∃anY,(if cap=i+1 then some ((ah g):Addr)else some (O g (i+1)))=anY:=⟨_,rfl⟩
     rw[hA]at K2;have bY:=CW HK.out (a:=k.2.val v) (l.drop (i+1)) aX.1 aX.2 (λu hu=>HP.out u (cx hu))
     have bZ:=Z8 bY;clear I Yn aX bY;go_wp2;refine gM pH ?_
     try(change wpAny _ _ _ _ _ _ _ (World.drew _))
     apply Zr 0 14
     ·exact ji
     (try simp only[Act.put,Z5,Z4,Z2])
     apply Zr 1 15
     ·exact ji
     (try simp only[Act.put,Z5,Z4,Z2])
     apply Zr 2 16
     ·exact ji
     (try simp only[Act.put,Z5,Z4,Z2])
     apply Zr 4 18
     ·exact ji
     (try simp only[Act.put,Z5,Z4,Z2])
     refine iB (rs:=[3]) pH pG ?_;refine gB rfl (λK hK=> ?_) gN
     go_simp;refine hK _ _ ?_;clear hK K;apply Zr 5 19
     ·exact ji
     (try simp only[Act.put,Z5,Z4,Z2])
     refine iB (rs:=[6]) pH pG ?_;refine gB rfl (λK hK=> ?_) gN
     go_simp;refine hK _ _ ?_;clear hK K;apply Zr 7 21
     ·exact ji
     (try simp only[Act.put,Z5,Z4,Z2])
     apply Zr 8 22
     ·exact ji
     (try simp only[Act.put,Z5,Z4,Z2])
     apply Zr 9 23
     ·exact ji
     (try simp only[Act.put,Z5,Z4,Z2])
     apply Zr 10 24
     ·exact ji
     (try simp only[Act.put,Z5,Z4,Z2])
     apply Zr 11 25
     ·exact ji
     (try simp only[Act.put,Z5,Z4,Z2])
     apply Zr 13 27
     ·exact ji
     (try simp only[Act.put,Z5,Z4,Z2])
     apply Zr 16 30
     ·exact ji
     (try simp only[Act.put,Z5,Z4,Z2])
     apply Zr 17 31
     ·exact ji
     (try simp only[Act.put,Z5,Z4,Z2])
     apply Zr 18 32
     ·exact ji
     (try simp only[Act.put,Z5,Z4,Z2])
     refine iB (rs:=[12]) pH pG ?_;refine gB rfl (λK hK=> ?_) gN
     go_simp;refine hK _ _ ?_;clear hK K;apply Zr 14 28
     ·exact ji
     (try simp only[Act.put,Z5,Z4,Z2])
     refine iB (rs:=[15]) pH pG ?_;refine gB rfl (λK hK=> ?_) gN
     go_simp;refine hK _ _ ?_;clear hK K;refine iB (rs:=[19]) pH pG ?_;refine gB rfl (λK hK=> ?_) gN
     go_simp;go_wp2_with ((go_at_call 172;refine K1.get.mono ?_;rintro e w2 ⟨rfl,⟨a6,YM⟩,WR⟩;have cp:=YM.f5;have cr:=(YM.K0 bW.out).1));apply Zr 20 34
     ·exact ji
     (try simp only[Act.put,Z5,Z4,Z2])
     apply Zr 21 35
     ·exact ji
     (try simp only[Act.put,Z5,Z4,Z2])
     apply Zr 22 36
     ·exact ji
     (try simp only[Act.put,Z5,Z4,Z2])
     apply Zr 23 37
     ·exact ji
     (try simp only[Act.put,Z5,Z4,Z2])
     apply Zr 24 38
     ·exact ji
     (try simp only[Act.put,Z5,Z4,Z2])
     apply Zr 26 40
     ·exact ji
     (try simp only[Act.put,Z5,Z4,Z2])
     apply Zr 29 43
     ·exact ji
     (try simp only[Act.put,Z5,Z4,Z2])
     apply Zr 30 44
     ·exact ji
     (try simp only[Act.put,Z5,Z4,Z2])
     apply Zr 31 45
     ·exact ji
     (try simp only[Act.put,Z5,Z4,Z2])
     apply Zr 32 46
     ·exact ji
     (try simp only[Act.put,Z5,Z4,Z2])
     refine iB (rs:=[25]) pH pG ?_;refine gB rfl (λK hK=> ?_) gN
     go_simp;refine hK _ _ ?_;clear hK K;apply Zr 27 41
     ·exact ji
     (try simp only[Act.put,Z5,Z4,Z2])
     refine iB (rs:=[28]) pH pG ?_;refine gB rfl (λK hK=> ?_) gN
     go_simp;refine hK _ _ ?_;clear hK K
     cases V3:(WD K (k.2.val v) (l.drop (i+1)) k.2).1 with
     |false=>
      have bG:Hid (WD K (k.2.val v) (l.drop (i+1)) k.2=R):=by rw[Hid,<-Xk.out];simp only[V3];rfl
      have Vo:R.1=false:=by rw[<-bG.out];exact V3
      rw[V3]at K2;clear V3 Xk;refine iB (rs:=[33]) pH pG ?_;refine gB rfl (λK hK=> ?_) gN
      go_simp;go_wp2_with ((go_at_call 172;refine(K2.get YM (WR.block g _ aT.out H4.out (λ_ _ e=>pL) (λ_ _ e=>pL))).mono ?_;rintro e w3 ⟨rfl,Yh,TH⟩))
      apply Zr 34 48
      ·exact ji
      (try simp only[Act.put,Z5,Z4,Z2])
      apply Zr 35 49
      ·exact ji
      (try simp only[Act.put,Z5,Z4,Z2])
      apply Zr 36 50
      ·exact ji
      (try simp only[Act.put,Z5,Z4,Z2])
      refine iF pH ?_ _;go_wp2;go_ret;rw[Vo,<-bG.out];exact⟨rfl,Yh,T1.out.trans (((Zy.grown (ZG _ _)).trans WR).trans TH)⟩
     |true=>
      have bG:Hid (R8 K l ((List.range l.length).drop (i+1)) (WD K (k.2.val v) (l.drop (i+1)) k.2).2=R):=by rw[Hid,<-Xk.out];simp only[V3,iP]
      rw[V3]at K2;clear V3 Xk;refine iB (rs:=[33]) pH pG ?_;refine gB rfl (λK hK=> ?_) gN
      go_simp;go_wp2_with ((go_at_call 172;refine(K2.get YM (WR.block g _ aT.out H4.out (λ_ _ e=>pL) (λ_ _ e=>pL))).mono ?_;rintro e w3 ⟨rfl,Yh,TH⟩))
      apply Zr 34 48
      ·exact ji
      (try simp only[Act.put,Z5,Z4,Z2])
      apply Zr 35 49
      ·exact ji
      (try simp only[Act.put,Z5,Z4,Z2])
      apply Zr 36 50
      ·exact ji
      (try simp only[Act.put,Z5,Z4,Z2])
      refine iF pH ?_ _;go_wp2;go_roundw
      case rel=>
       obtain⟨b7,Yh⟩:=Yh;exact⟨i+1,_,b7,J,pQ,Yh,bZ.out.1,bZ.out.2,T1.out.trans (((Zy.grown (ZG _ _)).trans WR).trans TH),bG.out⟩
      case measure=>simp[intOf];omega
   ·have bX:si.fixed v=false:=by simpa using cf
    rw[bX]at kf;have Xk:Hid (R8 K l ((List.range l.length).drop (i+1)) si=R):=by
     rw[Hid,<-aA,acv YK,R8,Qw];simp only[];rw[iQ cf]
    have O7:=Z8 (YG.grown (ZG wr none));have aQ:Hid (Y5 K si/\TB si):=⟨aa,Z⟩;have T1:=Z8 Yf;clear YG aa Z Yf aA bg cf bX;go_wp2;refine gM pH ?_
    try(change wpAny _ _ _ _ _ _ _ (World.drew _))
    apply Zr 0 14
    ·exact ji
    (try simp only[Act.put,Z5,Z4,Z2])
    apply Zr 1 15
    ·exact ji
    (try simp only[Act.put,Z5,Z4,Z2])
    apply Zr 2 16
    ·exact ji
    (try simp only[Act.put,Z5,Z4,Z2])
    apply Zr 4 18
    ·exact ji
    (try simp only[Act.put,Z5,Z4,Z2])
    refine iB (rs:=[3]) pH pG ?_;refine gB rfl (λK hK=> ?_) gN
    go_simp;refine hK _ _ ?_;clear hK K;apply Zr 5 19
    ·exact ji
    (try simp only[Act.put,Z5,Z4,Z2])
    refine iB (rs:=[6]) pH pG ?_;refine gB rfl (λK hK=> ?_) gN
    go_simp;refine hK _ _ ?_;clear hK K;apply Zr 7 21
    ·exact ji
    (try simp only[Act.put,Z5,Z4,Z2])
    apply X2 8 22
    (try simp only[Act.put,Z5,Z4,Z2])
    apply X2 9 23
    (try simp only[Act.put,Z5,Z4,Z2])
    apply X2 10 24
    (try simp only[Act.put,Z5,Z4,Z2])
    apply X2 11 25
    (try simp only[Act.put,Z5,Z4,Z2])
    apply X2 12 26
    (try simp only[Act.put,Z5,Z4,Z2])
    apply X2 13 27
    (try simp only[Act.put,Z5,Z4,Z2])
    apply X2 14 28
    (try simp only[Act.put,Z5,Z4,Z2])
    apply X2 15 29
    (try simp only[Act.put,Z5,Z4,Z2])
    apply X2 16 30
    (try simp only[Act.put,Z5,Z4,Z2])
    apply X2 17 31
    (try simp only[Act.put,Z5,Z4,Z2])
    apply X2 18 32
    (try simp only[Act.put,Z5,Z4,Z2])
    apply X2 19 33
    (try simp only[Act.put,Z5,Z4,Z2])
    apply X2 20 34
    (try simp only[Act.put,Z5,Z4,Z2])
    apply X2 21 35
    (try simp only[Act.put,Z5,Z4,Z2])
    apply X2 22 36
    (try simp only[Act.put,Z5,Z4,Z2])
    apply X2 23 37
    (try simp only[Act.put,Z5,Z4,Z2])
    apply X2 24 38
    (try simp only[Act.put,Z5,Z4,Z2])
    apply X2 25 39
    (try simp only[Act.put,Z5,Z4,Z2])
    apply X2 26 40
    (try simp only[Act.put,Z5,Z4,Z2])
    apply X2 27 41
    (try simp only[Act.put,Z5,Z4,Z2])
    apply X2 28 42
    (try simp only[Act.put,Z5,Z4,Z2])
    apply X2 29 43
    (try simp only[Act.put,Z5,Z4,Z2])
    apply X2 30 44
    (try simp only[Act.put,Z5,Z4,Z2])
    apply X2 31 45
    (try simp only[Act.put,Z5,Z4,Z2])
    apply X2 32 46
    (try simp only[Act.put,Z5,Z4,Z2])
    apply X2 33 47
    (try simp only[Act.put,Z5,Z4,Z2])
    apply X2 34 48
    (try simp only[Act.put,Z5,Z4,Z2])
    apply X2 35 49
    (try simp only[Act.put,Z5,Z4,Z2])
    apply Zr 36 50
    ·exact ji
    (try simp only[Act.put,Z5,Z4,Z2])
    refine iF pH ?_ _;go_wp2;go_roundw
    case rel=>exact⟨i+1,si,bK,J,pQ,O7.out,aQ.out.1,aQ.out.2,T1.out.trans (Zy.grown (ZG _ _)),Xk.out⟩
    case measure=>simp[intOf];omega
  ·obtain rfl:i=l.length:=J;have e:R=(true,si):=by rw[<-aA,bF pG];rfl
   exact mU
end Go.Proofs.YthpcbbnabnlanaaGreatDoor
