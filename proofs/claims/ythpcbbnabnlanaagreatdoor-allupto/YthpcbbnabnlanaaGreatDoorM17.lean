import Derived.Test.YthpcbbnabnlanaaGreatDoorM13
import Derived.Deep.RegionLaw
import Derived.Deep.Onto
import Derived.Deep.LoopGhost
namespace Go.Proofs.YthpcbbnabnlanaaGreatDoor
set_option maxHeartbeats 2000000
set_option maxRecDepth 100000
open Go.Proofs.Tryz
open Go.RowKit
set_option linter.all false
section
attribute [local go_sem ↓] Go.wp_at_zero Go.wp_at_succ
theorem Eb {R:YL}(h:R.pv.oneCell'=true):∀u∈[Value.int .u8 R.sort,R.pv,.string R.rel,Y R.n,Y R.v,Y R.w,Y R.x],u.oneCell'=true:=by
 intro u hu;simp at hu;rcases hu with rfl|rfl|rfl|rfl|rfl|rfl|rfl<;>first|exact h|rfl
theorem Gg {w:A}{B:Nat}{e:TypeId}{s n:Nat}{v:aF}{xs:ay}(h:w.ownsRow B e s v n xs):v.oneCell'=true:=by
 obtain⟨a,cap,rfl⟩:=Ls h;rfl
def BB (vars:List Y7)(nr:Nat)(kw:ZY)(ts:List Sl)(num:ZY)(st:Zv):Zv:=
 ZE (Yg (YU num.s) 1000000) 5 num.line (NV vars 1 ts (ZE (decide (16<=(nr:Int))) 6 kw.line st))
def nT{P:Prop}(h:P:=by
 intro wA z;have g0:wj.grownBy (wj.alloc (.cells #[.int .u8 R.sort,R.pv,.string R.rel,Y R.n,Y R.v,Y R.w,Y R.x] 176)).drew none:=(di wj _ none).trans (ZG _ none);have Vb:some bm≠vr.ownBlock:=λe=>by have:=(U2.out.RM.lt _ e.symm).1;have:=U2.out.UL;omega
 exact⟨(z.frozen_far (O bm 3) (dH U2.out.tk.Ya g0.size) Vb).trans ((g0.frozen_far (O bm 3) U2.out.tk.Ya pG).trans U2.out.f3),z.cell (g0.cell U2.out.m3 pG) Vb⟩):P:=h
def jq{P:Prop}(h:P:=by
 exact nT):P:=h
theorem agw (w0:A)(Z bm gt Z1 B:Nat)(U:List ZY)(vv vl vr:aF)(vars:List Y7)(lists:List YZ)(rules:List YL)(i m q:Nat)(kind line:Int)(kw:ZY)(t:Sl)(ts:List Sl)(rel num:ZY)(h:Md w0 Z bm gt Z1 B U vv vl vr vars lists rules i kind line)(I:U[i]?=some kw)(V6:kw.s=⟨#[108,105,110]⟩)(cR:i<=q)(ht:Pm U (i+1) t m)(bW:t.neg=false)(Xm:LI U m ts q)(hrel:U[q]?=some rel)(aM:rel.s.toList≠[43])(WI:rel.s.toList≠[45])(aa:U[q+1]?=some num)(bj:UU num.s):aq 54 #[ai Z] w0 λe w'=>e=.returned (.tuple #[])/\Um B [Z,bm] w0 w'/\
   ∃P2 pv,Md w' Z bm gt Z1 B U vv vl P2 vars lists (rules++[⟨105,(t::ts).map (SF vars),pv,rel.s,YU num.s,0,0,0⟩]) (q+2) (BB vars rules.length kw (t::ts) num (kind,line)).1 (BB vars rules.length kw (t::ts) num (kind,line)).2:=by
 have av:=Z8 (iG ht (iG bW (iG Xm (iG hrel (iG aM (iG WI (iG aa bj)))))));have cB:=(VE aa).2.2;clear ht bW Xm hrel aM WI aa bj;obtain⟨i0,Y8,Ze,Zq,Zn⟩:=iE Gk;obtain⟨k1,k2,k3⟩:=VE I;have hn:=h.hn;have c0:=h.wk.c0;have H0:=Z8 h;have aH:=h.ctx J;have bI:=Z8 (λb (hb:w0.heap.size<=b)=>aH.LJ hb)
 have Xz:=SG aH J;rw[k1,V6]at Xz;have UM:=Z8 Xz;have bJ:=Z8 k2;clear Xz h aH k1 k2 I V6;go_enter func54,ntmps54;go_wp2_with fail;refine(Xd UM).mono ?_;rintro e w1 ⟨rfl,ZZ,Y1⟩;have aB:=Z8 (Y9.Pe (S:=[Z]) ZZ (λk e=>by cases e;simp))
 have M1:=H0.out.but aB.out Y1.wk (iw _);obtain⟨ar,ct,Wb⟩:=Ls M1.RM;obtain⟨d0,d1,_,_,e1,_,_,_⟩:=Y1.wk;have m3:=M1.m3;have ZP:=M1.Uq;rw[Wb]at m3;have J8:=Z8 Wb;have aV:=λW o u b' o' h=>YJ W Z o u b' o' h
 have aI:=Re (M1.ctx J) k3 (decide (16<=(rules.length:Int))) 6;rw[bJ.out]at aI;have Tz:=Z8 aI;clear ZZ Y1 c0 UM Wb M1 aI;go_wp2_with fail;refine(Xd Tz).mono ?_;rintro e w2 ⟨rfl,ZU,XJ⟩;have Vt:=Z8 (aB.out.walk ZU);have Uc:=Z8 XJ.wk;have YK:=XJ.wk.lt;clear d0 d1 e1 m3 Tz aB;obtain⟨d0,d1,_,_,e1,_,_,_⟩:=XJ.wk;clear ZU XJ;go_wp2_with fail;have a7:=Z8 ((Vt.out.set (k:=Z) (.inl pG) 1 (Y ((i:Int)+1))).alloc (.cells #[.int .u8 (105),af,.string ⟨#[]⟩,Y 0,Y 0,Y 0,Y 0] 176));have aG:=Z8 ((Uc.out.Wv ((i:Int)+1)).YQ (di _ (.cells #[.int .u8 (105),af,.string ⟨#[]⟩,Y 0,Y 0,Y 0,Y 0] 176) none) pG);have ak:=Z8 (Gl (w2.setCell (O Z 1) (Y ((i:Int)+1))) (105) 176);have aY:(w2.setCell (O Z 1) (Y ((i:Int)+1))).heap.size=w2.heap.size:=pV;rw[aY]at ak;have Ww:w0.heap.size<=w2.heap.size:=Vt.out.size;have WL:(w2.heap.size:Nat)≠Z:=J;generalize ((w2.setCell (O Z 1) (Y ((i:Int)+1))).alloc (.cells #[.int .u8 (105),af,.string ⟨#[]⟩,Y 0,Y 0,Y 0,Y 0] 176))=wa at a7 aG ak⊢;clear aY;generalize w2.heap.size=br at WL Ww ak YK⊢;clear d0 d1 e1 Uc Vt;have HF:=Z8 (bI.out br Ww);have Ma:=H0.out.but (j:=i+1) a7.out aG.out J;have hs:=xo U vars Z bm gt Z1 br vv (i+1) m q t ts rel num _ _ wa (Ma.ctx J) HF.out av.out.1 av.out.2.1 av.out.2.2.1 av.out.2.2.2.1 av.out.2.2.2.2.1 av.out.2.2.2.2.2.1 av.out.2.2.2.2.2.2.1 av.out.2.2.2.2.2.2.2 _ (ak.out.El rfl _ ak.out.lt);refine hs.mono ?_;rintro e wj ⟨rfl,bt,NF,vL,QB,V7,aJ⟩;have RL:=Z8 (a7.out.sub bt (λb hb=>by simp at hb;rcases hb with rfl|rfl;exact .inl pG;exact .inr Ww))
 have Pd:=Z8 NF.wk;have N7:=Z8 (ak.out.Ek QB V7 aJ);have Kv:=Z8 (QB.own.mono (base':=B) (by have:=Ma.hB;omega));obtain⟨R,hR⟩:∃R:YL,R=⟨105,(t::ts).map (SF vars),vL,rel.s,YU num.s,0,0,0⟩:=⟨_,rfl⟩;have J7:Hid (Br wj br R):=tC;have QQ:Hid (wj.ownsRow B 183 2 R.pv R.parts.length (Un R.parts)):=uB;have Xu:=Z8 hR;clear Ma hs bt NF QB V7 aJ N7 Kv hR;go_wp2;have Mj:=H0.out.but (j:=q+2) RL.out Pd.out J;obtain⟨r0,r1,r2,r3,r4,r5,r6,rz,rl⟩:=J7.out;have m3:=Mj.m3;have J6:=Mj.f3;have Gp:=Mj.tk.Ya;have U2:=Z8 Mj;have YD:=Z8 (Mj.RM.kept ((di wj (.cells #[.int .u8 R.sort,R.pv,.string R.rel,Y R.n,Y R.v,Y R.w,Y R.x] 176) none).trans (ZG _ none)) (by cases vr.ownBlock with
  |none=>exact .inl rfl
  |some g=>exact .inr pG))
 have YF:Hid (∀jj u,[Value.int .u8 R.sort,R.pv,.string R.rel,Y R.n,Y R.v,Y R.w,Y R.x][jj]?=some u->(wj.alloc (.cells #[.int .u8 R.sort,R.pv,.string R.rel,Y R.n,Y R.v,Y R.w,Y R.x] 176)).drew.cell? (((ah wj.heap.size):Addr).add jj)=some u):=
  World.news_of_block (cs:=#[.int .u8 R.sort,R.pv,.string R.rel,Y R.n,Y R.v,Y R.w,Y R.x]) (t:=176) (fr:=(0,0)) (gp wj _)
 have WK:Hid (∀wA,(wj.alloc (.cells #[.int .u8 R.sort,R.pv,.string R.rel,Y R.n,Y R.v,Y R.w,Y R.x] 176)).drew.grownBy wA vr.ownBlock->wA.frozen? (O bm 3)=false/\wA.cell? (O bm 3)=some vr):=by
  exact jq
 have Kb:B<=wj.heap.size:=Mj.hB;have Ea:rules.length<=2000:=qF;have ND:Hid (R.pv.oneCell'=true):=Gg QQ.out;clear Mj rz;go_region_law ((refine step_append_lies _ p8 _ _ 114 p8 B 176 i0 (.agg #[.int .u8 0,af,.string .empty,Y 0,Y 0,Y 0,Y 0]) 7 80 underlying114 Y8 Ze Zq Zn rfl pF vr rules.length (NK rules) p8 YD.out (ah wj.heap.size) 1 1 [.int .u8 R.sort,R.pv,.string R.rel,Y R.n,Y R.v,Y R.w,Y R.x] p8 rfl YF.out (Eb ND.out) pF pK J pI _ rfl ?_;intro gA XC wA YT Zo XL Xq;obtain⟨q1,q2⟩:=WK.out wA Zo))
 all_goals
  have HP:=Z8 (U2.out.Em (x:=R) qF QQ.out YT Zo);clear YD YF WK YT Zo XL Xq m3 J6 r0 r1 r2 r3 r4 r5 r6 rl;go_wp2;go_end0;refine⟨rfl,(RL.out.IH H0.out.hB (λk I=>by simp at I;simp[I])).trans HP.out.2,?_⟩
  have F:=HP.out.1;rw[Xu.out]at F;exact⟨_,_,F⟩
end
section
attribute [local go_sem ↓] Go.wp_at_zero Go.wp_at_succ
def D9 (vars:List Y7)(t:ZY)(st:Zv):Zv:=(Ez vars t.s st.1,Ey vars t.s st.1 t.line st.2)
def BA (vars:List Y7)(nr:Nat)(kw nm:ZY)(ts:List Sl)(num:ZY)(st:Zv):Zv:=
 ZE (Yg (YU num.s) 1000000) 5 num.line (NV vars 1 ts (D9 vars nm (ZE (decide (16<=(nr:Int))) 6 kw.line st)))
theorem agx (w0:A)(Z bm gt Z1 B:Nat)(U:List ZY)(vv vl vr:aF)(vars:List Y7)(lists:List YZ)(rules:List YL)(i m q:Nat)(kind line:Int)(kw nm:ZY)(t:Sl)(ts:List Sl)(rel num:ZY)(h:Md w0 Z bm gt Z1 B U vv vl vr vars lists rules i kind line)(I:U[i]?=some kw)(V6:kw.s=⟨#[119,104,101,110]⟩)(bf:U[i+1]?=some nm)(cR:i+3<=q)(ht:Pm U (i+3) t m)(bW:t.neg=false)(Xm:LI U m ts q)(hrel:U[q]?=some rel)(aM:rel.s.toList≠[43])(WI:rel.s.toList≠[45])(aa:U[q+1]?=some num)(bj:UU num.s):aq 54 #[ai Z] w0 λe w'=>e=.returned (.tuple #[])/\Um B [Z,bm] w0 w'/\
   ∃P2 pv,Md w' Z bm gt Z1 B U vv vl P2 vars lists (rules++[⟨119,(t::ts).map (SF vars),pv,rel.s,YU num.s,Y6 vars nm.s,0,0⟩]) (q+2) (BA vars rules.length kw nm (t::ts) num (kind,line)).1 (BA vars rules.length kw nm (t::ts) num (kind,line)).2:=by
 have av:=Z8 (iG ht (iG bW (iG Xm (iG hrel (iG aM (iG WI (iG aa bj)))))));have cB:=(VE aa).2.2;obtain⟨n1,n2,n3⟩:=VE bf;have HN:=Z8 (iG n1 n2);clear ht bW Xm hrel aM WI aa bj bf n1 n2;obtain⟨i0,Y8,Ze,Zq,Zn⟩:=iE Gk;obtain⟨k1,k2,k3⟩:=VE I;have hn:=h.hn;have c0:=h.wk.c0;have H0:=Z8 h;have aH:=h.ctx J;have bI:=Z8 (λb (hb:w0.heap.size<=b)=>aH.LJ hb)
 have Xz:=SG aH J;rw[k1,V6]at Xz;have UM:=Z8 Xz;have bJ:=Z8 k2;clear Xz h aH k1 k2 I V6;go_enter func54,ntmps54;go_wp2_with fail;refine(Xd UM).mono ?_;rintro e w1 ⟨rfl,ZZ,Y1⟩;have aB:=Z8 (Y9.Pe (S:=[Z]) ZZ (λk e=>by cases e;simp))
 have M1:=H0.out.but aB.out Y1.wk (iw _);obtain⟨ar,ct,Wb⟩:=Ls M1.RM;obtain⟨d0,d1,_,_,e1,_,_,_⟩:=Y1.wk;have m3:=M1.m3;have ZP:=M1.Uq;rw[Wb]at m3;have J8:=Z8 Wb;have aV:=λW o u b' o' h=>YJ W Z o u b' o' h
 have aI:=Re (M1.ctx J) k3 (decide (16<=(rules.length:Int))) 6;rw[bJ.out]at aI;have Tz:=Z8 aI;clear ZZ Y1 c0 UM Wb M1 aI;go_wp2_with fail;refine(Xd Tz).mono ?_;rintro e w2 ⟨rfl,ZU,XJ⟩;have Vt:=Z8 (aB.out.walk ZU);have Uc:=Z8 XJ.wk;have YK:=XJ.wk.lt;clear d0 d1 e1 m3 Tz aB;obtain⟨d0,d1,_,_,e1,_,_,_⟩:=XJ.wk;clear ZU XJ;go_wp2_with fail;have a7:=Z8 ((Vt.out.set (k:=Z) (.inl pG) 1 (Y ((i:Int)+1))).alloc (.cells #[.int .u8 (((ByteArray.mk #[119,104,101,110])[0].toNat:Int)),af,.string ⟨#[]⟩,Y 0,Y 0,Y 0,Y 0] 176));have aG:=Z8 ((Uc.out.Wv ((i:Int)+1)).YQ (di _ (.cells #[.int .u8 (((ByteArray.mk #[119,104,101,110])[0].toNat:Int)),af,.string ⟨#[]⟩,Y 0,Y 0,Y 0,Y 0] 176) none) pG);have ak:=Z8 (Gl (w2.setCell (O Z 1) (Y ((i:Int)+1))) (((ByteArray.mk #[119,104,101,110])[0].toNat:Int)) 176);have aY:(w2.setCell (O Z 1) (Y ((i:Int)+1))).heap.size=w2.heap.size:=pV;rw[aY]at ak;have Ww:w0.heap.size<=w2.heap.size:=Vt.out.size;have WL:(w2.heap.size:Nat)≠Z:=J;generalize ((w2.setCell (O Z 1) (Y ((i:Int)+1))).alloc (.cells #[.int .u8 (((ByteArray.mk #[119,104,101,110])[0].toNat:Int)),af,.string ⟨#[]⟩,Y 0,Y 0,Y 0,Y 0] 176))=wa at a7 aG ak⊢;clear aY;generalize w2.heap.size=br at WL Ww ak YK⊢;clear d0 d1 e1 Uc Vt;have HF:=Z8 (bI.out br Ww);have Ma:=H0.out.but (j:=i+1) a7.out aG.out J;have hu:=GJ (Ma.ctx J) n3;rw[HN.out.1,HN.out.2]at hu;refine hu.mono ?_;rintro e wb ⟨rfl,aQ,bF⟩;have bE:=Z8 (a7.out.walk aQ);have az:=ak.out.YQ aQ pU;have bC:=Z8 az;have bS:=Z8 bF.wk;obtain⟨d0,d1,_,_,e1,_,_,_⟩:=bF.wk;have r4:=az.c4;have rz:=az.fz 4;obtain⟨X,hX⟩:∃x,Y6 vars nm.s=x:=⟨_,rfl⟩;rw[hX];have HX:=Z8 hX;have cM:=λW o u b' o' h=>YJ W br o u b' o' h
 clear bF aQ hu Ma a7 aG ak hX az;go_wp2_with fail;have bG:=Z8 ((bE.out.set (k:=br) (.inr Ww) 4 (Y X)).set (k:=Z) (.inl pG) 1 (Y ((i:Int)+1+1+1)));have bY:=Z8 ((bS.out.YQ (ZC wb br 4 (Y X)) (by simpa using λe:Z=br=>WL e.symm)).Wv ((i:Int)+1+1+1))
 have aA:=Z8 ((bC.out.Lx X).YQ (ZC _ Z 1 (Y ((i:Int)+1+1+1))) pU);generalize ((wb.setCell (O br 4) (Y X)).setCell (O Z 1) (Y ((i:Int)+1+1+1)))=wc at bG bY aA⊢;clear d0 d1 e1 r4 rz bE bS bC;have Mc:=H0.out.but (j:=i+3) bG.out bY.out J;have hs:=xo U vars Z bm gt Z1 br vv (i+3) m q t ts rel num _ _ wc (Mc.ctx J) HF.out av.out.1 av.out.2.1 av.out.2.2.1 av.out.2.2.2.1 av.out.2.2.2.2.1 av.out.2.2.2.2.2.1 av.out.2.2.2.2.2.2.1 av.out.2.2.2.2.2.2.2 _ (aA.out.El rfl _ aA.out.lt);refine hs.mono ?_;rintro e wj ⟨rfl,bt,NF,vL,QB,V7,aJ⟩;have RL:=Z8 (bG.out.sub bt (λb hb=>by simp at hb;rcases hb with rfl|rfl;exact .inl pG;exact .inr Ww))
 have Pd:=Z8 NF.wk;have N7:=Z8 (aA.out.Ek QB V7 aJ);have Kv:=Z8 (QB.own.mono (base':=B) (by have:=Mc.hB;omega));obtain⟨R,hR⟩:∃R:YL,R=⟨119,(t::ts).map (SF vars),vL,rel.s,YU num.s,X,0,0⟩:=⟨_,rfl⟩;have J7:Hid (Br wj br R):=tC;have QQ:Hid (wj.ownsRow B 183 2 R.pv R.parts.length (Un R.parts)):=uB;have Xu:=Z8 hR;clear Mc hs bt NF QB V7 aJ N7 Kv hR;go_wp2;have Mj:=H0.out.but (j:=q+2) RL.out Pd.out J;obtain⟨r0,r1,r2,r3,r4,r5,r6,rz,rl⟩:=J7.out;have m3:=Mj.m3;have J6:=Mj.f3;have Gp:=Mj.tk.Ya;have U2:=Z8 Mj;have YD:=Z8 (Mj.RM.kept ((di wj (.cells #[.int .u8 R.sort,R.pv,.string R.rel,Y R.n,Y R.v,Y R.w,Y R.x] 176) none).trans (ZG _ none)) (by cases vr.ownBlock with
  |none=>exact .inl rfl
  |some g=>exact .inr pG))
 have YF:Hid (∀jj u,[Value.int .u8 R.sort,R.pv,.string R.rel,Y R.n,Y R.v,Y R.w,Y R.x][jj]?=some u->(wj.alloc (.cells #[.int .u8 R.sort,R.pv,.string R.rel,Y R.n,Y R.v,Y R.w,Y R.x] 176)).drew.cell? (((ah wj.heap.size):Addr).add jj)=some u):=
  World.news_of_block (cs:=#[.int .u8 R.sort,R.pv,.string R.rel,Y R.n,Y R.v,Y R.w,Y R.x]) (t:=176) (fr:=(0,0)) (gp wj _)
 have WK:Hid (∀wA,(wj.alloc (.cells #[.int .u8 R.sort,R.pv,.string R.rel,Y R.n,Y R.v,Y R.w,Y R.x] 176)).drew.grownBy wA vr.ownBlock->wA.frozen? (O bm 3)=false/\wA.cell? (O bm 3)=some vr):=by
  exact jq
 have Kb:B<=wj.heap.size:=Mj.hB;have Ea:rules.length<=2000:=qF;have ND:Hid (R.pv.oneCell'=true):=Gg QQ.out;clear Mj rz;go_region_law ((refine step_append_lies _ p8 _ _ 114 p8 B 176 i0 (.agg #[.int .u8 0,af,.string .empty,Y 0,Y 0,Y 0,Y 0]) 7 80 underlying114 Y8 Ze Zq Zn rfl pF vr rules.length (NK rules) p8 YD.out (ah wj.heap.size) 1 1 [.int .u8 R.sort,R.pv,.string R.rel,Y R.n,Y R.v,Y R.w,Y R.x] p8 rfl YF.out (Eb ND.out) pF pK J pI _ rfl ?_;intro gA XC wA YT Zo XL Xq;obtain⟨q1,q2⟩:=WK.out wA Zo))
 all_goals
  have HP:=Z8 (U2.out.Em (x:=R) qF QQ.out YT Zo);clear YD YF WK YT Zo XL Xq m3 J6 r0 r1 r2 r3 r4 r5 r6 rl;go_wp2;go_end0;refine⟨rfl,(RL.out.IH H0.out.hB (λk I=>by simp at I;simp[I])).trans HP.out.2,?_⟩
  have F:=HP.out.1;rw[Xu.out,<-HX.out]at F;exact⟨_,_,F⟩
end
section
attribute [local go_sem ↓] Go.wp_at_zero Go.wp_at_succ
def Bz (vars:List Y7)(lists:List YZ)(nr:Nat)(kw nl np ne:ZY)(st:Zv):Zv:=
 ZE (decide (Y6 vars ne.s<0)) 4 ne.line (ZE (decide (Y6 vars np.s<0)) 4 np.line (ZE (decide (NI lists nl.s<0)) 4 nl.line (ZE (decide (16<=(nr:Int))) 6 kw.line st)))
theorem agy (w0:A)(Z bm gt Z1 B:Nat)(U:List ZY)(vv vl vr:aF)(vars:List Y7)(lists:List YZ)(rules:List YL)(i:Nat)(kind line:Int)(kw nl np ne:ZY)(h:Md w0 Z bm gt Z1 B U vv vl vr vars lists rules i kind line)(I:U[i]?=some kw)(V6:kw.s=⟨#[97,116]⟩)(bQ:U[i+1]?=some nl)(aX:U[i+3]?=some np)(bp:U[i+6]?=some ne):aq 54 #[ai Z] w0 λe w'=>e=.returned (.tuple #[])/\Um B [Z,bm] w0 w'/\
   ∃P2,Md w' Z bm gt Z1 B U vv vl P2 vars lists (rules++[⟨97,[],af,⟨#[]⟩,0,Y6 vars np.s,Y6 vars ne.s,NI lists nl.s⟩]) (i+7) (Bz vars lists rules.length kw nl np ne (kind,line)).1 (Bz vars lists rules.length kw nl np ne (kind,line)).2:=by
 obtain⟨n1,n2,n3⟩:=VE bQ;obtain⟨p1,p2,p3⟩:=VE aX;obtain⟨x1,x2,x3⟩:=VE bp;have HN:=Z8 (iG n1 (iG n2 (iG p1 (iG p2 (iG x1 x2)))));clear bQ aX bp n1 n2 p1 p2 x1 x2;obtain⟨i0,Y8,Ze,Zq,Zn⟩:=iE Gk;obtain⟨k1,k2,k3⟩:=VE I;have hn:=h.hn;have c0:=h.wk.c0;have H0:=Z8 h;have aH:=h.ctx J;have bI:=Z8 (λb (hb:w0.heap.size<=b)=>aH.LJ hb)
 have Xz:=SG aH J;rw[k1,V6]at Xz;have UM:=Z8 Xz;have bJ:=Z8 k2;clear Xz h aH k1 k2 I V6;go_enter func54,ntmps54;go_wp2_with fail;refine(Xd UM).mono ?_;rintro e w1 ⟨rfl,ZZ,Y1⟩;have aB:=Z8 (Y9.Pe (S:=[Z]) ZZ (λk e=>by cases e;simp))
 have M1:=H0.out.but aB.out Y1.wk (iw _);obtain⟨ar,ct,Wb⟩:=Ls M1.RM;obtain⟨d0,d1,_,_,e1,_,_,_⟩:=Y1.wk;have m3:=M1.m3;have ZP:=M1.Uq;rw[Wb]at m3;have J8:=Z8 Wb;have aV:=λW o u b' o' h=>YJ W Z o u b' o' h
 have aI:=Re (M1.ctx J) k3 (decide (16<=(rules.length:Int))) 6;rw[bJ.out]at aI;have Tz:=Z8 aI;clear ZZ Y1 c0 UM Wb M1 aI;go_wp2_with fail;refine(Xd Tz).mono ?_;rintro e w2 ⟨rfl,ZU,XJ⟩;have Vt:=Z8 (aB.out.walk ZU);have Uc:=Z8 XJ.wk;have YK:=XJ.wk.lt;clear d0 d1 e1 m3 Tz aB;obtain⟨d0,d1,_,_,e1,_,_,_⟩:=XJ.wk;clear ZU XJ;go_wp2_with fail;have a7:=Z8 ((Vt.out.set (k:=Z) (.inl pG) 1 (Y ((i:Int)+1))).alloc (.cells #[.int .u8 (((ByteArray.mk #[97,116])[0].toNat:Int)),af,.string ⟨#[]⟩,Y 0,Y 0,Y 0,Y 0] 176));have aG:=Z8 ((Uc.out.Wv ((i:Int)+1)).YQ (di _ (.cells #[.int .u8 (((ByteArray.mk #[97,116])[0].toNat:Int)),af,.string ⟨#[]⟩,Y 0,Y 0,Y 0,Y 0] 176) none) pG);have ak:=Z8 (Gl (w2.setCell (O Z 1) (Y ((i:Int)+1))) (((ByteArray.mk #[97,116])[0].toNat:Int)) 176);have aY:(w2.setCell (O Z 1) (Y ((i:Int)+1))).heap.size=w2.heap.size:=pV;rw[aY]at ak;have Ww:w0.heap.size<=w2.heap.size:=Vt.out.size;have WL:(w2.heap.size:Nat)≠Z:=J;generalize ((w2.setCell (O Z 1) (Y ((i:Int)+1))).alloc (.cells #[.int .u8 (((ByteArray.mk #[97,116])[0].toNat:Int)),af,.string ⟨#[]⟩,Y 0,Y 0,Y 0,Y 0] 176))=wa at a7 aG ak⊢;clear aY;generalize w2.heap.size=br at WL Ww ak YK⊢;clear d0 d1 e1 Uc Vt;have HF:=Z8 (bI.out br Ww);have Ma:=H0.out.but (j:=i+1) a7.out aG.out J;have hp:=SG (Ma.ctx J) J;rw[HN.out.1]at hp;refine hp.mono ?_;rintro e wb ⟨rfl,aQ,bF⟩;have bE:=Z8 (a7.out.walk aQ);have az:=ak.out.YQ aQ pU;have bC:=Z8 az;have bS:=Z8 bF.wk;have Mb:=H0.out.but (j:=i+1) bE.out bF.wk J;have hl:=Cf nl.s (NJ lists) vl bm wb (by have:=H0.out.ll;simp[NJ];omega) Mb.m2 (xj Mb.ol);obtain⟨X,hX⟩:∃x,NI lists nl.s=x:=⟨_,rfl⟩;rw[show XO nl.s (NJ lists) 0=X from hX]at hl;have HX:=Z8 hX;have HL:=Z8 hl;have hf:=Re (((H0.out.but (j:=i+1) (bE.out.set (k:=br) (.inr Ww) 6 (Y X)) (bS.out.YQ (ZC wb br 6 (Y X)) (by simpa using λe:Z=br=>WL e.symm)) J)).ctx J) n3 (decide (X<0)) 4
 rw[HN.out.2.1]at hf;have cF:=Z8 hf;have r6:=az.c6;have rz:=az.fz 6;clear bF aQ hp Ma a7 aG ak hX az hl hf Mb;go_wp2_with fail;refine(Xd HL).mono ?_;rintro e w9 ⟨rfl,Zf⟩;subst w9;go_wp2_with fail;refine(Xd cF).mono ?_;rintro e wc ⟨rfl,bq,cw⟩;have bG:=Z8 ((bE.out.set (k:=br) (.inr Ww) 6 (Y X)).walk bq);have cK:=((bC.out.afM X).YQ bq pU);have aA:=Z8 cK;have bY:=Z8 cw.wk;clear r6 rz HL cF bE bC bS;obtain⟨d0,d1,_,_,e1,_,_,_⟩:=cw.wk;clear cw bq cK;go_wp2_with fail;have cm:=Z8 (bG.out.set (k:=Z) (.inl pG) 1 (Y ((i:Int)+1+2)));have cx:=Z8 (bY.out.Wv ((i:Int)+1+2));have cy:=Z8 (aA.out.YQ (ZC _ Z 1 (Y ((i:Int)+1+2))) pU);generalize (wc.setCell (O Z 1) (Y ((i:Int)+1+2)))=wd at cm cx cy⊢;clear d0 d1 e1 bG bY aA;have cL:=H0.out.but (j:=i+3) cm.out cx.out J;have hu:=IY (cL.ctx J) p3;rw[HN.out.2.2.1,HN.out.2.2.2.1]at hu;refine hu.mono ?_;rintro e we ⟨rfl,cA,cC⟩;have cg:=Z8 (cm.out.walk cA);have cu:=cy.out.YQ cA pU;have cN:=Z8 cu;have cq:=Z8 cC.wk;obtain⟨d0,d1,_,_,e1,_,_,_⟩:=cC.wk;have r4:=cu.c4;have rz:=cu.fz 4;obtain⟨anR,hY⟩:∃x,Y6 vars np.s=x:=⟨_,rfl⟩;rw[hY];have HY:=Z8 hY;have cM:=λW o u b' o' h=>YJ W br o u b' o' h
 clear cC cA hu cL cm cx cy hY cu;go_wp2_with fail;have bs:=Z8 ((cg.out.set (k:=br) (.inr Ww) 4 (Y anR)).set (k:=Z) (.inl pG) 1 (Y ((i:Int)+3+1+2)));have cr:=Z8 ((cq.out.YQ (ZC we br 4 (Y anR)) (by simpa using λe:Z=br=>WL e.symm)).Wv ((i:Int)+3+1+2))
 have bT:=Z8 ((cN.out.Lx anR).YQ (ZC _ Z 1 (Y ((i:Int)+3+1+2))) pU);generalize ((we.setCell (O br 4) (Y anR)).setCell (O Z 1) (Y ((i:Int)+3+1+2)))=wf at bs cr bT⊢;clear d0 d1 e1 r4 rz cg cq cN;have Mf:=H0.out.but (j:=i+6) bs.out cr.out J;have bM:=IY (Mf.ctx J) x3;rw[HN.out.2.2.2.2.1,HN.out.2.2.2.2.2]at bM;refine bM.mono ?_;rintro e wg ⟨rfl,cE,cO⟩;have cv:=bT.out.YQ cE pU;have r5:=cv.c5;have rz:=cv.fz 5;obtain⟨anV,hZ⟩:∃x,Y6 vars ne.s=x:=⟨_,rfl⟩;rw[hZ];have HZ:=Z8 hZ;have RL:=Z8 ((bs.out.walk cE).set (k:=br) (.inr Ww) 5 (Y anV));have Pd:=Z8 (cO.wk.YQ (ZC wg br 5 (Y anV)) (by simpa using λe:Z=br=>WL e.symm))
 have N7:=Z8 (cv.afL anV);clear cO cE bM Mf bs cr bT hZ cv;go_wp2;generalize (wg.setCell (O br 5) (Y anV))=wj at RL Pd N7⊢;clear r5 rz;obtain⟨R,hR⟩:∃R:YL,R=⟨97,[],af,⟨#[]⟩,0,anR,anV,X⟩:=⟨_,rfl⟩;have J7:Hid (Br wj br R):=tC;have QQ:Hid (wj.ownsRow B 183 2 R.pv R.parts.length (Un R.parts)):=by rw[hR];exact ed _ _ _ _
 have Xu:=Z8 hR;clear N7 hR;have Mj:=H0.out.but (j:=i+7) RL.out Pd.out J;obtain⟨r0,r1,r2,r3,r4,r5,r6,rz,rl⟩:=J7.out;have m3:=Mj.m3;have J6:=Mj.f3;have Gp:=Mj.tk.Ya;have U2:=Z8 Mj;have YD:=Z8 (Mj.RM.kept ((di wj (.cells #[.int .u8 R.sort,R.pv,.string R.rel,Y R.n,Y R.v,Y R.w,Y R.x] 176) none).trans (ZG _ none)) (by cases vr.ownBlock with
  |none=>exact .inl rfl
  |some g=>exact .inr pG))
 have YF:Hid (∀jj u,[Value.int .u8 R.sort,R.pv,.string R.rel,Y R.n,Y R.v,Y R.w,Y R.x][jj]?=some u->(wj.alloc (.cells #[.int .u8 R.sort,R.pv,.string R.rel,Y R.n,Y R.v,Y R.w,Y R.x] 176)).drew.cell? (((ah wj.heap.size):Addr).add jj)=some u):=
  World.news_of_block (cs:=#[.int .u8 R.sort,R.pv,.string R.rel,Y R.n,Y R.v,Y R.w,Y R.x]) (t:=176) (fr:=(0,0)) (gp wj _)
 have WK:Hid (∀wA,(wj.alloc (.cells #[.int .u8 R.sort,R.pv,.string R.rel,Y R.n,Y R.v,Y R.w,Y R.x] 176)).drew.grownBy wA vr.ownBlock->wA.frozen? (O bm 3)=false/\wA.cell? (O bm 3)=some vr):=by
  exact jq
 have Kb:B<=wj.heap.size:=Mj.hB;have Ea:rules.length<=2000:=qF;have ND:Hid (R.pv.oneCell'=true):=Gg QQ.out;clear Mj rz;go_region_law ((refine step_append_lies _ p8 _ _ 114 p8 B 176 i0 (.agg #[.int .u8 0,af,.string .empty,Y 0,Y 0,Y 0,Y 0]) 7 80 underlying114 Y8 Ze Zq Zn rfl pF vr rules.length (NK rules) p8 YD.out (ah wj.heap.size) 1 1 [.int .u8 R.sort,R.pv,.string R.rel,Y R.n,Y R.v,Y R.w,Y R.x] p8 rfl YF.out (Eb ND.out) pF pK J pI _ rfl ?_;intro gA XC wA YT Zo XL Xq;obtain⟨q1,q2⟩:=WK.out wA Zo))
 all_goals
  have HP:=Z8 (U2.out.Em (x:=R) qF QQ.out YT Zo);clear YD YF WK YT Zo XL Xq m3 J6 r0 r1 r2 r3 r4 r5 r6 rl;go_wp2;go_end0;refine⟨rfl,(RL.out.IH H0.out.hB (λk I=>by simp at I;simp[I])).trans HP.out.2,?_⟩
  have F:=HP.out.1;rw[Xu.out,<-HX.out,<-HY.out,<-HZ.out]at F;exact⟨_,F⟩
end
section
attribute [local go_sem ↓] Go.wp_at_zero Go.wp_at_succ
def P1 (U:List ZY):Nat->List ZY->Nat->Prop
 |i,[],j=>i=j
 |i,n::ns,j=>(∃c,U[i]?=some c/\c.s.toList=[44])/\U[i+1]?=some n/\P1 U (i+2) ns j
def wG (vars:List Y7)(k:Nat)(n:ZY)(st:Zv):Zv:=ZE (decide (Y6 vars n.s<0)) 4 n.line (ZE (decide (8<(k:Int))) 6 n.line st)
def Gf (vars:List Y7):Nat->List ZY->Zv->Zv
 |_,[],st=>st
 |k,n::ns,st=>Gf vars (k+1) ns (wG vars k n st)
def J5 (vars:List Y7)(n:ZY):Int×Int:=(0,Y6 vars n.s)
def Ge (vars:List Y7)(nr:Nat)(kw:ZY)(ns:List ZY)(st:Zv):Zv:=Gf vars 1 ns (ZE (decide (16<=(nr:Int))) 6 kw.line st)
def D8 (U:List ZY)(vars:List Y7)(Z bm br:Nat)(B' i j:Nat)(ST:Zv)(aN:List (Int×Int))(C:Nat->Option aF)(w0:A)(n:Nat)(vk:aF)(wr:A):Prop:=
 ∃(k p:Nat) (rem:List ZY) (done:List (Int×Int)) (kd ln:Int) (vL:aF),n=rem.length/\vk=Y k/\k<=p+1/\done.length<=p/\p<=j/\i<=p/\
  ((k=1/\∃n0 ns,rem=n0::ns/\U[p]?=some n0/\P1 U (p+1) ns j)\/(1<k/\P1 U p rem j))/\
  Hid (Gf vars k rem (kd,ln)=ST)/\Hid (done++rem.map (J5 vars)=aN)/\B'<=wr.heap.size/\(wr.cell? (O br 2)=some (.string ⟨#[]⟩)/\wr.cell? (O br 3)=some (Y 0))/\Rl wr br B' vL done C/\Y9 [Z] w0 wr/\Wk wr Z bm p kd ln
theorem P1.le {U:List ZY}:∀{ns:List ZY} {i j:Nat},P1 U i ns j->i<=j
 |[],i,j,h=>by have:i=j:=h;omega
 |n::ns,i,j,h=>by have:=P1.le h.2.2;omega
theorem Rl.push {wu wA:A}{br B':Nat}{vL v':aF}{done:List (Int×Int)}{C:Nat->Option aF}{a X:Int}{o:Obj}(h:Rl wu br B' vL done C)(ZO:wA.ownsRow B' 183 2 v' (done.length+1) (Un done++[Y a,Y X]))(z:(wu.alloc o).grownBy wA vL.ownBlock):Rl (wA.setCell (O br 1) v') br B' v' (done++[(a,X)]) C:=by
 have g0:wu.grownBy (wu.alloc o) none:=di wu o none;have n1:some br≠vL.ownBlock:=λe=>by have:=(h.own.lt _ e.symm).1;have:=h.QR;omega
 have RP:br<(wu.alloc o).heap.size:=dH h.lt g0.size;have bl:wA.heap[br]?=wu.heap[br]?:=(z.block br RP n1).trans (g0.block br h.lt pG);have rA:∀q,wA.cell? (O br q)=wu.cell? (O br q):=λq=>cJ (a:=(O br q)) bl
 have fA:∀q,wA.frozen? (O br q)=false:=λq=>(bL (a:=(O br q)) bl).trans (h.fz q)
 obtain⟨u2,h2⟩:=h.c2;obtain⟨u3,h3⟩:=h.c3;refine⟨bo _ _ _ ((rA 1).trans h.c1),(bR _ _ _ _).trans (fA 1),⟨u2,(YJ _ _ _ _ _ _ J).trans ((rA 2).trans h2)⟩,(bR _ _ _ _).trans (fA 2),
  ⟨u3,(YJ _ _ _ _ _ _ J).trans ((rA 3).trans h3)⟩,(bR _ _ _ _).trans (fA 3),?_,?_,h.QR,λq a b c=>(YJ _ _ _ _ _ _ (.inr a)).trans ((rA q).trans (h.MN q a b c)),λq=>(bR _ _ _ _).trans (fA q)⟩
 ·rw[xK,dA];exact ZO.kept (ZC wA br 1 v') (by
   cases hv:v'.ownBlock with
   |none=>exact .inl rfl
   |some g=>exact .inr (λe=>by have:=(ZO.lt _ hv).1;have:=h.QR;cases e;omega))
 ·have:=z.size;have:=g0.size;have:=h.lt;simp[World.setCell];omega
def jk{P:Prop}(h:P:=by
 have J7:Hid (Br wj br R):=tC;have QQ:Hid (wj.ownsRow B 183 2 R.pv R.parts.length (Un R.parts)):=uB;have Xu:=Z8 (iG hR (iG IJ Sg.out));clear NC NF QB IJ N7 Kv hR Q8 Q7 Pc Sd Sn;go_wp2;have Mj:=H0.out.but (j:=p) RL.out Pd.out J;obtain⟨r0,r1,r2,r3,r4,r5,r6,rz,rl⟩:=J7.out;have m3:=Mj.m3;have J6:=Mj.f3;have Gp:=Mj.tk.Ya;have U2:=Z8 Mj;have YD:=Z8 (Mj.RM.kept ((di wj (.cells #[.int .u8 R.sort,R.pv,.string R.rel,Y R.n,Y R.v,Y R.w,Y R.x] 176) none).trans (ZG _ none)) (by cases vr.ownBlock with
  |none=>exact .inl rfl
  |some g=>exact .inr pG))
 have YF:Hid (∀jj u,[Value.int .u8 R.sort,R.pv,.string R.rel,Y R.n,Y R.v,Y R.w,Y R.x][jj]?=some u->(wj.alloc (.cells #[.int .u8 R.sort,R.pv,.string R.rel,Y R.n,Y R.v,Y R.w,Y R.x] 176)).drew.cell? (((ah wj.heap.size):Addr).add jj)=some u):=
  World.news_of_block (cs:=#[.int .u8 R.sort,R.pv,.string R.rel,Y R.n,Y R.v,Y R.w,Y R.x]) (t:=176) (fr:=(0,0)) (gp wj _)
 have WK:Hid (∀wA,(wj.alloc (.cells #[.int .u8 R.sort,R.pv,.string R.rel,Y R.n,Y R.v,Y R.w,Y R.x] 176)).drew.grownBy wA vr.ownBlock->wA.frozen? (O bm 3)=false/\wA.cell? (O bm 3)=some vr):=by
  exact nT
 have Kb:B<=wj.heap.size:=Mj.hB;have Ea:rules.length<=2000:=qF;have ND:Hid (R.pv.oneCell'=true):=Gg QQ.out;clear Mj rz;go_region_law ((refine step_append_lies _ p8 _ _ 114 p8 B 176 i0 (.agg #[.int .u8 0,af,.string .empty,Y 0,Y 0,Y 0,Y 0]) 7 80 underlying114 Y8 Ze Zq Zn rfl pF vr rules.length (NK rules) p8 YD.out (ah wj.heap.size) 1 1 [.int .u8 R.sort,R.pv,.string R.rel,Y R.n,Y R.v,Y R.w,Y R.x] p8 rfl YF.out (Eb ND.out) pF pK J pI _ rfl ?_;intro gA XC wA YT Zo XL Xq;obtain⟨q1,q2⟩:=WK.out wA Zo))
 all_goals
  have HP:=Z8 (U2.out.Em (x:=R) qF QQ.out YT Zo);clear YD YF WK YT Zo XL Xq m3 J6 r0 r1 r2 r3 r4 r5 r6 rl;go_wp2;go_end0;refine⟨rfl,(RL.out.IH H0.out.hB (λk I=>by simp at I;simp[I])).trans HP.out.2,?_⟩
  have F:=HP.out.1;rw[Xu.out.1,Xu.out.2.1,<-Sc.out.2]at F;rw[Sc.out.1,<-Xu.out.2.2];exact⟨_,_,F⟩):P:=h
def jx{P:Prop}(h:P:=by
 have n1:some br≠vL.ownBlock:=λe=>by have:=(hR.own.lt _ e.symm).1;have:=hR.QR;omega
 exact⟨z.cell (g0.cell hR.c1 pG) n1,(z.frozen_far (O br 1) (dH hR.lt g0.size) n1).trans ((g0.frozen_far (O br 1) hR.lt pG).trans hR.f1)⟩):P:=h
def jN{P:Prop}(h:P:=by
 have n0:some br≠some Z:=by simpa using IA
 have n1:some br≠vL.ownBlock:=λe=>by have:=(P0.own.lt _ e.symm).1;have:=P0.QR;omega
 have k2:=Zo.cell ((di wu (.cells #[Y 0,Y X] 183) none).cell (Pt.cell (show wf.drew.cell? (O br 2)=_ from Bx.out.1) n0) pG) n1;have k3:=Zo.cell ((di wu (.cells #[Y 0,Y X] 183) none).cell (Pt.cell (show wf.drew.cell? (O br 3)=_ from Bx.out.2) n0) pG) n1;exact⟨(YJ _ _ _ _ _ _ J).trans k2,(YJ _ _ _ _ _ _ J).trans k3⟩):P:=h
def j3{P:Prop}(h:P:=by
 go_wp2
 go_roundg Pb.length
 case measure=>simp
 case rel=>first|exact OB|(have F:=OB.out;simpa using F)):P:=h
def kQ{P:Prop}(h:P:=by
 intro wu z;have hR:=D7.out.grown z D6;refine⟨hR.c1,hR.f1,hR.lt,?_,hR,hR.own.alloc _⟩;have h2:=z.size;have h3:wf.drew.heap.size=wf.heap.size:=rfl;omega):P:=h
def oJ{P:Prop}(h:P:=by
 intro wu wA hR z;have g0:wu.grownBy (wu.alloc (.cells #[Y 0,Y X] 183)) none:=di wu _ none;exact jx):P:=h
theorem agz (w0:A)(Z bm gt Z1 B:Nat)(U:List ZY)(vv vl vr:aF)(vars:List Y7)(lists:List YZ)(rules:List YL)(i j:Nat)(kind line:Int)(kw n0:ZY)(ns:List ZY)(h:Md w0 Z bm gt Z1 B U vv vl vr vars lists rules i kind line)(I:U[i]?=some kw)(V6:kw.s=⟨#[100,105,102,102]⟩)(bz:U[i+1]?=some n0)(bh:P1 U (i+2) ns j)(hj:j<=U.length)(aP:(Y' U j).toList≠[44]):aq 54 #[ai Z] w0 λe w'=>e=.returned (.tuple #[])/\Um B [Z,bm] w0 w'/\
   ∃P2 pv,Md w' Z bm gt Z1 B U vv vl P2 vars lists (rules++[⟨100,(n0::ns).map (J5 vars),pv,⟨#[]⟩,0,0,0,0⟩]) j (Ge vars rules.length kw (n0::ns) (kind,line)).1 (Ge vars rules.length kw (n0::ns) (kind,line)).2:=by
 obtain⟨ip,bH,T7,UJ,UI⟩:=iE BM;have cD:=bh.le;have bn:=Z8 (iG bz bh);have cz:=Z8 aP;clear bz bh aP;obtain⟨i0,Y8,Ze,Zq,Zn⟩:=iE Gk;obtain⟨k1,k2,k3⟩:=VE I;have hn:=h.hn;have c0:=h.wk.c0;have H0:=Z8 h;have aH:=h.ctx J;have bI:=Z8 (λb (hb:w0.heap.size<=b)=>aH.LJ hb)
 have Xz:=SG aH J;rw[k1,V6]at Xz;have UM:=Z8 Xz;have bJ:=Z8 k2;clear Xz h aH k1 k2 I V6;go_enter func54,ntmps54;go_wp2_with fail;refine(Xd UM).mono ?_;rintro e w1 ⟨rfl,ZZ,Y1⟩;have aB:=Z8 (Y9.Pe (S:=[Z]) ZZ (λk e=>by cases e;simp))
 have M1:=H0.out.but aB.out Y1.wk (iw _);obtain⟨ar,ct,Wb⟩:=Ls M1.RM;obtain⟨d0,d1,_,_,e1,_,_,_⟩:=Y1.wk;have m3:=M1.m3;have ZP:=M1.Uq;rw[Wb]at m3;have J8:=Z8 Wb;have aV:=λW o u b' o' h=>YJ W Z o u b' o' h
 have aI:=Re (M1.ctx J) k3 (decide (16<=(rules.length:Int))) 6;rw[bJ.out]at aI;have Tz:=Z8 aI;clear ZZ Y1 c0 UM Wb M1 aI;go_wp2_with fail;refine(Xd Tz).mono ?_;rintro e w2 ⟨rfl,ZU,XJ⟩;have Vt:=Z8 (aB.out.walk ZU);have Uc:=Z8 XJ.wk;have YK:=XJ.wk.lt;clear d0 d1 e1 m3 Tz aB;obtain⟨d0,d1,_,_,e1,_,_,_⟩:=XJ.wk;clear ZU XJ;go_wp2_with fail;have a7:=Z8 ((Vt.out.set (k:=Z) (.inl pG) 1 (Y ((i:Int)+1))).alloc (.cells #[.int .u8 (((ByteArray.mk #[100,105,102,102])[0].toNat:Int)),af,.string ⟨#[]⟩,Y 0,Y 0,Y 0,Y 0] 176));have aG:=Z8 ((Uc.out.Wv ((i:Int)+1)).YQ (di _ (.cells #[.int .u8 (((ByteArray.mk #[100,105,102,102])[0].toNat:Int)),af,.string ⟨#[]⟩,Y 0,Y 0,Y 0,Y 0] 176) none) pG);have ak:=Z8 (Gl (w2.setCell (O Z 1) (Y ((i:Int)+1))) (((ByteArray.mk #[100,105,102,102])[0].toNat:Int)) 176);have aY:(w2.setCell (O Z 1) (Y ((i:Int)+1))).heap.size=w2.heap.size:=pV;rw[aY]at ak;have Ww:w0.heap.size<=w2.heap.size:=Vt.out.size;have WL:(w2.heap.size:Nat)≠Z:=J;generalize ((w2.setCell (O Z 1) (Y ((i:Int)+1))).alloc (.cells #[.int .u8 (((ByteArray.mk #[100,105,102,102])[0].toNat:Int)),af,.string ⟨#[]⟩,Y 0,Y 0,Y 0,Y 0] 176))=wa at a7 aG ak⊢;clear aY;generalize w2.heap.size=br at WL Ww ak YK⊢;clear d0 d1 e1 Uc Vt;have HF:=Z8 (bI.out br Ww);have ax:Hid (D8 U vars Z bm br wa.heap.size i j (Ge vars rules.length kw (n0::ns) (kind,line)) ((n0::ns).map (J5 vars)) (λq=>wa.cell? (O br q)) w0 (ns.length+1) (Y 1) wa):=
  ⟨1,i+1,n0::ns,[],_,_,_,rfl,rfl,J,pG,J,J,.inl ⟨rfl,n0,ns,rfl,bn.out.1,bn.out.2⟩,rfl,rfl,iw _,⟨ak.out.c2,ak.out.c3⟩,ak.out.El rfl _ ak.out.lt,a7.out,aG.out⟩
 have cG:B<=wa.heap.size:=tD;have aO:w0.heap.size<=wa.heap.size:=a7.out.size;obtain⟨B',aK⟩:∃b,wa.heap.size=b:=⟨_,rfl⟩;obtain⟨C,hC⟩:∃c:Nat->Option aF,(λq=>wa.cell? (O br q))=c:=⟨_,rfl⟩
 rw[aK,hC]at ax;rw[aK]at cG aO;have cH:=Z8 hC;obtain⟨ST,bu⟩:∃s,Ge vars rules.length kw (n0::ns) (kind,line)=s:=⟨_,rfl⟩;obtain⟨aN,bA⟩:∃s,(n0::ns).map (J5 vars)=s:=⟨_,rfl⟩;rw[bu,bA]at ax;have bB:=Z8 ak.out;have Sc:=Z8 (iG bu bA);obtain⟨N,hN⟩:∃n,ns.length+1=n:=⟨_,rfl⟩;rw[hN]at ax;clear hC bu bA hN bn ak a7 aG aK
 go_loopg [10] N (λn vk wr=>D8 U vars Z bm br B' i j ST aN C w0 n vk wr)
 case atStart=>exact ax
 case round=>
  clear ax;obtain⟨k,p,rem,done,kd,ln,vL,rfl,rfl,cP,a8,cQ,b5,b6,Sg,aU,cI,aS,RX,bX,b7⟩:=hrel;have cd:=Z8 b5;have Sn:=Z8 aS;clear aS;have Q7:=Z8 bX;have Pc:=Z8 b7;have Sd:=Z8 RX;clear bX b7 RX;rcases b6 with⟨rfl,n,Pb,rfl,aX,aZ⟩|⟨Vo,aZ⟩
  ·have b8:B'<=wr.heap.size:=cI;have ba:=Q7;have bk:=Pc;have bb:=Sd;have bc:=Sn;have au:=Z8 (iG aX aZ);clear aX aZ Q7 Pc Sd;go_wp2_with fail;have Mq:=H0.out.but (j:=p) ba.out bk.out pT;obtain⟨t1,t2,t3⟩:=VE au.out.1;have hf:=Re (Mq.ctx J) t3 (false) 6;rw[t2]at hf;have Uz:=Z8 (iG t1 t2);clear Mq t1 t2;refine hf.mono ?_;rintro e wf ⟨rfl,aw,aR⟩;have bO:Z<B':=qB;have cS:B'<=wf.heap.size:=by have:=aw.size;omega
   have D6:∀b,some Z=some b->b≠br/\vL.ownBlock≠some b:=λb e=>by cases e;exact⟨λe=>WL e.symm,λe=>by have:=(bb.out.own.lt _ e).1;omega⟩
   have aT:=bb.out.grown aw D6;have bT:=Z8 aT;have Bx:Hid (wf.cell? (O br 2)=some (.string ⟨#[]⟩)/\wf.cell? (O br 3)=some (Y 0)):=⟨aw.cell bc.out.1 pU,aw.cell bc.out.2 pU⟩;have bs:=Z8 (ba.out.walk aw);have Mf:=H0.out.but (j:=p) bs.out aR.wk pT;have hu:=IY ((Mf.ctx J).drew) t3;rw[Uz.out.1,Uz.out.2]at hu;obtain⟨X,hX⟩:∃x,Y6 vars n.s=x:=⟨_,rfl⟩;have HU:=Z8 hu;have HX:=Z8 hX;rw[hX]at HU;have Tn:=Z8 bs.out.drew;have r1:=aT.c1;have a6:=aT.f1;have aW:=aT.lt;have IA:br≠Z:=WL;have D7:=Z8 (aT.grown (ZG _ none) (λb e=>pL))
   clear hf aw aR aT Mf hX hu ba bk bb;have bP:done.length<=2000:=J;have HOW:Hid (∀wu,wf.drew.grownBy wu (some Z)->wu.cell? (O br 1)=some vL/\wu.frozen? (O br 1)=false/\br<wu.heap.size/\B'<=wu.heap.size/\Rl wu br B' vL done C/\(wu.alloc (.cells #[Y 0,Y X] 183)).ownsRow B' 183 2 vL done.length (Un done)):=by
    exact kQ
   have aC:Hid (∀wu wA,Rl wu br B' vL done C->(wu.alloc (.cells #[Y 0,Y X] 183)).grownBy wA vL.ownBlock->wA.cell? (O br 1)=some vL/\wA.frozen? (O br 1)=false):=by
    exact oJ
   go_wp2;go_region_law ((first|(refine step_append_lies _ p8 _ _ 174 p8 B' 183 ip (.agg #[Y 0,Y 0]) 2 16 underlying174 bH T7 UJ UI rfl pF vL done.length (Un done) p8 bU (ah wu.heap.size) 1 1 [Y 0,Y X] p8 rfl (World.news_of_block (cs:=#[Y 0,Y X]) (t:=183) (fr:=(0,0)) (gp wu _)) (Lv _ _) pF pK J pI _ rfl ?_;intro gA XC wA YT Zo XL Xq;obtain⟨q1,q2⟩:=aC.out wu wA P0 Zo)|(go_simp;go_at_call 100;refine(Xd HU).mono ?_;rintro e wu ⟨rfl,Pt,bV⟩;obtain⟨y1,y2,y3,y4,P0,bU⟩:=HOW.out wu Pt)))
   all_goals
    have cf:=P0.push YT Zo;have Yl:∀b,vL.ownBlock=some b->w0.heap.size<=b:=λb e=>by have:=(P0.own.lt _ e).1;omega
    have bZ:=(((Tn.out.walk Pt).alloc (.cells #[Y 0,Y X] 183)).grown Zo (λb e=>.inr (Yl b e))).set (k:=br) (.inr Ww) 1 (aj gA (done.length+1) XC)
    have cj:(wA.setCell (O br 1) (aj gA (done.length+1) XC)).cell? (O br 2)=some (.string ⟨#[]⟩)/\(wA.setCell (O br 1) (aj gA (done.length+1) XC)).cell? (O br 3)=some (Y 0):=by
     exact jN
    have bg:=((bV.wk.YQ (di wu (.cells #[Y 0,Y X] 183) none) pG).YQ Zo (λe=>by have:=(P0.own.lt _ e.symm).1;omega)).YQ (ZC wA br 1 (aj gA (done.length+1) XC)) (by simpa using λe:Z=br=>WL e.symm)
    have ck:B'<=(wA.setCell (O br 1) (aj gA (done.length+1) XC)).heap.size:=by
     have:=Zo.size;simp[World.setCell]at this⊢;omega
    rw[<-HX.out]at bg;have hle:=au.out.2.le;have OB:Hid (D8 U vars Z bm br B' i j ST aN C w0 Pb.length (Y ((1+1:Nat):Int)) (wA.setCell (O br 1) (aj gA (done.length+1) XC))):=
     ⟨1+1,p+1,Pb,done++[(0,X)],_,_,_,rfl,rfl,J,by simp;omega,hle,by have:=cd.out;omega,.inr ⟨J,au.out.2⟩,Sg.out,by unfold Hid;rw[<-aU.out,<-HX.out];simp[J5],ck,cj,cf,bZ,bg⟩
    clear cf bZ bg ck cj P0 bU Pt bV YT Zo XL Xq q1 q2 y1 y2 y3 y4 HU HOW aC D7 Tn;exact j3
  ·cases rem with
   |nil=>
    obtain rfl:p=j:=aZ;have G0:((k:Int)==1)=false:=pI;have Mq:=H0.out.but (j:=p) Q7.out Pc.out pT;have hp:=SG (Mq.ctx J) J;have Q8:=Z8 hp;have bN:((Y' U p).toList==[44])=false:=uL;have bO:Z<B':=qB;clear hp Mq;go_wp2_with fail;refine(Xd Q8).mono ?_;rintro e wj ⟨rfl,NC,NF⟩;have RL:=Z8 (Q7.out.walk NC);have Pd:=Z8 NF.wk;have QB:=Sd.out.grown NC (λb e=>by cases e;exact⟨λe=>WL e.symm,λe=>by have:=(Sd.out.own.lt _ e).1;omega⟩)
    have IJ:done=aN:=by rw[<-aU.out];simp
    have n0:some br≠some Z:=pU;have N7:=Z8 (bB.out.Ek (by rw[cH.out];exact QB) (NC.cell Sn.out.1 n0) (NC.cell Sn.out.2 n0));have Kv:=Z8 (QB.own.mono (base':=B) J);obtain⟨R,hR⟩:∃R:YL,R=⟨100,done,vL,⟨#[]⟩,0,0,0,0⟩:=⟨_,rfl⟩;exact jk
   |cons n Pb=>
    obtain⟨⟨c,T8,V7⟩,aX,bK⟩:=aZ;have G0:((k:Int)==1)=false:=pI;have cT:(1:Int)<(k:Int):=J;have aL:=(VE T8).2.2;have Mq:=H0.out.but (j:=p) Q7.out Pc.out pT;have hp:=SG (Mq.ctx J) J;rw[(VE T8).1]at hp;have Q8:=Z8 hp;have bN:(c.s.toList==[44])=true:=uX;have cU:Z<B':=qB;have au:=Z8 (iG aX bK);clear hp Mq T8 V7 aX bK;go_wp2_with fail;refine(Xd Q8).mono ?_;rintro e wp ⟨rfl,b9,bD⟩;have cn:some br≠some Z:=pU;have cp:=Sd.out.grown b9 (λb e=>by cases e;exact⟨λe=>WL e.symm,λe=>by have:=(Sd.out.own.lt _ e).1;omega⟩)
    have ba:=Z8 ((Q7.out.walk b9).set (k:=Z) (.inl pG) 1 (Y ((p:Int)+1)));have bk:=Z8 (bD.wk.Wv ((p:Int)+1));have bb:=Z8 (cp.grown (ZC wp Z 1 (Y ((p:Int)+1))) (λb e=>by cases e;exact⟨λe=>WL e.symm,λe=>by have:=(Sd.out.own.lt _ e).1;omega⟩))
    have bc:Hid ((wp.setCell (O Z 1) (Y ((p:Int)+1))).cell? (O br 2)=some (.string ⟨#[]⟩)/\(wp.setCell (O Z 1) (Y ((p:Int)+1))).cell? (O br 3)=some (Y 0)):=
     ⟨(YJ _ _ _ _ _ _ (.inl WL)).trans (b9.cell Sn.out.1 cn),(YJ _ _ _ _ _ _ (.inl WL)).trans (b9.cell Sn.out.2 cn)⟩
    have b8:B'<=(wp.setCell (O Z 1) (Y ((p:Int)+1))).heap.size:=sW;obtain⟨d0,d1,_,_,e1,_,_,_⟩:=bD.wk;clear b9 bD cp Q8 Q7 Pc Sd Sn;go_wp2_with fail;generalize (wp.setCell (O Z 1) (Y ((p:Int)+1)))=wq at ba bk bb bc b8⊢;clear d0 d1 e1;have Mq:=H0.out.but (j:=p+1) ba.out bk.out pT;obtain⟨t1,t2,t3⟩:=VE au.out.1;have hf:=Re (Mq.ctx J) t3 (decide (8<(k:Int))) 6;rw[t2]at hf;have Uz:=Z8 (iG t1 t2);clear Mq t1 t2;refine hf.mono ?_;rintro e wf ⟨rfl,aw,aR⟩;have bO:Z<B':=qB;have cS:B'<=wf.heap.size:=by have:=aw.size;omega
    have D6:∀b,some Z=some b->b≠br/\vL.ownBlock≠some b:=λb e=>by cases e;exact⟨λe=>WL e.symm,λe=>by have:=(bb.out.own.lt _ e).1;omega⟩
    have aT:=bb.out.grown aw D6;have bT:=Z8 aT;have Bx:Hid (wf.cell? (O br 2)=some (.string ⟨#[]⟩)/\wf.cell? (O br 3)=some (Y 0)):=⟨aw.cell bc.out.1 pU,aw.cell bc.out.2 pU⟩;have bs:=Z8 (ba.out.walk aw);have Mf:=H0.out.but (j:=p+1) bs.out aR.wk pT;have hu:=IY ((Mf.ctx J).drew) t3;rw[Uz.out.1,Uz.out.2]at hu;obtain⟨X,hX⟩:∃x,Y6 vars n.s=x:=⟨_,rfl⟩;have HU:=Z8 hu;have HX:=Z8 hX;rw[hX]at HU;have Tn:=Z8 bs.out.drew;have r1:=aT.c1;have a6:=aT.f1;have aW:=aT.lt;have IA:br≠Z:=WL;have D7:=Z8 (aT.grown (ZG _ none) (λb e=>pL))
    clear hf aw aR aT Mf hX hu ba bk bb;have bP:done.length<=2000:=J;have HOW:Hid (∀wu,wf.drew.grownBy wu (some Z)->wu.cell? (O br 1)=some vL/\wu.frozen? (O br 1)=false/\br<wu.heap.size/\B'<=wu.heap.size/\Rl wu br B' vL done C/\(wu.alloc (.cells #[Y 0,Y X] 183)).ownsRow B' 183 2 vL done.length (Un done)):=by
     exact kQ
    have aC:Hid (∀wu wA,Rl wu br B' vL done C->(wu.alloc (.cells #[Y 0,Y X] 183)).grownBy wA vL.ownBlock->wA.cell? (O br 1)=some vL/\wA.frozen? (O br 1)=false):=by
     exact oJ
    go_wp2;go_region_law ((first|(refine step_append_lies _ p8 _ _ 174 p8 B' 183 ip (.agg #[Y 0,Y 0]) 2 16 underlying174 bH T7 UJ UI rfl pF vL done.length (Un done) p8 bU (ah wu.heap.size) 1 1 [Y 0,Y X] p8 rfl (World.news_of_block (cs:=#[Y 0,Y X]) (t:=183) (fr:=(0,0)) (gp wu _)) (Lv _ _) pF pK J pI _ rfl ?_;intro gA XC wA YT Zo XL Xq;obtain⟨q1,q2⟩:=aC.out wu wA P0 Zo)|(go_simp;go_at_call 100;refine(Xd HU).mono ?_;rintro e wu ⟨rfl,Pt,bV⟩;obtain⟨y1,y2,y3,y4,P0,bU⟩:=HOW.out wu Pt)))
    all_goals
     have cf:=P0.push YT Zo;have Yl:∀b,vL.ownBlock=some b->w0.heap.size<=b:=λb e=>by have:=(P0.own.lt _ e).1;omega
     have bZ:=(((Tn.out.walk Pt).alloc (.cells #[Y 0,Y X] 183)).grown Zo (λb e=>.inr (Yl b e))).set (k:=br) (.inr Ww) 1 (aj gA (done.length+1) XC)
     have cj:(wA.setCell (O br 1) (aj gA (done.length+1) XC)).cell? (O br 2)=some (.string ⟨#[]⟩)/\(wA.setCell (O br 1) (aj gA (done.length+1) XC)).cell? (O br 3)=some (Y 0):=by
      exact jN
     have bg:=((bV.wk.YQ (di wu (.cells #[Y 0,Y X] 183) none) pG).YQ Zo (λe=>by have:=(P0.own.lt _ e.symm).1;omega)).YQ (ZC wA br 1 (aj gA (done.length+1) XC)) (by simpa using λe:Z=br=>WL e.symm)
     have ck:B'<=(wA.setCell (O br 1) (aj gA (done.length+1) XC)).heap.size:=by
      have:=Zo.size;simp[World.setCell]at this⊢;omega
     rw[<-HX.out]at bg;have hle:=au.out.2.le;have OB:Hid (D8 U vars Z bm br B' i j ST aN C w0 Pb.length (Y ((k+1:Nat):Int)) (wA.setCell (O br 1) (aj gA (done.length+1) XC))):=
      ⟨k+1,p+1+1,Pb,done++[(0,X)],_,_,_,rfl,rfl,J,by simp;omega,hle,by have:=cd.out;omega,.inr ⟨J,au.out.2⟩,Sg.out,by unfold Hid;rw[<-aU.out,<-HX.out];simp[J5],ck,cj,cf,bZ,bg⟩
     clear cf bZ bg ck cj P0 bU Pt bV YT Zo XL Xq q1 q2 y1 y2 y3 y4 HU HOW aC D7 Tn;exact j3
end
end Go.Proofs.YthpcbbnabnlanaaGreatDoor
