import Derived.Test.YthpcbbnabnlanaaGreatDoorM29
import Derived.Test.YthpcbbnabnlanaaGreatDoorM42
namespace Go.Proofs.YthpcbbnabnlanaaGreatDoor
set_option maxHeartbeats 8000000
set_option maxRecDepth 100000
open Go.RowKit
set_option linter.all false
variable {w w' w1:A}{B Z c T:Nat}{V:LV}{D:LD}{K:VX->Prop}
theorem L8.told {B:Nat}{v:aF}{rows:List (az)}(h:L8 w B v rows):∃us,Tc w B v rows us:=by
 obtain⟨us,F,h2,h3,h4⟩:=h;exact⟨us,F,h2,h3,h4⟩
theorem Tc.lr {B:Nat}{a:ax}{c:Nat}{rows:List (az)}{us:ay}(h:Tc w B (.slice a rows.length c) rows us):LR w w a rows/\rows.length<=c:=by
 have hl:=h.len;refine⟨λi r hr=> ?_,?_⟩
 ·have hi:=(aU.1 hr).1;obtain⟨u,hu⟩:∃u,us[i]?=some u:=⟨us[i]'J,aZ J⟩;have er:rows.getD i []=r:=by rw[aN,hr];rfl
  obtain⟨ho,ZP⟩:=h.row i u hu;rw[er]at ho;rcases h.own.2 with⟨_,q⟩|⟨g,cap,cur,q,q1⟩
  ·omega
  ·injection q with e1 _ e2;subst e1;refine⟨g,0,u,rfl,by rw[ik];exact R9 h.own hu,?_⟩;rcases ho.2 with⟨anZ,_⟩|⟨g',UH,IP,anZ,z1⟩
   ·exact absurd anZ ZP
   ·refine⟨some (ah g'),UH,anZ,λj x hx=>⟨g',0,rfl,?_⟩⟩
    rw[anZ]at ho;rw[ik];exact R9 ho uY
 ·rcases h.own.2 with⟨_,q⟩|⟨g,cap,cur,q,_,_,q3,_⟩
  ·omega
  ·injection q with _ _ e2;omega
theorem Tc.grown {B:Nat}{v:aF}{rows:List (az)}{us:ay}(h:Tc w B v rows us)(z:aB w w'):Tc w' B v rows us:=
 h.UZ (λk I=>z.block k (by
  rcases I with e|⟨u,hu,e⟩
  ·exact(h.own.lt k e).2
  ·obtain⟨i,hi,q⟩:=cX hu;exact((h.row i u (by rw[aZ hi,q])).1.lt k e).2) pG)
structure Kz (w w3:A)(b r n:Nat)(od:Int)(wk:Bool)(vS:aF)(en nd:Int)(W:A):Prop where
 g:aB w W
 g3:aB w3 W
 lt:w3.heap.size<W.heap.size
 c0:W.cell? (ah w.heap.size)=some (ai b)
 c1:W.cell? (O w.heap.size 1)=some (ai r)
 c4:W.cell? (O (w.heap.size+1) 4)=some (Y od)
 c6:W.cell? (O (w.heap.size+1) 6)=some (.bool wk)
 d0:W.cell? (ah w3.heap.size)=some vS
 d1:W.cell? (O w3.heap.size 1)=some (Y en)
 d2:W.cell? (O w3.heap.size 2)=some (Y nd)
 m1:∃a k,W.cell? (O r 1)=some (.slice a n k)
variable {w3 W W1:A}{b r n:Nat}{od en nd:Int}{wk:Bool}{vS:aF}
theorem Kz.next (h:Kz w w3 b r n od wk vS en nd W)(z:aB W W1):Kz w w3 b r n od wk vS en nd W1:=
 have k:∀{x u},W.cell? x=some u->W1.cell? x=some u:=λe=>z.cell e pG
 ⟨h.g.trans z,h.g3.trans z,dH h.lt z.size,k h.c0,k h.c1,k h.c4,k h.c6,k h.d0,k h.d1,k h.d2,by obtain⟨a,c,q⟩:=h.m1;exact⟨a,c,k q⟩⟩
theorem Kz.first {kd on bu:Int}{tx:aA}{va:ax}{vn vc:Nat}(ZJ:((w.alloc (.cells #[ai b,ai r] 83)).alloc (.cells #[Y kd,Y on,.string tx,.slice va vn vc,Y od,Y bu,.bool wk] 63)).grownBy w3 none)(hr:∃a k,ak w r 1 (.slice a n k)):Kz w w3 b r n od wk vS en nd (w3.alloc (.cells #[vS,Y en,Y nd] 50)):=by
 have ga:=di w3 (.cells #[vS,Y en,Y nd] 50) none;have e1:=gp w (.cells #[ai b,ai r] 83);have e2:=gp (w.alloc (.cells #[ai b,ai r] 83)) (.cells #[Y kd,Y on,.string tx,.slice va vn vc,Y od,Y bu,.bool wk] 63);rw[Hx]at e2;have e3:=gp w3 (.cells #[vS,Y en,Y nd] 50);have g1:=di w (.cells #[ai b,ai r] 83) none;have g2:=di (w.alloc (.cells #[ai b,ai r] 83)) (.cells #[Y kd,Y on,.string tx,.slice va vn vc,Y od,Y bu,.bool wk] 63) none;have gw:=(g2.trans ZJ).trans ga;have gv:=ZJ.trans ga;exact⟨g1.trans gw,ga,pG,gw.cell (Z0 e1 0 _ rfl) pG,gw.cell (Z0 e1 1 _ rfl) pG,gv.cell (Z0 e2 4 _ rfl) pG,gv.cell (Z0 e2 6 _ rfl) pG,Z0 e3 0 _ rfl,Z0 e3 1 _ rfl,Z0 e3 2 _ rfl,by obtain⟨a,c,q⟩:=hr;exact⟨a,c,(g1.trans gw).cell q pG⟩⟩
theorem Tc.low {B B':Nat}{v:aF}{rows:List (az)}{us:ay}(h:Tc w B' v rows us)(hB:B<=B'):Tc w B v rows us:=⟨CM h.own hB,λi u hu=>⟨CM (h.row i u hu).1 hB,(h.row i u hu).2⟩,h.yM,h.nil⟩
theorem Tc.in {B:Nat}{v:aF}{rows:List (az)}{us:ay}(h:Tc w B v rows us):(∀k,v.ownBlock=some k->B<=k/\k<w.heap.size)/\∀u∈us,∀k,u.ownBlock=some k->B<=k/\k<w.heap.size:=
 ⟨λk e=>h.own.lt k e,λu hu k e=>by
  obtain⟨i,hi,q⟩:=cX hu;exact(h.row i u (by rw[aZ hi,q])).1.lt k e⟩
theorem ads {H N:Nat}{v:aF}{rows:List (az)}{us:ay}(h:LX W B Z V D c K N)(ht:Tc w3 H v rows us)(hB:B<=H)(I:∀k,H<=k->k<w3.heap.size->W.heap[k]?=w3.heap[k]?)(hr:∀r∈rows,r.length<=1000)(RI:rows.length<=100000)(hN:N<=800000000000)(hF:∀k,H<=k->k<w3.heap.size->Yj Z V k/\∀x,K x->k∉x.S):aq 63 #[ai Z,v] W λe w'=>e=.returned (.tuple #[])/\∃V' D' c' K',LX w' B Z V' D' c' K' (N+(65*Qg rows.length+65))/\Rp W w' B Z (λk=>H<=k/\k<w3.heap.size) V V' K K':=
 ans h ((ht.UZ (λk q=>(q.elim (λe=>(ht.in.1 k e)) (λ⟨u,hu,e⟩=>ht.in.2 u hu k e)).elim (I k))).low hB) hr RI hN (λk q=>hF k q.1 q.2) ht.in.1 ht.in.2
theorem anB {w8 aw av:A}{H:Nat}{V':LV}{D':LD}{c':Nat}{K':VX->Prop}{v:aF}{rows:List (az)}{us:ay}(h:LX aw B Z V' D' c' K' (200000*T+20+(65*Qg rows.length+65)))(hT:T<=1100000)(hW:Rp av aw B Z (λk=>H<=k/\k<w3.heap.size) V V' K K')(h0:LW w B Z V D c K)(hw:w.heap.size<=W.heap.size)(h3:w3.heap.size<=W.heap.size)(bR:w8.heap.size<=av.heap.size)(z:aB w8 av)(ht:Tc w8 W.heap.size v rows us)(hr:∀r∈rows,r.length<=1000)(RI:rows.length<=200):aq 63 #[ai Z,v] aw λe w'=>e=.returned (.tuple #[])/\∃V2 D2 c2 K2,LG w' B Z V2 D2 c2 K2 (T+1)/\Wp B Z aw w'/\∀k,w.heap.size<=k->k<av.heap.size->¬(H<=k/\k<w3.heap.size)->¬(W.heap.size<=k/\k<w8.heap.size)->w'.heap[k]?=av.heap[k]?:=by
 have V3:Qg rows.length<=102:=by unfold Qg;split<;>omega
 have hf:∀k,w.heap.size<=k->Yj Z V k:=λk I=>Ns h0 I
 have hB:=h0.hB;refine(ads h ht J (λk q1 q2=> ?_) hr J J (λk q1 q2=>⟨hW.fr k J (hf k J),λx hx q=> ?_⟩)).mono ?_
 ·exact(hW.bl k J (hf k J) (λr=>J)).trans (z.block k q2 pG)
 ·rcases hW.kn x hx with r|r
  ·have:=((h0.kp x r).2 k q).1;omega
  ·rcases r k q with r|r<;>omega
 ·rintro e w' ⟨rfl,V2,D2,c2,K2,hX,W7⟩;exact⟨rfl,V2,D2,c2,K2,hX.lg J,W7.VW,λk k1 k2 k3 k4=>(W7.bl k (dH k2 hW.VW.size) (hW.fr k k2 (hf k k1)) k4).trans (hW.bl k k2 (hf k k1) k3)⟩
theorem anC (w8:A)(v:aF)(en nd:Int):(w8.alloc (.cells #[v,Y en,Y nd] 50)).cell? (ah w8.heap.size)=some v/\(w8.alloc (.cells #[v,Y en,Y nd] 50)).cell? (O w8.heap.size 1)=some (Y en)/\(w8.alloc (.cells #[v,Y en,Y nd] 50)).cell? (O w8.heap.size 2)=some (Y nd):=
 have e:=gp w8 (.cells #[v,Y en,Y nd] 50)
 ⟨Z0 e 0 _ rfl,Z0 e 1 _ rfl,Z0 e 2 _ rfl⟩
theorem anD {wy w8 av:A}{H:Nat}(Yc:∀k,w.heap.size<=k->k<av.heap.size->¬(H<=k/\k<w3.heap.size)->¬(W.heap.size<=k/\k<w8.heap.size)->wy.heap[k]?=av.heap[k]?)(h:Kz w w3 b r n od wk vS en nd av)(h3:w3.heap.size<W.heap.size)(h8:W.heap.size<=w8.heap.size)(XP:w8.heap.size<av.heap.size)(e1:ak av w8.heap.size 1 (Y en))(e2:ak av w8.heap.size 2 (Y nd))(Yu:w.heap.size<=w3.heap.size):wy.cell? (O w3.heap.size 1)=some (Y en)/\wy.cell? (O w3.heap.size 2)=some (Y nd)/\wy.cell? (O w8.heap.size 1)=some (Y en)/\wy.cell? (O w8.heap.size 2)=some (Y nd):=by
 have b3:=Yc w3.heap.size Yu h.lt J J;have b8:=Yc w8.heap.size J XP J J;exact⟨(cJ (a:=(O w3.heap.size 1)) b3).trans h.d1,(cJ (a:=(O w3.heap.size 2)) b3).trans h.d2,(cJ (a:=(O w8.heap.size 1)) b8).trans e1,(cJ (a:=(O w8.heap.size 2)) b8).trans e2⟩
theorem anE (s:aA):(L6 s=-1/\¬(0<=L6 s))\/(0<=L6 s/\L6 s<=3000/\(Xi (Tr (W5 s))).length<=3000/\L6 s=((Xi (Tr (W5 s))).length:Int)):=by
 unfold L6;split
 ·exact .inr ⟨J,J,J,rfl⟩
 ·exact .inl ⟨rfl,J⟩
theorem anF (h:LG w B Z V D c K T)(hT:T<=1100000)(aL:VP w)(x:MP)(hx:x∈D.ms)(kd on od bu:Int)(tx:aA)(va:ax)(vn vc:Nat)(wk:Bool)(bb:-9223372036854775808<=bu)(aK:bu<=9223372036854775807):aq 42 #[ai Z,.agg #[ai x.b,ai x.r],.agg #[Y kd,Y on,.string tx,.slice va vn vc,Y od,Y bu,.bool wk]] w λe w'=>e=.returned (.bool true)/\T4 w B Z T w':=by
 have hM:∀W,aB w W->PL W x:=λW z=>((h.grown z).lw.kp _ (h.ms _ hx)).1
 have aT:U0 x.s:=(hM w (WW _ _)).JM;have HG:=Z8 h;obtain⟨b,r,H0,bm,s⟩:=x;have bS:=alS bu;have aX:=anA aT od wk (Oe bu);have KC:=ZQ.mk (λW=>alT bu W bb aK)
 have KS:=ZQ.mk (λ{W:A} (z:aB w W)=>am9 ((hM W z).prog) aT.md (Hs aL z) od wk (Oe bu) J)
 have KR:=ZQ.mk (λ{W:A} (z:aB w W) {rows:List (az)} {a:ax} {c:Nat} (hl:LR W W a rows) (hc:rows.length<=c) (ht:zC (W5 s) (TT s) od rows)=>alQ ((hM W z).ref) aT hl hc ht)
 have KP:=ZQ.mk (λ{W:A} (z:aB w W)=>anw ((hM W z).ref) aT)
 have KA:=ZQ.mk (λ{W:A} (z:aB w W) (hb:(Xi (Tr (W5 s))).length<=3000)=>anx ((hM W z).ref) aT hb)
 simp only at KC KS KR KP KA aX;generalize (TQ (QH (W5 s) (TT s) od wk (Oe bu))).Zx=rows at *;generalize (TQ (QH (W5 s) (TT s) od wk (Oe bu))).ending=en at *;generalize (TQ (QH (W5 s) (TT s) od wk (Oe bu))).nodes=nd at *;generalize Oe bu=bg at *;have bh:=Z8 aX;have HN:Hid (∃a k,w.cell? (O r 1)=some (.slice a (W5 s).length k)):=by
  obtain⟨ta,va,la,ra,tc,vc,lc,rc,lists,rules,_,_,hR,_,_⟩:=(hM w (WW _ _)).ref;exact⟨va,vc,by rw[<-(yJ aT).1];exact hR.m1⟩
 have b5:=aT.md.WB;obtain⟨n,hn⟩:∃n,n=(W5 s).length:=⟨_,rfl⟩;rw[<-hn]at HN b5;obtain⟨ba,aM⟩:∃x,x=(Xi (Tr (W5 s))).length:=⟨_,rfl⟩;have Hd:=aX.ends;rw[<-hn,<-aM]at Hd;have bo:=anE s;rw[<-aM]at bo;rw[<-aM]at KA;generalize ((Xi (Tr (W5 s))).filter (Ut (W5 s) (TT s))).length=al at *;generalize L6 s=p at *;have ar:=aX.ok;have Yu:=aX.lo;have bT:=Z8 aM;have cw:=Z8 hn;have ZU:Hid (∀o o',w.grownBy ((w.alloc o).alloc o') none):=λo o'=>(di w o none).trans (di _ o' none)
 have Q9:Hid (∀r∈rows,r.length<=1000):=λr hr=>by rw[bh.out.told.ok.len r hr];have:=aT.md.WB;simp only at this;omega
 have RI:rows.length<=100000:=aX.told.len;have aO:=h.lw.hB;clear h hM hx aL aX aM hn;have bq:decide (0<=p)=false\/(0<=p/\p<=3000/\ba<=3000/\0<=2*(n:Int)*p/\2*(n:Int)*p<=48000/\p=ba):=by
  rcases bo with⟨_,q⟩|⟨q1,q2,q3,q4⟩
  ·exact .inl qE
  ·have e1:2*(n:Int)*p<=16*3000:=Int.mul_le_mul J q2 q1 J;exact .inr ⟨q1,q2,q3,fV J q1,J,q4⟩
 have Sm:(nd<=bg)\/(¬(nd<=bg)/\bg<1/\(nd==0)=true):=by
  by_cases q:nd<=bg
  ·exact .inl q
  ·rcases ar with r|⟨r1,r2⟩
   ·exact absurd r q
   ·exact .inr ⟨q,r1,by simpa using r2⟩
 have bK:((en==0)=true/\((rows.length:Int)==(al:Int))=true)\/((en==0)=false/\(en==1)=true/\((nd==bg)=true\/((nd==bg)=false/\bg<1))/\(p=ba->decide (2*(n:Int)*p+1<=bg)=false))\/((en==0)=false/\(en==1)=false/\(en==2)=true/\((rows.length:Int)==100000)=true):=by
  rcases Hd with⟨q1,q2⟩|⟨q1,q2,q3⟩|⟨q1,q2⟩
  ·exact .inl ⟨by simpa using q1,by rw[q2];simp⟩
  ·refine .inr (.inl ⟨by rw[q1];rfl,by simpa using q1,?_,λe=>fQ (by rw[e];omega)⟩)
   by_cases anZ:nd=bg
   ·exact .inl (by simpa using anZ)
   ·exact .inr ⟨by simpa using anZ,J⟩
  ·exact .inr (.inr ⟨by rw[q1];rfl,by rw[q1];rfl,by simpa using q1,by rw[q2];rfl⟩)
 clear Hd bo ar;have bM:(200:Int)<rows.length\/(¬((200:Int)<rows.length)/\rows.length<=200):=J;rcases bq with hp|⟨hp,bU,cd,aW,bj,aS⟩<;>rcases Sm with ho|⟨ho,WT,bC⟩<;>rcases bK with⟨bp,br⟩|⟨bp,bL,bD|⟨bD,bW⟩,bt⟩|⟨bp,bL,bD,bt⟩<;>rcases bM with Vm|⟨hle,bB⟩
 all_goals (try have bX:=bt aS)
 all_goals (try clear aS)
 all_goals
  go_enter Tryz.func42,Tryz.ntmps42;go_wp2_with (first|(go_at_call 63;refine(anB a7.out hT UA.out HG.out.lw PZ.out.g.size (gY PZ.out.lt) a6.out.size a6.out b6.out Q9.out J).mono ?_;rintro e wy ⟨rfl,V2,D2,c2,K2,aG,aR,Yc⟩;have W6:Hid (T4 w B Z T wy):=⟨V2,D2,c2,K2,aG,(((Wp.refl B Z w).grown aO (PZ.out.g.trans (aH.out.trans a6.out)) (λk e=>pL)).trans UA.out.VW).trans aR⟩;have zz:=bP.out wy Yc;obtain⟨y1,y2,y3,y4⟩:=zz;clear Yc aG aR)|(go_at_call 63;refine(KL.get (PZ.out.next (aH.out.trans a6.out))).mono ?_;rintro e aw ⟨rfl,V1,D1,aY,K1,bA,XW⟩;have e0:=bQ.out aw V1 K1 XW;have a7:=Z8 bA;have UA:=Z8 XW;clear bA XW)|(go_at_call 63;have hz:=Vm;clear hz;refine(KL.get PZ.out).mono ?_;rintro e wy ⟨rfl,V2,D2,c2,K2,hX,hW⟩;have W6:Hid (T4 w B Z T wy):=⟨V2,D2,c2,K2,hX.lg (by have:=adp RI;omega),((Wp.refl B Z w).grown aO PZ.out.g (λk e=>pL)).trans hW.VW⟩;clear hX hW)|(go_at_call 64;refine(alR (HU.out.grown (PZ.out.next (aH.out.trans (di _ _ none))).g3).lr.1 (b6.out.grown (di _ _ none)).lr.1 J Q9.out).mono ?_;rintro e b9 ⟨rfl,aP⟩;have a6:Hid (aB w8 b9):=(di _ _ none).trans aP;have bE:w8.heap.size<b9.heap.size:=dH pG aP.size;clear d0 e0;have d0:=(PZ.out.next (aH.out.trans a6.out)).d0;have bQ:Hid (∀(aw:A) (V1:LV) (K1:VX->Prop),Rp b9 aw B Z (λk=>((w.alloc (.cells #[ai b,ai r] 83)).alloc (.cells #[Y kd,Y on,.string tx,.slice va vn vc,Y od,Y bu,.bool wk] 63)).heap.size<=k/\k<w3.heap.size) V V1 K K1->aw.cell? (ah w8.heap.size)=some (.slice ta rows.length tc)):=λaw V1 K1 hW=>(cJ (a:=(ah w8.heap.size)) (hW.bl w8.heap.size bE (Ns HG.out.lw (by have:=PZ.out.g.size;have:=aH.out.size;omega)) (λq=>by have:=PZ.out.lt;have:=aH.out.size;omega))).trans (aP.cell Ji.out.1 pG);have bP:Hid (∀wy:A,(∀k,w.heap.size<=k->k<b9.heap.size->¬(((w.alloc (.cells #[ai b,ai r] 83)).alloc (.cells #[Y kd,Y on,.string tx,.slice va vn vc,Y od,Y bu,.bool wk] 63)).heap.size<=k/\k<w3.heap.size)->¬(wz.heap.size<=k/\k<w8.heap.size)->wy.heap[k]?=b9.heap[k]?)->wy.cell? (O w3.heap.size 1)=some (Y en)/\wy.cell? (O w3.heap.size 2)=some (Y nd)/\wy.cell? (O w8.heap.size 1)=some (Y en)/\wy.cell? (O w8.heap.size 2)=some (Y nd)):=λwy Yc=>anD Yc (PZ.out.next (aH.out.trans a6.out)) PZ.out.lt aH.out.size bE (aP.cell Ji.out.2.1 pG) (aP.cell Ji.out.2.2 pG) Gn.out;clear aP)|(go_at_call 62;refine(KA.get PZ.out.g cd).mono ?_;rintro e wz ⟨aa,ac,rfl,aV⟩;have PZ:=Z8 (PZ.out.next aV);clear c0 c1 c4 c6 d0 d1 d2 m1 aV;obtain⟨-,-,-,c0,c1,c4,c6,d0,d1,d2,ma,mk,m1⟩:=PZ.out)|(go_at_call 61;refine(KP.get PZ.out.g).mono ?_;rintro e wz ⟨rfl,aV⟩;have PZ:=Z8 (PZ.out.next aV);clear c0 c1 c4 c6 d0 d1 d2 m1 aV;obtain⟨-,-,-,c0,c1,c4,c6,d0,d1,d2,ma,mk,m1⟩:=PZ.out)|(go_at_call 60;refine(KR.get PZ.out.g (HU.out.grown PZ.out.g3).lr.1 (HU.out.grown PZ.out.g3).lr.2 bh.out.told).mono ?_;rintro e wz ⟨rfl,aV⟩;have PZ:=Z8 (PZ.out.next aV);clear c0 c1 c4 c6 d0 d1 d2 m1 aV;obtain⟨-,-,-,c0,c1,c4,c6,d0,d1,d2,ma,mk,m1⟩:=PZ.out)|(go_at_call 29;refine(KS.get PZ.out.g).mono ?_;rintro e w8 ⟨vS,rfl,hO,bk⟩;obtain⟨He,bc⟩:=(hO w8 (λ_ _ _ q _=>q)).told;have b6:=Z8 bc;obtain⟨ta,tc,rfl⟩:=Wt bc.own;have aH:=Z8 bk;have Ji:=Z8 (anC w8 (.slice ta rows.length tc) en nd);clear c0 c1 c4 c6 d0 d1 d2 m1 hO bc bk;have d0:=(PZ.out.next (aH.out.trans (di w8 (.cells #[.slice ta rows.length tc,Y en,Y nd] 50) none))).d0;have e0:=Ji.out.1)|(go_at_call 29;refine(KS.get (ZU.out _ _)).mono ?_;rintro e w3 ⟨vS,rfl,hO,ZJ⟩;obtain⟨us,aI⟩:=(hO w3 (λ_ _ _ q _=>q)).told;have HU:=Z8 aI;obtain⟨sa,sc,rfl⟩:=Wt aI.own;have PZ:=Z8 (Kz.first (n:=n) (vS:=.slice sa rows.length sc) (en:=en) (nd:=nd) ZJ HN.out);have Gn:Hid (w.heap.size<=w3.heap.size):=gZ (ZU.out _ _).size ZJ.size;have KL:=ZQ.mk (λ{W:A} (hZ:Kz w w3 b r n od wk (.slice sa rows.length sc) en nd W)=>ads (HG.out.grown hZ.g).lx HU.out (by rw[AG];omega) (λk _ q2=>hZ.g3.block k q2 pG) Q9.out RI J (λk q1 q2=>by rw[AG]at q1;exact⟨Ns HG.out.lw J,λx hx q=>by have:=((HG.out.lw.kp x hx).2 k q).1;omega⟩));obtain⟨-,-,-,c0,c1,c4,c6,d0,d1,d2,ma,mk,m1⟩:=PZ.out;clear hO aI ZJ)|(go_at_call 59;refine(KC.get _).mono ?_;rintro e w' ⟨rfl,Zf⟩;subst w'))
  go_ret;exact⟨rfl,W6.out⟩
theorem adt (h:LG w B Z V D c K T)(hT:T<=1100000)(hd:VP w)(o:TR)(I:o.kd=5)(Yu:-9223372036854775808<=o.on)(bn:o.on<=9223372036854775807)(hv:-9223372036854775808<=o.bu)(Ws:o.bu<=9223372036854775807):aq 33 #[ai Z,.agg o.cells] w λe w'=>e=.returned (.bool true)/\T4 w B Z T w':=by
 have a8:=Z8 hd;clear hd;obtain⟨kd,on,tx,va,vn,vc,od,bu,wk⟩:=o;unfold TR.cells;simp only at I Yu bn hv Ws⊢;have Vn:=h.lw.hB;have RD:=h.lw.slt;obtain⟨ma,mc,em⟩:=Wt (h.lw.own 0 J);have m0:ak w Z 0 (.slice ma D.ms.length mc):=(Z0 h.lw.Zl 0 _ rfl).trans (iJ some em);have m1:∀o,(w.alloc o).cell? (ah Z)=some (.slice ma D.ms.length mc):=λo=>(di w o none).cell m0 pG
 have HG:=Z8 h;subst I;by_cases h0:D.ms.length=0
 ·rw[h0]at m1;clear h m0 em h0;go_enter Tryz.func33,Tryz.ntmps33;exact pq
 ·have aQ:=h.m20;have aS:=EJ on (D.ms.length:Int) J;obtain⟨P,hP⟩:∃P:Nat,Rj on (D.ms.length:Int)=P:=⟨(Rj on (D.ms.length:Int)).toNat,J⟩;rw[hP]at aS;have bf:P<D.ms.length:=J;obtain⟨x,hx⟩:∃x,D.ms[P]?=some x:=⟨D.ms[P],by simp[bf]⟩;obtain⟨gm,cm,e1,bI,_⟩:=h.lw.at (i:=0) (j:=P*2) J (Le hx).1;obtain⟨bN,bO,aJ,T8,_⟩:=h.lw.at (i:=0) (j:=P*2+1) J (Le hx).2;rw[e1]at aJ;injection aJ with q1 q2 q3;injection q1 with q1;injection q1 with q1 _ _;subst q1;rw[e1]at em;injection em with q4 q5 q6;subst q4;have bJ:=(h.lw.PJ (i:=0) J (by rw[e1];rfl:(V.get 0).ownBlock=some gm)).2;have bz:(((D.ms.length:Nat):Int)==0)=false:=qb;have KP:=ZQ.mk (λW=>EI on (D.ms.length:Int) W Yu bn J J)
  rw[hP]at KP;have cg:(0:Int)<=P:=J;have bV:(P:Int)<D.ms.length:=J;have HX:=Z8 (cq hx);clear h e1 hx hP;have KT:=ZQ.mk (λ{W:A} (z:aB w W)=>anF (HG.out.grown z) hT (Hs a8.out z) x HX.out 5 on od bu tx va vn vc wk hv Ws)
  go_enter Tryz.func33,Tryz.ntmps33;go_wp2;go_region_held3 (λw'=>w'.cell? (ah Z)=some (aj gm D.ms.length mc)/\w'.cell? (O w.heap.size 1)=some (Y on)/\w'.cell? (O gm (P*2))=some (ai x.b)/\w'.cell? (O gm (P*2+1))=some (ai x.r)) (go_keep)
   (first|(go_at_call 39;refine(KP.get _).mono ?_;rintro e w' ⟨rfl,Zf⟩;subst w'))
  all_goals go_wp2_with (go_at_call 42;refine(KT.get (((di w _ none).trans (di _ _ none)).trans (ZG _ none))).mono ?_;rintro e w1 ⟨rfl,hS⟩)
  all_goals go_ret
  all_goals exact⟨rfl,hS.from Vn (((di w _ none).trans (di _ _ none)).trans (ZG _ none))⟩
theorem anG (h:LG w B Z V D c K T)(hT:T<=1100000)(ht:Sj w)(hd:VP w)(o:TR)(I:o.kd<=5)(Yu:-9223372036854775808<=o.on)(bn:o.on<=9223372036854775807){Z7:az}(hv:Qt w o.va o.vn Z7)(Ws:o.vn<=1100000)(bb:-9223372036854775808<=o.bu)(aK:o.bu<=9223372036854775807):aq 33 #[ai Z,.agg o.cells] w λe w'=>e=.returned (.bool true)/\T4 w B Z T w':=by
 by_cases h5:o.kd=5
 ·exact adt h hT hd o h5 Yu bn bb aK
 ·exact ake h hT ht o J Yu bn hv Ws
def yI (w0:A)(B Z n:Nat)(m:Nat)(vo vi:aF)(wr:A):Prop:=
 ∃(i:Nat) (V:LV) (D:LD) (c:Nat) (K:VX->Prop),i<=n/\m=n-i/\vo=.bool true/\vi=Y i/\LG wr B Z V D c K (2+i)/\Wp B Z w0 wr
theorem anH (v:aF)(ops:List TR)(hv:AR w v ops)(ht:Sj w)(hd:VP w)(hn:ops.length<=1050000)(hb:∀o∈ops,(-9223372036854775808<=o.on/\o.on<=9223372036854775807)/\(-9223372036854775808<=o.bu/\o.bu<=9223372036854775807)/\∃Z7,Qt w o.va o.vn Z7/\o.vn<=1100000):aq 15 #[v,Y 5] w (au w (.bool true)):=by
 obtain⟨sa,sc,rfl,bF⟩:∃sa sc,v=.slice sa ops.length sc/\∀i o,ops[i]?=some o->∃g off,sa=some (O g off)/\g<w.heap.size/\∀j u,o.cells[j]?=some u->w.cell? (O g (off+i*7+j))=some u:=by
  rcases hv with⟨rfl,a,c,e⟩|⟨g,off,cap,e,F,h2⟩
  ·exact⟨a,c,e,λi o ho=>by simp at ho⟩
  ·exact⟨_,cap,e,λi o ho=>⟨g,off,rfl,F,h2 i o ho⟩⟩
 have HT:=Z8 ht;have HD:=Z8 hd;have HS:=Z8 bF;have HB:=Z8 hb;have KB:=ZQ.mk (aaW (ajR w) (OH ht (λk I=>gq w _ I)) aaZ)
 unfold aaZ at KB;clear hv bF ht hb hd;go_enter Tryz.func15,Tryz.ntmps15;go_wp2_with (first|(go_at_call 33;refine KF.get.mono ?_;rintro e w2 ⟨rfl,V2,D2,c2,K2,aG,aR⟩)|(go_at_call 32;refine KB.get.mono ?_;rintro e w1 ⟨rfl,V1,D1,c1,K1,bG,bs⟩;have KF:=ZQ.mk (adt bG J (Hu HD.out (AQ bs 0 (Ht HD.out))) ⟨5,0,.empty,none,0,0,0,100,false⟩ rfl pF pF pF pF);unfold TR.cells at KF;simp only at KF))
 have W6:Hid (yI (w.alloc (.cells #[af,af,af,af,af,af,af,Y 0] 59)) (w.heap.size+1) w.heap.size ops.length ops.length (.bool true) (Y 0) w2):=⟨0,V2,D2,c2,K2,J,J,rfl,rfl,aG,bs.trans aR⟩;clear bG bs aG aR KB KF
 go_loopg [6,8] ops.length (λm vo vi wr=>yI (w.alloc (.cells #[af,af,af,af,af,af,af,Y 0] 59)) (w.heap.size+1) w.heap.size ops.length m vo vi wr)
 case atStart=>exact W6.out
 case round=>
  clear W6;obtain⟨i,V,D,c,K,hi,rfl,rfl,rfl,hG,hF⟩:=hrel;by_cases ZR:i<ops.length
  ·have X8:(i:Int)<ops.length:=J;have Xy:(0:Int)<=i:=J;obtain⟨o,ho⟩:∃o,ops[i]?=some o:=⟨ops[i],by simp[ZR]⟩;obtain⟨g,off,rfl,UB,hc⟩:=HS.out i o ho;have Nx:=HB.out o (cq ho);have low:=AQ hF;obtain⟨Z7,Yv,cn⟩:=Nx.2.2;have cell:∀j u,o.cells[j]?=some u->ak wr g (off+i*7+j) u:=λj u hu=>(cJ (a:=(O g (off+i*7+j))) (low g UB)).trans (hc j u hu)
   have k0:ak wr g (off+i*7) (Y o.kd):=cell 0 _ rfl;have k1:=cell 1 _ rfl;have k2:=cell 2 _ rfl;have k3:=cell 3 _ rfl;have k4:=cell 4 _ rfl;have k5:=cell 5 _ rfl;have k6:=cell 6 _ rfl;have ht:=OH HT.out low;by_cases I:o.kd<=5
   ·have KS:=ZQ.mk (anG hG J ht (Hu HD.out (low 0 (Ht HD.out))) o I Nx.1.1 Nx.1.2 (akf Yv low) cn Nx.2.1.1 Nx.2.1.2);unfold TR.cells at KS;have HF:=Z8 hF;clear hG hF ht low cell hc Yv cn Nx;go_wp2_with (first|(go_at_call 34;refine(ajt aG J).mono ?_;rintro e w3 ⟨rfl,bH,ZJ⟩)|(go_at_call 33;refine KS.get.mono ?_;rintro e w2 ⟨rfl,V2,D2,c2,K2,aG,aR⟩))
    have HR:Hid (yI (w.alloc (.cells #[af,af,af,af,af,af,af,Y 0] 59)) (w.heap.size+1) w.heap.size ops.length (ops.length-(i+1)) (.bool true) (Y ((i:Int)+1)) w3):=⟨i+1,V2,D2,c2,K2,J,rfl,rfl,pG,bH,(HF.out.trans aR).grown aG.lw.hB ZJ (λk e=>pL)⟩
    clear aG aR bH ZJ
    go_roundg (ops.length-(i+1))
    case measure=>omega
    case rel=>exact HR.out
   ·have aC:(5:Int)<o.kd:=J;have HG:=Z8 (hG.later (T':=2+(i+1)) J);have HF:=Z8 hF;clear hG hF ht low cell hc Yv cn Nx;go_wp2
    go_roundg (ops.length-(i+1))
    case measure=>omega
    case rel=>exact⟨i+1,V,D,c,K,J,rfl,rfl,pQ,HG.out,HF.out⟩
  ·obtain rfl:i=ops.length:=J;have HF:=Z8 hF;clear hG hF;go_wp2;go_ret;exact⟨rfl,ajS HF.out⟩
end Go.Proofs.YthpcbbnabnlanaaGreatDoor
