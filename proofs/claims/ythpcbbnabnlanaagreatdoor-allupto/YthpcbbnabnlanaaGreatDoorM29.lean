import Derived.Test.YthpcbbnabnlanaaGreatDoorM27
import Derived.Laws.CopyOwn
import Derived.Deep.QuietTactic
import Derived.BigQuiet
namespace Go.Proofs.YthpcbbnabnlanaaGreatDoor
set_option maxHeartbeats 8000000
set_option maxRecDepth 100000
open Go.Proofs.Tryz
open Go.RowKit
set_option linter.all false
variable {w w' w1:A}{B Z c T:Nat}{V:LV}{D:LD}{K:VX->Prop}
structure Qt (w:A)(va:ax)(vn:Nat)(Z7:az):Prop where
 len:Z7.length=vn
 at_:∀(j:Nat) (x:Int),Z7[j]?=some x->∃g off,va=some (O g off)/\g<w.heap.size/\w.cell? (O g (off+j))=some (Y x)
theorem Qt.grown {va:ax}{vn:Nat}{Z7:az}(h:Qt w va vn Z7)(z:aB w w'):Qt w' va vn Z7:=⟨h.len,λj x hx=>by
 obtain⟨g,o,e,F,h2⟩:=h.at_ j x hx;exact⟨g,o,e,dH F z.size,z.cell h2 pG⟩⟩
theorem Qt.AJ {va:ax}{vn:Nat}{Z7:az}(h:Qt w va vn Z7):Z7=[]\/∃g o,va=some (O g o)/\O6 w g o Z7:=by
 cases hv:Z7 with
 |nil=>exact .inl rfl
 |cons a l=>
  obtain⟨g,o,e,_,_⟩:=h.at_ 0 a (by rw[hv];rfl);refine .inr ⟨g,o,e,λp hp=> ?_⟩
  rw[<-hv]at hp⊢;obtain⟨g',o',e',_,q⟩:=h.at_ p.toNat _ (FY hp);rw[e]at e'
  cases e';exact q
theorem aj1 {b:Nat}{V:List Xx}{C:List Yz}{t:List UInt8}{vv:aF}{Z7:az}(h:Ov w b V C t)(hM:A5 V C)(hV:Lj w vv Z7):aq 27 #[ai b,vv] w (au w (.bool (Ut V C Z7))):=by
 obtain⟨bc,B,vV,vC,cs,F,h2,h3⟩:=h.set;subst h3;exact aiz F h2 hV hM.vars hM.WB (λx hx=>hM.cons x.c (gU.2 ⟨x,hx,rfl⟩)) (by have:=hM.O8;simpa using this)
theorem AH {r cv:Nat}{s:aA}{a:ax}{Z7:az}(h:Qv w r s)(hG:U0 s)(hV:Z7=[]\/∃g o,a=some (O g o)/\O6 w g o Z7):aq 57 #[ai r,.slice a Z7.length cv] w (au w (.bool (Ut (W5 s) (TT s) Z7))):=by
 obtain⟨ta,va,la,ra,tc,vc,lc,rc,lists,rules,_,_,hR,hl,hr⟩:=h;have q:=aik (cv:=cv) hR (hG.fit hl hr) hV;rw[hG.FR hl hr]at q;exact q
theorem aj2 (D:LD)(L:List LP):Wo D 3 L={D with us:=D.us++L,xs:=D.xs++L.map (·.mark)}:=by
 induction L generalizing D with
 |nil=>simp[Wo]
 |cons x L ih=>
  have e:Wo D 3 (x::L)=Wo ((D.pl 3 x).pk 4 x.mark) 3 L:=rfl;rw[e,ih];simp[LD.pl,LD.pk]
structure LX (w:A)(B Z:Nat)(V:LV)(D:LD)(c:Nat)(K:VX->Prop)(N:Nat):Prop where
 lw:LW w B Z V D c K
 n1:D.ks=D.ns.map (·.mark)
 n2:D.xs=D.us.map (·.mark)
 n3:D.ys=D.rs.map (·.mark)
 l1:∀x∈D.ns,K (QM x)/\x.len<=3000000/\∃s,x.mark=.string s
 l2:∀x∈D.us,K (QM x)/\x.len<=3000000/\∃i,x.mark=Y i
 l3:∀x∈D.rs,(∃bs,K (FK x bs))/\x.len<=3000000/\∃i,x.mark=Y i
 ms:∀x∈D.ms,K (AY x)
 m20:D.ms.length<=20
 bd:∀i,i<7->D.Zi i<=N
 cb:c<=N
variable {N:Nat}
theorem LG.lx (h:LG w B Z V D c K T):LX w B Z V D c K (200000*T+20):=⟨h.lw,h.n1,h.n2,h.n3,h.l1,h.l2,h.l3,h.ms,h.m20,h.bd,by have:=h.cb;omega⟩
theorem LX.lg (h:LX w B Z V D c K N)(hN:N<=200000*T):LG w B Z V D c K T:=⟨h.lw,h.n1,h.n2,h.n3,h.l1,h.l2,h.l3,h.ms,h.m20,λi hi=>by have:=h.bd i hi;omega,by have:=h.cb;omega⟩
def mL{P:Prop}(h:P:=by
 obtain⟨⟨bs,q1⟩,q2⟩:=h.l3 x hx;exact⟨⟨bs,k2 _ q1⟩,q2⟩):P:=h
theorem LX.Qe {K2:VX->Prop}{V2:LV}{L:List LP}{i:Int}{n:Nat}(h:LX w B Z V D c K N)(hl:LW w' B Z V2 (Wo D 3 L) (c+1) K2)(k2:∀x,K x->K2 x)(F:∀x∈L,K2 (QM x)/\x.mark=Y i/\x.len<=n+65)(l1:L.length<=65)(hn:n<=2000000):LX w' B Z V2 (Wo D 3 L) (c+1) K2 (N+65):=by
 have c1:=Ot D (i:=3) (.inr (.inl rfl)) L;have e:=aj2 D L;refine⟨hl,?_,?_,?_,λx hx=> ?_,λx hx=> ?_,λx hx=> ?_,λx hx=> ?_,?_,λi hi=> ?_,?_⟩
 ·rw[e];exact h.n1
 ·rw[e];simp[h.n2]
 ·rw[e];exact h.n3
 ·rw[e]at hx;exact⟨k2 _ (h.l1 x hx).1,(h.l1 x hx).2⟩
 ·rw[e]at hx;rcases fE.1 hx with hx|hx
  ·obtain⟨q1,q2,q3⟩:=h.l2 x hx;exact⟨k2 _ q1,q2,q3⟩
  ·obtain⟨q1,q2,q3⟩:=F x hx;exact⟨q1,J,_,q2⟩
 ·rw[e]at hx;exact mL
 ·rw[e]at hx;exact k2 _ (h.ms x hx)
 ·rw[e];exact h.m20
 ·have:=h.bd i hi;have:=c1 i hi;omega
 ·have:=h.cb;omega
theorem LG.Qe {K2:VX->Prop}{V2:LV}{L:List LP}{i:Int}{n:Nat}(h:LG w B Z V D c K T)(hl:LW w' B Z V2 (Wo D 3 L) (c+1) K2)(k2:∀x,K x->K2 x)(F:∀x∈L,K2 (QM x)/\x.mark=Y i/\x.len<=n+65)(l1:L.length<=65)(hn:n<=2000000):LG w' B Z V2 (Wo D 3 L) (c+1) K2 (T+1):=(h.lx.Qe hl k2 F l1 hn).lg J
def VD (Z7:az):ay:=Z7.map (.int .i64)
theorem Sr (Z7:az):(VD Z7).length=Z7.length:=by simp[VD]
theorem Du {Z7:az}{j:Nat}{x:Int}(h:Z7[j]?=some x):(VD Z7)[j]?=some (Y x):=by simp[VD,h]
theorem aj3 (Z7:az):Z7.flatMap QE=VD Z7:=by
 induction Z7 with
 |nil=>rfl
 |cons a l ih=>simp only[dO,ih];rfl
theorem aa6 (Z7:az):∀v∈VD Z7,v.oneCell'=true:=by
 intro v hv;obtain⟨x,_,rfl⟩:=gU.1 hv;rfl
theorem aj4:(prog.info? 3).map (·.size)=some 1:=pH
theorem aj5 (Z7:az):splice (madeCells #[Y 0] (Z7.length+2)).toList 0 (VD Z7)=VD Z7++[Y 0,Y 0]:=by
 have e:(madeCells #[Y 0] (Z7.length+2)).toList=List.replicate (Z7.length+2) (Y 0):=by
  simp only[madeCells,dW,bP,Nat.mod_one];simp[List.map_const']
 rw[e];unfold splice;rw[Sr,List.take_zero,fF,ik,List.drop_replicate,show Z7.length+2-Z7.length=2 by omega];rfl
theorem aj6 {w4:A}{B g:Nat}{Z7:az}(z:w4.heap[g]?=some (.cells (splice (madeCells #[Y 0] (Z7.length+2)).toList 0 (VD Z7)).toArray 3 (0,0)))(hB:B<=g)(hm:Z7.length<=1100000):w4.ownsRow B 3 1 (aj g (Z7.length+2) (Z7.length+2)) (Z7.length+2) (VD Z7++[Y 0,Y 0]):=by
 rw[aj5]at z;refine⟨by simp[Sr],.inr ⟨g,Z7.length+2,_,rfl,hB,z,iw _,by unfold maxLen;omega,by simp[Sr],?_⟩⟩;rw[bH (by simp[Sr])]
structure Su6 (w4 w6:A)(B g:Nat)(Z7:az):Prop where
 own:w6.ownsRow B 3 1 (aj g (Z7.length+2) (Z7.length+2)) (Z7.length+2) (VD Z7++[Y 77,Y 78])
 gr:w4.grownBy w6 (some g)
theorem aj7 {w4:A}{B g:Nat}{Z7:az}(h:w4.ownsRow B 3 1 (aj g (Z7.length+2) (Z7.length+2)) (Z7.length+2) (VD Z7++[Y 0,Y 0])):(w4.cell? (O g Z7.length)=some (Y 0)/\w4.frozen? (O g Z7.length)=false)/\((w4.setCell (O g Z7.length) (Y 77)).cell? (O g (Z7.length+1))=some (Y 0)/\(w4.setCell (O g Z7.length) (Y 77)).frozen? (O g (Z7.length+1))=false)/\
   Su6 w4 ((w4.setCell (O g Z7.length) (Y 77)).setCell (O g (Z7.length+1)) (Y 78)) B g Z7:=by
 obtain⟨h5,g5⟩:=h.stored Z7.length (Y 77);obtain⟨h6,g6⟩:=h5.stored (Z7.length+1) (Y 78);have e5:(VD Z7++[Y 0,Y 0]).set Z7.length (Y 77)=VD Z7++[Y 77,Y 0]:=by
  rw[bQ _ _ rZ,Sr,ij];rfl
 have e6:(VD Z7++[Y 77,Y 0]).set (Z7.length+1) (Y 78)=VD Z7++[Y 77,Y 78]:=by
  rw[bQ _ _ rZ,Sr,show Z7.length+1-Z7.length=1 by omega];rfl
 rw[e5]at h5 h6;rw[e6]at h6;refine⟨⟨R9 h ?_,h.frozenAt _⟩,⟨R9 h5 ?_,h5.frozenAt _⟩,h6,g5.trans g6⟩
 ·rw[aO rZ,Sr,ij];rfl
 ·rw[aO rZ,Sr,show Z7.length+1-Z7.length=1 by omega];rfl
theorem aj8 {w W3 w4 w6:A}{B g:Nat}{Z7:az}(h:Su6 w4 w6 B g Z7)(hb:Below g W3 w4)(h3:aB w W3)(z:w.heap.size<=g)(hs:g<W3.heap.size):aB w w6/\(∀k o,k<g->w6.cell? (O k o)=W3.cell? (O k o))/\g<w6.heap.size:=by
 have br:=hb.size;have bl:∀k,k<g->w6.heap[k]?=W3.heap[k]?:=λk I=>(h.gr.block k J pI).trans (hb.block k I)
 refine⟨⟨h.gr.os.trans (hb.os.trans h3.os),h.gr.tape.trans (hb.tape.trans h3.tape),h.gr.output.trans (hb.output.trans h3.output),gZ h3.size (gZ br h.gr.size),λk I _=>(bl k J).trans (h3.block k I pG)⟩,λk o I=>cJ (a:=(O k o)) (bl k I),?_⟩
 have:=h.gr.size;omega
def SuR (w6:A)(n:Nat)(vs vi:aF)(wr:A):Prop:=∃i:Nat,i<=n/\vs=.bool true/\vi=Y i/\aB w6 wr
theorem Hx {w:A}{o:Obj}:(w.alloc o).heap.size=w.heap.size+1:=pG
theorem AG {w:A}{o o':Obj}:((w.alloc o).alloc o').heap.size=w.heap.size+1+1:=pG
theorem aj9 (h:LG w B Z V D c K T)(hT:T<=1100000)(x:MP)(hx:x∈D.ms)(kd on od bu:Int)(tx:aA)(va:ax)(vn vc:Nat)(wk:Bool)(Z7:az)(hv:Qt w va vn Z7)(Ws:vn<=1100000):aq 41 #[ai Z,.agg #[ai x.b,ai x.r],.agg #[Y kd,Y on,.string tx,.slice va vn vc,Y od,Y bu,.bool wk]] w λe w'=>e=.returned (.bool true)/\T4 w B Z T w':=by
 obtain rfl:Z7.length=vn:=hv.len;have HG:=Z8 h;have HV:=Z8 hv;have hMod:=(h.lw.kp _ (h.ms x hx)).1;change PL w x at hMod;obtain⟨b,r,H0,bm,s⟩:=x;have HM:=Z8 hMod;have aI:=h.cb;have dt:=h.lw.hB;clear h hv hMod;have bp:=run_make_row' (P:=prog) 33 3 (Y 0) 8 underlying33 FD rfl .i64 .i64 (Z7.length+2) J J;rw[show((Z7.length+2:Nat):Int)=(Z7.length:Int)+2 by omega]at bp;obtain⟨g,z⟩:∃g,g=w.heap.size+1+1:=⟨_,rfl⟩;have b9:=Z8 z;obtain⟨W3,Rf⟩:∃W,W=((w.alloc (.cells #[ai b,ai r] 83)).alloc (.cells #[Y kd,Y on,.string tx,.slice va Z7.length vc,Y od,Y bu,.bool wk] 63)).alloc (.cells (madeCells #[Y 0] (Z7.length+2)) 3):=⟨_,rfl⟩;have ZJ:aB w W3:=by rw[Rf];exact((di w _ none).trans (di _ _ none)).trans (di _ _ none)
 have b3:W3.heap[g]?=some (.cells (madeCells #[Y 0] (Z7.length+2)).toList.toArray 3 (0,0)):=by
  rw[bU,Rf,z];have e:=gp ((w.alloc (.cells #[ai b,ai r] 83)).alloc (.cells #[Y kd,Y on,.string tx,.slice va Z7.length vc,Y od,Y bu,.bool wk] 63)) (.cells (madeCells #[Y 0] (Z7.length+2)) 3);rw[AG]at e;exact e
 have p3:W3.cell? (ah w.heap.size)=some (ai b)/\W3.cell? (O w.heap.size 1)=some (ai r)/\W3.cell? (O (w.heap.size+1) 3)=some (.slice va Z7.length vc):=by
  rw[Rf];have e1:=gp w (.cells #[ai b,ai r] 83);have e2:=gp (w.alloc (.cells #[ai b,ai r] 83)) (.cells #[Y kd,Y on,.string tx,.slice va Z7.length vc,Y od,Y bu,.bool wk] 63);refine⟨(di _ _ none).cell ((di _ _ none).cell (Z0 e1 0 _ rfl) pG) pG,(di _ _ none).cell ((di _ _ none).cell (Z0 e1 1 _ rfl) pG) pG,(di _ _ none).cell (by rw[Hx]at e2;exact Z0 e2 3 _ rfl) pG⟩
 have s3:W3.heap.size=g+1:=by rw[Rf,z];simp
 have Oz:=Z8 s3;clear s3;have H3:=Z8 (iG ZJ (iG b3 p3));have Kg:=Z8 Rf;have Fv:=Z8 (show(VD Z7).length=Nat.min Z7.length (Z7.length+2) by rw[Sr];exact(fH J).symm);have bg:=Z8 (show 0+(VD Z7).length<=(madeCells #[Y 0] (Z7.length+2)).toList.length by rw[Sr];have:(madeCells #[Y 0] (Z7.length+2)).toList.length=Z7.length+2:=(by rw[cO];exact gy _ _);omega);have bj:Hid (0<(VD Z7).length->(some ((ah (w.heap.size+1+1)):Addr))=some (ah (w.heap.size+1+1))/\∃ad,va=some ad/\∀j v,(VD Z7)[j]?=some v->W3.cell? (ad.add j)=some v):=λh0=>by
  rw[Sr]at h0;refine⟨rfl,?_⟩;obtain⟨g',o',e,_,_⟩:=HV.out.at_ 0 (Z7[0]) (by simp[h0]);refine⟨_,e,λj v hj=> ?_⟩
  simp only[VD,dR,bK]at hj;obtain⟨x,aG,rfl⟩:=hj;obtain⟨g2,o2,e2,_,q⟩:=HV.out.at_ j x aG;rw[e]at e2
  cases e2;have P5:((O g' o'):Addr).add j=(O g' (o'+j)):=by unfold Addr.add;split<;>simp_all
  rw[P5];exact H3.out.1.cell q pG
 clear ZJ b3 p3;go_enter func41,ntmps41;rw[z]at *;clear Rf;go_wp2_with (refine wpList_copy_splice rfl _ _ 33 33 rfl 3 underlying33 aj4 _ _ _ _ _ _ rfl rfl (w.heap.size+1+1) 0 (madeCells #[Y 0] (Z7.length+2)).toList 3 (by rw[<-Kg.out];exact H3.out.2.1) (VD Z7) Fv.out (by rw[<-Kg.out];exact bj.out) bg.out (aa6 _) (w.heap.size+1+1) W3 (by rw[<-Kg.out];exact iC _ _) (iw _) ?_;intro w4 a7 Ra;have bo:=Z8 (aj6 (B:=B) a7.out J Ws);obtain⟨⟨k1,f1⟩,⟨k2,f2⟩,b6⟩:=aj7 bo.out;have aX:=Z8 b6;have Nr:=Z8 Ra;clear a7 Ra b6 bo);obtain⟨aH,aM,cw⟩:=aj8 aX.out Nr.out H3.out.1 J (by rw[Oz.out];omega);have q0:=(aM w.heap.size 0 J).trans H3.out.2.2.1;have q1:=(aM w.heap.size 1 J).trans H3.out.2.2.2.1;have q2:=(aM (w.heap.size+1) 3 J).trans H3.out.2.2.2.2;have aY:=aX.out.own;generalize ((w4.setCell (O (w.heap.size+1+1) Z7.length) (Y 77)).setCell (O (w.heap.size+1+1) (Z7.length+1)) (Y 78))=w6 at *;have hM:∀W,aB w W->PL W ⟨b,r,H0,bm,s⟩:=λW z=>((HG.out.grown z).lw.kp _ (HG.out.ms _ hx)).1
 obtain⟨R,hR⟩:∃R,Ut (W5 s) (TT s) Z7=R:=⟨_,rfl⟩;have KS:=ZQ.mk (λ{W:A} (aL:aB w6 W)=>aj1 (vv:=.slice (some (ah (w.heap.size+1+1))) Z7.length (Z7.length+2)) (Z7:=Z7) ((hM W (aH.trans aL)).prog) HM.out.JM.md (.inr ⟨_,_,rfl,λj u hu=>aL.cell (R9 aY (by
  rw[aj3]at hu;rw[aT (aU.1 hu).1];exact hu)) pG,dH cw aL.size⟩))
 have KR:=ZQ.mk (λ{W:A} (aL:aB w W)=>AH (cv:=vc) (a:=va) (Z7:=Z7) ((hM W aL).ref) HM.out.JM ((HV.out.grown aL).AJ))
 simp only at KS KR;rw[hR]at KS KR;have bq:=Z8 aY;have bt:=Z8 aH;have aG:=Z8 hx;clear bj bg Fv H3 Kg Nr aX hM aM hR aY HM k1 f1 k2 f2 aH hx bp Oz;have bB:(Z7.length:Int)<=(Z7.length:Int)+2:=J;go_region_law (go_simp;go_at_call 27;refine(KS.get (ZG _ none)).mono ?_;rintro e w7 ⟨rfl,bT⟩);clear bB KS;have aK:=(ZG w6 none).trans bT;have aN:=bq.out.kept aK (XY _);have a6:=Z8 (bt.out.trans aK);have a8:=Z8 aN;have r1:=aK.cell q1 pG;have r2:=aK.cell q2 pG;have bW:w7.cell? (O (w.heap.size+1+1) Z7.length)=some (Y 77):=R9 aN (by rw[aO rZ,Sr,ij];rfl);have bX:w7.cell? (O (w.heap.size+1+1) (Z7.length+1))=some (Y 78):=R9 aN (by rw[aO rZ,Sr,show Z7.length+1-Z7.length=1 by omega];rfl);have cd:(0:Int)<=Z7.length:=J;clear q0 q1 q2 bT bq bt aN aK;go_wp2
 go_loopw [10,11] (λvs vi wr=>SuR w7 Z7.length vs vi wr) (λ_ vi _=>Z7.length-(intOf vi).toNat)
 case atStart=>exact⟨0,J,rfl,rfl,WW _ _⟩
 case round=>
  clear bW bX;obtain⟨i,hi,rfl,rfl,ZX⟩:=hrel;have Zm:=Z8 ZX;have r3:=ZX.cell r2 pG;have r4:=ZX.cell r1 pG;by_cases ZR:i<Z7.length
  ·have X8:(i:Int)<Z7.length:=J;have Xy:(0:Int)<=i:=J;have bS:(i:Int)<(Z7.length:Int)+2:=J;obtain⟨x,hx⟩:∃x,Z7[i]?=some x:=⟨Z7[i],by simp[ZR]⟩;obtain⟨gv,ov,rfl,_,c1⟩:=HV.out.at_ i x hx;have c2:=(a6.out.trans ZX).cell c1 pG;have c3:=ZX.cell (R9 a8.out (u:=Y x) (j:=i) (by rw[aT (by rw[Sr];exact ZR)];exact Du hx)) pG;clear ZX hx c1 r1 r2;go_wp2;go_quiet (fail);go_wp2;go_roundw
   case rel=>exact⟨i+1,J,rfl,pQ,Zm.out.trans (XN _ _ _)⟩
   case measure=>simp[intOf]<;>omega
  ·obtain rfl:i=Z7.length:=J;have O1:=a6.out.trans ZX;have bZ:=ZQ.mk (KR.get O1);have Ld:=Z8 O1;have bC:=Z8 (a8.out.kept ZX (XY _));have cf:=O1.size;have cj:w.heap.size+1+1<wr.heap.size:=(bC.out.lt _ rfl).2;have aw:Hid (∀i,i<7->D.Zi i<=900000000000):=λi hi=>by have:=HG.out.bd i hi;omega
   have V6:Hid (∀x,K x->∀k∈x.S,k<w.heap.size):=λx hx k aC=>((HG.out.lw.kp x hx).2 k aC).1
   have KI:ZQ (∀{W:A},aB wr W->aq 58 #[ai Z,.slice (some (ah (w.heap.size+1+1))) (Z7.length+2) (Z7.length+2)] W λe w'=>e=.returned (.tuple #[])/\T4 w B Z T w'):=ZQ.mk (λ{W} aL=>by
    have bb:=Ld.out.trans aL;have hf:Yj Z V (w.heap.size+1+1):=Ns HG.out.lw J;refine(aa2 (HG.out.lw.grown bb) (bC.out.kept aL (XY _)) hf (λx hx q=>by have:=V6.out x hx _ q;omega) J J aw.out).mono ?_
    rintro e w9 ⟨rfl,V9,K9,L9,q9,Lb,l9,f9⟩;exact⟨rfl,V9,_,_,K9,(HG.out.grown bb).Qe q9 Lb.kk f9 l9 J,((Wp.refl B Z w).grown HG.out.lw.hB bb (λk e=>pL)).trans Lb.VW⟩)
   clear ZX KR a8 a6 O1 r1 r2;go_wp2_with (first|(go_at_call 58;refine(KI.get bk).mono ?_;rintro e w9 ⟨rfl,aV⟩)|(go_at_call 57;refine bZ.get.mono ?_;rintro e w8 ⟨rfl,bk⟩))
   go_ret;exact⟨pG,aV⟩
theorem aka {r:Nat}{s:aA}(h:Qv w r s)(hG:U0 s):aq 55 #[ai r] w (au w (.string ⟨(Pa (Y0 s)).toArray⟩)):=by
 obtain⟨ta,va,la,ra,tc,vc,lc,rc,lists,rules,ZR,hT,_⟩:=h;have hn:=F9 s;have hz:=hG.sz;have q:=aiu (P:=Y0 s) hT J ZR (λi t ht=>aiO hG.sz ht) (aiP hG.sz)
 rw[aiQ]at q;exact q
theorem akb (h:LG w B Z V D c K T)(x:MP)(hx:x∈D.ms)(on od bu:Int)(tx:aA)(va:ax)(vn vc:Nat)(wk:Bool):aq 40 #[ai Z,.agg #[ai x.b,ai x.r],.agg #[Y 3,Y on,.string tx,.slice va vn vc,Y od,Y bu,.bool wk]] w λe w'=>e=.returned (.bool true)/\T4 w B Z T w':=by
 have hM:∀W,aB w W->PL W x:=λW z=>((h.grown z).lw.kp _ (h.ms _ hx)).1
 have HG:=Z8 h;obtain⟨b,r,H0,bm,s⟩:=x;have KP:=ZQ.mk (λ{W:A} (aL:aB w W)=>ajx ((hM W aL).prog).pl)
 have KR:=ZQ.mk (λ{W:A} (aL:aB w W)=>aka ((hM W aL).ref) (hM W aL).JM)
 simp only at KP KR;generalize (⟨(Pa (Y0 s)).toArray⟩:aA)=S at *;have ZU:Hid (∀o o',w.grownBy ((w.alloc o).alloc o') none):=λo o'=>(di w o none).trans (di _ o' none)
 have av:(S.toList==S.toList)=true:=pG;clear h hM hx;go_enter func40,ntmps40;go_wp2_with (first|(go_at_call 55;refine(KR.get (ZU.out _ _)).mono ?_;rintro e w2 ⟨rfl,b5⟩)|(go_at_call 30;refine(KP.get (ZU.out _ _)).mono ?_;rintro e w1 ⟨rfl,LF⟩;subst w1))
 go_ret;exact⟨pG,T4.same HG.out ((ZU.out _ _).trans b5)⟩
theorem akc (h:LG w B Z V D c K T)(hT:T<=1100000)(o:TR)(I:o.kd=3)(Yu:-9223372036854775808<=o.on)(bn:o.on<=9223372036854775807){Z7:az}(hv:Qt w o.va o.vn Z7)(Ws:o.vn<=1100000):aq 33 #[ai Z,.agg o.cells] w λe w'=>e=.returned (.bool true)/\T4 w B Z T w':=by
 obtain⟨kd,on,tx,va,vn,vc,od,bu,wk⟩:=o;unfold TR.cells;simp only at I Yu bn hv Ws⊢;have Vn:=h.lw.hB;have RD:=h.lw.slt;obtain⟨ma,mc,em⟩:=Wt (h.lw.own 0 J);have m0:ak w Z 0 (.slice ma D.ms.length mc):=(Z0 h.lw.Zl 0 _ rfl).trans (iJ some em);have m1:∀o,(w.alloc o).cell? (ah Z)=some (.slice ma D.ms.length mc):=λo=>(di w o none).cell m0 pG
 have HG:=Z8 h;subst I;by_cases h0:D.ms.length=0
 ·rw[h0]at m1;clear h m0 em h0;exact lB
 ·have aQ:=h.m20;have aS:=EJ on (D.ms.length:Int) J;obtain⟨P,hP⟩:∃P:Nat,Rj on (D.ms.length:Int)=P:=⟨(Rj on (D.ms.length:Int)).toNat,J⟩;rw[hP]at aS;have bf:P<D.ms.length:=J;obtain⟨x,hx⟩:∃x,D.ms[P]?=some x:=⟨D.ms[P],by simp[bf]⟩;obtain⟨gm,cm,e1,bI,_⟩:=h.lw.at (i:=0) (j:=P*2) J (Le hx).1;obtain⟨bN,bO,aJ,T8,_⟩:=h.lw.at (i:=0) (j:=P*2+1) J (Le hx).2;rw[e1]at aJ;injection aJ with q1 q2 q3;injection q1 with q1;injection q1 with q1 _ _;subst q1;rw[e1]at em;injection em with q4 q5 q6;subst q4;have bJ:=(h.lw.PJ (i:=0) J (by rw[e1];rfl:(V.get 0).ownBlock=some gm)).2;have bz:(((D.ms.length:Nat):Int)==0)=false:=qb;have KP:=ZQ.mk (λW=>EI on (D.ms.length:Int) W Yu bn J J)
  rw[hP]at KP;have cg:(0:Int)<=P:=J;have bV:(P:Int)<D.ms.length:=J;have HX:=Z8 (cq hx);clear h e1 hx hP;have KT:=ZQ.mk (λ{W:A} (z:aB w W)=>akb (HG.out.grown z) x HX.out on od bu tx va vn vc wk)
  exact jI
theorem akd (h:LG w B Z V D c K T)(hT:T<=1100000)(o:TR)(I:o.kd=4)(Yu:-9223372036854775808<=o.on)(bn:o.on<=9223372036854775807){Z7:az}(hv:Qt w o.va o.vn Z7)(Ws:o.vn<=1100000):aq 33 #[ai Z,.agg o.cells] w λe w'=>e=.returned (.bool true)/\T4 w B Z T w':=by
 have Lr:=Z8 hv;obtain⟨kd,on,tx,va,vn,vc,od,bu,wk⟩:=o;unfold TR.cells;simp only at I Yu bn hv Ws⊢;have Vn:=h.lw.hB;have RD:=h.lw.slt;obtain⟨ma,mc,em⟩:=Wt (h.lw.own 0 J);have m0:ak w Z 0 (.slice ma D.ms.length mc):=(Z0 h.lw.Zl 0 _ rfl).trans (iJ some em);have m1:∀o,(w.alloc o).cell? (ah Z)=some (.slice ma D.ms.length mc):=λo=>(di w o none).cell m0 pG
 have HG:=Z8 h;subst I;by_cases h0:D.ms.length=0
 ·rw[h0]at m1;clear h m0 em h0;exact lB
 ·have aQ:=h.m20;have aS:=EJ on (D.ms.length:Int) J;obtain⟨P,hP⟩:∃P:Nat,Rj on (D.ms.length:Int)=P:=⟨(Rj on (D.ms.length:Int)).toNat,J⟩;rw[hP]at aS;have bf:P<D.ms.length:=J;obtain⟨x,hx⟩:∃x,D.ms[P]?=some x:=⟨D.ms[P],by simp[bf]⟩;obtain⟨gm,cm,e1,bI,_⟩:=h.lw.at (i:=0) (j:=P*2) J (Le hx).1;obtain⟨bN,bO,aJ,T8,_⟩:=h.lw.at (i:=0) (j:=P*2+1) J (Le hx).2;rw[e1]at aJ;injection aJ with q1 q2 q3;injection q1 with q1;injection q1 with q1 _ _;subst q1;rw[e1]at em;injection em with q4 q5 q6;subst q4;have bJ:=(h.lw.PJ (i:=0) J (by rw[e1];rfl:(V.get 0).ownBlock=some gm)).2;have bz:(((D.ms.length:Nat):Int)==0)=false:=qb;have KP:=ZQ.mk (λW=>EI on (D.ms.length:Int) W Yu bn J J)
  rw[hP]at KP;have cg:(0:Int)<=P:=J;have bV:(P:Int)<D.ms.length:=J;have HX:=Z8 (cq hx);clear h e1 hx hP;have KT:=ZQ.mk (λ{W:A} (z:aB w W)=>aj9 (HG.out.grown z) hT x HX.out 4 on od bu tx va vn vc wk Z7 (Lr.out.grown z) Ws)
  go_enter func33,ntmps33;go_wp2;go_region_held3 (λw'=>w'.cell? (ah Z)=some (aj gm D.ms.length mc)/\w'.cell? (O w.heap.size 1)=some (Y on)/\w'.cell? (O gm (P*2))=some (ai x.b)/\w'.cell? (O gm (P*2+1))=some (ai x.r)) (go_keep)
   (first|(go_at_call 39;refine(KP.get _).mono ?_;rintro e w' ⟨rfl,Zf⟩;subst w'))
  all_goals go_wp2_with (go_at_call 41;refine(KT.get (((di w _ none).trans (di _ _ none)).trans (ZG _ none))).mono ?_;rintro e w1 ⟨rfl,hS⟩)
  all_goals go_ret
  all_goals exact⟨rfl,hS.from Vn (((di w _ none).trans (di _ _ none)).trans (ZG _ none))⟩
theorem ake (h:LG w B Z V D c K T)(hT:T<=1100000)(ht:Sj w)(o:TR)(I:o.kd<=4)(Yu:-9223372036854775808<=o.on)(bn:o.on<=9223372036854775807){Z7:az}(hv:Qt w o.va o.vn Z7)(Ws:o.vn<=1100000):aq 33 #[ai Z,.agg o.cells] w λe w'=>e=.returned (.bool true)/\T4 w B Z T w':=by
 by_cases h3:o.kd=3
 ·exact akc h hT o h3 Yu bn hv Ws
 ·by_cases h4:o.kd=4
  ·exact akd h hT o h4 Yu bn hv Ws
  ·exact ajQ h hT ht o J Yu bn
theorem akf {va:ax}{vn:Nat}{Z7:az}(h:Qt w va vn Z7)(hb:∀k,k<w.heap.size->w'.heap[k]?=w.heap[k]?):Qt w' va vn Z7:=⟨h.len,λj x hx=>by
 obtain⟨g,o,e,F,h2⟩:=h.at_ j x hx;have q:=(cJ (a:=(O g (o+j))) (hb g F)).trans h2;exact⟨g,o,e,aaN q,q⟩⟩
def Ye:az->az->Bool
 |x::xs,y::ys=>if x=y then Ye xs ys else decide (x<y)
 |_,_=>false
def Ui:List (az)->List (az)->List (az)
 |a,[]=>a
 |a,y::ys=>a.takeWhile (Ye · y)++y::Ui (a.dropWhile (Ye · y)) ys
def Tv:Nat->List (az)->List (az)
 |0,l=>l
 |f+1,l=>if l.length<2 then l else Ui (Tv f (l.take (l.length/2))) (Tv f (l.drop (l.length/2)))
theorem AE:∀{a b c:az},Ye a b=true->Ye b c=true->Ye a c=true
 |[],_,_,h,_=>by simp[Ye]at h
 |_::_,[],_,h,_=>by simp[Ye]at h
 |_::_,_::_,[],_,h=>by simp[Ye]at h
 |x::xs,y::ys,anZ::zs,F,h2=>by
  simp only[Ye]at F h2⊢;split at F
  ·rename_i e1;subst e1;split at h2
   ·rename_i e2;subst e2;simp;exact AE F h2
   ·rename_i e2;rw[iQ e2];exact h2
  ·rename_i e1;split at h2
   ·rename_i e2;subst e2;rw[iQ e1];exact F
   ·rename_i e2;have q1:=ew F;have q2:=ew h2;rw[iQ J];exact gj J
theorem aa7:∀{a b:az},a.length=b.length->a≠b->Ye a b=true\/Ye b a=true
 |[],[],_,h=>absurd rfl h
 |[],_::_,h,_=>pZ
 |_::_,[],h,_=>pZ
 |x::xs,y::ys,h,hn=>by
  simp only[Ye];by_cases e:x=y
  ·subst e;simp only[iP];exact aa7 pX (λq=>hn (by rw[q]))
  ·have e':¬y=x:=λq=>e q.symm
   rw[iQ e,iQ e'];rcases Int.lt_or_gt_of_ne e with q|q
   ·exact .inl (gj q)
   ·exact .inr (gj q)
structure Dt (n:Nat)(l:List (az)):Prop where
 len:∀r∈l,r.length=n
 nd:l.Nodup
theorem Fu:∀(b a:List (az)),(Ui a b).Perm (a++b)
 |[],a=>by simp[Ui]
 |y::ys,a=>by
  simp only[Ui];have h:=Fu ys (a.dropWhile (Ye · y));have e:a=a.takeWhile (Ye · y)++a.dropWhile (Ye · y):=List.takeWhile_append_dropWhile.symm;have h2:(y::Ui (a.dropWhile (Ye · y)) ys).Perm (y::(a.dropWhile (Ye · y)++ys)):=h.cons y;have h3:(a.takeWhile (Ye · y)++y::Ui (a.dropWhile (Ye · y)) ys).Perm (a.takeWhile (Ye · y)++(y::(a.dropWhile (Ye · y)++ys))):=h2.append_left _;refine h3.trans ?_
  conv=>rhs;rw[e]
  rw[dN];exact(List.perm_middle.symm).append_left _
theorem aa8 {y:az}:∀(a:List (az)),∀x∈a.takeWhile (Ye · y),Ye x y=true
 |[],x,h=>pZ
 |anZ::a,x,h=>by
  rw[List.takeWhile_cons]at h;split at h
  ·rename_i c;rcases gH.1 h with q|q
   ·rw[q];exact c
   ·exact aa8 a x q
  ·simp at h
theorem aa9:∀(b a:List (az)),a.Pairwise (Ye · ·=true)->b.Pairwise (Ye · ·=true)->(∀x∈a,∀y∈b,Ye x y=true\/Ye y x=true)->(Ui a b).Pairwise (Ye · ·=true)
 |[],a,ha,_,_=>by simpa[Ui]using ha
 |y::ys,a,ha,hb,bM=>by
  simp only[Ui];have ar:=dD.1 hb;have e:a=a.takeWhile (Ye · y)++a.dropWhile (Ye · y):=List.takeWhile_append_dropWhile.symm;have bE:=ha;rw[e]at bE;have pa:=cB.1 bE;have hd:∀x∈a.dropWhile (Ye · y),Ye y x=true:=by
   intro x hx
   cases hq:a.dropWhile (Ye · y)with
   |nil=>rw[hq]at hx;simp at hx
   |cons anZ zs=>
    have hz:Ye anZ y=false:=by
     have:=List.head_dropWhile_not (p:=(Ye · y)) (l:=a) (by rw[hq];simp);simpa[hq]using this
    have b7:anZ∈a:=by rw[e,hq];simp
    have bR:Ye y anZ=true:=by
     rcases bM anZ b7 y pG with q|q
     ·rw[hz]at q;cases q
     ·exact q
    rw[hq]at hx;rcases gH.1 hx with q|q
    ·rw[q];exact bR
    ·have pd:=pa.2.1;rw[hq]at pd;exact AE bR ((dD.1 pd).1 x q)
  have ih:=aa9 ys (a.dropWhile (Ye · y)) pa.2.1 ar.2 (λx hx anZ hz=>bM x ((List.dropWhile_suffix _).subset hx) anZ (by simp[hz]))
  have hy:∀anZ∈Ui (a.dropWhile (Ye · y)) ys,Ye y anZ=true:=λanZ hz=>by
   rcases fE.1 ((Fu ys _).mem_iff.1 hz)with q|q
   ·exact hd anZ q
   ·exact ar.1 anZ q
  refine cB.2 ⟨pa.1,dD.2 ⟨hy,ih⟩,λx hx anZ hz=> ?_⟩
  have aP:=aa8 a x hx;rcases gH.1 hz with q|q
  ·rw[q];exact aP
  ·exact AE aP (hy anZ q)
theorem AD {n:Nat}:∀(f:Nat) (l:List (az)),l.length<=f->Dt n l->(Tv f l).Perm l/\(Tv f l).Pairwise (Ye · ·=true)
 |0,l,hf,_=>by
  obtain rfl:l=[]:=bA.1 J;exact⟨List.Perm.refl _,dK⟩
 |f+1,l,hf,h=>by
  simp only[Tv];by_cases c:l.length<2
  ·rw[iR c];refine⟨List.Perm.refl _,?_⟩
   match l,c with
   |[],_=>exact dK
   |[x],_=>exact List.pairwise_singleton _ _
  ·rw[iQ c];have e:l=l.take (l.length/2)++l.drop (l.length/2):=(List.take_append_drop _ _).symm;have hn:=h.nd;rw[e]at hn;have aW:=List.nodup_append.1 hn;have bD:Dt n (l.take (l.length/2)):=⟨λr hr=>h.len r (cy hr),aW.1⟩
   have bG:Dt n (l.drop (l.length/2)):=⟨λr hr=>h.len r (cx hr),aW.2.1⟩
   obtain⟨p1,w1⟩:=AD f (l.take (l.length/2)) sK bD;obtain⟨p2,w2⟩:=AD f (l.drop (l.length/2)) (by rw[eO];omega) bG;refine⟨((Fu _ _).trans (p1.append p2)).trans (by rw[<-e]),aa9 _ _ w1 w2 (λx hx y hy=> ?_)⟩
   have aG:=p1.mem_iff.1 hx;have bL:=p2.mem_iff.1 hy;exact aa7 ((bD.len x aG).trans (bG.len y bL).symm) (λq=>aW.2.2 x aG y bL q)
def RV (w:A)(u:aF)(r:az):Prop:=∃a c,u=.slice a r.length c/\∀(i:Nat) (x:Int),r[i]?=some x->∃g o,a=some (O g o)/\w.cell? (O g (o+i))=some (Y x)
theorem RV.grown {u:aF}{r:az}(h:RV w u r)(z:aB w w'):RV w' u r:=by
 obtain⟨a,c,e,F⟩:=h;exact⟨a,c,e,λi x hx=>by obtain⟨g,o,e2,q⟩:=F i x hx;exact⟨g,o,e2,z.cell q pG⟩⟩
def LR (w0 w:A)(a:ax)(rows:List (az)):Prop:=∀(i:Nat) (r:az),rows[i]?=some r->∃g o u,a=some (O g o)/\w.cell? (O g (o+i))=some u/\RV w0 u r
theorem LR.grown {w0:A}{a:ax}{rows:List (az)}(h:LR w0 w a rows)(z:aB w w'):LR w0 w' a rows:=λi r hr=>by
 obtain⟨g,o,u,e,F,h2⟩:=h i r hr;exact⟨g,o,u,e,z.cell F pG,h2⟩
theorem akg {a b:az}{i:Nat}{x y:Int}(hx:a[i]?=some x)(hy:b[i]?=some y):Ye (a.drop i) (b.drop i)=if x=y then Ye (a.drop (i+1)) (b.drop (i+1))else decide (x<y):=by
 obtain⟨F,e1⟩:=aU.1 hx;obtain⟨h2,e2⟩:=aU.1 hy;rw[aR F,aR h2,e1,e2];rfl
theorem aba {a b:az}{i:Nat}(h:a.length<=i\/b.length<=i):Ye (a.drop i) (b.drop i)=false:=by
 rcases h with h|h
 ·rw[bF h];cases b.drop i<;>rfl
 ·rw[bF h];cases a.drop i<;>rfl
theorem AB {u v:aF}{a b:az}(hu:RV w u a)(hv:RV w v b)(ha:a.length<=1000)(hb:b.length<=1000):aq 107 #[u,v] w (au w (.bool (Ye a b))):=by
 obtain⟨aa,ac,rfl,F⟩:=hu;obtain⟨ba,bc,rfl,h2⟩:=hv;obtain⟨R,hR⟩:∃R,Ye a b=R:=⟨_,rfl⟩;rw[hR];have H1:=Z8 F;have H2:=Z8 h2;have HR:=Z8 hR;clear F h2 hR;go_enter func107,ntmps107;go_wp2
 go_loopw [5] (λvi wr=>∃i:Nat,i<=a.length/\vi=Y i/\Ye (a.drop i) (b.drop i)=R/\aB w wr) (λvi _=>a.length-(intOf vi).toNat)
 case atStart=>exact⟨0,iz _,rfl,HR.out,WW _ _⟩
 case round=>
  obtain⟨i,hi,rfl,hr,ZX⟩:=hrel;have Zm:=Z8 ZX;have Xu:=Z8 hr;clear hr;by_cases ca:i<a.length
  ·have cH:(i:Int)<a.length:=J;by_cases cb:i<b.length
   ·have b8:(i:Int)<b.length:=J;obtain⟨x,hx⟩:∃x,a[i]?=some x:=⟨a[i],by simp[ca]⟩;obtain⟨y,hy⟩:∃y,b[i]?=some y:=⟨b[i],by simp[cb]⟩;obtain⟨g1,o1,rfl,q1⟩:=H1.out i x hx;obtain⟨g2,o2,rfl,q2⟩:=H2.out i y hy;have k1:=ZX.cell q1 pG;have k2:=ZX.cell q2 pG;have Xy:(0:Int)<=i:=J;have HD:=Z8 (akg hx hy);by_cases c:x=y
    ·have c':(x != y)=false:=qT;have HE:=Z8 (show Ye (a.drop (i+1)) (b.drop (i+1))=R by rw[<-Xu.out,HD.out,iR c]);clear hx hy q1 q2 ZX c Xu;go_wp2;go_quiet (fail);go_wp2;go_roundw
     case rel=>exact⟨i+1,J,pQ,HE.out,Zm.out.trans (XN _ _ _)⟩
     case measure=>simp[intOf]<;>omega
    ·have c':(x != y)=true:=qT;have HE:=Z8 (show decide (x<y)=R by rw[<-Xu.out,HD.out,iQ c]);clear hx hy q1 q2 ZX c Xu;go_wp2;go_quiet (fail);go_wp2;go_quiet (fail);go_wp2;go_ret;exact⟨by rw[<-HE.out];rfl,(Zm.out.trans (XN _ _ _)).trans (XN _ _ _)⟩
   ·have b8:¬((i:Int)<b.length):=J;have HE:=Z8 (show R=false by rw[<-Xu.out];exact aba (.inr J));clear ZX Xu cb;exact kR
  ·have cH:¬((i:Int)<a.length):=J;have HE:=Z8 (show R=false by rw[<-Xu.out];exact aba (.inl J));clear ZX Xu ca;exact kR
theorem akh {x y:az}{xs ys:List (az)}(h:Ye x y=true):Ui (x::xs) (y::ys)=x::Ui xs (y::ys):=by simp[Ui,h]
theorem abb {a ys:List (az)}{y:az}(h:∀x,a[0]?=some x->Ye x y=false):Ui a (y::ys)=y::Ui a ys:=by
 cases a with
 |nil=>simp[Ui]
 |cons x xs=>simp[Ui,h x rfl]
theorem aki (a:List (az)):Ui a []=a:=by unfold Ui;rfl
theorem Dr:∀(f:Nat) (l:List (az)),(Tv f l).length=l.length
 |0,_=>rfl
 |f+1,l=>by
  simp only[Tv];split
  ·rfl
  ·rw[(Fu _ _).length_eq,dA,Dr f,Dr f,<-dA,List.take_append_drop]
theorem Dq:∀(f:Nat) (l:List (az)) (x:az),x∈Tv f l->x∈l
 |0,_,_,h=>h
 |f+1,l,x,h=>by
  simp only[Tv]at h;split at h
  ·exact h
  ·rcases fE.1 ((Fu _ _).mem_iff.1 h)with q|q
   ·exact cy (Dq f _ x q)
   ·exact cx (Dq f _ x q)
def OR (w0 w:A)(B:Nat)(v:aF)(rows:List (az)):Prop:=∃us:ay,w.ownsRow B 33 1 v rows.length us/\∀(i:Nat) (u:aF) (r:az),us[i]?=some u->rows[i]?=some r->RV w0 u r
theorem OR.lr {w0:A}{B:Nat}{v:aF}{rows:List (az)}(h:OR w0 w B v rows):∃a c,v=.slice a rows.length c/\LR w0 w a rows/\rows.length<=c:=by
 obtain⟨us,F,h2⟩:=h;have hl:us.length=rows.length:=by have:=F.1;omega
 rcases Lt F with⟨e1,e2⟩|⟨g,cap,e1,_,_,e4⟩
 ·exact⟨none,0,by rw[e2,e1],λi r hr=>by rw[bA.1 e1]at hr;simp at hr,J⟩
 ·refine⟨_,cap,e1,λi r hr=> ?_,?_⟩
  ·have hi:=(aU.1 hr).1;obtain⟨u,hu⟩:∃u,us[i]?=some u:=⟨us[i]'J,aZ J⟩;exact⟨g,0,u,rfl,by rw[ik];exact e4 i u hu,h2 i u r hu hr⟩
  ·subst e1;rcases F.2 with⟨q,_⟩|⟨g',UH,cur,q1,_,_,q4,_⟩
   ·cases q
   ·injection q1 with _ _ q3;omega
theorem OR.push {w0 wa:A}{B:Nat}{v':aF}{rows more:List (az)}{us ms:ay}(hv:∀(i:Nat) (u:aF) (r:az),us[i]?=some u->rows[i]?=some r->RV w0 u r)(hl:us.length=rows.length)(SZ:ms.length=more.length)(hr:∀(i:Nat) (u:aF) (r:az),ms[i]?=some u->more[i]?=some r->RV w0 u r)(ho:wa.ownsRow B 33 1 v' (rows.length+more.length) (us++ms)):OR w0 wa B v' (rows++more):=by
 refine⟨us++ms,by rw[dA];exact ho,λi x l hx bh=> ?_⟩
 rw[bY]at hx bh;split at hx
 ·rename_i c;rw[iR J]at bh;exact hv i x l hx bh
 ·rename_i c;rw[iQ J,<-hl]at bh;exact hr _ x l hx bh
theorem Hw {w2 W wa:A}{row:Option Nat}(h:aB w2 W)(z:W.grownBy wa row)(hr:∀k,row=some k->w2.heap.size<=k):aB w2 wa:=
 ⟨z.os.trans h.os,z.tape.trans h.tape,z.output.trans h.output,gZ h.size z.size,λk I _=>(z.block k (dH I h.size) (λe=>by have:=hr k e.symm;omega)).trans (h.block k I pG)⟩
theorem abd:(prog.info? 33).map (λi=>(i.zero,i.size,i.bytes))=some (some (af),1,24):=pH
end Go.Proofs.YthpcbbnabnlanaaGreatDoor
