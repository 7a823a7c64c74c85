import Derived.Test.YthpcbbnabnlanaaGreatDoorM06
import Derived.Test.YthpcbbnabnlanaaGreatDoorM36
import Derived.Laws.EntriesVeiled
import Derived.BigQuiet
import Derived.Lib.SliceRun
import Derived.BigFrame
import Derived.Deep.LoopGhost
import Derived.Deep.AppendLies
import Derived.Deep.RegionLaw
namespace Go.Proofs.YthpcbbnabnlanaaGreatDoor
set_option maxHeartbeats 8000000
set_option maxRecDepth 100000
open Go.Proofs.Tryz
open Go.RowKit
set_option linter.all false
variable {w0 w w' aW:A}{X:SL}{K:SK}{s:SS}{vT vS:aF}
theorem acz {p:Int×Int->Bool}{l:List (Int×Int)}(hm:∃a∈l,p a=true):∃(i:Nat) (f:Int×Int),l[i]?=some f/\l.find? p=some f/\p f=true/\Qk p l=(i:Int)/\f∈l:=by
 obtain⟨i,hi⟩:∃i,l.findIdx? p=some i:=by
  obtain⟨a,F,h2⟩:=hm
  cases e:l.findIdx? p with
  |some i=>exact⟨i,rfl⟩
  |none=>
   rw[aS]at e;have:=e a F;rw[h2]at this;cases this
 obtain⟨F,h2,h3⟩:=aG.1 hi;refine⟨i,l[i],aZ F,?_,rv,by unfold Qk;rw[hi],eL F⟩;rw[List.find?_eq_some_iff_getElem];exact⟨rv,i,F,rfl,λj hj=>by simpa using h3 j hj⟩
theorem alV (h:ZN w0 w X K s vT vS)(hK:YV K)(hs:Y5 K s)(hT:TB s){gt ct:Nat}{l:List (Int×Int)}(hR:YR w (aj gt l.length ct) gt ct P7 l)(a7:l.length<=3000)(hl:∀p∈l,YX K.vars.length p.1/\(p.2=0\/p.2=1))(hm:∃a∈l,Uh s a=true):aq 133 #[ai X.b,aj gt l.length ct] w λe w'=>e=.returned (.bool (PE K l s).1)/\(∃ar,ZN w0 w' X K (PE K l s).2 ar vS)/\Zy X w w':=by
 obtain⟨i,f,aI,WR,TH,bB,Te⟩:=acz hm;obtain⟨cC,b9⟩:=hl f Te;have bt:i<l.length:=(aU.1 aI).1;have YS:(i:Int)<l.length:=J;have Y8:(0:Int)<=i:=J;have Vm:=hR.lt
 --the boxes
 obtain⟨W,hW⟩:∃W,W=(w.alloc (.cells #[ai X.b] 100)).alloc (.cells #[.func (.func 173) #[] #[ai w.heap.size]] 245):=⟨_,rfl⟩;have gW:aB w W:=by rw[hW];exact(di _ _ _).trans (di _ _ _)
 have hN:W.cell? (ah w.heap.size)=some (ai X.b):=by
  rw[hW];exact Z0 ((gq _ _ pG).trans (gp w _)) 0 _ rfl
 have h5:W.cell? (ah (w.heap.size+1))=some (.func (.func 173) #[] #[ai w.heap.size]):=by
  rw[hW];have q:=gp (w.alloc (.cells #[ai X.b] 100)) (.cells #[.func (.func 173) #[] #[ai w.heap.size]] 245);exact Z0 qE 0 _ rfl
 have KI:=ZQ.mk (alH (p:=Uh s) (N:=w.heap.size) (hR.kept gW pG) a7 (λa ha W' z=>acs ((h.grown gW).grown z) hK a (hl a ha).1 (hl a ha).2 (z.cell hN pG)))
 rw[bB]at KI;have cy:Hid (∀w1:A,aB W w1->ak w1 gt (i*2) (Y f.1)/\ak w1 gt (i*2+1) (Y f.2)):=λw1 z=>by
  have q:=(hR.kept gW pG).kept z pG;exact⟨q.at (sz:=2) (λ_=>rfl) aI 0 _ rfl,q.at (sz:=2) (λ_=>rfl) aI 1 _ rfl⟩
 have KC:=ZQ.mk (λ(w1:A) (z:aB W w1)=>alL (p:=λa=>decide (a≠f)&&Uh s a) (B6:=w1.heap.size) (B5:=w.heap.size+1) (w:=w1.alloc (.cells #[Y f.1,Y f.2] 203)) (((hR.kept gW pG).kept z pG).kept (di _ _ none) pG) a7 (λa ha W' bS=>by
  have ZU:=(z.trans (di w1 (.cells #[Y f.1,Y f.2] 203) none)).trans bS;have hB:=(bS.block w1.heap.size pG pG).trans (gp w1 (.cells #[Y f.1,Y f.2] 203));exact alK ((h.grown gW).grown ZU) hK a f (hl a ha).1 (hl a ha).2 (ZU.cell hN pG) (ZU.cell h5 pG) (Z0 hB 0 _ rfl) (Z0 hB 1 _ rfl)))
 have ba:(l.find? (Uh s)).getD (0,0)=f:=by rw[WR];rfl
 have dK:∀(fn:Fn) (first cap:Array aF) (w:A),(Instr.makeFunc fn first cap).run prog w=.ok (.func fn first cap) w:=λfn first cap w=>rfl
 by_cases ca:(l.any λa=>decide (a≠f)&&Uh s a)=true
 ·have Yn:Hid (PE K l s=(true,s)):=by
   rw[Hid];unfold PE;rw[ba];simp only[];rw[iR ca]
  rw[ca]at KC;have HH:=Z8 (h.grown gW);have HG:=Z8 gW;rw[hW]at KC KI cy;clear h gW hN h5 hR hl hm aI WR TH bB Te ba ca cC b9 hs hK hT;go_enter func133,ntmps133;go_wp2_with (first|(go_at_call 175;refine(KC.get w1 ZZ).mono ?_;rintro e w2 ⟨rfl,ZU⟩)|(go_at_call 174;refine KI.get.mono ?_;rintro e w1 ⟨rfl,ZZ⟩;obtain⟨y0,y1⟩:=cy.out w1 ZZ))
  go_ret;rw[Yn.out];have g3:=(ZZ.trans (di _ _ _)).trans ZU;rw[<-hW]at g3;exact⟨rfl,⟨_,HH.out.grown g3⟩,Zy.grown (HG.out.trans g3)⟩
 ·have cH:(l.any λa=>decide (a≠f)&&Uh s a)=false:=by simpa using ca
  have Yn:Hid (PE K l s=Vq K f.1 (Zu f.2) s):=by
   rw[Hid];unfold PE;rw[ba];simp only[];rw[iQ ca]
  rw[cH]at KC;obtain⟨r,hr⟩:=dc (Zu f.2);have KO:=ZQ.mk (λW=>zX hr (v:=f.2) J J W)
  have KK:=ZQ.mk (λ{W':A} (q:ZN w0 W' X K s vT vS)=>E9 hr q hK hs cC (Am J) hT.le)
  have HS:Hid (∀(w1 w2:A),aB W w1->(w1.alloc (.cells #[Y f.1,Y f.2] 203)).grownBy w2 none->ZN w0 w2 X K s vT vS/\aB w w2/\∀W',Zy X w2 W'->(ak W' w.heap.size 0 (ai X.b)/\ak W' w1.heap.size 0 (Y f.1)/\ak W' w1.heap.size 1 (Y f.2))):=λw1 w2 ZZ ZU=>by
   have g2:=(ZZ.trans (di w1 (.cells #[Y f.1,Y f.2] 203) none)).trans ZU;refine⟨(h.grown gW).grown g2,gW.trans g2,λW' hf=> ?_⟩
   have dn:W.heap[w.heap.size]?=some (.cells #[ai X.b] 100 (0,0)):=by
    rw[hW];exact(gq _ _ pG).trans (gp w _)
   have a1:=(g2.block _ (YY dn) pG).trans dn;have a2:=(ZU.block w1.heap.size pG pG).trans (gp w1 (.cells #[Y f.1,Y f.2] 203));have b1:=hf.block _ _ a1 (h.QJ (iw _)) (λ_ _ e=>pL) (λ_ _ e=>pL)
   have b2:=hf.block _ _ a2 (h.QJ (by have:=(gW.trans ZZ).size;exact this)) (λ_ _ e=>pL) (λ_ _ e=>pL)
   exact⟨Z0 b1 0 _ rfl,Z0 b2 0 _ rfl,Z0 b2 1 _ rfl⟩
  rw[hW]at KC KI cy HS;clear h gW hN h5 hR hl hm aI WR TH bB Te ba ca cH cC b9 hs hK hT hr hW;go_enter func133,ntmps133;go_wp2_with (first|(go_at_call 175;refine(KC.get w1 ZZ).mono ?_;rintro e w2 ⟨rfl,ZU⟩)|(go_at_call 174;refine KI.get.mono ?_;rintro e w1 ⟨rfl,ZZ⟩;obtain⟨y0,y1⟩:=cy.out w1 ZZ))
  obtain⟨T2,dt,YH⟩:=HS.out w1 w2 ZZ ZU;have dz:=Z8 T2;have bI:=Z8 YH;have U3:=Z8 dt;obtain⟨B,hB⟩:∃B,B=w1.heap.size:=⟨_,rfl⟩;rw[<-hB]at bI⊢;clear T2 YH dt HS KC KI cy ZZ ZU y0 y1 hB;refine wp_region_held_drew (S:=(λW'=>W'.cell? (ah w.heap.size)=some (ai X.b)/\W'.cell? (ah B)=some (Y f.1)/\W'.cell? (O B 1)=some (Y f.2))) pH ?_ (λZV=> ?_)
  ·exact bI.out _ (Zy.grown (ZG _ _))
  apply ZL 0 17 ZV
  ·exact iW
  (try simp only[Act.put,Z5,Z4,Z2])
  apply ZL 1 18 ZV
  ·exact iW
  (try simp only[Act.put,Z5,Z4,Z2])
  apply ZL 2 19 ZV
  ·exact iW
  (try simp only[Act.put,Z5,Z4,Z2])
  apply ZL 3 20 ZV
  ·exact iW
  (try simp only[Act.put,Z5,Z4,Z2])
  apply ZL 4 21 ZV
  ·exact iW
  (try simp only[Act.put,Z5,Z4,Z2])
  refine wpAnyH_ready (rs:=[5]) pH pG ?_;refine AllReadyH.cons rfl (λK hK=> ?_) AllReadyH.nil
  go_simp;go_wp2_with ((go_at_call 138;refine(KO.get _).mono ?_;rintro e w3 ⟨rfl,ZJ⟩));refine hK.out _ _ ?_ (λZV=> ?_)
  ·exact bI.out _ (Zy.grown ((ZG _ _).trans ZJ))
  clear hK K
  (try simp only[Act.put,Z5,Z4,Z2])
  refine wpAnyH_ready (rs:=[6]) pH pG ?_;refine AllReadyH.cons rfl (λK hK=> ?_) AllReadyH.nil
  go_simp;go_wp2_with ((go_at_call 167;refine(KK.get (dz.out.grown ((ZG _ _).trans ZJ))).mono ?_;rintro e w4 ⟨rfl,br,bB⟩));refine hK.out _ _ ?_ (λZV=> ?_)
  ·exact bI.out _ ((Zy.grown ((ZG _ _).trans ZJ)).trans bB)
  clear hK K
  (try simp only[Act.put,Z5,Z4,Z2])
  apply ZL 7 4 ZV
  ·exact iW
  (try simp only[Act.put,Z5,Z4,Z2])
  refine wpAnyH_done pH ?_ _;go_wp2;go_ret;rw[Yn.out];exact⟨rfl,br,(Zy.grown (U3.out.trans ((ZG _ _).trans ZJ))).trans bB⟩
structure alW (w0 w:A)(X:SL)(K:SK)(s:SS)(i g:Nat)(x:X7)(ca:ax)(cc cap:Nat):Prop where
 c:K.cons[i]?=some x.c
 Vs:Ty w g (i*10) X.B x
 gx:g<w0.heap.size
 mem:x∈X.cs
 f0:w.cell? (ah X.b)=some (.pointer (some (O X.bc 1)))
 c2:w.cell? (O X.bc 2)=some (aj g K.cons.length cap)
 cv:w.cell? (O X.gc i)=some (.slice ca (K.YP.getD i []).length cc)
 row:Q2 X w (.slice ca (K.YP.getD i []).length cc) (K.YP.getD i [])
theorem ZN.draw (h:ZN w0 w X K s vT vS){i:Nat}(hi:i<K.cons.length):∃(g:Nat) (x:X7) (ca:ax) (cc cap:Nat),alW w0 w X K s i g x ca cc cap:=by
 obtain⟨x,g,cap,cE,bV,hX,bG⟩:=h.Vs (aZ hi);obtain⟨dB,bk⟩:∃v,X.cv[i]?=some v:=⟨X.cv[i]'(by rw[h.PC];exact hi),aZ _⟩;have Yl:=h.Ni i dB bk;obtain⟨ca,cc,bL⟩:=Yl.is;have cL:g<w0.heap.size:=by
  have hlen:X.cs.length=K.cons.length:=by rw[<-h.Ng];simp
  obtain⟨g',UH,hR,_⟩:=YR.TX h.PY.oc J;have q:=hR.is;rw[bV]at q;injection q with q1;injection q1 with q2;injection q2 with q3;rw[q3];exact hR.lt
 subst bL;refine⟨g,x,ca,cc,cap,by rw[cE];exact aZ hi,hX,cL,bG,h.f0,by rw[<-bV];exact h.set.c2,Z0 h.Ru i _ (by rw[bO];exact bk),Yl⟩
theorem alX (h:ZN w0 w X K s vT vS)(hK:YV K)(hs:Y5 K s){i:Nat}(hi:i<K.cons.length)(hz:(XR s (K.YP.getD i [])).2=0):aq 86 #[ai X.b,Y (i:Int)] w λe w'=>e=.returned (.bool (Yq K i s).1)/\(∃ar,ZN w0 w' X K (Yq K i s).2 ar vS)/\Zy X w w':=by
 obtain⟨g,x,ca,cc,cap,hD⟩:=h.draw hi;have aJ:=cq hD.c;have av:=hK.cons _ aJ;have Yu:=ZQ.mk (Ju h hK.WB hD.row (λv hv=>R6 av v ((hK.cv i _ hD.c v).1 hv)) (hK.JC i))
 obtain⟨o0,o1,o2,o3⟩:=Oj s (K.YP.getD i []);have ba:K.cons.getD i RA=x.c:=rR;have f0:=hD.f0;have c2:=hD.c2;have f8:=h.f8;have cv:=hD.cv;have YS:(i:Int)<K.cons.length:=J;have Y8:(0:Int)<=i:=J;have Yc:=h.lt.1;have UB:=hD.Vs.lt;have Yn:Hid (Yq K i s=(Yt s.Z7 x.c,s)):=by rw[Hid];unfold Yq;rw[ba];simp only[];rw[iR hz]
 have f5:=h.f5;have hV:SU w (aj X.gv K.vars.length K.vars.length) X.gv K.vars.length s.Z7:=⟨by rw[show s.Z7.length=K.vars.length by rw[<-h.ll];simp[SS.Z7]],λj u hu=>by
  rw[C9]at hu;refine Z0 h.Z7 j u ?_;simp only[SS.Z7,gQ]at hu;rw[bO];exact hu,h.lt.2.2.1⟩
 have Yv:s.Z7.length=K.vars.length:=by rw[<-h.ll];simp[SS.Z7]
 have KS:=ZQ.mk (aar hD.Vs hV av Yv.symm (λy hy=>by
  obtain⟨D,dh,rfl⟩:=gU.1 hy;obtain⟨j,hj,rfl⟩:=cj.1 dh;have:=hs.lt hK j;rw[aN,aZ hj]at this;exact Ff this) (by rw[Yv];have:=hK.WB;omega))
 have hO:((XR s (K.YP.getD i [])).2==0)=true:=tj;have HH:=Z8 h;generalize XR s (K.YP.getD i [])=anU at *;clear h hK hs hD av hV Yv ba hz o0 o1 o2 o3;go_enter func86,ntmps86;go_wp2_with (first|(go_at_call 48;refine KS.get.mono ?_;rintro e w2 ⟨rfl,ZU⟩)|(go_at_call 129;refine Yu.get.mono ?_;rintro e w' ⟨rfl,Zf⟩;subst w'))
 go_ret;rw[Yn.out];exact⟨rfl,⟨_,HH.out.grown ZU⟩,Zy.grown ZU⟩
def lz{P:Prop}(h:P:=by
 go_enter func86,ntmps86;go_wp2_with (go_at_call 129;refine Yu.get.mono ?_;rintro e w' ⟨rfl,Zf⟩;subst w');go_ret;rw[Yn.out];exact⟨rfl,⟨_,HH.out⟩,Zy.refl X _⟩):P:=h
theorem alY (h:ZN w0 w X K s vT vS)(hK:YV K)(hs:Y5 K s){i:Nat}(hi:i<K.cons.length)(hz:(XR s (K.YP.getD i [])).2≠0)(cw:K.VO=true):aq 86 #[ai X.b,Y (i:Int)] w λe w'=>e=.returned (.bool (Yq K i s).1)/\(∃ar,ZN w0 w' X K (Yq K i s).2 ar vS)/\Zy X w w':=by
 obtain⟨g,x,ca,cc,cap,hD⟩:=h.draw hi;have aJ:=cq hD.c;have av:=hK.cons _ aJ;have Yu:=ZQ.mk (Ju h hK.WB hD.row (λv hv=>R6 av v ((hK.cv i _ hD.c v).1 hv)) (hK.JC i))
 obtain⟨o0,o1,o2,o3⟩:=Oj s (K.YP.getD i []);have ba:K.cons.getD i RA=x.c:=rR;have f0:=hD.f0;have c2:=hD.c2;have f8:=h.f8;have cv:=hD.cv;have YS:(i:Int)<K.cons.length:=J;have Y8:(0:Int)<=i:=J;have Yc:=h.lt.1;have UB:=hD.Vs.lt;have Yn:Hid (Yq K i s=(true,s)):=by rw[Hid];unfold Yq;rw[ba];simp only[];rw[iQ hz,iR cw]
 have f2:=h.f2;rw[cw]at f2;have hO:((XR s (K.YP.getD i [])).2==0)=false:=tj;have HH:=Z8 h;generalize XR s (K.YP.getD i [])=anU at *;clear h hK hs hD av ba hz o0 o1 o2 o3 cw;exact lz
theorem ZN.alZ (h:ZN w0 w X K s vT vS){x:X7}(hx:x∈X.cs){gt ct:Nat}(hv:x.vv=aj gt x.c.vars.length ct):∃cells:Array aF,w.heap[gt]?=some (.cells cells 3 (0,0))/\(∀(j:Nat) (y:Int),x.c.vars[j]?=some y->cells[j]?=some (Y y))/\gt∉X.own/\x.c.vars.length<=ct:=by
 have q:=(h.PY.at_ x hx).v;rcases q.2 with⟨e,_⟩|⟨g',UH,cur,e,hB,hh,hc,_,Yw,aC⟩
 ·rw[hv]at e;cases e
 ·rw[hv]at e;injection e with e1 e2 e3;injection e1 with e1;injection e1 with e1;subst e1;refine⟨cur,(h.g0.block gt (YY hh) pG).trans hh,λj y hy=> ?_,λhm=> ?_,J⟩
  ·have hj:=(aU.1 hy).1;have q2:(x.c.vars.flatMap QE)[j]?=some (Y y):=by rw[C9,dR,hy];rfl
   rw[<-aC,bh J]at q2;simpa using q2
  ·have:=h.low gt hm;have:=YY hh;omega
def mb{P:Prop}(h:P:=by
 go_ret;rw[Yn.out];exact⟨rfl,YM,WR⟩):P:=h
theorem al0 (h:ZN w0 w X K s vT vS)(hK:YV K)(hs:Y5 K s)(hT:TB s){i:Nat}(hi:i<K.cons.length)(hz:(XR s (K.YP.getD i [])).2≠0)(cw:K.VO=false)(az:(K.cons.getD i RA).sort=2):aq 86 #[ai X.b,Y (i:Int)] w λe w'=>e=.returned (.bool (Yq K i s).1)/\(∃ar,ZN w0 w' X K (Yq K i s).2 ar vS)/\Zy X w w':=by
 obtain⟨g,x,ca,cc,cap,hD⟩:=h.draw hi;have aJ:=cq hD.c;have av:=hK.cons _ aJ;have Yu:=ZQ.mk (Ju h hK.WB hD.row (λv hv=>R6 av v ((hK.cv i _ hD.c v).1 hv)) (hK.JC i))
 obtain⟨o0,o1,o2,o3⟩:=Oj s (K.YP.getD i []);have ba:K.cons.getD i RA=x.c:=rR;have f0:=hD.f0;have c2:=hD.c2;have f8:=h.f8;have cv:=hD.cv;have YS:(i:Int)<K.cons.length:=J;have Y8:(0:Int)<=i:=J;have Yc:=h.lt.1;have UB:=hD.Vs.lt;rw[ba]at az;have aa:=az;have Yn:Hid (Yq K i s=Qq K x.c s):=by
  rw[Hid];unfold Yq;rw[ba];simp only[];rw[iQ hz,iQ rQ,iQ J,iQ J,iR az]
 have k0:ak w g (i*10) (Y x.c.sort):=hD.Vs.cell 0 _ rfl;have f2:=h.f2;rw[cw]at f2;rw[aa]at k0;generalize bq:XR s (K.YP.getD i [])=anU at *;have hO:(anU.2==0)=false:=pI;have KD:=ZQ.mk (alF h hK hs hT hD.Vs hD.gx aJ aa);clear h hK hs hT hD av ba hz o0 o1 o2 o3 cw aa az bq;go_enter func86,ntmps86;go_wp2_with (first|(go_at_call 131;refine KD.get.mono ?_;rintro e w2 ⟨rfl,YM,WR⟩)|(go_at_call 129;refine Yu.get.mono ?_;rintro e w' ⟨rfl,Zf⟩;subst w'))
 exact mb
theorem al1 (h:ZN w0 w X K s vT vS)(hK:YV K)(hs:Y5 K s)(hT:TB s){i:Nat}(hi:i<K.cons.length)(hz:(XR s (K.YP.getD i [])).2≠0)(cw:K.VO=false)(az:(K.cons.getD i RA).sort=3):aq 86 #[ai X.b,Y (i:Int)] w λe w'=>e=.returned (.bool (Yq K i s).1)/\(∃ar,ZN w0 w' X K (Yq K i s).2 ar vS)/\Zy X w w':=by
 obtain⟨g,x,ca,cc,cap,hD⟩:=h.draw hi;have aJ:=cq hD.c;have av:=hK.cons _ aJ;have Yu:=ZQ.mk (Ju h hK.WB hD.row (λv hv=>R6 av v ((hK.cv i _ hD.c v).1 hv)) (hK.JC i))
 obtain⟨o0,o1,o2,o3⟩:=Oj s (K.YP.getD i []);have ba:K.cons.getD i RA=x.c:=rR;have f0:=hD.f0;have c2:=hD.c2;have f8:=h.f8;have cv:=hD.cv;have YS:(i:Int)<K.cons.length:=J;have Y8:(0:Int)<=i:=J;have Yc:=h.lt.1;have UB:=hD.Vs.lt;rw[ba]at az;have aa:=az;have Yn:Hid (Yq K i s=JF K x.c.vars s):=by
  rw[Hid];unfold Yq;rw[ba];simp only[];rw[iQ hz,iQ rQ,iQ J,iQ J,iQ J,iR az]
 have k0:ak w g (i*10) (Y x.c.sort):=hD.Vs.cell 0 _ rfl;have f2:=h.f2;rw[cw]at f2;rw[aa]at k0;generalize bq:XR s (K.YP.getD i [])=anU at *;have hO:(anU.2==0)=false:=pI;obtain⟨gt,ct,ck,_⟩:=YR.TX hD.Vs.at_.v (by cases e:x.c.vars with|nil=>exact absurd e (av.Pu aa)|cons _ _=>simp)
 have k8:w.cell? (O g (i*10+8))=some (aj gt x.c.vars.length ct):=by have q:=hD.Vs.cell 8 _ rfl;rw[ck.is]at q;exact q
 obtain⟨cells,z1,z2,z3,z4⟩:=h.alZ hD.mem ck.is;have KD:=ZQ.mk (alN h hK hs hT z1 z2 z3 z4 av.vars (by have:=av.WB;omega));clear h hK hs hT hD av ba hz o0 o1 o2 o3 cw aa az bq;go_enter func86,ntmps86;go_wp2_with (first|(go_at_call 132;refine KD.get.mono ?_;rintro e w2 ⟨rfl,YM,WR⟩)|(go_at_call 129;refine Yu.get.mono ?_;rintro e w' ⟨rfl,Zf⟩;subst w'))
 exact mb
theorem al2 (h:ZN w0 w X K s vT vS)(hK:YV K)(hs:Y5 K s)(hT:TB s){i:Nat}(hi:i<K.cons.length)(hz:(XR s (K.YP.getD i [])).2≠0)(cw:K.VO=false)(az:(K.cons.getD i RA).sort=4):aq 86 #[ai X.b,Y (i:Int)] w λe w'=>e=.returned (.bool (Yq K i s).1)/\(∃ar,ZN w0 w' X K (Yq K i s).2 ar vS)/\Zy X w w':=by
 obtain⟨g,x,ca,cc,cap,hD⟩:=h.draw hi;have aJ:=cq hD.c;have av:=hK.cons _ aJ;have Yu:=ZQ.mk (Ju h hK.WB hD.row (λv hv=>R6 av v ((hK.cv i _ hD.c v).1 hv)) (hK.JC i))
 obtain⟨o0,o1,o2,o3⟩:=Oj s (K.YP.getD i []);have ba:K.cons.getD i RA=x.c:=rR;have f0:=hD.f0;have c2:=hD.c2;have f8:=h.f8;have cv:=hD.cv;have YS:(i:Int)<K.cons.length:=J;have Y8:(0:Int)<=i:=J;have Yc:=h.lt.1;have UB:=hD.Vs.lt;rw[ba]at az;have aa:=az;have Yn:Hid (Yq K i s=PE K x.c.lits s):=by
  rw[Hid];unfold Yq;rw[ba];simp only[];rw[iQ hz,iQ rQ,iQ J,iQ J,iQ J,iQ J,iR az]
 have k0:ak w g (i*10) (Y x.c.sort):=hD.Vs.cell 0 _ rfl;have f2:=h.f2;rw[cw]at f2;rw[aa]at k0;generalize bq:XR s (K.YP.getD i [])=anU at *;have hO:(anU.2==0)=false:=pI;obtain⟨gt,ct,ck,_⟩:=YR.TX hD.Vs.at_.i (by cases e:x.c.lits with|nil=>exact absurd e (av.Ha aa)|cons _ _=>simp)
 have k9:w.cell? (O g (i*10+9))=some (aj gt x.c.lits.length ct):=by have q:=hD.Vs.cell 9 _ rfl;rw[ck.is]at q;exact q
 have dC:YR w (aj gt x.c.lits.length ct) gt ct P7 x.c.lits:=⟨rfl,ck.row,ck.lt⟩;obtain⟨ov,oo⟩:=o2 J;have bo:=(hK.cv i _ hD.c anU.1).1 ov;have hm:∃a∈x.c.lits,Uh s a=true:=by
  unfold Y2 at bo;rw[iQ J,iQ J,iQ J,iQ J,iR aa]at bo;exact De hK hs hD.c aa bo oo
 have KD:=ZQ.mk (alV h hK hs hT dC (by have:=av.Ip;omega) (λp hp=>⟨(av.lits p hp).1,(av.lits p hp).2.2⟩) hm)
 clear h hK hs hT hD av ba hz o0 o1 o2 o3 cw aa az bq;go_enter func86,ntmps86;go_wp2_with (first|(go_at_call 133;refine KD.get.mono ?_;rintro e w2 ⟨rfl,YM,WR⟩)|(go_at_call 129;refine Yu.get.mono ?_;rintro e w' ⟨rfl,Zf⟩;subst w'))
 exact mb
theorem al3 (h:ZN w0 w X K s vT vS)(hK:YV K)(hs:Y5 K s)(hT:TB s){i:Nat}(hi:i<K.cons.length)(hz:(XR s (K.YP.getD i [])).2≠0)(cw:K.VO=false)(az:(K.cons.getD i RA).sort=0):aq 86 #[ai X.b,Y (i:Int)] w λe w'=>e=.returned (.bool (Yq K i s).1)/\(∃ar,ZN w0 w' X K (Yq K i s).2 ar vS)/\Zy X w w':=by
 obtain⟨g,x,ca,cc,cap,hD⟩:=h.draw hi;have aJ:=cq hD.c;have av:=hK.cons _ aJ;have Yu:=ZQ.mk (Ju h hK.WB hD.row (λv hv=>R6 av v ((hK.cv i _ hD.c v).1 hv)) (hK.JC i))
 obtain⟨o0,o1,o2,o3⟩:=Oj s (K.YP.getD i []);have ba:K.cons.getD i RA=x.c:=rR;have f0:=hD.f0;have c2:=hD.c2;have f8:=h.f8;have cv:=hD.cv;have YS:(i:Int)<K.cons.length:=J;have Y8:(0:Int)<=i:=J;have Yc:=h.lt.1;have UB:=hD.Vs.lt;rw[ba]at az;have aa:=az;by_cases c1:1<(XR s (K.YP.getD i [])).2
 ·have Yn:Hid (Yq K i s=(true,s)):=by
   rw[Hid];unfold Yq;rw[ba];simp only[];rw[iQ hz,iQ rQ,iQ J,iR aa,iR c1]
  have k0:ak w g (i*10) (Y x.c.sort):=hD.Vs.cell 0 _ rfl;have f2:=h.f2;rw[cw]at f2;rw[aa]at k0;generalize bq:XR s (K.YP.getD i [])=anU at *;have hO:(anU.2==0)=false:=pI;have HH:=Z8 h;clear h hK hs hT hD av ba hz o0 o1 o2 o3 cw aa az bq;exact lz
 ·have Yn:Hid (Yq K i s=Nn K x.c true (XR s (K.YP.getD i [])).1 s):=by
   rw[Hid];unfold Yq;rw[ba];simp only[];rw[iQ hz,iQ rQ,iQ J,iR aa,iQ c1]
  have k0:ak w g (i*10) (Y x.c.sort):=hD.Vs.cell 0 _ rfl;have f2:=h.f2;rw[cw]at f2;rw[aa]at k0;generalize bq:XR s (K.YP.getD i [])=anU at *;have hO:(anU.2==0)=false:=pI;have aY:decide (1<anU.2)=false:=ry;obtain⟨ov,oo⟩:=o2 J;have hv:=R6 av _ ((hK.cv i _ hD.c anU.1).1 ov);have KD:=ZQ.mk (acq h hK hs hD.Vs aJ (.inl aa) hv true hT.le);clear h hK hs hT hD av ba hz o0 o1 o2 o3 cw aa az bq c1 ov oo hv;go_enter func86,ntmps86;go_wp2_with (first|(go_at_call 130;refine KD.get.mono ?_;rintro e w2 ⟨rfl,YM,WR⟩)|(go_at_call 129;refine Yu.get.mono ?_;rintro e w' ⟨rfl,Zf⟩;subst w'))
  exact mb
def lI{P:Prop}(h:P:=by
 go_quiet (fail);go_wp2;go_ret;rw[Yn.out];exact⟨rfl,⟨_,HH.out.grown (XN _ _ _)⟩,Zy.grown (XN _ _ _)⟩):P:=h
theorem al4 (h:ZN w0 w X K s vT vS)(hK:YV K)(hs:Y5 K s)(hT:TB s){i:Nat}(hi:i<K.cons.length)(hz:(XR s (K.YP.getD i [])).2≠0)(cw:K.VO=false)(az:(K.cons.getD i RA).sort=1):aq 86 #[ai X.b,Y (i:Int)] w λe w'=>e=.returned (.bool (Yq K i s).1)/\(∃ar,ZN w0 w' X K (Yq K i s).2 ar vS)/\Zy X w w':=by
 obtain⟨g,x,ca,cc,cap,hD⟩:=h.draw hi;have aJ:=cq hD.c;have av:=hK.cons _ aJ;have Yu:=ZQ.mk (Ju h hK.WB hD.row (λv hv=>R6 av v ((hK.cv i _ hD.c v).1 hv)) (hK.JC i))
 obtain⟨o0,o1,o2,o3⟩:=Oj s (K.YP.getD i []);have ba:K.cons.getD i RA=x.c:=rR;have f0:=hD.f0;have c2:=hD.c2;have f8:=h.f8;have cv:=hD.cv;have YS:(i:Int)<K.cons.length:=J;have Y8:(0:Int)<=i:=J;have Yc:=h.lt.1;have UB:=hD.Vs.lt;rw[ba]at az;have aa:=az;obtain⟨bs,_⟩:=av.Yp aa;have k1:ak w g (i*10+1) (Y x.c.Yp):=hD.Vs.cell 1 _ rfl;obtain⟨kv,kf,_,_⟩:=h.K0 bs;have f6:=h.f6;have f5:=h.f5;have p1:=bs.1;have p2:=bs.2;have aw:=h.lt.2.2.2.1;have cG:=h.lt.2.2.1;by_cases cf:s.fixed x.c.Yp=true
 ·rw[cf]at kf;by_cases c1:1<(XR s (K.YP.getD i [])).2
  ·have Yn:Hid (Yq K i s=(true,s)):=by
    rw[Hid];unfold Yq;rw[ba];simp only[];rw[iQ hz,iQ rQ,iR aa,iR cf,iR c1]
   have k0:ak w g (i*10) (Y x.c.sort):=hD.Vs.cell 0 _ rfl;have f2:=h.f2;rw[cw]at f2;rw[aa]at k0;generalize bq:XR s (K.YP.getD i [])=anU at *;have hO:(anU.2==0)=false:=pI;have HH:=Z8 h;clear h hK hs hT hD av ba hz o0 o1 o2 o3 cw aa az bq cf bs;go_enter func86,ntmps86;go_wp2_with (go_at_call 129;refine Yu.get.mono ?_;rintro e w' ⟨rfl,Zf⟩;subst w');go_quiet (fail);go_wp2;exact lI
  ·have Yn:Hid (Yq K i s=Nn K x.c (s.val x.c.Yp==1) (XR s (K.YP.getD i [])).1 s):=by
    rw[Hid];unfold Yq;rw[ba];simp only[];rw[iQ hz,iQ rQ,iR aa,iR cf,iQ c1];rfl
   have k0:ak w g (i*10) (Y x.c.sort):=hD.Vs.cell 0 _ rfl;have f2:=h.f2;rw[cw]at f2;rw[aa]at k0;generalize bq:XR s (K.YP.getD i [])=anU at *;have hO:(anU.2==0)=false:=pI;have aY:decide (1<anU.2)=false:=ry;obtain⟨ov,oo⟩:=o2 J;have hv:=R6 av _ ((hK.cv i _ hD.c anU.1).1 ov);have KD:=ZQ.mk (λ{W:A} (z:aB w W)=>acq (h.grown z) hK hs (hD.Vs.grown z) aJ (.inr aa) hv (s.val x.c.Yp==1) hT.le)
   clear h hK hs hT hD av ba hz o0 o1 o2 o3 cw aa az bq c1 ov oo hv cf bs;go_enter func86,ntmps86;go_wp2_with (go_at_call 129;refine Yu.get.mono ?_;rintro e w' ⟨rfl,Zf⟩;subst w');go_quiet (fail);go_wp2;go_quiet (fail);go_wp2_with (go_at_call 130;refine(KD.get (XN _ _ _)).mono ?_;rintro e w2 ⟨rfl,YM,WR⟩);go_ret;rw[Yn.out];exact⟨rfl,YM,(Zy.grown (XN _ _ _)).trans WR⟩
 ·have bX:s.fixed x.c.Yp=false:=by simpa using cf
  rw[bX]at kf;have Yn:Hid (Yq K i s=(true,s)):=by
   rw[Hid];unfold Yq;rw[ba];simp only[];rw[iQ hz,iQ rQ,iR aa,iQ cf]
  have k0:ak w g (i*10) (Y x.c.sort):=hD.Vs.cell 0 _ rfl;have f2:=h.f2;rw[cw]at f2;rw[aa]at k0;generalize bq:XR s (K.YP.getD i [])=anU at *;have hO:(anU.2==0)=false:=pI;have HH:=Z8 h;clear h hK hs hT hD av ba hz o0 o1 o2 o3 cw aa az bq cf bX bs;go_enter func86,ntmps86;go_wp2_with (go_at_call 129;refine Yu.get.mono ?_;rintro e w' ⟨rfl,Zf⟩;subst w');exact lI
theorem al5 (h:ZN w0 w X K s vT vS)(hK:YV K)(hs:Y5 K s)(hT:TB s){i:Nat}(hi:i<K.cons.length):aq 86 #[ai X.b,Y (i:Int)] w λe w'=>e=.returned (.bool (Yq K i s).1)/\(∃ar,ZN w0 w' X K (Yq K i s).2 ar vS)/\Zy X w w':=by
 by_cases hz:(XR s (K.YP.getD i [])).2=0
 ·exact alX h hK hs hi hz
 ·cases cw:K.VO with
  |true=>exact alY h hK hs hi hz cw
  |false=>
   have ba:K.cons.getD i RA=K.cons[i]:=by rw[aN,aZ hi];rfl
   rcases(hK.cons _ (eL hi)).sort with e|e|e|e|e
   ·exact al3 h hK hs hT hi hz cw sY
   ·exact al4 h hK hs hT hi hz cw sY
   ·exact al0 h hK hs hT hi hz cw sY
   ·exact al1 h hK hs hT hi hz cw sY
   ·exact al2 h hK hs hT hi hz cw sY
def Qj (b:Bool)(l:List Bool):Int:=match l.findIdx? (λx=>x==b)with|some i=>(i:Int)|none=>-1
theorem al6 {b:Bool}{l:List Bool}{i:Nat}(Uu:∀j x,j<i->l[j]?=some x->(x==b)=false)(ha:l[i]?=some b):Qj b l=i:=by
 have:l.findIdx? (λx=>x==b)=some i:=by
  rw[aG];have hi:=(aU.1 ha).1;refine⟨hi,?_,λj hj=> ?_⟩
  ·rw[(aU.1 ha).2];simp
  ·have:=Uu j _ hj (aZ J);simpa using this
 unfold Qj;rw[this]
theorem al7 {b:Bool}{l:List Bool}(Uu:∀j x,j<l.length->l[j]?=some x->(x==b)=false):Qj b l=-1:=by
 have:l.findIdx? (λx=>x==b)=none:=by
  exact mE
 unfold Qj;rw[this]
def nG{P:Prop}(h:P:=by
 go_wp2;go_ret;rw[HE.out];exact⟨rfl,rfl⟩):P:=h
theorem zA {g cap:Nat}{l:List Bool}(z:w.heap[g]?=some (.cells (l.map Value.bool).toArray 4 (0,0)))(b:Bool)(a7:l.length<=3000):aq 85 #[aj g l.length cap,.bool b] w λe w'=>e=.returned (Y (Qj b l))/\w'=w:=by
 have HG:=Z8 z;have bC:=YY z;clear z;go_enter func85,ntmps85;go_wp2
 go_loopw [8] (λvi wr=>∃i:Nat,i<=l.length/\vi=Y i/\(∀j x,j<i->l[j]?=some x->(x==b)=false)/\wr=w) (λvi _=>l.length-(intOf vi).toNat)
 case atStart=>exact⟨0,iz _,rfl,λj x hj=>absurd hj (fI j),rfl⟩
 case round=>
  obtain⟨i,hi,rfl,Uu,Zf⟩:=hrel;subst wr;have Tj:=Z8 Uu;clear Uu;by_cases ZR:i<l.length
  ·obtain⟨a,ha⟩:∃a,l[i]?=some a:=⟨l[i],aZ ZR⟩;have k0:ak w g i (.bool a):=Z0 HG.out i _ tS;have X8:(i:Int)<l.length:=J;have Xy:(0:Int)<=i:=J;have HA:=Z8 ha;clear ha;by_cases c:a=b
   ·subst c;have HE:Hid (Qj a l=i):=al6 Tj.out HA.out;exact nG
   ·have c':(b==a)=false:=by simp;exact λe=>c e.symm
    have HE:Hid (∀j x,j<i+1->l[j]?=some x->(x==b)=false):=λj x hj hx=>by
     by_cases e:j=i
     ·subst e;rw[HA.out]at hx;cases hx;simpa using c
     ·exact Tj.out j x J hx
    go_wp2;go_roundw
    case rel=>exact⟨i+1,J,pQ,HE.out,sr⟩
    case measure=>simp[intOf];omega
  ·obtain rfl:i=l.length:=J;have HE:Hid (Qj b l=-1):=al7 Tj.out;exact nG
theorem al8 (m:List Bool):Qj true m=match Qp m with|some i=>(i:Int)|none=>-1:=by
 unfold Qj Qp;have:(λx:Bool=>x==true)=id:=by funext x;cases x<;>rfl
 rw[this]
theorem ZN.clr (h:ZN w0 w X K s vT vS)(bu:s.marked.length=K.cons.length):ZN w0 (w.setCells X.gm 0 (List.replicate K.cons.length (.bool false))) X K (Om s) vT vS/\Zy X w (w.setCells X.gm 0 (List.replicate K.cons.length (.bool false))):=by
 obtain⟨n1,n2,n3,n4,n5,n6,n7,n8,n9,n10⟩:=Nf h;have gs:=Qm w X.gm 0 (List.replicate K.cons.length (.bool false));have keep:∀{k:Nat} {o:Obj},w.heap[k]?=some o->k≠X.gm->(w.setCells X.gm 0 (List.replicate K.cons.length (.bool false))).heap[k]?=some o:=λ{k o} I ZP=>(gs.block k (YY I) (λe=>ZP qI)).trans I
 refine⟨h.UZ (h.Fi gs KZ) (λk o I hn=>keep I (λe=>hn (by rw[e];exact KZ))) (keep h.U8 n4) (h.left.kept λo ho=>keep ho n7) (keep h.Z7 n9) (keep h.Rv n10) ?_ rfl rfl,Zy.UZ gs KZ⟩
 obtain⟨a,F,h2,h3,h4⟩:=Fh (List.replicate K.cons.length (.bool false)) 0 w _ h.mark;rw[F];have:a=((Om s).marked.map Value.bool).toArray:=by
  apply dp;intro j;by_cases hj:j<K.cons.length
  ·have:=h3 j (by simpa using hj) (by simp[bu,hj]);rw[ik]at this;rw[this];simp[Om,bu,hj]
  ·rw[bD (by rw[h2];simp[bu];omega),bD (by simp[Om,bu];omega)]
 rw[this]
theorem al9 (w:A):(zeroValue 4).run prog w=.ok (.bool false) w:=pH
def acA (w0 w:A)(X:SL)(K:SK)(vS:aF)(R:Bool×SS)(k:Nat)(vc:aF)(wr:A):Prop:=
 ∃(s:SS) (vT:aF),Ol s<k/\vc=Y (Qj true s.marked)/\ZN w0 wr X K s vT vS/\Y5 K s/\TB s/\Zy X w wr/\Zp K s=R
theorem acB (hK:YV K)(hs:Y5 K s)(hT:TB s){i:Nat}{c:Yz}(hc:K.cons[i]?=some c):TB (Yq K i s).2:=by
 have aJ:=cq hc;have av:=hK.cons c aJ;have bk:=hK.cv i c hc;have ba:K.cons.getD i RA=c:=by rw[aN,hc];rfl
 obtain⟨o0,o1,o2,o3⟩:=Oj s (K.YP.getD i []);unfold Yq;rw[ba];simp only[];generalize hO:XR s (K.YP.getD i [])=o at *;by_cases c0:o.2=0
 ·rw[iR c0];exact hT
 rw[iQ c0];obtain⟨ov,oo⟩:=o2 J;have bl:=R6 av o.1 ((bk o.1).1 ov);have cD:∀t,TB (Nn K c t o.1 s).2:=λt=>Jm hK hs bl (λj=>Ai j) hT
 by_cases cw:K.VO=true
 ·rw[iR cw];exact hT
 rw[iQ cw];by_cases c1:c.sort=1
 ·rw[iR c1];split
  ·split
   ·exact hT
   ·exact cD _
  ·exact hT
 rw[iQ c1];by_cases cz:c.sort=0
 ·rw[iR cz];split
  ·exact hT
  ·exact cD _
 rw[iQ cz];by_cases c2:c.sort=2
 ·rw[iR c2];obtain⟨hp,he⟩:=av.place c2;obtain⟨u1,u2⟩:=Df (P:=s.L c.place) (E:=s.L c.entry) (l:=c.list) (i:=0) (r:=(0,0)) (λj h=>pZ) (λj h=>pZ)
  have q1:=(Mt hK hs hp u1).1.ok hs;have q2:=Jm hK hs hp u1 hT;unfold Qq;simp only[];split
  ·exact Jm hK q1 he (λj h=>by rw[fJ]at h;simp at h;exact h.2) q2
  ·exact q2
 rw[iQ c2];by_cases c3:c.sort=3
 ·rw[iR c3];exact(alM hK av.vars _ hs hT).2
 rw[iQ c3];by_cases c4:c.sort=4
 ·rw[iR c4];have cn:=(bk o.1).1 ov;unfold Y2 at cn;rw[iQ c1,iQ cz,iQ c2,iQ c3,iR c4]at cn;obtain⟨l,hl,hm⟩:=De hK hs hc c4 cn oo;obtain⟨ii,f,aI,WR,TH,bB,Te⟩:=acz (p:=Uh s) ⟨l,hl,hm⟩;unfold PE;rw[WR];simp only[eY];split
  ·exact hT
  ·exact Jm hK hs (av.lits f Te).1 (λj h=>by rw[PD]at h;rw[<-ew h];exact TH) hT
 rw[iQ c4];exact hT
theorem acC (h:ZN w0 w X K s vT vS)(hK:YV K)(hs:Y5 K s)(hT:TB s):aq 50 #[ai X.b] w λe w'=>e=.returned (.bool (Zp K s).1)/\(∃ar,ZN w0 w' X K (Zp K s).2 ar vS)/\Zy X w w':=by
 obtain⟨R,hR⟩:∃R,Zp K s=R:=⟨_,rfl⟩;rw[hR];have W6:Hid (acA w0 w X K vS R (Ol s+1) (Y (Qj true s.marked)) w):=⟨s,vT,eT _,rfl,h,hs,hT,Zy.refl X w,hR⟩;have cW:=ZQ.mk (zA (cap:=K.cons.length) h.mark true (by rw[hs.ml];have:=hK.O8;omega));rw[hs.ml]at cW;have f10:=h.f10;have HK:=Z8 hK;have dL:=hK.O8;clear h hs hT hR hK;go_enter func50,ntmps50;go_wp2_with (go_at_call 85;refine cW.get.mono ?_;rintro e w' ⟨rfl,Zf⟩;subst w');clear cW f10
 go_loopg [3] (Ol s+1) (λk vc wr=>acA w0 w X K vS R k vc wr)
 case atStart=>exact W6.out
 case round=>
  clear W6;obtain⟨si,bK,I,rfl,YG,aa,Z,Yf,aA⟩:=hrel;rw[al8];have f10:=YG.f10
  cases hm:Qp si.marked with
  |none=>
   have e:R=(true,si):=by rw[<-aA];exact ak1 hm
   subst e;have O7:=Z8 YG;have T1:=Z8 Yf;clear YG Yf aa Z aA hm f10;simp only[];go_wp2;go_ret;exact⟨rfl,⟨_,O7.out⟩,T1.out⟩
  |some i=>
   simp only[];obtain⟨bt,cM⟩:=G7 hm;have hi:i<K.cons.length:=by rw[<-aa.ml];exact bt
   have cX:si.marked[i]?=some true:=by
    rw[aN,aZ bt]at cM;rw[aZ bt];simpa using cM
   obtain⟨km,fm⟩:=YG.zJ cX;have YS:(i:Int)<K.cons.length:=J;have Y8:(0:Int)<=i:=J;obtain⟨hu,cd⟩:=YG.zK i false;have Od:Y5 K (T3 i si):=(Jy i si).ok aa;have cN:TB (T3 i si):=Z;have bf:K.cons[i]?=some K.cons[i]:=aZ hi;have KD:=ZQ.mk (al5 (s:=T3 i si) hu HK.out Od cN hi);have bU:=ak2 HK.out aa hm;rw[aA]at bU;have cp:=Dc HK.out aa hm;have aX:Y5 K (Yq K i (T3 i si)).2/\TB (Yq K i (T3 i si)).2:=⟨(JA HK.out Od bf).1.ok Od,acB HK.out Od cN bf⟩;generalize Yq K i (T3 i si)=k at *;have PM:=Z8 aX;have T1:=Z8 (Yf.trans cd);have HM:=Z8 cp;have P4:=Z8 I
   cases Vo:k.1 with
   |true=>
    rw[Vo]at KD;have Xk:Hid (Zp K k.2=R):=by rw[Hid,bU,Vo];rfl
    have KI:=ZQ.mk (λ{W:A} {a6:aF} (q:ZN w0 W X K k.2 a6 vS)=>zA (cap:=K.cons.length) q.mark true (by rw[aX.1.ml];omega))
    rw[aX.1.ml]at KI;clear YG aa Z Yf aA bU hm bt cM cX hu cd Od cN bf cp aX Vo I;go_wp2_with (first|(go_at_call 85;refine(KI.get YM).mono ?_;rintro e w' ⟨rfl,Zf⟩;subst w')|(go_at_call 86;refine KD.get.mono ?_;rintro e w2 ⟨rfl,⟨a6,YM⟩,WR⟩;have g10:=YM.f10))
    go_roundg (Ol k.2+1)
    case rel=>exact⟨k.2,a6,eT _,rfl,YM,PM.out.1,PM.out.2,T1.out.trans WR,Xk.out⟩
    case measure=>have:=HM.out;have:=P4.out;omega
   |false=>
    rw[Vo]at KD;have Xk:Hid (R=(false,Om k.2)):=by rw[Hid,bU,Vo];rfl
    have L3:Hid (∀{W:A} {a6:aF},ZN w0 W X K k.2 a6 vS->(∀ty,(Builtin.clear_ #[103] ty #[aj X.gm K.cons.length K.cons.length]).run prog W=.ok (.tuple #[]) (W.setCells X.gm 0 (List.replicate K.cons.length (.bool false))))):=λ{W a6} q ty=>by
     refine Lib.run_clear_slice W 103 4 ty (.bool false) underlying103 al9 rfl rfl X.gm 0 K.cons.length K.cons.length J (λj hj=> ?_) (λj hj=>Zz q.mark _)
     rw[ik,Z0 q.mark j (.bool (k.2.marked[j]'(by rw[PM.out.1.ml];exact hj))) (by simp[PM.out.1.ml,hj])];rfl
    clear YG aa Z Yf aA bU hm bt cM cX hu cd Od cN bf cp aX Vo I;go_wp2_with (first|(simp only[aH])|(go_at_call 86;refine KD.get.mono ?_;rintro e w2 ⟨rfl,⟨a6,YM⟩,WR⟩;have g10:=YM.f10;have aH:=L3.out YM))
    go_ret;rw[Xk.out];have q:=YM.clr PM.out.1.ml;exact⟨rfl,⟨_,q.1⟩,(T1.out.trans WR).trans q.2⟩
section
attribute [local go_sem ↓] Pz Py
variable {w0 w w' aW:A}{X:SL}{K:SK}{s:SS}{vT vS:aF}
theorem ama:∃d,prog.underlying 250=some d/\d.isRow=true:=⟨_,underlying250,rfl⟩
theorem acD:(prog.info? 250).map (·.size)=some 33:=pH
theorem ZN.pop (h:ZN w0 w X K s vT vS){g cap n:Nat}(hv:vT=aj g (n+1) cap)(hn:s.ZF.length=n+1):ZN w0 (w.setCell (O X.b 7) (aj g n cap)) X K {s with ZF:=s.ZF.dropLast} (aj g n cap) vS/\Zy X w (w.setCell (O X.b 7) (aj g n cap)):=by
 obtain⟨n1,n2,n3,n4,n5,n6,n7,n8,n9,n10⟩:=Nf h;have gb:=ZC w X.b 7 (aj g n cap);have QI:g∉X.own:=h.Nj g (by rw[hv];rfl);have last:∀{k:Nat} {o:Obj},w.heap[k]?=some o->k≠X.b->(w.setCell (O X.b 7) (aj g n cap)).heap[k]?=some o:=λ{k o} I ZP=>
  (gb.block k (YY I) (λe=>ZP qI)).trans I
 have ki:∀k cells,w.heap[k]?=some (.cells cells 3 (0,0))->k∉X.own->(w.setCell (O X.b 7) (aj g n cap)).heap[k]?=some (.cells cells 3 (0,0)):=λk c I bp=>
  last I (λe=>bp qa)
 have aQ:g≠X.b:=λe=>QI qa
 refine⟨⟨h.Fi gb Rn,h.low,h.nd,YE h.U8 7 _ rfl,h.left.kept λo ho=>last ho n1.symm,last h.Z7 n2.symm,last h.Rv n3.symm,last h.mark n4.symm,?_,?_,?_,h.OW,last h.Ru (λe=>h.cap.1 qa),h.PC,λi v q=>(h.Ni i v q).kept ki,last h.Q1 (λe=>h.cap.2 qa),h.Nh,λi v q=>(h.usr i v q).kept ki,h.cap,h.PY,h.Ng,h.Ms⟩,Zy.UZ gb Rn⟩
 ·have hlen:s.ZF.dropLast.length=n:=by simp[hn]
  show World.ownsRow _ _ _ _ _ s.ZF.dropLast.length _;rw[hlen];have bE:(s.ZF.dropLast.flatMap SN).length=n*33:=by
   rw[List.length_flatMap];have:(s.ZF.dropLast.map λa=>(SN a).length)=List.replicate n 33:=by
    apply eJ
    ·simp[hn]
    ·intro i _ _;simp[Da]
   rw[this];simp
  refine⟨bE,.inr ?_⟩;rcases h.ZF.2 with⟨e,_⟩|⟨g',UH,cur,e,hB,hh,hc,hm,Yw,aC⟩
  ·rw[hv]at e;cases e
  ·rw[hv]at e;injection e with e1 e2 e3;injection e1 with e1;injection e1 with e1;subst e1 e3;refine⟨g,cap,cur,rfl,hB,last hh aQ,J,hm,Yw,?_⟩;have bW:s.ZF=s.ZF.dropLast++[s.ZF.getLast (λe=>by rw[e]at hn;simp at hn)]:=(List.dropLast_concat_getLast _).symm
   have h2:(s.ZF.flatMap SN).take (n*33)=s.ZF.dropLast.flatMap SN:=by
    conv=>lhs;rw[bW]
    rw[cU,List.take_append_of_le_length (by rw[bE];exact iw _),bH (by rw[bE];exact iw _)]
   rw[<-h2,<-aC,List.take_take,fH (by rw[hn];omega)]
 ·exact lU
 ·obtain⟨rows,r1,r2,r3⟩:=h.Zx;refine⟨rows,r1.kept gb ?_,λi v q=>(r2 i v q).kept ki,r3⟩
  cases T5:vS.ownBlock with
  |none=>exact .inl rfl
  |some k=>exact .inr (λe=>(h.OW k T5).1 qG)
theorem ZN.last (h:ZN w0 w X K s vT vS){n:Nat}(hn:s.ZF.length=n+1):∃(g cap:Nat) (p:Int×Nat),vT=aj g (n+1) cap/\s.ZF[n]?=some p/\w.rangeAt g (n*33) (SN p)/\g∉X.own/\n+1<=cap:=by
 have hl:n<s.ZF.length:=J;rcases h.ZF.2 with⟨_,e⟩|⟨g,cap,cur,e,hB,hh,hc,hm,Yw,aC⟩
 ·omega
 ·refine⟨g,cap,s.ZF[n],by rw[e,hn],aZ hl,λj u hu=> ?_,h.Nj g (by rw[e];rfl),J⟩
  have q:=GD SN 33 Da s.ZF n _ (aZ hl) j u hu;have hj:j<33:=by have:=(aU.1 hu).1;rw[Da]at this;exact this
  rw[<-aC,bh (by rw[hn];omega)]at q;exact Z0 hh _ _ qE
def acE (w0 w:A)(X:SL)(K:SK)(vS:aF)(start:Nat)(R:SS)(k:Nat)(wr:A):Prop:=
 ∃(s:SS) (vT:aF),s.ZF.length<k/\s.ZF.length<=1000000/\ZN w0 wr X K s vT vS/\Zy X w wr/\start<=s.ZF.length/\(∀p∈s.ZF,YX K.vars.length p.1/\p.2<2 ^ 2001)/\Np (s.ZF.length-start) s=R
def jS{P:Prop}(h:P:=by
 refine iB (rs:=[14]) pH pG ?_;refine gB rfl (λK hK=> ?_) gN
 go_simp;refine hK _ _ ?_;clear hK K;refine iF pH ?_ _;go_wp2_with (go_at_call 82;refine KS.get.mono ?_;rintro e w5 ⟨rfl,Si,Te⟩);rw[amb.out]at Si
 go_roundg (n+1)
 case rel=>exact⟨Oo si,_,by rw[Pv.out];omega,by rw[Pv.out];omega,Si,(T1.out.trans E7.out).trans Te,by rw[Pv.out];omega,amc.out,by rw[Pv.out];exact Yn.out⟩
 case measure=>have:=HN.out;omega):P:=h
def om{P:Prop}(h:P:=by
 apply Zr 11 35
 ·exact ji
 (try simp only[Act.put,Z5,Z4,Z2])
 apply Zr 12 36
 ·exact ji
 (try simp only[Act.put,Z5,Z4,Z2])
 apply Zr 13 37
 ·exact ji
 (try simp only[Act.put,Z5,Z4,Z2])
 exact jS):P:=h
theorem acF (h:ZN w0 w X K s vT vS)(b5:K.vars.length<=8){start:Nat}(aV:start<=s.ZF.length)(b8:s.ZF.length<=1000000)(Rw:∀p∈s.ZF,YX K.vars.length p.1/\p.2<2 ^ 2001):aq 139 #[ai X.b,Y (start:Int)] w λe w'=>e=.returned (.tuple #[])/\(∃ar,ZN w0 w' X K (Rz start s) ar vS)/\Zy X w w':=by
 obtain⟨R,hR⟩:∃R,Rz start s=R:=⟨_,rfl⟩;rw[hR];have W6:Hid (acE w0 w X K vS start R (1000000+1) w):=⟨s,vT,J,b8,h,Zy.refl X w,aV,Rw,hR⟩;obtain⟨du,dD,bA⟩:=ama;clear h hR aV b8 Rw;go_enter func139,ntmps139;go_wp2
 go_loopg [] (1000000+1) (λk wr=>acE w0 w X K vS start R k wr)
 case atStart=>exact W6.out
 case round=>
  clear W6;obtain⟨si,bK,I,b8,YG,Yf,RD,Rw,aA⟩:=hrel;have f7:=YG.f7;by_cases ZR:start<si.ZF.length
  ·obtain⟨n,hn⟩:∃n,si.ZF.length=n+1:=⟨si.ZF.length-1,J⟩;obtain⟨g,cap,p,hv,hp,cY,b7,TD⟩:=YG.last hn;obtain⟨bm,dE⟩:=Rw p (cq hp);subst hv;obtain⟨C,hC⟩:∃C,C=SN p:=⟨_,rfl⟩;rw[<-hC]at cY;have b6:C.length=33:=by rw[hC];exact Da p
   have Gr:(prog.info? 250).map (·.size)=some C.length:=by rw[b6];exact acD
   have dF:(prog.info? 250).map (·.size)=some C.toArray.size:=by rw[dW,b6];exact acD
   have cT:C.toArray.all (·.oneCell')=true:=all_oneCell_toArray (by rw[hC];exact acf p);obtain⟨d,hd⟩:=dc p.2;have dv:C=Y p.1::d:=by rw[hC,hd.is];rfl
   have bQ:n<=1000000:=J;have LF:IntKind.i64.wrap (((n+1:Nat):Int)-1)=(n:Int):=by rw[Pq J J];omega
   have hw2:IntKind.i64.wrap ((n:Int)+1-1)=(n:Int):=by rw[Pq J J];omega
   have cV:IntKind.i64.wrap (n:Int)=(n:Int):=Pq J J;have dG:(start:Int)<((n+1:Nat):Int):=J;have dM:(start:Int)<(n:Int)+1:=J;have bz:(0:Int)<=n:=J;have bT:(n:Int)<((n+1:Nat):Int):=J;have bJ:(n:Int)<(n:Int)+1:=J;have cK:(n:Int)<=cap:=J;have HS:Hid (∀W,aB wr W->ak W X.b 7 (aj g (n+1) cap)/\W.rangeAt g (n*33) C):=λW z=>⟨(YG.grown z).f7,λj u hu=>z.cell (cY j u hu) pG⟩
   have dw:si.ZF.getLastD (0,0)=p:=by
    rw[List.getLastD_eq_getLast?,List.getLast?_eq_getElem?,hn];simp only[Nat.add_sub_cancel];rw[hp];rfl
   have Yn:Hid (Np (n-start) (Oo si)=R):=by
    rw[Hid,<-aA,hn,show n+1-start=(n-start)+1 by omega];rfl
   have amb:Hid (Mu p.1 p.2 {si with ZF:=si.ZF.dropLast}=Oo si):=by
    rw[Hid];unfold Oo Mu;rw[dw]
   have amc:Hid (∀q∈(Oo si).ZF,YX K.vars.length q.1/\q.2<2 ^ 2001):=λq hq=>Rw q ((List.dropLast_sublist si.ZF).subset hq)
   have Pv:Hid ((Oo si).ZF.length=n):=by rw[Hid];unfold Oo;simp[hn]
   have cx:Hid (∀anV:Array aF,anV.size=33->((wr.alloc (.cells anV 250)).drew.there wr.heap.size 0 C.toArray.size)/\wr.grownBy ((wr.alloc (.cells anV 250)).drew.setCells wr.heap.size 0 C) none/\((wr.alloc (.cells anV 250)).drew.setCells wr.heap.size 0 C).heap[wr.heap.size]?=some (.cells C.toArray 250 (0,0))):=λanV hZ=>by
    have hb:(wr.alloc (.cells anV 250)).drew.heap[wr.heap.size]?=some (.cells anV 250 (0,0)):=gp wr _;obtain⟨a,a1,a2,a3,a4⟩:=Fh C 0 _ _ hb;refine⟨λj hj=>⟨?_,Zz hb _⟩,Up ((di _ _ _).trans (ZG _ _)) (iw _) (Qm _ _ _ _),?_⟩
    ·have cr:j<anV.size:=by rw[dW,b6]at hj;omega
     rw[ik,Z0 hb j _ (aP cr)];rfl
    ·rw[a1];have:a=C.toArray:=by
      apply dp;intro j;by_cases hj:j<33
      ·have:=a3 j J J;rw[ik]at this;rw[this];simp
      ·rw[bD J,bD (by simp[b6];omega)]
     rw[this]
   have O7:=Z8 YG;have T1:=Z8 Yf;have HN:=Z8 hn;have dN:=Z8 hp;have dO:=Z8 Rw;have cZ:=Z8 dv;clear YG Yf aA hp cY hn Rw hC dv dw;go_wp2;refine wp_region_held_drew (S:=(λW=>W.cell? (O X.b 7)=some (aj g (n+1) cap)/\W.rangeAt g (n*33) C)) pH ?_ (λZV=> ?_)
   ·exact HS.out _ (ZG _ _)
   apply ZL 0 12 ZV
   ·exact iW
   (try simp only[Act.put,Z5,Z4,Z2])
   apply ZL 1 13 ZV
   ·exact iW
   (try simp only[Act.put,Z5,Z4,Z2])
   apply ZL 2 14 ZV
   ·exact iW
   (try simp only[Act.put,Z5,Z4,Z2])
   apply ZL 3 15 ZV
   ·exact iW
   (try simp only[Act.put,Z5,Z4,Z2])
   apply ZL 4 16 ZV
   ·exact iW
   (try simp only[Act.put,Z5,Z4,Z2])
   apply ZL 5 17 ZV
   ·exact iW
   (try simp only[Act.put,Z5,Z4,Z2])
   apply ZL 6 18 ZV
   ·exact iW
   (try simp only[Act.put,Z5,Z4,Z2])
   apply ZL 7 19 ZV
   ·exact iW
   (try simp only[Act.put,Z5,Z4,Z2])
   apply ZL 8 20 ZV
   ·exact iW
   (try simp only[Act.put,Z5,Z4,Z2])
   apply ZL 9 21 ZV
   ·exact iW
   (try simp only[Act.put,Z5,Z4,Z2])
   apply ZL 10 22 ZV
   ·exact iW
   (try simp only[Act.put,Z5,Z4,Z2])
   refine Nd (i:=11) (v:=.agg C.toArray) 23 rfl rfl pH (λ_ _ _ h=>h) (yieldsIf_load_mid p8 _ _ rfl _ _ rfl C _ (λw Td=>Td.2) dD bA Gr) ZV ?_
   (try simp only[Act.put,Z5,Z4,Z2])
   refine wpAnyH_ready (rs:=[12]) pH pG ?_;refine AllReadyH.cons rfl (λK hK=> ?_) AllReadyH.nil
   go_simp;refine hK.out _ _ ?_ (λZV=> ?_)
   ·exact HS.out _ ((di _ _ _).trans (ZG _ _))
   clear hK K
   (try simp only[Act.put,Z5,Z4,Z2])
   refine wpAnyH_ready (rs:=[13]) pH pG ?_;refine AllReadyH.cons rfl (λK hK=> ?_) AllReadyH.nil
   rw[iR p8];refine wp_store_mid 250 _ _ rfl wr.heap.size 0 C.toArray rfl rfl (cx.out _ rfl).1 dF cT ?_;have e3:=(cx.out _ (rfl:(#[Y 0,.int .u64 0,.int .u64 0,.int .u64 0,.int .u64 0,.int .u64 0,.int .u64 0,.int .u64 0,.int .u64 0,.int .u64 0,.int .u64 0,.int .u64 0,.int .u64 0,.int .u64 0,.int .u64 0,.int .u64 0,.int .u64 0,.int .u64 0,.int .u64 0,.int .u64 0,.int .u64 0,.int .u64 0,.int .u64 0,.int .u64 0,.int .u64 0,.int .u64 0,.int .u64 0,.int .u64 0,.int .u64 0,.int .u64 0,.int .u64 0,.int .u64 0,.int .u64 0]:Array aF).size=33)).2;refine hK.out _ _ ?_ (λZV=> ?_)
   ·exact HS.out _ e3.1
   clear hK K
   (try simp only[Act.put,Z5,Z4,Z2])
   obtain⟨g3,b3⟩:=e3;generalize Rf:((wr.alloc (.cells #[Y 0,.int .u64 0,.int .u64 0,.int .u64 0,.int .u64 0,.int .u64 0,.int .u64 0,.int .u64 0,.int .u64 0,.int .u64 0,.int .u64 0,.int .u64 0,.int .u64 0,.int .u64 0,.int .u64 0,.int .u64 0,.int .u64 0,.int .u64 0,.int .u64 0,.int .u64 0,.int .u64 0,.int .u64 0,.int .u64 0,.int .u64 0,.int .u64 0,.int .u64 0,.int .u64 0,.int .u64 0,.int .u64 0,.int .u64 0,.int .u64 0,.int .u64 0,.int .u64 0] 250)).drew.setCells wr.heap.size 0 C)=W3 at *;change wpAnyH _ _ _ _ _ _ _ _ W3;refine wpAnyH_done pH ?_ _;clear ZV Rf;have cO:=O7.out.grown g3;obtain⟨cg,dx⟩:=cO.pop rfl HN.out;have hP:=cg.grown (ZG _ none);have f73:=cO.f7;have dP:=cO.fz 7;have bZ:wr.heap.size∉X.own:=O7.out.QJ (iw _);have aO:wr.heap.size≠X.b:=λe=>bZ qa
   have b4:(W3.setCell (O X.b 7) (aj g n cap)).heap[wr.heap.size]?=some (.cells C.toArray 250 (0,0)):=(dr W3 _ _ _ aO).trans b3;have dQ:=Z0 b3 0 (Y p.1) (by rw[cZ.out];rfl);have dS:=Z0 b4 0 (Y p.1) (by rw[cZ.out];rfl);have dT:=Tf (w:=(W3.setCell (O X.b 7) (aj g n cap)).drew) (b:=wr.heap.size) (o:=1) (c:=d) (λj u hu=>Z0 b4 _ _ (by rw[cZ.out];simp[Nat.add_comm 1 j,hu])) hd.len
   have KS:=ZQ.mk (zT hd hP b5 bm dE);have E7:=Z8 (((Zy.grown g3).trans dx).trans (Zy.grown (ZG _ none)));clear cO cg hP dx g3 b3 b4 O7 HS cx ZV;go_wp2;refine gM pH ?_
   try(change wpAny _ _ _ _ _ _ _ (World.drew _))
   apply Zr 0 24
   ·exact ji
   (try simp only[Act.put,Z5,Z4,Z2])
   apply Zr 1 25
   ·exact ji
   (try simp only[Act.put,Z5,Z4,Z2])
   apply Zr 2 26
   ·exact ji
   (try simp only[Act.put,Z5,Z4,Z2])
   apply Zr 3 27
   ·exact ji
   (try simp only[Act.put,Z5,Z4,Z2])
   apply Zr 5 29
   ·exact ji
   (try simp only[Act.put,Z5,Z4,Z2])
   apply Zr 6 30
   ·exact ji
   (try simp only[Act.put,Z5,Z4,Z2])
   apply Zr 7 31
   ·exact ji
   (try simp only[Act.put,Z5,Z4,Z2])
   refine iB (rs:=[4,8]) pH pG ?_;refine gB rfl (λK hK=> ?_) (gB rfl (λK hK=> ?_) gN)
   all_goals
    go_simp;refine hK _ _ ?_;clear hK K
   ·refine iB (rs:=[8]) pH pG ?_;refine gB rfl (λK hK=> ?_) gN
    go_simp;refine hK _ _ ?_;clear hK K;apply Zr 9 33
    ·exact ji
    (try simp only[Act.put,Z5,Z4,Z2])
    apply Zr 10 34
    ·exact ji
    (try simp only[Act.put,Z5,Z4,Z2])
    exact om
   ·apply Zr 9 33
    ·exact ji
    (try simp only[Act.put,Z5,Z4,Z2])
    apply Zr 10 34
    ·exact ji
    (try simp only[Act.put,Z5,Z4,Z2])
    refine iB (rs:=[4]) pH pG ?_;refine gB rfl (λK hK=> ?_) gN
    go_simp;refine hK _ _ ?_;clear hK K;exact om
  ·have e:R=si:=by rw[<-aA,show si.ZF.length-start=0 by omega];rfl
   subst e;obtain⟨n,hn⟩:∃n,R.ZF.length=n:=⟨_,rfl⟩;obtain⟨va,vc,hv⟩:=Wt YG.ZF;subst hv;have cA:decide ((start:Int)<(R.ZF.length:Int))=false:=by simpa using ZR
   have O7:=Z8 YG;have T1:=Z8 Yf;clear YG Yf aA Rw hn;go_wp2;go_end0;exact⟨rfl,⟨_,O7.out⟩,T1.out⟩
end
section
attribute [local go_sem ↓] Pz Py
variable {w0 w w' aW:A}{X:SL}{K:SK}{s:SS}{vT vS:aF}
def acG (w:A)(left:List Nat)(R:Int×Int)(v3 v4 vi:aF)(wr:A):Prop:=
 ∃(i:Nat) (r:Int×Int),i<=left.length/\vi=Y i/\v3=Y r.1/\v4=Y r.2/\aB w wr/\Q3 i (left.drop i) r=R
theorem amd (D:Nat):VC D<=2048:=Dn D 32
def j9{P:Prop}(h:P:=by
 go_wp2_with (first|(refine MA rfl 161 _ _ rfl d.toArray 161 _ rfl rfl MX (by rw[zy];rfl) zx ?_)|(go_at_call 177;refine(KC.get _).mono ?_;rintro e w2 ⟨rfl,ZU⟩))
 go_roundw
 case rel=>exact⟨i+1,_,Gm.out,pQ,rfl,rfl,Zm.out.trans ZU,Xk.out⟩
 case measure=>simp[intOf];omega):P:=h
theorem ame (h:ZN w0 w X K s vT vS)(hK:YV K):aq 134 #[ai X.b] w (au w (Y (Q3 0 s.left (-1,0)).1)):=by
 obtain⟨R,hR⟩:∃R,Q3 0 s.left (-1,0)=R:=⟨_,rfl⟩;rw[hR];have f4:=h.f4;have a7:=h.ll;have W6:Hid (acG w s.left R (Y (-1)) (Y 0) (Y 0) w):=⟨0,(-1,0),iz _,rfl,rfl,rfl,WW _ _,hR⟩;have cP:=Z8 a7;have HH:=Z8 h;have b5:=hK.WB;clear h hR hK a7;go_enter func134,ntmps134;go_wp2
 go_loopw [3,4,13] (λv3 v4 vi wr=>acG w s.left R v3 v4 vi wr) (λ_ _ vi _=>K.vars.length-(intOf vi).toNat)
 case atStart=>exact W6.out
 case round=>
  clear W6;obtain⟨i,r,hi,rfl,rfl,rfl,ZX,aA⟩:=hrel;rw[cP.out]at hi;by_cases ZR:i<K.vars.length
  ·have hA:=HH.out.grown ZX;have aL:YX K.vars.length (i:Int):=⟨J,J⟩;obtain⟨d,hd⟩:=dc (s.L (i:Int));have a8:=hd.len;have MX:=hd.Oi;have zx:=hd.Mr;have zy:d.toArray.size=32:=by rw[dW];exact a8
   have cJ:=Tf (w:=wr) (b:=X.gl) (o:=i*32) (c:=d) (by rw[hd.is];have q:=(hA.OQ aL).1;rw[dJ]at q;exact q) a8;have cS:=WC.new wr a8;have cB:=Tf cS.range a8;have g1:=di wr (.cells d.toArray 161) none;have f6:=(hA.grown g1).f6;have kf:=((hA.grown g1).K0 aL).2.1;rw[dJ]at kf;have bA:s.left.drop i=s.L (i:Int)::s.left.drop (i+1):=by
    have SZ:i<s.left.length:=by rw[cP.out];exact ZR
    rw[aR SZ];congr 1;unfold SS.L;rw[dJ,aN,aZ SZ];rfl
   have KC:=ZQ.mk (λW=>ali hd W)
   have WS:=amd (s.L (i:Int));have Xy:(0:Int)<=i:=J;have X8:(i:Int)<K.vars.length:=J;rw[bA,Q3]at aA;have Zm:=Z8 (ZX.trans g1);have Yn:=Z8 aA;have WG:s.fixed (i:Int)=Yd (s.L (i:Int)):=rfl;rw[WG]at kf;clear WG ZX aA bA hA hd cS g1;generalize s.L (i:Int)=D at *;have Gm:Hid (i+1<=s.left.length):=by rw[Hid,cP.out];omega
   by_cases c1:Yd D=true
   ·rw[c1]at kf;have Xk:Hid (Q3 (i+1) (s.left.drop (i+1)) r=R):=by rw[Hid,<-Yn.out,iR c1]
    clear c1;go_wp2_with (refine MA rfl 161 _ _ rfl d.toArray 161 _ rfl rfl MX (by rw[zy];rfl) zx ?_);go_roundw
    case rel=>exact⟨i+1,r,Gm.out,pQ,rfl,rfl,Zm.out,Xk.out⟩
    case measure=>simp[intOf];omega
   ·have aY:Yd D=false:=ry;rw[aY]at kf;generalize c5:(VC D:Int)=Cn at *;by_cases c2:r.1<0
    ·have Xk:Hid (Q3 (i+1) (s.left.drop (i+1)) ((i:Int),Cn)=R):=by rw[Hid,<-Yn.out,iQ c1,iR (.inl c2)]
     clear c1 aY c5;exact j9
    ·have bn:decide (r.1<0)=false:=th;by_cases c3:Cn<r.2
     ·have Xk:Hid (Q3 (i+1) (s.left.drop (i+1)) ((i:Int),Cn)=R):=by rw[Hid,<-Yn.out,iQ c1,iR (.inr c3)]
      clear c1 aY c5 c2;exact j9
     ·have cF:decide (Cn<r.2)=false:=by simpa using c3
      have Xk:Hid (Q3 (i+1) (s.left.drop (i+1)) r=R):=by
       rw[Hid,<-Yn.out,iQ c1,iQ (by simp only[not_or];exact⟨c2,c3⟩)]
      clear c1 aY c5 c2 c3;go_wp2_with (first|(refine MA rfl 161 _ _ rfl d.toArray 161 _ rfl rfl MX (by rw[zy];rfl) zx ?_)|(go_at_call 177;refine(KC.get _).mono ?_;rintro e w2 ⟨rfl,ZU⟩))
      go_roundw
      case rel=>exact⟨i+1,r,Gm.out,pQ,rfl,rfl,Zm.out.trans ZU,Xk.out⟩
      case measure=>simp[intOf];omega
  ·obtain rfl:i=K.vars.length:=J;rw[bF (by rw[cP.out];exact iw _)]at aA;have e:r=R:=aA;subst e;go_wp2;go_ret;exact⟨rfl,ZX⟩
theorem amf (left:List Nat):Qj false (left.map Yd)=match left.findIdx? (λD=> !Yd D)with|some i=>(i:Int)|none=>-1:=by
 unfold Qj;rw[List.findIdx?_map];have:((λx:Bool=>x==false) ∘ Yd)=(λD=> !Yd D):=by funext D;simp[Function.comp]
 rw[this]
 all_goals (cases left.findIdx? (λD=> !Yd D)<;>rfl)
theorem amg (h:ZN w0 w X K s vT vS)(hK:YV K):aq 87 #[ai X.b] w (au w (Y (R7 K s))):=by
 have f1:=h.f1;by_cases c:K.order=1
 ·have HR:Hid (R7 K s=(Q3 0 s.left (-1,0)).1):=by rw[Hid];unfold R7;rw[iR c]
  have KN:=ZQ.mk (ame h hK);rw[c]at f1;clear h hK c;go_enter func87,ntmps87;go_wp2_with (go_at_call 134;refine KN.get.mono ?_;rintro e w2 ⟨rfl,ZU⟩);go_ret;rw[HR.out];exact⟨rfl,ZU⟩
 ·have c':(K.order==1)=false:=qT;have HR:Hid (R7 K s=Qj false (s.left.map Yd)):=by rw[Hid,amf];unfold R7;rw[iQ c];cases s.left.findIdx? (λD=> !Yd D)<;>rfl
  have f6:=h.f6;have hq:w.heap[X.gf]?=some (.cells ((s.left.map Yd).map Value.bool).toArray 4 (0,0)):=by rw[gQ];exact h.Rv
  have KN:=ZQ.mk (zA (cap:=K.vars.length) hq false (by rw[fy,h.ll];have:=hK.WB;omega));rw[fy,h.ll]at KN;clear h hK c hq;go_enter func87,ntmps87;go_wp2_with (go_at_call 85;refine KN.get.mono ?_;rintro e w' ⟨rfl,Zf⟩;subst w');go_ret;rw[HR.out];exact⟨rfl,WW _ _⟩
end
theorem acH:(prog.info? 33).map (λi=>(i.zero,i.size,i.bytes))=some (some (af),1,24):=pH
theorem amh {rows:ay}{v':aF}(hd:Ho rows)(cm:∀g,v'.ownBlock=some g->∀(i:Nat) (u:aF),rows[i]?=some u->u.ownBlock≠some g):Ho (rows++[v']):=by
 have at_:∀{i:Nat} {v:aF},(rows++[v'])[i]?=some v->(rows[i]?=some v)\/(i=rows.length/\v=v'):=λ{i v} h=>by
  rw[bY]at h;split at h
  ·exact .inl h
  ·have:=(aU.1 h).1;have e:i-rows.length=0:=by simp at this;omega
   rw[e]at h;exact .inr ⟨J,by simpa using h.symm⟩
 intro i j v u g F h2 h3 h4;rcases at_ F with q1|⟨q1,rfl⟩<;>rcases at_ h2 with q2|⟨q2,rfl⟩
 ·exact hd i j v u g q1 q2 h3 h4
 ·exact absurd h3 (cm g h4 i v q1)
 ·exact absurd h4 (cm g h3 j u q2)
 ·omega
theorem ZN.told (h:ZN w0 w X K s vT vS){rows:ay}(aM:w.ownsRow w0.heap.size 33 1 vS s.Zx.length rows)(WI:∀i v,rows[i]?=some v->Jv w0 X w v (s.Zx.getD i []))(hd:Ho rows){wA:A}{g cap:Nat}{v':aF}(T5:Jv w0 X w v' s.Z7)(cm:∀g,v'.ownBlock=some g->∀(i:Nat) (u:aF),rows[i]?=some u->u.ownBlock≠some g)(z:w.grownBy wA vS.ownBlock)(YG:vS.ownBlock=some g\/g=w.heap.size)(ZO:wA.ownsRow w0.heap.size 33 1 (aj g (s.Zx.length+1) cap) (s.Zx.length+1) (rows++[v'])):ZN w0 (wA.setCell (O X.b 11) (aj g (s.Zx.length+1) cap)) X K {s with Zx:=s.Zx++[s.Z7]} vT (aj g (s.Zx.length+1) cap)/\Zy X w (wA.setCell (O X.b 11) (aj g (s.Zx.length+1) cap)):=by
 obtain⟨n1,n2,n3,n4,n5,n6,n7,n8,n9,n10⟩:=Nf h;have QI:g∉X.own/\g≠X.gc/\g≠X.gu:=by
  rcases YG with e|e
  ·exact h.OW g e
  ·subst e;exact⟨h.QJ (iw _),λe=>by have:=YY h.Ru;omega,λe=>by have:=YY h.Q1;omega⟩
 have gb:=ZC wA X.b 11 (aj g (s.Zx.length+1) cap);have app:∀{k:Nat} {o:Obj},w.heap[k]?=some o->vS.ownBlock≠some k->wA.heap[k]?=some o:=λ{k o} I ZP=>(z.block k (YY I) (λe=>ZP e.symm)).trans I
 have Sw:∀{k:Nat} {c:Array aF} {t:TypeId} {f:Nat×Nat},w.heap[k]?=some (.cells c t f)->t≠33->wA.heap[k]?=some (.cells c t f):=λ{k c t f} I ht=>by
  refine app I (λe=>ht ?_)
  rcases aM.2 with⟨q,_⟩|⟨g',UH,cur,q1,q2,q3,_⟩
  ·rw[q]at e;cases e
  ·rw[q1]at e;have:g'=k:=rU;exact mP
 have last:∀{k:Nat} {o:Obj},wA.heap[k]?=some o->k≠X.b->(wA.setCell (O X.b 11) (aj g (s.Zx.length+1) cap)).heap[k]?=some o:=λ{k o} I ZP=>
  (gb.block k (YY I) (λe=>ZP qI)).trans I
 have ki:∀k cells,w.heap[k]?=some (.cells cells 3 (0,0))->k∉X.own->(wA.setCell (O X.b 11) (aj g (s.Zx.length+1) cap)).heap[k]?=some (.cells cells 3 (0,0)):=λk c I hn=>
  last (Sw I pF) (λe=>hn qa)
 refine⟨⟨?_,h.low,h.nd,YE (Sw h.U8 pF) 11 _ rfl,?_,last (Sw h.Z7 pF) n2.symm,last (Sw h.Rv pF) n3.symm,last (Sw h.mark pF) n4.symm,?_,h.Nj,?_,?_,last (app h.Ru (λe=>(h.OW _ e).2.1 rfl)) (λe=>h.cap.1 qa),h.PC,λi v q=>(h.Ni i v q).kept ki,last (app h.Q1 (λe=>(h.OW _ e).2.2 rfl)) (λe=>h.cap.2 qa),h.Nh,λi v q=>(h.usr i v q).kept ki,h.cap,h.PY,h.Ng,h.Ms⟩,?_⟩
 ·refine Ri (k:=X.b) ?_ (h.low _ Rn) gb;refine⟨z.os.trans h.g0.os,z.tape.trans h.g0.tape,z.output.trans h.g0.output,gZ h.g0.size z.size,λk I _=> ?_⟩
  refine(z.block k (dH I h.g0.size) (λe=> ?_)).trans (h.g0.block k I pG)
  have:=(aM.lt k e.symm).1;omega
 ·exact lQ
 ·refine(h.ZF.kept z (ack h.ZF aM pF)).kept gb ?_
  cases hv:vT.ownBlock with
  |none=>exact .inl rfl
  |some k=>exact .inr (λe=>h.Nj k hv qG)
 ·refine⟨rows++[v'],?_,λi v q=> ?_,amh hd cm,λe=>vx⟩
  ·show World.ownsRow _ _ _ _ _ (s.Zx++[s.Z7]).length _;rw[dA,bP];exact ZO.kept gb (.inr (λe=>QI.1 rP))
  ·have RI:rows.length=s.Zx.length:=by have:=aM.1;omega
   rw[bY]at q;split at q
   ·rename_i hi;have XB:i<s.Zx.length:=J;have e:(s.Zx++[s.Z7]).getD i []=s.Zx.getD i []:=by
     rw[aN,aN,aT XB]
    rw[e];exact(WI i v q).kept ki
   ·rename_i hi;have XB:i=s.Zx.length:=by
     have:=(aU.1 q).1;simp at this;omega
    have e:(s.Zx++[s.Z7]).getD i []=s.Z7:=by
     rw[aN,XB];simp
    rw[e];have:v=v':=by
     rw[RI,XB,ij]at q;simpa using q.symm
    rw[this];exact T5.kept ki
 ·exact lU
 ·refine⟨gZ z.size gb.size,λk o q1 q2 _ q4=> ?_⟩
  refine last (app q1 (λe=> ?_)) (λe=>q2 qa)
  rcases aM.2 with⟨q,_⟩|⟨g',UH,cur,t1,t2,t3,_⟩
  ·rw[q]at e;cases e
  ·rw[t1]at e;have:g'=k:=rU;subst this;rw[q1]at t3;exact q4 _ _ (by injection t3)
theorem ZN.fin (h:ZN w0 w X K s vT vS)(e:Int):ZN w0 (w.setCell (O X.b 12) (Y e)) X K {s with ending:=e} vT vS/\Zy X w (w.setCell (O X.b 12) (Y e)):=by
 obtain⟨n1,n2,n3,n4,n5,n6,n7,n8,n9,n10⟩:=Nf h;have gs:=ZC w X.b 12 (Y e);have keep:∀{k:Nat} {o:Obj},w.heap[k]?=some o->k≠X.b->(w.setCell (O X.b 12) (Y e)).heap[k]?=some o:=λ{k o} I ZP=>(gs.block k (YY I) (λe=>ZP qI)).trans I
 exact⟨h.UZ (h.Fi gs Rn) (λk o I hn=>keep I (λe=>hn qa)) (YE h.U8 12 _ rfl) (h.left.kept λo ho=>keep ho n1.symm) (keep h.Z7 n2.symm) (keep h.Rv n3.symm) (keep h.mark n4.symm) rfl rfl,Zy.UZ gs Rn⟩
theorem ZN.node (h:ZN w0 w X K s vT vS)(e:Int):ZN w0 (w.setCell (O X.b 13) (Y e)) X K {s with nodes:=e} vT vS/\Zy X w (w.setCell (O X.b 13) (Y e)):=by
 obtain⟨n1,n2,n3,n4,n5,n6,n7,n8,n9,n10⟩:=Nf h;have gs:=ZC w X.b 13 (Y e);have keep:∀{k:Nat} {o:Obj},w.heap[k]?=some o->k≠X.b->(w.setCell (O X.b 13) (Y e)).heap[k]?=some o:=λ{k o} I ZP=>(gs.block k (YY I) (λe=>ZP qI)).trans I
 exact⟨h.UZ (h.Fi gs Rn) (λk o I hn=>keep I (λe=>hn qa)) (YE h.U8 13 _ rfl) (h.left.kept λo ho=>keep ho n1.symm) (keep h.Z7 n2.symm) (keep h.Rv n3.symm) (keep h.mark n4.symm) rfl rfl,Zy.UZ gs Rn⟩
theorem ami (h:ZN w0 w X K s vT vS)(hc:s.Zx.length=100000):aq 88 #[ai X.b] w λe w'=>e=.returned (.bool false)/\ZN w0 w' X K {s with ending:=2} vT vS/\Zy X w w':=by
 obtain⟨rows,aM,WI,cQ⟩:=h.Zx;obtain⟨va,vc,hv⟩:=Wt aM;subst hv;have f11:=h.f11;rw[hc]at f11;have f12:=h.f12;have z12:=h.fz 12;have HF:=Z8 (h.fin 2);clear h aM WI cQ hc;go_enter func88,ntmps88;go_wp2;go_ret;exact⟨rfl,HF.out.1,HF.out.2⟩
theorem amj (h:ZN w0 w X K s vT vS)(hK:YV K)(hc:s.Zx.length≠100000)(hle:s.Zx.length<=100000):aq 88 #[ai X.b] w λe w'=>e=.returned (.bool true)/\(∃aK,ZN w0 w' X K {s with Zx:=s.Zx++[s.Z7]} vT aK)/\Zy X w w':=by
 obtain⟨rows,aM,WI,cQ⟩:=h.Zx;obtain⟨va,vc,hv⟩:=Wt aM;obtain⟨L,hL⟩:∃L,L=s.Zx.length:=⟨_,rfl⟩;have Yv:s.Z7.length=K.vars.length:=by rw[<-h.ll];simp[SS.Z7]
 have f11:=h.f11;rw[hv,<-hL]at f11;have f5:=h.f5;have dG:((L:Int)==100000)=false:=pI;have b5:=hK.WB;have KC:=ZQ.mk (Tryz.slices_Clone_int X.gv 0 K.vars.length K.vars.length s.Z7 w.drew J J (λj hj=>by
  rw[ik];refine Z0 h.Z7 j _ ?_;have cr:j<s.left.length:=by rw[h.ll,<-Yv];exact hj
  have e:s.Z7.getD j 0=WE (s.left[j]):=by unfold SS.Z7;rw[aN,dR,aZ cr];rfl
  rw[e];simp[cr]))
 obtain⟨i0,Y8⟩:∃i,prog.info? 33=some i:=bj.1 pH;have hz:=acH;rw[Y8]at hz;simp only[fN,dY,gK]at hz;obtain⟨Ze,Zq,Zn⟩:=hz;have HW:Hid (∀(w1:A) (a:ax) (c:Nat),w1.ownsRow w.drew.heap.size 3 1 (.slice a K.vars.length c) K.vars.length ((s.Z7.take K.vars.length).map (Value.int .i64))->(Value.slice a K.vars.length c)≠af->Below w.drew.heap.size w.drew w1->
   ak w1 X.b 11 (.slice va L vc)/\(w1.alloc (.cells #[.slice a K.vars.length c] 33)).cell? (O X.b 11)=some (.slice va L vc)/\(w1.alloc (.cells #[.slice a K.vars.length c] 33)).ownsRow w0.heap.size 33 1 (.slice va L vc) L rows/\w0.heap.size<=w1.heap.size/\
   ∀wA:A,(w1.alloc (.cells #[.slice a K.vars.length c] 33)).grownBy wA (Value.slice va L vc).ownBlock->ak wA X.b 11 (.slice va L vc)/\wA.frozen? (O X.b 11)=false/\
    ∀g cap,wA.ownsRow w0.heap.size 33 1 (aj g (L+1) cap) (L+1) (rows++[.slice a K.vars.length c])->((Value.slice va L vc).ownBlock=some g\/g=(w1.alloc (.cells #[.slice a K.vars.length c] 33)).heap.size)->
     ZN w0 (wA.setCell (O X.b 11) (aj g (L+1) cap)) X K {s with Zx:=s.Zx++[s.Z7]} vT (aj g (L+1) cap)/\Zy X w (wA.setCell (O X.b 11) (aj g (L+1) cap))):=λw1 a c ho ZP hb=>by
  have g1:aB w w1:=(ZG w none).trans (Fq hb);have g2:=g1.trans (di w1 (.cells #[.slice a K.vars.length c] 33) none);have T2:=h.grown g2;have bg:vS=.slice va L vc:=by rw[hL];exact hv
  have Yl:(w1.alloc (.cells #[.slice a K.vars.length c] 33)).ownsRow w0.heap.size 33 1 (.slice va L vc) L rows:=by rw[<-bg,hL];exact aM.kept g2 (XY _)
  refine⟨g1.cell f11 pG,g2.cell f11 pG,Yl,gZ h.g0.size g1.size,λwA z=> ?_⟩
  have bM:some X.b≠(Value.slice va L vc).ownBlock:=λe=>(h.OW X.b (by rw[bg];exact e.symm)).1 Rn
  refine⟨z.cell (g2.cell f11 pG) bM,(z.frozen_far (O X.b 11) T2.lt.1 bM).trans (T2.fz 11),λg cap ZO YG=> ?_⟩
  have Yu:∀g,(Value.slice a K.vars.length c).ownBlock=some g->w.heap.size<=g:=λg e=>(ho.lt g e).1
  have dI:Jv w0 X (w1.alloc (.cells #[.slice a K.vars.length c] 33)) (.slice a K.vars.length c) s.Z7:=by
   refine⟨?_,λg e=>h.QJ (Yu g e),ZP⟩
   rw[<-Yv,bH (iw _)]at ho;rw[<-Yv];refine⟨ho.1,?_⟩;rcases ho.2 with q|⟨g,cap,cur,q1,q2,q3,q4⟩
   ·exact .inl q
   ·exact .inr ⟨g,cap,cur,q1,gZ h.g0.size q2,(gq _ _ (YY q3)).trans q3,q4⟩
  have cm:∀g,(Value.slice a K.vars.length c).ownBlock=some g->∀(i:Nat) (u:aF),rows[i]?=some u->u.ownBlock≠some g:=λg e i u hu e2=>by
   have:=((WI i u hu).1.lt g e2).2;have:=Yu g e;omega
  subst hL;have q:=T2.told (by rw[bg];exact Yl) (λi v q=>(WI i v q).kept (λk cells I _=>(g2.block k (YY I) pG).trans I)) cQ.1 dI cm (by rw[bg];exact z) (by rw[bg];exact YG) ZO
  exact⟨q.1,(Zy.grown g2).trans q.2⟩
 have dU:L<=100000:=J;clear h aM WI cQ hc hle hL hv Yv hK;go_enter func88,ntmps88;go_wp2;go_region_law (first|(refine step_append_lies _ p8 _ _ 30 p8 w0.heap.size 33 i0 (af) 1 24 underlying30 Y8 Ze Zq Zn rfl pF (.slice va L vc) L rows p8 y3 (ah w1.heap.size) 1 1 [.slice ca K.vars.length cc] p8 rfl (World.news_of_block (cs:=#[.slice ca K.vars.length cc]) (t:=33) (fr:=(0,0)) (gp w1 _)) qs pF pK J pI _ rfl ?_;intro gA XC wA YT Zo XL Xq;obtain⟨q1,q2,q3⟩:=y5 wA Zo;obtain⟨x1,x2⟩:=q3 gA XC YT XL)|(go_simp;go_at_call 135;refine KC.get.mono ?_;rintro e w1 ⟨v',rfl,WT,Kh,bb⟩;obtain⟨ca,cc,rfl⟩:=Wt WT;obtain⟨y1,y2,y3,y4,y5⟩:=HW.out w1 ca cc WT Kh bb))
 all_goals
  have HX:=Z8 x1;have cI:=Z8 x2;clear KC HW y1 y2 y3 y4 y5 WT Kh bb YT Zo XL Xq q1 q2 q3 x1 x2;go_wp2;go_ret;exact⟨rfl,⟨_,HX.out⟩,cI.out⟩
theorem amk (h:ZN w0 w X K s vT vS)(hK:YV K)(hle:s.Zx.length<=100000):aq 88 #[ai X.b] w λe w'=>e=.returned (.bool (K6 s).1)/\(∃aK,ZN w0 w' X K (K6 s).2 vT aK)/\Zy X w w':=by
 unfold K6;by_cases c:s.Zx.length=100000
 ·rw[iR c];refine(ami h c).mono ?_;exact mh
 ·rw[iQ c];exact amj h hK c hle
theorem acI (hK:YV K):∀(n:Nat) {s:SS},Y5 K s->TB s->Y5 K (Ry K n s).2/\TB (Ry K n s).2
 |0,s,hs,hT=>⟨hs,hT⟩
 |n+1,s,hs,hT=>by
  rw[Ry]
  cases e:Qp s.marked with
  |none=>exact⟨hs,hT⟩
  |some i=>
   simp only[];have hu:=(Jy i s).ok hs;have bf:K.cons[i]?=some (K.cons[i]'ug):=aZ _;have F:=(JA hK hu bf).1.ok hu;have h2:TB (Yq K i (T3 i s)).2:=acB hK hu hT bf;split
   ·exact acI hK n F h2
   ·exact⟨(abZ _).ok F,h2⟩
theorem zv (hK:YV K)(hs:Y5 K s)(hT:TB s):Y5 K (Zp K s).2/\TB (Zp K s).2:=acI hK _ hs hT
def Na (w0 w:A)(X:SL)(K:SK)(r:Bool×SS)(e:Ending)(w':A):Prop:=
 e=.returned (.bool r.1)/\(∃ar aK,ZN w0 w' X K r.2 ar aK)/\Zy X w w'
def mF{P:Prop}(h:P:=by
 exact⟨q1.grown (XN _ _ _),q2.trans (Zy.grown (XN _ _ _))⟩):P:=h
theorem aml (h:ZN w0 w X K s vT vS)(hK:YV K)(hN:U9 K s)(hT:TB s)(hle:s.Zx.length<=100000)(bz:0<=s.nodes)(bR:K.XS<=9223372036854775807){n:Nat}(cR:∀{W:A} {a6:aF} {t:SS} {v:Int},ZN w0 W X K t a6 vS->U9 K t->TB t->t.Zx=s.Zx->t.left=s.left->t.nodes=s.nodes+1->R7 K t=v->0<=v->aq 89 #[ai X.b,Y v] W (Na w0 W X K (Xa K (Yy K n) v (WQ (t.L v)) t))):aq 51 #[ai X.b] w (Na w0 w X K (Yy K (n+1) s)):=by
 have f13:=h.f13;have f3:=h.f3;have z12:=h.fz 12;have f12:=h.f12;have bN:=h.fz 13;have hb:=h.lt.1;by_cases c:K.XS<=s.nodes
 ·have HR:Hid (Yy K (n+1) s=(false,{s with ending:=1})):=by rw[Hid,Yy,iR c]
  have HF:Hid (∀m,ZN w0 ((w.setCell (O X.b 12) (Y 1)).drewN m) X K {s with ending:=1} vT vS/\Zy X w ((w.setCell (O X.b 12) (Y 1)).drewN m)):=λm=>by
   obtain⟨q1,q2⟩:=h.fin 1;exact mF
  clear h hK hN hT cR;go_enter func51,ntmps51;go_wp2;go_quiet (fail);go_wp2;go_ret;unfold Na;rw[HR.out];exact⟨rfl,⟨_,_,(HF.out _).1⟩,(HF.out _).2⟩
 ·have c':decide (K.XS<=s.nodes)=false:=qT;obtain⟨t,ht,tl,tt,tm,tn,ts,te⟩:∃t:SS,({s with nodes:=s.nodes+1}:SS)=t/\t.left=s.left/\t.ZF=s.ZF/\t.marked=s.marked/\t.nodes=s.nodes+1/\t.Zx=s.Zx/\t.ending=s.ending:=⟨_,rfl,rfl,rfl,rfl,rfl,rfl,rfl⟩;have cu:U9 K t:=hN.same tl tm;have df:TB t:=by unfold TB at hT⊢;rw[tl,tt];exact hT
  have LF:IntKind.i64.wrap (s.nodes+1)=s.nodes+1:=Pq J J;have HA:Hid (∀m,ZN w0 ((w.setCell (O X.b 13) (Y (s.nodes+1))).drewN m) X K t vT vS/\Zy X w ((w.setCell (O X.b 13) (Y (s.nodes+1))).drewN m)):=λm=>by
   obtain⟨q1,q2⟩:=h.node (s.nodes+1);rw[ht]at q1;exact mF
  have KN:=ZQ.mk (λ{W:A} (q:ZN w0 W X K t vT vS)=>amg q hK)
  have Yn:Hid (Yy K (n+1) s=(if R7 K t<0 then K6 t else Xa K (Yy K n) (R7 K t) (WQ (t.L (R7 K t))) t)):=by
   rw[Hid,Yy,iQ c];simp only[];rw[ht]
  obtain⟨v,hv⟩:∃v,R7 K t=v:=⟨_,rfl⟩;rw[hv]at KN Yn;by_cases cv:v<0
  ·have Xk:Hid (Yy K (n+1) s=K6 t):=by rw[Hid,Yn.out,iR cv]
   have KT:=ZQ.mk (λ{W:A} (q:ZN w0 W X K t vT vS)=>amk q hK (by rw[ts];exact hle))
   clear h hK hN hT cR ht cu df Yn hv c;go_enter func51,ntmps51;go_wp2;go_quiet (fail);go_wp2_with (first|(go_at_call 88;refine(KT.get ((HA.out _).1.grown ZU)).mono ?_;rintro e w3 ⟨rfl,Yh,TH⟩)|(go_at_call 87;refine(KN.get (HA.out _).1).mono ?_;rintro e w2 ⟨rfl,ZU⟩))
   go_ret;unfold Na;rw[Xk.out];obtain⟨dy,Yh⟩:=Yh;exact⟨rfl,⟨_,_,Yh⟩,((HA.out _).2.trans (Zy.grown ZU)).trans TH⟩
  ·have Xk:Hid (Yy K (n+1) s=Xa K (Yy K n) v (WQ (t.L v)) t):=by rw[Hid,Yn.out,iQ cv]
   have dm:decide (v<0)=false:=by simpa using cv
   have KT:=ZQ.mk (λ{W:A} (q:ZN w0 W X K t vT vS)=>cR q cu df ts tl tn hv J)
   clear h hK hN hT cR ht cu df Yn hv c cv;go_enter func51,ntmps51;go_wp2;go_quiet (fail);go_wp2_with (first|(go_at_call 89;refine(KT.get ((HA.out _).1.grown ZU)).mono ?_;rintro e w3 ⟨rfl,Yh,TH⟩)|(go_at_call 87;refine(KN.get (HA.out _).1).mono ?_;rintro e w2 ⟨rfl,ZU⟩))
   go_ret;unfold Na;rw[Xk.out];exact⟨rfl,Yh,((HA.out _).2.trans (Zy.grown ZU)).trans TH⟩
end Go.Proofs.YthpcbbnabnlanaaGreatDoor
