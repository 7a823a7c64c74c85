import Derived.Test.YthpcbbnabnlanaaGreatDoorM34
import Derived.Great.BuildSlice
import Derived.Deep.AppendLies
import Derived.Deep.RegionLaw
namespace Go.Proofs.YthpcbbnabnlanaaGreatDoor
set_option maxHeartbeats 8000000
set_option maxRecDepth 100000
open Go.Proofs.Tryz
open Go.RowKit
set_option linter.all false
section
attribute [local go_sem ↓] Pz Py
variable {w0 w w' aW:A}{X:SL}{K:SK}{s:SS}{vT vS:aF}
theorem alq:∀(vs:ay) (o:Nat) (a:Array aF) (k:Nat),o+k+vs.length<=a.size->((vs.toArray.zipIdx k).foldl (λcs (p:aF×Nat)=>cs.setIfInBounds (o+p.2) p.1) a).toList=a.toList.take (o+k)++vs++a.toList.drop (o+k+vs.length):=by
 intro vs
 induction vs with
 |nil=>
  intro o a k _;have e:((#[]:Array aF).zipIdx k)=#[]:=rfl;simp[e]
 |cons v vs ih=>
  intro o a k h;simp only[eM]at h;have e:((v::vs).toArray.zipIdx k).toList=(v,k)::(vs.toArray.zipIdx (k+1)).toList:=pG;rw[<-Array.foldl_toList,e,ft,Array.foldl_toList,ih o (a.setIfInBounds (o+k) v) (k+1) pI];rw[Array.toList_setIfInBounds];have hlen:o+k<a.toList.length:=pI;rw[show o+(k+1)=o+k+1 by omega,dX,bG hlen,df (iw _)];rw[List.drop_set_of_lt J];simp only[eM,Option.toList_some,dN,eG,fF];rw[show o+k+1+vs.length=o+k+(vs.length+1) by omega]
theorem acj (vs:ay)(o:Nat)(a:Array aF)(h:o+vs.length<=a.size):((vs.toArray.zipIdx).foldl (λcs (p:aF×Nat)=>cs.setIfInBounds (o+p.2) p.1) a).toList=a.toList.take o++vs++a.toList.drop (o+vs.length):=by
 have:=alq vs o a 0 pX;simpa using this
theorem alr {v:Int}{c:ay}(hc:c.length=32):prog.built 250 [(0,Y v),(1,.agg c.toArray)]=some (Y v::c).toArray:=by
 obtain⟨anV,hZ,hs⟩:∃anV:Array aF,(∀parts,prog.built 250 parts=Instr.fill (λi=>#[(0,1),(1,32)][i]?) anV parts)/\anV.size=33:=⟨(Y 0::List.replicate 32 (Value.int .u64 0)).toArray,λparts=>pH,pG⟩
 rw[hZ];have bL:c.toArray.size=32:=by rw[dW];exact hc
 have e1:(Value.agg c.toArray).cells=c.toArray:=rfl;have e0:(Y v).cells=#[Y v]:=rfl;have q1:=acj c 1 (anV.setIfInBounds 0 (Y v)) (by simp[hc,hs]);have q2:((c.toArray.zipIdx).foldl (λcs (p:aF×Nat)=>cs.setIfInBounds (1+p.2) p.1) (anV.setIfInBounds 0 (Y v)))=(Y v::c).toArray:=by
  apply ez.1;rw[q1,Array.toList_setIfInBounds];have hz:anV.toList.length=33:=by simpa using hs
  obtain⟨anZ,zs,aN⟩:∃anZ zs,anV.toList=anZ::zs:=by
   cases e:anV.toList with
   |nil=>rw[e]at hz;cases hz
   |cons anZ zs=>exact⟨anZ,zs,rfl⟩
  rw[aN]at hz⊢;have hl:zs.length=32:=tj;simp[hc,hl]
 have q3:(#[Y v].zipIdx).foldl (λcs (p:aF×Nat)=>cs.setIfInBounds (0+p.2) p.1) anV=anV.setIfInBounds 0 (Y v):=pG
 unfold Instr.fill;simp only[e0,bO,List.getElem?_cons_zero];rw[iQ (by simp[hs]),q3];unfold Instr.fill;simp only[e1,List.getElem?_cons_succ,List.getElem?_cons_zero];rw[iQ (by simp[hs,hc]),q2];rfl
theorem als {C:ay}(hC:C.length=33)(w:A):Sem.run prog (Instr.buildSlice 104 1 #[(0,.agg C.toArray)]) w=.ok (aj w.heap.size 1 1) (w.alloc (.cells C.toArray 250)):=by
 obtain⟨ie,aT⟩:∃i,prog.info? 250=some i:=bj.1 pH;have Yw:(prog.info? 250).map (·.size)=some 33:=pH;have bf:((prog.info? 250).bind (·.zero)).isSome=true:=pH;rw[aT]at Yw bf;simp only[fN,dY,eX]at Yw bf;obtain⟨anZ,hz⟩:=bj.1 bf;have hu:prog.underlying 104=some (.slice 250):=pH;refine run_buildSlice w _ _ 1 _ C.toArray ie anZ hu aT hz (by rw[Yw];omega) (by rw[Yw];omega) ?_;rw[Yw];have e1:(Value.agg C.toArray).cells=C.toArray:=rfl;generalize hA:(Array.range (1*33)).map (anZ.cells[·%anZ.cells.size]!)=anY;have aG:anY.size=33:=by rw[<-hA];simp
 have q1:=acj C 0 anY (by simp[hC,aG]);have q2:((C.toArray.zipIdx).foldl (λcs (p:aF×Nat)=>cs.setIfInBounds (0+p.2) p.1) anY)=C.toArray:=by
  apply ez.1;rw[q1];have hl:anY.toList.length=33:=by simpa using aG
  simp[hC,aG]
 show Instr.fill _ anY [(0,.agg C.toArray)]=_;unfold Instr.fill;simp only[e1];rw[iQ (by simp[aG,hC]),Nat.zero_mul,q2];rfl
def zM (parts:Array (Nat×aF)):Sem aF:=Instr.build 250 parts
def zL (n:Nat)(parts:Array (Nat×aF)):Sem aF:=Instr.buildSlice 104 n parts
theorem alu (parts:Array (Nat×aF)):Instr.build 250 parts=zM parts:=rfl
theorem alv (n:Nat)(parts:Array (Nat×aF)):Instr.buildSlice 104 n parts=zL n parts:=rfl
theorem alw {v:Int}{c:ay}(hc:c.length=32)(w:A):Sem.run prog (zM #[(0,Y v),(1,.agg c.toArray)]) w=.ok (.agg (Y v::c).toArray) w:=run_build w _ _ _ (alr hc)
theorem alx {C:ay}(hC:C.length=33)(w:A):Sem.run prog (zL 1 #[(0,.agg C.toArray)]) w=.ok (aj w.heap.size 1 1) (w.alloc (.cells C.toArray 250)):=als hC w
theorem ack {B B':Nat}{e e':TypeId}{anZ z' n n':Nat}{v v':aF}{xs xs':ay}(h:w.ownsRow B e anZ v n xs)(h':w.ownsRow B' e' z' v' n' xs')(he:e≠e'):v.ownBlock=none\/v.ownBlock≠v'.ownBlock:=by
 exact ky
def lQ{P:Prop}(h:P:=by
 refine h.left.kept λo ho=> ?_
 obtain⟨c,hc,_⟩:=h.left;rw[hc]at ho
 cases ho;exact last (Sw hc pF) n1.symm):P:=h
def lU{P:Prop}(h:P:=by
 intro k I;have:g=k:=by injection I
 rw[<-this];exact QI):P:=h
def mP{P:Prop}(h:P:=by
 subst this;rw[I]at q3;injection q3 with q3;injection q3):P:=h
theorem ZN.push (h:ZN w0 w X K s vT vS){wA:A}{g cap:Nat}{p:Int×Nat}(z:w.grownBy wA vT.ownBlock)(YG:vT.ownBlock=some g\/g=w.heap.size)(ZO:wA.ownsRow w0.heap.size 250 33 (aj g (s.ZF.length+1) cap) (s.ZF.length+1) (s.ZF.flatMap SN++SN p)):ZN w0 (wA.setCell (O X.b 7) (aj g (s.ZF.length+1) cap)) X K {s with ZF:=s.ZF++[p]} (aj g (s.ZF.length+1) cap) vS/\Zy X w (wA.setCell (O X.b 7) (aj g (s.ZF.length+1) cap)):=by
 obtain⟨n1,n2,n3,n4,n5,n6,n7,n8,n9,n10⟩:=Nf h;have QI:g∉X.own:=by
  rcases YG with e|e
  ·exact h.Nj g e
  ·subst e;exact h.QJ (iw _)
 have gb:=ZC wA X.b 7 (aj g (s.ZF.length+1) cap)
 --a block of another type than the bB
 have Sw:∀{k:Nat} {c:Array aF} {t:TypeId} {f:Nat×Nat},w.heap[k]?=some (.cells c t f)->t≠250->wA.heap[k]?=some (.cells c t f):=λ{k c t f} I ht=>by
  refine(z.block k (YY I) (λe=>ht ?_)).trans I
  rcases h.ZF.2 with⟨q,_⟩|⟨g',UH,cur,q1,q2,q3,_⟩
  ·rw[q]at e;cases e
  ·rw[q1]at e;have:k=g':=rU;exact mP
 have last:∀{k:Nat} {o:Obj},wA.heap[k]?=some o->k≠X.b->(wA.setCell (O X.b 7) (aj g (s.ZF.length+1) cap)).heap[k]?=some o:=λ{k o} I ZP=>
  (gb.block k (YY I) (λe=>ZP qI)).trans I
 have ki:∀k cells,w.heap[k]?=some (.cells cells 3 (0,0))->k∉X.own->(wA.setCell (O X.b 7) (aj g (s.ZF.length+1) cap)).heap[k]?=some (.cells cells 3 (0,0)):=λk c I hn=>
  last (Sw I pF) (λe=>hn qa)
 refine⟨⟨?_,h.low,h.nd,?_,?_,last (Sw h.Z7 pF) n2.symm,last (Sw h.Rv pF) n3.symm,last (Sw h.mark pF) n4.symm,?_,?_,?_,h.OW,last (Sw h.Ru pF) (λe=>h.cap.1 qa),h.PC,λi v q=>(h.Ni i v q).kept ki,last (Sw h.Q1 pF) (λe=>h.cap.2 qa),h.Nh,λi v q=>(h.usr i v q).kept ki,h.cap,h.PY,h.Ng,h.Ms⟩,?_⟩
 ·refine Ri (k:=X.b) ?_ (h.low _ Rn) gb;refine⟨z.os.trans h.g0.os,z.tape.trans h.g0.tape,z.output.trans h.g0.output,gZ h.g0.size z.size,λk I _=> ?_⟩
  refine(z.block k (dH I h.g0.size) (λe=> ?_)).trans (h.g0.block k I pG)
  have:=(h.ZF.lt k e.symm).1;omega
 ·exact YE (Sw h.U8 pF) 7 _ rfl
 ·exact lQ
 ·have q:(s.ZF++[p]).flatMap SN=s.ZF.flatMap SN++SN p:=pG;show World.ownsRow _ _ _ _ _ (s.ZF++[p]).length _;rw[dA,bP,q];exact ZO.kept gb (.inr (λe=>QI rP))
 ·exact lU
 ·obtain⟨rows,r1,r2,r3⟩:=h.Zx;refine⟨rows,?_,λi v q=>(r2 i v q).kept ki,r3⟩
  refine(r1.kept z (ack r1 h.ZF pF)).kept gb ?_
  cases hv:vS.ownBlock with
  |none=>exact .inl rfl
  |some k=>exact .inr (λe=>(h.OW k hv).1 qG)
 ·refine⟨gZ z.size gb.size,λk o q1 q2 q3 _=> ?_⟩
  refine last ((z.block k (YY q1) (λe=> ?_)).trans q1) (λe=>q2 qa)
  rcases h.ZF.2 with⟨q,_⟩|⟨g',UH,cur,t1,t2,t3,_⟩
  ·rw[q]at e;cases e
  ·rw[t1]at e;have:k=g':=rU;subst this;rw[q1]at t3;exact q3 _ _ (by injection t3)
theorem ZN.zK (h:ZN w0 w X K s vT vS)(i:Nat)(b:Bool):ZN w0 (w.setCell (O X.gm i) (.bool b)) X K {s with marked:=s.marked.set i b} vT vS/\Zy X w (w.setCell (O X.gm i) (.bool b)):=by
 obtain⟨n1,n2,n3,n4,n5,n6,n7,n8,n9,n10⟩:=Nf h;have gs:=ZC w X.gm i (.bool b);have keep:∀{k:Nat} {o:Obj},w.heap[k]?=some o->k≠X.gm->(w.setCell (O X.gm i) (.bool b)).heap[k]?=some o:=λ{k o} I ZP=>(gs.block k (YY I) (λe=>ZP qI)).trans I
 refine⟨h.UZ (h.Fi gs KZ) (λk o I hn=>keep I (λe=>hn (by rw[e];exact KZ))) (keep h.U8 n4) (h.left.kept λo ho=>keep ho n7) (keep h.Z7 n9) (keep h.Rv n10) ?_ rfl rfl,Zy.UZ gs KZ⟩
 exact YE h.mark i (.bool b) (by simp[gT])
theorem ZN.zJ (h:ZN w0 w X K s vT vS){i:Nat}{b:Bool}(hi:s.marked[i]?=some b):w.cell? (O X.gm i)=some (.bool b)/\w.frozen? (O X.gm i)=false:=⟨Z0 h.mark i _ (by simp[hi]),Zz h.mark i⟩
end
section
attribute [local go_sem ↓] Pz Py alu alv
variable {w0 w w' aW:A}{X:SL}{K:SK}{s:SS}{vT vS:aF}
theorem aly:(prog.info? 250).map (λi=>(i.size,i.bytes))=some (33,264):=pH
theorem alz:((prog.info? 250).bind (·.zero)).map (λanZ=>anZ.cells.size)=some 33:=pH
theorem alA (l:az)(c:Int)(m:List Bool):OY (l++[c]) m=(OY l m).set c.toNat true:=by simp[OY]
theorem acm {D:Nat}{c:ay}(hc:DC D c)(h:ZN w0 w X K s vT vS)(hK:YV K)(bu:s.marked.length=K.cons.length){v:Int}(hv:YX K.vars.length v)(hD:D<2 ^ 2001)(ht:s.ZF.length<=1000000):aq 137 #[ai X.b,Y v,.agg c.toArray] w λe w'=>e=.returned (.tuple #[])/\(∃ar,ZN w0 w' X K (Zb K v D s) ar vS)/\Zy X w w':=by
 obtain⟨n1,n2,n3,n4,n5,n6,n7,n8,n9,n10⟩:=Nf h;obtain⟨anX,hI⟩:∃anX:Nat,v=(anX:Int):=⟨v.toNat,by have:=hv.1;omega⟩;subst hI;have b5:=hK.WB;have bX:anX<K.vars.length:=sQ;have bb:(0:Int)<=anX:=J;have aK:(anX:Int)<K.vars.length:=J;obtain⟨d,hd⟩:=dc (s.L (anX:Int));obtain⟨i0,Y8⟩:∃i,prog.info? 250=some i:=bj.1 pH;have hz:=aly;have bf:=alz;rw[Y8]at hz bf;simp only[fN,dY,gK,eX]at hz bf;obtain⟨Zq,Zn⟩:=hz;obtain⟨anZ,Ze,Dw⟩:∃anZ,i0.zero=some anZ/\anZ.cells.size=33:=by
  cases e:i0.zero with
  |none=>rw[e]at bf;cases bf
  |some anZ=>rw[e]at bf;exact⟨anZ,rfl,by simpa using bf⟩
 obtain⟨uv,af⟩:∃uv,X.us[anX]?=some uv:=⟨X.us[anX]'(by rw[h.Nh];exact bX),aZ _⟩;obtain⟨ua,uc,bl⟩:=(h.usr anX uv af).is;subst bl;obtain⟨l,hl⟩:∃l,l=K.Wm.getD anX []:=⟨_,rfl⟩;rw[<-hl]at af;have aS:∀c∈l,0<=c/\c<K.cons.length:=λc hc=>by
  rw[hl]at hc;obtain⟨a,b,_⟩:=(hK.us anX bX c).1 hc;exact⟨a,b⟩
 have bn:=Z8 aS;have aX:=Z8 af;have HL:=Z8 hl;have a7:l.length<=3000:=by rw[hl];exact hK.ull anX
 clear aS hl af
 --the box,and the world behind the draw
 obtain⟨W,hW⟩:∃W,W=w.alloc (.cells c.toArray 161):=⟨_,rfl⟩;have au:WC W w.heap.size c:=rD;have aL:aB w W:=rT;have bc:=h.grown aL;have hA:=bc.grown (ZG W none);have bt:w.heap.size∉X.own:=h.QJ (iw _);have r7:=hA.f7;have r4:=hA.f4;have ld:=Tf (w:=W.drew) (b:=X.gl) (o:=anX*32) (c:=d) (by rw[hd.is];have q:=(hA.OQ hv).1;rw[dJ]at q;exact q) hd.len;obtain⟨C,hC⟩:∃C,C=Y (anX:Int)::d:=⟨_,rfl⟩;have b6:C.length=33:=by rw[hC];simp[hd.len]
 have bD:C=SN ((anX:Int),s.L (anX:Int)):=by rw[hC,hd.is];rfl
 have bd:∀w,Sem.run prog (zM #[(0,Y (anX:Int)),(1,.agg d.toArray)]) w=.ok (.agg C.toArray) w:=λw=>by rw[hC];exact alw hd.len w
 have bs:∀w,Sem.run prog (zL 1 #[(0,.agg C.toArray)]) w=.ok (aj w.heap.size 1 1) (w.alloc (.cells C.toArray 250)):=λw=>alx b6 w
 have cT:∀u∈C,u.oneCell'=true:=by rw[bD];exact acf _
 have bC:W.drew.heap.size=W.heap.size:=rfl;have YD:Hid ((W.alloc (.cells C.toArray 250)).drew.ownsRow w0.heap.size 250 33 vT s.ZF.length (s.ZF.flatMap SN)):=(bc.ZF.alloc _).kept (ZG _ none) (XY _);have YF:Hid (∀j u,C[j]?=some u->(W.alloc (.cells C.toArray 250)).drew.cell? (((ah W.heap.size):Addr).add j)=some u):=by
  have q:=World.news_of_block (cs:=C.toArray) (t:=250) (fr:=(0,0)) (gp W _);exact λj u hu=>q j u ub
 have aO:w0.heap.size<=W.heap.size:=(h.g0.trans aL).size;have bo:=((bc.grown (di W (.cells C.toArray 250) none))).f7;have WK:Hid (∀wA:A,(W.alloc (.cells C.toArray 250)).drew.grownBy wA vT.ownBlock->ak wA X.b 7 vT/\wA.frozen? (O X.b 7)=false/\
   ∀g cap,wA.ownsRow w0.heap.size 250 33 (aj g (s.ZF.length+1) cap) (s.ZF.length+1) (s.ZF.flatMap SN++C)->(vT.ownBlock=some g\/g=(W.alloc (.cells C.toArray 250)).drew.heap.size)->
    ZN w0 (wA.setCell (O X.b 7) (aj g (s.ZF.length+1) cap)) X K {s with ZF:=s.ZF++[((anX:Int),s.L (anX:Int))]} (aj g (s.ZF.length+1) cap) vS/\Zy X w (wA.setCell (O X.b 7) (aj g (s.ZF.length+1) cap))/\WC (wA.setCell (O X.b 7) (aj g (s.ZF.length+1) cap)) w.heap.size c):=λwA z=>by
  have T2:=(bc.grown (di W (.cells C.toArray 250) none)).grown (ZG _ none);have ZP:some X.b≠vT.ownBlock:=λe=>h.Nj X.b e.symm Rn
  refine⟨z.cell T2.f7 ZP,(z.frozen_far (O X.b 7) T2.lt.1 ZP).trans (T2.fz 7),λg cap ho YG=> ?_⟩
  obtain⟨q1,q2⟩:=T2.push (p:=((anX:Int),s.L (anX:Int))) z YG (by rw[<-bD];exact ho);have q3:Zy X W (W.alloc (.cells C.toArray 250)).drew:=Zy.grown ((di _ _ _).trans (ZG _ none));exact⟨q1,(Zy.grown aL).trans (q3.trans q2),au.Jt (q3.trans q2) bt⟩
 have K2:=ZQ.mk (λ{W':A} {s':SS} {ar:aF} (q:ZN w0 W' X K s' ar vS)=>zT hc q b5 hv hD)
 have aH:=hc.len;have HK:=Z8 hK;have HC:=Z8 hc;clear h hA bc hc hd au aL hC bD hK;go_enter func137,ntmps137;go_wp2;rw[<-hW];clear hW;go_region_law ((refine step_append_lies _ p8 _ _ 104 p8 w0.heap.size 250 i0 anZ 33 264 underlying104 Y8 Ze Zq Zn Dw pF vT s.ZF.length (s.ZF.flatMap SN) p8 YD.out (ah W.heap.size) 1 1 C p8 b6 YF.out cT pF pK J pI _ rfl ?_;intro gA XC wA YT Zo XL Xq;obtain⟨q1,q2,q3⟩:=WK.out wA Zo;obtain⟨x1,x2,x3⟩:=q3 gA XC YT XL))
 all_goals
  have HX:=Z8 x1;have cI:=Z8 x2;have aI:=Tf x3.range aH;clear YD YF WK YT Zo XL Xq q1 q2 q3 x1 x2 x3 ld bd bs r7 r4 bo;go_wp2_with (go_at_call 82;refine(K2.get HX.out).mono ?_;rintro e w2 ⟨rfl,YM,WR⟩;have r9:=YM.f9;have k9:w2.cell? (O X.gu anX)=some (.slice ua l.length uc):=Z0 YM.Q1 anX _ (by rw[bO];exact aX.out));have bI:=Z8 YM;have bp:=Z8 (cI.out.trans WR);clear YM WR HX cI r9 k9;generalize YH:Mu (anX:Int) D {s with ZF:=s.ZF++[((anX:Int),s.L (anX:Int))]}=s2 at *;have Sm:s2.marked=s.marked:=by rw[<-YH];rfl
  have Sc:Hid (Zb K (anX:Int) D s={s2 with marked:=OY l s2.marked}):=by rw[Hid,<-YH,HL.out];rfl
  have bq:=Z8 Sm;clear YH Sm
  go_loopw [38] (λvi wr=>∃i:Nat,i<=l.length/\vi=Y i/\ZN w0 wr X K {s2 with marked:=OY (l.take i) s2.marked} (aj gA (s.ZF.length+1) XC) vS/\Zy X w wr) (λvi _=>l.length-(intOf vi).toNat)
  case atStart=>exact⟨0,iz _,rfl,bI.out,bp.out⟩
  case round=>
   obtain⟨i,hi,rfl,YG,Yf⟩:=hrel;by_cases YK:i<l.length
   ·obtain⟨a,ha⟩:∃a,l[i]?=some a:=⟨l[i],aZ YK⟩;have Gh:=YG.usr anX _ aX.out;rw[<-HL.out]at Gh;rcases Gh with⟨e0,_⟩|⟨g,cap,cells,F,h2,h3,h4,h5⟩
    ·rw[e0]at YK;simp at YK
    obtain rfl:ua=some (ah g):=by injection F
    have k0:ak wr g i (Y a):=Z0 h2 i _ (h3 i a ha);obtain⟨a1,a2⟩:=bn.out a (cq ha);have br:a.toNat<(OY (l.take i) s2.marked).length:=by rw[abR,bq.out,bu];omega
    obtain⟨k1,f1⟩:=YG.zJ (aZ br);have bE:=YG.f10;have X8:(i:Int)<l.length:=J;have Xy:(0:Int)<=i:=J;have HN:=Z8 (YG.zK a.toNat true);have aP:Hid ({s2 with marked:=OY (l.take (i+1)) s2.marked}=({s2 with marked:=(OY (l.take i) s2.marked).set a.toNat true}:SS)):=by
     rw[Hid,dX,ha];exact iJ (λm=>({s2 with marked:=m}:SS)) (alA _ _ _)
    have T1:=Z8 Yf;clear YG Yf F h2 h3 h4 h5 ha;go_wp2;go_roundw
    case rel=>exact⟨i+1,J,pQ,by rw[aP.out];exact HN.out.1,T1.out.trans HN.out.2⟩
    case measure=>simp[intOf];omega
   ·obtain rfl:i=l.length:=J;rw[bH (iw _)]at YG;go_wp2;go_end0;rw[Sc.out];exact⟨rfl,⟨_,YG⟩,Yf⟩
end
section
attribute [local go_sem ↓] Pz Py
variable {w0 w w' aW:A}{X:SL}{K:SK}{s:SS}{vT vS:aF}
theorem Fa {D E:Nat}{c d:ay}(hc:DC D c)(hd:DC E d)(hD:D<2 ^ 2001)(hE:E<2 ^ 2001)(w:A):Sem.run prog (Op.equalIn 10000 161 (.agg c.toArray) (.agg d.toArray)) w=.ok (D==E) w:=by
 rw[hc.is,hd.is,<-SQ,<-SQ];exact abF (Av hD) (Av hE) w
theorem alB {D:Nat}{c:ay}(hc:DC D c)(h:ZN w0 w X K s vT vS)(hK:YV K)(hs:Y5 K s){v:Int}(hv:YX K.vars.length v)(hD:D<2 ^ 2001)(h0:D=0):aq 167 #[ai X.b,Y v,.agg c.toArray] w λe w'=>e=.returned (.bool false)/\ZN w0 w' X K s vT vS/\Zy X w w':=by
 obtain⟨anX,hI⟩:∃anX:Nat,v=(anX:Int):=⟨v.toNat,by have:=hv.1;omega⟩;subst hI;have bb:(0:Int)<=anX:=J;have aK:(anX:Int)<K.vars.length:=sQ;obtain⟨d,hd⟩:=dc (s.L (anX:Int));have hL:=hs.TP hK (anX:Int);have aw:∀w,Sem.run prog (Op.equalIn 10000 161 (.agg c.toArray) (.agg (dL 0).toArray)) w=.ok (D==0) w:=λw=>Fa hc ⟨rfl⟩ hD (fK 2001) w
 rw[Mp]at aw;obtain⟨W,hW⟩:∃W,W=w.alloc (.cells c.toArray 161):=⟨_,rfl⟩;have au:WC W w.heap.size c:=rD;have aL:aB w W:=rT;have bc:=h.grown aL;have aH:=hc.len;have aI:=Tf (WC.new w aH).range aH;have e0:(D==0)=true:=qb;rw[e0]at aw;have HA:=Z8 bc;have HG:=Z8 aL;clear h bc aL au hc hd h0 e0 hs hK;go_enter func167,ntmps167;go_wp2;go_ret;rw[<-hW];exact⟨rfl,HA.out,Zy.grown HG.out⟩
theorem alC {D:Nat}{c:ay}(hc:DC D c)(h:ZN w0 w X K s vT vS)(hK:YV K)(hs:Y5 K s){v:Int}(hv:YX K.vars.length v)(hD:D<2 ^ 2001)(h0:D≠0)(F:D=s.L v):aq 167 #[ai X.b,Y v,.agg c.toArray] w λe w'=>e=.returned (.bool true)/\ZN w0 w' X K s vT vS/\Zy X w w':=by
 obtain⟨anX,hI⟩:∃anX:Nat,v=(anX:Int):=⟨v.toNat,by have:=hv.1;omega⟩;subst hI;have bb:(0:Int)<=anX:=J;have aK:(anX:Int)<K.vars.length:=sQ;obtain⟨d,hd⟩:=dc (s.L (anX:Int));have hL:=hs.TP hK (anX:Int);have aw:∀w,Sem.run prog (Op.equalIn 10000 161 (.agg c.toArray) (.agg (dL 0).toArray)) w=.ok (D==0) w:=λw=>Fa hc ⟨rfl⟩ hD (fK 2001) w
 rw[Mp]at aw;obtain⟨W,hW⟩:∃W,W=w.alloc (.cells c.toArray 161):=⟨_,rfl⟩;have au:WC W w.heap.size c:=rD;have aL:aB w W:=rT;have bc:=h.grown aL;have aH:=hc.len;have aI:=Tf (WC.new w aH).range aH;have aM:∀w,Sem.run prog (Op.equalIn 10000 161 (.agg c.toArray) (.agg d.toArray)) w=.ok (D==s.L (anX:Int)) w:=λw=>Fa hc hd hD hL w
 have a8:=hd.len;have r4:=bc.f4;have rc:=au.range;have rd:W.rangeAt X.gl (anX*32) d:=rH;have aY:=hc.info;have MX:=hd.info;have RZ:=Rt;have cJ:Sem.run prog (PA (ai w.heap.size)) W.drew=.ok (.agg c.toArray) W.drew:=Tf (w:=W.drew) rc aH;have cB:Sem.run prog (PA (.pointer (some (O X.gl (anX*32))))) W.drew=.ok (.agg d.toArray) W.drew:=Tf (w:=W.drew) rd a8;have e0:(D==0)=false:=qb;have e1:(D==s.L (anX:Int))=true:=pW;rw[e0]at aw;rw[e1]at aM;have HA:=Z8 bc;have HG:=Z8 aL;clear h bc aL au hc hd h0 e0 F e1 hs hK rc rd;go_enter func167,ntmps167;go_wp2;rw[<-hW];clear hW;go_region_with (fail)
 all_goals
  go_wp2;go_ret;exact⟨rfl,HA.out.grown (ZG _ _),Zy.grown (HG.out.trans (ZG _ _))⟩
theorem alD {D:Nat}{c:ay}(hc:DC D c)(h:ZN w0 w X K s vT vS)(hK:YV K)(hs:Y5 K s){v:Int}(hv:YX K.vars.length v)(hD:D<2 ^ 2001)(h0:D≠0)(F:D≠s.L v)(ht:s.ZF.length<=1000000):aq 167 #[ai X.b,Y v,.agg c.toArray] w λe w'=>e=.returned (.bool true)/\(∃ar,ZN w0 w' X K (Zb K v D s) ar vS)/\Zy X w w':=by
 obtain⟨anX,hI⟩:∃anX:Nat,v=(anX:Int):=⟨v.toNat,by have:=hv.1;omega⟩;subst hI;have bb:(0:Int)<=anX:=J;have aK:(anX:Int)<K.vars.length:=sQ;obtain⟨d,hd⟩:=dc (s.L (anX:Int));have hL:=hs.TP hK (anX:Int);have aw:∀w,Sem.run prog (Op.equalIn 10000 161 (.agg c.toArray) (.agg (dL 0).toArray)) w=.ok (D==0) w:=λw=>Fa hc ⟨rfl⟩ hD (fK 2001) w
 rw[Mp]at aw;obtain⟨W,hW⟩:∃W,W=w.alloc (.cells c.toArray 161):=⟨_,rfl⟩;have au:WC W w.heap.size c:=rD;have aL:aB w W:=rT;have bc:=h.grown aL;have aH:=hc.len;have aI:=Tf (WC.new w aH).range aH;have aM:∀w,Sem.run prog (Op.equalIn 10000 161 (.agg c.toArray) (.agg d.toArray)) w=.ok (D==s.L (anX:Int)) w:=λw=>Fa hc hd hD hL w
 have a8:=hd.len;have r4:=bc.f4;have rc:=au.range;have rd:W.rangeAt X.gl (anX*32) d:=rH;have aY:=hc.info;have MX:=hd.info;have RZ:=Rt;have cJ:Sem.run prog (PA (ai w.heap.size)) W.drew=.ok (.agg c.toArray) W.drew:=Tf (w:=W.drew) rc aH;have cB:Sem.run prog (PA (.pointer (some (O X.gl (anX*32))))) W.drew=.ok (.agg d.toArray) W.drew:=Tf (w:=W.drew) rd a8;have e0:(D==0)=false:=qb;have e1:(D==s.L (anX:Int))=false:=pW;rw[e0]at aw;rw[e1]at aM;have K1:=ZQ.mk (λ{W':A} (q:ZN w0 W' X K s vT vS)=>acm hc q hK hs.ml hv hD ht)
 have HA:=Z8 bc;have HG:=Z8 aL;clear h bc aL au hc hd h0 e0 F e1 hs hK rc rd;go_enter func167,ntmps167;go_wp2;rw[<-hW];clear hW;go_region_with (fail)
 all_goals
  go_wp2_with (go_at_call 137;refine(K1.get (HA.out.grown (ZG _ _))).mono ?_;rintro e w2 ⟨rfl,YM,WR⟩);go_ret;exact⟨rfl,YM,(Zy.grown (HG.out.trans (ZG _ _))).trans WR⟩
def mh{P:Prop}(h:P:=by
 rintro e w' ⟨rfl,F,h2⟩;exact⟨rfl,⟨_,F⟩,h2⟩):P:=h
theorem E9 {D:Nat}{c:ay}(hc:DC D c)(h:ZN w0 w X K s vT vS)(hK:YV K)(hs:Y5 K s){v:Int}(hv:YX K.vars.length v)(hD:D<2 ^ 2001)(ht:s.ZF.length<=1000000):aq 167 #[ai X.b,Y v,.agg c.toArray] w λe w'=>e=.returned (.bool (Vq K v D s).1)/\(∃ar,ZN w0 w' X K (Vq K v D s).2 ar vS)/\Zy X w w':=by
 unfold Vq;by_cases h0:D=0
 ·rw[iR h0];refine(alB hc h hK hs hv hD h0).mono ?_;exact mh
 ·rw[iQ h0];by_cases F:D=s.L v
  ·rw[iR F];refine(alC hc h hK hs hv hD h0 F).mono ?_;exact mh
  ·rw[iQ F];exact alD hc h hK hs hv hD h0 F ht
end
section
attribute [local go_sem ↓] Pz Py
variable {w0 w w' aW:A}{X:SL}{K:SK}{s:SS}{vT vS:aF}
theorem zI {P:Program}{ops:Array Oper}{Q:Exit->Act->A->Prop}{md:Region.Mode}{i:Nat}{oi:Oper}{v:aF}{fuel:Nat}{listed:Array Bool}{a:Act}{w:A}(d:Option Tmp)(hi:ops[i]?=some oi)(hd:oi.dst=d)(hs:Region.noSelect ops=true)(hf:Region.free md ops listed i=true)(hr:(Region.ready md ops listed).contains i=true)(hQ:∀c a w,Q (.panic c) (a.put d v) w->Q (.panic c) a w)(hy:Yields P ops oi v a)(h:wpAny P md ops Q fuel (listed.setIfInBounds i true) (a.put d v) w):wpAny P md ops Q (fuel+1) listed a w:=by
 subst hd;exact wpAny_take hi hs hf hr hQ hy h
theorem tkY {P:Program}{ops:Array Oper}{Q:Exit->Act->A->Prop}{md:Region.Mode}{i:Nat}{oi:Oper}{v:aF}{fuel:Nat}{listed:Array Bool}{a:Act}{w:A}(d:Nat)(hi:ops[i]?=some oi)(hd:oi.dst=some d)(hc:(Region.noSelect ops&&Region.free md ops listed i&&(Region.ready md ops listed).contains i)=true)(hQ:∀c a w,Q (.panic c) (a.put (some d) v) w->Q (.panic c) a w)(hy:Yields P ops oi v a)(h:wpAny P md ops Q fuel (listed.setIfInBounds i true) (a.put (some d) v) w):wpAny P md ops Q (fuel+1) listed a w:=by
 simp only[eC]at hc;exact zI (some d) hi hd hc.1.1 hc.1.2 hc.2 hQ hy h
theorem Zr {P:Program}{ops:Array Oper}{Q:Exit->Act->A->Prop}{md:Region.Mode}{oi:Oper}{v:aF}{fuel:Nat}{listed:Array Bool}{a:Act}{w:A}(i d:Nat)(hy:∀w,(execOp a.eval oi).run P w=.ok (.value v) w)(h:wpAny P md ops Q fuel (listed.setIfInBounds i true) (a.put (some d) v) w)(hi:ops[i]?=some oi:=by rfl)(hd:oi.dst=some d:=by rfl)(z:Region.wanted oi (yielded ops a.tmps)=true:=by rfl)(hc:(Region.noSelect ops&&Region.free md ops listed i&&(Region.ready md ops listed).contains i)=true:=by kernel_rfl)(hQ:∀c a w,Q (.panic c) (a.put (some d) v) w->Q (.panic c) a w:=by exact λ_ _ _ h=>h):wpAny P md ops Q (fuel+1) listed a w:=by
 simp only[eC]at hc;exact zI (some d) hi hd hc.1.1 hc.1.2 hc.2 hQ (Or.inl ⟨z,hy⟩) h
theorem X2 {P:Program}{ops:Array Oper}{Q:Exit->Act->A->Prop}{md:Region.Mode}{oi:Oper}{fuel:Nat}{listed:Array Bool}{a:Act}{w:A}(i d:Nat)(h:wpAny P md ops Q fuel (listed.setIfInBounds i true) (a.put (some d) undef) w)(hi:ops[i]?=some oi:=by rfl)(hd:oi.dst=some d:=by rfl)(z:Region.wanted oi (yielded ops a.tmps)=false:=by kernel_rfl)(hc:(Region.noSelect ops&&Region.free md ops listed i&&(Region.ready md ops listed).contains i)=true:=by kernel_rfl)(hQ:∀c a w,Q (.panic c) (a.put (some d) undef) w->Q (.panic c) a w:=by exact λ_ _ _ h=>h):wpAny P md ops Q (fuel+1) listed a w:=by
 simp only[eC]at hc;exact zI (some d) hi hd hc.1.1 hc.1.2 hc.2 hQ (Or.inr ⟨z,rfl⟩) h
def TB (s:SS):Prop:=s.ZF.length+(s.left.map VC).sum<=1000000/\∀p∈s.ZF,0<=p.1/\p.1<s.left.length/\p.2<2 ^ 2001
theorem TB.le (h:TB s):s.ZF.length<=1000000:=by have:=h.1;omega
theorem acn (hK:YV K)(hs:Y5 K s){v:Int}(hv:YX K.vars.length v){D:Nat}(bg:∀j,D.testBit j=true->(s.L v).testBit j=true)(ZP:D≠s.L v)(h:TB s):TB (Zb K v D s):=by
 have hl:v.toNat<s.left.length:=qj;have q:=Ag (f:=VC) hl (Ak (hs.TP hK v) bg ZP);obtain⟨F,h2⟩:=h;refine⟨?_,λp hp=> ?_⟩
 ·simp only[Zb,dA,bP];omega
 ·simp only[Zb,fC];rcases fE.1 hp with e|e
  ·exact h2 p e
  ·have:p=(v,s.L v):=by simpa using e
   subst this;exact⟨hv.1,by simp only[];have:=hv.1;omega,hs.TP hK v⟩
theorem Jm (hK:YV K)(hs:Y5 K s){v:Int}(hv:YX K.vars.length v){D:Nat}(bg:∀j,D.testBit j=true->(s.L v).testBit j=true)(h:TB s):TB (Vq K v D s).2:=by
 unfold Vq;split
 ·exact h
 ·split
  ·exact h
  ·rename_i q;exact acn hK hs hv bg q h
def OV (X:SL)(w:A)(v:aF)(l:az):Prop:=(l=[]/\∃a c,v=.slice a 0 c)\/∃(g off cap:Nat) (cells:Array aF),v=.slice (some (O g off)) l.length cap/\w.heap[g]?=some (.cells cells 3 (0,0))/\(∀(j:Nat) (x:Int),l[j]?=some x->cells[off+j]?=some (Y x))/\g∉X.own
theorem OV.kept {v:aF}{l:az}(h:OV X w v l)(hf:Zy X w w'):OV X w' v l:=by
 rcases h with h|⟨g,off,cap,cells,F,h2,h3,h4⟩
 ·exact .inl h
 ·exact .inr ⟨g,off,cap,cells,F,hf.block g _ h2 h4 (λ_ _ e=>pL) (λ_ _ e=>pL),h3,h4⟩
theorem OV.is {v:aF}{l:az}(h:OV X w v l):∃a c,v=.slice a l.length c:=by
 rcases h with⟨rfl,a,c,e⟩|⟨g,off,cap,cells,F,_⟩
 ·exact⟨a,c,e⟩
 ·exact⟨_,_,F⟩
theorem sub_lt {D E:Nat}(hD:D<2 ^ 2001):TG D E<2 ^ 2001:=Di (k:=2001) λj hj=>Mv (by rw[JN]at hj;simp at hj;exact hj.1) hD
theorem C4 {D E:Nat}:∀j,(TG D E).testBit j=true->D.testBit j=true:=λj h=>by rw[JN]at h;simp at h;exact h.1
def aco (w0 w:A)(X:SL)(K:SK)(a:Int)(l:az)(vS:aF)(R:Bool×SS)(vi:aF)(wr:A):Prop:=
 ∃(i:Nat) (s:SS) (vT:aF),i<=l.length/\vi=Y i/\ZN w0 wr X K s vT vS/\Y5 K s/\TB s/\Zy X w wr/\WD K a (l.drop i) s=R
def ji{P:Prop}(h:P:=by
 (intro w;go_simp;try with_reducible rfl)):P:=h
def jJ{P:Prop}(h:P:=by
 refine iF pH ?_ _;go_wp2;go_roundw
 case rel=>
  obtain⟨C3,Si⟩:=Si;exact⟨i+1,k.2,C3,J,pQ,Si,CZ.out.1,CZ.out.2,(T1.out.trans (Zy.grown ((Ql.trans ZJ).trans Xr))).trans Te,Xk.out⟩
 case measure=>simp[intOf];omega):P:=h
def j6{P:Prop}(h:P:=by
 refine iF pH ?_ _;go_wp2;go_ret;rw[Vo,<-Xk.out];exact⟨rfl,Si,(T1.out.trans (Zy.grown ((Ql.trans ZJ).trans Xr))).trans Te⟩):P:=h
def mS{P:Prop}(h:P:=by
 rw[aR YK];congr 1;rw[aZ YK]at ha;exact fO ha):P:=h
def mU{P:Prop}(h:P:=by
 subst e;go_wp2;go_ret;exact⟨rfl,⟨_,YG⟩,Yf⟩):P:=h
def nL{P:Prop}(h:P:=by
 refine iB (rs:=[21]) pH pG ?_;refine gB rfl (λK hK=> ?_) gN
 go_simp;go_wp2_with ((go_at_call 198;refine(KW.get _).mono ?_;rintro e w4 ⟨rfl,Xr⟩));refine iB (rs:=[22]) pH pG ?_;refine gB rfl (λK hK=> ?_) gN
 go_simp;go_wp2_with ((go_at_call 167;refine(KK.get (T2.grown Xr)).mono ?_;rintro e w5 ⟨rfl,Si,Te⟩));apply Zr 23 38
 ·exact ji
 (try simp only[Act.put,Z5,Z4,Z2])
 apply Zr 24 39
 ·exact ji
 (try simp only[Act.put,Z5,Z4,Z2])
 exact jJ):P:=h
def nM{P:Prop}(h:P:=by
 refine iB (rs:=[21]) pH pG ?_;refine gB rfl (λK hK=> ?_) gN
 go_simp;go_wp2_with ((go_at_call 198;refine(KW.get _).mono ?_;rintro e w4 ⟨rfl,Xr⟩));refine iB (rs:=[22]) pH pG ?_;refine gB rfl (λK hK=> ?_) gN
 go_simp;go_wp2_with ((go_at_call 167;refine(KK.get (T2.grown Xr)).mono ?_;rintro e w5 ⟨rfl,Si,Te⟩));apply Zr 23 38
 ·exact ji
 (try simp only[Act.put,Z5,Z4,Z2])
 apply Zr 24 39
 ·exact ji
 (try simp only[Act.put,Z5,Z4,Z2])
 exact j6):P:=h
def py{P:Prop}(h:P:=by
 refine iB (rs:=[18]) pH pG ?_;refine gB rfl (λK hK=> ?_) gN
 go_simp;refine hK _ _ ?_;clear hK K;exact nL):P:=h
def pz{P:Prop}(h:P:=by
 refine iB (rs:=[18]) pH pG ?_;refine gB rfl (λK hK=> ?_) gN
 go_simp;refine hK _ _ ?_;clear hK K;exact nM):P:=h
theorem acp (h:ZN w0 w X K s vT vS)(hK:YV K)(hs:Y5 K s)(hT:TB s){a:Int}(a6:-1000<=a)(ba:a<=1000){vv:aF}{l:az}(hl:OV X w vv l)(hp:∀v∈l,YX K.vars.length v)(a7:l.length<=3000):aq 172 #[ai X.b,Y a,vv] w λe w'=>e=.returned (.bool (WD K a l s).1)/\(∃ar,ZN w0 w' X K (WD K a l s).2 ar vS)/\Zy X w w':=by
 obtain⟨R,hR⟩:∃R,WD K a l s=R:=⟨_,rfl⟩;rw[hR];have W6:Hid (aco w0 w X K a l vS R (Y 0) w):=⟨0,s,vT,iz _,rfl,h,hs,hT,Zy.refl X w,hR⟩;obtain⟨va,vc,rfl⟩:=hl.is;have HL:=Z8 hl;have HP:=Z8 hp;have HK:=Z8 hK;clear h hs hT hl hp hK hR;go_enter func172,ntmps172;go_wp2
 go_loopw [11] (λvi wr=>aco w0 w X K a l vS R vi wr) (λvi _=>l.length-(intOf vi).toNat)
 case atStart=>exact W6.out
 case round=>
  clear W6;obtain⟨i,si,bK,hi,rfl,YG,aa,Z,Yf,aA⟩:=hrel;by_cases YK:i<l.length
  ·obtain⟨v,ha⟩:∃v,l[i]?=some v:=⟨l[i],aZ YK⟩;have bA:l.drop i=v::l.drop (i+1):=by
    exact mS
   rcases HL.out.kept Yf with⟨e0,_⟩|⟨g,off,cap,cells,F,h2,h3,h4⟩
   ·rw[e0]at YK;simp at YK
   obtain rfl:va=some (O g off):=by injection F
   have k0:ak wr g (off+i) (Y v):=Z0 h2 _ _ (h3 i v ha);have bm:=HP.out v (cq ha);have bb:=bm.1;have aK:=bm.2;have X8:(i:Int)<l.length:=J;have Xy:(0:Int)<=i:=J;obtain⟨d,hd⟩:=dc (si.L v);have a8:=hd.len;have HW:Hid (∀w1:A,aB wr w1->ak w1 X.b 4 (aj X.gl K.vars.length K.vars.length)/\Sem.run prog (PA (.pointer (some (O X.gl (v.toNat*32))))) w1=.ok (.agg d.toArray) w1/\ZN w0 w1 X K si bK vS):=λw1 z=>by
    have hA:=YG.grown z;exact⟨hA.f4,Tf (by rw[hd.is];exact(hA.OQ bm).1) hd.len,hA⟩
   obtain⟨c4,_,_⟩:=HW.out wr (WW _ _);obtain⟨_,bF,_⟩:=HW.out wr.drew (ZG _ _);have KH:=ZQ.mk (λW=>C6 hd a a6 ba W)
   by_cases ch:Xp (si.L v) a=true
   ·have Yn:Hid ((let k:=Vq K v (TG (si.L v) (Zu a)) si;if k.1 then WD K a (l.drop (i+1)) k.2 else k)=R):=by
     rw[Hid,<-aA,bA,WD,iR ch]
    obtain⟨o,ho⟩:=dc (Zu a);obtain⟨r,hr⟩:=dc (TG (si.L v) (Zu a));have KO:=ZQ.mk (λW=>zX ho a6 ba W)
    have KW:=ZQ.mk (λW=>zV hd ho hr W)
    have KK:=ZQ.mk (λ{W':A} (q:ZN w0 W' X K si bK vS)=>E9 hr q HK.out aa bm (sub_lt (aa.TP HK.out v)) Z.le)
    have CZ:Hid (Y5 K (Vq K v (TG (si.L v) (Zu a)) si).2/\TB (Vq K v (TG (si.L v) (Zu a)) si).2):=
     ⟨(Mt HK.out aa bm C4).1.ok aa,Jm HK.out aa bm C4 Z⟩
    rw[ch]at KH;generalize Vq K v (TG (si.L v) (Zu a)) si=k at *;have T1:=Z8 Yf;clear YG aa Z Yf aA F h2 h3 h4 ha bA hd ho hr bm ch
    cases I:k.1 with
    |true=>
     rw[I]at KK;have Xk:Hid (WD K a (l.drop (i+1)) k.2=R):=uh;clear I Yn;go_wp2;refine gM pH ?_
     try(change wpAny _ _ _ _ _ _ _ (World.drew _))
     apply Zr 0 15
     ·exact ji
     (try simp only[Act.put,Z5,Z4,Z2])
     apply Zr 1 16
     ·exact ji
     (try simp only[Act.put,Z5,Z4,Z2])
     apply Zr 2 17
     ·exact ji
     (try simp only[Act.put,Z5,Z4,Z2])
     apply Zr 4 19
     ·exact ji
     (try simp only[Act.put,Z5,Z4,Z2])
     apply Zr 7 22
     ·exact ji
     (try simp only[Act.put,Z5,Z4,Z2])
     refine iB (rs:=[3]) pH pG ?_;refine gB rfl (λK hK=> ?_) gN
     go_simp;refine hK _ _ ?_;clear hK K;apply Zr 5 20
     ·exact ji
     (try simp only[Act.put,Z5,Z4,Z2])
     refine iB (rs:=[6]) pH pG ?_;refine gB rfl (λK hK=> ?_) gN
     go_simp;refine hK _ _ ?_;clear hK K;refine iB (rs:=[8]) pH pG ?_;refine gB rfl (λK hK=> ?_) gN
     go_simp;go_wp2_with ((go_at_call 169;refine(KH.get _).mono ?_;rintro e w2 ⟨rfl,ZU⟩;have Ql:=(ZG wr none).trans ZU;obtain⟨bz,cB,_⟩:=HW.out w2 Ql));apply Zr 9 24
     ·exact ji
     (try simp only[Act.put,Z5,Z4,Z2])
     apply Zr 10 25
     ·exact ji
     (try simp only[Act.put,Z5,Z4,Z2])
     apply Zr 11 26
     ·exact ji
     (try simp only[Act.put,Z5,Z4,Z2])
     apply Zr 12 27
     ·exact ji
     (try simp only[Act.put,Z5,Z4,Z2])
     apply Zr 13 28
     ·exact ji
     (try simp only[Act.put,Z5,Z4,Z2])
     apply Zr 14 29
     ·exact ji
     (try simp only[Act.put,Z5,Z4,Z2])
     apply Zr 16 31
     ·exact ji
     (try simp only[Act.put,Z5,Z4,Z2])
     apply Zr 19 34
     ·exact ji
     (try simp only[Act.put,Z5,Z4,Z2])
     refine iB (rs:=[15,20]) pH pG ?_;refine gB rfl (λK hK=> ?_) (gB rfl (λK hK=> ?_) gN)
     ·go_simp;refine hK _ _ ?_;clear hK K;apply Zr 17 32
      ·exact ji
      (try simp only[Act.put,Z5,Z4,Z2])
      refine iB (rs:=[18,20]) pH pG ?_;refine gB rfl (λK hK=> ?_) (gB rfl (λK hK=> ?_) gN)
      ·go_simp;refine hK _ _ ?_;clear hK K;refine iB (rs:=[20]) pH pG ?_;refine gB rfl (λK hK=> ?_) gN
       go_simp;go_wp2_with ((go_at_call 138;refine(KO.get _).mono ?_;rintro e w3 ⟨rfl,ZJ⟩;obtain⟨ax,aC,T2⟩:=HW.out w3 (Ql.trans ZJ)));exact nL
      ·go_simp;go_wp2_with ((go_at_call 138;refine(KO.get _).mono ?_;rintro e w3 ⟨rfl,ZJ⟩;obtain⟨ax,aC,T2⟩:=HW.out w3 (Ql.trans ZJ)));exact py
     ·go_simp;go_wp2_with ((go_at_call 138;refine(KO.get _).mono ?_;rintro e w3 ⟨rfl,ZJ⟩;obtain⟨ax,aC,T2⟩:=HW.out w3 (Ql.trans ZJ)));refine iB (rs:=[15]) pH pG ?_;refine gB rfl (λK hK=> ?_) gN
      go_simp;refine hK _ _ ?_;clear hK K;apply Zr 17 32
      ·exact ji
      (try simp only[Act.put,Z5,Z4,Z2])
      exact py
    |false=>
     rw[I]at KK;have Xk:Hid (k=R):=tV;have Vo:R.1=false:=by rw[<-Xk.out];exact I
     clear I Yn;go_wp2;refine gM pH ?_
     try(change wpAny _ _ _ _ _ _ _ (World.drew _))
     apply Zr 0 15
     ·exact ji
     (try simp only[Act.put,Z5,Z4,Z2])
     apply Zr 1 16
     ·exact ji
     (try simp only[Act.put,Z5,Z4,Z2])
     apply Zr 2 17
     ·exact ji
     (try simp only[Act.put,Z5,Z4,Z2])
     apply Zr 4 19
     ·exact ji
     (try simp only[Act.put,Z5,Z4,Z2])
     apply Zr 7 22
     ·exact ji
     (try simp only[Act.put,Z5,Z4,Z2])
     refine iB (rs:=[3]) pH pG ?_;refine gB rfl (λK hK=> ?_) gN
     go_simp;refine hK _ _ ?_;clear hK K;apply Zr 5 20
     ·exact ji
     (try simp only[Act.put,Z5,Z4,Z2])
     refine iB (rs:=[6]) pH pG ?_;refine gB rfl (λK hK=> ?_) gN
     go_simp;refine hK _ _ ?_;clear hK K;refine iB (rs:=[8]) pH pG ?_;refine gB rfl (λK hK=> ?_) gN
     go_simp;go_wp2_with ((go_at_call 169;refine(KH.get _).mono ?_;rintro e w2 ⟨rfl,ZU⟩;have Ql:=(ZG wr none).trans ZU;obtain⟨bz,cB,_⟩:=HW.out w2 Ql));apply Zr 9 24
     ·exact ji
     (try simp only[Act.put,Z5,Z4,Z2])
     apply Zr 10 25
     ·exact ji
     (try simp only[Act.put,Z5,Z4,Z2])
     apply Zr 11 26
     ·exact ji
     (try simp only[Act.put,Z5,Z4,Z2])
     apply Zr 12 27
     ·exact ji
     (try simp only[Act.put,Z5,Z4,Z2])
     apply Zr 13 28
     ·exact ji
     (try simp only[Act.put,Z5,Z4,Z2])
     apply Zr 14 29
     ·exact ji
     (try simp only[Act.put,Z5,Z4,Z2])
     apply Zr 16 31
     ·exact ji
     (try simp only[Act.put,Z5,Z4,Z2])
     apply Zr 19 34
     ·exact ji
     (try simp only[Act.put,Z5,Z4,Z2])
     refine iB (rs:=[15,20]) pH pG ?_;refine gB rfl (λK hK=> ?_) (gB rfl (λK hK=> ?_) gN)
     ·go_simp;refine hK _ _ ?_;clear hK K;apply Zr 17 32
      ·exact ji
      (try simp only[Act.put,Z5,Z4,Z2])
      refine iB (rs:=[18,20]) pH pG ?_;refine gB rfl (λK hK=> ?_) (gB rfl (λK hK=> ?_) gN)
      ·go_simp;refine hK _ _ ?_;clear hK K;refine iB (rs:=[20]) pH pG ?_;refine gB rfl (λK hK=> ?_) gN
       go_simp;go_wp2_with ((go_at_call 138;refine(KO.get _).mono ?_;rintro e w3 ⟨rfl,ZJ⟩;obtain⟨ax,aC,T2⟩:=HW.out w3 (Ql.trans ZJ)));exact nM
      ·go_simp;go_wp2_with ((go_at_call 138;refine(KO.get _).mono ?_;rintro e w3 ⟨rfl,ZJ⟩;obtain⟨ax,aC,T2⟩:=HW.out w3 (Ql.trans ZJ)));exact pz
     ·go_simp;go_wp2_with ((go_at_call 138;refine(KO.get _).mono ?_;rintro e w3 ⟨rfl,ZJ⟩;obtain⟨ax,aC,T2⟩:=HW.out w3 (Ql.trans ZJ)));refine iB (rs:=[15]) pH pG ?_;refine gB rfl (λK hK=> ?_) gN
      go_simp;refine hK _ _ ?_;clear hK K;apply Zr 17 32
      ·exact ji
      (try simp only[Act.put,Z5,Z4,Z2])
      exact pz
   ·have bk:Xp (si.L v) a=false:=by simpa using ch
    have Xk:Hid (WD K a (l.drop (i+1)) si=R):=by
     rw[Hid,<-aA,bA,WD,iQ ch]
    rw[bk]at KH;have aQ:Hid (Y5 K si/\TB si):=⟨aa,Z⟩;have T1:=Z8 Yf;clear YG aa Z Yf aA F h2 h3 h4 ha bA hd bm ch bk;go_wp2;refine gM pH ?_
    try(change wpAny _ _ _ _ _ _ _ (World.drew _))
    apply Zr 0 15
    ·exact ji
    (try simp only[Act.put,Z5,Z4,Z2])
    apply Zr 1 16
    ·exact ji
    (try simp only[Act.put,Z5,Z4,Z2])
    apply Zr 2 17
    ·exact ji
    (try simp only[Act.put,Z5,Z4,Z2])
    apply Zr 4 19
    ·exact ji
    (try simp only[Act.put,Z5,Z4,Z2])
    apply Zr 7 22
    ·exact ji
    (try simp only[Act.put,Z5,Z4,Z2])
    refine iB (rs:=[3]) pH pG ?_;refine gB rfl (λK hK=> ?_) gN
    go_simp;refine hK _ _ ?_;clear hK K;apply Zr 5 20
    ·exact ji
    (try simp only[Act.put,Z5,Z4,Z2])
    refine iB (rs:=[6]) pH pG ?_;refine gB rfl (λK hK=> ?_) gN
    go_simp;refine hK _ _ ?_;clear hK K;refine iB (rs:=[8]) pH pG ?_;refine gB rfl (λK hK=> ?_) gN
    go_simp;go_wp2_with ((go_at_call 169;refine(KH.get _).mono ?_;rintro e w2 ⟨rfl,ZU⟩;have Ql:=(ZG wr none).trans ZU;obtain⟨_,_,T2⟩:=HW.out w2 Ql));apply Zr 9 24
    ·exact ji
    (try simp only[Act.put,Z5,Z4,Z2])
    apply X2 10 25
    (try simp only[Act.put,Z5,Z4,Z2])
    apply X2 11 26
    (try simp only[Act.put,Z5,Z4,Z2])
    apply X2 12 27
    (try simp only[Act.put,Z5,Z4,Z2])
    apply X2 13 28
    (try simp only[Act.put,Z5,Z4,Z2])
    apply X2 14 29
    (try simp only[Act.put,Z5,Z4,Z2])
    apply X2 15 30
    (try simp only[Act.put,Z5,Z4,Z2])
    apply X2 16 31
    (try simp only[Act.put,Z5,Z4,Z2])
    apply X2 17 32
    (try simp only[Act.put,Z5,Z4,Z2])
    apply X2 18 33
    (try simp only[Act.put,Z5,Z4,Z2])
    apply X2 19 34
    (try simp only[Act.put,Z5,Z4,Z2])
    apply X2 20 35
    (try simp only[Act.put,Z5,Z4,Z2])
    apply X2 21 36
    (try simp only[Act.put,Z5,Z4,Z2])
    apply X2 22 37
    (try simp only[Act.put,Z5,Z4,Z2])
    apply X2 23 38
    (try simp only[Act.put,Z5,Z4,Z2])
    apply Zr 24 39
    ·exact ji
    (try simp only[Act.put,Z5,Z4,Z2])
    refine iF pH ?_ _;go_wp2;go_roundw
    case rel=>exact⟨i+1,si,bK,J,pQ,T2,aQ.out.1,aQ.out.2,T1.out.trans (Zy.grown Ql),Xk.out⟩
    case measure=>simp[intOf];omega
  ·obtain rfl:i=l.length:=J;have e:R=(true,si):=by rw[<-aA,List.drop_length];rfl
   exact mU
end
section
attribute [local go_sem ↓] Pz Py
variable {w0 w w' aW:A}{X:SL}{K:SK}{s:SS}{vT vS:aF}
theorem ZN.Vs (h:ZN w0 w X K s vT vS){i:Nat}{c:Yz}(hc:K.cons[i]?=some c):∃(x:X7) (g cap:Nat),x.c=c/\X.vC=aj g K.cons.length cap/\Ty w g (i*10) X.B x/\x∈X.cs:=by
 have hS:=h.set;have hlen:X.cs.length=K.cons.length:=by rw[<-h.Ng];simp
 have hi:i<X.cs.length:=by rw[hlen];exact(aU.1 hc).1
 obtain⟨g,cap,hR,_⟩:=YR.TX hS.oc J;refine⟨X.cs[i],g,cap,?_,?_,⟨λk u hu=> ?_,hR.lt,hS.at_ _ (eL hi)⟩,eL hi⟩
 ·have:(X.cs.map (·.c))[i]?=some c:=by rw[h.Ng];exact hc
  rw[dR,aZ hi]at this;simpa using this
 ·rw[<-hlen];exact hR.is
 ·exact hR.at (sz:=10) (λ_=>rfl) (aZ hi) k u hu
theorem acq (h:ZN w0 w X K s vT vS)(hK:YV K)(hs:Y5 K s){x:X7}{g o:Nat}(hx:Ty w g o X.B x)(aJ:x.c∈K.cons)(aa:x.c.sort=0\/x.c.sort=1){v:Int}(hv:YX K.vars.length v)(t:Bool)(ht:s.ZF.length<=1000000):aq 130 #[ai X.b,.pointer (some (O g o)),.bool t,Y v] w λe w'=>e=.returned (.bool (Nn K x.c t v s).1)/\(∃ar,ZN w0 w' X K (Nn K x.c t v s).2 ar vS)/\Zy X w w':=by
 have av:=hK.cons _ aJ;obtain⟨gt,ct,hT,_⟩:=YR.TX hx.at_.t (by cases e:x.c.ZA with|nil=>exact absurd e (av.Ky aa)|cons _ _=>simp)
 have k2:w.cell? (O g (o+2))=some (aj gt x.c.ZA.length ct):=by have q:=hx.cell 2 _ rfl;rw[hT.is]at q;exact q
 have KS:=ZQ.mk (alh h hK.WB (λu=>hs.TP hK u) hT av.ZA av.MC v)
 rw[hT.is]at KS;obtain⟨b1,b2,b3,b4⟩:=ach (v:=v) (λu=>hs.TP hK u) x.c.ZA (λp hp=>(av.ZA p hp).2)
 have bT:=av.num.1;have bJ:=av.num.2;have bM:=av.MC;have hrel:=av.rel;obtain⟨d,hd⟩:=dc (s.L v);obtain⟨r,hr⟩:=dc (TE (s.L v) (VV s x.c.ZA v).1 x.c.rel (x.c.num-(VV s x.c.ZA v).2) t);have RI:TE (s.L v) (VV s x.c.ZA v).1 x.c.rel (x.c.num-(VV s x.c.ZA v).2) t<2 ^ 2001:=Di (k:=2001) λj hj=>Mv (Ai j hj) (hs.TP hK v)
 have KT:=ZQ.mk (λW=>alp hrel hd hr J J J J W)
 have KK:=ZQ.mk (λ{W':A} (q:ZN w0 W' X K s vT vS)=>E9 hr q hK hs hv RI ht)
 have Yn:Hid (Vq K v (TE (s.L v) (VV s x.c.ZA v).1 x.c.rel (x.c.num-(VV s x.c.ZA v).2) t) s=Nn K x.c t v s):=rfl;obtain⟨anX,hI⟩:∃anX:Nat,v=(anX:Int):=⟨v.toNat,by have:=hv.1;omega⟩;have bb:(0:Int)<=v:=hv.1;have aK:v<K.vars.length:=hv.2;have HW:Hid (∀w1:A,aB w w1->ak w1 X.b 4 (aj X.gl K.vars.length K.vars.length)/\ak w1 g (o+3) (Y x.c.rel)/\ak w1 g (o+4) (Y x.c.num)/\Sem.run prog (PA (.pointer (some (O X.gl (v.toNat*32))))) w1.drew=.ok (.agg d.toArray) w1.drew/\ZN w0 w1 X K s vT vS):=λw1 z=>by
  have hA:=h.grown z;have hX:=hx.grown z;exact⟨hA.f4,hX.cell 3 _ rfl,hX.cell 4 _ rfl,Tf (w:=w1.drew) (by rw[hd.is];exact(hA.OQ hv).1) hd.len,hA⟩
 generalize bW:VV s x.c.ZA v=SP at *;have LF:IntKind.i64.wrap (x.c.num-SP.2)=x.c.num-SP.2:=Pq J J;clear h hx hT av hd hr RI hv hs hK hI bW;go_enter func130,ntmps130;go_wp2_with (go_at_call 166;refine KS.get.mono ?_;rintro e w1 ⟨rfl,ZZ⟩;obtain⟨c4,y3,y4,cJ,bh⟩:=HW.out w1 ZZ);have aV:=Z8 bh;have We:=Z8 ZZ;clear bh ZZ HW KS;go_region_with (first|(go_at_call 167;refine(KK.get (aV.out.grown ((ZG _ _).trans ZU))).mono ?_;rintro e w3 ⟨rfl,Yh,TH⟩)|(go_at_call 168;refine(KT.get _).mono ?_;rintro e w2 ⟨rfl,ZU⟩))
 all_goals
  go_wp2;go_ret;rw[<-Yn.out];exact⟨rfl,Yh,(Zy.grown ((We.out.trans (ZG _ _)).trans ZU)).trans TH⟩
end
end Go.Proofs.YthpcbbnabnlanaaGreatDoor
