import Derived.Test.YthpcbbnabnlanaaGreatDoorM33
namespace Go.Proofs.YthpcbbnabnlanaaGreatDoor
set_option maxHeartbeats 4000000
set_option maxRecDepth 100000
open Go.Proofs.Tryz
open Go.RowKit
set_option linter.all false
variable {w0 w w' aW:A}{X:SL}{K:SK}{s:SS}{vT vS:aF}
theorem ale (s:SS)(l:az)(v:Int):XR s (l++[v])=if s.fixed v then XR s l else(v,(XR s l).2+1):=by simp[XR]
theorem alf (s:SS)(l:az):0<=(XR s l).2/\(XR s l).2<=l.length:=by
 refine⟨(Oj s l).1,?_⟩;have key:∀(l:az) (p:Int×Int),(l.foldl (λp v=>if s.fixed v then p else(v,p.2+1)) p).2<=p.2+l.length:=by
  intro l
  induction l with
  |nil=>intro p;simp
  |cons v l ih=>
   intro p;have:=ih (if s.fixed v then p else(v,p.2+1))
   rw[ft,eM];by_cases c:s.fixed v=true
   ·rw[iR c]at this⊢;omega
   ·rw[iQ c]at this⊢;simp only[]at this;omega
 have:=key l (0,0);unfold XR;simpa using this
theorem Q2.is {v:aF}{l:az}(h:Q2 X w v l):∃a c,v=.slice a l.length c:=by
 rcases h with⟨rfl,a,c,e⟩|⟨g,cap,cells,F,_⟩
 ·exact⟨a,c,e⟩
 ·exact⟨_,_,F⟩
theorem Ju (h:ZN w0 w X K s vT vS)(hn:K.vars.length<=8){vv:aF}{l:az}(hl:Q2 X w vv l)(hp:∀v∈l,YX K.vars.length v)(a7:l.length<=3000):aq 129 #[ai X.b,vv] w λe w'=>e=.returned (.tuple #[Y (XR s l).1,Y (XR s l).2])/\w'=w:=by
 obtain⟨va,vc,rfl⟩:=hl.is;have r6:=h.f6;have HH:=Z8 h;have HL:=Z8 hl;have HP:=Z8 hp;have ZR:=h.lt.1;have cg:=h.lt.2.2.2.1;clear h hl hp;go_enter func129,ntmps129;go_wp2
 go_loopw [4,5,10] (λvv vo vi wr=>∃i:Nat,i<=l.length/\vi=Y i/\vv=Y (XR s (l.take i)).1/\vo=Y (XR s (l.take i)).2/\wr=w) (λ_ _ vi _=>l.length-(intOf vi).toNat)
 case atStart=>exact⟨0,iz _,rfl,rfl,rfl,rfl⟩
 case round=>
  obtain⟨i,hi,rfl,rfl,rfl,Zf⟩:=hrel;subst wr;by_cases YK:i<l.length
  ·obtain⟨a,ha⟩:∃a,l[i]?=some a:=⟨l[i],aZ YK⟩;rcases HL.out with⟨e0,_⟩|⟨g,cap,cells,F,h2,h3,h4,h5⟩
   ·rw[e0]at YK;simp at YK
   obtain rfl:va=some (ah g):=by injection F
   have k0:ak w g i (Y a):=Z0 h2 i _ (h3 i a ha);have aa:=HP.out a (cq ha);obtain⟨_,k1,_,_⟩:=HH.out.K0 aa;have ba:=aa.1;have bh:=aa.2;have X8:(i:Int)<l.length:=J;have Xy:(0:Int)<=i:=J;have aP:Hid (XR s (l.take (i+1))=if s.fixed a then XR s (l.take i)else(a,(XR s (l.take i)).2+1)):=by
    rw[Hid,dX,ha];exact ale _ _ _
   obtain⟨o1,o2⟩:=alf s (l.take i);have o3:(XR s (l.take i)).2<=3000:=by have:=cY i l;omega
   clear aa o2 F h3 h5 ha;generalize XR s (l.take i)=anU at *;by_cases cf:s.fixed a=true
   ·rw[cf]at k1;go_wp2;go_roundw
    case rel=>exact⟨i+1,J,pQ,by rw[aP.out,iR cf],by rw[aP.out,iR cf],trivial⟩
    case measure=>simp[intOf];omega
   ·have bX:s.fixed a=false:=by simpa using cf
    rw[bX]at k1;go_wp2;go_roundw
    case rel=>exact⟨i+1,J,pQ,by rw[aP.out,iQ cf],by rw[aP.out,iQ cf],trivial⟩
    case measure=>simp[intOf];omega
  ·obtain rfl:i=l.length:=J;go_wp2
   go_ret2
   rw[bH (iw _)];exact⟨rfl,rfl⟩
theorem alg (s:SS)(l:List (Int×Int))(v:Int)(t:Int×Int):VV s (l++[t]) v=if t.1=v then((VV s l v).1+t.2,(VV s l v).2)else((VV s l v).1,(VV s l v).2+t.2*s.val t.1):=by simp[VV]
theorem Ff {D:Nat}(hD:D<2 ^ 2001):-1000<=WE D/\WE D<=1000:=by
 unfold WE
 cases e:WQ D with
 |nil=>simp
 |cons a l=>exact Hv hD vd
theorem ach {s:SS}{v:Int}(hs:∀u,s.L u<2 ^ 2001):∀(ts:List (Int×Int)),(∀p∈ts,-100<=p.2/\p.2<=100)->-100*(ts.length:Int)<=(VV s ts v).1/\(VV s ts v).1<=100*(ts.length:Int)/\-100000*(ts.length:Int)<=(VV s ts v).2/\(VV s ts v).2<=100000*(ts.length:Int):=by
 intro ts ht;have key:∀(ts:List (Int×Int)),(∀p∈ts,-100<=p.2/\p.2<=100)->∀(q:Int×Int),
   let r:=ts.foldl (λp t=>if t.1=v then(p.1+t.2,p.2)else(p.1,p.2+t.2*s.val t.1)) q
   q.1-100*(ts.length:Int)<=r.1/\r.1<=q.1+100*(ts.length:Int)/\q.2-100000*(ts.length:Int)<=r.2/\r.2<=q.2+100000*(ts.length:Int):=by
  intro ts
  induction ts with
  |nil=>intro _ q;simp
  |cons t ts ih=>
   intro ht q;have F:=ih (λp hp=>ht p (by simp[hp])) (if t.1=v then(q.1+t.2,q.2)else(q.1,q.2+t.2*s.val t.1))
   have h2:=ht t pG;have h3:=Ff (hs t.1);have h4:=FW h2.1 h2.2 h3.1 h3.2;simp only[ft,eM]at F⊢;have h5:t.2*s.val t.1=t.2*WE (s.L t.1):=rfl;by_cases c:t.1=v
   ·rw[iR c]at F⊢;simp only[]at F;omega
   ·rw[iQ c]at F⊢;simp only[]at F;omega
 have:=key ts ht (0,0);unfold VV;simp only[]at this;omega
theorem alh (h:ZN w0 w X K s vT vS)(hn:K.vars.length<=8)(hs:∀u,s.L u<2 ^ 2001){vt:aF}{gt ct:Nat}{ts:List (Int×Int)}(hT:YR w vt gt ct P7 ts)(ar:∀p∈ts,YX K.vars.length p.1/\-100<=p.2/\p.2<=100)(hl:ts.length<=8)(v:Int):aq 166 #[ai X.b,vt,Y v] w (au w (.tuple #[Y (VV s ts v).1,Y (VV s ts v).2])):=by
 have HT:=Z8 hT;have HH:=Z8 h;have a8:=Z8 ar;have Vm:=hT.lt;obtain rfl:=hT.is;clear hT h ar;go_enter func166,ntmps166;go_wp2
 go_loopw [6,7,12] (λvf vr vi wr=>∃i:Nat,i<=ts.length/\vi=Y i/\vf=Y (VV s (ts.take i) v).1/\vr=Y (VV s (ts.take i) v).2/\aB w wr) (λ_ _ vi _=>ts.length-(intOf vi).toNat)
 case atStart=>exact⟨0,iz _,rfl,rfl,rfl,WW _ _⟩
 case round=>
  obtain⟨i,hi,rfl,rfl,rfl,ZX⟩:=hrel;by_cases ZR:i<ts.length
  ·obtain⟨a,ha⟩:∃a,ts[i]?=some a:=⟨ts[i],by simp[ZR]⟩;obtain⟨hp,aI,WR⟩:=a8.out a (cq ha);have hR:=HT.out.kept ZX pG;have hA:=HH.out.grown ZX;have k0:ak wr gt (i*2) (Y a.1):=hR.at (sz:=2) (λ_=>rfl) ha 0 _ rfl
   have k1:ak wr gt (i*2+1) (Y a.2):=hR.at (sz:=2) (λ_=>rfl) ha 1 _ rfl
   have k2:=(hA.K0 hp).1;have r5:=hA.f5;have hb:=ach (v:=v) hs (ts.take i) (λp hp=>(a8.out p (cy hp)).2)
   have aP:Hid (VV s (ts.take (i+1)) v=if a.1=v then((VV s (ts.take i) v).1+a.2,(VV s (ts.take i) v).2)else((VV s (ts.take i) v).1,(VV s (ts.take i) v).2+a.2*s.val a.1)):=by
    rw[Hid,dX,ha];exact alg _ _ _ _
   have hx:-1000<=s.val a.1/\s.val a.1<=1000:=Ff (hs a.1);have hm:=FW aI WR hx.1 hx.2;have aH:((ts.take i).length:Int)<=8:=by have:=cY i ts;omega
   have ba:=hp.1;have bh:=hp.2;have X8:(i:Int)<ts.length:=J;have Xy:(0:Int)<=i:=J;have Po:=hA.lt.1;have aV:=hA.lt.2.2.1;obtain⟨a1,a2⟩:=a;simp only at *;generalize VV s (ts.take i) v=anU at *;generalize s.val a1=anR at *;have o1:-800<=anU.1:=J;have o2:anU.1<=800:=J;have o3:-800000<=anU.2:=J;have o4:anU.2<=800000:=J;have bq:=hm.1;have Sm:=hm.2;have WG:=hx.1;have WH:=hx.2;have Zm:=Z8 ZX;clear hR hA ZX hb aH hp ha hm hx;by_cases cv:a1=v
   ·have dm:(a1==v)=true:=by simpa using cv
    go_wp2;go_roundw
    case rel=>exact⟨i+1,J,pQ,by rw[aP.out,iR cv],by rw[aP.out,iR cv],Zm.out.trans (di _ _ _)⟩
    case measure=>simp[intOf];omega
   ·have dm:(a1==v)=false:=by simpa using cv
    go_wp2;go_quiet (fail);go_wp2;go_roundw
    case rel=>exact⟨i+1,J,pQ,by rw[aP.out,iQ cv],by rw[aP.out,iQ cv],(Zm.out.trans (di _ _ _)).trans (XN _ _ _)⟩
    case measure=>simp[intOf];omega
  ·obtain rfl:i=ts.length:=J;go_wp2
   go_ret2
   rw[bH (iw _)];exact⟨rfl,ZX⟩
structure DC (D:Nat)(c:ay):Prop where
 is:c=dL D
theorem dc (D:Nat):∃c,DC D c:=⟨dL D,⟨rfl⟩⟩
theorem DC.len {D:Nat}{c:ay}(h:DC D c):c.length=32:=by rw[h.is];exact QK D
theorem DC.one {D:Nat}{c:ay}(h:DC D c):∀v∈c,v.oneCell'=true:=by rw[h.is];exact zY D
theorem DC.info {D:Nat}{c:ay}(h:DC D c):(prog.info? 161).map (·.size)=some c.length:=by rw[h.is];exact acg D
theorem DC.Oi {D:Nat}{c:ay}(h:DC D c):(prog.info? 161).map (·.size)=some c.toArray.size:=by rw[dW];exact h.info
theorem DC.Mr {D:Nat}{c:ay}(h:DC D c):c.toArray.all (·.oneCell')=true:=all_oneCell_toArray h.one
theorem C6 {D:Nat}{c:ay}(h:DC D c)(v:Int)(F:-1000<=v)(h2:v<=1000)(w:A):aq 169 #[.agg c.toArray,Y v] w (au w (.bool (Xp D v))):=by
 rw[h.is,<-SQ];exact aiT D v F h2 w
theorem aci {D:Nat}{c r:ay}{v:Int}(h:DC D c)(hr:DC (D ||| Zu v) r)(F:-1000<=v)(h2:v<=1000)(w:A):aq 170 #[.agg c.toArray,Y v] w (au w (.agg r.toArray)):=by
 rw[h.is,hr.is,<-SQ,<-SQ];exact aaH D v F h2 w
theorem zX {r:ay}{v:Int}(hr:DC (Zu v) r)(F:-1000<=v)(h2:v<=1000)(w:A):aq 138 #[Y v] w (au w (.agg r.toArray)):=by
 rw[hr.is,<-SQ];exact aaI v F h2 w
theorem Fe {D E:Nat}{c d r:ay}(h:DC D c)(k:DC E d)(hr:DC (D &&& E) r)(w:A):aq 171 #[.agg c.toArray,.agg d.toArray] w (au w (.agg r.toArray)):=by
 rw[h.is,k.is,hr.is,<-SQ,<-SQ,<-SQ];exact aiZ D E w
theorem zV {D E:Nat}{c d r:ay}(h:DC D c)(k:DC E d)(hr:DC (TG D E) r)(w:A):aq 198 #[.agg c.toArray,.agg d.toArray] w (au w (.agg r.toArray)):=by
 rw[h.is,k.is,hr.is,<-SQ,<-SQ,<-SQ];exact ai0 D E w
theorem ali {D:Nat}{c:ay}(h:DC D c)(w:A):aq 177 #[.agg c.toArray] w (au w (Y (VC D:Nat))):=by
 rw[h.is,<-SQ];exact akr D w
theorem Hm {f n:Int}{r:ay}(hr:DC (Wn f n) r)(g1:-1000000000<=f)(g2:f<=1000000000)(F:-100000000000<=n)(h2:n<=100000000000)(w:A):aq 197 #[Y f,Y n] w (au w (.agg r.toArray)):=by
 rw[hr.is,<-SQ];exact akH f n g1 g2 F h2 w
theorem zT {D:Nat}{c:ay}(hc:DC D c)(h:ZN w0 w X K s vT vS)(hn:K.vars.length<=8){v:Int}(hv:YX K.vars.length v)(hD:D<2 ^ 2001):aq 82 #[ai X.b,Y v,.agg c.toArray] w λe w'=>e=.returned (.tuple #[])/\ZN w0 w' X K (Mu v D s) vT vS/\Zy X w w':=by
 rw[hc.is];exact ald h hn hv hD
structure WC (w:A)(b:Nat)(c:ay):Prop where
 at_:w.heap[b]?=some (.cells c.toArray 161 (0,0))
 len:c.length=32
theorem WC.range {b:Nat}{c:ay}(h:WC w b c):w.rangeAt b 0 c:=λj u hu=>by rw[ik];exact Z0 h.at_ j u ub
theorem WC.there {b:Nat}{c:ay}(h:WC w b c):w.there b 0 32:=λj hj=>by
 refine⟨?_,Zz h.at_ _⟩;have:j<c.length:=by rw[h.len];exact hj
 rw[ik,Z0 h.at_ j (c[j]) (by simp[this])];rfl
theorem WC.store {b:Nat}{c r:ay}(h:WC w b c)(hr:r.length=32):WC (w.setCells b 0 r) b r:=by
 obtain⟨a,F,h2,h3,h4⟩:=Fh r 0 w _ h.at_;refine⟨?_,hr⟩;rw[F];have:a=r.toArray:=by
  apply dp;intro j;by_cases hj:j<32
  ·have:=h3 j J (by simp[h.len,hj]);rw[ik]at this;rw[this];simp
  ·rw[bD (by rw[h2];simp[h.len];omega),bD (by simp[hr];omega)]
 rw[this]
theorem WC.kept {b:Nat}{c:ay}(h:WC w b c)(z:aB w w'):WC w' b c:=⟨(z.block b (YY h.at_) pG).trans h.at_,h.len⟩
theorem WC.YQ {b g:Nat}{c:ay}(h:WC w b c)(z:w.grownBy w' (some g))(hn:b≠g):WC w' b c:=⟨(z.block b (YY h.at_) (λe=>hn (fO e))).trans h.at_,h.len⟩
theorem WC.new (w:A){c:ay}(h:c.length=32):WC (w.alloc (.cells c.toArray 161)) w.heap.size c:=⟨gp w _,h⟩
theorem WC.Jt {b:Nat}{c:ay}(h:WC w b c)(hf:Zy X w w')(hn:b∉X.own):WC w' b c:=⟨hf.block b _ h.at_ hn (λ_ _ e=>pL) (λ_ _ e=>pL),h.len⟩
def PA (p:aF):Sem aF:=Instr.loadAt 161 p
def Hl (p v:aF):Sem Unit:=Instr.storeAt 161 p v
theorem Pz (p:aF):Instr.loadAt 161 p=PA p:=rfl
theorem Py (p v:aF):Instr.storeAt 161 p v=Hl p v:=rfl
theorem Tf {b o:Nat}{c:ay}(h:w.rangeAt b o c)(hl:c.length=32):Sem.run prog (PA (.pointer (some (O b o)))) w=.ok (.agg c.toArray) w:=
 run_loadAt_mid w b o 161 c _ h Rt rfl (by rw[hl];exact DG)
theorem zS {b o:Nat}{c:ay}(h:w.there b o 32)(hl:c.length=32)(F:∀v∈c,v.oneCell'=true):Sem.run prog (Hl (.pointer (some (O b o))) (.agg c.toArray)) w=.ok () (w.setCells b o c):=
 run_storeAt_mid w b o 161 c.toArray (by rw[dW,hl];exact h) (by rw[dW,hl];exact DG) (all_oneCell_toArray F)
structure Oh (w:A)(P:Nat)(c m:ay)(W:A):Prop where
 g:aB w W
 b0:WC W w.heap.size c
 b1:∃anZ,WC W (w.heap.size+1) anZ
 b2:WC W P m
 hp:w.heap.size+2<=P
theorem Oh.kept {P:Nat}{c m:ay}{W W':A}(h:Oh w P c m W)(z:aB W W'):Oh w P c m W':=by
 obtain⟨anZ,hz⟩:=h.b1;exact⟨h.g.trans z,h.b0.kept z,⟨anZ,hz.kept z⟩,h.b2.kept z,h.hp⟩
theorem Oh.store {P:Nat}{c m r:ay}{W:A}(h:Oh w P c m W)(hr:r.length=32):Oh w P c r (W.setCells P 0 r):=by
 have gs:=Qm W P 0 r;have:=h.hp;obtain⟨anZ,hz⟩:=h.b1;exact⟨Up h.g J gs,h.b0.YQ gs J,⟨anZ,hz.YQ gs J⟩,h.b2.store hr,h.hp⟩
theorem Oh.done {P:Nat}{c m r:ay}{W:A}(h:Oh w P c m W)(hr:r.length=32):w.grownBy (W.setCells (w.heap.size+1) 0 r) none/\WC (W.setCells (w.heap.size+1) 0 r) (w.heap.size+1) r:=by
 obtain⟨anZ,hz⟩:=h.b1;exact⟨Up h.g J (Qm W (w.heap.size+1) 0 r),hz.store hr⟩
theorem C5 {c m anZ:ay}{w1:A}{anV:Array aF}(hc:c.length=32)(hm:m.length=32)(hz:anV=anZ.toArray)(af:anZ.length=32)(z:((w.alloc (.cells c.toArray 161)).alloc (.cells anV 161)).grownBy w1 none):Oh w w1.heap.size c m (w1.alloc (.cells m.toArray 161)):=by
 have hs:=z.size;simp at hs;subst hz;have b0:WC ((w.alloc (.cells c.toArray 161)).alloc (.cells anZ.toArray 161)) w.heap.size c:=⟨(gq _ _ pG).trans (gp w _),hc⟩;have b1:WC ((w.alloc (.cells c.toArray 161)).alloc (.cells anZ.toArray 161)) (w.heap.size+1) anZ:=by
  have q:=gp (w.alloc (.cells c.toArray 161)) (.cells anZ.toArray 161);exact⟨qE,af⟩
 exact⟨((((di _ _ _).trans (di _ _ _)).trans z).trans (di _ _ _)),(b0.kept z).kept (di _ _ _),⟨anZ,(b1.kept z).kept (di _ _ _)⟩,WC.new w1 hm,J⟩
theorem Mp:(dL 0).toArray=#[.int .u64 0,.int .u64 0,.int .u64 0,.int .u64 0,.int .u64 0,.int .u64 0,.int .u64 0,.int .u64 0,.int .u64 0,.int .u64 0,.int .u64 0,.int .u64 0,.int .u64 0,.int .u64 0,.int .u64 0,.int .u64 0,.int .u64 0,.int .u64 0,.int .u64 0,.int .u64 0,.int .u64 0,.int .u64 0,.int .u64 0,.int .u64 0,.int .u64 0,.int .u64 0,.int .u64 0,.int .u64 0,.int .u64 0,.int .u64 0,.int .u64 0,.int .u64 0]:=by rw[<-SQ];exact Ig
theorem alj (D:Nat)(f n:Int)(t:Bool){cD cR:ay}(hD:DC D cD)(hR:DC (TE D f 2 n t) cR)(g1:-1000000000<=f)(g2:f<=1000000000)(F:-100000000000<=n)(h2:n<=100000000000)(w:A):aq 168 #[.agg cD.toArray,Y f,Y 2,Y n,.bool t] w (au w (.agg cR.toArray)):=by
 obtain⟨cM,hM⟩:=dc (Wn f n)
 cases t with
 |true=>
  have HR:TE D f 2 n true=D &&& Wn f n:=rq;rw[HR]at hR;have KT:=ZQ.mk (λW=>Fe hD hM hR W)
  clear HR;have K1:=ZQ.mk (λW=>Hm hM g1 g2 F h2 W)
  have Js:=hM.Oi;have Jr:=hM.Mr;have Fc:=hM.info;have OP:=hM.len;have ER:cM.toArray.size=32:=uj;have Jq:=hD.len;have Jp:=hD.info;have Og:=hR.Oi;have Jo:=hR.Mr;have RX:=hR.len;have ES:cR.toArray.size=32:=uk;have RZ:=Rt;clear hM hD hR;go_enter func168,ntmps168;go_wp2_with (first|(refine wpList_store_mid rfl 161 _ _ rfl (w.heap.size+1) 0 cR.toArray rfl rfl Jn Og Jo ?_)|(go_at_call 171;refine(KT.get _).mono ?_;rintro e w5 ⟨rfl,Yo⟩;have Su:=HB.out.kept Yo;have Jn:w5.there (w.heap.size+1) 0 cR.toArray.size:=qw;obtain⟨q1,q2⟩:=Su.done RX)|(refine wpList_load_mid rfl 161 _ rfl w1.heap.size 0 rfl cM _ rm RZ rfl Fc ?_)|(refine wpList_load_mid rfl 161 _ rfl w.heap.size 0 rfl cD _ rd RZ rfl Jp ?_)|(refine MA rfl 161 _ _ rfl cM.toArray 161 _ rfl rfl Js uV Jr ?_)|(go_at_call 197;refine(K1.get _).mono ?_;rintro e w1 ⟨rfl,ZZ⟩;have HB:=Z8 (C5 Jq OP Mp.symm (QK 0) ZZ);have rd:=HB.out.b0.range;have rm:=HB.out.b2.range))
  refine iq (fg rfl _ _ (w.heap.size+1) 161 cR.toArray (0,0) _ rfl q2.at_ RZ rfl Og) rfl ?_;exact⟨rfl,q1⟩
 |false=>
  have HR:TE D f 2 n false=TG D (Wn f n):=rq;rw[HR]at hR;have KT:=ZQ.mk (λW=>zV hD hM hR W)
  clear HR;have K1:=ZQ.mk (λW=>Hm hM g1 g2 F h2 W)
  have Js:=hM.Oi;have Jr:=hM.Mr;have Fc:=hM.info;have OP:=hM.len;have ER:cM.toArray.size=32:=uj;have Jq:=hD.len;have Jp:=hD.info;have Og:=hR.Oi;have Jo:=hR.Mr;have RX:=hR.len;have ES:cR.toArray.size=32:=uk;have RZ:=Rt;clear hM hD hR;go_enter func168,ntmps168;go_wp2_with (first|(refine wpList_store_mid rfl 161 _ _ rfl (w.heap.size+1) 0 cR.toArray rfl rfl Jn Og Jo ?_)|(go_at_call 198;refine(KT.get _).mono ?_;rintro e w5 ⟨rfl,Yo⟩;have Su:=HB.out.kept Yo;have Jn:w5.there (w.heap.size+1) 0 cR.toArray.size:=qw;obtain⟨q1,q2⟩:=Su.done RX)|(refine wpList_load_mid rfl 161 _ rfl w1.heap.size 0 rfl cM _ rm RZ rfl Fc ?_)|(refine wpList_load_mid rfl 161 _ rfl w.heap.size 0 rfl cD _ rd RZ rfl Jp ?_)|(refine MA rfl 161 _ _ rfl cM.toArray 161 _ rfl rfl Js uV Jr ?_)|(go_at_call 197;refine(K1.get _).mono ?_;rintro e w1 ⟨rfl,ZZ⟩;have HB:=Z8 (C5 Jq OP Mp.symm (QK 0) ZZ);have rd:=HB.out.b0.range;have rm:=HB.out.b2.range))
  refine iq (fg rfl _ _ (w.heap.size+1) 161 cR.toArray (0,0) _ rfl q2.at_ RZ rfl Og) rfl ?_;exact⟨rfl,q1⟩
section
attribute [local go_sem ↓] Pz Py
variable {w0 w w' aW:A}{X:SL}{K:SK}{s:SS}{vT vS:aF}
theorem Pq {n:Int}(h0:-9223372036854775808<=n)(F:n<=9223372036854775807):IntKind.i64.wrap n=n:=by
 exact nC
def oH{P:Prop}(h:P:=by
 have q:=HB.out.kept ((ZG _ _).trans z);exact⟨Tf q.b2.range OP,zS q.b2.there Fb hSo,q.store Fb⟩):P:=h
def jm{P:Prop}(h:P:=by
 have LF:IntKind.i64.wrap (-f)=-f:=Pq J J;have hw2:IntKind.i64.wrap (-n)=-n:=Pq J J;obtain⟨cM,hM⟩:=dc (Wn f n);obtain⟨cN,hN⟩:=dc (Wn (-f) (-n));obtain⟨cS,hS⟩:=dc (Wn f n &&& Wn (-f) (-n));rw[HR]at hR;clear HR;have KT:=ZQ.mk (λW=>Fe hD hS hR W)
 have K3:=ZQ.mk (λW=>Fe hM hN hS W)
 have K2:=ZQ.mk (λW=>Hm hN J J J J W)
 have K1:=ZQ.mk (λW=>Hm hM g1 g2 F h2 W)
 have Js:=hM.Oi;have Jr:=hM.Mr;have Fc:=hM.info;have OP:=hM.len;have ER:cM.toArray.size=32:=uj;have Jq:=hD.len;have Jp:=hD.info;have Og:=hR.Oi;have Jo:=hR.Mr;have RX:=hR.len;have ES:cR.toArray.size=32:=uk;have hSi:=hS.Oi;have zR:=hS.info;have hSo:=hS.one;have Fb:=hS.len;have hSs:cS.toArray.size=32:=by rw[dW];exact Fb
 have RZ:=Rt;clear hM hD hR hN hS;go_enter func168,ntmps168;go_wp2_with (first|(refine MA rfl 161 _ _ rfl cM.toArray 161 _ rfl rfl Js uV Jr ?_)|(go_at_call 197;refine(K1.get _).mono ?_;rintro e w1 ⟨rfl,ZZ⟩))
 have HB:=Z8 (C5 Jq OP Mp.symm (QK 0) ZZ);obtain⟨P,hP⟩:∃P,P=w1.heap.size:=⟨_,rfl⟩;rw[<-hP]at HB⊢;generalize w1.alloc (.cells cM.toArray 161)=W at *;clear ZZ K1 hP;have zQ:=Tf (w:=W.drew) HB.out.b2.range OP;have HK:Hid (∀w4:A,W.drew.grownBy w4 none->Sem.run prog (PA (ai P)) w4=.ok (.agg cM.toArray) w4/\Sem.run prog (Hl (ai P) (.agg cS.toArray)) w4=.ok () (w4.setCells P 0 cS)/\Oh w P cD cS (w4.setCells P 0 cS)):=λw4 z=>by
  exact oH
 go_region_with (first|(go_at_call 171;refine(K3.get _).mono ?_;rintro e w4 ⟨rfl,Xr⟩;obtain⟨_,zP,Ra⟩:=HK.out w4 (ZJ.trans Xr))|(go_at_call 197;refine(K2.get _).mono ?_;rintro e w3 ⟨rfl,ZJ⟩;have rm3:=(HK.out w3 ZJ).1))
 all_goals
  have Nr:=Z8 Ra;have zO:=Nr.out.b0.range;have zN:=Nr.out.b2.range;clear Ra zP ZJ Xr K2 K3 zQ;go_wp2_with (first|(refine wpList_store_mid rfl 161 _ _ rfl (w.heap.size+1) 0 cR.toArray rfl rfl Jn Og Jo ?_)|(go_at_call 171;refine(KT.get _).mono ?_;rintro e w5 ⟨rfl,Yo⟩;have Su:=Nr.out.kept Yo;have Jn:w5.there (w.heap.size+1) 0 cR.toArray.size:=qw;obtain⟨q1,q2⟩:=Su.done RX)|(refine wpList_load_mid rfl 161 _ rfl P 0 rfl cS _ zN RZ rfl zR ?_)|(refine wpList_load_mid rfl 161 _ rfl w.heap.size 0 rfl cD _ zO RZ rfl Jp ?_))
  refine iq (fg rfl _ _ (w.heap.size+1) 161 cR.toArray (0,0) _ rfl q2.at_ RZ rfl Og) rfl ?_;exact⟨rfl,q1⟩):P:=h
theorem alk (D:Nat)(f n:Int){cD cR:ay}(hD:DC D cD)(hR:DC (TE D f 0 n true) cR)(g1:-1000000000<=f)(g2:f<=1000000000)(F:-100000000000<=n)(h2:n<=100000000000)(w:A):aq 168 #[.agg cD.toArray,Y f,Y 0,Y n,.bool true] w (au w (.agg cR.toArray)):=by
 have HR:TE D f 0 n true=D &&& (Wn f n &&& Wn (-f) (-n)):=rq;exact jm
def jl{P:Prop}(h:P:=by
 have LF:IntKind.i64.wrap (-f)=-f:=Pq J J;have hw2:IntKind.i64.wrap (-n)=-n:=Pq J J;obtain⟨cM,hM⟩:=dc (Wn f n);obtain⟨cN,hN⟩:=dc (Wn (-f) (-n));obtain⟨cS,hS⟩:=dc (Wn f n &&& Wn (-f) (-n));rw[HR]at hR;clear HR;have KT:=ZQ.mk (λW=>zV hD hS hR W)
 have K3:=ZQ.mk (λW=>Fe hM hN hS W)
 have K2:=ZQ.mk (λW=>Hm hN J J J J W)
 have K1:=ZQ.mk (λW=>Hm hM g1 g2 F h2 W)
 have Js:=hM.Oi;have Jr:=hM.Mr;have Fc:=hM.info;have OP:=hM.len;have ER:cM.toArray.size=32:=uj;have Jq:=hD.len;have Jp:=hD.info;have Og:=hR.Oi;have Jo:=hR.Mr;have RX:=hR.len;have ES:cR.toArray.size=32:=uk;have hSi:=hS.Oi;have zR:=hS.info;have hSo:=hS.one;have Fb:=hS.len;have hSs:cS.toArray.size=32:=by rw[dW];exact Fb
 have RZ:=Rt;clear hM hD hR hN hS;go_enter func168,ntmps168;go_wp2_with (first|(refine MA rfl 161 _ _ rfl cM.toArray 161 _ rfl rfl Js uV Jr ?_)|(go_at_call 197;refine(K1.get _).mono ?_;rintro e w1 ⟨rfl,ZZ⟩))
 have HB:=Z8 (C5 Jq OP Mp.symm (QK 0) ZZ);obtain⟨P,hP⟩:∃P,P=w1.heap.size:=⟨_,rfl⟩;rw[<-hP]at HB⊢;generalize w1.alloc (.cells cM.toArray 161)=W at *;clear ZZ K1 hP;have zQ:=Tf (w:=W.drew) HB.out.b2.range OP;have HK:Hid (∀w4:A,W.drew.grownBy w4 none->Sem.run prog (PA (ai P)) w4=.ok (.agg cM.toArray) w4/\Sem.run prog (Hl (ai P) (.agg cS.toArray)) w4=.ok () (w4.setCells P 0 cS)/\Oh w P cD cS (w4.setCells P 0 cS)):=λw4 z=>by
  exact oH
 go_region_with (first|(go_at_call 171;refine(K3.get _).mono ?_;rintro e w4 ⟨rfl,Xr⟩;obtain⟨_,zP,Ra⟩:=HK.out w4 (ZJ.trans Xr))|(go_at_call 197;refine(K2.get _).mono ?_;rintro e w3 ⟨rfl,ZJ⟩;have rm3:=(HK.out w3 ZJ).1))
 all_goals
  have Nr:=Z8 Ra;have zO:=Nr.out.b0.range;have zN:=Nr.out.b2.range;clear Ra zP ZJ Xr K2 K3 zQ;go_wp2_with (first|(refine wpList_store_mid rfl 161 _ _ rfl (w.heap.size+1) 0 cR.toArray rfl rfl Jn Og Jo ?_)|(go_at_call 198;refine(KT.get _).mono ?_;rintro e w5 ⟨rfl,Yo⟩;have Su:=Nr.out.kept Yo;have Jn:w5.there (w.heap.size+1) 0 cR.toArray.size:=qw;obtain⟨q1,q2⟩:=Su.done RX)|(refine wpList_load_mid rfl 161 _ rfl P 0 rfl cS _ zN RZ rfl zR ?_)|(refine wpList_load_mid rfl 161 _ rfl w.heap.size 0 rfl cD _ zO RZ rfl Jp ?_))
  refine iq (fg rfl _ _ (w.heap.size+1) 161 cR.toArray (0,0) _ rfl q2.at_ RZ rfl Og) rfl ?_;exact⟨rfl,q1⟩):P:=h
theorem alm (D:Nat)(f n:Int){cD cR:ay}(hD:DC D cD)(hR:DC (TE D f 0 n false) cR)(g1:-1000000000<=f)(g2:f<=1000000000)(F:-100000000000<=n)(h2:n<=100000000000)(w:A):aq 168 #[.agg cD.toArray,Y f,Y 0,Y n,.bool false] w (au w (.agg cR.toArray)):=by
 have HR:TE D f 0 n false=TG D (Wn f n &&& Wn (-f) (-n)):=rq;exact jl
theorem aln (D:Nat)(f n:Int){cD cR:ay}(hD:DC D cD)(hR:DC (TE D f 1 n true) cR)(g1:-1000000000<=f)(g2:f<=1000000000)(F:-100000000000<=n)(h2:n<=100000000000)(w:A):aq 168 #[.agg cD.toArray,Y f,Y 1,Y n,.bool true] w (au w (.agg cR.toArray)):=by
 have HR:TE D f 1 n true=TG D (Wn f n &&& Wn (-f) (-n)):=rq;exact jl
theorem alo (D:Nat)(f n:Int){cD cR:ay}(hD:DC D cD)(hR:DC (TE D f 1 n false) cR)(g1:-1000000000<=f)(g2:f<=1000000000)(F:-100000000000<=n)(h2:n<=100000000000)(w:A):aq 168 #[.agg cD.toArray,Y f,Y 1,Y n,.bool false] w (au w (.agg cR.toArray)):=by
 have HR:TE D f 1 n false=D &&& (Wn f n &&& Wn (-f) (-n)):=rq;exact jm
theorem alp {D:Nat}{f rel n:Int}{t:Bool}{cD cR:ay}(hr:rel=0\/rel=1\/rel=2)(hD:DC D cD)(hR:DC (TE D f rel n t) cR)(g1:-1000000000<=f)(g2:f<=1000000000)(F:-100000000000<=n)(h2:n<=100000000000)(w:A):aq 168 #[.agg cD.toArray,Y f,Y rel,Y n,.bool t] w (au w (.agg cR.toArray)):=by
 rcases hr with rfl|rfl|rfl
 ·cases t with
  |true=>exact alk D f n hD hR g1 g2 F h2 w
  |false=>exact alm D f n hD hR g1 g2 F h2 w
 ·cases t with
  |true=>exact aln D f n hD hR g1 g2 F h2 w
  |false=>exact alo D f n hD hR g1 g2 F h2 w
 ·exact alj D f n t hD hR g1 g2 F h2 w
end
end Go.Proofs.YthpcbbnabnlanaaGreatDoor
