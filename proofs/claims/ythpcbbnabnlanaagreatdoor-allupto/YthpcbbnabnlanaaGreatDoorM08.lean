import Derived.Test.YthpcbbnabnlanaaGreatDoorM07
import Derived.Deep.QuietTactic
import Derived.BigQuiet
import Derived.Deep.RegionHeld3
import Derived.Deep.RegionLaw
import Derived.Deep.DeepMust
import Derived.Deep.LoopGhost
namespace Go.Proofs.YthpcbbnabnlanaaGreatDoor
set_option maxHeartbeats 4000000
set_option maxRecDepth 100000
open Go.Proofs.Tryz
open Go.RowKit
set_option linter.all false
theorem Cr (l:List ZY)(i:Nat)(t:ZY)(h:l[i]?=some t):(Wf l)[i*4]?=some (Y (Z6 t))/\(Wf l)[i*4+1]?=some (.string t.s)/\(Wf l)[i*4+2]?=some (Y (ZW t))/\(Wf l)[i*4+3]?=some (Y t.line):=by
 induction l generalizing i with
 |nil=>simp at h
 |cons a l ih=>
  cases i with
  |zero=>simp at h;subst h;simp[Wf,U6]
  |succ i=>
   have e:Wf (a::l)=[Y (Z6 a),.string a.s,Y (ZW a),Y a.line]++Wf l:=rfl;have h3:=ih i pX;have e1:(i+1)*4=i*4+4:=J;rw[e,e1];refine⟨?_,?_,?_,?_⟩
   ·exact mC
   ·rw[aO pG];have:=h3.2.1;simpa[show i*4+4+1-4=i*4+1 by omega]using this
   ·rw[aO pG];have:=h3.2.2.1;simpa[show i*4+4+2-4=i*4+2 by omega]using this
   ·rw[aO pG];have:=h3.2.2.2;simpa[show i*4+4+3-4=i*4+3 by omega]using this
structure Ps (w:A)(bp gt Z1:Nat)(U:List ZY)(st:ZK):Prop where
 c0:w.cell? (ah bp)=some (aj gt U.length Z1)
 c1:w.cell? (O bp 1)=some (Y st.1)
 c2:w.cell? (O bp 2)=some (Y st.2)
 f1:w.frozen? (O bp 1)=false
 f2:w.frozen? (O bp 2)=false
 lt:bp<w.heap.size
 row:∀j u,(Wf U)[j]?=some u->w.cell? (O gt j)=some u
 VG:gt<w.heap.size
 ne:gt≠bp
variable {w w':A}{bp gt Z1:Nat}{U:List ZY}{st:ZK}
theorem Ps.kept (h:Ps w bp gt Z1 U st){row:Option Nat}(z:w.grownBy w' row)(F:row≠some bp)(h2:row≠some gt):Ps w' bp gt Z1 U st where
 c0:=z.cell h.c0 (λe=>F e.symm)
 c1:=z.cell h.c1 (λe=>F e.symm)
 c2:=z.cell h.c2 (λe=>F e.symm)
 f1:=(bL (a:=(O bp 1)) (z.block bp h.lt (λe=>F e.symm))).trans h.f1
 f2:=(bL (a:=(O bp 2)) (z.block bp h.lt (λe=>F e.symm))).trans h.f2
 lt:=dH h.lt z.size
 row:=λj u hu=>z.cell (h.row j u hu) (λe=>h2 e.symm)
 VG:=dH h.VG z.size
 ne:=h.ne
theorem Ps.alloc (h:Ps w bp gt Z1 U st)(o:Obj):Ps (w.alloc o) bp gt Z1 U st:=h.kept (di w o none) pG pG
theorem Ps.drew (h:Ps w bp gt Z1 U st):Ps w.drew bp gt Z1 U st:=h.kept (ZG w none) pG pG
theorem TC (w:A)(b o:Nat)(u:aF)(b' o':Nat)(h:¬(b'=b/\o'=o)):(w.setCell (O b o) u).cell? (O b' o')=w.cell? (O b' o'):=by
 by_cases hb:b'=b
 ·subst hb;have ho:o'≠o:=λe=>h ⟨rfl,e⟩
  unfold World.cell? World.setCell;simp only[bM,iP]
  cases hq:w.heap[b']? with
  |none=>simp
  |some ob=>cases ob<;>simp[iO ho]
 ·exact cJ (dr _ _ _ _ hb)
theorem I7 (w:A)(b o:Nat)(u v:aF)(h:w.cell? (O b o)=some v):(w.setCell (O b o) u).cell? (O b o)=some u:=by
 unfold World.cell? at h⊢;unfold World.setCell;simp only[bM,iP]
 cases hq:w.heap[b]? with
 |none=>rw[hq]at h;simp at h
 |some ob=>
  rw[hq]at h
  cases ob with
  |cells c e f=>
   simp only[Option.isSome_none,dv,iK]at h;have ZR:o<c.size:=by
    rcases ib o c.size with q|q
    ·exact q
    ·simp[q]at h
   simp[ZR]
  |_=>simp at h
theorem S9 (w:A)(b o:Nat)(u:aF)(b' o':Nat):(w.setCell (O b o) u).frozen? (O b' o')=w.frozen? (O b' o'):=by
 by_cases hb:b'=b
 ·subst hb;unfold World.frozen? World.setCell;simp only[bM,iP]
  cases hq:w.heap[b']? with
  |none=>simp
  |some ob=>cases ob<;>simp
 ·exact bL (dr _ _ _ _ hb)
theorem Ps.Wv (h:Ps w bp gt Z1 U st)(j:Nat):Ps (w.setCell (O bp 1) (Y j)) bp gt Z1 U (j,st.2) where
 c0:=(TC _ _ _ _ _ _ pG).trans h.c0
 c1:=I7 _ _ _ _ _ h.c1
 c2:=(TC _ _ _ _ _ _ pG).trans h.c2
 f1:=(S9 _ _ _ _ _ _).trans h.f1
 f2:=(S9 _ _ _ _ _ _).trans h.f2
 lt:=dH h.lt (ZC _ _ _ _).size
 row:=λj u hu=>(TC _ _ _ _ _ _ (λe=>h.ne e.1)).trans (h.row j u hu)
 VG:=dH h.VG (ZC _ _ _ _).size
 ne:=h.ne
theorem Ps.ael (h:Ps w bp gt Z1 U st)(l:Int):Ps (w.setCell (O bp 2) (Y l)) bp gt Z1 U (st.1,l) where
 c0:=(TC _ _ _ _ _ _ pG).trans h.c0
 c1:=(TC _ _ _ _ _ _ pG).trans h.c1
 c2:=I7 _ _ _ _ _ h.c2
 f1:=(S9 _ _ _ _ _ _).trans h.f1
 f2:=(S9 _ _ _ _ _ _).trans h.f2
 lt:=dH h.lt (ZC _ _ _ _).size
 row:=λj u hu=>(TC _ _ _ _ _ _ (λe=>h.ne e.1)).trans (h.row j u hu)
 VG:=dH h.VG (ZC _ _ _ _).size
 ne:=h.ne
def Rg:az->Int->Nat->Int
 |[],_,_=>-1
 |a::l,x,k=>if x==a then(k:Int)else Rg l x (k+1)
theorem aem (l:az)(x:Int):∀k:Nat,(0<=Rg l x k)↔l.contains x=true:=by
 induction l with
 |nil=>intro k;simp[Rg]
 |cons a l ih=>
  intro k;have e:Rg (a::l) x k=if x==a then(k:Int)else Rg l x (k+1):=rfl
  rw[e,List.contains_cons];by_cases h:(x==a)=true
  ·rw[iR h,h];simp
  ·rw[iQ h,ih (k+1)];simp at h;simp[h]
def nI{P:Prop}(h:P:=by
 go_wp2;go_ret;exact⟨QX he.out.symm,rfl⟩):P:=h
theorem ye (l:az)(x:Int)(g cap:Nat)(w:A)(hl:l.length<=100)(Yl:∀j a,l[j]?=some a->ak w g j (Y a)):aq 148 #[aj g l.length cap,Y x] w λe w'=>e=.returned (Y (Rg l x 0))/\w'=w:=by
 have HR:Hid (∀j a,l[j]?=some a->ak w g j (Y a)):=Yl;clear Yl;go_enter func148,ntmps148;go_wp2
 go_loop [8] (λv=>∃k:Nat,k<=l.length/\v=Y k/\Hid (Rg (l.drop k) x k=Rg l x 0)) (λv=>l.length-(intOf v).toNat)
 case atStart=>exact⟨0,J,rfl,rfl⟩
 case round=>
  obtain⟨k,I,rfl,hx⟩:=hrel;by_cases ZR:k<l.length
  ·have hc:ak w g k (Y l[k]):=HR.out k _ (by simp[ZR]);have WH:=hx.out;rw[aR ZR]at WH;simp only[Rg]at WH;by_cases e:(x==l[k])=true
   ·have he:Hid (Rg l x 0=k):=by rw[<-WH,iR e];trivial
    clear hx WH;exact nI
   ·have e':(x==l[k])=false:=by simpa using e
    have he:Hid (Rg (l.drop (k+1)) x (k+1)=Rg l x 0):=by rw[<-WH,iQ e];trivial
    clear hx WH e;go_wp2
    go_round
    case rel=>exact⟨k+1,J,pQ,he⟩
    case measure=>simp[intOf];omega
  ·obtain rfl:k=l.length:=J;have he:Hid (Rg l x 0=-1):=by rw[<-hx.out,bF (iw _)];rfl
   clear hx;exact nI
theorem yb (l:az)(x:Int)(g cap:Nat)(w:A)(hl:l.length<=100)(Yl:∀j a,l[j]?=some a->ak w g j (Y a)):aq 120 #[aj g l.length cap,Y x] w λe w'=>e=.returned (.bool (l.contains x))/\w'=w:=by
 have HR:Hid (∀j a,l[j]?=some a->ak w g j (Y a)):=Yl;have hh:=aem l x 0;clear Yl
 cases hc:l.contains x with
 |true=>
  have h0:0<=Rg l x 0:=hh.2 hc;clear hh hc;go_enter func120,ntmps120;go_wp2_with (go_at_call 148;refine(ye l x g cap _ hl HR.out).mono ?_;rintro e w' ⟨rfl,Zf⟩;subst w');go_ret;exact⟨G6 pG,rfl⟩
 |false=>
  have h0:Rg l x 0<0:=by
   rcases Int.lt_or_le (Rg l x 0) 0 with q|q
   ·exact q
   ·rw[hh.1 q]at hc;exact absurd hc pG
  clear hh hc;go_enter func120,ntmps120;go_wp2_with (go_at_call 148;refine(ye l x g cap _ hl HR.out).mono ?_;rintro e w' ⟨rfl,Zf⟩;subst w');go_ret;exact⟨G6 qb,rfl⟩
theorem adv (w:A)(anY B:Obj)(k:Nat)(I:k=w.heap.size):((w.alloc anY).alloc B).heap[k]?=some anY:=by rw[I];exact fS w anY B
theorem Ps.tok (h:Ps w bp gt Z1 U st){i:Nat}(hi:i<U.length):w.cell? (O gt (i*4))=some (Y (Z6 (ZT U i)))/\w.cell? (O gt (i*4+1))=some (.string (ZT U i).s)/\w.cell? (O gt (i*4+2))=some (Y (ZW (ZT U i)))/\w.cell? (O gt (i*4+3))=some (Y (ZT U i).line):=by
 obtain⟨a,b,c,d⟩:=Cr U i _ (Cs hi);exact⟨h.row _ _ a,h.row _ _ b,h.row _ _ c,h.row _ _ d⟩
def lN{P:Prop}(h:P:=by
 clear hS hf;go_enter func67,ntmps67;go_wp2;go_quiet (fail);go_wp2;go_ret;exact⟨by rw[hp.out];rfl,XN _ _ _⟩):P:=h
theorem OO (h:Ps w bp gt Z1 U st)(hn:U.length<=2001)(hi:st.1<U.length)(sort:Int):aq 67 #[ai bp,Y sort] w (au w (.bool (XZ U sort st))):=by
 obtain⟨i,fl⟩:=st;obtain⟨t0,_,_,_⟩:=h.tok hi;obtain⟨c0,c1,c2,_,_,_,_,_,_⟩:=h;simp only at c1 c2 hi t0;obtain⟨S,hS⟩:∃S,S=Z6 (ZT U i):=⟨_,rfl⟩;rw[<-hS]at t0;have N4:(i:Int)<U.length:=J;have h0:(0:Int)<=(i:Int):=J;by_cases hf:fl=0
 ·have hb:(fl==0)=true:=by simpa using hf
  have hp:Hid (XZ U sort (i,fl)=(S==sort)):=by unfold Hid XZ;rw[hS];simp[hf]
  exact lN
 ·have hb:(fl==0)=false:=by simpa using hf
  have hp:Hid (XZ U sort (i,fl)=false):=by unfold Hid XZ;simp[hf]
  exact lN
def XM (t:ZY):aF:=.agg #[Y (Z6 t),.string t.s,Y (ZW t),Y t.line]
theorem Qc (h:Ps w bp gt Z1 U st)(hn:U.length<=2001)(hi:st.1<U.length)(av:az)(g cap:Nat)(hl:av.length<=100)(Yl:∀j a,av[j]?=some a->ak w g j (Y a))(UB:g<w.heap.size):aq 69 #[ai bp,aj g av.length cap] w λe w'=>e=.returned (XM (ZT U st.1))/\w.grownBy w' (some bp)/\Ps w' bp gt Z1 U (ZM U av st):=by
 obtain⟨i,fl⟩:=st;have HP:Hid (Ps w bp gt Z1 U (i,fl)):=h;obtain⟨t0,t1,t2,t3⟩:=h.tok hi;obtain⟨c0,c1,c2,f1,f2,_,_,_,_⟩:=h;simp only at c1 c2 hi t0 t1 t2 t3⊢;have HR:Hid (∀j a,av[j]?=some a->ak w g j (Y a)):=Yl;clear Yl;have HT:Hid (ZM U av (i,fl)=if fl=0 then(if av.contains (Z6 (ZT U i))then(i+1,0)else(i,((ZT U i).line:Int)))else(i,fl)):=rfl
 obtain⟨T,hT⟩:∃T,T=ZT U i:=⟨_,rfl⟩;rw[<-hT]at t0 t1 t2 t3 HT⊢;clear hT;have N4:(i:Int)<U.length:=J;have h0:(0:Int)<=(i:Int):=J;go_enter func69,ntmps69;go_wp2;go_region_held3 (λw'=>w'.cell? (ah bp)=some (aj gt U.length Z1)/\w'.cell? (O bp 1)=some (Y i)/\w'.cell? (O gt (i*4))=some (Y (Z6 T))/\w'.cell? (O gt (i*4+1))=some (.string T.s)/\w'.cell? (O gt (i*4+2))=some (Y (ZW T))/\w'.cell? (O gt (i*4+3))=some (Y T.line)) (go_keep) (fail)
 by_cases hf:fl=0
 ·subst hf;by_cases hc:av.contains (Z6 T)=true
  ·have hT:Hid (ZM U av (i,0)=(i+1,0)):=by rw[Hid,HT.out,iR rfl,iR hc]
   go_wp2_with (go_at_call 120;refine(yb av (Z6 T) g cap _ hl (λj a ha=>(((di w _ none).trans (di _ _ none)).trans (ZG _ none)).cell (HR.out j a ha) pG)).mono ?_;rw[hc];rintro e w' ⟨rfl,Zf⟩;subst w')
   refine iq (fg rfl _ _ w.heap.size 129 _ _ _ rfl rE underlying129 rfl pH) rfl ?_;rw[hT.out];exact⟨rfl,(((ZC w bp 1 _).trans (di _ _ _)).trans (di _ _ _)).trans (ZG _ _),(((HP.out.Wv (i+1)).alloc _).alloc _).drew⟩
  ·have bo:av.contains (Z6 T)=false:=qy;have hT:Hid (ZM U av (i,0)=(i,(T.line:Int))):=by rw[Hid,HT.out,iR rfl,iQ hc]
   go_wp2_with (go_at_call 120;refine(yb av (Z6 T) g cap _ hl (λj a ha=>(((di w _ none).trans (di _ _ none)).trans (ZG _ none)).cell (HR.out j a ha) pG)).mono ?_;rw[bo];rintro e w' ⟨rfl,Zf⟩;subst w')
   refine iq (fg rfl _ _ w.heap.size 129 _ _ _ rfl rE underlying129 rfl pH) rfl ?_;rw[hT.out];exact⟨rfl,(((ZC w bp 2 _).trans (di _ _ _)).trans (di _ _ _)).trans (ZG _ _),(((HP.out.ael _).alloc _).alloc _).drew⟩
 ·have aZ:(fl != 0)=true:=by simpa using hf
  have hT:Hid (ZM U av (i,fl)=(i,fl)):=by rw[Hid,HT.out,iQ hf]
  go_wp2;refine iq (fg rfl _ _ w.heap.size 129 _ _ _ rfl rE underlying129 rfl pH) rfl ?_;rw[hT.out];exact⟨rfl,((di w _ _).trans (di _ _ _)).trans (ZG _ _),((HP.out.alloc _).alloc _).drew⟩
theorem Qb {w:A}{b:Nat}(l:az){t:TypeId}(h:w.heap[b]?=some (.cells (l.map (λx=>Y x)).toArray t (0,0))):∀j a,l[j]?=some a->w.cell? (O b j)=some (Y a):=by
 intro j a ha;exact Z0 h j _ tS
theorem x9 {W w':A}{b:Nat}{t:TypeId}{row:Option Nat}{a0 a1 a2 a3:aF}(hB:W.heap[b]?=some (.cells #[a0,a1,a2,a3] t (0,0)))(hb:b<W.heap.size)(z:W.grownBy w' row)(ZP:row≠some b):w'.heap[b]?=some (.cells #[a0,a1,a2,a3] t (0,0))/\w'.cell? (ah b)=some a0/\w'.cell? (O b 1)=some a1/\w'.cell? (O b 2)=some a2/\w'.cell? (O b 3)=some a3/\
   w'.frozen? (ah b)=false/\w'.frozen? (O b 1)=false/\w'.frozen? (O b 2)=false/\w'.frozen? (O b 3)=false:=by
 have h:=(z.block b hb (λe=>ZP e.symm)).trans hB
 exact lJ
theorem Up {a b c:A}{k:Nat}{r:Option Nat}(h:a.grownBy b r)(I:a.heap.size<=k)(g:b.grownBy c (some k)):a.grownBy c r:=
 ⟨g.os.trans h.os,g.tape.trans h.tape,g.output.trans h.output,gZ h.size g.size,λi hi hn=>
  (g.block i (dH hi h.size) (λe=>by injection e with e;omega)).trans (h.block i hi hn)⟩
theorem Ps.new (h:Ps w bp gt Z1 U st){w1 w2:A}(F:Ps w1 bp gt Z1 U st){k:Nat}(I:w.heap.size<=k)(g:w1.grownBy w2 (some k)):Ps w2 bp gt Z1 U st:=by
 have:=h.lt;have:=h.VG;exact F.kept g pI pI
theorem Ps.EE {S:ZK}(h:Ps w bp gt Z1 U S){w1 w2:A}{st:ZK}(F:Ps w1 bp gt Z1 U st){k:Nat}(I:w.heap.size<=k)(g:w1.grownBy w2 (some k)):Ps w2 bp gt Z1 U st:=by
 have:=h.lt;have:=h.VG;exact F.kept g pI pI
def kA{P:Prop}(h:P:=by
 refine iq (fg rfl _ _ w.heap.size 129 _ _ _ rfl (N0 hB _ _ _ _) underlying129 rfl pH) rfl ?_;exact⟨rfl,Up (((di w _ _).trans (di _ _ _)).trans z) (iw _) (EH w1 _ _ _ _ _),HP.out.EE XA (iw _) (EH w1 _ _ _ _ _)⟩):P:=h
theorem GX (h:Ps w bp gt Z1 U st)(hn:U.length<=2001)(hi:st.1<U.length):aq 114 #[ai bp] w λe w'=>e=.returned (XM (ZT U st.1))/\w.grownBy w' (some bp)/\Ps w' bp gt Z1 U (ZM U [2] st):=by
 have HP:Hid (Ps w bp gt Z1 U st):=h;have ZR:=h.lt;obtain⟨T,hT⟩:∃T,T=ZT U st.1:=⟨_,rfl⟩;have HT:Hid (T=ZT U st.1):=hT;rw[<-hT];clear h hT;go_enter func114,ntmps114;go_wp2_with (go_at_call 69;refine(Qc ((HP.out.alloc _).alloc _) hn hi [2] (w.heap.size+1) 1 pF (Qb [2] (fR w _ _)) pG).mono ?_;rw[<-HT.out];unfold XM;rintro e w1 ⟨rfl,z,XA⟩;obtain⟨hB,c0,c1,c2,c3,f0,f1,f2,f3⟩:=x9 (fS w _ _) pI z pI);exact kA
theorem Cq (h:Ps w bp gt Z1 U st)(hn:U.length<=2001)(hi:st.1<U.length):aq 115 #[ai bp] w λe w'=>e=.returned (XM (ZT U st.1))/\w.grownBy w' (some bp)/\Ps w' bp gt Z1 U (ZM U [3] st):=by
 have HP:Hid (Ps w bp gt Z1 U st):=h;have ZR:=h.lt;obtain⟨T,hT⟩:∃T,T=ZT U st.1:=⟨_,rfl⟩;have HT:Hid (T=ZT U st.1):=hT;rw[<-hT];clear h hT;go_enter func115,ntmps115;go_wp2_with (go_at_call 69;refine(Qc ((HP.out.alloc _).alloc _) hn hi [3] (w.heap.size+1) 1 pF (Qb [3] (fR w _ _)) pG).mono ?_;rw[<-HT.out];unfold XM;rintro e w1 ⟨rfl,z,XA⟩;obtain⟨hB,c0,c1,c2,c3,f0,f1,f2,f3⟩:=x9 (fS w _ _) pI z pI);exact kA
theorem YE {w:A}{b:Nat}{cs aw:Array aF}{t:TypeId}(h:w.heap[b]?=some (.cells cs t (0,0)))(i:Nat)(v:aF)(e:cs.setIfInBounds i v=aw):(w.setCell (O b i) v).heap[b]?=some (.cells aw t (0,0)):=by
 rw[<-e];exact eo w b i cs t v h
theorem x8 {w:A}{b:Nat}{t:TypeId}{a0 a1 a2 a3 a4 a5 a6 a7:aF}(h:w.heap[b]?=some (.cells #[a0,a1,a2,a3,a4,a5,a6,a7] t (0,0)))(v0 v1 v2 v3 v4 v5 v6 v7:aF):((((((((w.setCell (ah b) v0).setCell (O b 1) v1).setCell (O b 2) v2).setCell (O b 3) v3).setCell (O b 4) v4).setCell (O b 5) v5).setCell (O b 6) v6).setCell (O b 7) v7).heap[b]?=some (.cells #[v0,v1,v2,v3,v4,v5,v6,v7] t (0,0)):=by
 have F:=YE h 0 v0 (aw:=#[v0,a1,a2,a3,a4,a5,a6,a7]) rfl;have h2:=YE F 1 v1 (aw:=#[v0,v1,a2,a3,a4,a5,a6,a7]) rfl;have h3:=YE h2 2 v2 (aw:=#[v0,v1,v2,a3,a4,a5,a6,a7]) rfl;have h4:=YE h3 3 v3 (aw:=#[v0,v1,v2,v3,a4,a5,a6,a7]) rfl;have h5:=YE h4 4 v4 (aw:=#[v0,v1,v2,v3,v4,a5,a6,a7]) rfl;have h6:=YE h5 5 v5 (aw:=#[v0,v1,v2,v3,v4,v5,a6,a7]) rfl;have h7:=YE h6 6 v6 (aw:=#[v0,v1,v2,v3,v4,v5,v6,a7]) rfl;have h8:=YE h7 7 v7 (aw:=#[v0,v1,v2,v3,v4,v5,v6,v7]) rfl;exact h8
theorem x7 (w:A)(b:Nat)(v0 v1 v2 v3 v4 v5 v6 v7:aF):w.grownBy ((((((((w.setCell (ah b) v0).setCell (O b 1) v1).setCell (O b 2) v2).setCell (O b 3) v3).setCell (O b 4) v4).setCell (O b 5) v5).setCell (O b 6) v6).setCell (O b 7) v7) (some b):=
 (((((((ZC w b 0 v0).trans (ZC _ b 1 v1)).trans (ZC _ b 2 v2)).trans (ZC _ b 3 v3)).trans (ZC _ b 4 v4)).trans (ZC _ b 5 v5)).trans (ZC _ b 6 v6)).trans (ZC _ b 7 v7)
theorem x6 {W w':A}{b:Nat}{t:TypeId}{row:Option Nat}{a0 a1 a2 a3 a4 a5 a6 a7 a8:aF}(hB:W.heap[b]?=some (.cells #[a0,a1,a2,a3,a4,a5,a6,a7,a8] t (0,0)))(hb:b<W.heap.size)(z:W.grownBy w' row)(ZP:row≠some b):w'.heap[b]?=some (.cells #[a0,a1,a2,a3,a4,a5,a6,a7,a8] t (0,0))/\w'.cell? (ah b)=some a0/\w'.cell? (O b 1)=some a1/\w'.cell? (O b 2)=some a2/\w'.cell? (O b 3)=some a3/\w'.cell? (O b 4)=some a4/\w'.cell? (O b 5)=some a5/\w'.cell? (O b 6)=some a6/\w'.cell? (O b 7)=some a7/\w'.cell? (O b 8)=some a8/\
   w'.frozen? (ah b)=false/\w'.frozen? (O b 1)=false/\w'.frozen? (O b 2)=false/\w'.frozen? (O b 3)=false/\w'.frozen? (O b 4)=false/\w'.frozen? (O b 5)=false/\w'.frozen? (O b 6)=false/\w'.frozen? (O b 7)=false/\w'.frozen? (O b 8)=false:=by
 have h:=(z.block b hb (λe=>ZP e.symm)).trans hB
 exact⟨h,Z0 h 0 _ rfl,Z0 h 1 _ rfl,Z0 h 2 _ rfl,Z0 h 3 _ rfl,Z0 h 4 _ rfl,Z0 h 5 _ rfl,Z0 h 6 _ rfl,Z0 h 7 _ rfl,Z0 h 8 _ rfl,Zz h 0,Zz h 1,Zz h 2,Zz h 3,Zz h 4,Zz h 5,Zz h 6,Zz h 7,Zz h 8⟩
theorem x5 {w:A}{b:Nat}{t:TypeId}{a0 a1 a2 a3 a4 a5 a6 a7 a8:aF}(h:w.heap[b]?=some (.cells #[a0,a1,a2,a3,a4,a5,a6,a7,a8] t (0,0)))(v0 v1 v2 v3 v4 v5 v6 v7 v8:aF):(((((((((w.setCell (ah b) v0).setCell (O b 1) v1).setCell (O b 2) v2).setCell (O b 3) v3).setCell (O b 4) v4).setCell (O b 5) v5).setCell (O b 6) v6).setCell (O b 7) v7).setCell (O b 8) v8).heap[b]?=some (.cells #[v0,v1,v2,v3,v4,v5,v6,v7,v8] t (0,0)):=by
 have F:=YE h 0 v0 (aw:=#[v0,a1,a2,a3,a4,a5,a6,a7,a8]) rfl;have h2:=YE F 1 v1 (aw:=#[v0,v1,a2,a3,a4,a5,a6,a7,a8]) rfl;have h3:=YE h2 2 v2 (aw:=#[v0,v1,v2,a3,a4,a5,a6,a7,a8]) rfl;have h4:=YE h3 3 v3 (aw:=#[v0,v1,v2,v3,a4,a5,a6,a7,a8]) rfl;have h5:=YE h4 4 v4 (aw:=#[v0,v1,v2,v3,v4,a5,a6,a7,a8]) rfl;have h6:=YE h5 5 v5 (aw:=#[v0,v1,v2,v3,v4,v5,a6,a7,a8]) rfl;have h7:=YE h6 6 v6 (aw:=#[v0,v1,v2,v3,v4,v5,v6,a7,a8]) rfl;have h8:=YE h7 7 v7 (aw:=#[v0,v1,v2,v3,v4,v5,v6,v7,a8]) rfl;have h9:=YE h8 8 v8 (aw:=#[v0,v1,v2,v3,v4,v5,v6,v7,v8]) rfl;exact h9
theorem xZ (w:A)(b:Nat)(v0 v1 v2 v3 v4 v5 v6 v7 v8:aF):w.grownBy (((((((((w.setCell (ah b) v0).setCell (O b 1) v1).setCell (O b 2) v2).setCell (O b 3) v3).setCell (O b 4) v4).setCell (O b 5) v5).setCell (O b 6) v6).setCell (O b 7) v7).setCell (O b 8) v8) (some b):=
 ((((((((ZC w b 0 v0).trans (ZC _ b 1 v1)).trans (ZC _ b 2 v2)).trans (ZC _ b 3 v3)).trans (ZC _ b 4 v4)).trans (ZC _ b 5 v5)).trans (ZC _ b 6 v6)).trans (ZC _ b 7 v7)).trans (ZC _ b 8 v8)
theorem aen {w:A}{b:Nat}{t:TypeId}{a0 a1 a2 a3 a4 a5 a6 a7 a8 a9 aT aN a12 aI ax ar:aF}(h:w.heap[b]?=some (.cells #[a0,a1,a2,a3,a4,a5,a6,a7,a8,a9,aT,aN,a12,aI,ax,ar] t (0,0)))(v0 v1 v2 v3 v4 v5 v6 v7 v8 v9 v10 v11 v12 aJ aU aV:aF):((((((((((((((((w.setCell (ah b) v0).setCell (O b 1) v1).setCell (O b 2) v2).setCell (O b 3) v3).setCell (O b 4) v4).setCell (O b 5) v5).setCell (O b 6) v6).setCell (O b 7) v7).setCell (O b 8) v8).setCell (O b 9) v9).setCell (O b 10) v10).setCell (O b 11) v11).setCell (O b 12) v12).setCell (O b 13) aJ).setCell (O b 14) aU).setCell (O b 15) aV).heap[b]?=some (.cells #[v0,v1,v2,v3,v4,v5,v6,v7,v8,v9,v10,v11,v12,aJ,aU,aV] t (0,0)):=by
 have F:=YE h 0 v0 (aw:=#[v0,a1,a2,a3,a4,a5,a6,a7,a8,a9,aT,aN,a12,aI,ax,ar]) rfl;have h2:=YE F 1 v1 (aw:=#[v0,v1,a2,a3,a4,a5,a6,a7,a8,a9,aT,aN,a12,aI,ax,ar]) rfl;have h3:=YE h2 2 v2 (aw:=#[v0,v1,v2,a3,a4,a5,a6,a7,a8,a9,aT,aN,a12,aI,ax,ar]) rfl;have h4:=YE h3 3 v3 (aw:=#[v0,v1,v2,v3,a4,a5,a6,a7,a8,a9,aT,aN,a12,aI,ax,ar]) rfl;have h5:=YE h4 4 v4 (aw:=#[v0,v1,v2,v3,v4,a5,a6,a7,a8,a9,aT,aN,a12,aI,ax,ar]) rfl;have h6:=YE h5 5 v5 (aw:=#[v0,v1,v2,v3,v4,v5,a6,a7,a8,a9,aT,aN,a12,aI,ax,ar]) rfl;have h7:=YE h6 6 v6 (aw:=#[v0,v1,v2,v3,v4,v5,v6,a7,a8,a9,aT,aN,a12,aI,ax,ar]) rfl;have h8:=YE h7 7 v7 (aw:=#[v0,v1,v2,v3,v4,v5,v6,v7,a8,a9,aT,aN,a12,aI,ax,ar]) rfl;have h9:=YE h8 8 v8 (aw:=#[v0,v1,v2,v3,v4,v5,v6,v7,v8,a9,aT,aN,a12,aI,ax,ar]) rfl;have XP:=YE h9 9 v9 (aw:=#[v0,v1,v2,v3,v4,v5,v6,v7,v8,v9,aT,aN,a12,aI,ax,ar]) rfl;have Uf:=YE XP 10 v10 (aw:=#[v0,v1,v2,v3,v4,v5,v6,v7,v8,v9,v10,aN,a12,aI,ax,ar]) rfl;have MU:=YE Uf 11 v11 (aw:=#[v0,v1,v2,v3,v4,v5,v6,v7,v8,v9,v10,v11,a12,aI,ax,ar]) rfl;have TZ:=YE MU 12 v12 (aw:=#[v0,v1,v2,v3,v4,v5,v6,v7,v8,v9,v10,v11,v12,aI,ax,ar]) rfl;have bD:=YE TZ 13 aJ (aw:=#[v0,v1,v2,v3,v4,v5,v6,v7,v8,v9,v10,v11,v12,aJ,ax,ar]) rfl;have bG:=YE bD 14 aU (aw:=#[v0,v1,v2,v3,v4,v5,v6,v7,v8,v9,v10,v11,v12,aJ,aU,ar]) rfl;have bI:=YE bG 15 aV (aw:=#[v0,v1,v2,v3,v4,v5,v6,v7,v8,v9,v10,v11,v12,aJ,aU,aV]) rfl;exact bI
theorem aeo (w:A)(b:Nat)(v0 v1 v2 v3 v4 v5 v6 v7 v8 v9 v10 v11 v12 aJ aU aV:aF):w.grownBy ((((((((((((((((w.setCell (ah b) v0).setCell (O b 1) v1).setCell (O b 2) v2).setCell (O b 3) v3).setCell (O b 4) v4).setCell (O b 5) v5).setCell (O b 6) v6).setCell (O b 7) v7).setCell (O b 8) v8).setCell (O b 9) v9).setCell (O b 10) v10).setCell (O b 11) v11).setCell (O b 12) v12).setCell (O b 13) aJ).setCell (O b 14) aU).setCell (O b 15) aV) (some b):=
 (((((((((((((((ZC w b 0 v0).trans (ZC _ b 1 v1)).trans (ZC _ b 2 v2)).trans (ZC _ b 3 v3)).trans (ZC _ b 4 v4)).trans (ZC _ b 5 v5)).trans (ZC _ b 6 v6)).trans (ZC _ b 7 v7)).trans (ZC _ b 8 v8)).trans (ZC _ b 9 v9)).trans (ZC _ b 10 v10)).trans (ZC _ b 11 v11)).trans (ZC _ b 12 v12)).trans (ZC _ b 13 aJ)).trans (ZC _ b 14 aU)).trans (ZC _ b 15 aV)
theorem LQ {w':A}{b:Nat}{t:TypeId}{a0 a1 a2 a3:aF}(h:w'.heap[b]?=some (.cells #[a0,a1,a2,a3] t (0,0))):w'.cell? (ah b)=some a0/\w'.cell? (O b 1)=some a1/\w'.cell? (O b 2)=some a2/\w'.cell? (O b 3)=some a3/\
   w'.frozen? (ah b)=false/\w'.frozen? (O b 1)=false/\w'.frozen? (O b 2)=false/\w'.frozen? (O b 3)=false:=
 ⟨Z0 h 0 _ rfl,Z0 h 1 _ rfl,Z0 h 2 _ rfl,Z0 h 3 _ rfl,Zz h 0,Zz h 1,Zz h 2,Zz h 3⟩
theorem xY {w':A}{b:Nat}{t:TypeId}{a0 a1 a2 a3 a4 a5 a6 a7:aF}(h:w'.heap[b]?=some (.cells #[a0,a1,a2,a3,a4,a5,a6,a7] t (0,0))):w'.cell? (ah b)=some a0/\w'.cell? (O b 1)=some a1/\w'.cell? (O b 2)=some a2/\w'.cell? (O b 3)=some a3/\w'.cell? (O b 4)=some a4/\w'.cell? (O b 5)=some a5/\w'.cell? (O b 6)=some a6/\w'.cell? (O b 7)=some a7/\
   w'.frozen? (ah b)=false/\w'.frozen? (O b 1)=false/\w'.frozen? (O b 2)=false/\w'.frozen? (O b 3)=false/\w'.frozen? (O b 4)=false/\w'.frozen? (O b 5)=false/\w'.frozen? (O b 6)=false/\w'.frozen? (O b 7)=false:=
 ⟨Z0 h 0 _ rfl,Z0 h 1 _ rfl,Z0 h 2 _ rfl,Z0 h 3 _ rfl,Z0 h 4 _ rfl,Z0 h 5 _ rfl,Z0 h 6 _ rfl,Z0 h 7 _ rfl,Zz h 0,Zz h 1,Zz h 2,Zz h 3,Zz h 4,Zz h 5,Zz h 6,Zz h 7⟩
theorem aep {w':A}{b:Nat}{t:TypeId}{a0 a1 a2 a3 a4 a5 a6 a7 a8:aF}(h:w'.heap[b]?=some (.cells #[a0,a1,a2,a3,a4,a5,a6,a7,a8] t (0,0))):w'.cell? (ah b)=some a0/\w'.cell? (O b 1)=some a1/\w'.cell? (O b 2)=some a2/\w'.cell? (O b 3)=some a3/\w'.cell? (O b 4)=some a4/\w'.cell? (O b 5)=some a5/\w'.cell? (O b 6)=some a6/\w'.cell? (O b 7)=some a7/\w'.cell? (O b 8)=some a8/\
   w'.frozen? (ah b)=false/\w'.frozen? (O b 1)=false/\w'.frozen? (O b 2)=false/\w'.frozen? (O b 3)=false/\w'.frozen? (O b 4)=false/\w'.frozen? (O b 5)=false/\w'.frozen? (O b 6)=false/\w'.frozen? (O b 7)=false/\w'.frozen? (O b 8)=false:=
 ⟨Z0 h 0 _ rfl,Z0 h 1 _ rfl,Z0 h 2 _ rfl,Z0 h 3 _ rfl,Z0 h 4 _ rfl,Z0 h 5 _ rfl,Z0 h 6 _ rfl,Z0 h 7 _ rfl,Z0 h 8 _ rfl,Zz h 0,Zz h 1,Zz h 2,Zz h 3,Zz h 4,Zz h 5,Zz h 6,Zz h 7,Zz h 8⟩
theorem QW {w':A}{b:Nat}{t:TypeId}{a0 a1 a2 a3 a4 a5 a6 a7 a8 a9 aT aN a12 aI ax ar:aF}(h:w'.heap[b]?=some (.cells #[a0,a1,a2,a3,a4,a5,a6,a7,a8,a9,aT,aN,a12,aI,ax,ar] t (0,0))):w'.cell? (ah b)=some a0/\w'.cell? (O b 1)=some a1/\w'.cell? (O b 2)=some a2/\w'.cell? (O b 3)=some a3/\w'.cell? (O b 4)=some a4/\w'.cell? (O b 5)=some a5/\w'.cell? (O b 6)=some a6/\w'.cell? (O b 7)=some a7/\w'.cell? (O b 8)=some a8/\w'.cell? (O b 9)=some a9/\w'.cell? (O b 10)=some aT/\w'.cell? (O b 11)=some aN/\w'.cell? (O b 12)=some a12/\w'.cell? (O b 13)=some aI/\w'.cell? (O b 14)=some ax/\w'.cell? (O b 15)=some ar/\
   w'.frozen? (ah b)=false/\w'.frozen? (O b 1)=false/\w'.frozen? (O b 2)=false/\w'.frozen? (O b 3)=false/\w'.frozen? (O b 4)=false/\w'.frozen? (O b 5)=false/\w'.frozen? (O b 6)=false/\w'.frozen? (O b 7)=false/\w'.frozen? (O b 8)=false/\w'.frozen? (O b 9)=false/\w'.frozen? (O b 10)=false/\w'.frozen? (O b 11)=false/\w'.frozen? (O b 12)=false/\w'.frozen? (O b 13)=false/\w'.frozen? (O b 14)=false/\w'.frozen? (O b 15)=false:=
 ⟨Z0 h 0 _ rfl,Z0 h 1 _ rfl,Z0 h 2 _ rfl,Z0 h 3 _ rfl,Z0 h 4 _ rfl,Z0 h 5 _ rfl,Z0 h 6 _ rfl,Z0 h 7 _ rfl,Z0 h 8 _ rfl,Z0 h 9 _ rfl,Z0 h 10 _ rfl,Z0 h 11 _ rfl,Z0 h 12 _ rfl,Z0 h 13 _ rfl,Z0 h 14 _ rfl,Z0 h 15 _ rfl,Zz h 0,Zz h 1,Zz h 2,Zz h 3,Zz h 4,Zz h 5,Zz h 6,Zz h 7,Zz h 8,Zz h 9,Zz h 10,Zz h 11,Zz h 12,Zz h 13,Zz h 14,Zz h 15⟩
theorem WW (w:A)(r:Option Nat):w.grownBy w r:=⟨rfl,rfl,rfl,iw _,λ_ _ _=>rfl⟩
theorem aeq {w w':A}{o o':Obj}{b:Nat}{row:Option Nat}{X:Option Obj}(h:w.heap[b]?=X)(hb:b<w.heap.size)(z:((w.alloc o).alloc o').grownBy w' row)(ZP:row≠some b):w'.heap[b]?=X:=
 (z.block b pI (λe=>ZP e.symm)).trans (((gq _ _ pI).trans (gq _ _ hb)).trans h)
theorem Cp {w w':A}{o:Obj}{b:Nat}{row:Option Nat}{X:Option Obj}(h:w.heap[b]?=X)(hb:b<w.heap.size)(z:(w.alloc o).grownBy w' row)(ZP:row≠some b):w'.heap[b]?=X:=
 (z.block b pI (λe=>ZP e.symm)).trans ((gq _ _ hb).trans h)
theorem XX {w w':A}{b:Nat}{row:Option Nat}{X:Option Obj}(h:w.heap[b]?=X)(hb:b<w.heap.size)(z:w.grownBy w' row)(ZP:row≠some b):w'.heap[b]?=X:=
 (z.block b hb (λe=>ZP e.symm)).trans h
def Ko (g:XU):aF:=.agg #[.bool g.neg,Y (Z6 g.first),.string g.first.s,Y (ZW g.first),Y g.first.line,Y (Z6 g.name),.string g.name.s,Y (ZW g.name),Y g.name.line]
def lT{P:Prop}(h:P:=by
 exact⟨rfl,(Up (((di w _ _).trans (di _ _ _)).trans ZZ) (iw _) S8).trans (di _ _ _),(HP.out.EE XA (iw _) S8).alloc _⟩):P:=h
theorem Co (h:Ps w bp gt Z1 U st)(hE:Ve U)(hi:st.1<U.length)(neg:Bool):aq 147 #[ai bp,.bool neg] w λe w'=>e=.returned (Ko (XE U neg st).1)/\w.grownBy w' (some bp)/\Ps w' bp gt Z1 U (XE U neg st).2:=by
 have HP:Hid (Ps w bp gt Z1 U st):=h;have ZR:=h.lt;obtain⟨T,hT⟩:∃T,T=ZT U st.1:=⟨_,rfl⟩;have HT:Hid (T=ZT U st.1):=hT;by_cases h3:Z6 T=3
 ·have cF:(Z6 T != 3)=false:=qN;have HR:Hid (XE U neg st=(⟨neg,T,ZT U (ZM U [21] (ZM U [3,2] st)).1⟩,ZM U [2] (ZM U [21] (ZM U [3,2] st)))):=by rw[Hid,hT];unfold XE;rw[<-hT,iR h3]
  have YS:=Ur hE (av:=[3,2]) rfl hi;have XB:=Ur hE (av:=[21]) rfl YS;rw[HR.out];clear h hT HR h3;obtain⟨anT,hU⟩:∃anT,anT=ZT U (ZM U [21] (ZM U [3,2] st)).1:=⟨_,rfl⟩;have HU:Hid (anT=ZT U (ZM U [21] (ZM U [3,2] st)).1):=hU;rw[<-hU];clear hU;go_enter func147,ntmps147;go_wp2_with (first|(go_at_call 69;refine(Qc ((XA.alloc _).alloc _) hE.len YS [21] (w1.heap.size+1) 1 pF (Qb [21] (fR w1 _ _)) pG).mono ?_;unfold XM;rintro e w2 ⟨rfl,ZU,U5⟩;clear c0 c1 c2 c3 c4 c5 c6 c7 c8 f0 f1 f2 f3 f4 f5 f6 f7 f8;have cO:=XA.lt;have Yh:w1.heap.size<w2.heap.size:=(by have:=ZU.size;simp at this;omega);have Xf:=aeq hB YB ZU pI;have XJ:=XX (fS w1 _ _) pI ZU pI;obtain⟨d0,d1,d2,d3,_,_,_,_⟩:=LQ XJ)|(go_at_call 69;refine(Qc ((HP.out.alloc _).alloc _) hE.len hi [3,2] (w.heap.size+1) 2 pF (Qb [3,2] (fR w _ _)) pG).mono ?_;rw[<-HT.out];unfold XM;rintro e w1 ⟨rfl,ZZ,XA⟩;obtain⟨hB,c0,c1,c2,c3,c4,c5,c6,c7,c8,f0,f1,f2,f3,f4,f5,f6,f7,f8⟩:=x6 (fS w _ _) pI ZZ pI;have YB:w.heap.size<w1.heap.size:=by have:=ZZ.size;simp at this;omega))
  have YM:w.heap.size<w2.heap.size:=J;have YK:=U5.lt;go_region_law (go_simp;go_at_call 114;refine(GX U5.drew hE.len XB).mono ?_;rw[<-HU.out];unfold XM;rintro e w3 ⟨rfl,ZJ,aY⟩;have SI:=XX (w:=w2.drew) Xf YM ZJ pI;have aL:=XX (w:=w2.drew) XJ Yh ZJ pI;clear d0 d1 d2 d3;obtain⟨d0,d1,d2,d3,_,_,_,_⟩:=LQ aL;obtain⟨c0,c1,c2,c3,c4,c5,c6,c7,c8,f0,f1,f2,f3,f4,f5,f6,f7,f8⟩:=aep SI)
  all_goals go_wp2
  all_goals refine iq (fg rfl _ _ w.heap.size 219 _ _ _ rfl (x5 SI _ _ _ _ _ _ _ _ _) underlying219 rfl pH) rfl ?_
  all_goals have S8:=xZ w3 w.heap.size (.bool neg) (Y (Z6 T)) (.string T.s) (Y (ZW T)) (Y T.line) (Y (Z6 anT)) (.string anT.s) (Y (ZW anT)) (Y anT.line)
  all_goals exact⟨rfl,Up (((((((di w _ _).trans (di _ _ _)).trans ZZ).trans (di _ _ _)).trans (di _ _ _)).trans ZU).trans (ZG _ _) |>.trans ZJ) (iw _) S8,HP.out.EE aY (iw _) S8⟩
 ·have cF:(Z6 T != 3)=true:=qN;have HR:Hid (XE U neg st=(⟨neg,T,T⟩,ZM U [3,2] st)):=by rw[Hid,hT];unfold XE;rw[<-hT,iQ h3]
  rw[HR.out];clear h hT HR h3;go_enter func147,ntmps147;go_wp2_with (go_at_call 69;refine(Qc ((HP.out.alloc _).alloc _) hE.len hi [3,2] (w.heap.size+1) 2 pF (Qb [3,2] (fR w _ _)) pG).mono ?_;rw[<-HT.out];unfold XM;rintro e w1 ⟨rfl,ZZ,XA⟩;obtain⟨hB,c0,c1,c2,c3,c4,c5,c6,c7,c8,f0,f1,f2,f3,f4,f5,f6,f7,f8⟩:=x6 (fS w _ _) pI ZZ pI;have YB:w.heap.size<w1.heap.size:=by have:=ZZ.size;simp at this;omega);refine iq (fg rfl _ _ w.heap.size 219 _ _ _ rfl ((gq _ _ (by simpa using YB)).trans (x5 hB _ _ _ _ _ _ _ _ _)) underlying219 rfl pH) rfl ?_;have S8:=xZ w1 w.heap.size (.bool neg) (Y (Z6 T)) (.string T.s) (Y (ZW T)) (Y T.line) (Y (Z6 T)) (.string T.s) (Y (ZW T)) (Y T.line);exact lT
def xX (g:Ud):aF:=.agg #[Y (Z6 g.first),.string g.first.s,Y (ZW g.first),Y g.first.line,Y (Z6 g.name),.string g.name.s,Y (ZW g.name),Y g.name.line]
theorem xW (h:Ps w bp gt Z1 U st)(hE:Ve U)(hi:st.1<U.length):aq 119 #[ai bp] w λe w'=>e=.returned (xX (Xh U st).1)/\w.grownBy w' (some bp)/\Ps w' bp gt Z1 U (Xh U st).2:=by
 have HP:Hid (Ps w bp gt Z1 U st):=h;have ZR:=h.lt;obtain⟨T,hT⟩:∃T,T=ZT U st.1:=⟨_,rfl⟩;have HT:Hid (T=ZT U st.1):=hT;by_cases h3:Z6 T=22
 ·have cF:(Z6 T != 22)=false:=qN;have HR:Hid (Xh U st=(⟨T,ZT U (ZM U [22,2] st).1⟩,ZM U [2] (ZM U [22,2] st))):=by rw[Hid,hT];unfold Xh;rw[<-hT,iR h3]
  have YS:=Ur hE (av:=[22,2]) rfl hi;rw[HR.out];clear h hT HR h3;obtain⟨anT,hU⟩:∃anT,anT=ZT U (ZM U [22,2] st).1:=⟨_,rfl⟩;have HU:Hid (anT=ZT U (ZM U [22,2] st).1):=hU;rw[<-hU];clear hU;go_enter func119,ntmps119;go_wp2_with (go_at_call 69;refine(Qc ((HP.out.alloc _).alloc _) hE.len hi [22,2] (w.heap.size+1) 2 pF (Qb [22,2] (fR w _ _)) pG).mono ?_;rw[<-HT.out];unfold XM;rintro e w1 ⟨rfl,ZZ,XA⟩;have YB:w.heap.size<w1.heap.size:=tX;have hB:=XX (fS w _ _) pI ZZ pI);have cO:=XA.lt;go_region_law (go_simp;go_at_call 114;refine(GX (XA.alloc _).drew hE.len YS).mono ?_;rw[<-HU.out];unfold XM;rintro e w3 ⟨rfl,ZJ,aY⟩;have aH:=(ZG _ (some bp)).trans ZJ;have SI:=Cp hB YB aH pI;have aL:=XX (gp w1 _) pG aH pI;obtain⟨d0,d1,d2,d3,_,_,_,_⟩:=LQ aL;obtain⟨c0,c1,c2,c3,c4,c5,c6,c7,f0,f1,f2,f3,f4,f5,f6,f7⟩:=xY SI)
  all_goals go_wp2
  all_goals refine iq (fg rfl _ _ w.heap.size 194 _ _ _ rfl (x8 SI _ _ _ _ _ _ _ _) underlying194 rfl pH) rfl ?_
  all_goals have S8:=x7 w3 w.heap.size (Y (Z6 T)) (.string T.s) (Y (ZW T)) (Y T.line) (Y (Z6 anT)) (.string anT.s) (Y (ZW anT)) (Y anT.line)
  all_goals exact⟨rfl,Up (((((di w _ _).trans (di _ _ _)).trans ZZ).trans (di _ _ _)).trans aH) (iw _) S8,HP.out.EE aY (iw _) S8⟩
 ·have cF:(Z6 T != 22)=true:=qN;have HR:Hid (Xh U st=(⟨T,T⟩,ZM U [22,2] st)):=by rw[Hid,hT];unfold Xh;rw[<-hT,iQ h3]
  rw[HR.out];clear h hT HR h3;go_enter func119,ntmps119;go_wp2_with (go_at_call 69;refine(Qc ((HP.out.alloc _).alloc _) hE.len hi [22,2] (w.heap.size+1) 2 pF (Qb [22,2] (fR w _ _)) pG).mono ?_;rw[<-HT.out];unfold XM;rintro e w1 ⟨rfl,ZZ,XA⟩;have YB:w.heap.size<w1.heap.size:=tX;have hB:=XX (fS w _ _) pI ZZ pI;obtain⟨c0,c1,c2,c3,c4,c5,c6,c7,f0,f1,f2,f3,f4,f5,f6,f7⟩:=xY hB);refine iq (fg rfl _ _ w.heap.size 194 _ _ _ rfl ((gq _ _ (by simpa using YB)).trans (x8 hB _ _ _ _ _ _ _ _)) underlying194 rfl pH) rfl ?_;have S8:=x7 w1 w.heap.size (Y (Z6 T)) (.string T.s) (Y (ZW T)) (Y T.line) (Y (Z6 T)) (.string T.s) (Y (ZW T)) (Y T.line);exact lT
def QV (g:XU):ay:=[.bool g.neg,Y (Z6 g.first),.string g.first.s,Y (ZW g.first),Y g.first.line,Y (Z6 g.name),.string g.name.s,Y (ZW g.name),Y g.name.line]
def NY (l:List XU):ay:=l.flatMap QV
theorem aer (l:List XU)(g:XU):NY (l++[g])=NY l++QV g:=by simp[NY]
theorem aes:(prog.info? 219).map (λi=>(i.zero,i.size,i.bytes))=some (some (.agg #[.bool false,Y 0,.string .empty,Y 0,Y 0,Y 0,.string .empty,Y 0,Y 0]),9,88):=pH
theorem xV (g:XU):∀u∈QV g,u.oneCell'=true:=by
 intro u hu;simp[QV]at hu;rcases hu with rfl|rfl|rfl|rfl|rfl|rfl|rfl|rfl|rfl<;>rfl
theorem Pp {w:A}{B b:Nat}{e:TypeId}{s n:Nat}{v:aF}{xs:ay}(h:w.ownsRow B e s v n xs)(hb:b<B):v.ownBlock≠some b:=λe=>by have:=(h.lt b e).1;omega
theorem X1 {w:A}{B b:Nat}{e:TypeId}{s n:Nat}{v:aF}{xs:ay}(h:w.ownsRow B e s v n xs)(hb:b<B):v.ownBlock=none\/v.ownBlock≠some b:=.inr (Pp h hb)
theorem MT {w:A}{B b:Nat}{e:TypeId}{s:Nat}{cs:Array aF}(h:w.heap[b]?=some (.cells cs e (0,0)))(hb:B<=b)(hs:cs.size=s):w.ownsRow B e s (aj b 1 1) 1 cs.toList:=
 ⟨by simp[hs],.inr ⟨b,1,cs,rfl,hb,h,iw _,by unfold maxLen;omega,by simp[hs],by rw[<-hs,Nat.one_mul];exact bH pG⟩⟩
def xU (U:List ZY)(bp gt Z1:Nat)(Zw:List XU×ZK)(w:A)(n:Nat)(v:aF)(wr:A):Prop:=
 ∃(acc:List XU) (S:ZK) (f:Nat),S.1<U.length/\n=U.length-S.1/\U.length<=S.1+f/\Hid (VH U f acc S=Zw)/\acc.length<=S.1+1/\Ps wr bp gt Z1 U S/\
  wr.ownsRow w.heap.size 219 9 v acc.length (NY acc)/\w.grownBy wr (some bp)
theorem adB {f:Nat}{acc:List XU}{S:ZK}{G:XU}{S2:ZK}(h:(XZ U 20 S||XZ U 23 S)=true)(hp:XE U (Z6 (ZT U S.1)==23) (ZM U [20,23] S)=(G,S2)):VH U (f+1) acc S=VH U f (acc++[G]) S2:=by
 simp only[VH];rw[iR h,hp]
theorem aet {f:Nat}{acc:List XU}{S:ZK}(h:(XZ U 20 S||XZ U 23 S)=false):VH U f acc S=(acc,S):=by
 cases f with
 |zero=>rfl
 |succ f=>simp only[VH];rw[h];simp
theorem GW {s:Int}{S:ZK}(h:XZ U s S=true):S.2=0/\Z6 (ZT U S.1)=s:=by
 unfold XZ at h;simpa using h
def j0{P:Prop}(h:P:=by
 exact⟨YN.os.trans g2.os,YN.tape.trans g2.tape,YN.output.trans g2.output,gZ g2.size YN.size,λi hi hn=>
  (YN.block i (dH hi g2.size) (λq=>by have:=e i q.symm;omega)).trans (g2.block i hi hn)⟩):P:=h
def mq{P:Prop}(h:P:=by
 exact(U5.alloc o).kept YN (λq=>by have:=e _ q;omega) (λq=>by have:=e _ q;omega)):P:=h
theorem aeu {Zw:List XU×ZK}{wr w2 w3:A}{v v':aF}{o:Obj}{acc:List XU}{S S2:ZK}{G:XU}{f:Nat}(h0:Ps w bp gt Z1 U st)(YH:S2.1<U.length)(ZR:S.1<S2.1)(hf:U.length<=S.1+(f+1))(hl:Hid (VH U f (acc++[G]) S2=Zw))(Rh:acc.length<=S.1+1)(U5:Ps w2 bp gt Z1 U S2)(z:w.grownBy w2 (some bp))(ZO:wr.ownsRow w.heap.size 219 9 v acc.length (NY acc))(YA:w3.ownsRow w.heap.size 219 9 v' (acc.length+1) (NY acc++QV G))(YN:(w2.alloc o).grownBy w3 v.ownBlock):xU U bp gt Z1 Zw w (U.length-S2.1) v' w3:=by
 have e:∀k,v.ownBlock=some k->w.heap.size<=k:=λk I=>(ZO.lt k I).1
 have:=h0.lt;have:=h0.VG;refine⟨acc++[G],S2,f,YH,rfl,J,hl,by simp;omega,?_,by rw[aer];simpa using YA,?_⟩
 ·exact mq
 ·have g2:=z.trans (di w2 o (some bp));exact j0
theorem Cm {a b:A}{r:Option Nat}(h:aB a b):a.grownBy b r:=⟨h.os,h.tape,h.output,h.size,λi hi _=>h.block i hi pG⟩
def oK{P:Prop}(h:P:=by
 clear YA YN ZO Ue Vu;go_wp2
 go_roundg (U.length-S2.1)
 case measure=>omega
 case rel=>exact R):P:=h
def jV{P:Prop}(h:P:=by
 exact oK):P:=h
def ox{P:Prop}(h:P:=by
 intro v' w3 YA YN _;have R:=aeu HP.out YH hS hf hl Rh U5 (((((ZX.trans (Cm XD)).trans (di _ _ _)).trans ZZ).trans (di _ _ _)).trans ZU) ZO YA YN;exact jV):P:=h
def oV{P:Prop}(h:P:=by
 go_ret;rw[hl.out];exact⟨_,rfl,ZO.kept XD (XY _),ZX.trans (Cm XD),RS,hi⟩):P:=h
theorem xT (h:Ps w bp gt Z1 U st)(hE:Ve U)(hi:st.1<U.length):aq 117 #[ai bp] w λe w'=>∃v,e=.returned v/\w'.ownsRow w.heap.size 219 9 v (Vw U st).1.length (NY (Vw U st).1)/\w.grownBy w' (some bp)/\Ps w' bp gt Z1 U (Vw U st).2/\(Vw U st).2.1<U.length:=by
 obtain⟨i0,Y8,Ze,Zq,Zn⟩:=iE aes;have HP:Hid (Ps w bp gt Z1 U st):=h;have bC:=h.lt;have aK:=h.VG;have hlen:=hE.len;obtain⟨Zw,hR⟩:∃R,R=Vw U st:=⟨_,rfl⟩;obtain⟨⟨G,S1⟩,bg⟩:∃x,XE U false st=x:=⟨_,rfl⟩;have aa:=GY hE false hi;rw[bg]at aa;have HS:Hid (VH U U.length [G] S1=Zw):=by rw[Hid,hR];unfold Vw;rw[bg]
 have HG:Hid (XE U false st=(G,S1)):=bg;rw[<-hR];simp only at aa;clear h bg hR;go_enter func117,ntmps117;go_wp2_with (go_at_call 147;refine(Co HP.out hE hi false).mono ?_;rw[HG.out];unfold Ko;rintro e w1 ⟨rfl,ZZ,XA⟩)
 go_loopg [3] (U.length-S1.1) (λn v wr=>xU U bp gt Z1 Zw w n v wr)
 case atStart=>exact⟨[G],S1,U.length,aa.1,rfl,J,HS,pG,XA.alloc _,MT (s:=9) (gp w1 _) ZZ.size rfl,ZZ.trans (di _ _ _)⟩
 case round=>
  obtain⟨acc,S,f,hi,rfl,hf,YO,Rh,hP,ZO,ZX⟩:=hrel;obtain⟨T,hT⟩:∃T,T=ZT U S.1:=⟨_,rfl⟩;have HT:Hid (T=ZT U S.1):=hT;by_cases aQ:XZ U 20 S=true
  ·obtain⟨f,rfl⟩:∃g,f=g+1:=⟨f-1,J⟩;have b5:=GW aQ;have cn:(XZ U 20 S||XZ U 23 S)=true:=by rw[aQ];rfl
   obtain⟨⟨G,S2⟩,bg⟩:∃x,XE U (Z6 (ZT U S.1)==23) (ZM U [20,23] S)=x:=⟨_,rfl⟩;have hl:Hid (VH U f (acc++[G]) S2=Zw):=su;have bs:ZM U [20,23] S=(S.1+1,0):=LU b5.1 tY;have YS:=Ur hE (av:=[20,23]) rfl hi;have YH:=GY hE (Z6 (ZT U S.1)==23) YS;rw[bg]at YH;have hS:S.1<S2.1:=p9;have YH:=YH.1;simp only at YH;have af:Hid (XZ U 20 S=_):=aQ;have HG:Hid (XE U (Z6 T==23) (ZM U [20,23] S)=(G,S2)):=by rw[hT];exact bg
   clear cn b5 YO hT bg bs;go_wp2_with (first|(go_at_call 147;refine(Co (XA.alloc _) hE YS (Z6 T==23)).mono ?_;rw[HG.out];unfold Ko;rintro e w2 ⟨rfl,ZU,U5⟩;have Vu:=((Ue.alloc _).kept ZU (X1 ZO bC)))|(go_at_call 69;refine(Qc (RS.alloc _) hE.len hi [20,23] ws.heap.size 2 pF (Qb [20,23] (gp ws _)) pG).mono ?_;rw[<-HT.out];unfold XM;rintro e w1 ⟨rfl,ZZ,XA⟩;have Ue:=(((ZO.kept XD (XY _)).alloc _).kept ZZ (X1 ZO bC)))|(go_at_call 67;refine(OO hP hE.len hi 20).mono ?_;rw[af.out];rintro e ws ⟨rfl,XD⟩;have RS:=hP.kept XD pG pG)|(at_builtin;refine ey _ rfl _ _ 134 rfl w.heap.size 219 i0 (.agg #[.bool false,Y 0,.string .empty,Y 0,Y 0,Y 0,.string .empty,Y 0,Y 0]) 9 88 underlying134 Y8 Ze Zq Zn rfl pF _ _ _ rfl (Vu.alloc _) (ah w2.heap.size) 1 1 (QV G) rfl rfl (World.news_of_block (gp _ _)) (xV G) ?c3 ?c4 ?c5 ?_))
   case c3=>unfold maxLen;omega
   case c4=>omega
   case c5=>have:=ZX.size;have:=XD.size;have:=ZZ.size;have:=ZU.size;simp at *;omega
   exact ox
  ·have aA:XZ U 20 S=false:=by simpa using aQ
   by_cases aS:XZ U 23 S=true
   ·obtain⟨f,rfl⟩:∃g,f=g+1:=⟨f-1,J⟩;have b5:=GW aS;have cn:(XZ U 20 S||XZ U 23 S)=true:=by rw[aS,aA];rfl
    have Sn:Hid (XZ U 23 S=true):=aS;obtain⟨⟨G,S2⟩,bg⟩:∃x,XE U (Z6 (ZT U S.1)==23) (ZM U [20,23] S)=x:=⟨_,rfl⟩;have hl:Hid (VH U f (acc++[G]) S2=Zw):=su;have bs:ZM U [20,23] S=(S.1+1,0):=LU b5.1 tY;have YS:=Ur hE (av:=[20,23]) rfl hi;have YH:=GY hE (Z6 (ZT U S.1)==23) YS;rw[bg]at YH;have hS:S.1<S2.1:=p9;have YH:=YH.1;simp only at YH;have af:Hid (XZ U 20 S=_):=aA;have HG:Hid (XE U (Z6 T==23) (ZM U [20,23] S)=(G,S2)):=by rw[hT];exact bg
    clear cn b5 YO hT bg bs;go_wp2_with (first|(go_at_call 147;refine(Co (XA.alloc _) hE YS (Z6 T==23)).mono ?_;rw[HG.out];unfold Ko;rintro e w2 ⟨rfl,ZU,U5⟩;have Vu:=((Ue.alloc _).kept ZU (X1 ZO bC)))|(go_at_call 69;refine(Qc (RS.alloc _) hE.len hi [20,23] ws.heap.size 2 pF (Qb [20,23] (gp ws _)) pG).mono ?_;rw[<-HT.out];unfold XM;rintro e w1 ⟨rfl,ZZ,XA⟩;have Ue:=(((ZO.kept XD (XY _)).alloc _).kept ZZ (X1 ZO bC)))|(go_at_call 67;refine(OO aM hE.len hi 23).mono ?_;rw[Sn.out];rintro e ws ⟨rfl,aP⟩;have XD:=aC.trans aP;have RS:=hP.kept XD pG pG)|(go_at_call 67;refine(OO hP hE.len hi 20).mono ?_;rw[af.out];rintro e aX ⟨rfl,aC⟩;have aM:=hP.kept aC pG pG)|(at_builtin;refine ey _ rfl _ _ 134 rfl w.heap.size 219 i0 (.agg #[.bool false,Y 0,.string .empty,Y 0,Y 0,Y 0,.string .empty,Y 0,Y 0]) 9 88 underlying134 Y8 Ze Zq Zn rfl pF _ _ _ rfl (Vu.alloc _) (ah w2.heap.size) 1 1 (QV G) rfl rfl (World.news_of_block (gp _ _)) (xV G) ?c3 ?c4 ?c5 ?_))
    case c3=>unfold maxLen;omega
    case c4=>omega
    case c5=>have:=ZX.size;have:=XD.size;have:=ZZ.size;have:=ZU.size;simp at *;omega
    exact ox
   ·have aW:XZ U 23 S=false:=by simpa using aS
    have hl:Hid (Zw=(acc,S)):=by rw[Hid,<-YO.out];exact aet (by rw[aA,aW];rfl)
    have af:Hid (XZ U 20 S=false):=aA;have Sn:Hid (XZ U 23 S=false):=aW;clear aQ aS aA aW YO hT;go_wp2_with (first|(go_at_call 67;refine(OO aM hE.len hi 23).mono ?_;rw[Sn.out];rintro e ws ⟨rfl,aP⟩;have XD:=aC.trans aP;have RS:=hP.kept XD pG pG)|(go_at_call 67;refine(OO hP hE.len hi 20).mono ?_;rw[af.out];rintro e aX ⟨rfl,aC⟩;have aM:=hP.kept aC pG pG))
    exact oV
theorem adu {α:Type}{one:ZK->α×ZK}{f:Nat}{acc:List α}{S:ZK}{G:α}{S2:ZK}(h:XZ U 13 S=true)(hp:one (ZM U [13] S)=(G,S2)):VZ U one (f+1) acc S=VZ U one f (acc++[G]) S2:=by
 simp only[VZ];rw[iR h,hp]
theorem aev {α:Type}{one:ZK->α×ZK}{f:Nat}{acc:List α}{S:ZK}(h:XZ U 13 S=false):VZ U one f acc S=(acc,S):=by
 cases f with
 |zero=>rfl
 |succ f=>simp only[VZ];rw[h];simp
def ED {α:Type}(U:List ZY)(bp gt Z1:Nat)(one:ZK->α×ZK)(cell:α->ay)(E sz:Nat)(Zw:List α×ZK)(w:A)(n:Nat)(v:aF)(wr:A):Prop:=
 ∃(acc:List α) (S:ZK) (f:Nat),S.1<U.length/\n=U.length-S.1/\U.length<=S.1+f/\Hid (VZ U one f acc S=Zw)/\acc.length<=S.1+1/\Ps wr bp gt Z1 U S/\
  wr.ownsRow w.heap.size E sz v acc.length (acc.flatMap cell)/\w.grownBy wr (some bp)
theorem aew {α:Type}{one:ZK->α×ZK}{cell:α->ay}{E sz:Nat}{Zw:List α×ZK}{wr w2 w3:A}{v v':aF}{o:Obj}{acc:List α}{S S2:ZK}{G:α}{f:Nat}(h0:Ps w bp gt Z1 U st)(YH:S2.1<U.length)(ZR:S.1<S2.1)(hf:U.length<=S.1+(f+1))(hl:Hid (VZ U one f (acc++[G]) S2=Zw))(Rh:acc.length<=S.1+1)(U5:Ps w2 bp gt Z1 U S2)(z:w.grownBy w2 (some bp))(ZO:wr.ownsRow w.heap.size E sz v acc.length (acc.flatMap cell))(YA:w3.ownsRow w.heap.size E sz v' (acc.length+1) (acc.flatMap cell++cell G))(YN:(w2.alloc o).grownBy w3 v.ownBlock):ED U bp gt Z1 one cell E sz Zw w (U.length-S2.1) v' w3:=by
 have e:∀k,v.ownBlock=some k->w.heap.size<=k:=λk I=>(ZO.lt k I).1
 have:=h0.lt;have:=h0.VG;refine⟨acc++[G],S2,f,YH,rfl,J,hl,by simp;omega,?_,by rw[cU];simpa using YA,?_⟩
 ·exact mq
 ·have g2:=z.trans (di w2 o (some bp));exact j0
theorem xS (t:ZY):∀u∈U6 t,u.oneCell'=true:=by
 intro u hu;simp[U6]at hu;rcases hu with rfl|rfl|rfl|rfl<;>rfl
theorem GV (hE:Ve U)(s:Int)(hs:s≠1){S:ZK}(hi:S.1<U.length):(W8 U s S).2.1<U.length/\S.1<=(W8 U s S).2.1:=
 ⟨Ur hE (av:=[s]) (by simp;exact λe=>hs e.symm) hi,MV⟩
def jD{P:Prop}(h:P:=by
 have Cl:XZ U 13 S=false:=by simpa using TZ
 have hl:Hid (Zw=(acc,S)):=by rw[Hid,<-YO.out];exact aev Cl
 have Kn:Hid (XZ U 13 S=false):=Cl;clear TZ Cl YO;go_wp2_with (go_at_call 67;refine(OO hP hE.len hi 13).mono ?_;rw[Kn.out];rintro e ws ⟨rfl,XD⟩;have RS:=hP.kept XD pG pG);exact oV):P:=h
def jL{P:Prop}(h:P:=by
 intro v' w3 YA YN _;have R:=aew HP.out YH hS hf hl Rh U5 ((((ZX.trans (Cm XD)).trans (di _ _ _)).trans ZZ).trans ZU) ZO YA YN;exact oK):P:=h
theorem aex (h:Ps w bp gt Z1 U st)(hE:Ve U)(hi:st.1<U.length):aq 116 #[ai bp,.func (.func 114) #[ai bp] #[]] w λe w'=>∃v,e=.returned v/\w'.ownsRow w.heap.size 129 4 v (Xg U (W8 U 2) st).1.length (Wf (Xg U (W8 U 2) st).1)/\w.grownBy w' (some bp)/\Ps w' bp gt Z1 U (Xg U (W8 U 2) st).2/\(Xg U (W8 U 2) st).2.1<U.length:=by
 obtain⟨i0,Y8,Ze,Zq,Zn⟩:=iE Ct;have HP:Hid (Ps w bp gt Z1 U st):=h;have bC:=h.lt;have aK:=h.VG;have hlen:=hE.len;obtain⟨Zw,hR⟩:∃R,R=Xg U (W8 U 2) st:=⟨_,rfl⟩;have aa:=GV hE 2 pF hi;have HS:Hid (VZ U (W8 U 2) U.length [ZT U st.1] (ZM U [2] st)=Zw):=uy;rw[<-hR];have aa:(ZM U [2] st).1<U.length:=aa.1;clear h hR;go_enter func116,ntmps116;go_wp2_with (go_at_call 114;refine(GX HP.out hE.len hi).mono ?_;unfold XM;rintro e w1 ⟨rfl,ZZ,XA⟩)
 go_loopg [5] (U.length-(ZM U [2] st).1) (λn v wr=>ED U bp gt Z1 (W8 U 2) U6 129 4 Zw w n v wr)
 case atStart=>exact⟨[ZT U st.1],(ZM U [2] st),U.length,aa,rfl,J,HS,pG,XA.alloc _,MT (s:=4) (gp w1 _) ZZ.size rfl,ZZ.trans (di _ _ _)⟩
 case round=>
  obtain⟨acc,S,f,hi,rfl,hf,YO,Rh,hP,ZO,ZX⟩:=hrel;by_cases TZ:XZ U 13 S=true
  ·obtain⟨f,rfl⟩:∃g,f=g+1:=⟨f-1,J⟩;have b5:=GW TZ;obtain⟨⟨G,S2⟩,bg⟩:∃x,(W8 U 2) (ZM U [13] S)=x:=⟨_,rfl⟩;have hl:Hid (VZ U (W8 U 2) f (acc++[G]) S2=Zw):=qO;have bs:ZM U [13] S=(S.1+1,0):=LU b5.1 tY;have YS:=Ur hE (av:=[13]) rfl hi;have YH:=GV hE 2 pF YS;rw[bg]at YH;have hS:S.1<S2.1:=p9;have YH:=YH.1;simp only at YH;have Kn:Hid (XZ U 13 S=true):=TZ;have HC:Hid (∀W:A,Ps W bp gt Z1 U (ZM U [13] S)->aq 114 #[ai bp] W λe w'=>e=.returned (.agg #[Y (Z6 G),.string G.s,Y (ZW G),Y G.line])/\W.grownBy w' (some bp)/\Ps w' bp gt Z1 U S2):=λW hW=>by
    have q:=GX hW hE.len YS;have e1:ZT U (ZM U [13] S).1=G:=iJ Prod.fst bg;have e2:ZM U [2] (ZM U [13] S)=S2:=iJ Prod.snd bg;rw[e1,e2]at q;exact q
   clear TZ b5 YO bg bs;go_wp2_with (first|(at_builtin;refine ey _ rfl _ _ 85 rfl w.heap.size 129 i0 (.agg #[Y 0,.string .empty,Y 0,Y 0]) 4 40 underlying85 Y8 Ze Zq Zn rfl pF _ _ _ rfl (Vu.alloc _) (ah w2.heap.size) 1 1 (U6 G) rfl rfl (World.news_of_block (gp _ _)) (xS G) ?c3 ?c4 ?c5 ?_)|(go_at_call 114;refine(HC.out _ XA).mono ?_;rintro e w2 ⟨rfl,ZU,U5⟩;have Vu:=Ue.kept ZU (X1 ZO bC))|(go_at_call 69;refine(Qc (RS.alloc _) hE.len hi [13] ws.heap.size 1 pF (Qb [13] (gp ws _)) pG).mono ?_;rintro e w1 ⟨rfl,ZZ,XA⟩;have Ue:=(((ZO.kept XD (XY _)).alloc _).kept ZZ (X1 ZO bC)))|(go_at_call 67;refine(OO hP hE.len hi 13).mono ?_;rw[Kn.out];rintro e ws ⟨rfl,XD⟩;have RS:=hP.kept XD pG pG))
   case c3=>unfold maxLen;omega
   case c4=>omega
   case c5=>have:=ZX.size;have:=XD.size;have:=ZZ.size;have:=ZU.size;simp at *;omega
   exact jL
  ·exact jD
theorem aey (h:Ps w bp gt Z1 U st)(hE:Ve U)(hi:st.1<U.length):aq 116 #[ai bp,.func (.func 115) #[ai bp] #[]] w λe w'=>∃v,e=.returned v/\w'.ownsRow w.heap.size 129 4 v (Xg U (W8 U 3) st).1.length (Wf (Xg U (W8 U 3) st).1)/\w.grownBy w' (some bp)/\Ps w' bp gt Z1 U (Xg U (W8 U 3) st).2/\(Xg U (W8 U 3) st).2.1<U.length:=by
 obtain⟨i0,Y8,Ze,Zq,Zn⟩:=iE Ct;have HP:Hid (Ps w bp gt Z1 U st):=h;have bC:=h.lt;have aK:=h.VG;have hlen:=hE.len;obtain⟨Zw,hR⟩:∃R,R=Xg U (W8 U 3) st:=⟨_,rfl⟩;have aa:=GV hE 3 pF hi;have HS:Hid (VZ U (W8 U 3) U.length [ZT U st.1] (ZM U [3] st)=Zw):=uy;rw[<-hR];have aa:(ZM U [3] st).1<U.length:=aa.1;clear h hR;go_enter func116,ntmps116;go_wp2_with (go_at_call 115;refine(Cq HP.out hE.len hi).mono ?_;unfold XM;rintro e w1 ⟨rfl,ZZ,XA⟩)
 go_loopg [5] (U.length-(ZM U [3] st).1) (λn v wr=>ED U bp gt Z1 (W8 U 3) U6 129 4 Zw w n v wr)
 case atStart=>exact⟨[ZT U st.1],(ZM U [3] st),U.length,aa,rfl,J,HS,pG,XA.alloc _,MT (s:=4) (gp w1 _) ZZ.size rfl,ZZ.trans (di _ _ _)⟩
 case round=>
  obtain⟨acc,S,f,hi,rfl,hf,YO,Rh,hP,ZO,ZX⟩:=hrel;by_cases TZ:XZ U 13 S=true
  ·obtain⟨f,rfl⟩:∃g,f=g+1:=⟨f-1,J⟩;have b5:=GW TZ;obtain⟨⟨G,S2⟩,bg⟩:∃x,(W8 U 3) (ZM U [13] S)=x:=⟨_,rfl⟩;have hl:Hid (VZ U (W8 U 3) f (acc++[G]) S2=Zw):=qO;have bs:ZM U [13] S=(S.1+1,0):=LU b5.1 tY;have YS:=Ur hE (av:=[13]) rfl hi;have YH:=GV hE 3 pF YS;rw[bg]at YH;have hS:S.1<S2.1:=p9;have YH:=YH.1;simp only at YH;have Kn:Hid (XZ U 13 S=true):=TZ;have HC:Hid (∀W:A,Ps W bp gt Z1 U (ZM U [13] S)->aq 115 #[ai bp] W λe w'=>e=.returned (.agg #[Y (Z6 G),.string G.s,Y (ZW G),Y G.line])/\W.grownBy w' (some bp)/\Ps w' bp gt Z1 U S2):=λW hW=>by
    have q:=Cq hW hE.len YS;have e1:ZT U (ZM U [13] S).1=G:=iJ Prod.fst bg;have e2:ZM U [3] (ZM U [13] S)=S2:=iJ Prod.snd bg;rw[e1,e2]at q;exact q
   clear TZ b5 YO bg bs;go_wp2_with (first|(at_builtin;refine ey _ rfl _ _ 85 rfl w.heap.size 129 i0 (.agg #[Y 0,.string .empty,Y 0,Y 0]) 4 40 underlying85 Y8 Ze Zq Zn rfl pF _ _ _ rfl (Vu.alloc _) (ah w2.heap.size) 1 1 (U6 G) rfl rfl (World.news_of_block (gp _ _)) (xS G) ?c3 ?c4 ?c5 ?_)|(go_at_call 115;refine(HC.out _ XA).mono ?_;rintro e w2 ⟨rfl,ZU,U5⟩;have Vu:=Ue.kept ZU (X1 ZO bC))|(go_at_call 69;refine(Qc (RS.alloc _) hE.len hi [13] ws.heap.size 1 pF (Qb [13] (gp ws _)) pG).mono ?_;rintro e w1 ⟨rfl,ZZ,XA⟩;have Ue:=(((ZO.kept XD (XY _)).alloc _).kept ZZ (X1 ZO bC)))|(go_at_call 67;refine(OO hP hE.len hi 13).mono ?_;rw[Kn.out];rintro e ws ⟨rfl,XD⟩;have RS:=hP.kept XD pG pG))
   case c3=>unfold maxLen;omega
   case c4=>omega
   case c5=>have:=ZX.size;have:=XD.size;have:=ZZ.size;have:=ZU.size;simp at *;omega
   exact jL
  ·exact jD
def OM (g:Ud):ay:=[Y (Z6 g.first),.string g.first.s,Y (ZW g.first),Y g.first.line,Y (Z6 g.name),.string g.name.s,Y (ZW g.name),Y g.name.line]
def Cj (l:List Ud):ay:=l.flatMap OM
theorem aez (g:Ud):∀u∈OM g,u.oneCell'=true:=by
 intro u hu;simp[OM]at hu;rcases hu with rfl|rfl|rfl|rfl|rfl|rfl|rfl|rfl<;>rfl
theorem aeA:(prog.info? 194).map (λi=>(i.zero,i.size,i.bytes))=some (some (.agg #[Y 0,.string .empty,Y 0,Y 0,Y 0,.string .empty,Y 0,Y 0]),8,80):=pH
theorem aeB (h:Ps w bp gt Z1 U st)(hE:Ve U)(hi:st.1<U.length):aq 118 #[ai bp,.func (.func 119) #[ai bp] #[]] w λe w'=>∃v,e=.returned v/\w'.ownsRow w.heap.size 194 8 v (Xg U (Xh U) st).1.length (Cj (Xg U (Xh U) st).1)/\w.grownBy w' (some bp)/\Ps w' bp gt Z1 U (Xg U (Xh U) st).2/\(Xg U (Xh U) st).2.1<U.length:=by
 obtain⟨i0,Y8,Ze,Zq,Zn⟩:=iE aeA;have HP:Hid (Ps w bp gt Z1 U st):=h;have bC:=h.lt;have aK:=h.VG;have hlen:=hE.len;obtain⟨Zw,hR⟩:∃R,R=Xg U (Xh U) st:=⟨_,rfl⟩;have aa:=EF hE hi;obtain⟨⟨G1,S1⟩,aG⟩:∃x,Xh U st=x:=⟨_,rfl⟩;have HS:Hid (VZ U (Xh U) U.length [G1] S1=Zw):=by rw[Hid,hR];unfold Xg;rw[aG]
 have We:Hid (Xh U st=(G1,S1)):=aG;rw[<-hR];rw[aG]at aa;have aa:S1.1<U.length:=aa.1;clear h hR aG;go_enter func118,ntmps118;go_wp2_with (go_at_call 119;refine(xW HP.out hE hi).mono ?_;rw[We.out];unfold xX;rintro e w1 ⟨rfl,ZZ,XA⟩)
 go_loopg [5] (U.length-S1.1) (λn v wr=>ED U bp gt Z1 (Xh U) OM 194 8 Zw w n v wr)
 case atStart=>exact⟨[G1],S1,U.length,aa,rfl,J,HS,pG,XA.alloc _,MT (s:=8) (gp w1 _) ZZ.size rfl,ZZ.trans (di _ _ _)⟩
 case round=>
  obtain⟨acc,S,f,hi,rfl,hf,YO,Rh,hP,ZO,ZX⟩:=hrel;by_cases TZ:XZ U 13 S=true
  ·obtain⟨f,rfl⟩:∃g,f=g+1:=⟨f-1,J⟩;have b5:=GW TZ;obtain⟨⟨G,S2⟩,bg⟩:∃x,(Xh U) (ZM U [13] S)=x:=⟨_,rfl⟩;have hl:Hid (VZ U (Xh U) f (acc++[G]) S2=Zw):=qO;have bs:ZM U [13] S=(S.1+1,0):=LU b5.1 tY;have YS:=Ur hE (av:=[13]) rfl hi;have YH:=EF hE YS;rw[bg]at YH;have hS:S.1<S2.1:=p9;have YH:=YH.1;simp only at YH;have Kn:Hid (XZ U 13 S=true):=TZ;have HC:Hid (∀W:A,Ps W bp gt Z1 U (ZM U [13] S)->aq 119 #[ai bp] W λe w'=>e=.returned (.agg #[Y (Z6 G.first),.string G.first.s,Y (ZW G.first),Y G.first.line,Y (Z6 G.name),.string G.name.s,Y (ZW G.name),Y G.name.line])/\W.grownBy w' (some bp)/\Ps w' bp gt Z1 U S2):=λW hW=>by
    have q:=xW hW hE YS;rw[bg]at q;exact q
   clear TZ b5 YO bg bs;go_wp2_with (first|(at_builtin;refine ey _ rfl _ _ 135 rfl w.heap.size 194 i0 (.agg #[Y 0,.string .empty,Y 0,Y 0,Y 0,.string .empty,Y 0,Y 0]) 8 80 underlying135 Y8 Ze Zq Zn rfl pF _ _ _ rfl (Vu.alloc _) (ah w2.heap.size) 1 1 (OM G) rfl rfl (World.news_of_block (gp _ _)) (aez G) ?c3 ?c4 ?c5 ?_)|(go_at_call 119;refine(HC.out _ XA).mono ?_;rintro e w2 ⟨rfl,ZU,U5⟩;have Vu:=Ue.kept ZU (X1 ZO bC))|(go_at_call 69;refine(Qc (RS.alloc _) hE.len hi [13] ws.heap.size 1 pF (Qb [13] (gp ws _)) pG).mono ?_;rintro e w1 ⟨rfl,ZZ,XA⟩;have Ue:=(((ZO.kept XD (XY _)).alloc _).kept ZZ (X1 ZO bC)))|(go_at_call 67;refine(OO hP hE.len hi 13).mono ?_;rw[Kn.out];rintro e ws ⟨rfl,XD⟩;have RS:=hP.kept XD pG pG))
   case c3=>unfold maxLen;omega
   case c4=>omega
   case c5=>have:=ZX.size;have:=XD.size;have:=ZZ.size;have:=ZU.size;simp at *;omega
   exact jL
  ·exact jD
end Go.Proofs.YthpcbbnabnlanaaGreatDoor
