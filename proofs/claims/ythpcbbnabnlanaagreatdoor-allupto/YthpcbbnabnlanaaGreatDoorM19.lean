import Derived.Test.YthpcbbnabnlanaaGreatDoorM02
import Derived.Test.YthpcbbnabnlanaaGreatDoorM14
import Derived.Test.YthpcbbnabnlanaaGreatDoorM16
import Derived.Test.YthpcbbnabnlanaaGreatDoorM18
import Derived.Deep.LoopGhost
namespace Go.Proofs.YthpcbbnabnlanaaGreatDoor
set_option maxHeartbeats 2000000
set_option maxRecDepth 100000
open Go.Proofs.Tryz
open Go.RowKit
set_option linter.all false
theorem agH (s:aA)(i:Nat)(hi:i<s.size):(Zd s i).1<=s.size:=by
 have F:=QY Zk s (i+1) J;have h2:=QY YC s (i+1) J;have h3:=(wX s i hi).1;unfold Zd
 repeat' split
 all_goals simp only
 all_goals omega
theorem agI (s:aA)(f:Nat):∀(i line:Nat) (acc:List ZY),acc.length<=i->i<=s.size->(Ym s f i line acc).2.1.length<=s.size:=by
 induction f with
 |zero=>intro i line acc F h2;simp only[Ym];omega
 |succ f ih=>
  intro i line acc F h2;simp only[Ym];by_cases hi:i<s.size
  ·rw[iR hi];split
   ·exact ih _ _ _ J J
   ·split
    ·exact ih _ _ _ J J
    ·split
     ·exact ih _ _ _ (by have:=RU Xn s i;omega) (QY _ _ _ J)
     ·split
      ·simp
      ·rename_i ZP;exact ih _ _ _ (by have:=EP s i ZP;simp;omega) (agH s i hi)
  ·rw[iQ hi];simp only;omega
theorem F9 (s:aA):(lex s).2.1.length<=s.size:=agI s s.size 0 1 [] pG J
def Lq (s:aA)(R:Int):Int:=if R<0 then 1+(TY s s.size:Int)else R
theorem agJ (s:aA)(w:A)(hs:2000<s.size):aq 38 #[.string s] w λe w'=>e=.returned (.tuple #[.pointer none,Y 1,Y 0])/\w'=w:=by
 have bf:(2000:Int)<s.size:=J;go_enter func38,ntmps38;go_wp2
 go_ret3
 exact⟨rfl,rfl⟩
theorem agK (s:aA)(w:A)(hs:s.size<=2000)(hb:(lex s).1≠0):aq 38 #[.string s] w λe w'=>e=.returned (.tuple #[.pointer none,Y 2,Y ((lex s).1:Int)])/\Below w.heap.size w w':=by
 have bf:(s.size:Int)<=2000:=J;have ar:(0:Int)<((lex s).1:Int):=J;have HT:=Z8 (Ef s w hs);generalize (lex s).1=bad at hb ar HT⊢;go_enter func38,ntmps38;go_wp2_with fail;refine(Xd HT).mono ?_;rintro e w1 ⟨v,rfl,ZO,aa⟩;have HB:=Z8 aa;clear ZO aa;go_wp2
 go_ret3
 exact⟨rfl,HB.out⟩
def nz{P:Prop}(h:P:=by
 go_wp2
 go_ret3
 rw[Xu.out];exact⟨rfl,Vt.out⟩):P:=h
theorem agL (s:aA)(w:A)(hs:s.size<=2000)(hb:(lex s).1=0)(f:Nat)(hf:f<=1000000)(R:Int)(hR:Vl f [XF] (lex s).2.1=some R)(bE:R≠0):aq 38 #[.string s] w λe w'=>e=.returned (.tuple #[.pointer none,Y 3,Y (Lq s R)])/\Below w.heap.size w w':=by
 have bf:(s.size:Int)<=2000:=J;have ht:=Ef s w hs;rw[hb]at ht;have HT:=Z8 ht;have hlen:=F9 s;have HR:=Z8 hR;clear ht hb hR;generalize (lex s).2.1=U at *;have az:(R==0)=false:=by simpa using bE
 go_enter func38,ntmps38;go_wp2_with fail;refine(Xd HT).mono ?_;rintro e w1 ⟨v,rfl,ZO,aa⟩;have HB:=Z8 aa;have bW:∃gt Z1 a0,v=.slice a0 U.length Z1/\(U=[]\/a0=some (ah gt))/\(U≠[]->gt<w1.heap.size)/\∀j u,(Tq U)[j]?=some u->w1.cell? (O gt j)=some u:=by
  rcases Lt ZO with⟨F,h2⟩|⟨g,cap,F,h2,h3,h4⟩
  ·have:U=[]:=bA.1 F;exact⟨0,0,none,by rw[h2,F],.inl this,λh=>absurd this h,λj u hu=>by rw[this]at hu;simp[Tq]at hu⟩
  ·exact⟨g,cap,_,F,.inr rfl,λ_=>h3,h4⟩
 obtain⟨gt,Z1,a0,rfl,f1,f2,f3⟩:=bW;have HF:=Z8 (BC U gt Z1 a0 f1 w1 J f2 f3 f hf R HR.out);clear ZO aa f1 f2 f3 HT;go_wp2_with fail;refine(Xd HF).mono ?_;rintro e w2 ⟨rfl,aK⟩;have Vt:=Z8 (HB.out.trans (aK.mono HB.out.size));clear aK HF HB;by_cases aO:R<0
 ·have Xu:Hid (Lq s R=1+(TY s s.size:Int)):=by unfold Hid Lq;rw[iR aO]
  go_wp2
  go_loop [7,8] (λvl vi=>∃k:Nat,k<=s.size/\vi=Y k/\vl=Y (1+(TY s k:Int))) (λ_ vi=>s.size-(intOf vi).toNat)
  case atStart=>exact⟨0,J,rfl,rfl⟩
  case round=>
   obtain⟨k,I,rfl,rfl⟩:=hrel;have bQ:=adJ s k;by_cases ZR:k<s.size
   ·have XK:=UC ZR;by_cases XP:ZI s k=10
    ·have ba:((s[k].toNat:Int)==10)=true:=by rw[<-XK,XP];rfl
     have hn:Hid (TY s (k+1)=TY s k+1):=by unfold Hid;simp[TY,XP]
     clear XK XP;go_wp2
     go_round
     case rel=>exact⟨k+1,J,pQ,by rw[hn.out];go_num⟩
     case measure=>simp[intOf];omega
    ·have ba:((s[k].toNat:Int)==10)=false:=by rw[<-XK];simpa using XP
     have hn:Hid (TY s (k+1)=TY s k):=by unfold Hid;simp[TY,XP]
     clear XK XP;go_wp2
     go_round
     case rel=>exact⟨k+1,J,pQ,by rw[hn.out]⟩
     case measure=>simp[intOf];omega
   ·obtain rfl:k=s.size:=J;exact nz
 ·have Xu:Hid (Lq s R=R):=by unfold Hid Lq;rw[iQ aO]
  have aU:decide (R<0)=false:=by simpa using aO
  exact nz
def Iw (U:List ZY):Nat->List PX->Nat->Prop
 |i,[],j=>i=j
 |i,s::ss,j=>∃m,D4 U i s m/\m<j/\Iw U (m+1) ss j
def TV:List PX->SV->Zv->SV×Zv
 |[],M,st=>(M,st)
 |s::ss,M,st=>if st.1=0 then TV ss (Vk M s) (Sb M s st)else(M,st)
def wx (U:List ZY)(Z bm gt Z1 B:Nat)(Zw:SV×Zv)(W:A)(n:Nat)(_v:aF)(wr:A):Prop:=
 ∃(i:Nat) (ss:List PX) (M:SV) (st:Zv),n=ss.length/\i<=U.length/\Ix wr Z bm gt Z1 B U M i st/\Iw U i ss U.length/\Hid (TV ss M st=Zw)/\Um B [Z,bm] W wr
theorem wo {U:List ZY}{i j:Nat}{s:PX}(h:D4 U i s j):i<U.length:=(VE h.1).2.2
theorem agM (w:A)(gt Z1:Nat)(U:List ZY)(hn:U.length<=2000)(z:gt<w.heap.size)(Yl:∀j u,(Tq U)[j]?=some u->w.cell? (O gt j)=some u):Ix ((w.alloc (.cells #[aj gt U.length Z1,af,af,af] 116)).alloc (.cells #[ai w.heap.size,Y 0,Y 0,Y 0] 118))
   (w.heap.size+1) w.heap.size gt Z1 (w.heap.size+2) U ⟨[],[],[]⟩ 0 (0,0):=by
 have e1:((w.alloc (.cells #[aj gt U.length Z1,af,af,af] 116)).alloc (.cells #[ai w.heap.size,Y 0,Y 0,Y 0] 118)).heap[w.heap.size]?=some (.cells #[aj gt U.length Z1,af,af,af] 116):=by
  exact mG
 have e2:((w.alloc (.cells #[aj gt U.length Z1,af,af,af] 116)).alloc (.cells #[ai w.heap.size,Y 0,Y 0,Y 0] 118)).heap[w.heap.size+1]?=some (.cells #[ai w.heap.size,Y 0,Y 0,Y 0] 118):=by
  exact mM
 have g0:=(di w (.cells #[aj gt U.length Z1,af,af,af] 116) none).trans (di (w.alloc (.cells #[aj gt U.length Z1,af,af,af] 116)) (.cells #[ai w.heap.size,Y 0,Y 0,Y 0] 118) none);generalize ((w.alloc (.cells #[aj gt U.length Z1,af,af,af] 116)).alloc (.cells #[ai w.heap.size,Y 0,Y 0,Y 0] 118))=W at e1 e2 g0⊢;have Yw:w.heap.size+1<W.heap.size:=by
  rcases ib (w.heap.size+1) W.heap.size with h|h
  ·exact h
  ·rw[bD h]at e2;cases e2
 have cm:∀q u,(#[aj gt U.length Z1,af,af,af]:Array aF)[q]?=some u->W.cell? (O w.heap.size q)=some u:=λq u h=>by rw[cell_of_row W w.heap.size q _ _ _ e1];exact h
 have cw:∀q u,(#[ai w.heap.size,Y 0,Y 0,Y 0]:Array aF)[q]?=some u->W.cell? (O (w.heap.size+1) q)=some u:=λq u h=>by rw[cell_of_row W (w.heap.size+1) q _ _ _ e2];exact h
 have fm:∀q,W.frozen? (O w.heap.size q)=false:=λq=>by simp only[World.frozen?,e1];simp
 have fw:∀q,W.frozen? (O (w.heap.size+1) q)=false:=λq=>by simp only[World.frozen?,e2];simp
 exact⟨af,af,af,[],[],⟨⟨cw 0 _ rfl,cw 1 _ rfl,cw 2 _ rfl,cw 3 _ rfl,fw 1,fw 2,fw 3,Yw⟩,⟨cm 0 _ rfl,λj u hu=>g0.cell (Yl j u hu) pG,J,J⟩,cm 1 _ rfl,cm 2 _ rfl,cm 3 _ rfl,fm 1,fm 2,fm 3,
  ed _ _ _ _,ed _ _ _ _,ed _ _ _ _,λl hl=>by simp at hl,λr hr=>by simp at hr,J,J,J,J,J,J,J,hn,pG,pG,pG⟩,rfl,rfl⟩
theorem wm (s:aA)(w:A)(hs:s.size<=2000)(hb:(lex s).1=0)(ZP:(lex s).2.1≠[])(f:Nat)(hf:f<=1000000)(hR:Vl f [XF] (lex s).2.1=some 0)(ss:List PX)(av:Iw (lex s).2.1 0 ss (lex s).2.1.length):aq 38 #[.string s] w λe w'=>Below w.heap.size w w'/\
   (((TV ss ⟨[],[],[]⟩ (0,0)).2.1≠0/\e=.returned (.tuple #[.pointer none,Y (TV ss ⟨[],[],[]⟩ (0,0)).2.1,Y (TV ss ⟨[],[],[]⟩ (0,0)).2.2]))\/
   ((TV ss ⟨[],[],[]⟩ (0,0)).2.1=0/\∃Z bm gt Z1 B i,w.heap.size<=bm/\w.heap.size<=B/\w.heap.size<=gt/\e=.returned (.tuple #[ai bm,Y 0,Y 0])/\Ix w' Z bm gt Z1 B (lex s).2.1 (TV ss ⟨[],[],[]⟩ (0,0)).1 i (TV ss ⟨[],[],[]⟩ (0,0)).2)):=by
 have bf:(s.size:Int)<=2000:=J;have ht:=Ef s w hs;rw[hb]at ht;have HT:=Z8 ht;have hlen:=F9 s;have HR:=Z8 hR;have aG:=Z8 av;clear ht hb hR av;generalize (lex s).2.1=U at *;generalize a6:TV ss ⟨[],[],[]⟩ (0,0)=Zw;have Yn:=Z8 a6;have Ub:=Z8 ZP;clear a6 ZP;go_enter func38,ntmps38;go_wp2_with fail;refine(Xd HT).mono ?_;rintro e w1 ⟨v,rfl,ZO,aa⟩;have HB:=Z8 aa;obtain⟨gt,Z1,rfl,f1,f3,f4⟩:∃g cap,v=aj g U.length cap/\w.heap.size<=g/\g<w1.heap.size/\∀j u,(Tq U)[j]?=some u->w1.cell? (O g j)=some u:=by
  rcases Lt ZO with⟨F,h2⟩|h
  ·exact absurd (bA.1 F) Ub.out
  ·exact h
 have HF:=Z8 (BC U gt Z1 _ (.inr rfl) w1 J (λ_=>f3) f4 f hf 0 HR.out)
 have HG:=Z8 (iG f3 f4);have Tz:=Z8 f1;clear ZO aa f1 f3 f4 HT;go_wp2_with fail;refine(Xd HF).mono ?_;rintro e w2 ⟨rfl,aK⟩;have hM:=agM w2 gt Z1 U J (dH HG.out.1 aK.size) (λj u hu=>(aK.cell HG.out.1).trans (HG.out.2 j u hu))
 have HM:=Z8 hM;have Vt:=Z8 (HB.out.trans (aK.mono HB.out.size));clear aK HF HB HG hM;have Yc:=(Vt.out.alloc Vt.out.size (.cells #[aj gt U.length Z1,af,af,af] 116)).alloc (by have:=Vt.out.size;simp;omega) (.cells #[ai w2.heap.size,Y 0,Y 0,Y 0] 118);have aw:=Z8 Yc;have hle:=Vt.out.size;clear Yc Vt;go_wp2_with fail;generalize ((w2.alloc (.cells #[aj gt U.length Z1,af,af,af] 116)).alloc (.cells #[ai w2.heap.size,Y 0,Y 0,Y 0] 118))=W at HM aw⊢;generalize w2.heap.size=bm at HM hle⊢;have ax:Hid (wx U (bm+1) bm gt Z1 (bm+2) Zw W ss.length undef W):=⟨0,ss,_,_,rfl,J,HM.out,aG.out,Yn.out,Um.refl _ _ _⟩;clear HM aG Yn HR
 go_loopg [51] ss.length (λn v wr=>wx U (bm+1) bm gt Z1 (bm+2) Zw W n undef wr)
 case atStart=>exact ax
 case round=>
  clear ax;obtain⟨i,aI,M,st,rfl,hi,hM,hS,hR,aH⟩:=hrel;have HM:=Z8 hM;have au:=Z8 aH;obtain⟨vv,vl,vr,ls,rs,aZ,WG,WH⟩:=hM;obtain⟨c0,c1,c2,c3,f1,f2,f3,ZR⟩:=aZ.wk;have ay:Hid (Below w.heap.size w wr):=by
   have F:=au.out;have h2:=aw.out;exact⟨F.os.trans h2.os,F.tape.trans h2.tape,F.output.trans h2.output,gZ h2.size F.size,λk I=>(F.block k J pI).trans (h2.block k I)⟩
  clear aZ WG WH aH
  cases aI with
  |nil=>
   obtain rfl:i=U.length:=hS;have Xu:Hid (Zw=(M,st)):=hR.out.symm;clear hR;by_cases I:st.1=0
   ·have aC:(st.1==0)=true:=qz;have V3:(st.1 != 0)=false:=by simp[I]
    have HK:=Z8 I;clear I;go_wp2
    go_ret3
    rw[Xu.out];exact⟨ay.out,.inr ⟨HK.out,bm+1,bm,gt,Z1,bm+2,_,hle,J,Tz.out,rfl,HM.out⟩⟩
   ·have aC:(st.1==0)=false:=qz;have HK:=Z8 I;clear I;go_wp2;go_quiet (fail);go_wp2
    go_ret3
    rw[Xu.out];exact⟨below_drewN ay.out _,.inl ⟨HK.out,rfl⟩⟩
  |cons t aB=>
   obtain⟨m,YB,YM,Yh⟩:=hS;have bt:=wo YB;have dD:(i:Int)<U.length:=J;by_cases I:st.1=0
   ·have aC:(st.1==0)=true:=qz;have Xk:Hid (TV aB (Vk M t) (Sb M t st)=Zw):=by
     have:=hR.out;unfold TV at this;rw[iR I]at this;exact this
    have W6:=Z8 (agG wr (bm+1) bm gt Z1 (bm+2) U M i m st t HM.out YB);have Oz:=Z8 Yh;clear hR YB Yh I;go_wp2_with fail;refine(Xd W6).mono ?_;rintro e wa ⟨rfl,aM,aJ⟩;obtain⟨aL,aN,aP,aQ,aR,ak,y1,y2⟩:=aJ;have aS:Hid (Ix (wa.setCell (O (bm+1) 1) (Y ((m:Int)+1))) (bm+1) bm gt Z1 (bm+2) U (Vk M t) (m+1) (Sb M t st)):=
     ⟨aL,aN,aP,aQ,aR,ak.but ((Y9.refl [bm+1] wa).set (.inl pG) _ _) (ak.wk.Wv _) J,y1,y2⟩
    have aT:=Z8 ((au.out.trans aM).grown (ZC wa (bm+1) 1 (Y ((m:Int)+1))) ak.hB (λk e=>by cases e;exact .inl pG))
    clear c0 c1 c2 c3 f1 f2 f3;obtain⟨c0,c1,c2,c3,f1,f2,f3,_⟩:=ak.wk;clear aM ak y1 y2 W6;go_wp2
    go_roundg aB.length
    case measure=>simp
    case rel=>exact⟨m+1,aB,Vk M t,Sb M t st,rfl,J,aS.out,Oz.out,Xk.out,aT.out⟩
   ·have aC:(st.1==0)=false:=qz;have Xu:Hid (Zw=(M,st)):=by
     have:=hR.out;unfold TV at this;rw[iQ I]at this;exact this.symm
    clear hR YB Yh I;go_wp2;go_quiet (fail);go_wp2
    go_ret3
    rw[Xu.out];exact⟨below_drewN ay.out _,.inl ⟨by simpa using aC,rfl⟩⟩
theorem agN (s:aA)(w:A)(hs:s.size<=2000)(hb:(lex s).1=0)(ZP:(lex s).2.1=[])(f:Nat)(hf:f<=1000000)(hR:Vl f [XF] []=some 0):aq 38 #[.string s] w λe w'=>Below w.heap.size w w'/\∃bm,w.heap.size<=bm/\bm<w'.heap.size/\e=.returned (.tuple #[ai bm,Y 0,Y 0])/\
   ∃a0 cap,w'.heap[bm]?=some (.cells #[.slice a0 0 cap,af,af,af] 116):=by
 have bf:(s.size:Int)<=2000:=J;have ht:=Ef s w hs;rw[hb,ZP]at ht;have HT:=Z8 ht;have HR:=Z8 hR;clear ht hb hR ZP;go_enter func38,ntmps38;go_wp2_with fail;refine(Xd HT).mono ?_;rintro e w1 ⟨v,rfl,ZO,aa⟩;have HB:=Z8 aa;obtain⟨a0,cap,rfl⟩:=Ls ZO;have HF:=Z8 (BC [] 0 cap a0 (.inl rfl) w1 pG (λh=>absurd rfl h) (λj u hu=>by simp[Tq]at hu) f hf 0 HR.out)
 clear ZO aa HT HR;go_wp2_with fail;refine(Xd HF).mono ?_;rintro e w2 ⟨rfl,aK⟩;have Vt:=Z8 (HB.out.trans (aK.mono HB.out.size));have aw:=Z8 ((Vt.out.alloc Vt.out.size (.cells #[.slice a0 0 cap,af,af,af] 116)).alloc (by have:=Vt.out.size;simp;omega) (.cells #[ai w2.heap.size,Y 0,Y 0,Y 0] 118));have hle:=Vt.out.size;have e1:((w2.alloc (.cells #[.slice a0 0 cap,af,af,af] 116)).alloc (.cells #[ai w2.heap.size,Y 0,Y 0,Y 0] 118)).heap[w2.heap.size]?=some (.cells #[.slice a0 0 cap,af,af,af] 116):=by
  show((w2.heap.push _).push _)[w2.heap.size]?=_;rw[cK,iQ pG,cK,iR rfl]
 have ZR:w2.heap.size<((w2.alloc (.cells #[.slice a0 0 cap,af,af,af] 116)).alloc (.cells #[ai w2.heap.size,Y 0,Y 0,Y 0] 118)).heap.size:=pI;have HE:=Z8 (iG ZR e1);clear aK HF HB ZR e1 Vt;go_wp2_with fail
 go_loopg [51] 0 (λn v wr=>wr=((w2.alloc (.cells #[.slice a0 0 cap,af,af,af] 116)).alloc (.cells #[ai w2.heap.size,Y 0,Y 0,Y 0] 118)))
 case atStart=>rfl
 case round=>
  subst hrel;go_wp2
  go_ret3
  exact⟨aw.out,_,hle,HE.out.1,rfl,a0,cap,HE.out.2⟩
end Go.Proofs.YthpcbbnabnlanaaGreatDoor
