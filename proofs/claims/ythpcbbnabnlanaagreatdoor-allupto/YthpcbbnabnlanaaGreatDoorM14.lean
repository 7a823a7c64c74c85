import Derived.Test.YthpcbbnabnlanaaGreatDoorM01
import Derived.Test.YthpcbbnabnlanaaGreatDoorM02
import Derived.Deep.AppendLies
namespace Go.Proofs.YthpcbbnabnlanaaGreatDoor
set_option maxHeartbeats 20000000
set_option maxRecDepth 100000
open Go.Proofs.Tryz
open Go.RowKit
set_option linter.all false
theorem afN:(prog.info? 170).map (λi=>(i.zero,i.size,i.bytes))=some (some (.agg #[.string .empty,.int .u8 0,Y 0]),3,32):=pH
def wY (s:aA)(w:A)(vl aj vi:aF)(wr:A):Prop:=
 ∃(i line f:Nat) (acc:List ZY),i<=s.size/\vi=Y i/\aj=Y line/\line<=i+1/\acc.length<=i/\s.size<=i+f/\Hid (Ym s f i line acc=lex s)/\
  wr.ownsRow w.heap.size 170 3 vl acc.length (Tq acc)/\Below w.heap.size w wr
theorem afO {s:aA}{w wr w1:A}{vl v':aF}{o:Obj}{i k line f:Nat}{kind:Int}{acc:List ZY}(Vo:i<k)(V3:k<=s.size)(GZ:line<=i+1)(Rh:acc.length<=i)(hf:s.size<=i+(f+1))(hl:Hid (Ym s f k line (acc++[⟨s.extract i k,kind,line⟩])=lex s))(ZO:wr.ownsRow w.heap.size 170 3 vl acc.length (Tq acc))(hb:Below w.heap.size w wr)(YA:w1.ownsRow w.heap.size 170 3 v' (acc.length+1) (Tq acc++[.string (s.extract i k),.int .u8 kind,Y line]))(YN:(wr.alloc o).grownBy w1 vl.ownBlock):wY s w v' (Y line) (Y k) w1:=by
 refine⟨k,line,f,acc++[⟨s.extract i k,kind,line⟩],V3,rfl,rfl,J,by simp;omega,J,hl,?_,?_⟩
 ·rw[adC];simpa using YA
 ·exact(hb.alloc hb.size o).grown YN (by have:=hb.size;simp;omega) (λj hj=>(ZO.lt j hj).1)
theorem Ej (w:A)(a b c:aF)(t:TypeId):∀j u,[a,b,c][j]?=some u->(w.alloc (.cells #[a,b,c] t)).cell? (((ah w.heap.size):Addr).add j)=some u:=
 World.news_of_block (gp w _)
theorem wX (s:aA)(i:Nat)(h:i<s.size):i+Wh s i<=s.size/\Wh s i<=2:=by
 unfold Wh;split
 ·rename_i h2;rcases ib (i+1) s.size with F|F
  ·omega
  ·rw[LZ F]at h2;simp[Sp]at h2
 ·split<;>omega
theorem Ei (a:aA)(b c:Int):∀u∈[Value.string a,.int .u8 b,Y c],u.oneCell'=true:=by
 intro u hu;simp at hu;rcases hu with rfl|rfl|rfl<;>rfl
def nQ{P:Prop}(h:P:=by
 intro v' w1 YA YN _;have R:=afO LY I GZ Rh hf hl ZO hb YA YN;clear YA YN ZO;go_wp2;go_roundw
 case rel=>exact R
 case measure=>simp[intOf];omega):P:=h
def pA{P:Prop}(h:P:=by
 rw[<-HL.out];exact CE ZR HN.out.1 HN.out.2.1 HN.out.2.2 (by rw[HT.out,<-he.out,iR N5])):P:=h
def nU{P:Prop}(h:P:=by
 have hl:Hid (lex s=(line,[],line)):=by
  exact pA
 have Eh:(8:Int)<(k:Int)-(i:Int):=J;have LY:i<=k:=J;clear N5;go_wp2_with (go_at_call 92;refine(CC _ _).mono ?_;rintro e w' ⟨rfl,Zf⟩;subst w')
 go_ret2
 rw[hl.out];exact⟨_,rfl,ed _ _ _ _,hb⟩):P:=h
def oq{P:Prop}(h:P:=by
 rw[<-HL.out,yG ZR HN.out.1 HN.out.2.1 HN.out.2.2 (by rw[ht];show k≠0;omega),ht];rfl):P:=h
def iV{P:Prop}(h:P:=by
 as_aux_lemma=>
  by_cases Eg:Rm (s.extract i k)=true
  ·by_cases N5:8<k-i
   ·exact nU
   ·have LY:i<k:=sG;have ht:Zd s i=(k,107):=ui;have hl:Hid (Ym s f k line (acc++[⟨s.extract i k,107,line⟩])=lex s):=by
     exact oq
    have Eh:(k:Int)-(i:Int)<=8:=J;clear N5 ht;go_wp2_with (first|(go_at_call 92;refine(CC _ _).mono ?_;rintro e w' ⟨rfl,Zf⟩;subst w')|(at_builtin;refine ey _ rfl _ _ 107 rfl w.heap.size 170 i0 (.agg #[.string .empty,.int .u8 0,Y 0]) 3 32 underlying107 hi Ze Zq Zn rfl pF _ _ _ rfl (ZO.alloc _) (ah wr.heap.size) 1 1 [.string (s.extract i k),.int .u8 107,Y line] rfl rfl (Ej _ _ _ _ _) (Ei _ _ _) ?c3 ?c4 ?c5 ?_))
    case c3=>unfold maxLen;omega
    case c4=>omega
    case c5=>have:=hb.size;simp;omega
    exact nQ
  ·have anP:Rm (s.extract i k)=false:=by simpa using Eg
   clear Eg;by_cases N5:8<k-i
   ·exact nU
   ·have LY:i<k:=sG;have ht:Zd s i=(k,110):=ui;have hl:Hid (Ym s f k line (acc++[⟨s.extract i k,110,line⟩])=lex s):=by
     exact oq
    have Eh:(k:Int)-(i:Int)<=8:=J;clear N5 ht;go_wp2_with (first|(go_at_call 92;refine(CC _ _).mono ?_;rintro e w' ⟨rfl,Zf⟩;subst w')|(at_builtin;refine ey _ rfl _ _ 107 rfl w.heap.size 170 i0 (.agg #[.string .empty,.int .u8 0,Y 0]) 3 32 underlying107 hi Ze Zq Zn rfl pF _ _ _ rfl (ZO.alloc _) (ah wr.heap.size) 1 1 [.string (s.extract i k),.int .u8 110,Y line] rfl rfl (Ej _ _ _ _ _) (Ei _ _ _) ?c3 ?c4 ?c5 ?_))
    case c3=>unfold maxLen;omega
    case c4=>omega
    case c5=>have:=hb.size;simp;omega
    exact nQ):P:=h
def oB{P:Prop}(h:P:=by
 go_ret2
 rw[hl.out];exact⟨_,rfl,ed _ _ _ _,hb⟩):P:=h
def iZ{P:Prop}(h:P:=by
 as_aux_lemma=>
  by_cases N5:10<k-i
  ·have hl:Hid (lex s=(line,[],line)):=by
    exact pA
   have Eh:(10:Int)<(k:Int)-(i:Int):=J;clear N5;go_wp2;exact oB
  ·have LY:i<k:=sG;have ht:Zd s i=(k,105):=by rw[HT.out,<-he.out,iQ N5]
   have hl:Hid (Ym s f k line (acc++[⟨s.extract i k,105,line⟩])=lex s):=by
    exact oq
   have Eh:(k:Int)-(i:Int)<=10:=J;clear N5 ht;go_wp2_with (at_builtin;refine ey _ rfl _ _ 107 rfl w.heap.size 170 i0 (.agg #[.string .empty,.int .u8 0,Y 0]) 3 32 underlying107 hi Ze Zq Zn rfl pF _ _ _ rfl (ZO.alloc _) (ah wr.heap.size) 1 1 [.string (s.extract i k),.int .u8 105,Y line] rfl rfl (Ej _ _ _ _ _) (Ei _ _ _) ?c3 ?c4 ?c5 ?_)
   case c3=>unfold maxLen;omega
   case c4=>omega
   case c5=>have:=hb.size;simp;omega
   exact nQ):P:=h
def jd{P:Prop}(h:P:=by
 as_aux_lemma=>
  by_cases hn:Wh s i=0
  ·have hl:Hid (lex s=(line,[],line)):=by
    rw[<-HL.out];exact CE ZR HN.out.1 HN.out.2.1 HN.out.2.2 (by rw[HT.out,iR hn])
   have cn:(((Wh s i:Nat):Int)==0)=true:=by rw[hn];rfl
   clear hn;go_wp2_with (first|(go_at_call 90;refine(EO _ _).mono ?_;rintro e w' ⟨rfl,Zf⟩;subst w')|(go_at_call 91;refine(EN _ _).mono ?_;rintro e w' ⟨rfl,Zf⟩;subst w')|(go_at_call 93;refine(yE _ _ _ hs ZR).mono ?_;rintro e w' ⟨rfl,Zf⟩;subst w')|(at_builtin;fail))
   exact oB
  ·have cn:(((Wh s i:Nat):Int)==0)=false:=uH;obtain⟨k,XH⟩:∃k,k=i+Wh s i:=⟨_,rfl⟩;have LY:i<k:=J;have I:k<=s.size:=J;have ht:Zd s i=(k,115):=by rw[HT.out,iQ hn,XH]
   have hl:Hid (Ym s f k line (acc++[⟨s.extract i k,115,line⟩])=lex s):=by
    exact oq
   have anQ:(i:Int)+((Wh s i:Nat):Int)=(k:Int):=J;clear hn ht XH;go_wp2_with (first|(go_at_call 90;refine(EO _ _).mono ?_;rintro e w' ⟨rfl,Zf⟩;subst w')|(go_at_call 91;refine(EN _ _).mono ?_;rintro e w' ⟨rfl,Zf⟩;subst w')|(go_at_call 93;refine(yE _ _ _ hs ZR).mono ?_;rintro e w' ⟨rfl,Zf⟩;subst w')|(at_builtin;refine ey _ rfl _ _ 107 rfl w.heap.size 170 i0 (.agg #[.string .empty,.int .u8 0,Y 0]) 3 32 underlying107 hi Ze Zq Zn rfl pF _ _ _ rfl (ZO.alloc _) (ah wr.heap.size) 1 1 [.string (s.extract i k),.int .u8 115,Y line] rfl rfl (Ej _ _ _ _ _) (Ei _ _ _) ?c3 ?c4 ?c5 ?_))
   case c3=>unfold maxLen;omega
   case c4=>omega
   case c5=>have:=hb.size;simp;omega
   exact nQ):P:=h
def oG{P:Prop}(h:P:=by
 go_wp2
 go_round
 case rel=>exact⟨k+1,J,pQ,WI⟩
 case measure=>simp[intOf];omega):P:=h
def jT{P:Prop}(h:P:=by
 have ck:(48:Int)<=(s[k].toNat:Int):=J;have Ka:(s[k].toNat:Int)<=57:=J;have WI:Hid (Zt Zk s (k+1)=Zt Zk s (i+1)):=by rw[<-Yi.out];exact(Qf _ _ _ VS uE).symm
 clear XK J9 Gj Yi;exact oG):P:=h
def kj{P:Prop}(h:P:=by
 go_wp2;go_roundw
 case rel=>exact⟨k,line,f,acc,I,rfl,rfl,by have:=HG.out;have:=he.out;omega,by have:=HG.out;have:=he.out;omega,by have:=HG.out;have:=he.out;omega,by rw[he.out];exact hl,ZO,hb⟩
 case measure=>have:=HG.out;have:=he.out;simp[intOf];omega):P:=h
def lf{P:Prop}(h:P:=by
 go_wp2
 go_round
 case rel=>exact⟨k+1,J,J,pQ,WI⟩
 case measure=>simp[intOf];omega):P:=h
def nK{P:Prop}(h:P:=by
 go_wp2_with (first|(go_at_call 90;refine(EO _ _).mono ?_;rintro e w' ⟨rfl,Zf⟩;subst w')|(go_at_call 91;refine(EN _ _).mono ?_;rintro e w' ⟨rfl,Zf⟩;subst w'))
 go_loop [8] (λvk=>∃k:Nat,k<=s.size/\vk=Y k/\Hid (Zt Zk s k=Zt Zk s (i+1))) (λvk=>s.size-(intOf vk).toNat)
 case atStart=>exact⟨i+1,J,pQ,rfl⟩
 case round=>
  obtain⟨k,I,rfl,Yi⟩:=hrel;by_cases VS:k<s.size
  ·have XK:=UC VS;by_cases J9:48<=ZI s k
   ·by_cases Gj:ZI s k<=57
    ·exact jT
    ·have ck:(48:Int)<=(s[k].toNat:Int):=J;have Ka:(57:Int)<(s[k].toNat:Int):=J;have he:Hid (k=Zt Zk s (i+1)):=by rw[<-Yi.out];exact(OS _ _ _ uE).symm
     clear XK J9 Gj Yi;exact iZ
   ·have ck:(s[k].toNat:Int)<48:=J;have he:Hid (k=Zt Zk s (i+1)):=by rw[<-Yi.out];exact(OS _ _ _ uE).symm
    clear XK J9 Yi;exact iZ
  ·have he:Hid (k=Zt Zk s (i+1)):=by rw[<-Yi.out];exact(Kw _ _ _ J).symm
   have V6:(s.size:Int)<=(k:Int):=J;clear VS Yi;exact iZ):P:=h
theorem Ef (s:aA)(w:A)(hs:s.size<=2000):aq 52 #[.string s] w λe w'=>∃v,e=.returned (.tuple #[v,Y (lex s).1])/\
   w'.ownsRow w.heap.size 170 3 v (lex s).2.1.length (Tq (lex s).2.1)/\Below w.heap.size w w':=by
 obtain⟨i0,hi,Ze,Zq,Zn⟩:=iE afN;go_enter func52,ntmps52;go_wp2
 go_loopw [4,5,6] (λvl aj vi wr=>wY s w vl aj vi wr) (λ_ _ vi _=>s.size-(intOf vi).toNat)
 case atStart=>exact⟨0,1,s.size,[],iz _,rfl,rfl,J,pG,J,rfl,ed _ _ _ _,iC _ _⟩
 case round=>
  obtain⟨i,line,f,acc,aN,rfl,rfl,GZ,Rh,hf,YO,ZO,hb⟩:=hrel;by_cases ZR:i<s.size
  ·obtain⟨f,rfl⟩:∃g,f=g+1:=⟨f-1,J⟩;have Yb:=UC ZR;by_cases XP:ZI s i=10
   ·have hl:Hid (Ym s f (i+1) (line+1) acc=lex s):=sZ;have ba:((s[i].toNat:Int)==10)=true:=by rw[<-Yb,XP];rfl
    clear Yb XP YO;go_wp2;go_roundw
    case rel=>exact⟨i+1,line+1,f,acc,J,pQ,pQ,J,J,J,hl,ZO,hb⟩
    case measure=>simp[intOf];omega
   ·have ba:((s[i].toNat:Int)==10)=false:=by rw[<-Yb];simpa using XP
    by_cases Yc:ZI s i=32\/ZI s i=9
    ·have hl:Hid (Ym s f (i+1) line acc=lex s):=sL;have ax:((s[i].toNat:Int)==32||(s[i].toNat:Int)==9)=true:=tA;clear XP YO Yb Yc;go_wp2
     all_goals go_roundw
     case rel=>exact⟨i+1,line,f,acc,J,pQ,rfl,J,J,J,hl,ZO,hb⟩
     case measure=>simp[intOf];omega
     case rel=>exact⟨i+1,line,f,acc,J,pQ,rfl,J,J,J,hl,ZO,hb⟩
     case measure=>simp[intOf];omega
    ·have ax:((s[i].toNat:Int)==32)=false:=sR;have c9:((s[i].toNat:Int)==9)=false:=sR;by_cases aw:ZI s i=37
     ·have hl:Hid (Ym s f (Zt Xn s i) line acc=lex s):=sS;have aH:((s[i].toNat:Int)==37)=true:=by rw[<-Yb,aw];rfl
      have b7:Zt Xn s i=Zt Xn s (i+1):=Qf _ _ _ ZR (by rw[aw];rfl);have aI:=RU Xn s (i+1);have aP:=QY Xn s i J;have HG:Hid (i+1<=Zt Xn s i/\Zt Xn s i<=s.size):=by unfold Hid;omega
      clear XP YO Yb Yc b7 aI aP aw;go_wp2
      go_loop [6] (λvk=>∃k:Nat,k<=s.size/\vk=Y k/\Hid (Zt Xn s k=Zt Xn s i)) (λvk=>s.size-(intOf vk).toNat)
      case atStart=>exact⟨i,J,rfl,rfl⟩
      case round=>
       obtain⟨k,I,rfl,Yi⟩:=hrel;by_cases VS:k<s.size
       ·have XK:=UC VS;by_cases aG:ZI s k=10
        ·have ck:((s[k].toNat:Int) != 10)=false:=by rw[<-XK,aG];rfl
         have he:Hid (k=Zt Xn s i):=by rw[<-Yi.out];exact(OS _ _ _ (by rw[aG];rfl)).symm
         clear XK aG Yi;exact kj
        ·have ck:((s[k].toNat:Int) != 10)=true:=by rw[<-XK];simpa using aG
         have WI:Hid (Zt Xn s (k+1)=Zt Xn s i):=by rw[<-Yi.out];exact(Qf _ _ _ VS (by have:=CF VS;simp[Xn];omega)).symm
         clear XK aG Yi;exact oG
       ·have he:Hid (k=Zt Xn s i):=by rw[<-Yi.out];exact(Kw _ _ _ J).symm
        have V6:(s.size:Int)<=(k:Int):=J;clear VS Yi;exact kj
     ·have aH:((s[i].toNat:Int)==37)=false:=by rw[<-Yb];simpa using aw
      by_cases aa:U7 s i=true
      ·have hle:=RU Zk s (i+1);have aP:=QY Zk s (i+1) J;have HG:Hid (i+1<=Zt Zk s (i+1)/\Zt Zk s (i+1)<=s.size):=⟨hle,aP⟩;have HT:Hid (Zd s i=if 10<Zt Zk s (i+1)-i then(0,105)else(Zt Zk s (i+1),105)):=by simp only[Hid,Zd,aa,iP]
       have HL:=YO;have HN:Hid (¬ZI s i=10/\¬(ZI s i=32\/ZI s i=9)/\¬ZI s i=37):=⟨XP,Yc,aw⟩;by_cases hd:Zk (ZI s i)=true
       ·have cd:Zk (s[i].toNat:Int)=true:=by rw[<-Yb];exact hd
        have UT:((s[i].toNat:Int)==45)=false:=by rw[<-Yb];simp[Zk]at hd;simp;omega
        clear YO XP Yc aw Yb hd aa hle aP;exact nK
       ·have cd:Zk (s[i].toNat:Int)=false:=by rw[<-Yb];simpa using hd
        have VR:ZI s i=45/\Zk (ZI s (i+1))=true:=by simpa[U7,hd]using aa
        have UT:((s[i].toNat:Int)==45)=true:=by rw[<-Yb,VR.1];rfl
        have YS:i+1<s.size:=by
         rcases ib (i+1) s.size with h|h
         ·exact h
         ·rw[LZ h]at VR;simp[Zk]at VR
        have bb:=UC YS;have c1:(48:Int)<=(s[i+1].toNat:Int):=rI;have c2:(s[i+1].toNat:Int)<=57:=rI;have au:(i:Int)+1<s.size:=J;clear YO XP Yc aw Yb hd aa hle aP VR bb;exact nK
      ·have af:U7 s i=false:=by simpa using aa
       have HN:Hid (¬ZI s i=10/\¬(ZI s i=32\/ZI s i=9)/\¬ZI s i=37):=⟨XP,Yc,aw⟩;have HL:=YO;have aK:Zk (ZI s i)=false:=by
        cases h:Zk (ZI s i)with
        |false=>rfl
        |true=>simp[U7,h]at af
       have cd:Zk (s[i].toNat:Int)=false:=by rw[<-Yb];exact aK
       by_cases O:Vp (ZI s i)=true
       ·have hle:=RU YC s (i+1);have aP:=QY YC s (i+1) J;have HG:Hid (i+1<=Zt YC s (i+1)/\Zt YC s (i+1)<=s.size):=⟨hle,aP⟩;have HT:Hid (Zd s i=if 8<Zt YC s (i+1)-i then(0,110)else(Zt YC s (i+1),if Rm (s.extract i (Zt YC s (i+1)))then 107 else 110)):=by
         simp only[Hid,Zd,af,O,iP,dv,iK]
        have cl:Vp (s[i].toNat:Int)=true:=by rw[<-Yb];exact O
        have UT:((s[i].toNat:Int)==45)=false:=by rw[<-Yb];simp[Vp]at O;simp;omega
        clear YO XP Yc aw Yb aa af aK O hle aP;go_wp2_with (first|(go_at_call 90;refine(EO _ _).mono ?_;rintro e w' ⟨rfl,Zf⟩;subst w')|(go_at_call 91;refine(EN _ _).mono ?_;rintro e w' ⟨rfl,Zf⟩;subst w'))
        go_loop [8] (λvk=>∃k:Nat,i+1<=k/\k<=s.size/\vk=Y k/\Hid (Zt YC s k=Zt YC s (i+1))) (λvk=>s.size-(intOf vk).toNat)
        case atStart=>exact⟨i+1,J,J,pQ,rfl⟩
        case round=>
         obtain⟨k,cI,I,rfl,Yi⟩:=hrel;by_cases VS:k<s.size
         ·have XK:=UC VS;by_cases ak:97<=ZI s k
          ·have ck:(97:Int)<=(s[k].toNat:Int):=J;by_cases av:ZI s k<=122
           ·have Ka:(s[k].toNat:Int)<=122:=J;have WI:Hid (Zt YC s (k+1)=Zt YC s (i+1)):=by rw[<-Yi.out];exact(Qf _ _ _ VS qH).symm
            clear XK ak av Yi;exact lf
           ·have Ka:(122:Int)<(s[k].toNat:Int):=J;have he:Hid (k=Zt YC s (i+1)):=by rw[<-Yi.out];exact(OS _ _ _ qH).symm
            clear XK ak av Yi;exact iV
          ·have ck:(s[k].toNat:Int)<97:=J;by_cases J9:48<=ZI s k
           ·have ay:(48:Int)<=(s[k].toNat:Int):=J;by_cases Gj:ZI s k<=57
            ·have Ka:(s[k].toNat:Int)<=57:=J;have WI:Hid (Zt YC s (k+1)=Zt YC s (i+1)):=by rw[<-Yi.out];exact(Qf _ _ _ VS qH).symm
             clear XK ak J9 Gj Yi;exact lf
            ·have Ka:(57:Int)<(s[k].toNat:Int):=J;have he:Hid (k=Zt YC s (i+1)):=by rw[<-Yi.out];exact(OS _ _ _ qH).symm
             clear XK ak J9 Gj Yi;exact iV
           ·have ay:(s[k].toNat:Int)<48:=J;have he:Hid (k=Zt YC s (i+1)):=by rw[<-Yi.out];exact(OS _ _ _ qH).symm
            clear XK ak J9 Yi;exact iV
         ·have he:Hid (k=Zt YC s (i+1)):=by rw[<-Yi.out];exact(Kw _ _ _ J).symm
          have V6:(s.size:Int)<=(k:Int):=J;clear VS Yi;exact iV
       ·have ai:Vp (ZI s i)=false:=by simpa using O
        have cl:Vp (s[i].toNat:Int)=false:=by rw[<-Yb];exact ai
        have HT:Hid (Zd s i=if Wh s i=0 then(0,115)else(i+Wh s i,115)):=by
         simp only[Hid,Zd,af,ai,dv,iK]
        have HS:=wX s i ZR;by_cases VR:ZI s i=45
        ·have UT:((s[i].toNat:Int)==45)=true:=by rw[<-Yb,VR];rfl
         have ar:Zk (ZI s (i+1))=false:=by simpa[U7,VR,Zk]using af
         by_cases YS:i+1<s.size
         ·have bb:=UC YS;have au:(i:Int)+1<s.size:=J;rw[bb]at ar;by_cases Yu:(48:Int)<=(s[i+1].toNat:Int)
          ·have bn:(57:Int)<(s[i+1].toNat:Int):=by simp[Zk]at ar;omega
           clear YO XP Yc aw Yb aa af aK O ai VR ar bb;exact jd
          ·have az:(s[i+1].toNat:Int)<48:=J;clear YO XP Yc aw Yb aa af aK O ai VR ar bb Yu;exact jd
         ·have au:(s.size:Int)<=(i:Int)+1:=J;clear YO XP Yc aw Yb aa af aK O ai VR ar YS;exact jd
        ·have UT:((s[i].toNat:Int)==45)=false:=by rw[<-Yb];simpa using VR
         clear YO XP Yc aw Yb aa af aK O ai VR;exact jd
  ·obtain rfl:i=s.size:=J;have hl:Hid (lex s=(0,acc,line)):=sH;clear YO;go_wp2
   go_ret2
   rw[hl.out];exact⟨_,rfl,ZO,hb⟩
end Go.Proofs.YthpcbbnabnlanaaGreatDoor
