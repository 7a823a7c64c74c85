import Derived.Test.YthpcbbnabnlanaaGreatDoorM24
import Derived.Test.YthpcbbnabnlanaaGreatDoorM27
import Derived.Deep.Slices
import Derived.ChangeSlices
namespace Go.Proofs.YthpcbbnabnlanaaGreatDoor
set_option maxRecDepth 100000
open Go.Proofs.Tryz
set_option linter.all false
section
open Go.ChangeShapes Go.WideShapes Go.ChangeAt Go.RowKit Go.Deep
variable {H:Type}{enc:TypeId×aF->H}{W:A}
theorem aa3:prog.cellsOf 63=7:=pH
theorem Fw:prog.cellsOf 3=1:=pH
theorem ajU:prog.cellsOf 9=1:=pH
theorem ajV:prog.cellsOf 33=1:=pH
theorem ajW:prog.cellsOf 4=1:=pH
theorem AL (b o j:Nat):((O b o):Addr).add j=(O b (o+j)):=by unfold Addr.add;split<;>simp_all
theorem JG {n:Int}(h:(Lit.int .i64 n).wf=true):-9223372036854775808<=n/\n<=9223372036854775807:=by
 simp only[Lit.wf,eC,ee]at h;exact h
structure ajX (w:A)(o:TR)(Z7:az):Prop where
 len:Z7.length=o.vn
 lit:∀x∈Z7,-9223372036854775808<=x/\x<=9223372036854775807
 at_:∀j x,Z7[j]?=some x->∃g off,o.va=some (O g off)/\g<w.heap.size/\w.cell? (O g (off+j))=some (Y x)
 nil:o.va=none->o.vc=0
structure AK (w:A)(o:TR)(d:DataW H):Prop where
 on:-9223372036854775808<=o.on/\o.on<=9223372036854775807
 od:-9223372036854775808<=o.od/\o.od<=9223372036854775807
 bu:-9223372036854775808<=o.bu/\o.bu<=9223372036854775807
 Z7:∃Z7,ajX w o Z7
 bulk:o.vn<=Rows.uptoBulk d
theorem aa4 {w:A}{b o:Nat}{v:aF}(h:w.cell? (O b o)=some v):b<w.heap.size:=by
 rcases ib b w.heap.size with q|q
 ·exact q
 ·simp[World.cell?,bD q]at h
theorem aa5 (l:List (DataW H)):l.length<=Rows.uptoBulkAll l:=by
 induction l with
 |nil=>simp[Rows.uptoBulkAll]
 |cons x r ih=>
  have:1<=Rows.uptoBulk x:=by
   cases x with
   |lit l=>cases l<;>simp[Rows.uptoBulk]
   |nil=>simp[Rows.uptoBulk]
   |ptr d=>simp[Rows.uptoBulk]
   |slice elems spare=>simp[Rows.uptoBulk]
   |agg parts=>simp[Rows.uptoBulk]
   |iface t d=>simp[Rows.uptoBulk]
   |map entries=>simp[Rows.uptoBulk]
   |held h=>simp[Rows.uptoBulk]
  simp only[Rows.uptoBulkAll,eM];omega
theorem ajY {d:DataW H}{l:List (DataW H)}(h:d∈l):Rows.uptoBulk d<=Rows.uptoBulkAll l:=by
 induction l with
 |nil=>cases h
 |cons x r ih=>
  simp only[Rows.uptoBulkAll];rcases gH.1 h with e|e
  ·subst e;omega
  ·have:=ih e;omega
theorem ajZ {n:Nat}{cs:ay}{x:DataW H×List MemPlace}(h:DataW.trod enc prog W 0 (λ_=>true) true n 63 cs=some x):∃o:TR,cs=o.cells.toList/\AK W o x.1:=by
 obtain⟨xs,k,I,aP,aH,a8,hf⟩:=DataW.trod_struct underlying63 h;rw[aa3]at aH
 match xs,a8,cs,aH with
 |[y0,y1,y2,y3,y4,y5,y6],_,[v0,v1,v2,v3,v4,v5,v6],_=>
  have g0:DataW.trod enc prog W 0 (λ_=>true) true k 3 [v0]=some y0:=by
   have q:DataW.trod enc prog W 0 (λ_=>true) true k 3 (([v0,v1,v2,v3,v4,v5,v6].drop 0).take (prog.cellsOf 3))=some y0:=hf 0 _ rfl
   rw[Fw]at q;exact q
  have g1:DataW.trod enc prog W 0 (λ_=>true) true k 3 [v1]=some y1:=by
   have q:DataW.trod enc prog W 0 (λ_=>true) true k 3 (([v0,v1,v2,v3,v4,v5,v6].drop 1).take (prog.cellsOf 3))=some y1:=hf 1 _ rfl
   rw[Fw]at q;exact q
  have g2:DataW.trod enc prog W 0 (λ_=>true) true k 9 [v2]=some y2:=by
   have q:DataW.trod enc prog W 0 (λ_=>true) true k 9 (([v0,v1,v2,v3,v4,v5,v6].drop 2).take (prog.cellsOf 9))=some y2:=hf 2 _ rfl
   rw[ajU]at q;exact q
  have g3:DataW.trod enc prog W 0 (λ_=>true) true k 33 [v3]=some y3:=by
   have q:DataW.trod enc prog W 0 (λ_=>true) true k 33 (([v0,v1,v2,v3,v4,v5,v6].drop 3).take (prog.cellsOf 33))=some y3:=hf 3 _ rfl
   rw[ajV]at q;exact q
  have g4:DataW.trod enc prog W 0 (λ_=>true) true k 3 [v4]=some y4:=by
   have q:DataW.trod enc prog W 0 (λ_=>true) true k 3 (([v0,v1,v2,v3,v4,v5,v6].drop 4).take (prog.cellsOf 3))=some y4:=hf 4 _ rfl
   rw[Fw]at q;exact q
  have g5:DataW.trod enc prog W 0 (λ_=>true) true k 3 [v5]=some y5:=by
   have q:DataW.trod enc prog W 0 (λ_=>true) true k 3 (([v0,v1,v2,v3,v4,v5,v6].drop 5).take (prog.cellsOf 3))=some y5:=hf 5 _ rfl
   rw[Fw]at q;exact q
  have g6:DataW.trod enc prog W 0 (λ_=>true) true k 4 [v6]=some y6:=by
   have q:DataW.trod enc prog W 0 (λ_=>true) true k 4 (([v0,v1,v2,v3,v4,v5,v6].drop 6).take (prog.cellsOf 4))=some y6:=hf 6 _ rfl
   rw[ajW]at q;exact q
  obtain⟨a0,e0,_,w0⟩:=fU underlying3 g0;obtain⟨a1,e1,_,w1⟩:=fU underlying3 g1;obtain⟨s2,e2,_,w2⟩:=DataW.trod_string underlying9 g2;obtain⟨a4,e4,_,w4⟩:=fU underlying3 g4;obtain⟨a5,e5,_,w5⟩:=fU underlying3 g5;obtain⟨b6,e6,_⟩:=DataW.trod_bool underlying4 g6;simp only[fq,iI]at e0 e1 e2 e4 e5 e6;subst e0 e1 e2 e4 e5 e6 aP;rcases open_ints underlying33 underlying3 Fw g3 with⟨h3,hy⟩|⟨a,len,cap,zs,h3,_,aa,cA,af,hy,ah,aj⟩
  ·simp only[fq,iI]at h3;subst h3;exact⟨⟨a0,a1,s2,none,0,0,a4,a5,b6⟩,rfl,JG w1,JG w4,JG w5,⟨[],rfl,(λx hx=>qA),(λj x hx=>ue),(λ_=>rfl)⟩,iz _⟩
  ·simp only[fq,iI]at h3;subst h3 hy;simp only[iP]at af;refine⟨⟨a0,a1,s2,some a,len,cap,a4,a5,b6⟩,rfl,JG w1,JG w4,JG w5,⟨zs.take len,by simp;omega,λx hx=>JG (aj x (cy hx)),λj x hx=> ?_,λe=>pL⟩,?_⟩
   ·have hj:j<zs.length:=by
     have:=(aU.1 hx).1;simp at this;omega
    have aG:zs[j]?=some x:=by
     rw[dz]at hx;split at hx
     ·exact hx
     ·cases hx
    have q:=ah j hj;rw[aN,aG,eY]at q;obtain⟨b,o,sp⟩:=a;have bW:sp=none:=by simpa[Addr.add]using World.cell?_spot (ah 0 J)
    subst bW;have q':W.cell? (O b (o+j))=some (Y x):=by rw[<-AL];exact q
    exact⟨b,o,rfl,aa4 q',q'⟩
   ·simp only[gG,gR,Rows.uptoBulk,Rows.uptoBulkAll];have:=aa5 (H:=H) (lits .i64 (zs.take len));simp[lits]at this⊢;omega
theorem aj0 {v:aF}{d:DataW H}{ps:List MemPlace}{b0:Nat}(ar:Value.okWide prog W .any b0 22 v)(h:DataW.Trod enc prog W 0 (λ_=>true) true 22 v d ps):∃ops:List TR,AR W v ops/\ops.length<=Rows.uptoBulk d/\∀o∈ops,∃d':DataW H,AK W o d'/\Rows.uptoBulk d'<=Rows.uptoBulk d:=by
 obtain⟨a,len,cap,rfl⟩:=okWide_slice underlying22 ar;obtain⟨fuel,hf⟩:=h;rcases open_slice underlying22 hf with⟨hc,hx⟩|⟨a',len',UH,m,n,D,Pl,hc,_,aa,cA,ai,hx,bg⟩
 ·simp only[Value.cells]at hc;simp at hc;obtain⟨rfl,rfl,rfl⟩:=hc;exact⟨[],.inl ⟨rfl,_,_,rfl⟩,iz _,λo ho=>by cases ho⟩
 ·simp only[Value.cells]at hc;simp at hc;obtain⟨rfl,rfl,rfl⟩:=hc;simp only[iP]at ai;subst ai;simp only[gK]at hx;obtain⟨rfl,_⟩:=hx;have each:∀i,i<len->∃o:TR,W.cells? 0 (a'.add (i*7)) 7=some o.cells.toList/\AK W o (D i):=λi hi=>by
   obtain⟨aw,F,h2⟩:=bg i J;rw[aa3]at F;obtain⟨o,rfl,ho⟩:=ajZ h2;exact⟨o,F,ho⟩
  haveI:Inhabited TR:=⟨⟨0,0,.empty,none,0,0,0,0,false⟩⟩
  obtain⟨anU,hO⟩:=choose_lt each;have Yc:∀i,i<len->Rows.uptoBulk (D i)<=Rows.uptoBulk (DataW.slice ((List.range len).map D) ((List.range (m-len)).map λj=>D (len+j))):=λi hi=>by
   have:D i∈(List.range len).map D:=gU.2 ⟨i,fX.2 hi,rfl⟩;have:=ajY this;simp only[Rows.uptoBulk];omega
  refine⟨(List.range len).map anU,?_,?_,λo ho=> ?_⟩
  ·cases len with
   |zero=>exact .inl ⟨rfl,_,_,rfl⟩
   |succ len=>
    obtain⟨b,off,sp⟩:=a';have c0:=(World.cells?_some (hO 0 J).1).2.2 0 J;have bW:sp=none:=by
     have q:W.cell? (((⟨b,off,sp⟩:Addr).add (0*7)).add 0)=some (Y (anU 0).kd):=c0;simpa[Addr.add]using World.cell?_spot q
    subst bW;have cell:∀i o,((List.range (len+1)).map anU)[i]?=some o->∀j u,o.cells[j]?=some u->ak W b (off+i*7+j) u:=λi o ho j u hu=>by
     have hi:i<len+1:=by
      have:=(aU.1 ho).1;simpa using this
     have e:anU i=o:=by simpa[hi]using ho
     have hj:j<7:=by
      have:=(aM.1 hu).1;simpa[TR.cells]using this
     have q:=(World.cells?_some (hO i hi).1).2.2 j hj;rw[e]at q;have q2:o.cells.toList[j]?=some u:=by rw[Array.getElem?_toList];exact hu
     rw[q2,AL,AL]at q;exact q
    refine .inr ⟨b,off,m,pG,?_,cell⟩;exact aa4 (cell 0 (anU 0) pG 0 _ rfl)
  ·simp only[fy,List.length_range];have:=aa5 (H:=H) ((List.range len).map D);simp only[fy,List.length_range]at this;simp only[Rows.uptoBulk];omega
  ·obtain⟨i,hi,rfl⟩:=gU.1 ho;exact⟨D i,(hO i (fX.1 hi)).2,Yc i (fX.1 hi)⟩
end
end Go.Proofs.YthpcbbnabnlanaaGreatDoor
