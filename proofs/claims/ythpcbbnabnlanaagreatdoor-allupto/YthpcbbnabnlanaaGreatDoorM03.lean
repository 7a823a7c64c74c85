import Derived.Test.YthpcbbnabnlanaaGreatDoorM00
import Derived.WalkKit
import Derived.Deep.AppendLies
import Derived.Deep.DrawnRows
import Derived.Deep.QuietTactic
import Derived.BigQuiet
import Derived.Laws.Rows
namespace Go.Proofs.YthpcbbnabnlanaaGreatDoor
open Go.RowKit
set_option linter.all false
theorem XN (w:A)(n:Nat)(row:Option Nat):w.grownBy (w.drewN n) row:=⟨rfl,rfl,rfl,iw _,λ_ _ _=>rfl⟩
theorem ZG (w:A)(row:Option Nat):w.grownBy w.drew row:=⟨rfl,rfl,rfl,iw _,λ_ _ _=>rfl⟩
theorem ZC (w:A)(b o:Nat)(u:aF):w.grownBy (w.setCell (O b o) u) (some b):=
 ⟨rfl,rfl,rfl,by simp[World.setCell],λk _ ZP=>dr _ _ _ _ (λe=>ZP (by rw[e]))⟩
structure Y9 (S:List Nat)(w w':A):Prop where
 os:w'.os=w.os
 tape:w'.tape=w.tape
 output:w'.output=w.output
 size:w.heap.size<=w'.heap.size
 block:∀k,k<w.heap.size->k∉S->w'.heap[k]?=w.heap[k]?
theorem Y9.refl (S:List Nat)(w:A):Y9 S w w:=⟨rfl,rfl,rfl,iw _,λ_ _ _=>rfl⟩
theorem Y9.grown {S:List Nat}{a b c:A}{row:Option Nat}(h:Y9 S a b)(z:b.grownBy c row)(hr:∀k,row=some k->k∈S\/a.heap.size<=k):Y9 S a c:=
 ⟨z.os.trans h.os,z.tape.trans h.tape,z.output.trans h.output,gZ h.size z.size,λi hi hn=>
  (z.block i (dH hi h.size) (λe=>by rcases hr i e.symm with q|q;exact hn q;omega)).trans (h.block i hi hn)⟩
theorem Y9.alloc {S:List Nat}{a b:A}(h:Y9 S a b)(o:Obj):Y9 S a (b.alloc o):=h.grown (di b o none) (λ_ e=>pL)
theorem Y9.drew {S:List Nat}{a b:A}(h:Y9 S a b):Y9 S a b.drew:=h.grown (ZG b none) (λ_ e=>pL)
theorem Y9.set {S:List Nat}{a b:A}(h:Y9 S a b){k:Nat}(I:k∈S\/a.heap.size<=k)(o:Nat)(u:aF):Y9 S a (b.setCell (O k o) u):=
 h.grown (ZC b k o u) (λ_ e=>by cases e;exact I)
theorem Y9.cell {S:List Nat}{w w':A}(h:Y9 S w w'){b:Nat}(hb:b<w.heap.size)(hn:b∉S)(o:Nat):w'.cell? (O b o)=w.cell? (O b o):=cJ (h.block b hb hn)
theorem Y9.mono {S S':List Nat}{w w':A}(h:Y9 S w w')(hs:∀k,k∈S->k∈S'):Y9 S' w w':=⟨h.os,h.tape,h.output,h.size,λk I hn=>h.block k I (λe=>hn (hs k e))⟩
theorem Z0 {w:A}{b:Nat}{cs:Array aF}{t:TypeId}(h:w.heap[b]?=some (.cells cs t (0,0)))(i:Nat)(v:aF)(hv:cs[i]?=some v):w.cell? (O b i)=some v:=by
 simp[World.cell?,h,hv]
theorem Zz {w:A}{b:Nat}{cs:Array aF}{t:TypeId}(h:w.heap[b]?=some (.cells cs t (0,0)))(i:Nat):w.frozen? (O b i)=false:=by
 simp[World.frozen?,h]
theorem N0 {w:A}{b:Nat}{t:TypeId}{a0 a1 a2 a3:aF}(h:w.heap[b]?=some (.cells #[a0,a1,a2,a3] t (0,0)))(v0 v1 v2 v3:aF):((((w.setCell (ah b) v0).setCell (O b 1) v1).setCell (O b 2) v2).setCell (O b 3) v3).heap[b]?=some (.cells #[v0,v1,v2,v3] t (0,0)):=by
 rw[eo _ _ _ _ _ _ (eo _ _ _ _ _ _ (eo _ _ _ _ _ _ (eo _ _ _ _ _ _ h)))];rfl
theorem EH (w:A)(b:Nat)(v0 v1 v2 v3:aF):w.grownBy ((((w.setCell (ah b) v0).setCell (O b 1) v1).setCell (O b 2) v2).setCell (O b 3) v3) (some b):=
 (((ZC w b 0 v0).trans (ZC _ b 1 v1)).trans (ZC _ b 2 v2)).trans (ZC _ b 3 v3)
theorem Ri {a b c:A}{k:Nat}(h:aB a b)(I:a.heap.size<=k)(g:b.grownBy c (some k)):aB a c:=
 ⟨g.os.trans h.os,g.tape.trans h.tape,g.output.trans h.output,gZ h.size g.size,λi hi hn=>
  (g.block i (dH hi h.size) (λe=>by injection e with e;omega)).trans (h.block i hi hn)⟩
end Go.Proofs.YthpcbbnabnlanaaGreatDoor
