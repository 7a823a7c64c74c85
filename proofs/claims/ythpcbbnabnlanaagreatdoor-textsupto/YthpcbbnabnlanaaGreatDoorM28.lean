import Derived.Test.YthpcbbnabnlanaaGreatDoorM12
import Derived.Test.YthpcbbnabnlanaaGreatDoorM27
import Derived.Deep.Slices
import Derived.ChangeSlices
namespace Go.Proofs.YthpcbbnabnlanaaGreatDoor
set_option linter.unusedVariables false
set_option linter.unusedSimpArgs false
section
set_option maxRecDepth 100000
open Go.ChangeShapes Go.WideShapes Go.ChangeAt Go.RowKit Go.Deep
variable {H : Type} {enc : TypeId × Value → H} {W : World}
theorem cellsOp : Tryz.prog.cellsOf 63 = 7 := by kernel_rfl
theorem cellsInt : Tryz.prog.cellsOf 3 = 1 := by kernel_rfl
theorem cellsStr : Tryz.prog.cellsOf 9 = 1 := by kernel_rfl
theorem cellsInts : Tryz.prog.cellsOf 33 = 1 := by kernel_rfl
theorem cellsBool : Tryz.prog.cellsOf 4 = 1 := by kernel_rfl
theorem add_none (b o j : Nat) : (⟨b,o,none⟩ : Addr).add j = ⟨b,o + j,none⟩ := by unfold Addr.add;split <;> simp_all
theorem wf64 {n : Int} (h : (Lit.int .i64 n).wf = true) : -9223372036854775808 ≤ n ∧ n ≤ 9223372036854775807 := by
 simp only [Lit.wf,Bool.and_eq_true,decide_eq_true_eq] at h
 exact h
structure ValsAt (w : World) (o : OpV) (vals : List Int) : Prop where
 len : vals.length = o.vn
 lit : ∀ x ∈ vals,-9223372036854775808 ≤ x ∧ x ≤ 9223372036854775807
 at_ : ∀ j x,vals[j]? = some x → ∃ g off,o.va = some ⟨g,off,none⟩ ∧ g < w.heap.size ∧ w.cell? ⟨g,off + j,none⟩ = some (.int .i64 x)
 nil : o.va = none → o.vc = 0
structure OpOk (w : World) (o : OpV) (d : DataW H) : Prop where
 on : -9223372036854775808 ≤ o.on ∧ o.on ≤ 9223372036854775807
 od : -9223372036854775808 ≤ o.od ∧ o.od ≤ 9223372036854775807
 bu : -9223372036854775808 ≤ o.bu ∧ o.bu ≤ 9223372036854775807
 vals : ∃ vals,ValsAt w o vals
 bulk : o.vn ≤ Rows.uptoBulk d
theorem cell_lt {w : World} {b o : Nat} {v : Value} (h : w.cell? ⟨b,o,none⟩ = some v) : b < w.heap.size := by
 rcases Nat.lt_or_ge b w.heap.size with q | q
 ·exact q
 ·simp [World.cell?,Array.getElem?_eq_none q] at h
theorem bulk_len (l : List (DataW H)) : l.length ≤ Rows.uptoBulkAll l := by
 induction l with
 | nil => simp [Rows.uptoBulkAll]
 | cons x r ih =>
  have : 1 ≤ Rows.uptoBulk x := by
   cases x with
   | lit l => cases l <;> simp [Rows.uptoBulk]
   | nil => simp [Rows.uptoBulk]
   | ptr d => simp [Rows.uptoBulk]
   | slice elems spare => simp [Rows.uptoBulk]
   | agg parts => simp [Rows.uptoBulk]
   | iface t d => simp [Rows.uptoBulk]
   | map entries => simp [Rows.uptoBulk]
   | held h => simp [Rows.uptoBulk]
  simp only [Rows.uptoBulkAll,List.length_cons];omega
theorem bulk_mem {d : DataW H} {l : List (DataW H)} (h : d ∈ l) : Rows.uptoBulk d ≤ Rows.uptoBulkAll l := by
 induction l with
 | nil => cases h
 | cons x r ih =>
  simp only [Rows.uptoBulkAll]
  rcases List.mem_cons.1 h with e | e
  ·subst e;omega
  ·have := ih e;omega
theorem open_op {n : Nat} {cs : List Value} {x : DataW H × List MemPlace} (h : DataW.trod enc Tryz.prog W 0 (fun _ => true) true n 63 cs = some x) : ∃ o : OpV,cs = o.cells.toList ∧ OpOk W o x.1 := by
 obtain ⟨xs,k,hk,hxy,hcl,hxl,hf⟩ := DataW.trod_struct Tryz.underlying63 h
 rw [cellsOp] at hcl
 match xs,hxl,cs,hcl with
 | [y0,y1,y2,y3,y4,y5,y6],_,[v0,v1,v2,v3,v4,v5,v6],_ =>
  have g0 : DataW.trod enc Tryz.prog W 0 (fun _ => true) true k 3 [v0] = some y0 := by
   have q : DataW.trod enc Tryz.prog W 0 (fun _ => true) true k 3 (([v0,v1,v2,v3,v4,v5,v6].drop 0).take (Tryz.prog.cellsOf 3)) = some y0 := hf 0 _ rfl
   rw [cellsInt] at q;exact q
  have g1 : DataW.trod enc Tryz.prog W 0 (fun _ => true) true k 3 [v1] = some y1 := by
   have q : DataW.trod enc Tryz.prog W 0 (fun _ => true) true k 3 (([v0,v1,v2,v3,v4,v5,v6].drop 1).take (Tryz.prog.cellsOf 3)) = some y1 := hf 1 _ rfl
   rw [cellsInt] at q;exact q
  have g2 : DataW.trod enc Tryz.prog W 0 (fun _ => true) true k 9 [v2] = some y2 := by
   have q : DataW.trod enc Tryz.prog W 0 (fun _ => true) true k 9 (([v0,v1,v2,v3,v4,v5,v6].drop 2).take (Tryz.prog.cellsOf 9)) = some y2 := hf 2 _ rfl
   rw [cellsStr] at q;exact q
  have g3 : DataW.trod enc Tryz.prog W 0 (fun _ => true) true k 33 [v3] = some y3 := by
   have q : DataW.trod enc Tryz.prog W 0 (fun _ => true) true k 33 (([v0,v1,v2,v3,v4,v5,v6].drop 3).take (Tryz.prog.cellsOf 33)) = some y3 := hf 3 _ rfl
   rw [cellsInts] at q;exact q
  have g4 : DataW.trod enc Tryz.prog W 0 (fun _ => true) true k 3 [v4] = some y4 := by
   have q : DataW.trod enc Tryz.prog W 0 (fun _ => true) true k 3 (([v0,v1,v2,v3,v4,v5,v6].drop 4).take (Tryz.prog.cellsOf 3)) = some y4 := hf 4 _ rfl
   rw [cellsInt] at q;exact q
  have g5 : DataW.trod enc Tryz.prog W 0 (fun _ => true) true k 3 [v5] = some y5 := by
   have q : DataW.trod enc Tryz.prog W 0 (fun _ => true) true k 3 (([v0,v1,v2,v3,v4,v5,v6].drop 5).take (Tryz.prog.cellsOf 3)) = some y5 := hf 5 _ rfl
   rw [cellsInt] at q;exact q
  have g6 : DataW.trod enc Tryz.prog W 0 (fun _ => true) true k 4 [v6] = some y6 := by
   have q : DataW.trod enc Tryz.prog W 0 (fun _ => true) true k 4 (([v0,v1,v2,v3,v4,v5,v6].drop 6).take (Tryz.prog.cellsOf 4)) = some y6 := hf 6 _ rfl
   rw [cellsBool] at q;exact q
  obtain ⟨a0,e0,_,w0⟩ := DataW.trod_int Tryz.underlying3 g0
  obtain ⟨a1,e1,_,w1⟩ := DataW.trod_int Tryz.underlying3 g1
  obtain ⟨s2,e2,_,w2⟩ := DataW.trod_string Tryz.underlying9 g2
  obtain ⟨a4,e4,_,w4⟩ := DataW.trod_int Tryz.underlying3 g4
  obtain ⟨a5,e5,_,w5⟩ := DataW.trod_int Tryz.underlying3 g5
  obtain ⟨b6,e6,_⟩ := DataW.trod_bool Tryz.underlying4 g6
  simp only [List.cons.injEq,and_true] at e0 e1 e2 e4 e5 e6
  subst e0 e1 e2 e4 e5 e6 hxy
  rcases open_ints Tryz.underlying33 Tryz.underlying3 cellsInt g3 with ⟨h3,hy⟩ | ⟨a,len,cap,zs,h3,_,hlc,hcm,hzl,hy,hcell,hwf⟩
  ·simp only [List.cons.injEq,and_true] at h3
   subst h3
   exact ⟨⟨a0,a1,s2,none,0,0,a4,a5,b6⟩,rfl,wf64 w1,wf64 w4,wf64 w5,⟨[],rfl,(fun x hx => (by cases hx)),(fun j x hx => (by simp at hx)),(fun _ => rfl)⟩,Nat.zero_le _⟩
  ·simp only [List.cons.injEq,and_true] at h3
   subst h3 hy
   simp only [if_true] at hzl
   refine ⟨⟨a0,a1,s2,some a,len,cap,a4,a5,b6⟩,rfl,wf64 w1,wf64 w4,wf64 w5,⟨zs.take len,by simp;omega,fun x hx => wf64 (hwf x (List.mem_of_mem_take hx)),fun j x hx => ?_,fun e => by cases e⟩,?_⟩
   ·have hj : j < zs.length := by
     have := (List.getElem?_eq_some_iff.1 hx).1
     simp at this;omega
    have hx' : zs[j]? = some x := by
     rw [List.getElem?_take] at hx;split at hx
     ·exact hx
     ·cases hx
    have q := hcell j hj
    rw [List.getD_eq_getElem?_getD,hx',Option.getD_some] at q
    obtain ⟨b,o,sp⟩ := a
    have hsp : sp = none := by simpa [Addr.add] using World.cell?_spot (hcell 0 (by omega))
    subst hsp
    have q' : W.cell? ⟨b,o + j,none⟩ = some (.int .i64 x) := by rw [← add_none];exact q
    exact ⟨b,o,rfl,cell_lt q',q'⟩
   ·simp only [List.map_cons,List.map_nil,Rows.uptoBulk,Rows.uptoBulkAll]
    have := bulk_len (H := H) (lits .i64 (zs.take len))
    simp [lits] at this ⊢
    omega
theorem open_script {v : Value} {d : DataW H} {ps : List MemPlace} {b0 : Nat} (hval : Value.okWide Tryz.prog W .any b0 22 v) (h : DataW.Trod enc Tryz.prog W 0 (fun _ => true) true 22 v d ps) : ∃ ops : List OpV,ScriptAt W v ops ∧ ops.length ≤ Rows.uptoBulk d ∧ ∀ o ∈ ops,∃ d' : DataW H,OpOk W o d' ∧ Rows.uptoBulk d' ≤ Rows.uptoBulk d := by
 obtain ⟨a,len,cap,rfl⟩ := okWide_slice Tryz.underlying22 hval
 obtain ⟨fuel,hf⟩ := h
 rcases open_slice Tryz.underlying22 hf with ⟨hc,hx⟩ | ⟨a',len',cap',m,n,D,Pl,hc,_,hlc,hcm,hmm,hx,hall⟩
 ·simp only [Value.cells] at hc
  simp at hc
  obtain ⟨rfl,rfl,rfl⟩ := hc
  exact ⟨[],.inl ⟨rfl,_,_,rfl⟩,Nat.zero_le _,fun o ho => by cases ho⟩
 ·simp only [Value.cells] at hc
  simp at hc
  obtain ⟨rfl,rfl,rfl⟩ := hc
  simp only [if_true] at hmm
  subst hmm
  simp only [Prod.mk.injEq] at hx
  obtain ⟨rfl,_⟩ := hx
  have each : ∀ i,i < len → ∃ o : OpV,W.cells? 0 (a'.add (i * 7)) 7 = some o.cells.toList ∧ OpOk W o (D i) := fun i hi => by
   obtain ⟨cs',h1,h2⟩ := hall i (by omega)
   rw [cellsOp] at h1
   obtain ⟨o,rfl,ho⟩ := open_op h2
   exact ⟨o,h1,ho⟩
  haveI : Inhabited OpV := ⟨⟨0,0,.empty,none,0,0,0,0,false⟩⟩
  obtain ⟨O,hO⟩ := choose_lt each
  have hbl : ∀ i,i < len → Rows.uptoBulk (D i) ≤ Rows.uptoBulk (DataW.slice ((List.range len).map D) ((List.range (m - len)).map fun j => D (len + j))) := fun i hi => by
   have : D i ∈ (List.range len).map D := List.mem_map.2 ⟨i,List.mem_range.2 hi,rfl⟩
   have := bulk_mem this
   simp only [Rows.uptoBulk];omega
  refine ⟨(List.range len).map O,?_,?_,fun o ho => ?_⟩
  ·cases len with
   | zero => exact .inl ⟨rfl,_,_,rfl⟩
   | succ len =>
    obtain ⟨b,off,sp⟩ := a'
    have c0 := (World.cells?_some (hO 0 (by omega)).1).2.2 0 (by omega)
    have hsp : sp = none := by
     have q : W.cell? (((⟨b,off,sp⟩ : Addr).add (0 * 7)).add 0) = some (.int .i64 (O 0).kd) := c0
     simpa [Addr.add] using World.cell?_spot q
    subst hsp
    have cell : ∀ i o,((List.range (len + 1)).map O)[i]? = some o → ∀ j u,o.cells[j]? = some u → W.cell? ⟨b,off + i * 7 + j,none⟩ = some u := fun i o ho j u hu => by
     have hi : i < len + 1 := by
      have := (List.getElem?_eq_some_iff.1 ho).1;simpa using this
     have e : O i = o := by simpa [hi] using ho
     have hj : j < 7 := by
      have := (Array.getElem?_eq_some_iff.1 hu).1;simpa [OpV.cells] using this
     have q := (World.cells?_some (hO i hi).1).2.2 j hj
     rw [e] at q
     have q2 : o.cells.toList[j]? = some u := by rw [Array.getElem?_toList];exact hu
     rw [q2,add_none,add_none] at q
     exact q
    refine .inr ⟨b,off,m,by simp,?_,cell⟩
    exact cell_lt (cell 0 (O 0) (by simp) 0 _ rfl)
  ·simp only [List.length_map,List.length_range]
   have := bulk_len (H := H) ((List.range len).map D)
   simp only [List.length_map,List.length_range] at this
   simp only [Rows.uptoBulk];omega
  ·obtain ⟨i,hi,rfl⟩ := List.mem_map.1 ho
   exact ⟨D i,(hO i (List.mem_range.1 hi)).2,hbl i (List.mem_range.1 hi)⟩
end
end Go.Proofs.YthpcbbnabnlanaaGreatDoor
