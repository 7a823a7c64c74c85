import Derived.Test.YthpcbbnabnlanaaGreatDoorM10
import Derived.Deep.LoopGhost
import Derived.Deep.RegionLaw
namespace Go.Proofs.YthpcbbnabnlanaaGreatDoor
open Go.RowKit
set_option linter.unusedVariables false
set_option linter.unusedSimpArgs false
section
set_option maxHeartbeats 2000000
set_option maxRecDepth 100000
attribute [local go_sem ↓] Go.wp_at_zero Go.wp_at_succ
theorem infoPart : (Tryz.prog.info? 183).map (fun i => (i.zero,i.size,i.bytes)) = some (some (.agg #[.int .i64 0,.int .i64 0]),2,16) := by kernel_rfl
theorem two_new (w : World) (a b c d e : Value) (t1 t2 : TypeId) : let w2 := ((w.alloc (.cells #[a,b] t1)).alloc (.cells #[c,d,e] t2)).drew;w2.cell? ⟨w.heap.size,0,none⟩ = some a ∧ w2.cell? ⟨w.heap.size,1,none⟩ = some b ∧ w2.frozen? ⟨w.heap.size,0,none⟩ = false ∧ w2.frozen? ⟨w.heap.size,1,none⟩ = false ∧ w2.cell? ⟨w.heap.size + 1,1,none⟩ = some d ∧ w2.heap.size = w.heap.size + 2 := by
 have e1 : ((w.alloc (.cells #[a,b] t1)).alloc (.cells #[c,d,e] t2)).drew.heap[w.heap.size]? = some (.cells #[a,b] t1) := by
  show ((w.heap.push _).push _)[w.heap.size]? = _
  rw [Array.getElem?_push,if_neg (by simp),Array.getElem?_push,if_pos rfl]
 have e2 : ((w.alloc (.cells #[a,b] t1)).alloc (.cells #[c,d,e] t2)).drew.heap[w.heap.size + 1]? = some (.cells #[c,d,e] t2) := by
  show ((w.heap.push _).push _)[w.heap.size + 1]? = _
  rw [Array.getElem?_push,if_pos (by simp)]
 refine ⟨?_,?_,?_,?_,?_,by simp⟩
 ·simp only [World.cell?,e1];rfl
 ·simp only [World.cell?,e1];rfl
 ·simp only [World.frozen?,e1];rfl
 ·simp only [World.frozen?,e1];rfl
 ·simp only [World.cell?,e2];rfl
theorem numTo_val {s : ByteArray} (h : IsInt s) : -9999999999 ≤ intVal s ∧ intVal s ≤ 9999999999 := by
 have := numTo_lt s h s.size (Nat.le_refl _)
 unfold intVal
 split <;> omega
structure Rl (w : World) (br B : Nat) (vL : Value) (parts : List (Int × Int)) (C : Nat → Option Value) : Prop where
 c1 : w.cell? ⟨br,1,none⟩ = some vL
 f1 : w.frozen? ⟨br,1,none⟩ = false
 c2 : ∃ u,w.cell? ⟨br,2,none⟩ = some u
 f2 : w.frozen? ⟨br,2,none⟩ = false
 c3 : ∃ u,w.cell? ⟨br,3,none⟩ = some u
 f3 : w.frozen? ⟨br,3,none⟩ = false
 own : w.ownsRow B 183 2 vL parts.length (partCells parts)
 lt : br < w.heap.size
 brB : br < B
 oth : ∀ q,q ≠ 1 → q ≠ 2 → q ≠ 3 → w.cell? ⟨br,q,none⟩ = C q
 fz : ∀ q,w.frozen? ⟨br,q,none⟩ = false
theorem Rl.grown {w w' : World} {br B : Nat} {vL : Value} {parts : List (Int × Int)} {C : Nat → Option Value} {row : Option Nat} (h : Rl w br B vL parts C) (hg : w.grownBy w' row) (hr : ∀ b,row = some b → b ≠ br ∧ vL.ownBlock ≠ some b) : Rl w' br B vL parts C := by
 have hne : some br ≠ row := fun e => (hr br e.symm).1 rfl
 obtain ⟨u2,h2⟩ := h.c2
 obtain ⟨u3,h3⟩ := h.c3
 exact ⟨hg.cell h.c1 hne,(hg.frozen_far ⟨br,1,none⟩ h.lt hne).trans h.f1,⟨u2,hg.cell h2 hne⟩,(hg.frozen_far ⟨br,2,none⟩ h.lt hne).trans h.f2,⟨u3,hg.cell h3 hne⟩,(hg.frozen_far ⟨br,3,none⟩ h.lt hne).trans h.f3,
  h.own.kept hg (by
   cases hv : vL.ownBlock with
   | none => exact .inl rfl
   | some g => exact .inr (fun e => (hr g e.symm).2 hv)),Nat.lt_of_lt_of_le h.lt hg.size,h.brB,fun q a b c => (World.cell?_of_block (a := ⟨br,q,none⟩) (hg.block br h.lt hne)).trans (h.oth q a b c),fun q => (hg.frozen_far ⟨br,q,none⟩ h.lt hne).trans (h.fz q)⟩
theorem Rl.setRel {w w9 : World} {bw bm gt capt br : Nat} {toks : List PTok} {vv vL : Value} {vars : List PVar} {j : Nat} {kd ln : Int} {parts : List (Int × Int)} {C : Nat → Option Value} (h : Rl w9 br w.heap.size vL parts C) (hf : Far bw bm gt vv br) (hb : But [bw,br] w w9) (hc : Ctx w9 bw bm gt capt toks vv vars j kd ln) (s : ByteArray) : Ctx (w9.setCell ⟨br,2,none⟩ (.string s)) bw bm gt capt toks vv vars j kd ln ∧ Rl (w9.setCell ⟨br,2,none⟩ (.string s)) br w.heap.size vL parts C ∧ But [bw,br] w (w9.setCell ⟨br,2,none⟩ (.string s)) ∧ (w9.setCell ⟨br,2,none⟩ (.string s)).cell? ⟨br,2,none⟩ = some (.string s) := by
 obtain ⟨u2,h2⟩ := h.c2
 obtain ⟨u3,h3⟩ := h.c3
 have e := World.cell?_setCell_same w9 ⟨br,2,none⟩ (.string s) h2
 exact ⟨hc.setFar hf _ _,⟨(cell_set _ _ _ _ _ _ (by omega)).trans h.c1,(World.frozen?_setCell _ _ _ _).trans h.f1,⟨_,e⟩,(World.frozen?_setCell _ _ _ _).trans h.f2,⟨u3,(cell_set _ _ _ _ _ _ (by omega)).trans h3⟩,(World.frozen?_setCell _ _ _ _).trans h.f3,
  h.own.kept (grown_set w9 br 2 _) (by
   cases hv : vL.ownBlock with
   | none => exact .inl rfl
   | some g => exact .inr (fun e => by have := (h.own.lt _ hv).1;have := h.brB;cases e;omega)),by simpa [World.setCell] using h.lt,h.brB,fun q a b c => (cell_set _ _ _ _ _ _ (.inr b)).trans (h.oth q a b c),fun q => (World.frozen?_setCell _ _ _ _).trans (h.fz q)⟩,hb.set (.inl (by simp)) _ _,e⟩
theorem Rl.setN {w w9 : World} {bw bm gt capt br : Nat} {toks : List PTok} {vv vL : Value} {vars : List PVar} {j : Nat} {kd ln : Int} {parts : List (Int × Int)} {C : Nat → Option Value} {s : ByteArray} (h : Rl w9 br w.heap.size vL parts C) (hf : Far bw bm gt vv br) (hb : But [bw,br] w w9) (hc : Ctx w9 bw bm gt capt toks vv vars j kd ln) (hs : w9.cell? ⟨br,2,none⟩ = some (.string s)) (n : Int) : Ctx (w9.setCell ⟨br,3,none⟩ (.int .i64 n)) bw bm gt capt toks vv vars j kd ln ∧ Rl (w9.setCell ⟨br,3,none⟩ (.int .i64 n)) br w.heap.size vL parts C ∧ But [bw,br] w (w9.setCell ⟨br,3,none⟩ (.int .i64 n)) ∧ (w9.setCell ⟨br,3,none⟩ (.int .i64 n)).cell? ⟨br,2,none⟩ = some (.string s) ∧ (w9.setCell ⟨br,3,none⟩ (.int .i64 n)).cell? ⟨br,3,none⟩ = some (.int .i64 n) := by
 obtain ⟨u2,h2⟩ := h.c2
 obtain ⟨u3,h3⟩ := h.c3
 have e := World.cell?_setCell_same w9 ⟨br,3,none⟩ (.int .i64 n) h3
 exact ⟨hc.setFar hf _ _,⟨(cell_set _ _ _ _ _ _ (by omega)).trans h.c1,(World.frozen?_setCell _ _ _ _).trans h.f1,⟨u2,(cell_set _ _ _ _ _ _ (by omega)).trans h2⟩,(World.frozen?_setCell _ _ _ _).trans h.f2,⟨_,e⟩,(World.frozen?_setCell _ _ _ _).trans h.f3,
  h.own.kept (grown_set w9 br 3 _) (by
   cases hv : vL.ownBlock with
   | none => exact .inl rfl
   | some g => exact .inr (fun e => by have := (h.own.lt _ hv).1;have := h.brB;cases e;omega)),by simpa [World.setCell] using h.lt,h.brB,fun q a b c => (cell_set _ _ _ _ _ _ (.inr c)).trans (h.oth q a b c),fun q => (World.frozen?_setCell _ _ _ _).trans (h.fz q)⟩,hb.set (.inl (by simp)) _ _,(cell_set _ _ _ _ _ _ (by omega)).trans hs,e⟩
structure Mid (toks : List PTok) (vars : List PVar) (bw bm gt capt br : Nat) (vv vL : Value) (done : List (Int × Int)) (C : Nat → Option Value) (bp : Nat) (w : World) (F : Int) (j : Nat) (kd ln : Int) (w4 : World) : Prop where
 ctx : Ctx w4 bw bm gt capt toks vv vars j kd ln
 rl : Rl w4 br w.heap.size vL done C
 but : But [bw,br] w w4
 p0 : w4.cell? ⟨bp,0,none⟩ = some (.int .i64 F)
 p1 : ∃ u,w4.cell? ⟨bp,1,none⟩ = some u
 pf0 : w4.frozen? ⟨bp,0,none⟩ = false
 pf1 : w4.frozen? ⟨bp,1,none⟩ = false
 lt : bp < w4.heap.size
 ge : w.heap.size ≤ bp
 far : Far bw bm gt vv bp
 ne : bp ≠ br
 vne : vL.ownBlock ≠ some bp
 bwB : bw < w.heap.size
 bfar : Far bw bm gt vv br
section
variable {toks : List PTok} {vars : List PVar} {bw bm gt capt br : Nat} {vv vL : Value} {done : List (Int × Int)} {C : Nat → Option Value} {bp : Nat} {w : World} {F : Int} {j : Nat} {kd ln : Int} {w4 w5 : World}
theorem Mid.kept (h : Mid toks vars bw bm gt capt br vv vL done C bp w F j kd ln w4) (hg : w4.grownBy w5 (some bw)) {j' : Nat} {kd' ln' : Int} (hc : Ctx w5 bw bm gt capt toks vv vars j' kd' ln') : Mid toks vars bw bm gt capt br vv vL done C bp w F j' kd' ln' w5 := by
 have hnb : some bp ≠ some bw := by simpa using h.far.a
 obtain ⟨u,hu⟩ := h.p1
 exact ⟨hc,h.rl.grown hg (fun b e => by cases e;exact ⟨fun e => h.bfar.a e.symm,fun e => by have := (h.rl.own.lt _ e).1;have := h.bwB;omega⟩),h.but.grown hg (fun k e => by cases e;exact .inl (by simp)),
  hg.cell h.p0 hnb,⟨u,hg.cell hu hnb⟩,(hg.frozen_far ⟨bp,0,none⟩ h.lt hnb).trans h.pf0,(hg.frozen_far ⟨bp,1,none⟩ h.lt hnb).trans h.pf1,Nat.lt_of_lt_of_le h.lt hg.size,h.ge,h.far,h.ne,h.vne,h.bwB,h.bfar⟩
theorem Mid.setI (h : Mid toks vars bw bm gt capt br vv vL done C bp w F j kd ln w4) (j' : Nat) : Mid toks vars bw bm gt capt br vv vL done C bp w F j' kd ln (w4.setCell ⟨bw,1,none⟩ (.int .i64 j')) :=
 h.kept (grown_set _ _ _ _) (h.ctx.setI j')
theorem Mid.setP (h : Mid toks vars bw bm gt capt br vv vL done C bp w F j kd ln w4) (F' : Int) : Mid toks vars bw bm gt capt br vv vL done C bp w F' j kd ln (w4.setCell ⟨bp,0,none⟩ (.int .i64 F')) := by
 have hg := grown_set w4 bp 0 (.int .i64 F')
 obtain ⟨u,hu⟩ := h.p1
 exact ⟨h.ctx.setFar h.far _ _,h.rl.grown hg (fun b e => by cases e;exact ⟨h.ne,h.vne⟩),h.but.grown hg (fun k e => by cases e;exact .inr h.ge),
  World.cell?_setCell_same _ _ _ h.p0,⟨u,(cell_set _ _ _ _ _ _ (by omega)).trans hu⟩,(World.frozen?_setCell _ _ _ _).trans h.pf0,(World.frozen?_setCell _ _ _ _).trans h.pf1,by simpa [World.setCell] using h.lt,h.ge,h.far,h.ne,h.vne,h.bwB,h.bfar⟩
theorem Mid.setV (h : Mid toks vars bw bm gt capt br vv vL done C bp w F j kd ln w4) (X : Value) : Mid toks vars bw bm gt capt br vv vL done C bp w F j kd ln (w4.setCell ⟨bp,1,none⟩ X) ∧ (w4.setCell ⟨bp,1,none⟩ X).cell? ⟨bp,1,none⟩ = some X := by
 have hg := grown_set w4 bp 1 X
 obtain ⟨u,hu⟩ := h.p1
 have e := World.cell?_setCell_same w4 ⟨bp,1,none⟩ X hu
 exact ⟨⟨h.ctx.setFar h.far _ _,h.rl.grown hg (fun b e => by cases e;exact ⟨h.ne,h.vne⟩),h.but.grown hg (fun k e => by cases e;exact .inr h.ge),
  (cell_set _ _ _ _ _ _ (by omega)).trans h.p0,⟨X,e⟩,(World.frozen?_setCell _ _ _ _).trans h.pf0,(World.frozen?_setCell _ _ _ _).trans h.pf1,by simpa [World.setCell] using h.lt,h.ge,h.far,h.ne,h.vne,h.bwB,h.bfar⟩,e⟩
theorem Mid.own_new (h : Mid toks vars bw bm gt capt br vv vL done C bp w F j kd ln w4) (o : Obj) : (w4.alloc o).drew.ownsRow w.heap.size 183 2 vL done.length (partCells done) :=
 h.rl.own.kept ((World.grownBy_alloc w4 o none).trans (grown_drew' _ none)) (by cases vL.ownBlock with
  | none => exact .inl rfl
  | some g => exact .inr (by simp))
theorem Mid.keep_new (h : Mid toks vars bw bm gt capt br vv vL done C bp w F j kd ln w4) {X : Value} (hX : w4.cell? ⟨bp,1,none⟩ = some X) {o : Obj} {wA : World} (hg : (w4.alloc o).drew.grownBy wA vL.ownBlock) : wA.cell? ⟨br,1,none⟩ = some vL ∧ wA.frozen? ⟨br,1,none⟩ = false ∧ wA.cell? ⟨bp,0,none⟩ = some (.int .i64 F) ∧ wA.cell? ⟨bp,1,none⟩ = some X := by
 have g0 : w4.grownBy (w4.alloc o).drew none := (World.grownBy_alloc w4 o none).trans (grown_drew' _ none)
 have n1 : some br ≠ vL.ownBlock := fun e => by have := (h.rl.own.lt _ e.symm).1;have := h.rl.brB;omega
 have n2 : some bp ≠ vL.ownBlock := fun e => h.vne e.symm
 have hl1 : br < (w4.alloc o).drew.heap.size := Nat.lt_of_lt_of_le h.rl.lt g0.size
 refine ⟨hg.cell (g0.cell h.rl.c1 (by simp)) n1,?_,hg.cell (g0.cell h.p0 (by simp)) n2,hg.cell (g0.cell hX (by simp)) n2⟩
 exact (hg.frozen_far ⟨br,1,none⟩ hl1 n1).trans ((g0.frozen_far ⟨br,1,none⟩ h.rl.lt (by simp)).trans h.rl.f1)
theorem Mid.step (h : Mid toks vars bw bm gt capt br vv vL done C bp w F j kd ln w4) (hF : ∀ b,w.heap.size ≤ b → Far bw bm gt vv b) {X : Int} {o : Obj} {wA : World} {v' : Value} (hown : wA.ownsRow w.heap.size 183 2 v' (done.length + 1) (partCells done ++ [.int .i64 F,.int .i64 X])) (hg : (w4.alloc o).drew.grownBy wA vL.ownBlock) : Ctx (wA.setCell ⟨br,1,none⟩ v') bw bm gt capt toks vv vars j kd ln ∧ Rl (wA.setCell ⟨br,1,none⟩ v') br w.heap.size v' (done ++ [(F,X)]) C ∧ But [bw,br] w (wA.setCell ⟨br,1,none⟩ v') := by
 have g0 : w4.grownBy (w4.alloc o).drew none := (World.grownBy_alloc w4 o none).trans (grown_drew' _ none)
 have hrow : ∀ b,vL.ownBlock = some b → w.heap.size ≤ b := fun b e => (h.rl.own.lt _ e).1
 have cA : Ctx wA bw bm gt capt toks vv vars j kd ln := ((h.ctx.alloc o).drew).grown hg (fun b e => hF b (hrow b e))
 have n1 : some br ≠ vL.ownBlock := fun e => by have := hrow _ e.symm;have := h.rl.brB;omega
 have rA : ∀ q u,w4.cell? ⟨br,q,none⟩ = some u → wA.cell? ⟨br,q,none⟩ = some u := fun q u hu => hg.cell (g0.cell hu (by simp)) n1
 have hl1 : br < (w4.alloc o).drew.heap.size := Nat.lt_of_lt_of_le h.rl.lt g0.size
 have fA : ∀ q,w4.frozen? ⟨br,q,none⟩ = false → wA.frozen? ⟨br,q,none⟩ = false := fun q hq => (hg.frozen_far ⟨br,q,none⟩ hl1 n1).trans ((g0.frozen_far ⟨br,q,none⟩ h.rl.lt (by simp)).trans hq)
 obtain ⟨u2,h2⟩ := h.rl.c2
 obtain ⟨u3,h3⟩ := h.rl.c3
 refine ⟨cA.setFar h.bfar _ _,⟨World.cell?_setCell_same _ _ _ (rA 1 _ h.rl.c1),(World.frozen?_setCell _ _ _ _).trans (fA 1 h.rl.f1),⟨u2,(cell_set _ _ _ _ _ _ (by omega)).trans (rA 2 _ h2)⟩,(World.frozen?_setCell _ _ _ _).trans (fA 2 h.rl.f2),
  ⟨u3,(cell_set _ _ _ _ _ _ (by omega)).trans (rA 3 _ h3)⟩,(World.frozen?_setCell _ _ _ _).trans (fA 3 h.rl.f3),?_,?_,h.rl.brB,fun q a b c => (cell_set _ _ _ _ _ _ (.inr a)).trans ((World.cell?_of_block (a := ⟨br,q,none⟩) ((hg.block br hl1 n1).trans (g0.block br h.rl.lt (by simp)))).trans (h.rl.oth q a b c)),fun q => (World.frozen?_setCell _ _ _ _).trans (fA q (h.rl.fz q))⟩,?_⟩
 ·rw [partCells_snoc,List.length_append]
  exact hown.kept (grown_set wA br 1 v') (by
   cases hv : v'.ownBlock with
   | none => exact .inl rfl
   | some g => exact .inr (fun e => by have := (hown.lt _ hv).1;have := h.rl.brB;cases e;omega))
 ·have := hg.size;simp [World.setCell];omega
 ·exact (((h.but.alloc o).drew).grown hg (fun k e => .inr (hrow k e))).set (.inl (by simp)) _ _
theorem part_one (a b : Int) : ∀ u ∈ [Value.int .i64 a,.int .i64 b],u.oneCell' = true := by
 intro u hu;simp at hu;rcases hu with rfl | rfl <;> rfl
end
def SumRel (toks : List PTok) (vars : List PVar) (bw bm gt capt br : Nat) (vv : Value) (C : Nat → Option Value) (q : Nat) (ST : FSt) (PARTS : List (Int × Int)) (w : World) (n : Nat) (vf vk : Value) (wr : World) : Prop :=
 ∃ (k i m : Nat) (t : PTerm) (ts : List PTerm) (done : List (Int × Int)) (kind line : Int) (vL : Value),n = ts.length + 1 ∧ vk = .int .i64 k ∧ vf = .int .i64 (sgn t.neg) ∧ k ≤ i + 1 ∧ done.length ≤ i ∧
  Ctx wr bw bm gt capt toks vv vars i kind line ∧ TermAt toks i t m ∧ TermsAt toks m ts q ∧ Hid (termsSt vars k (t :: ts) (kind,line) = ST) ∧ Hid (done ++ (t :: ts).map (termPart vars) = PARTS) ∧ Rl wr br w.heap.size vL done C ∧ But [bw,br] w wr
theorem ref_sum (toks : List PTok) (vars : List PVar) (bw bm gt capt br : Nat) (vv : Value) (i m q : Nat) (t : PTerm) (ts : List PTerm) (rel num : PTok) (kind line : Int) (w : World) (h : Ctx w bw bm gt capt toks vv vars i kind line) (hfar : Far bw bm gt vv br) (ht : TermAt toks i t m) (htn : t.neg = false) (hts : TermsAt toks m ts q) (hrel : toks[q]? = some rel) (hr1 : rel.s.toList ≠ [43]) (hr2 : rel.s.toList ≠ [45]) (hnum : toks[q + 1]? = some num) (hni : IsInt num.s) (C : Nat → Option Value) (hR : Rl w br w.heap.size (.slice none 0 0) [] C) : Calls Tryz.prog 101 #[.pointer (some ⟨bw,0,none⟩),.pointer (some ⟨br,0,none⟩)] w fun e w' => e = .returned (.tuple #[]) ∧ But [bw,br] w w' ∧
   Ctx w' bw bm gt capt toks vv vars (q + 2) (flt (outB (intVal num.s) 1000000) 5 num.line (termsSt vars 1 (t :: ts) (kind,line))).1 (flt (outB (intVal num.s) 1000000) 5 num.line (termsSt vars 1 (t :: ts) (kind,line))).2 ∧
   ∃ vL,Rl w' br w.heap.size vL ((t :: ts).map (termPart vars)) C ∧ w'.cell? ⟨br,2,none⟩ = some (.string rel.s) ∧ w'.cell? ⟨br,3,none⟩ = some (.int .i64 (intVal num.s)) := by
 obtain ⟨i0,hi0,hz0,hz1,hz2⟩ := info_parts infoPart
 have HBW0 : Hid (bw < w.heap.size) := h.wk.lt
 have HFN : Hid (∀ b,w.heap.size ≤ b → Far bw bm gt vv b) := fun b hb => h.far_new hb
 have HX : Hid (toks[q]? = some rel ∧ rel.s.toList ≠ [43] ∧ rel.s.toList ≠ [45] ∧ toks[q + 1]? = some num ∧ IsInt num.s) := ⟨hrel,hr1,hr2,hnum,hni⟩
 have HS : Hid (SumRel toks vars bw bm gt capt br vv C q (termsSt vars 1 (t :: ts) (kind,line)) ((t :: ts).map (termPart vars)) w (ts.length + 1) (.int .i64 1) (.int .i64 1) w) :=
  ⟨1,i,m,t,ts,[],kind,line,_,rfl,rfl,by rw [htn];rfl,by omega,by simp,h,ht,hts,rfl,rfl,hR,But.refl _ _⟩
 generalize hST : termsSt vars 1 (t :: ts) (kind,line) = ST at *
 generalize hPP : (t :: ts).map (termPart vars) = PARTS at *
 generalize hN : ts.length + 1 = N at *
 clear hST hPP hN hrel hr1 hr2 hnum hni h ht htn hts hR t ts i m kind line
 go_enter Tryz.func101,Tryz.ntmps101
 go_wp2
 go_loopg [4,5] N (fun n vf vk wr => SumRel toks vars bw bm gt capt br vv C q ST PARTS w n vf vk wr)
 case atStart => exact HS
 case round =>
  clear HS
  have HBW : Hid (bw < w.heap.size) := HBW0
  obtain ⟨k,i,m,t,ts,done,kind,line,vL,rfl,rfl,rfl,hki,hdl,hC,htA,htsA,hST,hPP,hRl,hBut⟩ := hrel
  have HC := hide hC
  have hil : i < toks.length := by
   rcases Nat.lt_or_ge i toks.length with h | h
   ·exact h
   ·unfold TermAt at htA;rw [List.getElem?_eq_none h] at htA;split at htA <;> exact absurd htA.1 (by simp)
  have hn2 := hC.hn
  have HR := hide hRl
  have HB := hide hBut
  have HA := hide htA
  have HAs := hide htsA
  clear hC htA htsA hRl hBut
  go_wp2_with fail
  refine (ctx_fault HC.out hil (decide (8 < (k : Int))) 6).mono ?_
  rintro e w1 ⟨rfl,hg1,hC1⟩
  have HC1 := hide hC1
  have HG1 := hide hg1
  have hkd : Hid True := trivial
  obtain ⟨c0,c1,_,_,_,_,_,_⟩ := hC1.wk
  obtain ⟨m0,row,_,_⟩ := hC1.tk
  obtain ⟨tk,htk⟩ : ∃ tk,toks[i]? = some tk := ⟨toks[i],by simp [hil]⟩
  have hc3 := refCells_get toks i tk htk
  have hc0 := row _ _ hc3.1
  have hc1 := row _ _ hc3.2.1
  have hc2 := row _ _ hc3.2.2
  have hnx : (w1.heap.size : Nat) ≠ bw ∧ w1.heap.size ≠ bm ∧ w1.heap.size ≠ gt := by
   have := hC1.far_new (Nat.le_refl _);exact ⟨this.a,this.b,this.c⟩
  have hlt1 := hC1.wk.lt
  have hlt2 := hC1.tk.ltm
  have hlt3 := hC1.tk.ltg
  have hil' : (i : Int) < toks.length := by omega
  have h0 : (0 : Int) ≤ (i : Int) := by omega
  have HFB0 := hide (hC1.far_new (Nat.le_refl _))
  clear hg1 hC1 row hc3
  go_wp2
  go_region_held3 (fun w' => w'.cell? ⟨bw,0,none⟩ = some (.pointer (some ⟨bm,0,none⟩)) ∧ w'.cell? ⟨bw,1,none⟩ = some (.int .i64 i) ∧ w'.cell? ⟨bm,0,none⟩ = some (.slice (some ⟨gt,0,none⟩) toks.length capt) ∧ w'.cell? ⟨gt,i * 3,none⟩ = some (.string tk.s) ∧ w'.cell? ⟨gt,i * 3 + 1,none⟩ = some (.int .u8 tk.kind) ∧ w'.cell? ⟨gt,i * 3 + 2,none⟩ = some (.int .i64 tk.line)) (go_keep) (fail)
  have TN := two_new w1 (.int .i64 (sgn t.neg)) (.int .i64 0) (.string tk.s) (.int .u8 tk.kind) (.int .i64 tk.line) 183 170
  have HC2 : Hid (Ctx (((w1.alloc (.cells #[.int .i64 (sgn t.neg),.int .i64 0] 183)).alloc (.cells #[.string tk.s,.int .u8 tk.kind,.int .i64 tk.line] 170)).drew) bw bm gt capt toks vv vars i (fKind (decide (8 < (k : Int))) 6 kind) (fLine (decide (8 < (k : Int))) kind (lineAt toks i) line)) := ((HC1.out.alloc _).alloc _).drew
  have HG2 : Hid (wr.grownBy (((w1.alloc (.cells #[.int .i64 (sgn t.neg),.int .i64 0] 183)).alloc (.cells #[.string tk.s,.int .u8 tk.kind,.int .i64 tk.line] 170)).drew) (some bw)) := ((HG1.out.trans (World.grownBy_alloc _ _ _)).trans (World.grownBy_alloc _ _ _)).trans (grown_drew' _ _)
  have hszr := HG1.out.size
  clear c0 c1 m0 hc0 hc1 hc2 hlt1 hlt2 hlt3 HC1 HG1
  generalize ((w1.alloc (.cells #[.int .i64 (sgn t.neg),.int .i64 0] 183)).alloc (.cells #[.string tk.s,.int .u8 tk.kind,.int .i64 tk.line] 170)).drew = w2 at TN HC2 HG2 ⊢
  obtain ⟨bp,hbp⟩ : ∃ bp,w1.heap.size = bp := ⟨_,rfl⟩
  rw [hbp] at TN hnx HFB0 ⊢
  obtain ⟨p0,p1,pf0,pf1,t1,hsz2⟩ := TN
  have hpk : Hid (peekS toks i = tk.s ∧ lineAt toks i = tk.line) := by unfold Hid peekS lineAt;rw [htk];exact ⟨rfl,rfl⟩
  have hbwB : bw < w.heap.size := HBW.out
  have hM2 : Mid toks vars bw bm gt capt br vv vL done C bp w (sgn t.neg) i (fKind (decide (8 < (k : Int))) 6 kind) (fLine (decide (8 < (k : Int))) kind (lineAt toks i) line) w2 :=
   ⟨HC2.out,HR.out.grown HG2.out (fun b e => by cases e;exact ⟨fun e => hfar.a e.symm,fun e => by have := (HR.out.own.lt _ e).1;omega⟩),HB.out.grown HG2.out (fun k e => by cases e;exact .inl (by simp)),p0,⟨_,p1⟩,pf0,pf1,by omega,
    by have := HB.out.size;omega,HFB0.out,by have := HR.out.lt;omega,fun e => by have := (HR.out.own.lt _ e).2;omega,hbwB,hfar⟩
  have M2 := hide hM2
  clear hnx HFB0 hM2 p0 p1 pf0 pf1 hsz2 HC2 HG2 HR HB
  cases hfc : t.fac with
  | some f =>
   have hA := HA.out
   unfold TermAt at hA
   rw [hfc] at hA
   simp only at hA
   obtain ⟨a1,a2,a3,a4,a5⟩ := hA
   obtain rfl : tk = f := by rw [htk] at a1;exact Option.some.inj a1
   have hk5 : (tk.kind == 105) = true := by simpa using a2
   have hvb := numTo_val a3
   have hb3 := ctx_bounded M2.out.ctx hil 100 (by omega) (by omega) (by rw [hpk.out.1];exact a3)
   rw [hpk.out.1,hpk.out.2] at hb3
   have HB3 := hide hb3
   clear hb3
   go_wp2_with fail
   refine (unhide HB3).mono ?_
   rintro e w3 ⟨rfl,hg3,hC3⟩
   have hM3 := M2.out.kept hg3 hC3
   obtain ⟨c0,c1,c2,c3,f1,f2,f3,_⟩ := hC3.wk
   have p0 := hM3.p0
   have pf0 := hM3.pf0
   have hset := fun W o u b' o' h => cell_set W bp o u b' o' h
   obtain ⟨nv,hnv⟩ : ∃ nv,intVal tk.s = nv := ⟨_,rfl⟩
   rw [hnv] at hvb ⊢
   obtain ⟨hv1,hv2⟩ := hvb
   have hmul : -9999999999 ≤ sgn t.neg * nv ∧ sgn t.neg * nv ≤ 9999999999 := by
    unfold sgn;split <;> omega
   obtain ⟨hml,hmh⟩ := hmul
   have HNV := hide hnv
   have hi1 : (0 : Int) ≤ (i : Int) + 1 := by omega
   have hnb : bp ≠ bw := hM3.far.a
   have M4 := hide ((hM3.setP (sgn t.neg * nv)).setI (i + 2))
   have M3 := hide hM3
   have hbe := ()
   clear hnv hg3 hC3 hM3 M2 t1
   go_wp2_with fail
   rw [show ((i : Int) + 1 + 1) = ((i + 2 : Nat) : Int) by omega]
   generalize (w3.setCell ⟨bp,0,none⟩ (.int .i64 (sgn t.neg * nv))).setCell ⟨bw,1,none⟩ (.int .i64 ((i + 2 : Nat) : Int)) = w4 at M4 ⊢
   clear c0 c1 c2 c3 f1 f2 f3 p0 pf0 M3
   obtain rfl : m = i + 2 + 1 := by omega
   have hnm : Hid (peekS toks (i + 2) = t.name.s ∧ lineAt toks (i + 2) = t.name.line) := by unfold Hid peekS lineAt;rw [a4];exact ⟨rfl,rfl⟩
   have hjl : i + 2 < toks.length := by
    rcases Nat.lt_or_ge (i + 2) toks.length with h | h
    ·exact h
    ·rw [List.getElem?_eq_none h] at a4;exact absurd a4 (by simp)
   have hb5 := ctx_used M4.out.ctx hjl
   rw [hnm.out.1,hnm.out.2] at hb5
   have HB5 := hide hb5
   clear hb5
   refine (unhide HB5).mono ?_
   rintro e w5 ⟨rfl,hg5,hC5⟩
   have hM5 := M4.out.kept hg5 hC5
   obtain ⟨u5,p1⟩ := hM5.p1
   have pf1 := hM5.pf1
   obtain ⟨X,hX⟩ : ∃ X,varX vars t.name.s = X := ⟨_,rfl⟩
   rw [hX]
   have HX' := hide hX
   have M6 := hide (hM5.setV (.int .i64 X))
   clear hX hg5 hC5 hM5 M4 HB5
   go_wp2
   generalize (w5.setCell ⟨bp,1,none⟩ (.int .i64 X)) = w6 at M6 ⊢
   clear p1 pf1
   have r1 := M6.out.1.rl.c1
   have rf1 := M6.out.1.rl.f1
   have p0 := M6.out.1.p0
   have p1 := M6.out.2
   have hlp := M6.out.1.lt
   have hlr := M6.out.1.rl.lt
   have hOwn := M6.out.1.own_new (.cells #[.int .i64 (sgn t.neg * nv),.int .i64 X] 183)
   have hNews : ∀ jj u,[Value.int .i64 (sgn t.neg * nv),.int .i64 X][jj]? = some u → (w6.alloc (.cells #[.int .i64 (sgn t.neg * nv),.int .i64 X] 183)).drew.cell? ((⟨w6.heap.size,0,none⟩ : Addr).add jj) = some u :=
    World.news_of_block (cs := #[.int .i64 (sgn t.neg * nv),.int .i64 X]) (t := 183) (fr := (0,0)) (heap_alloc_new w6 _)
   have KEEP : Hid (∀ wA,(w6.alloc (.cells #[.int .i64 (sgn t.neg * nv),.int .i64 X] 183)).drew.grownBy wA vL.ownBlock → wA.cell? ⟨br,1,none⟩ = some vL ∧ wA.frozen? ⟨br,1,none⟩ = false ∧ wA.cell? ⟨bp,0,none⟩ = some (.int .i64 (sgn t.neg * nv)) ∧ wA.cell? ⟨bp,1,none⟩ = some (.int .i64 X)) :=
    fun wA hg => M6.out.1.keep_new M6.out.2 hg
   have HOWN := hide hOwn
   have HNEWS := hide hNews
   have hbs : w.heap.size ≤ w6.heap.size + 1 := by have := M6.out.1.but.size;omega
   have hdn : done.length ≤ 2000 := by omega
   clear hOwn hNews
   have hsetr := fun W o u b' o' h => cell_set W br o u b' o' h
   have hpr : bp ≠ br := M6.out.1.ne
   go_region_law ((refine step_append_lies _ (by rfl) _ _ 174 (by rfl) w.heap.size 183 i0 (.agg #[.int .i64 0,.int .i64 0]) 2 16 Tryz.underlying174 hi0 hz0 hz1 hz2 rfl (by decide) vL done.length (partCells done) (by rfl) HOWN.out ⟨w6.heap.size,0,none⟩ 1 1 [.int .i64 (sgn t.neg * nv),.int .i64 X] (by rfl) rfl HNEWS.out (part_one _ _) (by decide) (by unfold maxLen;omega) (by omega) (by simp;omega) _ rfl ?_;intro gA capA wA hownA hgrowA hatA hltA;obtain ⟨k1,k2,k3,k4⟩ := KEEP.out wA hgrowA))
   all_goals
    have HST7 := hide (M6.out.1.step HFN.out hownA hgrowA)
    have HBF := hide M6.out.1.bfar
    clear r1 rf1 p0 p1 hlp hlr KEEP HOWN HNEWS hownA hgrowA hatA hltA k1 k2 k3 k4 hsetr hpr M6
    go_wp2_with fail
    generalize (wA.setCell ⟨br,1,none⟩ (.slice (some ⟨gA,0,none⟩) (done.length + 1) capA)) = w7 at HST7 ⊢
    refine (ctx_peek HST7.out.1 (by omega)).mono ?_
    rintro e w8 ⟨rfl,hg8,hC8⟩
    have hbwB2 := HBW.out
    have hR8 := HST7.out.2.1.grown hg8 (fun b e => by cases e;exact ⟨fun e => HBF.out.a e.symm,fun e => by have := (HST7.out.2.1.own.lt _ e).1;omega⟩)
    have hB8 := HST7.out.2.2.grown hg8 (fun b e => by cases e;exact .inl (by simp))
    have hC8' : Ctx w8 bw bm gt capt toks vv vars (i + 2 + 1) (termSt vars k t (kind,line)).1 (termSt vars k t (kind,line)).2 := by
     unfold termSt flt;rw [hfc];exact hC8
    have hPT : Hid (termPart vars t = (sgn t.neg * nv,X)) := by unfold Hid termPart;rw [hfc,HX'.out];show (sgn t.neg * intVal tk.s,X) = _;rw [HNV.out]
    have HC8 := hide hC8'
    have HR8 := hide hR8
    have HB8 := hide hB8
    clear HST7 hg8 hC8 hC8' hR8 hB8
    cases ts with
    | nil =>
     have hq : i + 2 + 1 = q := HAs.out
     rw [hq] at HC8 ⊢
     have hX0 := HX.out
     have hpq : Hid (peekS toks q = rel.s ∧ lineAt toks q = rel.line) := by unfold Hid peekS lineAt;rw [hX0.1];exact ⟨rfl,rfl⟩
     have hpn : Hid (peekS toks (q + 1) = num.s ∧ lineAt toks (q + 1) = num.line) := by unfold Hid peekS lineAt;rw [hX0.2.2.2.1];exact ⟨rfl,rfl⟩
     have hql : q + 1 < toks.length := by
      rcases Nat.lt_or_ge (q + 1) toks.length with h | h
      ·exact h
      ·have h5 := hX0.2.2.2.1;rw [List.getElem?_eq_none h] at h5;exact absurd h5 (by simp)
     rw [hpq.out.1]
     have hn1 : (rel.s.toList == [43]) = false := by simpa using hX0.2.1
     have hn2' : (rel.s.toList == [45]) = false := by simpa using hX0.2.2.1
     have hnx := ctx_next HC8.out (by omega)
     rw [hpq.out.1] at hnx
     have HNX := hide hnx
     clear hnx hX0
     go_wp2_with fail
     refine (unhide HNX).mono ?_
     rintro e w9 ⟨rfl,hg9,hC9⟩
     have hR9 := HR8.out.grown hg9 (fun b e => by cases e;exact ⟨fun e => HBF.out.a e.symm,fun e => by have := (HR8.out.own.lt _ e).1;omega⟩)
     obtain ⟨u2,r2⟩ := hR9.c2
     have rf2 := hR9.f2
     have H9 := hide (hR9.setRel HBF.out (HB8.out.grown hg9 (fun b e => by cases e;exact .inl (by simp))) hC9 rel.s)
     clear hg9 hC9 hR9 HNX HC8 HR8 HB8
     go_wp2_with fail
     generalize (w9.setCell ⟨br,2,none⟩ (.string rel.s)) = wB at H9 ⊢
     have hb10 := ctx_bounded H9.out.1 hql 1000000 (by omega) (by omega) (by rw [hpn.out.1];exact HX.out.2.2.2.2)
     rw [hpn.out.1,hpn.out.2] at hb10
     refine hb10.mono ?_
     rintro e w10 ⟨rfl,hg10,hC10⟩
     have hnb : some br ≠ some bw := by simpa using HBF.out.a
     have hR10 := H9.out.2.1.grown hg10 (fun b e => by cases e;exact ⟨fun e => HBF.out.a e.symm,fun e => by have := (H9.out.2.1.own.lt _ e).1;omega⟩)
     obtain ⟨u3,r3⟩ := hR10.c3
     have rf3 := hR10.f3
     have H11 := hide (hR10.setN HBF.out (H9.out.2.2.1.grown hg10 (fun b e => by cases e;exact .inl (by simp))) hC10 (hg10.cell H9.out.2.2.2 hnb) (intVal num.s))
     clear hg10 hC10 hR10 hb10 H9 r2 rf2
     go_wp2
     go_end0
     have hPS : done ++ [(sgn t.neg * nv,X)] = PARTS := by rw [← hPP.out,← hPT.out];rfl
     rw [← hST.out,← hPS]
     exact ⟨rfl,H11.out.2.2.1,H11.out.1,_,H11.out.2.1,H11.out.2.2.2.1,H11.out.2.2.2.2⟩
    | cons t2 ts2 =>
     obtain ⟨sg,m2,b1,b2,b3,b4⟩ := HAs.out
     have hpq : Hid (peekS toks (i + 2 + 1) = sg.s) := by unfold Hid peekS;rw [b1];rfl
     rw [hpq.out]
     obtain ⟨c0,c1,c2,c3,f1,f2,f3,_⟩ := HC8.out.wk
     have HRR : Hid (∀ W,W = w8.setCell ⟨bw,1,none⟩ (.int .i64 ((i + 2 + 1 + 1 : Nat) : Int)) → SumRel toks vars bw bm gt capt br vv C q ST PARTS w (ts2.length + 1) (.int .i64 (sgn t2.neg)) (.int .i64 ((k + 1 : Nat) : Int)) W) := by
      rintro W rfl
      exact ⟨k + 1,i + 2 + 1 + 1,m2,t2,ts2,done ++ [(sgn t.neg * nv,X)],_,_,_,rfl,rfl,rfl,by omega,by simp;omega,HC8.out.setI _,b3,b4,hST.out,by unfold Hid;rw [← hPP.out,← hPT.out];simp,HR8.out.grown (grown_set _ _ _ _) (fun b e => by cases e;exact ⟨fun e => HBF.out.a e.symm,fun e => by have := (HR8.out.own.lt _ e).1;omega⟩),
       HB8.out.set (.inl (by simp)) _ _⟩
     cases hng : t2.neg with
     | false =>
      have hs1 : sg.s.toList = [43] := by rw [b2,hng];rfl
      rw [hng] at HRR
      clear b1 b2 b3 b4 HC8 HR8 HB8 hng
      go_wp2
      go_roundg (ts2.length + 1)
      case measure => simp
      case rel => exact HRR.out _ (by congr 2 <;> go_num)
     | true =>
      have hs1 : sg.s.toList = [45] := by rw [b2,hng];rfl
      rw [hng] at HRR
      clear b1 b2 b3 b4 HC8 HR8 HB8 hng
      go_wp2
      go_roundg (ts2.length + 1)
      case measure => simp
      case rel => exact HRR.out _ (by congr 2 <;> go_num)
  | none =>
   have hA := HA.out
   unfold TermAt at hA
   rw [hfc] at hA
   simp only at hA
   obtain ⟨a4,a2,a5⟩ := hA
   obtain rfl : tk = t.name := by rw [htk] at a4;exact Option.some.inj a4
   have hk5 : (t.name.kind == 105) = false := by simpa using a2
   rw [hpk.out.2] at M2
   have M4 := M2
   clear M2
   go_wp2_with fail
   obtain rfl : m = i + 1 := a5
   generalize w2 = w4 at M4 ⊢
   have hnm : Hid (peekS toks (i) = t.name.s ∧ lineAt toks (i) = t.name.line) := by unfold Hid peekS lineAt;rw [a4];exact ⟨rfl,rfl⟩
   have hjl : i < toks.length := by
    rcases Nat.lt_or_ge (i) toks.length with h | h
    ·exact h
    ·rw [List.getElem?_eq_none h] at a4;exact absurd a4 (by simp)
   have hb5 := ctx_used M4.out.ctx hjl
   rw [hnm.out.1,hnm.out.2] at hb5
   have HB5 := hide hb5
   clear hb5
   refine (unhide HB5).mono ?_
   rintro e w5 ⟨rfl,hg5,hC5⟩
   have hM5 := M4.out.kept hg5 hC5
   obtain ⟨u5,p1⟩ := hM5.p1
   have pf1 := hM5.pf1
   obtain ⟨X,hX⟩ : ∃ X,varX vars t.name.s = X := ⟨_,rfl⟩
   rw [hX]
   have HX' := hide hX
   have M6 := hide (hM5.setV (.int .i64 X))
   clear hX hg5 hC5 hM5 M4 HB5
   go_wp2
   generalize (w5.setCell ⟨bp,1,none⟩ (.int .i64 X)) = w6 at M6 ⊢
   clear p1 pf1
   have r1 := M6.out.1.rl.c1
   have rf1 := M6.out.1.rl.f1
   have p0 := M6.out.1.p0
   have p1 := M6.out.2
   have hlp := M6.out.1.lt
   have hlr := M6.out.1.rl.lt
   have hOwn := M6.out.1.own_new (.cells #[.int .i64 (sgn t.neg),.int .i64 X] 183)
   have hNews : ∀ jj u,[Value.int .i64 (sgn t.neg),.int .i64 X][jj]? = some u → (w6.alloc (.cells #[.int .i64 (sgn t.neg),.int .i64 X] 183)).drew.cell? ((⟨w6.heap.size,0,none⟩ : Addr).add jj) = some u :=
    World.news_of_block (cs := #[.int .i64 (sgn t.neg),.int .i64 X]) (t := 183) (fr := (0,0)) (heap_alloc_new w6 _)
   have KEEP : Hid (∀ wA,(w6.alloc (.cells #[.int .i64 (sgn t.neg),.int .i64 X] 183)).drew.grownBy wA vL.ownBlock → wA.cell? ⟨br,1,none⟩ = some vL ∧ wA.frozen? ⟨br,1,none⟩ = false ∧ wA.cell? ⟨bp,0,none⟩ = some (.int .i64 (sgn t.neg)) ∧ wA.cell? ⟨bp,1,none⟩ = some (.int .i64 X)) :=
    fun wA hg => M6.out.1.keep_new M6.out.2 hg
   have HOWN := hide hOwn
   have HNEWS := hide hNews
   have hbs : w.heap.size ≤ w6.heap.size + 1 := by have := M6.out.1.but.size;omega
   have hdn : done.length ≤ 2000 := by omega
   clear hOwn hNews
   have hsetr := fun W o u b' o' h => cell_set W br o u b' o' h
   have hpr : bp ≠ br := M6.out.1.ne
   go_region_law ((refine step_append_lies _ (by rfl) _ _ 174 (by rfl) w.heap.size 183 i0 (.agg #[.int .i64 0,.int .i64 0]) 2 16 Tryz.underlying174 hi0 hz0 hz1 hz2 rfl (by decide) vL done.length (partCells done) (by rfl) HOWN.out ⟨w6.heap.size,0,none⟩ 1 1 [.int .i64 (sgn t.neg),.int .i64 X] (by rfl) rfl HNEWS.out (part_one _ _) (by decide) (by unfold maxLen;omega) (by omega) (by simp;omega) _ rfl ?_;intro gA capA wA hownA hgrowA hatA hltA;obtain ⟨k1,k2,k3,k4⟩ := KEEP.out wA hgrowA))
   all_goals
    have HST7 := hide (M6.out.1.step HFN.out hownA hgrowA)
    have HBF := hide M6.out.1.bfar
    clear r1 rf1 p0 p1 hlp hlr KEEP HOWN HNEWS hownA hgrowA hatA hltA k1 k2 k3 k4 hsetr hpr M6
    go_wp2_with fail
    generalize (wA.setCell ⟨br,1,none⟩ (.slice (some ⟨gA,0,none⟩) (done.length + 1) capA)) = w7 at HST7 ⊢
    refine (ctx_peek HST7.out.1 (by omega)).mono ?_
    rintro e w8 ⟨rfl,hg8,hC8⟩
    have hbwB2 := HBW.out
    have hR8 := HST7.out.2.1.grown hg8 (fun b e => by cases e;exact ⟨fun e => HBF.out.a e.symm,fun e => by have := (HST7.out.2.1.own.lt _ e).1;omega⟩)
    have hB8 := HST7.out.2.2.grown hg8 (fun b e => by cases e;exact .inl (by simp))
    have hC8' : Ctx w8 bw bm gt capt toks vv vars (i + 1) (termSt vars k t (kind,line)).1 (termSt vars k t (kind,line)).2 := by
     unfold termSt flt;rw [hfc];exact hC8
    have hPT : Hid (termPart vars t = (sgn t.neg,X)) := by unfold Hid termPart;rw [hfc,HX'.out];skip
    have HC8 := hide hC8'
    have HR8 := hide hR8
    have HB8 := hide hB8
    clear HST7 hg8 hC8 hC8' hR8 hB8
    cases ts with
    | nil =>
     have hq : i + 1 = q := HAs.out
     rw [hq] at HC8 ⊢
     have hX0 := HX.out
     have hpq : Hid (peekS toks q = rel.s ∧ lineAt toks q = rel.line) := by unfold Hid peekS lineAt;rw [hX0.1];exact ⟨rfl,rfl⟩
     have hpn : Hid (peekS toks (q + 1) = num.s ∧ lineAt toks (q + 1) = num.line) := by unfold Hid peekS lineAt;rw [hX0.2.2.2.1];exact ⟨rfl,rfl⟩
     have hql : q + 1 < toks.length := by
      rcases Nat.lt_or_ge (q + 1) toks.length with h | h
      ·exact h
      ·have h5 := hX0.2.2.2.1;rw [List.getElem?_eq_none h] at h5;exact absurd h5 (by simp)
     rw [hpq.out.1]
     have hn1 : (rel.s.toList == [43]) = false := by simpa using hX0.2.1
     have hn2' : (rel.s.toList == [45]) = false := by simpa using hX0.2.2.1
     have hnx := ctx_next HC8.out (by omega)
     rw [hpq.out.1] at hnx
     have HNX := hide hnx
     clear hnx hX0
     go_wp2_with fail
     refine (unhide HNX).mono ?_
     rintro e w9 ⟨rfl,hg9,hC9⟩
     have hR9 := HR8.out.grown hg9 (fun b e => by cases e;exact ⟨fun e => HBF.out.a e.symm,fun e => by have := (HR8.out.own.lt _ e).1;omega⟩)
     obtain ⟨u2,r2⟩ := hR9.c2
     have rf2 := hR9.f2
     have H9 := hide (hR9.setRel HBF.out (HB8.out.grown hg9 (fun b e => by cases e;exact .inl (by simp))) hC9 rel.s)
     clear hg9 hC9 hR9 HNX HC8 HR8 HB8
     go_wp2_with fail
     generalize (w9.setCell ⟨br,2,none⟩ (.string rel.s)) = wB at H9 ⊢
     have hb10 := ctx_bounded H9.out.1 hql 1000000 (by omega) (by omega) (by rw [hpn.out.1];exact HX.out.2.2.2.2)
     rw [hpn.out.1,hpn.out.2] at hb10
     refine hb10.mono ?_
     rintro e w10 ⟨rfl,hg10,hC10⟩
     have hnb : some br ≠ some bw := by simpa using HBF.out.a
     have hR10 := H9.out.2.1.grown hg10 (fun b e => by cases e;exact ⟨fun e => HBF.out.a e.symm,fun e => by have := (H9.out.2.1.own.lt _ e).1;omega⟩)
     obtain ⟨u3,r3⟩ := hR10.c3
     have rf3 := hR10.f3
     have H11 := hide (hR10.setN HBF.out (H9.out.2.2.1.grown hg10 (fun b e => by cases e;exact .inl (by simp))) hC10 (hg10.cell H9.out.2.2.2 hnb) (intVal num.s))
     clear hg10 hC10 hR10 hb10 H9 r2 rf2
     go_wp2
     go_end0
     have hPS : done ++ [(sgn t.neg,X)] = PARTS := by rw [← hPP.out,← hPT.out];rfl
     rw [← hST.out,← hPS]
     exact ⟨rfl,H11.out.2.2.1,H11.out.1,_,H11.out.2.1,H11.out.2.2.2.1,H11.out.2.2.2.2⟩
    | cons t2 ts2 =>
     obtain ⟨sg,m2,b1,b2,b3,b4⟩ := HAs.out
     have hpq : Hid (peekS toks (i + 1) = sg.s) := by unfold Hid peekS;rw [b1];rfl
     rw [hpq.out]
     obtain ⟨c0,c1,c2,c3,f1,f2,f3,_⟩ := HC8.out.wk
     have HRR : Hid (∀ W,W = w8.setCell ⟨bw,1,none⟩ (.int .i64 ((i + 1 + 1 : Nat) : Int)) → SumRel toks vars bw bm gt capt br vv C q ST PARTS w (ts2.length + 1) (.int .i64 (sgn t2.neg)) (.int .i64 ((k + 1 : Nat) : Int)) W) := by
      rintro W rfl
      exact ⟨k + 1,i + 1 + 1,m2,t2,ts2,done ++ [(sgn t.neg,X)],_,_,_,rfl,rfl,rfl,by omega,by simp;omega,HC8.out.setI _,b3,b4,hST.out,by unfold Hid;rw [← hPP.out,← hPT.out];simp,HR8.out.grown (grown_set _ _ _ _) (fun b e => by cases e;exact ⟨fun e => HBF.out.a e.symm,fun e => by have := (HR8.out.own.lt _ e).1;omega⟩),
       HB8.out.set (.inl (by simp)) _ _⟩
     cases hng : t2.neg with
     | false =>
      have hs1 : sg.s.toList = [43] := by rw [b2,hng];rfl
      rw [hng] at HRR
      clear b1 b2 b3 b4 HC8 HR8 HB8 hng
      go_wp2
      go_roundg (ts2.length + 1)
      case measure => simp
      case rel => exact HRR.out _ (by congr 2 <;> go_num)
     | true =>
      have hs1 : sg.s.toList = [45] := by rw [b2,hng];rfl
      rw [hng] at HRR
      clear b1 b2 b3 b4 HC8 HR8 HB8 hng
      go_wp2
      go_roundg (ts2.length + 1)
      case measure => simp
      case rel => exact HRR.out _ (by congr 2 <;> go_num)
end
section
structure PLst where
 name : ByteArray
 nums : List Int
 v : Value
structure PRul where
 sort : Int
 parts : List (Int × Int)
 pv : Value
 rel : ByteArray
 n : Int
 v : Int
 w : Int
 x : Int
def varCells (l : List PVar) : List Value := l.flatMap fun x => [.string x.name,.int .i64 x.low,.int .i64 x.high]
def lstCells (l : List PLst) : List Value := l.flatMap fun x => [.string x.name,x.v]
def rulCells (l : List PRul) : List Value := l.flatMap fun r => [.int .u8 r.sort,r.pv,.string r.rel,.int .i64 r.n,.int .i64 r.v,.int .i64 r.w,.int .i64 r.x]
theorem varCells_snoc (l : List PVar) (x : PVar) : varCells (l ++ [x]) = varCells l ++ [.string x.name,.int .i64 x.low,.int .i64 x.high] := by simp [varCells]
theorem lstCells_snoc (l : List PLst) (x : PLst) : lstCells (l ++ [x]) = lstCells l ++ [.string x.name,x.v] := by simp [lstCells]
theorem rulCells_snoc (l : List PRul) (r : PRul) : rulCells (l ++ [r]) = rulCells l ++ [.int .u8 r.sort,r.pv,.string r.rel,.int .i64 r.n,.int .i64 r.v,.int .i64 r.w,.int .i64 r.x] := by simp [rulCells]
theorem varCells_get (l : List PVar) (k : Nat) (x : PVar) (h : l[k]? = some x) : (varCells l)[k * 3]? = some (.string x.name) ∧ (varCells l)[k * 3 + 1]? = some (.int .i64 x.low) ∧ (varCells l)[k * 3 + 2]? = some (.int .i64 x.high) := by
 induction l generalizing k with
 | nil => simp at h
 | cons a l ih =>
  cases k with
  | zero => simp at h;subst h;simp [varCells]
  | succ k =>
   have e : varCells (a :: l) = [.string a.name,.int .i64 a.low,.int .i64 a.high] ++ varCells l := rfl
   have h3 := ih k (by simpa using h)
   have e1 : (k + 1) * 3 = k * 3 + 3 := by omega
   rw [e,e1]
   refine ⟨?_,?_,?_⟩
   ·rw [List.getElem?_append_right (by simp)];simpa using h3.1
   ·rw [List.getElem?_append_right (by simp)];have := h3.2.1;simpa [show k * 3 + 3 + 1 - 3 = k * 3 + 1 by omega] using this
   ·rw [List.getElem?_append_right (by simp)];have := h3.2.2;simpa [show k * 3 + 3 + 2 - 3 = k * 3 + 2 by omega] using this
theorem lstCells_get (l : List PLst) (k : Nat) (x : PLst) (h : l[k]? = some x) : (lstCells l)[k * 2]? = some (.string x.name) ∧ (lstCells l)[k * 2 + 1]? = some x.v := by
 induction l generalizing k with
 | nil => simp at h
 | cons a l ih =>
  cases k with
  | zero => simp at h;subst h;simp [lstCells]
  | succ k =>
   have e : lstCells (a :: l) = [.string a.name,a.v] ++ lstCells l := rfl
   have h3 := ih k (by simpa using h)
   have e1 : (k + 1) * 2 = k * 2 + 2 := by omega
   rw [e,e1]
   refine ⟨?_,?_⟩
   ·rw [List.getElem?_append_right (by simp)];simpa using h3.1
   ·rw [List.getElem?_append_right (by simp)];have := h3.2;simpa [show k * 2 + 2 + 1 - 2 = k * 2 + 1 by omega] using this
theorem own_cells {w : World} {base n size : Nat} {e : TypeId} {v : Value} {xs : List Value} (h : w.ownsRow base e size v n xs) : (n = 0 ∧ v = .slice none 0 0) ∨ ∃ g cap,v = .slice (some ⟨g,0,none⟩) n cap ∧ base ≤ g ∧ g < w.heap.size ∧ ∀ j u,xs[j]? = some u → w.cell? ⟨g,j,none⟩ = some u := by
 have hc := @World.ownsRow.cells w base e size v n xs h
 have hl := h.lt
 rcases h.2 with ⟨h1,h2⟩ | ⟨g,cap,cur,rfl,h2,h3,h4,_⟩
 ·exact .inl ⟨h2,h1⟩
 ·refine .inr ⟨g,cap,rfl,h2,(hl g rfl).2,fun j u hu => ?_⟩
  have hadd : (⟨g,0,none⟩ : Addr).add j = ⟨g,j,none⟩ := by unfold Addr.add;split <;> simp_all
  rw [← hadd];exact hc rfl j u hu
theorem own_vars {w : World} {base : Nat} {v : Value} {vars : List PVar} (h : w.ownsRow base 119 3 v vars.length (varCells vars)) : VarsAt w v vars := by
 rcases own_cells h with ⟨h1,h2⟩ | ⟨g,cap,h1,_,_,h2⟩
 ·exact .inl ⟨List.length_eq_zero_iff.1 h1,h2⟩
 ·exact .inr ⟨g,cap,h1,fun k x hx => ⟨h2 _ _ (varCells_get vars k x hx).1,h2 _ _ (varCells_get vars k x hx).2.1,h2 _ _ (varCells_get vars k x hx).2.2⟩⟩
def lnames (l : List PLst) : List ByteArray := l.map (·.name)
theorem own_lists {w : World} {base : Nat} {v : Value} {l : List PLst} (h : w.ownsRow base 178 2 v l.length (lstCells l)) : NamesAt w v 2 (lnames l) := by
 rcases own_cells h with ⟨h1,h2⟩ | ⟨g,cap,h1,_,_,h2⟩
 ·exact .inl ⟨by rw [List.length_eq_zero_iff.1 h1];rfl,h2⟩
 ·refine .inr ⟨g,cap,by simpa [lnames] using h1,fun k a ha => ?_⟩
  simp only [lnames,List.getElem?_map,Option.map_eq_some_iff] at ha
  obtain ⟨x,hx,rfl⟩ := ha
  exact h2 _ _ (lstCells_get l k x hx).1
def lstX (lists : List PLst) (s : ByteArray) : Int := findName s (lnames lists) 0
structure Md (w : World) (bw bm gt capt B : Nat) (toks : List PTok) (vv vl vr : Value) (vars : List PVar) (lists : List PLst) (rules : List PRul) (i : Nat) (kind line : Int) : Prop where
 wk : Wk w bw bm i kind line
 tk : Tk w bm gt capt toks
 m1 : w.cell? ⟨bm,1,none⟩ = some vv
 m2 : w.cell? ⟨bm,2,none⟩ = some vl
 m3 : w.cell? ⟨bm,3,none⟩ = some vr
 f1 : w.frozen? ⟨bm,1,none⟩ = false
 f2 : w.frozen? ⟨bm,2,none⟩ = false
 f3 : w.frozen? ⟨bm,3,none⟩ = false
 ov : w.ownsRow B 119 3 vv vars.length (varCells vars)
 ol : w.ownsRow B 178 2 vl lists.length (lstCells lists)
 orr : w.ownsRow B 176 7 vr rules.length (rulCells rules)
 li : ∀ l ∈ lists,w.ownsRow B 3 1 l.v l.nums.length (l.nums.map (.int .i64))
 ri : ∀ r ∈ rules,w.ownsRow B 183 2 r.pv r.parts.length (partCells r.parts)
 ne1 : bm ≠ bw
 ne2 : gt ≠ bw
 ne3 : gt ≠ bm
 hbw : bw < B
 hbm : bm < B
 hgt : gt < B
 hB : B ≤ w.heap.size
 hn : toks.length ≤ 2000
 lv : vars.length ≤ i
 ll : lists.length ≤ i
 lr : rules.length ≤ i
section
variable {w w' w0 : World} {bw bm gt capt B : Nat} {toks : List PTok} {vv vl vr : Value} {vars : List PVar} {lists : List PLst} {rules : List PRul} {i : Nat} {kind line : Int}
theorem Md.ctx (h : Md w bw bm gt capt B toks vv vl vr vars lists rules i kind line) (hi : i ≤ 4000) : Ctx w bw bm gt capt toks vv vars i kind line :=
 ⟨h.wk,h.tk,h.m1,own_vars h.ov,fun e => by have := (h.ov.lt _ e).1;have := h.hbw;omega,h.ne1,h.ne2,h.hn,by have := h.lv;omega,fun b e => (h.ov.lt _ e).2⟩
theorem own_but {e : TypeId} {size n : Nat} {v : Value} {xs : List Value} {S : List Nat} (h : w0.ownsRow B e size v n xs) (hb : But S w0 w) (hS : ∀ k,k ∈ S → k < B) : w.ownsRow B e size v n xs := by
 obtain ⟨h1,h2⟩ := h
 refine ⟨h1,?_⟩
 rcases h2 with h2 | ⟨g,cap,cur,hv,hg,hh,r⟩
 ·exact .inl h2
 ·have hgl : g < w0.heap.size := by
   rcases Nat.lt_or_ge g w0.heap.size with hl | hl
   ·exact hl
   ·rw [Array.getElem?_eq_none hl] at hh;cases hh
  exact .inr ⟨g,cap,cur,hv,hg,by rw [hb.block g hgl (fun e => by have := hS g e;omega)];exact hh,r⟩
theorem Md.but (h : Md w0 bw bm gt capt B toks vv vl vr vars lists rules i kind line) (hb : But [bw] w0 w) {j : Nat} {k l : Int} (hW : Wk w bw bm j k l) (hij : i ≤ j) : Md w bw bm gt capt B toks vv vl vr vars lists rules j k l := by
 have hS : ∀ k,k ∈ [bw] → k < B := fun k hk => by have := h.hbw;simp at hk;omega
 have nm : bm ∉ [bw] := by simpa using h.ne1
 have ng : gt ∉ [bw] := by simpa using h.ne2
 have fz : ∀ q,w.frozen? ⟨bm,q,none⟩ = w0.frozen? ⟨bm,q,none⟩ := fun q => World.frozen?_of_block (hb.block bm h.tk.ltm nm)
 exact ⟨hW,⟨(hb.cell h.tk.ltm nm 0).trans h.tk.m0,fun j u hu => (hb.cell h.tk.ltg ng j).trans (h.tk.row j u hu),Nat.lt_of_lt_of_le h.tk.ltm hb.size,Nat.lt_of_lt_of_le h.tk.ltg hb.size⟩,
  (hb.cell h.tk.ltm nm 1).trans h.m1,(hb.cell h.tk.ltm nm 2).trans h.m2,(hb.cell h.tk.ltm nm 3).trans h.m3,(fz 1).trans h.f1,(fz 2).trans h.f2,(fz 3).trans h.f3,
  own_but h.ov hb hS,own_but h.ol hb hS,own_but h.orr hb hS,fun l hl => own_but (h.li l hl) hb hS,fun r hr => own_but (h.ri r hr) hb hS,h.ne1,h.ne2,h.ne3,h.hbw,h.hbm,h.hgt,Nat.le_trans h.hB hb.size,h.hn,
  by have := h.lv;omega,by have := h.ll;omega,by have := h.lr;omega⟩
theorem But.of_grown {S : List Nat} {row : Option Nat} (hg : w.grownBy w' row) (hr : ∀ k,row = some k → k ∈ S) : But S w w' := (But.refl S w).grown hg (fun k e => .inl (hr k e))
theorem But.walk (h : But [bw] w0 w) (hg : w.grownBy w' (some bw)) : But [bw] w0 w' := h.grown hg (fun k e => by cases e;exact .inl (by simp))
theorem But.sub {S S' : List Nat} (h : But S w0 w) (k : But S' w w') (hs : ∀ b,b ∈ S' → b ∈ S ∨ w0.heap.size ≤ b) : But S w0 w' :=
 ⟨k.os.trans h.os,k.tape.trans h.tape,k.output.trans h.output,Nat.le_trans h.size k.size,fun b hb hn =>
  (k.block b (Nat.lt_of_lt_of_le hb h.size) (fun e => by rcases hs b e with q | q;exact hn q;omega)).trans (h.block b hb hn)⟩
theorem md_declared (h : Md w bw bm gt capt B toks vv vl vr vars lists rules i kind line) (hi : i < toks.length) : Calls Tryz.prog 97 #[.pointer (some ⟨bw,0,none⟩)] w fun e w' => e = .returned (.string (peekS toks i)) ∧ w.grownBy w' (some bw) ∧
   Wk w' bw bm ((i + 1 : Nat) : Int) (fKind (decide (0 ≤ varX vars (peekS toks i)) || decide (0 ≤ lstX lists (peekS toks i))) 4 kind) (fLine (decide (0 ≤ varX vars (peekS toks i)) || decide (0 ≤ lstX lists (peekS toks i))) kind (lineAt toks i) line) := by
 have hn := h.hn
 have l1 := h.lv
 have l2 := h.ll
 exact ref_declared toks i kind line bw bm gt capt vv vl (namesOf vars) (lnames lists) w h.hn hi h.ne1 h.ne2 (by simp [namesOf];omega) (by simp [lnames];omega) ⟨h.m1,h.m2⟩ ⟨(own_vars h.ov).names,own_lists h.ol⟩
  ⟨fun e => by have := (h.ov.lt _ e).1;have := h.hbw;omega,fun e => by have := (h.ol.lt _ e).1;have := h.hbw;omega⟩ h.wk h.tk
structure ButB (B : Nat) (S : List Nat) (w w' : World) : Prop where
 os : w'.os = w.os
 tape : w'.tape = w.tape
 output : w'.output = w.output
 size : w.heap.size ≤ w'.heap.size
 block : ∀ k,k < B → k ∉ S → w'.heap[k]? = w.heap[k]?
theorem ButB.refl (B : Nat) (S : List Nat) (w : World) : ButB B S w w := ⟨rfl,rfl,rfl,Nat.le_refl _,fun _ _ _ => rfl⟩
theorem ButB.trans {B : Nat} {S : List Nat} {a b c : World} (h : ButB B S a b) (k : ButB B S b c) : ButB B S a c :=
 ⟨k.os.trans h.os,k.tape.trans h.tape,k.output.trans h.output,Nat.le_trans h.size k.size,fun i hi hn => (k.block i hi hn).trans (h.block i hi hn)⟩
theorem But.toB {S S' : List Nat} (h : But S w0 w) (hB : B ≤ w0.heap.size) (hs : ∀ k,k ∈ S → k ∈ S') : ButB B S' w0 w := ⟨h.os,h.tape,h.output,h.size,fun k hk hn => h.block k (by omega) (fun e => hn (hs k e))⟩
theorem ButB.grown {S : List Nat} {row : Option Nat} (h : ButB B S w0 w) (hg : w.grownBy w' row) (hB : B ≤ w.heap.size) (hr : ∀ k,row = some k → k ∈ S ∨ B ≤ k) : ButB B S w0 w' :=
 ⟨hg.os.trans h.os,hg.tape.trans h.tape,hg.output.trans h.output,Nat.le_trans h.size hg.size,fun i hi hn =>
  (hg.block i (by omega) (fun e => by rcases hr i e.symm with q | q;exact hn q;omega)).trans (h.block i hi hn)⟩
theorem own_ne {B' : Nat} {e e' : TypeId} {s s' n n' : Nat} {v v' : Value} {xs xs' : List Value} (h : w.ownsRow B e s v n xs) (h' : w.ownsRow B' e' s' v' n' xs') (he : e ≠ e') : v.ownBlock = none ∨ v.ownBlock ≠ v'.ownBlock := by
 rcases h.2 with ⟨rfl,_⟩ | ⟨g,cap,cur,rfl,_,h3,_⟩
 ·exact .inl rfl
 ·right
  intro e1
  rcases h'.2 with ⟨rfl,_⟩ | ⟨g',cap',cur',rfl,_,h3',_⟩
  ·cases e1
  ·have : g = g' := Option.some.inj e1
   subst this
   rw [h3] at h3'
   cases h3'
   exact he rfl
theorem own_ne_low {e : TypeId} {s n b : Nat} {v : Value} {xs : List Value} (h : w.ownsRow B e s v n xs) (hb : b < B) : v.ownBlock = none ∨ v.ownBlock ≠ some b := by
 cases hv : v.ownBlock with
 | none => exact .inl rfl
 | some g => exact .inr (fun e => by have := (h.lt _ hv).1;cases e;omega)
theorem Md.pushVar (h : Md w bw bm gt capt B toks vv vl vr vars lists rules i kind line) {o : Obj} {wA : World} {v' : Value} {x : PVar} (hi : vars.length + 1 ≤ i) (hown : wA.ownsRow B 119 3 v' (vars.length + 1) (varCells vars ++ [.string x.name,.int .i64 x.low,.int .i64 x.high])) (hg : (w.alloc o).drew.grownBy wA vv.ownBlock) : Md (wA.setCell ⟨bm,1,none⟩ v') bw bm gt capt B toks v' vl vr (vars ++ [x]) lists rules i kind line ∧ ButB B [bw,bm] w (wA.setCell ⟨bm,1,none⟩ v') := by
 have g0 : w.grownBy (w.alloc o).drew none := (World.grownBy_alloc w o none).trans (grown_drew' _ none)
 have gs := grown_set wA bm 1 v'
 have hlow : ∀ b,b < B → some b ≠ vv.ownBlock := fun b hb e => by have := (h.ov.lt _ e.symm).1;omega
 have nn : ∀ {v : Value},v.ownBlock = none ∨ v.ownBlock ≠ none := fun {v} => by cases v.ownBlock with
  | none => exact .inl rfl
  | some g => exact .inr (by simp)
 have keep : ∀ {e : TypeId} {s n : Nat} {v : Value} {xs : List Value},w.ownsRow B e s v n xs → e ≠ 119 → (wA.setCell ⟨bm,1,none⟩ v').ownsRow B e s v n xs := fun {e s n v xs} ho he =>
  have h1 := ho.kept g0 nn
  have h2 := h1.kept hg (own_ne ho h.ov he)
  h2.kept gs (own_ne_low h2 h.hbm)
 have cell : ∀ b q u,b < B → b ≠ bm → w.cell? ⟨b,q,none⟩ = some u → (wA.setCell ⟨bm,1,none⟩ v').cell? ⟨b,q,none⟩ = some u := fun b q u hb hn hu =>
  gs.cell (hg.cell (g0.cell hu (by simp)) (hlow b hb)) (by simpa using hn)
 have cellm : ∀ q u,q ≠ 1 → w.cell? ⟨bm,q,none⟩ = some u → (wA.setCell ⟨bm,1,none⟩ v').cell? ⟨bm,q,none⟩ = some u := fun q u hq hu =>
  (cell_set _ _ _ _ _ _ (.inr hq)).trans (hg.cell (g0.cell hu (by simp)) (hlow bm h.hbm))
 have hsz : w.heap.size ≤ wA.heap.size := Nat.le_trans g0.size hg.size
 have frA : ∀ q,wA.frozen? ⟨bm,q,none⟩ = w.frozen? ⟨bm,q,none⟩ := fun q =>
  (hg.frozen_far ⟨bm,q,none⟩ (Nat.lt_of_lt_of_le h.tk.ltm g0.size) (hlow bm h.hbm)).trans (g0.frozen_far ⟨bm,q,none⟩ h.tk.ltm (by simp))
 have fr : ∀ q,(wA.setCell ⟨bm,1,none⟩ v').frozen? ⟨bm,q,none⟩ = w.frozen? ⟨bm,q,none⟩ := fun q => (World.frozen?_setCell _ _ _ _).trans (frA q)
 have hwk : Wk (wA.setCell ⟨bm,1,none⟩ v') bw bm i kind line := by
  have n1 := hlow bw h.hbw
  have n2 : some bw ≠ some bm := by simpa using fun e : bw = bm => h.ne1 e.symm
  have f0 : ∀ q,(wA.setCell ⟨bm,1,none⟩ v').frozen? ⟨bw,q,none⟩ = w.frozen? ⟨bw,q,none⟩ := fun q =>
   (World.frozen?_setCell _ _ _ _).trans ((hg.frozen_far ⟨bw,q,none⟩ (Nat.lt_of_lt_of_le h.wk.lt g0.size) n1).trans (g0.frozen_far ⟨bw,q,none⟩ h.wk.lt (by simp)))
  exact ⟨cell bw 0 _ h.hbw (fun e => h.ne1 e.symm) h.wk.c0,cell bw 1 _ h.hbw (fun e => h.ne1 e.symm) h.wk.c1,cell bw 2 _ h.hbw (fun e => h.ne1 e.symm) h.wk.c2,cell bw 3 _ h.hbw (fun e => h.ne1 e.symm) h.wk.c3,
   (f0 1).trans h.wk.f1,(f0 2).trans h.wk.f2,(f0 3).trans h.wk.f3,by have := h.wk.lt;simp [World.setCell];omega⟩
 have hszs : (wA.setCell ⟨bm,1,none⟩ v').heap.size = wA.heap.size := by simp [World.setCell]
 refine ⟨⟨hwk,⟨cellm 0 _ (by omega) h.tk.m0,fun j u hu => cell gt j u h.hgt h.ne3 (h.tk.row j u hu),by have := h.tk.ltm;omega,by have := h.tk.ltg;omega⟩,?_,cellm 2 _ (by omega) h.m2,cellm 3 _ (by omega) h.m3,(fr 1).trans h.f1,(fr 2).trans h.f2,(fr 3).trans h.f3,?_,
  keep h.ol (by decide),keep h.orr (by decide),fun l hl => keep (h.li l hl) (by decide),fun r hr => keep (h.ri r hr) (by decide),h.ne1,h.ne2,h.ne3,h.hbw,h.hbm,h.hgt,by have := h.hB;omega,h.hn,by simp;omega,h.ll,h.lr⟩,?_⟩
 ·exact World.cell?_setCell_same _ _ _ (hg.cell (g0.cell h.m1 (by simp)) (hlow bm h.hbm))
 ·rw [varCells_snoc,List.length_append]
  exact hown.kept gs (own_ne_low hown h.hbm)
 ·refine (((ButB.refl B [bw,bm] w).grown g0 h.hB (fun _ e => by cases e)).grown hg (by have := h.hB;have := g0.size;omega) (fun k e => .inr ((h.ov.lt _ e).1))).grown gs (by have := h.hB;omega) (fun k e => by cases e;exact .inl (by simp))
end
end
section
set_option maxHeartbeats 2000000
set_option maxRecDepth 100000
attribute [local go_sem ↓] Go.wp_at_zero Go.wp_at_succ
theorem infoVar : (Tryz.prog.info? 119).map (fun i => (i.zero,i.size,i.bytes)) = some (some (.agg #[.string .empty,.int .i64 0,.int .i64 0]),3,32) := by kernel_rfl
def varSt (vars : List PVar) (lists : List PLst) (nm lo hi : PTok) (st : FSt) : FSt :=
 flt (outB (intVal hi.s) 1000 || decide (intVal hi.s < intVal lo.s)) 5 hi.line
  (flt (outB (intVal lo.s) 1000) 5 lo.line
   (flt (decide (0 ≤ varX vars nm.s) || decide (0 ≤ lstX lists nm.s)) 4 nm.line
    (flt (decide (8 ≤ (vars.length : Int))) 6 nm.line st)))
theorem at_tok {toks : List PTok} {i : Nat} {t : PTok} (h : toks[i]? = some t) : peekS toks i = t.s ∧ lineAt toks i = t.line ∧ i < toks.length := by
 refine ⟨by unfold peekS;rw [h];rfl,by unfold lineAt;rw [h];rfl,?_⟩
 rcases Nat.lt_or_ge i toks.length with hl | hl
 ·exact hl
 ·rw [List.getElem?_eq_none hl] at h;exact absurd h (by simp)
theorem shape_of {w : World} {B : Nat} {e : TypeId} {size n : Nat} {v : Value} {xs : List Value} (h : w.ownsRow B e size v n xs) : ∃ a cap,v = .slice a n cap := by
 rcases h.2 with ⟨h1,h2⟩ | ⟨g,cap,cur,rfl,_⟩
 ·exact ⟨none,0,by rw [h1,h2]⟩
 ·exact ⟨_,_,rfl⟩
theorem Wk.far {w w' : World} {bw bm : Nat} {i k l : Int} {row : Option Nat} (h : Wk w bw bm i k l) (hg : w.grownBy w' row) (hne : some bw ≠ row) : Wk w' bw bm i k l :=
 ⟨hg.cell h.c0 hne,hg.cell h.c1 hne,hg.cell h.c2 hne,hg.cell h.c3 hne,(hg.frozen_far ⟨bw,1,none⟩ h.lt hne).trans h.f1,(hg.frozen_far ⟨bw,2,none⟩ h.lt hne).trans h.f2,(hg.frozen_far ⟨bw,3,none⟩ h.lt hne).trans h.f3,Nat.lt_of_lt_of_le h.lt hg.size⟩
theorem var_one (a : ByteArray) (b c : Int) : ∀ u ∈ [Value.string a,.int .i64 b,.int .i64 c],u.oneCell' = true := by
 intro u hu;simp at hu;rcases hu with rfl | rfl | rfl <;> rfl
structure Bv (w : World) (bv : Nat) (s : ByteArray) (a b : Int) : Prop where
 c0 : w.cell? ⟨bv,0,none⟩ = some (.string s)
 c1 : w.cell? ⟨bv,1,none⟩ = some (.int .i64 a)
 c2 : w.cell? ⟨bv,2,none⟩ = some (.int .i64 b)
 f1 : w.frozen? ⟨bv,1,none⟩ = false
 f2 : w.frozen? ⟨bv,2,none⟩ = false
 lt : bv < w.heap.size
theorem Bv.far {w w' : World} {bv : Nat} {s : ByteArray} {a b : Int} {row : Option Nat} (h : Bv w bv s a b) (hg : w.grownBy w' row) (hne : some bv ≠ row) : Bv w' bv s a b :=
 ⟨hg.cell h.c0 hne,hg.cell h.c1 hne,hg.cell h.c2 hne,(hg.frozen_far ⟨bv,1,none⟩ h.lt hne).trans h.f1,(hg.frozen_far ⟨bv,2,none⟩ h.lt hne).trans h.f2,Nat.lt_of_lt_of_le h.lt hg.size⟩
theorem Bv.set1 {w : World} {bv : Nat} {s : ByteArray} {a b : Int} (h : Bv w bv s a b) (x : Int) : Bv (w.setCell ⟨bv,1,none⟩ (.int .i64 x)) bv s x b :=
 ⟨(cell_set _ _ _ _ _ _ (by omega)).trans h.c0,World.cell?_setCell_same _ _ _ h.c1,(cell_set _ _ _ _ _ _ (by omega)).trans h.c2,(World.frozen?_setCell _ _ _ _).trans h.f1,(World.frozen?_setCell _ _ _ _).trans h.f2,by simpa [World.setCell] using h.lt⟩
theorem Bv.set2 {w : World} {bv : Nat} {s : ByteArray} {a b : Int} (h : Bv w bv s a b) (x : Int) : Bv (w.setCell ⟨bv,2,none⟩ (.int .i64 x)) bv s a x :=
 ⟨(cell_set _ _ _ _ _ _ (by omega)).trans h.c0,(cell_set _ _ _ _ _ _ (by omega)).trans h.c1,World.cell?_setCell_same _ _ _ h.c2,(World.frozen?_setCell _ _ _ _).trans h.f1,(World.frozen?_setCell _ _ _ _).trans h.f2,by simpa [World.setCell] using h.lt⟩
theorem bv_new (w : World) (s : ByteArray) (t : TypeId) : Bv (w.alloc (.cells #[.string s,.int .i64 0,.int .i64 0] t)) w.heap.size s 0 0 := by
 have e1 := heap_alloc_new w (.cells #[.string s,.int .i64 0,.int .i64 0] t)
 refine ⟨?_,?_,?_,?_,?_,by simp⟩
 ·simp only [World.cell?,e1];rfl
 ·simp only [World.cell?,e1];rfl
 ·simp only [World.cell?,e1];rfl
 ·simp only [World.frozen?,e1];rfl
 ·simp only [World.frozen?,e1];rfl
theorem ref_stVar (w0 : World) (bw bm gt capt B : Nat) (toks : List PTok) (vv vl vr : Value) (vars : List PVar) (lists : List PLst) (rules : List PRul) (i : Nat) (kind line : Int) (kw nm lo hi : PTok) (h : Md w0 bw bm gt capt B toks vv vl vr vars lists rules i kind line) (hk : toks[i]? = some kw) (hks : kw.s = ⟨#[118,97,114]⟩) (hnm : toks[i + 1]? = some nm) (hlo : toks[i + 3]? = some lo) (hloi : IsInt lo.s) (hhi : toks[i + 5]? = some hi) (hhii : IsInt hi.s) : Calls Tryz.prog 54 #[.pointer (some ⟨bw,0,none⟩)] w0 fun e w' => e = .returned (.tuple #[]) ∧ ButB B [bw,bm] w0 w' ∧
   ∃ vv',Md w' bw bm gt capt B toks vv' vl vr (vars ++ [⟨nm.s,intVal lo.s,intVal hi.s⟩]) lists rules (i + 6) (varSt vars lists nm lo hi (kind,line)).1 (varSt vars lists nm lo hi (kind,line)).2 := by
 obtain ⟨i0,hi0,hz0,hz1,hz2⟩ := info_parts infoVar
 obtain ⟨k1,k2,k3⟩ := at_tok hk
 obtain ⟨n1,n2,n3⟩ := at_tok hnm
 obtain ⟨l1,l2,l3⟩ := at_tok hlo
 obtain ⟨g1,g2,g3⟩ := at_tok hhi
 have hn := h.hn
 have c0 := h.wk.c0
 have H0 := hide h
 have hC0 := h.ctx (by omega)
 have hpk := ctx_peek hC0 (by omega)
 rw [k1,hks] at hpk
 have HPK := hide hpk
 have HLI := hide hloi
 have HHI := hide hhii
 have HKK := hide (And.intro n1 (And.intro n2 (And.intro l1 (And.intro l2 (And.intro g1 g2)))))
 clear hpk h hC0 k1 k2 n1 n2 l1 l2 g1 g2 hk hnm hlo hhi hloi hhii hks
 go_enter Tryz.func54,Tryz.ntmps54
 go_wp2_with fail
 refine (unhide HPK).mono ?_
 rintro e w1 ⟨rfl,hg1,hC1⟩
 have HB1 := hide (But.of_grown (S := [bw]) hg1 (fun k e => by cases e;simp))
 have M1 := H0.out.but HB1.out hC1.wk (Nat.le_refl _)
 obtain ⟨av,capv,hvv⟩ := shape_of M1.ov
 obtain ⟨d0,d1,_,_,e1,_,_,_⟩ := hC1.wk
 have m1 := M1.m1
 have hne := M1.ne1
 have hbl := M1.tk.ltm
 have HW1 := hide hC1.wk
 rw [hvv] at m1
 have HVV := hide hvv
 have hset := fun W o u b' o' h => cell_set W bw o u b' o' h
 clear hg1 hC1 c0 HPK hvv M1
 go_wp2_with fail
 have HBa := hide ((HB1.out.set (k := bw) (.inl (by simp)) 1 (.int .i64 ((i : Int) + 1))).alloc (.cells #[.int .u8 ((ByteArray.mk #[118,97,114])[0].toNat : Int),.slice none 0 0,.string ⟨#[]⟩,.int .i64 0,.int .i64 0,.int .i64 0,.int .i64 0] 176))
 have HWa := hide (((HW1.out.setI ((i : Int) + 1)).far (World.grownBy_alloc _ (.cells #[.int .u8 ((ByteArray.mk #[118,97,114])[0].toNat : Int),.slice none 0 0,.string ⟨#[]⟩,.int .i64 0,.int .i64 0,.int .i64 0,.int .i64 0] 176) none) (by simp)))
 generalize ((w1.setCell ⟨bw,1,none⟩ (.int .i64 ((i : Int) + 1))).alloc (.cells #[.int .u8 ((ByteArray.mk #[118,97,114])[0].toNat : Int),.slice none 0 0,.string ⟨#[]⟩,.int .i64 0,.int .i64 0,.int .i64 0,.int .i64 0] 176)) = wa at HBa HWa ⊢
 clear d0 d1 e1 m1 HW1 HB1
 have Ma := H0.out.but (j := i + 1) HBa.out HWa.out (by omega)
 have hf1 := ctx_fault (Ma.ctx (by omega)) n3 (decide (8 ≤ (vars.length : Int))) 6
 rw [HKK.out.2.1] at hf1
 refine hf1.mono ?_
 rintro e wb ⟨rfl,hgb,hCb⟩
 have HBb := hide (HBa.out.walk hgb)
 have Mb := H0.out.but (j := i + 1) HBb.out hCb.wk (by omega)
 have hd1 := md_declared Mb n3
 rw [HKK.out.1,HKK.out.2.1] at hd1
 have HD1 := hide hd1
 clear hd1 hCb hgb hf1 Ma Mb HBa HWa
 go_wp2_with fail
 refine (unhide HD1).mono ?_
 rintro e wc ⟨rfl,hgc,hWc⟩
 have HBc := hide (HBb.out.walk hgc)
 have HWc := hide hWc
 have hltc := hWc.lt
 obtain ⟨d0,d1,_,_,e1,_,_,_⟩ := hWc
 have hne2 : (wc.heap.size : Nat) ≠ bw := by omega
 clear hgc HD1 HBb
 go_wp2_with fail
 have HBe := hide ((HBc.out.set (k := bw) (.inl (by simp)) 1 (.int .i64 ((i : Int) + 1 + 1 + 1))).alloc (.cells #[.string nm.s,.int .i64 0,.int .i64 0] 119))
 have HWe := hide ((HWc.out.setI ((i : Int) + 1 + 1 + 1)).far (World.grownBy_alloc _ (.cells #[.string nm.s,.int .i64 0,.int .i64 0] 119) none) (by simp))
 have HVe := hide (bv_new (wc.setCell ⟨bw,1,none⟩ (.int .i64 ((i : Int) + 1 + 1 + 1))) nm.s 119)
 have hszc : (wc.setCell ⟨bw,1,none⟩ (.int .i64 ((i : Int) + 1 + 1 + 1))).heap.size = wc.heap.size := by simp [World.setCell]
 rw [hszc] at HVe
 have hge : w0.heap.size ≤ wc.heap.size := HBc.out.size
 generalize ((wc.setCell ⟨bw,1,none⟩ (.int .i64 ((i : Int) + 1 + 1 + 1))).alloc (.cells #[.string nm.s,.int .i64 0,.int .i64 0] 119)) = we at HBe HWe HVe ⊢
 clear hszc
 generalize wc.heap.size = bv at hne2 hge HVe hltc ⊢
 clear d0 d1 e1 HWc HBc
 have Me := H0.out.but (j := i + 3) HBe.out HWe.out (by omega)
 have hb1 := ctx_bounded (Me.ctx (by omega)) l3 1000 (by omega) (by omega) (by rw [HKK.out.2.2.1];exact HLI.out)
 rw [HKK.out.2.2.1,HKK.out.2.2.2.1] at hb1
 refine hb1.mono ?_
 rintro e wf ⟨rfl,hgf,hCf⟩
 have HBf := hide (HBe.out.walk hgf)
 have hVf := HVe.out.far hgf (by simpa using hne2)
 have HVf := hide hVf
 have HWf := hide hCf.wk
 obtain ⟨d0,d1,_,_,e1,_,_,_⟩ := hCf.wk
 obtain ⟨v0,v1,v2,vf1,vf2,_⟩ := hVf
 obtain ⟨LO,hLO⟩ : ∃ x,intVal lo.s = x := ⟨_,rfl⟩
 rw [hLO]
 have HLO := hide hLO
 have hset2 := fun W o u b' o' h => cell_set W bv o u b' o' h
 clear hCf hgf hb1 Me HBe HWe HVe hLO
 go_wp2_with fail
 have HBg := hide ((HBf.out.set (k := bv) (.inr hge) 1 (.int .i64 LO)).set (k := bw) (.inl (by simp)) 1 (.int .i64 ((i : Int) + 3 + 1 + 1)))
 have HWg := hide ((HWf.out.far (grown_set wf bv 1 (.int .i64 LO)) (by simpa using fun e : bw = bv => hne2 e.symm)).setI ((i : Int) + 3 + 1 + 1))
 have HVg := hide ((HVf.out.set1 LO).far (grown_set _ bw 1 (.int .i64 ((i : Int) + 3 + 1 + 1))) (by simpa using hne2))
 generalize ((wf.setCell ⟨bv,1,none⟩ (.int .i64 LO)).setCell ⟨bw,1,none⟩ (.int .i64 ((i : Int) + 3 + 1 + 1))) = wg at HBg HWg HVg ⊢
 clear d0 d1 e1 v0 v1 v2 vf1 vf2 HBf HWf HVf
 have Mg := H0.out.but (j := i + 5) HBg.out HWg.out (by omega)
 have hp2 := ctx_peek (Mg.ctx (by omega)) (by omega)
 rw [HKK.out.2.2.2.2.1] at hp2
 refine hp2.mono ?_
 rintro e wh ⟨rfl,hgh,hCh⟩
 have HBh := hide (HBg.out.walk hgh)
 have hVh := HVg.out.far hgh (by simpa using hne2)
 have HVh := hide hVh
 have Mh := H0.out.but (j := i + 5) HBh.out hCh.wk (by omega)
 have HMh := hide Mh
 have v1 := hVh.c1
 have hnu := ref_number hi.s HHI.out wh
 obtain ⟨HV,hHV⟩ : ∃ x,intVal hi.s = x := ⟨_,rfl⟩
 rw [hHV] at hnu
 have HNU := hide hnu
 have HHV := hide hHV
 have HSTF : Hid (varSt vars lists nm lo hi (kind,line) = flt (outB HV 1000 || decide (HV < LO)) 5 hi.line
  (flt (outB LO 1000) 5 lo.line (flt (decide (0 ≤ varX vars nm.s) || decide (0 ≤ lstX lists nm.s)) 4 nm.line (flt (decide (8 ≤ (vars.length : Int))) 6 nm.line (kind,line))))) := by
  unfold Hid varSt;rw [HLO.out,HHV.out]
 rw [HLO.out] at HMh
 clear hCh hgh hp2 Mg HBg HWg HVg hHV hnu Mh hVh
 go_wp2_with fail
 refine (unhide HNU).mono ?_
 rintro e w9 ⟨rfl,hww⟩
 subst w9
 by_cases b1 : HV < -1000
 ·have t1 : decide (HV < -1000) = true := by simpa using b1
  have HT : Hid ((outB HV 1000 || decide (HV < LO)) = true) := by unfold Hid outB;simp [b1]
  go_wp2_with fail
  have hf3 := ctx_fault (HMh.out.ctx (by omega)) g3 true 5
  rw [HKK.out.2.2.2.2.2] at hf3
  refine hf3.mono ?_
  rintro e wi ⟨rfl,hgi,hCi⟩
  have HBi := hide (HBh.out.walk hgi)
  have hVi := HVh.out.far hgi (by simpa using hne2)
  have HVi := hide hVi
  have HWi := hide hCi.wk
  obtain ⟨d0,d1,_,_,e1,_,_,_⟩ := hCi.wk
  obtain ⟨v0,v1',v2,vf1,vf2,_⟩ := hVi
  clear hCi hgi hf3 v1
  go_wp2
  have HBj := hide ((HBi.out.set (k := bw) (.inl (by simp)) 1 (.int .i64 ((i : Int) + 5 + 1))).set (k := bv) (.inr hge) 2 (.int .i64 HV))
  have HWj := hide ((HWi.out.setI ((i : Int) + 5 + 1)).far (grown_set _ bv 2 (.int .i64 HV)) (by simpa using fun e : bw = bv => hne2 e.symm))
  have HVj := hide ((HVi.out.far (grown_set wi bw 1 (.int .i64 ((i : Int) + 5 + 1))) (by simpa using hne2)).set2 HV)
  generalize ((wi.setCell ⟨bw,1,none⟩ (.int .i64 ((i : Int) + 5 + 1))).setCell ⟨bv,2,none⟩ (.int .i64 HV)) = wj at HBj HWj HVj ⊢
  clear d0 d1 e1 v0 v1' v2 vf1 vf2 HBi HWi HVi
  have Mj := H0.out.but (j := i + 6) HBj.out HWj.out (by omega)
  obtain ⟨v0,v1,v2,vf1,vf2,hvl⟩ := HVj.out
  have m1 := Mj.m1
  have mf1 := Mj.f1
  have hbl2 := Mj.tk.ltm
  have HMj := hide Mj
  have HOWN := hide (Mj.ov.kept ((World.grownBy_alloc wj (.cells #[.string nm.s,.int .i64 LO,.int .i64 HV] 119) none).trans (grown_drew' _ none)) (by cases vv.ownBlock with
   | none => exact .inl rfl
   | some g => exact .inr (by simp)))
  have HNEWS : Hid (∀ jj u,[Value.string nm.s,.int .i64 LO,.int .i64 HV][jj]? = some u → (wj.alloc (.cells #[.string nm.s,.int .i64 LO,.int .i64 HV] 119)).drew.cell? ((⟨wj.heap.size,0,none⟩ : Addr).add jj) = some u) :=
   World.news_of_block (cs := #[.string nm.s,.int .i64 LO,.int .i64 HV]) (t := 119) (fr := (0,0)) (heap_alloc_new wj _)
  have KEEP : Hid (∀ wA,(wj.alloc (.cells #[.string nm.s,.int .i64 LO,.int .i64 HV] 119)).drew.grownBy wA vv.ownBlock → wA.frozen? ⟨bm,1,none⟩ = false ∧ wA.cell? ⟨bm,1,none⟩ = some vv) := by
   intro wA hg
   have g0 : wj.grownBy (wj.alloc (.cells #[.string nm.s,.int .i64 LO,.int .i64 HV] 119)).drew none := (World.grownBy_alloc wj _ none).trans (grown_drew' _ none)
   have hlow : some bm ≠ vv.ownBlock := fun e => by have := (HMj.out.ov.lt _ e.symm).1;have := HMj.out.hbm;omega
   exact ⟨(hg.frozen_far ⟨bm,1,none⟩ (Nat.lt_of_lt_of_le HMj.out.tk.ltm g0.size) hlow).trans ((g0.frozen_far ⟨bm,1,none⟩ HMj.out.tk.ltm (by simp)).trans HMj.out.f1),hg.cell (g0.cell HMj.out.m1 (by simp)) hlow⟩
  have hBs : B ≤ wj.heap.size := Mj.hB
  have hvn : vars.length ≤ 2000 := by have := H0.out.lv;omega
  clear Mj
  go_region_law ((refine step_append_lies _ (by rfl) _ _ 112 (by rfl) B 119 i0 (.agg #[.string .empty,.int .i64 0,.int .i64 0]) 3 32 Tryz.underlying112 hi0 hz0 hz1 hz2 rfl (by decide) vv vars.length (varCells vars) (by rfl) HOWN.out ⟨wj.heap.size,0,none⟩ 1 1 [.string nm.s,.int .i64 LO,.int .i64 HV] (by rfl) rfl HNEWS.out (var_one _ _ _) (by decide) (by unfold maxLen;omega) (by omega) (by simp;omega) _ rfl ?_;intro gA capA wA hownA hgrowA hatA hltA;obtain ⟨q1,q2⟩ := KEEP.out wA hgrowA))
  all_goals
   have HP := hide (HMj.out.pushVar (x := ⟨nm.s,LO,HV⟩) (by have := H0.out.lv;omega) hownA hgrowA)
   clear HOWN HNEWS KEEP hownA hgrowA hatA hltA m1 mf1 v0 v1 v2 vf1 vf2
   go_wp2
   refine bodyPost_ret (results_none (by first | rfl | kernel_rfl) _ _ _) rfl ?_
   rw [HLO.out,HHV.out,HSTF.out,HT.out]
   exact ⟨rfl,(HBj.out.toB H0.out.hB (fun k hk => by simp at hk;simp [hk])).trans HP.out.2,_,HP.out.1⟩
 ·have t1 : decide (HV < -1000) = false := by simpa using b1
  by_cases b2 : 1000 < HV
  ·have t2 : decide (1000 < HV) = true := by simpa using b2
   have HT : Hid ((outB HV 1000 || decide (HV < LO)) = true) := by unfold Hid outB;simp [b2]
   go_wp2_with fail
   have hf3 := ctx_fault (HMh.out.ctx (by omega)) g3 true 5
   rw [HKK.out.2.2.2.2.2] at hf3
   refine hf3.mono ?_
   rintro e wi ⟨rfl,hgi,hCi⟩
   have HBi := hide (HBh.out.walk hgi)
   have hVi := HVh.out.far hgi (by simpa using hne2)
   have HVi := hide hVi
   have HWi := hide hCi.wk
   obtain ⟨d0,d1,_,_,e1,_,_,_⟩ := hCi.wk
   obtain ⟨v0,v1',v2,vf1,vf2,_⟩ := hVi
   clear hCi hgi hf3 v1
   go_wp2
   have HBj := hide ((HBi.out.set (k := bw) (.inl (by simp)) 1 (.int .i64 ((i : Int) + 5 + 1))).set (k := bv) (.inr hge) 2 (.int .i64 HV))
   have HWj := hide ((HWi.out.setI ((i : Int) + 5 + 1)).far (grown_set _ bv 2 (.int .i64 HV)) (by simpa using fun e : bw = bv => hne2 e.symm))
   have HVj := hide ((HVi.out.far (grown_set wi bw 1 (.int .i64 ((i : Int) + 5 + 1))) (by simpa using hne2)).set2 HV)
   generalize ((wi.setCell ⟨bw,1,none⟩ (.int .i64 ((i : Int) + 5 + 1))).setCell ⟨bv,2,none⟩ (.int .i64 HV)) = wj at HBj HWj HVj ⊢
   clear d0 d1 e1 v0 v1' v2 vf1 vf2 HBi HWi HVi
   have Mj := H0.out.but (j := i + 6) HBj.out HWj.out (by omega)
   obtain ⟨v0,v1,v2,vf1,vf2,hvl⟩ := HVj.out
   have m1 := Mj.m1
   have mf1 := Mj.f1
   have hbl2 := Mj.tk.ltm
   have HMj := hide Mj
   have HOWN := hide (Mj.ov.kept ((World.grownBy_alloc wj (.cells #[.string nm.s,.int .i64 LO,.int .i64 HV] 119) none).trans (grown_drew' _ none)) (by cases vv.ownBlock with
    | none => exact .inl rfl
    | some g => exact .inr (by simp)))
   have HNEWS : Hid (∀ jj u,[Value.string nm.s,.int .i64 LO,.int .i64 HV][jj]? = some u → (wj.alloc (.cells #[.string nm.s,.int .i64 LO,.int .i64 HV] 119)).drew.cell? ((⟨wj.heap.size,0,none⟩ : Addr).add jj) = some u) :=
    World.news_of_block (cs := #[.string nm.s,.int .i64 LO,.int .i64 HV]) (t := 119) (fr := (0,0)) (heap_alloc_new wj _)
   have KEEP : Hid (∀ wA,(wj.alloc (.cells #[.string nm.s,.int .i64 LO,.int .i64 HV] 119)).drew.grownBy wA vv.ownBlock → wA.frozen? ⟨bm,1,none⟩ = false ∧ wA.cell? ⟨bm,1,none⟩ = some vv) := by
    intro wA hg
    have g0 : wj.grownBy (wj.alloc (.cells #[.string nm.s,.int .i64 LO,.int .i64 HV] 119)).drew none := (World.grownBy_alloc wj _ none).trans (grown_drew' _ none)
    have hlow : some bm ≠ vv.ownBlock := fun e => by have := (HMj.out.ov.lt _ e.symm).1;have := HMj.out.hbm;omega
    exact ⟨(hg.frozen_far ⟨bm,1,none⟩ (Nat.lt_of_lt_of_le HMj.out.tk.ltm g0.size) hlow).trans ((g0.frozen_far ⟨bm,1,none⟩ HMj.out.tk.ltm (by simp)).trans HMj.out.f1),hg.cell (g0.cell HMj.out.m1 (by simp)) hlow⟩
   have hBs : B ≤ wj.heap.size := Mj.hB
   have hvn : vars.length ≤ 2000 := by have := H0.out.lv;omega
   clear Mj
   go_region_law ((refine step_append_lies _ (by rfl) _ _ 112 (by rfl) B 119 i0 (.agg #[.string .empty,.int .i64 0,.int .i64 0]) 3 32 Tryz.underlying112 hi0 hz0 hz1 hz2 rfl (by decide) vv vars.length (varCells vars) (by rfl) HOWN.out ⟨wj.heap.size,0,none⟩ 1 1 [.string nm.s,.int .i64 LO,.int .i64 HV] (by rfl) rfl HNEWS.out (var_one _ _ _) (by decide) (by unfold maxLen;omega) (by omega) (by simp;omega) _ rfl ?_;intro gA capA wA hownA hgrowA hatA hltA;obtain ⟨q1,q2⟩ := KEEP.out wA hgrowA))
   all_goals
    have HP := hide (HMj.out.pushVar (x := ⟨nm.s,LO,HV⟩) (by have := H0.out.lv;omega) hownA hgrowA)
    clear HOWN HNEWS KEEP hownA hgrowA hatA hltA m1 mf1 v0 v1 v2 vf1 vf2
    go_wp2
    refine bodyPost_ret (results_none (by first | rfl | kernel_rfl) _ _ _) rfl ?_
    rw [HLO.out,HHV.out,HSTF.out,HT.out]
    exact ⟨rfl,(HBj.out.toB H0.out.hB (fun k hk => by simp at hk;simp [hk])).trans HP.out.2,_,HP.out.1⟩
  ·have t2 : decide (1000 < HV) = false := by simpa using b2
   by_cases b3 : HV < LO
   ·have t3 : decide (HV < LO) = true := by simpa using b3
    have HT : Hid ((outB HV 1000 || decide (HV < LO)) = true) := by unfold Hid;simp [b3]
    go_wp2_with fail
    have hf3 := ctx_fault (HMh.out.ctx (by omega)) g3 true 5
    rw [HKK.out.2.2.2.2.2] at hf3
    refine hf3.mono ?_
    rintro e wi ⟨rfl,hgi,hCi⟩
    have HBi := hide (HBh.out.walk hgi)
    have hVi := HVh.out.far hgi (by simpa using hne2)
    have HVi := hide hVi
    have HWi := hide hCi.wk
    obtain ⟨d0,d1,_,_,e1,_,_,_⟩ := hCi.wk
    obtain ⟨v0,v1',v2,vf1,vf2,_⟩ := hVi
    clear hCi hgi hf3 v1
    go_wp2
    have HBj := hide ((HBi.out.set (k := bw) (.inl (by simp)) 1 (.int .i64 ((i : Int) + 5 + 1))).set (k := bv) (.inr hge) 2 (.int .i64 HV))
    have HWj := hide ((HWi.out.setI ((i : Int) + 5 + 1)).far (grown_set _ bv 2 (.int .i64 HV)) (by simpa using fun e : bw = bv => hne2 e.symm))
    have HVj := hide ((HVi.out.far (grown_set wi bw 1 (.int .i64 ((i : Int) + 5 + 1))) (by simpa using hne2)).set2 HV)
    generalize ((wi.setCell ⟨bw,1,none⟩ (.int .i64 ((i : Int) + 5 + 1))).setCell ⟨bv,2,none⟩ (.int .i64 HV)) = wj at HBj HWj HVj ⊢
    clear d0 d1 e1 v0 v1' v2 vf1 vf2 HBi HWi HVi
    have Mj := H0.out.but (j := i + 6) HBj.out HWj.out (by omega)
    obtain ⟨v0,v1,v2,vf1,vf2,hvl⟩ := HVj.out
    have m1 := Mj.m1
    have mf1 := Mj.f1
    have hbl2 := Mj.tk.ltm
    have HMj := hide Mj
    have HOWN := hide (Mj.ov.kept ((World.grownBy_alloc wj (.cells #[.string nm.s,.int .i64 LO,.int .i64 HV] 119) none).trans (grown_drew' _ none)) (by cases vv.ownBlock with
     | none => exact .inl rfl
     | some g => exact .inr (by simp)))
    have HNEWS : Hid (∀ jj u,[Value.string nm.s,.int .i64 LO,.int .i64 HV][jj]? = some u → (wj.alloc (.cells #[.string nm.s,.int .i64 LO,.int .i64 HV] 119)).drew.cell? ((⟨wj.heap.size,0,none⟩ : Addr).add jj) = some u) :=
     World.news_of_block (cs := #[.string nm.s,.int .i64 LO,.int .i64 HV]) (t := 119) (fr := (0,0)) (heap_alloc_new wj _)
    have KEEP : Hid (∀ wA,(wj.alloc (.cells #[.string nm.s,.int .i64 LO,.int .i64 HV] 119)).drew.grownBy wA vv.ownBlock → wA.frozen? ⟨bm,1,none⟩ = false ∧ wA.cell? ⟨bm,1,none⟩ = some vv) := by
     intro wA hg
     have g0 : wj.grownBy (wj.alloc (.cells #[.string nm.s,.int .i64 LO,.int .i64 HV] 119)).drew none := (World.grownBy_alloc wj _ none).trans (grown_drew' _ none)
     have hlow : some bm ≠ vv.ownBlock := fun e => by have := (HMj.out.ov.lt _ e.symm).1;have := HMj.out.hbm;omega
     exact ⟨(hg.frozen_far ⟨bm,1,none⟩ (Nat.lt_of_lt_of_le HMj.out.tk.ltm g0.size) hlow).trans ((g0.frozen_far ⟨bm,1,none⟩ HMj.out.tk.ltm (by simp)).trans HMj.out.f1),hg.cell (g0.cell HMj.out.m1 (by simp)) hlow⟩
    have hBs : B ≤ wj.heap.size := Mj.hB
    have hvn : vars.length ≤ 2000 := by have := H0.out.lv;omega
    clear Mj
    go_region_law ((refine step_append_lies _ (by rfl) _ _ 112 (by rfl) B 119 i0 (.agg #[.string .empty,.int .i64 0,.int .i64 0]) 3 32 Tryz.underlying112 hi0 hz0 hz1 hz2 rfl (by decide) vv vars.length (varCells vars) (by rfl) HOWN.out ⟨wj.heap.size,0,none⟩ 1 1 [.string nm.s,.int .i64 LO,.int .i64 HV] (by rfl) rfl HNEWS.out (var_one _ _ _) (by decide) (by unfold maxLen;omega) (by omega) (by simp;omega) _ rfl ?_;intro gA capA wA hownA hgrowA hatA hltA;obtain ⟨q1,q2⟩ := KEEP.out wA hgrowA))
    all_goals
     have HP := hide (HMj.out.pushVar (x := ⟨nm.s,LO,HV⟩) (by have := H0.out.lv;omega) hownA hgrowA)
     clear HOWN HNEWS KEEP hownA hgrowA hatA hltA m1 mf1 v0 v1 v2 vf1 vf2
     go_wp2
     refine bodyPost_ret (results_none (by first | rfl | kernel_rfl) _ _ _) rfl ?_
     rw [HLO.out,HHV.out,HSTF.out,HT.out]
     exact ⟨rfl,(HBj.out.toB H0.out.hB (fun k hk => by simp at hk;simp [hk])).trans HP.out.2,_,HP.out.1⟩
   ·have t3 : decide (HV < LO) = false := by simpa using b3
    have HT : Hid ((outB HV 1000 || decide (HV < LO)) = false) := by unfold Hid outB;simp;omega
    go_wp2_with fail
    have hf3 := ctx_fault (HMh.out.ctx (by omega)) g3 false 5
    rw [HKK.out.2.2.2.2.2] at hf3
    refine hf3.mono ?_
    rintro e wi ⟨rfl,hgi,hCi⟩
    have HBi := hide (HBh.out.walk hgi)
    have hVi := HVh.out.far hgi (by simpa using hne2)
    have HVi := hide hVi
    have HWi := hide hCi.wk
    obtain ⟨d0,d1,_,_,e1,_,_,_⟩ := hCi.wk
    obtain ⟨v0,v1',v2,vf1,vf2,_⟩ := hVi
    clear hCi hgi hf3 v1
    go_wp2
    have HBj := hide ((HBi.out.set (k := bw) (.inl (by simp)) 1 (.int .i64 ((i : Int) + 5 + 1))).set (k := bv) (.inr hge) 2 (.int .i64 HV))
    have HWj := hide ((HWi.out.setI ((i : Int) + 5 + 1)).far (grown_set _ bv 2 (.int .i64 HV)) (by simpa using fun e : bw = bv => hne2 e.symm))
    have HVj := hide ((HVi.out.far (grown_set wi bw 1 (.int .i64 ((i : Int) + 5 + 1))) (by simpa using hne2)).set2 HV)
    generalize ((wi.setCell ⟨bw,1,none⟩ (.int .i64 ((i : Int) + 5 + 1))).setCell ⟨bv,2,none⟩ (.int .i64 HV)) = wj at HBj HWj HVj ⊢
    clear d0 d1 e1 v0 v1' v2 vf1 vf2 HBi HWi HVi
    have Mj := H0.out.but (j := i + 6) HBj.out HWj.out (by omega)
    obtain ⟨v0,v1,v2,vf1,vf2,hvl⟩ := HVj.out
    have m1 := Mj.m1
    have mf1 := Mj.f1
    have hbl2 := Mj.tk.ltm
    have HMj := hide Mj
    have HOWN := hide (Mj.ov.kept ((World.grownBy_alloc wj (.cells #[.string nm.s,.int .i64 LO,.int .i64 HV] 119) none).trans (grown_drew' _ none)) (by cases vv.ownBlock with
     | none => exact .inl rfl
     | some g => exact .inr (by simp)))
    have HNEWS : Hid (∀ jj u,[Value.string nm.s,.int .i64 LO,.int .i64 HV][jj]? = some u → (wj.alloc (.cells #[.string nm.s,.int .i64 LO,.int .i64 HV] 119)).drew.cell? ((⟨wj.heap.size,0,none⟩ : Addr).add jj) = some u) :=
     World.news_of_block (cs := #[.string nm.s,.int .i64 LO,.int .i64 HV]) (t := 119) (fr := (0,0)) (heap_alloc_new wj _)
    have KEEP : Hid (∀ wA,(wj.alloc (.cells #[.string nm.s,.int .i64 LO,.int .i64 HV] 119)).drew.grownBy wA vv.ownBlock → wA.frozen? ⟨bm,1,none⟩ = false ∧ wA.cell? ⟨bm,1,none⟩ = some vv) := by
     intro wA hg
     have g0 : wj.grownBy (wj.alloc (.cells #[.string nm.s,.int .i64 LO,.int .i64 HV] 119)).drew none := (World.grownBy_alloc wj _ none).trans (grown_drew' _ none)
     have hlow : some bm ≠ vv.ownBlock := fun e => by have := (HMj.out.ov.lt _ e.symm).1;have := HMj.out.hbm;omega
     exact ⟨(hg.frozen_far ⟨bm,1,none⟩ (Nat.lt_of_lt_of_le HMj.out.tk.ltm g0.size) hlow).trans ((g0.frozen_far ⟨bm,1,none⟩ HMj.out.tk.ltm (by simp)).trans HMj.out.f1),hg.cell (g0.cell HMj.out.m1 (by simp)) hlow⟩
    have hBs : B ≤ wj.heap.size := Mj.hB
    have hvn : vars.length ≤ 2000 := by have := H0.out.lv;omega
    clear Mj
    go_region_law ((refine step_append_lies _ (by rfl) _ _ 112 (by rfl) B 119 i0 (.agg #[.string .empty,.int .i64 0,.int .i64 0]) 3 32 Tryz.underlying112 hi0 hz0 hz1 hz2 rfl (by decide) vv vars.length (varCells vars) (by rfl) HOWN.out ⟨wj.heap.size,0,none⟩ 1 1 [.string nm.s,.int .i64 LO,.int .i64 HV] (by rfl) rfl HNEWS.out (var_one _ _ _) (by decide) (by unfold maxLen;omega) (by omega) (by simp;omega) _ rfl ?_;intro gA capA wA hownA hgrowA hatA hltA;obtain ⟨q1,q2⟩ := KEEP.out wA hgrowA))
    all_goals
     have HP := hide (HMj.out.pushVar (x := ⟨nm.s,LO,HV⟩) (by have := H0.out.lv;omega) hownA hgrowA)
     clear HOWN HNEWS KEEP hownA hgrowA hatA hltA m1 mf1 v0 v1 v2 vf1 vf2
     go_wp2
     refine bodyPost_ret (results_none (by first | rfl | kernel_rfl) _ _ _) rfl ?_
     rw [HLO.out,HHV.out,HSTF.out,HT.out]
     exact ⟨rfl,(HBj.out.toB H0.out.hB (fun k hk => by simp at hk;simp [hk])).trans HP.out.2,_,HP.out.1⟩
end
section
section
variable {w w' w0 : World} {bw bm gt capt B : Nat} {toks : List PTok} {vv vl vr : Value} {vars : List PVar} {lists : List PLst} {rules : List PRul} {i : Nat} {kind line : Int}
theorem Md.pushRule (h : Md w bw bm gt capt B toks vv vl vr vars lists rules i kind line) {o : Obj} {wA : World} {v' : Value} {x : PRul} (hi : rules.length + 1 ≤ i) (hp : w.ownsRow B 183 2 x.pv x.parts.length (partCells x.parts)) (hown : wA.ownsRow B 176 7 v' (rules.length + 1) (rulCells rules ++ [.int .u8 x.sort,x.pv,.string x.rel,.int .i64 x.n,.int .i64 x.v,.int .i64 x.w,.int .i64 x.x])) (hg : (w.alloc o).drew.grownBy wA vr.ownBlock) : Md (wA.setCell ⟨bm,3,none⟩ v') bw bm gt capt B toks vv vl v' vars lists (rules ++ [x]) i kind line ∧ ButB B [bw,bm] w (wA.setCell ⟨bm,3,none⟩ v') := by
 have g0 : w.grownBy (w.alloc o).drew none := (World.grownBy_alloc w o none).trans (grown_drew' _ none)
 have gs := grown_set wA bm 3 v'
 have hlow : ∀ b,b < B → some b ≠ vr.ownBlock := fun b hb e => by have := (h.orr.lt _ e.symm).1;omega
 have nn : ∀ {v : Value},v.ownBlock = none ∨ v.ownBlock ≠ none := fun {v} => by cases v.ownBlock with
  | none => exact .inl rfl
  | some g => exact .inr (by simp)
 have keep : ∀ {e : TypeId} {s n : Nat} {v : Value} {xs : List Value},w.ownsRow B e s v n xs → e ≠ 176 → (wA.setCell ⟨bm,3,none⟩ v').ownsRow B e s v n xs := fun {e s n v xs} ho he =>
  have h1 := ho.kept g0 nn
  have h2 := h1.kept hg (own_ne ho h.orr he)
  h2.kept gs (own_ne_low h2 h.hbm)
 have cell : ∀ b q u,b < B → b ≠ bm → w.cell? ⟨b,q,none⟩ = some u → (wA.setCell ⟨bm,3,none⟩ v').cell? ⟨b,q,none⟩ = some u := fun b q u hb hn hu =>
  gs.cell (hg.cell (g0.cell hu (by simp)) (hlow b hb)) (by simpa using hn)
 have cellm : ∀ q u,q ≠ 3 → w.cell? ⟨bm,q,none⟩ = some u → (wA.setCell ⟨bm,3,none⟩ v').cell? ⟨bm,q,none⟩ = some u := fun q u hq hu =>
  (cell_set _ _ _ _ _ _ (.inr hq)).trans (hg.cell (g0.cell hu (by simp)) (hlow bm h.hbm))
 have hsz : w.heap.size ≤ wA.heap.size := Nat.le_trans g0.size hg.size
 have frA : ∀ q,wA.frozen? ⟨bm,q,none⟩ = w.frozen? ⟨bm,q,none⟩ := fun q =>
  (hg.frozen_far ⟨bm,q,none⟩ (Nat.lt_of_lt_of_le h.tk.ltm g0.size) (hlow bm h.hbm)).trans (g0.frozen_far ⟨bm,q,none⟩ h.tk.ltm (by simp))
 have fr : ∀ q,(wA.setCell ⟨bm,3,none⟩ v').frozen? ⟨bm,q,none⟩ = w.frozen? ⟨bm,q,none⟩ := fun q => (World.frozen?_setCell _ _ _ _).trans (frA q)
 have hwk : Wk (wA.setCell ⟨bm,3,none⟩ v') bw bm i kind line := by
  have n1 := hlow bw h.hbw
  have n2 : some bw ≠ some bm := by simpa using fun e : bw = bm => h.ne1 e.symm
  have f0 : ∀ q,(wA.setCell ⟨bm,3,none⟩ v').frozen? ⟨bw,q,none⟩ = w.frozen? ⟨bw,q,none⟩ := fun q =>
   (World.frozen?_setCell _ _ _ _).trans ((hg.frozen_far ⟨bw,q,none⟩ (Nat.lt_of_lt_of_le h.wk.lt g0.size) n1).trans (g0.frozen_far ⟨bw,q,none⟩ h.wk.lt (by simp)))
  exact ⟨cell bw 0 _ h.hbw (fun e => h.ne1 e.symm) h.wk.c0,cell bw 1 _ h.hbw (fun e => h.ne1 e.symm) h.wk.c1,cell bw 2 _ h.hbw (fun e => h.ne1 e.symm) h.wk.c2,cell bw 3 _ h.hbw (fun e => h.ne1 e.symm) h.wk.c3,
   (f0 1).trans h.wk.f1,(f0 2).trans h.wk.f2,(f0 3).trans h.wk.f3,by have := h.wk.lt;simp [World.setCell];omega⟩
 have hszs : (wA.setCell ⟨bm,3,none⟩ v').heap.size = wA.heap.size := by simp [World.setCell]
 refine ⟨⟨hwk,⟨cellm 0 _ (by omega) h.tk.m0,fun j u hu => cell gt j u h.hgt h.ne3 (h.tk.row j u hu),by have := h.tk.ltm;omega,by have := h.tk.ltg;omega⟩,cellm 1 _ (by omega) h.m1,cellm 2 _ (by omega) h.m2,?_,(fr 1).trans h.f1,(fr 2).trans h.f2,(fr 3).trans h.f3,keep h.ov (by decide),
  keep h.ol (by decide),?_,fun l hl => keep (h.li l hl) (by decide),fun r hr => ?_,h.ne1,h.ne2,h.ne3,h.hbw,h.hbm,h.hgt,by have := h.hB;omega,h.hn,h.lv,h.ll,by simp;omega⟩,?_⟩
 ·exact World.cell?_setCell_same _ _ _ (hg.cell (g0.cell h.m3 (by simp)) (hlow bm h.hbm))
 ·rw [rulCells_snoc,List.length_append]
  exact hown.kept gs (own_ne_low hown h.hbm)
 ·rcases List.mem_append.1 hr with hr | hr
  ·exact keep (h.ri r hr) (by decide)
  ·obtain rfl : r = x := by simpa using hr
   exact keep hp (by decide)
 ·refine (((ButB.refl B [bw,bm] w).grown g0 h.hB (fun _ e => by cases e)).grown hg (by have := h.hB;have := g0.size;omega) (fun k e => .inr ((h.orr.lt _ e).1))).grown gs (by have := h.hB;omega) (fun k e => by cases e;exact .inl (by simp))
end
structure Br (w : World) (br : Nat) (r : PRul) : Prop where
 c0 : w.cell? ⟨br,0,none⟩ = some (.int .u8 r.sort)
 c1 : w.cell? ⟨br,1,none⟩ = some r.pv
 c2 : w.cell? ⟨br,2,none⟩ = some (.string r.rel)
 c3 : w.cell? ⟨br,3,none⟩ = some (.int .i64 r.n)
 c4 : w.cell? ⟨br,4,none⟩ = some (.int .i64 r.v)
 c5 : w.cell? ⟨br,5,none⟩ = some (.int .i64 r.w)
 c6 : w.cell? ⟨br,6,none⟩ = some (.int .i64 r.x)
 fz : ∀ q,w.frozen? ⟨br,q,none⟩ = false
 lt : br < w.heap.size
theorem Br.far {w w' : World} {br : Nat} {r : PRul} {row : Option Nat} (h : Br w br r) (hg : w.grownBy w' row) (hne : some br ≠ row) : Br w' br r :=
 ⟨hg.cell h.c0 hne,hg.cell h.c1 hne,hg.cell h.c2 hne,hg.cell h.c3 hne,hg.cell h.c4 hne,hg.cell h.c5 hne,hg.cell h.c6 hne,fun q => (hg.frozen_far ⟨br,q,none⟩ h.lt hne).trans (h.fz q),Nat.lt_of_lt_of_le h.lt hg.size⟩
theorem br_new (w : World) (s : Int) (t : TypeId) : Br (w.alloc (.cells #[.int .u8 s,.slice none 0 0,.string ⟨#[]⟩,.int .i64 0,.int .i64 0,.int .i64 0,.int .i64 0] t)) w.heap.size ⟨s,[],.slice none 0 0,⟨#[]⟩,0,0,0,0⟩ := by
 have e1 := heap_alloc_new w (.cells #[.int .u8 s,.slice none 0 0,.string ⟨#[]⟩,.int .i64 0,.int .i64 0,.int .i64 0,.int .i64 0] t)
 refine ⟨?_,?_,?_,?_,?_,?_,?_,fun q => ?_,by simp⟩
 ·simp only [World.cell?,e1];rfl
 ·simp only [World.cell?,e1];rfl
 ·simp only [World.cell?,e1];rfl
 ·simp only [World.cell?,e1];rfl
 ·simp only [World.cell?,e1];rfl
 ·simp only [World.cell?,e1];rfl
 ·simp only [World.cell?,e1];rfl
 ·simp only [World.frozen?,e1];simp
theorem Br.setV {w : World} {br : Nat} {r : PRul} (h : Br w br r) (x : Int) : Br (w.setCell ⟨br,4,none⟩ (.int .i64 x)) br { r with v := x } :=
 ⟨(cell_set _ _ _ _ _ _ (by omega)).trans h.c0,(cell_set _ _ _ _ _ _ (by omega)).trans h.c1,(cell_set _ _ _ _ _ _ (by omega)).trans h.c2,(cell_set _ _ _ _ _ _ (by omega)).trans h.c3,World.cell?_setCell_same _ _ _ h.c4,(cell_set _ _ _ _ _ _ (by omega)).trans h.c5,(cell_set _ _ _ _ _ _ (by omega)).trans h.c6,fun q => (World.frozen?_setCell _ _ _ _).trans (h.fz q),by simpa [World.setCell] using h.lt⟩
theorem Br.setW {w : World} {br : Nat} {r : PRul} (h : Br w br r) (x : Int) : Br (w.setCell ⟨br,5,none⟩ (.int .i64 x)) br { r with w := x } :=
 ⟨(cell_set _ _ _ _ _ _ (by omega)).trans h.c0,(cell_set _ _ _ _ _ _ (by omega)).trans h.c1,(cell_set _ _ _ _ _ _ (by omega)).trans h.c2,(cell_set _ _ _ _ _ _ (by omega)).trans h.c3,(cell_set _ _ _ _ _ _ (by omega)).trans h.c4,World.cell?_setCell_same _ _ _ h.c5,(cell_set _ _ _ _ _ _ (by omega)).trans h.c6,fun q => (World.frozen?_setCell _ _ _ _).trans (h.fz q),by simpa [World.setCell] using h.lt⟩
theorem Br.setX {w : World} {br : Nat} {r : PRul} (h : Br w br r) (x : Int) : Br (w.setCell ⟨br,6,none⟩ (.int .i64 x)) br { r with x := x } :=
 ⟨(cell_set _ _ _ _ _ _ (by omega)).trans h.c0,(cell_set _ _ _ _ _ _ (by omega)).trans h.c1,(cell_set _ _ _ _ _ _ (by omega)).trans h.c2,(cell_set _ _ _ _ _ _ (by omega)).trans h.c3,(cell_set _ _ _ _ _ _ (by omega)).trans h.c4,(cell_set _ _ _ _ _ _ (by omega)).trans h.c5,World.cell?_setCell_same _ _ _ h.c6,fun q => (World.frozen?_setCell _ _ _ _).trans (h.fz q),by simpa [World.setCell] using h.lt⟩
theorem Br.toRl {w : World} {br : Nat} {r : PRul} (h : Br w br r) (hp : r.pv = .slice none 0 0) (B : Nat) (hB : br < B) : Rl w br B (.slice none 0 0) [] (fun q => w.cell? ⟨br,q,none⟩) :=
 ⟨by rw [h.c1,hp],h.fz 1,⟨_,h.c2⟩,h.fz 2,⟨_,h.c3⟩,h.fz 3,World.ownsRow_nil _ _ _ _,h.lt,hB,fun _ _ _ _ => rfl,h.fz⟩
theorem Br.ofRl {w w' : World} {br B : Nat} {r : PRul} {vL : Value} {parts : List (Int × Int)} {rel : ByteArray} {n : Int} (h : Br w br r) (hR : Rl w' br B vL parts (fun q => w.cell? ⟨br,q,none⟩)) (h2 : w'.cell? ⟨br,2,none⟩ = some (.string rel)) (h3 : w'.cell? ⟨br,3,none⟩ = some (.int .i64 n)) : Br w' br { r with parts := parts,pv := vL,rel := rel,n := n } :=
 ⟨(hR.oth 0 (by omega) (by omega) (by omega)).trans h.c0,hR.c1,h2,h3,(hR.oth 4 (by omega) (by omega) (by omega)).trans h.c4,(hR.oth 5 (by omega) (by omega) (by omega)).trans h.c5,(hR.oth 6 (by omega) (by omega) (by omega)).trans h.c6,hR.fz,hR.lt⟩
theorem infoRule : (Tryz.prog.info? 176).map (fun i => (i.zero,i.size,i.bytes)) = some (some (.agg #[.int .u8 0,.slice none 0 0,.string .empty,.int .i64 0,.int .i64 0,.int .i64 0,.int .i64 0]),7,80) := by kernel_rfl
end
end Go.Proofs.YthpcbbnabnlanaaGreatDoor
