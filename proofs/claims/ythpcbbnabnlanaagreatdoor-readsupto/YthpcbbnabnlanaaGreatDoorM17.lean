import Derived.Test.YthpcbbnabnlanaaGreatDoorM12
import Derived.Deep.LoopGhost
import Derived.Deep.RegionLaw
/-
  The reference's sum: its terms, its relation, its number; the rule that it fills is the caller's own.
-/
namespace Go.Proofs.YthpcbbnabnlanaaGreatDoor
open Go.RowKit
set_option linter.unusedVariables false
set_option linter.unusedSimpArgs false
attribute [local go_sem ↓] Go.wp_at_zero Go.wp_at_succ

theorem infoPart : (Tryz.prog.info? 183).map (fun i => (i.zero, i.size, i.bytes)) = some (some (.agg #[.int .i64 0, .int .i64 0]), 2, 16) := by kernel_rfl

theorem two_new (w : World) (a b c d e : Value) (t1 t2 : TypeId) : let w2 := ((w.alloc (.cells #[a, b] t1)).alloc (.cells #[c, d, e] t2)).drew
    w2.cell? ⟨w.heap.size, 0, none⟩ = some a ∧ w2.cell? ⟨w.heap.size, 1, none⟩ = some b ∧ w2.frozen? ⟨w.heap.size, 0, none⟩ = false ∧ w2.frozen? ⟨w.heap.size, 1, none⟩ = false ∧ w2.cell? ⟨w.heap.size + 1, 1, none⟩ = some d ∧ w2.heap.size = w.heap.size + 2 := by
  have e1 : ((w.alloc (.cells #[a, b] t1)).alloc (.cells #[c, d, e] t2)).drew.heap[w.heap.size]? = some (.cells #[a, b] t1) := by
    show ((w.heap.push _).push _)[w.heap.size]? = _
    rw [Array.getElem?_push, if_neg (by simp), Array.getElem?_push, if_pos rfl]
  have e2 : ((w.alloc (.cells #[a, b] t1)).alloc (.cells #[c, d, e] t2)).drew.heap[w.heap.size + 1]? = some (.cells #[c, d, e] t2) := by
    show ((w.heap.push _).push _)[w.heap.size + 1]? = _
    rw [Array.getElem?_push, if_pos (by simp)]
  refine ⟨?_, ?_, ?_, ?_, ?_, by simp⟩
  · simp only [World.cell?, e1]; rfl
  · simp only [World.cell?, e1]; rfl
  · simp only [World.frozen?, e1]; rfl
  · simp only [World.frozen?, e1]; rfl
  · simp only [World.cell?, e2]; rfl
theorem numTo_val {s : ByteArray} (h : IsInt s) : -9999999999 ≤ intVal s ∧ intVal s ≤ 9999999999 := by
  have := numTo_lt s h s.size (Nat.le_refl _)
  unfold intVal
  split <;> omega

/-- the rule in the making (block br): its parts so far -/
structure Rl (w : World) (br B : Nat) (vL : Value) (parts : List (Int × Int)) (C : Nat → Option Value) : Prop where
  c1 : w.cell? ⟨br, 1, none⟩ = some vL
  f1 : w.frozen? ⟨br, 1, none⟩ = false
  c2 : ∃ u, w.cell? ⟨br, 2, none⟩ = some u
  f2 : w.frozen? ⟨br, 2, none⟩ = false
  c3 : ∃ u, w.cell? ⟨br, 3, none⟩ = some u
  f3 : w.frozen? ⟨br, 3, none⟩ = false
  own : w.ownsRow B 183 2 vL parts.length (partCells parts)
  lt : br < w.heap.size
  brB : br < B
  oth : ∀ q, q ≠ 1 → q ≠ 2 → q ≠ 3 → w.cell? ⟨br, q, none⟩ = C q
  fz : ∀ q, w.frozen? ⟨br, q, none⟩ = false

theorem Rl.grown {w w' : World} {br B : Nat} {vL : Value} {parts : List (Int × Int)} {C : Nat → Option Value} {row : Option Nat} (h : Rl w br B vL parts C) (hg : w.grownBy w' row) (hr : ∀ b, row = some b → b ≠ br ∧ vL.ownBlock ≠ some b) : Rl w' br B vL parts C := by
  have hne : some br ≠ row := fun e => (hr br e.symm).1 rfl
  obtain ⟨u2, h2⟩ := h.c2
  obtain ⟨u3, h3⟩ := h.c3
  exact ⟨hg.cell h.c1 hne, (hg.frozen_far ⟨br, 1, none⟩ h.lt hne).trans h.f1, ⟨u2, hg.cell h2 hne⟩, (hg.frozen_far ⟨br, 2, none⟩ h.lt hne).trans h.f2, ⟨u3, hg.cell h3 hne⟩, (hg.frozen_far ⟨br, 3, none⟩ h.lt hne).trans h.f3,
    h.own.kept hg (by
      cases hv : vL.ownBlock with
      | none => exact .inl rfl
      | some g => exact .inr (fun e => (hr g e.symm).2 hv)), Nat.lt_of_lt_of_le h.lt hg.size, h.brB, fun q a b c => (World.cell?_of_block (a := ⟨br, q, none⟩) (hg.block br h.lt hne)).trans (h.oth q a b c), fun q => (hg.frozen_far ⟨br, q, none⟩ h.lt hne).trans (h.fz q)⟩

/-- the relation is stored -/
theorem Rl.setRel {w w9 : World} {bw bm gt capt br : Nat} {toks : List PTok} {vv vL : Value} {vars : List PVar} {j : Nat} {kd ln : Int} {parts : List (Int × Int)} {C : Nat → Option Value} (h : Rl w9 br w.heap.size vL parts C) (hf : Far bw bm gt vv br) (hb : But [bw, br] w w9) (hc : Ctx w9 bw bm gt capt toks vv vars j kd ln) (s : ByteArray) :
    Ctx (w9.setCell ⟨br, 2, none⟩ (.string s)) bw bm gt capt toks vv vars j kd ln ∧ Rl (w9.setCell ⟨br, 2, none⟩ (.string s)) br w.heap.size vL parts C ∧ But [bw, br] w (w9.setCell ⟨br, 2, none⟩ (.string s)) ∧ (w9.setCell ⟨br, 2, none⟩ (.string s)).cell? ⟨br, 2, none⟩ = some (.string s) := by
  obtain ⟨u2, h2⟩ := h.c2
  obtain ⟨u3, h3⟩ := h.c3
  have e := World.cell?_setCell_same w9 ⟨br, 2, none⟩ (.string s) h2
  exact ⟨hc.setFar hf _ _, ⟨(cell_set _ _ _ _ _ _ (by omega)).trans h.c1, (World.frozen?_setCell _ _ _ _).trans h.f1, ⟨_, e⟩, (World.frozen?_setCell _ _ _ _).trans h.f2, ⟨u3, (cell_set _ _ _ _ _ _ (by omega)).trans h3⟩, (World.frozen?_setCell _ _ _ _).trans h.f3,
    h.own.kept (grown_set w9 br 2 _) (by
      cases hv : vL.ownBlock with
      | none => exact .inl rfl
      | some g => exact .inr (fun e => by have := (h.own.lt _ hv).1; have := h.brB; cases e; omega)), by simpa [World.setCell] using h.lt, h.brB, fun q a b c => (cell_set _ _ _ _ _ _ (.inr b)).trans (h.oth q a b c), fun q => (World.frozen?_setCell _ _ _ _).trans (h.fz q)⟩, hb.set (.inl (by simp)) _ _, e⟩
/-- the number is stored -/
theorem Rl.setN {w w9 : World} {bw bm gt capt br : Nat} {toks : List PTok} {vv vL : Value} {vars : List PVar} {j : Nat} {kd ln : Int} {parts : List (Int × Int)} {C : Nat → Option Value} {s : ByteArray} (h : Rl w9 br w.heap.size vL parts C) (hf : Far bw bm gt vv br) (hb : But [bw, br] w w9) (hc : Ctx w9 bw bm gt capt toks vv vars j kd ln) (hs : w9.cell? ⟨br, 2, none⟩ = some (.string s)) (n : Int) :
    Ctx (w9.setCell ⟨br, 3, none⟩ (.int .i64 n)) bw bm gt capt toks vv vars j kd ln ∧ Rl (w9.setCell ⟨br, 3, none⟩ (.int .i64 n)) br w.heap.size vL parts C ∧ But [bw, br] w (w9.setCell ⟨br, 3, none⟩ (.int .i64 n)) ∧ (w9.setCell ⟨br, 3, none⟩ (.int .i64 n)).cell? ⟨br, 2, none⟩ = some (.string s) ∧ (w9.setCell ⟨br, 3, none⟩ (.int .i64 n)).cell? ⟨br, 3, none⟩ = some (.int .i64 n) := by
  obtain ⟨u2, h2⟩ := h.c2
  obtain ⟨u3, h3⟩ := h.c3
  have e := World.cell?_setCell_same w9 ⟨br, 3, none⟩ (.int .i64 n) h3
  exact ⟨hc.setFar hf _ _, ⟨(cell_set _ _ _ _ _ _ (by omega)).trans h.c1, (World.frozen?_setCell _ _ _ _).trans h.f1, ⟨u2, (cell_set _ _ _ _ _ _ (by omega)).trans h2⟩, (World.frozen?_setCell _ _ _ _).trans h.f2, ⟨_, e⟩, (World.frozen?_setCell _ _ _ _).trans h.f3,
    h.own.kept (grown_set w9 br 3 _) (by
      cases hv : vL.ownBlock with
      | none => exact .inl rfl
      | some g => exact .inr (fun e => by have := (h.own.lt _ hv).1; have := h.brB; cases e; omega)), by simpa [World.setCell] using h.lt, h.brB, fun q a b c => (cell_set _ _ _ _ _ _ (.inr c)).trans (h.oth q a b c), fun q => (World.frozen?_setCell _ _ _ _).trans (h.fz q)⟩, hb.set (.inl (by simp)) _ _, (cell_set _ _ _ _ _ _ (by omega)).trans hs, e⟩

/-- in the midst of a round: the part in the making lies in block bp -/
structure Mid (toks : List PTok) (vars : List PVar) (bw bm gt capt br : Nat) (vv vL : Value) (done : List (Int × Int)) (C : Nat → Option Value) (bp : Nat) (w : World) (F : Int) (j : Nat) (kd ln : Int) (w4 : World) : Prop where
  ctx : Ctx w4 bw bm gt capt toks vv vars j kd ln
  rl : Rl w4 br w.heap.size vL done C
  but : But [bw, br] w w4
  p0 : w4.cell? ⟨bp, 0, none⟩ = some (.int .i64 F)
  p1 : ∃ u, w4.cell? ⟨bp, 1, none⟩ = some u
  pf0 : w4.frozen? ⟨bp, 0, none⟩ = false
  pf1 : w4.frozen? ⟨bp, 1, none⟩ = false
  lt : bp < w4.heap.size
  ge : w.heap.size ≤ bp
  far : Far bw bm gt vv bp
  ne : bp ≠ br
  vne : vL.ownBlock ≠ some bp
  bwB : bw < w.heap.size
  bfar : Far bw bm gt vv br
section
variable {toks : List PTok} {vars : List PVar} {bw bm gt capt br : Nat} {vv vL : Value} {done : List (Int × Int)} {C : Nat → Option Value} {bp : Nat} {w : World} {F : Int} {j : Nat} {kd ln : Int} {w4 w5 : World}
theorem Mid.kept (h : Mid toks vars bw bm gt capt br vv vL done C bp w F j kd ln w4) (hg : w4.grownBy w5 (some bw)) {j' : Nat} {kd' ln' : Int} (hc : Ctx w5 bw bm gt capt toks vv vars j' kd' ln') :
    Mid toks vars bw bm gt capt br vv vL done C bp w F j' kd' ln' w5 := by
  have hnb : some bp ≠ some bw := by simpa using h.far.a
  obtain ⟨u, hu⟩ := h.p1
  exact ⟨hc, h.rl.grown hg (fun b e => by cases e; exact ⟨fun e => h.bfar.a e.symm, fun e => by have := (h.rl.own.lt _ e).1; have := h.bwB; omega⟩), h.but.grown hg (fun k e => by cases e; exact .inl (by simp)),
    hg.cell h.p0 hnb, ⟨u, hg.cell hu hnb⟩, (hg.frozen_far ⟨bp, 0, none⟩ h.lt hnb).trans h.pf0, (hg.frozen_far ⟨bp, 1, none⟩ h.lt hnb).trans h.pf1, Nat.lt_of_lt_of_le h.lt hg.size, h.ge, h.far, h.ne, h.vne, h.bwB, h.bfar⟩
theorem Mid.setI (h : Mid toks vars bw bm gt capt br vv vL done C bp w F j kd ln w4) (j' : Nat) : Mid toks vars bw bm gt capt br vv vL done C bp w F j' kd ln (w4.setCell ⟨bw, 1, none⟩ (.int .i64 j')) :=
  h.kept (grown_set _ _ _ _) (h.ctx.setI j')
/-- a store into the part -/
theorem Mid.setP (h : Mid toks vars bw bm gt capt br vv vL done C bp w F j kd ln w4) (F' : Int) : Mid toks vars bw bm gt capt br vv vL done C bp w F' j kd ln (w4.setCell ⟨bp, 0, none⟩ (.int .i64 F')) := by
  have hg := grown_set w4 bp 0 (.int .i64 F')
  obtain ⟨u, hu⟩ := h.p1
  exact ⟨h.ctx.setFar h.far _ _, h.rl.grown hg (fun b e => by cases e; exact ⟨h.ne, h.vne⟩), h.but.grown hg (fun k e => by cases e; exact .inr h.ge),
    World.cell?_setCell_same _ _ _ h.p0, ⟨u, (cell_set _ _ _ _ _ _ (by omega)).trans hu⟩, (World.frozen?_setCell _ _ _ _).trans h.pf0, (World.frozen?_setCell _ _ _ _).trans h.pf1, by simpa [World.setCell] using h.lt, h.ge, h.far, h.ne, h.vne, h.bwB, h.bfar⟩
theorem Mid.setV (h : Mid toks vars bw bm gt capt br vv vL done C bp w F j kd ln w4) (X : Value) : Mid toks vars bw bm gt capt br vv vL done C bp w F j kd ln (w4.setCell ⟨bp, 1, none⟩ X) ∧ (w4.setCell ⟨bp, 1, none⟩ X).cell? ⟨bp, 1, none⟩ = some X := by
  have hg := grown_set w4 bp 1 X
  obtain ⟨u, hu⟩ := h.p1
  have e := World.cell?_setCell_same w4 ⟨bp, 1, none⟩ X hu
  exact ⟨⟨h.ctx.setFar h.far _ _, h.rl.grown hg (fun b e => by cases e; exact ⟨h.ne, h.vne⟩), h.but.grown hg (fun k e => by cases e; exact .inr h.ge),
    (cell_set _ _ _ _ _ _ (by omega)).trans h.p0, ⟨X, e⟩, (World.frozen?_setCell _ _ _ _).trans h.pf0, (World.frozen?_setCell _ _ _ _).trans h.pf1, by simpa [World.setCell] using h.lt, h.ge, h.far, h.ne, h.vne, h.bwB, h.bfar⟩, e⟩
/-- the part is laid in a block of its own ahead of the append -/
theorem Mid.own_new (h : Mid toks vars bw bm gt capt br vv vL done C bp w F j kd ln w4) (o : Obj) : (w4.alloc o).drew.ownsRow w.heap.size 183 2 vL done.length (partCells done) :=
  h.rl.own.kept ((World.grownBy_alloc w4 o none).trans (grown_drew' _ none)) (by cases vL.ownBlock with
    | none => exact .inl rfl
    | some g => exact .inr (by simp))
theorem Mid.keep_new (h : Mid toks vars bw bm gt capt br vv vL done C bp w F j kd ln w4) {X : Value} (hX : w4.cell? ⟨bp, 1, none⟩ = some X) {o : Obj} {wA : World} (hg : (w4.alloc o).drew.grownBy wA vL.ownBlock) :
    wA.cell? ⟨br, 1, none⟩ = some vL ∧ wA.frozen? ⟨br, 1, none⟩ = false ∧ wA.cell? ⟨bp, 0, none⟩ = some (.int .i64 F) ∧ wA.cell? ⟨bp, 1, none⟩ = some X := by
  have g0 : w4.grownBy (w4.alloc o).drew none := (World.grownBy_alloc w4 o none).trans (grown_drew' _ none)
  have n1 : some br ≠ vL.ownBlock := fun e => by have := (h.rl.own.lt _ e.symm).1; have := h.rl.brB; omega
  have n2 : some bp ≠ vL.ownBlock := fun e => h.vne e.symm
  have hl1 : br < (w4.alloc o).drew.heap.size := Nat.lt_of_lt_of_le h.rl.lt g0.size
  refine ⟨hg.cell (g0.cell h.rl.c1 (by simp)) n1, ?_, hg.cell (g0.cell h.p0 (by simp)) n2, hg.cell (g0.cell hX (by simp)) n2⟩
  exact (hg.frozen_far ⟨br, 1, none⟩ hl1 n1).trans ((g0.frozen_far ⟨br, 1, none⟩ h.rl.lt (by simp)).trans h.rl.f1)
/-- behind the append and the store of the new slice -/
theorem Mid.step (h : Mid toks vars bw bm gt capt br vv vL done C bp w F j kd ln w4) (hF : ∀ b, w.heap.size ≤ b → Far bw bm gt vv b) {X : Int} {o : Obj} {wA : World} {v' : Value}
    (hown : wA.ownsRow w.heap.size 183 2 v' (done.length + 1) (partCells done ++ [.int .i64 F, .int .i64 X])) (hg : (w4.alloc o).drew.grownBy wA vL.ownBlock) :
    Ctx (wA.setCell ⟨br, 1, none⟩ v') bw bm gt capt toks vv vars j kd ln ∧ Rl (wA.setCell ⟨br, 1, none⟩ v') br w.heap.size v' (done ++ [(F, X)]) C ∧ But [bw, br] w (wA.setCell ⟨br, 1, none⟩ v') := by
  have g0 : w4.grownBy (w4.alloc o).drew none := (World.grownBy_alloc w4 o none).trans (grown_drew' _ none)
  have hrow : ∀ b, vL.ownBlock = some b → w.heap.size ≤ b := fun b e => (h.rl.own.lt _ e).1
  have cA : Ctx wA bw bm gt capt toks vv vars j kd ln := ((h.ctx.alloc o).drew).grown hg (fun b e => hF b (hrow b e))
  have n1 : some br ≠ vL.ownBlock := fun e => by have := hrow _ e.symm; have := h.rl.brB; omega
  have rA : ∀ q u, w4.cell? ⟨br, q, none⟩ = some u → wA.cell? ⟨br, q, none⟩ = some u := fun q u hu => hg.cell (g0.cell hu (by simp)) n1
  have hl1 : br < (w4.alloc o).drew.heap.size := Nat.lt_of_lt_of_le h.rl.lt g0.size
  have fA : ∀ q, w4.frozen? ⟨br, q, none⟩ = false → wA.frozen? ⟨br, q, none⟩ = false := fun q hq => (hg.frozen_far ⟨br, q, none⟩ hl1 n1).trans ((g0.frozen_far ⟨br, q, none⟩ h.rl.lt (by simp)).trans hq)
  obtain ⟨u2, h2⟩ := h.rl.c2
  obtain ⟨u3, h3⟩ := h.rl.c3
  refine ⟨cA.setFar h.bfar _ _, ⟨World.cell?_setCell_same _ _ _ (rA 1 _ h.rl.c1), (World.frozen?_setCell _ _ _ _).trans (fA 1 h.rl.f1), ⟨u2, (cell_set _ _ _ _ _ _ (by omega)).trans (rA 2 _ h2)⟩, (World.frozen?_setCell _ _ _ _).trans (fA 2 h.rl.f2),
    ⟨u3, (cell_set _ _ _ _ _ _ (by omega)).trans (rA 3 _ h3)⟩, (World.frozen?_setCell _ _ _ _).trans (fA 3 h.rl.f3), ?_, ?_, h.rl.brB, fun q a b c => (cell_set _ _ _ _ _ _ (.inr a)).trans ((World.cell?_of_block (a := ⟨br, q, none⟩) ((hg.block br hl1 n1).trans (g0.block br h.rl.lt (by simp)))).trans (h.rl.oth q a b c)), fun q => (World.frozen?_setCell _ _ _ _).trans (fA q (h.rl.fz q))⟩, ?_⟩
  · rw [partCells_snoc, List.length_append]
    exact hown.kept (grown_set wA br 1 v') (by
      cases hv : v'.ownBlock with
      | none => exact .inl rfl
      | some g => exact .inr (fun e => by have := (hown.lt _ hv).1; have := h.rl.brB; cases e; omega))
  · have := hg.size; simp [World.setCell]; omega
  · exact (((h.but.alloc o).drew).grown hg (fun k e => .inr (hrow k e))).set (.inl (by simp)) _ _
theorem part_one (a b : Int) : ∀ u ∈ [Value.int .i64 a, .int .i64 b], u.oneCell' = true := by
  intro u hu; simp at hu; rcases hu with rfl | rfl <;> rfl
end

def SumRel (toks : List PTok) (vars : List PVar) (bw bm gt capt br : Nat) (vv : Value) (C : Nat → Option Value) (q : Nat) (ST : FSt) (PARTS : List (Int × Int)) (w : World) (n : Nat) (vf vk : Value) (wr : World) : Prop :=
  ∃ (k i m : Nat) (t : PTerm) (ts : List PTerm) (done : List (Int × Int)) (kind line : Int) (vL : Value), n = ts.length + 1 ∧ vk = .int .i64 k ∧ vf = .int .i64 (sgn t.neg) ∧ k ≤ i + 1 ∧ done.length ≤ i ∧
    Ctx wr bw bm gt capt toks vv vars i kind line ∧ TermAt toks i t m ∧ TermsAt toks m ts q ∧ Hid (termsSt vars k (t :: ts) (kind, line) = ST) ∧ Hid (done ++ (t :: ts).map (termPart vars) = PARTS) ∧ Rl wr br w.heap.size vL done C ∧ But [bw, br] w wr

set_option maxRecDepth 100000 in
set_option maxHeartbeats 2000000 in
theorem ref_sum (toks : List PTok) (vars : List PVar) (bw bm gt capt br : Nat) (vv : Value) (i m q : Nat) (t : PTerm) (ts : List PTerm) (rel num : PTok) (kind line : Int) (w : World)
    (h : Ctx w bw bm gt capt toks vv vars i kind line) (hfar : Far bw bm gt vv br) (ht : TermAt toks i t m) (htn : t.neg = false) (hts : TermsAt toks m ts q) (hrel : toks[q]? = some rel) (hr1 : rel.s.toList ≠ [43]) (hr2 : rel.s.toList ≠ [45]) (hnum : toks[q + 1]? = some num) (hni : IsInt num.s)
    (C : Nat → Option Value) (hR : Rl w br w.heap.size (.slice none 0 0) [] C) :
    Calls Tryz.prog 101 #[.pointer (some ⟨bw, 0, none⟩), .pointer (some ⟨br, 0, none⟩)] w fun e w' => e = .returned (.tuple #[]) ∧ But [bw, br] w w' ∧
      Ctx w' bw bm gt capt toks vv vars (q + 2) (flt (outB (intVal num.s) 1000000) 5 num.line (termsSt vars 1 (t :: ts) (kind, line))).1 (flt (outB (intVal num.s) 1000000) 5 num.line (termsSt vars 1 (t :: ts) (kind, line))).2 ∧
      ∃ vL, Rl w' br w.heap.size vL ((t :: ts).map (termPart vars)) C ∧ w'.cell? ⟨br, 2, none⟩ = some (.string rel.s) ∧ w'.cell? ⟨br, 3, none⟩ = some (.int .i64 (intVal num.s)) := by
  obtain ⟨i0, hi0, hz0, hz1, hz2⟩ := info_parts infoPart
  have HBW0 : Hid (bw < w.heap.size) := h.wk.lt
  have HFN : Hid (∀ b, w.heap.size ≤ b → Far bw bm gt vv b) := fun b hb => h.far_new hb
  have HX : Hid (toks[q]? = some rel ∧ rel.s.toList ≠ [43] ∧ rel.s.toList ≠ [45] ∧ toks[q + 1]? = some num ∧ IsInt num.s) := ⟨hrel, hr1, hr2, hnum, hni⟩
  have HS : Hid (SumRel toks vars bw bm gt capt br vv C q (termsSt vars 1 (t :: ts) (kind, line)) ((t :: ts).map (termPart vars)) w (ts.length + 1) (.int .i64 1) (.int .i64 1) w) :=
    ⟨1, i, m, t, ts, [], kind, line, _, rfl, rfl, by rw [htn]; rfl, by omega, by simp, h, ht, hts, rfl, rfl, hR, But.refl _ _⟩
  generalize hST : termsSt vars 1 (t :: ts) (kind, line) = ST at *
  generalize hPP : (t :: ts).map (termPart vars) = PARTS at *
  generalize hN : ts.length + 1 = N at *
  clear hST hPP hN hrel hr1 hr2 hnum hni h ht htn hts hR t ts i m kind line
  go_enter Tryz.func101, Tryz.ntmps101
  go_wp2
  go_loopg [4, 5] N (fun n vf vk wr => SumRel toks vars bw bm gt capt br vv C q ST PARTS w n vf vk wr)
  case atStart => exact HS
  case round =>
    clear HS
    have HBW : Hid (bw < w.heap.size) := HBW0
    obtain ⟨k, i, m, t, ts, done, kind, line, vL, rfl, rfl, rfl, hki, hdl, hC, htA, htsA, hST, hPP, hRl, hBut⟩ := hrel
    have HC := hide hC
    have hil : i < toks.length := by
      rcases Nat.lt_or_ge i toks.length with h | h
      · exact h
      · unfold TermAt at htA; rw [List.getElem?_eq_none h] at htA; split at htA <;> exact absurd htA.1 (by simp)
    have hn2 := hC.hn
    have HR := hide hRl
    have HB := hide hBut
    have HA := hide htA
    have HAs := hide htsA
    clear hC htA htsA hRl hBut
    go_wp2_with fail
    refine (ctx_fault HC.out hil (decide (8 < (k : Int))) 6).mono ?_
    rintro e w1 ⟨rfl, hg1, hC1⟩
    have HC1 := hide hC1
    have HG1 := hide hg1
    have hkd : Hid True := trivial
    obtain ⟨c0, c1, _, _, _, _, _, _⟩ := hC1.wk
    obtain ⟨m0, row, _, _⟩ := hC1.tk
    obtain ⟨tk, htk⟩ : ∃ tk, toks[i]? = some tk := ⟨toks[i], by simp [hil]⟩
    have hc3 := refCells_get toks i tk htk
    have hc0 := row _ _ hc3.1
    have hc1 := row _ _ hc3.2.1
    have hc2 := row _ _ hc3.2.2
    have hnx : (w1.heap.size : Nat) ≠ bw ∧ w1.heap.size ≠ bm ∧ w1.heap.size ≠ gt := by
      have := hC1.far_new (Nat.le_refl _); exact ⟨this.a, this.b, this.c⟩
    have hlt1 := hC1.wk.lt
    have hlt2 := hC1.tk.ltm
    have hlt3 := hC1.tk.ltg
    have hil' : (i : Int) < toks.length := by omega
    have h0 : (0 : Int) ≤ (i : Int) := by omega
    have HFB0 := hide (hC1.far_new (Nat.le_refl _))
    clear hg1 hC1 row hc3
    go_wp2
    go_region_held3 (fun w' => w'.cell? ⟨bw, 0, none⟩ = some (.pointer (some ⟨bm, 0, none⟩)) ∧ w'.cell? ⟨bw, 1, none⟩ = some (.int .i64 i) ∧ w'.cell? ⟨bm, 0, none⟩ = some (.slice (some ⟨gt, 0, none⟩) toks.length capt) ∧ w'.cell? ⟨gt, i * 3, none⟩ = some (.string tk.s) ∧ w'.cell? ⟨gt, i * 3 + 1, none⟩ = some (.int .u8 tk.kind) ∧ w'.cell? ⟨gt, i * 3 + 2, none⟩ = some (.int .i64 tk.line)) (go_keep) (fail)
    have TN := two_new w1 (.int .i64 (sgn t.neg)) (.int .i64 0) (.string tk.s) (.int .u8 tk.kind) (.int .i64 tk.line) 183 170
    have HC2 : Hid (Ctx (((w1.alloc (.cells #[.int .i64 (sgn t.neg), .int .i64 0] 183)).alloc (.cells #[.string tk.s, .int .u8 tk.kind, .int .i64 tk.line] 170)).drew) bw bm gt capt toks vv vars i (fKind (decide (8 < (k : Int))) 6 kind) (fLine (decide (8 < (k : Int))) kind (lineAt toks i) line)) := ((HC1.out.alloc _).alloc _).drew
    have HG2 : Hid (wr.grownBy (((w1.alloc (.cells #[.int .i64 (sgn t.neg), .int .i64 0] 183)).alloc (.cells #[.string tk.s, .int .u8 tk.kind, .int .i64 tk.line] 170)).drew) (some bw)) := ((HG1.out.trans (World.grownBy_alloc _ _ _)).trans (World.grownBy_alloc _ _ _)).trans (grown_drew' _ _)
    have hszr := HG1.out.size
    clear c0 c1 m0 hc0 hc1 hc2 hlt1 hlt2 hlt3 HC1 HG1
    generalize ((w1.alloc (.cells #[.int .i64 (sgn t.neg), .int .i64 0] 183)).alloc (.cells #[.string tk.s, .int .u8 tk.kind, .int .i64 tk.line] 170)).drew = w2 at TN HC2 HG2 ⊢
    obtain ⟨bp, hbp⟩ : ∃ bp, w1.heap.size = bp := ⟨_, rfl⟩
    rw [hbp] at TN hnx HFB0 ⊢
    obtain ⟨p0, p1, pf0, pf1, t1, hsz2⟩ := TN
    have hpk : Hid (peekS toks i = tk.s ∧ lineAt toks i = tk.line) := by unfold Hid peekS lineAt; rw [htk]; exact ⟨rfl, rfl⟩
    have hbwB : bw < w.heap.size := HBW.out
    have hM2 : Mid toks vars bw bm gt capt br vv vL done C bp w (sgn t.neg) i (fKind (decide (8 < (k : Int))) 6 kind) (fLine (decide (8 < (k : Int))) kind (lineAt toks i) line) w2 :=
      ⟨HC2.out, HR.out.grown HG2.out (fun b e => by cases e; exact ⟨fun e => hfar.a e.symm, fun e => by have := (HR.out.own.lt _ e).1; omega⟩), HB.out.grown HG2.out (fun k e => by cases e; exact .inl (by simp)), p0, ⟨_, p1⟩, pf0, pf1, by omega,
        by have := HB.out.size; omega, HFB0.out, by have := HR.out.lt; omega, fun e => by have := (HR.out.own.lt _ e).2; omega, hbwB, hfar⟩
    have M2 := hide hM2
    clear hnx HFB0 hM2 p0 p1 pf0 pf1 hsz2 HC2 HG2 HR HB
    cases hfc : t.fac with
    | some f =>
      have hA := HA.out
      unfold TermAt at hA
      rw [hfc] at hA
      simp only at hA
      obtain ⟨a1, a2, a3, a4, a5⟩ := hA
      obtain rfl : tk = f := by rw [htk] at a1; exact Option.some.inj a1
      have hk5 : (tk.kind == 105) = true := by simpa using a2
      have hvb := numTo_val a3
      have hb3 := ctx_bounded M2.out.ctx hil 100 (by omega) (by omega) (by rw [hpk.out.1]; exact a3)
      rw [hpk.out.1, hpk.out.2] at hb3
      have HB3 := hide hb3
      clear hb3
      go_wp2_with fail
      refine (unhide HB3).mono ?_
      rintro e w3 ⟨rfl, hg3, hC3⟩
      have hM3 := M2.out.kept hg3 hC3
      obtain ⟨c0, c1, c2, c3, f1, f2, f3, _⟩ := hC3.wk
      have p0 := hM3.p0
      have pf0 := hM3.pf0
      have hset := fun W o u b' o' h => cell_set W bp o u b' o' h
      obtain ⟨nv, hnv⟩ : ∃ nv, intVal tk.s = nv := ⟨_, rfl⟩
      rw [hnv] at hvb ⊢
      obtain ⟨hv1, hv2⟩ := hvb
      have hmul : -9999999999 ≤ sgn t.neg * nv ∧ sgn t.neg * nv ≤ 9999999999 := by
        unfold sgn; split <;> omega
      obtain ⟨hml, hmh⟩ := hmul
      have HNV := hide hnv
      have hi1 : (0 : Int) ≤ (i : Int) + 1 := by omega
      have hnb : bp ≠ bw := hM3.far.a
      have M4 := hide ((hM3.setP (sgn t.neg * nv)).setI (i + 2))
      have M3 := hide hM3
      have hbe := ()
      clear hnv hg3 hC3 hM3 M2 t1
      go_wp2_with fail
      rw [show ((i : Int) + 1 + 1) = ((i + 2 : Nat) : Int) by omega]
      generalize (w3.setCell ⟨bp, 0, none⟩ (.int .i64 (sgn t.neg * nv))).setCell ⟨bw, 1, none⟩ (.int .i64 ((i + 2 : Nat) : Int)) = w4 at M4 ⊢
      clear c0 c1 c2 c3 f1 f2 f3 p0 pf0 M3
      obtain rfl : m = i + 2 + 1 := by omega
      have hnm : Hid (peekS toks (i + 2) = t.name.s ∧ lineAt toks (i + 2) = t.name.line) := by unfold Hid peekS lineAt; rw [a4]; exact ⟨rfl, rfl⟩
      have hjl : i + 2 < toks.length := by
        rcases Nat.lt_or_ge (i + 2) toks.length with h | h
        · exact h
        · rw [List.getElem?_eq_none h] at a4; exact absurd a4 (by simp)
      have hb5 := ctx_used M4.out.ctx hjl
      rw [hnm.out.1, hnm.out.2] at hb5
      have HB5 := hide hb5
      clear hb5
      refine (unhide HB5).mono ?_
      rintro e w5 ⟨rfl, hg5, hC5⟩
      have hM5 := M4.out.kept hg5 hC5
      obtain ⟨u5, p1⟩ := hM5.p1
      have pf1 := hM5.pf1
      obtain ⟨X, hX⟩ : ∃ X, varX vars t.name.s = X := ⟨_, rfl⟩
      rw [hX]
      have HX' := hide hX
      have M6 := hide (hM5.setV (.int .i64 X))
      clear hX hg5 hC5 hM5 M4 HB5
      go_wp2
      generalize (w5.setCell ⟨bp, 1, none⟩ (.int .i64 X)) = w6 at M6 ⊢
      clear p1 pf1
      have r1 := M6.out.1.rl.c1
      have rf1 := M6.out.1.rl.f1
      have p0 := M6.out.1.p0
      have p1 := M6.out.2
      have hlp := M6.out.1.lt
      have hlr := M6.out.1.rl.lt
      have hOwn := M6.out.1.own_new (.cells #[.int .i64 (sgn t.neg * nv), .int .i64 X] 183)
      have hNews : ∀ jj u, [Value.int .i64 (sgn t.neg * nv), .int .i64 X][jj]? = some u → (w6.alloc (.cells #[.int .i64 (sgn t.neg * nv), .int .i64 X] 183)).drew.cell? ((⟨w6.heap.size, 0, none⟩ : Addr).add jj) = some u :=
        World.news_of_block (cs := #[.int .i64 (sgn t.neg * nv), .int .i64 X]) (t := 183) (fr := (0, 0)) (heap_alloc_new w6 _)
      have KEEP : Hid (∀ wA, (w6.alloc (.cells #[.int .i64 (sgn t.neg * nv), .int .i64 X] 183)).drew.grownBy wA vL.ownBlock → wA.cell? ⟨br, 1, none⟩ = some vL ∧ wA.frozen? ⟨br, 1, none⟩ = false ∧ wA.cell? ⟨bp, 0, none⟩ = some (.int .i64 (sgn t.neg * nv)) ∧ wA.cell? ⟨bp, 1, none⟩ = some (.int .i64 X)) :=
        fun wA hg => M6.out.1.keep_new M6.out.2 hg
      have HOWN := hide hOwn
      have HNEWS := hide hNews
      have hbs : w.heap.size ≤ w6.heap.size + 1 := by have := M6.out.1.but.size; omega
      have hdn : done.length ≤ 2000 := by omega
      clear hOwn hNews
      have hsetr := fun W o u b' o' h => cell_set W br o u b' o' h
      have hpr : bp ≠ br := M6.out.1.ne
      go_region_law ((refine step_append_lies _ (by rfl) _ _ 174 (by rfl) w.heap.size 183 i0 (.agg #[.int .i64 0, .int .i64 0]) 2 16 Tryz.underlying174 hi0 hz0 hz1 hz2 rfl (by decide) vL done.length (partCells done) (by rfl) HOWN.out ⟨w6.heap.size, 0, none⟩ 1 1 [.int .i64 (sgn t.neg * nv), .int .i64 X] (by rfl) rfl HNEWS.out (part_one _ _) (by decide) (by unfold maxLen; omega) (by omega) (by simp; omega) _ rfl ?_; intro gA capA wA hownA hgrowA hatA hltA; obtain ⟨k1, k2, k3, k4⟩ := KEEP.out wA hgrowA))
      all_goals
        have HST7 := hide (M6.out.1.step HFN.out hownA hgrowA)
        have HBF := hide M6.out.1.bfar
        clear r1 rf1 p0 p1 hlp hlr KEEP HOWN HNEWS hownA hgrowA hatA hltA k1 k2 k3 k4 hsetr hpr M6
        go_wp2_with fail
        generalize (wA.setCell ⟨br, 1, none⟩ (.slice (some ⟨gA, 0, none⟩) (done.length + 1) capA)) = w7 at HST7 ⊢
        refine (ctx_peek HST7.out.1 (by omega)).mono ?_
        rintro e w8 ⟨rfl, hg8, hC8⟩
        have hbwB2 := HBW.out
        have hR8 := HST7.out.2.1.grown hg8 (fun b e => by cases e; exact ⟨fun e => HBF.out.a e.symm, fun e => by have := (HST7.out.2.1.own.lt _ e).1; omega⟩)
        have hB8 := HST7.out.2.2.grown hg8 (fun b e => by cases e; exact .inl (by simp))
        have hC8' : Ctx w8 bw bm gt capt toks vv vars (i + 2 + 1) (termSt vars k t (kind, line)).1 (termSt vars k t (kind, line)).2 := by
          unfold termSt flt; rw [hfc]; exact hC8
        have hPT : Hid (termPart vars t = (sgn t.neg * nv, X)) := by unfold Hid termPart; rw [hfc, HX'.out]; show (sgn t.neg * intVal tk.s, X) = _; rw [HNV.out]
        have HC8 := hide hC8'
        have HR8 := hide hR8
        have HB8 := hide hB8
        clear HST7 hg8 hC8 hC8' hR8 hB8
        cases ts with
        | nil =>
          have hq : i + 2 + 1 = q := HAs.out
          rw [hq] at HC8 ⊢
          have hX0 := HX.out
          have hpq : Hid (peekS toks q = rel.s ∧ lineAt toks q = rel.line) := by unfold Hid peekS lineAt; rw [hX0.1]; exact ⟨rfl, rfl⟩
          have hpn : Hid (peekS toks (q + 1) = num.s ∧ lineAt toks (q + 1) = num.line) := by unfold Hid peekS lineAt; rw [hX0.2.2.2.1]; exact ⟨rfl, rfl⟩
          have hql : q + 1 < toks.length := by
            rcases Nat.lt_or_ge (q + 1) toks.length with h | h
            · exact h
            · have h5 := hX0.2.2.2.1; rw [List.getElem?_eq_none h] at h5; exact absurd h5 (by simp)
          rw [hpq.out.1]
          have hn1 : (rel.s.toList == [43]) = false := by simpa using hX0.2.1
          have hn2' : (rel.s.toList == [45]) = false := by simpa using hX0.2.2.1
          have hnx := ctx_next HC8.out (by omega)
          rw [hpq.out.1] at hnx
          have HNX := hide hnx
          clear hnx hX0
          go_wp2_with fail
          refine (unhide HNX).mono ?_
          rintro e w9 ⟨rfl, hg9, hC9⟩
          have hR9 := HR8.out.grown hg9 (fun b e => by cases e; exact ⟨fun e => HBF.out.a e.symm, fun e => by have := (HR8.out.own.lt _ e).1; omega⟩)
          obtain ⟨u2, r2⟩ := hR9.c2
          have rf2 := hR9.f2
          have H9 := hide (hR9.setRel HBF.out (HB8.out.grown hg9 (fun b e => by cases e; exact .inl (by simp))) hC9 rel.s)
          clear hg9 hC9 hR9 HNX HC8 HR8 HB8
          go_wp2_with fail
          generalize (w9.setCell ⟨br, 2, none⟩ (.string rel.s)) = wB at H9 ⊢
          have hb10 := ctx_bounded H9.out.1 hql 1000000 (by omega) (by omega) (by rw [hpn.out.1]; exact HX.out.2.2.2.2)
          rw [hpn.out.1, hpn.out.2] at hb10
          refine hb10.mono ?_
          rintro e w10 ⟨rfl, hg10, hC10⟩
          have hnb : some br ≠ some bw := by simpa using HBF.out.a
          have hR10 := H9.out.2.1.grown hg10 (fun b e => by cases e; exact ⟨fun e => HBF.out.a e.symm, fun e => by have := (H9.out.2.1.own.lt _ e).1; omega⟩)
          obtain ⟨u3, r3⟩ := hR10.c3
          have rf3 := hR10.f3
          have H11 := hide (hR10.setN HBF.out (H9.out.2.2.1.grown hg10 (fun b e => by cases e; exact .inl (by simp))) hC10 (hg10.cell H9.out.2.2.2 hnb) (intVal num.s))
          clear hg10 hC10 hR10 hb10 H9 r2 rf2
          go_wp2
          go_end0
          have hPS : done ++ [(sgn t.neg * nv, X)] = PARTS := by rw [← hPP.out, ← hPT.out]; rfl
          rw [← hST.out, ← hPS]
          exact ⟨rfl, H11.out.2.2.1, H11.out.1, _, H11.out.2.1, H11.out.2.2.2.1, H11.out.2.2.2.2⟩
        | cons t2 ts2 =>
          obtain ⟨sg, m2, b1, b2, b3, b4⟩ := HAs.out
          have hpq : Hid (peekS toks (i + 2 + 1) = sg.s) := by unfold Hid peekS; rw [b1]; rfl
          rw [hpq.out]
          obtain ⟨c0, c1, c2, c3, f1, f2, f3, _⟩ := HC8.out.wk
          have HRR : Hid (∀ W, W = w8.setCell ⟨bw, 1, none⟩ (.int .i64 ((i + 2 + 1 + 1 : Nat) : Int)) → SumRel toks vars bw bm gt capt br vv C q ST PARTS w (ts2.length + 1) (.int .i64 (sgn t2.neg)) (.int .i64 ((k + 1 : Nat) : Int)) W) := by
            rintro W rfl
            exact ⟨k + 1, i + 2 + 1 + 1, m2, t2, ts2, done ++ [(sgn t.neg * nv, X)], _, _, _, rfl, rfl, rfl, by omega, by simp; omega, HC8.out.setI _, b3, b4, hST.out, by unfold Hid; rw [← hPP.out, ← hPT.out]; simp, HR8.out.grown (grown_set _ _ _ _) (fun b e => by cases e; exact ⟨fun e => HBF.out.a e.symm, fun e => by have := (HR8.out.own.lt _ e).1; omega⟩),
              HB8.out.set (.inl (by simp)) _ _⟩
          cases hng : t2.neg with
          | false =>
            have hs1 : sg.s.toList = [43] := by rw [b2, hng]; rfl
            rw [hng] at HRR
            clear b1 b2 b3 b4 HC8 HR8 HB8 hng
            go_wp2
            go_roundg (ts2.length + 1)
            case measure => simp
            case rel => exact HRR.out _ (by congr 2 <;> go_num)
          | true =>
            have hs1 : sg.s.toList = [45] := by rw [b2, hng]; rfl
            rw [hng] at HRR
            clear b1 b2 b3 b4 HC8 HR8 HB8 hng
            go_wp2
            go_roundg (ts2.length + 1)
            case measure => simp
            case rel => exact HRR.out _ (by congr 2 <;> go_num)
    | none =>
      have hA := HA.out
      unfold TermAt at hA
      rw [hfc] at hA
      simp only at hA
      obtain ⟨a4, a2, a5⟩ := hA
      obtain rfl : tk = t.name := by rw [htk] at a4; exact Option.some.inj a4
      have hk5 : (t.name.kind == 105) = false := by simpa using a2
      rw [hpk.out.2] at M2
      have M4 := M2
      clear M2
      go_wp2_with fail
      obtain rfl : m = i + 1 := a5
      generalize w2 = w4 at M4 ⊢
      have hnm : Hid (peekS toks (i) = t.name.s ∧ lineAt toks (i) = t.name.line) := by unfold Hid peekS lineAt; rw [a4]; exact ⟨rfl, rfl⟩
      have hjl : i < toks.length := by
        rcases Nat.lt_or_ge (i) toks.length with h | h
        · exact h
        · rw [List.getElem?_eq_none h] at a4; exact absurd a4 (by simp)
      have hb5 := ctx_used M4.out.ctx hjl
      rw [hnm.out.1, hnm.out.2] at hb5
      have HB5 := hide hb5
      clear hb5
      refine (unhide HB5).mono ?_
      rintro e w5 ⟨rfl, hg5, hC5⟩
      have hM5 := M4.out.kept hg5 hC5
      obtain ⟨u5, p1⟩ := hM5.p1
      have pf1 := hM5.pf1
      obtain ⟨X, hX⟩ : ∃ X, varX vars t.name.s = X := ⟨_, rfl⟩
      rw [hX]
      have HX' := hide hX
      have M6 := hide (hM5.setV (.int .i64 X))
      clear hX hg5 hC5 hM5 M4 HB5
      go_wp2
      generalize (w5.setCell ⟨bp, 1, none⟩ (.int .i64 X)) = w6 at M6 ⊢
      clear p1 pf1
      have r1 := M6.out.1.rl.c1
      have rf1 := M6.out.1.rl.f1
      have p0 := M6.out.1.p0
      have p1 := M6.out.2
      have hlp := M6.out.1.lt
      have hlr := M6.out.1.rl.lt
      have hOwn := M6.out.1.own_new (.cells #[.int .i64 (sgn t.neg), .int .i64 X] 183)
      have hNews : ∀ jj u, [Value.int .i64 (sgn t.neg), .int .i64 X][jj]? = some u → (w6.alloc (.cells #[.int .i64 (sgn t.neg), .int .i64 X] 183)).drew.cell? ((⟨w6.heap.size, 0, none⟩ : Addr).add jj) = some u :=
        World.news_of_block (cs := #[.int .i64 (sgn t.neg), .int .i64 X]) (t := 183) (fr := (0, 0)) (heap_alloc_new w6 _)
      have KEEP : Hid (∀ wA, (w6.alloc (.cells #[.int .i64 (sgn t.neg), .int .i64 X] 183)).drew.grownBy wA vL.ownBlock → wA.cell? ⟨br, 1, none⟩ = some vL ∧ wA.frozen? ⟨br, 1, none⟩ = false ∧ wA.cell? ⟨bp, 0, none⟩ = some (.int .i64 (sgn t.neg)) ∧ wA.cell? ⟨bp, 1, none⟩ = some (.int .i64 X)) :=
        fun wA hg => M6.out.1.keep_new M6.out.2 hg
      have HOWN := hide hOwn
      have HNEWS := hide hNews
      have hbs : w.heap.size ≤ w6.heap.size + 1 := by have := M6.out.1.but.size; omega
      have hdn : done.length ≤ 2000 := by omega
      clear hOwn hNews
      have hsetr := fun W o u b' o' h => cell_set W br o u b' o' h
      have hpr : bp ≠ br := M6.out.1.ne
      go_region_law ((refine step_append_lies _ (by rfl) _ _ 174 (by rfl) w.heap.size 183 i0 (.agg #[.int .i64 0, .int .i64 0]) 2 16 Tryz.underlying174 hi0 hz0 hz1 hz2 rfl (by decide) vL done.length (partCells done) (by rfl) HOWN.out ⟨w6.heap.size, 0, none⟩ 1 1 [.int .i64 (sgn t.neg), .int .i64 X] (by rfl) rfl HNEWS.out (part_one _ _) (by decide) (by unfold maxLen; omega) (by omega) (by simp; omega) _ rfl ?_; intro gA capA wA hownA hgrowA hatA hltA; obtain ⟨k1, k2, k3, k4⟩ := KEEP.out wA hgrowA))
      all_goals
        have HST7 := hide (M6.out.1.step HFN.out hownA hgrowA)
        have HBF := hide M6.out.1.bfar
        clear r1 rf1 p0 p1 hlp hlr KEEP HOWN HNEWS hownA hgrowA hatA hltA k1 k2 k3 k4 hsetr hpr M6
        go_wp2_with fail
        generalize (wA.setCell ⟨br, 1, none⟩ (.slice (some ⟨gA, 0, none⟩) (done.length + 1) capA)) = w7 at HST7 ⊢
        refine (ctx_peek HST7.out.1 (by omega)).mono ?_
        rintro e w8 ⟨rfl, hg8, hC8⟩
        have hbwB2 := HBW.out
        have hR8 := HST7.out.2.1.grown hg8 (fun b e => by cases e; exact ⟨fun e => HBF.out.a e.symm, fun e => by have := (HST7.out.2.1.own.lt _ e).1; omega⟩)
        have hB8 := HST7.out.2.2.grown hg8 (fun b e => by cases e; exact .inl (by simp))
        have hC8' : Ctx w8 bw bm gt capt toks vv vars (i + 1) (termSt vars k t (kind, line)).1 (termSt vars k t (kind, line)).2 := by
          unfold termSt flt; rw [hfc]; exact hC8
        have hPT : Hid (termPart vars t = (sgn t.neg, X)) := by unfold Hid termPart; rw [hfc, HX'.out]; skip
        have HC8 := hide hC8'
        have HR8 := hide hR8
        have HB8 := hide hB8
        clear HST7 hg8 hC8 hC8' hR8 hB8
        cases ts with
        | nil =>
          have hq : i + 1 = q := HAs.out
          rw [hq] at HC8 ⊢
          have hX0 := HX.out
          have hpq : Hid (peekS toks q = rel.s ∧ lineAt toks q = rel.line) := by unfold Hid peekS lineAt; rw [hX0.1]; exact ⟨rfl, rfl⟩
          have hpn : Hid (peekS toks (q + 1) = num.s ∧ lineAt toks (q + 1) = num.line) := by unfold Hid peekS lineAt; rw [hX0.2.2.2.1]; exact ⟨rfl, rfl⟩
          have hql : q + 1 < toks.length := by
            rcases Nat.lt_or_ge (q + 1) toks.length with h | h
            · exact h
            · have h5 := hX0.2.2.2.1; rw [List.getElem?_eq_none h] at h5; exact absurd h5 (by simp)
          rw [hpq.out.1]
          have hn1 : (rel.s.toList == [43]) = false := by simpa using hX0.2.1
          have hn2' : (rel.s.toList == [45]) = false := by simpa using hX0.2.2.1
          have hnx := ctx_next HC8.out (by omega)
          rw [hpq.out.1] at hnx
          have HNX := hide hnx
          clear hnx hX0
          go_wp2_with fail
          refine (unhide HNX).mono ?_
          rintro e w9 ⟨rfl, hg9, hC9⟩
          have hR9 := HR8.out.grown hg9 (fun b e => by cases e; exact ⟨fun e => HBF.out.a e.symm, fun e => by have := (HR8.out.own.lt _ e).1; omega⟩)
          obtain ⟨u2, r2⟩ := hR9.c2
          have rf2 := hR9.f2
          have H9 := hide (hR9.setRel HBF.out (HB8.out.grown hg9 (fun b e => by cases e; exact .inl (by simp))) hC9 rel.s)
          clear hg9 hC9 hR9 HNX HC8 HR8 HB8
          go_wp2_with fail
          generalize (w9.setCell ⟨br, 2, none⟩ (.string rel.s)) = wB at H9 ⊢
          have hb10 := ctx_bounded H9.out.1 hql 1000000 (by omega) (by omega) (by rw [hpn.out.1]; exact HX.out.2.2.2.2)
          rw [hpn.out.1, hpn.out.2] at hb10
          refine hb10.mono ?_
          rintro e w10 ⟨rfl, hg10, hC10⟩
          have hnb : some br ≠ some bw := by simpa using HBF.out.a
          have hR10 := H9.out.2.1.grown hg10 (fun b e => by cases e; exact ⟨fun e => HBF.out.a e.symm, fun e => by have := (H9.out.2.1.own.lt _ e).1; omega⟩)
          obtain ⟨u3, r3⟩ := hR10.c3
          have rf3 := hR10.f3
          have H11 := hide (hR10.setN HBF.out (H9.out.2.2.1.grown hg10 (fun b e => by cases e; exact .inl (by simp))) hC10 (hg10.cell H9.out.2.2.2 hnb) (intVal num.s))
          clear hg10 hC10 hR10 hb10 H9 r2 rf2
          go_wp2
          go_end0
          have hPS : done ++ [(sgn t.neg, X)] = PARTS := by rw [← hPP.out, ← hPT.out]; rfl
          rw [← hST.out, ← hPS]
          exact ⟨rfl, H11.out.2.2.1, H11.out.1, _, H11.out.2.1, H11.out.2.2.2.1, H11.out.2.2.2.2⟩
        | cons t2 ts2 =>
          obtain ⟨sg, m2, b1, b2, b3, b4⟩ := HAs.out
          have hpq : Hid (peekS toks (i + 1) = sg.s) := by unfold Hid peekS; rw [b1]; rfl
          rw [hpq.out]
          obtain ⟨c0, c1, c2, c3, f1, f2, f3, _⟩ := HC8.out.wk
          have HRR : Hid (∀ W, W = w8.setCell ⟨bw, 1, none⟩ (.int .i64 ((i + 1 + 1 : Nat) : Int)) → SumRel toks vars bw bm gt capt br vv C q ST PARTS w (ts2.length + 1) (.int .i64 (sgn t2.neg)) (.int .i64 ((k + 1 : Nat) : Int)) W) := by
            rintro W rfl
            exact ⟨k + 1, i + 1 + 1, m2, t2, ts2, done ++ [(sgn t.neg, X)], _, _, _, rfl, rfl, rfl, by omega, by simp; omega, HC8.out.setI _, b3, b4, hST.out, by unfold Hid; rw [← hPP.out, ← hPT.out]; simp, HR8.out.grown (grown_set _ _ _ _) (fun b e => by cases e; exact ⟨fun e => HBF.out.a e.symm, fun e => by have := (HR8.out.own.lt _ e).1; omega⟩),
              HB8.out.set (.inl (by simp)) _ _⟩
          cases hng : t2.neg with
          | false =>
            have hs1 : sg.s.toList = [43] := by rw [b2, hng]; rfl
            rw [hng] at HRR
            clear b1 b2 b3 b4 HC8 HR8 HB8 hng
            go_wp2
            go_roundg (ts2.length + 1)
            case measure => simp
            case rel => exact HRR.out _ (by congr 2 <;> go_num)
          | true =>
            have hs1 : sg.s.toList = [45] := by rw [b2, hng]; rfl
            rw [hng] at HRR
            clear b1 b2 b3 b4 HC8 HR8 HB8 hng
            go_wp2
            go_roundg (ts2.length + 1)
            case measure => simp
            case rel => exact HRR.out _ (by congr 2 <;> go_num)
end Go.Proofs.YthpcbbnabnlanaaGreatDoor

/-
  The reference's model in the making: its variables, lists and rules, each row in memory of its own; what a statement may turn of them.
-/
namespace Go.Proofs.YthpcbbnabnlanaaGreatDoor
open Go.RowKit
set_option linter.unusedVariables false

/-- a list: its name, its numbers, the slice that holds them -/
structure PLst where
  name : ByteArray
  nums : List Int
  v : Value
/-- a rule: its sort's byte, its parts and the slice that holds them, its relation, its number, its three places -/
structure PRul where
  sort : Int
  parts : List (Int × Int)
  pv : Value
  rel : ByteArray
  n : Int
  v : Int
  w : Int
  x : Int
def varCells (l : List PVar) : List Value := l.flatMap fun x => [.string x.name, .int .i64 x.low, .int .i64 x.high]
def lstCells (l : List PLst) : List Value := l.flatMap fun x => [.string x.name, x.v]
def rulCells (l : List PRul) : List Value := l.flatMap fun r => [.int .u8 r.sort, r.pv, .string r.rel, .int .i64 r.n, .int .i64 r.v, .int .i64 r.w, .int .i64 r.x]
theorem varCells_snoc (l : List PVar) (x : PVar) : varCells (l ++ [x]) = varCells l ++ [.string x.name, .int .i64 x.low, .int .i64 x.high] := by simp [varCells]
theorem lstCells_snoc (l : List PLst) (x : PLst) : lstCells (l ++ [x]) = lstCells l ++ [.string x.name, x.v] := by simp [lstCells]
theorem rulCells_snoc (l : List PRul) (r : PRul) : rulCells (l ++ [r]) = rulCells l ++ [.int .u8 r.sort, r.pv, .string r.rel, .int .i64 r.n, .int .i64 r.v, .int .i64 r.w, .int .i64 r.x] := by simp [rulCells]

theorem varCells_get (l : List PVar) (k : Nat) (x : PVar) (h : l[k]? = some x) :
    (varCells l)[k * 3]? = some (.string x.name) ∧ (varCells l)[k * 3 + 1]? = some (.int .i64 x.low) ∧ (varCells l)[k * 3 + 2]? = some (.int .i64 x.high) := by
  induction l generalizing k with
  | nil => simp at h
  | cons a l ih =>
    cases k with
    | zero => simp at h; subst h; simp [varCells]
    | succ k =>
      have e : varCells (a :: l) = [.string a.name, .int .i64 a.low, .int .i64 a.high] ++ varCells l := rfl
      have h3 := ih k (by simpa using h)
      have e1 : (k + 1) * 3 = k * 3 + 3 := by omega
      rw [e, e1]
      refine ⟨?_, ?_, ?_⟩
      · rw [List.getElem?_append_right (by simp)]; simpa using h3.1
      · rw [List.getElem?_append_right (by simp)]; have := h3.2.1; simpa [show k * 3 + 3 + 1 - 3 = k * 3 + 1 by omega] using this
      · rw [List.getElem?_append_right (by simp)]; have := h3.2.2; simpa [show k * 3 + 3 + 2 - 3 = k * 3 + 2 by omega] using this
theorem lstCells_get (l : List PLst) (k : Nat) (x : PLst) (h : l[k]? = some x) : (lstCells l)[k * 2]? = some (.string x.name) ∧ (lstCells l)[k * 2 + 1]? = some x.v := by
  induction l generalizing k with
  | nil => simp at h
  | cons a l ih =>
    cases k with
    | zero => simp at h; subst h; simp [lstCells]
    | succ k =>
      have e : lstCells (a :: l) = [.string a.name, a.v] ++ lstCells l := rfl
      have h3 := ih k (by simpa using h)
      have e1 : (k + 1) * 2 = k * 2 + 2 := by omega
      rw [e, e1]
      refine ⟨?_, ?_⟩
      · rw [List.getElem?_append_right (by simp)]; simpa using h3.1
      · rw [List.getElem?_append_right (by simp)]; have := h3.2; simpa [show k * 2 + 2 + 1 - 2 = k * 2 + 1 by omega] using this

/-- the cells of an owned row -/
theorem own_cells {w : World} {base n size : Nat} {e : TypeId} {v : Value} {xs : List Value} (h : w.ownsRow base e size v n xs) :
    (n = 0 ∧ v = .slice none 0 0) ∨ ∃ g cap, v = .slice (some ⟨g, 0, none⟩) n cap ∧ base ≤ g ∧ g < w.heap.size ∧ ∀ j u, xs[j]? = some u → w.cell? ⟨g, j, none⟩ = some u := by
  have hc := @World.ownsRow.cells w base e size v n xs h
  have hl := h.lt
  rcases h.2 with ⟨h1, h2⟩ | ⟨g, cap, cur, rfl, h2, h3, h4, _⟩
  · exact .inl ⟨h2, h1⟩
  · refine .inr ⟨g, cap, rfl, h2, (hl g rfl).2, fun j u hu => ?_⟩
    have hadd : (⟨g, 0, none⟩ : Addr).add j = ⟨g, j, none⟩ := by unfold Addr.add; split <;> simp_all
    rw [← hadd]; exact hc rfl j u hu
theorem own_vars {w : World} {base : Nat} {v : Value} {vars : List PVar} (h : w.ownsRow base 119 3 v vars.length (varCells vars)) : VarsAt w v vars := by
  rcases own_cells h with ⟨h1, h2⟩ | ⟨g, cap, h1, _, _, h2⟩
  · exact .inl ⟨List.length_eq_zero_iff.1 h1, h2⟩
  · exact .inr ⟨g, cap, h1, fun k x hx => ⟨h2 _ _ (varCells_get vars k x hx).1, h2 _ _ (varCells_get vars k x hx).2.1, h2 _ _ (varCells_get vars k x hx).2.2⟩⟩
def lnames (l : List PLst) : List ByteArray := l.map (·.name)
theorem own_lists {w : World} {base : Nat} {v : Value} {l : List PLst} (h : w.ownsRow base 178 2 v l.length (lstCells l)) : NamesAt w v 2 (lnames l) := by
  rcases own_cells h with ⟨h1, h2⟩ | ⟨g, cap, h1, _, _, h2⟩
  · exact .inl ⟨by rw [List.length_eq_zero_iff.1 h1]; rfl, h2⟩
  · refine .inr ⟨g, cap, by simpa [lnames] using h1, fun k a ha => ?_⟩
    simp only [lnames, List.getElem?_map, Option.map_eq_some_iff] at ha
    obtain ⟨x, hx, rfl⟩ := ha
    exact h2 _ _ (lstCells_get l k x hx).1
/-- the place of a name among the lists -/
def lstX (lists : List PLst) (s : ByteArray) : Int := findName s (lnames lists) 0

/-- the model in the making, between two statements -/
structure Md (w : World) (bw bm gt capt B : Nat) (toks : List PTok) (vv vl vr : Value) (vars : List PVar) (lists : List PLst) (rules : List PRul) (i : Nat) (kind line : Int) : Prop where
  wk : Wk w bw bm i kind line
  tk : Tk w bm gt capt toks
  m1 : w.cell? ⟨bm, 1, none⟩ = some vv
  m2 : w.cell? ⟨bm, 2, none⟩ = some vl
  m3 : w.cell? ⟨bm, 3, none⟩ = some vr
  f1 : w.frozen? ⟨bm, 1, none⟩ = false
  f2 : w.frozen? ⟨bm, 2, none⟩ = false
  f3 : w.frozen? ⟨bm, 3, none⟩ = false
  ov : w.ownsRow B 119 3 vv vars.length (varCells vars)
  ol : w.ownsRow B 178 2 vl lists.length (lstCells lists)
  orr : w.ownsRow B 176 7 vr rules.length (rulCells rules)
  li : ∀ l ∈ lists, w.ownsRow B 3 1 l.v l.nums.length (l.nums.map (.int .i64))
  ri : ∀ r ∈ rules, w.ownsRow B 183 2 r.pv r.parts.length (partCells r.parts)
  ne1 : bm ≠ bw
  ne2 : gt ≠ bw
  ne3 : gt ≠ bm
  hbw : bw < B
  hbm : bm < B
  hgt : gt < B
  hB : B ≤ w.heap.size
  hn : toks.length ≤ 2000
  lv : vars.length ≤ i
  ll : lists.length ≤ i
  lr : rules.length ≤ i
section
variable {w w' w0 : World} {bw bm gt capt B : Nat} {toks : List PTok} {vv vl vr : Value} {vars : List PVar} {lists : List PLst} {rules : List PRul} {i : Nat} {kind line : Int}
theorem Md.ctx (h : Md w bw bm gt capt B toks vv vl vr vars lists rules i kind line) (hi : i ≤ 4000) : Ctx w bw bm gt capt toks vv vars i kind line :=
  ⟨h.wk, h.tk, h.m1, own_vars h.ov, fun e => by have := (h.ov.lt _ e).1; have := h.hbw; omega, h.ne1, h.ne2, h.hn, by have := h.lv; omega, fun b e => (h.ov.lt _ e).2⟩
/-- a row of the model's, behind what writes the walk's struct and new blocks alone -/
theorem own_but {e : TypeId} {size n : Nat} {v : Value} {xs : List Value} {S : List Nat} (h : w0.ownsRow B e size v n xs) (hb : But S w0 w) (hS : ∀ k, k ∈ S → k < B) : w.ownsRow B e size v n xs := by
  obtain ⟨h1, h2⟩ := h
  refine ⟨h1, ?_⟩
  rcases h2 with h2 | ⟨g, cap, cur, hv, hg, hh, r⟩
  · exact .inl h2
  · have hgl : g < w0.heap.size := by
      rcases Nat.lt_or_ge g w0.heap.size with hl | hl
      · exact hl
      · rw [Array.getElem?_eq_none hl] at hh; cases hh
    exact .inr ⟨g, cap, cur, hv, hg, by rw [hb.block g hgl (fun e => by have := hS g e; omega)]; exact hh, r⟩
theorem Md.but (h : Md w0 bw bm gt capt B toks vv vl vr vars lists rules i kind line) (hb : But [bw] w0 w) {j : Nat} {k l : Int} (hW : Wk w bw bm j k l) (hij : i ≤ j) : Md w bw bm gt capt B toks vv vl vr vars lists rules j k l := by
  have hS : ∀ k, k ∈ [bw] → k < B := fun k hk => by have := h.hbw; simp at hk; omega
  have nm : bm ∉ [bw] := by simpa using h.ne1
  have ng : gt ∉ [bw] := by simpa using h.ne2
  have fz : ∀ q, w.frozen? ⟨bm, q, none⟩ = w0.frozen? ⟨bm, q, none⟩ := fun q => World.frozen?_of_block (hb.block bm h.tk.ltm nm)
  exact ⟨hW, ⟨(hb.cell h.tk.ltm nm 0).trans h.tk.m0, fun j u hu => (hb.cell h.tk.ltg ng j).trans (h.tk.row j u hu), Nat.lt_of_lt_of_le h.tk.ltm hb.size, Nat.lt_of_lt_of_le h.tk.ltg hb.size⟩,
    (hb.cell h.tk.ltm nm 1).trans h.m1, (hb.cell h.tk.ltm nm 2).trans h.m2, (hb.cell h.tk.ltm nm 3).trans h.m3, (fz 1).trans h.f1, (fz 2).trans h.f2, (fz 3).trans h.f3,
    own_but h.ov hb hS, own_but h.ol hb hS, own_but h.orr hb hS, fun l hl => own_but (h.li l hl) hb hS, fun r hr => own_but (h.ri r hr) hb hS, h.ne1, h.ne2, h.ne3, h.hbw, h.hbm, h.hgt, Nat.le_trans h.hB hb.size, h.hn,
    by have := h.lv; omega, by have := h.ll; omega, by have := h.lr; omega⟩
theorem But.of_grown {S : List Nat} {row : Option Nat} (hg : w.grownBy w' row) (hr : ∀ k, row = some k → k ∈ S) : But S w w' := (But.refl S w).grown hg (fun k e => .inl (hr k e))
theorem But.walk (h : But [bw] w0 w) (hg : w.grownBy w' (some bw)) : But [bw] w0 w' := h.grown hg (fun k e => by cases e; exact .inl (by simp))
/-- a callee that turns a block made since -/
theorem But.sub {S S' : List Nat} (h : But S w0 w) (k : But S' w w') (hs : ∀ b, b ∈ S' → b ∈ S ∨ w0.heap.size ≤ b) : But S w0 w' :=
  ⟨k.os.trans h.os, k.tape.trans h.tape, k.output.trans h.output, Nat.le_trans h.size k.size, fun b hb hn =>
    (k.block b (Nat.lt_of_lt_of_le hb h.size) (fun e => by rcases hs b e with q | q; exact hn q; omega)).trans (h.block b hb hn)⟩
/-- declared, with the lists -/
theorem md_declared (h : Md w bw bm gt capt B toks vv vl vr vars lists rules i kind line) (hi : i < toks.length) :
    Calls Tryz.prog 97 #[.pointer (some ⟨bw, 0, none⟩)] w fun e w' => e = .returned (.string (peekS toks i)) ∧ w.grownBy w' (some bw) ∧
      Wk w' bw bm ((i + 1 : Nat) : Int) (fKind (decide (0 ≤ varX vars (peekS toks i)) || decide (0 ≤ lstX lists (peekS toks i))) 4 kind) (fLine (decide (0 ≤ varX vars (peekS toks i)) || decide (0 ≤ lstX lists (peekS toks i))) kind (lineAt toks i) line) := by
  have hn := h.hn
  have l1 := h.lv
  have l2 := h.ll
  exact ref_declared toks i kind line bw bm gt capt vv vl (namesOf vars) (lnames lists) w h.hn hi h.ne1 h.ne2 (by simp [namesOf]; omega) (by simp [lnames]; omega) ⟨h.m1, h.m2⟩ ⟨(own_vars h.ov).names, own_lists h.ol⟩
    ⟨fun e => by have := (h.ov.lt _ e).1; have := h.hbw; omega, fun e => by have := (h.ol.lt _ e).1; have := h.hbw; omega⟩ h.wk h.tk

/-- below B w' is w but for the blocks of S -/
structure ButB (B : Nat) (S : List Nat) (w w' : World) : Prop where
  os : w'.os = w.os
  tape : w'.tape = w.tape
  output : w'.output = w.output
  size : w.heap.size ≤ w'.heap.size
  block : ∀ k, k < B → k ∉ S → w'.heap[k]? = w.heap[k]?
theorem ButB.refl (B : Nat) (S : List Nat) (w : World) : ButB B S w w := ⟨rfl, rfl, rfl, Nat.le_refl _, fun _ _ _ => rfl⟩
theorem ButB.trans {B : Nat} {S : List Nat} {a b c : World} (h : ButB B S a b) (k : ButB B S b c) : ButB B S a c :=
  ⟨k.os.trans h.os, k.tape.trans h.tape, k.output.trans h.output, Nat.le_trans h.size k.size, fun i hi hn => (k.block i hi hn).trans (h.block i hi hn)⟩
theorem But.toB {S S' : List Nat} (h : But S w0 w) (hB : B ≤ w0.heap.size) (hs : ∀ k, k ∈ S → k ∈ S') : ButB B S' w0 w := ⟨h.os, h.tape, h.output, h.size, fun k hk hn => h.block k (by omega) (fun e => hn (hs k e))⟩
theorem ButB.grown {S : List Nat} {row : Option Nat} (h : ButB B S w0 w) (hg : w.grownBy w' row) (hB : B ≤ w.heap.size) (hr : ∀ k, row = some k → k ∈ S ∨ B ≤ k) : ButB B S w0 w' :=
  ⟨hg.os.trans h.os, hg.tape.trans h.tape, hg.output.trans h.output, Nat.le_trans h.size hg.size, fun i hi hn =>
    (hg.block i (by omega) (fun e => by rcases hr i e.symm with q | q; exact hn q; omega)).trans (h.block i hi hn)⟩

/-- rows of different elements lie in different blocks -/
theorem own_ne {B' : Nat} {e e' : TypeId} {s s' n n' : Nat} {v v' : Value} {xs xs' : List Value} (h : w.ownsRow B e s v n xs) (h' : w.ownsRow B' e' s' v' n' xs') (he : e ≠ e') : v.ownBlock = none ∨ v.ownBlock ≠ v'.ownBlock := by
  rcases h.2 with ⟨rfl, _⟩ | ⟨g, cap, cur, rfl, _, h3, _⟩
  · exact .inl rfl
  · right
    intro e1
    rcases h'.2 with ⟨rfl, _⟩ | ⟨g', cap', cur', rfl, _, h3', _⟩
    · cases e1
    · have : g = g' := Option.some.inj e1
      subst this
      rw [h3] at h3'
      cases h3'
      exact he rfl
theorem own_ne_low {e : TypeId} {s n b : Nat} {v : Value} {xs : List Value} (h : w.ownsRow B e s v n xs) (hb : b < B) : v.ownBlock = none ∨ v.ownBlock ≠ some b := by
  cases hv : v.ownBlock with
  | none => exact .inl rfl
  | some g => exact .inr (fun e => by have := (h.lt _ hv).1; cases e; omega)
/-- a variable more: behind the append and the store of the new slice -/
theorem Md.pushVar (h : Md w bw bm gt capt B toks vv vl vr vars lists rules i kind line) {o : Obj} {wA : World} {v' : Value} {x : PVar} (hi : vars.length + 1 ≤ i)
    (hown : wA.ownsRow B 119 3 v' (vars.length + 1) (varCells vars ++ [.string x.name, .int .i64 x.low, .int .i64 x.high])) (hg : (w.alloc o).drew.grownBy wA vv.ownBlock) :
    Md (wA.setCell ⟨bm, 1, none⟩ v') bw bm gt capt B toks v' vl vr (vars ++ [x]) lists rules i kind line ∧ ButB B [bw, bm] w (wA.setCell ⟨bm, 1, none⟩ v') := by
  have g0 : w.grownBy (w.alloc o).drew none := (World.grownBy_alloc w o none).trans (grown_drew' _ none)
  have gs := grown_set wA bm 1 v'
  have hlow : ∀ b, b < B → some b ≠ vv.ownBlock := fun b hb e => by have := (h.ov.lt _ e.symm).1; omega
  have nn : ∀ {v : Value}, v.ownBlock = none ∨ v.ownBlock ≠ none := fun {v} => by cases v.ownBlock with
    | none => exact .inl rfl
    | some g => exact .inr (by simp)
  have keep : ∀ {e : TypeId} {s n : Nat} {v : Value} {xs : List Value}, w.ownsRow B e s v n xs → e ≠ 119 → (wA.setCell ⟨bm, 1, none⟩ v').ownsRow B e s v n xs := fun {e s n v xs} ho he =>
    have h1 := ho.kept g0 nn
    have h2 := h1.kept hg (own_ne ho h.ov he)
    h2.kept gs (own_ne_low h2 h.hbm)
  have cell : ∀ b q u, b < B → b ≠ bm → w.cell? ⟨b, q, none⟩ = some u → (wA.setCell ⟨bm, 1, none⟩ v').cell? ⟨b, q, none⟩ = some u := fun b q u hb hn hu =>
    gs.cell (hg.cell (g0.cell hu (by simp)) (hlow b hb)) (by simpa using hn)
  have cellm : ∀ q u, q ≠ 1 → w.cell? ⟨bm, q, none⟩ = some u → (wA.setCell ⟨bm, 1, none⟩ v').cell? ⟨bm, q, none⟩ = some u := fun q u hq hu =>
    (cell_set _ _ _ _ _ _ (.inr hq)).trans (hg.cell (g0.cell hu (by simp)) (hlow bm h.hbm))
  have hsz : w.heap.size ≤ wA.heap.size := Nat.le_trans g0.size hg.size
  have frA : ∀ q, wA.frozen? ⟨bm, q, none⟩ = w.frozen? ⟨bm, q, none⟩ := fun q =>
    (hg.frozen_far ⟨bm, q, none⟩ (Nat.lt_of_lt_of_le h.tk.ltm g0.size) (hlow bm h.hbm)).trans (g0.frozen_far ⟨bm, q, none⟩ h.tk.ltm (by simp))
  have fr : ∀ q, (wA.setCell ⟨bm, 1, none⟩ v').frozen? ⟨bm, q, none⟩ = w.frozen? ⟨bm, q, none⟩ := fun q => (World.frozen?_setCell _ _ _ _).trans (frA q)
  have hwk : Wk (wA.setCell ⟨bm, 1, none⟩ v') bw bm i kind line := by
    have n1 := hlow bw h.hbw
    have n2 : some bw ≠ some bm := by simpa using fun e : bw = bm => h.ne1 e.symm
    have f0 : ∀ q, (wA.setCell ⟨bm, 1, none⟩ v').frozen? ⟨bw, q, none⟩ = w.frozen? ⟨bw, q, none⟩ := fun q =>
      (World.frozen?_setCell _ _ _ _).trans ((hg.frozen_far ⟨bw, q, none⟩ (Nat.lt_of_lt_of_le h.wk.lt g0.size) n1).trans (g0.frozen_far ⟨bw, q, none⟩ h.wk.lt (by simp)))
    exact ⟨cell bw 0 _ h.hbw (fun e => h.ne1 e.symm) h.wk.c0, cell bw 1 _ h.hbw (fun e => h.ne1 e.symm) h.wk.c1, cell bw 2 _ h.hbw (fun e => h.ne1 e.symm) h.wk.c2, cell bw 3 _ h.hbw (fun e => h.ne1 e.symm) h.wk.c3,
      (f0 1).trans h.wk.f1, (f0 2).trans h.wk.f2, (f0 3).trans h.wk.f3, by have := h.wk.lt; simp [World.setCell]; omega⟩
  have hszs : (wA.setCell ⟨bm, 1, none⟩ v').heap.size = wA.heap.size := by simp [World.setCell]
  refine ⟨⟨hwk, ⟨cellm 0 _ (by omega) h.tk.m0, fun j u hu => cell gt j u h.hgt h.ne3 (h.tk.row j u hu), by have := h.tk.ltm; omega, by have := h.tk.ltg; omega⟩, ?_, cellm 2 _ (by omega) h.m2, cellm 3 _ (by omega) h.m3, (fr 1).trans h.f1, (fr 2).trans h.f2, (fr 3).trans h.f3, ?_,
    keep h.ol (by decide), keep h.orr (by decide), fun l hl => keep (h.li l hl) (by decide), fun r hr => keep (h.ri r hr) (by decide), h.ne1, h.ne2, h.ne3, h.hbw, h.hbm, h.hgt, by have := h.hB; omega, h.hn, by simp; omega, h.ll, h.lr⟩, ?_⟩
  · exact World.cell?_setCell_same _ _ _ (hg.cell (g0.cell h.m1 (by simp)) (hlow bm h.hbm))
  · rw [varCells_snoc, List.length_append]
    exact hown.kept gs (own_ne_low hown h.hbm)
  · refine (((ButB.refl B [bw, bm] w).grown g0 h.hB (fun _ e => by cases e)).grown hg (by have := h.hB; have := g0.size; omega) (fun k e => .inr ((h.ov.lt _ e).1))).grown gs (by have := h.hB; omega) (fun k e => by cases e; exact .inl (by simp))
end
end Go.Proofs.YthpcbbnabnlanaaGreatDoor
