import Derived.Test.YthpcbbnabnlanaaGreatDoorM09
import Derived.Deep.AppendLies
import Derived.Deep.QuietTactic
import Derived.BigQuiet
import Derived.Deep.RegionHeld3
import Derived.Deep.DrawnRows
import Derived.Deep.DeepMust
import Derived.Deep.Light
/-
  The program's Parse: the statements of the tokens, in new memory, or the fault's line.
-/
namespace Go.Proofs.YthpcbbnabnlanaaGreatDoor
open Go.RowKit
set_option linter.unusedVariables false
variable {w : World} {gt capt : Nat} {toks : List PTok}

/-- behind the append and the semicolon: the next round's head -/
theorem par_step {RES : List GSt × PSt} {wr w1 w2 w3 : World} {v v' : Value} {o o' : Obj} {acc : List GRow} {S S2 : PSt} {G : GRow} {f : Nat} (hlg : gt < w.heap.size) (hS3 : (pTake toks [11] S2).1 < toks.length) (hlt : parM toks (pTake toks [11] S2) < parM toks S) (hf : parM toks S ≤ f + 1)
    (hl : Hid (parseF toks f (acc.map (·.s) ++ [G.s]) (pTake toks [11] S2) = RES)) (hacc : acc.length ≤ 3000 - parM toks S) (hn : parM toks S ≤ 2100) (hgr : w.grownBy wr none) (hlr : w.heap.size < wr.heap.size) (hrows : ∀ x ∈ acc, x.own wr (w.heap.size + 1))
    (hown : wr.ownsRow (w.heap.size + 1) 137 16 v acc.length (acc.flatMap GRow.cells)) (hO : G.own w1 (w.heap.size + 1)) (hg1 : wr.grownBy w1 (some w.heap.size))
    (hown' : w2.ownsRow (w.heap.size + 1) 137 16 v' (acc.length + 1) (acc.flatMap GRow.cells ++ G.cells)) (hgrow : (w1.alloc o).grownBy w2 v.ownBlock) (hg3 : (w2.alloc o').grownBy w3 (some w.heap.size)) (hP3 : Ps w3 w.heap.size gt capt toks (pTake toks [11] S2)) :
    ParRel toks gt capt RES w (parM toks (pTake toks [11] S2)) v' w3 := by
  have e : ∀ k, v.ownBlock = some k → w.heap.size + 1 ≤ k := fun k hk => (hown.lt k hk).1
  have ty : ∀ b, v.ownBlock = some b → ∃ cs fr, (w1.alloc o).heap[b]? = some (.cells cs 137 fr) := fun b hb => by
    have h1 := ((hown.kept hg1 (low_ne' hown (by omega))).alloc o)
    rcases h1.2 with ⟨h, _⟩ | ⟨g, cap, cur, h, _, h3, _⟩
    · rw [h] at hb; cases hb
    · rw [h] at hb
      have : g = b := Option.some.inj hb
      subst this
      exact ⟨_, _, h3⟩
  have k1 : ∀ x : GRow, x.own w1 (w.heap.size + 1) → x.own w3 (w.heap.size + 1) := fun x hx =>
    GRow.kept (GRow.kept (GRow.kept (GRow.kept hx (World.grownBy_alloc w1 o none) (fun b q => by cases q)) hgrow (fun b q => .inr (ty b q))) (World.grownBy_alloc w2 o' none) (fun b q => by cases q)) hg3 (fun b q => by cases q; exact .inl (by omega))
  refine ⟨acc ++ [G], pTake toks [11] S2, f, hS3, rfl, by omega, by rw [List.map_append]; exact hl, by simp; omega, by omega, hP3, ?_, ?_, ?_⟩
  · rw [List.flatMap_append, List.length_append]
    have h1 := ((hown'.alloc o').kept hg3 (low_ne' hown' (by omega)))
    simpa using h1
  · intro x hx
    rcases List.mem_append.1 hx with hx | hx
    · exact k1 x (GRow.kept (hrows x hx) hg1 (fun b q => by cases q; exact .inl (by omega)))
    · obtain rfl : x = G := by simpa using hx
      exact k1 x hO
  · have z1 := hgr.size; have z2 := hg1.size; have z3 := hgrow.size; have z4 := hg3.size
    simp at z3 z4
    refine ⟨hg3.os.trans (hgrow.os.trans (hg1.os.trans hgr.os)), hg3.tape.trans (hgrow.tape.trans (hg1.tape.trans hgr.tape)), hg3.output.trans (hgrow.output.trans (hg1.output.trans hgr.output)), by omega, fun i hi hn => ?_⟩
    have a3 := hg3.block i (by simp; omega) (by simp; omega)
    have a2 := hgrow.block i (by simp; omega) (fun q => by have := e i q.symm; omega)
    have a1 := hg1.block i (by omega) (by simp; omega)
    exact (a3.trans (heap_alloc_old _ _ (by omega))).trans ((a2.trans (heap_alloc_old _ _ (by omega))).trans (a1.trans (hgr.block i hi hn)))

set_option maxRecDepth 100000 in
set_option maxHeartbeats 4000000 in
theorem gr_Parse (hE : EndOk toks) (hL : ∀ i, i < toks.length → 1 ≤ (tkN toks i).line) (hrow : ∀ j u, (tokCells toks)[j]? = some u → w.cell? ⟨gt, j, none⟩ = some u) (hlg : gt < w.heap.size) :
    Calls Tryz.prog 44 #[.slice (some ⟨gt, 0, none⟩) toks.length capt] w fun e w' => ∃ v, e = .returned (.tuple #[v, .int .i64 (pParse toks).2.2]) ∧
      ((pParse toks).2.2 = 0 → ∃ acc : List GRow, acc.map (·.s) = (pParse toks).1 ∧ w'.ownsRow (w.heap.size + 1) 137 16 v acc.length (acc.flatMap GRow.cells) ∧ ∀ x ∈ acc, x.own w' (w.heap.size + 1)) ∧ w.grownBy w' none := by
  obtain ⟨i0, hi0, hz0, hz1, hz2⟩ := info_parts infoSt
  have hlen := hE.len
  have hpos := hE.pos
  obtain ⟨RES, hR⟩ : ∃ R, R = pParse toks := ⟨_, rfl⟩
  have HS : Hid (parseF toks (toks.length + 1) [] (0, 0) = RES) := by rw [Hid, hR]; rfl
  have HR : Hid (∀ j u, (tokCells toks)[j]? = some u → w.cell? ⟨gt, j, none⟩ = some u) := hrow
  have HL : Hid (∀ i, i < toks.length → 1 ≤ (tkN toks i).line) := hL
  rw [← hR]
  clear hrow hR hL
  go_enter Tryz.func44, Tryz.ntmps44
  go_wp2
  go_loopg [5] (toks.length + 1) (fun n v wr => ParRel toks gt capt RES w n v wr)
  case atStart =>
    refine ⟨[], (0, 0), toks.length + 1, hpos, by simp [parM], by simp [parM], HS, by simp, by omega, ?_, World.ownsRow_nil _ _ _ _, (fun x hx => by cases hx), World.grownBy_alloc _ _ _⟩
    have hB := heap_alloc_new w (.cells #[.slice (some ⟨gt, 0, none⟩) toks.length capt, .int .i64 0, .int .i64 0] 132)
    exact ⟨cell_of hB 0 _ rfl, cell_of hB 1 _ rfl, cell_of hB 2 _ rfl, frozen_of hB 1, frozen_of hB 2, by simp, fun j u hu => (World.grownBy_alloc w _ none).cell (HR.out j u hu) (by simp), by simp; omega, by omega⟩
  case round =>
    obtain ⟨acc, ⟨i, fl⟩, f, hi, rfl, hf, hlex, hacc, hn, hP, hown, hrows, hgr⟩ := hrel
    have HP : Hid (Ps wr w.heap.size gt capt toks (i, fl)) := hP
    have c2 := hP.c2
    have hlr := hP.lt
    simp only at c2 hi
    by_cases h0 : fl = 0
    · subst h0
      by_cases h1 : srt (tkN toks i) = 1
      · have hs : Hid (pSees toks 1 (i, 0) = true) := by unfold Hid pSees; simp [h1]
        have hl : Hid (RES = (acc.map (·.s), (i, 0))) := by rw [Hid, ← hlex.out]; exact parseF_end (by simp [h1])
        clear hlex h1 hP
        go_wp2_with (go_at_call 67; refine (gr_sees HP.out hlen hi 1).mono ?_; rw [hs.out]; rintro e ws ⟨rfl, hgs⟩; have hPs := HP.out.kept hgs (by simp) (by simp); have d2 := hPs.c2)
        go_ret2
        rw [hl.out]
        exact ⟨_, rfl, fun _ => ⟨acc, rfl, hown.kept hgs (own_none _), fun x hx => GRow.kept (hrows x hx) hgs (fun b q => by cases q)⟩, hgr.trans hgs⟩
      · obtain ⟨f, rfl⟩ : ∃ g, f = g + 1 := ⟨f - 1, by simp [parM] at hf; omega⟩
        have hs : Hid (pSees toks 1 (i, 0) = false) := by unfold Hid pSees; simp [h1]
        obtain ⟨⟨G, S2⟩, hGS⟩ : ∃ x, pStmt toks (i, 0) = x := ⟨_, rfl⟩
        have hm := parM_less HL.out hi (S := (i, 0)) rfl
        have hl : Hid (parseF toks f (acc.map (·.s) ++ [G]) (pTake toks [11] S2) = RES) := by rw [Hid, ← hlex.out, parseF_more rfl h1, hGS]
        rw [hGS] at hm
        have HG : Hid (pStmt toks (i, 0) = (G, S2)) := hGS
        clear hlex h1 hP hGS
        go_wp2_with (first | (at_builtin; refine wpList_append_own _ rfl _ _ 88 rfl (w.heap.size + 1) 137 i0 (.agg zero16) 16 216 Tryz.underlying88 hi0 hz0 hz1 hz2 rfl (by decide) _ _ _ rfl (hown1.alloc _) ⟨w1.heap.size, 0, none⟩ 1 1 (GRow.cells ⟨G, .slice na nm nc, .slice ua um uc, .slice ta tm tc, .slice la lm lc⟩) rfl rfl (World.news_of_block (heap_alloc_new _ _)) (gs_one ⟨G, .slice na nm nc, .slice ua um uc, .slice ta tm tc, .slice la lm lc⟩ rfl rfl rfl rfl) ?c3 ?c4 ?c5 ?_) | (go_at_call 68; refine (gr_statement hPs hE hi).mono ?_; unfold StPost; rw [HG.out]; unfold gsCells; rintro e w1 ⟨vn, vu, vt, vl, rfl, hO, hg1, hP1, hi1⟩; obtain ⟨na, nm, nc, rfl⟩ := own_slice hO.n; obtain ⟨ua, um, uc, rfl⟩ := own_slice hO.u; obtain ⟨ta, tm, tc, rfl⟩ := own_slice hO.t; obtain ⟨la, lm, lc, rfl⟩ := own_slice hO.l; have hown1 := (hown.kept hgs (own_none _)).kept hg1 (low_ne' hown (by omega))) | (go_at_call 67; refine (gr_sees HP.out hlen hi 1).mono ?_; rw [hs.out]; rintro e ws ⟨rfl, hgs⟩; have hPs := HP.out.kept hgs (by simp) (by simp)))
        case c3 => unfold maxLen; omega
        case c4 => omega
        case c5 => have := hgs.size; have := hg1.size; simp at *; omega
        intro v' w2 hown' hgrow _
        have hP2 := (hP1.alloc _).kept hgrow (low_ne hown (by omega)) (low_ne hown (by omega))
        have hlS : w.heap.size < ws.heap.size := by have := hgs.size; omega
        have HK : Hid (∀ w3 o', (w2.alloc o').grownBy w3 (some w.heap.size) → Ps w3 w.heap.size gt capt toks (pTake toks [11] S2) → ParRel toks gt capt RES w (parM toks (pTake toks [11] S2)) v' w3) := fun w3 o' hg3 hP3 =>
          par_step (G := ⟨G, .slice na nm nc, .slice ua um uc, .slice ta tm tc, .slice la lm lc⟩) hlg (pTake_lt hE rfl hi1) hm hf hl hacc hn (hgr.trans hgs) hlS (fun x hx => GRow.kept (hrows x hx) hgs (fun b q => by cases q)) (hown.kept hgs (own_none _))
            ⟨World.ownsRow.mono hO.n (by omega), World.ownsRow.mono hO.u (by omega), World.ownsRow.mono hO.t (by omega), World.ownsRow.mono hO.l (by omega)⟩ hg1 hown' hgrow hg3 hP3
        clear hown' hgrow hown hown1 hrows hO hgs hg1 hPs hP1
        go_wp2_with (go_at_call 69; refine (gr_take' hE hi1 [11] 1 rfl (by decide) rfl rfl w2 hP2 w2.heap.size rfl rfl).mono ?_; rintro e w3 ⟨rfl, hg3, hP3⟩)
        go_roundg (parM toks (pTake toks [11] S2))
        case measure => exact hm
        case rel => exact HK.out w3 _ hg3 hP3
    · have hl : Hid (RES = (acc.map (·.s), (i, fl))) := by rw [Hid, ← hlex.out]; exact parseF_end (by simp [h0])
      have hb : (fl == 0) = false := by simpa using h0
      have hb2 : (fl != 0) = true := by simpa using h0
      clear hlex hP
      go_wp2
      go_quiet (fail)
      go_wp2
      go_ret2
      rw [hl.out]
      exact ⟨_, rfl, fun q => absurd q h0, hgr.trans (grown_drewN' _ _ _)⟩
end Go.Proofs.YthpcbbnabnlanaaGreatDoor

/-
  How the reference lays tokens in memory: three cells each.
-/
namespace Go.Proofs.YthpcbbnabnlanaaGreatDoor
open Go.RowKit

/-- a token's three cells as the reference lays it -/
def refCell (t : PTok) : List Value := [.string t.s, .int .u8 t.kind, .int .i64 t.line]
def refCells (l : List PTok) : List Value := l.flatMap refCell
theorem refCells_snoc (l : List PTok) (t : PTok) : refCells (l ++ [t]) = refCells l ++ [.string t.s, .int .u8 t.kind, .int .i64 t.line] := by
  simp [refCells, refCell]
theorem refCells_length (l : List PTok) : (refCells l).length = l.length * 3 := by
  induction l with
  | nil => rfl
  | cons t l ih => simp only [refCells, List.flatMap_cons, List.length_append, List.length_cons] at *; simp [refCell, ih]; omega
theorem refCells_get (l : List PTok) (i : Nat) (t : PTok) (h : l[i]? = some t) :
    (refCells l)[i * 3]? = some (.string t.s) ∧ (refCells l)[i * 3 + 1]? = some (.int .u8 t.kind) ∧ (refCells l)[i * 3 + 2]? = some (.int .i64 t.line) := by
  induction l generalizing i with
  | nil => simp at h
  | cons a l ih =>
    cases i with
    | zero => simp at h; subst h; simp [refCells, refCell]
    | succ i =>
      have e : refCells (a :: l) = [.string a.s, .int .u8 a.kind, .int .i64 a.line] ++ refCells l := rfl
      have h3 := ih i (by simpa using h)
      have e1 : (i + 1) * 3 = i * 3 + 3 := by omega
      rw [e, e1]
      refine ⟨?_, ?_, ?_⟩
      · rw [List.getElem?_append_right (by simp)]; simpa using h3.1
      · rw [List.getElem?_append_right (by simp)]; have := h3.2.1; simpa [show i * 3 + 3 + 1 - 3 = i * 3 + 1 by omega] using this
      · rw [List.getElem?_append_right (by simp)]; have := h3.2.2; simpa [show i * 3 + 3 + 2 - 3 = i * 3 + 2 by omega] using this
end Go.Proofs.YthpcbbnabnlanaaGreatDoor

/-
  The reference's walk over tokens: its small methods. Each reads the tokens and writes the walk's own struct alone.
-/
namespace Go.Proofs.YthpcbbnabnlanaaGreatDoor
open Go.RowKit
set_option linter.unusedVariables false
set_option linter.unusedSimpArgs false
attribute [local go_sem ↓] Go.wp_at_zero Go.wp_at_succ

/-- the walk's struct (block bw): where it stands, its first fault -/
structure Wk (w : World) (bw bm : Nat) (i kind line : Int) : Prop where
  c0 : w.cell? ⟨bw, 0, none⟩ = some (.pointer (some ⟨bm, 0, none⟩))
  c1 : w.cell? ⟨bw, 1, none⟩ = some (.int .i64 i)
  c2 : w.cell? ⟨bw, 2, none⟩ = some (.int .i64 kind)
  c3 : w.cell? ⟨bw, 3, none⟩ = some (.int .i64 line)
  f1 : w.frozen? ⟨bw, 1, none⟩ = false
  f2 : w.frozen? ⟨bw, 2, none⟩ = false
  f3 : w.frozen? ⟨bw, 3, none⟩ = false
  lt : bw < w.heap.size
/-- the model's tokens (block bm's first cell; their row: block gt) -/
structure Tk (w : World) (bm gt capt : Nat) (toks : List PTok) : Prop where
  m0 : w.cell? ⟨bm, 0, none⟩ = some (.slice (some ⟨gt, 0, none⟩) toks.length capt)
  row : ∀ j u, (refCells toks)[j]? = some u → w.cell? ⟨gt, j, none⟩ = some u
  ltm : bm < w.heap.size
  ltg : gt < w.heap.size

theorem Wk.drewN {w : World} {bw bm : Nat} {i k l : Int} (h : Wk w bw bm i k l) (n : Nat) : Wk (w.drewN n) bw bm i k l := ⟨h.c0, h.c1, h.c2, h.c3, h.f1, h.f2, h.f3, h.lt⟩
theorem Wk.drew {w : World} {bw bm : Nat} {i k l : Int} (h : Wk w bw bm i k l) : Wk w.drew bw bm i k l := ⟨h.c0, h.c1, h.c2, h.c3, h.f1, h.f2, h.f3, h.lt⟩
theorem Wk.setI {w : World} {bw bm : Nat} {i k l : Int} (h : Wk w bw bm i k l) (j : Int) : Wk (w.setCell ⟨bw, 1, none⟩ (.int .i64 j)) bw bm j k l :=
  ⟨(World.cell?_setCell_other _ _ _ _ (by simp)).trans h.c0, World.cell?_setCell_same _ _ _ h.c1, (World.cell?_setCell_other _ _ _ _ (by simp)).trans h.c2, (World.cell?_setCell_other _ _ _ _ (by simp)).trans h.c3,
    (World.frozen?_setCell _ _ _ _).trans h.f1, (World.frozen?_setCell _ _ _ _).trans h.f2, (World.frozen?_setCell _ _ _ _).trans h.f3, by simpa [World.setCell] using h.lt⟩
theorem Wk.setK {w : World} {bw bm : Nat} {i k l : Int} (h : Wk w bw bm i k l) (j : Int) : Wk (w.setCell ⟨bw, 2, none⟩ (.int .i64 j)) bw bm i j l :=
  ⟨(World.cell?_setCell_other _ _ _ _ (by simp)).trans h.c0, (World.cell?_setCell_other _ _ _ _ (by simp)).trans h.c1, World.cell?_setCell_same _ _ _ h.c2, (World.cell?_setCell_other _ _ _ _ (by simp)).trans h.c3,
    (World.frozen?_setCell _ _ _ _).trans h.f1, (World.frozen?_setCell _ _ _ _).trans h.f2, (World.frozen?_setCell _ _ _ _).trans h.f3, by simpa [World.setCell] using h.lt⟩
theorem Wk.setL {w : World} {bw bm : Nat} {i k l : Int} (h : Wk w bw bm i k l) (j : Int) : Wk (w.setCell ⟨bw, 3, none⟩ (.int .i64 j)) bw bm i k j :=
  ⟨(World.cell?_setCell_other _ _ _ _ (by simp)).trans h.c0, (World.cell?_setCell_other _ _ _ _ (by simp)).trans h.c1, (World.cell?_setCell_other _ _ _ _ (by simp)).trans h.c2, World.cell?_setCell_same _ _ _ h.c3,
    (World.frozen?_setCell _ _ _ _).trans h.f1, (World.frozen?_setCell _ _ _ _).trans h.f2, (World.frozen?_setCell _ _ _ _).trans h.f3, by simpa [World.setCell] using h.lt⟩
theorem Tk.kept {w w' : World} {bw bm gt capt : Nat} {toks : List PTok} (h : Tk w bm gt capt toks) (hg : w.grownBy w' (some bw)) (h1 : bm ≠ bw) (h2 : gt ≠ bw) : Tk w' bm gt capt toks :=
  ⟨hg.cell h.m0 (by simpa using h1), fun j u hu => hg.cell (h.row j u hu) (by simpa using h2), Nat.lt_of_lt_of_le h.ltm hg.size, Nat.lt_of_lt_of_le h.ltg hg.size⟩

/-- a store into one cell leaves the others -/
theorem cell_set (W : World) (b o : Nat) (u : Value) (b' o' : Nat) (h : b' ≠ b ∨ o' ≠ o) : (W.setCell ⟨b, o, none⟩ u).cell? ⟨b', o', none⟩ = W.cell? ⟨b', o', none⟩ :=
  World.cell?_setCell_other _ _ _ _ (by
    intro e
    simp only [Addr.mk.injEq] at e
    omega)

/-- the bytes of the token at a place; none behind the end -/
def peekS (toks : List PTok) (i : Nat) : ByteArray := ((toks[i]?).map (·.s)).getD ⟨#[]⟩

set_option maxRecDepth 100000 in
set_option maxHeartbeats 1000000 in
theorem ref_peek (toks : List PTok) (i : Nat) (kind line : Int) (bw bm gt capt : Nat) (w : World) (hn : toks.length ≤ 2000) (hi : i ≤ 4000) (hW : Wk w bw bm i kind line) (hT : Tk w bm gt capt toks) :
    Calls Tryz.prog 95 #[.pointer (some ⟨bw, 0, none⟩)] w fun e w' => e = .returned (.string (peekS toks i)) ∧ w.grownBy w' (some bw) ∧ Wk w' bw bm i kind line := by
  have HW : Hid (Wk w bw bm i kind line) := hW
  obtain ⟨c0, c1, _, _, _, _, _, _⟩ := hW
  obtain ⟨m0, row, _, _⟩ := hT
  by_cases hlt : i < toks.length
  · obtain ⟨t, htk⟩ : ∃ t, toks[i]? = some t := ⟨toks[i], by simp [hlt]⟩
    have hc0 : w.cell? ⟨gt, i * 3, none⟩ = some (.string t.s) := row _ _ (refCells_get toks i t htk).1
    have hp : Hid (peekS toks i = t.s) := by unfold Hid peekS; rw [htk]; rfl
    have hlt' : (i : Int) < toks.length := by omega
    have h0 : (0 : Int) ≤ (i : Int) := by omega
    clear row htk
    go_enter Tryz.func95, Tryz.ntmps95
    go_wp2
    go_quiet (fail)
    go_wp2
    go_quiet (fail)
    go_wp2
    go_ret
    rw [hp.out]
    exact ⟨rfl, (grown_drewN' _ _ _).trans (grown_drewN' _ _ _), (HW.out.drewN _).drewN _⟩
  · have hp : Hid (peekS toks i = ⟨#[]⟩) := by unfold Hid peekS; rw [List.getElem?_eq_none (by omega)]; rfl
    have hlt' : (toks.length : Int) ≤ (i : Int) := by omega
    clear row
    go_enter Tryz.func95, Tryz.ntmps95
    go_wp2
    go_quiet (fail)
    go_wp2
    go_ret
    rw [hp.out]
    exact ⟨rfl, grown_drewN' _ _ _, HW.out.drewN _⟩

def fKind (wrong : Bool) (k kind : Int) : Int := if wrong && kind == 0 then k else kind
def fLine (wrong : Bool) (kind l line : Int) : Int := if wrong && kind == 0 then l else line
/-- the line of the token at a place -/
def lineAt (toks : List PTok) (i : Nat) : Int := ((toks[i]?).map fun t => (t.line : Int)).getD 0

set_option maxRecDepth 100000 in
set_option maxHeartbeats 1000000 in
theorem ref_fault (toks : List PTok) (i : Nat) (wrong : Bool) (k kind line : Int) (bw bm gt capt : Nat) (w : World) (hn : toks.length ≤ 2000) (hi : i < toks.length) (h1 : bm ≠ bw) (h2 : gt ≠ bw) (hW : Wk w bw bm i kind line) (hT : Tk w bm gt capt toks) :
    Calls Tryz.prog 96 #[.pointer (some ⟨bw, 0, none⟩), .bool wrong, .int .i64 k] w fun e w' => e = .returned (.tuple #[]) ∧ w.grownBy w' (some bw) ∧
      Wk w' bw bm i (fKind wrong k kind) (fLine wrong kind (lineAt toks i) line) := by
  have HW : Hid (Wk w bw bm i kind line) := hW
  obtain ⟨c0, c1, c2, c3, f1, f2, f3, _⟩ := hW
  obtain ⟨m0, row, _, _⟩ := hT
  cases wrong with
  | false =>
    go_enter Tryz.func96, Tryz.ntmps96
    go_wp2
    go_end0
    exact ⟨rfl, ⟨rfl, rfl, rfl, Nat.le_refl _, fun _ _ _ => rfl⟩, HW.out⟩
  | true =>
    by_cases hk : (kind == 0) = true
    · obtain ⟨t, htk⟩ : ∃ t, toks[i]? = some t := ⟨toks[i], by simp [hi]⟩
      have hc2 : w.cell? ⟨gt, i * 3 + 2, none⟩ = some (.int .i64 t.line) := row _ _ (refCells_get toks i t htk).2.2
      have hp : Hid (lineAt toks i = t.line) := by unfold Hid lineAt; rw [htk]; rfl
      have hlt' : (i : Int) < toks.length := by omega
      have h0 : (0 : Int) ≤ (i : Int) := by omega
      have e1 : Hid (fKind true k kind = k ∧ fLine true kind (lineAt toks i) line = t.line) := by unfold Hid fKind fLine; rw [hk, hp.out]; exact ⟨rfl, rfl⟩
      have hset := fun W o u b' o' h => cell_set W bw o u b' o' h
      clear row htk hp
      go_enter Tryz.func96, Tryz.ntmps96
      go_wp2
      go_region_held3 (fun w' => w'.cell? ⟨bw, 0, none⟩ = some (.pointer (some ⟨bm, 0, none⟩)) ∧ w'.cell? ⟨bw, 1, none⟩ = some (.int .i64 i) ∧ w'.cell? ⟨bm, 0, none⟩ = some (.slice (some ⟨gt, 0, none⟩) toks.length capt) ∧ w'.cell? ⟨gt, i * 3 + 2, none⟩ = some (.int .i64 t.line)) (go_keep) (fail)
      go_wp2
      go_end0
      rw [e1.out.1, e1.out.2]
      exact ⟨rfl, ((grown_set _ _ _ _).trans (grown_set _ _ _ _)).trans (grown_drew' _ _), ((HW.out.setK k).setL _).drew⟩
    · have hk : (kind == 0) = false := by simpa using hk
      have e1 : Hid (fKind true k kind = kind ∧ fLine true kind (lineAt toks i) line = line) := by unfold Hid fKind fLine; rw [hk]; exact ⟨rfl, rfl⟩
      go_enter Tryz.func96, Tryz.ntmps96
      go_wp2
      go_end0
      rw [e1.out.1, e1.out.2]
      exact ⟨rfl, ⟨rfl, rfl, rfl, Nat.le_refl _, fun _ _ _ => rfl⟩, HW.out⟩

set_option maxRecDepth 100000 in
set_option maxHeartbeats 1000000 in
theorem ref_next (toks : List PTok) (i : Nat) (kind line : Int) (bw bm gt capt : Nat) (w : World) (hn : toks.length ≤ 2000) (hi : i < toks.length) (h1 : bm ≠ bw) (h2 : gt ≠ bw) (hW : Wk w bw bm i kind line) (hT : Tk w bm gt capt toks) :
    Calls Tryz.prog 141 #[.pointer (some ⟨bw, 0, none⟩)] w fun e w' => e = .returned (.string (peekS toks i)) ∧ w.grownBy w' (some bw) ∧ Wk w' bw bm ((i + 1 : Nat) : Int) kind line := by
  have HW : Hid (Wk w bw bm i kind line) := hW
  obtain ⟨c0, c1, c2, c3, f1, f2, f3, _⟩ := hW
  obtain ⟨m0, row, _, _⟩ := hT
  obtain ⟨t, htk⟩ : ∃ t, toks[i]? = some t := ⟨toks[i], by simp [hi]⟩
  have hc0 : w.cell? ⟨gt, i * 3, none⟩ = some (.string t.s) := row _ _ (refCells_get toks i t htk).1
  have hp : Hid (peekS toks i = t.s) := by unfold Hid peekS; rw [htk]; rfl
  have hlt' : (i : Int) < toks.length := by omega
  have h0 : (0 : Int) ≤ (i : Int) := by omega
  clear row htk
  go_enter Tryz.func141, Tryz.ntmps141
  go_wp2
  go_quiet (fail)
  go_wp2
  go_ret
  rw [hp.out]
  exact ⟨rfl, (grown_drewN' _ _ _).trans (grown_set _ _ _ _), by rw [show (((i + 1 : Nat) : Int)) = (i : Int) + 1 by omega]; exact (HW.out.drewN _).setI _⟩

/-- the place of the first of these names that is s; -1: none -/
def findName (s : ByteArray) : List ByteArray → Nat → Int
  | [], _ => -1
  | a :: l, k => if a.toList == s.toList then (k : Int) else findName s l (k + 1)

/-- a row of so many elements of 'size' cells whose first cells are these names -/
def NamesAt (w : World) (v : Value) (size : Nat) (names : List ByteArray) : Prop :=
  (names = [] ∧ v = .slice none 0 0) ∨ ∃ g cap, v = .slice (some ⟨g, 0, none⟩) names.length cap ∧ ∀ k a, names[k]? = some a → w.cell? ⟨g, k * size, none⟩ = some (.string a)


set_option maxRecDepth 100000 in
set_option maxHeartbeats 1000000 in
theorem ref_varOf (s : ByteArray) (names : List ByteArray) (vv : Value) (bm : Nat) (w : World) (hl : names.length ≤ 100000) (hm : w.cell? ⟨bm, 1, none⟩ = some vv) (hN : NamesAt w vv 3 names) :
    Calls Tryz.prog 140 #[.pointer (some ⟨bm, 0, none⟩), .string s] w fun e w' => e = .returned (.int .i64 (findName s names 0)) ∧ w' = w := by
  have HN : Hid (NamesAt w vv 3 names) := hN
  clear hN
  go_enter Tryz.func140, Tryz.ntmps140
  go_wp2
  go_loop [5] (fun vi => ∃ k : Nat, k ≤ names.length ∧ vi = .int .i64 k ∧ Hid (findName s (names.drop k) k = findName s names 0)) (fun vi => names.length - (intOf vi).toNat)
  case atStart => exact ⟨0, by omega, rfl, rfl⟩
  case round =>
    obtain ⟨k, hk, rfl, hF⟩ := hrel
    by_cases hlt : k < names.length
    · rcases HN.out with ⟨h, _⟩ | ⟨g, cap, rfl, hrow⟩
      · rw [h] at hlt; simp at hlt
      obtain ⟨a, hka⟩ : ∃ a, names[k]? = some a := ⟨names[k], by simp [hlt]⟩
      have hc := hrow k a hka
      have hd : names.drop k = a :: names.drop (k + 1) := by
        rw [List.drop_eq_getElem_cons hlt]
        simp [hlt] at hka; rw [hka]
      rw [hd] at hF
      have hlt' : (k : Int) < names.length := by omega
      have h0 : (0 : Int) ≤ (k : Int) := by omega
      by_cases he : (a.toList == s.toList) = true
      · have hR : Hid (findName s names 0 = (k : Int)) := by unfold Hid; rw [← hF.out]; simp [findName, he]
        clear hrow hka hd hF
        go_wp2
        go_ret
        exact ⟨ret_int hR.out.symm, rfl⟩
      · have he : (a.toList == s.toList) = false := by simpa using he
        have hR : Hid (findName s (names.drop (k + 1)) (k + 1) = findName s names 0) := by unfold Hid; rw [← hF.out]; simp [findName, he]
        clear hrow hka hd hF
        go_wp2
        go_round
        case rel => exact ⟨k + 1, by omega, by go_num, hR⟩
        case measure => simp [intOf]; omega
    · have hR : Hid (findName s names 0 = -1) := by
        rw [← hF.out, List.drop_eq_nil_of_le (by omega)]; rfl
      have hge : (names.length : Int) ≤ (k : Int) := by omega
      obtain ⟨a0, cap, rfl⟩ : ∃ a cap, vv = Value.slice a names.length cap := by
        rcases HN.out with ⟨h, rfl⟩ | ⟨g, cap, rfl, _⟩
        · exact ⟨_, _, by rw [h]; rfl⟩
        · exact ⟨_, _, rfl⟩
      clear hF hlt
      go_wp2
      go_ret
      exact ⟨ret_int hR.out.symm, rfl⟩

set_option maxRecDepth 100000 in
set_option maxHeartbeats 1000000 in
theorem ref_listOf (s : ByteArray) (names : List ByteArray) (vv : Value) (bm : Nat) (w : World) (hl : names.length ≤ 100000) (hm : w.cell? ⟨bm, 2, none⟩ = some vv) (hN : NamesAt w vv 2 names) :
    Calls Tryz.prog 102 #[.pointer (some ⟨bm, 0, none⟩), .string s] w fun e w' => e = .returned (.int .i64 (findName s names 0)) ∧ w' = w := by
  have HN : Hid (NamesAt w vv 2 names) := hN
  clear hN
  go_enter Tryz.func102, Tryz.ntmps102
  go_wp2
  go_loop [5] (fun vi => ∃ k : Nat, k ≤ names.length ∧ vi = .int .i64 k ∧ Hid (findName s (names.drop k) k = findName s names 0)) (fun vi => names.length - (intOf vi).toNat)
  case atStart => exact ⟨0, by omega, rfl, rfl⟩
  case round =>
    obtain ⟨k, hk, rfl, hF⟩ := hrel
    by_cases hlt : k < names.length
    · rcases HN.out with ⟨h, _⟩ | ⟨g, cap, rfl, hrow⟩
      · rw [h] at hlt; simp at hlt
      obtain ⟨a, hka⟩ : ∃ a, names[k]? = some a := ⟨names[k], by simp [hlt]⟩
      have hc := hrow k a hka
      have hd : names.drop k = a :: names.drop (k + 1) := by
        rw [List.drop_eq_getElem_cons hlt]
        simp [hlt] at hka; rw [hka]
      rw [hd] at hF
      have hlt' : (k : Int) < names.length := by omega
      have h0 : (0 : Int) ≤ (k : Int) := by omega
      by_cases he : (a.toList == s.toList) = true
      · have hR : Hid (findName s names 0 = (k : Int)) := by unfold Hid; rw [← hF.out]; simp [findName, he]
        clear hrow hka hd hF
        go_wp2
        go_ret
        exact ⟨ret_int hR.out.symm, rfl⟩
      · have he : (a.toList == s.toList) = false := by simpa using he
        have hR : Hid (findName s (names.drop (k + 1)) (k + 1) = findName s names 0) := by unfold Hid; rw [← hF.out]; simp [findName, he]
        clear hrow hka hd hF
        go_wp2
        go_round
        case rel => exact ⟨k + 1, by omega, by go_num, hR⟩
        case measure => simp [intOf]; omega
    · have hR : Hid (findName s names 0 = -1) := by
        rw [← hF.out, List.drop_eq_nil_of_le (by omega)]; rfl
      have hge : (names.length : Int) ≤ (k : Int) := by omega
      obtain ⟨a0, cap, rfl⟩ : ∃ a cap, vv = Value.slice a names.length cap := by
        rcases HN.out with ⟨h, rfl⟩ | ⟨g, cap, rfl, _⟩
        · exact ⟨_, _, by rw [h]; rfl⟩
        · exact ⟨_, _, rfl⟩
      clear hF hlt
      go_wp2
      go_ret
      exact ⟨ret_int hR.out.symm, rfl⟩
end Go.Proofs.YthpcbbnabnlanaaGreatDoor
