import Derived.Test.YthpcbbnabnlanaaGreatDoorM04
/-
  Boxes of eight, nine and sixteen cells: what is known of them behind a call, and when all of them are set.
-/
namespace Go.Proofs.YthpcbbnabnlanaaGreatDoor
open Go.RowKit
set_option linter.unusedVariables false
theorem set_at {w : World} {b : Nat} {cs cs' : Array Value} {t : TypeId} (h : w.heap[b]? = some (.cells cs t (0, 0))) (i : Nat) (v : Value) (e : cs.setIfInBounds i v = cs') : (w.setCell ⟨b, i, none⟩ v).heap[b]? = some (.cells cs' t (0, 0)) := by
  rw [← e]; exact heap_setCell_same w b i cs t v h

theorem box8 {W w' : World} {b : Nat} {t : TypeId} {row : Option Nat} {a0 a1 a2 a3 a4 a5 a6 a7 : Value} (hB : W.heap[b]? = some (.cells #[a0, a1, a2, a3, a4, a5, a6, a7] t (0, 0))) (hb : b < W.heap.size) (hg : W.grownBy w' row) (hne : row ≠ some b) :
    w'.heap[b]? = some (.cells #[a0, a1, a2, a3, a4, a5, a6, a7] t (0, 0)) ∧ w'.cell? ⟨b, 0, none⟩ = some a0 ∧ w'.cell? ⟨b, 1, none⟩ = some a1 ∧ w'.cell? ⟨b, 2, none⟩ = some a2 ∧ w'.cell? ⟨b, 3, none⟩ = some a3 ∧ w'.cell? ⟨b, 4, none⟩ = some a4 ∧ w'.cell? ⟨b, 5, none⟩ = some a5 ∧ w'.cell? ⟨b, 6, none⟩ = some a6 ∧ w'.cell? ⟨b, 7, none⟩ = some a7 ∧
      w'.frozen? ⟨b, 0, none⟩ = false ∧ w'.frozen? ⟨b, 1, none⟩ = false ∧ w'.frozen? ⟨b, 2, none⟩ = false ∧ w'.frozen? ⟨b, 3, none⟩ = false ∧ w'.frozen? ⟨b, 4, none⟩ = false ∧ w'.frozen? ⟨b, 5, none⟩ = false ∧ w'.frozen? ⟨b, 6, none⟩ = false ∧ w'.frozen? ⟨b, 7, none⟩ = false := by
  have h := (hg.block b hb (fun e => hne e.symm)).trans hB
  exact ⟨h, cell_of h 0 _ rfl, cell_of h 1 _ rfl, cell_of h 2 _ rfl, cell_of h 3 _ rfl, cell_of h 4 _ rfl, cell_of h 5 _ rfl, cell_of h 6 _ rfl, cell_of h 7 _ rfl, frozen_of h 0, frozen_of h 1, frozen_of h 2, frozen_of h 3, frozen_of h 4, frozen_of h 5, frozen_of h 6, frozen_of h 7⟩
theorem set8 {w : World} {b : Nat} {t : TypeId} {a0 a1 a2 a3 a4 a5 a6 a7 : Value} (h : w.heap[b]? = some (.cells #[a0, a1, a2, a3, a4, a5, a6, a7] t (0, 0))) (v0 v1 v2 v3 v4 v5 v6 v7 : Value) :
    ((((((((w.setCell ⟨b, 0, none⟩ v0).setCell ⟨b, 1, none⟩ v1).setCell ⟨b, 2, none⟩ v2).setCell ⟨b, 3, none⟩ v3).setCell ⟨b, 4, none⟩ v4).setCell ⟨b, 5, none⟩ v5).setCell ⟨b, 6, none⟩ v6).setCell ⟨b, 7, none⟩ v7).heap[b]? = some (.cells #[v0, v1, v2, v3, v4, v5, v6, v7] t (0, 0)) := by
  have h1 := set_at h 0 v0 (cs' := #[v0, a1, a2, a3, a4, a5, a6, a7]) rfl
  have h2 := set_at h1 1 v1 (cs' := #[v0, v1, a2, a3, a4, a5, a6, a7]) rfl
  have h3 := set_at h2 2 v2 (cs' := #[v0, v1, v2, a3, a4, a5, a6, a7]) rfl
  have h4 := set_at h3 3 v3 (cs' := #[v0, v1, v2, v3, a4, a5, a6, a7]) rfl
  have h5 := set_at h4 4 v4 (cs' := #[v0, v1, v2, v3, v4, a5, a6, a7]) rfl
  have h6 := set_at h5 5 v5 (cs' := #[v0, v1, v2, v3, v4, v5, a6, a7]) rfl
  have h7 := set_at h6 6 v6 (cs' := #[v0, v1, v2, v3, v4, v5, v6, a7]) rfl
  have h8 := set_at h7 7 v7 (cs' := #[v0, v1, v2, v3, v4, v5, v6, v7]) rfl
  exact h8
theorem set8_grown (w : World) (b : Nat) (v0 v1 v2 v3 v4 v5 v6 v7 : Value) : w.grownBy ((((((((w.setCell ⟨b, 0, none⟩ v0).setCell ⟨b, 1, none⟩ v1).setCell ⟨b, 2, none⟩ v2).setCell ⟨b, 3, none⟩ v3).setCell ⟨b, 4, none⟩ v4).setCell ⟨b, 5, none⟩ v5).setCell ⟨b, 6, none⟩ v6).setCell ⟨b, 7, none⟩ v7) (some b) :=
  (((((((grown_set w b 0 v0).trans (grown_set _ b 1 v1)).trans (grown_set _ b 2 v2)).trans (grown_set _ b 3 v3)).trans (grown_set _ b 4 v4)).trans (grown_set _ b 5 v5)).trans (grown_set _ b 6 v6)).trans (grown_set _ b 7 v7)
theorem box9 {W w' : World} {b : Nat} {t : TypeId} {row : Option Nat} {a0 a1 a2 a3 a4 a5 a6 a7 a8 : Value} (hB : W.heap[b]? = some (.cells #[a0, a1, a2, a3, a4, a5, a6, a7, a8] t (0, 0))) (hb : b < W.heap.size) (hg : W.grownBy w' row) (hne : row ≠ some b) :
    w'.heap[b]? = some (.cells #[a0, a1, a2, a3, a4, a5, a6, a7, a8] t (0, 0)) ∧ w'.cell? ⟨b, 0, none⟩ = some a0 ∧ w'.cell? ⟨b, 1, none⟩ = some a1 ∧ w'.cell? ⟨b, 2, none⟩ = some a2 ∧ w'.cell? ⟨b, 3, none⟩ = some a3 ∧ w'.cell? ⟨b, 4, none⟩ = some a4 ∧ w'.cell? ⟨b, 5, none⟩ = some a5 ∧ w'.cell? ⟨b, 6, none⟩ = some a6 ∧ w'.cell? ⟨b, 7, none⟩ = some a7 ∧ w'.cell? ⟨b, 8, none⟩ = some a8 ∧
      w'.frozen? ⟨b, 0, none⟩ = false ∧ w'.frozen? ⟨b, 1, none⟩ = false ∧ w'.frozen? ⟨b, 2, none⟩ = false ∧ w'.frozen? ⟨b, 3, none⟩ = false ∧ w'.frozen? ⟨b, 4, none⟩ = false ∧ w'.frozen? ⟨b, 5, none⟩ = false ∧ w'.frozen? ⟨b, 6, none⟩ = false ∧ w'.frozen? ⟨b, 7, none⟩ = false ∧ w'.frozen? ⟨b, 8, none⟩ = false := by
  have h := (hg.block b hb (fun e => hne e.symm)).trans hB
  exact ⟨h, cell_of h 0 _ rfl, cell_of h 1 _ rfl, cell_of h 2 _ rfl, cell_of h 3 _ rfl, cell_of h 4 _ rfl, cell_of h 5 _ rfl, cell_of h 6 _ rfl, cell_of h 7 _ rfl, cell_of h 8 _ rfl, frozen_of h 0, frozen_of h 1, frozen_of h 2, frozen_of h 3, frozen_of h 4, frozen_of h 5, frozen_of h 6, frozen_of h 7, frozen_of h 8⟩
theorem set9 {w : World} {b : Nat} {t : TypeId} {a0 a1 a2 a3 a4 a5 a6 a7 a8 : Value} (h : w.heap[b]? = some (.cells #[a0, a1, a2, a3, a4, a5, a6, a7, a8] t (0, 0))) (v0 v1 v2 v3 v4 v5 v6 v7 v8 : Value) :
    (((((((((w.setCell ⟨b, 0, none⟩ v0).setCell ⟨b, 1, none⟩ v1).setCell ⟨b, 2, none⟩ v2).setCell ⟨b, 3, none⟩ v3).setCell ⟨b, 4, none⟩ v4).setCell ⟨b, 5, none⟩ v5).setCell ⟨b, 6, none⟩ v6).setCell ⟨b, 7, none⟩ v7).setCell ⟨b, 8, none⟩ v8).heap[b]? = some (.cells #[v0, v1, v2, v3, v4, v5, v6, v7, v8] t (0, 0)) := by
  have h1 := set_at h 0 v0 (cs' := #[v0, a1, a2, a3, a4, a5, a6, a7, a8]) rfl
  have h2 := set_at h1 1 v1 (cs' := #[v0, v1, a2, a3, a4, a5, a6, a7, a8]) rfl
  have h3 := set_at h2 2 v2 (cs' := #[v0, v1, v2, a3, a4, a5, a6, a7, a8]) rfl
  have h4 := set_at h3 3 v3 (cs' := #[v0, v1, v2, v3, a4, a5, a6, a7, a8]) rfl
  have h5 := set_at h4 4 v4 (cs' := #[v0, v1, v2, v3, v4, a5, a6, a7, a8]) rfl
  have h6 := set_at h5 5 v5 (cs' := #[v0, v1, v2, v3, v4, v5, a6, a7, a8]) rfl
  have h7 := set_at h6 6 v6 (cs' := #[v0, v1, v2, v3, v4, v5, v6, a7, a8]) rfl
  have h8 := set_at h7 7 v7 (cs' := #[v0, v1, v2, v3, v4, v5, v6, v7, a8]) rfl
  have h9 := set_at h8 8 v8 (cs' := #[v0, v1, v2, v3, v4, v5, v6, v7, v8]) rfl
  exact h9
theorem set9_grown (w : World) (b : Nat) (v0 v1 v2 v3 v4 v5 v6 v7 v8 : Value) : w.grownBy (((((((((w.setCell ⟨b, 0, none⟩ v0).setCell ⟨b, 1, none⟩ v1).setCell ⟨b, 2, none⟩ v2).setCell ⟨b, 3, none⟩ v3).setCell ⟨b, 4, none⟩ v4).setCell ⟨b, 5, none⟩ v5).setCell ⟨b, 6, none⟩ v6).setCell ⟨b, 7, none⟩ v7).setCell ⟨b, 8, none⟩ v8) (some b) :=
  ((((((((grown_set w b 0 v0).trans (grown_set _ b 1 v1)).trans (grown_set _ b 2 v2)).trans (grown_set _ b 3 v3)).trans (grown_set _ b 4 v4)).trans (grown_set _ b 5 v5)).trans (grown_set _ b 6 v6)).trans (grown_set _ b 7 v7)).trans (grown_set _ b 8 v8)
theorem box16 {W w' : World} {b : Nat} {t : TypeId} {row : Option Nat} {a0 a1 a2 a3 a4 a5 a6 a7 a8 a9 a10 a11 a12 a13 a14 a15 : Value} (hB : W.heap[b]? = some (.cells #[a0, a1, a2, a3, a4, a5, a6, a7, a8, a9, a10, a11, a12, a13, a14, a15] t (0, 0))) (hb : b < W.heap.size) (hg : W.grownBy w' row) (hne : row ≠ some b) :
    w'.heap[b]? = some (.cells #[a0, a1, a2, a3, a4, a5, a6, a7, a8, a9, a10, a11, a12, a13, a14, a15] t (0, 0)) ∧ w'.cell? ⟨b, 0, none⟩ = some a0 ∧ w'.cell? ⟨b, 1, none⟩ = some a1 ∧ w'.cell? ⟨b, 2, none⟩ = some a2 ∧ w'.cell? ⟨b, 3, none⟩ = some a3 ∧ w'.cell? ⟨b, 4, none⟩ = some a4 ∧ w'.cell? ⟨b, 5, none⟩ = some a5 ∧ w'.cell? ⟨b, 6, none⟩ = some a6 ∧ w'.cell? ⟨b, 7, none⟩ = some a7 ∧ w'.cell? ⟨b, 8, none⟩ = some a8 ∧ w'.cell? ⟨b, 9, none⟩ = some a9 ∧ w'.cell? ⟨b, 10, none⟩ = some a10 ∧ w'.cell? ⟨b, 11, none⟩ = some a11 ∧ w'.cell? ⟨b, 12, none⟩ = some a12 ∧ w'.cell? ⟨b, 13, none⟩ = some a13 ∧ w'.cell? ⟨b, 14, none⟩ = some a14 ∧ w'.cell? ⟨b, 15, none⟩ = some a15 ∧
      w'.frozen? ⟨b, 0, none⟩ = false ∧ w'.frozen? ⟨b, 1, none⟩ = false ∧ w'.frozen? ⟨b, 2, none⟩ = false ∧ w'.frozen? ⟨b, 3, none⟩ = false ∧ w'.frozen? ⟨b, 4, none⟩ = false ∧ w'.frozen? ⟨b, 5, none⟩ = false ∧ w'.frozen? ⟨b, 6, none⟩ = false ∧ w'.frozen? ⟨b, 7, none⟩ = false ∧ w'.frozen? ⟨b, 8, none⟩ = false ∧ w'.frozen? ⟨b, 9, none⟩ = false ∧ w'.frozen? ⟨b, 10, none⟩ = false ∧ w'.frozen? ⟨b, 11, none⟩ = false ∧ w'.frozen? ⟨b, 12, none⟩ = false ∧ w'.frozen? ⟨b, 13, none⟩ = false ∧ w'.frozen? ⟨b, 14, none⟩ = false ∧ w'.frozen? ⟨b, 15, none⟩ = false := by
  have h := (hg.block b hb (fun e => hne e.symm)).trans hB
  exact ⟨h, cell_of h 0 _ rfl, cell_of h 1 _ rfl, cell_of h 2 _ rfl, cell_of h 3 _ rfl, cell_of h 4 _ rfl, cell_of h 5 _ rfl, cell_of h 6 _ rfl, cell_of h 7 _ rfl, cell_of h 8 _ rfl, cell_of h 9 _ rfl, cell_of h 10 _ rfl, cell_of h 11 _ rfl, cell_of h 12 _ rfl, cell_of h 13 _ rfl, cell_of h 14 _ rfl, cell_of h 15 _ rfl, frozen_of h 0, frozen_of h 1, frozen_of h 2, frozen_of h 3, frozen_of h 4, frozen_of h 5, frozen_of h 6, frozen_of h 7, frozen_of h 8, frozen_of h 9, frozen_of h 10, frozen_of h 11, frozen_of h 12, frozen_of h 13, frozen_of h 14, frozen_of h 15⟩
theorem set16 {w : World} {b : Nat} {t : TypeId} {a0 a1 a2 a3 a4 a5 a6 a7 a8 a9 a10 a11 a12 a13 a14 a15 : Value} (h : w.heap[b]? = some (.cells #[a0, a1, a2, a3, a4, a5, a6, a7, a8, a9, a10, a11, a12, a13, a14, a15] t (0, 0))) (v0 v1 v2 v3 v4 v5 v6 v7 v8 v9 v10 v11 v12 v13 v14 v15 : Value) :
    ((((((((((((((((w.setCell ⟨b, 0, none⟩ v0).setCell ⟨b, 1, none⟩ v1).setCell ⟨b, 2, none⟩ v2).setCell ⟨b, 3, none⟩ v3).setCell ⟨b, 4, none⟩ v4).setCell ⟨b, 5, none⟩ v5).setCell ⟨b, 6, none⟩ v6).setCell ⟨b, 7, none⟩ v7).setCell ⟨b, 8, none⟩ v8).setCell ⟨b, 9, none⟩ v9).setCell ⟨b, 10, none⟩ v10).setCell ⟨b, 11, none⟩ v11).setCell ⟨b, 12, none⟩ v12).setCell ⟨b, 13, none⟩ v13).setCell ⟨b, 14, none⟩ v14).setCell ⟨b, 15, none⟩ v15).heap[b]? = some (.cells #[v0, v1, v2, v3, v4, v5, v6, v7, v8, v9, v10, v11, v12, v13, v14, v15] t (0, 0)) := by
  have h1 := set_at h 0 v0 (cs' := #[v0, a1, a2, a3, a4, a5, a6, a7, a8, a9, a10, a11, a12, a13, a14, a15]) rfl
  have h2 := set_at h1 1 v1 (cs' := #[v0, v1, a2, a3, a4, a5, a6, a7, a8, a9, a10, a11, a12, a13, a14, a15]) rfl
  have h3 := set_at h2 2 v2 (cs' := #[v0, v1, v2, a3, a4, a5, a6, a7, a8, a9, a10, a11, a12, a13, a14, a15]) rfl
  have h4 := set_at h3 3 v3 (cs' := #[v0, v1, v2, v3, a4, a5, a6, a7, a8, a9, a10, a11, a12, a13, a14, a15]) rfl
  have h5 := set_at h4 4 v4 (cs' := #[v0, v1, v2, v3, v4, a5, a6, a7, a8, a9, a10, a11, a12, a13, a14, a15]) rfl
  have h6 := set_at h5 5 v5 (cs' := #[v0, v1, v2, v3, v4, v5, a6, a7, a8, a9, a10, a11, a12, a13, a14, a15]) rfl
  have h7 := set_at h6 6 v6 (cs' := #[v0, v1, v2, v3, v4, v5, v6, a7, a8, a9, a10, a11, a12, a13, a14, a15]) rfl
  have h8 := set_at h7 7 v7 (cs' := #[v0, v1, v2, v3, v4, v5, v6, v7, a8, a9, a10, a11, a12, a13, a14, a15]) rfl
  have h9 := set_at h8 8 v8 (cs' := #[v0, v1, v2, v3, v4, v5, v6, v7, v8, a9, a10, a11, a12, a13, a14, a15]) rfl
  have h10 := set_at h9 9 v9 (cs' := #[v0, v1, v2, v3, v4, v5, v6, v7, v8, v9, a10, a11, a12, a13, a14, a15]) rfl
  have h11 := set_at h10 10 v10 (cs' := #[v0, v1, v2, v3, v4, v5, v6, v7, v8, v9, v10, a11, a12, a13, a14, a15]) rfl
  have h12 := set_at h11 11 v11 (cs' := #[v0, v1, v2, v3, v4, v5, v6, v7, v8, v9, v10, v11, a12, a13, a14, a15]) rfl
  have h13 := set_at h12 12 v12 (cs' := #[v0, v1, v2, v3, v4, v5, v6, v7, v8, v9, v10, v11, v12, a13, a14, a15]) rfl
  have h14 := set_at h13 13 v13 (cs' := #[v0, v1, v2, v3, v4, v5, v6, v7, v8, v9, v10, v11, v12, v13, a14, a15]) rfl
  have h15 := set_at h14 14 v14 (cs' := #[v0, v1, v2, v3, v4, v5, v6, v7, v8, v9, v10, v11, v12, v13, v14, a15]) rfl
  have h16 := set_at h15 15 v15 (cs' := #[v0, v1, v2, v3, v4, v5, v6, v7, v8, v9, v10, v11, v12, v13, v14, v15]) rfl
  exact h16
theorem set16_grown (w : World) (b : Nat) (v0 v1 v2 v3 v4 v5 v6 v7 v8 v9 v10 v11 v12 v13 v14 v15 : Value) : w.grownBy ((((((((((((((((w.setCell ⟨b, 0, none⟩ v0).setCell ⟨b, 1, none⟩ v1).setCell ⟨b, 2, none⟩ v2).setCell ⟨b, 3, none⟩ v3).setCell ⟨b, 4, none⟩ v4).setCell ⟨b, 5, none⟩ v5).setCell ⟨b, 6, none⟩ v6).setCell ⟨b, 7, none⟩ v7).setCell ⟨b, 8, none⟩ v8).setCell ⟨b, 9, none⟩ v9).setCell ⟨b, 10, none⟩ v10).setCell ⟨b, 11, none⟩ v11).setCell ⟨b, 12, none⟩ v12).setCell ⟨b, 13, none⟩ v13).setCell ⟨b, 14, none⟩ v14).setCell ⟨b, 15, none⟩ v15) (some b) :=
  (((((((((((((((grown_set w b 0 v0).trans (grown_set _ b 1 v1)).trans (grown_set _ b 2 v2)).trans (grown_set _ b 3 v3)).trans (grown_set _ b 4 v4)).trans (grown_set _ b 5 v5)).trans (grown_set _ b 6 v6)).trans (grown_set _ b 7 v7)).trans (grown_set _ b 8 v8)).trans (grown_set _ b 9 v9)).trans (grown_set _ b 10 v10)).trans (grown_set _ b 11 v11)).trans (grown_set _ b 12 v12)).trans (grown_set _ b 13 v13)).trans (grown_set _ b 14 v14)).trans (grown_set _ b 15 v15)
theorem cells4 {w' : World} {b : Nat} {t : TypeId} {a0 a1 a2 a3 : Value} (h : w'.heap[b]? = some (.cells #[a0, a1, a2, a3] t (0, 0))) :
    w'.cell? ⟨b, 0, none⟩ = some a0 ∧ w'.cell? ⟨b, 1, none⟩ = some a1 ∧ w'.cell? ⟨b, 2, none⟩ = some a2 ∧ w'.cell? ⟨b, 3, none⟩ = some a3 ∧
      w'.frozen? ⟨b, 0, none⟩ = false ∧ w'.frozen? ⟨b, 1, none⟩ = false ∧ w'.frozen? ⟨b, 2, none⟩ = false ∧ w'.frozen? ⟨b, 3, none⟩ = false :=
  ⟨cell_of h 0 _ rfl, cell_of h 1 _ rfl, cell_of h 2 _ rfl, cell_of h 3 _ rfl, frozen_of h 0, frozen_of h 1, frozen_of h 2, frozen_of h 3⟩
theorem cells8 {w' : World} {b : Nat} {t : TypeId} {a0 a1 a2 a3 a4 a5 a6 a7 : Value} (h : w'.heap[b]? = some (.cells #[a0, a1, a2, a3, a4, a5, a6, a7] t (0, 0))) :
    w'.cell? ⟨b, 0, none⟩ = some a0 ∧ w'.cell? ⟨b, 1, none⟩ = some a1 ∧ w'.cell? ⟨b, 2, none⟩ = some a2 ∧ w'.cell? ⟨b, 3, none⟩ = some a3 ∧ w'.cell? ⟨b, 4, none⟩ = some a4 ∧ w'.cell? ⟨b, 5, none⟩ = some a5 ∧ w'.cell? ⟨b, 6, none⟩ = some a6 ∧ w'.cell? ⟨b, 7, none⟩ = some a7 ∧
      w'.frozen? ⟨b, 0, none⟩ = false ∧ w'.frozen? ⟨b, 1, none⟩ = false ∧ w'.frozen? ⟨b, 2, none⟩ = false ∧ w'.frozen? ⟨b, 3, none⟩ = false ∧ w'.frozen? ⟨b, 4, none⟩ = false ∧ w'.frozen? ⟨b, 5, none⟩ = false ∧ w'.frozen? ⟨b, 6, none⟩ = false ∧ w'.frozen? ⟨b, 7, none⟩ = false :=
  ⟨cell_of h 0 _ rfl, cell_of h 1 _ rfl, cell_of h 2 _ rfl, cell_of h 3 _ rfl, cell_of h 4 _ rfl, cell_of h 5 _ rfl, cell_of h 6 _ rfl, cell_of h 7 _ rfl, frozen_of h 0, frozen_of h 1, frozen_of h 2, frozen_of h 3, frozen_of h 4, frozen_of h 5, frozen_of h 6, frozen_of h 7⟩
theorem cells9 {w' : World} {b : Nat} {t : TypeId} {a0 a1 a2 a3 a4 a5 a6 a7 a8 : Value} (h : w'.heap[b]? = some (.cells #[a0, a1, a2, a3, a4, a5, a6, a7, a8] t (0, 0))) :
    w'.cell? ⟨b, 0, none⟩ = some a0 ∧ w'.cell? ⟨b, 1, none⟩ = some a1 ∧ w'.cell? ⟨b, 2, none⟩ = some a2 ∧ w'.cell? ⟨b, 3, none⟩ = some a3 ∧ w'.cell? ⟨b, 4, none⟩ = some a4 ∧ w'.cell? ⟨b, 5, none⟩ = some a5 ∧ w'.cell? ⟨b, 6, none⟩ = some a6 ∧ w'.cell? ⟨b, 7, none⟩ = some a7 ∧ w'.cell? ⟨b, 8, none⟩ = some a8 ∧
      w'.frozen? ⟨b, 0, none⟩ = false ∧ w'.frozen? ⟨b, 1, none⟩ = false ∧ w'.frozen? ⟨b, 2, none⟩ = false ∧ w'.frozen? ⟨b, 3, none⟩ = false ∧ w'.frozen? ⟨b, 4, none⟩ = false ∧ w'.frozen? ⟨b, 5, none⟩ = false ∧ w'.frozen? ⟨b, 6, none⟩ = false ∧ w'.frozen? ⟨b, 7, none⟩ = false ∧ w'.frozen? ⟨b, 8, none⟩ = false :=
  ⟨cell_of h 0 _ rfl, cell_of h 1 _ rfl, cell_of h 2 _ rfl, cell_of h 3 _ rfl, cell_of h 4 _ rfl, cell_of h 5 _ rfl, cell_of h 6 _ rfl, cell_of h 7 _ rfl, cell_of h 8 _ rfl, frozen_of h 0, frozen_of h 1, frozen_of h 2, frozen_of h 3, frozen_of h 4, frozen_of h 5, frozen_of h 6, frozen_of h 7, frozen_of h 8⟩
theorem cells16 {w' : World} {b : Nat} {t : TypeId} {a0 a1 a2 a3 a4 a5 a6 a7 a8 a9 a10 a11 a12 a13 a14 a15 : Value} (h : w'.heap[b]? = some (.cells #[a0, a1, a2, a3, a4, a5, a6, a7, a8, a9, a10, a11, a12, a13, a14, a15] t (0, 0))) :
    w'.cell? ⟨b, 0, none⟩ = some a0 ∧ w'.cell? ⟨b, 1, none⟩ = some a1 ∧ w'.cell? ⟨b, 2, none⟩ = some a2 ∧ w'.cell? ⟨b, 3, none⟩ = some a3 ∧ w'.cell? ⟨b, 4, none⟩ = some a4 ∧ w'.cell? ⟨b, 5, none⟩ = some a5 ∧ w'.cell? ⟨b, 6, none⟩ = some a6 ∧ w'.cell? ⟨b, 7, none⟩ = some a7 ∧ w'.cell? ⟨b, 8, none⟩ = some a8 ∧ w'.cell? ⟨b, 9, none⟩ = some a9 ∧ w'.cell? ⟨b, 10, none⟩ = some a10 ∧ w'.cell? ⟨b, 11, none⟩ = some a11 ∧ w'.cell? ⟨b, 12, none⟩ = some a12 ∧ w'.cell? ⟨b, 13, none⟩ = some a13 ∧ w'.cell? ⟨b, 14, none⟩ = some a14 ∧ w'.cell? ⟨b, 15, none⟩ = some a15 ∧
      w'.frozen? ⟨b, 0, none⟩ = false ∧ w'.frozen? ⟨b, 1, none⟩ = false ∧ w'.frozen? ⟨b, 2, none⟩ = false ∧ w'.frozen? ⟨b, 3, none⟩ = false ∧ w'.frozen? ⟨b, 4, none⟩ = false ∧ w'.frozen? ⟨b, 5, none⟩ = false ∧ w'.frozen? ⟨b, 6, none⟩ = false ∧ w'.frozen? ⟨b, 7, none⟩ = false ∧ w'.frozen? ⟨b, 8, none⟩ = false ∧ w'.frozen? ⟨b, 9, none⟩ = false ∧ w'.frozen? ⟨b, 10, none⟩ = false ∧ w'.frozen? ⟨b, 11, none⟩ = false ∧ w'.frozen? ⟨b, 12, none⟩ = false ∧ w'.frozen? ⟨b, 13, none⟩ = false ∧ w'.frozen? ⟨b, 14, none⟩ = false ∧ w'.frozen? ⟨b, 15, none⟩ = false :=
  ⟨cell_of h 0 _ rfl, cell_of h 1 _ rfl, cell_of h 2 _ rfl, cell_of h 3 _ rfl, cell_of h 4 _ rfl, cell_of h 5 _ rfl, cell_of h 6 _ rfl, cell_of h 7 _ rfl, cell_of h 8 _ rfl, cell_of h 9 _ rfl, cell_of h 10 _ rfl, cell_of h 11 _ rfl, cell_of h 12 _ rfl, cell_of h 13 _ rfl, cell_of h 14 _ rfl, cell_of h 15 _ rfl, frozen_of h 0, frozen_of h 1, frozen_of h 2, frozen_of h 3, frozen_of h 4, frozen_of h 5, frozen_of h 6, frozen_of h 7, frozen_of h 8, frozen_of h 9, frozen_of h 10, frozen_of h 11, frozen_of h 12, frozen_of h 13, frozen_of h 14, frozen_of h 15⟩
theorem grown_refl (w : World) (r : Option Nat) : w.grownBy w r := ⟨rfl, rfl, rfl, Nat.le_refl _, fun _ _ _ => rfl⟩
/-- a block behind two new ones and a call -/
theorem past2 {w w' : World} {o o' : Obj} {b : Nat} {row : Option Nat} {X : Option Obj} (h : w.heap[b]? = X) (hb : b < w.heap.size) (hg : ((w.alloc o).alloc o').grownBy w' row) (hne : row ≠ some b) : w'.heap[b]? = X :=
  (hg.block b (by simp; omega) (fun e => hne e.symm)).trans (((heap_alloc_old _ _ (by simp; omega)).trans (heap_alloc_old _ _ hb)).trans h)
theorem past1 {w w' : World} {o : Obj} {b : Nat} {row : Option Nat} {X : Option Obj} (h : w.heap[b]? = X) (hb : b < w.heap.size) (hg : (w.alloc o).grownBy w' row) (hne : row ≠ some b) : w'.heap[b]? = X :=
  (hg.block b (by simp; omega) (fun e => hne e.symm)).trans ((heap_alloc_old _ _ hb).trans h)
theorem past0 {w w' : World} {b : Nat} {row : Option Nat} {X : Option Obj} (h : w.heap[b]? = X) (hb : b < w.heap.size) (hg : w.grownBy w' row) (hne : row ≠ some b) : w'.heap[b]? = X :=
  (hg.block b hb (fun e => hne e.symm)).trans h
end Go.Proofs.YthpcbbnabnlanaaGreatDoor

/-
  The program's parser: its term.
-/
namespace Go.Proofs.YthpcbbnabnlanaaGreatDoor
open Go.RowKit
set_option linter.unusedVariables false
variable {w w' : World} {bp gt capt : Nat} {toks : List PTok} {st : PSt}

def gtermV (g : GTerm) : Value := .agg #[.bool g.neg, .int .i64 (srt g.first), .string g.first.s, .int .i64 (tval g.first), .int .i64 g.first.line, .int .i64 (srt g.name), .string g.name.s, .int .i64 (tval g.name), .int .i64 g.name.line]

set_option maxRecDepth 100000 in
set_option maxHeartbeats 2000000 in
theorem gr_term (h : Ps w bp gt capt toks st) (hE : EndOk toks) (hi : st.1 < toks.length) (neg : Bool) :
    Calls Tryz.prog 147 #[.pointer (some ⟨bp, 0, none⟩), .bool neg] w fun e w' => e = .returned (gtermV (pTerm toks neg st).1) ∧ w.grownBy w' (some bp) ∧ Ps w' bp gt capt toks (pTerm toks neg st).2 := by
  have HP : Hid (Ps w bp gt capt toks st) := h
  have hlt := h.lt
  obtain ⟨T, hT⟩ : ∃ T, T = tkN toks st.1 := ⟨_, rfl⟩
  have HT : Hid (T = tkN toks st.1) := hT
  by_cases h3 : srt T = 3
  · have c3' : (srt T != 3) = false := by simpa using h3
    have HR : Hid (pTerm toks neg st = (⟨neg, T, tkN toks (pTake toks [21] (pTake toks [3, 2] st)).1⟩, pTake toks [2] (pTake toks [21] (pTake toks [3, 2] st)))) := by rw [Hid, hT]; unfold pTerm; rw [← hT, if_pos h3]
    have hi1 := pTake_lt hE (sorts := [3, 2]) rfl hi
    have hi2 := pTake_lt hE (sorts := [21]) rfl hi1
    rw [HR.out]
    clear h hT HR h3
    obtain ⟨U, hU⟩ : ∃ U, U = tkN toks (pTake toks [21] (pTake toks [3, 2] st)).1 := ⟨_, rfl⟩
    have HU : Hid (U = tkN toks (pTake toks [21] (pTake toks [3, 2] st)).1) := hU
    rw [← hU]
    clear hU
    go_enter Tryz.func147, Tryz.ntmps147
    go_wp2_with (first | (go_at_call 69; refine (gr_take ((hP1.alloc _).alloc _) hE.len hi1 [21] (w1.heap.size + 1) 1 (by decide) (row_new [21] (heap_alloc2_new w1 _ _)) (by simp)).mono ?_; unfold tkV; rintro e w2 ⟨rfl, hg2, hP2⟩; clear c0 c1 c2 c3 c4 c5 c6 c7 c8 f0 f1 f2 f3 f4 f5 f6 f7 f8; have hlt1 := hP1.lt; have hs3 : w1.heap.size < w2.heap.size := (by have := hg2.size; simp at this; omega); have hB2 := past2 hB hs1 hg2 (by simp; omega); have hC2 := past0 (heap_alloc2_old w1 _ _) (by simp; omega) hg2 (by simp; omega); obtain ⟨d0, d1, d2, d3, _, _, _, _⟩ := cells4 hC2) | (go_at_call 69; refine (gr_take ((HP.out.alloc _).alloc _) hE.len hi [3, 2] (w.heap.size + 1) 2 (by decide) (row_new [3, 2] (heap_alloc2_new w _ _)) (by simp)).mono ?_; rw [← HT.out]; unfold tkV; rintro e w1 ⟨rfl, hg1, hP1⟩; obtain ⟨hB, c0, c1, c2, c3, c4, c5, c6, c7, c8, f0, f1, f2, f3, f4, f5, f6, f7, f8⟩ := box9 (heap_alloc2_old w _ _) (by simp; omega) hg1 (by simp; omega); have hs1 : w.heap.size < w1.heap.size := by have := hg1.size; simp at this; omega))
    have hs2 : w.heap.size < w2.heap.size := by omega
    have hlt2 := hP2.lt
    go_region_law (go_simp; go_at_call 114; refine (gr_name hP2.drew hE.len hi2).mono ?_; rw [← HU.out]; unfold tkV; rintro e w3 ⟨rfl, hg3, hP3⟩; have hB3 := past0 (w := w2.drew) hB2 hs2 hg3 (by simp; omega); have hC3 := past0 (w := w2.drew) hC2 hs3 hg3 (by simp; omega); clear d0 d1 d2 d3; obtain ⟨d0, d1, d2, d3, _, _, _, _⟩ := cells4 hC3; obtain ⟨c0, c1, c2, c3, c4, c5, c6, c7, c8, f0, f1, f2, f3, f4, f5, f6, f7, f8⟩ := cells9 hB3)
    all_goals go_wp2
    all_goals refine bodyPost_ret (results_cell_row rfl _ _ w.heap.size 219 _ _ _ rfl (set9 hB3 _ _ _ _ _ _ _ _ _) Tryz.underlying219 rfl (by kernel_rfl)) rfl ?_
    all_goals have hg9 := set9_grown w3 w.heap.size (.bool neg) (.int .i64 (srt T)) (.string T.s) (.int .i64 (tval T)) (.int .i64 T.line) (.int .i64 (srt U)) (.string U.s) (.int .i64 (tval U)) (.int .i64 U.line)
    all_goals exact ⟨rfl, grown_newr (((((((World.grownBy_alloc w _ _).trans (World.grownBy_alloc _ _ _)).trans hg1).trans (World.grownBy_alloc _ _ _)).trans (World.grownBy_alloc _ _ _)).trans hg2).trans (grown_drew' _ _) |>.trans hg3) (Nat.le_refl _) hg9, HP.out.keptN hP3 (Nat.le_refl _) hg9⟩
  · have c3' : (srt T != 3) = true := by simpa using h3
    have HR : Hid (pTerm toks neg st = (⟨neg, T, T⟩, pTake toks [3, 2] st)) := by rw [Hid, hT]; unfold pTerm; rw [← hT, if_neg h3]
    rw [HR.out]
    clear h hT HR h3
    go_enter Tryz.func147, Tryz.ntmps147
    go_wp2_with (go_at_call 69; refine (gr_take ((HP.out.alloc _).alloc _) hE.len hi [3, 2] (w.heap.size + 1) 2 (by decide) (row_new [3, 2] (heap_alloc2_new w _ _)) (by simp)).mono ?_; rw [← HT.out]; unfold tkV; rintro e w1 ⟨rfl, hg1, hP1⟩; obtain ⟨hB, c0, c1, c2, c3, c4, c5, c6, c7, c8, f0, f1, f2, f3, f4, f5, f6, f7, f8⟩ := box9 (heap_alloc2_old w _ _) (by simp; omega) hg1 (by simp; omega); have hs1 : w.heap.size < w1.heap.size := by have := hg1.size; simp at this; omega)
    refine bodyPost_ret (results_cell_row rfl _ _ w.heap.size 219 _ _ _ rfl ((heap_alloc_old _ _ (by simpa using hs1)).trans (set9 hB _ _ _ _ _ _ _ _ _)) Tryz.underlying219 rfl (by kernel_rfl)) rfl ?_
    have hg9 := set9_grown w1 w.heap.size (.bool neg) (.int .i64 (srt T)) (.string T.s) (.int .i64 (tval T)) (.int .i64 T.line) (.int .i64 (srt T)) (.string T.s) (.int .i64 (tval T)) (.int .i64 T.line)
    exact ⟨rfl, (grown_newr (((World.grownBy_alloc w _ _).trans (World.grownBy_alloc _ _ _)).trans hg1) (Nat.le_refl _) hg9).trans (World.grownBy_alloc _ _ _), (HP.out.keptN hP1 (Nat.le_refl _) hg9).alloc _⟩
end Go.Proofs.YthpcbbnabnlanaaGreatDoor

/-
  The program's parser: its lit.
-/
namespace Go.Proofs.YthpcbbnabnlanaaGreatDoor
open Go.RowKit
set_option linter.unusedVariables false
variable {w w' : World} {bp gt capt : Nat} {toks : List PTok} {st : PSt}

def glitV (g : GLit) : Value := .agg #[.int .i64 (srt g.first), .string g.first.s, .int .i64 (tval g.first), .int .i64 g.first.line, .int .i64 (srt g.name), .string g.name.s, .int .i64 (tval g.name), .int .i64 g.name.line]

set_option maxRecDepth 100000 in
set_option maxHeartbeats 2000000 in
theorem gr_lit (h : Ps w bp gt capt toks st) (hE : EndOk toks) (hi : st.1 < toks.length) :
    Calls Tryz.prog 119 #[.pointer (some ⟨bp, 0, none⟩)] w fun e w' => e = .returned (glitV (pLit toks st).1) ∧ w.grownBy w' (some bp) ∧ Ps w' bp gt capt toks (pLit toks st).2 := by
  have HP : Hid (Ps w bp gt capt toks st) := h
  have hlt := h.lt
  obtain ⟨T, hT⟩ : ∃ T, T = tkN toks st.1 := ⟨_, rfl⟩
  have HT : Hid (T = tkN toks st.1) := hT
  by_cases h3 : srt T = 22
  · have c3' : (srt T != 22) = false := by simpa using h3
    have HR : Hid (pLit toks st = (⟨T, tkN toks (pTake toks [22, 2] st).1⟩, pTake toks [2] (pTake toks [22, 2] st))) := by rw [Hid, hT]; unfold pLit; rw [← hT, if_pos h3]
    have hi1 := pTake_lt hE (sorts := [22, 2]) rfl hi
    rw [HR.out]
    clear h hT HR h3
    obtain ⟨U, hU⟩ : ∃ U, U = tkN toks (pTake toks [22, 2] st).1 := ⟨_, rfl⟩
    have HU : Hid (U = tkN toks (pTake toks [22, 2] st).1) := hU
    rw [← hU]
    clear hU
    go_enter Tryz.func119, Tryz.ntmps119
    go_wp2_with (go_at_call 69; refine (gr_take ((HP.out.alloc _).alloc _) hE.len hi [22, 2] (w.heap.size + 1) 2 (by decide) (row_new [22, 2] (heap_alloc2_new w _ _)) (by simp)).mono ?_; rw [← HT.out]; unfold tkV; rintro e w1 ⟨rfl, hg1, hP1⟩; have hs1 : w.heap.size < w1.heap.size := (by have := hg1.size; simp at this; omega); have hB := past0 (heap_alloc2_old w _ _) (by simp; omega) hg1 (by simp; omega))
    have hlt1 := hP1.lt
    go_region_law (go_simp; go_at_call 114; refine (gr_name (hP1.alloc _).drew hE.len hi1).mono ?_; rw [← HU.out]; unfold tkV; rintro e w3 ⟨rfl, hg3, hP3⟩; have hg3' := (grown_drew' _ (some bp)).trans hg3; have hB3 := past1 hB hs1 hg3' (by simp; omega); have hC3 := past0 (heap_alloc_new w1 _) (by simp) hg3' (by simp; omega); obtain ⟨d0, d1, d2, d3, _, _, _, _⟩ := cells4 hC3; obtain ⟨c0, c1, c2, c3, c4, c5, c6, c7, f0, f1, f2, f3, f4, f5, f6, f7⟩ := cells8 hB3)
    all_goals go_wp2
    all_goals refine bodyPost_ret (results_cell_row rfl _ _ w.heap.size 194 _ _ _ rfl (set8 hB3 _ _ _ _ _ _ _ _) Tryz.underlying194 rfl (by kernel_rfl)) rfl ?_
    all_goals have hg9 := set8_grown w3 w.heap.size (.int .i64 (srt T)) (.string T.s) (.int .i64 (tval T)) (.int .i64 T.line) (.int .i64 (srt U)) (.string U.s) (.int .i64 (tval U)) (.int .i64 U.line)
    all_goals exact ⟨rfl, grown_newr (((((World.grownBy_alloc w _ _).trans (World.grownBy_alloc _ _ _)).trans hg1).trans (World.grownBy_alloc _ _ _)).trans hg3') (Nat.le_refl _) hg9, HP.out.keptN hP3 (Nat.le_refl _) hg9⟩
  · have c3' : (srt T != 22) = true := by simpa using h3
    have HR : Hid (pLit toks st = (⟨T, T⟩, pTake toks [22, 2] st)) := by rw [Hid, hT]; unfold pLit; rw [← hT, if_neg h3]
    rw [HR.out]
    clear h hT HR h3
    go_enter Tryz.func119, Tryz.ntmps119
    go_wp2_with (go_at_call 69; refine (gr_take ((HP.out.alloc _).alloc _) hE.len hi [22, 2] (w.heap.size + 1) 2 (by decide) (row_new [22, 2] (heap_alloc2_new w _ _)) (by simp)).mono ?_; rw [← HT.out]; unfold tkV; rintro e w1 ⟨rfl, hg1, hP1⟩; have hs1 : w.heap.size < w1.heap.size := (by have := hg1.size; simp at this; omega); have hB := past0 (heap_alloc2_old w _ _) (by simp; omega) hg1 (by simp; omega); obtain ⟨c0, c1, c2, c3, c4, c5, c6, c7, f0, f1, f2, f3, f4, f5, f6, f7⟩ := cells8 hB)
    refine bodyPost_ret (results_cell_row rfl _ _ w.heap.size 194 _ _ _ rfl ((heap_alloc_old _ _ (by simpa using hs1)).trans (set8 hB _ _ _ _ _ _ _ _)) Tryz.underlying194 rfl (by kernel_rfl)) rfl ?_
    have hg9 := set8_grown w1 w.heap.size (.int .i64 (srt T)) (.string T.s) (.int .i64 (tval T)) (.int .i64 T.line) (.int .i64 (srt T)) (.string T.s) (.int .i64 (tval T)) (.int .i64 T.line)
    exact ⟨rfl, (grown_newr (((World.grownBy_alloc w _ _).trans (World.grownBy_alloc _ _ _)).trans hg1) (Nat.le_refl _) hg9).trans (World.grownBy_alloc _ _ _), (HP.out.keptN hP1 (Nat.le_refl _) hg9).alloc _⟩
end Go.Proofs.YthpcbbnabnlanaaGreatDoor
