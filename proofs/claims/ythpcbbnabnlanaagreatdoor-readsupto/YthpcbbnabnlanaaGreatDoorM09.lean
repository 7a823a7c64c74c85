import Derived.Test.YthpcbbnabnlanaaGreatDoorM08
import Derived.Deep.LoopGhost
/-
  The program's parser: its sum.
-/
namespace Go.Proofs.YthpcbbnabnlanaaGreatDoor
open Go.RowKit
set_option linter.unusedVariables false
variable {w w' : World} {bp gt capt : Nat} {toks : List PTok} {st : PSt}

def gtCell (g : GTerm) : List Value := [.bool g.neg, .int .i64 (srt g.first), .string g.first.s, .int .i64 (tval g.first), .int .i64 g.first.line, .int .i64 (srt g.name), .string g.name.s, .int .i64 (tval g.name), .int .i64 g.name.line]
def gtCells (l : List GTerm) : List Value := l.flatMap gtCell
theorem gtCells_snoc (l : List GTerm) (g : GTerm) : gtCells (l ++ [g]) = gtCells l ++ gtCell g := by simp [gtCells]
theorem infoGt : (Tryz.prog.info? 219).map (fun i => (i.zero, i.size, i.bytes)) = some (some (.agg #[.bool false, .int .i64 0, .string .empty, .int .i64 0, .int .i64 0, .int .i64 0, .string .empty, .int .i64 0, .int .i64 0]), 9, 88) := by kernel_rfl
theorem gt_one (g : GTerm) : ∀ u ∈ gtCell g, u.oneCell' = true := by
  intro u hu; simp [gtCell] at hu; rcases hu with rfl | rfl | rfl | rfl | rfl | rfl | rfl | rfl | rfl <;> rfl
theorem low_ne {w : World} {B b : Nat} {e : TypeId} {s n : Nat} {v : Value} {xs : List Value} (h : w.ownsRow B e s v n xs) (hb : b < B) : v.ownBlock ≠ some b := fun e => by have := (h.lt b e).1; omega
theorem low_ne' {w : World} {B b : Nat} {e : TypeId} {s n : Nat} {v : Value} {xs : List Value} (h : w.ownsRow B e s v n xs) (hb : b < B) : v.ownBlock = none ∨ v.ownBlock ≠ some b := .inr (low_ne h hb)
/-- a new row of one -/
theorem own_new {w : World} {B b : Nat} {e : TypeId} {s : Nat} {cs : Array Value} (h : w.heap[b]? = some (.cells cs e (0, 0))) (hb : B ≤ b) (hs : cs.size = s) : w.ownsRow B e s (.slice (some ⟨b, 0, none⟩) 1 1) 1 cs.toList :=
  ⟨by simp [hs], .inr ⟨b, 1, cs, rfl, hb, h, Nat.le_refl _, by unfold maxLen; omega, by simp [hs], by rw [← hs, Nat.one_mul]; exact List.take_of_length_le (by simp)⟩⟩

/-- what stands at a round's head -/
def GSumRel (toks : List PTok) (bp gt capt : Nat) (RES : List GTerm × PSt) (w : World) (n : Nat) (v : Value) (wr : World) : Prop :=
  ∃ (acc : List GTerm) (S : PSt) (f : Nat), S.1 < toks.length ∧ n = toks.length - S.1 ∧ toks.length ≤ S.1 + f ∧ Hid (sumF toks f acc S = RES) ∧ acc.length ≤ S.1 + 1 ∧ Ps wr bp gt capt toks S ∧
    wr.ownsRow w.heap.size 219 9 v acc.length (gtCells acc) ∧ w.grownBy wr (some bp)

theorem sumF_more {f : Nat} {acc : List GTerm} {S : PSt} {G : GTerm} {S2 : PSt} (h : (pSees toks 20 S || pSees toks 23 S) = true) (hp : pTerm toks (srt (tkN toks S.1) == 23) (pTake toks [20, 23] S) = (G, S2)) : sumF toks (f + 1) acc S = sumF toks f (acc ++ [G]) S2 := by
  simp only [sumF]; rw [if_pos h, hp]
theorem sumF_end {f : Nat} {acc : List GTerm} {S : PSt} (h : (pSees toks 20 S || pSees toks 23 S) = false) : sumF toks f acc S = (acc, S) := by
  cases f with
  | zero => rfl
  | succ f => simp only [sumF]; rw [h]; simp
theorem sees_is {s : Int} {S : PSt} (h : pSees toks s S = true) : S.2 = 0 ∧ srt (tkN toks S.1) = s := by
  unfold pSees at h; simpa using h

/-- behind the append: the next round's head -/
theorem sum_step {RES : List GTerm × PSt} {wr w2 w3 : World} {v v' : Value} {o : Obj} {acc : List GTerm} {S S2 : PSt} {G : GTerm} {f : Nat} (h0 : Ps w bp gt capt toks st) (hS2 : S2.1 < toks.length) (hlt : S.1 < S2.1) (hf : toks.length ≤ S.1 + (f + 1)) (hl : Hid (sumF toks f (acc ++ [G]) S2 = RES)) (hacc : acc.length ≤ S.1 + 1)
    (hP2 : Ps w2 bp gt capt toks S2) (hg : w.grownBy w2 (some bp)) (hown : wr.ownsRow w.heap.size 219 9 v acc.length (gtCells acc)) (hown' : w3.ownsRow w.heap.size 219 9 v' (acc.length + 1) (gtCells acc ++ gtCell G)) (hgrow : (w2.alloc o).grownBy w3 v.ownBlock) :
    GSumRel toks bp gt capt RES w (toks.length - S2.1) v' w3 := by
  have e : ∀ k, v.ownBlock = some k → w.heap.size ≤ k := fun k hk => (hown.lt k hk).1
  have := h0.lt; have := h0.ltg
  refine ⟨acc ++ [G], S2, f, hS2, rfl, by omega, hl, by simp; omega, ?_, by rw [gtCells_snoc]; simpa using hown', ?_⟩
  · exact (hP2.alloc o).kept hgrow (fun q => by have := e _ q; omega) (fun q => by have := e _ q; omega)
  · have g2 := hg.trans (World.grownBy_alloc w2 o (some bp))
    exact ⟨hgrow.os.trans g2.os, hgrow.tape.trans g2.tape, hgrow.output.trans g2.output, Nat.le_trans g2.size hgrow.size, fun i hi hn =>
      (hgrow.block i (Nat.lt_of_lt_of_le hi g2.size) (fun q => by have := e i q.symm; omega)).trans (g2.block i hi hn)⟩

theorem grown_any {a b : World} {r : Option Nat} (h : a.grownBy b none) : a.grownBy b r := ⟨h.os, h.tape, h.output, h.size, fun i hi _ => h.block i hi (by simp)⟩

set_option maxRecDepth 100000 in
set_option maxHeartbeats 4000000 in
theorem gr_sum (h : Ps w bp gt capt toks st) (hE : EndOk toks) (hi : st.1 < toks.length) :
    Calls Tryz.prog 117 #[.pointer (some ⟨bp, 0, none⟩)] w fun e w' => ∃ v, e = .returned v ∧ w'.ownsRow w.heap.size 219 9 v (pSum toks st).1.length (gtCells (pSum toks st).1) ∧ w.grownBy w' (some bp) ∧ Ps w' bp gt capt toks (pSum toks st).2 ∧ (pSum toks st).2.1 < toks.length := by
  obtain ⟨i0, hi0, hz0, hz1, hz2⟩ := info_parts infoGt
  have HP : Hid (Ps w bp gt capt toks st) := h
  have hlt0 := h.lt
  have hltg := h.ltg
  have hlen := hE.len
  obtain ⟨RES, hR⟩ : ∃ R, R = pSum toks st := ⟨_, rfl⟩
  obtain ⟨⟨G, S1⟩, hGS⟩ : ∃ x, pTerm toks false st = x := ⟨_, rfl⟩
  have hS1 := pTerm_lt hE false hi
  rw [hGS] at hS1
  have HS : Hid (sumF toks toks.length [G] S1 = RES) := by rw [Hid, hR]; unfold pSum; rw [hGS]
  have HG : Hid (pTerm toks false st = (G, S1)) := hGS
  rw [← hR]
  simp only at hS1
  clear h hGS hR
  go_enter Tryz.func117, Tryz.ntmps117
  go_wp2_with (go_at_call 147; refine (gr_term HP.out hE hi false).mono ?_; rw [HG.out]; unfold gtermV; rintro e w1 ⟨rfl, hg1, hP1⟩)
  go_loopg [3] (toks.length - S1.1) (fun n v wr => GSumRel toks bp gt capt RES w n v wr)
  case atStart => exact ⟨[G], S1, toks.length, hS1.1, rfl, by omega, HS, by simp, hP1.alloc _, own_new (s := 9) (heap_alloc_new w1 _) hg1.size rfl, hg1.trans (World.grownBy_alloc _ _ _)⟩
  case round =>
    obtain ⟨acc, S, f, hi, rfl, hf, hlex, hacc, hP, hown, hgr⟩ := hrel
    obtain ⟨T, hT⟩ : ∃ T, T = tkN toks S.1 := ⟨_, rfl⟩
    have HT : Hid (T = tkN toks S.1) := hT
    by_cases h20 : pSees toks 20 S = true
    · obtain ⟨f, rfl⟩ : ∃ g, f = g + 1 := ⟨f - 1, by omega⟩
      have hse := sees_is h20
      have hor : (pSees toks 20 S || pSees toks 23 S) = true := by rw [h20]; rfl
      obtain ⟨⟨G, S2⟩, hGS⟩ : ∃ x, pTerm toks (srt (tkN toks S.1) == 23) (pTake toks [20, 23] S) = x := ⟨_, rfl⟩
      have hl : Hid (sumF toks f (acc ++ [G]) S2 = RES) := by rw [Hid, ← hlex.out]; exact (sumF_more hor hGS).symm
      have hpt : pTake toks [20, 23] S = (S.1 + 1, 0) := pTake_sees hse.1 (by rw [hse.2]; rfl)
      have hi1 := pTake_lt hE (sorts := [20, 23]) rfl hi
      have hS2 := pTerm_lt hE (srt (tkN toks S.1) == 23) hi1
      rw [hGS] at hS2
      have hS : S.1 < S2.1 := by have := hS2.2; rw [hpt] at this; simp only at this; omega
      have hS2 := hS2.1
      simp only at hS2
      have H20 : Hid (pSees toks 20 S = _) := h20
      have HG : Hid (pTerm toks (srt T == 23) (pTake toks [20, 23] S) = (G, S2)) := by rw [hT]; exact hGS
      clear hor hse hlex hT hGS hpt
      go_wp2_with (first | (go_at_call 147; refine (gr_term (hP1.alloc _) hE hi1 (srt T == 23)).mono ?_; rw [HG.out]; unfold gtermV; rintro e w2 ⟨rfl, hg2, hP2⟩; have hown2 := ((hown1.alloc _).kept hg2 (low_ne' hown hlt0))) | (go_at_call 69; refine (gr_take (hPs.alloc _) hE.len hi [20, 23] ws.heap.size 2 (by decide) (row_new [20, 23] (heap_alloc_new ws _)) (by simp)).mono ?_; rw [← HT.out]; unfold tkV; rintro e w1 ⟨rfl, hg1, hP1⟩; have hown1 := (((hown.kept hgs (own_none _)).alloc _).kept hg1 (low_ne' hown hlt0))) | (go_at_call 67; refine (gr_sees hP hE.len hi 20).mono ?_; rw [H20.out]; rintro e ws ⟨rfl, hgs⟩; have hPs := hP.kept hgs (by simp) (by simp)) | (at_builtin; refine wpList_append_own _ rfl _ _ 134 rfl w.heap.size 219 i0 (.agg #[.bool false, .int .i64 0, .string .empty, .int .i64 0, .int .i64 0, .int .i64 0, .string .empty, .int .i64 0, .int .i64 0]) 9 88 Tryz.underlying134 hi0 hz0 hz1 hz2 rfl (by decide) _ _ _ rfl (hown2.alloc _) ⟨w2.heap.size, 0, none⟩ 1 1 (gtCell G) rfl rfl (World.news_of_block (heap_alloc_new _ _)) (gt_one G) ?c3 ?c4 ?c5 ?_))
      case c3 => unfold maxLen; omega
      case c4 => omega
      case c5 => have := hgr.size; have := hgs.size; have := hg1.size; have := hg2.size; simp at *; omega
      intro v' w3 hown' hgrow _
      have R := sum_step HP.out hS2 hS hf hl hacc hP2 (((((hgr.trans (grown_any hgs)).trans (World.grownBy_alloc _ _ _)).trans hg1).trans (World.grownBy_alloc _ _ _)).trans hg2) hown hown' hgrow
      clear hown' hgrow hown hown1 hown2
      go_wp2
      go_roundg (toks.length - S2.1)
      case measure => omega
      case rel => exact R
    · have h20' : pSees toks 20 S = false := by simpa using h20
      by_cases h23 : pSees toks 23 S = true
      · obtain ⟨f, rfl⟩ : ∃ g, f = g + 1 := ⟨f - 1, by omega⟩
        have hse := sees_is h23
        have hor : (pSees toks 20 S || pSees toks 23 S) = true := by rw [h23, h20']; rfl
        have H23 : Hid (pSees toks 23 S = true) := h23
        obtain ⟨⟨G, S2⟩, hGS⟩ : ∃ x, pTerm toks (srt (tkN toks S.1) == 23) (pTake toks [20, 23] S) = x := ⟨_, rfl⟩
        have hl : Hid (sumF toks f (acc ++ [G]) S2 = RES) := by rw [Hid, ← hlex.out]; exact (sumF_more hor hGS).symm
        have hpt : pTake toks [20, 23] S = (S.1 + 1, 0) := pTake_sees hse.1 (by rw [hse.2]; rfl)
        have hi1 := pTake_lt hE (sorts := [20, 23]) rfl hi
        have hS2 := pTerm_lt hE (srt (tkN toks S.1) == 23) hi1
        rw [hGS] at hS2
        have hS : S.1 < S2.1 := by have := hS2.2; rw [hpt] at this; simp only at this; omega
        have hS2 := hS2.1
        simp only at hS2
        have H20 : Hid (pSees toks 20 S = _) := h20'
        have HG : Hid (pTerm toks (srt T == 23) (pTake toks [20, 23] S) = (G, S2)) := by rw [hT]; exact hGS
        clear hor hse hlex hT hGS hpt
        go_wp2_with (first | (go_at_call 147; refine (gr_term (hP1.alloc _) hE hi1 (srt T == 23)).mono ?_; rw [HG.out]; unfold gtermV; rintro e w2 ⟨rfl, hg2, hP2⟩; have hown2 := ((hown1.alloc _).kept hg2 (low_ne' hown hlt0))) | (go_at_call 69; refine (gr_take (hPs.alloc _) hE.len hi [20, 23] ws.heap.size 2 (by decide) (row_new [20, 23] (heap_alloc_new ws _)) (by simp)).mono ?_; rw [← HT.out]; unfold tkV; rintro e w1 ⟨rfl, hg1, hP1⟩; have hown1 := (((hown.kept hgs (own_none _)).alloc _).kept hg1 (low_ne' hown hlt0))) | (go_at_call 67; refine (gr_sees hPs0 hE.len hi 23).mono ?_; rw [H23.out]; rintro e ws ⟨rfl, hgs1⟩; have hgs := hgs0.trans hgs1; have hPs := hP.kept hgs (by simp) (by simp)) | (go_at_call 67; refine (gr_sees hP hE.len hi 20).mono ?_; rw [H20.out]; rintro e ws0 ⟨rfl, hgs0⟩; have hPs0 := hP.kept hgs0 (by simp) (by simp)) | (at_builtin; refine wpList_append_own _ rfl _ _ 134 rfl w.heap.size 219 i0 (.agg #[.bool false, .int .i64 0, .string .empty, .int .i64 0, .int .i64 0, .int .i64 0, .string .empty, .int .i64 0, .int .i64 0]) 9 88 Tryz.underlying134 hi0 hz0 hz1 hz2 rfl (by decide) _ _ _ rfl (hown2.alloc _) ⟨w2.heap.size, 0, none⟩ 1 1 (gtCell G) rfl rfl (World.news_of_block (heap_alloc_new _ _)) (gt_one G) ?c3 ?c4 ?c5 ?_))
        case c3 => unfold maxLen; omega
        case c4 => omega
        case c5 => have := hgr.size; have := hgs.size; have := hg1.size; have := hg2.size; simp at *; omega
        intro v' w3 hown' hgrow _
        have R := sum_step HP.out hS2 hS hf hl hacc hP2 (((((hgr.trans (grown_any hgs)).trans (World.grownBy_alloc _ _ _)).trans hg1).trans (World.grownBy_alloc _ _ _)).trans hg2) hown hown' hgrow
        clear hown' hgrow hown hown1 hown2
        go_wp2
        go_roundg (toks.length - S2.1)
        case measure => omega
        case rel => exact R
      · have h23' : pSees toks 23 S = false := by simpa using h23
        have hl : Hid (RES = (acc, S)) := by rw [Hid, ← hlex.out]; exact sumF_end (by rw [h20', h23']; rfl)
        have H20 : Hid (pSees toks 20 S = false) := h20'
        have H23 : Hid (pSees toks 23 S = false) := h23'
        clear h20 h23 h20' h23' hlex hT
        go_wp2_with (first | (go_at_call 67; refine (gr_sees hPs0 hE.len hi 23).mono ?_; rw [H23.out]; rintro e ws ⟨rfl, hgs1⟩; have hgs := hgs0.trans hgs1; have hPs := hP.kept hgs (by simp) (by simp)) | (go_at_call 67; refine (gr_sees hP hE.len hi 20).mono ?_; rw [H20.out]; rintro e ws0 ⟨rfl, hgs0⟩; have hPs0 := hP.kept hgs0 (by simp) (by simp)))
        go_ret
        rw [hl.out]
        exact ⟨_, rfl, hown.kept hgs (own_none _), hgr.trans (grown_any hgs), hPs, hi⟩
end Go.Proofs.YthpcbbnabnlanaaGreatDoor

/-
  The program's parser: its series of names, of numbers.
-/
namespace Go.Proofs.YthpcbbnabnlanaaGreatDoor
open Go.RowKit
set_option linter.unusedVariables false
variable {w w' : World} {bp gt capt : Nat} {toks : List PTok} {st : PSt}

theorem serF_more {α : Type} {one : PSt → α × PSt} {f : Nat} {acc : List α} {S : PSt} {G : α} {S2 : PSt} (h : pSees toks 13 S = true) (hp : one (pTake toks [13] S) = (G, S2)) : serF toks one (f + 1) acc S = serF toks one f (acc ++ [G]) S2 := by
  simp only [serF]; rw [if_pos h, hp]
theorem serF_end {α : Type} {one : PSt → α × PSt} {f : Nat} {acc : List α} {S : PSt} (h : pSees toks 13 S = false) : serF toks one f acc S = (acc, S) := by
  cases f with
  | zero => rfl
  | succ f => simp only [serF]; rw [h]; simp
/-- what stands at a round's head: cell gives an element's cells -/
def SerRel {α : Type} (toks : List PTok) (bp gt capt : Nat) (one : PSt → α × PSt) (cell : α → List Value) (E sz : Nat) (RES : List α × PSt) (w : World) (n : Nat) (v : Value) (wr : World) : Prop :=
  ∃ (acc : List α) (S : PSt) (f : Nat), S.1 < toks.length ∧ n = toks.length - S.1 ∧ toks.length ≤ S.1 + f ∧ Hid (serF toks one f acc S = RES) ∧ acc.length ≤ S.1 + 1 ∧ Ps wr bp gt capt toks S ∧
    wr.ownsRow w.heap.size E sz v acc.length (acc.flatMap cell) ∧ w.grownBy wr (some bp)
theorem ser_step {α : Type} {one : PSt → α × PSt} {cell : α → List Value} {E sz : Nat} {RES : List α × PSt} {wr w2 w3 : World} {v v' : Value} {o : Obj} {acc : List α} {S S2 : PSt} {G : α} {f : Nat} (h0 : Ps w bp gt capt toks st) (hS2 : S2.1 < toks.length) (hlt : S.1 < S2.1) (hf : toks.length ≤ S.1 + (f + 1)) (hl : Hid (serF toks one f (acc ++ [G]) S2 = RES)) (hacc : acc.length ≤ S.1 + 1)
    (hP2 : Ps w2 bp gt capt toks S2) (hg : w.grownBy w2 (some bp)) (hown : wr.ownsRow w.heap.size E sz v acc.length (acc.flatMap cell)) (hown' : w3.ownsRow w.heap.size E sz v' (acc.length + 1) (acc.flatMap cell ++ cell G)) (hgrow : (w2.alloc o).grownBy w3 v.ownBlock) :
    SerRel toks bp gt capt one cell E sz RES w (toks.length - S2.1) v' w3 := by
  have e : ∀ k, v.ownBlock = some k → w.heap.size ≤ k := fun k hk => (hown.lt k hk).1
  have := h0.lt; have := h0.ltg
  refine ⟨acc ++ [G], S2, f, hS2, rfl, by omega, hl, by simp; omega, ?_, by rw [List.flatMap_append]; simpa using hown', ?_⟩
  · exact (hP2.alloc o).kept hgrow (fun q => by have := e _ q; omega) (fun q => by have := e _ q; omega)
  · have g2 := hg.trans (World.grownBy_alloc w2 o (some bp))
    exact ⟨hgrow.os.trans g2.os, hgrow.tape.trans g2.tape, hgrow.output.trans g2.output, Nat.le_trans g2.size hgrow.size, fun i hi hn =>
      (hgrow.block i (Nat.lt_of_lt_of_le hi g2.size) (fun q => by have := e i q.symm; omega)).trans (g2.block i hi hn)⟩
theorem tkc_one (t : PTok) : ∀ u ∈ tokCell t, u.oneCell' = true := by
  intro u hu; simp [tokCell] at hu; rcases hu with rfl | rfl | rfl | rfl <;> rfl
theorem pTok_lt (hE : EndOk toks) (s : Int) (hs : s ≠ 1) {S : PSt} (hi : S.1 < toks.length) : (pTok toks s S).2.1 < toks.length ∧ S.1 ≤ (pTok toks s S).2.1 :=
  ⟨pTake_lt hE (sorts := [s]) (by simp; exact fun e => hs e.symm) hi, pTake_le⟩

set_option maxRecDepth 100000 in
set_option maxHeartbeats 4000000 in
theorem gr_ser_name (h : Ps w bp gt capt toks st) (hE : EndOk toks) (hi : st.1 < toks.length) :
    Calls Tryz.prog 116 #[.pointer (some ⟨bp, 0, none⟩), .func (.func 114) #[.pointer (some ⟨bp, 0, none⟩)] #[]] w fun e w' => ∃ v, e = .returned v ∧ w'.ownsRow w.heap.size 129 4 v (pSer toks (pTok toks 2) st).1.length (tokCells (pSer toks (pTok toks 2) st).1) ∧ w.grownBy w' (some bp) ∧ Ps w' bp gt capt toks (pSer toks (pTok toks 2) st).2 ∧ (pSer toks (pTok toks 2) st).2.1 < toks.length := by
  obtain ⟨i0, hi0, hz0, hz1, hz2⟩ := info_parts infoTk
  have HP : Hid (Ps w bp gt capt toks st) := h
  have hlt0 := h.lt
  have hltg := h.ltg
  have hlen := hE.len
  obtain ⟨RES, hR⟩ : ∃ R, R = pSer toks (pTok toks 2) st := ⟨_, rfl⟩
  have hS1 := pTok_lt hE 2 (by decide) hi
  have HS : Hid (serF toks (pTok toks 2) toks.length [tkN toks st.1] (pTake toks [2] st) = RES) := by rw [Hid, hR]; rfl
  rw [← hR]
  have hS1 : (pTake toks [2] st).1 < toks.length := hS1.1
  clear h hR
  go_enter Tryz.func116, Tryz.ntmps116
  go_wp2_with (go_at_call 114; refine (gr_name HP.out hE.len hi).mono ?_; unfold tkV; rintro e w1 ⟨rfl, hg1, hP1⟩)
  go_loopg [5] (toks.length - (pTake toks [2] st).1) (fun n v wr => SerRel toks bp gt capt (pTok toks 2) tokCell 129 4 RES w n v wr)
  case atStart => exact ⟨[tkN toks st.1], (pTake toks [2] st), toks.length, hS1, rfl, by omega, HS, by simp, hP1.alloc _, own_new (s := 4) (heap_alloc_new w1 _) hg1.size rfl, hg1.trans (World.grownBy_alloc _ _ _)⟩
  case round =>
    obtain ⟨acc, S, f, hi, rfl, hf, hlex, hacc, hP, hown, hgr⟩ := hrel
    by_cases h13 : pSees toks 13 S = true
    · obtain ⟨f, rfl⟩ : ∃ g, f = g + 1 := ⟨f - 1, by omega⟩
      have hse := sees_is h13
      obtain ⟨⟨G, S2⟩, hGS⟩ : ∃ x, (pTok toks 2) (pTake toks [13] S) = x := ⟨_, rfl⟩
      have hl : Hid (serF toks (pTok toks 2) f (acc ++ [G]) S2 = RES) := by rw [Hid, ← hlex.out]; exact (serF_more h13 hGS).symm
      have hpt : pTake toks [13] S = (S.1 + 1, 0) := pTake_sees hse.1 (by rw [hse.2]; rfl)
      have hi1 := pTake_lt hE (sorts := [13]) rfl hi
      have hS2 := pTok_lt hE 2 (by decide) hi1
      rw [hGS] at hS2
      have hS : S.1 < S2.1 := by have := hS2.2; rw [hpt] at this; simp only at this; omega
      have hS2 := hS2.1
      simp only at hS2
      have H13 : Hid (pSees toks 13 S = true) := h13
      have HC : Hid (∀ W : World, Ps W bp gt capt toks (pTake toks [13] S) → Calls Tryz.prog 114 #[.pointer (some ⟨bp, 0, none⟩)] W fun e w' => e = .returned (.agg #[.int .i64 (srt G), .string G.s, .int .i64 (tval G), .int .i64 G.line]) ∧ W.grownBy w' (some bp) ∧ Ps w' bp gt capt toks S2) := fun W hW => by
        have q := gr_name hW hE.len hi1; have e1 : tkN toks (pTake toks [13] S).1 = G := congrArg Prod.fst hGS; have e2 : pTake toks [2] (pTake toks [13] S) = S2 := congrArg Prod.snd hGS; rw [e1, e2] at q; exact q
      clear h13 hse hlex hGS hpt
      go_wp2_with (first | (at_builtin; refine wpList_append_own _ rfl _ _ 85 rfl w.heap.size 129 i0 (.agg #[.int .i64 0, .string .empty, .int .i64 0, .int .i64 0]) 4 40 Tryz.underlying85 hi0 hz0 hz1 hz2 rfl (by decide) _ _ _ rfl (hown2.alloc _) ⟨w2.heap.size, 0, none⟩ 1 1 (tokCell G) rfl rfl (World.news_of_block (heap_alloc_new _ _)) (tkc_one G) ?c3 ?c4 ?c5 ?_) | (go_at_call 114; refine (HC.out _ hP1).mono ?_; rintro e w2 ⟨rfl, hg2, hP2⟩; have hown2 := hown1.kept hg2 (low_ne' hown hlt0)) | (go_at_call 69; refine (gr_take (hPs.alloc _) hE.len hi [13] ws.heap.size 1 (by decide) (row_new [13] (heap_alloc_new ws _)) (by simp)).mono ?_; rintro e w1 ⟨rfl, hg1, hP1⟩; have hown1 := (((hown.kept hgs (own_none _)).alloc _).kept hg1 (low_ne' hown hlt0))) | (go_at_call 67; refine (gr_sees hP hE.len hi 13).mono ?_; rw [H13.out]; rintro e ws ⟨rfl, hgs⟩; have hPs := hP.kept hgs (by simp) (by simp)))
      case c3 => unfold maxLen; omega
      case c4 => omega
      case c5 => have := hgr.size; have := hgs.size; have := hg1.size; have := hg2.size; simp at *; omega
      intro v' w3 hown' hgrow _
      have R := ser_step HP.out hS2 hS hf hl hacc hP2 ((((hgr.trans (grown_any hgs)).trans (World.grownBy_alloc _ _ _)).trans hg1).trans hg2) hown hown' hgrow
      clear hown' hgrow hown hown1 hown2
      go_wp2
      go_roundg (toks.length - S2.1)
      case measure => omega
      case rel => exact R
    · have h13' : pSees toks 13 S = false := by simpa using h13
      have hl : Hid (RES = (acc, S)) := by rw [Hid, ← hlex.out]; exact serF_end h13'
      have H13 : Hid (pSees toks 13 S = false) := h13'
      clear h13 h13' hlex
      go_wp2_with (go_at_call 67; refine (gr_sees hP hE.len hi 13).mono ?_; rw [H13.out]; rintro e ws ⟨rfl, hgs⟩; have hPs := hP.kept hgs (by simp) (by simp))
      go_ret
      rw [hl.out]
      exact ⟨_, rfl, hown.kept hgs (own_none _), hgr.trans (grown_any hgs), hPs, hi⟩

set_option maxRecDepth 100000 in
set_option maxHeartbeats 4000000 in
theorem gr_ser_number (h : Ps w bp gt capt toks st) (hE : EndOk toks) (hi : st.1 < toks.length) :
    Calls Tryz.prog 116 #[.pointer (some ⟨bp, 0, none⟩), .func (.func 115) #[.pointer (some ⟨bp, 0, none⟩)] #[]] w fun e w' => ∃ v, e = .returned v ∧ w'.ownsRow w.heap.size 129 4 v (pSer toks (pTok toks 3) st).1.length (tokCells (pSer toks (pTok toks 3) st).1) ∧ w.grownBy w' (some bp) ∧ Ps w' bp gt capt toks (pSer toks (pTok toks 3) st).2 ∧ (pSer toks (pTok toks 3) st).2.1 < toks.length := by
  obtain ⟨i0, hi0, hz0, hz1, hz2⟩ := info_parts infoTk
  have HP : Hid (Ps w bp gt capt toks st) := h
  have hlt0 := h.lt
  have hltg := h.ltg
  have hlen := hE.len
  obtain ⟨RES, hR⟩ : ∃ R, R = pSer toks (pTok toks 3) st := ⟨_, rfl⟩
  have hS1 := pTok_lt hE 3 (by decide) hi
  have HS : Hid (serF toks (pTok toks 3) toks.length [tkN toks st.1] (pTake toks [3] st) = RES) := by rw [Hid, hR]; rfl
  rw [← hR]
  have hS1 : (pTake toks [3] st).1 < toks.length := hS1.1
  clear h hR
  go_enter Tryz.func116, Tryz.ntmps116
  go_wp2_with (go_at_call 115; refine (gr_number HP.out hE.len hi).mono ?_; unfold tkV; rintro e w1 ⟨rfl, hg1, hP1⟩)
  go_loopg [5] (toks.length - (pTake toks [3] st).1) (fun n v wr => SerRel toks bp gt capt (pTok toks 3) tokCell 129 4 RES w n v wr)
  case atStart => exact ⟨[tkN toks st.1], (pTake toks [3] st), toks.length, hS1, rfl, by omega, HS, by simp, hP1.alloc _, own_new (s := 4) (heap_alloc_new w1 _) hg1.size rfl, hg1.trans (World.grownBy_alloc _ _ _)⟩
  case round =>
    obtain ⟨acc, S, f, hi, rfl, hf, hlex, hacc, hP, hown, hgr⟩ := hrel
    by_cases h13 : pSees toks 13 S = true
    · obtain ⟨f, rfl⟩ : ∃ g, f = g + 1 := ⟨f - 1, by omega⟩
      have hse := sees_is h13
      obtain ⟨⟨G, S2⟩, hGS⟩ : ∃ x, (pTok toks 3) (pTake toks [13] S) = x := ⟨_, rfl⟩
      have hl : Hid (serF toks (pTok toks 3) f (acc ++ [G]) S2 = RES) := by rw [Hid, ← hlex.out]; exact (serF_more h13 hGS).symm
      have hpt : pTake toks [13] S = (S.1 + 1, 0) := pTake_sees hse.1 (by rw [hse.2]; rfl)
      have hi1 := pTake_lt hE (sorts := [13]) rfl hi
      have hS2 := pTok_lt hE 3 (by decide) hi1
      rw [hGS] at hS2
      have hS : S.1 < S2.1 := by have := hS2.2; rw [hpt] at this; simp only at this; omega
      have hS2 := hS2.1
      simp only at hS2
      have H13 : Hid (pSees toks 13 S = true) := h13
      have HC : Hid (∀ W : World, Ps W bp gt capt toks (pTake toks [13] S) → Calls Tryz.prog 115 #[.pointer (some ⟨bp, 0, none⟩)] W fun e w' => e = .returned (.agg #[.int .i64 (srt G), .string G.s, .int .i64 (tval G), .int .i64 G.line]) ∧ W.grownBy w' (some bp) ∧ Ps w' bp gt capt toks S2) := fun W hW => by
        have q := gr_number hW hE.len hi1; have e1 : tkN toks (pTake toks [13] S).1 = G := congrArg Prod.fst hGS; have e2 : pTake toks [3] (pTake toks [13] S) = S2 := congrArg Prod.snd hGS; rw [e1, e2] at q; exact q
      clear h13 hse hlex hGS hpt
      go_wp2_with (first | (at_builtin; refine wpList_append_own _ rfl _ _ 85 rfl w.heap.size 129 i0 (.agg #[.int .i64 0, .string .empty, .int .i64 0, .int .i64 0]) 4 40 Tryz.underlying85 hi0 hz0 hz1 hz2 rfl (by decide) _ _ _ rfl (hown2.alloc _) ⟨w2.heap.size, 0, none⟩ 1 1 (tokCell G) rfl rfl (World.news_of_block (heap_alloc_new _ _)) (tkc_one G) ?c3 ?c4 ?c5 ?_) | (go_at_call 115; refine (HC.out _ hP1).mono ?_; rintro e w2 ⟨rfl, hg2, hP2⟩; have hown2 := hown1.kept hg2 (low_ne' hown hlt0)) | (go_at_call 69; refine (gr_take (hPs.alloc _) hE.len hi [13] ws.heap.size 1 (by decide) (row_new [13] (heap_alloc_new ws _)) (by simp)).mono ?_; rintro e w1 ⟨rfl, hg1, hP1⟩; have hown1 := (((hown.kept hgs (own_none _)).alloc _).kept hg1 (low_ne' hown hlt0))) | (go_at_call 67; refine (gr_sees hP hE.len hi 13).mono ?_; rw [H13.out]; rintro e ws ⟨rfl, hgs⟩; have hPs := hP.kept hgs (by simp) (by simp)))
      case c3 => unfold maxLen; omega
      case c4 => omega
      case c5 => have := hgr.size; have := hgs.size; have := hg1.size; have := hg2.size; simp at *; omega
      intro v' w3 hown' hgrow _
      have R := ser_step HP.out hS2 hS hf hl hacc hP2 ((((hgr.trans (grown_any hgs)).trans (World.grownBy_alloc _ _ _)).trans hg1).trans hg2) hown hown' hgrow
      clear hown' hgrow hown hown1 hown2
      go_wp2
      go_roundg (toks.length - S2.1)
      case measure => omega
      case rel => exact R
    · have h13' : pSees toks 13 S = false := by simpa using h13
      have hl : Hid (RES = (acc, S)) := by rw [Hid, ← hlex.out]; exact serF_end h13'
      have H13 : Hid (pSees toks 13 S = false) := h13'
      clear h13 h13' hlex
      go_wp2_with (go_at_call 67; refine (gr_sees hP hE.len hi 13).mono ?_; rw [H13.out]; rintro e ws ⟨rfl, hgs⟩; have hPs := hP.kept hgs (by simp) (by simp))
      go_ret
      rw [hl.out]
      exact ⟨_, rfl, hown.kept hgs (own_none _), hgr.trans (grown_any hgs), hPs, hi⟩

def glCell (g : GLit) : List Value := [.int .i64 (srt g.first), .string g.first.s, .int .i64 (tval g.first), .int .i64 g.first.line, .int .i64 (srt g.name), .string g.name.s, .int .i64 (tval g.name), .int .i64 g.name.line]
def glCells (l : List GLit) : List Value := l.flatMap glCell
theorem glc_one (g : GLit) : ∀ u ∈ glCell g, u.oneCell' = true := by
  intro u hu; simp [glCell] at hu; rcases hu with rfl | rfl | rfl | rfl | rfl | rfl | rfl | rfl <;> rfl
theorem infoGl : (Tryz.prog.info? 194).map (fun i => (i.zero, i.size, i.bytes)) = some (some (.agg #[.int .i64 0, .string .empty, .int .i64 0, .int .i64 0, .int .i64 0, .string .empty, .int .i64 0, .int .i64 0]), 8, 80) := by kernel_rfl
set_option maxRecDepth 100000 in
set_option maxHeartbeats 4000000 in
theorem gr_ser_lit (h : Ps w bp gt capt toks st) (hE : EndOk toks) (hi : st.1 < toks.length) :
    Calls Tryz.prog 118 #[.pointer (some ⟨bp, 0, none⟩), .func (.func 119) #[.pointer (some ⟨bp, 0, none⟩)] #[]] w fun e w' => ∃ v, e = .returned v ∧ w'.ownsRow w.heap.size 194 8 v (pSer toks (pLit toks) st).1.length (glCells (pSer toks (pLit toks) st).1) ∧ w.grownBy w' (some bp) ∧ Ps w' bp gt capt toks (pSer toks (pLit toks) st).2 ∧ (pSer toks (pLit toks) st).2.1 < toks.length := by
  obtain ⟨i0, hi0, hz0, hz1, hz2⟩ := info_parts infoGl
  have HP : Hid (Ps w bp gt capt toks st) := h
  have hlt0 := h.lt
  have hltg := h.ltg
  have hlen := hE.len
  obtain ⟨RES, hR⟩ : ∃ R, R = pSer toks (pLit toks) st := ⟨_, rfl⟩
  have hS1 := pLit_lt hE hi
  obtain ⟨⟨G1, S1⟩, hGS1⟩ : ∃ x, pLit toks st = x := ⟨_, rfl⟩
  have HS : Hid (serF toks (pLit toks) toks.length [G1] S1 = RES) := by rw [Hid, hR]; unfold pSer; rw [hGS1]
  have HG1 : Hid (pLit toks st = (G1, S1)) := hGS1
  rw [← hR]
  rw [hGS1] at hS1
  have hS1 : S1.1 < toks.length := hS1.1
  clear h hR hGS1
  go_enter Tryz.func118, Tryz.ntmps118
  go_wp2_with (go_at_call 119; refine (gr_lit HP.out hE hi).mono ?_; rw [HG1.out]; unfold glitV; rintro e w1 ⟨rfl, hg1, hP1⟩)
  go_loopg [5] (toks.length - S1.1) (fun n v wr => SerRel toks bp gt capt (pLit toks) glCell 194 8 RES w n v wr)
  case atStart => exact ⟨[G1], S1, toks.length, hS1, rfl, by omega, HS, by simp, hP1.alloc _, own_new (s := 8) (heap_alloc_new w1 _) hg1.size rfl, hg1.trans (World.grownBy_alloc _ _ _)⟩
  case round =>
    obtain ⟨acc, S, f, hi, rfl, hf, hlex, hacc, hP, hown, hgr⟩ := hrel
    by_cases h13 : pSees toks 13 S = true
    · obtain ⟨f, rfl⟩ : ∃ g, f = g + 1 := ⟨f - 1, by omega⟩
      have hse := sees_is h13
      obtain ⟨⟨G, S2⟩, hGS⟩ : ∃ x, (pLit toks) (pTake toks [13] S) = x := ⟨_, rfl⟩
      have hl : Hid (serF toks (pLit toks) f (acc ++ [G]) S2 = RES) := by rw [Hid, ← hlex.out]; exact (serF_more h13 hGS).symm
      have hpt : pTake toks [13] S = (S.1 + 1, 0) := pTake_sees hse.1 (by rw [hse.2]; rfl)
      have hi1 := pTake_lt hE (sorts := [13]) rfl hi
      have hS2 := pLit_lt hE hi1
      rw [hGS] at hS2
      have hS : S.1 < S2.1 := by have := hS2.2; rw [hpt] at this; simp only at this; omega
      have hS2 := hS2.1
      simp only at hS2
      have H13 : Hid (pSees toks 13 S = true) := h13
      have HC : Hid (∀ W : World, Ps W bp gt capt toks (pTake toks [13] S) → Calls Tryz.prog 119 #[.pointer (some ⟨bp, 0, none⟩)] W fun e w' => e = .returned (.agg #[.int .i64 (srt G.first), .string G.first.s, .int .i64 (tval G.first), .int .i64 G.first.line, .int .i64 (srt G.name), .string G.name.s, .int .i64 (tval G.name), .int .i64 G.name.line]) ∧ W.grownBy w' (some bp) ∧ Ps w' bp gt capt toks S2) := fun W hW => by
        have q := gr_lit hW hE hi1; rw [hGS] at q; exact q
      clear h13 hse hlex hGS hpt
      go_wp2_with (first | (at_builtin; refine wpList_append_own _ rfl _ _ 135 rfl w.heap.size 194 i0 (.agg #[.int .i64 0, .string .empty, .int .i64 0, .int .i64 0, .int .i64 0, .string .empty, .int .i64 0, .int .i64 0]) 8 80 Tryz.underlying135 hi0 hz0 hz1 hz2 rfl (by decide) _ _ _ rfl (hown2.alloc _) ⟨w2.heap.size, 0, none⟩ 1 1 (glCell G) rfl rfl (World.news_of_block (heap_alloc_new _ _)) (glc_one G) ?c3 ?c4 ?c5 ?_) | (go_at_call 119; refine (HC.out _ hP1).mono ?_; rintro e w2 ⟨rfl, hg2, hP2⟩; have hown2 := hown1.kept hg2 (low_ne' hown hlt0)) | (go_at_call 69; refine (gr_take (hPs.alloc _) hE.len hi [13] ws.heap.size 1 (by decide) (row_new [13] (heap_alloc_new ws _)) (by simp)).mono ?_; rintro e w1 ⟨rfl, hg1, hP1⟩; have hown1 := (((hown.kept hgs (own_none _)).alloc _).kept hg1 (low_ne' hown hlt0))) | (go_at_call 67; refine (gr_sees hP hE.len hi 13).mono ?_; rw [H13.out]; rintro e ws ⟨rfl, hgs⟩; have hPs := hP.kept hgs (by simp) (by simp)))
      case c3 => unfold maxLen; omega
      case c4 => omega
      case c5 => have := hgr.size; have := hgs.size; have := hg1.size; have := hg2.size; simp at *; omega
      intro v' w3 hown' hgrow _
      have R := ser_step HP.out hS2 hS hf hl hacc hP2 ((((hgr.trans (grown_any hgs)).trans (World.grownBy_alloc _ _ _)).trans hg1).trans hg2) hown hown' hgrow
      clear hown' hgrow hown hown1 hown2
      go_wp2
      go_roundg (toks.length - S2.1)
      case measure => omega
      case rel => exact R
    · have h13' : pSees toks 13 S = false := by simpa using h13
      have hl : Hid (RES = (acc, S)) := by rw [Hid, ← hlex.out]; exact serF_end h13'
      have H13 : Hid (pSees toks 13 S = false) := h13'
      clear h13 h13' hlex
      go_wp2_with (go_at_call 67; refine (gr_sees hP hE.len hi 13).mono ?_; rw [H13.out]; rintro e ws ⟨rfl, hgs⟩; have hPs := hP.kept hgs (by simp) (by simp))
      go_ret
      rw [hl.out]
      exact ⟨_, rfl, hown.kept hgs (own_none _), hgr.trans (grown_any hgs), hPs, hi⟩
end Go.Proofs.YthpcbbnabnlanaaGreatDoor
