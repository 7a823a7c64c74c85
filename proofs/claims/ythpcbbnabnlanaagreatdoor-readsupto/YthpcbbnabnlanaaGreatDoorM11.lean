import Derived.Test.YthpcbbnabnlanaaGreatDoorM10
/-
  The program's parser: a statement when.
-/
namespace Go.Proofs.YthpcbbnabnlanaaGreatDoor
open Go.RowKit
set_option linter.unusedVariables false
variable {w : World} {bp gt capt : Nat} {toks : List PTok} {st : PSt}

set_option maxRecDepth 100000 in
set_option maxHeartbeats 8000000 in
theorem gr_st_when (h : Ps w bp gt capt toks st) (hE : EndOk toks) (hi : st.1 < toks.length) (hk : srt (tkN toks st.1) = 7) :
    Calls Tryz.prog 68 #[.pointer (some ⟨bp, 0, none⟩)] w (StPost toks st w bp gt capt) := by
  have HP : Hid (Ps w bp gt capt toks st) := h
  have hlp := h.lt
  have hlg := h.ltg
  have hlen := hE.len
  obtain ⟨T, hT⟩ : ∃ T, T = tkN toks st.1 := ⟨_, rfl⟩
  rw [← hT] at hk
  obtain ⟨S1, hS1⟩ : ∃ S, S = pTake toks kwSorts st := ⟨_, rfl⟩
  have hi1 : S1.1 < toks.length := by rw [hS1]; exact pTake_lt hE rfl hi
  have HC1 := Kept.mk (gr_take' hE hi kwSorts 7 rfl (by decide) hT hS1 (o := .cells #[.int .i64 4, .int .i64 5, .int .i64 6, .int .i64 7, .int .i64 8, .int .i64 9, .int .i64 10] 127) (w.alloc (.cells zero16 137)) (HP.out.alloc _) (w.heap.size + 1) (by simp) rfl)
  have e4 : (srt T == 4) = false := by rw [hk]; rfl
  have e5 : (srt T == 5) = false := by rw [hk]; rfl
  have e7 : (srt T == 7) = true := by rw [hk]; rfl
  have e6 : (srt T == 6) = false := by rw [hk]; rfl
  have e8 : (srt T == 8) = false := by rw [hk]; rfl
  have e9 : (srt T == 9) = false := by rw [hk]; rfl
  have e10 : (srt T == 10) = false := by rw [hk]; rfl
  obtain ⟨N, hN⟩ : ∃ N, N = tkN toks S1.1 := ⟨_, rfl⟩
  obtain ⟨S2, hS2⟩ : ∃ S, S = pTake toks [2] S1 := ⟨_, rfl⟩
  have hi2 : S2.1 < toks.length := by rw [hS2]; exact pTake_lt hE rfl hi1
  have HC2 : Hid (∀ W : World, Ps W bp gt capt toks S1 → Calls Tryz.prog 114 #[.pointer (some ⟨bp, 0, none⟩)] W fun e w' => e = .returned (.agg #[.int .i64 (srt N), .string N.s, .int .i64 (tval N), .int .i64 N.line]) ∧ W.grownBy w' (some bp) ∧ Ps w' bp gt capt toks S2) := fun W hW => gr_name' hE hi1 hN hS2 W hW
  obtain ⟨S3, hS3⟩ : ∃ S, S = pTake toks [12] S2 := ⟨_, rfl⟩
  have hi3 : S3.1 < toks.length := by rw [hS3]; exact pTake_lt hE rfl hi2
  have HC3 : Hid (∀ (W : World) (g : Nat), Ps W bp gt capt toks S2 → g = W.heap.size → Calls Tryz.prog 69 #[.pointer (some ⟨bp, 0, none⟩), .slice (some ⟨g, 0, none⟩) 1 1] (W.alloc (.cells #[.int .i64 12] 127)) fun e w' => ∃ N : PTok, N = tkN toks S2.1 ∧ e = .returned (.agg #[.int .i64 (srt N), .string N.s, .int .i64 (tval N), .int .i64 N.line]) ∧ (W.alloc (.cells #[.int .i64 12] 127)).grownBy w' (some bp) ∧ Ps w' bp gt capt toks S3) := fun W g hW hg => (gr_take' hE hi2 [12] 1 rfl (by decide) rfl hS3 W hW g hg rfl).mono fun e w' hx => ⟨_, rfl, hx⟩
  obtain ⟨R4, hR4⟩ : ∃ R, R = pSum toks S3 := ⟨_, rfl⟩
  have hi4 : R4.2.1 < toks.length := by rw [hR4]; exact pSum_lt hE hi3
  have HC4 : Hid (∀ W : World, Ps W bp gt capt toks S3 → Calls Tryz.prog 117 #[.pointer (some ⟨bp, 0, none⟩)] W fun e w' => ∃ v, e = .returned v ∧ w'.ownsRow W.heap.size 219 9 v R4.1.length (gtCells R4.1) ∧ W.grownBy w' (some bp) ∧ Ps w' bp gt capt toks R4.2 ∧ R4.2.1 < toks.length) := fun W hW => by rw [hR4]; exact gr_sum hW hE hi3
  obtain ⟨Q, hQ⟩ : ∃ N, N = tkN toks R4.2.1 := ⟨_, rfl⟩
  obtain ⟨S5, hS5⟩ : ∃ S, S = pTake toks [14, 15, 16] R4.2 := ⟨_, rfl⟩
  have hi5 : S5.1 < toks.length := by rw [hS5]; exact pTake_lt hE rfl hi4
  have HC5 : Hid (∀ (W : World) (g : Nat), Ps W bp gt capt toks R4.2 → g = W.heap.size → Calls Tryz.prog 69 #[.pointer (some ⟨bp, 0, none⟩), .slice (some ⟨g, 0, none⟩) 3 3] (W.alloc (.cells #[.int .i64 14, .int .i64 15, .int .i64 16] 127)) fun e w' => ∃ N : PTok, N = tkN toks R4.2.1 ∧ e = .returned (.agg #[.int .i64 (srt N), .string N.s, .int .i64 (tval N), .int .i64 N.line]) ∧ (W.alloc (.cells #[.int .i64 14, .int .i64 15, .int .i64 16] 127)).grownBy w' (some bp) ∧ Ps w' bp gt capt toks S5) := fun W g hW hg => (gr_take' hE hi4 [14, 15, 16] 3 rfl (by decide) rfl hS5 W hW g hg rfl).mono fun e w' hx => ⟨_, rfl, hx⟩
  have hQK : Hid (Q = tkN toks R4.2.1) := hQ
  obtain ⟨M, hM⟩ : ∃ N, N = tkN toks S5.1 := ⟨_, rfl⟩
  obtain ⟨S6, hS6⟩ : ∃ S, S = pTake toks [3] S5 := ⟨_, rfl⟩
  have hi6 : S6.1 < toks.length := by rw [hS6]; exact pTake_lt hE rfl hi5
  have HC6 : Hid (∀ W : World, Ps W bp gt capt toks S5 → Calls Tryz.prog 115 #[.pointer (some ⟨bp, 0, none⟩)] W fun e w' => e = .returned (.agg #[.int .i64 (srt M), .string M.s, .int .i64 (tval M), .int .i64 M.line]) ∧ W.grownBy w' (some bp) ∧ Ps w' bp gt capt toks S6) := fun W hW => gr_number' hE hi5 hM hS6 W hW
  have HRes : Hid (pStmt toks st = ({ kw := T, name := N, terms := R4.1, rel := Q, numbers := [M] }, S6)) := by
    rw [Hid]; rw [hS6, hM, hS5, hQ, hR4, hS3, hS2, hN, hS1, hT]; unfold pStmt; simp [← hT, hk, pLin]
  have HX : Hid (∀ e w', (∃ vn vu vt vl, e = .returned (.agg (gsCells ({ kw := T, name := N, terms := R4.1, rel := Q, numbers := [M] }) vn vu vt vl)) ∧ GsOwn w' w.heap.size ({ kw := T, name := N, terms := R4.1, rel := Q, numbers := [M] }) vn vu vt vl ∧ w.grownBy w' (some bp) ∧ Ps w' bp gt capt toks S6 ∧ (S6).1 < toks.length) → StPost toks st w bp gt capt e w') := fun e w' hx => by unfold StPost; rw [HRes.out]; exact hx
  clear h hk HRes hT hS1 hN hS2 hS3 hR4 hQ hS5 hM hS6
  go_enter Tryz.func68, Tryz.ntmps68
  go_wp2_with (first | (go_at_call 115; refine (HC6.out _ (hP5.sf4 hbb hgb 11 (.int .i64 (srt Q)) (.string Q.s) (.int .i64 (tval Q)) (.int .i64 Q.line))).mono ?_; rintro e w6 ⟨rfl, hg6, hP6⟩; have s6 := t5.call0 hg6; have f9_6 := frozen_of s6.hS 9; obtain ⟨a0, a1, a2, a3, a4, a5, a6, a7, a8, a9, a10, a11, a12, a13, a14, a15, z0, z1, z2, z3, z4, z5, z6, z7, z8, z9, z10, z11, z12, z13, z14, z15⟩ := cells16 s6.hA; obtain ⟨c0, c1, c2, c3, c4, c5, c6, c7, c8, c9, c10, c11, c12, c13, c14, c15, _, _, _, _, _, _, _, _, _, _, _, _, _, _, _, _⟩ := cells16 s6.hS; have hq0 := s6.lt; have hq1 := s6.lo; have hq4 : w.heap.size < w6.heap.size := (by omega); have hq2 : w.heap.size ≠ w1.heap.size := (by omega); have hq3 : w1.heap.size ≠ w.heap.size := (by omega); have o4_6 := (o4_5.kept hg6 (low_ne' o4_5 (by have := s1.lp; have := s1.lo; first | omega | (simp; omega))))) | (go_at_call 69; refine (HC5.out _ _ (hP4.sf hbb hgb 10 (.slice va4 vm4 vc4)) (by first | rfl | (simp; done) | simp [World.setCell])).mono ?_; rw [← hQK.out]; rintro e w5 ⟨X5, hX5, rfl, hg5, hP5⟩; subst X5; have s5 := t4.call hg5; have c11_5 := cell_of s5.hS 11 _ rfl; have f11_5 := frozen_of s5.hS 11; have c12_5 := cell_of s5.hS 12 _ rfl; have f12_5 := frozen_of s5.hS 12; have c13_5 := cell_of s5.hS 13 _ rfl; have f13_5 := frozen_of s5.hS 13; have c14_5 := cell_of s5.hS 14 _ rfl; have f14_5 := frozen_of s5.hS 14; have t5 := s5.set4 (cs' := #[.int .i64 (srt T), .string T.s, .int .i64 (tval T), .int .i64 T.line, .int .i64 (srt N), .string N.s, .int .i64 (tval N), .int .i64 N.line, .slice none 0 0, .slice none 0 0, .slice va4 vm4 vc4, .int .i64 (srt Q), .string Q.s, .int .i64 (tval Q), .int .i64 Q.line, .slice none 0 0]) 11 (.int .i64 (srt Q)) (.string Q.s) (.int .i64 (tval Q)) (.int .i64 Q.line) rfl; have hl5 := t5.lt; have o4_5 := (own_far (own_far (own_far (own_far ((own4.alloc _).kept hg5 (low_ne' own4 (by have := s1.lp; have := s1.lo; first | omega | (simp; omega)))) hb4 11 (.int .i64 (srt Q))) hb4 12 (.string Q.s)) hb4 13 (.int .i64 (tval Q))) hb4 14 (.int .i64 Q.line))) | (go_at_call 117; refine (HC4.out _ hP3).mono ?_; rintro e w4 ⟨v4, rfl, hown4, hg4, hP4, _⟩; obtain ⟨va4, vm4, vc4, rfl⟩ := own_slice hown4; have s4 := s3.call0 hg4; have hb4 : w1.heap.size < _ := s3.lt; have c10_4 := cell_of s4.hS 10 _ rfl; have f10_4 := frozen_of s4.hS 10; have t4 := s4.sf (cs' := #[.int .i64 (srt T), .string T.s, .int .i64 (tval T), .int .i64 T.line, .int .i64 (srt N), .string N.s, .int .i64 (tval N), .int .i64 N.line, .slice none 0 0, .slice none 0 0, .slice va4 vm4 vc4, .int .i64 0, .string .empty, .int .i64 0, .int .i64 0, .slice none 0 0]) 10 (.slice va4 vm4 vc4) rfl; have hl4 := t4.lt; have own4 := own_far hown4 hb4 10 (.slice va4 vm4 vc4)) | (go_at_call 69; refine (HC3.out _ _ (hP2.sf4 hbb hgb 4 (.int .i64 (srt N)) (.string N.s) (.int .i64 (tval N)) (.int .i64 N.line)) (by first | rfl | (simp; done) | simp [World.setCell])).mono ?_; rintro e w3 ⟨X3, _, rfl, hg3, hP3⟩; have s3 := t2.call hg3; have hl3 := s3.lt) | (go_at_call 114; refine (HC2.out _ (hP1.alloc _)).mono ?_; rintro e w2 ⟨rfl, hg2, hP2⟩; have s2 := s1.call0 hg2; have c4_2 := cell_of s2.hS 4 _ rfl; have f4_2 := frozen_of s2.hS 4; have c5_2 := cell_of s2.hS 5 _ rfl; have f5_2 := frozen_of s2.hS 5; have c6_2 := cell_of s2.hS 6 _ rfl; have f6_2 := frozen_of s2.hS 6; have c7_2 := cell_of s2.hS 7 _ rfl; have f7_2 := frozen_of s2.hS 7; have t2 := s2.set4 (cs' := #[.int .i64 (srt T), .string T.s, .int .i64 (tval T), .int .i64 T.line, .int .i64 (srt N), .string N.s, .int .i64 (tval N), .int .i64 N.line, .slice none 0 0, .slice none 0 0, .slice none 0 0, .int .i64 0, .string .empty, .int .i64 0, .int .i64 0, .slice none 0 0]) 4 (.int .i64 (srt N)) (.string N.s) (.int .i64 (tval N)) (.int .i64 N.line) rfl; have hl2 := t2.lt) | (go_at_call 69; refine HC1.get.mono ?_; rintro e w1 ⟨rfl, hg1, hP1⟩; have s1 := sb_start hlp hg1 #[.int .i64 (srt T), .string T.s, .int .i64 (tval T), .int .i64 T.line, .int .i64 0, .string .empty, .int .i64 0, .int .i64 0, .slice none 0 0, .slice none 0 0, .slice none 0 0, .int .i64 0, .string .empty, .int .i64 0, .int .i64 0, .slice none 0 0]; have hbb : bp < w1.heap.size := (by have := s1.lo; omega); have hgb : gt < w1.heap.size := (by have := s1.lo; omega)))
  have tE := s6.sf (cs' := #[.int .i64 (srt T), .string T.s, .int .i64 (tval T), .int .i64 T.line, .int .i64 (srt N), .string N.s, .int .i64 (tval N), .int .i64 N.line, .slice none 0 0, .slice (some ⟨w6.heap.size, 0, none⟩) 1 1, .slice va4 vm4 vc4, .int .i64 (srt Q), .string Q.s, .int .i64 (tval Q), .int .i64 Q.line, .slice none 0 0]) 9 (.slice (some ⟨w6.heap.size, 0, none⟩) 1 1) rfl
  obtain ⟨hF, hgF, hPF, hoF⟩ := st_end (gt := gt) (capt := capt) (toks := toks) tE hlg (.int .i64 (srt T)) (.string T.s) (.int .i64 (tval T)) (.int .i64 T.line) (.int .i64 (srt N)) (.string N.s) (.int .i64 (tval N)) (.int .i64 N.line) (.slice none 0 0) (.slice (some ⟨w6.heap.size, 0, none⟩) 1 1) (.slice va4 vm4 vc4) (.int .i64 (srt Q)) (.string Q.s) (.int .i64 (tval Q)) (.int .i64 Q.line) (.slice none 0 0)
  refine bodyPost_ret (results_cell_row rfl _ _ w.heap.size 137 _ _ _ rfl ((heap_alloc_old _ _ (by have := hgF.size; simp [World.setCell]; omega)).trans hF) Tryz.underlying137 rfl (by kernel_rfl)) rfl ?_
  exact HX.out _ _ ⟨.slice none 0 0, .slice (some ⟨w6.heap.size, 0, none⟩) 1 1, .slice va4 vm4 vc4, .slice none 0 0, rfl, ⟨World.ownsRow_nil _ _ _ _, by have q := own_new (B := w.heap.size) (s := 4) (e := 129) (cs := #[.int .i64 (srt M), .string M.s, .int .i64 (tval M), .int .i64 M.line]) (heap_alloc_new _ _) (Nat.le_trans hgF.size (Nat.le_refl _)) rfl; simpa [World.setCell, tokCells, tokCell] using q, World.ownsRow.alloc (hoF _ _ _ _ _ _ (by have := s1.lo; have := hb4; first | omega | (simp at *; omega)) (own_far o4_6 hb4 9 (.slice (some ⟨w6.heap.size, 0, none⟩) 1 1))) _, World.ownsRow_nil _ _ _ _⟩, hgF.trans (World.grownBy_alloc _ _ _), (hPF _ (hP6.sf hbb hgb 9 (.slice (some ⟨w6.heap.size, 0, none⟩) 1 1))).alloc _, hi6⟩
end Go.Proofs.YthpcbbnabnlanaaGreatDoor

/-
  The program's parser: a statement at.
-/
namespace Go.Proofs.YthpcbbnabnlanaaGreatDoor
open Go.RowKit
set_option linter.unusedVariables false
variable {w : World} {bp gt capt : Nat} {toks : List PTok} {st : PSt}

set_option maxRecDepth 100000 in
set_option maxHeartbeats 8000000 in
theorem gr_st_at (h : Ps w bp gt capt toks st) (hE : EndOk toks) (hi : st.1 < toks.length) (hk : srt (tkN toks st.1) = 8) :
    Calls Tryz.prog 68 #[.pointer (some ⟨bp, 0, none⟩)] w (StPost toks st w bp gt capt) := by
  have HP : Hid (Ps w bp gt capt toks st) := h
  have hlp := h.lt
  have hlg := h.ltg
  have hlen := hE.len
  obtain ⟨T, hT⟩ : ∃ T, T = tkN toks st.1 := ⟨_, rfl⟩
  rw [← hT] at hk
  obtain ⟨S1, hS1⟩ : ∃ S, S = pTake toks kwSorts st := ⟨_, rfl⟩
  have hi1 : S1.1 < toks.length := by rw [hS1]; exact pTake_lt hE rfl hi
  have HC1 := Kept.mk (gr_take' hE hi kwSorts 7 rfl (by decide) hT hS1 (o := .cells #[.int .i64 4, .int .i64 5, .int .i64 6, .int .i64 7, .int .i64 8, .int .i64 9, .int .i64 10] 127) (w.alloc (.cells zero16 137)) (HP.out.alloc _) (w.heap.size + 1) (by simp) rfl)
  have e4 : (srt T == 4) = false := by rw [hk]; rfl
  have e5 : (srt T == 5) = false := by rw [hk]; rfl
  have e7 : (srt T == 7) = false := by rw [hk]; rfl
  have e6 : (srt T == 6) = false := by rw [hk]; rfl
  have e8 : (srt T == 8) = true := by rw [hk]; rfl
  have e9 : (srt T == 9) = false := by rw [hk]; rfl
  have e10 : (srt T == 10) = false := by rw [hk]; rfl
  obtain ⟨N, hN⟩ : ∃ N, N = tkN toks S1.1 := ⟨_, rfl⟩
  obtain ⟨S2, hS2⟩ : ∃ S, S = pTake toks [2] S1 := ⟨_, rfl⟩
  have hi2 : S2.1 < toks.length := by rw [hS2]; exact pTake_lt hE rfl hi1
  have HC2 : Hid (∀ W : World, Ps W bp gt capt toks S1 → Calls Tryz.prog 114 #[.pointer (some ⟨bp, 0, none⟩)] W fun e w' => e = .returned (.agg #[.int .i64 (srt N), .string N.s, .int .i64 (tval N), .int .i64 N.line]) ∧ W.grownBy w' (some bp) ∧ Ps w' bp gt capt toks S2) := fun W hW => gr_name' hE hi1 hN hS2 W hW
  obtain ⟨S3, hS3⟩ : ∃ S, S = pTake toks [18] S2 := ⟨_, rfl⟩
  have hi3 : S3.1 < toks.length := by rw [hS3]; exact pTake_lt hE rfl hi2
  have HC3 : Hid (∀ (W : World) (g : Nat), Ps W bp gt capt toks S2 → g = W.heap.size → Calls Tryz.prog 69 #[.pointer (some ⟨bp, 0, none⟩), .slice (some ⟨g, 0, none⟩) 1 1] (W.alloc (.cells #[.int .i64 18] 127)) fun e w' => ∃ N : PTok, N = tkN toks S2.1 ∧ e = .returned (.agg #[.int .i64 (srt N), .string N.s, .int .i64 (tval N), .int .i64 N.line]) ∧ (W.alloc (.cells #[.int .i64 18] 127)).grownBy w' (some bp) ∧ Ps w' bp gt capt toks S3) := fun W g hW hg => (gr_take' hE hi2 [18] 1 rfl (by decide) rfl hS3 W hW g hg rfl).mono fun e w' hx => ⟨_, rfl, hx⟩
  obtain ⟨L, hL⟩ : ∃ N, N = tkN toks S3.1 := ⟨_, rfl⟩
  obtain ⟨S4, hS4⟩ : ∃ S, S = pTake toks [2] S3 := ⟨_, rfl⟩
  have hi4 : S4.1 < toks.length := by rw [hS4]; exact pTake_lt hE rfl hi3
  have HC4 : Hid (∀ W : World, Ps W bp gt capt toks S3 → Calls Tryz.prog 114 #[.pointer (some ⟨bp, 0, none⟩)] W fun e w' => e = .returned (.agg #[.int .i64 (srt L), .string L.s, .int .i64 (tval L), .int .i64 L.line]) ∧ W.grownBy w' (some bp) ∧ Ps w' bp gt capt toks S4) := fun W hW => gr_name' hE hi3 hL hS4 W hW
  obtain ⟨S5, hS5⟩ : ∃ S, S = pTake toks [19] S4 := ⟨_, rfl⟩
  have hi5 : S5.1 < toks.length := by rw [hS5]; exact pTake_lt hE rfl hi4
  have HC5 : Hid (∀ (W : World) (g : Nat), Ps W bp gt capt toks S4 → g = W.heap.size → Calls Tryz.prog 69 #[.pointer (some ⟨bp, 0, none⟩), .slice (some ⟨g, 0, none⟩) 1 1] (W.alloc (.cells #[.int .i64 19] 127)) fun e w' => ∃ N : PTok, N = tkN toks S4.1 ∧ e = .returned (.agg #[.int .i64 (srt N), .string N.s, .int .i64 (tval N), .int .i64 N.line]) ∧ (W.alloc (.cells #[.int .i64 19] 127)).grownBy w' (some bp) ∧ Ps w' bp gt capt toks S5) := fun W g hW hg => (gr_take' hE hi4 [19] 1 rfl (by decide) rfl hS5 W hW g hg rfl).mono fun e w' hx => ⟨_, rfl, hx⟩
  obtain ⟨S6, hS6⟩ : ∃ S, S = pTake toks [14] S5 := ⟨_, rfl⟩
  have hi6 : S6.1 < toks.length := by rw [hS6]; exact pTake_lt hE rfl hi5
  have HC6 : Hid (∀ (W : World) (g : Nat), Ps W bp gt capt toks S5 → g = W.heap.size → Calls Tryz.prog 69 #[.pointer (some ⟨bp, 0, none⟩), .slice (some ⟨g, 0, none⟩) 1 1] (W.alloc (.cells #[.int .i64 14] 127)) fun e w' => ∃ N : PTok, N = tkN toks S5.1 ∧ e = .returned (.agg #[.int .i64 (srt N), .string N.s, .int .i64 (tval N), .int .i64 N.line]) ∧ (W.alloc (.cells #[.int .i64 14] 127)).grownBy w' (some bp) ∧ Ps w' bp gt capt toks S6) := fun W g hW hg => (gr_take' hE hi5 [14] 1 rfl (by decide) rfl hS6 W hW g hg rfl).mono fun e w' hx => ⟨_, rfl, hx⟩
  obtain ⟨M, hM⟩ : ∃ N, N = tkN toks S6.1 := ⟨_, rfl⟩
  obtain ⟨S7, hS7⟩ : ∃ S, S = pTake toks [2] S6 := ⟨_, rfl⟩
  have hi7 : S7.1 < toks.length := by rw [hS7]; exact pTake_lt hE rfl hi6
  have HC7 : Hid (∀ W : World, Ps W bp gt capt toks S6 → Calls Tryz.prog 114 #[.pointer (some ⟨bp, 0, none⟩)] W fun e w' => e = .returned (.agg #[.int .i64 (srt M), .string M.s, .int .i64 (tval M), .int .i64 M.line]) ∧ W.grownBy w' (some bp) ∧ Ps w' bp gt capt toks S7) := fun W hW => gr_name' hE hi6 hM hS7 W hW
  have HRes : Hid (pStmt toks st = ({ kw := T, name := N, names := [L, M] }, S7)) := by
    rw [Hid]; rw [hS7, hM, hS6, hS5, hS4, hL, hS3, hS2, hN, hS1, hT]; unfold pStmt; simp [← hT, hk]
  have HX : Hid (∀ e w', (∃ vn vu vt vl, e = .returned (.agg (gsCells ({ kw := T, name := N, names := [L, M] }) vn vu vt vl)) ∧ GsOwn w' w.heap.size ({ kw := T, name := N, names := [L, M] }) vn vu vt vl ∧ w.grownBy w' (some bp) ∧ Ps w' bp gt capt toks S7 ∧ (S7).1 < toks.length) → StPost toks st w bp gt capt e w') := fun e w' hx => by unfold StPost; rw [HRes.out]; exact hx
  clear h hk HRes hT hS1 hN hS2 hS3 hL hS4 hS5 hS6 hM hS7
  go_enter Tryz.func68, Tryz.ntmps68
  go_wp2_with (first | (go_at_call 69; refine (HC6.out _ _ hP5 (by first | rfl | (simp; done) | simp [World.setCell])).mono ?_; rintro e w6 ⟨X6, _, rfl, hg6, hP6⟩; have s6 := s5.call hg6; have hl6 := s6.lt; clear d0 d1 d2 d3; have hp5 := hP5.lt; have hv6 : w4.heap.size < w6.heap.size := (by have := hg6.size; simp at this; omega); have hB6 := past1 hB5 hv5 hg6 (by simp; omega); obtain ⟨d0, d1, d2, d3, _, _, _, _⟩ := cells4 hB6) | (go_at_call 69; refine (HC5.out _ _ (hP4.alloc _) (by first | rfl | (simp; done) | simp [World.setCell])).mono ?_; rintro e w5 ⟨X5, _, rfl, hg5, hP5⟩; have s5 := (s4.alloc _).call hg5; have hl5 := s5.lt; have hp4 := hP4.lt; have hv5 : w4.heap.size < w5.heap.size := (by have := hg5.size; simp at this; omega); have hB5 := past0 (heap_alloc2_old w4 _ _) (by simp; omega) hg5 (by simp; omega); obtain ⟨d0, d1, d2, d3, _, _, _, _⟩ := cells4 hB5) | (go_at_call 114; refine (HC4.out _ hP3).mono ?_; rintro e w4 ⟨rfl, hg4, hP4⟩; have s4 := s3.call0 hg4; have hl4 := s4.lt) | (go_at_call 69; refine (HC3.out _ _ (hP2.sf4 hbb hgb 4 (.int .i64 (srt N)) (.string N.s) (.int .i64 (tval N)) (.int .i64 N.line)) (by first | rfl | (simp; done) | simp [World.setCell])).mono ?_; rintro e w3 ⟨X3, _, rfl, hg3, hP3⟩; have s3 := t2.call hg3; have hl3 := s3.lt) | (go_at_call 114; refine (HC2.out _ (hP1.alloc _)).mono ?_; rintro e w2 ⟨rfl, hg2, hP2⟩; have s2 := s1.call0 hg2; have c4_2 := cell_of s2.hS 4 _ rfl; have f4_2 := frozen_of s2.hS 4; have c5_2 := cell_of s2.hS 5 _ rfl; have f5_2 := frozen_of s2.hS 5; have c6_2 := cell_of s2.hS 6 _ rfl; have f6_2 := frozen_of s2.hS 6; have c7_2 := cell_of s2.hS 7 _ rfl; have f7_2 := frozen_of s2.hS 7; have t2 := s2.set4 (cs' := #[.int .i64 (srt T), .string T.s, .int .i64 (tval T), .int .i64 T.line, .int .i64 (srt N), .string N.s, .int .i64 (tval N), .int .i64 N.line, .slice none 0 0, .slice none 0 0, .slice none 0 0, .int .i64 0, .string .empty, .int .i64 0, .int .i64 0, .slice none 0 0]) 4 (.int .i64 (srt N)) (.string N.s) (.int .i64 (tval N)) (.int .i64 N.line) rfl; have hl2 := t2.lt) | (go_at_call 69; refine HC1.get.mono ?_; rintro e w1 ⟨rfl, hg1, hP1⟩; have s1 := sb_start hlp hg1 #[.int .i64 (srt T), .string T.s, .int .i64 (tval T), .int .i64 T.line, .int .i64 0, .string .empty, .int .i64 0, .int .i64 0, .slice none 0 0, .slice none 0 0, .slice none 0 0, .int .i64 0, .string .empty, .int .i64 0, .int .i64 0, .slice none 0 0]; have hbb : bp < w1.heap.size := (by have := s1.lo; omega); have hgb : gt < w1.heap.size := (by have := s1.lo; omega)))
  have hp6 := hP6.lt
  go_region_law (go_simp; go_at_call 114; refine (HC7.out _ hP6.drew).mono ?_; rintro e w7 ⟨rfl, hg7, hP7⟩; have s7 := s6.drew.call0 hg7; have hB7 := past0 (w := w6.drew) hB6 hv6 hg7 (by simp; omega); clear d0 d1 d2 d3; obtain ⟨d0, d1, d2, d3, _, _, _, _⟩ := cells4 hB7; have f8_7 := frozen_of s7.hS 8; obtain ⟨a0, a1, a2, a3, a4, a5, a6, a7, a8, a9, a10, a11, a12, a13, a14, a15, z0, z1, z2, z3, z4, z5, z6, z7, z8, z9, z10, z11, z12, z13, z14, z15⟩ := cells16 s7.hA; obtain ⟨c0, c1, c2, c3, c4, c5, c6, c7, c8, c9, c10, c11, c12, c13, c14, c15, _, _, _, _, _, _, _, _, _, _, _, _, _, _, _, _⟩ := cells16 s7.hS; have hq0 := s7.lt; have hq1 := s7.lo; have hq4 : w.heap.size < w7.heap.size := (by omega); have hq2 : w.heap.size ≠ w1.heap.size := (by omega); have hq3 : w1.heap.size ≠ w.heap.size := (by omega))
  all_goals go_wp2
  all_goals have tE := s7.sf (cs' := #[.int .i64 (srt T), .string T.s, .int .i64 (tval T), .int .i64 T.line, .int .i64 (srt N), .string N.s, .int .i64 (tval N), .int .i64 N.line, .slice (some ⟨w7.heap.size, 0, none⟩) 2 2, .slice none 0 0, .slice none 0 0, .int .i64 0, .string .empty, .int .i64 0, .int .i64 0, .slice none 0 0]) 8 (.slice (some ⟨w7.heap.size, 0, none⟩) 2 2) rfl
  all_goals obtain ⟨hF, hgF, hPF, hoF⟩ := st_end (gt := gt) (capt := capt) (toks := toks) tE hlg (.int .i64 (srt T)) (.string T.s) (.int .i64 (tval T)) (.int .i64 T.line) (.int .i64 (srt N)) (.string N.s) (.int .i64 (tval N)) (.int .i64 N.line) (.slice (some ⟨w7.heap.size, 0, none⟩) 2 2) (.slice none 0 0) (.slice none 0 0) (.int .i64 0) (.string .empty) (.int .i64 0) (.int .i64 0) (.slice none 0 0)
  all_goals refine bodyPost_ret (results_cell_row rfl _ _ w.heap.size 137 _ _ _ rfl ((heap_alloc_old _ _ (by have := hgF.size; simp [World.setCell]; omega)).trans hF) Tryz.underlying137 rfl (by kernel_rfl)) rfl ?_
  all_goals exact HX.out _ _ ⟨.slice (some ⟨w7.heap.size, 0, none⟩) 2 2, .slice none 0 0, .slice none 0 0, .slice none 0 0, by simp only [gsCells, srt_zero, tval_zero]; rfl, ⟨by have q := own_newN (B := w.heap.size) (s := 4) (n := 2) (e := 129) (cs := #[.int .i64 (srt L), .string L.s, .int .i64 (tval L), .int .i64 L.line, .int .i64 (srt M), .string M.s, .int .i64 (tval M), .int .i64 M.line]) (heap_alloc_new _ _) (Nat.le_trans hgF.size (Nat.le_refl _)) rfl (by decide); simpa [World.setCell, tokCells, tokCell] using q, World.ownsRow_nil _ _ _ _, World.ownsRow_nil _ _ _ _, World.ownsRow_nil _ _ _ _⟩, hgF.trans (World.grownBy_alloc _ _ _), (hPF _ (hP7.sf hbb hgb 8 (.slice (some ⟨w7.heap.size, 0, none⟩) 2 2))).alloc _, hi7⟩
end Go.Proofs.YthpcbbnabnlanaaGreatDoor

/-
  The program's parser: a statement diff.
-/
namespace Go.Proofs.YthpcbbnabnlanaaGreatDoor
open Go.RowKit
set_option linter.unusedVariables false
variable {w : World} {bp gt capt : Nat} {toks : List PTok} {st : PSt}

set_option maxRecDepth 100000 in
set_option maxHeartbeats 4000000 in
theorem gr_st_diff (h : Ps w bp gt capt toks st) (hE : EndOk toks) (hi : st.1 < toks.length) (hk : srt (tkN toks st.1) = 9) :
    Calls Tryz.prog 68 #[.pointer (some ⟨bp, 0, none⟩)] w (StPost toks st w bp gt capt) := by
  have HP : Hid (Ps w bp gt capt toks st) := h
  have hlp := h.lt
  have hlg := h.ltg
  have hlen := hE.len
  obtain ⟨T, hT⟩ : ∃ T, T = tkN toks st.1 := ⟨_, rfl⟩
  rw [← hT] at hk
  obtain ⟨S1, hS1⟩ : ∃ S, S = pTake toks kwSorts st := ⟨_, rfl⟩
  have hi1 : S1.1 < toks.length := by rw [hS1]; exact pTake_lt hE rfl hi
  have HC1 := Kept.mk (gr_take' hE hi kwSorts 7 rfl (by decide) hT hS1 (o := .cells #[.int .i64 4, .int .i64 5, .int .i64 6, .int .i64 7, .int .i64 8, .int .i64 9, .int .i64 10] 127) (w.alloc (.cells zero16 137)) (HP.out.alloc _) (w.heap.size + 1) (by simp) rfl)
  have e4 : (srt T == 4) = false := by rw [hk]; rfl
  have e5 : (srt T == 5) = false := by rw [hk]; rfl
  have e7 : (srt T == 7) = false := by rw [hk]; rfl
  have e6 : (srt T == 6) = false := by rw [hk]; rfl
  have e8 : (srt T == 8) = false := by rw [hk]; rfl
  have e9 : (srt T == 9) = true := by rw [hk]; rfl
  have e10 : (srt T == 10) = false := by rw [hk]; rfl
  obtain ⟨R, hR⟩ : ∃ R, R = pSer toks (pTok toks 2) S1 := ⟨_, rfl⟩
  have HRes : Hid (pStmt toks st = ({ kw := T, names := R.1 }, R.2)) := by
    rw [Hid, hR, hS1, hT]; unfold pStmt; simp [← hT, hk]
  have HC2 : Hid (∀ W : World, Ps W bp gt capt toks S1 → Calls Tryz.prog 116 #[.pointer (some ⟨bp, 0, none⟩), .func (.func 114) #[.pointer (some ⟨bp, 0, none⟩)] #[]] W fun e w' => ∃ v, e = .returned v ∧ w'.ownsRow W.heap.size 129 4 v R.1.length (tokCells R.1) ∧ W.grownBy w' (some bp) ∧ Ps w' bp gt capt toks R.2 ∧ R.2.1 < toks.length) := fun W hW => by
    rw [hR]; exact gr_ser_name hW hE hi1
  have HX : Hid (∀ e w', (∃ vn vu vt vl, e = .returned (.agg (gsCells { kw := T, names := R.1 } vn vu vt vl)) ∧ GsOwn w' w.heap.size { kw := T, names := R.1 } vn vu vt vl ∧ w.grownBy w' (some bp) ∧ Ps w' bp gt capt toks R.2 ∧ R.2.1 < toks.length) → StPost toks st w bp gt capt e w') := fun e w' hx => by unfold StPost; rw [HRes.out]; exact hx
  clear h hk hT hS1 hR HRes
  go_enter Tryz.func68, Tryz.ntmps68
  go_wp2_with (first | (go_at_call 116; refine (HC2.out _ (hP1.alloc _)).mono ?_; rintro e w2 ⟨v, rfl, hown, hg2, hP2, hi2⟩; obtain ⟨va, vm, vc, rfl⟩ := own_slice hown; have s2 := s1.call0 hg2; have hb0 := s2.lt; have hb1 := s2.lo; have hb2 : w.heap.size < w2.heap.size := (by omega); have hb3 : w.heap.size ≠ w1.heap.size := (by omega); have hb4 : w1.heap.size ≠ w.heap.size := (by omega); obtain ⟨c0, c1, c2, c3, c4, c5, c6, c7, c8, c9, c10, c11, c12, c13, c14, c15, _, _, _, _, _, _, _, _, f8, _, _, _, _, _, _, _⟩ := cells16 s2.hS; obtain ⟨a0, a1, a2, a3, a4, a5, a6, a7, a8, a9, a10, a11, a12, a13, a14, a15, z0, z1, z2, z3, z4, z5, z6, z7, z8, z9, z10, z11, z12, z13, z14, z15⟩ := cells16 s2.hA) | (go_at_call 69; refine HC1.get.mono ?_; rintro e w1 ⟨rfl, hg1, hP1⟩; have s1 := sb_start hlp hg1 #[.int .i64 (srt T), .string T.s, .int .i64 (tval T), .int .i64 T.line, .int .i64 0, .string .empty, .int .i64 0, .int .i64 0, .slice none 0 0, .slice none 0 0, .slice none 0 0, .int .i64 0, .string .empty, .int .i64 0, .int .i64 0, .slice none 0 0]))
  have s3 := s2.sf (cs' := #[.int .i64 (srt T), .string T.s, .int .i64 (tval T), .int .i64 T.line, .int .i64 0, .string .empty, .int .i64 0, .int .i64 0, .slice va vm vc, .slice none 0 0, .slice none 0 0, .int .i64 0, .string .empty, .int .i64 0, .int .i64 0, .slice none 0 0]) 8 (.slice va vm vc) rfl
  obtain ⟨hF, hgF, hPF, hoF⟩ := st_end (gt := gt) (capt := capt) (toks := toks) s3 hlg (.int .i64 (srt T)) (.string T.s) (.int .i64 (tval T)) (.int .i64 T.line) (.int .i64 0) (.string .empty) (.int .i64 0) (.int .i64 0) (.slice va vm vc) (.slice none 0 0) (.slice none 0 0) (.int .i64 0) (.string .empty) (.int .i64 0) (.int .i64 0) (.slice none 0 0)
  refine bodyPost_ret (results_cell_row rfl _ _ w.heap.size 137 _ _ _ rfl hF Tryz.underlying137 rfl (by kernel_rfl)) rfl ?_
  refine HX.out _ _ ⟨.slice va vm vc, .slice none 0 0, .slice none 0 0, .slice none 0 0, by simp only [gsCells, srt_zero, tval_zero]; rfl, ⟨hoF _ _ _ _ _ _ (by simp; omega) (own_far hown (by simp) _ _), World.ownsRow_nil _ _ _ _, World.ownsRow_nil _ _ _ _, World.ownsRow_nil _ _ _ _⟩, hgF, hPF _ (hP2.sf (by omega) (by omega) _ _), hi2⟩
end Go.Proofs.YthpcbbnabnlanaaGreatDoor

/-
  The program's parser: a statement or.
-/
namespace Go.Proofs.YthpcbbnabnlanaaGreatDoor
open Go.RowKit
set_option linter.unusedVariables false
variable {w : World} {bp gt capt : Nat} {toks : List PTok} {st : PSt}

set_option maxRecDepth 100000 in
set_option maxHeartbeats 8000000 in
theorem gr_st_or (h : Ps w bp gt capt toks st) (hE : EndOk toks) (hi : st.1 < toks.length) (hk : srt (tkN toks st.1) = 10) :
    Calls Tryz.prog 68 #[.pointer (some ⟨bp, 0, none⟩)] w (StPost toks st w bp gt capt) := by
  have HP : Hid (Ps w bp gt capt toks st) := h
  have hlp := h.lt
  have hlg := h.ltg
  have hlen := hE.len
  obtain ⟨T, hT⟩ : ∃ T, T = tkN toks st.1 := ⟨_, rfl⟩
  rw [← hT] at hk
  obtain ⟨S1, hS1⟩ : ∃ S, S = pTake toks kwSorts st := ⟨_, rfl⟩
  have hi1 : S1.1 < toks.length := by rw [hS1]; exact pTake_lt hE rfl hi
  have HC1 := Kept.mk (gr_take' hE hi kwSorts 7 rfl (by decide) hT hS1 (o := .cells #[.int .i64 4, .int .i64 5, .int .i64 6, .int .i64 7, .int .i64 8, .int .i64 9, .int .i64 10] 127) (w.alloc (.cells zero16 137)) (HP.out.alloc _) (w.heap.size + 1) (by simp) rfl)
  have e4 : (srt T == 4) = false := by rw [hk]; rfl
  have e5 : (srt T == 5) = false := by rw [hk]; rfl
  have e7 : (srt T == 7) = false := by rw [hk]; rfl
  have e6 : (srt T == 6) = false := by rw [hk]; rfl
  have e8 : (srt T == 8) = false := by rw [hk]; rfl
  have e9 : (srt T == 9) = false := by rw [hk]; rfl
  have e10 : (srt T == 10) = true := by rw [hk]; rfl
  obtain ⟨R2, hR2⟩ : ∃ R, R = pSer toks (pLit toks) S1 := ⟨_, rfl⟩
  have hi2 : R2.2.1 < toks.length := by rw [hR2]; exact pSer_lt hE (fun S h => (pLit_lt hE h).1) hi1
  have HC2 : Hid (∀ W : World, Ps W bp gt capt toks S1 → Calls Tryz.prog 118 #[.pointer (some ⟨bp, 0, none⟩), .func (.func 119) #[.pointer (some ⟨bp, 0, none⟩)] #[]] W fun e w' => ∃ v, e = .returned v ∧ w'.ownsRow W.heap.size 194 8 v R2.1.length (glCells R2.1) ∧ W.grownBy w' (some bp) ∧ Ps w' bp gt capt toks R2.2 ∧ R2.2.1 < toks.length) := fun W hW => by rw [hR2]; exact gr_ser_lit hW hE hi1
  have HRes : Hid (pStmt toks st = ({ kw := T, lits := R2.1 }, R2.2)) := by
    rw [Hid]; rw [hR2, hS1, hT]; unfold pStmt; simp [← hT, hk]
  have HX : Hid (∀ e w', (∃ vn vu vt vl, e = .returned (.agg (gsCells ({ kw := T, lits := R2.1 }) vn vu vt vl)) ∧ GsOwn w' w.heap.size ({ kw := T, lits := R2.1 }) vn vu vt vl ∧ w.grownBy w' (some bp) ∧ Ps w' bp gt capt toks R2.2 ∧ (R2.2).1 < toks.length) → StPost toks st w bp gt capt e w') := fun e w' hx => by unfold StPost; rw [HRes.out]; exact hx
  clear h hk HRes hT hS1 hR2
  go_enter Tryz.func68, Tryz.ntmps68
  go_wp2_with (first | (go_at_call 118; refine (HC2.out _ (hP1.alloc _)).mono ?_; rintro e w2 ⟨v2, rfl, hown2, hg2, hP2, _⟩; obtain ⟨va2, vm2, vc2, rfl⟩ := own_slice hown2; have s2 := s1.call0 hg2; have hb2 : w1.heap.size < _ := s1.lt; have c15_2 := cell_of s2.hS 15 _ rfl; have f15_2 := frozen_of s2.hS 15; have t2 := s2.sf (cs' := #[.int .i64 (srt T), .string T.s, .int .i64 (tval T), .int .i64 T.line, .int .i64 0, .string .empty, .int .i64 0, .int .i64 0, .slice none 0 0, .slice none 0 0, .slice none 0 0, .int .i64 0, .string .empty, .int .i64 0, .int .i64 0, .slice va2 vm2 vc2]) 15 (.slice va2 vm2 vc2) rfl; have hl2 := t2.lt; have own2 := own_far hown2 hb2 15 (.slice va2 vm2 vc2); obtain ⟨a0, a1, a2, a3, a4, a5, a6, a7, a8, a9, a10, a11, a12, a13, a14, a15, z0, z1, z2, z3, z4, z5, z6, z7, z8, z9, z10, z11, z12, z13, z14, z15⟩ := cells16 s2.hA; obtain ⟨c0, c1, c2, c3, c4, c5, c6, c7, c8, c9, c10, c11, c12, c13, c14, c15, _, _, _, _, _, _, _, _, _, _, _, _, _, _, _, _⟩ := cells16 s2.hS; have hq0 := s2.lt; have hq1 := s2.lo; have hq4 : w.heap.size < w2.heap.size := (by omega); have hq2 : w.heap.size ≠ w1.heap.size := (by omega); have hq3 : w1.heap.size ≠ w.heap.size := (by omega)) | (go_at_call 69; refine HC1.get.mono ?_; rintro e w1 ⟨rfl, hg1, hP1⟩; have s1 := sb_start hlp hg1 #[.int .i64 (srt T), .string T.s, .int .i64 (tval T), .int .i64 T.line, .int .i64 0, .string .empty, .int .i64 0, .int .i64 0, .slice none 0 0, .slice none 0 0, .slice none 0 0, .int .i64 0, .string .empty, .int .i64 0, .int .i64 0, .slice none 0 0]; have hbb : bp < w1.heap.size := (by have := s1.lo; omega); have hgb : gt < w1.heap.size := (by have := s1.lo; omega)))
  obtain ⟨hF, hgF, hPF, hoF⟩ := st_end (gt := gt) (capt := capt) (toks := toks) t2 hlg (.int .i64 (srt T)) (.string T.s) (.int .i64 (tval T)) (.int .i64 T.line) (.int .i64 0) (.string .empty) (.int .i64 0) (.int .i64 0) (.slice none 0 0) (.slice none 0 0) (.slice none 0 0) (.int .i64 0) (.string .empty) (.int .i64 0) (.int .i64 0) (.slice va2 vm2 vc2)
  refine bodyPost_ret (results_cell_row rfl _ _ w.heap.size 137 _ _ _ rfl hF Tryz.underlying137 rfl (by kernel_rfl)) rfl ?_
  exact HX.out _ _ ⟨.slice none 0 0, .slice none 0 0, .slice none 0 0, .slice va2 vm2 vc2, by simp only [gsCells, srt_zero, tval_zero]; rfl, ⟨World.ownsRow_nil _ _ _ _, World.ownsRow_nil _ _ _ _, World.ownsRow_nil _ _ _ _, hoF _ _ _ _ _ _ (by have := s1.lo; have := hb2; first | omega | (simp at *; omega)) own2⟩, hgF, hPF _ (hP2.sf hbb hgb 15 (.slice va2 vm2 vc2)), hi2⟩
end Go.Proofs.YthpcbbnabnlanaaGreatDoor

/-
  The program's parser: a statement none.
-/
namespace Go.Proofs.YthpcbbnabnlanaaGreatDoor
open Go.RowKit
set_option linter.unusedVariables false
variable {w : World} {bp gt capt : Nat} {toks : List PTok} {st : PSt}

set_option maxRecDepth 100000 in
set_option maxHeartbeats 8000000 in
theorem gr_st_none (h : Ps w bp gt capt toks st) (hE : EndOk toks) (hi : st.1 < toks.length) (hk : kwSorts.contains (srt (tkN toks st.1)) = false) :
    Calls Tryz.prog 68 #[.pointer (some ⟨bp, 0, none⟩)] w (StPost toks st w bp gt capt) := by
  have HP : Hid (Ps w bp gt capt toks st) := h
  have hlp := h.lt
  have hlg := h.ltg
  have hlen := hE.len
  obtain ⟨T, hT⟩ : ∃ T, T = tkN toks st.1 := ⟨_, rfl⟩
  rw [← hT] at hk
  obtain ⟨S1, hS1⟩ : ∃ S, S = pTake toks kwSorts st := ⟨_, rfl⟩
  have hi1 : S1.1 < toks.length := by rw [hS1]; exact pTake_lt hE rfl hi
  have HC1 := Kept.mk (gr_take' hE hi kwSorts 7 rfl (by decide) hT hS1 (o := .cells #[.int .i64 4, .int .i64 5, .int .i64 6, .int .i64 7, .int .i64 8, .int .i64 9, .int .i64 10] 127) (w.alloc (.cells zero16 137)) (HP.out.alloc _) (w.heap.size + 1) (by simp) rfl)
  simp only [kwSorts, List.contains_cons, List.contains_nil, Bool.or_false, Bool.or_eq_false_iff] at hk
  have e4 : (srt T == 4) = false := by first | exact hk.1 | exact hk.2.1 | exact hk.2.2.1 | exact hk.2.2.2.1 | exact hk.2.2.2.2.1 | exact hk.2.2.2.2.2.1 | exact hk.2.2.2.2.2.2
  have e5 : (srt T == 5) = false := by first | exact hk.1 | exact hk.2.1 | exact hk.2.2.1 | exact hk.2.2.2.1 | exact hk.2.2.2.2.1 | exact hk.2.2.2.2.2.1 | exact hk.2.2.2.2.2.2
  have e7 : (srt T == 7) = false := by first | exact hk.1 | exact hk.2.1 | exact hk.2.2.1 | exact hk.2.2.2.1 | exact hk.2.2.2.2.1 | exact hk.2.2.2.2.2.1 | exact hk.2.2.2.2.2.2
  have e6 : (srt T == 6) = false := by first | exact hk.1 | exact hk.2.1 | exact hk.2.2.1 | exact hk.2.2.2.1 | exact hk.2.2.2.2.1 | exact hk.2.2.2.2.2.1 | exact hk.2.2.2.2.2.2
  have e8 : (srt T == 8) = false := by first | exact hk.1 | exact hk.2.1 | exact hk.2.2.1 | exact hk.2.2.2.1 | exact hk.2.2.2.2.1 | exact hk.2.2.2.2.2.1 | exact hk.2.2.2.2.2.2
  have e9 : (srt T == 9) = false := by first | exact hk.1 | exact hk.2.1 | exact hk.2.2.1 | exact hk.2.2.2.1 | exact hk.2.2.2.2.1 | exact hk.2.2.2.2.2.1 | exact hk.2.2.2.2.2.2
  have e10 : (srt T == 10) = false := by first | exact hk.1 | exact hk.2.1 | exact hk.2.2.1 | exact hk.2.2.2.1 | exact hk.2.2.2.2.1 | exact hk.2.2.2.2.2.1 | exact hk.2.2.2.2.2.2
  have HRes : Hid (pStmt toks st = ({ kw := T }, S1)) := by
    rw [Hid]; have d4 := hk.1; have d5 := hk.2.1; have d6 := hk.2.2.1; have d7 := hk.2.2.2.1; have d8 := hk.2.2.2.2.1; have d9 := hk.2.2.2.2.2.1; have d10 := hk.2.2.2.2.2.2; simp only [beq_eq_false_iff_ne, ne_eq] at d4 d5 d6 d7 d8 d9 d10; rw [hS1, hT]; unfold pStmt; simp [← hT, d4, d5, d6, d7, d8, d9, d10]
  have HX : Hid (∀ e w', (∃ vn vu vt vl, e = .returned (.agg (gsCells ({ kw := T }) vn vu vt vl)) ∧ GsOwn w' w.heap.size ({ kw := T }) vn vu vt vl ∧ w.grownBy w' (some bp) ∧ Ps w' bp gt capt toks S1 ∧ (S1).1 < toks.length) → StPost toks st w bp gt capt e w') := fun e w' hx => by unfold StPost; rw [HRes.out]; exact hx
  clear h hk HRes hT hS1
  go_enter Tryz.func68, Tryz.ntmps68
  go_wp2_with (first | (go_at_call 69; refine HC1.get.mono ?_; rintro e w1 ⟨rfl, hg1, hP1⟩; have s1 := sb_start hlp hg1 #[.int .i64 (srt T), .string T.s, .int .i64 (tval T), .int .i64 T.line, .int .i64 0, .string .empty, .int .i64 0, .int .i64 0, .slice none 0 0, .slice none 0 0, .slice none 0 0, .int .i64 0, .string .empty, .int .i64 0, .int .i64 0, .slice none 0 0]; have hbb : bp < w1.heap.size := (by have := s1.lo; omega); have hgb : gt < w1.heap.size := (by have := s1.lo; omega); have hA1 := past0 (heap_alloc2_old w _ _) (by simp; omega) hg1 (by simp; omega); obtain ⟨a0, a1, a2, a3, a4, a5, a6, a7, a8, a9, a10, a11, a12, a13, a14, a15, z0, z1, z2, z3, z4, z5, z6, z7, z8, z9, z10, z11, z12, z13, z14, z15⟩ := cells16 hA1; have hq4 : w.heap.size < w1.heap.size := s1.lo))
  obtain ⟨hF, hgF, hPF, hoF⟩ := st_end' (gt := gt) (capt := capt) (toks := toks) hA1 (((World.grownBy_alloc w _ _).trans (World.grownBy_alloc _ _ _)).trans hg1) hlp hlg (.int .i64 (srt T)) (.string T.s) (.int .i64 (tval T)) (.int .i64 T.line) (.int .i64 0) (.string .empty) (.int .i64 0) (.int .i64 0) (.slice none 0 0) (.slice none 0 0) (.slice none 0 0) (.int .i64 0) (.string .empty) (.int .i64 0) (.int .i64 0) (.slice none 0 0)
  refine bodyPost_ret (results_cell_row rfl _ _ w.heap.size 137 _ _ _ rfl ((heap_alloc_old _ _ (by have := hgF.size; simp [World.setCell]; omega)).trans hF) Tryz.underlying137 rfl (by kernel_rfl)) rfl ?_
  exact HX.out _ _ ⟨.slice none 0 0, .slice none 0 0, .slice none 0 0, .slice none 0 0, by simp only [gsCells, srt_zero, tval_zero]; rfl, ⟨World.ownsRow_nil _ _ _ _, World.ownsRow_nil _ _ _ _, World.ownsRow_nil _ _ _ _, World.ownsRow_nil _ _ _ _⟩, hgF.trans (World.grownBy_alloc _ _ _), (hPF _ hP1).alloc _, hi1⟩
end Go.Proofs.YthpcbbnabnlanaaGreatDoor

/-
  The program's parser: its statement, whatever it is; its Parse.
-/
namespace Go.Proofs.YthpcbbnabnlanaaGreatDoor
open Go.RowKit
set_option linter.unusedVariables false
variable {w : World} {bp gt capt : Nat} {toks : List PTok} {st : PSt}

theorem gr_statement (h : Ps w bp gt capt toks st) (hE : EndOk toks) (hi : st.1 < toks.length) :
    Calls Tryz.prog 68 #[.pointer (some ⟨bp, 0, none⟩)] w (StPost toks st w bp gt capt) := by
  by_cases h4 : srt (tkN toks st.1) = 4
  · exact gr_st_var h hE hi h4
  by_cases h5 : srt (tkN toks st.1) = 5
  · exact gr_st_list h hE hi h5
  by_cases h6 : srt (tkN toks st.1) = 6
  · exact gr_st_lin h hE hi h6
  by_cases h7 : srt (tkN toks st.1) = 7
  · exact gr_st_when h hE hi h7
  by_cases h8 : srt (tkN toks st.1) = 8
  · exact gr_st_at h hE hi h8
  by_cases h9 : srt (tkN toks st.1) = 9
  · exact gr_st_diff h hE hi h9
  by_cases h10 : srt (tkN toks st.1) = 10
  · exact gr_st_or h hE hi h10
  · exact gr_st_none h hE hi (by simp [kwSorts, h4, h5, h6, h7, h8, h9, h10])

/-- Parse's loop -/
def parseF (toks : List PTok) : Nat → List GSt → PSt → List GSt × PSt
  | 0, acc, st => (acc, st)
  | f + 1, acc, st => if st.2 = 0 ∧ srt (tkN toks st.1) ≠ 1 then parseF toks f (acc ++ [(pStmt toks st).1]) (pTake toks [11] (pStmt toks st).2) else (acc, st)
/-- the statements; where it stands at the end -/
def pParse (toks : List PTok) : List GSt × PSt := parseF toks (toks.length + 1) [] (0, 0)

/-- b stands behind a, and has no fault only if a has none -/
def Adv (a b : PSt) : Prop := a.1 ≤ b.1 ∧ (b.2 = 0 → a.2 = 0)
theorem Adv.refl (a : PSt) : Adv a a := ⟨Nat.le_refl _, fun h => h⟩
theorem Adv.trans {a b c : PSt} (h : Adv a b) (k : Adv b c) : Adv a c := ⟨Nat.le_trans h.1 k.1, fun q => h.2 (k.2 q)⟩
theorem adv_take (toks : List PTok) (sorts : List Int) (a : PSt) : Adv a (pTake toks sorts a) := by
  refine ⟨pTake_le, fun h => ?_⟩
  unfold pTake at h
  split at h
  · assumption
  · exact h
theorem adv_term (toks : List PTok) (neg : Bool) (a : PSt) : Adv a (pTerm toks neg a).2 := by
  unfold pTerm; split
  · exact ((adv_take _ _ _).trans (adv_take _ _ _)).trans (adv_take _ _ _)
  · exact adv_take _ _ _
theorem adv_lit (toks : List PTok) (a : PSt) : Adv a (pLit toks a).2 := by
  unfold pLit; split
  · exact (adv_take _ _ _).trans (adv_take _ _ _)
  · exact adv_take _ _ _
theorem adv_sumF (toks : List PTok) (f : Nat) : ∀ (acc : List GTerm) (a : PSt), Adv a (sumF toks f acc a).2 := by
  induction f with
  | zero => intro acc a; exact Adv.refl a
  | succ f ih =>
    intro acc a; simp only [sumF]; split
    · exact ((adv_take _ _ _).trans (adv_term _ _ _)).trans (ih _ _)
    · exact Adv.refl a
theorem adv_sum (toks : List PTok) (a : PSt) : Adv a (pSum toks a).2 := (adv_term _ _ _).trans (adv_sumF _ _ _ _)
theorem adv_serF {α : Type} (toks : List PTok) (one : PSt → α × PSt) (h : ∀ a, Adv a (one a).2) (f : Nat) : ∀ (acc : List α) (a : PSt), Adv a (serF toks one f acc a).2 := by
  induction f with
  | zero => intro acc a; exact Adv.refl a
  | succ f ih =>
    intro acc a; simp only [serF]; split
    · exact ((adv_take _ _ _).trans (h _)).trans (ih _ _)
    · exact Adv.refl a
theorem adv_ser {α : Type} (toks : List PTok) (one : PSt → α × PSt) (h : ∀ a, Adv a (one a).2) (a : PSt) : Adv a (pSer toks one a).2 := (h _).trans (adv_serF _ _ h _ _ _)
theorem adv_lin (toks : List PTok) (s : GSt) (a : PSt) : Adv a (pLin toks s a).2 := ((adv_sum _ _).trans (adv_take _ _ _)).trans (adv_take _ _ _)
theorem adv_stmt (toks : List PTok) (a : PSt) : Adv (pTake toks kwSorts a) (pStmt toks a).2 := by
  have T := fun sorts b => adv_take toks sorts b
  have S := fun s b => adv_ser toks (pTok toks s) (fun b => adv_take toks [s] b) b
  unfold pStmt
  simp only
  split
  · exact ((((T _ _).trans (T _ _)).trans (T _ _)).trans (T _ _)).trans (T _ _)
  · split
    · exact ((((T _ _).trans (T _ _)).trans (T _ _)).trans (S _ _)).trans (T _ _)
    · split
      · exact ((T _ _).trans (T _ _)).trans (adv_lin _ _ _)
      · split
        · exact adv_lin _ _ _
        · split
          · exact (((((T _ _).trans (T _ _)).trans (T _ _)).trans (T _ _)).trans (T _ _)).trans (T _ _)
          · split
            · exact S _ _
            · split
              · exact adv_ser _ _ (adv_lit toks) _
              · exact Adv.refl _
/-- a round's measure -/
def parM (toks : List PTok) (S : PSt) : Nat := if S.2 = 0 then toks.length - S.1 + 1 else 0
theorem parM_less {S : PSt} (hL : ∀ i, i < toks.length → 1 ≤ (tkN toks i).line) (hi : S.1 < toks.length) (h0 : S.2 = 0) : parM toks (pTake toks [11] (pStmt toks S).2) < parM toks S := by
  have h1 := (adv_stmt toks S).trans (adv_take toks [11] _)
  unfold parM
  rw [if_pos h0]
  split
  · rename_i h
    have h2 := h1.2 h
    have h3 : (pTake toks kwSorts S).1 = S.1 + 1 := by
      unfold pTake at h2 ⊢
      rw [if_pos h0] at h2 ⊢
      split
      · rfl
      · rename_i hc
        rw [if_neg hc] at h2
        have := hL S.1 hi
        simp only at h2
        omega
    have h4 := h1.1
    omega
  · omega

/-- a statement with the four rows that it lies by -/
structure GRow where
  s : GSt
  vn : Value
  vu : Value
  vt : Value
  vl : Value
def GRow.cells (x : GRow) : List Value := (gsCells x.s x.vn x.vu x.vt x.vl).toList
def GRow.own (w : World) (B : Nat) (x : GRow) : Prop := GsOwn w B x.s x.vn x.vu x.vt x.vl
/-- rows of different elements lie in different blocks -/
theorem row_ne {w : World} {B e n s b : Nat} {v : Value} {xs : List Value} {cs : Array Value} {t : TypeId} {fr : Nat × Nat} (h : w.ownsRow B e s v n xs) (hb : w.heap[b]? = some (.cells cs t fr)) (he : e ≠ t) : v.ownBlock ≠ some b := by
  rcases h.2 with ⟨rfl, _⟩ | ⟨g, cap, cur, rfl, _, h3, _⟩
  · intro e; cases e
  · intro e1
    have : g = b := Option.some.inj e1
    subst this
    rw [h3] at hb
    cases hb
    exact he rfl
/-- what turns a block below, or one of statements, leaves a statement's rows -/
theorem GRow.kept {w w' : World} {B : Nat} {x : GRow} {row : Option Nat} (h : x.own w B) (hg : w.grownBy w' row) (hr : ∀ b, row = some b → b < B ∨ ∃ cs fr, w.heap[b]? = some (.cells cs 137 fr)) : x.own w' B := by
  have key : ∀ {e s n : Nat} {v : Value} {xs : List Value}, e ≠ 137 → w.ownsRow B e s v n xs → w'.ownsRow B e s v n xs := fun {e s n v xs} he ho => by
    refine ho.kept hg ?_
    cases row with
    | none => exact own_none v
    | some b =>
      right
      rcases hr b rfl with q | ⟨cs, fr, q⟩
      · exact low_ne ho q
      · exact row_ne ho q he
  exact ⟨key (by decide) h.n, key (by decide) h.u, key (by decide) h.t, key (by decide) h.l⟩
theorem gs_one (x : GRow) (hn : x.vn.oneCell' = true) (hu : x.vu.oneCell' = true) (ht : x.vt.oneCell' = true) (hl : x.vl.oneCell' = true) : ∀ u ∈ x.cells, u.oneCell' = true := by
  intro u hu'
  simp only [GRow.cells, gsCells, List.mem_cons, List.not_mem_nil, or_false] at hu'
  rcases hu' with rfl | rfl | rfl | rfl | rfl | rfl | rfl | rfl | rfl | rfl | rfl | rfl | rfl | rfl | rfl | rfl
  all_goals first | rfl | assumption
theorem infoSt : (Tryz.prog.info? 137).map (fun i => (i.zero, i.size, i.bytes)) = some (some (.agg zero16), 16, 216) := by kernel_rfl

/-- what stands at a round's head -/
def ParRel (toks : List PTok) (gt capt : Nat) (RES : List GSt × PSt) (w : World) (n : Nat) (v : Value) (wr : World) : Prop :=
  ∃ (acc : List GRow) (S : PSt) (f : Nat), S.1 < toks.length ∧ n = parM toks S ∧ parM toks S ≤ f ∧ Hid (parseF toks f (acc.map (·.s)) S = RES) ∧ acc.length ≤ 3000 - n ∧ n ≤ 2100 ∧ Ps wr w.heap.size gt capt toks S ∧
    wr.ownsRow (w.heap.size + 1) 137 16 v acc.length (acc.flatMap GRow.cells) ∧ (∀ x ∈ acc, x.own wr (w.heap.size + 1)) ∧ w.grownBy wr none
theorem parseF_more {f : Nat} {acc : List GSt} {S : PSt} (h0 : S.2 = 0) (h1 : srt (tkN toks S.1) ≠ 1) : parseF toks (f + 1) acc S = parseF toks f (acc ++ [(pStmt toks S).1]) (pTake toks [11] (pStmt toks S).2) := by
  simp only [parseF]; rw [if_pos ⟨h0, h1⟩]
theorem parseF_end {f : Nat} {acc : List GSt} {S : PSt} (h : ¬ (S.2 = 0 ∧ srt (tkN toks S.1) ≠ 1)) : parseF toks f acc S = (acc, S) := by
  cases f with
  | zero => rfl
  | succ f => simp only [parseF]; rw [if_neg h]
end Go.Proofs.YthpcbbnabnlanaaGreatDoor

/-
  The program's Parse: the statements of the tokens, in new memory, or the fault's line.
-/
namespace Go.Proofs.YthpcbbnabnlanaaGreatDoor
open Go.RowKit
set_option linter.unusedVariables false
variable {w : World} {gt capt : Nat} {toks : List PTok}

/-- behind the append and the semicolon: the next round's head -/
theorem par_step {RES : List GSt × PSt} {wr w1 w2 w3 : World} {v v' : Value} {o o' : Obj} {acc : List GRow} {S S2 : PSt} {G : GRow} {f : Nat} (hlg : gt < w.heap.size) (hS3 : (pTake toks [11] S2).1 < toks.length) (hlt : parM toks (pTake toks [11] S2) < parM toks S) (hf : parM toks S ≤ f + 1)
    (hl : Hid (parseF toks f (acc.map (·.s) ++ [G.s]) (pTake toks [11] S2) = RES)) (hacc : acc.length ≤ 3000 - parM toks S) (hn : parM toks S ≤ 2100) (hgr : w.grownBy wr none) (hlr : w.heap.size < wr.heap.size) (hrows : ∀ x ∈ acc, x.own wr (w.heap.size + 1))
    (hown : wr.ownsRow (w.heap.size + 1) 137 16 v acc.length (acc.flatMap GRow.cells)) (hO : G.own w1 (w.heap.size + 1)) (hg1 : wr.grownBy w1 (some w.heap.size))
    (hown' : w2.ownsRow (w.heap.size + 1) 137 16 v' (acc.length + 1) (acc.flatMap GRow.cells ++ G.cells)) (hgrow : (w1.alloc o).grownBy w2 v.ownBlock) (hg3 : (w2.alloc o').grownBy w3 (some w.heap.size)) (hP3 : Ps w3 w.heap.size gt capt toks (pTake toks [11] S2)) :
    ParRel toks gt capt RES w (parM toks (pTake toks [11] S2)) v' w3 := by
  have e : ∀ k, v.ownBlock = some k → w.heap.size + 1 ≤ k := fun k hk => (hown.lt k hk).1
  have ty : ∀ b, v.ownBlock = some b → ∃ cs fr, (w1.alloc o).heap[b]? = some (.cells cs 137 fr) := fun b hb => by
    have h1 := ((hown.kept hg1 (low_ne' hown (by omega))).alloc o)
    rcases h1.2 with ⟨h, _⟩ | ⟨g, cap, cur, h, _, h3, _⟩
    · rw [h] at hb; cases hb
    · rw [h] at hb
      have : g = b := Option.some.inj hb
      subst this
      exact ⟨_, _, h3⟩
  have k1 : ∀ x : GRow, x.own w1 (w.heap.size + 1) → x.own w3 (w.heap.size + 1) := fun x hx =>
    GRow.kept (GRow.kept (GRow.kept (GRow.kept hx (World.grownBy_alloc w1 o none) (fun b q => by cases q)) hgrow (fun b q => .inr (ty b q))) (World.grownBy_alloc w2 o' none) (fun b q => by cases q)) hg3 (fun b q => by cases q; exact .inl (by omega))
  refine ⟨acc ++ [G], pTake toks [11] S2, f, hS3, rfl, by omega, by rw [List.map_append]; exact hl, by simp; omega, by omega, hP3, ?_, ?_, ?_⟩
  · rw [List.flatMap_append, List.length_append]
    have h1 := ((hown'.alloc o').kept hg3 (low_ne' hown' (by omega)))
    simpa using h1
  · intro x hx
    rcases List.mem_append.1 hx with hx | hx
    · exact k1 x (GRow.kept (hrows x hx) hg1 (fun b q => by cases q; exact .inl (by omega)))
    · obtain rfl : x = G := by simpa using hx
      exact k1 x hO
  · have z1 := hgr.size; have z2 := hg1.size; have z3 := hgrow.size; have z4 := hg3.size
    simp at z3 z4
    refine ⟨hg3.os.trans (hgrow.os.trans (hg1.os.trans hgr.os)), hg3.tape.trans (hgrow.tape.trans (hg1.tape.trans hgr.tape)), hg3.output.trans (hgrow.output.trans (hg1.output.trans hgr.output)), by omega, fun i hi hn => ?_⟩
    have a3 := hg3.block i (by simp; omega) (by simp; omega)
    have a2 := hgrow.block i (by simp; omega) (fun q => by have := e i q.symm; omega)
    have a1 := hg1.block i (by omega) (by simp; omega)
    exact (a3.trans (heap_alloc_old _ _ (by omega))).trans ((a2.trans (heap_alloc_old _ _ (by omega))).trans (a1.trans (hgr.block i hi hn)))

set_option maxRecDepth 100000 in
set_option maxHeartbeats 4000000 in
theorem gr_Parse (hE : EndOk toks) (hL : ∀ i, i < toks.length → 1 ≤ (tkN toks i).line) (hrow : ∀ j u, (tokCells toks)[j]? = some u → w.cell? ⟨gt, j, none⟩ = some u) (hlg : gt < w.heap.size) :
    Calls Tryz.prog 44 #[.slice (some ⟨gt, 0, none⟩) toks.length capt] w fun e w' => ∃ v, e = .returned (.tuple #[v, .int .i64 (pParse toks).2.2]) ∧
      ((pParse toks).2.2 = 0 → ∃ acc : List GRow, acc.map (·.s) = (pParse toks).1 ∧ w'.ownsRow (w.heap.size + 1) 137 16 v acc.length (acc.flatMap GRow.cells) ∧ ∀ x ∈ acc, x.own w' (w.heap.size + 1)) ∧ w.grownBy w' none := by
  obtain ⟨i0, hi0, hz0, hz1, hz2⟩ := info_parts infoSt
  have hlen := hE.len
  have hpos := hE.pos
  obtain ⟨RES, hR⟩ : ∃ R, R = pParse toks := ⟨_, rfl⟩
  have HS : Hid (parseF toks (toks.length + 1) [] (0, 0) = RES) := by rw [Hid, hR]; rfl
  have HR : Hid (∀ j u, (tokCells toks)[j]? = some u → w.cell? ⟨gt, j, none⟩ = some u) := hrow
  have HL : Hid (∀ i, i < toks.length → 1 ≤ (tkN toks i).line) := hL
  rw [← hR]
  clear hrow hR hL
  go_enter Tryz.func44, Tryz.ntmps44
  go_wp2
  go_loopg [5] (toks.length + 1) (fun n v wr => ParRel toks gt capt RES w n v wr)
  case atStart =>
    refine ⟨[], (0, 0), toks.length + 1, hpos, by simp [parM], by simp [parM], HS, by simp, by omega, ?_, World.ownsRow_nil _ _ _ _, (fun x hx => by cases hx), World.grownBy_alloc _ _ _⟩
    have hB := heap_alloc_new w (.cells #[.slice (some ⟨gt, 0, none⟩) toks.length capt, .int .i64 0, .int .i64 0] 132)
    exact ⟨cell_of hB 0 _ rfl, cell_of hB 1 _ rfl, cell_of hB 2 _ rfl, frozen_of hB 1, frozen_of hB 2, by simp, fun j u hu => (World.grownBy_alloc w _ none).cell (HR.out j u hu) (by simp), by simp; omega, by omega⟩
  case round =>
    obtain ⟨acc, ⟨i, fl⟩, f, hi, rfl, hf, hlex, hacc, hn, hP, hown, hrows, hgr⟩ := hrel
    have HP : Hid (Ps wr w.heap.size gt capt toks (i, fl)) := hP
    have c2 := hP.c2
    have hlr := hP.lt
    simp only at c2 hi
    by_cases h0 : fl = 0
    · subst h0
      by_cases h1 : srt (tkN toks i) = 1
      · have hs : Hid (pSees toks 1 (i, 0) = true) := by unfold Hid pSees; simp [h1]
        have hl : Hid (RES = (acc.map (·.s), (i, 0))) := by rw [Hid, ← hlex.out]; exact parseF_end (by simp [h1])
        clear hlex h1 hP
        go_wp2_with (go_at_call 67; refine (gr_sees HP.out hlen hi 1).mono ?_; rw [hs.out]; rintro e ws ⟨rfl, hgs⟩; have hPs := HP.out.kept hgs (by simp) (by simp); have d2 := hPs.c2)
        go_ret2
        rw [hl.out]
        exact ⟨_, rfl, fun _ => ⟨acc, rfl, hown.kept hgs (own_none _), fun x hx => GRow.kept (hrows x hx) hgs (fun b q => by cases q)⟩, hgr.trans hgs⟩
      · obtain ⟨f, rfl⟩ : ∃ g, f = g + 1 := ⟨f - 1, by simp [parM] at hf; omega⟩
        have hs : Hid (pSees toks 1 (i, 0) = false) := by unfold Hid pSees; simp [h1]
        obtain ⟨⟨G, S2⟩, hGS⟩ : ∃ x, pStmt toks (i, 0) = x := ⟨_, rfl⟩
        have hm := parM_less HL.out hi (S := (i, 0)) rfl
        have hl : Hid (parseF toks f (acc.map (·.s) ++ [G]) (pTake toks [11] S2) = RES) := by rw [Hid, ← hlex.out, parseF_more rfl h1, hGS]
        rw [hGS] at hm
        have HG : Hid (pStmt toks (i, 0) = (G, S2)) := hGS
        clear hlex h1 hP hGS
        go_wp2_with (first | (at_builtin; refine wpList_append_own _ rfl _ _ 88 rfl (w.heap.size + 1) 137 i0 (.agg zero16) 16 216 Tryz.underlying88 hi0 hz0 hz1 hz2 rfl (by decide) _ _ _ rfl (hown1.alloc _) ⟨w1.heap.size, 0, none⟩ 1 1 (GRow.cells ⟨G, .slice na nm nc, .slice ua um uc, .slice ta tm tc, .slice la lm lc⟩) rfl rfl (World.news_of_block (heap_alloc_new _ _)) (gs_one ⟨G, .slice na nm nc, .slice ua um uc, .slice ta tm tc, .slice la lm lc⟩ rfl rfl rfl rfl) ?c3 ?c4 ?c5 ?_) | (go_at_call 68; refine (gr_statement hPs hE hi).mono ?_; unfold StPost; rw [HG.out]; unfold gsCells; rintro e w1 ⟨vn, vu, vt, vl, rfl, hO, hg1, hP1, hi1⟩; obtain ⟨na, nm, nc, rfl⟩ := own_slice hO.n; obtain ⟨ua, um, uc, rfl⟩ := own_slice hO.u; obtain ⟨ta, tm, tc, rfl⟩ := own_slice hO.t; obtain ⟨la, lm, lc, rfl⟩ := own_slice hO.l; have hown1 := (hown.kept hgs (own_none _)).kept hg1 (low_ne' hown (by omega))) | (go_at_call 67; refine (gr_sees HP.out hlen hi 1).mono ?_; rw [hs.out]; rintro e ws ⟨rfl, hgs⟩; have hPs := HP.out.kept hgs (by simp) (by simp)))
        case c3 => unfold maxLen; omega
        case c4 => omega
        case c5 => have := hgs.size; have := hg1.size; simp at *; omega
        intro v' w2 hown' hgrow _
        have hP2 := (hP1.alloc _).kept hgrow (low_ne hown (by omega)) (low_ne hown (by omega))
        have hlS : w.heap.size < ws.heap.size := by have := hgs.size; omega
        have HK : Hid (∀ w3 o', (w2.alloc o').grownBy w3 (some w.heap.size) → Ps w3 w.heap.size gt capt toks (pTake toks [11] S2) → ParRel toks gt capt RES w (parM toks (pTake toks [11] S2)) v' w3) := fun w3 o' hg3 hP3 =>
          par_step (G := ⟨G, .slice na nm nc, .slice ua um uc, .slice ta tm tc, .slice la lm lc⟩) hlg (pTake_lt hE rfl hi1) hm hf hl hacc hn (hgr.trans hgs) hlS (fun x hx => GRow.kept (hrows x hx) hgs (fun b q => by cases q)) (hown.kept hgs (own_none _))
            ⟨World.ownsRow.mono hO.n (by omega), World.ownsRow.mono hO.u (by omega), World.ownsRow.mono hO.t (by omega), World.ownsRow.mono hO.l (by omega)⟩ hg1 hown' hgrow hg3 hP3
        clear hown' hgrow hown hown1 hrows hO hgs hg1 hPs hP1
        go_wp2_with (go_at_call 69; refine (gr_take' hE hi1 [11] 1 rfl (by decide) rfl rfl w2 hP2 w2.heap.size rfl rfl).mono ?_; rintro e w3 ⟨rfl, hg3, hP3⟩)
        go_roundg (parM toks (pTake toks [11] S2))
        case measure => exact hm
        case rel => exact HK.out w3 _ hg3 hP3
    · have hl : Hid (RES = (acc.map (·.s), (i, fl))) := by rw [Hid, ← hlex.out]; exact parseF_end (by simp [h0])
      have hb : (fl == 0) = false := by simpa using h0
      have hb2 : (fl != 0) = true := by simpa using h0
      clear hlex hP
      go_wp2
      go_quiet (fail)
      go_wp2
      go_ret2
      rw [hl.out]
      exact ⟨_, rfl, fun q => absurd q h0, hgr.trans (grown_drewN' _ _ _)⟩
end Go.Proofs.YthpcbbnabnlanaaGreatDoor
