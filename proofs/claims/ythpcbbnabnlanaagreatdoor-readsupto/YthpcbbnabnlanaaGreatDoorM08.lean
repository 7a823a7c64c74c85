import Derived.Test.YthpcbbnabnlanaaGreatDoorM07
/-
  The program's parser: a statement list.
-/
namespace Go.Proofs.YthpcbbnabnlanaaGreatDoor
open Go.RowKit
set_option linter.unusedVariables false
variable {w : World} {bp gt capt : Nat} {toks : List PTok} {st : PSt}

set_option maxRecDepth 100000 in
set_option maxHeartbeats 8000000 in
theorem gr_st_list (h : Ps w bp gt capt toks st) (hE : EndOk toks) (hi : st.1 < toks.length) (hk : srt (tkN toks st.1) = 5) :
    Calls Tryz.prog 68 #[.pointer (some ⟨bp, 0, none⟩)] w (StPost toks st w bp gt capt) := by
  have HP : Hid (Ps w bp gt capt toks st) := h
  have hlp := h.lt
  have hlg := h.ltg
  have hlen := hE.len
  obtain ⟨T, hT⟩ : ∃ T, T = tkN toks st.1 := ⟨_, rfl⟩
  rw [← hT] at hk
  obtain ⟨S1, hS1⟩ : ∃ S, S = pTake toks kwSorts st := ⟨_, rfl⟩
  have hi1 : S1.1 < toks.length := by rw [hS1]; exact pTake_lt hE rfl hi
  have HC1 := Kept.mk (gr_take' hE hi kwSorts 7 rfl (by decide) hT hS1 (o := .cells #[.int .i64 4, .int .i64 5, .int .i64 6, .int .i64 7, .int .i64 8, .int .i64 9, .int .i64 10] 127) (w.alloc (.cells zero16 137)) (HP.out.alloc _) (w.heap.size + 1) (by simp) rfl)
  have e4 : (srt T == 4) = false := by rw [hk]; rfl
  have e5 : (srt T == 5) = true := by rw [hk]; rfl
  have e7 : (srt T == 7) = false := by rw [hk]; rfl
  have e6 : (srt T == 6) = false := by rw [hk]; rfl
  have e8 : (srt T == 8) = false := by rw [hk]; rfl
  have e9 : (srt T == 9) = false := by rw [hk]; rfl
  have e10 : (srt T == 10) = false := by rw [hk]; rfl
  obtain ⟨N, hN⟩ : ∃ N, N = tkN toks S1.1 := ⟨_, rfl⟩
  obtain ⟨S2, hS2⟩ : ∃ S, S = pTake toks [2] S1 := ⟨_, rfl⟩
  have hi2 : S2.1 < toks.length := by rw [hS2]; exact pTake_lt hE rfl hi1
  have HC2 : Hid (∀ W : World, Ps W bp gt capt toks S1 → Calls Tryz.prog 114 #[.pointer (some ⟨bp, 0, none⟩)] W fun e w' => e = .returned (.agg #[.int .i64 (srt N), .string N.s, .int .i64 (tval N), .int .i64 N.line]) ∧ W.grownBy w' (some bp) ∧ Ps w' bp gt capt toks S2) := fun W hW => gr_name' hE hi1 hN hS2 W hW
  obtain ⟨S3, hS3⟩ : ∃ S, S = pTake toks [14] S2 := ⟨_, rfl⟩
  have hi3 : S3.1 < toks.length := by rw [hS3]; exact pTake_lt hE rfl hi2
  have HC3 : Hid (∀ (W : World) (g : Nat), Ps W bp gt capt toks S2 → g = W.heap.size → Calls Tryz.prog 69 #[.pointer (some ⟨bp, 0, none⟩), .slice (some ⟨g, 0, none⟩) 1 1] (W.alloc (.cells #[.int .i64 14] 127)) fun e w' => ∃ N : PTok, N = tkN toks S2.1 ∧ e = .returned (.agg #[.int .i64 (srt N), .string N.s, .int .i64 (tval N), .int .i64 N.line]) ∧ (W.alloc (.cells #[.int .i64 14] 127)).grownBy w' (some bp) ∧ Ps w' bp gt capt toks S3) := fun W g hW hg => (gr_take' hE hi2 [14] 1 rfl (by decide) rfl hS3 W hW g hg rfl).mono fun e w' hx => ⟨_, rfl, hx⟩
  obtain ⟨S4, hS4⟩ : ∃ S, S = pTake toks [18] S3 := ⟨_, rfl⟩
  have hi4 : S4.1 < toks.length := by rw [hS4]; exact pTake_lt hE rfl hi3
  have HC4 : Hid (∀ (W : World) (g : Nat), Ps W bp gt capt toks S3 → g = W.heap.size → Calls Tryz.prog 69 #[.pointer (some ⟨bp, 0, none⟩), .slice (some ⟨g, 0, none⟩) 1 1] (W.alloc (.cells #[.int .i64 18] 127)) fun e w' => ∃ N : PTok, N = tkN toks S3.1 ∧ e = .returned (.agg #[.int .i64 (srt N), .string N.s, .int .i64 (tval N), .int .i64 N.line]) ∧ (W.alloc (.cells #[.int .i64 18] 127)).grownBy w' (some bp) ∧ Ps w' bp gt capt toks S4) := fun W g hW hg => (gr_take' hE hi3 [18] 1 rfl (by decide) rfl hS4 W hW g hg rfl).mono fun e w' hx => ⟨_, rfl, hx⟩
  obtain ⟨R5, hR5⟩ : ∃ R, R = pSer toks (pTok toks 3) S4 := ⟨_, rfl⟩
  have hi5 : R5.2.1 < toks.length := by rw [hR5]; exact pSer_lt hE (fun S h => (pTok_lt hE 3 (by decide) h).1) hi4
  have HC5 : Hid (∀ W : World, Ps W bp gt capt toks S4 → Calls Tryz.prog 116 #[.pointer (some ⟨bp, 0, none⟩), .func (.func 115) #[.pointer (some ⟨bp, 0, none⟩)] #[]] W fun e w' => ∃ v, e = .returned v ∧ w'.ownsRow W.heap.size 129 4 v R5.1.length (tokCells R5.1) ∧ W.grownBy w' (some bp) ∧ Ps w' bp gt capt toks R5.2 ∧ R5.2.1 < toks.length) := fun W hW => by rw [hR5]; exact gr_ser_number hW hE hi4
  obtain ⟨S6, hS6⟩ : ∃ S, S = pTake toks [19] R5.2 := ⟨_, rfl⟩
  have hi6 : S6.1 < toks.length := by rw [hS6]; exact pTake_lt hE rfl hi5
  have HC6 : Hid (∀ (W : World) (g : Nat), Ps W bp gt capt toks R5.2 → g = W.heap.size → Calls Tryz.prog 69 #[.pointer (some ⟨bp, 0, none⟩), .slice (some ⟨g, 0, none⟩) 1 1] (W.alloc (.cells #[.int .i64 19] 127)) fun e w' => ∃ N : PTok, N = tkN toks R5.2.1 ∧ e = .returned (.agg #[.int .i64 (srt N), .string N.s, .int .i64 (tval N), .int .i64 N.line]) ∧ (W.alloc (.cells #[.int .i64 19] 127)).grownBy w' (some bp) ∧ Ps w' bp gt capt toks S6) := fun W g hW hg => (gr_take' hE hi5 [19] 1 rfl (by decide) rfl hS6 W hW g hg rfl).mono fun e w' hx => ⟨_, rfl, hx⟩
  have HRes : Hid (pStmt toks st = ({ kw := T, name := N, numbers := R5.1 }, S6)) := by
    rw [Hid]; rw [hS6, hR5, hS4, hS3, hS2, hN, hS1, hT]; unfold pStmt; simp [← hT, hk]
  have HX : Hid (∀ e w', (∃ vn vu vt vl, e = .returned (.agg (gsCells ({ kw := T, name := N, numbers := R5.1 }) vn vu vt vl)) ∧ GsOwn w' w.heap.size ({ kw := T, name := N, numbers := R5.1 }) vn vu vt vl ∧ w.grownBy w' (some bp) ∧ Ps w' bp gt capt toks S6 ∧ (S6).1 < toks.length) → StPost toks st w bp gt capt e w') := fun e w' hx => by unfold StPost; rw [HRes.out]; exact hx
  clear h hk HRes hT hS1 hN hS2 hS3 hS4 hR5 hS6
  go_enter Tryz.func68, Tryz.ntmps68
  go_wp2_with (first | (go_at_call 69; refine (HC6.out _ _ (hP5.sf hbb hgb 9 (.slice va5 vm5 vc5)) (by first | rfl | (simp; done) | simp [World.setCell])).mono ?_; rintro e w6 ⟨X6, _, rfl, hg6, hP6⟩; have s6 := t5.call hg6; have hl6 := s6.lt; have o5_6 := ((own5.alloc _).kept hg6 (low_ne' own5 (by have := s1.lp; have := s1.lo; first | omega | (simp; omega)))); obtain ⟨a0, a1, a2, a3, a4, a5, a6, a7, a8, a9, a10, a11, a12, a13, a14, a15, z0, z1, z2, z3, z4, z5, z6, z7, z8, z9, z10, z11, z12, z13, z14, z15⟩ := cells16 s6.hA; obtain ⟨c0, c1, c2, c3, c4, c5, c6, c7, c8, c9, c10, c11, c12, c13, c14, c15, _, _, _, _, _, _, _, _, _, _, _, _, _, _, _, _⟩ := cells16 s6.hS; have hq0 := s6.lt; have hq1 := s6.lo; have hq4 : w.heap.size < w6.heap.size := (by omega); have hq2 : w.heap.size ≠ w1.heap.size := (by omega); have hq3 : w1.heap.size ≠ w.heap.size := (by omega)) | (go_at_call 116; refine (HC5.out _ hP4).mono ?_; rintro e w5 ⟨v5, rfl, hown5, hg5, hP5, _⟩; obtain ⟨va5, vm5, vc5, rfl⟩ := own_slice hown5; have s5 := s4.call0 hg5; have hb5 : w1.heap.size < _ := s4.lt; have c9_5 := cell_of s5.hS 9 _ rfl; have f9_5 := frozen_of s5.hS 9; have t5 := s5.sf (cs' := #[.int .i64 (srt T), .string T.s, .int .i64 (tval T), .int .i64 T.line, .int .i64 (srt N), .string N.s, .int .i64 (tval N), .int .i64 N.line, .slice none 0 0, .slice va5 vm5 vc5, .slice none 0 0, .int .i64 0, .string .empty, .int .i64 0, .int .i64 0, .slice none 0 0]) 9 (.slice va5 vm5 vc5) rfl; have hl5 := t5.lt; have own5 := own_far hown5 hb5 9 (.slice va5 vm5 vc5)) | (go_at_call 69; refine (HC4.out _ _ hP3 (by first | rfl | (simp; done) | simp [World.setCell])).mono ?_; rintro e w4 ⟨X4, _, rfl, hg4, hP4⟩; have s4 := s3.call hg4; have hl4 := s4.lt) | (go_at_call 69; refine (HC3.out _ _ (hP2.sf4 hbb hgb 4 (.int .i64 (srt N)) (.string N.s) (.int .i64 (tval N)) (.int .i64 N.line)) (by first | rfl | (simp; done) | simp [World.setCell])).mono ?_; rintro e w3 ⟨X3, _, rfl, hg3, hP3⟩; have s3 := t2.call hg3; have hl3 := s3.lt) | (go_at_call 114; refine (HC2.out _ (hP1.alloc _)).mono ?_; rintro e w2 ⟨rfl, hg2, hP2⟩; have s2 := s1.call0 hg2; have c4_2 := cell_of s2.hS 4 _ rfl; have f4_2 := frozen_of s2.hS 4; have c5_2 := cell_of s2.hS 5 _ rfl; have f5_2 := frozen_of s2.hS 5; have c6_2 := cell_of s2.hS 6 _ rfl; have f6_2 := frozen_of s2.hS 6; have c7_2 := cell_of s2.hS 7 _ rfl; have f7_2 := frozen_of s2.hS 7; have t2 := s2.set4 (cs' := #[.int .i64 (srt T), .string T.s, .int .i64 (tval T), .int .i64 T.line, .int .i64 (srt N), .string N.s, .int .i64 (tval N), .int .i64 N.line, .slice none 0 0, .slice none 0 0, .slice none 0 0, .int .i64 0, .string .empty, .int .i64 0, .int .i64 0, .slice none 0 0]) 4 (.int .i64 (srt N)) (.string N.s) (.int .i64 (tval N)) (.int .i64 N.line) rfl; have hl2 := t2.lt) | (go_at_call 69; refine HC1.get.mono ?_; rintro e w1 ⟨rfl, hg1, hP1⟩; have s1 := sb_start hlp hg1 #[.int .i64 (srt T), .string T.s, .int .i64 (tval T), .int .i64 T.line, .int .i64 0, .string .empty, .int .i64 0, .int .i64 0, .slice none 0 0, .slice none 0 0, .slice none 0 0, .int .i64 0, .string .empty, .int .i64 0, .int .i64 0, .slice none 0 0]; have hbb : bp < w1.heap.size := (by have := s1.lo; omega); have hgb : gt < w1.heap.size := (by have := s1.lo; omega)))
  obtain ⟨hF, hgF, hPF, hoF⟩ := st_end (gt := gt) (capt := capt) (toks := toks) s6 hlg (.int .i64 (srt T)) (.string T.s) (.int .i64 (tval T)) (.int .i64 T.line) (.int .i64 (srt N)) (.string N.s) (.int .i64 (tval N)) (.int .i64 N.line) (.slice none 0 0) (.slice va5 vm5 vc5) (.slice none 0 0) (.int .i64 0) (.string .empty) (.int .i64 0) (.int .i64 0) (.slice none 0 0)
  refine bodyPost_ret (results_cell_row rfl _ _ w.heap.size 137 _ _ _ rfl hF Tryz.underlying137 rfl (by kernel_rfl)) rfl ?_
  exact HX.out _ _ ⟨.slice none 0 0, .slice va5 vm5 vc5, .slice none 0 0, .slice none 0 0, by simp only [gsCells, srt_zero, tval_zero]; rfl, ⟨World.ownsRow_nil _ _ _ _, hoF _ _ _ _ _ _ (by have := s1.lo; have := hb5; first | omega | (simp at *; omega)) o5_6, World.ownsRow_nil _ _ _ _, World.ownsRow_nil _ _ _ _⟩, hgF, hPF _ hP6, hi6⟩
end Go.Proofs.YthpcbbnabnlanaaGreatDoor

/-
  The program's parser: a statement lin.
-/
namespace Go.Proofs.YthpcbbnabnlanaaGreatDoor
open Go.RowKit
set_option linter.unusedVariables false
variable {w : World} {bp gt capt : Nat} {toks : List PTok} {st : PSt}

set_option maxRecDepth 100000 in
set_option maxHeartbeats 8000000 in
theorem gr_st_lin (h : Ps w bp gt capt toks st) (hE : EndOk toks) (hi : st.1 < toks.length) (hk : srt (tkN toks st.1) = 6) :
    Calls Tryz.prog 68 #[.pointer (some ⟨bp, 0, none⟩)] w (StPost toks st w bp gt capt) := by
  have HP : Hid (Ps w bp gt capt toks st) := h
  have hlp := h.lt
  have hlg := h.ltg
  have hlen := hE.len
  obtain ⟨T, hT⟩ : ∃ T, T = tkN toks st.1 := ⟨_, rfl⟩
  rw [← hT] at hk
  obtain ⟨S1, hS1⟩ : ∃ S, S = pTake toks kwSorts st := ⟨_, rfl⟩
  have hi1 : S1.1 < toks.length := by rw [hS1]; exact pTake_lt hE rfl hi
  have HC1 := Kept.mk (gr_take' hE hi kwSorts 7 rfl (by decide) hT hS1 (o := .cells #[.int .i64 4, .int .i64 5, .int .i64 6, .int .i64 7, .int .i64 8, .int .i64 9, .int .i64 10] 127) (w.alloc (.cells zero16 137)) (HP.out.alloc _) (w.heap.size + 1) (by simp) rfl)
  have e4 : (srt T == 4) = false := by rw [hk]; rfl
  have e5 : (srt T == 5) = false := by rw [hk]; rfl
  have e7 : (srt T == 7) = false := by rw [hk]; rfl
  have e6 : (srt T == 6) = true := by rw [hk]; rfl
  have e8 : (srt T == 8) = false := by rw [hk]; rfl
  have e9 : (srt T == 9) = false := by rw [hk]; rfl
  have e10 : (srt T == 10) = false := by rw [hk]; rfl
  obtain ⟨R2, hR2⟩ : ∃ R, R = pSum toks S1 := ⟨_, rfl⟩
  have hi2 : R2.2.1 < toks.length := by rw [hR2]; exact pSum_lt hE hi1
  have HC2 : Hid (∀ W : World, Ps W bp gt capt toks S1 → Calls Tryz.prog 117 #[.pointer (some ⟨bp, 0, none⟩)] W fun e w' => ∃ v, e = .returned v ∧ w'.ownsRow W.heap.size 219 9 v R2.1.length (gtCells R2.1) ∧ W.grownBy w' (some bp) ∧ Ps w' bp gt capt toks R2.2 ∧ R2.2.1 < toks.length) := fun W hW => by rw [hR2]; exact gr_sum hW hE hi1
  obtain ⟨Q, hQ⟩ : ∃ N, N = tkN toks R2.2.1 := ⟨_, rfl⟩
  obtain ⟨S3, hS3⟩ : ∃ S, S = pTake toks [14, 15, 16] R2.2 := ⟨_, rfl⟩
  have hi3 : S3.1 < toks.length := by rw [hS3]; exact pTake_lt hE rfl hi2
  have HC3 : Hid (∀ (W : World) (g : Nat), Ps W bp gt capt toks R2.2 → g = W.heap.size → Calls Tryz.prog 69 #[.pointer (some ⟨bp, 0, none⟩), .slice (some ⟨g, 0, none⟩) 3 3] (W.alloc (.cells #[.int .i64 14, .int .i64 15, .int .i64 16] 127)) fun e w' => ∃ N : PTok, N = tkN toks R2.2.1 ∧ e = .returned (.agg #[.int .i64 (srt N), .string N.s, .int .i64 (tval N), .int .i64 N.line]) ∧ (W.alloc (.cells #[.int .i64 14, .int .i64 15, .int .i64 16] 127)).grownBy w' (some bp) ∧ Ps w' bp gt capt toks S3) := fun W g hW hg => (gr_take' hE hi2 [14, 15, 16] 3 rfl (by decide) rfl hS3 W hW g hg rfl).mono fun e w' hx => ⟨_, rfl, hx⟩
  have hQK : Hid (Q = tkN toks R2.2.1) := hQ
  obtain ⟨M, hM⟩ : ∃ N, N = tkN toks S3.1 := ⟨_, rfl⟩
  obtain ⟨S4, hS4⟩ : ∃ S, S = pTake toks [3] S3 := ⟨_, rfl⟩
  have hi4 : S4.1 < toks.length := by rw [hS4]; exact pTake_lt hE rfl hi3
  have HC4 : Hid (∀ W : World, Ps W bp gt capt toks S3 → Calls Tryz.prog 115 #[.pointer (some ⟨bp, 0, none⟩)] W fun e w' => e = .returned (.agg #[.int .i64 (srt M), .string M.s, .int .i64 (tval M), .int .i64 M.line]) ∧ W.grownBy w' (some bp) ∧ Ps w' bp gt capt toks S4) := fun W hW => gr_number' hE hi3 hM hS4 W hW
  have HRes : Hid (pStmt toks st = ({ kw := T, terms := R2.1, rel := Q, numbers := [M] }, S4)) := by
    rw [Hid]; rw [hS4, hM, hS3, hQ, hR2, hS1, hT]; unfold pStmt; simp [← hT, hk, pLin]
  have HX : Hid (∀ e w', (∃ vn vu vt vl, e = .returned (.agg (gsCells ({ kw := T, terms := R2.1, rel := Q, numbers := [M] }) vn vu vt vl)) ∧ GsOwn w' w.heap.size ({ kw := T, terms := R2.1, rel := Q, numbers := [M] }) vn vu vt vl ∧ w.grownBy w' (some bp) ∧ Ps w' bp gt capt toks S4 ∧ (S4).1 < toks.length) → StPost toks st w bp gt capt e w') := fun e w' hx => by unfold StPost; rw [HRes.out]; exact hx
  clear h hk HRes hT hS1 hR2 hQ hS3 hM hS4
  go_enter Tryz.func68, Tryz.ntmps68
  go_wp2_with (first | (go_at_call 115; refine (HC4.out _ (hP3.sf4 hbb hgb 11 (.int .i64 (srt Q)) (.string Q.s) (.int .i64 (tval Q)) (.int .i64 Q.line))).mono ?_; rintro e w4 ⟨rfl, hg4, hP4⟩; have s4 := t3.call0 hg4; have f9_4 := frozen_of s4.hS 9; obtain ⟨a0, a1, a2, a3, a4, a5, a6, a7, a8, a9, a10, a11, a12, a13, a14, a15, z0, z1, z2, z3, z4, z5, z6, z7, z8, z9, z10, z11, z12, z13, z14, z15⟩ := cells16 s4.hA; obtain ⟨c0, c1, c2, c3, c4, c5, c6, c7, c8, c9, c10, c11, c12, c13, c14, c15, _, _, _, _, _, _, _, _, _, _, _, _, _, _, _, _⟩ := cells16 s4.hS; have hq0 := s4.lt; have hq1 := s4.lo; have hq4 : w.heap.size < w4.heap.size := (by omega); have hq2 : w.heap.size ≠ w1.heap.size := (by omega); have hq3 : w1.heap.size ≠ w.heap.size := (by omega); have o2_4 := (o2_3.kept hg4 (low_ne' o2_3 (by have := s1.lp; have := s1.lo; first | omega | (simp; omega))))) | (go_at_call 69; refine (HC3.out _ _ (hP2.sf hbb hgb 10 (.slice va2 vm2 vc2)) (by first | rfl | (simp; done) | simp [World.setCell])).mono ?_; rw [← hQK.out]; rintro e w3 ⟨X3, hX3, rfl, hg3, hP3⟩; subst X3; have s3 := t2.call hg3; have c11_3 := cell_of s3.hS 11 _ rfl; have f11_3 := frozen_of s3.hS 11; have c12_3 := cell_of s3.hS 12 _ rfl; have f12_3 := frozen_of s3.hS 12; have c13_3 := cell_of s3.hS 13 _ rfl; have f13_3 := frozen_of s3.hS 13; have c14_3 := cell_of s3.hS 14 _ rfl; have f14_3 := frozen_of s3.hS 14; have t3 := s3.set4 (cs' := #[.int .i64 (srt T), .string T.s, .int .i64 (tval T), .int .i64 T.line, .int .i64 0, .string .empty, .int .i64 0, .int .i64 0, .slice none 0 0, .slice none 0 0, .slice va2 vm2 vc2, .int .i64 (srt Q), .string Q.s, .int .i64 (tval Q), .int .i64 Q.line, .slice none 0 0]) 11 (.int .i64 (srt Q)) (.string Q.s) (.int .i64 (tval Q)) (.int .i64 Q.line) rfl; have hl3 := t3.lt; have o2_3 := (own_far (own_far (own_far (own_far ((own2.alloc _).kept hg3 (low_ne' own2 (by have := s1.lp; have := s1.lo; first | omega | (simp; omega)))) hb2 11 (.int .i64 (srt Q))) hb2 12 (.string Q.s)) hb2 13 (.int .i64 (tval Q))) hb2 14 (.int .i64 Q.line))) | (go_at_call 117; refine (HC2.out _ (hP1.alloc _)).mono ?_; rintro e w2 ⟨v2, rfl, hown2, hg2, hP2, _⟩; obtain ⟨va2, vm2, vc2, rfl⟩ := own_slice hown2; have s2 := s1.call0 hg2; have hb2 : w1.heap.size < _ := s1.lt; have c10_2 := cell_of s2.hS 10 _ rfl; have f10_2 := frozen_of s2.hS 10; have t2 := s2.sf (cs' := #[.int .i64 (srt T), .string T.s, .int .i64 (tval T), .int .i64 T.line, .int .i64 0, .string .empty, .int .i64 0, .int .i64 0, .slice none 0 0, .slice none 0 0, .slice va2 vm2 vc2, .int .i64 0, .string .empty, .int .i64 0, .int .i64 0, .slice none 0 0]) 10 (.slice va2 vm2 vc2) rfl; have hl2 := t2.lt; have own2 := own_far hown2 hb2 10 (.slice va2 vm2 vc2)) | (go_at_call 69; refine HC1.get.mono ?_; rintro e w1 ⟨rfl, hg1, hP1⟩; have s1 := sb_start hlp hg1 #[.int .i64 (srt T), .string T.s, .int .i64 (tval T), .int .i64 T.line, .int .i64 0, .string .empty, .int .i64 0, .int .i64 0, .slice none 0 0, .slice none 0 0, .slice none 0 0, .int .i64 0, .string .empty, .int .i64 0, .int .i64 0, .slice none 0 0]; have hbb : bp < w1.heap.size := (by have := s1.lo; omega); have hgb : gt < w1.heap.size := (by have := s1.lo; omega)))
  have tE := s4.sf (cs' := #[.int .i64 (srt T), .string T.s, .int .i64 (tval T), .int .i64 T.line, .int .i64 0, .string .empty, .int .i64 0, .int .i64 0, .slice none 0 0, .slice (some ⟨w4.heap.size, 0, none⟩) 1 1, .slice va2 vm2 vc2, .int .i64 (srt Q), .string Q.s, .int .i64 (tval Q), .int .i64 Q.line, .slice none 0 0]) 9 (.slice (some ⟨w4.heap.size, 0, none⟩) 1 1) rfl
  obtain ⟨hF, hgF, hPF, hoF⟩ := st_end (gt := gt) (capt := capt) (toks := toks) tE hlg (.int .i64 (srt T)) (.string T.s) (.int .i64 (tval T)) (.int .i64 T.line) (.int .i64 0) (.string .empty) (.int .i64 0) (.int .i64 0) (.slice none 0 0) (.slice (some ⟨w4.heap.size, 0, none⟩) 1 1) (.slice va2 vm2 vc2) (.int .i64 (srt Q)) (.string Q.s) (.int .i64 (tval Q)) (.int .i64 Q.line) (.slice none 0 0)
  refine bodyPost_ret (results_cell_row rfl _ _ w.heap.size 137 _ _ _ rfl ((heap_alloc_old _ _ (by have := hgF.size; simp [World.setCell]; omega)).trans hF) Tryz.underlying137 rfl (by kernel_rfl)) rfl ?_
  exact HX.out _ _ ⟨.slice none 0 0, .slice (some ⟨w4.heap.size, 0, none⟩) 1 1, .slice va2 vm2 vc2, .slice none 0 0, by simp only [gsCells, srt_zero, tval_zero]; rfl, ⟨World.ownsRow_nil _ _ _ _, by have q := own_new (B := w.heap.size) (s := 4) (e := 129) (cs := #[.int .i64 (srt M), .string M.s, .int .i64 (tval M), .int .i64 M.line]) (heap_alloc_new _ _) (Nat.le_trans hgF.size (Nat.le_refl _)) rfl; simpa [World.setCell, tokCells, tokCell] using q, World.ownsRow.alloc (hoF _ _ _ _ _ _ (by have := s1.lo; have := hb2; first | omega | (simp at *; omega)) (own_far o2_4 hb2 9 (.slice (some ⟨w4.heap.size, 0, none⟩) 1 1))) _, World.ownsRow_nil _ _ _ _⟩, hgF.trans (World.grownBy_alloc _ _ _), (hPF _ (hP4.sf hbb hgb 9 (.slice (some ⟨w4.heap.size, 0, none⟩) 1 1))).alloc _, hi4⟩
end Go.Proofs.YthpcbbnabnlanaaGreatDoor

/-
  The program's parser: a statement when.
-/
namespace Go.Proofs.YthpcbbnabnlanaaGreatDoor
open Go.RowKit
set_option linter.unusedVariables false
variable {w : World} {bp gt capt : Nat} {toks : List PTok} {st : PSt}

set_option maxRecDepth 100000 in
set_option maxHeartbeats 8000000 in
theorem gr_st_when (h : Ps w bp gt capt toks st) (hE : EndOk toks) (hi : st.1 < toks.length) (hk : srt (tkN toks st.1) = 7) :
    Calls Tryz.prog 68 #[.pointer (some ⟨bp, 0, none⟩)] w (StPost toks st w bp gt capt) := by
  have HP : Hid (Ps w bp gt capt toks st) := h
  have hlp := h.lt
  have hlg := h.ltg
  have hlen := hE.len
  obtain ⟨T, hT⟩ : ∃ T, T = tkN toks st.1 := ⟨_, rfl⟩
  rw [← hT] at hk
  obtain ⟨S1, hS1⟩ : ∃ S, S = pTake toks kwSorts st := ⟨_, rfl⟩
  have hi1 : S1.1 < toks.length := by rw [hS1]; exact pTake_lt hE rfl hi
  have HC1 := Kept.mk (gr_take' hE hi kwSorts 7 rfl (by decide) hT hS1 (o := .cells #[.int .i64 4, .int .i64 5, .int .i64 6, .int .i64 7, .int .i64 8, .int .i64 9, .int .i64 10] 127) (w.alloc (.cells zero16 137)) (HP.out.alloc _) (w.heap.size + 1) (by simp) rfl)
  have e4 : (srt T == 4) = false := by rw [hk]; rfl
  have e5 : (srt T == 5) = false := by rw [hk]; rfl
  have e7 : (srt T == 7) = true := by rw [hk]; rfl
  have e6 : (srt T == 6) = false := by rw [hk]; rfl
  have e8 : (srt T == 8) = false := by rw [hk]; rfl
  have e9 : (srt T == 9) = false := by rw [hk]; rfl
  have e10 : (srt T == 10) = false := by rw [hk]; rfl
  obtain ⟨N, hN⟩ : ∃ N, N = tkN toks S1.1 := ⟨_, rfl⟩
  obtain ⟨S2, hS2⟩ : ∃ S, S = pTake toks [2] S1 := ⟨_, rfl⟩
  have hi2 : S2.1 < toks.length := by rw [hS2]; exact pTake_lt hE rfl hi1
  have HC2 : Hid (∀ W : World, Ps W bp gt capt toks S1 → Calls Tryz.prog 114 #[.pointer (some ⟨bp, 0, none⟩)] W fun e w' => e = .returned (.agg #[.int .i64 (srt N), .string N.s, .int .i64 (tval N), .int .i64 N.line]) ∧ W.grownBy w' (some bp) ∧ Ps w' bp gt capt toks S2) := fun W hW => gr_name' hE hi1 hN hS2 W hW
  obtain ⟨S3, hS3⟩ : ∃ S, S = pTake toks [12] S2 := ⟨_, rfl⟩
  have hi3 : S3.1 < toks.length := by rw [hS3]; exact pTake_lt hE rfl hi2
  have HC3 : Hid (∀ (W : World) (g : Nat), Ps W bp gt capt toks S2 → g = W.heap.size → Calls Tryz.prog 69 #[.pointer (some ⟨bp, 0, none⟩), .slice (some ⟨g, 0, none⟩) 1 1] (W.alloc (.cells #[.int .i64 12] 127)) fun e w' => ∃ N : PTok, N = tkN toks S2.1 ∧ e = .returned (.agg #[.int .i64 (srt N), .string N.s, .int .i64 (tval N), .int .i64 N.line]) ∧ (W.alloc (.cells #[.int .i64 12] 127)).grownBy w' (some bp) ∧ Ps w' bp gt capt toks S3) := fun W g hW hg => (gr_take' hE hi2 [12] 1 rfl (by decide) rfl hS3 W hW g hg rfl).mono fun e w' hx => ⟨_, rfl, hx⟩
  obtain ⟨R4, hR4⟩ : ∃ R, R = pSum toks S3 := ⟨_, rfl⟩
  have hi4 : R4.2.1 < toks.length := by rw [hR4]; exact pSum_lt hE hi3
  have HC4 : Hid (∀ W : World, Ps W bp gt capt toks S3 → Calls Tryz.prog 117 #[.pointer (some ⟨bp, 0, none⟩)] W fun e w' => ∃ v, e = .returned v ∧ w'.ownsRow W.heap.size 219 9 v R4.1.length (gtCells R4.1) ∧ W.grownBy w' (some bp) ∧ Ps w' bp gt capt toks R4.2 ∧ R4.2.1 < toks.length) := fun W hW => by rw [hR4]; exact gr_sum hW hE hi3
  obtain ⟨Q, hQ⟩ : ∃ N, N = tkN toks R4.2.1 := ⟨_, rfl⟩
  obtain ⟨S5, hS5⟩ : ∃ S, S = pTake toks [14, 15, 16] R4.2 := ⟨_, rfl⟩
  have hi5 : S5.1 < toks.length := by rw [hS5]; exact pTake_lt hE rfl hi4
  have HC5 : Hid (∀ (W : World) (g : Nat), Ps W bp gt capt toks R4.2 → g = W.heap.size → Calls Tryz.prog 69 #[.pointer (some ⟨bp, 0, none⟩), .slice (some ⟨g, 0, none⟩) 3 3] (W.alloc (.cells #[.int .i64 14, .int .i64 15, .int .i64 16] 127)) fun e w' => ∃ N : PTok, N = tkN toks R4.2.1 ∧ e = .returned (.agg #[.int .i64 (srt N), .string N.s, .int .i64 (tval N), .int .i64 N.line]) ∧ (W.alloc (.cells #[.int .i64 14, .int .i64 15, .int .i64 16] 127)).grownBy w' (some bp) ∧ Ps w' bp gt capt toks S5) := fun W g hW hg => (gr_take' hE hi4 [14, 15, 16] 3 rfl (by decide) rfl hS5 W hW g hg rfl).mono fun e w' hx => ⟨_, rfl, hx⟩
  have hQK : Hid (Q = tkN toks R4.2.1) := hQ
  obtain ⟨M, hM⟩ : ∃ N, N = tkN toks S5.1 := ⟨_, rfl⟩
  obtain ⟨S6, hS6⟩ : ∃ S, S = pTake toks [3] S5 := ⟨_, rfl⟩
  have hi6 : S6.1 < toks.length := by rw [hS6]; exact pTake_lt hE rfl hi5
  have HC6 : Hid (∀ W : World, Ps W bp gt capt toks S5 → Calls Tryz.prog 115 #[.pointer (some ⟨bp, 0, none⟩)] W fun e w' => e = .returned (.agg #[.int .i64 (srt M), .string M.s, .int .i64 (tval M), .int .i64 M.line]) ∧ W.grownBy w' (some bp) ∧ Ps w' bp gt capt toks S6) := fun W hW => gr_number' hE hi5 hM hS6 W hW
  have HRes : Hid (pStmt toks st = ({ kw := T, name := N, terms := R4.1, rel := Q, numbers := [M] }, S6)) := by
    rw [Hid]; rw [hS6, hM, hS5, hQ, hR4, hS3, hS2, hN, hS1, hT]; unfold pStmt; simp [← hT, hk, pLin]
  have HX : Hid (∀ e w', (∃ vn vu vt vl, e = .returned (.agg (gsCells ({ kw := T, name := N, terms := R4.1, rel := Q, numbers := [M] }) vn vu vt vl)) ∧ GsOwn w' w.heap.size ({ kw := T, name := N, terms := R4.1, rel := Q, numbers := [M] }) vn vu vt vl ∧ w.grownBy w' (some bp) ∧ Ps w' bp gt capt toks S6 ∧ (S6).1 < toks.length) → StPost toks st w bp gt capt e w') := fun e w' hx => by unfold StPost; rw [HRes.out]; exact hx
  clear h hk HRes hT hS1 hN hS2 hS3 hR4 hQ hS5 hM hS6
  go_enter Tryz.func68, Tryz.ntmps68
  go_wp2_with (first | (go_at_call 115; refine (HC6.out _ (hP5.sf4 hbb hgb 11 (.int .i64 (srt Q)) (.string Q.s) (.int .i64 (tval Q)) (.int .i64 Q.line))).mono ?_; rintro e w6 ⟨rfl, hg6, hP6⟩; have s6 := t5.call0 hg6; have f9_6 := frozen_of s6.hS 9; obtain ⟨a0, a1, a2, a3, a4, a5, a6, a7, a8, a9, a10, a11, a12, a13, a14, a15, z0, z1, z2, z3, z4, z5, z6, z7, z8, z9, z10, z11, z12, z13, z14, z15⟩ := cells16 s6.hA; obtain ⟨c0, c1, c2, c3, c4, c5, c6, c7, c8, c9, c10, c11, c12, c13, c14, c15, _, _, _, _, _, _, _, _, _, _, _, _, _, _, _, _⟩ := cells16 s6.hS; have hq0 := s6.lt; have hq1 := s6.lo; have hq4 : w.heap.size < w6.heap.size := (by omega); have hq2 : w.heap.size ≠ w1.heap.size := (by omega); have hq3 : w1.heap.size ≠ w.heap.size := (by omega); have o4_6 := (o4_5.kept hg6 (low_ne' o4_5 (by have := s1.lp; have := s1.lo; first | omega | (simp; omega))))) | (go_at_call 69; refine (HC5.out _ _ (hP4.sf hbb hgb 10 (.slice va4 vm4 vc4)) (by first | rfl | (simp; done) | simp [World.setCell])).mono ?_; rw [← hQK.out]; rintro e w5 ⟨X5, hX5, rfl, hg5, hP5⟩; subst X5; have s5 := t4.call hg5; have c11_5 := cell_of s5.hS 11 _ rfl; have f11_5 := frozen_of s5.hS 11; have c12_5 := cell_of s5.hS 12 _ rfl; have f12_5 := frozen_of s5.hS 12; have c13_5 := cell_of s5.hS 13 _ rfl; have f13_5 := frozen_of s5.hS 13; have c14_5 := cell_of s5.hS 14 _ rfl; have f14_5 := frozen_of s5.hS 14; have t5 := s5.set4 (cs' := #[.int .i64 (srt T), .string T.s, .int .i64 (tval T), .int .i64 T.line, .int .i64 (srt N), .string N.s, .int .i64 (tval N), .int .i64 N.line, .slice none 0 0, .slice none 0 0, .slice va4 vm4 vc4, .int .i64 (srt Q), .string Q.s, .int .i64 (tval Q), .int .i64 Q.line, .slice none 0 0]) 11 (.int .i64 (srt Q)) (.string Q.s) (.int .i64 (tval Q)) (.int .i64 Q.line) rfl; have hl5 := t5.lt; have o4_5 := (own_far (own_far (own_far (own_far ((own4.alloc _).kept hg5 (low_ne' own4 (by have := s1.lp; have := s1.lo; first | omega | (simp; omega)))) hb4 11 (.int .i64 (srt Q))) hb4 12 (.string Q.s)) hb4 13 (.int .i64 (tval Q))) hb4 14 (.int .i64 Q.line))) | (go_at_call 117; refine (HC4.out _ hP3).mono ?_; rintro e w4 ⟨v4, rfl, hown4, hg4, hP4, _⟩; obtain ⟨va4, vm4, vc4, rfl⟩ := own_slice hown4; have s4 := s3.call0 hg4; have hb4 : w1.heap.size < _ := s3.lt; have c10_4 := cell_of s4.hS 10 _ rfl; have f10_4 := frozen_of s4.hS 10; have t4 := s4.sf (cs' := #[.int .i64 (srt T), .string T.s, .int .i64 (tval T), .int .i64 T.line, .int .i64 (srt N), .string N.s, .int .i64 (tval N), .int .i64 N.line, .slice none 0 0, .slice none 0 0, .slice va4 vm4 vc4, .int .i64 0, .string .empty, .int .i64 0, .int .i64 0, .slice none 0 0]) 10 (.slice va4 vm4 vc4) rfl; have hl4 := t4.lt; have own4 := own_far hown4 hb4 10 (.slice va4 vm4 vc4)) | (go_at_call 69; refine (HC3.out _ _ (hP2.sf4 hbb hgb 4 (.int .i64 (srt N)) (.string N.s) (.int .i64 (tval N)) (.int .i64 N.line)) (by first | rfl | (simp; done) | simp [World.setCell])).mono ?_; rintro e w3 ⟨X3, _, rfl, hg3, hP3⟩; have s3 := t2.call hg3; have hl3 := s3.lt) | (go_at_call 114; refine (HC2.out _ (hP1.alloc _)).mono ?_; rintro e w2 ⟨rfl, hg2, hP2⟩; have s2 := s1.call0 hg2; have c4_2 := cell_of s2.hS 4 _ rfl; have f4_2 := frozen_of s2.hS 4; have c5_2 := cell_of s2.hS 5 _ rfl; have f5_2 := frozen_of s2.hS 5; have c6_2 := cell_of s2.hS 6 _ rfl; have f6_2 := frozen_of s2.hS 6; have c7_2 := cell_of s2.hS 7 _ rfl; have f7_2 := frozen_of s2.hS 7; have t2 := s2.set4 (cs' := #[.int .i64 (srt T), .string T.s, .int .i64 (tval T), .int .i64 T.line, .int .i64 (srt N), .string N.s, .int .i64 (tval N), .int .i64 N.line, .slice none 0 0, .slice none 0 0, .slice none 0 0, .int .i64 0, .string .empty, .int .i64 0, .int .i64 0, .slice none 0 0]) 4 (.int .i64 (srt N)) (.string N.s) (.int .i64 (tval N)) (.int .i64 N.line) rfl; have hl2 := t2.lt) | (go_at_call 69; refine HC1.get.mono ?_; rintro e w1 ⟨rfl, hg1, hP1⟩; have s1 := sb_start hlp hg1 #[.int .i64 (srt T), .string T.s, .int .i64 (tval T), .int .i64 T.line, .int .i64 0, .string .empty, .int .i64 0, .int .i64 0, .slice none 0 0, .slice none 0 0, .slice none 0 0, .int .i64 0, .string .empty, .int .i64 0, .int .i64 0, .slice none 0 0]; have hbb : bp < w1.heap.size := (by have := s1.lo; omega); have hgb : gt < w1.heap.size := (by have := s1.lo; omega)))
  have tE := s6.sf (cs' := #[.int .i64 (srt T), .string T.s, .int .i64 (tval T), .int .i64 T.line, .int .i64 (srt N), .string N.s, .int .i64 (tval N), .int .i64 N.line, .slice none 0 0, .slice (some ⟨w6.heap.size, 0, none⟩) 1 1, .slice va4 vm4 vc4, .int .i64 (srt Q), .string Q.s, .int .i64 (tval Q), .int .i64 Q.line, .slice none 0 0]) 9 (.slice (some ⟨w6.heap.size, 0, none⟩) 1 1) rfl
  obtain ⟨hF, hgF, hPF, hoF⟩ := st_end (gt := gt) (capt := capt) (toks := toks) tE hlg (.int .i64 (srt T)) (.string T.s) (.int .i64 (tval T)) (.int .i64 T.line) (.int .i64 (srt N)) (.string N.s) (.int .i64 (tval N)) (.int .i64 N.line) (.slice none 0 0) (.slice (some ⟨w6.heap.size, 0, none⟩) 1 1) (.slice va4 vm4 vc4) (.int .i64 (srt Q)) (.string Q.s) (.int .i64 (tval Q)) (.int .i64 Q.line) (.slice none 0 0)
  refine bodyPost_ret (results_cell_row rfl _ _ w.heap.size 137 _ _ _ rfl ((heap_alloc_old _ _ (by have := hgF.size; simp [World.setCell]; omega)).trans hF) Tryz.underlying137 rfl (by kernel_rfl)) rfl ?_
  exact HX.out _ _ ⟨.slice none 0 0, .slice (some ⟨w6.heap.size, 0, none⟩) 1 1, .slice va4 vm4 vc4, .slice none 0 0, rfl, ⟨World.ownsRow_nil _ _ _ _, by have q := own_new (B := w.heap.size) (s := 4) (e := 129) (cs := #[.int .i64 (srt M), .string M.s, .int .i64 (tval M), .int .i64 M.line]) (heap_alloc_new _ _) (Nat.le_trans hgF.size (Nat.le_refl _)) rfl; simpa [World.setCell, tokCells, tokCell] using q, World.ownsRow.alloc (hoF _ _ _ _ _ _ (by have := s1.lo; have := hb4; first | omega | (simp at *; omega)) (own_far o4_6 hb4 9 (.slice (some ⟨w6.heap.size, 0, none⟩) 1 1))) _, World.ownsRow_nil _ _ _ _⟩, hgF.trans (World.grownBy_alloc _ _ _), (hPF _ (hP6.sf hbb hgb 9 (.slice (some ⟨w6.heap.size, 0, none⟩) 1 1))).alloc _, hi6⟩
end Go.Proofs.YthpcbbnabnlanaaGreatDoor
