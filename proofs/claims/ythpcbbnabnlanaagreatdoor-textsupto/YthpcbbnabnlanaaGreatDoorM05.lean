import Derived.Test.YthpcbbnabnlanaaGreatDoorM04
import Derived.Deep.RegionLaw
namespace Go.Proofs.YthpcbbnabnlanaaGreatDoor
open Go.RowKit
set_option linter.unusedVariables false
set_option linter.unusedSimpArgs false
section
set_option maxHeartbeats 1000000
def wordV (s : ByteArray) : Value := if 8 < runTo isAlnI s 1 then noTok else tokV (kwSort (s.extract 0 (runTo isAlnI s 1))) (s.extract 0 (runTo isAlnI s 1)) 0 0
theorem tk_word (s : ByteArray) (w : World) (hs : s.size ≤ 2000) (h0 : 0 < s.size) : Calls Tryz.prog 110 #[.string s] w fun e w' => e = .returned (wordV s) ∧ w.grownBy w' none := by
 go_enter Tryz.func110,Tryz.ntmps110
 go_wp2
 go_loop [3] (fun v => ∃ k : Nat,1 ≤ k ∧ k ≤ s.size ∧ v = .int .i64 k ∧ Hid (runTo isAlnI s k = runTo isAlnI s 1)) (fun v => s.size - (intOf v).toNat)
 case atStart => exact ⟨1,by omega,by omega,rfl,rfl⟩
 case round =>
  obtain ⟨k,hk1,hk,rfl,hrun⟩ := hrel
  by_cases hkl : k < s.size
  ·have hbk := bAt_in hkl
   by_cases hL : isLetI (bAt s k) = true
   ·have cL : isLetI (s[k].toNat : Int) = true := by rw [← hbk];exact hL
    have hr2 : Hid (runTo isAlnI s (k + 1) = runTo isAlnI s 1) := by rw [← hrun.out];exact (runTo_yes _ _ _ hkl (by simp [isAlnI,hL])).symm
    clear hbk hL hrun
    go_wp2_with (first | (go_at_call 109;refine (tk_isLetter _ _).mono ?_;rintro e w' ⟨rfl,hww⟩;subst w') | (go_at_call 111;refine (tk_isDigit _ _).mono ?_;rintro e w' ⟨rfl,hww⟩;subst w'))
    go_round
    case rel => exact ⟨k + 1,by omega,by omega,by go_num,hr2⟩
    case measure => simp [intOf];omega
   ·have cL : isLetI (s[k].toNat : Int) = false := by rw [← hbk];simpa using hL
    by_cases hD : isDigI (bAt s k) = true
    ·have cD : isDigI (s[k].toNat : Int) = true := by rw [← hbk];exact hD
     have hr2 : Hid (runTo isAlnI s (k + 1) = runTo isAlnI s 1) := by rw [← hrun.out];exact (runTo_yes _ _ _ hkl (by simp [isAlnI,hD])).symm
     clear hbk hL hD hrun
     go_wp2_with (first | (go_at_call 109;refine (tk_isLetter _ _).mono ?_;rintro e w' ⟨rfl,hww⟩;subst w') | (go_at_call 111;refine (tk_isDigit _ _).mono ?_;rintro e w' ⟨rfl,hww⟩;subst w'))
     go_round
     case rel => exact ⟨k + 1,by omega,by omega,by go_num,hr2⟩
     case measure => simp [intOf];omega
    ·have cD : isDigI (s[k].toNat : Int) = false := by rw [← hbk];simpa using hD
     have he : Hid (k = runTo isAlnI s 1) := by rw [← hrun.out];exact (runTo_no _ _ _ (by simp [isAlnI,hD,hL])).symm
     clear hbk hL hD hrun
     by_cases h8 : 8 < k
     ·have c8 : (8 : Int) < (k : Int) := by omega
      have hl : Hid (wordV s = noTok) := by unfold wordV;rw [← he.out,if_pos h8];trivial
      clear h8
      go_wp2_with (first | (go_at_call 109;refine (tk_isLetter _ _).mono ?_;rintro e w' ⟨rfl,hww⟩;subst w') | (go_at_call 111;refine (tk_isDigit _ _).mono ?_;rintro e w' ⟨rfl,hww⟩;subst w'))
      refine bodyPost_ret (results_cell_row rfl _ _ w.heap.size 129 _ _ _ rfl (heap_alloc_new w _) Tryz.underlying129 rfl (by kernel_rfl)) rfl ?_
      exact ⟨by rw [hl.out];rfl,World.grownBy_alloc w _ none⟩
     ·have c8 : (k : Int) ≤ 8 := by omega
      have hl : Hid (wordV s = tokV (kwSort (s.extract 0 k)) (s.extract 0 k) 0 0) := by unfold wordV;rw [← he.out,if_neg h8];trivial
      have hk1 : (k : Int) ≤ s.size := by omega
      clear h8
      go_wp2_with (first | (go_at_call 109;refine (tk_isLetter _ _).mono ?_;rintro e w' ⟨rfl,hww⟩;subst w') | (go_at_call 111;refine (tk_isDigit _ _).mono ?_;rintro e w' ⟨rfl,hww⟩;subst w'))
      go_region_law (go_simp;go_at_call 144;refine (tk_wordSort _ _).mono ?_;rintro e w' ⟨rfl,hww⟩;subst w')
      all_goals go_wp2
      all_goals refine bodyPost_ret (results_cell_row rfl _ _ w.heap.size 129 _ _ _ rfl (heap_alloc_new w _) Tryz.underlying129 rfl (by kernel_rfl)) rfl ?_
      all_goals exact ⟨by rw [hl.out];rfl,(World.grownBy_alloc w _ none).trans (grown_drew' _ none)⟩
  ·have he : Hid (k = runTo isAlnI s 1) := by rw [← hrun.out];exact (runTo_end _ _ _ (by omega)).symm
   have hks : (s.size : Int) ≤ (k : Int) := by omega
   clear hkl hrun
   by_cases h8 : 8 < k
   ·have c8 : (8 : Int) < (k : Int) := by omega
    have hl : Hid (wordV s = noTok) := by unfold wordV;rw [← he.out,if_pos h8];trivial
    clear h8
    go_wp2_with (first | (go_at_call 109;refine (tk_isLetter _ _).mono ?_;rintro e w' ⟨rfl,hww⟩;subst w') | (go_at_call 111;refine (tk_isDigit _ _).mono ?_;rintro e w' ⟨rfl,hww⟩;subst w'))
    refine bodyPost_ret (results_cell_row rfl _ _ w.heap.size 129 _ _ _ rfl (heap_alloc_new w _) Tryz.underlying129 rfl (by kernel_rfl)) rfl ?_
    exact ⟨by rw [hl.out];rfl,World.grownBy_alloc w _ none⟩
   ·have c8 : (k : Int) ≤ 8 := by omega
    have hl : Hid (wordV s = tokV (kwSort (s.extract 0 k)) (s.extract 0 k) 0 0) := by unfold wordV;rw [← he.out,if_neg h8];trivial
    have hk1 : (k : Int) ≤ s.size := by omega
    clear h8
    go_wp2_with (first | (go_at_call 109;refine (tk_isLetter _ _).mono ?_;rintro e w' ⟨rfl,hww⟩;subst w') | (go_at_call 111;refine (tk_isDigit _ _).mono ?_;rintro e w' ⟨rfl,hww⟩;subst w'))
    go_region_law (go_simp;go_at_call 144;refine (tk_wordSort _ _).mono ?_;rintro e w' ⟨rfl,hww⟩;subst w')
    all_goals go_wp2
    all_goals refine bodyPost_ret (results_cell_row rfl _ _ w.heap.size 129 _ _ _ rfl (heap_alloc_new w _) Tryz.underlying129 rfl (by kernel_rfl)) rfl ?_
    all_goals exact ⟨by rw [hl.out];rfl,(World.grownBy_alloc w _ none).trans (grown_drew' _ none)⟩
end
end Go.Proofs.YthpcbbnabnlanaaGreatDoor
