import Derived.Test.YthpcbbnabnlanaaGreatDoorM05
import Derived.Test.YthpcbbnabnlanaaGreatDoorM06
import Derived.Lib.Atoi
import Derived.Deep.AppendLies
import Derived.Lib.Bytealg
import Derived.Lib.Builder
import Derived.Lib.AppendStr
import Derived.Lib.UnsafeStr
import Derived.Laws.Externs
namespace Go.Proofs.YthpcbbnabnlanaaGreatDoor
set_option linter.unusedVariables false
set_option linter.unusedSimpArgs false
section
set_option maxHeartbeats 1000000
open Go.RowKit
theorem decFrom_num (s : ByteArray) : ∀ (m i acc : Nat),i + m = s.size → (∀ j,i ≤ j → j < s.size → isDigI (bAt s j) = true) → numTo s i = (acc : Int) → ∃ n : Nat,Lib.decFrom acc (s.data.toList.drop i) = some n ∧ numTo s s.size = n := by
 have hl : s.data.toList.length = s.size := by rw [Array.length_toList];rfl
 intro m
 induction m with
 | zero =>
  intro i acc h hd hn
  obtain rfl : i = s.size := by omega
  rw [List.drop_of_length_le (by omega)]
  exact ⟨acc,rfl,hn⟩
 | succ m ih =>
  intro i acc h hd hn
  have hi : i < s.size := by omega
  have hb := bAt_in hi
  have hdi := hd i (Nat.le_refl _) hi
  simp only [isDigI,Bool.and_eq_true,decide_eq_true_eq] at hdi
  rw [List.drop_eq_getElem_cons (by omega)]
  have e0 : s.data.toList[i] = s[i] := rfl
  have ev : Lib.digitVal s[i] = some (s[i].toNat - 48) := by
   unfold Lib.digitVal
   exact if_pos ⟨by omega,by omega⟩
  rw [e0]
  simp only [Lib.decFrom,ev]
  refine ih (i + 1) _ (by omega) (fun j h1 h2 => hd j (by omega) h2) ?_
  simp only [numTo]
  rw [if_neg (by omega),hn]
  omega
def IsInt1 (s : ByteArray) : Prop := (isDigI (bAt s 0) = true ∨ bAt s 0 = 45 ∧ 2 ≤ s.size) ∧ 0 < s.size ∧ ∀ j,1 ≤ j → j < s.size → isDigI (bAt s j) = true
theorem atoi_int (s : ByteArray) (h : IsInt1 s) : Lib.atoi s.data.toList = some (intVal s) := by
 have hl : s.data.toList.length = s.size := by rw [Array.length_toList];rfl
 obtain ⟨h0,hp,hd⟩ := h
 have hb := bAt_in hp
 have e : s.data.toList = s[0] :: s.data.toList.drop 1 := by
  have := List.drop_eq_getElem_cons (l := s.data.toList) (i := 0) (by omega)
  rwa [List.drop_zero] at this
 rcases h0 with h0 | ⟨h0,h2⟩
 ·obtain ⟨n,h1,h2⟩ := decFrom_num s s.size 0 0 (by omega) (fun j _ hj => by
   cases j with
   | zero => exact h0
   | succ j => exact hd (j + 1) (by omega) hj) rfl
  simp only [isDigI,Bool.and_eq_true,decide_eq_true_eq] at h0
  rw [List.drop_zero] at h1
  have n45 : (s[0] == 45) = false := by rw [beq_eq_false_iff_ne];intro q;rw [q] at hb;have : (UInt8.toNat 45 : Int) = 45 := rfl;omega
  have n43 : (s[0] == 43) = false := by rw [beq_eq_false_iff_ne];intro q;rw [q] at hb;have : (UInt8.toNat 43 : Int) = 43 := rfl;omega
  unfold intVal
  rw [if_neg (by omega),h2]
  rw [e] at h1 ⊢
  simp only [Lib.atoi,n45,n43,Bool.false_eq_true,if_false,Lib.decNat,List.isEmpty_cons,h1,Option.map_some]
 ·obtain ⟨n,h1,h3⟩ := decFrom_num s (s.size - 1) 1 0 (by omega) (fun j h1 hj => hd j h1 hj) (by simp [numTo,h0])
  have y45 : (s[0] == 45) = true := by rw [beq_iff_eq];apply UInt8.toNat_inj.1;have : (UInt8.toNat 45 : Int) = 45 := rfl;omega
  have ne : (s.data.toList.drop 1).isEmpty = false := by
   cases hq : s.data.toList.drop 1 with
   | nil => have := congrArg List.length hq;simp at this;have h5 : s.data.size = s.size := rfl;omega
   | cons _ _ => rfl
  unfold intVal
  rw [if_pos h0,h3]
  rw [e]
  simp only [Lib.atoi,y45,if_true,Lib.decNat,ne,Bool.false_eq_true,if_false,h1,Option.map_some]
theorem int_ext (s : ByteArray) (k : Nat) (hk : k ≤ s.size) (hk1 : 1 ≤ k) (hn : isNum s 0 = true) (he : k = runTo isDigI s 1) : IsInt1 (s.extract 0 k) := by
 have hz := size_ext s 0 k (by omega) hk
 have hb : ∀ j,j < k → bAt (s.extract 0 k) j = bAt s j := fun j hj => by rw [bAt_ext s 0 k j (by omega) hk,Nat.zero_add]
 refine ⟨?_,by omega,fun j h1 hj => ?_⟩
 ·rw [hb 0 (by omega)]
  simp only [isNum,Bool.or_eq_true,Bool.and_eq_true,beq_iff_eq,Nat.zero_add] at hn
  rcases hn with hn | hn
  ·exact .inl hn
  ·refine .inr ⟨hn.1,?_⟩
   have h1 : 1 < s.size := by
    by_cases q : 1 < s.size
    ·exact q
    ·have := hn.2;rw [bAt_out (by omega)] at this;simp [isDigI] at this
   have h2 := runTo_yes isDigI s 1 h1 hn.2
   have h3 := runTo_le isDigI s (1 + 1)
   omega
 ·rw [hb j (by omega)]
  exact runTo_all isDigI s 1 j h1 (by omega)
theorem tk_Atoi (s : ByteArray) (n : Int) (hl : s.size ≤ 18) (h : Lib.atoi s.data.toList = some n) (w : World) : Calls Tryz.prog 145 #[.string s] w fun e w' => e = .returned (.tuple #[.int .i64 n,.nilIface]) ∧ w.grownBy w' none := by
 refine (Tryz.strconv_Atoi s n hl h w).mono ?_
 rintro e w' ⟨rfl,tb,rfl⟩
 exact ⟨rfl,rfl,rfl,rfl,by rw [Lib.bytesWorld_size];omega,fun k hk _ => Lib.bytesWorld_at_old w _ tb k hk⟩
theorem box_kept {w w' : World} {t : TypeId} (hg : (w.alloc (.cells #[.int .i64 0,.string .empty,.int .i64 0,.int .i64 0] t)).grownBy w' none) : w'.heap[w.heap.size]? = some (.cells #[.int .i64 0,.string .empty,.int .i64 0,.int .i64 0] t (0,0)) ∧ w'.cell? ⟨w.heap.size,0,none⟩ = some (.int .i64 0) ∧ w'.cell? ⟨w.heap.size,1,none⟩ = some (.string .empty) ∧ w'.cell? ⟨w.heap.size,2,none⟩ = some (.int .i64 0) ∧ w'.cell? ⟨w.heap.size,3,none⟩ = some (.int .i64 0) ∧
   w'.frozen? ⟨w.heap.size,0,none⟩ = false ∧ w'.frozen? ⟨w.heap.size,1,none⟩ = false ∧ w'.frozen? ⟨w.heap.size,2,none⟩ = false ∧ w'.frozen? ⟨w.heap.size,3,none⟩ = false := by
 have h := (hg.block w.heap.size (by simp) (by simp)).trans (heap_alloc_new w _)
 exact ⟨h,cell_of h 0 _ rfl,cell_of h 1 _ rfl,cell_of h 2 _ rfl,cell_of h 3 _ rfl,frozen_of h 0,frozen_of h 1,frozen_of h 2,frozen_of h 3⟩
def numV (s : ByteArray) : Value := if 10 < runTo isDigI s 1 then noTok else tokV 3 (s.extract 0 (runTo isDigI s 1)) (intVal (s.extract 0 (runTo isDigI s 1))) 0
theorem tk_number (s : ByteArray) (w : World) (hs : s.size ≤ 2000) (h0 : 0 < s.size) (hn : isNum s 0 = true) : Calls Tryz.prog 112 #[.string s] w fun e w' => e = .returned (numV s) ∧ w.grownBy w' none := by
 have HN : Hid (isNum s 0 = true) := hn
 clear hn
 go_enter Tryz.func112,Tryz.ntmps112
 go_wp2
 go_loop [3] (fun v => ∃ k : Nat,1 ≤ k ∧ k ≤ s.size ∧ v = .int .i64 k ∧ Hid (runTo isDigI s k = runTo isDigI s 1)) (fun v => s.size - (intOf v).toNat)
 case atStart => exact ⟨1,by omega,by omega,rfl,rfl⟩
 case round =>
  obtain ⟨k,hk1,hk,rfl,hrun⟩ := hrel
  by_cases hkl : k < s.size
  ·have hbk := bAt_in hkl
   by_cases hD : isDigI (bAt s k) = true
   ·have cD : isDigI (s[k].toNat : Int) = true := by rw [← hbk];exact hD
    have hr2 : Hid (runTo isDigI s (k + 1) = runTo isDigI s 1) := by rw [← hrun.out];exact (runTo_yes _ _ _ hkl hD).symm
    clear hbk hD hrun
    go_wp2_with (first | (go_at_call 111;refine (tk_isDigit _ _).mono ?_;rintro e w' ⟨rfl,hww⟩;subst w'))
    go_round
    case rel => exact ⟨k + 1,by omega,by omega,by go_num,hr2⟩
    case measure => simp [intOf];omega
   ·have cD : isDigI (s[k].toNat : Int) = false := by rw [← hbk];simpa using hD
    have he : Hid (k = runTo isDigI s 1) := by rw [← hrun.out];exact (runTo_no _ _ _ (by simpa using hD)).symm
    clear hbk hD hrun
    by_cases h8 : 10 < k
    ·have c8 : (10 : Int) < (k : Int) := by omega
     have hl : Hid (numV s = noTok) := by unfold numV;rw [← he.out,if_pos h8];trivial
     clear h8
     go_wp2_with (first | (go_at_call 111;refine (tk_isDigit _ _).mono ?_;rintro e w' ⟨rfl,hww⟩;subst w'))
     refine bodyPost_ret (results_cell_row rfl _ _ w.heap.size 129 _ _ _ rfl (heap_alloc_new w _) Tryz.underlying129 rfl (by kernel_rfl)) rfl ?_
     exact ⟨by rw [hl.out];rfl,World.grownBy_alloc w _ none⟩
    ·have c8 : (k : Int) ≤ 10 := by omega
     have hl : Hid (numV s = tokV 3 (s.extract 0 k) (intVal (s.extract 0 k)) 0) := by unfold numV;rw [← he.out,if_neg h8];trivial
     have hk1' : (k : Int) ≤ s.size := by omega
     have hat : Hid (Lib.atoi (s.extract 0 k).data.toList = some (intVal (s.extract 0 k))) := atoi_int _ (int_ext s k hk hk1 HN.out he.out)
     have hz : Hid ((s.extract 0 k).size ≤ 18) := by rw [Hid,size_ext s 0 k (by omega) hk];omega
     clear h8
     go_wp2_with (first | (go_at_call 111;refine (tk_isDigit _ _).mono ?_;rintro e w' ⟨rfl,hww⟩;subst w') | (go_at_call 145;refine (tk_Atoi _ _ hz.out hat.out _).mono ?_;rintro e w1 ⟨rfl,hg⟩;obtain ⟨hB,c0,c1,c2,c3,f0,f1,f2,f3⟩ := box_kept hg))
     refine bodyPost_ret (results_cell_row rfl _ _ w.heap.size 129 _ _ _ rfl (set4 hB _ _ _ _) Tryz.underlying129 rfl (by kernel_rfl)) rfl ?_
     exact ⟨by rw [hl.out];rfl,grown_new ((World.grownBy_alloc w _ none).trans hg) (Nat.le_refl _) (set4_grown w1 _ _ _ _ _)⟩
  ·have he : Hid (k = runTo isDigI s 1) := by rw [← hrun.out];exact (runTo_end _ _ _ (by omega)).symm
   have hks : (s.size : Int) ≤ (k : Int) := by omega
   clear hkl hrun
   by_cases h8 : 10 < k
   ·have c8 : (10 : Int) < (k : Int) := by omega
    have hl : Hid (numV s = noTok) := by unfold numV;rw [← he.out,if_pos h8];trivial
    clear h8
    go_wp2_with (first | (go_at_call 111;refine (tk_isDigit _ _).mono ?_;rintro e w' ⟨rfl,hww⟩;subst w'))
    refine bodyPost_ret (results_cell_row rfl _ _ w.heap.size 129 _ _ _ rfl (heap_alloc_new w _) Tryz.underlying129 rfl (by kernel_rfl)) rfl ?_
    exact ⟨by rw [hl.out];rfl,World.grownBy_alloc w _ none⟩
   ·have c8 : (k : Int) ≤ 10 := by omega
    have hl : Hid (numV s = tokV 3 (s.extract 0 k) (intVal (s.extract 0 k)) 0) := by unfold numV;rw [← he.out,if_neg h8];trivial
    have hk1' : (k : Int) ≤ s.size := by omega
    have hat : Hid (Lib.atoi (s.extract 0 k).data.toList = some (intVal (s.extract 0 k))) := atoi_int _ (int_ext s k hk hk1 HN.out he.out)
    have hz : Hid ((s.extract 0 k).size ≤ 18) := by rw [Hid,size_ext s 0 k (by omega) hk];omega
    clear h8
    go_wp2_with (first | (go_at_call 111;refine (tk_isDigit _ _).mono ?_;rintro e w' ⟨rfl,hww⟩;subst w') | (go_at_call 145;refine (tk_Atoi _ _ hz.out hat.out _).mono ?_;rintro e w1 ⟨rfl,hg⟩;obtain ⟨hB,c0,c1,c2,c3,f0,f1,f2,f3⟩ := box_kept hg))
    refine bodyPost_ret (results_cell_row rfl _ _ w.heap.size 129 _ _ _ rfl (set4 hB _ _ _ _) Tryz.underlying129 rfl (by kernel_rfl)) rfl ?_
    exact ⟨by rw [hl.out];rfl,grown_new ((World.grownBy_alloc w _ none).trans hg) (Nat.le_refl _) (set4_grown w1 _ _ _ _ _)⟩
end
section
set_option maxHeartbeats 1000000
open Go.RowKit
def firstV (s : ByteArray) : Value := if isLetI (bAt s 0) then wordV s else if isNum s 0 then numV s else signV s
theorem wordV_is (s : ByteArray) : ∃ so tx v,wordV s = .agg #[.int .i64 so,.string tx,.int .i64 v,.int .i64 0] := by
 unfold wordV noTok tokV;split
 ·exact ⟨_,_,_,rfl⟩
 ·exact ⟨_,_,_,rfl⟩
theorem numV_is (s : ByteArray) : ∃ so tx v,numV s = .agg #[.int .i64 so,.string tx,.int .i64 v,.int .i64 0] := by
 unfold numV noTok tokV;split
 ·exact ⟨_,_,_,rfl⟩
 ·exact ⟨_,_,_,rfl⟩
theorem signV_is (s : ByteArray) : ∃ so tx v,signV s = .agg #[.int .i64 so,.string tx,.int .i64 v,.int .i64 0] := by
 unfold signV noTok tokV;split
 ·exact ⟨_,_,_,rfl⟩
 ·exact ⟨_,_,_,rfl⟩
theorem tk_first (s : ByteArray) (w : World) (hs : s.size ≤ 2000) (h0 : 0 < s.size) : Calls Tryz.prog 66 #[.string s] w fun e w' => e = .returned (firstV s) ∧ w.grownBy w' none := by
 have hb := bAt_in h0
 by_cases hL : isLetI (bAt s 0) = true
 ·have cL : isLetI (s[0].toNat : Int) = true := by rw [← hb];exact hL
  obtain ⟨so,tx,v,hv⟩ := wordV_is s
  have HC : Hid (∀ w : World,Calls Tryz.prog 110 #[.string s] w fun e w' => e = .returned (.agg #[.int .i64 so,.string tx,.int .i64 v,.int .i64 0]) ∧ w.grownBy w' none) := fun w => by rw [← hv];exact tk_word s w hs h0
  have hv : Hid (firstV s = _) := (show firstV s = _ from by unfold firstV;rw [if_pos hL]).trans hv
  go_enter Tryz.func66,Tryz.ntmps66
  clear hL hb
  go_wp2_with (first | (go_at_call 109;refine (tk_isLetter _ _).mono ?_;rintro e w' ⟨rfl,hww⟩;subst w') | (go_at_call 111;refine (tk_isDigit _ _).mono ?_;rintro e w' ⟨rfl,hww⟩;subst w') | (go_at_call 110;refine (HC.out _).mono ?_;rintro e w1 ⟨rfl,hg⟩;obtain ⟨hB,c0,c1,c2,c3,f0,f1,f2,f3⟩ := box_kept hg))
  refine bodyPost_ret (results_cell_row rfl _ _ w.heap.size 129 _ _ _ rfl (set4 hB _ _ _ _) Tryz.underlying129 rfl (by kernel_rfl)) rfl ?_
  exact ⟨by rw [hv.out],grown_new ((World.grownBy_alloc w _ none).trans hg) (Nat.le_refl _) (set4_grown w1 _ _ _ _ _)⟩
 ·have cL : isLetI (s[0].toNat : Int) = false := by rw [← hb];simpa using hL
  by_cases hD : isDigI (bAt s 0) = true
  ·have cD : isDigI (s[0].toNat : Int) = true := by rw [← hb];exact hD
   have hn : isNum s 0 = true := by simp [isNum,hD]
   obtain ⟨so,tx,v,hv⟩ := numV_is s
   have HC : Hid (∀ w : World,Calls Tryz.prog 112 #[.string s] w fun e w' => e = .returned (.agg #[.int .i64 so,.string tx,.int .i64 v,.int .i64 0]) ∧ w.grownBy w' none) := fun w => by rw [← hv];exact tk_number s w hs h0 hn
   have hv : Hid (firstV s = _) := (show firstV s = _ from by unfold firstV;rw [if_neg hL,if_pos hn]).trans hv
   go_enter Tryz.func66,Tryz.ntmps66
   clear hL hb hD hn
   go_wp2_with (first | (go_at_call 109;refine (tk_isLetter _ _).mono ?_;rintro e w' ⟨rfl,hww⟩;subst w') | (go_at_call 111;refine (tk_isDigit _ _).mono ?_;rintro e w' ⟨rfl,hww⟩;subst w') | (go_at_call 112;refine (HC.out _).mono ?_;rintro e w1 ⟨rfl,hg⟩;obtain ⟨hB,c0,c1,c2,c3,f0,f1,f2,f3⟩ := box_kept hg))
   refine bodyPost_ret (results_cell_row rfl _ _ w.heap.size 129 _ _ _ rfl (set4 hB _ _ _ _) Tryz.underlying129 rfl (by kernel_rfl)) rfl ?_
   exact ⟨by rw [hv.out],grown_new ((World.grownBy_alloc w _ none).trans hg) (Nat.le_refl _) (set4_grown w1 _ _ _ _ _)⟩
  ·have cD : isDigI (s[0].toNat : Int) = false := by rw [← hb];simpa using hD
   by_cases h45 : bAt s 0 = 45
   ·have c45 : ((s[0].toNat : Int) == 45) = true := by rw [← hb];simpa using h45
    by_cases h1 : 1 < s.size
    ·have h1' : (1 : Int) < s.size := by omega
     have hb1 := bAt_in h1
     by_cases hE : isDigI (bAt s 1) = true
     ·have cE : isDigI (s[1].toNat : Int) = true := by rw [← hb1];exact hE
      have hn : isNum s 0 = true := by simp [isNum,hE,h45]
      obtain ⟨so,tx,v,hv⟩ := numV_is s
      have HC : Hid (∀ w : World,Calls Tryz.prog 112 #[.string s] w fun e w' => e = .returned (.agg #[.int .i64 so,.string tx,.int .i64 v,.int .i64 0]) ∧ w.grownBy w' none) := fun w => by rw [← hv];exact tk_number s w hs h0 hn
      have hv : Hid (firstV s = _) := (show firstV s = _ from by unfold firstV;rw [if_neg hL,if_pos hn]).trans hv
      go_enter Tryz.func66,Tryz.ntmps66
      clear hL hb hD hn h45 hb1 hE
      go_wp2_with (first | (go_at_call 109;refine (tk_isLetter _ _).mono ?_;rintro e w' ⟨rfl,hww⟩;subst w') | (go_at_call 111;refine (tk_isDigit _ _).mono ?_;rintro e w' ⟨rfl,hww⟩;subst w') | (go_at_call 112;refine (HC.out _).mono ?_;rintro e w1 ⟨rfl,hg⟩;obtain ⟨hB,c0,c1,c2,c3,f0,f1,f2,f3⟩ := box_kept hg))
      refine bodyPost_ret (results_cell_row rfl _ _ w.heap.size 129 _ _ _ rfl (set4 hB _ _ _ _) Tryz.underlying129 rfl (by kernel_rfl)) rfl ?_
      exact ⟨by rw [hv.out],grown_new ((World.grownBy_alloc w _ none).trans hg) (Nat.le_refl _) (set4_grown w1 _ _ _ _ _)⟩
     ·have cE : isDigI (s[1].toNat : Int) = false := by rw [← hb1];simpa using hE
      have hn : ¬ isNum s 0 = true := by simp [isNum,hE,hD]
      obtain ⟨so,tx,v,hv⟩ := signV_is s
      have HC : Hid (∀ w : World,Calls Tryz.prog 113 #[.string s] w fun e w' => e = .returned (.agg #[.int .i64 so,.string tx,.int .i64 v,.int .i64 0]) ∧ w.grownBy w' none) := fun w => by rw [← hv];exact tk_sign s w hs h0
      have hv : Hid (firstV s = _) := (show firstV s = _ from by unfold firstV;rw [if_neg hL,if_neg hn]).trans hv
      go_enter Tryz.func66,Tryz.ntmps66
      clear hL hb hD hn h45 hb1 hE
      go_wp2_with (first | (go_at_call 109;refine (tk_isLetter _ _).mono ?_;rintro e w' ⟨rfl,hww⟩;subst w') | (go_at_call 111;refine (tk_isDigit _ _).mono ?_;rintro e w' ⟨rfl,hww⟩;subst w') | (go_at_call 113;refine (HC.out _).mono ?_;rintro e w1 ⟨rfl,hg⟩;obtain ⟨hB,c0,c1,c2,c3,f0,f1,f2,f3⟩ := box_kept hg))
      refine bodyPost_ret (results_cell_row rfl _ _ w.heap.size 129 _ _ _ rfl (set4 hB _ _ _ _) Tryz.underlying129 rfl (by kernel_rfl)) rfl ?_
      exact ⟨by rw [hv.out],grown_new ((World.grownBy_alloc w _ none).trans hg) (Nat.le_refl _) (set4_grown w1 _ _ _ _ _)⟩
    ·have h1' : decide ((1 : Int) < s.size) = false := by simp;omega
     have hn : ¬ isNum s 0 = true := by
      have := bAt_out (s := s) (i := 1) (by omega)
      simp [isNum,hD,this];intro _;rfl
     obtain ⟨so,tx,v,hv⟩ := signV_is s
     have HC : Hid (∀ w : World,Calls Tryz.prog 113 #[.string s] w fun e w' => e = .returned (.agg #[.int .i64 so,.string tx,.int .i64 v,.int .i64 0]) ∧ w.grownBy w' none) := fun w => by rw [← hv];exact tk_sign s w hs h0
     have hv : Hid (firstV s = _) := (show firstV s = _ from by unfold firstV;rw [if_neg hL,if_neg hn]).trans hv
     go_enter Tryz.func66,Tryz.ntmps66
     clear hL hb hD hn h45
     go_wp2_with (first | (go_at_call 109;refine (tk_isLetter _ _).mono ?_;rintro e w' ⟨rfl,hww⟩;subst w') | (go_at_call 111;refine (tk_isDigit _ _).mono ?_;rintro e w' ⟨rfl,hww⟩;subst w') | (go_at_call 113;refine (HC.out _).mono ?_;rintro e w1 ⟨rfl,hg⟩;obtain ⟨hB,c0,c1,c2,c3,f0,f1,f2,f3⟩ := box_kept hg))
     refine bodyPost_ret (results_cell_row rfl _ _ w.heap.size 129 _ _ _ rfl (set4 hB _ _ _ _) Tryz.underlying129 rfl (by kernel_rfl)) rfl ?_
     exact ⟨by rw [hv.out],grown_new ((World.grownBy_alloc w _ none).trans hg) (Nat.le_refl _) (set4_grown w1 _ _ _ _ _)⟩
   ·have c45 : ((s[0].toNat : Int) == 45) = false := by rw [← hb];simpa using h45
    have hn : ¬ isNum s 0 = true := by simp [isNum,h45,hD]
    obtain ⟨so,tx,v,hv⟩ := signV_is s
    have HC : Hid (∀ w : World,Calls Tryz.prog 113 #[.string s] w fun e w' => e = .returned (.agg #[.int .i64 so,.string tx,.int .i64 v,.int .i64 0]) ∧ w.grownBy w' none) := fun w => by rw [← hv];exact tk_sign s w hs h0
    have hv : Hid (firstV s = _) := (show firstV s = _ from by unfold firstV;rw [if_neg hL,if_neg hn]).trans hv
    go_enter Tryz.func66,Tryz.ntmps66
    clear hL hb hD hn h45
    go_wp2_with (first | (go_at_call 109;refine (tk_isLetter _ _).mono ?_;rintro e w' ⟨rfl,hww⟩;subst w') | (go_at_call 111;refine (tk_isDigit _ _).mono ?_;rintro e w' ⟨rfl,hww⟩;subst w') | (go_at_call 113;refine (HC.out _).mono ?_;rintro e w1 ⟨rfl,hg⟩;obtain ⟨hB,c0,c1,c2,c3,f0,f1,f2,f3⟩ := box_kept hg))
    refine bodyPost_ret (results_cell_row rfl _ _ w.heap.size 129 _ _ _ rfl (set4 hB _ _ _ _) Tryz.underlying129 rfl (by kernel_rfl)) rfl ?_
    exact ⟨by rw [hv.out],grown_new ((World.grownBy_alloc w _ none).trans hg) (Nat.le_refl _) (set4_grown w1 _ _ _ _ _)⟩
end
section
set_option maxHeartbeats 400000
open Go.RowKit
theorem kwSort_ne (s : ByteArray) : kwSort s ≠ 0 := by
 unfold kwSort
 repeat' split
 all_goals decide
theorem sgSort_ne (s : ByteArray) (h0 : 0 < s.size) (h : signLen s 0 ≠ 0) : sgSort (s.extract 0 (signLen s 0)) ≠ 0 := by
 unfold signLen at h ⊢
 by_cases h2 : twoI (bAt s 0) (bAt s (0 + 1)) = true
 ·rw [if_pos h2] at h ⊢
  have hz : 2 ≤ s.size := by
   by_cases q : 0 + 1 < s.size
   ·omega
   ·rw [two_out s 0 q] at h2;simp at h2
  have := sg_two s hz
  rw [show (1 : Nat) = 0 + 1 from rfl,h2] at this
  simpa using this
 ·rw [if_neg h2] at h ⊢
  by_cases h1 : oneI (bAt s 0) = true
  ·rw [if_pos h1]
   have := sg_one s h0
   rw [h1] at this
   simpa using this
  ·rw [if_neg h1] at h;exact absurd rfl h
theorem first_tok (t : ByteArray) (h0 : 0 < t.size) (l : Nat) : ((tokAt t 0).1 = 0 → firstV t = noTok) ∧ ((tokAt t 0).1 ≠ 0 → firstV t = tokV (srt ⟨t.extract 0 (tokAt t 0).1,(tokAt t 0).2,l⟩) (t.extract 0 (tokAt t 0).1) (tval ⟨t.extract 0 (tokAt t 0).1,(tokAt t 0).2,l⟩) 0
   ∧ srt ⟨t.extract 0 (tokAt t 0).1,(tokAt t 0).2,l⟩ ≠ 0) := by
 unfold firstV
 by_cases hn : isNum t 0 = true
 ·have hL : ¬ isLetI (bAt t 0) = true := by
   simp only [isNum,Bool.or_eq_true,Bool.and_eq_true,beq_iff_eq] at hn
   rcases hn with hn | hn
   ·simp [isDigI] at hn;simp [isLetI];omega
   ·rw [hn.1];decide
  have ht : tokAt t 0 = if 10 < runTo isDigI t 1 then (0,105) else (runTo isDigI t 1,105) := by simp [tokAt,hn]
  rw [if_neg hL,if_pos hn,ht]
  unfold numV
  by_cases c : 10 < runTo isDigI t 1
  ·simp [if_pos c]
  ·have hp := runTo_le isDigI t 1
   rw [if_neg c,if_neg c]
   exact ⟨fun h => by simp at h;omega,fun _ => ⟨rfl,by simp [srt]⟩⟩
 ·by_cases hL : isLetI (bAt t 0) = true
  ·have ht : tokAt t 0 = if 8 < runTo isAlnI t 1 then (0,110) else (runTo isAlnI t 1,if isKw (t.extract 0 (runTo isAlnI t 1)) then 107 else 110) := by simp [tokAt,hn,hL]
   rw [if_pos hL,ht]
   unfold wordV
   by_cases c : 8 < runTo isAlnI t 1
   ·simp [if_pos c]
   ·have hp := runTo_le isAlnI t 1
    rw [if_neg c,if_neg c]
    refine ⟨fun h => by simp at h;omega,fun _ => ?_⟩
    have e1 : ∀ b : Bool,srt ⟨t.extract 0 (runTo isAlnI t 1),if b then 107 else 110,l⟩ = kwSort (t.extract 0 (runTo isAlnI t 1)) := fun b => by cases b <;> simp [srt]
    have e2 : ∀ b : Bool,tval ⟨t.extract 0 (runTo isAlnI t 1),if b then 107 else 110,l⟩ = 0 := fun b => by cases b <;> simp [tval]
    exact ⟨by simp only [e1,e2],by simp only [e1];exact kwSort_ne _⟩
  ·have ht : tokAt t 0 = if signLen t 0 = 0 then (0,115) else (signLen t 0,115) := by simp [tokAt,hn,hL]
   rw [if_neg hL,if_neg hn,ht]
   unfold signV
   by_cases c : signLen t 0 = 0
   ·simp [if_pos c]
   ·rw [if_neg c,if_neg c]
    exact ⟨fun h => absurd h c,fun _ => ⟨by simp [srt,tval],by simp [srt];exact sgSort_ne t h0 c⟩⟩
theorem first_at (s : ByteArray) (i : Nat) (h : i < s.size) (l : Nat) : ((tokAt s i).1 = 0 → firstV (s.extract i s.size) = .agg #[.int .i64 0,.string .empty,.int .i64 0,.int .i64 0]) ∧ ((tokAt s i).1 ≠ 0 → firstV (s.extract i s.size) = .agg #[.int .i64 (srt ⟨s.extract i (tokAt s i).1,(tokAt s i).2,l⟩),.string (s.extract i (tokAt s i).1),.int .i64 (tval ⟨s.extract i (tokAt s i).1,(tokAt s i).2,l⟩),.int .i64 0]
   ∧ srt ⟨s.extract i (tokAt s i).1,(tokAt s i).2,l⟩ ≠ 0) := by
 obtain ⟨h2,h3,h4⟩ := tokAt_drop s i h
 have hz := size_ext s i s.size (by omega) (Nat.le_refl _)
 have hf := first_tok (s.extract i s.size) (by omega) l
 by_cases c : (tokAt (s.extract i s.size) 0).1 = 0
 ·exact ⟨fun _ => hf.1 c,fun q => absurd (h3 c) q⟩
 ·have e := h4 c
  have hle := tokAtSize (s.extract i s.size) 0 (by omega)
  have ex := ext_ext s i (tokAt (s.extract i s.size) 0).1 (by omega) (by omega)
  refine ⟨fun q => by have := h4 c;omega,fun _ => ?_⟩
  rw [h2,e,← ex]
  exact hf.2 c
theorem index_rest (s : ByteArray) : ∀ (m k : Nat),k + m = s.size → Lib.indexByte (s.data.toList.drop k) 10 = if runTo notNl s k = s.size then -1 else ((runTo notNl s k : Int) - k) := by
 have hl : s.data.toList.length = s.size := by rw [Array.length_toList];rfl
 intro m
 induction m with
 | zero =>
  intro k h
  rw [List.drop_of_length_le (by omega),runTo_end notNl s k (by omega),if_pos (by omega)];rfl
 | succ m ih =>
  intro k h
  have hk : k < s.size := by omega
  have hb := bAt_in hk
  rw [List.drop_eq_getElem_cons (by omega)]
  have e0 : s.data.toList[k] = s[k] := rfl
  rw [e0]
  simp only [Lib.indexByte]
  by_cases c : s[k] = 10
  ·have e : runTo notNl s k = k := runTo_no _ _ _ (by rw [hb,c];rfl)
   have c2 : (s[k] == 10) = true := by rw [c];rfl
   rw [if_pos c2,e,if_neg (by omega)];omega
  ·have c' : (s[k] == 10) = false := by simpa using c
   have ne : bAt s k ≠ 10 := fun q => c (UInt8.toNat_inj.1 (by have : (UInt8.toNat 10 : Int) = 10 := rfl;omega))
   have e := runTo_yes notNl s k hk (by have := bAt_lt hk;simp [notNl];omega)
   have hle := runTo_le notNl s (k + 1)
   rw [c',e,ih (k + 1) (by omega)]
   simp only [Bool.false_eq_true,if_false]
   by_cases q : runTo notNl s (k + 1) = s.size
   ·rw [if_pos q,if_pos q];rfl
   ·rw [if_neg q,if_neg q]
    have : ¬ ((runTo notNl s (k + 1) : Int) - ((k + 1 : Nat) : Int) == -1) = true := by simp;omega
    rw [if_neg this];omega
theorem tk_rest (s : ByteArray) (w : World) (hs : s.size ≤ 2000) : Calls Tryz.prog 65 #[.string s] w fun e w' => e = .returned (.int .i64 (runTo notNl s 0)) ∧ w' = w := by
 have hi := index_rest s s.size 0 (by omega)
 rw [List.drop_zero] at hi
 have hz := runTo_size notNl s 0 (by omega)
 by_cases q : runTo notNl s 0 = s.size
 ·rw [if_pos q] at hi
  have HI : Hid (Lib.indexByte s.data.toList 10 = -1) := hi
  have HQ : Hid (runTo notNl s 0 = s.size) := q
  clear hi q hz
  go_enter Tryz.func65,Tryz.ntmps65
  go_wp2_with (go_at_call 108;refine (Tryz.strings_IndexByte s 10 _).mono ?_;rw [show ((10 : Int).toNat.toUInt8) = 10 from rfl,HI.out];rintro e w' ⟨rfl,hww⟩;subst w')
  go_ret
  exact ⟨ret_int (by rw [HQ.out]),rfl⟩
 ·rw [if_neg q] at hi
  have HI : Hid (Lib.indexByte s.data.toList 10 = ((runTo notNl s 0 : Nat) : Int)) := by rw [Hid,hi];omega
  obtain ⟨k,hk⟩ : ∃ k,k = runTo notNl s 0 := ⟨_,rfl⟩
  rw [← hk] at HI hz ⊢
  clear hi q hk
  go_enter Tryz.func65,Tryz.ntmps65
  go_wp2_with (go_at_call 108;refine (Tryz.strings_IndexByte s 10 _).mono ?_;rw [show ((10 : Int).toNat.toUInt8) = 10 from rfl,HI.out];rintro e w' ⟨rfl,hww⟩;subst w')
  go_ret
  exact ⟨rfl,rfl⟩
end
section
set_option maxHeartbeats 4000000
set_option maxRecDepth 100000
open Go.RowKit
def tokCell (t : PTok) : List Value := [.int .i64 (srt t),.string t.s,.int .i64 (tval t),.int .i64 t.line]
def tokCells (l : List PTok) : List Value := l.flatMap tokCell
theorem tokCells_snoc (l : List PTok) (t : PTok) : tokCells (l ++ [t]) = tokCells l ++ [.int .i64 (srt t),.string t.s,.int .i64 (tval t),.int .i64 t.line] := by
 simp [tokCells,tokCell]
theorem infoTk : (Tryz.prog.info? 129).map (fun i => (i.zero,i.size,i.bytes)) = some (some (.agg #[.int .i64 0,.string .empty,.int .i64 0,.int .i64 0]),4,40) := by kernel_rfl
theorem own_none (v : Value) : v.ownBlock = none ∨ v.ownBlock ≠ none := by cases v.ownBlock <;> simp
def TkRel (s : ByteArray) (w : World) (vl vline vi : Value) (wr : World) : Prop :=
 ∃ (i line f : Nat) (acc : List PTok),i ≤ s.size ∧ vi = .int .i64 i ∧ vline = .int .i64 line ∧ line ≤ i + 1 ∧ acc.length ≤ i ∧ s.size ≤ i + f ∧ Hid (lexF s f i line acc = lex s) ∧ 1 ≤ line ∧
  wr.ownsRow w.heap.size 129 4 vl acc.length (tokCells acc) ∧ Below w.heap.size w wr
theorem tk_one (a : Int) (b : ByteArray) (c d : Int) : ∀ u ∈ [Value.int .i64 a,.string b,.int .i64 c,.int .i64 d],u.oneCell' = true := by
 intro u hu;simp at hu;rcases hu with rfl | rfl | rfl | rfl <;> rfl
theorem tk_step {s : ByteArray} {w wr w1 w2 : World} {vl v' : Value} {o o' : Obj} {i k line f : Nat} {kind : Int} {acc : List PTok} (hk1 : i < k) (hk2 : k ≤ s.size) (hline : line ≤ i + 1) (hline1 : 1 ≤ line) (hacc : acc.length ≤ i) (hf : s.size ≤ i + (f + 1)) (hl : Hid (lexF s f k line (acc ++ [⟨s.extract i k,kind,line⟩]) = lex s)) (hown : wr.ownsRow w.heap.size 129 4 vl acc.length (tokCells acc)) (hb : Below w.heap.size w wr) (hg : wr.grownBy w1 none) (hown' : w2.ownsRow w.heap.size 129 4 v' (acc.length + 1) (tokCells acc ++ [.int .i64 (srt ⟨s.extract i k,kind,line⟩),.string (s.extract i k),.int .i64 (tval ⟨s.extract i k,kind,line⟩),.int .i64 line])) (hgrow : ((w1.alloc o).alloc o').grownBy w2 vl.ownBlock) : TkRel s w v' (.int .i64 line) (.int .i64 k) w2 := by
 refine ⟨k,line,f,acc ++ [⟨s.extract i k,kind,line⟩],hk2,rfl,rfl,by omega,by simp;omega,by omega,hl,hline1,?_,?_⟩
 ·rw [tokCells_snoc];simpa using hown'
 ·have hb1 : Below w.heap.size w w1 := hb.grown hg hb.size (fun j hj => by cases hj)
  exact ((hb1.alloc hb1.size o).alloc (by have := hb1.size;simp;omega) o').grown hgrow (by have := hb1.size;simp;omega) (fun j hj => (hown.lt j hj).1)
theorem tk_Read (s : ByteArray) (w : World) (hs : s.size ≤ 2000) : Calls Tryz.prog 43 #[.string s] w fun e w' => ∃ v,e = .returned (.tuple #[v,.int .i64 (lex s).1]) ∧
   ((lex s).1 = 0 → w'.ownsRow w.heap.size 129 4 v ((lex s).2.1.length + 1) (tokCells ((lex s).2.1 ++ [endTok (lex s).2.2]))) ∧ Below w.heap.size w w' := by
 obtain ⟨i0,hi,hz0,hz1,hz2⟩ := info_parts infoTk
 go_enter Tryz.func43,Tryz.ntmps43
 go_wp2
 go_loopw [4,5,6] (fun vl vline vi wr => TkRel s w vl vline vi wr) (fun _ _ vi _ => s.size - (intOf vi).toNat)
 case atStart => exact ⟨0,1,s.size,[],Nat.zero_le _,rfl,rfl,by omega,by simp,by omega,rfl,by omega,World.ownsRow_nil _ _ _ _,Below.refl _ _⟩
 case round =>
  obtain ⟨i,line,f,acc,hile,rfl,rfl,hline,hacc,hf,hlex,hline1,hown,hb⟩ := hrel
  by_cases hlt : i < s.size
  ·obtain ⟨f,rfl⟩ : ∃ g,f = g + 1 := ⟨f - 1,by omega⟩
   have hbin := bAt_in hlt
   by_cases h10 : bAt s i = 10
   ·have hl : Hid (lexF s f (i + 1) (line + 1) acc = lex s) := by rw [← hlex.out];exact (lexF_nl hlt h10).symm
    have c10 : ((s[i].toNat : Int) == 10) = true := by rw [← hbin,h10];rfl
    clear hbin h10 hlex
    go_wp2
    go_roundw
    case rel => exact ⟨i + 1,line + 1,f,acc,by omega,by go_num,by go_num,by omega,by omega,by omega,hl,by omega,hown,hb⟩
    case measure => simp [intOf];omega
   ·have c10 : ((s[i].toNat : Int) == 10) = false := by rw [← hbin];simpa using h10
    by_cases hbl : bAt s i = 32 ∨ bAt s i = 9
    ·have hl : Hid (lexF s f (i + 1) line acc = lex s) := by rw [← hlex.out];exact (lexF_blank hlt hbl).symm
     rcases hbl with hbl | hbl
     ·have c32 : ((s[i].toNat : Int) == 32) = true := by rw [← hbin];simpa using hbl
      clear h10 hlex hbin hbl
      go_wp2
      go_roundw
      case rel => exact ⟨i + 1,line,f,acc,by omega,by go_num,rfl,by omega,by omega,by omega,hl,by omega,hown,hb⟩
      case measure => simp [intOf];omega
     ·have c32 : ((s[i].toNat : Int) == 32) = false := by rw [← hbin,hbl];rfl
      have c9 : ((s[i].toNat : Int) == 9) = true := by rw [← hbin];simpa using hbl
      clear h10 hlex hbin hbl
      go_wp2
      go_roundw
      case rel => exact ⟨i + 1,line,f,acc,by omega,by go_num,rfl,by omega,by omega,by omega,hl,by omega,hown,hb⟩
      case measure => simp [intOf];omega
    ·have c32 : ((s[i].toNat : Int) == 32) = false := by rw [← hbin];simp;omega
     have c9 : ((s[i].toNat : Int) == 9) = false := by rw [← hbin];simp;omega
     by_cases h37 : bAt s i = 37
     ·have hl : Hid (lexF s f (runTo notNl s i) line acc = lex s) := by rw [← hlex.out];exact (lexF_rest hlt h37).symm
      have c37 : ((s[i].toNat : Int) == 37) = true := by rw [← hbin,h37];rfl
      have hgo : runTo notNl s i = runTo notNl s (i + 1) := runTo_yes _ _ _ hlt (by rw [h37];rfl)
      have hgo' := runTo_le notNl s (i + 1)
      have hend := runTo_size notNl s i (by omega)
      have hdrop := runTo_drop notNl s i 0 (by omega)
      have hz := size_ext s i s.size (by omega) (Nat.le_refl _)
      obtain ⟨d,hd⟩ : ∃ d,d = runTo notNl (s.extract i s.size) 0 := ⟨_,rfl⟩
      have HC : Hid (∀ w : World,Calls Tryz.prog 65 #[.string (s.extract i s.size)] w fun e w' => e = .returned (.int .i64 d) ∧ w' = w) := fun w => by rw [hd];exact tk_rest _ w (by omega)
      rw [← hd] at hdrop
      rw [show i + 0 = i from rfl] at hdrop
      rw [← hdrop] at hl hgo hend
      have hdb : d ≤ 2000 := by omega
      have HG : Hid (i + 1 ≤ i + d ∧ i + d ≤ s.size) := by unfold Hid;omega
      clear h10 hlex hbin hbl hgo hgo' hend h37 hdrop hd hz
      go_wp2_with (go_at_call 65;refine (HC.out _).mono ?_;rintro e w' ⟨rfl,hww⟩;subst w')
      go_roundw
      case rel => exact ⟨i + d,line,f,acc,HG.out.2,by go_num,rfl,by have := HG.out;omega,by have := HG.out;omega,by have := HG.out;omega,hl,by omega,hown,hb⟩
      case measure => have := HG.out;simp [intOf];omega
     ·have c37 : ((s[i].toNat : Int) == 37) = false := by rw [← hbin];simpa using h37
      have hfa := first_at s i hlt line
      have hz := size_ext s i s.size (by omega) (Nat.le_refl _)
      have hts := tokAtSize s i hlt
      have hte := tokAt_end s i
      by_cases h0 : (tokAt s i).1 = 0
      ·have hl : Hid (lex s = (line,[],line)) := by
        rw [← hlex.out];exact lexF_bad hlt h10 hbl h37 h0
       have HC : Hid (∀ w : World,Calls Tryz.prog 66 #[.string (s.extract i s.size)] w fun e w' => e = .returned (.agg #[.int .i64 0,.string .empty,.int .i64 0,.int .i64 0]) ∧ w.grownBy w' none) := fun w => by
        rw [← hfa.1 h0];exact tk_first _ w (by omega) (by omega)
       have HLN : Hid (1 ≤ line) := hline1
       clear h10 hlex hbin hbl h37 hfa hz hts hte h0
       go_wp2_with (go_at_call 66;refine (HC.out _).mono ?_;rintro e w1 ⟨rfl,hg⟩)
       go_ret2
       rw [hl.out]
       exact ⟨_,rfl,fun q => absurd q (by have := HLN.out;simp;omega),(hb.grown hg hb.size (fun j hj => by cases hj)).alloc (by have := hb.size;have := hg.size;omega) _⟩
      ·obtain ⟨k,kind,ht⟩ : ∃ k kind,tokAt s i = (k,kind) := ⟨_,_,rfl⟩
       rw [ht] at hfa hts hte h0
       simp only at hfa hts hte h0
       have hik := hte h0
       obtain ⟨hfv,hne⟩ := hfa.2 h0
       have HC : Hid (∀ w : World,Calls Tryz.prog 66 #[.string (s.extract i s.size)] w fun e w' => e = .returned (.agg #[.int .i64 (srt ⟨s.extract i k,kind,line⟩),.string (s.extract i k),.int .i64 (tval ⟨s.extract i k,kind,line⟩),.int .i64 0]) ∧ w.grownBy w' none) := fun w => by
        rw [← hfv];exact tk_first _ w (by omega) (by omega)
       have hl : Hid (lexF s f k line (acc ++ [⟨s.extract i k,kind,line⟩]) = lex s) := by
        rw [← hlex.out,lexF_tok hlt h10 hbl h37 (by rw [ht];exact h0),ht];rfl
       have hsz : ((s.extract i k).size : Int) = (k : Int) - i := by rw [size_ext s i k (by omega) hts];omega
       have cne : (srt ⟨s.extract i k,kind,line⟩ == 0) = false := by simpa using hne
       clear h10 hlex hbin hbl h37 hfa hz hte h0 ht hfv hne
       go_wp2_with (first | (go_at_call 66;refine (HC.out _).mono ?_;rintro e w1 ⟨rfl,hg⟩;have hown1 := hown.kept hg (own_none _)) | (at_builtin;refine wpList_append_own _ rfl _ _ 85 rfl w.heap.size 129 i0 (.agg #[.int .i64 0,.string .empty,.int .i64 0,.int .i64 0]) 4 40 Tryz.underlying85 hi hz0 hz1 hz2 rfl (by decide) _ _ _ rfl ((hown1.alloc _).alloc _) ⟨w1.heap.size + 1,0,none⟩ 1 1 [.int .i64 (srt ⟨s.extract i k,kind,line⟩),.string (s.extract i k),.int .i64 (tval ⟨s.extract i k,kind,line⟩),.int .i64 line] rfl rfl (World.news_of_block (heap_alloc2_new _ _ _)) (tk_one _ _ _ _) ?c3 ?c4 ?c5 ?_))
       case c3 => unfold maxLen;omega
       case c4 => omega
       case c5 => have := hb.size;have := hg.size;simp;omega
       intro v' w2 hown' hgrow _
       have R := tk_step hik hts hline hline1 hacc hf hl hown hb hg hown' hgrow
       have hbx : w2.cell? ⟨w1.heap.size,1,none⟩ = some (.string (s.extract i k)) := hgrow.cell (by simp) (by have := hown.lt;cases h : u4.ownBlock with | none => simp | some q => have := (hown.lt q h).2;have := hg.size;simp;omega)
       clear hown' hgrow hown hown1
       go_wp2
       go_roundw
       case rel => rw [show ((i : Int) + ((k - i : Nat) : Int)) = (k : Int) by omega];exact R
       case measure => simp [intOf];omega
  ·obtain rfl : i = s.size := by omega
   have hl : Hid (lex s = (0,acc,line)) := by rw [← hlex.out];exact lexF_done _ _ _ _ _ (Nat.le_refl _)
   clear hlex
   go_wp2_with (at_builtin;refine wpList_append_own _ rfl _ _ 85 rfl w.heap.size 129 i0 (.agg #[.int .i64 0,.string .empty,.int .i64 0,.int .i64 0]) 4 40 Tryz.underlying85 hi hz0 hz1 hz2 rfl (by decide) _ _ _ rfl (hown.alloc _) ⟨wr.heap.size,0,none⟩ 1 1 [.int .i64 1,.string .empty,.int .i64 0,.int .i64 line] rfl rfl (World.news_of_block (heap_alloc_new _ _)) (tk_one _ _ _ _) ?c3 ?c4 ?c5 ?_)
   case c3 => unfold maxLen;omega
   case c4 => omega
   case c5 => have := hb.size;simp;omega
   intro v' w2 hown' hgrow _
   have hb2 : Below w.heap.size w w2 := (hb.alloc hb.size _).grown hgrow (by have := hb.size;simp;omega) (fun j hj => (hown.lt j hj).1)
   clear hgrow hown
   go_wp2
   go_ret2
   rw [hl.out]
   exact ⟨_,rfl,fun _ => by rw [tokCells_snoc];exact hown',hb2⟩
end
section
set_option maxHeartbeats 1000000
set_option maxRecDepth 100000
open Go.RowKit
theorem szB : (Tryz.prog.info? 146).map (·.size) = some 2 := by kernel_rfl
theorem infoB8 : (Tryz.prog.info? 5).map (fun i => (i.zero,i.size,i.bytes)) = some (some (.int .u8 0),1,1) := by kernel_rfl
theorem bl_check_used (b : Nat) (w : World) (h0 : w.cell? ⟨b,0,none⟩ = some (.pointer (some ⟨b,0,none⟩))) : Calls Tryz.prog 124 #[.pointer (some ⟨b,0,none⟩)] w fun e w' => e = .returned (.tuple #[]) ∧ w' = w := by
 obtain ⟨j,hj,_⟩ := Option.map_eq_some_iff.1 szB
 go_enter Tryz.func124,Tryz.ntmps124
 go_wp2
 rw [Lib.run_neq_ptr_same w _ Tryz.underlying144 hj]
 go_wp2
 go_end0
 exact ⟨rfl,rfl⟩
theorem bl_check_new (b : Nat) (w : World) (h0 : w.cell? ⟨b,0,none⟩ = some (.pointer none)) (hs : w.shape? b = some (146,2)) (hf : w.frozen? ⟨b,0,none⟩ = false) : Calls Tryz.prog 124 #[.pointer (some ⟨b,0,none⟩)] w fun e w' => e = .returned (.tuple #[]) ∧ w' = w.setCell ⟨b,0,none⟩ (.pointer (some ⟨b,0,none⟩)) := by
 obtain ⟨j,hj,hjs⟩ := Option.map_eq_some_iff.1 szB
 go_enter Tryz.func124,Tryz.ntmps124
 go_wp2
 rw [Lib.run_to_unsafe w ⟨b,0,none⟩ Tryz.underlying144 Tryz.underlying235 hj (by rw [hjs];decide) hs (Nat.zero_lt_succ 1)]
 simp only [Result.andThen]
 rw [Oper.upon_value]
 go_wp2
 rw [run_callFunc_extern Tryz.func162 (by kernel_rfl) (by kernel_rfl) (by kernel_rfl) (e := Extern.AbiNoEscape.same) (by kernel_rfl)]
 rw [Lib.run_noEscape]
 simp only [Result.andThen]
 rw [Oper.upon_value]
 go_wp2
 rw [Lib.run_from_unsafe w ⟨b,0,none⟩ Tryz.underlying235 Tryz.underlying144 hj hs (by kernel_rfl)]
 simp only [Result.andThen]
 rw [Oper.upon_value]
 go_wp2
 go_end0
 exact ⟨rfl,rfl⟩
theorem bl_check (B b : Nat) (bs : List Value) (w : World) (h : Lib.IsBuilder 146 5 B b bs w) : Calls Tryz.prog 124 #[.pointer (some ⟨b,0,none⟩)] w fun e w' => e = .returned (.tuple #[]) ∧ Lib.BuilderAt 146 5 B b (.pointer (some ⟨b,0,none⟩)) bs w' ∧ w.grownBy w' (some b) := by
 rcases h with h | h
 ·exact (bl_check_new b w h.cell0 h.shape h.frozen0).mono fun e w' hx => by obtain ⟨rfl,rfl⟩ := hx;exact ⟨rfl,h.used _,grown_set _ _ _ _⟩
 ·exact (bl_check_used b w h.cell0).mono fun e w' hx => by obtain ⟨rfl,rfl⟩ := hx;exact ⟨rfl,h,rfl,rfl,rfl,Nat.le_refl _,fun _ _ _ => rfl⟩
end
section
abbrev PSt := Nat × Int
def zeroTok : PTok := ⟨.empty,115,0⟩
def tkN (toks : List PTok) (i : Nat) : PTok := toks.getD i zeroTok
def pTake (toks : List PTok) (sorts : List Int) (st : PSt) : PSt :=
 if st.2 = 0 then (if sorts.contains (srt (tkN toks st.1)) then (st.1 + 1,0) else (st.1,((tkN toks st.1).line : Int))) else st
def pSees (toks : List PTok) (sort : Int) (st : PSt) : Bool := st.2 == 0 && srt (tkN toks st.1) == sort
structure GTerm where
 neg : Bool
 first : PTok
 name : PTok
structure GLit where
 first : PTok
 name : PTok
def pTerm (toks : List PTok) (neg : Bool) (st : PSt) : GTerm × PSt :=
 if srt (tkN toks st.1) = 3 then (⟨neg,tkN toks st.1,tkN toks (pTake toks [21] (pTake toks [3,2] st)).1⟩,pTake toks [2] (pTake toks [21] (pTake toks [3,2] st)))
 else (⟨neg,tkN toks st.1,tkN toks st.1⟩,pTake toks [3,2] st)
def pLit (toks : List PTok) (st : PSt) : GLit × PSt :=
 if srt (tkN toks st.1) = 22 then (⟨tkN toks st.1,tkN toks (pTake toks [22,2] st).1⟩,pTake toks [2] (pTake toks [22,2] st))
 else (⟨tkN toks st.1,tkN toks st.1⟩,pTake toks [22,2] st)
def sumF (toks : List PTok) : Nat → List GTerm → PSt → List GTerm × PSt
 | 0,acc,st => (acc,st)
 | f + 1,acc,st => if pSees toks 20 st || pSees toks 23 st then sumF toks f (acc ++ [(pTerm toks (srt (tkN toks st.1) == 23) (pTake toks [20,23] st)).1]) (pTerm toks (srt (tkN toks st.1) == 23) (pTake toks [20,23] st)).2 else (acc,st)
def pSum (toks : List PTok) (st : PSt) : List GTerm × PSt := sumF toks toks.length [(pTerm toks false st).1] (pTerm toks false st).2
def serF {α : Type} (toks : List PTok) (one : PSt → α × PSt) : Nat → List α → PSt → List α × PSt
 | 0,acc,st => (acc,st)
 | f + 1,acc,st => if pSees toks 13 st then serF toks one f (acc ++ [(one (pTake toks [13] st)).1]) (one (pTake toks [13] st)).2 else (acc,st)
def pSer {α : Type} (toks : List PTok) (one : PSt → α × PSt) (st : PSt) : List α × PSt := serF toks one toks.length [(one st).1] (one st).2
def pTok (toks : List PTok) (sort : Int) (st : PSt) : PTok × PSt := (tkN toks st.1,pTake toks [sort] st)
structure EndOk (toks : List PTok) : Prop where
 pos : 0 < toks.length
 last : srt (tkN toks (toks.length - 1)) = 1
 len : toks.length ≤ 2001
theorem pTake_lt {toks : List PTok} (h : EndOk toks) {sorts : List Int} (hs : sorts.contains 1 = false) {st : PSt} (hi : st.1 < toks.length) : (pTake toks sorts st).1 < toks.length := by
 unfold pTake
 split
 ·split
  ·rename_i hc
   show st.1 + 1 < toks.length
   rcases Nat.lt_or_ge (st.1 + 1) toks.length with q | q
   ·exact q
   ·have e : st.1 = toks.length - 1 := by omega
    rw [e,h.last,hs] at hc;exact absurd hc (by simp)
  ·exact hi
 ·exact hi
theorem pTake_le {toks : List PTok} {sorts : List Int} {st : PSt} : st.1 ≤ (pTake toks sorts st).1 := by
 unfold pTake;split
 ·split
  ·exact Nat.le_succ _
  ·exact Nat.le_refl _
 ·exact Nat.le_refl _
theorem pTake_sees {toks : List PTok} {sorts : List Int} {st : PSt} (h0 : st.2 = 0) (h : sorts.contains (srt (tkN toks st.1)) = true) : pTake toks sorts st = (st.1 + 1,0) := by
 unfold pTake;rw [if_pos h0,if_pos h]
theorem pTerm_lt {toks : List PTok} (h : EndOk toks) (neg : Bool) {st : PSt} (hi : st.1 < toks.length) : (pTerm toks neg st).2.1 < toks.length ∧ st.1 ≤ (pTerm toks neg st).2.1 := by
 have a1 := pTake_lt h (sorts := [3,2]) rfl hi
 have b1 := pTake_le (toks := toks) (sorts := [3,2]) (st := st)
 have a2 := pTake_lt h (sorts := [21]) rfl a1
 have b2 := pTake_le (toks := toks) (sorts := [21]) (st := pTake toks [3,2] st)
 have a3 := pTake_lt h (sorts := [2]) rfl a2
 have b3 := pTake_le (toks := toks) (sorts := [2]) (st := pTake toks [21] (pTake toks [3,2] st))
 unfold pTerm
 split
 ·exact ⟨a3,by show _ ≤ (pTake toks [2] _).1;omega⟩
 ·exact ⟨a1,b1⟩
theorem pLit_lt {toks : List PTok} (h : EndOk toks) {st : PSt} (hi : st.1 < toks.length) : (pLit toks st).2.1 < toks.length ∧ st.1 ≤ (pLit toks st).2.1 := by
 have a1 := pTake_lt h (sorts := [22,2]) rfl hi
 have b1 := pTake_le (toks := toks) (sorts := [22,2]) (st := st)
 have a3 := pTake_lt h (sorts := [2]) rfl a1
 have b3 := pTake_le (toks := toks) (sorts := [2]) (st := pTake toks [22,2] st)
 unfold pLit
 split
 ·exact ⟨a3,by show _ ≤ (pTake toks [2] _).1;omega⟩
 ·exact ⟨a1,b1⟩
theorem tkN_get {toks : List PTok} {i : Nat} (h : i < toks.length) : toks[i]? = some (tkN toks i) := by
 unfold tkN;simp [h]
end
end Go.Proofs.YthpcbbnabnlanaaGreatDoor
