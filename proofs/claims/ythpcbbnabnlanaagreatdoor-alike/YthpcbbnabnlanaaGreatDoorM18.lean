import Derived.Test.YthpcbbnabnlanaaGreatDoorM17
namespace Go.Proofs.YthpcbbnabnlanaaGreatDoor
open Go.RowKit
set_option linter.unusedVariables false
set_option linter.unusedSimpArgs false
section
set_option maxHeartbeats 4000000
set_option maxRecDepth 100000
variable {w : World}
theorem ones_le (x : Nat) : ones x ≤ 64 := by
 have h : ∀ n y, addF 1 n y ≤ n := by
  intro n
  induction n with
  | zero => intro y; exact Nat.le_refl 0
  | succ n ih => intro y; have := ih (y / 2 ^ 1); rw [addF]; omega
 exact h 64 x
def cntUp (D : Nat) : Nat → Nat
 | 0 => 0
 | i + 1 => cntUp D i + ones (wordD D i)
theorem cntUp_le (D : Nat) : ∀ i, cntUp D i ≤ 64 * i
 | 0 => Nat.le_refl 0
 | i + 1 => by have := cntUp_le D i; have := ones_le (wordD D i); rw [cntUp]; omega
def cntD (D : Nat) : Nat := cntUp D 32
theorem dm_index (D : Nat) {i : Nat} (h : i < 32) (w : World) : Sem.run Tryz.prog (Instr.index 161 (.agg (dArr D)) (.int .i64 (i : Int))) w = .ok (.int .u64 (wordD D i : Nat)) w := by
 have h1 : ∀ w : World, Sem.run Tryz.prog (isAgg 159) w = .ok false w := fun w => by kernel_rfl
 have h2 : ∀ w : World, Sem.run Tryz.prog (sizeOf 159) w = .ok 1 w := fun w => by kernel_rfl
 have h3 := dArr_at D h
 have h4 : (0 : Int) ≤ i ∧ (i : Int) < 32 := by omega
 have h5 : Tryz.prog.underlying 161 = some (.array 32 159) := by kernel_rfl
 simp [Instr.index, run_underlying h5, asIntOf, h4, h1, h2, h3, part, Sem.run_bind, go_sem]
 intro h6; omega
def CtRel (D : Nat) (w : World) (vc vw vi : Value) (wr : World) : Prop :=
 ∃ i : Nat, i ≤ 32 ∧ vi = .int .i64 i ∧ vc = .int .i64 (cntUp D i : Nat) ∧ w.grownBy wr none
theorem dm_Count (D : Nat) (w : World) : Calls Tryz.prog 177 #[.agg (dArr D)] w fun e w' => e = .returned (.int .i64 (cntD D : Nat)) ∧ w.grownBy w' none := by
 have hs := dArr_size D
 have K : ∀ i w, Kept (Calls Tryz.prog 200 #[.int .u64 ((wordD D i : Nat) : Int)] w fun e w' => e = .returned (.int .i64 (ones (wordD D i) : Nat)) ∧ w' = w) := fun i w => Kept.mk (bt_ones (wordD D i) (by have := wordD_lt D i; simpa using this))
 go_enter Tryz.func177, Tryz.ntmps177
 go_wp2_with (refine wpList_load_row rfl 161 _ rfl w.heap.size rfl 161 (dArr D) (0, 0) _ (heap_alloc_new w _) Tryz.underlying161 rfl (dSize D) ?_)
 go_loopw [3, 5, 7] (fun vc vw vi wr => CtRel D w vc vw vi wr) (fun vc vw vi _ => 32 - (intOf vi).toNat)
 case atStart => exact ⟨0, by omega, rfl, rfl, World.grownBy_alloc _ _ _⟩
 case round =>
  obtain ⟨i, hi, rfl, rfl, hgr⟩ := hrel
  by_cases hlt : i < 32
  ·have hlt3 : (i : Int) < 32 := by omega
   have h03 : (0 : Int) ≤ i := by omega
   have ha := dm_index D hlt wr
   have K1 := K i
   have hc := cntUp_le D i
   have ho := ones_le (wordD D i)
   have HE : Hid (((cntUp D i : Nat) : Int) + ((ones (wordD D i) : Nat) : Int) = ((cntUp D (i + 1) : Nat) : Int)) := by rw [Hid, cntUp]; omega
   generalize ones (wordD D i) = O at *
   generalize cntUp D i = C at *
   go_wp2_with (go_at_call 200; refine (K1 _).get.mono ?_; rintro e w1 ⟨rfl, rfl⟩)
   go_roundw
   case rel => exact ⟨i + 1, by omega, by simp, by rw [HE.out], hgr⟩
   case measure => simp [intOf]; omega
  ·obtain rfl : i = 32 := by omega
   go_wp2
   go_ret
   exact ⟨rfl, hgr⟩
end
section
variable {w : World}
def bitsL (x : Nat) : List Nat := (List.range 64).filter x.testBit
theorem filter_none {α : Type} {p : α → Bool} : ∀ {l : List α}, (∀ a ∈ l, p a = false) → l.filter p = []
 | [], _ => rfl
 | a :: l, h => by rw [List.filter_cons, h a (by simp), filter_none (fun b hb => h b (by simp [hb]))]; rfl
theorem filter_same {α : Type} {p q : α → Bool} : ∀ {l : List α}, (∀ a ∈ l, p a = q a) → l.filter p = l.filter q
 | [], _ => rfl
 | a :: l, h => by rw [List.filter_cons, List.filter_cons, h a (by simp), filter_same (fun b hb => h b (by simp [hb]))]
theorem range_at {n k : Nat} (h : k < n) : List.range n = List.range k ++ k :: List.range' (k + 1) (n - k - 1) := by
 rw [List.range_eq_range', List.range_eq_range']
 have e : n = k + (n - k - 1 + 1) := by omega
 conv => lhs; rw [e]
 rw [← List.range'_append_1 (s := 0), List.range'_succ]
 simp
theorem bitsL_zero : bitsL 0 = [] := filter_none fun a _ => Nat.zero_testBit a
theorem bitsL_next {x : Nat} (h0 : 0 < x) (h1 : x < 2 ^ 64) : bitsL x = tzN x :: bitsL (x &&& (x - 1)) := by
 obtain ⟨m, e, hm, hk⟩ := tz_is h0 h1
 unfold bitsL
 rw [range_at hk, List.filter_append, List.filter_append, List.filter_cons, List.filter_cons]
 have a1 : (List.range (tzN x)).filter x.testBit = [] := filter_none fun a ha => by
  have h2 : a < tzN x := by simpa using ha
  rw [low_bit e hm a (by omega)]
  simp; omega
 have a2 : (List.range (tzN x)).filter (x &&& (x - 1)).testBit = [] := filter_none fun a ha => by
  have h2 : a < tzN x := by simpa using ha
  rw [and_pred_bit h0 h1, low_bit e hm a (by omega)]
  simp
 have b1 : x.testBit (tzN x) = true := by rw [low_bit e hm _ (Nat.le_refl _)]; simp
 have b2 : (x &&& (x - 1)).testBit (tzN x) = false := by rw [and_pred_bit h0 h1]; simp
 have c1 : (List.range' (tzN x + 1) (64 - tzN x - 1)).filter x.testBit = (List.range' (tzN x + 1) (64 - tzN x - 1)).filter (x &&& (x - 1)).testBit := filter_same fun a ha => by
  have h2 : tzN x + 1 ≤ a := (List.mem_range'_1.1 ha).1
  rw [and_pred_bit h0 h1]
  have h3 : a ≠ tzN x := by omega
  simp [h3]
 rw [a1, a2, b1, b2, c1]
 rfl
def valsB (i x : Nat) : List Int := (bitsL x).map fun j : Nat => ((i : Int) * 64 + (j : Int)) - 1000
def valsF (D : Nat) : Nat → Nat → List Int
 | 0, _ => []
 | f + 1, i => valsB i (wordD D i) ++ valsF D f (i + 1)
def valsD (D : Nat) : List Int := valsF D 32 0
theorem valsB_next {i x : Nat} (h0 : 0 < x) (h1 : x < 2 ^ 64) : valsB i x = ((i : Int) * 64 + ((tzN x : Nat) : Int) - 1000) :: valsB i (x &&& (x - 1)) := by
 unfold valsB; rw [bitsL_next h0 h1]; rfl
theorem valsB_zero (i : Nat) : valsB i 0 = [] := by unfold valsB; rw [bitsL_zero]; rfl
end
end Go.Proofs.YthpcbbnabnlanaaGreatDoor
