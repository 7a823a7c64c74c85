import Derived.Test.YthpcbbnabnlanaaGreatDoorM02
import Derived.Test.YthpcbbnabnlanaaGreatDoorM03
namespace Go.Proofs.YthpcbbnabnlanaaGreatDoor
open Go.RowKit
set_option linter.unusedVariables false
set_option linter.unusedSimpArgs false
section
set_option maxHeartbeats 1000000
def tokV (so : Int) (tx : ByteArray) (v l : Int) : Value := .agg #[.int .i64 so,.string tx,.int .i64 v,.int .i64 l]
def noTok : Value := tokV 0 .empty 0 0
theorem ext_len (s : ByteArray) (a b : Nat) (h1 : a ≤ b) (h2 : b ≤ s.size) : (s.extract a b).toList.length = b - a := by
 have e := size_ext s a b h1 h2
 have e2 : (s.extract a b).data.toList.length = (s.extract a b).size := by rw [Array.length_toList];rfl
 rw [Lib.extract_toList,← Lib.extract_data,e2,e]
theorem one_byte (s : ByteArray) (i : Nat) (h : i < s.size) (a : UInt8) : ((s.extract i (i + 1)).toList == [a]) = (bAt s i == (a.toNat : Int)) := by
 rw [Lib.extract_toList,bAt_in h]
 have hl : s.data.toList.length = s.size := by rw [Array.length_toList];rfl
 have e : (s.data.toList.drop i).take (i + 1 - i) = [s[i]] := by
  rw [List.drop_eq_getElem_cons (by omega),show i + 1 - i = 1 by omega];rfl
 rw [e,Bool.eq_iff_iff]
 simp only [beq_iff_eq,List.cons.injEq,and_true]
 constructor
 ·intro h1;rw [h1]
 ·intro h1;exact UInt8.toNat_inj.1 (by omega)
theorem sg_two (s : ByteArray) (h : 2 ≤ s.size) : (sgSort (s.extract 0 2) != 0) = twoI (bAt s 0) (bAt s 1) := by
 rw [two_ext s 0 (by omega)]
 have hl := ext_len s 0 2 (by omega) (by omega)
 have n1 : ∀ a : UInt8,((s.extract 0 2).toList == [a]) = false := fun a => by
  rw [beq_eq_false_iff_ne];intro e;rw [e] at hl;simp at hl
 unfold sgSort
 simp only [n1,Bool.false_eq_true,if_false,Nat.zero_add]
 cases ((s.extract 0 2).toList == [33,61]) <;> cases ((s.extract 0 2).toList == [60,61]) <;> cases ((s.extract 0 2).toList == [46,46]) <;> rfl
theorem sg_one (s : ByteArray) (h : 1 ≤ s.size) : (sgSort (s.extract 0 1) != 0) = oneI (bAt s 0) := by
 have hl := ext_len s 0 1 (by omega) (by omega)
 have n1 : ∀ a b : UInt8,((s.extract 0 1).toList == [a,b]) = false := fun a b => by
  rw [beq_eq_false_iff_ne];intro e;rw [e] at hl;simp at hl
 have n2 := fun a => one_byte s 0 (by omega) a
 rw [show 0 + 1 = 1 from rfl] at n2
 unfold sgSort oneI
 simp only [n1,n2,Bool.false_eq_true,if_false]
 generalize bAt s 0 = c
 have e : ∀ n : Nat,n < 256 → ((UInt8.ofNat n).toNat : Int) = n := fun n hn => by simp [UInt8.toNat_ofNat'];omega
 show (_ != _) = _
 by_cases c1 : c = 59 <;> by_cases c2 : c = 58 <;> by_cases c3 : c = 44 <;> by_cases c4 : c = 61 <;> by_cases c5 : c = 91 <;> by_cases c6 : c = 93 <;> by_cases c7 : c = 43 <;> by_cases c8 : c = 42 <;> by_cases c9 : c = 33 <;> by_cases c10 : c = 45 <;> first | (exfalso;omega) | (subst c;rfl) | (simp_all;done) | skip
def signV (s : ByteArray) : Value := if signLen s 0 = 0 then noTok else tokV (sgSort (s.extract 0 (signLen s 0))) (s.extract 0 (signLen s 0)) 0 0
theorem tk_sign (s : ByteArray) (w : World) (hs : s.size ≤ 2000) (h0 : 0 < s.size) : Calls Tryz.prog 113 #[.string s] w fun e w' => e = .returned (signV s) ∧ w.grownBy w' none := by
 have H2 : Hid (2 ≤ s.size → (sgSort (s.extract 0 2) != 0) = twoI (bAt s 0) (bAt s 1)) := fun h => sg_two s h
 have H1 : Hid ((sgSort (s.extract 0 1) != 0) = oneI (bAt s 0)) := sg_one s h0
 have HO : Hid (¬ 2 ≤ s.size → twoI (bAt s 0) (bAt s 1) = false) := fun h => two_out s 0 (by omega)
 have HS : Hid (signLen s 0 = if twoI (bAt s 0) (bAt s 1) then 2 else if oneI (bAt s 0) then 1 else 0) := rfl
 by_cases h2 : 2 ≤ s.size
 ·have h2' : 2 ≤ (s.size : Int) := by omega
  go_enter Tryz.func113,Tryz.ntmps113
  go_wp2
  go_loop [3,4] (fun v3 _ => v3 = .int .i64 2 ∧ 2 ≤ s.size ∨ v3 = .int .i64 1 ∧ Hid (twoI (bAt s 0) (bAt s 1) = false) ∨ v3 = .int .i64 0 ∧ Hid (signLen s 0 = 0)) (fun v3 _ => (intOf v3).toNat)
  case atStart => exact .inl ⟨rfl,by omega⟩
  case round =>
   obtain ⟨rfl,hk⟩ | ⟨rfl,hk⟩ | ⟨rfl,hk⟩ := hrel
   ·by_cases ht : twoI (bAt s 0) (bAt s 1) = true
    ·have hc : (sgSort (s.extract 0 2) != 0) = true := by rw [H2.out hk,ht]
     have hl : Hid (signLen s 0 = 2) := by rw [Hid,HS.out,if_pos ht]
     clear ht
     go_wp2_with (go_at_call 146;refine (tk_signSort _ _).mono ?_;rintro e w' ⟨rfl,hww⟩;subst w')
     refine bodyPost_ret (results_cell_row rfl _ _ w.heap.size 129 _ _ _ rfl (heap_alloc_new w _) Tryz.underlying129 rfl (by kernel_rfl)) rfl ?_
     refine ⟨?_,World.grownBy_alloc w _ none⟩
     unfold signV;rw [hl.out];rfl
    ·have hc : (sgSort (s.extract 0 2) != 0) = false := by rw [H2.out hk];simpa using ht
     have hf : Hid (twoI (bAt s 0) (bAt s 1) = false) := by rw [Hid];simpa using ht
     clear ht
     go_wp2_with (go_at_call 146;refine (tk_signSort _ _).mono ?_;rintro e w' ⟨rfl,hww⟩;subst w')
     go_round
     case rel => exact .inr (.inl ⟨rfl,hf⟩)
     case measure => simp [intOf]
   ·by_cases ht : oneI (bAt s 0) = true
    ·have hc : (sgSort (s.extract 0 1) != 0) = true := by rw [H1.out,ht]
     have hl : Hid (signLen s 0 = 1) := by rw [Hid,HS.out,hk.out];simp [ht]
     clear ht
     go_wp2_with (go_at_call 146;refine (tk_signSort _ _).mono ?_;rintro e w' ⟨rfl,hww⟩;subst w')
     refine bodyPost_ret (results_cell_row rfl _ _ w.heap.size 129 _ _ _ rfl (heap_alloc_new w _) Tryz.underlying129 rfl (by kernel_rfl)) rfl ?_
     refine ⟨?_,World.grownBy_alloc w _ none⟩
     unfold signV;rw [hl.out];rfl
    ·have hc : (sgSort (s.extract 0 1) != 0) = false := by rw [H1.out];simpa using ht
     have hl : Hid (signLen s 0 = 0) := by rw [Hid,HS.out,hk.out];simp [ht]
     clear ht
     go_wp2_with (go_at_call 146;refine (tk_signSort _ _).mono ?_;rintro e w' ⟨rfl,hww⟩;subst w')
     go_round
     case rel => first | exact .inr (.inr ⟨rfl,hl⟩) | exact .inr ⟨rfl,hl⟩
     case measure => simp [intOf]
   ·go_wp2
    refine bodyPost_ret (results_cell_row rfl _ _ w.heap.size 129 _ _ _ rfl (heap_alloc_new w _) Tryz.underlying129 rfl (by kernel_rfl)) rfl ?_
    refine ⟨?_,World.grownBy_alloc w _ none⟩
    unfold signV;rw [hk.out];rfl
 ·have h2' : (s.size : Int) < 2 := by omega
  go_enter Tryz.func113,Tryz.ntmps113
  go_wp2
  go_loop [3,4] (fun v3 _ => v3 = .int .i64 1 ∧ Hid (twoI (bAt s 0) (bAt s 1) = false) ∨ v3 = .int .i64 0 ∧ Hid (signLen s 0 = 0)) (fun v3 _ => (intOf v3).toNat)
  case atStart => exact .inl ⟨by rw [show (s.size : Int) = 1 by omega],HO.out (by omega)⟩
  case round =>
   obtain ⟨rfl,hk⟩ | ⟨rfl,hk⟩ := hrel
   ·by_cases ht : oneI (bAt s 0) = true
    ·have hc : (sgSort (s.extract 0 1) != 0) = true := by rw [H1.out,ht]
     have hl : Hid (signLen s 0 = 1) := by rw [Hid,HS.out,hk.out];simp [ht]
     clear ht
     go_wp2_with (go_at_call 146;refine (tk_signSort _ _).mono ?_;rintro e w' ⟨rfl,hww⟩;subst w')
     refine bodyPost_ret (results_cell_row rfl _ _ w.heap.size 129 _ _ _ rfl (heap_alloc_new w _) Tryz.underlying129 rfl (by kernel_rfl)) rfl ?_
     refine ⟨?_,World.grownBy_alloc w _ none⟩
     unfold signV;rw [hl.out];rfl
    ·have hc : (sgSort (s.extract 0 1) != 0) = false := by rw [H1.out];simpa using ht
     have hl : Hid (signLen s 0 = 0) := by rw [Hid,HS.out,hk.out];simp [ht]
     clear ht
     go_wp2_with (go_at_call 146;refine (tk_signSort _ _).mono ?_;rintro e w' ⟨rfl,hww⟩;subst w')
     go_round
     case rel => first | exact .inr (.inr ⟨rfl,hl⟩) | exact .inr ⟨rfl,hl⟩
     case measure => simp [intOf]
   ·go_wp2
    refine bodyPost_ret (results_cell_row rfl _ _ w.heap.size 129 _ _ _ rfl (heap_alloc_new w _) Tryz.underlying129 rfl (by kernel_rfl)) rfl ?_
    refine ⟨?_,World.grownBy_alloc w _ none⟩
    unfold signV;rw [hk.out];rfl
end
end Go.Proofs.YthpcbbnabnlanaaGreatDoor
