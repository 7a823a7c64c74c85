import Derived.Test.YthpcbbnabnlanaaGreatDoorM01
import Derived.Deep.RegionLaw
import Derived.Shelf.Strings.Builder1
import Derived.Shelf.Small.Strs
import Derived.Shelf.Strings.BuilderF
import Derived.Shelf.Strings.BuilderK
import Derived.Shelf.Strconv.Atoi
import Derived.Shelf.Strconv.Itoa0
import Derived.Shelf.Strconv.Itoa1
import Derived.Shelf.LaysM
import Derived.Shelf.Strconv.Itoa2
import Derived.Shelf.Strconv.Itoa3
import Derived.Shelf.Strconv.Clone
import Derived.Shelf.Strings.Search1
import Derived.Test.YthpcbbnabnlanaaGreatDoorProg
import Derived.Lib.Atoi
/-
  The program's sign: the token of a sign that a text begins with, or no token.
-/
namespace Go.Proofs.YthpcbbnabnlanaaGreatDoor
open Go.RowKit
set_option linter.unusedVariables false

/-- a token as a value -/
def tokV (so : Int) (tx : ByteArray) (v l : Int) : Value := .agg #[.int .i64 so, .string tx, .int .i64 v, .int .i64 l]
def noTok : Value := tokV 0 .empty 0 0

theorem ext_len (s : ByteArray) (a b : Nat) (h1 : a ≤ b) (h2 : b ≤ s.size) : (s.extract a b).toList.length = b - a := by
  have e := size_ext s a b h1 h2
  have e2 : (s.extract a b).data.toList.length = (s.extract a b).size := by rw [Array.length_toList]; rfl
  rw [Lib.extract_toList, ← Lib.extract_data, e2, e]
theorem one_byte (s : ByteArray) (i : Nat) (h : i < s.size) (a : UInt8) : ((s.extract i (i + 1)).toList == [a]) = (bAt s i == (a.toNat : Int)) := by
  rw [Lib.extract_toList, bAt_in h]
  have hl : s.data.toList.length = s.size := by rw [Array.length_toList]; rfl
  have e : (s.data.toList.drop i).take (i + 1 - i) = [s[i]] := by
    rw [List.drop_eq_getElem_cons (by omega), show i + 1 - i = 1 by omega]; rfl
  rw [e, Bool.eq_iff_iff]
  simp only [beq_iff_eq, List.cons.injEq, and_true]
  constructor
  · intro h1; rw [h1]
  · intro h1; exact UInt8.toNat_inj.1 (by omega)
theorem sg_two (s : ByteArray) (h : 2 ≤ s.size) : (sgSort (s.extract 0 2) != 0) = twoI (bAt s 0) (bAt s 1) := by
  rw [two_ext s 0 (by omega)]
  have hl := ext_len s 0 2 (by omega) (by omega)
  have n1 : ∀ a : UInt8, ((s.extract 0 2).toList == [a]) = false := fun a => by
    rw [beq_eq_false_iff_ne]; intro e; rw [e] at hl; simp at hl
  unfold sgSort
  simp only [n1, Bool.false_eq_true, if_false, Nat.zero_add]
  cases ((s.extract 0 2).toList == [33, 61]) <;> cases ((s.extract 0 2).toList == [60, 61]) <;> cases ((s.extract 0 2).toList == [46, 46]) <;> rfl
theorem sg_one (s : ByteArray) (h : 1 ≤ s.size) : (sgSort (s.extract 0 1) != 0) = oneI (bAt s 0) := by
  have hl := ext_len s 0 1 (by omega) (by omega)
  have n1 : ∀ a b : UInt8, ((s.extract 0 1).toList == [a, b]) = false := fun a b => by
    rw [beq_eq_false_iff_ne]; intro e; rw [e] at hl; simp at hl
  have n2 := fun a => one_byte s 0 (by omega) a
  rw [show 0 + 1 = 1 from rfl] at n2
  unfold sgSort oneI
  simp only [n1, n2, Bool.false_eq_true, if_false]
  generalize bAt s 0 = c
  have e : ∀ n : Nat, n < 256 → ((UInt8.ofNat n).toNat : Int) = n := fun n hn => by simp [UInt8.toNat_ofNat']; omega
  show (_ != _) = _
  by_cases c1 : c = 59 <;> by_cases c2 : c = 58 <;> by_cases c3 : c = 44 <;> by_cases c4 : c = 61 <;> by_cases c5 : c = 91 <;> by_cases c6 : c = 93 <;> by_cases c7 : c = 43 <;> by_cases c8 : c = 42 <;> by_cases c9 : c = 33 <;> by_cases c10 : c = 45 <;> first | (exfalso; omega) | (subst c; rfl) | (simp_all; done) | skip

def signV (s : ByteArray) : Value := if signLen s 0 = 0 then noTok else tokV (sgSort (s.extract 0 (signLen s 0))) (s.extract 0 (signLen s 0)) 0 0

set_option maxHeartbeats 1000000 in
theorem tk_sign (s : ByteArray) (w : World) (hs : s.size ≤ 2000) (h0 : 0 < s.size) :
    Calls Tryz.prog 113 #[.string s] w fun e w' => e = .returned (signV s) ∧ w.grownBy w' none := by
  have H2 : Hid (2 ≤ s.size → (sgSort (s.extract 0 2) != 0) = twoI (bAt s 0) (bAt s 1)) := fun h => sg_two s h
  have H1 : Hid ((sgSort (s.extract 0 1) != 0) = oneI (bAt s 0)) := sg_one s h0
  have HO : Hid (¬ 2 ≤ s.size → twoI (bAt s 0) (bAt s 1) = false) := fun h => two_out s 0 (by omega)
  have HS : Hid (signLen s 0 = if twoI (bAt s 0) (bAt s 1) then 2 else if oneI (bAt s 0) then 1 else 0) := rfl
  by_cases h2 : 2 ≤ s.size
  · have h2' : 2 ≤ (s.size : Int) := by omega
    go_enter Tryz.func113, Tryz.ntmps113
    go_wp2
    go_loop [3, 4] (fun v3 _ => v3 = .int .i64 2 ∧ 2 ≤ s.size ∨ v3 = .int .i64 1 ∧ Hid (twoI (bAt s 0) (bAt s 1) = false) ∨ v3 = .int .i64 0 ∧ Hid (signLen s 0 = 0)) (fun v3 _ => (intOf v3).toNat)
    case atStart => exact .inl ⟨rfl, by omega⟩
    case round =>
      obtain ⟨rfl, hk⟩ | ⟨rfl, hk⟩ | ⟨rfl, hk⟩ := hrel
      · by_cases ht : twoI (bAt s 0) (bAt s 1) = true
        · have hc : (sgSort (s.extract 0 2) != 0) = true := by rw [H2.out hk, ht]
          have hl : Hid (signLen s 0 = 2) := by rw [Hid, HS.out, if_pos ht]
          clear ht
          go_wp2_with (go_at_call 146; refine (tk_signSort _ _).mono ?_; rintro e w' ⟨rfl, hww⟩; subst w')
          refine bodyPost_ret (results_cell_row rfl _ _ w.heap.size 129 _ _ _ rfl (heap_alloc_new w _) Tryz.underlying129 rfl (by kernel_rfl)) rfl ?_
          refine ⟨?_, World.grownBy_alloc w _ none⟩
          unfold signV; rw [hl.out]; rfl
        · have hc : (sgSort (s.extract 0 2) != 0) = false := by rw [H2.out hk]; simpa using ht
          have hf : Hid (twoI (bAt s 0) (bAt s 1) = false) := by rw [Hid]; simpa using ht
          clear ht
          go_wp2_with (go_at_call 146; refine (tk_signSort _ _).mono ?_; rintro e w' ⟨rfl, hww⟩; subst w')
          go_round
          case rel => exact .inr (.inl ⟨rfl, hf⟩)
          case measure => simp [intOf]
      · by_cases ht : oneI (bAt s 0) = true
        · have hc : (sgSort (s.extract 0 1) != 0) = true := by rw [H1.out, ht]
          have hl : Hid (signLen s 0 = 1) := by rw [Hid, HS.out, hk.out]; simp [ht]
          clear ht
          go_wp2_with (go_at_call 146; refine (tk_signSort _ _).mono ?_; rintro e w' ⟨rfl, hww⟩; subst w')
          refine bodyPost_ret (results_cell_row rfl _ _ w.heap.size 129 _ _ _ rfl (heap_alloc_new w _) Tryz.underlying129 rfl (by kernel_rfl)) rfl ?_
          refine ⟨?_, World.grownBy_alloc w _ none⟩
          unfold signV; rw [hl.out]; rfl
        · have hc : (sgSort (s.extract 0 1) != 0) = false := by rw [H1.out]; simpa using ht
          have hl : Hid (signLen s 0 = 0) := by rw [Hid, HS.out, hk.out]; simp [ht]
          clear ht
          go_wp2_with (go_at_call 146; refine (tk_signSort _ _).mono ?_; rintro e w' ⟨rfl, hww⟩; subst w')
          go_round
          case rel => first | exact .inr (.inr ⟨rfl, hl⟩) | exact .inr ⟨rfl, hl⟩
          case measure => simp [intOf]
      · go_wp2
        refine bodyPost_ret (results_cell_row rfl _ _ w.heap.size 129 _ _ _ rfl (heap_alloc_new w _) Tryz.underlying129 rfl (by kernel_rfl)) rfl ?_
        refine ⟨?_, World.grownBy_alloc w _ none⟩
        unfold signV; rw [hk.out]; rfl
  · have h2' : (s.size : Int) < 2 := by omega
    go_enter Tryz.func113, Tryz.ntmps113
    go_wp2
    go_loop [3, 4] (fun v3 _ => v3 = .int .i64 1 ∧ Hid (twoI (bAt s 0) (bAt s 1) = false) ∨ v3 = .int .i64 0 ∧ Hid (signLen s 0 = 0)) (fun v3 _ => (intOf v3).toNat)
    case atStart => exact .inl ⟨by rw [show (s.size : Int) = 1 by omega], HO.out (by omega)⟩
    case round =>
      obtain ⟨rfl, hk⟩ | ⟨rfl, hk⟩ := hrel
      · by_cases ht : oneI (bAt s 0) = true
        · have hc : (sgSort (s.extract 0 1) != 0) = true := by rw [H1.out, ht]
          have hl : Hid (signLen s 0 = 1) := by rw [Hid, HS.out, hk.out]; simp [ht]
          clear ht
          go_wp2_with (go_at_call 146; refine (tk_signSort _ _).mono ?_; rintro e w' ⟨rfl, hww⟩; subst w')
          refine bodyPost_ret (results_cell_row rfl _ _ w.heap.size 129 _ _ _ rfl (heap_alloc_new w _) Tryz.underlying129 rfl (by kernel_rfl)) rfl ?_
          refine ⟨?_, World.grownBy_alloc w _ none⟩
          unfold signV; rw [hl.out]; rfl
        · have hc : (sgSort (s.extract 0 1) != 0) = false := by rw [H1.out]; simpa using ht
          have hl : Hid (signLen s 0 = 0) := by rw [Hid, HS.out, hk.out]; simp [ht]
          clear ht
          go_wp2_with (go_at_call 146; refine (tk_signSort _ _).mono ?_; rintro e w' ⟨rfl, hww⟩; subst w')
          go_round
          case rel => first | exact .inr (.inr ⟨rfl, hl⟩) | exact .inr ⟨rfl, hl⟩
          case measure => simp [intOf]
      · go_wp2
        refine bodyPost_ret (results_cell_row rfl _ _ w.heap.size 129 _ _ _ rfl (heap_alloc_new w _) Tryz.underlying129 rfl (by kernel_rfl)) rfl ?_
        refine ⟨?_, World.grownBy_alloc w _ none⟩
        unfold signV; rw [hk.out]; rfl
end Go.Proofs.YthpcbbnabnlanaaGreatDoor

/-
  The program's word: the token of a name or a keyword that a text begins with, or no token.
-/
namespace Go.Proofs.YthpcbbnabnlanaaGreatDoor
open Go.RowKit
set_option linter.unusedVariables false
def wordV (s : ByteArray) : Value := if 8 < runTo isAlnI s 1 then noTok else tokV (kwSort (s.extract 0 (runTo isAlnI s 1))) (s.extract 0 (runTo isAlnI s 1)) 0 0


set_option maxHeartbeats 1000000 in
theorem tk_word (s : ByteArray) (w : World) (hs : s.size ≤ 2000) (h0 : 0 < s.size) :
    Calls Tryz.prog 110 #[.string s] w fun e w' => e = .returned (wordV s) ∧ w.grownBy w' none := by
  go_enter Tryz.func110, Tryz.ntmps110
  go_wp2
  go_loop [3] (fun v => ∃ k : Nat, 1 ≤ k ∧ k ≤ s.size ∧ v = .int .i64 k ∧ Hid (runTo isAlnI s k = runTo isAlnI s 1)) (fun v => s.size - (intOf v).toNat)
  case atStart => exact ⟨1, by omega, by omega, rfl, rfl⟩
  case round =>
    obtain ⟨k, hk1, hk, rfl, hrun⟩ := hrel
    by_cases hkl : k < s.size
    · have hbk := bAt_in hkl
      by_cases hL : isLetI (bAt s k) = true
      · have cL : isLetI (s[k].toNat : Int) = true := by rw [← hbk]; exact hL
        have hr2 : Hid (runTo isAlnI s (k + 1) = runTo isAlnI s 1) := by rw [← hrun.out]; exact (runTo_yes _ _ _ hkl (by simp [isAlnI, hL])).symm
        clear hbk hL hrun
        go_wp2_with (first | (go_at_call 109; refine (tk_isLetter _ _).mono ?_; rintro e w' ⟨rfl, hww⟩; subst w') | (go_at_call 111; refine (tk_isDigit _ _).mono ?_; rintro e w' ⟨rfl, hww⟩; subst w'))
        go_round
        case rel => exact ⟨k + 1, by omega, by omega, by go_num, hr2⟩
        case measure => simp [intOf]; omega
      · have cL : isLetI (s[k].toNat : Int) = false := by rw [← hbk]; simpa using hL
        by_cases hD : isDigI (bAt s k) = true
        · have cD : isDigI (s[k].toNat : Int) = true := by rw [← hbk]; exact hD
          have hr2 : Hid (runTo isAlnI s (k + 1) = runTo isAlnI s 1) := by rw [← hrun.out]; exact (runTo_yes _ _ _ hkl (by simp [isAlnI, hD])).symm
          clear hbk hL hD hrun
          go_wp2_with (first | (go_at_call 109; refine (tk_isLetter _ _).mono ?_; rintro e w' ⟨rfl, hww⟩; subst w') | (go_at_call 111; refine (tk_isDigit _ _).mono ?_; rintro e w' ⟨rfl, hww⟩; subst w'))
          go_round
          case rel => exact ⟨k + 1, by omega, by omega, by go_num, hr2⟩
          case measure => simp [intOf]; omega
        · have cD : isDigI (s[k].toNat : Int) = false := by rw [← hbk]; simpa using hD
          have he : Hid (k = runTo isAlnI s 1) := by rw [← hrun.out]; exact (runTo_no _ _ _ (by simp [isAlnI, hD, hL])).symm
          clear hbk hL hD hrun
          by_cases h8 : 8 < k
          · have c8 : (8 : Int) < (k : Int) := by omega
            have hl : Hid (wordV s = noTok) := by unfold wordV; rw [← he.out, if_pos h8]; trivial
            clear h8
            go_wp2_with (first | (go_at_call 109; refine (tk_isLetter _ _).mono ?_; rintro e w' ⟨rfl, hww⟩; subst w') | (go_at_call 111; refine (tk_isDigit _ _).mono ?_; rintro e w' ⟨rfl, hww⟩; subst w'))
            refine bodyPost_ret (results_cell_row rfl _ _ w.heap.size 129 _ _ _ rfl (heap_alloc_new w _) Tryz.underlying129 rfl (by kernel_rfl)) rfl ?_
            exact ⟨by rw [hl.out]; rfl, World.grownBy_alloc w _ none⟩
          · have c8 : (k : Int) ≤ 8 := by omega
            have hl : Hid (wordV s = tokV (kwSort (s.extract 0 k)) (s.extract 0 k) 0 0) := by unfold wordV; rw [← he.out, if_neg h8]; trivial
            have hk1 : (k : Int) ≤ s.size := by omega
            clear h8
            go_wp2_with (first | (go_at_call 109; refine (tk_isLetter _ _).mono ?_; rintro e w' ⟨rfl, hww⟩; subst w') | (go_at_call 111; refine (tk_isDigit _ _).mono ?_; rintro e w' ⟨rfl, hww⟩; subst w'))
            go_region_law (go_simp; go_at_call 144; refine (tk_wordSort _ _).mono ?_; rintro e w' ⟨rfl, hww⟩; subst w')
            all_goals go_wp2
            all_goals refine bodyPost_ret (results_cell_row rfl _ _ w.heap.size 129 _ _ _ rfl (heap_alloc_new w _) Tryz.underlying129 rfl (by kernel_rfl)) rfl ?_
            all_goals exact ⟨by rw [hl.out]; rfl, (World.grownBy_alloc w _ none).trans (grown_drew' _ none)⟩
    · have he : Hid (k = runTo isAlnI s 1) := by rw [← hrun.out]; exact (runTo_end _ _ _ (by omega)).symm
      have hks : (s.size : Int) ≤ (k : Int) := by omega
      clear hkl hrun
      by_cases h8 : 8 < k
      · have c8 : (8 : Int) < (k : Int) := by omega
        have hl : Hid (wordV s = noTok) := by unfold wordV; rw [← he.out, if_pos h8]; trivial
        clear h8
        go_wp2_with (first | (go_at_call 109; refine (tk_isLetter _ _).mono ?_; rintro e w' ⟨rfl, hww⟩; subst w') | (go_at_call 111; refine (tk_isDigit _ _).mono ?_; rintro e w' ⟨rfl, hww⟩; subst w'))
        refine bodyPost_ret (results_cell_row rfl _ _ w.heap.size 129 _ _ _ rfl (heap_alloc_new w _) Tryz.underlying129 rfl (by kernel_rfl)) rfl ?_
        exact ⟨by rw [hl.out]; rfl, World.grownBy_alloc w _ none⟩
      · have c8 : (k : Int) ≤ 8 := by omega
        have hl : Hid (wordV s = tokV (kwSort (s.extract 0 k)) (s.extract 0 k) 0 0) := by unfold wordV; rw [← he.out, if_neg h8]; trivial
        have hk1 : (k : Int) ≤ s.size := by omega
        clear h8
        go_wp2_with (first | (go_at_call 109; refine (tk_isLetter _ _).mono ?_; rintro e w' ⟨rfl, hww⟩; subst w') | (go_at_call 111; refine (tk_isDigit _ _).mono ?_; rintro e w' ⟨rfl, hww⟩; subst w'))
        go_region_law (go_simp; go_at_call 144; refine (tk_wordSort _ _).mono ?_; rintro e w' ⟨rfl, hww⟩; subst w')
        all_goals go_wp2
        all_goals refine bodyPost_ret (results_cell_row rfl _ _ w.heap.size 129 _ _ _ rfl (heap_alloc_new w _) Tryz.underlying129 rfl (by kernel_rfl)) rfl ?_
        all_goals exact ⟨by rw [hl.out]; rfl, (World.grownBy_alloc w _ none).trans (grown_drew' _ none)⟩
end Go.Proofs.YthpcbbnabnlanaaGreatDoor

namespace Go.Proofs
open Go.Shelf
def Tryz.lays169_ren : Go.Shelf.Ren := ⟨fun | 169 => 77 | n => n, fun | 70 => 144 | 9 => 9 | 0 => 0 | 72 => 146 | 37 => 65 | 127 => 199 | 3 => 3 | 5 => 5 | n => n, fun | n => n⟩
theorem Tryz.lays169 : Go.Proofs.Lays.n169 Tryz.prog Tryz.lays169_ren := {
  mixed := by kernel_rfl
  f169 := Tryz.func77.trans (congrArg some (by kernel_rfl))
  t0 := Tryz.underlying0
  a0 := Tryz.isAgg0
  z0 := Tryz.sizeOf0
  v0 := Tryz.zeroValue0
  t3 := Tryz.underlying3
  a3 := Tryz.isAgg3
  z3 := Tryz.sizeOf3
  v3 := Tryz.zeroValue3
  t9 := Tryz.underlying9
  a9 := Tryz.isAgg9
  z9 := Tryz.sizeOf9
  v9 := Tryz.zeroValue9
  t37 := Tryz.underlying65
  a37 := Tryz.isAgg65
  z37 := Tryz.sizeOf65
  v37 := Tryz.zeroValue65
  t70 := Tryz.underlying144
  a70 := Tryz.isAgg144
  z70 := Tryz.sizeOf144
  v70 := Tryz.zeroValue144
  t72 := Tryz.underlying146
  a72 := Tryz.isAgg146
  z72 := Tryz.sizeOf146
  v72 := Tryz.zeroValue146
  t127 := Tryz.underlying199
  a127 := Tryz.isAgg199
  z127 := Tryz.sizeOf199
  v127 := Tryz.zeroValue199 }
theorem Tryz.Builder_Extra_169 : Builder.Extra Tryz.prog Tryz.lays169_ren := {
  sizeBuilder := by kernel_rfl
  liesBuilder := by kernel_rfl
  t5 := Tryz.underlying5
  a5 := Tryz.isAgg5
  z5 := Tryz.sizeOf5
  v5 := Tryz.zeroValue5
  infoByte := by kernel_rfl
  cellsByte := by kernel_rfl
  sizeByte := by kernel_rfl
  neB5 := by decide }
open Go.RowKit in
theorem Tryz.Builder_String_any (B b : Nat) (l : List UInt8) (w : World) (h : Lib.IsBuilder 146 5 B b (Lib.byteCells l) w) (hBw : B ≤ w.heap.size) :
    Calls Tryz.prog 77 #[.pointer (some ⟨b, 0, none⟩)] w fun e w' => e = .returned (.string ⟨l.toArray⟩) ∧ Below B w w' := Any.Builder_String_any Tryz.lays169 Tryz.Builder_Extra_169 B b l w h hBw
def Tryz.lays137_ren : Go.Shelf.Ren := ⟨fun | 137 => 108 | 217 => 143 | 266 => 180 | n => n, fun | 9 => 9 | 5 => 5 | 3 => 3 | n => n, fun | n => n⟩
theorem Tryz.lays137 : Go.Proofs.Lays.n137 Tryz.prog Tryz.lays137_ren := {
  mixed := by kernel_rfl
  f137 := Tryz.func108.trans (congrArg some (by kernel_rfl))
  f217 := Tryz.func143.trans (congrArg some (by kernel_rfl))
  f266 := Tryz.func180.trans (congrArg some (by kernel_rfl))
  t3 := Tryz.underlying3
  a3 := Tryz.isAgg3
  z3 := Tryz.sizeOf3
  v3 := Tryz.zeroValue3
  t5 := Tryz.underlying5
  a5 := Tryz.isAgg5
  z5 := Tryz.sizeOf5
  v5 := Tryz.zeroValue5
  t9 := Tryz.underlying9
  a9 := Tryz.isAgg9
  z9 := Tryz.sizeOf9
  v9 := Tryz.zeroValue9 }
open Go.RowKit in
theorem Tryz.strings_IndexByte (s : ByteArray) (c : Int) (w : World) :
    Calls Tryz.prog 108 #[.string s, .int .u8 c] w fun e w' => e = .returned (.int .i64 (Lib.indexByte s.data.toList c.toNat.toUInt8)) ∧ w' = w := Any.strings_IndexByte Tryz.lays137 s c w
def Tryz.lays172_ren : Go.Shelf.Ren := ⟨fun | 172 => 145 | 244 => 181 | 245 => 182 | 247 => 201 | 279 => 202 | 280 => 203 | 281 => 204 | 282 => 205 | 287 => 217 | 316 => 183 | 171 => 125 | 205 => 218 | 321 => 224 | 322 => 225 | 243 => 163 | 246 => 185 | 283 => 206 | 284 => 207 | 285 => 208 | 286 => 209 | 129 => 196 | 317 => 219 | 318 => 220 | 319 => 221 | 320 => 222 | 337 => 226 | 338 => 179 | n => n, fun | 9 => 9 | 3 => 3 | 75 => 149 | 76 => 151 | 4 => 4 | 5 => 5 | 167 => 266 | 37 => 65 | 0 => 0 | 85 => 267 | 2 => 2 | 168 => 269 | 53 => 159 | 175 => 282 | 46 => 239 | 210 => 285 | 127 => 199 | 145 => 294 | 143 => 292 | 21 => 21 | 171 => 272 | 173 => 274 | 212 => 287 | 51 => 262 | 20 => 20 | 213 => 288 | 232 => 295 | 233 => 265 | 80 => 52 | n => n, fun | 15 => 2 | 16 => 3 | 17 => 4 | 18 => 5 | 19 => 0 | n => n⟩
theorem Tryz.lays172 : Go.Proofs.Lays.n172 Tryz.prog Tryz.lays172_ren := {
  mixed := by kernel_rfl
  f129 := Tryz.func196.trans (congrArg some (by kernel_rfl))
  f171 := Tryz.func125.trans (congrArg some (by kernel_rfl))
  f172 := Tryz.func145.trans (congrArg some (by kernel_rfl))
  f205 := Tryz.func218.trans (congrArg some (by kernel_rfl))
  f243 := Tryz.func163.trans (congrArg some (by kernel_rfl))
  f244 := Tryz.func181.trans (congrArg some (by kernel_rfl))
  f245 := Tryz.func182.trans (congrArg some (by kernel_rfl))
  f246 := Tryz.func185.trans (congrArg some (by kernel_rfl))
  f247 := Tryz.func201.trans (congrArg some (by kernel_rfl))
  f279 := Tryz.func202.trans (congrArg some (by kernel_rfl))
  f280 := Tryz.func203.trans (congrArg some (by kernel_rfl))
  f281 := Tryz.func204.trans (congrArg some (by kernel_rfl))
  f282 := Tryz.func205.trans (congrArg some (by kernel_rfl))
  f283 := Tryz.func206.trans (congrArg some (by kernel_rfl))
  f284 := Tryz.func207.trans (congrArg some (by kernel_rfl))
  f285 := Tryz.func208.trans (congrArg some (by kernel_rfl))
  f286 := Tryz.func209.trans (congrArg some (by kernel_rfl))
  f287 := Tryz.func217.trans (congrArg some (by kernel_rfl))
  f316 := Tryz.func183.trans (congrArg some (by kernel_rfl))
  f317 := Tryz.func219.trans (congrArg some (by kernel_rfl))
  f318 := Tryz.func220.trans (congrArg some (by kernel_rfl))
  f319 := Tryz.func221.trans (congrArg some (by kernel_rfl))
  f320 := Tryz.func222.trans (congrArg some (by kernel_rfl))
  f321 := Tryz.func224.trans (congrArg some (by kernel_rfl))
  f322 := Tryz.func225.trans (congrArg some (by kernel_rfl))
  f337 := Tryz.func226.trans (congrArg some (by kernel_rfl))
  f338 := Tryz.func179.trans (congrArg some (by kernel_rfl))
  t0 := Tryz.underlying0
  a0 := Tryz.isAgg0
  z0 := Tryz.sizeOf0
  v0 := Tryz.zeroValue0
  t2 := Tryz.underlying2
  a2 := Tryz.isAgg2
  z2 := Tryz.sizeOf2
  v2 := Tryz.zeroValue2
  t3 := Tryz.underlying3
  a3 := Tryz.isAgg3
  z3 := Tryz.sizeOf3
  v3 := Tryz.zeroValue3
  t4 := Tryz.underlying4
  a4 := Tryz.isAgg4
  z4 := Tryz.sizeOf4
  v4 := Tryz.zeroValue4
  t5 := Tryz.underlying5
  a5 := Tryz.isAgg5
  z5 := Tryz.sizeOf5
  v5 := Tryz.zeroValue5
  t9 := Tryz.underlying9
  a9 := Tryz.isAgg9
  z9 := Tryz.sizeOf9
  v9 := Tryz.zeroValue9
  t20 := Tryz.underlying20
  a20 := Tryz.isAgg20
  z20 := Tryz.sizeOf20
  v20 := Tryz.zeroValue20
  t21 := Tryz.underlying21
  a21 := Tryz.isAgg21
  z21 := Tryz.sizeOf21
  v21 := Tryz.zeroValue21
  t37 := Tryz.underlying65
  a37 := Tryz.isAgg65
  z37 := Tryz.sizeOf65
  v37 := Tryz.zeroValue65
  t46 := Tryz.underlying239
  a46 := Tryz.isAgg239
  z46 := Tryz.sizeOf239
  v46 := Tryz.zeroValue239
  t51 := Tryz.underlying262
  a51 := Tryz.isAgg262
  z51 := Tryz.sizeOf262
  v51 := Tryz.zeroValue262
  t53 := Tryz.underlying159
  a53 := Tryz.isAgg159
  z53 := Tryz.sizeOf159
  v53 := Tryz.zeroValue159
  t75 := Tryz.underlying149
  a75 := Tryz.isAgg149
  z75 := Tryz.sizeOf149
  v75 := Tryz.zeroValue149
  t76 := Tryz.underlying151
  a76 := Tryz.isAgg151
  z76 := Tryz.sizeOf151
  v76 := Tryz.zeroValue151
  t85 := Tryz.underlying267
  a85 := Tryz.isAgg267
  z85 := Tryz.sizeOf267
  v85 := Tryz.zeroValue267
  t127 := Tryz.underlying199
  a127 := Tryz.isAgg199
  z127 := Tryz.sizeOf199
  v127 := Tryz.zeroValue199
  t143 := Tryz.underlying292
  a143 := Tryz.isAgg292
  z143 := Tryz.sizeOf292
  v143 := Tryz.zeroValue292
  t145 := Tryz.underlying294
  a145 := Tryz.isAgg294
  z145 := Tryz.sizeOf294
  v145 := Tryz.zeroValue294
  t167 := Tryz.underlying266
  a167 := Tryz.isAgg266
  z167 := Tryz.sizeOf266
  v167 := Tryz.zeroValue266
  t168 := Tryz.underlying269
  a168 := Tryz.isAgg269
  z168 := Tryz.sizeOf269
  v168 := Tryz.zeroValue269
  t171 := Tryz.underlying272
  a171 := Tryz.isAgg272
  z171 := Tryz.sizeOf272
  v171 := Tryz.zeroValue272
  t173 := Tryz.underlying274
  a173 := Tryz.isAgg274
  z173 := Tryz.sizeOf274
  v173 := Tryz.zeroValue274
  t175 := Tryz.underlying282
  a175 := Tryz.isAgg282
  z175 := Tryz.sizeOf282
  v175 := Tryz.zeroValue282
  t210 := Tryz.underlying285
  a210 := Tryz.isAgg285
  z210 := Tryz.sizeOf285
  v210 := Tryz.zeroValue285
  t212 := Tryz.underlying287
  a212 := Tryz.isAgg287
  z212 := Tryz.sizeOf287
  v212 := Tryz.zeroValue287
  t213 := Tryz.underlying288
  a213 := Tryz.isAgg288
  z213 := Tryz.sizeOf288
  t232 := Tryz.underlying295
  a232 := Tryz.isAgg295
  z232 := Tryz.sizeOf295
  v232 := Tryz.zeroValue295
  t233 := Tryz.underlying265
  a233 := Tryz.isAgg265
  z233 := Tryz.sizeOf265
  v233 := Tryz.zeroValue265
  g15 := by kernel_rfl
  g16 := by kernel_rfl
  g17 := by kernel_rfl
  g18 := by kernel_rfl
  g19 := by kernel_rfl }
open Go.RowKit in
theorem Tryz.strconv_Atoi (s : ByteArray) (n : Int) (hl : s.size ≤ 18) (h : Lib.atoi s.data.toList = some n) (w : World) :
    Calls Tryz.prog 145 #[.string s] w fun e w' => e = .returned (.tuple #[.int .i64 n, .nilIface]) ∧ ∃ t, w' = Lib.bytesWorld w 5 t := Any.strconv_Atoi Tryz.lays172 s n hl h w
def Tryz.laysM171_ren : Go.Shelf.Ren := ⟨fun | 171 => 125 | 243 => 163 | 246 => 185 | 283 => 206 | 284 => 207 | 285 => 208 | 286 => 209 | 129 => 196 | 317 => 219 | 318 => 220 | 319 => 221 | 320 => 222 | 337 => 226 | 338 => 179 | n => n, fun | 3 => 3 | 9 => 9 | 2 => 2 | 4 => 4 | 171 => 272 | 0 => 0 | 53 => 159 | 37 => 65 | 5 => 5 | 173 => 274 | 212 => 287 | 51 => 262 | 20 => 20 | 213 => 288 | 46 => 239 | 232 => 295 | 233 => 265 | n => n, fun | 17 => 4 | 18 => 5 | 19 => 0 | n => n⟩
theorem Tryz.laysM171 : Go.Proofs.LaysM.n171 Tryz.prog Tryz.laysM171_ren := {
  mixed := by kernel_rfl
  f129 := Tryz.func196.trans (congrArg some (by kernel_rfl))
  f171 := Tryz.func125.trans (congrArg some (by kernel_rfl))
  f243 := Tryz.func163.trans (congrArg some (by kernel_rfl))
  f246 := Tryz.func185.trans (congrArg some (by kernel_rfl))
  f283 := Tryz.func206.trans (congrArg some (by kernel_rfl))
  f284 := Tryz.func207.trans (congrArg some (by kernel_rfl))
  f285 := Tryz.func208.trans (congrArg some (by kernel_rfl))
  f286 := Tryz.func209.trans (congrArg some (by kernel_rfl))
  f317 := Tryz.func219.trans (congrArg some (by kernel_rfl))
  f318 := Tryz.func220.trans (congrArg some (by kernel_rfl))
  f319 := Tryz.func221.trans (congrArg some (by kernel_rfl))
  f320 := Tryz.func222.trans (congrArg some (by kernel_rfl))
  f337 := Tryz.func226.trans (congrArg some (by kernel_rfl))
  f338 := Tryz.func179.trans (congrArg some (by kernel_rfl))
  t0 := Tryz.underlying0
  a0 := Tryz.isAgg0
  z0 := Tryz.sizeOf0
  v0 := Tryz.zeroValue0
  t2 := Tryz.underlying2
  a2 := Tryz.isAgg2
  z2 := Tryz.sizeOf2
  v2 := Tryz.zeroValue2
  t3 := Tryz.underlying3
  a3 := Tryz.isAgg3
  z3 := Tryz.sizeOf3
  v3 := Tryz.zeroValue3
  t4 := Tryz.underlying4
  a4 := Tryz.isAgg4
  z4 := Tryz.sizeOf4
  v4 := Tryz.zeroValue4
  t5 := Tryz.underlying5
  a5 := Tryz.isAgg5
  z5 := Tryz.sizeOf5
  v5 := Tryz.zeroValue5
  t9 := Tryz.underlying9
  a9 := Tryz.isAgg9
  z9 := Tryz.sizeOf9
  v9 := Tryz.zeroValue9
  t20 := Tryz.underlying20
  a20 := Tryz.isAgg20
  z20 := Tryz.sizeOf20
  v20 := Tryz.zeroValue20
  t37 := Tryz.underlying65
  a37 := Tryz.isAgg65
  z37 := Tryz.sizeOf65
  v37 := Tryz.zeroValue65
  t46 := Tryz.underlying239
  a46 := Tryz.isAgg239
  z46 := Tryz.sizeOf239
  v46 := Tryz.zeroValue239
  t51 := Tryz.underlying262
  a51 := Tryz.isAgg262
  z51 := Tryz.sizeOf262
  v51 := Tryz.zeroValue262
  t53 := Tryz.underlying159
  a53 := Tryz.isAgg159
  z53 := Tryz.sizeOf159
  v53 := Tryz.zeroValue159
  t171 := Tryz.underlying272
  a171 := Tryz.isAgg272
  z171 := Tryz.sizeOf272
  v171 := Tryz.zeroValue272
  t173 := Tryz.underlying274
  a173 := Tryz.isAgg274
  z173 := Tryz.sizeOf274
  v173 := Tryz.zeroValue274
  t212 := Tryz.underlying287
  a212 := Tryz.isAgg287
  z212 := Tryz.sizeOf287
  v212 := Tryz.zeroValue287
  t213 := Tryz.underlying288
  a213 := Tryz.isAgg288
  z213 := Tryz.sizeOf288
  t232 := Tryz.underlying295
  a232 := Tryz.isAgg295
  z232 := Tryz.sizeOf295
  v232 := Tryz.zeroValue295
  t233 := Tryz.underlying265
  a233 := Tryz.isAgg265
  z233 := Tryz.sizeOf265
  v233 := Tryz.zeroValue265
  g17 := by kernel_rfl
  g18 := by kernel_rfl
  g19 := by kernel_rfl
  i0 := by kernel_rfl
  i2 := by kernel_rfl
  i3 := by kernel_rfl
  i4 := by kernel_rfl
  i5 := by kernel_rfl
  i9 := by kernel_rfl
  i20 := by kernel_rfl
  i37 := by kernel_rfl
  i46 := by kernel_rfl
  i51 := by kernel_rfl
  i53 := by kernel_rfl
  i171 := by kernel_rfl
  i173 := by kernel_rfl
  i212 := by kernel_rfl
  i232 := by kernel_rfl
  i233 := by kernel_rfl
  m17 := by kernel_rfl
  m18 := by kernel_rfl
  m19 := by kernel_rfl }
open Go.RowKit Go.Sort Go.Lib in
theorem Tryz.strconv_Itoa (n : Int) (h0 : -9223372036854775808 ≤ n) (h1 : n ≤ 9223372036854775807) (w : World) (htab : Lib.TabIs Tryz.prog w "internal/strconv.uint64pow10" .u64 Lib.pow10Tab) :
    Calls Tryz.prog 125 #[.int .i64 n] w fun e w' => e = .returned (.string ⟨(Lib.itoa n).toArray⟩) ∧ ∃ k os, w' = grow (w.drewN k) os := Any.strconv_Itoa Tryz.laysM171 n h0 h1 w htab
def Tryz.laysM316_ren : Go.Shelf.Ren := ⟨fun | 316 => 183 | n => n, fun | 9 => 9 | 3 => 3 | 4 => 4 | 37 => 65 | 0 => 0 | 127 => 199 | 5 => 5 | n => n, fun | n => n⟩
theorem Tryz.laysM316 : Go.Proofs.LaysM.n316 Tryz.prog Tryz.laysM316_ren := {
  mixed := by kernel_rfl
  f316 := Tryz.func183.trans (congrArg some (by kernel_rfl))
  t0 := Tryz.underlying0
  a0 := Tryz.isAgg0
  z0 := Tryz.sizeOf0
  v0 := Tryz.zeroValue0
  t3 := Tryz.underlying3
  a3 := Tryz.isAgg3
  z3 := Tryz.sizeOf3
  v3 := Tryz.zeroValue3
  t4 := Tryz.underlying4
  a4 := Tryz.isAgg4
  z4 := Tryz.sizeOf4
  v4 := Tryz.zeroValue4
  t9 := Tryz.underlying9
  a9 := Tryz.isAgg9
  z9 := Tryz.sizeOf9
  v9 := Tryz.zeroValue9
  t37 := Tryz.underlying65
  a37 := Tryz.isAgg65
  z37 := Tryz.sizeOf65
  v37 := Tryz.zeroValue65
  t127 := Tryz.underlying199
  a127 := Tryz.isAgg199
  z127 := Tryz.sizeOf199
  v127 := Tryz.zeroValue199
  t5 := Tryz.underlying5
  a5 := Tryz.isAgg5
  z5 := Tryz.sizeOf5
  v5 := Tryz.zeroValue5
  i0 := by kernel_rfl
  i3 := by kernel_rfl
  i4 := by kernel_rfl
  i5 := by kernel_rfl
  i9 := by kernel_rfl
  i37 := by kernel_rfl
  i127 := by kernel_rfl }
open Go.RowKit in
theorem Tryz.stringslite_Clone (s : ByteArray) (w : World) (hlim : s.size ≤ 281474976710656) :
    Calls Tryz.prog 183 #[.string s] w fun e w' => e = .returned (.string s) ∧ Below w.heap.size w w' := Any.stringslite_Clone Tryz.laysM316 s w hlim
end Go.Proofs

/-
  The program's number: the token of an INT that a text begins with, or no token.
-/
namespace Go.Proofs.YthpcbbnabnlanaaGreatDoor
open Go.RowKit
set_option linter.unusedVariables false

theorem decFrom_num (s : ByteArray) : ∀ (m i acc : Nat), i + m = s.size → (∀ j, i ≤ j → j < s.size → isDigI (bAt s j) = true) → numTo s i = (acc : Int) →
    ∃ n : Nat, Lib.decFrom acc (s.data.toList.drop i) = some n ∧ numTo s s.size = n := by
  have hl : s.data.toList.length = s.size := by rw [Array.length_toList]; rfl
  intro m
  induction m with
  | zero =>
    intro i acc h hd hn
    obtain rfl : i = s.size := by omega
    rw [List.drop_of_length_le (by omega)]
    exact ⟨acc, rfl, hn⟩
  | succ m ih =>
    intro i acc h hd hn
    have hi : i < s.size := by omega
    have hb := bAt_in hi
    have hdi := hd i (Nat.le_refl _) hi
    simp only [isDigI, Bool.and_eq_true, decide_eq_true_eq] at hdi
    rw [List.drop_eq_getElem_cons (by omega)]
    have e0 : s.data.toList[i] = s[i] := rfl
    have ev : Lib.digitVal s[i] = some (s[i].toNat - 48) := by
      unfold Lib.digitVal
      exact if_pos ⟨by omega, by omega⟩
    rw [e0]
    simp only [Lib.decFrom, ev]
    refine ih (i + 1) _ (by omega) (fun j h1 h2 => hd j (by omega) h2) ?_
    simp only [numTo]
    rw [if_neg (by omega), hn]
    omega
/-- an INT's bytes, a minus at most ahead of its digits -/
def IsInt1 (s : ByteArray) : Prop := (isDigI (bAt s 0) = true ∨ bAt s 0 = 45 ∧ 2 ≤ s.size) ∧ 0 < s.size ∧ ∀ j, 1 ≤ j → j < s.size → isDigI (bAt s j) = true
theorem atoi_int (s : ByteArray) (h : IsInt1 s) : Lib.atoi s.data.toList = some (intVal s) := by
  have hl : s.data.toList.length = s.size := by rw [Array.length_toList]; rfl
  obtain ⟨h0, hp, hd⟩ := h
  have hb := bAt_in hp
  have e : s.data.toList = s[0] :: s.data.toList.drop 1 := by
    have := List.drop_eq_getElem_cons (l := s.data.toList) (i := 0) (by omega)
    rwa [List.drop_zero] at this
  rcases h0 with h0 | ⟨h0, h2⟩
  · obtain ⟨n, h1, h2⟩ := decFrom_num s s.size 0 0 (by omega) (fun j _ hj => by
      cases j with
      | zero => exact h0
      | succ j => exact hd (j + 1) (by omega) hj) rfl
    simp only [isDigI, Bool.and_eq_true, decide_eq_true_eq] at h0
    rw [List.drop_zero] at h1
    have n45 : (s[0] == 45) = false := by rw [beq_eq_false_iff_ne]; intro q; rw [q] at hb; have : (UInt8.toNat 45 : Int) = 45 := rfl; omega
    have n43 : (s[0] == 43) = false := by rw [beq_eq_false_iff_ne]; intro q; rw [q] at hb; have : (UInt8.toNat 43 : Int) = 43 := rfl; omega
    unfold intVal
    rw [if_neg (by omega), h2]
    rw [e] at h1 ⊢
    simp only [Lib.atoi, n45, n43, Bool.false_eq_true, if_false, Lib.decNat, List.isEmpty_cons, h1, Option.map_some]
  · obtain ⟨n, h1, h3⟩ := decFrom_num s (s.size - 1) 1 0 (by omega) (fun j h1 hj => hd j h1 hj) (by simp [numTo, h0])
    have y45 : (s[0] == 45) = true := by rw [beq_iff_eq]; apply UInt8.toNat_inj.1; have : (UInt8.toNat 45 : Int) = 45 := rfl; omega
    have ne : (s.data.toList.drop 1).isEmpty = false := by
      cases hq : s.data.toList.drop 1 with
      | nil => have := congrArg List.length hq; simp at this; have h5 : s.data.size = s.size := rfl; omega
      | cons _ _ => rfl
    unfold intVal
    rw [if_pos h0, h3]
    rw [e]
    simp only [Lib.atoi, y45, if_true, Lib.decNat, ne, Bool.false_eq_true, if_false, h1, Option.map_some]
/-- the first bytes of a text that begins with a number -/
theorem int_ext (s : ByteArray) (k : Nat) (hk : k ≤ s.size) (hk1 : 1 ≤ k) (hn : isNum s 0 = true) (he : k = runTo isDigI s 1) : IsInt1 (s.extract 0 k) := by
  have hz := size_ext s 0 k (by omega) hk
  have hb : ∀ j, j < k → bAt (s.extract 0 k) j = bAt s j := fun j hj => by rw [bAt_ext s 0 k j (by omega) hk, Nat.zero_add]
  refine ⟨?_, by omega, fun j h1 hj => ?_⟩
  · rw [hb 0 (by omega)]
    simp only [isNum, Bool.or_eq_true, Bool.and_eq_true, beq_iff_eq, Nat.zero_add] at hn
    rcases hn with hn | hn
    · exact .inl hn
    · refine .inr ⟨hn.1, ?_⟩
      have h1 : 1 < s.size := by
        by_cases q : 1 < s.size
        · exact q
        · have := hn.2; rw [bAt_out (by omega)] at this; simp [isDigI] at this
      have h2 := runTo_yes isDigI s 1 h1 hn.2
      have h3 := runTo_le isDigI s (1 + 1)
      omega
  · rw [hb j (by omega)]
    exact runTo_all isDigI s 1 j h1 (by omega)
theorem tk_Atoi (s : ByteArray) (n : Int) (hl : s.size ≤ 18) (h : Lib.atoi s.data.toList = some n) (w : World) :
    Calls Tryz.prog 145 #[.string s] w fun e w' => e = .returned (.tuple #[.int .i64 n, .nilIface]) ∧ w.grownBy w' none := by
  refine (Tryz.strconv_Atoi s n hl h w).mono ?_
  rintro e w' ⟨rfl, tb, rfl⟩
  exact ⟨rfl, rfl, rfl, rfl, by rw [Lib.bytesWorld_size]; omega, fun k hk _ => Lib.bytesWorld_at_old w _ tb k hk⟩
/-- the box of the result, behind a call that turns nothing -/
theorem box_kept {w w' : World} {t : TypeId} (hg : (w.alloc (.cells #[.int .i64 0, .string .empty, .int .i64 0, .int .i64 0] t)).grownBy w' none) :
    w'.heap[w.heap.size]? = some (.cells #[.int .i64 0, .string .empty, .int .i64 0, .int .i64 0] t (0, 0)) ∧ w'.cell? ⟨w.heap.size, 0, none⟩ = some (.int .i64 0) ∧ w'.cell? ⟨w.heap.size, 1, none⟩ = some (.string .empty) ∧ w'.cell? ⟨w.heap.size, 2, none⟩ = some (.int .i64 0) ∧ w'.cell? ⟨w.heap.size, 3, none⟩ = some (.int .i64 0) ∧
      w'.frozen? ⟨w.heap.size, 0, none⟩ = false ∧ w'.frozen? ⟨w.heap.size, 1, none⟩ = false ∧ w'.frozen? ⟨w.heap.size, 2, none⟩ = false ∧ w'.frozen? ⟨w.heap.size, 3, none⟩ = false := by
  have h := (hg.block w.heap.size (by simp) (by simp)).trans (heap_alloc_new w _)
  exact ⟨h, cell_of h 0 _ rfl, cell_of h 1 _ rfl, cell_of h 2 _ rfl, cell_of h 3 _ rfl, frozen_of h 0, frozen_of h 1, frozen_of h 2, frozen_of h 3⟩
def numV (s : ByteArray) : Value := if 10 < runTo isDigI s 1 then noTok else tokV 3 (s.extract 0 (runTo isDigI s 1)) (intVal (s.extract 0 (runTo isDigI s 1))) 0

set_option maxHeartbeats 1000000 in
theorem tk_number (s : ByteArray) (w : World) (hs : s.size ≤ 2000) (h0 : 0 < s.size) (hn : isNum s 0 = true) :
    Calls Tryz.prog 112 #[.string s] w fun e w' => e = .returned (numV s) ∧ w.grownBy w' none := by
  have HN : Hid (isNum s 0 = true) := hn
  clear hn
  go_enter Tryz.func112, Tryz.ntmps112
  go_wp2
  go_loop [3] (fun v => ∃ k : Nat, 1 ≤ k ∧ k ≤ s.size ∧ v = .int .i64 k ∧ Hid (runTo isDigI s k = runTo isDigI s 1)) (fun v => s.size - (intOf v).toNat)
  case atStart => exact ⟨1, by omega, by omega, rfl, rfl⟩
  case round =>
    obtain ⟨k, hk1, hk, rfl, hrun⟩ := hrel
    by_cases hkl : k < s.size
    · have hbk := bAt_in hkl
      by_cases hD : isDigI (bAt s k) = true
      · have cD : isDigI (s[k].toNat : Int) = true := by rw [← hbk]; exact hD
        have hr2 : Hid (runTo isDigI s (k + 1) = runTo isDigI s 1) := by rw [← hrun.out]; exact (runTo_yes _ _ _ hkl hD).symm
        clear hbk hD hrun
        go_wp2_with (first | (go_at_call 111; refine (tk_isDigit _ _).mono ?_; rintro e w' ⟨rfl, hww⟩; subst w'))
        go_round
        case rel => exact ⟨k + 1, by omega, by omega, by go_num, hr2⟩
        case measure => simp [intOf]; omega
      · have cD : isDigI (s[k].toNat : Int) = false := by rw [← hbk]; simpa using hD
        have he : Hid (k = runTo isDigI s 1) := by rw [← hrun.out]; exact (runTo_no _ _ _ (by simpa using hD)).symm
        clear hbk hD hrun
        by_cases h8 : 10 < k
        · have c8 : (10 : Int) < (k : Int) := by omega
          have hl : Hid (numV s = noTok) := by unfold numV; rw [← he.out, if_pos h8]; trivial
          clear h8
          go_wp2_with (first | (go_at_call 111; refine (tk_isDigit _ _).mono ?_; rintro e w' ⟨rfl, hww⟩; subst w'))
          refine bodyPost_ret (results_cell_row rfl _ _ w.heap.size 129 _ _ _ rfl (heap_alloc_new w _) Tryz.underlying129 rfl (by kernel_rfl)) rfl ?_
          exact ⟨by rw [hl.out]; rfl, World.grownBy_alloc w _ none⟩
        · have c8 : (k : Int) ≤ 10 := by omega
          have hl : Hid (numV s = tokV 3 (s.extract 0 k) (intVal (s.extract 0 k)) 0) := by unfold numV; rw [← he.out, if_neg h8]; trivial
          have hk1' : (k : Int) ≤ s.size := by omega
          have hat : Hid (Lib.atoi (s.extract 0 k).data.toList = some (intVal (s.extract 0 k))) := atoi_int _ (int_ext s k hk hk1 HN.out he.out)
          have hz : Hid ((s.extract 0 k).size ≤ 18) := by rw [Hid, size_ext s 0 k (by omega) hk]; omega
          clear h8
          go_wp2_with (first | (go_at_call 111; refine (tk_isDigit _ _).mono ?_; rintro e w' ⟨rfl, hww⟩; subst w') | (go_at_call 145; refine (tk_Atoi _ _ hz.out hat.out _).mono ?_; rintro e w1 ⟨rfl, hg⟩; obtain ⟨hB, c0, c1, c2, c3, f0, f1, f2, f3⟩ := box_kept hg))
          refine bodyPost_ret (results_cell_row rfl _ _ w.heap.size 129 _ _ _ rfl (set4 hB _ _ _ _) Tryz.underlying129 rfl (by kernel_rfl)) rfl ?_
          exact ⟨by rw [hl.out]; rfl, grown_new ((World.grownBy_alloc w _ none).trans hg) (Nat.le_refl _) (set4_grown w1 _ _ _ _ _)⟩
    · have he : Hid (k = runTo isDigI s 1) := by rw [← hrun.out]; exact (runTo_end _ _ _ (by omega)).symm
      have hks : (s.size : Int) ≤ (k : Int) := by omega
      clear hkl hrun
      by_cases h8 : 10 < k
      · have c8 : (10 : Int) < (k : Int) := by omega
        have hl : Hid (numV s = noTok) := by unfold numV; rw [← he.out, if_pos h8]; trivial
        clear h8
        go_wp2_with (first | (go_at_call 111; refine (tk_isDigit _ _).mono ?_; rintro e w' ⟨rfl, hww⟩; subst w'))
        refine bodyPost_ret (results_cell_row rfl _ _ w.heap.size 129 _ _ _ rfl (heap_alloc_new w _) Tryz.underlying129 rfl (by kernel_rfl)) rfl ?_
        exact ⟨by rw [hl.out]; rfl, World.grownBy_alloc w _ none⟩
      · have c8 : (k : Int) ≤ 10 := by omega
        have hl : Hid (numV s = tokV 3 (s.extract 0 k) (intVal (s.extract 0 k)) 0) := by unfold numV; rw [← he.out, if_neg h8]; trivial
        have hk1' : (k : Int) ≤ s.size := by omega
        have hat : Hid (Lib.atoi (s.extract 0 k).data.toList = some (intVal (s.extract 0 k))) := atoi_int _ (int_ext s k hk hk1 HN.out he.out)
        have hz : Hid ((s.extract 0 k).size ≤ 18) := by rw [Hid, size_ext s 0 k (by omega) hk]; omega
        clear h8
        go_wp2_with (first | (go_at_call 111; refine (tk_isDigit _ _).mono ?_; rintro e w' ⟨rfl, hww⟩; subst w') | (go_at_call 145; refine (tk_Atoi _ _ hz.out hat.out _).mono ?_; rintro e w1 ⟨rfl, hg⟩; obtain ⟨hB, c0, c1, c2, c3, f0, f1, f2, f3⟩ := box_kept hg))
        refine bodyPost_ret (results_cell_row rfl _ _ w.heap.size 129 _ _ _ rfl (set4 hB _ _ _ _) Tryz.underlying129 rfl (by kernel_rfl)) rfl ?_
        exact ⟨by rw [hl.out]; rfl, grown_new ((World.grownBy_alloc w _ none).trans hg) (Nat.le_refl _) (set4_grown w1 _ _ _ _ _)⟩
end Go.Proofs.YthpcbbnabnlanaaGreatDoor
