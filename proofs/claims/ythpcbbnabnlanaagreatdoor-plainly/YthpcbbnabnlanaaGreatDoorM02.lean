import Derived.Test.YthpcbbnabnlanaaGreatDoorM01
import Derived.Test.YthpcbbnabnlanaaGreatDoorProg
import Derived.WalkKit
import Derived.WalkSpells
import Derived.WalkLawsBesides
import Derived.Lib.Strings
import Derived.Deep.Light
import Derived.Laws.BytesArg
namespace Go.Proofs.YthpcbbnabnlanaaGreatDoor
set_option linter.unusedVariables false
set_option linter.unusedSimpArgs false
section
open Go.RowKit
theorem ret_bool {a b : Bool} (h : a = b) : Ending.returned (.bool a) = .returned (.bool b) := by rw [h]
theorem ret_int {k : IntKind} {a b : Int} (h : a = b) : Ending.returned (.int k a) = .returned (.int k b) := by rw [h]
theorem two_bytes (s : ByteArray) (i : Nat) (h : i + 1 < s.size) (a b : UInt8) : ((s.extract i (i + 2)).toList == [a,b]) = (bAt s i == (a.toNat : Int) && bAt s (i + 1) == (b.toNat : Int)) := by
 rw [Lib.extract_toList,bAt_in h,bAt_in (show i < s.size by omega)]
 have hl : s.data.toList.length = s.size := by rw [Array.length_toList];rfl
 have e : (s.data.toList.drop i).take (i + 2 - i) = [s[i],s[i + 1]] := by
  rw [List.drop_eq_getElem_cons (by omega),List.drop_eq_getElem_cons (by omega)]
  have : i + 2 - i = 2 := by omega
  rw [this]
  rfl
 rw [e,Bool.eq_iff_iff]
 simp only [beq_iff_eq,Bool.and_eq_true,List.cons.injEq,and_true]
 constructor
 ·rintro ⟨h1,h2⟩;rw [h1,h2];exact ⟨rfl,rfl⟩
 ·rintro ⟨h1,h2⟩
  exact ⟨UInt8.toNat_inj.1 (by omega),UInt8.toNat_inj.1 (by omega)⟩
theorem two_ext (s : ByteArray) (i : Nat) (h : i + 1 < s.size) : twoI (bAt s i) (bAt s (i + 1)) = ((s.extract i (i + 2)).toList == [33,61] || (s.extract i (i + 2)).toList == [60,61] || (s.extract i (i + 2)).toList == [46,46]) := by
 rw [two_bytes s i h,two_bytes s i h,two_bytes s i h];rfl
theorem two_out (s : ByteArray) (i : Nat) (h : ¬ i + 1 < s.size) : twoI (bAt s i) (bAt s (i + 1)) = false := by
 rw [bAt_out (show s.size ≤ i + 1 by omega)]
 simp [twoI]
end
section
open Go.RowKit
def IsInt (s : ByteArray) : Prop := 0 < s.size ∧ s.size ≤ 10 ∧ ∀ i,i < s.size → isDigI (bAt s i) = true ∨ bAt s i = 45
def numTo (s : ByteArray) : Nat → Int
 | 0 => 0
 | i + 1 => if bAt s i = 45 then numTo s i else 10 * numTo s i + (bAt s i - 48)
def intVal (s : ByteArray) : Int := if bAt s 0 = 45 then - numTo s s.size else numTo s s.size
theorem numTo_bd (s : ByteArray) (h : IsInt s) (i : Nat) (hi : i ≤ s.size) : 0 ≤ numTo s i ∧ numTo s i + 1 ≤ 10 ^ i := by
 induction i with
 | zero => simp [numTo]
 | succ i ih =>
  have ih' := ih (by omega)
  have hd := h.2.2 i (by omega)
  have e : (10 : Int) ^ (i + 1) = 10 * 10 ^ i := by rw [Int.pow_succ];omega
  simp only [numTo]
  rw [e]
  split
  ·omega
  ·rcases hd with hd | hd
   ·simp [isDigI] at hd;omega
   ·omega
theorem numTo_lt (s : ByteArray) (h : IsInt s) (i : Nat) (hi : i ≤ s.size) : 0 ≤ numTo s i ∧ numTo s i ≤ 9999999999 := by
 have h1 := numTo_bd s h i hi
 have h2 : 10 ^ i ≤ 10 ^ 10 := Nat.pow_le_pow_right (by omega) (show i ≤ 10 by have := h.2.1;omega)
 have e : (10 : Nat) ^ 10 = 10000000000 := by decide
 have e2 : (10 : Int) ^ i = ((10 ^ i : Nat) : Int) := by simp
 omega
end
section
theorem runF_all (p : Int → Bool) (s : ByteArray) (f : Nat) : ∀ (k j : Nat),k ≤ j → j < runF p s f k → p (bAt s j) = true := by
 induction f with
 | zero => intro k j h1 h2;simp only [runF] at h2;omega
 | succ f ih =>
  intro k j h1 h2
  simp only [runF] at h2
  by_cases c : p (bAt s k) = true
  ·rw [if_pos c] at h2
   rcases Nat.eq_or_lt_of_le h1 with rfl | h
   ·exact c
   ·exact ih (k + 1) j (by omega) h2
  ·rw [if_neg c] at h2;omega
theorem runTo_all (p : Int → Bool) (s : ByteArray) (k j : Nat) (h1 : k ≤ j) (h2 : j < runTo p s k) : p (bAt s j) = true := runF_all p s _ k j h1 h2
theorem size_ext (s : ByteArray) (a b : Nat) (h1 : a ≤ b) (h2 : b ≤ s.size) : (s.extract a b).size = b - a := by
 have e := Lib.extract_data s a b
 have hl : (s.extract a b).data.toList.length = (s.extract a b).size := by rw [Array.length_toList];rfl
 have hs : s.data.toList.length = s.size := by rw [Array.length_toList];rfl
 rw [← hl,e,List.length_take,List.length_drop,hs]
 omega
theorem bAt_list (s : ByteArray) (i : Nat) : bAt s i = ((s.data.toList[i]?).map fun c => (c.toNat : Int)).getD 256 := by
 have hs : s.data.toList.length = s.size := by rw [Array.length_toList];rfl
 by_cases h : i < s.size
 ·rw [bAt_in h,List.getElem?_eq_getElem (by omega)]
  rfl
 ·rw [bAt_out (by omega),List.getElem?_eq_none (by omega)]
  rfl
theorem bAt_ext (s : ByteArray) (a b j : Nat) (h : a + j < b) (h2 : b ≤ s.size) : bAt (s.extract a b) j = bAt s (a + j) := by
 rw [bAt_list,bAt_list,Lib.extract_data,List.getElem?_take_of_lt (by omega),List.getElem?_drop]
theorem tok_int (s : ByteArray) (i : Nat) (hi : i < s.size) (h0 : (tokAt s i).1 ≠ 0) (h : (tokAt s i).2 = 105) : IsInt (s.extract i (tokAt s i).1) := by
 have hsz := runTo_size isDigI s (i + 1) (by omega)
 have hle := runTo_le isDigI s (i + 1)
 unfold tokAt at h h0 ⊢
 by_cases hn : isNum s i = true
 ·rw [if_pos hn] at h h0 ⊢
  by_cases hl : 10 < runTo isDigI s (i + 1) - i
  ·rw [if_pos hl] at h0;exact absurd rfl h0
  ·rw [if_neg hl]
   simp only
   refine ⟨?_,?_,fun j hj => ?_⟩
   ·rw [size_ext s i _ (by omega) hsz];omega
   ·rw [size_ext s i _ (by omega) hsz];omega
   ·rw [size_ext s i _ (by omega) hsz] at hj
    rw [bAt_ext s i _ j (by omega) hsz]
    cases j with
    | zero =>
     simp only [isNum,Bool.or_eq_true,Bool.and_eq_true,beq_iff_eq] at hn
     rcases hn with hn | hn
     ·exact .inl hn
     ·exact .inr hn.1
    | succ j => exact .inl (runTo_all isDigI s (i + 1) (i + (j + 1)) (by omega) (by omega))
 ·rw [if_neg hn] at h
  by_cases hl : isLetI (bAt s i) = true
  ·rw [if_pos hl] at h
   split at h
   ·simp at h
   ·simp only at h;split at h <;> omega
  ·rw [if_neg hl] at h
   split at h <;> simp at h
theorem lexF_int (s : ByteArray) (f : Nat) : ∀ (i line : Nat) (acc : List PTok),(∀ t ∈ acc,t.kind = 105 → IsInt t.s) → ∀ t ∈ (lexF s f i line acc).2.1,t.kind = 105 → IsInt t.s := by
 induction f with
 | zero => intro i line acc h;exact h
 | succ f ih =>
  intro i line acc h
  simp only [lexF]
  by_cases hi : i < s.size
  ·rw [if_pos hi]
   split
   ·exact ih _ _ _ h
   ·split
    ·exact ih _ _ _ h
    ·split
     ·exact ih _ _ _ h
     ·split
      ·intro t ht;simp at ht
      ·rename_i hne
       refine ih _ _ _ (fun t ht hk => ?_)
       rcases List.mem_append.1 ht with ht | ht
       ·exact h t ht hk
       ·obtain rfl : t = ⟨s.extract i (tokAt s i).1,(tokAt s i).2,line⟩ := by simpa using ht
        exact tok_int s i hi hne hk
  ·rw [if_neg hi];exact h
theorem lex_int (s : ByteArray) : ∀ t ∈ (lex s).2.1,t.kind = 105 → IsInt t.s := lexF_int s s.size 0 1 [] (fun t ht => by simp at ht)
theorem lexF_line (s : ByteArray) (f : Nat) : ∀ (i line : Nat) (acc : List PTok),1 ≤ line → (∀ t ∈ acc,1 ≤ t.line) → ∀ t ∈ (lexF s f i line acc).2.1,1 ≤ t.line := by
 induction f with
 | zero => intro i line acc _ h;exact h
 | succ f ih =>
  intro i line acc hl h
  simp only [lexF]
  by_cases hi : i < s.size
  ·rw [if_pos hi]
   split
   ·exact ih _ _ _ (by omega) h
   ·split
    ·exact ih _ _ _ hl h
    ·split
     ·exact ih _ _ _ hl h
     ·split
      ·intro t ht;simp at ht
      ·refine ih _ _ _ hl (fun t ht => ?_)
       rcases List.mem_append.1 ht with ht | ht
       ·exact h t ht
       ·obtain rfl : t = ⟨s.extract i (tokAt s i).1,(tokAt s i).2,line⟩ := by simpa using ht
        exact hl
  ·rw [if_neg hi];exact h
theorem lex_line (s : ByteArray) : ∀ t ∈ (lex s).2.1,1 ≤ t.line := lexF_line s s.size 0 1 [] (by omega) (fun t ht => by simp at ht)
end
section
def kwSort (s : ByteArray) : Int :=
 if s.toList == [118,97,114] then 4 else if s.toList == [108,105,115,116] then 5 else if s.toList == [108,105,110] then 6 else if s.toList == [119,104,101,110] then 7
 else if s.toList == [97,116] then 8 else if s.toList == [100,105,102,102] then 9 else if s.toList == [111,114] then 10 else 2
def sgSort (s : ByteArray) : Int :=
 if s.toList == [59] then 11 else if s.toList == [58] then 12 else if s.toList == [44] then 13 else if s.toList == [61] then 14 else if s.toList == [33,61] then 15
 else if s.toList == [60,61] then 16 else if s.toList == [46,46] then 17 else if s.toList == [91] then 18 else if s.toList == [93] then 19 else if s.toList == [43] then 20
 else if s.toList == [42] then 21 else if s.toList == [33] then 22 else if s.toList == [45] then 23 else 0
def srt (t : PTok) : Int := if t.kind = 105 then 3 else if t.kind = 115 then sgSort t.s else if t.kind = 101 then 1 else kwSort t.s
def tval (t : PTok) : Int := if t.kind = 105 then intVal t.s else 0
def endTok (line : Nat) : PTok := ⟨.empty,101,line⟩
theorem bAt_drop (s : ByteArray) (i j : Nat) (h : i ≤ s.size) : bAt (s.extract i s.size) j = bAt s (i + j) := by
 by_cases hj : i + j < s.size
 ·exact bAt_ext s i s.size j hj (Nat.le_refl _)
 ·rw [bAt_out (show s.size ≤ i + j by omega),bAt_out]
  rw [size_ext s i s.size h (Nat.le_refl _)];omega
theorem runF_drop (p : Int → Bool) (s : ByteArray) (i : Nat) (h : i ≤ s.size) (f : Nat) : ∀ k,i + runF p (s.extract i s.size) f k = runF p s f (i + k) := by
 induction f with
 | zero => intro k;rfl
 | succ f ih =>
  intro k
  simp only [runF]
  rw [bAt_drop s i k h]
  by_cases c : p (bAt s (i + k)) = true
  ·rw [if_pos c,if_pos c,ih (k + 1)];rfl
  ·rw [if_neg c,if_neg c]
theorem runTo_drop (p : Int → Bool) (s : ByteArray) (i k : Nat) (h : i ≤ s.size) : i + runTo p (s.extract i s.size) k = runTo p s (i + k) := by
 unfold runTo
 rw [runF_drop p s i h,size_ext s i s.size h (Nat.le_refl _),show s.size - i - k = s.size - (i + k) by omega]
theorem ext_ext (s : ByteArray) (i k : Nat) (h : i ≤ s.size) (hk : i + k ≤ s.size) : (s.extract i s.size).extract 0 k = s.extract i (i + k) := by
 apply ByteArray.ext
 apply Array.toList_inj.1
 rw [Lib.extract_data,Lib.extract_data,Lib.extract_data]
 rw [List.drop_zero,List.take_take]
 congr 1
 omega
theorem isNum_drop (s : ByteArray) (i : Nat) (h : i ≤ s.size) : isNum (s.extract i s.size) 0 = isNum s i := by
 unfold isNum;rw [bAt_drop s i 0 h,bAt_drop s i (0 + 1) h];rfl
theorem signLen_drop (s : ByteArray) (i : Nat) (h : i ≤ s.size) : signLen (s.extract i s.size) 0 = signLen s i := by
 unfold signLen;rw [bAt_drop s i 0 h,bAt_drop s i (0 + 1) h];rfl
theorem tokAt_drop (s : ByteArray) (i : Nat) (h : i < s.size) : (tokAt s i).2 = (tokAt (s.extract i s.size) 0).2 ∧ ((tokAt (s.extract i s.size) 0).1 = 0 → (tokAt s i).1 = 0) ∧ ((tokAt (s.extract i s.size) 0).1 ≠ 0 → (tokAt s i).1 = i + (tokAt (s.extract i s.size) 0).1) := by
 have hi : i ≤ s.size := by omega
 have r1 := runTo_drop isDigI s i (0 + 1) hi
 have r2 := runTo_drop isAlnI s i (0 + 1) hi
 have r0 := runTo_size isAlnI (s.extract i s.size) (0 + 1) (by rw [size_ext s i _ hi (Nat.le_refl _)];omega)
 have r4 := runTo_size isDigI s (i + 1) (by omega)
 have r5 := runTo_size isAlnI s (i + 1) (by omega)
 have l1 := runTo_le isDigI (s.extract i s.size) (0 + 1)
 have l2 := runTo_le isAlnI (s.extract i s.size) (0 + 1)
 rw [size_ext s i _ hi (Nat.le_refl _)] at r0
 have r3 := ext_ext s i (runTo isAlnI (s.extract i s.size) (0 + 1)) hi (by omega)
 rw [r2] at r3
 have b0 : bAt (s.extract i s.size) 0 = bAt s i := by rw [bAt_drop s i 0 hi];rfl
 unfold tokAt
 rw [isNum_drop s i hi,signLen_drop s i hi,r3,b0]
 rw [show i + (0 + 1) = i + 1 by omega] at *
 generalize runTo isDigI (s.extract i s.size) (0 + 1) = a at *
 generalize runTo isAlnI (s.extract i s.size) (0 + 1) = b at *
 rw [← r1,← r2]
 repeat' split
 all_goals simp only [ne_eq,true_and,not_true_eq_false,false_implies,implies_true,and_true]
 all_goals (try constructor)
 all_goals (try (intro _))
 all_goals (try omega)
theorem tokAtSize (s : ByteArray) (i : Nat) (h : i < s.size) : (tokAt s i).1 ≤ s.size := by
 have r4 := runTo_size isDigI s (i + 1) (by omega)
 have r5 := runTo_size isAlnI s (i + 1) (by omega)
 unfold tokAt
 repeat' split
 all_goals simp only
 all_goals (try omega)
 rename_i hs
 unfold signLen at hs ⊢
 by_cases h2 : i + 1 < s.size
 ·split <;> (try split) <;> omega
 ·rw [two_out s i h2];simp only [Bool.false_eq_true,if_false];split <;> omega
end
section
set_option maxHeartbeats 2000000
open Go.RowKit
theorem tk_isDigit (c : Int) (w : World) : Calls Tryz.prog 111 #[.int .u8 c] w fun e w' => e = .returned (.bool (isDigI c)) ∧ w' = w := by
 unfold isDigI
 by_cases h1 : 48 ≤ c
 ·have e : (decide (48 ≤ c) && decide (c ≤ 57)) = decide (c ≤ 57) := by simp [h1]
  rw [e];clear e
  go_enter Tryz.func111,Tryz.ntmps111
  go_wp2
  all_goals go_ret
  all_goals simp
 ·have e : (decide (48 ≤ c) && decide (c ≤ 57)) = false := by simp [h1]
  rw [e];clear e
  go_enter Tryz.func111,Tryz.ntmps111
  go_wp2
  all_goals go_ret
  all_goals simp
theorem tk_isLetter (c : Int) (w : World) : Calls Tryz.prog 109 #[.int .u8 c] w fun e w' => e = .returned (.bool (isLetI c)) ∧ w' = w := by
 unfold isLetI
 by_cases h1 : 97 ≤ c
 ·have e : (decide (97 ≤ c) && decide (c ≤ 122)) = decide (c ≤ 122) := by simp [h1]
  rw [e];clear e
  go_enter Tryz.func109,Tryz.ntmps109
  go_wp2
  all_goals go_ret
  all_goals simp
 ·have e : (decide (97 ≤ c) && decide (c ≤ 122)) = false := by simp [h1]
  rw [e];clear e
  go_enter Tryz.func109,Tryz.ntmps109
  go_wp2
  all_goals go_ret
  all_goals simp
theorem tk_wordSort (s : ByteArray) (w : World) : Calls Tryz.prog 144 #[.string s] w fun e w' => e = .returned (.int .i64 (kwSort s)) ∧ w' = w := by
 obtain ⟨x,hx⟩ : ∃ x,x = kwSort s := ⟨_,rfl⟩
 have hk : Hid (x = kwSort s) := hx
 rw [← hx];clear hx
 go_enter Tryz.func144,Tryz.ntmps144
 go_wp2
 all_goals go_ret
 all_goals refine ⟨ret_int ?_,rfl⟩
 all_goals rw [hk.out]
 all_goals clear hk
 all_goals go_light
 all_goals simp_all [kwSort]
theorem tk_signSort (s : ByteArray) (w : World) : Calls Tryz.prog 146 #[.string s] w fun e w' => e = .returned (.int .i64 (sgSort s)) ∧ w' = w := by
 obtain ⟨x,hx⟩ : ∃ x,x = sgSort s := ⟨_,rfl⟩
 have hk : Hid (x = sgSort s) := hx
 rw [← hx];clear hx
 go_enter Tryz.func146,Tryz.ntmps146
 go_wp2
 all_goals go_ret
 all_goals refine ⟨ret_int ?_,rfl⟩
 all_goals rw [hk.out]
 all_goals clear hk
 all_goals go_light
 all_goals simp_all [sgSort]
end
section
open Go.RowKit
def pickI (c n : Int) : Int := (if c < 0 then -(c + 1) else c).tmod n
theorem pickI_bd (c n : Int) (hn : 0 < n) : 0 ≤ pickI c n ∧ pickI c n < n := by
 unfold pickI
 have h : 0 ≤ (if c < 0 then -(c + 1) else c) := by split <;> omega
 exact ⟨Int.tmod_nonneg _ h,Int.tmod_lt_of_pos _ hn⟩
end
end Go.Proofs.YthpcbbnabnlanaaGreatDoor
