import Derived.Test.YthpcbbnabnlanaaGreatDoorM01
import Derived.Test.YthpcbbnabnlanaaGreatDoorProg
import Derived.WalkKit
import Derived.WalkSpells
import Derived.WalkLawsBesides
import Derived.Lib.Strings
import Derived.Deep.Light
import Derived.Laws.BytesArg
namespace Go.Proofs.YthpcbbnabnlanaaGreatDoor
set_option linter.unusedVariables false
set_option linter.unusedSimpArgs false
section
set_option maxHeartbeats 1000000
open Go.RowKit
theorem ret_bool {a b : Bool} (h : a = b) : Ending.returned (.bool a) = .returned (.bool b) := by rw [h]
theorem ret_int {k : IntKind} {a b : Int} (h : a = b) : Ending.returned (.int k a) = .returned (.int k b) := by rw [h]
theorem ref_digit (c : Int) (w : World) : Calls Tryz.prog 90 #[.int .u8 c] w fun e w' => e = .returned (.bool (isDigI c)) ∧ w' = w := by
 unfold isDigI
 by_cases h1 : 48 ≤ c
 ·have e : (decide (48 ≤ c) && decide (c ≤ 57)) = decide (c ≤ 57) := by simp [h1]
  rw [e];clear e
  go_enter Tryz.func90,Tryz.ntmps90
  go_wp2
  all_goals go_ret
  all_goals simp
 ·have e : (decide (48 ≤ c) && decide (c ≤ 57)) = false := by simp [h1]
  rw [e];clear e
  go_enter Tryz.func90,Tryz.ntmps90
  go_wp2
  all_goals go_ret
  all_goals simp
theorem ref_small (c : Int) (w : World) : Calls Tryz.prog 91 #[.int .u8 c] w fun e w' => e = .returned (.bool (isLetI c)) ∧ w' = w := by
 unfold isLetI
 by_cases h1 : 97 ≤ c
 ·have e : (decide (97 ≤ c) && decide (c ≤ 122)) = decide (c ≤ 122) := by simp [h1]
  rw [e];clear e
  go_enter Tryz.func91,Tryz.ntmps91
  go_wp2
  all_goals go_ret
  all_goals simp
 ·have e : (decide (97 ≤ c) && decide (c ≤ 122)) = false := by simp [h1]
  rw [e];clear e
  go_enter Tryz.func91,Tryz.ntmps91
  go_wp2
  all_goals go_ret
  all_goals simp
theorem ref_keyword (s : ByteArray) (w : World) : Calls Tryz.prog 92 #[.string s] w fun e w' => e = .returned (.bool (isKw s)) ∧ w' = w := by
 have hk : Hid (isKw s = (s.toList == [118,97,114] || s.toList == [108,105,115,116] || s.toList == [108,105,110] || s.toList == [119,104,101,110] || s.toList == [97,116] || s.toList == [100,105,102,102] || s.toList == [111,114])) := rfl
 go_enter Tryz.func92,Tryz.ntmps92
 go_wp2
 all_goals go_ret
 all_goals refine ⟨ret_bool ?_,rfl⟩
 all_goals rw [hk.out]
 all_goals simp [*]
theorem two_bytes (s : ByteArray) (i : Nat) (h : i + 1 < s.size) (a b : UInt8) : ((s.extract i (i + 2)).toList == [a,b]) = (bAt s i == (a.toNat : Int) && bAt s (i + 1) == (b.toNat : Int)) := by
 rw [Lib.extract_toList,bAt_in h,bAt_in (show i < s.size by omega)]
 have hl : s.data.toList.length = s.size := by rw [Array.length_toList];rfl
 have e : (s.data.toList.drop i).take (i + 2 - i) = [s[i],s[i + 1]] := by
  rw [List.drop_eq_getElem_cons (by omega),List.drop_eq_getElem_cons (by omega)]
  have : i + 2 - i = 2 := by omega
  rw [this]
  rfl
 rw [e,Bool.eq_iff_iff]
 simp only [beq_iff_eq,Bool.and_eq_true,List.cons.injEq,and_true]
 constructor
 ·rintro ⟨h1,h2⟩;rw [h1,h2];exact ⟨rfl,rfl⟩
 ·rintro ⟨h1,h2⟩
  exact ⟨UInt8.toNat_inj.1 (by omega),UInt8.toNat_inj.1 (by omega)⟩
theorem two_ext (s : ByteArray) (i : Nat) (h : i + 1 < s.size) : twoI (bAt s i) (bAt s (i + 1)) = ((s.extract i (i + 2)).toList == [33,61] || (s.extract i (i + 2)).toList == [60,61] || (s.extract i (i + 2)).toList == [46,46]) := by
 rw [two_bytes s i h,two_bytes s i h,two_bytes s i h];rfl
theorem two_out (s : ByteArray) (i : Nat) (h : ¬ i + 1 < s.size) : twoI (bAt s i) (bAt s (i + 1)) = false := by
 rw [bAt_out (show s.size ≤ i + 1 by omega)]
 simp [twoI]
theorem ref_sign (s : ByteArray) (i : Nat) (w : World) (hs : s.size ≤ 2000) (hi : i < s.size) : Calls Tryz.prog 93 #[.string s,.int .i64 i] w fun e w' => e = .returned (.int .i64 (signLen s i)) ∧ w' = w := by
 have ho : Hid (oneI (bAt s i) = ((s[i].toNat : Int) == 59 || (s[i].toNat : Int) == 58 || (s[i].toNat : Int) == 44 || (s[i].toNat : Int) == 61 || (s[i].toNat : Int) == 91 || (s[i].toNat : Int) == 93 || (s[i].toNat : Int) == 43 || (s[i].toNat : Int) == 42 || (s[i].toNat : Int) == 33 || (s[i].toNat : Int) == 45)) := by
  rw [bAt_in hi];rfl
 by_cases h2 : i + 1 < s.size
 ·have ht : Hid (twoI (bAt s i) (bAt s (i + 1)) = _) := two_ext s i h2
  have h2' : (i : Int) + 1 < s.size := by omega
  go_enter Tryz.func93,Tryz.ntmps93
  go_wp2
  all_goals go_ret
  all_goals refine ⟨ret_int ?_,rfl⟩
  all_goals unfold signLen
  all_goals rw [ht.out,ho.out]
  all_goals clear ht ho
  all_goals go_light
  all_goals first | (simp [*];done) | (simp_all;done)
 ·have ht : Hid (twoI (bAt s i) (bAt s (i + 1)) = false) := two_out s i h2
  have h2' : (s.size : Int) ≤ (i : Int) + 1 := by omega
  go_enter Tryz.func93,Tryz.ntmps93
  go_wp2
  all_goals go_ret
  all_goals refine ⟨ret_int ?_,rfl⟩
  all_goals unfold signLen
  all_goals rw [ht.out,ho.out]
  all_goals clear ht ho
  all_goals go_light
  all_goals first | (simp [*];done) | (simp_all;done)
end
section
set_option maxHeartbeats 1000000
open Go.RowKit
def IsInt (s : ByteArray) : Prop := 0 < s.size ∧ s.size ≤ 10 ∧ ∀ i,i < s.size → isDigI (bAt s i) = true ∨ bAt s i = 45
def numTo (s : ByteArray) : Nat → Int
 | 0 => 0
 | i + 1 => if bAt s i = 45 then numTo s i else 10 * numTo s i + (bAt s i - 48)
def intVal (s : ByteArray) : Int := if bAt s 0 = 45 then - numTo s s.size else numTo s s.size
theorem numTo_bd (s : ByteArray) (h : IsInt s) (i : Nat) (hi : i ≤ s.size) : 0 ≤ numTo s i ∧ numTo s i + 1 ≤ 10 ^ i := by
 induction i with
 | zero => simp [numTo]
 | succ i ih =>
  have ih' := ih (by omega)
  have hd := h.2.2 i (by omega)
  have e : (10 : Int) ^ (i + 1) = 10 * 10 ^ i := by rw [Int.pow_succ];omega
  simp only [numTo]
  rw [e]
  split
  ·omega
  ·rcases hd with hd | hd
   ·simp [isDigI] at hd;omega
   ·omega
theorem numTo_lt (s : ByteArray) (h : IsInt s) (i : Nat) (hi : i ≤ s.size) : 0 ≤ numTo s i ∧ numTo s i ≤ 9999999999 := by
 have h1 := numTo_bd s h i hi
 have h2 : 10 ^ i ≤ 10 ^ 10 := Nat.pow_le_pow_right (by omega) (show i ≤ 10 by have := h.2.1;omega)
 have e : (10 : Nat) ^ 10 = 10000000000 := by decide
 have e2 : (10 : Int) ^ i = ((10 ^ i : Nat) : Int) := by simp
 omega
theorem ref_number (s : ByteArray) (h : IsInt s) (w : World) : Calls Tryz.prog 99 #[.string s] w fun e w' => e = .returned (.int .i64 (intVal s)) ∧ w' = w := by
 have hsz := h.2.1
 have hpos := h.1
 have H := numTo_lt s h
 have HH : Hid (∀ i,i ≤ s.size → 0 ≤ numTo s i ∧ numTo s i ≤ 9999999999) := H
 have HI : Hid (IsInt s) := h
 clear h H
 go_enter Tryz.func99,Tryz.ntmps99
 go_wp2
 go_loop [3,4] (fun vn vi => ∃ i : Nat,i ≤ s.size ∧ vi = .int .i64 i ∧ vn = .int .i64 (numTo s i)) (fun _ vi => s.size - (intOf vi).toNat)
 case atStart => exact ⟨0,by omega,rfl,rfl⟩
 case round =>
  obtain ⟨i,hi,rfl,rfl⟩ := hrel
  have hbd := HH.out i hi
  by_cases hlt : i < s.size
  ·have hbin := bAt_in hlt
   have hbd2 := HH.out (i + 1) hlt
   have hd := HI.out.2.2 i hlt
   by_cases h45 : bAt s i = 45
   ·have c45 : ((s[i].toNat : Int) != 45) = false := by rw [← hbin,h45];rfl
    have hn : Hid (numTo s (i + 1) = numTo s i) := by simp [Hid,numTo,h45]
    clear hbin hbd2 hd h45
    go_wp2
    go_round
    case rel => exact ⟨i + 1,by omega,by go_num,by rw [hn.out]⟩
    case measure => simp [intOf];omega
   ·have c45 : ((s[i].toNat : Int) != 45) = true := by rw [← hbin];simpa using h45
    have hd' : 48 ≤ bAt s i ∧ bAt s i ≤ 57 := by
     rcases hd with hd | hd
     ·simpa [isDigI] using hd
     ·exact absurd hd h45
    have c1 : (48 : Int) ≤ (s[i].toNat : Int) := by omega
    have c2 : (s[i].toNat : Int) ≤ 57 := by omega
    have hn : Hid (numTo s (i + 1) = 10 * numTo s i + ((s[i].toNat : Int) - 48)) := by rw [← hbin];simp [Hid,numTo,h45]
    clear hbin hbd2 hd h45 hd'
    go_wp2
    go_round
    case rel => exact ⟨i + 1,by omega,by go_num,by rw [hn.out]⟩
    case measure => simp [intOf];omega
  ·obtain rfl : i = s.size := by omega
   have hb0 := bAt_in hpos
   by_cases h45 : bAt s 0 = 45
   ·have c45 : ((s[0].toNat : Int) == 45) = true := by rw [← hb0,h45];rfl
    have hv : Hid (intVal s = - numTo s s.size) := by simp [Hid,intVal,h45]
    clear hb0 h45
    go_wp2
    go_ret
    exact ⟨ret_int (by rw [hv.out]),rfl⟩
   ·have c45 : ((s[0].toNat : Int) == 45) = false := by rw [← hb0];simpa using h45
    have hv : Hid (intVal s = numTo s s.size) := by simp [Hid,intVal,h45]
    clear hb0 h45
    go_wp2
    go_ret
    exact ⟨ret_int (by rw [hv.out]),rfl⟩
end
section
theorem runF_all (p : Int → Bool) (s : ByteArray) (f : Nat) : ∀ (k j : Nat),k ≤ j → j < runF p s f k → p (bAt s j) = true := by
 induction f with
 | zero => intro k j h1 h2;simp only [runF] at h2;omega
 | succ f ih =>
  intro k j h1 h2
  simp only [runF] at h2
  by_cases c : p (bAt s k) = true
  ·rw [if_pos c] at h2
   rcases Nat.eq_or_lt_of_le h1 with rfl | h
   ·exact c
   ·exact ih (k + 1) j (by omega) h2
  ·rw [if_neg c] at h2;omega
theorem runTo_all (p : Int → Bool) (s : ByteArray) (k j : Nat) (h1 : k ≤ j) (h2 : j < runTo p s k) : p (bAt s j) = true := runF_all p s _ k j h1 h2
theorem size_ext (s : ByteArray) (a b : Nat) (h1 : a ≤ b) (h2 : b ≤ s.size) : (s.extract a b).size = b - a := by
 have e := Lib.extract_data s a b
 have hl : (s.extract a b).data.toList.length = (s.extract a b).size := by rw [Array.length_toList];rfl
 have hs : s.data.toList.length = s.size := by rw [Array.length_toList];rfl
 rw [← hl,e,List.length_take,List.length_drop,hs]
 omega
theorem bAt_list (s : ByteArray) (i : Nat) : bAt s i = ((s.data.toList[i]?).map fun c => (c.toNat : Int)).getD 256 := by
 have hs : s.data.toList.length = s.size := by rw [Array.length_toList];rfl
 by_cases h : i < s.size
 ·rw [bAt_in h,List.getElem?_eq_getElem (by omega)]
  rfl
 ·rw [bAt_out (by omega),List.getElem?_eq_none (by omega)]
  rfl
theorem bAt_ext (s : ByteArray) (a b j : Nat) (h : a + j < b) (h2 : b ≤ s.size) : bAt (s.extract a b) j = bAt s (a + j) := by
 rw [bAt_list,bAt_list,Lib.extract_data,List.getElem?_take_of_lt (by omega),List.getElem?_drop]
theorem tok_int (s : ByteArray) (i : Nat) (hi : i < s.size) (h0 : (tokAt s i).1 ≠ 0) (h : (tokAt s i).2 = 105) : IsInt (s.extract i (tokAt s i).1) := by
 have hsz := runTo_size isDigI s (i + 1) (by omega)
 have hle := runTo_le isDigI s (i + 1)
 unfold tokAt at h h0 ⊢
 by_cases hn : isNum s i = true
 ·rw [if_pos hn] at h h0 ⊢
  by_cases hl : 10 < runTo isDigI s (i + 1) - i
  ·rw [if_pos hl] at h0;exact absurd rfl h0
  ·rw [if_neg hl]
   simp only
   refine ⟨?_,?_,fun j hj => ?_⟩
   ·rw [size_ext s i _ (by omega) hsz];omega
   ·rw [size_ext s i _ (by omega) hsz];omega
   ·rw [size_ext s i _ (by omega) hsz] at hj
    rw [bAt_ext s i _ j (by omega) hsz]
    cases j with
    | zero =>
     simp only [isNum,Bool.or_eq_true,Bool.and_eq_true,beq_iff_eq] at hn
     rcases hn with hn | hn
     ·exact .inl hn
     ·exact .inr hn.1
    | succ j => exact .inl (runTo_all isDigI s (i + 1) (i + (j + 1)) (by omega) (by omega))
 ·rw [if_neg hn] at h
  by_cases hl : isLetI (bAt s i) = true
  ·rw [if_pos hl] at h
   split at h
   ·simp at h
   ·simp only at h;split at h <;> omega
  ·rw [if_neg hl] at h
   split at h <;> simp at h
theorem lexF_int (s : ByteArray) (f : Nat) : ∀ (i line : Nat) (acc : List PTok),(∀ t ∈ acc,t.kind = 105 → IsInt t.s) → ∀ t ∈ (lexF s f i line acc).2.1,t.kind = 105 → IsInt t.s := by
 induction f with
 | zero => intro i line acc h;exact h
 | succ f ih =>
  intro i line acc h
  simp only [lexF]
  by_cases hi : i < s.size
  ·rw [if_pos hi]
   split
   ·exact ih _ _ _ h
   ·split
    ·exact ih _ _ _ h
    ·split
     ·exact ih _ _ _ h
     ·split
      ·intro t ht;simp at ht
      ·rename_i hne
       refine ih _ _ _ (fun t ht hk => ?_)
       rcases List.mem_append.1 ht with ht | ht
       ·exact h t ht hk
       ·obtain rfl : t = ⟨s.extract i (tokAt s i).1,(tokAt s i).2,line⟩ := by simpa using ht
        exact tok_int s i hi hne hk
  ·rw [if_neg hi];exact h
theorem lex_int (s : ByteArray) : ∀ t ∈ (lex s).2.1,t.kind = 105 → IsInt t.s := lexF_int s s.size 0 1 [] (fun t ht => by simp at ht)
theorem lexF_line (s : ByteArray) (f : Nat) : ∀ (i line : Nat) (acc : List PTok),1 ≤ line → (∀ t ∈ acc,1 ≤ t.line) → ∀ t ∈ (lexF s f i line acc).2.1,1 ≤ t.line := by
 induction f with
 | zero => intro i line acc _ h;exact h
 | succ f ih =>
  intro i line acc hl h
  simp only [lexF]
  by_cases hi : i < s.size
  ·rw [if_pos hi]
   split
   ·exact ih _ _ _ (by omega) h
   ·split
    ·exact ih _ _ _ hl h
    ·split
     ·exact ih _ _ _ hl h
     ·split
      ·intro t ht;simp at ht
      ·refine ih _ _ _ hl (fun t ht => ?_)
       rcases List.mem_append.1 ht with ht | ht
       ·exact h t ht
       ·obtain rfl : t = ⟨s.extract i (tokAt s i).1,(tokAt s i).2,line⟩ := by simpa using ht
        exact hl
  ·rw [if_neg hi];exact h
theorem lex_line (s : ByteArray) : ∀ t ∈ (lex s).2.1,1 ≤ t.line := lexF_line s s.size 0 1 [] (by omega) (fun t ht => by simp at ht)
def nlTo (s : ByteArray) : Nat → Nat
 | 0 => 0
 | k + 1 => nlTo s k + if bAt s k = 10 then 1 else 0
theorem nlTo_le (s : ByteArray) (k : Nat) : nlTo s k ≤ k := by
 induction k with
 | zero => simp [nlTo]
 | succ k ih => simp only [nlTo];split <;> omega
theorem nlTo_same (s : ByteArray) (a : Nat) : ∀ (d : Nat),(∀ j,a ≤ j → j < a + d → bAt s j ≠ 10) → nlTo s (a + d) = nlTo s a := by
 intro d
 induction d with
 | zero => intro _;rfl
 | succ d ih =>
  intro h
  have h1 := ih (fun j h1 h2 => h j h1 (by omega))
  have h2 := h (a + d) (by omega) (by omega)
  show nlTo s (a + d) + (if bAt s (a + d) = 10 then 1 else 0) = _
  rw [if_neg h2,h1];rfl
theorem nlTo_between (s : ByteArray) (a b : Nat) (hab : a ≤ b) (h : ∀ j,a ≤ j → j < b → bAt s j ≠ 10) : nlTo s b = nlTo s a := by
 have := nlTo_same s a (b - a) (fun j h1 h2 => h j h1 (by omega))
 rwa [show a + (b - a) = b by omega] at this
theorem tok_nl (s : ByteArray) (i : Nat) (h10 : bAt s i ≠ 10) (h0 : (tokAt s i).1 ≠ 0) (j : Nat) (h1 : i ≤ j) (h2 : j < (tokAt s i).1) : bAt s j ≠ 10 := by
 rcases Nat.eq_or_lt_of_le h1 with rfl | h1
 ·exact h10
 unfold tokAt at h0 h2
 by_cases hn : isNum s i = true
 ·rw [if_pos hn] at h0 h2
  by_cases hl : 10 < runTo isDigI s (i + 1) - i
  ·rw [if_pos hl] at h0;exact absurd rfl h0
  ·rw [if_neg hl] at h2
   have := runTo_all isDigI s (i + 1) j (by omega) h2
   intro e;rw [e] at this;simp [isDigI] at this
 ·rw [if_neg hn] at h0 h2
  by_cases hl : isLetI (bAt s i) = true
  ·rw [if_pos hl] at h0 h2
   by_cases hb : 8 < runTo isAlnI s (i + 1) - i
   ·rw [if_pos hb] at h0;exact absurd rfl h0
   ·rw [if_neg hb] at h2
    have := runTo_all isAlnI s (i + 1) j (by omega) h2
    intro e;rw [e] at this;simp [isAlnI,isLetI,isDigI] at this
  ·rw [if_neg hl] at h0 h2
   by_cases hz : signLen s i = 0
   ·rw [if_pos hz] at h0;exact absurd rfl h0
   ·rw [if_neg hz] at h2
    simp only at h2
    unfold signLen at h2 hz
    by_cases h2s : twoI (bAt s i) (bAt s (i + 1)) = true
    ·rw [if_pos h2s] at h2
     obtain rfl : j = i + 1 := by omega
     intro e;rw [e] at h2s;simp [twoI] at h2s
    ·rw [if_neg h2s] at h2
     split at h2 <;> omega
theorem lexF_last (s : ByteArray) (f : Nat) : ∀ (i line : Nat) (acc : List PTok),s.size ≤ i + f → i ≤ s.size → line = 1 + nlTo s i → (lexF s f i line acc).1 = 0 → 0 < line → (∀ k,k < s.size → (tokAt s k).1 ≤ s.size) → (lexF s f i line acc).2.2 = 1 + nlTo s s.size := by
 induction f with
 | zero =>
  intro i line acc h1 h2 h3 _ _ _
  obtain rfl : i = s.size := by omega
  exact h3
 | succ f ih =>
  intro i line acc h1 h2 h3 hb hl0 htk
  simp only [lexF] at hb ⊢
  by_cases hi : i < s.size
  ·rw [if_pos hi] at hb ⊢
   by_cases h10 : bAt s i = 10
   ·rw [if_pos h10] at hb ⊢
    exact ih _ _ _ (by omega) (by omega) (by simp only [nlTo,h10];simp;omega) hb (by omega) htk
   ·rw [if_neg h10] at hb ⊢
    by_cases hbl : bAt s i = 32 ∨ bAt s i = 9
    ·rw [if_pos hbl] at hb ⊢
     exact ih _ _ _ (by omega) (by omega) (by simp only [nlTo];rw [if_neg h10];omega) hb hl0 htk
    ·rw [if_neg hbl] at hb ⊢
     by_cases h37 : bAt s i = 37
     ·rw [if_pos h37] at hb ⊢
      have hgo : runTo notNl s i = runTo notNl s (i + 1) := runTo_yes _ _ _ hi (by rw [h37];rfl)
      have hge := runTo_le notNl s (i + 1)
      refine ih _ _ _ (by omega) (runTo_size _ _ _ (by omega)) ?_ hb hl0 htk
      rw [nlTo_between s i (runTo notNl s i) (by omega) (fun j a1 a2 e => by have := runTo_all notNl s i j a1 a2;rw [e] at this;simp [notNl] at this)]
      exact h3
     ·rw [if_neg h37] at hb ⊢
      by_cases h0 : (tokAt s i).1 = 0
      ·rw [if_pos h0] at hb;simp only at hb;omega
      ·rw [if_neg h0] at hb ⊢
       have he := tokAt_end s i h0
       refine ih _ _ _ (by omega) (htk i hi) ?_ hb hl0 htk
       rw [nlTo_between s i (tokAt s i).1 (by omega) (fun j a1 a2 => tok_nl s i h10 h0 j a1 a2)]
       exact h3
  ·rw [if_neg hi]
   obtain rfl : i = s.size := by omega
   exact h3
end
section
def kwSort (s : ByteArray) : Int :=
 if s.toList == [118,97,114] then 4 else if s.toList == [108,105,115,116] then 5 else if s.toList == [108,105,110] then 6 else if s.toList == [119,104,101,110] then 7
 else if s.toList == [97,116] then 8 else if s.toList == [100,105,102,102] then 9 else if s.toList == [111,114] then 10 else 2
def sgSort (s : ByteArray) : Int :=
 if s.toList == [59] then 11 else if s.toList == [58] then 12 else if s.toList == [44] then 13 else if s.toList == [61] then 14 else if s.toList == [33,61] then 15
 else if s.toList == [60,61] then 16 else if s.toList == [46,46] then 17 else if s.toList == [91] then 18 else if s.toList == [93] then 19 else if s.toList == [43] then 20
 else if s.toList == [42] then 21 else if s.toList == [33] then 22 else if s.toList == [45] then 23 else 0
def srt (t : PTok) : Int := if t.kind = 105 then 3 else if t.kind = 115 then sgSort t.s else if t.kind = 101 then 1 else kwSort t.s
def tval (t : PTok) : Int := if t.kind = 105 then intVal t.s else 0
def endTok (line : Nat) : PTok := ⟨.empty,101,line⟩
theorem bAt_drop (s : ByteArray) (i j : Nat) (h : i ≤ s.size) : bAt (s.extract i s.size) j = bAt s (i + j) := by
 by_cases hj : i + j < s.size
 ·exact bAt_ext s i s.size j hj (Nat.le_refl _)
 ·rw [bAt_out (show s.size ≤ i + j by omega),bAt_out]
  rw [size_ext s i s.size h (Nat.le_refl _)];omega
theorem runF_drop (p : Int → Bool) (s : ByteArray) (i : Nat) (h : i ≤ s.size) (f : Nat) : ∀ k,i + runF p (s.extract i s.size) f k = runF p s f (i + k) := by
 induction f with
 | zero => intro k;rfl
 | succ f ih =>
  intro k
  simp only [runF]
  rw [bAt_drop s i k h]
  by_cases c : p (bAt s (i + k)) = true
  ·rw [if_pos c,if_pos c,ih (k + 1)];rfl
  ·rw [if_neg c,if_neg c]
theorem runTo_drop (p : Int → Bool) (s : ByteArray) (i k : Nat) (h : i ≤ s.size) : i + runTo p (s.extract i s.size) k = runTo p s (i + k) := by
 unfold runTo
 rw [runF_drop p s i h,size_ext s i s.size h (Nat.le_refl _),show s.size - i - k = s.size - (i + k) by omega]
theorem ext_ext (s : ByteArray) (i k : Nat) (h : i ≤ s.size) (hk : i + k ≤ s.size) : (s.extract i s.size).extract 0 k = s.extract i (i + k) := by
 apply ByteArray.ext
 apply Array.toList_inj.1
 rw [Lib.extract_data,Lib.extract_data,Lib.extract_data]
 rw [List.drop_zero,List.take_take]
 congr 1
 omega
theorem isNum_drop (s : ByteArray) (i : Nat) (h : i ≤ s.size) : isNum (s.extract i s.size) 0 = isNum s i := by
 unfold isNum;rw [bAt_drop s i 0 h,bAt_drop s i (0 + 1) h];rfl
theorem signLen_drop (s : ByteArray) (i : Nat) (h : i ≤ s.size) : signLen (s.extract i s.size) 0 = signLen s i := by
 unfold signLen;rw [bAt_drop s i 0 h,bAt_drop s i (0 + 1) h];rfl
theorem tokAt_drop (s : ByteArray) (i : Nat) (h : i < s.size) : (tokAt s i).2 = (tokAt (s.extract i s.size) 0).2 ∧ ((tokAt (s.extract i s.size) 0).1 = 0 → (tokAt s i).1 = 0) ∧ ((tokAt (s.extract i s.size) 0).1 ≠ 0 → (tokAt s i).1 = i + (tokAt (s.extract i s.size) 0).1) := by
 have hi : i ≤ s.size := by omega
 have r1 := runTo_drop isDigI s i (0 + 1) hi
 have r2 := runTo_drop isAlnI s i (0 + 1) hi
 have r0 := runTo_size isAlnI (s.extract i s.size) (0 + 1) (by rw [size_ext s i _ hi (Nat.le_refl _)];omega)
 have r4 := runTo_size isDigI s (i + 1) (by omega)
 have r5 := runTo_size isAlnI s (i + 1) (by omega)
 have l1 := runTo_le isDigI (s.extract i s.size) (0 + 1)
 have l2 := runTo_le isAlnI (s.extract i s.size) (0 + 1)
 rw [size_ext s i _ hi (Nat.le_refl _)] at r0
 have r3 := ext_ext s i (runTo isAlnI (s.extract i s.size) (0 + 1)) hi (by omega)
 rw [r2] at r3
 have b0 : bAt (s.extract i s.size) 0 = bAt s i := by rw [bAt_drop s i 0 hi];rfl
 unfold tokAt
 rw [isNum_drop s i hi,signLen_drop s i hi,r3,b0]
 rw [show i + (0 + 1) = i + 1 by omega] at *
 generalize runTo isDigI (s.extract i s.size) (0 + 1) = a at *
 generalize runTo isAlnI (s.extract i s.size) (0 + 1) = b at *
 rw [← r1,← r2]
 repeat' split
 all_goals simp only [ne_eq,true_and,not_true_eq_false,false_implies,implies_true,and_true]
 all_goals (try constructor)
 all_goals (try (intro _))
 all_goals (try omega)
theorem tokAtSize (s : ByteArray) (i : Nat) (h : i < s.size) : (tokAt s i).1 ≤ s.size := by
 have r4 := runTo_size isDigI s (i + 1) (by omega)
 have r5 := runTo_size isAlnI s (i + 1) (by omega)
 unfold tokAt
 repeat' split
 all_goals simp only
 all_goals (try omega)
 rename_i hs
 unfold signLen at hs ⊢
 by_cases h2 : i + 1 < s.size
 ·split <;> (try split) <;> omega
 ·rw [two_out s i h2];simp only [Bool.false_eq_true,if_false];split <;> omega
end
section
set_option maxHeartbeats 2000000
open Go.RowKit
theorem tk_isDigit (c : Int) (w : World) : Calls Tryz.prog 111 #[.int .u8 c] w fun e w' => e = .returned (.bool (isDigI c)) ∧ w' = w := by
 unfold isDigI
 by_cases h1 : 48 ≤ c
 ·have e : (decide (48 ≤ c) && decide (c ≤ 57)) = decide (c ≤ 57) := by simp [h1]
  rw [e];clear e
  go_enter Tryz.func111,Tryz.ntmps111
  go_wp2
  all_goals go_ret
  all_goals simp
 ·have e : (decide (48 ≤ c) && decide (c ≤ 57)) = false := by simp [h1]
  rw [e];clear e
  go_enter Tryz.func111,Tryz.ntmps111
  go_wp2
  all_goals go_ret
  all_goals simp
theorem tk_isLetter (c : Int) (w : World) : Calls Tryz.prog 109 #[.int .u8 c] w fun e w' => e = .returned (.bool (isLetI c)) ∧ w' = w := by
 unfold isLetI
 by_cases h1 : 97 ≤ c
 ·have e : (decide (97 ≤ c) && decide (c ≤ 122)) = decide (c ≤ 122) := by simp [h1]
  rw [e];clear e
  go_enter Tryz.func109,Tryz.ntmps109
  go_wp2
  all_goals go_ret
  all_goals simp
 ·have e : (decide (97 ≤ c) && decide (c ≤ 122)) = false := by simp [h1]
  rw [e];clear e
  go_enter Tryz.func109,Tryz.ntmps109
  go_wp2
  all_goals go_ret
  all_goals simp
theorem tk_wordSort (s : ByteArray) (w : World) : Calls Tryz.prog 144 #[.string s] w fun e w' => e = .returned (.int .i64 (kwSort s)) ∧ w' = w := by
 obtain ⟨x,hx⟩ : ∃ x,x = kwSort s := ⟨_,rfl⟩
 have hk : Hid (x = kwSort s) := hx
 rw [← hx];clear hx
 go_enter Tryz.func144,Tryz.ntmps144
 go_wp2
 all_goals go_ret
 all_goals refine ⟨ret_int ?_,rfl⟩
 all_goals rw [hk.out]
 all_goals clear hk
 all_goals go_light
 all_goals simp_all [kwSort]
theorem tk_signSort (s : ByteArray) (w : World) : Calls Tryz.prog 146 #[.string s] w fun e w' => e = .returned (.int .i64 (sgSort s)) ∧ w' = w := by
 obtain ⟨x,hx⟩ : ∃ x,x = sgSort s := ⟨_,rfl⟩
 have hk : Hid (x = sgSort s) := hx
 rw [← hx];clear hx
 go_enter Tryz.func146,Tryz.ntmps146
 go_wp2
 all_goals go_ret
 all_goals refine ⟨ret_int ?_,rfl⟩
 all_goals rw [hk.out]
 all_goals clear hk
 all_goals go_light
 all_goals simp_all [sgSort]
end
section
set_option maxHeartbeats 1000000
set_option maxRecDepth 100000
open Go.RowKit
def pickI (c n : Int) : Int := (if c < 0 then -(c + 1) else c).tmod n
theorem pickI_bd (c n : Int) (hn : 0 < n) : 0 ≤ pickI c n ∧ pickI c n < n := by
 unfold pickI
 have h : 0 ≤ (if c < 0 then -(c + 1) else c) := by split <;> omega
 exact ⟨Int.tmod_nonneg _ h,Int.tmod_lt_of_pos _ hn⟩
theorem law_pick (c n : Int) (w : World) (hlo : -9223372036854775808 ≤ c) (hhi : c ≤ 9223372036854775807) (hn : 0 < n) (hn2 : n ≤ 1000) : Calls Tryz.prog 39 #[.int .i64 c,.int .i64 n] w fun e w' => e = .returned (.int .i64 (pickI c n)) ∧ w' = w := by
 have hn0 : (n == 0) = false := by simp;omega
 by_cases hc : c < 0
 ·have HP : Hid (pickI c n = (-(c + 1)).tmod n) := by unfold Hid pickI;rw [if_pos hc]
  go_enter Tryz.func39,Tryz.ntmps39
  go_wp2
  all_goals go_ret
  all_goals refine ⟨ret_int ?_,rfl⟩
  all_goals rw [HP.out]
  exact (Int.neg_tmod ..).symm
 ·have HP : Hid (pickI c n = c.tmod n) := by unfold Hid pickI;rw [if_neg hc]
  go_enter Tryz.func39,Tryz.ntmps39
  go_wp2
  all_goals go_ret
  all_goals refine ⟨ret_int ?_,rfl⟩
  all_goals rw [HP.out]
  exact (Int.tmod_eq_emod_of_nonneg ‹_›).symm
theorem law_word (mark : Int) (w : World) (h0 : 0 ≤ mark) (h1 : mark ≤ 1000000000000) : Calls Tryz.prog 104 #[.int .i64 mark] w fun e w' => ∃ t : ByteArray,e = .returned (.string t) ∧ t.size = 10 ∧ Below w.heap.size w w' := by
 go_enter Tryz.func104,Tryz.ntmps104
 go_wp2
 go_loopw [0,3,4] (fun vm vt vk wr => ∃ (k : Nat) (m : Int) (t : ByteArray),k ≤ 9 ∧ 0 ≤ m ∧ m ≤ 1000000000000 ∧ vm = .int .i64 m ∧ vt = .string t ∧ vk = .int .i64 k ∧ t.size = 1 + k ∧ Below w.heap.size w wr) (fun _ _ vk _ => 9 - (intOf vk).toNat)
 case atStart => exact ⟨0,mark,⟨#[35]⟩,by omega,h0,h1,rfl,rfl,rfl,rfl,Below.refl _ _⟩
 case round =>
  obtain ⟨k,m,t,hk,hm0,hm1,rfl,rfl,rfl,hsz,hb⟩ := hrel
  by_cases hlt : k < 9
  ·have hlt' : (k : Int) < 9 := by omega
   have hcv : (convert 65 9 (Value.slice (some ⟨wr.heap.size,0,none⟩) 1 1)).run Tryz.prog (wr.alloc (.cells #[.int .u8 (97 + m % 16)] 5)) = .ok (.string (strOfNums [97 + m % 16])) (wr.alloc (.cells #[.int .u8 (97 + m % 16)] 5)) :=
    run_convert_bytes_arg _ 65 5 Tryz.underlying65 Tryz.underlying5 wr.heap.size 0 1 1 [97 + m % 16] rfl (fun i hi => by
     obtain rfl : i = 0 := by omega
     simp) 9 Tryz.underlying9
   have hss : (strOfNums [97 + m % 16]).size = 1 := rfl
   have hbb := hb.alloc hb.size (.cells #[.int .u8 (97 + m % 16)] 5)
   have HBB : Hid (Below w.heap.size w (wr.alloc (.cells #[.int .u8 (97 + m % 16)] 5))) := hbb
   clear hbb
   go_wp2
   go_roundw
   case rel =>
    refine ⟨k + 1,m / 16,_,by omega,by omega,by omega,rfl,rfl,by go_num,?_,HBB.out⟩
    rw [ByteArray.size_append,hsz,hss]
    omega
   case measure => simp [intOf];omega
  ·obtain rfl : k = 9 := by omega
   go_wp2
   go_ret
   exact ⟨t,rfl,by omega,hb⟩
end
end Go.Proofs.YthpcbbnabnlanaaGreatDoor
