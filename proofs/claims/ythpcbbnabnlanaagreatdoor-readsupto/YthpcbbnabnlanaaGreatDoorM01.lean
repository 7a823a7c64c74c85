import Derived.WalkKit
import Derived.Test.YthpcbbnabnlanaaGreatDoorProg
import Derived.WalkSpells
import Derived.WalkLawsBesides
import Derived.Lib.Strings
import Derived.Deep.Light
import Derived.Deep.AppendLies
import Derived.Deep.DrawnRows
import Derived.Deep.QuietTactic
import Derived.BigQuiet
import Derived.Laws.Rows
/-
  The plain mathematics of the text's tokens: how a text is cut, by places; nothing of the program is named here.
-/
namespace Go.Proofs.YthpcbbnabnlanaaGreatDoor

/-- the byte at a place, as a number; 256 behind the end -/
def bAt (s : ByteArray) (i : Nat) : Int := if h : i < s.size then (s[i].toNat : Int) else 256
def isDigI (c : Int) : Bool := decide (48 ≤ c) && decide (c ≤ 57)
def isLetI (c : Int) : Bool := decide (97 ≤ c) && decide (c ≤ 122)
def isAlnI (c : Int) : Bool := isLetI c || isDigI c
def notNl (c : Int) : Bool := c != 10 && c != 256

theorem bAt_in {s : ByteArray} {i : Nat} (h : i < s.size) : bAt s i = ((s[i]'h).toNat : Int) := by simp [bAt, h]
theorem bAt_out {s : ByteArray} {i : Nat} (h : s.size ≤ i) : bAt s i = 256 := by
  have : ¬ i < s.size := by omega
  simp [bAt, this]
theorem bAt_bd (s : ByteArray) (i : Nat) : 0 ≤ bAt s i ∧ bAt s i ≤ 256 := by
  by_cases h : i < s.size
  · rw [bAt_in h]; have := (s[i]'h).toNat_lt; omega
  · rw [bAt_out (by omega)]; omega
theorem bAt_lt {s : ByteArray} {i : Nat} (h : i < s.size) : bAt s i < 256 := by
  rw [bAt_in h]; have := (s[i]'h).toNat_lt; omega

/-- the first place from k on at which p fails, looking at most f places far -/
def runF (p : Int → Bool) (s : ByteArray) : Nat → Nat → Nat
  | 0, k => k
  | f + 1, k => if p (bAt s k) then runF p s f (k + 1) else k
/-- the first place from k on at which p fails (p fails behind the end) -/
def runTo (p : Int → Bool) (s : ByteArray) (k : Nat) : Nat := runF p s (s.size - k) k

theorem runF_le (p : Int → Bool) (s : ByteArray) (f k : Nat) : k ≤ runF p s f k ∧ runF p s f k ≤ k + f := by
  induction f generalizing k with
  | zero => simp [runF]
  | succ f ih =>
    simp only [runF]
    split
    · have := ih (k + 1); omega
    · omega
theorem runTo_le (p : Int → Bool) (s : ByteArray) (k : Nat) : k ≤ runTo p s k := (runF_le p s _ k).1
theorem runTo_size (p : Int → Bool) (s : ByteArray) (k : Nat) (h : k ≤ s.size) : runTo p s k ≤ s.size := by
  have := (runF_le p s (s.size - k) k).2
  unfold runTo; omega
theorem runTo_yes (p : Int → Bool) (s : ByteArray) (k : Nat) (h : k < s.size) (hp : p (bAt s k) = true) : runTo p s k = runTo p s (k + 1) := by
  unfold runTo
  have e : s.size - k = (s.size - (k + 1)) + 1 := by omega
  rw [e]; simp [runF, hp]
theorem runTo_no (p : Int → Bool) (s : ByteArray) (k : Nat) (hp : p (bAt s k) = false) : runTo p s k = k := by
  unfold runTo
  cases h : s.size - k with
  | zero => rfl
  | succ n => simp [runF, hp]
theorem runTo_end (p : Int → Bool) (s : ByteArray) (k : Nat) (h : s.size ≤ k) : runTo p s k = k := by
  unfold runTo
  have e : s.size - k = 0 := by omega
  rw [e]; rfl
/-- where it ends, p fails, if p fails behind the end -/
theorem runF_stop (p : Int → Bool) (s : ByteArray) (f k : Nat) (h : s.size ≤ k + f) (hp : p 256 = false) : p (bAt s (runF p s f k)) = false := by
  induction f generalizing k with
  | zero => simp only [runF]; rw [bAt_out (by omega)]; exact hp
  | succ f ih =>
    simp only [runF]
    by_cases c : p (bAt s k) = true
    · rw [if_pos c]; exact ih (k + 1) (by omega)
    · rw [if_neg c]; simpa using c
theorem runTo_stop (p : Int → Bool) (s : ByteArray) (k : Nat) (hp : p 256 = false) : p (bAt s (runTo p s k)) = false := by
  by_cases h : s.size ≤ k
  · rw [runTo_end p s k h, bAt_out h]; exact hp
  · exact runF_stop p s _ k (by omega) hp

def twoI (a b : Int) : Bool := (a == 33 && b == 61) || (a == 60 && b == 61) || (a == 46 && b == 46)
def oneI (a : Int) : Bool := a == 59 || a == 58 || a == 44 || a == 61 || a == 91 || a == 93 || a == 43 || a == 42 || a == 33 || a == 45
/-- how many bytes from i on are a sign; 0: none -/
def signLen (s : ByteArray) (i : Nat) : Nat := if twoI (bAt s i) (bAt s (i + 1)) then 2 else if oneI (bAt s i) then 1 else 0

/-- a word's bytes are one of the seven -/
def isKw (s : ByteArray) : Bool :=
  s.toList == [118, 97, 114] || s.toList == [108, 105, 115, 116] || s.toList == [108, 105, 110] || s.toList == [119, 104, 101, 110] || s.toList == [97, 116] || s.toList == [100, 105, 102, 102] || s.toList == [111, 114]

/-- a token: its bytes, its kind (105 an INT, 110 a name, 107 a keyword, 115 a sign), its line -/
structure PTok where
  s : ByteArray
  kind : Int
  line : Nat

def isNum (s : ByteArray) (i : Nat) : Bool := isDigI (bAt s i) || (bAt s i == 45 && isDigI (bAt s (i + 1)))

/-- the token that begins at i (behind no blank): its end and its kind; end 0: there is none -/
def tokAt (s : ByteArray) (i : Nat) : Nat × Int :=
  if isNum s i then
    if 10 < runTo isDigI s (i + 1) - i then (0, 105) else (runTo isDigI s (i + 1), 105)
  else if isLetI (bAt s i) then
    if 8 < runTo isAlnI s (i + 1) - i then (0, 110)
    else (runTo isAlnI s (i + 1), if isKw (s.extract i (runTo isAlnI s (i + 1))) then 107 else 110)
  else if signLen s i = 0 then (0, 115) else (i + signLen s i, 115)

theorem tokAt_end (s : ByteArray) (i : Nat) (h : (tokAt s i).1 ≠ 0) : i < (tokAt s i).1 := by
  unfold tokAt at h ⊢
  have h1 := runTo_le isDigI s (i + 1)
  have h2 := runTo_le isAlnI s (i + 1)
  repeat' split
  all_goals simp_all
  all_goals omega

/-- the cut of what is left from i on, with fuel: (the line of what is no token, or 0; the tokens; the last line) -/
def lexF (s : ByteArray) : Nat → Nat → Nat → List PTok → Nat × List PTok × Nat
  | 0, _, line, acc => (0, acc, line)
  | f + 1, i, line, acc =>
    if i < s.size then
      if bAt s i = 10 then lexF s f (i + 1) (line + 1) acc
      else if bAt s i = 32 ∨ bAt s i = 9 then lexF s f (i + 1) line acc
      else if bAt s i = 37 then lexF s f (runTo notNl s i) line acc
      else if (tokAt s i).1 = 0 then (line, [], line)
      else lexF s f (tokAt s i).1 line (acc ++ [⟨s.extract i (tokAt s i).1, (tokAt s i).2, line⟩])
    else (0, acc, line)
def lex (s : ByteArray) : Nat × List PTok × Nat := lexF s s.size 0 1 []

theorem lexF_done (s : ByteArray) (f i line : Nat) (acc : List PTok) (h : s.size ≤ i) : lexF s f i line acc = (0, acc, line) := by
  cases f with
  | zero => rfl
  | succ f => simp [lexF, show ¬ i < s.size by omega]
theorem lexF_nl {s : ByteArray} {f i line : Nat} {acc : List PTok} (h : i < s.size) (hc : bAt s i = 10) : lexF s (f + 1) i line acc = lexF s f (i + 1) (line + 1) acc := by simp [lexF, h, hc]
theorem lexF_blank {s : ByteArray} {f i line : Nat} {acc : List PTok} (h : i < s.size) (hc : bAt s i = 32 ∨ bAt s i = 9) : lexF s (f + 1) i line acc = lexF s f (i + 1) line acc := by
  have : ¬ bAt s i = 10 := by rcases hc with h | h <;> rw [h] <;> decide
  simp [lexF, h, hc, this]
theorem lexF_rest {s : ByteArray} {f i line : Nat} {acc : List PTok} (h : i < s.size) (hc : bAt s i = 37) : lexF s (f + 1) i line acc = lexF s f (runTo notNl s i) line acc := by
  simp [lexF, h, hc]
theorem lexF_bad {s : ByteArray} {f i line : Nat} {acc : List PTok} (h : i < s.size) (h1 : ¬ bAt s i = 10) (h2 : ¬ (bAt s i = 32 ∨ bAt s i = 9)) (h3 : ¬ bAt s i = 37) (h4 : (tokAt s i).1 = 0) :
    lexF s (f + 1) i line acc = (line, [], line) := by
  simp only [lexF]; rw [if_pos h, if_neg h1, if_neg h2, if_neg h3, if_pos h4]
theorem lexF_tok {s : ByteArray} {f i line : Nat} {acc : List PTok} (h : i < s.size) (h1 : ¬ bAt s i = 10) (h2 : ¬ (bAt s i = 32 ∨ bAt s i = 9)) (h3 : ¬ bAt s i = 37) (h4 : (tokAt s i).1 ≠ 0) :
    lexF s (f + 1) i line acc = lexF s f (tokAt s i).1 line (acc ++ [⟨s.extract i (tokAt s i).1, (tokAt s i).2, line⟩]) := by
  simp only [lexF]; rw [if_pos h, if_neg h1, if_neg h2, if_neg h3, if_neg h4]

end Go.Proofs.YthpcbbnabnlanaaGreatDoor

/-
  Of the reference's small functions of bytes and words: each returns what its plain Lean twin gives, and leaves the world alone.
-/
namespace Go.Proofs.YthpcbbnabnlanaaGreatDoor
open Go.RowKit

theorem ret_bool {a b : Bool} (h : a = b) : Ending.returned (.bool a) = .returned (.bool b) := by rw [h]
theorem ret_int {k : IntKind} {a b : Int} (h : a = b) : Ending.returned (.int k a) = .returned (.int k b) := by rw [h]

set_option maxHeartbeats 400000 in
theorem ref_digit (c : Int) (w : World) :
    Calls Tryz.prog 90 #[.int .u8 c] w fun e w' => e = .returned (.bool (isDigI c)) ∧ w' = w := by
  unfold isDigI
  by_cases h1 : 48 ≤ c
  · have e : (decide (48 ≤ c) && decide (c ≤ 57)) = decide (c ≤ 57) := by simp [h1]
    rw [e]; clear e
    go_enter Tryz.func90, Tryz.ntmps90
    go_wp2
    all_goals go_ret
    all_goals simp
  · have e : (decide (48 ≤ c) && decide (c ≤ 57)) = false := by simp [h1]
    rw [e]; clear e
    go_enter Tryz.func90, Tryz.ntmps90
    go_wp2
    all_goals go_ret
    all_goals simp

set_option maxHeartbeats 400000 in
theorem ref_small (c : Int) (w : World) :
    Calls Tryz.prog 91 #[.int .u8 c] w fun e w' => e = .returned (.bool (isLetI c)) ∧ w' = w := by
  unfold isLetI
  by_cases h1 : 97 ≤ c
  · have e : (decide (97 ≤ c) && decide (c ≤ 122)) = decide (c ≤ 122) := by simp [h1]
    rw [e]; clear e
    go_enter Tryz.func91, Tryz.ntmps91
    go_wp2
    all_goals go_ret
    all_goals simp
  · have e : (decide (97 ≤ c) && decide (c ≤ 122)) = false := by simp [h1]
    rw [e]; clear e
    go_enter Tryz.func91, Tryz.ntmps91
    go_wp2
    all_goals go_ret
    all_goals simp

set_option maxHeartbeats 400000 in
theorem ref_keyword (s : ByteArray) (w : World) :
    Calls Tryz.prog 92 #[.string s] w fun e w' => e = .returned (.bool (isKw s)) ∧ w' = w := by
  have hk : Hid (isKw s = (s.toList == [118, 97, 114] || s.toList == [108, 105, 115, 116] || s.toList == [108, 105, 110] || s.toList == [119, 104, 101, 110] || s.toList == [97, 116] || s.toList == [100, 105, 102, 102] || s.toList == [111, 114])) := rfl
  go_enter Tryz.func92, Tryz.ntmps92
  go_wp2
  all_goals go_ret
  all_goals refine ⟨ret_bool ?_, rfl⟩
  all_goals rw [hk.out]
  all_goals simp [*]

theorem two_bytes (s : ByteArray) (i : Nat) (h : i + 1 < s.size) (a b : UInt8) :
    ((s.extract i (i + 2)).toList == [a, b]) = (bAt s i == (a.toNat : Int) && bAt s (i + 1) == (b.toNat : Int)) := by
  rw [Lib.extract_toList, bAt_in h, bAt_in (show i < s.size by omega)]
  have hl : s.data.toList.length = s.size := by rw [Array.length_toList]; rfl
  have e : (s.data.toList.drop i).take (i + 2 - i) = [s[i], s[i + 1]] := by
    rw [List.drop_eq_getElem_cons (by omega), List.drop_eq_getElem_cons (by omega)]
    have : i + 2 - i = 2 := by omega
    rw [this]
    rfl
  rw [e, Bool.eq_iff_iff]
  simp only [beq_iff_eq, Bool.and_eq_true, List.cons.injEq, and_true]
  constructor
  · rintro ⟨h1, h2⟩; rw [h1, h2]; exact ⟨rfl, rfl⟩
  · rintro ⟨h1, h2⟩
    exact ⟨UInt8.toNat_inj.1 (by omega), UInt8.toNat_inj.1 (by omega)⟩

theorem two_ext (s : ByteArray) (i : Nat) (h : i + 1 < s.size) :
    twoI (bAt s i) (bAt s (i + 1)) = ((s.extract i (i + 2)).toList == [33, 61] || (s.extract i (i + 2)).toList == [60, 61] || (s.extract i (i + 2)).toList == [46, 46]) := by
  rw [two_bytes s i h, two_bytes s i h, two_bytes s i h]; rfl
theorem two_out (s : ByteArray) (i : Nat) (h : ¬ i + 1 < s.size) : twoI (bAt s i) (bAt s (i + 1)) = false := by
  rw [bAt_out (show s.size ≤ i + 1 by omega)]
  simp [twoI]

set_option maxHeartbeats 1000000 in
theorem ref_sign (s : ByteArray) (i : Nat) (w : World) (hs : s.size ≤ 2000) (hi : i < s.size) :
    Calls Tryz.prog 93 #[.string s, .int .i64 i] w fun e w' => e = .returned (.int .i64 (signLen s i)) ∧ w' = w := by
  have ho : Hid (oneI (bAt s i) = ((s[i].toNat : Int) == 59 || (s[i].toNat : Int) == 58 || (s[i].toNat : Int) == 44 || (s[i].toNat : Int) == 61 || (s[i].toNat : Int) == 91 || (s[i].toNat : Int) == 93 || (s[i].toNat : Int) == 43 || (s[i].toNat : Int) == 42 || (s[i].toNat : Int) == 33 || (s[i].toNat : Int) == 45)) := by
    rw [bAt_in hi]; rfl
  by_cases h2 : i + 1 < s.size
  · have ht : Hid (twoI (bAt s i) (bAt s (i + 1)) = _) := two_ext s i h2
    have h2' : (i : Int) + 1 < s.size := by omega
    go_enter Tryz.func93, Tryz.ntmps93
    go_wp2
    all_goals go_ret
    all_goals refine ⟨ret_int ?_, rfl⟩
    all_goals unfold signLen
    all_goals rw [ht.out, ho.out]
    all_goals clear ht ho
    all_goals go_light
    all_goals first | (simp [*]; done) | (simp_all; done)
  · have ht : Hid (twoI (bAt s i) (bAt s (i + 1)) = false) := two_out s i h2
    have h2' : (s.size : Int) ≤ (i : Int) + 1 := by omega
    go_enter Tryz.func93, Tryz.ntmps93
    go_wp2
    all_goals go_ret
    all_goals refine ⟨ret_int ?_, rfl⟩
    all_goals unfold signLen
    all_goals rw [ht.out, ho.out]
    all_goals clear ht ho
    all_goals go_light
    all_goals first | (simp [*]; done) | (simp_all; done)
end Go.Proofs.YthpcbbnabnlanaaGreatDoor

/-
  The reference's number: of an INT's bytes it returns the number that they spell, and leaves the world alone.
-/
namespace Go.Proofs.YthpcbbnabnlanaaGreatDoor
open Go.RowKit

/-- the bytes of an INT -/
def IsInt (s : ByteArray) : Prop := 0 < s.size ∧ s.size ≤ 10 ∧ ∀ i, i < s.size → isDigI (bAt s i) = true ∨ bAt s i = 45
/-- what the first so many bytes spell, whatever minus stands among them -/
def numTo (s : ByteArray) : Nat → Int
  | 0 => 0
  | i + 1 => if bAt s i = 45 then numTo s i else 10 * numTo s i + (bAt s i - 48)
def intVal (s : ByteArray) : Int := if bAt s 0 = 45 then - numTo s s.size else numTo s s.size

theorem numTo_bd (s : ByteArray) (h : IsInt s) (i : Nat) (hi : i ≤ s.size) : 0 ≤ numTo s i ∧ numTo s i + 1 ≤ 10 ^ i := by
  induction i with
  | zero => simp [numTo]
  | succ i ih =>
    have ih' := ih (by omega)
    have hd := h.2.2 i (by omega)
    have e : (10 : Int) ^ (i + 1) = 10 * 10 ^ i := by rw [Int.pow_succ]; omega
    simp only [numTo]
    rw [e]
    split
    · omega
    · rcases hd with hd | hd
      · simp [isDigI] at hd; omega
      · omega
theorem numTo_lt (s : ByteArray) (h : IsInt s) (i : Nat) (hi : i ≤ s.size) : 0 ≤ numTo s i ∧ numTo s i ≤ 9999999999 := by
  have h1 := numTo_bd s h i hi
  have h2 : 10 ^ i ≤ 10 ^ 10 := Nat.pow_le_pow_right (by omega) (show i ≤ 10 by have := h.2.1; omega)
  have e : (10 : Nat) ^ 10 = 10000000000 := by decide
  have e2 : (10 : Int) ^ i = ((10 ^ i : Nat) : Int) := by simp
  omega

set_option maxHeartbeats 1000000 in
theorem ref_number (s : ByteArray) (h : IsInt s) (w : World) :
    Calls Tryz.prog 99 #[.string s] w fun e w' => e = .returned (.int .i64 (intVal s)) ∧ w' = w := by
  have hsz := h.2.1
  have hpos := h.1
  have H := numTo_lt s h
  have HH : Hid (∀ i, i ≤ s.size → 0 ≤ numTo s i ∧ numTo s i ≤ 9999999999) := H
  have HI : Hid (IsInt s) := h
  clear h H
  go_enter Tryz.func99, Tryz.ntmps99
  go_wp2
  go_loop [3, 4] (fun vn vi => ∃ i : Nat, i ≤ s.size ∧ vi = .int .i64 i ∧ vn = .int .i64 (numTo s i)) (fun _ vi => s.size - (intOf vi).toNat)
  case atStart => exact ⟨0, by omega, rfl, rfl⟩
  case round =>
    obtain ⟨i, hi, rfl, rfl⟩ := hrel
    have hbd := HH.out i hi
    by_cases hlt : i < s.size
    · have hbin := bAt_in hlt
      have hbd2 := HH.out (i + 1) hlt
      have hd := HI.out.2.2 i hlt
      by_cases h45 : bAt s i = 45
      · have c45 : ((s[i].toNat : Int) != 45) = false := by rw [← hbin, h45]; rfl
        have hn : Hid (numTo s (i + 1) = numTo s i) := by simp [Hid, numTo, h45]
        clear hbin hbd2 hd h45
        go_wp2
        go_round
        case rel => exact ⟨i + 1, by omega, by go_num, by rw [hn.out]⟩
        case measure => simp [intOf]; omega
      · have c45 : ((s[i].toNat : Int) != 45) = true := by rw [← hbin]; simpa using h45
        have hd' : 48 ≤ bAt s i ∧ bAt s i ≤ 57 := by
          rcases hd with hd | hd
          · simpa [isDigI] using hd
          · exact absurd hd h45
        have c1 : (48 : Int) ≤ (s[i].toNat : Int) := by omega
        have c2 : (s[i].toNat : Int) ≤ 57 := by omega
        have hn : Hid (numTo s (i + 1) = 10 * numTo s i + ((s[i].toNat : Int) - 48)) := by rw [← hbin]; simp [Hid, numTo, h45]
        clear hbin hbd2 hd h45 hd'
        go_wp2
        go_round
        case rel => exact ⟨i + 1, by omega, by go_num, by rw [hn.out]⟩
        case measure => simp [intOf]; omega
    · obtain rfl : i = s.size := by omega
      have hb0 := bAt_in hpos
      by_cases h45 : bAt s 0 = 45
      · have c45 : ((s[0].toNat : Int) == 45) = true := by rw [← hb0, h45]; rfl
        have hv : Hid (intVal s = - numTo s s.size) := by simp [Hid, intVal, h45]
        clear hb0 h45
        go_wp2
        go_ret
        exact ⟨ret_int (by rw [hv.out]), rfl⟩
      · have c45 : ((s[0].toNat : Int) == 45) = false := by rw [← hb0]; simpa using h45
        have hv : Hid (intVal s = numTo s s.size) := by simp [Hid, intVal, h45]
        clear hb0 h45
        go_wp2
        go_ret
        exact ⟨ret_int (by rw [hv.out]), rfl⟩
end Go.Proofs.YthpcbbnabnlanaaGreatDoor

/-
  The plain mathematics of the cut, more: what its tokens are.
-/
namespace Go.Proofs.YthpcbbnabnlanaaGreatDoor
set_option linter.unusedVariables false

theorem runF_all (p : Int → Bool) (s : ByteArray) (f : Nat) : ∀ (k j : Nat), k ≤ j → j < runF p s f k → p (bAt s j) = true := by
  induction f with
  | zero => intro k j h1 h2; simp only [runF] at h2; omega
  | succ f ih =>
    intro k j h1 h2
    simp only [runF] at h2
    by_cases c : p (bAt s k) = true
    · rw [if_pos c] at h2
      rcases Nat.eq_or_lt_of_le h1 with rfl | h
      · exact c
      · exact ih (k + 1) j (by omega) h2
    · rw [if_neg c] at h2; omega
theorem runTo_all (p : Int → Bool) (s : ByteArray) (k j : Nat) (h1 : k ≤ j) (h2 : j < runTo p s k) : p (bAt s j) = true := runF_all p s _ k j h1 h2

theorem size_ext (s : ByteArray) (a b : Nat) (h1 : a ≤ b) (h2 : b ≤ s.size) : (s.extract a b).size = b - a := by
  have e := Lib.extract_data s a b
  have hl : (s.extract a b).data.toList.length = (s.extract a b).size := by rw [Array.length_toList]; rfl
  have hs : s.data.toList.length = s.size := by rw [Array.length_toList]; rfl
  rw [← hl, e, List.length_take, List.length_drop, hs]
  omega
theorem bAt_list (s : ByteArray) (i : Nat) : bAt s i = ((s.data.toList[i]?).map fun c => (c.toNat : Int)).getD 256 := by
  have hs : s.data.toList.length = s.size := by rw [Array.length_toList]; rfl
  by_cases h : i < s.size
  · rw [bAt_in h, List.getElem?_eq_getElem (by omega)]
    rfl
  · rw [bAt_out (by omega), List.getElem?_eq_none (by omega)]
    rfl
theorem bAt_ext (s : ByteArray) (a b j : Nat) (h : a + j < b) (h2 : b ≤ s.size) : bAt (s.extract a b) j = bAt s (a + j) := by
  rw [bAt_list, bAt_list, Lib.extract_data, List.getElem?_take_of_lt (by omega), List.getElem?_drop]

/-- an INT's bytes are an INT's -/
theorem tok_int (s : ByteArray) (i : Nat) (hi : i < s.size) (h0 : (tokAt s i).1 ≠ 0) (h : (tokAt s i).2 = 105) : IsInt (s.extract i (tokAt s i).1) := by
  have hsz := runTo_size isDigI s (i + 1) (by omega)
  have hle := runTo_le isDigI s (i + 1)
  unfold tokAt at h h0 ⊢
  by_cases hn : isNum s i = true
  · rw [if_pos hn] at h h0 ⊢
    by_cases hl : 10 < runTo isDigI s (i + 1) - i
    · rw [if_pos hl] at h0; exact absurd rfl h0
    · rw [if_neg hl]
      simp only
      refine ⟨?_, ?_, fun j hj => ?_⟩
      · rw [size_ext s i _ (by omega) hsz]; omega
      · rw [size_ext s i _ (by omega) hsz]; omega
      · rw [size_ext s i _ (by omega) hsz] at hj
        rw [bAt_ext s i _ j (by omega) hsz]
        cases j with
        | zero =>
          simp only [isNum, Bool.or_eq_true, Bool.and_eq_true, beq_iff_eq] at hn
          rcases hn with hn | hn
          · exact .inl hn
          · exact .inr hn.1
        | succ j => exact .inl (runTo_all isDigI s (i + 1) (i + (j + 1)) (by omega) (by omega))
  · rw [if_neg hn] at h
    by_cases hl : isLetI (bAt s i) = true
    · rw [if_pos hl] at h
      split at h
      · simp at h
      · simp only at h; split at h <;> omega
    · rw [if_neg hl] at h
      split at h <;> simp at h

theorem lexF_int (s : ByteArray) (f : Nat) : ∀ (i line : Nat) (acc : List PTok), (∀ t ∈ acc, t.kind = 105 → IsInt t.s) → ∀ t ∈ (lexF s f i line acc).2.1, t.kind = 105 → IsInt t.s := by
  induction f with
  | zero => intro i line acc h; exact h
  | succ f ih =>
    intro i line acc h
    simp only [lexF]
    by_cases hi : i < s.size
    · rw [if_pos hi]
      split
      · exact ih _ _ _ h
      · split
        · exact ih _ _ _ h
        · split
          · exact ih _ _ _ h
          · split
            · intro t ht; simp at ht
            · rename_i hne
              refine ih _ _ _ (fun t ht hk => ?_)
              rcases List.mem_append.1 ht with ht | ht
              · exact h t ht hk
              · obtain rfl : t = ⟨s.extract i (tokAt s i).1, (tokAt s i).2, line⟩ := by simpa using ht
                exact tok_int s i hi hne hk
    · rw [if_neg hi]; exact h
/-- every INT of a cut is one -/
theorem lex_int (s : ByteArray) : ∀ t ∈ (lex s).2.1, t.kind = 105 → IsInt t.s := lexF_int s s.size 0 1 [] (fun t ht => by simp at ht)

/-- every line of a cut's tokens is at least 1 -/
theorem lexF_line (s : ByteArray) (f : Nat) : ∀ (i line : Nat) (acc : List PTok), 1 ≤ line → (∀ t ∈ acc, 1 ≤ t.line) → ∀ t ∈ (lexF s f i line acc).2.1, 1 ≤ t.line := by
  induction f with
  | zero => intro i line acc _ h; exact h
  | succ f ih =>
    intro i line acc hl h
    simp only [lexF]
    by_cases hi : i < s.size
    · rw [if_pos hi]
      split
      · exact ih _ _ _ (by omega) h
      · split
        · exact ih _ _ _ hl h
        · split
          · exact ih _ _ _ hl h
          · split
            · intro t ht; simp at ht
            · refine ih _ _ _ hl (fun t ht => ?_)
              rcases List.mem_append.1 ht with ht | ht
              · exact h t ht
              · obtain rfl : t = ⟨s.extract i (tokAt s i).1, (tokAt s i).2, line⟩ := by simpa using ht
                exact hl
    · rw [if_neg hi]; exact h
theorem lex_line (s : ByteArray) : ∀ t ∈ (lex s).2.1, 1 ≤ t.line := lexF_line s s.size 0 1 [] (by omega) (fun t ht => by simp at ht)
/-- the line ends among the first so many bytes -/
def nlTo (s : ByteArray) : Nat → Nat
  | 0 => 0
  | k + 1 => nlTo s k + if bAt s k = 10 then 1 else 0
theorem nlTo_le (s : ByteArray) (k : Nat) : nlTo s k ≤ k := by
  induction k with
  | zero => simp [nlTo]
  | succ k ih => simp only [nlTo]; split <;> omega

/-- no line end between two places -/
theorem nlTo_same (s : ByteArray) (a : Nat) : ∀ (d : Nat), (∀ j, a ≤ j → j < a + d → bAt s j ≠ 10) → nlTo s (a + d) = nlTo s a := by
  intro d
  induction d with
  | zero => intro _; rfl
  | succ d ih =>
    intro h
    have h1 := ih (fun j h1 h2 => h j h1 (by omega))
    have h2 := h (a + d) (by omega) (by omega)
    show nlTo s (a + d) + (if bAt s (a + d) = 10 then 1 else 0) = _
    rw [if_neg h2, h1]; rfl
theorem nlTo_between (s : ByteArray) (a b : Nat) (hab : a ≤ b) (h : ∀ j, a ≤ j → j < b → bAt s j ≠ 10) : nlTo s b = nlTo s a := by
  have := nlTo_same s a (b - a) (fun j h1 h2 => h j h1 (by omega))
  rwa [show a + (b - a) = b by omega] at this
/-- a token holds no line end -/
theorem tok_nl (s : ByteArray) (i : Nat) (h10 : bAt s i ≠ 10) (h0 : (tokAt s i).1 ≠ 0) (j : Nat) (h1 : i ≤ j) (h2 : j < (tokAt s i).1) : bAt s j ≠ 10 := by
  rcases Nat.eq_or_lt_of_le h1 with rfl | h1
  · exact h10
  unfold tokAt at h0 h2
  by_cases hn : isNum s i = true
  · rw [if_pos hn] at h0 h2
    by_cases hl : 10 < runTo isDigI s (i + 1) - i
    · rw [if_pos hl] at h0; exact absurd rfl h0
    · rw [if_neg hl] at h2
      have := runTo_all isDigI s (i + 1) j (by omega) h2
      intro e; rw [e] at this; simp [isDigI] at this
  · rw [if_neg hn] at h0 h2
    by_cases hl : isLetI (bAt s i) = true
    · rw [if_pos hl] at h0 h2
      by_cases hb : 8 < runTo isAlnI s (i + 1) - i
      · rw [if_pos hb] at h0; exact absurd rfl h0
      · rw [if_neg hb] at h2
        have := runTo_all isAlnI s (i + 1) j (by omega) h2
        intro e; rw [e] at this; simp [isAlnI, isLetI, isDigI] at this
    · rw [if_neg hl] at h0 h2
      by_cases hz : signLen s i = 0
      · rw [if_pos hz] at h0; exact absurd rfl h0
      · rw [if_neg hz] at h2
        simp only at h2
        unfold signLen at h2 hz
        by_cases h2s : twoI (bAt s i) (bAt s (i + 1)) = true
        · rw [if_pos h2s] at h2
          obtain rfl : j = i + 1 := by omega
          intro e; rw [e] at h2s; simp [twoI] at h2s
        · rw [if_neg h2s] at h2
          split at h2 <;> omega
theorem lexF_last (s : ByteArray) (f : Nat) : ∀ (i line : Nat) (acc : List PTok), s.size ≤ i + f → i ≤ s.size → line = 1 + nlTo s i → (lexF s f i line acc).1 = 0 → 0 < line →
    (∀ k, k < s.size → (tokAt s k).1 ≤ s.size) → (lexF s f i line acc).2.2 = 1 + nlTo s s.size := by
  induction f with
  | zero =>
    intro i line acc h1 h2 h3 _ _ _
    obtain rfl : i = s.size := by omega
    exact h3
  | succ f ih =>
    intro i line acc h1 h2 h3 hb hl0 htk
    simp only [lexF] at hb ⊢
    by_cases hi : i < s.size
    · rw [if_pos hi] at hb ⊢
      by_cases h10 : bAt s i = 10
      · rw [if_pos h10] at hb ⊢
        exact ih _ _ _ (by omega) (by omega) (by simp only [nlTo, h10]; simp; omega) hb (by omega) htk
      · rw [if_neg h10] at hb ⊢
        by_cases hbl : bAt s i = 32 ∨ bAt s i = 9
        · rw [if_pos hbl] at hb ⊢
          exact ih _ _ _ (by omega) (by omega) (by simp only [nlTo]; rw [if_neg h10]; omega) hb hl0 htk
        · rw [if_neg hbl] at hb ⊢
          by_cases h37 : bAt s i = 37
          · rw [if_pos h37] at hb ⊢
            have hgo : runTo notNl s i = runTo notNl s (i + 1) := runTo_yes _ _ _ hi (by rw [h37]; rfl)
            have hge := runTo_le notNl s (i + 1)
            refine ih _ _ _ (by omega) (runTo_size _ _ _ (by omega)) ?_ hb hl0 htk
            rw [nlTo_between s i (runTo notNl s i) (by omega) (fun j a1 a2 e => by have := runTo_all notNl s i j a1 a2; rw [e] at this; simp [notNl] at this)]
            exact h3
          · rw [if_neg h37] at hb ⊢
            by_cases h0 : (tokAt s i).1 = 0
            · rw [if_pos h0] at hb; simp only at hb; omega
            · rw [if_neg h0] at hb ⊢
              have he := tokAt_end s i h0
              refine ih _ _ _ (by omega) (htk i hi) ?_ hb hl0 htk
              rw [nlTo_between s i (tokAt s i).1 (by omega) (fun j a1 a2 => tok_nl s i h10 h0 j a1 a2)]
              exact h3
    · rw [if_neg hi]
      obtain rfl : i = s.size := by omega
      exact h3
end Go.Proofs.YthpcbbnabnlanaaGreatDoor

/-
  The plain mathematics of the program's tokens: their sorts and values; how the cut of a text's rest is the cut from a place on.
-/
namespace Go.Proofs.YthpcbbnabnlanaaGreatDoor
set_option linter.unusedVariables false

/-- a word's sort: one of the seven keywords', or a name's -/
def kwSort (s : ByteArray) : Int :=
  if s.toList == [118, 97, 114] then 4 else if s.toList == [108, 105, 115, 116] then 5 else if s.toList == [108, 105, 110] then 6 else if s.toList == [119, 104, 101, 110] then 7
  else if s.toList == [97, 116] then 8 else if s.toList == [100, 105, 102, 102] then 9 else if s.toList == [111, 114] then 10 else 2
/-- a sign's sort; 0: it is none -/
def sgSort (s : ByteArray) : Int :=
  if s.toList == [59] then 11 else if s.toList == [58] then 12 else if s.toList == [44] then 13 else if s.toList == [61] then 14 else if s.toList == [33, 61] then 15
  else if s.toList == [60, 61] then 16 else if s.toList == [46, 46] then 17 else if s.toList == [91] then 18 else if s.toList == [93] then 19 else if s.toList == [43] then 20
  else if s.toList == [42] then 21 else if s.toList == [33] then 22 else if s.toList == [45] then 23 else 0
def srt (t : PTok) : Int := if t.kind = 105 then 3 else if t.kind = 115 then sgSort t.s else if t.kind = 101 then 1 else kwSort t.s
def tval (t : PTok) : Int := if t.kind = 105 then intVal t.s else 0
/-- the token behind the last one, as the program lays it -/
def endTok (line : Nat) : PTok := ⟨.empty, 101, line⟩

theorem bAt_drop (s : ByteArray) (i j : Nat) (h : i ≤ s.size) : bAt (s.extract i s.size) j = bAt s (i + j) := by
  by_cases hj : i + j < s.size
  · exact bAt_ext s i s.size j hj (Nat.le_refl _)
  · rw [bAt_out (show s.size ≤ i + j by omega), bAt_out]
    rw [size_ext s i s.size h (Nat.le_refl _)]; omega
theorem runF_drop (p : Int → Bool) (s : ByteArray) (i : Nat) (h : i ≤ s.size) (f : Nat) : ∀ k, i + runF p (s.extract i s.size) f k = runF p s f (i + k) := by
  induction f with
  | zero => intro k; rfl
  | succ f ih =>
    intro k
    simp only [runF]
    rw [bAt_drop s i k h]
    by_cases c : p (bAt s (i + k)) = true
    · rw [if_pos c, if_pos c, ih (k + 1)]; rfl
    · rw [if_neg c, if_neg c]
theorem runTo_drop (p : Int → Bool) (s : ByteArray) (i k : Nat) (h : i ≤ s.size) : i + runTo p (s.extract i s.size) k = runTo p s (i + k) := by
  unfold runTo
  rw [runF_drop p s i h, size_ext s i s.size h (Nat.le_refl _), show s.size - i - k = s.size - (i + k) by omega]
theorem ext_ext (s : ByteArray) (i k : Nat) (h : i ≤ s.size) (hk : i + k ≤ s.size) : (s.extract i s.size).extract 0 k = s.extract i (i + k) := by
  apply ByteArray.ext
  apply Array.toList_inj.1
  rw [Lib.extract_data, Lib.extract_data, Lib.extract_data]
  rw [List.drop_zero, List.take_take]
  congr 1
  omega
theorem isNum_drop (s : ByteArray) (i : Nat) (h : i ≤ s.size) : isNum (s.extract i s.size) 0 = isNum s i := by
  unfold isNum; rw [bAt_drop s i 0 h, bAt_drop s i (0 + 1) h]; rfl
theorem signLen_drop (s : ByteArray) (i : Nat) (h : i ≤ s.size) : signLen (s.extract i s.size) 0 = signLen s i := by
  unfold signLen; rw [bAt_drop s i 0 h, bAt_drop s i (0 + 1) h]; rfl
/-- the token that begins the rest is the one at the place -/
theorem tokAt_drop (s : ByteArray) (i : Nat) (h : i < s.size) :
    (tokAt s i).2 = (tokAt (s.extract i s.size) 0).2 ∧ ((tokAt (s.extract i s.size) 0).1 = 0 → (tokAt s i).1 = 0) ∧ ((tokAt (s.extract i s.size) 0).1 ≠ 0 → (tokAt s i).1 = i + (tokAt (s.extract i s.size) 0).1) := by
  have hi : i ≤ s.size := by omega
  have r1 := runTo_drop isDigI s i (0 + 1) hi
  have r2 := runTo_drop isAlnI s i (0 + 1) hi
  have r0 := runTo_size isAlnI (s.extract i s.size) (0 + 1) (by rw [size_ext s i _ hi (Nat.le_refl _)]; omega)
  have r4 := runTo_size isDigI s (i + 1) (by omega)
  have r5 := runTo_size isAlnI s (i + 1) (by omega)
  have l1 := runTo_le isDigI (s.extract i s.size) (0 + 1)
  have l2 := runTo_le isAlnI (s.extract i s.size) (0 + 1)
  rw [size_ext s i _ hi (Nat.le_refl _)] at r0
  have r3 := ext_ext s i (runTo isAlnI (s.extract i s.size) (0 + 1)) hi (by omega)
  rw [r2] at r3
  have b0 : bAt (s.extract i s.size) 0 = bAt s i := by rw [bAt_drop s i 0 hi]; rfl
  unfold tokAt
  rw [isNum_drop s i hi, signLen_drop s i hi, r3, b0]
  rw [show i + (0 + 1) = i + 1 by omega] at *
  generalize runTo isDigI (s.extract i s.size) (0 + 1) = a at *
  generalize runTo isAlnI (s.extract i s.size) (0 + 1) = b at *
  rw [← r1, ← r2]
  repeat' split
  all_goals simp only [ne_eq, true_and, not_true_eq_false, false_implies, implies_true, and_true]
  all_goals (try constructor)
  all_goals (try (intro _))
  all_goals (try omega)
/-- the token that begins a text -/
theorem tokAtSize (s : ByteArray) (i : Nat) (h : i < s.size) : (tokAt s i).1 ≤ s.size := by
  have r4 := runTo_size isDigI s (i + 1) (by omega)
  have r5 := runTo_size isAlnI s (i + 1) (by omega)
  unfold tokAt
  repeat' split
  all_goals simp only
  all_goals (try omega)
  rename_i hs
  unfold signLen at hs ⊢
  by_cases h2 : i + 1 < s.size
  · split <;> (try split) <;> omega
  · rw [two_out s i h2]; simp only [Bool.false_eq_true, if_false]; split <;> omega
end Go.Proofs.YthpcbbnabnlanaaGreatDoor

/-
  Of the program's small functions of bytes, words and signs: each returns what its plain twin gives, and leaves the world alone.
-/
namespace Go.Proofs.YthpcbbnabnlanaaGreatDoor
open Go.RowKit

set_option maxHeartbeats 400000 in
theorem tk_isDigit (c : Int) (w : World) :
    Calls Tryz.prog 111 #[.int .u8 c] w fun e w' => e = .returned (.bool (isDigI c)) ∧ w' = w := by
  unfold isDigI
  by_cases h1 : 48 ≤ c
  · have e : (decide (48 ≤ c) && decide (c ≤ 57)) = decide (c ≤ 57) := by simp [h1]
    rw [e]; clear e
    go_enter Tryz.func111, Tryz.ntmps111
    go_wp2
    all_goals go_ret
    all_goals simp
  · have e : (decide (48 ≤ c) && decide (c ≤ 57)) = false := by simp [h1]
    rw [e]; clear e
    go_enter Tryz.func111, Tryz.ntmps111
    go_wp2
    all_goals go_ret
    all_goals simp

set_option maxHeartbeats 400000 in
theorem tk_isLetter (c : Int) (w : World) :
    Calls Tryz.prog 109 #[.int .u8 c] w fun e w' => e = .returned (.bool (isLetI c)) ∧ w' = w := by
  unfold isLetI
  by_cases h1 : 97 ≤ c
  · have e : (decide (97 ≤ c) && decide (c ≤ 122)) = decide (c ≤ 122) := by simp [h1]
    rw [e]; clear e
    go_enter Tryz.func109, Tryz.ntmps109
    go_wp2
    all_goals go_ret
    all_goals simp
  · have e : (decide (97 ≤ c) && decide (c ≤ 122)) = false := by simp [h1]
    rw [e]; clear e
    go_enter Tryz.func109, Tryz.ntmps109
    go_wp2
    all_goals go_ret
    all_goals simp

set_option maxHeartbeats 1000000 in
theorem tk_wordSort (s : ByteArray) (w : World) :
    Calls Tryz.prog 144 #[.string s] w fun e w' => e = .returned (.int .i64 (kwSort s)) ∧ w' = w := by
  obtain ⟨x, hx⟩ : ∃ x, x = kwSort s := ⟨_, rfl⟩
  have hk : Hid (x = kwSort s) := hx
  rw [← hx]; clear hx
  go_enter Tryz.func144, Tryz.ntmps144
  go_wp2
  all_goals go_ret
  all_goals refine ⟨ret_int ?_, rfl⟩
  all_goals rw [hk.out]
  all_goals clear hk
  all_goals go_light
  all_goals simp_all [kwSort]

set_option maxHeartbeats 2000000 in
theorem tk_signSort (s : ByteArray) (w : World) :
    Calls Tryz.prog 146 #[.string s] w fun e w' => e = .returned (.int .i64 (sgSort s)) ∧ w' = w := by
  obtain ⟨x, hx⟩ : ∃ x, x = sgSort s := ⟨_, rfl⟩
  have hk : Hid (x = sgSort s) := hx
  rw [← hx]; clear hx
  go_enter Tryz.func146, Tryz.ntmps146
  go_wp2
  all_goals go_ret
  all_goals refine ⟨ret_int ?_, rfl⟩
  all_goals rw [hk.out]
  all_goals clear hk
  all_goals go_light
  all_goals simp_all [sgSort]
end Go.Proofs.YthpcbbnabnlanaaGreatDoor

/-
  Of worlds: what a step may turn, and what it leaves as it was.
-/
namespace Go.Proofs.YthpcbbnabnlanaaGreatDoor
open Go.RowKit
set_option linter.unusedVariables false

theorem grown_drewN' (w : World) (n : Nat) (row : Option Nat) : w.grownBy (w.drewN n) row := ⟨rfl, rfl, rfl, Nat.le_refl _, fun _ _ _ => rfl⟩
theorem grown_drew' (w : World) (row : Option Nat) : w.grownBy w.drew row := ⟨rfl, rfl, rfl, Nat.le_refl _, fun _ _ _ => rfl⟩
theorem grown_set (w : World) (b o : Nat) (u : Value) : w.grownBy (w.setCell ⟨b, o, none⟩ u) (some b) :=
  ⟨rfl, rfl, rfl, by simp [World.setCell], fun k _ hne => Below.heap_setCell _ _ _ _ (fun e => hne (by rw [e]))⟩
/-- w' is w but for the blocks of S and new ones -/
structure But (S : List Nat) (w w' : World) : Prop where
  os : w'.os = w.os
  tape : w'.tape = w.tape
  output : w'.output = w.output
  size : w.heap.size ≤ w'.heap.size
  block : ∀ k, k < w.heap.size → k ∉ S → w'.heap[k]? = w.heap[k]?
theorem But.refl (S : List Nat) (w : World) : But S w w := ⟨rfl, rfl, rfl, Nat.le_refl _, fun _ _ _ => rfl⟩
theorem But.trans {S : List Nat} {a b c : World} (h : But S a b) (k : But S b c) : But S a c :=
  ⟨k.os.trans h.os, k.tape.trans h.tape, k.output.trans h.output, Nat.le_trans h.size k.size, fun i hi hn => (k.block i (Nat.lt_of_lt_of_le hi h.size) hn).trans (h.block i hi hn)⟩
/-- one more step, which turns one row: of S, or made since -/
theorem But.grown {S : List Nat} {a b c : World} {row : Option Nat} (h : But S a b) (hg : b.grownBy c row) (hr : ∀ k, row = some k → k ∈ S ∨ a.heap.size ≤ k) : But S a c :=
  ⟨hg.os.trans h.os, hg.tape.trans h.tape, hg.output.trans h.output, Nat.le_trans h.size hg.size, fun i hi hn =>
    (hg.block i (Nat.lt_of_lt_of_le hi h.size) (fun e => by rcases hr i e.symm with q | q; exact hn q; omega)).trans (h.block i hi hn)⟩
theorem But.alloc {S : List Nat} {a b : World} (h : But S a b) (o : Obj) : But S a (b.alloc o) := h.grown (World.grownBy_alloc b o none) (fun _ e => by cases e)
theorem But.drew {S : List Nat} {a b : World} (h : But S a b) : But S a b.drew := h.grown (grown_drew' b none) (fun _ e => by cases e)
theorem But.drewN {S : List Nat} {a b : World} (h : But S a b) (n : Nat) : But S a (b.drewN n) := h.grown (grown_drewN' b n none) (fun _ e => by cases e)
theorem But.set {S : List Nat} {a b : World} (h : But S a b) {k : Nat} (hk : k ∈ S ∨ a.heap.size ≤ k) (o : Nat) (u : Value) : But S a (b.setCell ⟨k, o, none⟩ u) :=
  h.grown (grown_set b k o u) (fun _ e => by cases e; exact hk)
theorem But.cell {S : List Nat} {w w' : World} (h : But S w w') {b : Nat} (hb : b < w.heap.size) (hn : b ∉ S) (o : Nat) : w'.cell? ⟨b, o, none⟩ = w.cell? ⟨b, o, none⟩ := World.cell?_of_block (h.block b hb hn)
theorem But.mono {S S' : List Nat} {w w' : World} (h : But S w w') (hs : ∀ k, k ∈ S → k ∈ S') : But S' w w' := ⟨h.os, h.tape, h.output, h.size, fun k hk hn => h.block k hk (fun e => hn (hs k e))⟩
/-- a block that is known whole: its cells -/
theorem cell_of {w : World} {b : Nat} {cs : Array Value} {t : TypeId} (h : w.heap[b]? = some (.cells cs t (0, 0))) (i : Nat) (v : Value) (hv : cs[i]? = some v) : w.cell? ⟨b, i, none⟩ = some v := by
  simp [World.cell?, h, hv]
theorem frozen_of {w : World} {b : Nat} {cs : Array Value} {t : TypeId} (h : w.heap[b]? = some (.cells cs t (0, 0))) (i : Nat) : w.frozen? ⟨b, i, none⟩ = false := by
  simp [World.frozen?, h]
theorem set4 {w : World} {b : Nat} {t : TypeId} {a0 a1 a2 a3 : Value} (h : w.heap[b]? = some (.cells #[a0, a1, a2, a3] t (0, 0))) (v0 v1 v2 v3 : Value) :
    ((((w.setCell ⟨b, 0, none⟩ v0).setCell ⟨b, 1, none⟩ v1).setCell ⟨b, 2, none⟩ v2).setCell ⟨b, 3, none⟩ v3).heap[b]? = some (.cells #[v0, v1, v2, v3] t (0, 0)) := by
  rw [heap_setCell_same _ _ _ _ _ _ (heap_setCell_same _ _ _ _ _ _ (heap_setCell_same _ _ _ _ _ _ (heap_setCell_same _ _ _ _ _ _ h)))]
  rfl
theorem set4_grown (w : World) (b : Nat) (v0 v1 v2 v3 : Value) :
    w.grownBy ((((w.setCell ⟨b, 0, none⟩ v0).setCell ⟨b, 1, none⟩ v1).setCell ⟨b, 2, none⟩ v2).setCell ⟨b, 3, none⟩ v3) (some b) :=
  (((grown_set w b 0 v0).trans (grown_set _ b 1 v1)).trans (grown_set _ b 2 v2)).trans (grown_set _ b 3 v3)
/-- a step that turns only a block made since -/
theorem grown_new {a b c : World} {k : Nat} (h : a.grownBy b none) (hk : a.heap.size ≤ k) (g : b.grownBy c (some k)) : a.grownBy c none :=
  ⟨g.os.trans h.os, g.tape.trans h.tape, g.output.trans h.output, Nat.le_trans h.size g.size, fun i hi hn =>
    (g.block i (Nat.lt_of_lt_of_le hi h.size) (fun e => by injection e with e; omega)).trans (h.block i hi hn)⟩
end Go.Proofs.YthpcbbnabnlanaaGreatDoor
