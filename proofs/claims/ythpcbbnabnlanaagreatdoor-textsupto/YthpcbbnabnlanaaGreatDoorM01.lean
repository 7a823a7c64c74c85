import Derived.WalkKit
namespace Go.Proofs.YthpcbbnabnlanaaGreatDoor
set_option linter.unusedVariables false
set_option linter.unusedSimpArgs false
section
def bAt (s : ByteArray) (i : Nat) : Int := if h : i < s.size then (s[i].toNat : Int) else 256
def isDigI (c : Int) : Bool := decide (48 ≤ c) && decide (c ≤ 57)
def isLetI (c : Int) : Bool := decide (97 ≤ c) && decide (c ≤ 122)
def isAlnI (c : Int) : Bool := isLetI c || isDigI c
def notNl (c : Int) : Bool := c != 10 && c != 256
theorem bAt_in {s : ByteArray} {i : Nat} (h : i < s.size) : bAt s i = ((s[i]'h).toNat : Int) := by simp [bAt,h]
theorem bAt_out {s : ByteArray} {i : Nat} (h : s.size ≤ i) : bAt s i = 256 := by
 have : ¬ i < s.size := by omega
 simp [bAt,this]
theorem bAt_lt {s : ByteArray} {i : Nat} (h : i < s.size) : bAt s i < 256 := by
 rw [bAt_in h];have := (s[i]'h).toNat_lt;omega
def runF (p : Int → Bool) (s : ByteArray) : Nat → Nat → Nat
 | 0,k => k
 | f + 1,k => if p (bAt s k) then runF p s f (k + 1) else k
def runTo (p : Int → Bool) (s : ByteArray) (k : Nat) : Nat := runF p s (s.size - k) k
theorem runF_le (p : Int → Bool) (s : ByteArray) (f k : Nat) : k ≤ runF p s f k ∧ runF p s f k ≤ k + f := by
 induction f generalizing k with
 | zero => simp [runF]
 | succ f ih =>
  simp only [runF]
  split
  ·have := ih (k + 1);omega
  ·omega
theorem runTo_le (p : Int → Bool) (s : ByteArray) (k : Nat) : k ≤ runTo p s k := (runF_le p s _ k).1
theorem runTo_size (p : Int → Bool) (s : ByteArray) (k : Nat) (h : k ≤ s.size) : runTo p s k ≤ s.size := by
 have := (runF_le p s (s.size - k) k).2
 unfold runTo;omega
theorem runTo_yes (p : Int → Bool) (s : ByteArray) (k : Nat) (h : k < s.size) (hp : p (bAt s k) = true) : runTo p s k = runTo p s (k + 1) := by
 unfold runTo
 have e : s.size - k = (s.size - (k + 1)) + 1 := by omega
 rw [e];simp [runF,hp]
theorem runTo_no (p : Int → Bool) (s : ByteArray) (k : Nat) (hp : p (bAt s k) = false) : runTo p s k = k := by
 unfold runTo
 cases h : s.size - k with
 | zero => rfl
 | succ n => simp [runF,hp]
theorem runTo_end (p : Int → Bool) (s : ByteArray) (k : Nat) (h : s.size ≤ k) : runTo p s k = k := by
 unfold runTo
 have e : s.size - k = 0 := by omega
 rw [e];rfl
def twoI (a b : Int) : Bool := (a == 33 && b == 61) || (a == 60 && b == 61) || (a == 46 && b == 46)
def oneI (a : Int) : Bool := a == 59 || a == 58 || a == 44 || a == 61 || a == 91 || a == 93 || a == 43 || a == 42 || a == 33 || a == 45
def signLen (s : ByteArray) (i : Nat) : Nat := if twoI (bAt s i) (bAt s (i + 1)) then 2 else if oneI (bAt s i) then 1 else 0
def isKw (s : ByteArray) : Bool :=
 s.toList == [118,97,114] || s.toList == [108,105,115,116] || s.toList == [108,105,110] || s.toList == [119,104,101,110] || s.toList == [97,116] || s.toList == [100,105,102,102] || s.toList == [111,114]
structure PTok where
 s : ByteArray
 kind : Int
 line : Nat
def isNum (s : ByteArray) (i : Nat) : Bool := isDigI (bAt s i) || (bAt s i == 45 && isDigI (bAt s (i + 1)))
def tokAt (s : ByteArray) (i : Nat) : Nat × Int :=
 if isNum s i then
  if 10 < runTo isDigI s (i + 1) - i then (0,105) else (runTo isDigI s (i + 1),105)
 else if isLetI (bAt s i) then
  if 8 < runTo isAlnI s (i + 1) - i then (0,110)
  else (runTo isAlnI s (i + 1),if isKw (s.extract i (runTo isAlnI s (i + 1))) then 107 else 110)
 else if signLen s i = 0 then (0,115) else (i + signLen s i,115)
theorem tokAt_end (s : ByteArray) (i : Nat) (h : (tokAt s i).1 ≠ 0) : i < (tokAt s i).1 := by
 unfold tokAt at h ⊢
 have h1 := runTo_le isDigI s (i + 1)
 have h2 := runTo_le isAlnI s (i + 1)
 repeat' split
 all_goals simp_all
 all_goals omega
def lexF (s : ByteArray) : Nat → Nat → Nat → List PTok → Nat × List PTok × Nat
 | 0,_,line,acc => (0,acc,line)
 | f + 1,i,line,acc =>
  if i < s.size then
   if bAt s i = 10 then lexF s f (i + 1) (line + 1) acc
   else if bAt s i = 32 ∨ bAt s i = 9 then lexF s f (i + 1) line acc
   else if bAt s i = 37 then lexF s f (runTo notNl s i) line acc
   else if (tokAt s i).1 = 0 then (line,[],line)
   else lexF s f (tokAt s i).1 line (acc ++ [⟨s.extract i (tokAt s i).1,(tokAt s i).2,line⟩])
  else (0,acc,line)
def lex (s : ByteArray) : Nat × List PTok × Nat := lexF s s.size 0 1 []
theorem lexF_done (s : ByteArray) (f i line : Nat) (acc : List PTok) (h : s.size ≤ i) : lexF s f i line acc = (0,acc,line) := by
 cases f with
 | zero => rfl
 | succ f => simp [lexF,show ¬ i < s.size by omega]
theorem lexF_nl {s : ByteArray} {f i line : Nat} {acc : List PTok} (h : i < s.size) (hc : bAt s i = 10) : lexF s (f + 1) i line acc = lexF s f (i + 1) (line + 1) acc := by simp [lexF,h,hc]
theorem lexF_blank {s : ByteArray} {f i line : Nat} {acc : List PTok} (h : i < s.size) (hc : bAt s i = 32 ∨ bAt s i = 9) : lexF s (f + 1) i line acc = lexF s f (i + 1) line acc := by
 have : ¬ bAt s i = 10 := by rcases hc with h | h <;> rw [h] <;> decide
 simp [lexF,h,hc,this]
theorem lexF_rest {s : ByteArray} {f i line : Nat} {acc : List PTok} (h : i < s.size) (hc : bAt s i = 37) : lexF s (f + 1) i line acc = lexF s f (runTo notNl s i) line acc := by
 simp [lexF,h,hc]
theorem lexF_bad {s : ByteArray} {f i line : Nat} {acc : List PTok} (h : i < s.size) (h1 : ¬ bAt s i = 10) (h2 : ¬ (bAt s i = 32 ∨ bAt s i = 9)) (h3 : ¬ bAt s i = 37) (h4 : (tokAt s i).1 = 0) : lexF s (f + 1) i line acc = (line,[],line) := by
 simp only [lexF];rw [if_pos h,if_neg h1,if_neg h2,if_neg h3,if_pos h4]
theorem lexF_tok {s : ByteArray} {f i line : Nat} {acc : List PTok} (h : i < s.size) (h1 : ¬ bAt s i = 10) (h2 : ¬ (bAt s i = 32 ∨ bAt s i = 9)) (h3 : ¬ bAt s i = 37) (h4 : (tokAt s i).1 ≠ 0) : lexF s (f + 1) i line acc = lexF s f (tokAt s i).1 line (acc ++ [⟨s.extract i (tokAt s i).1,(tokAt s i).2,line⟩]) := by
 simp only [lexF];rw [if_pos h,if_neg h1,if_neg h2,if_neg h3,if_neg h4]
end
section
open Go.RowKit
def refCell (t : PTok) : List Value := [.string t.s,.int .u8 t.kind,.int .i64 t.line]
def refCells (l : List PTok) : List Value := l.flatMap refCell
theorem refCells_snoc (l : List PTok) (t : PTok) : refCells (l ++ [t]) = refCells l ++ [.string t.s,.int .u8 t.kind,.int .i64 t.line] := by
 simp [refCells,refCell]
theorem refCells_get (l : List PTok) (i : Nat) (t : PTok) (h : l[i]? = some t) : (refCells l)[i * 3]? = some (.string t.s) ∧ (refCells l)[i * 3 + 1]? = some (.int .u8 t.kind) ∧ (refCells l)[i * 3 + 2]? = some (.int .i64 t.line) := by
 induction l generalizing i with
 | nil => simp at h
 | cons a l ih =>
  cases i with
  | zero => simp at h;subst h;simp [refCells,refCell]
  | succ i =>
   have e : refCells (a :: l) = [.string a.s,.int .u8 a.kind,.int .i64 a.line] ++ refCells l := rfl
   have h3 := ih i (by simpa using h)
   have e1 : (i + 1) * 3 = i * 3 + 3 := by omega
   rw [e,e1]
   refine ⟨?_,?_,?_⟩
   ·rw [List.getElem?_append_right (by simp)];simpa using h3.1
   ·rw [List.getElem?_append_right (by simp)];have := h3.2.1;simpa [show i * 3 + 3 + 1 - 3 = i * 3 + 1 by omega] using this
   ·rw [List.getElem?_append_right (by simp)];have := h3.2.2;simpa [show i * 3 + 3 + 2 - 3 = i * 3 + 2 by omega] using this
end
end Go.Proofs.YthpcbbnabnlanaaGreatDoor
