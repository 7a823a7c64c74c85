import Derived.WalkKit
namespace Go.Proofs.YthpcbbnabnlanaaGreatDoor
set_option linter.unusedVariables false
set_option linter.unusedSimpArgs false
section
def bAt (s : ByteArray) (i : Nat) : Int := if h : i < s.size then (s[i].toNat : Int) else 256
def isDigI (c : Int) : Bool := decide (48 ≤ c) && decide (c ≤ 57)
def isLetI (c : Int) : Bool := decide (97 ≤ c) && decide (c ≤ 122)
def isAlnI (c : Int) : Bool := isLetI c || isDigI c
def notNl (c : Int) : Bool := c != 10 && c != 256
theorem bAt_in {s : ByteArray} {i : Nat} (h : i < s.size) : bAt s i = ((s[i]'h).toNat : Int) := by simp [bAt,h]
theorem bAt_out {s : ByteArray} {i : Nat} (h : s.size ≤ i) : bAt s i = 256 := by
 have : ¬ i < s.size := by omega
 simp [bAt,this]
theorem bAt_lt {s : ByteArray} {i : Nat} (h : i < s.size) : bAt s i < 256 := by
 rw [bAt_in h];have := (s[i]'h).toNat_lt;omega
def runF (p : Int → Bool) (s : ByteArray) : Nat → Nat → Nat
 | 0,k => k
 | f + 1,k => if p (bAt s k) then runF p s f (k + 1) else k
def runTo (p : Int → Bool) (s : ByteArray) (k : Nat) : Nat := runF p s (s.size - k) k
theorem runF_le (p : Int → Bool) (s : ByteArray) (f k : Nat) : k ≤ runF p s f k ∧ runF p s f k ≤ k + f := by
 induction f generalizing k with
 | zero => simp [runF]
 | succ f ih =>
  simp only [runF]
  split
  ·have := ih (k + 1);omega
  ·omega
theorem runTo_le (p : Int → Bool) (s : ByteArray) (k : Nat) : k ≤ runTo p s k := (runF_le p s _ k).1
theorem runTo_size (p : Int → Bool) (s : ByteArray) (k : Nat) (h : k ≤ s.size) : runTo p s k ≤ s.size := by
 have := (runF_le p s (s.size - k) k).2
 unfold runTo;omega
theorem runTo_yes (p : Int → Bool) (s : ByteArray) (k : Nat) (h : k < s.size) (hp : p (bAt s k) = true) : runTo p s k = runTo p s (k + 1) := by
 unfold runTo
 have e : s.size - k = (s.size - (k + 1)) + 1 := by omega
 rw [e];simp [runF,hp]
theorem runTo_no (p : Int → Bool) (s : ByteArray) (k : Nat) (hp : p (bAt s k) = false) : runTo p s k = k := by
 unfold runTo
 cases h : s.size - k with
 | zero => rfl
 | succ n => simp [runF,hp]
theorem runTo_end (p : Int → Bool) (s : ByteArray) (k : Nat) (h : s.size ≤ k) : runTo p s k = k := by
 unfold runTo
 have e : s.size - k = 0 := by omega
 rw [e];rfl
def twoI (a b : Int) : Bool := (a == 33 && b == 61) || (a == 60 && b == 61) || (a == 46 && b == 46)
def oneI (a : Int) : Bool := a == 59 || a == 58 || a == 44 || a == 61 || a == 91 || a == 93 || a == 43 || a == 42 || a == 33 || a == 45
def signLen (s : ByteArray) (i : Nat) : Nat := if twoI (bAt s i) (bAt s (i + 1)) then 2 else if oneI (bAt s i) then 1 else 0
def isKw (s : ByteArray) : Bool :=
 s.toList == [118,97,114] || s.toList == [108,105,115,116] || s.toList == [108,105,110] || s.toList == [119,104,101,110] || s.toList == [97,116] || s.toList == [100,105,102,102] || s.toList == [111,114]
structure PTok where
 s : ByteArray
 kind : Int
 line : Nat
def isNum (s : ByteArray) (i : Nat) : Bool := isDigI (bAt s i) || (bAt s i == 45 && isDigI (bAt s (i + 1)))
def tokAt (s : ByteArray) (i : Nat) : Nat × Int :=
 if isNum s i then
  if 10 < runTo isDigI s (i + 1) - i then (0,105) else (runTo isDigI s (i + 1),105)
 else if isLetI (bAt s i) then
  if 8 < runTo isAlnI s (i + 1) - i then (0,110)
  else (runTo isAlnI s (i + 1),if isKw (s.extract i (runTo isAlnI s (i + 1))) then 107 else 110)
 else if signLen s i = 0 then (0,115) else (i + signLen s i,115)
theorem tokAt_end (s : ByteArray) (i : Nat) (h : (tokAt s i).1 ≠ 0) : i < (tokAt s i).1 := by
 unfold tokAt at h ⊢
 have h1 := runTo_le isDigI s (i + 1)
 have h2 := runTo_le isAlnI s (i + 1)
 repeat' split
 all_goals simp_all
 all_goals omega
def lexF (s : ByteArray) : Nat → Nat → Nat → List PTok → Nat × List PTok × Nat
 | 0,_,line,acc => (0,acc,line)
 | f + 1,i,line,acc =>
  if i < s.size then
   if bAt s i = 10 then lexF s f (i + 1) (line + 1) acc
   else if bAt s i = 32 ∨ bAt s i = 9 then lexF s f (i + 1) line acc
   else if bAt s i = 37 then lexF s f (runTo notNl s i) line acc
   else if (tokAt s i).1 = 0 then (line,[],line)
   else lexF s f (tokAt s i).1 line (acc ++ [⟨s.extract i (tokAt s i).1,(tokAt s i).2,line⟩])
  else (0,acc,line)
def lex (s : ByteArray) : Nat × List PTok × Nat := lexF s s.size 0 1 []
theorem lexF_done (s : ByteArray) (f i line : Nat) (acc : List PTok) (h : s.size ≤ i) : lexF s f i line acc = (0,acc,line) := by
 cases f with
 | zero => rfl
 | succ f => simp [lexF,show ¬ i < s.size by omega]
theorem lexF_nl {s : ByteArray} {f i line : Nat} {acc : List PTok} (h : i < s.size) (hc : bAt s i = 10) : lexF s (f + 1) i line acc = lexF s f (i + 1) (line + 1) acc := by simp [lexF,h,hc]
theorem lexF_blank {s : ByteArray} {f i line : Nat} {acc : List PTok} (h : i < s.size) (hc : bAt s i = 32 ∨ bAt s i = 9) : lexF s (f + 1) i line acc = lexF s f (i + 1) line acc := by
 have : ¬ bAt s i = 10 := by rcases hc with h | h <;> rw [h] <;> decide
 simp [lexF,h,hc,this]
theorem lexF_rest {s : ByteArray} {f i line : Nat} {acc : List PTok} (h : i < s.size) (hc : bAt s i = 37) : lexF s (f + 1) i line acc = lexF s f (runTo notNl s i) line acc := by
 simp [lexF,h,hc]
theorem lexF_bad {s : ByteArray} {f i line : Nat} {acc : List PTok} (h : i < s.size) (h1 : ¬ bAt s i = 10) (h2 : ¬ (bAt s i = 32 ∨ bAt s i = 9)) (h3 : ¬ bAt s i = 37) (h4 : (tokAt s i).1 = 0) : lexF s (f + 1) i line acc = (line,[],line) := by
 simp only [lexF];rw [if_pos h,if_neg h1,if_neg h2,if_neg h3,if_pos h4]
theorem lexF_tok {s : ByteArray} {f i line : Nat} {acc : List PTok} (h : i < s.size) (h1 : ¬ bAt s i = 10) (h2 : ¬ (bAt s i = 32 ∨ bAt s i = 9)) (h3 : ¬ bAt s i = 37) (h4 : (tokAt s i).1 ≠ 0) : lexF s (f + 1) i line acc = lexF s f (tokAt s i).1 line (acc ++ [⟨s.extract i (tokAt s i).1,(tokAt s i).2,line⟩]) := by
 simp only [lexF];rw [if_pos h,if_neg h1,if_neg h2,if_neg h3,if_neg h4]
end
section
def hdB : List UInt8 → Int
 | [] => 256
 | c :: _ => (c.toNat : Int)
def runL (p : Int → Bool) (l : List UInt8) : Nat := (l.takeWhile fun c => p (c.toNat : Int)).length
def kwL (l : List UInt8) : Bool := l == [118,97,114] || l == [108,105,115,116] || l == [108,105,110] || l == [119,104,101,110] || l == [97,116] || l == [100,105,102,102] || l == [111,114]
def sgL (l : List UInt8) : Nat := if twoI (hdB l) (hdB l.tail) then 2 else if oneI (hdB l) then 1 else 0
def numL (l : List UInt8) : Bool := isDigI (hdB l) || (hdB l == 45 && isDigI (hdB l.tail))
def tokL (l : List UInt8) : Nat × Int :=
 if numL l then (if 10 < 1 + runL isDigI l.tail then (0,105) else (1 + runL isDigI l.tail,105))
 else if isLetI (hdB l) then (if 8 < 1 + runL isAlnI l.tail then (0,110) else (1 + runL isAlnI l.tail,if kwL (l.take (1 + runL isAlnI l.tail)) then 107 else 110))
 else if sgL l = 0 then (0,115) else (sgL l,115)
def mkTok (l : List UInt8) (kind : Int) (line : Nat) : PTok := ⟨⟨l.toArray⟩,kind,line⟩
def lexL : Nat → List UInt8 → Nat → List PTok → Nat × List PTok × Nat
 | 0,_,line,acc => (0,acc,line)
 | f + 1,l,line,acc =>
  if l.isEmpty then (0,acc,line)
  else if hdB l = 10 then lexL f l.tail (line + 1) acc
  else if hdB l = 32 ∨ hdB l = 9 then lexL f l.tail line acc
  else if hdB l = 37 then lexL f (l.drop (runL notNl l)) line acc
  else if (tokL l).1 = 0 then (line,[],line)
  else lexL f (l.drop (tokL l).1) line (acc ++ [mkTok (l.take (tokL l).1) (tokL l).2 line])
theorem ba_len (s : ByteArray) : s.size = s.data.toList.length := by
 show s.data.size = _
 exact Array.length_toList.symm
theorem bAt_hd (s : ByteArray) (i : Nat) : bAt s i = hdB (s.data.toList.drop i) := by
 unfold bAt
 have e : s.size = s.data.toList.length := ba_len s
 by_cases h : i < s.size
 ·rw [dif_pos h,List.drop_eq_getElem_cons (by rw [← e];exact h)]
  rfl
 ·rw [dif_neg h,List.drop_of_length_le (by omega)]
  rfl
theorem runF_L (p : Int → Bool) (s : ByteArray) : ∀ (f k : Nat),s.size - k ≤ f → k ≤ s.size → (f = s.size - k) → runF p s f k = k + runL p (s.data.toList.drop k)
 | 0,k,_,hk,hf => by
  have e : s.size = s.data.toList.length := ba_len s
  rw [List.drop_of_length_le (by omega)]
  rfl
 | f + 1,k,_,hk,hf => by
  have e : s.size = s.data.toList.length := ba_len s
  have hlt : k < s.data.toList.length := by omega
  simp only [runF]
  rw [bAt_hd,List.drop_eq_getElem_cons hlt]
  show (if p ((s.data.toList[k]).toNat : Int) = true then _ else _) = _
  by_cases c : p ((s.data.toList[k]).toNat : Int) = true
  ·rw [if_pos c,runF_L p s f (k + 1) (by omega) (by omega) (by omega)]
   simp only [runL,List.takeWhile_cons,c,if_true,List.length_cons]
   omega
  ·rw [if_neg c]
   have c' : p ((s.data.toList[k]).toNat : Int) = false := by simpa using c
   simp only [runL,List.takeWhile_cons,c',Bool.false_eq_true,if_false,List.length_nil,Nat.add_zero]
theorem runTo_L (p : Int → Bool) (s : ByteArray) (k : Nat) (h : k ≤ s.size) : runTo p s k = k + runL p (s.data.toList.drop k) := runF_L p s _ k (Nat.le_refl _) h rfl
theorem ext_data (s : ByteArray) (i j : Nat) : (s.extract i j).data.toList = (s.data.toList.drop i).take (j - i) := by
 rw [ByteArray.data_extract,Array.toList_extract,List.extract_eq_take_drop]
theorem ba_toList (s : ByteArray) : s.toList = s.data.toList := by
 have key : ∀ (n i : Nat) (r : List UInt8),s.size - i = n → ByteArray.toList.loop s i r = r.reverse ++ s.data.toList.drop i := by
  intro n
  induction n with
  | zero =>
   intro i r h
   unfold ByteArray.toList.loop
   have e : s.size = s.data.toList.length := ba_len s
   rw [if_neg (by omega),List.drop_of_length_le (by omega)]
   simp
  | succ n ih =>
   intro i r h
   unfold ByteArray.toList.loop
   have e : s.size = s.data.toList.length := ba_len s
   have hlt : i < s.data.toList.length := by omega
   rw [if_pos (by omega),ih (i + 1) _ (by omega),List.drop_eq_getElem_cons hlt]
   have : s.get! i = s.data.toList[i] := by
    have h2 : i < s.data.size := by simpa using hlt
    show s.data[i]! = _
    rw [Array.getElem!_eq_getD,Array.getD_eq_getD_getElem?,Array.getElem?_eq_getElem h2]
    simp
   rw [this]
   simp
 have := key _ 0 [] rfl
 simpa [ByteArray.toList] using this
theorem isKw_L (s : ByteArray) : isKw s = kwL s.data.toList := by unfold isKw kwL;rw [ba_toList]
theorem tokAt_L (s : ByteArray) (i : Nat) (h : i < s.size) : tokAt s i = (if (tokL (s.data.toList.drop i)).1 = 0 then 0 else i + (tokL (s.data.toList.drop i)).1,(tokL (s.data.toList.drop i)).2) := by
 have e1 : bAt s (i + 1) = hdB (s.data.toList.drop i).tail := by rw [bAt_hd,List.tail_drop]
 have e2 := runTo_L isDigI s (i + 1) h
 have e3 := runTo_L isAlnI s (i + 1) h
 rw [← List.tail_drop] at e2 e3
 unfold tokAt tokL isNum numL signLen sgL
 rw [e1,bAt_hd s i,e2,e3,isKw_L,ext_data]
 have a1 : ∀ r : Nat,i + 1 + r - i = 1 + r := fun r => by omega
 simp only [a1]
 repeat' split
 all_goals first | rfl | (simp_all <;> omega) | omega
theorem lexF_L (s : ByteArray) : ∀ (f i line : Nat) (acc : List PTok),lexF s f i line acc = lexL f (s.data.toList.drop i) line acc
 | 0,_,_,_ => rfl
 | f + 1,i,line,acc => by
  have e : s.size = s.data.toList.length := ba_len s
  simp only [lexF,lexL]
  by_cases h : i < s.size
  ·have h2 : (s.data.toList.drop i).isEmpty = false := by rw [List.drop_eq_getElem_cons (by omega)];rfl
   have hd1 : s.data.toList.drop (i + 1) = (s.data.toList.drop i).tail := by rw [List.tail_drop]
   rw [if_pos h,h2,bAt_hd,lexF_L s f,lexF_L s f,lexF_L s f,lexF_L s f,hd1,runTo_L _ _ _ (Nat.le_of_lt h),tokAt_L s i h]
   simp only [Bool.false_eq_true,if_false]
   split
   ·rfl
   ·split
    ·rfl
    ·split
     ·rw [List.drop_drop]
     ·by_cases h0 : (tokL (s.data.toList.drop i)).1 = 0
      ·simp [h0]
      ·simp only [if_neg h0]
       rw [if_neg (by omega),List.drop_drop]
       congr 3
       unfold mkTok
       congr 1
       have : (s.extract i (i + (tokL (s.data.toList.drop i)).1)).data = ((s.data.toList.drop i).take (tokL (s.data.toList.drop i)).1).toArray := by
        apply Array.toList_inj.1
        rw [ext_data]
        simp
       rw [← this]
  ·rw [if_neg h,List.drop_of_length_le (by omega)]
   rfl
theorem lex_L (s : ByteArray) : lex s = lexL s.data.toList.length s.data.toList 1 [] := by
 have e : s.size = s.data.toList.length := ba_len s
 unfold lex
 rw [lexF_L,e]
 rfl
theorem runNl_pos {l : List UInt8} (h : hdB l = 37) : 0 < runL notNl l := by
 cases l with
 | nil => cases h
 | cons a l =>
  have : notNl (a.toNat : Int) = true := by
   have h : (a.toNat : Int) = 37 := h
   rw [h];decide
  simp [runL,this]
theorem lexL_fuel : ∀ (f g : Nat) (l : List UInt8) (line : Nat) (acc : List PTok),l.length ≤ f → l.length ≤ g → lexL f l line acc = lexL g l line acc
 | 0,g,l,line,acc,hf,_ => by
  have : l = [] := List.length_eq_zero_iff.1 (by omega)
  subst this
  cases g <;> rfl
 | f + 1,0,l,line,acc,_,hg => by
  have : l = [] := List.length_eq_zero_iff.1 (by omega)
  subst this
  rfl
 | f + 1,g + 1,l,line,acc,hf,hg => by
  by_cases h0 : l = []
  ·subst h0;rfl
  have hp : 0 < l.length := List.length_pos_iff.2 h0
  have ht : l.tail.length + 1 = l.length := by simp;omega
  simp only [lexL]
  rw [lexL_fuel f g l.tail (line + 1) acc (by omega) (by omega),lexL_fuel f g l.tail line acc (by omega) (by omega)]
  split
  ·rfl
  ·split
   ·rfl
   ·split
    ·rfl
    ·split
     ·rename_i h3
      have := runNl_pos h3
      exact lexL_fuel f g _ line acc (by rw [List.length_drop];omega) (by rw [List.length_drop];omega)
     ·split
      ·rfl
      ·rename_i h4
       exact lexL_fuel f g _ line _ (by rw [List.length_drop];omega) (by rw [List.length_drop];omega)
def lexT (l : List UInt8) (line : Nat) (acc : List PTok) : Nat × List PTok × Nat := lexL l.length l line acc
theorem lexT_nil (line : Nat) (acc : List PTok) : lexT [] line acc = (0,acc,line) := rfl
theorem lexT_nl (l : List UInt8) (line : Nat) (acc : List PTok) : lexT (10 :: l) line acc = lexT l (line + 1) acc := rfl
theorem lexT_sp (l : List UInt8) (line : Nat) (acc : List PTok) : lexT (32 :: l) line acc = lexT l line acc := rfl
theorem lexT_tab (l : List UInt8) (line : Nat) (acc : List PTok) : lexT (9 :: l) line acc = lexT l line acc := rfl
theorem lexT_tok {t : List UInt8} {k : Int} {l : List UInt8} (line : Nat) (acc : List PTok) (ht : t ≠ []) (h0 : hdB t ≠ 10 ∧ hdB t ≠ 32 ∧ hdB t ≠ 9 ∧ hdB t ≠ 37) (h : tokL (t ++ l) = (t.length,k)) : lexT (t ++ l) line acc = lexT l line (acc ++ [mkTok t k line]) := by
 obtain ⟨c,t,rfl⟩ : ∃ c u,t = c :: u := by cases t with | nil => exact absurd rfl ht | cons c u => exact ⟨c,u,rfl⟩
 obtain ⟨a1,a2,a3,a4⟩ := h0
 have hh : hdB (c :: t ++ l) = hdB (c :: t) := rfl
 unfold lexT
 have hl : (c :: t ++ l).length = (t ++ l).length + 1 := rfl
 rw [hl]
 simp only [lexL]
 rw [if_neg (by simp),hh,if_neg a1,if_neg (fun q => q.elim a2 a3),if_neg a4,h,if_neg (by simp)]
 have e1 : (c :: t ++ l).drop (c :: t).length = l := List.drop_left
 have e2 : (c :: t ++ l).take (c :: t).length = c :: t := List.take_left
 rw [e1,e2]
 exact lexL_fuel _ _ l line _ (by simp) (Nat.le_refl _)
end
end Go.Proofs.YthpcbbnabnlanaaGreatDoor
