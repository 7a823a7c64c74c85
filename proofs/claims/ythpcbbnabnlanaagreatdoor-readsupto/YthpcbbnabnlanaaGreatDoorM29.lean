import Derived.Test.YthpcbbnabnlanaaGreatDoorM16
import Derived.Test.YthpcbbnabnlanaaGreatDoorM26
import Derived.Test.YthpcbbnabnlanaaGreatDoorM28
import Derived.Deep.LoopGhost
/-
  The plain mathematics between the two sides: the sense of statements, fault by fault.
-/
namespace Go.Proofs.YthpcbbnabnlanaaGreatDoor
set_option linter.unusedVariables false

theorem bytes_eq {a b : ByteArray} : a.toList = b.toList ↔ a = b := ⟨fun h => (bs_of a _ h).trans (bs_of b _ rfl).symm, fun h => by rw [h]⟩
theorem flt_or (a b : Bool) (k l : Int) (st : FSt) (hk : k ≠ 0) : flt (a || b) k l st = flt b k l (flt a k l st) := by
  obtain ⟨x, y⟩ := st
  unfold flt fKind fLine
  cases a <;> cases b <;> by_cases h : x = 0 <;> simp [h, hk]
theorem flt_zero {b : Bool} {k l : Int} {st : FSt} (hk : k ≠ 0) (h : (flt b k l st).1 = 0) : b = false ∧ st.1 = 0 := by
  obtain ⟨x, y⟩ := st
  unfold flt fKind fLine at h
  cases b
  · simpa using h
  · by_cases q : x = 0
    · simp [q] at h; exact absurd h hk
    · simp [q] at h
theorem flt_mono {b : Bool} {k l : Int} {st : FSt} (h : st.1 ≠ 0) : (flt b k l st).1 ≠ 0 := by
  obtain ⟨x, y⟩ := st
  simp only at h
  unfold flt fKind; simp [h]
theorem fold_mono {α : Type} {step : Nat → α → FSt → FSt} (hs : ∀ k a st, st.1 ≠ 0 → (step k a st).1 ≠ 0) : ∀ (l : List α) (k : Nat) (st : FSt), st.1 ≠ 0 → (foldSt step k l st).1 ≠ 0 := by
  intro l
  induction l with
  | nil => intro k st h; exact h
  | cons a l ih => intro k st h; exact ih _ _ (hs k a st h)
theorem findName_snoc (s a : ByteArray) (l : List ByteArray) : ∀ k : Nat, findName s (l ++ [a]) k = if 0 ≤ findName s l k then findName s l k else if a = s then ((k + l.length : Nat) : Int) else -1 := by
  induction l with
  | nil =>
    intro k
    simp only [List.nil_append, findName]
    by_cases h : a = s
    · subst h; simp
    · have : ¬ a.toList = s.toList := fun q => h (bytes_eq.1 q)
      simp [h, this]
  | cons b l ih =>
    intro k
    simp only [List.cons_append, findName]
    split
    · simp
    · rw [ih (k + 1)]
      simp only [List.length_cons]
      split
      · rfl
      · split
        · congr 1; omega
        · rfl
/-- a variable of the program's as the reference has it -/
def qP (v : QVar) : PVar := ⟨v.name, v.low, v.high⟩
/-- the model so far is the same on both sides -/
structure Inv (M : SMod) (q : QSt) : Prop where
  vars : q.vars.map qP = M.vars
  m : q.m = M.rules.length
  so : ∀ s, (q.g s).so = if 0 ≤ varX M.vars s then 4 else if 0 ≤ slstX M.lists s then 5 else 0
  pl : ∀ s, 0 ≤ varX M.vars s → (q.g s).pl = varX M.vars s ∧ ∃ v, M.vars[(varX M.vars s).toNat]? = some v ∧ (q.g s).lo = v.low ∧ (q.g s).hi = v.high
  apart : ∀ s, 0 ≤ varX M.vars s → slstX M.lists s < 0
variable {M : SMod} {q : QSt}
theorem Inv.so4 (h : Inv M q) (s : ByteArray) : ((q.g s).so != 4) = decide (varX M.vars s < 0) := by
  rw [h.so s]
  by_cases c : 0 ≤ varX M.vars s
  · rw [if_pos c]; simp; exact c
  · rw [if_neg c, decide_eq_true (by omega)]; split <;> decide
theorem Inv.so0 (h : Inv M q) (s : ByteArray) : ((q.g s).so != 0) = (decide (0 ≤ varX M.vars s) || decide (0 ≤ slstX M.lists s)) := by
  rw [h.so s]
  by_cases c : 0 ≤ varX M.vars s
  · rw [if_pos c, decide_eq_true c]; rfl
  · rw [if_neg c, decide_eq_false c]
    by_cases c' : 0 ≤ slstX M.lists s
    · rw [if_pos c', decide_eq_true c']; rfl
    · rw [if_neg c', decide_eq_false c']; rfl
theorem Inv.so5 (h : Inv M q) (s : ByteArray) : ((q.g s).so != 5) = decide (slstX M.lists s < 0) := by
  rw [h.so s]
  by_cases c : 0 ≤ varX M.vars s
  · rw [if_pos c, decide_eq_true (h.apart s c)]; rfl
  · rw [if_neg c]
    by_cases c' : 0 ≤ slstX M.lists s
    · rw [if_pos c', decide_eq_false (by omega)]; rfl
    · rw [if_neg c', decide_eq_true (by omega)]; rfl
theorem Inv.truth (h : Inv M q) (t : PTok) (st : FSt) : trSt M.vars t st = truthSt q.g t st := by
  unfold trSt truthKind truthLine truthSt
  rw [h.so4 t.s]
  have hs := h.so t.s
  by_cases c : 0 ≤ varX M.vars t.s
  · rw [if_neg (by omega), if_neg (by omega), decide_eq_false (by omega), flt_false]
    rw [if_pos c] at hs
    obtain ⟨-, v, hv, h1, h2⟩ := h.pl t.s c
    have e : noTruthT (thFind q.g t.s 4) = noTruth M.vars (varX M.vars t.s) := by
      unfold thFind noTruthT noTruth
      rw [if_pos hs, hv, h1, h2]
    rw [e]; rfl
  · rw [if_pos (by omega), if_pos (by omega), decide_eq_true (by omega)]
    have e : noTruthT (thFind q.g t.s 4) = false := by
      unfold thFind
      rw [if_neg]
      · rfl
      · rw [hs, if_neg c]; split <;> decide
    rw [e, flt_false]; rfl
theorem tval_int {t : PTok} (h : t.kind = 105) : tval t = intVal t.s := by unfold tval; rw [if_pos h]
theorem kwSort_bd (s : ByteArray) : kwSort s = 2 ∨ 4 ≤ kwSort s := by
  unfold kwSort
  repeat' split
  all_goals decide
theorem srt_int {t : PTok} (h : srt t = 3) : t.kind = 105 := by
  unfold srt at h
  by_cases c : t.kind = 105
  · exact c
  · rw [if_neg c] at h
    by_cases c2 : t.kind = 115
    · rw [if_pos c2] at h
      by_cases z : sgSort t.s = 0
      · omega
      · have := sgSort_of t.s z; omega
    · rw [if_neg c2] at h
      split at h
      · omega
      · have := kwSort_bd t.s; omega
theorem lt_shift (n k : Nat) : decide ((n : Int) < ((k + 1 : Nat) : Int)) = decide ((n : Int) ≤ (k : Int)) := decide_eq_decide.2 (by omega)
theorem terms_alike (h : Inv M q) : ∀ (ts : List GTerm) (k : Nat) (st : FSt), (∀ t ∈ ts, srt t.first ≠ 3 → t.first = t.name) → termsSt M.vars (k + 1) (ts.map gP) st = foldSt (termStP q.g) k ts st := by
  intro ts
  induction ts with
  | nil => intro k st _; rfl
  | cons t ts ih =>
    intro k st ht
    simp only [List.map_cons, termsSt, foldSt]
    rw [ih (k + 1) _ (fun a ha => ht a (by simp [ha]))]
    congr 1
    unfold termSt termStP facSt gP
    simp only
    rw [h.so4]
    have e8 : decide ((8 : Int) < ((k + 1 : Nat) : Int)) = decide ((8 : Int) ≤ (k : Int)) := lt_shift 8 k
    by_cases c : srt t.first = 3
    · simp only [c, if_true]
      rw [tval_int (srt_int c), e8]
    · simp only [c, if_false]
      rw [e8, ht t (by simp) c]
theorem names_alike (h : Inv M q) : ∀ (ts : List PTok) (k : Nat) (st : FSt), namesSt M.vars (k + 1) ts st = foldSt (varStP q.g) k ts st := by
  intro ts
  induction ts with
  | nil => intro k st; rfl
  | cons t ts ih =>
    intro k st
    simp only [namesSt, foldSt]
    rw [ih (k + 1) _]
    congr 1
    unfold nameSt varStP
    rw [h.so4, show decide ((8 : Int) < ((k + 1 : Nat) : Int)) = decide ((8 : Int) ≤ (k : Int)) from lt_shift 8 k]
theorem lits_alike (h : Inv M q) : ∀ (ts : List GLit) (k : Nat) (st : FSt), (∀ t ∈ ts, srt t.first ≠ 22 → t.first = t.name) → litsSt M.vars (k + 1) (ts.map gL) st = foldSt (litStP q.g) k ts st := by
  intro ts
  induction ts with
  | nil => intro k st _; rfl
  | cons t ts ih =>
    intro k st ht
    simp only [List.map_cons, litsSt, foldSt]
    rw [ih (k + 1) _ (fun a ha => ht a (by simp [ha]))]
    congr 1
    unfold litSt
    rw [h.truth]
    have e8 : decide ((8 : Int) < ((k + 1 : Nat) : Int)) = decide ((8 : Int) ≤ (k : Int)) := lt_shift 8 k
    have eh : (gL t).head = t.first := by
      unfold PLit.head gL
      by_cases c : srt t.first = 22
      · simp [c]
      · simp [c]; exact (ht t (by simp) c).symm
    rw [e8, eh]
    rfl
theorem nums_alike : ∀ (ts : List PTok) (k : Nat) (st : FSt), (∀ t ∈ ts, t.kind = 105) → numsSt (k + 1) ts st = foldSt numStP k ts st := by
  intro ts
  induction ts with
  | nil => intro k st _; rfl
  | cons t ts ih =>
    intro k st ht
    simp only [numsSt, foldSt]
    rw [ih (k + 1) _ (fun a ha => ht a (by simp [ha]))]
    congr 1
    unfold numSt numStP
    rw [tval_int (ht t (by simp)), show decide ((20 : Int) < ((k + 1 : Nat) : Int)) = decide ((20 : Int) ≤ (k : Int)) from lt_shift 20 k]

/-- a statement's faults are the same -/
theorem step_alike (h : Inv M q) {g : GSt} (hg : GOk g) : stSt M (gS g) q.st = (qStep g q).st := by
  obtain ⟨k, hk⟩ : ∃ k, srt g.kw = k := ⟨_, rfl⟩
  have h4 := hg.k4
  have h10 := hg.k10
  have hcs : k = 4 ∨ k = 5 ∨ k = 6 ∨ k = 7 ∨ k = 8 ∨ k = 9 ∨ k = 10 := by omega
  rcases hcs with rfl | rfl | rfl | rfl | rfl | rfl | rfl
  · obtain ⟨lo, hi, e, k1, k2⟩ := hg.n4 hk
    unfold qStep stSt gS
    simp only [hk, e, if_true, List.getD_cons_zero, List.getD_cons_succ]
    unfold varDecl
    rw [h.so0, tval_int k1, tval_int k2, ← h.vars, List.length_map]
    exact flt_or _ _ _ _ _ (by decide)
  · unfold qStep stSt gS
    simp only [hk, if_true, show ¬ (5 : Int) = 4 by decide, if_false]
    rw [h.so0]
    exact nums_alike _ 0 _ (hg.n5 hk)
  · obtain ⟨N, e, k1⟩ := hg.n6 (.inl hk)
    unfold qStep stSt gS conSt qLinSt
    simp only [hk, e, show ¬ (6 : Int) = 4 by decide, show ¬ (6 : Int) = 5 by decide, show ¬ (6 : Int) = 7 by decide, show ¬ (6 : Int) = 8 by decide, show ¬ (6 : Int) = 9 by decide, show ¬ (6 : Int) = 10 by decide, if_false, List.getD_cons_zero]
    rw [tval_int k1, ← terms_alike h _ 0 _ hg.tm, h.m]
    rfl
  · obtain ⟨N, e, k1⟩ := hg.n6 (.inr hk)
    unfold qStep stSt gS conSt qLinSt
    simp only [hk, e, show ¬ (7 : Int) = 4 by decide, show ¬ (7 : Int) = 5 by decide, show ¬ (7 : Int) = 8 by decide, if_false, if_true, List.getD_cons_zero]
    rw [tval_int k1, ← terms_alike h _ 0 _ hg.tm, h.m, ← h.truth]
    rfl
  · obtain ⟨A, B, e⟩ := hg.n8 hk
    unfold qStep stSt gS conSt
    simp only [hk, e, show ¬ (8 : Int) = 4 by decide, show ¬ (8 : Int) = 5 by decide, show ¬ (8 : Int) = 7 by decide, if_false, if_true, List.getD_cons_zero, List.getD_cons_succ]
    rw [h.so4, h.so4, h.so5, h.m]
    rfl
  · unfold qStep stSt gS conSt
    simp only [hk, show ¬ (9 : Int) = 4 by decide, show ¬ (9 : Int) = 5 by decide, show ¬ (9 : Int) = 7 by decide, show ¬ (9 : Int) = 8 by decide, if_false, if_true]
    rw [← names_alike h, h.m]
    rfl
  · unfold qStep stSt gS conSt
    simp only [hk, show ¬ (10 : Int) = 4 by decide, show ¬ (10 : Int) = 5 by decide, show ¬ (10 : Int) = 7 by decide, show ¬ (10 : Int) = 8 by decide, show ¬ (10 : Int) = 9 by decide, if_false, if_true]
    rw [← lits_alike h _ 0 _ hg.lt, h.m]
    rfl
end Go.Proofs.YthpcbbnabnlanaaGreatDoor

/-
  The plain mathematics between the two sides, whole: of a text, both find the same fault, or the same variables.
-/
namespace Go.Proofs.YthpcbbnabnlanaaGreatDoor
set_option linter.unusedVariables false
variable {M : SMod} {q : QSt}

theorem varX_snoc (vars : List PVar) (v : PVar) (s : ByteArray) : varX (vars ++ [v]) s = if 0 ≤ varX vars s then varX vars s else if v.name = s then (vars.length : Int) else -1 := by
  unfold varX namesOf
  rw [List.map_append, List.map_cons, List.map_nil, findName_snoc]
  simp
theorem slstX_snoc (lists : List SLst) (v : SLst) (s : ByteArray) : slstX (lists ++ [v]) s = if 0 ≤ slstX lists s then slstX lists s else if v.name = s then (lists.length : Int) else -1 := by
  unfold slstX
  rw [List.map_append, List.map_cons, List.map_nil, findName_snoc]
  simp
theorem varX_lt (vars : List PVar) (s : ByteArray) : varX vars s < vars.length := by
  have := (findName_bd s (namesOf vars) 0).2.1
  unfold varX; simp [namesOf] at this ⊢; exact this
theorem num_mono (k : Nat) (t : PTok) (st : FSt) (h : st.1 ≠ 0) : (numStP k t st).1 ≠ 0 := flt_mono (flt_mono h)
/-- a statement without a fault: the model is the same behind it -/
theorem step_inv (h : Inv M q) {g : GSt} (hg : GOk g) (h0 : (qStep g q).st.1 = 0) : Inv (stMod M (gS g)) (qStep g q) := by
  obtain ⟨k, hk⟩ : ∃ k, srt g.kw = k := ⟨_, rfl⟩
  have h4 := hg.k4
  have h10 := hg.k10
  have hcs : k = 4 ∨ k = 5 ∨ k = 6 ∨ k = 7 ∨ k = 8 ∨ k = 9 ∨ k = 10 := by omega
  have con : ∀ r : SRul, ∀ st : FSt, Inv { M with rules := M.rules ++ [r] } ⟨q.g, q.vars, q.m + 1, st⟩ := fun r st => ⟨h.vars, by simp [h.m], h.so, h.pl, h.apart⟩
  rcases hcs with rfl | rfl | rfl | rfl | rfl | rfl | rfl
  · obtain ⟨lo, hi, e, k1, k2⟩ := hg.n4 hk
    unfold qStep at h0 ⊢
    unfold stMod gS
    simp only [hk, e, if_true, List.getD_cons_zero, List.getD_cons_succ] at h0 ⊢
    unfold varDecl at h0
    have f1 := flt_zero (by decide) h0
    have f2 := flt_zero (by decide) f1.2
    have f3 := flt_zero (by decide) f2.2
    have f4 := flt_zero (by decide) f3.2
    have hd := f4.1
    rw [h.so0] at hd
    simp only [Bool.or_eq_false_iff, decide_eq_false_iff_not] at hd
    have hlen : M.vars.length = q.vars.length := by rw [← h.vars, List.length_map]
    refine ⟨?_, h.m, fun s => ?_, fun s hs => ?_, fun s hs => ?_⟩
    · show (q.vars ++ [_]).map qP = _
      rw [List.map_append, h.vars, tval_int k1, tval_int k2]; rfl
    · show (putTh q.g g.name.s _ s).so = if 0 ≤ varX (M.vars ++ [_]) s then 4 else if 0 ≤ slstX M.lists s then 5 else 0
      rw [varX_snoc]
      unfold putTh
      by_cases c : s = g.name.s
      · rw [if_pos c, c, if_neg hd.1, if_pos rfl, if_pos (by omega)]
      · rw [if_neg c, h.so s]
        by_cases c' : 0 ≤ varX M.vars s
        · simp [c']
        · have : ¬ g.name.s = s := fun q => c q.symm
          simp [c', this]
    · change 0 ≤ varX (M.vars ++ [_]) s at hs
      show (putTh q.g g.name.s _ s).pl = varX (M.vars ++ [_]) s ∧ ∃ v, (M.vars ++ [_])[(varX (M.vars ++ [_]) s).toNat]? = some v ∧ (putTh q.g g.name.s _ s).lo = v.low ∧ (putTh q.g g.name.s _ s).hi = v.high
      rw [varX_snoc] at hs ⊢
      unfold putTh
      by_cases c : s = g.name.s
      · rw [if_pos c]
        rw [c, if_neg hd.1, if_pos rfl] at hs ⊢
        refine ⟨by simp only; omega, ⟨g.name.s, intVal lo.s, intVal hi.s⟩, ?_, tval_int k1, tval_int k2⟩
        rw [Int.toNat_natCast, List.getElem?_append_right (Nat.le_refl _)]; simp
      · rw [if_neg c]
        have hne : ¬ g.name.s = s := fun q => c q.symm
        by_cases c' : 0 ≤ varX M.vars s
        · rw [if_pos c'] at hs ⊢
          obtain ⟨p1, v, p2, p3, p4⟩ := h.pl s c'
          refine ⟨p1, v, ?_, p3, p4⟩
          have hlt : (varX M.vars s).toNat < M.vars.length := (List.getElem?_eq_some_iff.1 p2).1
          rw [List.getElem?_append_left hlt, p2]
        · rw [if_neg c', if_neg hne] at hs; omega
    · change 0 ≤ varX (M.vars ++ [_]) s at hs
      show slstX M.lists s < 0
      rw [varX_snoc] at hs
      by_cases c' : 0 ≤ varX M.vars s
      · exact h.apart s c'
      · rw [if_neg c'] at hs
        by_cases c : g.name.s = s
        · rw [← c]; omega
        · rw [if_neg c] at hs; omega
  · unfold qStep at h0 ⊢
    unfold stMod gS
    simp only [hk, if_true, show ¬ (5 : Int) = 4 by decide, if_false] at h0 ⊢
    have f1 : (flt ((q.g g.name.s).so != 0) 4 (↑g.name.line) q.st).1 = 0 := by
      by_cases c : (flt ((q.g g.name.s).so != 0) 4 (↑g.name.line) q.st).1 = 0
      · exact c
      · exact absurd h0 (fold_mono num_mono _ 0 _ c)
    have hd := (flt_zero (by decide) f1).1
    rw [h.so0] at hd
    simp only [Bool.or_eq_false_iff, decide_eq_false_iff_not] at hd
    refine ⟨h.vars, h.m, fun s => ?_, fun s hs => ?_, fun s hs => ?_⟩
    · show (putTh q.g g.name.s _ s).so = if 0 ≤ varX M.vars s then 4 else if 0 ≤ slstX (M.lists ++ [_]) s then 5 else 0
      rw [slstX_snoc]
      unfold putTh
      by_cases c : s = g.name.s
      · rw [if_pos c, c, if_neg hd.1, if_neg hd.2, if_pos rfl, if_pos (by omega)]
      · rw [if_neg c, h.so s]
        by_cases c' : 0 ≤ slstX M.lists s
        · simp [c']
        · have : ¬ g.name.s = s := fun q => c q.symm
          simp [c', this]
    · change 0 ≤ varX M.vars s at hs
      have c : ¬ s = g.name.s := fun e => hd.1 (by rw [← e]; exact hs)
      show (putTh q.g g.name.s _ s).pl = varX M.vars s ∧ ∃ v, M.vars[(varX M.vars s).toNat]? = some v ∧ (putTh q.g g.name.s _ s).lo = v.low ∧ (putTh q.g g.name.s _ s).hi = v.high
      unfold putTh
      rw [if_neg c]
      exact h.pl s hs
    · change 0 ≤ varX M.vars s at hs
      show slstX (M.lists ++ [_]) s < 0
      have c : ¬ g.name.s = s := fun e => hd.1 (by rw [e]; exact hs)
      have := h.apart s hs
      rw [slstX_snoc, if_neg (by omega), if_neg c]; omega
  · unfold qStep stMod gS; simp only [hk, show ¬ (6 : Int) = 4 by decide, show ¬ (6 : Int) = 5 by decide, if_false]; exact con _ _
  · unfold qStep stMod gS; simp only [hk, show ¬ (7 : Int) = 4 by decide, show ¬ (7 : Int) = 5 by decide, if_false]; exact con _ _
  · unfold qStep stMod gS; simp only [hk, show ¬ (8 : Int) = 4 by decide, show ¬ (8 : Int) = 5 by decide, if_false]; exact con _ _
  · unfold qStep stMod gS; simp only [hk, show ¬ (9 : Int) = 4 by decide, show ¬ (9 : Int) = 5 by decide, if_false]; exact con _ _
  · unfold qStep stMod gS; simp only [hk, show ¬ (10 : Int) = 4 by decide, show ¬ (10 : Int) = 5 by decide, if_false]; exact con _ _
theorem runS_stop (ss : List RSt) (M : SMod) (st : FSt) (h : st.1 ≠ 0) : runS ss M st = (M, st) := by
  cases ss with
  | nil => rfl
  | cons s ss => simp only [runS]; rw [if_neg h]
theorem run_alike (gs : List GSt) : ∀ {M : SMod} {q : QSt}, Inv M q → q.st.1 = 0 → (∀ g ∈ gs, GOk g) → (runS (gs.map gS) M q.st).2 = (runQ gs q).st ∧ ((runQ gs q).st.1 = 0 → Inv (runS (gs.map gS) M q.st).1 (runQ gs q)) := by
  induction gs with
  | nil => intro M q h _ _; exact ⟨rfl, fun _ => h⟩
  | cons g gs ih =>
    intro M q h h0 hg
    have ha := step_alike h (hg g (by simp))
    simp only [List.map_cons, runS, runQ]
    rw [if_pos h0, ha]
    by_cases c : (qStep g q).st.1 = 0
    · rw [if_pos c]
      exact ih (step_inv h (hg g (by simp)) c) c (fun a ha => hg a (by simp [ha]))
    · rw [if_neg c, runS_stop _ _ _ c]
      exact ⟨rfl, fun q => absurd q c⟩
theorem inv0 : Inv ⟨[], [], []⟩ q0 := ⟨rfl, rfl, fun s => rfl, fun s h => by simp [varX, namesOf, findName] at h, fun s h => by simp [varX, namesOf, findName] at h⟩

theorem cut_of (s : ByteArray) : Cut2 (lex s).2.1 (lex s).2.2 := ⟨⟨lex_kind s, lex_line s, lexF_line1 s s.size 0 1 []⟩, lex_int s⟩
theorem line_of (s : ByteArray) (hl : (lex s).1 = 0) (R : Int) : formLine s R = flN (lex s).2.2 R := by
  have h := lexF_last s s.size 0 1 [] (by omega) (by omega) (by simp [nlTo]) hl (by omega) (fun k hk => tokAtSize s k hk)
  have e : (lex s).2.2 = 1 + nlTo s s.size := h
  unfold formLine flN
  rw [e]; simp
/-- a text's statements, as the program reads them -/
def gsOf (s : ByteArray) : List GSt := (pParse (progToks s)).1
/-- the model that the reference makes of it -/
def modOf (s : ByteArray) : SMod := (runS ((gsOf s).map gS) ⟨[], [], []⟩ (0, 0)).1
/-- a fault of form: the same line -/
theorem form_bad (s : ByteArray) (hs : s.size ≤ 2000) (hl : (lex s).1 = 0) (h : (pParse (progToks s)).2.2 ≠ 0) :
    ∃ k R, k ≤ 1000000 ∧ formF k [yModel] (lex s).2.1 = some R ∧ R ≠ 0 ∧ formLine s R = (pParse (progToks s)).2.2 := by
  have hn := lex_len s
  obtain ⟨k, R, hk, hR, hE⟩ := form_parse (cut_of s).toCut (by omega)
  rcases hE with ⟨e, _⟩ | ⟨e, hr, hf⟩
  · exact absurd e h
  · exact ⟨k, R, hk, hR, hr, (line_of s hl R).trans hf⟩
/-- no fault of form: the statements, and their sense -/
theorem form_ok (s : ByteArray) (hs : s.size ≤ 2000) (hl : (lex s).1 = 0) (h : (pParse (progToks s)).2.2 = 0) :
    (∃ k, k ≤ 1000000 ∧ formF k [yModel] (lex s).2.1 = some 0) ∧ StsAt (lex s).2.1 0 ((gsOf s).map gS) (lex s).2.1.length ∧ (runS ((gsOf s).map gS) ⟨[], [], []⟩ (0, 0)).2 = (runQ (gsOf s) q0).st ∧ ((runQ (gsOf s) q0).st.1 = 0 → Inv (modOf s) (runQ (gsOf s) q0)) := by
  have hn := lex_len s
  obtain ⟨k, R, hk, hR, hE⟩ := form_parse (cut_of s).toCut (by omega)
  obtain ⟨h1, h2⟩ := parse_at (cut_of s) h
  obtain ⟨h3, h4⟩ := run_alike (gsOf s) inv0 rfl h2
  rcases hE with ⟨e, rfl⟩ | ⟨e, hr, hf⟩
  · exact ⟨⟨k, hk, hR⟩, h1, h3, h4⟩
  · exact absurd h e
end Go.Proofs.YthpcbbnabnlanaaGreatDoor

/-
  The program's Check: the rules, Fine and 0; or the first fault's kind and line.
-/
namespace Go.Proofs.YthpcbbnabnlanaaGreatDoor
open Go.RowKit
set_option linter.unusedVariables false
variable {w : World}

theorem grow_cells (x : GRow) : x.cells = (gsCells x.s x.vn x.vu x.vt x.vl).toList := rfl
/-- what stands at a round's head -/
def CheckRel (l : List GRow) (gr cap : Nat) (RES : QSt) (w : World) (m : Nat) (vi : Value) (wr : World) : Prop :=
  ∃ (i : Nat) (q : QSt), i ≤ l.length ∧ m = l.length - i ∧ vi = .int .i64 i ∧ q.st.1 = 0 ∧ Hid (runQ ((l.drop i).map (·.s)) q = RES) ∧ Sen wr (w.heap.size + 1) w.heap.size (w.heap.size + 2) i q ∧
    RowIn wr (.slice (some ⟨gr, 0, none⟩) l.length cap) gr cap GRow.cells l ∧ (∀ x ∈ l, GIn wr (w.heap.size + 2) (w.heap.size + 1) w.heap.size x) ∧ w.grownBy wr none
theorem cell_len (x : GRow) : x.cells.length = 16 := rfl
theorem Fr.grown {B bc bm : Nat} {a b c : World} (h : a.grownBy b none) (hc : a.heap.size ≤ bc) (hm : a.heap.size ≤ bm) (hB : a.heap.size ≤ B) (k : Fr B bc bm b c) : a.grownBy c none :=
  ⟨k.os.trans h.os, k.tape.trans h.tape, k.output.trans h.output, Nat.le_trans h.size k.size, fun i hi hn => (k.block i (by omega) (by omega) (by omega)).trans (h.block i hi hn)⟩

theorem Sen.alloc {bc bm B k : Nat} {q : QSt} (h : Sen w bc bm B k q) (o : Obj) : Sen (w.alloc o) bc bm B k q := by
  obtain ⟨n, g, vV, vC, xs, hC, eg, hv, hoV, hoC, b1, b2, b3, hc, hm, hB⟩ := h
  exact ⟨n, g, vV, vC, xs, hC.alloc o, eg, hv, hoV.alloc o, hoC.alloc o, b1, b2, b3, hc, hm, by simp; omega⟩
theorem Sen.size {bc bm B k : Nat} {q : QSt} (h : Sen w bc bm B k q) : B ≤ w.heap.size := by
  obtain ⟨n, g, vV, vC, xs, hC, eg, hv, hoV, hoC, b1, b2, b3, hc, hm, hB⟩ := h
  exact hB
theorem Sen.cells {bc bm B k : Nat} {q : QSt} (h : Sen w bc bm B k q) : w.cell? ⟨bc, 3, none⟩ = some (.int .i64 q.st.1) ∧ w.cell? ⟨bc, 4, none⟩ = some (.int .i64 q.st.2) := by
  obtain ⟨n, g, vV, vC, xs, hC, eg, hv, hoV, hoC, b1, b2, b3, hc, hm, hB⟩ := h
  exact ⟨hC.c3, hC.c4⟩
theorem sen_start (w : World) : Sen ((w.alloc (.map #[] 0)).alloc (.cells #[.map (some w.heap.size), .slice none 0 0, .slice none 0 0, .int .i64 0, .int .i64 0] 142)) (w.heap.size + 1) w.heap.size (w.heap.size + 2) 0 q0 := by
  have hB := heap_alloc2_new w (.map #[] 0) (.cells #[.map (some w.heap.size), .slice none 0 0, .slice none 0 0, .int .i64 0, .int .i64 0] 142)
  refine ⟨0, fun _ => noTh, .slice none 0 0, .slice none 0 0, [], ⟨cell_of hB 0 _ rfl, cell_of hB 1 _ rfl, cell_of hB 2 _ rfl, cell_of hB 3 _ rfl, cell_of hB 4 _ rfl, frozen_of hB 1, frozen_of hB 2, frozen_of hB 3, frozen_of hB 4, by simp, ?_, by simp; omega, by omega⟩, rfl, fun s => ⟨_, _, _, rfl⟩, World.ownsRow_nil _ _ _ _, World.ownsRow_nil _ _ _ _, Nat.le_refl _, Nat.le_refl _, Nat.le_refl _, by omega, by omega, by simp⟩
  exact ⟨.map [], (World.ownsMap_made w Tryz.prog 9 heldV).alloc _, ⟨[], rfl⟩, fun s => rfl⟩
theorem rin_start {α : Type} {v : Value} {cell : α → List Value} {l : List α} {o o' : Obj} (h : RIn w w.heap.size w.heap.size w.heap.size v cell l) : RIn ((w.alloc o).alloc o') (w.heap.size + 2) (w.heap.size + 1) w.heap.size v cell l :=
  ⟨h.1, fun hl => by
    obtain ⟨gr, cap, hr, h1, h2, h3⟩ := h.2 hl
    exact ⟨gr, cap, (hr.kept (World.grownBy_alloc w o none) (by simp)).kept (World.grownBy_alloc _ o' none) (by simp), by omega, by omega, by omega⟩⟩
theorem gin_start {x : GRow} {o o' : Obj} (h : GIn w w.heap.size w.heap.size w.heap.size x) : GIn ((w.alloc o).alloc o') (w.heap.size + 2) (w.heap.size + 1) w.heap.size x := ⟨rin_start h.n, rin_start h.u, rin_start h.t, rin_start h.l⟩

set_option maxRecDepth 100000 in
set_option maxHeartbeats 4000000 in
theorem sn_Check (l : List GRow) (v1 : Value) (gr cap : Nat) (hR : RowIn w v1 gr cap GRow.cells l) (hl : l.length ≤ 2500) (hin : ∀ x ∈ l, GIn w w.heap.size w.heap.size w.heap.size x) (hok : ∀ x ∈ l, StOk x.s) :
    Calls Tryz.prog 45 #[v1] w fun e w' =>
      (((runQ (l.map (·.s)) q0).st.1 ≠ 0 ∧ e = .returned (.tuple #[.pointer none, .int .i64 (runQ (l.map (·.s)) q0).st.1, .int .i64 (runQ (l.map (·.s)) q0).st.2])) ∨
       ((runQ (l.map (·.s)) q0).st.1 = 0 ∧ e = .returned (.tuple #[.pointer (some ⟨w.heap.size + 1, 1, none⟩), .int .i64 0, .int .i64 0]) ∧ Sen w' (w.heap.size + 1) w.heap.size (w.heap.size + 2) l.length (runQ (l.map (·.s)) q0))) ∧ w.grownBy w' none := by
  have HR : Hid (RowIn w v1 gr cap GRow.cells l) := hR
  have HIN : Hid (∀ x ∈ l, GIn w w.heap.size w.heap.size w.heap.size x) := hin
  have HOK : Hid (∀ x ∈ l, StOk x.s) := hok
  have hgl := hR.lt
  obtain ⟨RES, hRES⟩ : ∃ R, R = runQ (l.map (·.s)) q0 := ⟨_, rfl⟩
  have HS : Hid (runQ ((l.drop 0).map (·.s)) q0 = RES) := by rw [Hid, hRES]; rfl
  rw [← hRES]
  obtain rfl := hR.is
  clear hR hin hok hRES
  have hmk : (Instr.makeMap 140 none).run Tryz.prog w = .ok (.map (some w.heap.size)) (w.alloc (.map #[] 0)) := rfl
  go_enter Tryz.func45, Tryz.ntmps45
  go_wp2
  go_loopg [12] l.length (fun m vi wr => CheckRel l gr cap RES w m vi wr)
  case atStart => exact ⟨0, q0, Nat.zero_le _, rfl, rfl, rfl, HS, sen_start w, (HR.out.kept (World.grownBy_alloc w _ none) (by simp)).kept (World.grownBy_alloc _ _ none) (by simp), fun x hx => gin_start (HIN.out x hx), (World.grownBy_alloc _ _ _).trans (World.grownBy_alloc _ _ _)⟩
  case round =>
    obtain ⟨i, q, hi, rfl, rfl, hq0, hlex, hS, hR, hin, hgr⟩ := hrel
    by_cases hlt : i < l.length
    · obtain ⟨x, ha⟩ : ∃ a, l[i]? = some a := ⟨l[i], by simp [hlt]⟩
      have hmem := List.mem_of_getElem? ha
      have hx := hin x hmem
      obtain ⟨na, nm, nc, en⟩ := hx.n.1
      obtain ⟨ua, um, uc, eu⟩ := hx.u.1
      obtain ⟨ta, tm, tc, et⟩ := hx.t.1
      obtain ⟨la, lm, lc, el⟩ := hx.l.1
      have c0 : wr.cell? ⟨gr, i * 16, none⟩ = some (.int .i64 (srt x.s.kw)) := hR.at (sz := 16) cell_len ha 0 _ rfl
      have c1 : wr.cell? ⟨gr, i * 16 + 1, none⟩ = some (.string x.s.kw.s) := hR.at (sz := 16) cell_len ha 1 _ rfl
      have c2 : wr.cell? ⟨gr, i * 16 + 2, none⟩ = some (.int .i64 (tval x.s.kw)) := hR.at (sz := 16) cell_len ha 2 _ rfl
      have c3 : wr.cell? ⟨gr, i * 16 + 3, none⟩ = some (.int .i64 x.s.kw.line) := hR.at (sz := 16) cell_len ha 3 _ rfl
      have c4 : wr.cell? ⟨gr, i * 16 + 4, none⟩ = some (.int .i64 (srt x.s.name)) := hR.at (sz := 16) cell_len ha 4 _ rfl
      have c5 : wr.cell? ⟨gr, i * 16 + 5, none⟩ = some (.string x.s.name.s) := hR.at (sz := 16) cell_len ha 5 _ rfl
      have c6 : wr.cell? ⟨gr, i * 16 + 6, none⟩ = some (.int .i64 (tval x.s.name)) := hR.at (sz := 16) cell_len ha 6 _ rfl
      have c7 : wr.cell? ⟨gr, i * 16 + 7, none⟩ = some (.int .i64 x.s.name.line) := hR.at (sz := 16) cell_len ha 7 _ rfl
      have c8 : wr.cell? ⟨gr, i * 16 + 8, none⟩ = some (.slice na nm nc) := by rw [← en]; exact hR.at (sz := 16) cell_len ha 8 _ rfl
      have c9 : wr.cell? ⟨gr, i * 16 + 9, none⟩ = some (.slice ua um uc) := by rw [← eu]; exact hR.at (sz := 16) cell_len ha 9 _ rfl
      have c10 : wr.cell? ⟨gr, i * 16 + 10, none⟩ = some (.slice ta tm tc) := by rw [← et]; exact hR.at (sz := 16) cell_len ha 10 _ rfl
      have c11 : wr.cell? ⟨gr, i * 16 + 11, none⟩ = some (.int .i64 (srt x.s.rel)) := hR.at (sz := 16) cell_len ha 11 _ rfl
      have c12 : wr.cell? ⟨gr, i * 16 + 12, none⟩ = some (.string x.s.rel.s) := hR.at (sz := 16) cell_len ha 12 _ rfl
      have c13 : wr.cell? ⟨gr, i * 16 + 13, none⟩ = some (.int .i64 (tval x.s.rel)) := hR.at (sz := 16) cell_len ha 13 _ rfl
      have c14 : wr.cell? ⟨gr, i * 16 + 14, none⟩ = some (.int .i64 x.s.rel.line) := hR.at (sz := 16) cell_len ha 14 _ rfl
      have c15 : wr.cell? ⟨gr, i * 16 + 15, none⟩ = some (.slice la lm lc) := by rw [← el]; exact hR.at (sz := 16) cell_len ha 15 _ rfl
      have hBw : w.heap.size + 2 ≤ wr.heap.size := hS.size
      have K := Kept.mk (fun o => sn_one (hS.alloc o) (by omega) x (hx.fr ((Fr.refl _ _ _ wr).alloc hBw o)) (HOK.out x hmem))
      rw [en, eu, et, el] at K
      have hlt3 : (i : Int) < l.length := by omega
      have h03 : (0 : Int) ≤ i := by omega
      have hstep : Hid (runQ ((l.drop i).map (·.s)) q = if (qStep x.s q).st.1 = 0 then runQ ((l.drop (i + 1)).map (·.s)) (qStep x.s q) else qStep x.s q) := by
        have hx' : l[i] = x := (List.getElem?_eq_some_iff.1 ha).2
        rw [Hid, List.drop_eq_getElem_cons hlt, hx']; rfl
      have hnext : Hid (∀ (w1 : World) (o : Obj), Fr (w.heap.size + 2) (w.heap.size + 1) w.heap.size (wr.alloc o) w1 → RowIn w1 (.slice (some ⟨gr, 0, none⟩) l.length cap) gr cap GRow.cells l ∧ (∀ x ∈ l, GIn w1 (w.heap.size + 2) (w.heap.size + 1) w.heap.size x) ∧ w.grownBy w1 none) := fun w1 o hf => by
        have f2 := ((Fr.refl (w.heap.size + 2) (w.heap.size + 1) w.heap.size wr).alloc hBw o).trans hf
        refine ⟨⟨hR.is, fun j u hu => (World.cell?_of_block (a := ⟨gr, j, none⟩) (f2.block gr (by omega) (by omega) (by omega))).trans (hR.row j u hu), Nat.lt_of_lt_of_le hR.lt f2.size⟩, fun x hx => (hin x hx).fr f2, f2.grown hgr (by omega) (by omega) (by omega)⟩
      generalize qStep x.s q = q' at *
      unfold gsCells at K
      by_cases hz : q'.st.1 = 0
      · have hl : Hid (runQ ((l.drop (i + 1)).map (·.s)) q' = RES) := by rw [Hid, ← hlex.out, hstep.out, if_pos hz]
        go_wp2_with (go_at_call 70; refine (K.get _).mono ?_; rintro e w1 ⟨rfl, hS1, hF1⟩; obtain ⟨k3, k4⟩ := hS1.cells; rw [hz] at k3)
        go_roundg (l.length - (i + 1))
        case measure => omega
        case rel =>
          obtain ⟨r1, r2, r3⟩ := hnext.out w1 _ hF1
          exact ⟨i + 1, q', by omega, rfl, by go_num, hz, hl, hS1, r1, r2, r3⟩
      · have hl : Hid (RES = q') := by rw [Hid, ← hlex.out, hstep.out, if_neg hz]
        have hzb : (q'.st.1 != 0) = true := by simpa using hz
        go_wp2_with (go_at_call 70; refine (K.get _).mono ?_; rintro e w1 ⟨rfl, hS1, hF1⟩; obtain ⟨k3, k4⟩ := hS1.cells)
        go_quiet (fail)
        go_wp2
        go_ret3
        rw [hl.out]
        obtain ⟨r1, r2, r3⟩ := hnext.out w1 _ hF1
        exact ⟨.inl ⟨hz, rfl⟩, r3.trans (grown_drewN' _ _ _)⟩
    · obtain rfl : i = l.length := by omega
      have hl2 : Hid (RES = q) := by rw [Hid, ← hlex.out, List.drop_of_length_le (Nat.le_refl _)]; rfl
      clear hlex
      go_wp2
      go_ret3
      rw [hl2.out]
      exact ⟨.inr ⟨hq0, rfl, hS⟩, hgr⟩
end Go.Proofs.YthpcbbnabnlanaaGreatDoor

/-
  The program's New.
-/
namespace Go.Proofs.YthpcbbnabnlanaaGreatDoor
open Go.RowKit
set_option linter.unusedVariables false

theorem Sen.grown {w w' : World} {bc bm B k : Nat} {q : QSt} (h : Sen w bc bm B k q) (hg : w.grownBy w' none) : Sen w' bc bm B k q := by
  obtain ⟨n, g, vV, vC, xs, hC, eg, hv, hoV, hoC, b1, b2, b3, hc, hm, hB⟩ := h
  exact ⟨n, g, vV, vC, xs, hC.kept hg (by simp) (by simp), eg, hv, hoV.kept hg (own_none _), hoC.kept hg (own_none _), b1, b2, b3, hc, hm, Nat.le_trans hB hg.size⟩
set_option maxRecDepth 100000 in
set_option maxHeartbeats 2000000 in
theorem sn_Check_nil (w : World) (a : Option Addr) (c : Nat) :
    Calls Tryz.prog 45 #[.slice a 0 c] w fun e w' => e = .returned (.tuple #[.pointer (some ⟨w.heap.size + 1, 1, none⟩), .int .i64 0, .int .i64 0]) ∧ Sen w' (w.heap.size + 1) w.heap.size (w.heap.size + 2) 0 q0 ∧ w.grownBy w' none := by
  have hmk : (Instr.makeMap 140 none).run Tryz.prog w = .ok (.map (some w.heap.size)) (w.alloc (.map #[] 0)) := rfl
  go_enter Tryz.func45, Tryz.ntmps45
  go_wp2
  go_loopg [12] 0 (fun n v wr => v = .int .i64 0 ∧ wr = (w.alloc (.map #[] 0)).alloc (.cells #[.map (some w.heap.size), .slice none 0 0, .slice none 0 0, .int .i64 0, .int .i64 0] 142))
  case atStart => exact ⟨rfl, rfl⟩
  case round =>
    obtain ⟨rfl, rfl⟩ := hrel
    go_wp2
    go_ret3
    exact ⟨rfl, sen_start w, (World.grownBy_alloc _ _ _).trans (World.grownBy_alloc _ _ _)⟩
/-- a row of tokens as it was made -/
theorem tok_row {w : World} {B : Nat} {v : Value} {toks : List PTok} (h : w.ownsRow B 129 4 v toks.length (tokCells toks)) (hp : 0 < toks.length) : ∃ gt cap, v = .slice (some ⟨gt, 0, none⟩) toks.length cap ∧ toks.length ≤ cap ∧ gt < w.heap.size ∧ ∀ j u, (tokCells toks)[j]? = some u → w.cell? ⟨gt, j, none⟩ = some u := by
  obtain ⟨gr, cap, hr, _⟩ := RowIn.of_own (cell := tokCell) (l := toks) h hp
  rcases h.2 with ⟨_, h0⟩ | ⟨g, cap', cur, hv, _, _, hc, _⟩
  · omega
  · have e := hr.is
    rw [hv] at e
    injection e with e1 e2 e3
    exact ⟨gr, cap, hr.is, by omega, hr.lt, hr.row⟩
theorem rin_own {α : Type} {w : World} {B e sz : Nat} {v : Value} {cell : α → List Value} {l : List α} (h : w.ownsRow B e sz v l.length (l.flatMap cell)) : RIn w w.heap.size w.heap.size w.heap.size v cell l :=
  ⟨own_slice h, fun hl => by
    obtain ⟨gr, cap, hr, _⟩ := RowIn.of_own h (by cases l with | nil => exact absurd rfl hl | cons _ _ => simp)
    exact ⟨gr, cap, hr, hr.lt, by have := hr.lt; omega, by have := hr.lt; omega⟩⟩
theorem gin_own {w : World} {B : Nat} {x : GRow} (h : x.own w B) : GIn w w.heap.size w.heap.size w.heap.size x := ⟨rin_own h.n, rin_own h.u, rin_own h.t, rin_own h.l⟩

/-- the model's block: the plain text, and the rules -/
def MdlIs (w : World) (H b : Nat) (s : ByteArray) : Prop :=
  ∃ bc bm B k, H ≤ bc ∧ H ≤ B ∧ k ≤ 2500 ∧ w.cell? ⟨b, 0, none⟩ = some (.string ⟨(plainT (progToks s)).toArray⟩) ∧ w.cell? ⟨b, 1, none⟩ = some (.pointer (some ⟨bc, 1, none⟩)) ∧ b < w.heap.size ∧ Sen w bc bm B k (runQ (pParse (progToks s)).1 q0)
set_option maxRecDepth 100000 in
set_option maxHeartbeats 2000000 in
theorem pn_long (s : ByteArray) (w : World) (hs : 2000 < s.size) : Calls Tryz.prog 35 #[.string s] w fun e w' => e = .returned (.tuple #[.pointer none, .int .i64 1, .int .i64 0]) ∧ w' = w := by
  have hs' : (2000 : Int) < s.size := by omega
  go_enter Tryz.func35, Tryz.ntmps35
  go_wp2
  go_ret3
  exact ⟨rfl, rfl⟩
theorem below_grown {w w' : World} (h : Below w.heap.size w w') : w.grownBy w' none := ⟨h.os, h.tape, h.output, h.size, fun k hk _ => h.block k hk⟩
set_option maxRecDepth 100000 in
set_option maxHeartbeats 2000000 in
theorem pn_tok (s : ByteArray) (w : World) (hs : s.size ≤ 2000) (hl : (lex s).1 ≠ 0) : Calls Tryz.prog 35 #[.string s] w fun e w' => e = .returned (.tuple #[.pointer none, .int .i64 2, .int .i64 (lex s).1]) ∧ w.grownBy w' none := by
  have hs' : (s.size : Int) ≤ 2000 := by omega
  have K := Kept.mk (tk_Read s w hs)
  have hz : (((lex s).1 : Int) != 0) = true := by simpa using hl
  generalize (lex s).1 = L at *
  clear hl
  go_enter Tryz.func35, Tryz.ntmps35
  go_wp2_with (go_at_call 43; refine K.get.mono ?_; rintro e w1 ⟨v, rfl, _, hb⟩)
  go_ret3
  exact ⟨rfl, below_grown hb⟩
end Go.Proofs.YthpcbbnabnlanaaGreatDoor

/-
  The program's New: a fault of form, of sense, or the model.
-/
namespace Go.Proofs.YthpcbbnabnlanaaGreatDoor
open Go.RowKit
set_option linter.unusedVariables false

/-- what Read gives, its row written out -/
theorem rd_ok (s : ByteArray) (w : World) (hs : s.size ≤ 2000) (hl : (lex s).1 = 0) : Calls Tryz.prog 43 #[.string s] w fun e w' => ∃ gt cap, e = .returned (.tuple #[.slice (some ⟨gt, 0, none⟩) (progToks s).length cap, .int .i64 0]) ∧ (progToks s).length ≤ cap ∧ gt < w'.heap.size ∧ (∀ j u, (tokCells (progToks s))[j]? = some u → w'.cell? ⟨gt, j, none⟩ = some u) ∧ w.grownBy w' none := by
  refine (tk_Read s w hs).mono ?_
  rintro e w' ⟨v, rfl, ho, hb⟩
  have h := ho hl
  have hlen : (progToks s).length = (lex s).2.1.length + 1 := by simp [progToks]
  rw [← hlen] at h
  obtain ⟨gt, cap, rfl, h1, h2, h3⟩ := tok_row (toks := progToks s) h (by omega)
  rw [hl]
  exact ⟨gt, cap, rfl, h1, h2, h3, below_grown hb⟩
set_option maxRecDepth 100000 in
set_option maxHeartbeats 4000000 in
theorem pn_form (s : ByteArray) (w : World) (hs : s.size ≤ 2000) (hl : (lex s).1 = 0) (hp : (pParse (progToks s)).2.2 ≠ 0) : Calls Tryz.prog 35 #[.string s] w fun e w' => e = .returned (.tuple #[.pointer none, .int .i64 3, .int .i64 (pParse (progToks s)).2.2]) ∧ w.grownBy w' none := by
  have hs' : (s.size : Int) ≤ 2000 := by omega
  have K := Kept.mk (rd_ok s w hs hl)
  have K2 := Kept.mk (fun {w1 : World} {gt cap : Nat} (hrow : ∀ j u, (tokCells (progToks s))[j]? = some u → w1.cell? ⟨gt, j, none⟩ = some u) (hlg : gt < w1.heap.size) => gr_Parse (w := w1) (gt := gt) (capt := cap) (prog_end s hs) (prog_line s) hrow hlg)
  have hz : ((pParse (progToks s)).2.2 != 0) = true := by simpa using hp
  generalize (pParse (progToks s)).2.2 = L at *
  clear hp hl
  go_enter Tryz.func35, Tryz.ntmps35
  go_wp2_with (first | (go_at_call 44; refine (K2.get hrow hlg).mono ?_; rintro e w2 ⟨v2, rfl, _, hg2⟩) | (go_at_call 43; refine K.get.mono ?_; rintro e w1 ⟨gt, cap, rfl, hcap, hlg, hrow, hg1⟩))
  go_ret3
  exact ⟨rfl, hg1.trans hg2⟩

/-- what Check gives, for whatever row of statements -/
theorem ck_any (s : ByteArray) (hs : s.size ≤ 2000) (hp : (pParse (progToks s)).2.2 = 0) (w : World) (v : Value) (B : Nat) (acc : List GRow) (ha : acc.map (·.s) = (pParse (progToks s)).1) (ho : w.ownsRow B 137 16 v acc.length (acc.flatMap GRow.cells)) (hx : ∀ x ∈ acc, x.own w B) :
    Calls Tryz.prog 45 #[v] w fun e w' =>
      (((runQ (pParse (progToks s)).1 q0).st.1 ≠ 0 ∧ e = .returned (.tuple #[.pointer none, .int .i64 (runQ (pParse (progToks s)).1 q0).st.1, .int .i64 (runQ (pParse (progToks s)).1 q0).st.2])) ∨
       ((runQ (pParse (progToks s)).1 q0).st.1 = 0 ∧ ∃ bc bm B' k, (w.heap.size ≤ bc ∧ w.heap.size ≤ B' ∧ k ≤ 2500) ∧ e = .returned (.tuple #[.pointer (some ⟨bc, 1, none⟩), .int .i64 0, .int .i64 0]) ∧ Sen w' bc bm B' k (runQ (pParse (progToks s)).1 q0))) ∧ w.grownBy w' none := by
  obtain ⟨hok, hln⟩ := parse_ok s hs hp
  have hll : acc.length ≤ 2500 := by have := congrArg List.length ha; simp at this; omega
  by_cases h0 : acc.length = 0
  · obtain rfl : acc = [] := List.length_eq_zero_iff.1 h0
    obtain ⟨a, c, rfl⟩ := own_slice_n ho
    rw [← ha]
    refine (sn_Check_nil w a c).mono ?_
    rintro e w' ⟨rfl, hS, hg⟩
    exact ⟨.inr ⟨rfl, _, _, _, _, ⟨Nat.le_succ _, Nat.le_add_right _ 2, Nat.zero_le _⟩, rfl, hS⟩, hg⟩
  · obtain ⟨gr, cap, hr, _⟩ := RowIn.of_own (cell := GRow.cells) (l := acc) ho (by omega)
    have q := sn_Check (w := w) acc v gr cap hr hll (fun x hm => gin_own (hx x hm)) (fun x hm => hok x.s (by rw [← ha]; exact List.mem_map_of_mem hm))
    rw [ha] at q
    refine q.mono ?_
    rintro e w' ⟨h | ⟨h1, h2, h3⟩, hg⟩
    · exact ⟨.inl h, hg⟩
    · exact ⟨.inr ⟨h1, _, _, _, _, ⟨Nat.le_succ _, Nat.le_add_right _ 2, hll⟩, h2, h3⟩, hg⟩
end Go.Proofs.YthpcbbnabnlanaaGreatDoor

/-
  The program's New: a fault of sense, or the model.
-/
namespace Go.Proofs.YthpcbbnabnlanaaGreatDoor
open Go.RowKit
set_option linter.unusedVariables false
set_option maxRecDepth 100000 in
set_option maxHeartbeats 4000000 in
theorem pn_sense (s : ByteArray) (w : World) (hs : s.size ≤ 2000) (hl : (lex s).1 = 0) (hp : (pParse (progToks s)).2.2 = 0) (hq : (runQ (pParse (progToks s)).1 q0).st.1 ≠ 0) : Calls Tryz.prog 35 #[.string s] w fun e w' => e = .returned (.tuple #[.pointer none, .int .i64 (runQ (pParse (progToks s)).1 q0).st.1, .int .i64 (runQ (pParse (progToks s)).1 q0).st.2]) ∧ w.grownBy w' none := by
  have hs' : (s.size : Int) ≤ 2000 := by omega
  have K := Kept.mk (rd_ok s w hs hl)
  have K2 := Kept.mk (fun {w1 : World} {gt cap : Nat} (hrow : ∀ j u, (tokCells (progToks s))[j]? = some u → w1.cell? ⟨gt, j, none⟩ = some u) (hlg : gt < w1.heap.size) => gr_Parse (w := w1) (gt := gt) (capt := cap) (prog_end s hs) (prog_line s) hrow hlg)
  have K3 := Kept.mk (fun {w2 : World} {v2 : Value} {B : Nat} {acc : List GRow} ha ho hx => ck_any s hs hp w2 v2 B acc ha ho hx)
  rw [hp] at K2
  have hz : ((runQ (pParse (progToks s)).1 q0).st.1 != 0) = true := by simpa using hq
  generalize runQ (pParse (progToks s)).1 q0 = Q at *
  have HQ : Hid (Q.st.1 ≠ 0) := hq
  clear hp hl hq
  go_enter Tryz.func35, Tryz.ntmps35
  go_wp2_with (first | (go_at_call 45; refine (K3.get ha ho hx).mono ?_; rintro e w3 ⟨⟨_, rfl⟩ | ⟨hbad, _⟩, hg3⟩; rotate_left; (exact absurd hbad HQ.out)) | (go_at_call 44; refine (K2.get hrow hlg).mono ?_; rintro e w2 ⟨v2, rfl, hrest, hg2⟩; obtain ⟨acc, ha, ho, hx⟩ := hrest (by trivial)) | (go_at_call 43; refine K.get.mono ?_; rintro e w1 ⟨gt, cap, rfl, hcap, hlg, hrow, hg1⟩))
  go_ret3
  exact ⟨rfl, (hg1.trans hg2).trans hg3⟩
set_option maxRecDepth 100000 in
set_option maxHeartbeats 4000000 in
theorem pn_ok (s : ByteArray) (w : World) (ht : PowTab w) (hs : s.size ≤ 2000) (hl : (lex s).1 = 0) (hp : (pParse (progToks s)).2.2 = 0) (hq : (runQ (pParse (progToks s)).1 q0).st.1 = 0) : Calls Tryz.prog 35 #[.string s] w fun e w' => ∃ b, e = .returned (.tuple #[.pointer (some ⟨b, 0, none⟩), .int .i64 0, .int .i64 0]) ∧ w.heap.size ≤ b ∧ MdlIs w' w.heap.size b s ∧ w.grownBy w' none := by
  have hs' : (s.size : Int) ≤ 2000 := by omega
  have K := Kept.mk (rd_ok s w hs hl)
  have K2 := Kept.mk (fun {w1 : World} {gt cap : Nat} (hrow : ∀ j u, (tokCells (progToks s))[j]? = some u → w1.cell? ⟨gt, j, none⟩ = some u) (hlg : gt < w1.heap.size) => gr_Parse (w := w1) (gt := gt) (capt := cap) (prog_end s hs) (prog_line s) hrow hlg)
  have K3 := Kept.mk (fun {w2 : World} {v2 : Value} {B : Nat} {acc : List GRow} ha ho hx => ck_any s hs hp w2 v2 B acc ha ho hx)
  rw [hp] at K2
  have HQ : Hid ((runQ (pParse (progToks s)).1 q0).st.1 = 0) := hq
  have K4 := Kept.mk (fun {W : World} {gt cap : Nat} (hcap : (progToks s).length ≤ cap) (hrow : ∀ j u, (tokCells (progToks s))[j]? = some u → W.cell? ⟨gt, j, none⟩ = some u) (hlg : gt < W.heap.size) (hW : PowTab W) => pl_Plain (w := W) (gt := gt) (cap := cap) (toks := progToks s) (prog_end s hs) (fun i _ => tok_ok s hs i) hcap hrow hlg hW)
  have HT : Hid (PowTab w) := ht
  clear hp hl hq ht
  go_enter Tryz.func35, Tryz.ntmps35
  go_wp2_with (first | (go_at_call 46; refine (K4.get hcap (fun j u hu => (hg2.trans hg3).cell (hrow j u hu) (by simp)) (Nat.lt_of_lt_of_le hlg (hg2.trans hg3).size) (tab_kept HT.out (fun k hk => ((hg1.trans hg2).trans hg3).block k hk (by simp)))).mono ?_; rintro e w4 ⟨rfl, hg4⟩) | (go_at_call 45; refine (K3.get ha ho hx).mono ?_; rintro e w3 ⟨⟨hbad, _⟩ | ⟨_, bc, bm, B', k, hbnd, rfl, hS⟩, hg3⟩; (exact absurd HQ.out hbad)) | (go_at_call 44; refine (K2.get hrow hlg).mono ?_; rintro e w2 ⟨v2, rfl, hrest, hg2⟩; obtain ⟨acc, ha, ho, hx⟩ := hrest (by trivial)) | (go_at_call 43; refine K.get.mono ?_; rintro e w1 ⟨gt, cap, rfl, hcap, hlg, hrow, hg1⟩))
  go_ret3
  have hB := heap_alloc_new w4 (.cells #[.string ⟨(plainT (progToks s)).toArray⟩, .pointer (some ⟨bc, 1, none⟩)] 71)
  have hall := ((hg1.trans hg2).trans hg3).trans hg4
  exact ⟨w4.heap.size, rfl, hall.size, ⟨bc, bm, B', k, Nat.le_trans (hg1.trans hg2).size hbnd.1, Nat.le_trans (hg1.trans hg2).size hbnd.2.1, hbnd.2.2, cell_of hB 0 _ rfl, cell_of hB 1 _ rfl, by simp, (hS.grown hg4).alloc _⟩, hall.trans (World.grownBy_alloc _ _ _)⟩
end Go.Proofs.YthpcbbnabnlanaaGreatDoor
