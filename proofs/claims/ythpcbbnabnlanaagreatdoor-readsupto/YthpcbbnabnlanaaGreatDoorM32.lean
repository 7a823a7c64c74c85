import Derived.Test.YthpcbbnabnlanaaGreatDoorM31
/-
  The plain mathematics between the two sides: without a fault, what was read stands where the reference looks for it.
-/
namespace Go.Proofs.YthpcbbnabnlanaaGreatDoor
set_option linter.unusedVariables false
variable {T : List PTok} {L : Nat}

def gP (g : GTerm) : PTerm := ⟨g.neg, if srt g.first = 3 then some g.first else none, g.name⟩
def gL (g : GLit) : PLit := ⟨if srt g.first = 22 then some g.first else none, g.name⟩
/-- the program's statement as the reference has it -/
def gS (g : GSt) : RSt where
  tag := (srt g.kw - 4).toNat
  kw := g.kw
  a := g.name
  b := if srt g.kw = 4 then g.numbers.getD 0 zeroTok else if srt g.kw = 8 then g.names.getD 0 zeroTok else g.rel
  c := if srt g.kw = 4 then g.numbers.getD 1 zeroTok else if srt g.kw = 8 then g.names.getD 1 zeroTok else g.numbers.getD 0 zeroTok
  ts := g.terms.map gP
  ns := if srt g.kw = 5 then g.numbers else g.names
  ls := g.lits.map gL
/-- a statement's shape, and which of its tokens are INTs -/
structure GOk (g : GSt) : Prop where
  k4 : 4 ≤ srt g.kw
  k10 : srt g.kw ≤ 10
  n4 : srt g.kw = 4 → ∃ lo hi, g.numbers = [lo, hi] ∧ lo.kind = 105 ∧ hi.kind = 105
  n5 : srt g.kw = 5 → ∀ t ∈ g.numbers, t.kind = 105
  n6 : srt g.kw = 6 ∨ srt g.kw = 7 → ∃ M, g.numbers = [M] ∧ M.kind = 105
  n8 : srt g.kw = 8 → ∃ P Q, g.names = [P, Q]
  tm : ∀ t ∈ g.terms, srt t.first ≠ 3 → t.first = t.name
  lt : ∀ l ∈ g.lits, srt l.first ≠ 22 → l.first = l.name

/-- the cut, with the INTs' bytes -/
structure Cut2 (T : List PTok) (L : Nat) : Prop extends Cut T L where
  ints : ∀ t ∈ T, t.kind = 105 → IsInt t.s

theorem took (hC : Cut2 T L) {S : PSt} (hi : S.1 ≤ T.length) {sorts : List Int} (hs : sorts.contains 1 = false) (h : (pTake (pt T L) sorts S).2 = 0) :
    S.2 = 0 ∧ S.1 < T.length ∧ sorts.contains (srt (tkN (pt T L) S.1)) = true ∧ pTake (pt T L) sorts S = (S.1 + 1, 0) ∧ T[S.1]? = some (tkN (pt T L) S.1) ∧ SrtOk (tkN (pt T L) S.1) := by
  obtain ⟨ho, hso, hl0, hfl, hl1⟩ := at_hand hC.toCut hi
  unfold pTake at h ⊢
  by_cases c0 : S.2 = 0
  · rw [if_pos c0] at h ⊢
    by_cases c : sorts.contains (srt (tkN (pt T L) S.1)) = true
    · rw [if_pos c]
      have hlt : S.1 < T.length := by
        rcases Nat.lt_or_ge S.1 T.length with q | q
        · exact q
        · have e : S.1 = T.length := by omega
          rw [e, pt_end, srt_end, hs] at c; cases c
      refine ⟨c0, hlt, c, rfl, ?_, ?_⟩
      · rw [pt_lt hlt]; exact List.getElem?_eq_getElem hlt
      · rw [pt_lt hlt, ← hand_lt hlt]; exact ho
    · rw [if_neg c] at h; simp only at h; omega
  · rw [if_neg c0] at h; exact absurd h c0
theorem took1 (hC : Cut2 T L) {S : PSt} (hi : S.1 ≤ T.length) (k : Int) (hk : 2 ≤ k) (h : (pTake (pt T L) [k] S).2 = 0) :
    S.2 = 0 ∧ S.1 < T.length ∧ srt (tkN (pt T L) S.1) = k ∧ pTake (pt T L) [k] S = (S.1 + 1, 0) ∧ T[S.1]? = some (tkN (pt T L) S.1) ∧ SrtOk (tkN (pt T L) S.1) := by
  obtain ⟨a, b, c, d⟩ := took hC hi (sorts := [k]) (by simp; omega) h
  exact ⟨a, b, by simpa using c, d⟩
theorem isInt_at (hC : Cut2 T L) {i : Nat} {t : PTok} (h : T[i]? = some t) (hk : t.kind = 105) : IsInt t.s := hC.ints t (List.mem_of_getElem? h) hk

theorem took_term (hC : Cut2 T L) {neg : Bool} {S : PSt} (hi : S.1 ≤ T.length) (h : (pTerm (pt T L) neg S).2.2 = 0) :
    S.2 = 0 ∧ TermAt T S.1 (gP (pTerm (pt T L) neg S).1) (pTerm (pt T L) neg S).2.1 ∧ S.1 < (pTerm (pt T L) neg S).2.1 ∧ (pTerm (pt T L) neg S).2.1 ≤ T.length ∧ (pTerm (pt T L) neg S).1.neg = neg ∧ (srt (pTerm (pt T L) neg S).1.first ≠ 3 → (pTerm (pt T L) neg S).1.first = (pTerm (pt T L) neg S).1.name) := by
  unfold pTerm at h ⊢
  by_cases c : srt (tkN (pt T L) S.1) = 3
  · rw [if_pos c] at h ⊢
    simp only at h ⊢
    have a2 := (adv_take (pt T L) [2] (pTake (pt T L) [21] (pTake (pt T L) [3, 2] S))).2 h
    have a1 := (adv_take (pt T L) [21] (pTake (pt T L) [3, 2] S)).2 a2
    obtain ⟨b0, b1, b2, b3, b4, b5⟩ := took hC hi (sorts := [3, 2]) rfl a1
    rw [b3] at a2 h ⊢
    obtain ⟨c0, c1, c2, c3, c4, c5⟩ := took1 hC (S := (S.1 + 1, 0)) (by show S.1 + 1 ≤ _; omega) 21 (by decide) a2
    rw [c3] at h ⊢
    obtain ⟨d0, d1, d2, d3, d4, d5⟩ := took1 hC (S := (S.1 + 1 + 1, 0)) (by show S.1 + 1 + 1 ≤ _; exact c1) 2 (by decide) h
    rw [d3]
    refine ⟨b0, ?_, by simp only; omega, d1, by trivial, fun q => absurd c q⟩
    have hk : (tkN (pt T L) S.1).kind = 105 := b5.int.2 c
    unfold TermAt gP
    simp only [c, if_true]
    exact ⟨b4, hk, isInt_at hC b4 hk, d4, by trivial⟩
  · rw [if_neg c] at h ⊢
    simp only at h ⊢
    obtain ⟨b0, b1, b2, b3, b4, b5⟩ := took hC hi (sorts := [3, 2]) rfl h
    rw [b3]
    refine ⟨b0, ?_, by simp only; omega, b1, by trivial, fun _ => by trivial⟩
    have hk : ¬ (tkN (pt T L) S.1).kind = 105 := fun q => c (b5.int.1 q)
    unfold TermAt gP
    simp only [c, if_false]
    exact ⟨b4, hk, by trivial⟩
theorem took_lit (hC : Cut2 T L) {S : PSt} (hi : S.1 ≤ T.length) (h : (pLit (pt T L) S).2.2 = 0) :
    S.2 = 0 ∧ LitAt T S.1 (gL (pLit (pt T L) S).1) (pLit (pt T L) S).2.1 ∧ S.1 < (pLit (pt T L) S).2.1 ∧ (pLit (pt T L) S).2.1 ≤ T.length ∧ (srt (pLit (pt T L) S).1.first ≠ 22 → (pLit (pt T L) S).1.first = (pLit (pt T L) S).1.name) := by
  unfold pLit at h ⊢
  by_cases c : srt (tkN (pt T L) S.1) = 22
  · rw [if_pos c] at h ⊢
    simp only at h ⊢
    have a1 := (adv_take (pt T L) [2] (pTake (pt T L) [22, 2] S)).2 h
    obtain ⟨b0, b1, b2, b3, b4, b5⟩ := took hC hi (sorts := [22, 2]) rfl a1
    rw [b3] at h ⊢
    obtain ⟨d0, d1, d2, d3, d4, d5⟩ := took1 hC (S := (S.1 + 1, 0)) (by show S.1 + 1 ≤ _; omega) 2 (by decide) h
    rw [d3]
    refine ⟨b0, ?_, by simp only; omega, d1, fun q => absurd c q⟩
    unfold LitAt gL
    simp only [c, if_true]
    exact ⟨b4, (b5.byt 22 (by decide) (by decide)).2 c, d4, by trivial⟩
  · rw [if_neg c] at h ⊢
    simp only at h ⊢
    obtain ⟨b0, b1, b2, b3, b4, b5⟩ := took hC hi (sorts := [22, 2]) rfl h
    rw [b3]
    refine ⟨b0, ?_, by simp only; omega, b1, fun _ => by trivial⟩
    unfold LitAt gL
    simp only [c, if_false]
    exact ⟨b4, fun q => c ((b5.byt 22 (by decide) (by decide)).1 q), by trivial⟩
/-- what stands behind is none of these -/
theorem not_sees {S : PSt} {k : Int} (h0 : S.2 = 0) (h : ¬ pSees (pt T L) k S = true) : srt (tkN (pt T L) S.1) ≠ k := by
  unfold pSees at h; simp [h0] at h; exact h
theorem took_sumF (hC : Cut2 T L) (f : Nat) : ∀ (acc : List GTerm) (S : PSt), S.1 ≤ T.length → T.length - S.1 < f → (sumF (pt T L) f acc S).2.2 = 0 →
    ∃ r, (sumF (pt T L) f acc S).1 = acc ++ r ∧ S.2 = 0 ∧ TermsAt T S.1 (r.map gP) (sumF (pt T L) f acc S).2.1 ∧ S.1 ≤ (sumF (pt T L) f acc S).2.1 ∧ (sumF (pt T L) f acc S).2.1 ≤ T.length ∧
      srt (tkN (pt T L) (sumF (pt T L) f acc S).2.1) ≠ 20 ∧ srt (tkN (pt T L) (sumF (pt T L) f acc S).2.1) ≠ 23 ∧ ∀ t ∈ r, srt t.first ≠ 3 → t.first = t.name := by
  induction f with
  | zero => intro acc S _ h; omega
  | succ f ih =>
    intro acc S hi hf h
    simp only [sumF] at h ⊢
    by_cases c : (pSees (pt T L) 20 S || pSees (pt T L) 23 S) = true
    · rw [if_pos c] at h ⊢
      have hz1 := (adv_sumF (pt T L) f (acc ++ [(pTerm (pt T L) (srt (tkN (pt T L) S.1) == 23) (pTake (pt T L) [20, 23] S)).1]) _).2 h
      have hz2 := (adv_term (pt T L) (srt (tkN (pt T L) S.1) == 23) (pTake (pt T L) [20, 23] S)).2 hz1
      obtain ⟨b0, b1, b2, b3, b4, b5⟩ := took hC hi (sorts := [20, 23]) rfl hz2
      rw [b3] at h hz1 ⊢
      obtain ⟨t0, t1, t2, t3, t4, t5⟩ := took_term hC (S := (S.1 + 1, 0)) (by show S.1 + 1 ≤ _; omega) hz1
      simp only at t2
      obtain ⟨r, e1, e2, e3, e4, e5, e6, e7, e8⟩ := ih (acc ++ [(pTerm (pt T L) (srt (tkN (pt T L) S.1) == 23) (S.1 + 1, 0)).1]) _ t3 (by omega) h
      refine ⟨(pTerm (pt T L) (srt (tkN (pt T L) S.1) == 23) (S.1 + 1, 0)).1 :: r, by rw [e1, List.append_assoc]; rfl, b0, ?_, by omega, e5, e6, e7, ?_⟩
      · rw [List.map_cons]
        refine ⟨tkN (pt T L) S.1, _, b4, ?_, t1, e3⟩
        show _ = if (pTerm (pt T L) (srt (tkN (pt T L) S.1) == 23) (S.1 + 1, 0)).1.neg then [45] else [43]
        rw [t4]
        by_cases q : srt (tkN (pt T L) S.1) = 23
        · rw [q]; exact (b5.byt 23 (by decide) (by decide)).2 q
        · have q' : srt (tkN (pt T L) S.1) = 20 := by
            have : srt (tkN (pt T L) S.1) = 20 ∨ srt (tkN (pt T L) S.1) = 23 := by simpa using b2
            rcases this with q' | q'
            · exact q'
            · exact absurd q' q
          rw [q']; exact (b5.byt 20 (by decide) (by decide)).2 q'
      · intro t ht
        rcases List.mem_cons.1 ht with rfl | ht
        · exact t5
        · exact e8 t ht
    · rw [if_neg c] at h ⊢
      have h20 : ¬ pSees (pt T L) 20 S = true := fun q => c (by rw [q]; rfl)
      have h23 : ¬ pSees (pt T L) 23 S = true := fun q => c (by rw [q]; simp)
      exact ⟨[], by simp, h, rfl, Nat.le_refl _, hi, not_sees h h20, not_sees h h23, fun t ht => by simp at ht⟩
/-- a sum, its relation, its number -/
theorem took_lin (hC : Cut2 T L) {g : GSt} {S : PSt} (hi : S.1 ≤ T.length) (h : (pLin (pt T L) g S).2.2 = 0) :
    S.2 = 0 ∧ ∃ num, (pLin (pt T L) g S).1.numbers = [num] ∧ num.kind = 105 ∧ SumAt T S.1 ((pLin (pt T L) g S).1.terms.map gP) (pLin (pt T L) g S).1.rel num (pLin (pt T L) g S).2.1 ∧ S.1 < (pLin (pt T L) g S).2.1 ∧ (pLin (pt T L) g S).2.1 ≤ T.length ∧ ∀ t ∈ (pLin (pt T L) g S).1.terms, srt t.first ≠ 3 → t.first = t.name := by
  unfold pLin at h ⊢
  simp only at h ⊢
  have a2 := (adv_take (pt T L) [3] (pTake (pt T L) [14, 15, 16] (pSum (pt T L) S).2)).2 h
  have a1 := (adv_take (pt T L) [14, 15, 16] (pSum (pt T L) S).2).2 a2
  have a0 : (pTerm (pt T L) false S).2.2 = 0 := (adv_sumF (pt T L) _ _ _).2 a1
  obtain ⟨t0, t1, t2, t3, t4, t5⟩ := took_term hC hi a0
  obtain ⟨r, e1, e2, e3, e4, e5, e6, e7, e8⟩ := took_sumF hC (pt T L).length [(pTerm (pt T L) false S).1] _ t3 (by rw [pt_len]; omega) a1
  change (pSum (pt T L) S).1 = _ at e1
  change (pTerm (pt T L) false S).2.1 ≤ (pSum (pt T L) S).2.1 at e4
  change (pSum (pt T L) S).2.1 ≤ _ at e5
  change srt (tkN (pt T L) (pSum (pt T L) S).2.1) ≠ 20 at e6
  change srt (tkN (pt T L) (pSum (pt T L) S).2.1) ≠ 23 at e7
  change TermsAt T _ _ (pSum (pt T L) S).2.1 at e3
  obtain ⟨b0, b1, b2, b3, b4, b5⟩ := took hC e5 (sorts := [14, 15, 16]) rfl a2
  rw [b3] at h ⊢
  obtain ⟨c0, c1, c2, c3, c4, c5⟩ := took1 hC (S := ((pSum (pt T L) S).2.1 + 1, 0)) (by show _ + 1 ≤ _; omega) 3 (by decide) h
  rw [c3]
  simp only at c4 c5 c2
  have hk := c5.int.2 c2
  refine ⟨t0, _, rfl, hk, ?_, by simp only; omega, c1, ?_⟩
  · refine ⟨gP (pTerm (pt T L) false S).1, r.map gP, _, (pSum (pt T L) S).2.1, by rw [e1]; rfl, t1, t4, e3, by omega, b4, ?_, ?_, c4, isInt_at hC c4 hk, rfl⟩
    · exact fun q => e6 ((b5.byt 20 (by decide) (by decide)).1 q)
    · exact fun q => e7 ((b5.byt 23 (by decide) (by decide)).1 q)
  · intro t ht
    rw [e1] at ht
    rcases List.mem_append.1 ht with ht | ht
    · obtain rfl : t = _ := by simpa using ht
      exact t5
    · exact e8 t ht
/-- a series of things of whatever sort: each behind a comma -/
def GSer {α : Type} (T : List PTok) (At : Nat → α → Nat → Prop) : Nat → List α → Nat → Prop
  | i, [], j => i = j
  | i, a :: l, j => (∃ c, T[i]? = some c ∧ c.s.toList = [44]) ∧ ∃ m, At (i + 1) a m ∧ GSer T At m l j
theorem took_serF {α : Type} (hC : Cut2 T L) (one : PSt → α × PSt) (At : Nat → α → Nat → Prop) (Q : α → Prop) (hadv : ∀ S, Adv S (one S).2)
    (hone : ∀ S : PSt, S.1 ≤ T.length → (one S).2.2 = 0 → S.2 = 0 ∧ At S.1 (one S).1 (one S).2.1 ∧ S.1 < (one S).2.1 ∧ (one S).2.1 ≤ T.length ∧ Q (one S).1) (f : Nat) :
    ∀ (acc : List α) (S : PSt), S.1 ≤ T.length → T.length - S.1 < f → (serF (pt T L) one f acc S).2.2 = 0 →
    ∃ r, (serF (pt T L) one f acc S).1 = acc ++ r ∧ S.2 = 0 ∧ GSer T At S.1 r (serF (pt T L) one f acc S).2.1 ∧ S.1 ≤ (serF (pt T L) one f acc S).2.1 ∧ (serF (pt T L) one f acc S).2.1 ≤ T.length ∧
      srt (tkN (pt T L) (serF (pt T L) one f acc S).2.1) ≠ 13 ∧ ∀ t ∈ r, Q t := by
  induction f with
  | zero => intro acc S _ h; omega
  | succ f ih =>
    intro acc S hi hf h
    simp only [serF] at h ⊢
    by_cases c : pSees (pt T L) 13 S = true
    · rw [if_pos c] at h ⊢
      have hz1 := (adv_serF (pt T L) one hadv f (acc ++ [(one (pTake (pt T L) [13] S)).1]) _).2 h
      have hz2 := (hadv (pTake (pt T L) [13] S)).2 hz1
      obtain ⟨b0, b1, b2, b3, b4, b5⟩ := took1 hC hi 13 (by decide) hz2
      rw [b3] at h hz1 ⊢
      obtain ⟨t0, t1, t2, t3, t4⟩ := hone (S.1 + 1, 0) (by show S.1 + 1 ≤ _; omega) hz1
      simp only at t2
      obtain ⟨r, e1, e2, e3, e4, e5, e6, e7⟩ := ih (acc ++ [(one (S.1 + 1, 0)).1]) _ t3 (by omega) h
      refine ⟨(one (S.1 + 1, 0)).1 :: r, by rw [e1, List.append_assoc]; rfl, b0, ⟨⟨_, b4, (b5.byt 13 (by decide) (by decide)).2 b2⟩, _, t1, e3⟩, by omega, e5, e6, ?_⟩
      intro t ht
      rcases List.mem_cons.1 ht with rfl | ht
      · exact t4
      · exact e7 t ht
    · rw [if_neg c] at h ⊢
      exact ⟨[], by simp, h, rfl, Nat.le_refl _, hi, not_sees h c, fun t ht => by simp at ht⟩
theorem took_ser {α : Type} (hC : Cut2 T L) (one : PSt → α × PSt) (At : Nat → α → Nat → Prop) (Q : α → Prop) (hadv : ∀ S, Adv S (one S).2)
    (hone : ∀ S : PSt, S.1 ≤ T.length → (one S).2.2 = 0 → S.2 = 0 ∧ At S.1 (one S).1 (one S).2.1 ∧ S.1 < (one S).2.1 ∧ (one S).2.1 ≤ T.length ∧ Q (one S).1) {S : PSt} (hi : S.1 ≤ T.length) (h : (pSer (pt T L) one S).2.2 = 0) :
    ∃ a r m, (pSer (pt T L) one S).1 = a :: r ∧ S.2 = 0 ∧ At S.1 a m ∧ GSer T At m r (pSer (pt T L) one S).2.1 ∧ S.1 < (pSer (pt T L) one S).2.1 ∧ (pSer (pt T L) one S).2.1 ≤ T.length ∧ srt (tkN (pt T L) (pSer (pt T L) one S).2.1) ≠ 13 ∧ ∀ t ∈ a :: r, Q t := by
  unfold pSer at h ⊢
  have hz := (adv_serF (pt T L) one hadv (pt T L).length [(one S).1] _).2 h
  obtain ⟨t0, t1, t2, t3, t4⟩ := hone S hi hz
  obtain ⟨r, e1, e2, e3, e4, e5, e6, e7⟩ := took_serF hC one At Q hadv hone (pt T L).length [(one S).1] _ t3 (by rw [pt_len]; omega) h
  refine ⟨(one S).1, r, _, by rw [e1]; rfl, t0, t1, e3, by omega, e5, e6, ?_⟩
  intro t ht
  rcases List.mem_cons.1 ht with rfl | ht
  · exact t4
  · exact e7 t ht
/-- one token at a place -/
def TokAt1 (T : List PTok) (i : Nat) (t : PTok) (j : Nat) : Prop := T[i]? = some t ∧ j = i + 1
theorem ser_toks {i j : Nat} {l : List PTok} (h : GSer T (TokAt1 T) i l j) : SerAt T i l j := by
  induction l generalizing i with
  | nil => exact h
  | cons a l ih =>
    obtain ⟨h1, m, ⟨h2, rfl⟩, h3⟩ := h
    exact ⟨h1, h2, ih h3⟩
theorem ser_lits {i j : Nat} {l : List GLit} (h : GSer T (fun i a j => LitAt T i (gL a) j) i l j) : SerLit T i (l.map gL) j := by
  induction l generalizing i with
  | nil => exact h
  | cons a l ih =>
    obtain ⟨h1, m, h2, h3⟩ := h
    exact ⟨h1, m, h2, ih h3⟩
theorem took_tok (hC : Cut2 T L) (k : Int) (hk : 2 ≤ k) (S : PSt) (hi : S.1 ≤ T.length) (h : (pTok (pt T L) k S).2.2 = 0) :
    S.2 = 0 ∧ TokAt1 T S.1 (pTok (pt T L) k S).1 (pTok (pt T L) k S).2.1 ∧ S.1 < (pTok (pt T L) k S).2.1 ∧ (pTok (pt T L) k S).2.1 ≤ T.length ∧ (SrtOk (pTok (pt T L) k S).1 ∧ srt (pTok (pt T L) k S).1 = k) := by
  obtain ⟨a, b, c, d, e, f⟩ := took1 hC hi k hk h
  unfold pTok
  rw [d]
  exact ⟨a, ⟨e, rfl⟩, by simp only; omega, b, f, c⟩
theorem peek_no (hC : Cut2 T L) {j : Nat} (hj : j ≤ T.length) (h : srt (tkN (pt T L) j) ≠ 13) : (peekS T j).toList ≠ [44] := by
  unfold peekS
  rcases Nat.lt_or_ge j T.length with q | q
  · rw [List.getElem?_eq_getElem q]
    have ho := lk_srt (hC.kind _ (List.getElem_mem q))
    rw [pt_lt q] at h
    exact fun e => h ((ho.byt 13 (by decide) (by decide)).1 e)
  · rw [List.getElem?_eq_none q]
    show ByteArray.toList ⟨#[]⟩ ≠ [44]
    rw [show (⟨#[]⟩ : ByteArray) = ByteArray.empty from rfl, empty_toList]; decide
end Go.Proofs.YthpcbbnabnlanaaGreatDoor

/-
  The plain mathematics between the two sides: the statements of a text without a fault of form.
-/
namespace Go.Proofs.YthpcbbnabnlanaaGreatDoor
set_option linter.unusedVariables false
variable {T : List PTok} {L : Nat}

theorem kw_bytes {t : PTok} (h : SrtOk t) (k : Int) (h4 : 4 ≤ k) (h23 : k ≤ 23) (hk : srt t = k) : t.s = bs (sortBytes k) := bs_of _ _ ((h.byt k h4 h23).2 hk)
theorem took_stmt (hC : Cut2 T L) {S : PSt} (hi : S.1 ≤ T.length) (h : (pStmt (pt T L) S).2.2 = 0) :
    S.2 = 0 ∧ StAt T S.1 (gS (pStmt (pt T L) S).1) (pStmt (pt T L) S).2.1 ∧ S.1 < (pStmt (pt T L) S).2.1 ∧ (pStmt (pt T L) S).2.1 ≤ T.length ∧ GOk (pStmt (pt T L) S).1 := by
  have hz := (adv_stmt (pt T L) S).2 h
  obtain ⟨b0, b1, b2, b3, b4, b5⟩ := took hC hi (sorts := kwSorts) rfl hz
  have A := fun sorts S => adv_take (pt T L) sorts S
  have nt : ∀ t ∈ ([] : List GTerm), srt t.first ≠ 3 → t.first = t.name := fun a ha => by simp at ha
  have nl : ∀ t ∈ ([] : List GLit), srt t.first ≠ 22 → t.first = t.name := fun a ha => by simp at ha
  obtain ⟨k, hk⟩ : ∃ k, srt (tkN (pt T L) S.1) = k := ⟨_, rfl⟩
  have hcs : k = 4 ∨ k = 5 ∨ k = 6 ∨ k = 7 ∨ k = 8 ∨ k = 9 ∨ k = 10 := by rw [hk] at b2; simpa [kwSorts] using b2
  have hkb := fun h4 h23 => kw_bytes b5 k h4 h23 hk
  unfold pStmt at h ⊢
  simp only [hk, b3] at h ⊢
  rcases hcs with rfl | rfl | rfl | rfl | rfl | rfl | rfl
  · simp only [if_true] at h ⊢
    have a5 := (A _ _).2 h
    have a4 := (A _ _).2 a5
    have a3 := (A _ _).2 a4
    have a2 := (A _ _).2 a3
    obtain ⟨-, c1, c2, c3, c4, c5⟩ := took1 hC (S := (S.1 + 1, 0)) (by show S.1 + 1 ≤ _; omega) 2 (by decide) a2
    rw [c3] at a3 a4 a5 h ⊢
    obtain ⟨-, d1, d2, d3, d4, d5⟩ := took1 hC (S := (S.1 + 1 + 1, 0)) c1 12 (by decide) a3
    rw [d3] at a4 a5 h ⊢
    obtain ⟨-, e1, e2, e3, e4, e5⟩ := took1 hC (S := (S.1 + 1 + 1 + 1, 0)) d1 3 (by decide) a4
    rw [e3] at a5 h ⊢
    obtain ⟨-, f1, f2, f3, f4, f5⟩ := took1 hC (S := (S.1 + 1 + 1 + 1 + 1, 0)) e1 17 (by decide) a5
    rw [f3] at h ⊢
    obtain ⟨-, g1, g2, g3, g4, g5⟩ := took1 hC (S := (S.1 + 1 + 1 + 1 + 1 + 1, 0)) f1 3 (by decide) h
    rw [g3]
    have he := e5.int.2 e2
    have hg := g5.int.2 g2
    refine ⟨b0, ⟨b4, ?_⟩, by simp only; omega, g1, ⟨by simp [hk], by simp [hk], fun _ => ⟨_, _, rfl, he, hg⟩, fun q => by simp [hk] at q, fun q => by simp [hk] at q, fun q => by simp [hk] at q, nt, nl⟩⟩
    simp only [gS, hk]
    exact ⟨hkb (by decide) (by decide), c4, e4, isInt_at hC e4 he, g4, isInt_at hC g4 hg, by trivial⟩
  · simp only [show ¬ (5 : Int) = 4 by decide, if_false, if_true] at h ⊢
    have a5 := (A _ _).2 h
    have a4 := (adv_ser (pt T L) (pTok (pt T L) 3) (fun b => adv_take _ [3] b) _).2 a5
    have a3 := (A _ _).2 a4
    have a2 := (A _ _).2 a3
    obtain ⟨-, c1, c2, c3, c4, c5⟩ := took1 hC (S := (S.1 + 1, 0)) (by show S.1 + 1 ≤ _; omega) 2 (by decide) a2
    rw [c3] at a3 a4 a5 h ⊢
    obtain ⟨-, d1, d2, d3, d4, d5⟩ := took1 hC (S := (S.1 + 1 + 1, 0)) c1 14 (by decide) a3
    rw [d3] at a4 a5 h ⊢
    obtain ⟨-, e1, e2, e3, e4, e5⟩ := took1 hC (S := (S.1 + 1 + 1 + 1, 0)) d1 18 (by decide) a4
    rw [e3] at a5 h ⊢
    obtain ⟨n0, r, m, r1, r2, ⟨r3, rm⟩, r4, r5, r6, r7, r8⟩ := took_ser hC (pTok (pt T L) 3) (TokAt1 T) (fun t => SrtOk t ∧ srt t = 3) (fun S => adv_take _ [3] S) (took_tok hC 3 (by decide)) (S := (S.1 + 1 + 1 + 1 + 1, 0)) e1 a5
    obtain ⟨-, f1, f2, f3, f4, f5⟩ := took1 hC r6 19 (by decide) h
    rw [f3]
    simp only at r5 rm
    have hI : ∀ t ∈ n0 :: r, t.kind = 105 := fun t ht => (r8 t ht).1.int.2 (r8 t ht).2
    have hmem : ∀ t ∈ n0 :: r, t ∈ T := by
      intro t ht
      have key : ∀ (l : List PTok) (i j : Nat), GSer T (TokAt1 T) i l j → ∀ t ∈ l, t ∈ T := by
        intro l
        induction l with
        | nil => intro i j _ t ht; simp at ht
        | cons a l ih =>
          rintro i j ⟨_, m, ⟨q1, _⟩, q2⟩ t ht
          rcases List.mem_cons.1 ht with rfl | ht
          · exact List.mem_of_getElem? q1
          · exact ih _ _ q2 t ht
      rcases List.mem_cons.1 ht with rfl | ht
      · exact List.mem_of_getElem? r3
      · exact key _ _ _ r4 t ht
    refine ⟨b0, ⟨b4, ?_⟩, by simp only; omega, f1, ⟨by simp [hk], by simp [hk], fun q => by simp [hk] at q, fun _ => by rw [r1]; exact hI, fun q => by simp [hk] at q, fun q => by simp [hk] at q, nt, nl⟩⟩
    simp only [gS, hk]
    refine ⟨hkb (by decide) (by decide), c4, n0, r, _, ?_, r3, by rw [rm] at r4; exact ser_toks r4, fun t ht => hC.ints t (hmem t ht) (hI t ht), f1, peek_no hC r6 r7, by trivial⟩
    simpa using r1
  · simp only [show ¬ (6 : Int) = 4 by decide, show ¬ (6 : Int) = 5 by decide, show ¬ (6 : Int) = 7 by decide, if_false, if_true] at h ⊢
    obtain ⟨-, num, n1, n2, n3, n4, n5, n6⟩ := took_lin hC (S := (S.1 + 1, 0)) (by show S.1 + 1 ≤ _; omega) h
    have hk' : srt (pLin (pt T L) { kw := tkN (pt T L) S.1 } (S.1 + 1, 0)).1.kw = 6 := hk
    simp only at n4
    refine ⟨b0, ⟨b4, ?_⟩, by omega, n5, ⟨by rw [hk']; decide, by rw [hk']; decide, fun q => by rw [hk'] at q; simp at q, fun q => by rw [hk'] at q; simp at q, fun _ => ⟨num, n1, n2⟩, fun q => by rw [hk'] at q; simp at q, n6, nl⟩⟩
    simp only [gS, hk', n1]
    exact ⟨hkb (by decide) (by decide), n3⟩
  · simp only [show ¬ (7 : Int) = 4 by decide, show ¬ (7 : Int) = 5 by decide, if_false, if_true] at h ⊢
    have a3 := (adv_lin (pt T L) _ _).2 h
    have a2 := (A _ _).2 a3
    obtain ⟨-, c1, c2, c3, c4, c5⟩ := took1 hC (S := (S.1 + 1, 0)) (by show S.1 + 1 ≤ _; omega) 2 (by decide) a2
    rw [c3] at a3 h ⊢
    obtain ⟨-, d1, d2, d3, d4, d5⟩ := took1 hC (S := (S.1 + 1 + 1, 0)) c1 12 (by decide) a3
    rw [d3] at h ⊢
    obtain ⟨-, num, n1, n2, n3, n4, n5, n6⟩ := took_lin hC (S := (S.1 + 1 + 1 + 1, 0)) d1 h
    have hk' : srt (pLin (pt T L) { kw := tkN (pt T L) S.1, name := tkN (pt T L) (S.1 + 1) } (S.1 + 1 + 1 + 1, 0)).1.kw = 7 := hk
    simp only at n4
    refine ⟨b0, ⟨b4, ?_⟩, by simp only; omega, n5, ⟨by rw [hk']; decide, by rw [hk']; decide, fun q => by rw [hk'] at q; simp at q, fun q => by rw [hk'] at q; simp at q, fun _ => ⟨num, n1, n2⟩, fun q => by rw [hk'] at q; simp at q, n6, nl⟩⟩
    simp only [gS, hk', n1]
    exact ⟨hkb (by decide) (by decide), c4, n3⟩
  · simp only [show ¬ (8 : Int) = 4 by decide, show ¬ (8 : Int) = 5 by decide, show ¬ (8 : Int) = 7 by decide, show ¬ (8 : Int) = 6 by decide, if_false, if_true] at h ⊢
    have a6 := (A _ _).2 h
    have a5 := (A _ _).2 a6
    have a4 := (A _ _).2 a5
    have a3 := (A _ _).2 a4
    have a2 := (A _ _).2 a3
    obtain ⟨-, c1, c2, c3, c4, c5⟩ := took1 hC (S := (S.1 + 1, 0)) (by show S.1 + 1 ≤ _; omega) 2 (by decide) a2
    rw [c3] at a3 a4 a5 a6 h ⊢
    obtain ⟨-, d1, d2, d3, d4, d5⟩ := took1 hC (S := (S.1 + 1 + 1, 0)) c1 18 (by decide) a3
    rw [d3] at a4 a5 a6 h ⊢
    obtain ⟨-, e1, e2, e3, e4, e5⟩ := took1 hC (S := (S.1 + 1 + 1 + 1, 0)) d1 2 (by decide) a4
    rw [e3] at a5 a6 h ⊢
    obtain ⟨-, f1, f2, f3, f4, f5⟩ := took1 hC (S := (S.1 + 1 + 1 + 1 + 1, 0)) e1 19 (by decide) a5
    rw [f3] at a6 h ⊢
    obtain ⟨-, g1, g2, g3, g4, g5⟩ := took1 hC (S := (S.1 + 1 + 1 + 1 + 1 + 1, 0)) f1 14 (by decide) a6
    rw [g3] at h ⊢
    obtain ⟨-, i1, i2, i3, i4, i5⟩ := took1 hC (S := (S.1 + 1 + 1 + 1 + 1 + 1 + 1, 0)) g1 2 (by decide) h
    rw [i3]
    refine ⟨b0, ⟨b4, ?_⟩, by simp only; omega, i1, ⟨by simp [hk], by simp [hk], fun q => by simp [hk] at q, fun q => by simp [hk] at q, fun q => by simp [hk] at q, fun _ => ⟨_, _, rfl⟩, nt, nl⟩⟩
    simp only [gS, hk]
    exact ⟨hkb (by decide) (by decide), c4, e4, i4, by trivial⟩
  · simp only [show ¬ (9 : Int) = 4 by decide, show ¬ (9 : Int) = 5 by decide, show ¬ (9 : Int) = 7 by decide, show ¬ (9 : Int) = 6 by decide, show ¬ (9 : Int) = 8 by decide, if_false, if_true] at h ⊢
    obtain ⟨n0, r, m, r1, r2, ⟨r3, rm⟩, r4, r5, r6, r7, r8⟩ := took_ser hC (pTok (pt T L) 2) (TokAt1 T) (fun t => SrtOk t ∧ srt t = 2) (fun S => adv_take _ [2] S) (took_tok hC 2 (by decide)) (S := (S.1 + 1, 0)) (by show S.1 + 1 ≤ _; omega) h
    simp only at r5 rm
    refine ⟨b0, ⟨b4, ?_⟩, by omega, r6, ⟨by simp [hk], by simp [hk], fun q => by simp [hk] at q, fun q => by simp [hk] at q, fun q => by simp [hk] at q, fun q => by simp [hk] at q, nt, nl⟩⟩
    simp only [gS, hk]
    exact ⟨hkb (by decide) (by decide), n0, r, by simpa using r1, r3, by rw [rm] at r4; exact ser_toks r4, r6, peek_no hC r6 r7⟩
  · simp only [show ¬ (10 : Int) = 4 by decide, show ¬ (10 : Int) = 5 by decide, show ¬ (10 : Int) = 7 by decide, show ¬ (10 : Int) = 6 by decide, show ¬ (10 : Int) = 8 by decide, show ¬ (10 : Int) = 9 by decide, if_false, if_true] at h ⊢
    obtain ⟨l0, r, m, r1, r2, r3, r4, r5, r6, r7, r8⟩ := took_ser hC (pLit (pt T L)) (fun i a j => LitAt T i (gL a) j) (fun l => srt l.first ≠ 22 → l.first = l.name) (adv_lit _) (fun S hi h => took_lit hC hi h) (S := (S.1 + 1, 0)) (by show S.1 + 1 ≤ _; omega) h
    simp only at r5
    refine ⟨b0, ⟨b4, ?_⟩, by omega, r6, ⟨by simp [hk], by simp [hk], fun q => by simp [hk] at q, fun q => by simp [hk] at q, fun q => by simp [hk] at q, fun q => by simp [hk] at q, nt, by rw [r1]; exact r8⟩⟩
    simp only [gS, hk]
    exact ⟨hkb (by decide) (by decide), gL l0, r.map gL, m, by rw [r1]; rfl, r3, ser_lits r4, r6, peek_no hC r6 r7⟩
theorem took_parse (hC : Cut2 T L) (f : Nat) : ∀ (acc : List GSt) (S : PSt), S.1 ≤ T.length → T.length - S.1 < f → (parseF (pt T L) f acc S).2.2 = 0 →
    ∃ r, (parseF (pt T L) f acc S).1 = acc ++ r ∧ StsAt T S.1 (r.map gS) T.length ∧ ∀ g ∈ r, GOk g := by
  induction f with
  | zero => intro acc S _ h; omega
  | succ f ih =>
    intro acc S hi hf h
    by_cases c : S.2 = 0 ∧ srt (tkN (pt T L) S.1) ≠ 1
    · rw [parseF_more c.1 c.2] at h ⊢
      have hz1 := (adv_parseF (toks := pt T L) f (acc ++ [(pStmt (pt T L) S).1]) _).2 h
      have hz2 := (adv_take (pt T L) [11] (pStmt (pt T L) S).2).2 hz1
      obtain ⟨s0, s1, s2, s3, s4⟩ := took_stmt hC hi hz2
      obtain ⟨b0, b1, b2, b3, b4, b5⟩ := took1 hC s3 11 (by decide) hz1
      rw [b3] at h ⊢
      obtain ⟨r, e1, e2, e3⟩ := ih (acc ++ [(pStmt (pt T L) S).1]) ((pStmt (pt T L) S).2.1 + 1, 0) b1 (by show T.length - ((pStmt (pt T L) S).2.1 + 1) < f; omega) h
      refine ⟨(pStmt (pt T L) S).1 :: r, by rw [e1, List.append_assoc]; rfl, ⟨_, s1, b1, e2⟩, fun g hg => ?_⟩
      rcases List.mem_cons.1 hg with rfl | hg
      · exact s4
      · exact e3 g hg
    · rw [parseF_end c] at h ⊢
      have hs : srt (tkN (pt T L) S.1) = 1 := by
        by_cases q : srt (tkN (pt T L) S.1) = 1
        · exact q
        · exact absurd ⟨h, q⟩ c
      have he : S.1 = T.length := by
        rcases Nat.lt_or_ge S.1 T.length with q | q
        · exfalso
          have ho := lk_srt (hC.kind _ (List.getElem_mem q))
          rw [pt_lt q] at hs
          have := ho.eof.2 hs
          rcases hC.kind _ (List.getElem_mem q) with q | q | q | q <;> omega
        · omega
      exact ⟨[], by simp, he, fun g hg => by simp at hg⟩
/-- a text without a fault of form: its statements -/
theorem parse_at (hC : Cut2 T L) (h : (pParse (pt T L)).2.2 = 0) : StsAt T 0 ((pParse (pt T L)).1.map gS) T.length ∧ ∀ g ∈ (pParse (pt T L)).1, GOk g := by
  obtain ⟨r, e1, e2, e3⟩ := took_parse hC ((pt T L).length + 1) [] (0, 0) (Nat.zero_le _) (by rw [pt_len]; omega) h
  have e : (pParse (pt T L)).1 = r := e1
  rw [e]; exact ⟨e2, e3⟩
end Go.Proofs.YthpcbbnabnlanaaGreatDoor

/-
  The plain mathematics between the two sides: the sense of statements, fault by fault.
-/
namespace Go.Proofs.YthpcbbnabnlanaaGreatDoor
set_option linter.unusedVariables false

theorem bytes_eq {a b : ByteArray} : a.toList = b.toList ↔ a = b := ⟨fun h => (bs_of a _ h).trans (bs_of b _ rfl).symm, fun h => by rw [h]⟩
theorem flt_or (a b : Bool) (k l : Int) (st : FSt) (hk : k ≠ 0) : flt (a || b) k l st = flt b k l (flt a k l st) := by
  obtain ⟨x, y⟩ := st
  unfold flt fKind fLine
  cases a <;> cases b <;> by_cases h : x = 0 <;> simp [h, hk]
theorem flt_zero {b : Bool} {k l : Int} {st : FSt} (hk : k ≠ 0) (h : (flt b k l st).1 = 0) : b = false ∧ st.1 = 0 := by
  obtain ⟨x, y⟩ := st
  unfold flt fKind fLine at h
  cases b
  · simpa using h
  · by_cases q : x = 0
    · simp [q] at h; exact absurd h hk
    · simp [q] at h
theorem flt_mono {b : Bool} {k l : Int} {st : FSt} (h : st.1 ≠ 0) : (flt b k l st).1 ≠ 0 := by
  obtain ⟨x, y⟩ := st
  simp only at h
  unfold flt fKind; simp [h]
theorem fold_mono {α : Type} {step : Nat → α → FSt → FSt} (hs : ∀ k a st, st.1 ≠ 0 → (step k a st).1 ≠ 0) : ∀ (l : List α) (k : Nat) (st : FSt), st.1 ≠ 0 → (foldSt step k l st).1 ≠ 0 := by
  intro l
  induction l with
  | nil => intro k st h; exact h
  | cons a l ih => intro k st h; exact ih _ _ (hs k a st h)
theorem findName_snoc (s a : ByteArray) (l : List ByteArray) : ∀ k : Nat, findName s (l ++ [a]) k = if 0 ≤ findName s l k then findName s l k else if a = s then ((k + l.length : Nat) : Int) else -1 := by
  induction l with
  | nil =>
    intro k
    simp only [List.nil_append, findName]
    by_cases h : a = s
    · subst h; simp
    · have : ¬ a.toList = s.toList := fun q => h (bytes_eq.1 q)
      simp [h, this]
  | cons b l ih =>
    intro k
    simp only [List.cons_append, findName]
    split
    · simp
    · rw [ih (k + 1)]
      simp only [List.length_cons]
      split
      · rfl
      · split
        · congr 1; omega
        · rfl
/-- a variable of the program's as the reference has it -/
def qP (v : QVar) : PVar := ⟨v.name, v.low, v.high⟩
/-- the model so far is the same on both sides -/
structure Inv (M : SMod) (q : QSt) : Prop where
  vars : q.vars.map qP = M.vars
  m : q.m = M.rules.length
  so : ∀ s, (q.g s).so = if 0 ≤ varX M.vars s then 4 else if 0 ≤ slstX M.lists s then 5 else 0
  pl : ∀ s, 0 ≤ varX M.vars s → (q.g s).pl = varX M.vars s ∧ ∃ v, M.vars[(varX M.vars s).toNat]? = some v ∧ (q.g s).lo = v.low ∧ (q.g s).hi = v.high
  apart : ∀ s, 0 ≤ varX M.vars s → slstX M.lists s < 0
variable {M : SMod} {q : QSt}
theorem Inv.so4 (h : Inv M q) (s : ByteArray) : ((q.g s).so != 4) = decide (varX M.vars s < 0) := by
  rw [h.so s]
  by_cases c : 0 ≤ varX M.vars s
  · rw [if_pos c]; simp; exact c
  · rw [if_neg c, decide_eq_true (by omega)]; split <;> decide
theorem Inv.so0 (h : Inv M q) (s : ByteArray) : ((q.g s).so != 0) = (decide (0 ≤ varX M.vars s) || decide (0 ≤ slstX M.lists s)) := by
  rw [h.so s]
  by_cases c : 0 ≤ varX M.vars s
  · rw [if_pos c, decide_eq_true c]; rfl
  · rw [if_neg c, decide_eq_false c]
    by_cases c' : 0 ≤ slstX M.lists s
    · rw [if_pos c', decide_eq_true c']; rfl
    · rw [if_neg c', decide_eq_false c']; rfl
theorem Inv.so5 (h : Inv M q) (s : ByteArray) : ((q.g s).so != 5) = decide (slstX M.lists s < 0) := by
  rw [h.so s]
  by_cases c : 0 ≤ varX M.vars s
  · rw [if_pos c, decide_eq_true (h.apart s c)]; rfl
  · rw [if_neg c]
    by_cases c' : 0 ≤ slstX M.lists s
    · rw [if_pos c', decide_eq_false (by omega)]; rfl
    · rw [if_neg c', decide_eq_true (by omega)]; rfl
theorem Inv.truth (h : Inv M q) (t : PTok) (st : FSt) : trSt M.vars t st = truthSt q.g t st := by
  unfold trSt truthKind truthLine truthSt
  rw [h.so4 t.s]
  have hs := h.so t.s
  by_cases c : 0 ≤ varX M.vars t.s
  · rw [if_neg (by omega), if_neg (by omega), decide_eq_false (by omega), flt_false]
    rw [if_pos c] at hs
    obtain ⟨-, v, hv, h1, h2⟩ := h.pl t.s c
    have e : noTruthT (thFind q.g t.s 4) = noTruth M.vars (varX M.vars t.s) := by
      unfold thFind noTruthT noTruth
      rw [if_pos hs, hv, h1, h2]
    rw [e]; rfl
  · rw [if_pos (by omega), if_pos (by omega), decide_eq_true (by omega)]
    have e : noTruthT (thFind q.g t.s 4) = false := by
      unfold thFind
      rw [if_neg]
      · rfl
      · rw [hs, if_neg c]; split <;> decide
    rw [e, flt_false]; rfl
theorem tval_int {t : PTok} (h : t.kind = 105) : tval t = intVal t.s := by unfold tval; rw [if_pos h]
theorem kwSort_bd (s : ByteArray) : kwSort s = 2 ∨ 4 ≤ kwSort s := by
  unfold kwSort
  repeat' split
  all_goals decide
theorem srt_int {t : PTok} (h : srt t = 3) : t.kind = 105 := by
  unfold srt at h
  by_cases c : t.kind = 105
  · exact c
  · rw [if_neg c] at h
    by_cases c2 : t.kind = 115
    · rw [if_pos c2] at h
      by_cases z : sgSort t.s = 0
      · omega
      · have := sgSort_of t.s z; omega
    · rw [if_neg c2] at h
      split at h
      · omega
      · have := kwSort_bd t.s; omega
theorem lt_shift (n k : Nat) : decide ((n : Int) < ((k + 1 : Nat) : Int)) = decide ((n : Int) ≤ (k : Int)) := decide_eq_decide.2 (by omega)
theorem terms_alike (h : Inv M q) : ∀ (ts : List GTerm) (k : Nat) (st : FSt), (∀ t ∈ ts, srt t.first ≠ 3 → t.first = t.name) → termsSt M.vars (k + 1) (ts.map gP) st = foldSt (termStP q.g) k ts st := by
  intro ts
  induction ts with
  | nil => intro k st _; rfl
  | cons t ts ih =>
    intro k st ht
    simp only [List.map_cons, termsSt, foldSt]
    rw [ih (k + 1) _ (fun a ha => ht a (by simp [ha]))]
    congr 1
    unfold termSt termStP facSt gP
    simp only
    rw [h.so4]
    have e8 : decide ((8 : Int) < ((k + 1 : Nat) : Int)) = decide ((8 : Int) ≤ (k : Int)) := lt_shift 8 k
    by_cases c : srt t.first = 3
    · simp only [c, if_true]
      rw [tval_int (srt_int c), e8]
    · simp only [c, if_false]
      rw [e8, ht t (by simp) c]
theorem names_alike (h : Inv M q) : ∀ (ts : List PTok) (k : Nat) (st : FSt), namesSt M.vars (k + 1) ts st = foldSt (varStP q.g) k ts st := by
  intro ts
  induction ts with
  | nil => intro k st; rfl
  | cons t ts ih =>
    intro k st
    simp only [namesSt, foldSt]
    rw [ih (k + 1) _]
    congr 1
    unfold nameSt varStP
    rw [h.so4, show decide ((8 : Int) < ((k + 1 : Nat) : Int)) = decide ((8 : Int) ≤ (k : Int)) from lt_shift 8 k]
theorem lits_alike (h : Inv M q) : ∀ (ts : List GLit) (k : Nat) (st : FSt), (∀ t ∈ ts, srt t.first ≠ 22 → t.first = t.name) → litsSt M.vars (k + 1) (ts.map gL) st = foldSt (litStP q.g) k ts st := by
  intro ts
  induction ts with
  | nil => intro k st _; rfl
  | cons t ts ih =>
    intro k st ht
    simp only [List.map_cons, litsSt, foldSt]
    rw [ih (k + 1) _ (fun a ha => ht a (by simp [ha]))]
    congr 1
    unfold litSt
    rw [h.truth]
    have e8 : decide ((8 : Int) < ((k + 1 : Nat) : Int)) = decide ((8 : Int) ≤ (k : Int)) := lt_shift 8 k
    have eh : (gL t).head = t.first := by
      unfold PLit.head gL
      by_cases c : srt t.first = 22
      · simp [c]
      · simp [c]; exact (ht t (by simp) c).symm
    rw [e8, eh]
    rfl
theorem nums_alike : ∀ (ts : List PTok) (k : Nat) (st : FSt), (∀ t ∈ ts, t.kind = 105) → numsSt (k + 1) ts st = foldSt numStP k ts st := by
  intro ts
  induction ts with
  | nil => intro k st _; rfl
  | cons t ts ih =>
    intro k st ht
    simp only [numsSt, foldSt]
    rw [ih (k + 1) _ (fun a ha => ht a (by simp [ha]))]
    congr 1
    unfold numSt numStP
    rw [tval_int (ht t (by simp)), show decide ((20 : Int) < ((k + 1 : Nat) : Int)) = decide ((20 : Int) ≤ (k : Int)) from lt_shift 20 k]

/-- a statement's faults are the same -/
theorem step_alike (h : Inv M q) {g : GSt} (hg : GOk g) : stSt M (gS g) q.st = (qStep g q).st := by
  obtain ⟨k, hk⟩ : ∃ k, srt g.kw = k := ⟨_, rfl⟩
  have h4 := hg.k4
  have h10 := hg.k10
  have hcs : k = 4 ∨ k = 5 ∨ k = 6 ∨ k = 7 ∨ k = 8 ∨ k = 9 ∨ k = 10 := by omega
  rcases hcs with rfl | rfl | rfl | rfl | rfl | rfl | rfl
  · obtain ⟨lo, hi, e, k1, k2⟩ := hg.n4 hk
    unfold qStep stSt gS
    simp only [hk, e, if_true, List.getD_cons_zero, List.getD_cons_succ]
    unfold varDecl
    rw [h.so0, tval_int k1, tval_int k2, ← h.vars, List.length_map]
    exact flt_or _ _ _ _ _ (by decide)
  · unfold qStep stSt gS
    simp only [hk, if_true, show ¬ (5 : Int) = 4 by decide, if_false]
    rw [h.so0]
    exact nums_alike _ 0 _ (hg.n5 hk)
  · obtain ⟨N, e, k1⟩ := hg.n6 (.inl hk)
    unfold qStep stSt gS conSt qLinSt
    simp only [hk, e, show ¬ (6 : Int) = 4 by decide, show ¬ (6 : Int) = 5 by decide, show ¬ (6 : Int) = 7 by decide, show ¬ (6 : Int) = 8 by decide, show ¬ (6 : Int) = 9 by decide, show ¬ (6 : Int) = 10 by decide, if_false, List.getD_cons_zero]
    rw [tval_int k1, ← terms_alike h _ 0 _ hg.tm, h.m]
    rfl
  · obtain ⟨N, e, k1⟩ := hg.n6 (.inr hk)
    unfold qStep stSt gS conSt qLinSt
    simp only [hk, e, show ¬ (7 : Int) = 4 by decide, show ¬ (7 : Int) = 5 by decide, show ¬ (7 : Int) = 8 by decide, if_false, if_true, List.getD_cons_zero]
    rw [tval_int k1, ← terms_alike h _ 0 _ hg.tm, h.m, ← h.truth]
    rfl
  · obtain ⟨A, B, e⟩ := hg.n8 hk
    unfold qStep stSt gS conSt
    simp only [hk, e, show ¬ (8 : Int) = 4 by decide, show ¬ (8 : Int) = 5 by decide, show ¬ (8 : Int) = 7 by decide, if_false, if_true, List.getD_cons_zero, List.getD_cons_succ]
    rw [h.so4, h.so4, h.so5, h.m]
    rfl
  · unfold qStep stSt gS conSt
    simp only [hk, show ¬ (9 : Int) = 4 by decide, show ¬ (9 : Int) = 5 by decide, show ¬ (9 : Int) = 7 by decide, show ¬ (9 : Int) = 8 by decide, if_false, if_true]
    rw [← names_alike h, h.m]
    rfl
  · unfold qStep stSt gS conSt
    simp only [hk, show ¬ (10 : Int) = 4 by decide, show ¬ (10 : Int) = 5 by decide, show ¬ (10 : Int) = 7 by decide, show ¬ (10 : Int) = 8 by decide, show ¬ (10 : Int) = 9 by decide, if_false, if_true]
    rw [← lits_alike h _ 0 _ hg.lt, h.m]
    rfl
end Go.Proofs.YthpcbbnabnlanaaGreatDoor
