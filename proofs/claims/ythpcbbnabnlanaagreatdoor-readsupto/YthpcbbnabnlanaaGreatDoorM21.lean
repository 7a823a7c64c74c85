import Derived.Test.YthpcbbnabnlanaaGreatDoorM20
/-
  The plain mathematics of a parse without a fault: each statement has its shape.
-/
namespace Go.Proofs.YthpcbbnabnlanaaGreatDoor
set_option linter.unusedVariables false
variable {toks : List PTok}

theorem zero_ok : TOk zeroTok := ⟨by show ByteArray.empty.size ≤ 2000; decide, by simp [tval, zeroTok], by simp [tval, zeroTok]⟩
theorem sumF_mem (h : ∀ i, TOk (tkN toks i)) (f : Nat) : ∀ (acc : List GTerm) (S : PSt), (∀ a ∈ acc, TOk a.first ∧ TOk a.name) → ∀ a ∈ (sumF toks f acc S).1, TOk a.first ∧ TOk a.name := by
  induction f with
  | zero => intro acc S ha; exact ha
  | succ f ih =>
    intro acc S ha
    simp only [sumF]
    split
    · refine ih _ _ (fun a hm => ?_)
      rcases List.mem_append.1 hm with hm | hm
      · exact ha a hm
      · obtain rfl : a = _ := by simpa using hm
        unfold pTerm; split
        · exact ⟨h _, h _⟩
        · exact ⟨h _, h _⟩
    · exact ha
theorem pSum_mem (h : ∀ i, TOk (tkN toks i)) (S : PSt) : ∀ a ∈ (pSum toks S).1, TOk a.first ∧ TOk a.name := by
  refine sumF_mem h _ _ _ (fun a hm => ?_)
  obtain rfl : a = _ := by simpa using hm
  unfold pTerm; split
  · exact ⟨h _, h _⟩
  · exact ⟨h _, h _⟩
theorem sumF_len (f : Nat) : ∀ (acc : List GTerm) (S : PSt), acc.length ≤ (sumF toks f acc S).1.length ∧ (sumF toks f acc S).1.length ≤ acc.length + f := by
  induction f with
  | zero => intro acc S; simp [sumF]
  | succ f ih =>
    intro acc S
    simp only [sumF]
    split
    · have := ih (acc ++ [(pTerm toks (srt (tkN toks S.1) == 23) (pTake toks [20, 23] S)).1]) (pTerm toks (srt (tkN toks S.1) == 23) (pTake toks [20, 23] S)).2
      simp at this; omega
    · simp
theorem serF_mem {α : Type} {one : PSt → α × PSt} {P : α → Prop} (h : ∀ S, P (one S).1) (f : Nat) : ∀ (acc : List α) (S : PSt), (∀ a ∈ acc, P a) → ∀ a ∈ (serF toks one f acc S).1, P a := by
  induction f with
  | zero => intro acc S ha; exact ha
  | succ f ih =>
    intro acc S ha
    simp only [serF]
    split
    · refine ih _ _ (fun a hm => ?_)
      rcases List.mem_append.1 hm with hm | hm
      · exact ha a hm
      · obtain rfl : a = _ := by simpa using hm
        exact h _
    · exact ha
theorem pSer_mem {α : Type} {one : PSt → α × PSt} {P : α → Prop} (h : ∀ S, P (one S).1) (S : PSt) : ∀ a ∈ (pSer toks one S).1, P a :=
  serF_mem h _ _ _ (fun a hm => by obtain rfl : a = _ := by simpa using hm
                                   exact h _)
theorem serF_len {α : Type} {one : PSt → α × PSt} (f : Nat) : ∀ (acc : List α) (S : PSt), acc.length ≤ (serF toks one f acc S).1.length ∧ (serF toks one f acc S).1.length ≤ acc.length + f := by
  induction f with
  | zero => intro acc S; simp [serF]
  | succ f ih =>
    intro acc S
    simp only [serF]
    split
    · have := ih (acc ++ [(one (pTake toks [13] S)).1]) (one (pTake toks [13] S)).2
      simp at this; omega
    · simp
theorem pSer_len {α : Type} {one : PSt → α × PSt} (S : PSt) : 1 ≤ (pSer toks one S).1.length ∧ (pSer toks one S).1.length ≤ 1 + toks.length := by
  have := serF_len (toks := toks) (one := one) toks.length [(one S).1] (one S).2
  unfold pSer; simpa using this
theorem pSum_len (S : PSt) : 1 ≤ (pSum toks S).1.length ∧ (pSum toks S).1.length ≤ 1 + toks.length := by
  have := sumF_len (toks := toks) toks.length [(pTerm toks false S).1] (pTerm toks false S).2
  unfold pSum; simpa using this
theorem ne_of_len {α : Type} {l : List α} (h : 1 ≤ l.length) : l ≠ [] := by intro e; rw [e] at h; simp at h

theorem pLit_ok (h : ∀ i, TOk (tkN toks i)) (S : PSt) : TOk (pLit toks S).1.first ∧ TOk (pLit toks S).1.name := by
  unfold pLit; split
  · exact ⟨h _, h _⟩
  · exact ⟨h _, h _⟩
/-- the statement of a keyword has its shape -/
theorem stmt_ok (hlen : toks.length ≤ 2001) (h : ∀ i, TOk (tkN toks i)) (S : PSt) (hk : kwSorts.contains (srt (tkN toks S.1)) = true) : StOk (pStmt toks S).1 := by
  have hkw : srt (tkN toks S.1) = 4 ∨ srt (tkN toks S.1) = 5 ∨ srt (tkN toks S.1) = 6 ∨ srt (tkN toks S.1) = 7 ∨ srt (tkN toks S.1) = 8 ∨ srt (tkN toks S.1) = 9 ∨ srt (tkN toks S.1) = 10 := by
    simpa [kwSorts] using hk
  have nl : ∀ {P : PTok → Prop}, ∀ a ∈ ([] : List PTok), P a := fun a ha => by simp at ha
  have nt : ∀ a ∈ ([] : List GTerm), TOk a.first ∧ TOk a.name := fun a ha => by simp at ha
  have nli : ∀ a ∈ ([] : List GLit), TOk a.first ∧ TOk a.name := fun a ha => by simp at ha
  unfold pStmt
  simp only
  generalize hkd : srt (tkN toks S.1) = k at *
  rcases hkw with rfl | rfl | rfl | rfl | rfl | rfl | rfl
  · rw [if_pos rfl]
    exact ⟨h _, fun a ha => by simp at ha; rcases ha with rfl | rfl <;> exact h _, nl, nt, nli, by simp, by simp, by simp, by simp, fun _ => ⟨_, _, rfl⟩, fun q => by simp [hkd] at q, fun q => by simp [hkd] at q, fun q => by simp [hkd] at q, fun q => by simp [hkd] at q, fun q => by simp [hkd] at q, by simp [hkd]⟩
  · rw [if_neg (by decide), if_pos rfl]
    have hl := pSer_len (toks := toks) (one := pTok toks 3) (pTake toks [18] (pTake toks [14] (pTake toks [2] (pTake toks kwSorts S))))
    exact ⟨h _, pSer_mem (P := TOk) (fun S => h _) _, nl, nt, nli, (by show (pSer toks (pTok toks 3) _).1.length ≤ 3000; omega), by simp, by simp, by simp, fun q => by simp [hkd] at q, fun _ => ne_of_len hl.1, fun q => by simp [hkd] at q, fun q => by simp [hkd] at q, fun q => by simp [hkd] at q, fun q => by simp [hkd] at q, by simp [hkd]⟩
  · rw [if_neg (by decide), if_neg (by decide), if_neg (by decide), if_pos rfl]
    have hl := pSum_len (toks := toks) (pTake toks kwSorts S)
    exact ⟨zero_ok, fun a ha => by simp [pLin] at ha; rw [ha]; exact h _, nl, pSum_mem h _, nli, by simp [pLin], by simp [pLin], (by show (pSum toks _).1.length ≤ 3000; omega), by simp [pLin], fun q => by simp [pLin, hkd] at q, fun q => by simp [pLin, hkd] at q, fun _ => ⟨ne_of_len hl.1, _, rfl⟩, fun q => by simp [pLin, hkd] at q, fun q => by simp [pLin, hkd] at q, fun q => by simp [pLin, hkd] at q, by simp [pLin, hkd]⟩
  · rw [if_neg (by decide), if_neg (by decide), if_pos rfl]
    have hl := pSum_len (toks := toks) (pTake toks [12] (pTake toks [2] (pTake toks kwSorts S)))
    exact ⟨h _, fun a ha => by simp [pLin] at ha; rw [ha]; exact h _, nl, pSum_mem h _, nli, by simp [pLin], by simp [pLin], (by show (pSum toks _).1.length ≤ 3000; omega), by simp [pLin], fun q => by simp [pLin, hkd] at q, fun q => by simp [pLin, hkd] at q, fun _ => ⟨ne_of_len hl.1, _, rfl⟩, fun q => by simp [pLin, hkd] at q, fun q => by simp [pLin, hkd] at q, fun q => by simp [pLin, hkd] at q, by simp [pLin, hkd]⟩
  · rw [if_neg (by decide), if_neg (by decide), if_neg (by decide), if_neg (by decide), if_pos rfl]
    exact ⟨h _, nl, fun a ha => by simp at ha; rcases ha with rfl | rfl <;> exact h _, nt, nli, by simp, by simp, by simp, by simp, fun q => by simp [hkd] at q, fun q => by simp [hkd] at q, fun q => by simp [hkd] at q, fun _ => ⟨_, _, rfl⟩, fun q => by simp [hkd] at q, fun q => by simp [hkd] at q, by simp [hkd]⟩
  · rw [if_neg (by decide), if_neg (by decide), if_neg (by decide), if_neg (by decide), if_neg (by decide), if_pos rfl]
    have hl := pSer_len (toks := toks) (one := pTok toks 2) (pTake toks kwSorts S)
    exact ⟨zero_ok, nl, pSer_mem (P := TOk) (fun S => h _) _, nt, nli, by simp, (by show (pSer toks (pTok toks 2) _).1.length ≤ 3000; omega), by simp, by simp, fun q => by simp [hkd] at q, fun q => by simp [hkd] at q, fun q => by simp [hkd] at q, fun q => by simp [hkd] at q, fun _ => ne_of_len hl.1, fun q => by simp [hkd] at q, by simp [hkd]⟩
  · rw [if_neg (by decide), if_neg (by decide), if_neg (by decide), if_neg (by decide), if_neg (by decide), if_neg (by decide), if_pos rfl]
    have hl := pSer_len (toks := toks) (one := pLit toks) (pTake toks kwSorts S)
    exact ⟨zero_ok, nl, nl, nt, pSer_mem (P := fun a : GLit => TOk a.first ∧ TOk a.name) (pLit_ok h) _, by simp, by simp, by simp, (by show (pSer toks (pLit toks) _).1.length ≤ 3000; omega), fun q => by simp [hkd] at q, fun q => by simp [hkd] at q, fun q => by simp [hkd] at q, fun q => by simp [hkd] at q, fun q => by simp [hkd] at q, fun _ => ne_of_len hl.1, by simp [hkd]⟩
end Go.Proofs.YthpcbbnabnlanaaGreatDoor

/-
  The plain mathematics of a parse without a fault, whole.
-/
namespace Go.Proofs.YthpcbbnabnlanaaGreatDoor
set_option linter.unusedVariables false
variable {toks : List PTok}

theorem lexF_line1 (s : ByteArray) (f : Nat) : ∀ (i line : Nat) (acc : List PTok), line ≤ (lexF s f i line acc).2.2 := by
  induction f with
  | zero => intro i line acc; simp [lexF]
  | succ f ih =>
    intro i line acc
    simp only [lexF]
    split
    · split
      · have := ih (i + 1) (line + 1) acc; omega
      · split
        · exact ih _ _ _
        · split
          · exact ih _ _ _
          · split
            · simp
            · exact ih _ _ _
    · simp
theorem prog_line (s : ByteArray) (i : Nat) (hi : i < (progToks s).length) : 1 ≤ (tkN (progToks s) i).line := by
  have key : ∀ t ∈ progToks s, 1 ≤ t.line := fun t ht => by
    rcases List.mem_append.1 ht with ht | ht
    · exact lex_line s t ht
    · obtain rfl : t = endTok (lex s).2.2 := by simpa using ht
      exact lexF_line1 s s.size 0 1 []
  unfold tkN
  rw [List.getD_eq_getElem?_getD, List.getElem?_eq_getElem hi]
  exact key _ (List.getElem_mem hi)
theorem pStmt_lt (hE : EndOk toks) {S : PSt} (hi : S.1 < toks.length) : (pStmt toks S).2.1 < toks.length := by
  have T : ∀ {sorts : List Int} {S : PSt}, sorts.contains 1 = false → S.1 < toks.length → (pTake toks sorts S).1 < toks.length := fun hs h => pTake_lt hE hs h
  have h1 := T (sorts := kwSorts) rfl hi
  have h2 := T (sorts := [2]) rfl h1
  have h3 := T (sorts := [12]) rfl h2
  have L : ∀ (s : GSt) {S : PSt}, S.1 < toks.length → (pLin toks s S).2.1 < toks.length := fun s S h => T rfl (T rfl (pSum_lt hE h))
  unfold pStmt
  simp only
  split
  · exact T rfl (T rfl (T rfl h3))
  · split
    · exact T rfl (pSer_lt hE (fun S h => T rfl h) (T rfl (T rfl h2)))
    · split
      · exact L _ h3
      · split
        · exact L _ h1
        · split
          · exact T rfl (T rfl (T rfl (T rfl (T rfl h2))))
          · split
            · exact pSer_lt hE (fun S h => T rfl h) h1
            · split
              · exact pSer_lt hE (fun S h => (pLit_lt hE h).1) h1
              · exact h1
theorem adv_parseF (f : Nat) : ∀ (acc : List GSt) (S : PSt), Adv S (parseF toks f acc S).2 := by
  induction f with
  | zero => intro acc S; exact Adv.refl S
  | succ f ih =>
    intro acc S
    simp only [parseF]
    split
    · exact (((adv_take toks kwSorts S).trans (adv_stmt toks S)).trans (adv_take toks [11] _)).trans (ih _ _)
    · exact Adv.refl S
theorem kw_taken (hL : ∀ i, i < toks.length → 1 ≤ (tkN toks i).line) {S : PSt} (hi : S.1 < toks.length) (h0 : S.2 = 0) (h : (pTake toks kwSorts S).2 = 0) : kwSorts.contains (srt (tkN toks S.1)) = true := by
  unfold pTake at h
  rw [if_pos h0] at h
  by_cases c : kwSorts.contains (srt (tkN toks S.1)) = true
  · exact c
  · rw [if_neg c] at h
    have := hL S.1 hi
    simp only at h
    omega
theorem parseF_ok (hE : EndOk toks) (hL : ∀ i, i < toks.length → 1 ≤ (tkN toks i).line) (hT : ∀ i, TOk (tkN toks i)) (f : Nat) : ∀ (acc : List GSt) (S : PSt), S.1 < toks.length → (∀ s ∈ acc, StOk s) → (parseF toks f acc S).2.2 = 0 → ∀ s ∈ (parseF toks f acc S).1, StOk s := by
  induction f with
  | zero => intro acc S _ ha _; exact ha
  | succ f ih =>
    intro acc S hi ha hz
    simp only [parseF] at hz ⊢
    by_cases c : S.2 = 0 ∧ srt (tkN toks S.1) ≠ 1
    · rw [if_pos c] at hz ⊢
      have hz1 := (adv_parseF f (acc ++ [(pStmt toks S).1]) (pTake toks [11] (pStmt toks S).2)).2 hz
      have hz2 := ((adv_stmt toks S).trans (adv_take toks [11] _)).2 hz1
      refine ih _ _ (pTake_lt hE rfl (pStmt_lt hE hi)) (fun s hs => ?_) hz
      rcases List.mem_append.1 hs with hs | hs
      · exact ha s hs
      · obtain rfl : s = (pStmt toks S).1 := by simpa using hs
        exact stmt_ok hE.len hT S (kw_taken hL hi c.1 hz2)
    · rw [if_neg c]; exact ha
theorem parseF_len (f : Nat) : ∀ (acc : List GSt) (S : PSt), (parseF toks f acc S).1.length ≤ acc.length + f := by
  induction f with
  | zero => intro acc S; simp [parseF]
  | succ f ih =>
    intro acc S
    simp only [parseF]
    split
    · have := ih (acc ++ [(pStmt toks S).1]) (pTake toks [11] (pStmt toks S).2); simp at this; omega
    · simp
/-- of a text: the parse, without a fault -/
theorem parse_ok (s : ByteArray) (hs : s.size ≤ 2000) (h : (pParse (progToks s)).2.2 = 0) : (∀ x ∈ (pParse (progToks s)).1, StOk x) ∧ (pParse (progToks s)).1.length ≤ 2500 := by
  have hE := prog_end s hs
  refine ⟨parseF_ok hE (prog_line s) (tok_ok s hs) _ [] (0, 0) hE.pos (fun x hx => by simp at hx) h, ?_⟩
  have := parseF_len (toks := progToks s) ((progToks s).length + 1) [] (0, 0)
  have := hE.len
  unfold pParse
  simp at *; omega
end Go.Proofs.YthpcbbnabnlanaaGreatDoor
