import Derived.Test.YthpcbbnabnlanaaGreatDoorM26
/-
  The plain mathematics between the two sides: sums, series, lits.
-/
namespace Go.Proofs.YthpcbbnabnlanaaGreatDoor
set_option linter.unusedVariables false
variable {T : List PTok} {L : Nat}

theorem contains_two (x a b : Int) (h : x ≠ b) : [a, b].contains x = decide (x = a) := by simp [h]
theorem sim_term (hC : Cut T L) (neg : Bool) {S : PSt} (h0 : S.2 = 0) (hi : S.1 ≤ T.length) : Sim T L (-48) 2 [yTerm] S.1 (pTerm (pt T L) neg S).2 := by
  obtain ⟨ho, hso, -⟩ := at_hand hC hi
  unfold pTerm
  by_cases c : srt (tkN (pt T L) S.1) = 3
  · rw [if_pos c]
    have hk : (hand (T.drop S.1)).kind = 105 := ho.int.2 (hso.trans c)
    refine Sim.expand (next := [yINT, gStar, yNAME]) (by rw [hk]; rfl) (d := -49) (D := 1) ?_ (by decide) (by decide)
    refine Sim.seq (a := [yINT]) (b := [gStar, yNAME]) (sim_take hC 3 (by decide) (by decide) [3, 2] (by rw [c]; rfl) h0 hi) (fun e hn => ?_) (fun e => by simp only [take_stuck e]) (d2 := -98) (D2 := 1) (by decide) (by decide) (by decide)
    exact Sim.seq (a := [gStar]) (b := [yNAME]) (sim_one hC 21 (by decide) (by decide) e hn) (fun e hn => sim_one hC 2 (by decide) (by decide) e hn) (fun e => take_stuck e) (by decide) (by decide) (by decide)
  · rw [if_neg c]
    have hk : ¬ (hand (T.drop S.1)).kind = 105 := fun q => c (hso.symm.trans (ho.int.1 q))
    refine Sim.expand (next := [yNAME]) (by unfold becomes; rw [if_neg (by decide), if_neg (by decide), if_neg (by decide), if_neg (by decide), if_neg (by decide), if_neg (by decide), if_neg (by decide), if_neg (by decide), if_pos rfl, if_neg hk]) (d := -49) (D := 1) ?_ (by decide) (by decide)
    exact sim_take hC 2 (by decide) (by decide) [3, 2] (by simp [c]) h0 hi
theorem sim_lit (hC : Cut T L) {S : PSt} (h0 : S.2 = 0) (hi : S.1 ≤ T.length) : Sim T L (-48) 2 [yLit] S.1 (pLit (pt T L) S).2 := by
  obtain ⟨ho, hso, -⟩ := at_hand hC hi
  have hb := ho.byt 22 (by decide) (by decide)
  rw [hso] at hb
  unfold pLit
  by_cases c : srt (tkN (pt T L) S.1) = 22
  · rw [if_pos c]
    have hts : (hand (T.drop S.1)).s.toList = gNot := hb.2 c
    refine Sim.expand (next := [gNot, yNAME]) (by rw [hts]; rfl) (d := -49) (D := 1) ?_ (by decide) (by decide)
    exact Sim.seq (a := [gNot]) (b := [yNAME]) (sim_take hC 22 (by decide) (by decide) [22, 2] (by rw [c]; rfl) h0 hi) (fun e hn => sim_one hC 2 (by decide) (by decide) e hn) (fun e => take_stuck e) (by decide) (by decide) (by decide)
  · rw [if_neg c]
    have hts : ¬ (hand (T.drop S.1)).s.toList = gNot := fun q => c (hb.1 q)
    refine Sim.expand (next := [yNAME]) (by unfold becomes; rw [if_neg (by decide), if_neg (by decide), if_neg (by decide), if_neg (by decide), if_neg (by decide), if_pos rfl, if_neg hts]) (d := -49) (D := 1) ?_ (by decide) (by decide)
    exact sim_take hC 2 (by decide) (by decide) [22, 2] (by simp [c]) h0 hi
/-- a relation -/
theorem sim_rel (hC : Cut T L) {S : PSt} (h0 : S.2 = 0) (hi : S.1 ≤ T.length) : Sim T L (-48) 2 [yRel] S.1 (pTake (pt T L) [14, 15, 16] S) := by
  obtain ⟨ho, hso, -⟩ := at_hand hC hi
  have b15 := ho.byt 15 (by decide) (by decide)
  have b16 := ho.byt 16 (by decide) (by decide)
  rw [hso] at b15 b16
  by_cases c : srt (tkN (pt T L) S.1) = 15
  · have hts : (hand (T.drop S.1)).s.toList = gNe := b15.2 c
    exact Sim.expand (next := [gNe]) (by rw [hts]; rfl) (sim_take hC 15 (by decide) (by decide) [14, 15, 16] (by rw [c]; rfl) h0 hi) (by decide) (by decide)
  by_cases c' : srt (tkN (pt T L) S.1) = 16
  · have hts : (hand (T.drop S.1)).s.toList = gLe := b16.2 c'
    exact Sim.expand (next := [gLe]) (by rw [hts]; rfl) (sim_take hC 16 (by decide) (by decide) [14, 15, 16] (by rw [c']; rfl) h0 hi) (by decide) (by decide)
  have hts : ¬ ((hand (T.drop S.1)).s.toList = gNe ∨ (hand (T.drop S.1)).s.toList = gLe) := fun q => by
    rcases q with q | q
    · exact c (b15.1 q)
    · exact c' (b16.1 q)
  refine Sim.expand (next := [gEq]) (by unfold becomes; rw [if_neg (by decide), if_neg (by decide), if_neg (by decide), if_neg (by decide), if_neg (by decide), if_neg (by decide), if_neg (by decide), if_neg (by decide), if_neg (by decide), if_pos rfl, if_neg hts]) (d := -49) (D := 1) ?_ (by decide) (by decide)
  exact sim_take hC 14 (by decide) (by decide) [14, 15, 16] (by simp [c, c']) h0 hi
/-- further terms, and the relation -/
theorem sim_terms (hC : Cut T L) (f : Nat) : ∀ (acc : List GTerm) (S : PSt), S.2 = 0 → S.1 ≤ T.length → T.length - S.1 < f → Sim T L (-47) 3 [yTerms] S.1 (pTake (pt T L) [14, 15, 16] (sumF (pt T L) f acc S).2) := by
  induction f with
  | zero => intro acc S _ _ h; omega
  | succ f ih =>
    intro acc S h0 hi hf
    obtain ⟨ho, hso, -⟩ := at_hand hC hi
    have b20 := ho.byt 20 (by decide) (by decide)
    have b23 := ho.byt 23 (by decide) (by decide)
    rw [hso] at b20 b23
    simp only [sumF]
    by_cases c : srt (tkN (pt T L) S.1) = 20 ∨ srt (tkN (pt T L) S.1) = 23
    · rw [if_pos (by unfold pSees; rcases c with c | c <;> simp [h0, c])]
      obtain ⟨k, hk2, hk23, hks, hts⟩ : ∃ k : Int, 2 ≤ k ∧ k ≤ 23 ∧ srt (tkN (pt T L) S.1) = k ∧ (k = 20 ∨ k = 23) ∧ (hand (T.drop S.1)).s.toList = sym k := by
        rcases c with c | c
        · exact ⟨20, by decide, by decide, c, .inl rfl, b20.2 c⟩
        · exact ⟨23, by decide, by decide, c, .inr rfl, b23.2 c⟩
      have hbec : becomes yTerms (hand (T.drop S.1)).kind (hand (T.drop S.1)).s.toList = some [sym k, yTerm, yTerms] := by
        rw [hts.2]
        rcases hts.1 with rfl | rfl <;> rfl
      refine Sim.expand (next := [sym k, yTerm, yTerms]) hbec (d := -100) (D := 1) ?_ (by decide) (by decide)
      have s1 := sim_take hC k hk2 hk23 [20, 23] (S := S) (by rw [hks]; rcases hts.1 with rfl | rfl <;> rfl) h0 hi
      refine Sim.seq (a := [sym k]) (b := [yTerm, yTerms]) s1 (fun e hn => ?_) (fun e => ?_) (d2 := -95) (D2 := 2) (by decide) (by decide) (by decide)
      · have s2 := sim_term hC (srt (tkN (pt T L) S.1) == 23) e hn
        refine Sim.seq (a := [yTerm]) (b := [yTerms]) s2 (fun e' hn' => ?_) (fun e' => ?_) (d2 := -47) (D2 := 3) (by decide) (by decide) (by decide)
        · refine ih _ _ e' hn' ?_
          have q1 := (adv_term (pt T L) (srt (tkN (pt T L) S.1) == 23) (pTake (pt T L) [20, 23] S)).1
          have q2 : (pTake (pt T L) [20, 23] S).1 = S.1 + 1 := by
            rw [pTake_sees h0 (by rcases c with c | c <;> rw [c] <;> rfl)]
          omega
        · rw [sumF_stuck e', take_stuck e']
      · rw [term_stuck e, sumF_stuck e, take_stuck e]
    · rw [if_neg (by unfold pSees; simp only [h0]; simpa using c)]
      have hts : ¬ ((hand (T.drop S.1)).s.toList = gPlus ∨ (hand (T.drop S.1)).s.toList = gMinus) := fun q => c (q.imp b20.1 b23.1)
      exact Sim.expand (next := [yRel]) (by unfold becomes; rw [if_neg (by decide), if_neg (by decide), if_neg (by decide), if_neg (by decide), if_neg (by decide), if_neg (by decide), if_neg (by decide), if_pos rfl, if_neg hts]) (sim_rel hC h0 hi) (by decide) (by decide)
theorem pt_len : (pt T L).length = T.length + 1 := by simp [pt]
theorem sim_sum (hC : Cut T L) {S : PSt} (h0 : S.2 = 0) (hi : S.1 ≤ T.length) : Sim T L (-90) 3 [ySum] S.1 (pTake (pt T L) [14, 15, 16] (pSum (pt T L) S).2) := by
  refine Sim.expand (next := [yTerm, yTerms]) rfl (d := -95) (D := 2) ?_ (by decide) (by decide)
  refine Sim.seq (a := [yTerm]) (b := [yTerms]) (sim_term hC false h0 hi) (fun e hn => ?_) (fun e => ?_) (d2 := -47) (D2 := 3) (by decide) (by decide) (by decide)
  · exact sim_terms hC _ _ _ e hn (by rw [pt_len]; omega)
  · unfold pSum; rw [sumF_stuck e, take_stuck e]
/-- further ones of a series -/
theorem sim_serF {α : Type} (hC : Cut T L) (X Ys : List UInt8) (one : PSt → α × PSt) (hY : ∀ kd ts, becomes Ys kd ts = some (if ts = gComma then [gComma, X, Ys] else []))
    (hone : ∀ S : PSt, S.2 = 0 → S.1 ≤ T.length → Sim T L (-48) 2 [X] S.1 (one S).2) (hst : ∀ S : PSt, S.2 ≠ 0 → (one S).2 = S) (hadv : ∀ S : PSt, S.1 ≤ (one S).2.1) (f : Nat) :
    ∀ (acc : List α) (S : PSt), S.2 = 0 → S.1 ≤ T.length → T.length - S.1 < f → Sim T L 1 3 [Ys] S.1 (serF (pt T L) one f acc S).2 := by
  induction f with
  | zero => intro acc S _ _ h; omega
  | succ f ih =>
    intro acc S h0 hi hf
    obtain ⟨ho, hso, -⟩ := at_hand hC hi
    have b13 := ho.byt 13 (by decide) (by decide)
    rw [hso] at b13
    simp only [serF]
    by_cases c : srt (tkN (pt T L) S.1) = 13
    · rw [if_pos (by unfold pSees; simp [h0, c])]
      have hts : (hand (T.drop S.1)).s.toList = gComma := b13.2 c
      refine Sim.expand (next := [gComma, X, Ys]) (by rw [hY, if_pos hts]) (d := -90) (D := 1) ?_ (by decide) (by decide)
      refine Sim.seq (a := [gComma]) (b := [X, Ys]) (sim_one hC 13 (by decide) (by decide) h0 hi) (fun e hn => ?_) (fun e => ?_) (d2 := -47) (D2 := 3) (by decide) (by decide) (by decide)
      · refine Sim.seq (a := [X]) (b := [Ys]) (hone _ e hn) (fun e' hn' => ?_) (fun e' => ?_) (d2 := 1) (D2 := 3) (by decide) (by decide) (by decide)
        · refine ih _ _ e' hn' ?_
          have q1 := hadv (pTake (pt T L) [13] S)
          have q2 : (pTake (pt T L) [13] S).1 = S.1 + 1 := by rw [pTake_sees h0 (by rw [c]; rfl)]
          omega
        · rw [serF_stuck e']
      · rw [hst _ e, serF_stuck e]
    · rw [if_neg (by unfold pSees; simp only [h0]; simpa using c)]
      have hts : ¬ (hand (T.drop S.1)).s.toList = gComma := fun q => c (b13.1 q)
      exact Sim.expand (next := []) (by rw [hY, if_neg hts]) (sim_nil h0 hi) (by decide) (by decide)
theorem sim_ser {α : Type} (hC : Cut T L) (X Ys : List UInt8) (one : PSt → α × PSt) (hY : ∀ kd ts, becomes Ys kd ts = some (if ts = gComma then [gComma, X, Ys] else []))
    (hone : ∀ S : PSt, S.2 = 0 → S.1 ≤ T.length → Sim T L (-48) 2 [X] S.1 (one S).2) (hst : ∀ S : PSt, S.2 ≠ 0 → (one S).2 = S) (hadv : ∀ S : PSt, S.1 ≤ (one S).2.1) {S : PSt} (h0 : S.2 = 0) (hi : S.1 ≤ T.length) :
    Sim T L (-47) 2 [X, Ys] S.1 (pSer (pt T L) one S).2 := by
  refine Sim.seq (a := [X]) (b := [Ys]) (hone S h0 hi) (fun e hn => ?_) (fun e => ?_) (d2 := 1) (D2 := 3) (by decide) (by decide) (by decide)
  · exact sim_serF hC X Ys one hY hone hst hadv _ _ _ e hn (by rw [pt_len]; omega)
  · rw [pSer, serF_stuck e]
end Go.Proofs.YthpcbbnabnlanaaGreatDoor

/-
  The plain mathematics between the two sides: a statement, the whole text's form.
-/
namespace Go.Proofs.YthpcbbnabnlanaaGreatDoor
set_option linter.unusedVariables false
variable {T : List PTok} {L : Nat}

theorem sim_kw (hC : Cut T L) (k : Int) (h4 : 4 ≤ k) (h10 : k ≤ 10) {S : PSt} (h0 : S.2 = 0) (hi : S.1 ≤ T.length) (hk : srt (tkN (pt T L) S.1) = k) : Sim T L (-49) 1 [sym k] S.1 (pTake (pt T L) kwSorts S) := by
  refine sim_take hC k (by omega) (by omega) kwSorts ?_ h0 hi
  rw [hk]
  have : k = 4 ∨ k = 5 ∨ k = 6 ∨ k = 7 ∨ k = 8 ∨ k = 9 ∨ k = 10 := by omega
  rcases this with rfl | rfl | rfl | rfl | rfl | rfl | rfl <;> rfl
theorem becInts (kd : Int) (ts : List UInt8) : becomes yInts kd ts = some (if ts = gComma then [gComma, yINT, yInts] else []) := rfl
theorem becNames (kd : Int) (ts : List UInt8) : becomes yNames kd ts = some (if ts = gComma then [gComma, yNAME, yNames] else []) := rfl
theorem becLits (kd : Int) (ts : List UInt8) : becomes yLits kd ts = some (if ts = gComma then [gComma, yLit, yLits] else []) := rfl
theorem sim_lin (hC : Cut T L) (s : GSt) {S : PSt} (h0 : S.2 = 0) (hi : S.1 ≤ T.length) : Sim T L (-90) 3 [ySum, yINT] S.1 (pLin (pt T L) s S).2 := by
  unfold pLin
  exact Sim.seq (a := [ySum]) (b := [yINT]) (sim_sum hC h0 hi) (fun e hn => sim_one hC 3 (by decide) (by decide) e hn) (fun e => take_stuck e) (by decide) (by decide) (by decide)
theorem lin_stuck {toks : List PTok} {s : GSt} {S : PSt} (h : S.2 ≠ 0) : (pLin toks s S).2 = S := by
  unfold pLin; simp only [sum_stuck h, take_stuck h]
theorem sim_stmt (hC : Cut T L) {S : PSt} (h0 : S.2 = 0) (hi : S.1 ≤ T.length) (hk4 : 4 ≤ srt (tkN (pt T L) S.1)) (hk10 : srt (tkN (pt T L) S.1) ≤ 10) : Sim T L (-48) 2 [yStatement] S.1 (pStmt (pt T L) S).2 := by
  obtain ⟨ho, hso, -⟩ := at_hand hC hi
  obtain ⟨k, hk⟩ : ∃ k, srt (tkN (pt T L) S.1) = k := ⟨_, rfl⟩
  have hb := (ho.byt k (by omega) (by omega)).2 (hso.trans hk)
  have s1 := sim_kw hC k (by omega) (by omega) h0 hi hk
  have one : ∀ (j : Int) (a : 2 ≤ j) (b : j ≤ 23) {S : PSt} (e : S.2 = 0) (hn : S.1 ≤ T.length), Sim T L (-49) 1 [sym j] S.1 (pTake (pt T L) [j] S) := fun j a b {S} e hn => sim_one hC j a b e hn
  have hcs : k = 4 ∨ k = 5 ∨ k = 6 ∨ k = 7 ∨ k = 8 ∨ k = 9 ∨ k = 10 := by omega
  unfold pStmt
  simp only
  rw [hk]
  rcases hcs with rfl | rfl | rfl | rfl | rfl | rfl | rfl
  · rw [if_pos rfl]
    refine Sim.expand (next := [kVar, yNAME, gColon, yINT, gDots, yINT]) (by rw [hb]; rfl) (d := -49) (D := 1) ?_ (by decide) (by decide)
    refine Sim.seq (a := [kVar]) (b := [yNAME, gColon, yINT, gDots, yINT]) s1 (fun e hn => ?_) (fun e => by simp only [take_stuck e]) (d2 := -49) (D2 := 1) (by decide) (by decide) (by decide)
    refine Sim.seq (a := [yNAME]) (b := [gColon, yINT, gDots, yINT]) (one 2 (by decide) (by decide) e hn) (fun e hn => ?_) (fun e => by simp only [take_stuck e]) (d2 := -49) (D2 := 1) (by decide) (by decide) (by decide)
    refine Sim.seq (a := [gColon]) (b := [yINT, gDots, yINT]) (one 12 (by decide) (by decide) e hn) (fun e hn => ?_) (fun e => by simp only [take_stuck e]) (d2 := -49) (D2 := 1) (by decide) (by decide) (by decide)
    refine Sim.seq (a := [yINT]) (b := [gDots, yINT]) (one 3 (by decide) (by decide) e hn) (fun e hn => ?_) (fun e => by simp only [take_stuck e]) (d2 := -49) (D2 := 1) (by decide) (by decide) (by decide)
    exact Sim.seq (a := [gDots]) (b := [yINT]) (one 17 (by decide) (by decide) e hn) (fun e hn => one 3 (by decide) (by decide) e hn) (fun e => take_stuck e) (by decide) (by decide) (by decide)
  · rw [if_neg (by decide), if_pos rfl]
    refine Sim.expand (next := [kList, yNAME, gEq, gOpen, yINT, yInts, gClose]) (by rw [hb]; rfl) (d := -49) (D := 1) ?_ (by decide) (by decide)
    have st : ∀ {S : PSt}, S.2 ≠ 0 → (pSer (pt T L) (pTok (pt T L) 3) S).2 = S := fun h => ser_stuck (fun S h => take_stuck h) h
    refine Sim.seq (a := [kList]) (b := [yNAME, gEq, gOpen, yINT, yInts, gClose]) s1 (fun e hn => ?_) (fun e => by simp only [take_stuck e, st e]) (d2 := -49) (D2 := 1) (by decide) (by decide) (by decide)
    refine Sim.seq (a := [yNAME]) (b := [gEq, gOpen, yINT, yInts, gClose]) (one 2 (by decide) (by decide) e hn) (fun e hn => ?_) (fun e => by simp only [take_stuck e, st e]) (d2 := -49) (D2 := 1) (by decide) (by decide) (by decide)
    refine Sim.seq (a := [gEq]) (b := [gOpen, yINT, yInts, gClose]) (one 14 (by decide) (by decide) e hn) (fun e hn => ?_) (fun e => by simp only [take_stuck e, st e]) (d2 := -49) (D2 := 1) (by decide) (by decide) (by decide)
    refine Sim.seq (a := [gOpen]) (b := [yINT, yInts, gClose]) (one 18 (by decide) (by decide) e hn) (fun e hn => ?_) (fun e => by simp only [take_stuck e, st e]) (d2 := -49) (D2 := 2) (by decide) (by decide) (by decide)
    exact Sim.seq (a := [yINT, yInts]) (b := [gClose]) (sim_ser hC yINT yInts (pTok (pt T L) 3) becInts (fun S e hn => (one 3 (by decide) (by decide) e hn).le (by decide) (by decide)) (fun S h => take_stuck h) (fun S => pTake_le) e hn) (fun e hn => one 19 (by decide) (by decide) e hn) (fun e => take_stuck e) (by decide) (by decide) (by decide)
  · rw [if_neg (by decide), if_neg (by decide), if_neg (by decide), if_pos rfl]
    refine Sim.expand (next := [kLin, ySum, yINT]) (by rw [hb]; rfl) (d := -49) (D := 1) ?_ (by decide) (by decide)
    exact Sim.seq (a := [kLin]) (b := [ySum, yINT]) s1 (fun e hn => sim_lin hC _ e hn) (fun e => lin_stuck e) (by decide) (by decide) (by decide)
  · rw [if_neg (by decide), if_neg (by decide), if_pos rfl]
    refine Sim.expand (next := [kWhen, yNAME, gColon, ySum, yINT]) (by rw [hb]; rfl) (d := -49) (D := 1) ?_ (by decide) (by decide)
    refine Sim.seq (a := [kWhen]) (b := [yNAME, gColon, ySum, yINT]) s1 (fun e hn => ?_) (fun e => by simp only [take_stuck e, lin_stuck e]) (d2 := -49) (D2 := 1) (by decide) (by decide) (by decide)
    refine Sim.seq (a := [yNAME]) (b := [gColon, ySum, yINT]) (one 2 (by decide) (by decide) e hn) (fun e hn => ?_) (fun e => by simp only [take_stuck e, lin_stuck e]) (d2 := -49) (D2 := 1) (by decide) (by decide) (by decide)
    exact Sim.seq (a := [gColon]) (b := [ySum, yINT]) (one 12 (by decide) (by decide) e hn) (fun e hn => sim_lin hC _ e hn) (fun e => lin_stuck e) (by decide) (by decide) (by decide)
  · rw [if_neg (by decide), if_neg (by decide), if_neg (by decide), if_neg (by decide), if_pos rfl]
    refine Sim.expand (next := [kAt, yNAME, gOpen, yNAME, gClose, gEq, yNAME]) (by rw [hb]; rfl) (d := -49) (D := 1) ?_ (by decide) (by decide)
    refine Sim.seq (a := [kAt]) (b := [yNAME, gOpen, yNAME, gClose, gEq, yNAME]) s1 (fun e hn => ?_) (fun e => by simp only [take_stuck e]) (d2 := -49) (D2 := 1) (by decide) (by decide) (by decide)
    refine Sim.seq (a := [yNAME]) (b := [gOpen, yNAME, gClose, gEq, yNAME]) (one 2 (by decide) (by decide) e hn) (fun e hn => ?_) (fun e => by simp only [take_stuck e]) (d2 := -49) (D2 := 1) (by decide) (by decide) (by decide)
    refine Sim.seq (a := [gOpen]) (b := [yNAME, gClose, gEq, yNAME]) (one 18 (by decide) (by decide) e hn) (fun e hn => ?_) (fun e => by simp only [take_stuck e]) (d2 := -49) (D2 := 1) (by decide) (by decide) (by decide)
    refine Sim.seq (a := [yNAME]) (b := [gClose, gEq, yNAME]) (one 2 (by decide) (by decide) e hn) (fun e hn => ?_) (fun e => by simp only [take_stuck e]) (d2 := -49) (D2 := 1) (by decide) (by decide) (by decide)
    refine Sim.seq (a := [gClose]) (b := [gEq, yNAME]) (one 19 (by decide) (by decide) e hn) (fun e hn => ?_) (fun e => by simp only [take_stuck e]) (d2 := -49) (D2 := 1) (by decide) (by decide) (by decide)
    exact Sim.seq (a := [gEq]) (b := [yNAME]) (one 14 (by decide) (by decide) e hn) (fun e hn => one 2 (by decide) (by decide) e hn) (fun e => take_stuck e) (by decide) (by decide) (by decide)
  · rw [if_neg (by decide), if_neg (by decide), if_neg (by decide), if_neg (by decide), if_neg (by decide), if_pos rfl]
    refine Sim.expand (next := [kDiff, yNAME, yNames]) (by rw [hb]; rfl) (d := -49) (D := 1) ?_ (by decide) (by decide)
    exact Sim.seq (a := [kDiff]) (b := [yNAME, yNames]) s1 (fun e hn => sim_ser hC yNAME yNames (pTok (pt T L) 2) becNames (fun S e hn => (one 2 (by decide) (by decide) e hn).le (by decide) (by decide)) (fun S h => take_stuck h) (fun S => pTake_le) e hn) (fun e => ser_stuck (fun S h => take_stuck h) e) (by decide) (by decide) (by decide)
  · rw [if_neg (by decide), if_neg (by decide), if_neg (by decide), if_neg (by decide), if_neg (by decide), if_neg (by decide), if_pos rfl]
    refine Sim.expand (next := [kOr, yLit, yLits]) (by rw [hb]; rfl) (d := -49) (D := 1) ?_ (by decide) (by decide)
    exact Sim.seq (a := [kOr]) (b := [yLit, yLits]) s1 (fun e hn => sim_ser hC yLit yLits (pLit (pt T L)) becLits (fun S e hn => sim_lit hC e hn) (fun S h => lit_stuck h) (fun S => (adv_lit _ S).1) e hn) (fun e => ser_stuck (fun S h => lit_stuck h) e) (by decide) (by decide) (by decide)

theorem parseF_stuck {toks : List PTok} {f : Nat} {acc : List GSt} {S : PSt} (h : S.2 ≠ 0) : parseF toks f acc S = (acc, S) := parseF_end (fun q => h q.1)
/-- the machine's end: no fault, or a fault of the line that the program tells -/
def FormEnd (L : Nat) (R : Int) (S : PSt) : Prop := (S.2 = 0 ∧ R = 0) ∨ (S.2 ≠ 0 ∧ R ≠ 0 ∧ flN L R = S.2)
theorem sim_model (hC : Cut T L) (f : Nat) : ∀ (acc : List GSt) (S : PSt), S.2 = 0 → S.1 ≤ T.length → T.length - S.1 < f →
    ∃ (k : Nat) (R : Int), (k : Int) ≤ 50 * ((T.length : Int) - S.1) + 10 ∧ formF k [yModel] (T.drop S.1) = some R ∧ FormEnd L R (parseF (pt T L) f acc S).2 := by
  induction f with
  | zero => intro acc S _ _ h; omega
  | succ f ih =>
    intro acc S h0 hi hf
    obtain ⟨ho, hso, hl0, hfl, hl1⟩ := at_hand hC hi
    by_cases ck : 4 ≤ srt (tkN (pt T L) S.1) ∧ srt (tkN (pt T L) S.1) ≤ 10
    · have hkd : (hand (T.drop S.1)).kind = 107 := ho.kwd.2 (by rw [hso]; exact ck)
      have hbec : becomes yModel (hand (T.drop S.1)).kind (hand (T.drop S.1)).s.toList = some [yStatement, gSemi, yModel] := by rw [hkd]; rfl
      rw [parseF_more h0 (by omega)]
      have hs : Sim T L (-97) 2 [yStatement, gSemi] S.1 (pTake (pt T L) [11] (pStmt (pt T L) S).2) :=
        Sim.seq (a := [yStatement]) (b := [gSemi]) (sim_stmt hC h0 hi ck.1 ck.2) (fun e hn => sim_one hC 11 (by decide) (by decide) e hn) (fun e => take_stuck e) (by decide) (by decide) (by decide)
      rcases hs with ⟨e, hi', hn, k, hk, hr⟩ | ⟨e, k, R, hk, hR, hfR, hb⟩
      · have hadv : S.1 < (pTake (pt T L) [11] (pStmt (pt T L) S).2).1 := by
          have := (adv_stmt (pt T L) S).trans (adv_take (pt T L) [11] _)
          have h1 := this.1
          have h2 : (pTake (pt T L) kwSorts S).1 = S.1 + 1 := by
            rw [pTake_sees h0]
            obtain ⟨j, hj⟩ : ∃ j, srt (tkN (pt T L) S.1) = j := ⟨_, rfl⟩
            rw [hj] at ck ⊢
            have : j = 4 ∨ j = 5 ∨ j = 6 ∨ j = 7 ∨ j = 8 ∨ j = 9 ∨ j = 10 := by omega
            rcases this with rfl | rfl | rfl | rfl | rfl | rfl | rfl <;> rfl
          omega
        obtain ⟨k', R, hk', hR, hE⟩ := ih (acc ++ [(pStmt (pt T L) S).1]) _ e hn (by omega)
        refine ⟨k' + k + 1, R, by omega, ?_, hE⟩
        rw [formF_some hbec]
        have := hr k' [yModel]
        rw [show [yStatement, gSemi, yModel] ++ [] = [yStatement, gSemi] ++ [yModel] from rfl, this, hR]
      · rw [parseF_stuck e]
        refine ⟨k + 1, R, by omega, ?_, .inr ⟨e, hR, hfR⟩⟩
        rw [formF_some hbec]
        have := hb 0 [yModel]
        rw [Nat.zero_add] at this
        exact this
    · have hkd : ¬ (hand (T.drop S.1)).kind = 107 := fun q => ck (by have := ho.kwd.1 q; rwa [hso] at this)
      have hbec : becomes yModel (hand (T.drop S.1)).kind (hand (T.drop S.1)).s.toList = some [] := by unfold becomes; rw [if_pos rfl, if_neg hkd]
      rcases Nat.lt_or_ge S.1 T.length with hlt | hge
      · have hne : srt (tkN (pt T L) S.1) ≠ 1 := by
          intro q
          have := ho.eof.2 (hso.trans q)
          rw [hand_lt hlt] at this
          rcases hC.kind _ (List.getElem_mem hlt) with q | q | q | q <;> omega
        rw [parseF_more h0 hne]
        have hns : kwSorts.contains (srt (tkN (pt T L) S.1)) = false := by
          obtain ⟨j, hj⟩ : ∃ j, srt (tkN (pt T L) S.1) = j := ⟨_, rfl⟩
          rw [hj] at ck ⊢
          have e : j ≠ 4 ∧ j ≠ 5 ∧ j ≠ 6 ∧ j ≠ 7 ∧ j ≠ 8 ∧ j ≠ 9 ∧ j ≠ 10 := by omega
          simp [kwSorts, e.1, e.2.1, e.2.2.1, e.2.2.2.1, e.2.2.2.2.1, e.2.2.2.2.2.1, e.2.2.2.2.2.2]
        have hst : (pStmt (pt T L) S).2 = (S.1, ((tkN (pt T L) S.1).line : Int)) := by
          have ht : pTake (pt T L) kwSorts S = (S.1, ((tkN (pt T L) S.1).line : Int)) := by
            unfold pTake; rw [if_pos h0, hns]; simp
          unfold pStmt
          simp only
          rw [if_neg (by omega), if_neg (by omega), if_neg (by omega), if_neg (by omega), if_neg (by omega), if_neg (by omega), if_neg (by omega), ht]
        have hs2 : (pStmt (pt T L) S).2.2 ≠ 0 := by rw [hst]; simp only; omega
        rw [take_stuck hs2, parseF_stuck hs2]
        refine ⟨2, T[S.1].line, by omega, ?_, .inr ⟨hs2, ?_, ?_⟩⟩
        · rw [formF_some hbec, List.drop_eq_getElem_cons hlt]; rfl
        · have := hC.line _ (List.getElem_mem hlt); omega
        · rw [hst, pt_lt hlt]; unfold flN; rw [if_neg (by omega)]
      · have e : S.1 = T.length := by omega
        rw [parseF_end (fun q => q.2 (by rw [e, pt_end, srt_end]))]
        refine ⟨2, 0, by omega, ?_, .inl ⟨h0, rfl⟩⟩
        rw [formF_some hbec, e, List.drop_length]; rfl
/-- the form: the machine's answer beside the program's -/
theorem form_parse (hC : Cut T L) (hn : T.length ≤ 2000) : ∃ (k : Nat) (R : Int), k ≤ 1000000 ∧ formF k [yModel] T = some R ∧ FormEnd L R (pParse (pt T L)).2 := by
  obtain ⟨k, R, hk, hR, hE⟩ := sim_model hC ((pt T L).length + 1) [] (0, 0) rfl (Nat.zero_le _) (by rw [pt_len]; omega)
  exact ⟨k, R, by simp only at hk; omega, hR, hE⟩
end Go.Proofs.YthpcbbnabnlanaaGreatDoor

/-
  The plain mathematics between the two sides: without a fault, what was read stands where the reference looks for it.
-/
namespace Go.Proofs.YthpcbbnabnlanaaGreatDoor
set_option linter.unusedVariables false
variable {T : List PTok} {L : Nat}

def gP (g : GTerm) : PTerm := ⟨g.neg, if srt g.first = 3 then some g.first else none, g.name⟩
def gL (g : GLit) : PLit := ⟨if srt g.first = 22 then some g.first else none, g.name⟩
/-- the program's statement as the reference has it -/
def gS (g : GSt) : RSt where
  tag := (srt g.kw - 4).toNat
  kw := g.kw
  a := g.name
  b := if srt g.kw = 4 then g.numbers.getD 0 zeroTok else if srt g.kw = 8 then g.names.getD 0 zeroTok else g.rel
  c := if srt g.kw = 4 then g.numbers.getD 1 zeroTok else if srt g.kw = 8 then g.names.getD 1 zeroTok else g.numbers.getD 0 zeroTok
  ts := g.terms.map gP
  ns := if srt g.kw = 5 then g.numbers else g.names
  ls := g.lits.map gL
/-- a statement's shape, and which of its tokens are INTs -/
structure GOk (g : GSt) : Prop where
  k4 : 4 ≤ srt g.kw
  k10 : srt g.kw ≤ 10
  n4 : srt g.kw = 4 → ∃ lo hi, g.numbers = [lo, hi] ∧ lo.kind = 105 ∧ hi.kind = 105
  n5 : srt g.kw = 5 → ∀ t ∈ g.numbers, t.kind = 105
  n6 : srt g.kw = 6 ∨ srt g.kw = 7 → ∃ M, g.numbers = [M] ∧ M.kind = 105
  n8 : srt g.kw = 8 → ∃ P Q, g.names = [P, Q]
  tm : ∀ t ∈ g.terms, srt t.first ≠ 3 → t.first = t.name
  lt : ∀ l ∈ g.lits, srt l.first ≠ 22 → l.first = l.name

/-- the cut, with the INTs' bytes -/
structure Cut2 (T : List PTok) (L : Nat) : Prop extends Cut T L where
  ints : ∀ t ∈ T, t.kind = 105 → IsInt t.s

theorem took (hC : Cut2 T L) {S : PSt} (hi : S.1 ≤ T.length) {sorts : List Int} (hs : sorts.contains 1 = false) (h : (pTake (pt T L) sorts S).2 = 0) :
    S.2 = 0 ∧ S.1 < T.length ∧ sorts.contains (srt (tkN (pt T L) S.1)) = true ∧ pTake (pt T L) sorts S = (S.1 + 1, 0) ∧ T[S.1]? = some (tkN (pt T L) S.1) ∧ SrtOk (tkN (pt T L) S.1) := by
  obtain ⟨ho, hso, hl0, hfl, hl1⟩ := at_hand hC.toCut hi
  unfold pTake at h ⊢
  by_cases c0 : S.2 = 0
  · rw [if_pos c0] at h ⊢
    by_cases c : sorts.contains (srt (tkN (pt T L) S.1)) = true
    · rw [if_pos c]
      have hlt : S.1 < T.length := by
        rcases Nat.lt_or_ge S.1 T.length with q | q
        · exact q
        · have e : S.1 = T.length := by omega
          rw [e, pt_end, srt_end, hs] at c; cases c
      refine ⟨c0, hlt, c, rfl, ?_, ?_⟩
      · rw [pt_lt hlt]; exact List.getElem?_eq_getElem hlt
      · rw [pt_lt hlt, ← hand_lt hlt]; exact ho
    · rw [if_neg c] at h; simp only at h; omega
  · rw [if_neg c0] at h; exact absurd h c0
theorem took1 (hC : Cut2 T L) {S : PSt} (hi : S.1 ≤ T.length) (k : Int) (hk : 2 ≤ k) (h : (pTake (pt T L) [k] S).2 = 0) :
    S.2 = 0 ∧ S.1 < T.length ∧ srt (tkN (pt T L) S.1) = k ∧ pTake (pt T L) [k] S = (S.1 + 1, 0) ∧ T[S.1]? = some (tkN (pt T L) S.1) ∧ SrtOk (tkN (pt T L) S.1) := by
  obtain ⟨a, b, c, d⟩ := took hC hi (sorts := [k]) (by simp; omega) h
  exact ⟨a, b, by simpa using c, d⟩
theorem isInt_at (hC : Cut2 T L) {i : Nat} {t : PTok} (h : T[i]? = some t) (hk : t.kind = 105) : IsInt t.s := hC.ints t (List.mem_of_getElem? h) hk

theorem took_term (hC : Cut2 T L) {neg : Bool} {S : PSt} (hi : S.1 ≤ T.length) (h : (pTerm (pt T L) neg S).2.2 = 0) :
    S.2 = 0 ∧ TermAt T S.1 (gP (pTerm (pt T L) neg S).1) (pTerm (pt T L) neg S).2.1 ∧ S.1 < (pTerm (pt T L) neg S).2.1 ∧ (pTerm (pt T L) neg S).2.1 ≤ T.length ∧ (pTerm (pt T L) neg S).1.neg = neg ∧ (srt (pTerm (pt T L) neg S).1.first ≠ 3 → (pTerm (pt T L) neg S).1.first = (pTerm (pt T L) neg S).1.name) := by
  unfold pTerm at h ⊢
  by_cases c : srt (tkN (pt T L) S.1) = 3
  · rw [if_pos c] at h ⊢
    simp only at h ⊢
    have a2 := (adv_take (pt T L) [2] (pTake (pt T L) [21] (pTake (pt T L) [3, 2] S))).2 h
    have a1 := (adv_take (pt T L) [21] (pTake (pt T L) [3, 2] S)).2 a2
    obtain ⟨b0, b1, b2, b3, b4, b5⟩ := took hC hi (sorts := [3, 2]) rfl a1
    rw [b3] at a2 h ⊢
    obtain ⟨c0, c1, c2, c3, c4, c5⟩ := took1 hC (S := (S.1 + 1, 0)) (by show S.1 + 1 ≤ _; omega) 21 (by decide) a2
    rw [c3] at h ⊢
    obtain ⟨d0, d1, d2, d3, d4, d5⟩ := took1 hC (S := (S.1 + 1 + 1, 0)) (by show S.1 + 1 + 1 ≤ _; exact c1) 2 (by decide) h
    rw [d3]
    refine ⟨b0, ?_, by simp only; omega, d1, by trivial, fun q => absurd c q⟩
    have hk : (tkN (pt T L) S.1).kind = 105 := b5.int.2 c
    unfold TermAt gP
    simp only [c, if_true]
    exact ⟨b4, hk, isInt_at hC b4 hk, d4, by trivial⟩
  · rw [if_neg c] at h ⊢
    simp only at h ⊢
    obtain ⟨b0, b1, b2, b3, b4, b5⟩ := took hC hi (sorts := [3, 2]) rfl h
    rw [b3]
    refine ⟨b0, ?_, by simp only; omega, b1, by trivial, fun _ => by trivial⟩
    have hk : ¬ (tkN (pt T L) S.1).kind = 105 := fun q => c (b5.int.1 q)
    unfold TermAt gP
    simp only [c, if_false]
    exact ⟨b4, hk, by trivial⟩
theorem took_lit (hC : Cut2 T L) {S : PSt} (hi : S.1 ≤ T.length) (h : (pLit (pt T L) S).2.2 = 0) :
    S.2 = 0 ∧ LitAt T S.1 (gL (pLit (pt T L) S).1) (pLit (pt T L) S).2.1 ∧ S.1 < (pLit (pt T L) S).2.1 ∧ (pLit (pt T L) S).2.1 ≤ T.length ∧ (srt (pLit (pt T L) S).1.first ≠ 22 → (pLit (pt T L) S).1.first = (pLit (pt T L) S).1.name) := by
  unfold pLit at h ⊢
  by_cases c : srt (tkN (pt T L) S.1) = 22
  · rw [if_pos c] at h ⊢
    simp only at h ⊢
    have a1 := (adv_take (pt T L) [2] (pTake (pt T L) [22, 2] S)).2 h
    obtain ⟨b0, b1, b2, b3, b4, b5⟩ := took hC hi (sorts := [22, 2]) rfl a1
    rw [b3] at h ⊢
    obtain ⟨d0, d1, d2, d3, d4, d5⟩ := took1 hC (S := (S.1 + 1, 0)) (by show S.1 + 1 ≤ _; omega) 2 (by decide) h
    rw [d3]
    refine ⟨b0, ?_, by simp only; omega, d1, fun q => absurd c q⟩
    unfold LitAt gL
    simp only [c, if_true]
    exact ⟨b4, (b5.byt 22 (by decide) (by decide)).2 c, d4, by trivial⟩
  · rw [if_neg c] at h ⊢
    simp only at h ⊢
    obtain ⟨b0, b1, b2, b3, b4, b5⟩ := took hC hi (sorts := [22, 2]) rfl h
    rw [b3]
    refine ⟨b0, ?_, by simp only; omega, b1, fun _ => by trivial⟩
    unfold LitAt gL
    simp only [c, if_false]
    exact ⟨b4, fun q => c ((b5.byt 22 (by decide) (by decide)).1 q), by trivial⟩
/-- what stands behind is none of these -/
theorem not_sees {S : PSt} {k : Int} (h0 : S.2 = 0) (h : ¬ pSees (pt T L) k S = true) : srt (tkN (pt T L) S.1) ≠ k := by
  unfold pSees at h; simp [h0] at h; exact h
theorem took_sumF (hC : Cut2 T L) (f : Nat) : ∀ (acc : List GTerm) (S : PSt), S.1 ≤ T.length → T.length - S.1 < f → (sumF (pt T L) f acc S).2.2 = 0 →
    ∃ r, (sumF (pt T L) f acc S).1 = acc ++ r ∧ S.2 = 0 ∧ TermsAt T S.1 (r.map gP) (sumF (pt T L) f acc S).2.1 ∧ S.1 ≤ (sumF (pt T L) f acc S).2.1 ∧ (sumF (pt T L) f acc S).2.1 ≤ T.length ∧
      srt (tkN (pt T L) (sumF (pt T L) f acc S).2.1) ≠ 20 ∧ srt (tkN (pt T L) (sumF (pt T L) f acc S).2.1) ≠ 23 ∧ ∀ t ∈ r, srt t.first ≠ 3 → t.first = t.name := by
  induction f with
  | zero => intro acc S _ h; omega
  | succ f ih =>
    intro acc S hi hf h
    simp only [sumF] at h ⊢
    by_cases c : (pSees (pt T L) 20 S || pSees (pt T L) 23 S) = true
    · rw [if_pos c] at h ⊢
      have hz1 := (adv_sumF (pt T L) f (acc ++ [(pTerm (pt T L) (srt (tkN (pt T L) S.1) == 23) (pTake (pt T L) [20, 23] S)).1]) _).2 h
      have hz2 := (adv_term (pt T L) (srt (tkN (pt T L) S.1) == 23) (pTake (pt T L) [20, 23] S)).2 hz1
      obtain ⟨b0, b1, b2, b3, b4, b5⟩ := took hC hi (sorts := [20, 23]) rfl hz2
      rw [b3] at h hz1 ⊢
      obtain ⟨t0, t1, t2, t3, t4, t5⟩ := took_term hC (S := (S.1 + 1, 0)) (by show S.1 + 1 ≤ _; omega) hz1
      simp only at t2
      obtain ⟨r, e1, e2, e3, e4, e5, e6, e7, e8⟩ := ih (acc ++ [(pTerm (pt T L) (srt (tkN (pt T L) S.1) == 23) (S.1 + 1, 0)).1]) _ t3 (by omega) h
      refine ⟨(pTerm (pt T L) (srt (tkN (pt T L) S.1) == 23) (S.1 + 1, 0)).1 :: r, by rw [e1, List.append_assoc]; rfl, b0, ?_, by omega, e5, e6, e7, ?_⟩
      · rw [List.map_cons]
        refine ⟨tkN (pt T L) S.1, _, b4, ?_, t1, e3⟩
        show _ = if (pTerm (pt T L) (srt (tkN (pt T L) S.1) == 23) (S.1 + 1, 0)).1.neg then [45] else [43]
        rw [t4]
        by_cases q : srt (tkN (pt T L) S.1) = 23
        · rw [q]; exact (b5.byt 23 (by decide) (by decide)).2 q
        · have q' : srt (tkN (pt T L) S.1) = 20 := by
            have : srt (tkN (pt T L) S.1) = 20 ∨ srt (tkN (pt T L) S.1) = 23 := by simpa using b2
            rcases this with q' | q'
            · exact q'
            · exact absurd q' q
          rw [q']; exact (b5.byt 20 (by decide) (by decide)).2 q'
      · intro t ht
        rcases List.mem_cons.1 ht with rfl | ht
        · exact t5
        · exact e8 t ht
    · rw [if_neg c] at h ⊢
      have h20 : ¬ pSees (pt T L) 20 S = true := fun q => c (by rw [q]; rfl)
      have h23 : ¬ pSees (pt T L) 23 S = true := fun q => c (by rw [q]; simp)
      exact ⟨[], by simp, h, rfl, Nat.le_refl _, hi, not_sees h h20, not_sees h h23, fun t ht => by simp at ht⟩
/-- a sum, its relation, its number -/
theorem took_lin (hC : Cut2 T L) {g : GSt} {S : PSt} (hi : S.1 ≤ T.length) (h : (pLin (pt T L) g S).2.2 = 0) :
    S.2 = 0 ∧ ∃ num, (pLin (pt T L) g S).1.numbers = [num] ∧ num.kind = 105 ∧ SumAt T S.1 ((pLin (pt T L) g S).1.terms.map gP) (pLin (pt T L) g S).1.rel num (pLin (pt T L) g S).2.1 ∧ S.1 < (pLin (pt T L) g S).2.1 ∧ (pLin (pt T L) g S).2.1 ≤ T.length ∧ ∀ t ∈ (pLin (pt T L) g S).1.terms, srt t.first ≠ 3 → t.first = t.name := by
  unfold pLin at h ⊢
  simp only at h ⊢
  have a2 := (adv_take (pt T L) [3] (pTake (pt T L) [14, 15, 16] (pSum (pt T L) S).2)).2 h
  have a1 := (adv_take (pt T L) [14, 15, 16] (pSum (pt T L) S).2).2 a2
  have a0 : (pTerm (pt T L) false S).2.2 = 0 := (adv_sumF (pt T L) _ _ _).2 a1
  obtain ⟨t0, t1, t2, t3, t4, t5⟩ := took_term hC hi a0
  obtain ⟨r, e1, e2, e3, e4, e5, e6, e7, e8⟩ := took_sumF hC (pt T L).length [(pTerm (pt T L) false S).1] _ t3 (by rw [pt_len]; omega) a1
  change (pSum (pt T L) S).1 = _ at e1
  change (pTerm (pt T L) false S).2.1 ≤ (pSum (pt T L) S).2.1 at e4
  change (pSum (pt T L) S).2.1 ≤ _ at e5
  change srt (tkN (pt T L) (pSum (pt T L) S).2.1) ≠ 20 at e6
  change srt (tkN (pt T L) (pSum (pt T L) S).2.1) ≠ 23 at e7
  change TermsAt T _ _ (pSum (pt T L) S).2.1 at e3
  obtain ⟨b0, b1, b2, b3, b4, b5⟩ := took hC e5 (sorts := [14, 15, 16]) rfl a2
  rw [b3] at h ⊢
  obtain ⟨c0, c1, c2, c3, c4, c5⟩ := took1 hC (S := ((pSum (pt T L) S).2.1 + 1, 0)) (by show _ + 1 ≤ _; omega) 3 (by decide) h
  rw [c3]
  simp only at c4 c5 c2
  have hk := c5.int.2 c2
  refine ⟨t0, _, rfl, hk, ?_, by simp only; omega, c1, ?_⟩
  · refine ⟨gP (pTerm (pt T L) false S).1, r.map gP, _, (pSum (pt T L) S).2.1, by rw [e1]; rfl, t1, t4, e3, by omega, b4, ?_, ?_, c4, isInt_at hC c4 hk, rfl⟩
    · exact fun q => e6 ((b5.byt 20 (by decide) (by decide)).1 q)
    · exact fun q => e7 ((b5.byt 23 (by decide) (by decide)).1 q)
  · intro t ht
    rw [e1] at ht
    rcases List.mem_append.1 ht with ht | ht
    · obtain rfl : t = _ := by simpa using ht
      exact t5
    · exact e8 t ht
/-- a series of things of whatever sort: each behind a comma -/
def GSer {α : Type} (T : List PTok) (At : Nat → α → Nat → Prop) : Nat → List α → Nat → Prop
  | i, [], j => i = j
  | i, a :: l, j => (∃ c, T[i]? = some c ∧ c.s.toList = [44]) ∧ ∃ m, At (i + 1) a m ∧ GSer T At m l j
theorem took_serF {α : Type} (hC : Cut2 T L) (one : PSt → α × PSt) (At : Nat → α → Nat → Prop) (Q : α → Prop) (hadv : ∀ S, Adv S (one S).2)
    (hone : ∀ S : PSt, S.1 ≤ T.length → (one S).2.2 = 0 → S.2 = 0 ∧ At S.1 (one S).1 (one S).2.1 ∧ S.1 < (one S).2.1 ∧ (one S).2.1 ≤ T.length ∧ Q (one S).1) (f : Nat) :
    ∀ (acc : List α) (S : PSt), S.1 ≤ T.length → T.length - S.1 < f → (serF (pt T L) one f acc S).2.2 = 0 →
    ∃ r, (serF (pt T L) one f acc S).1 = acc ++ r ∧ S.2 = 0 ∧ GSer T At S.1 r (serF (pt T L) one f acc S).2.1 ∧ S.1 ≤ (serF (pt T L) one f acc S).2.1 ∧ (serF (pt T L) one f acc S).2.1 ≤ T.length ∧
      srt (tkN (pt T L) (serF (pt T L) one f acc S).2.1) ≠ 13 ∧ ∀ t ∈ r, Q t := by
  induction f with
  | zero => intro acc S _ h; omega
  | succ f ih =>
    intro acc S hi hf h
    simp only [serF] at h ⊢
    by_cases c : pSees (pt T L) 13 S = true
    · rw [if_pos c] at h ⊢
      have hz1 := (adv_serF (pt T L) one hadv f (acc ++ [(one (pTake (pt T L) [13] S)).1]) _).2 h
      have hz2 := (hadv (pTake (pt T L) [13] S)).2 hz1
      obtain ⟨b0, b1, b2, b3, b4, b5⟩ := took1 hC hi 13 (by decide) hz2
      rw [b3] at h hz1 ⊢
      obtain ⟨t0, t1, t2, t3, t4⟩ := hone (S.1 + 1, 0) (by show S.1 + 1 ≤ _; omega) hz1
      simp only at t2
      obtain ⟨r, e1, e2, e3, e4, e5, e6, e7⟩ := ih (acc ++ [(one (S.1 + 1, 0)).1]) _ t3 (by omega) h
      refine ⟨(one (S.1 + 1, 0)).1 :: r, by rw [e1, List.append_assoc]; rfl, b0, ⟨⟨_, b4, (b5.byt 13 (by decide) (by decide)).2 b2⟩, _, t1, e3⟩, by omega, e5, e6, ?_⟩
      intro t ht
      rcases List.mem_cons.1 ht with rfl | ht
      · exact t4
      · exact e7 t ht
    · rw [if_neg c] at h ⊢
      exact ⟨[], by simp, h, rfl, Nat.le_refl _, hi, not_sees h c, fun t ht => by simp at ht⟩
theorem took_ser {α : Type} (hC : Cut2 T L) (one : PSt → α × PSt) (At : Nat → α → Nat → Prop) (Q : α → Prop) (hadv : ∀ S, Adv S (one S).2)
    (hone : ∀ S : PSt, S.1 ≤ T.length → (one S).2.2 = 0 → S.2 = 0 ∧ At S.1 (one S).1 (one S).2.1 ∧ S.1 < (one S).2.1 ∧ (one S).2.1 ≤ T.length ∧ Q (one S).1) {S : PSt} (hi : S.1 ≤ T.length) (h : (pSer (pt T L) one S).2.2 = 0) :
    ∃ a r m, (pSer (pt T L) one S).1 = a :: r ∧ S.2 = 0 ∧ At S.1 a m ∧ GSer T At m r (pSer (pt T L) one S).2.1 ∧ S.1 < (pSer (pt T L) one S).2.1 ∧ (pSer (pt T L) one S).2.1 ≤ T.length ∧ srt (tkN (pt T L) (pSer (pt T L) one S).2.1) ≠ 13 ∧ ∀ t ∈ a :: r, Q t := by
  unfold pSer at h ⊢
  have hz := (adv_serF (pt T L) one hadv (pt T L).length [(one S).1] _).2 h
  obtain ⟨t0, t1, t2, t3, t4⟩ := hone S hi hz
  obtain ⟨r, e1, e2, e3, e4, e5, e6, e7⟩ := took_serF hC one At Q hadv hone (pt T L).length [(one S).1] _ t3 (by rw [pt_len]; omega) h
  refine ⟨(one S).1, r, _, by rw [e1]; rfl, t0, t1, e3, by omega, e5, e6, ?_⟩
  intro t ht
  rcases List.mem_cons.1 ht with rfl | ht
  · exact t4
  · exact e7 t ht
/-- one token at a place -/
def TokAt1 (T : List PTok) (i : Nat) (t : PTok) (j : Nat) : Prop := T[i]? = some t ∧ j = i + 1
theorem ser_toks {i j : Nat} {l : List PTok} (h : GSer T (TokAt1 T) i l j) : SerAt T i l j := by
  induction l generalizing i with
  | nil => exact h
  | cons a l ih =>
    obtain ⟨h1, m, ⟨h2, rfl⟩, h3⟩ := h
    exact ⟨h1, h2, ih h3⟩
theorem ser_lits {i j : Nat} {l : List GLit} (h : GSer T (fun i a j => LitAt T i (gL a) j) i l j) : SerLit T i (l.map gL) j := by
  induction l generalizing i with
  | nil => exact h
  | cons a l ih =>
    obtain ⟨h1, m, h2, h3⟩ := h
    exact ⟨h1, m, h2, ih h3⟩
theorem took_tok (hC : Cut2 T L) (k : Int) (hk : 2 ≤ k) (S : PSt) (hi : S.1 ≤ T.length) (h : (pTok (pt T L) k S).2.2 = 0) :
    S.2 = 0 ∧ TokAt1 T S.1 (pTok (pt T L) k S).1 (pTok (pt T L) k S).2.1 ∧ S.1 < (pTok (pt T L) k S).2.1 ∧ (pTok (pt T L) k S).2.1 ≤ T.length ∧ (SrtOk (pTok (pt T L) k S).1 ∧ srt (pTok (pt T L) k S).1 = k) := by
  obtain ⟨a, b, c, d, e, f⟩ := took1 hC hi k hk h
  unfold pTok
  rw [d]
  exact ⟨a, ⟨e, rfl⟩, by simp only; omega, b, f, c⟩
theorem peek_no (hC : Cut2 T L) {j : Nat} (hj : j ≤ T.length) (h : srt (tkN (pt T L) j) ≠ 13) : (peekS T j).toList ≠ [44] := by
  unfold peekS
  rcases Nat.lt_or_ge j T.length with q | q
  · rw [List.getElem?_eq_getElem q]
    have ho := lk_srt (hC.kind _ (List.getElem_mem q))
    rw [pt_lt q] at h
    exact fun e => h ((ho.byt 13 (by decide) (by decide)).1 e)
  · rw [List.getElem?_eq_none q]
    show ByteArray.toList ⟨#[]⟩ ≠ [44]
    rw [show (⟨#[]⟩ : ByteArray) = ByteArray.empty from rfl, empty_toList]; decide
end Go.Proofs.YthpcbbnabnlanaaGreatDoor

/-
  The plain mathematics between the two sides: the statements of a text without a fault of form.
-/
namespace Go.Proofs.YthpcbbnabnlanaaGreatDoor
set_option linter.unusedVariables false
variable {T : List PTok} {L : Nat}

theorem kw_bytes {t : PTok} (h : SrtOk t) (k : Int) (h4 : 4 ≤ k) (h23 : k ≤ 23) (hk : srt t = k) : t.s = bs (sortBytes k) := bs_of _ _ ((h.byt k h4 h23).2 hk)
theorem took_stmt (hC : Cut2 T L) {S : PSt} (hi : S.1 ≤ T.length) (h : (pStmt (pt T L) S).2.2 = 0) :
    S.2 = 0 ∧ StAt T S.1 (gS (pStmt (pt T L) S).1) (pStmt (pt T L) S).2.1 ∧ S.1 < (pStmt (pt T L) S).2.1 ∧ (pStmt (pt T L) S).2.1 ≤ T.length ∧ GOk (pStmt (pt T L) S).1 := by
  have hz := (adv_stmt (pt T L) S).2 h
  obtain ⟨b0, b1, b2, b3, b4, b5⟩ := took hC hi (sorts := kwSorts) rfl hz
  have A := fun sorts S => adv_take (pt T L) sorts S
  have nt : ∀ t ∈ ([] : List GTerm), srt t.first ≠ 3 → t.first = t.name := fun a ha => by simp at ha
  have nl : ∀ t ∈ ([] : List GLit), srt t.first ≠ 22 → t.first = t.name := fun a ha => by simp at ha
  obtain ⟨k, hk⟩ : ∃ k, srt (tkN (pt T L) S.1) = k := ⟨_, rfl⟩
  have hcs : k = 4 ∨ k = 5 ∨ k = 6 ∨ k = 7 ∨ k = 8 ∨ k = 9 ∨ k = 10 := by rw [hk] at b2; simpa [kwSorts] using b2
  have hkb := fun h4 h23 => kw_bytes b5 k h4 h23 hk
  unfold pStmt at h ⊢
  simp only [hk, b3] at h ⊢
  rcases hcs with rfl | rfl | rfl | rfl | rfl | rfl | rfl
  · simp only [if_true] at h ⊢
    have a5 := (A _ _).2 h
    have a4 := (A _ _).2 a5
    have a3 := (A _ _).2 a4
    have a2 := (A _ _).2 a3
    obtain ⟨-, c1, c2, c3, c4, c5⟩ := took1 hC (S := (S.1 + 1, 0)) (by show S.1 + 1 ≤ _; omega) 2 (by decide) a2
    rw [c3] at a3 a4 a5 h ⊢
    obtain ⟨-, d1, d2, d3, d4, d5⟩ := took1 hC (S := (S.1 + 1 + 1, 0)) c1 12 (by decide) a3
    rw [d3] at a4 a5 h ⊢
    obtain ⟨-, e1, e2, e3, e4, e5⟩ := took1 hC (S := (S.1 + 1 + 1 + 1, 0)) d1 3 (by decide) a4
    rw [e3] at a5 h ⊢
    obtain ⟨-, f1, f2, f3, f4, f5⟩ := took1 hC (S := (S.1 + 1 + 1 + 1 + 1, 0)) e1 17 (by decide) a5
    rw [f3] at h ⊢
    obtain ⟨-, g1, g2, g3, g4, g5⟩ := took1 hC (S := (S.1 + 1 + 1 + 1 + 1 + 1, 0)) f1 3 (by decide) h
    rw [g3]
    have he := e5.int.2 e2
    have hg := g5.int.2 g2
    refine ⟨b0, ⟨b4, ?_⟩, by simp only; omega, g1, ⟨by simp [hk], by simp [hk], fun _ => ⟨_, _, rfl, he, hg⟩, fun q => by simp [hk] at q, fun q => by simp [hk] at q, fun q => by simp [hk] at q, nt, nl⟩⟩
    simp only [gS, hk]
    exact ⟨hkb (by decide) (by decide), c4, e4, isInt_at hC e4 he, g4, isInt_at hC g4 hg, by trivial⟩
  · simp only [show ¬ (5 : Int) = 4 by decide, if_false, if_true] at h ⊢
    have a5 := (A _ _).2 h
    have a4 := (adv_ser (pt T L) (pTok (pt T L) 3) (fun b => adv_take _ [3] b) _).2 a5
    have a3 := (A _ _).2 a4
    have a2 := (A _ _).2 a3
    obtain ⟨-, c1, c2, c3, c4, c5⟩ := took1 hC (S := (S.1 + 1, 0)) (by show S.1 + 1 ≤ _; omega) 2 (by decide) a2
    rw [c3] at a3 a4 a5 h ⊢
    obtain ⟨-, d1, d2, d3, d4, d5⟩ := took1 hC (S := (S.1 + 1 + 1, 0)) c1 14 (by decide) a3
    rw [d3] at a4 a5 h ⊢
    obtain ⟨-, e1, e2, e3, e4, e5⟩ := took1 hC (S := (S.1 + 1 + 1 + 1, 0)) d1 18 (by decide) a4
    rw [e3] at a5 h ⊢
    obtain ⟨n0, r, m, r1, r2, ⟨r3, rm⟩, r4, r5, r6, r7, r8⟩ := took_ser hC (pTok (pt T L) 3) (TokAt1 T) (fun t => SrtOk t ∧ srt t = 3) (fun S => adv_take _ [3] S) (took_tok hC 3 (by decide)) (S := (S.1 + 1 + 1 + 1 + 1, 0)) e1 a5
    obtain ⟨-, f1, f2, f3, f4, f5⟩ := took1 hC r6 19 (by decide) h
    rw [f3]
    simp only at r5 rm
    have hI : ∀ t ∈ n0 :: r, t.kind = 105 := fun t ht => (r8 t ht).1.int.2 (r8 t ht).2
    have hmem : ∀ t ∈ n0 :: r, t ∈ T := by
      intro t ht
      have key : ∀ (l : List PTok) (i j : Nat), GSer T (TokAt1 T) i l j → ∀ t ∈ l, t ∈ T := by
        intro l
        induction l with
        | nil => intro i j _ t ht; simp at ht
        | cons a l ih =>
          rintro i j ⟨_, m, ⟨q1, _⟩, q2⟩ t ht
          rcases List.mem_cons.1 ht with rfl | ht
          · exact List.mem_of_getElem? q1
          · exact ih _ _ q2 t ht
      rcases List.mem_cons.1 ht with rfl | ht
      · exact List.mem_of_getElem? r3
      · exact key _ _ _ r4 t ht
    refine ⟨b0, ⟨b4, ?_⟩, by simp only; omega, f1, ⟨by simp [hk], by simp [hk], fun q => by simp [hk] at q, fun _ => by rw [r1]; exact hI, fun q => by simp [hk] at q, fun q => by simp [hk] at q, nt, nl⟩⟩
    simp only [gS, hk]
    refine ⟨hkb (by decide) (by decide), c4, n0, r, _, ?_, r3, by rw [rm] at r4; exact ser_toks r4, fun t ht => hC.ints t (hmem t ht) (hI t ht), f1, peek_no hC r6 r7, by trivial⟩
    simpa using r1
  · simp only [show ¬ (6 : Int) = 4 by decide, show ¬ (6 : Int) = 5 by decide, show ¬ (6 : Int) = 7 by decide, if_false, if_true] at h ⊢
    obtain ⟨-, num, n1, n2, n3, n4, n5, n6⟩ := took_lin hC (S := (S.1 + 1, 0)) (by show S.1 + 1 ≤ _; omega) h
    have hk' : srt (pLin (pt T L) { kw := tkN (pt T L) S.1 } (S.1 + 1, 0)).1.kw = 6 := hk
    simp only at n4
    refine ⟨b0, ⟨b4, ?_⟩, by omega, n5, ⟨by rw [hk']; decide, by rw [hk']; decide, fun q => by rw [hk'] at q; simp at q, fun q => by rw [hk'] at q; simp at q, fun _ => ⟨num, n1, n2⟩, fun q => by rw [hk'] at q; simp at q, n6, nl⟩⟩
    simp only [gS, hk', n1]
    exact ⟨hkb (by decide) (by decide), n3⟩
  · simp only [show ¬ (7 : Int) = 4 by decide, show ¬ (7 : Int) = 5 by decide, if_false, if_true] at h ⊢
    have a3 := (adv_lin (pt T L) _ _).2 h
    have a2 := (A _ _).2 a3
    obtain ⟨-, c1, c2, c3, c4, c5⟩ := took1 hC (S := (S.1 + 1, 0)) (by show S.1 + 1 ≤ _; omega) 2 (by decide) a2
    rw [c3] at a3 h ⊢
    obtain ⟨-, d1, d2, d3, d4, d5⟩ := took1 hC (S := (S.1 + 1 + 1, 0)) c1 12 (by decide) a3
    rw [d3] at h ⊢
    obtain ⟨-, num, n1, n2, n3, n4, n5, n6⟩ := took_lin hC (S := (S.1 + 1 + 1 + 1, 0)) d1 h
    have hk' : srt (pLin (pt T L) { kw := tkN (pt T L) S.1, name := tkN (pt T L) (S.1 + 1) } (S.1 + 1 + 1 + 1, 0)).1.kw = 7 := hk
    simp only at n4
    refine ⟨b0, ⟨b4, ?_⟩, by simp only; omega, n5, ⟨by rw [hk']; decide, by rw [hk']; decide, fun q => by rw [hk'] at q; simp at q, fun q => by rw [hk'] at q; simp at q, fun _ => ⟨num, n1, n2⟩, fun q => by rw [hk'] at q; simp at q, n6, nl⟩⟩
    simp only [gS, hk', n1]
    exact ⟨hkb (by decide) (by decide), c4, n3⟩
  · simp only [show ¬ (8 : Int) = 4 by decide, show ¬ (8 : Int) = 5 by decide, show ¬ (8 : Int) = 7 by decide, show ¬ (8 : Int) = 6 by decide, if_false, if_true] at h ⊢
    have a6 := (A _ _).2 h
    have a5 := (A _ _).2 a6
    have a4 := (A _ _).2 a5
    have a3 := (A _ _).2 a4
    have a2 := (A _ _).2 a3
    obtain ⟨-, c1, c2, c3, c4, c5⟩ := took1 hC (S := (S.1 + 1, 0)) (by show S.1 + 1 ≤ _; omega) 2 (by decide) a2
    rw [c3] at a3 a4 a5 a6 h ⊢
    obtain ⟨-, d1, d2, d3, d4, d5⟩ := took1 hC (S := (S.1 + 1 + 1, 0)) c1 18 (by decide) a3
    rw [d3] at a4 a5 a6 h ⊢
    obtain ⟨-, e1, e2, e3, e4, e5⟩ := took1 hC (S := (S.1 + 1 + 1 + 1, 0)) d1 2 (by decide) a4
    rw [e3] at a5 a6 h ⊢
    obtain ⟨-, f1, f2, f3, f4, f5⟩ := took1 hC (S := (S.1 + 1 + 1 + 1 + 1, 0)) e1 19 (by decide) a5
    rw [f3] at a6 h ⊢
    obtain ⟨-, g1, g2, g3, g4, g5⟩ := took1 hC (S := (S.1 + 1 + 1 + 1 + 1 + 1, 0)) f1 14 (by decide) a6
    rw [g3] at h ⊢
    obtain ⟨-, i1, i2, i3, i4, i5⟩ := took1 hC (S := (S.1 + 1 + 1 + 1 + 1 + 1 + 1, 0)) g1 2 (by decide) h
    rw [i3]
    refine ⟨b0, ⟨b4, ?_⟩, by simp only; omega, i1, ⟨by simp [hk], by simp [hk], fun q => by simp [hk] at q, fun q => by simp [hk] at q, fun q => by simp [hk] at q, fun _ => ⟨_, _, rfl⟩, nt, nl⟩⟩
    simp only [gS, hk]
    exact ⟨hkb (by decide) (by decide), c4, e4, i4, by trivial⟩
  · simp only [show ¬ (9 : Int) = 4 by decide, show ¬ (9 : Int) = 5 by decide, show ¬ (9 : Int) = 7 by decide, show ¬ (9 : Int) = 6 by decide, show ¬ (9 : Int) = 8 by decide, if_false, if_true] at h ⊢
    obtain ⟨n0, r, m, r1, r2, ⟨r3, rm⟩, r4, r5, r6, r7, r8⟩ := took_ser hC (pTok (pt T L) 2) (TokAt1 T) (fun t => SrtOk t ∧ srt t = 2) (fun S => adv_take _ [2] S) (took_tok hC 2 (by decide)) (S := (S.1 + 1, 0)) (by show S.1 + 1 ≤ _; omega) h
    simp only at r5 rm
    refine ⟨b0, ⟨b4, ?_⟩, by omega, r6, ⟨by simp [hk], by simp [hk], fun q => by simp [hk] at q, fun q => by simp [hk] at q, fun q => by simp [hk] at q, fun q => by simp [hk] at q, nt, nl⟩⟩
    simp only [gS, hk]
    exact ⟨hkb (by decide) (by decide), n0, r, by simpa using r1, r3, by rw [rm] at r4; exact ser_toks r4, r6, peek_no hC r6 r7⟩
  · simp only [show ¬ (10 : Int) = 4 by decide, show ¬ (10 : Int) = 5 by decide, show ¬ (10 : Int) = 7 by decide, show ¬ (10 : Int) = 6 by decide, show ¬ (10 : Int) = 8 by decide, show ¬ (10 : Int) = 9 by decide, if_false, if_true] at h ⊢
    obtain ⟨l0, r, m, r1, r2, r3, r4, r5, r6, r7, r8⟩ := took_ser hC (pLit (pt T L)) (fun i a j => LitAt T i (gL a) j) (fun l => srt l.first ≠ 22 → l.first = l.name) (adv_lit _) (fun S hi h => took_lit hC hi h) (S := (S.1 + 1, 0)) (by show S.1 + 1 ≤ _; omega) h
    simp only at r5
    refine ⟨b0, ⟨b4, ?_⟩, by omega, r6, ⟨by simp [hk], by simp [hk], fun q => by simp [hk] at q, fun q => by simp [hk] at q, fun q => by simp [hk] at q, fun q => by simp [hk] at q, nt, by rw [r1]; exact r8⟩⟩
    simp only [gS, hk]
    exact ⟨hkb (by decide) (by decide), gL l0, r.map gL, m, by rw [r1]; rfl, r3, ser_lits r4, r6, peek_no hC r6 r7⟩
theorem took_parse (hC : Cut2 T L) (f : Nat) : ∀ (acc : List GSt) (S : PSt), S.1 ≤ T.length → T.length - S.1 < f → (parseF (pt T L) f acc S).2.2 = 0 →
    ∃ r, (parseF (pt T L) f acc S).1 = acc ++ r ∧ StsAt T S.1 (r.map gS) T.length ∧ ∀ g ∈ r, GOk g := by
  induction f with
  | zero => intro acc S _ h; omega
  | succ f ih =>
    intro acc S hi hf h
    by_cases c : S.2 = 0 ∧ srt (tkN (pt T L) S.1) ≠ 1
    · rw [parseF_more c.1 c.2] at h ⊢
      have hz1 := (adv_parseF (toks := pt T L) f (acc ++ [(pStmt (pt T L) S).1]) _).2 h
      have hz2 := (adv_take (pt T L) [11] (pStmt (pt T L) S).2).2 hz1
      obtain ⟨s0, s1, s2, s3, s4⟩ := took_stmt hC hi hz2
      obtain ⟨b0, b1, b2, b3, b4, b5⟩ := took1 hC s3 11 (by decide) hz1
      rw [b3] at h ⊢
      obtain ⟨r, e1, e2, e3⟩ := ih (acc ++ [(pStmt (pt T L) S).1]) ((pStmt (pt T L) S).2.1 + 1, 0) b1 (by show T.length - ((pStmt (pt T L) S).2.1 + 1) < f; omega) h
      refine ⟨(pStmt (pt T L) S).1 :: r, by rw [e1, List.append_assoc]; rfl, ⟨_, s1, b1, e2⟩, fun g hg => ?_⟩
      rcases List.mem_cons.1 hg with rfl | hg
      · exact s4
      · exact e3 g hg
    · rw [parseF_end c] at h ⊢
      have hs : srt (tkN (pt T L) S.1) = 1 := by
        by_cases q : srt (tkN (pt T L) S.1) = 1
        · exact q
        · exact absurd ⟨h, q⟩ c
      have he : S.1 = T.length := by
        rcases Nat.lt_or_ge S.1 T.length with q | q
        · exfalso
          have ho := lk_srt (hC.kind _ (List.getElem_mem q))
          rw [pt_lt q] at hs
          have := ho.eof.2 hs
          rcases hC.kind _ (List.getElem_mem q) with q | q | q | q <;> omega
        · omega
      exact ⟨[], by simp, he, fun g hg => by simp at hg⟩
/-- a text without a fault of form: its statements -/
theorem parse_at (hC : Cut2 T L) (h : (pParse (pt T L)).2.2 = 0) : StsAt T 0 ((pParse (pt T L)).1.map gS) T.length ∧ ∀ g ∈ (pParse (pt T L)).1, GOk g := by
  obtain ⟨r, e1, e2, e3⟩ := took_parse hC ((pt T L).length + 1) [] (0, 0) (Nat.zero_le _) (by rw [pt_len]; omega) h
  have e : (pParse (pt T L)).1 = r := e1
  rw [e]; exact ⟨e2, e3⟩
end Go.Proofs.YthpcbbnabnlanaaGreatDoor
