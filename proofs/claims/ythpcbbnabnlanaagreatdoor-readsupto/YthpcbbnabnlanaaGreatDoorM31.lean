import Derived.Test.YthpcbbnabnlanaaGreatDoorM30
/-
  The plain mathematics between the two sides: the reference's machine of symbols beside the program's steps.
-/
namespace Go.Proofs.YthpcbbnabnlanaaGreatDoor
set_option linter.unusedVariables false
variable {T : List PTok} {L : Nat}

/-- the cut's tokens, the line behind them -/
structure Cut (T : List PTok) (L : Nat) : Prop where
  kind : ∀ t ∈ T, LKind t
  line : ∀ t ∈ T, 1 ≤ t.line
  last : 1 ≤ L
/-- the tokens as the program has them -/
def pt (T : List PTok) (L : Nat) : List PTok := T ++ [endTok L]
def lineR (t : PTok) : Int := if t.kind = 101 then -1 else (t.line : Int)
def flN (L : Nat) (R : Int) : Int := if R < 0 then (L : Int) else R

theorem pt_lt {i : Nat} (h : i < T.length) : tkN (pt T L) i = T[i] := by
  unfold tkN pt; simp [List.getD_eq_getElem?_getD, List.getElem?_append_left h, h]
theorem pt_end : tkN (pt T L) T.length = endTok L := by
  unfold tkN pt; simp [List.getD_eq_getElem?_getD]
theorem hand_lt {i : Nat} (h : i < T.length) : hand (T.drop i) = T[i] := by
  unfold hand; rw [List.drop_eq_getElem_cons h]; rfl
theorem hand_end : hand (T.drop T.length) = eofTok := by
  unfold hand; simp
theorem at_hand (hC : Cut T L) {i : Nat} (hi : i ≤ T.length) : SrtOk (hand (T.drop i)) ∧ srt (hand (T.drop i)) = srt (tkN (pt T L) i) ∧ lineR (hand (T.drop i)) ≠ 0 ∧ flN L (lineR (hand (T.drop i))) = ((tkN (pt T L) i).line : Int) ∧ 1 ≤ (tkN (pt T L) i).line := by
  rcases Nat.lt_or_ge i T.length with h | h
  · rw [hand_lt h, pt_lt h]
    have hk := lk_srt (hC.kind _ (List.getElem_mem h))
    have hl := hC.line _ (List.getElem_mem h)
    have hne : T[i].kind ≠ 101 := by
      intro e
      rcases hC.kind _ (List.getElem_mem h) with q | q | q | q <;> omega
    refine ⟨hk, rfl, ?_, ?_, hl⟩
    · unfold lineR; rw [if_neg hne]; omega
    · unfold lineR flN; rw [if_neg hne, if_neg (by omega)]
  · obtain rfl : i = T.length := by omega
    rw [hand_end, pt_end]
    refine ⟨srt_eof, ?_, ?_, ?_, hC.last⟩
    · rw [srt_end]; simp [srt, eofTok]
    · unfold lineR eofTok; simp
    · unfold lineR eofTok flN endTok; simp

/-- a terminal symbol, by its sort -/
def sym (k : Int) : List UInt8 := if k = 2 then yNAME else if k = 3 then yINT else sortBytes k
theorem cases22 {p : Int → Prop} (h2 : p 2) (h3 : p 3) (h : ∀ k : Int, 4 ≤ k → k ≤ 23 → p k) : ∀ k : Int, 2 ≤ k → k ≤ 23 → p k := by
  intro k a b
  rcases (by omega : k = 2 ∨ k = 3 ∨ 4 ≤ k) with rfl | rfl | c
  · exact h2
  · exact h3
  · exact h k c b
theorem sym_none (kd : Int) (ts : List UInt8) : ∀ k : Int, 2 ≤ k → k ≤ 23 → becomes (sym k) kd ts = none := by
  refine cases22 ?_ ?_ (cases20 ?_ ?_ ?_ ?_ ?_ ?_ ?_ ?_ ?_ ?_ ?_ ?_ ?_ ?_ ?_ ?_ ?_ ?_ ?_ ?_) <;>
    (unfold becomes; rw [if_neg (by decide), if_neg (by decide), if_neg (by decide), if_neg (by decide), if_neg (by decide), if_neg (by decide), if_neg (by decide), if_neg (by decide), if_neg (by decide), if_neg (by decide)])
theorem sb_int : ∀ k : Int, 4 ≤ k → k ≤ 23 → sortBytes k ≠ yINT := by
  refine cases20 ?_ ?_ ?_ ?_ ?_ ?_ ?_ ?_ ?_ ?_ ?_ ?_ ?_ ?_ ?_ ?_ ?_ ?_ ?_ ?_ <;> decide
theorem sb_nam : ∀ k : Int, 4 ≤ k → k ≤ 23 → sortBytes k ≠ yNAME := by
  refine cases20 ?_ ?_ ?_ ?_ ?_ ?_ ?_ ?_ ?_ ?_ ?_ ?_ ?_ ?_ ?_ ?_ ?_ ?_ ?_ ?_ <;> decide
theorem sym_fits {t : PTok} (h : SrtOk t) : ∀ k : Int, 2 ≤ k → k ≤ 23 → fits (sym k) t = decide (srt t = k) := by
  refine cases22 ?_ ?_ ?_
  · unfold fits; rw [if_neg (by decide), if_pos (by decide)]; exact decide_eq_decide.2 h.nam
  · unfold fits; rw [if_pos (by decide)]; exact decide_eq_decide.2 h.int
  · intro k a b
    have e : sym k = sortBytes k := by unfold sym; rw [if_neg (by omega), if_neg (by omega)]
    have n1 : sortBytes k ≠ yINT := sb_int k a b
    have n2 : sortBytes k ≠ yNAME := sb_nam k a b
    have hb := h.byt k a b
    unfold fits
    rw [e, if_neg n1, if_neg n2]
    by_cases c : srt t = k
    · have hk : t.kind ≠ 101 := fun q => by have := h.eof.1 q; omega
      rw [decide_eq_true c, hb.2 c]; simpa using hk
    · have : ¬ sortBytes k = t.s.toList := fun q => c (hb.1 q.symm)
      rw [decide_eq_false c]; simp [this]

/-- the machine goes from i to j -/
def Run (T : List PTok) (k : Nat) (want : List (List UInt8)) (i j : Nat) : Prop := ∀ f rest, formF (f + k) (want ++ rest) (T.drop i) = formF f rest (T.drop j)
/-- it stops -/
def Bad (T : List PTok) (k : Nat) (want : List (List UInt8)) (i : Nat) (R : Int) : Prop := ∀ f rest, formF (f + k) (want ++ rest) (T.drop i) = some R
/-- the machine, wanting these at i, does as a step of the program's does that ends so -/
def Sim (T : List PTok) (L : Nat) (d D : Int) (want : List (List UInt8)) (i : Nat) (S : PSt) : Prop :=
  (S.2 = 0 ∧ i ≤ S.1 ∧ S.1 ≤ T.length ∧ ∃ k : Nat, (k : Int) ≤ 50 * ((S.1 : Int) - i) + d ∧ Run T k want i S.1) ∨
  (S.2 ≠ 0 ∧ ∃ (k : Nat) (R : Int), (k : Int) ≤ 50 * ((T.length : Int) - i) + D ∧ R ≠ 0 ∧ flN L R = S.2 ∧ Bad T k want i R)

theorem Sim.seq {d1 d2 D1 D2 d D : Int} {a b : List (List UInt8)} {i : Nat} {S S' : PSt} (h1 : Sim T L d1 D1 a i S) (h2 : S.2 = 0 → S.1 ≤ T.length → Sim T L d2 D2 b S.1 S') (h3 : S.2 ≠ 0 → S' = S)
    (hd : d1 + d2 ≤ d) (hD1 : D1 ≤ D) (hD2 : d1 + D2 ≤ D) : Sim T L d D (a ++ b) i S' := by
  rcases h1 with ⟨e, hi, hn, k, hk, hr⟩ | ⟨e, k, R, hk, hR, hf, hb⟩
  · rcases h2 e hn with ⟨e', hi', hn', k', hk', hr'⟩ | ⟨e', k', R, hk', hR, hf, hb⟩
    · refine .inl ⟨e', by omega, hn', k' + k, by omega, fun f rest => ?_⟩
      rw [← Nat.add_assoc, List.append_assoc, hr, hr']
    · refine .inr ⟨e', k' + k, R, by omega, hR, hf, fun f rest => ?_⟩
      rw [← Nat.add_assoc, List.append_assoc, hr, hb]
  · rw [h3 e]
    refine .inr ⟨e, k, R, by omega, hR, hf, fun f rest => ?_⟩
    rw [List.append_assoc, hb]
theorem Sim.le {d D d' D' : Int} {a : List (List UInt8)} {i : Nat} {S : PSt} (h : Sim T L d D a i S) (hd : d ≤ d') (hD : D ≤ D') : Sim T L d' D' a i S := by
  rcases h with ⟨e, hi, hn, k, hk, hr⟩ | ⟨e, k, R, hk, hR, hf, hb⟩
  · exact .inl ⟨e, hi, hn, k, by omega, hr⟩
  · exact .inr ⟨e, k, R, by omega, hR, hf, hb⟩
theorem Sim.expand {d D d' D' : Int} {y : List UInt8} {next : List (List UInt8)} {i : Nat} {S : PSt} (hb : becomes y (hand (T.drop i)).kind (hand (T.drop i)).s.toList = some next) (h : Sim T L d D next i S) (hd : d + 1 ≤ d') (hD : D + 1 ≤ D') : Sim T L d' D' [y] i S := by
  have key : ∀ f rest, formF (f + 1) ([y] ++ rest) (T.drop i) = formF f (next ++ rest) (T.drop i) := fun f rest => formF_some hb
  rcases h with ⟨e, hi, hn, k, hk, hr⟩ | ⟨e, k, R, hk, hR, hf, hb⟩
  · exact .inl ⟨e, hi, hn, k + 1, by omega, fun f rest => by rw [← Nat.add_assoc, key, hr]⟩
  · exact .inr ⟨e, k + 1, R, by omega, hR, hf, fun f rest => by rw [← Nat.add_assoc, key, hb]⟩
theorem sim_nil {S : PSt} (h0 : S.2 = 0) (hi : S.1 ≤ T.length) : Sim T L 0 0 [] S.1 S := .inl ⟨h0, Nat.le_refl _, hi, 0, by omega, fun f rest => rfl⟩
theorem sim_take (hC : Cut T L) (k : Int) (h2 : 2 ≤ k) (h23 : k ≤ 23) (sorts : List Int) {S : PSt} (hs : sorts.contains (srt (tkN (pt T L) S.1)) = decide (srt (tkN (pt T L) S.1) = k)) (h0 : S.2 = 0) (hi : S.1 ≤ T.length) : Sim T L (-49) 1 [sym k] S.1 (pTake (pt T L) sorts S) := by
  obtain ⟨ho, hso, hl0, hfl, hl1⟩ := at_hand hC hi
  have hn := sym_none (hand (T.drop S.1)).kind (hand (T.drop S.1)).s.toList k h2 h23
  have hf := sym_fits ho k h2 h23
  rw [hso, ← hs] at hf
  unfold pTake
  rw [if_pos h0]
  by_cases c : sorts.contains (srt (tkN (pt T L) S.1)) = true
  · rw [if_pos c]
    rw [c] at hf
    have hlt : S.1 < T.length := by
      rcases Nat.lt_or_ge S.1 T.length with q | q
      · exact q
      · have e : S.1 = T.length := by omega
        rw [c, e, pt_end, srt_end] at hs
        have := of_decide_eq_true hs.symm
        omega
    refine .inl ⟨rfl, Nat.le_succ _, hlt, 1, by simp; omega, fun f rest => ?_⟩
    show formF (f + 1) (sym k :: rest) _ = _
    rw [formF_take hn hf, List.tail_drop]
  · rw [if_neg c]
    rw [Bool.eq_false_iff.2 c] at hf
    refine .inr ⟨by simp only; omega, 1, lineR (hand (T.drop S.1)), by omega, hl0, hfl, fun f rest => ?_⟩
    show formF (f + 1) (sym k :: rest) _ = _
    rw [formF_bad hn hf]; rfl
theorem sim_one (hC : Cut T L) (k : Int) (h2 : 2 ≤ k) (h23 : k ≤ 23) {S : PSt} (h0 : S.2 = 0) (hi : S.1 ≤ T.length) : Sim T L (-49) 1 [sym k] S.1 (pTake (pt T L) [k] S) :=
  sim_take hC k h2 h23 [k] (by simp) h0 hi

theorem take_stuck {toks : List PTok} {sorts : List Int} {S : PSt} (h : S.2 ≠ 0) : pTake toks sorts S = S := by unfold pTake; rw [if_neg h]
theorem term_stuck {toks : List PTok} {neg : Bool} {S : PSt} (h : S.2 ≠ 0) : (pTerm toks neg S).2 = S := by
  unfold pTerm; split
  · simp only [take_stuck h]
  · simp only [take_stuck h]
theorem lit_stuck {toks : List PTok} {S : PSt} (h : S.2 ≠ 0) : (pLit toks S).2 = S := by
  unfold pLit; split
  · simp only [take_stuck h]
  · simp only [take_stuck h]
theorem sees_stuck {toks : List PTok} {k : Int} {S : PSt} (h : S.2 ≠ 0) : pSees toks k S = false := by unfold pSees; simp [h]
theorem sumF_stuck {toks : List PTok} {f : Nat} {acc : List GTerm} {S : PSt} (h : S.2 ≠ 0) : sumF toks f acc S = (acc, S) := by
  cases f with
  | zero => rfl
  | succ f => simp [sumF, sees_stuck h]
theorem serF_stuck {α : Type} {toks : List PTok} {one : PSt → α × PSt} {f : Nat} {acc : List α} {S : PSt} (h : S.2 ≠ 0) : serF toks one f acc S = (acc, S) := by
  cases f with
  | zero => rfl
  | succ f => simp [serF, sees_stuck h]
theorem sum_stuck {toks : List PTok} {S : PSt} (h : S.2 ≠ 0) : (pSum toks S).2 = S := by
  unfold pSum; rw [sumF_stuck (by rw [term_stuck h]; exact h), term_stuck h]
theorem ser_stuck {α : Type} {toks : List PTok} {one : PSt → α × PSt} (hone : ∀ S : PSt, S.2 ≠ 0 → (one S).2 = S) {S : PSt} (h : S.2 ≠ 0) : (pSer toks one S).2 = S := by
  unfold pSer; rw [serF_stuck (by rw [hone S h]; exact h), hone S h]
end Go.Proofs.YthpcbbnabnlanaaGreatDoor

/-
  The plain mathematics between the two sides: sums, series, lits.
-/
namespace Go.Proofs.YthpcbbnabnlanaaGreatDoor
set_option linter.unusedVariables false
variable {T : List PTok} {L : Nat}

theorem contains_two (x a b : Int) (h : x ≠ b) : [a, b].contains x = decide (x = a) := by simp [h]
theorem sim_term (hC : Cut T L) (neg : Bool) {S : PSt} (h0 : S.2 = 0) (hi : S.1 ≤ T.length) : Sim T L (-48) 2 [yTerm] S.1 (pTerm (pt T L) neg S).2 := by
  obtain ⟨ho, hso, -⟩ := at_hand hC hi
  unfold pTerm
  by_cases c : srt (tkN (pt T L) S.1) = 3
  · rw [if_pos c]
    have hk : (hand (T.drop S.1)).kind = 105 := ho.int.2 (hso.trans c)
    refine Sim.expand (next := [yINT, gStar, yNAME]) (by rw [hk]; rfl) (d := -49) (D := 1) ?_ (by decide) (by decide)
    refine Sim.seq (a := [yINT]) (b := [gStar, yNAME]) (sim_take hC 3 (by decide) (by decide) [3, 2] (by rw [c]; rfl) h0 hi) (fun e hn => ?_) (fun e => by simp only [take_stuck e]) (d2 := -98) (D2 := 1) (by decide) (by decide) (by decide)
    exact Sim.seq (a := [gStar]) (b := [yNAME]) (sim_one hC 21 (by decide) (by decide) e hn) (fun e hn => sim_one hC 2 (by decide) (by decide) e hn) (fun e => take_stuck e) (by decide) (by decide) (by decide)
  · rw [if_neg c]
    have hk : ¬ (hand (T.drop S.1)).kind = 105 := fun q => c (hso.symm.trans (ho.int.1 q))
    refine Sim.expand (next := [yNAME]) (by unfold becomes; rw [if_neg (by decide), if_neg (by decide), if_neg (by decide), if_neg (by decide), if_neg (by decide), if_neg (by decide), if_neg (by decide), if_neg (by decide), if_pos rfl, if_neg hk]) (d := -49) (D := 1) ?_ (by decide) (by decide)
    exact sim_take hC 2 (by decide) (by decide) [3, 2] (by simp [c]) h0 hi
theorem sim_lit (hC : Cut T L) {S : PSt} (h0 : S.2 = 0) (hi : S.1 ≤ T.length) : Sim T L (-48) 2 [yLit] S.1 (pLit (pt T L) S).2 := by
  obtain ⟨ho, hso, -⟩ := at_hand hC hi
  have hb := ho.byt 22 (by decide) (by decide)
  rw [hso] at hb
  unfold pLit
  by_cases c : srt (tkN (pt T L) S.1) = 22
  · rw [if_pos c]
    have hts : (hand (T.drop S.1)).s.toList = gNot := hb.2 c
    refine Sim.expand (next := [gNot, yNAME]) (by rw [hts]; rfl) (d := -49) (D := 1) ?_ (by decide) (by decide)
    exact Sim.seq (a := [gNot]) (b := [yNAME]) (sim_take hC 22 (by decide) (by decide) [22, 2] (by rw [c]; rfl) h0 hi) (fun e hn => sim_one hC 2 (by decide) (by decide) e hn) (fun e => take_stuck e) (by decide) (by decide) (by decide)
  · rw [if_neg c]
    have hts : ¬ (hand (T.drop S.1)).s.toList = gNot := fun q => c (hb.1 q)
    refine Sim.expand (next := [yNAME]) (by unfold becomes; rw [if_neg (by decide), if_neg (by decide), if_neg (by decide), if_neg (by decide), if_neg (by decide), if_pos rfl, if_neg hts]) (d := -49) (D := 1) ?_ (by decide) (by decide)
    exact sim_take hC 2 (by decide) (by decide) [22, 2] (by simp [c]) h0 hi
/-- a relation -/
theorem sim_rel (hC : Cut T L) {S : PSt} (h0 : S.2 = 0) (hi : S.1 ≤ T.length) : Sim T L (-48) 2 [yRel] S.1 (pTake (pt T L) [14, 15, 16] S) := by
  obtain ⟨ho, hso, -⟩ := at_hand hC hi
  have b15 := ho.byt 15 (by decide) (by decide)
  have b16 := ho.byt 16 (by decide) (by decide)
  rw [hso] at b15 b16
  by_cases c : srt (tkN (pt T L) S.1) = 15
  · have hts : (hand (T.drop S.1)).s.toList = gNe := b15.2 c
    exact Sim.expand (next := [gNe]) (by rw [hts]; rfl) (sim_take hC 15 (by decide) (by decide) [14, 15, 16] (by rw [c]; rfl) h0 hi) (by decide) (by decide)
  by_cases c' : srt (tkN (pt T L) S.1) = 16
  · have hts : (hand (T.drop S.1)).s.toList = gLe := b16.2 c'
    exact Sim.expand (next := [gLe]) (by rw [hts]; rfl) (sim_take hC 16 (by decide) (by decide) [14, 15, 16] (by rw [c']; rfl) h0 hi) (by decide) (by decide)
  have hts : ¬ ((hand (T.drop S.1)).s.toList = gNe ∨ (hand (T.drop S.1)).s.toList = gLe) := fun q => by
    rcases q with q | q
    · exact c (b15.1 q)
    · exact c' (b16.1 q)
  refine Sim.expand (next := [gEq]) (by unfold becomes; rw [if_neg (by decide), if_neg (by decide), if_neg (by decide), if_neg (by decide), if_neg (by decide), if_neg (by decide), if_neg (by decide), if_neg (by decide), if_neg (by decide), if_pos rfl, if_neg hts]) (d := -49) (D := 1) ?_ (by decide) (by decide)
  exact sim_take hC 14 (by decide) (by decide) [14, 15, 16] (by simp [c, c']) h0 hi
/-- further terms, and the relation -/
theorem sim_terms (hC : Cut T L) (f : Nat) : ∀ (acc : List GTerm) (S : PSt), S.2 = 0 → S.1 ≤ T.length → T.length - S.1 < f → Sim T L (-47) 3 [yTerms] S.1 (pTake (pt T L) [14, 15, 16] (sumF (pt T L) f acc S).2) := by
  induction f with
  | zero => intro acc S _ _ h; omega
  | succ f ih =>
    intro acc S h0 hi hf
    obtain ⟨ho, hso, -⟩ := at_hand hC hi
    have b20 := ho.byt 20 (by decide) (by decide)
    have b23 := ho.byt 23 (by decide) (by decide)
    rw [hso] at b20 b23
    simp only [sumF]
    by_cases c : srt (tkN (pt T L) S.1) = 20 ∨ srt (tkN (pt T L) S.1) = 23
    · rw [if_pos (by unfold pSees; rcases c with c | c <;> simp [h0, c])]
      obtain ⟨k, hk2, hk23, hks, hts⟩ : ∃ k : Int, 2 ≤ k ∧ k ≤ 23 ∧ srt (tkN (pt T L) S.1) = k ∧ (k = 20 ∨ k = 23) ∧ (hand (T.drop S.1)).s.toList = sym k := by
        rcases c with c | c
        · exact ⟨20, by decide, by decide, c, .inl rfl, b20.2 c⟩
        · exact ⟨23, by decide, by decide, c, .inr rfl, b23.2 c⟩
      have hbec : becomes yTerms (hand (T.drop S.1)).kind (hand (T.drop S.1)).s.toList = some [sym k, yTerm, yTerms] := by
        rw [hts.2]
        rcases hts.1 with rfl | rfl <;> rfl
      refine Sim.expand (next := [sym k, yTerm, yTerms]) hbec (d := -100) (D := 1) ?_ (by decide) (by decide)
      have s1 := sim_take hC k hk2 hk23 [20, 23] (S := S) (by rw [hks]; rcases hts.1 with rfl | rfl <;> rfl) h0 hi
      refine Sim.seq (a := [sym k]) (b := [yTerm, yTerms]) s1 (fun e hn => ?_) (fun e => ?_) (d2 := -95) (D2 := 2) (by decide) (by decide) (by decide)
      · have s2 := sim_term hC (srt (tkN (pt T L) S.1) == 23) e hn
        refine Sim.seq (a := [yTerm]) (b := [yTerms]) s2 (fun e' hn' => ?_) (fun e' => ?_) (d2 := -47) (D2 := 3) (by decide) (by decide) (by decide)
        · refine ih _ _ e' hn' ?_
          have q1 := (adv_term (pt T L) (srt (tkN (pt T L) S.1) == 23) (pTake (pt T L) [20, 23] S)).1
          have q2 : (pTake (pt T L) [20, 23] S).1 = S.1 + 1 := by
            rw [pTake_sees h0 (by rcases c with c | c <;> rw [c] <;> rfl)]
          omega
        · rw [sumF_stuck e', take_stuck e']
      · rw [term_stuck e, sumF_stuck e, take_stuck e]
    · rw [if_neg (by unfold pSees; simp only [h0]; simpa using c)]
      have hts : ¬ ((hand (T.drop S.1)).s.toList = gPlus ∨ (hand (T.drop S.1)).s.toList = gMinus) := fun q => c (q.imp b20.1 b23.1)
      exact Sim.expand (next := [yRel]) (by unfold becomes; rw [if_neg (by decide), if_neg (by decide), if_neg (by decide), if_neg (by decide), if_neg (by decide), if_neg (by decide), if_neg (by decide), if_pos rfl, if_neg hts]) (sim_rel hC h0 hi) (by decide) (by decide)
theorem pt_len : (pt T L).length = T.length + 1 := by simp [pt]
theorem sim_sum (hC : Cut T L) {S : PSt} (h0 : S.2 = 0) (hi : S.1 ≤ T.length) : Sim T L (-90) 3 [ySum] S.1 (pTake (pt T L) [14, 15, 16] (pSum (pt T L) S).2) := by
  refine Sim.expand (next := [yTerm, yTerms]) rfl (d := -95) (D := 2) ?_ (by decide) (by decide)
  refine Sim.seq (a := [yTerm]) (b := [yTerms]) (sim_term hC false h0 hi) (fun e hn => ?_) (fun e => ?_) (d2 := -47) (D2 := 3) (by decide) (by decide) (by decide)
  · exact sim_terms hC _ _ _ e hn (by rw [pt_len]; omega)
  · unfold pSum; rw [sumF_stuck e, take_stuck e]
/-- further ones of a series -/
theorem sim_serF {α : Type} (hC : Cut T L) (X Ys : List UInt8) (one : PSt → α × PSt) (hY : ∀ kd ts, becomes Ys kd ts = some (if ts = gComma then [gComma, X, Ys] else []))
    (hone : ∀ S : PSt, S.2 = 0 → S.1 ≤ T.length → Sim T L (-48) 2 [X] S.1 (one S).2) (hst : ∀ S : PSt, S.2 ≠ 0 → (one S).2 = S) (hadv : ∀ S : PSt, S.1 ≤ (one S).2.1) (f : Nat) :
    ∀ (acc : List α) (S : PSt), S.2 = 0 → S.1 ≤ T.length → T.length - S.1 < f → Sim T L 1 3 [Ys] S.1 (serF (pt T L) one f acc S).2 := by
  induction f with
  | zero => intro acc S _ _ h; omega
  | succ f ih =>
    intro acc S h0 hi hf
    obtain ⟨ho, hso, -⟩ := at_hand hC hi
    have b13 := ho.byt 13 (by decide) (by decide)
    rw [hso] at b13
    simp only [serF]
    by_cases c : srt (tkN (pt T L) S.1) = 13
    · rw [if_pos (by unfold pSees; simp [h0, c])]
      have hts : (hand (T.drop S.1)).s.toList = gComma := b13.2 c
      refine Sim.expand (next := [gComma, X, Ys]) (by rw [hY, if_pos hts]) (d := -90) (D := 1) ?_ (by decide) (by decide)
      refine Sim.seq (a := [gComma]) (b := [X, Ys]) (sim_one hC 13 (by decide) (by decide) h0 hi) (fun e hn => ?_) (fun e => ?_) (d2 := -47) (D2 := 3) (by decide) (by decide) (by decide)
      · refine Sim.seq (a := [X]) (b := [Ys]) (hone _ e hn) (fun e' hn' => ?_) (fun e' => ?_) (d2 := 1) (D2 := 3) (by decide) (by decide) (by decide)
        · refine ih _ _ e' hn' ?_
          have q1 := hadv (pTake (pt T L) [13] S)
          have q2 : (pTake (pt T L) [13] S).1 = S.1 + 1 := by rw [pTake_sees h0 (by rw [c]; rfl)]
          omega
        · rw [serF_stuck e']
      · rw [hst _ e, serF_stuck e]
    · rw [if_neg (by unfold pSees; simp only [h0]; simpa using c)]
      have hts : ¬ (hand (T.drop S.1)).s.toList = gComma := fun q => c (b13.1 q)
      exact Sim.expand (next := []) (by rw [hY, if_neg hts]) (sim_nil h0 hi) (by decide) (by decide)
theorem sim_ser {α : Type} (hC : Cut T L) (X Ys : List UInt8) (one : PSt → α × PSt) (hY : ∀ kd ts, becomes Ys kd ts = some (if ts = gComma then [gComma, X, Ys] else []))
    (hone : ∀ S : PSt, S.2 = 0 → S.1 ≤ T.length → Sim T L (-48) 2 [X] S.1 (one S).2) (hst : ∀ S : PSt, S.2 ≠ 0 → (one S).2 = S) (hadv : ∀ S : PSt, S.1 ≤ (one S).2.1) {S : PSt} (h0 : S.2 = 0) (hi : S.1 ≤ T.length) :
    Sim T L (-47) 2 [X, Ys] S.1 (pSer (pt T L) one S).2 := by
  refine Sim.seq (a := [X]) (b := [Ys]) (hone S h0 hi) (fun e hn => ?_) (fun e => ?_) (d2 := 1) (D2 := 3) (by decide) (by decide) (by decide)
  · exact sim_serF hC X Ys one hY hone hst hadv _ _ _ e hn (by rw [pt_len]; omega)
  · rw [pSer, serF_stuck e]
end Go.Proofs.YthpcbbnabnlanaaGreatDoor

/-
  The plain mathematics between the two sides: a statement, the whole text's form.
-/
namespace Go.Proofs.YthpcbbnabnlanaaGreatDoor
set_option linter.unusedVariables false
variable {T : List PTok} {L : Nat}

theorem sim_kw (hC : Cut T L) (k : Int) (h4 : 4 ≤ k) (h10 : k ≤ 10) {S : PSt} (h0 : S.2 = 0) (hi : S.1 ≤ T.length) (hk : srt (tkN (pt T L) S.1) = k) : Sim T L (-49) 1 [sym k] S.1 (pTake (pt T L) kwSorts S) := by
  refine sim_take hC k (by omega) (by omega) kwSorts ?_ h0 hi
  rw [hk]
  have : k = 4 ∨ k = 5 ∨ k = 6 ∨ k = 7 ∨ k = 8 ∨ k = 9 ∨ k = 10 := by omega
  rcases this with rfl | rfl | rfl | rfl | rfl | rfl | rfl <;> rfl
theorem becInts (kd : Int) (ts : List UInt8) : becomes yInts kd ts = some (if ts = gComma then [gComma, yINT, yInts] else []) := rfl
theorem becNames (kd : Int) (ts : List UInt8) : becomes yNames kd ts = some (if ts = gComma then [gComma, yNAME, yNames] else []) := rfl
theorem becLits (kd : Int) (ts : List UInt8) : becomes yLits kd ts = some (if ts = gComma then [gComma, yLit, yLits] else []) := rfl
theorem sim_lin (hC : Cut T L) (s : GSt) {S : PSt} (h0 : S.2 = 0) (hi : S.1 ≤ T.length) : Sim T L (-90) 3 [ySum, yINT] S.1 (pLin (pt T L) s S).2 := by
  unfold pLin
  exact Sim.seq (a := [ySum]) (b := [yINT]) (sim_sum hC h0 hi) (fun e hn => sim_one hC 3 (by decide) (by decide) e hn) (fun e => take_stuck e) (by decide) (by decide) (by decide)
theorem lin_stuck {toks : List PTok} {s : GSt} {S : PSt} (h : S.2 ≠ 0) : (pLin toks s S).2 = S := by
  unfold pLin; simp only [sum_stuck h, take_stuck h]
theorem sim_stmt (hC : Cut T L) {S : PSt} (h0 : S.2 = 0) (hi : S.1 ≤ T.length) (hk4 : 4 ≤ srt (tkN (pt T L) S.1)) (hk10 : srt (tkN (pt T L) S.1) ≤ 10) : Sim T L (-48) 2 [yStatement] S.1 (pStmt (pt T L) S).2 := by
  obtain ⟨ho, hso, -⟩ := at_hand hC hi
  obtain ⟨k, hk⟩ : ∃ k, srt (tkN (pt T L) S.1) = k := ⟨_, rfl⟩
  have hb := (ho.byt k (by omega) (by omega)).2 (hso.trans hk)
  have s1 := sim_kw hC k (by omega) (by omega) h0 hi hk
  have one : ∀ (j : Int) (a : 2 ≤ j) (b : j ≤ 23) {S : PSt} (e : S.2 = 0) (hn : S.1 ≤ T.length), Sim T L (-49) 1 [sym j] S.1 (pTake (pt T L) [j] S) := fun j a b {S} e hn => sim_one hC j a b e hn
  have hcs : k = 4 ∨ k = 5 ∨ k = 6 ∨ k = 7 ∨ k = 8 ∨ k = 9 ∨ k = 10 := by omega
  unfold pStmt
  simp only
  rw [hk]
  rcases hcs with rfl | rfl | rfl | rfl | rfl | rfl | rfl
  · rw [if_pos rfl]
    refine Sim.expand (next := [kVar, yNAME, gColon, yINT, gDots, yINT]) (by rw [hb]; rfl) (d := -49) (D := 1) ?_ (by decide) (by decide)
    refine Sim.seq (a := [kVar]) (b := [yNAME, gColon, yINT, gDots, yINT]) s1 (fun e hn => ?_) (fun e => by simp only [take_stuck e]) (d2 := -49) (D2 := 1) (by decide) (by decide) (by decide)
    refine Sim.seq (a := [yNAME]) (b := [gColon, yINT, gDots, yINT]) (one 2 (by decide) (by decide) e hn) (fun e hn => ?_) (fun e => by simp only [take_stuck e]) (d2 := -49) (D2 := 1) (by decide) (by decide) (by decide)
    refine Sim.seq (a := [gColon]) (b := [yINT, gDots, yINT]) (one 12 (by decide) (by decide) e hn) (fun e hn => ?_) (fun e => by simp only [take_stuck e]) (d2 := -49) (D2 := 1) (by decide) (by decide) (by decide)
    refine Sim.seq (a := [yINT]) (b := [gDots, yINT]) (one 3 (by decide) (by decide) e hn) (fun e hn => ?_) (fun e => by simp only [take_stuck e]) (d2 := -49) (D2 := 1) (by decide) (by decide) (by decide)
    exact Sim.seq (a := [gDots]) (b := [yINT]) (one 17 (by decide) (by decide) e hn) (fun e hn => one 3 (by decide) (by decide) e hn) (fun e => take_stuck e) (by decide) (by decide) (by decide)
  · rw [if_neg (by decide), if_pos rfl]
    refine Sim.expand (next := [kList, yNAME, gEq, gOpen, yINT, yInts, gClose]) (by rw [hb]; rfl) (d := -49) (D := 1) ?_ (by decide) (by decide)
    have st : ∀ {S : PSt}, S.2 ≠ 0 → (pSer (pt T L) (pTok (pt T L) 3) S).2 = S := fun h => ser_stuck (fun S h => take_stuck h) h
    refine Sim.seq (a := [kList]) (b := [yNAME, gEq, gOpen, yINT, yInts, gClose]) s1 (fun e hn => ?_) (fun e => by simp only [take_stuck e, st e]) (d2 := -49) (D2 := 1) (by decide) (by decide) (by decide)
    refine Sim.seq (a := [yNAME]) (b := [gEq, gOpen, yINT, yInts, gClose]) (one 2 (by decide) (by decide) e hn) (fun e hn => ?_) (fun e => by simp only [take_stuck e, st e]) (d2 := -49) (D2 := 1) (by decide) (by decide) (by decide)
    refine Sim.seq (a := [gEq]) (b := [gOpen, yINT, yInts, gClose]) (one 14 (by decide) (by decide) e hn) (fun e hn => ?_) (fun e => by simp only [take_stuck e, st e]) (d2 := -49) (D2 := 1) (by decide) (by decide) (by decide)
    refine Sim.seq (a := [gOpen]) (b := [yINT, yInts, gClose]) (one 18 (by decide) (by decide) e hn) (fun e hn => ?_) (fun e => by simp only [take_stuck e, st e]) (d2 := -49) (D2 := 2) (by decide) (by decide) (by decide)
    exact Sim.seq (a := [yINT, yInts]) (b := [gClose]) (sim_ser hC yINT yInts (pTok (pt T L) 3) becInts (fun S e hn => (one 3 (by decide) (by decide) e hn).le (by decide) (by decide)) (fun S h => take_stuck h) (fun S => pTake_le) e hn) (fun e hn => one 19 (by decide) (by decide) e hn) (fun e => take_stuck e) (by decide) (by decide) (by decide)
  · rw [if_neg (by decide), if_neg (by decide), if_neg (by decide), if_pos rfl]
    refine Sim.expand (next := [kLin, ySum, yINT]) (by rw [hb]; rfl) (d := -49) (D := 1) ?_ (by decide) (by decide)
    exact Sim.seq (a := [kLin]) (b := [ySum, yINT]) s1 (fun e hn => sim_lin hC _ e hn) (fun e => lin_stuck e) (by decide) (by decide) (by decide)
  · rw [if_neg (by decide), if_neg (by decide), if_pos rfl]
    refine Sim.expand (next := [kWhen, yNAME, gColon, ySum, yINT]) (by rw [hb]; rfl) (d := -49) (D := 1) ?_ (by decide) (by decide)
    refine Sim.seq (a := [kWhen]) (b := [yNAME, gColon, ySum, yINT]) s1 (fun e hn => ?_) (fun e => by simp only [take_stuck e, lin_stuck e]) (d2 := -49) (D2 := 1) (by decide) (by decide) (by decide)
    refine Sim.seq (a := [yNAME]) (b := [gColon, ySum, yINT]) (one 2 (by decide) (by decide) e hn) (fun e hn => ?_) (fun e => by simp only [take_stuck e, lin_stuck e]) (d2 := -49) (D2 := 1) (by decide) (by decide) (by decide)
    exact Sim.seq (a := [gColon]) (b := [ySum, yINT]) (one 12 (by decide) (by decide) e hn) (fun e hn => sim_lin hC _ e hn) (fun e => lin_stuck e) (by decide) (by decide) (by decide)
  · rw [if_neg (by decide), if_neg (by decide), if_neg (by decide), if_neg (by decide), if_pos rfl]
    refine Sim.expand (next := [kAt, yNAME, gOpen, yNAME, gClose, gEq, yNAME]) (by rw [hb]; rfl) (d := -49) (D := 1) ?_ (by decide) (by decide)
    refine Sim.seq (a := [kAt]) (b := [yNAME, gOpen, yNAME, gClose, gEq, yNAME]) s1 (fun e hn => ?_) (fun e => by simp only [take_stuck e]) (d2 := -49) (D2 := 1) (by decide) (by decide) (by decide)
    refine Sim.seq (a := [yNAME]) (b := [gOpen, yNAME, gClose, gEq, yNAME]) (one 2 (by decide) (by decide) e hn) (fun e hn => ?_) (fun e => by simp only [take_stuck e]) (d2 := -49) (D2 := 1) (by decide) (by decide) (by decide)
    refine Sim.seq (a := [gOpen]) (b := [yNAME, gClose, gEq, yNAME]) (one 18 (by decide) (by decide) e hn) (fun e hn => ?_) (fun e => by simp only [take_stuck e]) (d2 := -49) (D2 := 1) (by decide) (by decide) (by decide)
    refine Sim.seq (a := [yNAME]) (b := [gClose, gEq, yNAME]) (one 2 (by decide) (by decide) e hn) (fun e hn => ?_) (fun e => by simp only [take_stuck e]) (d2 := -49) (D2 := 1) (by decide) (by decide) (by decide)
    refine Sim.seq (a := [gClose]) (b := [gEq, yNAME]) (one 19 (by decide) (by decide) e hn) (fun e hn => ?_) (fun e => by simp only [take_stuck e]) (d2 := -49) (D2 := 1) (by decide) (by decide) (by decide)
    exact Sim.seq (a := [gEq]) (b := [yNAME]) (one 14 (by decide) (by decide) e hn) (fun e hn => one 2 (by decide) (by decide) e hn) (fun e => take_stuck e) (by decide) (by decide) (by decide)
  · rw [if_neg (by decide), if_neg (by decide), if_neg (by decide), if_neg (by decide), if_neg (by decide), if_pos rfl]
    refine Sim.expand (next := [kDiff, yNAME, yNames]) (by rw [hb]; rfl) (d := -49) (D := 1) ?_ (by decide) (by decide)
    exact Sim.seq (a := [kDiff]) (b := [yNAME, yNames]) s1 (fun e hn => sim_ser hC yNAME yNames (pTok (pt T L) 2) becNames (fun S e hn => (one 2 (by decide) (by decide) e hn).le (by decide) (by decide)) (fun S h => take_stuck h) (fun S => pTake_le) e hn) (fun e => ser_stuck (fun S h => take_stuck h) e) (by decide) (by decide) (by decide)
  · rw [if_neg (by decide), if_neg (by decide), if_neg (by decide), if_neg (by decide), if_neg (by decide), if_neg (by decide), if_pos rfl]
    refine Sim.expand (next := [kOr, yLit, yLits]) (by rw [hb]; rfl) (d := -49) (D := 1) ?_ (by decide) (by decide)
    exact Sim.seq (a := [kOr]) (b := [yLit, yLits]) s1 (fun e hn => sim_ser hC yLit yLits (pLit (pt T L)) becLits (fun S e hn => sim_lit hC e hn) (fun S h => lit_stuck h) (fun S => (adv_lit _ S).1) e hn) (fun e => ser_stuck (fun S h => lit_stuck h) e) (by decide) (by decide) (by decide)

theorem parseF_stuck {toks : List PTok} {f : Nat} {acc : List GSt} {S : PSt} (h : S.2 ≠ 0) : parseF toks f acc S = (acc, S) := parseF_end (fun q => h q.1)
/-- the machine's end: no fault, or a fault of the line that the program tells -/
def FormEnd (L : Nat) (R : Int) (S : PSt) : Prop := (S.2 = 0 ∧ R = 0) ∨ (S.2 ≠ 0 ∧ R ≠ 0 ∧ flN L R = S.2)
theorem sim_model (hC : Cut T L) (f : Nat) : ∀ (acc : List GSt) (S : PSt), S.2 = 0 → S.1 ≤ T.length → T.length - S.1 < f →
    ∃ (k : Nat) (R : Int), (k : Int) ≤ 50 * ((T.length : Int) - S.1) + 10 ∧ formF k [yModel] (T.drop S.1) = some R ∧ FormEnd L R (parseF (pt T L) f acc S).2 := by
  induction f with
  | zero => intro acc S _ _ h; omega
  | succ f ih =>
    intro acc S h0 hi hf
    obtain ⟨ho, hso, hl0, hfl, hl1⟩ := at_hand hC hi
    by_cases ck : 4 ≤ srt (tkN (pt T L) S.1) ∧ srt (tkN (pt T L) S.1) ≤ 10
    · have hkd : (hand (T.drop S.1)).kind = 107 := ho.kwd.2 (by rw [hso]; exact ck)
      have hbec : becomes yModel (hand (T.drop S.1)).kind (hand (T.drop S.1)).s.toList = some [yStatement, gSemi, yModel] := by rw [hkd]; rfl
      rw [parseF_more h0 (by omega)]
      have hs : Sim T L (-97) 2 [yStatement, gSemi] S.1 (pTake (pt T L) [11] (pStmt (pt T L) S).2) :=
        Sim.seq (a := [yStatement]) (b := [gSemi]) (sim_stmt hC h0 hi ck.1 ck.2) (fun e hn => sim_one hC 11 (by decide) (by decide) e hn) (fun e => take_stuck e) (by decide) (by decide) (by decide)
      rcases hs with ⟨e, hi', hn, k, hk, hr⟩ | ⟨e, k, R, hk, hR, hfR, hb⟩
      · have hadv : S.1 < (pTake (pt T L) [11] (pStmt (pt T L) S).2).1 := by
          have := (adv_stmt (pt T L) S).trans (adv_take (pt T L) [11] _)
          have h1 := this.1
          have h2 : (pTake (pt T L) kwSorts S).1 = S.1 + 1 := by
            rw [pTake_sees h0]
            obtain ⟨j, hj⟩ : ∃ j, srt (tkN (pt T L) S.1) = j := ⟨_, rfl⟩
            rw [hj] at ck ⊢
            have : j = 4 ∨ j = 5 ∨ j = 6 ∨ j = 7 ∨ j = 8 ∨ j = 9 ∨ j = 10 := by omega
            rcases this with rfl | rfl | rfl | rfl | rfl | rfl | rfl <;> rfl
          omega
        obtain ⟨k', R, hk', hR, hE⟩ := ih (acc ++ [(pStmt (pt T L) S).1]) _ e hn (by omega)
        refine ⟨k' + k + 1, R, by omega, ?_, hE⟩
        rw [formF_some hbec]
        have := hr k' [yModel]
        rw [show [yStatement, gSemi, yModel] ++ [] = [yStatement, gSemi] ++ [yModel] from rfl, this, hR]
      · rw [parseF_stuck e]
        refine ⟨k + 1, R, by omega, ?_, .inr ⟨e, hR, hfR⟩⟩
        rw [formF_some hbec]
        have := hb 0 [yModel]
        rw [Nat.zero_add] at this
        exact this
    · have hkd : ¬ (hand (T.drop S.1)).kind = 107 := fun q => ck (by have := ho.kwd.1 q; rwa [hso] at this)
      have hbec : becomes yModel (hand (T.drop S.1)).kind (hand (T.drop S.1)).s.toList = some [] := by unfold becomes; rw [if_pos rfl, if_neg hkd]
      rcases Nat.lt_or_ge S.1 T.length with hlt | hge
      · have hne : srt (tkN (pt T L) S.1) ≠ 1 := by
          intro q
          have := ho.eof.2 (hso.trans q)
          rw [hand_lt hlt] at this
          rcases hC.kind _ (List.getElem_mem hlt) with q | q | q | q <;> omega
        rw [parseF_more h0 hne]
        have hns : kwSorts.contains (srt (tkN (pt T L) S.1)) = false := by
          obtain ⟨j, hj⟩ : ∃ j, srt (tkN (pt T L) S.1) = j := ⟨_, rfl⟩
          rw [hj] at ck ⊢
          have e : j ≠ 4 ∧ j ≠ 5 ∧ j ≠ 6 ∧ j ≠ 7 ∧ j ≠ 8 ∧ j ≠ 9 ∧ j ≠ 10 := by omega
          simp [kwSorts, e.1, e.2.1, e.2.2.1, e.2.2.2.1, e.2.2.2.2.1, e.2.2.2.2.2.1, e.2.2.2.2.2.2]
        have hst : (pStmt (pt T L) S).2 = (S.1, ((tkN (pt T L) S.1).line : Int)) := by
          have ht : pTake (pt T L) kwSorts S = (S.1, ((tkN (pt T L) S.1).line : Int)) := by
            unfold pTake; rw [if_pos h0, hns]; simp
          unfold pStmt
          simp only
          rw [if_neg (by omega), if_neg (by omega), if_neg (by omega), if_neg (by omega), if_neg (by omega), if_neg (by omega), if_neg (by omega), ht]
        have hs2 : (pStmt (pt T L) S).2.2 ≠ 0 := by rw [hst]; simp only; omega
        rw [take_stuck hs2, parseF_stuck hs2]
        refine ⟨2, T[S.1].line, by omega, ?_, .inr ⟨hs2, ?_, ?_⟩⟩
        · rw [formF_some hbec, List.drop_eq_getElem_cons hlt]; rfl
        · have := hC.line _ (List.getElem_mem hlt); omega
        · rw [hst, pt_lt hlt]; unfold flN; rw [if_neg (by omega)]
      · have e : S.1 = T.length := by omega
        rw [parseF_end (fun q => q.2 (by rw [e, pt_end, srt_end]))]
        refine ⟨2, 0, by omega, ?_, .inl ⟨h0, rfl⟩⟩
        rw [formF_some hbec, e, List.drop_length]; rfl
/-- the form: the machine's answer beside the program's -/
theorem form_parse (hC : Cut T L) (hn : T.length ≤ 2000) : ∃ (k : Nat) (R : Int), k ≤ 1000000 ∧ formF k [yModel] T = some R ∧ FormEnd L R (pParse (pt T L)).2 := by
  obtain ⟨k, R, hk, hR, hE⟩ := sim_model hC ((pt T L).length + 1) [] (0, 0) rfl (Nat.zero_le _) (by rw [pt_len]; omega)
  exact ⟨k, R, by simp only at hk; omega, hR, hE⟩
end Go.Proofs.YthpcbbnabnlanaaGreatDoor
