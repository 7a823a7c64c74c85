import Derived.Test.YthpcbbnabnlanaaGreatDoorM33
import Derived.Deep.QuietTactic
import Derived.BigQuiet
/-
  Both sides in one: the reference's New, the program's New and Names.
-/
namespace Go.Proofs.YthpcbbnabnlanaaGreatDoor
open Go.RowKit
set_option linter.unusedVariables false

/-- a text that is too long: both say so -/
theorem both_long (s : ByteArray) (hs : 2000 < s.size) (w : World) :
    (Calls Tryz.prog 35 #[.string s] w fun e w' => e = .returned (.tuple #[.pointer none, .int .i64 1, .int .i64 0]) ∧ w' = w) ∧
    (Calls Tryz.prog 38 #[.string s] w fun e w' => e = .returned (.tuple #[.pointer none, .int .i64 1, .int .i64 0]) ∧ w' = w) := ⟨pn_long s w hs, ref_New_long s w hs⟩
/-- a text with a fault of tokens: both say so, of the same line -/
theorem both_tok (s : ByteArray) (hs : s.size ≤ 2000) (hl : (lex s).1 ≠ 0) (w : World) :
    (Calls Tryz.prog 35 #[.string s] w fun e w' => e = .returned (.tuple #[.pointer none, .int .i64 2, .int .i64 (lex s).1]) ∧ w.grownBy w' none) ∧
    (Calls Tryz.prog 38 #[.string s] w fun e w' => e = .returned (.tuple #[.pointer none, .int .i64 2, .int .i64 ((lex s).1 : Int)]) ∧ Below w.heap.size w w') := ⟨pn_tok s w hs hl, ref_New_tok s w hs hl⟩
end Go.Proofs.YthpcbbnabnlanaaGreatDoor

/-
  Both News of one text: the same fault, or a model of the same variables.
-/
namespace Go.Proofs.YthpcbbnabnlanaaGreatDoor
open Go.RowKit
set_option linter.unusedVariables false

/-- the text's variables, as the program knows them -/
def varsOf (s : ByteArray) : List QVar := (runQ (gsOf s) q0).vars
/-- the program finds this fault -/
abbrev PFault (s : ByteArray) (kd ln : Int) : Prop := ∀ W : World, Calls Tryz.prog 35 #[.string s] W fun e w' => e = .returned (.tuple #[.pointer none, .int .i64 kd, .int .i64 ln]) ∧ W.grownBy w' none
abbrev RFault (s : ByteArray) (kd ln : Int) : Prop := ∀ W : World, Calls Tryz.prog 38 #[.string s] W fun e w' => e = .returned (.tuple #[.pointer none, .int .i64 kd, .int .i64 ln]) ∧ W.grownBy w' none
/-- the program makes a model -/
abbrev PModel (s : ByteArray) (l : List QVar) : Prop := ∀ W : World, PowTab W → Calls Tryz.prog 35 #[.string s] W fun e w' => ∃ b bc gr vp, e = .returned (.tuple #[.pointer (some ⟨b, 0, none⟩), .int .i64 0, .int .i64 0]) ∧ ProgAt w' b bc gr vp l s ∧ (∀ k ∈ [b, bc, gr], W.heap.size ≤ k ∧ k < w'.heap.size) ∧ W.grownBy w' none
abbrev RModel (s : ByteArray) (l : List QVar) : Prop := ∀ W : World, Calls Tryz.prog 38 #[.string s] W fun e w' => ∃ r gv vr, e = .returned (.tuple #[.pointer (some ⟨r, 0, none⟩), .int .i64 0, .int .i64 0]) ∧ RefAt w' r gv vr l ∧ (∀ k ∈ [r, gv], W.heap.size ≤ k ∧ k < w'.heap.size) ∧ W.grownBy w' none

theorem bel_grown {w w' : World} (h : Below w.heap.size w w') : w.grownBy w' none := ⟨h.os, h.tape, h.output, h.size, fun k hk _ => h.block k hk⟩
theorem qStep_vars (g : GSt) (q : QSt) : (qStep g q).vars.length ≤ q.vars.length + 1 := by
  unfold qStep
  split
  · split
    · simp
    · omega
  · split
    · simp
    · simp
theorem runQ_vars (gs : List GSt) : ∀ q : QSt, (runQ gs q).vars.length ≤ q.vars.length + gs.length := by
  induction gs with
  | nil => intro q; simp [runQ]
  | cons g gs ih =>
    intro q
    have h := qStep_vars g q
    simp only [runQ, List.length_cons]
    split
    · have := ih (qStep g q); omega
    · omega
theorem qP_name (a : QVar) : (qP a).name = a.name := rfl
theorem pmodel (s : ByteArray) (hs : s.size ≤ 2000) (hl : (lex s).1 = 0) (hp : (pParse (progToks s)).2.2 = 0) (hq : (runQ (gsOf s) q0).st.1 = 0) : PModel s (varsOf s) ∧ (varsOf s).length ≤ 2500 := by
  have key : ∀ (W w' : World) (b : Nat), W.heap.size ≤ b → MdlIs w' W.heap.size b s → (varsOf s).length ≤ 2500 ∧ ∃ bc gr vp, ProgAt w' b bc gr vp (varsOf s) s ∧ (∀ k ∈ [b, bc, gr], W.heap.size ≤ k ∧ k < w'.heap.size) := by
    rintro W w' b hb ⟨bc, bm, B, k, h1, h2, h3, h4, h5, h6, hS⟩
    obtain ⟨n, g, vV, vC, xs, hC, eg, hv, hoV, hoC, b1, b2, b3, hc, hm, hB⟩ := hS
    have hlen : (varsOf s).length ≤ 2500 := Nat.le_trans b2 h3
    refine ⟨hlen, ?_⟩
    rcases own_cells hoV with ⟨e1, e2⟩ | ⟨gr, cap, e1, e2, e3, e4⟩
    · refine ⟨bc, b, vV, ⟨h4, h5, hC.c1, .inl ⟨List.length_eq_zero_iff.1 e1, none, 0, e2⟩⟩, fun k hk => ?_⟩
      simp only [List.mem_cons, List.not_mem_nil, or_false] at hk
      rcases hk with e | e | e
      · exact ⟨by omega, by omega⟩
      · exact ⟨by omega, by have := hC.lt; omega⟩
      · exact ⟨by omega, by omega⟩
    · refine ⟨bc, gr, vV, ⟨h4, h5, hC.c1, .inr ⟨cap, e1, e4⟩⟩, fun k hk => ?_⟩
      simp only [List.mem_cons, List.not_mem_nil, or_false] at hk
      rcases hk with e | e | e
      · exact ⟨by omega, by omega⟩
      · exact ⟨by omega, by have := hC.lt; omega⟩
      · exact ⟨by omega, by omega⟩
  have hlen : (varsOf s).length ≤ 2500 := by
    have h := (parse_ok s hs hp).2
    have := runQ_vars (gsOf s) q0
    have e0 : (q0.vars.length) = 0 := rfl
    unfold varsOf gsOf at *
    omega
  refine ⟨fun W hW => (pn_ok s W hW hs hl hp hq).mono ?_, hlen⟩
  rintro e w' ⟨b, rfl, hb, hM, hg⟩
  obtain ⟨_, bc, gr, vp, h1, h2⟩ := key W w' b hb hM
  exact ⟨b, bc, gr, vp, rfl, h1, h2, hg⟩
theorem rmodel (s : ByteArray) (hs : s.size ≤ 2000) (hl : (lex s).1 = 0) (hp : (pParse (progToks s)).2.2 = 0) (hq : (runQ (gsOf s) q0).st.1 = 0) : RModel s (varsOf s) := by
  obtain ⟨⟨f, hf, hF⟩, hS, hR, hI⟩ := form_ok s hs hl hp
  have hinv := hI hq
  intro W
  by_cases hne : (lex s).2.1 = []
  · rw [hne] at hF
    have hv0 : varsOf s = [] := by
      have hgs : gsOf s = [] := by
        rw [hne] at hS
        cases hg : gsOf s with
        | nil => rfl
        | cons a l =>
          rw [hg] at hS
          obtain ⟨m, h1, _⟩ := hS
          have := stAt_lt h1
          simp at this
      unfold varsOf; rw [hgs]; rfl
    refine (ref_New_empty s W hs hl hne f hf hF).mono ?_
    rintro e w' ⟨hb, bm, h1, h2, rfl, a0, cap, h3⟩
    refine ⟨bm, bm, .slice none 0 0, rfl, ⟨cell_of h3 1 _ rfl, .inl ⟨hv0, rfl⟩⟩, fun k hk => ?_, bel_grown hb⟩
    simp only [List.mem_cons, List.not_mem_nil, or_false] at hk
    rcases hk with e | e <;> exact ⟨by omega, by omega⟩
  · refine (ref_New_ok s W hs hl hne f hf hF _ hS).mono ?_
    rintro e w' ⟨hb, ⟨hbad, _⟩ | ⟨_, bw, bm, gt, capt, B, i, h1, h2, rfl, hM⟩⟩
    · rw [hR] at hbad; exact absurd hq hbad
    · obtain ⟨vv, vl, vr, lists, rules, hMd, _, _⟩ := hM
      have hvars : (runS ((gsOf s).map gS) ⟨[], [], []⟩ (0, 0)).1.vars = (varsOf s).map qP := hinv.vars.symm
      have hov := hMd.ov
      rw [hvars] at hov
      have hbm := hMd.tk.ltm
      rcases own_cells hov with ⟨e1, e2⟩ | ⟨g, cap, e1, e2, e3, e4⟩
      · refine ⟨bm, bm, vv, rfl, ⟨hMd.m1, .inl ⟨by simpa using e1, e2⟩⟩, fun k hk => ?_, bel_grown hb⟩
        simp only [List.mem_cons, List.not_mem_nil, or_false] at hk
        rcases hk with e | e <;> exact ⟨by omega, by omega⟩
      · refine ⟨bm, g, vv, rfl, ⟨hMd.m1, .inr ⟨cap, by simpa using e1, fun k a ha => ?_⟩⟩, fun k hk => ?_, bel_grown hb⟩
        · exact e4 _ _ (varCells_get _ k (qP a) (by simp [ha])).1
        · simp only [List.mem_cons, List.not_mem_nil, or_false] at hk
          rcases hk with e | e
          · exact ⟨by omega, by omega⟩
          · exact ⟨by omega, by omega⟩
theorem both_new (s : ByteArray) : (∃ kd ln : Int, PFault s kd ln ∧ RFault s kd ln) ∨ (∃ l : List QVar, l.length ≤ 2500 ∧ PModel s l ∧ RModel s l) := by
  by_cases hs : s.size ≤ 2000
  · by_cases hl : (lex s).1 = 0
    · by_cases hp : (pParse (progToks s)).2.2 = 0
      · by_cases hq : (runQ (gsOf s) q0).st.1 = 0
        · obtain ⟨h1, h2⟩ := pmodel s hs hl hp hq
          exact .inr ⟨varsOf s, h2, h1, rmodel s hs hl hp hq⟩
        · refine .inl ⟨_, _, fun W => pn_sense s W hs hl hp hq, fun W => ?_⟩
          obtain ⟨⟨f, hf, hF⟩, hS, hR, hI⟩ := form_ok s hs hl hp
          have hne : (lex s).2.1 ≠ [] := fun hne => by
            rw [hne] at hS
            cases hg : gsOf s with
            | nil => rw [hg] at hq; exact hq rfl
            | cons a l =>
              rw [hg] at hS
              obtain ⟨m, h1, _⟩ := hS
              have := stAt_lt h1
              simp at this
          refine (ref_New_ok s W hs hl hne f hf hF _ hS).mono ?_
          rintro e w' ⟨hb, ⟨_, rfl⟩ | ⟨hbad, _⟩⟩
          · rw [hR]; exact ⟨rfl, bel_grown hb⟩
          · rw [hR] at hbad; exact absurd hbad hq
      · obtain ⟨k, R, hk, hR, hR0, hln⟩ := form_bad s hs hl hp
        refine .inl ⟨3, _, fun W => pn_form s W hs hl hp, fun W => (ref_New_form s W hs hl k hk R hR hR0).mono ?_⟩
        rintro e w' ⟨rfl, hb⟩
        rw [hln]; exact ⟨rfl, bel_grown hb⟩
    · refine .inl ⟨2, (lex s).1, fun W => pn_tok s W hs hl, fun W => (ref_New_tok s W hs hl).mono ?_⟩
      rintro e w' ⟨rfl, hb⟩
      exact ⟨rfl, bel_grown hb⟩
  · refine .inl ⟨1, 0, fun W => (pn_long s W (by omega)).mono ?_, fun W => (ref_New_long s W (by omega)).mono ?_⟩
    · rintro e w' ⟨rfl, rfl⟩; exact ⟨rfl, grown_refl _ _⟩
    · rintro e w' ⟨rfl, rfl⟩; exact ⟨rfl, grown_refl _ _⟩
end Go.Proofs.YthpcbbnabnlanaaGreatDoor

/-
  The law's still: all lists that came out read as their owner wrote them.
-/
namespace Go.Proofs.YthpcbbnabnlanaaGreatDoor
open Go.RowKit
set_option linter.unusedVariables false
variable {w w' w1 : World} {B bw c : Nat} {V : LV} {D : LD} {K : Keep → Prop}

/-- a list of lists that came out: each cell of it is a list of its mark alone -/
def RowsAt (w : World) (x : LP) (bs : List Nat) : Prop := ∀ j, j < x.len → ∃ b o c, b ∈ bs ∧ w.cell? ⟨x.g, j, none⟩ = some (.slice (some ⟨b, o, none⟩) 1 c) ∧ w.cell? ⟨b, o, none⟩ = some x.mark
def rowKeep (x : LP) (bs : List Nat) : Keep := ⟨x.g :: bs, fun w => RowsAt w x bs, fun w w' h q j hj => by
  obtain ⟨b, o, c, h1, h2, h3⟩ := q j hj
  exact ⟨b, o, c, h1, (World.cell?_of_block (a := ⟨x.g, j, none⟩) (h x.g (by simp))).trans h2, (World.cell?_of_block (a := ⟨b, o, none⟩) (h b (by simp [h1]))).trans h3⟩⟩
theorem LW.at (h : LW w B bw V D c K) {i j : Nat} (hi : i < 7) {v : Value} (hv : (D.cells i)[j]? = some v) : ∃ g cap, V.get i = .slice (some ⟨g, 0, none⟩) (D.cnt i) cap ∧ w.cell? ⟨g, j, none⟩ = some v ∧ g < w.heap.size := by
  rcases own_cells (h.own i hi) with ⟨h1, h2⟩ | ⟨g, cap, h1, _, hl, h2⟩
  · have := (h.own i hi).1
    rw [h1] at this
    have : D.cells i = [] := List.length_eq_zero_iff.1 (by omega)
    rw [this] at hv; simp at hv
  · exact ⟨g, cap, h1, h2 j v hv, hl⟩
/-- between two steps: every list has its mark, and is kept -/
structure LG (w : World) (B bw : Nat) (V : LV) (D : LD) (c : Nat) (K : Keep → Prop) (T : Nat) : Prop where
  lw : LW w B bw V D c K
  n1 : D.ks = D.ns.map (·.mark)
  n2 : D.xs = D.us.map (·.mark)
  n3 : D.ys = D.rs.map (·.mark)
  l1 : ∀ x ∈ D.ns, K (lstKeep x) ∧ x.len ≤ 3000000 ∧ ∃ s, x.mark = .string s
  l2 : ∀ x ∈ D.us, K (lstKeep x) ∧ x.len ≤ 3000000 ∧ ∃ i, x.mark = .int .i64 i
  l3 : ∀ x ∈ D.rs, (∃ bs, K (rowKeep x bs)) ∧ x.len ≤ 3000000 ∧ ∃ i, x.mark = .int .i64 i
  ms : ∀ x ∈ D.ms, K (modKeep x)
  m20 : D.ms.length ≤ 20
  bd : ∀ i, i < 7 → D.cnt i ≤ 50000 * T + 20
  cb : c ≤ 50000 * T
theorem LG.grown {T : Nat} (h : LG w B bw V D c K T) (hg : w.grownBy w' none) : LG w' B bw V D c K T :=
  ⟨h.lw.grown hg, h.n1, h.n2, h.n3, h.l1, h.l2, h.l3, h.ms, h.m20, h.bd, h.cb⟩
/-- the cells of one list, as 'still' looks at them -/
theorem LG.names {T i : Nat} {x : LP} (h : LG w B bw V D c K T) (hx : D.ns[i]? = some x) : ∃ gn cn gk ck s, w.cell? ⟨bw, 1, none⟩ = some (.slice (some ⟨gn, 0, none⟩) D.ns.length cn) ∧ w.cell? ⟨gn, i, none⟩ = some (.slice (some ⟨x.g, 0, none⟩) x.len x.cap) ∧
    w.cell? ⟨bw, 2, none⟩ = some (.slice (some ⟨gk, 0, none⟩) D.ns.length ck) ∧ w.cell? ⟨gk, i, none⟩ = some (.string s) ∧ x.len ≤ 3000000 ∧ ∀ j, j < x.len → w.cell? ⟨x.g, j, none⟩ = some (.string s) := by
  obtain ⟨hk, hl, s, hs⟩ := h.l1 x (List.mem_of_getElem? hx)
  obtain ⟨gn, cn, e1, e2, _⟩ := h.lw.at (i := 1) (j := i) (v := x.v) (by omega) (by simp [LD.cells, hx])
  obtain ⟨gk, ck, e3, e4, _⟩ := h.lw.at (i := 2) (j := i) (v := .string s) (by omega) (by simp [LD.cells, h.n1, hx, hs])
  have q1 : w.cell? ⟨bw, 1, none⟩ = some V.n := cell_of h.lw.blk 1 _ rfl
  have q2 : w.cell? ⟨bw, 2, none⟩ = some V.k := cell_of h.lw.blk 2 _ rfl
  have c2 : D.cnt 2 = D.ns.length := by simp [LD.cnt, h.n1]
  rw [c2] at e3
  exact ⟨gn, cn, gk, ck, s, q1.trans (congrArg some e1), e2, q2.trans (congrArg some e3), e4, hl, fun j hj => by rw [← hs]; exact (h.lw.kp _ hk).1 j hj⟩
theorem LG.nums {T i : Nat} {x : LP} (h : LG w B bw V D c K T) (hx : D.us[i]? = some x) : ∃ gn cn gk ck s, w.cell? ⟨bw, 3, none⟩ = some (.slice (some ⟨gn, 0, none⟩) D.us.length cn) ∧ w.cell? ⟨gn, i, none⟩ = some (.slice (some ⟨x.g, 0, none⟩) x.len x.cap) ∧
    w.cell? ⟨bw, 4, none⟩ = some (.slice (some ⟨gk, 0, none⟩) D.us.length ck) ∧ w.cell? ⟨gk, i, none⟩ = some (.int .i64 s) ∧ x.len ≤ 3000000 ∧ ∀ j, j < x.len → w.cell? ⟨x.g, j, none⟩ = some (.int .i64 s) := by
  obtain ⟨hk, hl, s, hs⟩ := h.l2 x (List.mem_of_getElem? hx)
  obtain ⟨gn, cn, e1, e2, _⟩ := h.lw.at (i := 3) (j := i) (v := x.v) (by omega) (by simp [LD.cells, hx])
  obtain ⟨gk, ck, e3, e4, _⟩ := h.lw.at (i := 4) (j := i) (v := .int .i64 s) (by omega) (by simp [LD.cells, h.n2, hx, hs])
  have q1 : w.cell? ⟨bw, 3, none⟩ = some V.u := cell_of h.lw.blk 3 _ rfl
  have q2 : w.cell? ⟨bw, 4, none⟩ = some V.x := cell_of h.lw.blk 4 _ rfl
  have c2 : D.cnt 4 = D.us.length := by simp [LD.cnt, h.n2]
  rw [c2] at e3
  exact ⟨gn, cn, gk, ck, s, q1.trans (congrArg some e1), e2, q2.trans (congrArg some e3), e4, hl, fun j hj => by rw [← hs]; exact (h.lw.kp _ hk).1 j hj⟩
theorem LG.rows {T i : Nat} {x : LP} (h : LG w B bw V D c K T) (hx : D.rs[i]? = some x) : ∃ gn cn gk ck s, w.cell? ⟨bw, 5, none⟩ = some (.slice (some ⟨gn, 0, none⟩) D.rs.length cn) ∧ w.cell? ⟨gn, i, none⟩ = some (.slice (some ⟨x.g, 0, none⟩) x.len x.cap) ∧
    w.cell? ⟨bw, 6, none⟩ = some (.slice (some ⟨gk, 0, none⟩) D.rs.length ck) ∧ w.cell? ⟨gk, i, none⟩ = some (.int .i64 s) ∧ x.len ≤ 3000000 ∧ ∀ j, j < x.len → ∃ b o c, w.cell? ⟨x.g, j, none⟩ = some (.slice (some ⟨b, o, none⟩) 1 c) ∧ w.cell? ⟨b, o, none⟩ = some (.int .i64 s) := by
  obtain ⟨⟨bs, hk⟩, hl, s, hs⟩ := h.l3 x (List.mem_of_getElem? hx)
  obtain ⟨gn, cn, e1, e2, _⟩ := h.lw.at (i := 5) (j := i) (v := x.v) (by omega) (by simp [LD.cells, hx])
  obtain ⟨gk, ck, e3, e4, _⟩ := h.lw.at (i := 6) (j := i) (v := .int .i64 s) (by omega) (by simp [LD.cells, h.n3, hx, hs])
  have q1 : w.cell? ⟨bw, 5, none⟩ = some V.r := cell_of h.lw.blk 5 _ rfl
  have q2 : w.cell? ⟨bw, 6, none⟩ = some V.y := cell_of h.lw.blk 6 _ rfl
  have c2 : D.cnt 6 = D.rs.length := by simp [LD.cnt, h.n3]
  rw [c2] at e3
  exact ⟨gn, cn, gk, ck, s, q1.trans (congrArg some e1), e2, q2.trans (congrArg some e3), e4, hl, fun j hj => by
    obtain ⟨b, o, c, _, h2, h3⟩ := (h.lw.kp _ hk).1 j hj
    exact ⟨b, o, c, h2, by rw [← hs]; exact h3⟩⟩
theorem LG.lens {T : Nat} (h : LG w B bw V D c K T) : (∃ a k, w.cell? ⟨bw, 1, none⟩ = some (.slice a D.ns.length k)) ∧ (∃ a k, w.cell? ⟨bw, 3, none⟩ = some (.slice a D.us.length k)) ∧ (∃ a k, w.cell? ⟨bw, 5, none⟩ = some (.slice a D.rs.length k)) := by
  have q1 : w.cell? ⟨bw, 1, none⟩ = some V.n := cell_of h.lw.blk 1 _ rfl
  have q2 : w.cell? ⟨bw, 3, none⟩ = some V.u := cell_of h.lw.blk 3 _ rfl
  have q3 : w.cell? ⟨bw, 5, none⟩ = some V.r := cell_of h.lw.blk 5 _ rfl
  obtain ⟨a1, k1, e1⟩ := own_slice_n (h.lw.own 1 (by omega))
  obtain ⟨a2, k2, e2⟩ := own_slice_n (h.lw.own 3 (by omega))
  obtain ⟨a3, k3, e3⟩ := own_slice_n (h.lw.own 5 (by omega))
  exact ⟨⟨a1, k1, q1.trans (congrArg some e1)⟩, ⟨a2, k2, q2.trans (congrArg some e2)⟩, ⟨a3, k3, q3.trans (congrArg some e3)⟩⟩
/-- what stands at a round's head -/
def StRel (w : World) (B bw : Nat) (V : LV) (D : LD) (c : Nat) (K : Keep → Prop) (T n : Nat) (vi : Value) (wr : World) : Prop :=
  ∃ i : Nat, i ≤ n ∧ vi = .int .i64 i ∧ LG wr B bw V D c K T ∧ w.grownBy wr none
set_option maxRecDepth 100000 in
set_option maxHeartbeats 4000000 in
theorem law_still {T : Nat} (h : LG w B bw V D c K T) (hT : T ≤ 2000000) :
    Calls Tryz.prog 34 #[.pointer (some ⟨bw, 0, none⟩)] w fun e w' => e = .returned (.bool true) ∧ LG w' B bw V D c K T ∧ w.grownBy w' none := by
  have b1 : D.ns.length ≤ 50000 * T + 20 := h.bd 1 (by omega)
  have b3 : D.us.length ≤ 50000 * T + 20 := h.bd 3 (by omega)
  have b5 : D.rs.length ≤ 50000 * T + 20 := h.bd 5 (by omega)
  have HS := hide (⟨0, by omega, rfl, h, grown_refl w none⟩ : StRel w B bw V D c K T D.ns.length (.int .i64 0) w)
  clear h
  go_enter Tryz.func34, Tryz.ntmps34
  go_wp2
  go_loopw [3] (fun vi wr => StRel w B bw V D c K T D.ns.length vi wr) (fun vi _ => D.ns.length - (intOf vi).toNat)
  case atStart => exact HS.out
  case round =>
    clear HS
    obtain ⟨i, hi, rfl, hG, hgr⟩ := hrel
    obtain ⟨⟨a1, k1, q1⟩, _, _⟩ := hG.lens
    by_cases hlt : i < D.ns.length
    · have hlt3 : (i : Int) < D.ns.length := by omega
      obtain ⟨x, hx⟩ : ∃ x, D.ns[i]? = some x := ⟨D.ns[i], by simp [hlt]⟩
      obtain ⟨gn, cn, gk, ck, s, m1, m2, m3, m4, hl, m5⟩ := hG.names hx
      have HS := hide (⟨0, by omega, rfl, hG, hgr⟩ : StRel w B bw V D c K T x.len (.int .i64 0) wr)
      clear hG hgr m1 m2 m3 m4 m5
      go_wp2
      go_loopw [4] (fun vi wr => StRel w B bw V D c K T x.len vi wr) (fun vi _ => x.len - (intOf vi).toNat)
      case atStart => exact HS.out
      case round =>
        clear HS q1
        obtain ⟨j, hj, rfl, hG, hgr⟩ := hrel
        obtain ⟨gn, cn, gk, ck, s, m1, m2, m3, m4, hl, m5⟩ := hG.names hx
        by_cases hlt2 : j < x.len
        · have hlt4 : (j : Int) < x.len := by omega
          have h0i : (0 : Int) ≤ i := by omega
          have h0j : (0 : Int) ≤ j := by omega
          have m6 := m5 j hlt2
          have HG := hide hG
          have HGR := hide hgr
          clear hG hgr m5
          go_wp2
          go_quiet (fail)
          go_wp2
          go_roundw
          case rel => exact ⟨j + 1, by omega, by go_num, HG.out.grown (grown_drewN' _ _ _), HGR.out.trans (grown_drewN' _ _ _)⟩
          case measure => simp [intOf]; omega
        · obtain rfl : j = x.len := by omega
          have HG := hide hG
          have HGR := hide hgr
          clear hG hgr m5
          go_wp2
          go_roundw
          case rel => exact ⟨i + 1, by omega, by go_num, HG.out, HGR.out⟩
          case measure => simp [intOf]; omega
    · obtain rfl : i = D.ns.length := by omega
      have HS := hide (⟨0, by omega, rfl, hG, hgr⟩ : StRel w B bw V D c K T D.us.length (.int .i64 0) wr)
      clear hG hgr
      go_wp2
      go_loopw [5] (fun vi wr => StRel w B bw V D c K T D.us.length vi wr) (fun vi _ => D.us.length - (intOf vi).toNat)
      case atStart => exact HS.out
      case round =>
        clear HS
        obtain ⟨i, hi, rfl, hG, hgr⟩ := hrel
        obtain ⟨_, ⟨a1, k1, q1⟩, _⟩ := hG.lens
        by_cases hlt : i < D.us.length
        · have hlt3 : (i : Int) < D.us.length := by omega
          obtain ⟨x, hx⟩ : ∃ x, D.us[i]? = some x := ⟨D.us[i], by simp [hlt]⟩
          obtain ⟨gn, cn, gk, ck, s, m1, m2, m3, m4, hl, m5⟩ := hG.nums hx
          have HS := hide (⟨0, by omega, rfl, hG, hgr⟩ : StRel w B bw V D c K T x.len (.int .i64 0) wr)
          clear hG hgr m1 m2 m3 m4 m5
          go_wp2
          go_loopw [6] (fun vi wr => StRel w B bw V D c K T x.len vi wr) (fun vi _ => x.len - (intOf vi).toNat)
          case atStart => exact HS.out
          case round =>
            clear HS q1
            obtain ⟨j, hj, rfl, hG, hgr⟩ := hrel
            obtain ⟨gn, cn, gk, ck, s, m1, m2, m3, m4, hl, m5⟩ := hG.nums hx
            by_cases hlt2 : j < x.len
            · have hlt4 : (j : Int) < x.len := by omega
              have h0i : (0 : Int) ≤ i := by omega
              have h0j : (0 : Int) ≤ j := by omega
              have m6 := m5 j hlt2
              have hss : (s != s) = false := by simp
              have HG := hide hG
              have HGR := hide hgr
              clear hG hgr m5
              go_wp2
              go_quiet (fail)
              go_wp2
              go_roundw
              case rel => exact ⟨j + 1, by omega, by go_num, HG.out.grown (grown_drewN' _ _ _), HGR.out.trans (grown_drewN' _ _ _)⟩
              case measure => simp [intOf]; omega
            · obtain rfl : j = x.len := by omega
              have HG := hide hG
              have HGR := hide hgr
              clear hG hgr m5
              go_wp2
              go_roundw
              case rel => exact ⟨i + 1, by omega, by go_num, HG.out, HGR.out⟩
              case measure => simp [intOf]; omega
        · obtain rfl : i = D.us.length := by omega
          have HS := hide (⟨0, by omega, rfl, hG, hgr⟩ : StRel w B bw V D c K T D.rs.length (.int .i64 0) wr)
          clear hG hgr
          go_wp2
          go_loopw [7] (fun vi wr => StRel w B bw V D c K T D.rs.length vi wr) (fun vi _ => D.rs.length - (intOf vi).toNat)
          case atStart => exact HS.out
          case round =>
            clear HS
            obtain ⟨i, hi, rfl, hG, hgr⟩ := hrel
            obtain ⟨_, _, ⟨a1, k1, q1⟩⟩ := hG.lens
            by_cases hlt : i < D.rs.length
            · have hlt3 : (i : Int) < D.rs.length := by omega
              obtain ⟨x, hx⟩ : ∃ x, D.rs[i]? = some x := ⟨D.rs[i], by simp [hlt]⟩
              obtain ⟨gn, cn, gk, ck, s, m1, m2, m3, m4, hl, m5⟩ := hG.rows hx
              have HS := hide (⟨0, by omega, rfl, hG, hgr⟩ : StRel w B bw V D c K T x.len (.int .i64 0) wr)
              clear hG hgr m1 m2 m3 m4 m5
              go_wp2
              go_loopw [8] (fun vi wr => StRel w B bw V D c K T x.len vi wr) (fun vi _ => x.len - (intOf vi).toNat)
              case atStart => exact HS.out
              case round =>
                clear HS q1
                obtain ⟨j, hj, rfl, hG, hgr⟩ := hrel
                obtain ⟨gn, cn, gk, ck, s, m1, m2, m3, m4, hl, m5⟩ := hG.rows hx
                by_cases hlt2 : j < x.len
                · have hlt4 : (j : Int) < x.len := by omega
                  have h0i : (0 : Int) ≤ i := by omega
                  have h0j : (0 : Int) ≤ j := by omega
                  obtain ⟨b, o, c', m6, m7⟩ := m5 j hlt2
                  have hss : (s != s) = false := by simp
                  have hnn : (0 : Int) < ((1 : Nat) : Int) := by omega
                  have HG := hide hG
                  have HGR := hide hgr
                  clear hG hgr m5
                  go_wp2
                  go_quiet (fail)
                  go_wp2
                  go_roundw
                  case rel => exact ⟨j + 1, by omega, by go_num, HG.out.grown (grown_drewN' _ _ _), HGR.out.trans (grown_drewN' _ _ _)⟩
                  case measure => simp [intOf]; omega
                · obtain rfl : j = x.len := by omega
                  have HG := hide hG
                  have HGR := hide hgr
                  clear hG hgr m5
                  go_wp2
                  go_roundw
                  case rel => exact ⟨i + 1, by omega, by go_num, HG.out, HGR.out⟩
                  case measure => simp [intOf]; omega
            · obtain rfl : i = D.rs.length := by omega
              have HG := hide hG
              have HGR := hide hgr
              clear hG hgr
              go_wp2
              go_ret
              exact ⟨rfl, HG.out, HGR.out⟩
end Go.Proofs.YthpcbbnabnlanaaGreatDoor

/-
  The law's begins: a model of both sides more, or the same fault.
-/
namespace Go.Proofs.YthpcbbnabnlanaaGreatDoor
open Go.RowKit
set_option linter.unusedVariables false
variable {w w' w1 : World} {B bw c T : Nat} {V : LV} {D : LD} {K : Keep → Prop}

theorem infoMo : (Tryz.prog.info? 83).map (fun i => (i.zero, i.size, i.bytes)) = some (some (.agg #[.pointer none, .pointer none]), 2, 16) := by kernel_rfl
theorem mo_one (a b : Option Addr) : ∀ u ∈ [Value.pointer a, .pointer b], u.oneCell' = true := by
  intro u hu; simp only [List.mem_cons, List.not_mem_nil, or_false] at hu; rcases hu with rfl | rfl <;> rfl
/-- what a step of the law leaves -/
def Stepped (w : World) (B bw T : Nat) (w' : World) : Prop := ∃ V' D' c' K', LG w' B bw V' D' c' K' (T + 1) ∧ FrB B bw w w'
theorem Stepped.same (h : LG w B bw V D c K T) (hg : w.grownBy w' none) : Stepped w B bw T w' :=
  ⟨V, D, c, K, ⟨h.lw.grown hg, h.n1, h.n2, h.n3, h.l1, h.l2, h.l3, h.ms, h.m20, fun i hi => by have := h.bd i hi; omega, by have := h.cb; omega⟩, (FrB.refl B bw w).grown h.lw.hB hg (fun k e => by cases e)⟩
theorem tab_low {B bw : Nat} (h : PowTab w) (hb : ∀ k, k < w.heap.size → w'.heap[k]? = w.heap[k]?) : PowTab w' := tab_kept h hb
/-- one model more -/
theorem LG.more {o : Obj} {v' : Value} (x : MP) (h : LG w B bw V D c K T) (hM : ModAt w x) (hx : ∀ k ∈ x.blocks, k < w.heap.size ∧ Free bw V k) (h20 : D.ms.length < 20)
    (hown : w1.ownsRow B 83 2 v' (D.ms.length + 1) (D.ms.flatMap mpCells ++ mpCells x)) (hg : Grew (w.alloc o) V.m v' w1) : Stepped w B bw T (w1.setCell ⟨bw, 0, none⟩ v') := by
  have l0 := h.lw.keep (fun y => K y ∨ y = modKeep x) (fun y hy => by
    rcases hy with hy | rfl
    · exact .inl hy
    · exact .inr ⟨hM, hx⟩)
  have l1 := l0.alloc o
  have l2 := l1.push (D' := { D with ms := D.ms ++ [x] }) (i := 0) (by omega) hown hg
    (fun j hj => by rcases seven hj with rfl | rfl | rfl | rfl | rfl | rfl | rfl <;> simp [LD.cnt])
    (fun j hj => by rcases seven hj with rfl | rfl | rfl | rfl | rfl | rfl | rfl <;> simp [LD.cells])
  refine ⟨_, _, c, _, ⟨l2, h.n1, h.n2, h.n3, fun y hy => ⟨.inl (h.l1 y hy).1, (h.l1 y hy).2⟩, fun y hy => ⟨.inl (h.l2 y hy).1, (h.l2 y hy).2⟩, fun y hy => ?_, fun y hy => ?_, ?_, fun i hi => ?_, ?_⟩, push_frb ((FrB.refl B bw w).grown h.lw.hB (World.grownBy_alloc w o none) (fun k e => by cases e)) l1 (by omega) hg⟩
  · obtain ⟨⟨bs, q⟩, r⟩ := h.l3 y hy
    exact ⟨⟨bs, .inl q⟩, r⟩
  · rcases List.mem_append.1 hy with q | q
    · exact .inl (h.ms y q)
    · simp only [List.mem_cons, List.not_mem_nil, or_false] at q
      exact .inr (by rw [q])
  · simp; omega
  · have hb := h.bd i hi
    rcases seven hi with rfl | rfl | rfl | rfl | rfl | rfl | rfl <;> simp [LD.cnt] at hb ⊢ <;> omega
  · have := h.cb; omega

set_option maxRecDepth 100000 in
set_option maxHeartbeats 4000000 in
theorem law_begins (h : LG w B bw V D c K T) (ht : PowTab w) (s : ByteArray) :
    Calls Tryz.prog 32 #[.pointer (some ⟨bw, 0, none⟩), .string s] w fun e w' => e = .returned (.bool true) ∧ Stepped w B bw T w' := by
  obtain ⟨i1, hi1, hy0, hy1, hy2⟩ := info_parts infoMo
  have HT := hide ht
  rcases both_new s with ⟨kd, ln, hP, hR⟩ | ⟨l, hll, hP, hR⟩
  · have KP := Kept.mk hP
    have KR := Kept.mk hR
    have HG := hide h
    have e1 : (kd != kd) = false := by simp
    have e2 : (ln != ln) = false := by simp
    clear h hP hR ht
    go_enter Tryz.func32, Tryz.ntmps32
    go_wp2_with (first | (go_at_call 38; refine (KR.get _).mono ?_; rintro e w2 ⟨rfl, hg2⟩) | (go_at_call 35; refine (KP.get _).mono ?_; rintro e w1 ⟨rfl, hg1⟩))
    go_ret
    exact ⟨rfl, Stepped.same HG.out (hg1.trans hg2)⟩
  · have KP := Kept.mk (hP w ht)
    have KR := Kept.mk hR
    have HG := hide h
    obtain ⟨ma, mc, em⟩ := own_slice_n (h.lw.own 0 (by omega))
    have hsl := h.lw.slt
    have hBs := h.lw.hB
    have hltB := h.lw.lt
    have h20 := h.m20
    have m0 : w.cell? ⟨bw, 0, none⟩ = some (.slice ma D.ms.length mc) := (cell_of h.lw.blk 0 _ rfl).trans (congrArg some em)
    have o0 : w.ownsRow B 83 2 (.slice ma D.ms.length mc) D.ms.length (D.ms.flatMap mpCells) := em ▸ h.lw.own 0 (by omega)
    have f0 := frozen_of h.lw.blk 0
    have HEM := hide em
    have HB := hide h.lw.blk
    clear h hP hR ht em
    by_cases hc : D.ms.length < 20
    · have hc' : (D.ms.length : Int) < 20 := by omega
      go_enter Tryz.func32, Tryz.ntmps32
      go_wp2_with (first | (at_builtin; refine wpList_append_two rfl _ _ 55 rfl B 83 i1 (.agg #[.pointer none, .pointer none]) 2 16 Tryz.underlying55 hi1 hy0 hy1 hy2 rfl (by decide) _ _ _ rfl (o2.alloc _) ⟨w2.heap.size, 0, none⟩ 1 1 [.pointer (some ⟨b, 0, none⟩), .pointer (some ⟨r, 0, none⟩)] rfl rfl (World.news_of_block (heap_alloc_new _ _)) (mo_one _ _) ?c3 ?c4 ?c5 ?_) | (go_at_call 38; refine (KR.get _).mono ?_; rintro e w2 ⟨r, gv, vr, rfl, hRA, hrb, hg2⟩; have hg12 := hg1.trans hg2; have m2 := hg12.cell m0 (by simp); have o2 := o0.kept hg12 (own_none _)) | (go_at_call 35; refine KP.get.mono ?_; rintro e w1 ⟨b, bc, gr, vp, rfl, hPA, hpb, hg1⟩))
      case c3 => unfold maxLen; omega
      case c4 => omega
      case c5 => have := hg12.size; simp; omega
      intro v' w3 ho3 hg3
      have G2 := HG.out.grown hg12
      have hst := G2.more ⟨b, bc, gr, r, gv, l, vp, vr, s⟩ ⟨hPA.turn (fun k hk => hg2.block k (hpb k hk).2 (by simp)), hRA, hll⟩ (fun k hk => by
          have : (k = b ∨ k = bc ∨ k = gr) ∨ k = r ∨ k = gv := by simpa [MP.blocks, or_assoc] using hk
          have q : w.heap.size ≤ k ∧ k < w2.heap.size := by
            rcases this with e | e
            · have q := hpb k (by simpa using e)
              exact ⟨q.1, Nat.lt_of_lt_of_le q.2 hg2.size⟩
            · have q := hrb k (by simpa using e)
              exact ⟨Nat.le_trans hg1.size q.1, q.2⟩
          refine ⟨q.2, by omega, fun i hi e => ?_⟩
          have := (HG.out.lw.ownB hi e).2
          omega) hc ho3 (by rw [show V.m = _ from HEM.out]; exact hg3)
      obtain ⟨xa, xm, xc, rfl⟩ := own_slice ho3
      have hblk3 := (hg3.by.block bw (by have := hg12.size; simp; omega) (fun e => by have := (o2.lt _ e.symm).1; omega)).trans ((heap_alloc_old w2 _ (by have := hg12.size; omega)).trans ((hg12.block bw hsl (by simp)).trans HB.out))
      have f3 := frozen_of hblk3 0
      have m3 := cell_of hblk3 0 _ rfl
      have HST := hide hst
      have HF := hide ((FrB.refl B bw w).grown hBs hg12 (fun k e => by cases e))
      clear hst ho3 hg3 o2 m2 o0 hblk3 G2
      go_wp2
      go_ret
      obtain ⟨V', D', c', K', q1, q2⟩ := HST.out
      exact ⟨rfl, V', D', c', K', q1, HF.out.trans q2⟩
    · have hc' : decide ((D.ms.length : Int) < 20) = false := by simp; omega
      go_enter Tryz.func32, Tryz.ntmps32
      go_wp2_with (first | (go_at_call 38; refine (KR.get _).mono ?_; rintro e w2 ⟨r, gv, vr, rfl, hRA, hrb, hg2⟩; have hg12 := hg1.trans hg2; have m2 := hg12.cell m0 (by simp)) | (go_at_call 35; refine KP.get.mono ?_; rintro e w1 ⟨b, bc, gr, vp, rfl, hPA, hpb, hg1⟩))
      go_ret
      exact ⟨rfl, Stepped.same HG.out hg12⟩
end Go.Proofs.YthpcbbnabnlanaaGreatDoor
