import Derived.Test.YthpcbbnabnlanaaGreatDoorM10
/-
  The reference's walk: bounded, used, declared.
-/
namespace Go.Proofs.YthpcbbnabnlanaaGreatDoor
open Go.RowKit
set_option linter.unusedVariables false
set_option linter.unusedSimpArgs false
attribute [local go_sem ↓] Go.wp_at_zero Go.wp_at_succ


theorem hide {p : Prop} (h : p) : Hid p := h
theorem unhide {p : Prop} (h : Hid p) : p := h
/-- does it lie outside? -/
def outB (n most : Int) : Bool := decide (n < -most) || decide (most < n)

set_option maxRecDepth 100000 in
set_option maxHeartbeats 1000000 in
theorem ref_bounded (toks : List PTok) (i : Nat) (most kind line : Int) (bw bm gt capt : Nat) (w : World) (hn : toks.length ≤ 2000) (hi : i < toks.length) (h1 : bm ≠ bw) (h2 : gt ≠ bw) (hm0 : 0 ≤ most) (hm1 : most ≤ 10000000)
    (hI : IsInt (peekS toks i)) (hW : Wk w bw bm i kind line) (hT : Tk w bm gt capt toks) :
    Calls Tryz.prog 98 #[.pointer (some ⟨bw, 0, none⟩), .int .i64 most] w fun e w' => e = .returned (.int .i64 (intVal (peekS toks i))) ∧ w.grownBy w' (some bw) ∧
      Wk w' bw bm ((i : Int) + 1) (fKind (outB (intVal (peekS toks i)) most) 5 kind) (fLine (outB (intVal (peekS toks i)) most) kind (lineAt toks i) line) := by
  have HW : Hid (Wk w bw bm i kind line) := hW
  have HT : Hid (Tk w bm gt capt toks) := hT
  have HI : Hid (IsInt (peekS toks i)) := hI
  clear hW hT hI
  obtain ⟨s, hs⟩ : ∃ s, peekS toks i = s := ⟨_, rfl⟩
  rw [hs] at HI ⊢
  have HS : Hid (peekS toks i = s) := hs
  obtain ⟨n, hnv⟩ : ∃ n, intVal s = n := ⟨_, rfl⟩
  rw [hnv]
  have HNV : Hid (intVal s = n) := hnv
  clear hs hnv
  by_cases hlo : n < -most
  · have HB : Hid (outB n most = true) := by unfold Hid outB; simp [hlo]
    have hpk := ref_peek toks i kind line bw bm gt capt w hn (by omega) HW.out HT.out
    rw [HS.out] at hpk
    have hnu := fun w => ref_number s HI.out w
    rw [HNV.out] at hnu
    have HPK := hide hpk
    have HNU := hide hnu
    clear hpk hnu
    go_enter Tryz.func98, Tryz.ntmps98
    go_wp2_with fail
    refine (unhide HPK).mono ?_
    rintro e w1 ⟨rfl, hg1, hW1⟩
    have HW1 : Hid (Wk w1 bw bm i kind line) := hW1
    have HT1 : Hid (Tk w1 bm gt capt toks) := HT.out.kept hg1 h1 h2
    have HG1 : Hid (w.grownBy w1 (some bw)) := hg1
    clear hW1 hg1
    go_wp2_with fail
    refine (unhide HNU _).mono ?_
    rintro e w2 ⟨rfl, hww⟩
    subst w2
    go_wp2_with fail
    refine (ref_fault toks i true 5 kind line bw bm gt capt _ hn hi h1 h2 HW1.out HT1.out).mono ?_
    rintro e w2 ⟨rfl, hg2, hW2⟩
    have HW2 : Hid (Wk w2 bw bm i (fKind true 5 kind) (fLine true kind (lineAt toks i) line)) := hW2
    have HG2 : Hid (w1.grownBy w2 (some bw)) := hg2
    obtain ⟨c0, c1, c2, c3, f1, f2, f3, _⟩ := hW2
    clear hg2
    go_wp2
    go_ret
    refine ⟨rfl, (HG1.out.trans HG2.out).trans (grown_set _ _ _ _), ?_⟩
    rw [HB.out]
    exact HW2.out.setI _
  · by_cases hhi : most < n
    · have HB : Hid (outB n most = true) := by unfold Hid outB; simp [hhi]
      have hpk := ref_peek toks i kind line bw bm gt capt w hn (by omega) HW.out HT.out
      rw [HS.out] at hpk
      have hnu := fun w => ref_number s HI.out w
      rw [HNV.out] at hnu
      have HPK := hide hpk
      have HNU := hide hnu
      clear hpk hnu
      go_enter Tryz.func98, Tryz.ntmps98
      go_wp2_with fail
      refine (unhide HPK).mono ?_
      rintro e w1 ⟨rfl, hg1, hW1⟩
      have HW1 : Hid (Wk w1 bw bm i kind line) := hW1
      have HT1 : Hid (Tk w1 bm gt capt toks) := HT.out.kept hg1 h1 h2
      have HG1 : Hid (w.grownBy w1 (some bw)) := hg1
      clear hW1 hg1
      go_wp2_with fail
      refine (unhide HNU _).mono ?_
      rintro e w2 ⟨rfl, hww⟩
      subst w2
      go_wp2_with fail
      refine (ref_fault toks i true 5 kind line bw bm gt capt _ hn hi h1 h2 HW1.out HT1.out).mono ?_
      rintro e w2 ⟨rfl, hg2, hW2⟩
      have HW2 : Hid (Wk w2 bw bm i (fKind true 5 kind) (fLine true kind (lineAt toks i) line)) := hW2
      have HG2 : Hid (w1.grownBy w2 (some bw)) := hg2
      obtain ⟨c0, c1, c2, c3, f1, f2, f3, _⟩ := hW2
      clear hg2
      go_wp2
      go_ret
      refine ⟨rfl, (HG1.out.trans HG2.out).trans (grown_set _ _ _ _), ?_⟩
      rw [HB.out]
      exact HW2.out.setI _
    · have HB : Hid (outB n most = false) := by unfold Hid outB; simp; omega
      have hd2 : decide (most < n) = false := by simpa using hhi
      have hd1 : decide (n < -most) = false := by simpa using hlo
      have hpk := ref_peek toks i kind line bw bm gt capt w hn (by omega) HW.out HT.out
      rw [HS.out] at hpk
      have hnu := fun w => ref_number s HI.out w
      rw [HNV.out] at hnu
      have HPK := hide hpk
      have HNU := hide hnu
      clear hpk hnu
      go_enter Tryz.func98, Tryz.ntmps98
      go_wp2_with fail
      refine (unhide HPK).mono ?_
      rintro e w1 ⟨rfl, hg1, hW1⟩
      have HW1 : Hid (Wk w1 bw bm i kind line) := hW1
      have HT1 : Hid (Tk w1 bm gt capt toks) := HT.out.kept hg1 h1 h2
      have HG1 : Hid (w.grownBy w1 (some bw)) := hg1
      clear hW1 hg1
      go_wp2_with fail
      refine (unhide HNU _).mono ?_
      rintro e w2 ⟨rfl, hww⟩
      subst w2
      go_wp2_with fail
      refine (ref_fault toks i false 5 kind line bw bm gt capt _ hn hi h1 h2 HW1.out HT1.out).mono ?_
      rintro e w2 ⟨rfl, hg2, hW2⟩
      have HW2 : Hid (Wk w2 bw bm i (fKind false 5 kind) (fLine false kind (lineAt toks i) line)) := hW2
      have HG2 : Hid (w1.grownBy w2 (some bw)) := hg2
      obtain ⟨c0, c1, c2, c3, f1, f2, f3, _⟩ := hW2
      clear hg2
      go_wp2
      go_ret
      refine ⟨rfl, (HG1.out.trans HG2.out).trans (grown_set _ _ _ _), ?_⟩
      rw [HB.out]
      exact HW2.out.setI _


/-- where the names of a row lie: not in block bw -/
def NotIn (v : Value) (bw : Nat) : Prop := v.ownBlock ≠ some bw
theorem NamesAt.kept {w w' : World} {v : Value} {size bw : Nat} {names : List ByteArray} (h : NamesAt w v size names) (hg : w.grownBy w' (some bw)) (hne : NotIn v bw) : NamesAt w' v size names := by
  rcases h with h | ⟨g, cap, rfl, h⟩
  · exact .inl h
  · exact .inr ⟨g, cap, rfl, fun k a ha => hg.cell (h k a ha) (fun e => hne e)⟩

set_option maxRecDepth 100000 in
set_option maxHeartbeats 1000000 in
theorem ref_declared (toks : List PTok) (i : Nat) (kind line : Int) (bw bm gt capt : Nat) (vv vl : Value) (names lists : List ByteArray) (w : World) (hn : toks.length ≤ 2000) (hi : i < toks.length) (h1 : bm ≠ bw) (h2 : gt ≠ bw)
    (hl1 : names.length ≤ 100000) (hl2 : lists.length ≤ 100000) (hM : w.cell? ⟨bm, 1, none⟩ = some vv ∧ w.cell? ⟨bm, 2, none⟩ = some vl) (hNV : NamesAt w vv 3 names ∧ NamesAt w vl 2 lists) (hNE : NotIn vv bw ∧ NotIn vl bw)
    (hW : Wk w bw bm i kind line) (hT : Tk w bm gt capt toks) :
    Calls Tryz.prog 97 #[.pointer (some ⟨bw, 0, none⟩)] w fun e w' => e = .returned (.string (peekS toks i)) ∧ w.grownBy w' (some bw) ∧
      Wk w' bw bm ((i : Int) + 1) (fKind (decide (0 ≤ findName (peekS toks i) names 0) || decide (0 ≤ findName (peekS toks i) lists 0)) 4 kind)
        (fLine (decide (0 ≤ findName (peekS toks i) names 0) || decide (0 ≤ findName (peekS toks i) lists 0)) kind (lineAt toks i) line) := by
  have HW : Hid (Wk w bw bm i kind line) := hW
  have HT : Hid (Tk w bm gt capt toks) := hT
  have HM := hide hM
  have HNV := hide hNV
  have HNE := hide hNE
  clear hW hT hM hNV hNE
  obtain ⟨s, hs⟩ : ∃ s, peekS toks i = s := ⟨_, rfl⟩
  rw [hs]
  have HS : Hid (peekS toks i = s) := hs
  obtain ⟨x, hx⟩ : ∃ x, findName s names 0 = x := ⟨_, rfl⟩
  obtain ⟨y, hy⟩ : ∃ y, findName s lists 0 = y := ⟨_, rfl⟩
  rw [hx, hy]
  have HV : Hid (findName s names 0 = x) := hx
  have HL : Hid (findName s lists 0 = y) := hy
  clear hs hx hy
  by_cases hlo : 0 ≤ x
  · have HB : Hid ((decide (0 ≤ x) || decide (0 ≤ y)) = true) := by unfold Hid; simp [hlo]
    have hpk := ref_peek toks i kind line bw bm gt capt w hn (by omega) HW.out HT.out
    rw [HS.out] at hpk
    have HPK := hide hpk
    clear hpk
    go_enter Tryz.func97, Tryz.ntmps97
    go_wp2_with fail
    refine (unhide HPK).mono ?_
    rintro e w1 ⟨rfl, hg1, hW1⟩
    have HW1 : Hid (Wk w1 bw bm i kind line) := hW1
    have HT1 : Hid (Tk w1 bm gt capt toks) := HT.out.kept hg1 h1 h2
    have HG1 : Hid (w.grownBy w1 (some bw)) := hg1
    have HM1 : Hid (w1.cell? ⟨bm, 1, none⟩ = some vv ∧ w1.cell? ⟨bm, 2, none⟩ = some vl) := ⟨hg1.cell HM.out.1 (by simpa using h1), hg1.cell HM.out.2 (by simpa using h1)⟩
    have HNV1 : Hid (NamesAt w1 vv 3 names ∧ NamesAt w1 vl 2 lists) := ⟨HNV.out.1.kept hg1 HNE.out.1, HNV.out.2.kept hg1 HNE.out.2⟩
    have c0 := hW1.c0
    clear hW1 hg1
    go_wp2_with fail
    refine (ref_varOf s names vv bm _ hl1 HM1.out.1 HNV1.out.1).mono ?_
    rintro e w2 ⟨rfl, hww⟩
    subst w2
    rw [HV.out]
    go_wp2_with fail
    refine (ref_listOf s lists vl bm _ hl2 HM1.out.2 HNV1.out.2).mono ?_
    rintro e w2 ⟨rfl, hww⟩
    subst w2
    rw [HL.out]
    go_wp2_with fail
    refine (ref_fault toks i true 4 kind line bw bm gt capt _ hn hi h1 h2 HW1.out HT1.out).mono ?_
    rintro e w2 ⟨rfl, hg2, hW2⟩
    have HW2 : Hid (Wk w2 bw bm i (fKind true 4 kind) (fLine true kind (lineAt toks i) line)) := hW2
    have HG2 : Hid (w1.grownBy w2 (some bw)) := hg2
    obtain ⟨d0, d1, d2, d3, f1, f2, f3, _⟩ := hW2
    clear hg2 c0
    go_wp2
    go_ret
    refine ⟨rfl, (HG1.out.trans HG2.out).trans (grown_set _ _ _ _), ?_⟩
    rw [HB.out]
    exact HW2.out.setI _
  · by_cases hhi : 0 ≤ y
    · have HB : Hid ((decide (0 ≤ x) || decide (0 ≤ y)) = true) := by unfold Hid; simp [hhi]
      have hpk := ref_peek toks i kind line bw bm gt capt w hn (by omega) HW.out HT.out
      rw [HS.out] at hpk
      have HPK := hide hpk
      clear hpk
      go_enter Tryz.func97, Tryz.ntmps97
      go_wp2_with fail
      refine (unhide HPK).mono ?_
      rintro e w1 ⟨rfl, hg1, hW1⟩
      have HW1 : Hid (Wk w1 bw bm i kind line) := hW1
      have HT1 : Hid (Tk w1 bm gt capt toks) := HT.out.kept hg1 h1 h2
      have HG1 : Hid (w.grownBy w1 (some bw)) := hg1
      have HM1 : Hid (w1.cell? ⟨bm, 1, none⟩ = some vv ∧ w1.cell? ⟨bm, 2, none⟩ = some vl) := ⟨hg1.cell HM.out.1 (by simpa using h1), hg1.cell HM.out.2 (by simpa using h1)⟩
      have HNV1 : Hid (NamesAt w1 vv 3 names ∧ NamesAt w1 vl 2 lists) := ⟨HNV.out.1.kept hg1 HNE.out.1, HNV.out.2.kept hg1 HNE.out.2⟩
      have c0 := hW1.c0
      clear hW1 hg1
      go_wp2_with fail
      refine (ref_varOf s names vv bm _ hl1 HM1.out.1 HNV1.out.1).mono ?_
      rintro e w2 ⟨rfl, hww⟩
      subst w2
      rw [HV.out]
      go_wp2_with fail
      refine (ref_listOf s lists vl bm _ hl2 HM1.out.2 HNV1.out.2).mono ?_
      rintro e w2 ⟨rfl, hww⟩
      subst w2
      rw [HL.out]
      go_wp2_with fail
      refine (ref_fault toks i true 4 kind line bw bm gt capt _ hn hi h1 h2 HW1.out HT1.out).mono ?_
      rintro e w2 ⟨rfl, hg2, hW2⟩
      have HW2 : Hid (Wk w2 bw bm i (fKind true 4 kind) (fLine true kind (lineAt toks i) line)) := hW2
      have HG2 : Hid (w1.grownBy w2 (some bw)) := hg2
      obtain ⟨d0, d1, d2, d3, f1, f2, f3, _⟩ := hW2
      clear hg2 c0
      go_wp2
      go_ret
      refine ⟨rfl, (HG1.out.trans HG2.out).trans (grown_set _ _ _ _), ?_⟩
      rw [HB.out]
      exact HW2.out.setI _
    · have HB : Hid ((decide (0 ≤ x) || decide (0 ≤ y)) = false) := by unfold Hid; simp; omega
      have hd2 : decide (0 ≤ y) = false := by simpa using hhi
      have hd1 : decide (0 ≤ x) = false := by simpa using hlo
      have hpk := ref_peek toks i kind line bw bm gt capt w hn (by omega) HW.out HT.out
      rw [HS.out] at hpk
      have HPK := hide hpk
      clear hpk
      go_enter Tryz.func97, Tryz.ntmps97
      go_wp2_with fail
      refine (unhide HPK).mono ?_
      rintro e w1 ⟨rfl, hg1, hW1⟩
      have HW1 : Hid (Wk w1 bw bm i kind line) := hW1
      have HT1 : Hid (Tk w1 bm gt capt toks) := HT.out.kept hg1 h1 h2
      have HG1 : Hid (w.grownBy w1 (some bw)) := hg1
      have HM1 : Hid (w1.cell? ⟨bm, 1, none⟩ = some vv ∧ w1.cell? ⟨bm, 2, none⟩ = some vl) := ⟨hg1.cell HM.out.1 (by simpa using h1), hg1.cell HM.out.2 (by simpa using h1)⟩
      have HNV1 : Hid (NamesAt w1 vv 3 names ∧ NamesAt w1 vl 2 lists) := ⟨HNV.out.1.kept hg1 HNE.out.1, HNV.out.2.kept hg1 HNE.out.2⟩
      have c0 := hW1.c0
      clear hW1 hg1
      go_wp2_with fail
      refine (ref_varOf s names vv bm _ hl1 HM1.out.1 HNV1.out.1).mono ?_
      rintro e w2 ⟨rfl, hww⟩
      subst w2
      rw [HV.out]
      go_wp2_with fail
      refine (ref_listOf s lists vl bm _ hl2 HM1.out.2 HNV1.out.2).mono ?_
      rintro e w2 ⟨rfl, hww⟩
      subst w2
      rw [HL.out]
      go_wp2_with fail
      refine (ref_fault toks i false 4 kind line bw bm gt capt _ hn hi h1 h2 HW1.out HT1.out).mono ?_
      rintro e w2 ⟨rfl, hg2, hW2⟩
      have HW2 : Hid (Wk w2 bw bm i (fKind false 4 kind) (fLine false kind (lineAt toks i) line)) := hW2
      have HG2 : Hid (w1.grownBy w2 (some bw)) := hg2
      obtain ⟨d0, d1, d2, d3, f1, f2, f3, _⟩ := hW2
      clear hg2 c0
      go_wp2
      go_ret
      refine ⟨rfl, (HG1.out.trans HG2.out).trans (grown_set _ _ _ _), ?_⟩
      rw [HB.out]
      exact HW2.out.setI _
end Go.Proofs.YthpcbbnabnlanaaGreatDoor

/-
  The reference's walk: used: a variable by its name; must it be 0 or 1?
-/
namespace Go.Proofs.YthpcbbnabnlanaaGreatDoor
open Go.RowKit
set_option linter.unusedVariables false
set_option linter.unusedSimpArgs false
attribute [local go_sem ↓] Go.wp_at_zero Go.wp_at_succ

structure PVar where
  name : ByteArray
  low : Int
  high : Int
/-- the variables' row: three cells each -/
def VarsAt (w : World) (v : Value) (vars : List PVar) : Prop :=
  (vars = [] ∧ v = .slice none 0 0) ∨ ∃ g cap, v = .slice (some ⟨g, 0, none⟩) vars.length cap ∧ ∀ k x, vars[k]? = some x →
    w.cell? ⟨g, k * 3, none⟩ = some (.string x.name) ∧ w.cell? ⟨g, k * 3 + 1, none⟩ = some (.int .i64 x.low) ∧ w.cell? ⟨g, k * 3 + 2, none⟩ = some (.int .i64 x.high)
def namesOf (vars : List PVar) : List ByteArray := vars.map (·.name)
theorem VarsAt.names {w : World} {v : Value} {vars : List PVar} (h : VarsAt w v vars) : NamesAt w v 3 (namesOf vars) := by
  rcases h with ⟨rfl, rfl⟩ | ⟨g, cap, rfl, h⟩
  · exact .inl ⟨rfl, rfl⟩
  · refine .inr ⟨g, cap, by simp [namesOf], fun k a ha => ?_⟩
    simp only [namesOf, List.getElem?_map, Option.map_eq_some_iff] at ha
    obtain ⟨x, hx, rfl⟩ := ha
    exact (h k x hx).1
theorem VarsAt.kept {w w' : World} {v : Value} {bw : Nat} {vars : List PVar} (h : VarsAt w v vars) (hg : w.grownBy w' (some bw)) (hne : NotIn v bw) : VarsAt w' v vars := by
  rcases h with h | ⟨g, cap, rfl, h⟩
  · exact .inl h
  · have hne' : some g ≠ some bw := fun e => hne e
    exact .inr ⟨g, cap, rfl, fun k a ha => ⟨hg.cell (h k a ha).1 hne', hg.cell (h k a ha).2.1 hne', hg.cell (h k a ha).2.2 hne'⟩⟩
theorem Tk.drew {w : World} {bm gt capt : Nat} {toks : List PTok} (h : Tk w bm gt capt toks) : Tk w.drew bm gt capt toks := ⟨h.m0, h.row, h.ltm, h.ltg⟩

theorem findName_bd (s : ByteArray) (l : List ByteArray) (k : Nat) : -1 ≤ findName s l k ∧ findName s l k < k + l.length ∧ (findName s l k = -1 ∨ k ≤ findName s l k) := by
  induction l generalizing k with
  | nil => simp [findName]; omega
  | cons a l ih =>
    simp only [findName]
    split
    · simp; omega
    · have := ih (k + 1)
      simp; omega

theorem peek_s {toks : List PTok} {i : Nat} {s : ByteArray} (hs : peekS toks i = s) {kind line : Int} {bw bm gt capt : Nat} {w : World} (hn : toks.length ≤ 2000) (hi : i ≤ 4000) (hW : Wk w bw bm i kind line) (hT : Tk w bm gt capt toks) :
    Calls Tryz.prog 95 #[.pointer (some ⟨bw, 0, none⟩)] w fun e w' => e = .returned (.string s) ∧ w.grownBy w' (some bw) ∧ Wk w' bw bm i kind line := by
  rw [← hs]; exact ref_peek toks i kind line bw bm gt capt w hn hi hW hT
theorem varOf_x {s : ByteArray} {names : List ByteArray} {x : Int} (hx : findName s names 0 = x) {vv : Value} {bm : Nat} {w : World} (hl : names.length ≤ 100000) (hm : w.cell? ⟨bm, 1, none⟩ = some vv) (hN : NamesAt w vv 3 names) :
    Calls Tryz.prog 140 #[.pointer (some ⟨bm, 0, none⟩), .string s] w fun e w' => e = .returned (.int .i64 x) ∧ w' = w := by
  rw [← hx]; exact ref_varOf s names vv bm w hl hm hN

/-- what of a place among the variables is no truth -/
def noTruth (vars : List PVar) (x : Int) : Bool := match vars[x.toNat]? with
  | some v => decide (v.low < 0) || decide (1 < v.high)
  | none => false


set_option maxRecDepth 100000 in
set_option maxHeartbeats 1000000 in
/-- plainly used, or not there -/
theorem ref_used_plain (truth : Bool) (toks : List PTok) (i : Nat) (kind line : Int) (bw bm gt capt : Nat) (vv : Value) (names : List ByteArray) (w : World) (hn : toks.length ≤ 2000) (hi : i < toks.length) (h1 : bm ≠ bw) (h2 : gt ≠ bw)
    (hl : names.length ≤ 100000) (hM : w.cell? ⟨bm, 1, none⟩ = some vv) (hNA : NamesAt w vv 3 names) (hNE : NotIn vv bw) (ht : truth = false ∨ findName (peekS toks i) names 0 < 0)
    (hW : Wk w bw bm i kind line) (hT : Tk w bm gt capt toks) :
    Calls Tryz.prog 100 #[.pointer (some ⟨bw, 0, none⟩), .bool truth] w fun e w' => e = .returned (.int .i64 (findName (peekS toks i) names 0)) ∧ w.grownBy w' (some bw) ∧
      Wk w' bw bm ((i : Int) + 1) (fKind (decide (findName (peekS toks i) names 0 < 0)) 4 kind) (fLine (decide (findName (peekS toks i) names 0 < 0)) kind (lineAt toks i) line) := by
  have HW : Hid (Wk w bw bm i kind line) := hW
  have HT : Hid (Tk w bm gt capt toks) := hT
  have HM := hide hM
  have HNA := hide hNA
  have HNE := hide hNE
  have hi' : i ≤ 4000 := by omega
  have c0 := hW.c0
  obtain ⟨s, hs⟩ : ∃ s, peekS toks i = s := ⟨_, rfl⟩
  rw [hs] at ht ⊢
  have HS : Hid (peekS toks i = s) := hs
  obtain ⟨x, hx⟩ : ∃ x, findName s names 0 = x := ⟨_, rfl⟩
  rw [hx] at ht ⊢
  have HX : Hid (findName s names 0 = x) := hx
  clear hs hx hW hT hM hNA hNE
  by_cases hlo : x < 0
  · have HB : Hid (decide (x < 0) = true) := by unfold Hid; simp [hlo]
    have hlo' : decide (0 ≤ x) = false := by simp; omega
    clear ht
    go_enter Tryz.func100, Tryz.ntmps100
    go_wp2
    go_region_held3 (fun w' => w'.cell? ⟨bw, 0, none⟩ = some (.pointer (some ⟨bm, 0, none⟩))) (go_keep)
      (first | (go_at_call 95; refine (peek_s HS.out hn hi' HW.out.drew HT.out.drew).mono ?_; rintro e w1 ⟨rfl, hg1, hW1⟩; have d0 := hW1.c0) | (go_at_call 140; refine (varOf_x HX.out hl (hg1.cell HM.out (by simpa using h1)) (HNA.out.kept ((grown_drew' _ _).trans hg1) HNE.out)).mono ?_; rintro e w2 ⟨rfl, hww⟩; subst w2))
    have HW1 : Hid (Wk w1 bw bm i kind line) := hW1
    have HT1 : Hid (Tk w1 bm gt capt toks) := HT.out.kept ((grown_drew' _ _).trans hg1) h1 h2
    have HG1 : Hid (w.grownBy w1 (some bw)) := (grown_drew' _ _).trans hg1
    have HM1 : Hid (w1.cell? ⟨bm, 1, none⟩ = some vv) := hg1.cell HM.out (by simpa using h1)
    clear hW1 hg1 d0
    go_wp2_with fail
    refine (ref_fault toks i true 4 kind line bw bm gt capt _ hn hi h1 h2 HW1.out HT1.out).mono ?_
    rintro e w2 ⟨rfl, hg2, hW2⟩
    have HW2 : Hid (Wk w2 bw bm i (fKind true 4 kind) (fLine true kind (lineAt toks i) line)) := hW2
    have HG2 : Hid (w1.grownBy w2 (some bw)) := hg2
    obtain ⟨q0, q1, q2, q3, f1, f2, f3, _⟩ := hW2
    clear hg2
    go_wp2
    go_ret
    refine ⟨rfl, (HG1.out.trans HG2.out).trans (grown_set _ _ _ _), ?_⟩
    rw [HB.out]
    exact HW2.out.setI _
  · obtain rfl : truth = false := by rcases ht with h | h; exact h; exact absurd h hlo
    have HB : Hid (decide (x < 0) = false) := by unfold Hid; simpa using hlo
    have hlo' : decide (x < 0) = false := by simpa using hlo
    have hlo2 : decide (0 ≤ x) = true := by simp; omega
    clear ht
    go_enter Tryz.func100, Tryz.ntmps100
    go_wp2
    go_region_held3 (fun w' => w'.cell? ⟨bw, 0, none⟩ = some (.pointer (some ⟨bm, 0, none⟩))) (go_keep)
      (first | (go_at_call 95; refine (peek_s HS.out hn hi' HW.out.drew HT.out.drew).mono ?_; rintro e w1 ⟨rfl, hg1, hW1⟩; have d0 := hW1.c0) | (go_at_call 140; refine (varOf_x HX.out hl (hg1.cell HM.out (by simpa using h1)) (HNA.out.kept ((grown_drew' _ _).trans hg1) HNE.out)).mono ?_; rintro e w2 ⟨rfl, hww⟩; subst w2))
    have HW1 : Hid (Wk w1 bw bm i kind line) := hW1
    have HT1 : Hid (Tk w1 bm gt capt toks) := HT.out.kept ((grown_drew' _ _).trans hg1) h1 h2
    have HG1 : Hid (w.grownBy w1 (some bw)) := (grown_drew' _ _).trans hg1
    have HM1 : Hid (w1.cell? ⟨bm, 1, none⟩ = some vv) := hg1.cell HM.out (by simpa using h1)
    clear hW1 hg1 d0
    go_wp2_with fail
    refine (ref_fault toks i false 4 kind line bw bm gt capt _ hn hi h1 h2 HW1.out HT1.out).mono ?_
    rintro e w2 ⟨rfl, hg2, hW2⟩
    have HW2 : Hid (Wk w2 bw bm i (fKind false 4 kind) (fLine false kind (lineAt toks i) line)) := hW2
    have HG2 : Hid (w1.grownBy w2 (some bw)) := hg2
    obtain ⟨q0, q1, q2, q3, f1, f2, f3, _⟩ := hW2
    clear hg2
    go_wp2
    go_ret
    refine ⟨rfl, (HG1.out.trans HG2.out).trans (grown_set _ _ _ _), ?_⟩
    rw [HB.out]
    exact HW2.out.setI _


set_option maxRecDepth 100000 in
set_option maxHeartbeats 1000000 in
/-- used as a truth, and there -/
theorem ref_used_truth (toks : List PTok) (i : Nat) (kind line : Int) (bw bm gt capt : Nat) (vv : Value) (vars : List PVar) (w : World) (hn : toks.length ≤ 2000) (hi : i < toks.length) (h1 : bm ≠ bw) (h2 : gt ≠ bw)
    (hl' : vars.length ≤ 100000) (hM : w.cell? ⟨bm, 1, none⟩ = some vv) (hVA : VarsAt w vv vars) (hNE : NotIn vv bw) (ht : 0 ≤ findName (peekS toks i) (namesOf vars) 0)
    (hW : Wk w bw bm i kind line) (hT : Tk w bm gt capt toks) :
    Calls Tryz.prog 100 #[.pointer (some ⟨bw, 0, none⟩), .bool true] w fun e w' => e = .returned (.int .i64 (findName (peekS toks i) (namesOf vars) 0)) ∧ w.grownBy w' (some bw) ∧
      Wk w' bw bm ((i : Int) + 1) (fKind (noTruth vars (findName (peekS toks i) (namesOf vars) 0)) 7 kind) (fLine (noTruth vars (findName (peekS toks i) (namesOf vars) 0)) kind (lineAt toks i) line) := by
  have HW : Hid (Wk w bw bm i kind line) := hW
  have HT : Hid (Tk w bm gt capt toks) := hT
  have HVA := hide hVA
  have HNA := hide hVA.names
  have HNE := hide hNE
  have hi' : i ≤ 4000 := by omega
  have c0 := hW.c0
  obtain ⟨s, hs⟩ : ∃ s, peekS toks i = s := ⟨_, rfl⟩
  rw [hs] at ht ⊢
  have HS : Hid (peekS toks i = s) := hs
  have hbd := findName_bd s (namesOf vars) 0
  have hnl : (namesOf vars).length = vars.length := by simp [namesOf]
  have hl : (namesOf vars).length ≤ 100000 := by omega
  obtain ⟨X, hX⟩ : ∃ X : Nat, findName s (namesOf vars) 0 = (X : Int) := ⟨(findName s (namesOf vars) 0).toNat, by omega⟩
  rw [hX] at hbd ⊢
  have hXl : X < vars.length := by omega
  have HX : Hid (findName s (namesOf vars) 0 = (X : Int)) := hX
  obtain ⟨v, hv⟩ : ∃ v, vars[X]? = some v := ⟨vars[X], by simp [hXl]⟩
  rcases hVA with ⟨h, _⟩ | ⟨g, cap, rfl, hrow⟩
  · rw [h] at hXl; simp at hXl
  have HM := hide hM
  have HCV : Hid (w.cell? ⟨g, X * 3 + 1, none⟩ = some (.int .i64 v.low) ∧ w.cell? ⟨g, X * 3 + 2, none⟩ = some (.int .i64 v.high)) := ⟨(hrow X v hv).2.1, (hrow X v hv).2.2⟩
  have HGN : Hid (some g ≠ some bw) := fun e => hNE e
  have hXi : (X : Int) < vars.length := by omega
  have hX0 : (0 : Int) ≤ (X : Int) := by omega
  have hd0 : decide ((X : Int) < 0) = false := by simp
  have hd1 : decide ((0 : Int) ≤ (X : Int)) = true := by simp
  have HNT : Hid (noTruth vars (X : Int) = (decide (v.low < 0) || decide (1 < v.high))) := by
    unfold Hid noTruth; rw [Int.toNat_natCast, hv]
  clear hs hX hW hT hM hNE hrow hv hbd hnl ht
  by_cases hlo : v.low < 0
  · have HB : Hid (noTruth vars (X : Int) = true) := by unfold Hid; rw [HNT.out]; simp [hlo]
    go_enter Tryz.func100, Tryz.ntmps100
    go_wp2
    go_region_held3 (fun w' => w'.cell? ⟨bw, 0, none⟩ = some (.pointer (some ⟨bm, 0, none⟩))) (go_keep)
      (first | (go_at_call 95; refine (peek_s HS.out hn hi' HW.out.drew HT.out.drew).mono ?_; rintro e w1 ⟨rfl, hg1, hW1⟩; have d0 := hW1.c0) | (go_at_call 140; refine (varOf_x HX.out hl (hg1.cell HM.out (by simpa using h1)) (HNA.out.kept ((grown_drew' _ _).trans hg1) HNE.out)).mono ?_; rintro e w2 ⟨rfl, hww⟩; subst w2))
    have HW1 : Hid (Wk w1 bw bm i kind line) := hW1
    have HT1 : Hid (Tk w1 bm gt capt toks) := HT.out.kept ((grown_drew' _ _).trans hg1) h1 h2
    have HG1 : Hid (w.grownBy w1 (some bw)) := (grown_drew' _ _).trans hg1
    have HM1 : Hid (w1.cell? ⟨bm, 1, none⟩ = some (.slice (some ⟨g, 0, none⟩) vars.length cap)) := hg1.cell HM.out (by simpa using h1)
    clear hW1 hg1 d0
    go_wp2_with fail
    refine (ref_fault toks i false 4 kind line bw bm gt capt _ hn hi h1 h2 HW1.out HT1.out).mono ?_
    rintro e w2 ⟨rfl, hg2, hW2⟩
    have HW2 : Hid (Wk w2 bw bm i kind line) := hW2
    have HT2 : Hid (Tk w2 bm gt capt toks) := HT1.out.kept hg2 h1 h2
    have HG2 : Hid (w1.grownBy w2 (some bw)) := hg2
    have HVA2 := (HVA.out.kept (HG1.out.trans hg2) HNE.out).names
    have hV2 : w2.cell? ⟨g, X * 3 + 1, none⟩ = some (.int .i64 v.low) ∧ w2.cell? ⟨g, X * 3 + 2, none⟩ = some (.int .i64 v.high) :=
      ⟨hg2.cell (HG1.out.cell HCV.out.1 HGN.out) HGN.out, hg2.cell (HG1.out.cell HCV.out.2 HGN.out) HGN.out⟩
    obtain ⟨hv1, hv2⟩ := hV2
    have hm2 : w2.cell? ⟨bm, 1, none⟩ = some (.slice (some ⟨g, 0, none⟩) vars.length cap) := hg2.cell HM1.out (by simpa using h1)
    obtain ⟨q0, q1, q2, q3, f1, f2, f3, _⟩ := hW2
    clear hg2 HVA2
    go_wp2_with fail
    refine (ref_fault toks i true 7 kind line bw bm gt capt _ hn hi h1 h2 HW2.out HT2.out).mono ?_
    rintro e w3 ⟨rfl, hg3, hW3⟩
    have HW3 : Hid (Wk w3 bw bm i (fKind true 7 kind) (fLine true kind (lineAt toks i) line)) := hW3
    have HG3 : Hid (w2.grownBy w3 (some bw)) := hg3
    clear q0 q1 q2 q3 f1 f2 f3 hv1 hv2 hm2
    obtain ⟨q0, q1, q2, q3, f1, f2, f3, _⟩ := hW3
    clear hg3
    go_wp2
    go_ret
    refine ⟨rfl, ((HG1.out.trans HG2.out).trans HG3.out).trans (grown_set _ _ _ _), ?_⟩
    rw [HB.out]
    exact HW3.out.setI _
  · by_cases hhi : 1 < v.high
    · have HB : Hid (noTruth vars (X : Int) = true) := by unfold Hid; rw [HNT.out]; simp [hhi]
      have hdl : decide (v.low < 0) = false := by simpa using hlo
      have hdh : decide (1 < v.high) = true := by simpa using hhi
      go_enter Tryz.func100, Tryz.ntmps100
      go_wp2
      go_region_held3 (fun w' => w'.cell? ⟨bw, 0, none⟩ = some (.pointer (some ⟨bm, 0, none⟩))) (go_keep)
        (first | (go_at_call 95; refine (peek_s HS.out hn hi' HW.out.drew HT.out.drew).mono ?_; rintro e w1 ⟨rfl, hg1, hW1⟩; have d0 := hW1.c0) | (go_at_call 140; refine (varOf_x HX.out hl (hg1.cell HM.out (by simpa using h1)) (HNA.out.kept ((grown_drew' _ _).trans hg1) HNE.out)).mono ?_; rintro e w2 ⟨rfl, hww⟩; subst w2))
      have HW1 : Hid (Wk w1 bw bm i kind line) := hW1
      have HT1 : Hid (Tk w1 bm gt capt toks) := HT.out.kept ((grown_drew' _ _).trans hg1) h1 h2
      have HG1 : Hid (w.grownBy w1 (some bw)) := (grown_drew' _ _).trans hg1
      have HM1 : Hid (w1.cell? ⟨bm, 1, none⟩ = some (.slice (some ⟨g, 0, none⟩) vars.length cap)) := hg1.cell HM.out (by simpa using h1)
      clear hW1 hg1 d0
      go_wp2_with fail
      refine (ref_fault toks i false 4 kind line bw bm gt capt _ hn hi h1 h2 HW1.out HT1.out).mono ?_
      rintro e w2 ⟨rfl, hg2, hW2⟩
      have HW2 : Hid (Wk w2 bw bm i kind line) := hW2
      have HT2 : Hid (Tk w2 bm gt capt toks) := HT1.out.kept hg2 h1 h2
      have HG2 : Hid (w1.grownBy w2 (some bw)) := hg2
      have HVA2 := (HVA.out.kept (HG1.out.trans hg2) HNE.out).names
      have hV2 : w2.cell? ⟨g, X * 3 + 1, none⟩ = some (.int .i64 v.low) ∧ w2.cell? ⟨g, X * 3 + 2, none⟩ = some (.int .i64 v.high) :=
        ⟨hg2.cell (HG1.out.cell HCV.out.1 HGN.out) HGN.out, hg2.cell (HG1.out.cell HCV.out.2 HGN.out) HGN.out⟩
      obtain ⟨hv1, hv2⟩ := hV2
      have hm2 : w2.cell? ⟨bm, 1, none⟩ = some (.slice (some ⟨g, 0, none⟩) vars.length cap) := hg2.cell HM1.out (by simpa using h1)
      obtain ⟨q0, q1, q2, q3, f1, f2, f3, _⟩ := hW2
      clear hg2 HVA2
      go_wp2_with fail
      refine (ref_fault toks i true 7 kind line bw bm gt capt _ hn hi h1 h2 HW2.out HT2.out).mono ?_
      rintro e w3 ⟨rfl, hg3, hW3⟩
      have HW3 : Hid (Wk w3 bw bm i (fKind true 7 kind) (fLine true kind (lineAt toks i) line)) := hW3
      have HG3 : Hid (w2.grownBy w3 (some bw)) := hg3
      clear q0 q1 q2 q3 f1 f2 f3 hv1 hv2 hm2
      obtain ⟨q0, q1, q2, q3, f1, f2, f3, _⟩ := hW3
      clear hg3
      go_wp2
      go_ret
      refine ⟨rfl, ((HG1.out.trans HG2.out).trans HG3.out).trans (grown_set _ _ _ _), ?_⟩
      rw [HB.out]
      exact HW3.out.setI _
    · have HB : Hid (noTruth vars (X : Int) = false) := by unfold Hid; rw [HNT.out]; simp; omega
      have hdl : decide (v.low < 0) = false := by simpa using hlo
      have hdh : decide (1 < v.high) = false := by simpa using hhi
      go_enter Tryz.func100, Tryz.ntmps100
      go_wp2
      go_region_held3 (fun w' => w'.cell? ⟨bw, 0, none⟩ = some (.pointer (some ⟨bm, 0, none⟩))) (go_keep)
        (first | (go_at_call 95; refine (peek_s HS.out hn hi' HW.out.drew HT.out.drew).mono ?_; rintro e w1 ⟨rfl, hg1, hW1⟩; have d0 := hW1.c0) | (go_at_call 140; refine (varOf_x HX.out hl (hg1.cell HM.out (by simpa using h1)) (HNA.out.kept ((grown_drew' _ _).trans hg1) HNE.out)).mono ?_; rintro e w2 ⟨rfl, hww⟩; subst w2))
      have HW1 : Hid (Wk w1 bw bm i kind line) := hW1
      have HT1 : Hid (Tk w1 bm gt capt toks) := HT.out.kept ((grown_drew' _ _).trans hg1) h1 h2
      have HG1 : Hid (w.grownBy w1 (some bw)) := (grown_drew' _ _).trans hg1
      have HM1 : Hid (w1.cell? ⟨bm, 1, none⟩ = some (.slice (some ⟨g, 0, none⟩) vars.length cap)) := hg1.cell HM.out (by simpa using h1)
      clear hW1 hg1 d0
      go_wp2_with fail
      refine (ref_fault toks i false 4 kind line bw bm gt capt _ hn hi h1 h2 HW1.out HT1.out).mono ?_
      rintro e w2 ⟨rfl, hg2, hW2⟩
      have HW2 : Hid (Wk w2 bw bm i kind line) := hW2
      have HT2 : Hid (Tk w2 bm gt capt toks) := HT1.out.kept hg2 h1 h2
      have HG2 : Hid (w1.grownBy w2 (some bw)) := hg2
      have HVA2 := (HVA.out.kept (HG1.out.trans hg2) HNE.out).names
      have hV2 : w2.cell? ⟨g, X * 3 + 1, none⟩ = some (.int .i64 v.low) ∧ w2.cell? ⟨g, X * 3 + 2, none⟩ = some (.int .i64 v.high) :=
        ⟨hg2.cell (HG1.out.cell HCV.out.1 HGN.out) HGN.out, hg2.cell (HG1.out.cell HCV.out.2 HGN.out) HGN.out⟩
      obtain ⟨hv1, hv2⟩ := hV2
      have hm2 : w2.cell? ⟨bm, 1, none⟩ = some (.slice (some ⟨g, 0, none⟩) vars.length cap) := hg2.cell HM1.out (by simpa using h1)
      obtain ⟨q0, q1, q2, q3, f1, f2, f3, _⟩ := hW2
      clear hg2 HVA2
      go_wp2_with fail
      refine (ref_fault toks i false 7 kind line bw bm gt capt _ hn hi h1 h2 HW2.out HT2.out).mono ?_
      rintro e w3 ⟨rfl, hg3, hW3⟩
      have HW3 : Hid (Wk w3 bw bm i (fKind false 7 kind) (fLine false kind (lineAt toks i) line)) := hW3
      have HG3 : Hid (w2.grownBy w3 (some bw)) := hg3
      clear q0 q1 q2 q3 f1 f2 f3 hv1 hv2 hm2
      obtain ⟨q0, q1, q2, q3, f1, f2, f3, _⟩ := hW3
      clear hg3
      go_wp2
      go_ret
      refine ⟨rfl, ((HG1.out.trans HG2.out).trans HG3.out).trans (grown_set _ _ _ _), ?_⟩
      rw [HB.out]
      exact HW3.out.setI _
end Go.Proofs.YthpcbbnabnlanaaGreatDoor
