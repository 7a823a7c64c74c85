import Derived.Test.YthpcbbnabnlanaaGreatDoorM21
import Derived.Deep.RegionLaw
import Derived.Deep.Onto
/-
  The reference's statement: lin: a sum that must be so.
-/
namespace Go.Proofs.YthpcbbnabnlanaaGreatDoor
open Go.RowKit
set_option linter.unusedVariables false
set_option linter.unusedSimpArgs false
attribute [local go_sem ↓] Go.wp_at_zero Go.wp_at_succ

theorem rul_one {R : PRul} (h : R.pv.oneCell' = true) : ∀ u ∈ [Value.int .u8 R.sort, R.pv, .string R.rel, .int .i64 R.n, .int .i64 R.v, .int .i64 R.w, .int .i64 R.x], u.oneCell' = true := by
  intro u hu; simp at hu; rcases hu with rfl | rfl | rfl | rfl | rfl | rfl | rfl <;> first | exact h | rfl
theorem own_one {w : World} {B : Nat} {e : TypeId} {s n : Nat} {v : Value} {xs : List Value} (h : w.ownsRow B e s v n xs) : v.oneCell' = true := by
  obtain ⟨a, cap, rfl⟩ := shape_of h
  rfl

/-- the faults of a sum behind a constraint's keyword -/
def linSt (vars : List PVar) (nr : Nat) (kw : PTok) (ts : List PTerm) (num : PTok) (st : FSt) : FSt :=
  flt (outB (intVal num.s) 1000000) 5 num.line (termsSt vars 1 ts (flt (decide (16 ≤ (nr : Int))) 6 kw.line st))

set_option maxRecDepth 100000 in
set_option maxHeartbeats 2000000 in
theorem ref_stLin (w0 : World) (bw bm gt capt B : Nat) (toks : List PTok) (vv vl vr : Value) (vars : List PVar) (lists : List PLst) (rules : List PRul) (i m q : Nat) (kind line : Int) (kw : PTok) (t : PTerm) (ts : List PTerm) (rel num : PTok)
    (h : Md w0 bw bm gt capt B toks vv vl vr vars lists rules i kind line) (hk : toks[i]? = some kw) (hks : kw.s = ⟨#[108, 105, 110]⟩) (hiq : i ≤ q) (ht : TermAt toks (i + 1) t m) (htn : t.neg = false) (hts : TermsAt toks m ts q) (hrel : toks[q]? = some rel) (hr1 : rel.s.toList ≠ [43]) (hr2 : rel.s.toList ≠ [45]) (hnum : toks[q + 1]? = some num) (hni : IsInt num.s) :
    Calls Tryz.prog 54 #[.pointer (some ⟨bw, 0, none⟩)] w0 fun e w' => e = .returned (.tuple #[]) ∧ ButB B [bw, bm] w0 w' ∧
      ∃ vr' pv, Md w' bw bm gt capt B toks vv vl vr' vars lists (rules ++ [⟨105, (t :: ts).map (termPart vars), pv, rel.s, intVal num.s, 0, 0, 0⟩]) (q + 2) (linSt vars rules.length kw (t :: ts) num (kind, line)).1 (linSt vars rules.length kw (t :: ts) num (kind, line)).2 := by
  have HTT := hide (And.intro ht (And.intro htn (And.intro hts (And.intro hrel (And.intro hr1 (And.intro hr2 (And.intro hnum hni)))))))
  have hql := (at_tok hnum).2.2
  clear ht htn hts hrel hr1 hr2 hnum hni
  obtain ⟨i0, hi0, hz0, hz1, hz2⟩ := info_parts infoRule
  obtain ⟨k1, k2, k3⟩ := at_tok hk
  have hn := h.hn
  have c0 := h.wk.c0
  have H0 := hide h
  have hC0 := h.ctx (by omega)
  have HFB := hide (fun b (hb : w0.heap.size ≤ b) => hC0.far_new hb)
  have hpk := ctx_peek hC0 (by omega)
  rw [k1, hks] at hpk
  have HPK := hide hpk
  have HK2 := hide k2
  clear hpk h hC0 k1 k2 hk hks
  go_enter Tryz.func54, Tryz.ntmps54
  go_wp2_with fail
  refine (unhide HPK).mono ?_
  rintro e w1 ⟨rfl, hg1, hC1⟩
  have HB1 := hide (But.of_grown (S := [bw]) hg1 (fun k e => by cases e; simp))
  have M1 := H0.out.but HB1.out hC1.wk (Nat.le_refl _)
  obtain ⟨ar, capr, hvr⟩ := shape_of M1.orr
  obtain ⟨d0, d1, _, _, e1, _, _, _⟩ := hC1.wk
  have m3 := M1.m3
  have hne := M1.ne1
  rw [hvr] at m3
  have HVR := hide hvr
  have hset := fun W o u b' o' h => cell_set W bw o u b' o' h
  have hf1 := ctx_fault (M1.ctx (by omega)) k3 (decide (16 ≤ (rules.length : Int))) 6
  rw [HK2.out] at hf1
  have HF1 := hide hf1
  clear hg1 hC1 c0 HPK hvr M1 hf1
  go_wp2_with fail
  refine (unhide HF1).mono ?_
  rintro e w2 ⟨rfl, hg2, hC2⟩
  have HB2 := hide (HB1.out.walk hg2)
  have HW2 := hide hC2.wk
  have hlt2 := hC2.wk.lt
  clear d0 d1 e1 m3 HF1 HB1
  obtain ⟨d0, d1, _, _, e1, _, _, _⟩ := hC2.wk
  clear hg2 hC2
  go_wp2_with fail
  have HBa := hide ((HB2.out.set (k := bw) (.inl (by simp)) 1 (.int .i64 ((i : Int) + 1))).alloc (.cells #[.int .u8 (105), .slice none 0 0, .string ⟨#[]⟩, .int .i64 0, .int .i64 0, .int .i64 0, .int .i64 0] 176))
  have HWa := hide ((HW2.out.setI ((i : Int) + 1)).far (World.grownBy_alloc _ (.cells #[.int .u8 (105), .slice none 0 0, .string ⟨#[]⟩, .int .i64 0, .int .i64 0, .int .i64 0, .int .i64 0] 176) none) (by simp))
  have HRa := hide (br_new (w2.setCell ⟨bw, 1, none⟩ (.int .i64 ((i : Int) + 1))) (105) 176)
  have hszc : (w2.setCell ⟨bw, 1, none⟩ (.int .i64 ((i : Int) + 1))).heap.size = w2.heap.size := by simp [World.setCell]
  rw [hszc] at HRa
  have hge : w0.heap.size ≤ w2.heap.size := HB2.out.size
  have hne2 : (w2.heap.size : Nat) ≠ bw := by omega
  generalize ((w2.setCell ⟨bw, 1, none⟩ (.int .i64 ((i : Int) + 1))).alloc (.cells #[.int .u8 (105), .slice none 0 0, .string ⟨#[]⟩, .int .i64 0, .int .i64 0, .int .i64 0, .int .i64 0] 176)) = wa at HBa HWa HRa ⊢
  clear hszc
  generalize w2.heap.size = br at hne2 hge HRa hlt2 ⊢
  clear d0 d1 e1 HW2 HB2
  have HF := hide (HFB.out br hge)
  have Ma := H0.out.but (j := i + 1) HBa.out HWa.out (by omega)
  have hs := ref_sum toks vars bw bm gt capt br vv (i + 1) m q t ts rel num _ _ wa (Ma.ctx (by omega)) HF.out HTT.out.1 HTT.out.2.1 HTT.out.2.2.1 HTT.out.2.2.2.1 HTT.out.2.2.2.2.1 HTT.out.2.2.2.2.2.1 HTT.out.2.2.2.2.2.2.1 HTT.out.2.2.2.2.2.2.2 _ (HRa.out.toRl rfl _ HRa.out.lt)
  refine hs.mono ?_
  rintro e wj ⟨rfl, hbj, hCj, vL, hRj, hc2, hc3⟩
  have HBj := hide (HBa.out.sub hbj (fun b hb => by simp at hb; rcases hb with rfl | rfl; exact .inl (by simp); exact .inr hge))
  have HWj := hide hCj.wk
  have HRj0 := hide (HRa.out.ofRl hRj hc2 hc3)
  have HPj0 := hide (hRj.own.mono (base' := B) (by have := Ma.hB; omega))
  obtain ⟨R, hR⟩ : ∃ R : PRul, R = ⟨105, (t :: ts).map (termPart vars), vL, rel.s, intVal num.s, 0, 0, 0⟩ := ⟨_, rfl⟩
  have HRj : Hid (Br wj br R) := by rw [hR]; exact HRj0.out
  have HPj : Hid (wj.ownsRow B 183 2 R.pv R.parts.length (partCells R.parts)) := by rw [hR]; exact HPj0.out
  have HRR := hide hR
  clear Ma hs hbj hCj hRj hc2 hc3 HRj0 HPj0 hR
  go_wp2
  have Mj := H0.out.but (j := q + 2) HBj.out HWj.out (by omega)
  obtain ⟨r0, r1, r2, r3, r4, r5, r6, rz, rl⟩ := HRj.out
  have m3 := Mj.m3
  have mf3 := Mj.f3
  have hbl2 := Mj.tk.ltm
  have HMj := hide Mj
  have HOWN := hide (Mj.orr.kept ((World.grownBy_alloc wj (.cells #[.int .u8 R.sort, R.pv, .string R.rel, .int .i64 R.n, .int .i64 R.v, .int .i64 R.w, .int .i64 R.x] 176) none).trans (grown_drew' _ none)) (by cases vr.ownBlock with
    | none => exact .inl rfl
    | some g => exact .inr (by simp)))
  have HNEWS : Hid (∀ jj u, [Value.int .u8 R.sort, R.pv, .string R.rel, .int .i64 R.n, .int .i64 R.v, .int .i64 R.w, .int .i64 R.x][jj]? = some u → (wj.alloc (.cells #[.int .u8 R.sort, R.pv, .string R.rel, .int .i64 R.n, .int .i64 R.v, .int .i64 R.w, .int .i64 R.x] 176)).drew.cell? ((⟨wj.heap.size, 0, none⟩ : Addr).add jj) = some u) :=
    World.news_of_block (cs := #[.int .u8 R.sort, R.pv, .string R.rel, .int .i64 R.n, .int .i64 R.v, .int .i64 R.w, .int .i64 R.x]) (t := 176) (fr := (0, 0)) (heap_alloc_new wj _)
  have KEEP : Hid (∀ wA, (wj.alloc (.cells #[.int .u8 R.sort, R.pv, .string R.rel, .int .i64 R.n, .int .i64 R.v, .int .i64 R.w, .int .i64 R.x] 176)).drew.grownBy wA vr.ownBlock → wA.frozen? ⟨bm, 3, none⟩ = false ∧ wA.cell? ⟨bm, 3, none⟩ = some vr) := by
    intro wA hg
    have g0 : wj.grownBy (wj.alloc (.cells #[.int .u8 R.sort, R.pv, .string R.rel, .int .i64 R.n, .int .i64 R.v, .int .i64 R.w, .int .i64 R.x] 176)).drew none := (World.grownBy_alloc wj _ none).trans (grown_drew' _ none)
    have hlow : some bm ≠ vr.ownBlock := fun e => by have := (HMj.out.orr.lt _ e.symm).1; have := HMj.out.hbm; omega
    exact ⟨(hg.frozen_far ⟨bm, 3, none⟩ (Nat.lt_of_lt_of_le HMj.out.tk.ltm g0.size) hlow).trans ((g0.frozen_far ⟨bm, 3, none⟩ HMj.out.tk.ltm (by simp)).trans HMj.out.f3), hg.cell (g0.cell HMj.out.m3 (by simp)) hlow⟩
  have hBs : B ≤ wj.heap.size := Mj.hB
  have hrn : rules.length ≤ 2000 := by have := H0.out.lr; omega
  have HOC : Hid (R.pv.oneCell' = true) := own_one HPj.out
  clear Mj rz
  go_region_law ((refine step_append_lies _ (by rfl) _ _ 114 (by rfl) B 176 i0 (.agg #[.int .u8 0, .slice none 0 0, .string .empty, .int .i64 0, .int .i64 0, .int .i64 0, .int .i64 0]) 7 80 Tryz.underlying114 hi0 hz0 hz1 hz2 rfl (by decide) vr rules.length (rulCells rules) (by rfl) HOWN.out ⟨wj.heap.size, 0, none⟩ 1 1 [.int .u8 R.sort, R.pv, .string R.rel, .int .i64 R.n, .int .i64 R.v, .int .i64 R.w, .int .i64 R.x] (by rfl) rfl HNEWS.out (rul_one HOC.out) (by decide) (by unfold maxLen; omega) (by omega) (by simp; omega) _ rfl ?_; intro gA capA wA hownA hgrowA hatA hltA; obtain ⟨q1, q2⟩ := KEEP.out wA hgrowA))
  all_goals
    have HP := hide (HMj.out.pushRule (x := R) (by have := H0.out.lr; omega) HPj.out hownA hgrowA)
    clear HOWN HNEWS KEEP hownA hgrowA hatA hltA m3 mf3 r0 r1 r2 r3 r4 r5 r6 rl
    go_wp2
    go_end0
    refine ⟨rfl, (HBj.out.toB H0.out.hB (fun k hk => by simp at hk; simp [hk])).trans HP.out.2, ?_⟩
    have h1 := HP.out.1; rw [HRR.out] at h1; exact ⟨_, _, h1⟩
end Go.Proofs.YthpcbbnabnlanaaGreatDoor

/-
  The reference's statement: when: a truth that stands for a sum.
-/
namespace Go.Proofs.YthpcbbnabnlanaaGreatDoor
open Go.RowKit
set_option linter.unusedVariables false
set_option linter.unusedSimpArgs false
attribute [local go_sem ↓] Go.wp_at_zero Go.wp_at_succ

/-- the faults of a name that must be a truth's -/
def trSt (vars : List PVar) (t : PTok) (st : FSt) : FSt := (truthKind vars t.s st.1, truthLine vars t.s st.1 t.line st.2)
def whenSt (vars : List PVar) (nr : Nat) (kw nm : PTok) (ts : List PTerm) (num : PTok) (st : FSt) : FSt :=
  flt (outB (intVal num.s) 1000000) 5 num.line (termsSt vars 1 ts (trSt vars nm (flt (decide (16 ≤ (nr : Int))) 6 kw.line st)))

set_option maxRecDepth 100000 in
set_option maxHeartbeats 2000000 in
theorem ref_stWhen (w0 : World) (bw bm gt capt B : Nat) (toks : List PTok) (vv vl vr : Value) (vars : List PVar) (lists : List PLst) (rules : List PRul) (i m q : Nat) (kind line : Int) (kw nm : PTok) (t : PTerm) (ts : List PTerm) (rel num : PTok)
    (h : Md w0 bw bm gt capt B toks vv vl vr vars lists rules i kind line) (hk : toks[i]? = some kw) (hks : kw.s = ⟨#[119, 104, 101, 110]⟩) (hnm : toks[i + 1]? = some nm) (hiq : i + 3 ≤ q) (ht : TermAt toks (i + 3) t m) (htn : t.neg = false) (hts : TermsAt toks m ts q) (hrel : toks[q]? = some rel) (hr1 : rel.s.toList ≠ [43]) (hr2 : rel.s.toList ≠ [45]) (hnum : toks[q + 1]? = some num) (hni : IsInt num.s) :
    Calls Tryz.prog 54 #[.pointer (some ⟨bw, 0, none⟩)] w0 fun e w' => e = .returned (.tuple #[]) ∧ ButB B [bw, bm] w0 w' ∧
      ∃ vr' pv, Md w' bw bm gt capt B toks vv vl vr' vars lists (rules ++ [⟨119, (t :: ts).map (termPart vars), pv, rel.s, intVal num.s, varX vars nm.s, 0, 0⟩]) (q + 2) (whenSt vars rules.length kw nm (t :: ts) num (kind, line)).1 (whenSt vars rules.length kw nm (t :: ts) num (kind, line)).2 := by
  have HTT := hide (And.intro ht (And.intro htn (And.intro hts (And.intro hrel (And.intro hr1 (And.intro hr2 (And.intro hnum hni)))))))
  have hql := (at_tok hnum).2.2
  obtain ⟨n1, n2, n3⟩ := at_tok hnm
  have HN := hide (And.intro n1 n2)
  clear ht htn hts hrel hr1 hr2 hnum hni hnm n1 n2
  obtain ⟨i0, hi0, hz0, hz1, hz2⟩ := info_parts infoRule
  obtain ⟨k1, k2, k3⟩ := at_tok hk
  have hn := h.hn
  have c0 := h.wk.c0
  have H0 := hide h
  have hC0 := h.ctx (by omega)
  have HFB := hide (fun b (hb : w0.heap.size ≤ b) => hC0.far_new hb)
  have hpk := ctx_peek hC0 (by omega)
  rw [k1, hks] at hpk
  have HPK := hide hpk
  have HK2 := hide k2
  clear hpk h hC0 k1 k2 hk hks
  go_enter Tryz.func54, Tryz.ntmps54
  go_wp2_with fail
  refine (unhide HPK).mono ?_
  rintro e w1 ⟨rfl, hg1, hC1⟩
  have HB1 := hide (But.of_grown (S := [bw]) hg1 (fun k e => by cases e; simp))
  have M1 := H0.out.but HB1.out hC1.wk (Nat.le_refl _)
  obtain ⟨ar, capr, hvr⟩ := shape_of M1.orr
  obtain ⟨d0, d1, _, _, e1, _, _, _⟩ := hC1.wk
  have m3 := M1.m3
  have hne := M1.ne1
  rw [hvr] at m3
  have HVR := hide hvr
  have hset := fun W o u b' o' h => cell_set W bw o u b' o' h
  have hf1 := ctx_fault (M1.ctx (by omega)) k3 (decide (16 ≤ (rules.length : Int))) 6
  rw [HK2.out] at hf1
  have HF1 := hide hf1
  clear hg1 hC1 c0 HPK hvr M1 hf1
  go_wp2_with fail
  refine (unhide HF1).mono ?_
  rintro e w2 ⟨rfl, hg2, hC2⟩
  have HB2 := hide (HB1.out.walk hg2)
  have HW2 := hide hC2.wk
  have hlt2 := hC2.wk.lt
  clear d0 d1 e1 m3 HF1 HB1
  obtain ⟨d0, d1, _, _, e1, _, _, _⟩ := hC2.wk
  clear hg2 hC2
  go_wp2_with fail
  have HBa := hide ((HB2.out.set (k := bw) (.inl (by simp)) 1 (.int .i64 ((i : Int) + 1))).alloc (.cells #[.int .u8 (((ByteArray.mk #[119, 104, 101, 110])[0].toNat : Int)), .slice none 0 0, .string ⟨#[]⟩, .int .i64 0, .int .i64 0, .int .i64 0, .int .i64 0] 176))
  have HWa := hide ((HW2.out.setI ((i : Int) + 1)).far (World.grownBy_alloc _ (.cells #[.int .u8 (((ByteArray.mk #[119, 104, 101, 110])[0].toNat : Int)), .slice none 0 0, .string ⟨#[]⟩, .int .i64 0, .int .i64 0, .int .i64 0, .int .i64 0] 176) none) (by simp))
  have HRa := hide (br_new (w2.setCell ⟨bw, 1, none⟩ (.int .i64 ((i : Int) + 1))) (((ByteArray.mk #[119, 104, 101, 110])[0].toNat : Int)) 176)
  have hszc : (w2.setCell ⟨bw, 1, none⟩ (.int .i64 ((i : Int) + 1))).heap.size = w2.heap.size := by simp [World.setCell]
  rw [hszc] at HRa
  have hge : w0.heap.size ≤ w2.heap.size := HB2.out.size
  have hne2 : (w2.heap.size : Nat) ≠ bw := by omega
  generalize ((w2.setCell ⟨bw, 1, none⟩ (.int .i64 ((i : Int) + 1))).alloc (.cells #[.int .u8 (((ByteArray.mk #[119, 104, 101, 110])[0].toNat : Int)), .slice none 0 0, .string ⟨#[]⟩, .int .i64 0, .int .i64 0, .int .i64 0, .int .i64 0] 176)) = wa at HBa HWa HRa ⊢
  clear hszc
  generalize w2.heap.size = br at hne2 hge HRa hlt2 ⊢
  clear d0 d1 e1 HW2 HB2
  have HF := hide (HFB.out br hge)
  have Ma := H0.out.but (j := i + 1) HBa.out HWa.out (by omega)
  have hu := ctx_truth (Ma.ctx (by omega)) n3
  rw [HN.out.1, HN.out.2] at hu
  refine hu.mono ?_
  rintro e wb ⟨rfl, hgb, hCb⟩
  have HBb := hide (HBa.out.walk hgb)
  have hRb := HRa.out.far hgb (by simpa using hne2)
  have HRb := hide hRb
  have HWb := hide hCb.wk
  obtain ⟨d0, d1, _, _, e1, _, _, _⟩ := hCb.wk
  have r4 := hRb.c4
  have rz := hRb.fz 4
  obtain ⟨X, hX⟩ : ∃ x, varX vars nm.s = x := ⟨_, rfl⟩
  rw [hX]
  have HX := hide hX
  have hset2 := fun W o u b' o' h => cell_set W br o u b' o' h
  clear hCb hgb hu Ma HBa HWa HRa hX hRb
  go_wp2_with fail
  have HBc := hide ((HBb.out.set (k := br) (.inr hge) 4 (.int .i64 X)).set (k := bw) (.inl (by simp)) 1 (.int .i64 ((i : Int) + 1 + 1 + 1)))
  have HWc := hide ((HWb.out.far (grown_set wb br 4 (.int .i64 X)) (by simpa using fun e : bw = br => hne2 e.symm)).setI ((i : Int) + 1 + 1 + 1))
  have HRc := hide ((HRb.out.setV X).far (grown_set _ bw 1 (.int .i64 ((i : Int) + 1 + 1 + 1))) (by simpa using hne2))
  generalize ((wb.setCell ⟨br, 4, none⟩ (.int .i64 X)).setCell ⟨bw, 1, none⟩ (.int .i64 ((i : Int) + 1 + 1 + 1))) = wc at HBc HWc HRc ⊢
  clear d0 d1 e1 r4 rz HBb HWb HRb
  have Mc := H0.out.but (j := i + 3) HBc.out HWc.out (by omega)
  have hs := ref_sum toks vars bw bm gt capt br vv (i + 3) m q t ts rel num _ _ wc (Mc.ctx (by omega)) HF.out HTT.out.1 HTT.out.2.1 HTT.out.2.2.1 HTT.out.2.2.2.1 HTT.out.2.2.2.2.1 HTT.out.2.2.2.2.2.1 HTT.out.2.2.2.2.2.2.1 HTT.out.2.2.2.2.2.2.2 _ (HRc.out.toRl rfl _ HRc.out.lt)
  refine hs.mono ?_
  rintro e wj ⟨rfl, hbj, hCj, vL, hRj, hc2, hc3⟩
  have HBj := hide (HBc.out.sub hbj (fun b hb => by simp at hb; rcases hb with rfl | rfl; exact .inl (by simp); exact .inr hge))
  have HWj := hide hCj.wk
  have HRj0 := hide (HRc.out.ofRl hRj hc2 hc3)
  have HPj0 := hide (hRj.own.mono (base' := B) (by have := Mc.hB; omega))
  obtain ⟨R, hR⟩ : ∃ R : PRul, R = ⟨119, (t :: ts).map (termPart vars), vL, rel.s, intVal num.s, X, 0, 0⟩ := ⟨_, rfl⟩
  have HRj : Hid (Br wj br R) := by rw [hR]; exact HRj0.out
  have HPj : Hid (wj.ownsRow B 183 2 R.pv R.parts.length (partCells R.parts)) := by rw [hR]; exact HPj0.out
  have HRR := hide hR
  clear Mc hs hbj hCj hRj hc2 hc3 HRj0 HPj0 hR
  go_wp2
  have Mj := H0.out.but (j := q + 2) HBj.out HWj.out (by omega)
  obtain ⟨r0, r1, r2, r3, r4, r5, r6, rz, rl⟩ := HRj.out
  have m3 := Mj.m3
  have mf3 := Mj.f3
  have hbl2 := Mj.tk.ltm
  have HMj := hide Mj
  have HOWN := hide (Mj.orr.kept ((World.grownBy_alloc wj (.cells #[.int .u8 R.sort, R.pv, .string R.rel, .int .i64 R.n, .int .i64 R.v, .int .i64 R.w, .int .i64 R.x] 176) none).trans (grown_drew' _ none)) (by cases vr.ownBlock with
    | none => exact .inl rfl
    | some g => exact .inr (by simp)))
  have HNEWS : Hid (∀ jj u, [Value.int .u8 R.sort, R.pv, .string R.rel, .int .i64 R.n, .int .i64 R.v, .int .i64 R.w, .int .i64 R.x][jj]? = some u → (wj.alloc (.cells #[.int .u8 R.sort, R.pv, .string R.rel, .int .i64 R.n, .int .i64 R.v, .int .i64 R.w, .int .i64 R.x] 176)).drew.cell? ((⟨wj.heap.size, 0, none⟩ : Addr).add jj) = some u) :=
    World.news_of_block (cs := #[.int .u8 R.sort, R.pv, .string R.rel, .int .i64 R.n, .int .i64 R.v, .int .i64 R.w, .int .i64 R.x]) (t := 176) (fr := (0, 0)) (heap_alloc_new wj _)
  have KEEP : Hid (∀ wA, (wj.alloc (.cells #[.int .u8 R.sort, R.pv, .string R.rel, .int .i64 R.n, .int .i64 R.v, .int .i64 R.w, .int .i64 R.x] 176)).drew.grownBy wA vr.ownBlock → wA.frozen? ⟨bm, 3, none⟩ = false ∧ wA.cell? ⟨bm, 3, none⟩ = some vr) := by
    intro wA hg
    have g0 : wj.grownBy (wj.alloc (.cells #[.int .u8 R.sort, R.pv, .string R.rel, .int .i64 R.n, .int .i64 R.v, .int .i64 R.w, .int .i64 R.x] 176)).drew none := (World.grownBy_alloc wj _ none).trans (grown_drew' _ none)
    have hlow : some bm ≠ vr.ownBlock := fun e => by have := (HMj.out.orr.lt _ e.symm).1; have := HMj.out.hbm; omega
    exact ⟨(hg.frozen_far ⟨bm, 3, none⟩ (Nat.lt_of_lt_of_le HMj.out.tk.ltm g0.size) hlow).trans ((g0.frozen_far ⟨bm, 3, none⟩ HMj.out.tk.ltm (by simp)).trans HMj.out.f3), hg.cell (g0.cell HMj.out.m3 (by simp)) hlow⟩
  have hBs : B ≤ wj.heap.size := Mj.hB
  have hrn : rules.length ≤ 2000 := by have := H0.out.lr; omega
  have HOC : Hid (R.pv.oneCell' = true) := own_one HPj.out
  clear Mj rz
  go_region_law ((refine step_append_lies _ (by rfl) _ _ 114 (by rfl) B 176 i0 (.agg #[.int .u8 0, .slice none 0 0, .string .empty, .int .i64 0, .int .i64 0, .int .i64 0, .int .i64 0]) 7 80 Tryz.underlying114 hi0 hz0 hz1 hz2 rfl (by decide) vr rules.length (rulCells rules) (by rfl) HOWN.out ⟨wj.heap.size, 0, none⟩ 1 1 [.int .u8 R.sort, R.pv, .string R.rel, .int .i64 R.n, .int .i64 R.v, .int .i64 R.w, .int .i64 R.x] (by rfl) rfl HNEWS.out (rul_one HOC.out) (by decide) (by unfold maxLen; omega) (by omega) (by simp; omega) _ rfl ?_; intro gA capA wA hownA hgrowA hatA hltA; obtain ⟨q1, q2⟩ := KEEP.out wA hgrowA))
  all_goals
    have HP := hide (HMj.out.pushRule (x := R) (by have := H0.out.lr; omega) HPj.out hownA hgrowA)
    clear HOWN HNEWS KEEP hownA hgrowA hatA hltA m3 mf3 r0 r1 r2 r3 r4 r5 r6 rl
    go_wp2
    go_end0
    refine ⟨rfl, (HBj.out.toB H0.out.hB (fun k hk => by simp at hk; simp [hk])).trans HP.out.2, ?_⟩
    have h1 := HP.out.1; rw [HRR.out, ← HX.out] at h1; exact ⟨_, _, h1⟩
end Go.Proofs.YthpcbbnabnlanaaGreatDoor

/-
  The reference's statement: at: what stands at a place of a list.
-/
namespace Go.Proofs.YthpcbbnabnlanaaGreatDoor
open Go.RowKit
set_option linter.unusedVariables false
set_option linter.unusedSimpArgs false
attribute [local go_sem ↓] Go.wp_at_zero Go.wp_at_succ

def atSt (vars : List PVar) (lists : List PLst) (nr : Nat) (kw nl np ne : PTok) (st : FSt) : FSt :=
  flt (decide (varX vars ne.s < 0)) 4 ne.line (flt (decide (varX vars np.s < 0)) 4 np.line (flt (decide (lstX lists nl.s < 0)) 4 nl.line (flt (decide (16 ≤ (nr : Int))) 6 kw.line st)))

set_option maxRecDepth 100000 in
set_option maxHeartbeats 2000000 in
theorem ref_stAt (w0 : World) (bw bm gt capt B : Nat) (toks : List PTok) (vv vl vr : Value) (vars : List PVar) (lists : List PLst) (rules : List PRul) (i : Nat) (kind line : Int) (kw nl np ne : PTok)
    (h : Md w0 bw bm gt capt B toks vv vl vr vars lists rules i kind line) (hk : toks[i]? = some kw) (hks : kw.s = ⟨#[97, 116]⟩) (hnl : toks[i + 1]? = some nl) (hnp : toks[i + 3]? = some np) (hne' : toks[i + 6]? = some ne) :
    Calls Tryz.prog 54 #[.pointer (some ⟨bw, 0, none⟩)] w0 fun e w' => e = .returned (.tuple #[]) ∧ ButB B [bw, bm] w0 w' ∧
      ∃ vr', Md w' bw bm gt capt B toks vv vl vr' vars lists (rules ++ [⟨97, [], .slice none 0 0, ⟨#[]⟩, 0, varX vars np.s, varX vars ne.s, lstX lists nl.s⟩]) (i + 7) (atSt vars lists rules.length kw nl np ne (kind, line)).1 (atSt vars lists rules.length kw nl np ne (kind, line)).2 := by
  obtain ⟨n1, n2, n3⟩ := at_tok hnl
  obtain ⟨p1, p2, p3⟩ := at_tok hnp
  obtain ⟨x1, x2, x3⟩ := at_tok hne'
  have HN := hide (And.intro n1 (And.intro n2 (And.intro p1 (And.intro p2 (And.intro x1 x2)))))
  clear hnl hnp hne' n1 n2 p1 p2 x1 x2
  obtain ⟨i0, hi0, hz0, hz1, hz2⟩ := info_parts infoRule
  obtain ⟨k1, k2, k3⟩ := at_tok hk
  have hn := h.hn
  have c0 := h.wk.c0
  have H0 := hide h
  have hC0 := h.ctx (by omega)
  have HFB := hide (fun b (hb : w0.heap.size ≤ b) => hC0.far_new hb)
  have hpk := ctx_peek hC0 (by omega)
  rw [k1, hks] at hpk
  have HPK := hide hpk
  have HK2 := hide k2
  clear hpk h hC0 k1 k2 hk hks
  go_enter Tryz.func54, Tryz.ntmps54
  go_wp2_with fail
  refine (unhide HPK).mono ?_
  rintro e w1 ⟨rfl, hg1, hC1⟩
  have HB1 := hide (But.of_grown (S := [bw]) hg1 (fun k e => by cases e; simp))
  have M1 := H0.out.but HB1.out hC1.wk (Nat.le_refl _)
  obtain ⟨ar, capr, hvr⟩ := shape_of M1.orr
  obtain ⟨d0, d1, _, _, e1, _, _, _⟩ := hC1.wk
  have m3 := M1.m3
  have hne := M1.ne1
  rw [hvr] at m3
  have HVR := hide hvr
  have hset := fun W o u b' o' h => cell_set W bw o u b' o' h
  have hf1 := ctx_fault (M1.ctx (by omega)) k3 (decide (16 ≤ (rules.length : Int))) 6
  rw [HK2.out] at hf1
  have HF1 := hide hf1
  clear hg1 hC1 c0 HPK hvr M1 hf1
  go_wp2_with fail
  refine (unhide HF1).mono ?_
  rintro e w2 ⟨rfl, hg2, hC2⟩
  have HB2 := hide (HB1.out.walk hg2)
  have HW2 := hide hC2.wk
  have hlt2 := hC2.wk.lt
  clear d0 d1 e1 m3 HF1 HB1
  obtain ⟨d0, d1, _, _, e1, _, _, _⟩ := hC2.wk
  clear hg2 hC2
  go_wp2_with fail
  have HBa := hide ((HB2.out.set (k := bw) (.inl (by simp)) 1 (.int .i64 ((i : Int) + 1))).alloc (.cells #[.int .u8 (((ByteArray.mk #[97, 116])[0].toNat : Int)), .slice none 0 0, .string ⟨#[]⟩, .int .i64 0, .int .i64 0, .int .i64 0, .int .i64 0] 176))
  have HWa := hide ((HW2.out.setI ((i : Int) + 1)).far (World.grownBy_alloc _ (.cells #[.int .u8 (((ByteArray.mk #[97, 116])[0].toNat : Int)), .slice none 0 0, .string ⟨#[]⟩, .int .i64 0, .int .i64 0, .int .i64 0, .int .i64 0] 176) none) (by simp))
  have HRa := hide (br_new (w2.setCell ⟨bw, 1, none⟩ (.int .i64 ((i : Int) + 1))) (((ByteArray.mk #[97, 116])[0].toNat : Int)) 176)
  have hszc : (w2.setCell ⟨bw, 1, none⟩ (.int .i64 ((i : Int) + 1))).heap.size = w2.heap.size := by simp [World.setCell]
  rw [hszc] at HRa
  have hge : w0.heap.size ≤ w2.heap.size := HB2.out.size
  have hne2 : (w2.heap.size : Nat) ≠ bw := by omega
  generalize ((w2.setCell ⟨bw, 1, none⟩ (.int .i64 ((i : Int) + 1))).alloc (.cells #[.int .u8 (((ByteArray.mk #[97, 116])[0].toNat : Int)), .slice none 0 0, .string ⟨#[]⟩, .int .i64 0, .int .i64 0, .int .i64 0, .int .i64 0] 176)) = wa at HBa HWa HRa ⊢
  clear hszc
  generalize w2.heap.size = br at hne2 hge HRa hlt2 ⊢
  clear d0 d1 e1 HW2 HB2
  have HF := hide (HFB.out br hge)
  have Ma := H0.out.but (j := i + 1) HBa.out HWa.out (by omega)
  have hp := ctx_peek (Ma.ctx (by omega)) (by omega)
  rw [HN.out.1] at hp
  refine hp.mono ?_
  rintro e wb ⟨rfl, hgb, hCb⟩
  have HBb := hide (HBa.out.walk hgb)
  have hRb := HRa.out.far hgb (by simpa using hne2)
  have HRb := hide hRb
  have HWb := hide hCb.wk
  have Mb := H0.out.but (j := i + 1) HBb.out hCb.wk (by omega)
  have hl := ref_listOf nl.s (lnames lists) vl bm wb (by have := H0.out.ll; simp [lnames]; omega) Mb.m2 (own_lists Mb.ol)
  obtain ⟨X, hX⟩ : ∃ x, lstX lists nl.s = x := ⟨_, rfl⟩
  rw [show findName nl.s (lnames lists) 0 = X from hX] at hl
  have HX := hide hX
  have HL := hide hl
  have hf := ctx_fault (((H0.out.but (j := i + 1) (HBb.out.set (k := br) (.inr hge) 6 (.int .i64 X)) (HWb.out.far (grown_set wb br 6 (.int .i64 X)) (by simpa using fun e : bw = br => hne2 e.symm)) (by omega))).ctx (by omega)) n3 (decide (X < 0)) 4
  rw [HN.out.2.1] at hf
  have HFA := hide hf
  have r6 := hRb.c6
  have rz := hRb.fz 6
  clear hCb hgb hp Ma HBa HWa HRa hX hRb hl hf Mb
  go_wp2_with fail
  refine (unhide HL).mono ?_
  rintro e w9 ⟨rfl, hww⟩
  subst w9
  go_wp2_with fail
  refine (unhide HFA).mono ?_
  rintro e wc ⟨rfl, hgc, hCc⟩
  have HBc := hide ((HBb.out.set (k := br) (.inr hge) 6 (.int .i64 X)).walk hgc)
  have hRc := ((HRb.out.setX X).far hgc (by simpa using hne2))
  have HRc := hide hRc
  have HWc := hide hCc.wk
  clear r6 rz HL HFA HBb HRb HWb
  obtain ⟨d0, d1, _, _, e1, _, _, _⟩ := hCc.wk
  clear hCc hgc hRc
  go_wp2_with fail
  have HBd := hide (HBc.out.set (k := bw) (.inl (by simp)) 1 (.int .i64 ((i : Int) + 1 + 2)))
  have HWd := hide (HWc.out.setI ((i : Int) + 1 + 2))
  have HRd := hide (HRc.out.far (grown_set _ bw 1 (.int .i64 ((i : Int) + 1 + 2))) (by simpa using hne2))
  generalize (wc.setCell ⟨bw, 1, none⟩ (.int .i64 ((i : Int) + 1 + 2))) = wd at HBd HWd HRd ⊢
  clear d0 d1 e1 HBc HWc HRc
  have Md' := H0.out.but (j := i + 3) HBd.out HWd.out (by omega)
  have hu := ctx_used (Md'.ctx (by omega)) p3
  rw [HN.out.2.2.1, HN.out.2.2.2.1] at hu
  refine hu.mono ?_
  rintro e we ⟨rfl, hge', hCe⟩
  have HBe := hide (HBd.out.walk hge')
  have hRe := HRd.out.far hge' (by simpa using hne2)
  have HRe := hide hRe
  have HWe := hide hCe.wk
  obtain ⟨d0, d1, _, _, e1, _, _, _⟩ := hCe.wk
  have r4 := hRe.c4
  have rz := hRe.fz 4
  obtain ⟨Y, hY⟩ : ∃ x, varX vars np.s = x := ⟨_, rfl⟩
  rw [hY]
  have HY := hide hY
  have hset2 := fun W o u b' o' h => cell_set W br o u b' o' h
  clear hCe hge' hu Md' HBd HWd HRd hY hRe
  go_wp2_with fail
  have HBf := hide ((HBe.out.set (k := br) (.inr hge) 4 (.int .i64 Y)).set (k := bw) (.inl (by simp)) 1 (.int .i64 ((i : Int) + 3 + 1 + 2)))
  have HWf := hide ((HWe.out.far (grown_set we br 4 (.int .i64 Y)) (by simpa using fun e : bw = br => hne2 e.symm)).setI ((i : Int) + 3 + 1 + 2))
  have HRf := hide ((HRe.out.setV Y).far (grown_set _ bw 1 (.int .i64 ((i : Int) + 3 + 1 + 2))) (by simpa using hne2))
  generalize ((we.setCell ⟨br, 4, none⟩ (.int .i64 Y)).setCell ⟨bw, 1, none⟩ (.int .i64 ((i : Int) + 3 + 1 + 2))) = wf at HBf HWf HRf ⊢
  clear d0 d1 e1 r4 rz HBe HWe HRe
  have Mf := H0.out.but (j := i + 6) HBf.out HWf.out (by omega)
  have hu2 := ctx_used (Mf.ctx (by omega)) x3
  rw [HN.out.2.2.2.2.1, HN.out.2.2.2.2.2] at hu2
  refine hu2.mono ?_
  rintro e wg ⟨rfl, hgg, hCg⟩
  have hRg := HRf.out.far hgg (by simpa using hne2)
  have r5 := hRg.c5
  have rz := hRg.fz 5
  obtain ⟨Z, hZ⟩ : ∃ x, varX vars ne.s = x := ⟨_, rfl⟩
  rw [hZ]
  have HZ := hide hZ
  have HBj := hide ((HBf.out.walk hgg).set (k := br) (.inr hge) 5 (.int .i64 Z))
  have HWj := hide (hCg.wk.far (grown_set wg br 5 (.int .i64 Z)) (by simpa using fun e : bw = br => hne2 e.symm))
  have HRj0 := hide (hRg.setW Z)
  clear hCg hgg hu2 Mf HBf HWf HRf hZ hRg
  go_wp2
  generalize (wg.setCell ⟨br, 5, none⟩ (.int .i64 Z)) = wj at HBj HWj HRj0 ⊢
  clear r5 rz
  obtain ⟨R, hR⟩ : ∃ R : PRul, R = ⟨97, [], .slice none 0 0, ⟨#[]⟩, 0, Y, Z, X⟩ := ⟨_, rfl⟩
  have HRj : Hid (Br wj br R) := by rw [hR]; exact HRj0.out
  have HPj : Hid (wj.ownsRow B 183 2 R.pv R.parts.length (partCells R.parts)) := by rw [hR]; exact World.ownsRow_nil _ _ _ _
  have HRR := hide hR
  clear HRj0 hR
  have Mj := H0.out.but (j := i + 7) HBj.out HWj.out (by omega)
  obtain ⟨r0, r1, r2, r3, r4, r5, r6, rz, rl⟩ := HRj.out
  have m3 := Mj.m3
  have mf3 := Mj.f3
  have hbl2 := Mj.tk.ltm
  have HMj := hide Mj
  have HOWN := hide (Mj.orr.kept ((World.grownBy_alloc wj (.cells #[.int .u8 R.sort, R.pv, .string R.rel, .int .i64 R.n, .int .i64 R.v, .int .i64 R.w, .int .i64 R.x] 176) none).trans (grown_drew' _ none)) (by cases vr.ownBlock with
    | none => exact .inl rfl
    | some g => exact .inr (by simp)))
  have HNEWS : Hid (∀ jj u, [Value.int .u8 R.sort, R.pv, .string R.rel, .int .i64 R.n, .int .i64 R.v, .int .i64 R.w, .int .i64 R.x][jj]? = some u → (wj.alloc (.cells #[.int .u8 R.sort, R.pv, .string R.rel, .int .i64 R.n, .int .i64 R.v, .int .i64 R.w, .int .i64 R.x] 176)).drew.cell? ((⟨wj.heap.size, 0, none⟩ : Addr).add jj) = some u) :=
    World.news_of_block (cs := #[.int .u8 R.sort, R.pv, .string R.rel, .int .i64 R.n, .int .i64 R.v, .int .i64 R.w, .int .i64 R.x]) (t := 176) (fr := (0, 0)) (heap_alloc_new wj _)
  have KEEP : Hid (∀ wA, (wj.alloc (.cells #[.int .u8 R.sort, R.pv, .string R.rel, .int .i64 R.n, .int .i64 R.v, .int .i64 R.w, .int .i64 R.x] 176)).drew.grownBy wA vr.ownBlock → wA.frozen? ⟨bm, 3, none⟩ = false ∧ wA.cell? ⟨bm, 3, none⟩ = some vr) := by
    intro wA hg
    have g0 : wj.grownBy (wj.alloc (.cells #[.int .u8 R.sort, R.pv, .string R.rel, .int .i64 R.n, .int .i64 R.v, .int .i64 R.w, .int .i64 R.x] 176)).drew none := (World.grownBy_alloc wj _ none).trans (grown_drew' _ none)
    have hlow : some bm ≠ vr.ownBlock := fun e => by have := (HMj.out.orr.lt _ e.symm).1; have := HMj.out.hbm; omega
    exact ⟨(hg.frozen_far ⟨bm, 3, none⟩ (Nat.lt_of_lt_of_le HMj.out.tk.ltm g0.size) hlow).trans ((g0.frozen_far ⟨bm, 3, none⟩ HMj.out.tk.ltm (by simp)).trans HMj.out.f3), hg.cell (g0.cell HMj.out.m3 (by simp)) hlow⟩
  have hBs : B ≤ wj.heap.size := Mj.hB
  have hrn : rules.length ≤ 2000 := by have := H0.out.lr; omega
  have HOC : Hid (R.pv.oneCell' = true) := own_one HPj.out
  clear Mj rz
  go_region_law ((refine step_append_lies _ (by rfl) _ _ 114 (by rfl) B 176 i0 (.agg #[.int .u8 0, .slice none 0 0, .string .empty, .int .i64 0, .int .i64 0, .int .i64 0, .int .i64 0]) 7 80 Tryz.underlying114 hi0 hz0 hz1 hz2 rfl (by decide) vr rules.length (rulCells rules) (by rfl) HOWN.out ⟨wj.heap.size, 0, none⟩ 1 1 [.int .u8 R.sort, R.pv, .string R.rel, .int .i64 R.n, .int .i64 R.v, .int .i64 R.w, .int .i64 R.x] (by rfl) rfl HNEWS.out (rul_one HOC.out) (by decide) (by unfold maxLen; omega) (by omega) (by simp; omega) _ rfl ?_; intro gA capA wA hownA hgrowA hatA hltA; obtain ⟨q1, q2⟩ := KEEP.out wA hgrowA))
  all_goals
    have HP := hide (HMj.out.pushRule (x := R) (by have := H0.out.lr; omega) HPj.out hownA hgrowA)
    clear HOWN HNEWS KEEP hownA hgrowA hatA hltA m3 mf3 r0 r1 r2 r3 r4 r5 r6 rl
    go_wp2
    go_end0
    refine ⟨rfl, (HBj.out.toB H0.out.hB (fun k hk => by simp at hk; simp [hk])).trans HP.out.2, ?_⟩
    have h1 := HP.out.1; rw [HRR.out, ← HX.out, ← HY.out, ← HZ.out] at h1; exact ⟨_, h1⟩
end Go.Proofs.YthpcbbnabnlanaaGreatDoor
