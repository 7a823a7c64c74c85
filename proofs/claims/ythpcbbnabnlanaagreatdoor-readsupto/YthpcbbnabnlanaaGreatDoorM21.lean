import Derived.Test.YthpcbbnabnlanaaGreatDoorM17
import Derived.Deep.RegionLaw
/-
  The reference's statement: a variable's declaration.
-/
namespace Go.Proofs.YthpcbbnabnlanaaGreatDoor
open Go.RowKit
set_option linter.unusedVariables false
set_option linter.unusedSimpArgs false
attribute [local go_sem ↓] Go.wp_at_zero Go.wp_at_succ

theorem infoVar : (Tryz.prog.info? 119).map (fun i => (i.zero, i.size, i.bytes)) = some (some (.agg #[.string .empty, .int .i64 0, .int .i64 0]), 3, 32) := by kernel_rfl

/-- the faults of a declaration -/
def varSt (vars : List PVar) (lists : List PLst) (nm lo hi : PTok) (st : FSt) : FSt :=
  flt (outB (intVal hi.s) 1000 || decide (intVal hi.s < intVal lo.s)) 5 hi.line
    (flt (outB (intVal lo.s) 1000) 5 lo.line
      (flt (decide (0 ≤ varX vars nm.s) || decide (0 ≤ lstX lists nm.s)) 4 nm.line
        (flt (decide (8 ≤ (vars.length : Int))) 6 nm.line st)))

/-- where the token at a place is known -/
theorem at_tok {toks : List PTok} {i : Nat} {t : PTok} (h : toks[i]? = some t) : peekS toks i = t.s ∧ lineAt toks i = t.line ∧ i < toks.length := by
  refine ⟨by unfold peekS; rw [h]; rfl, by unfold lineAt; rw [h]; rfl, ?_⟩
  rcases Nat.lt_or_ge i toks.length with hl | hl
  · exact hl
  · rw [List.getElem?_eq_none hl] at h; exact absurd h (by simp)

theorem shape_of {w : World} {B : Nat} {e : TypeId} {size n : Nat} {v : Value} {xs : List Value} (h : w.ownsRow B e size v n xs) : ∃ a cap, v = .slice a n cap := by
  rcases h.2 with ⟨h1, h2⟩ | ⟨g, cap, cur, rfl, _⟩
  · exact ⟨none, 0, by rw [h1, h2]⟩
  · exact ⟨_, _, rfl⟩
theorem Wk.far {w w' : World} {bw bm : Nat} {i k l : Int} {row : Option Nat} (h : Wk w bw bm i k l) (hg : w.grownBy w' row) (hne : some bw ≠ row) : Wk w' bw bm i k l :=
  ⟨hg.cell h.c0 hne, hg.cell h.c1 hne, hg.cell h.c2 hne, hg.cell h.c3 hne, (hg.frozen_far ⟨bw, 1, none⟩ h.lt hne).trans h.f1, (hg.frozen_far ⟨bw, 2, none⟩ h.lt hne).trans h.f2, (hg.frozen_far ⟨bw, 3, none⟩ h.lt hne).trans h.f3, Nat.lt_of_lt_of_le h.lt hg.size⟩

theorem var_one (a : ByteArray) (b c : Int) : ∀ u ∈ [Value.string a, .int .i64 b, .int .i64 c], u.oneCell' = true := by
  intro u hu; simp at hu; rcases hu with rfl | rfl | rfl <;> rfl
/-- the variable in the making -/
structure Bv (w : World) (bv : Nat) (s : ByteArray) (a b : Int) : Prop where
  c0 : w.cell? ⟨bv, 0, none⟩ = some (.string s)
  c1 : w.cell? ⟨bv, 1, none⟩ = some (.int .i64 a)
  c2 : w.cell? ⟨bv, 2, none⟩ = some (.int .i64 b)
  f1 : w.frozen? ⟨bv, 1, none⟩ = false
  f2 : w.frozen? ⟨bv, 2, none⟩ = false
  lt : bv < w.heap.size
theorem Bv.far {w w' : World} {bv : Nat} {s : ByteArray} {a b : Int} {row : Option Nat} (h : Bv w bv s a b) (hg : w.grownBy w' row) (hne : some bv ≠ row) : Bv w' bv s a b :=
  ⟨hg.cell h.c0 hne, hg.cell h.c1 hne, hg.cell h.c2 hne, (hg.frozen_far ⟨bv, 1, none⟩ h.lt hne).trans h.f1, (hg.frozen_far ⟨bv, 2, none⟩ h.lt hne).trans h.f2, Nat.lt_of_lt_of_le h.lt hg.size⟩
theorem Bv.set1 {w : World} {bv : Nat} {s : ByteArray} {a b : Int} (h : Bv w bv s a b) (x : Int) : Bv (w.setCell ⟨bv, 1, none⟩ (.int .i64 x)) bv s x b :=
  ⟨(cell_set _ _ _ _ _ _ (by omega)).trans h.c0, World.cell?_setCell_same _ _ _ h.c1, (cell_set _ _ _ _ _ _ (by omega)).trans h.c2, (World.frozen?_setCell _ _ _ _).trans h.f1, (World.frozen?_setCell _ _ _ _).trans h.f2, by simpa [World.setCell] using h.lt⟩
theorem Bv.set2 {w : World} {bv : Nat} {s : ByteArray} {a b : Int} (h : Bv w bv s a b) (x : Int) : Bv (w.setCell ⟨bv, 2, none⟩ (.int .i64 x)) bv s a x :=
  ⟨(cell_set _ _ _ _ _ _ (by omega)).trans h.c0, (cell_set _ _ _ _ _ _ (by omega)).trans h.c1, World.cell?_setCell_same _ _ _ h.c2, (World.frozen?_setCell _ _ _ _).trans h.f1, (World.frozen?_setCell _ _ _ _).trans h.f2, by simpa [World.setCell] using h.lt⟩
theorem bv_new (w : World) (s : ByteArray) (t : TypeId) : Bv (w.alloc (.cells #[.string s, .int .i64 0, .int .i64 0] t)) w.heap.size s 0 0 := by
  have e1 := heap_alloc_new w (.cells #[.string s, .int .i64 0, .int .i64 0] t)
  refine ⟨?_, ?_, ?_, ?_, ?_, by simp⟩
  · simp only [World.cell?, e1]; rfl
  · simp only [World.cell?, e1]; rfl
  · simp only [World.cell?, e1]; rfl
  · simp only [World.frozen?, e1]; rfl
  · simp only [World.frozen?, e1]; rfl

set_option maxRecDepth 100000 in
set_option maxHeartbeats 2000000 in
theorem ref_stVar (w0 : World) (bw bm gt capt B : Nat) (toks : List PTok) (vv vl vr : Value) (vars : List PVar) (lists : List PLst) (rules : List PRul) (i : Nat) (kind line : Int) (kw nm lo hi : PTok)
    (h : Md w0 bw bm gt capt B toks vv vl vr vars lists rules i kind line) (hk : toks[i]? = some kw) (hks : kw.s = ⟨#[118, 97, 114]⟩) (hnm : toks[i + 1]? = some nm) (hlo : toks[i + 3]? = some lo) (hloi : IsInt lo.s) (hhi : toks[i + 5]? = some hi) (hhii : IsInt hi.s) :
    Calls Tryz.prog 54 #[.pointer (some ⟨bw, 0, none⟩)] w0 fun e w' => e = .returned (.tuple #[]) ∧ ButB B [bw, bm] w0 w' ∧
      ∃ vv', Md w' bw bm gt capt B toks vv' vl vr (vars ++ [⟨nm.s, intVal lo.s, intVal hi.s⟩]) lists rules (i + 6) (varSt vars lists nm lo hi (kind, line)).1 (varSt vars lists nm lo hi (kind, line)).2 := by
  obtain ⟨i0, hi0, hz0, hz1, hz2⟩ := info_parts infoVar
  obtain ⟨k1, k2, k3⟩ := at_tok hk
  obtain ⟨n1, n2, n3⟩ := at_tok hnm
  obtain ⟨l1, l2, l3⟩ := at_tok hlo
  obtain ⟨g1, g2, g3⟩ := at_tok hhi
  have hn := h.hn
  have c0 := h.wk.c0
  have H0 := hide h
  have hC0 := h.ctx (by omega)
  have hpk := ctx_peek hC0 (by omega)
  rw [k1, hks] at hpk
  have HPK := hide hpk
  have HLI := hide hloi
  have HHI := hide hhii
  have HKK := hide (And.intro n1 (And.intro n2 (And.intro l1 (And.intro l2 (And.intro g1 g2)))))
  clear hpk h hC0 k1 k2 n1 n2 l1 l2 g1 g2 hk hnm hlo hhi hloi hhii hks
  go_enter Tryz.func54, Tryz.ntmps54
  go_wp2_with fail
  refine (unhide HPK).mono ?_
  rintro e w1 ⟨rfl, hg1, hC1⟩
  have HB1 := hide (But.of_grown (S := [bw]) hg1 (fun k e => by cases e; simp))
  have M1 := H0.out.but HB1.out hC1.wk (Nat.le_refl _)
  obtain ⟨av, capv, hvv⟩ := shape_of M1.ov
  obtain ⟨d0, d1, _, _, e1, _, _, _⟩ := hC1.wk
  have m1 := M1.m1
  have hne := M1.ne1
  have hbl := M1.tk.ltm
  have HW1 := hide hC1.wk
  rw [hvv] at m1
  have HVV := hide hvv
  have hset := fun W o u b' o' h => cell_set W bw o u b' o' h
  clear hg1 hC1 c0 HPK hvv M1
  go_wp2_with fail
  have HBa := hide ((HB1.out.set (k := bw) (.inl (by simp)) 1 (.int .i64 ((i : Int) + 1))).alloc (.cells #[.int .u8 ((ByteArray.mk #[118, 97, 114])[0].toNat : Int), .slice none 0 0, .string ⟨#[]⟩, .int .i64 0, .int .i64 0, .int .i64 0, .int .i64 0] 176))
  have HWa := hide (((HW1.out.setI ((i : Int) + 1)).far (World.grownBy_alloc _ (.cells #[.int .u8 ((ByteArray.mk #[118, 97, 114])[0].toNat : Int), .slice none 0 0, .string ⟨#[]⟩, .int .i64 0, .int .i64 0, .int .i64 0, .int .i64 0] 176) none) (by simp)))
  generalize ((w1.setCell ⟨bw, 1, none⟩ (.int .i64 ((i : Int) + 1))).alloc (.cells #[.int .u8 ((ByteArray.mk #[118, 97, 114])[0].toNat : Int), .slice none 0 0, .string ⟨#[]⟩, .int .i64 0, .int .i64 0, .int .i64 0, .int .i64 0] 176)) = wa at HBa HWa ⊢
  clear d0 d1 e1 m1 HW1 HB1
  have Ma := H0.out.but (j := i + 1) HBa.out HWa.out (by omega)
  have hf1 := ctx_fault (Ma.ctx (by omega)) n3 (decide (8 ≤ (vars.length : Int))) 6
  rw [HKK.out.2.1] at hf1
  refine hf1.mono ?_
  rintro e wb ⟨rfl, hgb, hCb⟩
  have HBb := hide (HBa.out.walk hgb)
  have Mb := H0.out.but (j := i + 1) HBb.out hCb.wk (by omega)
  have hd1 := md_declared Mb n3
  rw [HKK.out.1, HKK.out.2.1] at hd1
  have HD1 := hide hd1
  clear hd1 hCb hgb hf1 Ma Mb HBa HWa
  go_wp2_with fail
  refine (unhide HD1).mono ?_
  rintro e wc ⟨rfl, hgc, hWc⟩
  have HBc := hide (HBb.out.walk hgc)
  have HWc := hide hWc
  have hltc := hWc.lt
  obtain ⟨d0, d1, _, _, e1, _, _, _⟩ := hWc
  have hne2 : (wc.heap.size : Nat) ≠ bw := by omega
  clear hgc HD1 HBb
  go_wp2_with fail
  have HBe := hide ((HBc.out.set (k := bw) (.inl (by simp)) 1 (.int .i64 ((i : Int) + 1 + 1 + 1))).alloc (.cells #[.string nm.s, .int .i64 0, .int .i64 0] 119))
  have HWe := hide ((HWc.out.setI ((i : Int) + 1 + 1 + 1)).far (World.grownBy_alloc _ (.cells #[.string nm.s, .int .i64 0, .int .i64 0] 119) none) (by simp))
  have HVe := hide (bv_new (wc.setCell ⟨bw, 1, none⟩ (.int .i64 ((i : Int) + 1 + 1 + 1))) nm.s 119)
  have hszc : (wc.setCell ⟨bw, 1, none⟩ (.int .i64 ((i : Int) + 1 + 1 + 1))).heap.size = wc.heap.size := by simp [World.setCell]
  rw [hszc] at HVe
  have hge : w0.heap.size ≤ wc.heap.size := HBc.out.size
  generalize ((wc.setCell ⟨bw, 1, none⟩ (.int .i64 ((i : Int) + 1 + 1 + 1))).alloc (.cells #[.string nm.s, .int .i64 0, .int .i64 0] 119)) = we at HBe HWe HVe ⊢
  clear hszc
  generalize wc.heap.size = bv at hne2 hge HVe hltc ⊢
  clear d0 d1 e1 HWc HBc
  have Me := H0.out.but (j := i + 3) HBe.out HWe.out (by omega)
  have hb1 := ctx_bounded (Me.ctx (by omega)) l3 1000 (by omega) (by omega) (by rw [HKK.out.2.2.1]; exact HLI.out)
  rw [HKK.out.2.2.1, HKK.out.2.2.2.1] at hb1
  refine hb1.mono ?_
  rintro e wf ⟨rfl, hgf, hCf⟩
  have HBf := hide (HBe.out.walk hgf)
  have hVf := HVe.out.far hgf (by simpa using hne2)
  have HVf := hide hVf
  have HWf := hide hCf.wk
  obtain ⟨d0, d1, _, _, e1, _, _, _⟩ := hCf.wk
  obtain ⟨v0, v1, v2, vf1, vf2, _⟩ := hVf
  obtain ⟨LO, hLO⟩ : ∃ x, intVal lo.s = x := ⟨_, rfl⟩
  rw [hLO]
  have HLO := hide hLO
  have hset2 := fun W o u b' o' h => cell_set W bv o u b' o' h
  clear hCf hgf hb1 Me HBe HWe HVe hLO
  go_wp2_with fail
  have HBg := hide ((HBf.out.set (k := bv) (.inr hge) 1 (.int .i64 LO)).set (k := bw) (.inl (by simp)) 1 (.int .i64 ((i : Int) + 3 + 1 + 1)))
  have HWg := hide ((HWf.out.far (grown_set wf bv 1 (.int .i64 LO)) (by simpa using fun e : bw = bv => hne2 e.symm)).setI ((i : Int) + 3 + 1 + 1))
  have HVg := hide ((HVf.out.set1 LO).far (grown_set _ bw 1 (.int .i64 ((i : Int) + 3 + 1 + 1))) (by simpa using hne2))
  generalize ((wf.setCell ⟨bv, 1, none⟩ (.int .i64 LO)).setCell ⟨bw, 1, none⟩ (.int .i64 ((i : Int) + 3 + 1 + 1))) = wg at HBg HWg HVg ⊢
  clear d0 d1 e1 v0 v1 v2 vf1 vf2 HBf HWf HVf
  have Mg := H0.out.but (j := i + 5) HBg.out HWg.out (by omega)
  have hp2 := ctx_peek (Mg.ctx (by omega)) (by omega)
  rw [HKK.out.2.2.2.2.1] at hp2
  refine hp2.mono ?_
  rintro e wh ⟨rfl, hgh, hCh⟩
  have HBh := hide (HBg.out.walk hgh)
  have hVh := HVg.out.far hgh (by simpa using hne2)
  have HVh := hide hVh
  have Mh := H0.out.but (j := i + 5) HBh.out hCh.wk (by omega)
  have HMh := hide Mh
  have v1 := hVh.c1
  have hnu := ref_number hi.s HHI.out wh
  obtain ⟨HV, hHV⟩ : ∃ x, intVal hi.s = x := ⟨_, rfl⟩
  rw [hHV] at hnu
  have HNU := hide hnu
  have HHV := hide hHV
  have HSTF : Hid (varSt vars lists nm lo hi (kind, line) = flt (outB HV 1000 || decide (HV < LO)) 5 hi.line
    (flt (outB LO 1000) 5 lo.line (flt (decide (0 ≤ varX vars nm.s) || decide (0 ≤ lstX lists nm.s)) 4 nm.line (flt (decide (8 ≤ (vars.length : Int))) 6 nm.line (kind, line))))) := by
    unfold Hid varSt; rw [HLO.out, HHV.out]
  rw [HLO.out] at HMh
  clear hCh hgh hp2 Mg HBg HWg HVg hHV hnu Mh hVh
  go_wp2_with fail
  refine (unhide HNU).mono ?_
  rintro e w9 ⟨rfl, hww⟩
  subst w9
  by_cases b1 : HV < -1000
  · have t1 : decide (HV < -1000) = true := by simpa using b1
    have HT : Hid ((outB HV 1000 || decide (HV < LO)) = true) := by unfold Hid outB; simp [b1]
    go_wp2_with fail
    have hf3 := ctx_fault (HMh.out.ctx (by omega)) g3 true 5
    rw [HKK.out.2.2.2.2.2] at hf3
    refine hf3.mono ?_
    rintro e wi ⟨rfl, hgi, hCi⟩
    have HBi := hide (HBh.out.walk hgi)
    have hVi := HVh.out.far hgi (by simpa using hne2)
    have HVi := hide hVi
    have HWi := hide hCi.wk
    obtain ⟨d0, d1, _, _, e1, _, _, _⟩ := hCi.wk
    obtain ⟨v0, v1', v2, vf1, vf2, _⟩ := hVi
    clear hCi hgi hf3 v1
    go_wp2
    have HBj := hide ((HBi.out.set (k := bw) (.inl (by simp)) 1 (.int .i64 ((i : Int) + 5 + 1))).set (k := bv) (.inr hge) 2 (.int .i64 HV))
    have HWj := hide ((HWi.out.setI ((i : Int) + 5 + 1)).far (grown_set _ bv 2 (.int .i64 HV)) (by simpa using fun e : bw = bv => hne2 e.symm))
    have HVj := hide ((HVi.out.far (grown_set wi bw 1 (.int .i64 ((i : Int) + 5 + 1))) (by simpa using hne2)).set2 HV)
    generalize ((wi.setCell ⟨bw, 1, none⟩ (.int .i64 ((i : Int) + 5 + 1))).setCell ⟨bv, 2, none⟩ (.int .i64 HV)) = wj at HBj HWj HVj ⊢
    clear d0 d1 e1 v0 v1' v2 vf1 vf2 HBi HWi HVi
    have Mj := H0.out.but (j := i + 6) HBj.out HWj.out (by omega)
    obtain ⟨v0, v1, v2, vf1, vf2, hvl⟩ := HVj.out
    have m1 := Mj.m1
    have mf1 := Mj.f1
    have hbl2 := Mj.tk.ltm
    have HMj := hide Mj
    have HOWN := hide (Mj.ov.kept ((World.grownBy_alloc wj (.cells #[.string nm.s, .int .i64 LO, .int .i64 HV] 119) none).trans (grown_drew' _ none)) (by cases vv.ownBlock with
      | none => exact .inl rfl
      | some g => exact .inr (by simp)))
    have HNEWS : Hid (∀ jj u, [Value.string nm.s, .int .i64 LO, .int .i64 HV][jj]? = some u → (wj.alloc (.cells #[.string nm.s, .int .i64 LO, .int .i64 HV] 119)).drew.cell? ((⟨wj.heap.size, 0, none⟩ : Addr).add jj) = some u) :=
      World.news_of_block (cs := #[.string nm.s, .int .i64 LO, .int .i64 HV]) (t := 119) (fr := (0, 0)) (heap_alloc_new wj _)
    have KEEP : Hid (∀ wA, (wj.alloc (.cells #[.string nm.s, .int .i64 LO, .int .i64 HV] 119)).drew.grownBy wA vv.ownBlock → wA.frozen? ⟨bm, 1, none⟩ = false ∧ wA.cell? ⟨bm, 1, none⟩ = some vv) := by
      intro wA hg
      have g0 : wj.grownBy (wj.alloc (.cells #[.string nm.s, .int .i64 LO, .int .i64 HV] 119)).drew none := (World.grownBy_alloc wj _ none).trans (grown_drew' _ none)
      have hlow : some bm ≠ vv.ownBlock := fun e => by have := (HMj.out.ov.lt _ e.symm).1; have := HMj.out.hbm; omega
      exact ⟨(hg.frozen_far ⟨bm, 1, none⟩ (Nat.lt_of_lt_of_le HMj.out.tk.ltm g0.size) hlow).trans ((g0.frozen_far ⟨bm, 1, none⟩ HMj.out.tk.ltm (by simp)).trans HMj.out.f1), hg.cell (g0.cell HMj.out.m1 (by simp)) hlow⟩
    have hBs : B ≤ wj.heap.size := Mj.hB
    have hvn : vars.length ≤ 2000 := by have := H0.out.lv; omega
    clear Mj
    go_region_law ((refine step_append_lies _ (by rfl) _ _ 112 (by rfl) B 119 i0 (.agg #[.string .empty, .int .i64 0, .int .i64 0]) 3 32 Tryz.underlying112 hi0 hz0 hz1 hz2 rfl (by decide) vv vars.length (varCells vars) (by rfl) HOWN.out ⟨wj.heap.size, 0, none⟩ 1 1 [.string nm.s, .int .i64 LO, .int .i64 HV] (by rfl) rfl HNEWS.out (var_one _ _ _) (by decide) (by unfold maxLen; omega) (by omega) (by simp; omega) _ rfl ?_; intro gA capA wA hownA hgrowA hatA hltA; obtain ⟨q1, q2⟩ := KEEP.out wA hgrowA))
    all_goals
      have HP := hide (HMj.out.pushVar (x := ⟨nm.s, LO, HV⟩) (by have := H0.out.lv; omega) hownA hgrowA)
      clear HOWN HNEWS KEEP hownA hgrowA hatA hltA m1 mf1 v0 v1 v2 vf1 vf2
      go_wp2
      refine bodyPost_ret (results_none (by first | rfl | kernel_rfl) _ _ _) rfl ?_
      rw [HLO.out, HHV.out, HSTF.out, HT.out]
      exact ⟨rfl, (HBj.out.toB H0.out.hB (fun k hk => by simp at hk; simp [hk])).trans HP.out.2, _, HP.out.1⟩
  · have t1 : decide (HV < -1000) = false := by simpa using b1
    by_cases b2 : 1000 < HV
    · have t2 : decide (1000 < HV) = true := by simpa using b2
      have HT : Hid ((outB HV 1000 || decide (HV < LO)) = true) := by unfold Hid outB; simp [b2]
      go_wp2_with fail
      have hf3 := ctx_fault (HMh.out.ctx (by omega)) g3 true 5
      rw [HKK.out.2.2.2.2.2] at hf3
      refine hf3.mono ?_
      rintro e wi ⟨rfl, hgi, hCi⟩
      have HBi := hide (HBh.out.walk hgi)
      have hVi := HVh.out.far hgi (by simpa using hne2)
      have HVi := hide hVi
      have HWi := hide hCi.wk
      obtain ⟨d0, d1, _, _, e1, _, _, _⟩ := hCi.wk
      obtain ⟨v0, v1', v2, vf1, vf2, _⟩ := hVi
      clear hCi hgi hf3 v1
      go_wp2
      have HBj := hide ((HBi.out.set (k := bw) (.inl (by simp)) 1 (.int .i64 ((i : Int) + 5 + 1))).set (k := bv) (.inr hge) 2 (.int .i64 HV))
      have HWj := hide ((HWi.out.setI ((i : Int) + 5 + 1)).far (grown_set _ bv 2 (.int .i64 HV)) (by simpa using fun e : bw = bv => hne2 e.symm))
      have HVj := hide ((HVi.out.far (grown_set wi bw 1 (.int .i64 ((i : Int) + 5 + 1))) (by simpa using hne2)).set2 HV)
      generalize ((wi.setCell ⟨bw, 1, none⟩ (.int .i64 ((i : Int) + 5 + 1))).setCell ⟨bv, 2, none⟩ (.int .i64 HV)) = wj at HBj HWj HVj ⊢
      clear d0 d1 e1 v0 v1' v2 vf1 vf2 HBi HWi HVi
      have Mj := H0.out.but (j := i + 6) HBj.out HWj.out (by omega)
      obtain ⟨v0, v1, v2, vf1, vf2, hvl⟩ := HVj.out
      have m1 := Mj.m1
      have mf1 := Mj.f1
      have hbl2 := Mj.tk.ltm
      have HMj := hide Mj
      have HOWN := hide (Mj.ov.kept ((World.grownBy_alloc wj (.cells #[.string nm.s, .int .i64 LO, .int .i64 HV] 119) none).trans (grown_drew' _ none)) (by cases vv.ownBlock with
        | none => exact .inl rfl
        | some g => exact .inr (by simp)))
      have HNEWS : Hid (∀ jj u, [Value.string nm.s, .int .i64 LO, .int .i64 HV][jj]? = some u → (wj.alloc (.cells #[.string nm.s, .int .i64 LO, .int .i64 HV] 119)).drew.cell? ((⟨wj.heap.size, 0, none⟩ : Addr).add jj) = some u) :=
        World.news_of_block (cs := #[.string nm.s, .int .i64 LO, .int .i64 HV]) (t := 119) (fr := (0, 0)) (heap_alloc_new wj _)
      have KEEP : Hid (∀ wA, (wj.alloc (.cells #[.string nm.s, .int .i64 LO, .int .i64 HV] 119)).drew.grownBy wA vv.ownBlock → wA.frozen? ⟨bm, 1, none⟩ = false ∧ wA.cell? ⟨bm, 1, none⟩ = some vv) := by
        intro wA hg
        have g0 : wj.grownBy (wj.alloc (.cells #[.string nm.s, .int .i64 LO, .int .i64 HV] 119)).drew none := (World.grownBy_alloc wj _ none).trans (grown_drew' _ none)
        have hlow : some bm ≠ vv.ownBlock := fun e => by have := (HMj.out.ov.lt _ e.symm).1; have := HMj.out.hbm; omega
        exact ⟨(hg.frozen_far ⟨bm, 1, none⟩ (Nat.lt_of_lt_of_le HMj.out.tk.ltm g0.size) hlow).trans ((g0.frozen_far ⟨bm, 1, none⟩ HMj.out.tk.ltm (by simp)).trans HMj.out.f1), hg.cell (g0.cell HMj.out.m1 (by simp)) hlow⟩
      have hBs : B ≤ wj.heap.size := Mj.hB
      have hvn : vars.length ≤ 2000 := by have := H0.out.lv; omega
      clear Mj
      go_region_law ((refine step_append_lies _ (by rfl) _ _ 112 (by rfl) B 119 i0 (.agg #[.string .empty, .int .i64 0, .int .i64 0]) 3 32 Tryz.underlying112 hi0 hz0 hz1 hz2 rfl (by decide) vv vars.length (varCells vars) (by rfl) HOWN.out ⟨wj.heap.size, 0, none⟩ 1 1 [.string nm.s, .int .i64 LO, .int .i64 HV] (by rfl) rfl HNEWS.out (var_one _ _ _) (by decide) (by unfold maxLen; omega) (by omega) (by simp; omega) _ rfl ?_; intro gA capA wA hownA hgrowA hatA hltA; obtain ⟨q1, q2⟩ := KEEP.out wA hgrowA))
      all_goals
        have HP := hide (HMj.out.pushVar (x := ⟨nm.s, LO, HV⟩) (by have := H0.out.lv; omega) hownA hgrowA)
        clear HOWN HNEWS KEEP hownA hgrowA hatA hltA m1 mf1 v0 v1 v2 vf1 vf2
        go_wp2
        refine bodyPost_ret (results_none (by first | rfl | kernel_rfl) _ _ _) rfl ?_
        rw [HLO.out, HHV.out, HSTF.out, HT.out]
        exact ⟨rfl, (HBj.out.toB H0.out.hB (fun k hk => by simp at hk; simp [hk])).trans HP.out.2, _, HP.out.1⟩
    · have t2 : decide (1000 < HV) = false := by simpa using b2
      by_cases b3 : HV < LO
      · have t3 : decide (HV < LO) = true := by simpa using b3
        have HT : Hid ((outB HV 1000 || decide (HV < LO)) = true) := by unfold Hid; simp [b3]
        go_wp2_with fail
        have hf3 := ctx_fault (HMh.out.ctx (by omega)) g3 true 5
        rw [HKK.out.2.2.2.2.2] at hf3
        refine hf3.mono ?_
        rintro e wi ⟨rfl, hgi, hCi⟩
        have HBi := hide (HBh.out.walk hgi)
        have hVi := HVh.out.far hgi (by simpa using hne2)
        have HVi := hide hVi
        have HWi := hide hCi.wk
        obtain ⟨d0, d1, _, _, e1, _, _, _⟩ := hCi.wk
        obtain ⟨v0, v1', v2, vf1, vf2, _⟩ := hVi
        clear hCi hgi hf3 v1
        go_wp2
        have HBj := hide ((HBi.out.set (k := bw) (.inl (by simp)) 1 (.int .i64 ((i : Int) + 5 + 1))).set (k := bv) (.inr hge) 2 (.int .i64 HV))
        have HWj := hide ((HWi.out.setI ((i : Int) + 5 + 1)).far (grown_set _ bv 2 (.int .i64 HV)) (by simpa using fun e : bw = bv => hne2 e.symm))
        have HVj := hide ((HVi.out.far (grown_set wi bw 1 (.int .i64 ((i : Int) + 5 + 1))) (by simpa using hne2)).set2 HV)
        generalize ((wi.setCell ⟨bw, 1, none⟩ (.int .i64 ((i : Int) + 5 + 1))).setCell ⟨bv, 2, none⟩ (.int .i64 HV)) = wj at HBj HWj HVj ⊢
        clear d0 d1 e1 v0 v1' v2 vf1 vf2 HBi HWi HVi
        have Mj := H0.out.but (j := i + 6) HBj.out HWj.out (by omega)
        obtain ⟨v0, v1, v2, vf1, vf2, hvl⟩ := HVj.out
        have m1 := Mj.m1
        have mf1 := Mj.f1
        have hbl2 := Mj.tk.ltm
        have HMj := hide Mj
        have HOWN := hide (Mj.ov.kept ((World.grownBy_alloc wj (.cells #[.string nm.s, .int .i64 LO, .int .i64 HV] 119) none).trans (grown_drew' _ none)) (by cases vv.ownBlock with
          | none => exact .inl rfl
          | some g => exact .inr (by simp)))
        have HNEWS : Hid (∀ jj u, [Value.string nm.s, .int .i64 LO, .int .i64 HV][jj]? = some u → (wj.alloc (.cells #[.string nm.s, .int .i64 LO, .int .i64 HV] 119)).drew.cell? ((⟨wj.heap.size, 0, none⟩ : Addr).add jj) = some u) :=
          World.news_of_block (cs := #[.string nm.s, .int .i64 LO, .int .i64 HV]) (t := 119) (fr := (0, 0)) (heap_alloc_new wj _)
        have KEEP : Hid (∀ wA, (wj.alloc (.cells #[.string nm.s, .int .i64 LO, .int .i64 HV] 119)).drew.grownBy wA vv.ownBlock → wA.frozen? ⟨bm, 1, none⟩ = false ∧ wA.cell? ⟨bm, 1, none⟩ = some vv) := by
          intro wA hg
          have g0 : wj.grownBy (wj.alloc (.cells #[.string nm.s, .int .i64 LO, .int .i64 HV] 119)).drew none := (World.grownBy_alloc wj _ none).trans (grown_drew' _ none)
          have hlow : some bm ≠ vv.ownBlock := fun e => by have := (HMj.out.ov.lt _ e.symm).1; have := HMj.out.hbm; omega
          exact ⟨(hg.frozen_far ⟨bm, 1, none⟩ (Nat.lt_of_lt_of_le HMj.out.tk.ltm g0.size) hlow).trans ((g0.frozen_far ⟨bm, 1, none⟩ HMj.out.tk.ltm (by simp)).trans HMj.out.f1), hg.cell (g0.cell HMj.out.m1 (by simp)) hlow⟩
        have hBs : B ≤ wj.heap.size := Mj.hB
        have hvn : vars.length ≤ 2000 := by have := H0.out.lv; omega
        clear Mj
        go_region_law ((refine step_append_lies _ (by rfl) _ _ 112 (by rfl) B 119 i0 (.agg #[.string .empty, .int .i64 0, .int .i64 0]) 3 32 Tryz.underlying112 hi0 hz0 hz1 hz2 rfl (by decide) vv vars.length (varCells vars) (by rfl) HOWN.out ⟨wj.heap.size, 0, none⟩ 1 1 [.string nm.s, .int .i64 LO, .int .i64 HV] (by rfl) rfl HNEWS.out (var_one _ _ _) (by decide) (by unfold maxLen; omega) (by omega) (by simp; omega) _ rfl ?_; intro gA capA wA hownA hgrowA hatA hltA; obtain ⟨q1, q2⟩ := KEEP.out wA hgrowA))
        all_goals
          have HP := hide (HMj.out.pushVar (x := ⟨nm.s, LO, HV⟩) (by have := H0.out.lv; omega) hownA hgrowA)
          clear HOWN HNEWS KEEP hownA hgrowA hatA hltA m1 mf1 v0 v1 v2 vf1 vf2
          go_wp2
          refine bodyPost_ret (results_none (by first | rfl | kernel_rfl) _ _ _) rfl ?_
          rw [HLO.out, HHV.out, HSTF.out, HT.out]
          exact ⟨rfl, (HBj.out.toB H0.out.hB (fun k hk => by simp at hk; simp [hk])).trans HP.out.2, _, HP.out.1⟩
      · have t3 : decide (HV < LO) = false := by simpa using b3
        have HT : Hid ((outB HV 1000 || decide (HV < LO)) = false) := by unfold Hid outB; simp; omega
        go_wp2_with fail
        have hf3 := ctx_fault (HMh.out.ctx (by omega)) g3 false 5
        rw [HKK.out.2.2.2.2.2] at hf3
        refine hf3.mono ?_
        rintro e wi ⟨rfl, hgi, hCi⟩
        have HBi := hide (HBh.out.walk hgi)
        have hVi := HVh.out.far hgi (by simpa using hne2)
        have HVi := hide hVi
        have HWi := hide hCi.wk
        obtain ⟨d0, d1, _, _, e1, _, _, _⟩ := hCi.wk
        obtain ⟨v0, v1', v2, vf1, vf2, _⟩ := hVi
        clear hCi hgi hf3 v1
        go_wp2
        have HBj := hide ((HBi.out.set (k := bw) (.inl (by simp)) 1 (.int .i64 ((i : Int) + 5 + 1))).set (k := bv) (.inr hge) 2 (.int .i64 HV))
        have HWj := hide ((HWi.out.setI ((i : Int) + 5 + 1)).far (grown_set _ bv 2 (.int .i64 HV)) (by simpa using fun e : bw = bv => hne2 e.symm))
        have HVj := hide ((HVi.out.far (grown_set wi bw 1 (.int .i64 ((i : Int) + 5 + 1))) (by simpa using hne2)).set2 HV)
        generalize ((wi.setCell ⟨bw, 1, none⟩ (.int .i64 ((i : Int) + 5 + 1))).setCell ⟨bv, 2, none⟩ (.int .i64 HV)) = wj at HBj HWj HVj ⊢
        clear d0 d1 e1 v0 v1' v2 vf1 vf2 HBi HWi HVi
        have Mj := H0.out.but (j := i + 6) HBj.out HWj.out (by omega)
        obtain ⟨v0, v1, v2, vf1, vf2, hvl⟩ := HVj.out
        have m1 := Mj.m1
        have mf1 := Mj.f1
        have hbl2 := Mj.tk.ltm
        have HMj := hide Mj
        have HOWN := hide (Mj.ov.kept ((World.grownBy_alloc wj (.cells #[.string nm.s, .int .i64 LO, .int .i64 HV] 119) none).trans (grown_drew' _ none)) (by cases vv.ownBlock with
          | none => exact .inl rfl
          | some g => exact .inr (by simp)))
        have HNEWS : Hid (∀ jj u, [Value.string nm.s, .int .i64 LO, .int .i64 HV][jj]? = some u → (wj.alloc (.cells #[.string nm.s, .int .i64 LO, .int .i64 HV] 119)).drew.cell? ((⟨wj.heap.size, 0, none⟩ : Addr).add jj) = some u) :=
          World.news_of_block (cs := #[.string nm.s, .int .i64 LO, .int .i64 HV]) (t := 119) (fr := (0, 0)) (heap_alloc_new wj _)
        have KEEP : Hid (∀ wA, (wj.alloc (.cells #[.string nm.s, .int .i64 LO, .int .i64 HV] 119)).drew.grownBy wA vv.ownBlock → wA.frozen? ⟨bm, 1, none⟩ = false ∧ wA.cell? ⟨bm, 1, none⟩ = some vv) := by
          intro wA hg
          have g0 : wj.grownBy (wj.alloc (.cells #[.string nm.s, .int .i64 LO, .int .i64 HV] 119)).drew none := (World.grownBy_alloc wj _ none).trans (grown_drew' _ none)
          have hlow : some bm ≠ vv.ownBlock := fun e => by have := (HMj.out.ov.lt _ e.symm).1; have := HMj.out.hbm; omega
          exact ⟨(hg.frozen_far ⟨bm, 1, none⟩ (Nat.lt_of_lt_of_le HMj.out.tk.ltm g0.size) hlow).trans ((g0.frozen_far ⟨bm, 1, none⟩ HMj.out.tk.ltm (by simp)).trans HMj.out.f1), hg.cell (g0.cell HMj.out.m1 (by simp)) hlow⟩
        have hBs : B ≤ wj.heap.size := Mj.hB
        have hvn : vars.length ≤ 2000 := by have := H0.out.lv; omega
        clear Mj
        go_region_law ((refine step_append_lies _ (by rfl) _ _ 112 (by rfl) B 119 i0 (.agg #[.string .empty, .int .i64 0, .int .i64 0]) 3 32 Tryz.underlying112 hi0 hz0 hz1 hz2 rfl (by decide) vv vars.length (varCells vars) (by rfl) HOWN.out ⟨wj.heap.size, 0, none⟩ 1 1 [.string nm.s, .int .i64 LO, .int .i64 HV] (by rfl) rfl HNEWS.out (var_one _ _ _) (by decide) (by unfold maxLen; omega) (by omega) (by simp; omega) _ rfl ?_; intro gA capA wA hownA hgrowA hatA hltA; obtain ⟨q1, q2⟩ := KEEP.out wA hgrowA))
        all_goals
          have HP := hide (HMj.out.pushVar (x := ⟨nm.s, LO, HV⟩) (by have := H0.out.lv; omega) hownA hgrowA)
          clear HOWN HNEWS KEEP hownA hgrowA hatA hltA m1 mf1 v0 v1 v2 vf1 vf2
          go_wp2
          refine bodyPost_ret (results_none (by first | rfl | kernel_rfl) _ _ _) rfl ?_
          rw [HLO.out, HHV.out, HSTF.out, HT.out]
          exact ⟨rfl, (HBj.out.toB H0.out.hB (fun k hk => by simp at hk; simp [hk])).trans HP.out.2, _, HP.out.1⟩
end Go.Proofs.YthpcbbnabnlanaaGreatDoor

/-
  The reference's statement: constraints: the rule in the making, and where it is put behind the others.
-/
namespace Go.Proofs.YthpcbbnabnlanaaGreatDoor
open Go.RowKit
set_option linter.unusedVariables false
section
variable {w w' w0 : World} {bw bm gt capt B : Nat} {toks : List PTok} {vv vl vr : Value} {vars : List PVar} {lists : List PLst} {rules : List PRul} {i : Nat} {kind line : Int}
/-- a rule more: behind the append and the store of the new slice -/
theorem Md.pushRule (h : Md w bw bm gt capt B toks vv vl vr vars lists rules i kind line) {o : Obj} {wA : World} {v' : Value} {x : PRul} (hi : rules.length + 1 ≤ i) (hp : w.ownsRow B 183 2 x.pv x.parts.length (partCells x.parts))
    (hown : wA.ownsRow B 176 7 v' (rules.length + 1) (rulCells rules ++ [.int .u8 x.sort, x.pv, .string x.rel, .int .i64 x.n, .int .i64 x.v, .int .i64 x.w, .int .i64 x.x])) (hg : (w.alloc o).drew.grownBy wA vr.ownBlock) :
    Md (wA.setCell ⟨bm, 3, none⟩ v') bw bm gt capt B toks vv vl v' vars lists (rules ++ [x]) i kind line ∧ ButB B [bw, bm] w (wA.setCell ⟨bm, 3, none⟩ v') := by
  have g0 : w.grownBy (w.alloc o).drew none := (World.grownBy_alloc w o none).trans (grown_drew' _ none)
  have gs := grown_set wA bm 3 v'
  have hlow : ∀ b, b < B → some b ≠ vr.ownBlock := fun b hb e => by have := (h.orr.lt _ e.symm).1; omega
  have nn : ∀ {v : Value}, v.ownBlock = none ∨ v.ownBlock ≠ none := fun {v} => by cases v.ownBlock with
    | none => exact .inl rfl
    | some g => exact .inr (by simp)
  have keep : ∀ {e : TypeId} {s n : Nat} {v : Value} {xs : List Value}, w.ownsRow B e s v n xs → e ≠ 176 → (wA.setCell ⟨bm, 3, none⟩ v').ownsRow B e s v n xs := fun {e s n v xs} ho he =>
    have h1 := ho.kept g0 nn
    have h2 := h1.kept hg (own_ne ho h.orr he)
    h2.kept gs (own_ne_low h2 h.hbm)
  have cell : ∀ b q u, b < B → b ≠ bm → w.cell? ⟨b, q, none⟩ = some u → (wA.setCell ⟨bm, 3, none⟩ v').cell? ⟨b, q, none⟩ = some u := fun b q u hb hn hu =>
    gs.cell (hg.cell (g0.cell hu (by simp)) (hlow b hb)) (by simpa using hn)
  have cellm : ∀ q u, q ≠ 3 → w.cell? ⟨bm, q, none⟩ = some u → (wA.setCell ⟨bm, 3, none⟩ v').cell? ⟨bm, q, none⟩ = some u := fun q u hq hu =>
    (cell_set _ _ _ _ _ _ (.inr hq)).trans (hg.cell (g0.cell hu (by simp)) (hlow bm h.hbm))
  have hsz : w.heap.size ≤ wA.heap.size := Nat.le_trans g0.size hg.size
  have frA : ∀ q, wA.frozen? ⟨bm, q, none⟩ = w.frozen? ⟨bm, q, none⟩ := fun q =>
    (hg.frozen_far ⟨bm, q, none⟩ (Nat.lt_of_lt_of_le h.tk.ltm g0.size) (hlow bm h.hbm)).trans (g0.frozen_far ⟨bm, q, none⟩ h.tk.ltm (by simp))
  have fr : ∀ q, (wA.setCell ⟨bm, 3, none⟩ v').frozen? ⟨bm, q, none⟩ = w.frozen? ⟨bm, q, none⟩ := fun q => (World.frozen?_setCell _ _ _ _).trans (frA q)
  have hwk : Wk (wA.setCell ⟨bm, 3, none⟩ v') bw bm i kind line := by
    have n1 := hlow bw h.hbw
    have n2 : some bw ≠ some bm := by simpa using fun e : bw = bm => h.ne1 e.symm
    have f0 : ∀ q, (wA.setCell ⟨bm, 3, none⟩ v').frozen? ⟨bw, q, none⟩ = w.frozen? ⟨bw, q, none⟩ := fun q =>
      (World.frozen?_setCell _ _ _ _).trans ((hg.frozen_far ⟨bw, q, none⟩ (Nat.lt_of_lt_of_le h.wk.lt g0.size) n1).trans (g0.frozen_far ⟨bw, q, none⟩ h.wk.lt (by simp)))
    exact ⟨cell bw 0 _ h.hbw (fun e => h.ne1 e.symm) h.wk.c0, cell bw 1 _ h.hbw (fun e => h.ne1 e.symm) h.wk.c1, cell bw 2 _ h.hbw (fun e => h.ne1 e.symm) h.wk.c2, cell bw 3 _ h.hbw (fun e => h.ne1 e.symm) h.wk.c3,
      (f0 1).trans h.wk.f1, (f0 2).trans h.wk.f2, (f0 3).trans h.wk.f3, by have := h.wk.lt; simp [World.setCell]; omega⟩
  have hszs : (wA.setCell ⟨bm, 3, none⟩ v').heap.size = wA.heap.size := by simp [World.setCell]
  refine ⟨⟨hwk, ⟨cellm 0 _ (by omega) h.tk.m0, fun j u hu => cell gt j u h.hgt h.ne3 (h.tk.row j u hu), by have := h.tk.ltm; omega, by have := h.tk.ltg; omega⟩, cellm 1 _ (by omega) h.m1, cellm 2 _ (by omega) h.m2, ?_, (fr 1).trans h.f1, (fr 2).trans h.f2, (fr 3).trans h.f3, keep h.ov (by decide),
    keep h.ol (by decide), ?_, fun l hl => keep (h.li l hl) (by decide), fun r hr => ?_, h.ne1, h.ne2, h.ne3, h.hbw, h.hbm, h.hgt, by have := h.hB; omega, h.hn, h.lv, h.ll, by simp; omega⟩, ?_⟩
  · exact World.cell?_setCell_same _ _ _ (hg.cell (g0.cell h.m3 (by simp)) (hlow bm h.hbm))
  · rw [rulCells_snoc, List.length_append]
    exact hown.kept gs (own_ne_low hown h.hbm)
  · rcases List.mem_append.1 hr with hr | hr
    · exact keep (h.ri r hr) (by decide)
    · obtain rfl : r = x := by simpa using hr
      exact keep hp (by decide)
  · refine (((ButB.refl B [bw, bm] w).grown g0 h.hB (fun _ e => by cases e)).grown hg (by have := h.hB; have := g0.size; omega) (fun k e => .inr ((h.orr.lt _ e).1))).grown gs (by have := h.hB; omega) (fun k e => by cases e; exact .inl (by simp))
end
/-- the rule in the making (block br), whole -/
structure Br (w : World) (br : Nat) (r : PRul) : Prop where
  c0 : w.cell? ⟨br, 0, none⟩ = some (.int .u8 r.sort)
  c1 : w.cell? ⟨br, 1, none⟩ = some r.pv
  c2 : w.cell? ⟨br, 2, none⟩ = some (.string r.rel)
  c3 : w.cell? ⟨br, 3, none⟩ = some (.int .i64 r.n)
  c4 : w.cell? ⟨br, 4, none⟩ = some (.int .i64 r.v)
  c5 : w.cell? ⟨br, 5, none⟩ = some (.int .i64 r.w)
  c6 : w.cell? ⟨br, 6, none⟩ = some (.int .i64 r.x)
  fz : ∀ q, w.frozen? ⟨br, q, none⟩ = false
  lt : br < w.heap.size
theorem Br.far {w w' : World} {br : Nat} {r : PRul} {row : Option Nat} (h : Br w br r) (hg : w.grownBy w' row) (hne : some br ≠ row) : Br w' br r :=
  ⟨hg.cell h.c0 hne, hg.cell h.c1 hne, hg.cell h.c2 hne, hg.cell h.c3 hne, hg.cell h.c4 hne, hg.cell h.c5 hne, hg.cell h.c6 hne, fun q => (hg.frozen_far ⟨br, q, none⟩ h.lt hne).trans (h.fz q), Nat.lt_of_lt_of_le h.lt hg.size⟩
theorem br_new (w : World) (s : Int) (t : TypeId) : Br (w.alloc (.cells #[.int .u8 s, .slice none 0 0, .string ⟨#[]⟩, .int .i64 0, .int .i64 0, .int .i64 0, .int .i64 0] t)) w.heap.size ⟨s, [], .slice none 0 0, ⟨#[]⟩, 0, 0, 0, 0⟩ := by
  have e1 := heap_alloc_new w (.cells #[.int .u8 s, .slice none 0 0, .string ⟨#[]⟩, .int .i64 0, .int .i64 0, .int .i64 0, .int .i64 0] t)
  refine ⟨?_, ?_, ?_, ?_, ?_, ?_, ?_, fun q => ?_, by simp⟩
  · simp only [World.cell?, e1]; rfl
  · simp only [World.cell?, e1]; rfl
  · simp only [World.cell?, e1]; rfl
  · simp only [World.cell?, e1]; rfl
  · simp only [World.cell?, e1]; rfl
  · simp only [World.cell?, e1]; rfl
  · simp only [World.cell?, e1]; rfl
  · simp only [World.frozen?, e1]; simp
theorem Br.setS {w : World} {br : Nat} {r : PRul} (h : Br w br r) (x : Int) : Br (w.setCell ⟨br, 0, none⟩ (.int .u8 x)) br { r with sort := x } :=
  ⟨World.cell?_setCell_same _ _ _ h.c0, (cell_set _ _ _ _ _ _ (by omega)).trans h.c1, (cell_set _ _ _ _ _ _ (by omega)).trans h.c2, (cell_set _ _ _ _ _ _ (by omega)).trans h.c3, (cell_set _ _ _ _ _ _ (by omega)).trans h.c4, (cell_set _ _ _ _ _ _ (by omega)).trans h.c5, (cell_set _ _ _ _ _ _ (by omega)).trans h.c6, fun q => (World.frozen?_setCell _ _ _ _).trans (h.fz q), by simpa [World.setCell] using h.lt⟩
theorem Br.setV {w : World} {br : Nat} {r : PRul} (h : Br w br r) (x : Int) : Br (w.setCell ⟨br, 4, none⟩ (.int .i64 x)) br { r with v := x } :=
  ⟨(cell_set _ _ _ _ _ _ (by omega)).trans h.c0, (cell_set _ _ _ _ _ _ (by omega)).trans h.c1, (cell_set _ _ _ _ _ _ (by omega)).trans h.c2, (cell_set _ _ _ _ _ _ (by omega)).trans h.c3, World.cell?_setCell_same _ _ _ h.c4, (cell_set _ _ _ _ _ _ (by omega)).trans h.c5, (cell_set _ _ _ _ _ _ (by omega)).trans h.c6, fun q => (World.frozen?_setCell _ _ _ _).trans (h.fz q), by simpa [World.setCell] using h.lt⟩
theorem Br.setW {w : World} {br : Nat} {r : PRul} (h : Br w br r) (x : Int) : Br (w.setCell ⟨br, 5, none⟩ (.int .i64 x)) br { r with w := x } :=
  ⟨(cell_set _ _ _ _ _ _ (by omega)).trans h.c0, (cell_set _ _ _ _ _ _ (by omega)).trans h.c1, (cell_set _ _ _ _ _ _ (by omega)).trans h.c2, (cell_set _ _ _ _ _ _ (by omega)).trans h.c3, (cell_set _ _ _ _ _ _ (by omega)).trans h.c4, World.cell?_setCell_same _ _ _ h.c5, (cell_set _ _ _ _ _ _ (by omega)).trans h.c6, fun q => (World.frozen?_setCell _ _ _ _).trans (h.fz q), by simpa [World.setCell] using h.lt⟩
theorem Br.setX {w : World} {br : Nat} {r : PRul} (h : Br w br r) (x : Int) : Br (w.setCell ⟨br, 6, none⟩ (.int .i64 x)) br { r with x := x } :=
  ⟨(cell_set _ _ _ _ _ _ (by omega)).trans h.c0, (cell_set _ _ _ _ _ _ (by omega)).trans h.c1, (cell_set _ _ _ _ _ _ (by omega)).trans h.c2, (cell_set _ _ _ _ _ _ (by omega)).trans h.c3, (cell_set _ _ _ _ _ _ (by omega)).trans h.c4, (cell_set _ _ _ _ _ _ (by omega)).trans h.c5, World.cell?_setCell_same _ _ _ h.c6, fun q => (World.frozen?_setCell _ _ _ _).trans (h.fz q), by simpa [World.setCell] using h.lt⟩
/-- before a sum -/
theorem Br.toRl {w : World} {br : Nat} {r : PRul} (h : Br w br r) (hp : r.pv = .slice none 0 0) (B : Nat) (hB : br < B) : Rl w br B (.slice none 0 0) [] (fun q => w.cell? ⟨br, q, none⟩) :=
  ⟨by rw [h.c1, hp], h.fz 1, ⟨_, h.c2⟩, h.fz 2, ⟨_, h.c3⟩, h.fz 3, World.ownsRow_nil _ _ _ _, h.lt, hB, fun _ _ _ _ => rfl, h.fz⟩
/-- behind it -/
theorem Br.ofRl {w w' : World} {br B : Nat} {r : PRul} {vL : Value} {parts : List (Int × Int)} {rel : ByteArray} {n : Int} (h : Br w br r) (hR : Rl w' br B vL parts (fun q => w.cell? ⟨br, q, none⟩)) (h2 : w'.cell? ⟨br, 2, none⟩ = some (.string rel)) (h3 : w'.cell? ⟨br, 3, none⟩ = some (.int .i64 n)) :
    Br w' br { r with parts := parts, pv := vL, rel := rel, n := n } :=
  ⟨(hR.oth 0 (by omega) (by omega) (by omega)).trans h.c0, hR.c1, h2, h3, (hR.oth 4 (by omega) (by omega) (by omega)).trans h.c4, (hR.oth 5 (by omega) (by omega) (by omega)).trans h.c5, (hR.oth 6 (by omega) (by omega) (by omega)).trans h.c6, hR.fz, hR.lt⟩
theorem infoRule : (Tryz.prog.info? 176).map (fun i => (i.zero, i.size, i.bytes)) = some (some (.agg #[.int .u8 0, .slice none 0 0, .string .empty, .int .i64 0, .int .i64 0, .int .i64 0, .int .i64 0]), 7, 80) := by kernel_rfl
end Go.Proofs.YthpcbbnabnlanaaGreatDoor
