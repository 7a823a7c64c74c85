import Derived.Test.YthpcbbnabnlanaaGreatDoorM13
import Derived.Deep.AppendLies
/-
  The program's checker: a variable is declared.
-/
namespace Go.Proofs.YthpcbbnabnlanaaGreatDoor
open Go.RowKit
set_option linter.unusedVariables false
variable {w w' : World} {bc bm n : Nat} {g : ByteArray → Th} {f : ByteArray → Value} {vV vC : Value} {st : FSt}

theorem Ck.setV {kd ln : Int} {v : Value} (h : Ck w bc bm n f vV vC kd ln) : Ck (w.setCell ⟨bc, 1, none⟩ v) bc bm n f v vC kd ln := by
  have gw := grown_set w bc 1 v
  exact ⟨(cell_set_other _ _ _ _ _ _ (by simp)).trans h.c0, cell_set_same _ _ _ _ _ h.c1, (cell_set_other _ _ _ _ _ _ (by simp)).trans h.c2, (cell_set_other _ _ _ _ _ _ (by simp)).trans h.c3, (cell_set_other _ _ _ _ _ _ (by simp)).trans h.c4,
    (frozen_set _ _ _ _ _ _).trans h.f1, (frozen_set _ _ _ _ _ _).trans h.f2, (frozen_set _ _ _ _ _ _).trans h.f3, (frozen_set _ _ _ _ _ _).trans h.f4, Nat.lt_of_lt_of_le h.lt gw.size, h.mp.kept gw (by simpa using h.ne.symm), Nat.lt_of_lt_of_le h.ltm gw.size, h.ne⟩
theorem Ck.setC {kd ln : Int} {v : Value} (h : Ck w bc bm n f vV vC kd ln) : Ck (w.setCell ⟨bc, 2, none⟩ v) bc bm n f vV v kd ln := by
  have gw := grown_set w bc 2 v
  exact ⟨(cell_set_other _ _ _ _ _ _ (by simp)).trans h.c0, (cell_set_other _ _ _ _ _ _ (by simp)).trans h.c1, cell_set_same _ _ _ _ _ h.c2, (cell_set_other _ _ _ _ _ _ (by simp)).trans h.c3, (cell_set_other _ _ _ _ _ _ (by simp)).trans h.c4,
    (frozen_set _ _ _ _ _ _).trans h.f1, (frozen_set _ _ _ _ _ _).trans h.f2, (frozen_set _ _ _ _ _ _).trans h.f3, (frozen_set _ _ _ _ _ _).trans h.f4, Nat.lt_of_lt_of_le h.lt gw.size, h.mp.kept gw (by simpa using h.ne.symm), Nat.lt_of_lt_of_le h.ltm gw.size, h.ne⟩

/-- the faults of a variable's declaration -/
def varDecl (g : ByteArray → Th) (N : Nat) (nm lo hi : PTok) (st : FSt) : FSt :=
  flt (decide (tval hi < tval lo)) 5 hi.line (flt (outB (tval hi) 1000) 5 hi.line (flt (outB (tval lo) 1000) 5 lo.line (flt ((g nm.s).so != 0) 4 nm.line (flt (decide ((8 : Int) ≤ N)) 6 nm.line st))))
set_option maxRecDepth 100000 in
set_option maxHeartbeats 4000000 in
theorem sn_var (B : Nat) (vars : List QVar) (va : Option Addr) (vc : Nat) (h : CkS w bc bm n (fun s => thV (g s)) (.slice va vars.length vc) vC st) (kw nm lo hi rel : PTok) (names : List PTok) (terms : List GTerm) (lits : List GLit) (vn vt vl v1 : Value) (gr cap : Nat) (hR : RowIn w v1 gr cap tokCell [lo, hi]) (hgc : gr ≠ bc) (hgm : gr ≠ bm) (hgB : gr < B) (hcB : bc < B) (hmB : bm < B) (hBw : B ≤ w.heap.size)
    (hoV : w.ownsRow B 78 3 (.slice va vars.length vc) vars.length (vars.flatMap qvCell)) (hN : vars.length ≤ 3000) (hkN : TOk nm) (hkl : TOk lo) (hkh : TOk hi) (hn : n < 5000) (h1n : vn.oneCell' = true) (h1t : vt.oneCell' = true) (h1l : vl.oneCell' = true) :
    Calls Tryz.prog 121 #[.pointer (some ⟨bc, 0, none⟩), .agg (gsCells ⟨kw, nm, names, [lo, hi], terms, rel, lits⟩ vn v1 vt vl)] w fun e w' => e = .returned (.tuple #[]) ∧ ∃ v, w'.ownsRow B 78 3 v (vars.length + 1) (vars.flatMap qvCell ++ qvCell ⟨nm.s, tval lo, tval hi⟩) ∧ But ([bc, bm] ++ (Value.slice va vars.length vc).ownBlock.toList) w w' ∧
      CkS w' bc bm (n + 1) (fun s' => thV (putTh g nm.s ⟨4, vars.length, tval lo, tval hi, .slice none 0 0⟩ s')) v vC (varDecl g vars.length nm lo hi st) := by
  obtain ⟨i0, hi0, hz0, hz1, hz2⟩ := info_parts infoRV
  have HC : Hid (CkS w bc bm n (fun s => thV (g s)) (.slice va vars.length vc) vC st) := h
  have hlt := h.lt
  have hltm := h.ltm
  have hgl := hR.lt
  have hc1 := h.c1
  have hx1 := hkl.2.1; have hx2 := hkl.2.2; have hy1 := hkh.2.1; have hy2 := hkh.2.2
  have R0 : RowIn w v1 gr cap tokCell [lo, hi] := hR
  have o0 := hoV
  have hNs := hkN.1
  have K1 := Kept.mk (fun {W : World} (hW : CkS W bc bm n (fun s => thV (g s)) (.slice va vars.length vc) vC st) => sn_room hW nm vars.length 8)
  generalize hS1 : flt (decide ((8 : Int) ≤ vars.length)) 6 nm.line st = S1 at *
  have K2 := Kept.mk (fun {W : World} (hW : CkS W bc bm n (fun s => thV (g s)) (.slice va vars.length vc) vC S1) => sn_undeclared hW nm hkN.1)
  generalize hS2 : flt ((g nm.s).so != 0) 4 nm.line S1 = S2 at *
  have K3 := Kept.mk (fun {W : World} (hW : CkS W bc bm n (fun s => thV (g s)) (.slice va vars.length vc) vC S2) => sn_number hW lo 1000 (by decide) (by decide))
  generalize hS3 : flt (outB (tval lo) 1000) 5 lo.line S2 = S3 at *
  have K4 := Kept.mk (fun {W : World} (hW : CkS W bc bm n (fun s => thV (g s)) (.slice va vars.length vc) vC S3) => sn_number hW hi 1000 (by decide) (by decide))
  generalize hS4 : flt (outB (tval hi) 1000) 5 hi.line S3 = S4 at *
  have K5 := Kept.mk (fun {W : World} (hW : CkS W bc bm n (fun s => thV (g s)) (.slice va vars.length vc) vC S4) => sn_fault hW hi 5)
  have HRES : Hid (varDecl g vars.length nm lo hi st = flt (decide (tval hi < tval lo)) 5 hi.line S4) := by rw [Hid]; unfold varDecl; rw [hS1, hS2, hS3, hS4]
  rw [HRES.out]
  obtain rfl := hR.is
  unfold tkV at K1 K2 K3 K4 K5
  unfold gsCells
  simp only
  clear h hR hS1 hS2 hS3 hS4
  have e20 : ((2 : Nat) : Int) = 2 := rfl
  by_cases hlh : tval hi < tval lo
  · rw [decide_eq_true hlh]
    go_enter Tryz.func121, Tryz.ntmps121
    go_wp2_with (first | (go_at_call 152; refine (K5.get hC4).mono ?_; rintro e w8 ⟨rfl, hg8, hC8⟩; have hB8 := past0 hB4 hs4 hg8 (by simp; omega); have hs8 : w.heap.size < w8.heap.size := (by have := hg8.size; omega); have o8 := o4.kept hg8 (low_ne' hoV hcB); have a5_8 := cell_of hB8 5 _ rfl; have m8 := hC8.c0) | (go_at_call 151; refine (K4.get hC3).mono ?_; rintro e w4 ⟨rfl, hg4, hC4⟩; have hB4 := past0 hB3 hs3 hg4 (by simp; omega); have hs4 : w.heap.size < w4.heap.size := (by have := hg4.size; omega); have R4 := R3.kept hg4 (by simp; omega); have o4 := o3.kept hg4 (low_ne' hoV hcB); have a9_4 := cell_of hB4 9 _ rfl; have q4_4 := R4.row 4 _ rfl; have q5_4 := R4.row 5 _ rfl; have q6_4 := R4.row 6 _ rfl; have q7_4 := R4.row 7 _ rfl) | (go_at_call 151; refine (K3.get hC2).mono ?_; rintro e w3 ⟨rfl, hg3, hC3⟩; have hB3 := past0 hB2 hs2 hg3 (by simp; omega); have hs3 : w.heap.size < w3.heap.size := (by have := hg3.size; omega); have R3 := R2.kept hg3 (by simp; omega); have o3 := o2.kept hg3 (low_ne' hoV hcB); have a9_3 := cell_of hB3 9 _ rfl; have q4_3 := R3.row 4 _ rfl; have q5_3 := R3.row 5 _ rfl; have q6_3 := R3.row 6 _ rfl; have q7_3 := R3.row 7 _ rfl) | (go_at_call 150; refine (K2.get hC1).mono ?_; rintro e w2 ⟨rfl, hg2, hC2⟩; have hB2 := past0 hB1 hs1 hg2 (by simp; omega); have hs2 : w.heap.size < w2.heap.size := (by have := hg2.size; omega); have R2 := R1.kept hg2 (by simp; omega); have o2 := o1.kept hg2 (low_ne' hoV hcB); have a9_2 := cell_of hB2 9 _ rfl; have q0_2 := R2.row 0 _ rfl; have q1_2 := R2.row 1 _ rfl; have q2_2 := R2.row 2 _ rfl; have q3_2 := R2.row 3 _ rfl) | (go_at_call 149; refine (K1.get (HC.out.alloc _)).mono ?_; rintro e w1 ⟨rfl, hg1, hC1⟩; obtain ⟨hs1, hB1⟩ := sn_past hlt hg1; have R1 := (R0.kept (World.grownBy_alloc w _ none) (by simp)).kept hg1 (by simp; omega); have o1 := (o0.alloc _).kept hg1 (low_ne' hoV hcB); have a4_1 := cell_of hB1 4 _ rfl; have a5_1 := cell_of hB1 5 _ rfl; have a6_1 := cell_of hB1 6 _ rfl; have a7_1 := cell_of hB1 7 _ rfl))
    obtain ⟨w5, hrun, hg5, hC5⟩ := hC8.drew.put nm.s hNs hn ⟨4, vars.length, tval lo, tval hi, .slice none 0 0⟩
    unfold thV at hrun
    have hB5 := past0 (w := w8.drew) hB8 hs8 hg5 (by simp; omega)
    have hs5 : w.heap.size < w5.heap.size := by have := hg5.size; simp at this; omega
    have o5 := (o8.kept (grown_drew' _ none) (own_none _)).kept hg5 (low_ne' hoV hmB)
    have a5_5 := cell_of hB5 5 _ rfl
    go_region
    go_wp2_with (first | (at_builtin; refine wpList_append_own _ rfl _ _ 73 rfl B 78 i0 (.agg #[.string .empty, .int .i64 0, .int .i64 0]) 3 32 Tryz.underlying73 hi0 hz0 hz1 hz2 rfl (by decide) _ _ _ rfl (o6.alloc _) ⟨w6.heap.size, 0, none⟩ 1 1 (qvCell ⟨nm.s, tval lo, tval hi⟩) rfl rfl (World.news_of_block (heap_alloc_new _ _)) (qv_one _) ?c3 ?c4 ?c5 ?_) | (go_at_call 153; refine (sn_Clone nm.s w5 hNs).mono ?_; rintro e w6 ⟨rfl, hg6⟩; have hC6 := hC5.kept hg6 (by simp) (by simp); have o6 := o5.kept hg6 (own_none _); have m6 := hC6.c1))
    case c3 => unfold maxLen; omega
    case c4 => omega
    case c5 => have := hg5.size; have := hg6.size; simp at *; omega
    intro v' w7 hown' hgrow _
    have hC7 := (hC6.alloc _).kept hgrow (low_ne hoV hcB) (low_ne hoV hmB)
    have m7 := hC7.c1
    have f7 := hC7.f1
    obtain ⟨xa, xm, xc, rfl⟩ := own_slice hown'
    have HK : Hid (∀ W, W = w7.setCell ⟨bc, 1, none⟩ (.slice xa xm xc) → (∃ v, W.ownsRow B 78 3 v (vars.length + 1) (vars.flatMap qvCell ++ qvCell ⟨nm.s, tval lo, tval hi⟩) ∧ But ([bc, bm] ++ (Value.slice va vars.length vc).ownBlock.toList) w W ∧ CkS W bc bm (n + 1) (fun s' => thV (putTh g nm.s ⟨4, vars.length, tval lo, tval hi, .slice none 0 0⟩ s')) v vC (flt true 5 hi.line S4))) := fun W e => by
      subst e
      refine ⟨_, hown'.kept (grown_set _ _ _ _) (low_ne' hown' hcB), ?_, hC7.setV⟩
      have q1 := ((((But.refl ([bc, bm] ++ (Value.slice va vars.length vc).ownBlock.toList) w).alloc _).grown hg1 (fun k e => by cases e; exact .inl (by simp))).grown hg2 (fun k e => by cases e; exact .inl (by simp))).grown hg3 (fun k e => by cases e; exact .inl (by simp))
      have q2 := (((q1.grown hg4 (fun k e => by cases e; exact .inl (by simp))).grown hg8 (fun k e => by cases e; exact .inl (by simp))).drew.grown hg5 (fun k e => by cases e; exact .inl (by simp))).grown hg6 (fun k e => by cases e)
      exact ((q2.alloc _).grown hgrow (fun k e => by exact .inl (by simp [e]))).set (.inl (by simp)) _ _
    clear hown' hgrow
    go_wp2
    go_end0
    exact ⟨rfl, HK.out _ rfl⟩
  · rw [decide_eq_false hlh, flt_false]
    have hlh' : tval lo ≤ tval hi := by omega
    go_enter Tryz.func121, Tryz.ntmps121
    go_wp2_with (first | (go_at_call 151; refine (K4.get hC3).mono ?_; rintro e w4 ⟨rfl, hg4, hC4⟩; have hB4 := past0 hB3 hs3 hg4 (by simp; omega); have hs4 : w.heap.size < w4.heap.size := (by have := hg4.size; omega); have R4 := R3.kept hg4 (by simp; omega); have o4 := o3.kept hg4 (low_ne' hoV hcB); have a5_4 := cell_of hB4 5 _ rfl; have m4 := hC4.c0) | (go_at_call 151; refine (K3.get hC2).mono ?_; rintro e w3 ⟨rfl, hg3, hC3⟩; have hB3 := past0 hB2 hs2 hg3 (by simp; omega); have hs3 : w.heap.size < w3.heap.size := (by have := hg3.size; omega); have R3 := R2.kept hg3 (by simp; omega); have o3 := o2.kept hg3 (low_ne' hoV hcB); have a9_3 := cell_of hB3 9 _ rfl; have q4_3 := R3.row 4 _ rfl; have q5_3 := R3.row 5 _ rfl; have q6_3 := R3.row 6 _ rfl; have q7_3 := R3.row 7 _ rfl) | (go_at_call 150; refine (K2.get hC1).mono ?_; rintro e w2 ⟨rfl, hg2, hC2⟩; have hB2 := past0 hB1 hs1 hg2 (by simp; omega); have hs2 : w.heap.size < w2.heap.size := (by have := hg2.size; omega); have R2 := R1.kept hg2 (by simp; omega); have o2 := o1.kept hg2 (low_ne' hoV hcB); have a9_2 := cell_of hB2 9 _ rfl; have q0_2 := R2.row 0 _ rfl; have q1_2 := R2.row 1 _ rfl; have q2_2 := R2.row 2 _ rfl; have q3_2 := R2.row 3 _ rfl) | (go_at_call 149; refine (K1.get (HC.out.alloc _)).mono ?_; rintro e w1 ⟨rfl, hg1, hC1⟩; obtain ⟨hs1, hB1⟩ := sn_past hlt hg1; have R1 := (R0.kept (World.grownBy_alloc w _ none) (by simp)).kept hg1 (by simp; omega); have o1 := (o0.alloc _).kept hg1 (low_ne' hoV hcB); have a4_1 := cell_of hB1 4 _ rfl; have a5_1 := cell_of hB1 5 _ rfl; have a6_1 := cell_of hB1 6 _ rfl; have a7_1 := cell_of hB1 7 _ rfl))
    obtain ⟨w5, hrun, hg5, hC5⟩ := hC4.drew.put nm.s hNs hn ⟨4, vars.length, tval lo, tval hi, .slice none 0 0⟩
    unfold thV at hrun
    have hB5 := past0 (w := w4.drew) hB4 hs4 hg5 (by simp; omega)
    have hs5 : w.heap.size < w5.heap.size := by have := hg5.size; simp at this; omega
    have o5 := (o4.kept (grown_drew' _ none) (own_none _)).kept hg5 (low_ne' hoV hmB)
    have a5_5 := cell_of hB5 5 _ rfl
    go_region
    go_wp2_with (first | (at_builtin; refine wpList_append_own _ rfl _ _ 73 rfl B 78 i0 (.agg #[.string .empty, .int .i64 0, .int .i64 0]) 3 32 Tryz.underlying73 hi0 hz0 hz1 hz2 rfl (by decide) _ _ _ rfl (o6.alloc _) ⟨w6.heap.size, 0, none⟩ 1 1 (qvCell ⟨nm.s, tval lo, tval hi⟩) rfl rfl (World.news_of_block (heap_alloc_new _ _)) (qv_one _) ?c3 ?c4 ?c5 ?_) | (go_at_call 153; refine (sn_Clone nm.s w5 hNs).mono ?_; rintro e w6 ⟨rfl, hg6⟩; have hC6 := hC5.kept hg6 (by simp) (by simp); have o6 := o5.kept hg6 (own_none _); have m6 := hC6.c1))
    case c3 => unfold maxLen; omega
    case c4 => omega
    case c5 => have := hg5.size; have := hg6.size; simp at *; omega
    intro v' w7 hown' hgrow _
    have hC7 := (hC6.alloc _).kept hgrow (low_ne hoV hcB) (low_ne hoV hmB)
    have m7 := hC7.c1
    have f7 := hC7.f1
    obtain ⟨xa, xm, xc, rfl⟩ := own_slice hown'
    have HK : Hid (∀ W, W = w7.setCell ⟨bc, 1, none⟩ (.slice xa xm xc) → (∃ v, W.ownsRow B 78 3 v (vars.length + 1) (vars.flatMap qvCell ++ qvCell ⟨nm.s, tval lo, tval hi⟩) ∧ But ([bc, bm] ++ (Value.slice va vars.length vc).ownBlock.toList) w W ∧ CkS W bc bm (n + 1) (fun s' => thV (putTh g nm.s ⟨4, vars.length, tval lo, tval hi, .slice none 0 0⟩ s')) v vC S4)) := fun W e => by
      subst e
      refine ⟨_, hown'.kept (grown_set _ _ _ _) (low_ne' hown' hcB), ?_, hC7.setV⟩
      have q1 := ((((But.refl ([bc, bm] ++ (Value.slice va vars.length vc).ownBlock.toList) w).alloc _).grown hg1 (fun k e => by cases e; exact .inl (by simp))).grown hg2 (fun k e => by cases e; exact .inl (by simp))).grown hg3 (fun k e => by cases e; exact .inl (by simp))
      have q2 := (((q1.grown hg4 (fun k e => by cases e; exact .inl (by simp)))).drew.grown hg5 (fun k e => by cases e; exact .inl (by simp))).grown hg6 (fun k e => by cases e)
      exact ((q2.alloc _).grown hgrow (fun k e => by exact .inl (by simp [e]))).set (.inl (by simp)) _ _
    clear hown' hgrow
    go_wp2
    go_end0
    exact ⟨rfl, HK.out _ rfl⟩
end Go.Proofs.YthpcbbnabnlanaaGreatDoor

/-
  The program's checker: terms.
-/
namespace Go.Proofs.YthpcbbnabnlanaaGreatDoor
open Go.RowKit
set_option linter.unusedVariables false
variable {w w' : World} {bc bm n : Nat} {g : ByteArray → Th} {f : ByteArray → Value} {vV vC : Value} {st : FSt}

set_option maxRecDepth 100000 in
set_option maxHeartbeats 4000000 in
theorem sn_terms (h : CkS w bc bm n (fun s => thV (g s)) vV vC st) (l : List GTerm) (v1 : Value) (gr cap : Nat) (hR : RowIn w v1 gr cap gtCell l) (hgc : gr ≠ bc) (hl : l.length ≤ 3000) (hok : ∀ a ∈ l, TOk a.first ∧ TOk a.name) (hv : ThOk g) :
    Calls Tryz.prog 156 #[.pointer (some ⟨bc, 0, none⟩), v1] w fun e w' => ∃ v, e = .returned v ∧ w'.ownsRow w.heap.size 201 2 v l.length (l.flatMap (termOut g)) ∧ w.grownBy w' (some bc) ∧ CkS w' bc bm n (fun s => thV (g s)) vV vC (foldSt (termStP g) 0 l st) := by
  obtain ⟨i0, hi0, hz0, hz1, hz2⟩ := info_parts infoRT
  have HC : Hid (CkS w bc bm n (fun s => thV (g s)) vV vC st) := h
  have hlt := h.lt
  have hgl := hR.lt
  have HR : Hid (RowIn w v1 gr cap gtCell l) := hR
  have HOK : Hid (∀ a ∈ l, TOk a.first ∧ TOk a.name) := hok
  have HV : Hid (ThOk g) := hv
  obtain ⟨RES, hRES⟩ : ∃ R, R = foldSt (termStP g) 0 l st := ⟨_, rfl⟩
  have HS : Hid (foldSt (termStP g) 0 (l.drop 0) st = RES) := by rw [Hid, hRES]; rfl
  rw [← hRES]
  obtain rfl := hR.is
  clear h hR hRES hok hv
  go_enter Tryz.func156, Tryz.ntmps156
  go_wp2
  go_loopg [5, 11] l.length (fun m v vi wr => SnRel l (termStP g) RES (.slice (some ⟨gr, 0, none⟩) l.length cap) gr cap gtCell 201 2 (termOut g) w bc bm n (fun s => thV (g s)) vV vC m v vi wr)
  case atStart => exact ⟨0, st, Nat.zero_le _, rfl, rfl, HS, HC.out, HR.out, World.ownsRow_nil _ _ _ _, grown_refl _ _⟩
  case round =>
    obtain ⟨i, S, hi, rfl, rfl, hlex, hC, hR, hown, hgr⟩ := hrel
    have hlr := hC.lt
    have hlm := hC.ltm
    by_cases hlt2 : i < l.length
    · obtain ⟨a, ha⟩ : ∃ a, l[i]? = some a := ⟨l[i], by simp [hlt2]⟩
      have hoka := HOK.out a (List.mem_of_getElem? ha)
      have c0 : wr.cell? ⟨gr, i * 9, none⟩ = some (.bool a.neg) := hR.at (sz := 9) (fun _ => rfl) ha 0 _ rfl
      have c1 : wr.cell? ⟨gr, i * 9 + 1, none⟩ = some (.int .i64 (srt a.first)) := hR.at (sz := 9) (fun _ => rfl) ha 1 _ rfl
      have c2 : wr.cell? ⟨gr, i * 9 + 2, none⟩ = some (.string a.first.s) := hR.at (sz := 9) (fun _ => rfl) ha 2 _ rfl
      have c3 : wr.cell? ⟨gr, i * 9 + 3, none⟩ = some (.int .i64 (tval a.first)) := hR.at (sz := 9) (fun _ => rfl) ha 3 _ rfl
      have c4 : wr.cell? ⟨gr, i * 9 + 4, none⟩ = some (.int .i64 a.first.line) := hR.at (sz := 9) (fun _ => rfl) ha 4 _ rfl
      have c5 : wr.cell? ⟨gr, i * 9 + 5, none⟩ = some (.int .i64 (srt a.name)) := hR.at (sz := 9) (fun _ => rfl) ha 5 _ rfl
      have c6 : wr.cell? ⟨gr, i * 9 + 6, none⟩ = some (.string a.name.s) := hR.at (sz := 9) (fun _ => rfl) ha 6 _ rfl
      have c7 : wr.cell? ⟨gr, i * 9 + 7, none⟩ = some (.int .i64 (tval a.name)) := hR.at (sz := 9) (fun _ => rfl) ha 7 _ rfl
      have c8 : wr.cell? ⟨gr, i * 9 + 8, none⟩ = some (.int .i64 a.name.line) := hR.at (sz := 9) (fun _ => rfl) ha 8 _ rfl
      have K1 := Kept.mk (fun {W : World} (hW : CkS W bc bm n (fun s => thV (g s)) vV vC S) => sn_room hW a.first i 8)
      have K2 := Kept.mk (fun {W : World} (hW : CkS W bc bm n (fun s => thV (g s)) vV vC (flt (decide ((8 : Int) ≤ i)) 6 a.first.line S)) => sn_factor hW a hoka.1)
      have K3 := Kept.mk (fun {W : World} (hW : CkS W bc bm n (fun s => thV (g s)) vV vC (facSt a (flt (decide ((8 : Int) ≤ i)) 6 a.first.line S))) => sn_variable hW a.name hoka.2.1 HV.out)
      have hlt3 : (i : Int) < l.length := by omega
      have h03 : (0 : Int) ≤ i := by omega
      unfold tkV at K1 K3
      unfold gtermV at K2
      go_wp2_with (first | (at_builtin; refine wpList_append_own _ rfl _ _ 95 rfl w.heap.size 201 i0 (.agg #[.int .i64 0, .int .i64 0]) 2 16 Tryz.underlying95 hi0 hz0 hz1 hz2 rfl (by decide) _ _ _ rfl (ho3.alloc _) ⟨w3.heap.size, 0, none⟩ 1 1 (termOut g a) rfl rfl (World.news_of_block (heap_alloc_new _ _)) (two_one _ _) ?c3 ?c4 ?c5 ?_) | (go_at_call 159; refine ((K3).get hC2).mono ?_; rintro e w3 ⟨rfl, hg3, hC3⟩; have hB3 := past0 hB2 hs2 hg3 (by simp; omega); have hs3 : wr.heap.size < w3.heap.size := (by have := hg3.size; omega); have ho3 := ho2.kept hg3 (low_ne' hown hlt)) | (go_at_call 184; refine ((K2).get hC1).mono ?_; rintro e w2 ⟨rfl, hg2, hC2⟩; have hB2 := past0 hB1 hs1 hg2 (by simp; omega); have hs2 : wr.heap.size < w2.heap.size := (by have := hg2.size; omega); have ho2 := ho1.kept hg2 (low_ne' hown hlt); have b5_1 := cell_of hB2 5 _ rfl; have b6_1 := cell_of hB2 6 _ rfl; have b7_1 := cell_of hB2 7 _ rfl; have b8_1 := cell_of hB2 8 _ rfl) | (go_at_call 149; refine ((K1).get (hC.alloc _)).mono ?_; rintro e w1 ⟨rfl, hg1, hC1⟩; obtain ⟨hs1, hB1⟩ := sn_past hlr hg1; have ho1 := (hown.alloc _).kept hg1 (low_ne' hown hlt); have b0_0 := cell_of hB1 0 _ rfl; have b1_0 := cell_of hB1 1 _ rfl; have b2_0 := cell_of hB1 2 _ rfl; have b3_0 := cell_of hB1 3 _ rfl; have b4_0 := cell_of hB1 4 _ rfl; have b5_0 := cell_of hB1 5 _ rfl; have b6_0 := cell_of hB1 6 _ rfl; have b7_0 := cell_of hB1 7 _ rfl; have b8_0 := cell_of hB1 8 _ rfl))
      case c3 => unfold maxLen; omega
      case c4 => omega
      case c5 => have := hgr.size; simp at *; omega
      intro v' w9 hown' hgrow _
      have R := sn_step (step := termStP g) HC.out hgl ((((hgr.trans (World.grownBy_alloc _ _ _)).trans hg1).trans hg2).trans hg3) ha hlex hC3 ((((hR.kept (World.grownBy_alloc _ _ none) (by simp)).kept hg1 (by simp; omega)).kept hg2 (by simp; omega)).kept hg3 (by simp; omega)) hown hown' hgrow
      clear hown' hgrow hown
      go_wp2
      go_roundg (l.length - (i + 1))
      case measure => omega
      case rel => simpa using R
    · obtain rfl : i = l.length := by omega
      have hl2 : Hid (RES = S) := by rw [Hid, ← hlex.out, List.drop_of_length_le (Nat.le_refl _)]; rfl
      have hge : (l.length : Int) ≤ (l.length : Int) := by omega
      rw [List.take_of_length_le (Nat.le_refl _)] at hown
      clear hlex
      go_wp2
      go_ret
      rw [hl2.out]
      exact ⟨_, rfl, hown, hgr, hC⟩
end Go.Proofs.YthpcbbnabnlanaaGreatDoor

/-
  The program's checker: variables.
-/
namespace Go.Proofs.YthpcbbnabnlanaaGreatDoor
open Go.RowKit
set_option linter.unusedVariables false
variable {w w' : World} {bc bm n : Nat} {g : ByteArray → Th} {f : ByteArray → Value} {vV vC : Value} {st : FSt}

set_option maxRecDepth 100000 in
set_option maxHeartbeats 4000000 in
theorem sn_variables (h : CkS w bc bm n (fun s => thV (g s)) vV vC st) (l : List PTok) (v1 : Value) (gr cap : Nat) (hR : RowIn w v1 gr cap tokCell l) (hgc : gr ≠ bc) (hl : l.length ≤ 3000) (hok : ∀ a ∈ l, TOk a) (hv : ThOk g) :
    Calls Tryz.prog 160 #[.pointer (some ⟨bc, 0, none⟩), v1] w fun e w' => ∃ v, e = .returned v ∧ w'.ownsRow w.heap.size 3 1 v l.length (l.flatMap (varOut g)) ∧ w.grownBy w' (some bc) ∧ CkS w' bc bm n (fun s => thV (g s)) vV vC (foldSt (varStP g) 0 l st) := by
  obtain ⟨i0, hi0, hz0, hz1, hz2⟩ := info_parts infoQI
  have HC : Hid (CkS w bc bm n (fun s => thV (g s)) vV vC st) := h
  have hlt := h.lt
  have hgl := hR.lt
  have HR : Hid (RowIn w v1 gr cap tokCell l) := hR
  have HOK : Hid (∀ a ∈ l, TOk a) := hok
  have HV : Hid (ThOk g) := hv
  obtain ⟨RES, hRES⟩ : ∃ R, R = foldSt (varStP g) 0 l st := ⟨_, rfl⟩
  have HS : Hid (foldSt (varStP g) 0 (l.drop 0) st = RES) := by rw [Hid, hRES]; rfl
  rw [← hRES]
  obtain rfl := hR.is
  clear h hR hRES hok hv
  go_enter Tryz.func160, Tryz.ntmps160
  go_wp2
  go_loopg [5, 10] l.length (fun m v vi wr => SnRel l (varStP g) RES (.slice (some ⟨gr, 0, none⟩) l.length cap) gr cap tokCell 3 1 (varOut g) w bc bm n (fun s => thV (g s)) vV vC m v vi wr)
  case atStart => exact ⟨0, st, Nat.zero_le _, rfl, rfl, HS, HC.out, HR.out, World.ownsRow_nil _ _ _ _, grown_refl _ _⟩
  case round =>
    obtain ⟨i, S, hi, rfl, rfl, hlex, hC, hR, hown, hgr⟩ := hrel
    have hlr := hC.lt
    have hlm := hC.ltm
    by_cases hlt2 : i < l.length
    · obtain ⟨a, ha⟩ : ∃ a, l[i]? = some a := ⟨l[i], by simp [hlt2]⟩
      have hoka := HOK.out a (List.mem_of_getElem? ha)
      have c0 : wr.cell? ⟨gr, i * 4, none⟩ = some (.int .i64 (srt a)) := hR.at (sz := 4) (fun _ => rfl) ha 0 _ rfl
      have c1 : wr.cell? ⟨gr, i * 4 + 1, none⟩ = some (.string a.s) := hR.at (sz := 4) (fun _ => rfl) ha 1 _ rfl
      have c2 : wr.cell? ⟨gr, i * 4 + 2, none⟩ = some (.int .i64 (tval a)) := hR.at (sz := 4) (fun _ => rfl) ha 2 _ rfl
      have c3 : wr.cell? ⟨gr, i * 4 + 3, none⟩ = some (.int .i64 a.line) := hR.at (sz := 4) (fun _ => rfl) ha 3 _ rfl
      have K1 := Kept.mk (fun {W : World} (hW : CkS W bc bm n (fun s => thV (g s)) vV vC S) => sn_room hW a i 8)
      have K2 := Kept.mk (fun {W : World} (hW : CkS W bc bm n (fun s => thV (g s)) vV vC (flt (decide ((8 : Int) ≤ i)) 6 a.line S)) => sn_variable hW a hoka.1 HV.out)
      have hlt3 : (i : Int) < l.length := by omega
      have h03 : (0 : Int) ≤ i := by omega
      unfold tkV at K1 K2
      go_wp2_with (first | (at_builtin; refine wpList_append_own _ rfl _ _ 33 rfl w.heap.size 3 i0 (.int .i64 0) 1 8 Tryz.underlying33 hi0 hz0 hz1 hz2 rfl (by decide) _ _ _ rfl (ho2.alloc _) ⟨w2.heap.size, 0, none⟩ 1 1 (varOut g a) rfl rfl (World.news_of_block (heap_alloc_new _ _)) (one_one _) ?c3 ?c4 ?c5 ?_) | (go_at_call 159; refine ((K2).get hC1).mono ?_; rintro e w2 ⟨rfl, hg2, hC2⟩; have hB2 := past0 hB1 hs1 hg2 (by simp; omega); have hs2 : wr.heap.size < w2.heap.size := (by have := hg2.size; omega); have ho2 := ho1.kept hg2 (low_ne' hown hlt)) | (go_at_call 149; refine ((K1).get (hC.alloc _)).mono ?_; rintro e w1 ⟨rfl, hg1, hC1⟩; obtain ⟨hs1, hB1⟩ := sn_past hlr hg1; have ho1 := (hown.alloc _).kept hg1 (low_ne' hown hlt); have b0_0 := cell_of hB1 0 _ rfl; have b1_0 := cell_of hB1 1 _ rfl; have b2_0 := cell_of hB1 2 _ rfl; have b3_0 := cell_of hB1 3 _ rfl))
      case c3 => unfold maxLen; omega
      case c4 => omega
      case c5 => have := hgr.size; simp at *; omega
      intro v' w9 hown' hgrow _
      have R := sn_step (step := varStP g) HC.out hgl (((hgr.trans (World.grownBy_alloc _ _ _)).trans hg1).trans hg2) ha hlex hC2 (((hR.kept (World.grownBy_alloc _ _ none) (by simp)).kept hg1 (by simp; omega)).kept hg2 (by simp; omega)) hown hown' hgrow
      clear hown' hgrow hown
      go_wp2
      go_roundg (l.length - (i + 1))
      case measure => omega
      case rel => simpa using R
    · obtain rfl : i = l.length := by omega
      have hl2 : Hid (RES = S) := by rw [Hid, ← hlex.out, List.drop_of_length_le (Nat.le_refl _)]; rfl
      have hge : (l.length : Int) ≤ (l.length : Int) := by omega
      rw [List.take_of_length_le (Nat.le_refl _)] at hown
      clear hlex
      go_wp2
      go_ret
      rw [hl2.out]
      exact ⟨_, rfl, hown, hgr, hC⟩
end Go.Proofs.YthpcbbnabnlanaaGreatDoor

/-
  The program's checker: lits.
-/
namespace Go.Proofs.YthpcbbnabnlanaaGreatDoor
open Go.RowKit
set_option linter.unusedVariables false
variable {w w' : World} {bc bm n : Nat} {g : ByteArray → Th} {f : ByteArray → Value} {vV vC : Value} {st : FSt}

set_option maxRecDepth 100000 in
set_option maxHeartbeats 4000000 in
theorem sn_lits (h : CkS w bc bm n (fun s => thV (g s)) vV vC st) (l : List GLit) (v1 : Value) (gr cap : Nat) (hR : RowIn w v1 gr cap glCell l) (hgc : gr ≠ bc) (hl : l.length ≤ 3000) (hok : ∀ a ∈ l, TOk a.first ∧ TOk a.name) (hv : ThOk g) :
    Calls Tryz.prog 161 #[.pointer (some ⟨bc, 0, none⟩), v1] w fun e w' => ∃ v, e = .returned v ∧ w'.ownsRow w.heap.size 203 2 v l.length (l.flatMap (litOut g)) ∧ w.grownBy w' (some bc) ∧ CkS w' bc bm n (fun s => thV (g s)) vV vC (foldSt (litStP g) 0 l st) := by
  obtain ⟨i0, hi0, hz0, hz1, hz2⟩ := info_parts infoRL
  have HC : Hid (CkS w bc bm n (fun s => thV (g s)) vV vC st) := h
  have hlt := h.lt
  have hgl := hR.lt
  have HR : Hid (RowIn w v1 gr cap glCell l) := hR
  have HOK : Hid (∀ a ∈ l, TOk a.first ∧ TOk a.name) := hok
  have HV : Hid (ThOk g) := hv
  obtain ⟨RES, hRES⟩ : ∃ R, R = foldSt (litStP g) 0 l st := ⟨_, rfl⟩
  have HS : Hid (foldSt (litStP g) 0 (l.drop 0) st = RES) := by rw [Hid, hRES]; rfl
  rw [← hRES]
  obtain rfl := hR.is
  clear h hR hRES hok hv
  go_enter Tryz.func161, Tryz.ntmps161
  go_wp2
  go_loopg [5, 11] l.length (fun m v vi wr => SnRel l (litStP g) RES (.slice (some ⟨gr, 0, none⟩) l.length cap) gr cap glCell 203 2 (litOut g) w bc bm n (fun s => thV (g s)) vV vC m v vi wr)
  case atStart => exact ⟨0, st, Nat.zero_le _, rfl, rfl, HS, HC.out, HR.out, World.ownsRow_nil _ _ _ _, grown_refl _ _⟩
  case round =>
    obtain ⟨i, S, hi, rfl, rfl, hlex, hC, hR, hown, hgr⟩ := hrel
    have hlr := hC.lt
    have hlm := hC.ltm
    by_cases hlt2 : i < l.length
    · obtain ⟨a, ha⟩ : ∃ a, l[i]? = some a := ⟨l[i], by simp [hlt2]⟩
      have hoka := HOK.out a (List.mem_of_getElem? ha)
      have c0 : wr.cell? ⟨gr, i * 8, none⟩ = some (.int .i64 (srt a.first)) := hR.at (sz := 8) (fun _ => rfl) ha 0 _ rfl
      have c1 : wr.cell? ⟨gr, i * 8 + 1, none⟩ = some (.string a.first.s) := hR.at (sz := 8) (fun _ => rfl) ha 1 _ rfl
      have c2 : wr.cell? ⟨gr, i * 8 + 2, none⟩ = some (.int .i64 (tval a.first)) := hR.at (sz := 8) (fun _ => rfl) ha 2 _ rfl
      have c3 : wr.cell? ⟨gr, i * 8 + 3, none⟩ = some (.int .i64 a.first.line) := hR.at (sz := 8) (fun _ => rfl) ha 3 _ rfl
      have c4 : wr.cell? ⟨gr, i * 8 + 4, none⟩ = some (.int .i64 (srt a.name)) := hR.at (sz := 8) (fun _ => rfl) ha 4 _ rfl
      have c5 : wr.cell? ⟨gr, i * 8 + 5, none⟩ = some (.string a.name.s) := hR.at (sz := 8) (fun _ => rfl) ha 5 _ rfl
      have c6 : wr.cell? ⟨gr, i * 8 + 6, none⟩ = some (.int .i64 (tval a.name)) := hR.at (sz := 8) (fun _ => rfl) ha 6 _ rfl
      have c7 : wr.cell? ⟨gr, i * 8 + 7, none⟩ = some (.int .i64 a.name.line) := hR.at (sz := 8) (fun _ => rfl) ha 7 _ rfl
      have K1 := Kept.mk (fun {W : World} (hW : CkS W bc bm n (fun s => thV (g s)) vV vC S) => sn_room hW a.first i 8)
      have K2 := Kept.mk (fun {W : World} (hW : CkS W bc bm n (fun s => thV (g s)) vV vC (flt (decide ((8 : Int) ≤ i)) 6 a.first.line S)) => sn_truth hW a.name hoka.2.1 HV.out)
      have hlt3 : (i : Int) < l.length := by omega
      have h03 : (0 : Int) ≤ i := by omega
      unfold tkV at K1 K2
      skip
      by_cases hq : srt a.first = 22
      · have hq2 : (srt a.first == 22) = true := by simpa using hq
        have hO : Hid (litOut g a = [.int .i64 (thFind g a.name.s 4).pl, .int .i64 0]) := by simp [Hid, litOut, hq]
        clear hq
        go_wp2_with (first | (at_builtin; refine wpList_append_own _ rfl _ _ 97 rfl w.heap.size 203 i0 (.agg #[.int .i64 0, .int .i64 0]) 2 16 Tryz.underlying97 hi0 hz0 hz1 hz2 rfl (by decide) _ _ _ rfl (ho2.alloc _) ⟨w2.heap.size, 0, none⟩ 1 1 [.int .i64 (thFind g a.name.s 4).pl, .int .i64 0] rfl rfl (World.news_of_block (heap_alloc_new _ _)) (two_one _ _) ?c3 ?c4 ?c5 ?_) | (go_at_call 155; refine ((K2).get hC1).mono ?_; rintro e w2 ⟨rfl, hg2, hC2⟩; have hB2 := past0 hB1 hs1 hg2 (by simp; omega); have hs2 : wr.heap.size < w2.heap.size := (by have := hg2.size; omega); have ho2 := ho1.kept hg2 (low_ne' hown hlt)) | (go_at_call 149; refine ((K1).get (hC.alloc _)).mono ?_; rintro e w1 ⟨rfl, hg1, hC1⟩; obtain ⟨hs1, hB1⟩ := sn_past hlr hg1; have ho1 := (hown.alloc _).kept hg1 (low_ne' hown hlt); have b0_0 := cell_of hB1 0 _ rfl; have b1_0 := cell_of hB1 1 _ rfl; have b2_0 := cell_of hB1 2 _ rfl; have b3_0 := cell_of hB1 3 _ rfl; have b4_0 := cell_of hB1 4 _ rfl; have b5_0 := cell_of hB1 5 _ rfl; have b6_0 := cell_of hB1 6 _ rfl; have b7_0 := cell_of hB1 7 _ rfl))
        case c3 => unfold maxLen; omega
        case c4 => omega
        case c5 => have := hgr.size; simp at *; omega
        intro v' w9 hown' hgrow _
        have hown' : w9.ownsRow w.heap.size 203 2 v' (i + 1) ((l.take i).flatMap (litOut g) ++ litOut g a) := by rw [hO.out]; exact hown'
        have R := sn_step (step := litStP g) HC.out hgl (((hgr.trans (World.grownBy_alloc _ _ _)).trans hg1).trans hg2) ha hlex hC2 (((hR.kept (World.grownBy_alloc _ _ none) (by simp)).kept hg1 (by simp; omega)).kept hg2 (by simp; omega)) hown hown' hgrow
        clear hown' hgrow hown
        go_wp2
        go_roundg (l.length - (i + 1))
        case measure => omega
        case rel => simpa using R
      · have hq2 : (srt a.first == 22) = false := by simpa using hq
        have hO : Hid (litOut g a = [.int .i64 (thFind g a.name.s 4).pl, .int .i64 1]) := by simp [Hid, litOut, hq]
        clear hq
        go_wp2_with (first | (at_builtin; refine wpList_append_own _ rfl _ _ 97 rfl w.heap.size 203 i0 (.agg #[.int .i64 0, .int .i64 0]) 2 16 Tryz.underlying97 hi0 hz0 hz1 hz2 rfl (by decide) _ _ _ rfl (ho2.alloc _) ⟨w2.heap.size, 0, none⟩ 1 1 [.int .i64 (thFind g a.name.s 4).pl, .int .i64 1] rfl rfl (World.news_of_block (heap_alloc_new _ _)) (two_one _ _) ?c3 ?c4 ?c5 ?_) | (go_at_call 155; refine ((K2).get hC1).mono ?_; rintro e w2 ⟨rfl, hg2, hC2⟩; have hB2 := past0 hB1 hs1 hg2 (by simp; omega); have hs2 : wr.heap.size < w2.heap.size := (by have := hg2.size; omega); have ho2 := ho1.kept hg2 (low_ne' hown hlt)) | (go_at_call 149; refine ((K1).get (hC.alloc _)).mono ?_; rintro e w1 ⟨rfl, hg1, hC1⟩; obtain ⟨hs1, hB1⟩ := sn_past hlr hg1; have ho1 := (hown.alloc _).kept hg1 (low_ne' hown hlt); have b0_0 := cell_of hB1 0 _ rfl; have b1_0 := cell_of hB1 1 _ rfl; have b2_0 := cell_of hB1 2 _ rfl; have b3_0 := cell_of hB1 3 _ rfl; have b4_0 := cell_of hB1 4 _ rfl; have b5_0 := cell_of hB1 5 _ rfl; have b6_0 := cell_of hB1 6 _ rfl; have b7_0 := cell_of hB1 7 _ rfl))
        case c3 => unfold maxLen; omega
        case c4 => omega
        case c5 => have := hgr.size; simp at *; omega
        intro v' w9 hown' hgrow _
        have hown' : w9.ownsRow w.heap.size 203 2 v' (i + 1) ((l.take i).flatMap (litOut g) ++ litOut g a) := by rw [hO.out]; exact hown'
        have R := sn_step (step := litStP g) HC.out hgl (((hgr.trans (World.grownBy_alloc _ _ _)).trans hg1).trans hg2) ha hlex hC2 (((hR.kept (World.grownBy_alloc _ _ none) (by simp)).kept hg1 (by simp; omega)).kept hg2 (by simp; omega)) hown hown' hgrow
        clear hown' hgrow hown
        go_wp2
        go_roundg (l.length - (i + 1))
        case measure => omega
        case rel => simpa using R
    · obtain rfl : i = l.length := by omega
      have hl2 : Hid (RES = S) := by rw [Hid, ← hlex.out, List.drop_of_length_le (Nat.le_refl _)]; rfl
      have hge : (l.length : Int) ≤ (l.length : Int) := by omega
      rw [List.take_of_length_le (Nat.le_refl _)] at hown
      clear hlex
      go_wp2
      go_ret
      rw [hl2.out]
      exact ⟨_, rfl, hown, hgr, hC⟩
end Go.Proofs.YthpcbbnabnlanaaGreatDoor

/-
  The program's checker: a constraint in the making.
-/
namespace Go.Proofs.YthpcbbnabnlanaaGreatDoor
open Go.RowKit
set_option linter.unusedVariables false
variable {w W W' : World} {bc bm n br : Nat} {g : ByteArray → Th} {vV vC : Value} {S S' : FSt} {A cs cs' : Array Value}

/-- the statement's box (at w's end), the constraint's box (br); nothing else of w but the checker's struct has turned -/
structure AC (w W : World) (bc bm n br : Nat) (g : ByteArray → Th) (vV vC : Value) (A cs : Array Value) (S : FSt) : Prop where
  ck : CkS W bc bm n (fun s => thV (g s)) vV vC S
  hA : W.heap[w.heap.size]? = some (.cells A 137 (0, 0))
  hS : W.heap[br]? = some (.cells cs 99 (0, 0))
  lt : br < W.heap.size
  lo : w.heap.size < br
  gr : w.grownBy W (some bc)
  lp : bc < w.heap.size
  lm : bm < w.heap.size
theorem AC.call0 (h : AC w W bc bm n br g vV vC A cs S) (hg : W.grownBy W' (some bc)) (hC : CkS W' bc bm n (fun s => thV (g s)) vV vC S') : AC w W' bc bm n br g vV vC A cs S' :=
  have h1 := h.lo; have h2 := h.lp; have h3 := h.lt
  ⟨hC, past0 h.hA (by omega) hg (by simp; omega), past0 h.hS h.lt hg (by simp; omega), Nat.lt_of_lt_of_le h.lt hg.size, h.lo, h.gr.trans hg, h.lp, h.lm⟩
theorem AC.sf (h : AC w W bc bm n br g vV vC A cs S) (i : Nat) (v : Value) (e : cs.setIfInBounds i v = cs') : AC w (W.setCell ⟨br, i, none⟩ v) bc bm n br g vV vC A cs' S :=
  have h1 := h.lo; have h2 := h.lp; have h3 := h.lt; have h4 := h.lm
  ⟨h.ck.kept (grown_set W br i v) (by simp; omega) (by simp; omega), (Below.heap_setCell _ _ _ _ (by show w.heap.size ≠ br; omega)).trans h.hA, set_at h.hS i v e, by have := (grown_set W br i v).size; omega, h.lo, grown_newr h.gr (by omega) (grown_set W br i v), h.lp, h.lm⟩
theorem ac_start {w1 : World} (hlp : bc < w.heap.size) (hlm : bm < w.heap.size) (hg : (w.alloc (.cells A 137)).drew.grownBy w1 (some bc)) (hC : CkS w1 bc bm n (fun s => thV (g s)) vV vC S) (cs : Array Value) : AC w (w1.alloc (.cells cs 99)) bc bm n w1.heap.size g vV vC A cs S := by
  have hz := hg.size
  have hg' := (grown_drew' (w.alloc (.cells A 137)) (some bc)).trans hg
  simp at hz
  have hA := past0 (heap_alloc_new w _) (by simp) hg' (by simp; omega)
  exact ⟨hC.alloc _, (heap_alloc_old _ _ (by omega)).trans hA, heap_alloc_new _ _, by simp, by omega, ((World.grownBy_alloc w _ _).trans hg').trans (World.grownBy_alloc _ _ _), hlp, hlm⟩
theorem infoCo : (Tryz.prog.info? 99).map (fun i => (i.zero, i.size, i.bytes)) = some (some (.agg #[.int .i64 0, .int .i64 0, .slice none 0 0, .int .i64 0, .int .i64 0, .slice none 0 0, .int .i64 0, .int .i64 0, .slice none 0 0, .slice none 0 0]), 10, 144) := by kernel_rfl
theorem con_one (a b : Int) (v1 : Option Addr) (m1 c1 : Nat) (c d : Int) (v2 : Option Addr) (m2 c2 : Nat) (e f : Int) (v3 : Option Addr) (m3 c3 : Nat) (v4 : Option Addr) (m4 c4 : Nat) : ∀ u ∈ [Value.int .i64 a, .int .i64 b, .slice v1 m1 c1, .int .i64 c, .int .i64 d, .slice v2 m2 c2, .int .i64 e, .int .i64 f, .slice v3 m3 c3, .slice v4 m4 c4], u.oneCell' = true := by
  intro u hu
  simp only [List.mem_cons, List.not_mem_nil, or_false] at hu
  rcases hu with rfl | rfl | rfl | rfl | rfl | rfl | rfl | rfl | rfl | rfl <;> rfl
/-- what addConstraint leaves -/
def ConPost (w : World) (bc bm n B m : Nat) (g : ByteArray → Th) (vV vC : Value) (S : FSt) (e : Ending) (w' : World) : Prop :=
  e = .returned (.tuple #[]) ∧ ∃ v xs, w'.ownsRow B 99 10 v (m + 1) xs ∧ But ([bc] ++ vC.ownBlock.toList) w w' ∧ CkS w' bc bm n (fun s => thV (g s)) vV v S
theorem con_end {wj wA : World} {B m : Nat} {o : Obj} {v : Value} {xs : List Value} (h : AC w wj bc bm n br g vV vC A cs S) (hcB : bc < B) (hmB : bm < B) (hoC : w.ownsRow B 99 10 vC m xs) {xs' : List Value} (hown : wA.ownsRow B 99 10 v (m + 1) xs') (hg : (wj.alloc o).drew.grownBy wA vC.ownBlock) :
    ConPost w bc bm n B m g vV vC S (.returned (.tuple #[])) (wA.setCell ⟨bc, 2, none⟩ v) := by
  have hC : CkS wA bc bm n (fun s => thV (g s)) vV vC S := ((h.ck.alloc o).drew).kept hg (low_ne hoC hcB) (low_ne hoC hmB)
  refine ⟨rfl, v, xs', hown.kept (grown_set _ _ _ _) (low_ne' hown hcB), ?_, hC.setC⟩
  have q := (((But.of (S := [bc] ++ vC.ownBlock.toList) h.gr (by simp)).alloc o).drew).grown hg (fun k e => by exact .inl (by simp [e]))
  exact q.set (.inl (by simp)) _ _
end Go.Proofs.YthpcbbnabnlanaaGreatDoor

/-
  The program's checker: a constraint diff.
-/
namespace Go.Proofs.YthpcbbnabnlanaaGreatDoor
open Go.RowKit
set_option linter.unusedVariables false
variable {w : World} {bc bm n : Nat} {g : ByteArray → Th} {vV vC : Value} {st : FSt}

set_option maxRecDepth 100000 in
set_option maxHeartbeats 8000000 in
theorem sn_con_diff (B m : Nat) (xs : List Value) (ca : Option Addr) (cc : Nat) (h : CkS w bc bm n (fun s => thV (g s)) vV (.slice ca m cc) st) (hoC : w.ownsRow B 99 10 (.slice ca m cc) m xs) (hcB : bc < B) (hmB : bm < B) (hBw : B ≤ w.heap.size) (hm : m ≤ 3000) (hv : ThOk g)
    (kw nm rel : PTok) (l numbers : List PTok) (terms : List GTerm) (lits : List GLit) (v1 vu vt vl : Value) (gr cap : Nat) (hR : RowIn w v1 gr cap tokCell l) (hgc : gr ≠ bc) (hl : l.length ≤ 3000) (hok : ∀ a ∈ l, TOk a) (hk : rSort (srt kw) = 3) :
    Calls Tryz.prog 123 #[.pointer (some ⟨bc, 0, none⟩), .agg (gsCells ⟨kw, nm, l, numbers, terms, rel, lits⟩ v1 vu vt vl)] w (ConPost w bc bm n B m g vV (.slice ca m cc) (foldSt (varStP g) 0 l (flt (decide ((16 : Int) ≤ m)) 6 kw.line st))) := by
  obtain ⟨i0, hi0, hz0, hz1, hz2⟩ := info_parts infoCo
  have HC : Hid (CkS w bc bm n (fun s => thV (g s)) vV (.slice ca m cc) st) := h
  have hlt := h.lt
  have hltm := h.ltm
  have hc2 := h.c2
  have HRS : Hid (rSort (srt kw) = 3) := hk
  obtain ⟨vC, hvC⟩ : ∃ v, v = Value.slice ca m cc := ⟨_, rfl⟩
  have K1 := Kept.mk (fun {W : World} (hW : CkS W bc bm n (fun s => thV (g s)) vV (.slice ca m cc) st) => sn_room hW kw m 16)
  generalize hS1 : flt (decide ((16 : Int) ≤ m)) 6 kw.line st = S1 at *
  have K2 := Kept.mk (fun {W : World} (hW : CkS W bc bm n (fun s => thV (g s)) vV (.slice ca m cc) S1) (hRW : RowIn W v1 gr cap tokCell l) => sn_variables hW l v1 gr cap hRW hgc hl hok hv)
  generalize hS2 : foldSt (varStP g) 0 l S1 = S2 at *
  unfold tkV at K1
  unfold gsCells
  simp only
  clear h hk 
  go_enter Tryz.func123, Tryz.ntmps123
  go_wp2
  go_region_law (go_simp; go_at_call 149; refine (K1.get (HC.out.alloc _).drew).mono ?_; rintro e w1 ⟨rfl, hg1, hC1⟩; have x1 := ac_start hlt hltm hg1 hC1 #[.int .i64 3, .int .i64 0, .slice none 0 0, .int .i64 0, .int .i64 0, .slice none 0 0, .int .i64 0, .int .i64 0, .slice none 0 0, .slice none 0 0]; have hs1 : w.heap.size < w1.heap.size := x1.lo; have hn1 : w.heap.size ≠ w1.heap.size := (by omega); have hn2 : w1.heap.size ≠ w.heap.size := (by omega); have hB1 := past0 (heap_alloc_new w _) (by simp) ((grown_drew' _ (some bc)).trans hg1) (by simp; omega); have a8_1 := cell_of hB1 8 _ rfl; have a0_1 := cell_of hB1 0 _ rfl)
  all_goals
    go_wp2_with (first | (go_at_call 160; refine (K2.get x1.ck (hR.kept x1.gr (by simpa using Ne.symm hgc))).mono ?_; rintro e w2 ⟨v2, rfl, hown2, hg2, hC2⟩; obtain ⟨va2, vm2, vc2, rfl⟩ := own_slice hown2; have x2 := x1.call0 hg2 hC2; have r8_2 := cell_of x2.hS 8 _ rfl; have z8_2 := frozen_of x2.hS 8; have y2_8 := x2.sf (cs' := #[.int .i64 3, .int .i64 0, .slice none 0 0, .int .i64 0, .int .i64 0, .slice none 0 0, .int .i64 0, .int .i64 0, .slice va2 vm2 vc2, .slice none 0 0]) 8 (.slice va2 vm2 vc2) rfl) | (go_at_call 154; refine (sn_ruleSort _ _).mono ?_; rw [HRS.out]; rintro e w' ⟨rfl, hww⟩; subst w'))
    have xE := y2_8
    generalize (w2.setCell ⟨w1.heap.size, 8, none⟩ (.slice va2 vm2 vc2)) = wj at xE ⊢
    have m2 := xE.ck.c2
    have mf := xE.ck.f2
    have mlt := xE.ck.lt
    have c0 := cell_of xE.hS 0 _ rfl
    have c1 := cell_of xE.hS 1 _ rfl
    have c2 := cell_of xE.hS 2 _ rfl
    have c3 := cell_of xE.hS 3 _ rfl
    have c4 := cell_of xE.hS 4 _ rfl
    have c5 := cell_of xE.hS 5 _ rfl
    have c6 := cell_of xE.hS 6 _ rfl
    have c7 := cell_of xE.hS 7 _ rfl
    have c8 := cell_of xE.hS 8 _ rfl
    have c9 := cell_of xE.hS 9 _ rfl
    have blt := xE.lt
    have hoj := hoC.kept xE.gr (low_ne' hoC hcB)
    have HOWN := Kept.mk ((hoj.kept ((World.grownBy_alloc wj (.cells #[.int .i64 3, .int .i64 0, .slice none 0 0, .int .i64 0, .int .i64 0, .slice none 0 0, .int .i64 0, .int .i64 0, .slice va2 vm2 vc2, .slice none 0 0] 99) none).trans (grown_drew' _ none)) (own_none _)))
    have HNEWS := Kept.mk (World.news_of_block (w := (wj.alloc (.cells #[.int .i64 3, .int .i64 0, .slice none 0 0, .int .i64 0, .int .i64 0, .slice none 0 0, .int .i64 0, .int .i64 0, .slice va2 vm2 vc2, .slice none 0 0] 99)).drew) (cs := #[.int .i64 3, .int .i64 0, .slice none 0 0, .int .i64 0, .int .i64 0, .slice none 0 0, .int .i64 0, .int .i64 0, .slice va2 vm2 vc2, .slice none 0 0]) (t := 99) (fr := (0, 0)) (heap_alloc_new wj _))
    have KEEP : Hid (∀ wA, (wj.alloc (.cells #[.int .i64 3, .int .i64 0, .slice none 0 0, .int .i64 0, .int .i64 0, .slice none 0 0, .int .i64 0, .int .i64 0, .slice va2 vm2 vc2, .slice none 0 0] 99)).drew.grownBy wA (Value.slice ca m cc).ownBlock → wA.frozen? ⟨bc, 2, none⟩ = false ∧ wA.cell? ⟨bc, 2, none⟩ = some (.slice ca m cc)) := fun wA hg => by
      have q := ((xE.ck.alloc _).drew).kept hg (low_ne hoC hcB) (low_ne hoC hmB)
      exact ⟨q.f2, q.c2⟩
    have hBj : B ≤ wj.heap.size := by have := xE.gr.size; omega
    go_region_law ((refine step_append_lies _ (by rfl) _ _ 74 (by rfl) B 99 i0 (.agg #[.int .i64 0, .int .i64 0, .slice none 0 0, .int .i64 0, .int .i64 0, .slice none 0 0, .int .i64 0, .int .i64 0, .slice none 0 0, .slice none 0 0]) 10 144 Tryz.underlying74 hi0 hz0 hz1 hz2 rfl (by decide) (.slice ca m cc) m xs (by rfl) HOWN.get ⟨wj.heap.size, 0, none⟩ 1 1 [.int .i64 3, .int .i64 0, .slice none 0 0, .int .i64 0, .int .i64 0, .slice none 0 0, .int .i64 0, .int .i64 0, .slice va2 vm2 vc2, .slice none 0 0] (by rfl) rfl HNEWS.get (con_one _ _ _ _ _ _ _ _ _ _ _ _ _ _ _ _ _ _) (by decide) (by unfold maxLen; omega) (by omega) (by simp; omega) _ rfl ?_; intro gA capA wA hownA hgrowA hatA hltA; obtain ⟨q1, q2⟩ := KEEP.out wA hgrowA))
    all_goals have R := con_end xE hcB hmB hoC hownA hgrowA
    all_goals clear HOWN HNEWS KEEP hownA hgrowA hatA hltA
    all_goals go_wp2
    all_goals go_end0
    all_goals exact R
end Go.Proofs.YthpcbbnabnlanaaGreatDoor

/-
  The program's checker: a constraint or.
-/
namespace Go.Proofs.YthpcbbnabnlanaaGreatDoor
open Go.RowKit
set_option linter.unusedVariables false
variable {w : World} {bc bm n : Nat} {g : ByteArray → Th} {vV vC : Value} {st : FSt}

set_option maxRecDepth 100000 in
set_option maxHeartbeats 8000000 in
theorem sn_con_or (B m : Nat) (xs : List Value) (ca : Option Addr) (cc : Nat) (h : CkS w bc bm n (fun s => thV (g s)) vV (.slice ca m cc) st) (hoC : w.ownsRow B 99 10 (.slice ca m cc) m xs) (hcB : bc < B) (hmB : bm < B) (hBw : B ≤ w.heap.size) (hm : m ≤ 3000) (hv : ThOk g)
    (kw nm rel : PTok) (names numbers : List PTok) (terms : List GTerm) (l : List GLit) (vn vu vt v1 : Value) (gr cap : Nat) (hR : RowIn w v1 gr cap glCell l) (hgc : gr ≠ bc) (hl : l.length ≤ 3000) (hok : ∀ a ∈ l, TOk a.first ∧ TOk a.name) (hk : rSort (srt kw) = 4) :
    Calls Tryz.prog 123 #[.pointer (some ⟨bc, 0, none⟩), .agg (gsCells ⟨kw, nm, names, numbers, terms, rel, l⟩ vn vu vt v1)] w (ConPost w bc bm n B m g vV (.slice ca m cc) (foldSt (litStP g) 0 l (flt (decide ((16 : Int) ≤ m)) 6 kw.line st))) := by
  obtain ⟨i0, hi0, hz0, hz1, hz2⟩ := info_parts infoCo
  have HC : Hid (CkS w bc bm n (fun s => thV (g s)) vV (.slice ca m cc) st) := h
  have hlt := h.lt
  have hltm := h.ltm
  have hc2 := h.c2
  have HRS : Hid (rSort (srt kw) = 4) := hk
  obtain ⟨vC, hvC⟩ : ∃ v, v = Value.slice ca m cc := ⟨_, rfl⟩
  have K1 := Kept.mk (fun {W : World} (hW : CkS W bc bm n (fun s => thV (g s)) vV (.slice ca m cc) st) => sn_room hW kw m 16)
  generalize hS1 : flt (decide ((16 : Int) ≤ m)) 6 kw.line st = S1 at *
  have K2 := Kept.mk (fun {W : World} (hW : CkS W bc bm n (fun s => thV (g s)) vV (.slice ca m cc) S1) (hRW : RowIn W v1 gr cap glCell l) => sn_lits hW l v1 gr cap hRW hgc hl hok hv)
  generalize hS2 : foldSt (litStP g) 0 l S1 = S2 at *
  unfold tkV at K1
  unfold gsCells
  simp only
  clear h hk 
  go_enter Tryz.func123, Tryz.ntmps123
  go_wp2
  go_region_law (go_simp; go_at_call 149; refine (K1.get (HC.out.alloc _).drew).mono ?_; rintro e w1 ⟨rfl, hg1, hC1⟩; have x1 := ac_start hlt hltm hg1 hC1 #[.int .i64 4, .int .i64 0, .slice none 0 0, .int .i64 0, .int .i64 0, .slice none 0 0, .int .i64 0, .int .i64 0, .slice none 0 0, .slice none 0 0]; have hs1 : w.heap.size < w1.heap.size := x1.lo; have hn1 : w.heap.size ≠ w1.heap.size := (by omega); have hn2 : w1.heap.size ≠ w.heap.size := (by omega); have hB1 := past0 (heap_alloc_new w _) (by simp) ((grown_drew' _ (some bc)).trans hg1) (by simp; omega); have a15_1 := cell_of hB1 15 _ rfl; have a0_1 := cell_of hB1 0 _ rfl)
  all_goals
    go_wp2_with (first | (go_at_call 161; refine (K2.get x1.ck (hR.kept x1.gr (by simpa using Ne.symm hgc))).mono ?_; rintro e w2 ⟨v2, rfl, hown2, hg2, hC2⟩; obtain ⟨va2, vm2, vc2, rfl⟩ := own_slice hown2; have x2 := x1.call0 hg2 hC2; have r9_2 := cell_of x2.hS 9 _ rfl; have z9_2 := frozen_of x2.hS 9; have y2_9 := x2.sf (cs' := #[.int .i64 4, .int .i64 0, .slice none 0 0, .int .i64 0, .int .i64 0, .slice none 0 0, .int .i64 0, .int .i64 0, .slice none 0 0, .slice va2 vm2 vc2]) 9 (.slice va2 vm2 vc2) rfl) | (go_at_call 154; refine (sn_ruleSort _ _).mono ?_; rw [HRS.out]; rintro e w' ⟨rfl, hww⟩; subst w'))
    have xE := y2_9
    generalize (w2.setCell ⟨w1.heap.size, 9, none⟩ (.slice va2 vm2 vc2)) = wj at xE ⊢
    have m2 := xE.ck.c2
    have mf := xE.ck.f2
    have mlt := xE.ck.lt
    have c0 := cell_of xE.hS 0 _ rfl
    have c1 := cell_of xE.hS 1 _ rfl
    have c2 := cell_of xE.hS 2 _ rfl
    have c3 := cell_of xE.hS 3 _ rfl
    have c4 := cell_of xE.hS 4 _ rfl
    have c5 := cell_of xE.hS 5 _ rfl
    have c6 := cell_of xE.hS 6 _ rfl
    have c7 := cell_of xE.hS 7 _ rfl
    have c8 := cell_of xE.hS 8 _ rfl
    have c9 := cell_of xE.hS 9 _ rfl
    have blt := xE.lt
    have hoj := hoC.kept xE.gr (low_ne' hoC hcB)
    have HOWN := Kept.mk ((hoj.kept ((World.grownBy_alloc wj (.cells #[.int .i64 4, .int .i64 0, .slice none 0 0, .int .i64 0, .int .i64 0, .slice none 0 0, .int .i64 0, .int .i64 0, .slice none 0 0, .slice va2 vm2 vc2] 99) none).trans (grown_drew' _ none)) (own_none _)))
    have HNEWS := Kept.mk (World.news_of_block (w := (wj.alloc (.cells #[.int .i64 4, .int .i64 0, .slice none 0 0, .int .i64 0, .int .i64 0, .slice none 0 0, .int .i64 0, .int .i64 0, .slice none 0 0, .slice va2 vm2 vc2] 99)).drew) (cs := #[.int .i64 4, .int .i64 0, .slice none 0 0, .int .i64 0, .int .i64 0, .slice none 0 0, .int .i64 0, .int .i64 0, .slice none 0 0, .slice va2 vm2 vc2]) (t := 99) (fr := (0, 0)) (heap_alloc_new wj _))
    have KEEP : Hid (∀ wA, (wj.alloc (.cells #[.int .i64 4, .int .i64 0, .slice none 0 0, .int .i64 0, .int .i64 0, .slice none 0 0, .int .i64 0, .int .i64 0, .slice none 0 0, .slice va2 vm2 vc2] 99)).drew.grownBy wA (Value.slice ca m cc).ownBlock → wA.frozen? ⟨bc, 2, none⟩ = false ∧ wA.cell? ⟨bc, 2, none⟩ = some (.slice ca m cc)) := fun wA hg => by
      have q := ((xE.ck.alloc _).drew).kept hg (low_ne hoC hcB) (low_ne hoC hmB)
      exact ⟨q.f2, q.c2⟩
    have hBj : B ≤ wj.heap.size := by have := xE.gr.size; omega
    go_region_law ((refine step_append_lies _ (by rfl) _ _ 74 (by rfl) B 99 i0 (.agg #[.int .i64 0, .int .i64 0, .slice none 0 0, .int .i64 0, .int .i64 0, .slice none 0 0, .int .i64 0, .int .i64 0, .slice none 0 0, .slice none 0 0]) 10 144 Tryz.underlying74 hi0 hz0 hz1 hz2 rfl (by decide) (.slice ca m cc) m xs (by rfl) HOWN.get ⟨wj.heap.size, 0, none⟩ 1 1 [.int .i64 4, .int .i64 0, .slice none 0 0, .int .i64 0, .int .i64 0, .slice none 0 0, .int .i64 0, .int .i64 0, .slice none 0 0, .slice va2 vm2 vc2] (by rfl) rfl HNEWS.get (con_one _ _ _ _ _ _ _ _ _ _ _ _ _ _ _ _ _ _) (by decide) (by unfold maxLen; omega) (by omega) (by simp; omega) _ rfl ?_; intro gA capA wA hownA hgrowA hatA hltA; obtain ⟨q1, q2⟩ := KEEP.out wA hgrowA))
    all_goals have R := con_end xE hcB hmB hoC hownA hgrowA
    all_goals clear HOWN HNEWS KEEP hownA hgrowA hatA hltA
    all_goals go_wp2
    all_goals go_end0
    all_goals exact R
end Go.Proofs.YthpcbbnabnlanaaGreatDoor

/-
  The program's checker: a constraint lin.
-/
namespace Go.Proofs.YthpcbbnabnlanaaGreatDoor
open Go.RowKit
set_option linter.unusedVariables false
variable {w : World} {bc bm n : Nat} {g : ByteArray → Th} {vV vC : Value} {st : FSt}

set_option maxRecDepth 100000 in
set_option maxHeartbeats 8000000 in
theorem sn_con_lin (B m : Nat) (xs : List Value) (ca : Option Addr) (cc : Nat) (h : CkS w bc bm n (fun s => thV (g s)) vV (.slice ca m cc) st) (hoC : w.ownsRow B 99 10 (.slice ca m cc) m xs) (hcB : bc < B) (hmB : bm < B) (hBw : B ≤ w.heap.size) (hm : m ≤ 3000) (hv : ThOk g)
    (kw nm rel M : PTok) (names : List PTok) (l : List GTerm) (lits : List GLit) (vn vu v1 vl : Value) (gr cap gru capu : Nat) (hR : RowIn w v1 gr cap gtCell l) (hgc : gr ≠ bc) (hU : RowIn w vu gru capu tokCell [M]) (hgu : gru ≠ bc) (hl : l.length ≤ 3000) (hok : ∀ a ∈ l, TOk a.first ∧ TOk a.name) (hkN : TOk nm) (hkM : TOk M) (hk : rSort (srt kw) = 0) :
    Calls Tryz.prog 123 #[.pointer (some ⟨bc, 0, none⟩), .agg (gsCells ⟨kw, nm, names, [M], l, rel, lits⟩ vn vu v1 vl)] w (ConPost w bc bm n B m g vV (.slice ca m cc) (flt (outB (tval M) 1000000) 5 M.line (foldSt (termStP g) 0 l (flt (decide ((16 : Int) ≤ m)) 6 kw.line st)))) := by
  obtain ⟨i0, hi0, hz0, hz1, hz2⟩ := info_parts infoCo
  have HC : Hid (CkS w bc bm n (fun s => thV (g s)) vV (.slice ca m cc) st) := h
  have hlt := h.lt
  have hltm := h.ltm
  have hc2 := h.c2
  have HRS : Hid (rSort (srt kw) = 0) := hk
  obtain ⟨vC, hvC⟩ : ∃ v, v = Value.slice ca m cc := ⟨_, rfl⟩
  have hy1 := hkM.2.1; have hy2 := hkM.2.2
  obtain rfl := hU.is
  have K1 := Kept.mk (fun {W : World} (hW : CkS W bc bm n (fun s => thV (g s)) vV (.slice ca m cc) st) => sn_room hW kw m 16)
  generalize hS1 : flt (decide ((16 : Int) ≤ m)) 6 kw.line st = S1 at *
  have K2 := Kept.mk (fun {W : World} (hW : CkS W bc bm n (fun s => thV (g s)) vV (.slice ca m cc) S1) (hRW : RowIn W v1 gr cap gtCell l) => sn_terms hW l v1 gr cap hRW hgc hl hok hv)
  generalize hS2 : foldSt (termStP g) 0 l S1 = S2 at *
  have K3 := Kept.mk (fun {W : World} (hW : CkS W bc bm n (fun s => thV (g s)) vV (.slice ca m cc) S2) => sn_number hW M 1000000 (by decide) (by decide))
  generalize hS3 : flt (outB (tval M) 1000000) 5 M.line S2 = S3 at *
  unfold tkV at K1 K3
  unfold gsCells
  simp only
  clear h hk 
  go_enter Tryz.func123, Tryz.ntmps123
  go_wp2
  go_region_law (go_simp; go_at_call 149; refine (K1.get (HC.out.alloc _).drew).mono ?_; rintro e w1 ⟨rfl, hg1, hC1⟩; have x1 := ac_start hlt hltm hg1 hC1 #[.int .i64 0, .int .i64 0, .slice none 0 0, .int .i64 0, .int .i64 0, .slice none 0 0, .int .i64 0, .int .i64 0, .slice none 0 0, .slice none 0 0]; have hs1 : w.heap.size < w1.heap.size := x1.lo; have hn1 : w.heap.size ≠ w1.heap.size := (by omega); have hn2 : w1.heap.size ≠ w.heap.size := (by omega); have hB1 := past0 (heap_alloc_new w _) (by simp) ((grown_drew' _ (some bc)).trans hg1) (by simp; omega); have a0_1 := cell_of hB1 0 _ rfl; have a10_1 := cell_of hB1 10 _ rfl)
  all_goals
    go_wp2_with (first | (go_at_call 157; refine (sn_ruleRel _ _).mono ?_; rintro e w' ⟨rfl, hww⟩; subst w') | (go_at_call 151; refine (K3.get y2_3.ck).mono ?_; rintro e w3 ⟨rfl, hg3, hC3⟩; have x3 := y2_3.call0 hg3 hC3; have r4_3 := cell_of x3.hS 4 _ rfl; have z4_3 := frozen_of x3.hS 4; have y3_4 := x3.sf (cs' := #[.int .i64 0, .int .i64 0, .slice va2 vm2 vc2, .int .i64 (rRel (srt rel)), .int .i64 (tval M), .slice none 0 0, .int .i64 0, .int .i64 0, .slice none 0 0, .slice none 0 0]) 4 (.int .i64 (tval M)) rfl) | (go_at_call 156; refine (K2.get x1.ck (hR.kept x1.gr (by simpa using Ne.symm hgc))).mono ?_; rintro e w2 ⟨v2, rfl, hown2, hg2, hC2⟩; obtain ⟨va2, vm2, vc2, rfl⟩ := own_slice hown2; have x2 := x1.call0 hg2 hC2; have a9_2 := cell_of x2.hA 9 _ rfl; have a11_2 := cell_of x2.hA 11 _ rfl; have r2_2 := cell_of x2.hS 2 _ rfl; have z2_2 := frozen_of x2.hS 2; have r3_2 := cell_of x2.hS 3 _ rfl; have z3_2 := frozen_of x2.hS 3; have y2_2 := x2.sf (cs' := #[.int .i64 0, .int .i64 0, .slice va2 vm2 vc2, .int .i64 0, .int .i64 0, .slice none 0 0, .int .i64 0, .int .i64 0, .slice none 0 0, .slice none 0 0]) 2 (.slice va2 vm2 vc2) rfl; have y2_3 := y2_2.sf (cs' := #[.int .i64 0, .int .i64 0, .slice va2 vm2 vc2, .int .i64 (rRel (srt rel)), .int .i64 0, .slice none 0 0, .int .i64 0, .int .i64 0, .slice none 0 0, .slice none 0 0]) 3 (.int .i64 (rRel (srt rel))) rfl; have q0_2 := (hU.kept x2.gr (by simpa using Ne.symm hgu)).row 0 _ rfl; have q1_2 := (hU.kept x2.gr (by simpa using Ne.symm hgu)).row 1 _ rfl; have q2_2 := (hU.kept x2.gr (by simpa using Ne.symm hgu)).row 2 _ rfl; have q3_2 := (hU.kept x2.gr (by simpa using Ne.symm hgu)).row 3 _ rfl; have hu2 : gru ≠ w1.heap.size := (by have := hU.lt; omega)) | (go_at_call 154; refine (sn_ruleSort _ _).mono ?_; rw [HRS.out]; rintro e w' ⟨rfl, hww⟩; subst w'))
    have xE := y3_4
    generalize (w3.setCell ⟨w1.heap.size, 4, none⟩ (.int .i64 (tval M))) = wj at xE ⊢
    have m2 := xE.ck.c2
    have mf := xE.ck.f2
    have mlt := xE.ck.lt
    have c0 := cell_of xE.hS 0 _ rfl
    have c1 := cell_of xE.hS 1 _ rfl
    have c2 := cell_of xE.hS 2 _ rfl
    have c3 := cell_of xE.hS 3 _ rfl
    have c4 := cell_of xE.hS 4 _ rfl
    have c5 := cell_of xE.hS 5 _ rfl
    have c6 := cell_of xE.hS 6 _ rfl
    have c7 := cell_of xE.hS 7 _ rfl
    have c8 := cell_of xE.hS 8 _ rfl
    have c9 := cell_of xE.hS 9 _ rfl
    have blt := xE.lt
    have hoj := hoC.kept xE.gr (low_ne' hoC hcB)
    have HOWN := Kept.mk ((hoj.kept ((World.grownBy_alloc wj (.cells #[.int .i64 0, .int .i64 0, .slice va2 vm2 vc2, .int .i64 (rRel (srt rel)), .int .i64 (tval M), .slice none 0 0, .int .i64 0, .int .i64 0, .slice none 0 0, .slice none 0 0] 99) none).trans (grown_drew' _ none)) (own_none _)))
    have HNEWS := Kept.mk (World.news_of_block (w := (wj.alloc (.cells #[.int .i64 0, .int .i64 0, .slice va2 vm2 vc2, .int .i64 (rRel (srt rel)), .int .i64 (tval M), .slice none 0 0, .int .i64 0, .int .i64 0, .slice none 0 0, .slice none 0 0] 99)).drew) (cs := #[.int .i64 0, .int .i64 0, .slice va2 vm2 vc2, .int .i64 (rRel (srt rel)), .int .i64 (tval M), .slice none 0 0, .int .i64 0, .int .i64 0, .slice none 0 0, .slice none 0 0]) (t := 99) (fr := (0, 0)) (heap_alloc_new wj _))
    have KEEP : Hid (∀ wA, (wj.alloc (.cells #[.int .i64 0, .int .i64 0, .slice va2 vm2 vc2, .int .i64 (rRel (srt rel)), .int .i64 (tval M), .slice none 0 0, .int .i64 0, .int .i64 0, .slice none 0 0, .slice none 0 0] 99)).drew.grownBy wA (Value.slice ca m cc).ownBlock → wA.frozen? ⟨bc, 2, none⟩ = false ∧ wA.cell? ⟨bc, 2, none⟩ = some (.slice ca m cc)) := fun wA hg => by
      have q := ((xE.ck.alloc _).drew).kept hg (low_ne hoC hcB) (low_ne hoC hmB)
      exact ⟨q.f2, q.c2⟩
    have hBj : B ≤ wj.heap.size := by have := xE.gr.size; omega
    go_region_law ((refine step_append_lies _ (by rfl) _ _ 74 (by rfl) B 99 i0 (.agg #[.int .i64 0, .int .i64 0, .slice none 0 0, .int .i64 0, .int .i64 0, .slice none 0 0, .int .i64 0, .int .i64 0, .slice none 0 0, .slice none 0 0]) 10 144 Tryz.underlying74 hi0 hz0 hz1 hz2 rfl (by decide) (.slice ca m cc) m xs (by rfl) HOWN.get ⟨wj.heap.size, 0, none⟩ 1 1 [.int .i64 0, .int .i64 0, .slice va2 vm2 vc2, .int .i64 (rRel (srt rel)), .int .i64 (tval M), .slice none 0 0, .int .i64 0, .int .i64 0, .slice none 0 0, .slice none 0 0] (by rfl) rfl HNEWS.get (con_one _ _ _ _ _ _ _ _ _ _ _ _ _ _ _ _ _ _) (by decide) (by unfold maxLen; omega) (by omega) (by simp; omega) _ rfl ?_; intro gA capA wA hownA hgrowA hatA hltA; obtain ⟨q1, q2⟩ := KEEP.out wA hgrowA))
    all_goals have R := con_end xE hcB hmB hoC hownA hgrowA
    all_goals clear HOWN HNEWS KEEP hownA hgrowA hatA hltA
    all_goals go_wp2
    all_goals go_end0
    all_goals exact R
end Go.Proofs.YthpcbbnabnlanaaGreatDoor
