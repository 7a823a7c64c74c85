import Derived.Test.YthpcbbnabnlanaaGreatDoorM14
/-
  The program's checker: a constraint diff.
-/
namespace Go.Proofs.YthpcbbnabnlanaaGreatDoor
open Go.RowKit
set_option linter.unusedVariables false
variable {w : World} {bc bm n : Nat} {g : ByteArray → Th} {vV vC : Value} {st : FSt}

set_option maxRecDepth 100000 in
set_option maxHeartbeats 8000000 in
theorem sn_con_diff (B m : Nat) (xs : List Value) (ca : Option Addr) (cc : Nat) (h : CkS w bc bm n (fun s => thV (g s)) vV (.slice ca m cc) st) (hoC : w.ownsRow B 99 10 (.slice ca m cc) m xs) (hcB : bc < B) (hmB : bm < B) (hBw : B ≤ w.heap.size) (hm : m ≤ 3000) (hv : ThOk g)
    (kw nm rel : PTok) (l numbers : List PTok) (terms : List GTerm) (lits : List GLit) (v1 vu vt vl : Value) (gr cap : Nat) (hR : RowIn w v1 gr cap tokCell l) (hgc : gr ≠ bc) (hl : l.length ≤ 3000) (hok : ∀ a ∈ l, TOk a) (hk : rSort (srt kw) = 3) :
    Calls Tryz.prog 123 #[.pointer (some ⟨bc, 0, none⟩), .agg (gsCells ⟨kw, nm, l, numbers, terms, rel, lits⟩ v1 vu vt vl)] w (ConPost w bc bm n B m g vV (.slice ca m cc) (foldSt (varStP g) 0 l (flt (decide ((16 : Int) ≤ m)) 6 kw.line st))) := by
  obtain ⟨i0, hi0, hz0, hz1, hz2⟩ := info_parts infoCo
  have HC : Hid (CkS w bc bm n (fun s => thV (g s)) vV (.slice ca m cc) st) := h
  have hlt := h.lt
  have hltm := h.ltm
  have hc2 := h.c2
  have HRS : Hid (rSort (srt kw) = 3) := hk
  obtain ⟨vC, hvC⟩ : ∃ v, v = Value.slice ca m cc := ⟨_, rfl⟩
  have K1 := Kept.mk (fun {W : World} (hW : CkS W bc bm n (fun s => thV (g s)) vV (.slice ca m cc) st) => sn_room hW kw m 16)
  generalize hS1 : flt (decide ((16 : Int) ≤ m)) 6 kw.line st = S1 at *
  have K2 := Kept.mk (fun {W : World} (hW : CkS W bc bm n (fun s => thV (g s)) vV (.slice ca m cc) S1) (hRW : RowIn W v1 gr cap tokCell l) => sn_variables hW l v1 gr cap hRW hgc hl hok hv)
  generalize hS2 : foldSt (varStP g) 0 l S1 = S2 at *
  unfold tkV at K1
  unfold gsCells
  simp only
  clear h hk 
  go_enter Tryz.func123, Tryz.ntmps123
  go_wp2
  go_region_law (go_simp; go_at_call 149; refine (K1.get (HC.out.alloc _).drew).mono ?_; rintro e w1 ⟨rfl, hg1, hC1⟩; have x1 := ac_start hlt hltm hg1 hC1 #[.int .i64 3, .int .i64 0, .slice none 0 0, .int .i64 0, .int .i64 0, .slice none 0 0, .int .i64 0, .int .i64 0, .slice none 0 0, .slice none 0 0]; have hs1 : w.heap.size < w1.heap.size := x1.lo; have hn1 : w.heap.size ≠ w1.heap.size := (by omega); have hn2 : w1.heap.size ≠ w.heap.size := (by omega); have hB1 := past0 (heap_alloc_new w _) (by simp) ((grown_drew' _ (some bc)).trans hg1) (by simp; omega); have a8_1 := cell_of hB1 8 _ rfl; have a0_1 := cell_of hB1 0 _ rfl)
  all_goals
    go_wp2_with (first | (go_at_call 160; refine (K2.get x1.ck (hR.kept x1.gr (by simpa using Ne.symm hgc))).mono ?_; rintro e w2 ⟨v2, rfl, hown2, hg2, hC2⟩; obtain ⟨va2, vm2, vc2, rfl⟩ := own_slice hown2; have x2 := x1.call0 hg2 hC2; have r8_2 := cell_of x2.hS 8 _ rfl; have z8_2 := frozen_of x2.hS 8; have y2_8 := x2.sf (cs' := #[.int .i64 3, .int .i64 0, .slice none 0 0, .int .i64 0, .int .i64 0, .slice none 0 0, .int .i64 0, .int .i64 0, .slice va2 vm2 vc2, .slice none 0 0]) 8 (.slice va2 vm2 vc2) rfl) | (go_at_call 154; refine (sn_ruleSort _ _).mono ?_; rw [HRS.out]; rintro e w' ⟨rfl, hww⟩; subst w'))
    have xE := y2_8
    generalize (w2.setCell ⟨w1.heap.size, 8, none⟩ (.slice va2 vm2 vc2)) = wj at xE ⊢
    have m2 := xE.ck.c2
    have mf := xE.ck.f2
    have mlt := xE.ck.lt
    have c0 := cell_of xE.hS 0 _ rfl
    have c1 := cell_of xE.hS 1 _ rfl
    have c2 := cell_of xE.hS 2 _ rfl
    have c3 := cell_of xE.hS 3 _ rfl
    have c4 := cell_of xE.hS 4 _ rfl
    have c5 := cell_of xE.hS 5 _ rfl
    have c6 := cell_of xE.hS 6 _ rfl
    have c7 := cell_of xE.hS 7 _ rfl
    have c8 := cell_of xE.hS 8 _ rfl
    have c9 := cell_of xE.hS 9 _ rfl
    have blt := xE.lt
    have hoj := hoC.kept xE.gr (low_ne' hoC hcB)
    have HOWN := Kept.mk ((hoj.kept ((World.grownBy_alloc wj (.cells #[.int .i64 3, .int .i64 0, .slice none 0 0, .int .i64 0, .int .i64 0, .slice none 0 0, .int .i64 0, .int .i64 0, .slice va2 vm2 vc2, .slice none 0 0] 99) none).trans (grown_drew' _ none)) (own_none _)))
    have HNEWS := Kept.mk (World.news_of_block (w := (wj.alloc (.cells #[.int .i64 3, .int .i64 0, .slice none 0 0, .int .i64 0, .int .i64 0, .slice none 0 0, .int .i64 0, .int .i64 0, .slice va2 vm2 vc2, .slice none 0 0] 99)).drew) (cs := #[.int .i64 3, .int .i64 0, .slice none 0 0, .int .i64 0, .int .i64 0, .slice none 0 0, .int .i64 0, .int .i64 0, .slice va2 vm2 vc2, .slice none 0 0]) (t := 99) (fr := (0, 0)) (heap_alloc_new wj _))
    have KEEP : Hid (∀ wA, (wj.alloc (.cells #[.int .i64 3, .int .i64 0, .slice none 0 0, .int .i64 0, .int .i64 0, .slice none 0 0, .int .i64 0, .int .i64 0, .slice va2 vm2 vc2, .slice none 0 0] 99)).drew.grownBy wA (Value.slice ca m cc).ownBlock → wA.frozen? ⟨bc, 2, none⟩ = false ∧ wA.cell? ⟨bc, 2, none⟩ = some (.slice ca m cc)) := fun wA hg => by
      have q := ((xE.ck.alloc _).drew).kept hg (low_ne hoC hcB) (low_ne hoC hmB)
      exact ⟨q.f2, q.c2⟩
    have hBj : B ≤ wj.heap.size := by have := xE.gr.size; omega
    go_region_law ((refine step_append_lies _ (by rfl) _ _ 74 (by rfl) B 99 i0 (.agg #[.int .i64 0, .int .i64 0, .slice none 0 0, .int .i64 0, .int .i64 0, .slice none 0 0, .int .i64 0, .int .i64 0, .slice none 0 0, .slice none 0 0]) 10 144 Tryz.underlying74 hi0 hz0 hz1 hz2 rfl (by decide) (.slice ca m cc) m xs (by rfl) HOWN.get ⟨wj.heap.size, 0, none⟩ 1 1 [.int .i64 3, .int .i64 0, .slice none 0 0, .int .i64 0, .int .i64 0, .slice none 0 0, .int .i64 0, .int .i64 0, .slice va2 vm2 vc2, .slice none 0 0] (by rfl) rfl HNEWS.get (con_one _ _ _ _ _ _ _ _ _ _ _ _ _ _ _ _ _ _) (by decide) (by unfold maxLen; omega) (by omega) (by simp; omega) _ rfl ?_; intro gA capA wA hownA hgrowA hatA hltA; obtain ⟨q1, q2⟩ := KEEP.out wA hgrowA))
    all_goals have R := con_end xE hcB hmB hoC hownA hgrowA
    all_goals clear HOWN HNEWS KEEP hownA hgrowA hatA hltA
    all_goals go_wp2
    all_goals go_end0
    all_goals exact R
end Go.Proofs.YthpcbbnabnlanaaGreatDoor

/-
  The program's checker: a constraint or.
-/
namespace Go.Proofs.YthpcbbnabnlanaaGreatDoor
open Go.RowKit
set_option linter.unusedVariables false
variable {w : World} {bc bm n : Nat} {g : ByteArray → Th} {vV vC : Value} {st : FSt}

set_option maxRecDepth 100000 in
set_option maxHeartbeats 8000000 in
theorem sn_con_or (B m : Nat) (xs : List Value) (ca : Option Addr) (cc : Nat) (h : CkS w bc bm n (fun s => thV (g s)) vV (.slice ca m cc) st) (hoC : w.ownsRow B 99 10 (.slice ca m cc) m xs) (hcB : bc < B) (hmB : bm < B) (hBw : B ≤ w.heap.size) (hm : m ≤ 3000) (hv : ThOk g)
    (kw nm rel : PTok) (names numbers : List PTok) (terms : List GTerm) (l : List GLit) (vn vu vt v1 : Value) (gr cap : Nat) (hR : RowIn w v1 gr cap glCell l) (hgc : gr ≠ bc) (hl : l.length ≤ 3000) (hok : ∀ a ∈ l, TOk a.first ∧ TOk a.name) (hk : rSort (srt kw) = 4) :
    Calls Tryz.prog 123 #[.pointer (some ⟨bc, 0, none⟩), .agg (gsCells ⟨kw, nm, names, numbers, terms, rel, l⟩ vn vu vt v1)] w (ConPost w bc bm n B m g vV (.slice ca m cc) (foldSt (litStP g) 0 l (flt (decide ((16 : Int) ≤ m)) 6 kw.line st))) := by
  obtain ⟨i0, hi0, hz0, hz1, hz2⟩ := info_parts infoCo
  have HC : Hid (CkS w bc bm n (fun s => thV (g s)) vV (.slice ca m cc) st) := h
  have hlt := h.lt
  have hltm := h.ltm
  have hc2 := h.c2
  have HRS : Hid (rSort (srt kw) = 4) := hk
  obtain ⟨vC, hvC⟩ : ∃ v, v = Value.slice ca m cc := ⟨_, rfl⟩
  have K1 := Kept.mk (fun {W : World} (hW : CkS W bc bm n (fun s => thV (g s)) vV (.slice ca m cc) st) => sn_room hW kw m 16)
  generalize hS1 : flt (decide ((16 : Int) ≤ m)) 6 kw.line st = S1 at *
  have K2 := Kept.mk (fun {W : World} (hW : CkS W bc bm n (fun s => thV (g s)) vV (.slice ca m cc) S1) (hRW : RowIn W v1 gr cap glCell l) => sn_lits hW l v1 gr cap hRW hgc hl hok hv)
  generalize hS2 : foldSt (litStP g) 0 l S1 = S2 at *
  unfold tkV at K1
  unfold gsCells
  simp only
  clear h hk 
  go_enter Tryz.func123, Tryz.ntmps123
  go_wp2
  go_region_law (go_simp; go_at_call 149; refine (K1.get (HC.out.alloc _).drew).mono ?_; rintro e w1 ⟨rfl, hg1, hC1⟩; have x1 := ac_start hlt hltm hg1 hC1 #[.int .i64 4, .int .i64 0, .slice none 0 0, .int .i64 0, .int .i64 0, .slice none 0 0, .int .i64 0, .int .i64 0, .slice none 0 0, .slice none 0 0]; have hs1 : w.heap.size < w1.heap.size := x1.lo; have hn1 : w.heap.size ≠ w1.heap.size := (by omega); have hn2 : w1.heap.size ≠ w.heap.size := (by omega); have hB1 := past0 (heap_alloc_new w _) (by simp) ((grown_drew' _ (some bc)).trans hg1) (by simp; omega); have a15_1 := cell_of hB1 15 _ rfl; have a0_1 := cell_of hB1 0 _ rfl)
  all_goals
    go_wp2_with (first | (go_at_call 161; refine (K2.get x1.ck (hR.kept x1.gr (by simpa using Ne.symm hgc))).mono ?_; rintro e w2 ⟨v2, rfl, hown2, hg2, hC2⟩; obtain ⟨va2, vm2, vc2, rfl⟩ := own_slice hown2; have x2 := x1.call0 hg2 hC2; have r9_2 := cell_of x2.hS 9 _ rfl; have z9_2 := frozen_of x2.hS 9; have y2_9 := x2.sf (cs' := #[.int .i64 4, .int .i64 0, .slice none 0 0, .int .i64 0, .int .i64 0, .slice none 0 0, .int .i64 0, .int .i64 0, .slice none 0 0, .slice va2 vm2 vc2]) 9 (.slice va2 vm2 vc2) rfl) | (go_at_call 154; refine (sn_ruleSort _ _).mono ?_; rw [HRS.out]; rintro e w' ⟨rfl, hww⟩; subst w'))
    have xE := y2_9
    generalize (w2.setCell ⟨w1.heap.size, 9, none⟩ (.slice va2 vm2 vc2)) = wj at xE ⊢
    have m2 := xE.ck.c2
    have mf := xE.ck.f2
    have mlt := xE.ck.lt
    have c0 := cell_of xE.hS 0 _ rfl
    have c1 := cell_of xE.hS 1 _ rfl
    have c2 := cell_of xE.hS 2 _ rfl
    have c3 := cell_of xE.hS 3 _ rfl
    have c4 := cell_of xE.hS 4 _ rfl
    have c5 := cell_of xE.hS 5 _ rfl
    have c6 := cell_of xE.hS 6 _ rfl
    have c7 := cell_of xE.hS 7 _ rfl
    have c8 := cell_of xE.hS 8 _ rfl
    have c9 := cell_of xE.hS 9 _ rfl
    have blt := xE.lt
    have hoj := hoC.kept xE.gr (low_ne' hoC hcB)
    have HOWN := Kept.mk ((hoj.kept ((World.grownBy_alloc wj (.cells #[.int .i64 4, .int .i64 0, .slice none 0 0, .int .i64 0, .int .i64 0, .slice none 0 0, .int .i64 0, .int .i64 0, .slice none 0 0, .slice va2 vm2 vc2] 99) none).trans (grown_drew' _ none)) (own_none _)))
    have HNEWS := Kept.mk (World.news_of_block (w := (wj.alloc (.cells #[.int .i64 4, .int .i64 0, .slice none 0 0, .int .i64 0, .int .i64 0, .slice none 0 0, .int .i64 0, .int .i64 0, .slice none 0 0, .slice va2 vm2 vc2] 99)).drew) (cs := #[.int .i64 4, .int .i64 0, .slice none 0 0, .int .i64 0, .int .i64 0, .slice none 0 0, .int .i64 0, .int .i64 0, .slice none 0 0, .slice va2 vm2 vc2]) (t := 99) (fr := (0, 0)) (heap_alloc_new wj _))
    have KEEP : Hid (∀ wA, (wj.alloc (.cells #[.int .i64 4, .int .i64 0, .slice none 0 0, .int .i64 0, .int .i64 0, .slice none 0 0, .int .i64 0, .int .i64 0, .slice none 0 0, .slice va2 vm2 vc2] 99)).drew.grownBy wA (Value.slice ca m cc).ownBlock → wA.frozen? ⟨bc, 2, none⟩ = false ∧ wA.cell? ⟨bc, 2, none⟩ = some (.slice ca m cc)) := fun wA hg => by
      have q := ((xE.ck.alloc _).drew).kept hg (low_ne hoC hcB) (low_ne hoC hmB)
      exact ⟨q.f2, q.c2⟩
    have hBj : B ≤ wj.heap.size := by have := xE.gr.size; omega
    go_region_law ((refine step_append_lies _ (by rfl) _ _ 74 (by rfl) B 99 i0 (.agg #[.int .i64 0, .int .i64 0, .slice none 0 0, .int .i64 0, .int .i64 0, .slice none 0 0, .int .i64 0, .int .i64 0, .slice none 0 0, .slice none 0 0]) 10 144 Tryz.underlying74 hi0 hz0 hz1 hz2 rfl (by decide) (.slice ca m cc) m xs (by rfl) HOWN.get ⟨wj.heap.size, 0, none⟩ 1 1 [.int .i64 4, .int .i64 0, .slice none 0 0, .int .i64 0, .int .i64 0, .slice none 0 0, .int .i64 0, .int .i64 0, .slice none 0 0, .slice va2 vm2 vc2] (by rfl) rfl HNEWS.get (con_one _ _ _ _ _ _ _ _ _ _ _ _ _ _ _ _ _ _) (by decide) (by unfold maxLen; omega) (by omega) (by simp; omega) _ rfl ?_; intro gA capA wA hownA hgrowA hatA hltA; obtain ⟨q1, q2⟩ := KEEP.out wA hgrowA))
    all_goals have R := con_end xE hcB hmB hoC hownA hgrowA
    all_goals clear HOWN HNEWS KEEP hownA hgrowA hatA hltA
    all_goals go_wp2
    all_goals go_end0
    all_goals exact R
end Go.Proofs.YthpcbbnabnlanaaGreatDoor

/-
  The program's checker: a constraint lin.
-/
namespace Go.Proofs.YthpcbbnabnlanaaGreatDoor
open Go.RowKit
set_option linter.unusedVariables false
variable {w : World} {bc bm n : Nat} {g : ByteArray → Th} {vV vC : Value} {st : FSt}

set_option maxRecDepth 100000 in
set_option maxHeartbeats 8000000 in
theorem sn_con_lin (B m : Nat) (xs : List Value) (ca : Option Addr) (cc : Nat) (h : CkS w bc bm n (fun s => thV (g s)) vV (.slice ca m cc) st) (hoC : w.ownsRow B 99 10 (.slice ca m cc) m xs) (hcB : bc < B) (hmB : bm < B) (hBw : B ≤ w.heap.size) (hm : m ≤ 3000) (hv : ThOk g)
    (kw nm rel M : PTok) (names : List PTok) (l : List GTerm) (lits : List GLit) (vn vu v1 vl : Value) (gr cap gru capu : Nat) (hR : RowIn w v1 gr cap gtCell l) (hgc : gr ≠ bc) (hU : RowIn w vu gru capu tokCell [M]) (hgu : gru ≠ bc) (hl : l.length ≤ 3000) (hok : ∀ a ∈ l, TOk a.first ∧ TOk a.name) (hkN : TOk nm) (hkM : TOk M) (hk : rSort (srt kw) = 0) :
    Calls Tryz.prog 123 #[.pointer (some ⟨bc, 0, none⟩), .agg (gsCells ⟨kw, nm, names, [M], l, rel, lits⟩ vn vu v1 vl)] w (ConPost w bc bm n B m g vV (.slice ca m cc) (flt (outB (tval M) 1000000) 5 M.line (foldSt (termStP g) 0 l (flt (decide ((16 : Int) ≤ m)) 6 kw.line st)))) := by
  obtain ⟨i0, hi0, hz0, hz1, hz2⟩ := info_parts infoCo
  have HC : Hid (CkS w bc bm n (fun s => thV (g s)) vV (.slice ca m cc) st) := h
  have hlt := h.lt
  have hltm := h.ltm
  have hc2 := h.c2
  have HRS : Hid (rSort (srt kw) = 0) := hk
  obtain ⟨vC, hvC⟩ : ∃ v, v = Value.slice ca m cc := ⟨_, rfl⟩
  have hy1 := hkM.2.1; have hy2 := hkM.2.2
  obtain rfl := hU.is
  have K1 := Kept.mk (fun {W : World} (hW : CkS W bc bm n (fun s => thV (g s)) vV (.slice ca m cc) st) => sn_room hW kw m 16)
  generalize hS1 : flt (decide ((16 : Int) ≤ m)) 6 kw.line st = S1 at *
  have K2 := Kept.mk (fun {W : World} (hW : CkS W bc bm n (fun s => thV (g s)) vV (.slice ca m cc) S1) (hRW : RowIn W v1 gr cap gtCell l) => sn_terms hW l v1 gr cap hRW hgc hl hok hv)
  generalize hS2 : foldSt (termStP g) 0 l S1 = S2 at *
  have K3 := Kept.mk (fun {W : World} (hW : CkS W bc bm n (fun s => thV (g s)) vV (.slice ca m cc) S2) => sn_number hW M 1000000 (by decide) (by decide))
  generalize hS3 : flt (outB (tval M) 1000000) 5 M.line S2 = S3 at *
  unfold tkV at K1 K3
  unfold gsCells
  simp only
  clear h hk 
  go_enter Tryz.func123, Tryz.ntmps123
  go_wp2
  go_region_law (go_simp; go_at_call 149; refine (K1.get (HC.out.alloc _).drew).mono ?_; rintro e w1 ⟨rfl, hg1, hC1⟩; have x1 := ac_start hlt hltm hg1 hC1 #[.int .i64 0, .int .i64 0, .slice none 0 0, .int .i64 0, .int .i64 0, .slice none 0 0, .int .i64 0, .int .i64 0, .slice none 0 0, .slice none 0 0]; have hs1 : w.heap.size < w1.heap.size := x1.lo; have hn1 : w.heap.size ≠ w1.heap.size := (by omega); have hn2 : w1.heap.size ≠ w.heap.size := (by omega); have hB1 := past0 (heap_alloc_new w _) (by simp) ((grown_drew' _ (some bc)).trans hg1) (by simp; omega); have a0_1 := cell_of hB1 0 _ rfl; have a10_1 := cell_of hB1 10 _ rfl)
  all_goals
    go_wp2_with (first | (go_at_call 157; refine (sn_ruleRel _ _).mono ?_; rintro e w' ⟨rfl, hww⟩; subst w') | (go_at_call 151; refine (K3.get y2_3.ck).mono ?_; rintro e w3 ⟨rfl, hg3, hC3⟩; have x3 := y2_3.call0 hg3 hC3; have r4_3 := cell_of x3.hS 4 _ rfl; have z4_3 := frozen_of x3.hS 4; have y3_4 := x3.sf (cs' := #[.int .i64 0, .int .i64 0, .slice va2 vm2 vc2, .int .i64 (rRel (srt rel)), .int .i64 (tval M), .slice none 0 0, .int .i64 0, .int .i64 0, .slice none 0 0, .slice none 0 0]) 4 (.int .i64 (tval M)) rfl) | (go_at_call 156; refine (K2.get x1.ck (hR.kept x1.gr (by simpa using Ne.symm hgc))).mono ?_; rintro e w2 ⟨v2, rfl, hown2, hg2, hC2⟩; obtain ⟨va2, vm2, vc2, rfl⟩ := own_slice hown2; have x2 := x1.call0 hg2 hC2; have a9_2 := cell_of x2.hA 9 _ rfl; have a11_2 := cell_of x2.hA 11 _ rfl; have r2_2 := cell_of x2.hS 2 _ rfl; have z2_2 := frozen_of x2.hS 2; have r3_2 := cell_of x2.hS 3 _ rfl; have z3_2 := frozen_of x2.hS 3; have y2_2 := x2.sf (cs' := #[.int .i64 0, .int .i64 0, .slice va2 vm2 vc2, .int .i64 0, .int .i64 0, .slice none 0 0, .int .i64 0, .int .i64 0, .slice none 0 0, .slice none 0 0]) 2 (.slice va2 vm2 vc2) rfl; have y2_3 := y2_2.sf (cs' := #[.int .i64 0, .int .i64 0, .slice va2 vm2 vc2, .int .i64 (rRel (srt rel)), .int .i64 0, .slice none 0 0, .int .i64 0, .int .i64 0, .slice none 0 0, .slice none 0 0]) 3 (.int .i64 (rRel (srt rel))) rfl; have q0_2 := (hU.kept x2.gr (by simpa using Ne.symm hgu)).row 0 _ rfl; have q1_2 := (hU.kept x2.gr (by simpa using Ne.symm hgu)).row 1 _ rfl; have q2_2 := (hU.kept x2.gr (by simpa using Ne.symm hgu)).row 2 _ rfl; have q3_2 := (hU.kept x2.gr (by simpa using Ne.symm hgu)).row 3 _ rfl; have hu2 : gru ≠ w1.heap.size := (by have := hU.lt; omega)) | (go_at_call 154; refine (sn_ruleSort _ _).mono ?_; rw [HRS.out]; rintro e w' ⟨rfl, hww⟩; subst w'))
    have xE := y3_4
    generalize (w3.setCell ⟨w1.heap.size, 4, none⟩ (.int .i64 (tval M))) = wj at xE ⊢
    have m2 := xE.ck.c2
    have mf := xE.ck.f2
    have mlt := xE.ck.lt
    have c0 := cell_of xE.hS 0 _ rfl
    have c1 := cell_of xE.hS 1 _ rfl
    have c2 := cell_of xE.hS 2 _ rfl
    have c3 := cell_of xE.hS 3 _ rfl
    have c4 := cell_of xE.hS 4 _ rfl
    have c5 := cell_of xE.hS 5 _ rfl
    have c6 := cell_of xE.hS 6 _ rfl
    have c7 := cell_of xE.hS 7 _ rfl
    have c8 := cell_of xE.hS 8 _ rfl
    have c9 := cell_of xE.hS 9 _ rfl
    have blt := xE.lt
    have hoj := hoC.kept xE.gr (low_ne' hoC hcB)
    have HOWN := Kept.mk ((hoj.kept ((World.grownBy_alloc wj (.cells #[.int .i64 0, .int .i64 0, .slice va2 vm2 vc2, .int .i64 (rRel (srt rel)), .int .i64 (tval M), .slice none 0 0, .int .i64 0, .int .i64 0, .slice none 0 0, .slice none 0 0] 99) none).trans (grown_drew' _ none)) (own_none _)))
    have HNEWS := Kept.mk (World.news_of_block (w := (wj.alloc (.cells #[.int .i64 0, .int .i64 0, .slice va2 vm2 vc2, .int .i64 (rRel (srt rel)), .int .i64 (tval M), .slice none 0 0, .int .i64 0, .int .i64 0, .slice none 0 0, .slice none 0 0] 99)).drew) (cs := #[.int .i64 0, .int .i64 0, .slice va2 vm2 vc2, .int .i64 (rRel (srt rel)), .int .i64 (tval M), .slice none 0 0, .int .i64 0, .int .i64 0, .slice none 0 0, .slice none 0 0]) (t := 99) (fr := (0, 0)) (heap_alloc_new wj _))
    have KEEP : Hid (∀ wA, (wj.alloc (.cells #[.int .i64 0, .int .i64 0, .slice va2 vm2 vc2, .int .i64 (rRel (srt rel)), .int .i64 (tval M), .slice none 0 0, .int .i64 0, .int .i64 0, .slice none 0 0, .slice none 0 0] 99)).drew.grownBy wA (Value.slice ca m cc).ownBlock → wA.frozen? ⟨bc, 2, none⟩ = false ∧ wA.cell? ⟨bc, 2, none⟩ = some (.slice ca m cc)) := fun wA hg => by
      have q := ((xE.ck.alloc _).drew).kept hg (low_ne hoC hcB) (low_ne hoC hmB)
      exact ⟨q.f2, q.c2⟩
    have hBj : B ≤ wj.heap.size := by have := xE.gr.size; omega
    go_region_law ((refine step_append_lies _ (by rfl) _ _ 74 (by rfl) B 99 i0 (.agg #[.int .i64 0, .int .i64 0, .slice none 0 0, .int .i64 0, .int .i64 0, .slice none 0 0, .int .i64 0, .int .i64 0, .slice none 0 0, .slice none 0 0]) 10 144 Tryz.underlying74 hi0 hz0 hz1 hz2 rfl (by decide) (.slice ca m cc) m xs (by rfl) HOWN.get ⟨wj.heap.size, 0, none⟩ 1 1 [.int .i64 0, .int .i64 0, .slice va2 vm2 vc2, .int .i64 (rRel (srt rel)), .int .i64 (tval M), .slice none 0 0, .int .i64 0, .int .i64 0, .slice none 0 0, .slice none 0 0] (by rfl) rfl HNEWS.get (con_one _ _ _ _ _ _ _ _ _ _ _ _ _ _ _ _ _ _) (by decide) (by unfold maxLen; omega) (by omega) (by simp; omega) _ rfl ?_; intro gA capA wA hownA hgrowA hatA hltA; obtain ⟨q1, q2⟩ := KEEP.out wA hgrowA))
    all_goals have R := con_end xE hcB hmB hoC hownA hgrowA
    all_goals clear HOWN HNEWS KEEP hownA hgrowA hatA hltA
    all_goals go_wp2
    all_goals go_end0
    all_goals exact R
end Go.Proofs.YthpcbbnabnlanaaGreatDoor

/-
  The program's checker: a constraint when.
-/
namespace Go.Proofs.YthpcbbnabnlanaaGreatDoor
open Go.RowKit
set_option linter.unusedVariables false
variable {w : World} {bc bm n : Nat} {g : ByteArray → Th} {vV vC : Value} {st : FSt}

set_option maxRecDepth 100000 in
set_option maxHeartbeats 8000000 in
theorem sn_con_when (B m : Nat) (xs : List Value) (ca : Option Addr) (cc : Nat) (h : CkS w bc bm n (fun s => thV (g s)) vV (.slice ca m cc) st) (hoC : w.ownsRow B 99 10 (.slice ca m cc) m xs) (hcB : bc < B) (hmB : bm < B) (hBw : B ≤ w.heap.size) (hm : m ≤ 3000) (hv : ThOk g)
    (kw nm rel M : PTok) (names : List PTok) (l : List GTerm) (lits : List GLit) (vn vu v1 vl : Value) (gr cap gru capu : Nat) (hR : RowIn w v1 gr cap gtCell l) (hgc : gr ≠ bc) (hU : RowIn w vu gru capu tokCell [M]) (hgu : gru ≠ bc) (hl : l.length ≤ 3000) (hok : ∀ a ∈ l, TOk a.first ∧ TOk a.name) (hkN : TOk nm) (hkM : TOk M) (hk : rSort (srt kw) = 1) :
    Calls Tryz.prog 123 #[.pointer (some ⟨bc, 0, none⟩), .agg (gsCells ⟨kw, nm, names, [M], l, rel, lits⟩ vn vu v1 vl)] w (ConPost w bc bm n B m g vV (.slice ca m cc) (flt (outB (tval M) 1000000) 5 M.line (foldSt (termStP g) 0 l (flt (noTruthT (thFind g nm.s 4)) 7 nm.line (flt ((g nm.s).so != 4) 4 nm.line (flt (decide ((16 : Int) ≤ m)) 6 kw.line st)))))) := by
  obtain ⟨i0, hi0, hz0, hz1, hz2⟩ := info_parts infoCo
  have HC : Hid (CkS w bc bm n (fun s => thV (g s)) vV (.slice ca m cc) st) := h
  have hlt := h.lt
  have hltm := h.ltm
  have hc2 := h.c2
  have HRS : Hid (rSort (srt kw) = 1) := hk
  obtain ⟨vC, hvC⟩ : ∃ v, v = Value.slice ca m cc := ⟨_, rfl⟩
  have hy1 := hkM.2.1; have hy2 := hkM.2.2
  obtain rfl := hU.is
  have K1 := Kept.mk (fun {W : World} (hW : CkS W bc bm n (fun s => thV (g s)) vV (.slice ca m cc) st) => sn_room hW kw m 16)
  generalize hS1 : flt (decide ((16 : Int) ≤ m)) 6 kw.line st = S1 at *
  have K2 := Kept.mk (fun {W : World} (hW : CkS W bc bm n (fun s => thV (g s)) vV (.slice ca m cc) S1) => sn_truth hW nm hkN.1 hv)
  generalize hS2 : flt (noTruthT (thFind g nm.s 4)) 7 nm.line (flt ((g nm.s).so != 4) 4 nm.line S1) = S2 at *
  have K3 := Kept.mk (fun {W : World} (hW : CkS W bc bm n (fun s => thV (g s)) vV (.slice ca m cc) S2) (hRW : RowIn W v1 gr cap gtCell l) => sn_terms hW l v1 gr cap hRW hgc hl hok hv)
  generalize hS3 : foldSt (termStP g) 0 l S2 = S3 at *
  have K4 := Kept.mk (fun {W : World} (hW : CkS W bc bm n (fun s => thV (g s)) vV (.slice ca m cc) S3) => sn_number hW M 1000000 (by decide) (by decide))
  generalize hS4 : flt (outB (tval M) 1000000) 5 M.line S3 = S4 at *
  unfold tkV at K1 K2 K4
  unfold gsCells
  simp only
  clear h hk 
  go_enter Tryz.func123, Tryz.ntmps123
  go_wp2
  go_region_law (go_simp; go_at_call 149; refine (K1.get (HC.out.alloc _).drew).mono ?_; rintro e w1 ⟨rfl, hg1, hC1⟩; have x1 := ac_start hlt hltm hg1 hC1 #[.int .i64 1, .int .i64 0, .slice none 0 0, .int .i64 0, .int .i64 0, .slice none 0 0, .int .i64 0, .int .i64 0, .slice none 0 0, .slice none 0 0]; have hs1 : w.heap.size < w1.heap.size := x1.lo; have hn1 : w.heap.size ≠ w1.heap.size := (by omega); have hn2 : w1.heap.size ≠ w.heap.size := (by omega); have hB1 := past0 (heap_alloc_new w _) (by simp) ((grown_drew' _ (some bc)).trans hg1) (by simp; omega); have a0_1 := cell_of hB1 0 _ rfl; have a4_1 := cell_of hB1 4 _ rfl; have a5_1 := cell_of hB1 5 _ rfl; have a6_1 := cell_of hB1 6 _ rfl; have a7_1 := cell_of hB1 7 _ rfl)
  all_goals
    go_wp2_with (first | (go_at_call 157; refine (sn_ruleRel _ _).mono ?_; rintro e w' ⟨rfl, hww⟩; subst w') | (go_at_call 151; refine (K4.get y3_3.ck).mono ?_; rintro e w4 ⟨rfl, hg4, hC4⟩; have x4 := y3_3.call0 hg4 hC4; have r4_4 := cell_of x4.hS 4 _ rfl; have z4_4 := frozen_of x4.hS 4; have y4_4 := x4.sf (cs' := #[.int .i64 1, .int .i64 (thFind g nm.s 4).pl, .slice va3 vm3 vc3, .int .i64 (rRel (srt rel)), .int .i64 (tval M), .slice none 0 0, .int .i64 0, .int .i64 0, .slice none 0 0, .slice none 0 0]) 4 (.int .i64 (tval M)) rfl) | (go_at_call 156; refine (K3.get y2_1.ck (hR.kept y2_1.gr (by simpa using Ne.symm hgc))).mono ?_; rintro e w3 ⟨v3, rfl, hown3, hg3, hC3⟩; obtain ⟨va3, vm3, vc3, rfl⟩ := own_slice hown3; have x3 := y2_1.call0 hg3 hC3; have a9_3 := cell_of x3.hA 9 _ rfl; have a11_3 := cell_of x3.hA 11 _ rfl; have r2_3 := cell_of x3.hS 2 _ rfl; have z2_3 := frozen_of x3.hS 2; have r3_3 := cell_of x3.hS 3 _ rfl; have z3_3 := frozen_of x3.hS 3; have y3_2 := x3.sf (cs' := #[.int .i64 1, .int .i64 (thFind g nm.s 4).pl, .slice va3 vm3 vc3, .int .i64 0, .int .i64 0, .slice none 0 0, .int .i64 0, .int .i64 0, .slice none 0 0, .slice none 0 0]) 2 (.slice va3 vm3 vc3) rfl; have y3_3 := y3_2.sf (cs' := #[.int .i64 1, .int .i64 (thFind g nm.s 4).pl, .slice va3 vm3 vc3, .int .i64 (rRel (srt rel)), .int .i64 0, .slice none 0 0, .int .i64 0, .int .i64 0, .slice none 0 0, .slice none 0 0]) 3 (.int .i64 (rRel (srt rel))) rfl; have q0_3 := (hU.kept x3.gr (by simpa using Ne.symm hgu)).row 0 _ rfl; have q1_3 := (hU.kept x3.gr (by simpa using Ne.symm hgu)).row 1 _ rfl; have q2_3 := (hU.kept x3.gr (by simpa using Ne.symm hgu)).row 2 _ rfl; have q3_3 := (hU.kept x3.gr (by simpa using Ne.symm hgu)).row 3 _ rfl; have hu3 : gru ≠ w1.heap.size := (by have := hU.lt; omega)) | (go_at_call 155; refine (K2.get x1.ck).mono ?_; rintro e w2 ⟨rfl, hg2, hC2⟩; have x2 := x1.call0 hg2 hC2; have a10_2 := cell_of x2.hA 10 _ rfl; have r1_2 := cell_of x2.hS 1 _ rfl; have z1_2 := frozen_of x2.hS 1; have y2_1 := x2.sf (cs' := #[.int .i64 1, .int .i64 (thFind g nm.s 4).pl, .slice none 0 0, .int .i64 0, .int .i64 0, .slice none 0 0, .int .i64 0, .int .i64 0, .slice none 0 0, .slice none 0 0]) 1 (.int .i64 (thFind g nm.s 4).pl) rfl) | (go_at_call 154; refine (sn_ruleSort _ _).mono ?_; rw [HRS.out]; rintro e w' ⟨rfl, hww⟩; subst w'))
    have xE := y4_4
    generalize (w4.setCell ⟨w1.heap.size, 4, none⟩ (.int .i64 (tval M))) = wj at xE ⊢
    have m2 := xE.ck.c2
    have mf := xE.ck.f2
    have mlt := xE.ck.lt
    have c0 := cell_of xE.hS 0 _ rfl
    have c1 := cell_of xE.hS 1 _ rfl
    have c2 := cell_of xE.hS 2 _ rfl
    have c3 := cell_of xE.hS 3 _ rfl
    have c4 := cell_of xE.hS 4 _ rfl
    have c5 := cell_of xE.hS 5 _ rfl
    have c6 := cell_of xE.hS 6 _ rfl
    have c7 := cell_of xE.hS 7 _ rfl
    have c8 := cell_of xE.hS 8 _ rfl
    have c9 := cell_of xE.hS 9 _ rfl
    have blt := xE.lt
    have hoj := hoC.kept xE.gr (low_ne' hoC hcB)
    have HOWN := Kept.mk ((hoj.kept ((World.grownBy_alloc wj (.cells #[.int .i64 1, .int .i64 (thFind g nm.s 4).pl, .slice va3 vm3 vc3, .int .i64 (rRel (srt rel)), .int .i64 (tval M), .slice none 0 0, .int .i64 0, .int .i64 0, .slice none 0 0, .slice none 0 0] 99) none).trans (grown_drew' _ none)) (own_none _)))
    have HNEWS := Kept.mk (World.news_of_block (w := (wj.alloc (.cells #[.int .i64 1, .int .i64 (thFind g nm.s 4).pl, .slice va3 vm3 vc3, .int .i64 (rRel (srt rel)), .int .i64 (tval M), .slice none 0 0, .int .i64 0, .int .i64 0, .slice none 0 0, .slice none 0 0] 99)).drew) (cs := #[.int .i64 1, .int .i64 (thFind g nm.s 4).pl, .slice va3 vm3 vc3, .int .i64 (rRel (srt rel)), .int .i64 (tval M), .slice none 0 0, .int .i64 0, .int .i64 0, .slice none 0 0, .slice none 0 0]) (t := 99) (fr := (0, 0)) (heap_alloc_new wj _))
    have KEEP : Hid (∀ wA, (wj.alloc (.cells #[.int .i64 1, .int .i64 (thFind g nm.s 4).pl, .slice va3 vm3 vc3, .int .i64 (rRel (srt rel)), .int .i64 (tval M), .slice none 0 0, .int .i64 0, .int .i64 0, .slice none 0 0, .slice none 0 0] 99)).drew.grownBy wA (Value.slice ca m cc).ownBlock → wA.frozen? ⟨bc, 2, none⟩ = false ∧ wA.cell? ⟨bc, 2, none⟩ = some (.slice ca m cc)) := fun wA hg => by
      have q := ((xE.ck.alloc _).drew).kept hg (low_ne hoC hcB) (low_ne hoC hmB)
      exact ⟨q.f2, q.c2⟩
    have hBj : B ≤ wj.heap.size := by have := xE.gr.size; omega
    go_region_law ((refine step_append_lies _ (by rfl) _ _ 74 (by rfl) B 99 i0 (.agg #[.int .i64 0, .int .i64 0, .slice none 0 0, .int .i64 0, .int .i64 0, .slice none 0 0, .int .i64 0, .int .i64 0, .slice none 0 0, .slice none 0 0]) 10 144 Tryz.underlying74 hi0 hz0 hz1 hz2 rfl (by decide) (.slice ca m cc) m xs (by rfl) HOWN.get ⟨wj.heap.size, 0, none⟩ 1 1 [.int .i64 1, .int .i64 (thFind g nm.s 4).pl, .slice va3 vm3 vc3, .int .i64 (rRel (srt rel)), .int .i64 (tval M), .slice none 0 0, .int .i64 0, .int .i64 0, .slice none 0 0, .slice none 0 0] (by rfl) rfl HNEWS.get (con_one _ _ _ _ _ _ _ _ _ _ _ _ _ _ _ _ _ _) (by decide) (by unfold maxLen; omega) (by omega) (by simp; omega) _ rfl ?_; intro gA capA wA hownA hgrowA hatA hltA; obtain ⟨q1, q2⟩ := KEEP.out wA hgrowA))
    all_goals have R := con_end xE hcB hmB hoC hownA hgrowA
    all_goals clear HOWN HNEWS KEEP hownA hgrowA hatA hltA
    all_goals go_wp2
    all_goals go_end0
    all_goals exact R
end Go.Proofs.YthpcbbnabnlanaaGreatDoor

/-
  The program's checker: a constraint at.
-/
namespace Go.Proofs.YthpcbbnabnlanaaGreatDoor
open Go.RowKit
set_option linter.unusedVariables false
variable {w : World} {bc bm n : Nat} {g : ByteArray → Th} {vV vC : Value} {st : FSt}

set_option maxRecDepth 100000 in
set_option maxHeartbeats 8000000 in
theorem sn_con_at (B m : Nat) (xs : List Value) (ca : Option Addr) (cc : Nat) (h : CkS w bc bm n (fun s => thV (g s)) vV (.slice ca m cc) st) (hoC : w.ownsRow B 99 10 (.slice ca m cc) m xs) (hcB : bc < B) (hmB : bm < B) (hBw : B ≤ w.heap.size) (hm : m ≤ 3000) (hv : ThOk g)
    (kw nm rel P Q : PTok) (numbers : List PTok) (terms : List GTerm) (lits : List GLit) (v1 vu vt vl : Value) (gr cap : Nat) (hR : RowIn w v1 gr cap tokCell [P, Q]) (hgc : gr ≠ bc) (hkN : TOk nm) (hkP : TOk P) (hkQ : TOk Q) (hk : rSort (srt kw) = 2) :
    Calls Tryz.prog 123 #[.pointer (some ⟨bc, 0, none⟩), .agg (gsCells ⟨kw, nm, [P, Q], numbers, terms, rel, lits⟩ v1 vu vt vl)] w (ConPost w bc bm n B m g vV (.slice ca m cc) (flt ((g Q.s).so != 4) 4 Q.line (flt ((g P.s).so != 4) 4 P.line (flt ((g nm.s).so != 5) 4 nm.line (flt (decide ((16 : Int) ≤ m)) 6 kw.line st))))) := by
  obtain ⟨i0, hi0, hz0, hz1, hz2⟩ := info_parts infoCo
  have HC : Hid (CkS w bc bm n (fun s => thV (g s)) vV (.slice ca m cc) st) := h
  have hlt := h.lt
  have hltm := h.ltm
  have hc2 := h.c2
  have HRS : Hid (rSort (srt kw) = 2) := hk
  obtain ⟨vC, hvC⟩ : ∃ v, v = Value.slice ca m cc := ⟨_, rfl⟩
  have hfield := fun a b c d e W => (thing_field a b c d e W).2.2
  have hvF : ∃ a m c, (thFind g nm.s 5).v = .slice a m c := by
    unfold thFind; split
    · exact hv _
    · exact ⟨_, _, _, rfl⟩
  obtain ⟨fa, fm, fc, hvF⟩ := hvF
  obtain ⟨Fn, hFn⟩ : ∃ F, F = thFind g nm.s 5 := ⟨_, rfl⟩
  rw [← hFn] at hvF
  obtain rfl := hR.is
  have K1 := Kept.mk (fun {W : World} (hW : CkS W bc bm n (fun s => thV (g s)) vV (.slice ca m cc) st) => sn_room hW kw m 16)
  generalize hS1 : flt (decide ((16 : Int) ≤ m)) 6 kw.line st = S1 at *
  have K2 := Kept.mk (fun {W : World} (hW : CkS W bc bm n (fun s => thV (g s)) vV (.slice ca m cc) S1) => sn_find hW nm hkN.1 5 (hv nm.s))
  rw [← hFn] at K2
  generalize hS2 : flt ((g nm.s).so != 5) 4 nm.line S1 = S2 at *
  have K3 := Kept.mk (fun {W : World} (hW : CkS W bc bm n (fun s => thV (g s)) vV (.slice ca m cc) S2) => sn_variable hW P hkP.1 hv)
  generalize hS3 : flt ((g P.s).so != 4) 4 P.line S2 = S3 at *
  have K4 := Kept.mk (fun {W : World} (hW : CkS W bc bm n (fun s => thV (g s)) vV (.slice ca m cc) S3) => sn_variable hW Q hkQ.1 hv)
  generalize hS4 : flt ((g Q.s).so != 4) 4 Q.line S3 = S4 at *
  unfold tkV at K1 K2 K3 K4
  unfold gsCells
  simp only
  clear h hk 
  go_enter Tryz.func123, Tryz.ntmps123
  go_wp2
  go_region_law (go_simp; go_at_call 149; refine (K1.get (HC.out.alloc _).drew).mono ?_; rintro e w1 ⟨rfl, hg1, hC1⟩; have x1 := ac_start hlt hltm hg1 hC1 #[.int .i64 2, .int .i64 0, .slice none 0 0, .int .i64 0, .int .i64 0, .slice none 0 0, .int .i64 0, .int .i64 0, .slice none 0 0, .slice none 0 0]; have hs1 : w.heap.size < w1.heap.size := x1.lo; have hn1 : w.heap.size ≠ w1.heap.size := (by omega); have hn2 : w1.heap.size ≠ w.heap.size := (by omega); have hB1 := past0 (heap_alloc_new w _) (by simp) ((grown_drew' _ (some bc)).trans hg1) (by simp; omega); have a0_1 := cell_of hB1 0 _ rfl; have a4_1 := cell_of hB1 4 _ rfl; have a5_1 := cell_of hB1 5 _ rfl; have a6_1 := cell_of hB1 6 _ rfl; have a7_1 := cell_of hB1 7 _ rfl)
  all_goals
    go_wp2_with (first | (go_at_call 159; refine (K4.get y3_6.ck).mono ?_; rintro e w4 ⟨rfl, hg4, hC4⟩; have x4 := y3_6.call0 hg4 hC4; have r7_4 := cell_of x4.hS 7 _ rfl; have z7_4 := frozen_of x4.hS 7; have y4_7 := x4.sf (cs' := #[.int .i64 2, .int .i64 0, .slice none 0 0, .int .i64 0, .int .i64 0, .slice fa fm fc, .int .i64 (thFind g P.s 4).pl, .int .i64 (thFind g Q.s 4).pl, .slice none 0 0, .slice none 0 0]) 7 (.int .i64 (thFind g Q.s 4).pl) rfl) | (go_at_call 159; refine (K3.get y2_5.ck).mono ?_; rintro e w3 ⟨rfl, hg3, hC3⟩; have x3 := y2_5.call0 hg3 hC3; have a8_3 := cell_of x3.hA 8 _ rfl; have r6_3 := cell_of x3.hS 6 _ rfl; have z6_3 := frozen_of x3.hS 6; have y3_6 := x3.sf (cs' := #[.int .i64 2, .int .i64 0, .slice none 0 0, .int .i64 0, .int .i64 0, .slice fa fm fc, .int .i64 (thFind g P.s 4).pl, .int .i64 0, .slice none 0 0, .slice none 0 0]) 6 (.int .i64 (thFind g P.s 4).pl) rfl; have q4_3 := (hR.kept x3.gr (by simpa using Ne.symm hgc)).row 4 _ rfl; have q5_3 := (hR.kept x3.gr (by simpa using Ne.symm hgc)).row 5 _ rfl; have q6_3 := (hR.kept x3.gr (by simpa using Ne.symm hgc)).row 6 _ rfl; have q7_3 := (hR.kept x3.gr (by simpa using Ne.symm hgc)).row 7 _ rfl) | (go_at_call 158; refine (K2.get x1.ck).mono ?_; simp only [show thV Fn = .agg #[.int .i64 Fn.so, .int .i64 Fn.pl, .int .i64 Fn.lo, .int .i64 Fn.hi, Fn.v] from rfl, hvF]; rintro e w2 ⟨rfl, hg2, hC2⟩; have x2 := x1.call0 hg2 hC2; have a8_2 := cell_of x2.hA 8 _ rfl; have r5_2 := cell_of x2.hS 5 _ rfl; have z5_2 := frozen_of x2.hS 5; have y2_5 := x2.sf (cs' := #[.int .i64 2, .int .i64 0, .slice none 0 0, .int .i64 0, .int .i64 0, .slice fa fm fc, .int .i64 0, .int .i64 0, .slice none 0 0, .slice none 0 0]) 5 (.slice fa fm fc) rfl; have q0_2 := (hR.kept x2.gr (by simpa using Ne.symm hgc)).row 0 _ rfl; have q1_2 := (hR.kept x2.gr (by simpa using Ne.symm hgc)).row 1 _ rfl; have q2_2 := (hR.kept x2.gr (by simpa using Ne.symm hgc)).row 2 _ rfl; have q3_2 := (hR.kept x2.gr (by simpa using Ne.symm hgc)).row 3 _ rfl; have q4_2 := (hR.kept x2.gr (by simpa using Ne.symm hgc)).row 4 _ rfl; have q5_2 := (hR.kept x2.gr (by simpa using Ne.symm hgc)).row 5 _ rfl; have q6_2 := (hR.kept x2.gr (by simpa using Ne.symm hgc)).row 6 _ rfl; have q7_2 := (hR.kept x2.gr (by simpa using Ne.symm hgc)).row 7 _ rfl; have hu2 : gr ≠ w1.heap.size := (by have := hR.lt; omega)) | (go_at_call 154; refine (sn_ruleSort _ _).mono ?_; rw [HRS.out]; rintro e w' ⟨rfl, hww⟩; subst w'))
    have xE := y4_7
    generalize (w4.setCell ⟨w1.heap.size, 7, none⟩ (.int .i64 (thFind g Q.s 4).pl)) = wj at xE ⊢
    have m2 := xE.ck.c2
    have mf := xE.ck.f2
    have mlt := xE.ck.lt
    have c0 := cell_of xE.hS 0 _ rfl
    have c1 := cell_of xE.hS 1 _ rfl
    have c2 := cell_of xE.hS 2 _ rfl
    have c3 := cell_of xE.hS 3 _ rfl
    have c4 := cell_of xE.hS 4 _ rfl
    have c5 := cell_of xE.hS 5 _ rfl
    have c6 := cell_of xE.hS 6 _ rfl
    have c7 := cell_of xE.hS 7 _ rfl
    have c8 := cell_of xE.hS 8 _ rfl
    have c9 := cell_of xE.hS 9 _ rfl
    have blt := xE.lt
    have hoj := hoC.kept xE.gr (low_ne' hoC hcB)
    have HOWN := Kept.mk ((hoj.kept ((World.grownBy_alloc wj (.cells #[.int .i64 2, .int .i64 0, .slice none 0 0, .int .i64 0, .int .i64 0, .slice fa fm fc, .int .i64 (thFind g P.s 4).pl, .int .i64 (thFind g Q.s 4).pl, .slice none 0 0, .slice none 0 0] 99) none).trans (grown_drew' _ none)) (own_none _)))
    have HNEWS := Kept.mk (World.news_of_block (w := (wj.alloc (.cells #[.int .i64 2, .int .i64 0, .slice none 0 0, .int .i64 0, .int .i64 0, .slice fa fm fc, .int .i64 (thFind g P.s 4).pl, .int .i64 (thFind g Q.s 4).pl, .slice none 0 0, .slice none 0 0] 99)).drew) (cs := #[.int .i64 2, .int .i64 0, .slice none 0 0, .int .i64 0, .int .i64 0, .slice fa fm fc, .int .i64 (thFind g P.s 4).pl, .int .i64 (thFind g Q.s 4).pl, .slice none 0 0, .slice none 0 0]) (t := 99) (fr := (0, 0)) (heap_alloc_new wj _))
    have KEEP : Hid (∀ wA, (wj.alloc (.cells #[.int .i64 2, .int .i64 0, .slice none 0 0, .int .i64 0, .int .i64 0, .slice fa fm fc, .int .i64 (thFind g P.s 4).pl, .int .i64 (thFind g Q.s 4).pl, .slice none 0 0, .slice none 0 0] 99)).drew.grownBy wA (Value.slice ca m cc).ownBlock → wA.frozen? ⟨bc, 2, none⟩ = false ∧ wA.cell? ⟨bc, 2, none⟩ = some (.slice ca m cc)) := fun wA hg => by
      have q := ((xE.ck.alloc _).drew).kept hg (low_ne hoC hcB) (low_ne hoC hmB)
      exact ⟨q.f2, q.c2⟩
    have hBj : B ≤ wj.heap.size := by have := xE.gr.size; omega
    go_region_law ((refine step_append_lies _ (by rfl) _ _ 74 (by rfl) B 99 i0 (.agg #[.int .i64 0, .int .i64 0, .slice none 0 0, .int .i64 0, .int .i64 0, .slice none 0 0, .int .i64 0, .int .i64 0, .slice none 0 0, .slice none 0 0]) 10 144 Tryz.underlying74 hi0 hz0 hz1 hz2 rfl (by decide) (.slice ca m cc) m xs (by rfl) HOWN.get ⟨wj.heap.size, 0, none⟩ 1 1 [.int .i64 2, .int .i64 0, .slice none 0 0, .int .i64 0, .int .i64 0, .slice fa fm fc, .int .i64 (thFind g P.s 4).pl, .int .i64 (thFind g Q.s 4).pl, .slice none 0 0, .slice none 0 0] (by rfl) rfl HNEWS.get (con_one _ _ _ _ _ _ _ _ _ _ _ _ _ _ _ _ _ _) (by decide) (by unfold maxLen; omega) (by omega) (by simp; omega) _ rfl ?_; intro gA capA wA hownA hgrowA hatA hltA; obtain ⟨q1, q2⟩ := KEEP.out wA hgrowA))
    all_goals have R := con_end xE hcB hmB hoC hownA hgrowA
    all_goals clear HOWN HNEWS KEEP hownA hgrowA hatA hltA
    all_goals go_wp2
    all_goals go_end0
    all_goals exact R
end Go.Proofs.YthpcbbnabnlanaaGreatDoor
