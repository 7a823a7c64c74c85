import Derived.Test.YthpcbbnabnlanaaGreatDoorM15
/-
  The program's checker: a constraint when.
-/
namespace Go.Proofs.YthpcbbnabnlanaaGreatDoor
open Go.RowKit
set_option linter.unusedVariables false
variable {w : World} {bc bm n : Nat} {g : ByteArray → Th} {vV vC : Value} {st : FSt}

set_option maxRecDepth 100000 in
set_option maxHeartbeats 8000000 in
theorem sn_con_when (B m : Nat) (xs : List Value) (ca : Option Addr) (cc : Nat) (h : CkS w bc bm n (fun s => thV (g s)) vV (.slice ca m cc) st) (hoC : w.ownsRow B 99 10 (.slice ca m cc) m xs) (hcB : bc < B) (hmB : bm < B) (hBw : B ≤ w.heap.size) (hm : m ≤ 3000) (hv : ThOk g)
    (kw nm rel M : PTok) (names : List PTok) (l : List GTerm) (lits : List GLit) (vn vu v1 vl : Value) (gr cap gru capu : Nat) (hR : RowIn w v1 gr cap gtCell l) (hgc : gr ≠ bc) (hU : RowIn w vu gru capu tokCell [M]) (hgu : gru ≠ bc) (hl : l.length ≤ 3000) (hok : ∀ a ∈ l, TOk a.first ∧ TOk a.name) (hkN : TOk nm) (hkM : TOk M) (hk : rSort (srt kw) = 1) :
    Calls Tryz.prog 123 #[.pointer (some ⟨bc, 0, none⟩), .agg (gsCells ⟨kw, nm, names, [M], l, rel, lits⟩ vn vu v1 vl)] w (ConPost w bc bm n B m g vV (.slice ca m cc) (flt (outB (tval M) 1000000) 5 M.line (foldSt (termStP g) 0 l (flt (noTruthT (thFind g nm.s 4)) 7 nm.line (flt ((g nm.s).so != 4) 4 nm.line (flt (decide ((16 : Int) ≤ m)) 6 kw.line st)))))) := by
  obtain ⟨i0, hi0, hz0, hz1, hz2⟩ := info_parts infoCo
  have HC : Hid (CkS w bc bm n (fun s => thV (g s)) vV (.slice ca m cc) st) := h
  have hlt := h.lt
  have hltm := h.ltm
  have hc2 := h.c2
  have HRS : Hid (rSort (srt kw) = 1) := hk
  obtain ⟨vC, hvC⟩ : ∃ v, v = Value.slice ca m cc := ⟨_, rfl⟩
  have hy1 := hkM.2.1; have hy2 := hkM.2.2
  obtain rfl := hU.is
  have K1 := Kept.mk (fun {W : World} (hW : CkS W bc bm n (fun s => thV (g s)) vV (.slice ca m cc) st) => sn_room hW kw m 16)
  generalize hS1 : flt (decide ((16 : Int) ≤ m)) 6 kw.line st = S1 at *
  have K2 := Kept.mk (fun {W : World} (hW : CkS W bc bm n (fun s => thV (g s)) vV (.slice ca m cc) S1) => sn_truth hW nm hkN.1 hv)
  generalize hS2 : flt (noTruthT (thFind g nm.s 4)) 7 nm.line (flt ((g nm.s).so != 4) 4 nm.line S1) = S2 at *
  have K3 := Kept.mk (fun {W : World} (hW : CkS W bc bm n (fun s => thV (g s)) vV (.slice ca m cc) S2) (hRW : RowIn W v1 gr cap gtCell l) => sn_terms hW l v1 gr cap hRW hgc hl hok hv)
  generalize hS3 : foldSt (termStP g) 0 l S2 = S3 at *
  have K4 := Kept.mk (fun {W : World} (hW : CkS W bc bm n (fun s => thV (g s)) vV (.slice ca m cc) S3) => sn_number hW M 1000000 (by decide) (by decide))
  generalize hS4 : flt (outB (tval M) 1000000) 5 M.line S3 = S4 at *
  unfold tkV at K1 K2 K4
  unfold gsCells
  simp only
  clear h hk 
  go_enter Tryz.func123, Tryz.ntmps123
  go_wp2
  go_region_law (go_simp; go_at_call 149; refine (K1.get (HC.out.alloc _).drew).mono ?_; rintro e w1 ⟨rfl, hg1, hC1⟩; have x1 := ac_start hlt hltm hg1 hC1 #[.int .i64 1, .int .i64 0, .slice none 0 0, .int .i64 0, .int .i64 0, .slice none 0 0, .int .i64 0, .int .i64 0, .slice none 0 0, .slice none 0 0]; have hs1 : w.heap.size < w1.heap.size := x1.lo; have hn1 : w.heap.size ≠ w1.heap.size := (by omega); have hn2 : w1.heap.size ≠ w.heap.size := (by omega); have hB1 := past0 (heap_alloc_new w _) (by simp) ((grown_drew' _ (some bc)).trans hg1) (by simp; omega); have a0_1 := cell_of hB1 0 _ rfl; have a4_1 := cell_of hB1 4 _ rfl; have a5_1 := cell_of hB1 5 _ rfl; have a6_1 := cell_of hB1 6 _ rfl; have a7_1 := cell_of hB1 7 _ rfl)
  all_goals
    go_wp2_with (first | (go_at_call 157; refine (sn_ruleRel _ _).mono ?_; rintro e w' ⟨rfl, hww⟩; subst w') | (go_at_call 151; refine (K4.get y3_3.ck).mono ?_; rintro e w4 ⟨rfl, hg4, hC4⟩; have x4 := y3_3.call0 hg4 hC4; have r4_4 := cell_of x4.hS 4 _ rfl; have z4_4 := frozen_of x4.hS 4; have y4_4 := x4.sf (cs' := #[.int .i64 1, .int .i64 (thFind g nm.s 4).pl, .slice va3 vm3 vc3, .int .i64 (rRel (srt rel)), .int .i64 (tval M), .slice none 0 0, .int .i64 0, .int .i64 0, .slice none 0 0, .slice none 0 0]) 4 (.int .i64 (tval M)) rfl) | (go_at_call 156; refine (K3.get y2_1.ck (hR.kept y2_1.gr (by simpa using Ne.symm hgc))).mono ?_; rintro e w3 ⟨v3, rfl, hown3, hg3, hC3⟩; obtain ⟨va3, vm3, vc3, rfl⟩ := own_slice hown3; have x3 := y2_1.call0 hg3 hC3; have a9_3 := cell_of x3.hA 9 _ rfl; have a11_3 := cell_of x3.hA 11 _ rfl; have r2_3 := cell_of x3.hS 2 _ rfl; have z2_3 := frozen_of x3.hS 2; have r3_3 := cell_of x3.hS 3 _ rfl; have z3_3 := frozen_of x3.hS 3; have y3_2 := x3.sf (cs' := #[.int .i64 1, .int .i64 (thFind g nm.s 4).pl, .slice va3 vm3 vc3, .int .i64 0, .int .i64 0, .slice none 0 0, .int .i64 0, .int .i64 0, .slice none 0 0, .slice none 0 0]) 2 (.slice va3 vm3 vc3) rfl; have y3_3 := y3_2.sf (cs' := #[.int .i64 1, .int .i64 (thFind g nm.s 4).pl, .slice va3 vm3 vc3, .int .i64 (rRel (srt rel)), .int .i64 0, .slice none 0 0, .int .i64 0, .int .i64 0, .slice none 0 0, .slice none 0 0]) 3 (.int .i64 (rRel (srt rel))) rfl; have q0_3 := (hU.kept x3.gr (by simpa using Ne.symm hgu)).row 0 _ rfl; have q1_3 := (hU.kept x3.gr (by simpa using Ne.symm hgu)).row 1 _ rfl; have q2_3 := (hU.kept x3.gr (by simpa using Ne.symm hgu)).row 2 _ rfl; have q3_3 := (hU.kept x3.gr (by simpa using Ne.symm hgu)).row 3 _ rfl; have hu3 : gru ≠ w1.heap.size := (by have := hU.lt; omega)) | (go_at_call 155; refine (K2.get x1.ck).mono ?_; rintro e w2 ⟨rfl, hg2, hC2⟩; have x2 := x1.call0 hg2 hC2; have a10_2 := cell_of x2.hA 10 _ rfl; have r1_2 := cell_of x2.hS 1 _ rfl; have z1_2 := frozen_of x2.hS 1; have y2_1 := x2.sf (cs' := #[.int .i64 1, .int .i64 (thFind g nm.s 4).pl, .slice none 0 0, .int .i64 0, .int .i64 0, .slice none 0 0, .int .i64 0, .int .i64 0, .slice none 0 0, .slice none 0 0]) 1 (.int .i64 (thFind g nm.s 4).pl) rfl) | (go_at_call 154; refine (sn_ruleSort _ _).mono ?_; rw [HRS.out]; rintro e w' ⟨rfl, hww⟩; subst w'))
    have xE := y4_4
    generalize (w4.setCell ⟨w1.heap.size, 4, none⟩ (.int .i64 (tval M))) = wj at xE ⊢
    have m2 := xE.ck.c2
    have mf := xE.ck.f2
    have mlt := xE.ck.lt
    have c0 := cell_of xE.hS 0 _ rfl
    have c1 := cell_of xE.hS 1 _ rfl
    have c2 := cell_of xE.hS 2 _ rfl
    have c3 := cell_of xE.hS 3 _ rfl
    have c4 := cell_of xE.hS 4 _ rfl
    have c5 := cell_of xE.hS 5 _ rfl
    have c6 := cell_of xE.hS 6 _ rfl
    have c7 := cell_of xE.hS 7 _ rfl
    have c8 := cell_of xE.hS 8 _ rfl
    have c9 := cell_of xE.hS 9 _ rfl
    have blt := xE.lt
    have hoj := hoC.kept xE.gr (low_ne' hoC hcB)
    have HOWN := Kept.mk ((hoj.kept ((World.grownBy_alloc wj (.cells #[.int .i64 1, .int .i64 (thFind g nm.s 4).pl, .slice va3 vm3 vc3, .int .i64 (rRel (srt rel)), .int .i64 (tval M), .slice none 0 0, .int .i64 0, .int .i64 0, .slice none 0 0, .slice none 0 0] 99) none).trans (grown_drew' _ none)) (own_none _)))
    have HNEWS := Kept.mk (World.news_of_block (w := (wj.alloc (.cells #[.int .i64 1, .int .i64 (thFind g nm.s 4).pl, .slice va3 vm3 vc3, .int .i64 (rRel (srt rel)), .int .i64 (tval M), .slice none 0 0, .int .i64 0, .int .i64 0, .slice none 0 0, .slice none 0 0] 99)).drew) (cs := #[.int .i64 1, .int .i64 (thFind g nm.s 4).pl, .slice va3 vm3 vc3, .int .i64 (rRel (srt rel)), .int .i64 (tval M), .slice none 0 0, .int .i64 0, .int .i64 0, .slice none 0 0, .slice none 0 0]) (t := 99) (fr := (0, 0)) (heap_alloc_new wj _))
    have KEEP : Hid (∀ wA, (wj.alloc (.cells #[.int .i64 1, .int .i64 (thFind g nm.s 4).pl, .slice va3 vm3 vc3, .int .i64 (rRel (srt rel)), .int .i64 (tval M), .slice none 0 0, .int .i64 0, .int .i64 0, .slice none 0 0, .slice none 0 0] 99)).drew.grownBy wA (Value.slice ca m cc).ownBlock → wA.frozen? ⟨bc, 2, none⟩ = false ∧ wA.cell? ⟨bc, 2, none⟩ = some (.slice ca m cc)) := fun wA hg => by
      have q := ((xE.ck.alloc _).drew).kept hg (low_ne hoC hcB) (low_ne hoC hmB)
      exact ⟨q.f2, q.c2⟩
    have hBj : B ≤ wj.heap.size := by have := xE.gr.size; omega
    go_region_law ((refine step_append_lies _ (by rfl) _ _ 74 (by rfl) B 99 i0 (.agg #[.int .i64 0, .int .i64 0, .slice none 0 0, .int .i64 0, .int .i64 0, .slice none 0 0, .int .i64 0, .int .i64 0, .slice none 0 0, .slice none 0 0]) 10 144 Tryz.underlying74 hi0 hz0 hz1 hz2 rfl (by decide) (.slice ca m cc) m xs (by rfl) HOWN.get ⟨wj.heap.size, 0, none⟩ 1 1 [.int .i64 1, .int .i64 (thFind g nm.s 4).pl, .slice va3 vm3 vc3, .int .i64 (rRel (srt rel)), .int .i64 (tval M), .slice none 0 0, .int .i64 0, .int .i64 0, .slice none 0 0, .slice none 0 0] (by rfl) rfl HNEWS.get (con_one _ _ _ _ _ _ _ _ _ _ _ _ _ _ _ _ _ _) (by decide) (by unfold maxLen; omega) (by omega) (by simp; omega) _ rfl ?_; intro gA capA wA hownA hgrowA hatA hltA; obtain ⟨q1, q2⟩ := KEEP.out wA hgrowA))
    all_goals have R := con_end xE hcB hmB hoC hownA hgrowA
    all_goals clear HOWN HNEWS KEEP hownA hgrowA hatA hltA
    all_goals go_wp2
    all_goals go_end0
    all_goals exact R
end Go.Proofs.YthpcbbnabnlanaaGreatDoor

/-
  The program's checker: a constraint at.
-/
namespace Go.Proofs.YthpcbbnabnlanaaGreatDoor
open Go.RowKit
set_option linter.unusedVariables false
variable {w : World} {bc bm n : Nat} {g : ByteArray → Th} {vV vC : Value} {st : FSt}

set_option maxRecDepth 100000 in
set_option maxHeartbeats 8000000 in
theorem sn_con_at (B m : Nat) (xs : List Value) (ca : Option Addr) (cc : Nat) (h : CkS w bc bm n (fun s => thV (g s)) vV (.slice ca m cc) st) (hoC : w.ownsRow B 99 10 (.slice ca m cc) m xs) (hcB : bc < B) (hmB : bm < B) (hBw : B ≤ w.heap.size) (hm : m ≤ 3000) (hv : ThOk g)
    (kw nm rel P Q : PTok) (numbers : List PTok) (terms : List GTerm) (lits : List GLit) (v1 vu vt vl : Value) (gr cap : Nat) (hR : RowIn w v1 gr cap tokCell [P, Q]) (hgc : gr ≠ bc) (hkN : TOk nm) (hkP : TOk P) (hkQ : TOk Q) (hk : rSort (srt kw) = 2) :
    Calls Tryz.prog 123 #[.pointer (some ⟨bc, 0, none⟩), .agg (gsCells ⟨kw, nm, [P, Q], numbers, terms, rel, lits⟩ v1 vu vt vl)] w (ConPost w bc bm n B m g vV (.slice ca m cc) (flt ((g Q.s).so != 4) 4 Q.line (flt ((g P.s).so != 4) 4 P.line (flt ((g nm.s).so != 5) 4 nm.line (flt (decide ((16 : Int) ≤ m)) 6 kw.line st))))) := by
  obtain ⟨i0, hi0, hz0, hz1, hz2⟩ := info_parts infoCo
  have HC : Hid (CkS w bc bm n (fun s => thV (g s)) vV (.slice ca m cc) st) := h
  have hlt := h.lt
  have hltm := h.ltm
  have hc2 := h.c2
  have HRS : Hid (rSort (srt kw) = 2) := hk
  obtain ⟨vC, hvC⟩ : ∃ v, v = Value.slice ca m cc := ⟨_, rfl⟩
  have hfield := fun a b c d e W => (thing_field a b c d e W).2.2
  have hvF : ∃ a m c, (thFind g nm.s 5).v = .slice a m c := by
    unfold thFind; split
    · exact hv _
    · exact ⟨_, _, _, rfl⟩
  obtain ⟨fa, fm, fc, hvF⟩ := hvF
  obtain ⟨Fn, hFn⟩ : ∃ F, F = thFind g nm.s 5 := ⟨_, rfl⟩
  rw [← hFn] at hvF
  obtain rfl := hR.is
  have K1 := Kept.mk (fun {W : World} (hW : CkS W bc bm n (fun s => thV (g s)) vV (.slice ca m cc) st) => sn_room hW kw m 16)
  generalize hS1 : flt (decide ((16 : Int) ≤ m)) 6 kw.line st = S1 at *
  have K2 := Kept.mk (fun {W : World} (hW : CkS W bc bm n (fun s => thV (g s)) vV (.slice ca m cc) S1) => sn_find hW nm hkN.1 5 (hv nm.s))
  rw [← hFn] at K2
  generalize hS2 : flt ((g nm.s).so != 5) 4 nm.line S1 = S2 at *
  have K3 := Kept.mk (fun {W : World} (hW : CkS W bc bm n (fun s => thV (g s)) vV (.slice ca m cc) S2) => sn_variable hW P hkP.1 hv)
  generalize hS3 : flt ((g P.s).so != 4) 4 P.line S2 = S3 at *
  have K4 := Kept.mk (fun {W : World} (hW : CkS W bc bm n (fun s => thV (g s)) vV (.slice ca m cc) S3) => sn_variable hW Q hkQ.1 hv)
  generalize hS4 : flt ((g Q.s).so != 4) 4 Q.line S3 = S4 at *
  unfold tkV at K1 K2 K3 K4
  unfold gsCells
  simp only
  clear h hk 
  go_enter Tryz.func123, Tryz.ntmps123
  go_wp2
  go_region_law (go_simp; go_at_call 149; refine (K1.get (HC.out.alloc _).drew).mono ?_; rintro e w1 ⟨rfl, hg1, hC1⟩; have x1 := ac_start hlt hltm hg1 hC1 #[.int .i64 2, .int .i64 0, .slice none 0 0, .int .i64 0, .int .i64 0, .slice none 0 0, .int .i64 0, .int .i64 0, .slice none 0 0, .slice none 0 0]; have hs1 : w.heap.size < w1.heap.size := x1.lo; have hn1 : w.heap.size ≠ w1.heap.size := (by omega); have hn2 : w1.heap.size ≠ w.heap.size := (by omega); have hB1 := past0 (heap_alloc_new w _) (by simp) ((grown_drew' _ (some bc)).trans hg1) (by simp; omega); have a0_1 := cell_of hB1 0 _ rfl; have a4_1 := cell_of hB1 4 _ rfl; have a5_1 := cell_of hB1 5 _ rfl; have a6_1 := cell_of hB1 6 _ rfl; have a7_1 := cell_of hB1 7 _ rfl)
  all_goals
    go_wp2_with (first | (go_at_call 159; refine (K4.get y3_6.ck).mono ?_; rintro e w4 ⟨rfl, hg4, hC4⟩; have x4 := y3_6.call0 hg4 hC4; have r7_4 := cell_of x4.hS 7 _ rfl; have z7_4 := frozen_of x4.hS 7; have y4_7 := x4.sf (cs' := #[.int .i64 2, .int .i64 0, .slice none 0 0, .int .i64 0, .int .i64 0, .slice fa fm fc, .int .i64 (thFind g P.s 4).pl, .int .i64 (thFind g Q.s 4).pl, .slice none 0 0, .slice none 0 0]) 7 (.int .i64 (thFind g Q.s 4).pl) rfl) | (go_at_call 159; refine (K3.get y2_5.ck).mono ?_; rintro e w3 ⟨rfl, hg3, hC3⟩; have x3 := y2_5.call0 hg3 hC3; have a8_3 := cell_of x3.hA 8 _ rfl; have r6_3 := cell_of x3.hS 6 _ rfl; have z6_3 := frozen_of x3.hS 6; have y3_6 := x3.sf (cs' := #[.int .i64 2, .int .i64 0, .slice none 0 0, .int .i64 0, .int .i64 0, .slice fa fm fc, .int .i64 (thFind g P.s 4).pl, .int .i64 0, .slice none 0 0, .slice none 0 0]) 6 (.int .i64 (thFind g P.s 4).pl) rfl; have q4_3 := (hR.kept x3.gr (by simpa using Ne.symm hgc)).row 4 _ rfl; have q5_3 := (hR.kept x3.gr (by simpa using Ne.symm hgc)).row 5 _ rfl; have q6_3 := (hR.kept x3.gr (by simpa using Ne.symm hgc)).row 6 _ rfl; have q7_3 := (hR.kept x3.gr (by simpa using Ne.symm hgc)).row 7 _ rfl) | (go_at_call 158; refine (K2.get x1.ck).mono ?_; simp only [show thV Fn = .agg #[.int .i64 Fn.so, .int .i64 Fn.pl, .int .i64 Fn.lo, .int .i64 Fn.hi, Fn.v] from rfl, hvF]; rintro e w2 ⟨rfl, hg2, hC2⟩; have x2 := x1.call0 hg2 hC2; have a8_2 := cell_of x2.hA 8 _ rfl; have r5_2 := cell_of x2.hS 5 _ rfl; have z5_2 := frozen_of x2.hS 5; have y2_5 := x2.sf (cs' := #[.int .i64 2, .int .i64 0, .slice none 0 0, .int .i64 0, .int .i64 0, .slice fa fm fc, .int .i64 0, .int .i64 0, .slice none 0 0, .slice none 0 0]) 5 (.slice fa fm fc) rfl; have q0_2 := (hR.kept x2.gr (by simpa using Ne.symm hgc)).row 0 _ rfl; have q1_2 := (hR.kept x2.gr (by simpa using Ne.symm hgc)).row 1 _ rfl; have q2_2 := (hR.kept x2.gr (by simpa using Ne.symm hgc)).row 2 _ rfl; have q3_2 := (hR.kept x2.gr (by simpa using Ne.symm hgc)).row 3 _ rfl; have q4_2 := (hR.kept x2.gr (by simpa using Ne.symm hgc)).row 4 _ rfl; have q5_2 := (hR.kept x2.gr (by simpa using Ne.symm hgc)).row 5 _ rfl; have q6_2 := (hR.kept x2.gr (by simpa using Ne.symm hgc)).row 6 _ rfl; have q7_2 := (hR.kept x2.gr (by simpa using Ne.symm hgc)).row 7 _ rfl; have hu2 : gr ≠ w1.heap.size := (by have := hR.lt; omega)) | (go_at_call 154; refine (sn_ruleSort _ _).mono ?_; rw [HRS.out]; rintro e w' ⟨rfl, hww⟩; subst w'))
    have xE := y4_7
    generalize (w4.setCell ⟨w1.heap.size, 7, none⟩ (.int .i64 (thFind g Q.s 4).pl)) = wj at xE ⊢
    have m2 := xE.ck.c2
    have mf := xE.ck.f2
    have mlt := xE.ck.lt
    have c0 := cell_of xE.hS 0 _ rfl
    have c1 := cell_of xE.hS 1 _ rfl
    have c2 := cell_of xE.hS 2 _ rfl
    have c3 := cell_of xE.hS 3 _ rfl
    have c4 := cell_of xE.hS 4 _ rfl
    have c5 := cell_of xE.hS 5 _ rfl
    have c6 := cell_of xE.hS 6 _ rfl
    have c7 := cell_of xE.hS 7 _ rfl
    have c8 := cell_of xE.hS 8 _ rfl
    have c9 := cell_of xE.hS 9 _ rfl
    have blt := xE.lt
    have hoj := hoC.kept xE.gr (low_ne' hoC hcB)
    have HOWN := Kept.mk ((hoj.kept ((World.grownBy_alloc wj (.cells #[.int .i64 2, .int .i64 0, .slice none 0 0, .int .i64 0, .int .i64 0, .slice fa fm fc, .int .i64 (thFind g P.s 4).pl, .int .i64 (thFind g Q.s 4).pl, .slice none 0 0, .slice none 0 0] 99) none).trans (grown_drew' _ none)) (own_none _)))
    have HNEWS := Kept.mk (World.news_of_block (w := (wj.alloc (.cells #[.int .i64 2, .int .i64 0, .slice none 0 0, .int .i64 0, .int .i64 0, .slice fa fm fc, .int .i64 (thFind g P.s 4).pl, .int .i64 (thFind g Q.s 4).pl, .slice none 0 0, .slice none 0 0] 99)).drew) (cs := #[.int .i64 2, .int .i64 0, .slice none 0 0, .int .i64 0, .int .i64 0, .slice fa fm fc, .int .i64 (thFind g P.s 4).pl, .int .i64 (thFind g Q.s 4).pl, .slice none 0 0, .slice none 0 0]) (t := 99) (fr := (0, 0)) (heap_alloc_new wj _))
    have KEEP : Hid (∀ wA, (wj.alloc (.cells #[.int .i64 2, .int .i64 0, .slice none 0 0, .int .i64 0, .int .i64 0, .slice fa fm fc, .int .i64 (thFind g P.s 4).pl, .int .i64 (thFind g Q.s 4).pl, .slice none 0 0, .slice none 0 0] 99)).drew.grownBy wA (Value.slice ca m cc).ownBlock → wA.frozen? ⟨bc, 2, none⟩ = false ∧ wA.cell? ⟨bc, 2, none⟩ = some (.slice ca m cc)) := fun wA hg => by
      have q := ((xE.ck.alloc _).drew).kept hg (low_ne hoC hcB) (low_ne hoC hmB)
      exact ⟨q.f2, q.c2⟩
    have hBj : B ≤ wj.heap.size := by have := xE.gr.size; omega
    go_region_law ((refine step_append_lies _ (by rfl) _ _ 74 (by rfl) B 99 i0 (.agg #[.int .i64 0, .int .i64 0, .slice none 0 0, .int .i64 0, .int .i64 0, .slice none 0 0, .int .i64 0, .int .i64 0, .slice none 0 0, .slice none 0 0]) 10 144 Tryz.underlying74 hi0 hz0 hz1 hz2 rfl (by decide) (.slice ca m cc) m xs (by rfl) HOWN.get ⟨wj.heap.size, 0, none⟩ 1 1 [.int .i64 2, .int .i64 0, .slice none 0 0, .int .i64 0, .int .i64 0, .slice fa fm fc, .int .i64 (thFind g P.s 4).pl, .int .i64 (thFind g Q.s 4).pl, .slice none 0 0, .slice none 0 0] (by rfl) rfl HNEWS.get (con_one _ _ _ _ _ _ _ _ _ _ _ _ _ _ _ _ _ _) (by decide) (by unfold maxLen; omega) (by omega) (by simp; omega) _ rfl ?_; intro gA capA wA hownA hgrowA hatA hltA; obtain ⟨q1, q2⟩ := KEEP.out wA hgrowA))
    all_goals have R := con_end xE hcB hmB hoC hownA hgrowA
    all_goals clear HOWN HNEWS KEEP hownA hgrowA hatA hltA
    all_goals go_wp2
    all_goals go_end0
    all_goals exact R
end Go.Proofs.YthpcbbnabnlanaaGreatDoor

/-
  The program's checker: a statement is handed on by its keyword.
-/
namespace Go.Proofs.YthpcbbnabnlanaaGreatDoor
open Go.RowKit
set_option linter.unusedVariables false
variable {w : World} {bc : Nat}

set_option maxRecDepth 100000 in
set_option maxHeartbeats 4000000 in
theorem sn_statement (P : Ending → World → Prop) (HE : ∀ e w', P e w' → e = .returned (.tuple #[])) (s : GSt) (na : Option Addr) (nm nc : Nat) (ua : Option Addr) (um uc : Nat) (ta : Option Addr) (tm tc : Nat) (la : Option Addr) (lm lc : Nat)
    (h4 : srt s.kw = 4 → Calls Tryz.prog 121 #[.pointer (some ⟨bc, 0, none⟩), .agg (gsCells s (.slice na nm nc) (.slice ua um uc) (.slice ta tm tc) (.slice la lm lc))] (w.alloc (.cells (gsCells s (.slice na nm nc) (.slice ua um uc) (.slice ta tm tc) (.slice la lm lc)) 137)) P)
    (h5 : srt s.kw = 5 → Calls Tryz.prog 122 #[.pointer (some ⟨bc, 0, none⟩), .agg (gsCells s (.slice na nm nc) (.slice ua um uc) (.slice ta tm tc) (.slice la lm lc))] (w.alloc (.cells (gsCells s (.slice na nm nc) (.slice ua um uc) (.slice ta tm tc) (.slice la lm lc)) 137)) P)
    (h6 : srt s.kw ≠ 4 → srt s.kw ≠ 5 → Calls Tryz.prog 123 #[.pointer (some ⟨bc, 0, none⟩), .agg (gsCells s (.slice na nm nc) (.slice ua um uc) (.slice ta tm tc) (.slice la lm lc))] (w.alloc (.cells (gsCells s (.slice na nm nc) (.slice ua um uc) (.slice ta tm tc) (.slice la lm lc)) 137)) P) :
    Calls Tryz.prog 70 #[.pointer (some ⟨bc, 0, none⟩), .agg (gsCells s (.slice na nm nc) (.slice ua um uc) (.slice ta tm tc) (.slice la lm lc))] w P := by
  have HE' := Kept.mk HE
  by_cases c4 : srt s.kw = 4
  · have K := Kept.mk (h4 c4)
    have e4 : (srt s.kw == 4) = true := by simpa using c4
    unfold gsCells at *
    clear h4 h5 h6 c4 HE
    go_enter Tryz.func70, Tryz.ntmps70
    go_wp2_with (go_at_call 121; refine K.get.mono ?_; intro e w1 hP; have hq := HE'.get e w1 hP; subst hq)
    go_end0
    exact hP
  · have e4 : (srt s.kw == 4) = false := by simpa using c4
    by_cases c5 : srt s.kw = 5
    · have K := Kept.mk (h5 c5)
      have e5 : (srt s.kw == 5) = true := by simpa using c5
      unfold gsCells at *
      clear h4 h5 h6 c4 c5 HE
      go_enter Tryz.func70, Tryz.ntmps70
      go_wp2_with (go_at_call 122; refine K.get.mono ?_; intro e w1 hP; have hq := HE'.get e w1 hP; subst hq)
      go_end0
      exact hP
    · have K := Kept.mk (h6 c4 c5)
      have e5 : (srt s.kw == 5) = false := by simpa using c5
      unfold gsCells at *
      clear h4 h5 h6 c4 c5 HE
      go_enter Tryz.func70, Tryz.ntmps70
      go_wp2_with (go_at_call 123; refine K.get.mono ?_; intro e w1 hP; have hq := HE'.get e w1 hP; subst hq)
      go_end0
      exact hP
end Go.Proofs.YthpcbbnabnlanaaGreatDoor

/-
  The program's checker, in plain words; what stands between two statements.
-/
namespace Go.Proofs.YthpcbbnabnlanaaGreatDoor
open Go.RowKit
set_option linter.unusedVariables false

/-- what the checker knows: names, variables, how many constraints, the first fault -/
structure QSt where
  g : ByteArray → Th
  vars : List QVar
  m : Nat
  st : FSt
def eraseV (g : ByteArray → Th) : ByteArray → Th := fun s => { g s with v := .slice none 0 0 }
def truthSt (g : ByteArray → Th) (t : PTok) (st : FSt) : FSt := flt (noTruthT (thFind g t.s 4)) 7 t.line (flt ((g t.s).so != 4) 4 t.line st)
def qLinSt (g : ByteArray → Th) (s : GSt) (st : FSt) : FSt := match s.numbers with
  | [M] => flt (outB (tval M) 1000000) 5 M.line (foldSt (termStP g) 0 s.terms st)
  | _ => st
def conSt (g : ByteArray → Th) (s : GSt) (st : FSt) : FSt :=
  if srt s.kw = 7 then qLinSt g s (truthSt g s.name st)
  else if srt s.kw = 8 then (match s.names with
    | [P, Q] => flt ((g Q.s).so != 4) 4 Q.line (flt ((g P.s).so != 4) 4 P.line (flt ((g s.name.s).so != 5) 4 s.name.line st))
    | _ => st)
  else if srt s.kw = 9 then foldSt (varStP g) 0 s.names st
  else if srt s.kw = 10 then foldSt (litStP g) 0 s.lits st
  else qLinSt g s st
def qStep (s : GSt) (q : QSt) : QSt :=
  if srt s.kw = 4 then (match s.numbers with
    | [lo, hi] => ⟨putTh q.g s.name.s ⟨4, q.vars.length, tval lo, tval hi, .slice none 0 0⟩, q.vars ++ [⟨s.name.s, tval lo, tval hi⟩], q.m, varDecl q.g q.vars.length s.name lo hi q.st⟩
    | _ => q)
  else if srt s.kw = 5 then ⟨putTh q.g s.name.s ⟨5, 0, 0, 0, .slice none 0 0⟩, q.vars, q.m, foldSt numStP 0 s.numbers (flt ((q.g s.name.s).so != 0) 4 s.name.line q.st)⟩
  else ⟨q.g, q.vars, q.m + 1, conSt q.g s (flt (decide ((16 : Int) ≤ q.m)) 6 s.kw.line q.st)⟩
/-- statements, till the first fault -/
def runQ : List GSt → QSt → QSt
  | [], q => q
  | s :: ss, q => if (qStep s q).st.1 = 0 then runQ ss (qStep s q) else qStep s q
def q0 : QSt := ⟨fun _ => noTh, [], 0, (0, 0)⟩

theorem er_find (g : ByteArray → Th) (s : ByteArray) (k : Int) : noTruthT (thFind (eraseV g) s k) = noTruthT (thFind g s k) := by
  unfold thFind eraseV noTruthT; simp only; split <;> rfl
theorem er_term (g : ByteArray → Th) : termStP (eraseV g) = termStP g := rfl
theorem er_var (g : ByteArray → Th) : varStP (eraseV g) = varStP g := rfl
theorem er_lit (g : ByteArray → Th) : litStP (eraseV g) = litStP g := by
  funext k t st; unfold litStP; rw [er_find]; rfl
theorem er_put (g : ByteArray → Th) (s : ByteArray) (t : Th) : eraseV (putTh g s t) = putTh (eraseV g) s { t with v := .slice none 0 0 } := by
  funext s'; unfold eraseV putTh; split <;> rfl
theorem er_con (g : ByteArray → Th) (s : GSt) (st : FSt) : conSt (eraseV g) s st = conSt g s st := by
  unfold conSt truthSt
  rw [er_find, er_lit]
  rfl

/-- the tokens and the shape of a statement that was read -/
structure StOk (s : GSt) : Prop where
  nm : TOk s.name
  nums : ∀ a ∈ s.numbers, TOk a
  names : ∀ a ∈ s.names, TOk a
  terms : ∀ a ∈ s.terms, TOk a.first ∧ TOk a.name
  lits : ∀ a ∈ s.lits, TOk a.first ∧ TOk a.name
  l1 : s.numbers.length ≤ 3000
  l2 : s.names.length ≤ 3000
  l3 : s.terms.length ≤ 3000
  l4 : s.lits.length ≤ 3000
  s4 : srt s.kw = 4 → ∃ lo hi, s.numbers = [lo, hi]
  s5 : srt s.kw = 5 → s.numbers ≠ []
  s6 : srt s.kw = 6 ∨ srt s.kw = 7 → s.terms ≠ [] ∧ ∃ M, s.numbers = [M]
  s8 : srt s.kw = 8 → ∃ P Q, s.names = [P, Q]
  s9 : srt s.kw = 9 → s.names ≠ []
  s10 : srt s.kw = 10 → s.lits ≠ []
  kwd : srt s.kw = 4 ∨ srt s.kw = 5 ∨ srt s.kw = 6 ∨ srt s.kw = 7 ∨ srt s.kw = 8 ∨ srt s.kw = 9 ∨ srt s.kw = 10
/-- a row that can be read beside the checker's own memory -/
def RIn {α : Type} (w : World) (B bc bm : Nat) (v : Value) (cell : α → List Value) (l : List α) : Prop :=
  (∃ a m c, v = .slice a m c) ∧ (l ≠ [] → ∃ gr cap, RowIn w v gr cap cell l ∧ gr < B ∧ gr ≠ bc ∧ gr ≠ bm)
structure GIn (w : World) (B bc bm : Nat) (x : GRow) : Prop where
  n : RIn w B bc bm x.vn tokCell x.s.names
  u : RIn w B bc bm x.vu tokCell x.s.numbers
  t : RIn w B bc bm x.vt gtCell x.s.terms
  l : RIn w B bc bm x.vl glCell x.s.lits
/-- nothing below B but the checker's two blocks has turned -/
structure Fr (B bc bm : Nat) (w w' : World) : Prop where
  os : w'.os = w.os
  tape : w'.tape = w.tape
  output : w'.output = w.output
  size : w.heap.size ≤ w'.heap.size
  block : ∀ i, i < B → i ≠ bc → i ≠ bm → w'.heap[i]? = w.heap[i]?
theorem Fr.trans {B bc bm : Nat} {a b c : World} (h : Fr B bc bm a b) (k : Fr B bc bm b c) : Fr B bc bm a c :=
  ⟨k.os.trans h.os, k.tape.trans h.tape, k.output.trans h.output, Nat.le_trans h.size k.size, fun i h1 h2 h3 => (k.block i h1 h2 h3).trans (h.block i h1 h2 h3)⟩
theorem Fr.alloc {B bc bm : Nat} {a b : World} (h : Fr B bc bm a b) (hB : B ≤ b.heap.size) (o : Obj) : Fr B bc bm a (b.alloc o) :=
  ⟨h.os, h.tape, h.output, by have := h.size; simp; omega, fun i h1 h2 h3 => (heap_alloc_old b o (by omega)).trans (h.block i h1 h2 h3)⟩
theorem Fr.refl (B bc bm : Nat) (w : World) : Fr B bc bm w w := ⟨rfl, rfl, rfl, Nat.le_refl _, fun _ _ _ _ => rfl⟩
theorem Fr.of_but {B bc bm : Nat} {S : List Nat} {a b : World} (h : But S a b) (hB : B ≤ a.heap.size) (hS : ∀ k ∈ S, k = bc ∨ k = bm ∨ B ≤ k) : Fr B bc bm a b :=
  ⟨h.os, h.tape, h.output, h.size, fun i h1 h2 h3 => h.block i (by omega) (fun q => by rcases hS i q with e | e | e; exact h2 e; exact h3 e; omega)⟩
theorem RIn.fr {α : Type} {w w' : World} {B bc bm : Nat} {v : Value} {cell : α → List Value} {l : List α} (h : RIn w B bc bm v cell l) (hf : Fr B bc bm w w') : RIn w' B bc bm v cell l :=
  ⟨h.1, fun hl => by
    obtain ⟨gr, cap, hr, h1, h2, h3⟩ := h.2 hl
    exact ⟨gr, cap, ⟨hr.is, fun j u hu => (World.cell?_of_block (a := ⟨gr, j, none⟩) (hf.block gr h1 h2 h3)).trans (hr.row j u hu), Nat.lt_of_lt_of_le hr.lt hf.size⟩, h1, h2, h3⟩⟩
theorem GIn.fr {w w' : World} {B bc bm : Nat} {x : GRow} (h : GIn w B bc bm x) (hf : Fr B bc bm w w') : GIn w' B bc bm x := ⟨h.n.fr hf, h.u.fr hf, h.t.fr hf, h.l.fr hf⟩

/-- what stands between two statements: k of them are done -/
def Sen (w : World) (bc bm B k : Nat) (q : QSt) : Prop :=
  ∃ (n : Nat) (g : ByteArray → Th) (vV vC : Value) (xs : List Value), CkS w bc bm n (fun s => thV (g s)) vV vC q.st ∧ eraseV g = q.g ∧ ThOk g ∧ w.ownsRow B 78 3 vV q.vars.length (q.vars.flatMap qvCell) ∧ w.ownsRow B 99 10 vC q.m xs ∧
    n ≤ k ∧ q.vars.length ≤ k ∧ q.m ≤ k ∧ bc < B ∧ bm < B ∧ B ≤ w.heap.size
theorem own_slice_n {w : World} {B n s : Nat} {e : TypeId} {v : Value} {xs : List Value} (h : w.ownsRow B e s v n xs) : ∃ a c, v = .slice a n c := by
  rcases h.2 with ⟨h, h0⟩ | ⟨g, cap, cur, h, _⟩
  · exact ⟨none, 0, by rw [h, h0]⟩
  · exact ⟨_, _, h⟩
theorem ThOk.put {g : ByteArray → Th} (h : ThOk g) (s : ByteArray) (t : Th) (ht : ∃ a m c, t.v = .slice a m c) : ThOk (putTh g s t) := fun s' => by
  unfold putTh; split
  · exact ht
  · exact h s'
end Go.Proofs.YthpcbbnabnlanaaGreatDoor

/-
  The program's checker: one statement.
-/
namespace Go.Proofs.YthpcbbnabnlanaaGreatDoor
open Go.RowKit
set_option linter.unusedVariables false

theorem own_blk {w : World} {B e s n b : Nat} {v : Value} {xs : List Value} (h : w.ownsRow B e s v n xs) (hb : v.ownBlock = some b) : ∃ cur, w.heap[b]? = some (.cells cur e (0, 0)) := by
  rcases h.2 with ⟨h, _⟩ | ⟨g, cap, cur, h, _, h3, _⟩
  · rw [h] at hb; cases hb
  · rw [h] at hb
    have : g = b := Option.some.inj hb
    subst this
    exact ⟨cur, h3⟩
theorem ownBut {w w' : World} {B e s n : Nat} {v : Value} {xs : List Value} {S : List Nat} (h : w.ownsRow B e s v n xs) (hb : But S w w') (hn : ∀ b, v.ownBlock = some b → b ∉ S) : w'.ownsRow B e s v n xs := by
  refine ⟨h.1, ?_⟩
  rcases h.2 with h2 | ⟨g, cap, cur, h1, hB, h3, h4⟩
  · exact .inl h2
  · refine .inr ⟨g, cap, cur, h1, hB, ?_, h4⟩
    rw [hb.block g (Array.getElem?_eq_some_iff.1 h3).1 (hn g (by rw [h1]; rfl))]
    exact h3
theorem out_of {w : World} {B e e' s s' n n' bc bm : Nat} {v v' : Value} {xs xs' : List Value} (h : w.ownsRow B e s v n xs) (h' : w.ownsRow B e' s' v' n' xs') (he : e ≠ e') (hc : bc < B) (hm : bm < B) (b : Nat) (hb : v.ownBlock = some b) : b ∉ [bc, bm] ++ v'.ownBlock.toList := by
  have hB := (h.lt b hb).1
  obtain ⟨cur, h3⟩ := own_blk h hb
  intro q
  rcases List.mem_append.1 q with q | q
  · simp at q; omega
  · have q2 : v'.ownBlock = some b := by simpa using q
    obtain ⟨cur', h3'⟩ := own_blk h' q2
    rw [h3] at h3'
    cases h3'
    exact he rfl
theorem out_of1 {w : World} {B e s n bc bm : Nat} {v : Value} {xs : List Value} (h : w.ownsRow B e s v n xs) (hc : bc < B) (hm : bm < B) (b : Nat) (hb : v.ownBlock = some b) : b ∉ [bc, bm] := by
  have hB := (h.lt b hb).1
  intro q; simp at q; omega
theorem in_B {w : World} {B e s n bc bm : Nat} {v : Value} {xs : List Value} (h : w.ownsRow B e s v n xs) : ∀ k ∈ [bc, bm] ++ v.ownBlock.toList, k = bc ∨ k = bm ∨ B ≤ k := by
  intro k hk
  rcases List.mem_append.1 hk with q | q
  · simp at q; rcases q with q | q
    · exact .inl q
    · exact .inr (.inl q)
  · exact .inr (.inr ((h.lt k (by simpa using q)).1))
theorem ConPost.done {w W : World} {bc bm n B m k : Nat} {g : ByteArray → Th} {vV vC : Value} {vars : List QVar} {S : FSt} {xs : List Value} {e : Ending} {w' : World} (hf : Fr B bc bm w W) (h : ConPost W bc bm n B m g vV vC S e w') (hv : ThOk g) (hoV : W.ownsRow B 78 3 vV vars.length (vars.flatMap qvCell)) (hoC : W.ownsRow B 99 10 vC m xs)
    (h1 : n ≤ k) (h2 : vars.length ≤ k) (h3 : m ≤ k) (hc : bc < B) (hm : bm < B) (hB : B ≤ W.heap.size) : e = .returned (.tuple #[]) ∧ Sen w' bc bm B (k + 1) ⟨eraseV g, vars, m + 1, S⟩ ∧ Fr B bc bm w w' := by
  obtain ⟨rfl, v, xs', hown, hbut, hC⟩ := h
  have hbut' : But ([bc, bm] ++ vC.ownBlock.toList) W w' := hbut.mono (fun k hk => by
    rcases List.mem_append.1 hk with q | q
    · simp only [List.mem_cons, List.not_mem_nil, or_false] at q
      exact List.mem_append.2 (.inl (by simp [q]))
    · exact List.mem_append.2 (.inr q))
  have fr := Fr.of_but (bc := bc) (bm := bm) hbut' hB (in_B hoC)
  refine ⟨rfl, ⟨n, g, vV, v, xs', hC, rfl, hv, ownBut hoV hbut' (out_of hoV hoC (by decide) hc hm), hown, by omega, by simp only; omega, by simp only; omega, hc, hm, ?_⟩, hf.trans fr⟩
  have := fr.size; omega

set_option maxHeartbeats 4000000 in
theorem sn_one {w : World} {bc bm B k : Nat} {q : QSt} (h : Sen w bc bm B k q) (hk : k ≤ 2500) (x : GRow) (hx : GIn w B bc bm x) (ho : StOk x.s) :
    Calls Tryz.prog 70 #[.pointer (some ⟨bc, 0, none⟩), .agg (gsCells x.s x.vn x.vu x.vt x.vl)] w fun e w' => e = .returned (.tuple #[]) ∧ Sen w' bc bm B (k + 1) (qStep x.s q) ∧ Fr B bc bm w w' := by
  obtain ⟨n, g, vV, vC, xs, hC, eg, hv, hoV, hoC, b1, b2, b3, hc, hm, hB⟩ := h
  obtain ⟨qg, vars, m, st⟩ := q
  obtain ⟨⟨kw, nm, names, numbers, terms, rel, lits⟩, vn, vu, vt, vl⟩ := x
  obtain ⟨iN, iU, iT, iL⟩ := hx
  obtain ⟨okN, okU, okn, okT, okL, l1, l2, l3, l4, s4, s5, s6, s8, s9, s10, kwd⟩ := ho
  simp only at *
  subst eg
  obtain ⟨na, nm', nc, rfl⟩ := iN.1
  obtain ⟨ua, um, uc, rfl⟩ := iU.1
  obtain ⟨ta, tm, tc, rfl⟩ := iT.1
  obtain ⟨la, lm, lc, rfl⟩ := iL.1
  have hfr : ∀ o, Fr B bc bm w (w.alloc o) := fun o => (Fr.refl B bc bm w).alloc hB o
  have hB' : ∀ o, B ≤ (w.alloc o).heap.size := fun o => by simp; omega
  refine sn_statement _ (fun e w' hP => hP.1) ⟨kw, nm, names, numbers, terms, rel, lits⟩ na nm' nc ua um uc ta tm tc la lm lc ?_ ?_ ?_
  · intro h4
    simp only at h4
    obtain ⟨lo, hi, rfl⟩ := s4 h4
    obtain ⟨gr, cap, hR, g1, g2, g3⟩ := iU.2 (by simp)
    obtain ⟨va, vc, rfl⟩ := own_slice_n hoV
    refine (sn_var B vars va vc (hC.alloc _) kw nm lo hi rel names terms lits _ _ _ _ gr cap (hR.kept (World.grownBy_alloc w _ none) (by simp)) g2 g3 g1 hc hm (hB' _) (hoV.alloc _) (by omega) okN (okU lo (by simp)) (okU hi (by simp)) (by omega) rfl rfl rfl).mono ?_
    rintro e w' ⟨rfl, v, hoV', hbut, hC'⟩
    have fr := Fr.of_but (bc := bc) (bm := bm) hbut (hB' _) (in_B hoV)
    have eq : qStep ⟨kw, nm, names, [lo, hi], terms, rel, lits⟩ ⟨eraseV g, vars, m, st⟩ = ⟨eraseV (putTh g nm.s ⟨4, vars.length, tval lo, tval hi, .slice none 0 0⟩), vars ++ [⟨nm.s, tval lo, tval hi⟩], m, varDecl g vars.length nm lo hi st⟩ := by
      unfold qStep; rw [if_pos h4, er_put]; rfl
    rw [eq]
    refine ⟨rfl, ⟨n + 1, _, v, vC, xs, hC', rfl, hv.put _ _ ⟨_, _, _, rfl⟩, ?_, ownBut (hoC.alloc _) hbut (out_of hoC hoV (by decide) hc hm), by omega, by simp; omega, by simp only; omega, hc, hm, ?_⟩, (hfr _).trans fr⟩
    · rw [List.flatMap_append]; simpa using hoV'
    · have := fr.size; have := hB' (.cells (gsCells ⟨kw, nm, names, [lo, hi], terms, rel, lits⟩ (.slice na nm' nc) (.slice ua um uc) (.slice ta tm tc) (.slice la lm lc)) 137); omega
  · intro h5
    simp only at h5
    obtain ⟨gr, cap, hR, g1, g2, g3⟩ := iU.2 (s5 h5)
    refine (sn_list (hC.alloc _) ⟨kw, nm, names, numbers, terms, rel, lits⟩ _ _ _ _ gr cap (hR.kept (World.grownBy_alloc w _ none) (by simp)) g2 g3 l1 okU okN (by omega) rfl rfl rfl).mono ?_
    rintro e w' ⟨rfl, v, hov, hbut, hC'⟩
    have fr := Fr.of_but (bc := bc) (bm := bm) hbut (hB' _) (fun k hk => by simp at hk; rcases hk with e | e; exact .inl e; exact .inr (.inl e))
    have eq : qStep ⟨kw, nm, names, numbers, terms, rel, lits⟩ ⟨eraseV g, vars, m, st⟩ = ⟨eraseV (putTh g nm.s ⟨5, 0, 0, 0, v⟩), vars, m, foldSt numStP 0 numbers (flt ((g nm.s).so != 0) 4 nm.line st)⟩ := by
      unfold qStep; rw [if_neg (by simp only; omega), if_pos h5, er_put]; rfl
    rw [eq]
    refine ⟨rfl, ⟨n + 1, _, vV, vC, xs, hC', rfl, hv.put _ _ (own_slice hov), ownBut (hoV.alloc _) hbut (out_of1 hoV hc hm), ownBut (hoC.alloc _) hbut (out_of1 hoC hc hm), by omega, by simp only; omega, by simp only; omega, hc, hm, ?_⟩, (hfr _).trans fr⟩
    have := fr.size; have := hB' (.cells (gsCells ⟨kw, nm, names, numbers, terms, rel, lits⟩ (.slice na nm' nc) (.slice ua um uc) (.slice ta tm tc) (.slice la lm lc)) 137); omega
  · intro n4 n5
    simp only at n4 n5
    obtain ⟨ca, cc, rfl⟩ := own_slice_n hoC
    have eq : qStep ⟨kw, nm, names, numbers, terms, rel, lits⟩ ⟨eraseV g, vars, m, st⟩ = ⟨eraseV g, vars, m + 1, conSt g ⟨kw, nm, names, numbers, terms, rel, lits⟩ (flt (decide ((16 : Int) ≤ m)) 6 kw.line st)⟩ := by
      unfold qStep; rw [if_neg n4, if_neg n5, er_con]
    rw [eq]
    have done := fun {S : FSt} {e : Ending} {w' : World} {o : Obj} (hp : ConPost (w.alloc o) bc bm n B m g vV (.slice ca m cc) S e w') => ConPost.done (hfr o) hp hv (hoV.alloc o) (hoC.alloc o) b1 b2 b3 hc hm (hB' o)
    have rk : ∀ {α : Type} {v : Value} {gr cap : Nat} {cell : α → List Value} {l : List α} {o : Obj}, RowIn w v gr cap cell l → RowIn (w.alloc o) v gr cap cell l := fun {α v gr cap cell l o} hr => hr.kept (World.grownBy_alloc w o none) (by simp)
    rcases kwd with e | e | e | e | e | e | e
    · exact absurd e n4
    · exact absurd e n5
    · obtain ⟨hT, M, rfl⟩ := s6 (.inl e)
      obtain ⟨gr, cap, hR, g1, g2, g3⟩ := iT.2 hT
      obtain ⟨gu, cu, hU, u1, u2, u3⟩ := iU.2 (by simp)
      refine (sn_con_lin B m xs ca cc (hC.alloc _) (hoC.alloc _) hc hm (hB' _) (by omega) hv kw nm rel M names terms lits _ _ _ _ gr cap gu cu (rk hR) g2 (rk hU) u2 l3 okT okN (okU M (by simp)) (by simp [rSort, e])).mono ?_
      intro e' w' hp
      have q := done hp
      have e2 : conSt g ⟨kw, nm, names, [M], terms, rel, lits⟩ (flt (decide ((16 : Int) ≤ m)) 6 kw.line st) = flt (outB (tval M) 1000000) 5 M.line (foldSt (termStP g) 0 terms (flt (decide ((16 : Int) ≤ m)) 6 kw.line st)) := by simp [conSt, qLinSt, e]
      rw [e2]
      exact q
    · obtain ⟨hT, M, rfl⟩ := s6 (.inr e)
      obtain ⟨gr, cap, hR, g1, g2, g3⟩ := iT.2 hT
      obtain ⟨gu, cu, hU, u1, u2, u3⟩ := iU.2 (by simp)
      refine (sn_con_when B m xs ca cc (hC.alloc _) (hoC.alloc _) hc hm (hB' _) (by omega) hv kw nm rel M names terms lits _ _ _ _ gr cap gu cu (rk hR) g2 (rk hU) u2 l3 okT okN (okU M (by simp)) (by simp [rSort, e])).mono ?_
      intro e' w' hp
      have q := done hp
      have e2 : conSt g ⟨kw, nm, names, [M], terms, rel, lits⟩ (flt (decide ((16 : Int) ≤ m)) 6 kw.line st) = flt (outB (tval M) 1000000) 5 M.line (foldSt (termStP g) 0 terms (flt (noTruthT (thFind g nm.s 4)) 7 nm.line (flt ((g nm.s).so != 4) 4 nm.line (flt (decide ((16 : Int) ≤ m)) 6 kw.line st)))) := by simp [conSt, qLinSt, truthSt, e]
      rw [e2]
      exact q
    · obtain ⟨P, Q, rfl⟩ := s8 e
      obtain ⟨gr, cap, hR, g1, g2, g3⟩ := iN.2 (by simp)
      refine (sn_con_at B m xs ca cc (hC.alloc _) (hoC.alloc _) hc hm (hB' _) (by omega) hv kw nm rel P Q numbers terms lits _ _ _ _ gr cap (rk hR) g2 okN (okn P (by simp)) (okn Q (by simp)) (by simp [rSort, e])).mono ?_
      intro e' w' hp
      have q := done hp
      have e2 : conSt g ⟨kw, nm, [P, Q], numbers, terms, rel, lits⟩ (flt (decide ((16 : Int) ≤ m)) 6 kw.line st) = flt ((g Q.s).so != 4) 4 Q.line (flt ((g P.s).so != 4) 4 P.line (flt ((g nm.s).so != 5) 4 nm.line (flt (decide ((16 : Int) ≤ m)) 6 kw.line st))) := by simp [conSt, e]
      rw [e2]
      exact q
    · obtain ⟨gr, cap, hR, g1, g2, g3⟩ := iN.2 (s9 e)
      refine (sn_con_diff B m xs ca cc (hC.alloc _) (hoC.alloc _) hc hm (hB' _) (by omega) hv kw nm rel names numbers terms lits _ _ _ _ gr cap (rk hR) g2 l2 okn (by simp [rSort, e])).mono ?_
      intro e' w' hp
      have q := done hp
      have e2 : conSt g ⟨kw, nm, names, numbers, terms, rel, lits⟩ (flt (decide ((16 : Int) ≤ m)) 6 kw.line st) = foldSt (varStP g) 0 names (flt (decide ((16 : Int) ≤ m)) 6 kw.line st) := by simp [conSt, e]
      rw [e2]
      exact q
    · obtain ⟨gr, cap, hR, g1, g2, g3⟩ := iL.2 (s10 e)
      refine (sn_con_or B m xs ca cc (hC.alloc _) (hoC.alloc _) hc hm (hB' _) (by omega) hv kw nm rel names numbers terms lits _ _ _ _ gr cap (rk hR) g2 l4 okL (by simp [rSort, e])).mono ?_
      intro e' w' hp
      have q := done hp
      have e2 : conSt g ⟨kw, nm, names, numbers, terms, rel, lits⟩ (flt (decide ((16 : Int) ≤ m)) 6 kw.line st) = foldSt (litStP g) 0 lits (flt (decide ((16 : Int) ≤ m)) 6 kw.line st) := by simp [conSt, e]
      rw [e2]
      exact q
end Go.Proofs.YthpcbbnabnlanaaGreatDoor

/-
  The plain mathematics of what was read: the cut's tokens, and the statements of a parse without a fault.
-/
namespace Go.Proofs.YthpcbbnabnlanaaGreatDoor
set_option linter.unusedVariables false

/-- the tokens that the program reads: the cut's, an End behind -/
def progToks (s : ByteArray) : List PTok := (lex s).2.1 ++ [endTok (lex s).2.2]
theorem srt_end (l : Nat) : srt (endTok l) = 1 := by simp [srt, endTok]
theorem lexFLen (s : ByteArray) (f : Nat) : ∀ (i line : Nat) (acc : List PTok), (lexF s f i line acc).2.1.length ≤ acc.length + f := by
  induction f with
  | zero => intro i line acc; simp [lexF]
  | succ f ih =>
    intro i line acc
    simp only [lexF]
    split
    · split
      · have := ih (i + 1) (line + 1) acc; omega
      · split
        · have := ih (i + 1) line acc; omega
        · split
          · have := ih (runTo notNl s i) line acc; omega
          · split
            · simp
            · have := ih (tokAt s i).1 line (acc ++ [⟨s.extract i (tokAt s i).1, (tokAt s i).2, line⟩]); simp at this; omega
    · simp
theorem prog_len (s : ByteArray) (hs : s.size ≤ 2000) : (progToks s).length ≤ 2001 := by
  have := lexFLen s s.size 0 1 []
  unfold progToks
  show ((lexF s s.size 0 1 []).2.1 ++ _).length ≤ 2001
  simp at this ⊢; omega
theorem tkN_last (l : List PTok) (t : PTok) : tkN (l ++ [t]) ((l ++ [t]).length - 1) = t := by
  unfold tkN; simp
theorem prog_end (s : ByteArray) (hs : s.size ≤ 2000) : EndOk (progToks s) :=
  ⟨by simp [progToks], by unfold progToks; rw [tkN_last]; exact srt_end _, prog_len s hs⟩
theorem lexF_size (s : ByteArray) (f : Nat) : ∀ (i line : Nat) (acc : List PTok), (∀ t ∈ acc, t.s.size ≤ s.size) → ∀ t ∈ (lexF s f i line acc).2.1, t.s.size ≤ s.size := by
  induction f with
  | zero => intro i line acc h; exact h
  | succ f ih =>
    intro i line acc h
    simp only [lexF]
    split
    · rename_i hi
      split
      · exact ih _ _ _ h
      · split
        · exact ih _ _ _ h
        · split
          · exact ih _ _ _ h
          · split
            · intro t ht; simp at ht
            · rename_i hne
              refine ih _ _ _ (fun t ht => ?_)
              rcases List.mem_append.1 ht with ht | ht
              · exact h t ht
              · obtain rfl : t = ⟨s.extract i (tokAt s i).1, (tokAt s i).2, line⟩ := by simpa using ht
                have h1 := tokAtSize s i hi
                have h2 := tokAt_end s i hne
                show (s.extract i (tokAt s i).1).size ≤ s.size
                rw [size_ext s i _ (by omega) h1]; omega
    · exact h
theorem tval_bd {t : PTok} (h : t.kind = 105 → IsInt t.s) : -9999999999 ≤ tval t ∧ tval t ≤ 9999999999 := by
  unfold tval
  split
  · rename_i hk
    have := numTo_lt t.s (h hk) t.s.size (Nat.le_refl _)
    unfold intVal
    split <;> omega
  · omega
theorem tok_ok (s : ByteArray) (hs : s.size ≤ 2000) (i : Nat) : TOk (tkN (progToks s) i) := by
  have key : ∀ t ∈ progToks s, TOk t := fun t ht => by
    rcases List.mem_append.1 ht with ht | ht
    · refine ⟨?_, tval_bd (lex_int s t ht)⟩
      have := lexF_size s s.size 0 1 [] (fun t ht => by simp at ht) t ht
      omega
    · obtain rfl : t = endTok (lex s).2.2 := by simpa using ht
      exact ⟨by show ByteArray.empty.size ≤ 2000; decide, by simp [tval, endTok], by simp [tval, endTok]⟩
  unfold tkN
  rcases Nat.lt_or_ge i (progToks s).length with h | h
  · rw [List.getD_eq_getElem?_getD, List.getElem?_eq_getElem h]
    exact key _ (List.getElem_mem h)
  · rw [List.getD_eq_getElem?_getD, List.getElem?_eq_none h]
    exact ⟨by show ByteArray.empty.size ≤ 2000; decide, by simp [tval, zeroTok], by simp [tval, zeroTok]⟩
end Go.Proofs.YthpcbbnabnlanaaGreatDoor
