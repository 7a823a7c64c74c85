import Derived.Test.YthpcbbnabnlanaaGreatDoorM20
import Derived.Test.YthpcbbnabnlanaaGreatDoorM28
namespace Go.Proofs.YthpcbbnabnlanaaGreatDoor
open Go.RowKit
set_option linter.unusedVariables false
set_option linter.unusedSimpArgs false
section
set_option maxHeartbeats 8000000
set_option maxRecDepth 100000
variable {w w' wr : World}
structure Cuts (W2 : World) (q : Nat) (PO : Int) (weak : Bool) (TN : Int) (A : List (List Int)) : Prop where
 f : Calls Tryz.prog 22 #[.pointer (some ⟨q, 0, none⟩), .int .i64 PO, .bool weak] W2 fun e w3 => ∃ vS, e = .returned (.tuple #[vS, .bool true]) ∧ LLT w3 vS A ∧ W2.grownBy w3 none
 a : Calls Tryz.prog 29 #[.pointer (some ⟨q, 0, none⟩), .int .i64 PO, .bool weak, .int .i64 1000000] W2 fun e w3 => ∃ vS, e = .returned (.agg #[vS, .int .i64 0, .int .i64 TN]) ∧ LLT w3 vS A ∧ W2.grownBy w3 none
 c1 : ∀ b : Int, b ≤ 1000000 → TN ≤ max b 0 → Calls Tryz.prog 29 #[.pointer (some ⟨q, 0, none⟩), .int .i64 PO, .bool weak, .int .i64 b] W2 fun e w3 => ∃ vS, e = .returned (.agg #[vS, .int .i64 0, .int .i64 TN]) ∧ LLT w3 vS A ∧ W2.grownBy w3 none
 c2 : ∀ b : Int, b ≤ 1000000 → max b 0 < TN → ∃ P, P <+: A ∧ Calls Tryz.prog 29 #[.pointer (some ⟨q, 0, none⟩), .int .i64 PO, .bool weak, .int .i64 b] W2 fun e w3 => ∃ vS, e = .returned (.agg #[vS, .int .i64 1, .int .i64 (max b 0)]) ∧ LLT w3 vS P ∧ W2.grownBy w3 none
structure StF (w : World) (n : Nat) (Ls : List (List UInt8)) (PO : Int) (weak : Bool) (TN : Int) (A : List (List Int)) : Prop where
 m0 : ∀ W, w.grownBy W none → Calls Tryz.prog 21 #[.string (bn (mkB n Ls))] W fun e w' => ∃ q, e = .returned (.pointer (some ⟨q, 0, none⟩)) ∧ W.grownBy w' none ∧ ∀ W2, w'.grownBy W2 none → Cuts W2 q PO weak TN A
 lo : 0 ≤ TN
 hi : TN ≤ 900000
 row : ∀ r ∈ A, r.length = n
 len : A.length ≤ 625
attribute [local go_sem] bn_ap bn_mk_ap mk_bn_ap bn_size mk_size ap_len List.length_cons List.length_nil
theorem st_walk (N budget order : Int) (weak : Bool) {vr : Value} {raw : List Int} (hV : RawIn w vr raw) (hN1 : -9223372036854775808 ≤ N) (hN2 : N ≤ 9223372036854775807) (hb1 : -9223372036854775808 ≤ budget) (hb2 : budget ≤ 9223372036854775807) (ho1 : -9223372036854775808 ≤ order) (ho2 : order ≤ 9223372036854775807) (hrw : ∀ x ∈ raw, -9223372036854775808 ≤ x ∧ x ≤ 9223372036854775807) (n : Nat) (hn : 1 + pickI N 4 = (n : Int)) (PO : Int) (hPO : pickI order 2 = PO) (TN : Int) (A : List (List Int)) (hF : StF w n ((ptL n raw).map stB) PO weak TN A) : Calls Tryz.prog 13 #[.int .i64 N, vr, .int .i64 budget, .int .i64 order, .bool weak] w fun e w' => e = .returned (.bool true) ∧ w.grownBy w' none := by
 have KPT := Kept.mk (kp_part (w := w) N hV hN1 hN2 hrw n hn)
 have b4 := pickI_bd N 4 (by decide)
 have hn1 : 1 ≤ n := by omega
 have hn4 : n ≤ 4 := by omega
 obtain ⟨ra, rc, rfl⟩ := hV.is
 obtain ⟨hLo, hLl⟩ := ptL_ok hn1 hn4 raw
 have hLb : ∀ t ∈ (ptL n raw).map stB, t.length ≤ 70 := fun t ht => by obtain ⟨q, hq, rfl⟩ := List.mem_map.1 ht; exact (hLo q hq).len
 have hLm : ((ptL n raw).map stB).length ≤ 8 := by rw [List.length_map]; exact hLl
 clear hLo hLl
 have KM0 := Kept.mk (fun {W : World} (hg : w.grownBy W none) => hF.m0 W hg)
 generalize (ptL n raw).map stB = Ls at *
 have KT0 := Kept.mk (fun {W : World} {v : Value} (hS : SRow W v Ls) => kp_text n hS hn4 (by omega) hLb)
 have KPO := Kept.mk (fun W => kp_pick order 2 W ho1 ho2 (by decide) (by decide))
 rw [hPO] at KPO
 have HROW := hide hF.row
 have hal := hF.len
 have htn0 := hF.lo
 have htn1 := hF.hi
 have KPB := Kept.mk (fun W => kp_pick budget (TN + 3) W hb1 hb2 (by omega) (by omega))
 obtain ⟨pb1, pb2⟩ := pickI_bd budget (TN + 3) (by omega)
 generalize pickI budget (TN + 3) = PB at *
 clear hF hV hrw hLb hn b4 hPO
 go_enter Tryz.func13, Tryz.ntmps13
 have hgr : w.grownBy w none := grown_refl _ _
 go_wp2_with (first | (go_at_call 24; refine KPT.get.mono ?_; rintro e w1 ⟨v, rfl, hS, hg1⟩; replace hgr := hgr.trans hg1; obtain ⟨sa, sc, hv⟩ := hS.is; subst hv; clear hg1 KPT) | (go_at_call 25; refine (KT0.get hS).mono ?_; rintro e w4 ⟨rfl, hg1⟩; replace hgr := hgr.trans hg1; clear hg1 KT0 hS) | (go_at_call 21; refine (KM0.get hgr).mono ?_; rintro e wa ⟨q1, rfl, hg1, hwy⟩; replace hgr := hgr.trans hg1; have F1 := Kept.mk (fun {W2 : World} h => (hwy W2 h).f); have F2 := Kept.mk (fun {W2 : World} h => (hwy W2 h).a); have WY := hide hwy; have hka := grown_refl wa none; clear hg1 hwy KM0) | (go_at_call 16; refine (KPO.get _).mono ?_; rintro e w6 ⟨rfl, hww⟩; subst w6; clear KPO) | (go_at_call 22; refine (F1.get hka).mono ?_; clear F1; rintro e w6 ⟨vS, rfl, hX, hg1⟩; replace hgr := hgr.trans hg1; replace hka := hka.trans hg1; obtain ⟨xa, xc, hv1⟩ := hX.ll.is; subst hv1; clear hg1 hX) | (go_at_call 29; refine (F2.get hka).mono ?_; clear F2; rintro e w7 ⟨vS, rfl, hA, hg1⟩; replace hgr := hgr.trans hg1; replace hka := hka.trans hg1; obtain ⟨la, lc, hv1⟩ := hA.ll.is; subst hv1; clear hg1))
 have gA := World.grownBy_alloc w7 (.cells #[.slice la A.length lc, .int .i64 0, .int .i64 TN] 50) none
 have hbx := heap_alloc_new w7 (.cells #[.slice la A.length lc, .int .i64 0, .int .i64 TN] 50)
 replace hgr := hgr.trans gA
 replace hka := hka.trans gA
 replace hA := hA.grown gA
 generalize w7.alloc (.cells #[.slice la A.length lc, .int .i64 0, .int .i64 TN] 50) = W5 at *
 generalize w7.heap.size = B at *
 have HGR := hide hgr
 have HKA := hide hka
 have HA := hide hA
 have HBX := hide hbx
 clear gA hbx hgr hka hA
 go_loopw [16] (fun vt wr => ∃ t : Nat, t ≤ 3 ∧ vt = .int .i64 t ∧ W5.grownBy wr none) (fun vt _ => 3 - (intOf vt).toNat)
 case atStart => exact ⟨0, Nat.zero_le _, rfl, grown_refl _ _⟩
 case round =>
  obtain ⟨t, ht3, rfl, hg⟩ := hrel
  have bb := (hg.block B (some_lt HBX.out) (by simp)).trans HBX.out
  have b0 := cell_of bb 0 _ rfl
  have b1 := cell_of bb 1 _ rfl
  have b2 := cell_of bb 2 _ rfl
  have lB := some_lt bb
  have HG := hide hg
  have CT := hide (WY.out wr (HKA.out.trans hg))
  clear bb hg
  have ht4 : t = 0 ∨ t = 1 ∨ t = 2 ∨ t = 3 := by omega
  rcases ht4 with rfl | rfl | rfl | rfl
  ·by_cases hneg : PB - 1 < 0
   ·by_cases hz : TN ≤ 0
    ·have KS := Kept.mk (CT.out.c1 (PB - 1) (by omega) (by omega))
     clear CT
     have HPL : Hid (A <+: A) := List.prefix_refl _
     have hpl : (A).length ≤ A.length := HPL.out.length_le
     try clear hPA
     have hpl2 : ((A).length : Int) ≤ A.length := by omega
     have hq1 : decide (A.length < (A).length) = false := decide_eq_false (by omega)
     go_wp2_with (first | (go_at_call 16; refine (KPB.get _).mono ?_; rintro e w6 ⟨rfl, hww⟩; subst w6) | (go_at_call 29; refine KS.get.mono ?_; clear KS; rintro e w8 ⟨vS, rfl, hP, hg8⟩; obtain ⟨pa, pc, hv1⟩ := hP.ll.is; subst hv1; have d0 := hg8.cell b0 (by simp); have d1 := hg8.cell b1 (by simp); have d2 := hg8.cell b2 (by simp); have dl := Nat.lt_of_lt_of_le lB hg8.size))
     have gA := World.grownBy_alloc w8 (.cells #[.slice pa (A).length pc, .int .i64 0, .int .i64 TN] 50) none
     have hbx := heap_alloc_new w8 (.cells #[.slice pa (A).length pc, .int .i64 0, .int .i64 TN] 50)
     replace hP := hP.grown gA
     have gB := (HG.out.trans hg8).trans gA
     generalize w8.alloc (.cells #[.slice pa (A).length pc, .int .i64 0, .int .i64 TN] 50) = W6 at *
     generalize w8.heap.size = B2 at *
     have HP := hide hP
     have HBX2 := hide hbx
     have HGB := hide gB
     clear hP hbx gA gB d0 d1 d2 dl hg8 b0 b1 b2 lB
     go_loopw [19] (fun vi wq => ∃ i : Nat, i ≤ (A).length ∧ vi = .int .i64 i ∧ W6.grownBy wq none) (fun vi _ => (A).length - (intOf vi).toNat)
     case atStart => exact ⟨0, Nat.zero_le _, rfl, grown_refl _ _⟩
     case round =>
      obtain ⟨i, hi9, rfl, hg6⟩ := hrel
      have bb2 := (hg6.block B2 (some_lt HBX2.out) (by simp)).trans HBX2.out
      have f0 := cell_of bb2 0 _ rfl
      have lB2 := some_lt bb2
      by_cases hlt : i < (A).length
      ·obtain ⟨r, hr⟩ : ∃ r, (A)[i]? = some r := ⟨(A)[i], List.getElem?_eq_getElem hlt⟩
       have hrA : A[i]? = some r := by obtain ⟨z, hz⟩ := HPL.out; rw [← hz, List.getElem?_append_left hlt]; exact hr
       have hrm := List.mem_of_getElem? hrA
       have r1 := HROW.out r hrm
       have hne : r ≠ [] := fun e => by rw [e] at r1; simp at r1; omega
       have gC := HGB.out.trans hg6
       have bb := (gC.block B (some_lt HBX.out) (by simp)).trans HBX.out
       have e0 := cell_of bb 0 _ rfl
       have lB := some_lt bb
       obtain ⟨g1, u1, ea1, l1, c1, hV1⟩ := (HP.out.grown hg6).ll.at_ hr
       obtain ⟨g2, u2, ea2, l2, c2, hV2⟩ := (HA.out.grown gC).ll.at_ hrA
       subst ea1 ea2
       obtain ⟨gv1, cv1, ee1, _, _⟩ := hV1.cells hne
       obtain ⟨gv2, cv2, ee2, _, _⟩ := hV2.cells hne
       subst ee1 ee2
       have KV := Kept.mk (fun {W : World} (hw : wr.grownBy W none) => kp_sameRow (w := W) (hV1.grown hw) (hV2.grown hw) (by omega) (by omega))
       have hdd : decide (r = r) = true := by simp
       rw [hdd] at KV
       have hlt2 : (i : Int) < (A).length := by omega
       have hlt3 : (i : Int) < A.length := by omega
       have h0i : (0 : Int) ≤ i := by omega
       have HLI : Hid (i + 1 ≤ (A).length) := hlt
       have HME : Hid ((A).length - (i + 1) < (A).length - i) := by rw [Hid]; omega
       have HG9 := hide hg6
       clear hr hrA hrm hdd hV1 hV2 hg6 gC hlt hne r1 bb bb2
       go_wp2
       refine wp_region_held_drew (S := fun w1 => w1.cell? ⟨B2, 0, none⟩ = some (.slice (some ⟨g1, 0, none⟩) (A).length pc) ∧ w1.cell? ⟨B, 0, none⟩ = some (.slice (some ⟨g2, 0, none⟩) A.length lc) ∧ w1.cell? ⟨g1, i, none⟩ = some (.slice (some ⟨gv1, 0, none⟩) r.length cv1) ∧ w1.cell? ⟨g2, i, none⟩ = some (.slice (some ⟨gv2, 0, none⟩) r.length cv2)) (by kernel_rfl) ?_ (fun hHeld => ?_)
       ·exact ⟨f0, e0, c1, c2⟩
       refine tkH (i := 0) (v := ?_) 143 rfl rfl (by kernel_rfl) (fun _ _ _ h => h) (Or.inl ⟨by rfl, ?_⟩) hHeld ?_
       rotate_left 1
       ·(intro w hSw; (try dsimp only at hSw); go_simp; try with_reducible rfl)
       (try simp only [Act.put, arS, arZ, arN])
       refine tkH (i := 1) (v := ?_) 144 rfl rfl (by kernel_rfl) (fun _ _ _ h => h) (Or.inl ⟨by rfl, ?_⟩) hHeld ?_
       rotate_left 1
       ·(intro w hSw; (try dsimp only at hSw); go_simp; try with_reducible rfl)
       (try simp only [Act.put, arS, arZ, arN])
       refine tkH (i := 2) (v := ?_) 145 rfl rfl (by kernel_rfl) (fun _ _ _ h => h) (Or.inl ⟨by rfl, ?_⟩) hHeld ?_
       rotate_left 1
       ·(intro w hSw; (try dsimp only at hSw); go_simp; try with_reducible rfl)
       (try simp only [Act.put, arS, arZ, arN])
       refine tkH (i := 3) (v := ?_) 146 rfl rfl (by kernel_rfl) (fun _ _ _ h => h) (Or.inl ⟨by rfl, ?_⟩) hHeld ?_
       rotate_left 1
       ·(intro w hSw; (try dsimp only at hSw); go_simp; try with_reducible rfl)
       (try simp only [Act.put, arS, arZ, arN])
       refine tkH (i := 4) (v := ?_) 147 rfl rfl (by kernel_rfl) (fun _ _ _ h => h) (Or.inl ⟨by rfl, ?_⟩) hHeld ?_
       rotate_left 1
       ·(intro w hSw; (try dsimp only at hSw); go_simp; try with_reducible rfl)
       (try simp only [Act.put, arS, arZ, arN])
       refine tkH (i := 5) (v := ?_) 148 rfl rfl (by kernel_rfl) (fun _ _ _ h => h) (Or.inl ⟨by rfl, ?_⟩) hHeld ?_
       rotate_left 1
       ·(intro w hSw; (try dsimp only at hSw); go_simp; try with_reducible rfl)
       (try simp only [Act.put, arS, arZ, arN])
       refine tkH (i := 6) (v := ?_) 149 rfl rfl (by kernel_rfl) (fun _ _ _ h => h) (Or.inl ⟨by rfl, ?_⟩) hHeld ?_
       rotate_left 1
       ·(intro w hSw; (try dsimp only at hSw); go_simp; try with_reducible rfl)
       (try simp only [Act.put, arS, arZ, arN])
       refine tkH (i := 7) (v := ?_) 150 rfl rfl (by kernel_rfl) (fun _ _ _ h => h) (Or.inl ⟨by rfl, ?_⟩) hHeld ?_
       rotate_left 1
       ·(intro w hSw; (try dsimp only at hSw); go_simp; try with_reducible rfl)
       (try simp only [Act.put, arS, arZ, arN])
       refine tkH (i := 8) (v := ?_) 151 rfl rfl (by kernel_rfl) (fun _ _ _ h => h) (Or.inl ⟨by rfl, ?_⟩) hHeld ?_
       rotate_left 1
       ·(intro w hSw; (try dsimp only at hSw); go_simp; try with_reducible rfl)
       (try simp only [Act.put, arS, arZ, arN])
       refine tkH (i := 9) (v := ?_) 152 rfl rfl (by kernel_rfl) (fun _ _ _ h => h) (Or.inl ⟨by rfl, ?_⟩) hHeld ?_
       rotate_left 1
       ·(intro w hSw; (try dsimp only at hSw); go_simp; try with_reducible rfl)
       (try simp only [Act.put, arS, arZ, arN])
       refine wpAnyH_ready (rs := [10]) (by kernel_rfl) (by simp) ?_
       refine AllReadyH.cons rfl (fun K hK => ?_) AllReadyH.nil
       go_simp
       go_wp2_with ((go_at_call 28; refine (KV.get (grown_drew' _ _)).mono ?_; rintro e w5 ⟨rfl, hg5⟩))
       refine hK.out _ _ ?_ (fun hHeld => ?_)
       ·exact ⟨hg5.cell hHeld.1 (by simp), hg5.cell hHeld.2.1 (by simp), hg5.cell hHeld.2.2.1 (by simp), hg5.cell hHeld.2.2.2 (by simp)⟩
       clear hK K
       (try simp only [Act.put, arS, arZ, arN])
       refine tkH (i := 11) (v := ?_) 20 rfl rfl (by kernel_rfl) (fun _ _ _ h => h) (Or.inl ⟨by rfl, ?_⟩) hHeld ?_
       rotate_left 1
       ·(intro w hSw; (try dsimp only at hSw); go_simp; try with_reducible rfl)
       (try simp only [Act.put, arS, arZ, arN])
       refine wpAnyH_done (by kernel_rfl) ?_ _
       go_wp2
       go_roundw
       case rel => exact ⟨i + 1, HLI.out, by go_num, (HG9.out.trans (grown_drew' _ _)).trans hg5⟩
       case measure => exact HME.out
      ·obtain rfl : i = (A).length := by omega
       go_wp2
       go_roundw
       case rel => exact ⟨1, by decide, by go_num, HGB.out.trans hg6⟩
       case measure => simp [intOf]
    ·have hz2 : 0 < TN := by omega
     obtain ⟨P, hPA, hKS⟩ := CT.out.c2 (PB - 1) (by omega) (by omega)
     rw [show max (PB - 1) 0 = 0 by omega] at hKS
     have KS := Kept.mk hKS
     clear CT hKS hz
     have HPL : Hid (P <+: A) := hPA
     have hpl : (P).length ≤ A.length := HPL.out.length_le
     try clear hPA
     have hpl2 : ((P).length : Int) ≤ A.length := by omega
     have hq1 : decide (A.length < (P).length) = false := decide_eq_false (by omega)
     go_wp2_with (first | (go_at_call 16; refine (KPB.get _).mono ?_; rintro e w6 ⟨rfl, hww⟩; subst w6) | (go_at_call 29; refine KS.get.mono ?_; clear KS; rintro e w8 ⟨vS, rfl, hP, hg8⟩; obtain ⟨pa, pc, hv1⟩ := hP.ll.is; subst hv1; have d0 := hg8.cell b0 (by simp); have d1 := hg8.cell b1 (by simp); have d2 := hg8.cell b2 (by simp); have dl := Nat.lt_of_lt_of_le lB hg8.size))
     have gA := World.grownBy_alloc w8 (.cells #[.slice pa (P).length pc, .int .i64 1, .int .i64 0] 50) none
     have hbx := heap_alloc_new w8 (.cells #[.slice pa (P).length pc, .int .i64 1, .int .i64 0] 50)
     replace hP := hP.grown gA
     have gB := (HG.out.trans hg8).trans gA
     generalize w8.alloc (.cells #[.slice pa (P).length pc, .int .i64 1, .int .i64 0] 50) = W6 at *
     generalize w8.heap.size = B2 at *
     have HP := hide hP
     have HBX2 := hide hbx
     have HGB := hide gB
     clear hP hbx gA gB d0 d1 d2 dl hg8 b0 b1 b2 lB
     go_loopw [19] (fun vi wq => ∃ i : Nat, i ≤ (P).length ∧ vi = .int .i64 i ∧ W6.grownBy wq none) (fun vi _ => (P).length - (intOf vi).toNat)
     case atStart => exact ⟨0, Nat.zero_le _, rfl, grown_refl _ _⟩
     case round =>
      obtain ⟨i, hi9, rfl, hg6⟩ := hrel
      have bb2 := (hg6.block B2 (some_lt HBX2.out) (by simp)).trans HBX2.out
      have f0 := cell_of bb2 0 _ rfl
      have lB2 := some_lt bb2
      by_cases hlt : i < (P).length
      ·obtain ⟨r, hr⟩ : ∃ r, (P)[i]? = some r := ⟨(P)[i], List.getElem?_eq_getElem hlt⟩
       have hrA : A[i]? = some r := by obtain ⟨z, hz⟩ := HPL.out; rw [← hz, List.getElem?_append_left hlt]; exact hr
       have hrm := List.mem_of_getElem? hrA
       have r1 := HROW.out r hrm
       have hne : r ≠ [] := fun e => by rw [e] at r1; simp at r1; omega
       have gC := HGB.out.trans hg6
       have bb := (gC.block B (some_lt HBX.out) (by simp)).trans HBX.out
       have e0 := cell_of bb 0 _ rfl
       have lB := some_lt bb
       obtain ⟨g1, u1, ea1, l1, c1, hV1⟩ := (HP.out.grown hg6).ll.at_ hr
       obtain ⟨g2, u2, ea2, l2, c2, hV2⟩ := (HA.out.grown gC).ll.at_ hrA
       subst ea1 ea2
       obtain ⟨gv1, cv1, ee1, _, _⟩ := hV1.cells hne
       obtain ⟨gv2, cv2, ee2, _, _⟩ := hV2.cells hne
       subst ee1 ee2
       have KV := Kept.mk (fun {W : World} (hw : wr.grownBy W none) => kp_sameRow (w := W) (hV1.grown hw) (hV2.grown hw) (by omega) (by omega))
       have hdd : decide (r = r) = true := by simp
       rw [hdd] at KV
       have hlt2 : (i : Int) < (P).length := by omega
       have hlt3 : (i : Int) < A.length := by omega
       have h0i : (0 : Int) ≤ i := by omega
       have HLI : Hid (i + 1 ≤ (P).length) := hlt
       have HME : Hid ((P).length - (i + 1) < (P).length - i) := by rw [Hid]; omega
       have HG9 := hide hg6
       clear hr hrA hrm hdd hV1 hV2 hg6 gC hlt hne r1 bb bb2
       go_wp2
       refine wp_region_held_drew (S := fun w1 => w1.cell? ⟨B2, 0, none⟩ = some (.slice (some ⟨g1, 0, none⟩) (P).length pc) ∧ w1.cell? ⟨B, 0, none⟩ = some (.slice (some ⟨g2, 0, none⟩) A.length lc) ∧ w1.cell? ⟨g1, i, none⟩ = some (.slice (some ⟨gv1, 0, none⟩) r.length cv1) ∧ w1.cell? ⟨g2, i, none⟩ = some (.slice (some ⟨gv2, 0, none⟩) r.length cv2)) (by kernel_rfl) ?_ (fun hHeld => ?_)
       ·exact ⟨f0, e0, c1, c2⟩
       refine tkH (i := 0) (v := ?_) 143 rfl rfl (by kernel_rfl) (fun _ _ _ h => h) (Or.inl ⟨by rfl, ?_⟩) hHeld ?_
       rotate_left 1
       ·(intro w hSw; (try dsimp only at hSw); go_simp; try with_reducible rfl)
       (try simp only [Act.put, arS, arZ, arN])
       refine tkH (i := 1) (v := ?_) 144 rfl rfl (by kernel_rfl) (fun _ _ _ h => h) (Or.inl ⟨by rfl, ?_⟩) hHeld ?_
       rotate_left 1
       ·(intro w hSw; (try dsimp only at hSw); go_simp; try with_reducible rfl)
       (try simp only [Act.put, arS, arZ, arN])
       refine tkH (i := 2) (v := ?_) 145 rfl rfl (by kernel_rfl) (fun _ _ _ h => h) (Or.inl ⟨by rfl, ?_⟩) hHeld ?_
       rotate_left 1
       ·(intro w hSw; (try dsimp only at hSw); go_simp; try with_reducible rfl)
       (try simp only [Act.put, arS, arZ, arN])
       refine tkH (i := 3) (v := ?_) 146 rfl rfl (by kernel_rfl) (fun _ _ _ h => h) (Or.inl ⟨by rfl, ?_⟩) hHeld ?_
       rotate_left 1
       ·(intro w hSw; (try dsimp only at hSw); go_simp; try with_reducible rfl)
       (try simp only [Act.put, arS, arZ, arN])
       refine tkH (i := 4) (v := ?_) 147 rfl rfl (by kernel_rfl) (fun _ _ _ h => h) (Or.inl ⟨by rfl, ?_⟩) hHeld ?_
       rotate_left 1
       ·(intro w hSw; (try dsimp only at hSw); go_simp; try with_reducible rfl)
       (try simp only [Act.put, arS, arZ, arN])
       refine tkH (i := 5) (v := ?_) 148 rfl rfl (by kernel_rfl) (fun _ _ _ h => h) (Or.inl ⟨by rfl, ?_⟩) hHeld ?_
       rotate_left 1
       ·(intro w hSw; (try dsimp only at hSw); go_simp; try with_reducible rfl)
       (try simp only [Act.put, arS, arZ, arN])
       refine tkH (i := 6) (v := ?_) 149 rfl rfl (by kernel_rfl) (fun _ _ _ h => h) (Or.inl ⟨by rfl, ?_⟩) hHeld ?_
       rotate_left 1
       ·(intro w hSw; (try dsimp only at hSw); go_simp; try with_reducible rfl)
       (try simp only [Act.put, arS, arZ, arN])
       refine tkH (i := 7) (v := ?_) 150 rfl rfl (by kernel_rfl) (fun _ _ _ h => h) (Or.inl ⟨by rfl, ?_⟩) hHeld ?_
       rotate_left 1
       ·(intro w hSw; (try dsimp only at hSw); go_simp; try with_reducible rfl)
       (try simp only [Act.put, arS, arZ, arN])
       refine tkH (i := 8) (v := ?_) 151 rfl rfl (by kernel_rfl) (fun _ _ _ h => h) (Or.inl ⟨by rfl, ?_⟩) hHeld ?_
       rotate_left 1
       ·(intro w hSw; (try dsimp only at hSw); go_simp; try with_reducible rfl)
       (try simp only [Act.put, arS, arZ, arN])
       refine tkH (i := 9) (v := ?_) 152 rfl rfl (by kernel_rfl) (fun _ _ _ h => h) (Or.inl ⟨by rfl, ?_⟩) hHeld ?_
       rotate_left 1
       ·(intro w hSw; (try dsimp only at hSw); go_simp; try with_reducible rfl)
       (try simp only [Act.put, arS, arZ, arN])
       refine wpAnyH_ready (rs := [10]) (by kernel_rfl) (by simp) ?_
       refine AllReadyH.cons rfl (fun K hK => ?_) AllReadyH.nil
       go_simp
       go_wp2_with ((go_at_call 28; refine (KV.get (grown_drew' _ _)).mono ?_; rintro e w5 ⟨rfl, hg5⟩))
       refine hK.out _ _ ?_ (fun hHeld => ?_)
       ·exact ⟨hg5.cell hHeld.1 (by simp), hg5.cell hHeld.2.1 (by simp), hg5.cell hHeld.2.2.1 (by simp), hg5.cell hHeld.2.2.2 (by simp)⟩
       clear hK K
       (try simp only [Act.put, arS, arZ, arN])
       refine tkH (i := 11) (v := ?_) 20 rfl rfl (by kernel_rfl) (fun _ _ _ h => h) (Or.inl ⟨by rfl, ?_⟩) hHeld ?_
       rotate_left 1
       ·(intro w hSw; (try dsimp only at hSw); go_simp; try with_reducible rfl)
       (try simp only [Act.put, arS, arZ, arN])
       refine wpAnyH_done (by kernel_rfl) ?_ _
       go_wp2
       go_roundw
       case rel => exact ⟨i + 1, HLI.out, by go_num, (HG9.out.trans (grown_drew' _ _)).trans hg5⟩
       case measure => exact HME.out
      ·obtain rfl : i = (P).length := by omega
       go_wp2
       go_roundw
       case rel => exact ⟨1, by decide, by go_num, HGB.out.trans hg6⟩
       case measure => simp [intOf]
   ·have hnn : 0 ≤ PB - 1 := by omega
    by_cases hz : TN ≤ PB - 1
    ·have KS := Kept.mk (CT.out.c1 (PB - 1) (by omega) (by omega))
     clear CT hneg
     have HPL : Hid (A <+: A) := List.prefix_refl _
     have hpl : (A).length ≤ A.length := HPL.out.length_le
     try clear hPA
     have hpl2 : ((A).length : Int) ≤ A.length := by omega
     have hq1 : decide (A.length < (A).length) = false := decide_eq_false (by omega)
     go_wp2_with (first | (go_at_call 16; refine (KPB.get _).mono ?_; rintro e w6 ⟨rfl, hww⟩; subst w6) | (go_at_call 29; refine KS.get.mono ?_; clear KS; rintro e w8 ⟨vS, rfl, hP, hg8⟩; obtain ⟨pa, pc, hv1⟩ := hP.ll.is; subst hv1; have d0 := hg8.cell b0 (by simp); have d1 := hg8.cell b1 (by simp); have d2 := hg8.cell b2 (by simp); have dl := Nat.lt_of_lt_of_le lB hg8.size))
     have gA := World.grownBy_alloc w8 (.cells #[.slice pa (A).length pc, .int .i64 0, .int .i64 TN] 50) none
     have hbx := heap_alloc_new w8 (.cells #[.slice pa (A).length pc, .int .i64 0, .int .i64 TN] 50)
     replace hP := hP.grown gA
     have gB := (HG.out.trans hg8).trans gA
     generalize w8.alloc (.cells #[.slice pa (A).length pc, .int .i64 0, .int .i64 TN] 50) = W6 at *
     generalize w8.heap.size = B2 at *
     have HP := hide hP
     have HBX2 := hide hbx
     have HGB := hide gB
     clear hP hbx gA gB d0 d1 d2 dl hg8 b0 b1 b2 lB
     go_loopw [19] (fun vi wq => ∃ i : Nat, i ≤ (A).length ∧ vi = .int .i64 i ∧ W6.grownBy wq none) (fun vi _ => (A).length - (intOf vi).toNat)
     case atStart => exact ⟨0, Nat.zero_le _, rfl, grown_refl _ _⟩
     case round =>
      obtain ⟨i, hi9, rfl, hg6⟩ := hrel
      have bb2 := (hg6.block B2 (some_lt HBX2.out) (by simp)).trans HBX2.out
      have f0 := cell_of bb2 0 _ rfl
      have lB2 := some_lt bb2
      by_cases hlt : i < (A).length
      ·obtain ⟨r, hr⟩ : ∃ r, (A)[i]? = some r := ⟨(A)[i], List.getElem?_eq_getElem hlt⟩
       have hrA : A[i]? = some r := by obtain ⟨z, hz⟩ := HPL.out; rw [← hz, List.getElem?_append_left hlt]; exact hr
       have hrm := List.mem_of_getElem? hrA
       have r1 := HROW.out r hrm
       have hne : r ≠ [] := fun e => by rw [e] at r1; simp at r1; omega
       have gC := HGB.out.trans hg6
       have bb := (gC.block B (some_lt HBX.out) (by simp)).trans HBX.out
       have e0 := cell_of bb 0 _ rfl
       have lB := some_lt bb
       obtain ⟨g1, u1, ea1, l1, c1, hV1⟩ := (HP.out.grown hg6).ll.at_ hr
       obtain ⟨g2, u2, ea2, l2, c2, hV2⟩ := (HA.out.grown gC).ll.at_ hrA
       subst ea1 ea2
       obtain ⟨gv1, cv1, ee1, _, _⟩ := hV1.cells hne
       obtain ⟨gv2, cv2, ee2, _, _⟩ := hV2.cells hne
       subst ee1 ee2
       have KV := Kept.mk (fun {W : World} (hw : wr.grownBy W none) => kp_sameRow (w := W) (hV1.grown hw) (hV2.grown hw) (by omega) (by omega))
       have hdd : decide (r = r) = true := by simp
       rw [hdd] at KV
       have hlt2 : (i : Int) < (A).length := by omega
       have hlt3 : (i : Int) < A.length := by omega
       have h0i : (0 : Int) ≤ i := by omega
       have HLI : Hid (i + 1 ≤ (A).length) := hlt
       have HME : Hid ((A).length - (i + 1) < (A).length - i) := by rw [Hid]; omega
       have HG9 := hide hg6
       clear hr hrA hrm hdd hV1 hV2 hg6 gC hlt hne r1 bb bb2
       go_wp2
       refine wp_region_held_drew (S := fun w1 => w1.cell? ⟨B2, 0, none⟩ = some (.slice (some ⟨g1, 0, none⟩) (A).length pc) ∧ w1.cell? ⟨B, 0, none⟩ = some (.slice (some ⟨g2, 0, none⟩) A.length lc) ∧ w1.cell? ⟨g1, i, none⟩ = some (.slice (some ⟨gv1, 0, none⟩) r.length cv1) ∧ w1.cell? ⟨g2, i, none⟩ = some (.slice (some ⟨gv2, 0, none⟩) r.length cv2)) (by kernel_rfl) ?_ (fun hHeld => ?_)
       ·exact ⟨f0, e0, c1, c2⟩
       refine tkH (i := 0) (v := ?_) 143 rfl rfl (by kernel_rfl) (fun _ _ _ h => h) (Or.inl ⟨by rfl, ?_⟩) hHeld ?_
       rotate_left 1
       ·(intro w hSw; (try dsimp only at hSw); go_simp; try with_reducible rfl)
       (try simp only [Act.put, arS, arZ, arN])
       refine tkH (i := 1) (v := ?_) 144 rfl rfl (by kernel_rfl) (fun _ _ _ h => h) (Or.inl ⟨by rfl, ?_⟩) hHeld ?_
       rotate_left 1
       ·(intro w hSw; (try dsimp only at hSw); go_simp; try with_reducible rfl)
       (try simp only [Act.put, arS, arZ, arN])
       refine tkH (i := 2) (v := ?_) 145 rfl rfl (by kernel_rfl) (fun _ _ _ h => h) (Or.inl ⟨by rfl, ?_⟩) hHeld ?_
       rotate_left 1
       ·(intro w hSw; (try dsimp only at hSw); go_simp; try with_reducible rfl)
       (try simp only [Act.put, arS, arZ, arN])
       refine tkH (i := 3) (v := ?_) 146 rfl rfl (by kernel_rfl) (fun _ _ _ h => h) (Or.inl ⟨by rfl, ?_⟩) hHeld ?_
       rotate_left 1
       ·(intro w hSw; (try dsimp only at hSw); go_simp; try with_reducible rfl)
       (try simp only [Act.put, arS, arZ, arN])
       refine tkH (i := 4) (v := ?_) 147 rfl rfl (by kernel_rfl) (fun _ _ _ h => h) (Or.inl ⟨by rfl, ?_⟩) hHeld ?_
       rotate_left 1
       ·(intro w hSw; (try dsimp only at hSw); go_simp; try with_reducible rfl)
       (try simp only [Act.put, arS, arZ, arN])
       refine tkH (i := 5) (v := ?_) 148 rfl rfl (by kernel_rfl) (fun _ _ _ h => h) (Or.inl ⟨by rfl, ?_⟩) hHeld ?_
       rotate_left 1
       ·(intro w hSw; (try dsimp only at hSw); go_simp; try with_reducible rfl)
       (try simp only [Act.put, arS, arZ, arN])
       refine tkH (i := 6) (v := ?_) 149 rfl rfl (by kernel_rfl) (fun _ _ _ h => h) (Or.inl ⟨by rfl, ?_⟩) hHeld ?_
       rotate_left 1
       ·(intro w hSw; (try dsimp only at hSw); go_simp; try with_reducible rfl)
       (try simp only [Act.put, arS, arZ, arN])
       refine tkH (i := 7) (v := ?_) 150 rfl rfl (by kernel_rfl) (fun _ _ _ h => h) (Or.inl ⟨by rfl, ?_⟩) hHeld ?_
       rotate_left 1
       ·(intro w hSw; (try dsimp only at hSw); go_simp; try with_reducible rfl)
       (try simp only [Act.put, arS, arZ, arN])
       refine tkH (i := 8) (v := ?_) 151 rfl rfl (by kernel_rfl) (fun _ _ _ h => h) (Or.inl ⟨by rfl, ?_⟩) hHeld ?_
       rotate_left 1
       ·(intro w hSw; (try dsimp only at hSw); go_simp; try with_reducible rfl)
       (try simp only [Act.put, arS, arZ, arN])
       refine tkH (i := 9) (v := ?_) 152 rfl rfl (by kernel_rfl) (fun _ _ _ h => h) (Or.inl ⟨by rfl, ?_⟩) hHeld ?_
       rotate_left 1
       ·(intro w hSw; (try dsimp only at hSw); go_simp; try with_reducible rfl)
       (try simp only [Act.put, arS, arZ, arN])
       refine wpAnyH_ready (rs := [10]) (by kernel_rfl) (by simp) ?_
       refine AllReadyH.cons rfl (fun K hK => ?_) AllReadyH.nil
       go_simp
       go_wp2_with ((go_at_call 28; refine (KV.get (grown_drew' _ _)).mono ?_; rintro e w5 ⟨rfl, hg5⟩))
       refine hK.out _ _ ?_ (fun hHeld => ?_)
       ·exact ⟨hg5.cell hHeld.1 (by simp), hg5.cell hHeld.2.1 (by simp), hg5.cell hHeld.2.2.1 (by simp), hg5.cell hHeld.2.2.2 (by simp)⟩
       clear hK K
       (try simp only [Act.put, arS, arZ, arN])
       refine tkH (i := 11) (v := ?_) 20 rfl rfl (by kernel_rfl) (fun _ _ _ h => h) (Or.inl ⟨by rfl, ?_⟩) hHeld ?_
       rotate_left 1
       ·(intro w hSw; (try dsimp only at hSw); go_simp; try with_reducible rfl)
       (try simp only [Act.put, arS, arZ, arN])
       refine wpAnyH_done (by kernel_rfl) ?_ _
       go_wp2
       go_roundw
       case rel => exact ⟨i + 1, HLI.out, by go_num, (HG9.out.trans (grown_drew' _ _)).trans hg5⟩
       case measure => exact HME.out
      ·obtain rfl : i = (A).length := by omega
       go_wp2
       go_roundw
       case rel => exact ⟨1, by decide, by go_num, HGB.out.trans hg6⟩
       case measure => simp [intOf]
    ·have hz2 : PB - 1 < TN := by omega
     obtain ⟨P, hPA, hKS⟩ := CT.out.c2 (PB - 1) (by omega) (by omega)
     rw [show max (PB - 1) 0 = PB - 1 by omega] at hKS
     have KS := Kept.mk hKS
     clear CT hKS hz hneg
     have HPL : Hid (P <+: A) := hPA
     have hpl : (P).length ≤ A.length := HPL.out.length_le
     try clear hPA
     have hpl2 : ((P).length : Int) ≤ A.length := by omega
     have hq1 : decide (A.length < (P).length) = false := decide_eq_false (by omega)
     go_wp2_with (first | (go_at_call 16; refine (KPB.get _).mono ?_; rintro e w6 ⟨rfl, hww⟩; subst w6) | (go_at_call 29; refine KS.get.mono ?_; clear KS; rintro e w8 ⟨vS, rfl, hP, hg8⟩; obtain ⟨pa, pc, hv1⟩ := hP.ll.is; subst hv1; have d0 := hg8.cell b0 (by simp); have d1 := hg8.cell b1 (by simp); have d2 := hg8.cell b2 (by simp); have dl := Nat.lt_of_lt_of_le lB hg8.size))
     have gA := World.grownBy_alloc w8 (.cells #[.slice pa (P).length pc, .int .i64 1, .int .i64 (PB - 1)] 50) none
     have hbx := heap_alloc_new w8 (.cells #[.slice pa (P).length pc, .int .i64 1, .int .i64 (PB - 1)] 50)
     replace hP := hP.grown gA
     have gB := (HG.out.trans hg8).trans gA
     generalize w8.alloc (.cells #[.slice pa (P).length pc, .int .i64 1, .int .i64 (PB - 1)] 50) = W6 at *
     generalize w8.heap.size = B2 at *
     have HP := hide hP
     have HBX2 := hide hbx
     have HGB := hide gB
     clear hP hbx gA gB d0 d1 d2 dl hg8 b0 b1 b2 lB
     go_loopw [19] (fun vi wq => ∃ i : Nat, i ≤ (P).length ∧ vi = .int .i64 i ∧ W6.grownBy wq none) (fun vi _ => (P).length - (intOf vi).toNat)
     case atStart => exact ⟨0, Nat.zero_le _, rfl, grown_refl _ _⟩
     case round =>
      obtain ⟨i, hi9, rfl, hg6⟩ := hrel
      have bb2 := (hg6.block B2 (some_lt HBX2.out) (by simp)).trans HBX2.out
      have f0 := cell_of bb2 0 _ rfl
      have lB2 := some_lt bb2
      by_cases hlt : i < (P).length
      ·obtain ⟨r, hr⟩ : ∃ r, (P)[i]? = some r := ⟨(P)[i], List.getElem?_eq_getElem hlt⟩
       have hrA : A[i]? = some r := by obtain ⟨z, hz⟩ := HPL.out; rw [← hz, List.getElem?_append_left hlt]; exact hr
       have hrm := List.mem_of_getElem? hrA
       have r1 := HROW.out r hrm
       have hne : r ≠ [] := fun e => by rw [e] at r1; simp at r1; omega
       have gC := HGB.out.trans hg6
       have bb := (gC.block B (some_lt HBX.out) (by simp)).trans HBX.out
       have e0 := cell_of bb 0 _ rfl
       have lB := some_lt bb
       obtain ⟨g1, u1, ea1, l1, c1, hV1⟩ := (HP.out.grown hg6).ll.at_ hr
       obtain ⟨g2, u2, ea2, l2, c2, hV2⟩ := (HA.out.grown gC).ll.at_ hrA
       subst ea1 ea2
       obtain ⟨gv1, cv1, ee1, _, _⟩ := hV1.cells hne
       obtain ⟨gv2, cv2, ee2, _, _⟩ := hV2.cells hne
       subst ee1 ee2
       have KV := Kept.mk (fun {W : World} (hw : wr.grownBy W none) => kp_sameRow (w := W) (hV1.grown hw) (hV2.grown hw) (by omega) (by omega))
       have hdd : decide (r = r) = true := by simp
       rw [hdd] at KV
       have hlt2 : (i : Int) < (P).length := by omega
       have hlt3 : (i : Int) < A.length := by omega
       have h0i : (0 : Int) ≤ i := by omega
       have HLI : Hid (i + 1 ≤ (P).length) := hlt
       have HME : Hid ((P).length - (i + 1) < (P).length - i) := by rw [Hid]; omega
       have HG9 := hide hg6
       clear hr hrA hrm hdd hV1 hV2 hg6 gC hlt hne r1 bb bb2
       go_wp2
       refine wp_region_held_drew (S := fun w1 => w1.cell? ⟨B2, 0, none⟩ = some (.slice (some ⟨g1, 0, none⟩) (P).length pc) ∧ w1.cell? ⟨B, 0, none⟩ = some (.slice (some ⟨g2, 0, none⟩) A.length lc) ∧ w1.cell? ⟨g1, i, none⟩ = some (.slice (some ⟨gv1, 0, none⟩) r.length cv1) ∧ w1.cell? ⟨g2, i, none⟩ = some (.slice (some ⟨gv2, 0, none⟩) r.length cv2)) (by kernel_rfl) ?_ (fun hHeld => ?_)
       ·exact ⟨f0, e0, c1, c2⟩
       refine tkH (i := 0) (v := ?_) 143 rfl rfl (by kernel_rfl) (fun _ _ _ h => h) (Or.inl ⟨by rfl, ?_⟩) hHeld ?_
       rotate_left 1
       ·(intro w hSw; (try dsimp only at hSw); go_simp; try with_reducible rfl)
       (try simp only [Act.put, arS, arZ, arN])
       refine tkH (i := 1) (v := ?_) 144 rfl rfl (by kernel_rfl) (fun _ _ _ h => h) (Or.inl ⟨by rfl, ?_⟩) hHeld ?_
       rotate_left 1
       ·(intro w hSw; (try dsimp only at hSw); go_simp; try with_reducible rfl)
       (try simp only [Act.put, arS, arZ, arN])
       refine tkH (i := 2) (v := ?_) 145 rfl rfl (by kernel_rfl) (fun _ _ _ h => h) (Or.inl ⟨by rfl, ?_⟩) hHeld ?_
       rotate_left 1
       ·(intro w hSw; (try dsimp only at hSw); go_simp; try with_reducible rfl)
       (try simp only [Act.put, arS, arZ, arN])
       refine tkH (i := 3) (v := ?_) 146 rfl rfl (by kernel_rfl) (fun _ _ _ h => h) (Or.inl ⟨by rfl, ?_⟩) hHeld ?_
       rotate_left 1
       ·(intro w hSw; (try dsimp only at hSw); go_simp; try with_reducible rfl)
       (try simp only [Act.put, arS, arZ, arN])
       refine tkH (i := 4) (v := ?_) 147 rfl rfl (by kernel_rfl) (fun _ _ _ h => h) (Or.inl ⟨by rfl, ?_⟩) hHeld ?_
       rotate_left 1
       ·(intro w hSw; (try dsimp only at hSw); go_simp; try with_reducible rfl)
       (try simp only [Act.put, arS, arZ, arN])
       refine tkH (i := 5) (v := ?_) 148 rfl rfl (by kernel_rfl) (fun _ _ _ h => h) (Or.inl ⟨by rfl, ?_⟩) hHeld ?_
       rotate_left 1
       ·(intro w hSw; (try dsimp only at hSw); go_simp; try with_reducible rfl)
       (try simp only [Act.put, arS, arZ, arN])
       refine tkH (i := 6) (v := ?_) 149 rfl rfl (by kernel_rfl) (fun _ _ _ h => h) (Or.inl ⟨by rfl, ?_⟩) hHeld ?_
       rotate_left 1
       ·(intro w hSw; (try dsimp only at hSw); go_simp; try with_reducible rfl)
       (try simp only [Act.put, arS, arZ, arN])
       refine tkH (i := 7) (v := ?_) 150 rfl rfl (by kernel_rfl) (fun _ _ _ h => h) (Or.inl ⟨by rfl, ?_⟩) hHeld ?_
       rotate_left 1
       ·(intro w hSw; (try dsimp only at hSw); go_simp; try with_reducible rfl)
       (try simp only [Act.put, arS, arZ, arN])
       refine tkH (i := 8) (v := ?_) 151 rfl rfl (by kernel_rfl) (fun _ _ _ h => h) (Or.inl ⟨by rfl, ?_⟩) hHeld ?_
       rotate_left 1
       ·(intro w hSw; (try dsimp only at hSw); go_simp; try with_reducible rfl)
       (try simp only [Act.put, arS, arZ, arN])
       refine tkH (i := 9) (v := ?_) 152 rfl rfl (by kernel_rfl) (fun _ _ _ h => h) (Or.inl ⟨by rfl, ?_⟩) hHeld ?_
       rotate_left 1
       ·(intro w hSw; (try dsimp only at hSw); go_simp; try with_reducible rfl)
       (try simp only [Act.put, arS, arZ, arN])
       refine wpAnyH_ready (rs := [10]) (by kernel_rfl) (by simp) ?_
       refine AllReadyH.cons rfl (fun K hK => ?_) AllReadyH.nil
       go_simp
       go_wp2_with ((go_at_call 28; refine (KV.get (grown_drew' _ _)).mono ?_; rintro e w5 ⟨rfl, hg5⟩))
       refine hK.out _ _ ?_ (fun hHeld => ?_)
       ·exact ⟨hg5.cell hHeld.1 (by simp), hg5.cell hHeld.2.1 (by simp), hg5.cell hHeld.2.2.1 (by simp), hg5.cell hHeld.2.2.2 (by simp)⟩
       clear hK K
       (try simp only [Act.put, arS, arZ, arN])
       refine tkH (i := 11) (v := ?_) 20 rfl rfl (by kernel_rfl) (fun _ _ _ h => h) (Or.inl ⟨by rfl, ?_⟩) hHeld ?_
       rotate_left 1
       ·(intro w hSw; (try dsimp only at hSw); go_simp; try with_reducible rfl)
       (try simp only [Act.put, arS, arZ, arN])
       refine wpAnyH_done (by kernel_rfl) ?_ _
       go_wp2
       go_roundw
       case rel => exact ⟨i + 1, HLI.out, by go_num, (HG9.out.trans (grown_drew' _ _)).trans hg5⟩
       case measure => exact HME.out
      ·obtain rfl : i = (P).length := by omega
       go_wp2
       go_roundw
       case rel => exact ⟨1, by decide, by go_num, HGB.out.trans hg6⟩
       case measure => simp [intOf]
  ·have KS := Kept.mk (CT.out.c1 TN (by omega) (by omega))
   clear CT
   have HPL : Hid (A <+: A) := List.prefix_refl _
   have hpl : (A).length ≤ A.length := HPL.out.length_le
   try clear hPA
   have hpl2 : ((A).length : Int) ≤ A.length := by omega
   have hq1 : decide (A.length < (A).length) = false := decide_eq_false (by omega)
   go_wp2_with (first | (go_at_call 16; refine (KPB.get _).mono ?_; rintro e w6 ⟨rfl, hww⟩; subst w6) | (go_at_call 29; refine KS.get.mono ?_; clear KS; rintro e w8 ⟨vS, rfl, hP, hg8⟩; obtain ⟨pa, pc, hv1⟩ := hP.ll.is; subst hv1; have d0 := hg8.cell b0 (by simp); have d1 := hg8.cell b1 (by simp); have d2 := hg8.cell b2 (by simp); have dl := Nat.lt_of_lt_of_le lB hg8.size))
   have gA := World.grownBy_alloc w8 (.cells #[.slice pa (A).length pc, .int .i64 0, .int .i64 TN] 50) none
   have hbx := heap_alloc_new w8 (.cells #[.slice pa (A).length pc, .int .i64 0, .int .i64 TN] 50)
   replace hP := hP.grown gA
   have gB := (HG.out.trans hg8).trans gA
   generalize w8.alloc (.cells #[.slice pa (A).length pc, .int .i64 0, .int .i64 TN] 50) = W6 at *
   generalize w8.heap.size = B2 at *
   have HP := hide hP
   have HBX2 := hide hbx
   have HGB := hide gB
   clear hP hbx gA gB d0 d1 d2 dl hg8 b0 b1 b2 lB
   go_loopw [19] (fun vi wq => ∃ i : Nat, i ≤ (A).length ∧ vi = .int .i64 i ∧ W6.grownBy wq none) (fun vi _ => (A).length - (intOf vi).toNat)
   case atStart => exact ⟨0, Nat.zero_le _, rfl, grown_refl _ _⟩
   case round =>
    obtain ⟨i, hi9, rfl, hg6⟩ := hrel
    have bb2 := (hg6.block B2 (some_lt HBX2.out) (by simp)).trans HBX2.out
    have f0 := cell_of bb2 0 _ rfl
    have lB2 := some_lt bb2
    by_cases hlt : i < (A).length
    ·obtain ⟨r, hr⟩ : ∃ r, (A)[i]? = some r := ⟨(A)[i], List.getElem?_eq_getElem hlt⟩
     have hrA : A[i]? = some r := by obtain ⟨z, hz⟩ := HPL.out; rw [← hz, List.getElem?_append_left hlt]; exact hr
     have hrm := List.mem_of_getElem? hrA
     have r1 := HROW.out r hrm
     have hne : r ≠ [] := fun e => by rw [e] at r1; simp at r1; omega
     have gC := HGB.out.trans hg6
     have bb := (gC.block B (some_lt HBX.out) (by simp)).trans HBX.out
     have e0 := cell_of bb 0 _ rfl
     have lB := some_lt bb
     obtain ⟨g1, u1, ea1, l1, c1, hV1⟩ := (HP.out.grown hg6).ll.at_ hr
     obtain ⟨g2, u2, ea2, l2, c2, hV2⟩ := (HA.out.grown gC).ll.at_ hrA
     subst ea1 ea2
     obtain ⟨gv1, cv1, ee1, _, _⟩ := hV1.cells hne
     obtain ⟨gv2, cv2, ee2, _, _⟩ := hV2.cells hne
     subst ee1 ee2
     have KV := Kept.mk (fun {W : World} (hw : wr.grownBy W none) => kp_sameRow (w := W) (hV1.grown hw) (hV2.grown hw) (by omega) (by omega))
     have hdd : decide (r = r) = true := by simp
     rw [hdd] at KV
     have hlt2 : (i : Int) < (A).length := by omega
     have hlt3 : (i : Int) < A.length := by omega
     have h0i : (0 : Int) ≤ i := by omega
     have HLI : Hid (i + 1 ≤ (A).length) := hlt
     have HME : Hid ((A).length - (i + 1) < (A).length - i) := by rw [Hid]; omega
     have HG9 := hide hg6
     clear hr hrA hrm hdd hV1 hV2 hg6 gC hlt hne r1 bb bb2
     go_wp2
     refine wp_region_held_drew (S := fun w1 => w1.cell? ⟨B2, 0, none⟩ = some (.slice (some ⟨g1, 0, none⟩) (A).length pc) ∧ w1.cell? ⟨B, 0, none⟩ = some (.slice (some ⟨g2, 0, none⟩) A.length lc) ∧ w1.cell? ⟨g1, i, none⟩ = some (.slice (some ⟨gv1, 0, none⟩) r.length cv1) ∧ w1.cell? ⟨g2, i, none⟩ = some (.slice (some ⟨gv2, 0, none⟩) r.length cv2)) (by kernel_rfl) ?_ (fun hHeld => ?_)
     ·exact ⟨f0, e0, c1, c2⟩
     refine tkH (i := 0) (v := ?_) 143 rfl rfl (by kernel_rfl) (fun _ _ _ h => h) (Or.inl ⟨by rfl, ?_⟩) hHeld ?_
     rotate_left 1
     ·(intro w hSw; (try dsimp only at hSw); go_simp; try with_reducible rfl)
     (try simp only [Act.put, arS, arZ, arN])
     refine tkH (i := 1) (v := ?_) 144 rfl rfl (by kernel_rfl) (fun _ _ _ h => h) (Or.inl ⟨by rfl, ?_⟩) hHeld ?_
     rotate_left 1
     ·(intro w hSw; (try dsimp only at hSw); go_simp; try with_reducible rfl)
     (try simp only [Act.put, arS, arZ, arN])
     refine tkH (i := 2) (v := ?_) 145 rfl rfl (by kernel_rfl) (fun _ _ _ h => h) (Or.inl ⟨by rfl, ?_⟩) hHeld ?_
     rotate_left 1
     ·(intro w hSw; (try dsimp only at hSw); go_simp; try with_reducible rfl)
     (try simp only [Act.put, arS, arZ, arN])
     refine tkH (i := 3) (v := ?_) 146 rfl rfl (by kernel_rfl) (fun _ _ _ h => h) (Or.inl ⟨by rfl, ?_⟩) hHeld ?_
     rotate_left 1
     ·(intro w hSw; (try dsimp only at hSw); go_simp; try with_reducible rfl)
     (try simp only [Act.put, arS, arZ, arN])
     refine tkH (i := 4) (v := ?_) 147 rfl rfl (by kernel_rfl) (fun _ _ _ h => h) (Or.inl ⟨by rfl, ?_⟩) hHeld ?_
     rotate_left 1
     ·(intro w hSw; (try dsimp only at hSw); go_simp; try with_reducible rfl)
     (try simp only [Act.put, arS, arZ, arN])
     refine tkH (i := 5) (v := ?_) 148 rfl rfl (by kernel_rfl) (fun _ _ _ h => h) (Or.inl ⟨by rfl, ?_⟩) hHeld ?_
     rotate_left 1
     ·(intro w hSw; (try dsimp only at hSw); go_simp; try with_reducible rfl)
     (try simp only [Act.put, arS, arZ, arN])
     refine tkH (i := 6) (v := ?_) 149 rfl rfl (by kernel_rfl) (fun _ _ _ h => h) (Or.inl ⟨by rfl, ?_⟩) hHeld ?_
     rotate_left 1
     ·(intro w hSw; (try dsimp only at hSw); go_simp; try with_reducible rfl)
     (try simp only [Act.put, arS, arZ, arN])
     refine tkH (i := 7) (v := ?_) 150 rfl rfl (by kernel_rfl) (fun _ _ _ h => h) (Or.inl ⟨by rfl, ?_⟩) hHeld ?_
     rotate_left 1
     ·(intro w hSw; (try dsimp only at hSw); go_simp; try with_reducible rfl)
     (try simp only [Act.put, arS, arZ, arN])
     refine tkH (i := 8) (v := ?_) 151 rfl rfl (by kernel_rfl) (fun _ _ _ h => h) (Or.inl ⟨by rfl, ?_⟩) hHeld ?_
     rotate_left 1
     ·(intro w hSw; (try dsimp only at hSw); go_simp; try with_reducible rfl)
     (try simp only [Act.put, arS, arZ, arN])
     refine tkH (i := 9) (v := ?_) 152 rfl rfl (by kernel_rfl) (fun _ _ _ h => h) (Or.inl ⟨by rfl, ?_⟩) hHeld ?_
     rotate_left 1
     ·(intro w hSw; (try dsimp only at hSw); go_simp; try with_reducible rfl)
     (try simp only [Act.put, arS, arZ, arN])
     refine wpAnyH_ready (rs := [10]) (by kernel_rfl) (by simp) ?_
     refine AllReadyH.cons rfl (fun K hK => ?_) AllReadyH.nil
     go_simp
     go_wp2_with ((go_at_call 28; refine (KV.get (grown_drew' _ _)).mono ?_; rintro e w5 ⟨rfl, hg5⟩))
     refine hK.out _ _ ?_ (fun hHeld => ?_)
     ·exact ⟨hg5.cell hHeld.1 (by simp), hg5.cell hHeld.2.1 (by simp), hg5.cell hHeld.2.2.1 (by simp), hg5.cell hHeld.2.2.2 (by simp)⟩
     clear hK K
     (try simp only [Act.put, arS, arZ, arN])
     refine tkH (i := 11) (v := ?_) 20 rfl rfl (by kernel_rfl) (fun _ _ _ h => h) (Or.inl ⟨by rfl, ?_⟩) hHeld ?_
     rotate_left 1
     ·(intro w hSw; (try dsimp only at hSw); go_simp; try with_reducible rfl)
     (try simp only [Act.put, arS, arZ, arN])
     refine wpAnyH_done (by kernel_rfl) ?_ _
     go_wp2
     go_roundw
     case rel => exact ⟨i + 1, HLI.out, by go_num, (HG9.out.trans (grown_drew' _ _)).trans hg5⟩
     case measure => exact HME.out
    ·obtain rfl : i = (A).length := by omega
     go_wp2
     go_roundw
     case rel => exact ⟨2, by decide, by go_num, HGB.out.trans hg6⟩
     case measure => simp [intOf]
  ·by_cases hz : TN ≤ 0
   ·have hneg : TN - 1 < 0 := by omega
    have KS := Kept.mk (CT.out.c1 (TN - 1) (by omega) (by omega))
    clear CT
    have HPL : Hid (A <+: A) := List.prefix_refl _
    have hpl : (A).length ≤ A.length := HPL.out.length_le
    try clear hPA
    have hpl2 : ((A).length : Int) ≤ A.length := by omega
    have hq1 : decide (A.length < (A).length) = false := decide_eq_false (by omega)
    go_wp2_with (first | (go_at_call 16; refine (KPB.get _).mono ?_; rintro e w6 ⟨rfl, hww⟩; subst w6) | (go_at_call 29; refine KS.get.mono ?_; clear KS; rintro e w8 ⟨vS, rfl, hP, hg8⟩; obtain ⟨pa, pc, hv1⟩ := hP.ll.is; subst hv1; have d0 := hg8.cell b0 (by simp); have d1 := hg8.cell b1 (by simp); have d2 := hg8.cell b2 (by simp); have dl := Nat.lt_of_lt_of_le lB hg8.size))
    have gA := World.grownBy_alloc w8 (.cells #[.slice pa (A).length pc, .int .i64 0, .int .i64 TN] 50) none
    have hbx := heap_alloc_new w8 (.cells #[.slice pa (A).length pc, .int .i64 0, .int .i64 TN] 50)
    replace hP := hP.grown gA
    have gB := (HG.out.trans hg8).trans gA
    generalize w8.alloc (.cells #[.slice pa (A).length pc, .int .i64 0, .int .i64 TN] 50) = W6 at *
    generalize w8.heap.size = B2 at *
    have HP := hide hP
    have HBX2 := hide hbx
    have HGB := hide gB
    clear hP hbx gA gB d0 d1 d2 dl hg8 b0 b1 b2 lB
    go_loopw [19] (fun vi wq => ∃ i : Nat, i ≤ (A).length ∧ vi = .int .i64 i ∧ W6.grownBy wq none) (fun vi _ => (A).length - (intOf vi).toNat)
    case atStart => exact ⟨0, Nat.zero_le _, rfl, grown_refl _ _⟩
    case round =>
     obtain ⟨i, hi9, rfl, hg6⟩ := hrel
     have bb2 := (hg6.block B2 (some_lt HBX2.out) (by simp)).trans HBX2.out
     have f0 := cell_of bb2 0 _ rfl
     have lB2 := some_lt bb2
     by_cases hlt : i < (A).length
     ·obtain ⟨r, hr⟩ : ∃ r, (A)[i]? = some r := ⟨(A)[i], List.getElem?_eq_getElem hlt⟩
      have hrA : A[i]? = some r := by obtain ⟨z, hz⟩ := HPL.out; rw [← hz, List.getElem?_append_left hlt]; exact hr
      have hrm := List.mem_of_getElem? hrA
      have r1 := HROW.out r hrm
      have hne : r ≠ [] := fun e => by rw [e] at r1; simp at r1; omega
      have gC := HGB.out.trans hg6
      have bb := (gC.block B (some_lt HBX.out) (by simp)).trans HBX.out
      have e0 := cell_of bb 0 _ rfl
      have lB := some_lt bb
      obtain ⟨g1, u1, ea1, l1, c1, hV1⟩ := (HP.out.grown hg6).ll.at_ hr
      obtain ⟨g2, u2, ea2, l2, c2, hV2⟩ := (HA.out.grown gC).ll.at_ hrA
      subst ea1 ea2
      obtain ⟨gv1, cv1, ee1, _, _⟩ := hV1.cells hne
      obtain ⟨gv2, cv2, ee2, _, _⟩ := hV2.cells hne
      subst ee1 ee2
      have KV := Kept.mk (fun {W : World} (hw : wr.grownBy W none) => kp_sameRow (w := W) (hV1.grown hw) (hV2.grown hw) (by omega) (by omega))
      have hdd : decide (r = r) = true := by simp
      rw [hdd] at KV
      have hlt2 : (i : Int) < (A).length := by omega
      have hlt3 : (i : Int) < A.length := by omega
      have h0i : (0 : Int) ≤ i := by omega
      have HLI : Hid (i + 1 ≤ (A).length) := hlt
      have HME : Hid ((A).length - (i + 1) < (A).length - i) := by rw [Hid]; omega
      have HG9 := hide hg6
      clear hr hrA hrm hdd hV1 hV2 hg6 gC hlt hne r1 bb bb2
      go_wp2
      refine wp_region_held_drew (S := fun w1 => w1.cell? ⟨B2, 0, none⟩ = some (.slice (some ⟨g1, 0, none⟩) (A).length pc) ∧ w1.cell? ⟨B, 0, none⟩ = some (.slice (some ⟨g2, 0, none⟩) A.length lc) ∧ w1.cell? ⟨g1, i, none⟩ = some (.slice (some ⟨gv1, 0, none⟩) r.length cv1) ∧ w1.cell? ⟨g2, i, none⟩ = some (.slice (some ⟨gv2, 0, none⟩) r.length cv2)) (by kernel_rfl) ?_ (fun hHeld => ?_)
      ·exact ⟨f0, e0, c1, c2⟩
      refine tkH (i := 0) (v := ?_) 143 rfl rfl (by kernel_rfl) (fun _ _ _ h => h) (Or.inl ⟨by rfl, ?_⟩) hHeld ?_
      rotate_left 1
      ·(intro w hSw; (try dsimp only at hSw); go_simp; try with_reducible rfl)
      (try simp only [Act.put, arS, arZ, arN])
      refine tkH (i := 1) (v := ?_) 144 rfl rfl (by kernel_rfl) (fun _ _ _ h => h) (Or.inl ⟨by rfl, ?_⟩) hHeld ?_
      rotate_left 1
      ·(intro w hSw; (try dsimp only at hSw); go_simp; try with_reducible rfl)
      (try simp only [Act.put, arS, arZ, arN])
      refine tkH (i := 2) (v := ?_) 145 rfl rfl (by kernel_rfl) (fun _ _ _ h => h) (Or.inl ⟨by rfl, ?_⟩) hHeld ?_
      rotate_left 1
      ·(intro w hSw; (try dsimp only at hSw); go_simp; try with_reducible rfl)
      (try simp only [Act.put, arS, arZ, arN])
      refine tkH (i := 3) (v := ?_) 146 rfl rfl (by kernel_rfl) (fun _ _ _ h => h) (Or.inl ⟨by rfl, ?_⟩) hHeld ?_
      rotate_left 1
      ·(intro w hSw; (try dsimp only at hSw); go_simp; try with_reducible rfl)
      (try simp only [Act.put, arS, arZ, arN])
      refine tkH (i := 4) (v := ?_) 147 rfl rfl (by kernel_rfl) (fun _ _ _ h => h) (Or.inl ⟨by rfl, ?_⟩) hHeld ?_
      rotate_left 1
      ·(intro w hSw; (try dsimp only at hSw); go_simp; try with_reducible rfl)
      (try simp only [Act.put, arS, arZ, arN])
      refine tkH (i := 5) (v := ?_) 148 rfl rfl (by kernel_rfl) (fun _ _ _ h => h) (Or.inl ⟨by rfl, ?_⟩) hHeld ?_
      rotate_left 1
      ·(intro w hSw; (try dsimp only at hSw); go_simp; try with_reducible rfl)
      (try simp only [Act.put, arS, arZ, arN])
      refine tkH (i := 6) (v := ?_) 149 rfl rfl (by kernel_rfl) (fun _ _ _ h => h) (Or.inl ⟨by rfl, ?_⟩) hHeld ?_
      rotate_left 1
      ·(intro w hSw; (try dsimp only at hSw); go_simp; try with_reducible rfl)
      (try simp only [Act.put, arS, arZ, arN])
      refine tkH (i := 7) (v := ?_) 150 rfl rfl (by kernel_rfl) (fun _ _ _ h => h) (Or.inl ⟨by rfl, ?_⟩) hHeld ?_
      rotate_left 1
      ·(intro w hSw; (try dsimp only at hSw); go_simp; try with_reducible rfl)
      (try simp only [Act.put, arS, arZ, arN])
      refine tkH (i := 8) (v := ?_) 151 rfl rfl (by kernel_rfl) (fun _ _ _ h => h) (Or.inl ⟨by rfl, ?_⟩) hHeld ?_
      rotate_left 1
      ·(intro w hSw; (try dsimp only at hSw); go_simp; try with_reducible rfl)
      (try simp only [Act.put, arS, arZ, arN])
      refine tkH (i := 9) (v := ?_) 152 rfl rfl (by kernel_rfl) (fun _ _ _ h => h) (Or.inl ⟨by rfl, ?_⟩) hHeld ?_
      rotate_left 1
      ·(intro w hSw; (try dsimp only at hSw); go_simp; try with_reducible rfl)
      (try simp only [Act.put, arS, arZ, arN])
      refine wpAnyH_ready (rs := [10]) (by kernel_rfl) (by simp) ?_
      refine AllReadyH.cons rfl (fun K hK => ?_) AllReadyH.nil
      go_simp
      go_wp2_with ((go_at_call 28; refine (KV.get (grown_drew' _ _)).mono ?_; rintro e w5 ⟨rfl, hg5⟩))
      refine hK.out _ _ ?_ (fun hHeld => ?_)
      ·exact ⟨hg5.cell hHeld.1 (by simp), hg5.cell hHeld.2.1 (by simp), hg5.cell hHeld.2.2.1 (by simp), hg5.cell hHeld.2.2.2 (by simp)⟩
      clear hK K
      (try simp only [Act.put, arS, arZ, arN])
      refine tkH (i := 11) (v := ?_) 20 rfl rfl (by kernel_rfl) (fun _ _ _ h => h) (Or.inl ⟨by rfl, ?_⟩) hHeld ?_
      rotate_left 1
      ·(intro w hSw; (try dsimp only at hSw); go_simp; try with_reducible rfl)
      (try simp only [Act.put, arS, arZ, arN])
      refine wpAnyH_done (by kernel_rfl) ?_ _
      go_wp2
      go_roundw
      case rel => exact ⟨i + 1, HLI.out, by go_num, (HG9.out.trans (grown_drew' _ _)).trans hg5⟩
      case measure => exact HME.out
     ·obtain rfl : i = (A).length := by omega
      go_wp2
      go_roundw
      case rel => exact ⟨3, by decide, by go_num, HGB.out.trans hg6⟩
      case measure => simp [intOf]
   ·have hnn : 0 ≤ TN - 1 := by omega
    have hz2 : TN - 1 < TN := by omega
    obtain ⟨P, hPA, hKS⟩ := CT.out.c2 (TN - 1) (by omega) (by omega)
    rw [show max (TN - 1) 0 = TN - 1 by omega] at hKS
    have KS := Kept.mk hKS
    clear CT hKS hz
    have HPL : Hid (P <+: A) := hPA
    have hpl : (P).length ≤ A.length := HPL.out.length_le
    try clear hPA
    have hpl2 : ((P).length : Int) ≤ A.length := by omega
    have hq1 : decide (A.length < (P).length) = false := decide_eq_false (by omega)
    go_wp2_with (first | (go_at_call 16; refine (KPB.get _).mono ?_; rintro e w6 ⟨rfl, hww⟩; subst w6) | (go_at_call 29; refine KS.get.mono ?_; clear KS; rintro e w8 ⟨vS, rfl, hP, hg8⟩; obtain ⟨pa, pc, hv1⟩ := hP.ll.is; subst hv1; have d0 := hg8.cell b0 (by simp); have d1 := hg8.cell b1 (by simp); have d2 := hg8.cell b2 (by simp); have dl := Nat.lt_of_lt_of_le lB hg8.size))
    have gA := World.grownBy_alloc w8 (.cells #[.slice pa (P).length pc, .int .i64 1, .int .i64 (TN - 1)] 50) none
    have hbx := heap_alloc_new w8 (.cells #[.slice pa (P).length pc, .int .i64 1, .int .i64 (TN - 1)] 50)
    replace hP := hP.grown gA
    have gB := (HG.out.trans hg8).trans gA
    generalize w8.alloc (.cells #[.slice pa (P).length pc, .int .i64 1, .int .i64 (TN - 1)] 50) = W6 at *
    generalize w8.heap.size = B2 at *
    have HP := hide hP
    have HBX2 := hide hbx
    have HGB := hide gB
    clear hP hbx gA gB d0 d1 d2 dl hg8 b0 b1 b2 lB
    go_loopw [19] (fun vi wq => ∃ i : Nat, i ≤ (P).length ∧ vi = .int .i64 i ∧ W6.grownBy wq none) (fun vi _ => (P).length - (intOf vi).toNat)
    case atStart => exact ⟨0, Nat.zero_le _, rfl, grown_refl _ _⟩
    case round =>
     obtain ⟨i, hi9, rfl, hg6⟩ := hrel
     have bb2 := (hg6.block B2 (some_lt HBX2.out) (by simp)).trans HBX2.out
     have f0 := cell_of bb2 0 _ rfl
     have lB2 := some_lt bb2
     by_cases hlt : i < (P).length
     ·obtain ⟨r, hr⟩ : ∃ r, (P)[i]? = some r := ⟨(P)[i], List.getElem?_eq_getElem hlt⟩
      have hrA : A[i]? = some r := by obtain ⟨z, hz⟩ := HPL.out; rw [← hz, List.getElem?_append_left hlt]; exact hr
      have hrm := List.mem_of_getElem? hrA
      have r1 := HROW.out r hrm
      have hne : r ≠ [] := fun e => by rw [e] at r1; simp at r1; omega
      have gC := HGB.out.trans hg6
      have bb := (gC.block B (some_lt HBX.out) (by simp)).trans HBX.out
      have e0 := cell_of bb 0 _ rfl
      have lB := some_lt bb
      obtain ⟨g1, u1, ea1, l1, c1, hV1⟩ := (HP.out.grown hg6).ll.at_ hr
      obtain ⟨g2, u2, ea2, l2, c2, hV2⟩ := (HA.out.grown gC).ll.at_ hrA
      subst ea1 ea2
      obtain ⟨gv1, cv1, ee1, _, _⟩ := hV1.cells hne
      obtain ⟨gv2, cv2, ee2, _, _⟩ := hV2.cells hne
      subst ee1 ee2
      have KV := Kept.mk (fun {W : World} (hw : wr.grownBy W none) => kp_sameRow (w := W) (hV1.grown hw) (hV2.grown hw) (by omega) (by omega))
      have hdd : decide (r = r) = true := by simp
      rw [hdd] at KV
      have hlt2 : (i : Int) < (P).length := by omega
      have hlt3 : (i : Int) < A.length := by omega
      have h0i : (0 : Int) ≤ i := by omega
      have HLI : Hid (i + 1 ≤ (P).length) := hlt
      have HME : Hid ((P).length - (i + 1) < (P).length - i) := by rw [Hid]; omega
      have HG9 := hide hg6
      clear hr hrA hrm hdd hV1 hV2 hg6 gC hlt hne r1 bb bb2
      go_wp2
      refine wp_region_held_drew (S := fun w1 => w1.cell? ⟨B2, 0, none⟩ = some (.slice (some ⟨g1, 0, none⟩) (P).length pc) ∧ w1.cell? ⟨B, 0, none⟩ = some (.slice (some ⟨g2, 0, none⟩) A.length lc) ∧ w1.cell? ⟨g1, i, none⟩ = some (.slice (some ⟨gv1, 0, none⟩) r.length cv1) ∧ w1.cell? ⟨g2, i, none⟩ = some (.slice (some ⟨gv2, 0, none⟩) r.length cv2)) (by kernel_rfl) ?_ (fun hHeld => ?_)
      ·exact ⟨f0, e0, c1, c2⟩
      refine tkH (i := 0) (v := ?_) 143 rfl rfl (by kernel_rfl) (fun _ _ _ h => h) (Or.inl ⟨by rfl, ?_⟩) hHeld ?_
      rotate_left 1
      ·(intro w hSw; (try dsimp only at hSw); go_simp; try with_reducible rfl)
      (try simp only [Act.put, arS, arZ, arN])
      refine tkH (i := 1) (v := ?_) 144 rfl rfl (by kernel_rfl) (fun _ _ _ h => h) (Or.inl ⟨by rfl, ?_⟩) hHeld ?_
      rotate_left 1
      ·(intro w hSw; (try dsimp only at hSw); go_simp; try with_reducible rfl)
      (try simp only [Act.put, arS, arZ, arN])
      refine tkH (i := 2) (v := ?_) 145 rfl rfl (by kernel_rfl) (fun _ _ _ h => h) (Or.inl ⟨by rfl, ?_⟩) hHeld ?_
      rotate_left 1
      ·(intro w hSw; (try dsimp only at hSw); go_simp; try with_reducible rfl)
      (try simp only [Act.put, arS, arZ, arN])
      refine tkH (i := 3) (v := ?_) 146 rfl rfl (by kernel_rfl) (fun _ _ _ h => h) (Or.inl ⟨by rfl, ?_⟩) hHeld ?_
      rotate_left 1
      ·(intro w hSw; (try dsimp only at hSw); go_simp; try with_reducible rfl)
      (try simp only [Act.put, arS, arZ, arN])
      refine tkH (i := 4) (v := ?_) 147 rfl rfl (by kernel_rfl) (fun _ _ _ h => h) (Or.inl ⟨by rfl, ?_⟩) hHeld ?_
      rotate_left 1
      ·(intro w hSw; (try dsimp only at hSw); go_simp; try with_reducible rfl)
      (try simp only [Act.put, arS, arZ, arN])
      refine tkH (i := 5) (v := ?_) 148 rfl rfl (by kernel_rfl) (fun _ _ _ h => h) (Or.inl ⟨by rfl, ?_⟩) hHeld ?_
      rotate_left 1
      ·(intro w hSw; (try dsimp only at hSw); go_simp; try with_reducible rfl)
      (try simp only [Act.put, arS, arZ, arN])
      refine tkH (i := 6) (v := ?_) 149 rfl rfl (by kernel_rfl) (fun _ _ _ h => h) (Or.inl ⟨by rfl, ?_⟩) hHeld ?_
      rotate_left 1
      ·(intro w hSw; (try dsimp only at hSw); go_simp; try with_reducible rfl)
      (try simp only [Act.put, arS, arZ, arN])
      refine tkH (i := 7) (v := ?_) 150 rfl rfl (by kernel_rfl) (fun _ _ _ h => h) (Or.inl ⟨by rfl, ?_⟩) hHeld ?_
      rotate_left 1
      ·(intro w hSw; (try dsimp only at hSw); go_simp; try with_reducible rfl)
      (try simp only [Act.put, arS, arZ, arN])
      refine tkH (i := 8) (v := ?_) 151 rfl rfl (by kernel_rfl) (fun _ _ _ h => h) (Or.inl ⟨by rfl, ?_⟩) hHeld ?_
      rotate_left 1
      ·(intro w hSw; (try dsimp only at hSw); go_simp; try with_reducible rfl)
      (try simp only [Act.put, arS, arZ, arN])
      refine tkH (i := 9) (v := ?_) 152 rfl rfl (by kernel_rfl) (fun _ _ _ h => h) (Or.inl ⟨by rfl, ?_⟩) hHeld ?_
      rotate_left 1
      ·(intro w hSw; (try dsimp only at hSw); go_simp; try with_reducible rfl)
      (try simp only [Act.put, arS, arZ, arN])
      refine wpAnyH_ready (rs := [10]) (by kernel_rfl) (by simp) ?_
      refine AllReadyH.cons rfl (fun K hK => ?_) AllReadyH.nil
      go_simp
      go_wp2_with ((go_at_call 28; refine (KV.get (grown_drew' _ _)).mono ?_; rintro e w5 ⟨rfl, hg5⟩))
      refine hK.out _ _ ?_ (fun hHeld => ?_)
      ·exact ⟨hg5.cell hHeld.1 (by simp), hg5.cell hHeld.2.1 (by simp), hg5.cell hHeld.2.2.1 (by simp), hg5.cell hHeld.2.2.2 (by simp)⟩
      clear hK K
      (try simp only [Act.put, arS, arZ, arN])
      refine tkH (i := 11) (v := ?_) 20 rfl rfl (by kernel_rfl) (fun _ _ _ h => h) (Or.inl ⟨by rfl, ?_⟩) hHeld ?_
      rotate_left 1
      ·(intro w hSw; (try dsimp only at hSw); go_simp; try with_reducible rfl)
      (try simp only [Act.put, arS, arZ, arN])
      refine wpAnyH_done (by kernel_rfl) ?_ _
      go_wp2
      go_roundw
      case rel => exact ⟨i + 1, HLI.out, by go_num, (HG9.out.trans (grown_drew' _ _)).trans hg5⟩
      case measure => exact HME.out
     ·obtain rfl : i = (P).length := by omega
      go_wp2
      go_roundw
      case rel => exact ⟨3, by decide, by go_num, HGB.out.trans hg6⟩
      case measure => simp [intOf]
  ·clear CT b0 b1 b2 lB
   go_wp2
   go_ret
   exact ⟨rfl, HGR.out.trans HG.out⟩
theorem kp_Stopped (N budget order : Int) (weak : Bool) {vr : Value} {raw : List Int} (hV : RawIn w vr raw) (hN1 : -9223372036854775808 ≤ N) (hN2 : N ≤ 9223372036854775807) (hb1 : -9223372036854775808 ≤ budget) (hb2 : budget ≤ 9223372036854775807) (ho1 : -9223372036854775808 ≤ order) (ho2 : order ≤ 9223372036854775807) (hrw : ∀ x ∈ raw, -9223372036854775808 ≤ x ∧ x ≤ 9223372036854775807) (ht : PowTab w) (hdb : DbTab w) : Calls Tryz.prog 13 #[.int .i64 N, vr, .int .i64 budget, .int .i64 order, .bool weak] w fun e w' => e = .returned (.bool true) ∧ w.grownBy w' none := by
 have b4 := pickI_bd N 4 (by decide)
 obtain ⟨n, hn⟩ : ∃ n : Nat, 1 + pickI N 4 = (n : Int) := ⟨(1 + pickI N 4).toNat, by omega⟩
 have hn1 : 1 ≤ n := by omega
 have hn4 : n ≤ 4 := by omega
 obtain ⟨hLo, hLl⟩ := ptL_ok hn1 hn4 raw
 have bo := pickI_bd order 2 (by decide)
 obtain ⟨PO, hPO⟩ : ∃ PO, pickI order 2 = PO := ⟨_, rfl⟩
 rw [hPO] at bo
 have ePO : pickI PO 2 = PO := by
  have : PO = 0 ∨ PO = 1 := by omega
  rcases this with rfl | rfl <;> decide
 have hM := mk_md hn4 hLo (by omega)
 have tb : ∀ {W : World}, w.grownBy W none → PowTab W := fun {W} hg => tab_kept ht (fun k hk => hg.block k hk (by simp))
 obtain ⟨R, _, hend⟩ := pt_rows hn1 hn4 hLo (by omega) PO weak
 have hcut := fun (b : Int) (hb : b ≤ 1000000) => solve_cut (K := mkK (pV n) (mkC n (ptL n raw)) PO weak 1000000) (b := b) hb (by show (0 : Int) ≤ 1000000; decide) hend
 have ebud : ∀ b : Int, mkK (pV n) (mkC n (ptL n raw)) PO weak b = (mkK (pV n) (mkC n (ptL n raw)) PO weak 1000000).bud b := fun b => rfl
 have hbd := (solve_ok (mkK_ok (order := PO) (weak := weak) (budget := 1000000) hM.vars hM.vlen hM.cons hM.clen)).bd
 have hpr : prodV (mkK (pV n) (mkC n (ptL n raw)) PO weak 1000000).vars = (boxV (bdV (pV n))).length := prod_box hM.vars
 have hvl : (mkK (pV n) (mkC n (ptL n raw)) PO weak 1000000).vars.length = n := pV_len n
 rw [hpr, hvl] at hbd
 have bx := (p_box hn1 hn4).2
 have hmul : n * (boxV (bdV (pV n))).length ≤ 4 * 625 := Nat.mul_le_mul hn4 bx
 have hmulI : ((n : Int) * ((boxV (bdV (pV n))).length : Int)) ≤ 2500 := by have q := Int.ofNat_le.2 hmul; rw [Int.natCast_mul] at q; exact q
 refine st_walk N budget order weak hV hN1 hN2 hb1 hb2 ho1 ho2 hrw n hn PO hPO (solveS (mkK (pV n) (mkC n (ptL n raw)) PO weak 1000000)).nodes (solveS (mkK (pV n) (mkC n (ptL n raw)) PO weak 1000000)).sols ⟨fun W hW => ?_, (hcut 0 (by decide)).1, by omega, fun r hr => (R.row hr).1, R.len hn1 hn4⟩
 refine (pt_model hn4 hLo (by omega) W (tb hW)).mono ?_
 rintro e w' ⟨b, t, rfl, hb, hm, hg⟩
 refine ⟨b, rfl, hg, fun W2 hg2 => ?_⟩
 have hgg := (hW.trans hg).trans hg2
 have F := pt_found hn1 hn4 hLo (by omega) (hm.grown hg2) (tb hgg) (db_grown hdb hgg) PO weak (by omega) (by omega)
 rw [ePO] at F
 have S := fun (x : Int) (hx : x ≤ 9223372036854775807) => md_Solve (hm.grown hg2) hM (db_grown hdb hgg) PO weak x hx
 have S0 := S 1000000 (by decide)
 rw [hend] at S0
 refine ⟨F, S0, fun x hx hle => ?_, fun x hx hlt => ?_⟩
 ·have Sx := S x (by omega)
  rw [ebud x, (hcut x hx).2.1 hle, hend] at Sx
  exact Sx
 ·have Sx := S x (by omega)
  obtain ⟨k1, k2, k3⟩ := (hcut x hx).2.2 hlt
  rw [ebud x, k1, k2] at Sx
  exact ⟨_, k3, Sx⟩
end
end Go.Proofs.YthpcbbnabnlanaaGreatDoor
