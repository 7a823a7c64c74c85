import Derived.Test.YthpcbbnabnlanaaGreatDoorM29
namespace Go.Proofs.YthpcbbnabnlanaaGreatDoor
open Go.RowKit
set_option linter.unusedVariables false
set_option linter.unusedSimpArgs false
section
set_option maxHeartbeats 8000000
set_option maxRecDepth 100000
variable {w w' wr : World}
theorem md_Suits {b : Nat} {V : List QVar} {C : List QCon} {t : List UInt8} (h : MdAt w b V C t) (hM : MdOk V C) {vv : Value} {vals : List Int} (hV : ValsIn w vv vals) : Calls Tryz.prog 27 #[.pointer (some ⟨b, 0, none⟩), vv] w fun e w' => e = .returned (.bool (suitsP V C vals)) ∧ w.grownBy w' none := by
 obtain ⟨bc, B, vV, vC, cs, h1, h2, h3⟩ := h.set
 have q := pn_Suits h1 h2 hV hM.vars hM.vlen (fun x hx => hM.cons _ (by rw [← h3]; exact List.mem_map.2 ⟨x, hx, rfl⟩)) (by have := hM.clen; rw [← h3, List.length_map] at this; exact this)
 rw [h3] at q
 exact q
structure Ways (W2 : World) (q : Nat) (a c d : List (List Int)) : Prop where
 f1 : Calls Tryz.prog 22 #[.pointer (some ⟨q, 0, none⟩), .int .i64 0, .bool false] W2 fun e w3 => ∃ vS, e = .returned (.tuple #[vS, .bool true]) ∧ LLT w3 vS a ∧ W2.grownBy w3 none
 f2 : Calls Tryz.prog 22 #[.pointer (some ⟨q, 0, none⟩), .int .i64 0, .bool true] W2 fun e w3 => ∃ vS, e = .returned (.tuple #[vS, .bool true]) ∧ LLT w3 vS a ∧ W2.grownBy w3 none
 f3 : Calls Tryz.prog 22 #[.pointer (some ⟨q, 0, none⟩), .int .i64 1, .bool false] W2 fun e w3 => ∃ vS, e = .returned (.tuple #[vS, .bool true]) ∧ LLT w3 vS c ∧ W2.grownBy w3 none
 f4 : Calls Tryz.prog 22 #[.pointer (some ⟨q, 0, none⟩), .int .i64 1, .bool true] W2 fun e w3 => ∃ vS, e = .returned (.tuple #[vS, .bool true]) ∧ LLT w3 vS d ∧ W2.grownBy w3 none
 su : ∀ {vv : Value} {r : List Int}, ValsIn W2 vv r → r ∈ a → Calls Tryz.prog 27 #[.pointer (some ⟨q, 0, none⟩), vv] W2 fun e w3 => e = .returned (.bool true) ∧ W2.grownBy w3 none
structure AkF (w : World) (n : Nat) (Ls : List (List UInt8)) (k : Nat) (a c d f : List (List Int)) : Prop where
 m0 : ∀ W, w.grownBy W none → Calls Tryz.prog 21 #[.string (bn (mkB n Ls))] W fun e w' => ∃ q, e = .returned (.pointer (some ⟨q, 0, none⟩)) ∧ W.grownBy w' none ∧ ∀ W2, w'.grownBy W2 none → Ways W2 q a c d
 m1 : MF w (mkB n (Ls.drop k ++ Ls.take k)) 1 false f
 pc : c.Perm a
 pd : d.Perm a
 pf : f.Perm a
 row : ∀ r ∈ a, r.length = n
 len : a.length ≤ 625
theorem src_part {g m cap : Nat} {L : List (List UInt8)} (h : SRow w (.slice (some ⟨g, 0, none⟩) m cap) L) {k j c : Nat} {M : List (List UInt8)} (hM : ∀ (i : Nat) t, M[i]? = some t → L[k + i]? = some t) (hj : M.length = j) : Src w (.slice (some ⟨g, k, none⟩) j c) j (strV M) := by
 refine .inr ⟨_, _, rfl, fun i u hu => ?_⟩
 unfold strV at hu
 rw [List.getElem?_map] at hu
 cases q : M[i]? with
 | none => rw [q] at hu; cases hu
 | some t =>
  rw [q] at hu
  cases hu
  obtain ⟨g', e, h1, h2, h3⟩ := h.at_ (hM i t q)
  injection e with e
  injection e with e
  subst e
  have : (⟨g, k, none⟩ : Addr).add i = ⟨g, k + i, none⟩ := by unfold Addr.add; split <;> simp_all
  rw [this]
  exact h2
theorem ak_three {v : Value} {L : List (List UInt8)} {k : Nat} {turn : Int} (h : SRow w v L) (hk : L.length = 0 ∧ k = 0 ∨ 0 < L.length ∧ pickI turn L.length = (k : Int)) : (L = [] ∧ k = 0 ∧ v = .slice none 0 0) ∨ (∃ g cap, v = .slice (some ⟨g, 0, none⟩) L.length cap ∧ L.length = 0 ∧ k = 0) ∨ ∃ g cap, v = .slice (some ⟨g, 0, none⟩) L.length cap ∧ 0 < L.length ∧ pickI turn L.length = (k : Int) ∧ k < L.length ∧ L.length ≤ cap := by
 rcases h with ⟨rfl, e⟩ | ⟨g, cap, e, h1, h2, h3⟩
 ·rcases hk with ⟨_, q⟩ | ⟨q, _⟩
  ·exact .inl ⟨rfl, q, e⟩
  ·simp at q
 ·rcases hk with ⟨q1, q2⟩ | ⟨q1, q2⟩
  ·exact .inr (.inl ⟨g, cap, e, q1, q2⟩)
  ·have := pickI_bd turn L.length (by omega)
   exact .inr (.inr ⟨g, cap, e, q1, q2, by omega, h3⟩)
attribute [local go_sem] bn_ap bn_mk_ap mk_bn_ap bn_size mk_size ap_len List.length_cons List.length_nil
theorem ak_walk (N turn : Int) {vr : Value} {raw : List Int} (hV : RawIn w vr raw) (hN1 : -9223372036854775808 ≤ N) (hN2 : N ≤ 9223372036854775807) (ht1 : -9223372036854775808 ≤ turn) (ht2 : turn ≤ 9223372036854775807) (hrw : ∀ x ∈ raw, -9223372036854775808 ≤ x ∧ x ≤ 9223372036854775807) (n : Nat) (hn : 1 + pickI N 4 = (n : Int)) (k : Nat) (hk : ((ptL n raw).map stB).length = 0 ∧ k = 0 ∨ 0 < ((ptL n raw).map stB).length ∧ pickI turn ((ptL n raw).map stB).length = (k : Int)) (a c d f : List (List Int)) (hF : AkF w n ((ptL n raw).map stB) k a c d f) : Calls Tryz.prog 11 #[.int .i64 N, vr, .int .i64 turn] w fun e w' => e = .returned (.bool true) ∧ w.grownBy w' none := by
 have KPT := Kept.mk (kp_part (w := w) N hV hN1 hN2 hrw n hn)
 have b4 := pickI_bd N 4 (by decide)
 have hn1 : 1 ≤ n := by omega
 have hn4 : n ≤ 4 := by omega
 obtain ⟨ra, rc, rfl⟩ := hV.is
 obtain ⟨hLo, hLl⟩ := ptL_ok hn1 hn4 raw
 have hLb : ∀ t ∈ (ptL n raw).map stB, t.length ≤ 70 := fun t ht => by obtain ⟨q, hq, rfl⟩ := List.mem_map.1 ht; exact (hLo q hq).len
 have hLm : ((ptL n raw).map stB).length ≤ 8 := by rw [List.length_map]; exact hLl
 clear hLo hLl
 have KM0 := Kept.mk (fun {W : World} (hg : w.grownBy W none) => hF.m0 W hg)
 have KM1 := Kept.mk (fun {W : World} (hg : w.grownBy W none) => hF.m1 W hg)
 generalize (ptL n raw).map stB = Ls at *
 have KT0 := Kept.mk (fun {W : World} {v : Value} (hS : SRow W v Ls) => kp_text n hS hn4 (by omega) hLb)
 have KT1 := Kept.mk (fun {W : World} {v : Value} (hS : SRow W v (Ls.drop k ++ Ls.take k)) => kp_text n hS hn4 (by simp; omega) (fun t ht => by rcases List.mem_append.1 ht with q | q; exact hLb t (List.mem_of_mem_drop q); exact hLb t (List.mem_of_mem_take q)))
 have HROW := hide hF.row
 have HPC := hide hF.pc
 have HPD := hide hF.pd
 have HPF := hide hF.pf
 have hal := hF.len
 obtain ⟨i0, hi0⟩ : ∃ i, Tryz.prog.info? 9 = some i := ⟨_, rfl⟩
 have hz := infoStr
 rw [hi0] at hz
 simp only [Option.map_some, Option.some.injEq, Prod.mk.injEq] at hz
 obtain ⟨hz0, hz1, hz2⟩ := hz
 have HK := hide hk
 clear hF hV hrw hLb hn b4 hk
 go_enter Tryz.func11, Tryz.ntmps11
 have hgr : w.grownBy w none := grown_refl _ _
 have KP := Kept.mk (fun (h : 0 < Ls.length) W => kp_pick turn Ls.length W ht1 ht2 (by omega) (by omega))
 have KPD : Hid (Ls.length ≤ 8) := hLm
 go_wp2_with (first | (go_at_call 24; refine KPT.get.mono ?_; rintro e w1 ⟨v, rfl, hS, hg1⟩; replace hgr := hgr.trans hg1; rcases ak_three hS HK.out with ⟨z1, z2, hv⟩ | ⟨g, cap, hv, z1, z2⟩ | ⟨g, cap, hv, z1, z2, z3, z4⟩))
 ·clear HK hg1 KP KPT
  subst z1 z2
  subst hv
  have hSo : SRow w1 (.slice none 0 0) (([] : List (List UInt8)).drop 0 ++ ([] : List (List UInt8)).take 0) := .inl ⟨rfl, rfl⟩
  go_wp2_with (first | (go_at_call 25; refine (KT0.get hS).mono ?_; rintro e w4 ⟨rfl, hg1⟩; (try replace hgr := hgr.trans hg1); (try replace hka := hka.trans hg1); (try replace hS := hS.grown hg1); (try replace hSo := hSo.grown hg1); clear hg1 KT0 hS) | (go_at_call 21; refine (KM0.get hgr).mono ?_; rintro e wa ⟨q1, rfl, hg1, hwy⟩; (try replace hgr := hgr.trans hg1); (try replace hka := hka.trans hg1); (try replace hS := hS.grown hg1); (try replace hSo := hSo.grown hg1); have F1 := Kept.mk (fun {W2 : World} h => (hwy W2 h).f1); have F2 := Kept.mk (fun {W2 : World} h => (hwy W2 h).f2); have F3 := Kept.mk (fun {W2 : World} h => (hwy W2 h).f3); have F4 := Kept.mk (fun {W2 : World} h => (hwy W2 h).f4); have WY := hide hwy; have hka := grown_refl wa none; clear hg1 hwy KM0) | (go_at_call 25; refine (KT1.get hSo).mono ?_; rintro e w5 ⟨rfl, hg1⟩; (try replace hgr := hgr.trans hg1); (try replace hka := hka.trans hg1); (try replace hS := hS.grown hg1); (try replace hSo := hSo.grown hg1); clear hg1 KT1 hSo) | (go_at_call 21; refine (KM1.get hgr).mono ?_; rintro e wb ⟨q2, rfl, hg1, hfo1⟩; (try replace hgr := hgr.trans hg1); (try replace hka := hka.trans hg1); (try replace hS := hS.grown hg1); (try replace hSo := hSo.grown hg1); have KF5 := Kept.mk (fun {W2 : World} h => hfo1 W2 h); have hkb := grown_refl wb none; clear hg1 hfo1 KM1) | (go_at_call 22; refine (F1.get hka).mono ?_; clear F1; rintro e w6 ⟨vS, rfl, hA, hg1⟩; (replace hgr := hgr.trans hg1); (replace hka := hka.trans hg1); (replace hkb := hkb.trans hg1); clear hg1; obtain ⟨la, lc, hv1⟩ := hA.ll.is; subst hv1) | (go_at_call 22; refine (F2.get hka).mono ?_; clear F2; rintro e w6 ⟨vS, rfl, hB, hg1⟩; (replace hgr := hgr.trans hg1); (replace hka := hka.trans hg1); (replace hkb := hkb.trans hg1); replace hA := hA.grown hg1; clear hg1; obtain ⟨ba, bc, hv1⟩ := hB.ll.is; subst hv1) | (go_at_call 22; refine (F3.get hka).mono ?_; clear F3; rintro e w6 ⟨vS, rfl, hC, hg1⟩; (replace hgr := hgr.trans hg1); (replace hka := hka.trans hg1); (replace hkb := hkb.trans hg1); replace hA := hA.grown hg1; replace hB := hB.grown hg1; clear hg1; obtain ⟨ca, cc, hv1⟩ := hC.ll.is; subst hv1) | (go_at_call 22; refine (F4.get hka).mono ?_; clear F4; rintro e w6 ⟨vS, rfl, hD, hg1⟩; (replace hgr := hgr.trans hg1); (replace hka := hka.trans hg1); (replace hkb := hkb.trans hg1); replace hA := hA.grown hg1; replace hB := hB.grown hg1; replace hC := hC.grown hg1; clear hg1; obtain ⟨da, dc, hv1⟩ := hD.ll.is; subst hv1) | (go_at_call 22; refine (KF5.get hkb).mono ?_; rintro e w6 ⟨vS, rfl, hE, hg1⟩; replace hgr := hgr.trans hg1; replace hka := hka.trans hg1; replace hA := hA.grown hg1; replace hB := hB.grown hg1; replace hC := hC.grown hg1; replace hD := hD.grown hg1; clear hg1 KF5 hkb; obtain ⟨ea, ec, hv1⟩ := hE.ll.is; subst hv1))
  have K1 := Kept.mk (fun {W : World} (hg : w6.grownBy W none) => kp_alike (hA.grown hg).ll (hB.grown hg).ll rfl (fun x hx => hx) (by omega) (fun x hx => by have := HROW.out x hx; omega) (fun x hx => by have := HROW.out x hx; omega))
  have K2 := Kept.mk (fun {W : World} (hg : w6.grownBy W none) => kp_alike (hA.grown hg).ll (hC.grown hg).ll HPC.out.length_eq.symm (fun x hx => HPC.out.mem_iff.2 hx) (by omega) (fun x hx => by have := HROW.out x hx; omega) (fun x hx => by have := HROW.out x (HPC.out.mem_iff.1 hx); omega))
  have K3 := Kept.mk (fun {W : World} (hg : w6.grownBy W none) => kp_alike (hA.grown hg).ll (hD.grown hg).ll HPD.out.length_eq.symm (fun x hx => HPD.out.mem_iff.2 hx) (by omega) (fun x hx => by have := HROW.out x hx; omega) (fun x hx => by have := HROW.out x (HPD.out.mem_iff.1 hx); omega))
  have K4 := Kept.mk (fun {W : World} (hg : w6.grownBy W none) => kp_alike (hA.grown hg).ll (hE.grown hg).ll HPF.out.length_eq.symm (fun x hx => HPF.out.mem_iff.2 hx) (by omega) (fun x hx => by have := HROW.out x hx; omega) (fun x hx => by have := HROW.out x (HPF.out.mem_iff.1 hx); omega))
  have HA := hide hA
  have HB := hide hB
  have HKA := hide hka
  have HGR := hide hgr
  have hq := grown_refl w6 none
  clear hA hB hC hD hE hka hgr
  go_wp2_with (first | (go_at_call 26; refine (K1.get hq).mono ?_; clear K1; rintro e w7 ⟨rfl, hg1⟩; replace hq := hq.trans hg1; clear hg1) | (go_at_call 26; refine (K2.get hq).mono ?_; clear K2; rintro e w7 ⟨rfl, hg1⟩; replace hq := hq.trans hg1; clear hg1) | (go_at_call 26; refine (K3.get hq).mono ?_; clear K3; rintro e w7 ⟨rfl, hg1⟩; replace hq := hq.trans hg1; clear hg1) | (go_at_call 26; refine (K4.get hq).mono ?_; clear K4; rintro e w9 ⟨rfl, hg1⟩; replace hq := hq.trans hg1; clear hg1))
  have HQ := hide hq
  clear hq
  go_loopw [26] (fun vi wr => ∃ i : Nat, i ≤ a.length ∧ vi = .int .i64 i ∧ w9.grownBy wr none) (fun vi _ => a.length - (intOf vi).toNat)
  case atStart => exact ⟨0, Nat.zero_le _, rfl, grown_refl _ _⟩
  case round =>
   obtain ⟨i, hi9, rfl, hg⟩ := hrel
   by_cases hlt : i < a.length
   ·obtain ⟨r, hr⟩ : ∃ r, a[i]? = some r := ⟨a[i], List.getElem?_eq_getElem hlt⟩
    have hrm := List.mem_of_getElem? hr
    have r1 := HROW.out r hrm
    have hne : r ≠ [] := fun e => by rw [e] at r1; simp at r1; omega
    have g0 := HQ.out.trans hg
    obtain ⟨g1, u1, ea1, l1, c1, hV1⟩ := (HA.out.grown g0).ll.at_ hr
    obtain ⟨g2, u2, ea2, l2, c2, hV2⟩ := (HB.out.grown g0).ll.at_ hr
    subst ea1 ea2
    obtain ⟨gv1, cv1, e1, _, _⟩ := hV1.cells hne
    obtain ⟨gv2, cv2, e2, _, _⟩ := hV2.cells hne
    subst e1 e2
    have KU := Kept.mk ((WY.out wr (HKA.out.trans g0)).su hV1 hrm)
    have KV := Kept.mk (fun {W : World} (hw : wr.grownBy W none) => kp_sameRow (w := W) (hV1.grown hw) (hV2.grown hw) (by omega) (by omega))
    have hdd : decide (r = r) = true := by simp
    rw [hdd] at KV
    have hlt2 : (i : Int) < a.length := by omega
    have h0i : (0 : Int) ≤ i := by omega
    have HLI : Hid (i + 1 ≤ a.length) := hlt
    have HME : Hid (a.length - (i + 1) < a.length - i) := by rw [Hid]; omega
    have HG9 := hide hg
    clear hr hrm hdd hV1 hV2 hg g0 hlt hne r1
    go_wp2_with (go_at_call 27; refine KU.get.mono ?_; clear KU; rintro e wu ⟨rfl, hgu⟩; have c1' := hgu.cell c1 (by simp); have c2' := hgu.cell c2 (by simp); have l1' := Nat.lt_of_lt_of_le l1 hgu.size; have l2' := Nat.lt_of_lt_of_le l2 hgu.size)
    refine wp_region_held_drew (S := fun w1 => w1.cell? ⟨g1, i, none⟩ = some (.slice (some ⟨gv1, 0, none⟩) r.length cv1) ∧ w1.cell? ⟨g2, i, none⟩ = some (.slice (some ⟨gv2, 0, none⟩) r.length cv2)) (by kernel_rfl) ?_ (fun hHeld => ?_)
    ·exact ⟨c1', c2'⟩
    refine tkH (i := 0) (v := ?_) 149 rfl rfl (by kernel_rfl) (fun _ _ _ h => h) (Or.inl ⟨by rfl, ?_⟩) hHeld ?_
    rotate_left 1
    ·(intro w hSw; (try dsimp only at hSw); go_simp; try with_reducible rfl)
    (try simp only [Act.put, arS, arZ, arN])
    refine tkH (i := 1) (v := ?_) 150 rfl rfl (by kernel_rfl) (fun _ _ _ h => h) (Or.inl ⟨by rfl, ?_⟩) hHeld ?_
    rotate_left 1
    ·(intro w hSw; (try dsimp only at hSw); go_simp; try with_reducible rfl)
    (try simp only [Act.put, arS, arZ, arN])
    refine tkH (i := 2) (v := ?_) 151 rfl rfl (by kernel_rfl) (fun _ _ _ h => h) (Or.inl ⟨by rfl, ?_⟩) hHeld ?_
    rotate_left 1
    ·(intro w hSw; (try dsimp only at hSw); go_simp; try with_reducible rfl)
    (try simp only [Act.put, arS, arZ, arN])
    refine tkH (i := 3) (v := ?_) 152 rfl rfl (by kernel_rfl) (fun _ _ _ h => h) (Or.inl ⟨by rfl, ?_⟩) hHeld ?_
    rotate_left 1
    ·(intro w hSw; (try dsimp only at hSw); go_simp; try with_reducible rfl)
    (try simp only [Act.put, arS, arZ, arN])
    refine tkH (i := 4) (v := ?_) 153 rfl rfl (by kernel_rfl) (fun _ _ _ h => h) (Or.inl ⟨by rfl, ?_⟩) hHeld ?_
    rotate_left 1
    ·(intro w hSw; (try dsimp only at hSw); go_simp; try with_reducible rfl)
    (try simp only [Act.put, arS, arZ, arN])
    refine tkH (i := 5) (v := ?_) 154 rfl rfl (by kernel_rfl) (fun _ _ _ h => h) (Or.inl ⟨by rfl, ?_⟩) hHeld ?_
    rotate_left 1
    ·(intro w hSw; (try dsimp only at hSw); go_simp; try with_reducible rfl)
    (try simp only [Act.put, arS, arZ, arN])
    refine tkH (i := 6) (v := ?_) 155 rfl rfl (by kernel_rfl) (fun _ _ _ h => h) (Or.inl ⟨by rfl, ?_⟩) hHeld ?_
    rotate_left 1
    ·(intro w hSw; (try dsimp only at hSw); go_simp; try with_reducible rfl)
    (try simp only [Act.put, arS, arZ, arN])
    refine tkH (i := 7) (v := ?_) 156 rfl rfl (by kernel_rfl) (fun _ _ _ h => h) (Or.inl ⟨by rfl, ?_⟩) hHeld ?_
    rotate_left 1
    ·(intro w hSw; (try dsimp only at hSw); go_simp; try with_reducible rfl)
    (try simp only [Act.put, arS, arZ, arN])
    refine wpAnyH_ready (rs := [8]) (by kernel_rfl) (by simp) ?_
    refine AllReadyH.cons rfl (fun K hK => ?_) AllReadyH.nil
    go_simp
    go_wp2_with ((go_at_call 28; refine (KV.get (hgu.trans (grown_drew' _ _))).mono ?_; rintro e w5 ⟨rfl, hg5⟩))
    refine hK.out _ _ ?_ (fun hHeld => ?_)
    ·exact ⟨hg5.cell hHeld.1 (by simp), hg5.cell hHeld.2 (by simp)⟩
    clear hK K
    (try simp only [Act.put, arS, arZ, arN])
    refine tkH (i := 9) (v := ?_) 28 rfl rfl (by kernel_rfl) (fun _ _ _ h => h) (Or.inl ⟨by rfl, ?_⟩) hHeld ?_
    rotate_left 1
    ·(intro w hSw; (try dsimp only at hSw); go_simp; try with_reducible rfl)
    (try simp only [Act.put, arS, arZ, arN])
    refine wpAnyH_done (by kernel_rfl) ?_ _
    go_wp2
    go_roundw
    case rel => exact ⟨i + 1, HLI.out, by go_num, ((HG9.out.trans hgu).trans (grown_drew' _ _)).trans hg5⟩
    case measure => exact HME.out
   ·obtain rfl : i = a.length := by omega
    go_wp2
    go_ret
    exact ⟨rfl, (HGR.out.trans HQ.out).trans hg⟩
 ·clear HK hg1 KP KPT
  obtain rfl : Ls = [] := List.length_eq_zero_iff.1 z1
  subst z2
  subst hv
  have hSo : SRow w1 (.slice none 0 0) (([] : List (List UInt8)).drop 0 ++ ([] : List (List UInt8)).take 0) := .inl ⟨rfl, rfl⟩
  go_wp2_with (first | (go_at_call 25; refine (KT0.get hS).mono ?_; rintro e w4 ⟨rfl, hg1⟩; (try replace hgr := hgr.trans hg1); (try replace hka := hka.trans hg1); (try replace hS := hS.grown hg1); (try replace hSo := hSo.grown hg1); clear hg1 KT0 hS) | (go_at_call 21; refine (KM0.get hgr).mono ?_; rintro e wa ⟨q1, rfl, hg1, hwy⟩; (try replace hgr := hgr.trans hg1); (try replace hka := hka.trans hg1); (try replace hS := hS.grown hg1); (try replace hSo := hSo.grown hg1); have F1 := Kept.mk (fun {W2 : World} h => (hwy W2 h).f1); have F2 := Kept.mk (fun {W2 : World} h => (hwy W2 h).f2); have F3 := Kept.mk (fun {W2 : World} h => (hwy W2 h).f3); have F4 := Kept.mk (fun {W2 : World} h => (hwy W2 h).f4); have WY := hide hwy; have hka := grown_refl wa none; clear hg1 hwy KM0) | (go_at_call 25; refine (KT1.get hSo).mono ?_; rintro e w5 ⟨rfl, hg1⟩; (try replace hgr := hgr.trans hg1); (try replace hka := hka.trans hg1); (try replace hS := hS.grown hg1); (try replace hSo := hSo.grown hg1); clear hg1 KT1 hSo) | (go_at_call 21; refine (KM1.get hgr).mono ?_; rintro e wb ⟨q2, rfl, hg1, hfo1⟩; (try replace hgr := hgr.trans hg1); (try replace hka := hka.trans hg1); (try replace hS := hS.grown hg1); (try replace hSo := hSo.grown hg1); have KF5 := Kept.mk (fun {W2 : World} h => hfo1 W2 h); have hkb := grown_refl wb none; clear hg1 hfo1 KM1) | (go_at_call 22; refine (F1.get hka).mono ?_; clear F1; rintro e w6 ⟨vS, rfl, hA, hg1⟩; (replace hgr := hgr.trans hg1); (replace hka := hka.trans hg1); (replace hkb := hkb.trans hg1); clear hg1; obtain ⟨la, lc, hv1⟩ := hA.ll.is; subst hv1) | (go_at_call 22; refine (F2.get hka).mono ?_; clear F2; rintro e w6 ⟨vS, rfl, hB, hg1⟩; (replace hgr := hgr.trans hg1); (replace hka := hka.trans hg1); (replace hkb := hkb.trans hg1); replace hA := hA.grown hg1; clear hg1; obtain ⟨ba, bc, hv1⟩ := hB.ll.is; subst hv1) | (go_at_call 22; refine (F3.get hka).mono ?_; clear F3; rintro e w6 ⟨vS, rfl, hC, hg1⟩; (replace hgr := hgr.trans hg1); (replace hka := hka.trans hg1); (replace hkb := hkb.trans hg1); replace hA := hA.grown hg1; replace hB := hB.grown hg1; clear hg1; obtain ⟨ca, cc, hv1⟩ := hC.ll.is; subst hv1) | (go_at_call 22; refine (F4.get hka).mono ?_; clear F4; rintro e w6 ⟨vS, rfl, hD, hg1⟩; (replace hgr := hgr.trans hg1); (replace hka := hka.trans hg1); (replace hkb := hkb.trans hg1); replace hA := hA.grown hg1; replace hB := hB.grown hg1; replace hC := hC.grown hg1; clear hg1; obtain ⟨da, dc, hv1⟩ := hD.ll.is; subst hv1) | (go_at_call 22; refine (KF5.get hkb).mono ?_; rintro e w6 ⟨vS, rfl, hE, hg1⟩; replace hgr := hgr.trans hg1; replace hka := hka.trans hg1; replace hA := hA.grown hg1; replace hB := hB.grown hg1; replace hC := hC.grown hg1; replace hD := hD.grown hg1; clear hg1 KF5 hkb; obtain ⟨ea, ec, hv1⟩ := hE.ll.is; subst hv1))
  have K1 := Kept.mk (fun {W : World} (hg : w6.grownBy W none) => kp_alike (hA.grown hg).ll (hB.grown hg).ll rfl (fun x hx => hx) (by omega) (fun x hx => by have := HROW.out x hx; omega) (fun x hx => by have := HROW.out x hx; omega))
  have K2 := Kept.mk (fun {W : World} (hg : w6.grownBy W none) => kp_alike (hA.grown hg).ll (hC.grown hg).ll HPC.out.length_eq.symm (fun x hx => HPC.out.mem_iff.2 hx) (by omega) (fun x hx => by have := HROW.out x hx; omega) (fun x hx => by have := HROW.out x (HPC.out.mem_iff.1 hx); omega))
  have K3 := Kept.mk (fun {W : World} (hg : w6.grownBy W none) => kp_alike (hA.grown hg).ll (hD.grown hg).ll HPD.out.length_eq.symm (fun x hx => HPD.out.mem_iff.2 hx) (by omega) (fun x hx => by have := HROW.out x hx; omega) (fun x hx => by have := HROW.out x (HPD.out.mem_iff.1 hx); omega))
  have K4 := Kept.mk (fun {W : World} (hg : w6.grownBy W none) => kp_alike (hA.grown hg).ll (hE.grown hg).ll HPF.out.length_eq.symm (fun x hx => HPF.out.mem_iff.2 hx) (by omega) (fun x hx => by have := HROW.out x hx; omega) (fun x hx => by have := HROW.out x (HPF.out.mem_iff.1 hx); omega))
  have HA := hide hA
  have HB := hide hB
  have HKA := hide hka
  have HGR := hide hgr
  have hq := grown_refl w6 none
  clear hA hB hC hD hE hka hgr
  go_wp2_with (first | (go_at_call 26; refine (K1.get hq).mono ?_; clear K1; rintro e w7 ⟨rfl, hg1⟩; replace hq := hq.trans hg1; clear hg1) | (go_at_call 26; refine (K2.get hq).mono ?_; clear K2; rintro e w7 ⟨rfl, hg1⟩; replace hq := hq.trans hg1; clear hg1) | (go_at_call 26; refine (K3.get hq).mono ?_; clear K3; rintro e w7 ⟨rfl, hg1⟩; replace hq := hq.trans hg1; clear hg1) | (go_at_call 26; refine (K4.get hq).mono ?_; clear K4; rintro e w9 ⟨rfl, hg1⟩; replace hq := hq.trans hg1; clear hg1))
  have HQ := hide hq
  clear hq
  go_loopw [26] (fun vi wr => ∃ i : Nat, i ≤ a.length ∧ vi = .int .i64 i ∧ w9.grownBy wr none) (fun vi _ => a.length - (intOf vi).toNat)
  case atStart => exact ⟨0, Nat.zero_le _, rfl, grown_refl _ _⟩
  case round =>
   obtain ⟨i, hi9, rfl, hg⟩ := hrel
   by_cases hlt : i < a.length
   ·obtain ⟨r, hr⟩ : ∃ r, a[i]? = some r := ⟨a[i], List.getElem?_eq_getElem hlt⟩
    have hrm := List.mem_of_getElem? hr
    have r1 := HROW.out r hrm
    have hne : r ≠ [] := fun e => by rw [e] at r1; simp at r1; omega
    have g0 := HQ.out.trans hg
    obtain ⟨g1, u1, ea1, l1, c1, hV1⟩ := (HA.out.grown g0).ll.at_ hr
    obtain ⟨g2, u2, ea2, l2, c2, hV2⟩ := (HB.out.grown g0).ll.at_ hr
    subst ea1 ea2
    obtain ⟨gv1, cv1, e1, _, _⟩ := hV1.cells hne
    obtain ⟨gv2, cv2, e2, _, _⟩ := hV2.cells hne
    subst e1 e2
    have KU := Kept.mk ((WY.out wr (HKA.out.trans g0)).su hV1 hrm)
    have KV := Kept.mk (fun {W : World} (hw : wr.grownBy W none) => kp_sameRow (w := W) (hV1.grown hw) (hV2.grown hw) (by omega) (by omega))
    have hdd : decide (r = r) = true := by simp
    rw [hdd] at KV
    have hlt2 : (i : Int) < a.length := by omega
    have h0i : (0 : Int) ≤ i := by omega
    have HLI : Hid (i + 1 ≤ a.length) := hlt
    have HME : Hid (a.length - (i + 1) < a.length - i) := by rw [Hid]; omega
    have HG9 := hide hg
    clear hr hrm hdd hV1 hV2 hg g0 hlt hne r1
    go_wp2_with (go_at_call 27; refine KU.get.mono ?_; clear KU; rintro e wu ⟨rfl, hgu⟩; have c1' := hgu.cell c1 (by simp); have c2' := hgu.cell c2 (by simp); have l1' := Nat.lt_of_lt_of_le l1 hgu.size; have l2' := Nat.lt_of_lt_of_le l2 hgu.size)
    refine wp_region_held_drew (S := fun w1 => w1.cell? ⟨g1, i, none⟩ = some (.slice (some ⟨gv1, 0, none⟩) r.length cv1) ∧ w1.cell? ⟨g2, i, none⟩ = some (.slice (some ⟨gv2, 0, none⟩) r.length cv2)) (by kernel_rfl) ?_ (fun hHeld => ?_)
    ·exact ⟨c1', c2'⟩
    refine tkH (i := 0) (v := ?_) 149 rfl rfl (by kernel_rfl) (fun _ _ _ h => h) (Or.inl ⟨by rfl, ?_⟩) hHeld ?_
    rotate_left 1
    ·(intro w hSw; (try dsimp only at hSw); go_simp; try with_reducible rfl)
    (try simp only [Act.put, arS, arZ, arN])
    refine tkH (i := 1) (v := ?_) 150 rfl rfl (by kernel_rfl) (fun _ _ _ h => h) (Or.inl ⟨by rfl, ?_⟩) hHeld ?_
    rotate_left 1
    ·(intro w hSw; (try dsimp only at hSw); go_simp; try with_reducible rfl)
    (try simp only [Act.put, arS, arZ, arN])
    refine tkH (i := 2) (v := ?_) 151 rfl rfl (by kernel_rfl) (fun _ _ _ h => h) (Or.inl ⟨by rfl, ?_⟩) hHeld ?_
    rotate_left 1
    ·(intro w hSw; (try dsimp only at hSw); go_simp; try with_reducible rfl)
    (try simp only [Act.put, arS, arZ, arN])
    refine tkH (i := 3) (v := ?_) 152 rfl rfl (by kernel_rfl) (fun _ _ _ h => h) (Or.inl ⟨by rfl, ?_⟩) hHeld ?_
    rotate_left 1
    ·(intro w hSw; (try dsimp only at hSw); go_simp; try with_reducible rfl)
    (try simp only [Act.put, arS, arZ, arN])
    refine tkH (i := 4) (v := ?_) 153 rfl rfl (by kernel_rfl) (fun _ _ _ h => h) (Or.inl ⟨by rfl, ?_⟩) hHeld ?_
    rotate_left 1
    ·(intro w hSw; (try dsimp only at hSw); go_simp; try with_reducible rfl)
    (try simp only [Act.put, arS, arZ, arN])
    refine tkH (i := 5) (v := ?_) 154 rfl rfl (by kernel_rfl) (fun _ _ _ h => h) (Or.inl ⟨by rfl, ?_⟩) hHeld ?_
    rotate_left 1
    ·(intro w hSw; (try dsimp only at hSw); go_simp; try with_reducible rfl)
    (try simp only [Act.put, arS, arZ, arN])
    refine tkH (i := 6) (v := ?_) 155 rfl rfl (by kernel_rfl) (fun _ _ _ h => h) (Or.inl ⟨by rfl, ?_⟩) hHeld ?_
    rotate_left 1
    ·(intro w hSw; (try dsimp only at hSw); go_simp; try with_reducible rfl)
    (try simp only [Act.put, arS, arZ, arN])
    refine tkH (i := 7) (v := ?_) 156 rfl rfl (by kernel_rfl) (fun _ _ _ h => h) (Or.inl ⟨by rfl, ?_⟩) hHeld ?_
    rotate_left 1
    ·(intro w hSw; (try dsimp only at hSw); go_simp; try with_reducible rfl)
    (try simp only [Act.put, arS, arZ, arN])
    refine wpAnyH_ready (rs := [8]) (by kernel_rfl) (by simp) ?_
    refine AllReadyH.cons rfl (fun K hK => ?_) AllReadyH.nil
    go_simp
    go_wp2_with ((go_at_call 28; refine (KV.get (hgu.trans (grown_drew' _ _))).mono ?_; rintro e w5 ⟨rfl, hg5⟩))
    refine hK.out _ _ ?_ (fun hHeld => ?_)
    ·exact ⟨hg5.cell hHeld.1 (by simp), hg5.cell hHeld.2 (by simp)⟩
    clear hK K
    (try simp only [Act.put, arS, arZ, arN])
    refine tkH (i := 9) (v := ?_) 28 rfl rfl (by kernel_rfl) (fun _ _ _ h => h) (Or.inl ⟨by rfl, ?_⟩) hHeld ?_
    rotate_left 1
    ·(intro w hSw; (try dsimp only at hSw); go_simp; try with_reducible rfl)
    (try simp only [Act.put, arS, arZ, arN])
    refine wpAnyH_done (by kernel_rfl) ?_ _
    go_wp2
    go_roundw
    case rel => exact ⟨i + 1, HLI.out, by go_num, ((HG9.out.trans hgu).trans (grown_drew' _ _)).trans hg5⟩
    case measure => exact HME.out
   ·obtain rfl : i = a.length := by omega
    go_wp2
    go_ret
    exact ⟨rfl, (HGR.out.trans HQ.out).trans hg⟩
 ·subst hv
  rw [z2] at KP
  have hkl : (k : Int) < Ls.length := by omega
  have hk0 : (0 : Int) ≤ k := by omega
  have HKL : Hid (k < Ls.length ∧ Ls.length ≤ cap) := ⟨z3, z4⟩
  have hzc : (Ls.length : Int) ≤ cap := by omega
  clear HK hg1 KPT z2 z3 z4
  go_wp2_with (first | (go_at_call 16; refine (KP.get z1 _).mono ?_; clear KP; rintro e w6 ⟨rfl, hww⟩; subst w6) | (at_builtin; refine wpList_append_src rfl _ _ 37 rfl w1.heap.size 9 i0 (.string .empty) 1 16 Tryz.underlying37 hi0 hz0 hz1 hz2 rfl (by decide) (.slice none 0 0) 0 [] rfl ⟨rfl, .inl ⟨rfl, rfl⟩⟩ (.slice (some ⟨g, k, none⟩) (Ls.length - k) (cap - k)) (Ls.length - k) (strV (Ls.drop k)) rfl (src_part hS (fun i t ht => by rw [List.getElem?_drop] at ht; exact ht) (by simp)) (by simp [strV]) (strV_one _) (by unfold maxLen; omega) (by omega) (Nat.le_refl _) ?_; intro v1 w7 ho hg7; rw [Nat.zero_add] at ho; obtain ⟨oa, oc, hv1⟩ := own_slice_n ho; subst hv1; have HO := hide ho; have HG7 : Hid (w1.grownBy w7 none) := hg7; clear ho hg7) | (at_builtin; go_loud (refine wpList_append_src rfl _ _ 37 rfl w1.heap.size 9 i0 (.string .empty) 1 16 Tryz.underlying37 hi0 hz0 hz1 hz2 rfl (by decide) (.slice oa (Ls.length - k) oc) (Ls.length - k) _ rfl HO.out (.slice (some ⟨g, 0, none⟩) k cap) k (strV (Ls.take k)) rfl (src_part (hS.grown HG7.out) (fun i t ht => by rw [List.getElem?_take] at ht; rw [Nat.zero_add]; split at ht; exact ht; cases ht) (by rw [List.length_take]; have := HKL.out.1; omega)) (by rw [strV, List.length_map, List.length_take, Nat.mul_one]; have := HKL.out.1; omega) (strV_one _) (by unfold maxLen; omega) (by omega) HG7.out.size ?_; intro v1 w8 ho2 hg8; rw [show Ls.length - k + k = Ls.length by have := HKL.out.1; omega] at ho2; obtain ⟨pa, pc, hv1⟩ := own_slice_n ho2; subst hv1; have HO2 := hide ho2; have HG8 : Hid (w7.grownBy w8 (Value.slice oa (Ls.length - k) oc).ownBlock) := hg8; clear ho2 hg8)))
  have gA : w1.grownBy w8 none := own_gr HG7.out HO.out HG8.out
  have hSo : SRow w8 (.slice pa Ls.length pc) (Ls.drop k ++ Ls.take k) := own_srow (n := Ls.length) (by have q := HO2.out; rw [List.nil_append] at q; unfold strV at q ⊢; rw [List.map_append]; exact q)
  replace hgr := hgr.trans gA
  replace hS := hS.grown gA
  clear gA HO HO2 HG7 HG8
  go_wp2_with (first | (go_at_call 25; refine (KT0.get hS).mono ?_; rintro e w4 ⟨rfl, hg1⟩; (try replace hgr := hgr.trans hg1); (try replace hka := hka.trans hg1); (try replace hS := hS.grown hg1); (try replace hSo := hSo.grown hg1); clear hg1 KT0 hS) | (go_at_call 21; refine (KM0.get hgr).mono ?_; rintro e wa ⟨q1, rfl, hg1, hwy⟩; (try replace hgr := hgr.trans hg1); (try replace hka := hka.trans hg1); (try replace hS := hS.grown hg1); (try replace hSo := hSo.grown hg1); have F1 := Kept.mk (fun {W2 : World} h => (hwy W2 h).f1); have F2 := Kept.mk (fun {W2 : World} h => (hwy W2 h).f2); have F3 := Kept.mk (fun {W2 : World} h => (hwy W2 h).f3); have F4 := Kept.mk (fun {W2 : World} h => (hwy W2 h).f4); have WY := hide hwy; have hka := grown_refl wa none; clear hg1 hwy KM0) | (go_at_call 25; refine (KT1.get hSo).mono ?_; rintro e w5 ⟨rfl, hg1⟩; (try replace hgr := hgr.trans hg1); (try replace hka := hka.trans hg1); (try replace hS := hS.grown hg1); (try replace hSo := hSo.grown hg1); clear hg1 KT1 hSo) | (go_at_call 21; refine (KM1.get hgr).mono ?_; rintro e wb ⟨q2, rfl, hg1, hfo1⟩; (try replace hgr := hgr.trans hg1); (try replace hka := hka.trans hg1); (try replace hS := hS.grown hg1); (try replace hSo := hSo.grown hg1); have KF5 := Kept.mk (fun {W2 : World} h => hfo1 W2 h); have hkb := grown_refl wb none; clear hg1 hfo1 KM1) | (go_at_call 22; refine (F1.get hka).mono ?_; clear F1; rintro e w6 ⟨vS, rfl, hA, hg1⟩; (replace hgr := hgr.trans hg1); (replace hka := hka.trans hg1); (replace hkb := hkb.trans hg1); clear hg1; obtain ⟨la, lc, hv1⟩ := hA.ll.is; subst hv1) | (go_at_call 22; refine (F2.get hka).mono ?_; clear F2; rintro e w6 ⟨vS, rfl, hB, hg1⟩; (replace hgr := hgr.trans hg1); (replace hka := hka.trans hg1); (replace hkb := hkb.trans hg1); replace hA := hA.grown hg1; clear hg1; obtain ⟨ba, bc, hv1⟩ := hB.ll.is; subst hv1) | (go_at_call 22; refine (F3.get hka).mono ?_; clear F3; rintro e w6 ⟨vS, rfl, hC, hg1⟩; (replace hgr := hgr.trans hg1); (replace hka := hka.trans hg1); (replace hkb := hkb.trans hg1); replace hA := hA.grown hg1; replace hB := hB.grown hg1; clear hg1; obtain ⟨ca, cc, hv1⟩ := hC.ll.is; subst hv1) | (go_at_call 22; refine (F4.get hka).mono ?_; clear F4; rintro e w6 ⟨vS, rfl, hD, hg1⟩; (replace hgr := hgr.trans hg1); (replace hka := hka.trans hg1); (replace hkb := hkb.trans hg1); replace hA := hA.grown hg1; replace hB := hB.grown hg1; replace hC := hC.grown hg1; clear hg1; obtain ⟨da, dc, hv1⟩ := hD.ll.is; subst hv1) | (go_at_call 22; refine (KF5.get hkb).mono ?_; rintro e w6 ⟨vS, rfl, hE, hg1⟩; replace hgr := hgr.trans hg1; replace hka := hka.trans hg1; replace hA := hA.grown hg1; replace hB := hB.grown hg1; replace hC := hC.grown hg1; replace hD := hD.grown hg1; clear hg1 KF5 hkb; obtain ⟨ea, ec, hv1⟩ := hE.ll.is; subst hv1))
  have K1 := Kept.mk (fun {W : World} (hg : w6.grownBy W none) => kp_alike (hA.grown hg).ll (hB.grown hg).ll rfl (fun x hx => hx) (by omega) (fun x hx => by have := HROW.out x hx; omega) (fun x hx => by have := HROW.out x hx; omega))
  have K2 := Kept.mk (fun {W : World} (hg : w6.grownBy W none) => kp_alike (hA.grown hg).ll (hC.grown hg).ll HPC.out.length_eq.symm (fun x hx => HPC.out.mem_iff.2 hx) (by omega) (fun x hx => by have := HROW.out x hx; omega) (fun x hx => by have := HROW.out x (HPC.out.mem_iff.1 hx); omega))
  have K3 := Kept.mk (fun {W : World} (hg : w6.grownBy W none) => kp_alike (hA.grown hg).ll (hD.grown hg).ll HPD.out.length_eq.symm (fun x hx => HPD.out.mem_iff.2 hx) (by omega) (fun x hx => by have := HROW.out x hx; omega) (fun x hx => by have := HROW.out x (HPD.out.mem_iff.1 hx); omega))
  have K4 := Kept.mk (fun {W : World} (hg : w6.grownBy W none) => kp_alike (hA.grown hg).ll (hE.grown hg).ll HPF.out.length_eq.symm (fun x hx => HPF.out.mem_iff.2 hx) (by omega) (fun x hx => by have := HROW.out x hx; omega) (fun x hx => by have := HROW.out x (HPF.out.mem_iff.1 hx); omega))
  have HA := hide hA
  have HB := hide hB
  have HKA := hide hka
  have HGR := hide hgr
  have hq := grown_refl w6 none
  clear hA hB hC hD hE hka hgr
  go_wp2_with (first | (go_at_call 26; refine (K1.get hq).mono ?_; clear K1; rintro e w7 ⟨rfl, hg1⟩; replace hq := hq.trans hg1; clear hg1) | (go_at_call 26; refine (K2.get hq).mono ?_; clear K2; rintro e w7 ⟨rfl, hg1⟩; replace hq := hq.trans hg1; clear hg1) | (go_at_call 26; refine (K3.get hq).mono ?_; clear K3; rintro e w7 ⟨rfl, hg1⟩; replace hq := hq.trans hg1; clear hg1) | (go_at_call 26; refine (K4.get hq).mono ?_; clear K4; rintro e w9 ⟨rfl, hg1⟩; replace hq := hq.trans hg1; clear hg1))
  have HQ := hide hq
  clear hq
  go_loopw [26] (fun vi wr => ∃ i : Nat, i ≤ a.length ∧ vi = .int .i64 i ∧ w9.grownBy wr none) (fun vi _ => a.length - (intOf vi).toNat)
  case atStart => exact ⟨0, Nat.zero_le _, rfl, grown_refl _ _⟩
  case round =>
   obtain ⟨i, hi9, rfl, hg⟩ := hrel
   by_cases hlt : i < a.length
   ·obtain ⟨r, hr⟩ : ∃ r, a[i]? = some r := ⟨a[i], List.getElem?_eq_getElem hlt⟩
    have hrm := List.mem_of_getElem? hr
    have r1 := HROW.out r hrm
    have hne : r ≠ [] := fun e => by rw [e] at r1; simp at r1; omega
    have g0 := HQ.out.trans hg
    obtain ⟨g1, u1, ea1, l1, c1, hV1⟩ := (HA.out.grown g0).ll.at_ hr
    obtain ⟨g2, u2, ea2, l2, c2, hV2⟩ := (HB.out.grown g0).ll.at_ hr
    subst ea1 ea2
    obtain ⟨gv1, cv1, e1, _, _⟩ := hV1.cells hne
    obtain ⟨gv2, cv2, e2, _, _⟩ := hV2.cells hne
    subst e1 e2
    have KU := Kept.mk ((WY.out wr (HKA.out.trans g0)).su hV1 hrm)
    have KV := Kept.mk (fun {W : World} (hw : wr.grownBy W none) => kp_sameRow (w := W) (hV1.grown hw) (hV2.grown hw) (by omega) (by omega))
    have hdd : decide (r = r) = true := by simp
    rw [hdd] at KV
    have hlt2 : (i : Int) < a.length := by omega
    have h0i : (0 : Int) ≤ i := by omega
    have HLI : Hid (i + 1 ≤ a.length) := hlt
    have HME : Hid (a.length - (i + 1) < a.length - i) := by rw [Hid]; omega
    have HG9 := hide hg
    clear hr hrm hdd hV1 hV2 hg g0 hlt hne r1
    go_wp2_with (go_at_call 27; refine KU.get.mono ?_; clear KU; rintro e wu ⟨rfl, hgu⟩; have c1' := hgu.cell c1 (by simp); have c2' := hgu.cell c2 (by simp); have l1' := Nat.lt_of_lt_of_le l1 hgu.size; have l2' := Nat.lt_of_lt_of_le l2 hgu.size)
    refine wp_region_held_drew (S := fun w1 => w1.cell? ⟨g1, i, none⟩ = some (.slice (some ⟨gv1, 0, none⟩) r.length cv1) ∧ w1.cell? ⟨g2, i, none⟩ = some (.slice (some ⟨gv2, 0, none⟩) r.length cv2)) (by kernel_rfl) ?_ (fun hHeld => ?_)
    ·exact ⟨c1', c2'⟩
    refine tkH (i := 0) (v := ?_) 149 rfl rfl (by kernel_rfl) (fun _ _ _ h => h) (Or.inl ⟨by rfl, ?_⟩) hHeld ?_
    rotate_left 1
    ·(intro w hSw; (try dsimp only at hSw); go_simp; try with_reducible rfl)
    (try simp only [Act.put, arS, arZ, arN])
    refine tkH (i := 1) (v := ?_) 150 rfl rfl (by kernel_rfl) (fun _ _ _ h => h) (Or.inl ⟨by rfl, ?_⟩) hHeld ?_
    rotate_left 1
    ·(intro w hSw; (try dsimp only at hSw); go_simp; try with_reducible rfl)
    (try simp only [Act.put, arS, arZ, arN])
    refine tkH (i := 2) (v := ?_) 151 rfl rfl (by kernel_rfl) (fun _ _ _ h => h) (Or.inl ⟨by rfl, ?_⟩) hHeld ?_
    rotate_left 1
    ·(intro w hSw; (try dsimp only at hSw); go_simp; try with_reducible rfl)
    (try simp only [Act.put, arS, arZ, arN])
    refine tkH (i := 3) (v := ?_) 152 rfl rfl (by kernel_rfl) (fun _ _ _ h => h) (Or.inl ⟨by rfl, ?_⟩) hHeld ?_
    rotate_left 1
    ·(intro w hSw; (try dsimp only at hSw); go_simp; try with_reducible rfl)
    (try simp only [Act.put, arS, arZ, arN])
    refine tkH (i := 4) (v := ?_) 153 rfl rfl (by kernel_rfl) (fun _ _ _ h => h) (Or.inl ⟨by rfl, ?_⟩) hHeld ?_
    rotate_left 1
    ·(intro w hSw; (try dsimp only at hSw); go_simp; try with_reducible rfl)
    (try simp only [Act.put, arS, arZ, arN])
    refine tkH (i := 5) (v := ?_) 154 rfl rfl (by kernel_rfl) (fun _ _ _ h => h) (Or.inl ⟨by rfl, ?_⟩) hHeld ?_
    rotate_left 1
    ·(intro w hSw; (try dsimp only at hSw); go_simp; try with_reducible rfl)
    (try simp only [Act.put, arS, arZ, arN])
    refine tkH (i := 6) (v := ?_) 155 rfl rfl (by kernel_rfl) (fun _ _ _ h => h) (Or.inl ⟨by rfl, ?_⟩) hHeld ?_
    rotate_left 1
    ·(intro w hSw; (try dsimp only at hSw); go_simp; try with_reducible rfl)
    (try simp only [Act.put, arS, arZ, arN])
    refine tkH (i := 7) (v := ?_) 156 rfl rfl (by kernel_rfl) (fun _ _ _ h => h) (Or.inl ⟨by rfl, ?_⟩) hHeld ?_
    rotate_left 1
    ·(intro w hSw; (try dsimp only at hSw); go_simp; try with_reducible rfl)
    (try simp only [Act.put, arS, arZ, arN])
    refine wpAnyH_ready (rs := [8]) (by kernel_rfl) (by simp) ?_
    refine AllReadyH.cons rfl (fun K hK => ?_) AllReadyH.nil
    go_simp
    go_wp2_with ((go_at_call 28; refine (KV.get (hgu.trans (grown_drew' _ _))).mono ?_; rintro e w5 ⟨rfl, hg5⟩))
    refine hK.out _ _ ?_ (fun hHeld => ?_)
    ·exact ⟨hg5.cell hHeld.1 (by simp), hg5.cell hHeld.2 (by simp)⟩
    clear hK K
    (try simp only [Act.put, arS, arZ, arN])
    refine tkH (i := 9) (v := ?_) 28 rfl rfl (by kernel_rfl) (fun _ _ _ h => h) (Or.inl ⟨by rfl, ?_⟩) hHeld ?_
    rotate_left 1
    ·(intro w hSw; (try dsimp only at hSw); go_simp; try with_reducible rfl)
    (try simp only [Act.put, arS, arZ, arN])
    refine wpAnyH_done (by kernel_rfl) ?_ _
    go_wp2
    go_roundw
    case rel => exact ⟨i + 1, HLI.out, by go_num, ((HG9.out.trans hgu).trans (grown_drew' _ _)).trans hg5⟩
    case measure => exact HME.out
   ·obtain rfl : i = a.length := by omega
    go_wp2
    go_ret
    exact ⟨rfl, (HGR.out.trans HQ.out).trans hg⟩
theorem kp_Alike (N turn : Int) {vr : Value} {raw : List Int} (hV : RawIn w vr raw) (hN1 : -9223372036854775808 ≤ N) (hN2 : N ≤ 9223372036854775807) (ht1 : -9223372036854775808 ≤ turn) (ht2 : turn ≤ 9223372036854775807) (hrw : ∀ x ∈ raw, -9223372036854775808 ≤ x ∧ x ≤ 9223372036854775807) (ht : PowTab w) (hdb : DbTab w) : Calls Tryz.prog 11 #[.int .i64 N, vr, .int .i64 turn] w fun e w' => e = .returned (.bool true) ∧ w.grownBy w' none := by
 have b4 := pickI_bd N 4 (by decide)
 obtain ⟨n, hn⟩ : ∃ n : Nat, 1 + pickI N 4 = (n : Int) := ⟨(1 + pickI N 4).toNat, by omega⟩
 have hn1 : 1 ≤ n := by omega
 have hn4 : n ≤ 4 := by omega
 obtain ⟨hLo, hLl⟩ := ptL_ok hn1 hn4 raw
 obtain ⟨k, hk⟩ : ∃ k : Nat, ((ptL n raw).map stB).length = 0 ∧ k = 0 ∨ 0 < ((ptL n raw).map stB).length ∧ pickI turn ((ptL n raw).map stB).length = (k : Int) := by
  rcases Nat.eq_zero_or_pos ((ptL n raw).map stB).length with q | q
  ·exact ⟨0, .inl ⟨q, rfl⟩⟩
  ·have := pickI_bd turn ((ptL n raw).map stB).length (by omega)
   exact ⟨(pickI turn ((ptL n raw).map stB).length).toNat, .inr ⟨q, by omega⟩⟩
 have o2 : ∀ a ∈ (ptL n raw).drop k ++ (ptL n raw).take k, PtOk n a := fun a ha => by
  rcases List.mem_append.1 ha with q | q
  ·exact hLo a (List.mem_of_mem_drop q)
  ·exact hLo a (List.mem_of_mem_take q)
 have l2 : ((ptL n raw).drop k ++ (ptL n raw).take k).length ≤ 16 := by simp; omega
 have e0 : pickI 0 2 = 0 := by decide
 have e1 : pickI 1 2 = 1 := by decide
 obtain ⟨RA, LA, _⟩ := pt_rows hn1 hn4 hLo (by omega) 0 false
 obtain ⟨RB, LB, _⟩ := pt_rows hn1 hn4 hLo (by omega) 0 true
 obtain ⟨RC, _, _⟩ := pt_rows hn1 hn4 hLo (by omega) 1 false
 obtain ⟨RD, _, _⟩ := pt_rows hn1 hn4 hLo (by omega) 1 true
 obtain ⟨RF, _, _⟩ := pt_rows hn1 hn4 o2 l2 1 false
 have RF' := turn_rows RF
 have eAB := lex_eq (RB.trans RA.symm) (LB (by decide)) (LA (by decide))
 have tb : ∀ {W : World}, w.grownBy W none → PowTab W := fun {W} hg => tab_kept ht (fun k hk => hg.block k hk (by simp))
 have m1 := pt_mf hn1 hn4 o2 l2 ht hdb 1 false (by decide) (by decide)
 rw [List.map_append, List.map_drop, List.map_take, e1] at m1
 refine ak_walk N turn hV hN1 hN2 ht1 ht2 hrw n hn k hk _ _ _ _ ⟨fun W hW => ?_, m1, RC.trans RA.symm, RD.trans RA.symm, RF'.trans RA.symm, fun r hr => (RA.row hr).1, RA.len hn1 hn4⟩
 refine (pt_model hn4 hLo (by omega) W (tb hW)).mono ?_
 rintro e w' ⟨b, t, rfl, hb, hm, hg⟩
 refine ⟨b, rfl, hg, fun W2 hg2 => ?_⟩
 have hgg := (hW.trans hg).trans hg2
 have F := fun (order : Int) (weak : Bool) (h1 : -9223372036854775808 ≤ order) (h2 : order ≤ 9223372036854775807) => pt_found hn1 hn4 hLo (by omega) (hm.grown hg2) (tb hgg) (db_grown hdb hgg) order weak h1 h2
 have F1 := F 0 false (by decide) (by decide)
 have F2 := F 0 true (by decide) (by decide)
 have F3 := F 1 false (by decide) (by decide)
 have F4 := F 1 true (by decide) (by decide)
 rw [e0] at F1 F2
 rw [e1] at F3 F4
 rw [eAB] at F2
 refine ⟨F1, F2, F3, F4, fun {vv r} hv hr => ?_⟩
 have q := md_Suits (hm.grown hg2) (mk_md hn4 hLo (by omega)) hv
 rw [(RA.row hr).2.2] at q
 exact q
end
end Go.Proofs.YthpcbbnabnlanaaGreatDoor
