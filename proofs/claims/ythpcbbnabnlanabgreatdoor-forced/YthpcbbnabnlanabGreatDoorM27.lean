import Derived.Test.YthpcbbnabnlanabGreatDoorM02
import Derived.Test.YthpcbbnabnlanabGreatDoorM06
import Derived.Test.YthpcbbnabnlanabGreatDoorM11
import Derived.Test.YthpcbbnabnlanabGreatDoorM12
import Derived.Test.YthpcbbnabnlanabGreatDoorM13
import Derived.Test.YthpcbbnabnlanabGreatDoorM16
import Derived.Deep.LoopGhost
namespace Go.Proofs.YthpcbbnabnlanabGreatDoor
set_option linter.unusedVariables false
set_option linter.unusedSimpArgs false
section
set_option maxHeartbeats 1000000
set_option maxRecDepth 100000
open Go.RowKit
theorem bn_app (a b : List UInt8) : bn a ++ bn b = bn (a ++ b) := by
 apply ByteArray.ext
 rw [ByteArray.data_append]
 apply Array.toList_inj.1
 rw [Array.toList_append]
 rfl
theorem kp_pick (c n : Int) (w : World) (hlo : -9223372036854775808 ≤ c) (hhi : c ≤ 9223372036854775807) (hn : 0 < n) (hn2 : n ≤ 9223372036854775807) : Calls Tryz.prog 5 #[.int .i64 c, .int .i64 n] w fun e w' => e = .returned (.int .i64 (pickI c n)) ∧ w' = w := by
 have hn0 : (n == 0) = false := by simp; omega
 by_cases hc : c < 0
 ·have HP : Hid (pickI c n = (-(c + 1)).tmod n) := by unfold Hid pickI; rw [if_pos hc]
  go_enter Tryz.func5, Tryz.ntmps5
  go_wp2
  all_goals go_ret
  all_goals refine ⟨ret_int ?_, rfl⟩
  all_goals rw [HP.out]
  exact (Int.neg_tmod ..).symm
 ·have HP : Hid (pickI c n = c.tmod n) := by unfold Hid pickI; rw [if_neg hc]
  go_enter Tryz.func5, Tryz.ntmps5
  go_wp2
  all_goals go_ret
  all_goals refine ⟨ret_int ?_, rfl⟩
  all_goals rw [HP.out]
  exact (Int.tmod_eq_emod_of_nonneg ‹_›).symm
def dg8 (k : Nat) : UInt8 := UInt8.ofNat (48 + k)
def ahead (m : Nat) : List UInt8 := if m = 0 then [] else Lib.decDigits m
theorem dec_ahead (n : Nat) : Lib.decDigits n = ahead (n / 10) ++ [dg8 (n % 10)] := by
 unfold ahead
 by_cases h : n < 10
 ·rw [Lib.decDigits_one h, if_pos (by omega), Nat.mod_eq_of_lt h]; rfl
 ·rw [Lib.decDigits, dif_neg h, if_neg (by omega)]; rfl
theorem ahead_step {m : Nat} (h : m ≠ 0) : ahead m = ahead (m / 10) ++ [dg8 (m % 10)] := by
 rw [← dec_ahead]; unfold ahead; rw [if_neg h]
theorem dig_one (m : Nat) : strOfNums [48 + (m : Int) % 10] = bn [dg8 (m % 10)] := by
 have e : (48 + (m : Int) % 10) = ((48 + m % 10 : Nat) : Int) := by omega
 rw [e]
 apply ByteArray.ext
 apply Array.toList_inj.1
 rfl
theorem kp_digits_pos (n : Nat) (w : World) (h1 : n ≤ 1000000000000) : Calls Tryz.prog 6 #[.int .i64 (n : Int)] w fun e w' => e = .returned (.string (bn (Lib.decDigits n))) ∧ w.grownBy w' none := by
 have hcv : ∀ (wr : World) (m : Nat), (convert 34 9 (Value.slice (some ⟨wr.heap.size, 0, none⟩) 1 1)).run Tryz.prog (wr.alloc (.cells #[.int .u8 (48 + (m : Int) % 10)] 5)) = .ok (.string (bn [dg8 (m % 10)])) (wr.alloc (.cells #[.int .u8 (48 + (m : Int) % 10)] 5)) := fun wr m => by
  rw [← dig_one]
  exact run_convert_bytes_arg _ 34 5 Tryz.underlying34 Tryz.underlying5 wr.heap.size 0 1 1 [48 + (m : Int) % 10] rfl (fun i hi => by
     obtain rfl : i = 0 := by omega
     simp) 9 Tryz.underlying9
 have hcv0 := hcv w n
 have HCV := hide hcv
 have hn0 : (0 : Int) ≤ n := by omega
 have hn1 : (n : Int) ≤ 1000000000000 := by omega
 have HS : Hid (ahead (n / 10) ++ [dg8 (n % 10)] = Lib.decDigits n) := (dec_ahead n).symm
 have hDl : (Lib.decDigits n).length ≤ 13 := dec_len 12 n (by omega)
 generalize Lib.decDigits n = D at *
 clear hcv
 go_enter Tryz.func6, Tryz.ntmps6
 go_wp2
 go_loopw [0, 3] (fun vm vt wr => ∃ (m : Nat) (t : List UInt8), m ≤ 1000000000000 ∧ vm = .int .i64 m ∧ vt = .string (bn t) ∧ ahead m ++ t = D ∧ w.grownBy wr none) (fun vm _ _ => (intOf vm).toNat)
 case atStart => exact ⟨n / 10, [dg8 (n % 10)], by omega, by go_num, rfl, HS.out, World.grownBy_alloc _ _ _⟩
 case round =>
  obtain ⟨m, t, hm, rfl, rfl, hD, hg⟩ := hrel
  by_cases h0 : m = 0
  ·have hle : (m : Int) ≤ 0 := by omega
   have HD : Hid (t = D) := by rw [Hid, ← hD, h0]; rfl
   clear hD h0
   go_wp2
   go_ret
   exact ⟨by rw [HD.out]; rfl, hg⟩
  ·have hcv1 := HCV.out wr m
   have hpos : (0 : Int) < m := by omega
   have hm2 : (m : Int) ≤ 1000000000000 := by omega
   have HD : Hid (ahead (m / 10) ++ (dg8 (m % 10) :: t) = D) := by rw [Hid, ← hD, ahead_step h0, List.append_assoc]; rfl
   have HB : Hid (bn [dg8 (m % 10)] ++ bn t = bn (dg8 (m % 10) :: t)) := bn_app _ _
   have hs1 : (bn [dg8 (m % 10)]).size = 1 := rfl
   have hs2 : (bn t).size ≤ 13 := by rw [bn_size]; have q := congrArg List.length hD; rw [List.length_append] at q; omega
   clear hD h0
   go_wp2
   go_roundw
   case rel => exact ⟨m / 10, dg8 (m % 10) :: t, by omega, by go_num, by rw [← HB.out], HD.out, hg.trans (World.grownBy_alloc _ _ _)⟩
   case measure => simp [intOf]; omega
theorem bn_mk (a : List UInt8) (xs : Array UInt8) : bn a ++ ⟨xs⟩ = bn (a ++ xs.toList) := bn_app a xs.toList
theorem mk_bn (a : List UInt8) (xs : Array UInt8) : (⟨xs⟩ : ByteArray) ++ bn a = bn (xs.toList ++ a) := bn_app xs.toList a
theorem mk_size (xs : Array UInt8) : (ByteArray.mk xs).size = xs.size := rfl
theorem itoa_len {m : Int} (h1 : -1000000000000 ≤ m) (h2 : m ≤ 1000000000000) : (Lib.itoa m).length ≤ 14 := by
 unfold Lib.itoa
 split
 ·have := dec_len 12 m.natAbs (by omega)
  simp; omega
 ·have := dec_len 12 m.toNat (by omega)
  omega
theorem itoa_neg {m : Int} (h : m < 0) : Lib.itoa m = 45 :: Lib.decDigits m.natAbs := by unfold Lib.itoa; rw [if_pos h]
theorem itoa_pos {m : Int} (h : ¬ m < 0) : Lib.itoa m = Lib.decDigits m.toNat := by unfold Lib.itoa; rw [if_neg h]
attribute [local go_sem] bn_app bn_mk mk_bn bn_size mk_size List.length_append List.length_cons List.length_nil
theorem kp_digits (m : Int) (w : World) (h1 : -1000000000 ≤ m) (h2 : m ≤ 1000000000) : Calls Tryz.prog 6 #[.int .i64 m] w fun e w' => e = .returned (.string (bn (Lib.itoa m))) ∧ w.grownBy w' none := by
 by_cases h : m < 0
 ·rw [itoa_neg h]
  obtain ⟨k, hk⟩ : ∃ k : Nat, -m = (k : Int) := ⟨m.natAbs, by omega⟩
  have ek : m.natAbs = k := by omega
  rw [ek]
  have K := Kept.mk (fun W => kp_digits_pos k W (by omega))
  have hl := dec_len 12 k (by omega)
  generalize Lib.decDigits k = D at *
  clear ek
  go_enter Tryz.func6, Tryz.ntmps6
  go_wp2_with (go_at_call 6; refine (K.get _).mono ?_; rintro e w1 ⟨rfl, hg⟩)
  go_ret
  exact ⟨rfl, hg⟩
 ·rw [itoa_pos h]
  have q := kp_digits_pos m.toNat w (by omega)
  have e : ((m.toNat : Nat) : Int) = m := by omega
  rw [e] at q
  exact q
def nmK (k : Nat) : List UInt8 := 120 :: Lib.itoa (k : Int)
theorem kp_name (k : Nat) (w : World) (h1 : k ≤ 1000) : Calls Tryz.prog 7 #[.int .i64 (k : Int)] w fun e w' => e = .returned (.string (bn (nmK k))) ∧ w.grownBy w' none := by
 have K := Kept.mk (fun W => kp_digits (k : Int) W (by omega) (by omega))
 have hl : (Lib.itoa (k : Int)).length ≤ 14 := itoa_len (by omega) (by omega)
 have HN : Hid (nmK k = 120 :: Lib.itoa (k : Int)) := rfl
 generalize nmK k = N at *
 generalize Lib.itoa (k : Int) = D at *
 go_enter Tryz.func7, Tryz.ntmps7
 go_wp2_with (go_at_call 6; refine (K.get _).mono ?_; rintro e w1 ⟨rfl, hg⟩)
 go_ret
 exact ⟨by rw [HN.out]; rfl, hg⟩
def varB (k : Nat) (lo hi : Int) : List UInt8 := [118, 97, 114, 32] ++ (nmK k ++ ([58, 32] ++ (Lib.itoa lo ++ ([46, 46] ++ (Lib.itoa hi ++ [59, 10])))))
theorem nmK_len {k : Nat} (h : k ≤ 1000) : (nmK k).length ≤ 15 := by
 have := itoa_len (m := (k : Int)) (by omega) (by omega)
 simp [nmK]; omega
theorem varB_len {k : Nat} {lo hi : Int} (hk : k ≤ 1000) (h1 : (Lib.itoa lo).length ≤ 14) (h2 : (Lib.itoa hi).length ≤ 14) : (varB k lo hi).length ≤ 60 := by
 have := nmK_len hk
 simp [varB]; omega
end
section
set_option maxHeartbeats 2000000
set_option maxRecDepth 100000
open Go.RowKit
variable {w w' : World}
def listB : Nat → List UInt8
 | 0 => []
 | k + 1 => listB k ++ ((if k = 0 then [] else [44, 32]) ++ nmK k)
theorem listB_len : ∀ {k : Nat}, k ≤ 1000 → (listB k).length ≤ 17 * k
 | 0, _ => Nat.le_refl _
 | k + 1, h => by
  have := listB_len (k := k) (by omega)
  have := nmK_len (k := k) (by omega)
  simp only [listB, List.length_append]
  split <;> simp <;> omega
attribute [local go_sem] bn_app bn_mk mk_bn bn_size mk_size List.length_append List.length_cons List.length_nil
theorem kp_list (n : Nat) (w : World) (hn : n ≤ 100) : Calls Tryz.prog 11 #[.int .i64 (n : Int)] w fun e w' => e = .returned (.string (bn (listB n))) ∧ w.grownBy w' none := by
 have KN := Kept.mk (fun {k : Nat} (hk : k ≤ 100) W => kp_name k W (by omega))
 have HLB : Hid (∀ k, k ≤ 100 → (listB k).length ≤ 17 * k) := fun k hk => listB_len (by omega)
 have HNL : Hid (∀ k, k ≤ 100 → (nmK k).length ≤ 15) := fun k hk => nmK_len (by omega)
 go_enter Tryz.func11, Tryz.ntmps11
 go_wp2
 go_loopw [3, 4] (fun vs vk wr => ∃ k : Nat, k ≤ n ∧ vk = .int .i64 k ∧ vs = .string (bn (listB k)) ∧ w.grownBy wr none) (fun _ vk _ => n - (intOf vk).toNat)
 case atStart => exact ⟨0, Nat.zero_le _, rfl, rfl, grown_refl _ _⟩
 case round =>
  obtain ⟨k, hk, rfl, rfl, hg⟩ := hrel
  by_cases hlt : k < n
  ·have hlt2 : (k : Int) < n := by omega
   have lb := HLB.out k (by omega)
   have ln := HNL.out k (by omega)
   have KNk := Kept.mk (fun W => KN.get (k := k) (by omega) W)
   by_cases h0 : k = 0
   ·have hk0 : (k : Int) ≤ 0 := by omega
    have HE : Hid (listB (k + 1) = listB k ++ nmK k) := by rw [Hid]; simp [listB, h0]
    clear h0
    generalize listB k = B at *
    generalize nmK k = N at *
    go_wp2_with (go_at_call 7; refine (KNk.get _).mono ?_; rintro e w1 ⟨rfl, hg1⟩)
    go_roundw
    case rel => exact ⟨k + 1, by omega, by go_num, by rw [HE.out], hg.trans hg1⟩
    case measure => simp [intOf]; omega
   ·have hk0 : (0 : Int) < k := by omega
    have HE : Hid (listB (k + 1) = listB k ++ ([44, 32] ++ nmK k)) := by rw [Hid]; simp [listB, h0]
    clear h0
    generalize listB k = B at *
    generalize nmK k = N at *
    go_wp2_with (go_at_call 7; refine (KNk.get _).mono ?_; rintro e w1 ⟨rfl, hg1⟩)
    go_roundw
    case rel => exact ⟨k + 1, by omega, by go_num, by rw [HE.out]; simp [List.append_assoc], hg.trans hg1⟩
    case measure => simp [intOf]; omega
  ·obtain rfl : k = n := by omega
   go_wp2
   go_ret
   exact ⟨rfl, hg⟩
theorem kp_sameRow {va vb : Value} {x y : List Int} (ha : ValsIn w va x) (hb : ValsIn w vb y) (hx : x.length ≤ 100000) (hy : y.length ≤ 100000) : Calls Tryz.prog 10 #[va, vb] w fun e w' => e = .returned (.bool (decide (x = y))) ∧ w.grownBy w' none := by
 obtain ⟨aa, ac, rfl⟩ := ha.is
 obtain ⟨ba, bc, rfl⟩ := hb.is
 obtain ⟨R, hR⟩ : ∃ R, R = decide (x = y) := ⟨_, rfl⟩
 have HR : Hid (R = decide (x = y)) := hR
 rw [← hR]
 clear hR
 have HA := hide ha
 have HB := hide hb
 clear ha hb
 by_cases hl : x.length = y.length
 ·have hl' : ((x.length : Int) != (y.length : Int)) = false := by simp [hl]
  go_enter Tryz.func10, Tryz.ntmps10
  go_wp2
  go_loopw [5] (fun vi wr => ∃ i : Nat, i ≤ x.length ∧ vi = .int .i64 i ∧ (∀ j, j < i → x[j]? = y[j]?) ∧ w.grownBy wr none) (fun vi _ => x.length - (intOf vi).toNat)
  case atStart => exact ⟨0, Nat.zero_le _, rfl, fun j hj => by omega, grown_refl _ _⟩
  case round =>
   obtain ⟨i, hi, rfl, hall, hgr⟩ := hrel
   have HALL := hide hall
   clear hall
   by_cases hlt2 : i < x.length
   ·obtain ⟨u, hu⟩ : ∃ u, x[i]? = some u := ⟨x[i], List.getElem?_eq_getElem hlt2⟩
    obtain ⟨v, hv⟩ : ∃ v, y[i]? = some v := ⟨y[i]'(by omega), List.getElem?_eq_getElem (by omega)⟩
    rcases HA.out with ⟨rfl, _⟩ | ⟨ga, ca, hVA⟩
    ·simp at hlt2
    rcases HB.out with ⟨rfl, _⟩ | ⟨gb, cb, hVB⟩
    ·simp at hv
    have ea : aa = some ⟨ga, 0, none⟩ := by have q := hVA.is; injection q
    have eb : ba = some ⟨gb, 0, none⟩ := by have q := hVB.is; injection q
    subst ea eb
    have k1 : wr.cell? ⟨ga, i, none⟩ = some (.int .i64 u) := by have q := (hVA.kept hgr (by simp)).at (sz := 1) (fun _ => rfl) hu 0 _ rfl; rw [Nat.mul_one] at q; exact q
    have k2 : wr.cell? ⟨gb, i, none⟩ = some (.int .i64 v) := by have q := (hVB.kept hgr (by simp)).at (sz := 1) (fun _ => rfl) hv 0 _ rfl; rw [Nat.mul_one] at q; exact q
    have hlt3 : (i : Int) < x.length := by omega
    have hlt4 : (i : Int) < y.length := by omega
    have h03 : (0 : Int) ≤ i := by omega
    have HGR := hide hgr
    have HUV := hide (And.intro hu hv)
    clear hVA hVB hgr hu hv
    by_cases huv : u = v
    ·have huv' : (u != v) = false := by simp [huv]
     have HE := hide huv
     clear huv
     go_wp2
     go_quiet (fail)
     go_wp2
     go_roundw
     case rel => exact ⟨i + 1, by omega, by go_num, fun j hj => by
      by_cases e : j = i
      ·subst e; rw [HUV.out.1, HUV.out.2, HE.out]
      ·exact HALL.out j (by omega), HGR.out.trans (grown_drewN' _ _ _)⟩
     case measure => simp [intOf]; omega
    ·have huv' : (u != v) = true := by simpa using huv
     have HE := hide huv
     clear huv
     go_wp2
     go_quiet (fail)
     go_wp2
     go_ret
     refine ⟨?_, HGR.out.trans (grown_drewN' _ _ _)⟩
     have : R = false := by
      rw [HR.out]
      simp only [decide_eq_false_iff_not]
      rintro rfl
      have q := HUV.out.1.symm.trans HUV.out.2
      exact HE.out (Option.some.inj q)
     rw [this]; rfl
   ·obtain rfl : i = x.length := by omega
    go_wp2
    go_ret
    refine ⟨?_, hgr⟩
    have : R = true := by
     rw [HR.out]
     simp only [decide_eq_true_eq]
     apply List.ext_getElem?
     intro j
     by_cases hj : j < x.length
     ·exact HALL.out j hj
     ·rw [List.getElem?_eq_none (by omega), List.getElem?_eq_none (by omega)]
    rw [this]; rfl
 ·have hl' : ((x.length : Int) != (y.length : Int)) = true := by simp; omega
  have HL := hide hl
  clear hl
  go_enter Tryz.func10, Tryz.ntmps10
  go_wp2
  go_ret
  refine ⟨?_, grown_refl _ _⟩
  have : R = false := by
   rw [HR.out]
   simp only [decide_eq_false_iff_not]
   rintro rfl
   exact HL.out rfl
  rw [this]; rfl
def LL (w : World) (v : Value) (rows : List (List Int)) : Prop := (rows = [] ∧ ∃ a c, v = .slice a 0 c) ∨ ∃ g cap, v = .slice (some ⟨g, 0, none⟩) rows.length cap ∧ g < w.heap.size ∧ (∀ (i : Nat) r, rows[i]? = some r → ∃ u, w.cell? ⟨g, i, none⟩ = some u ∧ ValsIn w u r) ∧ rows.length ≤ cap
theorem LL.is {v : Value} {rows : List (List Int)} (h : LL w v rows) : ∃ a c, v = .slice a rows.length c := by
 rcases h with ⟨rfl, a, c, e⟩ | ⟨g, cap, e, _⟩
 ·exact ⟨a, c, e⟩
 ·exact ⟨_, _, e⟩
theorem LL.grown {v : Value} {rows : List (List Int)} (h : LL w v rows) (hg : w.grownBy w' none) : LL w' v rows := by
 rcases h with h | ⟨g, cap, e, h1, h2, h3⟩
 ·exact .inl h
 ·refine .inr ⟨g, cap, e, Nat.lt_of_lt_of_le h1 hg.size, fun i r hr => ?_, h3⟩
  obtain ⟨u, q1, q2⟩ := h2 i r hr
  exact ⟨u, hg.cell q1 (by simp), q2.grown hg⟩
theorem LL.at_ {a : Option Addr} {n c : Nat} {rows : List (List Int)} (h : LL w (.slice a n c) rows) {i : Nat} {r : List Int} (hr : rows[i]? = some r) : ∃ g u, a = some ⟨g, 0, none⟩ ∧ g < w.heap.size ∧ w.cell? ⟨g, i, none⟩ = some u ∧ ValsIn w u r := by
 rcases h with ⟨rfl, _⟩ | ⟨g, cap, e, h1, h2, _⟩
 ·cases hr
 ·obtain ⟨u, q1, q2⟩ := h2 i r hr
  injection e with e
  exact ⟨g, u, e, h1, q1, q2⟩
theorem LL.cap {a : Option Addr} {n c : Nat} {rows : List (List Int)} (h : LL w (.slice a n c) rows) : rows.length ≤ c ∨ rows = [] := by
 rcases h with ⟨h, _⟩ | ⟨g, cap, e, _, _, h3⟩
 ·exact .inr h
 ·injection e with _ _ e3
  exact .inl (by rw [e3]; exact h3)
end
section
set_option maxHeartbeats 4000000
open Go.RowKit
theorem own_blk {w : World} {B e s n b : Nat} {v : Value} {xs : List Value} (h : w.ownsRow B e s v n xs) (hb : v.ownBlock = some b) : ∃ cur, w.heap[b]? = some (.cells cur e (0, 0)) := by
 rcases h.2 with ⟨h, _⟩ | ⟨g, cap, cur, h, _, h3, _⟩
 ·rw [h] at hb; cases hb
 ·rw [h] at hb
  have : g = b := Option.some.inj hb
  subst this
  exact ⟨cur, h3⟩
theorem ownBut {w w' : World} {B e s n : Nat} {v : Value} {xs : List Value} {S : List Nat} (h : w.ownsRow B e s v n xs) (hb : But S w w') (hn : ∀ b, v.ownBlock = some b → b ∉ S) : w'.ownsRow B e s v n xs := by
 refine ⟨h.1, ?_⟩
 rcases h.2 with h2 | ⟨g, cap, cur, h1, hB, h3, h4⟩
 ·exact .inl h2
 ·refine .inr ⟨g, cap, cur, h1, hB, ?_, h4⟩
  rw [hb.block g (Array.getElem?_eq_some_iff.1 h3).1 (hn g (by rw [h1]; rfl))]
  exact h3
theorem out_of {w : World} {B e e' s s' n n' bc bm : Nat} {v v' : Value} {xs xs' : List Value} (h : w.ownsRow B e s v n xs) (h' : w.ownsRow B e' s' v' n' xs') (he : e ≠ e') (hc : bc < B) (hm : bm < B) (b : Nat) (hb : v.ownBlock = some b) : b ∉ [bc, bm] ++ v'.ownBlock.toList := by
 have hB := (h.lt b hb).1
 obtain ⟨cur, h3⟩ := own_blk h hb
 intro q
 rcases List.mem_append.1 q with q | q
 ·simp at q; omega
 ·have q2 : v'.ownBlock = some b := by simpa using q
  obtain ⟨cur', h3'⟩ := own_blk h' q2
  rw [h3] at h3'
  cases h3'
  exact he rfl
theorem out_of1 {w : World} {B e s n bc bm : Nat} {v : Value} {xs : List Value} (h : w.ownsRow B e s v n xs) (hc : bc < B) (hm : bm < B) (b : Nat) (hb : v.ownBlock = some b) : b ∉ [bc, bm] := by
 have hB := (h.lt b hb).1
 intro q; simp at q; omega
theorem in_B {w : World} {B e s n bc bm : Nat} {v : Value} {xs : List Value} (h : w.ownsRow B e s v n xs) : ∀ k ∈ [bc, bm] ++ v.ownBlock.toList, k = bc ∨ k = bm ∨ B ≤ k := by
 intro k hk
 rcases List.mem_append.1 hk with q | q
 ·simp at q; rcases q with q | q
  ·exact .inl q
  ·exact .inr (.inl q)
 ·exact .inr (.inr ((h.lt k (by simpa using q)).1))
theorem in_ty {w : World} {B e s n bc bm : Nat} {v : Value} {xs : List Value} (h : w.ownsRow B e s v n xs) (he : e = 104 ∨ e = 93) (hc : bc < B) (hm : bm < B) : ∀ k, k ∈ [bc, bm] ++ v.ownBlock.toList → k < B ∨ ∃ c e, w.heap[k]? = some (.cells c e (0, 0)) ∧ (e = 104 ∨ e = 93) := by
 intro k hk
 rcases List.mem_append.1 hk with q | q
 ·simp at q; exact .inl (by omega)
 ·obtain ⟨cur, h3⟩ := own_blk h (by simpa using q)
  exact .inr ⟨cur, e, h3, he⟩
theorem ConPost.done {w W : World} {bc bm n B m k : Nat} {g : ByteArray → Th} {vV vC : Value} {vars : List QVar} {S : FSt} {cs : List CRow} {cons : List QCon} {ls : ByteArray → List Int} {C : QCon} {e : Ending} {w' : World} (hf : Fr B bc bm w W) (h : ConPost W bc bm n B m g vV vC S (cs.flatMap CRow.cells) C e w') (hv : ThOk g) (hoV : W.ownsRow B 93 3 vV vars.length (vars.flatMap qvCell)) (hoC : W.ownsRow B 104 10 vC m (cs.flatMap CRow.cells)) (hD : SenC W B g cons ls cs) (h1 : n ≤ k) (h2 : vars.length ≤ k) (h3 : m ≤ k) (hc : bc < B) (hm : bm < B) (hB : B ≤ W.heap.size) : e = .returned (.tuple #[]) ∧ Sen w' bc bm B (k + 1) ⟨eraseV g, vars, m + 1, S, cons ++ [C], ls⟩ ∧ Fr B bc bm w w' := by
 obtain ⟨rfl, v, x, rfl, hx, hown, hbut, hC⟩ := h
 have hbut' : But ([bc, bm] ++ vC.ownBlock.toList) W w' := hbut.mono (fun k hk => by
  rcases List.mem_append.1 hk with q | q
  ·simp only [List.mem_cons, List.not_mem_nil, or_false] at q
   exact List.mem_append.2 (.inl (by simp [q]))
  ·exact List.mem_append.2 (.inr q))
 have fr := Fr.of_but (bc := bc) (bm := bm) hbut' hB (in_B hoC)
 have hD' := hD.but hbut' (in_ty hoC (.inl rfl) hc hm)
 refine ⟨rfl, ⟨n, g, vV, v, cs ++ [x], hC, rfl, hv, ownBut hoV hbut' (out_of hoV hoC (by decide) hc hm), ?_, ⟨by rw [List.map_append, hD'.row]; rfl, fun y hy => ?_, hD'.ls⟩, by omega, by simp only; omega, by simp only; omega, hc, hm, ?_⟩, hf.trans fr⟩
 ·rw [List.flatMap_append]; simpa using hown
 ·rcases List.mem_append.1 hy with q | q
  ·exact hD'.at_ y q
  ·simp only [List.mem_cons, List.not_mem_nil, or_false] at q; subst q; exact hx
 ·have := fr.size; omega
theorem find_ls {w : World} {B : Nat} {g : ByteArray → Th} {cons : List QCon} {ls : ByteArray → List Int} {cs : List CRow} (h : SenC w B g cons ls cs) (s : ByteArray) : w.ownsRow B 3 1 (thFind g s 5).v (if (g s).so = 5 then ls s else []).length ((if (g s).so = 5 then ls s else []).flatMap inCell) := by
 unfold thFind
 split
 ·exact h.ls s
 ·exact World.ownsRow_nil _ _ _ _
theorem SenC.put {w : World} {B : Nat} {g : ByteArray → Th} {cons : List QCon} {ls : ByteArray → List Int} {cs : List CRow} (h : SenC w B g cons ls cs) (s : ByteArray) {t : Th} {l : List Int} (hl : w.ownsRow B 3 1 t.v l.length (l.flatMap inCell)) : SenC w B (putTh g s t) cons (putLs ls s l) cs :=
 ⟨h.row, h.at_, fun s' => by
  unfold putTh putLs
  split
  ·exact hl
  ·exact h.ls s'⟩
theorem sn_one {w : World} {bc bm B k : Nat} {q : QSt} (h : Sen w bc bm B k q) (hk : k ≤ 2500) (x : GRow) (hx : GIn w B bc bm x) (ho : StOk x.s) : Calls Tryz.prog 26 #[.pointer (some ⟨bc, 0, none⟩), .agg (gsCells x.s x.vn x.vu x.vt x.vl)] w fun e w' => e = .returned (.tuple #[]) ∧ Sen w' bc bm B (k + 1) (qStep x.s q) ∧ Fr B bc bm w w' := by
 obtain ⟨n, g, vV, vC, cs, hC, eg, hv, hoV, hoC, hD, b1, b2, b3, hc, hm, hB⟩ := h
 obtain ⟨qg, vars, m, st, cons, ls⟩ := q
 obtain ⟨⟨kw, nm, names, numbers, terms, rel, lits⟩, vn, vu, vt, vl⟩ := x
 obtain ⟨iN, iU, iT, iL⟩ := hx
 obtain ⟨okN, okU, okn, okT, okL, l1, l2, l3, l4, s4, s5, s6, s8, s9, s10, kwd⟩ := ho
 simp only at *
 subst eg
 obtain ⟨na, nm', nc, rfl⟩ := iN.1
 obtain ⟨ua, um, uc, rfl⟩ := iU.1
 obtain ⟨ta, tm, tc, rfl⟩ := iT.1
 obtain ⟨la, lm, lc, rfl⟩ := iL.1
 have hfr : ∀ o, Fr B bc bm w (w.alloc o) := fun o => (Fr.refl B bc bm w).alloc hB o
 have hB' : ∀ o, B ≤ (w.alloc o).heap.size := fun o => by simp; omega
 refine sn_statement _ (fun e w' hP => hP.1) ⟨kw, nm, names, numbers, terms, rel, lits⟩ na nm' nc ua um uc ta tm tc la lm lc ?_ ?_ ?_
 ·intro h4
  simp only at h4
  obtain ⟨lo, hi, rfl⟩ := s4 h4
  obtain ⟨gr, cap, hR, g1, g2, g3⟩ := iU.2 (by simp)
  obtain ⟨va, vc, rfl⟩ := own_slice_n hoV
  refine (sn_var B vars va vc (hC.alloc _) kw nm lo hi rel names terms lits _ _ _ _ gr cap (hR.kept (World.grownBy_alloc w _ none) (by simp)) g2 g3 g1 hc hm (hB' _) (hoV.alloc _) (by omega) okN (okU lo (by simp)) (okU hi (by simp)) (by omega) rfl rfl rfl).mono ?_
  rintro e w' ⟨rfl, v, hoV', hbut, hC'⟩
  have fr := Fr.of_but (bc := bc) (bm := bm) hbut (hB' _) (in_B hoV)
  have eq : qStep ⟨kw, nm, names, [lo, hi], terms, rel, lits⟩ ⟨eraseV g, vars, m, st, cons, ls⟩ = ⟨eraseV (putTh g nm.s ⟨4, vars.length, tval lo, tval hi, .slice none 0 0⟩), vars ++ [⟨nm.s, tval lo, tval hi⟩], m, varDecl g vars.length nm lo hi st, cons, putLs ls nm.s []⟩ := by
   unfold qStep; rw [if_pos h4, er_put]; rfl
  rw [eq]
  refine ⟨rfl, ⟨n + 1, _, v, vC, cs, hC', rfl, hv.put _ _ ⟨_, _, _, rfl⟩, ?_, ownBut (hoC.alloc _) hbut (out_of hoC hoV (by decide) hc hm), ((hD.alloc _).but hbut (in_ty (hoV.alloc _) (.inr rfl) hc hm)).put nm.s (World.ownsRow_nil _ _ _ _), by omega, by simp; omega, by simp only; omega, hc, hm, ?_⟩, (hfr _).trans fr⟩
  ·rw [List.flatMap_append]; simpa using hoV'
  ·have := fr.size; have := hB' (.cells (gsCells ⟨kw, nm, names, [lo, hi], terms, rel, lits⟩ (.slice na nm' nc) (.slice ua um uc) (.slice ta tm tc) (.slice la lm lc)) 70); omega
 ·intro h5
  simp only at h5
  obtain ⟨gr, cap, hR, g1, g2, g3⟩ := iU.2 (s5 h5)
  refine (sn_list (hC.alloc _) ⟨kw, nm, names, numbers, terms, rel, lits⟩ _ _ _ _ gr cap (hR.kept (World.grownBy_alloc w _ none) (by simp)) g2 g3 l1 okU okN (by omega) rfl rfl rfl).mono ?_
  rintro e w' ⟨rfl, v, hov, hbut, hC'⟩
  have fr := Fr.of_but (bc := bc) (bm := bm) hbut (hB' _) (fun k hk => by simp at hk; rcases hk with e | e; exact .inl e; exact .inr (.inl e))
  have eq : qStep ⟨kw, nm, names, numbers, terms, rel, lits⟩ ⟨eraseV g, vars, m, st, cons, ls⟩ = ⟨eraseV (putTh g nm.s ⟨5, 0, 0, 0, v⟩), vars, m, foldSt numStP 0 numbers (flt ((g nm.s).so != 0) 4 nm.line st), cons, putLs ls nm.s (numbers.map tval)⟩ := by
   unfold qStep; rw [if_neg (by simp only; omega), if_pos h5, er_put]; rfl
  rw [eq]
  refine ⟨rfl, ⟨n + 1, _, vV, vC, cs, hC', rfl, hv.put _ _ (own_slice hov), ownBut (hoV.alloc _) hbut (out_of1 hoV hc hm), ownBut (hoC.alloc _) hbut (out_of1 hoC hc hm), ((hD.alloc _).but hbut (fun k hk => .inl (by simp at hk; omega))).put nm.s (own_map tval (fun _ => rfl) hov (hB' _)), by omega, by simp only; omega, by simp only; omega, hc, hm, ?_⟩, (hfr _).trans fr⟩
  have := fr.size; have := hB' (.cells (gsCells ⟨kw, nm, names, numbers, terms, rel, lits⟩ (.slice na nm' nc) (.slice ua um uc) (.slice ta tm tc) (.slice la lm lc)) 70); omega
 ·intro n4 n5
  simp only at n4 n5
  obtain ⟨ca, cc, rfl⟩ := own_slice_n hoC
  have eq : qStep ⟨kw, nm, names, numbers, terms, rel, lits⟩ ⟨eraseV g, vars, m, st, cons, ls⟩ = ⟨eraseV g, vars, m + 1, conSt g ⟨kw, nm, names, numbers, terms, rel, lits⟩ (flt (decide ((16 : Int) ≤ m)) 6 kw.line st), cons ++ [conOf g ls ⟨kw, nm, names, numbers, terms, rel, lits⟩], ls⟩ := by
   unfold qStep; rw [if_neg n4, if_neg n5, er_con, er_conOf]
  rw [eq]
  have done := fun {S : FSt} {C : QCon} {e : Ending} {w' : World} {o : Obj} (hp : ConPost (w.alloc o) bc bm n B m g vV (.slice ca m cc) S (cs.flatMap CRow.cells) C e w') => ConPost.done (hfr o) hp hv (hoV.alloc o) (hoC.alloc o) (hD.alloc o) b1 b2 b3 hc hm (hB' o)
  have rk : ∀ {α : Type} {v : Value} {gr cap : Nat} {cell : α → List Value} {l : List α} {o : Obj}, RowIn w v gr cap cell l → RowIn (w.alloc o) v gr cap cell l := fun {α v gr cap cell l o} hr => hr.kept (World.grownBy_alloc w o none) (by simp)
  rcases kwd with e | e | e | e | e | e | e
  ·exact absurd e n4
  ·exact absurd e n5
  ·obtain ⟨hT, M, rfl⟩ := s6 (.inl e)
   obtain ⟨gr, cap, hR, g1, g2, g3⟩ := iT.2 hT
   obtain ⟨gu, cu, hU, u1, u2, u3⟩ := iU.2 (by simp)
   refine (sn_con_lin B m _ ca cc (hC.alloc _) (hoC.alloc _) hc hm (hB' _) (by omega) hv kw nm rel M names terms lits _ _ _ _ gr cap gu cu (rk hR) g2 (rk hU) u2 l3 okT okN (okU M (by simp)) (by simp [rSort, e])).mono ?_
   intro e' w' hp
   have q := done hp
   have e2 : conSt g ⟨kw, nm, names, [M], terms, rel, lits⟩ (flt (decide ((16 : Int) ≤ m)) 6 kw.line st) = flt (outB (tval M) 1000000) 5 M.line (foldSt (termStP g) 0 terms (flt (decide ((16 : Int) ≤ m)) 6 kw.line st)) := by simp [conSt, qLinSt, e]
   have e3 : conOf g ls ⟨kw, nm, names, [M], terms, rel, lits⟩ = ⟨0, 0, terms.map (fun t => ((thFind g t.name.s 4).pl, facV t)), rRel (srt rel), tval M, [], 0, 0, [], []⟩ := by simp [conOf, e]
   rw [e2, e3]
   exact q
  ·obtain ⟨hT, M, rfl⟩ := s6 (.inr e)
   obtain ⟨gr, cap, hR, g1, g2, g3⟩ := iT.2 hT
   obtain ⟨gu, cu, hU, u1, u2, u3⟩ := iU.2 (by simp)
   refine (sn_con_when B m _ ca cc (hC.alloc _) (hoC.alloc _) hc hm (hB' _) (by omega) hv kw nm rel M names terms lits _ _ _ _ gr cap gu cu (rk hR) g2 (rk hU) u2 l3 okT okN (okU M (by simp)) (by simp [rSort, e])).mono ?_
   intro e' w' hp
   have q := done hp
   have e2 : conSt g ⟨kw, nm, names, [M], terms, rel, lits⟩ (flt (decide ((16 : Int) ≤ m)) 6 kw.line st) = flt (outB (tval M) 1000000) 5 M.line (foldSt (termStP g) 0 terms (flt (noTruthT (thFind g nm.s 4)) 7 nm.line (flt ((g nm.s).so != 4) 4 nm.line (flt (decide ((16 : Int) ≤ m)) 6 kw.line st)))) := by simp [conSt, qLinSt, truthSt, e]
   have e3 : conOf g ls ⟨kw, nm, names, [M], terms, rel, lits⟩ = ⟨1, (thFind g nm.s 4).pl, terms.map (fun t => ((thFind g t.name.s 4).pl, facV t)), rRel (srt rel), tval M, [], 0, 0, [], []⟩ := by simp [conOf, e]
   rw [e2, e3]
   exact q
  ·obtain ⟨P, Q, rfl⟩ := s8 e
   obtain ⟨gr, cap, hR, g1, g2, g3⟩ := iN.2 (by simp)
   refine (sn_con_at B m _ ca cc (hC.alloc _) (hoC.alloc _) hc hm (hB' _) (by omega) hv kw nm rel P Q _ (find_ls (hD.alloc _) nm.s) numbers terms lits _ _ _ _ gr cap (rk hR) g2 okN (okn P (by simp)) (okn Q (by simp)) (by simp [rSort, e])).mono ?_
   intro e' w' hp
   have q := done hp
   have e2 : conSt g ⟨kw, nm, [P, Q], numbers, terms, rel, lits⟩ (flt (decide ((16 : Int) ≤ m)) 6 kw.line st) = flt ((g Q.s).so != 4) 4 Q.line (flt ((g P.s).so != 4) 4 P.line (flt ((g nm.s).so != 5) 4 nm.line (flt (decide ((16 : Int) ≤ m)) 6 kw.line st))) := by simp [conSt, e]
   have e3 : conOf g ls ⟨kw, nm, [P, Q], numbers, terms, rel, lits⟩ = ⟨2, 0, [], 0, 0, if (g nm.s).so = 5 then ls nm.s else [], (thFind g P.s 4).pl, (thFind g Q.s 4).pl, [], []⟩ := by simp [conOf, e]
   rw [e2, e3]
   exact q
  ·obtain ⟨gr, cap, hR, g1, g2, g3⟩ := iN.2 (s9 e)
   refine (sn_con_diff B m _ ca cc (hC.alloc _) (hoC.alloc _) hc hm (hB' _) (by omega) hv kw nm rel names numbers terms lits _ _ _ _ gr cap (rk hR) g2 l2 okn (by simp [rSort, e])).mono ?_
   intro e' w' hp
   have q := done hp
   have e2 : conSt g ⟨kw, nm, names, numbers, terms, rel, lits⟩ (flt (decide ((16 : Int) ≤ m)) 6 kw.line st) = foldSt (varStP g) 0 names (flt (decide ((16 : Int) ≤ m)) 6 kw.line st) := by simp [conSt, e]
   have e3 : conOf g ls ⟨kw, nm, names, numbers, terms, rel, lits⟩ = ⟨3, 0, [], 0, 0, [], 0, 0, names.map (fun t => (thFind g t.s 4).pl), []⟩ := by simp [conOf, e]
   rw [e2, e3]
   exact q
  ·obtain ⟨gr, cap, hR, g1, g2, g3⟩ := iL.2 (s10 e)
   refine (sn_con_or B m _ ca cc (hC.alloc _) (hoC.alloc _) hc hm (hB' _) (by omega) hv kw nm rel names numbers terms lits _ _ _ _ gr cap (rk hR) g2 l4 okL (by simp [rSort, e])).mono ?_
   intro e' w' hp
   have q := done hp
   have e2 : conSt g ⟨kw, nm, names, numbers, terms, rel, lits⟩ (flt (decide ((16 : Int) ≤ m)) 6 kw.line st) = foldSt (litStP g) 0 lits (flt (decide ((16 : Int) ≤ m)) 6 kw.line st) := by simp [conSt, e]
   have e3 : conOf g ls ⟨kw, nm, names, numbers, terms, rel, lits⟩ = ⟨4, 0, [], 0, 0, [], 0, 0, [], lits.map (fun t => ((thFind g t.name.s 4).pl, if srt t.first = 22 then 0 else 1))⟩ := by simp [conOf, e]
   rw [e2, e3]
   exact q
end
section
set_option maxHeartbeats 4000000
set_option maxRecDepth 100000
open Go.RowKit
variable {w : World}
def CheckRel (l : List GRow) (gr cap : Nat) (RES : QSt) (w : World) (m : Nat) (vi : Value) (wr : World) : Prop :=
 ∃ (i : Nat) (q : QSt), i ≤ l.length ∧ m = l.length - i ∧ vi = .int .i64 i ∧ q.st.1 = 0 ∧ Hid (runQ ((l.drop i).map (·.s)) q = RES) ∧ Sen wr (w.heap.size + 1) w.heap.size (w.heap.size + 2) i q ∧
  RowIn wr (.slice (some ⟨gr, 0, none⟩) l.length cap) gr cap GRow.cells l ∧ (∀ x ∈ l, GIn wr (w.heap.size + 2) (w.heap.size + 1) w.heap.size x) ∧ w.grownBy wr none
theorem cell_len (x : GRow) : x.cells.length = 16 := rfl
theorem Fr.grown {B bc bm : Nat} {a b c : World} (h : a.grownBy b none) (hc : a.heap.size ≤ bc) (hm : a.heap.size ≤ bm) (hB : a.heap.size ≤ B) (k : Fr B bc bm b c) : a.grownBy c none :=
 ⟨k.os.trans h.os, k.tape.trans h.tape, k.output.trans h.output, Nat.le_trans h.size k.size, fun i hi hn => (k.block i (by omega) (by omega) (by omega)).trans (h.block i hi hn)⟩
theorem Sen.alloc {bc bm B k : Nat} {q : QSt} (h : Sen w bc bm B k q) (o : Obj) : Sen (w.alloc o) bc bm B k q := by
 obtain ⟨n, g, vV, vC, cs, hC, eg, hv, hoV, hoC, hD, b1, b2, b3, hc, hm, hB⟩ := h
 exact ⟨n, g, vV, vC, cs, hC.alloc o, eg, hv, hoV.alloc o, hoC.alloc o, hD.alloc o, b1, b2, b3, hc, hm, by simp; omega⟩
theorem Sen.size {bc bm B k : Nat} {q : QSt} (h : Sen w bc bm B k q) : B ≤ w.heap.size := by
 obtain ⟨n, g, vV, vC, cs, hC, eg, hv, hoV, hoC, hD, b1, b2, b3, hc, hm, hB⟩ := h
 exact hB
theorem Sen.cells {bc bm B k : Nat} {q : QSt} (h : Sen w bc bm B k q) : w.cell? ⟨bc, 3, none⟩ = some (.int .i64 q.st.1) ∧ w.cell? ⟨bc, 4, none⟩ = some (.int .i64 q.st.2) := by
 obtain ⟨n, g, vV, vC, cs, hC, eg, hv, hoV, hoC, hD, b1, b2, b3, hc, hm, hB⟩ := h
 exact ⟨hC.c3, hC.c4⟩
theorem sen_start (w : World) : Sen ((w.alloc (.map #[] 0)).alloc (.cells #[.map (some w.heap.size), .slice none 0 0, .slice none 0 0, .int .i64 0, .int .i64 0] 79)) (w.heap.size + 1) w.heap.size (w.heap.size + 2) 0 q0 := by
 have hB := heap_alloc2_new w (.map #[] 0) (.cells #[.map (some w.heap.size), .slice none 0 0, .slice none 0 0, .int .i64 0, .int .i64 0] 79)
 refine ⟨0, fun _ => noTh, .slice none 0 0, .slice none 0 0, [], ⟨cell_of hB 0 _ rfl, cell_of hB 1 _ rfl, cell_of hB 2 _ rfl, cell_of hB 3 _ rfl, cell_of hB 4 _ rfl, frozen_of hB 1, frozen_of hB 2, frozen_of hB 3, frozen_of hB 4, by simp, ?_, by simp; omega, by omega⟩, rfl, fun s => ⟨_, _, _, rfl⟩, World.ownsRow_nil _ _ _ _, World.ownsRow_nil _ _ _ _, ⟨rfl, (fun x hx => (by cases hx)), fun s => World.ownsRow_nil _ _ _ _⟩, Nat.le_refl _, Nat.le_refl _, Nat.le_refl _, by omega, by omega, by simp⟩
 exact ⟨.map [], (World.ownsMap_made w Tryz.prog 9 heldV).alloc _, ⟨[], rfl⟩, fun s => rfl⟩
theorem rin_start {α : Type} {v : Value} {cell : α → List Value} {l : List α} {o o' : Obj} (h : RIn w w.heap.size w.heap.size w.heap.size v cell l) : RIn ((w.alloc o).alloc o') (w.heap.size + 2) (w.heap.size + 1) w.heap.size v cell l :=
 ⟨h.1, fun hl => by
  obtain ⟨gr, cap, hr, h1, h2, h3⟩ := h.2 hl
  exact ⟨gr, cap, (hr.kept (World.grownBy_alloc w o none) (by simp)).kept (World.grownBy_alloc _ o' none) (by simp), by omega, by omega, by omega⟩⟩
theorem gin_start {x : GRow} {o o' : Obj} (h : GIn w w.heap.size w.heap.size w.heap.size x) : GIn ((w.alloc o).alloc o') (w.heap.size + 2) (w.heap.size + 1) w.heap.size x := ⟨rin_start h.n, rin_start h.u, rin_start h.t, rin_start h.l⟩
theorem sn_Check (l : List GRow) (v1 : Value) (gr cap : Nat) (hR : RowIn w v1 gr cap GRow.cells l) (hl : l.length ≤ 2500) (hin : ∀ x ∈ l, GIn w w.heap.size w.heap.size w.heap.size x) (hok : ∀ x ∈ l, StOk x.s) : Calls Tryz.prog 16 #[v1] w fun e w' =>
   (((runQ (l.map (·.s)) q0).st.1 ≠ 0 ∧ e = .returned (.tuple #[.pointer none, .int .i64 (runQ (l.map (·.s)) q0).st.1, .int .i64 (runQ (l.map (·.s)) q0).st.2])) ∨
   ((runQ (l.map (·.s)) q0).st.1 = 0 ∧ e = .returned (.tuple #[.pointer (some ⟨w.heap.size + 1, 1, none⟩), .int .i64 0, .int .i64 0]) ∧ Sen w' (w.heap.size + 1) w.heap.size (w.heap.size + 2) l.length (runQ (l.map (·.s)) q0))) ∧ w.grownBy w' none := by
 have HR : Hid (RowIn w v1 gr cap GRow.cells l) := hR
 have HIN : Hid (∀ x ∈ l, GIn w w.heap.size w.heap.size w.heap.size x) := hin
 have HOK : Hid (∀ x ∈ l, StOk x.s) := hok
 have hgl := hR.lt
 obtain ⟨RES, hRES⟩ : ∃ R, R = runQ (l.map (·.s)) q0 := ⟨_, rfl⟩
 have HS : Hid (runQ ((l.drop 0).map (·.s)) q0 = RES) := by rw [Hid, hRES]; rfl
 rw [← hRES]
 obtain rfl := hR.is
 clear hR hin hok hRES
 have hmk : (Instr.makeMap 73 none).run Tryz.prog w = .ok (.map (some w.heap.size)) (w.alloc (.map #[] 0)) := rfl
 go_enter Tryz.func16, Tryz.ntmps16
 go_wp2
 go_loopg [12] l.length (fun m vi wr => CheckRel l gr cap RES w m vi wr)
 case atStart => exact ⟨0, q0, Nat.zero_le _, rfl, rfl, rfl, HS, sen_start w, (HR.out.kept (World.grownBy_alloc w _ none) (by simp)).kept (World.grownBy_alloc _ _ none) (by simp), fun x hx => gin_start (HIN.out x hx), (World.grownBy_alloc _ _ _).trans (World.grownBy_alloc _ _ _)⟩
 case round =>
  obtain ⟨i, q, hi, rfl, rfl, hq0, hlex, hS, hR, hin, hgr⟩ := hrel
  by_cases hlt : i < l.length
  ·obtain ⟨x, ha⟩ : ∃ a, l[i]? = some a := ⟨l[i], by simp [hlt]⟩
   have hmem := List.mem_of_getElem? ha
   have hx := hin x hmem
   obtain ⟨na, nm, nc, en⟩ := hx.n.1
   obtain ⟨ua, um, uc, eu⟩ := hx.u.1
   obtain ⟨ta, tm, tc, et⟩ := hx.t.1
   obtain ⟨la, lm, lc, el⟩ := hx.l.1
   have c0 : wr.cell? ⟨gr, i * 16, none⟩ = some (.int .i64 (srt x.s.kw)) := hR.at (sz := 16) cell_len ha 0 _ rfl
   have c1 : wr.cell? ⟨gr, i * 16 + 1, none⟩ = some (.string x.s.kw.s) := hR.at (sz := 16) cell_len ha 1 _ rfl
   have c2 : wr.cell? ⟨gr, i * 16 + 2, none⟩ = some (.int .i64 (tval x.s.kw)) := hR.at (sz := 16) cell_len ha 2 _ rfl
   have c3 : wr.cell? ⟨gr, i * 16 + 3, none⟩ = some (.int .i64 x.s.kw.line) := hR.at (sz := 16) cell_len ha 3 _ rfl
   have c4 : wr.cell? ⟨gr, i * 16 + 4, none⟩ = some (.int .i64 (srt x.s.name)) := hR.at (sz := 16) cell_len ha 4 _ rfl
   have c5 : wr.cell? ⟨gr, i * 16 + 5, none⟩ = some (.string x.s.name.s) := hR.at (sz := 16) cell_len ha 5 _ rfl
   have c6 : wr.cell? ⟨gr, i * 16 + 6, none⟩ = some (.int .i64 (tval x.s.name)) := hR.at (sz := 16) cell_len ha 6 _ rfl
   have c7 : wr.cell? ⟨gr, i * 16 + 7, none⟩ = some (.int .i64 x.s.name.line) := hR.at (sz := 16) cell_len ha 7 _ rfl
   have c8 : wr.cell? ⟨gr, i * 16 + 8, none⟩ = some (.slice na nm nc) := by rw [← en]; exact hR.at (sz := 16) cell_len ha 8 _ rfl
   have c9 : wr.cell? ⟨gr, i * 16 + 9, none⟩ = some (.slice ua um uc) := by rw [← eu]; exact hR.at (sz := 16) cell_len ha 9 _ rfl
   have c10 : wr.cell? ⟨gr, i * 16 + 10, none⟩ = some (.slice ta tm tc) := by rw [← et]; exact hR.at (sz := 16) cell_len ha 10 _ rfl
   have c11 : wr.cell? ⟨gr, i * 16 + 11, none⟩ = some (.int .i64 (srt x.s.rel)) := hR.at (sz := 16) cell_len ha 11 _ rfl
   have c12 : wr.cell? ⟨gr, i * 16 + 12, none⟩ = some (.string x.s.rel.s) := hR.at (sz := 16) cell_len ha 12 _ rfl
   have c13 : wr.cell? ⟨gr, i * 16 + 13, none⟩ = some (.int .i64 (tval x.s.rel)) := hR.at (sz := 16) cell_len ha 13 _ rfl
   have c14 : wr.cell? ⟨gr, i * 16 + 14, none⟩ = some (.int .i64 x.s.rel.line) := hR.at (sz := 16) cell_len ha 14 _ rfl
   have c15 : wr.cell? ⟨gr, i * 16 + 15, none⟩ = some (.slice la lm lc) := by rw [← el]; exact hR.at (sz := 16) cell_len ha 15 _ rfl
   have hBw : w.heap.size + 2 ≤ wr.heap.size := hS.size
   have K := Kept.mk (fun o => sn_one (hS.alloc o) (by omega) x (hx.fr ((Fr.refl _ _ _ wr).alloc hBw o)) (HOK.out x hmem))
   rw [en, eu, et, el] at K
   have hlt3 : (i : Int) < l.length := by omega
   have h03 : (0 : Int) ≤ i := by omega
   have hstep : Hid (runQ ((l.drop i).map (·.s)) q = if (qStep x.s q).st.1 = 0 then runQ ((l.drop (i + 1)).map (·.s)) (qStep x.s q) else qStep x.s q) := by
    have hx' : l[i] = x := (List.getElem?_eq_some_iff.1 ha).2
    rw [Hid, List.drop_eq_getElem_cons hlt, hx']; rfl
   have hnext : Hid (∀ (w1 : World) (o : Obj), Fr (w.heap.size + 2) (w.heap.size + 1) w.heap.size (wr.alloc o) w1 → RowIn w1 (.slice (some ⟨gr, 0, none⟩) l.length cap) gr cap GRow.cells l ∧ (∀ x ∈ l, GIn w1 (w.heap.size + 2) (w.heap.size + 1) w.heap.size x) ∧ w.grownBy w1 none) := fun w1 o hf => by
    have f2 := ((Fr.refl (w.heap.size + 2) (w.heap.size + 1) w.heap.size wr).alloc hBw o).trans hf
    refine ⟨⟨hR.is, fun j u hu => (World.cell?_of_block (a := ⟨gr, j, none⟩) (f2.block gr (by omega) (by omega) (by omega))).trans (hR.row j u hu), Nat.lt_of_lt_of_le hR.lt f2.size⟩, fun x hx => (hin x hx).fr f2, f2.grown hgr (by omega) (by omega) (by omega)⟩
   generalize qStep x.s q = q' at *
   unfold gsCells at K
   by_cases hz : q'.st.1 = 0
   ·have hl : Hid (runQ ((l.drop (i + 1)).map (·.s)) q' = RES) := by rw [Hid, ← hlex.out, hstep.out, if_pos hz]
    go_wp2_with (go_at_call 26; refine (K.get _).mono ?_; rintro e w1 ⟨rfl, hS1, hF1⟩; obtain ⟨k3, k4⟩ := hS1.cells; rw [hz] at k3)
    go_roundg (l.length - (i + 1))
    case measure => omega
    case rel =>
     obtain ⟨r1, r2, r3⟩ := hnext.out w1 _ hF1
     exact ⟨i + 1, q', by omega, rfl, by go_num, hz, hl, hS1, r1, r2, r3⟩
   ·have hl : Hid (RES = q') := by rw [Hid, ← hlex.out, hstep.out, if_neg hz]
    have hzb : (q'.st.1 != 0) = true := by simpa using hz
    go_wp2_with (go_at_call 26; refine (K.get _).mono ?_; rintro e w1 ⟨rfl, hS1, hF1⟩; obtain ⟨k3, k4⟩ := hS1.cells)
    go_quiet (fail)
    go_wp2
    go_ret3
    rw [hl.out]
    obtain ⟨r1, r2, r3⟩ := hnext.out w1 _ hF1
    exact ⟨.inl ⟨hz, rfl⟩, r3.trans (grown_drewN' _ _ _)⟩
  ·obtain rfl : i = l.length := by omega
   have hl2 : Hid (RES = q) := by rw [Hid, ← hlex.out, List.drop_of_length_le (Nat.le_refl _)]; rfl
   clear hlex
   go_wp2
   go_ret3
   rw [hl2.out]
   exact ⟨.inr ⟨hq0, rfl, hS⟩, hgr⟩
end
section
set_option maxHeartbeats 4000000
set_option maxRecDepth 100000
open Go.RowKit
def plainF (toks : List PTok) : Nat → Nat → Int → List UInt8 → List UInt8
 | 0, _, _, out => out
 | f + 1, i, bf, out =>
  if srt (tkN toks i) = 1 then out
  else if needless (tkN toks i) (tkN toks (i + 1)) then plainF toks f (i + 2) bf out
  else plainF toks f (i + 1) (srt (tkN toks i)) (out ++ (if jBehind bf || jAhead (srt (tkN toks i)) then [] else [32]) ++ spell (tkN toks i) ++ (if srt (tkN toks i) = 11 then [10] else []))
def plainT (toks : List PTok) : List UInt8 := plainF toks toks.length 0 11 []
theorem plainF_end {toks : List PTok} {f i : Nat} {bf : Int} {out : List UInt8} (h : srt (tkN toks i) = 1) : plainF toks f i bf out = out := by
 cases f with
 | zero => rfl
 | succ f => simp only [plainF]; rw [if_pos h]
theorem plainF_skip {toks : List PTok} {f i : Nat} {bf : Int} {out : List UInt8} (h : srt (tkN toks i) ≠ 1) (h2 : needless (tkN toks i) (tkN toks (i + 1)) = true) : plainF toks (f + 1) i bf out = plainF toks f (i + 2) bf out := by
 simp only [plainF]; rw [if_neg h, if_pos h2]
theorem plainF_step {toks : List PTok} {f i : Nat} {bf : Int} {out : List UInt8} (h : srt (tkN toks i) ≠ 1) (h2 : needless (tkN toks i) (tkN toks (i + 1)) = false) : plainF toks (f + 1) i bf out = plainF toks f (i + 1) (srt (tkN toks i)) (out ++ (if jBehind bf || jAhead (srt (tkN toks i)) then [] else [32]) ++ spell (tkN toks i) ++ (if srt (tkN toks i) = 11 then [10] else [])) := by
 simp only [plainF]; rw [if_neg h, h2]; simp
theorem KeptBut.low {w wr w' : World} (h : w.grownBy wr none) (k : KeptBut w.heap.size w.heap.size wr w') : w.grownBy w' none :=
 ⟨k.os.trans h.os, k.tape.trans h.tape, k.output.trans h.output, Nat.le_trans h.size k.size, fun i hi hn => (k.block i (Nat.lt_of_lt_of_le hi h.size) (by omega) (.inl hi)).trans (h.block i hi hn)⟩
theorem KeptBut.box {B b c : Nat} {w w' : World} {cs : Array Value} (k : KeptBut B b w w') (h : w.heap[c]? = some (.cells cs 62 (0, 0))) (hc : c ≠ b) : w'.heap[c]? = some (.cells cs 62 (0, 0)) :=
 (k.block c (Array.getElem?_eq_some_iff.1 h).1 hc (.inr fun cs' fr q => by rw [h] at q; cases q)).trans h
theorem isB_grown {B b : Nat} {bs : List Value} {w w' : World} {r : Option Nat} (h : Lib.IsBuilder 83 5 B b bs w) (hg : w.grownBy w' none) : Lib.IsBuilder 83 5 B b bs w' := by
 have key : ∀ p, Lib.BuilderAt 83 5 B b p bs w → Lib.BuilderAt 83 5 B b p bs w' := fun p hx => by
  obtain ⟨hB, v, hbk, hown, hne⟩ := hx
  exact ⟨hB, v, past0 hbk (Array.getElem?_eq_some_iff.1 hbk).1 hg (by simp), hown.kept hg (own_none _), hne⟩
 rcases h with h | h
 ·exact .inl (key _ h)
 ·exact .inr (key _ h)
def PlRel (toks : List PTok) (RES : List UInt8) (w : World) (vb vi : Value) (wr : World) : Prop :=
 ∃ (i f : Nat) (bf : Int) (out : List UInt8), i < toks.length ∧ vb = .int .i64 bf ∧ vi = .int .i64 i ∧ toks.length ≤ i + f ∧ Hid (plainF toks f i bf out = RES) ∧ out.length ≤ 3000 * i ∧
  Lib.IsBuilder 83 5 w.heap.size w.heap.size (Lib.byteCells out) wr ∧ w.grownBy wr none
theorem pl_Plain {w : World} {gt cap : Nat} {toks : List PTok} (hE : EndOk toks) (hok : ∀ i, i < toks.length → TOk (tkN toks i)) (hcap : toks.length ≤ cap) (hrow : ∀ j u, (tokCells toks)[j]? = some u → w.cell? ⟨gt, j, none⟩ = some u) (hlg : gt < w.heap.size) (ht : PowTab w) : Calls Tryz.prog 17 #[.slice (some ⟨gt, 0, none⟩) toks.length cap] w fun e w' => e = .returned (.string ⟨(plainT toks).toArray⟩) ∧ w.grownBy w' none := by
 have hlen := hE.len
 have hpos := hE.pos
 obtain ⟨RES, hR⟩ : ∃ R, R = plainT toks := ⟨_, rfl⟩
 have HS : Hid (plainF toks toks.length 0 11 [] = RES) := by rw [Hid, hR]; rfl
 have HR : Hid (∀ j u, (tokCells toks)[j]? = some u → w.cell? ⟨gt, j, none⟩ = some u) := hrow
 have HK : Hid (∀ i, i < toks.length → TOk (tkN toks i)) := hok
 have HT : Hid (PowTab w) := ht
 have HL : Hid (srt (tkN toks (toks.length - 1)) = 1) := hE.last
 rw [← hR]
 clear hrow hR hok ht
 go_enter Tryz.func17, Tryz.ntmps17
 go_wp2
 go_loopw [4, 5] (fun vb vi wr => PlRel toks RES w vb vi wr) (fun _ vi _ => toks.length - (intOf vi).toNat)
 case atStart => exact ⟨0, toks.length, 11, [], hpos, rfl, rfl, by omega, HS, by simp, .inl ⟨Nat.le_refl _, .slice none 0 0, heap_alloc_new w _, World.ownsRow_nil _ _ _ _, by simp [Value.ownBlock]⟩, World.grownBy_alloc _ _ _⟩
 case round =>
  obtain ⟨i, f, bf, out, hi, rfl, rfl, hf, hlex, hout, hB, hgr⟩ := hrel
  obtain ⟨T, hT⟩ : ∃ T, T = tkN toks i := ⟨_, rfl⟩
  obtain ⟨q0, q1, q2, q3⟩ := tokCells_get toks i _ (tkN_get hi)
  rw [← hT] at q0 q1 q2 q3
  have cc : ∀ j u, (tokCells toks)[j]? = some u → wr.cell? ⟨gt, j, none⟩ = some u := fun j u hu => hgr.cell (HR.out j u hu) (by simp)
  have c0 := cc _ _ q0
  have c1 := cc _ _ q1
  have c2 := cc _ _ q2
  have c3 := cc _ _ q3
  have hlt3 : (i : Int) < toks.length := by omega
  have h03 : (0 : Int) ≤ i := by omega
  clear q0 q1 q2 q3
  by_cases h1 : srt T = 1
  ·have e1 : (srt T != 1) = false := by simpa using h1
   have hl : Hid (RES = out) := by rw [Hid, ← hlex.out]; exact plainF_end (by rw [← hT]; exact h1)
   have K := Kept.mk (Tryz.Builder_String_any w.heap.size w.heap.size out wr hB hgr.size)
   clear hlex h1 cc hT
   go_wp2_with (go_at_call 33; refine K.get.mono ?_; rintro e w1 ⟨rfl, hb1⟩)
   go_ret
   rw [hl.out]
   exact ⟨rfl, hb1.os.trans hgr.os, hb1.tape.trans hgr.tape, hb1.output.trans hgr.output, Nat.le_trans hgr.size hb1.size, fun k hk hn => (hb1.block k hk).trans (hgr.block k hk hn)⟩
  ·have e1 : (srt T != 1) = true := by simpa using h1
   have hi2 : i + 1 < toks.length := by
    rcases Nat.lt_or_ge (i + 1) toks.length with q | q
    ·exact q
    ·have e : i = toks.length - 1 := by omega
     rw [e] at hT; rw [hT] at h1; exact absurd HL.out h1
   obtain ⟨U, hU⟩ : ∃ U, U = tkN toks (i + 1) := ⟨_, rfl⟩
   have d0 : wr.cell? ⟨gt, i * 4 + 4, none⟩ = some (.int .i64 (srt U)) := by
    have := cc _ _ (tokCells_get toks (i + 1) _ (tkN_get hi2)).1
    rw [← hU, show (i + 1) * 4 = i * 4 + 4 by omega] at this; exact this
   have K1 := Kept.mk (fun len cp (hl : 2 ≤ len) => pl_needless T U gt (i * 4) len cp hl wr c0 c2 d0)
   obtain ⟨f, rfl⟩ : ∃ g, f = g + 1 := ⟨f - 1, by omega⟩
   have hci : ¬ cap = i := by omega
   by_cases hnd : needless T U = true
   ·have hU1 : srt U ≠ 1 := by
     intro q; unfold needless at hnd; rw [q] at hnd; simp at hnd
    have hi3 : i + 2 < toks.length := by
     rcases Nat.lt_or_ge (i + 2) toks.length with q | q
     ·exact q
     ·have e : i + 1 = toks.length - 1 := by omega
      rw [e] at hU; rw [hU] at hU1; exact absurd HL.out hU1
    have hl : Hid (plainF toks f (i + 2) bf out = RES) := by rw [Hid, ← hlex.out]; exact (plainF_skip (by rw [← hT]; exact h1) (by rw [← hT, ← hU]; exact hnd)).symm
    rw [hnd] at K1
    clear cc hT hU h1 hnd hU1 hlex
    go_wp2_with (go_at_call 27; refine (K1.get _ _ (by omega)).mono ?_; rintro e w' ⟨rfl, hww⟩; subst w')
    go_roundw
    case rel => exact ⟨i + 2, f, bf, out, hi3, rfl, by go_num, by omega, hl, by omega, hB, hgr⟩
    case measure => simp [intOf]; omega
   ·have hnd' : needless T U = false := by simpa using hnd
    rw [hnd'] at K1
    have hl := plainF_step (f := f) (bf := bf) (out := out) (by rw [← hT]; exact h1) (by rw [← hT, ← hU]; exact hnd')
    rw [hlex.out, ← hT] at hl
    have hTO := HK.out i hi
    rw [← hT] at hTO
    have HSL : Hid ((spell T).length ≤ 2000) := hTO.lit
    obtain ⟨SP, hSP⟩ : ∃ s : ByteArray, s = ⟨(spell T).toArray⟩ := ⟨_, rfl⟩
    have HSP : Hid (∀ W, PowTab W → Calls Tryz.prog 32 #[.agg #[.int .i64 (srt T), .string T.s, .int .i64 (tval T), .int .i64 T.line]] W fun e w' => e = .returned (.string SP) ∧ W.grownBy w' none) := fun W hW => by rw [hSP]; exact pl_spell T hTO W hW
    have HSC : Hid (Lib.strCells SP = Lib.byteCells (spell T)) := by rw [hSP]; simp [Hid, Lib.strCells, Lib.byteCells]
    have hsz : SP.size ≤ 2000 := by have := HSL.out; rw [hSP]; show (spell T).toArray.size ≤ 2000; simpa using this
    have hbl : w.heap.size < wr.heap.size := by
     rcases hB with q | q
     ·exact q.lt
     ·exact q.lt
    have hcb : wr.heap.size ≠ w.heap.size := by omega
    have hB0 := isB_grown (r := none) hB (World.grownBy_alloc wr (.cells #[.int .i64 (srt T), .string T.s, .int .i64 (tval T), .int .i64 T.line] 62) none)
    have hg0 := hgr.trans (World.grownBy_alloc wr (.cells #[.int .i64 (srt T), .string T.s, .int .i64 (tval T), .int .i64 T.line] 62) none)
    have hx0 := heap_alloc_new wr (.cells #[.int .i64 (srt T), .string T.s, .int .i64 (tval T), .int .i64 T.line] 62)
    have x0_0 := cell_of hx0 0 _ rfl
    clear cc hT hU h1 hnd hnd' hlex hTO hSP hB
    by_cases hjb : jBehind bf = true
    ·have HJB : Hid (jBehind bf = true) := hjb
     clear hjb
     by_cases h11 : srt T = 11
     ·have e11 : (srt T == 11) = true := by simpa using h11
      have hl : Hid (plainF toks f (i + 1) (srt T) (out ++ [] ++ spell T ++ [10]) = RES) := by rw [Hid, hl]; simp only [HJB.out]; simp [h11]
      clear h11
      go_wp2_with (first | (go_at_call 30; refine (bl_byte w.heap.size w.heap.size _ 10 _ hB2 (by simp [Lib.byteCells, Lib.strCells_length]; omega) hg2.size).mono ?_; rintro e w3 ⟨rfl, hB3, hk3⟩; have hg3 := hk3.low hg2; have hx3 := hk3.box hx2 hcb; have x0_3 := cell_of hx3 0 _ rfl) | (go_at_call 31; refine (bl_str w.heap.size w.heap.size _ SP _ hB1 (by simp [Lib.byteCells]; omega) (by omega) hg1.size).mono ?_; rintro e w2 ⟨rfl, hB2, hk2⟩; have hg2 := hk2.low hg1; have hx2 := hk2.box hx1 hcb; have x0_2 := cell_of hx2 0 _ rfl) | (go_at_call 32; refine (HSP.out _ (tab_kept HT.out (fun k hk => hg0.block k hk (by simp)))).mono ?_; rintro e w1 ⟨rfl, hq1⟩; have hg1 := hg0.trans hq1; have hx1 := past0 hx0 (Array.getElem?_eq_some_iff.1 hx0).1 hq1 (by simp); have hB1 := isB_grown (r := none) hB0 hq1) | (go_at_call 28; refine (pl_behind _ _).mono ?_; rw [HJB.out]; rintro e w' ⟨rfl, hww⟩; subst w') | (go_at_call 27; refine (K1.get _ _ (by omega)).mono ?_; rintro e w' ⟨rfl, hww⟩; subst w'))
      go_roundw
      case rel =>
       refine ⟨i + 1, f, srt T, (out ++ [] ++ spell T ++ [10]), hi2, rfl, by go_num, by omega, hl, ?_, ?_, hg3⟩
       ·have := HSL.out; simp; omega
       ·have e := hB3
        have es : Lib.strCells SP = Lib.byteCells (spell T) := HSC.out
        rw [es] at e
        simpa [Lib.byteCells] using e
      case measure => simp [intOf]; omega
     ·have e11 : (srt T == 11) = false := by simpa using h11
      have hl : Hid (plainF toks f (i + 1) (srt T) (out ++ [] ++ spell T ++ []) = RES) := by rw [Hid, hl]; simp only [HJB.out]; simp [h11]
      clear h11
      go_wp2_with (first | (go_at_call 31; refine (bl_str w.heap.size w.heap.size _ SP _ hB1 (by simp [Lib.byteCells]; omega) (by omega) hg1.size).mono ?_; rintro e w2 ⟨rfl, hB2, hk2⟩; have hg2 := hk2.low hg1; have hx2 := hk2.box hx1 hcb; have x0_2 := cell_of hx2 0 _ rfl) | (go_at_call 32; refine (HSP.out _ (tab_kept HT.out (fun k hk => hg0.block k hk (by simp)))).mono ?_; rintro e w1 ⟨rfl, hq1⟩; have hg1 := hg0.trans hq1; have hx1 := past0 hx0 (Array.getElem?_eq_some_iff.1 hx0).1 hq1 (by simp); have hB1 := isB_grown (r := none) hB0 hq1) | (go_at_call 28; refine (pl_behind _ _).mono ?_; rw [HJB.out]; rintro e w' ⟨rfl, hww⟩; subst w') | (go_at_call 27; refine (K1.get _ _ (by omega)).mono ?_; rintro e w' ⟨rfl, hww⟩; subst w'))
      go_roundw
      case rel =>
       refine ⟨i + 1, f, srt T, (out ++ [] ++ spell T ++ []), hi2, rfl, by go_num, by omega, hl, ?_, ?_, hg2⟩
       ·have := HSL.out; simp; omega
       ·have e := hB2
        have es : Lib.strCells SP = Lib.byteCells (spell T) := HSC.out
        rw [es] at e
        simpa [Lib.byteCells] using e
      case measure => simp [intOf]; omega
    ·have HJB : Hid (jBehind bf = false) := by rw [Hid]; simpa using hjb
     clear hjb
     by_cases hja : jAhead (srt T) = true
     ·have HJA : Hid (jAhead (srt T) = true) := hja
      clear hja
      by_cases h11 : srt T = 11
      ·have e11 : (srt T == 11) = true := by simpa using h11
       have hl : Hid (plainF toks f (i + 1) (srt T) (out ++ [] ++ spell T ++ [10]) = RES) := by rw [Hid, hl]; simp only [HJB.out, HJA.out]; simp [h11]
       clear h11
       go_wp2_with (first | (go_at_call 30; refine (bl_byte w.heap.size w.heap.size _ 10 _ hB2 (by simp [Lib.byteCells, Lib.strCells_length]; omega) hg2.size).mono ?_; rintro e w3 ⟨rfl, hB3, hk3⟩; have hg3 := hk3.low hg2; have hx3 := hk3.box hx2 hcb; have x0_3 := cell_of hx3 0 _ rfl) | (go_at_call 31; refine (bl_str w.heap.size w.heap.size _ SP _ hB1 (by simp [Lib.byteCells]; omega) (by omega) hg1.size).mono ?_; rintro e w2 ⟨rfl, hB2, hk2⟩; have hg2 := hk2.low hg1; have hx2 := hk2.box hx1 hcb; have x0_2 := cell_of hx2 0 _ rfl) | (go_at_call 32; refine (HSP.out _ (tab_kept HT.out (fun k hk => hg0.block k hk (by simp)))).mono ?_; rintro e w1 ⟨rfl, hq1⟩; have hg1 := hg0.trans hq1; have hx1 := past0 hx0 (Array.getElem?_eq_some_iff.1 hx0).1 hq1 (by simp); have hB1 := isB_grown (r := none) hB0 hq1) | (go_at_call 29; refine (pl_ahead _ _).mono ?_; rw [HJA.out]; rintro e w' ⟨rfl, hww⟩; subst w') | (go_at_call 28; refine (pl_behind _ _).mono ?_; rw [HJB.out]; rintro e w' ⟨rfl, hww⟩; subst w') | (go_at_call 27; refine (K1.get _ _ (by omega)).mono ?_; rintro e w' ⟨rfl, hww⟩; subst w'))
       go_roundw
       case rel =>
        refine ⟨i + 1, f, srt T, (out ++ [] ++ spell T ++ [10]), hi2, rfl, by go_num, by omega, hl, ?_, ?_, hg3⟩
        ·have := HSL.out; simp; omega
        ·have e := hB3
         have es : Lib.strCells SP = Lib.byteCells (spell T) := HSC.out
         rw [es] at e
         simpa [Lib.byteCells] using e
       case measure => simp [intOf]; omega
      ·have e11 : (srt T == 11) = false := by simpa using h11
       have hl : Hid (plainF toks f (i + 1) (srt T) (out ++ [] ++ spell T ++ []) = RES) := by rw [Hid, hl]; simp only [HJB.out, HJA.out]; simp [h11]
       clear h11
       go_wp2_with (first | (go_at_call 31; refine (bl_str w.heap.size w.heap.size _ SP _ hB1 (by simp [Lib.byteCells]; omega) (by omega) hg1.size).mono ?_; rintro e w2 ⟨rfl, hB2, hk2⟩; have hg2 := hk2.low hg1; have hx2 := hk2.box hx1 hcb; have x0_2 := cell_of hx2 0 _ rfl) | (go_at_call 32; refine (HSP.out _ (tab_kept HT.out (fun k hk => hg0.block k hk (by simp)))).mono ?_; rintro e w1 ⟨rfl, hq1⟩; have hg1 := hg0.trans hq1; have hx1 := past0 hx0 (Array.getElem?_eq_some_iff.1 hx0).1 hq1 (by simp); have hB1 := isB_grown (r := none) hB0 hq1) | (go_at_call 29; refine (pl_ahead _ _).mono ?_; rw [HJA.out]; rintro e w' ⟨rfl, hww⟩; subst w') | (go_at_call 28; refine (pl_behind _ _).mono ?_; rw [HJB.out]; rintro e w' ⟨rfl, hww⟩; subst w') | (go_at_call 27; refine (K1.get _ _ (by omega)).mono ?_; rintro e w' ⟨rfl, hww⟩; subst w'))
       go_roundw
       case rel =>
        refine ⟨i + 1, f, srt T, (out ++ [] ++ spell T ++ []), hi2, rfl, by go_num, by omega, hl, ?_, ?_, hg2⟩
        ·have := HSL.out; simp; omega
        ·have e := hB2
         have es : Lib.strCells SP = Lib.byteCells (spell T) := HSC.out
         rw [es] at e
         simpa [Lib.byteCells] using e
       case measure => simp [intOf]; omega
     ·have HJA : Hid (jAhead (srt T) = false) := by rw [Hid]; simpa using hja
      clear hja
      by_cases h11 : srt T = 11
      ·have e11 : (srt T == 11) = true := by simpa using h11
       have hl : Hid (plainF toks f (i + 1) (srt T) (out ++ [32] ++ spell T ++ [10]) = RES) := by rw [Hid, hl]; simp only [HJB.out, HJA.out]; simp [h11]
       clear h11
       go_wp2_with (first | (go_at_call 30; refine (bl_byte w.heap.size w.heap.size _ 10 _ hB3 (by simp [Lib.byteCells, Lib.strCells_length]; omega) hg3.size).mono ?_; rintro e w4 ⟨rfl, hB4, hk4⟩; have hg4 := hk4.low hg3; have hx4 := hk4.box hx3 hcb; have x0_4 := cell_of hx4 0 _ rfl) | (go_at_call 31; refine (bl_str w.heap.size w.heap.size _ SP _ hB2 (by simp [Lib.byteCells]; omega) (by omega) hg2.size).mono ?_; rintro e w3 ⟨rfl, hB3, hk3⟩; have hg3 := hk3.low hg2; have hx3 := hk3.box hx2 hcb; have x0_3 := cell_of hx3 0 _ rfl) | (go_at_call 32; refine (HSP.out _ (tab_kept HT.out (fun k hk => hg1.block k hk (by simp)))).mono ?_; rintro e w2 ⟨rfl, hq2⟩; have hg2 := hg1.trans hq2; have hx2 := past0 hx1 (Array.getElem?_eq_some_iff.1 hx1).1 hq2 (by simp); have hB2 := isB_grown (r := none) hB1 hq2) | (go_at_call 30; refine (bl_byte w.heap.size w.heap.size (Lib.byteCells out) 32 _ hB0 (by simp [Lib.byteCells]; omega) hg0.size).mono ?_; rintro e w1 ⟨rfl, hB1, hk1⟩; have hg1 := hk1.low hg0; have hx1 := hk1.box hx0 hcb; have x0_1 := cell_of hx1 0 _ rfl; have x1_1 := cell_of hx1 1 _ rfl; have x2_1 := cell_of hx1 2 _ rfl; have x3_1 := cell_of hx1 3 _ rfl) | (go_at_call 29; refine (pl_ahead _ _).mono ?_; rw [HJA.out]; rintro e w' ⟨rfl, hww⟩; subst w') | (go_at_call 28; refine (pl_behind _ _).mono ?_; rw [HJB.out]; rintro e w' ⟨rfl, hww⟩; subst w') | (go_at_call 27; refine (K1.get _ _ (by omega)).mono ?_; rintro e w' ⟨rfl, hww⟩; subst w'))
       go_roundw
       case rel =>
        refine ⟨i + 1, f, srt T, (out ++ [32] ++ spell T ++ [10]), hi2, rfl, by go_num, by omega, hl, ?_, ?_, hg4⟩
        ·have := HSL.out; simp; omega
        ·have e := hB4
         have es : Lib.strCells SP = Lib.byteCells (spell T) := HSC.out
         rw [es] at e
         simpa [Lib.byteCells] using e
       case measure => simp [intOf]; omega
      ·have e11 : (srt T == 11) = false := by simpa using h11
       have hl : Hid (plainF toks f (i + 1) (srt T) (out ++ [32] ++ spell T ++ []) = RES) := by rw [Hid, hl]; simp only [HJB.out, HJA.out]; simp [h11]
       clear h11
       go_wp2_with (first | (go_at_call 31; refine (bl_str w.heap.size w.heap.size _ SP _ hB2 (by simp [Lib.byteCells]; omega) (by omega) hg2.size).mono ?_; rintro e w3 ⟨rfl, hB3, hk3⟩; have hg3 := hk3.low hg2; have hx3 := hk3.box hx2 hcb; have x0_3 := cell_of hx3 0 _ rfl) | (go_at_call 32; refine (HSP.out _ (tab_kept HT.out (fun k hk => hg1.block k hk (by simp)))).mono ?_; rintro e w2 ⟨rfl, hq2⟩; have hg2 := hg1.trans hq2; have hx2 := past0 hx1 (Array.getElem?_eq_some_iff.1 hx1).1 hq2 (by simp); have hB2 := isB_grown (r := none) hB1 hq2) | (go_at_call 30; refine (bl_byte w.heap.size w.heap.size (Lib.byteCells out) 32 _ hB0 (by simp [Lib.byteCells]; omega) hg0.size).mono ?_; rintro e w1 ⟨rfl, hB1, hk1⟩; have hg1 := hk1.low hg0; have hx1 := hk1.box hx0 hcb; have x0_1 := cell_of hx1 0 _ rfl; have x1_1 := cell_of hx1 1 _ rfl; have x2_1 := cell_of hx1 2 _ rfl; have x3_1 := cell_of hx1 3 _ rfl) | (go_at_call 29; refine (pl_ahead _ _).mono ?_; rw [HJA.out]; rintro e w' ⟨rfl, hww⟩; subst w') | (go_at_call 28; refine (pl_behind _ _).mono ?_; rw [HJB.out]; rintro e w' ⟨rfl, hww⟩; subst w') | (go_at_call 27; refine (K1.get _ _ (by omega)).mono ?_; rintro e w' ⟨rfl, hww⟩; subst w'))
       go_roundw
       case rel =>
        refine ⟨i + 1, f, srt T, (out ++ [32] ++ spell T ++ []), hi2, rfl, by go_num, by omega, hl, ?_, ?_, hg3⟩
        ·have := HSL.out; simp; omega
        ·have e := hB3
         have es : Lib.strCells SP = Lib.byteCells (spell T) := HSC.out
         rw [es] at e
         simpa [Lib.byteCells] using e
       case measure => simp [intOf]; omega
end
section
set_option maxHeartbeats 2000000
set_option maxRecDepth 100000
open Go.RowKit
theorem Sen.grown {w w' : World} {bc bm B k : Nat} {q : QSt} (h : Sen w bc bm B k q) (hg : w.grownBy w' none) : Sen w' bc bm B k q := by
 obtain ⟨n, g, vV, vC, cs, hC, eg, hv, hoV, hoC, hD, b1, b2, b3, hc, hm, hB⟩ := h
 exact ⟨n, g, vV, vC, cs, hC.kept hg (by simp) (by simp), eg, hv, hoV.kept hg (own_none _), hoC.kept hg (own_none _), hD.grown hg, b1, b2, b3, hc, hm, Nat.le_trans hB hg.size⟩
theorem sn_Check_nil (w : World) (a : Option Addr) (c : Nat) : Calls Tryz.prog 16 #[.slice a 0 c] w fun e w' => e = .returned (.tuple #[.pointer (some ⟨w.heap.size + 1, 1, none⟩), .int .i64 0, .int .i64 0]) ∧ Sen w' (w.heap.size + 1) w.heap.size (w.heap.size + 2) 0 q0 ∧ w.grownBy w' none := by
 have hmk : (Instr.makeMap 73 none).run Tryz.prog w = .ok (.map (some w.heap.size)) (w.alloc (.map #[] 0)) := rfl
 go_enter Tryz.func16, Tryz.ntmps16
 go_wp2
 go_loopg [12] 0 (fun n v wr => v = .int .i64 0 ∧ wr = (w.alloc (.map #[] 0)).alloc (.cells #[.map (some w.heap.size), .slice none 0 0, .slice none 0 0, .int .i64 0, .int .i64 0] 79))
 case atStart => exact ⟨rfl, rfl⟩
 case round =>
  obtain ⟨rfl, rfl⟩ := hrel
  go_wp2
  go_ret3
  exact ⟨rfl, sen_start w, (World.grownBy_alloc _ _ _).trans (World.grownBy_alloc _ _ _)⟩
theorem tok_row {w : World} {B : Nat} {v : Value} {toks : List PTok} (h : w.ownsRow B 62 4 v toks.length (tokCells toks)) (hp : 0 < toks.length) : ∃ gt cap, v = .slice (some ⟨gt, 0, none⟩) toks.length cap ∧ toks.length ≤ cap ∧ gt < w.heap.size ∧ ∀ j u, (tokCells toks)[j]? = some u → w.cell? ⟨gt, j, none⟩ = some u := by
 obtain ⟨gr, cap, hr, _⟩ := RowIn.of_own (cell := tokCell) (l := toks) h hp
 rcases h.2 with ⟨_, h0⟩ | ⟨g, cap', cur, hv, _, _, hc, _⟩
 ·omega
 ·have e := hr.is
  rw [hv] at e
  injection e with e1 e2 e3
  exact ⟨gr, cap, hr.is, by omega, hr.lt, hr.row⟩
theorem rin_own {α : Type} {w : World} {B e sz : Nat} {v : Value} {cell : α → List Value} {l : List α} (h : w.ownsRow B e sz v l.length (l.flatMap cell)) : RIn w w.heap.size w.heap.size w.heap.size v cell l :=
 ⟨own_slice h, fun hl => by
  obtain ⟨gr, cap, hr, _⟩ := RowIn.of_own h (by cases l with | nil => exact absurd rfl hl | cons _ _ => simp)
  exact ⟨gr, cap, hr, hr.lt, by have := hr.lt; omega, by have := hr.lt; omega⟩⟩
theorem gin_own {w : World} {B : Nat} {x : GRow} (h : x.own w B) : GIn w w.heap.size w.heap.size w.heap.size x := ⟨rin_own h.n, rin_own h.u, rin_own h.t, rin_own h.l⟩
def MdlIs (w : World) (H b : Nat) (s : ByteArray) : Prop :=
 ∃ bc bm B k, H ≤ bc ∧ H ≤ B ∧ k ≤ 2500 ∧ w.cell? ⟨b, 0, none⟩ = some (.string ⟨(plainT (progToks s)).toArray⟩) ∧ w.cell? ⟨b, 1, none⟩ = some (.pointer (some ⟨bc, 1, none⟩)) ∧ b < w.heap.size ∧ Sen w bc bm B k (runQ (pParse (progToks s)).1 q0)
theorem below_grown {w w' : World} (h : Below w.heap.size w w') : w.grownBy w' none := ⟨h.os, h.tape, h.output, h.size, fun k hk _ => h.block k hk⟩
end
section
open Go.RowKit
theorem rd_ok (s : ByteArray) (w : World) (hs : s.size ≤ 2000) (hl : (lex s).1 = 0) : Calls Tryz.prog 14 #[.string s] w fun e w' => ∃ gt cap, e = .returned (.tuple #[.slice (some ⟨gt, 0, none⟩) (progToks s).length cap, .int .i64 0]) ∧ (progToks s).length ≤ cap ∧ gt < w'.heap.size ∧ (∀ j u, (tokCells (progToks s))[j]? = some u → w'.cell? ⟨gt, j, none⟩ = some u) ∧ w.grownBy w' none := by
 refine (tk_Read s w hs).mono ?_
 rintro e w' ⟨v, rfl, ho, hb⟩
 have h := ho hl
 have hlen : (progToks s).length = (lex s).2.1.length + 1 := by simp [progToks]
 rw [← hlen] at h
 obtain ⟨gt, cap, rfl, h1, h2, h3⟩ := tok_row (toks := progToks s) h (by omega)
 rw [hl]
 exact ⟨gt, cap, rfl, h1, h2, h3, below_grown hb⟩
theorem ck_any (s : ByteArray) (hs : s.size ≤ 2000) (hp : (pParse (progToks s)).2.2 = 0) (w : World) (v : Value) (B : Nat) (acc : List GRow) (ha : acc.map (·.s) = (pParse (progToks s)).1) (ho : w.ownsRow B 70 16 v acc.length (acc.flatMap GRow.cells)) (hx : ∀ x ∈ acc, x.own w B) : Calls Tryz.prog 16 #[v] w fun e w' =>
   (((runQ (pParse (progToks s)).1 q0).st.1 ≠ 0 ∧ e = .returned (.tuple #[.pointer none, .int .i64 (runQ (pParse (progToks s)).1 q0).st.1, .int .i64 (runQ (pParse (progToks s)).1 q0).st.2])) ∨
   ((runQ (pParse (progToks s)).1 q0).st.1 = 0 ∧ ∃ bc bm B' k, (w.heap.size ≤ bc ∧ w.heap.size ≤ B' ∧ k ≤ 2500) ∧ e = .returned (.tuple #[.pointer (some ⟨bc, 1, none⟩), .int .i64 0, .int .i64 0]) ∧ Sen w' bc bm B' k (runQ (pParse (progToks s)).1 q0))) ∧ w.grownBy w' none := by
 obtain ⟨hok, hln⟩ := parse_ok s hs hp
 have hll : acc.length ≤ 2500 := by have := congrArg List.length ha; simp at this; omega
 by_cases h0 : acc.length = 0
 ·obtain rfl : acc = [] := List.length_eq_zero_iff.1 h0
  obtain ⟨a, c, rfl⟩ := own_slice_n ho
  rw [← ha]
  refine (sn_Check_nil w a c).mono ?_
  rintro e w' ⟨rfl, hS, hg⟩
  exact ⟨.inr ⟨rfl, _, _, _, _, ⟨Nat.le_succ _, Nat.le_add_right _ 2, Nat.zero_le _⟩, rfl, hS⟩, hg⟩
 ·obtain ⟨gr, cap, hr, _⟩ := RowIn.of_own (cell := GRow.cells) (l := acc) ho (by omega)
  have q := sn_Check (w := w) acc v gr cap hr hll (fun x hm => gin_own (hx x hm)) (fun x hm => hok x.s (by rw [← ha]; exact List.mem_map_of_mem hm))
  rw [ha] at q
  refine q.mono ?_
  rintro e w' ⟨h | ⟨h1, h2, h3⟩, hg⟩
  ·exact ⟨.inl h, hg⟩
  ·exact ⟨.inr ⟨h1, _, _, _, _, ⟨Nat.le_succ _, Nat.le_add_right _ 2, hll⟩, h2, h3⟩, hg⟩
end
section
set_option maxHeartbeats 4000000
set_option maxRecDepth 100000
open Go.RowKit
theorem pn_ok (s : ByteArray) (w : World) (ht : PowTab w) (hs : s.size ≤ 2000) (hl : (lex s).1 = 0) (hp : (pParse (progToks s)).2.2 = 0) (hq : (runQ (pParse (progToks s)).1 q0).st.1 = 0) : Calls Tryz.prog 12 #[.string s] w fun e w' => ∃ b, e = .returned (.tuple #[.pointer (some ⟨b, 0, none⟩), .int .i64 0, .int .i64 0]) ∧ w.heap.size ≤ b ∧ MdlIs w' w.heap.size b s ∧ w.grownBy w' none := by
 have hs' : (s.size : Int) ≤ 2000 := by omega
 have K := Kept.mk (rd_ok s w hs hl)
 have K2 := Kept.mk (fun {w1 : World} {gt cap : Nat} (hrow : ∀ j u, (tokCells (progToks s))[j]? = some u → w1.cell? ⟨gt, j, none⟩ = some u) (hlg : gt < w1.heap.size) => gr_Parse (w := w1) (gt := gt) (capt := cap) (prog_end s hs) (prog_line s) hrow hlg)
 have K3 := Kept.mk (fun {w2 : World} {v2 : Value} {B : Nat} {acc : List GRow} ha ho hx => ck_any s hs hp w2 v2 B acc ha ho hx)
 rw [hp] at K2
 have HQ : Hid ((runQ (pParse (progToks s)).1 q0).st.1 = 0) := hq
 have K4 := Kept.mk (fun {W : World} {gt cap : Nat} (hcap : (progToks s).length ≤ cap) (hrow : ∀ j u, (tokCells (progToks s))[j]? = some u → W.cell? ⟨gt, j, none⟩ = some u) (hlg : gt < W.heap.size) (hW : PowTab W) => pl_Plain (w := W) (gt := gt) (cap := cap) (toks := progToks s) (prog_end s hs) (fun i _ => tok_ok s hs i) hcap hrow hlg hW)
 have HT : Hid (PowTab w) := ht
 clear hp hl hq ht
 go_enter Tryz.func12, Tryz.ntmps12
 go_wp2_with (first | (go_at_call 17; refine (K4.get hcap (fun j u hu => (hg2.trans hg3).cell (hrow j u hu) (by simp)) (Nat.lt_of_lt_of_le hlg (hg2.trans hg3).size) (tab_kept HT.out (fun k hk => ((hg1.trans hg2).trans hg3).block k hk (by simp)))).mono ?_; rintro e w4 ⟨rfl, hg4⟩) | (go_at_call 16; refine (K3.get ha ho hx).mono ?_; rintro e w3 ⟨⟨hbad, _⟩ | ⟨_, bc, bm, B', k, hbnd, rfl, hS⟩, hg3⟩; (exact absurd HQ.out hbad)) | (go_at_call 15; refine (K2.get hrow hlg).mono ?_; rintro e w2 ⟨v2, rfl, hrest, hg2⟩; obtain ⟨acc, ha, ho, hx⟩ := hrest (by trivial)) | (go_at_call 14; refine K.get.mono ?_; rintro e w1 ⟨gt, cap, rfl, hcap, hlg, hrow, hg1⟩))
 go_ret3
 have hB := heap_alloc_new w4 (.cells #[.string ⟨(plainT (progToks s)).toArray⟩, .pointer (some ⟨bc, 1, none⟩)] 41)
 have hall := ((hg1.trans hg2).trans hg3).trans hg4
 exact ⟨w4.heap.size, rfl, hall.size, ⟨bc, bm, B', k, Nat.le_trans (hg1.trans hg2).size hbnd.1, Nat.le_trans (hg1.trans hg2).size hbnd.2.1, hbnd.2.2, cell_of hB 0 _ rfl, cell_of hB 1 _ rfl, by simp, (hS.grown hg4).alloc _⟩, hall.trans (World.grownBy_alloc _ _ _)⟩
end
section
set_option maxHeartbeats 2000000
set_option maxRecDepth 100000
open Go.RowKit
variable {w w' : World}
def E0 : Env := ⟨[], [], []⟩
def srcA (A : List (AS × List Pc)) : List UInt8 := bytesP (textPc A)
theorem src_lex {A : List (AS × List Pc)} (h : textOk A) : lex (bn (srcA A)) = (0, toksP 1 (textPc A), 1 + nlsP (textPc A)) := lex_P (textPc_ok h) rfl
theorem src_parse {A : List (AS × List Pc)} (h : textOk A) : ∃ n, pParse (progToks (bn (srcA A))) = (gsts 1 A, (n, 0)) := by
 unfold progToks
 rw [src_lex h]
 exact ⟨_, parse_run (text_is 1 h) rfl⟩
theorem src_run {A : List (AS × List Pc)} (h : textOk A) (hf : allFine E0 A) : QIs (runQ (pParse (progToks (bn (srcA A)))).1 q0) (envOf E0 A) := by
 obtain ⟨n, e⟩ := src_parse h
 rw [e]
 exact run_is 1 q0_is hf
structure MdAt (w : World) (b : Nat) (V : List QVar) (C : List QCon) (t : List UInt8) : Prop where
 pl : w.cell? ⟨b, 0, none⟩ = some (.string ⟨t.toArray⟩)
 lt : b < w.heap.size
 set : ∃ (bc B : Nat) (vV vC : Value) (cs : List CRow), w.cell? ⟨b, 1, none⟩ = some (.pointer (some ⟨bc, 1, none⟩)) ∧ SetIn w bc B vV vC V cs ∧ cs.map (·.c) = C
theorem MdAt.grown {b : Nat} {V : List QVar} {C : List QCon} {t : List UInt8} (h : MdAt w b V C t) (hg : w.grownBy w' none) : MdAt w' b V C t := by
 obtain ⟨bc, B, vV, vC, cs, h1, h2, h3⟩ := h.set
 exact ⟨hg.cell h.pl (by simp), Nat.lt_of_lt_of_le h.lt hg.size, bc, B, vV, vC, cs, hg.cell h1 (by simp), h2.grown hg, h3⟩
theorem MdlIs.md {H b : Nat} {s : ByteArray} (h : MdlIs w H b s) (hq : QOk (runQ (pParse (progToks s)).1 q0)) : MdAt w b (runQ (pParse (progToks s)).1 q0).vars (runQ (pParse (progToks s)).1 q0).cons (plainT (progToks s)) := by
 obtain ⟨bc, bm, B, k, _, _, _, h1, h2, h3, n, g, vV, vC, cs, hc, _, _, hv, ho, hs, _⟩ := h
 refine ⟨h1, h3, bc, B, vV, vC, cs, h2, ⟨hc.c1, hc.c2, hc.lt, hv, ?_, hs.at_⟩, hs.row⟩
 have e : (runQ (pParse (progToks s)).1 q0).m = cs.length := by rw [hq.m, ← hs.row, List.length_map]
 rw [e] at ho
 exact ho
structure MdOk (V : List QVar) (C : List QCon) : Prop where
 vars : ∀ v ∈ V, -1000 ≤ v.low ∧ v.low ≤ v.high ∧ v.high ≤ 1000
 vlen : V.length ≤ 8
 cons : ∀ c ∈ C, ConOk V.length (TruthAt V) c
 clen : C.length ≤ 16
theorem src_ok {A : List (AS × List Pc)} (h : textOk A) (hf : allFine E0 A) (hs : (srcA A).length ≤ 2000) : MdOk ((envOf E0 A).V.map qv) (envOf E0 A).C := by
 have r := src_run h hf
 obtain ⟨n, e⟩ := src_parse h
 have q := text_ok (bn (srcA A)) (by rw [bn_size]; exact hs) (by rw [e]) (by rw [r.st])
 have hv := q.vars
 have hl := q.vlen
 have hc := q.cons
 have hcl := q.clen
 rw [r.vars] at hv hl hc
 rw [r.cons] at hc hcl
 exact ⟨hv, hl, hc, hcl⟩
theorem kp_model (A : List (AS × List Pc)) (h : textOk A) (hf : allFine E0 A) (hs : (srcA A).length ≤ 2000) (w : World) (ht : PowTab w) : Calls Tryz.prog 8 #[.string (bn (srcA A))] w fun e w' => ∃ b, e = .returned (.pointer (some ⟨b, 0, none⟩)) ∧ w.heap.size ≤ b ∧ MdAt w' b ((envOf E0 A).V.map qv) (envOf E0 A).C (plainT (progToks (bn (srcA A)))) ∧ w.grownBy w' none := by
 have r := src_run h hf
 obtain ⟨n, e⟩ := src_parse h
 have hz : (bn (srcA A)).size ≤ 2000 := by rw [bn_size]; exact hs
 have hp : (pParse (progToks (bn (srcA A)))).2.2 = 0 := by rw [e]
 have hq : (runQ (pParse (progToks (bn (srcA A)))).1 q0).st.1 = 0 := by rw [r.st]
 have K := Kept.mk (pn_ok (bn (srcA A)) w ht hz (by rw [src_lex h]) hp hq)
 have HM : Hid (∀ (w' : World) b, MdlIs w' w.heap.size b (bn (srcA A)) → MdAt w' b ((envOf E0 A).V.map qv) (envOf E0 A).C (plainT (progToks (bn (srcA A))))) := fun w' b hm => by
  have q := hm.md (text_ok (bn (srcA A)) hz hp hq)
  rw [r.vars, r.cons] at q
  exact q
 generalize bn (srcA A) = S at *
 clear r e hz hp hq ht h hf hs
 go_enter Tryz.func8, Tryz.ntmps8
 go_wp2_with (go_at_call 12; refine K.get.mono ?_; rintro e w1 ⟨b, rfl, hb, hm, hg⟩)
 go_ret
 exact ⟨b, rfl, hb, HM.out _ _ hm, hg⟩
end
end Go.Proofs.YthpcbbnabnlanabGreatDoor
