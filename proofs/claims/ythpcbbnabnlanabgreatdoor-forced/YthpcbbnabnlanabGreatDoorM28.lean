import Derived.Test.YthpcbbnabnlanabGreatDoorM26
import Derived.Test.YthpcbbnabnlanabGreatDoorM27
import Derived.Laws.OwnMore
namespace Go.Proofs.YthpcbbnabnlanabGreatDoor
set_option linter.unusedVariables false
set_option linter.unusedSimpArgs false
section
set_option maxHeartbeats 8000000
set_option maxRecDepth 100000
open Go.RowKit
variable {w0 w w' w'' : World} {X : SL} {K : SK} {s : SS} {vT vS : Value}
def KeepT (w w' : World) : Prop := ∀ (k : Nat) (c : Array Value) (t : TypeId), w.heap[k]? = some (.cells c t (0, 0)) → t = 22 ∨ t = 3 → w'.heap[k]? = some (.cells c t (0, 0))
def LLT (w : World) (v : Value) (rows : List (List Int)) : Prop := ∀ W, KeepT w W → LL W v rows
theorem LLT.ll {v : Value} {rows : List (List Int)} (h : LLT w v rows) : LL w v rows := h w (fun _ _ _ q _ => q)
theorem LLT.turn {v : Value} {rows : List (List Int)} (h : LLT w v rows) (hk : KeepT w w') : LLT w' v rows := fun W q => h W (fun k c t q1 q2 => q k c t (hk k c t q1 q2) q2)
theorem KeepT.grown (hg : w.grownBy w' none) : KeepT w w' := fun k c t q _ => (hg.block k (some_lt q) (by simp)).trans q
theorem LLT.grown {v : Value} {rows : List (List Int)} (h : LLT w v rows) (hg : w.grownBy w' none) : LLT w' v rows := h.turn (KeepT.grown hg)
theorem sat_LL (h : SAt w0 w X K s vT vS) (hk : KeepT w w') : LL w' vS s.sols := by
 obtain ⟨rows, r1, r2⟩ := h.sols
 have hrl := r1.1
 rcases r1.2 with ⟨q1, q2⟩ | ⟨g, cap, cur, q1, q2, q3, q4, q5, q6, q7⟩
 ·subst q1
  exact .inl ⟨List.length_eq_zero_iff.1 q2, none, 0, rfl⟩
 ·have q3' := hk g cur 22 q3 (.inl rfl)
  refine .inr ⟨g, cap, q1, some_lt q3', fun i r hr => ?_, q4⟩
  have hi : i < s.sols.length := (List.getElem?_eq_some_iff.1 hr).1
  obtain ⟨u, hu⟩ : ∃ u, rows[i]? = some u := ⟨rows[i]'(by omega), List.getElem?_eq_getElem (by omega)⟩
  refine ⟨u, cell_of q3' i u ?_, ?_⟩
  ·have e : (cur.toList.take (s.sols.length * 1))[i]? = some u := by rw [q7]; exact hu
   rw [List.getElem?_take, if_pos (by omega)] at e
   simpa using e
  ·have e := r2 i u hu
   have e2 : s.sols.getD i [] = r := by rw [List.getD_eq_getElem?_getD, hr]; rfl
   rw [e2] at e
   exact (e.kept (fun k cells q _ => hk k cells 3 q (.inr rfl))).vals
theorem begin_tb (hK : KOk K) : TB (beginS K) := by
 refine ⟨?_, fun p hp => by cases hp⟩
 have key : ∀ l : List Nat, (l.map cntD).sum ≤ 2048 * l.length := fun l => by
  induction l with
  | nil => simp
  | cons D l ih =>
   have := cntUp_le D 32
   simp only [List.map_cons, List.sum_cons, List.length_cons]
   unfold cntD at *
   omega
 have := key (beginS K).left
 have e : (beginS K).left.length = K.vars.length := by simp [beginS]
 have e2 : (beginS K).trail.length = 0 := rfl
 have := hK.vlen
 omega
theorem set3_keep {b k : Nat} {x y z : Value} {o : Obj} (h : w.heap[k]? = some o) (hne : k ≠ b) : (((w.setCell ⟨b, 0, none⟩ x).setCell ⟨b, 1, none⟩ y).setCell ⟨b, 2, none⟩ z).heap[k]? = some o := by
 have one : ∀ {W : World} {i : Nat} {v : Value}, W.heap[k]? = some o → (W.setCell ⟨b, i, none⟩ v).heap[k]? = some o := fun {W i v} q => ((grown_set W b i v).block k (some_lt q) (fun e => hne (by cases e; rfl))).trans q
 exact one (one (one h))
theorem set3_at {b : Nat} {a0 a1 a2 x y z : Value} {t : TypeId} (h : w.heap[b]? = some (.cells #[a0, a1, a2] t (0, 0))) : (((w.setCell ⟨b, 0, none⟩ x).setCell ⟨b, 1, none⟩ y).setCell ⟨b, 2, none⟩ z).heap[b]? = some (.cells #[x, y, z] t (0, 0)) :=
 set_at (set_at (set_at h 0 x (cs' := #[x, a1, a2]) rfl) 1 y (cs' := #[x, y, a2]) rfl) 2 z rfl
theorem set3_grown {b : Nat} {x y z : Value} (hg : w0.grownBy w none) (hb : w0.heap.size ≤ b) : w0.grownBy (((w.setCell ⟨b, 0, none⟩ x).setCell ⟨b, 1, none⟩ y).setCell ⟨b, 2, none⟩ z) none :=
 grown_new (grown_new (grown_new hg hb (grown_set _ _ _ _)) hb (grown_set _ _ _ _)) hb (grown_set _ _ _ _)
theorem keep3 {b : Nat} {a0 a1 a2 x y z : Value} (hb : w.heap[b]? = some (.cells #[a0, a1, a2] 29 (0, 0))) : KeepT w (((w.setCell ⟨b, 0, none⟩ x).setCell ⟨b, 1, none⟩ y).setCell ⟨b, 2, none⟩ z) := fun k c t q ht => set3_keep q (fun e => by
  subst e
  rw [hb] at q
  injection q with q
  injection q with _ q
  subst q
  rcases ht with e | e <;> exact absurd e (by decide))
theorem sat_told (h : SAt w0 w X K s vT vS) {b : Nat} {a0 a1 a2 x y z : Value} (hb : w.heap[b]? = some (.cells #[a0, a1, a2] 29 (0, 0))) : LLT (((w.setCell ⟨b, 0, none⟩ x).setCell ⟨b, 1, none⟩ y).setCell ⟨b, 2, none⟩ z) vS s.sols :=
 LLT.turn (fun W hk => sat_LL h hk) (keep3 hb)
theorem sv_Solve {bc B : Nat} {vV vC : Value} {cs : List CRow} (hset : SetIn w bc B vV vC K.vars cs) (hcs : cs.map (·.c) = K.cons) (hdb : DbTab w) (hK : KOk K) (hcv : K.cvs = cvK K) (hus : K.users = usersF K.vars.length (cvK K)) (hbu : K.budget ≤ 9223372036854775807) : Calls Tryz.prog 13 #[.pointer (some ⟨bc, 1, none⟩), .int .i64 K.order, .bool K.weak, .int .i64 K.budget] w fun e w' => ∃ vS, e = .returned (.agg #[vS, .int .i64 (solveS K).ending, .int .i64 (solveS K).nodes]) ∧ LLT w' vS (solveS K).sols ∧ w.grownBy w' none := by
 obtain ⟨hs0, hF0⟩ := begin_ok hK
 have hT0 := begin_tb hK
 obtain ⟨c1, c2, c3, c4⟩ := concS_ok hK hs0 hF0
 obtain ⟨hs1, hT1⟩ := conc_inv hK hs0 hT0
 obtain ⟨W0, hW0⟩ : ∃ W0, W0 = w.alloc (.cells #[.slice none 0 0, .int .i64 0, .int .i64 0] 29) := ⟨_, rfl⟩
 have hg0 : w.grownBy W0 none := by rw [hW0]; exact World.grownBy_alloc _ _ _
 have KB := Kept.mk (sc_begin (w := W0) (hset.grown hg0) hcs (db_grown hdb hg0) hK hcv hus)
 have KC := Kept.mk (fun {W : World} {X : SL} (h : SAt W0 W X K (beginS K) (.slice none 0 0) (.slice none 0 0)) => sc_conclude h hK hs0 hT0)
 have hbx0 : W0.heap[w.heap.size]? = some (.cells #[.slice none 0 0, .int .i64 0, .int .i64 0] 29 (0, 0)) := by rw [hW0]; exact heap_alloc_new _ _
 have hsz0 : w.heap.size < W0.heap.size := some_lt hbx0
 have HBX : Hid (∀ W', W0.grownBy W' none → W'.heap[w.heap.size]? = some (.cells #[.slice none 0 0, .int .i64 0, .int .i64 0] 29 (0, 0))) := fun W' hg => (hg.block _ hsz0 (by simp)).trans hbx0
 by_cases c : (concS K (beginS K)).1 = true
 ·have hn : Node K (concS K (beginS K)).2 := ⟨c1.ok hs0, c4 c, c3⟩
  have KE := Kept.mk (fun {W : World} {X : SL} {vT vS : Value} (h : SAt W0 W X K (concS K (beginS K)).2 vT vS) => sc_enter hK hbu (openN (concS K (beginS K)).2 + 1) h hn hT1 (Nat.lt_succ_self _) (by rw [c1.sols]; exact Nat.zero_le _) (by rw [c1.nodes]; exact Int.le_refl _))
  have HE : Hid (solveS K = (enterF K (openN (concS K (beginS K)).2 + 1) (concS K (beginS K)).2).2) := by unfold Hid solveS; simp only []; rw [if_pos c]
  unfold EnPost at KE
  rw [c] at KC
  generalize solveS K = S at *
  generalize enterF K (openN (concS K (beginS K)).2 + 1) (concS K (beginS K)).2 = R at *
  generalize concS K (beginS K) = CS at *
  clear c1 c2 c3 c4 hs1 hT1 hn c hset hcs hdb hcv hus hs0 hF0 hT0 hbx0
  go_enter Tryz.func13, Tryz.ntmps13
  go_wp2_with (first | (go_at_call 20; refine (KE.get hs2).mono ?_; rintro e w3 ⟨rfl, ⟨vT3, vS3, hs3⟩, hf3⟩; obtain ⟨sa, sc, hvS⟩ := own_slice_n hs3.sols.choose_spec.1; subst hvS; have f11 := hs3.f11; have f12 := hs3.f12; have f13 := hs3.f13; have bb := HBX.out w3 hs3.g0; have b0 := cell_of bb 0 _ rfl; have b1 := cell_of bb 1 _ rfl; have b2 := cell_of bb 2 _ rfl; have z0 := frozen_of bb 0; have z1 := frozen_of bb 1; have z2 := frozen_of bb 2; have l3 := hs3.lt.1; have l4 := some_lt bb) | (go_at_call 19; refine (KC.get hs1).mono ?_; rintro e w2 ⟨rfl, ⟨vT2, hs2⟩, hf2⟩) | (go_at_call 18; rw [← hW0]; refine KB.get.mono ?_; rintro e w1 ⟨X, rfl, hs1⟩))
  refine bodyPost_ret (results_cell_row rfl _ _ w.heap.size 29 #[.slice sa R.2.sols.length sc, .int .i64 R.2.ending, .int .i64 R.2.nodes] (0, 0) _ rfl (set3_at bb) Tryz.underlying29 rfl (by kernel_rfl)) rfl ?_
  rw [HE.out]
  exact ⟨_, rfl, sat_told hs3 bb, set3_grown (hg0.trans hs3.g0) (Nat.le_refl _)⟩
 ·have c : (concS K (beginS K)).1 = false := by simpa using c
  have HE : Hid (solveS K = (concS K (beginS K)).2) := by unfold Hid solveS; simp only []; rw [if_neg (by rw [c]; decide)]
  rw [c] at KC
  generalize solveS K = S at *
  generalize concS K (beginS K) = CS at *
  clear c1 c2 c3 c4 hs1 hT1 c hset hcs hdb hcv hus hs0 hF0 hT0 hbx0
  go_enter Tryz.func13, Tryz.ntmps13
  go_wp2_with (first | (go_at_call 19; refine (KC.get hs1).mono ?_; rintro e w3 ⟨rfl, ⟨vT3, hs3⟩, hf3⟩; have f11 := hs3.f11; have f12 := hs3.f12; have f13 := hs3.f13; have bb := HBX.out w3 hs3.g0; have b0 := cell_of bb 0 _ rfl; have b1 := cell_of bb 1 _ rfl; have b2 := cell_of bb 2 _ rfl; have z0 := frozen_of bb 0; have z1 := frozen_of bb 1; have z2 := frozen_of bb 2; have l3 := hs3.lt.1; have l4 := some_lt bb) | (go_at_call 18; rw [← hW0]; refine KB.get.mono ?_; rintro e w1 ⟨X, rfl, hs1⟩))
  refine bodyPost_ret (results_cell_row rfl _ _ w.heap.size 29 #[.slice none 0 0, .int .i64 CS.2.ending, .int .i64 CS.2.nodes] (0, 0) _ rfl (set3_at bb) Tryz.underlying29 rfl (by kernel_rfl)) rfl ?_
  rw [HE.out]
  exact ⟨_, rfl, sat_told hs3 bb, set3_grown (hg0.trans hs3.g0) (Nat.le_refl _)⟩
end
section
set_option maxHeartbeats 2000000
set_option maxRecDepth 100000
open Go.RowKit
variable {w w' : World}
theorem md_Solve {b : Nat} {V : List QVar} {C : List QCon} {t : List UInt8} (h : MdAt w b V C t) (hM : MdOk V C) (hdb : DbTab w) (order : Int) (weak : Bool) (budget : Int) (hbu : budget ≤ 9223372036854775807) : Calls Tryz.prog 9 #[.pointer (some ⟨b, 0, none⟩), .int .i64 order, .bool weak, .int .i64 budget] w fun e w' => ∃ vS, e = .returned (.agg #[vS, .int .i64 (solveS (mkK V C order weak budget)).ending, .int .i64 (solveS (mkK V C order weak budget)).nodes]) ∧ LLT w' vS (solveS (mkK V C order weak budget)).sols ∧ w.grownBy w' none := by
 obtain ⟨bc, B, vV, vC, cs, h1, h2, h3⟩ := h.set
 obtain ⟨W0, hW0⟩ : ∃ W0, W0 = w.alloc (.cells #[.slice none 0 0, .int .i64 0, .int .i64 0] 29) := ⟨_, rfl⟩
 have hg0 : w.grownBy W0 none := by rw [hW0]; exact World.grownBy_alloc _ _ _
 have KS := Kept.mk (sv_Solve (w := W0) (K := mkK V C order weak budget) (h2.grown hg0) h3 (db_grown hdb hg0) (mkK_ok hM.vars hM.vlen hM.cons hM.clen) rfl rfl hbu)
 have hbx0 : W0.heap[w.heap.size]? = some (.cells #[.slice none 0 0, .int .i64 0, .int .i64 0] 29 (0, 0)) := by rw [hW0]; exact heap_alloc_new _ _
 have HBX : Hid (∀ W', W0.grownBy W' none → W'.heap[w.heap.size]? = some (.cells #[.slice none 0 0, .int .i64 0, .int .i64 0] 29 (0, 0))) := fun W' hg => (hg.block _ (some_lt hbx0) (by simp)).trans hbx0
 have hlt := h.lt
 generalize hR : solveS (mkK V C order weak budget) = R at *
 have KS' := Kept.mk (show Calls Tryz.prog 13 #[.pointer (some ⟨bc, 1, none⟩), .int .i64 order, .bool weak, .int .i64 budget] W0 fun e w' => ∃ vS, e = .returned (.agg #[vS, .int .i64 R.ending, .int .i64 R.nodes]) ∧ LLT w' vS R.sols ∧ W0.grownBy w' none from KS.get)
 clear KS h h2 h3 hbx0 hdb hM hR
 go_enter Tryz.func9, Tryz.ntmps9
 go_wp2_with (go_at_call 13; rw [← hW0]; refine KS'.get.mono ?_; rintro e w3 ⟨vS, rfl, hL, hg3⟩; obtain ⟨sa, sc, hvS⟩ := hL.ll.is; subst hvS; have bb := HBX.out w3 hg3; have b0 := cell_of bb 0 _ rfl; have b1 := cell_of bb 1 _ rfl; have b2 := cell_of bb 2 _ rfl; have z0 := frozen_of bb 0; have z1 := frozen_of bb 1; have z2 := frozen_of bb 2; have l4 := some_lt bb)
 refine bodyPost_ret (results_cell_row rfl _ _ w.heap.size 29 #[.slice sa R.sols.length sc, .int .i64 R.ending, .int .i64 R.nodes] (0, 0) _ rfl (set3_at bb) Tryz.underlying29 rfl (by kernel_rfl)) rfl ?_
 exact ⟨_, rfl, hL.turn (keep3 bb), set3_grown (hg0.trans hg3) (Nat.le_refl _)⟩
end
section
open Go.RowKit
variable {w w' : World}
theorem itoa_dig {k : Nat} (h : k < 10) : Lib.itoa (k : Int) = [UInt8.ofNat (48 + k)] := by
 unfold Lib.itoa
 rw [if_neg (by omega)]
 exact Lib.decDigits_one h
theorem ValsIn.cells {u : Value} {r : List Int} (h : ValsIn w u r) (hne : r ≠ []) : ∃ gv cv, u = .slice (some ⟨gv, 0, none⟩) r.length cv ∧ gv < w.heap.size ∧ ∀ (j : Nat) (x : Int), r[j]? = some x → w.cell? ⟨gv, j, none⟩ = some (.int .i64 x) := by
 rcases h with ⟨e, _⟩ | ⟨gv, cv, hR⟩
 ·exact absurd e hne
 ·refine ⟨gv, cv, hR.is, hR.lt, fun j x hx => ?_⟩
  have q := hR.at (sz := 1) (fun _ => rfl) hx 0 _ rfl
  rw [Nat.mul_one] at q
  exact q
theorem LL.row {a : Option Addr} {n c : Nat} {rows : List (List Int)} (h : LL w (.slice a n c) rows) {i : Nat} {r : List Int} (hr : rows[i]? = some r) (hne : r ≠ []) : ∃ g gv cv, a = some ⟨g, 0, none⟩ ∧ g < w.heap.size ∧ w.cell? ⟨g, i, none⟩ = some (.slice (some ⟨gv, 0, none⟩) r.length cv) ∧ gv < w.heap.size ∧ ∀ (j : Nat) (x : Int), r[j]? = some x → w.cell? ⟨gv, j, none⟩ = some (.int .i64 x) := by
 obtain ⟨g, u, e, h1, h2, h3⟩ := h.at_ hr
 obtain ⟨gv, cv, rfl, h4, h5⟩ := h3.cells hne
 exact ⟨g, gv, cv, e, h1, h2, h4, h5⟩
end
section
open Go.RowKit
theorem textPc_app : ∀ A B : List (AS × List Pc), textPc (A ++ B) = textPc A ++ textPc B
 | [], B => rfl
 | (a, b) :: r, B => by
  show a.pcs ++ (.sg [59] :: (b ++ textPc (r ++ B))) = (a.pcs ++ (.sg [59] :: (b ++ textPc r))) ++ textPc B
  rw [textPc_app r B]
  simp [List.append_assoc]
theorem srcA_app (A B : List (AS × List Pc)) : srcA (A ++ B) = srcA A ++ srcA B := by unfold srcA; rw [textPc_app, bytesP_app]
theorem srcA_cons (a : AS) (b : List Pc) (B : List (AS × List Pc)) : srcA ((a, b) :: B) = srcA [(a, b)] ++ srcA B := srcA_app [(a, b)] B
theorem srcA_one (a : AS) (b : List Pc) : srcA [(a, b)] = bytesP a.pcs ++ (59 :: bytesP b) := by
 show bytesP (a.pcs ++ (.sg [59] :: (b ++ []))) = _
 rw [List.append_nil, bytesP_app, bytesP_cons]
 rfl
theorem textOk_app {A B : List (AS × List Pc)} (h : textOk A) (k : textOk B) : textOk (A ++ B) := fun p hp => by
 rcases List.mem_append.1 hp with q | q
 ·exact h p q
 ·exact k p q
theorem dec_inj {u v : Nat} (h : Lib.decDigits u = Lib.decDigits v) : u = v := by
 have h1 := numTo_dec u
 have h2 := numTo_dec v
 rw [h, h2] at h1
 omega
theorem itoa_nat (k : Nat) : Lib.itoa (k : Int) = Lib.decDigits k := by
 unfold Lib.itoa
 rw [if_neg (by omega)]
 rfl
theorem nmK_inj {j k : Nat} (h : nmK j = nmK k) : j = k := by
 unfold nmK at h
 rw [itoa_nat, itoa_nat] at h
 injection h with _ h
 exact dec_inj h
theorem nmK_dig {k : Nat} (h : k < 10) : nmK k = [120, UInt8.ofNat (48 + k)] := by unfold nmK; rw [itoa_dig h]
theorem nmK_ok {k : Nat} (h : k < 10) : nmOk (nmK k) := by
 rw [nmK_dig h]
 have : k = 0 ∨ k = 1 ∨ k = 2 ∨ k = 3 ∨ k = 4 ∨ k = 5 ∨ k = 6 ∨ k = 7 ∨ k = 8 ∨ k = 9 := by omega
 rcases this with rfl | rfl | rfl | rfl | rfl | rfl | rfl | rfl | rfl | rfl <;> exact ⟨rfl, rfl⟩
def nms (n : Nat) : List (List UInt8) := (List.range n).map fun k => nmK (k + 1)
theorem serPc_app {α : Type} (f : α → List Pc) : ∀ a b : List α, serPc f (a ++ b) = serPc f a ++ serPc f b
 | [], b => rfl
 | x :: a, b => by
  show .sg [44] :: .sp :: (f x ++ serPc f (a ++ b)) = (.sg [44] :: .sp :: (f x ++ serPc f a)) ++ serPc f b
  rw [serPc_app f a b]; simp [List.append_assoc]
theorem list_src : ∀ n : Nat, nmK 0 ++ bytesP (serPc (fun n => [Pc.word n]) (nms n)) = listB (n + 1)
 | 0 => by simp [nms, serPc, bytesP, listB]
 | n + 1 => by
  have e : nms (n + 1) = nms n ++ [nmK (n + 1)] := by simp [nms, List.range_succ]
  rw [e, serPc_app, bytesP_app, ← List.append_assoc, list_src n]
  show listB (n + 1) ++ _ = listB (n + 1) ++ ((if n + 1 = 0 then [] else [44, 32]) ++ nmK (n + 1))
  congr 1
  rw [if_neg (by omega)]
  simp [serPc, bytesP, Pc.bytes]
def diffA (n : Nat) (b : List Pc) : List (AS × List Pc) := [(.diff (nmK 0) (nms n), b)]
theorem diffA_src (n : Nat) (b : List Pc) : srcA (diffA n b) = [100, 105, 102, 102, 32] ++ (listB (n + 1) ++ (59 :: bytesP b)) := by
 unfold diffA
 rw [srcA_one, ← list_src]
 simp [AS.pcs, bytesP, Pc.bytes]
theorem diffA_ok {n : Nat} {b : List Pc} (h : n < 9) (hb : blank b = true) : textOk (diffA n b) := fun p hp => by
 have : p = (.diff (nmK 0) (nms n), b) := by simpa [diffA] using hp
 subst this
 refine ⟨⟨nmK_ok (by omega), fun m hm => ?_⟩, hb⟩
 obtain ⟨k, hk, rfl⟩ := List.mem_map.1 hm
 exact nmK_ok (by have := List.mem_range.1 hk; omega)
end
section
open Go.RowKit
def jB (l : List Int) : Nat → List UInt8
 | 0 => []
 | k + 1 => jB l k ++ ((if k = 0 then [] else [44, 32]) ++ Lib.itoa (l.getD k 0))
theorem jB_src (a : Int) : ∀ rs : List Int, Lib.itoa a ++ bytesP (serPc (fun m => [Pc.num m]) rs) = jB (a :: rs) (rs.length + 1) := by
 intro rs
 have key : ∀ (p q : List Int), jB (a :: (p ++ q)) (p.length + 1) ++ bytesP (serPc (fun m => [Pc.num m]) q) = jB (a :: (p ++ q)) ((p ++ q).length + 1) := by
  intro p q
  induction q generalizing p with
  | nil => simp [serPc, bytesP]
  | cons x q ih =>
   have e : p ++ x :: q = (p ++ [x]) ++ q := by simp
   have h := ih (p ++ [x])
   rw [e, ← h]
   have e2 : (a :: ((p ++ [x]) ++ q)).getD (p.length + 1) 0 = x := by simp
   have e3 : jB (a :: ((p ++ [x]) ++ q)) ((p ++ [x]).length + 1) = jB (a :: ((p ++ [x]) ++ q)) (p.length + 1) ++ ([44, 32] ++ Lib.itoa x) := by
    rw [List.length_append, List.length_singleton]
    show jB (a :: ((p ++ [x]) ++ q)) (p.length + 1) ++ ((if p.length + 1 = 0 then [] else [44, 32]) ++ Lib.itoa ((a :: ((p ++ [x]) ++ q)).getD (p.length + 1) 0)) = _
    rw [e2, if_neg (by omega)]
   rw [e3]
   simp [serPc, bytesP_cons, Pc.bytes, List.append_assoc]
 have := key [] rs
 simpa [jB] using this
theorem jB_len {l : List Int} (h : ∀ x ∈ l, -1000 ≤ x ∧ x ≤ 1000) : ∀ k : Nat, (jB l k).length ≤ 16 * k
 | 0 => Nat.le_refl _
 | k + 1 => by
  have h1 := jB_len h k
  have h2 : (Lib.itoa (l.getD k 0)).length ≤ 14 := by
   by_cases q : k < l.length
   ·have e : l.getD k 0 = l[k] := by simp [q]
    have := h l[k] (List.getElem_mem q)
    rw [e]; exact itoa_len (by omega) (by omega)
   ·have e : l.getD k 0 = 0 := by simp [Nat.le_of_not_lt q]
    rw [e]; exact itoa_len (by omega) (by omega)
  simp only [jB, List.length_append]
  generalize Lib.itoa (l.getD k 0) = X at *
  split <;> simp <;> omega
end
section
open Go.RowKit
def VF (lo hi : Nat → Int) (n : Nat) : List (List UInt8 × Int × Int) := (List.range n).map fun k => (nmK k, lo k, hi k)
theorem VF_succ (lo hi : Nat → Int) (n : Nat) : VF lo hi (n + 1) = VF lo hi n ++ [(nmK n, lo n, hi n)] := by simp [VF, List.range_succ]
theorem VF_len (lo hi : Nat → Int) (n : Nat) : (VF lo hi n).length = n := by simp [VF]
theorem VF_mem {lo hi : Nat → Int} {n : Nat} {p : List UInt8 × Int × Int} (h : p ∈ VF lo hi n) : ∃ k, k < n ∧ p = (nmK k, lo k, hi k) := by
 obtain ⟨k, hk, rfl⟩ := List.mem_map.1 h
 exact ⟨k, List.mem_range.1 hk, rfl⟩
theorem VF_in {lo hi : Nat → Int} {n k : Nat} (h : k < n) : (nmK k, lo k, hi k) ∈ VF lo hi n := List.mem_map.2 ⟨k, List.mem_range.2 h, rfl⟩
theorem ix_nf {lo hi : Nat → Int} {L : List (List UInt8 × List Int)} {C : List QCon} {n : Nat} : ∀ {k : Nat}, k < n → (Env.mk (VF lo hi n) L C).ix (nmK k) = k := by
 induction n with
 | zero => intro k h; omega
 | succ n ih =>
  intro k h
  by_cases e : k = n
  ·subst e
   rw [VF_succ]
   have q := ix_new (E := Env.mk (VF lo hi k) L C) (n := nmK k) (fun p hp e => by
    obtain ⟨j, hj, rfl⟩ := VF_mem hp
    have := nmK_inj e
    omega) (lo k) (hi k) L C
   rw [q]
   exact VF_len lo hi k
  ·rw [VF_succ]
   have q := ix_old (E := Env.mk (VF lo hi n) L C) (n := nmK k) ⟨_, VF_in (by omega), rfl⟩ (nmK n, lo n, hi n) L C
   rw [q]
   exact ih (by omega)
def varsF (lo hi : Nat → Int) : Nat → List (AS × List Pc)
 | 0 => []
 | n + 1 => varsF lo hi n ++ [(.var (nmK n) (lo n) (hi n), [.nl])]
def varsFB (lo hi : Nat → Int) : Nat → List UInt8
 | 0 => []
 | n + 1 => varsFB lo hi n ++ varB n (lo n) (hi n)
theorem varsF_env (lo hi : Nat → Int) : ∀ n : Nat, envOf E0 (varsF lo hi n) = ⟨VF lo hi n, [], []⟩
 | 0 => rfl
 | n + 1 => by
  show envOf E0 (varsF lo hi n ++ [(.var (nmK n) (lo n) (hi n), [.nl])]) = _
  rw [envOf_app, varsF_env lo hi n, VF_succ]
  rfl
theorem varsF_fine {lo hi : Nat → Int} : ∀ n : Nat, n ≤ 8 → (∀ k, k < n → -1000 ≤ lo k ∧ lo k ≤ hi k ∧ hi k ≤ 1000) → allFine E0 (varsF lo hi n)
 | 0, _, _ => trivial
 | n + 1, h, hb => by
  refine allFine_app (varsF_fine n (by omega) (fun k hk => hb k (by omega))) ?_
  rw [varsF_env]
  refine ⟨⟨⟨fun p hp e => ?_, fun p hp => by cases hp⟩, ?_, (hb n (by omega)).1, (hb n (by omega)).2.1, (hb n (by omega)).2.2⟩, trivial⟩
  ·obtain ⟨j, hj, rfl⟩ := VF_mem hp
   have := nmK_inj e
   omega
  ·show (VF lo hi n).length < 8
   rw [VF_len]; omega
theorem varsF_ok {lo hi : Nat → Int} : ∀ n : Nat, n ≤ 8 → (∀ k, k < n → -1000 ≤ lo k ∧ lo k ≤ hi k ∧ hi k ≤ 1000) → textOk (varsF lo hi n)
 | 0, _, _ => fun p hp => by cases hp
 | n + 1, h, hb => by
  refine textOk_app (varsF_ok n (by omega) (fun k hk => hb k (by omega))) (fun p hp => ?_)
  have : p = (.var (nmK n) (lo n) (hi n), [.nl]) := by simpa using hp
  subst this
  have := hb n (by omega)
  exact ⟨⟨nmK_ok (by omega), ⟨by omega, by omega⟩, ⟨by omega, by omega⟩⟩, rfl⟩
theorem varsF_src (lo hi : Nat → Int) : ∀ n : Nat, srcA (varsF lo hi n) = varsFB lo hi n
 | 0 => rfl
 | n + 1 => by
  show srcA (varsF lo hi n ++ [(.var (nmK n) (lo n) (hi n), [.nl])]) = varsFB lo hi n ++ varB n (lo n) (hi n)
  rw [srcA_app, varsF_src lo hi n, srcA_one]
  congr 1
  simp [bytesP, AS.pcs, Pc.bytes, varB]
theorem varsFB_len {lo hi : Nat → Int} : ∀ {n : Nat}, n ≤ 100 → (∀ k, k < n → -1000 ≤ lo k ∧ lo k ≤ hi k ∧ hi k ≤ 1000) → (varsFB lo hi n).length ≤ 60 * n
 | 0, _, _ => Nat.le_refl _
 | n + 1, h, hb => by
  have a := varsFB_len (lo := lo) (hi := hi) (n := n) (by omega) (fun k hk => hb k (by omega))
  have := hb n (by omega)
  have b := varB_len (k := n) (lo := lo n) (hi := hi n) (by omega) (itoa_len (by omega) (by omega)) (itoa_len (by omega) (by omega))
  simp only [varsFB, List.length_append]
  omega
def fkA (n turn at_ : Nat) (a : Int) (rs : List Int) : List (AS × List Pc) := varsF (fcLo n turn at_) (fcHi n turn at_) n ++ ([(.list [108] a rs, [.nl]), (.var [118] 0 100, [.nl])] ++ (diffA (n - 1) [.nl] ++ [(.at_ [108] (nmK at_) [118], [.nl])]))
def fkB (n turn at_ : Nat) : List UInt8 := varsFB (fcLo n turn at_) (fcHi n turn at_) n ++ ([108, 105, 115, 116, 32, 108, 32, 61, 32, 91] ++ (jB (fcL n turn) n ++ ([93, 59, 10, 118, 97, 114, 32, 118, 58, 32, 48, 46, 46, 49, 48, 48, 59, 10] ++ ([100, 105, 102, 102, 32] ++ (listB n ++ ([59, 10, 97, 116, 32, 108, 91] ++ (nmK at_ ++ [93, 32, 61, 32, 118, 59, 10])))))))
theorem fcL_len (n turn : Nat) : (fcL n turn).length = n := by simp [fcL]
theorem fkA_src {n turn at_ : Nat} {a : Int} {rs : List Int} (hn : 2 ≤ n) (e : fcL n turn = a :: rs) : srcA (fkA n turn at_ a rs) = fkB n turn at_ := by
 have e0 : Lib.itoa 0 = [48] := itoa_dig (k := 0) (by decide)
 have e1 : Lib.itoa 100 = [49, 48, 48] := by decide +kernel
 have hl : rs.length + 1 = n := by have q := fcL_len n turn; rw [e] at q; simpa using q
 have hn1 : n - 1 + 1 = n := by omega
 have j := jB_src a rs
 rw [hl, ← e] at j
 unfold fkA fkB
 rw [srcA_app, varsF_src, srcA_app, srcA_app, diffA_src, hn1, srcA_cons, srcA_one, srcA_one, srcA_one, ← j]
 have p1 : (AS.list [108] a rs).pcs = .word [108, 105, 115, 116] :: .sp :: .word [108] :: .sp :: .sg [61] :: .sp :: .sg [91] :: .num a :: (serPc (fun m => [.num m]) rs ++ [.sg [93]]) := rfl
 rw [p1]
 simp only [bytesP_cons, bytesP_app]
 generalize bytesP (serPc (fun m => [.num m]) rs) = X
 simp [AS.pcs, bytesP, Pc.bytes, e0, e1]
theorem fcL_bd {n turn : Nat} (hn : 2 ≤ n) (hn6 : n ≤ 6) : ∀ x ∈ fcL n turn, 10 ≤ x ∧ x ≤ 60 := fun x hx => by
 obtain ⟨k, _, rfl⟩ := List.mem_map.1 hx
 have := fc_bd (n := n) (turn := turn) (k := k) hn
 omega
theorem fc_bds {n turn at_ : Nat} (hn : 2 ≤ n) (hn6 : n ≤ 6) : ∀ k, k < n → -1000 ≤ fcLo n turn at_ k ∧ fcLo n turn at_ k ≤ fcHi n turn at_ k ∧ fcHi n turn at_ k ≤ 1000 := fun k hk => by
 have := fc_bd (n := n) (turn := turn) (k := k) hn
 unfold fcLo fcHi
 split <;> omega
theorem fkB_len {n turn at_ : Nat} (hn : 2 ≤ n) (hn6 : n ≤ 6) (ha : at_ < n) : (fkB n turn at_).length ≤ 700 := by
 have a := varsFB_len (lo := fcLo n turn at_) (hi := fcHi n turn at_) (n := n) (by omega) (fc_bds hn hn6)
 have b := jB_len (l := fcL n turn) (fun x hx => by have := fcL_bd hn hn6 x hx; omega) n
 have c := listB_len (k := n) (by omega)
 have d := nmK_len (k := at_) (by omega)
 simp [fkB]; omega
theorem fk_new (lo hi : Nat → Int) (n : Nat) (c : UInt8) (hc : c ≠ 120) : ∀ p ∈ VF lo hi n, p.1 ≠ [c] := fun p hp => by
 obtain ⟨k, _, rfl⟩ := VF_mem hp
 intro e
 unfold nmK at e
 injection e with e _
 exact hc e.symm
theorem fkA_ok {n turn at_ : Nat} {a : Int} {rs : List Int} (hn : 2 ≤ n) (hn6 : n ≤ 6) (ha : at_ < n) (e : fcL n turn = a :: rs) : textOk (fkA n turn at_ a rs) := by
 have hb : ∀ x ∈ a :: rs, 10 ≤ x ∧ x ≤ 60 := fun x hx => fcL_bd hn hn6 x (by rw [e]; exact hx)
 refine textOk_app (varsF_ok n (by omega) (fc_bds hn hn6)) (textOk_app (fun p hp => ?_) (textOk_app (diffA_ok (by omega) rfl) (fun p hp => ?_)))
 ·have : p = (.list [108] a rs, [.nl]) ∨ p = (.var [118] 0 100, [.nl]) := by simpa using hp
  rcases this with rfl | rfl
  ·exact ⟨⟨⟨rfl, rfl⟩, ⟨by have := hb a (by simp); omega, by have := hb a (by simp); omega⟩, fun m hm => ⟨by have := hb m (by simp [hm]); omega, by have := hb m (by simp [hm]); omega⟩⟩, rfl⟩
  ·exact ⟨⟨⟨rfl, rfl⟩, ⟨by omega, by omega⟩, ⟨by omega, by omega⟩⟩, rfl⟩
 ·obtain rfl : p = (.at_ [108] (nmK at_) [118], [.nl]) := by simpa using hp
  exact ⟨⟨⟨rfl, rfl⟩, nmK_ok (by omega), ⟨rfl, rfl⟩⟩, rfl⟩
theorem fk_ix {lo hi : Nat → Int} {L : List (List UInt8 × List Int)} {C : List QCon} {n k : Nat} (h : k < n) : (Env.mk (VF lo hi n ++ [([118], 0, 100)]) L C).ix (nmK k) = k := by
 have q := ix_old (E := Env.mk (VF lo hi n) L C) (n := nmK k) ⟨_, VF_in h, rfl⟩ ([118], 0, 100) L C
 rw [q]
 exact ix_nf h
theorem fk_ixv {lo hi : Nat → Int} {L : List (List UInt8 × List Int)} {C : List QCon} {n : Nat} : (Env.mk (VF lo hi n ++ [([118], 0, 100)]) L C).ix [118] = n := by
 have q := ix_new (E := Env.mk (VF lo hi n) L C) (n := [118]) (fk_new lo hi n 118 (by decide)) 0 100 L C
 rw [q]
 exact VF_len lo hi n
theorem fk_diff {lo hi : Nat → Int} {L : List (List UInt8 × List Int)} {C : List QCon} {n : Nat} (hn : 2 ≤ n) : (nmK 0 :: nms (n - 1)).map (fun m => ((Env.mk (VF lo hi n ++ [([118], 0, 100)]) L C).ix m : Int)) = (List.range n).map (fun k : Nat => (k : Int)) := by
 have e1 : nmK 0 :: nms (n - 1) = (List.range n).map nmK := by
  have : n = n - 1 + 1 := by omega
  rw [this, List.range_succ_eq_map]; simp [nms]
 rw [e1, List.map_map]
 refine List.map_congr_left (fun k hk => ?_)
 show ((Env.mk (VF lo hi n ++ [([118], 0, 100)]) L C).ix (nmK k) : Int) = k
 rw [fk_ix (List.mem_range.1 hk)]
theorem fkA_env {n turn at_ : Nat} {a : Int} {rs : List Int} (hn : 2 ≤ n) (ha : at_ < n) (e : fcL n turn = a :: rs) : envOf E0 (fkA n turn at_ a rs) = ⟨VF (fcLo n turn at_) (fcHi n turn at_) n ++ [([118], 0, 100)], [([108], a :: rs)], [fcD n, fcA n turn at_]⟩ := by
 unfold fkA
 rw [envOf_app, varsF_env, envOf_app, envOf_app]
 show AS.step (AS.step (Env.mk (VF (fcLo n turn at_) (fcHi n turn at_) n ++ [([118], 0, 100)]) [([108], a :: rs)] []) (.diff (nmK 0) (nms (n - 1)))) (.at_ [108] (nmK at_) [118]) = _
 have s1 : AS.step (Env.mk (VF (fcLo n turn at_) (fcHi n turn at_) n ++ [([118], 0, 100)]) [([108], a :: rs)] []) (.diff (nmK 0) (nms (n - 1))) = ⟨VF (fcLo n turn at_) (fcHi n turn at_) n ++ [([118], 0, 100)], [([108], a :: rs)], [fcD n]⟩ := by
  show (⟨_, _, [] ++ [QCon.mk 3 0 [] 0 0 [] 0 0 ((nmK 0 :: nms (n - 1)).map (fun m => ((Env.mk (VF (fcLo n turn at_) (fcHi n turn at_) n ++ [([118], 0, 100)]) [([108], a :: rs)] []).ix m : Int))) []]⟩ : Env) = _
  rw [fk_diff hn]
  rfl
 rw [s1]
 show (⟨_, _, [fcD n] ++ [QCon.mk 2 0 [] 0 0 (a :: rs) ((Env.mk (VF (fcLo n turn at_) (fcHi n turn at_) n ++ [([118], 0, 100)]) [([108], a :: rs)] [fcD n]).ix (nmK at_) : Int) ((Env.mk (VF (fcLo n turn at_) (fcHi n turn at_) n ++ [([118], 0, 100)]) [([108], a :: rs)] [fcD n]).ix [118] : Int) [] []]⟩ : Env) = _
 rw [fk_ix ha, fk_ixv, ← e]
 rfl
theorem fkA_fine {n turn at_ : Nat} {a : Int} {rs : List Int} (hn : 2 ≤ n) (hn6 : n ≤ 6) (ha : at_ < n) (e : fcL n turn = a :: rs) : allFine E0 (fkA n turn at_ a rs) := by
 have hb : ∀ x ∈ a :: rs, 10 ≤ x ∧ x ≤ 60 := fun x hx => fcL_bd hn hn6 x (by rw [e]; exact hx)
 have hl : (a :: rs).length = n := by rw [← e]; exact fcL_len n turn
 unfold fkA
 refine allFine_app (varsF_fine n (by omega) (fc_bds hn hn6)) ?_
 rw [varsF_env]
 refine ⟨⟨⟨fk_new _ _ n 108 (by decide), fun p hp => by cases hp⟩, by rw [hl]; omega, fun x hx => by have := hb x hx; omega⟩, ⟨⟨fk_new _ _ n 118 (by decide), fun p hp => ?_⟩, by show (VF (fcLo n turn at_) (fcHi n turn at_) n).length < 8; rw [VF_len]; omega, by decide, by decide, by decide⟩, ⟨by show 0 < 16; decide, by simp [nms]; omega, fun m hm => ?_⟩, ⟨by show 1 < 16; decide, ⟨([108], a :: rs), by simp [AS.step], rfl⟩, ⟨_, List.mem_append_left _ (VF_in ha), rfl⟩, ⟨([118], 0, 100), by simp [AS.step], rfl⟩⟩, trivial⟩
 ·obtain rfl : p = ([108], a :: rs) := by simpa [AS.step] using hp
  exact (by decide : ([108] : List UInt8) ≠ [118])
 ·rcases List.mem_cons.1 hm with rfl | hm
  ·exact ⟨_, List.mem_append_left _ (VF_in (k := 0) (by omega)), rfl⟩
  ·obtain ⟨k, hk, rfl⟩ := List.mem_map.1 hm
   exact ⟨_, List.mem_append_left _ (VF_in (k := k + 1) (by have := List.mem_range.1 hk; omega)), rfl⟩
theorem fk_vars (n turn at_ : Nat) : (VF (fcLo n turn at_) (fcHi n turn at_) n ++ [([118], 0, 100)]).map qv = fcV (fun k => bn (nmK k)) (bn [118]) n turn at_ := by
 unfold VF fcV
 rw [List.map_append, List.map_map]
 rfl
def f2A (a : Int) (rs : List Int) (S : Int) : List (AS × List Pc) := [(.list [108] a rs, [.nl]), (.var [107] 0 20, [.sp]), (.var [118] S S, [.sp]), (.at_ [108] [107] [118], [])]
def f2B (l : List Int) (S : Int) : List UInt8 := [108, 105, 115, 116, 32, 108, 32, 61, 32, 91] ++ (jB l l.length ++ ([93, 59, 10, 118, 97, 114, 32, 107, 58, 32, 48, 46, 46, 50, 48, 59, 32, 118, 97, 114, 32, 118, 58, 32] ++ (Lib.itoa S ++ ([46, 46] ++ (Lib.itoa S ++ [59, 32, 97, 116, 32, 108, 91, 107, 93, 32, 61, 32, 118, 59])))))
theorem f2A_src (a : Int) (rs : List Int) (S : Int) : srcA (f2A a rs S) = f2B (a :: rs) S := by
 have e0 : Lib.itoa 0 = [48] := itoa_dig (k := 0) (by decide)
 have e1 : Lib.itoa 20 = [50, 48] := by decide +kernel
 unfold f2A f2B
 rw [srcA_cons, srcA_one, srcA_cons, srcA_one, srcA_cons, srcA_one, srcA_one]
 have e := jB_src a rs
 rw [List.length_cons, ← e]
 have p1 : (AS.list [108] a rs).pcs = .word [108, 105, 115, 116] :: .sp :: .word [108] :: .sp :: .sg [61] :: .sp :: .sg [91] :: .num a :: (serPc (fun m => [.num m]) rs ++ [.sg [93]]) := rfl
 rw [p1]
 simp only [bytesP_cons, bytesP_app]
 generalize bytesP (serPc (fun m => [.num m]) rs) = X
 simp [AS.pcs, bytesP, Pc.bytes, e0, e1]
theorem f2B_len {l : List Int} {S : Int} (hl : l.length ≤ 20) (h : ∀ x ∈ l, -1000 ≤ x ∧ x ≤ 1000) (h1 : -1000 ≤ S) (h2 : S ≤ 1000) : (f2B l S).length ≤ 500 := by
 have a := jB_len h l.length
 have b := itoa_len (m := S) (by omega) (by omega)
 simp [f2B]; omega
theorem f2A_env (a : Int) (rs : List Int) (S : Int) : envOf E0 (f2A a rs S) = ⟨[([107], 0, 20), ([118], S, S)], [([108], a :: rs)], [fcB (a :: rs)]⟩ := rfl
theorem f2A_ok {a : Int} {rs : List Int} {S : Int} (h : ∀ x ∈ a :: rs, -1000 ≤ x ∧ x ≤ 1000) (h1 : -1000 ≤ S) (h2 : S ≤ 1000) : textOk (f2A a rs S) := fun p hp => by
 have : p = (.list [108] a rs, [.nl]) ∨ p = (.var [107] 0 20, [.sp]) ∨ p = (.var [118] S S, [.sp]) ∨ p = (.at_ [108] [107] [118], []) := by simpa [f2A] using hp
 rcases this with rfl | rfl | rfl | rfl
 ·exact ⟨⟨⟨rfl, rfl⟩, ⟨by have := h a (by simp); omega, by have := h a (by simp); omega⟩, fun m hm => ⟨by have := h m (by simp [hm]); omega, by have := h m (by simp [hm]); omega⟩⟩, rfl⟩
 ·exact ⟨⟨⟨rfl, rfl⟩, ⟨by omega, by omega⟩, ⟨by omega, by omega⟩⟩, rfl⟩
 ·exact ⟨⟨⟨rfl, rfl⟩, ⟨by omega, by omega⟩, ⟨by omega, by omega⟩⟩, rfl⟩
 ·exact ⟨⟨⟨rfl, rfl⟩, ⟨rfl, rfl⟩, ⟨rfl, rfl⟩⟩, rfl⟩
theorem f2A_fine {a : Int} {rs : List Int} {S : Int} (h : ∀ x ∈ a :: rs, -1000 ≤ x ∧ x ≤ 1000) (hl : (a :: rs).length ≤ 20) (h1 : -1000 ≤ S) (h2 : S ≤ 1000) : allFine E0 (f2A a rs S) := by
 refine ⟨⟨⟨(fun p hp => by cases hp), (fun p hp => by cases hp)⟩, hl, h⟩, ⟨⟨(fun p hp => by cases hp), fun p hp => ?_⟩, by show 0 < 8; decide, by decide, by decide, by decide⟩, ⟨⟨fun p hp => ?_, fun p hp => ?_⟩, by show 1 < 8; decide, h1, Int.le_refl _, h2⟩, ⟨by show 0 < 16; decide, ?_, ?_, ?_⟩, trivial⟩
 ·obtain rfl : p = ([108], a :: rs) := by simpa [E0, AS.step] using hp
  exact (by decide : ([108] : List UInt8) ≠ [107])
 ·obtain rfl : p = ([107], 0, 20) := by simpa [E0, AS.step] using hp
  exact (by decide : ([107] : List UInt8) ≠ [118])
 ·obtain rfl : p = ([108], a :: rs) := by simpa [E0, AS.step] using hp
  exact (by decide : ([108] : List UInt8) ≠ [118])
 ·exact ⟨([108], a :: rs), by simp [E0, AS.step], rfl⟩
 ·exact ⟨([107], 0, 20), by simp [E0, AS.step], rfl⟩
 ·exact ⟨([118], S, S), by simp [E0, AS.step], rfl⟩
end
section
open Go.RowKit
variable {w w' : World}
def ap (a b : List UInt8) : List UInt8 := a ++ b
theorem ap_len (a b : List UInt8) : (ap a b).length = a.length + b.length := List.length_append
theorem bn_ap (a b : List UInt8) : bn a ++ bn b = bn (ap a b) := bn_app a b
theorem bn_mk_ap (a : List UInt8) (xs : Array UInt8) : bn a ++ ⟨xs⟩ = bn (ap a xs.toList) := bn_app a xs.toList
theorem mk_bn_ap (a : List UInt8) (xs : Array UInt8) : (⟨xs⟩ : ByteArray) ++ bn a = bn (ap xs.toList a) := bn_app xs.toList a
attribute [local go_sem] bn_ap bn_mk_ap mk_bn_ap bn_size mk_size ap_len List.length_cons List.length_nil
end
section
open Go.RowKit
variable {w w' wr : World}
theorem vals_two (W : World) (a b : Int) : ValsIn (W.alloc (.cells #[.int .i64 a, .int .i64 b] 3)) (.slice (some ⟨W.heap.size, 0, none⟩) 2 2) [a, b] := by
 refine .inr ⟨W.heap.size, 2, rfl, fun j u hu => ?_, by simp⟩
 have hu' : [Value.int .i64 a, Value.int .i64 b][j]? = some u := hu
 exact cell_of (heap_alloc_new W _) j _ (by simpa using hu')
theorem jB_snoc {l : List Int} {i : Nat} {x : Int} (h : l[i]? = some x) : jB l (i + 1) = jB l i ++ ((if i = 0 then [] else [44, 32]) ++ Lib.itoa x) := by
 show jB l i ++ ((if i = 0 then [] else [44, 32]) ++ Lib.itoa (l.getD i 0)) = _
 rw [List.getD_eq_getElem?_getD, h]
 rfl
attribute [local go_sem] bn_ap bn_mk_ap mk_bn_ap bn_size mk_size ap_len List.length_cons List.length_nil
end
section
set_option maxHeartbeats 8000000
set_option maxRecDepth 100000
open Go.RowKit
variable {w w' wr : World}
structure FcF (w : World) (n turn at_ : Nat) (PO : Int) : Prop where
 m0 : ∀ W, w.grownBy W none → Calls Tryz.prog 8 #[.string (bn (fkB n turn at_))] W fun e w' => ∃ q, e = .returned (.pointer (some ⟨q, 0, none⟩)) ∧ W.grownBy w' none ∧ ∀ W2, w'.grownBy W2 none → Calls Tryz.prog 9 #[.pointer (some ⟨q, 0, none⟩), .int .i64 PO, .bool false, .int .i64 1000000] W2 fun e w3 => ∃ vS, e = .returned (.agg #[vS, .int .i64 0, .int .i64 1]) ∧ LL w3 vS [fcRow n turn at_] ∧ W2.grownBy w3 none
 m1 : ∀ W, w.grownBy W none → Calls Tryz.prog 8 #[.string (bn (f2B (fcL n turn) (fcS n turn at_)))] W fun e w' => ∃ q, e = .returned (.pointer (some ⟨q, 0, none⟩)) ∧ W.grownBy w' none ∧ ∀ W2, w'.grownBy W2 none → Calls Tryz.prog 9 #[.pointer (some ⟨q, 0, none⟩), .int .i64 PO, .bool false, .int .i64 1000000] W2 fun e w3 => ∃ vS, e = .returned (.agg #[vS, .int .i64 0, .int .i64 1]) ∧ LL w3 vS [[fcVal n turn at_, fcS n turn at_]] ∧ W2.grownBy w3 none
theorem alloc_size (w : World) (o : Obj) : (w.alloc o).heap.size = w.heap.size + 1 := Array.size_push ..
attribute [local go_sem] bn_ap bn_mk_ap mk_bn_ap bn_size mk_size ap_len List.length_cons List.length_nil
theorem fc_walk (N T P order : Int) (hN1 : -9223372036854775808 ≤ N) (hN2 : N ≤ 9223372036854775807) (hT1 : -9223372036854775808 ≤ T) (hT2 : T ≤ 9223372036854775807) (hP1 : -9223372036854775808 ≤ P) (hP2 : P ≤ 9223372036854775807) (ho1 : -9223372036854775808 ≤ order) (ho2 : order ≤ 9223372036854775807) (n turn at_ : Nat) (hn : 2 + pickI N 5 = (n : Int)) (ht : pickI T n = (turn : Int)) (ha : pickI P n = (at_ : Int)) (PO : Int) (hPO : pickI order 2 = PO) (hF : FcF w n turn at_ PO) : Calls Tryz.prog 4 #[.int .i64 N, .int .i64 T, .int .i64 P, .int .i64 order] w fun e w' => e = .returned (.bool true) ∧ w.grownBy w' none := by
 have b5 := pickI_bd N 5 (by decide)
 have hn2 : 2 ≤ n := by omega
 have hn6 : n ≤ 6 := by omega
 have bt := pickI_bd T n (by omega)
 have ba := pickI_bd P n (by omega)
 have htn : turn < n := by omega
 have han : at_ < n := by omega
 have KP1 := Kept.mk (fun W => kp_pick N 5 W hN1 hN2 (by decide) (by decide))
 have KP2 := Kept.mk (fun W => kp_pick T n W hT1 hT2 (by omega) (by omega))
 have KP3 := Kept.mk (fun W => kp_pick P n W hP1 hP2 (by omega) (by omega))
 have KPO := Kept.mk (fun W => kp_pick order 2 W ho1 ho2 (by decide) (by decide))
 rw [ht] at KP2
 rw [ha] at KP3
 rw [hPO] at KPO
 have KM0 := Kept.mk (fun {W : World} (hg : w.grownBy W none) => hF.m0 W hg)
 have KM1 := Kept.mk (fun {W : World} (hg : w.grownBy W none) => hF.m1 W hg)
 have HVL : Hid (∀ k, k ≤ n → (varsFB (fcLo n turn at_) (fcHi n turn at_) k).length ≤ 60 * k) := fun k hk => varsFB_len (by omega) (fun j hj => fc_bds hn2 hn6 j (by omega))
 have HJL : Hid (∀ k, k ≤ n → (jB (fcL n turn) k).length ≤ 16 * k) := fun k hk => jB_len (fun x hx => by have := fcL_bd hn2 hn6 x hx; omega) k
 generalize pickI N 5 = PN at *
 clear hF ht ha bt ba hPO
 go_enter Tryz.func4, Tryz.ntmps4
 go_wp2_with (first | (go_at_call 5; refine (KP1.get _).mono ?_; rintro e w6 ⟨rfl, hww⟩; subst w6; clear KP1) | (go_at_call 5; refine (KP2.get _).mono ?_; rintro e w6 ⟨rfl, hww⟩; subst w6; clear KP2) | (go_at_call 5; refine (KP3.get _).mono ?_; rintro e w6 ⟨rfl, hww⟩; subst w6; clear KP3))
 go_loopw [9, 10, 11] (fun vs vl vk wr => ∃ k : Nat, k ≤ n ∧ vk = .int .i64 k ∧ vs = .string (bn (varsFB (fcLo n turn at_) (fcHi n turn at_) k)) ∧ vl = .string (bn ([108, 105, 115, 116, 32, 108, 32, 61, 32, 91] ++ jB (fcL n turn) k)) ∧ w.grownBy wr none) (fun _ _ vk _ => n - (intOf vk).toNat)
 case atStart => exact ⟨0, Nat.zero_le _, rfl, rfl, rfl, grown_refl _ _⟩
 case round =>
  obtain ⟨k, hk9, rfl, rfl, rfl, hgr⟩ := hrel
  by_cases hlt : k < n
  ·obtain ⟨VM, hVM⟩ : ∃ VM : Int, (((k + turn) % n : Nat) : Int) = VM := ⟨_, rfl⟩
   have vb : 0 ≤ VM ∧ VM < n := by have := Nat.mod_lt (k + turn) (show 0 < n by omega); omega
   have hmod : ((k : Int) + turn) % n = VM := by rw [← hVM, Int.natCast_emod, Int.natCast_add]
   have hfv : fcVal n turn k = VM + 1 := by unfold fcVal; rw [hVM]
   have KN := Kept.mk (fun W => kp_name k W (by omega))
   have KD3 := Kept.mk (fun W => kp_digits (10 * (VM + 1)) W (by omega) (by omega))
   have l1 := HVL.out k hk9
   have l2 := HJL.out k hk9
   have l3 := nmK_len (k := k) (by omega)
   have l4 := itoa_len (m := 10 * (VM + 1)) (by omega) (by omega)
   have hx : (fcL n turn)[k]? = some (10 * (VM + 1)) := by unfold fcL; rw [List.getElem?_map, List.getElem?_range hlt]; show some (10 * fcVal n turn k) = _; rw [hfv]
   have js := jB_snoc hx
   have hlt2 : (k : Int) < n := by omega
   have h0k : (0 : Int) ≤ k := by omega
   have HLI : Hid (k + 1 ≤ n) := hlt
   have HME : Hid (n - (k + 1) < n - k) := by rw [Hid]; omega
   have sl : ([108, 105, 115, 116, 32, 108, 32, 61, 32, 91] ++ jB (fcL n turn) k).length ≤ 200 := by simp; omega
   by_cases c : k = at_
   ·have hke : ((k : Int) == (at_ : Int)) = true := by rw [c]; simp
    have HE1 : Hid (varsFB (fcLo n turn at_) (fcHi n turn at_) (k + 1) = ap (ap (ap (ap (ap (ap (ap (varsFB (fcLo n turn at_) (fcHi n turn at_) k) [118, 97, 114, 32]) (nmK k)) [58, 32]) (Lib.itoa 1)) [46, 46]) (Lib.itoa n)) [59, 10]) := by
     have e1 : fcLo n turn at_ k = 1 := by simp [fcLo, c]
     have e2 : fcHi n turn at_ k = n := by simp [fcHi, c]
     rw [Hid]; show varsFB (fcLo n turn at_) (fcHi n turn at_) k ++ varB k (fcLo n turn at_ k) (fcHi n turn at_ k) = _; rw [e1, e2]; simp [varB, ap, List.append_assoc]
    have KD1 := Kept.mk (fun W => kp_digits 1 W (by omega) (by omega))
    have KD2 := Kept.mk (fun W => kp_digits n W (by omega) (by omega))
    have l5 := itoa_len (m := 1) (by omega) (by omega)
    have l6 := itoa_len (m := n) (by omega) (by omega)
    by_cases h0 : k = 0
    ·have hk0 : (k : Int) ≤ 0 := by omega
     have HE2 : Hid ([108, 105, 115, 116, 32, 108, 32, 61, 32, 91] ++ jB (fcL n turn) (k + 1) = ap ([108, 105, 115, 116, 32, 108, 32, 61, 32, 91] ++ jB (fcL n turn) k) (Lib.itoa (10 * (VM + 1)))) := by rw [Hid, js, if_pos h0]; simp [ap]
     generalize varsFB (fcLo n turn at_) (fcHi n turn at_) k = S at *
     generalize [108, 105, 115, 116, 32, 108, 32, 61, 32, 91] ++ jB (fcL n turn) k = L at *
     generalize Lib.itoa (10 * (VM + 1)) = D at *
     generalize Lib.itoa 1 = D1 at *
     generalize Lib.itoa n = D2 at *
     generalize nmK k = NK at *
     clear hx hVM hfv js l2 h0 hlt c hk9
     go_wp2_with (first | (go_at_call 7; refine (KN.get _).mono ?_; rintro e w1 ⟨rfl, hg1⟩; replace hgr := hgr.trans hg1; clear hg1 KN) | (go_at_call 6; refine (KD1.get _).mono ?_; rintro e w1 ⟨rfl, hg1⟩; replace hgr := hgr.trans hg1; clear hg1 KD1) | (go_at_call 6; refine (KD2.get _).mono ?_; rintro e w1 ⟨rfl, hg1⟩; replace hgr := hgr.trans hg1; clear hg1 KD2) | (go_at_call 6; refine (KD3.get _).mono ?_; rintro e w1 ⟨rfl, hg1⟩; replace hgr := hgr.trans hg1; clear hg1 KD3))
     go_roundw
     case rel => exact ⟨k + 1, HLI.out, by go_num, by rw [HE1.out], by rw [HE2.out], hgr⟩
     case measure => exact HME.out
    ·have hk0 : (0 : Int) < k := by omega
     have HE2 : Hid ([108, 105, 115, 116, 32, 108, 32, 61, 32, 91] ++ jB (fcL n turn) (k + 1) = ap (ap ([108, 105, 115, 116, 32, 108, 32, 61, 32, 91] ++ jB (fcL n turn) k) [44, 32]) (Lib.itoa (10 * (VM + 1)))) := by rw [Hid, js, if_neg h0]; simp [ap]
     generalize varsFB (fcLo n turn at_) (fcHi n turn at_) k = S at *
     generalize [108, 105, 115, 116, 32, 108, 32, 61, 32, 91] ++ jB (fcL n turn) k = L at *
     generalize Lib.itoa (10 * (VM + 1)) = D at *
     generalize Lib.itoa 1 = D1 at *
     generalize Lib.itoa n = D2 at *
     generalize nmK k = NK at *
     clear hx hVM hfv js l2 h0 hlt c hk9
     go_wp2_with (first | (go_at_call 7; refine (KN.get _).mono ?_; rintro e w1 ⟨rfl, hg1⟩; replace hgr := hgr.trans hg1; clear hg1 KN) | (go_at_call 6; refine (KD1.get _).mono ?_; rintro e w1 ⟨rfl, hg1⟩; replace hgr := hgr.trans hg1; clear hg1 KD1) | (go_at_call 6; refine (KD2.get _).mono ?_; rintro e w1 ⟨rfl, hg1⟩; replace hgr := hgr.trans hg1; clear hg1 KD2) | (go_at_call 6; refine (KD3.get _).mono ?_; rintro e w1 ⟨rfl, hg1⟩; replace hgr := hgr.trans hg1; clear hg1 KD3))
     go_roundw
     case rel => exact ⟨k + 1, HLI.out, by go_num, by rw [HE1.out], by rw [HE2.out], hgr⟩
     case measure => exact HME.out
   ·have hke : ((k : Int) == (at_ : Int)) = false := by rw [beq_eq_false_iff_ne]; omega
    have HE1 : Hid (varsFB (fcLo n turn at_) (fcHi n turn at_) (k + 1) = ap (ap (ap (ap (ap (ap (ap (varsFB (fcLo n turn at_) (fcHi n turn at_) k) [118, 97, 114, 32]) (nmK k)) [58, 32]) (Lib.itoa (VM + 1))) [46, 46]) (Lib.itoa (VM + 1))) [59, 10]) := by
     have e1 : fcLo n turn at_ k = VM + 1 := by simp [fcLo, c, hfv]
     have e2 : fcHi n turn at_ k = VM + 1 := by simp [fcHi, c, hfv]
     rw [Hid]; show varsFB (fcLo n turn at_) (fcHi n turn at_) k ++ varB k (fcLo n turn at_ k) (fcHi n turn at_ k) = _; rw [e1, e2]; simp [varB, ap, List.append_assoc]
    have KD1 := Kept.mk (fun W => kp_digits (VM + 1) W (by omega) (by omega))
    have KD2 := KD1
    have l5 := itoa_len (m := VM + 1) (by omega) (by omega)
    by_cases h0 : k = 0
    ·have hk0 : (k : Int) ≤ 0 := by omega
     have HE2 : Hid ([108, 105, 115, 116, 32, 108, 32, 61, 32, 91] ++ jB (fcL n turn) (k + 1) = ap ([108, 105, 115, 116, 32, 108, 32, 61, 32, 91] ++ jB (fcL n turn) k) (Lib.itoa (10 * (VM + 1)))) := by rw [Hid, js, if_pos h0]; simp [ap]
     generalize varsFB (fcLo n turn at_) (fcHi n turn at_) k = S at *
     generalize [108, 105, 115, 116, 32, 108, 32, 61, 32, 91] ++ jB (fcL n turn) k = L at *
     generalize Lib.itoa (10 * (VM + 1)) = D at *
     generalize Lib.itoa (VM + 1) = D1 at *
     generalize nmK k = NK at *
     clear hx hVM hfv js l2 h0 hlt c hk9
     go_wp2_with (first | (go_at_call 7; refine (KN.get _).mono ?_; rintro e w1 ⟨rfl, hg1⟩; replace hgr := hgr.trans hg1; clear hg1 KN) | (go_at_call 6; refine (KD1.get _).mono ?_; rintro e w1 ⟨rfl, hg1⟩; replace hgr := hgr.trans hg1; clear hg1 KD1) | (go_at_call 6; refine (KD2.get _).mono ?_; rintro e w1 ⟨rfl, hg1⟩; replace hgr := hgr.trans hg1; clear hg1 KD2) | (go_at_call 6; refine (KD3.get _).mono ?_; rintro e w1 ⟨rfl, hg1⟩; replace hgr := hgr.trans hg1; clear hg1 KD3))
     go_roundw
     case rel => exact ⟨k + 1, HLI.out, by go_num, by rw [HE1.out], by rw [HE2.out], hgr⟩
     case measure => exact HME.out
    ·have hk0 : (0 : Int) < k := by omega
     have HE2 : Hid ([108, 105, 115, 116, 32, 108, 32, 61, 32, 91] ++ jB (fcL n turn) (k + 1) = ap (ap ([108, 105, 115, 116, 32, 108, 32, 61, 32, 91] ++ jB (fcL n turn) k) [44, 32]) (Lib.itoa (10 * (VM + 1)))) := by rw [Hid, js, if_neg h0]; simp [ap]
     generalize varsFB (fcLo n turn at_) (fcHi n turn at_) k = S at *
     generalize [108, 105, 115, 116, 32, 108, 32, 61, 32, 91] ++ jB (fcL n turn) k = L at *
     generalize Lib.itoa (10 * (VM + 1)) = D at *
     generalize Lib.itoa (VM + 1) = D1 at *
     generalize nmK k = NK at *
     clear hx hVM hfv js l2 h0 hlt c hk9
     go_wp2_with (first | (go_at_call 7; refine (KN.get _).mono ?_; rintro e w1 ⟨rfl, hg1⟩; replace hgr := hgr.trans hg1; clear hg1 KN) | (go_at_call 6; refine (KD1.get _).mono ?_; rintro e w1 ⟨rfl, hg1⟩; replace hgr := hgr.trans hg1; clear hg1 KD1) | (go_at_call 6; refine (KD2.get _).mono ?_; rintro e w1 ⟨rfl, hg1⟩; replace hgr := hgr.trans hg1; clear hg1 KD2) | (go_at_call 6; refine (KD3.get _).mono ?_; rintro e w1 ⟨rfl, hg1⟩; replace hgr := hgr.trans hg1; clear hg1 KD3))
     go_roundw
     case rel => exact ⟨k + 1, HLI.out, by go_num, by rw [HE1.out], by rw [HE2.out], hgr⟩
     case measure => exact HME.out
  ·obtain rfl : n = k := by omega
   obtain ⟨AM, hAM⟩ : ∃ AM : Nat, (at_ + turn) % n = AM := ⟨_, rfl⟩
   obtain ⟨SM, hSM⟩ : ∃ SM : Nat, (AM + turn) % n = SM := ⟨_, rfl⟩
   have ab : AM < n := by have := Nat.mod_lt (at_ + turn) (show 0 < n by omega); omega
   have sb : SM < n := by have := Nat.mod_lt (AM + turn) (show 0 < n by omega); omega
   have hm1 : ((at_ : Int) + turn) % n = AM := by rw [← hAM, Int.natCast_emod, Int.natCast_add]
   have hm2 : ((AM : Int) + turn) % n = SM := by rw [← hSM, Int.natCast_emod, Int.natCast_add]
   have hm3 : ((AM : Int) + 1 - 1 + turn) % n = SM := by rw [Int.add_sub_cancel]; exact hm2
   have hfv : fcVal n turn at_ = (AM : Int) + 1 := by unfold fcVal; rw [hAM]
   have hfs : fcS n turn at_ = 10 * ((SM : Int) + 1) := by
    have q := fc_ok hn2 hn6 htn han
    unfold fcOk at q
    rw [Bool.and_eq_true, decide_eq_true_eq] at q
    have q2 := q.2
    rw [hfv, show ((AM : Int) + 1 - 1).toNat = AM from by omega, hSM] at q2
    exact q2
   obtain ⟨R, hR⟩ : ∃ R, R = fcRow n turn at_ := ⟨_, rfl⟩
   have hRl : R.length = n + 1 := by rw [hR]; simp [fcRow]
   have HR1 : Hid (R[at_]? = some ((AM : Int) + 1)) := by
    rw [Hid, hR]; unfold fcRow
    rw [List.getElem?_append_left (by simpa using han), List.getElem?_map, List.getElem?_range han]
    show some (fcVal n turn at_) = _
    rw [hfv]
   have HR2 : Hid (R[n]? = some (10 * ((SM : Int) + 1))) := by
    rw [Hid, hR]; unfold fcRow
    rw [List.getElem?_append_right (by simp)]
    simp [hfs]
   rw [← hR] at KM0
   rw [hfv, hfs] at KM1
   have l1 := HVL.out n (Nat.le_refl _)
   have l2 := HJL.out n (Nat.le_refl _)
   have l3 := nmK_len (k := at_) (by omega)
   have l4 := itoa_len (m := 10 * ((SM : Int) + 1)) (by omega) (by omega)
   have l5 := listB_len (k := n) (by omega)
   have KLi := Kept.mk (fun W => kp_list n W (by omega))
   have KN := Kept.mk (fun W => kp_name at_ W (by omega))
   have KD1 := Kept.mk (fun W => kp_digits (10 * ((SM : Int) + 1)) W (by omega) (by omega))
   have KD2 := KD1
   have sl : ([108, 105, 115, 116, 32, 108, 32, 61, 32, 91] ++ jB (fcL n turn) n).length ≤ 200 := by simp; omega
   have HT0 : Hid (fkB n turn at_ = ap (ap (ap (ap (ap (ap (ap (varsFB (fcLo n turn at_) (fcHi n turn at_) n) ([108, 105, 115, 116, 32, 108, 32, 61, 32, 91] ++ jB (fcL n turn) n)) [93, 59, 10, 118, 97, 114, 32, 118, 58, 32, 48, 46, 46, 49, 48, 48, 59, 10]) [100, 105, 102, 102, 32]) (listB n)) [59, 10, 97, 116, 32, 108, 91]) (nmK at_)) [93, 32, 61, 32, 118, 59, 10]) := by rw [Hid]; simp [fkB, ap, List.append_assoc]
   have HT1 : Hid (f2B (fcL n turn) (10 * ((SM : Int) + 1)) = ap (ap (ap (ap (ap ([108, 105, 115, 116, 32, 108, 32, 61, 32, 91] ++ jB (fcL n turn) n) [93, 59, 10, 118, 97, 114, 32, 107, 58, 32, 48, 46, 46, 50, 48, 59, 32, 118, 97, 114, 32, 118, 58, 32]) (Lib.itoa (10 * ((SM : Int) + 1)))) [46, 46]) (Lib.itoa (10 * ((SM : Int) + 1)))) [59, 32, 97, 116, 32, 108, 91, 107, 93, 32, 61, 32, 118, 59]) := by rw [Hid]; simp [f2B, fcL_len, ap, List.append_assoc]
   rw [HT0.out] at KM0
   rw [HT1.out] at KM1
   generalize varsFB (fcLo n turn at_) (fcHi n turn at_) n = S at *
   generalize [108, 105, 115, 116, 32, 108, 32, 61, 32, 91] ++ jB (fcL n turn) n = L at *
   generalize Lib.itoa (10 * ((SM : Int) + 1)) = D at *
   generalize nmK at_ = NA at *
   generalize listB n = LB at *
   clear HT0 HT1 hR hAM hSM hfv hfs l2 hlt hk9 HVL HJL
   go_wp2_with (first | (go_at_call 11; refine (KLi.get _).mono ?_; rintro e w1 ⟨rfl, hg1⟩; replace hgr := hgr.trans hg1; clear hg1 KLi) | (go_at_call 7; refine (KN.get _).mono ?_; rintro e w1 ⟨rfl, hg1⟩; replace hgr := hgr.trans hg1; clear hg1 KN) | (go_at_call 6; refine (KD1.get _).mono ?_; rintro e w1 ⟨rfl, hg1⟩; replace hgr := hgr.trans hg1; replace hka := hka.trans hg1; clear hg1 KD1) | (go_at_call 6; refine (KD2.get _).mono ?_; rintro e w1 ⟨rfl, hg1⟩; replace hgr := hgr.trans hg1; replace hka := hka.trans hg1; clear hg1 KD2) | (go_at_call 8; refine (KM0.get hgr).mono ?_; rintro e wa ⟨q1, rfl, hg1, hs1⟩; replace hgr := hgr.trans hg1; have hka := grown_refl wa none; have KS1 := Kept.mk (fun {W2 : World} h => hs1 W2 h); clear hg1 hs1 KM0) | (go_at_call 8; refine (KM1.get hgr).mono ?_; rintro e wb ⟨q2, rfl, hg1, hs1⟩; replace hgr := hgr.trans hg1; replace hka := hka.trans hg1; have hkb := grown_refl wb none; have KS2 := Kept.mk (fun {W2 : World} h => hs1 W2 h); clear hg1 hs1 KM1) | (go_at_call 5; refine (KPO.get _).mono ?_; rintro e w6 ⟨rfl, hww⟩; subst w6) | (go_at_call 9; refine (KS1.get hka).mono ?_; clear KS1; rintro e w7 ⟨vS, rfl, hA, hg1⟩; replace hgr := hgr.trans hg1; replace hkb := hkb.trans hg1; obtain ⟨la, lc, hv1⟩ := hA.is; subst hv1; clear hg1))
   have gA := World.grownBy_alloc w7 (.cells #[.slice la 1 lc, .int .i64 0, .int .i64 1] 29) none
   have hbx := heap_alloc_new w7 (.cells #[.slice la 1 lc, .int .i64 0, .int .i64 1] 29)
   replace hgr := hgr.trans gA
   replace hkb := hkb.trans gA
   replace hA := hA.grown gA
   generalize w7.alloc (.cells #[.slice la 1 lc, .int .i64 0, .int .i64 1] 29) = W5 at *
   generalize w7.heap.size = B at *
   obtain ⟨g, gv, cv, hla, k1, k2, k3, k4⟩ := hA.row (i := 0) (r := R) rfl (fun e => by rw [e] at hRl; simp at hRl)
   subst hla
   rw [hRl] at k2
   have r1 := k4 at_ _ HR1.out
   have r2 := k4 n _ HR2.out
   have b0 := cell_of hbx 0 _ rfl
   have b1 := cell_of hbx 1 _ rfl
   have b2 := cell_of hbx 2 _ rfl
   have lB := some_lt hbx
   have HC4 : Hid (∀ {W : World} {vS : Value}, LL W vS [[(AM : Int) + 1, 10 * ((SM : Int) + 1)]] → ∃ g2 c2 gv2 cv2, vS = .slice (some ⟨g2, 0, none⟩) 1 c2 ∧ g2 < W.heap.size ∧ W.cell? ⟨g2, 0, none⟩ = some (.slice (some ⟨gv2, 0, none⟩) 2 cv2) ∧ ValsIn W (.slice (some ⟨gv2, 0, none⟩) 2 cv2) [(AM : Int) + 1, 10 * ((SM : Int) + 1)]) := fun {W vS} h => by
    obtain ⟨a, c, e⟩ := h.is
    subst e
    obtain ⟨g2, u, e, l, q, hV⟩ := h.at_ (i := 0) rfl
    subst e
    obtain ⟨gv2, cv2, e, _, _⟩ := hV.cells (by simp)
    subst e
    exact ⟨g2, c, gv2, cv2, rfl, l, q, hV⟩
   clear gA hka hA k4 HR1 HR2 hRl hbx
   go_wp2_with (first | (go_at_call 9; refine (KS2.get hkb).mono ?_; clear KS2; rintro e w8 ⟨vS, rfl, hC, hg8⟩; replace hgr := hgr.trans hg8; obtain ⟨g2, mc, gv2, cv2, hv1, m1, m2, hV2⟩ := HC4.out hC; subst hv1; have d0 := hg8.cell b0 (by simp); have d1 := hg8.cell b1 (by simp); have d2 := hg8.cell b2 (by simp); have dl := Nat.lt_of_lt_of_le lB hg8.size; have e0 := hg8.cell k2 (by simp); have e1 := hg8.cell r1 (by simp); have e2 := hg8.cell r2 (by simp); have el := Nat.lt_of_lt_of_le k1 hg8.size; have evl := Nat.lt_of_lt_of_le k3 hg8.size; clear hC hg8 b0 b1 b2 lB k2 r1 r2 k1 k3 hkb HC4))
   have gX := World.grownBy_alloc w8 (.cells #[.slice (some ⟨g2, 0, none⟩) 1 mc, .int .i64 0, .int .i64 1] 29) none
   have hsz : (w8.alloc (.cells #[.slice (some ⟨g2, 0, none⟩) 1 mc, .int .i64 0, .int .i64 1] 29)).heap.size = w8.heap.size + 1 := alloc_size _ _
   have V2 := vals_two (w8.alloc (.cells #[.slice (some ⟨g2, 0, none⟩) 1 mc, .int .i64 0, .int .i64 1] 29)) ((AM : Int) + 1) (10 * ((SM : Int) + 1))
   rw [hsz] at V2
   have gY := gX.trans (World.grownBy_alloc (w8.alloc (.cells #[.slice (some ⟨g2, 0, none⟩) 1 mc, .int .i64 0, .int .i64 1] 29)) (.cells #[.int .i64 ((AM : Int) + 1), .int .i64 (10 * ((SM : Int) + 1))] 3) none)
   have KV := Kept.mk (kp_sameRow (hV2.grown gY) V2 (by simp) (by simp))
   have hdd : decide ([(AM : Int) + 1, 10 * ((SM : Int) + 1)] = [(AM : Int) + 1, 10 * ((SM : Int) + 1)]) = true := by simp
   rw [hdd] at KV
   replace hgr := hgr.trans gY
   replace d0 := gY.cell d0 (by simp)
   replace e0 := gY.cell e0 (by simp)
   replace e1 := gY.cell e1 (by simp)
   replace e2 := gY.cell e2 (by simp)
   replace dl := Nat.lt_of_lt_of_le dl gY.size
   replace el := Nat.lt_of_lt_of_le el gY.size
   replace evl := Nat.lt_of_lt_of_le evl gY.size
   clear gX gY hsz V2 hV2 hdd d1 d2 m1 m2
   generalize (w8.alloc (.cells #[.slice (some ⟨g2, 0, none⟩) 1 mc, .int .i64 0, .int .i64 1] 29)).alloc (.cells #[.int .i64 ((AM : Int) + 1), .int .i64 (10 * ((SM : Int) + 1))] 3) = W6 at *
   go_wp2_with (first | (go_at_call 10; refine KV.get.mono ?_; clear KV; rintro e w9 ⟨rfl, hg9⟩; replace hgr := hgr.trans hg9; have d0' := hg9.cell d0 (by simp); have e0' := hg9.cell e0 (by simp); have e1' := hg9.cell e1 (by simp); have e2' := hg9.cell e2 (by simp); have dl' := Nat.lt_of_lt_of_le dl hg9.size; have el' := Nat.lt_of_lt_of_le el hg9.size; have evl' := Nat.lt_of_lt_of_le evl hg9.size))
   go_ret
   exact ⟨rfl, hgr⟩
theorem kp_Forced (N T P order : Int) (hN1 : -9223372036854775808 ≤ N) (hN2 : N ≤ 9223372036854775807) (hT1 : -9223372036854775808 ≤ T) (hT2 : T ≤ 9223372036854775807) (hP1 : -9223372036854775808 ≤ P) (hP2 : P ≤ 9223372036854775807) (ho1 : -9223372036854775808 ≤ order) (ho2 : order ≤ 9223372036854775807) (ht : PowTab w) (hdb : DbTab w) : Calls Tryz.prog 4 #[.int .i64 N, .int .i64 T, .int .i64 P, .int .i64 order] w fun e w' => e = .returned (.bool true) ∧ w.grownBy w' none := by
 have b5 := pickI_bd N 5 (by decide)
 obtain ⟨n, hn⟩ : ∃ n : Nat, 2 + pickI N 5 = (n : Int) := ⟨(2 + pickI N 5).toNat, by omega⟩
 have hn2 : 2 ≤ n := by omega
 have hn6 : n ≤ 6 := by omega
 have bt := pickI_bd T n (by omega)
 have ba := pickI_bd P n (by omega)
 obtain ⟨turn, htu⟩ : ∃ k : Nat, pickI T n = (k : Int) := ⟨(pickI T n).toNat, by omega⟩
 obtain ⟨at_, hat⟩ : ∃ k : Nat, pickI P n = (k : Int) := ⟨(pickI P n).toNat, by omega⟩
 have htn : turn < n := by omega
 have han : at_ < n := by omega
 have tb : ∀ {W : World}, w.grownBy W none → PowTab W := fun {W} hg => tab_kept ht (fun k hk => hg.block k hk (by simp))
 obtain ⟨a, rs, e⟩ : ∃ a rs, fcL n turn = a :: rs := by
  cases q : fcL n turn with
  | nil => have := fcL_len n turn; rw [q] at this; simp at this; omega
  | cons a rs => exact ⟨a, rs, rfl⟩
 have bl : ∀ x ∈ a :: rs, -1000 ≤ x ∧ x ≤ 1000 := fun x hx => by have := fcL_bd hn2 hn6 x (by rw [e]; exact hx); omega
 have ll : (a :: rs).length ≤ 20 := by rw [← e, fcL_len]; omega
 have fo := fc_ok hn2 hn6 htn han
 unfold fcOk at fo
 rw [Bool.and_eq_true, Bool.and_eq_true, decide_eq_true_eq] at fo
 obtain ⟨⟨su1, su2⟩, fs⟩ := fo
 have bS : 10 ≤ fcS n turn at_ ∧ fcS n turn at_ ≤ 60 := by
  have := Nat.mod_lt ((fcVal n turn at_ - 1).toNat + turn) (show 0 < n by omega)
  rw [fs]; omega
 have ok1 := fkA_ok hn2 hn6 han e
 have fi1 := fkA_fine hn2 hn6 han e
 have ln1 : (srcA (fkA n turn at_ a rs)).length ≤ 2000 := by rw [fkA_src hn2 e]; have := fkB_len (turn := turn) hn2 hn6 han; omega
 have M1 : MdOk (fcV (fun k => bn (nmK k)) (bn [118]) n turn at_) [fcD n, fcA n turn at_] := by have q := src_ok ok1 fi1 ln1; rw [fkA_env hn2 han e, fk_vars] at q; exact q
 have ok2 := f2A_ok (S := fcS n turn at_) bl (by omega) (by omega)
 have fi2 := f2A_fine (S := fcS n turn at_) bl ll (by omega) (by omega)
 have ln2 : (srcA (f2A a rs (fcS n turn at_))).length ≤ 2000 := by rw [f2A_src]; have := f2B_len (S := fcS n turn at_) ll bl (by omega) (by omega); omega
 have M2 : MdOk (fcW (bn [107]) (bn [118]) (fcS n turn at_)) [fcB (fcL n turn)] := by have q := src_ok ok2 fi2 ln2; rw [f2A_env, ← e] at q; exact q
 have K1 := mkK_ok (order := pickI order 2) (weak := false) (budget := 1000000) M1.vars M1.vlen M1.cons M1.clen
 have K2 := mkK_ok (order := pickI order 2) (weak := false) (budget := 1000000) M2.vars M2.vlen M2.cons M2.clen
 have s1 : suitsP (fcV (fun k => bn (nmK k)) (bn [118]) n turn at_) [fcD n, fcA n turn at_] (fcRow n turn at_) = true := by rw [← su1]; exact suits_names fcV_names _ _
 have s2 : suitsP (fcW (bn [107]) (bn [118]) (fcS n turn at_)) [fcB (fcL n turn)] [fcVal n turn at_, fcS n turn at_] = true := by rw [← su2]; exact suits_names rfl _ _
 obtain ⟨x1, x2, x3⟩ := end_one (K := mkK (fcV (fun k => bn (nmK k)) (bn [118]) n turn at_) [fcD n, fcA n turn at_] (pickI order 2) false 1000000) K1 (by show (1 : Int) ≤ 1000000; decide) (fun s h => fc_all hn2 hn6 htn han K1 h) s1
 obtain ⟨y1, y2, y3⟩ := end_one (K := mkK (fcW (bn [107]) (bn [118]) (fcS n turn at_)) [fcB (fcL n turn)] (pickI order 2) false 1000000) K2 (by show (1 : Int) ≤ 1000000; decide) (fun s h => fc_all2 hn2 hn6 htn han K2 h) s2
 refine fc_walk N T P order hN1 hN2 hT1 hT2 hP1 hP2 ho1 ho2 n turn at_ hn htu hat (pickI order 2) rfl ⟨fun W hW => ?_, fun W hW => ?_⟩
 ·have K := kp_model (fkA n turn at_ a rs) ok1 fi1 ln1 W (tb hW)
  rw [fkA_src hn2 e, fkA_env hn2 han e, fk_vars] at K
  refine K.mono ?_
  rintro e w' ⟨b, rfl, hb, hm, hg⟩
  refine ⟨b, rfl, hg, fun W2 hg2 => ?_⟩
  have S := md_Solve (hm.grown hg2) M1 (db_grown hdb ((hW.trans hg).trans hg2)) (pickI order 2) false 1000000 (by decide)
  rw [x1, x2, x3] at S
  refine S.mono ?_
  rintro e w' ⟨vS, rfl, hL, hg⟩
  exact ⟨vS, rfl, hL.ll, hg⟩
 ·have K := kp_model (f2A a rs (fcS n turn at_)) ok2 fi2 ln2 W (tb hW)
  rw [f2A_src, f2A_env, ← e] at K
  refine K.mono ?_
  rintro e w' ⟨b, rfl, hb, hm, hg⟩
  refine ⟨b, rfl, hg, fun W2 hg2 => ?_⟩
  have S := md_Solve (V := fcW (bn [107]) (bn [118]) (fcS n turn at_)) (C := [fcB (fcL n turn)]) (hm.grown hg2) M2 (db_grown hdb ((hW.trans hg).trans hg2)) (pickI order 2) false 1000000 (by decide)
  rw [y1, y2, y3] at S
  refine S.mono ?_
  rintro e w' ⟨vS, rfl, hL, hg⟩
  exact ⟨vS, rfl, hL.ll, hg⟩
end
end Go.Proofs.YthpcbbnabnlanabGreatDoor
