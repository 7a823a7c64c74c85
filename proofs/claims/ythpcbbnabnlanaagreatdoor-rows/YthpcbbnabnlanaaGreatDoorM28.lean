import Derived.Test.YthpcbbnabnlanaaGreatDoorM17
import Derived.Test.YthpcbbnabnlanaaGreatDoorM27
namespace Go.Proofs.YthpcbbnabnlanaaGreatDoor
open Go.RowKit
set_option linter.unusedVariables false
set_option linter.unusedSimpArgs false
section
set_option maxHeartbeats 2000000
set_option maxRecDepth 100000
variable {w w' : World}
theorem md_Solve {b : Nat} {V : List QVar} {C : List QCon} {t : List UInt8} (h : MdAt w b V C t) (hM : MdOk V C) (hdb : DbTab w) (order : Int) (weak : Bool) (budget : Int) (hbu : budget ≤ 9223372036854775807) : Calls Tryz.prog 29 #[.pointer (some ⟨b, 0, none⟩), .int .i64 order, .bool weak, .int .i64 budget] w fun e w' => ∃ vS, e = .returned (.agg #[vS, .int .i64 (solveS (mkK V C order weak budget)).ending, .int .i64 (solveS (mkK V C order weak budget)).nodes]) ∧ LLT w' vS (solveS (mkK V C order weak budget)).sols ∧ w.grownBy w' none := by
  obtain ⟨bc, B, vV, vC, cs, h1, h2, h3⟩ := h.set
  obtain ⟨W0, hW0⟩ : ∃ W0, W0 = w.alloc (.cells #[.slice none 0 0, .int .i64 0, .int .i64 0] 50) := ⟨_, rfl⟩
  have hg0 : w.grownBy W0 none := by rw [hW0]; exact World.grownBy_alloc _ _ _
  have KS := Kept.mk (sv_Solve (w := W0) (K := mkK V C order weak budget) (h2.grown hg0) h3 (db_grown hdb hg0) (mkK_ok hM.vars hM.vlen hM.cons hM.clen) rfl rfl hbu)
  have hbx0 : W0.heap[w.heap.size]? = some (.cells #[.slice none 0 0, .int .i64 0, .int .i64 0] 50 (0, 0)) := by rw [hW0]; exact heap_alloc_new _ _
  have HBX : Hid (∀ W', W0.grownBy W' none → W'.heap[w.heap.size]? = some (.cells #[.slice none 0 0, .int .i64 0, .int .i64 0] 50 (0, 0))) := fun W' hg => (hg.block _ (some_lt hbx0) (by simp)).trans hbx0
  have hlt := h.lt
  generalize hR : solveS (mkK V C order weak budget) = R at *
  have KS' := Kept.mk (show Calls Tryz.prog 37 #[.pointer (some ⟨bc, 1, none⟩), .int .i64 order, .bool weak, .int .i64 budget] W0 fun e w' => ∃ vS, e = .returned (.agg #[vS, .int .i64 R.ending, .int .i64 R.nodes]) ∧ LLT w' vS R.sols ∧ W0.grownBy w' none from KS.get)
  clear KS h h2 h3 hbx0 hdb hM hR
  go_enter Tryz.func29, Tryz.ntmps29
  go_wp2_with (go_at_call 37; rw [← hW0]; refine KS'.get.mono ?_; rintro e w3 ⟨vS, rfl, hL, hg3⟩; obtain ⟨sa, sc, hvS⟩ := hL.ll.is; subst hvS; have bb := HBX.out w3 hg3; have b0 := cell_of bb 0 _ rfl; have b1 := cell_of bb 1 _ rfl; have b2 := cell_of bb 2 _ rfl; have z0 := frozen_of bb 0; have z1 := frozen_of bb 1; have z2 := frozen_of bb 2; have l4 := some_lt bb)
  refine bodyPost_ret (results_cell_row rfl _ _ w.heap.size 50 #[.slice sa R.sols.length sc, .int .i64 R.ending, .int .i64 R.nodes] (0, 0) _ rfl (set3_at bb) Tryz.underlying50 rfl (by kernel_rfl)) rfl ?_
  exact ⟨_, rfl, hL.turn (keep3 bb), set3_grown (hg0.trans hg3) (Nat.le_refl _)⟩
def rngI (lo hi : Int) : List Int := (List.range (hi - lo + 1).toNat).map fun (k : Nat) => lo + (k : Int)
theorem rngI_mem (lo hi x : Int) : x ∈ rngI lo hi ↔ lo ≤ x ∧ x ≤ hi := by
  unfold rngI
  rw [List.mem_map]
  constructor
  · rintro ⟨k, hk, rfl⟩
    rw [List.mem_range] at hk
    omega
  · rintro ⟨h1, h2⟩
    exact ⟨(x - lo).toNat, by rw [List.mem_range]; omega, by omega⟩
theorem rngI_nodup (lo hi : Int) : (rngI lo hi).Nodup := by
  unfold rngI List.Nodup
  rw [List.pairwise_map]
  exact List.nodup_range.imp (fun h e => h (by omega))
def boxV : List (Int × Int) → List (List Int)
  | [] => [[]]
  | v :: vs => (rngI v.1 v.2).flatMap fun x => (boxV vs).map (x :: ·)
def bdV (vars : List QVar) : List (Int × Int) := vars.map fun v => (v.low, v.high)
theorem box_mem : ∀ (vars : List QVar) (x : List Int), x ∈ boxV (bdV vars) ↔ asgF vars x = true
  | [], x => by
    cases x with
    | nil => simp [boxV, bdV, asgF]
    | cons a x => simp [boxV, bdV, asgF]
  | v :: vs, x => by
    show x ∈ (rngI v.low v.high).flatMap (fun y => (boxV (bdV vs)).map (y :: ·)) ↔ _
    rw [List.mem_flatMap]
    constructor
    · rintro ⟨y, hy, hx⟩
      obtain ⟨r, hr, rfl⟩ := List.mem_map.1 hx
      have h1 := (rngI_mem _ _ _).1 hy
      have h2 := (box_mem vs r).1 hr
      simp [asgF, inP, h1, h2]
    · intro h
      cases x with
      | nil => simp [asgF] at h
      | cons y r =>
        simp only [asgF, Bool.and_eq_true, inP, decide_eq_true_eq] at h
        exact ⟨y, (rngI_mem _ _ _).2 h.1, List.mem_map.2 ⟨r, (box_mem vs r).2 h.2, rfl⟩⟩
theorem box_nodup : ∀ vs : List (Int × Int), (boxV vs).Nodup
  | [] => by simp [boxV]
  | v :: vs => by
    have ih := box_nodup vs
    unfold boxV List.Nodup
    rw [List.pairwise_flatMap]
    refine ⟨fun x _ => ?_, (rngI_nodup v.1 v.2).imp (fun {a b} hab r hr s hs e => ?_)⟩
    · rw [List.pairwise_map]
      exact ih.imp (fun h e => h (by injection e))
    · obtain ⟨r', _, rfl⟩ := List.mem_map.1 hr
      obtain ⟨s', _, rfl⟩ := List.mem_map.1 hs
      injection e with e1 e2
      exact hab e1
theorem cnt_rng {lo hi : Int} (h1 : -1000 ≤ lo) (h2 : hi ≤ 1000) : cntD (rngD lo hi) = (rngI lo hi).length := by
  rw [cntD_vals]
  refine List.Perm.length_eq ((List.perm_ext_iff_of_nodup ?_ (rngI_nodup lo hi)).2 (fun x => ?_))
  · rw [valsD_eq]
    unfold List.Nodup
    rw [List.pairwise_map]
    exact (List.nodup_range.filter _).imp (fun h e => h (by omega))
  · rw [valsD_mem, rngI_mem]
    constructor
    · rintro ⟨p, hp, rfl, _⟩
      rw [rngD_bit _ _ h1] at hp
      simp at hp
      omega
    · rintro ⟨q1, q2⟩
      refine ⟨(x + 1000).toNat, ?_, by omega, by omega⟩
      rw [rngD_bit _ _ h1]
      simp
      omega
theorem box_len : ∀ vs : List (Int × Int), (boxV vs).length = vs.foldr (fun v p => (rngI v.1 v.2).length * p) 1
  | [] => rfl
  | v :: vs => by
    have ih := box_len vs
    have key : ∀ (l : List Int), (l.flatMap fun x => (boxV vs).map (x :: ·)).length = l.length * (boxV vs).length := fun l => by
      induction l with
      | nil => simp
      | cons x l ih => rw [List.flatMap_cons, List.length_append, ih, List.length_map, List.length_cons, Nat.succ_mul, Nat.add_comm]
    show ((rngI v.1 v.2).flatMap fun x => (boxV vs).map (x :: ·)).length = (rngI v.1 v.2).length * vs.foldr (fun v p => (rngI v.1 v.2).length * p) 1
    rw [key, ih]
theorem prod_box : ∀ {V : List QVar}, (∀ v ∈ V, -1000 ≤ v.low ∧ v.low ≤ v.high ∧ v.high ≤ 1000) → prodV V = (boxV (bdV V)).length
  | [], _ => rfl
  | v :: V, h => by
    have ih := prod_box (V := V) (fun u hu => h u (by simp [hu]))
    rw [box_len] at ih ⊢
    have hv := h v (by simp)
    show cntD (rngD v.low v.high) * prodV V = (rngI v.low v.high).length * (bdV V).foldr (fun v p => (rngI v.1 v.2).length * p) 1
    rw [ih, cnt_rng hv.1 hv.2.2]
structure AllOf (V : List QVar) (C : List QCon) (order : Int) (r : SS) : Prop where
  ending : r.ending = 0
  perm : r.sols.Perm ((boxV (bdV V)).filter (suitsP V C))
  lex : order ≠ 1 → r.sols.Pairwise LexLt
theorem solve_all {V : List QVar} {C : List QCon} (hM : MdOk V C) (order : Int) (weak : Bool) (budget : Int) (hb : (V.length * (boxV (bdV V)).length + 1 : Int) ≤ budget) (hbox : (boxV (bdV V)).length < 100000) : AllOf V C order (solveS (mkK V C order weak budget)) ∧ 0 ≤ (solveS (mkK V C order weak budget)).nodes ∧ (solveS (mkK V C order weak budget)).nodes ≤ budget := by
  have s := solve_ok (mkK_ok (order := order) (weak := weak) (budget := budget) hM.vars hM.vlen hM.cons hM.clen)
  generalize solveS (mkK V C order weak budget) = r at *
  have hp : prodV (mkK V C order weak budget).vars = (boxV (bdV V)).length := prod_box hM.vars
  have hb0 : 0 ≤ budget := by
    have : (0 : Int) ≤ (V.length : Int) * ((boxV (bdV V)).length : Int) := Int.mul_nonneg (Int.natCast_nonneg _) (Int.natCast_nonneg _)
    omega
  have hmem : ∀ x ∈ r.sols, x ∈ boxV (bdV V) ∧ suitsP V C x = true := fun x hx => by
    have q : suitsP V C x = true := s.suits x hx
    exact ⟨(box_mem V x).2 (by unfold suitsP at q; simp at q; exact q.1), q⟩
  have hle : r.sols.length ≤ (boxV (bdV V)).length := by
    have q : r.sols.Perm ((boxV (bdV V)).filter (fun x => decide (x ∈ r.sols))) := (List.perm_ext_iff_of_nodup s.nd ((box_nodup _).filter _)).2 (fun x => by
      rw [List.mem_filter]
      exact ⟨fun h => ⟨(hmem x h).1, by simpa using h⟩, fun h => by simpa using h.2⟩)
    rw [q.length_eq]
    exact List.length_filter_le _ _
  refine ⟨?_, s.lo, s.hi hb0⟩
  rcases s.ends with ⟨e1, e2⟩ | ⟨e1, e2, e3⟩ | ⟨e1, e2, _⟩
  · refine ⟨e1, (List.perm_ext_iff_of_nodup s.nd ((box_nodup _).filter _)).2 (fun x => ?_), s.lex⟩
    rw [List.mem_filter]
    exact ⟨fun h => hmem x h, fun h => e2 x h.2⟩
  · rw [hp] at e3
    have e3 : r.nodes < (V.length : Int) * ((boxV (bdV V)).length : Int) + 1 := e3
    have e2 : budget ≤ r.nodes := e2
    omega
  · omega
end
section
set_option maxHeartbeats 4000000
set_option maxRecDepth 100000
variable {w w' : World}
def A45 : List (AS × List Pc) := [(.var [120] 4 5, [])]
theorem itoa_dig {k : Nat} (h : k < 10) : Lib.itoa (k : Int) = [UInt8.ofNat (48 + k)] := by
  unfold Lib.itoa
  rw [if_neg (by omega)]
  exact Lib.decDigits_one h
theorem A45_src : bn (srcA A45) = ⟨#[118, 97, 114, 32, 120, 58, 32, 52, 46, 46, 53, 59]⟩ := by
  have e4 : Lib.itoa 4 = [52] := itoa_dig (k := 4) (by decide)
  have e5 : Lib.itoa 5 = [53] := itoa_dig (k := 5) (by decide)
  show bn ([118, 97, 114] ++ ([32] ++ ([120] ++ ([58] ++ ([32] ++ (Lib.itoa 4 ++ ([46, 46] ++ (Lib.itoa 5 ++ ([59] ++ []))))))))) = _
  rw [e4, e5]
  rfl
theorem A45_ok : textOk A45 := fun p hp => by
  have : p = (.var [120] 4 5, []) := by simpa [A45] using hp
  subst this
  exact ⟨⟨⟨rfl, rfl⟩, ⟨by decide, by decide⟩, ⟨by decide, by decide⟩⟩, rfl⟩
theorem A45_fine : allFine E0 A45 := ⟨⟨⟨(fun p hp => by cases hp), (fun p hp => by cases hp)⟩, by decide, by decide, by decide, by decide⟩, trivial⟩
theorem lex_two {l : List (List Int)} {a b : List Int} (h : l.Perm [a, b]) (hp : l.Pairwise LexLt) (hn : ¬ LexLt b a) : l = [a, b] := by
  have hl := h.length_eq
  match l, hl with
  | [x, y], _ =>
    have hx : x ∈ [a, b] := h.mem_iff.1 (by simp)
    have hy : y ∈ [a, b] := h.mem_iff.1 (by simp)
    have hlt : LexLt x y := by simpa using hp
    have ha : a ∈ [x, y] := h.mem_iff.2 (by simp)
    have hb : b ∈ [x, y] := h.mem_iff.2 (by simp)
    simp only [List.mem_cons, List.not_mem_nil, or_false] at hx hy ha hb
    rcases hx with rfl | rfl
    · rcases hy with rfl | rfl
      · rcases hb with rfl | rfl <;> rfl
      · rfl
    · rcases hy with rfl | rfl
      · exact absurd hlt hn
      · rcases ha with rfl | rfl <;> rfl
theorem found_two {weak : Bool} : (solveS (mkK [⟨bn [120], 4, 5⟩] [] 0 weak 10)).sols = [[4], [5]] := by
  have hM : MdOk [⟨bn [120], 4, 5⟩] [] := by
    have q := src_ok A45_ok A45_fine (by have e := congrArg ByteArray.size A45_src; rw [bn_size] at e; rw [e]; decide)
    exact q
  obtain ⟨h1, _, _⟩ := solve_all hM 0 weak 10 (by decide) (by decide)
  have e : (boxV (bdV [⟨bn [120], 4, 5⟩])).filter (suitsP [⟨bn [120], 4, 5⟩] []) = [[4], [5]] := by decide
  have hp := h1.perm
  rw [e] at hp
  refine lex_two hp (h1.lex (by decide)) ?_
  rintro ⟨k, h1, h2⟩
  match k with
  | 0 => exact absurd h2 (by decide)
  | k + 1 => simp at h2
theorem ValsIn.cells {u : Value} {r : List Int} (h : ValsIn w u r) (hne : r ≠ []) : ∃ gv cv, u = .slice (some ⟨gv, 0, none⟩) r.length cv ∧ gv < w.heap.size ∧ ∀ (j : Nat) (x : Int), r[j]? = some x → w.cell? ⟨gv, j, none⟩ = some (.int .i64 x) := by
  rcases h with ⟨e, _⟩ | ⟨gv, cv, hR⟩
  · exact absurd e hne
  · refine ⟨gv, cv, hR.is, hR.lt, fun j x hx => ?_⟩
    have q := hR.at (sz := 1) (fun _ => rfl) hx 0 _ rfl
    rw [Nat.mul_one] at q
    exact q
theorem LL.row {a : Option Addr} {n c : Nat} {rows : List (List Int)} (h : LL w (.slice a n c) rows) {i : Nat} {r : List Int} (hr : rows[i]? = some r) (hne : r ≠ []) : ∃ g gv cv, a = some ⟨g, 0, none⟩ ∧ g < w.heap.size ∧ w.cell? ⟨g, i, none⟩ = some (.slice (some ⟨gv, 0, none⟩) r.length cv) ∧ gv < w.heap.size ∧ ∀ (j : Nat) (x : Int), r[j]? = some x → w.cell? ⟨gv, j, none⟩ = some (.int .i64 x) := by
  obtain ⟨g, u, e, h1, h2, h3⟩ := h.at_ hr
  obtain ⟨gv, cv, rfl, h4, h5⟩ := h3.cells hne
  exact ⟨g, gv, cv, e, h1, h2, h4, h5⟩
theorem kp_found {b : Nat} {V : List QVar} {C : List QCon} {t : List UInt8} (h : MdAt w b V C t) (hM : MdOk V C) (ht : PowTab w) (hdb : DbTab w) (order : Int) (weak : Bool) (ho1 : -9223372036854775808 ≤ order) (ho2 : order ≤ 9223372036854775807) (hb : (V.length * (boxV (bdV V)).length + 1 : Int) ≤ 1000000) (hbox : (boxV (bdV V)).length < 100000) : Calls Tryz.prog 22 #[.pointer (some ⟨b, 0, none⟩), .int .i64 order, .bool weak] w fun e w' => ∃ vS, e = .returned (.tuple #[vS, .bool true]) ∧ LLT w' vS (solveS (mkK V C (pickI order 2) weak 1000000)).sols ∧ w.grownBy w' none := by
  have hlen : (srcA A45).length ≤ 2000 := by have e := congrArg ByteArray.size A45_src; rw [bn_size] at e; rw [e]; decide
  have KM := Kept.mk (kp_model A45 A45_ok A45_fine hlen w ht)
  rw [A45_src] at KM
  have hM0 := src_ok A45_ok A45_fine hlen
  have KQ := Kept.mk (fun {W : World} {b0 : Nat} {t0 : List UInt8} (hg : w.grownBy W none) (hm : MdAt W b0 ((envOf E0 A45).V.map qv) (envOf E0 A45).C t0) => md_Solve hm hM0 (db_grown hdb hg) 0 weak 10 (by decide))
  have KR := Kept.mk (fun {W : World} (hg : w.grownBy W none) => md_Solve (h.grown hg) hM (db_grown hdb hg) (pickI order 2) weak 1000000 (by decide))
  have KP := Kept.mk (fun W => kp_pick order 2 W ho1 ho2 (by decide) (by decide))
  have hf2 := found_two (weak := weak)
  have e2 : (envOf E0 A45).V.map qv = [⟨bn [120], 4, 5⟩] := rfl
  have e3 : (envOf E0 A45).C = [] := rfl
  rw [e2, e3] at KQ
  rw [e2, e3] at KM
  obtain ⟨hA, hn0, hn1⟩ := solve_all hM (pickI order 2) weak 1000000 hb hbox
  have hend := hA.ending
  rw [hend] at KR
  generalize solveS (mkK V C (pickI order 2) weak 1000000) = R at *
  generalize hQ : solveS (mkK [⟨bn [120], 4, 5⟩] [] 0 weak 10) = Q at *
  have hrow : Q.sols.length = 2 := by rw [hf2]; rfl
  have HROW : Hid (Q.sols[0]? = some [4]) := by rw [Hid, hf2]; rfl
  generalize pickI order 2 = PO at *
  clear h hM ht hdb hA hend hf2 hM0 hlen hQ e2 e3
  go_enter Tryz.func22, Tryz.ntmps22
  go_wp2_with (first | (go_at_call 21; refine KM.get.mono ?_; rintro e w1 ⟨b0, rfl, hb0, hm1, hg1⟩) | (go_at_call 29; refine (KQ.get hg1 hm1).mono ?_; rintro e w2 ⟨vQ, rfl, hL2, hg2⟩; obtain ⟨qa, qc, hvQ⟩ := hL2.ll.is; subst hvQ; obtain ⟨g, gv, cv, rfl, q1, q2, q3, q4⟩ := hL2.ll.row HROW.out (by simp); have q5 := q4 0 4 rfl; clear q4 hL2))
  have hgA := ((hg1.trans hg2).trans (World.grownBy_alloc w2 (.cells #[.slice (some ⟨g, 0, none⟩) 2 qc, .int .i64 Q.ending, .int .i64 Q.nodes] 50) none))
  generalize w2.alloc (.cells #[.slice (some ⟨g, 0, none⟩) 2 qc, .int .i64 Q.ending, .int .i64 Q.nodes] 50) = W5 at *
  clear q1 q2 q3 q5 KQ KM hg1 hg2 hm1
  go_wp2_with (first | (go_at_call 16; refine (KP.get _).mono ?_; rintro e w6 ⟨rfl, rfl⟩) | (go_at_call 29; refine (KR.get hgA).mono ?_; rintro e w4 ⟨vR, rfl, hL4, hg4⟩; obtain ⟨ra, rc, hvR⟩ := hL4.ll.is; subst hvR))
  go_quiet (fail)
  go_wp2
  go_ret2
  exact ⟨_, rfl, (hL4.grown (World.grownBy_alloc _ _ _)).grown (grown_drewN' _ _ _), ((hgA.trans hg4).trans (World.grownBy_alloc _ _ _)).trans (grown_drewN' _ _ _)⟩
end
section
theorem textPc_app : ∀ A B : List (AS × List Pc), textPc (A ++ B) = textPc A ++ textPc B
  | [], B => rfl
  | (a, b) :: r, B => by
    show a.pcs ++ (.sg [59] :: (b ++ textPc (r ++ B))) = (a.pcs ++ (.sg [59] :: (b ++ textPc r))) ++ textPc B
    rw [textPc_app r B]
    simp [List.append_assoc]
theorem srcA_app (A B : List (AS × List Pc)) : srcA (A ++ B) = srcA A ++ srcA B := by unfold srcA; rw [textPc_app, bytesP_app]
theorem srcA_one (a : AS) (b : List Pc) : srcA [(a, b)] = bytesP a.pcs ++ (59 :: bytesP b) := by
  show bytesP (a.pcs ++ (.sg [59] :: (b ++ []))) = _
  rw [List.append_nil, bytesP_app, bytesP_cons]
  rfl
theorem textOk_app {A B : List (AS × List Pc)} (h : textOk A) (k : textOk B) : textOk (A ++ B) := fun p hp => by
  rcases List.mem_append.1 hp with q | q
  · exact h p q
  · exact k p q
theorem dec_inj {u v : Nat} (h : Lib.decDigits u = Lib.decDigits v) : u = v := by
  have h1 := numTo_dec u
  have h2 := numTo_dec v
  rw [h, h2] at h1
  omega
theorem itoa_nat (k : Nat) : Lib.itoa (k : Int) = Lib.decDigits k := by
  unfold Lib.itoa
  rw [if_neg (by omega)]
  rfl
theorem nmK_inj {j k : Nat} (h : nmK j = nmK k) : j = k := by
  unfold nmK at h
  rw [itoa_nat, itoa_nat] at h
  injection h with _ h
  exact dec_inj h
theorem nmK_dig {k : Nat} (h : k < 10) : nmK k = [120, UInt8.ofNat (48 + k)] := by unfold nmK; rw [itoa_dig h]
theorem nmK_ok {k : Nat} (h : k < 10) : nmOk (nmK k) := by
  rw [nmK_dig h]
  have : k = 0 ∨ k = 1 ∨ k = 2 ∨ k = 3 ∨ k = 4 ∨ k = 5 ∨ k = 6 ∨ k = 7 ∨ k = 8 ∨ k = 9 := by omega
  rcases this with rfl | rfl | rfl | rfl | rfl | rfl | rfl | rfl | rfl | rfl <;> exact ⟨rfl, rfl⟩
def VN (n : Nat) (lo hi : Int) : List (List UInt8 × Int × Int) := (List.range n).map fun k => (nmK k, lo, hi)
theorem VN_succ (n : Nat) (lo hi : Int) : VN (n + 1) lo hi = VN n lo hi ++ [(nmK n, lo, hi)] := by simp [VN, List.range_succ]
theorem VN_len (n : Nat) (lo hi : Int) : (VN n lo hi).length = n := by simp [VN]
theorem VN_mem {n : Nat} {lo hi : Int} {p : List UInt8 × Int × Int} (h : p ∈ VN n lo hi) : ∃ k, k < n ∧ p = (nmK k, lo, hi) := by
  obtain ⟨k, hk, rfl⟩ := List.mem_map.1 h
  exact ⟨k, List.mem_range.1 hk, rfl⟩
theorem VN_in {n k : Nat} {lo hi : Int} (h : k < n) : (nmK k, lo, hi) ∈ VN n lo hi := List.mem_map.2 ⟨k, List.mem_range.2 h, rfl⟩
theorem inV_nm {n k : Nat} {lo hi : Int} {L : List (List UInt8 × List Int)} {C : List QCon} (h : k < n) : (Env.mk (VN n lo hi) L C).inV (nmK k) := ⟨_, VN_in h, rfl⟩
theorem ix_nm {n : Nat} {lo hi : Int} {L : List (List UInt8 × List Int)} {C : List QCon} : ∀ {k : Nat}, k < n → (Env.mk (VN n lo hi) L C).ix (nmK k) = k := by
  induction n with
  | zero => intro k h; omega
  | succ n ih =>
    intro k h
    by_cases e : k = n
    · subst e
      rw [VN_succ]
      have q := ix_new (E := Env.mk (VN k lo hi) L C) (n := nmK k) (fun p hp e => by
        obtain ⟨j, hj, rfl⟩ := VN_mem hp
        have := nmK_inj e
        omega) lo hi L C
      rw [q]
      exact VN_len k lo hi
    · rw [VN_succ]
      have q := ix_old (E := Env.mk (VN n lo hi) L C) (n := nmK k) (inV_nm (by omega)) (nmK n, lo, hi) L C
      rw [q]
      exact ih (by omega)
theorem varsA_env (lo hi : Int) : ∀ n : Nat, envOf E0 (varsA lo hi n) = ⟨VN n lo hi, [], []⟩
  | 0 => rfl
  | n + 1 => by
    show envOf E0 (varsA lo hi n ++ [(.var (nmK n) lo hi, [.nl])]) = _
    rw [envOf_app, varsA_env lo hi n, VN_succ]
    rfl
theorem varsA_fine {lo hi : Int} (h1 : -1000 ≤ lo) (h2 : lo ≤ hi) (h3 : hi ≤ 1000) : ∀ n : Nat, n ≤ 8 → allFine E0 (varsA lo hi n)
  | 0, _ => trivial
  | n + 1, h => by
    refine allFine_app (varsA_fine h1 h2 h3 n (by omega)) ?_
    rw [varsA_env]
    refine ⟨⟨⟨fun p hp e => ?_, fun p hp => by cases hp⟩, ?_, h1, h2, h3⟩, trivial⟩
    · obtain ⟨j, hj, rfl⟩ := VN_mem hp
      have := nmK_inj e
      omega
    · show (VN n lo hi).length < 8
      rw [VN_len]; omega
theorem varsA_ok {lo hi : Int} (h1 : -1000 ≤ lo) (h2 : lo ≤ hi) (h3 : hi ≤ 1000) : ∀ n : Nat, n ≤ 8 → textOk (varsA lo hi n)
  | 0, _ => fun p hp => by cases hp
  | n + 1, h => by
    refine textOk_app (varsA_ok h1 h2 h3 n (by omega)) (fun p hp => ?_)
    have : p = (.var (nmK n) lo hi, [.nl]) := by simpa using hp
    subst this
    exact ⟨⟨nmK_ok (by omega), ⟨by omega, by omega⟩, ⟨by omega, by omega⟩⟩, rfl⟩
theorem varsA_src (lo hi : Int) : ∀ n : Nat, srcA (varsA lo hi n) = varsB lo hi n
  | 0 => rfl
  | n + 1 => by
    show srcA (varsA lo hi n ++ [(.var (nmK n) lo hi, [.nl])]) = varsB lo hi n ++ varB n lo hi
    rw [srcA_app, varsA_src lo hi n, srcA_one]
    congr 1
    simp [bytesP, AS.pcs, Pc.bytes, varB]
def nms (n : Nat) : List (List UInt8) := (List.range n).map fun k => nmK (k + 1)
theorem serPc_app {α : Type} (f : α → List Pc) : ∀ a b : List α, serPc f (a ++ b) = serPc f a ++ serPc f b
  | [], b => rfl
  | x :: a, b => by
    show .sg [44] :: .sp :: (f x ++ serPc f (a ++ b)) = (.sg [44] :: .sp :: (f x ++ serPc f a)) ++ serPc f b
    rw [serPc_app f a b]; simp [List.append_assoc]
theorem list_src : ∀ n : Nat, nmK 0 ++ bytesP (serPc (fun n => [Pc.word n]) (nms n)) = listB (n + 1)
  | 0 => by simp [nms, serPc, bytesP, listB]
  | n + 1 => by
    have e : nms (n + 1) = nms n ++ [nmK (n + 1)] := by simp [nms, List.range_succ]
    rw [e, serPc_app, bytesP_app, ← List.append_assoc, list_src n]
    show listB (n + 1) ++ _ = listB (n + 1) ++ ((if n + 1 = 0 then [] else [44, 32]) ++ nmK (n + 1))
    congr 1
    rw [if_neg (by omega)]
    simp [serPc, bytesP, Pc.bytes]
def diffA (n : Nat) (b : List Pc) : List (AS × List Pc) := [(.diff (nmK 0) (nms n), b)]
theorem diffA_src (n : Nat) (b : List Pc) : srcA (diffA n b) = [100, 105, 102, 102, 32] ++ (listB (n + 1) ++ (59 :: bytesP b)) := by
  unfold diffA
  rw [srcA_one, ← list_src]
  simp [AS.pcs, bytesP, Pc.bytes]
theorem diffA_ok {n : Nat} {b : List Pc} (h : n < 9) (hb : blank b = true) : textOk (diffA n b) := fun p hp => by
  have : p = (.diff (nmK 0) (nms n), b) := by simpa [diffA] using hp
  subst this
  refine ⟨⟨nmK_ok (by omega), fun m hm => ?_⟩, hb⟩
  obtain ⟨k, hk, rfl⟩ := List.mem_map.1 hm
  exact nmK_ok (by have := List.mem_range.1 hk; omega)
theorem diffA_fine {n : Nat} {lo hi : Int} {b : List Pc} {L : List (List UInt8 × List Int)} {C : List QCon} (h : n < 8) (hC : C.length < 16) : allFine ⟨VN (n + 1) lo hi, L, C⟩ (diffA n b) := by
  refine ⟨⟨hC, by simp [nms]; omega, fun m hm => ?_⟩, trivial⟩
  rcases List.mem_cons.1 hm with rfl | hm
  · exact inV_nm (by omega)
  · obtain ⟨k, hk, rfl⟩ := List.mem_map.1 hm
    exact inV_nm (by have := List.mem_range.1 hk; omega)
def diffC (n : Nat) : QCon := ⟨3, 0, [], 0, 0, [], 0, 0, (List.range (n + 1)).map (fun k : Nat => (k : Int)), []⟩
theorem diffA_env {n : Nat} {lo hi : Int} {b : List Pc} {L : List (List UInt8 × List Int)} {C : List QCon} : envOf ⟨VN (n + 1) lo hi, L, C⟩ (diffA n b) = ⟨VN (n + 1) lo hi, L, C ++ [diffC n]⟩ := by
  show (⟨VN (n + 1) lo hi, L, C ++ [QCon.mk 3 0 [] 0 0 [] 0 0 ((nmK 0 :: nms n).map (fun m => ((Env.mk (VN (n + 1) lo hi) L C).ix m : Int))) []]⟩ : Env) = _
  have e : (nmK 0 :: nms n).map (fun m => ((Env.mk (VN (n + 1) lo hi) L C).ix m : Int)) = (List.range (n + 1)).map (fun k : Nat => (k : Int)) := by
    have e1 : nmK 0 :: nms n = (List.range (n + 1)).map nmK := by rw [List.range_succ_eq_map]; simp [nms]
    rw [e1, List.map_map]
    refine List.map_congr_left (fun k hk => ?_)
    show ((Env.mk (VN (n + 1) lo hi) L C).ix (nmK k) : Int) = k
    rw [ix_nm (List.mem_range.1 hk)]
  rw [e]
  rfl
end
section
def qV (n : Nat) : List QVar := (VN n 1 n).map qv
end
section
def pk : Nat → List Int → List (List Int)
  | 0, _ => [[]]
  | k + 1, l => l.flatMap fun a => (pk k (l.erase a)).map (a :: ·)
def pkN : Nat → Nat → Nat
  | 0, _ => 1
  | k + 1, m => m * pkN k (m - 1)
theorem pk_mem : ∀ (k : Nat) (l : List Int), l.Nodup → ∀ x : List Int, x ∈ pk k l ↔ x.length = k ∧ x.Nodup ∧ ∀ a ∈ x, a ∈ l
  | 0, l, _, x => by
    constructor
    · intro h
      have : x = [] := by simpa [pk] using h
      subst this
      simp
    · rintro ⟨h, _⟩
      have : x = [] := List.length_eq_zero_iff.1 h
      simp [pk, this]
  | k + 1, l, hl, x => by
    show x ∈ l.flatMap (fun a => (pk k (l.erase a)).map (a :: ·)) ↔ _
    rw [List.mem_flatMap]
    constructor
    · rintro ⟨a, ha, hx⟩
      obtain ⟨y, hy, rfl⟩ := List.mem_map.1 hx
      obtain ⟨h1, h2, h3⟩ := (pk_mem k (l.erase a) (hl.erase a) y).1 hy
      refine ⟨by simp [h1], List.nodup_cons.2 ⟨fun q => ?_, h2⟩, fun b hb => ?_⟩
      · have := h3 a q
        exact (List.Nodup.mem_erase_iff hl).1 this |>.1 rfl
      · rcases List.mem_cons.1 hb with e | e
        · rw [e]; exact ha
        · exact List.mem_of_mem_erase (h3 b e)
    · rintro ⟨h1, h2, h3⟩
      cases x with
      | nil => simp at h1
      | cons a y =>
        obtain ⟨h4, h5⟩ := List.nodup_cons.1 h2
        refine ⟨a, h3 a (by simp), List.mem_map.2 ⟨y, ?_, rfl⟩⟩
        refine (pk_mem k (l.erase a) (hl.erase a) y).2 ⟨by simpa using h1, h5, fun b hb => ?_⟩
        refine (List.Nodup.mem_erase_iff hl).2 ⟨fun e => h4 (by rw [← e]; exact hb), h3 b (by simp [hb])⟩
theorem pk_nodup : ∀ (k : Nat) (l : List Int), l.Nodup → (pk k l).Nodup
  | 0, _, _ => by simp [pk]
  | k + 1, l, hl => by
    unfold pk List.Nodup
    rw [List.pairwise_flatMap]
    refine ⟨fun a _ => ?_, List.Pairwise.imp (fun {a b} hab r hr s hs e => ?_) hl⟩
    · rw [List.pairwise_map]
      exact List.Pairwise.imp (fun h e => h (by injection e)) (pk_nodup k (l.erase a) (hl.erase a))
    · obtain ⟨r', _, rfl⟩ := List.mem_map.1 hr
      obtain ⟨s', _, rfl⟩ := List.mem_map.1 hs
      injection e with e1 e2
      exact hab e1
theorem pk_len : ∀ (k : Nat) (l : List Int), (pk k l).length = pkN k l.length
  | 0, _ => rfl
  | k + 1, l => by
    have key : ∀ (m : List Int), (∀ a ∈ m, a ∈ l) → (m.flatMap fun a => (pk k (l.erase a)).map (a :: ·)).length = m.length * pkN k (l.length - 1) := fun m => by
      induction m with
      | nil => intro _; simp
      | cons a m ih =>
        intro h
        have h1 : (l.erase a).length = l.length - 1 := List.length_erase_of_mem (h a (by simp))
        rw [List.flatMap_cons, List.length_append, ih (fun b hb => h b (by simp [hb])), List.length_map, pk_len k (l.erase a), h1, List.length_cons, Nat.succ_mul, Nat.add_comm]
    exact key l (fun a h => h)
def rA (n : Nat) : List (AS × List Pc) := varsA 1 n n ++ diffA (n - 1) []
def rB (n : Nat) : List UInt8 := varsB 1 n n ++ ([100, 105, 102, 102, 32] ++ (listB n ++ [59]))
theorem rA_src {n : Nat} (hn : 1 ≤ n) : srcA (rA n) = rB n := by
  unfold rA rB
  rw [srcA_app, varsA_src, diffA_src, show n - 1 + 1 = n by omega]
  rfl
theorem rA_ok {n : Nat} (h1 : 1 ≤ n) (hn : n ≤ 8) : textOk (rA n) := textOk_app (varsA_ok (by omega) (by omega) (by omega) n hn) (diffA_ok (by omega) rfl)
theorem rA_env {n : Nat} (h1 : 1 ≤ n) : envOf E0 (rA n) = ⟨VN n 1 n, [], [diffC (n - 1)]⟩ := by
  obtain ⟨m, rfl⟩ : ∃ m, n = m + 1 := ⟨n - 1, by omega⟩
  show envOf E0 (varsA 1 _ (m + 1) ++ diffA m []) = _
  rw [envOf_app, varsA_env, diffA_env]
  rfl
theorem rA_fine {n : Nat} (h1 : 1 ≤ n) (hn : n ≤ 8) : allFine E0 (rA n) := by
  obtain ⟨m, rfl⟩ : ∃ m, n = m + 1 := ⟨n - 1, by omega⟩
  refine allFine_app (varsA_fine (by omega) (by omega) (by omega) _ (by omega)) ?_
  rw [varsA_env]
  exact diffA_fine (by omega) (by simp)
theorem rB_len {n : Nat} (hn : n ≤ 8) : (rB n).length ≤ 700 := by
  have a := varsB_len (lo := 1) (hi := n) (itoa_len (by omega) (by omega)) (itoa_len (by omega) (by omega)) (k := n) (by omega)
  have b := listB_len (k := n) (by omega)
  simp [rB]; omega
theorem asg_all {lo hi : Int} : ∀ {vars : List QVar} {x : List Int}, (∀ v ∈ vars, v.low = lo ∧ v.high = hi) → (asgF vars x = true ↔ x.length = vars.length ∧ ∀ a ∈ x, lo ≤ a ∧ a ≤ hi)
  | [], [], _ => by simp [asgF]
  | [], a :: x, _ => by simp [asgF]
  | v :: vs, [], _ => by simp [asgF]
  | v :: vs, a :: x, h => by
    obtain ⟨h1, h2⟩ := h v (by simp)
    have ih := asg_all (vars := vs) (x := x) (fun u hu => h u (by simp [hu]))
    simp only [asgF, inP, Bool.and_eq_true, decide_eq_true_eq, ih, h1, h2, List.length_cons, List.mem_cons]
    constructor
    · rintro ⟨q1, q2, q3⟩
      exact ⟨by omega, fun b hb => by rcases hb with rfl | hb; exact q1; exact q3 b hb⟩
    · rintro ⟨q1, q2⟩
      exact ⟨q2 a (.inl rfl), by omega, fun b hb => q2 b (.inr hb)⟩
theorem qV_all {n : Nat} : ∀ v ∈ qV n, v.low = 1 ∧ v.high = (n : Int) := fun v hv => by
  obtain ⟨p, hp, rfl⟩ := List.mem_map.1 hv
  obtain ⟨k, _, rfl⟩ := VN_mem hp
  exact ⟨rfl, rfl⟩
theorem qV_len (n : Nat) : (qV n).length = n := by unfold qV; rw [List.length_map, VN_len]
theorem diff_nodup {x : List Int} {n : Nat} (h : x.length = n) : diffP x ((List.range n).map (fun k : Nat => (k : Int))) = true ↔ x.Nodup := by
  unfold diffP newP List.Nodup
  rw [List.pairwise_iff_getElem, List.all_eq_true]
  have hv : ∀ k : Nat, vAt x (k : Int) = x.getD k 0 := fun k => rfl
  have hg : ∀ i : Nat, i < n → ((List.range n).map (fun k : Nat => (k : Int))).getD i 0 = i := fun i hi => by
    rw [List.getD_eq_getElem?_getD, List.getElem?_map, List.getElem?_range hi]; rfl
  have ht : ∀ (i : Nat), i < n → ∀ u : Int, u ∈ ((List.range n).map (fun k : Nat => (k : Int))).take i ↔ ∃ k : Nat, k < i ∧ u = k := fun i hi u => by
    rw [← List.map_take, List.take_range, List.mem_map]
    constructor
    · rintro ⟨k, hk, rfl⟩
      exact ⟨k, by have := List.mem_range.1 hk; omega, rfl⟩
    · rintro ⟨k, hk, rfl⟩
      exact ⟨k, List.mem_range.2 (by omega), rfl⟩
  constructor
  · intro q i j hi hj hij
    have r := q j (List.mem_range.2 (by simp; omega))
    rw [List.all_eq_true] at r
    have r2 := r (i : Int) ((ht j (by omega) _).2 ⟨i, hij, rfl⟩)
    rw [hg j (by omega), hv, hv, List.getD_eq_getElem?_getD, List.getD_eq_getElem?_getD, List.getElem?_eq_getElem hi, List.getElem?_eq_getElem hj] at r2
    have r3 : x[j] ≠ x[i] := by simpa using r2
    exact fun e => r3 e.symm
  · intro q j hj
    have hj : j < n := by simpa using List.mem_range.1 hj
    rw [List.all_eq_true]
    intro u hu
    obtain ⟨i, hij, rfl⟩ := (ht j hj u).1 hu
    rw [hg j hj, hv, hv, List.getD_eq_getElem?_getD, List.getD_eq_getElem?_getD, List.getElem?_eq_getElem (show i < x.length by omega), List.getElem?_eq_getElem (show j < x.length by omega)]
    have r := q i j (by omega) (by omega) hij
    simpa using fun e => r e.symm
theorem r_suits {n : Nat} (hn : 1 ≤ n) (x : List Int) : suitsP (qV n) [diffC (n - 1)] x = true ↔ x.length = n ∧ x.Nodup ∧ ∀ a ∈ x, 1 ≤ a ∧ a ≤ (n : Int) := by
  have e : conP x (diffC (n - 1)) = diffP x ((List.range n).map (fun k : Nat => (k : Int))) := by
    have : n - 1 + 1 = n := by omega
    show diffP x ((List.range (n - 1 + 1)).map (fun k : Nat => (k : Int))) = _
    rw [this]
  unfold suitsP
  rw [Bool.and_eq_true, asg_all qV_all, qV_len]
  simp only [List.all_cons, List.all_nil, Bool.and_true, e]
  constructor
  · rintro ⟨⟨h1, h2⟩, h3⟩
    exact ⟨h1, (diff_nodup h1).1 h3, h2⟩
  · rintro ⟨h1, h2, h3⟩
    exact ⟨⟨h1, h3⟩, (diff_nodup h1).2 h2⟩
def rWant (n : Nat) : Nat := [1, 1, 2, 6, 24, 120, 720].getD n 0
theorem r_box {n : Nat} (h1 : 1 ≤ n) (hn : n ≤ 6) : n * (boxV (bdV (qV n))).length + 1 ≤ 1000000 ∧ (boxV (bdV (qV n))).length < 100000 := by
  rw [box_len]
  have : n = 1 ∨ n = 2 ∨ n = 3 ∨ n = 4 ∨ n = 5 ∨ n = 6 := by omega
  rcases this with rfl | rfl | rfl | rfl | rfl | rfl <;> exact ⟨of_decide_eq_true (by kernel_rfl), of_decide_eq_true (by kernel_rfl)⟩
theorem r_count {n : Nat} (h1 : 1 ≤ n) (hn : n ≤ 6) {l : List (List Int)} (h : l.Perm ((boxV (bdV (qV n))).filter (suitsP (qV n) [diffC (n - 1)]))) : l.length = rWant n ∧ l.Nodup ∧ ∀ x ∈ l, x.length = n ∧ x.Nodup ∧ ∀ a ∈ x, 1 ≤ a ∧ a ≤ (n : Int) := by
  have hm : ∀ x, x ∈ l ↔ x.length = n ∧ x.Nodup ∧ ∀ a ∈ x, 1 ≤ a ∧ a ≤ (n : Int) := fun x => by
    rw [h.mem_iff, List.mem_filter, box_mem, ← r_suits h1]
    exact ⟨fun q => q.2, fun q => ⟨by unfold suitsP at q; rw [Bool.and_eq_true] at q; exact q.1, q⟩⟩
  have hnd : l.Nodup := h.nodup_iff.2 ((box_nodup _).filter _)
  refine ⟨?_, hnd, fun x hx => (hm x).1 hx⟩
  have q : l.Perm (pk n (rngI 1 n)) := (List.perm_ext_iff_of_nodup hnd (pk_nodup _ _ (rngI_nodup _ _))).2 (fun x => by
    rw [hm, pk_mem n _ (rngI_nodup _ _)]
    simp only [rngI_mem])
  rw [q.length_eq, pk_len]
  have : n = 1 ∨ n = 2 ∨ n = 3 ∨ n = 4 ∨ n = 5 ∨ n = 6 := by omega
  rcases this with rfl | rfl | rfl | rfl | rfl | rfl <;> decide
end
section
variable {w w' : World}
def ap (a b : List UInt8) : List UInt8 := a ++ b
theorem ap_len (a b : List UInt8) : (ap a b).length = a.length + b.length := List.length_append
theorem bn_ap (a b : List UInt8) : bn a ++ bn b = bn (ap a b) := bn_app a b
theorem bn_mk_ap (a : List UInt8) (xs : Array UInt8) : bn a ++ ⟨xs⟩ = bn (ap a xs.toList) := bn_app a xs.toList
theorem mk_bn_ap (a : List UInt8) (xs : Array UInt8) : (⟨xs⟩ : ByteArray) ++ bn a = bn (ap xs.toList a) := bn_app xs.toList a
attribute [local go_sem] bn_ap bn_mk_ap mk_bn_ap bn_size mk_size ap_len List.length_cons List.length_nil
end
section
set_option maxHeartbeats 8000000
set_option maxRecDepth 100000
variable {w w' : World}
def seenA (x : List Int) (k : Nat) : Array Value := ((List.range 7).map fun v : Nat => Value.int .i64 (if (v : Int) ∈ x.take k then 1 else 0)).toArray
theorem seen_zero (x : List Int) : seenA x 0 = #[.int .i64 0, .int .i64 0, .int .i64 0, .int .i64 0, .int .i64 0, .int .i64 0, .int .i64 0] := by
  unfold seenA
  simp only [List.take_zero, List.not_mem_nil, if_false]
  rfl
theorem seen_at {x : List Int} {k : Nat} {y : Int} (hy : x[k]? = some y) (hn : x.Nodup) (h1 : 1 ≤ y) (h2 : y ≤ 6) : (seenA x k)[y.toNat]? = some (.int .i64 0) ∧ (seenA x k).setIfInBounds y.toNat (.int .i64 1) = seenA x (k + 1) := by
  have hk : k < x.length := (List.getElem?_eq_some_iff.1 hy).1
  have hxk : x[k] = y := by rw [List.getElem?_eq_getElem hk] at hy; exact Option.some.inj hy
  have hno : y ∉ x.take k := fun q => by
    obtain ⟨j, hj, e⟩ := List.getElem_of_mem q
    have hj2 : j < k := by rw [List.length_take] at hj; omega
    rw [List.getElem_take] at e
    have r := (List.pairwise_iff_getElem.1 hn) j k (by omega) hk hj2
    exact r (by rw [e, hxk])
  have hyt : ((y.toNat : Nat) : Int) = y := by omega
  have hy7 : y.toNat < 7 := by omega
  constructor
  · unfold seenA
    rw [List.getElem?_toArray, List.getElem?_map, List.getElem?_range hy7]
    simp only [Option.map_some, hyt, if_neg hno]
  · apply Array.ext_getElem?
    intro j
    unfold seenA
    rw [Array.getElem?_setIfInBounds, List.getElem?_toArray, List.getElem?_toArray, List.getElem?_map, List.getElem?_map]
    by_cases e : y.toNat = j
    · subst e
      have hin : y ∈ x.take (k + 1) := by rw [List.take_add_one, hy]; simp
      rw [if_pos rfl, List.getElem?_range hy7]
      simp [hyt, hin, hy7]
    · rw [if_neg e]
      by_cases hj : j < 7
      · rw [List.getElem?_range hj]
        have hjy : (j : Int) ≠ y := by omega
        have e2 : (j : Int) ∈ x.take (k + 1) ↔ (j : Int) ∈ x.take k := by
          rw [List.take_add_one, hy]
          simp [hjy]
        simp [e2]
      · rw [List.getElem?_eq_none (by simp; omega)]
        rfl
theorem LL.take {a : Option Addr} {n c : Nat} {rows : List (List Int)} (h : LL w (.slice a n c) rows) {i : Nat} (hi : i ≤ rows.length) : LL w (.slice a i c) (rows.take i) := by
  have hl : (rows.take i).length = i := by rw [List.length_take]; omega
  rcases h with ⟨rfl, q⟩ | ⟨g, cap, e, h1, h2, h3⟩
  · have : i = 0 := by simpa using hi
    subst this
    exact .inl ⟨rfl, a, c, rfl⟩
  · injection e with e1 e2 e3
    subst e1 e3
    refine .inr ⟨g, c, by rw [hl], h1, fun j r hr => h2 j r ?_, by rw [hl]; omega⟩
    rw [List.getElem?_take] at hr
    split at hr
    · exact hr
    · cases hr
theorem not_before {rows : List (List Int)} (hn : rows.Nodup) {i : Nat} {x : List Int} (hx : rows[i]? = some x) : x ∉ rows.take i := fun q => by
  have hi : i < rows.length := (List.getElem?_eq_some_iff.1 hx).1
  have hxi : rows[i] = x := by rw [List.getElem?_eq_getElem hi] at hx; exact Option.some.inj hx
  obtain ⟨j, hj, e⟩ := List.getElem_of_mem q
  have hj2 : j < i := by rw [List.length_take] at hj; omega
  rw [List.getElem_take] at e
  exact (List.pairwise_iff_getElem.1 hn) j i (by omega) hi hj2 (by rw [e, hxi])
attribute [local go_sem] bn_ap bn_mk_ap mk_bn_ap bn_size mk_size ap_len List.length_cons List.length_nil
theorem kp_Rows (N order : Int) (weak : Bool) (hN1 : -9223372036854775808 ≤ N) (hN2 : N ≤ 9223372036854775807) (ho1 : -9223372036854775808 ≤ order) (ho2 : order ≤ 9223372036854775807) (ht : PowTab w) (hdb : DbTab w) : Calls Tryz.prog 7 #[.int .i64 N, .int .i64 order, .bool weak] w fun e w' => e = .returned (.bool true) ∧ w.grownBy w' none := by
  have KP := Kept.mk (fun W => kp_pick N 6 W hN1 hN2 (by decide) (by decide))
  obtain ⟨p1, p2⟩ := pickI_bd N 6 (by decide)
  obtain ⟨n, hn⟩ : ∃ n : Nat, 1 + pickI N 6 = (n : Int) := ⟨(1 + pickI N 6).toNat, by omega⟩
  have hn1 : 1 ≤ n := by omega
  have hn6 : n ≤ 6 := by omega
  generalize pickI N 6 = PN at *
  have KV := Kept.mk (fun W => kp_vars n 1 (n : Int) W (by omega) (by omega) (by omega) (by omega) (by omega))
  have KL := Kept.mk (fun W => kp_list n W (by omega))
  have hvb := varsB_len (lo := 1) (hi := n) (itoa_len (by omega) (by omega)) (itoa_len (by omega) (by omega)) (k := n) (by omega)
  have hlb := listB_len (k := n) (by omega)
  have e0 : rB n = ap (ap (ap (varsB 1 n n) [100, 105, 102, 102, 32]) (listB n)) [59] := by simp [rB, ap, List.append_assoc]
  have KM := Kept.mk (fun {W : World} (hg : w.grownBy W none) => kp_model (rA n) (rA_ok hn1 (by omega)) (rA_fine hn1 (by omega)) (by rw [rA_src hn1]; have := rB_len (n := n) (by omega); omega) W (tab_kept ht (fun k hk => hg.block k hk (by simp))))
  rw [rA_src hn1, rA_env hn1, e0] at KM
  have hMd : MdOk (qV n) [diffC (n - 1)] := by
    have q := src_ok (rA_ok hn1 (by omega)) (rA_fine hn1 (by omega)) (by rw [rA_src hn1]; have := rB_len (n := n) (by omega); omega)
    rw [rA_env hn1] at q
    exact q
  obtain ⟨f3, f4⟩ := r_box hn1 hn6
  have hbd : ((qV n).length * (boxV (bdV (qV n))).length + 1 : Int) ≤ 1000000 := by rw [qV_len]; have q := Int.ofNat_le.2 f3; rw [Int.natCast_add, Int.natCast_mul] at q; exact q
  have KF := Kept.mk (fun {W : World} {b : Nat} {t : List UInt8} (hg : w.grownBy W none) (hm : MdAt W b (qV n) [diffC (n - 1)] t) => kp_found hm hMd (tab_kept ht (fun k hk => hg.block k hk (by simp))) (db_grown hdb hg) order weak ho1 ho2 hbd f4)
  obtain ⟨hA, _, _⟩ := solve_all hMd (pickI order 2) weak 1000000 hbd f4
  obtain ⟨hSl, hSn, hSx⟩ := r_count hn1 hn6 hA.perm
  generalize (solveS (mkK (qV n) [diffC (n - 1)] (pickI order 2) weak 1000000)).sols = R at *
  have hwt : ∀ W : World, (W.alloc (.cells #[.int .i64 1, .int .i64 1, .int .i64 2, .int .i64 6, .int .i64 24, .int .i64 120, .int .i64 720] 3)).cell? ⟨W.heap.size, n, none⟩ = some (.int .i64 (rWant n)) := fun W => by
    refine cell_of (heap_alloc_new W _) n _ ?_
    have : n = 1 ∨ n = 2 ∨ n = 3 ∨ n = 4 ∨ n = 5 ∨ n = 6 := by omega
    rcases this with rfl | rfl | rfl | rfl | rfl | rfl <;> rfl
  have hqw : R.length ≤ 720 := by rw [hSl]; have : n = 1 ∨ n = 2 ∨ n = 3 ∨ n = 4 ∨ n = 5 ∨ n = 6 := (by omega); rcases this with rfl | rfl | rfl | rfl | rfl | rfl <;> decide
  have hne : ((R.length : Int) != (rWant n : Int)) = false := by rw [hSl]; simp
  have HSN := hide hSn
  have HSX := hide hSx
  clear hA f3 f4 hbd hMd hSl hSn hSx ht hdb e0
  generalize varsB 1 n n = VB at *
  generalize listB n = LB at *
  go_enter Tryz.func7, Tryz.ntmps7
  have hgr : w.grownBy w none := grown_refl _ _
  go_wp2_with (first | (go_at_call 16; refine (KP.get _).mono ?_; rintro e w6 ⟨rfl, hww⟩; subst w6) | (go_at_call 17; refine (KV.get _).mono ?_; rintro e w1 ⟨rfl, hg1⟩; replace hgr := hgr.trans hg1; clear hg1) | (go_at_call 18; refine (KL.get _).mono ?_; rintro e w2 ⟨rfl, hg2⟩; replace hgr := hgr.trans hg2; clear hg2) | (go_at_call 21; refine (KM.get hgr).mono ?_; rintro e w3 ⟨b, rfl, hb, hm1, hg3⟩; replace hgr := hgr.trans hg3; clear hg3) | (go_at_call 22; refine (KF.get hgr hm1).mono ?_; rintro e w4 ⟨vS, rfl, hL, hg4⟩; replace hgr := hgr.trans hg4; obtain ⟨la, lc, hvS⟩ := hL.ll.is; subst hvS))
  have HGR := hide hgr
  have HL := hide hL
  have hR1 : 1 ≤ R.length := by
    have : rWant n ≠ 0 := by have : n = 1 ∨ n = 2 ∨ n = 3 ∨ n = 4 ∨ n = 5 ∨ n = 6 := (by omega); rcases this with rfl | rfl | rfl | rfl | rfl | rfl <;> decide
    simp only [bne_eq_false_iff_eq] at hne
    omega
  clear hgr hL hm1 hg4 KM KF hne hwt
  go_loopw [11] (fun vi wr => ∃ i : Nat, i ≤ R.length ∧ vi = .int .i64 i ∧ w4.grownBy wr none) (fun vi _ => R.length - (intOf vi).toNat)
  case atStart => exact ⟨0, Nat.zero_le _, rfl, World.grownBy_alloc _ _ _⟩
  case round =>
    obtain ⟨i, hi, rfl, hg⟩ := hrel
    by_cases hlt : i < R.length
    · obtain ⟨x, hx⟩ : ∃ x, R[i]? = some x := ⟨R[i], List.getElem?_eq_getElem hlt⟩
      obtain ⟨x1, xn, xr⟩ := HSX.out x (List.mem_of_getElem? hx)
      obtain ⟨g, gv, cv, rfl, q1, q2, q3, q4⟩ := HL.out.ll.row hx (fun e => by rw [e] at x1; simp at x1; omega)
      rw [x1] at q2
      have q2' := hg.cell q2 (by simp)
      have q1' : g < wr.heap.size := Nat.lt_of_lt_of_le q1 hg.size
      have hlt2 : (i : Int) < R.length := by omega
      have h02 : (0 : Int) ≤ i := by omega
      have HX := hide (And.intro x1 (And.intro xn xr))
      have HQ4 := hide q4
      have HQ2 := hide (And.intro q1 (And.intro q2 q3))
      obtain ⟨G, hG⟩ : ∃ G, G = wr.heap.size := ⟨_, rfl⟩
      have hGw : w4.heap.size ≤ G := by rw [hG]; exact hg.size
      have HS0 : Hid (w4.grownBy (wr.alloc (.cells #[.int .i64 0, .int .i64 0, .int .i64 0, .int .i64 0, .int .i64 0, .int .i64 0, .int .i64 0] 35)) none ∧ (wr.alloc (.cells #[.int .i64 0, .int .i64 0, .int .i64 0, .int .i64 0, .int .i64 0, .int .i64 0, .int .i64 0] 35)).heap[G]? = some (.cells (seenA x 0) 35 (0, 0))) := ⟨hg.trans (World.grownBy_alloc _ _ _), by rw [hG, seen_zero]; exact heap_alloc_new _ _⟩
      have HG := hide hG
      clear hx x1 xn xr q4 hg q1 q2 q3 hG
      go_wp2
      rw [← HG.out]
      go_loopw [13] (fun vk wq => ∃ k : Nat, k ≤ n ∧ vk = .int .i64 k ∧ w4.grownBy wq none ∧ wq.heap[G]? = some (.cells (seenA x k) 35 (0, 0))) (fun vk _ => n - (intOf vk).toNat)
      case atStart => exact ⟨0, Nat.zero_le _, rfl, HS0.out⟩
      case round =>
        obtain ⟨k, hk, rfl, hgk, hsk⟩ := hrel
        by_cases hlk : k < n
        · obtain ⟨x1, xn, xr⟩ := HX.out
          obtain ⟨y, hy⟩ : ∃ y, x[k]? = some y := ⟨x[k]'(by omega), List.getElem?_eq_getElem (by omega)⟩
          obtain ⟨y1, y2⟩ := xr y (List.mem_of_getElem? hy)
          obtain ⟨s1, s2⟩ := seen_at hy xn y1 (by omega)
          obtain ⟨r1, r2, r3⟩ := HQ2.out
          have t1 := hgk.cell r2 (by simp)
          have t2 := hgk.cell (HQ4.out k y hy) (by simp)
          have t3 : g < wr.heap.size := Nat.lt_of_lt_of_le r1 hgk.size
          have t4 : gv < wr.heap.size := Nat.lt_of_lt_of_le r3 hgk.size
          have t5 := cell_of hsk y.toNat _ s1
          have t6 := frozen_of hsk y.toNat
          have t7 := some_lt hsk
          have HN : Hid (w4.grownBy (wr.setCell ⟨G, y.toNat, none⟩ (.int .i64 1)) none ∧ (wr.setCell ⟨G, y.toNat, none⟩ (.int .i64 1)).heap[G]? = some (.cells (seenA x (k + 1)) 35 (0, 0))) := ⟨grown_new hgk hGw (grown_set _ _ _ _), set_at hsk _ _ s2⟩
          have hlk2 : (k : Int) < n := by omega
          have h0k : (0 : Int) ≤ k := by omega
          have hy6 : y < 7 := by omega
          have hy0 : 0 ≤ y := by omega
          clear x1 xn xr hy s1 s2 r1 r2 r3 hgk hsk
          go_wp2
          go_roundw
          case rel => exact ⟨k + 1, by omega, by go_num, HN.out⟩
          case measure => simp [intOf]; omega
        · obtain rfl : n = k := by omega
          go_wp2
          go_roundw
          case rel => exact ⟨i + 1, by omega, by go_num, hgk⟩
          case measure => simp [intOf]; omega
    · obtain rfl : i = R.length := by omega
      have HG0 := hide hg
      clear hg
      go_wp2
      go_loopw [15] (fun vi wq => ∃ i : Nat, 1 ≤ i ∧ i ≤ R.length ∧ vi = .int .i64 i ∧ w4.grownBy wq none) (fun vi _ => R.length - (intOf vi).toNat)
      case atStart => exact ⟨1, Nat.le_refl _, hR1, rfl, HG0.out⟩
      case round =>
        obtain ⟨i, hi1, hi2, rfl, hg⟩ := hrel
        by_cases hlt : i < R.length
        · have hlt2 : (i : Int) < R.length := by omega
          by_cases h130 : i < 130
          · have h130' : (i : Int) < 130 := by omega
            obtain ⟨x, hx⟩ : ∃ x, R[i]? = some x := ⟨R[i], List.getElem?_eq_getElem hlt⟩
            obtain ⟨x1, xn, xr⟩ := HSX.out x (List.mem_of_getElem? hx)
            obtain ⟨g, gv, cv, rfl, q1, q2, q3, q4⟩ := HL.out.ll.row hx (fun e => by rw [e] at x1; simp at x1; omega)
            have hVx := (HL.out.ll.at_ hx)
            obtain ⟨g', u, eg, _, qu, hVu⟩ := hVx
            have eg' : g = g' := by injection eg with eg; injection eg
            subst eg'
            have eu : u = .slice (some ⟨gv, 0, none⟩) x.length cv := by rw [q2] at qu; exact (Option.some.inj qu).symm
            subst eu
            have KH := Kept.mk (fun {W : World} (hw : w4.grownBy W none) => kp_has (w := W) ((HL.out.ll.take hi2).grown hw) (hVu.grown hw) (by rw [List.length_take]; omega) (fun z hz => by have := (HSX.out z (List.mem_of_mem_take hz)).1; omega) (by omega))
            have hdec : decide (x ∈ R.take i) = false := by simpa using not_before HSN.out hx
            rw [hdec, x1] at KH
            rw [x1] at q2
            have q2' := hg.cell q2 (by simp)
            have q1' : g < wr.heap.size := Nat.lt_of_lt_of_le q1 hg.size
            have h0i : (0 : Int) ≤ i := by omega
            have HG9 := hide hg
            clear hx x1 xn xr q4 hg q1 q2 q3 hVu hdec qu eg
            have hcap : i ≤ lc := by rcases HL.out.ll.cap with e | e; omega; (rw [e] at hlt; simp at hlt)
            have hcap2 : (i : Int) ≤ lc := by omega
            go_wp2
            refine wp_region_held_drew (S := fun w1 => w1.cell? ⟨g, i, none⟩ = some (.slice (some ⟨gv, 0, none⟩) n cv)) (by kernel_rfl) ?_ (fun hHeld => ?_)
            · exact q2'
            refine wpAnyH_tk (i := 0) (v := ?_) (some 100) rfl rfl (by kernel_rfl) (by kernel_rfl) (by kernel_rfl) (fun _ _ _ h => h) (Or.inl ⟨by rfl, ?_⟩) hHeld ?_
            rotate_left 1
            · (intro w hSw; (try dsimp only at hSw); go_simp; try with_reducible rfl)
            (try simp only [Act.put, arS, arZ, arN])
            refine wpAnyH_tk (i := 1) (v := ?_) (some 101) rfl rfl (by kernel_rfl) (by kernel_rfl) (by kernel_rfl) (fun _ _ _ h => h) (Or.inl ⟨by rfl, ?_⟩) hHeld ?_
            rotate_left 1
            · (intro w hSw; (try dsimp only at hSw); go_simp; try with_reducible rfl)
            (try simp only [Act.put, arS, arZ, arN])
            refine wpAnyH_tk (i := 2) (v := ?_) (some 102) rfl rfl (by kernel_rfl) (by kernel_rfl) (by kernel_rfl) (fun _ _ _ h => h) (Or.inl ⟨by rfl, ?_⟩) hHeld ?_
            rotate_left 1
            · (intro w hSw; (try dsimp only at hSw); go_simp; try with_reducible rfl)
            (try simp only [Act.put, arS, arZ, arN])
            refine wpAnyH_tk (i := 3) (v := ?_) (some 103) rfl rfl (by kernel_rfl) (by kernel_rfl) (by kernel_rfl) (fun _ _ _ h => h) (Or.inl ⟨by rfl, ?_⟩) hHeld ?_
            rotate_left 1
            · (intro w hSw; (try dsimp only at hSw); go_simp; try with_reducible rfl)
            (try simp only [Act.put, arS, arZ, arN])
            refine wpAnyH_tk (i := 4) (v := ?_) (some 104) rfl rfl (by kernel_rfl) (by kernel_rfl) (by kernel_rfl) (fun _ _ _ h => h) (Or.inl ⟨by rfl, ?_⟩) hHeld ?_
            rotate_left 1
            · (intro w hSw; (try dsimp only at hSw); go_simp; try with_reducible rfl)
            (try simp only [Act.put, arS, arZ, arN])
            refine wpAnyH_tk (i := 5) (v := ?_) (some 105) rfl rfl (by kernel_rfl) (by kernel_rfl) (by kernel_rfl) (fun _ _ _ h => h) (Or.inl ⟨by rfl, ?_⟩) hHeld ?_
            rotate_left 1
            · (intro w hSw; (try dsimp only at hSw); go_simp; try with_reducible rfl)
            (try simp only [Act.put, arS, arZ, arN])
            refine wpAnyH_tk (i := 6) (v := ?_) (some 106) rfl rfl (by kernel_rfl) (by kernel_rfl) (by kernel_rfl) (fun _ _ _ h => h) (Or.inl ⟨by rfl, ?_⟩) hHeld ?_
            rotate_left 1
            · (intro w hSw; (try dsimp only at hSw); go_simp; try with_reducible rfl)
            (try simp only [Act.put, arS, arZ, arN])
            refine wpAnyH_ready (rs := [7]) (by kernel_rfl) (by simp) ?_
            refine AllReadyH.cons rfl (fun K hK => ?_) AllReadyH.nil
            go_simp
            go_wp2_with ((go_at_call 23; refine (KH.get (HG9.out.trans (grown_drew' _ _))).mono ?_; rintro e w5 ⟨rfl, hg5⟩))
            refine hK.out _ _ ?_ (fun hHeld => ?_)
            · exact hg5.cell hHeld (by simp)
            clear hK K
            (try simp only [Act.put, arS, arZ, arN])
            refine wpAnyH_tk (i := 8) (v := ?_) (some 16) rfl rfl (by kernel_rfl) (by kernel_rfl) (by kernel_rfl) (fun _ _ _ h => h) (Or.inl ⟨by rfl, ?_⟩) hHeld ?_
            rotate_left 1
            · (intro w hSw; (try dsimp only at hSw); go_simp; try with_reducible rfl)
            (try simp only [Act.put, arS, arZ, arN])
            refine wpAnyH_done (by kernel_rfl) ?_ _
            go_wp2
            go_roundw
            case rel => exact ⟨i + 1, by omega, by omega, by go_num, (HG9.out.trans (grown_drew' _ _)).trans hg5⟩
            case measure => simp [intOf]; omega
          · have h130' : (130 : Int) ≤ i := by omega
            go_wp2
            go_ret
            exact ⟨rfl, HGR.out.trans hg⟩
        · have hge : (R.length : Int) ≤ i := by omega
          go_wp2
          go_ret
          exact ⟨rfl, HGR.out.trans hg⟩
end
end Go.Proofs.YthpcbbnabnlanaaGreatDoor
