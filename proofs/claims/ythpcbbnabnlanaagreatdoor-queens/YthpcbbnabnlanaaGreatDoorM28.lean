import Derived.Test.YthpcbbnabnlanaaGreatDoorM17
import Derived.Test.YthpcbbnabnlanaaGreatDoorM27
namespace Go.Proofs.YthpcbbnabnlanaaGreatDoor
open Go.RowKit
set_option linter.unusedVariables false
set_option linter.unusedSimpArgs false
section
set_option maxHeartbeats 2000000
set_option maxRecDepth 100000
variable {w w' : World}
theorem md_Solve {b : Nat} {V : List QVar} {C : List QCon} {t : List UInt8} (h : MdAt w b V C t) (hM : MdOk V C) (hdb : DbTab w) (order : Int) (weak : Bool) (budget : Int) (hbu : budget ≤ 9223372036854775807) :
    Calls Tryz.prog 29 #[.pointer (some ⟨b, 0, none⟩), .int .i64 order, .bool weak, .int .i64 budget] w fun e w' => ∃ vS, e = .returned (.agg #[vS, .int .i64 (solveS (mkK V C order weak budget)).ending, .int .i64 (solveS (mkK V C order weak budget)).nodes]) ∧ LLT w' vS (solveS (mkK V C order weak budget)).sols ∧ w.grownBy w' none := by
  obtain ⟨bc, B, vV, vC, cs, h1, h2, h3⟩ := h.set
  obtain ⟨W0, hW0⟩ : ∃ W0, W0 = w.alloc (.cells #[.slice none 0 0, .int .i64 0, .int .i64 0] 50) := ⟨_, rfl⟩
  have hg0 : w.grownBy W0 none := by rw [hW0]; exact World.grownBy_alloc _ _ _
  have KS := Kept.mk (sv_Solve (w := W0) (K := mkK V C order weak budget) (h2.grown hg0) h3 (db_grown hdb hg0) (mkK_ok hM.vars hM.vlen hM.cons hM.clen) rfl rfl hbu)
  have hbx0 : W0.heap[w.heap.size]? = some (.cells #[.slice none 0 0, .int .i64 0, .int .i64 0] 50 (0, 0)) := by rw [hW0]; exact heap_alloc_new _ _
  have HBX : Hid (∀ W', W0.grownBy W' none → W'.heap[w.heap.size]? = some (.cells #[.slice none 0 0, .int .i64 0, .int .i64 0] 50 (0, 0))) := fun W' hg => (hg.block _ (some_lt hbx0) (by simp)).trans hbx0
  have hlt := h.lt
  generalize hR : solveS (mkK V C order weak budget) = R at *
  have KS' := Kept.mk (show Calls Tryz.prog 37 #[.pointer (some ⟨bc, 1, none⟩), .int .i64 order, .bool weak, .int .i64 budget] W0 fun e w' => ∃ vS, e = .returned (.agg #[vS, .int .i64 R.ending, .int .i64 R.nodes]) ∧ LLT w' vS R.sols ∧ W0.grownBy w' none from KS.get)
  clear KS h h2 h3 hbx0 hdb hM hR
  go_enter Tryz.func29, Tryz.ntmps29
  go_wp2_with (go_at_call 37; rw [← hW0]; refine KS'.get.mono ?_; rintro e w3 ⟨vS, rfl, hL, hg3⟩; obtain ⟨sa, sc, hvS⟩ := hL.ll.is; subst hvS; have bb := HBX.out w3 hg3; have b0 := cell_of bb 0 _ rfl; have b1 := cell_of bb 1 _ rfl; have b2 := cell_of bb 2 _ rfl; have z0 := frozen_of bb 0; have z1 := frozen_of bb 1; have z2 := frozen_of bb 2; have l4 := some_lt bb)
  refine bodyPost_ret (results_cell_row rfl _ _ w.heap.size 50 #[.slice sa R.sols.length sc, .int .i64 R.ending, .int .i64 R.nodes] (0, 0) _ rfl (set3_at bb) Tryz.underlying50 rfl (by kernel_rfl)) rfl ?_
  exact ⟨_, rfl, hL.turn (keep3 bb), set3_grown (hg0.trans hg3) (Nat.le_refl _)⟩
def rngI (lo hi : Int) : List Int := (List.range (hi - lo + 1).toNat).map fun (k : Nat) => lo + (k : Int)
theorem rngI_mem (lo hi x : Int) : x ∈ rngI lo hi ↔ lo ≤ x ∧ x ≤ hi := by
  unfold rngI
  rw [List.mem_map]
  constructor
  · rintro ⟨k, hk, rfl⟩
    rw [List.mem_range] at hk
    omega
  · rintro ⟨h1, h2⟩
    exact ⟨(x - lo).toNat, by rw [List.mem_range]; omega, by omega⟩
theorem rngI_nodup (lo hi : Int) : (rngI lo hi).Nodup := by
  unfold rngI List.Nodup
  rw [List.pairwise_map]
  exact List.nodup_range.imp (fun h e => h (by omega))
def boxV : List (Int × Int) → List (List Int)
  | [] => [[]]
  | v :: vs => (rngI v.1 v.2).flatMap fun x => (boxV vs).map (x :: ·)
def bdV (vars : List QVar) : List (Int × Int) := vars.map fun v => (v.low, v.high)
theorem box_mem : ∀ (vars : List QVar) (x : List Int), x ∈ boxV (bdV vars) ↔ asgF vars x = true
  | [], x => by
    cases x with
    | nil => simp [boxV, bdV, asgF]
    | cons a x => simp [boxV, bdV, asgF]
  | v :: vs, x => by
    show x ∈ (rngI v.low v.high).flatMap (fun y => (boxV (bdV vs)).map (y :: ·)) ↔ _
    rw [List.mem_flatMap]
    constructor
    · rintro ⟨y, hy, hx⟩
      obtain ⟨r, hr, rfl⟩ := List.mem_map.1 hx
      have h1 := (rngI_mem _ _ _).1 hy
      have h2 := (box_mem vs r).1 hr
      simp [asgF, inP, h1, h2]
    · intro h
      cases x with
      | nil => simp [asgF] at h
      | cons y r =>
        simp only [asgF, Bool.and_eq_true, inP, decide_eq_true_eq] at h
        exact ⟨y, (rngI_mem _ _ _).2 h.1, List.mem_map.2 ⟨r, (box_mem vs r).2 h.2, rfl⟩⟩
theorem box_nodup : ∀ vs : List (Int × Int), (boxV vs).Nodup
  | [] => by simp [boxV]
  | v :: vs => by
    have ih := box_nodup vs
    unfold boxV List.Nodup
    rw [List.pairwise_flatMap]
    refine ⟨fun x _ => ?_, (rngI_nodup v.1 v.2).imp (fun {a b} hab r hr s hs e => ?_)⟩
    · rw [List.pairwise_map]
      exact ih.imp (fun h e => h (by injection e))
    · obtain ⟨r', _, rfl⟩ := List.mem_map.1 hr
      obtain ⟨s', _, rfl⟩ := List.mem_map.1 hs
      injection e with e1 e2
      exact hab e1
theorem cnt_rng {lo hi : Int} (h1 : -1000 ≤ lo) (h2 : hi ≤ 1000) : cntD (rngD lo hi) = (rngI lo hi).length := by
  rw [cntD_vals]
  refine List.Perm.length_eq ((List.perm_ext_iff_of_nodup ?_ (rngI_nodup lo hi)).2 (fun x => ?_))
  · rw [valsD_eq]
    unfold List.Nodup
    rw [List.pairwise_map]
    exact (List.nodup_range.filter _).imp (fun h e => h (by omega))
  · rw [valsD_mem, rngI_mem]
    constructor
    · rintro ⟨p, hp, rfl, _⟩
      rw [rngD_bit _ _ h1] at hp
      simp at hp
      omega
    · rintro ⟨q1, q2⟩
      refine ⟨(x + 1000).toNat, ?_, by omega, by omega⟩
      rw [rngD_bit _ _ h1]
      simp
      omega
theorem box_len : ∀ vs : List (Int × Int), (boxV vs).length = vs.foldr (fun v p => (rngI v.1 v.2).length * p) 1
  | [] => rfl
  | v :: vs => by
    have ih := box_len vs
    have key : ∀ (l : List Int), (l.flatMap fun x => (boxV vs).map (x :: ·)).length = l.length * (boxV vs).length := fun l => by
      induction l with
      | nil => simp
      | cons x l ih => rw [List.flatMap_cons, List.length_append, ih, List.length_map, List.length_cons, Nat.succ_mul, Nat.add_comm]
    show ((rngI v.1 v.2).flatMap fun x => (boxV vs).map (x :: ·)).length = (rngI v.1 v.2).length * vs.foldr (fun v p => (rngI v.1 v.2).length * p) 1
    rw [key, ih]
theorem prod_box : ∀ {V : List QVar}, (∀ v ∈ V, -1000 ≤ v.low ∧ v.low ≤ v.high ∧ v.high ≤ 1000) → prodV V = (boxV (bdV V)).length
  | [], _ => rfl
  | v :: V, h => by
    have ih := prod_box (V := V) (fun u hu => h u (by simp [hu]))
    rw [box_len] at ih ⊢
    have hv := h v (by simp)
    show cntD (rngD v.low v.high) * prodV V = (rngI v.low v.high).length * (bdV V).foldr (fun v p => (rngI v.1 v.2).length * p) 1
    rw [ih, cnt_rng hv.1 hv.2.2]
structure AllOf (V : List QVar) (C : List QCon) (order : Int) (r : SS) : Prop where
  ending : r.ending = 0
  perm : r.sols.Perm ((boxV (bdV V)).filter (suitsP V C))
  lex : order ≠ 1 → r.sols.Pairwise LexLt
theorem solve_all {V : List QVar} {C : List QCon} (hM : MdOk V C) (order : Int) (weak : Bool) (budget : Int) (hb : (V.length * (boxV (bdV V)).length + 1 : Int) ≤ budget) (hbox : (boxV (bdV V)).length < 100000) :
    AllOf V C order (solveS (mkK V C order weak budget)) ∧ 0 ≤ (solveS (mkK V C order weak budget)).nodes ∧ (solveS (mkK V C order weak budget)).nodes ≤ budget := by
  have s := solve_ok (mkK_ok (order := order) (weak := weak) (budget := budget) hM.vars hM.vlen hM.cons hM.clen)
  generalize solveS (mkK V C order weak budget) = r at *
  have hp : prodV (mkK V C order weak budget).vars = (boxV (bdV V)).length := prod_box hM.vars
  have hb0 : 0 ≤ budget := by
    have : (0 : Int) ≤ (V.length : Int) * ((boxV (bdV V)).length : Int) := Int.mul_nonneg (Int.natCast_nonneg _) (Int.natCast_nonneg _)
    omega
  have hmem : ∀ x ∈ r.sols, x ∈ boxV (bdV V) ∧ suitsP V C x = true := fun x hx => by
    have q : suitsP V C x = true := s.suits x hx
    exact ⟨(box_mem V x).2 (by unfold suitsP at q; simp at q; exact q.1), q⟩
  have hle : r.sols.length ≤ (boxV (bdV V)).length := by
    have q : r.sols.Perm ((boxV (bdV V)).filter (fun x => decide (x ∈ r.sols))) := (List.perm_ext_iff_of_nodup s.nd ((box_nodup _).filter _)).2 (fun x => by
      rw [List.mem_filter]
      exact ⟨fun h => ⟨(hmem x h).1, by simpa using h⟩, fun h => by simpa using h.2⟩)
    rw [q.length_eq]
    exact List.length_filter_le _ _
  refine ⟨?_, s.lo, s.hi hb0⟩
  rcases s.ends with ⟨e1, e2⟩ | ⟨e1, e2, e3⟩ | ⟨e1, e2, _⟩
  · refine ⟨e1, (List.perm_ext_iff_of_nodup s.nd ((box_nodup _).filter _)).2 (fun x => ?_), s.lex⟩
    rw [List.mem_filter]
    exact ⟨fun h => hmem x h, fun h => e2 x h.2⟩
  · rw [hp] at e3
    have e3 : r.nodes < (V.length : Int) * ((boxV (bdV V)).length : Int) + 1 := e3
    have e2 : budget ≤ r.nodes := e2
    omega
  · omega
end
section
set_option maxHeartbeats 4000000
set_option maxRecDepth 100000
variable {w w' : World}
def A45 : List (AS × List Pc) := [(.var [120] 4 5, [])]
theorem itoa_dig {k : Nat} (h : k < 10) : Lib.itoa (k : Int) = [UInt8.ofNat (48 + k)] := by
  unfold Lib.itoa
  rw [if_neg (by omega)]
  exact Lib.decDigits_one h
theorem A45_src : bn (srcA A45) = ⟨#[118, 97, 114, 32, 120, 58, 32, 52, 46, 46, 53, 59]⟩ := by
  have e4 : Lib.itoa 4 = [52] := itoa_dig (k := 4) (by decide)
  have e5 : Lib.itoa 5 = [53] := itoa_dig (k := 5) (by decide)
  show bn ([118, 97, 114] ++ ([32] ++ ([120] ++ ([58] ++ ([32] ++ (Lib.itoa 4 ++ ([46, 46] ++ (Lib.itoa 5 ++ ([59] ++ []))))))))) = _
  rw [e4, e5]
  rfl
theorem A45_ok : textOk A45 := fun p hp => by
  have : p = (.var [120] 4 5, []) := by simpa [A45] using hp
  subst this
  exact ⟨⟨⟨rfl, rfl⟩, ⟨by decide, by decide⟩, ⟨by decide, by decide⟩⟩, rfl⟩
theorem A45_fine : allFine E0 A45 := ⟨⟨⟨(fun p hp => by cases hp), (fun p hp => by cases hp)⟩, by decide, by decide, by decide, by decide⟩, trivial⟩
theorem lex_two {l : List (List Int)} {a b : List Int} (h : l.Perm [a, b]) (hp : l.Pairwise LexLt) (hn : ¬ LexLt b a) : l = [a, b] := by
  have hl := h.length_eq
  match l, hl with
  | [x, y], _ =>
    have hx : x ∈ [a, b] := h.mem_iff.1 (by simp)
    have hy : y ∈ [a, b] := h.mem_iff.1 (by simp)
    have hlt : LexLt x y := by simpa using hp
    have ha : a ∈ [x, y] := h.mem_iff.2 (by simp)
    have hb : b ∈ [x, y] := h.mem_iff.2 (by simp)
    simp only [List.mem_cons, List.not_mem_nil, or_false] at hx hy ha hb
    rcases hx with rfl | rfl
    · rcases hy with rfl | rfl
      · rcases hb with rfl | rfl <;> rfl
      · rfl
    · rcases hy with rfl | rfl
      · exact absurd hlt hn
      · rcases ha with rfl | rfl <;> rfl
theorem found_two {weak : Bool} : (solveS (mkK [⟨bn [120], 4, 5⟩] [] 0 weak 10)).sols = [[4], [5]] := by
  have hM : MdOk [⟨bn [120], 4, 5⟩] [] := by
    have q := src_ok A45_ok A45_fine (by have e := congrArg ByteArray.size A45_src; rw [bn_size] at e; rw [e]; decide)
    exact q
  obtain ⟨h1, _, _⟩ := solve_all hM 0 weak 10 (by decide) (by decide)
  have e : (boxV (bdV [⟨bn [120], 4, 5⟩])).filter (suitsP [⟨bn [120], 4, 5⟩] []) = [[4], [5]] := by decide
  have hp := h1.perm
  rw [e] at hp
  refine lex_two hp (h1.lex (by decide)) ?_
  rintro ⟨k, h1, h2⟩
  match k with
  | 0 => exact absurd h2 (by decide)
  | k + 1 => simp at h2
theorem ValsIn.cells {u : Value} {r : List Int} (h : ValsIn w u r) (hne : r ≠ []) : ∃ gv cv, u = .slice (some ⟨gv, 0, none⟩) r.length cv ∧ gv < w.heap.size ∧ ∀ (j : Nat) (x : Int), r[j]? = some x → w.cell? ⟨gv, j, none⟩ = some (.int .i64 x) := by
  rcases h with ⟨e, _⟩ | ⟨gv, cv, hR⟩
  · exact absurd e hne
  · refine ⟨gv, cv, hR.is, hR.lt, fun j x hx => ?_⟩
    have q := hR.at (sz := 1) (fun _ => rfl) hx 0 _ rfl
    rw [Nat.mul_one] at q
    exact q
theorem LL.row {a : Option Addr} {n c : Nat} {rows : List (List Int)} (h : LL w (.slice a n c) rows) {i : Nat} {r : List Int} (hr : rows[i]? = some r) (hne : r ≠ []) : ∃ g gv cv, a = some ⟨g, 0, none⟩ ∧ g < w.heap.size ∧ w.cell? ⟨g, i, none⟩ = some (.slice (some ⟨gv, 0, none⟩) r.length cv) ∧ gv < w.heap.size ∧ ∀ (j : Nat) (x : Int), r[j]? = some x → w.cell? ⟨gv, j, none⟩ = some (.int .i64 x) := by
  obtain ⟨g, u, e, h1, h2, h3⟩ := h.at_ hr
  obtain ⟨gv, cv, rfl, h4, h5⟩ := h3.cells hne
  exact ⟨g, gv, cv, e, h1, h2, h4, h5⟩
theorem kp_found {b : Nat} {V : List QVar} {C : List QCon} {t : List UInt8} (h : MdAt w b V C t) (hM : MdOk V C) (ht : PowTab w) (hdb : DbTab w) (order : Int) (weak : Bool) (ho1 : -9223372036854775808 ≤ order) (ho2 : order ≤ 9223372036854775807) (hb : (V.length * (boxV (bdV V)).length + 1 : Int) ≤ 1000000) (hbox : (boxV (bdV V)).length < 100000) :
    Calls Tryz.prog 22 #[.pointer (some ⟨b, 0, none⟩), .int .i64 order, .bool weak] w fun e w' => ∃ vS, e = .returned (.tuple #[vS, .bool true]) ∧ LLT w' vS (solveS (mkK V C (pickI order 2) weak 1000000)).sols ∧ w.grownBy w' none := by
  have hlen : (srcA A45).length ≤ 2000 := by have e := congrArg ByteArray.size A45_src; rw [bn_size] at e; rw [e]; decide
  have KM := Kept.mk (kp_model A45 A45_ok A45_fine hlen w ht)
  rw [A45_src] at KM
  have hM0 := src_ok A45_ok A45_fine hlen
  have KQ := Kept.mk (fun {W : World} {b0 : Nat} {t0 : List UInt8} (hg : w.grownBy W none) (hm : MdAt W b0 ((envOf E0 A45).V.map qv) (envOf E0 A45).C t0) => md_Solve hm hM0 (db_grown hdb hg) 0 weak 10 (by decide))
  have KR := Kept.mk (fun {W : World} (hg : w.grownBy W none) => md_Solve (h.grown hg) hM (db_grown hdb hg) (pickI order 2) weak 1000000 (by decide))
  have KP := Kept.mk (fun W => kp_pick order 2 W ho1 ho2 (by decide) (by decide))
  have hf2 := found_two (weak := weak)
  have e2 : (envOf E0 A45).V.map qv = [⟨bn [120], 4, 5⟩] := rfl
  have e3 : (envOf E0 A45).C = [] := rfl
  rw [e2, e3] at KQ
  rw [e2, e3] at KM
  obtain ⟨hA, hn0, hn1⟩ := solve_all hM (pickI order 2) weak 1000000 hb hbox
  have hend := hA.ending
  rw [hend] at KR
  generalize solveS (mkK V C (pickI order 2) weak 1000000) = R at *
  generalize hQ : solveS (mkK [⟨bn [120], 4, 5⟩] [] 0 weak 10) = Q at *
  have hrow : Q.sols.length = 2 := by rw [hf2]; rfl
  have HROW : Hid (Q.sols[0]? = some [4]) := by rw [Hid, hf2]; rfl
  generalize pickI order 2 = PO at *
  clear h hM ht hdb hA hend hf2 hM0 hlen hQ e2 e3
  go_enter Tryz.func22, Tryz.ntmps22
  go_wp2_with (first | (go_at_call 21; refine KM.get.mono ?_; rintro e w1 ⟨b0, rfl, hb0, hm1, hg1⟩) | (go_at_call 29; refine (KQ.get hg1 hm1).mono ?_; rintro e w2 ⟨vQ, rfl, hL2, hg2⟩; obtain ⟨qa, qc, hvQ⟩ := hL2.ll.is; subst hvQ; obtain ⟨g, gv, cv, rfl, q1, q2, q3, q4⟩ := hL2.ll.row HROW.out (by simp); have q5 := q4 0 4 rfl; clear q4 hL2))
  have hgA := ((hg1.trans hg2).trans (World.grownBy_alloc w2 (.cells #[.slice (some ⟨g, 0, none⟩) 2 qc, .int .i64 Q.ending, .int .i64 Q.nodes] 50) none))
  generalize w2.alloc (.cells #[.slice (some ⟨g, 0, none⟩) 2 qc, .int .i64 Q.ending, .int .i64 Q.nodes] 50) = W5 at *
  clear q1 q2 q3 q5 KQ KM hg1 hg2 hm1
  go_wp2_with (first | (go_at_call 16; refine (KP.get _).mono ?_; rintro e w6 ⟨rfl, rfl⟩) | (go_at_call 29; refine (KR.get hgA).mono ?_; rintro e w4 ⟨vR, rfl, hL4, hg4⟩; obtain ⟨ra, rc, hvR⟩ := hL4.ll.is; subst hvR))
  go_quiet (fail)
  go_wp2
  go_ret2
  exact ⟨_, rfl, (hL4.grown (World.grownBy_alloc _ _ _)).grown (grown_drewN' _ _ _), ((hgA.trans hg4).trans (World.grownBy_alloc _ _ _)).trans (grown_drewN' _ _ _)⟩
end
section
theorem textPc_app : ∀ A B : List (AS × List Pc), textPc (A ++ B) = textPc A ++ textPc B
  | [], B => rfl
  | (a, b) :: r, B => by
    show a.pcs ++ (.sg [59] :: (b ++ textPc (r ++ B))) = (a.pcs ++ (.sg [59] :: (b ++ textPc r))) ++ textPc B
    rw [textPc_app r B]
    simp [List.append_assoc]
theorem srcA_app (A B : List (AS × List Pc)) : srcA (A ++ B) = srcA A ++ srcA B := by unfold srcA; rw [textPc_app, bytesP_app]
theorem srcA_cons (a : AS) (b : List Pc) (B : List (AS × List Pc)) : srcA ((a, b) :: B) = srcA [(a, b)] ++ srcA B := srcA_app [(a, b)] B
theorem srcA_one (a : AS) (b : List Pc) : srcA [(a, b)] = bytesP a.pcs ++ (59 :: bytesP b) := by
  show bytesP (a.pcs ++ (.sg [59] :: (b ++ []))) = _
  rw [List.append_nil, bytesP_app, bytesP_cons]
  rfl
theorem textOk_app {A B : List (AS × List Pc)} (h : textOk A) (k : textOk B) : textOk (A ++ B) := fun p hp => by
  rcases List.mem_append.1 hp with q | q
  · exact h p q
  · exact k p q
theorem dec_inj {u v : Nat} (h : Lib.decDigits u = Lib.decDigits v) : u = v := by
  have h1 := numTo_dec u
  have h2 := numTo_dec v
  rw [h, h2] at h1
  omega
theorem itoa_nat (k : Nat) : Lib.itoa (k : Int) = Lib.decDigits k := by
  unfold Lib.itoa
  rw [if_neg (by omega)]
  rfl
theorem nmK_inj {j k : Nat} (h : nmK j = nmK k) : j = k := by
  unfold nmK at h
  rw [itoa_nat, itoa_nat] at h
  injection h with _ h
  exact dec_inj h
theorem nmK_dig {k : Nat} (h : k < 10) : nmK k = [120, UInt8.ofNat (48 + k)] := by unfold nmK; rw [itoa_dig h]
theorem nmK_ok {k : Nat} (h : k < 10) : nmOk (nmK k) := by
  rw [nmK_dig h]
  have : k = 0 ∨ k = 1 ∨ k = 2 ∨ k = 3 ∨ k = 4 ∨ k = 5 ∨ k = 6 ∨ k = 7 ∨ k = 8 ∨ k = 9 := by omega
  rcases this with rfl | rfl | rfl | rfl | rfl | rfl | rfl | rfl | rfl | rfl <;> exact ⟨rfl, rfl⟩
def VN (n : Nat) (lo hi : Int) : List (List UInt8 × Int × Int) := (List.range n).map fun k => (nmK k, lo, hi)
theorem VN_succ (n : Nat) (lo hi : Int) : VN (n + 1) lo hi = VN n lo hi ++ [(nmK n, lo, hi)] := by simp [VN, List.range_succ]
theorem VN_len (n : Nat) (lo hi : Int) : (VN n lo hi).length = n := by simp [VN]
theorem VN_mem {n : Nat} {lo hi : Int} {p : List UInt8 × Int × Int} (h : p ∈ VN n lo hi) : ∃ k, k < n ∧ p = (nmK k, lo, hi) := by
  obtain ⟨k, hk, rfl⟩ := List.mem_map.1 h
  exact ⟨k, List.mem_range.1 hk, rfl⟩
theorem VN_in {n k : Nat} {lo hi : Int} (h : k < n) : (nmK k, lo, hi) ∈ VN n lo hi := List.mem_map.2 ⟨k, List.mem_range.2 h, rfl⟩
theorem inV_nm {n k : Nat} {lo hi : Int} {L : List (List UInt8 × List Int)} {C : List QCon} (h : k < n) : (Env.mk (VN n lo hi) L C).inV (nmK k) := ⟨_, VN_in h, rfl⟩
theorem ix_nm {n : Nat} {lo hi : Int} {L : List (List UInt8 × List Int)} {C : List QCon} : ∀ {k : Nat}, k < n → (Env.mk (VN n lo hi) L C).ix (nmK k) = k := by
  induction n with
  | zero => intro k h; omega
  | succ n ih =>
    intro k h
    by_cases e : k = n
    · subst e
      rw [VN_succ]
      have q := ix_new (E := Env.mk (VN k lo hi) L C) (n := nmK k) (fun p hp e => by
        obtain ⟨j, hj, rfl⟩ := VN_mem hp
        have := nmK_inj e
        omega) lo hi L C
      rw [q]
      exact VN_len k lo hi
    · rw [VN_succ]
      have q := ix_old (E := Env.mk (VN n lo hi) L C) (n := nmK k) (inV_nm (by omega)) (nmK n, lo, hi) L C
      rw [q]
      exact ih (by omega)
theorem varsA_env (lo hi : Int) : ∀ n : Nat, envOf E0 (varsA lo hi n) = ⟨VN n lo hi, [], []⟩
  | 0 => rfl
  | n + 1 => by
    show envOf E0 (varsA lo hi n ++ [(.var (nmK n) lo hi, [.nl])]) = _
    rw [envOf_app, varsA_env lo hi n, VN_succ]
    rfl
theorem varsA_fine {lo hi : Int} (h1 : -1000 ≤ lo) (h2 : lo ≤ hi) (h3 : hi ≤ 1000) : ∀ n : Nat, n ≤ 8 → allFine E0 (varsA lo hi n)
  | 0, _ => trivial
  | n + 1, h => by
    refine allFine_app (varsA_fine h1 h2 h3 n (by omega)) ?_
    rw [varsA_env]
    refine ⟨⟨⟨fun p hp e => ?_, fun p hp => by cases hp⟩, ?_, h1, h2, h3⟩, trivial⟩
    · obtain ⟨j, hj, rfl⟩ := VN_mem hp
      have := nmK_inj e
      omega
    · show (VN n lo hi).length < 8
      rw [VN_len]; omega
theorem varsA_ok {lo hi : Int} (h1 : -1000 ≤ lo) (h2 : lo ≤ hi) (h3 : hi ≤ 1000) : ∀ n : Nat, n ≤ 8 → textOk (varsA lo hi n)
  | 0, _ => fun p hp => by cases hp
  | n + 1, h => by
    refine textOk_app (varsA_ok h1 h2 h3 n (by omega)) (fun p hp => ?_)
    have : p = (.var (nmK n) lo hi, [.nl]) := by simpa using hp
    subst this
    exact ⟨⟨nmK_ok (by omega), ⟨by omega, by omega⟩, ⟨by omega, by omega⟩⟩, rfl⟩
theorem varsA_src (lo hi : Int) : ∀ n : Nat, srcA (varsA lo hi n) = varsB lo hi n
  | 0 => rfl
  | n + 1 => by
    show srcA (varsA lo hi n ++ [(.var (nmK n) lo hi, [.nl])]) = varsB lo hi n ++ varB n lo hi
    rw [srcA_app, varsA_src lo hi n, srcA_one]
    congr 1
    simp [bytesP, AS.pcs, Pc.bytes, varB]
def nms (n : Nat) : List (List UInt8) := (List.range n).map fun k => nmK (k + 1)
theorem serPc_app {α : Type} (f : α → List Pc) : ∀ a b : List α, serPc f (a ++ b) = serPc f a ++ serPc f b
  | [], b => rfl
  | x :: a, b => by
    show .sg [44] :: .sp :: (f x ++ serPc f (a ++ b)) = (.sg [44] :: .sp :: (f x ++ serPc f a)) ++ serPc f b
    rw [serPc_app f a b]; simp [List.append_assoc]
theorem list_src : ∀ n : Nat, nmK 0 ++ bytesP (serPc (fun n => [Pc.word n]) (nms n)) = listB (n + 1)
  | 0 => by simp [nms, serPc, bytesP, listB]
  | n + 1 => by
    have e : nms (n + 1) = nms n ++ [nmK (n + 1)] := by simp [nms, List.range_succ]
    rw [e, serPc_app, bytesP_app, ← List.append_assoc, list_src n]
    show listB (n + 1) ++ _ = listB (n + 1) ++ ((if n + 1 = 0 then [] else [44, 32]) ++ nmK (n + 1))
    congr 1
    rw [if_neg (by omega)]
    simp [serPc, bytesP, Pc.bytes]
def diffA (n : Nat) (b : List Pc) : List (AS × List Pc) := [(.diff (nmK 0) (nms n), b)]
theorem diffA_src (n : Nat) (b : List Pc) : srcA (diffA n b) = [100, 105, 102, 102, 32] ++ (listB (n + 1) ++ (59 :: bytesP b)) := by
  unfold diffA
  rw [srcA_one, ← list_src]
  simp [AS.pcs, bytesP, Pc.bytes]
theorem diffA_ok {n : Nat} {b : List Pc} (h : n < 9) (hb : blank b = true) : textOk (diffA n b) := fun p hp => by
  have : p = (.diff (nmK 0) (nms n), b) := by simpa [diffA] using hp
  subst this
  refine ⟨⟨nmK_ok (by omega), fun m hm => ?_⟩, hb⟩
  obtain ⟨k, hk, rfl⟩ := List.mem_map.1 hm
  exact nmK_ok (by have := List.mem_range.1 hk; omega)
theorem diffA_fine {n : Nat} {lo hi : Int} {b : List Pc} {L : List (List UInt8 × List Int)} {C : List QCon} (h : n < 8) (hC : C.length < 16) : allFine ⟨VN (n + 1) lo hi, L, C⟩ (diffA n b) := by
  refine ⟨⟨hC, by simp [nms]; omega, fun m hm => ?_⟩, trivial⟩
  rcases List.mem_cons.1 hm with rfl | hm
  · exact inV_nm (by omega)
  · obtain ⟨k, hk, rfl⟩ := List.mem_map.1 hm
    exact inV_nm (by have := List.mem_range.1 hk; omega)
def diffC (n : Nat) : QCon := ⟨3, 0, [], 0, 0, [], 0, 0, (List.range (n + 1)).map (fun k : Nat => (k : Int)), []⟩
theorem diffA_env {n : Nat} {lo hi : Int} {b : List Pc} {L : List (List UInt8 × List Int)} {C : List QCon} : envOf ⟨VN (n + 1) lo hi, L, C⟩ (diffA n b) = ⟨VN (n + 1) lo hi, L, C ++ [diffC n]⟩ := by
  show (⟨VN (n + 1) lo hi, L, C ++ [QCon.mk 3 0 [] 0 0 [] 0 0 ((nmK 0 :: nms n).map (fun m => ((Env.mk (VN (n + 1) lo hi) L C).ix m : Int))) []]⟩ : Env) = _
  have e : (nmK 0 :: nms n).map (fun m => ((Env.mk (VN (n + 1) lo hi) L C).ix m : Int)) = (List.range (n + 1)).map (fun k : Nat => (k : Int)) := by
    have e1 : nmK 0 :: nms n = (List.range (n + 1)).map nmK := by rw [List.range_succ_eq_map]; simp [nms]
    rw [e1, List.map_map]
    refine List.map_congr_left (fun k hk => ?_)
    show ((Env.mk (VN (n + 1) lo hi) L C).ix (nmK k) : Int) = k
    rw [ix_nm (List.mem_range.1 hk)]
  rw [e]
  rfl
end
section
def qlA (i k : Nat) (m : Int) : AS × List Pc := (.lin ⟨false, none, nmK i⟩ [⟨true, none, nmK k⟩] 1 m, [.nl])
def qlB (i k : Nat) (m : Int) : List UInt8 := [108, 105, 110, 32] ++ (nmK i ++ ([32, 45, 32] ++ (nmK k ++ ([32, 33, 61, 32] ++ (Lib.itoa m ++ [59, 10])))))
def qlC (i k : Nat) (m : Int) : QCon := ⟨0, 0, [((i : Nat), 1), ((k : Nat), -1)], 1, m, [], 0, 0, [], []⟩
def qpA (i k : Nat) : List (AS × List Pc) := [qlA i k ((k : Int) - i), qlA i k ((i : Int) - k)]
def qrA (i : Nat) : Nat → List (AS × List Pc)
  | 0 => []
  | j + 1 => qrA i j ++ qpA i (i + 1 + j)
def qaA (n : Nat) : Nat → List (AS × List Pc)
  | 0 => varsA 1 n n ++ diffA (n - 1) [.nl]
  | i + 1 => qaA n i ++ qrA i (n - (i + 1))
def qrB (i : Nat) : Nat → List UInt8
  | 0 => []
  | j + 1 => qrB i j ++ (qlB i (i + 1 + j) (((i + 1 + j : Nat) : Int) - i) ++ qlB i (i + 1 + j) ((i : Int) - ((i + 1 + j : Nat) : Int)))
def qaB (n : Nat) : Nat → List UInt8
  | 0 => varsB 1 n n ++ ([100, 105, 102, 102, 32] ++ (listB n ++ [59, 10]))
  | i + 1 => qaB n i ++ qrB i (n - (i + 1))
def qrC (i : Nat) : Nat → List QCon
  | 0 => []
  | j + 1 => qrC i j ++ [qlC i (i + 1 + j) (((i + 1 + j : Nat) : Int) - i), qlC i (i + 1 + j) ((i : Int) - ((i + 1 + j : Nat) : Int))]
def qaC (n : Nat) : Nat → List QCon
  | 0 => [diffC (n - 1)]
  | i + 1 => qaC n i ++ qrC i (n - (i + 1))
theorem qlA_src (i k : Nat) (m : Int) : srcA [qlA i k m] = qlB i k m := by
  unfold qlA
  rw [srcA_one]
  simp [AS.pcs, linPc, AT.body, sumPc, relB, bytesP, Pc.bytes, qlB]
theorem qrA_src (i : Nat) : ∀ j, srcA (qrA i j) = qrB i j
  | 0 => rfl
  | j + 1 => by
    show srcA (qrA i j ++ [qlA i (i + 1 + j) (((i + 1 + j : Nat) : Int) - i), qlA i (i + 1 + j) ((i : Int) - ((i + 1 + j : Nat) : Int))]) = _
    rw [srcA_app, qrA_src i j, srcA_cons _ _ [_]]
    show qrB i j ++ (srcA [qlA i (i + 1 + j) (((i + 1 + j : Nat) : Int) - i)] ++ srcA [qlA i (i + 1 + j) ((i : Int) - ((i + 1 + j : Nat) : Int))]) = _
    rw [qlA_src, qlA_src]
    rfl
theorem qaA_src {n : Nat} (hn : 1 ≤ n) : ∀ i, srcA (qaA n i) = qaB n i
  | 0 => by
    show srcA (varsA 1 n n ++ diffA (n - 1) [.nl]) = _
    rw [srcA_app, varsA_src, diffA_src, show n - 1 + 1 = n by omega]
    rfl
  | i + 1 => by
    show srcA (qaA n i ++ qrA i (n - (i + 1))) = _
    rw [srcA_app, qaA_src hn i, qrA_src]
    rfl
theorem qrA_ok {i n : Nat} (hn : n ≤ 9) : ∀ {j : Nat}, i + j < n → textOk (qrA i j)
  | 0, _ => fun p hp => by cases hp
  | j + 1, h => by
    refine textOk_app (qrA_ok hn (j := j) (by omega)) (fun p hp => ?_)
    have ok : ∀ m : Int, -100 ≤ m → m ≤ 100 → (qlA i (i + 1 + j) m).1.ok ∧ blank (qlA i (i + 1 + j) m).2 = true := fun m m1 m2 =>
      ⟨⟨⟨nmK_ok (by omega), fun f hf => by cases hf⟩, fun u hu => by
        have : u = ⟨true, none, nmK (i + 1 + j)⟩ := by simpa using hu
        subst this
        exact ⟨nmK_ok (by omega), fun f hf => by cases hf⟩, ⟨by omega, by omega⟩, rfl⟩, rfl⟩
    have : p = qlA i (i + 1 + j) (((i + 1 + j : Nat) : Int) - i) ∨ p = qlA i (i + 1 + j) ((i : Int) - ((i + 1 + j : Nat) : Int)) := by simpa [qpA] using hp
    rcases this with rfl | rfl
    · exact ok _ (by omega) (by omega)
    · exact ok _ (by omega) (by omega)
theorem qaA_ok {n : Nat} (h1 : 1 ≤ n) (hn : n ≤ 8) : ∀ {i : Nat}, i ≤ n → textOk (qaA n i)
  | 0, _ => textOk_app (varsA_ok (by omega) (by omega) (by omega) n hn) (diffA_ok (by omega) rfl)
  | i + 1, h => textOk_app (qaA_ok h1 hn (i := i) (by omega)) (qrA_ok (n := n) (by omega) (by omega))
theorem ql_step {n i k : Nat} {m : Int} {C : List QCon} (hi : i < n) (hk : k < n) : (qlA i k m).1.step ⟨VN n 1 n, [], C⟩ = ⟨VN n 1 n, [], C ++ [qlC i k m]⟩ := by
  show (⟨VN n 1 n, [], C ++ [QCon.mk 0 0 [(((Env.mk (VN n 1 n) [] C).ix (nmK i) : Int), 1), (((Env.mk (VN n 1 n) [] C).ix (nmK k) : Int), -1)] 1 m [] 0 0 [] []]⟩ : Env) = _
  rw [ix_nm hi, ix_nm hk]
  rfl
theorem ql_fine {n i k : Nat} {m : Int} {C : List QCon} (hi : i < n) (hk : k < n) (m1 : -100 ≤ m) (m2 : m ≤ 100) (hC : C.length < 16) : (qlA i k m).1.fine ⟨VN n 1 n, [], C⟩ := by
  refine ⟨hC, by simp, fun t ht => ?_, by omega, by omega⟩
  have : t = ⟨false, none, nmK i⟩ ∨ t = ⟨true, none, nmK k⟩ := by simpa using ht
  rcases this with rfl | rfl
  · exact ⟨inV_nm hi, fun f hf => by cases hf⟩
  · exact ⟨inV_nm hk, fun f hf => by cases hf⟩
theorem qrA_env {n i : Nat} : ∀ {j : Nat} {C : List QCon}, i + j < n → envOf ⟨VN n 1 n, [], C⟩ (qrA i j) = ⟨VN n 1 n, [], C ++ qrC i j⟩
  | 0, C, _ => by simp [qrA, qrC, envOf]
  | j + 1, C, h => by
    show envOf _ (qrA i j ++ qpA i (i + 1 + j)) = _
    rw [envOf_app, qrA_env (j := j) (by omega)]
    show (qlA i (i + 1 + j) _).1.step ((qlA i (i + 1 + j) _).1.step ⟨VN n 1 n, [], C ++ qrC i j⟩) = _
    rw [ql_step (by omega) (by omega), ql_step (by omega) (by omega)]
    simp [qrC, List.append_assoc]
theorem qrC_len (i : Nat) : ∀ j, (qrC i j).length = 2 * j
  | 0 => rfl
  | j + 1 => by simp [qrC, qrC_len i j]; omega
theorem qrA_fine {n i : Nat} (hn : n ≤ 8) : ∀ {j : Nat} {C : List QCon}, i + j < n → C.length + 2 * j ≤ 16 → allFine ⟨VN n 1 n, [], C⟩ (qrA i j)
  | 0, C, _, _ => trivial
  | j + 1, C, h, hC => by
    refine allFine_app (qrA_fine hn (j := j) (by omega) (by omega)) ?_
    rw [qrA_env (by omega)]
    have hl := qrC_len i j
    refine ⟨ql_fine (by omega) (by omega) (by omega) (by omega) (by simp; omega), ?_⟩
    show allFine ((qlA i (i + 1 + j) (((i + 1 + j : Nat) : Int) - i)).1.step ⟨VN n 1 n, [], C ++ qrC i j⟩) [qlA i (i + 1 + j) ((i : Int) - ((i + 1 + j : Nat) : Int))]
    rw [ql_step (by omega) (by omega)]
    exact ⟨ql_fine (by omega) (by omega) (by omega) (by omega) (by simp; omega), trivial⟩
theorem qaA_env {n : Nat} (h1 : 1 ≤ n) : ∀ {i : Nat}, i ≤ n → envOf E0 (qaA n i) = ⟨VN n 1 n, [], qaC n i⟩
  | 0, _ => by
    obtain ⟨m, rfl⟩ : ∃ m, n = m + 1 := ⟨n - 1, by omega⟩
    show envOf E0 (varsA 1 _ (m + 1) ++ diffA m [.nl]) = _
    rw [envOf_app, varsA_env, diffA_env]
    rfl
  | i + 1, h => by
    show envOf E0 (qaA n i ++ qrA i (n - (i + 1))) = _
    rw [envOf_app, qaA_env h1 (i := i) (by omega), qrA_env (by omega)]
    rfl
theorem qaA_fine {n : Nat} (h1 : 1 ≤ n) (hn : n ≤ 4) : ∀ {i : Nat}, i ≤ n → allFine E0 (qaA n i)
  | 0, _ => by
    obtain ⟨m, rfl⟩ : ∃ m, n = m + 1 := ⟨n - 1, by omega⟩
    refine allFine_app (varsA_fine (by omega) (by omega) (by omega) _ (by omega)) ?_
    rw [varsA_env]
    exact diffA_fine (by omega) (by simp)
  | i + 1, h => by
    refine allFine_app (qaA_fine h1 hn (i := i) (by omega)) ?_
    rw [qaA_env h1 (by omega)]
    have hl : (qaC n i).length + 2 * (n - (i + 1)) ≤ 16 := by
      have : (n = 1 ∧ i = 0) ∨ (n = 2 ∧ (i = 0 ∨ i = 1)) ∨ (n = 3 ∧ (i = 0 ∨ i = 1 ∨ i = 2)) ∨ (n = 4 ∧ (i = 0 ∨ i = 1 ∨ i = 2 ∨ i = 3)) := by omega
      rcases this with ⟨rfl, rfl⟩ | ⟨rfl, rfl | rfl⟩ | ⟨rfl, rfl | rfl | rfl⟩ | ⟨rfl, rfl | rfl | rfl | rfl⟩ <;> decide
    exact qrA_fine (by omega) (by omega) hl
def qGood (n : Nat) (x : List Int) : Bool := decide (x.length = n) && (x.all fun y => decide (-1000 ≤ y) && decide (y ≤ 1000)) && (List.range n).all fun a => (List.range a).all fun b =>
  let d := x.getD a 0 - x.getD b 0
  d != 0 && d != (a : Int) - b && d != (b : Int) - a
def qWant (n : Nat) : Nat := [0, 1, 0, 0, 2].getD n 0
def qV (n : Nat) : List QVar := (VN n 1 n).map qv
theorem q_count {n : Nat} (h1 : 1 ≤ n) (hn : n ≤ 4) : ((boxV (bdV (qV n))).filter (suitsP (qV n) (qaC n n))).length = qWant n ∧ ((boxV (bdV (qV n))).filter (suitsP (qV n) (qaC n n))).all (qGood n) = true ∧ n * (boxV (bdV (qV n))).length + 1 ≤ 1000000 ∧ (boxV (bdV (qV n))).length < 100000 := by
  have : n = 1 ∨ n = 2 ∨ n = 3 ∨ n = 4 := by omega
  rcases this with rfl | rfl | rfl | rfl
  · refine ⟨by kernel_rfl, by kernel_rfl, ?_, ?_⟩ <;> exact of_decide_eq_true (by kernel_rfl)
  · refine ⟨by kernel_rfl, by kernel_rfl, ?_, ?_⟩ <;> exact of_decide_eq_true (by kernel_rfl)
  · refine ⟨by kernel_rfl, by kernel_rfl, ?_, ?_⟩ <;> exact of_decide_eq_true (by kernel_rfl)
  · refine ⟨by kernel_rfl, by kernel_rfl, ?_, ?_⟩ <;> exact of_decide_eq_true (by kernel_rfl)
end
section
set_option maxHeartbeats 8000000
set_option maxRecDepth 100000
variable {w w' : World}
theorem qlB_len {i k : Nat} {m : Int} (hi : i ≤ 10) (hk : k ≤ 10) (h1 : -100 ≤ m) (h2 : m ≤ 100) : (qlB i k m).length ≤ 57 := by
  have a := nmK_len (k := i) (by omega)
  have b := nmK_len (k := k) (by omega)
  have c := itoa_len (m := m) (by omega) (by omega)
  simp [qlB]; omega
theorem qrB_len {i : Nat} (hi : i ≤ 4) : ∀ {j : Nat}, j ≤ 4 → (qrB i j).length ≤ 114 * j
  | 0, _ => Nat.le_refl _
  | j + 1, h => by
    have a := qrB_len hi (j := j) (by omega)
    have b := qlB_len (i := i) (k := i + 1 + j) (m := (((i + 1 + j : Nat) : Int) - i)) (by omega) (by omega) (by omega) (by omega)
    have c := qlB_len (i := i) (k := i + 1 + j) (m := ((i : Int) - ((i + 1 + j : Nat) : Int))) (by omega) (by omega) (by omega) (by omega)
    simp only [qrB, List.length_append]
    omega
theorem qaB_len {n : Nat} (h1 : 1 ≤ n) (hn : n ≤ 4) : ∀ {i : Nat}, i ≤ n → (qaB n i).length ≤ 320 + 342 * i
  | 0, _ => by
    have a := varsB_len (lo := 1) (hi := n) (itoa_len (by omega) (by omega)) (itoa_len (by omega) (by omega)) (k := n) (by omega)
    have b := listB_len (k := n) (by omega)
    simp [qaB]; omega
  | i + 1, h => by
    have a := qaB_len h1 hn (i := i) (by omega)
    have b := qrB_len (i := i) (by omega) (j := n - (i + 1)) (by omega)
    simp only [qaB, List.length_append]
    omega
theorem qrB_next {i k : Nat} (h : i + 1 ≤ k) : qrB i (k + 1 - (i + 1)) = qrB i (k - (i + 1)) ++ (qlB i k ((k : Int) - i) ++ qlB i k ((i : Int) - k)) := by
  have e : k + 1 - (i + 1) = (k - (i + 1)) + 1 := by omega
  have e2 : i + 1 + (k - (i + 1)) = k := by omega
  rw [e, qrB, e2]
theorem good_at {n : Nat} {x : List Int} (h : qGood n x = true) : x.length = n ∧ (∀ a : Nat, a < n → x[a]? = some (x.getD a 0) ∧ -1000 ≤ x.getD a 0 ∧ x.getD a 0 ≤ 1000) ∧ ∀ a b : Nat, b < a → a < n → x.getD a 0 - x.getD b 0 ≠ 0 ∧ x.getD a 0 - x.getD b 0 ≠ (a : Int) - b ∧ x.getD a 0 - x.getD b 0 ≠ (b : Int) - a := by
  simp only [qGood, Bool.and_eq_true, decide_eq_true_eq, List.all_eq_true, List.mem_range, bne_iff_ne] at h
  refine ⟨h.1.1, fun a ha => ?_, fun a b hb ha => ?_⟩
  · have hl : a < x.length := by rw [h.1.1]; exact ha
    have e : x[a]? = some x[a] := List.getElem?_eq_getElem hl
    have e2 : x.getD a 0 = x[a] := by rw [List.getD_eq_getElem?_getD, e]; rfl
    rw [e2]
    exact ⟨e, h.1.2 _ (List.getElem_mem hl)⟩
  · have := h.2 a ha b hb
    exact ⟨this.1.1, this.1.2, this.2⟩
def ap (a b : List UInt8) : List UInt8 := a ++ b
theorem ap_len (a b : List UInt8) : (ap a b).length = a.length + b.length := List.length_append
theorem bn_ap (a b : List UInt8) : bn a ++ bn b = bn (ap a b) := bn_app a b
theorem bn_mk_ap (a : List UInt8) (xs : Array UInt8) : bn a ++ ⟨xs⟩ = bn (ap a xs.toList) := bn_app a xs.toList
theorem mk_bn_ap (a : List UInt8) (xs : Array UInt8) : (⟨xs⟩ : ByteArray) ++ bn a = bn (ap xs.toList a) := bn_app xs.toList a
attribute [local go_sem] bn_ap bn_mk_ap mk_bn_ap bn_size mk_size ap_len List.length_cons List.length_nil
theorem kp_Queens (N order : Int) (weak : Bool) (hN1 : -9223372036854775808 ≤ N) (hN2 : N ≤ 9223372036854775807) (ho1 : -9223372036854775808 ≤ order) (ho2 : order ≤ 9223372036854775807) (ht : PowTab w) (hdb : DbTab w) :
    Calls Tryz.prog 6 #[.int .i64 N, .int .i64 order, .bool weak] w fun e w' => e = .returned (.bool true) ∧ w.grownBy w' none := by
  have KP := Kept.mk (fun W => kp_pick N 4 W hN1 hN2 (by decide) (by decide))
  obtain ⟨p1, p2⟩ := pickI_bd N 4 (by decide)
  obtain ⟨n, hn⟩ : ∃ n : Nat, 1 + pickI N 4 = (n : Int) := ⟨(1 + pickI N 4).toNat, by omega⟩
  have hn1 : 1 ≤ n := by omega
  have hn4 : n ≤ 4 := by omega
  generalize pickI N 4 = PN at *
  have KV := Kept.mk (fun W => kp_vars n 1 (n : Int) W (by omega) (by omega) (by omega) (by omega) (by omega))
  have KL := Kept.mk (fun W => kp_list n W (by omega))
  have KN := Kept.mk (fun {k : Nat} (hk : k ≤ 100) W => kp_name k W (by omega))
  have KD := Kept.mk (fun {m : Int} (h1 : -1000 ≤ m) (h2 : m ≤ 1000) W => kp_digits m W (by omega) (by omega))
  have hvb := varsB_len (lo := 1) (hi := n) (itoa_len (by omega) (by omega)) (itoa_len (by omega) (by omega)) (k := n) (by omega)
  have hlb := listB_len (k := n) (by omega)
  have HS0 : Hid (qaB n 0 = varsB 1 n n ++ ([100, 105, 102, 102, 32] ++ (listB n ++ [59, 10]))) := rfl
  have HBL : Hid (∀ i, i ≤ n → (qaB n i).length ≤ 320 + 342 * i) := fun i hi => qaB_len hn1 hn4 hi
  have HRL : Hid (∀ i j, i ≤ 4 → j ≤ 4 → (qrB i j).length ≤ 114 * j) := fun i j hi hj => qrB_len hi hj
  have HNL : Hid (∀ k, k ≤ 100 → (nmK k).length ≤ 15) := fun k hk => nmK_len (by omega)
  have HIL : Hid (∀ m : Int, -1000 ≤ m → m ≤ 1000 → (Lib.itoa m).length ≤ 14) := fun m h1 h2 => itoa_len (by omega) (by omega)
  have HT := hide ht
  have HDB := hide hdb
  clear ht hdb
  generalize varsB 1 n n = VB at *
  generalize listB n = LB at *
  go_enter Tryz.func6, Tryz.ntmps6
  have hgr : w.grownBy w none := grown_refl _ _
  go_wp2_with (first | (go_at_call 16; refine (KP.get _).mono ?_; rintro e w6 ⟨rfl, hww⟩; subst w6) | (go_at_call 17; refine (KV.get _).mono ?_; rintro e w1 ⟨rfl, hg1⟩; replace hgr := hgr.trans hg1) | (go_at_call 18; refine (KL.get _).mono ?_; rintro e w2 ⟨rfl, hg2⟩; replace hgr := hgr.trans hg2))
  go_loopw [7, 8] (fun vs vi wr => ∃ i : Nat, i ≤ n ∧ vi = .int .i64 i ∧ vs = .string (bn (qaB n i)) ∧ w.grownBy wr none) (fun _ vi _ => n - (intOf vi).toNat)
  case atStart => exact ⟨0, Nat.zero_le _, rfl, by rw [HS0.out]; simp [ap, List.append_assoc], hgr⟩
  case round =>
    clear hgr
    obtain ⟨i, hi, rfl, rfl, hgr⟩ := hrel
    by_cases hlt : i < n
    · have hlt2 : (i : Int) < n := by omega
      have HE0 : Hid (qaB n i = qaB n i ++ qrB i (i + 1 - (i + 1))) := by rw [Hid, Nat.sub_self]; exact (List.append_nil _).symm
      have HE1 : Hid (qaB n (i + 1) = qaB n i ++ qrB i (n - (i + 1))) := rfl
      have lq := HBL.out i hi
      go_wp2
      go_loopw [7, 9] (fun vs vk wr => ∃ k : Nat, i + 1 ≤ k ∧ k ≤ n ∧ vk = .int .i64 k ∧ vs = .string (bn (ap (qaB n i) (qrB i (k - (i + 1))))) ∧ w.grownBy wr none) (fun _ vk _ => n - (intOf vk).toNat)
      case atStart => exact ⟨i + 1, Nat.le_refl _, by omega, by go_num, by rw [ap, ← HE0.out], hgr⟩
      case round =>
        clear hgr
        obtain ⟨k, hk1, hk2, rfl, rfl, hgr⟩ := hrel
        by_cases hlk : k < n
        · have hlk2 : (k : Int) < n := by omega
          have HNX := hide (qrB_next hk1)
          have lr := HRL.out i (k - (i + 1)) (by omega) (by omega)
          have l1 := HNL.out i (by omega)
          have l2 := HNL.out k (by omega)
          have l3 := HIL.out ((k : Int) - i) (by omega) (by omega)
          have l4 := HIL.out ((i : Int) - k) (by omega) (by omega)
          have b1 : -1000 ≤ (k : Int) - i := by omega
          have b2 : (k : Int) - i ≤ 1000 := by omega
          have b3 : -1000 ≤ (i : Int) - k := by omega
          have b4 : (i : Int) - k ≤ 1000 := by omega
          have KNi := Kept.mk (fun W => KN.get (k := i) (by omega) W)
          have KNk := Kept.mk (fun W => KN.get (k := k) (by omega) W)
          have HL1 : Hid (qlB i k ((k : Int) - i) = [108, 105, 110, 32] ++ (nmK i ++ ([32, 45, 32] ++ (nmK k ++ ([32, 33, 61, 32] ++ (Lib.itoa ((k : Int) - i) ++ [59, 10])))))) := rfl
          have HL2 : Hid (qlB i k ((i : Int) - k) = [108, 105, 110, 32] ++ (nmK i ++ ([32, 45, 32] ++ (nmK k ++ ([32, 33, 61, 32] ++ (Lib.itoa ((i : Int) - k) ++ [59, 10])))))) := rfl
          obtain ⟨m1, hm1⟩ : ∃ m1, (k : Int) - i = m1 := ⟨_, rfl⟩
          obtain ⟨m2, hm2⟩ : ∃ m2, (i : Int) - k = m2 := ⟨_, rfl⟩
          rw [hm1] at b1 b2 l3 HL1 HNX
          rw [hm2] at b3 b4 l4 HL2 HNX
          have KD1 := Kept.mk (fun W => KD.get (m := m1) b1 b2 W)
          have KD2 := Kept.mk (fun W => KD.get (m := m2) b3 b4 W)
          have HBD := hide (And.intro hk1 (And.intro hk2 hlk))
          clear HE0 HE1 b1 b2 b3 b4
          generalize qrB i (k - (i + 1)) = RB at *
          generalize qaB n i = QB at *
          generalize nmK i = NI at *
          generalize nmK k = NK at *
          generalize Lib.itoa m1 = D1 at *
          generalize Lib.itoa m2 = D2 at *
          have KNi2 := KNi
          have KNk2 := KNk
          go_wp2_with (first | (go_at_call 19; refine (KNi.get _).mono ?_; rintro e w1 ⟨rfl, hg1⟩; replace hgr := hgr.trans hg1; clear hg1 KNi) | (go_at_call 19; refine (KNk.get _).mono ?_; rintro e w1 ⟨rfl, hg1⟩; replace hgr := hgr.trans hg1; clear hg1 KNk) | (go_at_call 20; refine (KD1.get _).mono ?_; rintro e w1 ⟨rfl, hg1⟩; replace hgr := hgr.trans hg1; clear hg1 KD1))
          go_wp2_with (first | (go_at_call 19; refine (KNi2.get _).mono ?_; rintro e w1 ⟨rfl, hg1⟩; replace hgr := hgr.trans hg1; clear hg1 KNi2) | (go_at_call 19; refine (KNk2.get _).mono ?_; rintro e w1 ⟨rfl, hg1⟩; replace hgr := hgr.trans hg1; clear hg1 KNk2) | (go_at_call 20; refine (KD2.get _).mono ?_; rintro e w1 ⟨rfl, hg1⟩; replace hgr := hgr.trans hg1; clear hg1 KD2))
          go_roundw
          case rel =>
            obtain ⟨z1, z2, z3⟩ := HBD.out
            refine ⟨k + 1, by omega, by omega, by go_num, ?_, hgr⟩
            rw [HNX.out, HL1.out, HL2.out]
            simp only [ap, List.append_assoc, List.cons_append, List.nil_append]
          case measure => obtain ⟨z1, z2, z3⟩ := HBD.out; simp [intOf]; omega
        · obtain rfl : k = n := by omega
          go_wp2
          go_roundw
          case rel => exact ⟨i + 1, by omega, by go_num, by rw [HE1.out]; rfl, hgr⟩
          case measure => simp [intOf]; omega
    · obtain rfl : n = i := by omega
      have KM := Kept.mk (fun {W : World} (hg : w.grownBy W none) => kp_model (qaA n n) (qaA_ok hn1 (by omega) (Nat.le_refl _)) (qaA_fine hn1 hn4 (Nat.le_refl _)) (by rw [qaA_src hn1]; have := qaB_len hn1 hn4 (Nat.le_refl n); omega) W (tab_kept HT.out (fun k hk => hg.block k hk (by simp))))
      rw [qaA_src hn1, qaA_env hn1 (Nat.le_refl _)] at KM
      have hMd : MdOk (qV n) (qaC n n) := by
        have q := src_ok (qaA_ok hn1 (by omega) (Nat.le_refl n)) (qaA_fine hn1 hn4 (Nat.le_refl n)) (by rw [qaA_src hn1]; have := qaB_len hn1 hn4 (Nat.le_refl n); omega)
        rw [qaA_env hn1 (Nat.le_refl _)] at q
        exact q
      obtain ⟨f1, f2, f3, f4⟩ := q_count hn1 hn4
      have hVl : (qV n).length = n := by unfold qV; rw [List.length_map, VN_len]
      have hbd : ((qV n).length * (boxV (bdV (qV n))).length + 1 : Int) ≤ 1000000 := by rw [hVl]; have q := Int.ofNat_le.2 f3; rw [Int.natCast_add, Int.natCast_mul] at q; exact q
      have KF := Kept.mk (fun {W : World} {b : Nat} {t : List UInt8} (hg : w.grownBy W none) (hm : MdAt W b (qV n) (qaC n n) t) => kp_found hm hMd (tab_kept HT.out (fun k hk => hg.block k hk (by simp))) (db_grown HDB.out hg) order weak ho1 ho2 hbd f4)
      obtain ⟨hA, _, _⟩ := solve_all hMd (pickI order 2) weak 1000000 hbd f4
      have hSl := hA.perm.length_eq
      rw [f1] at hSl
      have HG : Hid (∀ x ∈ (solveS (mkK (qV n) (qaC n n) (pickI order 2) weak 1000000)).sols, x.length = n ∧ (∀ a : Nat, a < n → x[a]? = some (x.getD a 0) ∧ -1000 ≤ x.getD a 0 ∧ x.getD a 0 ≤ 1000) ∧ ∀ a b : Nat, b < a → a < n → x.getD a 0 - x.getD b 0 ≠ 0 ∧ x.getD a 0 - x.getD b 0 ≠ (a : Int) - b ∧ x.getD a 0 - x.getD b 0 ≠ (b : Int) - a) := fun x hx => good_at (List.all_eq_true.1 f2 x (hA.perm.mem_iff.1 hx))
      generalize (solveS (mkK (qV n) (qaC n n) (pickI order 2) weak 1000000)).sols = R at *
      have hwt : ∀ W : World, (W.alloc (.cells #[.int .i64 0, .int .i64 1, .int .i64 0, .int .i64 0, .int .i64 2] 3)).cell? ⟨W.heap.size, n, none⟩ = some (.int .i64 (qWant n)) := fun W => by
        refine cell_of (heap_alloc_new W _) n _ ?_
        have : n = 1 ∨ n = 2 ∨ n = 3 ∨ n = 4 := by omega
        rcases this with rfl | rfl | rfl | rfl <;> rfl
      have HWT := hide hwt
      clear hA f1 f2 f3 f4 hVl hbd hMd hwt
      have hqw : R.length ≤ 5 := by rw [hSl]; have : n = 1 ∨ n = 2 ∨ n = 3 ∨ n = 4 := (by omega); rcases this with rfl | rfl | rfl | rfl <;> decide
      have HSL := hide hSl
      clear hSl
      generalize qaB n n = QB at *
      go_wp2_with (first | (go_at_call 21; refine (KM.get hgr).mono ?_; rintro e w1 ⟨b, rfl, hb, hm1, hg1⟩; replace hgr := hgr.trans hg1) | (go_at_call 22; refine (KF.get hgr hm1).mono ?_; rintro e w2 ⟨vS, rfl, hL, hg2⟩; replace hgr := hgr.trans hg2; obtain ⟨la, lc, hvS⟩ := hL.ll.is; subst hvS))
      have HGR := hide hgr
      have HL := hide hL
      clear hgr hL hm1 hg1 hg2 KM KF
      go_loopw [13] (fun vi wr => ∃ i : Nat, i ≤ R.length ∧ vi = .int .i64 i ∧ w2.grownBy wr none) (fun vi _ => R.length - (intOf vi).toNat)
      case atStart => exact ⟨0, Nat.zero_le _, rfl, grown_refl _ _⟩
      case round =>
        obtain ⟨i, hi, rfl, hg⟩ := hrel
        by_cases hlt : i < R.length
        · obtain ⟨x, hx⟩ : ∃ x, R[i]? = some x := ⟨R[i], List.getElem?_eq_getElem hlt⟩
          obtain ⟨x1, x2, x3⟩ := HG.out x (List.mem_of_getElem? hx)
          obtain ⟨g, gv, cv, rfl, q1, q2, q3, q4⟩ := HL.out.ll.row hx (fun e => by rw [e] at x1; simp at x1; omega)
          rw [x1] at q2
          have q2' := hg.cell q2 (by simp)
          have q1' : g < wr.heap.size := Nat.lt_of_lt_of_le q1 hg.size
          have hlt2 : (i : Int) < R.length := by omega
          have h02 : (0 : Int) ≤ i := by omega
          have HX2 := hide x2
          have HX3 := hide x3
          have HQ4 := hide q4
          have HG2 := hide hg
          have HQ2 := hide (And.intro q1 (And.intro q2 q3))
          clear hx x1 x2 x3 q4 hg q1 q2 q3
          go_wp2
          go_loopw [14] (fun va wq => ∃ a : Nat, a ≤ n ∧ va = .int .i64 a ∧ w2.grownBy wq none) (fun va _ => n - (intOf va).toNat)
          case atStart => exact ⟨0, Nat.zero_le _, rfl, HG2.out⟩
          case round =>
            obtain ⟨a, ha, rfl, hga⟩ := hrel
            by_cases hla : a < n
            · have hla2 : (a : Int) < n := by omega
              go_wp2
              go_loopw [15] (fun vb wp => ∃ b : Nat, b ≤ a ∧ vb = .int .i64 b ∧ w2.grownBy wp none) (fun vb _ => a - (intOf vb).toNat)
              case atStart => exact ⟨0, Nat.zero_le _, rfl, hga⟩
              case round =>
                obtain ⟨c, hc, rfl, hgc⟩ := hrel
                by_cases hlc : c < a
                · obtain ⟨y1, y2, y3⟩ := HX2.out a hla
                  obtain ⟨z1, z2, z3⟩ := HX2.out c (by omega)
                  obtain ⟨d1, d2, d3⟩ := HX3.out a c hlc hla
                  obtain ⟨r1, r2, r3⟩ := HQ2.out
                  have s1 := hgc.cell r2 (by simp)
                  have s2 := hgc.cell (HQ4.out a _ y1) (by simp)
                  have s3 := hgc.cell (HQ4.out c _ z1) (by simp)
                  have s4 : g < wr.heap.size := Nat.lt_of_lt_of_le r1 hgc.size
                  have s5 : gv < wr.heap.size := Nat.lt_of_lt_of_le r3 hgc.size
                  generalize x.getD a 0 = ya at *
                  generalize x.getD c 0 = yc at *
                  have e1 : (ya - yc == 0) = false := by simpa using d1
                  have e2 : (ya - yc == (a : Int) - c) = false := by simpa using d2
                  have e3 : (ya - yc == (c : Int) - a) = false := by simpa using d3
                  have hlc2 : (c : Int) < a := by omega
                  have hla2 : (a : Int) < n := by omega
                  have hcn : (c : Int) < n := by omega
                  have h0a : (0 : Int) ≤ a := by omega
                  have h0c : (0 : Int) ≤ c := by omega
                  have HGC := hide hgc
                  clear y1 z1 r1 r2 r3 d1 d2 d3 hgc
                  go_wp2
                  go_quiet (fail)
                  go_wp2
                  go_roundw
                  case rel => exact ⟨c + 1, by omega, by go_num, HGC.out.trans (grown_drewN' _ _ _)⟩
                  case measure => simp [intOf]; omega
                · obtain rfl : c = a := by omega
                  go_wp2
                  go_roundw
                  case rel => exact ⟨c + 1, by omega, by go_num, hgc⟩
                  case measure => simp [intOf]; omega
            · obtain rfl : n = a := by omega
              go_wp2
              go_roundw
              case rel => exact ⟨i + 1, by omega, by go_num, hga⟩
              case measure => simp [intOf]; omega
        · obtain rfl : i = R.length := by omega
          have hwt := HWT.out
          have hsl : (R.length : Int) = qWant n := by rw [HSL.out]
          go_wp2
          go_ret
          exact ⟨rfl, (HGR.out.trans hg).trans (World.grownBy_alloc _ _ _)⟩
end
end Go.Proofs.YthpcbbnabnlanaaGreatDoor
