import Derived.Test.YthpcbbnabnlanaaGreatDoorM17
import Derived.Test.YthpcbbnabnlanaaGreatDoorM27
namespace Go.Proofs.YthpcbbnabnlanaaGreatDoor
set_option linter.unusedVariables false
set_option linter.unusedSimpArgs false
section
set_option maxHeartbeats 2000000
set_option maxRecDepth 100000
open Go.RowKit
variable {w w' : World}
theorem md_Solve {b : Nat} {V : List QVar} {C : List QCon} {t : List UInt8} (h : MdAt w b V C t) (hM : MdOk V C) (hdb : DbTab w) (order : Int) (weak : Bool) (budget : Int) (hbu : budget ≤ 9223372036854775807) : Calls Tryz.prog 29 #[.pointer (some ⟨b, 0, none⟩), .int .i64 order, .bool weak, .int .i64 budget] w fun e w' => ∃ vS, e = .returned (.agg #[vS, .int .i64 (solveS (mkK V C order weak budget)).ending, .int .i64 (solveS (mkK V C order weak budget)).nodes]) ∧ LLT w' vS (solveS (mkK V C order weak budget)).sols ∧ w.grownBy w' none := by
 obtain ⟨bc, B, vV, vC, cs, h1, h2, h3⟩ := h.set
 obtain ⟨W0, hW0⟩ : ∃ W0, W0 = w.alloc (.cells #[.slice none 0 0, .int .i64 0, .int .i64 0] 50) := ⟨_, rfl⟩
 have hg0 : w.grownBy W0 none := by rw [hW0]; exact World.grownBy_alloc _ _ _
 have KS := Kept.mk (sv_Solve (w := W0) (K := mkK V C order weak budget) (h2.grown hg0) h3 (db_grown hdb hg0) (mkK_ok hM.vars hM.vlen hM.cons hM.clen) rfl rfl hbu)
 have hbx0 : W0.heap[w.heap.size]? = some (.cells #[.slice none 0 0, .int .i64 0, .int .i64 0] 50 (0, 0)) := by rw [hW0]; exact heap_alloc_new _ _
 have HBX : Hid (∀ W', W0.grownBy W' none → W'.heap[w.heap.size]? = some (.cells #[.slice none 0 0, .int .i64 0, .int .i64 0] 50 (0, 0))) := fun W' hg => (hg.block _ (some_lt hbx0) (by simp)).trans hbx0
 have hlt := h.lt
 generalize hR : solveS (mkK V C order weak budget) = R at *
 have KS' := Kept.mk (show Calls Tryz.prog 37 #[.pointer (some ⟨bc, 1, none⟩), .int .i64 order, .bool weak, .int .i64 budget] W0 fun e w' => ∃ vS, e = .returned (.agg #[vS, .int .i64 R.ending, .int .i64 R.nodes]) ∧ LLT w' vS R.sols ∧ W0.grownBy w' none from KS.get)
 clear KS h h2 h3 hbx0 hdb hM hR
 go_enter Tryz.func29, Tryz.ntmps29
 go_wp2_with (go_at_call 37; rw [← hW0]; refine KS'.get.mono ?_; rintro e w3 ⟨vS, rfl, hL, hg3⟩; obtain ⟨sa, sc, hvS⟩ := hL.ll.is; subst hvS; have bb := HBX.out w3 hg3; have b0 := cell_of bb 0 _ rfl; have b1 := cell_of bb 1 _ rfl; have b2 := cell_of bb 2 _ rfl; have z0 := frozen_of bb 0; have z1 := frozen_of bb 1; have z2 := frozen_of bb 2; have l4 := some_lt bb)
 refine bodyPost_ret (results_cell_row rfl _ _ w.heap.size 50 #[.slice sa R.sols.length sc, .int .i64 R.ending, .int .i64 R.nodes] (0, 0) _ rfl (set3_at bb) Tryz.underlying50 rfl (by kernel_rfl)) rfl ?_
 exact ⟨_, rfl, hL.turn (keep3 bb), set3_grown (hg0.trans hg3) (Nat.le_refl _)⟩
def rngI (lo hi : Int) : List Int := (List.range (hi - lo + 1).toNat).map fun (k : Nat) => lo + (k : Int)
theorem rngI_mem (lo hi x : Int) : x ∈ rngI lo hi ↔ lo ≤ x ∧ x ≤ hi := by
 unfold rngI
 rw [List.mem_map]
 constructor
 ·rintro ⟨k, hk, rfl⟩
  rw [List.mem_range] at hk
  omega
 ·rintro ⟨h1, h2⟩
  exact ⟨(x - lo).toNat, by rw [List.mem_range]; omega, by omega⟩
theorem rngI_nodup (lo hi : Int) : (rngI lo hi).Nodup := by
 unfold rngI List.Nodup
 rw [List.pairwise_map]
 exact List.nodup_range.imp (fun h e => h (by omega))
def boxV : List (Int × Int) → List (List Int)
 | [] => [[]]
 | v :: vs => (rngI v.1 v.2).flatMap fun x => (boxV vs).map (x :: ·)
def bdV (vars : List QVar) : List (Int × Int) := vars.map fun v => (v.low, v.high)
theorem box_mem : ∀ (vars : List QVar) (x : List Int), x ∈ boxV (bdV vars) ↔ asgF vars x = true
 | [], x => by
  cases x with
  | nil => simp [boxV, bdV, asgF]
  | cons a x => simp [boxV, bdV, asgF]
 | v :: vs, x => by
  show x ∈ (rngI v.low v.high).flatMap (fun y => (boxV (bdV vs)).map (y :: ·)) ↔ _
  rw [List.mem_flatMap]
  constructor
  ·rintro ⟨y, hy, hx⟩
   obtain ⟨r, hr, rfl⟩ := List.mem_map.1 hx
   have h1 := (rngI_mem _ _ _).1 hy
   have h2 := (box_mem vs r).1 hr
   simp [asgF, inP, h1, h2]
  ·intro h
   cases x with
   | nil => simp [asgF] at h
   | cons y r =>
    simp only [asgF, Bool.and_eq_true, inP, decide_eq_true_eq] at h
    exact ⟨y, (rngI_mem _ _ _).2 h.1, List.mem_map.2 ⟨r, (box_mem vs r).2 h.2, rfl⟩⟩
theorem box_nodup : ∀ vs : List (Int × Int), (boxV vs).Nodup
 | [] => by simp [boxV]
 | v :: vs => by
  have ih := box_nodup vs
  unfold boxV List.Nodup
  rw [List.pairwise_flatMap]
  refine ⟨fun x _ => ?_, (rngI_nodup v.1 v.2).imp (fun {a b} hab r hr s hs e => ?_)⟩
  ·rw [List.pairwise_map]
   exact ih.imp (fun h e => h (by injection e))
  ·obtain ⟨r', _, rfl⟩ := List.mem_map.1 hr
   obtain ⟨s', _, rfl⟩ := List.mem_map.1 hs
   injection e with e1 e2
   exact hab e1
theorem cnt_rng {lo hi : Int} (h1 : -1000 ≤ lo) (h2 : hi ≤ 1000) : cntD (rngD lo hi) = (rngI lo hi).length := by
 rw [cntD_vals]
 refine List.Perm.length_eq ((List.perm_ext_iff_of_nodup ?_ (rngI_nodup lo hi)).2 (fun x => ?_))
 ·rw [valsD_eq]
  unfold List.Nodup
  rw [List.pairwise_map]
  exact (List.nodup_range.filter _).imp (fun h e => h (by omega))
 ·rw [valsD_mem, rngI_mem]
  constructor
  ·rintro ⟨p, hp, rfl, _⟩
   rw [rngD_bit _ _ h1] at hp
   simp at hp
   omega
  ·rintro ⟨q1, q2⟩
   refine ⟨(x + 1000).toNat, ?_, by omega, by omega⟩
   rw [rngD_bit _ _ h1]
   simp
   omega
theorem box_len : ∀ vs : List (Int × Int), (boxV vs).length = vs.foldr (fun v p => (rngI v.1 v.2).length * p) 1
 | [] => rfl
 | v :: vs => by
  have ih := box_len vs
  have key : ∀ (l : List Int), (l.flatMap fun x => (boxV vs).map (x :: ·)).length = l.length * (boxV vs).length := fun l => by
   induction l with
   | nil => simp
   | cons x l ih => rw [List.flatMap_cons, List.length_append, ih, List.length_map, List.length_cons, Nat.succ_mul, Nat.add_comm]
  show ((rngI v.1 v.2).flatMap fun x => (boxV vs).map (x :: ·)).length = (rngI v.1 v.2).length * vs.foldr (fun v p => (rngI v.1 v.2).length * p) 1
  rw [key, ih]
theorem prod_box : ∀ {V : List QVar}, (∀ v ∈ V, -1000 ≤ v.low ∧ v.low ≤ v.high ∧ v.high ≤ 1000) → prodV V = (boxV (bdV V)).length
 | [], _ => rfl
 | v :: V, h => by
  have ih := prod_box (V := V) (fun u hu => h u (by simp [hu]))
  rw [box_len] at ih ⊢
  have hv := h v (by simp)
  show cntD (rngD v.low v.high) * prodV V = (rngI v.low v.high).length * (bdV V).foldr (fun v p => (rngI v.1 v.2).length * p) 1
  rw [ih, cnt_rng hv.1 hv.2.2]
structure AllOf (V : List QVar) (C : List QCon) (order : Int) (r : SS) : Prop where
 ending : r.ending = 0
 perm : r.sols.Perm ((boxV (bdV V)).filter (suitsP V C))
 lex : order ≠ 1 → r.sols.Pairwise LexLt
theorem solve_all {V : List QVar} {C : List QCon} (hM : MdOk V C) (order : Int) (weak : Bool) (budget : Int) (hb : (V.length * (boxV (bdV V)).length + 1 : Int) ≤ budget) (hbox : (boxV (bdV V)).length < 100000) : AllOf V C order (solveS (mkK V C order weak budget)) ∧ 0 ≤ (solveS (mkK V C order weak budget)).nodes ∧ (solveS (mkK V C order weak budget)).nodes ≤ budget := by
 have s := solve_ok (mkK_ok (order := order) (weak := weak) (budget := budget) hM.vars hM.vlen hM.cons hM.clen)
 generalize solveS (mkK V C order weak budget) = r at *
 have hp : prodV (mkK V C order weak budget).vars = (boxV (bdV V)).length := prod_box hM.vars
 have hb0 : 0 ≤ budget := by
  have : (0 : Int) ≤ (V.length : Int) * ((boxV (bdV V)).length : Int) := Int.mul_nonneg (Int.natCast_nonneg _) (Int.natCast_nonneg _)
  omega
 have hmem : ∀ x ∈ r.sols, x ∈ boxV (bdV V) ∧ suitsP V C x = true := fun x hx => by
  have q : suitsP V C x = true := s.suits x hx
  exact ⟨(box_mem V x).2 (by unfold suitsP at q; simp at q; exact q.1), q⟩
 have hle : r.sols.length ≤ (boxV (bdV V)).length := by
  have q : r.sols.Perm ((boxV (bdV V)).filter (fun x => decide (x ∈ r.sols))) := (List.perm_ext_iff_of_nodup s.nd ((box_nodup _).filter _)).2 (fun x => by
   rw [List.mem_filter]
   exact ⟨fun h => ⟨(hmem x h).1, by simpa using h⟩, fun h => by simpa using h.2⟩)
  rw [q.length_eq]
  exact List.length_filter_le _ _
 refine ⟨?_, s.lo, s.hi hb0⟩
 rcases s.ends with ⟨e1, e2⟩ | ⟨e1, e2, e3⟩ | ⟨e1, e2, _⟩
 ·refine ⟨e1, (List.perm_ext_iff_of_nodup s.nd ((box_nodup _).filter _)).2 (fun x => ?_), s.lex⟩
  rw [List.mem_filter]
  exact ⟨fun h => hmem x h, fun h => e2 x h.2⟩
 ·rw [hp] at e3
  have e3 : r.nodes < (V.length : Int) * ((boxV (bdV V)).length : Int) + 1 := e3
  have e2 : budget ≤ r.nodes := e2
  omega
 ·omega
end
section
set_option maxHeartbeats 4000000
set_option maxRecDepth 100000
open Go.RowKit
variable {w w' : World}
def A45 : List (AS × List Pc) := [(.var [120] 4 5, [])]
theorem itoa_dig {k : Nat} (h : k < 10) : Lib.itoa (k : Int) = [UInt8.ofNat (48 + k)] := by
 unfold Lib.itoa
 rw [if_neg (by omega)]
 exact Lib.decDigits_one h
theorem A45_src : bn (srcA A45) = ⟨#[118, 97, 114, 32, 120, 58, 32, 52, 46, 46, 53, 59]⟩ := by
 have e4 : Lib.itoa 4 = [52] := itoa_dig (k := 4) (by decide)
 have e5 : Lib.itoa 5 = [53] := itoa_dig (k := 5) (by decide)
 show bn ([118, 97, 114] ++ ([32] ++ ([120] ++ ([58] ++ ([32] ++ (Lib.itoa 4 ++ ([46, 46] ++ (Lib.itoa 5 ++ ([59] ++ []))))))))) = _
 rw [e4, e5]
 rfl
theorem A45_ok : textOk A45 := fun p hp => by
 have : p = (.var [120] 4 5, []) := by simpa [A45] using hp
 subst this
 exact ⟨⟨⟨rfl, rfl⟩, ⟨by decide, by decide⟩, ⟨by decide, by decide⟩⟩, rfl⟩
theorem A45_fine : allFine E0 A45 := ⟨⟨⟨(fun p hp => by cases hp), (fun p hp => by cases hp)⟩, by decide, by decide, by decide, by decide⟩, trivial⟩
theorem lex_two {l : List (List Int)} {a b : List Int} (h : l.Perm [a, b]) (hp : l.Pairwise LexLt) (hn : ¬ LexLt b a) : l = [a, b] := by
 have hl := h.length_eq
 match l, hl with
 | [x, y], _ =>
  have hx : x ∈ [a, b] := h.mem_iff.1 (by simp)
  have hy : y ∈ [a, b] := h.mem_iff.1 (by simp)
  have hlt : LexLt x y := by simpa using hp
  have ha : a ∈ [x, y] := h.mem_iff.2 (by simp)
  have hb : b ∈ [x, y] := h.mem_iff.2 (by simp)
  simp only [List.mem_cons, List.not_mem_nil, or_false] at hx hy ha hb
  rcases hx with rfl | rfl
  ·rcases hy with rfl | rfl
   ·rcases hb with rfl | rfl <;> rfl
   ·rfl
  ·rcases hy with rfl | rfl
   ·exact absurd hlt hn
   ·rcases ha with rfl | rfl <;> rfl
theorem found_two {weak : Bool} : (solveS (mkK [⟨bn [120], 4, 5⟩] [] 0 weak 10)).sols = [[4], [5]] := by
 have hM : MdOk [⟨bn [120], 4, 5⟩] [] := by
  have q := src_ok A45_ok A45_fine (by have e := congrArg ByteArray.size A45_src; rw [bn_size] at e; rw [e]; decide)
  exact q
 obtain ⟨h1, _, _⟩ := solve_all hM 0 weak 10 (by decide) (by decide)
 have e : (boxV (bdV [⟨bn [120], 4, 5⟩])).filter (suitsP [⟨bn [120], 4, 5⟩] []) = [[4], [5]] := by decide
 have hp := h1.perm
 rw [e] at hp
 refine lex_two hp (h1.lex (by decide)) ?_
 rintro ⟨k, h1, h2⟩
 match k with
 | 0 => exact absurd h2 (by decide)
 | k + 1 => simp at h2
theorem ValsIn.cells {u : Value} {r : List Int} (h : ValsIn w u r) (hne : r ≠ []) : ∃ gv cv, u = .slice (some ⟨gv, 0, none⟩) r.length cv ∧ gv < w.heap.size ∧ ∀ (j : Nat) (x : Int), r[j]? = some x → w.cell? ⟨gv, j, none⟩ = some (.int .i64 x) := by
 rcases h with ⟨e, _⟩ | ⟨gv, cv, hR⟩
 ·exact absurd e hne
 ·refine ⟨gv, cv, hR.is, hR.lt, fun j x hx => ?_⟩
  have q := hR.at (sz := 1) (fun _ => rfl) hx 0 _ rfl
  rw [Nat.mul_one] at q
  exact q
theorem LL.row {a : Option Addr} {n c : Nat} {rows : List (List Int)} (h : LL w (.slice a n c) rows) {i : Nat} {r : List Int} (hr : rows[i]? = some r) (hne : r ≠ []) : ∃ g gv cv, a = some ⟨g, 0, none⟩ ∧ g < w.heap.size ∧ w.cell? ⟨g, i, none⟩ = some (.slice (some ⟨gv, 0, none⟩) r.length cv) ∧ gv < w.heap.size ∧ ∀ (j : Nat) (x : Int), r[j]? = some x → w.cell? ⟨gv, j, none⟩ = some (.int .i64 x) := by
 obtain ⟨g, u, e, h1, h2, h3⟩ := h.at_ hr
 obtain ⟨gv, cv, rfl, h4, h5⟩ := h3.cells hne
 exact ⟨g, gv, cv, e, h1, h2, h4, h5⟩
theorem kp_found {b : Nat} {V : List QVar} {C : List QCon} {t : List UInt8} (h : MdAt w b V C t) (hM : MdOk V C) (ht : PowTab w) (hdb : DbTab w) (order : Int) (weak : Bool) (ho1 : -9223372036854775808 ≤ order) (ho2 : order ≤ 9223372036854775807) (hb : (V.length * (boxV (bdV V)).length + 1 : Int) ≤ 1000000) (hbox : (boxV (bdV V)).length < 100000) : Calls Tryz.prog 22 #[.pointer (some ⟨b, 0, none⟩), .int .i64 order, .bool weak] w fun e w' => ∃ vS, e = .returned (.tuple #[vS, .bool true]) ∧ LLT w' vS (solveS (mkK V C (pickI order 2) weak 1000000)).sols ∧ w.grownBy w' none := by
 have hlen : (srcA A45).length ≤ 2000 := by have e := congrArg ByteArray.size A45_src; rw [bn_size] at e; rw [e]; decide
 have KM := Kept.mk (kp_model A45 A45_ok A45_fine hlen w ht)
 rw [A45_src] at KM
 have hM0 := src_ok A45_ok A45_fine hlen
 have KQ := Kept.mk (fun {W : World} {b0 : Nat} {t0 : List UInt8} (hg : w.grownBy W none) (hm : MdAt W b0 ((envOf E0 A45).V.map qv) (envOf E0 A45).C t0) => md_Solve hm hM0 (db_grown hdb hg) 0 weak 10 (by decide))
 have KR := Kept.mk (fun {W : World} (hg : w.grownBy W none) => md_Solve (h.grown hg) hM (db_grown hdb hg) (pickI order 2) weak 1000000 (by decide))
 have KP := Kept.mk (fun W => kp_pick order 2 W ho1 ho2 (by decide) (by decide))
 have hf2 := found_two (weak := weak)
 have e2 : (envOf E0 A45).V.map qv = [⟨bn [120], 4, 5⟩] := rfl
 have e3 : (envOf E0 A45).C = [] := rfl
 rw [e2, e3] at KQ
 rw [e2, e3] at KM
 obtain ⟨hA, hn0, hn1⟩ := solve_all hM (pickI order 2) weak 1000000 hb hbox
 have hend := hA.ending
 rw [hend] at KR
 generalize solveS (mkK V C (pickI order 2) weak 1000000) = R at *
 generalize hQ : solveS (mkK [⟨bn [120], 4, 5⟩] [] 0 weak 10) = Q at *
 have hrow : Q.sols.length = 2 := by rw [hf2]; rfl
 have HROW : Hid (Q.sols[0]? = some [4]) := by rw [Hid, hf2]; rfl
 generalize pickI order 2 = PO at *
 clear h hM ht hdb hA hend hf2 hM0 hlen hQ e2 e3
 go_enter Tryz.func22, Tryz.ntmps22
 go_wp2_with (first | (go_at_call 21; refine KM.get.mono ?_; rintro e w1 ⟨b0, rfl, hb0, hm1, hg1⟩) | (go_at_call 29; refine (KQ.get hg1 hm1).mono ?_; rintro e w2 ⟨vQ, rfl, hL2, hg2⟩; obtain ⟨qa, qc, hvQ⟩ := hL2.ll.is; subst hvQ; obtain ⟨g, gv, cv, rfl, q1, q2, q3, q4⟩ := hL2.ll.row HROW.out (by simp); have q5 := q4 0 4 rfl; clear q4 hL2))
 have hgA := ((hg1.trans hg2).trans (World.grownBy_alloc w2 (.cells #[.slice (some ⟨g, 0, none⟩) 2 qc, .int .i64 Q.ending, .int .i64 Q.nodes] 50) none))
 generalize w2.alloc (.cells #[.slice (some ⟨g, 0, none⟩) 2 qc, .int .i64 Q.ending, .int .i64 Q.nodes] 50) = W5 at *
 clear q1 q2 q3 q5 KQ KM hg1 hg2 hm1
 go_wp2_with (first | (go_at_call 16; refine (KP.get _).mono ?_; rintro e w6 ⟨rfl, rfl⟩) | (go_at_call 29; refine (KR.get hgA).mono ?_; rintro e w4 ⟨vR, rfl, hL4, hg4⟩; obtain ⟨ra, rc, hvR⟩ := hL4.ll.is; subst hvR))
 go_quiet (fail)
 go_wp2
 go_ret2
 exact ⟨_, rfl, (hL4.grown (World.grownBy_alloc _ _ _)).grown (grown_drewN' _ _ _), ((hgA.trans hg4).trans (World.grownBy_alloc _ _ _)).trans (grown_drewN' _ _ _)⟩
end
section
open Go.RowKit
theorem textPc_app : ∀ A B : List (AS × List Pc), textPc (A ++ B) = textPc A ++ textPc B
 | [], B => rfl
 | (a, b) :: r, B => by
  show a.pcs ++ (.sg [59] :: (b ++ textPc (r ++ B))) = (a.pcs ++ (.sg [59] :: (b ++ textPc r))) ++ textPc B
  rw [textPc_app r B]
  simp [List.append_assoc]
theorem srcA_app (A B : List (AS × List Pc)) : srcA (A ++ B) = srcA A ++ srcA B := by unfold srcA; rw [textPc_app, bytesP_app]
theorem srcA_cons (a : AS) (b : List Pc) (B : List (AS × List Pc)) : srcA ((a, b) :: B) = srcA [(a, b)] ++ srcA B := srcA_app [(a, b)] B
theorem srcA_one (a : AS) (b : List Pc) : srcA [(a, b)] = bytesP a.pcs ++ (59 :: bytesP b) := by
 show bytesP (a.pcs ++ (.sg [59] :: (b ++ []))) = _
 rw [List.append_nil, bytesP_app, bytesP_cons]
 rfl
theorem textOk_app {A B : List (AS × List Pc)} (h : textOk A) (k : textOk B) : textOk (A ++ B) := fun p hp => by
 rcases List.mem_append.1 hp with q | q
 ·exact h p q
 ·exact k p q
end
section
open Go.RowKit
def swA (lo hi f : Int) (rel : Nat) (m : Int) : List (AS × List Pc) := [(.var [98] 0 1, [.sp]), (.var [120] lo hi, [.nl]), (.when [98] ⟨false, some f, [120]⟩ [] rel m, [.nl])]
def swB (lo hi f : Int) (rel : Nat) (m : Int) : List UInt8 := [118, 97, 114, 32, 98, 58, 32, 48, 46, 46, 49, 59, 32, 118, 97, 114, 32, 120, 58, 32] ++ (Lib.itoa lo ++ ([46, 46] ++ (Lib.itoa hi ++ ([59, 10, 119, 104, 101, 110, 32, 98, 58, 32] ++ (Lib.itoa f ++ ([32, 42, 32, 120, 32] ++ (relB rel ++ ([32] ++ (Lib.itoa m ++ [59, 10])))))))))
theorem swA_src (lo hi f : Int) (rel : Nat) (m : Int) : srcA (swA lo hi f rel m) = swB lo hi f rel m := by
 have e0 : Lib.itoa 0 = [48] := itoa_dig (k := 0) (by decide)
 have e1 : Lib.itoa 1 = [49] := itoa_dig (k := 1) (by decide)
 unfold swA
 rw [srcA_cons, srcA_one, srcA_cons, srcA_one, srcA_one]
 simp [AS.pcs, linPc, AT.body, sumPc, bytesP, Pc.bytes, swB, e0, e1]
def swO (t : Bool) : List (AS × List Pc) := [(.or (t, [98]) [], [])]
theorem swO_src (t : Bool) : srcA (swO t) = [111, 114, 32] ++ ((if t then [] else [33]) ++ [98, 59]) := by
 unfold swO
 rw [srcA_one]
 cases t <;> simp [AS.pcs, litPc, serPc, bytesP, Pc.bytes]
def swE (lo hi : Int) (C : List QCon) : Env := ⟨[([98], 0, 1), ([120], lo, hi)], [], C⟩
def swC (f : Int) (rel : Nat) (m : Int) : QCon := ⟨1, 0, [(1, f)], relI rel, m, [], 0, 0, [], []⟩
def swL (t : Bool) : QCon := ⟨4, 0, [], 0, 0, [], 0, 0, [], [(0, if t then 1 else 0)]⟩
theorem swA_env (lo hi f : Int) (rel : Nat) (m : Int) : envOf E0 (swA lo hi f rel m) = swE lo hi [swC f rel m] := rfl
theorem swO_env (lo hi : Int) (C : List QCon) (t : Bool) : envOf (swE lo hi C) (swO t) = swE lo hi (C ++ [swL t]) := rfl
theorem swA_ok {lo hi f m : Int} {rel : Nat} (h1 : -1000 ≤ lo) (h2 : lo ≤ 1000) (h3 : -1000 ≤ hi) (h4 : hi ≤ 1000) (h5 : -1000 ≤ f) (h6 : f ≤ 1000) (h7 : -1000 ≤ m) (h8 : m ≤ 1000) : textOk (swA lo hi f rel m) := fun p hp => by
 have : p = (.var [98] 0 1, [.sp]) ∨ p = (.var [120] lo hi, [.nl]) ∨ p = (.when [98] ⟨false, some f, [120]⟩ [] rel m, [.nl]) := by simpa [swA] using hp
 rcases this with rfl | rfl | rfl
 ·exact ⟨⟨⟨rfl, rfl⟩, ⟨by decide, by decide⟩, ⟨by decide, by decide⟩⟩, rfl⟩
 ·exact ⟨⟨⟨rfl, rfl⟩, ⟨by omega, by omega⟩, ⟨by omega, by omega⟩⟩, rfl⟩
 ·exact ⟨⟨⟨rfl, rfl⟩, ⟨⟨rfl, rfl⟩, fun g hg => by cases hg; exact ⟨by omega, by omega⟩⟩, (fun u hu => by cases hu), ⟨by omega, by omega⟩, rfl⟩, rfl⟩
theorem swO_ok (t : Bool) : textOk (swO t) := fun p hp => by
 have : p = (.or (t, [98]) [], []) := by simpa [swO] using hp
 subst this
 exact ⟨⟨⟨rfl, rfl⟩, fun q hq => by cases hq⟩, rfl⟩
theorem swA_fine {lo hi f m : Int} {rel : Nat} (h1 : -1000 ≤ lo) (h2 : lo ≤ hi) (h4 : hi ≤ 1000) (h5 : -100 ≤ f) (h6 : f ≤ 100) (h7 : -1000 ≤ m) (h8 : m ≤ 1000) : allFine E0 (swA lo hi f rel m) := by
 refine ⟨⟨⟨(fun p hp => by cases hp), (fun p hp => by cases hp)⟩, by decide, by decide, by decide, by decide⟩, ⟨⟨fun p hp => ?_, (fun p hp => by cases hp)⟩, by decide, h1, h2, h4⟩, ⟨by show 0 < 16; decide, ?_, by simp, fun t ht => ?_, by omega, by omega⟩, trivial⟩
 ·have : p = ([98], 0, 1) := by simpa [E0, AS.step] using hp
  subst this
  decide
 ·exact ⟨([98], 0, 1), by simp [E0, AS.step], rfl, by decide, by decide⟩
 ·have : t = ⟨false, some f, [120]⟩ := by simpa using ht
  subst this
  exact ⟨⟨([120], lo, hi), by simp [E0, AS.step], rfl⟩, fun g hg => by cases hg; exact ⟨h5, h6⟩⟩
theorem swO_fine {lo hi : Int} {C : List QCon} (hC : C.length < 16) (t : Bool) : allFine (swE lo hi C) (swO t) := by
 refine ⟨⟨hC, by simp, fun p hp => ?_⟩, trivial⟩
 have : p = (t, [98]) := by simpa using hp
 subst this
 exact ⟨([98], 0, 1), by simp [swE], rfl, by decide, by decide⟩
def swSo (f : Int) (rel : Nat) (m x : Int) : Bool := relP (relI rel) (f * x) m
def swV (lo hi : Int) : List QVar := [⟨bn [98], 0, 1⟩, ⟨bn [120], lo, hi⟩]
theorem sw_asg {lo hi : Int} {r : List Int} : asgF (swV lo hi) r = true ↔ ∃ b x : Int, r = [b, x] ∧ (b = 0 ∨ b = 1) ∧ lo ≤ x ∧ x ≤ hi := by
 match r with
 | [] => simp [swV, asgF]
 | [b] => simp [swV, asgF]
 | [b, x] =>
  simp only [swV, asgF, inP, Bool.and_eq_true, decide_eq_true_eq, and_true]
  constructor
  ·rintro ⟨⟨h1, h2⟩, h3, h4⟩
   exact ⟨b, x, rfl, by omega, h3, h4⟩
  ·rintro ⟨b', x', e, h1, h2, h3⟩
   injection e with e1 e2
   injection e2 with e2 _
   subst e1 e2
   omega
 | b :: x :: y :: r => simp [swV, asgF]
theorem sw_con (f m b x : Int) (rel : Nat) : conP [b, x] (swC f rel m) = (swSo f rel m x == (b == 1)) := by
 show (relP (relI rel) (sumP [b, x] [(1, f)]) m == (vAt [b, x] 0 == 1)) = _
 have : sumP [b, x] [(1, f)] = f * x := by simp [sumP, vAt]
 rw [this]
 rfl
theorem sw_lit (t : Bool) (b x : Int) (hb : b = 0 ∨ b = 1) : conP [b, x] (swL t) = (t == (b == 1)) := by
 show litP [b, x] [(0, if t then 1 else 0)] = _
 rcases hb with rfl | rfl <;> cases t <;> rfl
theorem sw_free (lo hi f m : Int) (rel : Nat) (r : List Int) : suitsP (swV lo hi) [swC f rel m] r = true ↔ ∃ x : Int, lo ≤ x ∧ x ≤ hi ∧ r = [if swSo f rel m x then 1 else 0, x] := by
 unfold suitsP
 rw [Bool.and_eq_true, sw_asg]
 constructor
 ·rintro ⟨⟨b, x, rfl, hb, h1, h2⟩, h3⟩
  simp only [List.all_cons, List.all_nil, Bool.and_true, sw_con] at h3
  refine ⟨x, h1, h2, ?_⟩
  rcases hb with rfl | rfl <;> cases e : swSo f rel m x <;> simp_all
 ·rintro ⟨x, h1, h2, rfl⟩
  refine ⟨⟨_, x, rfl, by split <;> simp, h1, h2⟩, ?_⟩
  simp only [List.all_cons, List.all_nil, Bool.and_true, sw_con]
  cases swSo f rel m x <;> rfl
theorem sw_given (lo hi f m : Int) (rel : Nat) (t : Bool) (r : List Int) : suitsP (swV lo hi) [swC f rel m, swL t] r = true ↔ ∃ x : Int, lo ≤ x ∧ x ≤ hi ∧ swSo f rel m x = t ∧ r = [if t then 1 else 0, x] := by
 unfold suitsP
 rw [Bool.and_eq_true, sw_asg]
 constructor
 ·rintro ⟨⟨b, x, rfl, hb, h1, h2⟩, h3⟩
  simp only [List.all_cons, List.all_nil, Bool.and_true, sw_con, sw_lit _ _ _ hb, Bool.and_eq_true] at h3
  refine ⟨x, h1, h2, ?_⟩
  rcases hb with rfl | rfl <;> cases e : swSo f rel m x <;> cases t <;> simp_all
 ·rintro ⟨x, h1, h2, h3, rfl⟩
  have hb : (if t then (1 : Int) else 0) = 0 ∨ (if t then (1 : Int) else 0) = 1 := by cases t <;> simp
  refine ⟨⟨_, x, rfl, hb, h1, h2⟩, ?_⟩
  simp only [List.all_cons, List.all_nil, Bool.and_true, sw_con, sw_lit _ _ _ hb, Bool.and_eq_true, h3]
  cases t <;> exact ⟨rfl, rfl⟩
theorem sw_count {lo hi f m : Int} {rel : Nat} {l y z : List (List Int)} (hl : l.Perm ((boxV (bdV (swV lo hi))).filter (suitsP (swV lo hi) [swC f rel m]))) (hy : y.Perm ((boxV (bdV (swV lo hi))).filter (suitsP (swV lo hi) [swC f rel m, swL true]))) (hz : z.Perm ((boxV (bdV (swV lo hi))).filter (suitsP (swV lo hi) [swC f rel m, swL false]))) : l.length = (rngI lo hi).length ∧ y.length + z.length = l.length ∧ ∀ r ∈ l, ∃ x : Int, lo ≤ x ∧ x ≤ hi ∧ r = [if swSo f rel m x then 1 else 0, x] ∧ (r ∈ y ↔ swSo f rel m x = true) ∧ (r ∈ z ↔ swSo f rel m x = false) := by
 have mem : ∀ {C : List QCon} {p : List (List Int)}, p.Perm ((boxV (bdV (swV lo hi))).filter (suitsP (swV lo hi) C)) → ∀ r, r ∈ p ↔ suitsP (swV lo hi) C r = true := fun {C p} h r => by
  rw [h.mem_iff, List.mem_filter, box_mem]
  exact ⟨fun q => q.2, fun q => ⟨by unfold suitsP at q; rw [Bool.and_eq_true] at q; exact q.1, q⟩⟩
 have nd : ∀ {C : List QCon} {p : List (List Int)}, p.Perm ((boxV (bdV (swV lo hi))).filter (suitsP (swV lo hi) C)) → p.Nodup := fun {C p} h => h.nodup_iff.2 ((box_nodup _).filter _)
 have ndm : ∀ (q : List Int) (g : Int → Int), q.Nodup → (q.map fun x => [g x, x]).Nodup := fun q g hq => by
  unfold List.Nodup
  rw [List.pairwise_map]
  exact List.Pairwise.imp (fun h e => h (by injection e with _ e; injection e)) hq
 have pl : l.Perm ((rngI lo hi).map fun x => [if swSo f rel m x then 1 else 0, x]) := (List.perm_ext_iff_of_nodup (nd hl) (ndm _ _ (rngI_nodup _ _))).2 (fun r => by
  rw [mem hl, sw_free, List.mem_map]
  constructor
  ·rintro ⟨x, h1, h2, rfl⟩; exact ⟨x, (rngI_mem _ _ _).2 ⟨h1, h2⟩, rfl⟩
  ·rintro ⟨x, h, rfl⟩; obtain ⟨h1, h2⟩ := (rngI_mem _ _ _).1 h; exact ⟨x, h1, h2, rfl⟩)
 have pt : ∀ {t : Bool} {p : List (List Int)}, p.Perm ((boxV (bdV (swV lo hi))).filter (suitsP (swV lo hi) [swC f rel m, swL t])) → p.length = ((rngI lo hi).filter fun x => swSo f rel m x == t).length := fun {t p} h => by
  have q : p.Perm (((rngI lo hi).filter fun x => swSo f rel m x == t).map fun x => [if t then 1 else 0, x]) := (List.perm_ext_iff_of_nodup (nd h) (ndm _ (fun _ => if t then 1 else 0) ((rngI_nodup _ _).filter _))).2 (fun r => by
   rw [mem h, sw_given, List.mem_map]
   constructor
   ·rintro ⟨x, h1, h2, h3, rfl⟩; exact ⟨x, List.mem_filter.2 ⟨(rngI_mem _ _ _).2 ⟨h1, h2⟩, by simp [h3]⟩, rfl⟩
   ·rintro ⟨x, h, rfl⟩
    obtain ⟨h1, h2⟩ := List.mem_filter.1 h
    obtain ⟨h3, h4⟩ := (rngI_mem _ _ _).1 h1
    exact ⟨x, h3, h4, by simpa using h2, rfl⟩)
  rw [q.length_eq, List.length_map]
 refine ⟨by rw [pl.length_eq, List.length_map], ?_, fun r hr => ?_⟩
 ·rw [pt hy, pt hz, pl.length_eq, List.length_map]
  have key : ∀ q : List Int, (q.filter fun x => swSo f rel m x == true).length + (q.filter fun x => swSo f rel m x == false).length = q.length := fun q => by
   induction q with
   | nil => rfl
   | cons x q ih =>
    cases e : swSo f rel m x <;> simp [List.filter_cons, e] at ih ⊢ <;> omega
  exact key _
 ·obtain ⟨x, h1, h2, rfl⟩ := (sw_free lo hi f m rel r).1 ((mem hl r).1 hr)
  refine ⟨x, h1, h2, rfl, ?_, ?_⟩
  ·rw [mem hy, sw_given]
   constructor
   ·rintro ⟨x', _, _, h5, e⟩
    injection e with e1 e2
    injection e2 with e2 _
    rw [e2]; exact h5
   ·intro h
    exact ⟨x, h1, h2, h, by rw [h]⟩
  ·rw [mem hz, sw_given]
   constructor
   ·rintro ⟨x', _, _, h5, e⟩
    injection e with e1 e2
    injection e2 with e2 _
    rw [e2]; exact h5
   ·intro h
    exact ⟨x, h1, h2, h, by rw [h]⟩
end
section
open Go.RowKit
variable {w w' : World}
def ap (a b : List UInt8) : List UInt8 := a ++ b
theorem ap_len (a b : List UInt8) : (ap a b).length = a.length + b.length := List.length_append
theorem bn_ap (a b : List UInt8) : bn a ++ bn b = bn (ap a b) := bn_app a b
theorem bn_mk_ap (a : List UInt8) (xs : Array UInt8) : bn a ++ ⟨xs⟩ = bn (ap a xs.toList) := bn_app a xs.toList
theorem mk_bn_ap (a : List UInt8) (xs : Array UInt8) : (⟨xs⟩ : ByteArray) ++ bn a = bn (ap xs.toList a) := bn_app xs.toList a
attribute [local go_sem] bn_ap bn_mk_ap mk_bn_ap bn_size mk_size ap_len List.length_cons List.length_nil
end
section
open Go.RowKit
variable {w w' : World}
theorem sw_env2 (lo hi f : Int) (rel : Nat) (m : Int) (t : Bool) : envOf E0 (swA lo hi f rel m ++ swO t) = swE lo hi [swC f rel m, swL t] := by rw [envOf_app, swA_env, swO_env]; rfl
theorem sw_box {lo hi : Int} (h1 : lo ≤ hi) (h2 : hi ≤ lo + 29) : (2 * (boxV (bdV (swV lo hi))).length + 1 : Int) ≤ 1000000 ∧ (boxV (bdV (swV lo hi))).length < 100000 := by
 have e : (boxV (bdV (swV lo hi))).length = 2 * (rngI lo hi).length := by
  rw [box_len]
  show (rngI 0 1).length * ((rngI lo hi).length * 1) = _
  rw [Nat.mul_one]; rfl
 have e2 : (rngI lo hi).length = (hi - lo + 1).toNat := by simp [rngI]
 rw [e, e2]
 omega
def swT (lo hi f : Int) (R : List UInt8) (m : Int) : List UInt8 := ap (ap (ap (ap (ap (ap (ap (ap (ap (ap [118, 97, 114, 32, 98, 58, 32, 48, 46, 46, 49, 59, 32, 118, 97, 114, 32, 120, 58, 32] (Lib.itoa lo)) [46, 46]) (Lib.itoa hi)) [59, 10, 119, 104, 101, 110, 32, 98, 58, 32]) (Lib.itoa f)) [32, 42, 32, 120, 32]) R) [32]) (Lib.itoa m)) [59, 10]
theorem swT_is (lo hi f : Int) (rel : Nat) (m : Int) : swB lo hi f rel m = swT lo hi f (relB rel) m := by simp only [swB, swT, ap, List.append_assoc, List.cons_append, List.nil_append]
theorem swB_len {lo hi f m : Int} {rel : Nat} (h1 : -1000 ≤ lo) (h2 : lo ≤ 1000) (h3 : -1000 ≤ hi) (h4 : hi ≤ 1000) (h5 : -1000 ≤ f) (h6 : f ≤ 1000) (h7 : -1000 ≤ m) (h8 : m ≤ 1000) : (swB lo hi f rel m).length ≤ 150 := by
 have a := itoa_len (m := lo) (by omega) (by omega)
 have b := itoa_len (m := hi) (by omega) (by omega)
 have c := itoa_len (m := f) (by omega) (by omega)
 have d := itoa_len (m := m) (by omega) (by omega)
 have e : (relB rel).length ≤ 2 := by unfold relB; split <;> decide
 simp [swB]; omega
structure SwF (w : World) (lo hi f m : Int) (rel : Nat) (order : Int) (weak : Bool) (l y z : List (List Int)) : Prop where
 m1 : ∀ W, w.grownBy W none → Calls Tryz.prog 21 #[.string (bn (swT lo hi f (relB rel) m))] W fun e w' => ∃ b, e = .returned (.pointer (some ⟨b, 0, none⟩)) ∧ W.heap.size ≤ b ∧ W.grownBy w' none ∧ ∀ W2, w'.grownBy W2 none → Calls Tryz.prog 22 #[.pointer (some ⟨b, 0, none⟩), .int .i64 order, .bool weak] W2 fun e w3 => ∃ vS, e = .returned (.tuple #[vS, .bool true]) ∧ LLT w3 vS l ∧ W2.grownBy w3 none
 m2 : ∀ W, w.grownBy W none → Calls Tryz.prog 21 #[.string (bn (ap (swT lo hi f (relB rel) m) [111, 114, 32, 98, 59]))] W fun e w' => ∃ b, e = .returned (.pointer (some ⟨b, 0, none⟩)) ∧ W.heap.size ≤ b ∧ W.grownBy w' none ∧ ∀ W2, w'.grownBy W2 none → Calls Tryz.prog 22 #[.pointer (some ⟨b, 0, none⟩), .int .i64 order, .bool weak] W2 fun e w3 => ∃ vS, e = .returned (.tuple #[vS, .bool true]) ∧ LLT w3 vS y ∧ W2.grownBy w3 none
 m3 : ∀ W, w.grownBy W none → Calls Tryz.prog 21 #[.string (bn (ap (swT lo hi f (relB rel) m) [111, 114, 32, 33, 98, 59]))] W fun e w' => ∃ b, e = .returned (.pointer (some ⟨b, 0, none⟩)) ∧ W.heap.size ≤ b ∧ W.grownBy w' none ∧ ∀ W2, w'.grownBy W2 none → Calls Tryz.prog 22 #[.pointer (some ⟨b, 0, none⟩), .int .i64 order, .bool weak] W2 fun e w3 => ∃ vS, e = .returned (.tuple #[vS, .bool true]) ∧ LLT w3 vS z ∧ W2.grownBy w3 none
 len : l.length = (rngI lo hi).length
 sum : y.length + z.length = l.length
 row : ∀ r ∈ l, ∃ x : Int, lo ≤ x ∧ x ≤ hi ∧ r = [if swSo f rel m x then 1 else 0, x] ∧ (r ∈ y ↔ swSo f rel m x = true) ∧ (r ∈ z ↔ swSo f rel m x = false)
 two : ∀ r, r ∈ l ∨ r ∈ y ∨ r ∈ z → r.length = 2
theorem sw_all {lo hi f m : Int} (rel : Nat) (order : Int) (weak : Bool) (h1 : -20 ≤ lo) (h2 : lo ≤ 20) (h3 : lo ≤ hi) (h4 : hi ≤ lo + 29) (h5 : -100 ≤ f) (h6 : f ≤ 100) (h7 : -200 ≤ m) (h8 : m ≤ 200) (ho1 : -9223372036854775808 ≤ order) (ho2 : order ≤ 9223372036854775807) (ht : PowTab w) (hdb : DbTab w) : ∃ l y z, SwF w lo hi f m rel order weak l y z := by
 have okA := swA_ok (rel := rel) (lo := lo) (hi := hi) (f := f) (m := m) (by omega) (by omega) (by omega) (by omega) (by omega) (by omega) (by omega) (by omega)
 have fiA := swA_fine (rel := rel) (lo := lo) (hi := hi) (f := f) (m := m) (by omega) (by omega) (by omega) (by omega) (by omega) (by omega) (by omega)
 have okO := fun t => textOk_app okA (swO_ok t)
 have fiO : ∀ t, allFine E0 (swA lo hi f rel m ++ swO t) := fun t => allFine_app fiA (by rw [swA_env]; exact swO_fine (by simp) t)
 have ln := swB_len (rel := rel) (lo := lo) (hi := hi) (f := f) (m := m) (by omega) (by omega) (by omega) (by omega) (by omega) (by omega) (by omega) (by omega)
 have l1 : (srcA (swA lo hi f rel m)).length ≤ 2000 := by rw [swA_src]; omega
 have l2 : ∀ t, (srcA (swA lo hi f rel m ++ swO t)).length ≤ 2000 := fun t => by rw [srcA_app, swA_src, swO_src]; cases t <;> simp <;> omega
 obtain ⟨bx1, bx2⟩ := sw_box h3 h4
 have M1 : MdOk (swV lo hi) [swC f rel m] := by have q := src_ok okA fiA l1; rw [swA_env] at q; exact q
 have M2 : ∀ t, MdOk (swV lo hi) [swC f rel m, swL t] := fun t => by have q := src_ok (okO t) (fiO t) (l2 t); rw [sw_env2] at q; exact q
 obtain ⟨A1, _, _⟩ := solve_all M1 (pickI order 2) weak 1000000 bx1 bx2
 obtain ⟨A2, _, _⟩ := solve_all (M2 true) (pickI order 2) weak 1000000 bx1 bx2
 obtain ⟨A3, _, _⟩ := solve_all (M2 false) (pickI order 2) weak 1000000 bx1 bx2
 obtain ⟨c1, c2, c3⟩ := sw_count A1.perm A2.perm A3.perm
 have lens : ∀ {C : List QCon} {p : List (List Int)}, p.Perm ((boxV (bdV (swV lo hi))).filter (suitsP (swV lo hi) C)) → ∀ r ∈ p, r.length = 2 := fun {C p} h r hr => by
  have q := (List.mem_filter.1 (h.mem_iff.1 hr)).1
  obtain ⟨b, x, rfl, _⟩ := sw_asg.1 ((box_mem _ _).1 q)
  rfl
 have tb : ∀ {W : World}, w.grownBy W none → PowTab W := fun {W} hg => tab_kept ht (fun k hk => hg.block k hk (by simp))
 have step : ∀ (A : List (AS × List Pc)) (V : List QVar) (C : List QCon) (hA : textOk A) (hf : allFine E0 A) (hl : (srcA A).length ≤ 2000) (hM : MdOk V C) (he : (envOf E0 A).V.map qv = V ∧ (envOf E0 A).C = C) (b1 : (V.length * (boxV (bdV V)).length + 1 : Int) ≤ 1000000) (b2 : (boxV (bdV V)).length < 100000) (S : List UInt8), srcA A = S → ∀ W, w.grownBy W none → Calls Tryz.prog 21 #[.string (bn S)] W fun e w' => ∃ b, e = .returned (.pointer (some ⟨b, 0, none⟩)) ∧ W.heap.size ≤ b ∧ W.grownBy w' none ∧ ∀ W2, w'.grownBy W2 none → Calls Tryz.prog 22 #[.pointer (some ⟨b, 0, none⟩), .int .i64 order, .bool weak] W2 fun e w3 => ∃ vS, e = .returned (.tuple #[vS, .bool true]) ∧ LLT w3 vS (solveS (mkK V C (pickI order 2) weak 1000000)).sols ∧ W2.grownBy w3 none := by
  rintro A V C hA hf hl hM ⟨rfl, rfl⟩ b1 b2 S rfl W hW
  refine (kp_model A hA hf hl W (tb hW)).mono ?_
  rintro e w' ⟨b, rfl, hb, hm, hg⟩
  refine ⟨b, rfl, hb, hg, fun W2 hg2 => ?_⟩
  exact kp_found (hm.grown hg2) hM (tb ((hW.trans hg).trans hg2)) (db_grown hdb ((hW.trans hg).trans hg2)) order weak ho1 ho2 b1 b2
 exact ⟨_, _, _, step _ (swV lo hi) [swC f rel m] okA fiA l1 M1 ⟨by rw [swA_env]; rfl, by rw [swA_env]; rfl⟩ bx1 bx2 _ (by rw [swA_src, swT_is]),
  step _ (swV lo hi) [swC f rel m, swL true] (okO true) (fiO true) (l2 true) (M2 true) ⟨by rw [sw_env2]; rfl, by rw [sw_env2]; rfl⟩ bx1 bx2 _ (by rw [srcA_app, swA_src, swO_src, swT_is]; rfl),
  step _ (swV lo hi) [swC f rel m, swL false] (okO false) (fiO false) (l2 false) (M2 false) ⟨by rw [sw_env2]; rfl, by rw [sw_env2]; rfl⟩ bx1 bx2 _ (by rw [srcA_app, swA_src, swO_src, swT_is]; rfl),
  c1, c2, c3, fun r hr => by rcases hr with q | q | q; exact lens A1.perm r q; exact lens A2.perm r q; exact lens A3.perm r q⟩
end
section
set_option maxHeartbeats 8000000
set_option maxRecDepth 100000
open Go.RowKit
variable {w w' : World}
attribute [local go_sem] bn_ap bn_mk_ap mk_bn_ap bn_size mk_size ap_len List.length_cons List.length_nil
theorem kp_Switched (a0 a1 a2 a3 a4 order : Int) (weak : Bool) (b0 : -9223372036854775808 ≤ a0 ∧ a0 ≤ 9223372036854775807) (b1 : -9223372036854775808 ≤ a1 ∧ a1 ≤ 9223372036854775807) (b2 : -9223372036854775808 ≤ a2 ∧ a2 ≤ 9223372036854775807) (b3 : -9223372036854775808 ≤ a3 ∧ a3 ≤ 9223372036854775807) (b4 : -9223372036854775808 ≤ a4 ∧ a4 ≤ 9223372036854775807) (b5 : -9223372036854775808 ≤ order ∧ order ≤ 9223372036854775807) (ht : PowTab w) (hdb : DbTab w) : Calls Tryz.prog 9 #[.int .i64 a0, .int .i64 a1, .int .i64 a2, .int .i64 a3, .int .i64 a4, .int .i64 order, .bool weak] w fun e w' => e = .returned (.bool true) ∧ w.grownBy w' none := by
 have KP0 := Kept.mk (fun W => kp_pick a0 41 W b0.1 b0.2 (by decide) (by decide))
 have KP1 := Kept.mk (fun W => kp_pick a1 30 W b1.1 b1.2 (by decide) (by decide))
 have KP2 := Kept.mk (fun W => kp_pick a2 201 W b2.1 b2.2 (by decide) (by decide))
 have KP3 := Kept.mk (fun W => kp_pick a3 401 W b3.1 b3.2 (by decide) (by decide))
 have KP4 := Kept.mk (fun W => kp_pick a4 3 W b4.1 b4.2 (by decide) (by decide))
 obtain ⟨p1, p2⟩ := pickI_bd a0 41 (by decide)
 obtain ⟨p3, p4⟩ := pickI_bd a1 30 (by decide)
 obtain ⟨p5, p6⟩ := pickI_bd a2 201 (by decide)
 obtain ⟨p7, p8⟩ := pickI_bd a3 401 (by decide)
 obtain ⟨p9, p10⟩ := pickI_bd a4 3 (by decide)
 generalize pickI a0 41 = P0 at *
 generalize pickI a1 30 = P1 at *
 generalize pickI a2 201 = P2 at *
 generalize pickI a3 401 = P3 at *
 obtain ⟨rel, hrel0⟩ : ∃ rel : Nat, pickI a4 3 = (rel : Int) := ⟨(pickI a4 3).toNat, by omega⟩
 rw [hrel0] at KP4 p9 p10
 clear hrel0
 obtain ⟨lo, hlo⟩ : ∃ lo, P0 - 20 = lo := ⟨_, rfl⟩
 obtain ⟨hi, hhi⟩ : ∃ hi, lo + P1 = hi := ⟨_, rfl⟩
 obtain ⟨f, hf⟩ : ∃ f, P2 - 100 = f := ⟨_, rfl⟩
 obtain ⟨m, hm⟩ : ∃ m, P3 - 200 = m := ⟨_, rfl⟩
 obtain ⟨l, y, z, hF⟩ := sw_all (w := w) (lo := lo) (hi := hi) (f := f) (m := m) rel order weak (by omega) (by omega) (by omega) (by omega) (by omega) (by omega) (by omega) (by omega) b5.1 b5.2 ht hdb
 have KD1 := Kept.mk (fun W => kp_digits lo W (by omega) (by omega))
 have KD2 := Kept.mk (fun W => kp_digits hi W (by omega) (by omega))
 have KD3 := Kept.mk (fun W => kp_digits f W (by omega) (by omega))
 have KD4 := Kept.mk (fun W => kp_digits m W (by omega) (by omega))
 have i1 := itoa_len (m := lo) (by omega) (by omega)
 have i2 := itoa_len (m := hi) (by omega) (by omega)
 have i3 := itoa_len (m := f) (by omega) (by omega)
 have i4 := itoa_len (m := m) (by omega) (by omega)
 have i5 : (relB rel).length ≤ 2 := by unfold relB; split <;> decide
 have KM1 := Kept.mk (fun {W : World} (hg : w.grownBy W none) => hF.m1 W hg)
 have KM2 := Kept.mk (fun {W : World} (hg : w.grownBy W none) => hF.m2 W hg)
 have KM3 := Kept.mk (fun {W : World} (hg : w.grownBy W none) => hF.m3 W hg)
 unfold swT at KM1 KM2 KM3
 have hrt : ∀ W : World, (W.alloc (.cells #[.string ⟨#[61]⟩, .string ⟨#[33, 61]⟩, .string ⟨#[60, 61]⟩] 9)).cell? ⟨W.heap.size, rel, none⟩ = some (.string (bn (relB rel))) := fun W => by
  refine cell_of (heap_alloc_new W _) rel _ ?_
  have : rel = 0 ∨ rel = 1 ∨ rel = 2 := by omega
  rcases this with rfl | rfl | rfl <;> rfl
 have hlen : ((l.length : Int) != hi - lo + 1) = false := by
  have e2 : (rngI lo hi).length = (hi - lo + 1).toNat := by simp [rngI]
  rw [hF.len, e2]; simp; omega
 have hsum : (((y.length : Int) + (z.length : Int)) != (l.length : Int)) = false := by rw [← hF.sum]; simp
 have hll : l.length ≤ 30 := by
  have e2 : (rngI lo hi).length = (hi - lo + 1).toNat := by simp [rngI]
  rw [hF.len, e2]; omega
 have hyz : y.length ≤ 30 ∧ z.length ≤ 30 := by have := hF.sum; omega
 obtain ⟨hyl, hzl⟩ := hyz
 have HROW := hide hF.row
 have HTWO := hide hF.two
 have HREL := hide (And.intro p9 p10)
 have e15 := relB rel
 clear hF ht hdb e15 b0 b1 b2 b3 b4
 generalize hRB : relB rel = RB at *
 have HRB := hide hRB
 clear hRB
 generalize Lib.itoa lo = D1 at *
 generalize Lib.itoa hi = D2 at *
 generalize Lib.itoa f = D3 at *
 generalize Lib.itoa m = D4 at *
 go_enter Tryz.func9, Tryz.ntmps9
 have hgr : w.grownBy w none := grown_refl _ _
 go_wp2_with (first | (go_at_call 16; refine (KP0.get _).mono ?_; rintro e w6 ⟨rfl, hww⟩; subst w6; clear KP0) | (go_at_call 16; refine (KP1.get _).mono ?_; rintro e w6 ⟨rfl, hww⟩; subst w6; clear KP1) | (go_at_call 16; refine (KP2.get _).mono ?_; rintro e w6 ⟨rfl, hww⟩; subst w6; clear KP2) | (go_at_call 16; refine (KP3.get _).mono ?_; rintro e w6 ⟨rfl, hww⟩; subst w6; clear KP3) | (go_at_call 16; refine (KP4.get _).mono ?_; rintro e w6 ⟨rfl, hww⟩; subst w6; clear KP4; replace hgr := hgr.trans (World.grownBy_alloc w (.cells #[.string ⟨#[61]⟩, .string ⟨#[33, 61]⟩, .string ⟨#[60, 61]⟩] 9) none)) | (go_at_call 20; refine (KD1.get _).mono ?_; rintro e w1 ⟨rfl, hg1⟩; replace hgr := hgr.trans hg1; clear hg1 KD1) | (go_at_call 20; refine (KD2.get _).mono ?_; rintro e w1 ⟨rfl, hg1⟩; replace hgr := hgr.trans hg1; clear hg1 KD2) | (go_at_call 20; refine (KD3.get _).mono ?_; rintro e w1 ⟨rfl, hg1⟩; replace hgr := hgr.trans hg1; clear hg1 KD3) | (go_at_call 20; refine (KD4.get _).mono ?_; rintro e w1 ⟨rfl, hg1⟩; replace hgr := hgr.trans hg1; clear hg1 KD4))
 go_wp2_with (first | (go_at_call 21; refine (KM1.get hgr).mono ?_; rintro e wa ⟨q1, rfl, _, hg1, hfo1⟩; replace hgr := hgr.trans hg1; have KF1 := Kept.mk (fun {W2 : World} h => hfo1 W2 h); have hka := grown_refl wa none; clear hg1 hfo1 KM1) | (go_at_call 21; refine (KM2.get hgr).mono ?_; rintro e wb ⟨q2, rfl, _, hg1, hfo1⟩; replace hgr := hgr.trans hg1; replace hka := hka.trans hg1; have KF2 := Kept.mk (fun {W2 : World} h => hfo1 W2 h); have hkb := grown_refl wb none; clear hg1 hfo1 KM2) | (go_at_call 21; refine (KM3.get hgr).mono ?_; rintro e wc ⟨q3, rfl, _, hg1, hfo1⟩; replace hgr := hgr.trans hg1; replace hka := hka.trans hg1; replace hkb := hkb.trans hg1; have KF3 := Kept.mk (fun {W2 : World} h => hfo1 W2 h); have hkc := grown_refl wc none; clear hg1 hfo1 KM3) | (go_at_call 22; refine (KF1.get hka).mono ?_; rintro e w1 ⟨v1, rfl, hL1, hg1⟩; replace hgr := hgr.trans hg1; replace hkb := hkb.trans hg1; replace hkc := hkc.trans hg1; clear hg1 KF1 hka; obtain ⟨la, lc, hv1⟩ := hL1.ll.is; subst hv1) | (go_at_call 22; refine (KF2.get hkb).mono ?_; rintro e w2 ⟨v2, rfl, hL2, hg1⟩; replace hgr := hgr.trans hg1; replace hkc := hkc.trans hg1; replace hL1 := hL1.grown hg1; clear hg1 KF2 hkb; obtain ⟨ya, yc, hv2⟩ := hL2.ll.is; subst hv2) | (go_at_call 22; refine (KF3.get hkc).mono ?_; rintro e w3 ⟨v3, rfl, hL3, hg1⟩; replace hgr := hgr.trans hg1; replace hL1 := hL1.grown hg1; replace hL2 := hL2.grown hg1; clear hg1 KF3 hkc; obtain ⟨za, zc, hv3⟩ := hL3.ll.is; subst hv3))
 have HGR := hide hgr
 have HL1 := hide hL1
 have HL2 := hide hL2
 have HL3 := hide hL3
 have hrl : rel = 0 ∨ rel = 1 ∨ rel = 2 := by have := HREL.out; omega
 clear hgr hL1 hL2 hL3 hlen hsum hrt
 rcases hrl with hr0 | hr0 | hr0
 ·have hrb : [61] = RB := by rw [← HRB.out, hr0]; rfl
  have c1 : ((bn RB).toList == [33, 61]) = false := by rw [← hrb, ba_toList, bn_data]; rfl
  have c2 : ((bn RB).toList == [60, 61]) = false := by rw [← hrb, ba_toList, bn_data]; rfl
  clear hrb
  have HSO : Hid (∀ x : Int, swSo f rel m x = true ↔ f * x = m) := fun x => by rw [hr0]; show relP 0 (f * x) m = true ↔ _; simp [relP]
  clear hr0
  go_loopw [26] (fun vi wr => ∃ i : Nat, i ≤ l.length ∧ vi = .int .i64 i ∧ w3.grownBy wr none) (fun vi _ => l.length - (intOf vi).toNat)
  case atStart => exact ⟨0, Nat.zero_le _, rfl, grown_refl _ _⟩
  case round =>
   obtain ⟨i, hi9, rfl, hg⟩ := hrel
   by_cases hlt : i < l.length
   ·obtain ⟨r, hr⟩ : ∃ r, l[i]? = some r := ⟨l[i], List.getElem?_eq_getElem hlt⟩
    have hrm := List.mem_of_getElem? hr
    obtain ⟨x, x1, x2, hre, m1, m2⟩ := HROW.out r hrm
    have hr2 := HTWO.out r (.inl hrm)
    obtain ⟨g, gv, cv, rfl, q1, q2, q3, q4⟩ := HL1.out.ll.row hr (fun e => by rw [e] at hr2; simp at hr2)
    obtain ⟨g', u, eg, _, qu, hVu⟩ := HL1.out.ll.at_ hr
    have eg' : g = g' := by injection eg with eg; injection eg
    subst eg'
    have eu : u = .slice (some ⟨gv, 0, none⟩) r.length cv := by rw [q2] at qu; exact (Option.some.inj qu).symm
    subst eu
    have KY := Kept.mk (fun {W : World} (hw : w3.grownBy W none) => kp_has (w := W) (HL2.out.ll.grown hw) (hVu.grown hw) (by omega) (fun s hs => by have := HTWO.out s (.inr (.inl hs)); omega) (by omega))
    have KZ := Kept.mk (fun {W : World} (hw : w3.grownBy W none) => kp_has (w := W) (HL3.out.ll.grown hw) (hVu.grown hw) (by omega) (fun s hs => by have := HTWO.out s (.inr (.inr hs)); omega) (by omega))
    rw [hr2] at KY KZ q2
    obtain ⟨mb1, mb2⟩ := mul_bd (a := f) (b := x) (by omega) (by omega) (by omega) (by omega)
    have s2 := hg.cell q2 (by simp)
    have s3 : g < wr.heap.size := Nat.lt_of_lt_of_le q1 hg.size
    have s4 : gv < wr.heap.size := Nat.lt_of_lt_of_le q3 hg.size
    have hlt2 : (i : Int) < l.length := by omega
    have h0i : (0 : Int) ≤ i := by omega
    have HLI : Hid (i + 1 ≤ l.length) := hlt
    have HME : Hid (l.length - (i + 1) < l.length - i) := by rw [Hid]; omega
    by_cases hc : f * x = m
    ·have hs := (HSO.out x).2 hc
     have dy : decide (r ∈ y) = true := by simpa using m1.2 hs
     have dz : decide (r ∈ z) = false := by simpa using fun q => by have := m2.1 q; rw [hs] at this; cases this
     rw [hs] at hre
     rw [dy] at KY
     rw [dz] at KZ
     have t0 := hg.cell (q4 0 1 (by rw [hre]; rfl)) (by simp)
     have t1 := hg.cell (q4 1 x (by rw [hre]; rfl)) (by simp)
     have hb : (f * x == m) = true := by simpa using hc
     have HG9 := hide hg
     clear hc hs dy dz hre m1 m2 hVu qu eg q4 hr hrm hr2 hg q1 q2 q3 x1 x2
     go_wp2_with (first | (go_at_call 23; refine (KY.get HG9.out).mono ?_; rintro e w4 ⟨rfl, hg4⟩; have s2' := hg4.cell s2 (by simp); have t0' := hg4.cell t0 (by simp); have s3' := Nat.lt_of_lt_of_le s3 hg4.size; clear KY) | (go_at_call 23; refine (KZ.get (HG9.out.trans hg4)).mono ?_; rintro e w5 ⟨rfl, hg5⟩; have s2'' := hg5.cell s2' (by simp); have t0'' := hg5.cell t0' (by simp); have s3'' := Nat.lt_of_lt_of_le s3' hg5.size; clear KZ))
     go_roundw
     case rel => exact ⟨i + 1, HLI.out, by go_num, (HG9.out.trans hg4).trans hg5⟩
     case measure => exact HME.out
    ·have hs : swSo f rel m x = false := by cases e : swSo f rel m x with | false => rfl | true => exact absurd ((HSO.out x).1 e) hc
     have dy : decide (r ∈ y) = false := by simpa using fun q => by have := m1.1 q; rw [hs] at this; cases this
     have dz : decide (r ∈ z) = true := by simpa using m2.2 hs
     rw [hs] at hre
     rw [dy] at KY
     rw [dz] at KZ
     have t0 := hg.cell (q4 0 0 (by rw [hre]; rfl)) (by simp)
     have t1 := hg.cell (q4 1 x (by rw [hre]; rfl)) (by simp)
     have hb : (f * x == m) = false := by simpa using hc
     have HG9 := hide hg
     clear hc hs dy dz hre m1 m2 hVu qu eg q4 hr hrm hr2 hg q1 q2 q3 x1 x2
     go_wp2_with (first | (go_at_call 23; refine (KY.get HG9.out).mono ?_; rintro e w4 ⟨rfl, hg4⟩; have s2' := hg4.cell s2 (by simp); have t0' := hg4.cell t0 (by simp); have s3' := Nat.lt_of_lt_of_le s3 hg4.size; clear KY) | (go_at_call 23; refine (KZ.get (HG9.out.trans hg4)).mono ?_; rintro e w5 ⟨rfl, hg5⟩; have s2'' := hg5.cell s2' (by simp); have t0'' := hg5.cell t0' (by simp); have s3'' := Nat.lt_of_lt_of_le s3' hg5.size; clear KZ))
     go_roundw
     case rel => exact ⟨i + 1, HLI.out, by go_num, (HG9.out.trans hg4).trans hg5⟩
     case measure => exact HME.out
   ·obtain rfl : i = l.length := by omega
    go_wp2
    go_ret
    exact ⟨rfl, HGR.out.trans hg⟩
 ·have hrb : [33, 61] = RB := by rw [← HRB.out, hr0]; rfl
  have c1 : ((bn RB).toList == [33, 61]) = true := by rw [← hrb, ba_toList, bn_data]; rfl
  clear hrb
  have HSO : Hid (∀ x : Int, swSo f rel m x = true ↔ f * x ≠ m) := fun x => by rw [hr0]; show relP 1 (f * x) m = true ↔ _; simp [relP]
  clear hr0
  go_loopw [26] (fun vi wr => ∃ i : Nat, i ≤ l.length ∧ vi = .int .i64 i ∧ w3.grownBy wr none) (fun vi _ => l.length - (intOf vi).toNat)
  case atStart => exact ⟨0, Nat.zero_le _, rfl, grown_refl _ _⟩
  case round =>
   obtain ⟨i, hi9, rfl, hg⟩ := hrel
   by_cases hlt : i < l.length
   ·obtain ⟨r, hr⟩ : ∃ r, l[i]? = some r := ⟨l[i], List.getElem?_eq_getElem hlt⟩
    have hrm := List.mem_of_getElem? hr
    obtain ⟨x, x1, x2, hre, m1, m2⟩ := HROW.out r hrm
    have hr2 := HTWO.out r (.inl hrm)
    obtain ⟨g, gv, cv, rfl, q1, q2, q3, q4⟩ := HL1.out.ll.row hr (fun e => by rw [e] at hr2; simp at hr2)
    obtain ⟨g', u, eg, _, qu, hVu⟩ := HL1.out.ll.at_ hr
    have eg' : g = g' := by injection eg with eg; injection eg
    subst eg'
    have eu : u = .slice (some ⟨gv, 0, none⟩) r.length cv := by rw [q2] at qu; exact (Option.some.inj qu).symm
    subst eu
    have KY := Kept.mk (fun {W : World} (hw : w3.grownBy W none) => kp_has (w := W) (HL2.out.ll.grown hw) (hVu.grown hw) (by omega) (fun s hs => by have := HTWO.out s (.inr (.inl hs)); omega) (by omega))
    have KZ := Kept.mk (fun {W : World} (hw : w3.grownBy W none) => kp_has (w := W) (HL3.out.ll.grown hw) (hVu.grown hw) (by omega) (fun s hs => by have := HTWO.out s (.inr (.inr hs)); omega) (by omega))
    rw [hr2] at KY KZ q2
    obtain ⟨mb1, mb2⟩ := mul_bd (a := f) (b := x) (by omega) (by omega) (by omega) (by omega)
    have s2 := hg.cell q2 (by simp)
    have s3 : g < wr.heap.size := Nat.lt_of_lt_of_le q1 hg.size
    have s4 : gv < wr.heap.size := Nat.lt_of_lt_of_le q3 hg.size
    have hlt2 : (i : Int) < l.length := by omega
    have h0i : (0 : Int) ≤ i := by omega
    have HLI : Hid (i + 1 ≤ l.length) := hlt
    have HME : Hid (l.length - (i + 1) < l.length - i) := by rw [Hid]; omega
    by_cases hc : f * x ≠ m
    ·have hs := (HSO.out x).2 hc
     have dy : decide (r ∈ y) = true := by simpa using m1.2 hs
     have dz : decide (r ∈ z) = false := by simpa using fun q => by have := m2.1 q; rw [hs] at this; cases this
     rw [hs] at hre
     rw [dy] at KY
     rw [dz] at KZ
     have t0 := hg.cell (q4 0 1 (by rw [hre]; rfl)) (by simp)
     have t1 := hg.cell (q4 1 x (by rw [hre]; rfl)) (by simp)
     have hb : (f * x == m) = false := by simpa using hc
     have HG9 := hide hg
     clear hc hs dy dz hre m1 m2 hVu qu eg q4 hr hrm hr2 hg q1 q2 q3 x1 x2
     go_wp2_with (first | (go_at_call 23; refine (KY.get HG9.out).mono ?_; rintro e w4 ⟨rfl, hg4⟩; have s2' := hg4.cell s2 (by simp); have t0' := hg4.cell t0 (by simp); have s3' := Nat.lt_of_lt_of_le s3 hg4.size; clear KY) | (go_at_call 23; refine (KZ.get (HG9.out.trans hg4)).mono ?_; rintro e w5 ⟨rfl, hg5⟩; have s2'' := hg5.cell s2' (by simp); have t0'' := hg5.cell t0' (by simp); have s3'' := Nat.lt_of_lt_of_le s3' hg5.size; clear KZ))
     go_roundw
     case rel => exact ⟨i + 1, HLI.out, by go_num, (HG9.out.trans hg4).trans hg5⟩
     case measure => exact HME.out
    ·have hs : swSo f rel m x = false := by cases e : swSo f rel m x with | false => rfl | true => exact absurd ((HSO.out x).1 e) hc
     have dy : decide (r ∈ y) = false := by simpa using fun q => by have := m1.1 q; rw [hs] at this; cases this
     have dz : decide (r ∈ z) = true := by simpa using m2.2 hs
     rw [hs] at hre
     rw [dy] at KY
     rw [dz] at KZ
     have t0 := hg.cell (q4 0 0 (by rw [hre]; rfl)) (by simp)
     have t1 := hg.cell (q4 1 x (by rw [hre]; rfl)) (by simp)
     have hb : (f * x == m) = true := by simpa using hc
     have HG9 := hide hg
     clear hc hs dy dz hre m1 m2 hVu qu eg q4 hr hrm hr2 hg q1 q2 q3 x1 x2
     go_wp2_with (first | (go_at_call 23; refine (KY.get HG9.out).mono ?_; rintro e w4 ⟨rfl, hg4⟩; have s2' := hg4.cell s2 (by simp); have t0' := hg4.cell t0 (by simp); have s3' := Nat.lt_of_lt_of_le s3 hg4.size; clear KY) | (go_at_call 23; refine (KZ.get (HG9.out.trans hg4)).mono ?_; rintro e w5 ⟨rfl, hg5⟩; have s2'' := hg5.cell s2' (by simp); have t0'' := hg5.cell t0' (by simp); have s3'' := Nat.lt_of_lt_of_le s3' hg5.size; clear KZ))
     go_roundw
     case rel => exact ⟨i + 1, HLI.out, by go_num, (HG9.out.trans hg4).trans hg5⟩
     case measure => exact HME.out
   ·obtain rfl : i = l.length := by omega
    go_wp2
    go_ret
    exact ⟨rfl, HGR.out.trans hg⟩
 ·have hrb : [60, 61] = RB := by rw [← HRB.out, hr0]; rfl
  have c1 : ((bn RB).toList == [33, 61]) = false := by rw [← hrb, ba_toList, bn_data]; rfl
  have c2 : ((bn RB).toList == [60, 61]) = true := by rw [← hrb, ba_toList, bn_data]; rfl
  clear hrb
  have HSO : Hid (∀ x : Int, swSo f rel m x = true ↔ f * x ≤ m) := fun x => by rw [hr0]; show relP 2 (f * x) m = true ↔ _; simp [relP]
  clear hr0
  go_loopw [26] (fun vi wr => ∃ i : Nat, i ≤ l.length ∧ vi = .int .i64 i ∧ w3.grownBy wr none) (fun vi _ => l.length - (intOf vi).toNat)
  case atStart => exact ⟨0, Nat.zero_le _, rfl, grown_refl _ _⟩
  case round =>
   obtain ⟨i, hi9, rfl, hg⟩ := hrel
   by_cases hlt : i < l.length
   ·obtain ⟨r, hr⟩ : ∃ r, l[i]? = some r := ⟨l[i], List.getElem?_eq_getElem hlt⟩
    have hrm := List.mem_of_getElem? hr
    obtain ⟨x, x1, x2, hre, m1, m2⟩ := HROW.out r hrm
    have hr2 := HTWO.out r (.inl hrm)
    obtain ⟨g, gv, cv, rfl, q1, q2, q3, q4⟩ := HL1.out.ll.row hr (fun e => by rw [e] at hr2; simp at hr2)
    obtain ⟨g', u, eg, _, qu, hVu⟩ := HL1.out.ll.at_ hr
    have eg' : g = g' := by injection eg with eg; injection eg
    subst eg'
    have eu : u = .slice (some ⟨gv, 0, none⟩) r.length cv := by rw [q2] at qu; exact (Option.some.inj qu).symm
    subst eu
    have KY := Kept.mk (fun {W : World} (hw : w3.grownBy W none) => kp_has (w := W) (HL2.out.ll.grown hw) (hVu.grown hw) (by omega) (fun s hs => by have := HTWO.out s (.inr (.inl hs)); omega) (by omega))
    have KZ := Kept.mk (fun {W : World} (hw : w3.grownBy W none) => kp_has (w := W) (HL3.out.ll.grown hw) (hVu.grown hw) (by omega) (fun s hs => by have := HTWO.out s (.inr (.inr hs)); omega) (by omega))
    rw [hr2] at KY KZ q2
    obtain ⟨mb1, mb2⟩ := mul_bd (a := f) (b := x) (by omega) (by omega) (by omega) (by omega)
    have s2 := hg.cell q2 (by simp)
    have s3 : g < wr.heap.size := Nat.lt_of_lt_of_le q1 hg.size
    have s4 : gv < wr.heap.size := Nat.lt_of_lt_of_le q3 hg.size
    have hlt2 : (i : Int) < l.length := by omega
    have h0i : (0 : Int) ≤ i := by omega
    have HLI : Hid (i + 1 ≤ l.length) := hlt
    have HME : Hid (l.length - (i + 1) < l.length - i) := by rw [Hid]; omega
    by_cases hc : f * x ≤ m
    ·have hs := (HSO.out x).2 hc
     have dy : decide (r ∈ y) = true := by simpa using m1.2 hs
     have dz : decide (r ∈ z) = false := by simpa using fun q => by have := m2.1 q; rw [hs] at this; cases this
     rw [hs] at hre
     rw [dy] at KY
     rw [dz] at KZ
     have t0 := hg.cell (q4 0 1 (by rw [hre]; rfl)) (by simp)
     have t1 := hg.cell (q4 1 x (by rw [hre]; rfl)) (by simp)
     have hb : f * x ≤ m := hc
     have HG9 := hide hg
     clear hc hs dy dz hre m1 m2 hVu qu eg q4 hr hrm hr2 hg q1 q2 q3 x1 x2
     go_wp2_with (first | (go_at_call 23; refine (KY.get HG9.out).mono ?_; rintro e w4 ⟨rfl, hg4⟩; have s2' := hg4.cell s2 (by simp); have t0' := hg4.cell t0 (by simp); have s3' := Nat.lt_of_lt_of_le s3 hg4.size; clear KY) | (go_at_call 23; refine (KZ.get (HG9.out.trans hg4)).mono ?_; rintro e w5 ⟨rfl, hg5⟩; have s2'' := hg5.cell s2' (by simp); have t0'' := hg5.cell t0' (by simp); have s3'' := Nat.lt_of_lt_of_le s3' hg5.size; clear KZ))
     go_roundw
     case rel => exact ⟨i + 1, HLI.out, by go_num, (HG9.out.trans hg4).trans hg5⟩
     case measure => exact HME.out
    ·have hs : swSo f rel m x = false := by cases e : swSo f rel m x with | false => rfl | true => exact absurd ((HSO.out x).1 e) hc
     have dy : decide (r ∈ y) = false := by simpa using fun q => by have := m1.1 q; rw [hs] at this; cases this
     have dz : decide (r ∈ z) = true := by simpa using m2.2 hs
     rw [hs] at hre
     rw [dy] at KY
     rw [dz] at KZ
     have t0 := hg.cell (q4 0 0 (by rw [hre]; rfl)) (by simp)
     have t1 := hg.cell (q4 1 x (by rw [hre]; rfl)) (by simp)
     have hb : m < f * x := by omega
     have HG9 := hide hg
     clear hc hs dy dz hre m1 m2 hVu qu eg q4 hr hrm hr2 hg q1 q2 q3 x1 x2
     go_wp2_with (first | (go_at_call 23; refine (KY.get HG9.out).mono ?_; rintro e w4 ⟨rfl, hg4⟩; have s2' := hg4.cell s2 (by simp); have t0' := hg4.cell t0 (by simp); have s3' := Nat.lt_of_lt_of_le s3 hg4.size; clear KY) | (go_at_call 23; refine (KZ.get (HG9.out.trans hg4)).mono ?_; rintro e w5 ⟨rfl, hg5⟩; have s2'' := hg5.cell s2' (by simp); have t0'' := hg5.cell t0' (by simp); have s3'' := Nat.lt_of_lt_of_le s3' hg5.size; clear KZ))
     go_roundw
     case rel => exact ⟨i + 1, HLI.out, by go_num, (HG9.out.trans hg4).trans hg5⟩
     case measure => exact HME.out
   ·obtain rfl : i = l.length := by omega
    go_wp2
    go_ret
    exact ⟨rfl, HGR.out.trans hg⟩
end
end Go.Proofs.YthpcbbnabnlanaaGreatDoor
