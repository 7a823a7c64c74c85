import Derived.Test.YthpcbbnabnlanaaGreatDoorM17
import Derived.Test.YthpcbbnabnlanaaGreatDoorM27
import Derived.Laws.OwnMore
namespace Go.Proofs.YthpcbbnabnlanaaGreatDoor
set_option linter.unusedVariables false
set_option linter.unusedSimpArgs false
section
set_option maxHeartbeats 2000000
set_option maxRecDepth 100000
open Go.RowKit
variable {w w' : World}
theorem md_Solve {b : Nat} {V : List QVar} {C : List QCon} {t : List UInt8} (h : MdAt w b V C t) (hM : MdOk V C) (hdb : DbTab w) (order : Int) (weak : Bool) (budget : Int) (hbu : budget ≤ 9223372036854775807) : Calls Tryz.prog 29 #[.pointer (some ⟨b, 0, none⟩), .int .i64 order, .bool weak, .int .i64 budget] w fun e w' => ∃ vS, e = .returned (.agg #[vS, .int .i64 (solveS (mkK V C order weak budget)).ending, .int .i64 (solveS (mkK V C order weak budget)).nodes]) ∧ LLT w' vS (solveS (mkK V C order weak budget)).sols ∧ w.grownBy w' none := by
 obtain ⟨bc, B, vV, vC, cs, h1, h2, h3⟩ := h.set
 obtain ⟨W0, hW0⟩ : ∃ W0, W0 = w.alloc (.cells #[.slice none 0 0, .int .i64 0, .int .i64 0] 50) := ⟨_, rfl⟩
 have hg0 : w.grownBy W0 none := by rw [hW0]; exact World.grownBy_alloc _ _ _
 have KS := Kept.mk (sv_Solve (w := W0) (K := mkK V C order weak budget) (h2.grown hg0) h3 (db_grown hdb hg0) (mkK_ok hM.vars hM.vlen hM.cons hM.clen) rfl rfl hbu)
 have hbx0 : W0.heap[w.heap.size]? = some (.cells #[.slice none 0 0, .int .i64 0, .int .i64 0] 50 (0, 0)) := by rw [hW0]; exact heap_alloc_new _ _
 have HBX : Hid (∀ W', W0.grownBy W' none → W'.heap[w.heap.size]? = some (.cells #[.slice none 0 0, .int .i64 0, .int .i64 0] 50 (0, 0))) := fun W' hg => (hg.block _ (some_lt hbx0) (by simp)).trans hbx0
 have hlt := h.lt
 generalize hR : solveS (mkK V C order weak budget) = R at *
 have KS' := Kept.mk (show Calls Tryz.prog 37 #[.pointer (some ⟨bc, 1, none⟩), .int .i64 order, .bool weak, .int .i64 budget] W0 fun e w' => ∃ vS, e = .returned (.agg #[vS, .int .i64 R.ending, .int .i64 R.nodes]) ∧ LLT w' vS R.sols ∧ W0.grownBy w' none from KS.get)
 clear KS h h2 h3 hbx0 hdb hM hR
 go_enter Tryz.func29, Tryz.ntmps29
 go_wp2_with (go_at_call 37; rw [← hW0]; refine KS'.get.mono ?_; rintro e w3 ⟨vS, rfl, hL, hg3⟩; obtain ⟨sa, sc, hvS⟩ := hL.ll.is; subst hvS; have bb := HBX.out w3 hg3; have b0 := cell_of bb 0 _ rfl; have b1 := cell_of bb 1 _ rfl; have b2 := cell_of bb 2 _ rfl; have z0 := frozen_of bb 0; have z1 := frozen_of bb 1; have z2 := frozen_of bb 2; have l4 := some_lt bb)
 refine bodyPost_ret (results_cell_row rfl _ _ w.heap.size 50 #[.slice sa R.sols.length sc, .int .i64 R.ending, .int .i64 R.nodes] (0, 0) _ rfl (set3_at bb) Tryz.underlying50 rfl (by kernel_rfl)) rfl ?_
 exact ⟨_, rfl, hL.turn (keep3 bb), set3_grown (hg0.trans hg3) (Nat.le_refl _)⟩
def rngI (lo hi : Int) : List Int := (List.range (hi - lo + 1).toNat).map fun (k : Nat) => lo + (k : Int)
theorem rngI_mem (lo hi x : Int) : x ∈ rngI lo hi ↔ lo ≤ x ∧ x ≤ hi := by
 unfold rngI
 rw [List.mem_map]
 constructor
 ·rintro ⟨k, hk, rfl⟩
  rw [List.mem_range] at hk
  omega
 ·rintro ⟨h1, h2⟩
  exact ⟨(x - lo).toNat, by rw [List.mem_range]; omega, by omega⟩
theorem rngI_nodup (lo hi : Int) : (rngI lo hi).Nodup := by
 unfold rngI List.Nodup
 rw [List.pairwise_map]
 exact List.nodup_range.imp (fun h e => h (by omega))
def boxV : List (Int × Int) → List (List Int)
 | [] => [[]]
 | v :: vs => (rngI v.1 v.2).flatMap fun x => (boxV vs).map (x :: ·)
def bdV (vars : List QVar) : List (Int × Int) := vars.map fun v => (v.low, v.high)
theorem box_mem : ∀ (vars : List QVar) (x : List Int), x ∈ boxV (bdV vars) ↔ asgF vars x = true
 | [], x => by
  cases x with
  | nil => simp [boxV, bdV, asgF]
  | cons a x => simp [boxV, bdV, asgF]
 | v :: vs, x => by
  show x ∈ (rngI v.low v.high).flatMap (fun y => (boxV (bdV vs)).map (y :: ·)) ↔ _
  rw [List.mem_flatMap]
  constructor
  ·rintro ⟨y, hy, hx⟩
   obtain ⟨r, hr, rfl⟩ := List.mem_map.1 hx
   have h1 := (rngI_mem _ _ _).1 hy
   have h2 := (box_mem vs r).1 hr
   simp [asgF, inP, h1, h2]
  ·intro h
   cases x with
   | nil => simp [asgF] at h
   | cons y r =>
    simp only [asgF, Bool.and_eq_true, inP, decide_eq_true_eq] at h
    exact ⟨y, (rngI_mem _ _ _).2 h.1, List.mem_map.2 ⟨r, (box_mem vs r).2 h.2, rfl⟩⟩
theorem box_nodup : ∀ vs : List (Int × Int), (boxV vs).Nodup
 | [] => by simp [boxV]
 | v :: vs => by
  have ih := box_nodup vs
  unfold boxV List.Nodup
  rw [List.pairwise_flatMap]
  refine ⟨fun x _ => ?_, (rngI_nodup v.1 v.2).imp (fun {a b} hab r hr s hs e => ?_)⟩
  ·rw [List.pairwise_map]
   exact ih.imp (fun h e => h (by injection e))
  ·obtain ⟨r', _, rfl⟩ := List.mem_map.1 hr
   obtain ⟨s', _, rfl⟩ := List.mem_map.1 hs
   injection e with e1 e2
   exact hab e1
theorem cnt_rng {lo hi : Int} (h1 : -1000 ≤ lo) (h2 : hi ≤ 1000) : cntD (rngD lo hi) = (rngI lo hi).length := by
 rw [cntD_vals]
 refine List.Perm.length_eq ((List.perm_ext_iff_of_nodup ?_ (rngI_nodup lo hi)).2 (fun x => ?_))
 ·rw [valsD_eq]
  unfold List.Nodup
  rw [List.pairwise_map]
  exact (List.nodup_range.filter _).imp (fun h e => h (by omega))
 ·rw [valsD_mem, rngI_mem]
  constructor
  ·rintro ⟨p, hp, rfl, _⟩
   rw [rngD_bit _ _ h1] at hp
   simp at hp
   omega
  ·rintro ⟨q1, q2⟩
   refine ⟨(x + 1000).toNat, ?_, by omega, by omega⟩
   rw [rngD_bit _ _ h1]
   simp
   omega
theorem box_len : ∀ vs : List (Int × Int), (boxV vs).length = vs.foldr (fun v p => (rngI v.1 v.2).length * p) 1
 | [] => rfl
 | v :: vs => by
  have ih := box_len vs
  have key : ∀ (l : List Int), (l.flatMap fun x => (boxV vs).map (x :: ·)).length = l.length * (boxV vs).length := fun l => by
   induction l with
   | nil => simp
   | cons x l ih => rw [List.flatMap_cons, List.length_append, ih, List.length_map, List.length_cons, Nat.succ_mul, Nat.add_comm]
  show ((rngI v.1 v.2).flatMap fun x => (boxV vs).map (x :: ·)).length = (rngI v.1 v.2).length * vs.foldr (fun v p => (rngI v.1 v.2).length * p) 1
  rw [key, ih]
theorem prod_box : ∀ {V : List QVar}, (∀ v ∈ V, -1000 ≤ v.low ∧ v.low ≤ v.high ∧ v.high ≤ 1000) → prodV V = (boxV (bdV V)).length
 | [], _ => rfl
 | v :: V, h => by
  have ih := prod_box (V := V) (fun u hu => h u (by simp [hu]))
  rw [box_len] at ih ⊢
  have hv := h v (by simp)
  show cntD (rngD v.low v.high) * prodV V = (rngI v.low v.high).length * (bdV V).foldr (fun v p => (rngI v.1 v.2).length * p) 1
  rw [ih, cnt_rng hv.1 hv.2.2]
structure AllOf (V : List QVar) (C : List QCon) (order : Int) (r : SS) : Prop where
 ending : r.ending = 0
 perm : r.sols.Perm ((boxV (bdV V)).filter (suitsP V C))
 lex : order ≠ 1 → r.sols.Pairwise LexLt
theorem solve_all {V : List QVar} {C : List QCon} (hM : MdOk V C) (order : Int) (weak : Bool) (budget : Int) (hb : (V.length * (boxV (bdV V)).length + 1 : Int) ≤ budget) (hbox : (boxV (bdV V)).length < 100000) : AllOf V C order (solveS (mkK V C order weak budget)) ∧ 0 ≤ (solveS (mkK V C order weak budget)).nodes ∧ (solveS (mkK V C order weak budget)).nodes ≤ budget := by
 have s := solve_ok (mkK_ok (order := order) (weak := weak) (budget := budget) hM.vars hM.vlen hM.cons hM.clen)
 generalize solveS (mkK V C order weak budget) = r at *
 have hp : prodV (mkK V C order weak budget).vars = (boxV (bdV V)).length := prod_box hM.vars
 have hb0 : 0 ≤ budget := by
  have : (0 : Int) ≤ (V.length : Int) * ((boxV (bdV V)).length : Int) := Int.mul_nonneg (Int.natCast_nonneg _) (Int.natCast_nonneg _)
  omega
 have hmem : ∀ x ∈ r.sols, x ∈ boxV (bdV V) ∧ suitsP V C x = true := fun x hx => by
  have q : suitsP V C x = true := s.suits x hx
  exact ⟨(box_mem V x).2 (by unfold suitsP at q; simp at q; exact q.1), q⟩
 have hle : r.sols.length ≤ (boxV (bdV V)).length := by
  have q : r.sols.Perm ((boxV (bdV V)).filter (fun x => decide (x ∈ r.sols))) := (List.perm_ext_iff_of_nodup s.nd ((box_nodup _).filter _)).2 (fun x => by
   rw [List.mem_filter]
   exact ⟨fun h => ⟨(hmem x h).1, by simpa using h⟩, fun h => by simpa using h.2⟩)
  rw [q.length_eq]
  exact List.length_filter_le _ _
 refine ⟨?_, s.lo, s.hi hb0⟩
 rcases s.ends with ⟨e1, e2⟩ | ⟨e1, e2, e3⟩ | ⟨e1, e2, _⟩
 ·refine ⟨e1, (List.perm_ext_iff_of_nodup s.nd ((box_nodup _).filter _)).2 (fun x => ?_), s.lex⟩
  rw [List.mem_filter]
  exact ⟨fun h => hmem x h, fun h => e2 x h.2⟩
 ·rw [hp] at e3
  have e3 : r.nodes < (V.length : Int) * ((boxV (bdV V)).length : Int) + 1 := e3
  have e2 : budget ≤ r.nodes := e2
  omega
 ·omega
end
section
set_option maxHeartbeats 4000000
set_option maxRecDepth 100000
open Go.RowKit
variable {w w' : World}
def A45 : List (AS × List Pc) := [(.var [120] 4 5, [])]
theorem itoa_dig {k : Nat} (h : k < 10) : Lib.itoa (k : Int) = [UInt8.ofNat (48 + k)] := by
 unfold Lib.itoa
 rw [if_neg (by omega)]
 exact Lib.decDigits_one h
theorem A45_src : bn (srcA A45) = ⟨#[118, 97, 114, 32, 120, 58, 32, 52, 46, 46, 53, 59]⟩ := by
 have e4 : Lib.itoa 4 = [52] := itoa_dig (k := 4) (by decide)
 have e5 : Lib.itoa 5 = [53] := itoa_dig (k := 5) (by decide)
 show bn ([118, 97, 114] ++ ([32] ++ ([120] ++ ([58] ++ ([32] ++ (Lib.itoa 4 ++ ([46, 46] ++ (Lib.itoa 5 ++ ([59] ++ []))))))))) = _
 rw [e4, e5]
 rfl
theorem A45_ok : textOk A45 := fun p hp => by
 have : p = (.var [120] 4 5, []) := by simpa [A45] using hp
 subst this
 exact ⟨⟨⟨rfl, rfl⟩, ⟨by decide, by decide⟩, ⟨by decide, by decide⟩⟩, rfl⟩
theorem A45_fine : allFine E0 A45 := ⟨⟨⟨(fun p hp => by cases hp), (fun p hp => by cases hp)⟩, by decide, by decide, by decide, by decide⟩, trivial⟩
theorem lex_two {l : List (List Int)} {a b : List Int} (h : l.Perm [a, b]) (hp : l.Pairwise LexLt) (hn : ¬ LexLt b a) : l = [a, b] := by
 have hl := h.length_eq
 match l, hl with
 | [x, y], _ =>
  have hx : x ∈ [a, b] := h.mem_iff.1 (by simp)
  have hy : y ∈ [a, b] := h.mem_iff.1 (by simp)
  have hlt : LexLt x y := by simpa using hp
  have ha : a ∈ [x, y] := h.mem_iff.2 (by simp)
  have hb : b ∈ [x, y] := h.mem_iff.2 (by simp)
  simp only [List.mem_cons, List.not_mem_nil, or_false] at hx hy ha hb
  rcases hx with rfl | rfl
  ·rcases hy with rfl | rfl
   ·rcases hb with rfl | rfl <;> rfl
   ·rfl
  ·rcases hy with rfl | rfl
   ·exact absurd hlt hn
   ·rcases ha with rfl | rfl <;> rfl
theorem found_two {weak : Bool} : (solveS (mkK [⟨bn [120], 4, 5⟩] [] 0 weak 10)).sols = [[4], [5]] := by
 have hM : MdOk [⟨bn [120], 4, 5⟩] [] := by
  have q := src_ok A45_ok A45_fine (by have e := congrArg ByteArray.size A45_src; rw [bn_size] at e; rw [e]; decide)
  exact q
 obtain ⟨h1, _, _⟩ := solve_all hM 0 weak 10 (by decide) (by decide)
 have e : (boxV (bdV [⟨bn [120], 4, 5⟩])).filter (suitsP [⟨bn [120], 4, 5⟩] []) = [[4], [5]] := by decide
 have hp := h1.perm
 rw [e] at hp
 refine lex_two hp (h1.lex (by decide)) ?_
 rintro ⟨k, h1, h2⟩
 match k with
 | 0 => exact absurd h2 (by decide)
 | k + 1 => simp at h2
theorem ValsIn.cells {u : Value} {r : List Int} (h : ValsIn w u r) (hne : r ≠ []) : ∃ gv cv, u = .slice (some ⟨gv, 0, none⟩) r.length cv ∧ gv < w.heap.size ∧ ∀ (j : Nat) (x : Int), r[j]? = some x → w.cell? ⟨gv, j, none⟩ = some (.int .i64 x) := by
 rcases h with ⟨e, _⟩ | ⟨gv, cv, hR⟩
 ·exact absurd e hne
 ·refine ⟨gv, cv, hR.is, hR.lt, fun j x hx => ?_⟩
  have q := hR.at (sz := 1) (fun _ => rfl) hx 0 _ rfl
  rw [Nat.mul_one] at q
  exact q
theorem LL.row {a : Option Addr} {n c : Nat} {rows : List (List Int)} (h : LL w (.slice a n c) rows) {i : Nat} {r : List Int} (hr : rows[i]? = some r) (hne : r ≠ []) : ∃ g gv cv, a = some ⟨g, 0, none⟩ ∧ g < w.heap.size ∧ w.cell? ⟨g, i, none⟩ = some (.slice (some ⟨gv, 0, none⟩) r.length cv) ∧ gv < w.heap.size ∧ ∀ (j : Nat) (x : Int), r[j]? = some x → w.cell? ⟨gv, j, none⟩ = some (.int .i64 x) := by
 obtain ⟨g, u, e, h1, h2, h3⟩ := h.at_ hr
 obtain ⟨gv, cv, rfl, h4, h5⟩ := h3.cells hne
 exact ⟨g, gv, cv, e, h1, h2, h4, h5⟩
theorem kp_found {b : Nat} {V : List QVar} {C : List QCon} {t : List UInt8} (h : MdAt w b V C t) (hM : MdOk V C) (ht : PowTab w) (hdb : DbTab w) (order : Int) (weak : Bool) (ho1 : -9223372036854775808 ≤ order) (ho2 : order ≤ 9223372036854775807) (hb : (V.length * (boxV (bdV V)).length + 1 : Int) ≤ 1000000) (hbox : (boxV (bdV V)).length < 100000) : Calls Tryz.prog 22 #[.pointer (some ⟨b, 0, none⟩), .int .i64 order, .bool weak] w fun e w' => ∃ vS, e = .returned (.tuple #[vS, .bool true]) ∧ LLT w' vS (solveS (mkK V C (pickI order 2) weak 1000000)).sols ∧ w.grownBy w' none := by
 have hlen : (srcA A45).length ≤ 2000 := by have e := congrArg ByteArray.size A45_src; rw [bn_size] at e; rw [e]; decide
 have KM := Kept.mk (kp_model A45 A45_ok A45_fine hlen w ht)
 rw [A45_src] at KM
 have hM0 := src_ok A45_ok A45_fine hlen
 have KQ := Kept.mk (fun {W : World} {b0 : Nat} {t0 : List UInt8} (hg : w.grownBy W none) (hm : MdAt W b0 ((envOf E0 A45).V.map qv) (envOf E0 A45).C t0) => md_Solve hm hM0 (db_grown hdb hg) 0 weak 10 (by decide))
 have KR := Kept.mk (fun {W : World} (hg : w.grownBy W none) => md_Solve (h.grown hg) hM (db_grown hdb hg) (pickI order 2) weak 1000000 (by decide))
 have KP := Kept.mk (fun W => kp_pick order 2 W ho1 ho2 (by decide) (by decide))
 have hf2 := found_two (weak := weak)
 have e2 : (envOf E0 A45).V.map qv = [⟨bn [120], 4, 5⟩] := rfl
 have e3 : (envOf E0 A45).C = [] := rfl
 rw [e2, e3] at KQ
 rw [e2, e3] at KM
 obtain ⟨hA, hn0, hn1⟩ := solve_all hM (pickI order 2) weak 1000000 hb hbox
 have hend := hA.ending
 rw [hend] at KR
 generalize solveS (mkK V C (pickI order 2) weak 1000000) = R at *
 generalize hQ : solveS (mkK [⟨bn [120], 4, 5⟩] [] 0 weak 10) = Q at *
 have hrow : Q.sols.length = 2 := by rw [hf2]; rfl
 have HROW : Hid (Q.sols[0]? = some [4]) := by rw [Hid, hf2]; rfl
 generalize pickI order 2 = PO at *
 clear h hM ht hdb hA hend hf2 hM0 hlen hQ e2 e3
 go_enter Tryz.func22, Tryz.ntmps22
 go_wp2_with (first | (go_at_call 21; refine KM.get.mono ?_; rintro e w1 ⟨b0, rfl, hb0, hm1, hg1⟩) | (go_at_call 29; refine (KQ.get hg1 hm1).mono ?_; rintro e w2 ⟨vQ, rfl, hL2, hg2⟩; obtain ⟨qa, qc, hvQ⟩ := hL2.ll.is; subst hvQ; obtain ⟨g, gv, cv, rfl, q1, q2, q3, q4⟩ := hL2.ll.row HROW.out (by simp); have q5 := q4 0 4 rfl; clear q4 hL2))
 have hgA := ((hg1.trans hg2).trans (World.grownBy_alloc w2 (.cells #[.slice (some ⟨g, 0, none⟩) 2 qc, .int .i64 Q.ending, .int .i64 Q.nodes] 50) none))
 generalize w2.alloc (.cells #[.slice (some ⟨g, 0, none⟩) 2 qc, .int .i64 Q.ending, .int .i64 Q.nodes] 50) = W5 at *
 clear q1 q2 q3 q5 KQ KM hg1 hg2 hm1
 go_wp2_with (first | (go_at_call 16; refine (KP.get _).mono ?_; rintro e w6 ⟨rfl, rfl⟩) | (go_at_call 29; refine (KR.get hgA).mono ?_; rintro e w4 ⟨vR, rfl, hL4, hg4⟩; obtain ⟨ra, rc, hvR⟩ := hL4.ll.is; subst hvR))
 go_quiet (fail)
 go_wp2
 go_ret2
 exact ⟨_, rfl, (hL4.grown (World.grownBy_alloc _ _ _)).grown (grown_drewN' _ _ _), ((hgA.trans hg4).trans (World.grownBy_alloc _ _ _)).trans (grown_drewN' _ _ _)⟩
end
section
open Go.RowKit
theorem textPc_app : ∀ A B : List (AS × List Pc), textPc (A ++ B) = textPc A ++ textPc B
 | [], B => rfl
 | (a, b) :: r, B => by
  show a.pcs ++ (.sg [59] :: (b ++ textPc (r ++ B))) = (a.pcs ++ (.sg [59] :: (b ++ textPc r))) ++ textPc B
  rw [textPc_app r B]
  simp [List.append_assoc]
theorem srcA_app (A B : List (AS × List Pc)) : srcA (A ++ B) = srcA A ++ srcA B := by unfold srcA; rw [textPc_app, bytesP_app]
theorem srcA_cons (a : AS) (b : List Pc) (B : List (AS × List Pc)) : srcA ((a, b) :: B) = srcA [(a, b)] ++ srcA B := srcA_app [(a, b)] B
theorem srcA_one (a : AS) (b : List Pc) : srcA [(a, b)] = bytesP a.pcs ++ (59 :: bytesP b) := by
 show bytesP (a.pcs ++ (.sg [59] :: (b ++ []))) = _
 rw [List.append_nil, bytesP_app, bytesP_cons]
 rfl
end
section
open Go.RowKit
variable {w w' : World}
def ap (a b : List UInt8) : List UInt8 := a ++ b
theorem ap_len (a b : List UInt8) : (ap a b).length = a.length + b.length := List.length_append
theorem bn_ap (a b : List UInt8) : bn a ++ bn b = bn (ap a b) := bn_app a b
theorem bn_mk_ap (a : List UInt8) (xs : Array UInt8) : bn a ++ ⟨xs⟩ = bn (ap a xs.toList) := bn_app a xs.toList
theorem mk_bn_ap (a : List UInt8) (xs : Array UInt8) : (⟨xs⟩ : ByteArray) ++ bn a = bn (ap xs.toList a) := bn_app xs.toList a
attribute [local go_sem] bn_ap bn_mk_ap mk_bn_ap bn_size mk_size ap_len List.length_cons List.length_nil
end
section
open Go.RowKit
variable {w w' wr : World}
theorem add_at (g j : Nat) : (⟨g, 0, none⟩ : Addr).add j = ⟨g, j, none⟩ := by unfold Addr.add; split <;> simp_all
theorem own_gr {e s n : Nat} {v : Value} {xs : List Value} (hg : w.grownBy wr none) (ho : wr.ownsRow w.heap.size e s v n xs) (h : wr.grownBy w' v.ownBlock) : w.grownBy w' none := by
 rcases ho.2 with ⟨rfl, _⟩ | ⟨g, cap, cur, rfl, hB, _⟩
 ·exact hg.trans h
 ·exact grown_new hg hB h
def Src (w : World) (vx : Value) (m : Nat) (news : List Value) : Prop := (vx = .slice none 0 0 ∧ m = 0 ∧ news = []) ∨ ∃ ad c, vx = .slice (some ad) m c ∧ ∀ j u, news[j]? = some u → w.cell? (ad.add j) = some u
theorem wpList_append_src {w : World} {ops : Array Oper} {rest : List Oper} {o : Oper} {a : Act} {Q : Exit → Act → World → Prop} (hgd : o.guard = none) (s x : Operand) (t : TypeId) (ho : o.op = .call { callee := .builtin .append, args := #[s, x], argTypes := #[t, t] })
  (base : Nat) (e : TypeId) (i : TypeInfo) (z : Value) (size bytes : Nat) (ht : Tryz.prog.underlying t = some (.slice e)) (hi : Tryz.prog.info? e = some i) (hz : i.zero = some z)
  (hsize : i.size = size) (hby : i.bytes = bytes) (hzs : z.cells.size = size) (hsz : 0 < size) (v : Value) (n : Nat) (xs : List Value) (hs : a.eval s = v) (hown : w.ownsRow base e size v n xs)
  (vx : Value) (m : Nat) (news : List Value) (hx : a.eval x = vx) (hsrc : Src w vx m news) (hl : news.length = m * size) (h1 : ∀ u ∈ news, u.oneCell' = true)
  (h63 : n + m ≤ maxLen) (hbytes : (n + m) * bytes ≤ 140737488355328) (hbase : base ≤ w.heap.size)
  (h : ∀ v' w', w'.ownsRow base e size v' (n + m) (xs ++ news) → w.grownBy w' v.ownBlock → wpList Tryz.prog ops Q rest (a.put o.dst v') w') :
  wpList Tryz.prog ops Q (o :: rest) a w := by
 refine wpList_plain hgd fun K hK => ?_
 have key : ∃ v' w', (Builtin.append_ #[t, t] o.type #[v, vx]).run Tryz.prog w = .ok v' w' ∧ w'.ownsRow base e size v' (n + m) (xs ++ news) ∧ w.grownBy w' v.ownBlock := by
  rcases hsrc with ⟨rfl, rfl, rfl⟩ | ⟨ad, c, rfl, hn⟩
  ·exact ⟨v, w, run_append_owned_none (P := Tryz.prog) (w := w) base t o.type e i size ht hi v n xs hown, by rw [List.append_nil]; exact hown, grown_refl _ _⟩
  ·obtain ⟨v', w', hr, h2, h3, _⟩ := run_append_own_at (P := Tryz.prog) w base t o.type e i z size bytes ht hi hz hsize hby hzs hsz v n xs hown ad m c news hl hn h1 h63 hbytes hbase
   exact ⟨v', w', hr, h2, h3⟩
 obtain ⟨v', w', hr, h2, h3⟩ := key
 unfold Oper.wp execOp
 simp only [ho, resolve, invoke, builtin, Sem.run_bind, Sem.run_pure, Result.andThen_ok, List.map_toArray, List.map_cons, List.map_nil, hs, hx, hr]
 exact hK _ _ (h v' w' h2 h3)
attribute [local go_sem] bn_ap bn_mk_ap mk_bn_ap bn_size mk_size ap_len List.length_cons List.length_nil
end
section
open Go.RowKit
variable {w w' wr : World}
def RawIn (w : World) (v : Value) (raw : List Int) : Prop := ∃ a c, v = .slice a raw.length c ∧ ∀ j x, raw[j]? = some x → ∃ g off, a = some ⟨g, off, none⟩ ∧ g < w.heap.size ∧ w.cell? ⟨g, off + j, none⟩ = some (.int .i64 x)
theorem RawIn.is {v : Value} {raw : List Int} (h : RawIn w v raw) : ∃ a c, v = .slice a raw.length c := by
 obtain ⟨a, c, e, _⟩ := h
 exact ⟨a, c, e⟩
theorem RawIn.at_ {a : Option Addr} {n c : Nat} {raw : List Int} (h : RawIn w (.slice a n c) raw) {j : Nat} {x : Int} (hx : raw[j]? = some x) : ∃ g off, a = some ⟨g, off, none⟩ ∧ g < w.heap.size ∧ w.cell? ⟨g, off + j, none⟩ = some (.int .i64 x) := by
 obtain ⟨a', c', e, k⟩ := h
 injection e with e1 _ _
 subst e1
 exact k j x hx
attribute [local go_sem] bn_ap bn_mk_ap mk_bn_ap bn_size mk_size ap_len List.length_cons List.length_nil
end
section
open Go.RowKit
def lkA (a : Int) (rs : List Int) (lo hi : Int) : List (AS × List Pc) := [(.list [108] a rs, [.nl]), (.var [107] lo hi, [.nl]), (.var [118] (-8) 8, [.nl]), (.at_ [108] [107] [118], [.nl])]
def jB (l : List Int) : Nat → List UInt8
 | 0 => []
 | k + 1 => jB l k ++ ((if k = 0 then [] else [44, 32]) ++ Lib.itoa (l.getD k 0))
theorem jB_src (a : Int) : ∀ rs : List Int, Lib.itoa a ++ bytesP (serPc (fun m => [Pc.num m]) rs) = jB (a :: rs) (rs.length + 1) := by
 intro rs
 have key : ∀ (p q : List Int), jB (a :: (p ++ q)) (p.length + 1) ++ bytesP (serPc (fun m => [Pc.num m]) q) = jB (a :: (p ++ q)) ((p ++ q).length + 1) := by
  intro p q
  induction q generalizing p with
  | nil => simp [serPc, bytesP]
  | cons x q ih =>
   have e : p ++ x :: q = (p ++ [x]) ++ q := by simp
   have h := ih (p ++ [x])
   rw [e, ← h]
   have e2 : (a :: ((p ++ [x]) ++ q)).getD (p.length + 1) 0 = x := by simp
   have e3 : jB (a :: ((p ++ [x]) ++ q)) ((p ++ [x]).length + 1) = jB (a :: ((p ++ [x]) ++ q)) (p.length + 1) ++ ([44, 32] ++ Lib.itoa x) := by
    rw [List.length_append, List.length_singleton]
    show jB (a :: ((p ++ [x]) ++ q)) (p.length + 1) ++ ((if p.length + 1 = 0 then [] else [44, 32]) ++ Lib.itoa ((a :: ((p ++ [x]) ++ q)).getD (p.length + 1) 0)) = _
    rw [e2, if_neg (by omega)]
   rw [e3]
   simp [serPc, bytesP_cons, Pc.bytes, List.append_assoc]
 have := key [] rs
 simpa [jB] using this
theorem jB_len {l : List Int} (h : ∀ x ∈ l, -1000 ≤ x ∧ x ≤ 1000) : ∀ k : Nat, (jB l k).length ≤ 16 * k
 | 0 => Nat.le_refl _
 | k + 1 => by
  have h1 := jB_len h k
  have h2 : (Lib.itoa (l.getD k 0)).length ≤ 14 := by
   by_cases q : k < l.length
   ·have e : l.getD k 0 = l[k] := by simp [q]
    have := h l[k] (List.getElem_mem q)
    rw [e]; exact itoa_len (by omega) (by omega)
   ·have e : l.getD k 0 = 0 := by simp [Nat.le_of_not_lt q]
    rw [e]; exact itoa_len (by omega) (by omega)
  simp only [jB, List.length_append]
  generalize Lib.itoa (l.getD k 0) = X at *
  split <;> simp <;> omega
def lkB (l : List Int) (lo hi : Int) : List UInt8 := [108, 105, 115, 116, 32, 108, 32, 61, 32, 91] ++ (jB l l.length ++ ([93, 59, 10, 118, 97, 114, 32, 107, 58, 32] ++ (Lib.itoa lo ++ ([46, 46] ++ (Lib.itoa hi ++ [59, 10, 118, 97, 114, 32, 118, 58, 32, 45, 56, 46, 46, 56, 59, 10, 97, 116, 32, 108, 91, 107, 93, 32, 61, 32, 118, 59, 10])))))
theorem lkA_src (a : Int) (rs : List Int) (lo hi : Int) : srcA (lkA a rs lo hi) = lkB (a :: rs) lo hi := by
 have e8 : Lib.itoa 8 = [56] := itoa_dig (k := 8) (by decide)
 have e9 : Lib.itoa (-8) = [45, 56] := by rw [itoa_neg (by decide)]; show 45 :: Lib.decDigits 8 = _; rw [Lib.decDigits_one (by decide)]; rfl
 unfold lkA lkB
 rw [srcA_cons, srcA_one, srcA_cons, srcA_one, srcA_cons, srcA_one, srcA_one]
 have e := jB_src a rs
 rw [List.length_cons, ← e]
 have p1 : (AS.list [108] a rs).pcs = .word [108, 105, 115, 116] :: .sp :: .word [108] :: .sp :: .sg [61] :: .sp :: .sg [91] :: .num a :: (serPc (fun m => [.num m]) rs ++ [.sg [93]]) := rfl
 rw [p1]
 simp only [bytesP_cons, bytesP_app]
 generalize bytesP (serPc (fun m => [.num m]) rs) = X
 simp [AS.pcs, bytesP, Pc.bytes, e8, e9]
theorem lkB_len {l : List Int} {lo hi : Int} (hl : l.length ≤ 20) (h : ∀ x ∈ l, -1000 ≤ x ∧ x ≤ 1000) (h1 : -1000 ≤ lo) (h2 : lo ≤ 1000) (h3 : -1000 ≤ hi) (h4 : hi ≤ 1000) : (lkB l lo hi).length ≤ 500 := by
 have a := jB_len h l.length
 have b := itoa_len (m := lo) (by omega) (by omega)
 have c := itoa_len (m := hi) (by omega) (by omega)
 simp [lkB]; omega
def lkC (l : List Int) : QCon := ⟨2, 0, [], 0, 0, l, 0, 1, [], []⟩
theorem lkA_env (a : Int) (rs : List Int) (lo hi : Int) : envOf E0 (lkA a rs lo hi) = ⟨[([107], lo, hi), ([118], -8, 8)], [([108], a :: rs)], [lkC (a :: rs)]⟩ := rfl
theorem lkA_ok {a : Int} {rs : List Int} {lo hi : Int} (h : ∀ x ∈ a :: rs, -1000 ≤ x ∧ x ≤ 1000) (h1 : -1000 ≤ lo) (h2 : lo ≤ 1000) (h3 : -1000 ≤ hi) (h4 : hi ≤ 1000) : textOk (lkA a rs lo hi) := fun p hp => by
 have : p = (.list [108] a rs, [.nl]) ∨ p = (.var [107] lo hi, [.nl]) ∨ p = (.var [118] (-8) 8, [.nl]) ∨ p = (.at_ [108] [107] [118], [.nl]) := by simpa [lkA] using hp
 rcases this with rfl | rfl | rfl | rfl
 ·exact ⟨⟨⟨rfl, rfl⟩, ⟨by have := h a (by simp); omega, by have := h a (by simp); omega⟩, fun m hm => ⟨by have := h m (by simp [hm]); omega, by have := h m (by simp [hm]); omega⟩⟩, rfl⟩
 ·exact ⟨⟨⟨rfl, rfl⟩, ⟨by omega, by omega⟩, ⟨by omega, by omega⟩⟩, rfl⟩
 ·exact ⟨⟨⟨rfl, rfl⟩, ⟨by omega, by omega⟩, ⟨by omega, by omega⟩⟩, rfl⟩
 ·exact ⟨⟨⟨rfl, rfl⟩, ⟨rfl, rfl⟩, ⟨rfl, rfl⟩⟩, rfl⟩
theorem lkA_fine {a : Int} {rs : List Int} {lo hi : Int} (h : ∀ x ∈ a :: rs, -1000 ≤ x ∧ x ≤ 1000) (hl : (a :: rs).length ≤ 20) (h1 : -1000 ≤ lo) (h2 : lo ≤ hi) (h4 : hi ≤ 1000) : allFine E0 (lkA a rs lo hi) := by
 refine ⟨⟨⟨(fun p hp => by cases hp), (fun p hp => by cases hp)⟩, hl, h⟩, ⟨⟨(fun p hp => by cases hp), fun p hp => ?_⟩, by show 0 < 8; decide, h1, h2, h4⟩, ⟨⟨fun p hp => ?_, fun p hp => ?_⟩, by show 1 < 8; decide, by decide, by decide, by decide⟩, ⟨by show 0 < 16; decide, ?_, ?_, ?_⟩, trivial⟩
 ·obtain rfl : p = ([108], a :: rs) := by simpa [E0, AS.step] using hp
  exact (by decide : ([108] : List UInt8) ≠ [107])
 ·obtain rfl : p = ([107], lo, hi) := by simpa [E0, AS.step] using hp
  exact (by decide : ([107] : List UInt8) ≠ [118])
 ·obtain rfl : p = ([108], a :: rs) := by simpa [E0, AS.step] using hp
  exact (by decide : ([108] : List UInt8) ≠ [118])
 ·exact ⟨([108], a :: rs), by simp [E0, AS.step], rfl⟩
 ·exact ⟨([107], lo, hi), by simp [E0, AS.step], rfl⟩
 ·exact ⟨([118], -8, 8), by simp [E0, AS.step], rfl⟩
def lkV (lo hi : Int) : List QVar := [⟨bn [107], lo, hi⟩, ⟨bn [118], -8, 8⟩]
def lkP (l : List Int) (lo hi : Int) (i : Nat) : Bool := decide (lo ≤ (i : Int) + 1) && decide ((i : Int) + 1 ≤ hi) && decide (-8 ≤ l.getD i 0) && decide (l.getD i 0 ≤ 8)
theorem lk_suits (l : List Int) (lo hi : Int) (r : List Int) : suitsP (lkV lo hi) [lkC l] r = true ↔ ∃ i, i < l.length ∧ lkP l lo hi i = true ∧ r = [(i : Int) + 1, l.getD i 0] := by
 have hat : ∀ k v : Int, conP [k, v] (lkC l) = (decide (1 ≤ k) && decide (k ≤ l.length) && decide (l.getD (k - 1).toNat 0 = v)) := fun k v => rfl
 match r with
 | [] => simp [suitsP, lkV, asgF]
 | [k] => simp [suitsP, lkV, asgF]
 | [k, v] =>
  unfold suitsP
  simp only [lkV, asgF, inP, List.all_cons, List.all_nil, Bool.and_true, hat, Bool.and_eq_true, decide_eq_true_eq, lkP]
  constructor
  ·rintro ⟨⟨⟨a1, a2⟩, a3, a4⟩, ⟨a5, a6⟩, a7⟩
   subst a7
   refine ⟨(k - 1).toNat, by omega, ⟨⟨⟨by omega, by omega⟩, a3⟩, a4⟩, ?_⟩
   have : (((k - 1).toNat : Nat) : Int) + 1 = k := by omega
   rw [this]
  ·rintro ⟨i, h1, ⟨⟨⟨h2, h3⟩, h4⟩, h5⟩, e⟩
   injection e with e1 e2
   injection e2 with e2 _
   subst e1 e2
   have : ((i : Int) + 1 - 1).toNat = i := by omega
   rw [this]
   exact ⟨⟨⟨h2, h3⟩, h4, h5⟩, ⟨by omega, by omega⟩, rfl⟩
 | _ :: _ :: _ :: _ => 
  constructor
  ·intro h; simp [suitsP, lkV, asgF] at h
  ·rintro ⟨i, _, _, e⟩; injection e with _ e; injection e with _ e; cases e
def lkN (l : List Int) (lo hi : Int) (j : Nat) : Nat := ((List.range j).filter (lkP l lo hi)).length
theorem lkN_succ (l : List Int) (lo hi : Int) (j : Nat) : lkN l lo hi (j + 1) = lkN l lo hi j + (if lkP l lo hi j then 1 else 0) := by
 unfold lkN
 rw [List.range_succ, List.filter_append, List.length_append]
 cases e : lkP l lo hi j <;> simp [List.filter_cons, e]
theorem lkN_le (l : List Int) (lo hi : Int) (j : Nat) : lkN l lo hi j ≤ j := by
 unfold lkN
 have := List.length_filter_le (lkP l lo hi) (List.range j)
 simpa using this
theorem lk_count {l : List Int} {lo hi : Int} {a : List (List Int)} (h : a.Perm ((boxV (bdV (lkV lo hi))).filter (suitsP (lkV lo hi) [lkC l]))) : a.length = lkN l lo hi l.length ∧ (∀ i, i < l.length → lkP l lo hi i = true → [(i : Int) + 1, l.getD i 0] ∈ a) ∧ ∀ r ∈ a, r.length = 2 := by
 have mem : ∀ r, r ∈ a ↔ suitsP (lkV lo hi) [lkC l] r = true := fun r => by
  rw [h.mem_iff, List.mem_filter, box_mem]
  exact ⟨fun q => q.2, fun q => ⟨by unfold suitsP at q; rw [Bool.and_eq_true] at q; exact q.1, q⟩⟩
 have nd : a.Nodup := h.nodup_iff.2 ((box_nodup _).filter _)
 have p : a.Perm (((List.range l.length).filter (lkP l lo hi)).map fun i : Nat => [(i : Int) + 1, l.getD i 0]) := (List.perm_ext_iff_of_nodup nd (by
  unfold List.Nodup
  rw [List.pairwise_map]
  refine List.Pairwise.imp (fun {x y} h e => h ?_) (List.nodup_range.filter _)
  injection e with e _
  omega)).2 (fun r => by
   rw [mem, lk_suits, List.mem_map]
   constructor
   ·rintro ⟨i, h1, h2, rfl⟩; exact ⟨i, List.mem_filter.2 ⟨List.mem_range.2 h1, h2⟩, rfl⟩
   ·rintro ⟨i, h1, rfl⟩; obtain ⟨h2, h3⟩ := List.mem_filter.1 h1; exact ⟨i, List.mem_range.1 h2, h3, rfl⟩)
 refine ⟨by rw [p.length_eq, List.length_map]; rfl, fun i h1 h2 => (mem _).2 ((lk_suits l lo hi _).2 ⟨i, h1, h2, rfl⟩), fun r hr => ?_⟩
 obtain ⟨i, _, _, rfl⟩ := (lk_suits l lo hi r).1 ((mem r).1 hr)
 rfl
theorem lk_box {lo hi : Int} (h1 : lo ≤ hi) (h2 : hi ≤ lo + 24) : (2 * (boxV (bdV (lkV lo hi))).length + 1 : Int) ≤ 1000000 ∧ (boxV (bdV (lkV lo hi))).length < 100000 := by
 have e : (boxV (bdV (lkV lo hi))).length = (rngI lo hi).length * 17 := by
  rw [box_len]
  rfl
 have e2 : (rngI lo hi).length = (hi - lo + 1).toNat := by simp [rngI]
 rw [e, e2]
 omega
end
section
open Go.RowKit
variable {w w' wr : World}
def MF (w : World) (T : List UInt8) (order : Int) (weak : Bool) (rows : List (List Int)) : Prop := ∀ W, w.grownBy W none → Calls Tryz.prog 21 #[.string (bn T)] W fun e w' => ∃ b, e = .returned (.pointer (some ⟨b, 0, none⟩)) ∧ W.grownBy w' none ∧ ∀ W2, w'.grownBy W2 none → Calls Tryz.prog 22 #[.pointer (some ⟨b, 0, none⟩), .int .i64 order, .bool weak] W2 fun e w3 => ∃ vS, e = .returned (.tuple #[vS, .bool true]) ∧ LLT w3 vS rows ∧ W2.grownBy w3 none
attribute [local go_sem] bn_ap bn_mk_ap mk_bn_ap bn_size mk_size ap_len List.length_cons List.length_nil
end
section
set_option maxHeartbeats 8000000
set_option maxRecDepth 100000
open Go.RowKit
variable {w w' wr : World}
def lk0 (raw : List Int) : List Int := (raw.take 20).map fun c => pickI c 21 - 10
def lkL (raw : List Int) : List Int := if lk0 raw = [] then [5] else lk0 raw
theorem lk0_bd (raw : List Int) : ∀ x ∈ lk0 raw, -10 ≤ x ∧ x ≤ 10 := fun x hx => by
 obtain ⟨c, _, rfl⟩ := List.mem_map.1 hx
 have := pickI_bd c 21 (by decide)
 omega
theorem lkL_ok (raw : List Int) : 1 ≤ (lkL raw).length ∧ (lkL raw).length ≤ 20 ∧ ∀ x ∈ lkL raw, -10 ≤ x ∧ x ≤ 10 := by
 unfold lkL
 split
 ·exact ⟨by decide, by decide, fun x hx => by obtain rfl : x = 5 := (by simpa using hx); omega⟩
 ·rename_i h
  refine ⟨?_, by simp [lk0, List.length_take]; omega, lk0_bd raw⟩
  cases e : lk0 raw with
  | nil => exact absurd e h
  | cons a r => simp
def intV (l : List Int) : List Value := l.map (Value.int .i64)
theorem int_one (x : Int) : ∀ u ∈ [Value.int .i64 x], u.oneCell' = true := fun u hu => by
 obtain rfl : u = .int .i64 x := by simpa using hu
 rfl
theorem own_ints {B n : Nat} {v : Value} {l : List Int} (h : w.ownsRow B 3 1 v n (intV l)) (h1 : 1 ≤ l.length) : ∃ g cap, v = .slice (some ⟨g, 0, none⟩) l.length cap ∧ g < w.heap.size ∧ ∀ (j : Nat) (x : Int), l[j]? = some x → w.cell? ⟨g, j, none⟩ = some (.int .i64 x) := by
 have hl : l.length = n := by have := h.1; simpa [intV] using this
 subst hl
 rcases h.2 with ⟨q1, q2⟩ | ⟨g, cap, cur, q1, q2, q3, q4, q5, q6, q7⟩
 ·omega
 ·refine ⟨g, cap, q1, some_lt q3, fun i x hx => ?_⟩
  have q := h.cells (g := g) (by rw [q1]; rfl) i (.int .i64 x) (by unfold intV; rw [List.getElem?_map, hx]; rfl)
  rw [add_at] at q
  exact q
theorem vals_two (W : World) (a b : Int) : ValsIn (W.alloc (.cells #[.int .i64 a, .int .i64 b] 3)) (.slice (some ⟨W.heap.size, 0, none⟩) 2 2) [a, b] := by
 refine .inr ⟨W.heap.size, 2, rfl, fun j u hu => ?_, by simp⟩
 have hu' : [Value.int .i64 a, Value.int .i64 b][j]? = some u := hu
 exact cell_of (heap_alloc_new W _) j _ (by simpa using hu')
theorem jB_snoc {l : List Int} {i : Nat} {x : Int} (h : l[i]? = some x) : jB l (i + 1) = jB l i ++ ((if i = 0 then [] else [44, 32]) ++ Lib.itoa x) := by
 show jB l i ++ ((if i = 0 then [] else [44, 32]) ++ Lib.itoa (l.getD i 0)) = _
 rw [List.getD_eq_getElem?_getD, h]
 rfl
structure LkF (w : World) (l : List Int) (lo hi : Int) (order : Int) (weak : Bool) (rows : List (List Int)) : Prop where
 m0 : MF w (lkB l lo hi) order weak rows
 cnt : rows.length = lkN l lo hi l.length
 has : ∀ i, i < l.length → lkP l lo hi i = true → [(i : Int) + 1, l.getD i 0] ∈ rows
 two : ∀ r ∈ rows, r.length = 2
attribute [local go_sem] bn_ap bn_mk_ap mk_bn_ap bn_size mk_size ap_len List.length_cons List.length_nil
theorem lk_walk (low high order : Int) (weak : Bool) {vr : Value} {raw : List Int} (hV : RawIn w vr raw) (hl1 : -9223372036854775808 ≤ low) (hl2 : low ≤ 9223372036854775807) (hh1 : -9223372036854775808 ≤ high) (hh2 : high ≤ 9223372036854775807) (hrw : ∀ x ∈ raw, -9223372036854775808 ≤ x ∧ x ≤ 9223372036854775807) (PL PH : Int) (hPL : pickI low 25 = PL) (hPH : pickI high 25 = PH) (rows : List (List Int)) (hF : LkF w (lkL raw) (PL - 2) (PL - 2 + PH) order weak rows) : Calls Tryz.prog 10 #[vr, .int .i64 low, .int .i64 high, .int .i64 order, .bool weak] w fun e w' => e = .returned (.bool true) ∧ w.grownBy w' none := by
 obtain ⟨ra, rc, rfl⟩ := hV.is
 have HV := hide hV
 have HR := hide hrw
 have KP1 := Kept.mk (fun W => kp_pick low 25 W hl1 hl2 (by decide) (by decide))
 have KP2 := Kept.mk (fun W => kp_pick high 25 W hh1 hh2 (by decide) (by decide))
 obtain ⟨pl1, pl2⟩ := pickI_bd low 25 (by decide)
 obtain ⟨ph1, ph2⟩ := pickI_bd high 25 (by decide)
 rw [hPL] at KP1 pl1 pl2
 rw [hPH] at KP2 ph1 ph2
 obtain ⟨Ln, hLn⟩ : ∃ Ln, Ln = lk0 raw := ⟨_, rfl⟩
 have HLN := hide hLn
 have hLl : Ln.length = min 20 raw.length := by rw [hLn]; simp [lk0, List.length_take]
 obtain ⟨hl8, hlr, hlo⟩ : Ln.length ≤ 20 ∧ Ln.length ≤ raw.length ∧ (raw.length ≤ Ln.length ∨ 20 ≤ Ln.length) := by omega
 have HLO := hide hlo
 obtain ⟨i0, hi0⟩ : ∃ i, Tryz.prog.info? 3 = some i := ⟨_, rfl⟩
 have hz := infoI64
 rw [hi0] at hz
 simp only [Option.map_some, Option.some.injEq, Prod.mk.injEq] at hz
 obtain ⟨hz0, hz1, hz2⟩ := hz
 have HF := hide hF
 clear hF hV hrw hPL hPH hLn hLl hlo
 go_enter Tryz.func10, Tryz.ntmps10
 go_wp2
 go_loopw [11, 12] (fun vl vi wr => ∃ i : Nat, i ≤ Ln.length ∧ vi = .int .i64 i ∧ wr.ownsRow w.heap.size 3 1 vl i (intV (Ln.take i)) ∧ w.grownBy wr none) (fun _ vi _ => Ln.length - (intOf vi).toNat)
 case atStart => exact ⟨0, Nat.zero_le _, rfl, ⟨rfl, .inl ⟨rfl, rfl⟩⟩, grown_refl _ _⟩
 case round =>
  obtain ⟨i, hi, rfl, hown, hg⟩ := hrel
  obtain ⟨la, lc, rfl⟩ := own_slice_n hown
  by_cases hlt : i < Ln.length
  ·obtain ⟨c, hc⟩ : ∃ c, raw[i]? = some c := ⟨raw[i]'(by omega), List.getElem?_eq_getElem (by omega)⟩
   obtain ⟨c1, c2⟩ := HR.out c (List.mem_of_getElem? hc)
   obtain ⟨g, off, rfl, k0, k1'⟩ := HV.out.at_ hc
   have k1 := hg.cell k1' (by simp)
   have k2 : g < wr.heap.size := Nat.lt_of_lt_of_le k0 hg.size
   have hr1 : (i : Int) < raw.length := by omega
   have hr2 : (i : Int) < 20 := by omega
   have h0i : (0 : Int) ≤ i := by omega
   have KA := Kept.mk (fun W => kp_pick c 21 W c1 c2 (by decide) (by decide))
   have bx := pickI_bd c 21 (by decide)
   have HE : Hid (intV (Ln.take (i + 1)) = intV (Ln.take i) ++ [.int .i64 (pickI c 21 - 10)]) := by
    have e : Ln[i]? = some (pickI c 21 - 10) := by rw [HLN.out]; unfold lk0; rw [List.getElem?_map, List.getElem?_take, if_pos (by omega), hc]; rfl
    rw [Hid, List.take_add_one, e]
    simp [intV]
   generalize pickI c 21 = PC at *
   have HOWN := hide hown
   have HG := hide hg
   have HI : Hid (i + 1 ≤ Ln.length ∧ Ln.length - (i + 1) < Ln.length - i) := ⟨hlt, by omega⟩
   have hwr : w.heap.size ≤ wr.heap.size := hg.size
   clear hown hg hc k0 k1' hlt hi c1 c2
   go_wp2_with (first | (at_builtin; go_loud (refine wpList_append_src rfl _ _ 33 rfl w.heap.size 3 i0 (.int .i64 0) 1 8 Tryz.underlying33 hi0 hz0 hz1 hz2 rfl (by decide) _ _ _ rfl (HOWN.out.alloc _) _ 1 [.int .i64 (PC - 10)] rfl (Or.inr ⟨_, _, rfl, World.news_of_block (heap_alloc_new _ _)⟩) rfl (int_one _) (by unfold maxLen; omega) (by omega) (by simp; omega) ?_; intro v' w7 ho hg7; obtain ⟨oa, oc, hv9⟩ := own_slice_n ho; subst hv9; rw [← HE.out] at ho; have HN : Hid (w7.ownsRow w.heap.size 3 1 (.slice oa (i + 1) oc) (i + 1) (intV (Ln.take (i + 1))) ∧ w.grownBy w7 none) := ⟨ho, own_gr (HG.out.trans (World.grownBy_alloc _ _ _)) (HOWN.out.alloc _) hg7⟩; clear ho hg7)) | (go_at_call 16; refine (KA.get _).mono ?_; rintro e w6 ⟨rfl, hww⟩; subst w6; clear KA))
   go_roundw
   case rel => exact ⟨i + 1, HI.out.1, by go_num, HN.out.1, HN.out.2⟩
   case measure => simp [intOf]; have := HI.out.2; omega
  ·obtain rfl : i = Ln.length := by omega
   rw [List.take_of_length_le (Nat.le_refl _)] at hown
   have HOWN := hide hown
   have HG := hide hg
   have hwr : w.heap.size ≤ wr.heap.size := hg.size
   have hlx : ((Ln.length : Int) < raw.length ∧ (20 : Int) ≤ Ln.length) ∨ (raw.length : Int) ≤ Ln.length := by have := HLO.out; omega
   clear hown hg
   obtain ⟨l, hl⟩ : ∃ l, l = lkL raw := ⟨_, rfl⟩
   obtain ⟨ok1, ok2, ok3⟩ := lkL_ok raw
   rw [← hl] at ok1 ok2 ok3
   have F := HF.out
   rw [← hl] at F
   have HCN := hide F.cnt
   have HHS := hide F.has
   have HTW := hide F.two
   have KM0 := Kept.mk (fun {W : World} (hg : w.grownBy W none) => F.m0 W hg)
   have HOK := hide ok3
   have KD1 := Kept.mk (fun W => kp_digits (PL - 2) W (by omega) (by omega))
   have KD2 := Kept.mk (fun W => kp_digits (PL - 2 + PH) W (by omega) (by omega))
   have i1 := itoa_len (m := PL - 2) (by omega) (by omega)
   have i2 := itoa_len (m := PL - 2 + PH) (by omega) (by omega)
   have HJL : Hid (∀ k, k ≤ l.length → (jB l k).length ≤ 320) := fun k hk => by have := jB_len (l := l) (fun x hx => by have := ok3 x hx; omega) k; omega
   have HT : Hid (lkB l (PL - 2) (PL - 2 + PH) = ap (ap (ap (ap (ap ([108, 105, 115, 116, 32, 108, 32, 61, 32, 91] ++ jB l l.length) [93, 59, 10, 118, 97, 114, 32, 107, 58, 32]) (Lib.itoa (PL - 2))) [46, 46]) (Lib.itoa (PL - 2 + PH))) [59, 10, 118, 97, 114, 32, 118, 58, 32, 45, 56, 46, 46, 56, 59, 10, 97, 116, 32, 108, 91, 107, 93, 32, 61, 32, 118, 59, 10]) := by rw [Hid]; simp [lkB, ap, List.append_assoc]
   generalize lkB l (PL - 2) (PL - 2 + PH) = TX at *
   generalize Lib.itoa (PL - 2) = D1 at *
   generalize Lib.itoa (PL - 2 + PH) = D2 at *
   have hcase : (Ln = [] ∧ l = [5]) ∨ (1 ≤ Ln.length ∧ l = Ln) := by
    rw [hl, HLN.out]
    unfold lkL
    by_cases q : lk0 raw = []
    ·exact .inl ⟨q, if_pos q⟩
    ·refine .inr ⟨?_, if_neg q⟩
     cases e : lk0 raw with
     | nil => exact absurd e q
     | cons a r => simp
   clear F hl ok3 HF HV HR HLN
   rcases hcase with ⟨z1, z2⟩ | ⟨z1, z2⟩
   ·have hr0 : (raw.length : Int) ≤ Ln.length := by rcases hlx with q | q; (rw [z1] at q; simp at q); exact q
    have hn0 : ((Ln.length : Int) == 0) = true := by rw [z1]; rfl
    have HLz := hide z1
    clear hlx z1
    subst z2
    rw [show ([5] : List Int).length = 1 from rfl] at HT HCN HJL
    go_wp2_with (at_builtin; go_loud (refine wpList_append_src rfl _ _ 33 rfl w.heap.size 3 i0 (.int .i64 0) 1 8 Tryz.underlying33 hi0 hz0 hz1 hz2 rfl (by decide) _ _ _ rfl (HOWN.out.alloc _) _ 1 [.int .i64 5] rfl (Or.inr ⟨_, _, rfl, World.news_of_block (heap_alloc_new _ _)⟩) rfl (int_one _) (by unfold maxLen; omega) (by omega) (by simp; omega) ?_; intro v' wz ho hg7; rw [HLz.out] at ho; have HO : Hid (wz.ownsRow w.heap.size 3 1 v' 1 (intV [5])) := ho; obtain ⟨g, cap, hv, hg0, hC⟩ := own_ints (l := [5]) HO.out (by decide); subst hv; have HGR : Hid (w.grownBy wz none) := own_gr (HG.out.trans (World.grownBy_alloc _ _ _)) (HOWN.out.alloc _) hg7; have HC := hide hC; clear ho hg7 hC HO))
    go_wp2_with (first | (go_at_call 16; refine (KP1.get _).mono ?_; rintro e w6 ⟨rfl, hww⟩; subst w6; clear KP1) | (go_at_call 16; refine (KP2.get _).mono ?_; rintro e w6 ⟨rfl, hww⟩; subst w6; clear KP2))
    go_loopw [13, 14] (fun vs vi wr => ∃ i : Nat, i ≤ 1 ∧ vi = .int .i64 i ∧ vs = .string (bn ([108, 105, 115, 116, 32, 108, 32, 61, 32, 91] ++ jB (([5] : List Int)) i)) ∧ wz.grownBy wr none) (fun _ vi _ => 1 - (intOf vi).toNat)
    case atStart => exact ⟨0, Nat.zero_le _, rfl, rfl, grown_refl _ _⟩
    case round =>
     obtain ⟨i, hi9, rfl, rfl, hg⟩ := hrel
     by_cases hlt : i < 1
     ·obtain ⟨x, hx⟩ : ∃ x, (([5] : List Int))[i]? = some x := ⟨(([5] : List Int))[i]'(by simpa using hlt), List.getElem?_eq_getElem (by simpa using hlt)⟩
      have bx := HOK.out x (List.mem_of_getElem? hx)
      have cx := hg.cell (HC.out i x hx) (by simp)
      have lx : g < wr.heap.size := Nat.lt_of_lt_of_le hg0 hg.size
      have KDx := Kept.mk (fun W => kp_digits x W (by omega) (by omega))
      have ix := itoa_len (m := x) (by omega) (by omega)
      have hlt2 : (i : Int) < 1 := by omega
      have h0i : (0 : Int) ≤ i := by omega
      have jl := HJL.out i (by simpa using hi9)
      have js := jB_snoc hx
      have HLI : Hid (i + 1 ≤ 1 ∧ 1 - (i + 1) < 1 - i) := ⟨hlt, by omega⟩
      have HG9 := hide hg
      by_cases h0 : i = 0
      ·have hk0 : (i : Int) ≤ 0 := by omega
       have HE : Hid ([108, 105, 115, 116, 32, 108, 32, 61, 32, 91] ++ jB (([5] : List Int)) (i + 1) = ap ([108, 105, 115, 116, 32, 108, 32, 61, 32, 91] ++ jB (([5] : List Int)) i) (Lib.itoa x)) := by rw [Hid, js, if_pos h0]; simp [ap]
       have sl : ([108, 105, 115, 116, 32, 108, 32, 61, 32, 91] ++ jB (([5] : List Int)) i).length ≤ 400 := by simp; omega
       generalize [108, 105, 115, 116, 32, 108, 32, 61, 32, 91] ++ jB (([5] : List Int)) i = S at *
       generalize Lib.itoa x = D at *
       clear hx hlt hg h0 js jl hi9
       go_wp2_with (go_at_call 20; refine (KDx.get _).mono ?_; rintro e w5 ⟨rfl, hg5⟩; clear KDx)
       go_roundw
       case rel => exact ⟨i + 1, HLI.out.1, by go_num, by rw [HE.out], HG9.out.trans hg5⟩
       case measure => exact HLI.out.2
      ·have hk0 : (0 : Int) < i := by omega
       have HE : Hid ([108, 105, 115, 116, 32, 108, 32, 61, 32, 91] ++ jB (([5] : List Int)) (i + 1) = ap (ap ([108, 105, 115, 116, 32, 108, 32, 61, 32, 91] ++ jB (([5] : List Int)) i) [44, 32]) (Lib.itoa x)) := by rw [Hid, js, if_neg h0]; simp [ap]
       have sl : ([108, 105, 115, 116, 32, 108, 32, 61, 32, 91] ++ jB (([5] : List Int)) i).length ≤ 400 := by simp; omega
       generalize [108, 105, 115, 116, 32, 108, 32, 61, 32, 91] ++ jB (([5] : List Int)) i = S at *
       generalize Lib.itoa x = D at *
       clear hx hlt hg h0 js jl hi9
       go_wp2_with (go_at_call 20; refine (KDx.get _).mono ?_; rintro e w5 ⟨rfl, hg5⟩; clear KDx)
       all_goals go_roundw
       all_goals first | exact HLI.out.2 | exact ⟨i + 1, HLI.out.1, by go_num, by rw [HE.out], HG9.out.trans hg5⟩
     ·obtain rfl : i = 1 := by omega
      rw [HT.out] at KM0
      have sl : ([108, 105, 115, 116, 32, 108, 32, 61, 32, 91] ++ jB (([5] : List Int)) 1).length ≤ 400 := by have := HJL.out 1 (by simp); simp; omega
      generalize [108, 105, 115, 116, 32, 108, 32, 61, 32, 91] ++ jB (([5] : List Int)) 1 = S at *
      have hgr := HGR.out.trans hg
      have hz9 := hg
      clear hlt hi9 hg
      go_wp2_with (first | (go_at_call 20; refine (KD1.get _).mono ?_; rintro e w5 ⟨rfl, hg1⟩; replace hgr := hgr.trans hg1; replace hz9 := hz9.trans hg1; clear hg1 KD1) | (go_at_call 20; refine (KD2.get _).mono ?_; rintro e w5 ⟨rfl, hg1⟩; replace hgr := hgr.trans hg1; replace hz9 := hz9.trans hg1; clear hg1 KD2) | (go_at_call 21; refine (KM0.get hgr).mono ?_; rintro e wa ⟨q1, rfl, hg1, hfo1⟩; replace hgr := hgr.trans hg1; replace hz9 := hz9.trans hg1; have KF1 := Kept.mk (fun {W2 : World} h => hfo1 W2 h); clear hg1 hfo1 KM0) | (go_at_call 22; refine (KF1.get (grown_refl _ _)).mono ?_; clear KF1; rintro e w3 ⟨vS, rfl, hL, hg1⟩; replace hgr := hgr.trans hg1; replace hz9 := hz9.trans hg1; clear hg1; obtain ⟨sa, sc, hv1⟩ := hL.ll.is; subst hv1))
      have HL := hide hL
      have HGZ := hide hz9
      have HGQ := hide hgr
      have hrl : rows.length ≤ 20 := by rw [HCN.out]; have := lkN_le (([5] : List Int)) (PL - 2) (PL - 2 + PH) 1; omega
      clear hL hz9 hgr
      go_loopw [18, 19] (fun vw vi wr => ∃ i : Nat, i ≤ 1 ∧ vi = .int .i64 i ∧ vw = .int .i64 (lkN (([5] : List Int)) (PL - 2) (PL - 2 + PH) i : Nat) ∧ w3.grownBy wr none) (fun _ vi _ => 1 - (intOf vi).toNat)
      case atStart => exact ⟨0, Nat.zero_le _, rfl, rfl, grown_refl _ _⟩
      case round =>
       obtain ⟨i, hi9, rfl, rfl, hg⟩ := hrel
       have nle := lkN_le (([5] : List Int)) (PL - 2) (PL - 2 + PH) i
       by_cases hlt : i < 1
       ·obtain ⟨x, hx⟩ : ∃ x, (([5] : List Int))[i]? = some x := ⟨(([5] : List Int))[i]'(by simpa using hlt), List.getElem?_eq_getElem (by simpa using hlt)⟩
        have bx := HOK.out x (List.mem_of_getElem? hx)
        have gz := HGZ.out.trans hg
        have cx := gz.cell (HC.out i x hx) (by simp)
        have lx : g < wr.heap.size := Nat.lt_of_lt_of_le hg0 gz.size
        have HX : Hid ((([5] : List Int)).getD i 0 = x) := by rw [Hid, List.getD_eq_getElem?_getD, hx]; rfl
        have hlt2 : (i : Int) < 1 := by omega
        have h0i : (0 : Int) ≤ i := by omega
        have HLI : Hid (i + 1 ≤ 1) := hlt
        have HME : Hid (1 - (i + 1) < 1 - i) := by rw [Hid]; omega
        have HG9 := hide hg
        clear hx hg gz hi9
        by_cases c1 : PL - 2 ≤ (i : Int) + 1
        ·by_cases c2 : (i : Int) + 1 ≤ PL - 2 + PH
         ·by_cases c3 : -8 ≤ x
          ·by_cases c4 : x ≤ 8
           ·have hp : lkP (([5] : List Int)) (PL - 2) (PL - 2 + PH) i = true := by unfold lkP; rw [HX.out]; simp only [Bool.and_eq_true, decide_eq_true_eq]; exact ⟨⟨⟨c1, c2⟩, c3⟩, c4⟩
            have HN1 : Hid (lkN (([5] : List Int)) (PL - 2) (PL - 2 + PH) (i + 1) = lkN (([5] : List Int)) (PL - 2) (PL - 2 + PH) i + 1) := by rw [Hid, lkN_succ, if_pos hp]
            have hmem := HHS.out i (by simpa using hlt) hp
            rw [HX.out] at hmem
            have KH := Kept.mk (fun {W : World} {vv : Value} (hw : w3.grownBy W none) (hv : ValsIn W vv [(i : Int) + 1, x]) => kp_has (w := W) (HL.out.ll.grown hw) hv (by omega) (fun s hs => by have := HTW.out s hs; omega) (by simp))
            rw [decide_eq_true hmem] at KH
            clear hp hmem hlt
            go_wp2_with (go_at_call 23; refine (KH.get (HG9.out.trans (World.grownBy_alloc _ _ _)) (vals_two _ _ _)).mono ?_; clear KH; rintro e w4 ⟨rfl, hg4⟩)
            go_roundw
            case rel => exact ⟨i + 1, HLI.out, by go_num, by rw [HN1.out]; go_num, (HG9.out.trans (World.grownBy_alloc _ _ _)).trans hg4⟩
            case measure => exact HME.out
           ·have n4 : 8 < x := by omega
            clear hlt
            have HN1 : Hid (lkN (([5] : List Int)) (PL - 2) (PL - 2 + PH) (i + 1) = lkN (([5] : List Int)) (PL - 2) (PL - 2 + PH) i) := by
             have hp : ¬ lkP (([5] : List Int)) (PL - 2) (PL - 2 + PH) i = true := by
              unfold lkP
              rw [HX.out]
              simp only [Bool.and_eq_true, decide_eq_true_eq]
              omega
             rw [Hid, lkN_succ, if_neg hp, Nat.add_zero]
            go_wp2
            go_roundw
            case rel => exact ⟨i + 1, HLI.out, by go_num, by rw [HN1.out], HG9.out⟩
            case measure => exact HME.out
          ·have n3 : x < -8 := by omega
           clear hlt
           have HN1 : Hid (lkN (([5] : List Int)) (PL - 2) (PL - 2 + PH) (i + 1) = lkN (([5] : List Int)) (PL - 2) (PL - 2 + PH) i) := by
            have hp : ¬ lkP (([5] : List Int)) (PL - 2) (PL - 2 + PH) i = true := by
             unfold lkP
             rw [HX.out]
             simp only [Bool.and_eq_true, decide_eq_true_eq]
             omega
            rw [Hid, lkN_succ, if_neg hp, Nat.add_zero]
           go_wp2
           go_roundw
           case rel => exact ⟨i + 1, HLI.out, by go_num, by rw [HN1.out], HG9.out⟩
           case measure => exact HME.out
         ·have n2 : PL - 2 + PH < (i : Int) + 1 := by omega
          clear hlt
          have HN1 : Hid (lkN (([5] : List Int)) (PL - 2) (PL - 2 + PH) (i + 1) = lkN (([5] : List Int)) (PL - 2) (PL - 2 + PH) i) := by
           have hp : ¬ lkP (([5] : List Int)) (PL - 2) (PL - 2 + PH) i = true := by
            unfold lkP
            rw [HX.out]
            simp only [Bool.and_eq_true, decide_eq_true_eq]
            omega
           rw [Hid, lkN_succ, if_neg hp, Nat.add_zero]
          go_wp2
          go_roundw
          case rel => exact ⟨i + 1, HLI.out, by go_num, by rw [HN1.out], HG9.out⟩
          case measure => exact HME.out
        ·have n1 : (i : Int) + 1 < PL - 2 := by omega
         clear hlt
         have HN1 : Hid (lkN (([5] : List Int)) (PL - 2) (PL - 2 + PH) (i + 1) = lkN (([5] : List Int)) (PL - 2) (PL - 2 + PH) i) := by
          have hp : ¬ lkP (([5] : List Int)) (PL - 2) (PL - 2 + PH) i = true := by
           unfold lkP
           rw [HX.out]
           simp only [Bool.and_eq_true, decide_eq_true_eq]
           omega
          rw [Hid, lkN_succ, if_neg hp, Nat.add_zero]
         go_wp2
         go_roundw
         case rel => exact ⟨i + 1, HLI.out, by go_num, by rw [HN1.out], HG9.out⟩
         case measure => exact HME.out
       ·obtain rfl : i = 1 := by omega
        have hfin : ((rows.length : Int) == (lkN (([5] : List Int)) (PL - 2) (PL - 2 + PH) 1 : Nat)) = true := by rw [HCN.out]; simp
        go_wp2
        go_ret
        exact ⟨rfl, HGQ.out.trans hg⟩
   ·subst z2
    have hpos : (0 : Int) < l.length := by omega
    have hne0 : ((l.length : Int) == 0) = false := by rw [beq_eq_false_iff_ne]; omega
    obtain ⟨g, cap, hv, hg0, hC⟩ := own_ints HOWN.out z1
    injection hv with hv1 _ hv3
    subst hv1 hv3
    have HC := hide hC
    have HGR := HG
    clear hC HOWN
    generalize wr = wz at *
    rcases hlx with ⟨q1, q2⟩ | q1
    all_goals
     go_wp2_with (first | (go_at_call 16; refine (KP1.get _).mono ?_; rintro e w6 ⟨rfl, hww⟩; subst w6; clear KP1) | (go_at_call 16; refine (KP2.get _).mono ?_; rintro e w6 ⟨rfl, hww⟩; subst w6; clear KP2))
     go_loopw [13, 14] (fun vs vi wr => ∃ i : Nat, i ≤ l.length ∧ vi = .int .i64 i ∧ vs = .string (bn ([108, 105, 115, 116, 32, 108, 32, 61, 32, 91] ++ jB (l) i)) ∧ wz.grownBy wr none) (fun _ vi _ => l.length - (intOf vi).toNat)
     case atStart => exact ⟨0, Nat.zero_le _, rfl, rfl, grown_refl _ _⟩
     case round =>
      obtain ⟨i, hi9, rfl, rfl, hg⟩ := hrel
      by_cases hlt : i < l.length
      ·obtain ⟨x, hx⟩ : ∃ x, (l)[i]? = some x := ⟨(l)[i]'(by simpa using hlt), List.getElem?_eq_getElem (by simpa using hlt)⟩
       have bx := HOK.out x (List.mem_of_getElem? hx)
       have cx := hg.cell (HC.out i x hx) (by simp)
       have lx : g < wr.heap.size := Nat.lt_of_lt_of_le hg0 hg.size
       have KDx := Kept.mk (fun W => kp_digits x W (by omega) (by omega))
       have ix := itoa_len (m := x) (by omega) (by omega)
       have hlt2 : (i : Int) < l.length := by omega
       have h0i : (0 : Int) ≤ i := by omega
       have jl := HJL.out i (by simpa using hi9)
       have js := jB_snoc hx
       have HLI : Hid (i + 1 ≤ l.length ∧ l.length - (i + 1) < l.length - i) := ⟨hlt, by omega⟩
       have HG9 := hide hg
       by_cases h0 : i = 0
       ·have hk0 : (i : Int) ≤ 0 := by omega
        have HE : Hid ([108, 105, 115, 116, 32, 108, 32, 61, 32, 91] ++ jB (l) (i + 1) = ap ([108, 105, 115, 116, 32, 108, 32, 61, 32, 91] ++ jB (l) i) (Lib.itoa x)) := by rw [Hid, js, if_pos h0]; simp [ap]
        have sl : ([108, 105, 115, 116, 32, 108, 32, 61, 32, 91] ++ jB (l) i).length ≤ 400 := by simp; omega
        generalize [108, 105, 115, 116, 32, 108, 32, 61, 32, 91] ++ jB (l) i = S at *
        generalize Lib.itoa x = D at *
        clear hx hlt hg h0 js jl hi9
        go_wp2_with (go_at_call 20; refine (KDx.get _).mono ?_; rintro e w5 ⟨rfl, hg5⟩; clear KDx)
        go_roundw
        case rel => exact ⟨i + 1, HLI.out.1, by go_num, by rw [HE.out], HG9.out.trans hg5⟩
        case measure => exact HLI.out.2
       ·have hk0 : (0 : Int) < i := by omega
        have HE : Hid ([108, 105, 115, 116, 32, 108, 32, 61, 32, 91] ++ jB (l) (i + 1) = ap (ap ([108, 105, 115, 116, 32, 108, 32, 61, 32, 91] ++ jB (l) i) [44, 32]) (Lib.itoa x)) := by rw [Hid, js, if_neg h0]; simp [ap]
        have sl : ([108, 105, 115, 116, 32, 108, 32, 61, 32, 91] ++ jB (l) i).length ≤ 400 := by simp; omega
        generalize [108, 105, 115, 116, 32, 108, 32, 61, 32, 91] ++ jB (l) i = S at *
        generalize Lib.itoa x = D at *
        clear hx hlt hg h0 js jl hi9
        go_wp2_with (go_at_call 20; refine (KDx.get _).mono ?_; rintro e w5 ⟨rfl, hg5⟩; clear KDx)
        all_goals go_roundw
        all_goals first | exact HLI.out.2 | exact ⟨i + 1, HLI.out.1, by go_num, by rw [HE.out], HG9.out.trans hg5⟩
      ·obtain rfl : i = l.length := by omega
       rw [HT.out] at KM0
       have sl : ([108, 105, 115, 116, 32, 108, 32, 61, 32, 91] ++ jB (l) l.length).length ≤ 400 := by have := HJL.out l.length (by simp); simp; omega
       generalize [108, 105, 115, 116, 32, 108, 32, 61, 32, 91] ++ jB (l) l.length = S at *
       have hgr := HGR.out.trans hg
       have hz9 := hg
       clear hlt hi9 hg
       go_wp2_with (first | (go_at_call 20; refine (KD1.get _).mono ?_; rintro e w5 ⟨rfl, hg1⟩; replace hgr := hgr.trans hg1; replace hz9 := hz9.trans hg1; clear hg1 KD1) | (go_at_call 20; refine (KD2.get _).mono ?_; rintro e w5 ⟨rfl, hg1⟩; replace hgr := hgr.trans hg1; replace hz9 := hz9.trans hg1; clear hg1 KD2) | (go_at_call 21; refine (KM0.get hgr).mono ?_; rintro e wa ⟨q1, rfl, hg1, hfo1⟩; replace hgr := hgr.trans hg1; replace hz9 := hz9.trans hg1; have KF1 := Kept.mk (fun {W2 : World} h => hfo1 W2 h); clear hg1 hfo1 KM0) | (go_at_call 22; refine (KF1.get (grown_refl _ _)).mono ?_; clear KF1; rintro e w3 ⟨vS, rfl, hL, hg1⟩; replace hgr := hgr.trans hg1; replace hz9 := hz9.trans hg1; clear hg1; obtain ⟨sa, sc, hv1⟩ := hL.ll.is; subst hv1))
       have HL := hide hL
       have HGZ := hide hz9
       have HGQ := hide hgr
       have hrl : rows.length ≤ 20 := by rw [HCN.out]; have := lkN_le (l) (PL - 2) (PL - 2 + PH) l.length; omega
       clear hL hz9 hgr
       go_loopw [18, 19] (fun vw vi wr => ∃ i : Nat, i ≤ l.length ∧ vi = .int .i64 i ∧ vw = .int .i64 (lkN (l) (PL - 2) (PL - 2 + PH) i : Nat) ∧ w3.grownBy wr none) (fun _ vi _ => l.length - (intOf vi).toNat)
       case atStart => exact ⟨0, Nat.zero_le _, rfl, rfl, grown_refl _ _⟩
       case round =>
        obtain ⟨i, hi9, rfl, rfl, hg⟩ := hrel
        have nle := lkN_le (l) (PL - 2) (PL - 2 + PH) i
        by_cases hlt : i < l.length
        ·obtain ⟨x, hx⟩ : ∃ x, (l)[i]? = some x := ⟨(l)[i]'(by simpa using hlt), List.getElem?_eq_getElem (by simpa using hlt)⟩
         have bx := HOK.out x (List.mem_of_getElem? hx)
         have gz := HGZ.out.trans hg
         have cx := gz.cell (HC.out i x hx) (by simp)
         have lx : g < wr.heap.size := Nat.lt_of_lt_of_le hg0 gz.size
         have HX : Hid ((l).getD i 0 = x) := by rw [Hid, List.getD_eq_getElem?_getD, hx]; rfl
         have hlt2 : (i : Int) < l.length := by omega
         have h0i : (0 : Int) ≤ i := by omega
         have HLI : Hid (i + 1 ≤ l.length) := hlt
         have HME : Hid (l.length - (i + 1) < l.length - i) := by rw [Hid]; omega
         have HG9 := hide hg
         clear hx hg gz hi9
         by_cases c1 : PL - 2 ≤ (i : Int) + 1
         ·by_cases c2 : (i : Int) + 1 ≤ PL - 2 + PH
          ·by_cases c3 : -8 ≤ x
           ·by_cases c4 : x ≤ 8
            ·have hp : lkP (l) (PL - 2) (PL - 2 + PH) i = true := by unfold lkP; rw [HX.out]; simp only [Bool.and_eq_true, decide_eq_true_eq]; exact ⟨⟨⟨c1, c2⟩, c3⟩, c4⟩
             have HN1 : Hid (lkN (l) (PL - 2) (PL - 2 + PH) (i + 1) = lkN (l) (PL - 2) (PL - 2 + PH) i + 1) := by rw [Hid, lkN_succ, if_pos hp]
             have hmem := HHS.out i (by simpa using hlt) hp
             rw [HX.out] at hmem
             have KH := Kept.mk (fun {W : World} {vv : Value} (hw : w3.grownBy W none) (hv : ValsIn W vv [(i : Int) + 1, x]) => kp_has (w := W) (HL.out.ll.grown hw) hv (by omega) (fun s hs => by have := HTW.out s hs; omega) (by simp))
             rw [decide_eq_true hmem] at KH
             clear hp hmem hlt
             go_wp2_with (go_at_call 23; refine (KH.get (HG9.out.trans (World.grownBy_alloc _ _ _)) (vals_two _ _ _)).mono ?_; clear KH; rintro e w4 ⟨rfl, hg4⟩)
             go_roundw
             case rel => exact ⟨i + 1, HLI.out, by go_num, by rw [HN1.out]; go_num, (HG9.out.trans (World.grownBy_alloc _ _ _)).trans hg4⟩
             case measure => exact HME.out
            ·have n4 : 8 < x := by omega
             clear hlt
             have HN1 : Hid (lkN (l) (PL - 2) (PL - 2 + PH) (i + 1) = lkN (l) (PL - 2) (PL - 2 + PH) i) := by
              have hp : ¬ lkP (l) (PL - 2) (PL - 2 + PH) i = true := by
               unfold lkP
               rw [HX.out]
               simp only [Bool.and_eq_true, decide_eq_true_eq]
               omega
              rw [Hid, lkN_succ, if_neg hp, Nat.add_zero]
             go_wp2
             go_roundw
             case rel => exact ⟨i + 1, HLI.out, by go_num, by rw [HN1.out], HG9.out⟩
             case measure => exact HME.out
           ·have n3 : x < -8 := by omega
            clear hlt
            have HN1 : Hid (lkN (l) (PL - 2) (PL - 2 + PH) (i + 1) = lkN (l) (PL - 2) (PL - 2 + PH) i) := by
             have hp : ¬ lkP (l) (PL - 2) (PL - 2 + PH) i = true := by
              unfold lkP
              rw [HX.out]
              simp only [Bool.and_eq_true, decide_eq_true_eq]
              omega
             rw [Hid, lkN_succ, if_neg hp, Nat.add_zero]
            go_wp2
            go_roundw
            case rel => exact ⟨i + 1, HLI.out, by go_num, by rw [HN1.out], HG9.out⟩
            case measure => exact HME.out
          ·have n2 : PL - 2 + PH < (i : Int) + 1 := by omega
           clear hlt
           have HN1 : Hid (lkN (l) (PL - 2) (PL - 2 + PH) (i + 1) = lkN (l) (PL - 2) (PL - 2 + PH) i) := by
            have hp : ¬ lkP (l) (PL - 2) (PL - 2 + PH) i = true := by
             unfold lkP
             rw [HX.out]
             simp only [Bool.and_eq_true, decide_eq_true_eq]
             omega
            rw [Hid, lkN_succ, if_neg hp, Nat.add_zero]
           go_wp2
           go_roundw
           case rel => exact ⟨i + 1, HLI.out, by go_num, by rw [HN1.out], HG9.out⟩
           case measure => exact HME.out
         ·have n1 : (i : Int) + 1 < PL - 2 := by omega
          clear hlt
          have HN1 : Hid (lkN (l) (PL - 2) (PL - 2 + PH) (i + 1) = lkN (l) (PL - 2) (PL - 2 + PH) i) := by
           have hp : ¬ lkP (l) (PL - 2) (PL - 2 + PH) i = true := by
            unfold lkP
            rw [HX.out]
            simp only [Bool.and_eq_true, decide_eq_true_eq]
            omega
           rw [Hid, lkN_succ, if_neg hp, Nat.add_zero]
          go_wp2
          go_roundw
          case rel => exact ⟨i + 1, HLI.out, by go_num, by rw [HN1.out], HG9.out⟩
          case measure => exact HME.out
        ·obtain rfl : i = l.length := by omega
         have hfin : ((rows.length : Int) == (lkN (l) (PL - 2) (PL - 2 + PH) l.length : Nat)) = true := by rw [HCN.out]; simp
         go_wp2
         go_ret
         exact ⟨rfl, HGQ.out.trans hg⟩
theorem kp_Looked (low high order : Int) (weak : Bool) {vr : Value} {raw : List Int} (hV : RawIn w vr raw) (hl1 : -9223372036854775808 ≤ low) (hl2 : low ≤ 9223372036854775807) (hh1 : -9223372036854775808 ≤ high) (hh2 : high ≤ 9223372036854775807) (ho1 : -9223372036854775808 ≤ order) (ho2 : order ≤ 9223372036854775807) (hrw : ∀ x ∈ raw, -9223372036854775808 ≤ x ∧ x ≤ 9223372036854775807) (ht : PowTab w) (hdb : DbTab w) : Calls Tryz.prog 10 #[vr, .int .i64 low, .int .i64 high, .int .i64 order, .bool weak] w fun e w' => e = .returned (.bool true) ∧ w.grownBy w' none := by
 obtain ⟨pl1, pl2⟩ := pickI_bd low 25 (by decide)
 obtain ⟨ph1, ph2⟩ := pickI_bd high 25 (by decide)
 obtain ⟨ok1, ok2, ok3⟩ := lkL_ok raw
 obtain ⟨a, rs, e⟩ : ∃ a rs, lkL raw = a :: rs := by
  cases q : lkL raw with
  | nil => rw [q] at ok1; simp at ok1
  | cons a rs => exact ⟨a, rs, rfl⟩
 obtain ⟨PL, hPL⟩ : ∃ PL, pickI low 25 = PL := ⟨_, rfl⟩
 obtain ⟨PH, hPH⟩ : ∃ PH, pickI high 25 = PH := ⟨_, rfl⟩
 rw [hPL] at pl1 pl2
 rw [hPH] at ph1 ph2
 rw [e] at ok2 ok3
 have bd : ∀ x ∈ a :: rs, -1000 ≤ x ∧ x ≤ 1000 := fun x hx => by have := ok3 x hx; omega
 have okA := lkA_ok (lo := PL - 2) (hi := PL - 2 + PH) bd (by omega) (by omega) (by omega) (by omega)
 have fiA := lkA_fine (lo := PL - 2) (hi := PL - 2 + PH) bd ok2 (by omega) (by omega) (by omega)
 have ln : (srcA (lkA a rs (PL - 2) (PL - 2 + PH))).length ≤ 2000 := by rw [lkA_src]; have := lkB_len (lo := PL - 2) (hi := PL - 2 + PH) ok2 bd (by omega) (by omega) (by omega) (by omega); omega
 have M : MdOk (lkV (PL - 2) (PL - 2 + PH)) [lkC (a :: rs)] := by have q := src_ok okA fiA ln; rw [lkA_env] at q; exact q
 obtain ⟨b1, b2⟩ := lk_box (lo := PL - 2) (hi := PL - 2 + PH) (by omega) (by omega)
 obtain ⟨A1, _, _⟩ := solve_all M (pickI order 2) weak 1000000 b1 b2
 obtain ⟨c1, c2, c3⟩ := lk_count A1.perm
 have tb : ∀ {W : World}, w.grownBy W none → PowTab W := fun {W} hg => tab_kept ht (fun k hk => hg.block k hk (by simp))
 refine lk_walk low high order weak hV hl1 hl2 hh1 hh2 hrw PL PH hPL hPH (solveS (mkK (lkV (PL - 2) (PL - 2 + PH)) [lkC (a :: rs)] (pickI order 2) weak 1000000)).sols ?_
 rw [e]
 refine ⟨fun W hW => ?_, c1, c2, c3⟩
 have K := kp_model (lkA a rs (PL - 2) (PL - 2 + PH)) okA fiA ln W (tb hW)
 rw [lkA_src, lkA_env] at K
 refine K.mono ?_
 rintro e w' ⟨b, rfl, hb, hm, hg⟩
 exact ⟨b, rfl, hg, fun W2 hg2 => kp_found (hm.grown hg2) M (tb ((hW.trans hg).trans hg2)) (db_grown hdb ((hW.trans hg).trans hg2)) order weak ho1 ho2 b1 b2⟩
end
end Go.Proofs.YthpcbbnabnlanaaGreatDoor
