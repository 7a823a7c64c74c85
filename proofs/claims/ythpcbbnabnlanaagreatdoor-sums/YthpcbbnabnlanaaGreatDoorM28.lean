import Derived.Test.YthpcbbnabnlanaaGreatDoorM17
import Derived.Test.YthpcbbnabnlanaaGreatDoorM27
import Derived.Laws.OwnMore
namespace Go.Proofs.YthpcbbnabnlanaaGreatDoor
set_option linter.unusedVariables false
set_option linter.unusedSimpArgs false
section
set_option maxHeartbeats 2000000
set_option maxRecDepth 100000
open Go.RowKit
variable {w w' : World}
theorem md_Solve {b : Nat} {V : List QVar} {C : List QCon} {t : List UInt8} (h : MdAt w b V C t) (hM : MdOk V C) (hdb : DbTab w) (order : Int) (weak : Bool) (budget : Int) (hbu : budget ≤ 9223372036854775807) : Calls Tryz.prog 29 #[.pointer (some ⟨b, 0, none⟩), .int .i64 order, .bool weak, .int .i64 budget] w fun e w' => ∃ vS, e = .returned (.agg #[vS, .int .i64 (solveS (mkK V C order weak budget)).ending, .int .i64 (solveS (mkK V C order weak budget)).nodes]) ∧ LLT w' vS (solveS (mkK V C order weak budget)).sols ∧ w.grownBy w' none := by
 obtain ⟨bc, B, vV, vC, cs, h1, h2, h3⟩ := h.set
 obtain ⟨W0, hW0⟩ : ∃ W0, W0 = w.alloc (.cells #[.slice none 0 0, .int .i64 0, .int .i64 0] 50) := ⟨_, rfl⟩
 have hg0 : w.grownBy W0 none := by rw [hW0]; exact World.grownBy_alloc _ _ _
 have KS := Kept.mk (sv_Solve (w := W0) (K := mkK V C order weak budget) (h2.grown hg0) h3 (db_grown hdb hg0) (mkK_ok hM.vars hM.vlen hM.cons hM.clen) rfl rfl hbu)
 have hbx0 : W0.heap[w.heap.size]? = some (.cells #[.slice none 0 0, .int .i64 0, .int .i64 0] 50 (0, 0)) := by rw [hW0]; exact heap_alloc_new _ _
 have HBX : Hid (∀ W', W0.grownBy W' none → W'.heap[w.heap.size]? = some (.cells #[.slice none 0 0, .int .i64 0, .int .i64 0] 50 (0, 0))) := fun W' hg => (hg.block _ (some_lt hbx0) (by simp)).trans hbx0
 have hlt := h.lt
 generalize hR : solveS (mkK V C order weak budget) = R at *
 have KS' := Kept.mk (show Calls Tryz.prog 37 #[.pointer (some ⟨bc, 1, none⟩), .int .i64 order, .bool weak, .int .i64 budget] W0 fun e w' => ∃ vS, e = .returned (.agg #[vS, .int .i64 R.ending, .int .i64 R.nodes]) ∧ LLT w' vS R.sols ∧ W0.grownBy w' none from KS.get)
 clear KS h h2 h3 hbx0 hdb hM hR
 go_enter Tryz.func29, Tryz.ntmps29
 go_wp2_with (go_at_call 37; rw [← hW0]; refine KS'.get.mono ?_; rintro e w3 ⟨vS, rfl, hL, hg3⟩; obtain ⟨sa, sc, hvS⟩ := hL.ll.is; subst hvS; have bb := HBX.out w3 hg3; have b0 := cell_of bb 0 _ rfl; have b1 := cell_of bb 1 _ rfl; have b2 := cell_of bb 2 _ rfl; have z0 := frozen_of bb 0; have z1 := frozen_of bb 1; have z2 := frozen_of bb 2; have l4 := some_lt bb)
 refine bodyPost_ret (results_cell_row rfl _ _ w.heap.size 50 #[.slice sa R.sols.length sc, .int .i64 R.ending, .int .i64 R.nodes] (0, 0) _ rfl (set3_at bb) Tryz.underlying50 rfl (by kernel_rfl)) rfl ?_
 exact ⟨_, rfl, hL.turn (keep3 bb), set3_grown (hg0.trans hg3) (Nat.le_refl _)⟩
def rngI (lo hi : Int) : List Int := (List.range (hi - lo + 1).toNat).map fun (k : Nat) => lo + (k : Int)
theorem rngI_mem (lo hi x : Int) : x ∈ rngI lo hi ↔ lo ≤ x ∧ x ≤ hi := by
 unfold rngI
 rw [List.mem_map]
 constructor
 ·rintro ⟨k, hk, rfl⟩
  rw [List.mem_range] at hk
  omega
 ·rintro ⟨h1, h2⟩
  exact ⟨(x - lo).toNat, by rw [List.mem_range]; omega, by omega⟩
theorem rngI_nodup (lo hi : Int) : (rngI lo hi).Nodup := by
 unfold rngI List.Nodup
 rw [List.pairwise_map]
 exact List.nodup_range.imp (fun h e => h (by omega))
def boxV : List (Int × Int) → List (List Int)
 | [] => [[]]
 | v :: vs => (rngI v.1 v.2).flatMap fun x => (boxV vs).map (x :: ·)
def bdV (vars : List QVar) : List (Int × Int) := vars.map fun v => (v.low, v.high)
theorem box_mem : ∀ (vars : List QVar) (x : List Int), x ∈ boxV (bdV vars) ↔ asgF vars x = true
 | [], x => by
  cases x with
  | nil => simp [boxV, bdV, asgF]
  | cons a x => simp [boxV, bdV, asgF]
 | v :: vs, x => by
  show x ∈ (rngI v.low v.high).flatMap (fun y => (boxV (bdV vs)).map (y :: ·)) ↔ _
  rw [List.mem_flatMap]
  constructor
  ·rintro ⟨y, hy, hx⟩
   obtain ⟨r, hr, rfl⟩ := List.mem_map.1 hx
   have h1 := (rngI_mem _ _ _).1 hy
   have h2 := (box_mem vs r).1 hr
   simp [asgF, inP, h1, h2]
  ·intro h
   cases x with
   | nil => simp [asgF] at h
   | cons y r =>
    simp only [asgF, Bool.and_eq_true, inP, decide_eq_true_eq] at h
    exact ⟨y, (rngI_mem _ _ _).2 h.1, List.mem_map.2 ⟨r, (box_mem vs r).2 h.2, rfl⟩⟩
theorem box_nodup : ∀ vs : List (Int × Int), (boxV vs).Nodup
 | [] => by simp [boxV]
 | v :: vs => by
  have ih := box_nodup vs
  unfold boxV List.Nodup
  rw [List.pairwise_flatMap]
  refine ⟨fun x _ => ?_, (rngI_nodup v.1 v.2).imp (fun {a b} hab r hr s hs e => ?_)⟩
  ·rw [List.pairwise_map]
   exact ih.imp (fun h e => h (by injection e))
  ·obtain ⟨r', _, rfl⟩ := List.mem_map.1 hr
   obtain ⟨s', _, rfl⟩ := List.mem_map.1 hs
   injection e with e1 e2
   exact hab e1
theorem cnt_rng {lo hi : Int} (h1 : -1000 ≤ lo) (h2 : hi ≤ 1000) : cntD (rngD lo hi) = (rngI lo hi).length := by
 rw [cntD_vals]
 refine List.Perm.length_eq ((List.perm_ext_iff_of_nodup ?_ (rngI_nodup lo hi)).2 (fun x => ?_))
 ·rw [valsD_eq]
  unfold List.Nodup
  rw [List.pairwise_map]
  exact (List.nodup_range.filter _).imp (fun h e => h (by omega))
 ·rw [valsD_mem, rngI_mem]
  constructor
  ·rintro ⟨p, hp, rfl, _⟩
   rw [rngD_bit _ _ h1] at hp
   simp at hp
   omega
  ·rintro ⟨q1, q2⟩
   refine ⟨(x + 1000).toNat, ?_, by omega, by omega⟩
   rw [rngD_bit _ _ h1]
   simp
   omega
theorem box_len : ∀ vs : List (Int × Int), (boxV vs).length = vs.foldr (fun v p => (rngI v.1 v.2).length * p) 1
 | [] => rfl
 | v :: vs => by
  have ih := box_len vs
  have key : ∀ (l : List Int), (l.flatMap fun x => (boxV vs).map (x :: ·)).length = l.length * (boxV vs).length := fun l => by
   induction l with
   | nil => simp
   | cons x l ih => rw [List.flatMap_cons, List.length_append, ih, List.length_map, List.length_cons, Nat.succ_mul, Nat.add_comm]
  show ((rngI v.1 v.2).flatMap fun x => (boxV vs).map (x :: ·)).length = (rngI v.1 v.2).length * vs.foldr (fun v p => (rngI v.1 v.2).length * p) 1
  rw [key, ih]
theorem prod_box : ∀ {V : List QVar}, (∀ v ∈ V, -1000 ≤ v.low ∧ v.low ≤ v.high ∧ v.high ≤ 1000) → prodV V = (boxV (bdV V)).length
 | [], _ => rfl
 | v :: V, h => by
  have ih := prod_box (V := V) (fun u hu => h u (by simp [hu]))
  rw [box_len] at ih ⊢
  have hv := h v (by simp)
  show cntD (rngD v.low v.high) * prodV V = (rngI v.low v.high).length * (bdV V).foldr (fun v p => (rngI v.1 v.2).length * p) 1
  rw [ih, cnt_rng hv.1 hv.2.2]
structure AllOf (V : List QVar) (C : List QCon) (order : Int) (r : SS) : Prop where
 ending : r.ending = 0
 perm : r.sols.Perm ((boxV (bdV V)).filter (suitsP V C))
 lex : order ≠ 1 → r.sols.Pairwise LexLt
theorem solve_all {V : List QVar} {C : List QCon} (hM : MdOk V C) (order : Int) (weak : Bool) (budget : Int) (hb : (V.length * (boxV (bdV V)).length + 1 : Int) ≤ budget) (hbox : (boxV (bdV V)).length < 100000) : AllOf V C order (solveS (mkK V C order weak budget)) ∧ 0 ≤ (solveS (mkK V C order weak budget)).nodes ∧ (solveS (mkK V C order weak budget)).nodes ≤ budget := by
 have s := solve_ok (mkK_ok (order := order) (weak := weak) (budget := budget) hM.vars hM.vlen hM.cons hM.clen)
 generalize solveS (mkK V C order weak budget) = r at *
 have hp : prodV (mkK V C order weak budget).vars = (boxV (bdV V)).length := prod_box hM.vars
 have hb0 : 0 ≤ budget := by
  have : (0 : Int) ≤ (V.length : Int) * ((boxV (bdV V)).length : Int) := Int.mul_nonneg (Int.natCast_nonneg _) (Int.natCast_nonneg _)
  omega
 have hmem : ∀ x ∈ r.sols, x ∈ boxV (bdV V) ∧ suitsP V C x = true := fun x hx => by
  have q : suitsP V C x = true := s.suits x hx
  exact ⟨(box_mem V x).2 (by unfold suitsP at q; simp at q; exact q.1), q⟩
 have hle : r.sols.length ≤ (boxV (bdV V)).length := by
  have q : r.sols.Perm ((boxV (bdV V)).filter (fun x => decide (x ∈ r.sols))) := (List.perm_ext_iff_of_nodup s.nd ((box_nodup _).filter _)).2 (fun x => by
   rw [List.mem_filter]
   exact ⟨fun h => ⟨(hmem x h).1, by simpa using h⟩, fun h => by simpa using h.2⟩)
  rw [q.length_eq]
  exact List.length_filter_le _ _
 refine ⟨?_, s.lo, s.hi hb0⟩
 rcases s.ends with ⟨e1, e2⟩ | ⟨e1, e2, e3⟩ | ⟨e1, e2, _⟩
 ·refine ⟨e1, (List.perm_ext_iff_of_nodup s.nd ((box_nodup _).filter _)).2 (fun x => ?_), s.lex⟩
  rw [List.mem_filter]
  exact ⟨fun h => hmem x h, fun h => e2 x h.2⟩
 ·rw [hp] at e3
  have e3 : r.nodes < (V.length : Int) * ((boxV (bdV V)).length : Int) + 1 := e3
  have e2 : budget ≤ r.nodes := e2
  omega
 ·omega
end
section
set_option maxHeartbeats 4000000
set_option maxRecDepth 100000
open Go.RowKit
variable {w w' : World}
def A45 : List (AS × List Pc) := [(.var [120] 4 5, [])]
theorem itoa_dig {k : Nat} (h : k < 10) : Lib.itoa (k : Int) = [UInt8.ofNat (48 + k)] := by
 unfold Lib.itoa
 rw [if_neg (by omega)]
 exact Lib.decDigits_one h
theorem A45_src : bn (srcA A45) = ⟨#[118, 97, 114, 32, 120, 58, 32, 52, 46, 46, 53, 59]⟩ := by
 have e4 : Lib.itoa 4 = [52] := itoa_dig (k := 4) (by decide)
 have e5 : Lib.itoa 5 = [53] := itoa_dig (k := 5) (by decide)
 show bn ([118, 97, 114] ++ ([32] ++ ([120] ++ ([58] ++ ([32] ++ (Lib.itoa 4 ++ ([46, 46] ++ (Lib.itoa 5 ++ ([59] ++ []))))))))) = _
 rw [e4, e5]
 rfl
theorem A45_ok : textOk A45 := fun p hp => by
 have : p = (.var [120] 4 5, []) := by simpa [A45] using hp
 subst this
 exact ⟨⟨⟨rfl, rfl⟩, ⟨by decide, by decide⟩, ⟨by decide, by decide⟩⟩, rfl⟩
theorem A45_fine : allFine E0 A45 := ⟨⟨⟨(fun p hp => by cases hp), (fun p hp => by cases hp)⟩, by decide, by decide, by decide, by decide⟩, trivial⟩
theorem lex_two {l : List (List Int)} {a b : List Int} (h : l.Perm [a, b]) (hp : l.Pairwise LexLt) (hn : ¬ LexLt b a) : l = [a, b] := by
 have hl := h.length_eq
 match l, hl with
 | [x, y], _ =>
  have hx : x ∈ [a, b] := h.mem_iff.1 (by simp)
  have hy : y ∈ [a, b] := h.mem_iff.1 (by simp)
  have hlt : LexLt x y := by simpa using hp
  have ha : a ∈ [x, y] := h.mem_iff.2 (by simp)
  have hb : b ∈ [x, y] := h.mem_iff.2 (by simp)
  simp only [List.mem_cons, List.not_mem_nil, or_false] at hx hy ha hb
  rcases hx with rfl | rfl
  ·rcases hy with rfl | rfl
   ·rcases hb with rfl | rfl <;> rfl
   ·rfl
  ·rcases hy with rfl | rfl
   ·exact absurd hlt hn
   ·rcases ha with rfl | rfl <;> rfl
theorem found_two {weak : Bool} : (solveS (mkK [⟨bn [120], 4, 5⟩] [] 0 weak 10)).sols = [[4], [5]] := by
 have hM : MdOk [⟨bn [120], 4, 5⟩] [] := by
  have q := src_ok A45_ok A45_fine (by have e := congrArg ByteArray.size A45_src; rw [bn_size] at e; rw [e]; decide)
  exact q
 obtain ⟨h1, _, _⟩ := solve_all hM 0 weak 10 (by decide) (by decide)
 have e : (boxV (bdV [⟨bn [120], 4, 5⟩])).filter (suitsP [⟨bn [120], 4, 5⟩] []) = [[4], [5]] := by decide
 have hp := h1.perm
 rw [e] at hp
 refine lex_two hp (h1.lex (by decide)) ?_
 rintro ⟨k, h1, h2⟩
 match k with
 | 0 => exact absurd h2 (by decide)
 | k + 1 => simp at h2
theorem ValsIn.cells {u : Value} {r : List Int} (h : ValsIn w u r) (hne : r ≠ []) : ∃ gv cv, u = .slice (some ⟨gv, 0, none⟩) r.length cv ∧ gv < w.heap.size ∧ ∀ (j : Nat) (x : Int), r[j]? = some x → w.cell? ⟨gv, j, none⟩ = some (.int .i64 x) := by
 rcases h with ⟨e, _⟩ | ⟨gv, cv, hR⟩
 ·exact absurd e hne
 ·refine ⟨gv, cv, hR.is, hR.lt, fun j x hx => ?_⟩
  have q := hR.at (sz := 1) (fun _ => rfl) hx 0 _ rfl
  rw [Nat.mul_one] at q
  exact q
theorem LL.row {a : Option Addr} {n c : Nat} {rows : List (List Int)} (h : LL w (.slice a n c) rows) {i : Nat} {r : List Int} (hr : rows[i]? = some r) (hne : r ≠ []) : ∃ g gv cv, a = some ⟨g, 0, none⟩ ∧ g < w.heap.size ∧ w.cell? ⟨g, i, none⟩ = some (.slice (some ⟨gv, 0, none⟩) r.length cv) ∧ gv < w.heap.size ∧ ∀ (j : Nat) (x : Int), r[j]? = some x → w.cell? ⟨gv, j, none⟩ = some (.int .i64 x) := by
 obtain ⟨g, u, e, h1, h2, h3⟩ := h.at_ hr
 obtain ⟨gv, cv, rfl, h4, h5⟩ := h3.cells hne
 exact ⟨g, gv, cv, e, h1, h2, h4, h5⟩
theorem kp_found {b : Nat} {V : List QVar} {C : List QCon} {t : List UInt8} (h : MdAt w b V C t) (hM : MdOk V C) (ht : PowTab w) (hdb : DbTab w) (order : Int) (weak : Bool) (ho1 : -9223372036854775808 ≤ order) (ho2 : order ≤ 9223372036854775807) (hb : (V.length * (boxV (bdV V)).length + 1 : Int) ≤ 1000000) (hbox : (boxV (bdV V)).length < 100000) : Calls Tryz.prog 22 #[.pointer (some ⟨b, 0, none⟩), .int .i64 order, .bool weak] w fun e w' => ∃ vS, e = .returned (.tuple #[vS, .bool true]) ∧ LLT w' vS (solveS (mkK V C (pickI order 2) weak 1000000)).sols ∧ w.grownBy w' none := by
 have hlen : (srcA A45).length ≤ 2000 := by have e := congrArg ByteArray.size A45_src; rw [bn_size] at e; rw [e]; decide
 have KM := Kept.mk (kp_model A45 A45_ok A45_fine hlen w ht)
 rw [A45_src] at KM
 have hM0 := src_ok A45_ok A45_fine hlen
 have KQ := Kept.mk (fun {W : World} {b0 : Nat} {t0 : List UInt8} (hg : w.grownBy W none) (hm : MdAt W b0 ((envOf E0 A45).V.map qv) (envOf E0 A45).C t0) => md_Solve hm hM0 (db_grown hdb hg) 0 weak 10 (by decide))
 have KR := Kept.mk (fun {W : World} (hg : w.grownBy W none) => md_Solve (h.grown hg) hM (db_grown hdb hg) (pickI order 2) weak 1000000 (by decide))
 have KP := Kept.mk (fun W => kp_pick order 2 W ho1 ho2 (by decide) (by decide))
 have hf2 := found_two (weak := weak)
 have e2 : (envOf E0 A45).V.map qv = [⟨bn [120], 4, 5⟩] := rfl
 have e3 : (envOf E0 A45).C = [] := rfl
 rw [e2, e3] at KQ
 rw [e2, e3] at KM
 obtain ⟨hA, hn0, hn1⟩ := solve_all hM (pickI order 2) weak 1000000 hb hbox
 have hend := hA.ending
 rw [hend] at KR
 generalize solveS (mkK V C (pickI order 2) weak 1000000) = R at *
 generalize hQ : solveS (mkK [⟨bn [120], 4, 5⟩] [] 0 weak 10) = Q at *
 have hrow : Q.sols.length = 2 := by rw [hf2]; rfl
 have HROW : Hid (Q.sols[0]? = some [4]) := by rw [Hid, hf2]; rfl
 generalize pickI order 2 = PO at *
 clear h hM ht hdb hA hend hf2 hM0 hlen hQ e2 e3
 go_enter Tryz.func22, Tryz.ntmps22
 go_wp2_with (first | (go_at_call 21; refine KM.get.mono ?_; rintro e w1 ⟨b0, rfl, hb0, hm1, hg1⟩) | (go_at_call 29; refine (KQ.get hg1 hm1).mono ?_; rintro e w2 ⟨vQ, rfl, hL2, hg2⟩; obtain ⟨qa, qc, hvQ⟩ := hL2.ll.is; subst hvQ; obtain ⟨g, gv, cv, rfl, q1, q2, q3, q4⟩ := hL2.ll.row HROW.out (by simp); have q5 := q4 0 4 rfl; clear q4 hL2))
 have hgA := ((hg1.trans hg2).trans (World.grownBy_alloc w2 (.cells #[.slice (some ⟨g, 0, none⟩) 2 qc, .int .i64 Q.ending, .int .i64 Q.nodes] 50) none))
 generalize w2.alloc (.cells #[.slice (some ⟨g, 0, none⟩) 2 qc, .int .i64 Q.ending, .int .i64 Q.nodes] 50) = W5 at *
 clear q1 q2 q3 q5 KQ KM hg1 hg2 hm1
 go_wp2_with (first | (go_at_call 16; refine (KP.get _).mono ?_; rintro e w6 ⟨rfl, rfl⟩) | (go_at_call 29; refine (KR.get hgA).mono ?_; rintro e w4 ⟨vR, rfl, hL4, hg4⟩; obtain ⟨ra, rc, hvR⟩ := hL4.ll.is; subst hvR))
 go_quiet (fail)
 go_wp2
 go_ret2
 exact ⟨_, rfl, (hL4.grown (World.grownBy_alloc _ _ _)).grown (grown_drewN' _ _ _), ((hgA.trans hg4).trans (World.grownBy_alloc _ _ _)).trans (grown_drewN' _ _ _)⟩
end
section
open Go.RowKit
theorem textPc_app : ∀ A B : List (AS × List Pc), textPc (A ++ B) = textPc A ++ textPc B
 | [], B => rfl
 | (a, b) :: r, B => by
  show a.pcs ++ (.sg [59] :: (b ++ textPc (r ++ B))) = (a.pcs ++ (.sg [59] :: (b ++ textPc r))) ++ textPc B
  rw [textPc_app r B]
  simp [List.append_assoc]
theorem srcA_app (A B : List (AS × List Pc)) : srcA (A ++ B) = srcA A ++ srcA B := by unfold srcA; rw [textPc_app, bytesP_app]
theorem srcA_one (a : AS) (b : List Pc) : srcA [(a, b)] = bytesP a.pcs ++ (59 :: bytesP b) := by
 show bytesP (a.pcs ++ (.sg [59] :: (b ++ []))) = _
 rw [List.append_nil, bytesP_app, bytesP_cons]
 rfl
theorem textOk_app {A B : List (AS × List Pc)} (h : textOk A) (k : textOk B) : textOk (A ++ B) := fun p hp => by
 rcases List.mem_append.1 hp with q | q
 ·exact h p q
 ·exact k p q
theorem dec_inj {u v : Nat} (h : Lib.decDigits u = Lib.decDigits v) : u = v := by
 have h1 := numTo_dec u
 have h2 := numTo_dec v
 rw [h, h2] at h1
 omega
theorem itoa_nat (k : Nat) : Lib.itoa (k : Int) = Lib.decDigits k := by
 unfold Lib.itoa
 rw [if_neg (by omega)]
 rfl
theorem nmK_inj {j k : Nat} (h : nmK j = nmK k) : j = k := by
 unfold nmK at h
 rw [itoa_nat, itoa_nat] at h
 injection h with _ h
 exact dec_inj h
theorem nmK_dig {k : Nat} (h : k < 10) : nmK k = [120, UInt8.ofNat (48 + k)] := by unfold nmK; rw [itoa_dig h]
theorem nmK_ok {k : Nat} (h : k < 10) : nmOk (nmK k) := by
 rw [nmK_dig h]
 have : k = 0 ∨ k = 1 ∨ k = 2 ∨ k = 3 ∨ k = 4 ∨ k = 5 ∨ k = 6 ∨ k = 7 ∨ k = 8 ∨ k = 9 := by omega
 rcases this with rfl | rfl | rfl | rfl | rfl | rfl | rfl | rfl | rfl | rfl <;> exact ⟨rfl, rfl⟩
def VN (n : Nat) (lo hi : Int) : List (List UInt8 × Int × Int) := (List.range n).map fun k => (nmK k, lo, hi)
theorem VN_succ (n : Nat) (lo hi : Int) : VN (n + 1) lo hi = VN n lo hi ++ [(nmK n, lo, hi)] := by simp [VN, List.range_succ]
theorem VN_len (n : Nat) (lo hi : Int) : (VN n lo hi).length = n := by simp [VN]
theorem VN_mem {n : Nat} {lo hi : Int} {p : List UInt8 × Int × Int} (h : p ∈ VN n lo hi) : ∃ k, k < n ∧ p = (nmK k, lo, hi) := by
 obtain ⟨k, hk, rfl⟩ := List.mem_map.1 h
 exact ⟨k, List.mem_range.1 hk, rfl⟩
theorem VN_in {n k : Nat} {lo hi : Int} (h : k < n) : (nmK k, lo, hi) ∈ VN n lo hi := List.mem_map.2 ⟨k, List.mem_range.2 h, rfl⟩
theorem inV_nm {n k : Nat} {lo hi : Int} {L : List (List UInt8 × List Int)} {C : List QCon} (h : k < n) : (Env.mk (VN n lo hi) L C).inV (nmK k) := ⟨_, VN_in h, rfl⟩
theorem ix_nm {n : Nat} {lo hi : Int} {L : List (List UInt8 × List Int)} {C : List QCon} : ∀ {k : Nat}, k < n → (Env.mk (VN n lo hi) L C).ix (nmK k) = k := by
 induction n with
 | zero => intro k h; omega
 | succ n ih =>
  intro k h
  by_cases e : k = n
  ·subst e
   rw [VN_succ]
   have q := ix_new (E := Env.mk (VN k lo hi) L C) (n := nmK k) (fun p hp e => by
    obtain ⟨j, hj, rfl⟩ := VN_mem hp
    have := nmK_inj e
    omega) lo hi L C
   rw [q]
   exact VN_len k lo hi
  ·rw [VN_succ]
   have q := ix_old (E := Env.mk (VN n lo hi) L C) (n := nmK k) (inV_nm (by omega)) (nmK n, lo, hi) L C
   rw [q]
   exact ih (by omega)
theorem varsA_env (lo hi : Int) : ∀ n : Nat, envOf E0 (varsA lo hi n) = ⟨VN n lo hi, [], []⟩
 | 0 => rfl
 | n + 1 => by
  show envOf E0 (varsA lo hi n ++ [(.var (nmK n) lo hi, [.nl])]) = _
  rw [envOf_app, varsA_env lo hi n, VN_succ]
  rfl
theorem varsA_fine {lo hi : Int} (h1 : -1000 ≤ lo) (h2 : lo ≤ hi) (h3 : hi ≤ 1000) : ∀ n : Nat, n ≤ 8 → allFine E0 (varsA lo hi n)
 | 0, _ => trivial
 | n + 1, h => by
  refine allFine_app (varsA_fine h1 h2 h3 n (by omega)) ?_
  rw [varsA_env]
  refine ⟨⟨⟨fun p hp e => ?_, fun p hp => by cases hp⟩, ?_, h1, h2, h3⟩, trivial⟩
  ·obtain ⟨j, hj, rfl⟩ := VN_mem hp
   have := nmK_inj e
   omega
  ·show (VN n lo hi).length < 8
   rw [VN_len]; omega
theorem varsA_ok {lo hi : Int} (h1 : -1000 ≤ lo) (h2 : lo ≤ hi) (h3 : hi ≤ 1000) : ∀ n : Nat, n ≤ 8 → textOk (varsA lo hi n)
 | 0, _ => fun p hp => by cases hp
 | n + 1, h => by
  refine textOk_app (varsA_ok h1 h2 h3 n (by omega)) (fun p hp => ?_)
  have : p = (.var (nmK n) lo hi, [.nl]) := by simpa using hp
  subst this
  exact ⟨⟨nmK_ok (by omega), ⟨by omega, by omega⟩, ⟨by omega, by omega⟩⟩, rfl⟩
theorem varsA_src (lo hi : Int) : ∀ n : Nat, srcA (varsA lo hi n) = varsB lo hi n
 | 0 => rfl
 | n + 1 => by
  show srcA (varsA lo hi n ++ [(.var (nmK n) lo hi, [.nl])]) = varsB lo hi n ++ varB n lo hi
  rw [srcA_app, varsA_src lo hi n, srcA_one]
  congr 1
  simp [bytesP, AS.pcs, Pc.bytes, varB]
end
section
open Go.RowKit
theorem asg_all {lo hi : Int} : ∀ {vars : List QVar} {x : List Int}, (∀ v ∈ vars, v.low = lo ∧ v.high = hi) → (asgF vars x = true ↔ x.length = vars.length ∧ ∀ a ∈ x, lo ≤ a ∧ a ≤ hi)
 | [], [], _ => by simp [asgF]
 | [], a :: x, _ => by simp [asgF]
 | v :: vs, [], _ => by simp [asgF]
 | v :: vs, a :: x, h => by
  obtain ⟨h1, h2⟩ := h v (by simp)
  have ih := asg_all (vars := vs) (x := x) (fun u hu => h u (by simp [hu]))
  simp only [asgF, inP, Bool.and_eq_true, decide_eq_true_eq, ih, h1, h2, List.length_cons, List.mem_cons]
  constructor
  ·rintro ⟨q1, q2, q3⟩
   exact ⟨by omega, fun b hb => by rcases hb with rfl | hb; exact q1; exact q3 b hb⟩
  ·rintro ⟨q1, q2⟩
   exact ⟨q2 a (.inl rfl), by omega, fun b hb => q2 b (.inr hb)⟩
end
section
set_option maxRecDepth 100000
open Go.RowKit
def tms (n : Nat) : List AT := (List.range n).map fun k => ⟨false, none, nmK (k + 1)⟩
def tB : Nat → List UInt8
 | 0 => []
 | k + 1 => tB k ++ ((if k = 0 then [] else [32, 43, 32]) ++ nmK k)
theorem sumPc_app : ∀ a b : List AT, sumPc (a ++ b) = sumPc a ++ sumPc b
 | [], b => rfl
 | t :: a, b => by
  show .sp :: .sg (if t.neg then [45] else [43]) :: .sp :: (t.body ++ sumPc (a ++ b)) = (.sp :: .sg (if t.neg then [45] else [43]) :: .sp :: (t.body ++ sumPc a)) ++ sumPc b
  rw [sumPc_app a b]
  simp [List.append_assoc]
theorem sum_src : ∀ n : Nat, nmK 0 ++ bytesP (sumPc (tms n)) = tB (n + 1)
 | 0 => by simp [tms, sumPc, bytesP, tB]
 | n + 1 => by
  have e : tms (n + 1) = tms n ++ [⟨false, none, nmK (n + 1)⟩] := by simp [tms, List.range_succ]
  rw [e, sumPc_app, bytesP_app, ← List.append_assoc, sum_src n]
  show tB (n + 1) ++ _ = tB (n + 1) ++ ((if n + 1 = 0 then [] else [32, 43, 32]) ++ nmK (n + 1))
  congr 1
  rw [if_neg (by omega)]
  simp [sumPc, AT.body, bytesP, Pc.bytes]
theorem tB_len : ∀ {k : Nat}, k ≤ 10 → (tB k).length ≤ 18 * k
 | 0, _ => Nat.le_refl _
 | k + 1, h => by
  have h1 := tB_len (k := k) (by omega)
  have h2 := nmK_len (k := k) (by omega)
  simp only [tB, List.length_append]
  split <;> simp <;> omega
def smL (n rel : Nat) (m : Int) : AS := .lin ⟨false, none, nmK 0⟩ (tms (n - 1)) rel m
def smA (n rel : Nat) (m : Int) : List (AS × List Pc) := varsA 0 3 n ++ [(smL n rel m, [])]
def smB (n rel : Nat) (m : Int) : List UInt8 := varsB 0 3 n ++ ([108, 105, 110, 32] ++ (tB n ++ ([32] ++ (relB rel ++ ([32] ++ (Lib.itoa m ++ [59]))))))
theorem smA_src {n : Nat} (h1 : 1 ≤ n) (rel : Nat) (m : Int) : srcA (smA n rel m) = smB n rel m := by
 obtain ⟨k, rfl⟩ : ∃ k, n = k + 1 := ⟨n - 1, by omega⟩
 unfold smA smB
 rw [srcA_app, varsA_src, srcA_one, ← sum_src k]
 show varsB 0 3 (k + 1) ++ (bytesP (.word [108, 105, 110] :: .sp :: linPc ⟨false, none, nmK 0⟩ (tms k) rel m) ++ [59]) = _
 unfold linPc
 rw [bytesP_cons, bytesP_cons, bytesP_app, bytesP_app]
 simp [AT.body, bytesP, Pc.bytes]
theorem smB_len {n rel : Nat} {m : Int} (hn : n ≤ 5) (m1 : -100 ≤ m) (m2 : m ≤ 100) : (smB n rel m).length ≤ 500 := by
 have a := varsB_len (lo := 0) (hi := 3) (itoa_len (by omega) (by omega)) (itoa_len (by omega) (by omega)) (k := n) (by omega)
 have b := tB_len (k := n) (by omega)
 have c := itoa_len (m := m) (by omega) (by omega)
 have d : (relB rel).length ≤ 2 := by unfold relB; split <;> decide
 simp [smB]; omega
theorem sm_nm {n k : Nat} {t : AT} (h1 : 1 ≤ n) (ht : t ∈ (⟨false, none, nmK 0⟩ : AT) :: tms (n - 1)) : t.f = none ∧ ∃ k, k < n ∧ t.n = nmK k := by
 rcases List.mem_cons.1 ht with rfl | q
 ·exact ⟨rfl, 0, by omega, rfl⟩
 ·obtain ⟨k, hk, rfl⟩ := List.mem_map.1 q
  exact ⟨rfl, k + 1, by have := List.mem_range.1 hk; omega, rfl⟩
theorem smA_ok {n rel : Nat} {m : Int} (h1 : 1 ≤ n) (hn : n ≤ 8) (m1 : -100 ≤ m) (m2 : m ≤ 100) : textOk (smA n rel m) := by
 refine textOk_app (varsA_ok (by omega) (by omega) (by omega) n hn) (fun p hp => ?_)
 obtain rfl : p = (smL n rel m, []) := by simpa using hp
 have ok : ∀ t ∈ (⟨false, none, nmK 0⟩ : AT) :: tms (n - 1), t.ok := fun t ht => by
  obtain ⟨q1, k, hk, e⟩ := sm_nm (k := 0) h1 ht
  exact ⟨by rw [e]; exact nmK_ok (by omega), fun f hf => by rw [q1] at hf; cases hf⟩
 exact ⟨⟨ok _ (by simp), fun u hu => ok u (by simp [hu]), ⟨by omega, by omega⟩, rfl⟩, rfl⟩
def smC (n rel : Nat) (m : Int) : QCon := ⟨0, 0, (List.range n).map fun k : Nat => ((k : Int), 1), relI rel, m, [], 0, 0, [], []⟩
theorem smA_env {n rel : Nat} {m : Int} (h1 : 1 ≤ n) : envOf E0 (smA n rel m) = ⟨VN n 0 3, [], [smC n rel m]⟩ := by
 obtain ⟨j, rfl⟩ : ∃ j, n = j + 1 := ⟨n - 1, by omega⟩
 unfold smA
 rw [envOf_app, varsA_env]
 show (⟨VN (j + 1) 0 3, [], [] ++ [QCon.mk 0 0 ((Env.mk (VN (j + 1) 0 3) [] []).terms ((⟨false, none, nmK 0⟩ : AT) :: tms j)) (relI rel) m [] 0 0 [] []]⟩ : Env) = _
 have e : (Env.mk (VN (j + 1) 0 3) [] []).terms ((⟨false, none, nmK 0⟩ : AT) :: tms j) = (List.range (j + 1)).map fun k : Nat => ((k : Int), 1) := by
  have e1 : (⟨false, none, nmK 0⟩ : AT) :: tms j = (List.range (j + 1)).map fun k => (⟨false, none, nmK k⟩ : AT) := by rw [List.range_succ_eq_map]; simp [tms]
  unfold Env.terms
  rw [e1, List.map_map]
  refine List.map_congr_left (fun k hk => ?_)
  show (((Env.mk (VN (j + 1) 0 3) [] []).ix (nmK k) : Int), (1 : Int)) = _
  rw [ix_nm (List.mem_range.1 hk)]
 rw [e]
 rfl
theorem smA_fine {n rel : Nat} {m : Int} (h1 : 1 ≤ n) (hn : n ≤ 8) (m1 : -100 ≤ m) (m2 : m ≤ 100) : allFine E0 (smA n rel m) := by
 refine allFine_app (varsA_fine (by omega) (by omega) (by omega) n hn) ?_
 rw [varsA_env]
 refine ⟨⟨by simp, by simp [tms]; omega, fun t ht => ?_, by omega, by omega⟩, trivial⟩
 obtain ⟨q1, k, hk, e⟩ := sm_nm (k := 0) h1 ht
 exact ⟨by rw [e]; exact inV_nm hk, fun f hf => by rw [q1] at hf; cases hf⟩
def sV (n : Nat) : List QVar := (VN n 0 3).map qv
theorem sV_len (n : Nat) : (sV n).length = n := by unfold sV; rw [List.length_map, VN_len]
theorem sV_bd (n : Nat) : bdV (sV n) = List.replicate n (0, 3) := by
 apply List.eq_replicate_iff.2
 refine ⟨by simp [bdV, sV_len], fun p hp => ?_⟩
 obtain ⟨v, hv, rfl⟩ := List.mem_map.1 hp
 obtain ⟨q, hq, rfl⟩ := List.mem_map.1 hv
 obtain ⟨k, _, rfl⟩ := VN_mem hq
 rfl
def sumL : List Int → Int
 | [] => 0
 | x :: r => x + sumL r
theorem sumP_all (r : List Int) : sumP r ((List.range r.length).map fun k : Nat => ((k : Int), 1)) = sumL r := by
 unfold sumP
 rw [List.foldl_map]
 have key : ∀ (q r : List Int) (s : Int), (List.range' q.length r.length).foldl (fun s k => s + 1 * vAt (q ++ r) ((k : Nat) : Int)) s = s + sumL r := by
  intro q r
  induction r generalizing q with
  | nil => intro s; simp [sumL]
  | cons x r ih =>
   intro s
   rw [List.length_cons, List.range'_succ, List.foldl_cons]
   have e : q ++ x :: r = (q ++ [x]) ++ r := by simp
   have e2 : vAt (q ++ x :: r) ((q.length : Nat) : Int) = x := by simp [vAt]
   have e3 : q.length + 1 = (q ++ [x]).length := by simp
   rw [e2, e, e3, ih (q ++ [x])]
   simp only [sumL]
   omega
 have := key [] r 0
 simpa [List.range_eq_range'] using this
def inB (W : List Int) (a : Nat) : Nat → List Int → List Int
 | 0, N => N
 | b + 1, N => (inB W a b N).set (a + b) ((inB W a b N).getD (a + b) 0 + W.getD a 0)
def inA (W : List Int) : Nat → List Int → List Int
 | 0, N => N
 | a + 1, N => inB W a 4 (inA W a N)
def wy (M : Nat) : Nat → List Int
 | 0 => (List.replicate M 0).set 0 1
 | k + 1 => inA (wy M k) (3 * k + 1) (List.replicate M 0)
def blw (W : List Int) : Nat → Int
 | 0 => 0
 | j + 1 => blw W j + W.getD j 0
theorem inB_len (W : List Int) (a : Nat) : ∀ (b : Nat) (N : List Int), (inB W a b N).length = N.length
 | 0, N => rfl
 | b + 1, N => by simp [inB, inB_len W a b N]
theorem inA_len (W : List Int) : ∀ (a : Nat) (N : List Int), (inA W a N).length = N.length
 | 0, N => rfl
 | a + 1, N => by simp [inA, inB_len, inA_len W a N]
theorem wy_len (M : Nat) : ∀ k, (wy M k).length = M
 | 0 => by simp [wy]
 | k + 1 => by simp [wy, inA_len]
def wantI (n : Nat) (m : Int) : Int := if 0 ≤ m ∧ m ≤ 3 * n then (wy (3 * n + 4) n).getD m.toNat 0 else 0
def belI (n : Nat) (m : Int) : Int := blw (wy (3 * n + 4) n) (min (m + 1).toNat (3 * n + 1))
def rightI (n rel : Nat) (m : Int) : Int := match rel with
 | 0 => wantI n m
 | 1 => 4 ^ n - wantI n m
 | _ => belI n m
def cntS (n rel : Nat) (m : Int) : Nat := ((boxV (List.replicate n (0, 3))).filter fun r => relP (relI rel) (sumL r) m).length
def chkS (n : Nat) : Bool := (List.range (3 * n + 3)).all fun j => (List.range 3).all fun rel => (cntS n rel ((j : Int) - 1) : Int) == rightI n rel ((j : Int) - 1)
theorem chk_1 : chkS 1 = true := by decide +kernel
theorem chk_2 : chkS 2 = true := by decide +kernel
theorem chk_3 : chkS 3 = true := by decide +kernel
theorem chk_4 : chkS 4 = true := by decide +kernel
theorem chk_5 : chkS 5 = true := by decide +kernel
theorem chk_all {n : Nat} (h1 : 1 ≤ n) (hn : n ≤ 5) {rel : Nat} (hr : rel < 3) {m : Int} (m1 : -1 ≤ m) (m2 : m ≤ 3 * n + 1) : (cntS n rel m : Int) = rightI n rel m := by
 have h : chkS n = true := by
  have : n = 1 ∨ n = 2 ∨ n = 3 ∨ n = 4 ∨ n = 5 := by omega
  rcases this with rfl | rfl | rfl | rfl | rfl
  ·exact chk_1
  ·exact chk_2
  ·exact chk_3
  ·exact chk_4
  ·exact chk_5
 unfold chkS at h
 rw [List.all_eq_true] at h
 have q := h (m + 1).toNat (List.mem_range.2 (by omega))
 rw [List.all_eq_true] at q
 have q := q rel (List.mem_range.2 hr)
 have e : (((m + 1).toNat : Nat) : Int) - 1 = m := by omega
 rw [e] at q
 simpa using q
theorem s_count {n : Nat} (h1 : 1 ≤ n) (hn : n ≤ 5) {rel : Nat} (hr : rel < 3) {m : Int} (m1 : -1 ≤ m) (m2 : m ≤ 3 * n + 1) {l : List (List Int)} (h : l.Perm ((boxV (bdV (sV n))).filter (suitsP (sV n) [smC n rel m]))) : (l.length : Int) = rightI n rel m := by
 rw [h.length_eq, ← chk_all h1 hn hr m1 m2]
 unfold cntS
 rw [← sV_bd]
 congr 2
 apply List.filter_congr
 intro r hr
 have q := (box_mem _ _).1 hr
 have e := (asg_all (vars := sV n) (lo := 0) (hi := 3) (x := r) (fun v hv => by
  obtain ⟨p, hp, rfl⟩ := List.mem_map.1 hv
  obtain ⟨k, _, rfl⟩ := VN_mem hp
  exact ⟨rfl, rfl⟩)).1 q
 rw [sV_len] at e
 unfold suitsP
 rw [q]
 show (true && (conP r (smC n rel m) && true)) = _
 rw [Bool.true_and, Bool.and_true]
 show relP (relI rel) (sumP r ((List.range n).map fun k : Nat => ((k : Int), 1))) m = _
 rw [← e.1, sumP_all]
theorem s_box {n : Nat} (h1 : 1 ≤ n) (hn : n ≤ 5) : (n * (boxV (bdV (sV n))).length + 1 : Int) ≤ 1000000 ∧ (boxV (bdV (sV n))).length < 100000 := by
 rw [box_len, sV_bd]
 have : n = 1 ∨ n = 2 ∨ n = 3 ∨ n = 4 ∨ n = 5 := by omega
 rcases this with rfl | rfl | rfl | rfl | rfl <;> decide
end
section
open Go.RowKit
variable {w w' : World}
def ap (a b : List UInt8) : List UInt8 := a ++ b
theorem ap_len (a b : List UInt8) : (ap a b).length = a.length + b.length := List.length_append
theorem bn_ap (a b : List UInt8) : bn a ++ bn b = bn (ap a b) := bn_app a b
theorem bn_mk_ap (a : List UInt8) (xs : Array UInt8) : bn a ++ ⟨xs⟩ = bn (ap a xs.toList) := bn_app a xs.toList
theorem mk_bn_ap (a : List UInt8) (xs : Array UInt8) : (⟨xs⟩ : ByteArray) ++ bn a = bn (ap xs.toList a) := bn_app xs.toList a
attribute [local go_sem] bn_ap bn_mk_ap mk_bn_ap bn_size mk_size ap_len List.length_cons List.length_nil
end
section
open Go.RowKit
variable {w w' wr : World}
def MF (w : World) (T : List UInt8) (order : Int) (weak : Bool) (rows : List (List Int)) : Prop := ∀ W, w.grownBy W none → Calls Tryz.prog 21 #[.string (bn T)] W fun e w' => ∃ b, e = .returned (.pointer (some ⟨b, 0, none⟩)) ∧ W.grownBy w' none ∧ ∀ W2, w'.grownBy W2 none → Calls Tryz.prog 22 #[.pointer (some ⟨b, 0, none⟩), .int .i64 order, .bool weak] W2 fun e w3 => ∃ vS, e = .returned (.tuple #[vS, .bool true]) ∧ LLT w3 vS rows ∧ W2.grownBy w3 none
attribute [local go_sem] bn_ap bn_mk_ap mk_bn_ap bn_size mk_size ap_len List.length_cons List.length_nil
end
section
open Go.RowKit
variable {w w' wr : World}
def intV (l : List Int) : List Value := l.map (Value.int .i64)
attribute [local go_sem] bn_ap bn_mk_ap mk_bn_ap bn_size mk_size ap_len List.length_cons List.length_nil
end
section
set_option maxHeartbeats 8000000
set_option maxRecDepth 100000
open Go.RowKit
variable {w w' wr : World}
theorem made_zeros (M : Nat) : (madeCells #[Value.int .i64 0] M).toList = intV (List.replicate M 0) := by
 apply List.ext_getElem
 ·simp [size_madeCells, intV]
 ·intro i h1 h2
  have e : i % 1 = 0 := Nat.mod_one i
  simp [madeCells, intV, e]
theorem own_zeros {B : Nat} (W : World) (M : Nat) (hB : B ≤ W.heap.size) (hM : M ≤ 100) : (W.alloc (.cells (madeCells #[.int .i64 0] M) 3)).ownsRow B 3 1 (.slice (some ⟨W.heap.size, 0, none⟩) M M) M (intV (List.replicate M 0)) :=
 ⟨by simp [intV], .inr ⟨W.heap.size, M, _, rfl, hB, heap_alloc_new W _, Nat.le_refl _, by unfold maxLen; omega, by rw [size_madeCells, Nat.mul_one], by rw [made_zeros, Nat.mul_one]; exact List.take_of_length_le (by simp [intV])⟩⟩
theorem intV_set (l : List Int) (i : Nat) (x : Int) : (intV l).set i (.int .i64 x) = intV (l.set i x) := by simp [intV]
theorem intV_at {l : List Int} {i : Nat} (h : i < l.length) : (intV l)[i]? = some (.int .i64 (l.getD i 0)) := by
 unfold intV
 rw [List.getElem?_map, List.getElem?_eq_getElem h]
 simp [h]
theorem own_first {B : Nat} (W : World) (M : Nat) (hB : B ≤ W.heap.size) (hM : M ≤ 100) : (W.alloc (.cells ((madeCells #[.int .i64 0] M).setIfInBounds 0 (.int .i64 1)) 3)).ownsRow B 3 1 (.slice (some ⟨W.heap.size, 0, none⟩) M M) M (intV (wy M 0)) :=
 ⟨by simp [intV, wy], .inr ⟨W.heap.size, M, _, rfl, hB, heap_alloc_new W _, Nat.le_refl _, by unfold maxLen; omega, by rw [Array.size_setIfInBounds, size_madeCells, Nat.mul_one], by rw [Array.toList_setIfInBounds, made_zeros, intV_set, Nat.mul_one]; exact List.take_of_length_le (by simp [intV])⟩⟩
def bdW1 (l : List Int) : Bool := l.all fun x => decide (0 ≤ x) && decide (x ≤ 1024)
def bdW (n : Nat) : Bool := (List.range (n + 1)).all fun k => bdW1 (wy (3 * n + 4) k) && ((List.range (3 * k + 1)).all fun a => (List.range 5).all fun b => bdW1 (inB (wy (3 * n + 4) k) a b (inA (wy (3 * n + 4) k) a (List.replicate (3 * n + 4) 0))))
theorem bd_1 : bdW 1 = true := by decide +kernel
theorem bd_2 : bdW 2 = true := by decide +kernel
theorem bd_3 : bdW 3 = true := by decide +kernel
theorem bd_4 : bdW 4 = true := by decide +kernel
theorem bd_5 : bdW 5 = true := by decide +kernel
theorem bd_at {l : List Int} (h : bdW1 l = true) (i : Nat) : 0 ≤ l.getD i 0 ∧ l.getD i 0 ≤ 1024 := by
 by_cases q : i < l.length
 ·have e : l.getD i 0 = l[i] := by simp [q]
  rw [e]
  have := (List.all_eq_true.1 h) l[i] (List.getElem_mem q)
  simpa using this
 ·have e : l.getD i 0 = 0 := by simp [Nat.le_of_not_lt q]
  rw [e]; omega
theorem bd_all {n : Nat} (h1 : 1 ≤ n) (hn : n ≤ 5) {k : Nat} (hk : k ≤ n) : (∀ i, 0 ≤ (wy (3 * n + 4) k).getD i 0 ∧ (wy (3 * n + 4) k).getD i 0 ≤ 1024) ∧ ∀ a b, a ≤ 3 * k → b ≤ 4 → ∀ i, 0 ≤ (inB (wy (3 * n + 4) k) a b (inA (wy (3 * n + 4) k) a (List.replicate (3 * n + 4) 0))).getD i 0 ∧ (inB (wy (3 * n + 4) k) a b (inA (wy (3 * n + 4) k) a (List.replicate (3 * n + 4) 0))).getD i 0 ≤ 1024 := by
 have h : bdW n = true := by
  have : n = 1 ∨ n = 2 ∨ n = 3 ∨ n = 4 ∨ n = 5 := by omega
  rcases this with rfl | rfl | rfl | rfl | rfl
  ·exact bd_1
  ·exact bd_2
  ·exact bd_3
  ·exact bd_4
  ·exact bd_5
 unfold bdW at h
 have q := (List.all_eq_true.1 h) k (List.mem_range.2 (by omega))
 rw [Bool.and_eq_true] at q
 refine ⟨bd_at q.1, fun a b ha hb => ?_⟩
 have q2 := (List.all_eq_true.1 q.2) a (List.mem_range.2 (by omega))
 have q3 := (List.all_eq_true.1 q2) b (List.mem_range.2 (by omega))
 exact bd_at q3
theorem blw_bd {W : List Int} (h : ∀ i, 0 ≤ W.getD i 0 ∧ W.getD i 0 ≤ 1024) : ∀ j : Nat, 0 ≤ blw W j ∧ blw W j ≤ 1024 * j
 | 0 => ⟨Int.le_refl _, Int.le_refl _⟩
 | j + 1 => by
  have h1 := blw_bd h j
  have h2 := h j
  simp only [blw]
  omega
theorem four_bd {k : Nat} (h : k ≤ 5) : (1 : Int) ≤ 4 ^ k ∧ (4 : Int) ^ k ≤ 1024 := by
 have : k = 0 ∨ k = 1 ∨ k = 2 ∨ k = 3 ∨ k = 4 ∨ k = 5 := by omega
 rcases this with rfl | rfl | rfl | rfl | rfl | rfl <;> decide
def rkN (k : Nat) : Nat := match k with
 | 0 => 0
 | 1 => 2
 | _ => 1
structure SmF (w : World) (n : Nat) (m : Int) (order : Int) (weak : Bool) (R : Nat → List (List Int)) : Prop where
 m0 : ∀ k, k < 3 → MF w (smB n (rkN k) m) order weak (R k)
 len : ∀ k, k < 3 → ((R k).length : Int) = rightI n (rkN k) m
attribute [local go_sem] bn_ap bn_mk_ap mk_bn_ap bn_size mk_size ap_len List.length_cons List.length_nil
theorem sm_walk (N sum order : Int) (weak : Bool) (hN1 : -9223372036854775808 ≤ N) (hN2 : N ≤ 9223372036854775807) (hs1 : -9223372036854775808 ≤ sum) (hs2 : sum ≤ 9223372036854775807) (n : Nat) (hn : 1 + pickI N 5 = (n : Int)) (PS : Int) (hPS : pickI sum (3 * (n : Int) + 3) = PS) (R : Nat → List (List Int)) (hF : SmF w n (PS - 1) order weak R) : Calls Tryz.prog 8 #[.int .i64 N, .int .i64 sum, .int .i64 order, .bool weak] w fun e w' => e = .returned (.bool true) ∧ w.grownBy w' none := by
 have KP1 := Kept.mk (fun W => kp_pick N 5 W hN1 hN2 (by decide) (by decide))
 obtain ⟨p1, p2⟩ := pickI_bd N 5 (by decide)
 have hn1 : 1 ≤ n := by omega
 have hn5 : n ≤ 5 := by omega
 have KP2 := Kept.mk (fun W => kp_pick sum (3 * (n : Int) + 3) W hs1 hs2 (by omega) (by omega))
 obtain ⟨s1, s2⟩ := pickI_bd sum (3 * (n : Int) + 3) (by omega)
 rw [hPS] at KP2 s1 s2
 generalize pickI N 5 = PN at *
 have KV := Kept.mk (fun W => kp_vars n 0 3 W (by omega) (by omega) (by omega) (by omega) (by omega))
 have hvb := varsB_len (lo := 0) (hi := 3) (itoa_len (by omega) (by omega)) (itoa_len (by omega) (by omega)) (k := n) (by omega)
 have KN := Kept.mk (fun {k : Nat} (hk : k ≤ 100) W => kp_name k W (by omega))
 have HTL : Hid (∀ k, k ≤ 10 → (tB k).length ≤ 180) := fun k hk => by have := tB_len (k := k) (by omega); omega
 have HNL : Hid (∀ k, k ≤ 100 → (nmK k).length ≤ 15) := fun k hk => nmK_len (by omega)
 obtain ⟨M, hM⟩ : ∃ M : Nat, M = 3 * n + 4 := ⟨_, rfl⟩
 have hMI : 3 * (n : Int) + 4 = (M : Int) := by omega
 have hmk := run_make_row' (P := Tryz.prog) 33 3 (.int .i64 0) 8 Tryz.underlying33 infoI64 rfl .i64 .i64 M (by omega) (by omega)
 have HM := hide hM
 have HF := hide hF
 have HMI := hide hMI
 have HMK := hide hmk
 clear hF hPS hM hMI hmk
 go_enter Tryz.func8, Tryz.ntmps8
 have hgr : w.grownBy w none := grown_refl _ _
 go_wp2_with (first | (go_at_call 16; refine (KP1.get _).mono ?_; rintro e w6 ⟨rfl, hww⟩; subst w6; clear KP1) | (go_at_call 16; refine (KP2.get _).mono ?_; rintro e w6 ⟨rfl, hww⟩; subst w6; clear KP2) | (go_at_call 17; refine (KV.get _).mono ?_; rintro e w1 ⟨rfl, hg1⟩; replace hgr := hgr.trans hg1; clear hg1 KV))
 have HGR := hide hgr
 clear hgr
 go_loopw [10, 11] (fun vs vk wr => ∃ k : Nat, k ≤ n ∧ vk = .int .i64 k ∧ vs = .string (bn (tB k)) ∧ w1.grownBy wr none) (fun _ vk _ => n - (intOf vk).toNat)
 case atStart => exact ⟨0, Nat.zero_le _, rfl, rfl, grown_refl _ _⟩
 case round =>
  obtain ⟨k, hk, rfl, rfl, hg⟩ := hrel
  by_cases hlt : k < n
  ·have hlt2 : (k : Int) < n := by omega
   have lb := HTL.out k (by omega)
   have ln := HNL.out k (by omega)
   have KNk := Kept.mk (fun W => KN.get (k := k) (by omega) W)
   have HLI : Hid (k + 1 ≤ n ∧ n - (k + 1) < n - k) := ⟨hlt, by omega⟩
   by_cases h0 : k = 0
   ·have hk0 : (k : Int) ≤ 0 := by omega
    have HE : Hid (tB (k + 1) = ap (tB k) (nmK k)) := by rw [Hid]; simp [tB, h0, ap]
    clear h0 hlt hk
    generalize tB k = B at *
    generalize nmK k = N' at *
    go_wp2_with (go_at_call 19; refine (KNk.get _).mono ?_; rintro e w2 ⟨rfl, hg1⟩)
    go_roundw
    case rel => exact ⟨k + 1, HLI.out.1, by go_num, by rw [HE.out], hg.trans hg1⟩
    case measure => exact HLI.out.2
   ·have hk0 : (0 : Int) < k := by omega
    have HE : Hid (tB (k + 1) = ap (ap (tB k) [32, 43, 32]) (nmK k)) := by rw [Hid]; simp [tB, h0, ap]
    clear h0 hlt hk
    generalize tB k = B at *
    generalize nmK k = N' at *
    go_wp2_with (go_at_call 19; refine (KNk.get _).mono ?_; rintro e w2 ⟨rfl, hg1⟩)
    go_roundw
    case rel => exact ⟨k + 1, HLI.out.1, by go_num, by rw [HE.out], hg.trans hg1⟩
    case measure => exact HLI.out.2
  ·obtain rfl : n = k := by omega
   have hgk := HGR.out.trans hg
   have htl := HTL.out n (by omega)
   have HTB : Hid (∃ T, T = tB n) := ⟨_, rfl⟩
   obtain ⟨TB, hTB⟩ := HTB.out
   have HTB : Hid (tB n = TB) := hTB.symm
   rw [HTB.out] at htl ⊢
   clear hTB
   have O0 := own_zeros (B := w.heap.size) wr M hgk.size (by have := HM.out; omega)
   have f0 := O0.frozenAt 0
   have e0 : (wr.alloc (.cells (madeCells #[.int .i64 0] M) 3)).cell? ⟨wr.heap.size, 0, none⟩ = some (.int .i64 0) := by rw [O0.cellAt 0 (by have := HM.out; omega), intV_at (by simp; have := HM.out; omega)]; simp [List.getElem?_replicate]; (try split <;> rfl)
   have hMI := HMI.out
   have hmk := HMK.out
   have hM1 : (0 : Int) < M := by omega
   have HO := hide (own_first (B := w.heap.size) wr M hgk.size (by have := HM.out; omega))
   have HG0 : Hid (w.grownBy (wr.alloc (.cells ((madeCells #[.int .i64 0] M).setIfInBounds 0 (.int .i64 1)) 3)) none) := hgk.trans (World.grownBy_alloc _ _ _)
   clear O0 hg hgk
   go_wp2
   go_loopw [12, 13] (fun vw vk wq => ∃ k g : Nat, k ≤ n ∧ vk = .int .i64 k ∧ vw = .slice (some ⟨g, 0, none⟩) M M ∧ wq.ownsRow w.heap.size 3 1 (.slice (some ⟨g, 0, none⟩) M M) M (intV (wy M k)) ∧ w.grownBy wq none) (fun _ vk _ => n - (intOf vk).toNat)
   case atStart => exact ⟨0, wr.heap.size, Nat.zero_le _, rfl, rfl, HO.out, HG0.out⟩
   case round =>
    obtain ⟨k, g, hk, rfl, rfl, hown, hg⟩ := hrel
    by_cases hlt : k < n
    ·have hlt2 : (k : Int) < n := by omega
     have O1 := own_zeros (B := w.heap.size) wr M hg.size (by have := HM.out; omega)
     have HO1 : Hid ((wr.alloc (.cells (madeCells #[.int .i64 0] M) 3)).ownsRow w.heap.size 3 1 (.slice (some ⟨wr.heap.size, 0, none⟩) M M) M (intV (inA (wy M k) 0 (List.replicate M 0))) ∧ (wr.alloc (.cells (madeCells #[.int .i64 0] M) 3)).ownsRow w.heap.size 3 1 (.slice (some ⟨g, 0, none⟩) M M) M (intV (wy M k)) ∧ w.grownBy (wr.alloc (.cells (madeCells #[.int .i64 0] M) 3)) none ∧ w.heap.size ≤ wr.heap.size ∧ g ≠ wr.heap.size) := ⟨O1, hown.alloc _, hg.trans (World.grownBy_alloc _ _ _), hg.size, fun e => by have := (hown.lt g rfl).2; omega⟩
     have HLI : Hid (k + 1 ≤ n ∧ n - (k + 1) < n - k) := ⟨hlt, by omega⟩
     have BD := hide (bd_all hn1 hn5 (k := k) (by omega)).1
     have BD2 := hide (bd_all hn1 hn5 (k := k) (by omega)).2
     rw [← HM.out] at BD BD2
     have hk4 : k ≤ 4 := by omega
     clear O1 hown hg hlt hk
     go_wp2
     generalize wr.alloc (.cells (madeCells #[.int .i64 0] M) 3) = W3 at *
     generalize wr.heap.size = G at *
     go_loopw [15] (fun va wq => ∃ a : Nat, a ≤ 3 * k + 1 ∧ va = .int .i64 a ∧ wq.ownsRow w.heap.size 3 1 (.slice (some ⟨G, 0, none⟩) M M) M (intV (inA (wy M k) a (List.replicate M 0))) ∧ wq.ownsRow w.heap.size 3 1 (.slice (some ⟨g, 0, none⟩) M M) M (intV (wy M k)) ∧ w.grownBy wq none) (fun va _ => 3 * k + 1 - (intOf va).toNat)
     case atStart => exact ⟨0, Nat.zero_le _, rfl, HO1.out.1, HO1.out.2.1, HO1.out.2.2.1⟩
     case round =>
      obtain ⟨a, ha, rfl, hN, hW, hga⟩ := hrel
      by_cases hla : a < 3 * k + 1
      ·have hla2 : (a : Int) ≤ 3 * k := by omega
       have HA0 : Hid (wr.ownsRow w.heap.size 3 1 (.slice (some ⟨G, 0, none⟩) M M) M (intV (inB (wy M k) a 0 (inA (wy M k) a (List.replicate M 0)))) ∧ wr.ownsRow w.heap.size 3 1 (.slice (some ⟨g, 0, none⟩) M M) M (intV (wy M k)) ∧ w.grownBy wr none) := ⟨hN, hW, hga⟩
       have HLA : Hid (a + 1 ≤ 3 * k + 1 ∧ 3 * k + 1 - (a + 1) < 3 * k + 1 - a) := ⟨hla, by omega⟩
       have ha3 : a ≤ 3 * k := by omega
       clear hN hW hga hla ha
       go_wp2
       go_loopw [16] (fun vb wq => ∃ b : Nat, b ≤ 4 ∧ vb = .int .i64 b ∧ wq.ownsRow w.heap.size 3 1 (.slice (some ⟨G, 0, none⟩) M M) M (intV (inB (wy M k) a b (inA (wy M k) a (List.replicate M 0)))) ∧ wq.ownsRow w.heap.size 3 1 (.slice (some ⟨g, 0, none⟩) M M) M (intV (wy M k)) ∧ w.grownBy wq none) (fun vb _ => 4 - (intOf vb).toNat)
       case atStart => exact ⟨0, by decide, rfl, HA0.out⟩
       case round =>
        obtain ⟨b, hb, rfl, hN, hW, hgb⟩ := hrel
        by_cases hlb : b < 4
        ·have hlb2 : (b : Int) < 4 := by omega
         have hMv := HM.out
         have x1 := BD2.out a b ha3 (by omega) (a + b)
         have y1 := BD.out a
         have cN : wr.cell? ⟨G, a + b, none⟩ = some (.int .i64 ((inB (wy M k) a b (inA (wy M k) a (List.replicate M 0))).getD (a + b) 0)) := by rw [hN.cellAt (a + b) (by omega)]; exact intV_at (by rw [inB_len, inA_len]; simp; omega)
         have cW : wr.cell? ⟨g, a, none⟩ = some (.int .i64 ((wy M k).getD a 0)) := by rw [hW.cellAt a (by omega)]; exact intV_at (by rw [wy_len]; omega)
         have fN := hN.frozenAt (a + b)
         have lG := (hN.lt G rfl).2
         have lg := (hW.lt g rfl).2
         have st := (hN.kept (grown_drew' wr none) (own_none _)).stored (a + b) (.int .i64 ((inB (wy M k) a b (inA (wy M k) a (List.replicate M 0))).getD (a + b) 0 + (wy M k).getD a 0))
         rw [intV_set] at st
         have HNX : Hid ((wr.drew.setCell ⟨G, a + b, none⟩ (.int .i64 ((inB (wy M k) a b (inA (wy M k) a (List.replicate M 0))).getD (a + b) 0 + (wy M k).getD a 0))).ownsRow w.heap.size 3 1 (.slice (some ⟨G, 0, none⟩) M M) M (intV (inB (wy M k) a (b + 1) (inA (wy M k) a (List.replicate M 0)))) ∧ (wr.drew.setCell ⟨G, a + b, none⟩ (.int .i64 ((inB (wy M k) a b (inA (wy M k) a (List.replicate M 0))).getD (a + b) 0 + (wy M k).getD a 0))).ownsRow w.heap.size 3 1 (.slice (some ⟨g, 0, none⟩) M M) M (intV (wy M k)) ∧ w.grownBy (wr.drew.setCell ⟨G, a + b, none⟩ (.int .i64 ((inB (wy M k) a b (inA (wy M k) a (List.replicate M 0))).getD (a + b) 0 + (wy M k).getD a 0))) none) := ⟨st.1, (hW.kept (grown_drew' wr none) (own_none _)).kept st.2 (.inr (by intro e; cases e; exact HO1.out.2.2.2.2 rfl)), grown_new (hgb.trans (grown_drew' wr none)) HO1.out.2.2.2.1 st.2⟩
         have hab : (a : Int) + b < M := by omega
         have haM : (a : Int) < M := by omega
         have h0a : (0 : Int) ≤ a := by omega
         have h0b : (0 : Int) ≤ b := by omega
         have HLB : Hid (b + 1 ≤ 4 ∧ 4 - (b + 1) < 4 - b) := ⟨hlb, by omega⟩
         generalize (inB (wy M k) a b (inA (wy M k) a (List.replicate M 0))).getD (a + b) 0 = X at *
         generalize (wy M k).getD a 0 = Y at *
         have hw1 : IntKind.i64.wrap ((a : Int) + b) = (a : Int) + b := wrap_s64 (by omega) (by omega)
         have hw2 : IntKind.i64.wrap (X + Y) = X + Y := wrap_s64 (by omega) (by omega)
         have hat : ((a : Int) + b).toNat = a + b := by omega
         have h0ab : (0 : Int) ≤ (a : Int) + b := by omega
         clear hN hW hgb st hlb hb hMv
         go_wp2
         refine wp_region_any (by kernel_rfl) ?_
         try (change wpAny _ _ _ _ _ _ _ (World.drew _))
         refine tkY (i := 0) (v := ?_) 77 rfl rfl (by kernel_rfl) (fun _ _ _ h => h) (Or.inl ⟨by rfl, ?_⟩) ?_
         rotate_left 1
         ·(intro w; go_simp; try with_reducible rfl)
         (try simp only [Act.put, arS, arZ, arN])
         refine tkY (i := 1) (v := ?_) 78 rfl rfl (by kernel_rfl) (fun _ _ _ h => h) (Or.inl ⟨by rfl, ?_⟩) ?_
         rotate_left 1
         ·(intro w; go_simp; try with_reducible rfl)
         (try simp only [Act.put, arS, arZ, arN])
         refine tkY (i := 2) (v := ?_) 79 rfl rfl (by kernel_rfl) (fun _ _ _ h => h) (Or.inl ⟨by rfl, ?_⟩) ?_
         rotate_left 1
         ·(intro w; go_simp; try with_reducible rfl)
         (try simp only [Act.put, arS, arZ, arN])
         refine tkY (i := 3) (v := ?_) 80 rfl rfl (by kernel_rfl) (fun _ _ _ h => h) (Or.inl ⟨by rfl, ?_⟩) ?_
         rotate_left 1
         ·(intro w; go_simp; try with_reducible rfl)
         (try simp only [Act.put, arS, arZ, arN])
         refine tkY (i := 4) (v := ?_) 81 rfl rfl (by kernel_rfl) (fun _ _ _ h => h) (Or.inl ⟨by rfl, ?_⟩) ?_
         rotate_left 1
         ·(intro w; go_simp; try with_reducible rfl)
         (try simp only [Act.put, arS, arZ, arN])
         refine tkY (i := 5) (v := ?_) 82 rfl rfl (by kernel_rfl) (fun _ _ _ h => h) (Or.inl ⟨by rfl, ?_⟩) ?_
         rotate_left 1
         ·(intro w; go_simp; try with_reducible rfl)
         (try simp only [Act.put, arS, arZ, arN])
         refine tkY (i := 6) (v := ?_) 83 rfl rfl (by kernel_rfl) (fun _ _ _ h => h) (Or.inl ⟨by rfl, ?_⟩) ?_
         rotate_left 1
         ·(intro w; go_simp; try with_reducible rfl)
         (try simp only [Act.put, arS, arZ, arN])
         refine tkY (i := 7) (v := ?_) 84 rfl rfl (by kernel_rfl) (fun _ _ _ h => h) (Or.inl ⟨by rfl, ?_⟩) ?_
         rotate_left 1
         ·(intro w; go_simp; try with_reducible rfl)
         (try simp only [Act.put, arS, arZ, arN])
         refine tkY (i := 8) (v := ?_) 85 rfl rfl (by kernel_rfl) (fun _ _ _ h => h) (Or.inl ⟨by rfl, ?_⟩) ?_
         rotate_left 1
         ·(intro w; go_simp; try with_reducible rfl)
         (try simp only [Act.put, arS, arZ, arN])
         refine tkY (i := 10) (v := ?_) 87 rfl rfl (by kernel_rfl) (fun _ _ _ h => h) (Or.inl ⟨by rfl, ?_⟩) ?_
         rotate_left 1
         ·(intro w; go_simp; try with_reducible rfl)
         (try simp only [Act.put, arS, arZ, arN])
         refine tkY (i := 11) (v := ?_) 88 rfl rfl (by kernel_rfl) (fun _ _ _ h => h) (Or.inl ⟨by rfl, ?_⟩) ?_
         rotate_left 1
         ·(intro w; go_simp; try with_reducible rfl)
         (try simp only [Act.put, arS, arZ, arN])
         refine tkY (i := 12) (v := ?_) 89 rfl rfl (by kernel_rfl) (fun _ _ _ h => h) (Or.inl ⟨by rfl, ?_⟩) ?_
         rotate_left 1
         ·(intro w; go_simp; try with_reducible rfl)
         (try simp only [Act.put, arS, arZ, arN])
         refine wpAny_ready (rs := [9, 13]) (by kernel_rfl) (by simp) ?_
         refine AllReady.cons rfl (fun K hK => ?_) (AllReady.cons rfl (fun K hK => ?_) AllReady.nil)
         ·go_simp
          refine hK _ _ ?_
          clear hK K
          refine wpAny_ready (rs := [13]) (by kernel_rfl) (by simp) ?_
          refine AllReady.cons rfl (fun K hK => ?_) AllReady.nil
          go_simp
          refine hK _ _ ?_
          clear hK K
          refine tkY (i := 14) (v := ?_) 91 rfl rfl (by kernel_rfl) (fun _ _ _ h => h) (Or.inl ⟨by rfl, ?_⟩) ?_
          rotate_left 1
          ·(intro w; go_simp; try with_reducible rfl)
          (try simp only [Act.put, arS, arZ, arN])
          refine tkY (i := 15) (v := ?_) 92 rfl rfl (by kernel_rfl) (fun _ _ _ h => h) (Or.inl ⟨by rfl, ?_⟩) ?_
          rotate_left 1
          ·(intro w; go_simp; try with_reducible rfl)
          (try simp only [Act.put, arS, arZ, arN])
          refine wpAny_ready (rs := [16]) (by kernel_rfl) (by simp) ?_
          refine AllReady.cons rfl (fun K hK => ?_) AllReady.nil
          go_simp
          refine hK _ _ ?_
          clear hK K
          refine wpAny_done (by kernel_rfl) ?_ _
          go_wp2
          go_roundw
          case rel => exact ⟨b + 1, HLB.out.1, by go_num, HNX.out⟩
          case measure => exact HLB.out.2
         ·go_simp
          refine hK _ _ ?_
          clear hK K
          refine wpAny_ready (rs := [9]) (by kernel_rfl) (by simp) ?_
          refine AllReady.cons rfl (fun K hK => ?_) AllReady.nil
          go_simp
          refine hK _ _ ?_
          clear hK K
          refine tkY (i := 14) (v := ?_) 91 rfl rfl (by kernel_rfl) (fun _ _ _ h => h) (Or.inl ⟨by rfl, ?_⟩) ?_
          rotate_left 1
          ·(intro w; go_simp; try with_reducible rfl)
          (try simp only [Act.put, arS, arZ, arN])
          refine tkY (i := 15) (v := ?_) 92 rfl rfl (by kernel_rfl) (fun _ _ _ h => h) (Or.inl ⟨by rfl, ?_⟩) ?_
          rotate_left 1
          ·(intro w; go_simp; try with_reducible rfl)
          (try simp only [Act.put, arS, arZ, arN])
          refine wpAny_ready (rs := [16]) (by kernel_rfl) (by simp) ?_
          refine AllReady.cons rfl (fun K hK => ?_) AllReady.nil
          go_simp
          refine hK _ _ ?_
          clear hK K
          refine wpAny_done (by kernel_rfl) ?_ _
          go_wp2
          go_roundw
          case rel => exact ⟨b + 1, HLB.out.1, by go_num, HNX.out⟩
          case measure => exact HLB.out.2
        ·obtain rfl : b = 4 := by omega
         go_wp2
         go_roundw
         case rel => exact ⟨a + 1, HLA.out.1, by go_num, hN, hW, hgb⟩
         case measure => exact HLA.out.2
      ·obtain rfl : a = 3 * k + 1 := by omega
       have hla2 : (3 : Int) * k < ((3 * k + 1 : Nat) : Int) := by omega
       go_wp2
       go_roundw
       case rel => exact ⟨k + 1, G, HLI.out.1, by go_num, rfl, hN, hga⟩
       case measure => exact HLI.out.2
    ·obtain rfl : n = k := by omega
     have hMv := HM.out
     have BD := hide (bd_all hn1 hn5 (k := n) (by omega)).1
     rw [← HM.out] at BD
     have WL := wy_len M n
     have HOW := hide hown
     have HGW := hide hg
     have lgw := (hown.lt g rfl).2
     have HCW : Hid (∀ i, i < M → wr.cell? ⟨g, i, none⟩ = some (.int .i64 ((wy M n).getD i 0))) := fun i hi => by rw [hown.cellAt i (by omega)]; exact intV_at (by rw [wy_len]; exact hi)
     clear hown hg hlt hk WL
     have BB := hide (blw_bd BD.out)
     obtain ⟨J, hJ⟩ : ∃ J : Nat, J = min PS.toNat (3 * n + 1) := ⟨_, rfl⟩
     have HJ := hide hJ
     have hJ5 : J ≤ 16 := by omega
     obtain ⟨BE, hBE⟩ : ∃ BE, BE = blw (wy M n) J := ⟨_, rfl⟩
     have HBE : Hid (rightI n 2 (PS - 1) = BE) := by rw [Hid, hBE, hJ]; show blw (wy (3 * n + 4) n) (min (PS - 1 + 1).toNat (3 * n + 1)) = _; rw [show PS - 1 + 1 = PS by omega, HM.out]
     have HB2 := hide hBE
     have bbe := BB.out J
     rw [← hBE] at bbe
     clear hJ hBE hMv
     go_wp2
     go_loopw [17, 18] (fun vb va wq => ∃ j : Nat, j ≤ J ∧ va = .int .i64 j ∧ vb = .int .i64 (blw (wy M n) j) ∧ wr.grownBy wq none) (fun _ va _ => J - (intOf va).toNat)
     case atStart => exact ⟨0, Nat.zero_le _, rfl, rfl, grown_refl _ _⟩
     case round =>
      obtain ⟨j, hj, rfl, rfl, hg5⟩ := hrel
      by_cases hlj : j < J
      ·have hj1 : (j : Int) ≤ PS - 1 := by have := HJ.out; omega
       have hj2 : (j : Int) ≤ 3 * n := by have := HJ.out; omega
       have hjM : (j : Int) < M := by have := HM.out; omega
       have h0j : (0 : Int) ≤ j := by omega
       have cj := hg5.cell (HCW.out j (by have := HJ.out; have := HM.out; omega)) (by simp)
       have lj : g < wr.heap.size := Nat.lt_of_lt_of_le lgw hg5.size
       have b1 := BB.out j
       have b2 := BD.out j
       have HE : Hid (blw (wy M n) (j + 1) = blw (wy M n) j + (wy M n).getD j 0) := rfl
       have HLI : Hid (j + 1 ≤ J ∧ J - (j + 1) < J - j) := ⟨hlj, by omega⟩
       generalize blw (wy M n) j = Bj at *
       generalize (wy M n).getD j 0 = Wj at *
       clear hlj hj
       go_wp2
       go_roundw
       case rel => exact ⟨j + 1, HLI.out.1, by go_num, by rw [HE.out], hg5⟩
       case measure => exact HLI.out.2
      ·obtain rfl : J = j := by omega
       rw [← HB2.out]
       have HGX := hide (HGW.out.trans hg5)
       have lj : g < wr.heap.size := Nat.lt_of_lt_of_le lgw hg5.size
       by_cases hA : PS ≤ 0
       ·have hj1 : PS - 1 < (J : Int) := by have := HJ.out; omega
        have hA2 : PS - 1 < 0 := by omega
        have HWT : Hid (wantI n (PS - 1) = 0) := by rw [Hid]; unfold wantI; rw [if_neg (by omega)]
        clear hg5 hlj hj lj
        go_wp2
        go_loopw [20, 21] (fun vt vk wq => ∃ k : Nat, k ≤ n ∧ vk = .int .i64 k ∧ vt = .int .i64 ((4 : Int) ^ k) ∧ wr.grownBy wq none) (fun _ vk _ => n - (intOf vk).toNat)
        case atStart => exact ⟨0, Nat.zero_le _, rfl, rfl, grown_refl _ _⟩
        case round =>
         obtain ⟨k, hk, rfl, rfl, hg6⟩ := hrel
         by_cases hlt : k < n
         ·have hlt2 : (k : Int) < n := by omega
          obtain ⟨q1, q2⟩ := four_bd (k := k) (by omega)
          have HE : Hid ((4 : Int) ^ (k + 1) = 4 ^ k * 4) := Int.pow_succ 4 k
          have HLI : Hid (k + 1 ≤ n ∧ n - (k + 1) < n - k) := ⟨hlt, by omega⟩
          generalize (4 : Int) ^ k = T4 at *
          clear hlt hk
          go_wp2
          go_roundw
          case rel => exact ⟨k + 1, HLI.out.1, by go_num, by rw [HE.out], hg6⟩
          case measure => exact HLI.out.2
         ·obtain rfl : n = k := by omega
          obtain ⟨q1, q2⟩ := four_bd (k := n) (by omega)
          have HT4 : Hid ((4 : Int) ^ n = 4 ^ n) := rfl
          have r0 := HF.out.len 0 (by decide)
          have r1 := HF.out.len 1 (by decide)
          have r2 := HF.out.len 2 (by decide)
          have HR : Hid (((R 0).length : Int) = 0 ∧ ((R 1).length : Int) = BE ∧ ((R 2).length : Int) = 4 ^ n - 0) := ⟨by rw [r0]; exact HWT.out, by rw [r1]; exact HBE.out, by rw [r2]; show 4 ^ n - wantI n (PS - 1) = _; rw [HWT.out]⟩
          clear r0 r1 r2 HT4
          generalize (4 : Int) ^ n = T4 at *
          have HG6 := hide (HGX.out.trans hg6)
          clear hg6 hlt hk
          go_wp2
          go_loopw [22] (fun vk wq => ∃ k : Nat, k ≤ 3 ∧ vk = .int .i64 k ∧ wr.grownBy wq none) (fun vk _ => 3 - (intOf vk).toNat)
          case atStart => exact ⟨0, by decide, rfl, grown_refl _ _⟩
          case round =>
           obtain ⟨k, hk, rfl, hg7⟩ := hrel
           have HG7 := hide hg7
           have hgr := HG6.out.trans hg7
           clear hg7
           have hk4 : k = 0 ∨ k = 1 ∨ k = 2 ∨ k = 3 := by omega
           rcases hk4 with rfl | rfl | rfl | rfl
           ·have hM0 := HF.out.m0 0 (by decide)
            rw [show smB n (rkN 0) (PS - 1) = ap (ap (ap (ap (ap (ap (ap (varsB 0 3 n) [108, 105, 110, 32]) (tB n)) [32]) [61]) [32]) (Lib.itoa (PS - 1))) [59] by simp [smB, rkN, relB, ap]] at hM0
            have hln : (((R 0).length : Int) != 0) = false := by rw [HR.out.1]; simp
            generalize R 0 = RR at *
            rw [HTB.out] at hM0
            have KM0 := Kept.mk (fun {W : World} (hg : w.grownBy W none) => hM0 W hg)
            have KD := Kept.mk (fun W => kp_digits (PS - 1) W (by omega) (by omega))
            have id := itoa_len (m := PS - 1) (by omega) (by omega)
            generalize Lib.itoa (PS - 1) = D at *
            generalize varsB 0 3 n = VB at *
            clear hM0
            go_wp2_with (first | (go_at_call 20; refine (KD.get _).mono ?_; rintro e w5 ⟨rfl, hg1⟩; have hq := (World.grownBy_alloc wr (.cells #[.string ⟨#[61]⟩, .string ⟨#[60, 61]⟩, .string ⟨#[33, 61]⟩] 9) none).trans hg1; clear hg1 KD) | (go_at_call 21; refine (KM0.get (hgr.trans hq)).mono ?_; rintro e wa ⟨b1, rfl, hg1, hfo1⟩; replace hq := hq.trans hg1; have KF := Kept.mk (fun {W2 : World} h => hfo1 W2 h); clear hg1 hfo1 KM0) | (go_at_call 22; refine (KF.get (grown_refl _ _)).mono ?_; clear KF; rintro e w9 ⟨vS, rfl, hL, hg1⟩; replace hq := hq.trans hg1; clear hg1; obtain ⟨sa, sc, hv1⟩ := hL.ll.is; subst hv1))
            go_roundw
            case rel => exact ⟨1, by decide, by go_num, (HG7.out.trans hq).trans (World.grownBy_alloc _ _ _)⟩
            case measure => simp [intOf]
           ·have hM0 := HF.out.m0 1 (by decide)
            rw [show smB n (rkN 1) (PS - 1) = ap (ap (ap (ap (ap (ap (ap (varsB 0 3 n) [108, 105, 110, 32]) (tB n)) [32]) [60, 61]) [32]) (Lib.itoa (PS - 1))) [59] by simp [smB, rkN, relB, ap]] at hM0
            have hln : (((R 1).length : Int) != BE) = false := by rw [HR.out.2.1]; simp
            generalize R 1 = RR at *
            rw [HTB.out] at hM0
            have KM0 := Kept.mk (fun {W : World} (hg : w.grownBy W none) => hM0 W hg)
            have KD := Kept.mk (fun W => kp_digits (PS - 1) W (by omega) (by omega))
            have id := itoa_len (m := PS - 1) (by omega) (by omega)
            generalize Lib.itoa (PS - 1) = D at *
            generalize varsB 0 3 n = VB at *
            clear hM0
            go_wp2_with (first | (go_at_call 20; refine (KD.get _).mono ?_; rintro e w5 ⟨rfl, hg1⟩; have hq := (World.grownBy_alloc wr (.cells #[.string ⟨#[61]⟩, .string ⟨#[60, 61]⟩, .string ⟨#[33, 61]⟩] 9) none).trans hg1; clear hg1 KD) | (go_at_call 21; refine (KM0.get (hgr.trans hq)).mono ?_; rintro e wa ⟨b1, rfl, hg1, hfo1⟩; replace hq := hq.trans hg1; have KF := Kept.mk (fun {W2 : World} h => hfo1 W2 h); clear hg1 hfo1 KM0) | (go_at_call 22; refine (KF.get (grown_refl _ _)).mono ?_; clear KF; rintro e w9 ⟨vS, rfl, hL, hg1⟩; replace hq := hq.trans hg1; clear hg1; obtain ⟨sa, sc, hv1⟩ := hL.ll.is; subst hv1))
            go_roundw
            case rel => exact ⟨2, by decide, by go_num, (HG7.out.trans hq).trans (World.grownBy_alloc _ _ _)⟩
            case measure => simp [intOf]
           ·have hM0 := HF.out.m0 2 (by decide)
            rw [show smB n (rkN 2) (PS - 1) = ap (ap (ap (ap (ap (ap (ap (varsB 0 3 n) [108, 105, 110, 32]) (tB n)) [32]) [33, 61]) [32]) (Lib.itoa (PS - 1))) [59] by simp [smB, rkN, relB, ap]] at hM0
            have hln : (((R 2).length : Int) != T4 - 0) = false := by rw [HR.out.2.2]; simp
            generalize R 2 = RR at *
            rw [HTB.out] at hM0
            have KM0 := Kept.mk (fun {W : World} (hg : w.grownBy W none) => hM0 W hg)
            have KD := Kept.mk (fun W => kp_digits (PS - 1) W (by omega) (by omega))
            have id := itoa_len (m := PS - 1) (by omega) (by omega)
            generalize Lib.itoa (PS - 1) = D at *
            generalize varsB 0 3 n = VB at *
            clear hM0
            go_wp2_with (first | (go_at_call 20; refine (KD.get _).mono ?_; rintro e w5 ⟨rfl, hg1⟩; have hq := (World.grownBy_alloc wr (.cells #[.string ⟨#[61]⟩, .string ⟨#[60, 61]⟩, .string ⟨#[33, 61]⟩] 9) none).trans hg1; clear hg1 KD) | (go_at_call 21; refine (KM0.get (hgr.trans hq)).mono ?_; rintro e wa ⟨b1, rfl, hg1, hfo1⟩; replace hq := hq.trans hg1; have KF := Kept.mk (fun {W2 : World} h => hfo1 W2 h); clear hg1 hfo1 KM0) | (go_at_call 22; refine (KF.get (grown_refl _ _)).mono ?_; clear KF; rintro e w9 ⟨vS, rfl, hL, hg1⟩; replace hq := hq.trans hg1; clear hg1; obtain ⟨sa, sc, hv1⟩ := hL.ll.is; subst hv1))
            go_roundw
            case rel => exact ⟨3, by decide, by go_num, (HG7.out.trans hq).trans (World.grownBy_alloc _ _ _)⟩
            case measure => simp [intOf]
           ·go_wp2
            go_ret
            exact ⟨rfl, hgr⟩
       ·by_cases hC : PS ≤ 3 * n + 1
        ·have hj1 : PS - 1 < (J : Int) := by have := HJ.out; omega
         have hA2 : (0 : Int) ≤ PS - 1 := by omega
         have hC2 : PS - 1 ≤ 3 * (n : Int) := by omega
         have hC3 : PS - 1 < (M : Int) := by have := HM.out; omega
         obtain ⟨P, hP⟩ : ∃ P : Nat, PS - 1 = (P : Int) := ⟨(PS - 1).toNat, by omega⟩
         have cw := hg5.cell (HCW.out P (by have := HM.out; omega)) (by simp)
         obtain ⟨WT, hWT⟩ : ∃ WT, WT = (wy M n).getD P 0 := ⟨_, rfl⟩
         have HWT : Hid (wantI n (PS - 1) = WT) := by rw [Hid, hWT, hP]; unfold wantI; rw [if_pos (by omega), HM.out]; rfl
         have bw := BD.out P
         rw [← hWT] at cw bw
         have hpt : (PS - 1).toNat = P := by omega
         clear hg5 hlj hj hWT hP
         go_wp2
         go_loopw [20, 21] (fun vt vk wq => ∃ k : Nat, k ≤ n ∧ vk = .int .i64 k ∧ vt = .int .i64 ((4 : Int) ^ k) ∧ wr.grownBy wq none) (fun _ vk _ => n - (intOf vk).toNat)
         case atStart => exact ⟨0, Nat.zero_le _, rfl, rfl, grown_refl _ _⟩
         case round =>
          obtain ⟨k, hk, rfl, rfl, hg6⟩ := hrel
          by_cases hlt : k < n
          ·have hlt2 : (k : Int) < n := by omega
           obtain ⟨q1, q2⟩ := four_bd (k := k) (by omega)
           have HE : Hid ((4 : Int) ^ (k + 1) = 4 ^ k * 4) := Int.pow_succ 4 k
           have HLI : Hid (k + 1 ≤ n ∧ n - (k + 1) < n - k) := ⟨hlt, by omega⟩
           generalize (4 : Int) ^ k = T4 at *
           clear hlt hk
           go_wp2
           go_roundw
           case rel => exact ⟨k + 1, HLI.out.1, by go_num, by rw [HE.out], hg6⟩
           case measure => exact HLI.out.2
          ·obtain rfl : n = k := by omega
           obtain ⟨q1, q2⟩ := four_bd (k := n) (by omega)
           have HT4 : Hid ((4 : Int) ^ n = 4 ^ n) := rfl
           have r0 := HF.out.len 0 (by decide)
           have r1 := HF.out.len 1 (by decide)
           have r2 := HF.out.len 2 (by decide)
           have HR : Hid (((R 0).length : Int) = WT ∧ ((R 1).length : Int) = BE ∧ ((R 2).length : Int) = 4 ^ n - WT) := ⟨by rw [r0]; exact HWT.out, by rw [r1]; exact HBE.out, by rw [r2]; show 4 ^ n - wantI n (PS - 1) = _; rw [HWT.out]⟩
           clear r0 r1 r2 HT4
           generalize (4 : Int) ^ n = T4 at *
           have HG6 := hide (HGX.out.trans hg6)
           clear hg6 hlt hk
           go_wp2
           go_loopw [22] (fun vk wq => ∃ k : Nat, k ≤ 3 ∧ vk = .int .i64 k ∧ wr.grownBy wq none) (fun vk _ => 3 - (intOf vk).toNat)
           case atStart => exact ⟨0, by decide, rfl, grown_refl _ _⟩
           case round =>
            obtain ⟨k, hk, rfl, hg7⟩ := hrel
            have HG7 := hide hg7
            have hgr := HG6.out.trans hg7
            clear hg7
            have hk4 : k = 0 ∨ k = 1 ∨ k = 2 ∨ k = 3 := by omega
            rcases hk4 with rfl | rfl | rfl | rfl
            ·have hM0 := HF.out.m0 0 (by decide)
             rw [show smB n (rkN 0) (PS - 1) = ap (ap (ap (ap (ap (ap (ap (varsB 0 3 n) [108, 105, 110, 32]) (tB n)) [32]) [61]) [32]) (Lib.itoa (PS - 1))) [59] by simp [smB, rkN, relB, ap]] at hM0
             have hln : (((R 0).length : Int) != WT) = false := by rw [HR.out.1]; simp
             generalize R 0 = RR at *
             rw [HTB.out] at hM0
             have KM0 := Kept.mk (fun {W : World} (hg : w.grownBy W none) => hM0 W hg)
             have KD := Kept.mk (fun W => kp_digits (PS - 1) W (by omega) (by omega))
             have id := itoa_len (m := PS - 1) (by omega) (by omega)
             generalize Lib.itoa (PS - 1) = D at *
             generalize varsB 0 3 n = VB at *
             clear hM0
             go_wp2_with (first | (go_at_call 20; refine (KD.get _).mono ?_; rintro e w5 ⟨rfl, hg1⟩; have hq := (World.grownBy_alloc wr (.cells #[.string ⟨#[61]⟩, .string ⟨#[60, 61]⟩, .string ⟨#[33, 61]⟩] 9) none).trans hg1; clear hg1 KD) | (go_at_call 21; refine (KM0.get (hgr.trans hq)).mono ?_; rintro e wa ⟨b1, rfl, hg1, hfo1⟩; replace hq := hq.trans hg1; have KF := Kept.mk (fun {W2 : World} h => hfo1 W2 h); clear hg1 hfo1 KM0) | (go_at_call 22; refine (KF.get (grown_refl _ _)).mono ?_; clear KF; rintro e w9 ⟨vS, rfl, hL, hg1⟩; replace hq := hq.trans hg1; clear hg1; obtain ⟨sa, sc, hv1⟩ := hL.ll.is; subst hv1))
             go_roundw
             case rel => exact ⟨1, by decide, by go_num, (HG7.out.trans hq).trans (World.grownBy_alloc _ _ _)⟩
             case measure => simp [intOf]
            ·have hM0 := HF.out.m0 1 (by decide)
             rw [show smB n (rkN 1) (PS - 1) = ap (ap (ap (ap (ap (ap (ap (varsB 0 3 n) [108, 105, 110, 32]) (tB n)) [32]) [60, 61]) [32]) (Lib.itoa (PS - 1))) [59] by simp [smB, rkN, relB, ap]] at hM0
             have hln : (((R 1).length : Int) != BE) = false := by rw [HR.out.2.1]; simp
             generalize R 1 = RR at *
             rw [HTB.out] at hM0
             have KM0 := Kept.mk (fun {W : World} (hg : w.grownBy W none) => hM0 W hg)
             have KD := Kept.mk (fun W => kp_digits (PS - 1) W (by omega) (by omega))
             have id := itoa_len (m := PS - 1) (by omega) (by omega)
             generalize Lib.itoa (PS - 1) = D at *
             generalize varsB 0 3 n = VB at *
             clear hM0
             go_wp2_with (first | (go_at_call 20; refine (KD.get _).mono ?_; rintro e w5 ⟨rfl, hg1⟩; have hq := (World.grownBy_alloc wr (.cells #[.string ⟨#[61]⟩, .string ⟨#[60, 61]⟩, .string ⟨#[33, 61]⟩] 9) none).trans hg1; clear hg1 KD) | (go_at_call 21; refine (KM0.get (hgr.trans hq)).mono ?_; rintro e wa ⟨b1, rfl, hg1, hfo1⟩; replace hq := hq.trans hg1; have KF := Kept.mk (fun {W2 : World} h => hfo1 W2 h); clear hg1 hfo1 KM0) | (go_at_call 22; refine (KF.get (grown_refl _ _)).mono ?_; clear KF; rintro e w9 ⟨vS, rfl, hL, hg1⟩; replace hq := hq.trans hg1; clear hg1; obtain ⟨sa, sc, hv1⟩ := hL.ll.is; subst hv1))
             go_roundw
             case rel => exact ⟨2, by decide, by go_num, (HG7.out.trans hq).trans (World.grownBy_alloc _ _ _)⟩
             case measure => simp [intOf]
            ·have hM0 := HF.out.m0 2 (by decide)
             rw [show smB n (rkN 2) (PS - 1) = ap (ap (ap (ap (ap (ap (ap (varsB 0 3 n) [108, 105, 110, 32]) (tB n)) [32]) [33, 61]) [32]) (Lib.itoa (PS - 1))) [59] by simp [smB, rkN, relB, ap]] at hM0
             have hln : (((R 2).length : Int) != T4 - WT) = false := by rw [HR.out.2.2]; simp
             generalize R 2 = RR at *
             rw [HTB.out] at hM0
             have KM0 := Kept.mk (fun {W : World} (hg : w.grownBy W none) => hM0 W hg)
             have KD := Kept.mk (fun W => kp_digits (PS - 1) W (by omega) (by omega))
             have id := itoa_len (m := PS - 1) (by omega) (by omega)
             generalize Lib.itoa (PS - 1) = D at *
             generalize varsB 0 3 n = VB at *
             clear hM0
             go_wp2_with (first | (go_at_call 20; refine (KD.get _).mono ?_; rintro e w5 ⟨rfl, hg1⟩; have hq := (World.grownBy_alloc wr (.cells #[.string ⟨#[61]⟩, .string ⟨#[60, 61]⟩, .string ⟨#[33, 61]⟩] 9) none).trans hg1; clear hg1 KD) | (go_at_call 21; refine (KM0.get (hgr.trans hq)).mono ?_; rintro e wa ⟨b1, rfl, hg1, hfo1⟩; replace hq := hq.trans hg1; have KF := Kept.mk (fun {W2 : World} h => hfo1 W2 h); clear hg1 hfo1 KM0) | (go_at_call 22; refine (KF.get (grown_refl _ _)).mono ?_; clear KF; rintro e w9 ⟨vS, rfl, hL, hg1⟩; replace hq := hq.trans hg1; clear hg1; obtain ⟨sa, sc, hv1⟩ := hL.ll.is; subst hv1))
             go_roundw
             case rel => exact ⟨3, by decide, by go_num, (HG7.out.trans hq).trans (World.grownBy_alloc _ _ _)⟩
             case measure => simp [intOf]
            ·go_wp2
             go_ret
             exact ⟨rfl, hgr⟩
        ·have hj1 : (J : Int) ≤ PS - 1 := by have := HJ.out; omega
         have hj2 : 3 * (n : Int) < (J : Int) := by have := HJ.out; omega
         have hA2 : (0 : Int) ≤ PS - 1 := by omega
         have hC2 : 3 * (n : Int) < PS - 1 := by omega
         have HWT : Hid (wantI n (PS - 1) = 0) := by rw [Hid]; unfold wantI; rw [if_neg (by omega)]
         clear hg5 hlj hj lj
         go_wp2
         go_loopw [20, 21] (fun vt vk wq => ∃ k : Nat, k ≤ n ∧ vk = .int .i64 k ∧ vt = .int .i64 ((4 : Int) ^ k) ∧ wr.grownBy wq none) (fun _ vk _ => n - (intOf vk).toNat)
         case atStart => exact ⟨0, Nat.zero_le _, rfl, rfl, grown_refl _ _⟩
         case round =>
          obtain ⟨k, hk, rfl, rfl, hg6⟩ := hrel
          by_cases hlt : k < n
          ·have hlt2 : (k : Int) < n := by omega
           obtain ⟨q1, q2⟩ := four_bd (k := k) (by omega)
           have HE : Hid ((4 : Int) ^ (k + 1) = 4 ^ k * 4) := Int.pow_succ 4 k
           have HLI : Hid (k + 1 ≤ n ∧ n - (k + 1) < n - k) := ⟨hlt, by omega⟩
           generalize (4 : Int) ^ k = T4 at *
           clear hlt hk
           go_wp2
           go_roundw
           case rel => exact ⟨k + 1, HLI.out.1, by go_num, by rw [HE.out], hg6⟩
           case measure => exact HLI.out.2
          ·obtain rfl : n = k := by omega
           obtain ⟨q1, q2⟩ := four_bd (k := n) (by omega)
           have HT4 : Hid ((4 : Int) ^ n = 4 ^ n) := rfl
           have r0 := HF.out.len 0 (by decide)
           have r1 := HF.out.len 1 (by decide)
           have r2 := HF.out.len 2 (by decide)
           have HR : Hid (((R 0).length : Int) = 0 ∧ ((R 1).length : Int) = BE ∧ ((R 2).length : Int) = 4 ^ n - 0) := ⟨by rw [r0]; exact HWT.out, by rw [r1]; exact HBE.out, by rw [r2]; show 4 ^ n - wantI n (PS - 1) = _; rw [HWT.out]⟩
           clear r0 r1 r2 HT4
           generalize (4 : Int) ^ n = T4 at *
           have HG6 := hide (HGX.out.trans hg6)
           clear hg6 hlt hk
           go_wp2
           go_loopw [22] (fun vk wq => ∃ k : Nat, k ≤ 3 ∧ vk = .int .i64 k ∧ wr.grownBy wq none) (fun vk _ => 3 - (intOf vk).toNat)
           case atStart => exact ⟨0, by decide, rfl, grown_refl _ _⟩
           case round =>
            obtain ⟨k, hk, rfl, hg7⟩ := hrel
            have HG7 := hide hg7
            have hgr := HG6.out.trans hg7
            clear hg7
            have hk4 : k = 0 ∨ k = 1 ∨ k = 2 ∨ k = 3 := by omega
            rcases hk4 with rfl | rfl | rfl | rfl
            ·have hM0 := HF.out.m0 0 (by decide)
             rw [show smB n (rkN 0) (PS - 1) = ap (ap (ap (ap (ap (ap (ap (varsB 0 3 n) [108, 105, 110, 32]) (tB n)) [32]) [61]) [32]) (Lib.itoa (PS - 1))) [59] by simp [smB, rkN, relB, ap]] at hM0
             have hln : (((R 0).length : Int) != 0) = false := by rw [HR.out.1]; simp
             generalize R 0 = RR at *
             rw [HTB.out] at hM0
             have KM0 := Kept.mk (fun {W : World} (hg : w.grownBy W none) => hM0 W hg)
             have KD := Kept.mk (fun W => kp_digits (PS - 1) W (by omega) (by omega))
             have id := itoa_len (m := PS - 1) (by omega) (by omega)
             generalize Lib.itoa (PS - 1) = D at *
             generalize varsB 0 3 n = VB at *
             clear hM0
             go_wp2_with (first | (go_at_call 20; refine (KD.get _).mono ?_; rintro e w5 ⟨rfl, hg1⟩; have hq := (World.grownBy_alloc wr (.cells #[.string ⟨#[61]⟩, .string ⟨#[60, 61]⟩, .string ⟨#[33, 61]⟩] 9) none).trans hg1; clear hg1 KD) | (go_at_call 21; refine (KM0.get (hgr.trans hq)).mono ?_; rintro e wa ⟨b1, rfl, hg1, hfo1⟩; replace hq := hq.trans hg1; have KF := Kept.mk (fun {W2 : World} h => hfo1 W2 h); clear hg1 hfo1 KM0) | (go_at_call 22; refine (KF.get (grown_refl _ _)).mono ?_; clear KF; rintro e w9 ⟨vS, rfl, hL, hg1⟩; replace hq := hq.trans hg1; clear hg1; obtain ⟨sa, sc, hv1⟩ := hL.ll.is; subst hv1))
             go_roundw
             case rel => exact ⟨1, by decide, by go_num, (HG7.out.trans hq).trans (World.grownBy_alloc _ _ _)⟩
             case measure => simp [intOf]
            ·have hM0 := HF.out.m0 1 (by decide)
             rw [show smB n (rkN 1) (PS - 1) = ap (ap (ap (ap (ap (ap (ap (varsB 0 3 n) [108, 105, 110, 32]) (tB n)) [32]) [60, 61]) [32]) (Lib.itoa (PS - 1))) [59] by simp [smB, rkN, relB, ap]] at hM0
             have hln : (((R 1).length : Int) != BE) = false := by rw [HR.out.2.1]; simp
             generalize R 1 = RR at *
             rw [HTB.out] at hM0
             have KM0 := Kept.mk (fun {W : World} (hg : w.grownBy W none) => hM0 W hg)
             have KD := Kept.mk (fun W => kp_digits (PS - 1) W (by omega) (by omega))
             have id := itoa_len (m := PS - 1) (by omega) (by omega)
             generalize Lib.itoa (PS - 1) = D at *
             generalize varsB 0 3 n = VB at *
             clear hM0
             go_wp2_with (first | (go_at_call 20; refine (KD.get _).mono ?_; rintro e w5 ⟨rfl, hg1⟩; have hq := (World.grownBy_alloc wr (.cells #[.string ⟨#[61]⟩, .string ⟨#[60, 61]⟩, .string ⟨#[33, 61]⟩] 9) none).trans hg1; clear hg1 KD) | (go_at_call 21; refine (KM0.get (hgr.trans hq)).mono ?_; rintro e wa ⟨b1, rfl, hg1, hfo1⟩; replace hq := hq.trans hg1; have KF := Kept.mk (fun {W2 : World} h => hfo1 W2 h); clear hg1 hfo1 KM0) | (go_at_call 22; refine (KF.get (grown_refl _ _)).mono ?_; clear KF; rintro e w9 ⟨vS, rfl, hL, hg1⟩; replace hq := hq.trans hg1; clear hg1; obtain ⟨sa, sc, hv1⟩ := hL.ll.is; subst hv1))
             go_roundw
             case rel => exact ⟨2, by decide, by go_num, (HG7.out.trans hq).trans (World.grownBy_alloc _ _ _)⟩
             case measure => simp [intOf]
            ·have hM0 := HF.out.m0 2 (by decide)
             rw [show smB n (rkN 2) (PS - 1) = ap (ap (ap (ap (ap (ap (ap (varsB 0 3 n) [108, 105, 110, 32]) (tB n)) [32]) [33, 61]) [32]) (Lib.itoa (PS - 1))) [59] by simp [smB, rkN, relB, ap]] at hM0
             have hln : (((R 2).length : Int) != T4 - 0) = false := by rw [HR.out.2.2]; simp
             generalize R 2 = RR at *
             rw [HTB.out] at hM0
             have KM0 := Kept.mk (fun {W : World} (hg : w.grownBy W none) => hM0 W hg)
             have KD := Kept.mk (fun W => kp_digits (PS - 1) W (by omega) (by omega))
             have id := itoa_len (m := PS - 1) (by omega) (by omega)
             generalize Lib.itoa (PS - 1) = D at *
             generalize varsB 0 3 n = VB at *
             clear hM0
             go_wp2_with (first | (go_at_call 20; refine (KD.get _).mono ?_; rintro e w5 ⟨rfl, hg1⟩; have hq := (World.grownBy_alloc wr (.cells #[.string ⟨#[61]⟩, .string ⟨#[60, 61]⟩, .string ⟨#[33, 61]⟩] 9) none).trans hg1; clear hg1 KD) | (go_at_call 21; refine (KM0.get (hgr.trans hq)).mono ?_; rintro e wa ⟨b1, rfl, hg1, hfo1⟩; replace hq := hq.trans hg1; have KF := Kept.mk (fun {W2 : World} h => hfo1 W2 h); clear hg1 hfo1 KM0) | (go_at_call 22; refine (KF.get (grown_refl _ _)).mono ?_; clear KF; rintro e w9 ⟨vS, rfl, hL, hg1⟩; replace hq := hq.trans hg1; clear hg1; obtain ⟨sa, sc, hv1⟩ := hL.ll.is; subst hv1))
             go_roundw
             case rel => exact ⟨3, by decide, by go_num, (HG7.out.trans hq).trans (World.grownBy_alloc _ _ _)⟩
             case measure => simp [intOf]
            ·go_wp2
             go_ret
             exact ⟨rfl, hgr⟩
theorem rkN_lt (k : Nat) : rkN k < 3 := by unfold rkN; split <;> decide
theorem kp_Sums (N sum order : Int) (weak : Bool) (hN1 : -9223372036854775808 ≤ N) (hN2 : N ≤ 9223372036854775807) (hs1 : -9223372036854775808 ≤ sum) (hs2 : sum ≤ 9223372036854775807) (ho1 : -9223372036854775808 ≤ order) (ho2 : order ≤ 9223372036854775807) (ht : PowTab w) (hdb : DbTab w) : Calls Tryz.prog 8 #[.int .i64 N, .int .i64 sum, .int .i64 order, .bool weak] w fun e w' => e = .returned (.bool true) ∧ w.grownBy w' none := by
 obtain ⟨p1, p2⟩ := pickI_bd N 5 (by decide)
 obtain ⟨n, hn⟩ : ∃ n : Nat, 1 + pickI N 5 = (n : Int) := ⟨(1 + pickI N 5).toNat, by omega⟩
 have h1 : 1 ≤ n := by omega
 have h5 : n ≤ 5 := by omega
 obtain ⟨s1, s2⟩ := pickI_bd sum (3 * (n : Int) + 3) (by omega)
 obtain ⟨PS, hPS⟩ : ∃ PS, pickI sum (3 * (n : Int) + 3) = PS := ⟨_, rfl⟩
 rw [hPS] at s1 s2
 have tb : ∀ {W : World}, w.grownBy W none → PowTab W := fun {W} hg => tab_kept ht (fun k hk => hg.block k hk (by simp))
 have okA : ∀ rel, textOk (smA n rel (PS - 1)) := fun rel => smA_ok h1 (by omega) (by omega) (by omega)
 have fiA : ∀ rel, allFine E0 (smA n rel (PS - 1)) := fun rel => smA_fine h1 (by omega) (by omega) (by omega)
 have lnA : ∀ rel, (srcA (smA n rel (PS - 1))).length ≤ 2000 := fun rel => by rw [smA_src h1]; have := smB_len (n := n) (rel := rel) (m := PS - 1) h5 (by omega) (by omega); omega
 have M : ∀ rel, MdOk (sV n) [smC n rel (PS - 1)] := fun rel => by have q := src_ok (okA rel) (fiA rel) (lnA rel); rw [smA_env h1] at q; exact q
 obtain ⟨b1, b2⟩ := s_box h1 h5
 have b1' : ((sV n).length * (boxV (bdV (sV n))).length + 1 : Int) ≤ 1000000 := by rw [sV_len]; exact b1
 refine sm_walk N sum order weak hN1 hN2 hs1 hs2 n hn PS hPS (fun k => (solveS (mkK (sV n) [smC n (rkN k) (PS - 1)] (pickI order 2) weak 1000000)).sols) ⟨fun k hk W hW => ?_, fun k hk => ?_⟩
 ·have K := kp_model (smA n (rkN k) (PS - 1)) (okA _) (fiA _) (lnA _) W (tb hW)
  rw [smA_src h1, smA_env h1] at K
  refine K.mono ?_
  rintro e w' ⟨b, rfl, hb, hm, hg⟩
  exact ⟨b, rfl, hg, fun W2 hg2 => kp_found (hm.grown hg2) (M _) (tb ((hW.trans hg).trans hg2)) (db_grown hdb ((hW.trans hg).trans hg2)) order weak ho1 ho2 b1' b2⟩
 ·obtain ⟨A, _, _⟩ := solve_all (M (rkN k)) (pickI order 2) weak 1000000 b1' b2
  exact s_count h1 h5 (rkN_lt k) (by omega) (by omega) A.perm
end
end Go.Proofs.YthpcbbnabnlanaaGreatDoor
