import Derived.Test.YthpcbbnabnlanaaGreatDoorM17
import Derived.Test.YthpcbbnabnlanaaGreatDoorM28
import Derived.Laws.OwnMore
namespace Go.Proofs.YthpcbbnabnlanaaGreatDoor
set_option linter.unusedVariables false
set_option linter.unusedSimpArgs false
section
set_option maxHeartbeats 2000000
set_option maxRecDepth 100000
open Go.RowKit
variable {w w' : World}
theorem md_Solve {b : Nat} {V : List QVar} {C : List QCon} {t : List UInt8} (h : MdAt w b V C t) (hM : MdOk V C) (hdb : DbTab w) (order : Int) (weak : Bool) (budget : Int) (hbu : budget ≤ 9223372036854775807) : Calls Tryz.prog 29 #[.pointer (some ⟨b, 0, none⟩), .int .i64 order, .bool weak, .int .i64 budget] w fun e w' => ∃ vS, e = .returned (.agg #[vS, .int .i64 (solveS (mkK V C order weak budget)).ending, .int .i64 (solveS (mkK V C order weak budget)).nodes]) ∧ LLT w' vS (solveS (mkK V C order weak budget)).sols ∧ w.grownBy w' none := by
 obtain ⟨bc, B, vV, vC, cs, h1, h2, h3⟩ := h.set
 obtain ⟨W0, hW0⟩ : ∃ W0, W0 = w.alloc (.cells #[.slice none 0 0, .int .i64 0, .int .i64 0] 50) := ⟨_, rfl⟩
 have hg0 : w.grownBy W0 none := by rw [hW0]; exact World.grownBy_alloc _ _ _
 have KS := Kept.mk (sv_Solve (w := W0) (K := mkK V C order weak budget) (h2.grown hg0) h3 (db_grown hdb hg0) (mkK_ok hM.vars hM.vlen hM.cons hM.clen) rfl rfl hbu)
 have hbx0 : W0.heap[w.heap.size]? = some (.cells #[.slice none 0 0, .int .i64 0, .int .i64 0] 50 (0, 0)) := by rw [hW0]; exact heap_alloc_new _ _
 have HBX : Hid (∀ W', W0.grownBy W' none → W'.heap[w.heap.size]? = some (.cells #[.slice none 0 0, .int .i64 0, .int .i64 0] 50 (0, 0))) := fun W' hg => (hg.block _ (some_lt hbx0) (by simp)).trans hbx0
 have hlt := h.lt
 generalize hR : solveS (mkK V C order weak budget) = R at *
 have KS' := Kept.mk (show Calls Tryz.prog 37 #[.pointer (some ⟨bc, 1, none⟩), .int .i64 order, .bool weak, .int .i64 budget] W0 fun e w' => ∃ vS, e = .returned (.agg #[vS, .int .i64 R.ending, .int .i64 R.nodes]) ∧ LLT w' vS R.sols ∧ W0.grownBy w' none from KS.get)
 clear KS h h2 h3 hbx0 hdb hM hR
 go_enter Tryz.func29, Tryz.ntmps29
 go_wp2_with (go_at_call 37; rw [← hW0]; refine KS'.get.mono ?_; rintro e w3 ⟨vS, rfl, hL, hg3⟩; obtain ⟨sa, sc, hvS⟩ := hL.ll.is; subst hvS; have bb := HBX.out w3 hg3; have b0 := cell_of bb 0 _ rfl; have b1 := cell_of bb 1 _ rfl; have b2 := cell_of bb 2 _ rfl; have z0 := frozen_of bb 0; have z1 := frozen_of bb 1; have z2 := frozen_of bb 2; have l4 := some_lt bb)
 refine bodyPost_ret (results_cell_row rfl _ _ w.heap.size 50 #[.slice sa R.sols.length sc, .int .i64 R.ending, .int .i64 R.nodes] (0, 0) _ rfl (set3_at bb) Tryz.underlying50 rfl (by kernel_rfl)) rfl ?_
 exact ⟨_, rfl, hL.turn (keep3 bb), set3_grown (hg0.trans hg3) (Nat.le_refl _)⟩
def rngI (lo hi : Int) : List Int := (List.range (hi - lo + 1).toNat).map fun (k : Nat) => lo + (k : Int)
theorem rngI_mem (lo hi x : Int) : x ∈ rngI lo hi ↔ lo ≤ x ∧ x ≤ hi := by
 unfold rngI
 rw [List.mem_map]
 constructor
 ·rintro ⟨k, hk, rfl⟩
  rw [List.mem_range] at hk
  omega
 ·rintro ⟨h1, h2⟩
  exact ⟨(x - lo).toNat, by rw [List.mem_range]; omega, by omega⟩
theorem rngI_nodup (lo hi : Int) : (rngI lo hi).Nodup := by
 unfold rngI List.Nodup
 rw [List.pairwise_map]
 exact List.nodup_range.imp (fun h e => h (by omega))
def boxV : List (Int × Int) → List (List Int)
 | [] => [[]]
 | v :: vs => (rngI v.1 v.2).flatMap fun x => (boxV vs).map (x :: ·)
def bdV (vars : List QVar) : List (Int × Int) := vars.map fun v => (v.low, v.high)
theorem box_mem : ∀ (vars : List QVar) (x : List Int), x ∈ boxV (bdV vars) ↔ asgF vars x = true
 | [], x => by
  cases x with
  | nil => simp [boxV, bdV, asgF]
  | cons a x => simp [boxV, bdV, asgF]
 | v :: vs, x => by
  show x ∈ (rngI v.low v.high).flatMap (fun y => (boxV (bdV vs)).map (y :: ·)) ↔ _
  rw [List.mem_flatMap]
  constructor
  ·rintro ⟨y, hy, hx⟩
   obtain ⟨r, hr, rfl⟩ := List.mem_map.1 hx
   have h1 := (rngI_mem _ _ _).1 hy
   have h2 := (box_mem vs r).1 hr
   simp [asgF, inP, h1, h2]
  ·intro h
   cases x with
   | nil => simp [asgF] at h
   | cons y r =>
    simp only [asgF, Bool.and_eq_true, inP, decide_eq_true_eq] at h
    exact ⟨y, (rngI_mem _ _ _).2 h.1, List.mem_map.2 ⟨r, (box_mem vs r).2 h.2, rfl⟩⟩
theorem box_nodup : ∀ vs : List (Int × Int), (boxV vs).Nodup
 | [] => by simp [boxV]
 | v :: vs => by
  have ih := box_nodup vs
  unfold boxV List.Nodup
  rw [List.pairwise_flatMap]
  refine ⟨fun x _ => ?_, (rngI_nodup v.1 v.2).imp (fun {a b} hab r hr s hs e => ?_)⟩
  ·rw [List.pairwise_map]
   exact ih.imp (fun h e => h (by injection e))
  ·obtain ⟨r', _, rfl⟩ := List.mem_map.1 hr
   obtain ⟨s', _, rfl⟩ := List.mem_map.1 hs
   injection e with e1 e2
   exact hab e1
theorem cnt_rng {lo hi : Int} (h1 : -1000 ≤ lo) (h2 : hi ≤ 1000) : cntD (rngD lo hi) = (rngI lo hi).length := by
 rw [cntD_vals]
 refine List.Perm.length_eq ((List.perm_ext_iff_of_nodup ?_ (rngI_nodup lo hi)).2 (fun x => ?_))
 ·rw [valsD_eq]
  unfold List.Nodup
  rw [List.pairwise_map]
  exact (List.nodup_range.filter _).imp (fun h e => h (by omega))
 ·rw [valsD_mem, rngI_mem]
  constructor
  ·rintro ⟨p, hp, rfl, _⟩
   rw [rngD_bit _ _ h1] at hp
   simp at hp
   omega
  ·rintro ⟨q1, q2⟩
   refine ⟨(x + 1000).toNat, ?_, by omega, by omega⟩
   rw [rngD_bit _ _ h1]
   simp
   omega
theorem box_len : ∀ vs : List (Int × Int), (boxV vs).length = vs.foldr (fun v p => (rngI v.1 v.2).length * p) 1
 | [] => rfl
 | v :: vs => by
  have ih := box_len vs
  have key : ∀ (l : List Int), (l.flatMap fun x => (boxV vs).map (x :: ·)).length = l.length * (boxV vs).length := fun l => by
   induction l with
   | nil => simp
   | cons x l ih => rw [List.flatMap_cons, List.length_append, ih, List.length_map, List.length_cons, Nat.succ_mul, Nat.add_comm]
  show ((rngI v.1 v.2).flatMap fun x => (boxV vs).map (x :: ·)).length = (rngI v.1 v.2).length * vs.foldr (fun v p => (rngI v.1 v.2).length * p) 1
  rw [key, ih]
theorem prod_box : ∀ {V : List QVar}, (∀ v ∈ V, -1000 ≤ v.low ∧ v.low ≤ v.high ∧ v.high ≤ 1000) → prodV V = (boxV (bdV V)).length
 | [], _ => rfl
 | v :: V, h => by
  have ih := prod_box (V := V) (fun u hu => h u (by simp [hu]))
  rw [box_len] at ih ⊢
  have hv := h v (by simp)
  show cntD (rngD v.low v.high) * prodV V = (rngI v.low v.high).length * (bdV V).foldr (fun v p => (rngI v.1 v.2).length * p) 1
  rw [ih, cnt_rng hv.1 hv.2.2]
structure AllOf (V : List QVar) (C : List QCon) (order : Int) (r : SS) : Prop where
 ending : r.ending = 0
 perm : r.sols.Perm ((boxV (bdV V)).filter (suitsP V C))
 lex : order ≠ 1 → r.sols.Pairwise LexLt
theorem solve_all {V : List QVar} {C : List QCon} (hM : MdOk V C) (order : Int) (weak : Bool) (budget : Int) (hb : (V.length * (boxV (bdV V)).length + 1 : Int) ≤ budget) (hbox : (boxV (bdV V)).length < 100000) : AllOf V C order (solveS (mkK V C order weak budget)) ∧ 0 ≤ (solveS (mkK V C order weak budget)).nodes ∧ (solveS (mkK V C order weak budget)).nodes ≤ budget := by
 have s := solve_ok (mkK_ok (order := order) (weak := weak) (budget := budget) hM.vars hM.vlen hM.cons hM.clen)
 generalize solveS (mkK V C order weak budget) = r at *
 have hp : prodV (mkK V C order weak budget).vars = (boxV (bdV V)).length := prod_box hM.vars
 have hb0 : 0 ≤ budget := by
  have : (0 : Int) ≤ (V.length : Int) * ((boxV (bdV V)).length : Int) := Int.mul_nonneg (Int.natCast_nonneg _) (Int.natCast_nonneg _)
  omega
 have hmem : ∀ x ∈ r.sols, x ∈ boxV (bdV V) ∧ suitsP V C x = true := fun x hx => by
  have q : suitsP V C x = true := s.suits x hx
  exact ⟨(box_mem V x).2 (by unfold suitsP at q; simp at q; exact q.1), q⟩
 have hle : r.sols.length ≤ (boxV (bdV V)).length := by
  have q : r.sols.Perm ((boxV (bdV V)).filter (fun x => decide (x ∈ r.sols))) := (List.perm_ext_iff_of_nodup s.nd ((box_nodup _).filter _)).2 (fun x => by
   rw [List.mem_filter]
   exact ⟨fun h => ⟨(hmem x h).1, by simpa using h⟩, fun h => by simpa using h.2⟩)
  rw [q.length_eq]
  exact List.length_filter_le _ _
 refine ⟨?_, s.lo, s.hi hb0⟩
 rcases s.ends with ⟨e1, e2⟩ | ⟨e1, e2, e3⟩ | ⟨e1, e2, _⟩
 ·refine ⟨e1, (List.perm_ext_iff_of_nodup s.nd ((box_nodup _).filter _)).2 (fun x => ?_), s.lex⟩
  rw [List.mem_filter]
  exact ⟨fun h => hmem x h, fun h => e2 x h.2⟩
 ·rw [hp] at e3
  have e3 : r.nodes < (V.length : Int) * ((boxV (bdV V)).length : Int) + 1 := e3
  have e2 : budget ≤ r.nodes := e2
  omega
 ·omega
end
section
set_option maxHeartbeats 4000000
set_option maxRecDepth 100000
open Go.RowKit
variable {w w' : World}
def A45 : List (AS × List Pc) := [(.var [120] 4 5, [])]
theorem itoa_dig {k : Nat} (h : k < 10) : Lib.itoa (k : Int) = [UInt8.ofNat (48 + k)] := by
 unfold Lib.itoa
 rw [if_neg (by omega)]
 exact Lib.decDigits_one h
theorem A45_src : bn (srcA A45) = ⟨#[118, 97, 114, 32, 120, 58, 32, 52, 46, 46, 53, 59]⟩ := by
 have e4 : Lib.itoa 4 = [52] := itoa_dig (k := 4) (by decide)
 have e5 : Lib.itoa 5 = [53] := itoa_dig (k := 5) (by decide)
 show bn ([118, 97, 114] ++ ([32] ++ ([120] ++ ([58] ++ ([32] ++ (Lib.itoa 4 ++ ([46, 46] ++ (Lib.itoa 5 ++ ([59] ++ []))))))))) = _
 rw [e4, e5]
 rfl
theorem A45_ok : textOk A45 := fun p hp => by
 have : p = (.var [120] 4 5, []) := by simpa [A45] using hp
 subst this
 exact ⟨⟨⟨rfl, rfl⟩, ⟨by decide, by decide⟩, ⟨by decide, by decide⟩⟩, rfl⟩
theorem A45_fine : allFine E0 A45 := ⟨⟨⟨(fun p hp => by cases hp), (fun p hp => by cases hp)⟩, by decide, by decide, by decide, by decide⟩, trivial⟩
theorem lex_two {l : List (List Int)} {a b : List Int} (h : l.Perm [a, b]) (hp : l.Pairwise LexLt) (hn : ¬ LexLt b a) : l = [a, b] := by
 have hl := h.length_eq
 match l, hl with
 | [x, y], _ =>
  have hx : x ∈ [a, b] := h.mem_iff.1 (by simp)
  have hy : y ∈ [a, b] := h.mem_iff.1 (by simp)
  have hlt : LexLt x y := by simpa using hp
  have ha : a ∈ [x, y] := h.mem_iff.2 (by simp)
  have hb : b ∈ [x, y] := h.mem_iff.2 (by simp)
  simp only [List.mem_cons, List.not_mem_nil, or_false] at hx hy ha hb
  rcases hx with rfl | rfl
  ·rcases hy with rfl | rfl
   ·rcases hb with rfl | rfl <;> rfl
   ·rfl
  ·rcases hy with rfl | rfl
   ·exact absurd hlt hn
   ·rcases ha with rfl | rfl <;> rfl
theorem found_two {weak : Bool} : (solveS (mkK [⟨bn [120], 4, 5⟩] [] 0 weak 10)).sols = [[4], [5]] := by
 have hM : MdOk [⟨bn [120], 4, 5⟩] [] := by
  have q := src_ok A45_ok A45_fine (by have e := congrArg ByteArray.size A45_src; rw [bn_size] at e; rw [e]; decide)
  exact q
 obtain ⟨h1, _, _⟩ := solve_all hM 0 weak 10 (by decide) (by decide)
 have e : (boxV (bdV [⟨bn [120], 4, 5⟩])).filter (suitsP [⟨bn [120], 4, 5⟩] []) = [[4], [5]] := by decide
 have hp := h1.perm
 rw [e] at hp
 refine lex_two hp (h1.lex (by decide)) ?_
 rintro ⟨k, h1, h2⟩
 match k with
 | 0 => exact absurd h2 (by decide)
 | k + 1 => simp at h2
theorem ValsIn.cells {u : Value} {r : List Int} (h : ValsIn w u r) (hne : r ≠ []) : ∃ gv cv, u = .slice (some ⟨gv, 0, none⟩) r.length cv ∧ gv < w.heap.size ∧ ∀ (j : Nat) (x : Int), r[j]? = some x → w.cell? ⟨gv, j, none⟩ = some (.int .i64 x) := by
 rcases h with ⟨e, _⟩ | ⟨gv, cv, hR⟩
 ·exact absurd e hne
 ·refine ⟨gv, cv, hR.is, hR.lt, fun j x hx => ?_⟩
  have q := hR.at (sz := 1) (fun _ => rfl) hx 0 _ rfl
  rw [Nat.mul_one] at q
  exact q
theorem LL.row {a : Option Addr} {n c : Nat} {rows : List (List Int)} (h : LL w (.slice a n c) rows) {i : Nat} {r : List Int} (hr : rows[i]? = some r) (hne : r ≠ []) : ∃ g gv cv, a = some ⟨g, 0, none⟩ ∧ g < w.heap.size ∧ w.cell? ⟨g, i, none⟩ = some (.slice (some ⟨gv, 0, none⟩) r.length cv) ∧ gv < w.heap.size ∧ ∀ (j : Nat) (x : Int), r[j]? = some x → w.cell? ⟨gv, j, none⟩ = some (.int .i64 x) := by
 obtain ⟨g, u, e, h1, h2, h3⟩ := h.at_ hr
 obtain ⟨gv, cv, rfl, h4, h5⟩ := h3.cells hne
 exact ⟨g, gv, cv, e, h1, h2, h4, h5⟩
theorem kp_found {b : Nat} {V : List QVar} {C : List QCon} {t : List UInt8} (h : MdAt w b V C t) (hM : MdOk V C) (ht : PowTab w) (hdb : DbTab w) (order : Int) (weak : Bool) (ho1 : -9223372036854775808 ≤ order) (ho2 : order ≤ 9223372036854775807) (hb : (V.length * (boxV (bdV V)).length + 1 : Int) ≤ 1000000) (hbox : (boxV (bdV V)).length < 100000) : Calls Tryz.prog 22 #[.pointer (some ⟨b, 0, none⟩), .int .i64 order, .bool weak] w fun e w' => ∃ vS, e = .returned (.tuple #[vS, .bool true]) ∧ LLT w' vS (solveS (mkK V C (pickI order 2) weak 1000000)).sols ∧ w.grownBy w' none := by
 have hlen : (srcA A45).length ≤ 2000 := by have e := congrArg ByteArray.size A45_src; rw [bn_size] at e; rw [e]; decide
 have KM := Kept.mk (kp_model A45 A45_ok A45_fine hlen w ht)
 rw [A45_src] at KM
 have hM0 := src_ok A45_ok A45_fine hlen
 have KQ := Kept.mk (fun {W : World} {b0 : Nat} {t0 : List UInt8} (hg : w.grownBy W none) (hm : MdAt W b0 ((envOf E0 A45).V.map qv) (envOf E0 A45).C t0) => md_Solve hm hM0 (db_grown hdb hg) 0 weak 10 (by decide))
 have KR := Kept.mk (fun {W : World} (hg : w.grownBy W none) => md_Solve (h.grown hg) hM (db_grown hdb hg) (pickI order 2) weak 1000000 (by decide))
 have KP := Kept.mk (fun W => kp_pick order 2 W ho1 ho2 (by decide) (by decide))
 have hf2 := found_two (weak := weak)
 have e2 : (envOf E0 A45).V.map qv = [⟨bn [120], 4, 5⟩] := rfl
 have e3 : (envOf E0 A45).C = [] := rfl
 rw [e2, e3] at KQ
 rw [e2, e3] at KM
 obtain ⟨hA, hn0, hn1⟩ := solve_all hM (pickI order 2) weak 1000000 hb hbox
 have hend := hA.ending
 rw [hend] at KR
 generalize solveS (mkK V C (pickI order 2) weak 1000000) = R at *
 generalize hQ : solveS (mkK [⟨bn [120], 4, 5⟩] [] 0 weak 10) = Q at *
 have hrow : Q.sols.length = 2 := by rw [hf2]; rfl
 have HROW : Hid (Q.sols[0]? = some [4]) := by rw [Hid, hf2]; rfl
 generalize pickI order 2 = PO at *
 clear h hM ht hdb hA hend hf2 hM0 hlen hQ e2 e3
 go_enter Tryz.func22, Tryz.ntmps22
 go_wp2_with (first | (go_at_call 21; refine KM.get.mono ?_; rintro e w1 ⟨b0, rfl, hb0, hm1, hg1⟩) | (go_at_call 29; refine (KQ.get hg1 hm1).mono ?_; rintro e w2 ⟨vQ, rfl, hL2, hg2⟩; obtain ⟨qa, qc, hvQ⟩ := hL2.ll.is; subst hvQ; obtain ⟨g, gv, cv, rfl, q1, q2, q3, q4⟩ := hL2.ll.row HROW.out (by simp); have q5 := q4 0 4 rfl; clear q4 hL2))
 have hgA := ((hg1.trans hg2).trans (World.grownBy_alloc w2 (.cells #[.slice (some ⟨g, 0, none⟩) 2 qc, .int .i64 Q.ending, .int .i64 Q.nodes] 50) none))
 generalize w2.alloc (.cells #[.slice (some ⟨g, 0, none⟩) 2 qc, .int .i64 Q.ending, .int .i64 Q.nodes] 50) = W5 at *
 clear q1 q2 q3 q5 KQ KM hg1 hg2 hm1
 go_wp2_with (first | (go_at_call 16; refine (KP.get _).mono ?_; rintro e w6 ⟨rfl, rfl⟩) | (go_at_call 29; refine (KR.get hgA).mono ?_; rintro e w4 ⟨vR, rfl, hL4, hg4⟩; obtain ⟨ra, rc, hvR⟩ := hL4.ll.is; subst hvR))
 go_quiet (fail)
 go_wp2
 go_ret2
 exact ⟨_, rfl, (hL4.grown (World.grownBy_alloc _ _ _)).grown (grown_drewN' _ _ _), ((hgA.trans hg4).trans (World.grownBy_alloc _ _ _)).trans (grown_drewN' _ _ _)⟩
end
section
open Go.RowKit
theorem textPc_app : ∀ A B : List (AS × List Pc), textPc (A ++ B) = textPc A ++ textPc B
 | [], B => rfl
 | (a, b) :: r, B => by
  show a.pcs ++ (.sg [59] :: (b ++ textPc (r ++ B))) = (a.pcs ++ (.sg [59] :: (b ++ textPc r))) ++ textPc B
  rw [textPc_app r B]
  simp [List.append_assoc]
theorem srcA_app (A B : List (AS × List Pc)) : srcA (A ++ B) = srcA A ++ srcA B := by unfold srcA; rw [textPc_app, bytesP_app]
theorem srcA_cons (a : AS) (b : List Pc) (B : List (AS × List Pc)) : srcA ((a, b) :: B) = srcA [(a, b)] ++ srcA B := srcA_app [(a, b)] B
theorem srcA_one (a : AS) (b : List Pc) : srcA [(a, b)] = bytesP a.pcs ++ (59 :: bytesP b) := by
 show bytesP (a.pcs ++ (.sg [59] :: (b ++ []))) = _
 rw [List.append_nil, bytesP_app, bytesP_cons]
 rfl
theorem textOk_app {A B : List (AS × List Pc)} (h : textOk A) (k : textOk B) : textOk (A ++ B) := fun p hp => by
 rcases List.mem_append.1 hp with q | q
 ·exact h p q
 ·exact k p q
theorem dec_inj {u v : Nat} (h : Lib.decDigits u = Lib.decDigits v) : u = v := by
 have h1 := numTo_dec u
 have h2 := numTo_dec v
 rw [h, h2] at h1
 omega
theorem itoa_nat (k : Nat) : Lib.itoa (k : Int) = Lib.decDigits k := by
 unfold Lib.itoa
 rw [if_neg (by omega)]
 rfl
theorem nmK_inj {j k : Nat} (h : nmK j = nmK k) : j = k := by
 unfold nmK at h
 rw [itoa_nat, itoa_nat] at h
 injection h with _ h
 exact dec_inj h
theorem nmK_dig {k : Nat} (h : k < 10) : nmK k = [120, UInt8.ofNat (48 + k)] := by unfold nmK; rw [itoa_dig h]
theorem nmK_ok {k : Nat} (h : k < 10) : nmOk (nmK k) := by
 rw [nmK_dig h]
 have : k = 0 ∨ k = 1 ∨ k = 2 ∨ k = 3 ∨ k = 4 ∨ k = 5 ∨ k = 6 ∨ k = 7 ∨ k = 8 ∨ k = 9 := by omega
 rcases this with rfl | rfl | rfl | rfl | rfl | rfl | rfl | rfl | rfl | rfl <;> exact ⟨rfl, rfl⟩
def VN (n : Nat) (lo hi : Int) : List (List UInt8 × Int × Int) := (List.range n).map fun k => (nmK k, lo, hi)
theorem VN_succ (n : Nat) (lo hi : Int) : VN (n + 1) lo hi = VN n lo hi ++ [(nmK n, lo, hi)] := by simp [VN, List.range_succ]
theorem VN_len (n : Nat) (lo hi : Int) : (VN n lo hi).length = n := by simp [VN]
theorem VN_mem {n : Nat} {lo hi : Int} {p : List UInt8 × Int × Int} (h : p ∈ VN n lo hi) : ∃ k, k < n ∧ p = (nmK k, lo, hi) := by
 obtain ⟨k, hk, rfl⟩ := List.mem_map.1 h
 exact ⟨k, List.mem_range.1 hk, rfl⟩
theorem VN_in {n k : Nat} {lo hi : Int} (h : k < n) : (nmK k, lo, hi) ∈ VN n lo hi := List.mem_map.2 ⟨k, List.mem_range.2 h, rfl⟩
theorem inV_nm {n k : Nat} {lo hi : Int} {L : List (List UInt8 × List Int)} {C : List QCon} (h : k < n) : (Env.mk (VN n lo hi) L C).inV (nmK k) := ⟨_, VN_in h, rfl⟩
theorem varsA_env (lo hi : Int) : ∀ n : Nat, envOf E0 (varsA lo hi n) = ⟨VN n lo hi, [], []⟩
 | 0 => rfl
 | n + 1 => by
  show envOf E0 (varsA lo hi n ++ [(.var (nmK n) lo hi, [.nl])]) = _
  rw [envOf_app, varsA_env lo hi n, VN_succ]
  rfl
theorem varsA_fine {lo hi : Int} (h1 : -1000 ≤ lo) (h2 : lo ≤ hi) (h3 : hi ≤ 1000) : ∀ n : Nat, n ≤ 8 → allFine E0 (varsA lo hi n)
 | 0, _ => trivial
 | n + 1, h => by
  refine allFine_app (varsA_fine h1 h2 h3 n (by omega)) ?_
  rw [varsA_env]
  refine ⟨⟨⟨fun p hp e => ?_, fun p hp => by cases hp⟩, ?_, h1, h2, h3⟩, trivial⟩
  ·obtain ⟨j, hj, rfl⟩ := VN_mem hp
   have := nmK_inj e
   omega
  ·show (VN n lo hi).length < 8
   rw [VN_len]; omega
theorem varsA_ok {lo hi : Int} (h1 : -1000 ≤ lo) (h2 : lo ≤ hi) (h3 : hi ≤ 1000) : ∀ n : Nat, n ≤ 8 → textOk (varsA lo hi n)
 | 0, _ => fun p hp => by cases hp
 | n + 1, h => by
  refine textOk_app (varsA_ok h1 h2 h3 n (by omega)) (fun p hp => ?_)
  have : p = (.var (nmK n) lo hi, [.nl]) := by simpa using hp
  subst this
  exact ⟨⟨nmK_ok (by omega), ⟨by omega, by omega⟩, ⟨by omega, by omega⟩⟩, rfl⟩
theorem varsA_src (lo hi : Int) : ∀ n : Nat, srcA (varsA lo hi n) = varsB lo hi n
 | 0 => rfl
 | n + 1 => by
  show srcA (varsA lo hi n ++ [(.var (nmK n) lo hi, [.nl])]) = varsB lo hi n ++ varB n lo hi
  rw [srcA_app, varsA_src lo hi n, srcA_one]
  congr 1
  simp [bytesP, AS.pcs, Pc.bytes, varB]
end
section
open Go.RowKit
abbrev EN (n : Nat) (C : List QCon) : Env := ⟨VN n (-1) 3, [], C⟩
def stB (a : AS) : List UInt8 := bytesP a.pcs ++ [59]
structure PtOk (n : Nat) (a : AS) : Prop where
 ok : a.ok
 fine : ∀ C : List QCon, C.length < 16 → a.fine (EN n C)
 step : ∀ C : List QCon, a.step (EN n C) = EN n (C ++ [a.con (EN n [])])
 len : (stB a).length ≤ 70
def rowsA (L : List AS) : List (AS × List Pc) := L.map fun a => (a, [.nl])
def mkA (n : Nat) (L : List AS) : List (AS × List Pc) := varsA (-1) 3 n ++ rowsA L
def linesB (L : List (List UInt8)) : List UInt8 := L.flatMap fun t => t ++ [10]
def mkB (n : Nat) (L : List (List UInt8)) : List UInt8 := varsB (-1) 3 n ++ linesB L
theorem rowsA_src : ∀ L : List AS, srcA (rowsA L) = linesB (L.map stB)
 | [] => rfl
 | a :: L => by
  show srcA ((a, [.nl]) :: rowsA L) = (stB a ++ [10]) ++ linesB (L.map stB)
  rw [srcA_cons, rowsA_src L, srcA_one]
  simp [stB, bytesP, Pc.bytes]
theorem mkA_src (n : Nat) (L : List AS) : srcA (mkA n L) = mkB n (L.map stB) := by unfold mkA mkB; rw [srcA_app, varsA_src, rowsA_src]
theorem linesB_len : ∀ {L : List (List UInt8)}, (∀ t ∈ L, t.length ≤ 70) → (linesB L).length ≤ 71 * L.length
 | [], _ => Nat.le_refl _
 | t :: L, h => by
  have h1 := h t (by simp)
  have h2 := linesB_len (L := L) (fun u hu => h u (by simp [hu]))
  show ((t ++ [10]) ++ linesB L).length ≤ _
  simp only [List.length_append, List.length_cons, List.length_nil]
  omega
theorem mkA_ok {n : Nat} (hn : n ≤ 8) {L : List AS} (h : ∀ a ∈ L, PtOk n a) : textOk (mkA n L) := textOk_app (varsA_ok (by omega) (by omega) (by omega) n hn) (fun p hp => by
 obtain ⟨a, ha, rfl⟩ := List.mem_map.1 hp
 exact ⟨(h a ha).ok, rfl⟩)
theorem rowsA_env {n : Nat} : ∀ {L : List AS} {C : List QCon}, (∀ a ∈ L, PtOk n a) → envOf (EN n C) (rowsA L) = EN n (C ++ L.map (AS.con (EN n [])))
 | [], C, _ => by simp [rowsA, envOf]
 | a :: L, C, h => by
  show envOf (a.step (EN n C)) (rowsA L) = _
  rw [(h a (by simp)).step, rowsA_env (fun u hu => h u (by simp [hu]))]
  simp [List.append_assoc]
theorem rowsA_fine {n : Nat} : ∀ {L : List AS} {C : List QCon}, (∀ a ∈ L, PtOk n a) → C.length + L.length ≤ 16 → allFine (EN n C) (rowsA L)
 | [], C, _, _ => trivial
 | a :: L, C, h, hl => by
  have hl' : C.length + (L.length + 1) ≤ 16 := by simpa using hl
  refine ⟨(h a (by simp)).fine C (by omega), ?_⟩
  show allFine (a.step (EN n C)) (rowsA L)
  rw [(h a (by simp)).step]
  exact rowsA_fine (fun u hu => h u (by simp [hu])) (by simp; omega)
def mkC (n : Nat) (L : List AS) : List QCon := L.map (AS.con (EN n []))
theorem mkA_env {n : Nat} {L : List AS} (h : ∀ a ∈ L, PtOk n a) : envOf E0 (mkA n L) = EN n (mkC n L) := by
 unfold mkA
 rw [envOf_app, varsA_env]
 have q := rowsA_env (C := []) h
 rw [List.nil_append] at q
 exact q
theorem mkA_fine {n : Nat} (hn : n ≤ 8) {L : List AS} (h : ∀ a ∈ L, PtOk n a) (hl : L.length ≤ 16) : allFine E0 (mkA n L) := by
 refine allFine_app (varsA_fine (by omega) (by omega) (by omega) n hn) ?_
 rw [varsA_env]
 exact rowsA_fine (C := []) h (by simp; omega)
theorem mkA_len {n : Nat} (hn : n ≤ 4) {L : List AS} (h : ∀ a ∈ L, PtOk n a) (hl : L.length ≤ 16) : (srcA (mkA n L)).length ≤ 1400 := by
 rw [mkA_src]
 have h1 := varsB_len (lo := -1) (hi := 3) (itoa_len (by omega) (by omega)) (itoa_len (by omega) (by omega)) (k := n) (by omega)
 have h2 := linesB_len (L := L.map stB) (fun t ht => by obtain ⟨a, ha, rfl⟩ := List.mem_map.1 ht; exact (h a ha).len)
 rw [List.length_map] at h2
 unfold mkB
 rw [List.length_append]
 omega
def pV (n : Nat) : List QVar := (VN n (-1) 3).map qv
theorem pV_len (n : Nat) : (pV n).length = n := by unfold pV; rw [List.length_map, VN_len]
theorem mk_md {n : Nat} (hn : n ≤ 4) {L : List AS} (h : ∀ a ∈ L, PtOk n a) (hl : L.length ≤ 16) : MdOk (pV n) (mkC n L) := by
 have q := src_ok (mkA_ok (by omega) h) (mkA_fine (by omega) h hl) (by have := mkA_len hn h hl; omega)
 rw [mkA_env h] at q
 exact q
theorem p_box {n : Nat} (h1 : 1 ≤ n) (hn : n ≤ 4) : (n * (boxV (bdV (pV n))).length + 1 : Int) ≤ 1000000 ∧ (boxV (bdV (pV n))).length ≤ 625 := by
 rw [box_len]
 have : n = 1 ∨ n = 2 ∨ n = 3 ∨ n = 4 := by omega
 rcases this with rfl | rfl | rfl | rfl <;> decide
theorem pV_all {n : Nat} : ∀ v ∈ pV n, v.low = -1 ∧ v.high = 3 := fun v hv => by
 obtain ⟨p, hp, rfl⟩ := List.mem_map.1 hv
 obtain ⟨k, _, rfl⟩ := VN_mem hp
 exact ⟨rfl, rfl⟩
def ptX (n : Nat) (c : Int) : Nat := (pickI c n).toNat
def ptY (n : Nat) (c : Int) : Nat := (pickI (c.tdiv 7) n).toNat
def ptZ (n : Nat) (c : Int) : Nat := (pickI (c.tdiv 7 + 1) n).toNat
def ptK (c : Int) : Int := pickI (c.tdiv 49) 9 - 3
def ptR (c : Int) : Nat := (pickI (c.tdiv 11) 3).toNat
def ptS (c : Int) : Nat := (pickI c 5).toNat
def ptA (n : Nat) (c : Int) : AS :=
 if ptS c = 0 then .lin ⟨false, none, nmK (ptX n c)⟩ [⟨false, some 2, nmK (ptY n c)⟩] (ptR c) (ptK c)
 else if ptS c = 1 then .lin ⟨false, none, nmK (ptX n c)⟩ [⟨true, none, nmK (ptY n c)⟩] 1 (ptK c)
 else if ptS c = 2 then .diff (nmK (ptX n c)) [nmK (ptZ n c)]
 else if ptS c = 3 then .lin ⟨false, some (-3), nmK (ptX n c)⟩ [] 2 (ptK c)
 else .lin ⟨false, none, nmK (ptY n c)⟩ [] (ptR c) (ptK c)
theorem nm2 {k : Nat} (h : k < 10) : (nmK k).length = 2 := by rw [nmK_dig h]; rfl
theorem relB_len (r : Nat) : (relB r).length ≤ 2 := by unfold relB; split <;> decide
theorem lin_pt {n : Nat} {t : AT} {ts : List AT} {rel : Nat} {m : Int} (hn : n ≤ 8) (h0 : t.neg = false) (hl : ts.length ≤ 1) (h : ∀ u ∈ t :: ts, (∃ k, k < n ∧ u.n = nmK k) ∧ ∀ f, u.f = some f → -9 ≤ f ∧ f ≤ 9) (m1 : -100 ≤ m) (m2 : m ≤ 100) : PtOk n (.lin t ts rel m) := by
 have okU : ∀ u ∈ t :: ts, u.ok := fun u hu => by
  obtain ⟨⟨k, hk, e⟩, hf⟩ := h u hu
  exact ⟨by rw [e]; exact nmK_ok (by omega), fun f q => ⟨by have := hf f q; omega, by have := hf f q; omega⟩⟩
 refine ⟨⟨okU t (by simp), fun u hu => okU u (by simp [hu]), ⟨by omega, by omega⟩, h0⟩, fun C hC => ⟨hC, by simp; omega, fun u hu => ?_, by omega, by omega⟩, fun C => rfl, ?_⟩
 ·obtain ⟨⟨k, hk, e⟩, hf⟩ := h u hu
  exact ⟨by rw [e]; exact inV_nm hk, fun f q => by have := hf f q; omega⟩
 ·have bl : ∀ u ∈ t :: ts, (bytesP u.body).length ≤ 19 := fun u hu => by
   obtain ⟨⟨k, hk, e⟩, hf⟩ := h u hu
   have e2 := nm2 (k := k) (by omega)
   unfold AT.body
   cases q : u.f with
   | none => simp [bytesP, Pc.bytes, e, e2]
   | some f =>
    have := itoa_len (m := f) (by have := hf f q; omega) (by have := hf f q; omega)
    simp [bytesP, Pc.bytes, e, e2]; omega
  have b1 := bl t (by simp)
  have r1 := relB_len rel
  have i1 := itoa_len (m := m) (by omega) (by omega)
  have sl : (bytesP (sumPc ts)).length ≤ 22 := by
   match ts, hl, bl with
   | [], _, _ => simp [sumPc, bytesP]
   | [u], _, bl =>
    have b2 := bl u (by simp)
    show (bytesP (.sp :: .sg (if u.neg then [45] else [43]) :: .sp :: (u.body ++ []))).length ≤ 22
    rw [List.append_nil]
    cases u.neg <;> simp [bytesP_cons, Pc.bytes] <;> omega
   | _ :: _ :: _, hl, _ => simp at hl
  show (bytesP (.word [108, 105, 110] :: .sp :: linPc t ts rel m) ++ [59]).length ≤ 70
  unfold linPc
  rw [bytesP_cons, bytesP_cons, bytesP_app, bytesP_app]
  generalize bytesP t.body = X at *
  generalize bytesP (sumPc ts) = Y at *
  simp [bytesP, Pc.bytes]
  omega
theorem diff_pt {n x z : Nat} (hn : n ≤ 8) (hx : x < n) (hz : z < n) : PtOk n (.diff (nmK x) [nmK z]) := by
 refine ⟨⟨nmK_ok (by omega), fun m hm => ?_⟩, fun C hC => ⟨hC, by simp, fun m hm => ?_⟩, fun C => rfl, ?_⟩
 ·obtain rfl : m = nmK z := by simpa using hm
  exact nmK_ok (by omega)
 ·have : m = nmK x ∨ m = nmK z := by simpa using hm
  rcases this with rfl | rfl
  ·exact inV_nm hx
  ·exact inV_nm hz
 ·have h1 := nm2 (k := x) (by omega)
  have h2 := nm2 (k := z) (by omega)
  simp [stB, AS.pcs, serPc, bytesP, Pc.bytes, h1, h2]
theorem pick_lt {c : Int} {n : Nat} (hn : 1 ≤ n) : (pickI c n).toNat < n := by
 have := pickI_bd c n (by omega)
 omega
theorem ptA_ok {n : Nat} (h1 : 1 ≤ n) (hn : n ≤ 4) (c : Int) : PtOk n (ptA n c) := by
 have hx : ptX n c < n := pick_lt h1
 have hy : ptY n c < n := pick_lt h1
 have hz : ptZ n c < n := pick_lt h1
 have hk := pickI_bd (c.tdiv 49) 9 (by decide)
 have k1 : -100 ≤ ptK c := by unfold ptK; omega
 have k2 : ptK c ≤ 100 := by unfold ptK; omega
 unfold ptA
 split
 ·refine lin_pt (by omega) rfl (by simp) (fun u hu => ?_) k1 k2
  have : u = ⟨false, none, nmK (ptX n c)⟩ ∨ u = ⟨false, some 2, nmK (ptY n c)⟩ := by simpa using hu
  rcases this with rfl | rfl
  ·exact ⟨⟨_, hx, rfl⟩, fun f hf => by cases hf⟩
  ·exact ⟨⟨_, hy, rfl⟩, fun f hf => by cases hf; omega⟩
 split
 ·refine lin_pt (by omega) rfl (by simp) (fun u hu => ?_) k1 k2
  have : u = ⟨false, none, nmK (ptX n c)⟩ ∨ u = ⟨true, none, nmK (ptY n c)⟩ := by simpa using hu
  rcases this with rfl | rfl
  ·exact ⟨⟨_, hx, rfl⟩, fun f hf => by cases hf⟩
  ·exact ⟨⟨_, hy, rfl⟩, fun f hf => by cases hf⟩
 split
 ·exact diff_pt (by omega) hx hz
 split
 ·refine lin_pt (by omega) rfl (by simp) (fun u hu => ?_) k1 k2
  obtain rfl : u = ⟨false, some (-3), nmK (ptX n c)⟩ := by simpa using hu
  exact ⟨⟨_, hx, rfl⟩, fun f hf => by cases hf; omega⟩
 ·refine lin_pt (by omega) rfl (by simp) (fun u hu => ?_) k1 k2
  obtain rfl : u = ⟨false, none, nmK (ptY n c)⟩ := by simpa using hu
  exact ⟨⟨_, hy, rfl⟩, fun f hf => by cases hf⟩
def ptL (n : Nat) (raw : List Int) : List AS := (raw.take 8).map (ptA n)
theorem ptL_ok {n : Nat} (h1 : 1 ≤ n) (hn : n ≤ 4) (raw : List Int) : (∀ a ∈ ptL n raw, PtOk n a) ∧ (ptL n raw).length ≤ 8 := by
 refine ⟨fun a ha => ?_, by simp [ptL, List.length_take]; omega⟩
 obtain ⟨c, _, rfl⟩ := List.mem_map.1 ha
 exact ptA_ok h1 hn c
end
section
open Go.RowKit
variable {w w' : World}
def ap (a b : List UInt8) : List UInt8 := a ++ b
theorem ap_len (a b : List UInt8) : (ap a b).length = a.length + b.length := List.length_append
theorem bn_ap (a b : List UInt8) : bn a ++ bn b = bn (ap a b) := bn_app a b
theorem bn_mk_ap (a : List UInt8) (xs : Array UInt8) : bn a ++ ⟨xs⟩ = bn (ap a xs.toList) := bn_app a xs.toList
theorem mk_bn_ap (a : List UInt8) (xs : Array UInt8) : (⟨xs⟩ : ByteArray) ++ bn a = bn (ap xs.toList a) := bn_app xs.toList a
attribute [local go_sem] bn_ap bn_mk_ap mk_bn_ap bn_size mk_size ap_len List.length_cons List.length_nil
end
section
set_option maxHeartbeats 2000000
set_option maxRecDepth 100000
open Go.RowKit
variable {w w' wr : World}
def SRow (w : World) (v : Value) (L : List (List UInt8)) : Prop := (L = [] ∧ v = .slice none 0 0) ∨ ∃ g cap, v = .slice (some ⟨g, 0, none⟩) L.length cap ∧ g < w.heap.size ∧ (∀ (i : Nat) t, L[i]? = some t → w.cell? ⟨g, i, none⟩ = some (.string (bn t))) ∧ L.length ≤ cap
theorem SRow.is {v : Value} {L : List (List UInt8)} (h : SRow w v L) : ∃ a c, v = .slice a L.length c := by
 rcases h with ⟨rfl, e⟩ | ⟨g, cap, e, _⟩
 ·exact ⟨_, _, e⟩
 ·exact ⟨_, _, e⟩
theorem SRow.grown {v : Value} {L : List (List UInt8)} (h : SRow w v L) (hg : w.grownBy w' none) : SRow w' v L := by
 rcases h with h | ⟨g, cap, e, h1, h2, h3⟩
 ·exact .inl h
 ·exact .inr ⟨g, cap, e, Nat.lt_of_lt_of_le h1 hg.size, fun i t ht => hg.cell (h2 i t ht) (by simp), h3⟩
theorem SRow.at_ {a : Option Addr} {n c : Nat} {L : List (List UInt8)} (h : SRow w (.slice a n c) L) {i : Nat} {t : List UInt8} (ht : L[i]? = some t) : ∃ g, a = some ⟨g, 0, none⟩ ∧ g < w.heap.size ∧ w.cell? ⟨g, i, none⟩ = some (.string (bn t)) ∧ L.length ≤ c := by
 rcases h with ⟨rfl, _⟩ | ⟨g, cap, e, h1, h2, h3⟩
 ·simp at ht
 ·injection e with e1 e2 e3
  subst e1 e3
  exact ⟨g, rfl, h1, h2 i t ht, h3⟩
def strV (L : List (List UInt8)) : List Value := L.map fun t => .string (bn t)
theorem strV_one (L : List (List UInt8)) : ∀ u ∈ strV L, u.oneCell' = true := fun u hu => by
 obtain ⟨t, _, rfl⟩ := List.mem_map.1 hu
 rfl
theorem add_at (g j : Nat) : (⟨g, 0, none⟩ : Addr).add j = ⟨g, j, none⟩ := by unfold Addr.add; split <;> simp_all
theorem own_srow {B n : Nat} {v : Value} {L : List (List UInt8)} (h : w.ownsRow B 9 1 v n (strV L)) : SRow w v L := by
 have hl : L.length = n := by have := h.1; simpa [strV] using this
 subst hl
 rcases h.2 with ⟨q1, q2⟩ | ⟨g, cap, cur, q1, q2, q3, q4, q5, q6, q7⟩
 ·exact .inl ⟨List.length_eq_zero_iff.1 q2, q1⟩
 ·refine .inr ⟨g, cap, q1, some_lt q3, fun i t ht => ?_, q4⟩
  have q := h.cells (g := g) (by rw [q1]; rfl) i (.string (bn t)) (by unfold strV; rw [List.getElem?_map, ht]; rfl)
  rw [add_at] at q
  exact q
theorem own_gr {e s n : Nat} {v : Value} {xs : List Value} (hg : w.grownBy wr none) (ho : wr.ownsRow w.heap.size e s v n xs) (h : wr.grownBy w' v.ownBlock) : w.grownBy w' none := by
 rcases ho.2 with ⟨rfl, _⟩ | ⟨g, cap, cur, rfl, hB, _⟩
 ·exact hg.trans h
 ·exact grown_new hg hB h
def Src (w : World) (vx : Value) (m : Nat) (news : List Value) : Prop := (vx = .slice none 0 0 ∧ m = 0 ∧ news = []) ∨ ∃ ad c, vx = .slice (some ad) m c ∧ ∀ j u, news[j]? = some u → w.cell? (ad.add j) = some u
theorem wpList_append_src {w : World} {ops : Array Oper} {rest : List Oper} {o : Oper} {a : Act} {Q : Exit → Act → World → Prop} (hgd : o.guard = none) (s x : Operand) (t : TypeId) (ho : o.op = .call { callee := .builtin .append, args := #[s, x], argTypes := #[t, t] })
  (base : Nat) (e : TypeId) (i : TypeInfo) (z : Value) (size bytes : Nat) (ht : Tryz.prog.underlying t = some (.slice e)) (hi : Tryz.prog.info? e = some i) (hz : i.zero = some z)
  (hsize : i.size = size) (hby : i.bytes = bytes) (hzs : z.cells.size = size) (hsz : 0 < size) (v : Value) (n : Nat) (xs : List Value) (hs : a.eval s = v) (hown : w.ownsRow base e size v n xs)
  (vx : Value) (m : Nat) (news : List Value) (hx : a.eval x = vx) (hsrc : Src w vx m news) (hl : news.length = m * size) (h1 : ∀ u ∈ news, u.oneCell' = true)
  (h63 : n + m ≤ maxLen) (hbytes : (n + m) * bytes ≤ 140737488355328) (hbase : base ≤ w.heap.size)
  (h : ∀ v' w', w'.ownsRow base e size v' (n + m) (xs ++ news) → w.grownBy w' v.ownBlock → wpList Tryz.prog ops Q rest (a.put o.dst v') w') :
  wpList Tryz.prog ops Q (o :: rest) a w := by
 refine wpList_plain hgd fun K hK => ?_
 have key : ∃ v' w', (Builtin.append_ #[t, t] o.type #[v, vx]).run Tryz.prog w = .ok v' w' ∧ w'.ownsRow base e size v' (n + m) (xs ++ news) ∧ w.grownBy w' v.ownBlock := by
  rcases hsrc with ⟨rfl, rfl, rfl⟩ | ⟨ad, c, rfl, hn⟩
  ·exact ⟨v, w, run_append_owned_none (P := Tryz.prog) (w := w) base t o.type e i size ht hi v n xs hown, by rw [List.append_nil]; exact hown, grown_refl _ _⟩
  ·obtain ⟨v', w', hr, h2, h3, _⟩ := run_append_own_at (P := Tryz.prog) w base t o.type e i z size bytes ht hi hz hsize hby hzs hsz v n xs hown ad m c news hl hn h1 h63 hbytes hbase
   exact ⟨v', w', hr, h2, h3⟩
 obtain ⟨v', w', hr, h2, h3⟩ := key
 unfold Oper.wp execOp
 simp only [ho, resolve, invoke, builtin, Sem.run_bind, Sem.run_pure, Result.andThen_ok, List.map_toArray, List.map_cons, List.map_nil, hs, hx, hr]
 exact hK _ _ (h v' w' h2 h3)
theorem linesB_snoc (L : List (List UInt8)) (t : List UInt8) : linesB (L ++ [t]) = linesB L ++ (t ++ [10]) := by simp [linesB]
attribute [local go_sem] bn_ap bn_mk_ap mk_bn_ap bn_size mk_size ap_len List.length_cons List.length_nil
theorem kp_text (n : Nat) {v : Value} {L : List (List UInt8)} (hS : SRow w v L) (hn : n ≤ 4) (hl : L.length ≤ 16) (hb : ∀ t ∈ L, t.length ≤ 70) : Calls Tryz.prog 25 #[.int .i64 (n : Int), v] w fun e w' => e = .returned (.string (bn (mkB n L))) ∧ w.grownBy w' none := by
 obtain ⟨a, c, rfl⟩ := hS.is
 have KV := Kept.mk (fun W => kp_vars n (-1) 3 W (by omega) (by omega) (by omega) (by omega) (by omega))
 have hvb := varsB_len (lo := -1) (hi := 3) (itoa_len (by omega) (by omega)) (itoa_len (by omega) (by omega)) (k := n) (by omega)
 have HS := hide hS
 have HB : Hid (∀ i, i ≤ L.length → (linesB (L.take i)).length ≤ 71 * 16) := fun i hi => by
  have := linesB_len (L := L.take i) (fun t ht => hb t (List.mem_of_mem_take ht))
  rw [List.length_take] at this
  omega
 have HT : Hid (∀ (i : Nat) (t : List UInt8), L[i]? = some t → t.length ≤ 70) := fun i t ht => hb t (List.mem_of_getElem? ht)
 have HM : Hid (mkB n L = varsB (-1) 3 n ++ linesB L) := rfl
 generalize mkB n L = M at *
 generalize varsB (-1) 3 n = VB at *
 clear hS hb
 go_enter Tryz.func25, Tryz.ntmps25
 go_wp2_with (go_at_call 17; refine (KV.get _).mono ?_; rintro e w1 ⟨rfl, hg1⟩)
 go_loopw [5, 6] (fun vs vi wr => ∃ i : Nat, i ≤ L.length ∧ vi = .int .i64 i ∧ vs = .string (bn (VB ++ linesB (L.take i))) ∧ w.grownBy wr none) (fun _ vi _ => L.length - (intOf vi).toNat)
 case atStart => exact ⟨0, Nat.zero_le _, rfl, by simp [linesB], hg1⟩
 case round =>
  obtain ⟨i, hi, rfl, rfl, hg⟩ := hrel
  by_cases hlt : i < L.length
  ·obtain ⟨t, ht⟩ : ∃ t, L[i]? = some t := ⟨L[i], List.getElem?_eq_getElem hlt⟩
   obtain ⟨g, rfl, q1, q2, q3⟩ := HS.out.at_ ht
   have q2' := hg.cell q2 (by simp)
   have q1' : g < wr.heap.size := Nat.lt_of_lt_of_le q1 hg.size
   have lb := HB.out i hi
   have lt := HT.out i t ht
   have hlt2 : (i : Int) < L.length := by omega
   have h02 : (0 : Int) ≤ i := by omega
   have HE : Hid (VB ++ linesB (L.take (i + 1)) = ap (ap (VB ++ linesB (L.take i)) t) [10]) := by
    rw [Hid, List.take_add_one, ht]
    show VB ++ linesB (L.take i ++ [t]) = _
    rw [linesB_snoc]
    simp [ap, List.append_assoc]
   have lq : (VB ++ linesB (L.take i)).length ≤ 1400 := by rw [List.length_append]; omega
   have HI : Hid (i + 1 ≤ L.length ∧ L.length - (i + 1) < L.length - i) := ⟨hlt, by omega⟩
   have HGR := hide hg
   generalize VB ++ linesB (L.take i) = B at *
   clear ht q1 q2 hg hlt q3
   go_wp2
   go_roundw
   case rel => exact ⟨i + 1, HI.out.1, by go_num, by rw [HE.out], HGR.out⟩
   case measure => simp [intOf]; omega
  ·obtain rfl : i = L.length := by omega
   rw [List.take_of_length_le (Nat.le_refl _), ← HM.out]
   go_wp2
   go_ret
   exact ⟨rfl, hg⟩
end
section
set_option maxHeartbeats 8000000
set_option maxRecDepth 100000
open Go.RowKit
variable {w w' wr : World}
def RawIn (w : World) (v : Value) (raw : List Int) : Prop := ∃ a c, v = .slice a raw.length c ∧ ∀ j x, raw[j]? = some x → ∃ g off, a = some ⟨g, off, none⟩ ∧ g < w.heap.size ∧ w.cell? ⟨g, off + j, none⟩ = some (.int .i64 x)
theorem RawIn.is {v : Value} {raw : List Int} (h : RawIn w v raw) : ∃ a c, v = .slice a raw.length c := by
 obtain ⟨a, c, e, _⟩ := h
 exact ⟨a, c, e⟩
theorem RawIn.at_ {a : Option Addr} {n c : Nat} {raw : List Int} (h : RawIn w (.slice a n c) raw) {j : Nat} {x : Int} (hx : raw[j]? = some x) : ∃ g off, a = some ⟨g, off, none⟩ ∧ g < w.heap.size ∧ w.cell? ⟨g, off + j, none⟩ = some (.int .i64 x) := by
 obtain ⟨a', c', e, k⟩ := h
 injection e with e1 _ _
 subst e1
 exact k j x hx
theorem infoStr : (Tryz.prog.info? 9).map (fun i => (i.zero, i.size, i.bytes)) = some (some (.string .empty), 1, 16) := by kernel_rfl
def ptT (s : Nat) (A B Z R K : List UInt8) : List UInt8 :=
 if s = 0 then ap (ap (ap (ap (ap (ap (ap (ap [108, 105, 110, 32] A) [32, 43, 32, 50, 32, 42, 32]) B) [32]) R) [32]) K) [59]
 else if s = 1 then ap (ap (ap (ap (ap (ap [108, 105, 110, 32] A) [32, 45, 32]) B) [32, 33, 61, 32]) K) [59]
 else if s = 2 then ap (ap (ap (ap [100, 105, 102, 102, 32] A) [44, 32]) Z) [59]
 else if s = 3 then ap (ap (ap (ap [108, 105, 110, 32, 45, 51, 32, 42, 32] A) [32, 60, 61, 32]) K) [59]
 else ap (ap (ap (ap (ap (ap [108, 105, 110, 32] B) [32]) R) [32]) K) [59]
theorem ptT_is (n : Nat) (c : Int) : stB (ptA n c) = ptT (ptS c) (nmK (ptX n c)) (nmK (ptY n c)) (nmK (ptZ n c)) (relB (ptR c)) (Lib.itoa (ptK c)) := by
 have e2 : Lib.itoa 2 = [50] := itoa_dig (k := 2) (by decide)
 have e3 : Lib.itoa (-3) = [45, 51] := by rw [itoa_neg (by decide)]; show 45 :: Lib.decDigits 3 = _; rw [Lib.decDigits_one (by decide)]; rfl
 unfold ptA ptT
 split
 ·simp [stB, AS.pcs, linPc, AT.body, sumPc, bytesP, Pc.bytes, ap, e2]
 split
 ·simp [stB, AS.pcs, linPc, AT.body, sumPc, bytesP, Pc.bytes, ap, relB]
 split
 ·simp [stB, AS.pcs, serPc, bytesP, Pc.bytes, ap]
 split
 ·simp [stB, AS.pcs, linPc, AT.body, sumPc, bytesP, Pc.bytes, ap, relB, e3]
 ·simp [stB, AS.pcs, linPc, AT.body, sumPc, bytesP, Pc.bytes, ap]
theorem ptL_take {n : Nat} {raw : List Int} {i : Nat} {c : Int} (h : raw[i]? = some c) (h8 : i < 8) : ((ptL n raw).map stB).take (i + 1) = ((ptL n raw).map stB).take i ++ [stB (ptA n c)] := by
 have e : ((ptL n raw).map stB)[i]? = some (stB (ptA n c)) := by
  unfold ptL
  rw [List.getElem?_map, List.getElem?_map, List.getElem?_take, if_pos h8, h]
  rfl
 rw [List.take_add_one, e]
 rfl
theorem quo_bd {c k : Int} (h1 : -9223372036854775808 ≤ c) (h2 : c ≤ 9223372036854775807) (hk : 2 ≤ k) : -4611686018427387904 ≤ c.tdiv k ∧ c.tdiv k ≤ 4611686018427387904 := by
 have h3 : (c.tdiv k).natAbs ≤ c.natAbs / 2 := by rw [Int.natAbs_tdiv]; exact Nat.div_le_div_left (by omega) (by decide)
 omega
theorem rel_at (W : World) {rel : Nat} (h : rel < 3) : (W.alloc (.cells #[.string ⟨#[61]⟩, .string ⟨#[33, 61]⟩, .string ⟨#[60, 61]⟩] 9)).cell? ⟨W.heap.size, rel, none⟩ = some (.string (bn (relB rel))) := by
 refine cell_of (heap_alloc_new W _) rel _ ?_
 have : rel = 0 ∨ rel = 1 ∨ rel = 2 := by omega
 rcases this with rfl | rfl | rfl <;> rfl
theorem st_one' (t : List UInt8) : ∀ u ∈ [Value.string (bn t)], u.oneCell' = true := fun u hu => by
 obtain rfl : u = .string (bn t) := by simpa using hu
 rfl
theorem nat_of {a : Int} {k : Nat} (h : 0 ≤ a) (e : a.toNat = k) : a = (k : Int) := by omega
attribute [local go_sem] bn_ap bn_mk_ap mk_bn_ap bn_size mk_size ap_len List.length_cons List.length_nil
theorem kp_part (N : Int) {vr : Value} {raw : List Int} (hV : RawIn w vr raw) (hN1 : -9223372036854775808 ≤ N) (hN2 : N ≤ 9223372036854775807) (hrw : ∀ x ∈ raw, -9223372036854775808 ≤ x ∧ x ≤ 9223372036854775807) (n : Nat) (hn : 1 + pickI N 4 = (n : Int)) : Calls Tryz.prog 24 #[.int .i64 N, vr] w fun e w' => ∃ v, e = .returned (.tuple #[v, .int .i64 (n : Int)]) ∧ SRow w' v ((ptL n raw).map stB) ∧ w.grownBy w' none := by
 have KP := Kept.mk (fun W => kp_pick N 4 W hN1 hN2 (by decide) (by decide))
 obtain ⟨p1, p2⟩ := pickI_bd N 4 (by decide)
 have hn1 : 1 ≤ n := by omega
 have hn4 : n ≤ 4 := by omega
 generalize pickI N 4 = PN at *
 obtain ⟨ra, rc, rfl⟩ := hV.is
 have HV := hide hV
 have HR := hide hrw
 obtain ⟨Ls, hLs⟩ : ∃ Ls, Ls = (ptL n raw).map stB := ⟨_, rfl⟩
 have HLS := hide hLs
 rw [← hLs]
 have hLl : Ls.length = min 8 raw.length := by rw [hLs]; simp [ptL, List.length_take]
 obtain ⟨hl8, hlr, hlo⟩ : Ls.length ≤ 8 ∧ Ls.length ≤ raw.length ∧ (raw.length ≤ Ls.length ∨ 8 ≤ Ls.length) := by omega
 have HLO := hide hlo
 clear hV hrw hLs hLl hlo
 obtain ⟨i0, hi0⟩ : ∃ i, Tryz.prog.info? 9 = some i := ⟨_, rfl⟩
 have hz := infoStr
 rw [hi0] at hz
 simp only [Option.map_some, Option.some.injEq, Prod.mk.injEq] at hz
 obtain ⟨hz0, hz1, hz2⟩ := hz
 go_enter Tryz.func24, Tryz.ntmps24
 go_wp2_with (go_at_call 16; refine (KP.get _).mono ?_; rintro e w6 ⟨rfl, hww⟩; subst w6; clear KP)
 go_loopw [6, 7] (fun vl vi wr => ∃ i : Nat, i ≤ Ls.length ∧ vi = .int .i64 i ∧ wr.ownsRow w.heap.size 9 1 vl i (strV (Ls.take i)) ∧ w.grownBy wr none) (fun _ vi _ => Ls.length - (intOf vi).toNat)
 case atStart => exact ⟨0, Nat.zero_le _, rfl, ⟨rfl, .inl ⟨rfl, rfl⟩⟩, grown_refl _ _⟩
 case round =>
  obtain ⟨i, hi, rfl, hown, hg⟩ := hrel
  obtain ⟨la, lc, rfl⟩ := own_slice_n hown
  by_cases hlt : i < Ls.length
  ·obtain ⟨c, hc⟩ : ∃ c, raw[i]? = some c := ⟨raw[i]'(by omega), List.getElem?_eq_getElem (by omega)⟩
   obtain ⟨c1, c2⟩ := HR.out c (List.mem_of_getElem? hc)
   obtain ⟨g, off, rfl, k0, k1'⟩ := HV.out.at_ hc
   have k1 := hg.cell k1' (by simp)
   have k2 : g < wr.heap.size := Nat.lt_of_lt_of_le k0 hg.size
   have hr1 : (i : Int) < raw.length := by omega
   have hr2 : (i : Int) < 8 := by omega
   have h0i : (0 : Int) ≤ i := by omega
   have HE : Hid (Ls.take (i + 1) = Ls.take i ++ [ptT (ptS c) (nmK (ptX n c)) (nmK (ptY n c)) (nmK (ptZ n c)) (relB (ptR c)) (Lib.itoa (ptK c))]) := by rw [Hid, ← ptT_is, HLS.out]; exact ptL_take hc (by omega)
   have q7 := quo_bd c1 c2 (k := 7) (by decide)
   have q49 := quo_bd c1 c2 (k := 49) (by decide)
   have q11 := quo_bd c1 c2 (k := 11) (by decide)
   have KA := Kept.mk (fun W => kp_pick c n W c1 c2 (by omega) (by omega))
   have KB := Kept.mk (fun W => kp_pick (c.tdiv 7) n W (by omega) (by omega) (by omega) (by omega))
   have KZ := Kept.mk (fun W => kp_pick (c.tdiv 7 + 1) n W (by omega) (by omega) (by omega) (by omega))
   have KK := Kept.mk (fun W => kp_pick (c.tdiv 49) 9 W (by omega) (by omega) (by decide) (by decide))
   have KR := Kept.mk (fun W => kp_pick (c.tdiv 11) 3 W (by omega) (by omega) (by decide) (by decide))
   have KS := Kept.mk (fun W => kp_pick c 5 W c1 c2 (by decide) (by decide))
   have bx := pickI_bd c n (by omega)
   have by_ := pickI_bd (c.tdiv 7) n (by omega)
   have bz := pickI_bd (c.tdiv 7 + 1) n (by omega)
   have bk := pickI_bd (c.tdiv 49) 9 (by decide)
   have br := pickI_bd (c.tdiv 11) 3 (by decide)
   have bs := pickI_bd c 5 (by decide)
   have ek : ptK c = pickI (c.tdiv 49) 9 - 3 := rfl
   rw [ek] at HE
   clear ek
   rw [nat_of (k := ptX n c) bx.1 rfl] at KA bx
   rw [nat_of (k := ptY n c) by_.1 rfl] at KB by_
   rw [nat_of (k := ptZ n c) bz.1 rfl] at KZ bz
   rw [nat_of (k := ptR c) br.1 rfl] at KR br
   rw [nat_of (k := ptS c) bs.1 rfl] at KS bs
   generalize pickI (c.tdiv 49) 9 = K0 at *
   generalize ptX n c = x at *
   generalize ptY n c = y at *
   generalize ptZ n c = z at *
   generalize ptR c = rel at *
   generalize ptS c = s at *
   have NA := Kept.mk (fun W => kp_name x W (by omega))
   have NB := Kept.mk (fun W => kp_name y W (by omega))
   have NZ := Kept.mk (fun W => kp_name z W (by omega))
   have ND := Kept.mk (fun W => kp_digits (K0 - 3) W (by omega) (by omega))
   have la1 : (nmK x).length = 2 := nm2 (by omega)
   have la2 : (nmK y).length = 2 := nm2 (by omega)
   have la3 : (nmK z).length = 2 := nm2 (by omega)
   have la4 := itoa_len (m := K0 - 3) (by omega) (by omega)
   have la5 := relB_len rel
   have HRT : Hid (∀ W : World, (W.alloc (.cells #[.string ⟨#[61]⟩, .string ⟨#[33, 61]⟩, .string ⟨#[60, 61]⟩] 9)).cell? ⟨W.heap.size, rel, none⟩ = some (.string (bn (relB rel)))) := fun W => rel_at W (by omega)
   have hrl : rel < 3 := by omega
   generalize nmK x = A at *
   generalize nmK y = B at *
   generalize nmK z = Z at *
   generalize relB rel = R at *
   generalize Lib.itoa (K0 - 3) = D at *
   have hs5 : s = 0 ∨ s = 1 ∨ s = 2 ∨ s = 3 ∨ s = 4 := by omega
   have hgr := grown_refl wr none
   have HOWN := hide hown
   have HG := hide hg
   have HI : Hid (i + 1 ≤ Ls.length ∧ Ls.length - (i + 1) < Ls.length - i) := ⟨hlt, by omega⟩
   have hwr : w.heap.size ≤ wr.heap.size := hg.size
   clear hown hg hc k0 k1' hlt hi bx by_ bz br bs
   rcases hs5 with rfl | rfl | rfl | rfl | rfl
   ·have HE2 : Hid (strV (Ls.take (i + 1)) = strV (Ls.take i) ++ [.string (bn (ap (ap (ap (ap (ap (ap (ap (ap [108, 105, 110, 32] A) [32, 43, 32, 50, 32, 42, 32]) B) [32]) R) [32]) D) [59]))]) := by rw [Hid, HE.out]; simp [strV, ptT]
    clear HE
    go_wp2_with (first | (at_builtin; go_loud (refine wpList_append_src rfl _ _ 37 rfl w.heap.size 9 i0 (.string .empty) 1 16 Tryz.underlying37 hi0 hz0 hz1 hz2 rfl (by decide) _ _ _ rfl ((HOWN.out.kept hgr (own_none _)).alloc _) _ 1 [.string (bn (ap (ap (ap (ap (ap (ap (ap (ap [108, 105, 110, 32] A) [32, 43, 32, 50, 32, 42, 32]) B) [32]) R) [32]) D) [59]))] rfl (Or.inr ⟨_, _, rfl, World.news_of_block (heap_alloc_new _ _)⟩) rfl (st_one' _) ?c3 ?c4 ?c5 ?_)) | (go_at_call 16; refine (KA.get _).mono ?_; rintro e w6 ⟨rfl, hww⟩; subst w6; clear KA) | (go_at_call 16; refine (KB.get _).mono ?_; rintro e w6 ⟨rfl, hww⟩; subst w6; clear KB) | (go_at_call 16; refine (KK.get _).mono ?_; rintro e w6 ⟨rfl, hww⟩; subst w6; clear KK) | (go_at_call 16; refine (KR.get _).mono ?_; rintro e w6 ⟨rfl, hww⟩; subst w6; clear KR; have hrt := HRT.out w3; replace hgr := hgr.trans (World.grownBy_alloc w3 (.cells #[.string ⟨#[61]⟩, .string ⟨#[33, 61]⟩, .string ⟨#[60, 61]⟩] 9) none)) | (go_at_call 16; refine (KS.get _).mono ?_; rintro e w8 ⟨rfl, hww⟩; rw [← hww] at hgr; clear hww hrt KS) | (go_at_call 16; refine (KZ.get _).mono ?_; rintro e w6 ⟨rfl, hww⟩; subst w6; clear KZ) | (go_at_call 19; refine (NA.get _).mono ?_; rintro e w1 ⟨rfl, hg1⟩; replace hgr := hgr.trans hg1; clear hg1 NA) | (go_at_call 19; refine (NB.get _).mono ?_; rintro e w2 ⟨rfl, hg1⟩; replace hgr := hgr.trans hg1; clear hg1 NB) | (go_at_call 19; refine (NZ.get _).mono ?_; rintro e w5 ⟨rfl, hg1⟩; replace hgr := hgr.trans hg1; clear hg1 NZ) | (go_at_call 20; refine (ND.get _).mono ?_; rintro e w3 ⟨rfl, hg1⟩; replace hgr := hgr.trans hg1; clear hg1 ND))
    case c3 => unfold maxLen; omega
    case c4 => omega
    case c5 => have q := hgr.size; simp at q ⊢; omega
    intro v' w7 ho hg7
    obtain ⟨oa, oc, rfl⟩ := own_slice_n ho
    rw [← HE2.out] at ho
    have HN : Hid (w7.ownsRow w.heap.size 9 1 (.slice oa (i + 1) oc) (i + 1) (strV (Ls.take (i + 1))) ∧ w.grownBy w7 none) := ⟨ho, own_gr ((HG.out.trans hgr).trans (World.grownBy_alloc _ _ _)) ((HOWN.out.kept hgr (own_none _)).alloc _) hg7⟩
    clear ho hg7 hgr HOWN HG HE2
    go_wp2
    go_roundw
    case rel => exact ⟨i + 1, HI.out.1, by go_num, HN.out.1, HN.out.2⟩
    case measure => simp [intOf]; have := HI.out.2; omega
   ·have HE2 : Hid (strV (Ls.take (i + 1)) = strV (Ls.take i) ++ [.string (bn (ap (ap (ap (ap (ap (ap [108, 105, 110, 32] A) [32, 45, 32]) B) [32, 33, 61, 32]) D) [59]))]) := by rw [Hid, HE.out]; simp [strV, ptT]
    clear HE
    go_wp2_with (first | (at_builtin; go_loud (refine wpList_append_src rfl _ _ 37 rfl w.heap.size 9 i0 (.string .empty) 1 16 Tryz.underlying37 hi0 hz0 hz1 hz2 rfl (by decide) _ _ _ rfl ((HOWN.out.kept hgr (own_none _)).alloc _) _ 1 [.string (bn (ap (ap (ap (ap (ap (ap [108, 105, 110, 32] A) [32, 45, 32]) B) [32, 33, 61, 32]) D) [59]))] rfl (Or.inr ⟨_, _, rfl, World.news_of_block (heap_alloc_new _ _)⟩) rfl (st_one' _) ?c3 ?c4 ?c5 ?_)) | (go_at_call 16; refine (KA.get _).mono ?_; rintro e w6 ⟨rfl, hww⟩; subst w6; clear KA) | (go_at_call 16; refine (KB.get _).mono ?_; rintro e w6 ⟨rfl, hww⟩; subst w6; clear KB) | (go_at_call 16; refine (KK.get _).mono ?_; rintro e w6 ⟨rfl, hww⟩; subst w6; clear KK) | (go_at_call 16; refine (KR.get _).mono ?_; rintro e w6 ⟨rfl, hww⟩; subst w6; clear KR; have hrt := HRT.out w3; replace hgr := hgr.trans (World.grownBy_alloc w3 (.cells #[.string ⟨#[61]⟩, .string ⟨#[33, 61]⟩, .string ⟨#[60, 61]⟩] 9) none)) | (go_at_call 16; refine (KS.get _).mono ?_; rintro e w8 ⟨rfl, hww⟩; rw [← hww] at hgr; clear hww hrt KS) | (go_at_call 16; refine (KZ.get _).mono ?_; rintro e w6 ⟨rfl, hww⟩; subst w6; clear KZ) | (go_at_call 19; refine (NA.get _).mono ?_; rintro e w1 ⟨rfl, hg1⟩; replace hgr := hgr.trans hg1; clear hg1 NA) | (go_at_call 19; refine (NB.get _).mono ?_; rintro e w2 ⟨rfl, hg1⟩; replace hgr := hgr.trans hg1; clear hg1 NB) | (go_at_call 19; refine (NZ.get _).mono ?_; rintro e w5 ⟨rfl, hg1⟩; replace hgr := hgr.trans hg1; clear hg1 NZ) | (go_at_call 20; refine (ND.get _).mono ?_; rintro e w3 ⟨rfl, hg1⟩; replace hgr := hgr.trans hg1; clear hg1 ND))
    case c3 => unfold maxLen; omega
    case c4 => omega
    case c5 => have q := hgr.size; simp at q ⊢; omega
    intro v' w7 ho hg7
    obtain ⟨oa, oc, rfl⟩ := own_slice_n ho
    rw [← HE2.out] at ho
    have HN : Hid (w7.ownsRow w.heap.size 9 1 (.slice oa (i + 1) oc) (i + 1) (strV (Ls.take (i + 1))) ∧ w.grownBy w7 none) := ⟨ho, own_gr ((HG.out.trans hgr).trans (World.grownBy_alloc _ _ _)) ((HOWN.out.kept hgr (own_none _)).alloc _) hg7⟩
    clear ho hg7 hgr HOWN HG HE2
    go_wp2
    go_roundw
    case rel => exact ⟨i + 1, HI.out.1, by go_num, HN.out.1, HN.out.2⟩
    case measure => simp [intOf]; have := HI.out.2; omega
   ·have HE2 : Hid (strV (Ls.take (i + 1)) = strV (Ls.take i) ++ [.string (bn (ap (ap (ap (ap [100, 105, 102, 102, 32] A) [44, 32]) Z) [59]))]) := by rw [Hid, HE.out]; simp [strV, ptT]
    clear HE
    go_wp2_with (first | (at_builtin; go_loud (refine wpList_append_src rfl _ _ 37 rfl w.heap.size 9 i0 (.string .empty) 1 16 Tryz.underlying37 hi0 hz0 hz1 hz2 rfl (by decide) _ _ _ rfl ((HOWN.out.kept hgr (own_none _)).alloc _) _ 1 [.string (bn (ap (ap (ap (ap [100, 105, 102, 102, 32] A) [44, 32]) Z) [59]))] rfl (Or.inr ⟨_, _, rfl, World.news_of_block (heap_alloc_new _ _)⟩) rfl (st_one' _) ?c3 ?c4 ?c5 ?_)) | (go_at_call 16; refine (KA.get _).mono ?_; rintro e w6 ⟨rfl, hww⟩; subst w6; clear KA) | (go_at_call 16; refine (KB.get _).mono ?_; rintro e w6 ⟨rfl, hww⟩; subst w6; clear KB) | (go_at_call 16; refine (KK.get _).mono ?_; rintro e w6 ⟨rfl, hww⟩; subst w6; clear KK) | (go_at_call 16; refine (KR.get _).mono ?_; rintro e w6 ⟨rfl, hww⟩; subst w6; clear KR; have hrt := HRT.out w3; replace hgr := hgr.trans (World.grownBy_alloc w3 (.cells #[.string ⟨#[61]⟩, .string ⟨#[33, 61]⟩, .string ⟨#[60, 61]⟩] 9) none)) | (go_at_call 16; refine (KS.get _).mono ?_; rintro e w8 ⟨rfl, hww⟩; rw [← hww] at hgr; clear hww hrt KS) | (go_at_call 16; refine (KZ.get _).mono ?_; rintro e w6 ⟨rfl, hww⟩; subst w6; clear KZ) | (go_at_call 19; refine (NA.get _).mono ?_; rintro e w1 ⟨rfl, hg1⟩; replace hgr := hgr.trans hg1; clear hg1 NA) | (go_at_call 19; refine (NB.get _).mono ?_; rintro e w2 ⟨rfl, hg1⟩; replace hgr := hgr.trans hg1; clear hg1 NB) | (go_at_call 19; refine (NZ.get _).mono ?_; rintro e w5 ⟨rfl, hg1⟩; replace hgr := hgr.trans hg1; clear hg1 NZ) | (go_at_call 20; refine (ND.get _).mono ?_; rintro e w3 ⟨rfl, hg1⟩; replace hgr := hgr.trans hg1; clear hg1 ND))
    case c3 => unfold maxLen; omega
    case c4 => omega
    case c5 => have q := hgr.size; simp at q ⊢; omega
    intro v' w7 ho hg7
    obtain ⟨oa, oc, rfl⟩ := own_slice_n ho
    rw [← HE2.out] at ho
    have HN : Hid (w7.ownsRow w.heap.size 9 1 (.slice oa (i + 1) oc) (i + 1) (strV (Ls.take (i + 1))) ∧ w.grownBy w7 none) := ⟨ho, own_gr ((HG.out.trans hgr).trans (World.grownBy_alloc _ _ _)) ((HOWN.out.kept hgr (own_none _)).alloc _) hg7⟩
    clear ho hg7 hgr HOWN HG HE2
    go_wp2
    go_roundw
    case rel => exact ⟨i + 1, HI.out.1, by go_num, HN.out.1, HN.out.2⟩
    case measure => simp [intOf]; have := HI.out.2; omega
   ·have HE2 : Hid (strV (Ls.take (i + 1)) = strV (Ls.take i) ++ [.string (bn (ap (ap (ap (ap [108, 105, 110, 32, 45, 51, 32, 42, 32] A) [32, 60, 61, 32]) D) [59]))]) := by rw [Hid, HE.out]; simp [strV, ptT]
    clear HE
    go_wp2_with (first | (at_builtin; go_loud (refine wpList_append_src rfl _ _ 37 rfl w.heap.size 9 i0 (.string .empty) 1 16 Tryz.underlying37 hi0 hz0 hz1 hz2 rfl (by decide) _ _ _ rfl ((HOWN.out.kept hgr (own_none _)).alloc _) _ 1 [.string (bn (ap (ap (ap (ap [108, 105, 110, 32, 45, 51, 32, 42, 32] A) [32, 60, 61, 32]) D) [59]))] rfl (Or.inr ⟨_, _, rfl, World.news_of_block (heap_alloc_new _ _)⟩) rfl (st_one' _) ?c3 ?c4 ?c5 ?_)) | (go_at_call 16; refine (KA.get _).mono ?_; rintro e w6 ⟨rfl, hww⟩; subst w6; clear KA) | (go_at_call 16; refine (KB.get _).mono ?_; rintro e w6 ⟨rfl, hww⟩; subst w6; clear KB) | (go_at_call 16; refine (KK.get _).mono ?_; rintro e w6 ⟨rfl, hww⟩; subst w6; clear KK) | (go_at_call 16; refine (KR.get _).mono ?_; rintro e w6 ⟨rfl, hww⟩; subst w6; clear KR; have hrt := HRT.out w3; replace hgr := hgr.trans (World.grownBy_alloc w3 (.cells #[.string ⟨#[61]⟩, .string ⟨#[33, 61]⟩, .string ⟨#[60, 61]⟩] 9) none)) | (go_at_call 16; refine (KS.get _).mono ?_; rintro e w8 ⟨rfl, hww⟩; rw [← hww] at hgr; clear hww hrt KS) | (go_at_call 16; refine (KZ.get _).mono ?_; rintro e w6 ⟨rfl, hww⟩; subst w6; clear KZ) | (go_at_call 19; refine (NA.get _).mono ?_; rintro e w1 ⟨rfl, hg1⟩; replace hgr := hgr.trans hg1; clear hg1 NA) | (go_at_call 19; refine (NB.get _).mono ?_; rintro e w2 ⟨rfl, hg1⟩; replace hgr := hgr.trans hg1; clear hg1 NB) | (go_at_call 19; refine (NZ.get _).mono ?_; rintro e w5 ⟨rfl, hg1⟩; replace hgr := hgr.trans hg1; clear hg1 NZ) | (go_at_call 20; refine (ND.get _).mono ?_; rintro e w3 ⟨rfl, hg1⟩; replace hgr := hgr.trans hg1; clear hg1 ND))
    case c3 => unfold maxLen; omega
    case c4 => omega
    case c5 => have q := hgr.size; simp at q ⊢; omega
    intro v' w7 ho hg7
    obtain ⟨oa, oc, rfl⟩ := own_slice_n ho
    rw [← HE2.out] at ho
    have HN : Hid (w7.ownsRow w.heap.size 9 1 (.slice oa (i + 1) oc) (i + 1) (strV (Ls.take (i + 1))) ∧ w.grownBy w7 none) := ⟨ho, own_gr ((HG.out.trans hgr).trans (World.grownBy_alloc _ _ _)) ((HOWN.out.kept hgr (own_none _)).alloc _) hg7⟩
    clear ho hg7 hgr HOWN HG HE2
    go_wp2
    go_roundw
    case rel => exact ⟨i + 1, HI.out.1, by go_num, HN.out.1, HN.out.2⟩
    case measure => simp [intOf]; have := HI.out.2; omega
   ·have HE2 : Hid (strV (Ls.take (i + 1)) = strV (Ls.take i) ++ [.string (bn (ap (ap (ap (ap (ap (ap [108, 105, 110, 32] B) [32]) R) [32]) D) [59]))]) := by rw [Hid, HE.out]; simp [strV, ptT]
    clear HE
    go_wp2_with (first | (at_builtin; go_loud (refine wpList_append_src rfl _ _ 37 rfl w.heap.size 9 i0 (.string .empty) 1 16 Tryz.underlying37 hi0 hz0 hz1 hz2 rfl (by decide) _ _ _ rfl ((HOWN.out.kept hgr (own_none _)).alloc _) _ 1 [.string (bn (ap (ap (ap (ap (ap (ap [108, 105, 110, 32] B) [32]) R) [32]) D) [59]))] rfl (Or.inr ⟨_, _, rfl, World.news_of_block (heap_alloc_new _ _)⟩) rfl (st_one' _) ?c3 ?c4 ?c5 ?_)) | (go_at_call 16; refine (KA.get _).mono ?_; rintro e w6 ⟨rfl, hww⟩; subst w6; clear KA) | (go_at_call 16; refine (KB.get _).mono ?_; rintro e w6 ⟨rfl, hww⟩; subst w6; clear KB) | (go_at_call 16; refine (KK.get _).mono ?_; rintro e w6 ⟨rfl, hww⟩; subst w6; clear KK) | (go_at_call 16; refine (KR.get _).mono ?_; rintro e w6 ⟨rfl, hww⟩; subst w6; clear KR; have hrt := HRT.out w3; replace hgr := hgr.trans (World.grownBy_alloc w3 (.cells #[.string ⟨#[61]⟩, .string ⟨#[33, 61]⟩, .string ⟨#[60, 61]⟩] 9) none)) | (go_at_call 16; refine (KS.get _).mono ?_; rintro e w8 ⟨rfl, hww⟩; rw [← hww] at hgr; clear hww hrt KS) | (go_at_call 16; refine (KZ.get _).mono ?_; rintro e w6 ⟨rfl, hww⟩; subst w6; clear KZ) | (go_at_call 19; refine (NA.get _).mono ?_; rintro e w1 ⟨rfl, hg1⟩; replace hgr := hgr.trans hg1; clear hg1 NA) | (go_at_call 19; refine (NB.get _).mono ?_; rintro e w2 ⟨rfl, hg1⟩; replace hgr := hgr.trans hg1; clear hg1 NB) | (go_at_call 19; refine (NZ.get _).mono ?_; rintro e w5 ⟨rfl, hg1⟩; replace hgr := hgr.trans hg1; clear hg1 NZ) | (go_at_call 20; refine (ND.get _).mono ?_; rintro e w3 ⟨rfl, hg1⟩; replace hgr := hgr.trans hg1; clear hg1 ND))
    case c3 => unfold maxLen; omega
    case c4 => omega
    case c5 => have q := hgr.size; simp at q ⊢; omega
    intro v' w7 ho hg7
    obtain ⟨oa, oc, rfl⟩ := own_slice_n ho
    rw [← HE2.out] at ho
    have HN : Hid (w7.ownsRow w.heap.size 9 1 (.slice oa (i + 1) oc) (i + 1) (strV (Ls.take (i + 1))) ∧ w.grownBy w7 none) := ⟨ho, own_gr ((HG.out.trans hgr).trans (World.grownBy_alloc _ _ _)) ((HOWN.out.kept hgr (own_none _)).alloc _) hg7⟩
    clear ho hg7 hgr HOWN HG HE2
    go_wp2
    go_roundw
    case rel => exact ⟨i + 1, HI.out.1, by go_num, HN.out.1, HN.out.2⟩
    case measure => simp [intOf]; have := HI.out.2; omega
  ·obtain rfl : i = Ls.length := by omega
   rw [List.take_of_length_le (Nat.le_refl _)] at hown
   have HS := hide (own_srow hown)
   clear hown
   by_cases h8 : Ls.length < raw.length
   ·have hr1 : (Ls.length : Int) < raw.length := by omega
    have hr2 : (8 : Int) ≤ Ls.length := by have := HLO.out; omega
    go_wp2
    go_ret2
    exact ⟨_, rfl, HS.out, hg⟩
   ·have hr1 : (raw.length : Int) ≤ Ls.length := by omega
    go_wp2
    go_ret2
    exact ⟨_, rfl, HS.out, hg⟩
end
section
open Go.RowKit
theorem asg_all {lo hi : Int} : ∀ {vars : List QVar} {x : List Int}, (∀ v ∈ vars, v.low = lo ∧ v.high = hi) → (asgF vars x = true ↔ x.length = vars.length ∧ ∀ a ∈ x, lo ≤ a ∧ a ≤ hi)
 | [], [], _ => by simp [asgF]
 | [], a :: x, _ => by simp [asgF]
 | v :: vs, [], _ => by simp [asgF]
 | v :: vs, a :: x, h => by
  obtain ⟨h1, h2⟩ := h v (by simp)
  have ih := asg_all (vars := vs) (x := x) (fun u hu => h u (by simp [hu]))
  simp only [asgF, inP, Bool.and_eq_true, decide_eq_true_eq, ih, h1, h2, List.length_cons, List.mem_cons]
  constructor
  ·rintro ⟨q1, q2, q3⟩
   exact ⟨by omega, fun b hb => by rcases hb with rfl | hb; exact q1; exact q3 b hb⟩
  ·rintro ⟨q1, q2⟩
   exact ⟨q2 a (.inl rfl), by omega, fun b hb => q2 b (.inr hb)⟩
end
section
open Go.RowKit
variable {w w' wr : World}
abbrev PRows (n : Nat) (L : List AS) (a : List (List Int)) : Prop := a.Perm ((boxV (bdV (pV n))).filter (suitsP (pV n) (mkC n L)))
theorem PRows.row {n : Nat} {L : List AS} {a : List (List Int)} (h : PRows n L a) {r : List Int} (hr : r ∈ a) : r.length = n ∧ (∀ v ∈ r, -1 ≤ v ∧ v ≤ 3) ∧ suitsP (pV n) (mkC n L) r = true := by
 have q := (List.mem_filter.1 (h.mem_iff.1 hr))
 have e := (asg_all pV_all).1 ((box_mem _ _).1 q.1)
 rw [pV_len] at e
 exact ⟨e.1, e.2, q.2⟩
theorem PRows.len {n : Nat} (h1 : 1 ≤ n) (hn : n ≤ 4) {L : List AS} {a : List (List Int)} (h : PRows n L a) : a.length ≤ 625 := by
 rw [h.length_eq]
 exact Nat.le_trans (List.length_filter_le _ _) (p_box h1 hn).2
theorem lex_no {a b : List Int} (h : LexLt a b) (k : LexLt b a) : False := by
 obtain ⟨i, h1, h2⟩ := h
 obtain ⟨j, k1, k2⟩ := k
 rcases Nat.lt_trichotomy i j with q | q | q
 ·have := k1 i q; omega
 ·subst q; omega
 ·have := h1 j q; omega
theorem lex_eq : ∀ {a b : List (List Int)}, a.Perm b → a.Pairwise LexLt → b.Pairwise LexLt → a = b
 | [], b, h, _, _ => h.nil_eq
 | x :: a, [], h, _, _ => by have := h.length_eq; simp at this
 | x :: a, y :: b, h, ha, hb => by
  obtain ⟨a1, a2⟩ := List.pairwise_cons.1 ha
  obtain ⟨b1, b2⟩ := List.pairwise_cons.1 hb
  have e : x = y := by
   rcases List.mem_cons.1 (h.mem_iff.1 (List.mem_cons_self)) with q | q
   ·exact q
   ·rcases List.mem_cons.1 (h.mem_iff.2 (List.mem_cons_self (a := y) (l := b))) with p | p
    ·exact p.symm
    ·exact (lex_no (a1 y p) (b1 x q)).elim
  subst e
  rw [lex_eq ((List.perm_cons x).1 h) a2 b2]
theorem turn_rows {n k : Nat} {L : List AS} {a : List (List Int)} (h : PRows n (L.drop k ++ L.take k) a) : PRows n L a := by
 have e : suitsP (pV n) (mkC n (L.drop k ++ L.take k)) = suitsP (pV n) (mkC n L) := by
  funext r
  unfold suitsP mkC
  congr 1
  conv => rhs; rw [← List.take_append_drop k L]
  rw [List.map_append, List.map_append, List.all_append, List.all_append, Bool.and_comm]
 unfold PRows at h ⊢
 rw [e] at h
 exact h
theorem pt_model {n : Nat} (hn : n ≤ 4) {L : List AS} (h : ∀ a ∈ L, PtOk n a) (hl : L.length ≤ 16) (W : World) (ht : PowTab W) : Calls Tryz.prog 21 #[.string (bn (mkB n (L.map stB)))] W fun e w' => ∃ b t, e = .returned (.pointer (some ⟨b, 0, none⟩)) ∧ W.heap.size ≤ b ∧ MdAt w' b (pV n) (mkC n L) t ∧ W.grownBy w' none := by
 have q := kp_model (mkA n L) (mkA_ok (by omega) h) (mkA_fine (by omega) h hl) (by have := mkA_len hn h hl; omega) W ht
 rw [mkA_src, mkA_env h] at q
 refine q.mono ?_
 rintro e w' ⟨b, rfl, h1, h2, h3⟩
 exact ⟨b, _, rfl, h1, h2, h3⟩
theorem pt_found {n : Nat} (h1 : 1 ≤ n) (hn : n ≤ 4) {L : List AS} (h : ∀ a ∈ L, PtOk n a) (hl : L.length ≤ 16) {b : Nat} {t : List UInt8} (hm : MdAt w b (pV n) (mkC n L) t) (ht : PowTab w) (hdb : DbTab w) (order : Int) (weak : Bool) (ho1 : -9223372036854775808 ≤ order) (ho2 : order ≤ 9223372036854775807) : Calls Tryz.prog 22 #[.pointer (some ⟨b, 0, none⟩), .int .i64 order, .bool weak] w fun e w3 => ∃ vS, e = .returned (.tuple #[vS, .bool true]) ∧ LLT w3 vS (solveS (mkK (pV n) (mkC n L) (pickI order 2) weak 1000000)).sols ∧ w.grownBy w3 none := by
 have q := p_box h1 hn
 exact kp_found hm (mk_md hn h hl) ht hdb order weak ho1 ho2 (by rw [pV_len]; exact q.1) (by have := q.2; omega)
theorem pt_rows {n : Nat} (h1 : 1 ≤ n) (hn : n ≤ 4) {L : List AS} (h : ∀ a ∈ L, PtOk n a) (hl : L.length ≤ 16) (order : Int) (weak : Bool) : PRows n L (solveS (mkK (pV n) (mkC n L) order weak 1000000)).sols ∧ (order ≠ 1 → (solveS (mkK (pV n) (mkC n L) order weak 1000000)).sols.Pairwise LexLt) ∧ (solveS (mkK (pV n) (mkC n L) order weak 1000000)).ending = 0 := by
 have q := p_box h1 hn
 obtain ⟨A, _, _⟩ := solve_all (mk_md hn h hl) order weak 1000000 (by rw [pV_len]; exact q.1) (by have := q.2; omega)
 exact ⟨A.perm, A.lex, A.ending⟩
end
section
open Go.RowKit
variable {w w' wr : World}
def MF (w : World) (T : List UInt8) (order : Int) (weak : Bool) (rows : List (List Int)) : Prop := ∀ W, w.grownBy W none → Calls Tryz.prog 21 #[.string (bn T)] W fun e w' => ∃ b, e = .returned (.pointer (some ⟨b, 0, none⟩)) ∧ W.grownBy w' none ∧ ∀ W2, w'.grownBy W2 none → Calls Tryz.prog 22 #[.pointer (some ⟨b, 0, none⟩), .int .i64 order, .bool weak] W2 fun e w3 => ∃ vS, e = .returned (.tuple #[vS, .bool true]) ∧ LLT w3 vS rows ∧ W2.grownBy w3 none
theorem pt_mf {n : Nat} (h1 : 1 ≤ n) (hn : n ≤ 4) {L : List AS} (h : ∀ a ∈ L, PtOk n a) (hl : L.length ≤ 16) (ht : PowTab w) (hdb : DbTab w) (order : Int) (weak : Bool) (ho1 : -9223372036854775808 ≤ order) (ho2 : order ≤ 9223372036854775807) : MF w (mkB n (L.map stB)) order weak (solveS (mkK (pV n) (mkC n L) (pickI order 2) weak 1000000)).sols := fun W hW => by
 have tb : ∀ {W : World}, w.grownBy W none → PowTab W := fun {W} hg => tab_kept ht (fun k hk => hg.block k hk (by simp))
 refine (pt_model hn h hl W (tb hW)).mono ?_
 rintro e w' ⟨b, t, rfl, hb, hm, hg⟩
 exact ⟨b, rfl, hg, fun W2 hg2 => pt_found h1 hn h hl (hm.grown hg2) (tb ((hW.trans hg).trans hg2)) (db_grown hdb ((hW.trans hg).trans hg2)) order weak ho1 ho2⟩
attribute [local go_sem] bn_ap bn_mk_ap mk_bn_ap bn_size mk_size ap_len List.length_cons List.length_nil
end
section
set_option maxHeartbeats 8000000
set_option maxRecDepth 100000
open Go.RowKit
variable {w w' wr : World}
theorem md_Suits {b : Nat} {V : List QVar} {C : List QCon} {t : List UInt8} (h : MdAt w b V C t) (hM : MdOk V C) {vv : Value} {vals : List Int} (hV : ValsIn w vv vals) : Calls Tryz.prog 27 #[.pointer (some ⟨b, 0, none⟩), vv] w fun e w' => e = .returned (.bool (suitsP V C vals)) ∧ w.grownBy w' none := by
 obtain ⟨bc, B, vV, vC, cs, h1, h2, h3⟩ := h.set
 have q := pn_Suits h1 h2 hV hM.vars hM.vlen (fun x hx => hM.cons _ (by rw [← h3]; exact List.mem_map.2 ⟨x, hx, rfl⟩)) (by have := hM.clen; rw [← h3, List.length_map] at this; exact this)
 rw [h3] at q
 exact q
structure Ways (W2 : World) (q : Nat) (a c d : List (List Int)) : Prop where
 f1 : Calls Tryz.prog 22 #[.pointer (some ⟨q, 0, none⟩), .int .i64 0, .bool false] W2 fun e w3 => ∃ vS, e = .returned (.tuple #[vS, .bool true]) ∧ LLT w3 vS a ∧ W2.grownBy w3 none
 f2 : Calls Tryz.prog 22 #[.pointer (some ⟨q, 0, none⟩), .int .i64 0, .bool true] W2 fun e w3 => ∃ vS, e = .returned (.tuple #[vS, .bool true]) ∧ LLT w3 vS a ∧ W2.grownBy w3 none
 f3 : Calls Tryz.prog 22 #[.pointer (some ⟨q, 0, none⟩), .int .i64 1, .bool false] W2 fun e w3 => ∃ vS, e = .returned (.tuple #[vS, .bool true]) ∧ LLT w3 vS c ∧ W2.grownBy w3 none
 f4 : Calls Tryz.prog 22 #[.pointer (some ⟨q, 0, none⟩), .int .i64 1, .bool true] W2 fun e w3 => ∃ vS, e = .returned (.tuple #[vS, .bool true]) ∧ LLT w3 vS d ∧ W2.grownBy w3 none
 su : ∀ {vv : Value} {r : List Int}, ValsIn W2 vv r → r ∈ a → Calls Tryz.prog 27 #[.pointer (some ⟨q, 0, none⟩), vv] W2 fun e w3 => e = .returned (.bool true) ∧ W2.grownBy w3 none
structure AkF (w : World) (n : Nat) (Ls : List (List UInt8)) (k : Nat) (a c d f : List (List Int)) : Prop where
 m0 : ∀ W, w.grownBy W none → Calls Tryz.prog 21 #[.string (bn (mkB n Ls))] W fun e w' => ∃ q, e = .returned (.pointer (some ⟨q, 0, none⟩)) ∧ W.grownBy w' none ∧ ∀ W2, w'.grownBy W2 none → Ways W2 q a c d
 m1 : MF w (mkB n (Ls.drop k ++ Ls.take k)) 1 false f
 pc : c.Perm a
 pd : d.Perm a
 pf : f.Perm a
 row : ∀ r ∈ a, r.length = n
 len : a.length ≤ 625
theorem src_part {g m cap : Nat} {L : List (List UInt8)} (h : SRow w (.slice (some ⟨g, 0, none⟩) m cap) L) {k j c : Nat} {M : List (List UInt8)} (hM : ∀ (i : Nat) t, M[i]? = some t → L[k + i]? = some t) (hj : M.length = j) : Src w (.slice (some ⟨g, k, none⟩) j c) j (strV M) := by
 refine .inr ⟨_, _, rfl, fun i u hu => ?_⟩
 unfold strV at hu
 rw [List.getElem?_map] at hu
 cases q : M[i]? with
 | none => rw [q] at hu; cases hu
 | some t =>
  rw [q] at hu
  cases hu
  obtain ⟨g', e, h1, h2, h3⟩ := h.at_ (hM i t q)
  injection e with e
  injection e with e
  subst e
  have : (⟨g, k, none⟩ : Addr).add i = ⟨g, k + i, none⟩ := by unfold Addr.add; split <;> simp_all
  rw [this]
  exact h2
theorem ak_three {v : Value} {L : List (List UInt8)} {k : Nat} {turn : Int} (h : SRow w v L) (hk : L.length = 0 ∧ k = 0 ∨ 0 < L.length ∧ pickI turn L.length = (k : Int)) : (L = [] ∧ k = 0 ∧ v = .slice none 0 0) ∨ (∃ g cap, v = .slice (some ⟨g, 0, none⟩) L.length cap ∧ L.length = 0 ∧ k = 0) ∨ ∃ g cap, v = .slice (some ⟨g, 0, none⟩) L.length cap ∧ 0 < L.length ∧ pickI turn L.length = (k : Int) ∧ k < L.length ∧ L.length ≤ cap := by
 rcases h with ⟨rfl, e⟩ | ⟨g, cap, e, h1, h2, h3⟩
 ·rcases hk with ⟨_, q⟩ | ⟨q, _⟩
  ·exact .inl ⟨rfl, q, e⟩
  ·simp at q
 ·rcases hk with ⟨q1, q2⟩ | ⟨q1, q2⟩
  ·exact .inr (.inl ⟨g, cap, e, q1, q2⟩)
  ·have := pickI_bd turn L.length (by omega)
   exact .inr (.inr ⟨g, cap, e, q1, q2, by omega, h3⟩)
attribute [local go_sem] bn_ap bn_mk_ap mk_bn_ap bn_size mk_size ap_len List.length_cons List.length_nil
theorem ak_walk (N turn : Int) {vr : Value} {raw : List Int} (hV : RawIn w vr raw) (hN1 : -9223372036854775808 ≤ N) (hN2 : N ≤ 9223372036854775807) (ht1 : -9223372036854775808 ≤ turn) (ht2 : turn ≤ 9223372036854775807) (hrw : ∀ x ∈ raw, -9223372036854775808 ≤ x ∧ x ≤ 9223372036854775807) (n : Nat) (hn : 1 + pickI N 4 = (n : Int)) (k : Nat) (hk : ((ptL n raw).map stB).length = 0 ∧ k = 0 ∨ 0 < ((ptL n raw).map stB).length ∧ pickI turn ((ptL n raw).map stB).length = (k : Int)) (a c d f : List (List Int)) (hF : AkF w n ((ptL n raw).map stB) k a c d f) : Calls Tryz.prog 11 #[.int .i64 N, vr, .int .i64 turn] w fun e w' => e = .returned (.bool true) ∧ w.grownBy w' none := by
 have KPT := Kept.mk (kp_part (w := w) N hV hN1 hN2 hrw n hn)
 have b4 := pickI_bd N 4 (by decide)
 have hn1 : 1 ≤ n := by omega
 have hn4 : n ≤ 4 := by omega
 obtain ⟨ra, rc, rfl⟩ := hV.is
 obtain ⟨hLo, hLl⟩ := ptL_ok hn1 hn4 raw
 have hLb : ∀ t ∈ (ptL n raw).map stB, t.length ≤ 70 := fun t ht => by obtain ⟨q, hq, rfl⟩ := List.mem_map.1 ht; exact (hLo q hq).len
 have hLm : ((ptL n raw).map stB).length ≤ 8 := by rw [List.length_map]; exact hLl
 clear hLo hLl
 have KM0 := Kept.mk (fun {W : World} (hg : w.grownBy W none) => hF.m0 W hg)
 have KM1 := Kept.mk (fun {W : World} (hg : w.grownBy W none) => hF.m1 W hg)
 generalize (ptL n raw).map stB = Ls at *
 have KT0 := Kept.mk (fun {W : World} {v : Value} (hS : SRow W v Ls) => kp_text n hS hn4 (by omega) hLb)
 have KT1 := Kept.mk (fun {W : World} {v : Value} (hS : SRow W v (Ls.drop k ++ Ls.take k)) => kp_text n hS hn4 (by simp; omega) (fun t ht => by rcases List.mem_append.1 ht with q | q; exact hLb t (List.mem_of_mem_drop q); exact hLb t (List.mem_of_mem_take q)))
 have HROW := hide hF.row
 have HPC := hide hF.pc
 have HPD := hide hF.pd
 have HPF := hide hF.pf
 have hal := hF.len
 obtain ⟨i0, hi0⟩ : ∃ i, Tryz.prog.info? 9 = some i := ⟨_, rfl⟩
 have hz := infoStr
 rw [hi0] at hz
 simp only [Option.map_some, Option.some.injEq, Prod.mk.injEq] at hz
 obtain ⟨hz0, hz1, hz2⟩ := hz
 have HK := hide hk
 clear hF hV hrw hLb hn b4 hk
 go_enter Tryz.func11, Tryz.ntmps11
 have hgr : w.grownBy w none := grown_refl _ _
 have KP := Kept.mk (fun (h : 0 < Ls.length) W => kp_pick turn Ls.length W ht1 ht2 (by omega) (by omega))
 have KPD : Hid (Ls.length ≤ 8) := hLm
 go_wp2_with (first | (go_at_call 24; refine KPT.get.mono ?_; rintro e w1 ⟨v, rfl, hS, hg1⟩; replace hgr := hgr.trans hg1; rcases ak_three hS HK.out with ⟨z1, z2, hv⟩ | ⟨g, cap, hv, z1, z2⟩ | ⟨g, cap, hv, z1, z2, z3, z4⟩))
 clear HK hg1 KP KPT
 subst z1 z2
 subst hv
 have hSo : SRow w1 (.slice none 0 0) (([] : List (List UInt8)).drop 0 ++ ([] : List (List UInt8)).take 0) := .inl ⟨rfl, rfl⟩
 rotate_left
 clear HK hg1 KP KPT
 obtain rfl : Ls = [] := List.length_eq_zero_iff.1 z1
 subst z2
 subst hv
 have hSo : SRow w1 (.slice none 0 0) (([] : List (List UInt8)).drop 0 ++ ([] : List (List UInt8)).take 0) := .inl ⟨rfl, rfl⟩
 rotate_left
 subst hv
 rw [z2] at KP
 have hkl : (k : Int) < Ls.length := by omega
 have hk0 : (0 : Int) ≤ k := by omega
 have HKL : Hid (k < Ls.length ∧ Ls.length ≤ cap) := ⟨z3, z4⟩
 have hzc : (Ls.length : Int) ≤ cap := by omega
 clear HK hg1 KPT z2 z3 z4
 go_wp2_with (first | (go_at_call 16; refine (KP.get z1 _).mono ?_; clear KP; rintro e w6 ⟨rfl, hww⟩; subst w6) | (at_builtin; refine wpList_append_src rfl _ _ 37 rfl w1.heap.size 9 i0 (.string .empty) 1 16 Tryz.underlying37 hi0 hz0 hz1 hz2 rfl (by decide) (.slice none 0 0) 0 [] rfl ⟨rfl, .inl ⟨rfl, rfl⟩⟩ (.slice (some ⟨g, k, none⟩) (Ls.length - k) (cap - k)) (Ls.length - k) (strV (Ls.drop k)) rfl (src_part hS (fun i t ht => by rw [List.getElem?_drop] at ht; exact ht) (by simp)) (by simp [strV]) (strV_one _) (by unfold maxLen; omega) (by omega) (Nat.le_refl _) ?_; intro v1 w7 ho hg7; rw [Nat.zero_add] at ho; obtain ⟨oa, oc, hv1⟩ := own_slice_n ho; subst hv1; have HO := hide ho; have HG7 : Hid (w1.grownBy w7 none) := hg7; clear ho hg7) | (at_builtin; go_loud (refine wpList_append_src rfl _ _ 37 rfl w1.heap.size 9 i0 (.string .empty) 1 16 Tryz.underlying37 hi0 hz0 hz1 hz2 rfl (by decide) (.slice oa (Ls.length - k) oc) (Ls.length - k) _ rfl HO.out (.slice (some ⟨g, 0, none⟩) k cap) k (strV (Ls.take k)) rfl (src_part (hS.grown HG7.out) (fun i t ht => by rw [List.getElem?_take] at ht; rw [Nat.zero_add]; split at ht; exact ht; cases ht) (by rw [List.length_take]; have := HKL.out.1; omega)) (by rw [strV, List.length_map, List.length_take, Nat.mul_one]; have := HKL.out.1; omega) (strV_one _) (by unfold maxLen; omega) (by omega) HG7.out.size ?_; intro v1 w8 ho2 hg8; rw [show Ls.length - k + k = Ls.length by have := HKL.out.1; omega] at ho2; obtain ⟨pa, pc, hv1⟩ := own_slice_n ho2; subst hv1; have HO2 := hide ho2; have HG8 : Hid (w7.grownBy w8 (Value.slice oa (Ls.length - k) oc).ownBlock) := hg8; clear ho2 hg8)))
 have gA : w1.grownBy w8 none := own_gr HG7.out HO.out HG8.out
 have hSo : SRow w8 (.slice pa Ls.length pc) (Ls.drop k ++ Ls.take k) := own_srow (n := Ls.length) (by have q := HO2.out; rw [List.nil_append] at q; unfold strV at q ⊢; rw [List.map_append]; exact q)
 replace hgr := hgr.trans gA
 replace hS := hS.grown gA
 clear gA HO HO2 HG7 HG8
 rotate_left
 all_goals
  go_wp2_with (first | (go_at_call 25; refine (KT0.get hS).mono ?_; rintro e w4 ⟨rfl, hg1⟩; (try replace hgr := hgr.trans hg1); (try replace hka := hka.trans hg1); (try replace hS := hS.grown hg1); (try replace hSo := hSo.grown hg1); clear hg1 KT0 hS) | (go_at_call 21; refine (KM0.get hgr).mono ?_; rintro e wa ⟨q1, rfl, hg1, hwy⟩; (try replace hgr := hgr.trans hg1); (try replace hka := hka.trans hg1); (try replace hS := hS.grown hg1); (try replace hSo := hSo.grown hg1); have F1 := Kept.mk (fun {W2 : World} h => (hwy W2 h).f1); have F2 := Kept.mk (fun {W2 : World} h => (hwy W2 h).f2); have F3 := Kept.mk (fun {W2 : World} h => (hwy W2 h).f3); have F4 := Kept.mk (fun {W2 : World} h => (hwy W2 h).f4); have WY := hide hwy; have hka := grown_refl wa none; clear hg1 hwy KM0) | (go_at_call 25; refine (KT1.get hSo).mono ?_; rintro e w5 ⟨rfl, hg1⟩; (try replace hgr := hgr.trans hg1); (try replace hka := hka.trans hg1); (try replace hS := hS.grown hg1); (try replace hSo := hSo.grown hg1); clear hg1 KT1 hSo) | (go_at_call 21; refine (KM1.get hgr).mono ?_; rintro e wb ⟨q2, rfl, hg1, hfo1⟩; (try replace hgr := hgr.trans hg1); (try replace hka := hka.trans hg1); (try replace hS := hS.grown hg1); (try replace hSo := hSo.grown hg1); have KF5 := Kept.mk (fun {W2 : World} h => hfo1 W2 h); have hkb := grown_refl wb none; clear hg1 hfo1 KM1) | (go_at_call 22; refine (F1.get hka).mono ?_; clear F1; rintro e w6 ⟨vS, rfl, hA, hg1⟩; (replace hgr := hgr.trans hg1); (replace hka := hka.trans hg1); (replace hkb := hkb.trans hg1); clear hg1; obtain ⟨la, lc, hv1⟩ := hA.ll.is; subst hv1) | (go_at_call 22; refine (F2.get hka).mono ?_; clear F2; rintro e w6 ⟨vS, rfl, hB, hg1⟩; (replace hgr := hgr.trans hg1); (replace hka := hka.trans hg1); (replace hkb := hkb.trans hg1); replace hA := hA.grown hg1; clear hg1; obtain ⟨ba, bc, hv1⟩ := hB.ll.is; subst hv1) | (go_at_call 22; refine (F3.get hka).mono ?_; clear F3; rintro e w6 ⟨vS, rfl, hC, hg1⟩; (replace hgr := hgr.trans hg1); (replace hka := hka.trans hg1); (replace hkb := hkb.trans hg1); replace hA := hA.grown hg1; replace hB := hB.grown hg1; clear hg1; obtain ⟨ca, cc, hv1⟩ := hC.ll.is; subst hv1) | (go_at_call 22; refine (F4.get hka).mono ?_; clear F4; rintro e w6 ⟨vS, rfl, hD, hg1⟩; (replace hgr := hgr.trans hg1); (replace hka := hka.trans hg1); (replace hkb := hkb.trans hg1); replace hA := hA.grown hg1; replace hB := hB.grown hg1; replace hC := hC.grown hg1; clear hg1; obtain ⟨da, dc, hv1⟩ := hD.ll.is; subst hv1) | (go_at_call 22; refine (KF5.get hkb).mono ?_; rintro e w6 ⟨vS, rfl, hE, hg1⟩; replace hgr := hgr.trans hg1; replace hka := hka.trans hg1; replace hA := hA.grown hg1; replace hB := hB.grown hg1; replace hC := hC.grown hg1; replace hD := hD.grown hg1; clear hg1 KF5 hkb; obtain ⟨ea, ec, hv1⟩ := hE.ll.is; subst hv1))
  have K1 := Kept.mk (fun {W : World} (hg : w6.grownBy W none) => kp_alike (hA.grown hg).ll (hB.grown hg).ll rfl (fun x hx => hx) (by omega) (fun x hx => by have := HROW.out x hx; omega) (fun x hx => by have := HROW.out x hx; omega))
  have K2 := Kept.mk (fun {W : World} (hg : w6.grownBy W none) => kp_alike (hA.grown hg).ll (hC.grown hg).ll HPC.out.length_eq.symm (fun x hx => HPC.out.mem_iff.2 hx) (by omega) (fun x hx => by have := HROW.out x hx; omega) (fun x hx => by have := HROW.out x (HPC.out.mem_iff.1 hx); omega))
  have K3 := Kept.mk (fun {W : World} (hg : w6.grownBy W none) => kp_alike (hA.grown hg).ll (hD.grown hg).ll HPD.out.length_eq.symm (fun x hx => HPD.out.mem_iff.2 hx) (by omega) (fun x hx => by have := HROW.out x hx; omega) (fun x hx => by have := HROW.out x (HPD.out.mem_iff.1 hx); omega))
  have K4 := Kept.mk (fun {W : World} (hg : w6.grownBy W none) => kp_alike (hA.grown hg).ll (hE.grown hg).ll HPF.out.length_eq.symm (fun x hx => HPF.out.mem_iff.2 hx) (by omega) (fun x hx => by have := HROW.out x hx; omega) (fun x hx => by have := HROW.out x (HPF.out.mem_iff.1 hx); omega))
  have HA := hide hA
  have HB := hide hB
  have HKA := hide hka
  have HGR := hide hgr
  have hq := grown_refl w6 none
  clear hA hB hC hD hE hka hgr
  go_wp2_with (first | (go_at_call 26; refine (K1.get hq).mono ?_; clear K1; rintro e w7 ⟨rfl, hg1⟩; replace hq := hq.trans hg1; clear hg1) | (go_at_call 26; refine (K2.get hq).mono ?_; clear K2; rintro e w7 ⟨rfl, hg1⟩; replace hq := hq.trans hg1; clear hg1) | (go_at_call 26; refine (K3.get hq).mono ?_; clear K3; rintro e w7 ⟨rfl, hg1⟩; replace hq := hq.trans hg1; clear hg1) | (go_at_call 26; refine (K4.get hq).mono ?_; clear K4; rintro e w9 ⟨rfl, hg1⟩; replace hq := hq.trans hg1; clear hg1))
  have HQ := hide hq
  clear hq
  go_loopw [26] (fun vi wr => ∃ i : Nat, i ≤ a.length ∧ vi = .int .i64 i ∧ w9.grownBy wr none) (fun vi _ => a.length - (intOf vi).toNat)
  case atStart => exact ⟨0, Nat.zero_le _, rfl, grown_refl _ _⟩
  case round =>
   obtain ⟨i, hi9, rfl, hg⟩ := hrel
   by_cases hlt : i < a.length
   ·obtain ⟨r, hr⟩ : ∃ r, a[i]? = some r := ⟨a[i], List.getElem?_eq_getElem hlt⟩
    have hrm := List.mem_of_getElem? hr
    have r1 := HROW.out r hrm
    have hne : r ≠ [] := fun e => by rw [e] at r1; simp at r1; omega
    have g0 := HQ.out.trans hg
    obtain ⟨g1, u1, ea1, l1, c1, hV1⟩ := (HA.out.grown g0).ll.at_ hr
    obtain ⟨g2, u2, ea2, l2, c2, hV2⟩ := (HB.out.grown g0).ll.at_ hr
    subst ea1 ea2
    obtain ⟨gv1, cv1, e1, _, _⟩ := hV1.cells hne
    obtain ⟨gv2, cv2, e2, _, _⟩ := hV2.cells hne
    subst e1 e2
    have KU := Kept.mk ((WY.out wr (HKA.out.trans g0)).su hV1 hrm)
    have KV := Kept.mk (fun {W : World} (hw : wr.grownBy W none) => kp_sameRow (w := W) (hV1.grown hw) (hV2.grown hw) (by omega) (by omega))
    have hdd : decide (r = r) = true := by simp
    rw [hdd] at KV
    have hlt2 : (i : Int) < a.length := by omega
    have h0i : (0 : Int) ≤ i := by omega
    have HLI : Hid (i + 1 ≤ a.length) := hlt
    have HME : Hid (a.length - (i + 1) < a.length - i) := by rw [Hid]; omega
    have HG9 := hide hg
    clear hr hrm hdd hV1 hV2 hg g0 hlt hne r1
    go_wp2_with (go_at_call 27; refine KU.get.mono ?_; clear KU; rintro e wu ⟨rfl, hgu⟩; have c1' := hgu.cell c1 (by simp); have c2' := hgu.cell c2 (by simp); have l1' := Nat.lt_of_lt_of_le l1 hgu.size; have l2' := Nat.lt_of_lt_of_le l2 hgu.size)
    refine wp_region_held_drew (S := fun w1 => w1.cell? ⟨g1, i, none⟩ = some (.slice (some ⟨gv1, 0, none⟩) r.length cv1) ∧ w1.cell? ⟨g2, i, none⟩ = some (.slice (some ⟨gv2, 0, none⟩) r.length cv2)) (by kernel_rfl) ?_ (fun hHeld => ?_)
    ·exact ⟨c1', c2'⟩
    refine tkH (i := 0) (v := ?_) 149 rfl rfl (by kernel_rfl) (fun _ _ _ h => h) (Or.inl ⟨by rfl, ?_⟩) hHeld ?_
    rotate_left 1
    ·(intro w hSw; (try dsimp only at hSw); go_simp; try with_reducible rfl)
    (try simp only [Act.put, arS, arZ, arN])
    refine tkH (i := 1) (v := ?_) 150 rfl rfl (by kernel_rfl) (fun _ _ _ h => h) (Or.inl ⟨by rfl, ?_⟩) hHeld ?_
    rotate_left 1
    ·(intro w hSw; (try dsimp only at hSw); go_simp; try with_reducible rfl)
    (try simp only [Act.put, arS, arZ, arN])
    refine tkH (i := 2) (v := ?_) 151 rfl rfl (by kernel_rfl) (fun _ _ _ h => h) (Or.inl ⟨by rfl, ?_⟩) hHeld ?_
    rotate_left 1
    ·(intro w hSw; (try dsimp only at hSw); go_simp; try with_reducible rfl)
    (try simp only [Act.put, arS, arZ, arN])
    refine tkH (i := 3) (v := ?_) 152 rfl rfl (by kernel_rfl) (fun _ _ _ h => h) (Or.inl ⟨by rfl, ?_⟩) hHeld ?_
    rotate_left 1
    ·(intro w hSw; (try dsimp only at hSw); go_simp; try with_reducible rfl)
    (try simp only [Act.put, arS, arZ, arN])
    refine tkH (i := 4) (v := ?_) 153 rfl rfl (by kernel_rfl) (fun _ _ _ h => h) (Or.inl ⟨by rfl, ?_⟩) hHeld ?_
    rotate_left 1
    ·(intro w hSw; (try dsimp only at hSw); go_simp; try with_reducible rfl)
    (try simp only [Act.put, arS, arZ, arN])
    refine tkH (i := 5) (v := ?_) 154 rfl rfl (by kernel_rfl) (fun _ _ _ h => h) (Or.inl ⟨by rfl, ?_⟩) hHeld ?_
    rotate_left 1
    ·(intro w hSw; (try dsimp only at hSw); go_simp; try with_reducible rfl)
    (try simp only [Act.put, arS, arZ, arN])
    refine tkH (i := 6) (v := ?_) 155 rfl rfl (by kernel_rfl) (fun _ _ _ h => h) (Or.inl ⟨by rfl, ?_⟩) hHeld ?_
    rotate_left 1
    ·(intro w hSw; (try dsimp only at hSw); go_simp; try with_reducible rfl)
    (try simp only [Act.put, arS, arZ, arN])
    refine tkH (i := 7) (v := ?_) 156 rfl rfl (by kernel_rfl) (fun _ _ _ h => h) (Or.inl ⟨by rfl, ?_⟩) hHeld ?_
    rotate_left 1
    ·(intro w hSw; (try dsimp only at hSw); go_simp; try with_reducible rfl)
    (try simp only [Act.put, arS, arZ, arN])
    refine wpAnyH_ready (rs := [8]) (by kernel_rfl) (by simp) ?_
    refine AllReadyH.cons rfl (fun K hK => ?_) AllReadyH.nil
    go_simp
    go_wp2_with ((go_at_call 28; refine (KV.get (hgu.trans (grown_drew' _ _))).mono ?_; rintro e w5 ⟨rfl, hg5⟩))
    refine hK.out _ _ ?_ (fun hHeld => ?_)
    ·exact ⟨hg5.cell hHeld.1 (by simp), hg5.cell hHeld.2 (by simp)⟩
    clear hK K
    (try simp only [Act.put, arS, arZ, arN])
    refine tkH (i := 9) (v := ?_) 28 rfl rfl (by kernel_rfl) (fun _ _ _ h => h) (Or.inl ⟨by rfl, ?_⟩) hHeld ?_
    rotate_left 1
    ·(intro w hSw; (try dsimp only at hSw); go_simp; try with_reducible rfl)
    (try simp only [Act.put, arS, arZ, arN])
    refine wpAnyH_done (by kernel_rfl) ?_ _
    go_wp2
    go_roundw
    case rel => exact ⟨i + 1, HLI.out, by go_num, ((HG9.out.trans hgu).trans (grown_drew' _ _)).trans hg5⟩
    case measure => exact HME.out
   ·obtain rfl : i = a.length := by omega
    go_wp2
    go_ret
    exact ⟨rfl, (HGR.out.trans HQ.out).trans hg⟩
theorem kp_Alike (N turn : Int) {vr : Value} {raw : List Int} (hV : RawIn w vr raw) (hN1 : -9223372036854775808 ≤ N) (hN2 : N ≤ 9223372036854775807) (ht1 : -9223372036854775808 ≤ turn) (ht2 : turn ≤ 9223372036854775807) (hrw : ∀ x ∈ raw, -9223372036854775808 ≤ x ∧ x ≤ 9223372036854775807) (ht : PowTab w) (hdb : DbTab w) : Calls Tryz.prog 11 #[.int .i64 N, vr, .int .i64 turn] w fun e w' => e = .returned (.bool true) ∧ w.grownBy w' none := by
 have b4 := pickI_bd N 4 (by decide)
 obtain ⟨n, hn⟩ : ∃ n : Nat, 1 + pickI N 4 = (n : Int) := ⟨(1 + pickI N 4).toNat, by omega⟩
 have hn1 : 1 ≤ n := by omega
 have hn4 : n ≤ 4 := by omega
 obtain ⟨hLo, hLl⟩ := ptL_ok hn1 hn4 raw
 obtain ⟨k, hk⟩ : ∃ k : Nat, ((ptL n raw).map stB).length = 0 ∧ k = 0 ∨ 0 < ((ptL n raw).map stB).length ∧ pickI turn ((ptL n raw).map stB).length = (k : Int) := by
  rcases Nat.eq_zero_or_pos ((ptL n raw).map stB).length with q | q
  ·exact ⟨0, .inl ⟨q, rfl⟩⟩
  ·have := pickI_bd turn ((ptL n raw).map stB).length (by omega)
   exact ⟨(pickI turn ((ptL n raw).map stB).length).toNat, .inr ⟨q, by omega⟩⟩
 have o2 : ∀ a ∈ (ptL n raw).drop k ++ (ptL n raw).take k, PtOk n a := fun a ha => by
  rcases List.mem_append.1 ha with q | q
  ·exact hLo a (List.mem_of_mem_drop q)
  ·exact hLo a (List.mem_of_mem_take q)
 have l2 : ((ptL n raw).drop k ++ (ptL n raw).take k).length ≤ 16 := by simp; omega
 have e0 : pickI 0 2 = 0 := by decide
 have e1 : pickI 1 2 = 1 := by decide
 obtain ⟨RA, LA, _⟩ := pt_rows hn1 hn4 hLo (by omega) 0 false
 obtain ⟨RB, LB, _⟩ := pt_rows hn1 hn4 hLo (by omega) 0 true
 obtain ⟨RC, _, _⟩ := pt_rows hn1 hn4 hLo (by omega) 1 false
 obtain ⟨RD, _, _⟩ := pt_rows hn1 hn4 hLo (by omega) 1 true
 obtain ⟨RF, _, _⟩ := pt_rows hn1 hn4 o2 l2 1 false
 have RF' := turn_rows RF
 have eAB := lex_eq (RB.trans RA.symm) (LB (by decide)) (LA (by decide))
 have tb : ∀ {W : World}, w.grownBy W none → PowTab W := fun {W} hg => tab_kept ht (fun k hk => hg.block k hk (by simp))
 have m1 := pt_mf hn1 hn4 o2 l2 ht hdb 1 false (by decide) (by decide)
 rw [List.map_append, List.map_drop, List.map_take, e1] at m1
 refine ak_walk N turn hV hN1 hN2 ht1 ht2 hrw n hn k hk _ _ _ _ ⟨fun W hW => ?_, m1, RC.trans RA.symm, RD.trans RA.symm, RF'.trans RA.symm, fun r hr => (RA.row hr).1, RA.len hn1 hn4⟩
 refine (pt_model hn4 hLo (by omega) W (tb hW)).mono ?_
 rintro e w' ⟨b, t, rfl, hb, hm, hg⟩
 refine ⟨b, rfl, hg, fun W2 hg2 => ?_⟩
 have hgg := (hW.trans hg).trans hg2
 have F := fun (order : Int) (weak : Bool) (h1 : -9223372036854775808 ≤ order) (h2 : order ≤ 9223372036854775807) => pt_found hn1 hn4 hLo (by omega) (hm.grown hg2) (tb hgg) (db_grown hdb hgg) order weak h1 h2
 have F1 := F 0 false (by decide) (by decide)
 have F2 := F 0 true (by decide) (by decide)
 have F3 := F 1 false (by decide) (by decide)
 have F4 := F 1 true (by decide) (by decide)
 rw [e0] at F1 F2
 rw [e1] at F3 F4
 rw [eAB] at F2
 refine ⟨F1, F2, F3, F4, fun {vv r} hv hr => ?_⟩
 have q := md_Suits (hm.grown hg2) (mk_md hn4 hLo (by omega)) hv
 rw [(RA.row hr).2.2] at q
 exact q
end
end Go.Proofs.YthpcbbnabnlanaaGreatDoor
