import Derived.Test.YthpcbbnabnlanabGreatDoorM19
namespace Go.Proofs.YthpcbbnabnlanabGreatDoor
open Go.RowKit
set_option linter.unusedVariables false
set_option linter.unusedSimpArgs false
section
set_option maxHeartbeats 4000000
set_option maxRecDepth 100000
variable {w0 w w' w'' : World} {X : SL} {K : SK} {s : SS} {vT vS : Value}
theorem dInfo (D : Nat) : (Tryz.prog.info? 97).map (·.size) = some (dL D).length := by rw [dL_len]; exact infoDm
theorem dUnder : Tryz.prog.underlying 97 = some (.array 32 95) := by kernel_rfl
theorem nd_ne (h : SAt w0 w X K s vT vS) : X.b ≠ X.gl ∧ X.b ≠ X.gv ∧ X.b ≠ X.gf ∧ X.b ≠ X.gm ∧ X.gl ≠ X.gv ∧ X.gl ≠ X.gf ∧ X.gl ≠ X.gm ∧ X.gv ≠ X.gf ∧ X.gv ≠ X.gm ∧ X.gf ≠ X.gm := by
 have := h.nd
 simp only [SL.own, List.nodup_cons, List.mem_cons, List.not_mem_nil, or_false, not_or, List.nodup_nil, and_true, not_false_eq_true] at this
 obtain ⟨⟨a1, a2, a3, a4⟩, ⟨a5, a6, a7⟩, ⟨a8, a9⟩, a10⟩ := this
 exact ⟨a1, a2, a3, a4, a5, a6, a7, a8, a9, a10⟩
theorem own_b : X.b ∈ X.own := by simp [SL.own]
theorem own_gl : X.gl ∈ X.own := by simp [SL.own]
theorem own_gv : X.gv ∈ X.own := by simp [SL.own]
theorem own_gf : X.gf ∈ X.own := by simp [SL.own]
theorem own_gm : X.gm ∈ X.own := by simp [SL.own]
theorem SAt.setv (h : SAt w0 w X K s vT vS) {i : Nat} (hi : i < K.vars.length) {D : Nat} {w1 : World} (hg : (w.setCells X.gl (i * 32) (dL D)).grownBy w1 none) : SAt w0 ((w1.setCell ⟨X.gv, i, none⟩ (.int .i64 (oneV D))).setCell ⟨X.gf, i, none⟩ (.bool (oneB D))) X K { s with left := s.left.set i D } vT vS ∧ FrS X w ((w1.setCell ⟨X.gv, i, none⟩ (.int .i64 (oneV D))).setCell ⟨X.gf, i, none⟩ (.bool (oneB D))) := by
 obtain ⟨n1, n2, n3, n4, n5, n6, n7, n8, n9, n10⟩ := nd_ne h
 have gs := grown_setCells w X.gl (i * 32) (dL D)
 have ga := grown_set w1 X.gv i (.int .i64 (oneV D))
 have gb := grown_set (w1.setCell ⟨X.gv, i, none⟩ (.int .i64 (oneV D))) X.gf i (.bool (oneB D))
 have step : ∀ k o, w.heap[k]? = some o → k ≠ X.gl → w1.heap[k]? = some o := fun k o hk hne => by
  have q := (gs.block k (some_lt hk) (fun e => hne (by cases e; rfl))).trans hk
  exact (hg.block k (some_lt q) (by simp)).trans q
 have last : ∀ k o, w1.heap[k]? = some o → k ≠ X.gv → k ≠ X.gf → ((w1.setCell ⟨X.gv, i, none⟩ (.int .i64 (oneV D))).setCell ⟨X.gf, i, none⟩ (.bool (oneB D))).heap[k]? = some o := fun k o hk h1 h2 => by
  rw [gb.block k (by rw [show (w1.setCell ⟨X.gv, i, none⟩ (.int .i64 (oneV D))).heap.size = w1.heap.size by simp]; exact some_lt hk) (fun e => h2 (by cases e; rfl)), ga.block k (some_lt hk) (fun e => h1 (by cases e; rfl))]; exact hk
 have hfr : FrS X w ((w1.setCell ⟨X.gv, i, none⟩ (.int .i64 (oneV D))).setCell ⟨X.gf, i, none⟩ (.bool (oneB D))) := ((FrS.turn gs own_gl).trans (FrS.grown hg)).trans ((FrS.turn ga own_gv).trans (FrS.turn gb own_gf))
 refine ⟨h.turn ?_ (fun k o hk hn => ?_) (last _ _ (step _ _ h.rcd n1) n2 n3) ?_ ?_ ?_ (last _ _ (step _ _ h.mark n7.symm) n9.symm n10.symm) rfl rfl, hfr⟩
 ·exact grown_new (grown_new ((grown_new h.g0 (h.low _ own_gl) gs).trans hg) (h.low _ own_gv) ga) (h.low _ own_gf) gb
 ·simp only [SL.own, List.mem_cons, List.not_mem_nil, or_false, not_or] at hn
  exact last _ _ (step _ _ hk hn.2.1) hn.2.2.1 hn.2.2.2.1
 ·refine (h.left.store hi D).kept fun o ho => ?_
  exact last _ _ ((hg.block _ (some_lt ho) (by simp)).trans ho) n5 n6
 ·have q := step _ _ h.vals n5.symm
  have q2 := set_at q i (.int .i64 (oneV D)) (cs' := ((s.left.set i D).map fun D => Value.int .i64 (oneV D)).toArray) (by simp [List.map_set])
  exact (gb.block _ (some_lt q2) (fun e => n8 (Option.some.inj e))).trans q2
 ·have q := step _ _ h.fixd n6.symm
  have q1 := (ga.block _ (some_lt q) (fun e => n8 (Option.some.inj e).symm)).trans q
  exact set_at q1 i (.bool (oneB D)) (by simp [List.map_set])
theorem sc_set (h : SAt w0 w X K s vT vS) (hn : K.vars.length ≤ 8) {v : Int} (hv : PlOk K.vars.length v) {D : Nat} (hD : D < 2 ^ 2001) : Calls Tryz.prog 34 #[.pointer (some ⟨X.b, 0, none⟩), .int .i64 v, .agg (dL D).toArray] w fun e w' => e = .returned (.tuple #[]) ∧ SAt w0 w' X K (setS v D s) vT vS ∧ FrS X w w' := by
 obtain ⟨n1, n2, n3, n4, n5, n6, n7, n8, n9, n10⟩ := nd_ne h
 obtain ⟨I, hI⟩ : ∃ I : Nat, v = (I : Int) := ⟨v.toNat, by have := hv.1; omega⟩
 subst hI
 have hI2 : I < K.vars.length := by have := hv.2; omega
 have hb1 : (0 : Int) ≤ I := by omega
 have hb2 : (I : Int) < K.vars.length := by omega
 obtain ⟨W, hW⟩ : ∃ W, W = w.alloc (.cells (dL D).toArray 97) := ⟨_, rfl⟩
 have hWB : W.heap[w.heap.size]? = some (.cells (dL D).toArray 97 (0, 0)) := by rw [hW]; exact heap_alloc_new w _
 have hgW : w.grownBy W none := by rw [hW]; exact World.grownBy_alloc _ _ _
 have hA := h.grown hgW
 have hsz : X.gl ≠ w.heap.size := by have := h.lt.2.1; omega
 have r4 := hA.f4
 have r5 := hA.f5
 have r6 := hA.f6
 have rl := (hA.leftAt hv).2
 rw [Int.toNat_natCast] at rl
 have rb : W.rangeAt w.heap.size 0 (dL D) := fun j u hu => by rw [Nat.zero_add]; exact cell_of hWB j u (by simpa using hu)
 have hin := dInfo D
 have hun := dUnder
 have hle := dL_len D
 have hon := dL_one D
 have K1 := Kept.mk (fun (W' : World) (hd : DbTab W') => dm_One D hD W' hd)
 rw [dArr_dL] at K1
 have KD : Hid (DbTab (W.drew.setCells X.gl (I * 32) (dL D)).drew) := db_grown hA.db0 (((grown_new hA.g0 (hA.low _ own_gl) ((grown_drew' W (some X.gl)).trans (grown_setCells W.drew X.gl (I * 32) (dL D)))).trans (grown_drew' _ none)))
 have HF : Hid (∀ w1 : World, (W.drew.setCells X.gl (I * 32) (dL D)).grownBy w1 none → SAt w0 ((w1.setCell ⟨X.gv, I, none⟩ (.int .i64 (oneV D))).setCell ⟨X.gf, I, none⟩ (.bool (oneB D))) X K (setS (I : Int) D s) vT vS ∧ FrS X w ((w1.setCell ⟨X.gv, I, none⟩ (.int .i64 (oneV D))).setCell ⟨X.gf, I, none⟩ (.bool (oneB D)))) := fun w1 hg => by
  have q := SAt.setv (hA.grown (grown_drew' W none)) hI2 hg
  refine ⟨q.1, (FrS.grown (hgW.trans (grown_drew' W none))).trans q.2⟩
 have HC : Hid (∀ w1 : World, (W.drew.setCells X.gl (I * 32) (dL D)).grownBy w1 none → (∃ u, w1.cell? ⟨X.gv, I, none⟩ = some u) ∧ (∃ u, w1.cell? ⟨X.gf, I, none⟩ = some u) ∧ w1.frozen? ⟨X.gv, I, none⟩ = false ∧ w1.frozen? ⟨X.gf, I, none⟩ = false) := fun w1 hg => by
  obtain ⟨a1, a2, a3, a4⟩ := hA.valAt hv
  have gg := (grown_drew' W (some X.gl)).trans (grown_setCells W.drew X.gl (I * 32) (dL D))
  have lt := hA.lt
  have q1 := gg.cell a1 (fun e => n5 (Option.some.inj e).symm)
  have q2 := gg.cell a2 (fun e => n6 (Option.some.inj e).symm)
  have z1 := gg.frozen_far ⟨X.gv, I, none⟩ lt.2.2.1 (fun e => n5 (Option.some.inj e).symm)
  have z2 := gg.frozen_far ⟨X.gf, I, none⟩ lt.2.2.2.1 (fun e => n6 (Option.some.inj e).symm)
  have gz := gg.size
  refine ⟨⟨_, hg.cell q1 (by simp)⟩, ⟨_, hg.cell q2 (by simp)⟩, ?_, ?_⟩
  ·exact (hg.frozen_far ⟨X.gv, I, none⟩ (by have := lt.2.2.1; show X.gv < _; omega) (by simp)).trans (z1.trans a3)
  ·exact (hg.frozen_far ⟨X.gf, I, none⟩ (by have := lt.2.2.2.1; show X.gf < _; omega) (by simp)).trans (z2.trans a4)
 have HS1 : Hid (∀ W', Kp [X.gl] W W' → W'.cell? ⟨X.b, 4, none⟩ = some (.slice (some ⟨X.gl, 0, none⟩) K.vars.length K.vars.length) ∧ W'.rangeAt w.heap.size 0 (dL D)) := fun W' hk =>
  ⟨hk.cell r4 (by simpa using n1), hk.range rb (by simpa using hsz.symm)⟩
 have HS2 : Hid (∀ W', Kp [X.gl, X.gv, X.gf] W W' → W'.cell? ⟨X.b, 5, none⟩ = some (.slice (some ⟨X.gv, 0, none⟩) K.vars.length K.vars.length) ∧ W'.cell? ⟨X.b, 6, none⟩ = some (.slice (some ⟨X.gf, 0, none⟩) K.vars.length K.vars.length) ∧ W'.rangeAt w.heap.size 0 (dL D)) := fun W' hk => by
  have l := h.lt
  exact ⟨hk.cell r5 (by simp [n1, n2, n3]), hk.cell r6 (by simp [n1, n2, n3]), hk.range rb (by simp; omega)⟩
 have rlD : W.drew.there X.gl (I * 32) 32 := rl
 have HA := hide hA
 have HH := hide h
 have HGW := hide hgW
 clear h hA hv hgW r4 r5 r6 rb
 clear HH HGW HA hWB
 generalize hcs : dL D = cs at *
 clear hcs
 go_enter Tryz.func34, Tryz.ntmps34
 go_wp2
 rw [← hW]
 clear hW
 go_region_held3 (fun w' => w'.cell? ⟨X.b, 4, none⟩ = some (.slice (some ⟨X.gl, 0, none⟩) K.vars.length K.vars.length) ∧ w'.rangeAt w.heap.size 0 cs) (first | exact HS1.out _ (Kp.refl _ _).drew | exact HS1.out _ ((Kp.refl _ _).drew.turn (grown_setCells _ _ _ _) (by simp))) (fail)
 go_wp2
 go_region_held3 (fun w' => w'.cell? ⟨X.b, 5, none⟩ = some (.slice (some ⟨X.gv, 0, none⟩) K.vars.length K.vars.length) ∧ w'.cell? ⟨X.b, 6, none⟩ = some (.slice (some ⟨X.gf, 0, none⟩) K.vars.length K.vars.length) ∧ w'.rangeAt w.heap.size 0 cs)
  (first | exact HS2.out _ (((Kp.refl _ _).drew.turn (grown_setCells _ _ _ _) (by simp)).drew) | exact HS2.out _ (((Kp.refl _ _).drew.turn (grown_setCells _ _ _ _) (by simp)).drew.grown hg2) | exact HS2.out _ ((((Kp.refl _ _).drew.turn (grown_setCells _ _ _ _) (by simp)).drew.grown hg2).set (by simp)) | exact HS2.out _ (((((Kp.refl _ _).drew.turn (grown_setCells _ _ _ _) (by simp)).drew.grown hg2).set (by simp)).set (by simp)))
  (first | (go_at_call 60; refine (K1.get _ KD.out).mono ?_; rintro e w2 ⟨rfl, hg2⟩; obtain ⟨⟨u1, k1⟩, ⟨u2, k2⟩, f1, f2⟩ := HC.out w2 ((grown_drew' _ _).trans hg2)))
 all_goals go_wp2
 all_goals go_end0
 all_goals exact ⟨rfl, HF.out _ ((grown_drew' _ _).trans hg2)⟩
end
section
set_option maxHeartbeats 4000000
set_option maxRecDepth 100000
variable {w0 w w' w'' : World} {X : SL} {K : SK} {s : SS} {vT vS : Value}
theorem openS_snoc (s : SS) (l : List Int) (v : Int) : openS s (l ++ [v]) = if s.fixed v then openS s l else (v, (openS s l).2 + 1) := by simp [openS]
theorem openS_le (s : SS) (l : List Int) : 0 ≤ (openS s l).2 ∧ (openS s l).2 ≤ l.length := by
 refine ⟨(open_spec s l).1, ?_⟩
 have key : ∀ (l : List Int) (p : Int × Int), (l.foldl (fun p v => if s.fixed v then p else (v, p.2 + 1)) p).2 ≤ p.2 + l.length := by
  intro l
  induction l with
  | nil => intro p; simp
  | cons v l ih =>
   intro p
   have := ih (if s.fixed v then p else (v, p.2 + 1))
   rw [List.foldl_cons, List.length_cons]
   by_cases c : s.fixed v = true
   ·rw [if_pos c] at this ⊢; omega
   ·rw [if_neg c] at this ⊢; simp only [] at this; omega
 have := key l (0, 0)
 unfold openS
 simpa using this
theorem IRow.is {v : Value} {l : List Int} (h : IRow X w v l) : ∃ a c, v = .slice a l.length c := by
 rcases h with ⟨rfl, a, c, e⟩ | ⟨g, cap, cells, h1, _⟩
 ·exact ⟨a, c, e⟩
 ·exact ⟨_, _, h1⟩
theorem sc_lastOpen (h : SAt w0 w X K s vT vS) (hn : K.vars.length ≤ 8) {vv : Value} {l : List Int} (hl : IRow X w vv l) (hp : ∀ v ∈ l, PlOk K.vars.length v) (hll : l.length ≤ 3000) : Calls Tryz.prog 63 #[.pointer (some ⟨X.b, 0, none⟩), vv] w fun e w' => e = .returned (.tuple #[.int .i64 (openS s l).1, .int .i64 (openS s l).2]) ∧ w' = w := by
 obtain ⟨va, vc, rfl⟩ := hl.is
 have r6 := h.f6
 have HH := hide h
 have HL := hide hl
 have HP := hide hp
 have hlt := h.lt.1
 have hlf := h.lt.2.2.2.1
 clear h hl hp
 go_enter Tryz.func63, Tryz.ntmps63
 go_wp2
 go_loopw [4, 5, 10] (fun vv vo vi wr => ∃ i : Nat, i ≤ l.length ∧ vi = .int .i64 i ∧ vv = .int .i64 (openS s (l.take i)).1 ∧ vo = .int .i64 (openS s (l.take i)).2 ∧ wr = w) (fun _ _ vi _ => l.length - (intOf vi).toNat)
 case atStart => exact ⟨0, Nat.zero_le _, rfl, rfl, rfl, rfl⟩
 case round =>
  obtain ⟨i, hi, rfl, rfl, rfl, hww⟩ := hrel
  subst wr
  by_cases hlt2 : i < l.length
  ·obtain ⟨a, ha⟩ : ∃ a, l[i]? = some a := ⟨l[i], List.getElem?_eq_getElem hlt2⟩
   rcases HL.out with ⟨e0, _⟩ | ⟨g, cap, cells, h1, h2, h3, h4, h5⟩
   ·rw [e0] at hlt2; simp at hlt2
   obtain rfl : va = some ⟨g, 0, none⟩ := by injection h1
   have k0 : w.cell? ⟨g, i, none⟩ = some (.int .i64 a) := cell_of h2 i _ (h3 i a ha)
   have hpa := HP.out a (List.mem_of_getElem? ha)
   obtain ⟨_, k1, _, _⟩ := HH.out.valAt hpa
   have hp1 := hpa.1
   have hp2 := hpa.2
   have hlt3 : (i : Int) < l.length := by omega
   have h03 : (0 : Int) ≤ i := by omega
   have hsn : Hid (openS s (l.take (i + 1)) = if s.fixed a then openS s (l.take i) else (a, (openS s (l.take i)).2 + 1)) := by
    rw [Hid, List.take_add_one, ha]; exact openS_snoc _ _ _
   obtain ⟨o1, o2⟩ := openS_le s (l.take i)
   have o3 : (openS s (l.take i)).2 ≤ 3000 := by have := List.length_take_le i l; omega
   clear hpa o2 h1 h3 h5 ha
   generalize openS s (l.take i) = O at *
   by_cases cf : s.fixed a = true
   ·rw [cf] at k1
    go_wp2
    go_roundw
    case rel => exact ⟨i + 1, by omega, by go_num, by rw [hsn.out, if_pos cf], by rw [hsn.out, if_pos cf], trivial⟩
    case measure => simp [intOf]; omega
   ·have cf' : s.fixed a = false := by simpa using cf
    rw [cf'] at k1
    go_wp2
    go_roundw
    case rel => exact ⟨i + 1, by omega, by go_num, by rw [hsn.out, if_neg cf], by rw [hsn.out, if_neg cf], trivial⟩
    case measure => simp [intOf]; omega
  ·obtain rfl : i = l.length := by omega
   go_wp2
   go_ret2
   rw [List.take_of_length_le (Nat.le_refl _)]
   exact ⟨rfl, rfl⟩
theorem splitS_snoc (s : SS) (l : List (Int × Int)) (v : Int) (t : Int × Int) : splitS s (l ++ [t]) v = if t.1 = v then ((splitS s l v).1 + t.2, (splitS s l v).2) else ((splitS s l v).1, (splitS s l v).2 + t.2 * s.val t.1) := by simp [splitS]
theorem oneV_bd {D : Nat} (hD : D < 2 ^ 2001) : -1000 ≤ oneV D ∧ oneV D ≤ 1000 := by
 unfold oneV
 cases e : valsD D with
 | nil => simp
 | cons a l => exact valsD_in hD (by rw [e]; simp)
theorem splitS_bd {s : SS} {v : Int} (hs : ∀ u, s.L u < 2 ^ 2001) : ∀ (ts : List (Int × Int)), (∀ p ∈ ts, -100 ≤ p.2 ∧ p.2 ≤ 100) → -100 * (ts.length : Int) ≤ (splitS s ts v).1 ∧ (splitS s ts v).1 ≤ 100 * (ts.length : Int) ∧ -100000 * (ts.length : Int) ≤ (splitS s ts v).2 ∧ (splitS s ts v).2 ≤ 100000 * (ts.length : Int) := by
 intro ts ht
 have key : ∀ (ts : List (Int × Int)), (∀ p ∈ ts, -100 ≤ p.2 ∧ p.2 ≤ 100) → ∀ (q : Int × Int),
   let r := ts.foldl (fun p t => if t.1 = v then (p.1 + t.2, p.2) else (p.1, p.2 + t.2 * s.val t.1)) q
   q.1 - 100 * (ts.length : Int) ≤ r.1 ∧ r.1 ≤ q.1 + 100 * (ts.length : Int) ∧ q.2 - 100000 * (ts.length : Int) ≤ r.2 ∧ r.2 ≤ q.2 + 100000 * (ts.length : Int) := by
  intro ts
  induction ts with
  | nil => intro _ q; simp
  | cons t ts ih =>
   intro ht q
   have h1 := ih (fun p hp => ht p (by simp [hp])) (if t.1 = v then (q.1 + t.2, q.2) else (q.1, q.2 + t.2 * s.val t.1))
   have h2 := ht t (by simp)
   have h3 := oneV_bd (hs t.1)
   have h4 := mul_bd h2.1 h2.2 h3.1 h3.2
   simp only [List.foldl_cons, List.length_cons] at h1 ⊢
   have h5 : t.2 * s.val t.1 = t.2 * oneV (s.L t.1) := rfl
   by_cases c : t.1 = v
   ·rw [if_pos c] at h1 ⊢
    simp only [] at h1
    omega
   ·rw [if_neg c] at h1 ⊢
    simp only [] at h1
    omega
 have := key ts ht (0, 0)
 unfold splitS
 simp only [] at this
 omega
theorem sc_split (h : SAt w0 w X K s vT vS) (hn : K.vars.length ≤ 8) (hs : ∀ u, s.L u < 2 ^ 2001) {vt : Value} {gt ct : Nat} {ts : List (Int × Int)} (hT : RowIn w vt gt ct prCell ts) (hok : ∀ p ∈ ts, PlOk K.vars.length p.1 ∧ -100 ≤ p.2 ∧ p.2 ≤ 100) (hl : ts.length ≤ 8) (v : Int) : Calls Tryz.prog 102 #[.pointer (some ⟨X.b, 0, none⟩), vt, .int .i64 v] w fun e w' => e = .returned (.tuple #[.int .i64 (splitS s ts v).1, .int .i64 (splitS s ts v).2]) ∧ w.grownBy w' none := by
 have HT := hide hT
 have HH := hide h
 have HOK := hide hok
 have hgt := hT.lt
 obtain rfl := hT.is
 clear hT h hok
 go_enter Tryz.func102, Tryz.ntmps102
 go_wp2
 go_loopw [6, 7, 12] (fun vf vr vi wr => ∃ i : Nat, i ≤ ts.length ∧ vi = .int .i64 i ∧ vf = .int .i64 (splitS s (ts.take i) v).1 ∧ vr = .int .i64 (splitS s (ts.take i) v).2 ∧ w.grownBy wr none) (fun _ _ vi _ => ts.length - (intOf vi).toNat)
 case atStart => exact ⟨0, Nat.zero_le _, rfl, rfl, rfl, grown_refl _ _⟩
 case round =>
  obtain ⟨i, hi, rfl, rfl, rfl, hgr⟩ := hrel
  by_cases hlt : i < ts.length
  ·obtain ⟨a, ha⟩ : ∃ a, ts[i]? = some a := ⟨ts[i], by simp [hlt]⟩
   obtain ⟨hp, hf1, hf2⟩ := HOK.out a (List.mem_of_getElem? ha)
   have hR := HT.out.kept hgr (by simp)
   have hA := HH.out.grown hgr
   have k0 : wr.cell? ⟨gt, i * 2, none⟩ = some (.int .i64 a.1) := hR.at (sz := 2) (fun _ => rfl) ha 0 _ rfl
   have k1 : wr.cell? ⟨gt, i * 2 + 1, none⟩ = some (.int .i64 a.2) := hR.at (sz := 2) (fun _ => rfl) ha 1 _ rfl
   have k2 := (hA.valAt hp).1
   have r5 := hA.f5
   have hb := splitS_bd (v := v) hs (ts.take i) (fun p hp => (HOK.out p (List.mem_of_mem_take hp)).2)
   have hsn : Hid (splitS s (ts.take (i + 1)) v = if a.1 = v then ((splitS s (ts.take i) v).1 + a.2, (splitS s (ts.take i) v).2) else ((splitS s (ts.take i) v).1, (splitS s (ts.take i) v).2 + a.2 * s.val a.1)) := by
    rw [Hid, List.take_add_one, ha]; exact splitS_snoc _ _ _ _
   have hx : -1000 ≤ s.val a.1 ∧ s.val a.1 ≤ 1000 := oneV_bd (hs a.1)
   have hm := mul_bd hf1 hf2 hx.1 hx.2
   have hti : ((ts.take i).length : Int) ≤ 8 := by have := List.length_take_le i ts; omega
   have hp1 := hp.1
   have hp2 := hp.2
   have hlt3 : (i : Int) < ts.length := by omega
   have h03 : (0 : Int) ≤ i := by omega
   have hlb := hA.lt.1
   have hlv := hA.lt.2.2.1
   obtain ⟨a1, a2⟩ := a
   simp only at *
   generalize splitS s (ts.take i) v = O at *
   generalize s.val a1 = Y at *
   have o1 : -800 ≤ O.1 := by omega
   have o2 : O.1 ≤ 800 := by omega
   have o3 : -800000 ≤ O.2 := by omega
   have o4 : O.2 ≤ 800000 := by omega
   have hm1 := hm.1
   have hm2 := hm.2
   have hx1 := hx.1
   have hx2 := hx.2
   have HGR := hide hgr
   clear hR hA hgr hb hti hp ha hm hx
   by_cases cv : a1 = v
   ·have cv' : (a1 == v) = true := by simpa using cv
    go_wp2
    go_roundw
    case rel => exact ⟨i + 1, by omega, by go_num, by rw [hsn.out, if_pos cv], by rw [hsn.out, if_pos cv], HGR.out.trans (World.grownBy_alloc _ _ _)⟩
    case measure => simp [intOf]; omega
   ·have cv' : (a1 == v) = false := by simpa using cv
    go_wp2
    go_quiet (fail)
    go_wp2
    go_roundw
    case rel => exact ⟨i + 1, by omega, by go_num, by rw [hsn.out, if_neg cv], by rw [hsn.out, if_neg cv], (HGR.out.trans (World.grownBy_alloc _ _ _)).trans (grown_drewN' _ _ _)⟩
    case measure => simp [intOf]; omega
  ·obtain rfl : i = ts.length := by omega
   go_wp2
   go_ret2
   rw [List.take_of_length_le (Nat.le_refl _)]
   exact ⟨rfl, hgr⟩
end
section
variable {w0 w w' w'' : World} {X : SL} {K : SK} {s : SS} {vT vS : Value}
structure DC (D : Nat) (c : List Value) : Prop where
 is : c = dL D
theorem dc (D : Nat) : ∃ c, DC D c := ⟨dL D, ⟨rfl⟩⟩
theorem DC.len {D : Nat} {c : List Value} (h : DC D c) : c.length = 32 := by rw [h.is]; exact dL_len D
theorem DC.one {D : Nat} {c : List Value} (h : DC D c) : ∀ v ∈ c, v.oneCell' = true := by rw [h.is]; exact dL_one D
theorem DC.info {D : Nat} {c : List Value} (h : DC D c) : (Tryz.prog.info? 97).map (·.size) = some c.length := by rw [h.is]; exact dInfo D
theorem DC.info' {D : Nat} {c : List Value} (h : DC D c) : (Tryz.prog.info? 97).map (·.size) = some c.toArray.size := by rw [List.size_toArray]; exact h.info
theorem DC.one' {D : Nat} {c : List Value} (h : DC D c) : c.toArray.all (·.oneCell') = true := all_oneCell_toArray h.one
theorem dc_Has {D : Nat} {c : List Value} (h : DC D c) (v : Int) (h1 : -1000 ≤ v) (h2 : v ≤ 1000) (w : World) : Calls Tryz.prog 105 #[.agg c.toArray, .int .i64 v] w fun e w' => e = .returned (.bool (hasD D v)) ∧ w.grownBy w' none := by
 rw [h.is, ← dArr_dL]; exact dm_Has D v h1 h2 w
theorem dc_With {D : Nat} {c r : List Value} {v : Int} (h : DC D c) (hr : DC (D ||| bitV v) r) (h1 : -1000 ≤ v) (h2 : v ≤ 1000) (w : World) : Calls Tryz.prog 106 #[.agg c.toArray, .int .i64 v] w fun e w' => e = .returned (.agg r.toArray) ∧ w.grownBy w' none := by
 rw [h.is, hr.is, ← dArr_dL, ← dArr_dL]; exact dm_With D v h1 h2 w
theorem dc_Only {r : List Value} {v : Int} (hr : DC (bitV v) r) (h1 : -1000 ≤ v) (h2 : v ≤ 1000) (w : World) : Calls Tryz.prog 73 #[.int .i64 v] w fun e w' => e = .returned (.agg r.toArray) ∧ w.grownBy w' none := by
 rw [hr.is, ← dArr_dL]; exact dm_Only v h1 h2 w
theorem dc_And {D E : Nat} {c d r : List Value} (h : DC D c) (k : DC E d) (hr : DC (D &&& E) r) (w : World) : Calls Tryz.prog 107 #[.agg c.toArray, .agg d.toArray] w fun e w' => e = .returned (.agg r.toArray) ∧ w.grownBy w' none := by
 rw [h.is, k.is, hr.is, ← dArr_dL, ← dArr_dL, ← dArr_dL]; exact dm_And D E w
theorem dc_Without {D E : Nat} {c d r : List Value} (h : DC D c) (k : DC E d) (hr : DC (subD D E) r) (w : World) : Calls Tryz.prog 134 #[.agg c.toArray, .agg d.toArray] w fun e w' => e = .returned (.agg r.toArray) ∧ w.grownBy w' none := by
 rw [h.is, k.is, hr.is, ← dArr_dL, ← dArr_dL, ← dArr_dL]; exact dm_Without D E w
theorem dc_Count {D : Nat} {c : List Value} (h : DC D c) (w : World) : Calls Tryz.prog 113 #[.agg c.toArray] w fun e w' => e = .returned (.int .i64 (cntD D : Nat)) ∧ w.grownBy w' none := by
 rw [h.is, ← dArr_dL]; exact dm_Count D w
theorem dc_atMost {f n : Int} {r : List Value} (hr : DC (mostD f n) r) (g1 : -1000000000 ≤ f) (g2 : f ≤ 1000000000) (h1 : -100000000000 ≤ n) (h2 : n ≤ 100000000000) (w : World) : Calls Tryz.prog 133 #[.int .i64 f, .int .i64 n] w fun e w' => e = .returned (.agg r.toArray) ∧ w.grownBy w' none := by
 rw [hr.is, ← dArr_dL]; exact sc_atMost f n g1 g2 h1 h2 w
theorem dc_set {D : Nat} {c : List Value} (hc : DC D c) (h : SAt w0 w X K s vT vS) (hn : K.vars.length ≤ 8) {v : Int} (hv : PlOk K.vars.length v) (hD : D < 2 ^ 2001) : Calls Tryz.prog 34 #[.pointer (some ⟨X.b, 0, none⟩), .int .i64 v, .agg c.toArray] w fun e w' => e = .returned (.tuple #[]) ∧ SAt w0 w' X K (setS v D s) vT vS ∧ FrS X w w' := by
 rw [hc.is]; exact sc_set h hn hv hD
structure BoxC (w : World) (b : Nat) (c : List Value) : Prop where
 at_ : w.heap[b]? = some (.cells c.toArray 97 (0, 0))
 len : c.length = 32
theorem BoxC.range {b : Nat} {c : List Value} (h : BoxC w b c) : w.rangeAt b 0 c := fun j u hu => by rw [Nat.zero_add]; exact cell_of h.at_ j u (by simpa using hu)
theorem BoxC.there {b : Nat} {c : List Value} (h : BoxC w b c) : w.there b 0 32 := fun j hj => by
 refine ⟨?_, frozen_of h.at_ _⟩
 have : j < c.length := by rw [h.len]; exact hj
 rw [Nat.zero_add, cell_of h.at_ j (c[j]) (by simp [this])]; rfl
theorem BoxC.store {b : Nat} {c r : List Value} (h : BoxC w b c) (hr : r.length = 32) : BoxC (w.setCells b 0 r) b r := by
 obtain ⟨a, h1, h2, h3, h4⟩ := heap_setCells r 0 w _ h.at_
 refine ⟨?_, hr⟩
 rw [h1]
 have : a = r.toArray := by
  apply Array.ext_getElem?
  intro j
  by_cases hj : j < 32
  ·have := h3 j (by omega) (by simp [h.len, hj])
   rw [Nat.zero_add] at this
   rw [this]; simp
  ·rw [Array.getElem?_eq_none (by rw [h2]; simp [h.len]; omega), Array.getElem?_eq_none (by simp [hr]; omega)]
 rw [this]
theorem BoxC.kept {b : Nat} {c : List Value} (h : BoxC w b c) (hg : w.grownBy w' none) : BoxC w' b c := ⟨(hg.block b (some_lt h.at_) (by simp)).trans h.at_, h.len⟩
theorem BoxC.far {b g : Nat} {c : List Value} (h : BoxC w b c) (hg : w.grownBy w' (some g)) (hn : b ≠ g) : BoxC w' b c := ⟨(hg.block b (some_lt h.at_) (fun e => hn (Option.some.inj e))).trans h.at_, h.len⟩
theorem BoxC.new (w : World) {c : List Value} (h : c.length = 32) : BoxC (w.alloc (.cells c.toArray 97)) w.heap.size c := ⟨heap_alloc_new w _, h⟩
theorem BoxC.frs {b : Nat} {c : List Value} (h : BoxC w b c) (hf : FrS X w w') (hn : b ∉ X.own) : BoxC w' b c := ⟨hf.block b _ h.at_ hn (fun _ _ e => by cases e) (fun _ _ e => by cases e), h.len⟩
def ldS (p : Value) : Sem Value := Instr.loadAt 97 p
def stS (p v : Value) : Sem Unit := Instr.storeAt 97 p v
theorem ld_veil (p : Value) : Instr.loadAt 97 p = ldS p := rfl
theorem st_veil (p v : Value) : Instr.storeAt 97 p v = stS p v := rfl
theorem ld_range {b o : Nat} {c : List Value} (h : w.rangeAt b o c) (hl : c.length = 32) : Sem.run Tryz.prog (ldS (.pointer (some ⟨b, o, none⟩))) w = .ok (.agg c.toArray) w :=
 run_loadAt_mid w b o 97 c _ h dUnder rfl (by rw [hl]; exact infoDm)
theorem st_there {b o : Nat} {c : List Value} (h : w.there b o 32) (hl : c.length = 32) (h1 : ∀ v ∈ c, v.oneCell' = true) : Sem.run Tryz.prog (stS (.pointer (some ⟨b, o, none⟩)) (.agg c.toArray)) w = .ok () (w.setCells b o c) :=
 run_storeAt_mid w b o 97 c.toArray (by rw [List.size_toArray, hl]; exact h) (by rw [List.size_toArray, hl]; exact infoDm) (all_oneCell_toArray h1)
end
section
set_option maxHeartbeats 4000000
set_option maxRecDepth 100000
variable {w0 w w' w'' : World} {X : SL} {K : SK} {s : SS} {vT vS : Value}
structure SuitB (w : World) (P : Nat) (c m : List Value) (W : World) : Prop where
 g : w.grownBy W none
 b0 : BoxC W w.heap.size c
 b1 : ∃ z, BoxC W (w.heap.size + 1) z
 b2 : BoxC W P m
 hp : w.heap.size + 2 ≤ P
theorem SuitB.kept {P : Nat} {c m : List Value} {W W' : World} (h : SuitB w P c m W) (hg : W.grownBy W' none) : SuitB w P c m W' := by
 obtain ⟨z, hz⟩ := h.b1
 exact ⟨h.g.trans hg, h.b0.kept hg, ⟨z, hz.kept hg⟩, h.b2.kept hg, h.hp⟩
theorem SuitB.store {P : Nat} {c m r : List Value} {W : World} (h : SuitB w P c m W) (hr : r.length = 32) : SuitB w P c r (W.setCells P 0 r) := by
 have gs := grown_setCells W P 0 r
 have := h.hp
 obtain ⟨z, hz⟩ := h.b1
 exact ⟨grown_newr h.g (by omega) gs, h.b0.far gs (by omega), ⟨z, hz.far gs (by omega)⟩, h.b2.store hr, h.hp⟩
theorem SuitB.done {P : Nat} {c m r : List Value} {W : World} (h : SuitB w P c m W) (hr : r.length = 32) : w.grownBy (W.setCells (w.heap.size + 1) 0 r) none ∧ BoxC (W.setCells (w.heap.size + 1) 0 r) (w.heap.size + 1) r := by
 obtain ⟨z, hz⟩ := h.b1
 exact ⟨grown_newr h.g (by omega) (grown_setCells W (w.heap.size + 1) 0 r), hz.store hr⟩
theorem suit_start {c m z : List Value} {w1 : World} {Z : Array Value} (hc : c.length = 32) (hm : m.length = 32) (hz : Z = z.toArray) (hzl : z.length = 32) (hg : ((w.alloc (.cells c.toArray 97)).alloc (.cells Z 97)).grownBy w1 none) : SuitB w w1.heap.size c m (w1.alloc (.cells m.toArray 97)) := by
 have hs := hg.size
 simp at hs
 subst hz
 have b0 : BoxC ((w.alloc (.cells c.toArray 97)).alloc (.cells z.toArray 97)) w.heap.size c := ⟨(heap_alloc_old _ _ (by simp)).trans (heap_alloc_new w _), hc⟩
 have b1 : BoxC ((w.alloc (.cells c.toArray 97)).alloc (.cells z.toArray 97)) (w.heap.size + 1) z := by
  have q := heap_alloc_new (w.alloc (.cells c.toArray 97)) (.cells z.toArray 97)
  exact ⟨by simpa using q, hzl⟩
 exact ⟨((((World.grownBy_alloc _ _ _).trans (World.grownBy_alloc _ _ _)).trans hg).trans (World.grownBy_alloc _ _ _)), (b0.kept hg).kept (World.grownBy_alloc _ _ _), ⟨z, (b1.kept hg).kept (World.grownBy_alloc _ _ _)⟩, BoxC.new w1 hm, by omega⟩
theorem dZeroL : (dL 0).toArray = #[.int .u64 0, .int .u64 0, .int .u64 0, .int .u64 0, .int .u64 0, .int .u64 0, .int .u64 0, .int .u64 0, .int .u64 0, .int .u64 0, .int .u64 0, .int .u64 0, .int .u64 0, .int .u64 0, .int .u64 0, .int .u64 0, .int .u64 0, .int .u64 0, .int .u64 0, .int .u64 0, .int .u64 0, .int .u64 0, .int .u64 0, .int .u64 0, .int .u64 0, .int .u64 0, .int .u64 0, .int .u64 0, .int .u64 0, .int .u64 0, .int .u64 0, .int .u64 0] := by rw [← dArr_dL]; exact dZero
theorem suit_le (D : Nat) (f n : Int) (t : Bool) {cD cR : List Value} (hD : DC D cD) (hR : DC (suitD D f 2 n t) cR) (g1 : -1000000000 ≤ f) (g2 : f ≤ 1000000000) (h1 : -100000000000 ≤ n) (h2 : n ≤ 100000000000) (w : World) : Calls Tryz.prog 104 #[.agg cD.toArray, .int .i64 f, .int .i64 2, .int .i64 n, .bool t] w fun e w' => e = .returned (.agg cR.toArray) ∧ w.grownBy w' none := by
 obtain ⟨cM, hM⟩ := dc (mostD f n)
 cases t with
 | true =>
  have HR : suitD D f 2 n true = D &&& mostD f n := by unfold suitD setD; simp
  rw [HR] at hR
  have KT := Kept.mk (fun W => dc_And hD hM hR W)
  clear HR
  have K1 := Kept.mk (fun W => dc_atMost hM g1 g2 h1 h2 W)
  have hMi := hM.info'
  have hMo := hM.one'
  have hMi2 := hM.info
  have hMl := hM.len
  have hMs : cM.toArray.size = 32 := by rw [List.size_toArray]; exact hMl
  have hDl := hD.len
  have hDi := hD.info
  have hRi := hR.info'
  have hRo := hR.one'
  have hRl := hR.len
  have hRs : cR.toArray.size = 32 := by rw [List.size_toArray]; exact hRl
  have hun := dUnder
  clear hM hD hR
  go_enter Tryz.func104, Tryz.ntmps104
  go_wp2_with (first | (refine wpList_store_mid rfl 97 _ _ rfl (w.heap.size + 1) 0 cR.toArray rfl rfl tb5 hRi hRo ?_) | (go_at_call 107; refine (KT.get _).mono ?_; rintro e w5 ⟨rfl, hg5⟩; have hB5 := HB.out.kept hg5; have tb5 : w5.there (w.heap.size + 1) 0 cR.toArray.size := (by obtain ⟨z, hz⟩ := hB5.b1; rw [hRs]; exact hz.there); obtain ⟨q1, q2⟩ := hB5.done hRl) | (refine wpList_load_mid rfl 97 _ rfl w1.heap.size 0 rfl cM _ rm hun rfl hMi2 ?_) | (refine wpList_load_mid rfl 97 _ rfl w.heap.size 0 rfl cD _ rd hun rfl hDi ?_) | (refine wpList_store_new rfl 97 _ _ rfl cM.toArray 97 _ rfl rfl hMi (by rw [hMs]; rfl) hMo ?_) | (go_at_call 133; refine (K1.get _).mono ?_; rintro e w1 ⟨rfl, hg1⟩; have HB := hide (suit_start hDl hMl dZeroL.symm (dL_len 0) hg1); have rd := HB.out.b0.range; have rm := HB.out.b2.range))
  refine bodyPost_ret (results_cell_row rfl _ _ (w.heap.size + 1) 97 cR.toArray (0, 0) _ rfl q2.at_ hun rfl hRi) rfl ?_
  exact ⟨rfl, q1⟩
 | false =>
  have HR : suitD D f 2 n false = subD D (mostD f n) := by unfold suitD setD; simp
  rw [HR] at hR
  have KT := Kept.mk (fun W => dc_Without hD hM hR W)
  clear HR
  have K1 := Kept.mk (fun W => dc_atMost hM g1 g2 h1 h2 W)
  have hMi := hM.info'
  have hMo := hM.one'
  have hMi2 := hM.info
  have hMl := hM.len
  have hMs : cM.toArray.size = 32 := by rw [List.size_toArray]; exact hMl
  have hDl := hD.len
  have hDi := hD.info
  have hRi := hR.info'
  have hRo := hR.one'
  have hRl := hR.len
  have hRs : cR.toArray.size = 32 := by rw [List.size_toArray]; exact hRl
  have hun := dUnder
  clear hM hD hR
  go_enter Tryz.func104, Tryz.ntmps104
  go_wp2_with (first | (refine wpList_store_mid rfl 97 _ _ rfl (w.heap.size + 1) 0 cR.toArray rfl rfl tb5 hRi hRo ?_) | (go_at_call 134; refine (KT.get _).mono ?_; rintro e w5 ⟨rfl, hg5⟩; have hB5 := HB.out.kept hg5; have tb5 : w5.there (w.heap.size + 1) 0 cR.toArray.size := (by obtain ⟨z, hz⟩ := hB5.b1; rw [hRs]; exact hz.there); obtain ⟨q1, q2⟩ := hB5.done hRl) | (refine wpList_load_mid rfl 97 _ rfl w1.heap.size 0 rfl cM _ rm hun rfl hMi2 ?_) | (refine wpList_load_mid rfl 97 _ rfl w.heap.size 0 rfl cD _ rd hun rfl hDi ?_) | (refine wpList_store_new rfl 97 _ _ rfl cM.toArray 97 _ rfl rfl hMi (by rw [hMs]; rfl) hMo ?_) | (go_at_call 133; refine (K1.get _).mono ?_; rintro e w1 ⟨rfl, hg1⟩; have HB := hide (suit_start hDl hMl dZeroL.symm (dL_len 0) hg1); have rd := HB.out.b0.range; have rm := HB.out.b2.range))
  refine bodyPost_ret (results_cell_row rfl _ _ (w.heap.size + 1) 97 cR.toArray (0, 0) _ rfl q2.at_ hun rfl hRi) rfl ?_
  exact ⟨rfl, q1⟩
end
section
set_option maxHeartbeats 4000000
set_option maxRecDepth 100000
attribute [local go_sem ↓] ld_veil st_veil
variable {w0 w w' w'' : World} {X : SL} {K : SK} {s : SS} {vT vS : Value}
theorem wrap_s64 {n : Int} (h0 : -9223372036854775808 ≤ n) (h1 : n ≤ 9223372036854775807) : IntKind.i64.wrap n = n := by
 unfold IntKind.wrap
 simp [IntKind.bits, IntKind.signed]
 omega
theorem suit_0t (D : Nat) (f n : Int) {cD cR : List Value} (hD : DC D cD) (hR : DC (suitD D f 0 n true) cR) (g1 : -1000000000 ≤ f) (g2 : f ≤ 1000000000) (h1 : -100000000000 ≤ n) (h2 : n ≤ 100000000000) (w : World) : Calls Tryz.prog 104 #[.agg cD.toArray, .int .i64 f, .int .i64 0, .int .i64 n, .bool true] w fun e w' => e = .returned (.agg cR.toArray) ∧ w.grownBy w' none := by
 have HR : suitD D f 0 n true = D &&& (mostD f n &&& mostD (-f) (-n)) := by unfold suitD setD; simp
 have hw1 : IntKind.i64.wrap (-f) = -f := wrap_s64 (by omega) (by omega)
 have hw2 : IntKind.i64.wrap (-n) = -n := wrap_s64 (by omega) (by omega)
 obtain ⟨cM, hM⟩ := dc (mostD f n)
 obtain ⟨cN, hN⟩ := dc (mostD (-f) (-n))
 obtain ⟨cS, hS⟩ := dc (mostD f n &&& mostD (-f) (-n))
 rw [HR] at hR
 clear HR
 have KT := Kept.mk (fun W => dc_And hD hS hR W)
 have K3 := Kept.mk (fun W => dc_And hM hN hS W)
 have K2 := Kept.mk (fun W => dc_atMost hN (by omega) (by omega) (by omega) (by omega) W)
 have K1 := Kept.mk (fun W => dc_atMost hM g1 g2 h1 h2 W)
 have hMi := hM.info'
 have hMo := hM.one'
 have hMi2 := hM.info
 have hMl := hM.len
 have hMs : cM.toArray.size = 32 := by rw [List.size_toArray]; exact hMl
 have hDl := hD.len
 have hDi := hD.info
 have hRi := hR.info'
 have hRo := hR.one'
 have hRl := hR.len
 have hRs : cR.toArray.size = 32 := by rw [List.size_toArray]; exact hRl
 have hSi := hS.info'
 have hSi2 := hS.info
 have hSo := hS.one
 have hSl := hS.len
 have hSs : cS.toArray.size = 32 := by rw [List.size_toArray]; exact hSl
 have hun := dUnder
 clear hM hD hR hN hS
 go_enter Tryz.func104, Tryz.ntmps104
 go_wp2_with (first | (refine wpList_store_new rfl 97 _ _ rfl cM.toArray 97 _ rfl rfl hMi (by rw [hMs]; rfl) hMo ?_) | (go_at_call 133; refine (K1.get _).mono ?_; rintro e w1 ⟨rfl, hg1⟩))
 have HB := hide (suit_start hDl hMl dZeroL.symm (dL_len 0) hg1)
 obtain ⟨P, hP⟩ : ∃ P, P = w1.heap.size := ⟨_, rfl⟩
 rw [← hP] at HB ⊢
 generalize w1.alloc (.cells cM.toArray 97) = W at *
 clear hg1 K1 hP
 have rm0 := ld_range (w := W.drew) HB.out.b2.range hMl
 have HK : Hid (∀ w4 : World, W.drew.grownBy w4 none → Sem.run Tryz.prog (ldS (.pointer (some ⟨P, 0, none⟩))) w4 = .ok (.agg cM.toArray) w4 ∧ Sem.run Tryz.prog (stS (.pointer (some ⟨P, 0, none⟩)) (.agg cS.toArray)) w4 = .ok () (w4.setCells P 0 cS) ∧ SuitB w P cD cS (w4.setCells P 0 cS)) := fun w4 hg => by
  have q := HB.out.kept ((grown_drew' _ _).trans hg)
  exact ⟨ld_range q.b2.range hMl, st_there q.b2.there hSl hSo, q.store hSl⟩
 go_region_with (first | (go_at_call 107; refine (K3.get _).mono ?_; rintro e w4 ⟨rfl, hg4⟩; obtain ⟨_, tb4, hB4⟩ := HK.out w4 (hg3.trans hg4)) | (go_at_call 133; refine (K2.get _).mono ?_; rintro e w3 ⟨rfl, hg3⟩; have rm3 := (HK.out w3 hg3).1))
 all_goals
  have HB4 := hide hB4
  have rd4 := HB4.out.b0.range
  have rm4 := HB4.out.b2.range
  clear hB4 tb4 hg3 hg4 K2 K3 rm0
  go_wp2_with (first | (refine wpList_store_mid rfl 97 _ _ rfl (w.heap.size + 1) 0 cR.toArray rfl rfl tb5 hRi hRo ?_) | (go_at_call 107; refine (KT.get _).mono ?_; rintro e w5 ⟨rfl, hg5⟩; have hB5 := HB4.out.kept hg5; have tb5 : w5.there (w.heap.size + 1) 0 cR.toArray.size := (by obtain ⟨z, hz⟩ := hB5.b1; rw [hRs]; exact hz.there); obtain ⟨q1, q2⟩ := hB5.done hRl) | (refine wpList_load_mid rfl 97 _ rfl P 0 rfl cS _ rm4 hun rfl hSi2 ?_) | (refine wpList_load_mid rfl 97 _ rfl w.heap.size 0 rfl cD _ rd4 hun rfl hDi ?_))
  refine bodyPost_ret (results_cell_row rfl _ _ (w.heap.size + 1) 97 cR.toArray (0, 0) _ rfl q2.at_ hun rfl hRi) rfl ?_
  exact ⟨rfl, q1⟩
theorem suit_0f (D : Nat) (f n : Int) {cD cR : List Value} (hD : DC D cD) (hR : DC (suitD D f 0 n false) cR) (g1 : -1000000000 ≤ f) (g2 : f ≤ 1000000000) (h1 : -100000000000 ≤ n) (h2 : n ≤ 100000000000) (w : World) : Calls Tryz.prog 104 #[.agg cD.toArray, .int .i64 f, .int .i64 0, .int .i64 n, .bool false] w fun e w' => e = .returned (.agg cR.toArray) ∧ w.grownBy w' none := by
 have HR : suitD D f 0 n false = subD D (mostD f n &&& mostD (-f) (-n)) := by unfold suitD setD; simp
 have hw1 : IntKind.i64.wrap (-f) = -f := wrap_s64 (by omega) (by omega)
 have hw2 : IntKind.i64.wrap (-n) = -n := wrap_s64 (by omega) (by omega)
 obtain ⟨cM, hM⟩ := dc (mostD f n)
 obtain ⟨cN, hN⟩ := dc (mostD (-f) (-n))
 obtain ⟨cS, hS⟩ := dc (mostD f n &&& mostD (-f) (-n))
 rw [HR] at hR
 clear HR
 have KT := Kept.mk (fun W => dc_Without hD hS hR W)
 have K3 := Kept.mk (fun W => dc_And hM hN hS W)
 have K2 := Kept.mk (fun W => dc_atMost hN (by omega) (by omega) (by omega) (by omega) W)
 have K1 := Kept.mk (fun W => dc_atMost hM g1 g2 h1 h2 W)
 have hMi := hM.info'
 have hMo := hM.one'
 have hMi2 := hM.info
 have hMl := hM.len
 have hMs : cM.toArray.size = 32 := by rw [List.size_toArray]; exact hMl
 have hDl := hD.len
 have hDi := hD.info
 have hRi := hR.info'
 have hRo := hR.one'
 have hRl := hR.len
 have hRs : cR.toArray.size = 32 := by rw [List.size_toArray]; exact hRl
 have hSi := hS.info'
 have hSi2 := hS.info
 have hSo := hS.one
 have hSl := hS.len
 have hSs : cS.toArray.size = 32 := by rw [List.size_toArray]; exact hSl
 have hun := dUnder
 clear hM hD hR hN hS
 go_enter Tryz.func104, Tryz.ntmps104
 go_wp2_with (first | (refine wpList_store_new rfl 97 _ _ rfl cM.toArray 97 _ rfl rfl hMi (by rw [hMs]; rfl) hMo ?_) | (go_at_call 133; refine (K1.get _).mono ?_; rintro e w1 ⟨rfl, hg1⟩))
 have HB := hide (suit_start hDl hMl dZeroL.symm (dL_len 0) hg1)
 obtain ⟨P, hP⟩ : ∃ P, P = w1.heap.size := ⟨_, rfl⟩
 rw [← hP] at HB ⊢
 generalize w1.alloc (.cells cM.toArray 97) = W at *
 clear hg1 K1 hP
 have rm0 := ld_range (w := W.drew) HB.out.b2.range hMl
 have HK : Hid (∀ w4 : World, W.drew.grownBy w4 none → Sem.run Tryz.prog (ldS (.pointer (some ⟨P, 0, none⟩))) w4 = .ok (.agg cM.toArray) w4 ∧ Sem.run Tryz.prog (stS (.pointer (some ⟨P, 0, none⟩)) (.agg cS.toArray)) w4 = .ok () (w4.setCells P 0 cS) ∧ SuitB w P cD cS (w4.setCells P 0 cS)) := fun w4 hg => by
  have q := HB.out.kept ((grown_drew' _ _).trans hg)
  exact ⟨ld_range q.b2.range hMl, st_there q.b2.there hSl hSo, q.store hSl⟩
 go_region_with (first | (go_at_call 107; refine (K3.get _).mono ?_; rintro e w4 ⟨rfl, hg4⟩; obtain ⟨_, tb4, hB4⟩ := HK.out w4 (hg3.trans hg4)) | (go_at_call 133; refine (K2.get _).mono ?_; rintro e w3 ⟨rfl, hg3⟩; have rm3 := (HK.out w3 hg3).1))
 all_goals
  have HB4 := hide hB4
  have rd4 := HB4.out.b0.range
  have rm4 := HB4.out.b2.range
  clear hB4 tb4 hg3 hg4 K2 K3 rm0
  go_wp2_with (first | (refine wpList_store_mid rfl 97 _ _ rfl (w.heap.size + 1) 0 cR.toArray rfl rfl tb5 hRi hRo ?_) | (go_at_call 134; refine (KT.get _).mono ?_; rintro e w5 ⟨rfl, hg5⟩; have hB5 := HB4.out.kept hg5; have tb5 : w5.there (w.heap.size + 1) 0 cR.toArray.size := (by obtain ⟨z, hz⟩ := hB5.b1; rw [hRs]; exact hz.there); obtain ⟨q1, q2⟩ := hB5.done hRl) | (refine wpList_load_mid rfl 97 _ rfl P 0 rfl cS _ rm4 hun rfl hSi2 ?_) | (refine wpList_load_mid rfl 97 _ rfl w.heap.size 0 rfl cD _ rd4 hun rfl hDi ?_))
  refine bodyPost_ret (results_cell_row rfl _ _ (w.heap.size + 1) 97 cR.toArray (0, 0) _ rfl q2.at_ hun rfl hRi) rfl ?_
  exact ⟨rfl, q1⟩
theorem suit_1t (D : Nat) (f n : Int) {cD cR : List Value} (hD : DC D cD) (hR : DC (suitD D f 1 n true) cR) (g1 : -1000000000 ≤ f) (g2 : f ≤ 1000000000) (h1 : -100000000000 ≤ n) (h2 : n ≤ 100000000000) (w : World) : Calls Tryz.prog 104 #[.agg cD.toArray, .int .i64 f, .int .i64 1, .int .i64 n, .bool true] w fun e w' => e = .returned (.agg cR.toArray) ∧ w.grownBy w' none := by
 have HR : suitD D f 1 n true = subD D (mostD f n &&& mostD (-f) (-n)) := by unfold suitD setD; simp
 have hw1 : IntKind.i64.wrap (-f) = -f := wrap_s64 (by omega) (by omega)
 have hw2 : IntKind.i64.wrap (-n) = -n := wrap_s64 (by omega) (by omega)
 obtain ⟨cM, hM⟩ := dc (mostD f n)
 obtain ⟨cN, hN⟩ := dc (mostD (-f) (-n))
 obtain ⟨cS, hS⟩ := dc (mostD f n &&& mostD (-f) (-n))
 rw [HR] at hR
 clear HR
 have KT := Kept.mk (fun W => dc_Without hD hS hR W)
 have K3 := Kept.mk (fun W => dc_And hM hN hS W)
 have K2 := Kept.mk (fun W => dc_atMost hN (by omega) (by omega) (by omega) (by omega) W)
 have K1 := Kept.mk (fun W => dc_atMost hM g1 g2 h1 h2 W)
 have hMi := hM.info'
 have hMo := hM.one'
 have hMi2 := hM.info
 have hMl := hM.len
 have hMs : cM.toArray.size = 32 := by rw [List.size_toArray]; exact hMl
 have hDl := hD.len
 have hDi := hD.info
 have hRi := hR.info'
 have hRo := hR.one'
 have hRl := hR.len
 have hRs : cR.toArray.size = 32 := by rw [List.size_toArray]; exact hRl
 have hSi := hS.info'
 have hSi2 := hS.info
 have hSo := hS.one
 have hSl := hS.len
 have hSs : cS.toArray.size = 32 := by rw [List.size_toArray]; exact hSl
 have hun := dUnder
 clear hM hD hR hN hS
 go_enter Tryz.func104, Tryz.ntmps104
 go_wp2_with (first | (refine wpList_store_new rfl 97 _ _ rfl cM.toArray 97 _ rfl rfl hMi (by rw [hMs]; rfl) hMo ?_) | (go_at_call 133; refine (K1.get _).mono ?_; rintro e w1 ⟨rfl, hg1⟩))
 have HB := hide (suit_start hDl hMl dZeroL.symm (dL_len 0) hg1)
 obtain ⟨P, hP⟩ : ∃ P, P = w1.heap.size := ⟨_, rfl⟩
 rw [← hP] at HB ⊢
 generalize w1.alloc (.cells cM.toArray 97) = W at *
 clear hg1 K1 hP
 have rm0 := ld_range (w := W.drew) HB.out.b2.range hMl
 have HK : Hid (∀ w4 : World, W.drew.grownBy w4 none → Sem.run Tryz.prog (ldS (.pointer (some ⟨P, 0, none⟩))) w4 = .ok (.agg cM.toArray) w4 ∧ Sem.run Tryz.prog (stS (.pointer (some ⟨P, 0, none⟩)) (.agg cS.toArray)) w4 = .ok () (w4.setCells P 0 cS) ∧ SuitB w P cD cS (w4.setCells P 0 cS)) := fun w4 hg => by
  have q := HB.out.kept ((grown_drew' _ _).trans hg)
  exact ⟨ld_range q.b2.range hMl, st_there q.b2.there hSl hSo, q.store hSl⟩
 go_region_with (first | (go_at_call 107; refine (K3.get _).mono ?_; rintro e w4 ⟨rfl, hg4⟩; obtain ⟨_, tb4, hB4⟩ := HK.out w4 (hg3.trans hg4)) | (go_at_call 133; refine (K2.get _).mono ?_; rintro e w3 ⟨rfl, hg3⟩; have rm3 := (HK.out w3 hg3).1))
 all_goals
  have HB4 := hide hB4
  have rd4 := HB4.out.b0.range
  have rm4 := HB4.out.b2.range
  clear hB4 tb4 hg3 hg4 K2 K3 rm0
  go_wp2_with (first | (refine wpList_store_mid rfl 97 _ _ rfl (w.heap.size + 1) 0 cR.toArray rfl rfl tb5 hRi hRo ?_) | (go_at_call 134; refine (KT.get _).mono ?_; rintro e w5 ⟨rfl, hg5⟩; have hB5 := HB4.out.kept hg5; have tb5 : w5.there (w.heap.size + 1) 0 cR.toArray.size := (by obtain ⟨z, hz⟩ := hB5.b1; rw [hRs]; exact hz.there); obtain ⟨q1, q2⟩ := hB5.done hRl) | (refine wpList_load_mid rfl 97 _ rfl P 0 rfl cS _ rm4 hun rfl hSi2 ?_) | (refine wpList_load_mid rfl 97 _ rfl w.heap.size 0 rfl cD _ rd4 hun rfl hDi ?_))
  refine bodyPost_ret (results_cell_row rfl _ _ (w.heap.size + 1) 97 cR.toArray (0, 0) _ rfl q2.at_ hun rfl hRi) rfl ?_
  exact ⟨rfl, q1⟩
theorem suit_1f (D : Nat) (f n : Int) {cD cR : List Value} (hD : DC D cD) (hR : DC (suitD D f 1 n false) cR) (g1 : -1000000000 ≤ f) (g2 : f ≤ 1000000000) (h1 : -100000000000 ≤ n) (h2 : n ≤ 100000000000) (w : World) : Calls Tryz.prog 104 #[.agg cD.toArray, .int .i64 f, .int .i64 1, .int .i64 n, .bool false] w fun e w' => e = .returned (.agg cR.toArray) ∧ w.grownBy w' none := by
 have HR : suitD D f 1 n false = D &&& (mostD f n &&& mostD (-f) (-n)) := by unfold suitD setD; simp
 have hw1 : IntKind.i64.wrap (-f) = -f := wrap_s64 (by omega) (by omega)
 have hw2 : IntKind.i64.wrap (-n) = -n := wrap_s64 (by omega) (by omega)
 obtain ⟨cM, hM⟩ := dc (mostD f n)
 obtain ⟨cN, hN⟩ := dc (mostD (-f) (-n))
 obtain ⟨cS, hS⟩ := dc (mostD f n &&& mostD (-f) (-n))
 rw [HR] at hR
 clear HR
 have KT := Kept.mk (fun W => dc_And hD hS hR W)
 have K3 := Kept.mk (fun W => dc_And hM hN hS W)
 have K2 := Kept.mk (fun W => dc_atMost hN (by omega) (by omega) (by omega) (by omega) W)
 have K1 := Kept.mk (fun W => dc_atMost hM g1 g2 h1 h2 W)
 have hMi := hM.info'
 have hMo := hM.one'
 have hMi2 := hM.info
 have hMl := hM.len
 have hMs : cM.toArray.size = 32 := by rw [List.size_toArray]; exact hMl
 have hDl := hD.len
 have hDi := hD.info
 have hRi := hR.info'
 have hRo := hR.one'
 have hRl := hR.len
 have hRs : cR.toArray.size = 32 := by rw [List.size_toArray]; exact hRl
 have hSi := hS.info'
 have hSi2 := hS.info
 have hSo := hS.one
 have hSl := hS.len
 have hSs : cS.toArray.size = 32 := by rw [List.size_toArray]; exact hSl
 have hun := dUnder
 clear hM hD hR hN hS
 go_enter Tryz.func104, Tryz.ntmps104
 go_wp2_with (first | (refine wpList_store_new rfl 97 _ _ rfl cM.toArray 97 _ rfl rfl hMi (by rw [hMs]; rfl) hMo ?_) | (go_at_call 133; refine (K1.get _).mono ?_; rintro e w1 ⟨rfl, hg1⟩))
 have HB := hide (suit_start hDl hMl dZeroL.symm (dL_len 0) hg1)
 obtain ⟨P, hP⟩ : ∃ P, P = w1.heap.size := ⟨_, rfl⟩
 rw [← hP] at HB ⊢
 generalize w1.alloc (.cells cM.toArray 97) = W at *
 clear hg1 K1 hP
 have rm0 := ld_range (w := W.drew) HB.out.b2.range hMl
 have HK : Hid (∀ w4 : World, W.drew.grownBy w4 none → Sem.run Tryz.prog (ldS (.pointer (some ⟨P, 0, none⟩))) w4 = .ok (.agg cM.toArray) w4 ∧ Sem.run Tryz.prog (stS (.pointer (some ⟨P, 0, none⟩)) (.agg cS.toArray)) w4 = .ok () (w4.setCells P 0 cS) ∧ SuitB w P cD cS (w4.setCells P 0 cS)) := fun w4 hg => by
  have q := HB.out.kept ((grown_drew' _ _).trans hg)
  exact ⟨ld_range q.b2.range hMl, st_there q.b2.there hSl hSo, q.store hSl⟩
 go_region_with (first | (go_at_call 107; refine (K3.get _).mono ?_; rintro e w4 ⟨rfl, hg4⟩; obtain ⟨_, tb4, hB4⟩ := HK.out w4 (hg3.trans hg4)) | (go_at_call 133; refine (K2.get _).mono ?_; rintro e w3 ⟨rfl, hg3⟩; have rm3 := (HK.out w3 hg3).1))
 all_goals
  have HB4 := hide hB4
  have rd4 := HB4.out.b0.range
  have rm4 := HB4.out.b2.range
  clear hB4 tb4 hg3 hg4 K2 K3 rm0
  go_wp2_with (first | (refine wpList_store_mid rfl 97 _ _ rfl (w.heap.size + 1) 0 cR.toArray rfl rfl tb5 hRi hRo ?_) | (go_at_call 107; refine (KT.get _).mono ?_; rintro e w5 ⟨rfl, hg5⟩; have hB5 := HB4.out.kept hg5; have tb5 : w5.there (w.heap.size + 1) 0 cR.toArray.size := (by obtain ⟨z, hz⟩ := hB5.b1; rw [hRs]; exact hz.there); obtain ⟨q1, q2⟩ := hB5.done hRl) | (refine wpList_load_mid rfl 97 _ rfl P 0 rfl cS _ rm4 hun rfl hSi2 ?_) | (refine wpList_load_mid rfl 97 _ rfl w.heap.size 0 rfl cD _ rd4 hun rfl hDi ?_))
  refine bodyPost_ret (results_cell_row rfl _ _ (w.heap.size + 1) 97 cR.toArray (0, 0) _ rfl q2.at_ hun rfl hRi) rfl ?_
  exact ⟨rfl, q1⟩
theorem dc_suiting {D : Nat} {f rel n : Int} {t : Bool} {cD cR : List Value} (hr : rel = 0 ∨ rel = 1 ∨ rel = 2) (hD : DC D cD) (hR : DC (suitD D f rel n t) cR) (g1 : -1000000000 ≤ f) (g2 : f ≤ 1000000000) (h1 : -100000000000 ≤ n) (h2 : n ≤ 100000000000) (w : World) : Calls Tryz.prog 104 #[.agg cD.toArray, .int .i64 f, .int .i64 rel, .int .i64 n, .bool t] w fun e w' => e = .returned (.agg cR.toArray) ∧ w.grownBy w' none := by
 rcases hr with rfl | rfl | rfl
 ·cases t with
  | true => exact suit_0t D f n hD hR g1 g2 h1 h2 w
  | false => exact suit_0f D f n hD hR g1 g2 h1 h2 w
 ·cases t with
  | true => exact suit_1t D f n hD hR g1 g2 h1 h2 w
  | false => exact suit_1f D f n hD hR g1 g2 h1 h2 w
 ·exact suit_le D f n t hD hR g1 g2 h1 h2 w
end
section
def NS (s s' : SS) : Prop := s'.nodes = s.nodes ∧ s'.sols = s.sols
theorem NS.refl (s : SS) : NS s s := ⟨rfl, rfl⟩
theorem NS.trans {a b c : SS} (h : NS a b) (k : NS b c) : NS a c := ⟨k.1.trans h.1, k.2.trans h.2⟩
theorem put_ns (K : SK) (v : Int) (D : Nat) (s : SS) : NS s (putS K v D s) := ⟨rfl, rfl⟩
theorem keep_ns (K : SK) (v : Int) (D : Nat) (s : SS) : NS s (keepS K v D s).2 := by
 unfold keepS
 split
 ·exact NS.refl s
 split
 ·exact NS.refl s
 ·exact put_ns K v D s
theorem popN_ns : ∀ (n : Nat) (s : SS), NS s (popN n s)
 | 0, s => NS.refl s
 | n + 1, s => (show NS s (popS s) from ⟨rfl, rfl⟩).trans (popN_ns n (popS s))
theorem back_ns (k : Nat) (s : SS) : NS s (backS k s) := popN_ns _ s
theorem at_ns (K : SK) (c : QCon) (s : SS) : NS s (atS K c s).2 := by
 unfold atS
 simp only []
 split
 ·exact (keep_ns _ _ _ _).trans (keep_ns _ _ _ _)
 ·exact keep_ns _ _ _ _
theorem take_ns (K : SK) (x : Int) : ∀ (vs : List Int) (s : SS), NS s (takeS K x vs s).2
 | [], s => NS.refl s
 | v :: vs, s => by
  simp only [takeS]
  split
  ·split
   ·exact (keep_ns _ _ _ _).trans (take_ns K x vs _)
   ·exact keep_ns _ _ _ _
  ·exact take_ns K x vs s
theorem diffF_ns (K : SK) (vars : List Int) : ∀ (is : List Nat) (s : SS), NS s (diffF K vars is s).2
 | [], s => NS.refl s
 | i :: is, s => by
  simp only [diffF]
  split
  ·split
   ·split
    ·exact ((take_ns _ _ _ _).trans (take_ns _ _ _ _)).trans (diffF_ns K vars is _)
    ·exact (take_ns _ _ _ _).trans (take_ns _ _ _ _)
   ·exact take_ns _ _ _ _
  ·exact diffF_ns K vars is s
theorem or_ns (K : SK) (l : List (Int × Int)) (s : SS) : NS s (orS K l s).2 := by
 unfold orS
 simp only []
 split
 ·exact NS.refl s
 ·exact keep_ns _ _ _ _
theorem draw_ns (K : SK) (i : Nat) (s : SS) : NS s (drawS K i s).2 := by
 unfold drawS
 simp only []
 split
 ·exact NS.refl s
 split
 ·exact NS.refl s
 split
 ·split
  ·split
   ·exact NS.refl s
   ·exact keep_ns _ _ _ _
  ·exact NS.refl s
 split
 ·split
  ·exact NS.refl s
  ·exact keep_ns _ _ _ _
 split
 ·exact at_ns _ _ _
 split
 ·exact diffF_ns _ _ _ _
 split
 ·exact or_ns _ _ _
 ·exact NS.refl s
theorem concF_ns (K : SK) : ∀ (n : Nat) (s : SS), NS s (concF K n s).2
 | 0, s => NS.refl s
 | n + 1, s => by
  rw [concF]
  split
  ·exact NS.refl s
  ·rename_i i _
   have h1 : NS s (drawS K i (unmark i s)).2 := (show NS s (unmark i s) from ⟨rfl, rfl⟩).trans (draw_ns K i _)
   simp only []
   split
   ·exact h1.trans (concF_ns K n _)
   ·exact h1.trans ⟨rfl, rfl⟩
theorem conc_ns (K : SK) (s : SS) : NS s (concS K s).2 := concF_ns K _ s
end
section
theorem keep_fix {K : SK} {v : Int} {D : Nat} {s : SS} (h : keepS K v D s = (true, s)) : D = s.L v ∧ D ≠ 0 := by
 unfold keepS at h
 split at h
 ·cases h
 split at h
 ·rename_i h1 h2; exact ⟨h2, h1⟩
 ·injection h with _ h
  have q := congrArg (fun t : SS => t.trail.length) h
  simp [putS] at q
theorem sum_fix {K : SK} {c : QCon} {t : Bool} {v : Int} {s : SS} (h : sumS K c t v s = (true, s)) : suitD (s.L v) (splitS s c.terms v).1 c.rel (c.num - (splitS s c.terms v).2) t = s.L v := (keep_fix h).1
theorem draw_fix {K : SK} {i : Nat} {c : QCon} {s : SS} (hc : K.cons.getD i zeroCon = c) (hw : K.weak = false) (ho : (openS s (K.cvs.getD i [])).2 ≠ 0) (h : drawS K i s = (true, s)) : (c.sort = 3 → diffS K c.vars s = (true, s)) ∧ (c.sort = 2 → atS K c s = (true, s)) ∧ (c.sort = 4 → orS K c.lits s = (true, s)) ∧ (c.sort = 0 → ¬ 1 < (openS s (K.cvs.getD i [])).2 → sumS K c true (openS s (K.cvs.getD i [])).1 s = (true, s)) ∧
   (c.sort = 1 → s.fixed c.truth = true → ¬ 1 < (openS s (K.cvs.getD i [])).2 → sumS K c (decide (s.val c.truth = 1)) (openS s (K.cvs.getD i [])).1 s = (true, s)) := by
 unfold drawS at h
 simp only [hc] at h
 rw [if_neg ho, if_neg (by rw [hw]; decide)] at h
 refine ⟨fun q => ?_, fun q => ?_, fun q => ?_, fun q k => ?_, fun q f k => ?_⟩
 ·rw [if_neg (by rw [q]; decide), if_neg (by rw [q]; decide), if_neg (by rw [q]; decide), if_pos q] at h; exact h
 ·rw [if_neg (by rw [q]; decide), if_neg (by rw [q]; decide), if_pos q] at h; exact h
 ·rw [if_neg (by rw [q]; decide), if_neg (by rw [q]; decide), if_neg (by rw [q]; decide), if_neg (by rw [q]; decide), if_pos q] at h; exact h
 ·rw [if_neg (by rw [q]; decide), if_pos q, if_neg k] at h; exact h
 ·rw [if_pos q, if_pos f, if_neg k] at h; exact h
theorem solve_none {K : SK} (hc : ¬ (concS K (beginS K)).1 = true) : (solveS K).nodes = 0 ∧ (solveS K).sols = [] := by
 have hn := conc_ns K (beginS K)
 unfold solveS
 simp only []
 rw [if_neg hc]
 exact ⟨hn.1, hn.2⟩
end
section
theorem one_only {D : Nat} {x : Int} (h0 : D ≠ 0) (h : ∀ j, D.testBit j = true → j = (x + 1000).toNat) : D = bitV x := by
 obtain ⟨j0, hj0⟩ := Nat.exists_testBit_of_ne_zero h0
 have e0 := h j0 hj0
 subst e0
 apply Nat.eq_of_testBit_eq
 intro j
 unfold bitV
 rw [Nat.testBit_two_pow]
 by_cases e : (x + 1000).toNat = j
 ·subst e
  rw [hj0]; simp
 ·cases q : D.testBit j with
  | false => simp [e]
  | true => exact absurd (h j q).symm e
structure EndOf (K : SK) (s : SS) : Prop where
 ok : SOk K s
 fix : FixOk K s
 un : ∀ i, s.marked.getD i false = false
theorem end_of {K : SK} (hK : KOk K) (hc : (concS K (beginS K)).1 = true) : EndOf K (concS K (beginS K)).2 := by
 obtain ⟨hs, hF⟩ := begin_ok hK
 obtain ⟨c1, c2, c3, c4⟩ := concS_ok hK hs hF
 exact ⟨c1.ok hs, c4 hc, c3⟩
theorem end_true {K : SK} (hK : KOk K) {x : List Int} (hx : suitsP K.vars K.cons x = true) : (concS K (beginS K)).1 = true ∧ SolP K (concS K (beginS K)).2.left x := by
 obtain ⟨hs, hF⟩ := begin_ok hK
 obtain ⟨c1, c2, c3, c4⟩ := concS_ok hK hs hF
 have h := (sol_suits hK x).2 hx
 obtain ⟨a, b⟩ := c2 x h.low h.fits h.all
 exact ⟨a, h.low, b, h.all⟩
theorem EndOf.at_ {K : SK} {s : SS} (h : EndOf K s) {i : Nat} {c : QCon} (hc : K.cons[i]? = some c) : ∃ s0, SOk K s0 ∧ (∀ v ∈ K.cvs.getD i [], s0.L v = s.L v) ∧ drawS K i s0 = (true, s0) := by
 refine h.fix i c hc ?_
 have hi : i < s.marked.length := by rw [h.ok.ml]; exact (List.getElem?_eq_some_iff.1 hc).1
 have q := h.un i
 rw [List.getD_eq_getElem?_getD, List.getElem?_eq_getElem hi] at q ⊢
 exact q
end
section
theorem open_skip {s : SS} : ∀ {vs : List Int} (p : Int × Int), (∀ u ∈ vs, s.fixed u = true) → vs.foldl (fun p v => if s.fixed v then p else (v, p.2 + 1)) p = p
 | [], p, _ => rfl
 | u :: vs, p, h => by
  rw [List.foldl_cons, if_pos (h u (by simp))]
  exact open_skip p (fun x hx => h x (by simp [hx]))
theorem open_one {s : SS} {vs : List Int} {v : Int} (hnd : vs.Nodup) (hv : v ∈ vs) (ho : s.fixed v = false) (hf : ∀ u ∈ vs, u ≠ v → s.fixed u = true) : openS s vs = (v, 1) := by
 obtain ⟨a, b, rfl⟩ := List.append_of_mem hv
 have hd := List.nodup_append.1 hnd
 have hb := (List.nodup_cons.1 hd.2.1).1
 unfold openS
 rw [List.foldl_append, open_skip (vs := a) _ (fun u hu => hf u (by simp [hu]) (fun e => by subst e; exact hd.2.2 u hu u (by simp) rfl)), List.foldl_cons, if_neg (by rw [ho]; decide), open_skip (vs := b) _ (fun u hu => hf u (by simp [hu]) (fun e => by subst e; exact hb hu))]
 rfl
theorem split_fold {f g : Int → Int} {v : Int} : ∀ (ts : List (Int × Int)) (p : Int × Int), (∀ t ∈ ts, f t.1 = g t.1) → ts.foldl (fun p t => if t.1 = v then (p.1 + t.2, p.2) else (p.1, p.2 + t.2 * f t.1)) p = ts.foldl (fun p t => if t.1 = v then (p.1 + t.2, p.2) else (p.1, p.2 + t.2 * g t.1)) p
 | [], p, _ => rfl
 | a :: ts, p, h => by
  have ih := split_fold (f := f) (g := g) (v := v) ts
  have ha := h a (List.mem_cons_self ..)
  show ts.foldl _ (if a.1 = v then (p.1 + a.2, p.2) else (p.1, p.2 + a.2 * f a.1)) = ts.foldl _ (if a.1 = v then (p.1 + a.2, p.2) else (p.1, p.2 + a.2 * g a.1))
  rw [ha]
  exact ih _ (fun t ht => h t (List.mem_cons_of_mem _ ht))
theorem split_eq {s s0 : SS} {ts : List (Int × Int)} {v : Int} (h : ∀ u ∈ ts.map (·.1), s0.val u = s.val u) : splitS s0 ts v = splitS s ts v :=
 split_fold (f := s0.val) (g := s.val) ts (0, 0) (fun t ht => h t.1 (List.mem_map.2 ⟨t, ht, rfl⟩))
theorem EndOf.sum {K : SK} (hK : KOk K) {s : SS} (h : EndOf K s) (hw : K.weak = false) {i : Nat} {c : QCon} (hc : K.cons[i]? = some c) (hnd : (K.cvs.getD i []).Nodup) (hr : c.rel = 0 ∨ c.rel = 1 ∨ c.rel = 2) {t : Bool} (hs : (c.sort = 0 ∧ t = true) ∨ (c.sort = 1 ∧ s.fixed c.truth = true ∧ t = decide (s.val c.truth = 1))) {v : Int} (hv : v ∈ c.terms.map (·.1)) (ho : s.fixed v = false) (hf : ∀ u ∈ c.terms.map (·.1), u ≠ v → s.fixed u = true) {y : Int} (h1 : -1000 ≤ y) (hy2 : y ≤ 1000) (hy : hasD (s.L v) y = true) : relP c.rel ((splitS s c.terms v).1 * y) (c.num - (splitS s c.terms v).2) = t := by
 obtain ⟨s0, hs0, hl, hd⟩ := h.at_ hc
 have hin : ∀ u ∈ rawVars c, u ∈ K.cvs.getD i [] := fun u hu => (hK.cv i c hc u).2 hu
 have hvr : v ∈ rawVars c := by
  unfold rawVars
  rcases hs with ⟨e, _⟩ | ⟨e, _, _⟩
  ·rw [if_neg (by rw [e]; decide), if_pos e]; exact hv
  ·rw [if_pos e]; exact List.mem_cons_of_mem _ hv
 have hall : ∀ u ∈ K.cvs.getD i [], u ≠ v → s0.fixed u = true := fun u hu hne => by
  have q := (hK.cv i c hc u).1 hu
  have e : s0.fixed u = s.fixed u := by unfold SS.fixed; rw [hl u hu]
  rw [e]
  unfold rawVars at q
  rcases hs with ⟨e, _⟩ | ⟨e, f, _⟩
  ·rw [if_neg (by rw [e]; decide), if_pos e] at q
   exact hf u q hne
  ·rw [if_pos e] at q
   rcases List.mem_cons.1 q with rfl | q
   ·exact f
   ·exact hf u q hne
 have lv := hl v (hin v hvr)
 have o0 : s0.fixed v = false := by unfold SS.fixed at ho ⊢; rw [lv]; exact ho
 have op := open_one hnd (hin v hvr) o0 hall
 have hg : K.cons.getD i zeroCon = c := by rw [List.getD_eq_getElem?_getD, hc]; rfl
 have D := draw_fix hg hw (by rw [op]; exact (by decide : (1 : Int) ≠ 0)) hd
 rw [op] at D
 have hvl : ∀ u ∈ c.terms.map (·.1), s0.val u = s.val u := fun u hu => by
  have q : u ∈ rawVars c := by
   unfold rawVars
   rcases hs with ⟨e, _⟩ | ⟨e, _, _⟩
   ·rw [if_neg (by rw [e]; decide), if_pos e]; exact hu
   ·rw [if_pos e]; exact List.mem_cons_of_mem _ hu
  unfold SS.val; rw [hl u (hin u q)]
 have sp : splitS s0 c.terms v = splitS s c.terms v := split_eq hvl
 have fin : sumS K c t v s0 = (true, s0) := by
  rcases hs with ⟨e, e2⟩ | ⟨e, f, e2⟩
  ·rw [e2]; exact D.2.2.2.1 e (by show ¬ (1 : Int) < 1; decide)
  ·have ft : s0.fixed c.truth = true := by
    have q : c.truth ∈ rawVars c := by unfold rawVars; rw [if_pos e]; simp
    unfold SS.fixed at f ⊢; rw [hl _ (hin _ q)]; exact f
   have vt : s0.val c.truth = s.val c.truth := by
    have q : c.truth ∈ rawVars c := by unfold rawVars; rw [if_pos e]; simp
    unfold SS.val; rw [hl _ (hin _ q)]
   have q := D.2.2.2.2 e ft (by show ¬ (1 : Int) < 1; decide)
   rw [vt, ← e2] at q
   exact q
 have q := sum_fix fin
 rw [sp, lv] at q
 have r := suit_has (D := s.L v) (f := (splitS s c.terms v).1) (n := c.num - (splitS s c.terms v).2) (t := t) hr h1 hy2
 rw [q, hy] at r
 simpa using r.symm
end
end Go.Proofs.YthpcbbnabnlanabGreatDoor
