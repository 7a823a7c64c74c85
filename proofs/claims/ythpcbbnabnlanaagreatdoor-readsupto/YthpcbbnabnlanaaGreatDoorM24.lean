import Derived.Test.YthpcbbnabnlanaaGreatDoorM22
import Derived.Test.YthpcbbnabnlanaaGreatDoorM23
import Derived.Deep.DeepMust
/-
  The reference's statement: or: lits of which some must be true.
-/
namespace Go.Proofs.YthpcbbnabnlanaaGreatDoor
open Go.RowKit
set_option linter.unusedVariables false
set_option linter.unusedSimpArgs false
attribute [local go_sem ↓] Go.wp_at_zero Go.wp_at_succ

/-- a lit: its mark of negation, if it has one; its name -/
structure PLit where
  neg : Option PTok
  name : PTok
def LitAt (toks : List PTok) (i : Nat) (l : PLit) (j : Nat) : Prop :=
  match l.neg with
  | some b => toks[i]? = some b ∧ b.s.toList = [33] ∧ toks[i + 1]? = some l.name ∧ j = i + 2
  | none => toks[i]? = some l.name ∧ l.name.s.toList ≠ [33] ∧ j = i + 1
/-- further lits, each behind a comma -/
def SerLit (toks : List PTok) : Nat → List PLit → Nat → Prop
  | i, [], j => i = j
  | i, l :: ls, j => (∃ c, toks[i]? = some c ∧ c.s.toList = [44]) ∧ ∃ m, LitAt toks (i + 1) l m ∧ SerLit toks m ls j
def PLit.head (l : PLit) : PTok := l.neg.getD l.name
def litSt (vars : List PVar) (k : Nat) (l : PLit) (st : FSt) : FSt := trSt vars l.name (flt (decide (8 < (k : Int))) 6 l.head.line st)
def litsSt (vars : List PVar) : Nat → List PLit → FSt → FSt
  | _, [], st => st
  | k, n :: ns, st => litsSt vars (k + 1) ns (litSt vars k n st)
def litPart (vars : List PVar) (l : PLit) : Int × Int := (if l.neg.isSome then 1 else 0, varX vars l.name.s)
def orSt (vars : List PVar) (nr : Nat) (kw : PTok) (ls : List PLit) (st : FSt) : FSt := litsSt vars 1 ls (flt (decide (16 ≤ (nr : Int))) 6 kw.line st)

theorem LitAt.lt {toks : List PTok} {i : Nat} {l : PLit} {j : Nat} (h : LitAt toks i l j) : i < j ∧ toks[i]? = some l.head := by
  unfold LitAt at h
  unfold PLit.head
  split at h
  · rename_i b hb; rw [hb]; exact ⟨by omega, h.1⟩
  · rename_i hb; rw [hb]; exact ⟨by omega, h.1⟩
theorem SerLit.le {toks : List PTok} : ∀ {ns : List PLit} {i j : Nat}, SerLit toks i ns j → i ≤ j
  | [], i, j, h => by have : i = j := h; omega
  | n :: ns, i, j, h => by
    obtain ⟨m, h1, h2⟩ := h.2
    have := SerLit.le h2
    have := h1.lt.1
    omega

/-- at a round's head: what is left of the lits -/
def OrRel (toks : List PTok) (vars : List PVar) (bw bm br : Nat) (B' i j : Nat) (ST : FSt) (PARTS : List (Int × Int)) (C : Nat → Option Value) (w0 : World) (n : Nat) (vk : Value) (wr : World) : Prop :=
  ∃ (k p : Nat) (rem : List PLit) (done : List (Int × Int)) (kd ln : Int) (vL : Value), n = rem.length ∧ vk = .int .i64 k ∧ k ≤ p + 1 ∧ done.length ≤ p ∧ p ≤ j ∧ i ≤ p ∧
    ((k = 1 ∧ ∃ n0 ns m, rem = n0 :: ns ∧ LitAt toks p n0 m ∧ SerLit toks m ns j) ∨ (1 < k ∧ SerLit toks p rem j)) ∧
    Hid (litsSt vars k rem (kd, ln) = ST) ∧ Hid (done ++ rem.map (litPart vars) = PARTS) ∧ B' ≤ wr.heap.size ∧ (wr.cell? ⟨br, 2, none⟩ = some (.string ⟨#[]⟩) ∧ wr.cell? ⟨br, 3, none⟩ = some (.int .i64 0)) ∧ Rl wr br B' vL done C ∧ But [bw] w0 wr ∧ Wk wr bw bm p kd ln

/-- the part in the making -/
structure Bp (w : World) (bp : Nat) (a b : Int) : Prop where
  c0 : w.cell? ⟨bp, 0, none⟩ = some (.int .i64 a)
  c1 : w.cell? ⟨bp, 1, none⟩ = some (.int .i64 b)
  f0 : w.frozen? ⟨bp, 0, none⟩ = false
  f1 : w.frozen? ⟨bp, 1, none⟩ = false
  lt : bp < w.heap.size
theorem Bp.far {w w' : World} {bp : Nat} {a b : Int} {row : Option Nat} (h : Bp w bp a b) (hg : w.grownBy w' row) (hne : some bp ≠ row) : Bp w' bp a b :=
  ⟨hg.cell h.c0 hne, hg.cell h.c1 hne, (hg.frozen_far ⟨bp, 0, none⟩ h.lt hne).trans h.f0, (hg.frozen_far ⟨bp, 1, none⟩ h.lt hne).trans h.f1, Nat.lt_of_lt_of_le h.lt hg.size⟩
theorem Bp.set0 {w : World} {bp : Nat} {a b : Int} (h : Bp w bp a b) (x : Int) : Bp (w.setCell ⟨bp, 0, none⟩ (.int .i64 x)) bp x b :=
  ⟨World.cell?_setCell_same _ _ _ h.c0, (cell_set _ _ _ _ _ _ (by omega)).trans h.c1, (World.frozen?_setCell _ _ _ _).trans h.f0, (World.frozen?_setCell _ _ _ _).trans h.f1, by simpa [World.setCell] using h.lt⟩
theorem Bp.set1 {w : World} {bp : Nat} {a b : Int} (h : Bp w bp a b) (x : Int) : Bp (w.setCell ⟨bp, 1, none⟩ (.int .i64 x)) bp a x :=
  ⟨(cell_set _ _ _ _ _ _ (by omega)).trans h.c0, World.cell?_setCell_same _ _ _ h.c1, (World.frozen?_setCell _ _ _ _).trans h.f0, (World.frozen?_setCell _ _ _ _).trans h.f1, by simpa [World.setCell] using h.lt⟩
theorem bp_new (w : World) (t : TypeId) : Bp (w.alloc (.cells #[.int .i64 0, .int .i64 0] t)) w.heap.size 0 0 := by
  have e1 := heap_alloc_new w (.cells #[.int .i64 0, .int .i64 0] t)
  refine ⟨?_, ?_, ?_, ?_, by simp⟩
  · simp only [World.cell?, e1]; rfl
  · simp only [World.cell?, e1]; rfl
  · simp only [World.frozen?, e1]; rfl
  · simp only [World.frozen?, e1]; rfl

/-- all that a round carries from world to world -/
structure Oc (toks : List PTok) (bw bm br B' bp : Nat) (vL : Value) (done : List (Int × Int)) (C : Nat → Option Value) (w0 : World) (a b : Int) (p : Nat) (kd ln : Int) (w : World) : Prop where
  hB : B' ≤ w.heap.size
  h2 : w.cell? ⟨br, 2, none⟩ = some (.string ⟨#[]⟩)
  h3 : w.cell? ⟨br, 3, none⟩ = some (.int .i64 0)
  rl : Rl w br B' vL done C
  bt : But [bw] w0 w
  wk : Wk w bw bm p kd ln
  bp' : Bp w bp a b
  n1 : bp ≠ bw
  n2 : bp ≠ br
  n3 : vL.ownBlock ≠ some bp
  n4 : br ≠ bw
  n5 : bw < B'
  n6 : w0.heap.size ≤ bp
  n7 : w0.heap.size ≤ B'
  n8 : w0.heap.size ≤ br
section
variable {toks : List PTok} {bw bm br B' bp : Nat} {vL : Value} {done : List (Int × Int)} {C : Nat → Option Value} {w0 : World} {a b : Int} {p : Nat} {kd ln : Int} {w w' : World}
theorem Oc.walk (h : Oc toks bw bm br B' bp vL done C w0 a b p kd ln w) (hg : w.grownBy w' (some bw)) {p' : Nat} {kd' ln' : Int} (hW : Wk w' bw bm p' kd' ln') : Oc toks bw bm br B' bp vL done C w0 a b p' kd' ln' w' :=
  ⟨Nat.le_trans h.hB hg.size, hg.cell h.h2 (by simpa using h.n4), hg.cell h.h3 (by simpa using h.n4), h.rl.grown hg (fun q e => by cases e; exact ⟨fun e => h.n4 e.symm, fun e => by have := (h.rl.own.lt _ e).1; have := h.n5; omega⟩), h.bt.walk hg, hW, h.bp'.far hg (by simpa using h.n1),
    h.n1, h.n2, h.n3, h.n4, h.n5, h.n6, h.n7, h.n8⟩
theorem Oc.setI (h : Oc toks bw bm br B' bp vL done C w0 a b p kd ln w) (p' : Nat) : Oc toks bw bm br B' bp vL done C w0 a b p' kd ln (w.setCell ⟨bw, 1, none⟩ (.int .i64 p')) := h.walk (grown_set _ _ _ _) (h.wk.setI _)
theorem Oc.part (h : Oc toks bw bm br B' bp vL done C w0 a b p kd ln w) {a' b' : Int} {o : Nat} {u : Value} (hb : Bp (w.setCell ⟨bp, o, none⟩ u) bp a' b') : Oc toks bw bm br B' bp vL done C w0 a' b' p kd ln (w.setCell ⟨bp, o, none⟩ u) :=
  have hg := grown_set w bp o u
  ⟨Nat.le_trans h.hB hg.size, hg.cell h.h2 (by simpa using fun e : br = bp => h.n2 e.symm), hg.cell h.h3 (by simpa using fun e : br = bp => h.n2 e.symm), h.rl.grown hg (fun q e => by cases e; exact ⟨h.n2, h.n3⟩), h.bt.set (.inr h.n6) _ _, h.wk.far hg (by simpa using fun e : bw = bp => h.n1 e.symm), hb,
    h.n1, h.n2, h.n3, h.n4, h.n5, h.n6, h.n7, h.n8⟩
/-- behind the append and the store of the new slice -/
theorem Oc.push (h : Oc toks bw bm br B' bp vL done C w0 a b p kd ln w) {wA : World} {v' : Value} {o : Obj}
    (hown : wA.ownsRow B' 183 2 v' (done.length + 1) (partCells done ++ [.int .i64 a, .int .i64 b])) (hg : (w.alloc o).grownBy wA vL.ownBlock) :
    B' ≤ (wA.setCell ⟨br, 1, none⟩ v').heap.size ∧ ((wA.setCell ⟨br, 1, none⟩ v').cell? ⟨br, 2, none⟩ = some (.string ⟨#[]⟩) ∧ (wA.setCell ⟨br, 1, none⟩ v').cell? ⟨br, 3, none⟩ = some (.int .i64 0)) ∧ Rl (wA.setCell ⟨br, 1, none⟩ v') br B' v' (done ++ [(a, b)]) C ∧
      But [bw] w0 (wA.setCell ⟨br, 1, none⟩ v') ∧ Wk (wA.setCell ⟨br, 1, none⟩ v') bw bm p kd ln := by
  have g0 : w.grownBy (w.alloc o) none := World.grownBy_alloc w o none
  have n1 : some br ≠ vL.ownBlock := fun e => by have := (h.rl.own.lt _ e.symm).1; have := h.rl.brB; omega
  have nb : some bw ≠ vL.ownBlock := fun e => by have := (h.rl.own.lt _ e.symm).1; have := h.n5; omega
  have hB := h.hB
  have s0 := g0.size
  have s1 := hg.size
  refine ⟨by simp only [World.setCell, Array.size_modify]; omega, ⟨(cell_set _ _ _ _ _ _ (by omega)).trans (hg.cell (g0.cell h.h2 (by simp)) n1), (cell_set _ _ _ _ _ _ (by omega)).trans (hg.cell (g0.cell h.h3 (by simp)) n1)⟩, h.rl.push hown hg, ?_, ((h.wk.far g0 (by simp)).far hg nb).far (grown_set wA br 1 v') (by simpa using fun e : bw = br => h.n4 e.symm)⟩
  exact ((h.bt.alloc o).grown hg (fun k e => .inr (by have := (h.rl.own.lt _ e).1; have := h.n7; omega))).set (.inr h.n8) _ _
end


set_option maxRecDepth 100000 in
set_option maxHeartbeats 2000000 in
theorem ref_stOr (w0 : World) (bw bm gt capt B : Nat) (toks : List PTok) (vv vl vr : Value) (vars : List PVar) (lists : List PLst) (rules : List PRul) (i j m0 : Nat) (kind line : Int) (kw : PTok) (n0 : PLit) (ns : List PLit)
    (h : Md w0 bw bm gt capt B toks vv vl vr vars lists rules i kind line) (hk : toks[i]? = some kw) (hks : kw.s = ⟨#[111, 114]⟩) (hn0 : LitAt toks (i + 1) n0 m0) (hns : SerLit toks m0 ns j) (hj : j ≤ toks.length) (hend : (peekS toks j).toList ≠ [44]) :
    Calls Tryz.prog 54 #[.pointer (some ⟨bw, 0, none⟩)] w0 fun e w' => e = .returned (.tuple #[]) ∧ ButB B [bw, bm] w0 w' ∧
      ∃ vr' pv, Md w' bw bm gt capt B toks vv vl vr' vars lists (rules ++ [⟨111, (n0 :: ns).map (litPart vars), pv, ⟨#[]⟩, 0, 0, 0, 0⟩]) j (orSt vars rules.length kw (n0 :: ns) (kind, line)).1 (orSt vars rules.length kw (n0 :: ns) (kind, line)).2 := by
  obtain ⟨ip, hip, hy0, hy1, hy2⟩ := info_parts infoPart
  have hij := hns.le
  have hij2 := hn0.lt.1
  have HSER := hide (And.intro hn0 hns)
  have HEND := hide hend
  clear hn0 hns hend
  obtain ⟨i0, hi0, hz0, hz1, hz2⟩ := info_parts infoRule
  obtain ⟨k1, k2, k3⟩ := at_tok hk
  have hn := h.hn
  have c0 := h.wk.c0
  have H0 := hide h
  have hC0 := h.ctx (by omega)
  have HFB := hide (fun b (hb : w0.heap.size ≤ b) => hC0.far_new hb)
  have hpk := ctx_peek hC0 (by omega)
  rw [k1, hks] at hpk
  have HPK := hide hpk
  have HK2 := hide k2
  clear hpk h hC0 k1 k2 hk hks
  go_enter Tryz.func54, Tryz.ntmps54
  go_wp2_with fail
  refine (unhide HPK).mono ?_
  rintro e w1 ⟨rfl, hg1, hC1⟩
  have HB1 := hide (But.of_grown (S := [bw]) hg1 (fun k e => by cases e; simp))
  have M1 := H0.out.but HB1.out hC1.wk (Nat.le_refl _)
  obtain ⟨ar, capr, hvr⟩ := shape_of M1.orr
  obtain ⟨d0, d1, _, _, e1, _, _, _⟩ := hC1.wk
  have m3 := M1.m3
  have hne := M1.ne1
  rw [hvr] at m3
  have HVR := hide hvr
  have hset := fun W o u b' o' h => cell_set W bw o u b' o' h
  have hf1 := ctx_fault (M1.ctx (by omega)) k3 (decide (16 ≤ (rules.length : Int))) 6
  rw [HK2.out] at hf1
  have HF1 := hide hf1
  clear hg1 hC1 c0 HPK hvr M1 hf1
  go_wp2_with fail
  refine (unhide HF1).mono ?_
  rintro e w2 ⟨rfl, hg2, hC2⟩
  have HB2 := hide (HB1.out.walk hg2)
  have HW2 := hide hC2.wk
  have hlt2 := hC2.wk.lt
  clear d0 d1 e1 m3 HF1 HB1
  obtain ⟨d0, d1, _, _, e1, _, _, _⟩ := hC2.wk
  clear hg2 hC2
  go_wp2_with fail
  have HBa := hide ((HB2.out.set (k := bw) (.inl (by simp)) 1 (.int .i64 ((i : Int) + 1))).alloc (.cells #[.int .u8 (((ByteArray.mk #[111, 114])[0].toNat : Int)), .slice none 0 0, .string ⟨#[]⟩, .int .i64 0, .int .i64 0, .int .i64 0, .int .i64 0] 176))
  have HWa := hide ((HW2.out.setI ((i : Int) + 1)).far (World.grownBy_alloc _ (.cells #[.int .u8 (((ByteArray.mk #[111, 114])[0].toNat : Int)), .slice none 0 0, .string ⟨#[]⟩, .int .i64 0, .int .i64 0, .int .i64 0, .int .i64 0] 176) none) (by simp))
  have HRa := hide (br_new (w2.setCell ⟨bw, 1, none⟩ (.int .i64 ((i : Int) + 1))) (((ByteArray.mk #[111, 114])[0].toNat : Int)) 176)
  have hszc : (w2.setCell ⟨bw, 1, none⟩ (.int .i64 ((i : Int) + 1))).heap.size = w2.heap.size := by simp [World.setCell]
  rw [hszc] at HRa
  have hge : w0.heap.size ≤ w2.heap.size := HB2.out.size
  have hne2 : (w2.heap.size : Nat) ≠ bw := by omega
  generalize ((w2.setCell ⟨bw, 1, none⟩ (.int .i64 ((i : Int) + 1))).alloc (.cells #[.int .u8 (((ByteArray.mk #[111, 114])[0].toNat : Int)), .slice none 0 0, .string ⟨#[]⟩, .int .i64 0, .int .i64 0, .int .i64 0, .int .i64 0] 176)) = wa at HBa HWa HRa ⊢
  clear hszc
  generalize w2.heap.size = br at hne2 hge HRa hlt2 ⊢
  clear d0 d1 e1 HW2 HB2
  have HF := hide (HFB.out br hge)
  have HSTART : Hid (OrRel toks vars bw bm br wa.heap.size i j (orSt vars rules.length kw (n0 :: ns) (kind, line)) ((n0 :: ns).map (litPart vars)) (fun q => wa.cell? ⟨br, q, none⟩) w0 (ns.length + 1) (.int .i64 1) wa) :=
    ⟨1, i + 1, n0 :: ns, [], _, _, _, rfl, rfl, by omega, by simp, by omega, by omega, .inl ⟨rfl, n0, ns, m0, rfl, HSER.out.1, HSER.out.2⟩, rfl, rfl, Nat.le_refl _, ⟨HRa.out.c2, HRa.out.c3⟩, HRa.out.toRl rfl _ HRa.out.lt, HBa.out, HWa.out⟩
  have hBa : B ≤ wa.heap.size := by have := H0.out.hB; have := HBa.out.size; omega
  have hB0 : w0.heap.size ≤ wa.heap.size := HBa.out.size
  obtain ⟨B', hB'⟩ : ∃ b, wa.heap.size = b := ⟨_, rfl⟩
  obtain ⟨C, hC⟩ : ∃ c : Nat → Option Value, (fun q => wa.cell? ⟨br, q, none⟩) = c := ⟨_, rfl⟩
  rw [hB', hC] at HSTART
  rw [hB'] at hBa hB0
  have HCC := hide hC
  obtain ⟨ST, hSTd⟩ : ∃ s, orSt vars rules.length kw (n0 :: ns) (kind, line) = s := ⟨_, rfl⟩
  obtain ⟨PARTS, hPd⟩ : ∃ s, (n0 :: ns).map (litPart vars) = s := ⟨_, rfl⟩
  rw [hSTd, hPd] at HSTART
  have HRA := hide HRa.out
  have HFIN := hide (And.intro hSTd hPd)
  obtain ⟨N, hN⟩ : ∃ n, ns.length + 1 = n := ⟨_, rfl⟩
  rw [hN] at HSTART
  clear hC hSTd hPd hN HSER HRa HBa HWa hB'
  go_loopg [11] N (fun n vk wr => OrRel toks vars bw bm br B' i j ST PARTS C w0 n vk wr)
  case atStart => exact HSTART
  case round =>
    clear HSTART
    obtain ⟨k, p, rem, done, kd, ln, vL, rfl, rfl, hkp, hdl, hpj, hip0, hcase, hST, hPP, hBr, h23, hRl, hBut, hWk⟩ := hrel
    have HPI := hide hip0
    have H23 := hide h23
    clear h23
    have HBq0 := hide hBut
    have HWq0 := hide hWk
    have HRq0 := hide hRl
    clear hBut hWk hRl
    rcases hcase with ⟨rfl, l, ls', m, rfl, hnp, hser⟩ | ⟨hk1, hser⟩
    · have hBq : B' ≤ wr.heap.size := hBr
      have HBq := HBq0
      have HWq := HWq0
      have HRq := HRq0
      have HQ23 := H23
      have HNP := hide (And.intro hnp hser)
      clear hnp hser HBq0 HWq0 HRq0
      go_wp2_with fail
      have Mq := H0.out.but (j := p) HBq.out HWq.out (by have := HPI.out; omega)
      obtain ⟨t1, t2, t3⟩ := at_tok HNP.out.1.lt.2
      have hf := ctx_fault (Mq.ctx (by omega)) t3 (false) 6
      rw [t2] at hf
      have HT1 := hide (And.intro t1 t2)
      clear Mq t1 t2
      refine hf.mono ?_
      rintro e wf ⟨rfl, hgf, hCf⟩
      have hbwB : bw < B' := by have := H0.out.hbw; omega
      have hRf := HRq.out.grown hgf (fun b e => by cases e; exact ⟨fun e => hne2 e.symm, fun e => by have := (HRq.out.own.lt _ e).1; omega⟩)
      have hBtf := HBq.out.walk hgf
      have g0 := World.grownBy_alloc wf (.cells #[.int .i64 0, .int .i64 0] 183) none
      have n0 : some br ≠ some bw := by simpa using hne2
      have hszf : w0.heap.size ≤ wf.heap.size := hBtf.size
      have hlf := hCf.wk.lt
      have HO1 : Hid (Oc toks bw bm br B' wf.heap.size vL done C w0 0 0 (p) _ _ (wf.alloc (.cells #[.int .i64 0, .int .i64 0] 183))) :=
        ⟨by have := hgf.size; simp; omega, g0.cell (hgf.cell HQ23.out.1 n0) (by simp), g0.cell (hgf.cell HQ23.out.2 n0) (by simp), hRf.grown g0 (fun b e => by cases e), hBtf.alloc _, hCf.wk.far g0 (by simp), bp_new _ _,
          by omega, by have := hRf.lt; omega, fun e => by have := (hRf.own.lt _ e).2; omega, hne2, hbwB, hszf, hB0, hge⟩
      clear hf hgf hCf hRf hBtf HBq HWq HRq HQ23 hszf hlf
      go_wp2_with fail
      generalize (wf.alloc (.cells #[.int .i64 0, .int .i64 0] 183)) = wg at HO1 ⊢
      generalize wf.heap.size = bp at HO1 ⊢
      clear g0
      have Mg := H0.out.but (j := p) HO1.out.bt HO1.out.wk (by have := HPI.out; omega)
      have hp := ctx_peek (Mg.ctx (by omega)) (by omega)
      rw [HT1.out.1] at hp
      refine hp.mono ?_
      rintro e wh ⟨rfl, hgh, hCh⟩
      have HO2 := hide (HO1.out.walk hgh hCh.wk)
      clear hp hgh hCh Mg HO1
      have hbpw : bp ≠ bw := HO2.out.n1
      obtain ⟨d0, d1, _, _, e1, _, _, _⟩ := HO2.out.wk
      obtain ⟨v0, v1, vf0, vf1, hvl⟩ := HO2.out.bp'
      have hset2 := fun W o u b' o' h => cell_set W bp o u b' o' h
      cases hng : l.neg with
      | some b =>
        have hA := HNP.out.1
        unfold LitAt at hA
        rw [hng] at hA
        simp only at hA
        obtain ⟨a1, a2, a3, a4⟩ := hA
        obtain rfl : m = p + 2 := a4
        have hhd : l.head = b := by unfold PLit.head; rw [hng]; rfl
        have hq : (l.head.s.toList == [33]) = true := by rw [hhd]; simpa using a2
        have HO3 := hide ((HO2.out.part (HO2.out.bp'.set0 1)).setI (p + 1))
        have HA3 := hide a3
        have HNG := hide hng
        clear a1 a2 a3 hhd hng HO2
        go_wp2_with fail
        rw [show ((p : Int) + 1) = ((p + 1 : Nat) : Int) by omega]
        generalize ((wh.setCell ⟨bp, 0, none⟩ (.int .i64 1)).setCell ⟨bw, 1, none⟩ (.int .i64 ((p + 1 : Nat) : Int))) = wi at HO3 ⊢
        clear d0 d1 e1 v0 v1 vf0 vf1 hvl hq
        obtain ⟨s1, s2, s3⟩ := at_tok HA3.out
        have Mi := H0.out.but (j := p + 1) HO3.out.bt HO3.out.wk (by have := HPI.out; omega)
        have hu := ctx_truth (Mi.ctx (by omega)) s3
        rw [s1, s2] at hu
        refine hu.mono ?_
        rintro e wk ⟨rfl, hgk, hCk⟩
        have hO4 := HO3.out.walk hgk hCk.wk
        obtain ⟨X, hX⟩ : ∃ x, varX vars l.name.s = x := ⟨_, rfl⟩
        rw [hX]
        have HX := hide hX
        have v0 := hO4.bp'.c0
        have v1 := hO4.bp'.c1
        have vf1 := hO4.bp'.f1
        have r1 := hO4.rl.c1
        have rf1 := hO4.rl.f1
        have hlr := hO4.rl.lt
        have hnbr : br ≠ bp := fun e => hO4.n2 e.symm
        have hnbr2 : bp ≠ br := hO4.n2
        have HO5 := hide (hO4.part (hO4.bp'.set1 X))
        have hszk : (wk.setCell ⟨bp, 1, none⟩ (.int .i64 X)).heap.size = wk.heap.size := by simp [World.setCell]
        have HOWN := hide (HO5.out.rl.own.alloc (.cells #[.int .i64 (1), .int .i64 X] 183))
        have HNEWS : Hid (∀ jj u, [Value.int .i64 (1), .int .i64 X][jj]? = some u → ((wk.setCell ⟨bp, 1, none⟩ (.int .i64 X)).alloc (.cells #[.int .i64 (1), .int .i64 X] 183)).cell? ((⟨wk.heap.size, 0, none⟩ : Addr).add jj) = some u) := by
          have h1 := World.news_of_block (cs := #[.int .i64 (1), .int .i64 X]) (t := 183) (fr := (0, 0)) (heap_alloc_new (wk.setCell ⟨bp, 1, none⟩ (.int .i64 X)) (.cells #[.int .i64 (1), .int .i64 X] 183))
          rw [hszk] at h1
          exact h1
        have hBk : B' ≤ wk.heap.size := hO4.hB
        have HKP : Hid (∀ wA, ((wk.setCell ⟨bp, 1, none⟩ (.int .i64 X)).alloc (.cells #[.int .i64 (1), .int .i64 X] 183)).grownBy wA vL.ownBlock → wA.cell? ⟨br, 1, none⟩ = some vL ∧ wA.frozen? ⟨br, 1, none⟩ = false) := by
          intro wA hg
          have hR := HO5.out.rl
          have g0 := World.grownBy_alloc (wk.setCell ⟨bp, 1, none⟩ (.int .i64 X)) (.cells #[.int .i64 (1), .int .i64 X] 183) none
          have n1 : some br ≠ vL.ownBlock := fun e => by have := (hR.own.lt _ e.symm).1; have := hR.brB; omega
          exact ⟨hg.cell (g0.cell hR.c1 (by simp)) n1, (hg.frozen_far ⟨br, 1, none⟩ (Nat.lt_of_lt_of_le hR.lt g0.size) n1).trans ((g0.frozen_far ⟨br, 1, none⟩ hR.lt (by simp)).trans hR.f1)⟩
        have hdn : done.length ≤ 2000 := by omega
        clear hu hgk hCk hO4 Mi s1 s2 hX HO3
        go_wp2_with (at_builtin; go_must (refine wpList_append_lies _ rfl _ _ 174 rfl B' 183 ip (.agg #[.int .i64 0, .int .i64 0]) 2 16 Tryz.underlying174 hip hy0 hy1 hy2 rfl (by decide) vL done.length (partCells done) rfl HOWN.out ⟨wk.heap.size, 0, none⟩ 1 1 [.int .i64 (1), .int .i64 X] rfl rfl HNEWS.out (part_one _ _) (by decide) (by unfold maxLen; omega) (by omega) (by simp; omega) _ rfl ?_))
        intro gA capA wA hownA hgrowA hatA hltA
        obtain ⟨q1, q2⟩ := HKP.out wA hgrowA
        have hP := HO5.out.push hownA hgrowA
        have hle := HNP.out.2.le
        have HREL : Hid (OrRel toks vars bw bm br B' i j ST PARTS C w0 ls'.length (.int .i64 ((1 + 1 : Nat) : Int)) (wA.setCell ⟨br, 1, none⟩ (.slice (some ⟨gA, 0, none⟩) (done.length + 1) capA))) :=
          ⟨1 + 1, p + 2, ls', done ++ [(1, X)], _, _, _, rfl, rfl, by omega, by simp; omega, hle, by have := HPI.out; omega, .inr ⟨by omega, HNP.out.2⟩, hST.out, by unfold Hid; rw [← hPP.out, ← HX.out]; simp [litPart, HNG.out], hP.1, hP.2.1, hP.2.2.1, hP.2.2.2.1, hP.2.2.2.2⟩
        clear hP HO5 HOWN HNEWS HKP hownA hgrowA hatA hltA v0 v1 vf1 r1 rf1
        go_wp2
        go_roundg ls'.length
        case measure => simp
        case rel => first | exact HREL | (have h1 := HREL.out; simpa using h1)
      | none =>
        have hA := HNP.out.1
        unfold LitAt at hA
        rw [hng] at hA
        simp only at hA
        obtain ⟨a1, a2, a4⟩ := hA
        obtain rfl : m = p + 1 := a4
        have hhd : l.head = l.name := by unfold PLit.head; rw [hng]; rfl
        have hq : (l.head.s.toList == [33]) = false := by rw [hhd]; simpa using a2
        have HO3 := HO2
        have HA3 := hide a1
        have HNG := hide hng
        clear a1 a2 hhd hng HO2
        go_wp2_with fail
        generalize wh = wi at HO3 ⊢
        clear d0 d1 e1 v0 v1 vf0 vf1 hvl hq
        obtain ⟨s1, s2, s3⟩ := at_tok HA3.out
        have Mi := H0.out.but (j := p) HO3.out.bt HO3.out.wk (by have := HPI.out; omega)
        have hu := ctx_truth (Mi.ctx (by omega)) s3
        rw [s1, s2] at hu
        refine hu.mono ?_
        rintro e wk ⟨rfl, hgk, hCk⟩
        have hO4 := HO3.out.walk hgk hCk.wk
        obtain ⟨X, hX⟩ : ∃ x, varX vars l.name.s = x := ⟨_, rfl⟩
        rw [hX]
        have HX := hide hX
        have v0 := hO4.bp'.c0
        have v1 := hO4.bp'.c1
        have vf1 := hO4.bp'.f1
        have r1 := hO4.rl.c1
        have rf1 := hO4.rl.f1
        have hlr := hO4.rl.lt
        have hnbr : br ≠ bp := fun e => hO4.n2 e.symm
        have hnbr2 : bp ≠ br := hO4.n2
        have HO5 := hide (hO4.part (hO4.bp'.set1 X))
        have hszk : (wk.setCell ⟨bp, 1, none⟩ (.int .i64 X)).heap.size = wk.heap.size := by simp [World.setCell]
        have HOWN := hide (HO5.out.rl.own.alloc (.cells #[.int .i64 (0), .int .i64 X] 183))
        have HNEWS : Hid (∀ jj u, [Value.int .i64 (0), .int .i64 X][jj]? = some u → ((wk.setCell ⟨bp, 1, none⟩ (.int .i64 X)).alloc (.cells #[.int .i64 (0), .int .i64 X] 183)).cell? ((⟨wk.heap.size, 0, none⟩ : Addr).add jj) = some u) := by
          have h1 := World.news_of_block (cs := #[.int .i64 (0), .int .i64 X]) (t := 183) (fr := (0, 0)) (heap_alloc_new (wk.setCell ⟨bp, 1, none⟩ (.int .i64 X)) (.cells #[.int .i64 (0), .int .i64 X] 183))
          rw [hszk] at h1
          exact h1
        have hBk : B' ≤ wk.heap.size := hO4.hB
        have HKP : Hid (∀ wA, ((wk.setCell ⟨bp, 1, none⟩ (.int .i64 X)).alloc (.cells #[.int .i64 (0), .int .i64 X] 183)).grownBy wA vL.ownBlock → wA.cell? ⟨br, 1, none⟩ = some vL ∧ wA.frozen? ⟨br, 1, none⟩ = false) := by
          intro wA hg
          have hR := HO5.out.rl
          have g0 := World.grownBy_alloc (wk.setCell ⟨bp, 1, none⟩ (.int .i64 X)) (.cells #[.int .i64 (0), .int .i64 X] 183) none
          have n1 : some br ≠ vL.ownBlock := fun e => by have := (hR.own.lt _ e.symm).1; have := hR.brB; omega
          exact ⟨hg.cell (g0.cell hR.c1 (by simp)) n1, (hg.frozen_far ⟨br, 1, none⟩ (Nat.lt_of_lt_of_le hR.lt g0.size) n1).trans ((g0.frozen_far ⟨br, 1, none⟩ hR.lt (by simp)).trans hR.f1)⟩
        have hdn : done.length ≤ 2000 := by omega
        clear hu hgk hCk hO4 Mi s1 s2 hX HO3
        go_wp2_with (at_builtin; go_must (refine wpList_append_lies _ rfl _ _ 174 rfl B' 183 ip (.agg #[.int .i64 0, .int .i64 0]) 2 16 Tryz.underlying174 hip hy0 hy1 hy2 rfl (by decide) vL done.length (partCells done) rfl HOWN.out ⟨wk.heap.size, 0, none⟩ 1 1 [.int .i64 (0), .int .i64 X] rfl rfl HNEWS.out (part_one _ _) (by decide) (by unfold maxLen; omega) (by omega) (by simp; omega) _ rfl ?_))
        intro gA capA wA hownA hgrowA hatA hltA
        obtain ⟨q1, q2⟩ := HKP.out wA hgrowA
        have hP := HO5.out.push hownA hgrowA
        have hle := HNP.out.2.le
        have HREL : Hid (OrRel toks vars bw bm br B' i j ST PARTS C w0 ls'.length (.int .i64 ((1 + 1 : Nat) : Int)) (wA.setCell ⟨br, 1, none⟩ (.slice (some ⟨gA, 0, none⟩) (done.length + 1) capA))) :=
          ⟨1 + 1, p + 1, ls', done ++ [(0, X)], _, _, _, rfl, rfl, by omega, by simp; omega, hle, by have := HPI.out; omega, .inr ⟨by omega, HNP.out.2⟩, hST.out, by unfold Hid; rw [← hPP.out, ← HX.out]; simp [litPart, HNG.out], hP.1, hP.2.1, hP.2.2.1, hP.2.2.2.1, hP.2.2.2.2⟩
        clear hP HO5 HOWN HNEWS HKP hownA hgrowA hatA hltA v0 v1 vf1 r1 rf1
        go_wp2
        go_roundg ls'.length
        case measure => simp
        case rel => first | exact HREL | (have h1 := HREL.out; simpa using h1)
    · cases rem with
      | nil =>
        obtain rfl : p = j := hser
        have hk1' : ((k : Int) == 1) = false := by simp; omega
        have Mq := H0.out.but (j := p) HBq0.out HWq0.out (by have := HPI.out; omega)
        have hp := ctx_peek (Mq.ctx (by omega)) (by omega)
        have HP0 := hide hp
        have hnc : ((peekS toks p).toList == [44]) = false := by simpa using HEND.out
        have hbwB : bw < B' := by have := H0.out.hbw; omega
        clear hp Mq
        go_wp2_with fail
        refine (unhide HP0).mono ?_
        rintro e wj ⟨rfl, hgj, hCj⟩
        have HBj := hide (HBq0.out.walk hgj)
        have HWj := hide hCj.wk
        have hRj := HRq0.out.grown hgj (fun b e => by cases e; exact ⟨fun e => hne2 e.symm, fun e => by have := (HRq0.out.own.lt _ e).1; omega⟩)
        have hPS : done = PARTS := by rw [← hPP.out]; simp
        have n0 : some br ≠ some bw := by simpa using hne2
        have HRj0 := hide (HRA.out.ofRl (by rw [HCC.out]; exact hRj) (hgj.cell H23.out.1 n0) (hgj.cell H23.out.2 n0))
        have HPj0 := hide (hRj.own.mono (base' := B) (by omega))
        obtain ⟨R, hR⟩ : ∃ R : PRul, R = ⟨111, done, vL, ⟨#[]⟩, 0, 0, 0, 0⟩ := ⟨_, rfl⟩
        have HRj : Hid (Br wj br R) := by rw [hR]; exact HRj0.out
        have HPj : Hid (wj.ownsRow B 183 2 R.pv R.parts.length (partCells R.parts)) := by rw [hR]; exact HPj0.out
        have HRR := hide (And.intro hR (And.intro hPS hST.out))
        clear hgj hCj hRj hPS HRj0 HPj0 hR HP0 HBq0 HWq0 HRq0 H23
        go_wp2
        have Mj := H0.out.but (j := p) HBj.out HWj.out (by omega)
        obtain ⟨r0, r1, r2, r3, r4, r5, r6, rz, rl⟩ := HRj.out
        have m3 := Mj.m3
        have mf3 := Mj.f3
        have hbl2 := Mj.tk.ltm
        have HMj := hide Mj
        have HOWN := hide (Mj.orr.kept ((World.grownBy_alloc wj (.cells #[.int .u8 R.sort, R.pv, .string R.rel, .int .i64 R.n, .int .i64 R.v, .int .i64 R.w, .int .i64 R.x] 176) none).trans (grown_drew' _ none)) (by cases vr.ownBlock with
          | none => exact .inl rfl
          | some g => exact .inr (by simp)))
        have HNEWS : Hid (∀ jj u, [Value.int .u8 R.sort, R.pv, .string R.rel, .int .i64 R.n, .int .i64 R.v, .int .i64 R.w, .int .i64 R.x][jj]? = some u → (wj.alloc (.cells #[.int .u8 R.sort, R.pv, .string R.rel, .int .i64 R.n, .int .i64 R.v, .int .i64 R.w, .int .i64 R.x] 176)).drew.cell? ((⟨wj.heap.size, 0, none⟩ : Addr).add jj) = some u) :=
          World.news_of_block (cs := #[.int .u8 R.sort, R.pv, .string R.rel, .int .i64 R.n, .int .i64 R.v, .int .i64 R.w, .int .i64 R.x]) (t := 176) (fr := (0, 0)) (heap_alloc_new wj _)
        have KEEP : Hid (∀ wA, (wj.alloc (.cells #[.int .u8 R.sort, R.pv, .string R.rel, .int .i64 R.n, .int .i64 R.v, .int .i64 R.w, .int .i64 R.x] 176)).drew.grownBy wA vr.ownBlock → wA.frozen? ⟨bm, 3, none⟩ = false ∧ wA.cell? ⟨bm, 3, none⟩ = some vr) := by
          intro wA hg
          have g0 : wj.grownBy (wj.alloc (.cells #[.int .u8 R.sort, R.pv, .string R.rel, .int .i64 R.n, .int .i64 R.v, .int .i64 R.w, .int .i64 R.x] 176)).drew none := (World.grownBy_alloc wj _ none).trans (grown_drew' _ none)
          have hlow : some bm ≠ vr.ownBlock := fun e => by have := (HMj.out.orr.lt _ e.symm).1; have := HMj.out.hbm; omega
          exact ⟨(hg.frozen_far ⟨bm, 3, none⟩ (Nat.lt_of_lt_of_le HMj.out.tk.ltm g0.size) hlow).trans ((g0.frozen_far ⟨bm, 3, none⟩ HMj.out.tk.ltm (by simp)).trans HMj.out.f3), hg.cell (g0.cell HMj.out.m3 (by simp)) hlow⟩
        have hBs : B ≤ wj.heap.size := Mj.hB
        have hrn : rules.length ≤ 2000 := by have := H0.out.lr; omega
        have HOC : Hid (R.pv.oneCell' = true) := own_one HPj.out
        clear Mj rz
        go_region_law ((refine step_append_lies _ (by rfl) _ _ 114 (by rfl) B 176 i0 (.agg #[.int .u8 0, .slice none 0 0, .string .empty, .int .i64 0, .int .i64 0, .int .i64 0, .int .i64 0]) 7 80 Tryz.underlying114 hi0 hz0 hz1 hz2 rfl (by decide) vr rules.length (rulCells rules) (by rfl) HOWN.out ⟨wj.heap.size, 0, none⟩ 1 1 [.int .u8 R.sort, R.pv, .string R.rel, .int .i64 R.n, .int .i64 R.v, .int .i64 R.w, .int .i64 R.x] (by rfl) rfl HNEWS.out (rul_one HOC.out) (by decide) (by unfold maxLen; omega) (by omega) (by simp; omega) _ rfl ?_; intro gA capA wA hownA hgrowA hatA hltA; obtain ⟨q1, q2⟩ := KEEP.out wA hgrowA))
        all_goals
          have HP := hide (HMj.out.pushRule (x := R) (by have := H0.out.lr; omega) HPj.out hownA hgrowA)
          clear HOWN HNEWS KEEP hownA hgrowA hatA hltA m3 mf3 r0 r1 r2 r3 r4 r5 r6 rl
          go_wp2
          go_end0
          refine ⟨rfl, (HBj.out.toB H0.out.hB (fun k hk => by simp at hk; simp [hk])).trans HP.out.2, ?_⟩
          have h1 := HP.out.1; rw [HRR.out.1, HRR.out.2.1, ← HFIN.out.2] at h1; rw [HFIN.out.1, ← HRR.out.2.2]; exact ⟨_, _, h1⟩
      | cons l ls' =>
        obtain ⟨⟨c, hc1, hc2⟩, m, hnp, hser'⟩ := hser
        have hk1' : ((k : Int) == 1) = false := by simp; omega
        have hk1'' : (1 : Int) < (k : Int) := by omega
        have hpl := (at_tok hc1).2.2
        have Mq := H0.out.but (j := p) HBq0.out HWq0.out (by have := HPI.out; omega)
        have hp := ctx_peek (Mq.ctx (by omega)) (by omega)
        rw [(at_tok hc1).1] at hp
        have HP0 := hide hp
        have hnc : (c.s.toList == [44]) = true := by simpa using hc2
        have hbwB0 : bw < B' := by have := H0.out.hbw; omega
        have HNP := hide (And.intro hnp hser')
        clear hp Mq hc1 hc2 hnp hser'
        go_wp2_with fail
        refine (unhide HP0).mono ?_
        rintro e wp ⟨rfl, hgp, hCp⟩
        have n0' : some br ≠ some bw := by simpa using hne2
        have hRp := HRq0.out.grown hgp (fun b e => by cases e; exact ⟨fun e => hne2 e.symm, fun e => by have := (HRq0.out.own.lt _ e).1; omega⟩)
        have HBq := hide ((HBq0.out.walk hgp).set (k := bw) (.inl (by simp)) 1 (.int .i64 ((p : Int) + 1)))
        have HWq := hide (hCp.wk.setI ((p : Int) + 1))
        have HRq := hide (hRp.grown (grown_set wp bw 1 (.int .i64 ((p : Int) + 1))) (fun b e => by cases e; exact ⟨fun e => hne2 e.symm, fun e => by have := (HRq0.out.own.lt _ e).1; omega⟩))
        have HQ23 : Hid ((wp.setCell ⟨bw, 1, none⟩ (.int .i64 ((p : Int) + 1))).cell? ⟨br, 2, none⟩ = some (.string ⟨#[]⟩) ∧ (wp.setCell ⟨bw, 1, none⟩ (.int .i64 ((p : Int) + 1))).cell? ⟨br, 3, none⟩ = some (.int .i64 0)) :=
          ⟨(cell_set _ _ _ _ _ _ (.inl hne2)).trans (hgp.cell H23.out.1 n0'), (cell_set _ _ _ _ _ _ (.inl hne2)).trans (hgp.cell H23.out.2 n0')⟩
        have hBq : B' ≤ (wp.setCell ⟨bw, 1, none⟩ (.int .i64 ((p : Int) + 1))).heap.size := by have := hgp.size; simp [World.setCell]; omega
        obtain ⟨d0, d1, _, _, e1, _, _, _⟩ := hCp.wk
        clear hgp hCp hRp HP0 HBq0 HWq0 HRq0 H23
        go_wp2_with fail
        generalize (wp.setCell ⟨bw, 1, none⟩ (.int .i64 ((p : Int) + 1))) = wq at HBq HWq HRq HQ23 hBq ⊢
        clear d0 d1 e1
        have Mq := H0.out.but (j := p + 1) HBq.out HWq.out (by have := HPI.out; omega)
        obtain ⟨t1, t2, t3⟩ := at_tok HNP.out.1.lt.2
        have hf := ctx_fault (Mq.ctx (by omega)) t3 (decide (8 < (k : Int))) 6
        rw [t2] at hf
        have HT1 := hide (And.intro t1 t2)
        clear Mq t1 t2
        refine hf.mono ?_
        rintro e wf ⟨rfl, hgf, hCf⟩
        have hbwB : bw < B' := by have := H0.out.hbw; omega
        have hRf := HRq.out.grown hgf (fun b e => by cases e; exact ⟨fun e => hne2 e.symm, fun e => by have := (HRq.out.own.lt _ e).1; omega⟩)
        have hBtf := HBq.out.walk hgf
        have g0 := World.grownBy_alloc wf (.cells #[.int .i64 0, .int .i64 0] 183) none
        have n0 : some br ≠ some bw := by simpa using hne2
        have hszf : w0.heap.size ≤ wf.heap.size := hBtf.size
        have hlf := hCf.wk.lt
        have HO1 : Hid (Oc toks bw bm br B' wf.heap.size vL done C w0 0 0 (p + 1) _ _ (wf.alloc (.cells #[.int .i64 0, .int .i64 0] 183))) :=
          ⟨by have := hgf.size; simp; omega, g0.cell (hgf.cell HQ23.out.1 n0) (by simp), g0.cell (hgf.cell HQ23.out.2 n0) (by simp), hRf.grown g0 (fun b e => by cases e), hBtf.alloc _, hCf.wk.far g0 (by simp), bp_new _ _,
            by omega, by have := hRf.lt; omega, fun e => by have := (hRf.own.lt _ e).2; omega, hne2, hbwB, hszf, hB0, hge⟩
        clear hf hgf hCf hRf hBtf HBq HWq HRq HQ23 hszf hlf
        go_wp2_with fail
        generalize (wf.alloc (.cells #[.int .i64 0, .int .i64 0] 183)) = wg at HO1 ⊢
        generalize wf.heap.size = bp at HO1 ⊢
        clear g0
        have Mg := H0.out.but (j := p + 1) HO1.out.bt HO1.out.wk (by have := HPI.out; omega)
        have hp := ctx_peek (Mg.ctx (by omega)) (by omega)
        rw [HT1.out.1] at hp
        refine hp.mono ?_
        rintro e wh ⟨rfl, hgh, hCh⟩
        have HO2 := hide (HO1.out.walk hgh hCh.wk)
        clear hp hgh hCh Mg HO1
        have hbpw : bp ≠ bw := HO2.out.n1
        obtain ⟨d0, d1, _, _, e1, _, _, _⟩ := HO2.out.wk
        obtain ⟨v0, v1, vf0, vf1, hvl⟩ := HO2.out.bp'
        have hset2 := fun W o u b' o' h => cell_set W bp o u b' o' h
        cases hng : l.neg with
        | some b =>
          have hA := HNP.out.1
          unfold LitAt at hA
          rw [hng] at hA
          simp only at hA
          obtain ⟨a1, a2, a3, a4⟩ := hA
          obtain rfl : m = p + 1 + 2 := a4
          have hhd : l.head = b := by unfold PLit.head; rw [hng]; rfl
          have hq : (l.head.s.toList == [33]) = true := by rw [hhd]; simpa using a2
          have HO3 := hide ((HO2.out.part (HO2.out.bp'.set0 1)).setI (p + 1 + 1))
          have HA3 := hide a3
          have HNG := hide hng
          clear a1 a2 a3 hhd hng HO2
          go_wp2_with fail
          rw [show ((p : Int) + 1 + 1) = ((p + 1 + 1 : Nat) : Int) by omega]
          generalize ((wh.setCell ⟨bp, 0, none⟩ (.int .i64 1)).setCell ⟨bw, 1, none⟩ (.int .i64 ((p + 1 + 1 : Nat) : Int))) = wi at HO3 ⊢
          clear d0 d1 e1 v0 v1 vf0 vf1 hvl hq
          obtain ⟨s1, s2, s3⟩ := at_tok HA3.out
          have Mi := H0.out.but (j := p + 1 + 1) HO3.out.bt HO3.out.wk (by have := HPI.out; omega)
          have hu := ctx_truth (Mi.ctx (by omega)) s3
          rw [s1, s2] at hu
          refine hu.mono ?_
          rintro e wk ⟨rfl, hgk, hCk⟩
          have hO4 := HO3.out.walk hgk hCk.wk
          obtain ⟨X, hX⟩ : ∃ x, varX vars l.name.s = x := ⟨_, rfl⟩
          rw [hX]
          have HX := hide hX
          have v0 := hO4.bp'.c0
          have v1 := hO4.bp'.c1
          have vf1 := hO4.bp'.f1
          have r1 := hO4.rl.c1
          have rf1 := hO4.rl.f1
          have hlr := hO4.rl.lt
          have hnbr : br ≠ bp := fun e => hO4.n2 e.symm
          have hnbr2 : bp ≠ br := hO4.n2
          have HO5 := hide (hO4.part (hO4.bp'.set1 X))
          have hszk : (wk.setCell ⟨bp, 1, none⟩ (.int .i64 X)).heap.size = wk.heap.size := by simp [World.setCell]
          have HOWN := hide (HO5.out.rl.own.alloc (.cells #[.int .i64 (1), .int .i64 X] 183))
          have HNEWS : Hid (∀ jj u, [Value.int .i64 (1), .int .i64 X][jj]? = some u → ((wk.setCell ⟨bp, 1, none⟩ (.int .i64 X)).alloc (.cells #[.int .i64 (1), .int .i64 X] 183)).cell? ((⟨wk.heap.size, 0, none⟩ : Addr).add jj) = some u) := by
            have h1 := World.news_of_block (cs := #[.int .i64 (1), .int .i64 X]) (t := 183) (fr := (0, 0)) (heap_alloc_new (wk.setCell ⟨bp, 1, none⟩ (.int .i64 X)) (.cells #[.int .i64 (1), .int .i64 X] 183))
            rw [hszk] at h1
            exact h1
          have hBk : B' ≤ wk.heap.size := hO4.hB
          have HKP : Hid (∀ wA, ((wk.setCell ⟨bp, 1, none⟩ (.int .i64 X)).alloc (.cells #[.int .i64 (1), .int .i64 X] 183)).grownBy wA vL.ownBlock → wA.cell? ⟨br, 1, none⟩ = some vL ∧ wA.frozen? ⟨br, 1, none⟩ = false) := by
            intro wA hg
            have hR := HO5.out.rl
            have g0 := World.grownBy_alloc (wk.setCell ⟨bp, 1, none⟩ (.int .i64 X)) (.cells #[.int .i64 (1), .int .i64 X] 183) none
            have n1 : some br ≠ vL.ownBlock := fun e => by have := (hR.own.lt _ e.symm).1; have := hR.brB; omega
            exact ⟨hg.cell (g0.cell hR.c1 (by simp)) n1, (hg.frozen_far ⟨br, 1, none⟩ (Nat.lt_of_lt_of_le hR.lt g0.size) n1).trans ((g0.frozen_far ⟨br, 1, none⟩ hR.lt (by simp)).trans hR.f1)⟩
          have hdn : done.length ≤ 2000 := by omega
          clear hu hgk hCk hO4 Mi s1 s2 hX HO3
          go_wp2_with (at_builtin; go_must (refine wpList_append_lies _ rfl _ _ 174 rfl B' 183 ip (.agg #[.int .i64 0, .int .i64 0]) 2 16 Tryz.underlying174 hip hy0 hy1 hy2 rfl (by decide) vL done.length (partCells done) rfl HOWN.out ⟨wk.heap.size, 0, none⟩ 1 1 [.int .i64 (1), .int .i64 X] rfl rfl HNEWS.out (part_one _ _) (by decide) (by unfold maxLen; omega) (by omega) (by simp; omega) _ rfl ?_))
          intro gA capA wA hownA hgrowA hatA hltA
          obtain ⟨q1, q2⟩ := HKP.out wA hgrowA
          have hP := HO5.out.push hownA hgrowA
          have hle := HNP.out.2.le
          have HREL : Hid (OrRel toks vars bw bm br B' i j ST PARTS C w0 ls'.length (.int .i64 ((k + 1 : Nat) : Int)) (wA.setCell ⟨br, 1, none⟩ (.slice (some ⟨gA, 0, none⟩) (done.length + 1) capA))) :=
            ⟨k + 1, p + 1 + 2, ls', done ++ [(1, X)], _, _, _, rfl, rfl, by omega, by simp; omega, hle, by have := HPI.out; omega, .inr ⟨by omega, HNP.out.2⟩, hST.out, by unfold Hid; rw [← hPP.out, ← HX.out]; simp [litPart, HNG.out], hP.1, hP.2.1, hP.2.2.1, hP.2.2.2.1, hP.2.2.2.2⟩
          clear hP HO5 HOWN HNEWS HKP hownA hgrowA hatA hltA v0 v1 vf1 r1 rf1
          go_wp2
          go_roundg ls'.length
          case measure => simp
          case rel => first | exact HREL | (have h1 := HREL.out; simpa using h1)
        | none =>
          have hA := HNP.out.1
          unfold LitAt at hA
          rw [hng] at hA
          simp only at hA
          obtain ⟨a1, a2, a4⟩ := hA
          obtain rfl : m = p + 1 + 1 := a4
          have hhd : l.head = l.name := by unfold PLit.head; rw [hng]; rfl
          have hq : (l.head.s.toList == [33]) = false := by rw [hhd]; simpa using a2
          have HO3 := HO2
          have HA3 := hide a1
          have HNG := hide hng
          clear a1 a2 hhd hng HO2
          go_wp2_with fail
          generalize wh = wi at HO3 ⊢
          clear d0 d1 e1 v0 v1 vf0 vf1 hvl hq
          obtain ⟨s1, s2, s3⟩ := at_tok HA3.out
          have Mi := H0.out.but (j := p + 1) HO3.out.bt HO3.out.wk (by have := HPI.out; omega)
          have hu := ctx_truth (Mi.ctx (by omega)) s3
          rw [s1, s2] at hu
          refine hu.mono ?_
          rintro e wk ⟨rfl, hgk, hCk⟩
          have hO4 := HO3.out.walk hgk hCk.wk
          obtain ⟨X, hX⟩ : ∃ x, varX vars l.name.s = x := ⟨_, rfl⟩
          rw [hX]
          have HX := hide hX
          have v0 := hO4.bp'.c0
          have v1 := hO4.bp'.c1
          have vf1 := hO4.bp'.f1
          have r1 := hO4.rl.c1
          have rf1 := hO4.rl.f1
          have hlr := hO4.rl.lt
          have hnbr : br ≠ bp := fun e => hO4.n2 e.symm
          have hnbr2 : bp ≠ br := hO4.n2
          have HO5 := hide (hO4.part (hO4.bp'.set1 X))
          have hszk : (wk.setCell ⟨bp, 1, none⟩ (.int .i64 X)).heap.size = wk.heap.size := by simp [World.setCell]
          have HOWN := hide (HO5.out.rl.own.alloc (.cells #[.int .i64 (0), .int .i64 X] 183))
          have HNEWS : Hid (∀ jj u, [Value.int .i64 (0), .int .i64 X][jj]? = some u → ((wk.setCell ⟨bp, 1, none⟩ (.int .i64 X)).alloc (.cells #[.int .i64 (0), .int .i64 X] 183)).cell? ((⟨wk.heap.size, 0, none⟩ : Addr).add jj) = some u) := by
            have h1 := World.news_of_block (cs := #[.int .i64 (0), .int .i64 X]) (t := 183) (fr := (0, 0)) (heap_alloc_new (wk.setCell ⟨bp, 1, none⟩ (.int .i64 X)) (.cells #[.int .i64 (0), .int .i64 X] 183))
            rw [hszk] at h1
            exact h1
          have hBk : B' ≤ wk.heap.size := hO4.hB
          have HKP : Hid (∀ wA, ((wk.setCell ⟨bp, 1, none⟩ (.int .i64 X)).alloc (.cells #[.int .i64 (0), .int .i64 X] 183)).grownBy wA vL.ownBlock → wA.cell? ⟨br, 1, none⟩ = some vL ∧ wA.frozen? ⟨br, 1, none⟩ = false) := by
            intro wA hg
            have hR := HO5.out.rl
            have g0 := World.grownBy_alloc (wk.setCell ⟨bp, 1, none⟩ (.int .i64 X)) (.cells #[.int .i64 (0), .int .i64 X] 183) none
            have n1 : some br ≠ vL.ownBlock := fun e => by have := (hR.own.lt _ e.symm).1; have := hR.brB; omega
            exact ⟨hg.cell (g0.cell hR.c1 (by simp)) n1, (hg.frozen_far ⟨br, 1, none⟩ (Nat.lt_of_lt_of_le hR.lt g0.size) n1).trans ((g0.frozen_far ⟨br, 1, none⟩ hR.lt (by simp)).trans hR.f1)⟩
          have hdn : done.length ≤ 2000 := by omega
          clear hu hgk hCk hO4 Mi s1 s2 hX HO3
          go_wp2_with (at_builtin; go_must (refine wpList_append_lies _ rfl _ _ 174 rfl B' 183 ip (.agg #[.int .i64 0, .int .i64 0]) 2 16 Tryz.underlying174 hip hy0 hy1 hy2 rfl (by decide) vL done.length (partCells done) rfl HOWN.out ⟨wk.heap.size, 0, none⟩ 1 1 [.int .i64 (0), .int .i64 X] rfl rfl HNEWS.out (part_one _ _) (by decide) (by unfold maxLen; omega) (by omega) (by simp; omega) _ rfl ?_))
          intro gA capA wA hownA hgrowA hatA hltA
          obtain ⟨q1, q2⟩ := HKP.out wA hgrowA
          have hP := HO5.out.push hownA hgrowA
          have hle := HNP.out.2.le
          have HREL : Hid (OrRel toks vars bw bm br B' i j ST PARTS C w0 ls'.length (.int .i64 ((k + 1 : Nat) : Int)) (wA.setCell ⟨br, 1, none⟩ (.slice (some ⟨gA, 0, none⟩) (done.length + 1) capA))) :=
            ⟨k + 1, p + 1 + 1, ls', done ++ [(0, X)], _, _, _, rfl, rfl, by omega, by simp; omega, hle, by have := HPI.out; omega, .inr ⟨by omega, HNP.out.2⟩, hST.out, by unfold Hid; rw [← hPP.out, ← HX.out]; simp [litPart, HNG.out], hP.1, hP.2.1, hP.2.2.1, hP.2.2.2.1, hP.2.2.2.2⟩
          clear hP HO5 HOWN HNEWS HKP hownA hgrowA hatA hltA v0 v1 vf1 r1 rf1
          go_wp2
          go_roundg ls'.length
          case measure => simp
          case rel => first | exact HREL | (have h1 := HREL.out; simpa using h1)
end Go.Proofs.YthpcbbnabnlanaaGreatDoor
