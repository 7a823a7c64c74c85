import Derived.Test.YthpcbbnabnlanaaGreatDoorM02
import Derived.Test.YthpcbbnabnlanaaGreatDoorM18
import Derived.Test.YthpcbbnabnlanaaGreatDoorM20
import Derived.Test.YthpcbbnabnlanaaGreatDoorM21
import Derived.Test.YthpcbbnabnlanaaGreatDoorM22
import Derived.Test.YthpcbbnabnlanaaGreatDoorM23
import Derived.Test.YthpcbbnabnlanaaGreatDoorM24
import Derived.Deep.DeepMust
import Derived.Deep.LoopGhost
/-
  The reference's statement: list: a list of numbers.
-/
namespace Go.Proofs.YthpcbbnabnlanaaGreatDoor
open Go.RowKit
set_option linter.unusedVariables false
set_option linter.unusedSimpArgs false
attribute [local go_sem ↓] Go.wp_at_zero Go.wp_at_succ
section
variable {w w' w0 : World} {bw bm gt capt B : Nat} {toks : List PTok} {vv vl vr : Value} {vars : List PVar} {lists : List PLst} {rules : List PRul} {i : Nat} {kind line : Int}
/-- a list more: behind the append and the store of the new slice -/
theorem Md.pushList (h : Md w bw bm gt capt B toks vv vl vr vars lists rules i kind line) {o : Obj} {wA : World} {v' : Value} {x : PLst} (hi : lists.length + 1 ≤ i) (hp : w.ownsRow B 3 1 x.v x.nums.length (x.nums.map (.int .i64)))
    (hown : wA.ownsRow B 178 2 v' (lists.length + 1) (lstCells lists ++ [.string x.name, x.v])) (hg : (w.alloc o).drew.grownBy wA vl.ownBlock) :
    Md (wA.setCell ⟨bm, 2, none⟩ v') bw bm gt capt B toks vv v' vr vars (lists ++ [x]) rules i kind line ∧ ButB B [bw, bm] w (wA.setCell ⟨bm, 2, none⟩ v') := by
  have g0 : w.grownBy (w.alloc o).drew none := (World.grownBy_alloc w o none).trans (grown_drew' _ none)
  have gs := grown_set wA bm 2 v'
  have hlow : ∀ b, b < B → some b ≠ vl.ownBlock := fun b hb e => by have := (h.ol.lt _ e.symm).1; omega
  have nn : ∀ {v : Value}, v.ownBlock = none ∨ v.ownBlock ≠ none := fun {v} => by cases v.ownBlock with
    | none => exact .inl rfl
    | some g => exact .inr (by simp)
  have keep : ∀ {e : TypeId} {s n : Nat} {v : Value} {xs : List Value}, w.ownsRow B e s v n xs → e ≠ 178 → (wA.setCell ⟨bm, 2, none⟩ v').ownsRow B e s v n xs := fun {e s n v xs} ho he =>
    have h1 := ho.kept g0 nn
    have h2 := h1.kept hg (own_ne ho h.ol he)
    h2.kept gs (own_ne_low h2 h.hbm)
  have cell : ∀ b q u, b < B → b ≠ bm → w.cell? ⟨b, q, none⟩ = some u → (wA.setCell ⟨bm, 2, none⟩ v').cell? ⟨b, q, none⟩ = some u := fun b q u hb hn hu =>
    gs.cell (hg.cell (g0.cell hu (by simp)) (hlow b hb)) (by simpa using hn)
  have cellm : ∀ q u, q ≠ 2 → w.cell? ⟨bm, q, none⟩ = some u → (wA.setCell ⟨bm, 2, none⟩ v').cell? ⟨bm, q, none⟩ = some u := fun q u hq hu =>
    (cell_set _ _ _ _ _ _ (.inr hq)).trans (hg.cell (g0.cell hu (by simp)) (hlow bm h.hbm))
  have hsz : w.heap.size ≤ wA.heap.size := Nat.le_trans g0.size hg.size
  have frA : ∀ q, wA.frozen? ⟨bm, q, none⟩ = w.frozen? ⟨bm, q, none⟩ := fun q =>
    (hg.frozen_far ⟨bm, q, none⟩ (Nat.lt_of_lt_of_le h.tk.ltm g0.size) (hlow bm h.hbm)).trans (g0.frozen_far ⟨bm, q, none⟩ h.tk.ltm (by simp))
  have fr : ∀ q, (wA.setCell ⟨bm, 2, none⟩ v').frozen? ⟨bm, q, none⟩ = w.frozen? ⟨bm, q, none⟩ := fun q => (World.frozen?_setCell _ _ _ _).trans (frA q)
  have hwk : Wk (wA.setCell ⟨bm, 2, none⟩ v') bw bm i kind line := by
    have n1 := hlow bw h.hbw
    have n2 : some bw ≠ some bm := by simpa using fun e : bw = bm => h.ne1 e.symm
    have f0 : ∀ q, (wA.setCell ⟨bm, 2, none⟩ v').frozen? ⟨bw, q, none⟩ = w.frozen? ⟨bw, q, none⟩ := fun q =>
      (World.frozen?_setCell _ _ _ _).trans ((hg.frozen_far ⟨bw, q, none⟩ (Nat.lt_of_lt_of_le h.wk.lt g0.size) n1).trans (g0.frozen_far ⟨bw, q, none⟩ h.wk.lt (by simp)))
    exact ⟨cell bw 0 _ h.hbw (fun e => h.ne1 e.symm) h.wk.c0, cell bw 1 _ h.hbw (fun e => h.ne1 e.symm) h.wk.c1, cell bw 2 _ h.hbw (fun e => h.ne1 e.symm) h.wk.c2, cell bw 3 _ h.hbw (fun e => h.ne1 e.symm) h.wk.c3,
      (f0 1).trans h.wk.f1, (f0 2).trans h.wk.f2, (f0 3).trans h.wk.f3, by have := h.wk.lt; simp [World.setCell]; omega⟩
  have hszs : (wA.setCell ⟨bm, 2, none⟩ v').heap.size = wA.heap.size := by simp [World.setCell]
  refine ⟨⟨hwk, ⟨cellm 0 _ (by omega) h.tk.m0, fun j u hu => cell gt j u h.hgt h.ne3 (h.tk.row j u hu), by have := h.tk.ltm; omega, by have := h.tk.ltg; omega⟩, cellm 1 _ (by omega) h.m1, ?_, cellm 3 _ (by omega) h.m3, (fr 1).trans h.f1, (fr 2).trans h.f2, (fr 3).trans h.f3, keep h.ov (by decide),
    ?_, keep h.orr (by decide), fun l hl => ?_, fun r hr => keep (h.ri r hr) (by decide), h.ne1, h.ne2, h.ne3, h.hbw, h.hbm, h.hgt, by have := h.hB; omega, h.hn, h.lv, by simp; omega, h.lr⟩, ?_⟩
  · exact World.cell?_setCell_same _ _ _ (hg.cell (g0.cell h.m2 (by simp)) (hlow bm h.hbm))
  · rw [lstCells_snoc, List.length_append]
    exact hown.kept gs (own_ne_low hown h.hbm)
  · rcases List.mem_append.1 hl with hl | hl
    · exact keep (h.li l hl) (by decide)
    · obtain rfl : l = x := by simpa using hl
      exact keep hp (by decide)
  · refine (((ButB.refl B [bw, bm] w).grown g0 h.hB (fun _ e => by cases e)).grown hg (by have := h.hB; have := g0.size; omega) (fun k e => .inr ((h.ol.lt _ e).1))).grown gs (by have := h.hB; omega) (fun k e => by cases e; exact .inl (by simp))
end
theorem infoList : (Tryz.prog.info? 178).map (fun i => (i.zero, i.size, i.bytes)) = some (some (.agg #[.string .empty, .slice none 0 0]), 2, 40) := by kernel_rfl
theorem infoInt : (Tryz.prog.info? 3).map (fun i => (i.zero, i.size, i.bytes)) = some (some (.int .i64 0), 1, 8) := by kernel_rfl

def numSt (k : Nat) (n : PTok) (st : FSt) : FSt := flt (outB (intVal n.s) 1000) 5 n.line (flt (decide (20 < (k : Int))) 6 n.line st)
def numsSt : Nat → List PTok → FSt → FSt
  | _, [], st => st
  | k, n :: ns, st => numsSt (k + 1) ns (numSt k n st)
def listSt (vars : List PVar) (lists : List PLst) (nm : PTok) (ns : List PTok) (st : FSt) : FSt :=
  numsSt 1 ns (flt (decide (0 ≤ varX vars nm.s) || decide (0 ≤ lstX lists nm.s)) 4 nm.line st)

/-- what a round carries: the list in the making lies in block bl -/
structure Lc (bw bm bl B' : Nat) (vL : Value) (nums : List Int) (w0 : World) (s : ByteArray) (p : Nat) (kd ln : Int) (w : World) : Prop where
  hB : B' ≤ w.heap.size
  c0 : w.cell? ⟨bl, 0, none⟩ = some (.string s)
  c1 : w.cell? ⟨bl, 1, none⟩ = some vL
  f1 : w.frozen? ⟨bl, 1, none⟩ = false
  own : w.ownsRow B' 3 1 vL nums.length (nums.map (.int .i64))
  bt : But [bw] w0 w
  wk : Wk w bw bm p kd ln
  n1 : bl ≠ bw
  n2 : bl < B'
  n3 : bw < B'
  n4 : w0.heap.size ≤ bl
  n5 : w0.heap.size ≤ B'
section
variable {bw bm bl B' : Nat} {vL : Value} {nums : List Int} {w0 : World} {s : ByteArray} {p : Nat} {kd ln : Int} {w w' : World}
theorem Lc.walk (h : Lc bw bm bl B' vL nums w0 s p kd ln w) (hg : w.grownBy w' (some bw)) {p' : Nat} {kd' ln' : Int} (hW : Wk w' bw bm p' kd' ln') : Lc bw bm bl B' vL nums w0 s p' kd' ln' w' :=
  have n0 : some bl ≠ some bw := by simpa using h.n1
  ⟨Nat.le_trans h.hB hg.size, hg.cell h.c0 n0, hg.cell h.c1 n0, (hg.frozen_far ⟨bl, 1, none⟩ (by have := h.hB; have := h.n2; show bl < _; omega) n0).trans h.f1, h.own.kept hg (own_ne_low h.own h.n3), h.bt.walk hg, hW, h.n1, h.n2, h.n3, h.n4, h.n5⟩
theorem Lc.setI (h : Lc bw bm bl B' vL nums w0 s p kd ln w) (p' : Nat) : Lc bw bm bl B' vL nums w0 s p' kd ln (w.setCell ⟨bw, 1, none⟩ (.int .i64 p')) := h.walk (grown_set _ _ _ _) (h.wk.setI _)
theorem Lc.push (h : Lc bw bm bl B' vL nums w0 s p kd ln w) {wA : World} {v' : Value} {o : Obj} {x : Int}
    (hown : wA.ownsRow B' 3 1 v' (nums.length + 1) (nums.map (.int .i64) ++ [.int .i64 x])) (hg : (w.alloc o).grownBy wA vL.ownBlock) :
    Lc bw bm bl B' v' (nums ++ [x]) w0 s p kd ln (wA.setCell ⟨bl, 1, none⟩ v') := by
  have g0 : w.grownBy (w.alloc o) none := World.grownBy_alloc w o none
  have gs := grown_set wA bl 1 v'
  have n1 : some bl ≠ vL.ownBlock := fun e => by have := (h.own.lt _ e.symm).1; have := h.n2; omega
  have nb : some bw ≠ vL.ownBlock := fun e => by have := (h.own.lt _ e.symm).1; have := h.n3; omega
  have hB := h.hB
  have s0 := g0.size
  have s1 := hg.size
  have hl : bl < (w.alloc o).heap.size := by have := h.n2; omega
  refine ⟨by have := gs.size; omega, (cell_set _ _ _ _ _ _ (by omega)).trans (hg.cell (g0.cell h.c0 (by simp)) n1), World.cell?_setCell_same _ _ _ (hg.cell (g0.cell h.c1 (by simp)) n1),
    (World.frozen?_setCell _ _ _ _).trans ((hg.frozen_far ⟨bl, 1, none⟩ hl n1).trans ((g0.frozen_far ⟨bl, 1, none⟩ (by have := h.n2; show bl < _; omega) (by simp)).trans h.f1)), ?_, ?_,
    ((h.wk.far g0 (by simp)).far hg nb).far gs (by simpa using fun e : bw = bl => h.n1 e.symm), h.n1, h.n2, h.n3, h.n4, h.n5⟩
  · rw [List.length_append, List.map_append]
    exact hown.kept gs (own_ne_low hown h.n2)
  · exact ((h.bt.alloc o).grown hg (fun k e => .inr (by have := (h.own.lt _ e).1; have := h.n5; omega))).set (.inr h.n4) _ _
end
def ListRel (toks : List PTok) (bw bm bl : Nat) (B' i j : Nat) (ST : FSt) (NUMS : List Int) (s : ByteArray) (w0 : World) (n : Nat) (vk : Value) (wr : World) : Prop :=
  ∃ (k p : Nat) (rem : List PTok) (done : List Int) (kd ln : Int) (vL : Value), n = rem.length ∧ vk = .int .i64 k ∧ k ≤ p + 1 ∧ done.length ≤ p ∧ p ≤ j ∧ i ≤ p ∧ (∀ t ∈ rem, IsInt t.s) ∧
    ((k = 1 ∧ ∃ n0 ns, rem = n0 :: ns ∧ toks[p + 2]? = some n0 ∧ SerAt toks (p + 3) ns j) ∨ (1 < k ∧ SerAt toks p rem j)) ∧
    Hid (numsSt k rem (kd, ln) = ST) ∧ Hid (done ++ rem.map (fun t => intVal t.s) = NUMS) ∧ Lc bw bm bl B' vL done w0 s p kd ln wr

theorem lst_one {s : ByteArray} {v : Value} (h : v.oneCell' = true) : ∀ u ∈ [Value.string s, v], u.oneCell' = true := by
  intro u hu; simp at hu; rcases hu with rfl | rfl
  · rfl
  · exact h
theorem int_one (a : Int) : ∀ u ∈ [Value.int .i64 a], u.oneCell' = true := by
  intro u hu; simp at hu; rcases hu with rfl; rfl

set_option maxRecDepth 100000 in
set_option maxHeartbeats 2000000 in
theorem ref_stList (w0 : World) (bw bm gt capt B : Nat) (toks : List PTok) (vv vl vr : Value) (vars : List PVar) (lists : List PLst) (rules : List PRul) (i j : Nat) (kind line : Int) (kw nm n0 : PTok) (ns : List PTok)
    (h : Md w0 bw bm gt capt B toks vv vl vr vars lists rules i kind line) (hk : toks[i]? = some kw) (hks : kw.s = ⟨#[108, 105, 115, 116]⟩) (hnm : toks[i + 1]? = some nm) (hn0 : toks[i + 4]? = some n0) (hns : SerAt toks (i + 5) ns j) (hint : ∀ t ∈ n0 :: ns, IsInt t.s) (hj : j < toks.length) (hend : (peekS toks j).toList ≠ [44]) :
    Calls Tryz.prog 54 #[.pointer (some ⟨bw, 0, none⟩)] w0 fun e w' => e = .returned (.tuple #[]) ∧ ButB B [bw, bm] w0 w' ∧
      ∃ vl' v, Md w' bw bm gt capt B toks vv vl' vr vars (lists ++ [⟨nm.s, (n0 :: ns).map (fun t => intVal t.s), v⟩]) rules (j + 1) (listSt vars lists nm (n0 :: ns) (kind, line)).1 (listSt vars lists nm (n0 :: ns) (kind, line)).2 := by
  obtain ⟨i0, hi0, hz0, hz1, hz2⟩ := info_parts infoList
  obtain ⟨ip, hip, hy0, hy1, hy2⟩ := info_parts infoInt
  obtain ⟨k1, k2, k3⟩ := at_tok hk
  obtain ⟨n1, n2, n3⟩ := at_tok hnm
  have hij := hns.le
  have hn := h.hn
  have c0 := h.wk.c0
  have H0 := hide h
  have hC0 := h.ctx (by omega)
  have hpk := ctx_peek hC0 (by omega)
  rw [k1, hks] at hpk
  have HPK := hide hpk
  have HKK := hide (And.intro n1 n2)
  have HSER := hide (And.intro hn0 (And.intro hns hint))
  have HEND := hide hend
  clear hpk h hC0 k1 k2 n1 n2 hk hnm hks hn0 hns hint hend
  go_enter Tryz.func54, Tryz.ntmps54
  go_wp2_with fail
  refine (unhide HPK).mono ?_
  rintro e w1 ⟨rfl, hg1, hC1⟩
  have HB1 := hide (But.of_grown (S := [bw]) hg1 (fun k e => by cases e; simp))
  obtain ⟨d0, d1, _, _, e1, _, _, _⟩ := hC1.wk
  have HW1 := hide hC1.wk
  clear hg1 hC1 c0 HPK
  go_wp2_with fail
  have HBa := hide ((HB1.out.set (k := bw) (.inl (by simp)) 1 (.int .i64 ((i : Int) + 1))).alloc (.cells #[.int .u8 ((ByteArray.mk #[108, 105, 115, 116])[0].toNat : Int), .slice none 0 0, .string ⟨#[]⟩, .int .i64 0, .int .i64 0, .int .i64 0, .int .i64 0] 176))
  have HWa := hide (((HW1.out.setI ((i : Int) + 1)).far (World.grownBy_alloc _ (.cells #[.int .u8 ((ByteArray.mk #[108, 105, 115, 116])[0].toNat : Int), .slice none 0 0, .string ⟨#[]⟩, .int .i64 0, .int .i64 0, .int .i64 0, .int .i64 0] 176) none) (by simp)))
  generalize ((w1.setCell ⟨bw, 1, none⟩ (.int .i64 ((i : Int) + 1))).alloc (.cells #[.int .u8 ((ByteArray.mk #[108, 105, 115, 116])[0].toNat : Int), .slice none 0 0, .string ⟨#[]⟩, .int .i64 0, .int .i64 0, .int .i64 0, .int .i64 0] 176)) = wa at HBa HWa ⊢
  clear d0 d1 e1 HW1 HB1
  have Ma := H0.out.but (j := i + 1) HBa.out HWa.out (by omega)
  have hd1 := md_declared Ma n3
  rw [HKK.out.1, HKK.out.2] at hd1
  refine hd1.mono ?_
  rintro e wc ⟨rfl, hgc, hWc⟩
  have hBc := HBa.out.walk hgc
  have hltc := hWc.lt
  have hszc := hBc.size
  have g0 := World.grownBy_alloc wc (.cells #[.string nm.s, .slice none 0 0] 178) none
  have e1 := heap_alloc_new wc (.cells #[.string nm.s, .slice none 0 0] 178)
  have hLc : Lc bw bm wc.heap.size (wc.heap.size + 1) (.slice none 0 0) [] w0 nm.s (i + 2) _ _ (wc.alloc (.cells #[.string nm.s, .slice none 0 0] 178)) :=
    ⟨by simp, by simp only [World.cell?, e1]; rfl, by simp only [World.cell?, e1]; rfl, by simp only [World.frozen?, e1]; rfl, World.ownsRow_nil _ _ _ _, hBc.alloc _, hWc.far g0 (by simp), by omega, by omega, by omega, by omega, by omega⟩
  have HSTART : Hid (ListRel toks bw bm wc.heap.size (wc.heap.size + 1) i j (listSt vars lists nm (n0 :: ns) (kind, line)) ((n0 :: ns).map (fun t => intVal t.s)) nm.s w0 (ns.length + 1) (.int .i64 1) (wc.alloc (.cells #[.string nm.s, .slice none 0 0] 178))) :=
    ⟨1, i + 2, n0 :: ns, [], _, _, _, rfl, rfl, by omega, by simp, by omega, by omega, HSER.out.2.2, .inl ⟨rfl, n0, ns, rfl, HSER.out.1, HSER.out.2.1⟩, rfl, rfl, hLc⟩
  have hB0 : B ≤ wc.heap.size + 1 := by have := H0.out.hB; omega
  obtain ⟨ST, hSTd⟩ : ∃ s, listSt vars lists nm (n0 :: ns) (kind, line) = s := ⟨_, rfl⟩
  obtain ⟨NUMS, hPd⟩ : ∃ s, (n0 :: ns).map (fun t => intVal t.s) = s := ⟨_, rfl⟩
  obtain ⟨N, hN⟩ : ∃ n, ns.length + 1 = n := ⟨_, rfl⟩
  obtain ⟨bl, hbl⟩ : ∃ b, wc.heap.size = b := ⟨_, rfl⟩
  obtain ⟨B', hB'⟩ : ∃ b, wc.heap.size + 1 = b := ⟨_, rfl⟩
  rw [hB'] at HSTART hB0
  rw [hSTd, hPd, hN, hbl] at HSTART
  have HFIN := hide (And.intro hSTd hPd)
  clear hLc e1 g0 hBc hWc hgc hd1 Ma HBa HWa hSTd hPd hN hB' HSER hltc hszc
  go_wp2_with fail
  clear hbl
  go_loopg [8] N (fun n vk wr => ListRel toks bw bm bl B' i j ST NUMS nm.s w0 n vk wr)
  case atStart => exact HSTART
  case round =>
    clear HSTART
    obtain ⟨k, p, rem, done, kd, ln, vL, rfl, rfl, hkp, hdl, hpj, hip0, hint, hcase, hST, hPP, hL⟩ := hrel
    have HPI := hide hip0
    have HII := hide hint
    have HL0 := hide hL
    clear hint
    rcases hcase with ⟨rfl, n, ns', rfl, hnp, hser⟩ | ⟨hk1, hser⟩
    · have HNP := hide (And.intro hnp hser)
      have hpl := hser.le
      obtain ⟨d0, d1, _, _, e1, _, _, _⟩ := hL.wk
      have HO1 := hide ((hL.setI (p + 1)).setI (p + 2))
      clear hnp hser hL HL0
      go_wp2_with fail
      rw [show ((p : Int) + 1 + 1) = ((p + 2 : Nat) : Int) by omega, show ((p : Int) + 1) = ((p + 1 : Nat) : Int) by omega]
      generalize ((wr.setCell ⟨bw, 1, none⟩ (.int .i64 ((p + 1 : Nat) : Int))).setCell ⟨bw, 1, none⟩ (.int .i64 ((p + 2 : Nat) : Int))) = wq at HO1 ⊢
      clear d0 d1 e1
      have Mq := H0.out.but (j := p + 2) HO1.out.bt HO1.out.wk (by have := HPI.out; omega)
      obtain ⟨t1, t2, t3⟩ := at_tok HNP.out.1
      have hf := ctx_fault (Mq.ctx (by omega)) t3 (false) 6
      rw [t2] at hf
      refine hf.mono ?_
      rintro e wf ⟨rfl, hgf, hCf⟩
      have HO2 := hide (HO1.out.walk hgf hCf.wk)
      have Mf := H0.out.but (j := p + 2) HO2.out.bt HO2.out.wk (by have := HPI.out; omega)
      have hb := ctx_bounded (Mf.ctx (by omega)) t3 1000 (by omega) (by omega) (by rw [t1]; exact HII.out n (by simp))
      rw [t1, t2] at hb
      have HBD := hide hb
      clear hf hgf hCf Mq Mf hb HO1 t1 t2
      go_wp2_with fail
      refine (unhide HBD).mono ?_
      rintro e wk ⟨rfl, hgk, hCk⟩
      have hO4 := HO2.out.walk hgk hCk.wk
      obtain ⟨X, hX⟩ : ∃ x, intVal n.s = x := ⟨_, rfl⟩
      rw [hX]
      have HX := hide hX
      have r1 := hO4.c1
      have rf1 := hO4.f1
      have hBk : B' ≤ wk.heap.size := hO4.hB
      have hlb : bl < wk.heap.size := by have := hO4.n2; omega
      have HO5 := hide hO4
      have HOWN := hide (hO4.own.alloc (.cells #[.int .i64 X] 3))
      have HNEWS : Hid (∀ jj u, [Value.int .i64 X][jj]? = some u → (wk.alloc (.cells #[.int .i64 X] 3)).cell? ((⟨wk.heap.size, 0, none⟩ : Addr).add jj) = some u) :=
        World.news_of_block (cs := #[.int .i64 X]) (t := 3) (fr := (0, 0)) (heap_alloc_new wk (.cells #[.int .i64 X] 3))
      have HKP : Hid (∀ wA, (wk.alloc (.cells #[.int .i64 X] 3)).grownBy wA vL.ownBlock → wA.cell? ⟨bl, 1, none⟩ = some vL ∧ wA.frozen? ⟨bl, 1, none⟩ = false) := by
        intro wA hg
        have g0 := World.grownBy_alloc wk (.cells #[.int .i64 X] 3) none
        have n1 : some bl ≠ vL.ownBlock := fun e => by have := (HO5.out.own.lt _ e.symm).1; have := HO5.out.n2; omega
        exact ⟨hg.cell (g0.cell HO5.out.c1 (by simp)) n1, (hg.frozen_far ⟨bl, 1, none⟩ (Nat.lt_of_lt_of_le hlb g0.size) n1).trans ((g0.frozen_far ⟨bl, 1, none⟩ hlb (by simp)).trans HO5.out.f1)⟩
      have hdn : done.length ≤ 2000 := by omega
      clear hgk hCk hO4 hX HO2 HBD
      go_wp2_with (at_builtin; go_must (refine wpList_append_lies _ rfl _ _ 33 rfl B' 3 ip (.int .i64 0) 1 8 Tryz.underlying33 hip hy0 hy1 hy2 rfl (by decide) vL done.length (done.map (.int .i64)) rfl HOWN.out ⟨wk.heap.size, 0, none⟩ 1 1 [.int .i64 X] rfl rfl HNEWS.out (int_one _) (by decide) (by unfold maxLen; omega) (by omega) (by simp; omega) _ rfl ?_))
      intro gA capA wA hownA hgrowA hatA hltA
      obtain ⟨q1, q2⟩ := HKP.out wA hgrowA
      have hP := HO5.out.push hownA hgrowA
      have hle := HNP.out.2.le
      have HREL : Hid (ListRel toks bw bm bl B' i j ST NUMS nm.s w0 ns'.length (.int .i64 ((1 + 1 : Nat) : Int)) (wA.setCell ⟨bl, 1, none⟩ (.slice (some ⟨gA, 0, none⟩) (done.length + 1) capA))) :=
        ⟨1 + 1, p + 2 + 1, ns', done ++ [X], _, _, _, rfl, rfl, by omega, by simp; omega, hle, by have := HPI.out; omega, fun t ht => HII.out t (by simp [ht]), .inr ⟨by omega, HNP.out.2⟩, hST.out, by unfold Hid; rw [← hPP.out, ← HX.out]; simp, hP⟩
      clear hP HO5 HOWN HNEWS HKP hownA hgrowA hatA hltA r1 rf1
      go_wp2
      go_roundg ns'.length
      case measure => simp
      case rel => first | exact HREL | (have h1 := HREL.out; simpa using h1)
    · have hk1' : ((k : Int) == 1) = false := by simp; omega
      cases rem with
      | nil =>
        obtain rfl : p = j := hser
        have Mq := H0.out.but (j := p) hL.bt hL.wk (by omega)
        have hp := ctx_peek (Mq.ctx (by omega)) (by omega)
        have HP0 := hide hp
        have hnc : ((peekS toks p).toList == [44]) = false := by simpa using HEND.out
        clear hp Mq
        go_wp2_with fail
        refine (unhide HP0).mono ?_
        rintro e ws ⟨rfl, hgs, hCs⟩
        have hL2 := hL.walk hgs hCs.wk
        obtain ⟨d0, d1, _, _, e1, _, _, _⟩ := hCs.wk
        have HL3 := hide (hL2.setI (p + 1))
        clear hgs hCs hL2 HP0 hL HL0
        go_wp2
        rw [show ((p : Int) + 1) = ((p + 1 : Nat) : Int) by omega]
        generalize (ws.setCell ⟨bw, 1, none⟩ (.int .i64 ((p + 1 : Nat) : Int))) = wj at HL3 ⊢
        clear d0 d1 e1
        have Mj := H0.out.but (j := p + 1) HL3.out.bt HL3.out.wk (by omega)
        have HMj := hide Mj
        have m2 := Mj.m2
        have mf2 := Mj.f2
        have hbl2 := Mj.tk.ltm
        have v0 := HL3.out.c0
        have v1 := HL3.out.c1
        have hlb : bl < wj.heap.size := by have := HL3.out.n2; have := HL3.out.hB; omega
        have HPj := hide (HL3.out.own.mono (base' := B) hB0)
        have HOC : Hid (vL.oneCell' = true) := own_one HPj.out
        have HOWN := hide (Mj.ol.kept ((World.grownBy_alloc wj (.cells #[.string nm.s, vL] 178) none).trans (grown_drew' _ none)) (by cases vl.ownBlock with
          | none => exact .inl rfl
          | some g => exact .inr (by simp)))
        have HNEWS : Hid (∀ jj u, [Value.string nm.s, vL][jj]? = some u → (wj.alloc (.cells #[.string nm.s, vL] 178)).drew.cell? ((⟨wj.heap.size, 0, none⟩ : Addr).add jj) = some u) :=
          World.news_of_block (cs := #[.string nm.s, vL]) (t := 178) (fr := (0, 0)) (heap_alloc_new wj _)
        have KEEP : Hid (∀ wA, (wj.alloc (.cells #[.string nm.s, vL] 178)).drew.grownBy wA vl.ownBlock → wA.frozen? ⟨bm, 2, none⟩ = false ∧ wA.cell? ⟨bm, 2, none⟩ = some vl) := by
          intro wA hg
          have g0 : wj.grownBy (wj.alloc (.cells #[.string nm.s, vL] 178)).drew none := (World.grownBy_alloc wj _ none).trans (grown_drew' _ none)
          have hlow : some bm ≠ vl.ownBlock := fun e => by have := (HMj.out.ol.lt _ e.symm).1; have := HMj.out.hbm; omega
          exact ⟨(hg.frozen_far ⟨bm, 2, none⟩ (Nat.lt_of_lt_of_le HMj.out.tk.ltm g0.size) hlow).trans ((g0.frozen_far ⟨bm, 2, none⟩ HMj.out.tk.ltm (by simp)).trans HMj.out.f2), hg.cell (g0.cell HMj.out.m2 (by simp)) hlow⟩
        have hBs : B ≤ wj.heap.size := Mj.hB
        have hln : lists.length ≤ 2000 := by have := H0.out.ll; omega
        have HNN : Hid (done = NUMS) := by unfold Hid; rw [← hPP.out]; simp
        clear Mj
        go_region_law ((refine step_append_lies _ (by rfl) _ _ 113 (by rfl) B 178 i0 (.agg #[.string .empty, .slice none 0 0]) 2 40 Tryz.underlying113 hi0 hz0 hz1 hz2 rfl (by decide) vl lists.length (lstCells lists) (by rfl) HOWN.out ⟨wj.heap.size, 0, none⟩ 1 1 [.string nm.s, vL] (by rfl) rfl HNEWS.out (lst_one HOC.out) (by decide) (by unfold maxLen; omega) (by omega) (by simp; omega) _ rfl ?_; intro gA capA wA hownA hgrowA hatA hltA; obtain ⟨q1, q2⟩ := KEEP.out wA hgrowA))
        all_goals
          have HP := hide (HMj.out.pushList (x := ⟨nm.s, done, vL⟩) (by have := H0.out.ll; omega) HPj.out hownA hgrowA)
          have HBT := hide HL3.out.bt
          clear HOWN HNEWS KEEP hownA hgrowA hatA hltA m2 mf2 v0 v1 HPj HMj HL3 HOC
          go_wp2
          refine bodyPost_ret (results_none (by first | rfl | kernel_rfl) _ _ _) rfl ?_
          refine ⟨rfl, (HBT.out.toB H0.out.hB (fun k hk => by simp at hk; simp [hk])).trans HP.out.2, ?_⟩
          have h1 := HP.out.1
          rw [HNN.out, ← HFIN.out.2] at h1
          rw [HFIN.out.1, ← hST.out]
          exact ⟨_, _, h1⟩
      | cons n ns' =>
        obtain ⟨⟨c, hc1, hc2⟩, hnp, hser'⟩ := hser
        have hpl := (at_tok hc1).2.2
        have Mq := H0.out.but (j := p) hL.bt hL.wk (by omega)
        have hp := ctx_peek (Mq.ctx (by omega)) (by omega)
        rw [(at_tok hc1).1] at hp
        have HP0 := hide hp
        have hnc : (c.s.toList == [44]) = true := by simpa using hc2
        have HNP := hide (And.intro hnp hser')
        clear hp Mq hc1 hc2 hnp hser'
        go_wp2_with fail
        refine (unhide HP0).mono ?_
        rintro e ws ⟨rfl, hgs, hCs⟩
        have hL2 := hL.walk hgs hCs.wk
        obtain ⟨d0, d1, _, _, e1, _, _, _⟩ := hCs.wk
        have HO1 := hide (hL2.setI (p + 1))
        clear hgs hCs hL2 HP0 hL HL0
        go_wp2_with fail
        rw [show ((p : Int) + 1) = ((p + 1 : Nat) : Int) by omega]
        generalize (ws.setCell ⟨bw, 1, none⟩ (.int .i64 ((p + 1 : Nat) : Int))) = wq at HO1 ⊢
        clear d0 d1 e1
        have Mq := H0.out.but (j := p + 1) HO1.out.bt HO1.out.wk (by have := HPI.out; omega)
        obtain ⟨t1, t2, t3⟩ := at_tok HNP.out.1
        have hf := ctx_fault (Mq.ctx (by omega)) t3 (decide (20 < (k : Int))) 6
        rw [t2] at hf
        refine hf.mono ?_
        rintro e wf ⟨rfl, hgf, hCf⟩
        have HO2 := hide (HO1.out.walk hgf hCf.wk)
        have Mf := H0.out.but (j := p + 1) HO2.out.bt HO2.out.wk (by have := HPI.out; omega)
        have hb := ctx_bounded (Mf.ctx (by omega)) t3 1000 (by omega) (by omega) (by rw [t1]; exact HII.out n (by simp))
        rw [t1, t2] at hb
        have HBD := hide hb
        clear hf hgf hCf Mq Mf hb HO1 t1 t2
        go_wp2_with fail
        refine (unhide HBD).mono ?_
        rintro e wk ⟨rfl, hgk, hCk⟩
        have hO4 := HO2.out.walk hgk hCk.wk
        obtain ⟨X, hX⟩ : ∃ x, intVal n.s = x := ⟨_, rfl⟩
        rw [hX]
        have HX := hide hX
        have r1 := hO4.c1
        have rf1 := hO4.f1
        have hBk : B' ≤ wk.heap.size := hO4.hB
        have hlb : bl < wk.heap.size := by have := hO4.n2; omega
        have HO5 := hide hO4
        have HOWN := hide (hO4.own.alloc (.cells #[.int .i64 X] 3))
        have HNEWS : Hid (∀ jj u, [Value.int .i64 X][jj]? = some u → (wk.alloc (.cells #[.int .i64 X] 3)).cell? ((⟨wk.heap.size, 0, none⟩ : Addr).add jj) = some u) :=
          World.news_of_block (cs := #[.int .i64 X]) (t := 3) (fr := (0, 0)) (heap_alloc_new wk (.cells #[.int .i64 X] 3))
        have HKP : Hid (∀ wA, (wk.alloc (.cells #[.int .i64 X] 3)).grownBy wA vL.ownBlock → wA.cell? ⟨bl, 1, none⟩ = some vL ∧ wA.frozen? ⟨bl, 1, none⟩ = false) := by
          intro wA hg
          have g0 := World.grownBy_alloc wk (.cells #[.int .i64 X] 3) none
          have n1 : some bl ≠ vL.ownBlock := fun e => by have := (HO5.out.own.lt _ e.symm).1; have := HO5.out.n2; omega
          exact ⟨hg.cell (g0.cell HO5.out.c1 (by simp)) n1, (hg.frozen_far ⟨bl, 1, none⟩ (Nat.lt_of_lt_of_le hlb g0.size) n1).trans ((g0.frozen_far ⟨bl, 1, none⟩ hlb (by simp)).trans HO5.out.f1)⟩
        have hdn : done.length ≤ 2000 := by omega
        clear hgk hCk hO4 hX HO2 HBD
        go_wp2_with (at_builtin; go_must (refine wpList_append_lies _ rfl _ _ 33 rfl B' 3 ip (.int .i64 0) 1 8 Tryz.underlying33 hip hy0 hy1 hy2 rfl (by decide) vL done.length (done.map (.int .i64)) rfl HOWN.out ⟨wk.heap.size, 0, none⟩ 1 1 [.int .i64 X] rfl rfl HNEWS.out (int_one _) (by decide) (by unfold maxLen; omega) (by omega) (by simp; omega) _ rfl ?_))
        intro gA capA wA hownA hgrowA hatA hltA
        obtain ⟨q1, q2⟩ := HKP.out wA hgrowA
        have hP := HO5.out.push hownA hgrowA
        have hle := HNP.out.2.le
        have HREL : Hid (ListRel toks bw bm bl B' i j ST NUMS nm.s w0 ns'.length (.int .i64 ((k + 1 : Nat) : Int)) (wA.setCell ⟨bl, 1, none⟩ (.slice (some ⟨gA, 0, none⟩) (done.length + 1) capA))) :=
          ⟨k + 1, p + 1 + 1, ns', done ++ [X], _, _, _, rfl, rfl, by omega, by simp; omega, hle, by have := HPI.out; omega, fun t ht => HII.out t (by simp [ht]), .inr ⟨by omega, HNP.out.2⟩, hST.out, by unfold Hid; rw [← hPP.out, ← HX.out]; simp, hP⟩
        clear hP HO5 HOWN HNEWS HKP hownA hgrowA hatA hltA r1 rf1
        go_wp2
        go_roundg ns'.length
        case measure => simp
        case rel => first | exact HREL | (have h1 := HREL.out; simpa using h1)
end Go.Proofs.YthpcbbnabnlanaaGreatDoor

/-
  The reference's statement, whatever it is: what it does to the model in the making.
-/
namespace Go.Proofs.YthpcbbnabnlanaaGreatDoor
open Go.RowKit
set_option linter.unusedVariables false

/-- a statement's parts, as far as its sort has them: its keyword's token, up to three more, its terms, its names or numbers, its lits -/
structure RSt where
  tag : Nat
  kw : PTok
  a : PTok
  b : PTok
  c : PTok
  ts : List PTerm
  ns : List PTok
  ls : List PLit
/-- a sum's tokens from i on: its terms, its relation, its number; j: behind it -/
def SumAt (toks : List PTok) (i : Nat) (ts : List PTerm) (rel num : PTok) (j : Nat) : Prop :=
  ∃ t r m q, ts = t :: r ∧ TermAt toks i t m ∧ t.neg = false ∧ TermsAt toks m r q ∧ i ≤ q ∧ toks[q]? = some rel ∧ rel.s.toList ≠ [43] ∧ rel.s.toList ≠ [45] ∧ toks[q + 1]? = some num ∧ IsInt num.s ∧ j = q + 2
/-- the statement's tokens stand from i on; j: the place behind them -/
def StAt (toks : List PTok) (i : Nat) (s : RSt) (j : Nat) : Prop :=
  toks[i]? = some s.kw ∧
  match s.tag with
  | 0 => s.kw.s = ⟨#[118, 97, 114]⟩ ∧ toks[i + 1]? = some s.a ∧ toks[i + 3]? = some s.b ∧ IsInt s.b.s ∧ toks[i + 5]? = some s.c ∧ IsInt s.c.s ∧ j = i + 6
  | 1 => s.kw.s = ⟨#[108, 105, 115, 116]⟩ ∧ toks[i + 1]? = some s.a ∧ ∃ n0 r q, s.ns = n0 :: r ∧ toks[i + 4]? = some n0 ∧ SerAt toks (i + 5) r q ∧ (∀ t ∈ n0 :: r, IsInt t.s) ∧ q < toks.length ∧ (peekS toks q).toList ≠ [44] ∧ j = q + 1
  | 2 => s.kw.s = ⟨#[108, 105, 110]⟩ ∧ SumAt toks (i + 1) s.ts s.b s.c j
  | 3 => s.kw.s = ⟨#[119, 104, 101, 110]⟩ ∧ toks[i + 1]? = some s.a ∧ SumAt toks (i + 3) s.ts s.b s.c j
  | 4 => s.kw.s = ⟨#[97, 116]⟩ ∧ toks[i + 1]? = some s.a ∧ toks[i + 3]? = some s.b ∧ toks[i + 6]? = some s.c ∧ j = i + 7
  | 5 => s.kw.s = ⟨#[100, 105, 102, 102]⟩ ∧ ∃ n0 r, s.ns = n0 :: r ∧ toks[i + 1]? = some n0 ∧ SerAt toks (i + 2) r j ∧ j ≤ toks.length ∧ (peekS toks j).toList ≠ [44]
  | 6 => s.kw.s = ⟨#[111, 114]⟩ ∧ ∃ l0 r m, s.ls = l0 :: r ∧ LitAt toks (i + 1) l0 m ∧ SerLit toks m r j ∧ j ≤ toks.length ∧ (peekS toks j).toList ≠ [44]
  | _ => False

/-- a list and a rule without the slices that hold their parts -/
structure SLst where
  name : ByteArray
  nums : List Int
structure SRul where
  sort : Int
  parts : List (Int × Int)
  rel : ByteArray
  n : Int
  v : Int
  w : Int
  x : Int
def PLst.bare (l : PLst) : SLst := ⟨l.name, l.nums⟩
def PRul.bare (r : PRul) : SRul := ⟨r.sort, r.parts, r.rel, r.n, r.v, r.w, r.x⟩
/-- the model so far, plainly -/
structure SMod where
  vars : List PVar
  lists : List SLst
  rules : List SRul
def slstX (lists : List SLst) (s : ByteArray) : Int := findName s (lists.map (·.name)) 0
theorem lstX_bare (l : List PLst) (s : ByteArray) : lstX l s = slstX (l.map PLst.bare) s := by
  unfold lstX slstX lnames
  simp [PLst.bare, Function.comp_def]

/-- the faults of a statement -/
def stSt (M : SMod) (s : RSt) (st : FSt) : FSt :=
  match s.tag with
  | 0 => flt (outB (intVal s.c.s) 1000 || decide (intVal s.c.s < intVal s.b.s)) 5 s.c.line (flt (outB (intVal s.b.s) 1000) 5 s.b.line
      (flt (decide (0 ≤ varX M.vars s.a.s) || decide (0 ≤ slstX M.lists s.a.s)) 4 s.a.line (flt (decide (8 ≤ (M.vars.length : Int))) 6 s.a.line st)))
  | 1 => numsSt 1 s.ns (flt (decide (0 ≤ varX M.vars s.a.s) || decide (0 ≤ slstX M.lists s.a.s)) 4 s.a.line st)
  | 2 => linSt M.vars M.rules.length s.kw s.ts s.c st
  | 3 => whenSt M.vars M.rules.length s.kw s.a s.ts s.c st
  | 4 => flt (decide (varX M.vars s.c.s < 0)) 4 s.c.line (flt (decide (varX M.vars s.b.s < 0)) 4 s.b.line (flt (decide (slstX M.lists s.a.s < 0)) 4 s.a.line (flt (decide (16 ≤ (M.rules.length : Int))) 6 s.kw.line st)))
  | 5 => diffSt M.vars M.rules.length s.kw s.ns st
  | _ => orSt M.vars M.rules.length s.kw s.ls st
/-- what a statement adds -/
def stMod (M : SMod) (s : RSt) : SMod :=
  match s.tag with
  | 0 => { M with vars := M.vars ++ [⟨s.a.s, intVal s.b.s, intVal s.c.s⟩] }
  | 1 => { M with lists := M.lists ++ [⟨s.a.s, s.ns.map fun t => intVal t.s⟩] }
  | 2 => { M with rules := M.rules ++ [⟨105, s.ts.map (termPart M.vars), s.b.s, intVal s.c.s, 0, 0, 0⟩] }
  | 3 => { M with rules := M.rules ++ [⟨119, s.ts.map (termPart M.vars), s.b.s, intVal s.c.s, varX M.vars s.a.s, 0, 0⟩] }
  | 4 => { M with rules := M.rules ++ [⟨97, [], ⟨#[]⟩, 0, varX M.vars s.b.s, varX M.vars s.c.s, slstX M.lists s.a.s⟩] }
  | 5 => { M with rules := M.rules ++ [⟨100, s.ns.map (namePart M.vars), ⟨#[]⟩, 0, 0, 0, 0⟩] }
  | _ => { M with rules := M.rules ++ [⟨111, s.ls.map (litPart M.vars), ⟨#[]⟩, 0, 0, 0, 0⟩] }

/-- the model in memory is this one -/
def MdS (w : World) (bw bm gt capt B : Nat) (toks : List PTok) (M : SMod) (i : Nat) (st : FSt) : Prop :=
  ∃ vv vl vr lists rules, Md w bw bm gt capt B toks vv vl vr M.vars lists rules i st.1 st.2 ∧ lists.map PLst.bare = M.lists ∧ rules.map PRul.bare = M.rules

theorem ref_statement (w0 : World) (bw bm gt capt B : Nat) (toks : List PTok) (M : SMod) (i j : Nat) (st : FSt) (s : RSt) (h : MdS w0 bw bm gt capt B toks M i st) (hs : StAt toks i s j) :
    Calls Tryz.prog 54 #[.pointer (some ⟨bw, 0, none⟩)] w0 fun e w' => e = .returned (.tuple #[]) ∧ ButB B [bw, bm] w0 w' ∧ MdS w' bw bm gt capt B toks (stMod M s) j (stSt M s st) := by
  obtain ⟨vv, vl, vr, lists, rules, h, hl, hr⟩ := h
  obtain ⟨vars, L, R⟩ := M
  simp only at h hl hr
  subst hl hr
  obtain ⟨hk, hs⟩ := hs
  obtain ⟨kd, ln⟩ := st
  obtain ⟨tag, kw, a, b, c, ts, ns, ls⟩ := s
  simp only at hk hs
  split at hs
  · obtain ⟨e1, e2, e3, e4, e5, e6, rfl⟩ := hs
    refine (ref_stVar w0 bw bm gt capt B toks vv vl vr vars lists rules i kd ln kw a b c h hk e1 e2 e3 e4 e5 e6).mono ?_
    rintro e w' ⟨rfl, hb, vv', hM⟩
    exact ⟨rfl, hb, vv', vl, vr, lists, rules, by simpa [stSt, stMod, varSt, lstX_bare] using hM, rfl, rfl⟩
  · obtain ⟨e1, e2, n0, r, q, rfl, e3, e4, e5, e6, e7, rfl⟩ := hs
    refine (ref_stList w0 bw bm gt capt B toks vv vl vr vars lists rules i q kd ln kw a n0 r h hk e1 e2 e3 e4 e5 e6 e7).mono ?_
    rintro e w' ⟨rfl, hb, vl', v, hM⟩
    exact ⟨rfl, hb, vv, vl', vr, _, rules, by simpa [stSt, stMod, listSt, lstX_bare] using hM, by simp [stMod, PLst.bare], rfl⟩
  · obtain ⟨e1, t, r, m, q, rfl, f1, f2, f3, f4, f5, f6, f7, f8, f9, rfl⟩ := hs
    refine (ref_stLin w0 bw bm gt capt B toks vv vl vr vars lists rules i m q kd ln kw t r b c h hk e1 (by omega) f1 f2 f3 f5 f6 f7 f8 f9).mono ?_
    rintro e w' ⟨rfl, hb, vr', pv, hM⟩
    exact ⟨rfl, hb, vv, vl, vr', lists, _, by simpa [stSt, stMod] using hM, rfl, by simp [stMod, PRul.bare]⟩
  · obtain ⟨e1, e2, t, r, m, q, rfl, f1, f2, f3, f4, f5, f6, f7, f8, f9, rfl⟩ := hs
    refine (ref_stWhen w0 bw bm gt capt B toks vv vl vr vars lists rules i m q kd ln kw a t r b c h hk e1 e2 f4 f1 f2 f3 f5 f6 f7 f8 f9).mono ?_
    rintro e w' ⟨rfl, hb, vr', pv, hM⟩
    exact ⟨rfl, hb, vv, vl, vr', lists, _, by simpa [stSt, stMod] using hM, rfl, by simp [stMod, PRul.bare]⟩
  · obtain ⟨e1, e2, e3, e4, rfl⟩ := hs
    refine (ref_stAt w0 bw bm gt capt B toks vv vl vr vars lists rules i kd ln kw a b c h hk e1 e2 e3 e4).mono ?_
    rintro e w' ⟨rfl, hb, vr', hM⟩
    exact ⟨rfl, hb, vv, vl, vr', lists, _, by simpa [stSt, stMod, atSt, lstX_bare] using hM, rfl, by simp [stMod, PRul.bare]⟩
  · obtain ⟨e1, n0, r, rfl, e2, e3, e4, e5⟩ := hs
    refine (ref_stDiff w0 bw bm gt capt B toks vv vl vr vars lists rules i j kd ln kw n0 r h hk e1 e2 e3 e4 e5).mono ?_
    rintro e w' ⟨rfl, hb, vr', pv, hM⟩
    exact ⟨rfl, hb, vv, vl, vr', lists, _, by simpa [stSt, stMod] using hM, rfl, by simp [stMod, PRul.bare]⟩
  · obtain ⟨e1, l0, r, m, rfl, e2, e3, e4, e5⟩ := hs
    refine (ref_stOr w0 bw bm gt capt B toks vv vl vr vars lists rules i j m kd ln kw l0 r h hk e1 e2 e3 e4 e5).mono ?_
    rintro e w' ⟨rfl, hb, vr', pv, hM⟩
    exact ⟨rfl, hb, vv, vl, vr', lists, _, by simpa [stSt, stMod] using hM, rfl, by simp [stMod, PRul.bare]⟩
  · exact hs.elim
end Go.Proofs.YthpcbbnabnlanaaGreatDoor

/-
  The reference's New: too long a text, what is no token, what has no form.
-/
namespace Go.Proofs.YthpcbbnabnlanaaGreatDoor
open Go.RowKit
set_option linter.unusedVariables false
set_option linter.unusedSimpArgs false

theorem tokAt_size (s : ByteArray) (i : Nat) (hi : i < s.size) : (tokAt s i).1 ≤ s.size := by
  have h1 := runTo_size isDigI s (i + 1) (by omega)
  have h2 := runTo_size isAlnI s (i + 1) (by omega)
  have h3 := (sign_size s i hi).1
  unfold tokAt
  repeat' split
  all_goals simp only
  all_goals omega
theorem lexF_len (s : ByteArray) (f : Nat) : ∀ (i line : Nat) (acc : List PTok), acc.length ≤ i → i ≤ s.size → (lexF s f i line acc).2.1.length ≤ s.size := by
  induction f with
  | zero => intro i line acc h1 h2; simp only [lexF]; omega
  | succ f ih =>
    intro i line acc h1 h2
    simp only [lexF]
    by_cases hi : i < s.size
    · rw [if_pos hi]
      split
      · exact ih _ _ _ (by omega) (by omega)
      · split
        · exact ih _ _ _ (by omega) (by omega)
        · split
          · exact ih _ _ _ (by have := runTo_le notNl s i; omega) (runTo_size _ _ _ (by omega))
          · split
            · simp
            · rename_i hne
              exact ih _ _ _ (by have := tokAt_end s i hne; simp; omega) (tokAt_size s i hi)
    · rw [if_neg hi]; simp only; omega
theorem lex_len (s : ByteArray) : (lex s).2.1.length ≤ s.size := lexF_len s s.size 0 1 [] (by simp) (by omega)

/-- the line of a fault of form -/
def formLine (s : ByteArray) (R : Int) : Int := if R < 0 then 1 + (nlTo s s.size : Int) else R
set_option maxRecDepth 100000 in
set_option maxHeartbeats 1000000 in
theorem ref_New_long (s : ByteArray) (w : World) (hs : 2000 < s.size) :
    Calls Tryz.prog 38 #[.string s] w fun e w' => e = .returned (.tuple #[.pointer none, .int .i64 1, .int .i64 0]) ∧ w' = w := by
  have hs' : (2000 : Int) < s.size := by omega
  go_enter Tryz.func38, Tryz.ntmps38
  go_wp2
  go_ret3
  exact ⟨rfl, rfl⟩

set_option maxRecDepth 100000 in
set_option maxHeartbeats 1000000 in
theorem ref_New_tok (s : ByteArray) (w : World) (hs : s.size ≤ 2000) (hb : (lex s).1 ≠ 0) :
    Calls Tryz.prog 38 #[.string s] w fun e w' => e = .returned (.tuple #[.pointer none, .int .i64 2, .int .i64 ((lex s).1 : Int)]) ∧ Below w.heap.size w w' := by
  have hs' : (s.size : Int) ≤ 2000 := by omega
  have hb' : (0 : Int) < ((lex s).1 : Int) := by omega
  have HT := hide (ref_Tokens s w hs)
  generalize (lex s).1 = bad at hb hb' HT ⊢
  go_enter Tryz.func38, Tryz.ntmps38
  go_wp2_with fail
  refine (unhide HT).mono ?_
  rintro e w1 ⟨v, rfl, hown, hbel⟩
  have HB := hide hbel
  clear hown hbel
  go_wp2
  go_ret3
  exact ⟨rfl, HB.out⟩

set_option maxRecDepth 100000 in
set_option maxHeartbeats 1000000 in
theorem ref_New_form (s : ByteArray) (w : World) (hs : s.size ≤ 2000) (hb : (lex s).1 = 0) (f : Nat) (hf : f ≤ 1000000) (R : Int) (hR : formF f [yModel] (lex s).2.1 = some R) (hR0 : R ≠ 0) :
    Calls Tryz.prog 38 #[.string s] w fun e w' => e = .returned (.tuple #[.pointer none, .int .i64 3, .int .i64 (formLine s R)]) ∧ Below w.heap.size w w' := by
  have hs' : (s.size : Int) ≤ 2000 := by omega
  have ht := ref_Tokens s w hs
  rw [hb] at ht
  have HT := hide ht
  have hlen := lex_len s
  have HR := hide hR
  clear ht hb hR
  generalize (lex s).2.1 = toks at *
  have hRb : (R == 0) = false := by simpa using hR0
  go_enter Tryz.func38, Tryz.ntmps38
  go_wp2_with fail
  refine (unhide HT).mono ?_
  rintro e w1 ⟨v, rfl, hown, hbel⟩
  have HB := hide hbel
  have hfm : ∃ gt capt a0, v = .slice a0 toks.length capt ∧ (toks = [] ∨ a0 = some ⟨gt, 0, none⟩) ∧ (toks ≠ [] → gt < w1.heap.size) ∧ ∀ j u, (refCells toks)[j]? = some u → w1.cell? ⟨gt, j, none⟩ = some u := by
    rcases own_cells hown with ⟨h1, h2⟩ | ⟨g, cap, h1, h2, h3, h4⟩
    · have : toks = [] := List.length_eq_zero_iff.1 h1
      exact ⟨0, 0, none, by rw [h2, h1], .inl this, fun h => absurd this h, fun j u hu => by rw [this] at hu; simp [refCells] at hu⟩
    · exact ⟨g, cap, _, h1, .inr rfl, fun _ => h3, h4⟩
  obtain ⟨gt, capt, a0, rfl, f1, f2, f3⟩ := hfm
  have HF := hide (ref_Form toks gt capt a0 f1 w1 (by omega) f2 f3 f hf R HR.out)
  clear hown hbel f1 f2 f3 HT
  go_wp2_with fail
  refine (unhide HF).mono ?_
  rintro e w2 ⟨rfl, hb2⟩
  have HB2 := hide (HB.out.trans (hb2.mono HB.out.size))
  clear hb2 HF HB
  by_cases hneg : R < 0
  · have HRR : Hid (formLine s R = 1 + (nlTo s s.size : Int)) := by unfold Hid formLine; rw [if_pos hneg]
    go_wp2
    go_loop [7, 8] (fun vl vi => ∃ k : Nat, k ≤ s.size ∧ vi = .int .i64 k ∧ vl = .int .i64 (1 + (nlTo s k : Int))) (fun _ vi => s.size - (intOf vi).toNat)
    case atStart => exact ⟨0, by omega, rfl, rfl⟩
    case round =>
      obtain ⟨k, hk, rfl, rfl⟩ := hrel
      have hnl := nlTo_le s k
      by_cases hlt : k < s.size
      · have hbk := bAt_in hlt
        by_cases h10 : bAt s k = 10
        · have c10 : ((s[k].toNat : Int) == 10) = true := by rw [← hbk, h10]; rfl
          have hn : Hid (nlTo s (k + 1) = nlTo s k + 1) := by unfold Hid; simp [nlTo, h10]
          clear hbk h10
          go_wp2
          go_round
          case rel => exact ⟨k + 1, by omega, by go_num, by rw [hn.out]; go_num⟩
          case measure => simp [intOf]; omega
        · have c10 : ((s[k].toNat : Int) == 10) = false := by rw [← hbk]; simpa using h10
          have hn : Hid (nlTo s (k + 1) = nlTo s k) := by unfold Hid; simp [nlTo, h10]
          clear hbk h10
          go_wp2
          go_round
          case rel => exact ⟨k + 1, by omega, by go_num, by rw [hn.out]⟩
          case measure => simp [intOf]; omega
      · obtain rfl : k = s.size := by omega
        go_wp2
        go_ret3
        rw [HRR.out]
        exact ⟨rfl, HB2.out⟩
  · have HRR : Hid (formLine s R = R) := by unfold Hid formLine; rw [if_neg hneg]
    have hneg' : decide (R < 0) = false := by simpa using hneg
    go_wp2
    go_ret3
    rw [HRR.out]
    exact ⟨rfl, HB2.out⟩

/-- statements, each with its semicolon, from i on up to j -/
def StsAt (toks : List PTok) : Nat → List RSt → Nat → Prop
  | i, [], j => i = j
  | i, s :: ss, j => ∃ m, StAt toks i s m ∧ m < j ∧ StsAt toks (m + 1) ss j
/-- they are gone through up to the first fault -/
def runS : List RSt → SMod → FSt → SMod × FSt
  | [], M, st => (M, st)
  | s :: ss, M, st => if st.1 = 0 then runS ss (stMod M s) (stSt M s st) else (M, st)
def NewRel (toks : List PTok) (bw bm gt capt B : Nat) (RES : SMod × FSt) (W : World) (n : Nat) (_v : Value) (wr : World) : Prop :=
  ∃ (i : Nat) (ss : List RSt) (M : SMod) (st : FSt), n = ss.length ∧ i ≤ toks.length ∧ MdS wr bw bm gt capt B toks M i st ∧ StsAt toks i ss toks.length ∧ Hid (runS ss M st = RES) ∧ ButB B [bw, bm] W wr
theorem stAt_lt {toks : List PTok} {i j : Nat} {s : RSt} (h : StAt toks i s j) : i < toks.length := (at_tok h.1).2.2

/-- the walk and the model, new -/
theorem md_new (w : World) (gt capt : Nat) (toks : List PTok) (hn : toks.length ≤ 2000) (hg : gt < w.heap.size) (hrow : ∀ j u, (refCells toks)[j]? = some u → w.cell? ⟨gt, j, none⟩ = some u) :
    MdS ((w.alloc (.cells #[.slice (some ⟨gt, 0, none⟩) toks.length capt, .slice none 0 0, .slice none 0 0, .slice none 0 0] 116)).alloc (.cells #[.pointer (some ⟨w.heap.size, 0, none⟩), .int .i64 0, .int .i64 0, .int .i64 0] 118))
      (w.heap.size + 1) w.heap.size gt capt (w.heap.size + 2) toks ⟨[], [], []⟩ 0 (0, 0) := by
  have e1 : ((w.alloc (.cells #[.slice (some ⟨gt, 0, none⟩) toks.length capt, .slice none 0 0, .slice none 0 0, .slice none 0 0] 116)).alloc (.cells #[.pointer (some ⟨w.heap.size, 0, none⟩), .int .i64 0, .int .i64 0, .int .i64 0] 118)).heap[w.heap.size]? = some (.cells #[.slice (some ⟨gt, 0, none⟩) toks.length capt, .slice none 0 0, .slice none 0 0, .slice none 0 0] 116) := by
    show ((w.heap.push _).push _)[w.heap.size]? = _
    rw [Array.getElem?_push, if_neg (by simp), Array.getElem?_push, if_pos rfl]
  have e2 : ((w.alloc (.cells #[.slice (some ⟨gt, 0, none⟩) toks.length capt, .slice none 0 0, .slice none 0 0, .slice none 0 0] 116)).alloc (.cells #[.pointer (some ⟨w.heap.size, 0, none⟩), .int .i64 0, .int .i64 0, .int .i64 0] 118)).heap[w.heap.size + 1]? = some (.cells #[.pointer (some ⟨w.heap.size, 0, none⟩), .int .i64 0, .int .i64 0, .int .i64 0] 118) := by
    show ((w.heap.push _).push _)[w.heap.size + 1]? = _
    rw [Array.getElem?_push, if_pos (by simp)]
  have g0 := (World.grownBy_alloc w (.cells #[.slice (some ⟨gt, 0, none⟩) toks.length capt, .slice none 0 0, .slice none 0 0, .slice none 0 0] 116) none).trans (World.grownBy_alloc (w.alloc (.cells #[.slice (some ⟨gt, 0, none⟩) toks.length capt, .slice none 0 0, .slice none 0 0, .slice none 0 0] 116)) (.cells #[.pointer (some ⟨w.heap.size, 0, none⟩), .int .i64 0, .int .i64 0, .int .i64 0] 118) none)
  generalize ((w.alloc (.cells #[.slice (some ⟨gt, 0, none⟩) toks.length capt, .slice none 0 0, .slice none 0 0, .slice none 0 0] 116)).alloc (.cells #[.pointer (some ⟨w.heap.size, 0, none⟩), .int .i64 0, .int .i64 0, .int .i64 0] 118)) = W at e1 e2 g0 ⊢
  have hsz : w.heap.size + 1 < W.heap.size := by
    rcases Nat.lt_or_ge (w.heap.size + 1) W.heap.size with h | h
    · exact h
    · rw [Array.getElem?_eq_none h] at e2; cases e2
  have cm : ∀ q u, (#[Value.slice (some ⟨gt, 0, none⟩) toks.length capt, .slice none 0 0, .slice none 0 0, .slice none 0 0] : Array Value)[q]? = some u → W.cell? ⟨w.heap.size, q, none⟩ = some u := fun q u h => by rw [cell_of_row W w.heap.size q _ _ _ e1]; exact h
  have cw : ∀ q u, (#[Value.pointer (some ⟨w.heap.size, 0, none⟩), .int .i64 0, .int .i64 0, .int .i64 0] : Array Value)[q]? = some u → W.cell? ⟨w.heap.size + 1, q, none⟩ = some u := fun q u h => by rw [cell_of_row W (w.heap.size + 1) q _ _ _ e2]; exact h
  have fm : ∀ q, W.frozen? ⟨w.heap.size, q, none⟩ = false := fun q => by simp only [World.frozen?, e1]; simp
  have fw : ∀ q, W.frozen? ⟨w.heap.size + 1, q, none⟩ = false := fun q => by simp only [World.frozen?, e2]; simp
  exact ⟨.slice none 0 0, .slice none 0 0, .slice none 0 0, [], [], ⟨⟨cw 0 _ rfl, cw 1 _ rfl, cw 2 _ rfl, cw 3 _ rfl, fw 1, fw 2, fw 3, hsz⟩, ⟨cm 0 _ rfl, fun j u hu => g0.cell (hrow j u hu) (by simp), by omega, by omega⟩, cm 1 _ rfl, cm 2 _ rfl, cm 3 _ rfl, fm 1, fm 2, fm 3,
    World.ownsRow_nil _ _ _ _, World.ownsRow_nil _ _ _ _, World.ownsRow_nil _ _ _ _, fun l hl => by simp at hl, fun r hr => by simp at hr, by omega, by omega, by omega, by omega, by omega, by omega, by omega, hn, by simp, by simp, by simp⟩, rfl, rfl⟩

set_option maxRecDepth 100000 in
set_option maxHeartbeats 2000000 in
theorem ref_New_ok (s : ByteArray) (w : World) (hs : s.size ≤ 2000) (hb : (lex s).1 = 0) (hne : (lex s).2.1 ≠ []) (f : Nat) (hf : f ≤ 1000000) (hR : formF f [yModel] (lex s).2.1 = some 0) (ss : List RSt) (hss : StsAt (lex s).2.1 0 ss (lex s).2.1.length) :
    Calls Tryz.prog 38 #[.string s] w fun e w' => Below w.heap.size w w' ∧
      (((runS ss ⟨[], [], []⟩ (0, 0)).2.1 ≠ 0 ∧ e = .returned (.tuple #[.pointer none, .int .i64 (runS ss ⟨[], [], []⟩ (0, 0)).2.1, .int .i64 (runS ss ⟨[], [], []⟩ (0, 0)).2.2])) ∨
       ((runS ss ⟨[], [], []⟩ (0, 0)).2.1 = 0 ∧ ∃ bw bm gt capt B i, w.heap.size ≤ bm ∧ w.heap.size ≤ B ∧ e = .returned (.tuple #[.pointer (some ⟨bm, 0, none⟩), .int .i64 0, .int .i64 0]) ∧ MdS w' bw bm gt capt B (lex s).2.1 (runS ss ⟨[], [], []⟩ (0, 0)).1 i (runS ss ⟨[], [], []⟩ (0, 0)).2)) := by
  have hs' : (s.size : Int) ≤ 2000 := by omega
  have ht := ref_Tokens s w hs
  rw [hb] at ht
  have HT := hide ht
  have hlen := lex_len s
  have HR := hide hR
  have HSS := hide hss
  clear ht hb hR hss
  generalize (lex s).2.1 = toks at *
  generalize hRES : runS ss ⟨[], [], []⟩ (0, 0) = RES
  have HRES := hide hRES
  have HNE := hide hne
  clear hRES hne
  go_enter Tryz.func38, Tryz.ntmps38
  go_wp2_with fail
  refine (unhide HT).mono ?_
  rintro e w1 ⟨v, rfl, hown, hbel⟩
  have HB := hide hbel
  obtain ⟨gt, capt, rfl, f1, f3, f4⟩ : ∃ g cap, v = .slice (some ⟨g, 0, none⟩) toks.length cap ∧ w.heap.size ≤ g ∧ g < w1.heap.size ∧ ∀ j u, (refCells toks)[j]? = some u → w1.cell? ⟨g, j, none⟩ = some u := by
    rcases own_cells hown with ⟨h1, h2⟩ | h
    · exact absurd (List.length_eq_zero_iff.1 h1) HNE.out
    · exact h
  have HF := hide (ref_Form toks gt capt _ (.inr rfl) w1 (by omega) (fun _ => f3) f4 f hf 0 HR.out)
  have HG := hide (And.intro f3 f4)
  clear hown hbel f1 f3 f4 HT
  go_wp2_with fail
  refine (unhide HF).mono ?_
  rintro e w2 ⟨rfl, hb2⟩
  have hM := md_new w2 gt capt toks (by omega) (Nat.lt_of_lt_of_le HG.out.1 hb2.size) (fun j u hu => (hb2.cell HG.out.1).trans (HG.out.2 j u hu))
  have HM := hide hM
  have HB2 := hide (HB.out.trans (hb2.mono HB.out.size))
  clear hb2 HF HB HG hM
  have hbl := (HB2.out.alloc HB2.out.size (.cells #[.slice (some ⟨gt, 0, none⟩) toks.length capt, .slice none 0 0, .slice none 0 0, .slice none 0 0] 116)).alloc (by have := HB2.out.size; simp; omega) (.cells #[.pointer (some ⟨w2.heap.size, 0, none⟩), .int .i64 0, .int .i64 0, .int .i64 0] 118)
  have HBL := hide hbl
  have hle := HB2.out.size
  clear hbl HB2
  go_wp2_with fail
  generalize ((w2.alloc (.cells #[.slice (some ⟨gt, 0, none⟩) toks.length capt, .slice none 0 0, .slice none 0 0, .slice none 0 0] 116)).alloc (.cells #[.pointer (some ⟨w2.heap.size, 0, none⟩), .int .i64 0, .int .i64 0, .int .i64 0] 118)) = W at HM HBL ⊢
  generalize w2.heap.size = bm at HM hle ⊢
  have HSTART : Hid (NewRel toks (bm + 1) bm gt capt (bm + 2) RES W ss.length undef W) := ⟨0, ss, _, _, rfl, by omega, HM.out, HSS.out, HRES.out, ButB.refl _ _ _⟩
  clear HM HSS HRES HR
  go_loopg [51] ss.length (fun n v wr => NewRel toks (bm + 1) bm gt capt (bm + 2) RES W n undef wr)
  case atStart => exact HSTART
  case round =>
    clear HSTART
    obtain ⟨i, ss', M, st, rfl, hi, hM, hS, hR, hBB⟩ := hrel
    have HM := hide hM
    have HBB := hide hBB
    obtain ⟨vv, vl, vr, ls, rs, hMd, hx1, hx2⟩ := hM
    obtain ⟨c0, c1, c2, c3, f1, f2, f3, hlt⟩ := hMd.wk
    have hBEL : Hid (Below w.heap.size w wr) := by
      have h1 := HBB.out
      have h2 := HBL.out
      exact ⟨h1.os.trans h2.os, h1.tape.trans h2.tape, h1.output.trans h2.output, Nat.le_trans h2.size h1.size, fun k hk => (h1.block k (by omega) (by simp; omega)).trans (h2.block k hk)⟩
    clear hMd hx1 hx2 hBB
    cases ss' with
    | nil =>
      obtain rfl : i = toks.length := hS
      have HRR : Hid (RES = (M, st)) := hR.out.symm
      clear hR
      by_cases hk : st.1 = 0
      · have hk' : (st.1 == 0) = true := by simpa using hk
        have hk2 : (st.1 != 0) = false := by simp [hk]
        have HK := hide hk
        clear hk
        go_wp2
        go_ret3
        rw [HRR.out]
        exact ⟨hBEL.out, .inr ⟨HK.out, bm + 1, bm, gt, capt, bm + 2, _, hle, by omega, rfl, HM.out⟩⟩
      · have hk' : (st.1 == 0) = false := by simpa using hk
        have HK := hide hk
        clear hk
        go_wp2
        go_quiet (fail)
        go_wp2
        go_ret3
        rw [HRR.out]
        exact ⟨below_drewN hBEL.out _, .inl ⟨HK.out, rfl⟩⟩
    | cons t ss2 =>
      obtain ⟨m, hs1, hs2, hs3⟩ := hS
      have hil := stAt_lt hs1
      have hil' : (i : Int) < toks.length := by omega
      by_cases hk : st.1 = 0
      · have hk' : (st.1 == 0) = true := by simpa using hk
        have HR2 : Hid (runS ss2 (stMod M t) (stSt M t st) = RES) := by
          have := hR.out; unfold runS at this; rw [if_pos hk] at this; exact this
        have HST := hide (ref_statement wr (bm + 1) bm gt capt (bm + 2) toks M i m st t HM.out hs1)
        have HS3 := hide hs3
        clear hR hs1 hs3 hk
        go_wp2_with fail
        refine (unhide HST).mono ?_
        rintro e wa ⟨rfl, hba, hMa⟩
        obtain ⟨vv2, vl2, vr2, ls2, rs2, hMd2, y1, y2⟩ := hMa
        have HMS : Hid (MdS (wa.setCell ⟨bm + 1, 1, none⟩ (.int .i64 ((m : Int) + 1))) (bm + 1) bm gt capt (bm + 2) toks (stMod M t) (m + 1) (stSt M t st)) :=
          ⟨vv2, vl2, vr2, ls2, rs2, hMd2.but ((But.refl [bm + 1] wa).set (.inl (by simp)) _ _) (hMd2.wk.setI _) (by omega), y1, y2⟩
        have HBB2 := hide ((HBB.out.trans hba).grown (grown_set wa (bm + 1) 1 (.int .i64 ((m : Int) + 1))) hMd2.hB (fun k e => by cases e; exact .inl (by simp)))
        clear c0 c1 c2 c3 f1 f2 f3
        obtain ⟨c0, c1, c2, c3, f1, f2, f3, _⟩ := hMd2.wk
        clear hba hMd2 y1 y2 HST
        go_wp2
        go_roundg ss2.length
        case measure => simp
        case rel => exact ⟨m + 1, ss2, stMod M t, stSt M t st, rfl, by omega, HMS.out, HS3.out, HR2.out, HBB2.out⟩
      · have hk' : (st.1 == 0) = false := by simpa using hk
        have HRR : Hid (RES = (M, st)) := by
          have := hR.out; unfold runS at this; rw [if_neg hk] at this; exact this.symm
        clear hR hs1 hs3 hk
        go_wp2
        go_quiet (fail)
        go_wp2
        go_ret3
        rw [HRR.out]
        exact ⟨below_drewN hBEL.out _, .inl ⟨by simpa using hk', rfl⟩⟩

set_option maxRecDepth 100000 in
set_option maxHeartbeats 2000000 in
/-- a text of no token: the model without anything -/
theorem ref_New_empty (s : ByteArray) (w : World) (hs : s.size ≤ 2000) (hb : (lex s).1 = 0) (hne : (lex s).2.1 = []) (f : Nat) (hf : f ≤ 1000000) (hR : formF f [yModel] [] = some 0) :
    Calls Tryz.prog 38 #[.string s] w fun e w' => Below w.heap.size w w' ∧ ∃ bm, w.heap.size ≤ bm ∧ bm < w'.heap.size ∧ e = .returned (.tuple #[.pointer (some ⟨bm, 0, none⟩), .int .i64 0, .int .i64 0]) ∧
      ∃ a0 cap, w'.heap[bm]? = some (.cells #[.slice a0 0 cap, .slice none 0 0, .slice none 0 0, .slice none 0 0] 116) := by
  have hs' : (s.size : Int) ≤ 2000 := by omega
  have ht := ref_Tokens s w hs
  rw [hb, hne] at ht
  have HT := hide ht
  have HR := hide hR
  clear ht hb hR hne
  go_enter Tryz.func38, Tryz.ntmps38
  go_wp2_with fail
  refine (unhide HT).mono ?_
  rintro e w1 ⟨v, rfl, hown, hbel⟩
  have HB := hide hbel
  obtain ⟨a0, cap, rfl⟩ := shape_of hown
  have HF := hide (ref_Form [] 0 cap a0 (.inl rfl) w1 (by simp) (fun h => absurd rfl h) (fun j u hu => by simp [refCells] at hu) f hf 0 HR.out)
  clear hown hbel HT HR
  go_wp2_with fail
  refine (unhide HF).mono ?_
  rintro e w2 ⟨rfl, hb2⟩
  have HB2 := hide (HB.out.trans (hb2.mono HB.out.size))
  have HBL := hide ((HB2.out.alloc HB2.out.size (.cells #[.slice a0 0 cap, .slice none 0 0, .slice none 0 0, .slice none 0 0] 116)).alloc (by have := HB2.out.size; simp; omega) (.cells #[.pointer (some ⟨w2.heap.size, 0, none⟩), .int .i64 0, .int .i64 0, .int .i64 0] 118))
  have hle := HB2.out.size
  have e1 : ((w2.alloc (.cells #[.slice a0 0 cap, .slice none 0 0, .slice none 0 0, .slice none 0 0] 116)).alloc (.cells #[.pointer (some ⟨w2.heap.size, 0, none⟩), .int .i64 0, .int .i64 0, .int .i64 0] 118)).heap[w2.heap.size]? = some (.cells #[.slice a0 0 cap, .slice none 0 0, .slice none 0 0, .slice none 0 0] 116) := by
    show ((w2.heap.push _).push _)[w2.heap.size]? = _
    rw [Array.getElem?_push, if_neg (by simp), Array.getElem?_push, if_pos rfl]
  have hlt : w2.heap.size < ((w2.alloc (.cells #[.slice a0 0 cap, .slice none 0 0, .slice none 0 0, .slice none 0 0] 116)).alloc (.cells #[.pointer (some ⟨w2.heap.size, 0, none⟩), .int .i64 0, .int .i64 0, .int .i64 0] 118)).heap.size := by simp; omega
  have HE := hide (And.intro hlt e1)
  clear hb2 HF HB hlt e1 HB2
  go_wp2_with fail
  go_loopg [51] 0 (fun n v wr => wr = ((w2.alloc (.cells #[.slice a0 0 cap, .slice none 0 0, .slice none 0 0, .slice none 0 0] 116)).alloc (.cells #[.pointer (some ⟨w2.heap.size, 0, none⟩), .int .i64 0, .int .i64 0, .int .i64 0] 118)))
  case atStart => rfl
  case round =>
    subst hrel
    go_wp2
    go_ret3
    exact ⟨HBL.out, _, hle, HE.out.1, rfl, a0, cap, HE.out.2⟩
end Go.Proofs.YthpcbbnabnlanaaGreatDoor
