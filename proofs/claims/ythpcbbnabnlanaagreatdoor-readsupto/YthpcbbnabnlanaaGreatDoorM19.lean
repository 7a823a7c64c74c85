import Derived.Test.YthpcbbnabnlanaaGreatDoorM18
import Derived.Deep.DeepAppendRoom
/-
  The reference's model in the making: its variables, lists and rules, each row in memory of its own; what a statement may turn of them.
-/
namespace Go.Proofs.YthpcbbnabnlanaaGreatDoor
open Go.RowKit
set_option linter.unusedVariables false

/-- a list: its name, its numbers, the slice that holds them -/
structure PLst where
  name : ByteArray
  nums : List Int
  v : Value
/-- a rule: its sort's byte, its parts and the slice that holds them, its relation, its number, its three places -/
structure PRul where
  sort : Int
  parts : List (Int × Int)
  pv : Value
  rel : ByteArray
  n : Int
  v : Int
  w : Int
  x : Int
def varCells (l : List PVar) : List Value := l.flatMap fun x => [.string x.name, .int .i64 x.low, .int .i64 x.high]
def lstCells (l : List PLst) : List Value := l.flatMap fun x => [.string x.name, x.v]
def rulCells (l : List PRul) : List Value := l.flatMap fun r => [.int .u8 r.sort, r.pv, .string r.rel, .int .i64 r.n, .int .i64 r.v, .int .i64 r.w, .int .i64 r.x]
theorem varCells_snoc (l : List PVar) (x : PVar) : varCells (l ++ [x]) = varCells l ++ [.string x.name, .int .i64 x.low, .int .i64 x.high] := by simp [varCells]
theorem lstCells_snoc (l : List PLst) (x : PLst) : lstCells (l ++ [x]) = lstCells l ++ [.string x.name, x.v] := by simp [lstCells]
theorem rulCells_snoc (l : List PRul) (r : PRul) : rulCells (l ++ [r]) = rulCells l ++ [.int .u8 r.sort, r.pv, .string r.rel, .int .i64 r.n, .int .i64 r.v, .int .i64 r.w, .int .i64 r.x] := by simp [rulCells]

theorem varCells_get (l : List PVar) (k : Nat) (x : PVar) (h : l[k]? = some x) :
    (varCells l)[k * 3]? = some (.string x.name) ∧ (varCells l)[k * 3 + 1]? = some (.int .i64 x.low) ∧ (varCells l)[k * 3 + 2]? = some (.int .i64 x.high) := by
  induction l generalizing k with
  | nil => simp at h
  | cons a l ih =>
    cases k with
    | zero => simp at h; subst h; simp [varCells]
    | succ k =>
      have e : varCells (a :: l) = [.string a.name, .int .i64 a.low, .int .i64 a.high] ++ varCells l := rfl
      have h3 := ih k (by simpa using h)
      have e1 : (k + 1) * 3 = k * 3 + 3 := by omega
      rw [e, e1]
      refine ⟨?_, ?_, ?_⟩
      · rw [List.getElem?_append_right (by simp)]; simpa using h3.1
      · rw [List.getElem?_append_right (by simp)]; have := h3.2.1; simpa [show k * 3 + 3 + 1 - 3 = k * 3 + 1 by omega] using this
      · rw [List.getElem?_append_right (by simp)]; have := h3.2.2; simpa [show k * 3 + 3 + 2 - 3 = k * 3 + 2 by omega] using this
theorem lstCells_get (l : List PLst) (k : Nat) (x : PLst) (h : l[k]? = some x) : (lstCells l)[k * 2]? = some (.string x.name) ∧ (lstCells l)[k * 2 + 1]? = some x.v := by
  induction l generalizing k with
  | nil => simp at h
  | cons a l ih =>
    cases k with
    | zero => simp at h; subst h; simp [lstCells]
    | succ k =>
      have e : lstCells (a :: l) = [.string a.name, a.v] ++ lstCells l := rfl
      have h3 := ih k (by simpa using h)
      have e1 : (k + 1) * 2 = k * 2 + 2 := by omega
      rw [e, e1]
      refine ⟨?_, ?_⟩
      · rw [List.getElem?_append_right (by simp)]; simpa using h3.1
      · rw [List.getElem?_append_right (by simp)]; have := h3.2; simpa [show k * 2 + 2 + 1 - 2 = k * 2 + 1 by omega] using this

/-- the cells of an owned row -/
theorem own_cells {w : World} {base n size : Nat} {e : TypeId} {v : Value} {xs : List Value} (h : w.ownsRow base e size v n xs) :
    (n = 0 ∧ v = .slice none 0 0) ∨ ∃ g cap, v = .slice (some ⟨g, 0, none⟩) n cap ∧ base ≤ g ∧ g < w.heap.size ∧ ∀ j u, xs[j]? = some u → w.cell? ⟨g, j, none⟩ = some u := by
  have hc := @World.ownsRow.cells w base e size v n xs h
  have hl := h.lt
  rcases h.2 with ⟨h1, h2⟩ | ⟨g, cap, cur, rfl, h2, h3, h4, _⟩
  · exact .inl ⟨h2, h1⟩
  · refine .inr ⟨g, cap, rfl, h2, (hl g rfl).2, fun j u hu => ?_⟩
    have hadd : (⟨g, 0, none⟩ : Addr).add j = ⟨g, j, none⟩ := by unfold Addr.add; split <;> simp_all
    rw [← hadd]; exact hc rfl j u hu
theorem own_vars {w : World} {base : Nat} {v : Value} {vars : List PVar} (h : w.ownsRow base 119 3 v vars.length (varCells vars)) : VarsAt w v vars := by
  rcases own_cells h with ⟨h1, h2⟩ | ⟨g, cap, h1, _, _, h2⟩
  · exact .inl ⟨List.length_eq_zero_iff.1 h1, h2⟩
  · exact .inr ⟨g, cap, h1, fun k x hx => ⟨h2 _ _ (varCells_get vars k x hx).1, h2 _ _ (varCells_get vars k x hx).2.1, h2 _ _ (varCells_get vars k x hx).2.2⟩⟩
def lnames (l : List PLst) : List ByteArray := l.map (·.name)
theorem own_lists {w : World} {base : Nat} {v : Value} {l : List PLst} (h : w.ownsRow base 178 2 v l.length (lstCells l)) : NamesAt w v 2 (lnames l) := by
  rcases own_cells h with ⟨h1, h2⟩ | ⟨g, cap, h1, _, _, h2⟩
  · exact .inl ⟨by rw [List.length_eq_zero_iff.1 h1]; rfl, h2⟩
  · refine .inr ⟨g, cap, by simpa [lnames] using h1, fun k a ha => ?_⟩
    simp only [lnames, List.getElem?_map, Option.map_eq_some_iff] at ha
    obtain ⟨x, hx, rfl⟩ := ha
    exact h2 _ _ (lstCells_get l k x hx).1
/-- the place of a name among the lists -/
def lstX (lists : List PLst) (s : ByteArray) : Int := findName s (lnames lists) 0

/-- the model in the making, between two statements -/
structure Md (w : World) (bw bm gt capt B : Nat) (toks : List PTok) (vv vl vr : Value) (vars : List PVar) (lists : List PLst) (rules : List PRul) (i : Nat) (kind line : Int) : Prop where
  wk : Wk w bw bm i kind line
  tk : Tk w bm gt capt toks
  m1 : w.cell? ⟨bm, 1, none⟩ = some vv
  m2 : w.cell? ⟨bm, 2, none⟩ = some vl
  m3 : w.cell? ⟨bm, 3, none⟩ = some vr
  f1 : w.frozen? ⟨bm, 1, none⟩ = false
  f2 : w.frozen? ⟨bm, 2, none⟩ = false
  f3 : w.frozen? ⟨bm, 3, none⟩ = false
  ov : w.ownsRow B 119 3 vv vars.length (varCells vars)
  ol : w.ownsRow B 178 2 vl lists.length (lstCells lists)
  orr : w.ownsRow B 176 7 vr rules.length (rulCells rules)
  li : ∀ l ∈ lists, w.ownsRow B 3 1 l.v l.nums.length (l.nums.map (.int .i64))
  ri : ∀ r ∈ rules, w.ownsRow B 183 2 r.pv r.parts.length (partCells r.parts)
  ne1 : bm ≠ bw
  ne2 : gt ≠ bw
  ne3 : gt ≠ bm
  hbw : bw < B
  hbm : bm < B
  hgt : gt < B
  hB : B ≤ w.heap.size
  hn : toks.length ≤ 2000
  lv : vars.length ≤ i
  ll : lists.length ≤ i
  lr : rules.length ≤ i
section
variable {w w' w0 : World} {bw bm gt capt B : Nat} {toks : List PTok} {vv vl vr : Value} {vars : List PVar} {lists : List PLst} {rules : List PRul} {i : Nat} {kind line : Int}
theorem Md.ctx (h : Md w bw bm gt capt B toks vv vl vr vars lists rules i kind line) (hi : i ≤ 4000) : Ctx w bw bm gt capt toks vv vars i kind line :=
  ⟨h.wk, h.tk, h.m1, own_vars h.ov, fun e => by have := (h.ov.lt _ e).1; have := h.hbw; omega, h.ne1, h.ne2, h.hn, by have := h.lv; omega, fun b e => (h.ov.lt _ e).2⟩
/-- a row of the model's, behind what writes the walk's struct and new blocks alone -/
theorem own_but {e : TypeId} {size n : Nat} {v : Value} {xs : List Value} {S : List Nat} (h : w0.ownsRow B e size v n xs) (hb : But S w0 w) (hS : ∀ k, k ∈ S → k < B) : w.ownsRow B e size v n xs := by
  obtain ⟨h1, h2⟩ := h
  refine ⟨h1, ?_⟩
  rcases h2 with h2 | ⟨g, cap, cur, hv, hg, hh, r⟩
  · exact .inl h2
  · have hgl : g < w0.heap.size := by
      rcases Nat.lt_or_ge g w0.heap.size with hl | hl
      · exact hl
      · rw [Array.getElem?_eq_none hl] at hh; cases hh
    exact .inr ⟨g, cap, cur, hv, hg, by rw [hb.block g hgl (fun e => by have := hS g e; omega)]; exact hh, r⟩
theorem Md.but (h : Md w0 bw bm gt capt B toks vv vl vr vars lists rules i kind line) (hb : But [bw] w0 w) {j : Nat} {k l : Int} (hW : Wk w bw bm j k l) (hij : i ≤ j) : Md w bw bm gt capt B toks vv vl vr vars lists rules j k l := by
  have hS : ∀ k, k ∈ [bw] → k < B := fun k hk => by have := h.hbw; simp at hk; omega
  have nm : bm ∉ [bw] := by simpa using h.ne1
  have ng : gt ∉ [bw] := by simpa using h.ne2
  have fz : ∀ q, w.frozen? ⟨bm, q, none⟩ = w0.frozen? ⟨bm, q, none⟩ := fun q => World.frozen?_of_block (hb.block bm h.tk.ltm nm)
  exact ⟨hW, ⟨(hb.cell h.tk.ltm nm 0).trans h.tk.m0, fun j u hu => (hb.cell h.tk.ltg ng j).trans (h.tk.row j u hu), Nat.lt_of_lt_of_le h.tk.ltm hb.size, Nat.lt_of_lt_of_le h.tk.ltg hb.size⟩,
    (hb.cell h.tk.ltm nm 1).trans h.m1, (hb.cell h.tk.ltm nm 2).trans h.m2, (hb.cell h.tk.ltm nm 3).trans h.m3, (fz 1).trans h.f1, (fz 2).trans h.f2, (fz 3).trans h.f3,
    own_but h.ov hb hS, own_but h.ol hb hS, own_but h.orr hb hS, fun l hl => own_but (h.li l hl) hb hS, fun r hr => own_but (h.ri r hr) hb hS, h.ne1, h.ne2, h.ne3, h.hbw, h.hbm, h.hgt, Nat.le_trans h.hB hb.size, h.hn,
    by have := h.lv; omega, by have := h.ll; omega, by have := h.lr; omega⟩
theorem But.of_grown {S : List Nat} {row : Option Nat} (hg : w.grownBy w' row) (hr : ∀ k, row = some k → k ∈ S) : But S w w' := (But.refl S w).grown hg (fun k e => .inl (hr k e))
theorem But.walk (h : But [bw] w0 w) (hg : w.grownBy w' (some bw)) : But [bw] w0 w' := h.grown hg (fun k e => by cases e; exact .inl (by simp))
/-- a callee that turns a block made since -/
theorem But.sub {S S' : List Nat} (h : But S w0 w) (k : But S' w w') (hs : ∀ b, b ∈ S' → b ∈ S ∨ w0.heap.size ≤ b) : But S w0 w' :=
  ⟨k.os.trans h.os, k.tape.trans h.tape, k.output.trans h.output, Nat.le_trans h.size k.size, fun b hb hn =>
    (k.block b (Nat.lt_of_lt_of_le hb h.size) (fun e => by rcases hs b e with q | q; exact hn q; omega)).trans (h.block b hb hn)⟩
/-- declared, with the lists -/
theorem md_declared (h : Md w bw bm gt capt B toks vv vl vr vars lists rules i kind line) (hi : i < toks.length) :
    Calls Tryz.prog 97 #[.pointer (some ⟨bw, 0, none⟩)] w fun e w' => e = .returned (.string (peekS toks i)) ∧ w.grownBy w' (some bw) ∧
      Wk w' bw bm ((i + 1 : Nat) : Int) (fKind (decide (0 ≤ varX vars (peekS toks i)) || decide (0 ≤ lstX lists (peekS toks i))) 4 kind) (fLine (decide (0 ≤ varX vars (peekS toks i)) || decide (0 ≤ lstX lists (peekS toks i))) kind (lineAt toks i) line) := by
  have hn := h.hn
  have l1 := h.lv
  have l2 := h.ll
  exact ref_declared toks i kind line bw bm gt capt vv vl (namesOf vars) (lnames lists) w h.hn hi h.ne1 h.ne2 (by simp [namesOf]; omega) (by simp [lnames]; omega) ⟨h.m1, h.m2⟩ ⟨(own_vars h.ov).names, own_lists h.ol⟩
    ⟨fun e => by have := (h.ov.lt _ e).1; have := h.hbw; omega, fun e => by have := (h.ol.lt _ e).1; have := h.hbw; omega⟩ h.wk h.tk

/-- below B w' is w but for the blocks of S -/
structure ButB (B : Nat) (S : List Nat) (w w' : World) : Prop where
  os : w'.os = w.os
  tape : w'.tape = w.tape
  output : w'.output = w.output
  size : w.heap.size ≤ w'.heap.size
  block : ∀ k, k < B → k ∉ S → w'.heap[k]? = w.heap[k]?
theorem ButB.refl (B : Nat) (S : List Nat) (w : World) : ButB B S w w := ⟨rfl, rfl, rfl, Nat.le_refl _, fun _ _ _ => rfl⟩
theorem ButB.trans {B : Nat} {S : List Nat} {a b c : World} (h : ButB B S a b) (k : ButB B S b c) : ButB B S a c :=
  ⟨k.os.trans h.os, k.tape.trans h.tape, k.output.trans h.output, Nat.le_trans h.size k.size, fun i hi hn => (k.block i hi hn).trans (h.block i hi hn)⟩
theorem But.toB {S S' : List Nat} (h : But S w0 w) (hB : B ≤ w0.heap.size) (hs : ∀ k, k ∈ S → k ∈ S') : ButB B S' w0 w := ⟨h.os, h.tape, h.output, h.size, fun k hk hn => h.block k (by omega) (fun e => hn (hs k e))⟩
theorem ButB.grown {S : List Nat} {row : Option Nat} (h : ButB B S w0 w) (hg : w.grownBy w' row) (hB : B ≤ w.heap.size) (hr : ∀ k, row = some k → k ∈ S ∨ B ≤ k) : ButB B S w0 w' :=
  ⟨hg.os.trans h.os, hg.tape.trans h.tape, hg.output.trans h.output, Nat.le_trans h.size hg.size, fun i hi hn =>
    (hg.block i (by omega) (fun e => by rcases hr i e.symm with q | q; exact hn q; omega)).trans (h.block i hi hn)⟩

/-- rows of different elements lie in different blocks -/
theorem own_ne {B' : Nat} {e e' : TypeId} {s s' n n' : Nat} {v v' : Value} {xs xs' : List Value} (h : w.ownsRow B e s v n xs) (h' : w.ownsRow B' e' s' v' n' xs') (he : e ≠ e') : v.ownBlock = none ∨ v.ownBlock ≠ v'.ownBlock := by
  rcases h.2 with ⟨rfl, _⟩ | ⟨g, cap, cur, rfl, _, h3, _⟩
  · exact .inl rfl
  · right
    intro e1
    rcases h'.2 with ⟨rfl, _⟩ | ⟨g', cap', cur', rfl, _, h3', _⟩
    · cases e1
    · have : g = g' := Option.some.inj e1
      subst this
      rw [h3] at h3'
      cases h3'
      exact he rfl
theorem own_ne_low {e : TypeId} {s n b : Nat} {v : Value} {xs : List Value} (h : w.ownsRow B e s v n xs) (hb : b < B) : v.ownBlock = none ∨ v.ownBlock ≠ some b := by
  cases hv : v.ownBlock with
  | none => exact .inl rfl
  | some g => exact .inr (fun e => by have := (h.lt _ hv).1; cases e; omega)
/-- a variable more: behind the append and the store of the new slice -/
theorem Md.pushVar (h : Md w bw bm gt capt B toks vv vl vr vars lists rules i kind line) {o : Obj} {wA : World} {v' : Value} {x : PVar} (hi : vars.length + 1 ≤ i)
    (hown : wA.ownsRow B 119 3 v' (vars.length + 1) (varCells vars ++ [.string x.name, .int .i64 x.low, .int .i64 x.high])) (hg : (w.alloc o).drew.grownBy wA vv.ownBlock) :
    Md (wA.setCell ⟨bm, 1, none⟩ v') bw bm gt capt B toks v' vl vr (vars ++ [x]) lists rules i kind line ∧ ButB B [bw, bm] w (wA.setCell ⟨bm, 1, none⟩ v') := by
  have g0 : w.grownBy (w.alloc o).drew none := (World.grownBy_alloc w o none).trans (grown_drew' _ none)
  have gs := grown_set wA bm 1 v'
  have hlow : ∀ b, b < B → some b ≠ vv.ownBlock := fun b hb e => by have := (h.ov.lt _ e.symm).1; omega
  have nn : ∀ {v : Value}, v.ownBlock = none ∨ v.ownBlock ≠ none := fun {v} => by cases v.ownBlock with
    | none => exact .inl rfl
    | some g => exact .inr (by simp)
  have keep : ∀ {e : TypeId} {s n : Nat} {v : Value} {xs : List Value}, w.ownsRow B e s v n xs → e ≠ 119 → (wA.setCell ⟨bm, 1, none⟩ v').ownsRow B e s v n xs := fun {e s n v xs} ho he =>
    have h1 := ho.kept g0 nn
    have h2 := h1.kept hg (own_ne ho h.ov he)
    h2.kept gs (own_ne_low h2 h.hbm)
  have cell : ∀ b q u, b < B → b ≠ bm → w.cell? ⟨b, q, none⟩ = some u → (wA.setCell ⟨bm, 1, none⟩ v').cell? ⟨b, q, none⟩ = some u := fun b q u hb hn hu =>
    gs.cell (hg.cell (g0.cell hu (by simp)) (hlow b hb)) (by simpa using hn)
  have cellm : ∀ q u, q ≠ 1 → w.cell? ⟨bm, q, none⟩ = some u → (wA.setCell ⟨bm, 1, none⟩ v').cell? ⟨bm, q, none⟩ = some u := fun q u hq hu =>
    (cell_set _ _ _ _ _ _ (.inr hq)).trans (hg.cell (g0.cell hu (by simp)) (hlow bm h.hbm))
  have hsz : w.heap.size ≤ wA.heap.size := Nat.le_trans g0.size hg.size
  have frA : ∀ q, wA.frozen? ⟨bm, q, none⟩ = w.frozen? ⟨bm, q, none⟩ := fun q =>
    (hg.frozen_far ⟨bm, q, none⟩ (Nat.lt_of_lt_of_le h.tk.ltm g0.size) (hlow bm h.hbm)).trans (g0.frozen_far ⟨bm, q, none⟩ h.tk.ltm (by simp))
  have fr : ∀ q, (wA.setCell ⟨bm, 1, none⟩ v').frozen? ⟨bm, q, none⟩ = w.frozen? ⟨bm, q, none⟩ := fun q => (World.frozen?_setCell _ _ _ _).trans (frA q)
  have hwk : Wk (wA.setCell ⟨bm, 1, none⟩ v') bw bm i kind line := by
    have n1 := hlow bw h.hbw
    have n2 : some bw ≠ some bm := by simpa using fun e : bw = bm => h.ne1 e.symm
    have f0 : ∀ q, (wA.setCell ⟨bm, 1, none⟩ v').frozen? ⟨bw, q, none⟩ = w.frozen? ⟨bw, q, none⟩ := fun q =>
      (World.frozen?_setCell _ _ _ _).trans ((hg.frozen_far ⟨bw, q, none⟩ (Nat.lt_of_lt_of_le h.wk.lt g0.size) n1).trans (g0.frozen_far ⟨bw, q, none⟩ h.wk.lt (by simp)))
    exact ⟨cell bw 0 _ h.hbw (fun e => h.ne1 e.symm) h.wk.c0, cell bw 1 _ h.hbw (fun e => h.ne1 e.symm) h.wk.c1, cell bw 2 _ h.hbw (fun e => h.ne1 e.symm) h.wk.c2, cell bw 3 _ h.hbw (fun e => h.ne1 e.symm) h.wk.c3,
      (f0 1).trans h.wk.f1, (f0 2).trans h.wk.f2, (f0 3).trans h.wk.f3, by have := h.wk.lt; simp [World.setCell]; omega⟩
  have hszs : (wA.setCell ⟨bm, 1, none⟩ v').heap.size = wA.heap.size := by simp [World.setCell]
  refine ⟨⟨hwk, ⟨cellm 0 _ (by omega) h.tk.m0, fun j u hu => cell gt j u h.hgt h.ne3 (h.tk.row j u hu), by have := h.tk.ltm; omega, by have := h.tk.ltg; omega⟩, ?_, cellm 2 _ (by omega) h.m2, cellm 3 _ (by omega) h.m3, (fr 1).trans h.f1, (fr 2).trans h.f2, (fr 3).trans h.f3, ?_,
    keep h.ol (by decide), keep h.orr (by decide), fun l hl => keep (h.li l hl) (by decide), fun r hr => keep (h.ri r hr) (by decide), h.ne1, h.ne2, h.ne3, h.hbw, h.hbm, h.hgt, by have := h.hB; omega, h.hn, by simp; omega, h.ll, h.lr⟩, ?_⟩
  · exact World.cell?_setCell_same _ _ _ (hg.cell (g0.cell h.m1 (by simp)) (hlow bm h.hbm))
  · rw [varCells_snoc, List.length_append]
    exact hown.kept gs (own_ne_low hown h.hbm)
  · refine (((ButB.refl B [bw, bm] w).grown g0 h.hB (fun _ e => by cases e)).grown hg (by have := h.hB; have := g0.size; omega) (fun k e => .inr ((h.ov.lt _ e).1))).grown gs (by have := h.hB; omega) (fun k e => by cases e; exact .inl (by simp))
end
end Go.Proofs.YthpcbbnabnlanaaGreatDoor

/-
  The law's memory: its struct, the models, the lists that came out; what leaves it as it was.
-/
namespace Go.Proofs.YthpcbbnabnlanaaGreatDoor
open Go.RowKit
set_option linter.unusedVariables false

/-- an append, as the law on it says it -/
def Grew (w : World) (v v' : Value) (w' : World) : Prop := (v'.ownBlock = v.ownBlock ∧ w.grownBy w' v.ownBlock) ∨ (v'.ownBlock = some w.heap.size ∧ w.grownBy w' none)
/-- append onto a row of one's own: in its block, or in a new one, the old one as it was -/
theorem run_append_two (w : World) (base : Nat) (t ty e : TypeId) (i : TypeInfo) (z : Value) (size bytes : Nat) (ht : Tryz.prog.underlying t = some (.slice e)) (hi : Tryz.prog.info? e = some i) (hz : i.zero = some z)
    (hsize : i.size = size) (hby : i.bytes = bytes) (hzs : z.cells.size = size) (hsz : 0 < size) (v : Value) (n : Nat) (xs : List Value) (hown : w.ownsRow base e size v n xs)
    (a : Addr) (m c : Nat) (news : List Value) (hl : news.length = m * size) (hnews : ∀ j u, news[j]? = some u → w.cell? (a.add j) = some u) (h1 : ∀ u ∈ news, u.oneCell' = true)
    (h63 : n + m ≤ maxLen) (hbytes : (n + m) * bytes ≤ 140737488355328) (hbase : base ≤ w.heap.size) :
    ∃ v' w', (Builtin.append_ #[t, t] ty #[v, .slice (some a) m c]).run Tryz.prog w = .ok v' w' ∧ w'.ownsRow base e size v' (n + m) (xs ++ news) ∧
      ((v'.ownBlock = v.ownBlock ∧ w.grownBy w' v.ownBlock) ∨ (v'.ownBlock = some w.heap.size ∧ w.grownBy w' none)) := by
  obtain ⟨v', w', hr, h2, h3, h4, h5⟩ := run_append_own_at (P := Tryz.prog) w base t ty e i z size bytes ht hi hz hsize hby hzs hsz v n xs hown a m c news hl hnews h1 h63 hbytes hbase
  refine ⟨v', w', hr, h2, ?_⟩
  rcases hown.2 with ⟨rfl, rfl⟩ | ⟨g, cap, cur, rfl, hb, hg, hnc, hcm, hcs, htake⟩
  · rcases h5 with h5 | h5
    · exact .inl ⟨h5, h3⟩
    · exact .inr ⟨h5, h3⟩
  · by_cases hroom : n + m ≤ cap
    · obtain ⟨w2, hr2, _, hg2⟩ := run_append_own_spare (P := Tryz.prog) w base t ty e i size ht hi hsize g n cap xs hown a m c news hl hnews h1 hroom
      rw [hr2] at hr
      injection hr with e1 e2
      subst e1 e2
      exact .inl ⟨rfl, hg2⟩
    · have hsmall : n + m ≤ 9223372036854775807 := by simp only [maxLen] at h63; omega
      have hold : ∀ j u, xs[j]? = some u → w.cell? ((⟨g, 0, none⟩ : Addr).add j) = some u := hown.cells (g := g) rfl
      subst hsize hby
      have hr2 := run_append_grow (P := Tryz.prog) w t ty e i z ht hi hz ⟨g, 0, none⟩ n cap xs hown.1 hold a m c news hl hnews (by omega) (by omega) (growslice_fits (by omega) hbytes)
      rw [hr2] at hr
      injection hr with e1 e2
      subst e1 e2
      exact .inr ⟨rfl, (grown_drew' w none).trans (World.grownBy_alloc _ _ _)⟩
/-- the same, in a walk -/
theorem wpList_append_two {w : World} {ops : Array Oper} {rest : List Oper} {o : Oper} {a : Act} {Q : Exit → Act → World → Prop} (hgd : o.guard = none) (s x : Operand) (t : TypeId)
    (ho : o.op = .call { callee := .builtin .append, args := #[s, x], argTypes := #[t, t] })
    (base : Nat) (e : TypeId) (i : TypeInfo) (z : Value) (size bytes : Nat) (ht : Tryz.prog.underlying t = some (.slice e)) (hi : Tryz.prog.info? e = some i) (hz : i.zero = some z)
    (hsize : i.size = size) (hby : i.bytes = bytes) (hzs : z.cells.size = size) (hsz : 0 < size) (v : Value) (n : Nat) (xs : List Value) (hs : a.eval s = v) (hown : w.ownsRow base e size v n xs)
    (ad : Addr) (m c : Nat) (news : List Value) (hx : a.eval x = .slice (some ad) m c) (hl : news.length = m * size) (hnews : ∀ j u, news[j]? = some u → w.cell? (ad.add j) = some u) (h1 : ∀ u ∈ news, u.oneCell' = true)
    (h63 : n + m ≤ maxLen) (hbytes : (n + m) * bytes ≤ 140737488355328) (hbase : base ≤ w.heap.size)
    (h : ∀ v' w', w'.ownsRow base e size v' (n + m) (xs ++ news) → Grew w v v' w' → wpList Tryz.prog ops Q rest (a.put o.dst v') w') :
    wpList Tryz.prog ops Q (o :: rest) a w := by
  refine wpList_plain hgd fun K hK => ?_
  obtain ⟨v', w', hr, h2, h3⟩ := run_append_two w base t o.type e i z size bytes ht hi hz hsize hby hzs hsz v n xs hown ad m c news hl hnews h1 h63 hbytes hbase
  unfold Oper.wp execOp
  simp only [ho, resolve, invoke, builtin, Sem.run_bind, Sem.run_pure, Result.andThen_ok, List.map_toArray, List.map_cons, List.map_nil, hs, hx, hr]
  exact hK _ _ (h v' w' h2 h3)

/-- what must stay: a fact about some blocks -/
structure Keep where
  S : List Nat
  P : World → Prop
  ok : ∀ w w' : World, (∀ k ∈ S, w'.heap[k]? = w.heap[k]?) → P w → P w'
/-- a list that came out: each cell of it has its mark -/
structure LP where
  g : Nat
  len : Nat
  cap : Nat
  mark : Value
def LP.v (x : LP) : Value := .slice (some ⟨x.g, 0, none⟩) x.len x.cap
def ListAt (w : World) (x : LP) : Prop := ∀ j, j < x.len → w.cell? ⟨x.g, j, none⟩ = some x.mark
def lstKeep (x : LP) : Keep := ⟨[x.g], fun w => ListAt w x, fun w w' h q j hj => (World.cell?_of_block (a := ⟨x.g, j, none⟩) (h x.g (by simp))).trans (q j hj)⟩
/-- a model of the program: its struct, the checker's, the row of its variables -/
structure ProgAt (w : World) (b bc gr : Nat) (vp : Value) (l : List QVar) (s : ByteArray) : Prop where
  p0 : w.cell? ⟨b, 0, none⟩ = some (.string ⟨(plainT (progToks s)).toArray⟩)
  p1 : w.cell? ⟨b, 1, none⟩ = some (.pointer (some ⟨bc, 1, none⟩))
  p2 : w.cell? ⟨bc, 1, none⟩ = some vp
  p3 : (l = [] ∧ ∃ a c, vp = .slice a 0 c) ∨ (∃ cap, vp = .slice (some ⟨gr, 0, none⟩) l.length cap ∧ ∀ j u, (l.flatMap qvCell)[j]? = some u → w.cell? ⟨gr, j, none⟩ = some u)
/-- a model of the reference -/
structure RefAt (w : World) (r gv : Nat) (vr : Value) (l : List QVar) : Prop where
  r1 : w.cell? ⟨r, 1, none⟩ = some vr
  r2 : (l = [] ∧ vr = .slice none 0 0) ∨ ∃ cap, vr = .slice (some ⟨gv, 0, none⟩) l.length cap ∧ ∀ k a, l[k]? = some a → w.cell? ⟨gv, k * 3, none⟩ = some (.string a.name)
theorem ProgAt.turn {w w' : World} {b bc gr : Nat} {vp : Value} {l : List QVar} {s : ByteArray} (h : ∀ k ∈ [b, bc, gr], w'.heap[k]? = w.heap[k]?) (q : ProgAt w b bc gr vp l s) : ProgAt w' b bc gr vp l s := by
  have key : ∀ k ∈ [b, bc, gr], ∀ o, w'.cell? ⟨k, o, none⟩ = w.cell? ⟨k, o, none⟩ := fun k hk o => World.cell?_of_block (a := ⟨k, o, none⟩) (h k hk)
  have k1 := key b (by simp)
  have k2 := key bc (by simp)
  have k3 := key gr (by simp)
  refine ⟨(k1 0).trans q.p0, (k1 1).trans q.p1, (k2 1).trans q.p2, ?_⟩
  rcases q.p3 with e | ⟨cap, e1, e2⟩
  · exact .inl e
  · exact .inr ⟨cap, e1, fun j u hu => (k3 j).trans (e2 j u hu)⟩
theorem RefAt.turn {w w' : World} {r gv : Nat} {vr : Value} {l : List QVar} (h : ∀ k ∈ [r, gv], w'.heap[k]? = w.heap[k]?) (q : RefAt w r gv vr l) : RefAt w' r gv vr l := by
  have key : ∀ k ∈ [r, gv], ∀ o, w'.cell? ⟨k, o, none⟩ = w.cell? ⟨k, o, none⟩ := fun k hk o => World.cell?_of_block (a := ⟨k, o, none⟩) (h k hk)
  have k4 := key r (by simp)
  have k5 := key gv (by simp)
  refine ⟨(k4 1).trans q.r1, ?_⟩
  rcases q.r2 with e | ⟨cap, e1, e2⟩
  · exact .inl e
  · exact .inr ⟨cap, e1, fun k a ha => (k5 _).trans (e2 k a ha)⟩
/-- a model of both sides: its blocks, its variables -/
structure MP where
  b : Nat
  bc : Nat
  gr : Nat
  r : Nat
  gv : Nat
  l : List QVar
  vp : Value
  vr : Value
  s : ByteArray
def MP.blocks (x : MP) : List Nat := [x.b, x.bc, x.gr, x.r, x.gv]
structure ModAt (w : World) (x : MP) : Prop where
  p : ProgAt w x.b x.bc x.gr x.vp x.l x.s
  r : RefAt w x.r x.gv x.vr x.l
  len : x.l.length ≤ 2500
theorem ModAt.turn {w w' : World} {x : MP} (h : ∀ k ∈ x.blocks, w'.heap[k]? = w.heap[k]?) (q : ModAt w x) : ModAt w' x :=
  ⟨q.p.turn (fun k hk => h k (by simp only [List.mem_cons, List.not_mem_nil, or_false] at hk; simp only [MP.blocks, List.mem_cons, List.not_mem_nil, or_false]; rcases hk with e | e | e <;> simp [e])),
   q.r.turn (fun k hk => h k (by simp only [List.mem_cons, List.not_mem_nil, or_false] at hk; simp only [MP.blocks, List.mem_cons, List.not_mem_nil, or_false]; rcases hk with e | e <;> simp [e])), q.len⟩
def modKeep (x : MP) : Keep := ⟨x.blocks, fun w => ModAt w x, fun _ _ h q => q.turn h⟩
def mpCells (x : MP) : List Value := [.pointer (some ⟨x.b, 0, none⟩), .pointer (some ⟨x.r, 0, none⟩)]

/-- the law's seven rows, as they stand in its struct -/
structure LV where
  m : Value
  n : Value
  k : Value
  u : Value
  x : Value
  r : Value
  y : Value
def LV.get (V : LV) : Nat → Value
  | 0 => V.m
  | 1 => V.n
  | 2 => V.k
  | 3 => V.u
  | 4 => V.x
  | 5 => V.r
  | _ => V.y
def LV.put (V : LV) (i : Nat) (v : Value) : LV := match i with
  | 0 => { V with m := v }
  | 1 => { V with n := v }
  | 2 => { V with k := v }
  | 3 => { V with u := v }
  | 4 => { V with x := v }
  | 5 => { V with r := v }
  | _ => { V with y := v }
def lwCells (V : LV) (c : Nat) : Array Value := #[V.m, V.n, V.k, V.u, V.x, V.r, V.y, .int .i64 c]
theorem seven {i : Nat} (hi : i < 7) : i = 0 ∨ i = 1 ∨ i = 2 ∨ i = 3 ∨ i = 4 ∨ i = 5 ∨ i = 6 := by omega
theorem LV.get_put (V : LV) (i j : Nat) (v : Value) (hi : i < 7) (hj : j < 7) : (V.put i v).get j = if j = i then v else V.get j := by
  rcases seven hi with rfl | rfl | rfl | rfl | rfl | rfl | rfl <;> rcases seven hj with rfl | rfl | rfl | rfl | rfl | rfl | rfl <;> rfl
theorem lw_set (V : LV) (c i : Nat) (v : Value) (hi : i < 7) : (lwCells V c).setIfInBounds i v = lwCells (V.put i v) c := by
  rcases seven hi with rfl | rfl | rfl | rfl | rfl | rfl | rfl <;> rfl
/-- what the rows hold -/
structure LD where
  ms : List MP
  ns : List LP
  ks : List Value
  us : List LP
  xs : List Value
  rs : List LP
  ys : List Value
def LD.cells (D : LD) : Nat → List Value
  | 0 => D.ms.flatMap mpCells
  | 1 => D.ns.map LP.v
  | 2 => D.ks
  | 3 => D.us.map LP.v
  | 4 => D.xs
  | 5 => D.rs.map LP.v
  | _ => D.ys
def LD.cnt (D : LD) : Nat → Nat
  | 0 => D.ms.length
  | 1 => D.ns.length
  | 2 => D.ks.length
  | 3 => D.us.length
  | 4 => D.xs.length
  | 5 => D.rs.length
  | _ => D.ys.length
def ety : Nat → TypeId
  | 0 => 83
  | 1 => 37
  | 2 => 9
  | 3 => 33
  | 4 => 3
  | 5 => 30
  | _ => 3
def esz : Nat → Nat
  | 0 => 2
  | _ => 1
/-- a block that is none of the law's own -/
def Free (bw : Nat) (V : LV) (k : Nat) : Prop := k ≠ bw ∧ ∀ i, i < 7 → (V.get i).ownBlock ≠ some k
/-- the law's memory -/
structure LW (w : World) (B bw : Nat) (V : LV) (D : LD) (c : Nat) (K : Keep → Prop) : Prop where
  blk : w.heap[bw]? = some (.cells (lwCells V c) 59 (0, 0))
  lt : bw < B
  hB : B ≤ w.heap.size
  own : ∀ i, i < 7 → w.ownsRow B (ety i) (esz i) (V.get i) (D.cnt i) (D.cells i)
  ap : ∀ i j, i < 7 → j < 7 → i ≠ j → ∀ k, (V.get i).ownBlock = some k → (V.get j).ownBlock ≠ some k
  kp : ∀ x, K x → x.P w ∧ ∀ k ∈ x.S, k < w.heap.size ∧ Free bw V k
variable {w w' w1 : World} {B bw c : Nat} {V : LV} {D : LD} {K : Keep → Prop}
theorem LW.slt (h : LW w B bw V D c K) : bw < w.heap.size := Nat.lt_of_lt_of_le h.lt h.hB
/-- its own blocks are not below B -/
theorem LW.ownB (h : LW w B bw V D c K) {i k : Nat} (hi : i < 7) (e : (V.get i).ownBlock = some k) : B ≤ k ∧ k < w.heap.size := (h.own i hi).lt k e
/-- what turns none of its blocks, and nothing that is kept -/
theorem LW.frame {S : List Nat} (h : LW w B bw V D c K) (hb : But S w w') (hS : ∀ k ∈ S, Free bw V k ∧ ∀ x, K x → k ∉ x.S) : LW w' B bw V D c K where
  blk := (hb.block bw h.slt (fun e => (hS bw e).1.1 rfl)).trans h.blk
  lt := h.lt
  hB := Nat.le_trans h.hB hb.size
  own := fun i hi => ownBut (h.own i hi) hb (fun k e q => (hS k q).1.2 i hi e)
  ap := h.ap
  kp := fun x hx => ⟨x.ok w w' (fun k hk => hb.block k ((h.kp x hx).2 k hk).1 (fun q => (hS k q).2 x hx hk)) (h.kp x hx).1, fun k hk => ⟨Nat.lt_of_lt_of_le ((h.kp x hx).2 k hk).1 hb.size, ((h.kp x hx).2 k hk).2⟩⟩
theorem LW.grown (h : LW w B bw V D c K) (hg : w.grownBy w' none) : LW w' B bw V D c K :=
  h.frame (S := []) (But.of_grown hg (fun k e => by cases e)) (fun k hk => by simp at hk)
theorem LW.alloc (h : LW w B bw V D c K) (o : Obj) : LW (w.alloc o) B bw V D c K := h.grown (World.grownBy_alloc _ _ _)
theorem LW.drew (h : LW w B bw V D c K) : LW w.drew B bw V D c K := h.grown (grown_drew' _ _)
theorem LW.drewN (h : LW w B bw V D c K) (n : Nat) : LW (w.drewN n) B bw V D c K := h.grown (grown_drewN' _ _ _)
/-- one thing more is kept -/
theorem LW.keep (h : LW w B bw V D c K) (K' : Keep → Prop) (hK : ∀ x, K' x → K x ∨ (x.P w ∧ ∀ k ∈ x.S, k < w.heap.size ∧ Free bw V k)) : LW w B bw V D c K' :=
  ⟨h.blk, h.lt, h.hB, h.own, h.ap, fun x hx => (hK x hx).elim (h.kp x) id⟩
/-- its counter -/
theorem LW.count (h : LW w B bw V D c K) (c' : Nat) : LW (w.setCell ⟨bw, 7, none⟩ (.int .i64 c')) B bw V D c' K where
  blk := set_at h.blk 7 _ rfl
  lt := h.lt
  hB := Nat.le_trans h.hB (grown_set w bw 7 _).size
  own := fun i hi => (h.own i hi).kept (grown_set w bw 7 _) (.inr (fun e => by have := (h.ownB hi e).1; have := h.lt; omega))
  ap := h.ap
  kp := fun x hx => ⟨x.ok _ _ (fun k hk => (grown_set w bw 7 (.int .i64 c')).block k ((h.kp x hx).2 k hk).1 (fun e => ((h.kp x hx).2 k hk).2.1 (Option.some.inj e))) (h.kp x hx).1, fun k hk => ⟨Nat.lt_of_lt_of_le ((h.kp x hx).2 k hk).1 (grown_set w bw 7 _).size, ((h.kp x hx).2 k hk).2⟩⟩
theorem Grew.by {v v' : Value} (h : Grew w v v' w') : w.grownBy w' v.ownBlock := by
  rcases h with ⟨_, h⟩ | ⟨_, h⟩
  · exact h
  · exact ⟨h.os, h.tape, h.output, h.size, fun k hk _ => h.block k hk (by simp)⟩
/-- the block of a row that has grown: as it was, or new -/
theorem Grew.blk {v v' : Value} (h : Grew w v v' w') {k : Nat} (e : v'.ownBlock = some k) : v.ownBlock = some k ∨ k = w.heap.size := by
  rcases h with ⟨h, _⟩ | ⟨h, _⟩
  · exact .inl (h ▸ e)
  · rw [h] at e; exact .inr (Option.some.inj e).symm
/-- the i-th row has grown and is stored back -/
theorem LW.push {i n' : Nat} {v' : Value} {xs' : List Value} {D' : LD} (h : LW w B bw V D c K) (hi : i < 7) (hown : w1.ownsRow B (ety i) (esz i) v' n' xs') (hg : Grew w (V.get i) v' w1) (hn : ∀ j, j < 7 → D'.cnt j = if j = i then n' else D.cnt j) (hc : ∀ j, j < 7 → D'.cells j = if j = i then xs' else D.cells j) :
    LW (w1.setCell ⟨bw, i, none⟩ v') B bw (V.put i v') D' c K := by
  have g1 := hg.by
  have hbw : (V.get i).ownBlock ≠ some bw := fun e => by have := (h.ownB hi e).1; have := h.lt; omega
  have gs := grown_set w1 bw i v'
  have old : ∀ k, k < w.heap.size → k ≠ bw → (V.get i).ownBlock ≠ some k → (w1.setCell ⟨bw, i, none⟩ v').heap[k]? = w.heap[k]? := fun k hk h1 h2 =>
    (gs.block k (Nat.lt_of_lt_of_le hk g1.size) (fun e => h1 (Option.some.inj e))).trans (g1.block k hk (fun e => h2 e.symm))
  have fr : ∀ k, k < w.heap.size → Free bw V k → Free bw (V.put i v') k := fun k hk f => by
    refine ⟨f.1, fun j hj => ?_⟩
    rw [V.get_put i j v' hi hj]
    split
    · intro e
      rcases hg.blk e with q | q
      · exact f.2 i hi q
      · omega
    · exact f.2 j hj
  refine ⟨?_, h.lt, Nat.le_trans h.hB (Nat.le_trans g1.size gs.size), fun j hj => ?_, fun j j' hj hj' hne k => ?_, fun x hx => ?_⟩
  · exact set_at ((g1.block bw h.slt (fun e => hbw e.symm)).trans h.blk) i v' (lw_set V c i v' hi)
  · rw [V.get_put i j v' hi hj, hn j hj, hc j hj]
    by_cases e : j = i
    · subst e
      rw [if_pos rfl, if_pos rfl, if_pos rfl]
      exact hown.kept gs (.inr (fun e => by have := (hown.lt _ e).1; have := h.lt; omega))
    · rw [if_neg e, if_neg e, if_neg e]
      have q1 : (V.get j).ownBlock = none ∨ (V.get j).ownBlock ≠ (V.get i).ownBlock := by
        cases hq : (V.get j).ownBlock with
        | none => exact .inl rfl
        | some k => exact .inr (fun q => h.ap j i hj hi e k hq q.symm)
      exact ((h.own j hj).kept g1 q1).kept gs (.inr (fun e => by have := (h.ownB hj e).1; have := h.lt; omega))
  · rw [V.get_put i j v' hi hj, V.get_put i j' v' hi hj']
    intro e1
    by_cases c1 : j = i
    · subst c1
      rw [if_pos rfl] at e1
      rw [if_neg (fun q => hne q.symm)]
      intro e2
      rcases hg.blk e1 with q | q
      · exact h.ap j j' hj hj' hne k q e2
      · have := (h.ownB hj' e2).2; omega
    · rw [if_neg c1] at e1
      by_cases c2 : j' = i
      · subst c2
        rw [if_pos rfl]
        intro e2
        rcases hg.blk e2 with q | q
        · exact h.ap j j' hj hj' hne k e1 q
        · have := (h.ownB hj e1).2; omega
      · rw [if_neg c2]
        exact h.ap j j' hj hj' hne k e1
  · have hk := (h.kp x hx).2
    exact ⟨x.ok _ _ (fun k q => old k (hk k q).1 (hk k q).2.1 ((hk k q).2.2 i hi)) (h.kp x hx).1, fun k q => ⟨Nat.lt_of_lt_of_le (hk k q).1 (Nat.le_trans g1.size gs.size), fr k (hk k q).1 (hk k q).2⟩⟩
/-- nothing below B but the law's struct has turned -/
structure FrB (B bw : Nat) (w w' : World) : Prop where
  os : w'.os = w.os
  tape : w'.tape = w.tape
  output : w'.output = w.output
  size : w.heap.size ≤ w'.heap.size
  block : ∀ i, i < B → i ≠ bw → w'.heap[i]? = w.heap[i]?
theorem FrB.refl (B bw : Nat) (w : World) : FrB B bw w w := ⟨rfl, rfl, rfl, Nat.le_refl _, fun _ _ _ => rfl⟩
theorem FrB.trans (h : FrB B bw w w1) (k : FrB B bw w1 w') : FrB B bw w w' := ⟨k.os.trans h.os, k.tape.trans h.tape, k.output.trans h.output, Nat.le_trans h.size k.size, fun i h1 h2 => (k.block i h1 h2).trans (h.block i h1 h2)⟩
theorem FrB.grown {row : Option Nat} (h : FrB B bw w w1) (hB : B ≤ w1.heap.size) (hg : w1.grownBy w' row) (hr : ∀ k, row = some k → k = bw ∨ B ≤ k) : FrB B bw w w' :=
  ⟨hg.os.trans h.os, hg.tape.trans h.tape, hg.output.trans h.output, Nat.le_trans h.size hg.size, fun i h1 h2 => (hg.block i (by omega) (fun e => by rcases hr i e.symm with q | q; exact h2 q; omega)).trans (h.block i h1 h2)⟩
end Go.Proofs.YthpcbbnabnlanaaGreatDoor
