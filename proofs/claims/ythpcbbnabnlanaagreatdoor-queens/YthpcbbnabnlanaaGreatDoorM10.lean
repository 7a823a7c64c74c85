import Derived.Test.YthpcbbnabnlanaaGreatDoorM01
import Derived.Test.YthpcbbnabnlanaaGreatDoorM02
import Derived.Test.YthpcbbnabnlanaaGreatDoorM03
import Derived.Deep.AppendLies
import Derived.Deep.QuietTactic
import Derived.BigQuiet
import Derived.Deep.RegionHeld3
import Derived.Deep.DrawnRows
import Derived.Deep.DeepMust
import Derived.Deep.Light
namespace Go.Proofs.YthpcbbnabnlanaaGreatDoor
open Go.RowKit
set_option linter.unusedVariables false
set_option linter.unusedSimpArgs false
attribute [local go_sem ↓] Go.wp_at_zero Go.wp_at_succ
structure Wk (w : World) (bw bm : Nat) (i kind line : Int) : Prop where
  c0 : w.cell? ⟨bw, 0, none⟩ = some (.pointer (some ⟨bm, 0, none⟩))
  c1 : w.cell? ⟨bw, 1, none⟩ = some (.int .i64 i)
  c2 : w.cell? ⟨bw, 2, none⟩ = some (.int .i64 kind)
  c3 : w.cell? ⟨bw, 3, none⟩ = some (.int .i64 line)
  f1 : w.frozen? ⟨bw, 1, none⟩ = false
  f2 : w.frozen? ⟨bw, 2, none⟩ = false
  f3 : w.frozen? ⟨bw, 3, none⟩ = false
  lt : bw < w.heap.size
structure Tk (w : World) (bm gt capt : Nat) (toks : List PTok) : Prop where
  m0 : w.cell? ⟨bm, 0, none⟩ = some (.slice (some ⟨gt, 0, none⟩) toks.length capt)
  row : ∀ j u, (refCells toks)[j]? = some u → w.cell? ⟨gt, j, none⟩ = some u
  ltm : bm < w.heap.size
  ltg : gt < w.heap.size
theorem Wk.drewN {w : World} {bw bm : Nat} {i k l : Int} (h : Wk w bw bm i k l) (n : Nat) : Wk (w.drewN n) bw bm i k l := ⟨h.c0, h.c1, h.c2, h.c3, h.f1, h.f2, h.f3, h.lt⟩
theorem Wk.drew {w : World} {bw bm : Nat} {i k l : Int} (h : Wk w bw bm i k l) : Wk w.drew bw bm i k l := ⟨h.c0, h.c1, h.c2, h.c3, h.f1, h.f2, h.f3, h.lt⟩
theorem Wk.setI {w : World} {bw bm : Nat} {i k l : Int} (h : Wk w bw bm i k l) (j : Int) : Wk (w.setCell ⟨bw, 1, none⟩ (.int .i64 j)) bw bm j k l :=
  ⟨(World.cell?_setCell_other _ _ _ _ (by simp)).trans h.c0, World.cell?_setCell_same _ _ _ h.c1, (World.cell?_setCell_other _ _ _ _ (by simp)).trans h.c2, (World.cell?_setCell_other _ _ _ _ (by simp)).trans h.c3,
    (World.frozen?_setCell _ _ _ _).trans h.f1, (World.frozen?_setCell _ _ _ _).trans h.f2, (World.frozen?_setCell _ _ _ _).trans h.f3, by simpa [World.setCell] using h.lt⟩
theorem Tk.kept {w w' : World} {bw bm gt capt : Nat} {toks : List PTok} (h : Tk w bm gt capt toks) (hg : w.grownBy w' (some bw)) (h1 : bm ≠ bw) (h2 : gt ≠ bw) : Tk w' bm gt capt toks :=
  ⟨hg.cell h.m0 (by simpa using h1), fun j u hu => hg.cell (h.row j u hu) (by simpa using h2), Nat.lt_of_lt_of_le h.ltm hg.size, Nat.lt_of_lt_of_le h.ltg hg.size⟩
theorem cell_set (W : World) (b o : Nat) (u : Value) (b' o' : Nat) (h : b' ≠ b ∨ o' ≠ o) : (W.setCell ⟨b, o, none⟩ u).cell? ⟨b', o', none⟩ = W.cell? ⟨b', o', none⟩ :=
  World.cell?_setCell_other _ _ _ _ (by
    intro e
    simp only [Addr.mk.injEq] at e
    omega)
def fKind (wrong : Bool) (k kind : Int) : Int := if wrong && kind == 0 then k else kind
def fLine (wrong : Bool) (kind l line : Int) : Int := if wrong && kind == 0 then l else line
def NamesAt (w : World) (v : Value) (size : Nat) (names : List ByteArray) : Prop :=
  (names = [] ∧ v = .slice none 0 0) ∨ ∃ g cap, v = .slice (some ⟨g, 0, none⟩) names.length cap ∧ ∀ k a, names[k]? = some a → w.cell? ⟨g, k * size, none⟩ = some (.string a)
end Go.Proofs.YthpcbbnabnlanaaGreatDoor

namespace Go.Proofs.YthpcbbnabnlanaaGreatDoor
open Go.RowKit
set_option linter.unusedVariables false
set_option linter.unusedSimpArgs false
attribute [local go_sem ↓] Go.wp_at_zero Go.wp_at_succ
theorem hide {p : Prop} (h : p) : Hid p := h
def outB (n most : Int) : Bool := decide (n < -most) || decide (most < n)
def NotIn (v : Value) (bw : Nat) : Prop := v.ownBlock ≠ some bw
theorem NamesAt.kept {w w' : World} {v : Value} {size bw : Nat} {names : List ByteArray} (h : NamesAt w v size names) (hg : w.grownBy w' (some bw)) (hne : NotIn v bw) : NamesAt w' v size names := by
  rcases h with h | ⟨g, cap, rfl, h⟩
  · exact .inl h
  · exact .inr ⟨g, cap, rfl, fun k a ha => hg.cell (h k a ha) (fun e => hne e)⟩
end Go.Proofs.YthpcbbnabnlanaaGreatDoor

namespace Go.Proofs.YthpcbbnabnlanaaGreatDoor
open Go.RowKit
set_option linter.unusedVariables false
set_option linter.unusedSimpArgs false
attribute [local go_sem ↓] Go.wp_at_zero Go.wp_at_succ
structure PVar where
  name : ByteArray
  low : Int
  high : Int
def VarsAt (w : World) (v : Value) (vars : List PVar) : Prop :=
  (vars = [] ∧ v = .slice none 0 0) ∨ ∃ g cap, v = .slice (some ⟨g, 0, none⟩) vars.length cap ∧ ∀ k x, vars[k]? = some x →
    w.cell? ⟨g, k * 3, none⟩ = some (.string x.name) ∧ w.cell? ⟨g, k * 3 + 1, none⟩ = some (.int .i64 x.low) ∧ w.cell? ⟨g, k * 3 + 2, none⟩ = some (.int .i64 x.high)
def namesOf (vars : List PVar) : List ByteArray := vars.map (·.name)
theorem VarsAt.names {w : World} {v : Value} {vars : List PVar} (h : VarsAt w v vars) : NamesAt w v 3 (namesOf vars) := by
  rcases h with ⟨rfl, rfl⟩ | ⟨g, cap, rfl, h⟩
  · exact .inl ⟨rfl, rfl⟩
  · refine .inr ⟨g, cap, by simp [namesOf], fun k a ha => ?_⟩
    simp only [namesOf, List.getElem?_map, Option.map_eq_some_iff] at ha
    obtain ⟨x, hx, rfl⟩ := ha
    exact (h k x hx).1
theorem VarsAt.kept {w w' : World} {v : Value} {bw : Nat} {vars : List PVar} (h : VarsAt w v vars) (hg : w.grownBy w' (some bw)) (hne : NotIn v bw) : VarsAt w' v vars := by
  rcases h with h | ⟨g, cap, rfl, h⟩
  · exact .inl h
  · have hne' : some g ≠ some bw := fun e => hne e
    exact .inr ⟨g, cap, rfl, fun k a ha => ⟨hg.cell (h k a ha).1 hne', hg.cell (h k a ha).2.1 hne', hg.cell (h k a ha).2.2 hne'⟩⟩
theorem Tk.drew {w : World} {bm gt capt : Nat} {toks : List PTok} (h : Tk w bm gt capt toks) : Tk w.drew bm gt capt toks := ⟨h.m0, h.row, h.ltm, h.ltg⟩
end Go.Proofs.YthpcbbnabnlanaaGreatDoor

namespace Go.Proofs.YthpcbbnabnlanaaGreatDoor
open Go.RowKit
set_option linter.unusedVariables false
structure Ctx (w : World) (bw bm gt capt : Nat) (toks : List PTok) (vv : Value) (vars : List PVar) (i : Nat) (kind line : Int) : Prop where
  wk : Wk w bw bm i kind line
  tk : Tk w bm gt capt toks
  hm : w.cell? ⟨bm, 1, none⟩ = some vv
  va : VarsAt w vv vars
  ne : NotIn vv bw
  h1 : bm ≠ bw
  h2 : gt ≠ bw
  hn : toks.length ≤ 2000
  hl : vars.length ≤ 100000
  vlt : ∀ b, vv.ownBlock = some b → b < w.heap.size
structure Far (bw bm gt : Nat) (vv : Value) (q : Nat) : Prop where
  a : q ≠ bw
  b : q ≠ bm
  c : q ≠ gt
  d : vv.ownBlock ≠ some q
variable {w w' : World} {bw bm gt capt : Nat} {toks : List PTok} {vv : Value} {vars : List PVar} {i : Nat} {kind line : Int}
theorem Ctx.frame (h : Ctx w bw bm gt capt toks vv vars i kind line) (hs : w.heap.size ≤ w'.heap.size) (hbw : w'.heap[bw]? = w.heap[bw]?) (hbm : w'.heap[bm]? = w.heap[bm]?) (hgt : w'.heap[gt]? = w.heap[gt]?)
    (hv : ∀ b, vv.ownBlock = some b → w'.heap[b]? = w.heap[b]?) : Ctx w' bw bm gt capt toks vv vars i kind line where
  wk := ⟨(World.cell?_of_block (a := ⟨bw, 0, none⟩) hbw).trans h.wk.c0, (World.cell?_of_block (a := ⟨bw, 1, none⟩) hbw).trans h.wk.c1, (World.cell?_of_block (a := ⟨bw, 2, none⟩) hbw).trans h.wk.c2, (World.cell?_of_block (a := ⟨bw, 3, none⟩) hbw).trans h.wk.c3,
    (World.frozen?_of_block (a := ⟨bw, 1, none⟩) hbw).trans h.wk.f1, (World.frozen?_of_block (a := ⟨bw, 2, none⟩) hbw).trans h.wk.f2, (World.frozen?_of_block (a := ⟨bw, 3, none⟩) hbw).trans h.wk.f3, Nat.lt_of_lt_of_le h.wk.lt hs⟩
  tk := ⟨(World.cell?_of_block (a := ⟨bm, 0, none⟩) hbm).trans h.tk.m0, fun j u hu => (World.cell?_of_block (a := ⟨gt, j, none⟩) hgt).trans (h.tk.row j u hu), Nat.lt_of_lt_of_le h.tk.ltm hs, Nat.lt_of_lt_of_le h.tk.ltg hs⟩
  hm := (World.cell?_of_block (a := ⟨bm, 1, none⟩) hbm).trans h.hm
  va := by
    rcases h.va with x | ⟨g, cap, rfl, hr⟩
    · exact .inl x
    · have e := hv g rfl
      exact .inr ⟨g, cap, rfl, fun k a ha => ⟨(World.cell?_of_block (a := ⟨g, k * 3, none⟩) e).trans (hr k a ha).1, (World.cell?_of_block (a := ⟨g, k * 3 + 1, none⟩) e).trans (hr k a ha).2.1, (World.cell?_of_block (a := ⟨g, k * 3 + 2, none⟩) e).trans (hr k a ha).2.2⟩⟩
  ne := h.ne
  h1 := h.h1
  h2 := h.h2
  hn := h.hn
  hl := h.hl
  vlt := fun b hb => Nat.lt_of_lt_of_le (h.vlt b hb) hs
theorem Ctx.grown (h : Ctx w bw bm gt capt toks vv vars i kind line) {row : Option Nat} (hg : w.grownBy w' row) (hr : ∀ b, row = some b → Far bw bm gt vv b) : Ctx w' bw bm gt capt toks vv vars i kind line :=
  h.frame hg.size (hg.block bw h.wk.lt (fun e => (hr bw e.symm).a rfl)) (hg.block bm h.tk.ltm (fun e => (hr bm e.symm).b rfl)) (hg.block gt h.tk.ltg (fun e => (hr gt e.symm).c rfl))
    (fun b hb => hg.block b (h.vlt b hb) (fun e => (hr b e.symm).d hb))
theorem Ctx.alloc (h : Ctx w bw bm gt capt toks vv vars i kind line) (o : Obj) : Ctx (w.alloc o) bw bm gt capt toks vv vars i kind line := h.grown (World.grownBy_alloc w o none) (fun _ e => by cases e)
theorem Ctx.drew (h : Ctx w bw bm gt capt toks vv vars i kind line) : Ctx w.drew bw bm gt capt toks vv vars i kind line := h.grown (grown_drew' w none) (fun _ e => by cases e)
theorem Ctx.drewN (h : Ctx w bw bm gt capt toks vv vars i kind line) (n : Nat) : Ctx (w.drewN n) bw bm gt capt toks vv vars i kind line := h.grown (grown_drewN' w n none) (fun _ e => by cases e)
theorem Ctx.kept (h : Ctx w bw bm gt capt toks vv vars i kind line) (hg : w.grownBy w' (some bw)) {j : Nat} {k l : Int} (hW : Wk w' bw bm j k l) : Ctx w' bw bm gt capt toks vv vars j k l where
  wk := hW
  tk := h.tk.kept hg h.h1 h.h2
  hm := hg.cell h.hm (by simpa using h.h1)
  va := h.va.kept hg h.ne
  ne := h.ne
  h1 := h.h1
  h2 := h.h2
  hn := h.hn
  hl := h.hl
  vlt := fun b hb => Nat.lt_of_lt_of_le (h.vlt b hb) hg.size
theorem Ctx.setI (h : Ctx w bw bm gt capt toks vv vars i kind line) (j : Nat) : Ctx (w.setCell ⟨bw, 1, none⟩ (.int .i64 j)) bw bm gt capt toks vv vars j kind line :=
  h.kept (grown_set _ _ _ _) (h.wk.setI _)
end Go.Proofs.YthpcbbnabnlanaaGreatDoor

namespace Go.Proofs.YthpcbbnabnlanaaGreatDoor
structure PTerm where
  neg : Bool
  fac : Option PTok
  name : PTok
abbrev FSt := Int × Int
def flt (b : Bool) (k l : Int) (st : FSt) : FSt := (fKind b k st.1, fLine b st.1 l st.2)
def PTerm.head (t : PTerm) : PTok := t.fac.getD t.name
end Go.Proofs.YthpcbbnabnlanaaGreatDoor
