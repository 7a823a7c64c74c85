import Derived.Test.YthpcbbnabnlanaaGreatDoorM11
import Derived.Maps.Own
import Derived.Maps.Views
import Derived.Deep.RegionHeld3
import Derived.BigQuiet
import Derived.Deep.RegionLaw
/-
  The reference's walk: where it stands and what it reads, as one thing; what each small method does to it.
-/
namespace Go.Proofs.YthpcbbnabnlanaaGreatDoor
open Go.RowKit
set_option linter.unusedVariables false

/-- the walk's struct bw, the model bm with its tokens and its variables; at the i-th token, the first fault so far -/
structure Ctx (w : World) (bw bm gt capt : Nat) (toks : List PTok) (vv : Value) (vars : List PVar) (i : Nat) (kind line : Int) : Prop where
  wk : Wk w bw bm i kind line
  tk : Tk w bm gt capt toks
  hm : w.cell? ⟨bm, 1, none⟩ = some vv
  va : VarsAt w vv vars
  ne : NotIn vv bw
  h1 : bm ≠ bw
  h2 : gt ≠ bw
  hn : toks.length ≤ 2000
  hl : vars.length ≤ 100000
  vlt : ∀ b, vv.ownBlock = some b → b < w.heap.size

/-- a block that the walk reads nothing of -/
structure Far (bw bm gt : Nat) (vv : Value) (q : Nat) : Prop where
  a : q ≠ bw
  b : q ≠ bm
  c : q ≠ gt
  d : vv.ownBlock ≠ some q

variable {w w' : World} {bw bm gt capt : Nat} {toks : List PTok} {vv : Value} {vars : List PVar} {i : Nat} {kind line : Int}

theorem Ctx.far_new (h : Ctx w bw bm gt capt toks vv vars i kind line) {b : Nat} (hb : w.heap.size ≤ b) : Far bw bm gt vv b :=
  ⟨by have := h.wk.lt; omega, by have := h.tk.ltm; omega, by have := h.tk.ltg; omega, fun e => by have := h.vlt b e; omega⟩

/-- what turns none of these blocks leaves it -/
theorem Ctx.frame (h : Ctx w bw bm gt capt toks vv vars i kind line) (hs : w.heap.size ≤ w'.heap.size) (hbw : w'.heap[bw]? = w.heap[bw]?) (hbm : w'.heap[bm]? = w.heap[bm]?) (hgt : w'.heap[gt]? = w.heap[gt]?)
    (hv : ∀ b, vv.ownBlock = some b → w'.heap[b]? = w.heap[b]?) : Ctx w' bw bm gt capt toks vv vars i kind line where
  wk := ⟨(World.cell?_of_block (a := ⟨bw, 0, none⟩) hbw).trans h.wk.c0, (World.cell?_of_block (a := ⟨bw, 1, none⟩) hbw).trans h.wk.c1, (World.cell?_of_block (a := ⟨bw, 2, none⟩) hbw).trans h.wk.c2, (World.cell?_of_block (a := ⟨bw, 3, none⟩) hbw).trans h.wk.c3,
    (World.frozen?_of_block (a := ⟨bw, 1, none⟩) hbw).trans h.wk.f1, (World.frozen?_of_block (a := ⟨bw, 2, none⟩) hbw).trans h.wk.f2, (World.frozen?_of_block (a := ⟨bw, 3, none⟩) hbw).trans h.wk.f3, Nat.lt_of_lt_of_le h.wk.lt hs⟩
  tk := ⟨(World.cell?_of_block (a := ⟨bm, 0, none⟩) hbm).trans h.tk.m0, fun j u hu => (World.cell?_of_block (a := ⟨gt, j, none⟩) hgt).trans (h.tk.row j u hu), Nat.lt_of_lt_of_le h.tk.ltm hs, Nat.lt_of_lt_of_le h.tk.ltg hs⟩
  hm := (World.cell?_of_block (a := ⟨bm, 1, none⟩) hbm).trans h.hm
  va := by
    rcases h.va with x | ⟨g, cap, rfl, hr⟩
    · exact .inl x
    · have e := hv g rfl
      exact .inr ⟨g, cap, rfl, fun k a ha => ⟨(World.cell?_of_block (a := ⟨g, k * 3, none⟩) e).trans (hr k a ha).1, (World.cell?_of_block (a := ⟨g, k * 3 + 1, none⟩) e).trans (hr k a ha).2.1, (World.cell?_of_block (a := ⟨g, k * 3 + 2, none⟩) e).trans (hr k a ha).2.2⟩⟩
  ne := h.ne
  h1 := h.h1
  h2 := h.h2
  hn := h.hn
  hl := h.hl
  vlt := fun b hb => Nat.lt_of_lt_of_le (h.vlt b hb) hs
theorem Ctx.grown (h : Ctx w bw bm gt capt toks vv vars i kind line) {row : Option Nat} (hg : w.grownBy w' row) (hr : ∀ b, row = some b → Far bw bm gt vv b) : Ctx w' bw bm gt capt toks vv vars i kind line :=
  h.frame hg.size (hg.block bw h.wk.lt (fun e => (hr bw e.symm).a rfl)) (hg.block bm h.tk.ltm (fun e => (hr bm e.symm).b rfl)) (hg.block gt h.tk.ltg (fun e => (hr gt e.symm).c rfl))
    (fun b hb => hg.block b (h.vlt b hb) (fun e => (hr b e.symm).d hb))
theorem Ctx.alloc (h : Ctx w bw bm gt capt toks vv vars i kind line) (o : Obj) : Ctx (w.alloc o) bw bm gt capt toks vv vars i kind line := h.grown (World.grownBy_alloc w o none) (fun _ e => by cases e)
theorem Ctx.drew (h : Ctx w bw bm gt capt toks vv vars i kind line) : Ctx w.drew bw bm gt capt toks vv vars i kind line := h.grown (grown_drew' w none) (fun _ e => by cases e)
theorem Ctx.drewN (h : Ctx w bw bm gt capt toks vv vars i kind line) (n : Nat) : Ctx (w.drewN n) bw bm gt capt toks vv vars i kind line := h.grown (grown_drewN' w n none) (fun _ e => by cases e)
theorem Ctx.setFar (h : Ctx w bw bm gt capt toks vv vars i kind line) {b : Nat} (hb : Far bw bm gt vv b) (o : Nat) (u : Value) : Ctx (w.setCell ⟨b, o, none⟩ u) bw bm gt capt toks vv vars i kind line :=
  h.grown (grown_set w b o u) (fun _ e => by cases e; exact hb)
/-- what writes the walk's struct alone -/
theorem Ctx.kept (h : Ctx w bw bm gt capt toks vv vars i kind line) (hg : w.grownBy w' (some bw)) {j : Nat} {k l : Int} (hW : Wk w' bw bm j k l) : Ctx w' bw bm gt capt toks vv vars j k l where
  wk := hW
  tk := h.tk.kept hg h.h1 h.h2
  hm := hg.cell h.hm (by simpa using h.h1)
  va := h.va.kept hg h.ne
  ne := h.ne
  h1 := h.h1
  h2 := h.h2
  hn := h.hn
  hl := h.hl
  vlt := fun b hb => Nat.lt_of_lt_of_le (h.vlt b hb) hg.size
theorem Ctx.setI (h : Ctx w bw bm gt capt toks vv vars i kind line) (j : Nat) : Ctx (w.setCell ⟨bw, 1, none⟩ (.int .i64 j)) bw bm gt capt toks vv vars j kind line :=
  h.kept (grown_set _ _ _ _) (h.wk.setI _)

theorem ctx_peek (h : Ctx w bw bm gt capt toks vv vars i kind line) (hi : i ≤ 4000) :
    Calls Tryz.prog 95 #[.pointer (some ⟨bw, 0, none⟩)] w fun e w' => e = .returned (.string (peekS toks i)) ∧ w.grownBy w' (some bw) ∧ Ctx w' bw bm gt capt toks vv vars i kind line :=
  (ref_peek toks i kind line bw bm gt capt w h.hn hi h.wk h.tk).mono fun e w' ⟨h1, h2, h3⟩ => ⟨h1, h2, h.kept h2 h3⟩
theorem ctx_next (h : Ctx w bw bm gt capt toks vv vars i kind line) (hi : i < toks.length) :
    Calls Tryz.prog 141 #[.pointer (some ⟨bw, 0, none⟩)] w fun e w' => e = .returned (.string (peekS toks i)) ∧ w.grownBy w' (some bw) ∧ Ctx w' bw bm gt capt toks vv vars (i + 1) kind line :=
  (ref_next toks i kind line bw bm gt capt w h.hn hi h.h1 h.h2 h.wk h.tk).mono fun e w' ⟨h1, h2, h3⟩ => ⟨h1, h2, h.kept h2 h3⟩
theorem ctx_fault (h : Ctx w bw bm gt capt toks vv vars i kind line) (hi : i < toks.length) (wrong : Bool) (k : Int) :
    Calls Tryz.prog 96 #[.pointer (some ⟨bw, 0, none⟩), .bool wrong, .int .i64 k] w fun e w' => e = .returned (.tuple #[]) ∧ w.grownBy w' (some bw) ∧
      Ctx w' bw bm gt capt toks vv vars i (fKind wrong k kind) (fLine wrong kind (lineAt toks i) line) :=
  (ref_fault toks i wrong k kind line bw bm gt capt w h.hn hi h.h1 h.h2 h.wk h.tk).mono fun e w' ⟨h1, h2, h3⟩ => ⟨h1, h2, h.kept h2 h3⟩
theorem ctx_bounded (h : Ctx w bw bm gt capt toks vv vars i kind line) (hi : i < toks.length) (most : Int) (hm0 : 0 ≤ most) (hm1 : most ≤ 10000000) (hI : IsInt (peekS toks i)) :
    Calls Tryz.prog 98 #[.pointer (some ⟨bw, 0, none⟩), .int .i64 most] w fun e w' => e = .returned (.int .i64 (intVal (peekS toks i))) ∧ w.grownBy w' (some bw) ∧
      Ctx w' bw bm gt capt toks vv vars (i + 1) (fKind (outB (intVal (peekS toks i)) most) 5 kind) (fLine (outB (intVal (peekS toks i)) most) kind (lineAt toks i) line) :=
  (ref_bounded toks i most kind line bw bm gt capt w h.hn hi h.h1 h.h2 hm0 hm1 hI h.wk h.tk).mono fun e w' ⟨h1, h2, h3⟩ => ⟨h1, h2, h.kept h2 h3⟩
/-- the place of a name among the variables -/
def varX (vars : List PVar) (s : ByteArray) : Int := findName s (namesOf vars) 0
theorem ctx_used (h : Ctx w bw bm gt capt toks vv vars i kind line) (hi : i < toks.length) :
    Calls Tryz.prog 100 #[.pointer (some ⟨bw, 0, none⟩), .bool false] w fun e w' => e = .returned (.int .i64 (varX vars (peekS toks i))) ∧ w.grownBy w' (some bw) ∧
      Ctx w' bw bm gt capt toks vv vars (i + 1) (fKind (decide (varX vars (peekS toks i) < 0)) 4 kind) (fLine (decide (varX vars (peekS toks i) < 0)) kind (lineAt toks i) line) :=
  (ref_used_plain false toks i kind line bw bm gt capt vv (namesOf vars) w h.hn hi h.h1 h.h2 (by simp [namesOf]; exact h.hl) h.hm h.va.names h.ne (.inl rfl) h.wk h.tk).mono fun e w' ⟨h1, h2, h3⟩ => ⟨h1, h2, h.kept h2 h3⟩
/-- the faults of a name that must be a truth's: of it -/
def truthKind (vars : List PVar) (s : ByteArray) (kind : Int) : Int := if varX vars s < 0 then fKind true 4 kind else fKind (noTruth vars (varX vars s)) 7 kind
def truthLine (vars : List PVar) (s : ByteArray) (kind l line : Int) : Int := if varX vars s < 0 then fLine true kind l line else fLine (noTruth vars (varX vars s)) kind l line
theorem ctx_truth (h : Ctx w bw bm gt capt toks vv vars i kind line) (hi : i < toks.length) :
    Calls Tryz.prog 100 #[.pointer (some ⟨bw, 0, none⟩), .bool true] w fun e w' => e = .returned (.int .i64 (varX vars (peekS toks i))) ∧ w.grownBy w' (some bw) ∧
      Ctx w' bw bm gt capt toks vv vars (i + 1) (truthKind vars (peekS toks i) kind) (truthLine vars (peekS toks i) kind (lineAt toks i) line) := by
  unfold truthKind truthLine
  by_cases hx : varX vars (peekS toks i) < 0
  · rw [if_pos hx, if_pos hx]
    have hd : decide (varX vars (peekS toks i) < 0) = true := by simpa using hx
    refine (ref_used_plain true toks i kind line bw bm gt capt vv (namesOf vars) w h.hn hi h.h1 h.h2 (by simp [namesOf]; exact h.hl) h.hm h.va.names h.ne (.inr hx) h.wk h.tk).mono fun e w' ⟨h1, h2, h3⟩ => ⟨h1, h2, ?_⟩
    have h4 := h.kept (j := i + 1) h2 h3
    rw [show findName (peekS toks i) (namesOf vars) 0 = varX vars (peekS toks i) from rfl, hd] at h4
    exact h4
  · rw [if_neg hx, if_neg hx]
    exact (ref_used_truth toks i kind line bw bm gt capt vv vars w h.hn hi h.h1 h.h2 h.hl h.hm h.va h.ne (by show 0 ≤ varX vars (peekS toks i); omega) h.wk h.tk).mono fun e w' ⟨h1, h2, h3⟩ => ⟨h1, h2, h.kept h2 h3⟩
end Go.Proofs.YthpcbbnabnlanaaGreatDoor

/-
  The plain mathematics of a sum's terms: where their tokens stand, what faults they have, what parts they are.
-/
namespace Go.Proofs.YthpcbbnabnlanaaGreatDoor

/-- a term: taken away or not; its factor's token, if it has one; its name's -/
structure PTerm where
  neg : Bool
  fac : Option PTok
  name : PTok

/-- the term's tokens stand from i on, up to j -/
def TermAt (toks : List PTok) (i : Nat) (t : PTerm) (j : Nat) : Prop :=
  match t.fac with
  | some f => toks[i]? = some f ∧ f.kind = 105 ∧ IsInt f.s ∧ toks[i + 2]? = some t.name ∧ j = i + 3
  | none => toks[i]? = some t.name ∧ t.name.kind ≠ 105 ∧ j = i + 1
/-- further terms, each behind its sign -/
def TermsAt (toks : List PTok) : Nat → List PTerm → Nat → Prop
  | i, [], j => i = j
  | i, t :: ts, j => ∃ sg m, toks[i]? = some sg ∧ sg.s.toList = (if t.neg then [45] else [43]) ∧ TermAt toks (i + 1) t m ∧ TermsAt toks m ts j

/-- the first fault so far: its kind and its line -/
abbrev FSt := Int × Int
def flt (b : Bool) (k l : Int) (st : FSt) : FSt := (fKind b k st.1, fLine b st.1 l st.2)
def PTerm.head (t : PTerm) : PTok := t.fac.getD t.name
def termSt (vars : List PVar) (k : Nat) (t : PTerm) (st : FSt) : FSt :=
  flt (decide (varX vars t.name.s < 0)) 4 t.name.line
    (match t.fac with
    | some f => flt (outB (intVal f.s) 100) 5 f.line (flt (decide (8 < (k : Int))) 6 f.line st)
    | none => flt (decide (8 < (k : Int))) 6 t.name.line st)
def sgn (b : Bool) : Int := if b then -1 else 1
def termPart (vars : List PVar) (t : PTerm) : Int × Int := (match t.fac with | some f => sgn t.neg * intVal f.s | none => sgn t.neg, varX vars t.name.s)
def termsSt (vars : List PVar) : Nat → List PTerm → FSt → FSt
  | _, [], st => st
  | k, t :: ts, st => termsSt vars (k + 1) ts (termSt vars k t st)

/-- a part's two cells -/
def partCells (l : List (Int × Int)) : List Value := l.flatMap fun p => [.int .i64 p.1, .int .i64 p.2]
theorem partCells_snoc (l : List (Int × Int)) (p : Int × Int) : partCells (l ++ [p]) = partCells l ++ [.int .i64 p.1, .int .i64 p.2] := by simp [partCells]

end Go.Proofs.YthpcbbnabnlanaaGreatDoor

/-
  The program's checker: its map of names; where it stands in memory; its fault.
-/
namespace Go.Proofs.YthpcbbnabnlanaaGreatDoor
open Go.RowKit
set_option linter.unusedVariables false

/-- an element of the map, held whole -/
def heldV (v : Value) : Option (DataW Value × List MemPlace) := some (.held v, [])
/-- a name's thing: of none -/
def noThing : Value := .agg #[.int .i64 0, .int .i64 0, .int .i64 0, .int .i64 0, .slice none 0 0]
/-- block b is a map of at most n names; f gives each name's thing -/
def MapIs (w : World) (b n : Nat) (f : ByteArray → Value) : Prop :=
  ∃ D : DataW Value, w.ownsMap Tryz.prog 9 heldV b n D ∧ Maps.IsMap D ∧ ∀ s : ByteArray, D.atKey (.string s.data.toList) (.held noThing) = .held (f s)
theorem zeroThing (w : World) : (zeroValue 227).run Tryz.prog w = .ok noThing w := by
  have h : (Tryz.prog.info? 227).map (fun i => i.zero) = some (some noThing) := by kernel_rfl
  cases hq : Tryz.prog.info? 227 with
  | none => rw [hq] at h; cases h
  | some i =>
    rw [hq] at h
    have h2 : i.zero = some noThing := by simpa using h
    simp [zeroValue, typeInfo, hq, h2, Sem.run_bind]
theorem MapIs.look {w : World} {b n : Nat} {f : ByteArray → Value} (h : MapIs w b n f) (s : ByteArray) (hs : s.size ≤ 2000) : (Instr.lookup 140 (.map (some b)) (.string s) false).run Tryz.prog w = .ok (f s) w := by
  obtain ⟨D, ho, _, hf⟩ := h
  obtain ⟨v, ps, hr, hv⟩ := ho.lookup (t := 140) (Maps.string_keyed Tryz.underlying9) Tryz.underlying140 (zeroThing w) (zd := .held noThing) (zp := []) rfl (Go.WideMaps.keyOf_string_mk Tryz.underlying9 (by unfold maxLen; omega) : keyOf Tryz.prog 9 (.string s) = some (.string s.data.toList))
  rw [hf s] at hv
  have : v = f s := by unfold heldV at hv; simp at hv; exact hv.1
  rw [this] at hr
  exact hr
theorem MapIs.kept {w w' : World} {b n : Nat} {f : ByteArray → Value} (h : MapIs w b n f) {row : Option Nat} (hg : w.grownBy w' row) (hne : row ≠ some b) : MapIs w' b n f := by
  obtain ⟨D, ho, hm, hf⟩ := h
  exact ⟨D, ho.kept hg (fun e => hne e.symm), hm, hf⟩
theorem lit_ne {s s' : ByteArray} (e : ¬ s' = s) : Lit.string s'.data.toList ≠ Lit.string s.data.toList := by
  intro q
  have q2 : s'.data.toList = s.data.toList := Lit.string.inj q
  have q3 : s'.data = s.data := Array.toList_inj.1 q2
  exact e (ByteArray.ext q3)
theorem MapIs.put {w : World} {b n : Nat} {f : ByteArray → Value} (h : MapIs w b n f) (s : ByteArray) (hs : s.size ≤ 2000) (hn : n < 5000) (v : Value) :
    ∃ w', (Instr.mapUpdate 140 (.map (some b)) (.string s) v).run Tryz.prog w = .ok () w' ∧ MapIs w' b (n + 1) (fun s' => if s' = s then v else f s') ∧ w.grownBy w' (some b) := by
  obtain ⟨D, ho, hm, hf⟩ := h
  obtain ⟨w', hr, ho', hg⟩ := ho.update (t := 140) (Maps.string_keyed Tryz.underlying9) Tryz.underlying140 (by unfold maxLen; omega) (Go.WideMaps.keyOf_string_mk Tryz.underlying9 (by unfold maxLen; omega) : keyOf Tryz.prog 9 (.string s) = some (.string s.data.toList)) (val := v) (d := .held v) (ps := []) rfl
  refine ⟨w', hr, ⟨_, ho', by obtain ⟨es, rfl⟩ := hm; exact ⟨_, rfl⟩, fun s' => ?_⟩, hg⟩
  show _ = DataW.held (if s' = s then v else f s')
  by_cases e : s' = s
  · subst e
    rw [if_pos rfl]
    exact Maps.atKey_put_same hm (by simp [WideAt.IsKeyLit]) _ _
  · rw [if_neg e, Maps.atKey_put_other (lit_ne e), hf s']

/-- the checker's struct bc -/
structure Ck (w : World) (bc bm n : Nat) (f : ByteArray → Value) (vV vC : Value) (kd ln : Int) : Prop where
  c0 : w.cell? ⟨bc, 0, none⟩ = some (.map (some bm))
  c1 : w.cell? ⟨bc, 1, none⟩ = some vV
  c2 : w.cell? ⟨bc, 2, none⟩ = some vC
  c3 : w.cell? ⟨bc, 3, none⟩ = some (.int .i64 kd)
  c4 : w.cell? ⟨bc, 4, none⟩ = some (.int .i64 ln)
  f1 : w.frozen? ⟨bc, 1, none⟩ = false
  f2 : w.frozen? ⟨bc, 2, none⟩ = false
  f3 : w.frozen? ⟨bc, 3, none⟩ = false
  f4 : w.frozen? ⟨bc, 4, none⟩ = false
  lt : bc < w.heap.size
  mp : MapIs w bm n f
  ltm : bm < w.heap.size
  ne : bm ≠ bc
variable {w w' : World} {bc bm n : Nat} {f : ByteArray → Value} {vV vC : Value} {kd ln : Int}
theorem Ck.kept (h : Ck w bc bm n f vV vC kd ln) {row : Option Nat} (hg : w.grownBy w' row) (h1 : row ≠ some bc) (h2 : row ≠ some bm) : Ck w' bc bm n f vV vC kd ln where
  c0 := hg.cell h.c0 (fun e => h1 e.symm)
  c1 := hg.cell h.c1 (fun e => h1 e.symm)
  c2 := hg.cell h.c2 (fun e => h1 e.symm)
  c3 := hg.cell h.c3 (fun e => h1 e.symm)
  c4 := hg.cell h.c4 (fun e => h1 e.symm)
  f1 := (World.frozen?_of_block (a := ⟨bc, 1, none⟩) (hg.block bc h.lt (fun e => h1 e.symm))).trans h.f1
  f2 := (World.frozen?_of_block (a := ⟨bc, 2, none⟩) (hg.block bc h.lt (fun e => h1 e.symm))).trans h.f2
  f3 := (World.frozen?_of_block (a := ⟨bc, 3, none⟩) (hg.block bc h.lt (fun e => h1 e.symm))).trans h.f3
  f4 := (World.frozen?_of_block (a := ⟨bc, 4, none⟩) (hg.block bc h.lt (fun e => h1 e.symm))).trans h.f4
  lt := Nat.lt_of_lt_of_le h.lt hg.size
  mp := h.mp.kept hg h2
  ltm := Nat.lt_of_lt_of_le h.ltm hg.size
  ne := h.ne
theorem Ck.alloc (h : Ck w bc bm n f vV vC kd ln) (o : Obj) : Ck (w.alloc o) bc bm n f vV vC kd ln := h.kept (World.grownBy_alloc w o none) (by simp) (by simp)
theorem Ck.drew (h : Ck w bc bm n f vV vC kd ln) : Ck w.drew bc bm n f vV vC kd ln := h.kept (grown_drew' w none) (by simp) (by simp)
theorem Ck.drewN (h : Ck w bc bm n f vV vC kd ln) (k : Nat) : Ck (w.drewN k) bc bm n f vV vC kd ln := h.kept (grown_drewN' w k none) (by simp) (by simp)
/-- the first fault is kept -/
theorem Ck.setFault (h : Ck w bc bm n f vV vC kd ln) (k l : Int) : Ck ((w.setCell ⟨bc, 3, none⟩ (.int .i64 k)).setCell ⟨bc, 4, none⟩ (.int .i64 l)) bc bm n f vV vC k l := by
  have g := (grown_set w bc 3 (.int .i64 k)).trans (grown_set _ bc 4 (.int .i64 l))
  have d3 : (w.setCell ⟨bc, 3, none⟩ (.int .i64 k)).cell? ⟨bc, 3, none⟩ = some (.int .i64 k) := cell_set_same _ _ _ _ _ h.c3
  have d4 : (w.setCell ⟨bc, 3, none⟩ (.int .i64 k)).cell? ⟨bc, 4, none⟩ = some (.int .i64 ln) := (cell_set_other _ _ _ _ _ _ (by simp)).trans h.c4
  exact ⟨(cell_set_other _ _ _ _ _ _ (by simp)).trans ((cell_set_other _ _ _ _ _ _ (by simp)).trans h.c0), (cell_set_other _ _ _ _ _ _ (by simp)).trans ((cell_set_other _ _ _ _ _ _ (by simp)).trans h.c1), (cell_set_other _ _ _ _ _ _ (by simp)).trans ((cell_set_other _ _ _ _ _ _ (by simp)).trans h.c2),
    (cell_set_other _ _ _ _ _ _ (by simp)).trans d3, cell_set_same _ _ _ _ _ d4, (frozen_set _ _ _ _ _ _).trans ((frozen_set _ _ _ _ _ _).trans h.f1), (frozen_set _ _ _ _ _ _).trans ((frozen_set _ _ _ _ _ _).trans h.f2), (frozen_set _ _ _ _ _ _).trans ((frozen_set _ _ _ _ _ _).trans h.f3), (frozen_set _ _ _ _ _ _).trans ((frozen_set _ _ _ _ _ _).trans h.f4),
    Nat.lt_of_lt_of_le h.lt g.size, h.mp.kept g (by simpa using h.ne.symm), Nat.lt_of_lt_of_le h.ltm g.size, h.ne⟩
end Go.Proofs.YthpcbbnabnlanaaGreatDoor

/-
  The program's checker: fault, room, number, undeclared.
-/
namespace Go.Proofs.YthpcbbnabnlanaaGreatDoor
open Go.RowKit
set_option linter.unusedVariables false
variable {w w' : World} {bc bm n : Nat} {f : ByteArray → Value} {vV vC : Value} {st : FSt}

/-- the checker stands so -/
abbrev CkS (w : World) (bc bm n : Nat) (f : ByteArray → Value) (vV vC : Value) (st : FSt) : Prop := Ck w bc bm n f vV vC st.1 st.2
theorem flt_true (k l : Int) (st : FSt) : flt true k l st = if st.1 = 0 then (k, l) else st := by
  obtain ⟨a, b⟩ := st
  unfold flt fKind fLine
  by_cases h : a = 0 <;> simp [h]
theorem flt_false (k l : Int) (st : FSt) : flt false k l st = st := by
  obtain ⟨a, b⟩ := st
  simp [flt, fKind, fLine]

set_option maxRecDepth 100000 in
set_option maxHeartbeats 1000000 in
theorem sn_fault (h : CkS w bc bm n f vV vC st) (T : PTok) (k : Int) :
    Calls Tryz.prog 152 #[.pointer (some ⟨bc, 0, none⟩), .int .i64 k, tkV T] w fun e w' => e = .returned (.tuple #[]) ∧ w.grownBy w' (some bc) ∧ CkS w' bc bm n f vV vC (flt true k T.line st) := by
  rw [flt_true]
  obtain ⟨kd, ln⟩ := st
  have HC : Hid (Ck w bc bm n f vV vC kd ln) := h
  have c3 := h.c3
  have c4 := h.c4
  have f3 := h.f3
  have f4 := h.f4
  have hlt := h.lt
  simp only at c3 c4
  unfold tkV
  by_cases h0 : kd = 0
  · subst h0
    have hset := fun W o u b' o' h => cell_set W bc o u b' o' h
    clear h
    go_enter Tryz.func152, Tryz.ntmps152
    go_wp2
    go_region
    all_goals go_wp2
    all_goals go_end0
    exact ⟨rfl, (((grown_set _ _ _ _).trans (grown_set _ _ _ _)).trans (World.grownBy_alloc _ _ _)).trans (grown_drew' _ _), ((HC.out.setFault k T.line).alloc _).drew⟩
  · have hb : (kd == 0) = false := by simpa using h0
    clear h
    go_enter Tryz.func152, Tryz.ntmps152
    go_wp2
    go_end0
    exact ⟨rfl, World.grownBy_alloc _ _ _, HC.out.alloc _⟩

set_option maxRecDepth 100000 in
set_option maxHeartbeats 1000000 in
theorem sn_room (h : CkS w bc bm n f vV vC st) (T : PTok) (k m : Int) :
    Calls Tryz.prog 149 #[.pointer (some ⟨bc, 0, none⟩), tkV T, .int .i64 k, .int .i64 m] w fun e w' => e = .returned (.tuple #[]) ∧ w.grownBy w' (some bc) ∧ CkS w' bc bm n f vV vC (flt (decide (m ≤ k)) 6 T.line st) := by
  have HC : Hid (CkS w bc bm n f vV vC st) := h
  have hlt := h.lt
  by_cases hk : m ≤ k
  · rw [decide_eq_true hk]
    have HF := Kept.mk (fun o => sn_fault (HC.out.alloc o) T 6)
    unfold tkV at *
    clear h
    go_enter Tryz.func149, Tryz.ntmps149
    go_wp2_with (go_at_call 152; refine (HF.get _).mono ?_; rintro e w1 ⟨rfl, hg1, hC1⟩)
    go_end0
    exact ⟨rfl, (World.grownBy_alloc w _ _).trans hg1, hC1⟩
  · rw [decide_eq_false hk, flt_false]
    have hk' : k < m := by omega
    unfold tkV at *
    clear h hk
    go_enter Tryz.func149, Tryz.ntmps149
    go_wp2
    go_end0
    exact ⟨rfl, World.grownBy_alloc w _ _, HC.out.alloc _⟩

set_option maxRecDepth 100000 in
set_option maxHeartbeats 1000000 in
theorem sn_number (h : CkS w bc bm n f vV vC st) (T : PTok) (m : Int) (hm0 : 0 ≤ m) (hm : m ≤ 10000000) :
    Calls Tryz.prog 151 #[.pointer (some ⟨bc, 0, none⟩), tkV T, .int .i64 m] w fun e w' => e = .returned (.int .i64 (tval T)) ∧ w.grownBy w' (some bc) ∧ CkS w' bc bm n f vV vC (flt (outB (tval T) m) 5 T.line st) := by
  have HC : Hid (CkS w bc bm n f vV vC st) := h
  have hlt := h.lt
  have HF := Kept.mk (fun o => sn_fault (HC.out.alloc o) T 5)
  have hkeep : Hid (∀ w1 (o : Obj), (w.alloc o).grownBy w1 (some bc) → ∀ v, (w.alloc o).cell? ⟨w.heap.size, 2, none⟩ = some v → w1.cell? ⟨w.heap.size, 2, none⟩ = some v) := fun w1 o hg v hv => hg.cell hv (by simp; omega)
  by_cases h1 : tval T < -m
  · have e : outB (tval T) m = true := by simp [outB, h1]
    rw [e]
    unfold tkV at *
    clear h e
    go_enter Tryz.func151, Tryz.ntmps151
    go_wp2_with (go_at_call 152; refine (HF.get _).mono ?_; rintro e w1 ⟨rfl, hg1, hC1⟩; have d2 := hkeep.out w1 _ hg1 (.int .i64 (tval T)) (by simp))
    go_ret
    exact ⟨rfl, (World.grownBy_alloc w _ _).trans hg1, hC1⟩
  · by_cases h2 : m < tval T
    · have e : outB (tval T) m = true := by simp [outB, h2]
      rw [e]
      have h1' : -m ≤ tval T := by omega
      unfold tkV at *
      clear h e h1
      go_enter Tryz.func151, Tryz.ntmps151
      go_wp2_with (go_at_call 152; refine (HF.get _).mono ?_; rintro e w1 ⟨rfl, hg1, hC1⟩; have d2 := hkeep.out w1 _ hg1 (.int .i64 (tval T)) (by simp))
      go_ret
      exact ⟨rfl, (World.grownBy_alloc w _ _).trans hg1, hC1⟩
    · have e : outB (tval T) m = false := by simp [outB, h1, h2]
      rw [e, flt_false]
      have h1' : -m ≤ tval T := by omega
      have h2' : tval T ≤ m := by omega
      unfold tkV at *
      clear h e h1 h2
      go_enter Tryz.func151, Tryz.ntmps151
      go_wp2
      go_ret
      exact ⟨rfl, World.grownBy_alloc w _ _, HC.out.alloc _⟩

/-- a thing: its sort (0: none; 4: a variable; 5: a list), its place, its bounds, its numbers -/
structure Th where
  so : Int
  pl : Int
  lo : Int
  hi : Int
  v : Value
def thV (t : Th) : Value := .agg #[.int .i64 t.so, .int .i64 t.pl, .int .i64 t.lo, .int .i64 t.hi, t.v]
def noTh : Th := ⟨0, 0, 0, 0, .slice none 0 0⟩
theorem thing_field (a b c d e : Value) (w : World) : (Instr.field 227 (.agg #[a, b, c, d, e]) 0).run Tryz.prog w = .ok a w ∧ (Instr.field 227 (.agg #[a, b, c, d, e]) 1).run Tryz.prog w = .ok b w ∧ (Instr.field 227 (.agg #[a, b, c, d, e]) 4).run Tryz.prog w = .ok e w := by
  refine ⟨?_, ?_, ?_⟩ <;> kernel_rfl
variable {g : ByteArray → Th}
set_option maxRecDepth 100000 in
set_option maxHeartbeats 1000000 in
theorem sn_undeclared (h : CkS w bc bm n (fun s => thV (g s)) vV vC st) (T : PTok) (hs : T.s.size ≤ 2000) :
    Calls Tryz.prog 150 #[.pointer (some ⟨bc, 0, none⟩), tkV T] w fun e w' => e = .returned (.tuple #[]) ∧ w.grownBy w' (some bc) ∧ CkS w' bc bm n (fun s => thV (g s)) vV vC (flt ((g T.s).so != 0) 4 T.line st) := by
  have HC : Hid (CkS w bc bm n (fun s => thV (g s)) vV vC st) := h
  have hlt := h.lt
  have c0 := h.c0
  have HF := Kept.mk (fun o k => sn_fault ((HC.out.alloc o).drewN k) T 4)
  have hlook : ∀ k, (Instr.lookup 140 (.map (some bm)) (.string T.s) false).run Tryz.prog ((w.alloc (.cells #[.int .i64 (srt T), .string T.s, .int .i64 (tval T), .int .i64 T.line] 129)).drewN k) = .ok (.agg #[.int .i64 (g T.s).so, .int .i64 (g T.s).pl, .int .i64 (g T.s).lo, .int .i64 (g T.s).hi, (g T.s).v]) ((w.alloc (.cells #[.int .i64 (srt T), .string T.s, .int .i64 (tval T), .int .i64 T.line] 129)).drewN k) := fun k => ((h.alloc _).drewN k).mp.look T.s hs
  have hfield := fun a b c d e W => (thing_field a b c d e W).1
  by_cases h0 : (g T.s).so = 0
  · have e : ((g T.s).so != 0) = false := by simpa using h0
    rw [e, flt_false]
    unfold tkV at *
    clear h h0
    go_enter Tryz.func150, Tryz.ntmps150
    go_wp2
    go_quiet (fail)
    go_wp2
    go_end0
    exact ⟨rfl, (World.grownBy_alloc w _ _).trans (grown_drewN' _ _ _), (HC.out.alloc _).drewN _⟩
  · have e : ((g T.s).so != 0) = true := by simpa using h0
    rw [e]
    unfold tkV at *
    clear h h0
    go_enter Tryz.func150, Tryz.ntmps150
    go_wp2
    go_quiet (fail)
    go_wp2_with (go_at_call 152; refine (HF.get _ _).mono ?_; rintro e w1 ⟨rfl, hg1, hC1⟩)
    go_end0
    exact ⟨rfl, ((World.grownBy_alloc w _ _).trans (grown_drewN' _ _ _)).trans hg1, hC1⟩
end Go.Proofs.YthpcbbnabnlanaaGreatDoor

/-
  The program's checker: find, variable, truth.
-/
namespace Go.Proofs.YthpcbbnabnlanaaGreatDoor
open Go.RowKit
set_option linter.unusedVariables false
variable {w w' : World} {bc bm n : Nat} {g : ByteArray → Th} {vV vC : Value} {st : FSt}

/-- what find gives -/
def thFind (g : ByteArray → Th) (s : ByteArray) (sort : Int) : Th := if (g s).so = sort then g s else noTh
theorem set5 {w : World} {b : Nat} {t : TypeId} {a0 a1 a2 a3 a4 : Value} (h : w.heap[b]? = some (.cells #[a0, a1, a2, a3, a4] t (0, 0))) (v0 v1 v2 v3 v4 : Value) :
    (((((w.setCell ⟨b, 0, none⟩ v0).setCell ⟨b, 1, none⟩ v1).setCell ⟨b, 2, none⟩ v2).setCell ⟨b, 3, none⟩ v3).setCell ⟨b, 4, none⟩ v4).heap[b]? = some (.cells #[v0, v1, v2, v3, v4] t (0, 0)) := by
  have h1 := set_at h 0 v0 (cs' := #[v0, a1, a2, a3, a4]) rfl
  have h2 := set_at h1 1 v1 (cs' := #[v0, v1, a2, a3, a4]) rfl
  have h3 := set_at h2 2 v2 (cs' := #[v0, v1, v2, a3, a4]) rfl
  have h4 := set_at h3 3 v3 (cs' := #[v0, v1, v2, v3, a4]) rfl
  exact set_at h4 4 v4 rfl
theorem set5_grown (w : World) (b : Nat) (v0 v1 v2 v3 v4 : Value) : w.grownBy (((((w.setCell ⟨b, 0, none⟩ v0).setCell ⟨b, 1, none⟩ v1).setCell ⟨b, 2, none⟩ v2).setCell ⟨b, 3, none⟩ v3).setCell ⟨b, 4, none⟩ v4) (some b) :=
  ((((grown_set w b 0 v0).trans (grown_set _ b 1 v1)).trans (grown_set _ b 2 v2)).trans (grown_set _ b 3 v3)).trans (grown_set _ b 4 v4)
theorem heap_alloc3_mid (w : World) (A B C : Obj) : (((w.alloc A).alloc B).alloc C).heap[w.heap.size + 1]? = some B := by
  rw [heap_alloc_old _ _ (by simp)]; exact heap_alloc2_new w A B

set_option maxRecDepth 100000 in
set_option maxHeartbeats 2000000 in
theorem sn_find (h : CkS w bc bm n (fun s => thV (g s)) vV vC st) (T : PTok) (hs : T.s.size ≤ 2000) (sort : Int) (hv : ∃ a m c, (g T.s).v = .slice a m c) :
    Calls Tryz.prog 158 #[.pointer (some ⟨bc, 0, none⟩), tkV T, .int .i64 sort] w fun e w' => e = .returned (thV (thFind g T.s sort)) ∧ w.grownBy w' (some bc) ∧ CkS w' bc bm n (fun s => thV (g s)) vV vC (flt ((g T.s).so != sort) 4 T.line st) := by
  have HC : Hid (CkS w bc bm n (fun s => thV (g s)) vV vC st) := h
  have hlt := h.lt
  have hltm := h.ltm
  have c0 := h.c0
  obtain ⟨va, vm, vc, hv⟩ := hv
  have hlook : ∀ W, W = (((w.alloc (.cells #[.int .i64 (srt T), .string T.s, .int .i64 (tval T), .int .i64 T.line] 129)).alloc (.cells #[.int .i64 0, .int .i64 0, .int .i64 0, .int .i64 0, .slice none 0 0] 227))).drew ∨ W = ((((w.alloc (.cells #[.int .i64 (srt T), .string T.s, .int .i64 (tval T), .int .i64 T.line] 129)).alloc (.cells #[.int .i64 0, .int .i64 0, .int .i64 0, .int .i64 0, .slice none 0 0] 227))).alloc (.cells #[.int .i64 0, .int .i64 0, .int .i64 0, .int .i64 0, .slice none 0 0] 227)).drew →
      (Instr.lookup 140 (.map (some bm)) (.string T.s) false).run Tryz.prog W = .ok (.agg #[.int .i64 (g T.s).so, .int .i64 (g T.s).pl, .int .i64 (g T.s).lo, .int .i64 (g T.s).hi, .slice va vm vc]) W := fun W hW => by
    have hM : MapIs W bm n (fun s => thV (g s)) := by
      rcases hW with rfl | rfl
      · exact (((h.alloc _).alloc _).drew).mp
      · exact ((((h.alloc _).alloc _).alloc _).drew).mp
    have q := hM.look T.s hs
    rw [← hv]; exact q
  have hl1 := hlook _ (.inl rfl)
  have hl2 := hlook _ (.inr rfl)
  clear hlook
  have hc2 : ∀ o1 o2, ((w.alloc o1).alloc o2).cell? ⟨bc, 0, none⟩ = some (.map (some bm)) := fun o1 o2 => ((h.alloc o1).alloc o2).c0
  have hc3 : ∀ o1 o2 o3, (((w.alloc o1).alloc o2).alloc o3).cell? ⟨bc, 0, none⟩ = some (.map (some bm)) := fun o1 o2 o3 => (((h.alloc o1).alloc o2).alloc o3).c0
  have hd3 : ∀ o2 o3, (((w.alloc (.cells #[.int .i64 (srt T), .string T.s, .int .i64 (tval T), .int .i64 T.line] 129)).alloc o2).alloc o3).cell? ⟨w.heap.size, 1, none⟩ = some (.string T.s) := fun o2 o3 => by
    rw [World.cell?_alloc_past _ _ _ (by simp; omega)]
    exact cell_of (heap_alloc2_old w _ _) 1 _ rfl
  by_cases h0 : (g T.s).so = sort
  · have e : ((g T.s).so != sort) = false := by simpa using h0
    have hf : thFind g T.s sort = g T.s := if_pos h0
    rw [e, flt_false, hf]
    unfold tkV thV at *
    rw [hv]
    clear h h0 hf
    go_enter Tryz.func158, Tryz.ntmps158
    go_wp2
    go_region
    all_goals go_wp2
    all_goals refine bodyPost_ret (results_cell_row rfl _ _ (w.heap.size + 1) 227 _ _ _ rfl (heap_alloc3_mid w _ _ _) Tryz.underlying227 rfl (by kernel_rfl)) rfl ?_
    all_goals exact ⟨rfl, (((World.grownBy_alloc w _ _).trans (World.grownBy_alloc _ _ _)).trans (World.grownBy_alloc _ _ _)).trans (grown_drew' _ _), (((HC.out.alloc _).alloc _).alloc _).drew⟩
  · have e : ((g T.s).so != sort) = true := by simpa using h0
    have hf : thFind g T.s sort = noTh := if_neg h0
    rw [e, hf]
    have HF := Kept.mk (fun o1 o2 o3 => sn_fault ((((HC.out.alloc o1).alloc o2).alloc o3).drew) T 4)
    have hk : Hid (∀ w1 (o1 o3 : Obj), (((w.alloc o1).alloc (.cells #[.int .i64 0, .int .i64 0, .int .i64 0, .int .i64 0, .slice none 0 0] 227)).alloc o3).drew.grownBy w1 (some bc) → w1.heap[w.heap.size + 1]? = some (.cells #[.int .i64 0, .int .i64 0, .int .i64 0, .int .i64 0, .slice none 0 0] 227 (0, 0))) := fun w1 o1 o3 hg =>
      past0 (heap_alloc3_mid w _ _ _) (by simp) ((grown_drew' _ (some bc)).trans hg) (by simp; omega)
    unfold tkV thV at *
    unfold noTh
    clear h h0 hf
    go_enter Tryz.func158, Tryz.ntmps158
    go_wp2
    go_region
    all_goals go_wp2_with (go_at_call 152; refine (HF.get _ _ _).mono ?_; rintro e w1 ⟨rfl, hg1, hC1⟩; have hB := hk.out w1 _ _ hg1; have b0 := cell_of hB 0 _ rfl; have b1 := cell_of hB 1 _ rfl; have b2 := cell_of hB 2 _ rfl; have b3 := cell_of hB 3 _ rfl; have b4 := cell_of hB 4 _ rfl; have z0 := frozen_of hB 0; have z1 := frozen_of hB 1; have z2 := frozen_of hB 2; have z3 := frozen_of hB 3; have z4 := frozen_of hB 4)
    all_goals refine bodyPost_ret (results_cell_row rfl _ _ (w.heap.size + 1) 227 _ _ _ rfl (set5 hB _ _ _ _ _) Tryz.underlying227 rfl (by kernel_rfl)) rfl ?_
    all_goals have g5 := set5_grown w1 (w.heap.size + 1) (.int .i64 0) (.int .i64 0) (.int .i64 0) (.int .i64 0) (.slice none 0 0)
    all_goals exact ⟨rfl, grown_newr (((((World.grownBy_alloc w _ _).trans (World.grownBy_alloc _ _ _)).trans (World.grownBy_alloc _ _ _)).trans (grown_drew' _ _)).trans hg1) (by omega) g5, hC1.kept g5 (by simp; omega) (by simp; omega)⟩

/-- things have their numbers as a list -/
def ThOk (g : ByteArray → Th) : Prop := ∀ s, ∃ a m c, (g s).v = .slice a m c
set_option maxRecDepth 100000 in
set_option maxHeartbeats 1000000 in
theorem sn_variable (h : CkS w bc bm n (fun s => thV (g s)) vV vC st) (T : PTok) (hs : T.s.size ≤ 2000) (hv : ThOk g) :
    Calls Tryz.prog 159 #[.pointer (some ⟨bc, 0, none⟩), tkV T] w fun e w' => e = .returned (.int .i64 (thFind g T.s 4).pl) ∧ w.grownBy w' (some bc) ∧ CkS w' bc bm n (fun s => thV (g s)) vV vC (flt ((g T.s).so != 4) 4 T.line st) := by
  have HC : Hid (CkS w bc bm n (fun s => thV (g s)) vV vC st) := h
  have HF := Kept.mk (fun o => sn_find (HC.out.alloc o) T hs 4 (hv T.s))
  have hfield := fun a b c d e W => (thing_field a b c d e W).2.1
  generalize thFind g T.s 4 = F at *
  unfold tkV at *
  clear h hv
  go_enter Tryz.func159, Tryz.ntmps159
  go_wp2_with (go_at_call 158; refine (HF.get _).mono ?_; simp only [show thV F = .agg #[.int .i64 F.so, .int .i64 F.pl, .int .i64 F.lo, .int .i64 F.hi, F.v] from rfl]; rintro e w1 ⟨rfl, hg1, hC1⟩)
  go_ret
  exact ⟨rfl, (World.grownBy_alloc w _ _).trans hg1, hC1⟩
end Go.Proofs.YthpcbbnabnlanaaGreatDoor

/-
  The program's checker: truth; the rule's sort and relation; a term's factor.
-/
namespace Go.Proofs.YthpcbbnabnlanaaGreatDoor
open Go.RowKit
set_option linter.unusedVariables false
variable {w w' : World} {bc bm n : Nat} {g : ByteArray → Th} {vV vC : Value} {st : FSt}

/-- bounds that are no truth's -/
def noTruthT (t : Th) : Bool := decide (t.lo < 0) || decide (1 < t.hi)
set_option maxRecDepth 100000 in
set_option maxHeartbeats 2000000 in
theorem sn_truth (h : CkS w bc bm n (fun s => thV (g s)) vV vC st) (T : PTok) (hs : T.s.size ≤ 2000) (hv : ThOk g) :
    Calls Tryz.prog 155 #[.pointer (some ⟨bc, 0, none⟩), tkV T] w fun e w' => e = .returned (.int .i64 (thFind g T.s 4).pl) ∧ w.grownBy w' (some bc) ∧ CkS w' bc bm n (fun s => thV (g s)) vV vC (flt (noTruthT (thFind g T.s 4)) 7 T.line (flt ((g T.s).so != 4) 4 T.line st)) := by
  have HC : Hid (CkS w bc bm n (fun s => thV (g s)) vV vC st) := h
  have hlt := h.lt
  have HF := Kept.mk (fun o => sn_find (HC.out.alloc o) T hs 4 (hv T.s))
  have hvF : ∃ a m c, (thFind g T.s 4).v = .slice a m c := by
    unfold thFind; split
    · exact hv _
    · exact ⟨_, _, _, rfl⟩
  obtain ⟨va, vm, vc, hvF⟩ := hvF
  generalize thFind g T.s 4 = F at *
  generalize flt ((g T.s).so != 4) 4 T.line st = S1 at *
  have HT : Hid (∀ (w1 : World) (o : Obj), CkS w1 bc bm n (fun s => thV (g s)) vV vC S1 → Calls Tryz.prog 152 #[.pointer (some ⟨bc, 0, none⟩), .int .i64 7, tkV T] (w1.alloc o) fun e w' => e = .returned (.tuple #[]) ∧ (w1.alloc o).grownBy w' (some bc) ∧ CkS w' bc bm n (fun s => thV (g s)) vV vC (flt true 7 T.line S1)) := fun w1 o hC => sn_fault (hC.alloc o) T 7
  have hk : Hid (∀ (w1 : World) (t : Obj), (w.alloc t).grownBy w1 (some bc) → w.heap.size < w1.heap.size ∧ w1.heap[w.heap.size]? = some t) := fun w1 t hg => ⟨by have := hg.size; simp at this; omega, past0 (heap_alloc_new w t) (by simp) hg (by simp; omega)⟩
  have hk2 : Hid (∀ (w1 w2 : World) (t : Obj), bc < w1.heap.size → (w1.alloc t).grownBy w2 (some bc) → w2.heap[w1.heap.size]? = some t) := fun w1 w2 t hb hg => past0 (heap_alloc_new w1 t) (by simp) hg (by simp; omega)
  unfold tkV at *
  clear h hv
  by_cases h1 : F.lo < 0
  · have e : noTruthT F = true := by simp [noTruthT, h1]
    rw [e]
    clear e
    go_enter Tryz.func155, Tryz.ntmps155
    go_wp2_with (first | (go_at_call 152; refine (HT.out w1 _ hC1).mono ?_; rintro e w2 ⟨rfl, hg2, hC2⟩; have hC := hk2.out w1 w2 _ hl1 hg2; have d1 := cell_of hC 1 _ rfl) | (go_at_call 158; refine (HF.get _).mono ?_; simp only [show thV F = .agg #[.int .i64 F.so, .int .i64 F.pl, .int .i64 F.lo, .int .i64 F.hi, F.v] from rfl, hvF]; rintro e w1 ⟨rfl, hg1, hC1⟩; obtain ⟨hs1, hB1⟩ := hk.out w1 _ hg1; have hl1 := hC1.lt; have a0 := cell_of hB1 0 _ rfl; have a1 := cell_of hB1 1 _ rfl; have a2 := cell_of hB1 2 _ rfl; have a3 := cell_of hB1 3 _ rfl))
    go_ret
    exact ⟨rfl, (((World.grownBy_alloc w _ _).trans hg1).trans (World.grownBy_alloc _ _ _)).trans hg2, hC2⟩
  · have h1' : 0 ≤ F.lo := by omega
    by_cases h2 : 1 < F.hi
    · have e : noTruthT F = true := by simp [noTruthT, h2]
      rw [e]
      clear e h1
      go_enter Tryz.func155, Tryz.ntmps155
      go_wp2_with (first | (go_at_call 152; refine (HT.out w1 _ hC1).mono ?_; rintro e w2 ⟨rfl, hg2, hC2⟩; have hC := hk2.out w1 w2 _ hl1 hg2; have d1 := cell_of hC 1 _ rfl) | (go_at_call 158; refine (HF.get _).mono ?_; simp only [show thV F = .agg #[.int .i64 F.so, .int .i64 F.pl, .int .i64 F.lo, .int .i64 F.hi, F.v] from rfl, hvF]; rintro e w1 ⟨rfl, hg1, hC1⟩; obtain ⟨hs1, hB1⟩ := hk.out w1 _ hg1; have hl1 := hC1.lt; have a0 := cell_of hB1 0 _ rfl; have a1 := cell_of hB1 1 _ rfl; have a2 := cell_of hB1 2 _ rfl; have a3 := cell_of hB1 3 _ rfl))
      go_ret
      exact ⟨rfl, (((World.grownBy_alloc w _ _).trans hg1).trans (World.grownBy_alloc _ _ _)).trans hg2, hC2⟩
    · have e : noTruthT F = false := by simp [noTruthT, h1, h2]
      have h2' : F.hi ≤ 1 := by omega
      rw [e, flt_false]
      clear e h1 h2
      go_enter Tryz.func155, Tryz.ntmps155
      go_wp2_with (first | (go_at_call 158; refine (HF.get _).mono ?_; simp only [show thV F = .agg #[.int .i64 F.so, .int .i64 F.pl, .int .i64 F.lo, .int .i64 F.hi, F.v] from rfl, hvF]; rintro e w1 ⟨rfl, hg1, hC1⟩))
      go_ret
      exact ⟨rfl, ((World.grownBy_alloc w _ _).trans hg1).trans (World.grownBy_alloc _ _ _), hC1.alloc _⟩
/-- a keyword's rule: 0 lin, 1 when, 2 at, 3 diff, 4 or -/
def rSort (k : Int) : Int := if k = 7 then 1 else if k = 8 then 2 else if k = 9 then 3 else if k = 10 then 4 else 0
def rRel (k : Int) : Int := if k = 15 then 1 else if k = 16 then 2 else 0
set_option maxHeartbeats 1000000 in
theorem sn_ruleSort (k : Int) (w : World) : Calls Tryz.prog 154 #[.int .i64 k] w fun e w' => e = .returned (.int .i64 (rSort k)) ∧ w' = w := by
  obtain ⟨x, hx⟩ : ∃ x, x = rSort k := ⟨_, rfl⟩
  have hk : Hid (x = rSort k) := hx
  rw [← hx]; clear hx
  go_enter Tryz.func154, Tryz.ntmps154
  go_wp2
  all_goals go_ret
  all_goals refine ⟨ret_int ?_, rfl⟩
  all_goals rw [hk.out]
  all_goals clear hk
  all_goals go_light
  all_goals simp_all [rSort]
set_option maxHeartbeats 1000000 in
theorem sn_ruleRel (k : Int) (w : World) : Calls Tryz.prog 157 #[.int .i64 k] w fun e w' => e = .returned (.int .i64 (rRel k)) ∧ w' = w := by
  obtain ⟨x, hx⟩ : ∃ x, x = rRel k := ⟨_, rfl⟩
  have hk : Hid (x = rRel k) := hx
  rw [← hx]; clear hx
  go_enter Tryz.func157, Tryz.ntmps157
  go_wp2
  all_goals go_ret
  all_goals refine ⟨ret_int ?_, rfl⟩
  all_goals rw [hk.out]
  all_goals clear hk
  all_goals go_light
  all_goals simp_all [rRel]
end Go.Proofs.YthpcbbnabnlanaaGreatDoor
