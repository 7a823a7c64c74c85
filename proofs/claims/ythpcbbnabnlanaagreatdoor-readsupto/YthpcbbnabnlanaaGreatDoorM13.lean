import Derived.Test.YthpcbbnabnlanaaGreatDoorM12
import Derived.Deep.LoopGhost
import Derived.Lib.ItoaNum
import Derived.Test.YthpcbbnabnlanaaGreatDoorCards
import Derived.Test.YthpcbbnabnlanaaGreatDoorTie
import Derived.WalkKit
import Derived.ProofKit
import Derived.OpenShut
import Derived.Carry
import Derived.Deep.DeepHandedRow
import Derived.Deep.DeepWitnessRowRef
import Derived.Lib.LaidTab
import Derived.Lib.LaidIn
import Derived.Stop.LaidErr
/-
  The program's checker: factor; what rows are read.
-/
namespace Go.Proofs.YthpcbbnabnlanaaGreatDoor
open Go.RowKit
set_option linter.unusedVariables false
variable {w w' : World} {bc bm n : Nat} {g : ByteArray → Th} {f : ByteArray → Value} {vV vC : Value} {st : FSt}

/-- a token whose bytes are few and whose number is not great -/
def TOk (t : PTok) : Prop := t.s.size ≤ 2000 ∧ -9999999999 ≤ tval t ∧ tval t ≤ 9999999999
theorem flat_get {α : Type} (cell : α → List Value) (sz : Nat) (hsz : ∀ a, (cell a).length = sz) (l : List α) : ∀ (i : Nat) (a : α), l[i]? = some a → ∀ (k : Nat) (u : Value), (cell a)[k]? = some u → (l.flatMap cell)[i * sz + k]? = some u := by
  induction l with
  | nil => intro i a h; simp at h
  | cons b l ih =>
    intro i a h k u hk
    rw [List.flatMap_cons]
    cases i with
    | zero =>
      have e : b = a := by simpa using h
      subst e
      rw [Nat.zero_mul, Nat.zero_add, List.getElem?_append_left]
      · exact hk
      · exact (List.getElem?_eq_some_iff.1 hk).1
    | succ i =>
      have := ih i a (by simpa using h) k u hk
      rw [List.getElem?_append_right (by rw [hsz]; rw [Nat.succ_mul]; omega), hsz, show (i + 1) * sz + k - sz = i * sz + k by rw [Nat.succ_mul]; omega]
      exact this
/-- a row that is read: its elements' cells -/
structure RowIn {α : Type} (w : World) (v : Value) (gr cap : Nat) (cell : α → List Value) (l : List α) : Prop where
  is : v = .slice (some ⟨gr, 0, none⟩) l.length cap
  row : ∀ j u, (l.flatMap cell)[j]? = some u → w.cell? ⟨gr, j, none⟩ = some u
  lt : gr < w.heap.size
theorem RowIn.kept {α : Type} {v : Value} {gr cap : Nat} {cell : α → List Value} {l : List α} (h : RowIn w v gr cap cell l) {r : Option Nat} (hg : w.grownBy w' r) (hne : r ≠ some gr) : RowIn w' v gr cap cell l :=
  ⟨h.is, fun j u hu => hg.cell (h.row j u hu) (fun e => hne e.symm), Nat.lt_of_lt_of_le h.lt hg.size⟩
theorem RowIn.at {α : Type} {v : Value} {gr cap : Nat} {cell : α → List Value} {l : List α} (h : RowIn w v gr cap cell l) {sz : Nat} (hsz : ∀ a, (cell a).length = sz) {i : Nat} {a : α} (ha : l[i]? = some a) (k : Nat) (u : Value) (hk : (cell a)[k]? = some u) : w.cell? ⟨gr, i * sz + k, none⟩ = some u :=
  h.row _ _ (flat_get cell sz hsz l i a ha k u hk)
theorem RowIn.of_own {α : Type} {B e sz : Nat} {v : Value} {cell : α → List Value} {l : List α} (h : w.ownsRow B e sz v l.length (l.flatMap cell)) (hl : 0 < l.length) : ∃ gr cap, RowIn w v gr cap cell l ∧ B ≤ gr := by
  rcases h.2 with ⟨_, h2⟩ | ⟨gr, cap, cur, h1, hB, h3, h4, h5, h6, h7⟩
  · omega
  · refine ⟨gr, cap, ⟨h1, fun j u hu => ?_, (Array.getElem?_eq_some_iff.1 h3).1⟩, hB⟩
    rw [← h7] at hu
    have hj : j < (cur.toList.take (l.length * sz)).length := (List.getElem?_eq_some_iff.1 hu).1
    rw [List.getElem?_take_of_lt (by simp at hj; omega)] at hu
    exact cell_of h3 j u (by simpa using hu)

def facSt (t : GTerm) (st : FSt) : FSt := if srt t.first = 3 then flt (outB (tval t.first) 100) 5 t.first.line st else st
def facV (t : GTerm) : Int := if t.neg then -(if srt t.first = 3 then tval t.first else 1) else (if srt t.first = 3 then tval t.first else 1)
set_option maxRecDepth 100000 in
set_option maxHeartbeats 2000000 in
theorem sn_factor (h : CkS w bc bm n f vV vC st) (t : GTerm) (ht : TOk t.first) :
    Calls Tryz.prog 184 #[.pointer (some ⟨bc, 0, none⟩), gtermV t] w fun e w' => e = .returned (.int .i64 (facV t)) ∧ w.grownBy w' (some bc) ∧ CkS w' bc bm n f vV vC (facSt t st) := by
  have HC : Hid (CkS w bc bm n f vV vC st) := h
  have hlt := h.lt
  obtain ⟨neg, T, N⟩ := t
  have hb1 := ht.2.1
  have hb2 := ht.2.2
  simp only at hb1 hb2
  have HF := Kept.mk (fun o => sn_number (HC.out.alloc o) T 100 (by decide) (by decide))
  have hk : Hid (∀ (w1 : World) (t : Obj), (w.alloc t).grownBy w1 (some bc) → w1.heap[w.heap.size]? = some t) := fun w1 t hg => past0 (heap_alloc_new w t) (by simp) hg (by simp; omega)
  unfold gtermV
  clear h ht
  by_cases h3 : srt T = 3
  · have e3 : (srt T == 3) = true := by simpa using h3
    have eS : Hid (facSt ⟨neg, T, N⟩ st = flt (outB (tval T) 100) 5 T.line st) := by unfold Hid facSt; simp [h3]
    rw [eS.out]
    unfold tkV at *
    cases neg with
    | true =>
      have eV : facV ⟨true, T, N⟩ = - tval T := by simp [facV, h3]
      rw [eV]
      clear eV h3
      go_enter Tryz.func184, Tryz.ntmps184
      go_wp2_with (go_at_call 151; refine (HF.get _).mono ?_; rintro e w1 ⟨rfl, hg1, hC1⟩; have hB := hk.out w1 _ hg1; have d0 := cell_of hB 0 _ rfl)
      go_ret
      exact ⟨rfl, (World.grownBy_alloc w _ _).trans hg1, hC1⟩
    | false =>
      have eV : facV ⟨false, T, N⟩ = tval T := by simp [facV, h3]
      rw [eV]
      clear eV h3
      go_enter Tryz.func184, Tryz.ntmps184
      go_wp2_with (go_at_call 151; refine (HF.get _).mono ?_; rintro e w1 ⟨rfl, hg1, hC1⟩; have hB := hk.out w1 _ hg1; have d0 := cell_of hB 0 _ rfl)
      go_ret
      exact ⟨rfl, (World.grownBy_alloc w _ _).trans hg1, hC1⟩
  · have e3 : (srt T == 3) = false := by simpa using h3
    have eS : Hid (facSt ⟨neg, T, N⟩ st = st) := by unfold Hid facSt; simp [h3]
    rw [eS.out]
    cases neg with
    | true =>
      have eV : facV ⟨true, T, N⟩ = -1 := by simp [facV, h3]
      rw [eV]
      clear eV h3
      go_enter Tryz.func184, Tryz.ntmps184
      go_wp2
      go_ret
      exact ⟨rfl, World.grownBy_alloc w _ _, HC.out.alloc _⟩
    | false =>
      have eV : facV ⟨false, T, N⟩ = 1 := by simp [facV, h3]
      rw [eV]
      clear eV h3
      go_enter Tryz.func184, Tryz.ntmps184
      go_wp2
      go_ret
      exact ⟨rfl, World.grownBy_alloc w _ _, HC.out.alloc _⟩
end Go.Proofs.YthpcbbnabnlanaaGreatDoor

/-
  What the program's Plain asks of tokens: its tests of sorts, its spelling.
-/
namespace Go.Proofs.YthpcbbnabnlanaaGreatDoor
open Go.RowKit
set_option linter.unusedVariables false

def jBehind (k : Int) : Bool := k == 18 || k == 22 || k == 17 || k == 11
def jAhead (k : Int) : Bool := k == 11 || k == 13 || k == 12 || k == 19 || k == 18 || k == 17
set_option maxHeartbeats 1000000 in
theorem pl_behind (k : Int) (w : World) : Calls Tryz.prog 72 #[.int .i64 k] w fun e w' => e = .returned (.bool (jBehind k)) ∧ w' = w := by
  obtain ⟨x, hx⟩ : ∃ x, x = jBehind k := ⟨_, rfl⟩
  have hk : Hid (x = jBehind k) := hx
  rw [← hx]; clear hx
  go_enter Tryz.func72, Tryz.ntmps72
  go_wp2
  all_goals go_ret
  all_goals refine ⟨ret_bool ?_, rfl⟩
  all_goals rw [hk.out]
  all_goals clear hk
  all_goals go_light
  all_goals simp_all [jBehind]
set_option maxHeartbeats 1000000 in
theorem pl_ahead (k : Int) (w : World) : Calls Tryz.prog 73 #[.int .i64 k] w fun e w' => e = .returned (.bool (jAhead k)) ∧ w' = w := by
  obtain ⟨x, hx⟩ : ∃ x, x = jAhead k := ⟨_, rfl⟩
  have hk : Hid (x = jAhead k) := hx
  rw [← hx]; clear hx
  go_enter Tryz.func73, Tryz.ntmps73
  go_wp2
  all_goals go_ret
  all_goals refine ⟨ret_bool ?_, rfl⟩
  all_goals rw [hk.out]
  all_goals clear hk
  all_goals go_light
  all_goals simp_all [jAhead]
/-- a token's bytes in the plain text -/
def spell (t : PTok) : List UInt8 := if srt t = 3 then Lib.itoa (tval t) else t.s.data.toList
theorem grow_Sort (w : World) (k : Nat) (os : Array Obj) : w.grownBy (Go.Sort.grow (w.drewN k) os) none :=
  ⟨rfl, rfl, rfl, by simp [Go.Sort.grow], fun i hi _ => by
    show (w.heap ++ os)[i]? = w.heap[i]?
    exact Array.getElem?_append_left hi⟩
abbrev PowTab (w : World) : Prop := Lib.TabIs Tryz.prog w "internal/strconv.uint64pow10" .u64 Lib.pow10Tab
theorem tab_kept {w w' : World} (h : PowTab w) (hb : ∀ k, k < w.heap.size → w'.heap[k]? = w.heap[k]?) : PowTab w' := by
  unfold PowTab Lib.TabIs World.var? at *
  cases hg : Tryz.prog.globalNamed "internal/strconv.uint64pow10" with
  | none => rw [hg] at h; cases h
  | some g =>
    rw [hg] at h
    simp only [Option.bind_some] at h ⊢
    have hlt : g < w.heap.size := by
      rcases Nat.lt_or_ge g w.heap.size with q | q
      · exact q
      · rw [Array.getElem?_eq_none q] at h; cases h
    rw [hb g hlt]; exact h
theorem nd_le : ∀ (k u : Nat), u < 10 ^ (k + 1) → Lib.nDigits u ≤ k + 1
  | 0, u, h => by rw [Lib.nDigits_small (by simpa using h)]; exact Nat.le_refl _
  | k + 1, u, h => by
    by_cases q : u < 10
    · rw [Lib.nDigits_small q]; omega
    · rw [Lib.nDigits_big q]
      have h2 : u < 10 * 10 ^ (k + 1) := by rw [Nat.pow_succ] at h; omega
      have := nd_le k (u / 10) (by omega)
      omega
theorem TOk.lit {t : PTok} (h : TOk t) : (spell t).length ≤ 2000 := by
  unfold spell
  split
  · have h1 := h.2.1; have h2 := h.2.2
    unfold Lib.itoa
    split
    · rw [List.length_cons, Lib.decDigits_length]
      have := nd_le 10 (tval t).natAbs (by have : (10 : Nat) ^ (10 + 1) = 100000000000 := by decide
                                           omega)
      omega
    · rw [Lib.decDigits_length]
      have := nd_le 10 (tval t).toNat (by have : (10 : Nat) ^ (10 + 1) = 100000000000 := by decide
                                          omega)
      omega
  · rw [Array.length_toList]; exact h.1
set_option maxRecDepth 100000 in
set_option maxHeartbeats 1000000 in
theorem pl_spell (T : PTok) (hT : TOk T) (w : World) (ht : PowTab w) :
    Calls Tryz.prog 76 #[tkV T] w fun e w' => e = .returned (.string ⟨(spell T).toArray⟩) ∧ w.grownBy w' none := by
  have h1 := hT.2.1
  have h2 := hT.2.2
  by_cases h3 : srt T = 3
  · have e3 : (srt T == 3) = true := by simpa using h3
    have hs : spell T = Lib.itoa (tval T) := if_pos h3
    rw [hs]
    have K := Kept.mk (fun o => Tryz.strconv_Itoa (tval T) (by omega) (by omega) (w.alloc o) (tab_kept ht (fun k hk => heap_alloc_old w o hk)))
    unfold tkV
    clear h3 hs
    go_enter Tryz.func76, Tryz.ntmps76
    go_wp2_with (go_at_call 125; refine (K.get _).mono ?_; rintro e w1 ⟨rfl, kk, os, hw1⟩; subst w1)
    go_ret
    exact ⟨rfl, (World.grownBy_alloc w _ none).trans (grow_Sort _ _ _)⟩
  · have e3 : (srt T == 3) = false := by simpa using h3
    have hs : spell T = T.s.data.toList := if_neg h3
    rw [hs]
    unfold tkV
    clear h3 hs
    go_enter Tryz.func76, Tryz.ntmps76
    go_wp2
    go_ret
    exact ⟨rfl, World.grownBy_alloc w _ none⟩
def needless (a b : PTok) : Bool := srt a == 3 && tval a == 1 && srt b == 21
set_option maxRecDepth 100000 in
set_option maxHeartbeats 1000000 in
theorem pl_needless (T U : PTok) (gt off len cap : Nat) (hl : 2 ≤ len) (w : World) (c0 : w.cell? ⟨gt, off, none⟩ = some (.int .i64 (srt T))) (c2 : w.cell? ⟨gt, off + 2, none⟩ = some (.int .i64 (tval T))) (d0 : w.cell? ⟨gt, off + 4, none⟩ = some (.int .i64 (srt U))) :
    Calls Tryz.prog 71 #[.slice (some ⟨gt, off, none⟩) len cap] w fun e w' => e = .returned (.bool (needless T U)) ∧ w' = w := by
  have hl1 : (1 : Int) < len := by omega
  have hl0 : (0 : Int) < len := by omega
  unfold needless
  by_cases h3 : srt T = 3
  · have e3 : (srt T == 3) = true := by simpa using h3
    rw [e3]
    by_cases h1 : tval T = 1
    · have e1 : (tval T == 1) = true := by simpa using h1
      rw [e1]
      clear h3 h1
      go_enter Tryz.func71, Tryz.ntmps71
      go_wp2
      go_ret
      exact ⟨rfl, rfl⟩
    · have e1 : (tval T == 1) = false := by simpa using h1
      rw [e1]
      clear h3 h1
      go_enter Tryz.func71, Tryz.ntmps71
      go_wp2
      go_ret
      exact ⟨rfl, rfl⟩
  · have e3 : (srt T == 3) = false := by simpa using h3
    rw [e3]
    clear h3
    go_enter Tryz.func71, Tryz.ntmps71
    go_wp2
    go_ret
    exact ⟨rfl, rfl⟩
end Go.Proofs.YthpcbbnabnlanaaGreatDoor

/-
  For every statement of the seat: a start that is there, in which the listed variables hold what their initialisers lay; the table that strconv reads.
-/
namespace Go.Proofs.YthpcbbnabnlanaaGreatDoor
open Go.ChangeShapes Go.WideShapes Go.ChangeAt Go.RowKit
set_option linter.unusedVariables false

theorem cd_own : ownKnob Tryz.prog.godebug = none := by kernel_rfl
theorem cd_laidOut : laidOutB Tryz.prog = true := by kernel_rfl
def d64 : List Int := [0, 1, 56, 2, 57, 49, 28, 3, 61, 58, 42, 50, 38, 29, 17, 4, 62, 47, 59, 36, 45, 43, 51, 22, 53, 39, 33, 30, 24, 18, 12, 5, 63, 55, 48, 27, 60, 41, 37, 16, 46, 35, 44, 21, 52, 32, 23, 11, 54, 26, 40, 15, 34, 20, 31, 10, 25, 14, 19, 9, 13, 8, 7, 6]
def d32 : List Int := [0, 1, 28, 2, 29, 14, 24, 3, 30, 22, 20, 15, 25, 17, 4, 8, 31, 27, 13, 23, 21, 19, 16, 7, 26, 12, 18, 6, 11, 5, 10, 9]
theorem laid32_is {H : Type} : (Rows.laid_math_bits_deBruijn32tab : DataW H) = Lib.tabData .u8 d32 := rfl
theorem laid64_is {H : Type} : (Rows.laid_math_bits_deBruijn64tab : DataW H) = Lib.tabData .u8 d64 := rfl
theorem laidPow_is {H : Type} : (Rows.laid_internal_strconv_uint64pow10 : DataW H) = Lib.tabData .u64 Lib.pow10Tab := rfl
/-- the list of every row -/
def laidAll : List (String × DataW Unit) := [("math/bits.deBruijn32tab", Rows.laid_math_bits_deBruijn32tab), ("math/bits.deBruijn64tab", Rows.laid_math_bits_deBruijn64tab), ("internal/strconv.uint64pow10", Rows.laid_internal_strconv_uint64pow10), ("strconv.ErrRange", Rows.laid_strconv_ErrRange), ("strconv.ErrSyntax", Rows.laid_strconv_ErrSyntax)]
theorem gPow : Tryz.prog.globalNamed "internal/strconv.uint64pow10" = some 4 := by kernel_rfl
theorem gPowType : (Tryz.prog.globals[4]?).map (·.type) = some 287 := by kernel_rfl
theorem cellsU64 : Tryz.prog.cellsOf 159 = 1 := by kernel_rfl
theorem cellsPow : Tryz.prog.cellsOf 287 = 20 := by kernel_rfl
/-- what the rows' list gives: the table of powers of ten -/
theorem pow_of_laid {W : World} (h : laidMet Tryz.prog laidAll W) : PowTab W :=
  Lib.tabIs_of_head (rest := [("strconv.ErrRange", Rows.laid_strconv_ErrRange), ("strconv.ErrSyntax", Rows.laid_strconv_ErrSyntax)]) gPow gPowType Tryz.underlying287 Tryz.underlying159 cellsU64 cellsPow (h.tail.tail)
/-- a world in which the listed variables hold what their initialisers lay: two blocks more, for the two errors -/
def laidWorld (P : Program) (os : Os) : World :=
  let N := (World.settled P os).heap.size
  let w0 := World.holding P os ⟨#[.cells #[.string ⟨#[118, 97, 108, 117, 101, 32, 111, 117, 116, 32, 111, 102, 32, 114, 97, 110, 103, 101]⟩] 294, .cells #[.string ⟨#[105, 110, 118, 97, 108, 105, 100, 32, 115, 121, 110, 116, 97, 120]⟩] 294], #[], []⟩
  let put (h : Array Obj) (g : Nat) (cs : Array Value) : Array Obj := h.modify g fun
    | .cells _ t frozen => .cells cs t frozen
    | o => o
  let h0 := put (put w0.heap 2 #[.iface 292 (.pointer (some ⟨N + 1, 0, none⟩))]) 3 #[.iface 292 (.pointer (some ⟨N, 0, none⟩))]
  let h1 := put (put (put h0 0 (d64.map (Value.int .u8)).toArray) 4 (Lib.pow10Tab.map (Value.int .u64)).toArray) 5 (d32.map (Value.int .u8)).toArray
  { w0 with heap := h1 }
set_option maxRecDepth 1000000 in
theorem laid_met (os : Os) (args : Array Value) : laidMet Tryz.prog laidAll ((laidWorld Tryz.prog os).forCall (fun _ _ => 0) ⟨#[], args, []⟩).memory :=
  (LaidIn.of_run [5, 0, 4, 3, (World.settled Tryz.prog default).heap.size, 2, (World.settled Tryz.prog default).heap.size + 1] 10 (by kernel_rfl) (by kernel_rfl) (by kernel_rfl) (by kernel_rfl)).met
end Go.Proofs.YthpcbbnabnlanaaGreatDoor

/-
  For every statement of the seat: a call that answers true and turns nothing old meets its row.
-/
namespace Go.Proofs.YthpcbbnabnlanaaGreatDoor
open Go.ChangeShapes Go.WideShapes Go.ChangeAt Go.RowKit
set_option linter.unusedVariables false
variable {H : Type} {enc : TypeId × Value → H} {W W' : World}

theorem kept_grown (hg : W.grownBy W' none) (may : MemPlace → Prop) : W.keptBut W' may := by
  refine ⟨hg.os, hg.output, fun i hi => ?_⟩
  rw [hg.block i hi (by simp)]
  cases h : W.heap[i]? with
  | none => simp
  | some o =>
    cases o with
    | cells c t fr => exact ⟨rfl, rfl, rfl, fun _ _ => rfl⟩
    | map es clock => exact .inr ⟨rfl, rfl⟩
    | _ => rfl
theorem below_of (hg : W.grownBy W' none) : Below W.heap.size W W' := ⟨hg.os, hg.tape, hg.output, hg.size, fun k hk => hg.block k hk (by simp)⟩
/-- every argument reads as it did -/
theorem args_again (hg : W.grownBy W' none) : ∀ (ts : List TypeId) (vs : List Value) (ds : List (DataW H)) (ps : List MemPlace), (∀ t ∈ ts, Tryz.prog.readableRec t = true ∧ t < Tryz.prog.types.size) → (∀ x ∈ ps, x.block < W.heap.size) →
    DataW.TrodAll enc Tryz.prog W 0 (fun _ => true) true ts vs ds ps → DataW.TrodAll enc Tryz.prog W' 0 (fun b => decide (b < W.heap.size)) true ts vs ds ps := by
  intro ts
  induction ts with
  | nil =>
    intro vs ds ps _ _ h
    cases vs with
    | nil => cases ds with
      | nil => exact h
      | cons _ _ => exact h.elim
    | cons _ _ => exact h.elim
  | cons t ts ih =>
    intro vs ds ps hr hlt h
    cases vs with
    | nil => exact h.elim
    | cons v vs => cases ds with
      | nil => exact h.elim
      | cons d ds =>
        obtain ⟨p, q, h1, h2, rfl⟩ := h
        exact ⟨p, q, Below.trod cd_laidOut (hr t (by simp)).1 (hr t (by simp)).2 h1 (below_of hg) (fun x hx => hlt x (by simp [hx])), ih vs ds q (fun t' ht' => hr t' (by simp [ht'])) (fun x hx => hlt x (by simp [hx])) h2, rfl⟩
theorem post_true {f : Func} {s : ChangeSpec} {args : Array Value} {ds gs : List (DataW H)} {before : List MemPlace} (hv : s.vars = []) (hrt : f.resultTypes = #[4]) (hread : ∀ t ∈ f.params.toList, Tryz.prog.readableRec t = true ∧ t < Tryz.prog.types.size)
    (hW : DataW.Whole enc Tryz.prog f.params.toList s.vars false W args.toList ds gs before) (hfn : s.fn H ds = { results := [.lit (.bool true)], args := ds }) (hg : W.grownBy W' none) : s.post enc Tryz.prog f false true false false W args (.bool true) W' := by
  have hlt := hW.lt
  have hW' := hW
  obtain ⟨p, q, hA, hV, rfl, hfz, hnd⟩ := hW
  rw [hv] at hV
  obtain ⟨rfl, rfl⟩ := trodVars_none hV
  have e : s.fn H (ds ++ []) = { results := [.lit (.bool true)], args := ds } := by rw [List.append_nil]; exact hfn
  refine ⟨ds, [], p ++ [], [], p, [], hW', ?_, ?_, ?_, kept_grown hg _, fun h => by cases h⟩
  · rw [hrt, e]
    exact trodAll_cons_mk (shut_bool Tryz.underlying4 _) trodAll_mk0
  · rw [e]
    exact args_again hg _ _ _ _ hread (fun x hx => hlt x (by simp [hx])) hA
  · rw [e, hv]
    exact rfl
end Go.Proofs.YthpcbbnabnlanaaGreatDoor

/-
  The program's checker: what stands at the head of a round of its loops.
-/
namespace Go.Proofs.YthpcbbnabnlanaaGreatDoor
open Go.RowKit
set_option linter.unusedVariables false
variable {w w' : World} {bc bm n : Nat} {g : ByteArray → Th} {f : ByteArray → Value} {vV vC : Value} {st : FSt}

/-- the faults of a row of things, one behind the other -/
def foldSt {α : Type} (step : Nat → α → FSt → FSt) : Nat → List α → FSt → FSt
  | _, [], st => st
  | k, t :: ts, st => foldSt step (k + 1) ts (step k t st)
def SnRel {α : Type} (l : List α) (step : Nat → α → FSt → FSt) (RES : FSt) (v1 : Value) (gr cap : Nat) (cell : α → List Value) (E sz : Nat) (outc : α → List Value) (w : World) (bc bm n : Nat) (f : ByteArray → Value) (vV vC : Value) (m : Nat) (v vi : Value) (wr : World) : Prop :=
  ∃ (i : Nat) (S : FSt), i ≤ l.length ∧ m = l.length - i ∧ vi = .int .i64 i ∧ Hid (foldSt step i (l.drop i) S = RES) ∧ CkS wr bc bm n f vV vC S ∧ RowIn wr v1 gr cap cell l ∧ wr.ownsRow w.heap.size E sz v i ((l.take i).flatMap outc) ∧ w.grownBy wr (some bc)
theorem sn_step {α : Type} {l : List α} {step : Nat → α → FSt → FSt} {RES : FSt} {v1 : Value} {gr cap : Nat} {cell : α → List Value} {E sz : Nat} {outc : α → List Value} {v v' : Value} {wr w2 w3 : World} {o : Obj} {i : Nat} {S : FSt} {a : α} (h0 : CkS w bc bm n f vV vC st) (hgr : gr < w.heap.size) (hg : w.grownBy w2 (some bc)) (ha : l[i]? = some a) (hl : Hid (foldSt step i (l.drop i) S = RES))
    (hC : CkS w2 bc bm n f vV vC (step i a S)) (hR : RowIn w2 v1 gr cap cell l) (hown : wr.ownsRow w.heap.size E sz v i ((l.take i).flatMap outc)) (hown' : w3.ownsRow w.heap.size E sz v' (i + 1) ((l.take i).flatMap outc ++ outc a)) (hgrow : (w2.alloc o).grownBy w3 v.ownBlock) :
    SnRel l step RES v1 gr cap cell E sz outc w bc bm n f vV vC (l.length - (i + 1)) v' (.int .i64 ((i : Int) + 1)) w3 := by
  have e : ∀ k, v.ownBlock = some k → w.heap.size ≤ k := fun k hk => (hown.lt k hk).1
  have hi : i < l.length := (List.getElem?_eq_some_iff.1 ha).1
  have ha' : l[i] = a := (List.getElem?_eq_some_iff.1 ha).2
  have := h0.lt; have := h0.ltm
  refine ⟨i + 1, step i a S, by omega, rfl, rfl, ?_, ?_, ?_, ?_, ?_⟩
  · have q := hl.out
    rw [List.drop_eq_getElem_cons hi, ha'] at q
    exact q
  · exact (hC.alloc o).kept hgrow (fun q => by have := e _ q; omega) (fun q => by have := e _ q; omega)
  · exact (hR.kept (World.grownBy_alloc w2 o none) (by simp)).kept hgrow (fun q => by have := e _ q; omega)
  · rw [List.take_add_one, ha, List.flatMap_append]; simpa using hown'
  · have g2 := hg.trans (World.grownBy_alloc w2 o (some bc))
    exact ⟨hgrow.os.trans g2.os, hgrow.tape.trans g2.tape, hgrow.output.trans g2.output, Nat.le_trans g2.size hgrow.size, fun i hi hn =>
      (hgrow.block i (Nat.lt_of_lt_of_le hi g2.size) (fun q => by have := e i q.symm; omega)).trans (g2.block i hi hn)⟩
theorem sn_past {w1 : World} {wr : World} {t : Obj} (hb : bc < wr.heap.size) (hg : (wr.alloc t).grownBy w1 (some bc)) : wr.heap.size < w1.heap.size ∧ w1.heap[wr.heap.size]? = some t :=
  ⟨by have := hg.size; simp at this; omega, past0 (heap_alloc_new wr t) (by simp) hg (by simp; omega)⟩
def termStP (g : ByteArray → Th) (k : Nat) (t : GTerm) (st : FSt) : FSt := flt ((g t.name.s).so != 4) 4 t.name.line (facSt t (flt (decide ((8 : Int) ≤ k)) 6 t.first.line st))
def termOut (g : ByteArray → Th) (t : GTerm) : List Value := [.int .i64 (thFind g t.name.s 4).pl, .int .i64 (facV t)]
def varStP (g : ByteArray → Th) (k : Nat) (t : PTok) (st : FSt) : FSt := flt ((g t.s).so != 4) 4 t.line (flt (decide ((8 : Int) ≤ k)) 6 t.line st)
def varOut (g : ByteArray → Th) (t : PTok) : List Value := [.int .i64 (thFind g t.s 4).pl]
def litStP (g : ByteArray → Th) (k : Nat) (t : GLit) (st : FSt) : FSt := flt (noTruthT (thFind g t.name.s 4)) 7 t.name.line (flt ((g t.name.s).so != 4) 4 t.name.line (flt (decide ((8 : Int) ≤ k)) 6 t.first.line st))
def litOut (g : ByteArray → Th) (t : GLit) : List Value := [.int .i64 (thFind g t.name.s 4).pl, .int .i64 (if srt t.first = 22 then 0 else 1)]
def numStP (k : Nat) (t : PTok) (st : FSt) : FSt := flt (outB (tval t) 1000) 5 t.line (flt (decide ((20 : Int) ≤ k)) 6 t.line st)
def numOut (t : PTok) : List Value := [.int .i64 (tval t)]
theorem infoRT : (Tryz.prog.info? 201).map (fun i => (i.zero, i.size, i.bytes)) = some (some (.agg #[.int .i64 0, .int .i64 0]), 2, 16) := by kernel_rfl
theorem infoRL : (Tryz.prog.info? 203).map (fun i => (i.zero, i.size, i.bytes)) = some (some (.agg #[.int .i64 0, .int .i64 0]), 2, 16) := by kernel_rfl
theorem infoQI : (Tryz.prog.info? 3).map (fun i => (i.zero, i.size, i.bytes)) = some (some (.int .i64 0), 1, 8) := by kernel_rfl
theorem two_one (a b : Int) : ∀ u ∈ [Value.int .i64 a, .int .i64 b], u.oneCell' = true := by
  intro u hu; simp at hu; rcases hu with rfl | rfl <;> rfl
theorem one_one (a : Int) : ∀ u ∈ [Value.int .i64 a], u.oneCell' = true := by
  intro u hu; simp at hu; rcases hu with rfl; rfl
end Go.Proofs.YthpcbbnabnlanaaGreatDoor

/-
  The program's checker: a list is declared.
-/
namespace Go.Proofs.YthpcbbnabnlanaaGreatDoor
open Go.RowKit
set_option linter.unusedVariables false
variable {w w' : World} {bc bm n : Nat} {g : ByteArray → Th} {f : ByteArray → Value} {vV vC : Value} {st : FSt}

/-- the thing of a name more -/
def putTh (g : ByteArray → Th) (s : ByteArray) (t : Th) : ByteArray → Th := fun s' => if s' = s then t else g s'
theorem Ck.put {kd ln : Int} (h : Ck w bc bm n (fun s => thV (g s)) vV vC kd ln) (s : ByteArray) (hs : s.size ≤ 2000) (hn : n < 5000) (t : Th) :
    ∃ w', (Instr.mapUpdate 140 (.map (some bm)) (.string s) (thV t)).run Tryz.prog w = .ok () w' ∧ w.grownBy w' (some bm) ∧ Ck w' bc bm (n + 1) (fun s' => thV (putTh g s t s')) vV vC kd ln := by
  obtain ⟨w', hr, hm, hg⟩ := h.mp.put s hs hn (thV t)
  refine ⟨w', hr, hg, ?_⟩
  have ne : some bm ≠ some bc := by simpa using h.ne
  have e : (fun s' => if s' = s then thV t else thV (g s')) = fun s' => thV (putTh g s t s') := by
    funext s'; unfold putTh; split <;> rfl
  rw [e] at hm
  exact ⟨hg.cell h.c0 (fun q => ne q.symm), hg.cell h.c1 (fun q => ne q.symm), hg.cell h.c2 (fun q => ne q.symm), hg.cell h.c3 (fun q => ne q.symm), hg.cell h.c4 (fun q => ne q.symm),
    (World.frozen?_of_block (a := ⟨bc, 1, none⟩) (hg.block bc h.lt (fun q => ne q.symm))).trans h.f1, (World.frozen?_of_block (a := ⟨bc, 2, none⟩) (hg.block bc h.lt (fun q => ne q.symm))).trans h.f2, (World.frozen?_of_block (a := ⟨bc, 3, none⟩) (hg.block bc h.lt (fun q => ne q.symm))).trans h.f3, (World.frozen?_of_block (a := ⟨bc, 4, none⟩) (hg.block bc h.lt (fun q => ne q.symm))).trans h.f4,
    Nat.lt_of_lt_of_le h.lt hg.size, hm, Nat.lt_of_lt_of_le h.ltm hg.size, h.ne⟩
theorem But.of {S : List Nat} {a b : World} {r : Nat} (h : a.grownBy b (some r)) (hr : r ∈ S) : But S a b := (But.refl S a).grown h (fun k e => by cases e; exact .inl hr)

set_option maxRecDepth 100000 in
set_option maxHeartbeats 4000000 in
theorem sn_list (h : CkS w bc bm n (fun s => thV (g s)) vV vC st) (s : GSt) (vn vt vl v1 : Value) (gr cap : Nat) (hR : RowIn w v1 gr cap tokCell s.numbers) (hgc : gr ≠ bc) (hgm : gr ≠ bm) (hl : s.numbers.length ≤ 3000) (hok : ∀ a ∈ s.numbers, TOk a) (hon : TOk s.name) (hn : n < 5000)
    (h1n : vn.oneCell' = true) (h1t : vt.oneCell' = true) (h1l : vl.oneCell' = true) :
    Calls Tryz.prog 122 #[.pointer (some ⟨bc, 0, none⟩), .agg (gsCells s vn v1 vt vl)] w fun e w' => e = .returned (.tuple #[]) ∧ ∃ v, w'.ownsRow w.heap.size 3 1 v s.numbers.length (s.numbers.flatMap numOut) ∧ But [bc, bm] w w' ∧
      CkS w' bc bm (n + 1) (fun s' => thV (putTh g s.name.s ⟨5, 0, 0, 0, v⟩ s')) vV vC (foldSt numStP 0 s.numbers (flt ((g s.name.s).so != 0) 4 s.name.line st)) := by
  obtain ⟨i0, hi0, hz0, hz1, hz2⟩ := info_parts infoQI
  have HC : Hid (CkS w bc bm n (fun s => thV (g s)) vV vC st) := h
  have hlt := h.lt
  have hltm := h.ltm
  have hgl := hR.lt
  have HR : Hid (RowIn w v1 gr cap tokCell s.numbers) := hR
  have HOK : Hid (∀ a ∈ s.numbers, TOk a) := hok
  have K1 := Kept.mk (fun {W : World} (hW : CkS W bc bm n (fun s => thV (g s)) vV vC st) => sn_undeclared hW s.name hon.1)
  obtain ⟨kw, N, names, l, terms, rel, lits⟩ := s
  simp only at *
  generalize hS1 : flt ((g N.s).so != 0) 4 N.line st = S1 at *
  obtain ⟨RES, hRES⟩ : ∃ R, R = foldSt numStP 0 l S1 := ⟨_, rfl⟩
  have HS : Hid (foldSt numStP 0 (l.drop 0) S1 = RES) := by rw [Hid, hRES]; rfl
  rw [← hRES]
  obtain rfl := hR.is
  have hN := hon.1
  unfold tkV at K1
  unfold gsCells
  simp only
  clear h hR hRES hok hS1 hon
  go_enter Tryz.func122, Tryz.ntmps122
  go_wp2_with (go_at_call 150; refine (K1.get (HC.out.alloc _)).mono ?_; rintro e w1 ⟨rfl, hg1, hC1⟩; obtain ⟨hs1, hB1⟩ := sn_past hlt hg1; have d9 := cell_of hB1 9 _ rfl; have d5 := cell_of hB1 5 _ rfl)
  have HR1 : RowIn w1 _ gr cap tokCell l := (HR.out.kept (World.grownBy_alloc w _ none) (by simp)).kept hg1 (by simp; omega)
  go_loopg [4, 14] l.length (fun m v vi wr => SnRel l numStP RES (.slice (some ⟨gr, 0, none⟩) l.length cap) gr cap tokCell 3 1 numOut w1 bc bm n (fun s => thV (g s)) vV vC m v vi wr)
  case atStart => exact ⟨0, S1, Nat.zero_le _, rfl, rfl, HS, hC1, HR1, World.ownsRow_nil _ _ _ _, grown_refl _ _⟩
  case round =>
    obtain ⟨i, S, hi, rfl, rfl, hlex, hC, hR, hown, hgr⟩ := hrel
    have hlr := hC.lt
    have hlm := hC.ltm
    have hltb := hC1.lt
    have hglb := HR1.lt
    by_cases hlt2 : i < l.length
    · obtain ⟨a, ha⟩ : ∃ a, l[i]? = some a := ⟨l[i], by simp [hlt2]⟩
      have hoka := HOK.out a (List.mem_of_getElem? ha)
      have c0 : wr.cell? ⟨gr, i * 4, none⟩ = some (.int .i64 (srt a)) := hR.at (sz := 4) (fun _ => rfl) ha 0 _ rfl
      have c1 : wr.cell? ⟨gr, i * 4 + 1, none⟩ = some (.string a.s) := hR.at (sz := 4) (fun _ => rfl) ha 1 _ rfl
      have c2 : wr.cell? ⟨gr, i * 4 + 2, none⟩ = some (.int .i64 (tval a)) := hR.at (sz := 4) (fun _ => rfl) ha 2 _ rfl
      have c3 : wr.cell? ⟨gr, i * 4 + 3, none⟩ = some (.int .i64 a.line) := hR.at (sz := 4) (fun _ => rfl) ha 3 _ rfl
      have J1 := Kept.mk (fun {W : World} (hW : CkS W bc bm n (fun s => thV (g s)) vV vC S) => sn_room hW a i 20)
      have J2 := Kept.mk (fun {W : World} (hW : CkS W bc bm n (fun s => thV (g s)) vV vC (flt (decide ((20 : Int) ≤ i)) 6 a.line S)) => sn_number hW a 1000 (by decide) (by decide))
      have hlt3 : (i : Int) < l.length := by omega
      have h03 : (0 : Int) ≤ i := by omega
      unfold tkV at J1 J2
      go_wp2_with (first | (at_builtin; refine wpList_append_own _ rfl _ _ 33 rfl w1.heap.size 3 i0 (.int .i64 0) 1 8 Tryz.underlying33 hi0 hz0 hz1 hz2 rfl (by decide) _ _ _ rfl (ho2.alloc _) ⟨w3.heap.size, 0, none⟩ 1 1 (numOut a) rfl rfl (World.news_of_block (heap_alloc_new _ _)) (one_one _) ?c3 ?c4 ?c5 ?_) | (go_at_call 151; refine (J2.get hCa).mono ?_; rintro e w3 ⟨rfl, hg3, hCb⟩; have ho2 := ho1.kept hg3 (low_ne' hown hltb)) | (go_at_call 149; refine (J1.get (hC.alloc _)).mono ?_; rintro e w2 ⟨rfl, hg2, hCa⟩; obtain ⟨hs2, hB2⟩ := sn_past hlr hg2; have ho1 := (hown.alloc _).kept hg2 (low_ne' hown hltb); have b0 := cell_of hB2 0 _ rfl; have b1 := cell_of hB2 1 _ rfl; have b2 := cell_of hB2 2 _ rfl; have b3 := cell_of hB2 3 _ rfl))
      case c3 => unfold maxLen; omega
      case c4 => omega
      case c5 => have := hgr.size; have := hg2.size; have := hg3.size; simp at *; omega
      intro v' w9 hown' hgrow _
      have R := sn_step (step := numStP) hC1 hglb (((hgr.trans (World.grownBy_alloc _ _ _)).trans hg2).trans hg3) ha hlex hCb (((hR.kept (World.grownBy_alloc _ _ none) (by simp)).kept hg2 (by simp; omega)).kept hg3 (by simp; omega)) hown hown' hgrow
      clear hown' hgrow hown
      go_wp2
      go_roundg (l.length - (i + 1))
      case measure => omega
      case rel => simpa using R
    · obtain rfl : i = l.length := by omega
      have hl2 : Hid (RES = S) := by rw [Hid, ← hlex.out, List.drop_of_length_le (Nat.le_refl _)]; rfl
      rw [List.take_of_length_le (Nat.le_refl _)] at hown
      obtain ⟨va, vm, vc, rfl⟩ := own_slice hown
      have hB9 := past0 hB1 hs1 hgr (by simp; omega)
      have e5 := cell_of hB9 5 _ rfl
      have e0 := hC.c0
      obtain ⟨w9, hrun, hg9, hC9⟩ := hC.drew.put N.s hN hn ⟨5, 0, 0, 0, .slice va vm vc⟩
      unfold thV at hrun
      clear hlex
      go_wp2
      go_region
      all_goals go_wp2
      all_goals go_end0
      all_goals rw [hl2.out]
      all_goals exact ⟨rfl, .slice va vm vc, World.ownsRow.mono (((hown.kept (grown_drew' _ none) (own_none _))).kept hg9 (low_ne' hown (by omega))) (by omega), (((((But.refl _ w).alloc _).grown hg1 (fun k e => by cases e; exact .inl (by simp))).grown hgr (fun k e => by cases e; exact .inl (by simp))).drew).grown hg9 (fun k e => by cases e; exact .inl (by simp)), hC9⟩
end Go.Proofs.YthpcbbnabnlanaaGreatDoor

/-
  The program's checker: a variable is declared.
-/
namespace Go.Proofs.YthpcbbnabnlanaaGreatDoor
open Go.RowKit
set_option linter.unusedVariables false
variable {w w' : World} {bc bm n : Nat} {g : ByteArray → Th} {f : ByteArray → Value} {vV vC : Value} {st : FSt}

set_option maxHeartbeats 1000000 in
theorem sn_Clone (s : ByteArray) (w : World) (hs : s.size ≤ 2000) : Calls Tryz.prog 153 #[.string s] w fun e w' => e = .returned (.string s) ∧ w.grownBy w' none := by
  have K := Kept.mk (Tryz.stringslite_Clone s w (by omega))
  go_enter Tryz.func153, Tryz.ntmps153
  go_wp2_with (go_at_call 183; refine K.get.mono ?_; rintro e w1 ⟨rfl, hb⟩)
  go_ret
  exact ⟨rfl, hb.os, hb.tape, hb.output, hb.size, fun k hk _ => hb.block k hk⟩
/-- a variable as the program keeps it -/
structure QVar where
  name : ByteArray
  low : Int
  high : Int
def qvCell (v : QVar) : List Value := [.string v.name, .int .i64 v.low, .int .i64 v.high]
theorem infoRV : (Tryz.prog.info? 78).map (fun i => (i.zero, i.size, i.bytes)) = some (some (.agg #[.string .empty, .int .i64 0, .int .i64 0]), 3, 32) := by kernel_rfl
theorem qv_one (v : QVar) : ∀ u ∈ qvCell v, u.oneCell' = true := by
  intro u hu; simp [qvCell] at hu; rcases hu with rfl | rfl | rfl <;> rfl
end Go.Proofs.YthpcbbnabnlanaaGreatDoor
