import Derived.Test.YthpcbbnabnlanaaGreatDoorM31
import Derived.Deep.LoopGhost
/-
  The law's played, of models and names; Reads.
-/
namespace Go.Proofs.YthpcbbnabnlanaaGreatDoor
open Go.RowKit
set_option linter.unusedVariables false
variable {w w' w1 : World} {B bw c T : Nat} {V : LV} {D : LD} {K : Keep → Prop}

/-- a script in memory -/
def ScriptAt (w : World) (v : Value) (ops : List OpV) : Prop :=
  (ops = [] ∧ ∃ a c, v = .slice a 0 c) ∨ ∃ g off cap, v = .slice (some ⟨g, off, none⟩) ops.length cap ∧ g < w.heap.size ∧ ∀ i o, ops[i]? = some o → ∀ j u, o.cells[j]? = some u → w.cell? ⟨g, off + i * 7 + j, none⟩ = some u
theorem LG.later {T' : Nat} (h : LG w B bw V D c K T) (hT : T ≤ T') : LG w B bw V D c K T' :=
  ⟨h.lw, h.n1, h.n2, h.n3, h.l1, h.l2, h.l3, h.ms, h.m20, fun i hi => by have := h.bd i hi; omega, by have := h.cb; omega⟩
def V0 : LV := ⟨.slice none 0 0, .slice none 0 0, .slice none 0 0, .slice none 0 0, .slice none 0 0, .slice none 0 0, .slice none 0 0⟩
def D0 : LD := ⟨[], [], [], [], [], [], []⟩
theorem lg_start (w : World) : LG (w.alloc (.cells #[.slice none 0 0, .slice none 0 0, .slice none 0 0, .slice none 0 0, .slice none 0 0, .slice none 0 0, .slice none 0 0, .int .i64 0] 59)) (w.heap.size + 1) w.heap.size V0 D0 0 (fun _ => False) 0 := by
  refine ⟨⟨heap_alloc_new w _, by omega, by simp, fun i hi => ?_, fun i j hi hj hne k => ?_, fun x hx => hx.elim⟩, rfl, rfl, rfl, fun x hx => by simp [D0] at hx, fun x hx => by simp [D0] at hx, fun x hx => by simp [D0] at hx, fun x hx => by simp [D0] at hx, by simp [D0], fun i hi => ?_, by omega⟩
  · rcases seven hi with rfl | rfl | rfl | rfl | rfl | rfl | rfl <;> exact World.ownsRow_nil _ _ _ _
  · rcases seven hi with rfl | rfl | rfl | rfl | rfl | rfl | rfl <;> intro e <;> cases e
  · rcases seven hi with rfl | rfl | rfl | rfl | rfl | rfl | rfl <;> simp [D0, LD.cnt]
/-- what stands at a round's head -/
def PydRel (w0 : World) (B bw n : Nat) (m : Nat) (vo vi : Value) (wr : World) : Prop :=
  ∃ (i : Nat) (V : LV) (D : LD) (c : Nat) (K : Keep → Prop), i ≤ n ∧ m = n - i ∧ vo = .bool true ∧ vi = .int .i64 i ∧ LG wr B bw V D c K (1 + i) ∧ FrB B bw w0 wr
theorem frb_low {o : Obj} (h : FrB (w.heap.size + 1) w.heap.size (w.alloc o) w') : ∀ k, k < w.heap.size → w'.heap[k]? = w.heap[k]? := fun k hk => (h.block k (by omega) (by omega)).trans (heap_alloc_old w o hk)
theorem frb_grown {o : Obj} (h : FrB (w.heap.size + 1) w.heap.size (w.alloc o) w') : w.grownBy w' none := ⟨h.os, h.tape, h.output, by have := h.size; simp at this; omega, fun k hk _ => frb_low h k hk⟩
def simpleB : ByteArray := ⟨#[118, 97, 114, 32, 97, 58, 32, 48, 46, 46, 50, 59, 32, 108, 105, 110, 32, 97, 32, 33, 61, 32, 49, 59]⟩

set_option maxRecDepth 100000 in
set_option maxHeartbeats 8000000 in
theorem law_played_low (v : Value) (ops : List OpV) (hv : ScriptAt w v ops) (ht : PowTab w) (hn : ops.length ≤ 1050000) (hb : ∀ o ∈ ops, -9223372036854775808 ≤ o.on ∧ o.on ≤ 9223372036854775807) :
    Calls Tryz.prog 15 #[v, .int .i64 2] w fun e w' => e = .returned (.bool true) ∧ w.grownBy w' none := by
  obtain ⟨sa, sc, rfl, hsc⟩ : ∃ sa sc, v = .slice sa ops.length sc ∧ ∀ i o, ops[i]? = some o → ∃ g off, sa = some ⟨g, off, none⟩ ∧ g < w.heap.size ∧ ∀ j u, o.cells[j]? = some u → w.cell? ⟨g, off + i * 7 + j, none⟩ = some u := by
    rcases hv with ⟨rfl, a, c, e⟩ | ⟨g, off, cap, e, h1, h2⟩
    · exact ⟨a, c, e, fun i o ho => by simp at ho⟩
    · exact ⟨_, cap, e, fun i o ho => ⟨g, off, rfl, h1, h2 i o ho⟩⟩
  have HT := hide ht
  have HS := hide hsc
  have HB := hide hb
  have KB := Kept.mk (law_begins (lg_start w) (tab_kept ht (fun k hk => heap_alloc_old w _ hk)) simpleB)
  unfold simpleB at KB
  clear hv hsc ht hb
  go_enter Tryz.func15, Tryz.ntmps15
  go_wp2_with (go_at_call 32; refine KB.get.mono ?_; rintro e w1 ⟨rfl, V1, D1, c1, K1, hG1, hF1⟩)
  have HST : Hid (PydRel (w.alloc (.cells #[.slice none 0 0, .slice none 0 0, .slice none 0 0, .slice none 0 0, .slice none 0 0, .slice none 0 0, .slice none 0 0, .int .i64 0] 59)) (w.heap.size + 1) w.heap.size ops.length ops.length (.bool true) (.int .i64 0) w1) := ⟨0, V1, D1, c1, K1, by omega, by omega, rfl, rfl, hG1, hF1⟩
  clear hG1 hF1 KB
  go_loopg [6, 8] ops.length (fun m vo vi wr => PydRel (w.alloc (.cells #[.slice none 0 0, .slice none 0 0, .slice none 0 0, .slice none 0 0, .slice none 0 0, .slice none 0 0, .slice none 0 0, .int .i64 0] 59)) (w.heap.size + 1) w.heap.size ops.length m vo vi wr)
  case atStart => exact HST.out
  case round =>
    clear HST
    obtain ⟨i, V, D, c, K, hi, rfl, rfl, rfl, hG, hF⟩ := hrel
    by_cases hlt : i < ops.length
    · have hlt3 : (i : Int) < ops.length := by omega
      have h03 : (0 : Int) ≤ i := by omega
      obtain ⟨o, ho⟩ : ∃ o, ops[i]? = some o := ⟨ops[i], by simp [hlt]⟩
      obtain ⟨g, off, rfl, hgl, hc⟩ := HS.out i o ho
      have hob := HB.out o (List.mem_of_getElem? ho)
      have low := frb_low hF
      have cell : ∀ j u, o.cells[j]? = some u → wr.cell? ⟨g, off + i * 7 + j, none⟩ = some u := fun j u hu => (World.cell?_of_block (a := ⟨g, off + i * 7 + j, none⟩) (low g hgl)).trans (hc j u hu)
      have k0 : wr.cell? ⟨g, off + i * 7, none⟩ = some (.int .i64 o.kd) := cell 0 _ rfl
      have k1 := cell 1 _ rfl
      have k2 := cell 2 _ rfl
      have k3 := cell 3 _ rfl
      have k4 := cell 4 _ rfl
      have k5 := cell 5 _ rfl
      have k6 := cell 6 _ rfl
      have ht := tab_kept HT.out low
      by_cases hk : o.kd ≤ 2
      · have KS := Kept.mk (law_step_low hG (by omega) ht o hk hob.1 hob.2)
        unfold OpV.cells at KS
        have HF := hide hF
        clear hG hF ht low cell hc
        go_wp2_with (first | (go_at_call 34; refine (law_still hG2 (by omega)).mono ?_; rintro e w3 ⟨rfl, hG3, hg3⟩) | (go_at_call 33; refine KS.get.mono ?_; rintro e w2 ⟨rfl, V2, D2, c2, K2, hG2, hF2⟩))
        have HR : Hid (PydRel (w.alloc (.cells #[.slice none 0 0, .slice none 0 0, .slice none 0 0, .slice none 0 0, .slice none 0 0, .slice none 0 0, .slice none 0 0, .int .i64 0] 59)) (w.heap.size + 1) w.heap.size ops.length (ops.length - (i + 1)) (.bool true) (.int .i64 ((i : Int) + 1)) w3) := ⟨i + 1, V2, D2, c2, K2, by omega, rfl, rfl, by simp, hG3, (HF.out.trans hF2).grown hG2.lw.hB hg3 (fun k e => by cases e)⟩
        clear hG2 hF2 hG3 hg3
        go_roundg (ops.length - (i + 1))
        case measure => omega
        case rel => exact HR.out
      · have hk' : (2 : Int) < o.kd := by omega
        have HG := hide (hG.later (T' := 1 + (i + 1)) (by omega))
        have HF := hide hF
        clear hG hF ht low cell hc
        go_wp2
        go_roundg (ops.length - (i + 1))
        case measure => omega
        case rel => exact ⟨i + 1, V, D, c, K, by omega, rfl, rfl, by go_num, HG.out, HF.out⟩
    · obtain rfl : i = ops.length := by omega
      have HF := hide hF
      clear hG hF
      go_wp2
      go_ret
      exact ⟨rfl, frb_grown HF.out⟩
end Go.Proofs.YthpcbbnabnlanaaGreatDoor
