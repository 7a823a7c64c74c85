import Derived.Test.YthpcbbnabnlanaaGreatDoorM16
/-
  The program's Plain.
-/
namespace Go.Proofs.YthpcbbnabnlanaaGreatDoor
open Go.RowKit
set_option linter.unusedVariables false

/-- the plain text of tokens from a place on, behind a token of a sort -/
def plainF (toks : List PTok) : Nat → Nat → Int → List UInt8 → List UInt8
  | 0, _, _, out => out
  | f + 1, i, bf, out =>
    if srt (tkN toks i) = 1 then out
    else if needless (tkN toks i) (tkN toks (i + 1)) then plainF toks f (i + 2) bf out
    else plainF toks f (i + 1) (srt (tkN toks i)) (out ++ (if jBehind bf || jAhead (srt (tkN toks i)) then [] else [32]) ++ spell (tkN toks i) ++ (if srt (tkN toks i) = 11 then [10] else []))
def plainT (toks : List PTok) : List UInt8 := plainF toks toks.length 0 11 []
theorem plainF_end {toks : List PTok} {f i : Nat} {bf : Int} {out : List UInt8} (h : srt (tkN toks i) = 1) : plainF toks f i bf out = out := by
  cases f with
  | zero => rfl
  | succ f => simp only [plainF]; rw [if_pos h]
theorem plainF_skip {toks : List PTok} {f i : Nat} {bf : Int} {out : List UInt8} (h : srt (tkN toks i) ≠ 1) (h2 : needless (tkN toks i) (tkN toks (i + 1)) = true) : plainF toks (f + 1) i bf out = plainF toks f (i + 2) bf out := by
  simp only [plainF]; rw [if_neg h, if_pos h2]
theorem plainF_step {toks : List PTok} {f i : Nat} {bf : Int} {out : List UInt8} (h : srt (tkN toks i) ≠ 1) (h2 : needless (tkN toks i) (tkN toks (i + 1)) = false) : plainF toks (f + 1) i bf out = plainF toks f (i + 1) (srt (tkN toks i)) (out ++ (if jBehind bf || jAhead (srt (tkN toks i)) then [] else [32]) ++ spell (tkN toks i) ++ (if srt (tkN toks i) = 11 then [10] else [])) := by
  simp only [plainF]; rw [if_neg h, h2]; simp
theorem KeptBut.low {w wr w' : World} (h : w.grownBy wr none) (k : KeptBut w.heap.size w.heap.size wr w') : w.grownBy w' none :=
  ⟨k.os.trans h.os, k.tape.trans h.tape, k.output.trans h.output, Nat.le_trans h.size k.size, fun i hi hn => (k.block i (Nat.lt_of_lt_of_le hi h.size) (by omega) (.inl hi)).trans (h.block i hi hn)⟩
theorem KeptBut.box {B b c : Nat} {w w' : World} {cs : Array Value} (k : KeptBut B b w w') (h : w.heap[c]? = some (.cells cs 129 (0, 0))) (hc : c ≠ b) : w'.heap[c]? = some (.cells cs 129 (0, 0)) :=
  (k.block c (Array.getElem?_eq_some_iff.1 h).1 hc (.inr fun cs' fr q => by rw [h] at q; cases q)).trans h
theorem isB_grown {B b : Nat} {bs : List Value} {w w' : World} {r : Option Nat} (h : Lib.IsBuilder 146 5 B b bs w) (hg : w.grownBy w' none) : Lib.IsBuilder 146 5 B b bs w' := by
  have key : ∀ p, Lib.BuilderAt 146 5 B b p bs w → Lib.BuilderAt 146 5 B b p bs w' := fun p hx => by
    obtain ⟨hB, v, hbk, hown, hne⟩ := hx
    exact ⟨hB, v, past0 hbk (Array.getElem?_eq_some_iff.1 hbk).1 hg (by simp), hown.kept hg (own_none _), hne⟩
  rcases h with h | h
  · exact .inl (key _ h)
  · exact .inr (key _ h)
def PlRel (toks : List PTok) (RES : List UInt8) (w : World) (vb vi : Value) (wr : World) : Prop :=
  ∃ (i f : Nat) (bf : Int) (out : List UInt8), i < toks.length ∧ vb = .int .i64 bf ∧ vi = .int .i64 i ∧ toks.length ≤ i + f ∧ Hid (plainF toks f i bf out = RES) ∧ out.length ≤ 3000 * i ∧
    Lib.IsBuilder 146 5 w.heap.size w.heap.size (Lib.byteCells out) wr ∧ w.grownBy wr none

set_option maxRecDepth 100000 in
set_option maxHeartbeats 4000000 in
theorem pl_Plain {w : World} {gt cap : Nat} {toks : List PTok} (hE : EndOk toks) (hok : ∀ i, i < toks.length → TOk (tkN toks i)) (hcap : toks.length ≤ cap) (hrow : ∀ j u, (tokCells toks)[j]? = some u → w.cell? ⟨gt, j, none⟩ = some u) (hlg : gt < w.heap.size) (ht : PowTab w) :
    Calls Tryz.prog 46 #[.slice (some ⟨gt, 0, none⟩) toks.length cap] w fun e w' => e = .returned (.string ⟨(plainT toks).toArray⟩) ∧ w.grownBy w' none := by
  have hlen := hE.len
  have hpos := hE.pos
  obtain ⟨RES, hR⟩ : ∃ R, R = plainT toks := ⟨_, rfl⟩
  have HS : Hid (plainF toks toks.length 0 11 [] = RES) := by rw [Hid, hR]; rfl
  have HR : Hid (∀ j u, (tokCells toks)[j]? = some u → w.cell? ⟨gt, j, none⟩ = some u) := hrow
  have HK : Hid (∀ i, i < toks.length → TOk (tkN toks i)) := hok
  have HT : Hid (PowTab w) := ht
  have HL : Hid (srt (tkN toks (toks.length - 1)) = 1) := hE.last
  rw [← hR]
  clear hrow hR hok ht
  go_enter Tryz.func46, Tryz.ntmps46
  go_wp2
  go_loopw [4, 5] (fun vb vi wr => PlRel toks RES w vb vi wr) (fun _ vi _ => toks.length - (intOf vi).toNat)
  case atStart => exact ⟨0, toks.length, 11, [], hpos, rfl, rfl, by omega, HS, by simp, .inl ⟨Nat.le_refl _, .slice none 0 0, heap_alloc_new w _, World.ownsRow_nil _ _ _ _, by simp [Value.ownBlock]⟩, World.grownBy_alloc _ _ _⟩
  case round =>
    obtain ⟨i, f, bf, out, hi, rfl, rfl, hf, hlex, hout, hB, hgr⟩ := hrel
    obtain ⟨T, hT⟩ : ∃ T, T = tkN toks i := ⟨_, rfl⟩
    obtain ⟨q0, q1, q2, q3⟩ := tokCells_get toks i _ (tkN_get hi)
    rw [← hT] at q0 q1 q2 q3
    have cc : ∀ j u, (tokCells toks)[j]? = some u → wr.cell? ⟨gt, j, none⟩ = some u := fun j u hu => hgr.cell (HR.out j u hu) (by simp)
    have c0 := cc _ _ q0
    have c1 := cc _ _ q1
    have c2 := cc _ _ q2
    have c3 := cc _ _ q3
    have hlt3 : (i : Int) < toks.length := by omega
    have h03 : (0 : Int) ≤ i := by omega
    clear q0 q1 q2 q3
    by_cases h1 : srt T = 1
    · have e1 : (srt T != 1) = false := by simpa using h1
      have hl : Hid (RES = out) := by rw [Hid, ← hlex.out]; exact plainF_end (by rw [← hT]; exact h1)
      have K := Kept.mk (Tryz.Builder_String_any w.heap.size w.heap.size out wr hB hgr.size)
      clear hlex h1 cc hT
      go_wp2_with (go_at_call 77; refine K.get.mono ?_; rintro e w1 ⟨rfl, hb1⟩)
      go_ret
      rw [hl.out]
      exact ⟨rfl, hb1.os.trans hgr.os, hb1.tape.trans hgr.tape, hb1.output.trans hgr.output, Nat.le_trans hgr.size hb1.size, fun k hk hn => (hb1.block k hk).trans (hgr.block k hk hn)⟩
    · have e1 : (srt T != 1) = true := by simpa using h1
      have hi2 : i + 1 < toks.length := by
        rcases Nat.lt_or_ge (i + 1) toks.length with q | q
        · exact q
        · have e : i = toks.length - 1 := by omega
          rw [e] at hT; rw [hT] at h1; exact absurd HL.out h1
      obtain ⟨U, hU⟩ : ∃ U, U = tkN toks (i + 1) := ⟨_, rfl⟩
      have d0 : wr.cell? ⟨gt, i * 4 + 4, none⟩ = some (.int .i64 (srt U)) := by
        have := cc _ _ (tokCells_get toks (i + 1) _ (tkN_get hi2)).1
        rw [← hU, show (i + 1) * 4 = i * 4 + 4 by omega] at this; exact this
      have K1 := Kept.mk (fun len cp (hl : 2 ≤ len) => pl_needless T U gt (i * 4) len cp hl wr c0 c2 d0)
      obtain ⟨f, rfl⟩ : ∃ g, f = g + 1 := ⟨f - 1, by omega⟩
      have hci : ¬ cap = i := by omega
      by_cases hnd : needless T U = true
      · have hU1 : srt U ≠ 1 := by
          intro q; unfold needless at hnd; rw [q] at hnd; simp at hnd
        have hi3 : i + 2 < toks.length := by
          rcases Nat.lt_or_ge (i + 2) toks.length with q | q
          · exact q
          · have e : i + 1 = toks.length - 1 := by omega
            rw [e] at hU; rw [hU] at hU1; exact absurd HL.out hU1
        have hl : Hid (plainF toks f (i + 2) bf out = RES) := by rw [Hid, ← hlex.out]; exact (plainF_skip (by rw [← hT]; exact h1) (by rw [← hT, ← hU]; exact hnd)).symm
        rw [hnd] at K1
        clear cc hT hU h1 hnd hU1 hlex
        go_wp2_with (go_at_call 71; refine (K1.get _ _ (by omega)).mono ?_; rintro e w' ⟨rfl, hww⟩; subst w')
        go_roundw
        case rel => exact ⟨i + 2, f, bf, out, hi3, rfl, by go_num, by omega, hl, by omega, hB, hgr⟩
        case measure => simp [intOf]; omega
      · have hnd' : needless T U = false := by simpa using hnd
        rw [hnd'] at K1
        have hl := plainF_step (f := f) (bf := bf) (out := out) (by rw [← hT]; exact h1) (by rw [← hT, ← hU]; exact hnd')
        rw [hlex.out, ← hT] at hl
        have hTO := HK.out i hi
        rw [← hT] at hTO
        have HSL : Hid ((spell T).length ≤ 2000) := hTO.lit
        obtain ⟨SP, hSP⟩ : ∃ s : ByteArray, s = ⟨(spell T).toArray⟩ := ⟨_, rfl⟩
        have HSP : Hid (∀ W, PowTab W → Calls Tryz.prog 76 #[.agg #[.int .i64 (srt T), .string T.s, .int .i64 (tval T), .int .i64 T.line]] W fun e w' => e = .returned (.string SP) ∧ W.grownBy w' none) := fun W hW => by rw [hSP]; exact pl_spell T hTO W hW
        have HSC : Hid (Lib.strCells SP = Lib.byteCells (spell T)) := by rw [hSP]; simp [Hid, Lib.strCells, Lib.byteCells]
        have hsz : SP.size ≤ 2000 := by have := HSL.out; rw [hSP]; show (spell T).toArray.size ≤ 2000; simpa using this
        have hbl : w.heap.size < wr.heap.size := by
          rcases hB with q | q
          · exact q.lt
          · exact q.lt
        have hcb : wr.heap.size ≠ w.heap.size := by omega
        have hB0 := isB_grown (r := none) hB (World.grownBy_alloc wr (.cells #[.int .i64 (srt T), .string T.s, .int .i64 (tval T), .int .i64 T.line] 129) none)
        have hg0 := hgr.trans (World.grownBy_alloc wr (.cells #[.int .i64 (srt T), .string T.s, .int .i64 (tval T), .int .i64 T.line] 129) none)
        have hx0 := heap_alloc_new wr (.cells #[.int .i64 (srt T), .string T.s, .int .i64 (tval T), .int .i64 T.line] 129)
        have x0_0 := cell_of hx0 0 _ rfl
        clear cc hT hU h1 hnd hnd' hlex hTO hSP hB
        by_cases hjb : jBehind bf = true
        · have HJB : Hid (jBehind bf = true) := hjb
          clear hjb
          by_cases h11 : srt T = 11
          · have e11 : (srt T == 11) = true := by simpa using h11
            have hl : Hid (plainF toks f (i + 1) (srt T) (out ++ [] ++ spell T ++ [10]) = RES) := by rw [Hid, hl]; simp only [HJB.out]; simp [h11]
            clear h11
            go_wp2_with (first | (go_at_call 74; refine (bl_byte w.heap.size w.heap.size _ 10 _ hB2 (by simp [Lib.byteCells, Lib.strCells_length]; omega) hg2.size).mono ?_; rintro e w3 ⟨rfl, hB3, hk3⟩; have hg3 := hk3.low hg2; have hx3 := hk3.box hx2 hcb; have x0_3 := cell_of hx3 0 _ rfl) | (go_at_call 75; refine (bl_str w.heap.size w.heap.size _ SP _ hB1 (by simp [Lib.byteCells]; omega) (by omega) hg1.size).mono ?_; rintro e w2 ⟨rfl, hB2, hk2⟩; have hg2 := hk2.low hg1; have hx2 := hk2.box hx1 hcb; have x0_2 := cell_of hx2 0 _ rfl) | (go_at_call 76; refine (HSP.out _ (tab_kept HT.out (fun k hk => hg0.block k hk (by simp)))).mono ?_; rintro e w1 ⟨rfl, hq1⟩; have hg1 := hg0.trans hq1; have hx1 := past0 hx0 (Array.getElem?_eq_some_iff.1 hx0).1 hq1 (by simp); have hB1 := isB_grown (r := none) hB0 hq1) | (go_at_call 72; refine (pl_behind _ _).mono ?_; rw [HJB.out]; rintro e w' ⟨rfl, hww⟩; subst w') | (go_at_call 71; refine (K1.get _ _ (by omega)).mono ?_; rintro e w' ⟨rfl, hww⟩; subst w'))
            go_roundw
            case rel =>
              refine ⟨i + 1, f, srt T, (out ++ [] ++ spell T ++ [10]), hi2, rfl, by go_num, by omega, hl, ?_, ?_, hg3⟩
              · have := HSL.out; simp; omega
              · have e := hB3
                have es : Lib.strCells SP = Lib.byteCells (spell T) := HSC.out
                rw [es] at e
                simpa [Lib.byteCells] using e
            case measure => simp [intOf]; omega
          · have e11 : (srt T == 11) = false := by simpa using h11
            have hl : Hid (plainF toks f (i + 1) (srt T) (out ++ [] ++ spell T ++ []) = RES) := by rw [Hid, hl]; simp only [HJB.out]; simp [h11]
            clear h11
            go_wp2_with (first | (go_at_call 75; refine (bl_str w.heap.size w.heap.size _ SP _ hB1 (by simp [Lib.byteCells]; omega) (by omega) hg1.size).mono ?_; rintro e w2 ⟨rfl, hB2, hk2⟩; have hg2 := hk2.low hg1; have hx2 := hk2.box hx1 hcb; have x0_2 := cell_of hx2 0 _ rfl) | (go_at_call 76; refine (HSP.out _ (tab_kept HT.out (fun k hk => hg0.block k hk (by simp)))).mono ?_; rintro e w1 ⟨rfl, hq1⟩; have hg1 := hg0.trans hq1; have hx1 := past0 hx0 (Array.getElem?_eq_some_iff.1 hx0).1 hq1 (by simp); have hB1 := isB_grown (r := none) hB0 hq1) | (go_at_call 72; refine (pl_behind _ _).mono ?_; rw [HJB.out]; rintro e w' ⟨rfl, hww⟩; subst w') | (go_at_call 71; refine (K1.get _ _ (by omega)).mono ?_; rintro e w' ⟨rfl, hww⟩; subst w'))
            go_roundw
            case rel =>
              refine ⟨i + 1, f, srt T, (out ++ [] ++ spell T ++ []), hi2, rfl, by go_num, by omega, hl, ?_, ?_, hg2⟩
              · have := HSL.out; simp; omega
              · have e := hB2
                have es : Lib.strCells SP = Lib.byteCells (spell T) := HSC.out
                rw [es] at e
                simpa [Lib.byteCells] using e
            case measure => simp [intOf]; omega
        · have HJB : Hid (jBehind bf = false) := by rw [Hid]; simpa using hjb
          clear hjb
          by_cases hja : jAhead (srt T) = true
          · have HJA : Hid (jAhead (srt T) = true) := hja
            clear hja
            by_cases h11 : srt T = 11
            · have e11 : (srt T == 11) = true := by simpa using h11
              have hl : Hid (plainF toks f (i + 1) (srt T) (out ++ [] ++ spell T ++ [10]) = RES) := by rw [Hid, hl]; simp only [HJB.out, HJA.out]; simp [h11]
              clear h11
              go_wp2_with (first | (go_at_call 74; refine (bl_byte w.heap.size w.heap.size _ 10 _ hB2 (by simp [Lib.byteCells, Lib.strCells_length]; omega) hg2.size).mono ?_; rintro e w3 ⟨rfl, hB3, hk3⟩; have hg3 := hk3.low hg2; have hx3 := hk3.box hx2 hcb; have x0_3 := cell_of hx3 0 _ rfl) | (go_at_call 75; refine (bl_str w.heap.size w.heap.size _ SP _ hB1 (by simp [Lib.byteCells]; omega) (by omega) hg1.size).mono ?_; rintro e w2 ⟨rfl, hB2, hk2⟩; have hg2 := hk2.low hg1; have hx2 := hk2.box hx1 hcb; have x0_2 := cell_of hx2 0 _ rfl) | (go_at_call 76; refine (HSP.out _ (tab_kept HT.out (fun k hk => hg0.block k hk (by simp)))).mono ?_; rintro e w1 ⟨rfl, hq1⟩; have hg1 := hg0.trans hq1; have hx1 := past0 hx0 (Array.getElem?_eq_some_iff.1 hx0).1 hq1 (by simp); have hB1 := isB_grown (r := none) hB0 hq1) | (go_at_call 73; refine (pl_ahead _ _).mono ?_; rw [HJA.out]; rintro e w' ⟨rfl, hww⟩; subst w') | (go_at_call 72; refine (pl_behind _ _).mono ?_; rw [HJB.out]; rintro e w' ⟨rfl, hww⟩; subst w') | (go_at_call 71; refine (K1.get _ _ (by omega)).mono ?_; rintro e w' ⟨rfl, hww⟩; subst w'))
              go_roundw
              case rel =>
                refine ⟨i + 1, f, srt T, (out ++ [] ++ spell T ++ [10]), hi2, rfl, by go_num, by omega, hl, ?_, ?_, hg3⟩
                · have := HSL.out; simp; omega
                · have e := hB3
                  have es : Lib.strCells SP = Lib.byteCells (spell T) := HSC.out
                  rw [es] at e
                  simpa [Lib.byteCells] using e
              case measure => simp [intOf]; omega
            · have e11 : (srt T == 11) = false := by simpa using h11
              have hl : Hid (plainF toks f (i + 1) (srt T) (out ++ [] ++ spell T ++ []) = RES) := by rw [Hid, hl]; simp only [HJB.out, HJA.out]; simp [h11]
              clear h11
              go_wp2_with (first | (go_at_call 75; refine (bl_str w.heap.size w.heap.size _ SP _ hB1 (by simp [Lib.byteCells]; omega) (by omega) hg1.size).mono ?_; rintro e w2 ⟨rfl, hB2, hk2⟩; have hg2 := hk2.low hg1; have hx2 := hk2.box hx1 hcb; have x0_2 := cell_of hx2 0 _ rfl) | (go_at_call 76; refine (HSP.out _ (tab_kept HT.out (fun k hk => hg0.block k hk (by simp)))).mono ?_; rintro e w1 ⟨rfl, hq1⟩; have hg1 := hg0.trans hq1; have hx1 := past0 hx0 (Array.getElem?_eq_some_iff.1 hx0).1 hq1 (by simp); have hB1 := isB_grown (r := none) hB0 hq1) | (go_at_call 73; refine (pl_ahead _ _).mono ?_; rw [HJA.out]; rintro e w' ⟨rfl, hww⟩; subst w') | (go_at_call 72; refine (pl_behind _ _).mono ?_; rw [HJB.out]; rintro e w' ⟨rfl, hww⟩; subst w') | (go_at_call 71; refine (K1.get _ _ (by omega)).mono ?_; rintro e w' ⟨rfl, hww⟩; subst w'))
              go_roundw
              case rel =>
                refine ⟨i + 1, f, srt T, (out ++ [] ++ spell T ++ []), hi2, rfl, by go_num, by omega, hl, ?_, ?_, hg2⟩
                · have := HSL.out; simp; omega
                · have e := hB2
                  have es : Lib.strCells SP = Lib.byteCells (spell T) := HSC.out
                  rw [es] at e
                  simpa [Lib.byteCells] using e
              case measure => simp [intOf]; omega
          · have HJA : Hid (jAhead (srt T) = false) := by rw [Hid]; simpa using hja
            clear hja
            by_cases h11 : srt T = 11
            · have e11 : (srt T == 11) = true := by simpa using h11
              have hl : Hid (plainF toks f (i + 1) (srt T) (out ++ [32] ++ spell T ++ [10]) = RES) := by rw [Hid, hl]; simp only [HJB.out, HJA.out]; simp [h11]
              clear h11
              go_wp2_with (first | (go_at_call 74; refine (bl_byte w.heap.size w.heap.size _ 10 _ hB3 (by simp [Lib.byteCells, Lib.strCells_length]; omega) hg3.size).mono ?_; rintro e w4 ⟨rfl, hB4, hk4⟩; have hg4 := hk4.low hg3; have hx4 := hk4.box hx3 hcb; have x0_4 := cell_of hx4 0 _ rfl) | (go_at_call 75; refine (bl_str w.heap.size w.heap.size _ SP _ hB2 (by simp [Lib.byteCells]; omega) (by omega) hg2.size).mono ?_; rintro e w3 ⟨rfl, hB3, hk3⟩; have hg3 := hk3.low hg2; have hx3 := hk3.box hx2 hcb; have x0_3 := cell_of hx3 0 _ rfl) | (go_at_call 76; refine (HSP.out _ (tab_kept HT.out (fun k hk => hg1.block k hk (by simp)))).mono ?_; rintro e w2 ⟨rfl, hq2⟩; have hg2 := hg1.trans hq2; have hx2 := past0 hx1 (Array.getElem?_eq_some_iff.1 hx1).1 hq2 (by simp); have hB2 := isB_grown (r := none) hB1 hq2) | (go_at_call 74; refine (bl_byte w.heap.size w.heap.size (Lib.byteCells out) 32 _ hB0 (by simp [Lib.byteCells]; omega) hg0.size).mono ?_; rintro e w1 ⟨rfl, hB1, hk1⟩; have hg1 := hk1.low hg0; have hx1 := hk1.box hx0 hcb; have x0_1 := cell_of hx1 0 _ rfl; have x1_1 := cell_of hx1 1 _ rfl; have x2_1 := cell_of hx1 2 _ rfl; have x3_1 := cell_of hx1 3 _ rfl) | (go_at_call 73; refine (pl_ahead _ _).mono ?_; rw [HJA.out]; rintro e w' ⟨rfl, hww⟩; subst w') | (go_at_call 72; refine (pl_behind _ _).mono ?_; rw [HJB.out]; rintro e w' ⟨rfl, hww⟩; subst w') | (go_at_call 71; refine (K1.get _ _ (by omega)).mono ?_; rintro e w' ⟨rfl, hww⟩; subst w'))
              go_roundw
              case rel =>
                refine ⟨i + 1, f, srt T, (out ++ [32] ++ spell T ++ [10]), hi2, rfl, by go_num, by omega, hl, ?_, ?_, hg4⟩
                · have := HSL.out; simp; omega
                · have e := hB4
                  have es : Lib.strCells SP = Lib.byteCells (spell T) := HSC.out
                  rw [es] at e
                  simpa [Lib.byteCells] using e
              case measure => simp [intOf]; omega
            · have e11 : (srt T == 11) = false := by simpa using h11
              have hl : Hid (plainF toks f (i + 1) (srt T) (out ++ [32] ++ spell T ++ []) = RES) := by rw [Hid, hl]; simp only [HJB.out, HJA.out]; simp [h11]
              clear h11
              go_wp2_with (first | (go_at_call 75; refine (bl_str w.heap.size w.heap.size _ SP _ hB2 (by simp [Lib.byteCells]; omega) (by omega) hg2.size).mono ?_; rintro e w3 ⟨rfl, hB3, hk3⟩; have hg3 := hk3.low hg2; have hx3 := hk3.box hx2 hcb; have x0_3 := cell_of hx3 0 _ rfl) | (go_at_call 76; refine (HSP.out _ (tab_kept HT.out (fun k hk => hg1.block k hk (by simp)))).mono ?_; rintro e w2 ⟨rfl, hq2⟩; have hg2 := hg1.trans hq2; have hx2 := past0 hx1 (Array.getElem?_eq_some_iff.1 hx1).1 hq2 (by simp); have hB2 := isB_grown (r := none) hB1 hq2) | (go_at_call 74; refine (bl_byte w.heap.size w.heap.size (Lib.byteCells out) 32 _ hB0 (by simp [Lib.byteCells]; omega) hg0.size).mono ?_; rintro e w1 ⟨rfl, hB1, hk1⟩; have hg1 := hk1.low hg0; have hx1 := hk1.box hx0 hcb; have x0_1 := cell_of hx1 0 _ rfl; have x1_1 := cell_of hx1 1 _ rfl; have x2_1 := cell_of hx1 2 _ rfl; have x3_1 := cell_of hx1 3 _ rfl) | (go_at_call 73; refine (pl_ahead _ _).mono ?_; rw [HJA.out]; rintro e w' ⟨rfl, hww⟩; subst w') | (go_at_call 72; refine (pl_behind _ _).mono ?_; rw [HJB.out]; rintro e w' ⟨rfl, hww⟩; subst w') | (go_at_call 71; refine (K1.get _ _ (by omega)).mono ?_; rintro e w' ⟨rfl, hww⟩; subst w'))
              go_roundw
              case rel =>
                refine ⟨i + 1, f, srt T, (out ++ [32] ++ spell T ++ []), hi2, rfl, by go_num, by omega, hl, ?_, ?_, hg3⟩
                · have := HSL.out; simp; omega
                · have e := hB3
                  have es : Lib.strCells SP = Lib.byteCells (spell T) := HSC.out
                  rw [es] at e
                  simpa [Lib.byteCells] using e
              case measure => simp [intOf]; omega
end Go.Proofs.YthpcbbnabnlanaaGreatDoor
