import Derived.Test.YthpcbbnabnlanaaGreatDoorM02
import Derived.Test.YthpcbbnabnlanaaGreatDoorM27
import Derived.Test.YthpcbbnabnlanaaGreatDoorM29
import Derived.Test.YthpcbbnabnlanaaGreatDoorM30
import Derived.Deep.OwnRows
import Derived.Deep.RegionLaw
import Derived.Deep.Cut
import Derived.Deep.RegionHeld3
/-
  The law's texts: a list of texts came out: it is written over, put behind, and kept.
-/
namespace Go.Proofs.YthpcbbnabnlanaaGreatDoor
open Go.RowKit
set_option linter.unusedVariables false
variable {w w' w1 : World} {B bw c : Nat} {V : LV} {D : LD} {K : Keep → Prop}

theorem infoSl : (Tryz.prog.info? 37).map (fun i => (i.zero, i.size, i.bytes)) = some (some (.slice none 0 0), 1, 24) := by kernel_rfl
theorem infoSt9 : (Tryz.prog.info? 9).map (fun i => (i.zero, i.size, i.bytes)) = some (some (.string .empty), 1, 16) := by kernel_rfl
theorem sl_one (a : Option Addr) (n c : Nat) : ∀ u ∈ [Value.slice a n c], u.oneCell' = true := by
  intro u hu; simp only [List.mem_cons, List.not_mem_nil, or_false] at hu; subst hu; rfl
theorem st_one (s : ByteArray) : ∀ u ∈ [Value.string s], u.oneCell' = true := by
  intro u hu; simp only [List.mem_cons, List.not_mem_nil, or_false] at hu; subst hu; rfl
theorem grown_below {w w' : World} (h : Below w.heap.size w w') : w.grownBy w' none := ⟨h.os, h.tape, h.output, h.size, fun k hk _ => h.block k hk⟩
/-- what stands ahead of each writing -/
def TxA (w : World) (B bw g cap n c : Nat) (V : LV) (D : LD) (K : Keep → Prop) (e : TypeId) (mark : Value) (vi : Value) (wr : World) : Prop :=
  ∃ (i : Nat) (xs : List Value), i ≤ n ∧ vi = .int .i64 i ∧ xs.take i = List.replicate i mark ∧ wr.ownsRow B e 1 (.slice (some ⟨g, 0, none⟩) n cap) n xs ∧ LW wr B bw V D c K ∧ (∀ k, k < w.heap.size → Free bw V k → k ≠ g → wr.heap[k]? = w.heap[k]?) ∧ FrB B bw w wr
/-- what stands ahead of each putting behind -/
def TxB (w : World) (B bw g n c : Nat) (V : LV) (D : LD) (K : Keep → Prop) (ri : Nat) (e : TypeId) (mark : Value) (vl vi : Value) (wr : World) : Prop :=
  ∃ (i gi cap : Nat) (V1 : LV) (D1 : LD) (L : List LP), i ≤ 65 ∧ vi = .int .i64 i ∧ vl = .slice (some ⟨gi, 0, none⟩) (n + i) cap ∧ L.length ≤ i ∧ Tx w wr B bw g c V D K ri e V1 D1 L gi cap (n + i) mark
theorem take_set {xs : List Value} {i n : Nat} {mark : Value} (hl : xs.length = n) (hi : i < n) (h : xs.take i = List.replicate i mark) : (xs.set i mark).take (i + 1) = List.replicate (i + 1) mark := by
  have e1 : (xs.set i mark)[i]? = some mark := by simp [hl, hi]
  rw [List.take_add_one, e1, List.take_set_of_le (Nat.le_refl i), h, List.replicate_succ']
  simp
theorem TxA.step {g cap n i : Nat} {e : TypeId} {mark : Value} {xs : List Value} {wr : World} (hi : i < n) (hxs : xs.take i = List.replicate i mark) (hown : wr.ownsRow B e 1 (.slice (some ⟨g, 0, none⟩) n cap) n xs) (hlw : LW wr B bw V D c K) (hb : ∀ k, k < w.heap.size → Free bw V k → k ≠ g → wr.heap[k]? = w.heap[k]?) (hfr : FrB B bw w wr) (hf : Free bw V g) (hk : ∀ x, K x → g ∉ x.S) (hB : B ≤ g) :
    TxA w B bw g cap n c V D K e mark (.int .i64 ((i : Int) + 1)) (wr.setCell ⟨g, i, none⟩ mark) := by
  have hl : xs.length = n := by simpa using hown.1
  have hst := hown.stored i mark
  have hg := grown_set wr g i mark
  refine ⟨i + 1, xs.set i mark, by omega, by simp, take_set hl hi hxs, hst.1, hlw.frame (S := [g]) (But.of_grown hg (fun k e => by cases e; simp)) (fun k hk' => ?_), fun k h1 h2 h3 => ?_, hfr.grown hlw.hB hg (fun k e => by cases e; exact .inr hB)⟩
  · simp only [List.mem_cons, List.not_mem_nil, or_false] at hk'; subst hk'; exact ⟨hf, hk⟩
  · exact (hg.block k (Nat.lt_of_lt_of_le h1 hfr.size) (fun e => h3 (Option.some.inj e))).trans (hb k h1 h2 h3)
theorem TxA.last {g cap n : Nat} {e : TypeId} {mark : Value} {xs : List Value} {wr : World} (ri : Nat) (hxs : xs.take n = List.replicate n mark) (hown : wr.ownsRow B e 1 (.slice (some ⟨g, 0, none⟩) n cap) n xs) (hlw : LW wr B bw V D c K) (hb : ∀ k, k < w.heap.size → Free bw V k → k ≠ g → wr.heap[k]? = w.heap[k]?) (hfr : FrB B bw w wr) (hf : Free bw V g) (hk : ∀ x, K x → g ∉ x.S) :
    TxB w B bw g n c V D K ri e mark (.slice (some ⟨g, 0, none⟩) n cap) (.int .i64 0) wr := by
  have hl : xs.length = n := by simpa using hown.1
  rw [List.take_of_length_le (by omega)] at hxs
  subst hxs
  exact ⟨0, g, cap, V, D, [], by omega, rfl, rfl, by simp, hlw, rfl, hown, .inl rfl, hf, hk, fun x hx => by simp at hx, fun k _ f => f, hb, hfr⟩

set_option maxRecDepth 100000 in
set_option maxHeartbeats 4000000 in
theorem law_texts (h : LW w B bw V D c K) {g n cap : Nat} {xs : List Value} (hl : w.ownsRow B 9 1 (.slice (some ⟨g, 0, none⟩) n cap) n xs) (hf : Free bw V g) (hk : ∀ x, K x → g ∉ x.S) (hn : n ≤ 2000000) (hc : c ≤ 100000000000) (hcn : ∀ i, i < 7 → D.cnt i ≤ 100000000000) :
    Calls Tryz.prog 56 #[.pointer (some ⟨bw, 0, none⟩), .slice (some ⟨g, 0, none⟩) n cap] w fun e w' => e = .returned (.tuple #[]) ∧ ∃ V' K' L t, LW w' B bw V' (pushAll D 1 L) (c + 1) K' ∧ Went w w' B bw g V V' K K' ∧ L.length ≤ 65 ∧ ∀ x ∈ L, K' (lstKeep x) ∧ x.mark = .string t ∧ x.len ≤ n + 65 := by
  obtain ⟨i1, hi1, hy0, hy1, hy2⟩ := info_parts infoSl
  obtain ⟨i2, hi2, hz0, hz1, hz2⟩ := info_parts infoSt9
  have hBg : B ≤ g := (hl.lt g rfl).1
  have hgl : g < w.heap.size := (hl.lt g rfl).2
  have hBw := h.hB
  have hbl := h.slt
  have hgw : g ≠ bw := hf.1
  have HKS := hide (fun x hx k hk => ((h.kp x hx).2 k hk).1 : ∀ x, K x → ∀ k ∈ x.S, k < w.heap.size)
  have HF := hide hf
  have HK := hide hk
  have c7 : w.cell? ⟨bw, 7, none⟩ = some (.int .i64 c) := cell_of h.blk 7 _ rfl
  have f7 : w.frozen? ⟨bw, 7, none⟩ = false := frozen_of h.blk 7
  have hcnt := h.count (c + 1)
  have ec : ((c + 1 : Nat) : Int) = (c : Int) + 1 := by omega
  rw [ec] at hcnt
  have HC := hide hcnt
  have c8 : (w.setCell ⟨bw, 7, none⟩ (.int .i64 ((c : Int) + 1))).cell? ⟨bw, 7, none⟩ = some (.int .i64 ((c : Int) + 1)) := by
    have := cell_of hcnt.blk 7 (.int .i64 ((c + 1 : Nat) : Int)) rfl; rw [ec] at this; exact this
  have HL := hide (hl.kept (grown_set w bw 7 (.int .i64 ((c : Int) + 1))) (.inr (fun e => hgw (by simpa [Value.ownBlock] using e))))
  have KW := Kept.mk (fun W => law_word ((c : Int) + 1) W (by omega) (by omega))
  have hcn1 := hcn 1 (by omega)
  have hcn2 := hcn 2 (by omega)
  clear h hl hcnt hf hk ec hcn
  go_enter Tryz.func56, Tryz.ntmps56
  go_wp2_with (go_at_call 104; refine (KW.get _).mono ?_; rintro e w1 ⟨t, rfl, ht, hb⟩)
  have hg1 := grown_below hb
  have HA : Hid (TxA w B bw g cap n (c + 1) V D K 9 (.string t) (.int .i64 0) w1) := by
    refine ⟨0, _, by omega, rfl, by simp, HL.out.kept hg1 (own_none _), HC.out.grown hg1, fun k h1 h2 h3 => ?_, ((FrB.refl B bw w).grown hBw (grown_set w bw 7 _) (fun k e => by cases e; exact .inl rfl)).grown HC.out.hB hg1 (fun k e => by cases e)⟩
    exact (hg1.block k (Nat.lt_of_lt_of_le h1 (grown_set w bw 7 _).size) (by simp)).trans ((grown_set w bw 7 _).block k h1 (fun e => h2.1 (Option.some.inj e)))
  clear HL HC hb hg1 c7 f7 c8
  go_loopw [5] (fun vi wr => TxA w B bw g cap n (c + 1) V D K 9 (.string t) vi wr) (fun vi _ => n - (intOf vi).toNat)
  case atStart => exact HA.out
  case round =>
    clear HA
    obtain ⟨i, xs, hi, rfl, hxs, hown, hlw, hwb, hfr⟩ := hrel
    have hxl : xs.length = n := by simpa using hown.1
    by_cases hlt : i < n
    · have hlt3 : (i : Int) < n := by omega
      have h03 : (0 : Int) ≤ i := by omega
      have k1 : wr.cell? ⟨g, i, none⟩ = some (xs[i]'(by omega)) := by rw [hown.cellAt i (by omega)]; simp [hxl, hlt]
      have k2 := hown.frozenAt i
      have HN := hide (TxA.step hlt hxs hown hlw hwb hfr HF.out HK.out hBg)
      clear hown hxs hlw hwb hfr
      go_wp2
      go_roundw
      case rel => exact HN.out
      case measure => simp [intOf]; omega
    · obtain rfl : n = i := by omega
      have HB := hide (TxA.last 1 hxs hown hlw hwb hfr HF.out HK.out)
      clear hown hxs hlw hwb hfr
      go_wp2
      go_loopw [1, 6] (fun vl vi wr => TxB w B bw g n (c + 1) V D K 1 9 (.string t) vl vi wr) (fun _ vi _ => 65 - (intOf vi).toNat)
      case atStart => exact HB.out
      case round =>
        clear HB
        obtain ⟨i, gi, cap', V1, D1, L, hi, rfl, rfl, hLl, hT⟩ := hrel
        by_cases h65 : i ≤ 64
        · have h65' : (i : Int) ≤ 64 := by omega
          by_cases h3 : i < 3
          · have h3' : (i : Int) < 3 := by omega
            obtain ⟨na, nc, en⟩ := own_slice_n (hT.lw.own 1 (by omega))
            obtain ⟨ka, kc, ek⟩ := own_slice_n (hT.lw.own 2 (by omega))
            have o1 : wr.ownsRow B 37 1 (.slice na (D1.cnt 1) nc) (D1.cnt 1) (D1.cells 1) := by rw [← en]; exact hT.lw.own 1 (by omega)
            have m1 : wr.cell? ⟨bw, 1, none⟩ = some (.slice na (D1.cnt 1) nc) := by rw [← en]; exact cell_of hT.lw.blk 1 _ rfl
            have hc1 : D1.cnt 1 ≤ D.cnt 1 + L.length := by rw [hT.d]; exact pushAll_cnt D (.inl rfl) L 1 (by omega)
            have hc2 : D1.cnt 2 ≤ D.cnt 2 + L.length := by rw [hT.d]; exact pushAll_cnt D (.inl rfl) L 2 (by omega)
            have HT := hide hT
            have HEN := hide en
            have HEK := hide ek
            have hsz := hT.lw.hB
            have hsl := hT.lw.slt
            clear hT en ek
            go_wp2_with (at_builtin; refine wpList_append_two rfl _ _ 56 rfl B 37 i1 (.slice none 0 0) 1 24 Tryz.underlying56 hi1 hy0 hy1 hy2 rfl (by decide) _ _ _ rfl (o1.alloc _) ⟨wr.heap.size, 0, none⟩ 1 1 [.slice (some ⟨gi, 0, none⟩) (n + i) cap'] rfl rfl (World.news_of_block (heap_alloc_new _ _)) (sl_one _ _ _) ?c3 ?c4 ?c5 ?_)
            case c3 => unfold maxLen; omega
            case c4 => omega
            case c5 => simp; omega
            intro v1 w2 ho1 hg1
            have ga1 := hg1
            rw [← HEN.out] at ga1
            have l1 := (HT.out.lw.alloc _).push (D' := D1.pl 1 ⟨gi, n + i, cap', .string t⟩) (i := 1) (by omega) ho1 ga1 (fun j hj => pl_cnt _ _ (.inl rfl) hj) (fun j hj => pl_cells _ _ (.inl rfl) hj)
            obtain ⟨xa, xm, xc, rfl⟩ := own_slice ho1
            have f2 : w2.frozen? ⟨bw, 1, none⟩ = false := frozen_of ((hg1.by.block bw (by simp; omega) (fun e => by have := (o1.lt bw e.symm).1; have := HT.out.lw.lt; omega)).trans (heap_alloc_old wr _ hsl |>.trans HT.out.lw.blk)) 1
            have m2 : w2.cell? ⟨bw, 1, none⟩ = some (.slice na (D1.cnt 1) nc) := hg1.by.cell ((World.grownBy_alloc wr _ none).cell m1 (by simp)) (fun e => by have := (o1.lt bw e.symm).1; have := HT.out.lw.lt; omega)
            have o2 : (w2.setCell ⟨bw, 1, none⟩ (.slice xa xm xc)).ownsRow B 9 1 (.slice ka (D1.cnt 2) kc) (D1.cnt 2) (D1.cells 2) := by rw [← HEK.out]; exact l1.own 2 (by omega)
            have m3 : (w2.setCell ⟨bw, 1, none⟩ (.slice xa xm xc)).cell? ⟨bw, 2, none⟩ = some (.slice ka (D1.cnt 2) kc) := by rw [← HEK.out]; exact cell_of l1.blk 2 _ rfl
            have hzA : (w2.setCell ⟨bw, 1, none⟩ (.slice xa xm xc)).heap.size = w2.heap.size := by simp [World.setCell]
            have N2 : ∀ j u, [Value.string t][j]? = some u → ((w2.setCell ⟨bw, 1, none⟩ (.slice xa xm xc)).alloc (.cells #[.string t] 9)).cell? ((⟨w2.heap.size, 0, none⟩ : Addr).add j) = some u := by rw [← hzA]; exact World.news_of_block (heap_alloc_new _ _)
            have hsz2 := l1.hB
            have hsl2 := l1.slt
            have HL1 := hide l1
            have HO1 := hide ho1
            have HG1 := hide hg1
            clear l1 ho1 hg1 o1 m1 ga1
            go_wp2_with (at_builtin; refine wpList_append_two rfl _ _ 37 rfl B 9 i2 (.string .empty) 1 16 Tryz.underlying37 hi2 hz0 hz1 hz2 rfl (by decide) _ _ _ rfl (o2.alloc _) ⟨w2.heap.size, 0, none⟩ 1 1 [.string t] rfl rfl N2 (st_one _) ?c3 ?c4 ?c5 ?_)
            case c3 => unfold maxLen; omega
            case c4 => omega
            case c5 => simp; omega
            intro v3 w3 ho3 hg3
            have ga := HG1.out
            rw [← HEN.out] at ga
            have gb := hg3
            rw [← HEK.out] at gb
            obtain ⟨V2, D2, hT2⟩ := HT.out.push (.inl rfl) HO1.out ga ho3 gb
            obtain ⟨ya, ym, yc, rfl⟩ := own_slice ho3
            have f4 : w3.frozen? ⟨bw, 2, none⟩ = false := frozen_of ((hg3.by.block bw (by simp; omega) (fun e => by have := (o2.lt bw e.symm).1; have := HL1.out.lt; omega)).trans (heap_alloc_old _ _ hsl2 |>.trans HL1.out.blk)) 2
            have m4 : w3.cell? ⟨bw, 2, none⟩ = some (.slice ka (D1.cnt 2) kc) := hg3.by.cell ((World.grownBy_alloc _ _ none).cell m3 (by simp)) (fun e => by have := (o2.lt bw e.symm).1; have := HL1.out.lt; omega)
            have o5 := hT2.own
            have HT2 := hide hT2
            have hzB : (w3.setCell ⟨bw, 2, none⟩ (.slice ya ym yc)).heap.size = w3.heap.size := by simp [World.setCell]
            have hsz5 : B ≤ w3.heap.size := by rw [← hzB]; exact hT2.lw.hB
            have N3 : ∀ j u, [Value.string t][j]? = some u → ((w3.setCell ⟨bw, 2, none⟩ (.slice ya ym yc)).alloc (.cells #[.string t] 9)).cell? ((⟨w3.heap.size, 0, none⟩ : Addr).add j) = some u := by rw [← hzB]; exact World.news_of_block (heap_alloc_new _ _)
            clear ga gb hzA N2 hT2 ho3 hg3 o2 m3 HL1 HO1 HG1 HT HEN HEK m2 f2
            go_wp2_with (at_builtin; refine wpList_append_two rfl _ _ 37 rfl B 9 i2 (.string .empty) 1 16 Tryz.underlying37 hi2 hz0 hz1 hz2 rfl (by decide) _ _ _ rfl (o5.alloc _) ⟨w3.heap.size, 0, none⟩ 1 1 [.string t] rfl rfl N3 (st_one _) ?c3 ?c4 ?c5 ?_)
            case c3 => unfold maxLen; omega
            case c4 => omega
            case c5 => simp; omega
            intro v5 w5 ho5 hg5
            obtain ⟨gi', cap2, rfl, hT3⟩ := HT2.out.app hBg hBw ho5 hg5 HKS.out
            have HT3 := hide hT3
            clear hT3 ho5 hg5 HT2 o5 m4 f4
            go_wp2
            go_roundw
            case rel => exact ⟨i + 1, gi', cap2, V2, D2, _, by omega, by go_num, rfl, by simp; omega, HT3.out⟩
            case measure => simp [intOf]; omega
          · have h3' : decide ((i : Int) < 3) = false := by simp; omega
            by_cases h64 : i = 64
            · have h64' : ((i : Int) == 64) = true := by simp; omega
              clear h64
              obtain ⟨na, nc, en⟩ := own_slice_n (hT.lw.own 1 (by omega))
              obtain ⟨ka, kc, ek⟩ := own_slice_n (hT.lw.own 2 (by omega))
              have o1 : wr.ownsRow B 37 1 (.slice na (D1.cnt 1) nc) (D1.cnt 1) (D1.cells 1) := by rw [← en]; exact hT.lw.own 1 (by omega)
              have m1 : wr.cell? ⟨bw, 1, none⟩ = some (.slice na (D1.cnt 1) nc) := by rw [← en]; exact cell_of hT.lw.blk 1 _ rfl
              have hc1 : D1.cnt 1 ≤ D.cnt 1 + L.length := by rw [hT.d]; exact pushAll_cnt D (.inl rfl) L 1 (by omega)
              have hc2 : D1.cnt 2 ≤ D.cnt 2 + L.length := by rw [hT.d]; exact pushAll_cnt D (.inl rfl) L 2 (by omega)
              have HT := hide hT
              have HEN := hide en
              have HEK := hide ek
              have hsz := hT.lw.hB
              have hsl := hT.lw.slt
              clear hT en ek
              go_wp2_with (at_builtin; refine wpList_append_two rfl _ _ 56 rfl B 37 i1 (.slice none 0 0) 1 24 Tryz.underlying56 hi1 hy0 hy1 hy2 rfl (by decide) _ _ _ rfl (o1.alloc _) ⟨wr.heap.size, 0, none⟩ 1 1 [.slice (some ⟨gi, 0, none⟩) (n + i) cap'] rfl rfl (World.news_of_block (heap_alloc_new _ _)) (sl_one _ _ _) ?c3 ?c4 ?c5 ?_)
              case c3 => unfold maxLen; omega
              case c4 => omega
              case c5 => simp; omega
              intro v1 w2 ho1 hg1
              have ga1 := hg1
              rw [← HEN.out] at ga1
              have l1 := (HT.out.lw.alloc _).push (D' := D1.pl 1 ⟨gi, n + i, cap', .string t⟩) (i := 1) (by omega) ho1 ga1 (fun j hj => pl_cnt _ _ (.inl rfl) hj) (fun j hj => pl_cells _ _ (.inl rfl) hj)
              obtain ⟨xa, xm, xc, rfl⟩ := own_slice ho1
              have f2 : w2.frozen? ⟨bw, 1, none⟩ = false := frozen_of ((hg1.by.block bw (by simp; omega) (fun e => by have := (o1.lt bw e.symm).1; have := HT.out.lw.lt; omega)).trans (heap_alloc_old wr _ hsl |>.trans HT.out.lw.blk)) 1
              have m2 : w2.cell? ⟨bw, 1, none⟩ = some (.slice na (D1.cnt 1) nc) := hg1.by.cell ((World.grownBy_alloc wr _ none).cell m1 (by simp)) (fun e => by have := (o1.lt bw e.symm).1; have := HT.out.lw.lt; omega)
              have o2 : (w2.setCell ⟨bw, 1, none⟩ (.slice xa xm xc)).ownsRow B 9 1 (.slice ka (D1.cnt 2) kc) (D1.cnt 2) (D1.cells 2) := by rw [← HEK.out]; exact l1.own 2 (by omega)
              have m3 : (w2.setCell ⟨bw, 1, none⟩ (.slice xa xm xc)).cell? ⟨bw, 2, none⟩ = some (.slice ka (D1.cnt 2) kc) := by rw [← HEK.out]; exact cell_of l1.blk 2 _ rfl
              have hzA : (w2.setCell ⟨bw, 1, none⟩ (.slice xa xm xc)).heap.size = w2.heap.size := by simp [World.setCell]
              have N2 : ∀ j u, [Value.string t][j]? = some u → ((w2.setCell ⟨bw, 1, none⟩ (.slice xa xm xc)).alloc (.cells #[.string t] 9)).cell? ((⟨w2.heap.size, 0, none⟩ : Addr).add j) = some u := by rw [← hzA]; exact World.news_of_block (heap_alloc_new _ _)
              have hsz2 := l1.hB
              have hsl2 := l1.slt
              have HL1 := hide l1
              have HO1 := hide ho1
              have HG1 := hide hg1
              clear l1 ho1 hg1 o1 m1 ga1
              go_wp2_with (at_builtin; refine wpList_append_two rfl _ _ 37 rfl B 9 i2 (.string .empty) 1 16 Tryz.underlying37 hi2 hz0 hz1 hz2 rfl (by decide) _ _ _ rfl (o2.alloc _) ⟨w2.heap.size, 0, none⟩ 1 1 [.string t] rfl rfl N2 (st_one _) ?c3 ?c4 ?c5 ?_)
              case c3 => unfold maxLen; omega
              case c4 => omega
              case c5 => simp; omega
              intro v3 w3 ho3 hg3
              have ga := HG1.out
              rw [← HEN.out] at ga
              have gb := hg3
              rw [← HEK.out] at gb
              obtain ⟨V2, D2, hT2⟩ := HT.out.push (.inl rfl) HO1.out ga ho3 gb
              obtain ⟨ya, ym, yc, rfl⟩ := own_slice ho3
              have f4 : w3.frozen? ⟨bw, 2, none⟩ = false := frozen_of ((hg3.by.block bw (by simp; omega) (fun e => by have := (o2.lt bw e.symm).1; have := HL1.out.lt; omega)).trans (heap_alloc_old _ _ hsl2 |>.trans HL1.out.blk)) 2
              have m4 : w3.cell? ⟨bw, 2, none⟩ = some (.slice ka (D1.cnt 2) kc) := hg3.by.cell ((World.grownBy_alloc _ _ none).cell m3 (by simp)) (fun e => by have := (o2.lt bw e.symm).1; have := HL1.out.lt; omega)
              have o5 := hT2.own
              have HT2 := hide hT2
              have hzB : (w3.setCell ⟨bw, 2, none⟩ (.slice ya ym yc)).heap.size = w3.heap.size := by simp [World.setCell]
              have hsz5 : B ≤ w3.heap.size := by rw [← hzB]; exact hT2.lw.hB
              have N3 : ∀ j u, [Value.string t][j]? = some u → ((w3.setCell ⟨bw, 2, none⟩ (.slice ya ym yc)).alloc (.cells #[.string t] 9)).cell? ((⟨w3.heap.size, 0, none⟩ : Addr).add j) = some u := by rw [← hzB]; exact World.news_of_block (heap_alloc_new _ _)
              clear ga gb hzA N2 hT2 ho3 hg3 o2 m3 HL1 HO1 HG1 HT HEN HEK m2 f2
              go_wp2_with (at_builtin; refine wpList_append_two rfl _ _ 37 rfl B 9 i2 (.string .empty) 1 16 Tryz.underlying37 hi2 hz0 hz1 hz2 rfl (by decide) _ _ _ rfl (o5.alloc _) ⟨w3.heap.size, 0, none⟩ 1 1 [.string t] rfl rfl N3 (st_one _) ?c3 ?c4 ?c5 ?_)
              case c3 => unfold maxLen; omega
              case c4 => omega
              case c5 => simp; omega
              intro v5 w5 ho5 hg5
              obtain ⟨gi', cap2, rfl, hT3⟩ := HT2.out.app hBg hBw ho5 hg5 HKS.out
              have HT3 := hide hT3
              clear hT3 ho5 hg5 HT2 o5 m4 f4
              go_wp2
              go_roundw
              case rel => exact ⟨i + 1, gi', cap2, V2, D2, _, by omega, by go_num, rfl, by simp; omega, HT3.out⟩
              case measure => simp [intOf]; omega
            · have h64' : ((i : Int) == 64) = false := by simp; omega
              have o5 := hT.own
              have hsz5 := hT.lw.hB
              have HT2 := hide hT
              clear hT
              go_wp2_with (at_builtin; refine wpList_append_two rfl _ _ 37 rfl B 9 i2 (.string .empty) 1 16 Tryz.underlying37 hi2 hz0 hz1 hz2 rfl (by decide) _ _ _ rfl (o5.alloc _) ⟨wr.heap.size, 0, none⟩ 1 1 [.string t] rfl rfl (World.news_of_block (heap_alloc_new _ _)) (st_one _) ?c3 ?c4 ?c5 ?_)
              case c3 => unfold maxLen; omega
              case c4 => omega
              case c5 => simp; omega
              intro v5 w5 ho5 hg5
              obtain ⟨gi', cap2, rfl, hT3⟩ := HT2.out.app hBg hBw ho5 hg5 HKS.out
              have HT3 := hide hT3
              clear hT3 ho5 hg5 HT2 o5
              go_wp2
              go_roundw
              case rel => exact ⟨i + 1, gi', cap2, V1, D1, _, by omega, by go_num, rfl, by omega, HT3.out⟩
              case measure => simp [intOf]; omega
        · obtain rfl : i = 65 := by omega
          obtain ⟨K', q1, q2, q3⟩ := hT.done
          have hd := hT.d
          subst hd
          have HQ := hide (And.intro q1 (And.intro q2 q3))
          clear q1 q2 q3 hT
          go_wp2
          go_end0
          exact ⟨rfl, V1, K', L, t, HQ.out.1, HQ.out.2.1, by omega, HQ.out.2.2⟩
end Go.Proofs.YthpcbbnabnlanaaGreatDoor

/-
  Both News of one text: the same fault, or a model of the same variables.
-/
namespace Go.Proofs.YthpcbbnabnlanaaGreatDoor
open Go.RowKit
set_option linter.unusedVariables false

/-- the text's variables, as the program knows them -/
def varsOf (s : ByteArray) : List QVar := (runQ (gsOf s) q0).vars
/-- the program finds this fault -/
abbrev PFault (s : ByteArray) (kd ln : Int) : Prop := ∀ W : World, Calls Tryz.prog 35 #[.string s] W fun e w' => e = .returned (.tuple #[.pointer none, .int .i64 kd, .int .i64 ln]) ∧ W.grownBy w' none
abbrev RFault (s : ByteArray) (kd ln : Int) : Prop := ∀ W : World, Calls Tryz.prog 38 #[.string s] W fun e w' => e = .returned (.tuple #[.pointer none, .int .i64 kd, .int .i64 ln]) ∧ W.grownBy w' none
/-- the program makes a model -/
abbrev PModel (s : ByteArray) (l : List QVar) : Prop := ∀ W : World, PowTab W → Calls Tryz.prog 35 #[.string s] W fun e w' => ∃ b bc gr vp, e = .returned (.tuple #[.pointer (some ⟨b, 0, none⟩), .int .i64 0, .int .i64 0]) ∧ ProgAt w' b bc gr vp l s ∧ (∀ k ∈ [b, bc, gr], W.heap.size ≤ k ∧ k < w'.heap.size) ∧ W.grownBy w' none
abbrev RModel (s : ByteArray) (l : List QVar) : Prop := ∀ W : World, Calls Tryz.prog 38 #[.string s] W fun e w' => ∃ r gv vr, e = .returned (.tuple #[.pointer (some ⟨r, 0, none⟩), .int .i64 0, .int .i64 0]) ∧ RefAt w' r gv vr l ∧ (∀ k ∈ [r, gv], W.heap.size ≤ k ∧ k < w'.heap.size) ∧ W.grownBy w' none

theorem bel_grown {w w' : World} (h : Below w.heap.size w w') : w.grownBy w' none := ⟨h.os, h.tape, h.output, h.size, fun k hk _ => h.block k hk⟩
theorem qStep_vars (g : GSt) (q : QSt) : (qStep g q).vars.length ≤ q.vars.length + 1 := by
  unfold qStep
  split
  · split
    · simp
    · omega
  · split
    · simp
    · simp
theorem runQ_vars (gs : List GSt) : ∀ q : QSt, (runQ gs q).vars.length ≤ q.vars.length + gs.length := by
  induction gs with
  | nil => intro q; simp [runQ]
  | cons g gs ih =>
    intro q
    have h := qStep_vars g q
    simp only [runQ, List.length_cons]
    split
    · have := ih (qStep g q); omega
    · omega
theorem qP_name (a : QVar) : (qP a).name = a.name := rfl
theorem pmodel (s : ByteArray) (hs : s.size ≤ 2000) (hl : (lex s).1 = 0) (hp : (pParse (progToks s)).2.2 = 0) (hq : (runQ (gsOf s) q0).st.1 = 0) : PModel s (varsOf s) ∧ (varsOf s).length ≤ 2500 := by
  have key : ∀ (W w' : World) (b : Nat), W.heap.size ≤ b → MdlIs w' W.heap.size b s → (varsOf s).length ≤ 2500 ∧ ∃ bc gr vp, ProgAt w' b bc gr vp (varsOf s) s ∧ (∀ k ∈ [b, bc, gr], W.heap.size ≤ k ∧ k < w'.heap.size) := by
    rintro W w' b hb ⟨bc, bm, B, k, h1, h2, h3, h4, h5, h6, hS⟩
    obtain ⟨n, g, vV, vC, xs, hC, eg, hv, hoV, hoC, b1, b2, b3, hc, hm, hB⟩ := hS
    have hlen : (varsOf s).length ≤ 2500 := Nat.le_trans b2 h3
    refine ⟨hlen, ?_⟩
    rcases own_cells hoV with ⟨e1, e2⟩ | ⟨gr, cap, e1, e2, e3, e4⟩
    · refine ⟨bc, b, vV, ⟨h4, h5, hC.c1, .inl ⟨List.length_eq_zero_iff.1 e1, none, 0, e2⟩⟩, fun k hk => ?_⟩
      simp only [List.mem_cons, List.not_mem_nil, or_false] at hk
      rcases hk with e | e | e
      · exact ⟨by omega, by omega⟩
      · exact ⟨by omega, by have := hC.lt; omega⟩
      · exact ⟨by omega, by omega⟩
    · refine ⟨bc, gr, vV, ⟨h4, h5, hC.c1, .inr ⟨cap, e1, e4⟩⟩, fun k hk => ?_⟩
      simp only [List.mem_cons, List.not_mem_nil, or_false] at hk
      rcases hk with e | e | e
      · exact ⟨by omega, by omega⟩
      · exact ⟨by omega, by have := hC.lt; omega⟩
      · exact ⟨by omega, by omega⟩
  have hlen : (varsOf s).length ≤ 2500 := by
    have h := (parse_ok s hs hp).2
    have := runQ_vars (gsOf s) q0
    have e0 : (q0.vars.length) = 0 := rfl
    unfold varsOf gsOf at *
    omega
  refine ⟨fun W hW => (pn_ok s W hW hs hl hp hq).mono ?_, hlen⟩
  rintro e w' ⟨b, rfl, hb, hM, hg⟩
  obtain ⟨_, bc, gr, vp, h1, h2⟩ := key W w' b hb hM
  exact ⟨b, bc, gr, vp, rfl, h1, h2, hg⟩
theorem rmodel (s : ByteArray) (hs : s.size ≤ 2000) (hl : (lex s).1 = 0) (hp : (pParse (progToks s)).2.2 = 0) (hq : (runQ (gsOf s) q0).st.1 = 0) : RModel s (varsOf s) := by
  obtain ⟨⟨f, hf, hF⟩, hS, hR, hI⟩ := form_ok s hs hl hp
  have hinv := hI hq
  intro W
  by_cases hne : (lex s).2.1 = []
  · rw [hne] at hF
    have hv0 : varsOf s = [] := by
      have hgs : gsOf s = [] := by
        rw [hne] at hS
        cases hg : gsOf s with
        | nil => rfl
        | cons a l =>
          rw [hg] at hS
          obtain ⟨m, h1, _⟩ := hS
          have := stAt_lt h1
          simp at this
      unfold varsOf; rw [hgs]; rfl
    refine (ref_New_empty s W hs hl hne f hf hF).mono ?_
    rintro e w' ⟨hb, bm, h1, h2, rfl, a0, cap, h3⟩
    refine ⟨bm, bm, .slice none 0 0, rfl, ⟨cell_of h3 1 _ rfl, .inl ⟨hv0, rfl⟩⟩, fun k hk => ?_, bel_grown hb⟩
    simp only [List.mem_cons, List.not_mem_nil, or_false] at hk
    rcases hk with e | e <;> exact ⟨by omega, by omega⟩
  · refine (ref_New_ok s W hs hl hne f hf hF _ hS).mono ?_
    rintro e w' ⟨hb, ⟨hbad, _⟩ | ⟨_, bw, bm, gt, capt, B, i, h1, h2, rfl, hM⟩⟩
    · rw [hR] at hbad; exact absurd hq hbad
    · obtain ⟨vv, vl, vr, lists, rules, hMd, _, _⟩ := hM
      have hvars : (runS ((gsOf s).map gS) ⟨[], [], []⟩ (0, 0)).1.vars = (varsOf s).map qP := hinv.vars.symm
      have hov := hMd.ov
      rw [hvars] at hov
      have hbm := hMd.tk.ltm
      rcases own_cells hov with ⟨e1, e2⟩ | ⟨g, cap, e1, e2, e3, e4⟩
      · refine ⟨bm, bm, vv, rfl, ⟨hMd.m1, .inl ⟨by simpa using e1, e2⟩⟩, fun k hk => ?_, bel_grown hb⟩
        simp only [List.mem_cons, List.not_mem_nil, or_false] at hk
        rcases hk with e | e <;> exact ⟨by omega, by omega⟩
      · refine ⟨bm, g, vv, rfl, ⟨hMd.m1, .inr ⟨cap, by simpa using e1, fun k a ha => ?_⟩⟩, fun k hk => ?_, bel_grown hb⟩
        · exact e4 _ _ (varCells_get _ k (qP a) (by simp [ha])).1
        · simp only [List.mem_cons, List.not_mem_nil, or_false] at hk
          rcases hk with e | e
          · exact ⟨by omega, by omega⟩
          · exact ⟨by omega, by omega⟩
theorem both_new (s : ByteArray) : (∃ kd ln : Int, PFault s kd ln ∧ RFault s kd ln) ∨ (∃ l : List QVar, l.length ≤ 2500 ∧ PModel s l ∧ RModel s l) := by
  by_cases hs : s.size ≤ 2000
  · by_cases hl : (lex s).1 = 0
    · by_cases hp : (pParse (progToks s)).2.2 = 0
      · by_cases hq : (runQ (gsOf s) q0).st.1 = 0
        · obtain ⟨h1, h2⟩ := pmodel s hs hl hp hq
          exact .inr ⟨varsOf s, h2, h1, rmodel s hs hl hp hq⟩
        · refine .inl ⟨_, _, fun W => pn_sense s W hs hl hp hq, fun W => ?_⟩
          obtain ⟨⟨f, hf, hF⟩, hS, hR, hI⟩ := form_ok s hs hl hp
          have hne : (lex s).2.1 ≠ [] := fun hne => by
            rw [hne] at hS
            cases hg : gsOf s with
            | nil => rw [hg] at hq; exact hq rfl
            | cons a l =>
              rw [hg] at hS
              obtain ⟨m, h1, _⟩ := hS
              have := stAt_lt h1
              simp at this
          refine (ref_New_ok s W hs hl hne f hf hF _ hS).mono ?_
          rintro e w' ⟨hb, ⟨_, rfl⟩ | ⟨hbad, _⟩⟩
          · rw [hR]; exact ⟨rfl, bel_grown hb⟩
          · rw [hR] at hbad; exact absurd hbad hq
      · obtain ⟨k, R, hk, hR, hR0, hln⟩ := form_bad s hs hl hp
        refine .inl ⟨3, _, fun W => pn_form s W hs hl hp, fun W => (ref_New_form s W hs hl k hk R hR hR0).mono ?_⟩
        rintro e w' ⟨rfl, hb⟩
        rw [hln]; exact ⟨rfl, bel_grown hb⟩
    · refine .inl ⟨2, (lex s).1, fun W => pn_tok s W hs hl, fun W => (ref_New_tok s W hs hl).mono ?_⟩
      rintro e w' ⟨rfl, hb⟩
      exact ⟨rfl, bel_grown hb⟩
  · refine .inl ⟨1, 0, fun W => (pn_long s W (by omega)).mono ?_, fun W => (ref_New_long s W (by omega)).mono ?_⟩
    · rintro e w' ⟨rfl, rfl⟩; exact ⟨rfl, grown_refl _ _⟩
    · rintro e w' ⟨rfl, rfl⟩; exact ⟨rfl, grown_refl _ _⟩
end Go.Proofs.YthpcbbnabnlanaaGreatDoor

/-
  The law's begins: a model of both sides more, or the same fault.
-/
namespace Go.Proofs.YthpcbbnabnlanaaGreatDoor
open Go.RowKit
set_option linter.unusedVariables false
variable {w w' w1 : World} {B bw c T : Nat} {V : LV} {D : LD} {K : Keep → Prop}

theorem infoMo : (Tryz.prog.info? 83).map (fun i => (i.zero, i.size, i.bytes)) = some (some (.agg #[.pointer none, .pointer none]), 2, 16) := by kernel_rfl
theorem mo_one (a b : Option Addr) : ∀ u ∈ [Value.pointer a, .pointer b], u.oneCell' = true := by
  intro u hu; simp only [List.mem_cons, List.not_mem_nil, or_false] at hu; rcases hu with rfl | rfl <;> rfl
/-- what a step of the law leaves -/
def Stepped (w : World) (B bw T : Nat) (w' : World) : Prop := ∃ V' D' c' K', LG w' B bw V' D' c' K' (T + 1) ∧ FrB B bw w w'
theorem Stepped.same (h : LG w B bw V D c K T) (hg : w.grownBy w' none) : Stepped w B bw T w' :=
  ⟨V, D, c, K, ⟨h.lw.grown hg, h.n1, h.n2, h.n3, h.l1, h.l2, h.l3, h.ms, h.m20, fun i hi => by have := h.bd i hi; omega, by have := h.cb; omega⟩, (FrB.refl B bw w).grown h.lw.hB hg (fun k e => by cases e)⟩
theorem tab_low {B bw : Nat} (h : PowTab w) (hb : ∀ k, k < w.heap.size → w'.heap[k]? = w.heap[k]?) : PowTab w' := tab_kept h hb
/-- one model more -/
theorem LG.more {o : Obj} {v' : Value} (x : MP) (h : LG w B bw V D c K T) (hM : ModAt w x) (hx : ∀ k ∈ x.blocks, k < w.heap.size ∧ Free bw V k) (h20 : D.ms.length < 20)
    (hown : w1.ownsRow B 83 2 v' (D.ms.length + 1) (D.ms.flatMap mpCells ++ mpCells x)) (hg : Grew (w.alloc o) V.m v' w1) : Stepped w B bw T (w1.setCell ⟨bw, 0, none⟩ v') := by
  have l0 := h.lw.keep (fun y => K y ∨ y = modKeep x) (fun y hy => by
    rcases hy with hy | rfl
    · exact .inl hy
    · exact .inr ⟨hM, hx⟩)
  have l1 := l0.alloc o
  have l2 := l1.push (D' := { D with ms := D.ms ++ [x] }) (i := 0) (by omega) hown hg
    (fun j hj => by rcases seven hj with rfl | rfl | rfl | rfl | rfl | rfl | rfl <;> simp [LD.cnt])
    (fun j hj => by rcases seven hj with rfl | rfl | rfl | rfl | rfl | rfl | rfl <;> simp [LD.cells])
  refine ⟨_, _, c, _, ⟨l2, h.n1, h.n2, h.n3, fun y hy => ⟨.inl (h.l1 y hy).1, (h.l1 y hy).2⟩, fun y hy => ⟨.inl (h.l2 y hy).1, (h.l2 y hy).2⟩, fun y hy => ?_, fun y hy => ?_, ?_, fun i hi => ?_, ?_⟩, push_frb ((FrB.refl B bw w).grown h.lw.hB (World.grownBy_alloc w o none) (fun k e => by cases e)) l1 (by omega) hg⟩
  · obtain ⟨⟨bs, q⟩, r⟩ := h.l3 y hy
    exact ⟨⟨bs, .inl q⟩, r⟩
  · rcases List.mem_append.1 hy with q | q
    · exact .inl (h.ms y q)
    · simp only [List.mem_cons, List.not_mem_nil, or_false] at q
      exact .inr (by rw [q])
  · simp; omega
  · have hb := h.bd i hi
    rcases seven hi with rfl | rfl | rfl | rfl | rfl | rfl | rfl <;> simp [LD.cnt] at hb ⊢ <;> omega
  · have := h.cb; omega

set_option maxRecDepth 100000 in
set_option maxHeartbeats 4000000 in
theorem law_begins (h : LG w B bw V D c K T) (ht : PowTab w) (s : ByteArray) :
    Calls Tryz.prog 32 #[.pointer (some ⟨bw, 0, none⟩), .string s] w fun e w' => e = .returned (.bool true) ∧ Stepped w B bw T w' := by
  obtain ⟨i1, hi1, hy0, hy1, hy2⟩ := info_parts infoMo
  have HT := hide ht
  rcases both_new s with ⟨kd, ln, hP, hR⟩ | ⟨l, hll, hP, hR⟩
  · have KP := Kept.mk hP
    have KR := Kept.mk hR
    have HG := hide h
    have e1 : (kd != kd) = false := by simp
    have e2 : (ln != ln) = false := by simp
    clear h hP hR ht
    go_enter Tryz.func32, Tryz.ntmps32
    go_wp2_with (first | (go_at_call 38; refine (KR.get _).mono ?_; rintro e w2 ⟨rfl, hg2⟩) | (go_at_call 35; refine (KP.get _).mono ?_; rintro e w1 ⟨rfl, hg1⟩))
    go_ret
    exact ⟨rfl, Stepped.same HG.out (hg1.trans hg2)⟩
  · have KP := Kept.mk (hP w ht)
    have KR := Kept.mk hR
    have HG := hide h
    obtain ⟨ma, mc, em⟩ := own_slice_n (h.lw.own 0 (by omega))
    have hsl := h.lw.slt
    have hBs := h.lw.hB
    have hltB := h.lw.lt
    have h20 := h.m20
    have m0 : w.cell? ⟨bw, 0, none⟩ = some (.slice ma D.ms.length mc) := (cell_of h.lw.blk 0 _ rfl).trans (congrArg some em)
    have o0 : w.ownsRow B 83 2 (.slice ma D.ms.length mc) D.ms.length (D.ms.flatMap mpCells) := em ▸ h.lw.own 0 (by omega)
    have f0 := frozen_of h.lw.blk 0
    have HEM := hide em
    have HB := hide h.lw.blk
    clear h hP hR ht em
    by_cases hc : D.ms.length < 20
    · have hc' : (D.ms.length : Int) < 20 := by omega
      go_enter Tryz.func32, Tryz.ntmps32
      go_wp2_with (first | (at_builtin; refine wpList_append_two rfl _ _ 55 rfl B 83 i1 (.agg #[.pointer none, .pointer none]) 2 16 Tryz.underlying55 hi1 hy0 hy1 hy2 rfl (by decide) _ _ _ rfl (o2.alloc _) ⟨w2.heap.size, 0, none⟩ 1 1 [.pointer (some ⟨b, 0, none⟩), .pointer (some ⟨r, 0, none⟩)] rfl rfl (World.news_of_block (heap_alloc_new _ _)) (mo_one _ _) ?c3 ?c4 ?c5 ?_) | (go_at_call 38; refine (KR.get _).mono ?_; rintro e w2 ⟨r, gv, vr, rfl, hRA, hrb, hg2⟩; have hg12 := hg1.trans hg2; have m2 := hg12.cell m0 (by simp); have o2 := o0.kept hg12 (own_none _)) | (go_at_call 35; refine KP.get.mono ?_; rintro e w1 ⟨b, bc, gr, vp, rfl, hPA, hpb, hg1⟩))
      case c3 => unfold maxLen; omega
      case c4 => omega
      case c5 => have := hg12.size; simp; omega
      intro v' w3 ho3 hg3
      have G2 := HG.out.grown hg12
      have hst := G2.more ⟨b, bc, gr, r, gv, l, vp, vr, s⟩ ⟨hPA.turn (fun k hk => hg2.block k (hpb k hk).2 (by simp)), hRA, hll⟩ (fun k hk => by
          have : (k = b ∨ k = bc ∨ k = gr) ∨ k = r ∨ k = gv := by simpa [MP.blocks, or_assoc] using hk
          have q : w.heap.size ≤ k ∧ k < w2.heap.size := by
            rcases this with e | e
            · have q := hpb k (by simpa using e)
              exact ⟨q.1, Nat.lt_of_lt_of_le q.2 hg2.size⟩
            · have q := hrb k (by simpa using e)
              exact ⟨Nat.le_trans hg1.size q.1, q.2⟩
          refine ⟨q.2, by omega, fun i hi e => ?_⟩
          have := (HG.out.lw.ownB hi e).2
          omega) hc ho3 (by rw [show V.m = _ from HEM.out]; exact hg3)
      obtain ⟨xa, xm, xc, rfl⟩ := own_slice ho3
      have hblk3 := (hg3.by.block bw (by have := hg12.size; simp; omega) (fun e => by have := (o2.lt _ e.symm).1; omega)).trans ((heap_alloc_old w2 _ (by have := hg12.size; omega)).trans ((hg12.block bw hsl (by simp)).trans HB.out))
      have f3 := frozen_of hblk3 0
      have m3 := cell_of hblk3 0 _ rfl
      have HST := hide hst
      have HF := hide ((FrB.refl B bw w).grown hBs hg12 (fun k e => by cases e))
      clear hst ho3 hg3 o2 m2 o0 hblk3 G2
      go_wp2
      go_ret
      obtain ⟨V', D', c', K', q1, q2⟩ := HST.out
      exact ⟨rfl, V', D', c', K', q1, HF.out.trans q2⟩
    · have hc' : decide ((D.ms.length : Int) < 20) = false := by simp; omega
      go_enter Tryz.func32, Tryz.ntmps32
      go_wp2_with (first | (go_at_call 38; refine (KR.get _).mono ?_; rintro e w2 ⟨r, gv, vr, rfl, hRA, hrb, hg2⟩; have hg12 := hg1.trans hg2; have m2 := hg12.cell m0 (by simp)) | (go_at_call 35; refine KP.get.mono ?_; rintro e w1 ⟨b, bc, gr, vp, rfl, hPA, hpb, hg1⟩))
      go_ret
      exact ⟨rfl, Stepped.same HG.out hg12⟩
end Go.Proofs.YthpcbbnabnlanaaGreatDoor

/-
  The law's tells, of names: both sides tell the same; each list is new memory.
-/
namespace Go.Proofs.YthpcbbnabnlanaaGreatDoor
open Go.RowKit
set_option linter.unusedVariables false
variable {w w' w1 : World} {B bw c T : Nat} {V : LV} {D : LD} {K : Keep → Prop}

theorem own_base {w : World} {B B' e s n : Nat} {v : Value} {xs : List Value} (h : w.ownsRow B' e s v n xs) (hB : B ≤ B') : w.ownsRow B e s v n xs := by
  refine ⟨h.1, ?_⟩
  rcases h.2 with q | ⟨g, cap, cur, h1, h2, h3⟩
  · exact .inl q
  · exact .inr ⟨g, cap, cur, h1, by omega, h3⟩
/-- Names, whatever the model -/
theorem pn_Names_any {b bc gr : Nat} {vp : Value} {l : List QVar} {s : ByteArray} (h : ProgAt w b bc gr vp l s) (hl : l.length ≤ 2500) (hlt : ∀ k ∈ [b, bc, gr], k < w.heap.size) :
    Calls Tryz.prog 31 #[.pointer (some ⟨b, 0, none⟩)] w fun e w' => e = .returned (.slice (some ⟨w.heap.size, 0, none⟩) l.length l.length) ∧ w'.ownsRow w.heap.size 9 1 (.slice (some ⟨w.heap.size, 0, none⟩) l.length l.length) l.length (nmCells l) ∧ w.grownBy w' none := by
  have hb := hlt b (by simp)
  have hc := hlt bc (by simp)
  have hg := hlt gr (by simp)
  rcases h.p3 with ⟨rfl, a, c, hv⟩ | ⟨cap, hv, hr⟩
  · have h2 := h.p2
    rw [hv] at h2
    refine (pn_Names_nil h.p1 h2 hb hc).mono ?_
    rintro e w' ⟨rfl, rfl⟩
    refine ⟨rfl, ⟨rfl, .inr ⟨w.heap.size, 0, _, rfl, Nat.le_refl _, heap_alloc_new w _, Nat.le_refl _, by unfold maxLen; omega, ?_, rfl⟩⟩, World.grownBy_alloc _ _ _⟩
    rw [size_madeCells]
  · have h2 := h.p2
    rw [hv] at h2
    exact pn_Names h.p1 ⟨rfl, hr, hg⟩ h2 (by omega) hb hc
theorem pn_Names_ex {W : World} {b bc gr : Nat} {vp : Value} {l : List QVar} {s : ByteArray} (h : ProgAt w b bc gr vp l s) (hl : l.length ≤ 2500) (hlt : ∀ k ∈ [b, bc, gr], k < w.heap.size) (hg : w.grownBy W none) (hB : B ≤ w.heap.size) :
    Calls Tryz.prog 31 #[.pointer (some ⟨b, 0, none⟩)] W fun e w' => ∃ g, e = .returned (.slice (some ⟨g, 0, none⟩) l.length l.length) ∧ W.heap.size ≤ g ∧ g < w'.heap.size ∧ w'.ownsRow B 9 1 (.slice (some ⟨g, 0, none⟩) l.length l.length) l.length (nmCells l) ∧ W.grownBy w' none := by
  refine (pn_Names_any (w := W) (h.turn (fun k hk' => hg.block k (hlt k hk') (by simp))) hl (fun k hk' => Nat.lt_of_lt_of_le (hlt k hk') hg.size)).mono ?_
  rintro e w' ⟨rfl, ho, hg'⟩
  exact ⟨_, rfl, Nat.le_refl _, (ho.lt _ rfl).2, own_base ho (Nat.le_trans hB hg.size), hg'⟩
theorem pushAll1 (D : LD) (L : List LP) : pushAll D 1 L = { D with ns := D.ns ++ L, ks := D.ks ++ L.map (·.mark) } := by
  induction L generalizing D with
  | nil => simp [pushAll]
  | cons x L ih =>
    have e : pushAll D 1 (x :: L) = pushAll ((D.pl 1 x).pk 2 x.mark) 1 L := rfl
    rw [e, ih]
    simp [LD.pl, LD.pk]
/-- two lists of texts more -/
theorem LG.two {K1 K2 : Keep → Prop} {V2 : LV} {L1 L2 : List LP} {t1 t2 : ByteArray} {n : Nat} (h : LG w B bw V D c K T) (hl : LW w' B bw V2 (pushAll (pushAll D 1 L1) 1 L2) (c + 1 + 1) K2) (k1 : ∀ x, K x → K1 x) (k2 : ∀ x, K1 x → K2 x)
    (h1 : ∀ x ∈ L1, K1 (lstKeep x) ∧ x.mark = .string t1 ∧ x.len ≤ n + 65) (h2 : ∀ x ∈ L2, K2 (lstKeep x) ∧ x.mark = .string t2 ∧ x.len ≤ n + 65) (l1 : L1.length ≤ 65) (l2 : L2.length ≤ 65) (hn : n ≤ 2500) :
    LG w' B bw V2 (pushAll (pushAll D 1 L1) 1 L2) (c + 1 + 1) K2 (T + 1) := by
  have c1 := pushAll_cnt D (i := 1) (.inl rfl) L1
  have c2 := pushAll_cnt (pushAll D 1 L1) (i := 1) (.inl rfl) L2
  have e : pushAll (pushAll D 1 L1) 1 L2 = { D with ns := D.ns ++ L1 ++ L2, ks := D.ks ++ L1.map (·.mark) ++ L2.map (·.mark) } := by rw [pushAll1, pushAll1]
  refine ⟨hl, ?_, ?_, ?_, fun x hx => ?_, fun x hx => ?_, fun x hx => ?_, fun x hx => ?_, ?_, fun i hi => ?_, ?_⟩
  · rw [e]; simp [h.n1]
  · rw [e]; exact h.n2
  · rw [e]; exact h.n3
  · rw [e] at hx
    rcases List.mem_append.1 hx with hx | hx
    · rcases List.mem_append.1 hx with hx | hx
      · obtain ⟨q1, q2, q3⟩ := h.l1 x hx
        exact ⟨k2 _ (k1 _ q1), q2, q3⟩
      · obtain ⟨q1, q2, q3⟩ := h1 x hx
        exact ⟨k2 _ q1, by omega, _, q2⟩
    · obtain ⟨q1, q2, q3⟩ := h2 x hx
      exact ⟨q1, by omega, _, q2⟩
  · rw [e] at hx; exact ⟨k2 _ (k1 _ (h.l2 x hx).1), (h.l2 x hx).2⟩
  · rw [e] at hx
    obtain ⟨⟨bs, q1⟩, q2⟩ := h.l3 x hx
    exact ⟨⟨bs, k2 _ (k1 _ q1)⟩, q2⟩
  · rw [e] at hx; exact k2 _ (k1 _ (h.ms x hx))
  · rw [e]; exact h.m20
  · have := h.bd i hi; have := c1 i hi; have := c2 i hi; omega
  · have := h.cb; omega
/-- what stands at a round's head -/
def TeRel (w2 : World) (n : Nat) (vo vi : Value) (wr : World) : Prop := ∃ i : Nat, i ≤ n ∧ vo = .bool true ∧ vi = .int .i64 i ∧ w2.grownBy wr none
theorem nm_get {l : List QVar} {i : Nat} {a : QVar} (ha : l[i]? = some a) : (nmCells l)[i]? = some (.string a.name) := by simp [nmCells, ha]
theorem own_at {w : World} {B e g n cap j : Nat} {xs : List Value} {u : Value} (h : w.ownsRow B e 1 (.slice (some ⟨g, 0, none⟩) n cap) n xs) (hu : xs[j]? = some u) : w.cell? ⟨g, j, none⟩ = some u := by
  have q := h.cells (g := g) rfl j u hu
  have hadd : (⟨g, 0, none⟩ : Addr).add j = ⟨g, j, none⟩ := by unfold Addr.add; split <;> simp_all
  rw [hadd] at q; exact q
theorem free_new {w : World} (h : LW w B bw V D c K) {k : Nat} (hk : w.heap.size ≤ k) : Free bw V k :=
  ⟨by have := h.slt; omega, fun i hi e => by have := (h.ownB hi e).2; omega⟩

set_option maxRecDepth 100000 in
set_option maxHeartbeats 8000000 in
theorem law_tells_names (h : LG w B bw V D c K T) (hT : T ≤ 1100000) (x : MP) (hx : x ∈ D.ms) (kd on od bu : Int) (tx : ByteArray) (va : Option Addr) (vn vc : Nat) (wk : Bool) (hk : kd ≠ 3) :
    Calls Tryz.prog 40 #[.pointer (some ⟨bw, 0, none⟩), .agg #[.pointer (some ⟨x.b, 0, none⟩), .pointer (some ⟨x.r, 0, none⟩)], .agg #[.int .i64 kd, .int .i64 on, .string tx, .slice va vn vc, .int .i64 od, .int .i64 bu, .bool wk]] w fun e w' => e = .returned (.bool true) ∧ Stepped w B bw T w' := by
  have hkb : (kd == 3) = false := by simpa using hk
  have hMod := (h.lw.kp _ (h.ms x hx)).1
  have hMb := (h.lw.kp _ (h.ms x hx)).2
  have hbd := h.bd
  have hcb := h.cb
  have HG := hide h
  obtain ⟨b, bc, gr, r, gv, l, vp, vr, s⟩ := x
  have hP : ProgAt w b bc gr vp l s := hMod.p
  have hR : RefAt w r gv vr l := hMod.r
  have hll : l.length ≤ 2500 := hMod.len
  have hlt : ∀ k ∈ [b, bc, gr], k < w.heap.size := fun k hk' => (hMb k (by
    simp only [List.mem_cons, List.not_mem_nil, or_false] at hk'
    show k ∈ [b, bc, gr, r, gv]
    simp only [List.mem_cons, List.not_mem_nil, or_false]
    rcases hk' with e | e | e <;> simp [e])).1
  have hlr : r < w.heap.size := (hMb r (by show r ∈ [b, bc, gr, r, gv]; simp)).1
  have hlv : gv < w.heap.size := (hMb gv (by show gv ∈ [b, bc, gr, r, gv]; simp)).1
  obtain ⟨ra, rc, hvr, hra⟩ : ∃ ra rc, vr = .slice ra l.length rc ∧ ∀ k a, l[k]? = some a → ra = some ⟨gv, 0, none⟩ ∧ w.cell? ⟨gv, k * 3, none⟩ = some (.string a.name) := by
    rcases hR.r2 with ⟨rfl, e⟩ | ⟨cap, e, q⟩
    · exact ⟨none, 0, e, fun k a ha => by simp at ha⟩
    · exact ⟨_, cap, e, fun k a ha => ⟨rfl, q k a ha⟩⟩
  have hr1 := hR.r1
  rw [hvr] at hr1
  have KN := Kept.mk (fun {W : World} (hg : w.grownBy W none) => pn_Names_ex (B := B) hP hll hlt hg h.lw.hB)
  have HRA := hide hra
  have hBw := h.lw.hB
  have hcn : Hid (∀ i, i < 7 → D.cnt i ≤ 100000000000) := fun i hi => by have := h.bd i hi; omega
  have hks : Hid (∀ x, K x → ∀ k ∈ x.S, k < w.heap.size) := fun x hx k hk' => ((h.lw.kp x hx).2 k hk').1
  clear h hMod hMb hP hR hlt hk hbd hra
  go_enter Tryz.func40, Tryz.ntmps40
  go_wp2_with (first | (go_at_call 31; refine (KN.get hh1).mono ?_; rintro e w2 ⟨g2, rfl, hs2, hl2, o2, hg2⟩; have hh2 := hh1.trans hg2; have y1 := hg2.cell x1 (by simp); have r2 := hh2.cell hr1 (by simp)) | (go_at_call 31; refine (KN.get ((World.grownBy_alloc w _ none).trans (World.grownBy_alloc _ _ none))).mono ?_; rintro e w1 ⟨g1, rfl, hs1, hl1, o1, hg1⟩; have hh1 := ((World.grownBy_alloc w _ none).trans (World.grownBy_alloc _ _ none)).trans hg1; have x0 := hg1.cell (cell_of (heap_alloc2_old w _ _) 0 _ rfl) (by simp); have x1 := hg1.cell (cell_of (heap_alloc2_old w _ _) 1 _ rfl) (by simp)))
  have HO1 := hide (o1.kept hg2 (own_none _))
  have HO2 := hide o2
  have HH2 := hide hh2
  have hz1 : w.heap.size ≤ g1 := by have := hs1; simp at this; omega
  have hz2 : g1 < g2 := by omega
  have hz3 := hh2.size
  clear o1 o2 hg1 hg2 hh1 hh2 x0 x1
  go_loopw [11, 12] (fun vo vi wr => TeRel w2 l.length vo vi wr) (fun _ vi _ => l.length - (intOf vi).toNat)
  case atStart => exact ⟨0, by omega, rfl, rfl, grown_refl _ _⟩
  case round =>
    obtain ⟨i, hi, rfl, rfl, hgr⟩ := hrel
    by_cases hlt : i < l.length
    · obtain ⟨a, ha⟩ : ∃ a, l[i]? = some a := ⟨l[i], by simp [hlt]⟩
      obtain ⟨hra, hq⟩ := HRA.out i a ha
      subst hra
      have k1 := hgr.cell y1 (by simp)
      have k2 := hgr.cell r2 (by simp)
      have k3 := (HH2.out.trans hgr).cell hq (by simp)
      have k4 := hgr.cell (own_at HO1.out (nm_get ha)) (by simp)
      have k5 := hgr.cell (own_at HO2.out (nm_get ha)) (by simp)
      have hlt3 : (i : Int) < l.length := by omega
      have h03 : (0 : Int) ≤ i := by omega
      have HGR := hide hgr
      clear hgr
      go_wp2
      go_quiet (fail)
      go_wp2
      go_roundw
      case rel => exact ⟨i + 1, by omega, rfl, by go_num, HGR.out.trans (grown_drewN' _ _ _)⟩
      case measure => simp [intOf]; omega
    · obtain rfl : i = l.length := by omega
      have hhr := HH2.out.trans hgr
      have G3 := HG.out.lw.grown hhr
      have o1r := HO1.out.kept hgr (own_none _)
      have o2r := HO2.out.kept hgr (own_none _)
      have K1 := Kept.mk (law_texts G3 o1r (free_new HG.out.lw hz1) (fun x hx q => by have := hks.out x hx _ q; omega) (by omega) (by omega) hcn.out)
      have HF2 := hide (free_new HG.out.lw (by omega) : Free bw V g2)
      have hsr : g2 < wr.heap.size := by have := hgr.size; omega
      have HO2R := hide o2r
      have HHR := hide hhr
      have hzr := hhr.size
      clear G3 o1r o2r hhr hgr HO1 HO2 HH2
      go_wp2_with (first | (go_at_call 56; refine (law_texts q4 o24 f24 n24 (by omega) (by omega) c24).mono ?_; rintro e w5 ⟨rfl, V5, K5, L2, t2, q5, went5, l25, f25⟩) | (go_at_call 56; refine K1.get.mono ?_; rintro e w4 ⟨rfl, V4, K4, L1, t1, q4, went4, l14, f14⟩; have o24 := own_turn HO2R.out (fun k e => (went4.bl k (by have : g2 = k := Option.some.inj e; omega) (by have : g2 = k := Option.some.inj e; rw [← this]; exact HF2.out) (by have : g2 = k := Option.some.inj e; omega))); have f24 := went4.fr g2 hsr HF2.out; have n24 : ∀ x, K4 x → g2 ∉ x.S := (fun x hx q => by rcases went4.kn x hx with e | e; (have := hks.out x e _ q; omega); (have := e _ q; omega)); have c24 : ∀ i, i < 7 → (pushAll D 1 L1).cnt i ≤ 100000000000 := (fun i hi => by have := pushAll_cnt D (i := 1) (.inl rfl) L1 i hi; have := HG.out.bd i hi; omega)))
      go_ret
      exact ⟨rfl, V5, _, _, K5, HG.out.two q5 went4.kk went5.kk f14 f25 l14 l25 hll, (((FrB.refl B bw w).grown hBw HHR.out (fun k e => by cases e)).trans went4.frb).trans went5.frb⟩
end Go.Proofs.YthpcbbnabnlanaaGreatDoor

/-
  The law's step, of models and names.
-/
namespace Go.Proofs.YthpcbbnabnlanaaGreatDoor
open Go.RowKit
set_option linter.unusedVariables false
variable {w w' w1 : World} {B bw c T : Nat} {V : LV} {D : LD} {K : Keep → Prop}

/-- a step's cells -/
structure OpV where
  kd : Int
  on : Int
  tx : ByteArray
  va : Option Addr
  vn : Nat
  vc : Nat
  od : Int
  bu : Int
  wk : Bool
def OpV.cells (o : OpV) : Array Value := #[.int .i64 o.kd, .int .i64 o.on, .string o.tx, .slice o.va o.vn o.vc, .int .i64 o.od, .int .i64 o.bu, .bool o.wk]
theorem Stepped.from (hB : B ≤ w.heap.size) (hg : w.grownBy w1 none) (h : Stepped w1 B bw T w') : Stepped w B bw T w' := by
  obtain ⟨V', D', c', K', h1, h2⟩ := h
  exact ⟨V', D', c', K', h1, ((FrB.refl B bw w).grown hB hg (fun k e => by cases e)).trans h2⟩
theorem ms_at {ms : List MP} {i : Nat} {x : MP} (h : ms[i]? = some x) : (ms.flatMap mpCells)[i * 2]? = some (.pointer (some ⟨x.b, 0, none⟩)) ∧ (ms.flatMap mpCells)[i * 2 + 1]? = some (.pointer (some ⟨x.r, 0, none⟩)) := by
  have q := fun k u hk => flat_get mpCells 2 (fun _ => rfl) ms i x h k u hk
  exact ⟨q 0 _ rfl, q 1 _ rfl⟩

set_option maxRecDepth 100000 in
set_option maxHeartbeats 8000000 in
theorem law_step_low (h : LG w B bw V D c K T) (hT : T ≤ 1100000) (ht : PowTab w) (o : OpV) (hk : o.kd ≤ 2) (hlo : -9223372036854775808 ≤ o.on) (hhi : o.on ≤ 9223372036854775807) :
    Calls Tryz.prog 33 #[.pointer (some ⟨bw, 0, none⟩), .agg o.cells] w fun e w' => e = .returned (.bool true) ∧ Stepped w B bw T w' := by
  obtain ⟨kd, on, tx, va, vn, vc, od, bu, wk⟩ := o
  unfold OpV.cells
  simp only at hk hlo hhi ⊢
  have hBw := h.lw.hB
  have hsl := h.lw.slt
  by_cases h1 : kd = 1
  · subst h1
    have KB := Kept.mk (fun o => law_begins (h.grown (World.grownBy_alloc w o none)) (tab_kept ht (fun k hk => heap_alloc_old w o hk)) tx)
    clear h ht hk
    go_enter Tryz.func33, Tryz.ntmps33
    go_wp2_with (go_at_call 32; refine (KB.get _).mono ?_; rintro e w1 ⟨rfl, hS⟩)
    go_ret
    exact ⟨rfl, hS.from hBw (World.grownBy_alloc _ _ _)⟩
  · have h1' : (kd == 1) = false := by simpa using h1
    obtain ⟨ma, mc, em⟩ := own_slice_n (h.lw.own 0 (by omega))
    have m0 : w.cell? ⟨bw, 0, none⟩ = some (.slice ma D.ms.length mc) := (cell_of h.lw.blk 0 _ rfl).trans (congrArg some em)
    have m1 : ∀ o, (w.alloc o).cell? ⟨bw, 0, none⟩ = some (.slice ma D.ms.length mc) := fun o => (World.grownBy_alloc w o none).cell m0 (by simp)
    have HG := hide h
    by_cases h0 : D.ms.length = 0
    · rw [h0] at m1
      clear h ht m0 em h0
      go_enter Tryz.func33, Tryz.ntmps33
      go_wp2
      go_ret
      exact ⟨rfl, Stepped.same HG.out (World.grownBy_alloc _ _ _)⟩
    · have h20 := h.m20
      have hpb := pickI_bd on (D.ms.length : Int) (by omega)
      obtain ⟨P, hP⟩ : ∃ P : Nat, pickI on (D.ms.length : Int) = P := ⟨(pickI on (D.ms.length : Int)).toNat, by omega⟩
      rw [hP] at hpb
      have hPl : P < D.ms.length := by omega
      obtain ⟨x, hx⟩ : ∃ x, D.ms[P]? = some x := ⟨D.ms[P], by simp [hPl]⟩
      obtain ⟨gm, cm, e1, hc0, _⟩ := h.lw.at (i := 0) (j := P * 2) (by omega) (ms_at hx).1
      obtain ⟨gm', cm', e1', hc1, _⟩ := h.lw.at (i := 0) (j := P * 2 + 1) (by omega) (ms_at hx).2
      rw [e1] at e1'
      injection e1' with q1 q2 q3
      injection q1 with q1
      injection q1 with q1 _ _
      subst q1
      rw [e1] at em
      injection em with q4 q5 q6
      subst q4
      have hgm := (h.lw.ownB (i := 0) (by omega) (by rw [e1]; rfl : (V.get 0).ownBlock = some gm)).2
      have hn0 : (((D.ms.length : Nat) : Int) == 0) = false := by simpa using h0
      have KP := Kept.mk (fun W => law_pick on (D.ms.length : Int) W hlo hhi (by omega) (by omega))
      rw [hP] at KP
      have hP0 : (0 : Int) ≤ P := by omega
      have hPl' : (P : Int) < D.ms.length := by omega
      have HX := hide (List.mem_of_getElem? hx)
      clear h ht e1 hx hP
      by_cases h2 : kd = 2
      · subst h2
        have KT := Kept.mk (fun {W : World} (hg : w.grownBy W none) => law_tells_names (HG.out.grown hg) hT x HX.out 2 on od bu tx va vn vc wk (by decide))
        go_enter Tryz.func33, Tryz.ntmps33
        go_wp2
        go_region_held3 (fun w' => w'.cell? ⟨bw, 0, none⟩ = some (.slice (some ⟨gm, 0, none⟩) D.ms.length mc) ∧ w'.cell? ⟨w.heap.size, 1, none⟩ = some (.int .i64 on) ∧ w'.cell? ⟨gm, P * 2, none⟩ = some (.pointer (some ⟨x.b, 0, none⟩)) ∧ w'.cell? ⟨gm, P * 2 + 1, none⟩ = some (.pointer (some ⟨x.r, 0, none⟩))) (go_keep)
          (first | (go_at_call 39; refine (KP.get _).mono ?_; rintro e w' ⟨rfl, hww⟩; subst w'))
        all_goals go_wp2_with (go_at_call 40; refine (KT.get (((World.grownBy_alloc w _ none).trans (World.grownBy_alloc _ _ none)).trans (grown_drew' _ none))).mono ?_; rintro e w1 ⟨rfl, hS⟩)
        all_goals go_ret
        all_goals exact ⟨rfl, hS.from hBw (((World.grownBy_alloc w _ none).trans (World.grownBy_alloc _ _ none)).trans (grown_drew' _ none))⟩
      · have h2' : (kd == 2) = false := by simpa using h2
        have h3' : (kd == 3) = false := by simp; omega
        have h4' : (kd == 4) = false := by simp; omega
        have h5' : (kd == 5) = false := by simp; omega
        go_enter Tryz.func33, Tryz.ntmps33
        go_wp2
        go_region_held3 (fun w' => w'.cell? ⟨bw, 0, none⟩ = some (.slice (some ⟨gm, 0, none⟩) D.ms.length mc) ∧ w'.cell? ⟨w.heap.size, 1, none⟩ = some (.int .i64 on) ∧ w'.cell? ⟨gm, P * 2, none⟩ = some (.pointer (some ⟨x.b, 0, none⟩)) ∧ w'.cell? ⟨gm, P * 2 + 1, none⟩ = some (.pointer (some ⟨x.r, 0, none⟩))) (go_keep)
          (first | (go_at_call 39; refine (KP.get _).mono ?_; rintro e w' ⟨rfl, hww⟩; subst w'))
        all_goals go_wp2
        all_goals go_ret
        all_goals exact ⟨rfl, Stepped.same HG.out (((World.grownBy_alloc w _ none).trans (World.grownBy_alloc _ _ none)).trans (grown_drew' _ none))⟩
end Go.Proofs.YthpcbbnabnlanaaGreatDoor
