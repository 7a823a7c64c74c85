import Derived.Test.YthpcbbnabnlanaaGreatDoorM34
import Derived.Deep.RegionLaw
import Derived.Deep.Cut
import Derived.Deep.RegionHeld3
import Derived.Deep.LoopGhost
import Derived.Deep.Slices
import Derived.ChangeSlices
/-
  The law's tells, of names: both sides tell the same; each list is new memory.
-/
namespace Go.Proofs.YthpcbbnabnlanaaGreatDoor
open Go.RowKit
set_option linter.unusedVariables false
variable {w w' w1 : World} {B bw c T : Nat} {V : LV} {D : LD} {K : Keep → Prop}

theorem own_base {w : World} {B B' e s n : Nat} {v : Value} {xs : List Value} (h : w.ownsRow B' e s v n xs) (hB : B ≤ B') : w.ownsRow B e s v n xs := by
  refine ⟨h.1, ?_⟩
  rcases h.2 with q | ⟨g, cap, cur, h1, h2, h3⟩
  · exact .inl q
  · exact .inr ⟨g, cap, cur, h1, by omega, h3⟩
/-- Names, whatever the model -/
theorem pn_Names_any {b bc gr : Nat} {vp : Value} {l : List QVar} {s : ByteArray} (h : ProgAt w b bc gr vp l s) (hl : l.length ≤ 2500) (hlt : ∀ k ∈ [b, bc, gr], k < w.heap.size) :
    Calls Tryz.prog 31 #[.pointer (some ⟨b, 0, none⟩)] w fun e w' => e = .returned (.slice (some ⟨w.heap.size, 0, none⟩) l.length l.length) ∧ w'.ownsRow w.heap.size 9 1 (.slice (some ⟨w.heap.size, 0, none⟩) l.length l.length) l.length (nmCells l) ∧ w.grownBy w' none := by
  have hb := hlt b (by simp)
  have hc := hlt bc (by simp)
  have hg := hlt gr (by simp)
  rcases h.p3 with ⟨rfl, a, c, hv⟩ | ⟨cap, hv, hr⟩
  · have h2 := h.p2
    rw [hv] at h2
    refine (pn_Names_nil h.p1 h2 hb hc).mono ?_
    rintro e w' ⟨rfl, rfl⟩
    refine ⟨rfl, ⟨rfl, .inr ⟨w.heap.size, 0, _, rfl, Nat.le_refl _, heap_alloc_new w _, Nat.le_refl _, by unfold maxLen; omega, ?_, rfl⟩⟩, World.grownBy_alloc _ _ _⟩
    rw [size_madeCells]
  · have h2 := h.p2
    rw [hv] at h2
    exact pn_Names h.p1 ⟨rfl, hr, hg⟩ h2 (by omega) hb hc
theorem pn_Names_ex {W : World} {b bc gr : Nat} {vp : Value} {l : List QVar} {s : ByteArray} (h : ProgAt w b bc gr vp l s) (hl : l.length ≤ 2500) (hlt : ∀ k ∈ [b, bc, gr], k < w.heap.size) (hg : w.grownBy W none) (hB : B ≤ w.heap.size) :
    Calls Tryz.prog 31 #[.pointer (some ⟨b, 0, none⟩)] W fun e w' => ∃ g, e = .returned (.slice (some ⟨g, 0, none⟩) l.length l.length) ∧ W.heap.size ≤ g ∧ g < w'.heap.size ∧ w'.ownsRow B 9 1 (.slice (some ⟨g, 0, none⟩) l.length l.length) l.length (nmCells l) ∧ W.grownBy w' none := by
  refine (pn_Names_any (w := W) (h.turn (fun k hk' => hg.block k (hlt k hk') (by simp))) hl (fun k hk' => Nat.lt_of_lt_of_le (hlt k hk') hg.size)).mono ?_
  rintro e w' ⟨rfl, ho, hg'⟩
  exact ⟨_, rfl, Nat.le_refl _, (ho.lt _ rfl).2, own_base ho (Nat.le_trans hB hg.size), hg'⟩
theorem pushAll1 (D : LD) (L : List LP) : pushAll D 1 L = { D with ns := D.ns ++ L, ks := D.ks ++ L.map (·.mark) } := by
  induction L generalizing D with
  | nil => simp [pushAll]
  | cons x L ih =>
    have e : pushAll D 1 (x :: L) = pushAll ((D.pl 1 x).pk 2 x.mark) 1 L := rfl
    rw [e, ih]
    simp [LD.pl, LD.pk]
/-- two lists of texts more -/
theorem LG.two {K1 K2 : Keep → Prop} {V2 : LV} {L1 L2 : List LP} {t1 t2 : ByteArray} {n : Nat} (h : LG w B bw V D c K T) (hl : LW w' B bw V2 (pushAll (pushAll D 1 L1) 1 L2) (c + 1 + 1) K2) (k1 : ∀ x, K x → K1 x) (k2 : ∀ x, K1 x → K2 x)
    (h1 : ∀ x ∈ L1, K1 (lstKeep x) ∧ x.mark = .string t1 ∧ x.len ≤ n + 65) (h2 : ∀ x ∈ L2, K2 (lstKeep x) ∧ x.mark = .string t2 ∧ x.len ≤ n + 65) (l1 : L1.length ≤ 65) (l2 : L2.length ≤ 65) (hn : n ≤ 2500) :
    LG w' B bw V2 (pushAll (pushAll D 1 L1) 1 L2) (c + 1 + 1) K2 (T + 1) := by
  have c1 := pushAll_cnt D (i := 1) (.inl rfl) L1
  have c2 := pushAll_cnt (pushAll D 1 L1) (i := 1) (.inl rfl) L2
  have e : pushAll (pushAll D 1 L1) 1 L2 = { D with ns := D.ns ++ L1 ++ L2, ks := D.ks ++ L1.map (·.mark) ++ L2.map (·.mark) } := by rw [pushAll1, pushAll1]
  refine ⟨hl, ?_, ?_, ?_, fun x hx => ?_, fun x hx => ?_, fun x hx => ?_, fun x hx => ?_, ?_, fun i hi => ?_, ?_⟩
  · rw [e]; simp [h.n1]
  · rw [e]; exact h.n2
  · rw [e]; exact h.n3
  · rw [e] at hx
    rcases List.mem_append.1 hx with hx | hx
    · rcases List.mem_append.1 hx with hx | hx
      · obtain ⟨q1, q2, q3⟩ := h.l1 x hx
        exact ⟨k2 _ (k1 _ q1), q2, q3⟩
      · obtain ⟨q1, q2, q3⟩ := h1 x hx
        exact ⟨k2 _ q1, by omega, _, q2⟩
    · obtain ⟨q1, q2, q3⟩ := h2 x hx
      exact ⟨q1, by omega, _, q2⟩
  · rw [e] at hx; exact ⟨k2 _ (k1 _ (h.l2 x hx).1), (h.l2 x hx).2⟩
  · rw [e] at hx
    obtain ⟨⟨bs, q1⟩, q2⟩ := h.l3 x hx
    exact ⟨⟨bs, k2 _ (k1 _ q1)⟩, q2⟩
  · rw [e] at hx; exact k2 _ (k1 _ (h.ms x hx))
  · rw [e]; exact h.m20
  · have := h.bd i hi; have := c1 i hi; have := c2 i hi; omega
  · have := h.cb; omega
/-- what stands at a round's head -/
def TeRel (w2 : World) (n : Nat) (vo vi : Value) (wr : World) : Prop := ∃ i : Nat, i ≤ n ∧ vo = .bool true ∧ vi = .int .i64 i ∧ w2.grownBy wr none
theorem nm_get {l : List QVar} {i : Nat} {a : QVar} (ha : l[i]? = some a) : (nmCells l)[i]? = some (.string a.name) := by simp [nmCells, ha]
theorem own_at {w : World} {B e g n cap j : Nat} {xs : List Value} {u : Value} (h : w.ownsRow B e 1 (.slice (some ⟨g, 0, none⟩) n cap) n xs) (hu : xs[j]? = some u) : w.cell? ⟨g, j, none⟩ = some u := by
  have q := h.cells (g := g) rfl j u hu
  have hadd : (⟨g, 0, none⟩ : Addr).add j = ⟨g, j, none⟩ := by unfold Addr.add; split <;> simp_all
  rw [hadd] at q; exact q
theorem free_new {w : World} (h : LW w B bw V D c K) {k : Nat} (hk : w.heap.size ≤ k) : Free bw V k :=
  ⟨by have := h.slt; omega, fun i hi e => by have := (h.ownB hi e).2; omega⟩

set_option maxRecDepth 100000 in
set_option maxHeartbeats 8000000 in
theorem law_tells_names (h : LG w B bw V D c K T) (hT : T ≤ 1100000) (x : MP) (hx : x ∈ D.ms) (kd on od bu : Int) (tx : ByteArray) (va : Option Addr) (vn vc : Nat) (wk : Bool) (hk : kd ≠ 3) :
    Calls Tryz.prog 40 #[.pointer (some ⟨bw, 0, none⟩), .agg #[.pointer (some ⟨x.b, 0, none⟩), .pointer (some ⟨x.r, 0, none⟩)], .agg #[.int .i64 kd, .int .i64 on, .string tx, .slice va vn vc, .int .i64 od, .int .i64 bu, .bool wk]] w fun e w' => e = .returned (.bool true) ∧ Stepped w B bw T w' := by
  have hkb : (kd == 3) = false := by simpa using hk
  have hMod := (h.lw.kp _ (h.ms x hx)).1
  have hMb := (h.lw.kp _ (h.ms x hx)).2
  have hbd := h.bd
  have hcb := h.cb
  have HG := hide h
  obtain ⟨b, bc, gr, r, gv, l, vp, vr, s⟩ := x
  have hP : ProgAt w b bc gr vp l s := hMod.p
  have hR : RefAt w r gv vr l := hMod.r
  have hll : l.length ≤ 2500 := hMod.len
  have hlt : ∀ k ∈ [b, bc, gr], k < w.heap.size := fun k hk' => (hMb k (by
    simp only [List.mem_cons, List.not_mem_nil, or_false] at hk'
    show k ∈ [b, bc, gr, r, gv]
    simp only [List.mem_cons, List.not_mem_nil, or_false]
    rcases hk' with e | e | e <;> simp [e])).1
  have hlr : r < w.heap.size := (hMb r (by show r ∈ [b, bc, gr, r, gv]; simp)).1
  have hlv : gv < w.heap.size := (hMb gv (by show gv ∈ [b, bc, gr, r, gv]; simp)).1
  obtain ⟨ra, rc, hvr, hra⟩ : ∃ ra rc, vr = .slice ra l.length rc ∧ ∀ k a, l[k]? = some a → ra = some ⟨gv, 0, none⟩ ∧ w.cell? ⟨gv, k * 3, none⟩ = some (.string a.name) := by
    rcases hR.r2 with ⟨rfl, e⟩ | ⟨cap, e, q⟩
    · exact ⟨none, 0, e, fun k a ha => by simp at ha⟩
    · exact ⟨_, cap, e, fun k a ha => ⟨rfl, q k a ha⟩⟩
  have hr1 := hR.r1
  rw [hvr] at hr1
  have KN := Kept.mk (fun {W : World} (hg : w.grownBy W none) => pn_Names_ex (B := B) hP hll hlt hg h.lw.hB)
  have HRA := hide hra
  have hBw := h.lw.hB
  have hcn : Hid (∀ i, i < 7 → D.cnt i ≤ 100000000000) := fun i hi => by have := h.bd i hi; omega
  have hks : Hid (∀ x, K x → ∀ k ∈ x.S, k < w.heap.size) := fun x hx k hk' => ((h.lw.kp x hx).2 k hk').1
  clear h hMod hMb hP hR hlt hk hbd hra
  go_enter Tryz.func40, Tryz.ntmps40
  go_wp2_with (first | (go_at_call 31; refine (KN.get hh1).mono ?_; rintro e w2 ⟨g2, rfl, hs2, hl2, o2, hg2⟩; have hh2 := hh1.trans hg2; have y1 := hg2.cell x1 (by simp); have r2 := hh2.cell hr1 (by simp)) | (go_at_call 31; refine (KN.get ((World.grownBy_alloc w _ none).trans (World.grownBy_alloc _ _ none))).mono ?_; rintro e w1 ⟨g1, rfl, hs1, hl1, o1, hg1⟩; have hh1 := ((World.grownBy_alloc w _ none).trans (World.grownBy_alloc _ _ none)).trans hg1; have x0 := hg1.cell (cell_of (heap_alloc2_old w _ _) 0 _ rfl) (by simp); have x1 := hg1.cell (cell_of (heap_alloc2_old w _ _) 1 _ rfl) (by simp)))
  have HO1 := hide (o1.kept hg2 (own_none _))
  have HO2 := hide o2
  have HH2 := hide hh2
  have hz1 : w.heap.size ≤ g1 := by have := hs1; simp at this; omega
  have hz2 : g1 < g2 := by omega
  have hz3 := hh2.size
  clear o1 o2 hg1 hg2 hh1 hh2 x0 x1
  go_loopw [11, 12] (fun vo vi wr => TeRel w2 l.length vo vi wr) (fun _ vi _ => l.length - (intOf vi).toNat)
  case atStart => exact ⟨0, by omega, rfl, rfl, grown_refl _ _⟩
  case round =>
    obtain ⟨i, hi, rfl, rfl, hgr⟩ := hrel
    by_cases hlt : i < l.length
    · obtain ⟨a, ha⟩ : ∃ a, l[i]? = some a := ⟨l[i], by simp [hlt]⟩
      obtain ⟨hra, hq⟩ := HRA.out i a ha
      subst hra
      have k1 := hgr.cell y1 (by simp)
      have k2 := hgr.cell r2 (by simp)
      have k3 := (HH2.out.trans hgr).cell hq (by simp)
      have k4 := hgr.cell (own_at HO1.out (nm_get ha)) (by simp)
      have k5 := hgr.cell (own_at HO2.out (nm_get ha)) (by simp)
      have hlt3 : (i : Int) < l.length := by omega
      have h03 : (0 : Int) ≤ i := by omega
      have HGR := hide hgr
      clear hgr
      go_wp2
      go_quiet (fail)
      go_wp2
      go_roundw
      case rel => exact ⟨i + 1, by omega, rfl, by go_num, HGR.out.trans (grown_drewN' _ _ _)⟩
      case measure => simp [intOf]; omega
    · obtain rfl : i = l.length := by omega
      have hhr := HH2.out.trans hgr
      have G3 := HG.out.lw.grown hhr
      have o1r := HO1.out.kept hgr (own_none _)
      have o2r := HO2.out.kept hgr (own_none _)
      have K1 := Kept.mk (law_texts G3 o1r (free_new HG.out.lw hz1) (fun x hx q => by have := hks.out x hx _ q; omega) (by omega) (by omega) hcn.out)
      have HF2 := hide (free_new HG.out.lw (by omega) : Free bw V g2)
      have hsr : g2 < wr.heap.size := by have := hgr.size; omega
      have HO2R := hide o2r
      have HHR := hide hhr
      have hzr := hhr.size
      clear G3 o1r o2r hhr hgr HO1 HO2 HH2
      go_wp2_with (first | (go_at_call 56; refine (law_texts q4 o24 f24 n24 (by omega) (by omega) c24).mono ?_; rintro e w5 ⟨rfl, V5, K5, L2, t2, q5, went5, l25, f25⟩) | (go_at_call 56; refine K1.get.mono ?_; rintro e w4 ⟨rfl, V4, K4, L1, t1, q4, went4, l14, f14⟩; have o24 := own_turn HO2R.out (fun k e => (went4.bl k (by have : g2 = k := Option.some.inj e; omega) (by have : g2 = k := Option.some.inj e; rw [← this]; exact HF2.out) (by have : g2 = k := Option.some.inj e; omega))); have f24 := went4.fr g2 hsr HF2.out; have n24 : ∀ x, K4 x → g2 ∉ x.S := (fun x hx q => by rcases went4.kn x hx with e | e; (have := hks.out x e _ q; omega); (have := e _ q; omega)); have c24 : ∀ i, i < 7 → (pushAll D 1 L1).cnt i ≤ 100000000000 := (fun i hi => by have := pushAll_cnt D (i := 1) (.inl rfl) L1 i hi; have := HG.out.bd i hi; omega)))
      go_ret
      exact ⟨rfl, V5, _, _, K5, HG.out.two q5 went4.kk went5.kk f14 f25 l14 l25 hll, (((FrB.refl B bw w).grown hBw HHR.out (fun k e => by cases e)).trans went4.frb).trans went5.frb⟩
end Go.Proofs.YthpcbbnabnlanaaGreatDoor

/-
  The law's step, of models and names.
-/
namespace Go.Proofs.YthpcbbnabnlanaaGreatDoor
open Go.RowKit
set_option linter.unusedVariables false
variable {w w' w1 : World} {B bw c T : Nat} {V : LV} {D : LD} {K : Keep → Prop}

/-- a step's cells -/
structure OpV where
  kd : Int
  on : Int
  tx : ByteArray
  va : Option Addr
  vn : Nat
  vc : Nat
  od : Int
  bu : Int
  wk : Bool
def OpV.cells (o : OpV) : Array Value := #[.int .i64 o.kd, .int .i64 o.on, .string o.tx, .slice o.va o.vn o.vc, .int .i64 o.od, .int .i64 o.bu, .bool o.wk]
theorem Stepped.from (hB : B ≤ w.heap.size) (hg : w.grownBy w1 none) (h : Stepped w1 B bw T w') : Stepped w B bw T w' := by
  obtain ⟨V', D', c', K', h1, h2⟩ := h
  exact ⟨V', D', c', K', h1, ((FrB.refl B bw w).grown hB hg (fun k e => by cases e)).trans h2⟩
theorem ms_at {ms : List MP} {i : Nat} {x : MP} (h : ms[i]? = some x) : (ms.flatMap mpCells)[i * 2]? = some (.pointer (some ⟨x.b, 0, none⟩)) ∧ (ms.flatMap mpCells)[i * 2 + 1]? = some (.pointer (some ⟨x.r, 0, none⟩)) := by
  have q := fun k u hk => flat_get mpCells 2 (fun _ => rfl) ms i x h k u hk
  exact ⟨q 0 _ rfl, q 1 _ rfl⟩

set_option maxRecDepth 100000 in
set_option maxHeartbeats 8000000 in
theorem law_step_low (h : LG w B bw V D c K T) (hT : T ≤ 1100000) (ht : PowTab w) (o : OpV) (hk : o.kd ≤ 2) (hlo : -9223372036854775808 ≤ o.on) (hhi : o.on ≤ 9223372036854775807) :
    Calls Tryz.prog 33 #[.pointer (some ⟨bw, 0, none⟩), .agg o.cells] w fun e w' => e = .returned (.bool true) ∧ Stepped w B bw T w' := by
  obtain ⟨kd, on, tx, va, vn, vc, od, bu, wk⟩ := o
  unfold OpV.cells
  simp only at hk hlo hhi ⊢
  have hBw := h.lw.hB
  have hsl := h.lw.slt
  by_cases h1 : kd = 1
  · subst h1
    have KB := Kept.mk (fun o => law_begins (h.grown (World.grownBy_alloc w o none)) (tab_kept ht (fun k hk => heap_alloc_old w o hk)) tx)
    clear h ht hk
    go_enter Tryz.func33, Tryz.ntmps33
    go_wp2_with (go_at_call 32; refine (KB.get _).mono ?_; rintro e w1 ⟨rfl, hS⟩)
    go_ret
    exact ⟨rfl, hS.from hBw (World.grownBy_alloc _ _ _)⟩
  · have h1' : (kd == 1) = false := by simpa using h1
    obtain ⟨ma, mc, em⟩ := own_slice_n (h.lw.own 0 (by omega))
    have m0 : w.cell? ⟨bw, 0, none⟩ = some (.slice ma D.ms.length mc) := (cell_of h.lw.blk 0 _ rfl).trans (congrArg some em)
    have m1 : ∀ o, (w.alloc o).cell? ⟨bw, 0, none⟩ = some (.slice ma D.ms.length mc) := fun o => (World.grownBy_alloc w o none).cell m0 (by simp)
    have HG := hide h
    by_cases h0 : D.ms.length = 0
    · rw [h0] at m1
      clear h ht m0 em h0
      go_enter Tryz.func33, Tryz.ntmps33
      go_wp2
      go_ret
      exact ⟨rfl, Stepped.same HG.out (World.grownBy_alloc _ _ _)⟩
    · have h20 := h.m20
      have hpb := pickI_bd on (D.ms.length : Int) (by omega)
      obtain ⟨P, hP⟩ : ∃ P : Nat, pickI on (D.ms.length : Int) = P := ⟨(pickI on (D.ms.length : Int)).toNat, by omega⟩
      rw [hP] at hpb
      have hPl : P < D.ms.length := by omega
      obtain ⟨x, hx⟩ : ∃ x, D.ms[P]? = some x := ⟨D.ms[P], by simp [hPl]⟩
      obtain ⟨gm, cm, e1, hc0, _⟩ := h.lw.at (i := 0) (j := P * 2) (by omega) (ms_at hx).1
      obtain ⟨gm', cm', e1', hc1, _⟩ := h.lw.at (i := 0) (j := P * 2 + 1) (by omega) (ms_at hx).2
      rw [e1] at e1'
      injection e1' with q1 q2 q3
      injection q1 with q1
      injection q1 with q1 _ _
      subst q1
      rw [e1] at em
      injection em with q4 q5 q6
      subst q4
      have hgm := (h.lw.ownB (i := 0) (by omega) (by rw [e1]; rfl : (V.get 0).ownBlock = some gm)).2
      have hn0 : (((D.ms.length : Nat) : Int) == 0) = false := by simpa using h0
      have KP := Kept.mk (fun W => law_pick on (D.ms.length : Int) W hlo hhi (by omega) (by omega))
      rw [hP] at KP
      have hP0 : (0 : Int) ≤ P := by omega
      have hPl' : (P : Int) < D.ms.length := by omega
      have HX := hide (List.mem_of_getElem? hx)
      clear h ht e1 hx hP
      by_cases h2 : kd = 2
      · subst h2
        have KT := Kept.mk (fun {W : World} (hg : w.grownBy W none) => law_tells_names (HG.out.grown hg) hT x HX.out 2 on od bu tx va vn vc wk (by decide))
        go_enter Tryz.func33, Tryz.ntmps33
        go_wp2
        go_region_held3 (fun w' => w'.cell? ⟨bw, 0, none⟩ = some (.slice (some ⟨gm, 0, none⟩) D.ms.length mc) ∧ w'.cell? ⟨w.heap.size, 1, none⟩ = some (.int .i64 on) ∧ w'.cell? ⟨gm, P * 2, none⟩ = some (.pointer (some ⟨x.b, 0, none⟩)) ∧ w'.cell? ⟨gm, P * 2 + 1, none⟩ = some (.pointer (some ⟨x.r, 0, none⟩))) (go_keep)
          (first | (go_at_call 39; refine (KP.get _).mono ?_; rintro e w' ⟨rfl, hww⟩; subst w'))
        all_goals go_wp2_with (go_at_call 40; refine (KT.get (((World.grownBy_alloc w _ none).trans (World.grownBy_alloc _ _ none)).trans (grown_drew' _ none))).mono ?_; rintro e w1 ⟨rfl, hS⟩)
        all_goals go_ret
        all_goals exact ⟨rfl, hS.from hBw (((World.grownBy_alloc w _ none).trans (World.grownBy_alloc _ _ none)).trans (grown_drew' _ none))⟩
      · have h2' : (kd == 2) = false := by simpa using h2
        have h3' : (kd == 3) = false := by simp; omega
        have h4' : (kd == 4) = false := by simp; omega
        have h5' : (kd == 5) = false := by simp; omega
        go_enter Tryz.func33, Tryz.ntmps33
        go_wp2
        go_region_held3 (fun w' => w'.cell? ⟨bw, 0, none⟩ = some (.slice (some ⟨gm, 0, none⟩) D.ms.length mc) ∧ w'.cell? ⟨w.heap.size, 1, none⟩ = some (.int .i64 on) ∧ w'.cell? ⟨gm, P * 2, none⟩ = some (.pointer (some ⟨x.b, 0, none⟩)) ∧ w'.cell? ⟨gm, P * 2 + 1, none⟩ = some (.pointer (some ⟨x.r, 0, none⟩))) (go_keep)
          (first | (go_at_call 39; refine (KP.get _).mono ?_; rintro e w' ⟨rfl, hww⟩; subst w'))
        all_goals go_wp2
        all_goals go_ret
        all_goals exact ⟨rfl, Stepped.same HG.out (((World.grownBy_alloc w _ none).trans (World.grownBy_alloc _ _ none)).trans (grown_drew' _ none))⟩
end Go.Proofs.YthpcbbnabnlanaaGreatDoor

/-
  The law's played, of models and names; Reads.
-/
namespace Go.Proofs.YthpcbbnabnlanaaGreatDoor
open Go.RowKit
set_option linter.unusedVariables false
variable {w w' w1 : World} {B bw c T : Nat} {V : LV} {D : LD} {K : Keep → Prop}

/-- a script in memory -/
def ScriptAt (w : World) (v : Value) (ops : List OpV) : Prop :=
  (ops = [] ∧ ∃ a c, v = .slice a 0 c) ∨ ∃ g off cap, v = .slice (some ⟨g, off, none⟩) ops.length cap ∧ g < w.heap.size ∧ ∀ i o, ops[i]? = some o → ∀ j u, o.cells[j]? = some u → w.cell? ⟨g, off + i * 7 + j, none⟩ = some u
theorem LG.later {T' : Nat} (h : LG w B bw V D c K T) (hT : T ≤ T') : LG w B bw V D c K T' :=
  ⟨h.lw, h.n1, h.n2, h.n3, h.l1, h.l2, h.l3, h.ms, h.m20, fun i hi => by have := h.bd i hi; omega, by have := h.cb; omega⟩
def V0 : LV := ⟨.slice none 0 0, .slice none 0 0, .slice none 0 0, .slice none 0 0, .slice none 0 0, .slice none 0 0, .slice none 0 0⟩
def D0 : LD := ⟨[], [], [], [], [], [], []⟩
theorem lg_start (w : World) : LG (w.alloc (.cells #[.slice none 0 0, .slice none 0 0, .slice none 0 0, .slice none 0 0, .slice none 0 0, .slice none 0 0, .slice none 0 0, .int .i64 0] 59)) (w.heap.size + 1) w.heap.size V0 D0 0 (fun _ => False) 0 := by
  refine ⟨⟨heap_alloc_new w _, by omega, by simp, fun i hi => ?_, fun i j hi hj hne k => ?_, fun x hx => hx.elim⟩, rfl, rfl, rfl, fun x hx => by simp [D0] at hx, fun x hx => by simp [D0] at hx, fun x hx => by simp [D0] at hx, fun x hx => by simp [D0] at hx, by simp [D0], fun i hi => ?_, by omega⟩
  · rcases seven hi with rfl | rfl | rfl | rfl | rfl | rfl | rfl <;> exact World.ownsRow_nil _ _ _ _
  · rcases seven hi with rfl | rfl | rfl | rfl | rfl | rfl | rfl <;> intro e <;> cases e
  · rcases seven hi with rfl | rfl | rfl | rfl | rfl | rfl | rfl <;> simp [D0, LD.cnt]
/-- what stands at a round's head -/
def PydRel (w0 : World) (B bw n : Nat) (m : Nat) (vo vi : Value) (wr : World) : Prop :=
  ∃ (i : Nat) (V : LV) (D : LD) (c : Nat) (K : Keep → Prop), i ≤ n ∧ m = n - i ∧ vo = .bool true ∧ vi = .int .i64 i ∧ LG wr B bw V D c K (1 + i) ∧ FrB B bw w0 wr
theorem frb_low {o : Obj} (h : FrB (w.heap.size + 1) w.heap.size (w.alloc o) w') : ∀ k, k < w.heap.size → w'.heap[k]? = w.heap[k]? := fun k hk => (h.block k (by omega) (by omega)).trans (heap_alloc_old w o hk)
theorem frb_grown {o : Obj} (h : FrB (w.heap.size + 1) w.heap.size (w.alloc o) w') : w.grownBy w' none := ⟨h.os, h.tape, h.output, by have := h.size; simp at this; omega, fun k hk _ => frb_low h k hk⟩
def simpleB : ByteArray := ⟨#[118, 97, 114, 32, 97, 58, 32, 48, 46, 46, 50, 59, 32, 108, 105, 110, 32, 97, 32, 33, 61, 32, 49, 59]⟩

set_option maxRecDepth 100000 in
set_option maxHeartbeats 8000000 in
theorem law_played_low (v : Value) (ops : List OpV) (hv : ScriptAt w v ops) (ht : PowTab w) (hn : ops.length ≤ 1050000) (hb : ∀ o ∈ ops, -9223372036854775808 ≤ o.on ∧ o.on ≤ 9223372036854775807) :
    Calls Tryz.prog 15 #[v, .int .i64 2] w fun e w' => e = .returned (.bool true) ∧ w.grownBy w' none := by
  obtain ⟨sa, sc, rfl, hsc⟩ : ∃ sa sc, v = .slice sa ops.length sc ∧ ∀ i o, ops[i]? = some o → ∃ g off, sa = some ⟨g, off, none⟩ ∧ g < w.heap.size ∧ ∀ j u, o.cells[j]? = some u → w.cell? ⟨g, off + i * 7 + j, none⟩ = some u := by
    rcases hv with ⟨rfl, a, c, e⟩ | ⟨g, off, cap, e, h1, h2⟩
    · exact ⟨a, c, e, fun i o ho => by simp at ho⟩
    · exact ⟨_, cap, e, fun i o ho => ⟨g, off, rfl, h1, h2 i o ho⟩⟩
  have HT := hide ht
  have HS := hide hsc
  have HB := hide hb
  have KB := Kept.mk (law_begins (lg_start w) (tab_kept ht (fun k hk => heap_alloc_old w _ hk)) simpleB)
  unfold simpleB at KB
  clear hv hsc ht hb
  go_enter Tryz.func15, Tryz.ntmps15
  go_wp2_with (go_at_call 32; refine KB.get.mono ?_; rintro e w1 ⟨rfl, V1, D1, c1, K1, hG1, hF1⟩)
  have HST : Hid (PydRel (w.alloc (.cells #[.slice none 0 0, .slice none 0 0, .slice none 0 0, .slice none 0 0, .slice none 0 0, .slice none 0 0, .slice none 0 0, .int .i64 0] 59)) (w.heap.size + 1) w.heap.size ops.length ops.length (.bool true) (.int .i64 0) w1) := ⟨0, V1, D1, c1, K1, by omega, by omega, rfl, rfl, hG1, hF1⟩
  clear hG1 hF1 KB
  go_loopg [6, 8] ops.length (fun m vo vi wr => PydRel (w.alloc (.cells #[.slice none 0 0, .slice none 0 0, .slice none 0 0, .slice none 0 0, .slice none 0 0, .slice none 0 0, .slice none 0 0, .int .i64 0] 59)) (w.heap.size + 1) w.heap.size ops.length m vo vi wr)
  case atStart => exact HST.out
  case round =>
    clear HST
    obtain ⟨i, V, D, c, K, hi, rfl, rfl, rfl, hG, hF⟩ := hrel
    by_cases hlt : i < ops.length
    · have hlt3 : (i : Int) < ops.length := by omega
      have h03 : (0 : Int) ≤ i := by omega
      obtain ⟨o, ho⟩ : ∃ o, ops[i]? = some o := ⟨ops[i], by simp [hlt]⟩
      obtain ⟨g, off, rfl, hgl, hc⟩ := HS.out i o ho
      have hob := HB.out o (List.mem_of_getElem? ho)
      have low := frb_low hF
      have cell : ∀ j u, o.cells[j]? = some u → wr.cell? ⟨g, off + i * 7 + j, none⟩ = some u := fun j u hu => (World.cell?_of_block (a := ⟨g, off + i * 7 + j, none⟩) (low g hgl)).trans (hc j u hu)
      have k0 : wr.cell? ⟨g, off + i * 7, none⟩ = some (.int .i64 o.kd) := cell 0 _ rfl
      have k1 := cell 1 _ rfl
      have k2 := cell 2 _ rfl
      have k3 := cell 3 _ rfl
      have k4 := cell 4 _ rfl
      have k5 := cell 5 _ rfl
      have k6 := cell 6 _ rfl
      have ht := tab_kept HT.out low
      by_cases hk : o.kd ≤ 2
      · have KS := Kept.mk (law_step_low hG (by omega) ht o hk hob.1 hob.2)
        unfold OpV.cells at KS
        have HF := hide hF
        clear hG hF ht low cell hc
        go_wp2_with (first | (go_at_call 34; refine (law_still hG2 (by omega)).mono ?_; rintro e w3 ⟨rfl, hG3, hg3⟩) | (go_at_call 33; refine KS.get.mono ?_; rintro e w2 ⟨rfl, V2, D2, c2, K2, hG2, hF2⟩))
        have HR : Hid (PydRel (w.alloc (.cells #[.slice none 0 0, .slice none 0 0, .slice none 0 0, .slice none 0 0, .slice none 0 0, .slice none 0 0, .slice none 0 0, .int .i64 0] 59)) (w.heap.size + 1) w.heap.size ops.length (ops.length - (i + 1)) (.bool true) (.int .i64 ((i : Int) + 1)) w3) := ⟨i + 1, V2, D2, c2, K2, by omega, rfl, rfl, by simp, hG3, (HF.out.trans hF2).grown hG2.lw.hB hg3 (fun k e => by cases e)⟩
        clear hG2 hF2 hG3 hg3
        go_roundg (ops.length - (i + 1))
        case measure => omega
        case rel => exact HR.out
      · have hk' : (2 : Int) < o.kd := by omega
        have HG := hide (hG.later (T' := 1 + (i + 1)) (by omega))
        have HF := hide hF
        clear hG hF ht low cell hc
        go_wp2
        go_roundg (ops.length - (i + 1))
        case measure => omega
        case rel => exact ⟨i + 1, V, D, c, K, by omega, rfl, rfl, by go_num, HG.out, HF.out⟩
    · obtain rfl : i = ops.length := by omega
      have HF := hide hF
      clear hG hF
      go_wp2
      go_ret
      exact ⟨rfl, frb_grown HF.out⟩
end Go.Proofs.YthpcbbnabnlanaaGreatDoor

/-
  The script, opened: its steps, as they lie in memory.
-/
namespace Go.Proofs.YthpcbbnabnlanaaGreatDoor
open Go.ChangeShapes Go.WideShapes Go.ChangeAt Go.RowKit Go.Deep
set_option linter.unusedVariables false
variable {H : Type} {enc : TypeId × Value → H} {W : World}

theorem cellsOp : Tryz.prog.cellsOf 63 = 7 := by kernel_rfl
theorem cellsInt : Tryz.prog.cellsOf 3 = 1 := by kernel_rfl
theorem cellsStr : Tryz.prog.cellsOf 9 = 1 := by kernel_rfl
theorem cellsInts : Tryz.prog.cellsOf 33 = 1 := by kernel_rfl
theorem cellsBool : Tryz.prog.cellsOf 4 = 1 := by kernel_rfl
theorem add_none (b o j : Nat) : (⟨b, o, none⟩ : Addr).add j = ⟨b, o + j, none⟩ := by unfold Addr.add; split <;> simp_all
theorem wf64 {n : Int} (h : (Lit.int .i64 n).wf = true) : -9223372036854775808 ≤ n ∧ n ≤ 9223372036854775807 := by
  simp only [Lit.wf, Bool.and_eq_true, decide_eq_true_eq] at h
  exact h
/-- a step's numbers, as they lie in memory -/
structure ValsAt (w : World) (o : OpV) (vals : List Int) : Prop where
  len : vals.length = o.vn
  lit : ∀ x ∈ vals, -9223372036854775808 ≤ x ∧ x ≤ 9223372036854775807
  at_ : ∀ j x, vals[j]? = some x → ∃ g off, o.va = some ⟨g, off, none⟩ ∧ g < w.heap.size ∧ w.cell? ⟨g, off + j, none⟩ = some (.int .i64 x)
  nil : o.va = none → o.vc = 0
/-- what is known of one step -/
structure OpOk (w : World) (o : OpV) (d : DataW H) : Prop where
  on : -9223372036854775808 ≤ o.on ∧ o.on ≤ 9223372036854775807
  od : -9223372036854775808 ≤ o.od ∧ o.od ≤ 9223372036854775807
  bu : -9223372036854775808 ≤ o.bu ∧ o.bu ≤ 9223372036854775807
  vals : ∃ vals, ValsAt w o vals
  bulk : o.vn ≤ Rows.uptoBulk d
theorem cell_lt {w : World} {b o : Nat} {v : Value} (h : w.cell? ⟨b, o, none⟩ = some v) : b < w.heap.size := by
  rcases Nat.lt_or_ge b w.heap.size with q | q
  · exact q
  · simp [World.cell?, Array.getElem?_eq_none q] at h
theorem bulk_len (l : List (DataW H)) : l.length ≤ Rows.uptoBulkAll l := by
  induction l with
  | nil => simp [Rows.uptoBulkAll]
  | cons x r ih =>
    have : 1 ≤ Rows.uptoBulk x := by
      cases x with
      | lit l => cases l <;> simp [Rows.uptoBulk]
      | nil => simp [Rows.uptoBulk]
      | ptr d => simp [Rows.uptoBulk]
      | slice elems spare => simp [Rows.uptoBulk]
      | agg parts => simp [Rows.uptoBulk]
      | iface t d => simp [Rows.uptoBulk]
      | map entries => simp [Rows.uptoBulk]
      | held h => simp [Rows.uptoBulk]
    simp only [Rows.uptoBulkAll, List.length_cons]; omega
theorem bulk_mem {d : DataW H} {l : List (DataW H)} (h : d ∈ l) : Rows.uptoBulk d ≤ Rows.uptoBulkAll l := by
  induction l with
  | nil => cases h
  | cons x r ih =>
    simp only [Rows.uptoBulkAll]
    rcases List.mem_cons.1 h with e | e
    · subst e; omega
    · have := ih e; omega
set_option maxRecDepth 100000 in
/-- one step's seven cells -/
theorem open_op {n : Nat} {cs : List Value} {x : DataW H × List MemPlace} (h : DataW.trod enc Tryz.prog W 0 (fun _ => true) true n 63 cs = some x) : ∃ o : OpV, cs = o.cells.toList ∧ OpOk W o x.1 := by
  obtain ⟨xs, k, hk, hxy, hcl, hxl, hf⟩ := DataW.trod_struct Tryz.underlying63 h
  rw [cellsOp] at hcl
  match xs, hxl, cs, hcl with
  | [y0, y1, y2, y3, y4, y5, y6], _, [v0, v1, v2, v3, v4, v5, v6], _ =>
    have g0 : DataW.trod enc Tryz.prog W 0 (fun _ => true) true k 3 [v0] = some y0 := by
      have q : DataW.trod enc Tryz.prog W 0 (fun _ => true) true k 3 (([v0, v1, v2, v3, v4, v5, v6].drop 0).take (Tryz.prog.cellsOf 3)) = some y0 := hf 0 _ rfl
      rw [cellsInt] at q; exact q
    have g1 : DataW.trod enc Tryz.prog W 0 (fun _ => true) true k 3 [v1] = some y1 := by
      have q : DataW.trod enc Tryz.prog W 0 (fun _ => true) true k 3 (([v0, v1, v2, v3, v4, v5, v6].drop 1).take (Tryz.prog.cellsOf 3)) = some y1 := hf 1 _ rfl
      rw [cellsInt] at q; exact q
    have g2 : DataW.trod enc Tryz.prog W 0 (fun _ => true) true k 9 [v2] = some y2 := by
      have q : DataW.trod enc Tryz.prog W 0 (fun _ => true) true k 9 (([v0, v1, v2, v3, v4, v5, v6].drop 2).take (Tryz.prog.cellsOf 9)) = some y2 := hf 2 _ rfl
      rw [cellsStr] at q; exact q
    have g3 : DataW.trod enc Tryz.prog W 0 (fun _ => true) true k 33 [v3] = some y3 := by
      have q : DataW.trod enc Tryz.prog W 0 (fun _ => true) true k 33 (([v0, v1, v2, v3, v4, v5, v6].drop 3).take (Tryz.prog.cellsOf 33)) = some y3 := hf 3 _ rfl
      rw [cellsInts] at q; exact q
    have g4 : DataW.trod enc Tryz.prog W 0 (fun _ => true) true k 3 [v4] = some y4 := by
      have q : DataW.trod enc Tryz.prog W 0 (fun _ => true) true k 3 (([v0, v1, v2, v3, v4, v5, v6].drop 4).take (Tryz.prog.cellsOf 3)) = some y4 := hf 4 _ rfl
      rw [cellsInt] at q; exact q
    have g5 : DataW.trod enc Tryz.prog W 0 (fun _ => true) true k 3 [v5] = some y5 := by
      have q : DataW.trod enc Tryz.prog W 0 (fun _ => true) true k 3 (([v0, v1, v2, v3, v4, v5, v6].drop 5).take (Tryz.prog.cellsOf 3)) = some y5 := hf 5 _ rfl
      rw [cellsInt] at q; exact q
    have g6 : DataW.trod enc Tryz.prog W 0 (fun _ => true) true k 4 [v6] = some y6 := by
      have q : DataW.trod enc Tryz.prog W 0 (fun _ => true) true k 4 (([v0, v1, v2, v3, v4, v5, v6].drop 6).take (Tryz.prog.cellsOf 4)) = some y6 := hf 6 _ rfl
      rw [cellsBool] at q; exact q
    obtain ⟨a0, e0, _, w0⟩ := DataW.trod_int Tryz.underlying3 g0
    obtain ⟨a1, e1, _, w1⟩ := DataW.trod_int Tryz.underlying3 g1
    obtain ⟨s2, e2, _, w2⟩ := DataW.trod_string Tryz.underlying9 g2
    obtain ⟨a4, e4, _, w4⟩ := DataW.trod_int Tryz.underlying3 g4
    obtain ⟨a5, e5, _, w5⟩ := DataW.trod_int Tryz.underlying3 g5
    obtain ⟨b6, e6, _⟩ := DataW.trod_bool Tryz.underlying4 g6
    simp only [List.cons.injEq, and_true] at e0 e1 e2 e4 e5 e6
    subst e0 e1 e2 e4 e5 e6 hxy
    rcases open_ints Tryz.underlying33 Tryz.underlying3 cellsInt g3 with ⟨h3, hy⟩ | ⟨a, len, cap, zs, h3, _, hlc, hcm, hzl, hy, hcell, hwf⟩
    · simp only [List.cons.injEq, and_true] at h3
      subst h3
      exact ⟨⟨a0, a1, s2, none, 0, 0, a4, a5, b6⟩, rfl, wf64 w1, wf64 w4, wf64 w5, ⟨[], rfl, (fun x hx => (by cases hx)), (fun j x hx => (by simp at hx)), (fun _ => rfl)⟩, Nat.zero_le _⟩
    · simp only [List.cons.injEq, and_true] at h3
      subst h3 hy
      simp only [if_true] at hzl
      refine ⟨⟨a0, a1, s2, some a, len, cap, a4, a5, b6⟩, rfl, wf64 w1, wf64 w4, wf64 w5, ⟨zs.take len, by simp; omega, fun x hx => wf64 (hwf x (List.mem_of_mem_take hx)), fun j x hx => ?_, fun e => by cases e⟩, ?_⟩
      · have hj : j < zs.length := by
          have := (List.getElem?_eq_some_iff.1 hx).1
          simp at this; omega
        have hx' : zs[j]? = some x := by
          rw [List.getElem?_take] at hx; split at hx
          · exact hx
          · cases hx
        have q := hcell j hj
        rw [List.getD_eq_getElem?_getD, hx', Option.getD_some] at q
        obtain ⟨b, o, sp⟩ := a
        have hsp : sp = none := by simpa [Addr.add] using World.cell?_spot (hcell 0 (by omega))
        subst hsp
        have q' : W.cell? ⟨b, o + j, none⟩ = some (.int .i64 x) := by rw [← add_none]; exact q
        exact ⟨b, o, rfl, cell_lt q', q'⟩
      · simp only [List.map_cons, List.map_nil, Rows.uptoBulk, Rows.uptoBulkAll]
        have := bulk_len (H := H) (lits .i64 (zs.take len))
        simp [lits] at this ⊢
        omega
set_option maxRecDepth 100000 in
/-- the script -/
theorem open_script {v : Value} {d : DataW H} {ps : List MemPlace} {b0 : Nat} (hval : Value.okWide Tryz.prog W .any b0 22 v) (h : DataW.Trod enc Tryz.prog W 0 (fun _ => true) true 22 v d ps) :
    ∃ ops : List OpV, ScriptAt W v ops ∧ ops.length ≤ Rows.uptoBulk d ∧ ∀ o ∈ ops, ∃ d' : DataW H, OpOk W o d' ∧ Rows.uptoBulk d' ≤ Rows.uptoBulk d := by
  obtain ⟨a, len, cap, rfl⟩ := okWide_slice Tryz.underlying22 hval
  obtain ⟨fuel, hf⟩ := h
  rcases open_slice Tryz.underlying22 hf with ⟨hc, hx⟩ | ⟨a', len', cap', m, n, D, Pl, hc, _, hlc, hcm, hmm, hx, hall⟩
  · simp only [Value.cells] at hc
    simp at hc
    obtain ⟨rfl, rfl, rfl⟩ := hc
    exact ⟨[], .inl ⟨rfl, _, _, rfl⟩, Nat.zero_le _, fun o ho => by cases ho⟩
  · simp only [Value.cells] at hc
    simp at hc
    obtain ⟨rfl, rfl, rfl⟩ := hc
    simp only [if_true] at hmm
    subst hmm
    simp only [Prod.mk.injEq] at hx
    obtain ⟨rfl, _⟩ := hx
    have each : ∀ i, i < len → ∃ o : OpV, W.cells? 0 (a'.add (i * 7)) 7 = some o.cells.toList ∧ OpOk W o (D i) := fun i hi => by
      obtain ⟨cs', h1, h2⟩ := hall i (by omega)
      rw [cellsOp] at h1
      obtain ⟨o, rfl, ho⟩ := open_op h2
      exact ⟨o, h1, ho⟩
    haveI : Inhabited OpV := ⟨⟨0, 0, .empty, none, 0, 0, 0, 0, false⟩⟩
    obtain ⟨O, hO⟩ := choose_lt each
    have hbl : ∀ i, i < len → Rows.uptoBulk (D i) ≤ Rows.uptoBulk (DataW.slice ((List.range len).map D) ((List.range (m - len)).map fun j => D (len + j))) := fun i hi => by
      have : D i ∈ (List.range len).map D := List.mem_map.2 ⟨i, List.mem_range.2 hi, rfl⟩
      have := bulk_mem this
      simp only [Rows.uptoBulk]; omega
    refine ⟨(List.range len).map O, ?_, ?_, fun o ho => ?_⟩
    · cases len with
      | zero => exact .inl ⟨rfl, _, _, rfl⟩
      | succ len =>
        obtain ⟨b, off, sp⟩ := a'
        have c0 := (World.cells?_some (hO 0 (by omega)).1).2.2 0 (by omega)
        have hsp : sp = none := by
          have q : W.cell? (((⟨b, off, sp⟩ : Addr).add (0 * 7)).add 0) = some (.int .i64 (O 0).kd) := c0
          simpa [Addr.add] using World.cell?_spot q
        subst hsp
        have cell : ∀ i o, ((List.range (len + 1)).map O)[i]? = some o → ∀ j u, o.cells[j]? = some u → W.cell? ⟨b, off + i * 7 + j, none⟩ = some u := fun i o ho j u hu => by
          have hi : i < len + 1 := by
            have := (List.getElem?_eq_some_iff.1 ho).1; simpa using this
          have e : O i = o := by simpa [hi] using ho
          have hj : j < 7 := by
            have := (Array.getElem?_eq_some_iff.1 hu).1; simpa [OpV.cells] using this
          have q := (World.cells?_some (hO i hi).1).2.2 j hj
          rw [e] at q
          have q2 : o.cells.toList[j]? = some u := by rw [Array.getElem?_toList]; exact hu
          rw [q2, add_none, add_none] at q
          exact q
        refine .inr ⟨b, off, m, by simp, ?_, cell⟩
        exact cell_lt (cell 0 (O 0) (by simp) 0 _ rfl)
    · simp only [List.length_map, List.length_range]
      have := bulk_len (H := H) ((List.range len).map D)
      simp only [List.length_map, List.length_range] at this
      simp only [Rows.uptoBulk]; omega
    · obtain ⟨i, hi, rfl⟩ := List.mem_map.1 ho
      exact ⟨D i, (hO i (List.mem_range.1 hi)).2, hbl i (List.mem_range.1 hi)⟩
end Go.Proofs.YthpcbbnabnlanaaGreatDoor
