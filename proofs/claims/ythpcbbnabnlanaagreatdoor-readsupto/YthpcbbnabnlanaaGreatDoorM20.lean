import Derived.Test.YthpcbbnabnlanaaGreatDoorM19
import Derived.Laws.BytesArg
import Derived.Deep.OwnRows
/-
  The law's memory: a list that came out is put behind, and kept.
-/
namespace Go.Proofs.YthpcbbnabnlanaaGreatDoor
open Go.RowKit
set_option linter.unusedVariables false
variable {w w' w1 wr wB : World} {B bw c : Nat} {V V1 : LV} {D D1 : LD} {K : Keep → Prop}

/-- a list, a mark more -/
def LD.pl (D : LD) (i : Nat) (x : LP) : LD := match i with
  | 1 => { D with ns := D.ns ++ [x] }
  | 3 => { D with us := D.us ++ [x] }
  | _ => { D with rs := D.rs ++ [x] }
def LD.pk (D : LD) (i : Nat) (v : Value) : LD := match i with
  | 2 => { D with ks := D.ks ++ [v] }
  | 4 => { D with xs := D.xs ++ [v] }
  | _ => { D with ys := D.ys ++ [v] }
theorem pl_cnt (D : LD) (x : LP) {i j : Nat} (hi : i = 1 ∨ i = 3 ∨ i = 5) (hj : j < 7) : (D.pl i x).cnt j = if j = i then D.cnt i + 1 else D.cnt j := by
  rcases hi with rfl | rfl | rfl <;> rcases seven hj with rfl | rfl | rfl | rfl | rfl | rfl | rfl <;> simp [LD.pl, LD.cnt]
theorem pl_cells (D : LD) (x : LP) {i j : Nat} (hi : i = 1 ∨ i = 3 ∨ i = 5) (hj : j < 7) : (D.pl i x).cells j = if j = i then D.cells i ++ [x.v] else D.cells j := by
  rcases hi with rfl | rfl | rfl <;> rcases seven hj with rfl | rfl | rfl | rfl | rfl | rfl | rfl <;> simp [LD.pl, LD.cells]
theorem pk_cnt (D : LD) (v : Value) {i j : Nat} (hi : i = 2 ∨ i = 4 ∨ i = 6) (hj : j < 7) : (D.pk i v).cnt j = if j = i then D.cnt i + 1 else D.cnt j := by
  rcases hi with rfl | rfl | rfl <;> rcases seven hj with rfl | rfl | rfl | rfl | rfl | rfl | rfl <;> simp [LD.pk, LD.cnt]
theorem pk_cells (D : LD) (v : Value) {i j : Nat} (hi : i = 2 ∨ i = 4 ∨ i = 6) (hj : j < 7) : (D.pk i v).cells j = if j = i then D.cells i ++ [v] else D.cells j := by
  rcases hi with rfl | rfl | rfl <;> rcases seven hj with rfl | rfl | rfl | rfl | rfl | rfl | rfl <;> simp [LD.pk, LD.cells]
def pushAll (D : LD) (i : Nat) (L : List LP) : LD := L.foldl (fun D x => (D.pl i x).pk (i + 1) x.mark) D
theorem pushAll_snoc (D : LD) (i : Nat) (L : List LP) (x : LP) : pushAll D i (L ++ [x]) = ((pushAll D i L).pl i x).pk (i + 1) x.mark := by simp [pushAll]
theorem pushAll_cnt (D : LD) {i : Nat} (hi : i = 1 ∨ i = 3 ∨ i = 5) (L : List LP) : ∀ j, j < 7 → (pushAll D i L).cnt j ≤ D.cnt j + L.length := by
  induction L generalizing D with
  | nil => intro j hj; simp [pushAll]
  | cons x L ih =>
    intro j hj
    have h := ih ((D.pl i x).pk (i + 1) x.mark) j hj
    have e : pushAll D i (x :: L) = pushAll ((D.pl i x).pk (i + 1) x.mark) i L := rfl
    rw [e]
    rw [pk_cnt _ _ (by omega) hj, pl_cnt _ _ hi (by omega : i + 1 < 7), pl_cnt _ _ hi hj] at h
    simp only [List.length_cons]
    split at h
    · rename_i hji
      subst hji
      have : ¬ (i + 1 = i) := by omega
      simp only [this, if_false] at h; omega
    · split at h
      · rename_i hji; subst hji; omega
      · omega

/-- what a call leaves of the law's memory: its own blocks are those that were, or new ones; nothing else has turned but block g -/
structure Went (w w' : World) (B bw g : Nat) (V V' : LV) (K K' : Keep → Prop) : Prop where
  fr : ∀ k, k < w.heap.size → Free bw V k → Free bw V' k
  bl : ∀ k, k < w.heap.size → Free bw V k → k ≠ g → w'.heap[k]? = w.heap[k]?
  frb : FrB B bw w w'
  kk : ∀ x, K x → K' x
  kn : ∀ x, K' x → K x ∨ ∀ k ∈ x.S, k = g ∨ w.heap.size ≤ k
/-- beside a row that has grown and is stored back nothing that is free has turned -/
theorem push_old {i : Nat} {v' : Value} (h : LW w B bw V D c K) (hi : i < 7) (hg : Grew w (V.get i) v' w1) :
    ∀ k, k < w.heap.size → Free bw V k → (w1.setCell ⟨bw, i, none⟩ v').heap[k]? = w.heap[k]? ∧ Free bw (V.put i v') k := fun k hk f => by
  have g1 := hg.by
  refine ⟨((grown_set w1 bw i v').block k (Nat.lt_of_lt_of_le hk g1.size) (fun e => f.1 (Option.some.inj e))).trans (g1.block k hk (fun e => f.2 i hi e.symm)), f.1, fun j hj => ?_⟩
  rw [V.get_put i j v' hi hj]
  split
  · intro e
    rcases hg.blk e with q | q
    · exact f.2 i hi q
    · omega
  · exact f.2 j hj
theorem push_frb {i : Nat} {v' : Value} {w0 : World} (hf : FrB B bw w0 w) (h : LW w B bw V D c K) (hi : i < 7) (hg : Grew w (V.get i) v' w1) : FrB B bw w0 (w1.setCell ⟨bw, i, none⟩ v') :=
  (hf.grown h.hB hg.by (fun k e => .inr (h.ownB hi e).1)).grown (Nat.le_trans h.hB hg.by.size) (grown_set w1 bw i v') (fun k e => by cases e; exact .inl rfl)
theorem own_turn {B e s n : Nat} {v : Value} {xs : List Value} (h : w.ownsRow B e s v n xs) (hb : ∀ k, v.ownBlock = some k → w'.heap[k]? = w.heap[k]?) : w'.ownsRow B e s v n xs := by
  refine ⟨h.1, ?_⟩
  rcases h.2 with q | ⟨g, cap, cur, h1, h2, h3, h4⟩
  · exact .inl q
  · exact .inr ⟨g, cap, cur, h1, h2, by rw [hb g (by rw [h1]; rfl)]; exact h3, h4⟩
theorem list_turn {x : LP} (h : ListAt w x) (hb : w'.heap[x.g]? = w.heap[x.g]?) : ListAt w' x := fun j hj => (World.cell?_of_block (a := ⟨x.g, j, none⟩) hb).trans (h j hj)
theorem own_repl {B e gi m cap : Nat} {mark : Value} (h : w.ownsRow B e 1 (.slice (some ⟨gi, 0, none⟩) m cap) m (List.replicate m mark)) : ListAt w ⟨gi, m, cap, mark⟩ := fun j hj => by
  change j < m at hj
  have q := h.cells (g := gi) rfl j mark (by simp [hj])
  have hadd : (⟨gi, 0, none⟩ : Addr).add j = ⟨gi, j, none⟩ := by unfold Addr.add; split <;> simp_all
  rw [hadd] at q; exact q
/-- the lists that were kept so far, and the one in the making: it lies in block gi, which is g, or new -/
structure Tx (w wr : World) (B bw g c : Nat) (V : LV) (D : LD) (K : Keep → Prop) (ri : Nat) (e : TypeId) (V1 : LV) (D1 : LD) (L : List LP) (gi cap m : Nat) (mark : Value) : Prop where
  lw : LW wr B bw V1 D1 c K
  d : D1 = pushAll D ri L
  own : wr.ownsRow B e 1 (.slice (some ⟨gi, 0, none⟩) m cap) m (List.replicate m mark)
  new : gi = g ∨ w.heap.size ≤ gi
  free : Free bw V1 gi
  nk : ∀ x, K x → gi ∉ x.S
  lst : ∀ x ∈ L, x.mark = mark ∧ x.len ≤ m ∧ (x.g = g ∨ w.heap.size ≤ x.g) ∧ x.g < wr.heap.size ∧ Free bw V1 x.g ∧ ListAt wr x
  wf : ∀ k, k < w.heap.size → Free bw V k → Free bw V1 k
  wb : ∀ k, k < w.heap.size → Free bw V k → k ≠ g → wr.heap[k]? = w.heap[k]?
  frb : FrB B bw w wr
variable {g ri gi cap m : Nat} {e : TypeId} {L : List LP} {mark : Value}
/-- new memory changes nothing of it -/
theorem Tx.grown (h : Tx w wr B bw g c V D K ri e V1 D1 L gi cap m mark) (hg : wr.grownBy w' none) : Tx w w' B bw g c V D K ri e V1 D1 L gi cap m mark where
  lw := h.lw.grown hg
  d := h.d
  own := h.own.kept hg (own_none _)
  new := h.new
  free := h.free
  nk := h.nk
  lst := fun x hx => by
    obtain ⟨h1, h2, h3, h4, h5, h6⟩ := h.lst x hx
    exact ⟨h1, h2, h3, Nat.lt_of_lt_of_le h4 hg.size, h5, list_turn h6 (hg.block _ h4 (by simp))⟩
  wf := h.wf
  wb := fun k hk f hne => (hg.block k (Nat.lt_of_lt_of_le hk h.frb.size) (by simp)).trans (h.wb k hk f hne)
  frb := h.frb.grown h.lw.hB hg (fun k e => by cases e)
/-- the list is put into the law's row of lists, its mark into the row of marks -/
theorem Tx.push {o1 o2 : Obj} {w2 : World} {va vb : Value} (h : Tx w wr B bw g c V D K ri e V1 D1 L gi cap m mark) (hri : ri = 1 ∨ ri = 3 ∨ ri = 5)
    (ha : w1.ownsRow B (ety ri) (esz ri) va (D1.cnt ri + 1) (D1.cells ri ++ [.slice (some ⟨gi, 0, none⟩) m cap])) (ga : Grew (wr.alloc o1) (V1.get ri) va w1)
    (hb : w2.ownsRow B (ety (ri + 1)) (esz (ri + 1)) vb (D1.cnt (ri + 1) + 1) (D1.cells (ri + 1) ++ [mark])) (gb : Grew ((w1.setCell ⟨bw, ri, none⟩ va).alloc o2) (V1.get (ri + 1)) vb w2) :
    ∃ V2 D2, Tx w (w2.setCell ⟨bw, ri + 1, none⟩ vb) B bw g c V D K ri e V2 D2 (L ++ [⟨gi, m, cap, mark⟩]) gi cap m mark := by
  have hi7 : ri < 7 := by omega
  have hj7 : ri + 1 < 7 := by omega
  have h0 := h.grown (World.grownBy_alloc wr o1 none)
  have l1 := h0.lw.push (D' := D1.pl ri ⟨gi, m, cap, mark⟩) hi7 ha ga (fun j hj => pl_cnt _ _ hri hj) (fun j hj => pl_cells _ _ hri hj)
  have e1 : (V1.put ri va).get (ri + 1) = V1.get (ri + 1) := by rw [V1.get_put ri (ri + 1) va hi7 hj7, if_neg (by omega)]
  have l1' := l1.alloc o2
  have gb' : Grew ((w1.setCell ⟨bw, ri, none⟩ va).alloc o2) ((V1.put ri va).get (ri + 1)) vb w2 := by rw [e1]; exact gb
  have c1 : (D1.pl ri ⟨gi, m, cap, mark⟩).cnt (ri + 1) = D1.cnt (ri + 1) := by rw [pl_cnt _ _ hri hj7, if_neg (by omega)]
  have c2 : (D1.pl ri ⟨gi, m, cap, mark⟩).cells (ri + 1) = D1.cells (ri + 1) := by rw [pl_cells _ _ hri hj7, if_neg (by omega)]
  have l2 := l1'.push (D' := (D1.pl ri ⟨gi, m, cap, mark⟩).pk (ri + 1) mark) hj7 hb gb' (fun j hj => by rw [pk_cnt _ _ (by omega) hj, c1]) (fun j hj => by rw [pk_cells _ _ (by omega) hj, c2])
  have p1 := push_old h0.lw hi7 ga
  have p2 := push_old l1' hj7 gb'
  have z0 : wr.heap.size ≤ (wr.alloc o1).heap.size := by simp
  have z1 := Nat.le_trans z0 (Nat.le_trans ga.by.size (grown_set w1 bw ri va).size)
  have z2 := Nat.le_trans z1 (World.grownBy_alloc (w1.setCell ⟨bw, ri, none⟩ va) o2 none).size
  have z3 := Nat.le_trans z2 (Nat.le_trans gb.by.size (grown_set w2 bw (ri + 1) vb).size)
  have old : ∀ k, k < wr.heap.size → Free bw V1 k → (w2.setCell ⟨bw, ri + 1, none⟩ vb).heap[k]? = wr.heap[k]? ∧ Free bw ((V1.put ri va).put (ri + 1) vb) k := fun k hk f => by
    obtain ⟨q1, q2⟩ := p1 k (by omega) f
    obtain ⟨q3, q4⟩ := p2 k (by omega) q2
    exact ⟨q3.trans ((heap_alloc_old _ o2 (by omega)).trans (q1.trans (heap_alloc_old _ o1 hk))), q4⟩
  have gl : gi < wr.heap.size := (h.own.lt gi rfl).2
  refine ⟨_, _, l2, by rw [h.d, pushAll_snoc], own_turn h.own (fun k e => ?_), h.new, (old gi gl h.free).2, h.nk, fun x hx => ?_, fun k hk f => ?_, fun k hk f hne => ?_, ?_⟩
  · have : gi = k := Option.some.inj e
    subst this; exact (old gi gl h.free).1
  · rcases List.mem_append.1 hx with hx | hx
    · obtain ⟨h1, h2, h3, h4, h5, h6⟩ := h.lst x hx
      exact ⟨h1, h2, h3, Nat.lt_of_lt_of_le h4 z3, (old _ h4 h5).2, list_turn h6 (old _ h4 h5).1⟩
    · simp only [List.mem_cons, List.not_mem_nil, or_false] at hx
      subst hx
      exact ⟨rfl, Nat.le_refl _, h.new, Nat.lt_of_lt_of_le gl z3, (old _ gl h.free).2, list_turn (own_repl h.own) (old _ gl h.free).1⟩
  · exact (old k (Nat.lt_of_lt_of_le hk h.frb.size) (h.wf k hk f)).2
  · exact (old k (Nat.lt_of_lt_of_le hk h.frb.size) (h.wf k hk f)).1.trans (h.wb k hk f hne)
  · exact push_frb ((push_frb h0.frb h0.lw hi7 ga).grown l1.hB (World.grownBy_alloc _ _ none) (fun k e => by cases e)) l1' hj7 gb'
/-- one more is put behind the list -/
theorem Tx.app {o : Obj} {v' : Value} (h : Tx w wr B bw g c V D K ri e V1 D1 L gi cap m mark) (hB : B ≤ g) (hwB : B ≤ w.heap.size)
    (ho : w1.ownsRow B e 1 v' (m + 1) (List.replicate m mark ++ [mark])) (hg : Grew (wr.alloc o) (.slice (some ⟨gi, 0, none⟩) m cap) v' w1) (hks : ∀ x, K x → ∀ k ∈ x.S, k < w.heap.size) :
    ∃ gi' cap', v' = .slice (some ⟨gi', 0, none⟩) (m + 1) cap' ∧ Tx w w1 B bw g c V D K ri e V1 D1 L gi' cap' (m + 1) mark := by
  have h0 := h.grown (World.grownBy_alloc wr o none)
  have gl : gi < wr.heap.size := (h.own.lt gi rfl).2
  have er : List.replicate m mark ++ [mark] = List.replicate (m + 1) mark := by rw [List.replicate_succ']
  rw [er] at ho
  obtain ⟨gi', cap', rfl⟩ : ∃ gi' cap', v' = .slice (some ⟨gi', 0, none⟩) (m + 1) cap' := by
    rcases ho.2 with ⟨_, h2⟩ | ⟨g2, c2, _, h2, _⟩
    · omega
    · exact ⟨g2, c2, h2⟩
  have gl0 : gi < (wr.alloc o).heap.size := by simp; omega
  have gn : gi' = gi ∨ gi' = wr.heap.size + 1 := by
    rcases hg.blk (k := gi') rfl with q | q
    · exact .inl (Option.some.inj q).symm
    · simp at q; exact .inr q
  have gb := hg.by
  have zw := h.frb.size
  have old : ∀ k, k < (wr.alloc o).heap.size → k ≠ gi → w1.heap[k]? = (wr.alloc o).heap[k]? := fun k hk hne => gb.block k hk (fun q => hne (Option.some.inj q))
  have hge : gi = g ∨ w.heap.size ≤ gi := h.new
  have hbu : But [gi] (wr.alloc o) w1 := But.of_grown gb (fun k e => by have : gi = k := Option.some.inj e; simp [this])
  have lw := h0.lw.frame hbu (fun k hk => by
    simp only [List.mem_cons, List.not_mem_nil, or_false] at hk; subst hk
    exact ⟨h0.free, h0.nk⟩)
  have gf : Free bw V1 gi' := by
    rcases gn with rfl | q
    · exact h.free
    · refine ⟨fun e => ?_, fun i hi e => ?_⟩
      · have := h.lw.slt; omega
      · have := (h.lw.ownB hi e).2; omega
  have gl' : gi' < w1.heap.size := (ho.lt gi' rfl).2
  refine ⟨gi', cap', rfl, lw, h.d, ho, ?_, gf, fun x hx q => ?_, fun x hx => ?_, h.wf, fun k hk f hne => ?_, ?_⟩
  · rcases gn with rfl | q
    · exact h.new
    · exact .inr (by omega)
  · rcases gn with rfl | q'
    · exact h.nk x hx q
    · have := hks x hx _ q; omega
  · obtain ⟨h1, h2, h3, h4, h5, h6⟩ := h0.lst x hx
    refine ⟨h1, by omega, h3, Nat.lt_of_lt_of_le h4 gb.size, h5, ?_⟩
    by_cases c1 : x.g = gi
    · rcases hg with ⟨e1, _⟩ | ⟨_, e2⟩
      · have e1 : gi' = gi := Option.some.inj e1
        intro j hj
        have q := own_repl ho j (by show j < m + 1; omega)
        simp only at q
        rw [c1, h1, ← e1]; exact q
      · exact list_turn h6 (e2.block _ h4 (by simp))
    · exact list_turn h6 (old _ h4 c1)
  · have hk' : k < (wr.alloc o).heap.size := by simp; omega
    have hne' : k ≠ gi := by rcases hge with q | q <;> omega
    exact (old k hk' hne').trans (h0.wb k hk f hne)
  · refine h0.frb.grown h0.lw.hB gb (fun k e => ?_)
    have : gi = k := Option.some.inj e
    exact .inr (by rcases hge with q | q <;> omega)
/-- at its end all of them are kept -/
theorem Tx.done (h : Tx w wr B bw g c V D K ri e V1 D1 L gi cap m mark) : ∃ K', LW wr B bw V1 D1 c K' ∧ Went w wr B bw g V V1 K K' ∧ ∀ x ∈ L, K' (lstKeep x) ∧ x.mark = mark ∧ x.len ≤ m := by
  refine ⟨fun x => K x ∨ ∃ y ∈ L, x = lstKeep y, h.lw.keep _ (fun x hx => ?_), ⟨h.wf, h.wb, h.frb, fun x hx => .inl hx, fun x hx => ?_⟩, fun x hx => ⟨.inr ⟨x, hx, rfl⟩, (h.lst x hx).1, (h.lst x hx).2.1⟩⟩
  · rcases hx with hx | ⟨y, hy, rfl⟩
    · exact .inl hx
    · obtain ⟨h1, h2, h3, h4, h5, h6⟩ := h.lst y hy
      refine .inr ⟨h6, fun k hk => ?_⟩
      have : k = y.g := by simpa [lstKeep] using hk
      subst this
      exact ⟨h4, h5⟩
  · rcases hx with hx | ⟨y, hy, rfl⟩
    · exact .inl hx
    · refine .inr (fun k hk => ?_)
      have : k = y.g := by simpa [lstKeep] using hk
      subst this
      exact (h.lst y hy).2.2.1
end Go.Proofs.YthpcbbnabnlanaaGreatDoor

/-
  The law's small functions: pick.
-/
namespace Go.Proofs.YthpcbbnabnlanaaGreatDoor
open Go.RowKit
set_option linter.unusedVariables false

/-- which of n things the raw number speaks of -/
def pickI (c n : Int) : Int := (if c < 0 then -(c + 1) else c).tmod n
theorem pickI_bd (c n : Int) (hn : 0 < n) : 0 ≤ pickI c n ∧ pickI c n < n := by
  unfold pickI
  have h : 0 ≤ (if c < 0 then -(c + 1) else c) := by split <;> omega
  exact ⟨Int.tmod_nonneg _ h, Int.tmod_lt_of_pos _ hn⟩

set_option maxHeartbeats 400000 in
theorem law_pick (c n : Int) (w : World) (hlo : -9223372036854775808 ≤ c) (hhi : c ≤ 9223372036854775807) (hn : 0 < n) (hn2 : n ≤ 1000) :
    Calls Tryz.prog 39 #[.int .i64 c, .int .i64 n] w fun e w' => e = .returned (.int .i64 (pickI c n)) ∧ w' = w := by
  have hn0 : (n == 0) = false := by simp; omega
  by_cases hc : c < 0
  · have HP : Hid (pickI c n = (-(c + 1)).tmod n) := by unfold Hid pickI; rw [if_pos hc]
    go_enter Tryz.func39, Tryz.ntmps39
    go_wp2
    all_goals go_ret
    all_goals refine ⟨ret_int ?_, rfl⟩
    all_goals rw [HP.out]
    exact (Int.neg_tmod ..).symm
  · have HP : Hid (pickI c n = c.tmod n) := by unfold Hid pickI; rw [if_neg hc]
    go_enter Tryz.func39, Tryz.ntmps39
    go_wp2
    all_goals go_ret
    all_goals refine ⟨ret_int ?_, rfl⟩
    all_goals rw [HP.out]
    exact (Int.tmod_eq_emod_of_nonneg ‹_›).symm

set_option maxRecDepth 100000 in
set_option maxHeartbeats 1000000 in
/-- a mark's text: whatever it is, of ten bytes -/
theorem law_word (mark : Int) (w : World) (h0 : 0 ≤ mark) (h1 : mark ≤ 1000000000000) :
    Calls Tryz.prog 104 #[.int .i64 mark] w fun e w' => ∃ t : ByteArray, e = .returned (.string t) ∧ t.size = 10 ∧ Below w.heap.size w w' := by
  go_enter Tryz.func104, Tryz.ntmps104
  go_wp2
  go_loopw [0, 3, 4] (fun vm vt vk wr => ∃ (k : Nat) (m : Int) (t : ByteArray), k ≤ 9 ∧ 0 ≤ m ∧ m ≤ 1000000000000 ∧ vm = .int .i64 m ∧ vt = .string t ∧ vk = .int .i64 k ∧ t.size = 1 + k ∧ Below w.heap.size w wr) (fun _ _ vk _ => 9 - (intOf vk).toNat)
  case atStart => exact ⟨0, mark, ⟨#[35]⟩, by omega, h0, h1, rfl, rfl, rfl, rfl, Below.refl _ _⟩
  case round =>
    obtain ⟨k, m, t, hk, hm0, hm1, rfl, rfl, rfl, hsz, hb⟩ := hrel
    by_cases hlt : k < 9
    · have hlt' : (k : Int) < 9 := by omega
      have hcv : (convert 65 9 (Value.slice (some ⟨wr.heap.size, 0, none⟩) 1 1)).run Tryz.prog (wr.alloc (.cells #[.int .u8 (97 + m % 16)] 5)) = .ok (.string (strOfNums [97 + m % 16])) (wr.alloc (.cells #[.int .u8 (97 + m % 16)] 5)) :=
        run_convert_bytes_arg _ 65 5 Tryz.underlying65 Tryz.underlying5 wr.heap.size 0 1 1 [97 + m % 16] rfl (fun i hi => by
          obtain rfl : i = 0 := by omega
          simp) 9 Tryz.underlying9
      have hss : (strOfNums [97 + m % 16]).size = 1 := rfl
      have hbb := hb.alloc hb.size (.cells #[.int .u8 (97 + m % 16)] 5)
      have HBB : Hid (Below w.heap.size w (wr.alloc (.cells #[.int .u8 (97 + m % 16)] 5))) := hbb
      clear hbb
      go_wp2
      go_roundw
      case rel =>
        refine ⟨k + 1, m / 16, _, by omega, by omega, by omega, rfl, rfl, by go_num, ?_, HBB.out⟩
        rw [ByteArray.size_append, hsz, hss]
        omega
      case measure => simp [intOf]; omega
    · obtain rfl : k = 9 := by omega
      go_wp2
      go_ret
      exact ⟨t, rfl, by omega, hb⟩
end Go.Proofs.YthpcbbnabnlanaaGreatDoor

/-
  The law's texts: a list of texts came out: it is written over, put behind, and kept.
-/
namespace Go.Proofs.YthpcbbnabnlanaaGreatDoor
open Go.RowKit
set_option linter.unusedVariables false
variable {w w' w1 : World} {B bw c : Nat} {V : LV} {D : LD} {K : Keep → Prop}

theorem infoSl : (Tryz.prog.info? 37).map (fun i => (i.zero, i.size, i.bytes)) = some (some (.slice none 0 0), 1, 24) := by kernel_rfl
theorem infoSt9 : (Tryz.prog.info? 9).map (fun i => (i.zero, i.size, i.bytes)) = some (some (.string .empty), 1, 16) := by kernel_rfl
theorem sl_one (a : Option Addr) (n c : Nat) : ∀ u ∈ [Value.slice a n c], u.oneCell' = true := by
  intro u hu; simp only [List.mem_cons, List.not_mem_nil, or_false] at hu; subst hu; rfl
theorem st_one (s : ByteArray) : ∀ u ∈ [Value.string s], u.oneCell' = true := by
  intro u hu; simp only [List.mem_cons, List.not_mem_nil, or_false] at hu; subst hu; rfl
theorem grown_below {w w' : World} (h : Below w.heap.size w w') : w.grownBy w' none := ⟨h.os, h.tape, h.output, h.size, fun k hk _ => h.block k hk⟩
/-- what stands ahead of each writing -/
def TxA (w : World) (B bw g cap n c : Nat) (V : LV) (D : LD) (K : Keep → Prop) (e : TypeId) (mark : Value) (vi : Value) (wr : World) : Prop :=
  ∃ (i : Nat) (xs : List Value), i ≤ n ∧ vi = .int .i64 i ∧ xs.take i = List.replicate i mark ∧ wr.ownsRow B e 1 (.slice (some ⟨g, 0, none⟩) n cap) n xs ∧ LW wr B bw V D c K ∧ (∀ k, k < w.heap.size → Free bw V k → k ≠ g → wr.heap[k]? = w.heap[k]?) ∧ FrB B bw w wr
/-- what stands ahead of each putting behind -/
def TxB (w : World) (B bw g n c : Nat) (V : LV) (D : LD) (K : Keep → Prop) (ri : Nat) (e : TypeId) (mark : Value) (vl vi : Value) (wr : World) : Prop :=
  ∃ (i gi cap : Nat) (V1 : LV) (D1 : LD) (L : List LP), i ≤ 65 ∧ vi = .int .i64 i ∧ vl = .slice (some ⟨gi, 0, none⟩) (n + i) cap ∧ L.length ≤ i ∧ Tx w wr B bw g c V D K ri e V1 D1 L gi cap (n + i) mark
theorem take_set {xs : List Value} {i n : Nat} {mark : Value} (hl : xs.length = n) (hi : i < n) (h : xs.take i = List.replicate i mark) : (xs.set i mark).take (i + 1) = List.replicate (i + 1) mark := by
  have e1 : (xs.set i mark)[i]? = some mark := by simp [hl, hi]
  rw [List.take_add_one, e1, List.take_set_of_le (Nat.le_refl i), h, List.replicate_succ']
  simp
theorem TxA.step {g cap n i : Nat} {e : TypeId} {mark : Value} {xs : List Value} {wr : World} (hi : i < n) (hxs : xs.take i = List.replicate i mark) (hown : wr.ownsRow B e 1 (.slice (some ⟨g, 0, none⟩) n cap) n xs) (hlw : LW wr B bw V D c K) (hb : ∀ k, k < w.heap.size → Free bw V k → k ≠ g → wr.heap[k]? = w.heap[k]?) (hfr : FrB B bw w wr) (hf : Free bw V g) (hk : ∀ x, K x → g ∉ x.S) (hB : B ≤ g) :
    TxA w B bw g cap n c V D K e mark (.int .i64 ((i : Int) + 1)) (wr.setCell ⟨g, i, none⟩ mark) := by
  have hl : xs.length = n := by simpa using hown.1
  have hst := hown.stored i mark
  have hg := grown_set wr g i mark
  refine ⟨i + 1, xs.set i mark, by omega, by simp, take_set hl hi hxs, hst.1, hlw.frame (S := [g]) (But.of_grown hg (fun k e => by cases e; simp)) (fun k hk' => ?_), fun k h1 h2 h3 => ?_, hfr.grown hlw.hB hg (fun k e => by cases e; exact .inr hB)⟩
  · simp only [List.mem_cons, List.not_mem_nil, or_false] at hk'; subst hk'; exact ⟨hf, hk⟩
  · exact (hg.block k (Nat.lt_of_lt_of_le h1 hfr.size) (fun e => h3 (Option.some.inj e))).trans (hb k h1 h2 h3)
theorem TxA.last {g cap n : Nat} {e : TypeId} {mark : Value} {xs : List Value} {wr : World} (ri : Nat) (hxs : xs.take n = List.replicate n mark) (hown : wr.ownsRow B e 1 (.slice (some ⟨g, 0, none⟩) n cap) n xs) (hlw : LW wr B bw V D c K) (hb : ∀ k, k < w.heap.size → Free bw V k → k ≠ g → wr.heap[k]? = w.heap[k]?) (hfr : FrB B bw w wr) (hf : Free bw V g) (hk : ∀ x, K x → g ∉ x.S) :
    TxB w B bw g n c V D K ri e mark (.slice (some ⟨g, 0, none⟩) n cap) (.int .i64 0) wr := by
  have hl : xs.length = n := by simpa using hown.1
  rw [List.take_of_length_le (by omega)] at hxs
  subst hxs
  exact ⟨0, g, cap, V, D, [], by omega, rfl, rfl, by simp, hlw, rfl, hown, .inl rfl, hf, hk, fun x hx => by simp at hx, fun k _ f => f, hb, hfr⟩

set_option maxRecDepth 100000 in
set_option maxHeartbeats 4000000 in
theorem law_texts (h : LW w B bw V D c K) {g n cap : Nat} {xs : List Value} (hl : w.ownsRow B 9 1 (.slice (some ⟨g, 0, none⟩) n cap) n xs) (hf : Free bw V g) (hk : ∀ x, K x → g ∉ x.S) (hn : n ≤ 2000000) (hc : c ≤ 100000000000) (hcn : ∀ i, i < 7 → D.cnt i ≤ 100000000000) :
    Calls Tryz.prog 56 #[.pointer (some ⟨bw, 0, none⟩), .slice (some ⟨g, 0, none⟩) n cap] w fun e w' => e = .returned (.tuple #[]) ∧ ∃ V' K' L t, LW w' B bw V' (pushAll D 1 L) (c + 1) K' ∧ Went w w' B bw g V V' K K' ∧ L.length ≤ 65 ∧ ∀ x ∈ L, K' (lstKeep x) ∧ x.mark = .string t ∧ x.len ≤ n + 65 := by
  obtain ⟨i1, hi1, hy0, hy1, hy2⟩ := info_parts infoSl
  obtain ⟨i2, hi2, hz0, hz1, hz2⟩ := info_parts infoSt9
  have hBg : B ≤ g := (hl.lt g rfl).1
  have hgl : g < w.heap.size := (hl.lt g rfl).2
  have hBw := h.hB
  have hbl := h.slt
  have hgw : g ≠ bw := hf.1
  have HKS := hide (fun x hx k hk => ((h.kp x hx).2 k hk).1 : ∀ x, K x → ∀ k ∈ x.S, k < w.heap.size)
  have HF := hide hf
  have HK := hide hk
  have c7 : w.cell? ⟨bw, 7, none⟩ = some (.int .i64 c) := cell_of h.blk 7 _ rfl
  have f7 : w.frozen? ⟨bw, 7, none⟩ = false := frozen_of h.blk 7
  have hcnt := h.count (c + 1)
  have ec : ((c + 1 : Nat) : Int) = (c : Int) + 1 := by omega
  rw [ec] at hcnt
  have HC := hide hcnt
  have c8 : (w.setCell ⟨bw, 7, none⟩ (.int .i64 ((c : Int) + 1))).cell? ⟨bw, 7, none⟩ = some (.int .i64 ((c : Int) + 1)) := by
    have := cell_of hcnt.blk 7 (.int .i64 ((c + 1 : Nat) : Int)) rfl; rw [ec] at this; exact this
  have HL := hide (hl.kept (grown_set w bw 7 (.int .i64 ((c : Int) + 1))) (.inr (fun e => hgw (by simpa [Value.ownBlock] using e))))
  have KW := Kept.mk (fun W => law_word ((c : Int) + 1) W (by omega) (by omega))
  have hcn1 := hcn 1 (by omega)
  have hcn2 := hcn 2 (by omega)
  clear h hl hcnt hf hk ec hcn
  go_enter Tryz.func56, Tryz.ntmps56
  go_wp2_with (go_at_call 104; refine (KW.get _).mono ?_; rintro e w1 ⟨t, rfl, ht, hb⟩)
  have hg1 := grown_below hb
  have HA : Hid (TxA w B bw g cap n (c + 1) V D K 9 (.string t) (.int .i64 0) w1) := by
    refine ⟨0, _, by omega, rfl, by simp, HL.out.kept hg1 (own_none _), HC.out.grown hg1, fun k h1 h2 h3 => ?_, ((FrB.refl B bw w).grown hBw (grown_set w bw 7 _) (fun k e => by cases e; exact .inl rfl)).grown HC.out.hB hg1 (fun k e => by cases e)⟩
    exact (hg1.block k (Nat.lt_of_lt_of_le h1 (grown_set w bw 7 _).size) (by simp)).trans ((grown_set w bw 7 _).block k h1 (fun e => h2.1 (Option.some.inj e)))
  clear HL HC hb hg1 c7 f7 c8
  go_loopw [5] (fun vi wr => TxA w B bw g cap n (c + 1) V D K 9 (.string t) vi wr) (fun vi _ => n - (intOf vi).toNat)
  case atStart => exact HA.out
  case round =>
    clear HA
    obtain ⟨i, xs, hi, rfl, hxs, hown, hlw, hwb, hfr⟩ := hrel
    have hxl : xs.length = n := by simpa using hown.1
    by_cases hlt : i < n
    · have hlt3 : (i : Int) < n := by omega
      have h03 : (0 : Int) ≤ i := by omega
      have k1 : wr.cell? ⟨g, i, none⟩ = some (xs[i]'(by omega)) := by rw [hown.cellAt i (by omega)]; simp [hxl, hlt]
      have k2 := hown.frozenAt i
      have HN := hide (TxA.step hlt hxs hown hlw hwb hfr HF.out HK.out hBg)
      clear hown hxs hlw hwb hfr
      go_wp2
      go_roundw
      case rel => exact HN.out
      case measure => simp [intOf]; omega
    · obtain rfl : n = i := by omega
      have HB := hide (TxA.last 1 hxs hown hlw hwb hfr HF.out HK.out)
      clear hown hxs hlw hwb hfr
      go_wp2
      go_loopw [1, 6] (fun vl vi wr => TxB w B bw g n (c + 1) V D K 1 9 (.string t) vl vi wr) (fun _ vi _ => 65 - (intOf vi).toNat)
      case atStart => exact HB.out
      case round =>
        clear HB
        obtain ⟨i, gi, cap', V1, D1, L, hi, rfl, rfl, hLl, hT⟩ := hrel
        by_cases h65 : i ≤ 64
        · have h65' : (i : Int) ≤ 64 := by omega
          by_cases h3 : i < 3
          · have h3' : (i : Int) < 3 := by omega
            obtain ⟨na, nc, en⟩ := own_slice_n (hT.lw.own 1 (by omega))
            obtain ⟨ka, kc, ek⟩ := own_slice_n (hT.lw.own 2 (by omega))
            have o1 : wr.ownsRow B 37 1 (.slice na (D1.cnt 1) nc) (D1.cnt 1) (D1.cells 1) := by rw [← en]; exact hT.lw.own 1 (by omega)
            have m1 : wr.cell? ⟨bw, 1, none⟩ = some (.slice na (D1.cnt 1) nc) := by rw [← en]; exact cell_of hT.lw.blk 1 _ rfl
            have hc1 : D1.cnt 1 ≤ D.cnt 1 + L.length := by rw [hT.d]; exact pushAll_cnt D (.inl rfl) L 1 (by omega)
            have hc2 : D1.cnt 2 ≤ D.cnt 2 + L.length := by rw [hT.d]; exact pushAll_cnt D (.inl rfl) L 2 (by omega)
            have HT := hide hT
            have HEN := hide en
            have HEK := hide ek
            have hsz := hT.lw.hB
            have hsl := hT.lw.slt
            clear hT en ek
            go_wp2_with (at_builtin; refine wpList_append_two rfl _ _ 56 rfl B 37 i1 (.slice none 0 0) 1 24 Tryz.underlying56 hi1 hy0 hy1 hy2 rfl (by decide) _ _ _ rfl (o1.alloc _) ⟨wr.heap.size, 0, none⟩ 1 1 [.slice (some ⟨gi, 0, none⟩) (n + i) cap'] rfl rfl (World.news_of_block (heap_alloc_new _ _)) (sl_one _ _ _) ?c3 ?c4 ?c5 ?_)
            case c3 => unfold maxLen; omega
            case c4 => omega
            case c5 => simp; omega
            intro v1 w2 ho1 hg1
            have ga1 := hg1
            rw [← HEN.out] at ga1
            have l1 := (HT.out.lw.alloc _).push (D' := D1.pl 1 ⟨gi, n + i, cap', .string t⟩) (i := 1) (by omega) ho1 ga1 (fun j hj => pl_cnt _ _ (.inl rfl) hj) (fun j hj => pl_cells _ _ (.inl rfl) hj)
            obtain ⟨xa, xm, xc, rfl⟩ := own_slice ho1
            have f2 : w2.frozen? ⟨bw, 1, none⟩ = false := frozen_of ((hg1.by.block bw (by simp; omega) (fun e => by have := (o1.lt bw e.symm).1; have := HT.out.lw.lt; omega)).trans (heap_alloc_old wr _ hsl |>.trans HT.out.lw.blk)) 1
            have m2 : w2.cell? ⟨bw, 1, none⟩ = some (.slice na (D1.cnt 1) nc) := hg1.by.cell ((World.grownBy_alloc wr _ none).cell m1 (by simp)) (fun e => by have := (o1.lt bw e.symm).1; have := HT.out.lw.lt; omega)
            have o2 : (w2.setCell ⟨bw, 1, none⟩ (.slice xa xm xc)).ownsRow B 9 1 (.slice ka (D1.cnt 2) kc) (D1.cnt 2) (D1.cells 2) := by rw [← HEK.out]; exact l1.own 2 (by omega)
            have m3 : (w2.setCell ⟨bw, 1, none⟩ (.slice xa xm xc)).cell? ⟨bw, 2, none⟩ = some (.slice ka (D1.cnt 2) kc) := by rw [← HEK.out]; exact cell_of l1.blk 2 _ rfl
            have hzA : (w2.setCell ⟨bw, 1, none⟩ (.slice xa xm xc)).heap.size = w2.heap.size := by simp [World.setCell]
            have N2 : ∀ j u, [Value.string t][j]? = some u → ((w2.setCell ⟨bw, 1, none⟩ (.slice xa xm xc)).alloc (.cells #[.string t] 9)).cell? ((⟨w2.heap.size, 0, none⟩ : Addr).add j) = some u := by rw [← hzA]; exact World.news_of_block (heap_alloc_new _ _)
            have hsz2 := l1.hB
            have hsl2 := l1.slt
            have HL1 := hide l1
            have HO1 := hide ho1
            have HG1 := hide hg1
            clear l1 ho1 hg1 o1 m1 ga1
            go_wp2_with (at_builtin; refine wpList_append_two rfl _ _ 37 rfl B 9 i2 (.string .empty) 1 16 Tryz.underlying37 hi2 hz0 hz1 hz2 rfl (by decide) _ _ _ rfl (o2.alloc _) ⟨w2.heap.size, 0, none⟩ 1 1 [.string t] rfl rfl N2 (st_one _) ?c3 ?c4 ?c5 ?_)
            case c3 => unfold maxLen; omega
            case c4 => omega
            case c5 => simp; omega
            intro v3 w3 ho3 hg3
            have ga := HG1.out
            rw [← HEN.out] at ga
            have gb := hg3
            rw [← HEK.out] at gb
            obtain ⟨V2, D2, hT2⟩ := HT.out.push (.inl rfl) HO1.out ga ho3 gb
            obtain ⟨ya, ym, yc, rfl⟩ := own_slice ho3
            have f4 : w3.frozen? ⟨bw, 2, none⟩ = false := frozen_of ((hg3.by.block bw (by simp; omega) (fun e => by have := (o2.lt bw e.symm).1; have := HL1.out.lt; omega)).trans (heap_alloc_old _ _ hsl2 |>.trans HL1.out.blk)) 2
            have m4 : w3.cell? ⟨bw, 2, none⟩ = some (.slice ka (D1.cnt 2) kc) := hg3.by.cell ((World.grownBy_alloc _ _ none).cell m3 (by simp)) (fun e => by have := (o2.lt bw e.symm).1; have := HL1.out.lt; omega)
            have o5 := hT2.own
            have HT2 := hide hT2
            have hzB : (w3.setCell ⟨bw, 2, none⟩ (.slice ya ym yc)).heap.size = w3.heap.size := by simp [World.setCell]
            have hsz5 : B ≤ w3.heap.size := by rw [← hzB]; exact hT2.lw.hB
            have N3 : ∀ j u, [Value.string t][j]? = some u → ((w3.setCell ⟨bw, 2, none⟩ (.slice ya ym yc)).alloc (.cells #[.string t] 9)).cell? ((⟨w3.heap.size, 0, none⟩ : Addr).add j) = some u := by rw [← hzB]; exact World.news_of_block (heap_alloc_new _ _)
            clear ga gb hzA N2 hT2 ho3 hg3 o2 m3 HL1 HO1 HG1 HT HEN HEK m2 f2
            go_wp2_with (at_builtin; refine wpList_append_two rfl _ _ 37 rfl B 9 i2 (.string .empty) 1 16 Tryz.underlying37 hi2 hz0 hz1 hz2 rfl (by decide) _ _ _ rfl (o5.alloc _) ⟨w3.heap.size, 0, none⟩ 1 1 [.string t] rfl rfl N3 (st_one _) ?c3 ?c4 ?c5 ?_)
            case c3 => unfold maxLen; omega
            case c4 => omega
            case c5 => simp; omega
            intro v5 w5 ho5 hg5
            obtain ⟨gi', cap2, rfl, hT3⟩ := HT2.out.app hBg hBw ho5 hg5 HKS.out
            have HT3 := hide hT3
            clear hT3 ho5 hg5 HT2 o5 m4 f4
            go_wp2
            go_roundw
            case rel => exact ⟨i + 1, gi', cap2, V2, D2, _, by omega, by go_num, rfl, by simp; omega, HT3.out⟩
            case measure => simp [intOf]; omega
          · have h3' : decide ((i : Int) < 3) = false := by simp; omega
            by_cases h64 : i = 64
            · have h64' : ((i : Int) == 64) = true := by simp; omega
              clear h64
              obtain ⟨na, nc, en⟩ := own_slice_n (hT.lw.own 1 (by omega))
              obtain ⟨ka, kc, ek⟩ := own_slice_n (hT.lw.own 2 (by omega))
              have o1 : wr.ownsRow B 37 1 (.slice na (D1.cnt 1) nc) (D1.cnt 1) (D1.cells 1) := by rw [← en]; exact hT.lw.own 1 (by omega)
              have m1 : wr.cell? ⟨bw, 1, none⟩ = some (.slice na (D1.cnt 1) nc) := by rw [← en]; exact cell_of hT.lw.blk 1 _ rfl
              have hc1 : D1.cnt 1 ≤ D.cnt 1 + L.length := by rw [hT.d]; exact pushAll_cnt D (.inl rfl) L 1 (by omega)
              have hc2 : D1.cnt 2 ≤ D.cnt 2 + L.length := by rw [hT.d]; exact pushAll_cnt D (.inl rfl) L 2 (by omega)
              have HT := hide hT
              have HEN := hide en
              have HEK := hide ek
              have hsz := hT.lw.hB
              have hsl := hT.lw.slt
              clear hT en ek
              go_wp2_with (at_builtin; refine wpList_append_two rfl _ _ 56 rfl B 37 i1 (.slice none 0 0) 1 24 Tryz.underlying56 hi1 hy0 hy1 hy2 rfl (by decide) _ _ _ rfl (o1.alloc _) ⟨wr.heap.size, 0, none⟩ 1 1 [.slice (some ⟨gi, 0, none⟩) (n + i) cap'] rfl rfl (World.news_of_block (heap_alloc_new _ _)) (sl_one _ _ _) ?c3 ?c4 ?c5 ?_)
              case c3 => unfold maxLen; omega
              case c4 => omega
              case c5 => simp; omega
              intro v1 w2 ho1 hg1
              have ga1 := hg1
              rw [← HEN.out] at ga1
              have l1 := (HT.out.lw.alloc _).push (D' := D1.pl 1 ⟨gi, n + i, cap', .string t⟩) (i := 1) (by omega) ho1 ga1 (fun j hj => pl_cnt _ _ (.inl rfl) hj) (fun j hj => pl_cells _ _ (.inl rfl) hj)
              obtain ⟨xa, xm, xc, rfl⟩ := own_slice ho1
              have f2 : w2.frozen? ⟨bw, 1, none⟩ = false := frozen_of ((hg1.by.block bw (by simp; omega) (fun e => by have := (o1.lt bw e.symm).1; have := HT.out.lw.lt; omega)).trans (heap_alloc_old wr _ hsl |>.trans HT.out.lw.blk)) 1
              have m2 : w2.cell? ⟨bw, 1, none⟩ = some (.slice na (D1.cnt 1) nc) := hg1.by.cell ((World.grownBy_alloc wr _ none).cell m1 (by simp)) (fun e => by have := (o1.lt bw e.symm).1; have := HT.out.lw.lt; omega)
              have o2 : (w2.setCell ⟨bw, 1, none⟩ (.slice xa xm xc)).ownsRow B 9 1 (.slice ka (D1.cnt 2) kc) (D1.cnt 2) (D1.cells 2) := by rw [← HEK.out]; exact l1.own 2 (by omega)
              have m3 : (w2.setCell ⟨bw, 1, none⟩ (.slice xa xm xc)).cell? ⟨bw, 2, none⟩ = some (.slice ka (D1.cnt 2) kc) := by rw [← HEK.out]; exact cell_of l1.blk 2 _ rfl
              have hzA : (w2.setCell ⟨bw, 1, none⟩ (.slice xa xm xc)).heap.size = w2.heap.size := by simp [World.setCell]
              have N2 : ∀ j u, [Value.string t][j]? = some u → ((w2.setCell ⟨bw, 1, none⟩ (.slice xa xm xc)).alloc (.cells #[.string t] 9)).cell? ((⟨w2.heap.size, 0, none⟩ : Addr).add j) = some u := by rw [← hzA]; exact World.news_of_block (heap_alloc_new _ _)
              have hsz2 := l1.hB
              have hsl2 := l1.slt
              have HL1 := hide l1
              have HO1 := hide ho1
              have HG1 := hide hg1
              clear l1 ho1 hg1 o1 m1 ga1
              go_wp2_with (at_builtin; refine wpList_append_two rfl _ _ 37 rfl B 9 i2 (.string .empty) 1 16 Tryz.underlying37 hi2 hz0 hz1 hz2 rfl (by decide) _ _ _ rfl (o2.alloc _) ⟨w2.heap.size, 0, none⟩ 1 1 [.string t] rfl rfl N2 (st_one _) ?c3 ?c4 ?c5 ?_)
              case c3 => unfold maxLen; omega
              case c4 => omega
              case c5 => simp; omega
              intro v3 w3 ho3 hg3
              have ga := HG1.out
              rw [← HEN.out] at ga
              have gb := hg3
              rw [← HEK.out] at gb
              obtain ⟨V2, D2, hT2⟩ := HT.out.push (.inl rfl) HO1.out ga ho3 gb
              obtain ⟨ya, ym, yc, rfl⟩ := own_slice ho3
              have f4 : w3.frozen? ⟨bw, 2, none⟩ = false := frozen_of ((hg3.by.block bw (by simp; omega) (fun e => by have := (o2.lt bw e.symm).1; have := HL1.out.lt; omega)).trans (heap_alloc_old _ _ hsl2 |>.trans HL1.out.blk)) 2
              have m4 : w3.cell? ⟨bw, 2, none⟩ = some (.slice ka (D1.cnt 2) kc) := hg3.by.cell ((World.grownBy_alloc _ _ none).cell m3 (by simp)) (fun e => by have := (o2.lt bw e.symm).1; have := HL1.out.lt; omega)
              have o5 := hT2.own
              have HT2 := hide hT2
              have hzB : (w3.setCell ⟨bw, 2, none⟩ (.slice ya ym yc)).heap.size = w3.heap.size := by simp [World.setCell]
              have hsz5 : B ≤ w3.heap.size := by rw [← hzB]; exact hT2.lw.hB
              have N3 : ∀ j u, [Value.string t][j]? = some u → ((w3.setCell ⟨bw, 2, none⟩ (.slice ya ym yc)).alloc (.cells #[.string t] 9)).cell? ((⟨w3.heap.size, 0, none⟩ : Addr).add j) = some u := by rw [← hzB]; exact World.news_of_block (heap_alloc_new _ _)
              clear ga gb hzA N2 hT2 ho3 hg3 o2 m3 HL1 HO1 HG1 HT HEN HEK m2 f2
              go_wp2_with (at_builtin; refine wpList_append_two rfl _ _ 37 rfl B 9 i2 (.string .empty) 1 16 Tryz.underlying37 hi2 hz0 hz1 hz2 rfl (by decide) _ _ _ rfl (o5.alloc _) ⟨w3.heap.size, 0, none⟩ 1 1 [.string t] rfl rfl N3 (st_one _) ?c3 ?c4 ?c5 ?_)
              case c3 => unfold maxLen; omega
              case c4 => omega
              case c5 => simp; omega
              intro v5 w5 ho5 hg5
              obtain ⟨gi', cap2, rfl, hT3⟩ := HT2.out.app hBg hBw ho5 hg5 HKS.out
              have HT3 := hide hT3
              clear hT3 ho5 hg5 HT2 o5 m4 f4
              go_wp2
              go_roundw
              case rel => exact ⟨i + 1, gi', cap2, V2, D2, _, by omega, by go_num, rfl, by simp; omega, HT3.out⟩
              case measure => simp [intOf]; omega
            · have h64' : ((i : Int) == 64) = false := by simp; omega
              have o5 := hT.own
              have hsz5 := hT.lw.hB
              have HT2 := hide hT
              clear hT
              go_wp2_with (at_builtin; refine wpList_append_two rfl _ _ 37 rfl B 9 i2 (.string .empty) 1 16 Tryz.underlying37 hi2 hz0 hz1 hz2 rfl (by decide) _ _ _ rfl (o5.alloc _) ⟨wr.heap.size, 0, none⟩ 1 1 [.string t] rfl rfl (World.news_of_block (heap_alloc_new _ _)) (st_one _) ?c3 ?c4 ?c5 ?_)
              case c3 => unfold maxLen; omega
              case c4 => omega
              case c5 => simp; omega
              intro v5 w5 ho5 hg5
              obtain ⟨gi', cap2, rfl, hT3⟩ := HT2.out.app hBg hBw ho5 hg5 HKS.out
              have HT3 := hide hT3
              clear hT3 ho5 hg5 HT2 o5
              go_wp2
              go_roundw
              case rel => exact ⟨i + 1, gi', cap2, V1, D1, _, by omega, by go_num, rfl, by omega, HT3.out⟩
              case measure => simp [intOf]; omega
        · obtain rfl : i = 65 := by omega
          obtain ⟨K', q1, q2, q3⟩ := hT.done
          have hd := hT.d
          subst hd
          have HQ := hide (And.intro q1 (And.intro q2 q3))
          clear q1 q2 q3 hT
          go_wp2
          go_end0
          exact ⟨rfl, V1, K', L, t, HQ.out.1, HQ.out.2.1, by omega, HQ.out.2.2⟩
end Go.Proofs.YthpcbbnabnlanaaGreatDoor
