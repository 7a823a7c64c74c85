import Derived.Test.YthpcbbnabnlanabGreatDoorM20
import Derived.Test.YthpcbbnabnlanabGreatDoorM27
import Derived.Laws.OwnMore
namespace Go.Proofs.YthpcbbnabnlanabGreatDoor
set_option linter.unusedVariables false
set_option linter.unusedSimpArgs false
section
open Go.RowKit
variable {w w' : World}
def ap (a b : List UInt8) : List UInt8 := a ++ b
theorem ap_len (a b : List UInt8) : (ap a b).length = a.length + b.length := List.length_append
theorem bn_ap (a b : List UInt8) : bn a ++ bn b = bn (ap a b) := bn_app a b
theorem bn_mk_ap (a : List UInt8) (xs : Array UInt8) : bn a ++ ⟨xs⟩ = bn (ap a xs.toList) := bn_app a xs.toList
theorem mk_bn_ap (a : List UInt8) (xs : Array UInt8) : (⟨xs⟩ : ByteArray) ++ bn a = bn (ap xs.toList a) := bn_app xs.toList a
attribute [local go_sem] bn_ap bn_mk_ap mk_bn_ap bn_size mk_size ap_len List.length_cons List.length_nil
end
section
open Go.RowKit
variable {w w' wr : World}
theorem own_gr {e s n : Nat} {v : Value} {xs : List Value} (hg : w.grownBy wr none) (ho : wr.ownsRow w.heap.size e s v n xs) (h : wr.grownBy w' v.ownBlock) : w.grownBy w' none := by
 rcases ho.2 with ⟨rfl, _⟩ | ⟨g, cap, cur, rfl, hB, _⟩
 ·exact hg.trans h
 ·exact grown_new hg hB h
def Src (w : World) (vx : Value) (m : Nat) (news : List Value) : Prop := (vx = .slice none 0 0 ∧ m = 0 ∧ news = []) ∨ ∃ ad c, vx = .slice (some ad) m c ∧ ∀ j u, news[j]? = some u → w.cell? (ad.add j) = some u
theorem wpList_append_src {w : World} {ops : Array Oper} {rest : List Oper} {o : Oper} {a : Act} {Q : Exit → Act → World → Prop} (hgd : o.guard = none) (s x : Operand) (t : TypeId) (ho : o.op = .call { callee := .builtin .append, args := #[s, x], argTypes := #[t, t] })
  (base : Nat) (e : TypeId) (i : TypeInfo) (z : Value) (size bytes : Nat) (ht : Tryz.prog.underlying t = some (.slice e)) (hi : Tryz.prog.info? e = some i) (hz : i.zero = some z)
  (hsize : i.size = size) (hby : i.bytes = bytes) (hzs : z.cells.size = size) (hsz : 0 < size) (v : Value) (n : Nat) (xs : List Value) (hs : a.eval s = v) (hown : w.ownsRow base e size v n xs)
  (vx : Value) (m : Nat) (news : List Value) (hx : a.eval x = vx) (hsrc : Src w vx m news) (hl : news.length = m * size) (h1 : ∀ u ∈ news, u.oneCell' = true)
  (h63 : n + m ≤ maxLen) (hbytes : (n + m) * bytes ≤ 140737488355328) (hbase : base ≤ w.heap.size)
  (h : ∀ v' w', w'.ownsRow base e size v' (n + m) (xs ++ news) → w.grownBy w' v.ownBlock → wpList Tryz.prog ops Q rest (a.put o.dst v') w') :
  wpList Tryz.prog ops Q (o :: rest) a w := by
 refine wpList_plain hgd fun K hK => ?_
 have key : ∃ v' w', (Builtin.append_ #[t, t] o.type #[v, vx]).run Tryz.prog w = .ok v' w' ∧ w'.ownsRow base e size v' (n + m) (xs ++ news) ∧ w.grownBy w' v.ownBlock := by
  rcases hsrc with ⟨rfl, rfl, rfl⟩ | ⟨ad, c, rfl, hn⟩
  ·exact ⟨v, w, run_append_owned_none (P := Tryz.prog) (w := w) base t o.type e i size ht hi v n xs hown, by rw [List.append_nil]; exact hown, grown_refl _ _⟩
  ·obtain ⟨v', w', hr, h2, h3, _⟩ := run_append_own_at (P := Tryz.prog) w base t o.type e i z size bytes ht hi hz hsize hby hzs hsz v n xs hown ad m c news hl hn h1 h63 hbytes hbase
   exact ⟨v', w', hr, h2, h3⟩
 obtain ⟨v', w', hr, h2, h3⟩ := key
 unfold Oper.wp execOp
 simp only [ho, resolve, invoke, builtin, Sem.run_bind, Sem.run_pure, Result.andThen_ok, List.map_toArray, List.map_cons, List.map_nil, hs, hx, hr]
 exact hK _ _ (h v' w' h2 h3)
attribute [local go_sem] bn_ap bn_mk_ap mk_bn_ap bn_size mk_size ap_len List.length_cons List.length_nil
end
section
open Go.RowKit
variable {w w' wr : World}
def RawIn (w : World) (v : Value) (raw : List Int) : Prop := ∃ a c, v = .slice a raw.length c ∧ ∀ j x, raw[j]? = some x → ∃ g off, a = some ⟨g, off, none⟩ ∧ g < w.heap.size ∧ w.cell? ⟨g, off + j, none⟩ = some (.int .i64 x)
theorem RawIn.is {v : Value} {raw : List Int} (h : RawIn w v raw) : ∃ a c, v = .slice a raw.length c := by
 obtain ⟨a, c, e, _⟩ := h
 exact ⟨a, c, e⟩
theorem RawIn.at_ {a : Option Addr} {n c : Nat} {raw : List Int} (h : RawIn w (.slice a n c) raw) {j : Nat} {x : Int} (hx : raw[j]? = some x) : ∃ g off, a = some ⟨g, off, none⟩ ∧ g < w.heap.size ∧ w.cell? ⟨g, off + j, none⟩ = some (.int .i64 x) := by
 obtain ⟨a', c', e, k⟩ := h
 injection e with e1 _ _
 subst e1
 exact k j x hx
attribute [local go_sem] bn_ap bn_mk_ap mk_bn_ap bn_size mk_size ap_len List.length_cons List.length_nil
end
section
open Go.RowKit
theorem compactU_lt {d : Array Int} (hs : ∀ i j, i ≤ j → j < d.size → d[i]! ≤ d[j]!) : ∀ m : Nat, m ≤ d.size → (Lib.compactUpTo d m).Pairwise (· < ·)
 | 0, _ => by simp [Lib.compactUpTo]
 | m + 1, h => by
  rw [Lib.compactUpTo_succ, List.pairwise_append]
  refine ⟨compactU_lt hs m (by omega), ?_, fun a ha b hb => ?_⟩
  ·split <;> simp
  ·obtain ⟨j, hj, rfl⟩ := (compactU_mem d m (by omega) a).1 ha
   split at hb
   ·rename_i k
    obtain rfl := List.mem_singleton.1 hb
    have k2 : m = 0 ∨ d[m]! ≠ d[m - 1]! := by simpa [Lib.keeps] using k
    rcases k2 with k2 | k2
    ·omega
    ·have q1 := hs j (m - 1) (by omega) (by omega)
     have q2 := hs (m - 1) m (by omega) (by omega)
     omega
   ·cases hb
theorem varsP_nodup (c : QCon) : (varsP c).Nodup := by
 have hp : (sortP (rawVars c)).Pairwise (fun x y => decide (x ≤ y) = true) := List.pairwise_mergeSort (fun a b c h1 h2 => by simp at *; omega) (fun a b => by simp; omega) _
 have q := compactU_lt (d := (sortP (rawVars c)).toArray) (fun i j hij hj => by
  rcases Nat.eq_or_lt_of_le hij with e | e
  ·subst e; exact Int.le_refl _
  ·have hj' : j < (sortP (rawVars c)).length := by simpa using hj
   have r := (List.pairwise_iff_getElem.1 hp) i j (by omega) hj' e
   simp only [decide_eq_true_eq] at r
   rw [getElem!_pos _ i (by simp; omega), getElem!_pos _ j (by simpa using hj)]
   simpa using r) (sortP (rawVars c)).length (by simp)
 unfold varsP Lib.compact
 exact q.imp (fun h e => by omega)
theorem mkK_nodup {V : List QVar} {C : List QCon} {order : Int} {weak : Bool} {budget : Int} (i : Nat) : ((mkK V C order weak budget).cvs.getD i []).Nodup := by
 show ((C.map varsP).getD i []).Nodup
 rw [List.getD_eq_getElem?_getD, List.getElem?_map]
 cases C[i]? with
 | none => exact List.nodup_nil
 | some c => exact varsP_nodup c
end
section
open Go.RowKit
theorem end_one {K : SK} (hK : KOk K) (hb : 1 ≤ K.budget) (hall : ∀ s, EndOf K s → ∀ i, i < s.left.length → oneB (s.left.getD i 0) = true) {x : List Int} (hx : suitsP K.vars K.cons x = true) : (solveS K).nodes = 1 ∧ (solveS K).sols = [x] ∧ (solveS K).ending = 0 := by
 obtain ⟨hc, hS⟩ := end_true hK hx
 have hE := end_of hK hc
 have hf := hall _ hE
 have hn := conc_ns K (beginS K)
 obtain ⟨hs, hF⟩ := begin_ok hK
 have hR := (concS_ok hK hs hF).1
 have hv := (leaf_sol hK ⟨hE.ok, hE.fix, hE.un⟩ hf x).1 hS
 unfold solveS
 simp only []
 rw [if_pos hc]
 generalize concS K (beginS K) = k at *
 have n0 : k.2.nodes = 0 := hn.1
 have s0 : k.2.sols = [] := hn.2
 have e0 : k.2.ending = 0 := hR.ending
 rw [enterF, if_neg (by omega)]
 simp only []
 have hv2 : nextS K { k.2 with nodes := k.2.nodes + 1 } < 0 := by
  rcases Int.lt_or_le (nextS K { k.2 with nodes := k.2.nodes + 1 }) 0 with q | q
  ·exact q
  ·obtain ⟨_, h2⟩ := next_spec K { k.2 with nodes := k.2.nodes + 1 }
   obtain ⟨q1, q2, _⟩ := h2 q
   have q1 : nextS K { k.2 with nodes := k.2.nodes + 1 } < k.2.left.length := q1
   have r := hf (nextS K { k.2 with nodes := k.2.nodes + 1 }).toNat (by omega)
   rw [q2] at r
   cases r
 rw [if_pos hv2]
 unfold tellS
 rw [if_neg (by show k.2.sols.length ≠ 100000; rw [s0]; decide)]
 refine ⟨by show k.2.nodes + 1 = 1; omega, ?_, e0⟩
 show k.2.sols ++ [k.2.vals] = [x]
 rw [s0, hv]
 rfl
theorem draw_wk {K : SK} (hw : K.weak = true) (i : Nat) (s : SS) : (drawS K i s).2 = s := by
 unfold drawS
 simp only []
 split
 ·rfl
 ·first | rfl | rw [if_pos hw]
theorem concF_wk {K : SK} (hw : K.weak = true) : ∀ (n : Nat) (s : SS), (concF K n s).2.left = s.left
 | 0, s => rfl
 | n + 1, s => by
  rw [concF]
  split
  ·rfl
  ·rename_i i _
   simp only []
   split
   ·rw [concF_wk hw n, draw_wk hw]; rfl
   ·show (clearS (drawS K i (unmark i s)).2).left = s.left
    rw [draw_wk hw]; rfl
theorem conc_wk {K : SK} (hw : K.weak = true) (s : SS) : (concS K s).2.left = s.left := concF_wk hw _ s
theorem choose_b1 {K : SK} (hb : K.budget ≤ 1) (v : Int) (n : Nat) : ∀ (xs : List Int) (s : SS), s.nodes = 1 → (chooseF K (enterF K n) v xs s).2.nodes = 1 ∧ (chooseF K (enterF K n) v xs s).2.sols = s.sols
 | [], s, h => ⟨h, rfl⟩
 | x :: xs, s, h => by
  rw [chooseF]
  simp only []
  have hk : NS s (concS K (putS K v (bitV x) s)).2 := (put_ns K v (bitV x) s).trans (conc_ns K _)
  generalize concS K (putS K v (bitV x) s) = k at *
  have n1 : k.2.nodes = 1 := hk.1.trans h
  split
  ·cases n with
   | zero =>
    have e : enterF K 0 k.2 = (true, k.2) := rfl
    rw [e]
    have hb' := back_ns s.trail.length k.2
    obtain ⟨q1, q2⟩ := choose_b1 hb v 0 xs (backS s.trail.length k.2) (hb'.1.trans n1)
    exact ⟨q1, q2.trans (hb'.2.trans hk.2)⟩
   | succ n =>
    have e : enterF K (n + 1) k.2 = (false, { k.2 with ending := 1 }) := by rw [enterF, if_pos (by omega)]
    rw [e]
    exact ⟨n1, hk.2⟩
  ·have hb' := back_ns s.trail.length k.2
   obtain ⟨q1, q2⟩ := choose_b1 hb v n xs (backS s.trail.length k.2) (hb'.1.trans n1)
   exact ⟨q1, q2.trans (hb'.2.trans hk.2)⟩
theorem weak_one {K : SK} (hK : KOk K) (hb : K.budget = 1) (hw : K.weak = true) {i : Nat} (hi : i < K.vars.length) (ho : oneB ((beginS K).left.getD i 0) = false) {x : List Int} (hx : suitsP K.vars K.cons x = true) : (solveS K).nodes = 1 ∧ (solveS K).sols = [] ∧ (solveS K).ending = 1 := by
 obtain ⟨hc, hS⟩ := end_true hK hx
 have hl := conc_wk hw (beginS K)
 have hn := conc_ns K (beginS K)
 have key : (solveS K).nodes = 1 ∧ (solveS K).sols = [] := by
  unfold solveS
  simp only []
  rw [if_pos hc]
  generalize concS K (beginS K) = k at *
  have n0 : k.2.nodes = 0 := hn.1
  have s0 : k.2.sols = [] := hn.2
  rw [enterF, if_neg (by omega)]
  simp only []
  have hv : ¬ nextS K { k.2 with nodes := k.2.nodes + 1 } < 0 := fun q => by
   have r := (next_spec K { k.2 with nodes := k.2.nodes + 1 }).1 q i (by show i < k.2.left.length; rw [hl]; simpa [beginS] using hi)
   have r : oneB (k.2.left.getD i 0) = true := r
   rw [hl, ho] at r
   cases r
  rw [if_neg hv]
  have q := choose_b1 (K := K) (by omega) (nextS K { k.2 with nodes := k.2.nodes + 1 }) (openN k.2) (valsD (SS.L { k.2 with nodes := k.2.nodes + 1 } (nextS K { k.2 with nodes := k.2.nodes + 1 }))) { k.2 with nodes := k.2.nodes + 1 } (by show k.2.nodes + 1 = 1; omega)
  exact ⟨q.1, q.2.trans s0⟩
 have s := solve_ok hK
 rcases s.ends with ⟨e1, e2⟩ | ⟨e1, e2, e3⟩ | ⟨e1, e2, _⟩
 ·have := e2 x hx
  rw [key.2] at this
  cases this
 ·exact ⟨key.1, key.2, e1⟩
 ·rw [key.2] at e2
  cases e2
end
section
open Go.RowKit
set_option maxRecDepth 100000
theorem EndOf.bd {K : SK} {s : SS} (h : EndOf K s) {i : Nat} {v : QVar} (hv : K.vars[i]? = some v) (e : v.low = v.high) : s.left.getD i 0 = bitV v.low := by
 have hi : i < s.left.length := by rw [h.ok.ll]; exact (List.getElem?_eq_some_iff.1 hv).1
 refine one_only (h.ok.ne i hi) (fun j hj => ?_)
 have := h.ok.sub i v hv j hj
 omega
theorem bit_has {D : Nat} {j : Nat} (h : D.testBit j = true) : hasD D ((j : Int) - 1000) = true := by
 unfold hasD
 have : ((j : Int) - 1000 + 1000).toNat = j := by omega
 rw [this]; exact h
theorem bitV_own {x y : Int} (hx : -1000 ≤ x) (hy : -1000 ≤ y) (h : hasD (bitV x) y = true) : y = x := by
 unfold hasD bitV at h
 rw [Nat.testBit_two_pow, decide_eq_true_eq] at h
 omega
end
section
open Go.RowKit
theorem rel_shift {r : Int} (hr : r = 0 ∨ r = 1 ∨ r = 2) (y g n : Int) : relP r (1 * y) (n - (0 + -g)) = relP r y (n + g) ∧ relP r (0 + 1 * y + -g) n = relP r y (n + g) := by
 have e1 : (1 : Int) * y = y := Int.one_mul y
 rw [e1]
 rcases hr with rfl | rfl | rfl
 all_goals
  simp only [relP]
  constructor
  all_goals
   rw [Bool.eq_iff_iff]
   simp
   try omega
theorem EndOf.step {K : SK} (hK : KOk K) {s : SS} (h : EndOf K s) (hw : K.weak = false) {i : Nat} {c : QCon} (hc : K.cons[i]? = some c) (hnd : (K.cvs.getD i []).Nodup) {t : Bool} (hs : (c.sort = 0 ∧ t = true) ∨ (c.sort = 1 ∧ s.fixed c.truth = true ∧ t = decide (s.val c.truth = 1))) {v u f X : Int} (ht : c.terms = [(v, 1), (u, -f)]) (hvu : u ≠ v) (hX1 : -1000 ≤ X) (hX2 : X ≤ 1000) (hu : s.L u = bitV X) {y : Int} (h1 : -1000 ≤ y) (h2 : y ≤ 1000) (hy : hasD (s.L v) y = true) : relP c.rel y (c.num + f * X) = t := by
 have hr := (hK.cons c (List.mem_of_getElem? hc)).rel
 have fu : s.fixed u = true := by unfold SS.fixed; rw [hu]; exact oneB_bit hX1 hX2
 have vu : s.val u = X := by unfold SS.val; rw [hu]; exact oneV_bit hX1 hX2
 cases o : s.fixed v with
 | false =>
  have q := h.sum hK hw hc hnd hr hs (v := v) (by rw [ht]; simp) o (fun x hx hne => by
   rw [ht] at hx
   have : x = v ∨ x = u := by simpa using hx
   rcases this with rfl | rfl
   ·exact absurd rfl hne
   ·exact fu) h1 h2 hy
  have e : splitS s c.terms v = (1, 0 + -(f * X)) := by
   rw [ht]
   unfold splitS
   simp only [List.foldl_cons, List.foldl_nil, if_true, if_neg hvu, vu]
   rw [Int.neg_mul]
   rfl
  rw [e] at q
  rw [← q]
  exact ((rel_shift hr y (f * X) c.num).1).symm
 | true =>
  have raw : ∀ x ∈ rawVars c, s.fixed x = true := fun x hx => by
   unfold rawVars at hx
   have two : ∀ x ∈ c.terms.map (·.1), s.fixed x = true := fun x hx => by
    rw [ht] at hx
    have : x = v ∨ x = u := by simpa using hx
    rcases this with rfl | rfl
    ·exact o
    ·exact fu
   rcases hs with ⟨e, _⟩ | ⟨e, f, _⟩
   ·rw [if_neg (by rw [e]; decide), if_pos e] at hx; exact two x hx
   ·rw [if_pos e] at hx
    rcases List.mem_cons.1 hx with rfl | q
    ·exact f
    ·exact two x q
  have hm : s.marked.getD i true = false := by
   have hi : i < s.marked.length := by rw [h.ok.ml]; exact (List.getElem?_eq_some_iff.1 hc).1
   have q := h.un i
   rw [List.getD_eq_getElem?_getD, List.getElem?_eq_getElem hi] at q ⊢
   exact q
  have q := FixOk.asked hK h.ok h.fix hc hm (fun x hx => raw x ((hK.cv i c hc x).1 hx))
  have hpl := hK.cons c (List.mem_of_getElem? hc)
  have pv : PlOk s.left.length v := by rw [h.ok.ll]; exact (hpl.terms (v, 1) (by rw [ht]; simp)).1
  have pu : PlOk s.left.length u := by rw [h.ok.ll]; exact (hpl.terms (u, -f) (by rw [ht]; simp)).1
  have ev : s.val v = y := by
   have q := one_has (h.ok.lt hK v.toNat) o h1
   rw [show hasD (s.left.getD v.toNat 0) y = true from hy] at q
   have q : y = oneV (s.left.getD v.toNat 0) := by simpa using q.symm
   exact q.symm
  have es : sumP s.vals c.terms = 0 + 1 * y + -(f * X) := by
   rw [ht]
   unfold sumP
   simp only [List.foldl_cons, List.foldl_nil]
   rw [vals_at pv, vals_at pu, ev, vu, Int.neg_mul]
  have fin := (rel_shift hr y (f * X) c.num).2
  rw [← es] at fin
  rw [← fin]
  unfold conP at q
  rcases hs with ⟨e, e2⟩ | ⟨e, f1, e2⟩
  ·rw [if_neg (by rw [e]; decide), if_pos e] at q
   rw [e2]; exact q
  ·rw [if_pos e] at q
   have pt : PlOk s.left.length c.truth := by rw [h.ok.ll]; exact (hpl.truth e).1
   rw [vals_at pt] at q
   rw [e2]
   exact (eq_of_beq q).trans (by rw [Bool.eq_iff_iff]; simp)
theorem or_fix {K : SK} {lits : List (Int × Int)} {s : SS} {p : Int × Int} (h : orS K lits s = (true, s)) (hp : p ∈ lits) (hm : mayS s p = true) (ho : ∀ q ∈ lits, q ≠ p → mayS s q = false) : s.L p.1 = bitV p.2 := by
 have hf : lits.find? (mayS s) = some p := by
  cases e : lits.find? (mayS s) with
  | none => exact absurd hm (List.find?_eq_none.1 e p hp)
  | some q =>
   have q1 := List.find?_some e
   have q2 := List.mem_of_find?_eq_some e
   by_cases c : q = p
   ·rw [c]
   ·rw [ho q q2 c] at q1; cases q1
 unfold orS at h
 simp only [hf, Option.getD_some] at h
 have ha : ¬ (lits.any (fun l => decide (l ≠ p) && mayS s l)) = true := fun e => by
  obtain ⟨q, h1, h2⟩ := List.any_eq_true.1 e
  rw [Bool.and_eq_true, decide_eq_true_eq] at h2
  rw [ho q h1 h2.1] at h2
  exact absurd h2.2 (by decide)
 rw [if_neg ha] at h
 exact (keep_fix h).1.symm
theorem EndOf.or_ {K : SK} (hK : KOk K) {s : SS} (h : EndOf K s) (hw : K.weak = false) {i : Nat} {c : QCon} (hc : K.cons[i]? = some c) (h4 : c.sort = 4) {p : Int × Int} (hp : p ∈ c.lits) (ho : s.fixed p.1 = false) (hm : mayS s p = true) (hn : ∀ q ∈ c.lits, q ≠ p → mayS s q = false) : s.L p.1 = bitV p.2 := by
 obtain ⟨s0, hs0, hl, hd⟩ := h.at_ hc
 have hraw : rawVars c = c.lits.map (·.1) := by unfold rawVars; rw [if_neg (by rw [h4]; decide), if_neg (by rw [h4]; decide), if_neg (by rw [h4]; decide), if_neg (by rw [h4]; decide), if_pos h4]
 have hin : ∀ q ∈ c.lits, s0.L q.1 = s.L q.1 := fun q hq => hl _ ((hK.cv i c hc q.1).2 (by rw [hraw]; exact List.mem_map.2 ⟨q, hq, rfl⟩))
 have hg : K.cons.getD i zeroCon = c := by rw [List.getD_eq_getElem?_getD, hc]; rfl
 have hopen : (openS s0 (K.cvs.getD i [])).2 ≠ 0 := fun e => by
  have q := (open_spec s0 (K.cvs.getD i [])).2.1 e p.1 ((hK.cv i c hc p.1).2 (by rw [hraw]; exact List.mem_map.2 ⟨p, hp, rfl⟩))
  unfold SS.fixed at q ho
  rw [hin p hp, ho] at q
  cases q
 have q := (draw_fix hg hw hopen hd).2.2.1 h4
 have hmay : ∀ q ∈ c.lits, mayS s0 q = mayS s q := fun q hq => by unfold mayS; rw [hin q hq]
 have r := or_fix q hp (by rw [hmay p hp]; exact hm) (fun q hq hne => by rw [hmay q hq]; exact hn q hq hne)
 rw [← hin p hp]; exact r
abbrev DT := Int × Int × Int
def fit (y : Int) : Bool := decide (-90 ≤ y) && decide (y ≤ 90)
def dT (ts : List DT) (k : Nat) : DT := ts.getD k (0, 0, 0)
def dX (x : Int) (ts : List DT) : Nat → Int
 | 0 => x
 | k + 1 => (dT ts k).1 * dX x ts k + (dT ts k).2.1
def dK (x : Int) (ts : List DT) (k : Nat) : Int := if (dT ts k).2.2 = 1 then 1 else if (dT ts k).2.2 = 2 then 2 else if fit (dX x ts (k + 1)) && decide (3 ≤ (dT ts k).2.2) && decide ((dT ts k).2.2 ≤ 5) then (dT ts k).2.2 else 0
def dLo (x : Int) (ts : List DT) (k : Nat) : Int := if dK x ts k = 3 ∨ dK x ts k = 4 then dX x ts (k + 1) else -90
def dHi (x : Int) (ts : List DT) (k : Nat) : Int := if dK x ts k = 3 then dX x ts (k + 1) + 1 else if dK x ts k = 5 then dX x ts (k + 1) else 90
def dW (k : Int) : Int := if k = 0 then 0 else if k = 2 ∨ k = 4 then 1 else 2
def dR (k : Int) : Int := if k = 1 then 1 else if k = 4 ∨ k = 5 then 2 else 0
def dP (k : Int) : Int := if k = 3 then 1 else if k = 5 then -1 else 0
def dCon (x : Int) (ts : List DT) (k : Nat) : QCon := ⟨if dW (dK x ts k) = 0 then 0 else 1, if dW (dK x ts k) = 2 then 1 else 0, [(((k + 3 : Nat) : Int), 1), (((k + 2 : Nat) : Int), -(dT ts k).1)], dR (dK x ts k), (dT ts k).2.1 + dP (dK x ts k), [], 0, 0, [], []⟩
def dOr (m : Nat) : QCon := ⟨4, 0, [], 0, 0, [], 0, 0, [], [(1, 1), (0, 0), (((m + 3 : Nat) : Int), 1), (1, 1)]⟩
def dV0 (nt nf nx : ByteArray) (x : Int) : List QVar := [⟨nt, 1, 1⟩, ⟨nf, 0, 0⟩, ⟨nx, x, x⟩]
def dVs (nm : Nat → ByteArray) (x : Int) (ts : List DT) (m : Nat) : List QVar := (List.range m).map fun k => QVar.mk (nm (k + 1)) (dLo x ts k) (dHi x ts k)
def dV (nt nf nb : ByteArray) (nm : Nat → ByteArray) (x : Int) (ts : List DT) (m : Nat) : List QVar := dV0 nt nf (nm 0) x ++ (dVs nm x ts m ++ [⟨nb, 0, 1⟩])
def dC (x : Int) (ts : List DT) (m : Nat) : List QCon := (List.range m).map (dCon x ts) ++ [dOr m]
theorem dV_len (nt nf nb : ByteArray) (nm : Nat → ByteArray) (x : Int) (ts : List DT) (m : Nat) : (dV nt nf nb nm x ts m).length = m + 4 := by simp [dV, dV0, dVs]
theorem dV_at {nt nf nb : ByteArray} {nm : Nat → ByteArray} {x : Int} {ts : List DT} {m k : Nat} (h : k < m) : (dV nt nf nb nm x ts m)[k + 3]? = some ⟨nm (k + 1), dLo x ts k, dHi x ts k⟩ := by
 unfold dV
 rw [List.getElem?_append_right (by simp [dV0]), List.getElem?_append_left (by simp [dV0, dVs]; exact h)]
 unfold dVs
 rw [show k + 3 - (dV0 nt nf (nm 0) x).length = k from by simp [dV0], List.getElem?_map, List.getElem?_range h]
 rfl
theorem dV_b {nt nf nb : ByteArray} {nm : Nat → ByteArray} {x : Int} {ts : List DT} {m : Nat} : (dV nt nf nb nm x ts m)[m + 3]? = some ⟨nb, 0, 1⟩ := by
 unfold dV
 rw [List.getElem?_append_right (by simp [dV0]), List.getElem?_append_right (by simp [dV0, dVs])]
 have : m + 3 - (dV0 nt nf (nm 0) x).length - (dVs nm x ts m).length = 0 := by simp [dV0, dVs]
 rw [this]
 rfl
theorem dC_at {x : Int} {ts : List DT} {m k : Nat} (h : k < m) : (dC x ts m)[k]? = some (dCon x ts k) := by
 unfold dC
 rw [List.getElem?_append_left (by simpa using h), List.getElem?_map, List.getElem?_range h]
 rfl
theorem dC_or {x : Int} {ts : List DT} {m : Nat} : (dC x ts m)[m]? = some (dOr m) := by
 unfold dC
 rw [List.getElem?_append_right (by simp)]
 simp
theorem fit_bd {y : Int} (h : fit y = true) : -90 ≤ y ∧ y ≤ 90 := by
 unfold fit at h
 rw [Bool.and_eq_true, decide_eq_true_eq, decide_eq_true_eq] at h
 exact h
theorem dK_is (x : Int) (ts : List DT) (k : Nat) : (dK x ts k = 0 ∨ dK x ts k = 1 ∨ dK x ts k = 2 ∨ dK x ts k = 3 ∨ dK x ts k = 4 ∨ dK x ts k = 5) ∧ (fit (dX x ts (k + 1)) = false → dK x ts k = 0 ∨ dK x ts k = 1 ∨ dK x ts k = 2) := by
 unfold dK
 split
 ·exact ⟨.inr (.inl rfl), fun _ => .inr (.inl rfl)⟩
 split
 ·exact ⟨.inr (.inr (.inl rfl)), fun _ => .inr (.inr rfl)⟩
 split
 ·rename_i h
  simp only [Bool.and_eq_true, decide_eq_true_eq] at h
  refine ⟨by omega, fun q => ?_⟩
  rw [q] at h
  exact absurd h.1.1 (by decide)
 ·exact ⟨.inl rfl, fun _ => .inl rfl⟩
section
variable {nt nf nb : ByteArray} {nm : Nat → ByteArray} {x : Int} {ts : List DT} {m : Nat} {order budget : Int} {s : SS}
theorem d_next (hK : KOk (mkK (dV nt nf nb nm x ts m) (dC x ts m) order false budget)) (h : EndOf (mkK (dV nt nf nb nm x ts m) (dC x ts m) order false budget) s) {k : Nat} (hk : k < m) (hf : fit (dX x ts k) = true) (hl : s.left.getD (k + 2) 0 = bitV (dX x ts k)) {j : Nat} (hj : (s.left.getD (k + 3) 0).testBit j = true) : (j : Int) - 1000 = dX x ts (k + 1) ∧ dLo x ts k ≤ (j : Int) - 1000 ∧ (j : Int) - 1000 ≤ dHi x ts k := by
 have f0 := fit_bd hf
 have b : dLo x ts k + 1000 ≤ (j : Int) ∧ (j : Int) ≤ dHi x ts k + 1000 := h.ok.sub (k + 3) _ (dV_at hk) j hj
 have bK : -1000 ≤ dLo x ts k ∧ dLo x ts k ≤ dHi x ts k ∧ dHi x ts k ≤ 1000 := hK.vars _ (List.mem_of_getElem? (dV_at hk))
 have e0 : s.left.getD 0 0 = bitV 1 := h.bd (i := 0) (v := ⟨nt, 1, 1⟩) rfl rfl
 have e1 : s.left.getD 1 0 = bitV 0 := h.bd (i := 1) (v := ⟨nf, 0, 0⟩) rfl rfl
 have hs : ((dCon x ts k).sort = 0 ∧ (!decide (dW (dK x ts k) = 2)) = true) ∨ ((dCon x ts k).sort = 1 ∧ s.fixed (dCon x ts k).truth = true ∧ (!decide (dW (dK x ts k) = 2)) = decide (s.val (dCon x ts k).truth = 1)) := by
  by_cases c : dW (dK x ts k) = 0
  ·refine .inl ⟨by simp [dCon, c], by rw [c]; rfl⟩
  ·refine .inr ⟨by simp [dCon, c], ?_⟩
   by_cases c2 : dW (dK x ts k) = 2
   ·have et : (dCon x ts k).truth = 1 := by simp [dCon, c2]
    rw [et]
    refine ⟨by unfold SS.fixed SS.L; show oneB (s.left.getD 1 0) = true; rw [e1]; exact oneB_bit (by omega) (by omega), ?_⟩
    have : s.val 1 = 0 := by unfold SS.val SS.L; show oneV (s.left.getD 1 0) = 0; rw [e1]; exact oneV_bit (by omega) (by omega)
    rw [this, c2]; rfl
   ·have et : (dCon x ts k).truth = 0 := by simp [dCon, c2]
    rw [et]
    refine ⟨by unfold SS.fixed SS.L; show oneB (s.left.getD 0 0) = true; rw [e0]; exact oneB_bit (by omega) (by omega), ?_⟩
    have : s.val 0 = 1 := by unfold SS.val SS.L; show oneV (s.left.getD 0 0) = 1; rw [e0]; exact oneV_bit (by omega) (by omega)
    rw [this]; simp [c2]
 have q := h.step hK rfl (i := k) (c := dCon x ts k) (dC_at hk) (mkK_nodup k) hs (v := ((k + 3 : Nat) : Int)) (u := ((k + 2 : Nat) : Int)) (f := (dT ts k).1) (X := dX x ts k) rfl (by omega) (by omega) (by omega) (by show s.left.getD ((k + 2 : Nat) : Int).toNat 0 = _; rw [Int.toNat_natCast]; exact hl) (y := (j : Int) - 1000) (by omega) (by omega) (by show hasD (s.left.getD ((k + 3 : Nat) : Int).toNat 0) _ = _; rw [Int.toNat_natCast]; exact bit_has hj)
 have q : relP (dR (dK x ts k)) ((j : Int) - 1000) ((dT ts k).2.1 + dP (dK x ts k) + (dT ts k).1 * dX x ts k) = !decide (dW (dK x ts k) = 2) := q
 have eX : dX x ts (k + 1) = (dT ts k).1 * dX x ts k + (dT ts k).2.1 := rfl
 refine ⟨?_, by omega, by omega⟩
 rw [eX]
 generalize (dT ts k).1 * dX x ts k = G at *
 generalize (dT ts k).2.1 = d at *
 generalize hy : (j : Int) - 1000 = y at *
 have bl : dLo x ts k ≤ y := by omega
 have bh : y ≤ dHi x ts k := by omega
 have KI := (dK_is x ts k).1
 unfold dLo at bl
 unfold dHi at bh
 rw [eX] at bl bh
 generalize dK x ts k = kd at *
 rcases KI with rfl | rfl | rfl | rfl | rfl | rfl
 all_goals
  simp [relP, dR, dP, dW] at q bl bh
  omega
theorem d_chain (hK : KOk (mkK (dV nt nf nb nm x ts m) (dC x ts m) order false budget)) (h : EndOf (mkK (dV nt nf nb nm x ts m) (dC x ts m) order false budget) s) (hx : fit x = true) : ∀ k, k ≤ m → (∀ j, 1 ≤ j → j ≤ k → fit (dX x ts j) = true) → s.left.getD (k + 2) 0 = bitV (dX x ts k)
 | 0, _, _ => h.bd (i := 2) (v := ⟨nm 0, x, x⟩) rfl rfl
 | k + 1, hk, hf => by
  have ih := d_chain hK h hx k (by omega) (fun j h1 h2 => hf j h1 (by omega))
  have fk : fit (dX x ts k) = true := by
   cases k with
   | zero => exact hx
   | succ k => exact hf (k + 1) (by omega) (by omega)
  have hll : s.left.length = m + 4 := h.ok.ll.trans (dV_len nt nf nb nm x ts m)
  refine one_only (h.ok.ne (k + 3) (by omega)) (fun j hj => ?_)
  have := (d_next hK h (by omega) fk ih hj).1
  omega
theorem d_all (hK : KOk (mkK (dV nt nf nb nm x ts m) (dC x ts m) order false budget)) (hx : fit x = true) (hf : ∀ j, 1 ≤ j → j ≤ m → fit (dX x ts j) = true) (h : EndOf (mkK (dV nt nf nb nm x ts m) (dC x ts m) order false budget) s) : ∀ i, i < s.left.length → oneB (s.left.getD i 0) = true := by
 have hll : s.left.length = m + 4 := h.ok.ll.trans (dV_len nt nf nb nm x ts m)
 have e0 : s.left.getD 0 0 = bitV 1 := h.bd (i := 0) (v := ⟨nt, 1, 1⟩) rfl rfl
 have e1 : s.left.getD 1 0 = bitV 0 := h.bd (i := 1) (v := ⟨nf, 0, 0⟩) rfl rfl
 intro i hi
 by_cases c : i ≤ m + 2
 ·have : i = 0 ∨ i = 1 ∨ 2 ≤ i := by omega
  rcases this with rfl | rfl | q
  ·rw [e0]; exact oneB_bit (by omega) (by omega)
  ·rw [e1]; exact oneB_bit (by omega) (by omega)
  ·have r := d_chain hK h hx (i - 2) (by omega) (fun j h1 h2 => hf j h1 (by omega))
   rw [show i - 2 + 2 = i from by omega] at r
   have fb : fit (dX x ts (i - 2)) = true := by
    cases e : i - 2 with
    | zero => exact hx
    | succ k => exact hf (k + 1) (by omega) (by omega)
   have := fit_bd fb
   rw [r]; exact oneB_bit (by omega) (by omega)
 ·obtain rfl : i = m + 3 := by omega
  cases o : oneB (s.left.getD (m + 3) 0) with
  | true => rfl
  | false =>
   have no1 : mayS s (1, 1) = false := by
    show hasD (s.left.getD 1 0) 1 = false
    rw [e1]
    cases q : hasD (bitV 0) 1 with
    | false => rfl
    | true => have := bitV_own (by omega) (by omega) q; omega
   have no0 : mayS s (0, 0) = false := by
    show hasD (s.left.getD 0 0) 0 = false
    rw [e0]
    cases q : hasD (bitV 1) 0 with
    | false => rfl
    | true => have := bitV_own (by omega) (by omega) q; omega
   have bj : ∀ j : Nat, (s.left.getD (m + 3) 0).testBit j = true → j = 1000 ∨ j = 1001 := fun j hj => by
    have := h.ok.sub (m + 3) _ dV_b j hj
    have : (0 : Int) + 1000 ≤ (j : Int) ∧ (j : Int) ≤ 1 + 1000 := this
    omega
   have yes : mayS s (((m + 3 : Nat) : Int), 1) = true := by
    show hasD (s.left.getD ((m + 3 : Nat) : Int).toNat 0) 1 = true
    rw [Int.toNat_natCast]
    cases q : hasD (s.left.getD (m + 3) 0) 1 with
    | true => rfl
    | false =>
     have e : s.left.getD (m + 3) 0 = bitV 0 := one_only (h.ok.ne (m + 3) hi) (fun j hj => by
      rcases bj j hj with rfl | rfl
      ·rfl
      ·have q : (s.left.getD (m + 3) 0).testBit 1001 = false := q
       rw [q] at hj; cases hj)
     rw [e, oneB_bit (by omega) (by omega)] at o
     cases o
   have r := h.or_ hK rfl (i := m) (c := dOr m) dC_or rfl (p := (((m + 3 : Nat) : Int), 1)) (by simp [dOr]) (by show oneB (s.left.getD ((m + 3 : Nat) : Int).toNat 0) = false; rw [Int.toNat_natCast]; exact o) yes (fun q hq hne => by
    have : q = (1, 1) ∨ q = (0, 0) ∨ q = (((m + 3 : Nat) : Int), 1) ∨ q = (1, 1) := by simpa [dOr] using hq
    rcases this with rfl | rfl | rfl | rfl
    ·exact no1
    ·exact no0
    ·exact absurd rfl hne
    ·exact no1)
   have r : s.left.getD ((m + 3 : Nat) : Int).toNat 0 = bitV 1 := r
   rw [Int.toNat_natCast] at r
   rw [r, oneB_bit (by omega) (by omega)] at o
   cases o
theorem d_out (hK : KOk (mkK (dV nt nf nb nm x ts (m + 1)) (dC x ts (m + 1)) order false budget)) (hx : fit x = true) (hf : ∀ j, 1 ≤ j → j ≤ m → fit (dX x ts j) = true) (ho : fit (dX x ts (m + 1)) = false) (h : EndOf (mkK (dV nt nf nb nm x ts (m + 1)) (dC x ts (m + 1)) order false budget) s) : False := by
 have hll : s.left.length = m + 1 + 4 := h.ok.ll.trans (dV_len nt nf nb nm x ts (m + 1))
 have r := d_chain hK h hx m (by omega) hf
 have fm : fit (dX x ts m) = true := by
  cases m with
  | zero => exact hx
  | succ k => exact hf (k + 1) (by omega) (by omega)
 obtain ⟨j, hj⟩ := Nat.exists_testBit_of_ne_zero (h.ok.ne (m + 3) (by omega))
 obtain ⟨q1, q2, q3⟩ := d_next hK h (by omega) fm r hj
 have KI := (dK_is x ts m).2 ho
 have bl : dLo x ts m = -90 := by unfold dLo; rw [if_neg (by omega)]
 have bh : dHi x ts m = 90 := by unfold dHi; rw [if_neg (by omega), if_neg (by omega)]
 have : fit (dX x ts (m + 1)) = true := by
  unfold fit
  rw [Bool.and_eq_true, decide_eq_true_eq, decide_eq_true_eq]
  omega
 rw [this] at ho
 cases ho
end
theorem end_void {K : SK} (hK : KOk K) (hall : ∀ s, EndOf K s → False) : (solveS K).nodes = 0 ∧ (solveS K).sols = [] ∧ (solveS K).ending = 0 := by
 have hc : ¬ (concS K (beginS K)).1 = true := fun hc => hall _ (end_of hK hc)
 obtain ⟨hs, hF⟩ := begin_ok hK
 have hR := (concS_ok hK hs hF).1
 refine ⟨(solve_none hc).1, (solve_none hc).2, ?_⟩
 unfold solveS
 simp only []
 rw [if_neg hc]
 exact hR.ending
end
section
open Go.RowKit
def dRow (x : Int) (ts : List DT) (m : Nat) : List Int := [1, 0] ++ ((List.range (m + 1)).map (dX x ts) ++ [1])
theorem dRow_is (x : Int) (ts : List DT) (m : Nat) : dRow x ts m = 1 :: 0 :: x :: ((List.range m).map (fun k => dX x ts (k + 1)) ++ [1]) := by
 unfold dRow
 rw [List.range_succ_eq_map]
 simp [dX, Function.comp_def]
theorem dRow_at {x : Int} {ts : List DT} {m k : Nat} (h : k ≤ m) : vAt (dRow x ts m) ((k + 2 : Nat) : Int) = dX x ts k := by
 unfold vAt dRow
 rw [Int.toNat_natCast, List.getD_eq_getElem?_getD, List.getElem?_append_right (by simp)]
 rw [List.getElem?_append_left (by simp; omega), List.getElem?_map, show k + 2 - [(1 : Int), 0].length = k from by simp, List.getElem?_range (by omega)]
 rfl
theorem dRow_b {x : Int} {ts : List DT} {m : Nat} : vAt (dRow x ts m) ((m + 3 : Nat) : Int) = 1 := by
 unfold vAt dRow
 rw [Int.toNat_natCast, List.getD_eq_getElem?_getD, List.getElem?_append_right (by simp), List.getElem?_append_right (by simp)]
 simp
theorem asg_map {g : Nat → QVar} {h : Nat → Int} {v : QVar} {y : Int} (hv : inP v y = true) : ∀ l : List Nat, (∀ k ∈ l, inP (g k) (h k) = true) → asgF (l.map g ++ [v]) (l.map h ++ [y]) = true
 | [], _ => by simp [asgF, hv]
 | k :: l, hk => by
  show (inP (g k) (h k) && asgF (l.map g ++ [v]) (l.map h ++ [y])) = true
  rw [hk k (by simp), asg_map hv l (fun j hj => hk j (by simp [hj]))]
  rfl
theorem d_bds {x : Int} {ts : List DT} {k : Nat} : -90 ≤ dLo x ts k ∧ dLo x ts k ≤ dHi x ts k ∧ dHi x ts k ≤ 91 := by
 obtain ⟨K1, K2⟩ := dK_is x ts k
 have fb : dK x ts k = 3 ∨ dK x ts k = 4 ∨ dK x ts k = 5 → -90 ≤ dX x ts (k + 1) ∧ dX x ts (k + 1) ≤ 90 := fun q => by
  cases e : fit (dX x ts (k + 1)) with
  | true => exact fit_bd e
  | false => have := K2 e; omega
 unfold dLo dHi
 generalize dK x ts k = kd at *
 rcases K1 with rfl | rfl | rfl | rfl | rfl | rfl
 all_goals
  simp at fb ⊢
  try omega
theorem d_in {x : Int} {ts : List DT} {k : Nat} (hf : fit (dX x ts (k + 1)) = true) : dLo x ts k ≤ dX x ts (k + 1) ∧ dX x ts (k + 1) ≤ dHi x ts k := by
 have K1 := (dK_is x ts k).1
 have fb := fit_bd hf
 unfold dLo dHi
 generalize dK x ts k = kd at *
 rcases K1 with rfl | rfl | rfl | rfl | rfl | rfl
 all_goals
  simp
  try omega
theorem d_suits {nt nf nb : ByteArray} {nm : Nat → ByteArray} {x : Int} {ts : List DT} {m : Nat} (hf : ∀ j, 1 ≤ j → j ≤ m → fit (dX x ts j) = true) : suitsP (dV nt nf nb nm x ts m) (dC x ts m) (dRow x ts m) = true := by
 unfold suitsP
 rw [Bool.and_eq_true]
 constructor
 ·rw [dRow_is]
  show (inP ⟨nt, 1, 1⟩ 1 && (inP ⟨nf, 0, 0⟩ 0 && (inP ⟨nm 0, x, x⟩ x && asgF (dVs nm x ts m ++ [⟨nb, 0, 1⟩]) ((List.range m).map (fun k => dX x ts (k + 1)) ++ [1])))) = true
  have e : asgF (dVs nm x ts m ++ [⟨nb, 0, 1⟩]) ((List.range m).map (fun k => dX x ts (k + 1)) ++ [1]) = true := asg_map rfl _ (fun k hk => by
   have := d_in (hf (k + 1) (by omega) (by have := List.mem_range.1 hk; omega))
   simp [inP, this])
  rw [e]
  simp [inP]
 ·rw [List.all_eq_true]
  intro c hc
  rcases List.mem_append.1 hc with q | q
  ·obtain ⟨k, hk, rfl⟩ := List.mem_map.1 q
   have hk := List.mem_range.1 hk
   have a1 := dRow_at (x := x) (ts := ts) (m := m) (k := k + 1) (by omega)
   have a0 := dRow_at (x := x) (ts := ts) (m := m) (k := k) (by omega)
   have eX : dX x ts (k + 1) = (dT ts k).1 * dX x ts k + (dT ts k).2.1 := rfl
   have es : sumP (dRow x ts m) (dCon x ts k).terms = (dT ts k).2.1 := by
    show sumP (dRow x ts m) [(((k + 3 : Nat) : Int), 1), (((k + 2 : Nat) : Int), -(dT ts k).1)] = _
    unfold sumP
    simp only [List.foldl_cons, List.foldl_nil]
    rw [show ((k + 3 : Nat) : Int) = ((k + 1 + 2 : Nat) : Int) from rfl, a1, a0, eX, Int.neg_mul]
    omega
   have t0 : vAt (dRow x ts m) 0 = 1 := rfl
   have t1 : vAt (dRow x ts m) 1 = 0 := rfl
   have K1 := (dK_is x ts k).1
   unfold conP
   rw [es]
   show (if (if dW (dK x ts k) = 0 then (0 : Int) else 1) = 1 then relP (dR (dK x ts k)) (dT ts k).2.1 ((dT ts k).2.1 + dP (dK x ts k)) == (vAt (dRow x ts m) (if dW (dK x ts k) = 2 then 1 else 0) == 1) else if (if dW (dK x ts k) = 0 then (0 : Int) else 1) = 0 then relP (dR (dK x ts k)) (dT ts k).2.1 ((dT ts k).2.1 + dP (dK x ts k)) else _) = true
   generalize (dT ts k).2.1 = d
   generalize dK x ts k = kd at *
   rcases K1 with rfl | rfl | rfl | rfl | rfl | rfl
   all_goals
    simp [dW, dR, dP, relP, t0, t1]
    try omega
  ·obtain rfl : c = dOr m := by simpa using q
   show litP (dRow x ts m) [(1, 1), (0, 0), (((m + 3 : Nat) : Int), 1), (1, 1)] = true
   unfold litP
   rw [List.any_eq_true]
   exact ⟨(((m + 3 : Nat) : Int), 1), by simp, by rw [dRow_b]; rfl⟩
theorem two_open : oneB (rngD 0 1) = false := by
 cases e : oneB (rngD 0 1) with
 | false => rfl
 | true =>
  have b := rngD_bit 0 1 (by omega)
  have lt : rngD 0 1 < 2 ^ 2001 := lt_of_bits (k := 2001) fun j hj => by rw [b] at hj; simp at hj; omega
  have h0 : hasD (rngD 0 1) 0 = true := by unfold hasD; rw [b]; rfl
  have h1 : hasD (rngD 0 1) 1 = true := by unfold hasD; rw [b]; rfl
  have q0 := one_has lt e (v := 0) (by omega)
  have q1 := one_has lt e (v := 1) (by omega)
  rw [h0] at q0
  rw [h1] at q1
  have q0 : (0 : Int) = oneV (rngD 0 1) := by simpa using q0.symm
  have q1 : (1 : Int) = oneV (rngD 0 1) := by simpa using q1.symm
  omega
theorem d_fits {nt nf nb : ByteArray} {nm : Nat → ByteArray} {x : Int} {ts : List DT} {m : Nat} {order : Int} (hK : ∀ weak budget, KOk (mkK (dV nt nf nb nm x ts m) (dC x ts m) order weak budget)) (hx : fit x = true) (hf : ∀ j, 1 ≤ j → j ≤ m → fit (dX x ts j) = true) : ((solveS (mkK (dV nt nf nb nm x ts m) (dC x ts m) order false 1000000)).nodes = 1 ∧ (solveS (mkK (dV nt nf nb nm x ts m) (dC x ts m) order false 1000000)).sols = [dRow x ts m] ∧ (solveS (mkK (dV nt nf nb nm x ts m) (dC x ts m) order false 1000000)).ending = 0) ∧ (solveS (mkK (dV nt nf nb nm x ts m) (dC x ts m) order true 1)).nodes = 1 ∧ (solveS (mkK (dV nt nf nb nm x ts m) (dC x ts m) order true 1)).sols = [] ∧ (solveS (mkK (dV nt nf nb nm x ts m) (dC x ts m) order true 1)).ending = 1 := by
 have hs := d_suits (nt := nt) (nf := nf) (nb := nb) (nm := nm) hf
 have A := end_one (K := mkK (dV nt nf nb nm x ts m) (dC x ts m) order false 1000000) (hK false 1000000) (by show (1 : Int) ≤ 1000000; decide) (fun s h => d_all (hK false 1000000) hx hf h) (x := dRow x ts m) hs
 refine ⟨A, weak_one (K := mkK (dV nt nf nb nm x ts m) (dC x ts m) order true 1) (hK true 1) rfl rfl (i := m + 3) ?_ ?_ (x := dRow x ts m) hs⟩
 ·show m + 3 < (dV nt nf nb nm x ts m).length
  rw [dV_len]; omega
 ·show oneB (((dV nt nf nb nm x ts m).map fun v => rngD v.low v.high).getD (m + 3) 0) = false
  rw [List.getD_eq_getElem?_getD, List.getElem?_map, dV_b, Option.map_some, Option.getD_some]
  exact two_open
end
section
open Go.RowKit
def dRn (k : Int) : Nat := if k = 1 then 1 else if k = 4 ∨ k = 5 then 2 else 0
theorem dRn_is (k : Int) : relI (dRn k) = dR k := by
 unfold dRn dR
 split
 ·rfl
 split
 ·rfl
 ·rfl
def dWn (k : Int) : List UInt8 := if dW k = 2 then [102] else [116]
def dT1 (k : Nat) : AT := ⟨false, some 1, nmK (k + 1)⟩
def dT2 (ts : List DT) (k : Nat) : AT := ⟨true, some (dT ts k).1, nmK k⟩
def dS (x : Int) (ts : List DT) (k : Nat) : AS := if dW (dK x ts k) = 0 then .lin (dT1 k) [dT2 ts k] (dRn (dK x ts k)) ((dT ts k).2.1 + dP (dK x ts k)) else .when (dWn (dK x ts k)) (dT1 k) [dT2 ts k] (dRn (dK x ts k)) ((dT ts k).2.1 + dP (dK x ts k))
def dStA (x : Int) (ts : List DT) : Nat → List (AS × List Pc)
 | 0 => []
 | k + 1 => dStA x ts k ++ [(.var (nmK (k + 1)) (dLo x ts k) (dHi x ts k), [.nl]), (dS x ts k, [.nl])]
def dA0 (x : Int) : List (AS × List Pc) := [(.var [116] 1 1, [.sp]), (.var [102] 0 0, [.sp]), (.var (nmK 0) x x, [.nl])]
def dA9 : List (AS × List Pc) := [(.var [98] 0 1, [.sp]), (.or (true, [102]) [(false, [116]), (true, [98]), (true, [102])], [])]
def dA (x : Int) (ts : List DT) (m : Nat) : List (AS × List Pc) := dA0 x ++ (dStA x ts m ++ dA9)
def dSumB (ts : List DT) (k : Nat) : List UInt8 := [49, 32, 42, 32] ++ (nmK (k + 1) ++ ([32, 45, 32] ++ (Lib.itoa (dT ts k).1 ++ ([32, 42, 32] ++ nmK k))))
def dHead (k : Int) : List UInt8 := if dW k = 0 then [108, 105, 110, 32] else if dW k = 2 then [119, 104, 101, 110, 32, 102, 58, 32] else [119, 104, 101, 110, 32, 116, 58, 32]
def dRelB (k : Int) : List UInt8 := if k = 1 then [32, 33, 61, 32] else if k = 4 ∨ k = 5 then [32, 60, 61, 32] else [32, 61, 32]
def dRuleB (x : Int) (ts : List DT) (k : Nat) : List UInt8 := dHead (dK x ts k) ++ (dSumB ts k ++ (dRelB (dK x ts k) ++ (Lib.itoa ((dT ts k).2.1 + dP (dK x ts k)) ++ [59, 10])))
def dB0 (x : Int) : List UInt8 := [118, 97, 114, 32, 116, 58, 32, 49, 46, 46, 49, 59, 32, 118, 97, 114, 32, 102, 58, 32, 48, 46, 46, 48, 59, 32, 118, 97, 114, 32, 120, 48, 58, 32] ++ (Lib.itoa x ++ ([46, 46] ++ (Lib.itoa x ++ [59, 10])))
def dStB (x : Int) (ts : List DT) : Nat → List UInt8
 | 0 => dB0 x
 | k + 1 => dStB x ts k ++ (varB (k + 1) (dLo x ts k) (dHi x ts k) ++ dRuleB x ts k)
def dB9 : List UInt8 := [118, 97, 114, 32, 98, 58, 32, 48, 46, 46, 49, 59, 32, 111, 114, 32, 102, 44, 32, 33, 116, 44, 32, 98, 44, 32, 102, 59]
def dB (x : Int) (ts : List DT) (m : Nat) : List UInt8 := dStB x ts m ++ dB9
theorem i0 : Lib.itoa 0 = [48] := itoa_dig (k := 0) (by decide)
theorem i1 : Lib.itoa 1 = [49] := itoa_dig (k := 1) (by decide)
theorem dS_src (x : Int) (ts : List DT) (k : Nat) : srcA [(dS x ts k, [.nl])] = dRuleB x ts k := by
 rw [srcA_one]
 have K1 := (dK_is x ts k).1
 unfold dS dRuleB dHead dRelB dSumB dRn dWn dT1 dT2
 generalize dK x ts k = kd at *
 rcases K1 with rfl | rfl | rfl | rfl | rfl | rfl
 all_goals
  simp [dW, dP, AS.pcs, linPc, AT.body, sumPc, relB, bytesP, Pc.bytes, i1]
theorem dA0_src (x : Int) : srcA (dA0 x) = dB0 x := by
 unfold dA0 dB0
 rw [srcA_cons, srcA_one, srcA_cons, srcA_one, srcA_one]
 simp [AS.pcs, bytesP, Pc.bytes, i0, i1, nmK]
theorem dA9_src : srcA dA9 = dB9 := by
 unfold dA9 dB9
 rw [srcA_cons, srcA_one, srcA_one]
 simp [AS.pcs, bytesP, Pc.bytes, i0, i1, serPc, litPc]
theorem dStA_src (x : Int) (ts : List DT) : ∀ m : Nat, srcA (dA0 x ++ dStA x ts m) = dStB x ts m
 | 0 => by
  show srcA (dA0 x ++ []) = dB0 x
  rw [List.append_nil]; exact dA0_src x
 | k + 1 => by
  show srcA (dA0 x ++ (dStA x ts k ++ [(.var (nmK (k + 1)) (dLo x ts k) (dHi x ts k), [.nl]), (dS x ts k, [.nl])])) = dStB x ts k ++ (varB (k + 1) (dLo x ts k) (dHi x ts k) ++ dRuleB x ts k)
  rw [← List.append_assoc, srcA_app, dStA_src x ts k, srcA_cons, srcA_one, dS_src]
  congr 2
  simp [bytesP, AS.pcs, Pc.bytes, varB]
theorem dA_src (x : Int) (ts : List DT) (m : Nat) : srcA (dA x ts m) = dB x ts m := by
 unfold dA dB
 rw [← List.append_assoc, srcA_app, dStA_src, dA9_src]
def tsOk (ts : List DT) : Prop := ∀ k, -3 ≤ (dT ts k).1 ∧ (dT ts k).1 ≤ 3 ∧ -20 ≤ (dT ts k).2.1 ∧ (dT ts k).2.1 ≤ 20
theorem dP_bd (k : Int) : -1 ≤ dP k ∧ dP k ≤ 1 := by
 unfold dP
 split
 ·omega
 split <;> omega
theorem dRuleB_len {x : Int} {ts : List DT} {k : Nat} (h : tsOk ts) (hk : k ≤ 10) : (dRuleB x ts k).length ≤ 100 := by
 have := h k
 have := dP_bd (dK x ts k)
 have a := itoa_len (m := (dT ts k).1) (by omega) (by omega)
 have b := itoa_len (m := (dT ts k).2.1 + dP (dK x ts k)) (by omega) (by omega)
 have c := nmK_len (k := k) (by omega)
 have d := nmK_len (k := k + 1) (by omega)
 have e : (dHead (dK x ts k)).length ≤ 8 := by unfold dHead; split <;> (try split) <;> decide
 have f : (dRelB (dK x ts k)).length ≤ 4 := by unfold dRelB; split <;> (try split) <;> decide
 simp [dRuleB, dSumB]; omega
theorem dStB_len {x : Int} {ts : List DT} (h : tsOk ts) (h1 : -90 ≤ x) (h2 : x ≤ 90) : ∀ {k : Nat}, k ≤ 8 → (dStB x ts k).length ≤ 66 + 160 * k
 | 0, _ => by
  have a := itoa_len (m := x) (by omega) (by omega)
  simp [dStB, dB0]; omega
 | k + 1, hk => by
  have ih := dStB_len h h1 h2 (k := k) (by omega)
  have := d_bds (x := x) (ts := ts) (k := k)
  have a := varB_len (k := k + 1) (lo := dLo x ts k) (hi := dHi x ts k) (by omega) (itoa_len (by omega) (by omega)) (itoa_len (by omega) (by omega))
  have b := dRuleB_len (x := x) (k := k) h (by omega)
  simp only [dStB, List.length_append]
  omega
theorem dB_len {x : Int} {ts : List DT} {m : Nat} (h : tsOk ts) (h1 : -90 ≤ x) (h2 : x ≤ 90) (hm : m ≤ 4) : (dB x ts m).length ≤ 800 := by
 have := dStB_len h h1 h2 (k := m) (by omega)
 simp [dB, dB9]; omega
def DN (x : Int) (ts : List DT) : Nat → List (List UInt8 × Int × Int)
 | 0 => [([116], 1, 1), ([102], 0, 0)] ++ [(nmK 0, x, x)]
 | k + 1 => DN x ts k ++ [(nmK (k + 1), dLo x ts k, dHi x ts k)]
theorem DN_len (x : Int) (ts : List DT) : ∀ m : Nat, (DN x ts m).length = m + 3
 | 0 => rfl
 | k + 1 => by simp [DN, DN_len x ts k]
theorem DN_mem {x : Int} {ts : List DT} {p : List UInt8 × Int × Int} : ∀ {m : Nat}, p ∈ DN x ts m → p = ([116], 1, 1) ∨ p = ([102], 0, 0) ∨ ∃ k, k ≤ m ∧ p.1 = nmK k
 | 0, h => by
  have : p = ([116], 1, 1) ∨ p = ([102], 0, 0) ∨ p = (nmK 0, x, x) := by simpa [DN] using h
  rcases this with q | q | q
  ·exact .inl q
  ·exact .inr (.inl q)
  ·exact .inr (.inr ⟨0, Nat.le_refl _, by rw [q]⟩)
 | m + 1, h => by
  rcases List.mem_append.1 h with q | q
  ·rcases DN_mem q with a | a | ⟨k, a, b⟩
   ·exact .inl a
   ·exact .inr (.inl a)
   ·exact .inr (.inr ⟨k, by omega, b⟩)
  ·obtain rfl : p = (nmK (m + 1), dLo x ts m, dHi x ts m) := by simpa using q
   exact .inr (.inr ⟨m + 1, Nat.le_refl _, rfl⟩)
theorem DN_in {x : Int} {ts : List DT} {k : Nat} : ∀ {m : Nat}, k ≤ m → ∃ p ∈ DN x ts m, p.1 = nmK k
 | 0, h => by
  obtain rfl : k = 0 := by omega
  exact ⟨(nmK 0, x, x), by simp [DN], rfl⟩
 | m + 1, h => by
  by_cases e : k = m + 1
  ·subst e; exact ⟨_, List.mem_append_right _ (List.mem_singleton.2 rfl), rfl⟩
  ·obtain ⟨p, hp, e⟩ := DN_in (m := m) (k := k) (by omega)
   exact ⟨p, List.mem_append_left _ hp, e⟩
theorem DN_tf (x : Int) (ts : List DT) : ∀ m : Nat, ([116], 1, 1) ∈ DN x ts m ∧ ([102], 0, 0) ∈ DN x ts m
 | 0 => by simp [DN]
 | m + 1 => ⟨List.mem_append_left _ (DN_tf x ts m).1, List.mem_append_left _ (DN_tf x ts m).2⟩
theorem nmK_ne (k : Nat) (c : UInt8) (hc : c ≠ 120) : nmK k ≠ [c] := fun e => by
 unfold nmK at e
 injection e with e _
 exact hc e.symm
theorem DN_new {x : Int} {ts : List DT} {m : Nat} {n : List UInt8} (h1 : n ≠ [116]) (h2 : n ≠ [102]) (h3 : ∀ k, k ≤ m → nmK k ≠ n) : ∀ p ∈ DN x ts m, p.1 ≠ n := fun p hp e => by
 rcases DN_mem hp with rfl | rfl | ⟨k, a, b⟩
 ·exact h1 e.symm
 ·exact h2 e.symm
 ·exact h3 k a (b.symm.trans e)
theorem DN_ix {x : Int} {ts : List DT} {L : List (List UInt8 × List Int)} {C : List QCon} : ∀ {m k : Nat}, k ≤ m → (Env.mk (DN x ts m) L C).ix (nmK k) = k + 2
 | 0, k, h => by
  obtain rfl : k = 0 := by omega
  have q := ix_new (E := Env.mk [([116], 1, 1), ([102], 0, 0)] L C) (n := nmK 0) (fun p hp e => by
   have : p = ([116], 1, 1) ∨ p = ([102], 0, 0) := by simpa using hp
   rcases this with rfl | rfl
   ·exact nmK_ne 0 116 (by decide) e.symm
   ·exact nmK_ne 0 102 (by decide) e.symm) x x L C
  exact q
 | m + 1, k, h => by
  by_cases e : k = m + 1
  ·subst e
   have q := ix_new (E := Env.mk (DN x ts m) L C) (n := nmK (m + 1)) (DN_new (nmK_ne _ _ (by decide)) (nmK_ne _ _ (by decide)) (fun k hk e => by have := nmK_inj e; omega)) (dLo x ts m) (dHi x ts m) L C
   show (Env.mk (DN x ts m ++ [(nmK (m + 1), dLo x ts m, dHi x ts m)]) L C).ix (nmK (m + 1)) = _
   rw [q]
   show (DN x ts m).length = _
   rw [DN_len]
  ·have q := ix_old (E := Env.mk (DN x ts m) L C) (n := nmK k) (DN_in (by omega)) (nmK (m + 1), dLo x ts m, dHi x ts m) L C
   show (Env.mk (DN x ts m ++ [(nmK (m + 1), dLo x ts m, dHi x ts m)]) L C).ix (nmK k) = _
   rw [q]
   exact DN_ix (by omega)
theorem DN_ixt {x : Int} {ts : List DT} {L : List (List UInt8 × List Int)} {C : List QCon} : ∀ {m : Nat}, (Env.mk (DN x ts m) L C).ix [116] = 0 ∧ (Env.mk (DN x ts m) L C).ix [102] = 1
 | 0 => ⟨rfl, rfl⟩
 | m + 1 => by
  have q1 := ix_old (E := Env.mk (DN x ts m) L C) (n := [116]) ⟨_, (DN_tf x ts m).1, rfl⟩ (nmK (m + 1), dLo x ts m, dHi x ts m) L C
  have q2 := ix_old (E := Env.mk (DN x ts m) L C) (n := [102]) ⟨_, (DN_tf x ts m).2, rfl⟩ (nmK (m + 1), dLo x ts m, dHi x ts m) L C
  exact ⟨q1.trans DN_ixt.1, q2.trans DN_ixt.2⟩
theorem dS_step {x : Int} {ts : List DT} {k : Nat} {C : List QCon} : (dS x ts k).step ⟨DN x ts (k + 1), [], C⟩ = ⟨DN x ts (k + 1), [], C ++ [dCon x ts k]⟩ := by
 have a := DN_ix (x := x) (ts := ts) (L := []) (C := C) (m := k + 1) (k := k + 1) (Nat.le_refl _)
 have b := DN_ix (x := x) (ts := ts) (L := []) (C := C) (m := k + 1) (k := k) (by omega)
 obtain ⟨c, d⟩ := DN_ixt (x := x) (ts := ts) (L := []) (C := C) (m := k + 1)
 have et : (Env.mk (DN x ts (k + 1)) [] C).terms (dT1 k :: [dT2 ts k]) = [(((k + 3 : Nat) : Int), 1), (((k + 2 : Nat) : Int), -(dT ts k).1)] := by
  show [(((Env.mk (DN x ts (k + 1)) [] C).ix (nmK (k + 1)) : Int), (dT1 k).fac), (((Env.mk (DN x ts (k + 1)) [] C).ix (nmK k) : Int), (dT2 ts k).fac)] = _
  rw [a, b]
  rfl
 unfold dS dCon
 by_cases w0 : dW (dK x ts k) = 0
 ·rw [if_pos w0]
  show (⟨_, _, C ++ [QCon.mk 0 0 ((Env.mk (DN x ts (k + 1)) [] C).terms (dT1 k :: [dT2 ts k])) (relI (dRn (dK x ts k))) ((dT ts k).2.1 + dP (dK x ts k)) [] 0 0 [] []]⟩ : Env) = _
  rw [et, dRn_is, w0]
  rfl
 ·rw [if_neg w0]
  show (⟨_, _, C ++ [QCon.mk 1 ((Env.mk (DN x ts (k + 1)) [] C).ix (dWn (dK x ts k)) : Int) ((Env.mk (DN x ts (k + 1)) [] C).terms (dT1 k :: [dT2 ts k])) (relI (dRn (dK x ts k))) ((dT ts k).2.1 + dP (dK x ts k)) [] 0 0 [] []]⟩ : Env) = _
  rw [et, dRn_is, if_neg w0]
  unfold dWn
  by_cases w2 : dW (dK x ts k) = 2
  ·rw [if_pos w2, if_pos w2, d]; rfl
  ·rw [if_neg w2, if_neg w2, c]; rfl
theorem dStA_env (x : Int) (ts : List DT) : ∀ m : Nat, envOf E0 (dA0 x ++ dStA x ts m) = ⟨DN x ts m, [], (List.range m).map (dCon x ts)⟩
 | 0 => rfl
 | k + 1 => by
  show envOf E0 (dA0 x ++ (dStA x ts k ++ [(.var (nmK (k + 1)) (dLo x ts k) (dHi x ts k), [.nl]), (dS x ts k, [.nl])])) = _
  rw [← List.append_assoc, envOf_app, dStA_env x ts k]
  show (dS x ts k).step ⟨DN x ts (k + 1), [], (List.range k).map (dCon x ts)⟩ = _
  rw [dS_step, List.range_succ, List.map_append]
  rfl
theorem dA_env (x : Int) (ts : List DT) (m : Nat) : envOf E0 (dA x ts m) = ⟨DN x ts m ++ [([98], 0, 1)], [], dC x ts m⟩ := by
 unfold dA
 rw [← List.append_assoc, envOf_app, dStA_env]
 show (⟨_, _, (List.range m).map (dCon x ts) ++ [QCon.mk 4 0 [] 0 0 [] 0 0 [] [(((Env.mk (DN x ts m ++ [([98], 0, 1)]) [] ((List.range m).map (dCon x ts))).ix [102] : Int), 1), (((Env.mk (DN x ts m ++ [([98], 0, 1)]) [] ((List.range m).map (dCon x ts))).ix [116] : Int), 0), (((Env.mk (DN x ts m ++ [([98], 0, 1)]) [] ((List.range m).map (dCon x ts))).ix [98] : Int), 1), (((Env.mk (DN x ts m ++ [([98], 0, 1)]) [] ((List.range m).map (dCon x ts))).ix [102] : Int), 1)]]⟩ : Env) = _
 obtain ⟨c, d⟩ := DN_ixt (x := x) (ts := ts) (L := []) (C := (List.range m).map (dCon x ts)) (m := m)
 have q1 := ix_old (E := Env.mk (DN x ts m) [] ((List.range m).map (dCon x ts))) (n := [116]) ⟨_, (DN_tf x ts m).1, rfl⟩ ([98], 0, 1) [] ((List.range m).map (dCon x ts))
 have q2 := ix_old (E := Env.mk (DN x ts m) [] ((List.range m).map (dCon x ts))) (n := [102]) ⟨_, (DN_tf x ts m).2, rfl⟩ ([98], 0, 1) [] ((List.range m).map (dCon x ts))
 have q3 := ix_new (E := Env.mk (DN x ts m) [] ((List.range m).map (dCon x ts))) (n := [98]) (DN_new (by decide) (by decide) (fun k _ => nmK_ne k 98 (by decide))) 0 1 [] ((List.range m).map (dCon x ts))
 rw [q1.trans c, q2.trans d, q3.trans (DN_len x ts m)]
 rfl
theorem DN_vars (x : Int) (ts : List DT) : ∀ m : Nat, (DN x ts m).map qv = dV0 (bn [116]) (bn [102]) (bn (nmK 0)) x ++ dVs (fun k => bn (nmK k)) x ts m
 | 0 => rfl
 | k + 1 => by
  show (DN x ts k ++ [(nmK (k + 1), dLo x ts k, dHi x ts k)]).map qv = _
  rw [List.map_append, DN_vars x ts k]
  unfold dVs
  rw [List.range_succ, List.map_append, List.append_assoc]
  rfl
theorem d_vars (x : Int) (ts : List DT) (m : Nat) : (DN x ts m ++ [([98], 0, 1)]).map qv = dV (bn [116]) (bn [102]) (bn [98]) (fun k => bn (nmK k)) x ts m := by
 rw [List.map_append, DN_vars, List.append_assoc]
 rfl
theorem dT1_ok {k : Nat} (hk : k + 1 < 10) : (dT1 k).ok := ⟨nmK_ok hk, fun f hf => by injection hf with hf; subst hf; exact ⟨by decide, by decide⟩⟩
theorem dT2_ok {ts : List DT} {k : Nat} (h : tsOk ts) (hk : k < 10) : (dT2 ts k).ok := ⟨nmK_ok hk, fun f hf => by injection hf with hf; subst hf; have := h k; exact ⟨by omega, by omega⟩⟩
theorem dS_ok {x : Int} {ts : List DT} {k : Nat} (h : tsOk ts) (hk : k + 1 < 10) : (dS x ts k).ok := by
 have hn : numOk ((dT ts k).2.1 + dP (dK x ts k)) := by have := h k; have := dP_bd (dK x ts k); exact ⟨by omega, by omega⟩
 have h2 : ∀ u ∈ [dT2 ts k], u.ok := fun u hu => by obtain rfl : u = dT2 ts k := (by simpa using hu); exact dT2_ok h (by omega)
 unfold dS
 split
 ·exact ⟨dT1_ok hk, h2, hn, rfl⟩
 ·refine ⟨?_, dT1_ok hk, h2, hn, rfl⟩
  unfold dWn
  split <;> exact ⟨rfl, rfl⟩
theorem dStA_ok {x : Int} {ts : List DT} (h : tsOk ts) : ∀ m : Nat, m ≤ 4 → textOk (dStA x ts m)
 | 0, _ => fun p hp => by cases hp
 | k + 1, hk => by
  refine textOk_app (dStA_ok h k (by omega)) (fun p hp => ?_)
  have := d_bds (x := x) (ts := ts) (k := k)
  have : p = (.var (nmK (k + 1)) (dLo x ts k) (dHi x ts k), [.nl]) ∨ p = (dS x ts k, [.nl]) := by simpa using hp
  rcases this with rfl | rfl
  ·exact ⟨⟨nmK_ok (by omega), ⟨by omega, by omega⟩, ⟨by omega, by omega⟩⟩, rfl⟩
  ·exact ⟨dS_ok h (by omega), rfl⟩
theorem dA_ok {x : Int} {ts : List DT} {m : Nat} (h : tsOk ts) (h1 : -90 ≤ x) (h2 : x ≤ 90) (hm : m ≤ 4) : textOk (dA x ts m) := by
 refine textOk_app (fun p hp => ?_) (textOk_app (dStA_ok h m hm) (fun p hp => ?_))
 ·have : p = (.var [116] 1 1, [.sp]) ∨ p = (.var [102] 0 0, [.sp]) ∨ p = (.var (nmK 0) x x, [.nl]) := by simpa [dA0] using hp
  rcases this with rfl | rfl | rfl
  ·exact ⟨⟨⟨rfl, rfl⟩, ⟨by omega, by omega⟩, ⟨by omega, by omega⟩⟩, rfl⟩
  ·exact ⟨⟨⟨rfl, rfl⟩, ⟨by omega, by omega⟩, ⟨by omega, by omega⟩⟩, rfl⟩
  ·exact ⟨⟨nmK_ok (by omega), ⟨by omega, by omega⟩, ⟨by omega, by omega⟩⟩, rfl⟩
 ·have : p = (.var [98] 0 1, [.sp]) ∨ p = (.or (true, [102]) [(false, [116]), (true, [98]), (true, [102])], []) := by simpa [dA9] using hp
  rcases this with rfl | rfl
  ·exact ⟨⟨⟨rfl, rfl⟩, ⟨by omega, by omega⟩, ⟨by omega, by omega⟩⟩, rfl⟩
  ·refine ⟨⟨⟨rfl, rfl⟩, fun q hq => ?_⟩, rfl⟩
   have : q = (false, [116]) ∨ q = (true, [98]) ∨ q = (true, [102]) := by simpa using hq
   rcases this with rfl | rfl | rfl <;> exact ⟨rfl, rfl⟩
theorem d_sumFine {x : Int} {ts : List DT} {k : Nat} {C : List QCon} (h : tsOk ts) : sumFine ⟨DN x ts (k + 1), [], C⟩ (dT1 k :: [dT2 ts k]) ((dT ts k).2.1 + dP (dK x ts k)) := by
 have b := h k
 have := dP_bd (dK x ts k)
 refine ⟨by simp, fun t ht => ?_, by omega, by omega⟩
 have : t = dT1 k ∨ t = dT2 ts k := by simpa using ht
 rcases this with rfl | rfl
 ·exact ⟨DN_in (Nat.le_refl _), fun f hf => by injection hf with hf; subst hf; exact ⟨by decide, by decide⟩⟩
 ·exact ⟨DN_in (by omega), fun f hf => by injection hf with hf; subst hf; exact ⟨by omega, by omega⟩⟩
theorem dS_fine {x : Int} {ts : List DT} {k : Nat} {C : List QCon} (h : tsOk ts) (hC : C.length < 16) : (dS x ts k).fine ⟨DN x ts (k + 1), [], C⟩ := by
 unfold dS
 split
 ·exact ⟨hC, d_sumFine h⟩
 ·refine ⟨hC, ?_, d_sumFine h⟩
  unfold dWn
  split
  ·exact ⟨_, (DN_tf x ts (k + 1)).2, rfl, by decide, by decide⟩
  ·exact ⟨_, (DN_tf x ts (k + 1)).1, rfl, by decide, by decide⟩
theorem dStA_fine {x : Int} {ts : List DT} (h : tsOk ts) (h1 : -90 ≤ x) (h2 : x ≤ 90) : ∀ m : Nat, m ≤ 4 → allFine E0 (dA0 x ++ dStA x ts m)
 | 0, _ => by
  show allFine E0 (dA0 x ++ [])
  rw [List.append_nil]
  refine ⟨⟨⟨(fun p hp => by cases hp), (fun p hp => by cases hp)⟩, by show 0 < 8; decide, by decide, by decide, by decide⟩, ⟨⟨fun p hp => ?_, (fun p hp => by cases hp)⟩, by show 1 < 8; decide, by decide, by decide, by decide⟩, ⟨⟨fun p hp => ?_, (fun p hp => by cases hp)⟩, by show 2 < 8; decide, by omega, by omega, by omega⟩, trivial⟩
  ·obtain rfl : p = ([116], 1, 1) := by simpa [E0, AS.step] using hp
   exact (by decide : ([116] : List UInt8) ≠ [102])
  ·have : p = ([116], 1, 1) ∨ p = ([102], 0, 0) := by simpa [E0, AS.step] using hp
   rcases this with rfl | rfl
   ·exact (nmK_ne 0 116 (by decide)).symm
   ·exact (nmK_ne 0 102 (by decide)).symm
 | k + 1, hk => by
  show allFine E0 (dA0 x ++ (dStA x ts k ++ [(.var (nmK (k + 1)) (dLo x ts k) (dHi x ts k), [.nl]), (dS x ts k, [.nl])]))
  rw [← List.append_assoc]
  refine allFine_app (dStA_fine h h1 h2 k (by omega)) ?_
  rw [dStA_env]
  have := d_bds (x := x) (ts := ts) (k := k)
  refine ⟨⟨⟨DN_new (nmK_ne _ _ (by decide)) (nmK_ne _ _ (by decide)) (fun j hj e => by have := nmK_inj e; omega), fun p hp => by cases hp⟩, by show (DN x ts k).length < 8; rw [DN_len]; omega, by omega, by omega, by omega⟩, ?_, trivial⟩
  exact dS_fine h (by rw [List.length_map, List.length_range]; omega)
theorem dA_fine {x : Int} {ts : List DT} {m : Nat} (h : tsOk ts) (h1 : -90 ≤ x) (h2 : x ≤ 90) (hm : m ≤ 4) : allFine E0 (dA x ts m) := by
 unfold dA
 rw [← List.append_assoc]
 refine allFine_app (dStA_fine h h1 h2 m hm) ?_
 rw [dStA_env]
 refine ⟨⟨⟨DN_new (by decide) (by decide) (fun k _ => nmK_ne k 98 (by decide)), fun p hp => by cases hp⟩, by show (DN x ts m).length < 8; rw [DN_len]; omega, by decide, by decide, by decide⟩, ⟨by show ((List.range m).map (dCon x ts)).length < 16; rw [List.length_map, List.length_range]; omega, by simp, fun p hp => ?_⟩, trivial⟩
 have : p = (true, [102]) ∨ p = (false, [116]) ∨ p = (true, [98]) ∨ p = (true, [102]) := by simpa using hp
 rcases this with rfl | rfl | rfl | rfl
 ·exact ⟨_, List.mem_append_left _ (DN_tf x ts m).2, rfl, by decide, by decide⟩
 ·exact ⟨_, List.mem_append_left _ (DN_tf x ts m).1, rfl, by decide, by decide⟩
 ·exact ⟨_, List.mem_append_right _ (List.mem_singleton.2 rfl), rfl, by decide, by decide⟩
 ·exact ⟨_, List.mem_append_left _ (DN_tf x ts m).2, rfl, by decide, by decide⟩
end
section
open Go.RowKit
variable {w w' wr : World}
def intV (l : List Int) : List Value := l.map (Value.int .i64)
theorem int_one (x : Int) : ∀ u ∈ [Value.int .i64 x], u.oneCell' = true := fun u hu => by
 obtain rfl : u = .int .i64 x := by simpa using hu
 rfl
attribute [local go_sem] bn_ap bn_mk_ap mk_bn_ap bn_size mk_size ap_len List.length_cons List.length_nil
end
section
set_option maxHeartbeats 8000000
set_option maxRecDepth 100000
open Go.RowKit
variable {w w' wr : World}
def dTs (raw : List Int) : List DT := (raw.take 4).map fun c => (pickI c 7 - 3, pickI (c.tdiv 7) 41 - 20, pickI (c.tdiv 287) 6)
theorem dTs_at {raw : List Int} {i : Nat} {c : Int} (hi : i < 4) (h : raw[i]? = some c) : dT (dTs raw) i = (pickI c 7 - 3, pickI (c.tdiv 7) 41 - 20, pickI (c.tdiv 287) 6) := by
 unfold dT dTs
 rw [List.getD_eq_getElem?_getD, List.getElem?_map, List.getElem?_take, if_pos hi, h]
 rfl
theorem dTs_ok (raw : List Int) : tsOk (dTs raw) := fun k => by
 unfold dT dTs
 rw [List.getD_eq_getElem?_getD, List.getElem?_map]
 cases (raw.take 4)[k]? with
 | none => exact ⟨by decide, by decide, by decide, by decide⟩
 | some c =>
  have a := pickI_bd c 7 (by decide)
  have b := pickI_bd (c.tdiv 7) 41 (by decide)
  show -3 ≤ pickI c 7 - 3 ∧ pickI c 7 - 3 ≤ 3 ∧ -20 ≤ pickI (c.tdiv 7) 41 - 20 ∧ pickI (c.tdiv 7) 41 - 20 ≤ 20
  omega
theorem tdiv_bd {c n : Int} (hn : 0 < n) (h1 : -9223372036854775808 ≤ c) (h2 : c ≤ 9223372036854775807) : -9223372036854775808 ≤ c.tdiv n ∧ c.tdiv n ≤ 9223372036854775807 := by
 rcases Int.le_total 0 c with q | q
 ·have a := Int.tdiv_nonneg q (Int.le_of_lt hn)
  have b := Int.tdiv_le_self n q
  omega
 ·have e : c = -(-c) := by omega
  have a := Int.tdiv_nonneg (a := -c) (b := n) (by omega) (Int.le_of_lt hn)
  have b := Int.tdiv_le_self (a := -c) n (by omega)
  have f : c.tdiv n = -((-c).tdiv n) := by rw [Int.neg_tdiv]; omega
  omega
theorem own_kept {B e s n : Nat} {v : Value} {xs : List Value} (h : w.ownsRow B e s v n xs) (hg : w.grownBy w' none) : w'.ownsRow B e s v n xs := h.kept hg (Classical.em _)
theorem own_vals {B : Nat} {v : Value} {l : List Int} (h : w.ownsRow B 3 1 v l.length (intV l)) (h1 : 1 ≤ l.length) : ValsIn w v l := by
 have h' : w.ownsRow B 3 1 v l.length (l.flatMap inCell) := by rw [flat_in]; exact h
 obtain ⟨gr, cap, hr, _⟩ := RowIn.of_own h' h1
 exact .inr ⟨gr, cap, hr⟩
def fitI (x : Int) (ts : List DT) (i : Nat) : Bool := decide (i = 0) || fit (dX x ts i)
def rowI (x : Int) (ts : List DT) (i : Nat) : List Int := [1, 0] ++ (List.range (i + 1)).map (dX x ts)
theorem rowI_next (x : Int) (ts : List DT) (i : Nat) : rowI x ts (i + 1) = rowI x ts i ++ [dX x ts (i + 1)] := by
 unfold rowI
 rw [List.range_succ (n := i + 1), List.map_append, ← List.append_assoc]
 rfl
theorem rowI_len (x : Int) (ts : List DT) (i : Nat) : (rowI x ts i).length = i + 3 := by simp [rowI]
theorem rowI_end (x : Int) (ts : List DT) (i : Nat) : rowI x ts i ++ [1] = dRow x ts i := by unfold rowI dRow; rw [List.append_assoc]
theorem dStB_next (x : Int) (ts : List DT) (i : Nat) : dStB x ts (i + 1) = ap (ap (ap (ap (ap (ap (ap (ap (dStB x ts i) [118, 97, 114, 32]) (nmK (i + 1))) [58, 32]) (Lib.itoa (dLo x ts i))) [46, 46]) (Lib.itoa (dHi x ts i))) [59, 10]) (ap (ap (ap (ap (dHead (dK x ts i)) (ap (ap (ap (ap (ap [49, 32, 42, 32] (nmK (i + 1))) [32, 45, 32]) (Lib.itoa (dT ts i).1)) [32, 42, 32]) (nmK i))) (dRelB (dK x ts i))) (Lib.itoa ((dT ts i).2.1 + dP (dK x ts i)))) [59, 10]) := by
 show dStB x ts i ++ (varB (i + 1) (dLo x ts i) (dHi x ts i) ++ dRuleB x ts i) = _
 unfold varB dRuleB dSumB ap
 simp only [List.append_assoc]
structure DrF (w : World) (x : Int) (ts : List DT) (PO : Int) : Prop where
 m0 : ∀ m, m ≤ 4 → (∀ j, 1 ≤ j → j < m → fit (dX x ts j) = true) → ∀ W, w.grownBy W none → Calls Tryz.prog 8 #[.string (bn (dB x ts m))] W fun e w' => ∃ q, e = .returned (.pointer (some ⟨q, 0, none⟩)) ∧ W.grownBy w' none ∧
  (fitI x ts m = true → ∀ W2, w'.grownBy W2 none → (Calls Tryz.prog 9 #[.pointer (some ⟨q, 0, none⟩), .int .i64 PO, .bool false, .int .i64 1000000] W2 fun e w3 => ∃ vS, e = .returned (.agg #[vS, .int .i64 0, .int .i64 1]) ∧ LL w3 vS [dRow x ts m] ∧ W2.grownBy w3 none) ∧
   (Calls Tryz.prog 9 #[.pointer (some ⟨q, 0, none⟩), .int .i64 PO, .bool true, .int .i64 1] W2 fun e w3 => ∃ vS, e = .returned (.agg #[vS, .int .i64 1, .int .i64 1]) ∧ LL w3 vS [] ∧ W2.grownBy w3 none)) ∧
  (fitI x ts m = false → ∀ W2, w'.grownBy W2 none → Calls Tryz.prog 9 #[.pointer (some ⟨q, 0, none⟩), .int .i64 PO, .bool false, .int .i64 1000000] W2 fun e w3 => ∃ vS, e = .returned (.agg #[vS, .int .i64 0, .int .i64 0]) ∧ LL w3 vS [] ∧ W2.grownBy w3 none)
attribute [local go_sem] bn_ap bn_mk_ap mk_bn_ap bn_size mk_size ap_len List.length_cons List.length_nil
theorem dr_walk (first order : Int) {vr : Value} {raw : List Int} (hV : RawIn w vr raw) (hf1 : -9223372036854775808 ≤ first) (hf2 : first ≤ 9223372036854775807) (ho1 : -9223372036854775808 ≤ order) (ho2 : order ≤ 9223372036854775807) (hrw : ∀ x ∈ raw, -9223372036854775808 ≤ x ∧ x ≤ 9223372036854775807) (x : Int) (hx : pickI first 41 - 20 = x) (ts : List DT) (hts : ts = dTs raw) (PO : Int) (hPO : pickI order 2 = PO) (hF : DrF w x ts PO) : Calls Tryz.prog 3 #[.int .i64 first, vr, .int .i64 order] w fun e w' => e = .returned (.bool true) ∧ w.grownBy w' none := by
 obtain ⟨ra, rc, rfl⟩ := hV.is
 have HV := hide hV
 have HR := hide hrw
 have HTS := hide hts
 have HF := hide hF
 have KP1 := Kept.mk (fun W => kp_pick first 41 W hf1 hf2 (by decide) (by decide))
 have b41 := pickI_bd first 41 (by decide)
 have KPO := Kept.mk (fun W => kp_pick order 2 W ho1 ho2 (by decide) (by decide))
 rw [hPO] at KPO
 have tk := dTs_ok raw
 rw [← hts] at tk
 have HTK := hide tk
 generalize pickI first 41 = PF at *
 have xb1 : -20 ≤ x := by omega
 have xb2 : x ≤ 20 := by omega
 have HSL : Hid (∀ k, k ≤ 4 → (dStB x ts k).length ≤ 66 + 160 * k) := fun k hk => dStB_len tk (by omega) (by omega) (by omega)
 have KD0 := Kept.mk (fun W => kp_digits x W (by omega) (by omega))
 have l0 := itoa_len (m := x) (by omega) (by omega)
 have HS0 : Hid (dStB x ts 0 = ap (ap (ap (ap [118, 97, 114, 32, 116, 58, 32, 49, 46, 46, 49, 59, 32, 118, 97, 114, 32, 102, 58, 32, 48, 46, 46, 48, 59, 32, 118, 97, 114, 32, 120, 48, 58, 32] (Lib.itoa x)) [46, 46]) (Lib.itoa x)) [59, 10]) := by rw [Hid]; show dB0 x = _; unfold dB0 ap; simp only [List.append_assoc]
 obtain ⟨Ln, hLn, hL4, hLr, hLo⟩ : ∃ Ln : Nat, Ln = min 4 raw.length ∧ Ln ≤ 4 ∧ Ln ≤ raw.length ∧ (raw.length ≤ Ln ∨ 4 ≤ Ln) := ⟨_, rfl, by omega, by omega, by omega⟩
 obtain ⟨i0, hi0⟩ : ∃ i, Tryz.prog.info? 3 = some i := ⟨_, rfl⟩
 have hz := infoI64
 rw [hi0] at hz
 simp only [Option.map_some, Option.some.injEq, Prod.mk.injEq] at hz
 obtain ⟨hz0, hz1, hz2⟩ := hz
 clear hF hV hrw hPO hts tk b41 hLn
 go_enter Tryz.func3, Tryz.ntmps3
 have hgr : w.grownBy w none := grown_refl _ _
 generalize Lib.itoa x = D0 at *
 go_wp2_with (first | (go_at_call 5; refine (KP1.get _).mono ?_; rintro e w6 ⟨rfl, hww⟩; subst w6; clear KP1) | (go_at_call 6; refine (KD0.get _).mono ?_; rintro e wd ⟨rfl, hg1⟩; replace hgr := hgr.trans hg1; clear hg1))
 go_loopw [7, 8, 9, 10, 11] (fun vx vs vr vf vi wr => ∃ i : Nat, i ≤ Ln ∧ vi = .int .i64 i ∧ vx = .int .i64 (dX x ts i) ∧ vs = .string (bn (dStB x ts i)) ∧ vf = .bool (fitI x ts i) ∧ (∀ j, 1 ≤ j → j < i → fit (dX x ts j) = true) ∧ wr.ownsRow w.heap.size 3 1 vr (i + 3) (intV (rowI x ts i)) ∧ w.grownBy wr none) (fun _ _ _ _ vi _ => Ln - (intOf vi).toNat)
 case atStart => exact ⟨0, Nat.zero_le _, rfl, rfl, by rw [HS0.out], rfl, fun j h1 h2 => by omega, ⟨rfl, .inr ⟨wd.heap.size, 3, #[.int .i64 1, .int .i64 0, .int .i64 x], rfl, hgr.size, heap_alloc_new _ _, by decide, by decide, rfl, rfl⟩⟩, hgr.trans (World.grownBy_alloc _ _ _)⟩
 case round =>
  clear hgr HS0 KD0
  obtain ⟨i, hi9, rfl, rfl, rfl, rfl, hpre, hown, hg⟩ := hrel
  obtain ⟨la, lc, rfl⟩ := own_slice_n hown
  cases hfl : fitI x ts i with
  | false =>
   as_aux_lemma =>
    have KM := Kept.mk (fun {W : World} (hg : w.grownBy W none) => HF.out.m0 i (by omega) hpre W hg)
    have HTX : Hid (dB x ts i = ap (dStB x ts i) [118, 97, 114, 32, 98, 58, 32, 48, 46, 46, 49, 59, 32, 111, 114, 32, 102, 44, 32, 33, 116, 44, 32, 98, 44, 32, 102, 59]) := rfl
    rw [HTX.out] at KM
    have HE2 : Hid (intV (rowI x ts i) ++ [.int .i64 1] = intV (dRow x ts i)) := by rw [Hid, ← rowI_end]; simp [intV]
    have HDL : Hid ((dRow x ts i).length = i + 3 + 1) := by rw [Hid, ← rowI_end, List.length_append, rowI_len]; rfl
    have l1 := HSL.out i (by omega)
    have HOWN := hide hown
    have HG := hide hg
    have hwr : w.heap.size ≤ wr.heap.size := hg.size
    have hi4 : i ≤ 4 := by omega
    generalize dStB x ts i = S at *
    clear hown hg hpre hi9 HTX HF HSL HR HV HTS HTK hLr hL4 hLo
    go_wp2_with (first | (at_builtin; go_loud (refine wpList_append_src rfl _ _ 22 rfl w.heap.size 3 i0 (.int .i64 0) 1 8 Tryz.underlying22 hi0 hz0 hz1 hz2 rfl (by decide) _ _ _ rfl (HOWN.out.alloc _) _ 1 [.int .i64 1] rfl (Or.inr ⟨_, _, rfl, World.news_of_block (heap_alloc_new _ _)⟩) rfl (int_one _) (by unfold maxLen; omega) (by omega) (Nat.le_trans hwr (World.grownBy_alloc _ _ none).size) ?_; intro v' w7 ho hg7; rw [HE2.out] at ho; obtain ⟨oa, oc, hv9⟩ := own_slice_n ho; subst hv9; have HN : Hid (w7.ownsRow w.heap.size 3 1 (.slice oa (i + 3 + 1) oc) (i + 3 + 1) (intV (dRow x ts i)) ∧ w.grownBy w7 none) := ⟨ho, own_gr (HG.out.trans (World.grownBy_alloc _ _ _)) (HOWN.out.alloc _) hg7⟩; clear ho hg7)) | (go_at_call 8; refine (KM.get HN.out.2).mono ?_; rintro e wa ⟨q1, rfl, hg1, hs1, hs2⟩; have hgr := HN.out.2.trans hg1; have hka := grown_refl wa none; have HG1 := hide hg1; clear hg1 KM; have KS1 := Kept.mk (fun {W2 : World} h => hs2 hfl W2 h); clear hs1 hs2) | (go_at_call 5; refine (KPO.get _).mono ?_; rintro e w6 ⟨rfl, hww⟩; subst w6) | (go_at_call 9; refine (KS1.get hka).mono ?_; clear KS1; rintro e w8 ⟨vS, rfl, hA, hg1⟩; replace hgr := hgr.trans hg1; replace hka := hka.trans hg1; obtain ⟨sa, sc, hv1⟩ := hA.is; subst hv1; clear hg1))
    go_ret
    exact ⟨rfl, hgr.trans (World.grownBy_alloc _ _ _)⟩
  | true =>
   by_cases hlt : i < Ln
   ·obtain ⟨c, hc⟩ : ∃ c, raw[i]? = some c := ⟨raw[i]'(by omega), List.getElem?_eq_getElem (by omega)⟩
    obtain ⟨c1, c2⟩ := HR.out c (List.mem_of_getElem? hc)
    obtain ⟨g, off, rfl, k0, k1'⟩ := HV.out.at_ hc
    have k1 := hg.cell k1' (by simp)
    have k2 : g < wr.heap.size := Nat.lt_of_lt_of_le k0 hg.size
    have hT := dTs_at (i := i) (by omega) hc
    rw [← HTS.out] at hT
    have bt := HTK.out i
    rw [hT] at bt
    obtain ⟨d1, d2⟩ := tdiv_bd (n := 7) (by decide) c1 c2
    obtain ⟨d3, d4⟩ := tdiv_bd (n := 287) (by decide) c1 c2
    have KA := Kept.mk (fun W => kp_pick c 7 W c1 c2 (by decide) (by decide))
    have KB := Kept.mk (fun W => kp_pick (c.tdiv 7) 41 W d1 d2 (by decide) (by decide))
    have KC := Kept.mk (fun W => kp_pick (c.tdiv 287) 6 W d3 d4 (by decide) (by decide))
    have bk := pickI_bd (c.tdiv 287) 6 (by decide)
    have bp := pickI_bd c 7 (by decide)
    have bq := pickI_bd (c.tdiv 7) 41 (by decide)
    have xb : -90 ≤ dX x ts i ∧ dX x ts i ≤ 90 := by
     unfold fitI at hfl
     rcases Bool.or_eq_true _ _ ▸ hfl with q | q
     ·have : i = 0 := by simpa using q
      subst this
      show -90 ≤ x ∧ x ≤ 90
      omega
     ·exact fit_bd q
    have hn1 := dStB_next x ts i
    have eX : dX x ts (i + 1) = (dT ts i).1 * dX x ts i + (dT ts i).2.1 := rfl
    have eK : dK x ts i = if (dT ts i).2.2 = 1 then 1 else if (dT ts i).2.2 = 2 then 2 else if fit (dX x ts (i + 1)) && decide (3 ≤ (dT ts i).2.2) && decide ((dT ts i).2.2 ≤ 5) then (dT ts i).2.2 else 0 := rfl
    have eLo : dLo x ts i = if dK x ts i = 3 ∨ dK x ts i = 4 then dX x ts (i + 1) else -90 := rfl
    have eHi : dHi x ts i = if dK x ts i = 3 then dX x ts (i + 1) + 1 else if dK x ts i = 5 then dX x ts (i + 1) else 90 := rfl
    have hrow := rowI_next x ts i
    have hpre2 : Hid (∀ j, 1 ≤ j → j < i + 1 → fit (dX x ts j) = true) := fun j h1 h2 => by
     by_cases e : j = i
     ·subst e
      unfold fitI at hfl
      rcases Bool.or_eq_true _ _ ▸ hfl with q | q
      ·have : j = 0 := by simpa using q
       omega
      ·exact q
     ·exact hpre j h1 (by omega)
    have hfi : Hid (fitI x ts (i + 1) = fit (dX x ts (i + 1))) := by unfold Hid fitI; simp
    have l1 := HSL.out i (by omega)
    rw [hT] at hn1 eX eK
    simp only at hn1 eX eK
    obtain ⟨PA, hPA⟩ : ∃ z, pickI c 7 = z := ⟨_, rfl⟩
    obtain ⟨PB, hPB⟩ : ∃ z, pickI (c.tdiv 7) 41 = z := ⟨_, rfl⟩
    obtain ⟨PC, hPC⟩ : ∃ z, pickI (c.tdiv 287) 6 = z := ⟨_, rfl⟩
    rw [hPA] at KA hn1 eX bp
    rw [hPB] at KB hn1 eX bq
    rw [hPC] at KC eK bk
    obtain ⟨f, hf⟩ : ∃ f, PA - 3 = f := ⟨_, rfl⟩
    obtain ⟨d, hd⟩ : ∃ d, PB - 20 = d := ⟨_, rfl⟩
    rw [hf] at hn1 eX
    rw [hd] at hn1 eX
    obtain ⟨mb1, mb2⟩ := mul_bd (a := f) (b := dX x ts i) (by omega) (by omega) (by omega) (by omega)
    obtain ⟨X, hX⟩ : ∃ X, dX x ts i = X := ⟨_, rfl⟩
    obtain ⟨y, hy⟩ : ∃ y, dX x ts (i + 1) = y := ⟨_, rfl⟩
    rw [hX] at eX mb1 mb2 xb
    rw [hy] at eX eK eLo eHi hrow
    have hfy : f * X + d = y := eX.symm
    have yb : -100100 ≤ y ∧ y ≤ 100100 := by omega
    rw [hX]
    have HY := hide hy
    have HFI : Hid (fitI x ts (i + 1) = fit y) := by rw [← hy]; exact hfi.out
    have HE2 : Hid (intV (rowI x ts i) ++ [.int .i64 y] = intV (rowI x ts (i + 1))) := by rw [Hid, hrow]; simp [intV]
    have HOWN := hide hown
    have HG := hide hg
    have HLI : Hid (i + 1 ≤ Ln) := hlt
    have HME : Hid (Ln - (i + 1) < Ln - i) := by rw [Hid]; omega
    have hwr : w.heap.size ≤ wr.heap.size := hg.size
    have KN1 := Kept.mk (fun W => show Calls Tryz.prog 7 #[.int .i64 ((i : Int) + 1)] W fun e w' => e = .returned (.string (bn (nmK (i + 1)))) ∧ W.grownBy w' none from kp_name (i + 1) W (by omega))
    have KN0 := Kept.mk (fun W => kp_name i W (by omega))
    have KDf := Kept.mk (fun W => kp_digits f W (by omega) (by omega))
    have KDd := Kept.mk (fun W => kp_digits d W (by omega) (by omega))
    have KN2 := KN1
    have HKD : Hid (∀ m : Int, -1000000 ≤ m → m ≤ 1000000 → Kept (∀ W, Calls Tryz.prog 6 #[.int .i64 m] W fun e w' => e = .returned (.string (bn (Lib.itoa m))) ∧ W.grownBy w' none)) := fun m h1 h2 => Kept.mk (fun W => kp_digits m W (by omega) (by omega))
    have n1 := nmK_len (k := i + 1) (by omega)
    have n0 := nmK_len (k := i) (by omega)
    have m1 := itoa_len (m := f) (by omega) (by omega)
    have m2 := itoa_len (m := d) (by omega) (by omega)
    have m3 := itoa_len (m := d + 1) (by omega) (by omega)
    have m4 := itoa_len (m := d - 1) (by omega) (by omega)
    have m5 := itoa_len (m := y) (by omega) (by omega)
    have m6 := itoa_len (m := y + 1) (by omega) (by omega)
    have m7 := itoa_len (m := -90) (by omega) (by omega)
    have m8 := itoa_len (m := 90) (by omega) (by omega)
    have hl2 : (i : Int) < raw.length := by omega
    have hl3 : (i : Int) < 4 := by omega
    have h0i : (0 : Int) ≤ i := by omega
    have hi3 : i ≤ 3 := by omega
    have hcs : PC = 0 ∨ PC = 1 ∨ PC = 2 ∨ PC = 3 ∨ PC = 4 ∨ PC = 5 := by omega
    have hfc : (y < -90 ∧ fit y = false) ∨ (90 < y ∧ -90 ≤ y ∧ fit y = false) ∨ (-90 ≤ y ∧ y ≤ 90 ∧ fit y = true) := by
     by_cases q1 : y < -90
     ·exact .inl ⟨q1, by unfold fit; rw [Bool.and_eq_false_iff]; exact .inl (decide_eq_false (by omega))⟩
     by_cases q2 : 90 < y
     ·exact .inr (.inl ⟨q2, by omega, by unfold fit; rw [Bool.and_eq_false_iff]; exact .inr (decide_eq_false (by omega))⟩)
     ·exact .inr (.inr ⟨by omega, by omega, by unfold fit; rw [Bool.and_eq_true]; exact ⟨decide_eq_true (by omega), decide_eq_true (by omega)⟩⟩)
    have hgr := grown_refl wr none
    clear hc k0 k1' hT bt hPA hPB hPC hX hy eX hrow hfi hown hg hpre hfl hlt hi9 bk HR HV HTS HTK HSL HF hLr hL4 hLo
    rcases hcs with e | e | e | e | e | e <;> rcases hfc with ⟨f1, hft⟩ | ⟨f1, f2, hft⟩ | ⟨f1, f2, hft⟩
    all_goals
     as_aux_lemma =>
      first
       | (have e1 : PC = 3 := e; have e2 : fit y = true := hft; have KDx := HKD.out (d + 1) (by omega) (by omega); have KDl := HKD.out y (by omega) (by omega); have KDh := HKD.out (y + 1) (by omega) (by omega); clear e1 e2)
       | (have e1 : PC = 4 := e; have e2 : fit y = true := hft; have KDx := HKD.out d (by omega) (by omega); have KDl := HKD.out y (by omega) (by omega); have KDh := HKD.out 90 (by omega) (by omega); clear e1 e2)
       | (have e1 : PC = 5 := e; have e2 : fit y = true := hft; have KDx := HKD.out (d - 1) (by omega) (by omega); have KDl := HKD.out (-90) (by omega) (by omega); have KDh := HKD.out y (by omega) (by omega); clear e1 e2)
       | (have e1 : PC = 1 ∨ PC = 2 := (by first | exact .inl e | exact .inr e); have KDx := HKD.out d (by omega) (by omega); have KDl := HKD.out (-90) (by omega) (by omega); have KDh := HKD.out 90 (by omega) (by omega); clear e1)
       | (have KDl := HKD.out (-90) (by omega) (by omega); have KDh := HKD.out 90 (by omega) (by omega))
      subst e
      simp [hft] at eK
      rw [eK] at eLo eHi hn1
      simp at eLo eHi
      rw [eLo, eHi] at hn1
      simp [dHead, dRelB, dP, dW] at hn1
      try rw [show (d + -1 : Int) = d - 1 from rfl] at hn1
      rw [hft] at HFI
      have HE1 := hide hn1
      clear hn1 eK eLo eHi hft
      generalize dStB x ts i = S at *
      generalize nmK (i + 1) = N1 at *
      generalize nmK i = N0 at *
      generalize Lib.itoa f = DF at *
      generalize Lib.itoa d = DD at *
      generalize Lib.itoa (d + 1) = DP at *
      generalize Lib.itoa (d - 1) = DM at *
      generalize Lib.itoa y = DY at *
      generalize Lib.itoa (y + 1) = DZ at *
      generalize Lib.itoa (-90) = DL at *
      generalize Lib.itoa 90 = DH at *
      go_wp2_with (first | (at_builtin; go_loud (refine wpList_append_src rfl _ _ 22 rfl w.heap.size 3 i0 (.int .i64 0) 1 8 Tryz.underlying22 hi0 hz0 hz1 hz2 rfl (by decide) _ _ _ rfl ((own_kept HOWN.out hgr).alloc _) _ 1 [.int .i64 y] rfl (Or.inr ⟨_, _, rfl, World.news_of_block (heap_alloc_new _ _)⟩) rfl (int_one _) (by unfold maxLen; omega) (by omega) (Nat.le_trans (Nat.le_trans hwr hgr.size) (World.grownBy_alloc _ _ none).size) ?_; intro v' w7 ho hg7; rw [HE2.out, show i + 3 + 1 = i + 1 + 3 from by omega] at ho; obtain ⟨oa, oc, hv9⟩ := own_slice_n ho; subst hv9; have HN : Hid (w7.ownsRow w.heap.size 3 1 (.slice oa (i + 1 + 3) oc) (i + 1 + 3) (intV (rowI x ts (i + 1))) ∧ w.grownBy w7 none) := ⟨ho, own_gr ((HG.out.trans hgr).trans (World.grownBy_alloc _ _ _)) ((own_kept HOWN.out hgr).alloc _) hg7⟩; clear ho hg7)) | (go_at_call 5; refine (KA.get _).mono ?_; rintro e w6 ⟨rfl, hww⟩; subst w6; clear KA) | (go_at_call 5; refine (KB.get _).mono ?_; rintro e w6 ⟨rfl, hww⟩; subst w6; clear KB) | (go_at_call 5; refine (KC.get _).mono ?_; rintro e w6 ⟨rfl, hww⟩; subst w6; clear KC) | (go_at_call 7; refine (KN1.get _).mono ?_; rintro e w1 ⟨rfl, hg1⟩; replace hgr := hgr.trans hg1; have k1 := hg1.cell k1 (by simp); have k2 := Nat.lt_of_lt_of_le k2 hg1.size; clear hg1 KN1) | (go_at_call 7; refine (KN0.get _).mono ?_; rintro e w1 ⟨rfl, hg1⟩; replace hgr := hgr.trans hg1; have k1 := hg1.cell k1 (by simp); have k2 := Nat.lt_of_lt_of_le k2 hg1.size; clear hg1 KN0) | (go_at_call 7; refine (KN2.get _).mono ?_; rintro e w1 ⟨rfl, hg1⟩; replace hgr := hgr.trans hg1; have k1 := hg1.cell k1 (by simp); have k2 := Nat.lt_of_lt_of_le k2 hg1.size; clear hg1 KN2) | (go_at_call 6; refine (KDf.get _).mono ?_; rintro e w1 ⟨rfl, hg1⟩; replace hgr := hgr.trans hg1; have k1 := hg1.cell k1 (by simp); have k2 := Nat.lt_of_lt_of_le k2 hg1.size; clear hg1 KDf) | (go_at_call 6; refine (KDd.get _).mono ?_; rintro e w1 ⟨rfl, hg1⟩; replace hgr := hgr.trans hg1; have k1 := hg1.cell k1 (by simp); have k2 := Nat.lt_of_lt_of_le k2 hg1.size; clear hg1 KDd) | (go_at_call 6; refine (KDx.get _).mono ?_; rintro e w1 ⟨rfl, hg1⟩; replace hgr := hgr.trans hg1; have k1 := hg1.cell k1 (by simp); have k2 := Nat.lt_of_lt_of_le k2 hg1.size; clear hg1 KDx) | (go_at_call 6; refine (KDl.get _).mono ?_; rintro e w1 ⟨rfl, hg1⟩; replace hgr := hgr.trans hg1; have k1 := hg1.cell k1 (by simp); have k2 := Nat.lt_of_lt_of_le k2 hg1.size; clear hg1 KDl) | (go_at_call 6; refine (KDh.get _).mono ?_; rintro e w1 ⟨rfl, hg1⟩; replace hgr := hgr.trans hg1; have k1 := hg1.cell k1 (by simp); have k2 := Nat.lt_of_lt_of_le k2 hg1.size; clear hg1 KDh))
      go_roundw
      case rel => exact ⟨i + 1, HLI.out, by go_num, by rw [HY.out], by rw [HE1.out], by (rw [HFI.out]; try (simp; omega)), hpre2.out, HN.out.1, HN.out.2⟩
      case measure => exact HME.out
   ·obtain rfl : i = Ln := by omega
    have hlx : (raw.length : Int) ≤ i ∨ ((i : Int) < raw.length ∧ (4 : Int) ≤ i) := by omega
    rcases hlx with hlx | ⟨hlx, hly⟩
    all_goals
     as_aux_lemma =>
      have KM := Kept.mk (fun {W : World} (hg : w.grownBy W none) => HF.out.m0 i (by omega) hpre W hg)
      have HTX : Hid (dB x ts i = ap (dStB x ts i) [118, 97, 114, 32, 98, 58, 32, 48, 46, 46, 49, 59, 32, 111, 114, 32, 102, 44, 32, 33, 116, 44, 32, 98, 44, 32, 102, 59]) := rfl
      rw [HTX.out] at KM
      have HE2 : Hid (intV (rowI x ts i) ++ [.int .i64 1] = intV (dRow x ts i)) := by rw [Hid, ← rowI_end]; simp [intV]
      have HDL : Hid ((dRow x ts i).length = i + 3 + 1) := by rw [Hid, ← rowI_end, List.length_append, rowI_len]; rfl
      have l1 := HSL.out i (by omega)
      have HOWN := hide hown
      have HG := hide hg
      have hwr : w.heap.size ≤ wr.heap.size := hg.size
      have hi4 : i ≤ 4 := by omega
      generalize dStB x ts i = S at *
      clear hown hg hpre hi9 HTX HF HSL HR HV HTS HTK hLr hL4 hLo
      go_wp2_with (first | (at_builtin; go_loud (refine wpList_append_src rfl _ _ 22 rfl w.heap.size 3 i0 (.int .i64 0) 1 8 Tryz.underlying22 hi0 hz0 hz1 hz2 rfl (by decide) _ _ _ rfl (HOWN.out.alloc _) _ 1 [.int .i64 1] rfl (Or.inr ⟨_, _, rfl, World.news_of_block (heap_alloc_new _ _)⟩) rfl (int_one _) (by unfold maxLen; omega) (by omega) (Nat.le_trans hwr (World.grownBy_alloc _ _ none).size) ?_; intro v' w7 ho hg7; rw [HE2.out] at ho; obtain ⟨oa, oc, hv9⟩ := own_slice_n ho; subst hv9; have HN : Hid (w7.ownsRow w.heap.size 3 1 (.slice oa (i + 3 + 1) oc) (i + 3 + 1) (intV (dRow x ts i)) ∧ w.grownBy w7 none) := ⟨ho, own_gr (HG.out.trans (World.grownBy_alloc _ _ _)) (HOWN.out.alloc _) hg7⟩; clear ho hg7)) | (go_at_call 8; refine (KM.get HN.out.2).mono ?_; rintro e wa ⟨q1, rfl, hg1, hs1, hs2⟩; have hgr := HN.out.2.trans hg1; have hka := grown_refl wa none; have HG1 := hide hg1; clear hg1 KM; have KS1 := Kept.mk (fun {W2 : World} h => (hs1 hfl W2 h).1); have KS2 := Kept.mk (fun {W2 : World} h => (hs1 hfl W2 h).2); clear hs1 hs2) | (go_at_call 5; refine (KPO.get _).mono ?_; rintro e w6 ⟨rfl, hww⟩; subst w6) | (go_at_call 9; refine (KS1.get hka).mono ?_; clear KS1; rintro e w8 ⟨vS, rfl, hA, hg1⟩; replace hgr := hgr.trans hg1; replace hka := hka.trans hg1; obtain ⟨sa, sc, hv1⟩ := hA.is; subst hv1; clear hg1))
      have gA := World.grownBy_alloc w8 (.cells #[.slice sa 1 sc, .int .i64 0, .int .i64 1] 29) none
      have hbx := heap_alloc_new w8 (.cells #[.slice sa 1 sc, .int .i64 0, .int .i64 1] 29)
      replace hgr := hgr.trans gA
      replace hka := hka.trans gA
      replace hA := hA.grown gA
      generalize w8.alloc (.cells #[.slice sa 1 sc, .int .i64 0, .int .i64 1] 29) = W5 at *
      generalize w8.heap.size = B at *
      have hV0 : ValsIn w7 (.slice oa (i + 3 + 1) oc) (dRow x ts i) := own_vals (by rw [HDL.out]; exact HN.out.1) (by rw [HDL.out]; omega)
      have hV1 := hV0.grown (HG1.out.trans hka)
      obtain ⟨g, u, hla, j1, j2, hVr⟩ := hA.at_ (i := 0) rfl
      subst hla
      obtain ⟨gv, cv, hu, _, _⟩ := hVr.cells (fun e => by have q := HDL.out; rw [e] at q; simp at q)
      subst hu
      rw [HDL.out] at hVr j2
      have KV := Kept.mk (fun {W : World} (hw : W5.grownBy W none) => kp_sameRow (w := W) (hVr.grown hw) (hV1.grown hw) (by rw [HDL.out]; omega) (by rw [HDL.out]; omega))
      rw [decide_eq_true rfl] at KV
      have b0 := cell_of hbx 0 _ rfl
      have lB := some_lt hbx
      clear gA hbx hA hV0 hV1 hVr HDL HE2 HN HG1
      go_wp2_with (first | (go_at_call 9; refine (KS2.get hka).mono ?_; clear KS2; rintro e w9 ⟨vT, rfl, hT, hg9⟩; replace hgr := hgr.trans hg9; obtain ⟨ta, tc, hv1⟩ := hT.is; subst hv1; have d0 := hg9.cell b0 (by simp); have dl := Nat.lt_of_lt_of_le lB hg9.size; have e0 := hg9.cell j2 (by simp); have el := Nat.lt_of_lt_of_le j1 hg9.size; have HG9 := hide hg9; clear hT hg9 b0 lB j2 j1 hka) | (go_at_call 10; refine (KV.get (HG9.out.trans (World.grownBy_alloc _ _ _))).mono ?_; clear KV; rintro e w10 ⟨rfl, hg10⟩))
      go_ret
      exact ⟨rfl, (hgr.trans (World.grownBy_alloc _ _ _)).trans hg10⟩
theorem kp_Drawn (first order : Int) {vr : Value} {raw : List Int} (hV : RawIn w vr raw) (hf1 : -9223372036854775808 ≤ first) (hf2 : first ≤ 9223372036854775807) (ho1 : -9223372036854775808 ≤ order) (ho2 : order ≤ 9223372036854775807) (hrw : ∀ x ∈ raw, -9223372036854775808 ≤ x ∧ x ≤ 9223372036854775807) (ht : PowTab w) (hdb : DbTab w) : Calls Tryz.prog 3 #[.int .i64 first, vr, .int .i64 order] w fun e w' => e = .returned (.bool true) ∧ w.grownBy w' none := by
 have b41 := pickI_bd first 41 (by decide)
 obtain ⟨x, hx0⟩ : ∃ x, pickI first 41 - 20 = x := ⟨_, rfl⟩
 obtain ⟨ts, hts⟩ : ∃ ts, ts = dTs raw := ⟨_, rfl⟩
 have tk := dTs_ok raw
 rw [← hts] at tk
 have hx : fit x = true := by unfold fit; rw [Bool.and_eq_true]; exact ⟨decide_eq_true (by omega), decide_eq_true (by omega)⟩
 have tb : ∀ {W : World}, w.grownBy W none → PowTab W := fun {W} hg => tab_kept ht (fun k hk => hg.block k hk (by simp))
 refine dr_walk first order hV hf1 hf2 ho1 ho2 hrw x hx0 ts hts (pickI order 2) rfl ⟨fun m hm hpre W hW => ?_⟩
 have okA := dA_ok (x := x) (m := m) tk (by omega) (by omega) hm
 have fiA := dA_fine (x := x) (m := m) tk (by omega) (by omega) hm
 have ln : (srcA (dA x ts m)).length ≤ 2000 := by rw [dA_src]; have := dB_len (x := x) (m := m) tk (by omega) (by omega) hm; omega
 have M : MdOk (dV (bn [116]) (bn [102]) (bn [98]) (fun k => bn (nmK k)) x ts m) (dC x ts m) := by have q := src_ok okA fiA ln; rw [dA_env, d_vars] at q; exact q
 have hKK : ∀ weak budget, KOk (mkK (dV (bn [116]) (bn [102]) (bn [98]) (fun k => bn (nmK k)) x ts m) (dC x ts m) (pickI order 2) weak budget) := fun weak budget => mkK_ok M.vars M.vlen M.cons M.clen
 have K := kp_model (dA x ts m) okA fiA ln W (tb hW)
 rw [dA_src, dA_env, d_vars] at K
 refine K.mono ?_
 rintro e w' ⟨b, rfl, hb, hmd, hg⟩
 have S := fun {W2 : World} (hg2 : w'.grownBy W2 none) (weak : Bool) (z : Int) (hz : z ≤ 9223372036854775807) => md_Solve (hmd.grown hg2) M (db_grown hdb ((hW.trans hg).trans hg2)) (pickI order 2) weak z hz
 refine ⟨b, rfl, hg, fun hf W2 hg2 => ?_, fun hf W2 hg2 => ?_⟩
 ·have hfit : ∀ j, 1 ≤ j → j ≤ m → fit (dX x ts j) = true := fun j h1 h2 => by
   by_cases e : j = m
   ·subst e
    unfold fitI at hf
    rw [Bool.or_eq_true] at hf
    rcases hf with q | q
    ·have : j = 0 := by simpa using q
     omega
    ·exact q
   ·exact hpre j h1 (by omega)
  obtain ⟨⟨n1, s1, e1⟩, n2, s2, e2⟩ := d_fits hKK hx hfit
  have S1 := S hg2 false 1000000 (by decide)
  have S2 := S hg2 true 1 (by decide)
  rw [n1, s1, e1] at S1
  rw [n2, s2, e2] at S2
  refine ⟨S1.mono ?_, S2.mono ?_⟩
  ·rintro e w3 ⟨vS, rfl, hL, hg3⟩; exact ⟨vS, rfl, hL.ll, hg3⟩
  ·rintro e w3 ⟨vS, rfl, hL, hg3⟩; exact ⟨vS, rfl, hL.ll, hg3⟩
 ·unfold fitI at hf
  rw [Bool.or_eq_false_iff] at hf
  obtain ⟨h0, ho⟩ := hf
  have h0 : m ≠ 0 := by simpa using h0
  obtain ⟨n, rfl⟩ : ∃ n, m = n + 1 := ⟨m - 1, by omega⟩
  obtain ⟨n1, s1, e1⟩ := end_void (hKK false 1000000) (fun s h => d_out (hKK false 1000000) hx (fun j h1 h2 => hpre j h1 (by omega)) ho h)
  have S1 := S hg2 false 1000000 (by decide)
  rw [n1, s1, e1] at S1
  refine S1.mono ?_
  rintro e w3 ⟨vS, rfl, hL, hg3⟩; exact ⟨vS, rfl, hL.ll, hg3⟩
end
end Go.Proofs.YthpcbbnabnlanabGreatDoor
