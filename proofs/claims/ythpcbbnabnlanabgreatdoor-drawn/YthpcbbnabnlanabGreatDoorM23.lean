import Derived.Test.YthpcbbnabnlanabGreatDoorM21
import Derived.Test.YthpcbbnabnlanabGreatDoorM22
namespace Go.Proofs.YthpcbbnabnlanabGreatDoor
open Go.RowKit
set_option linter.unusedVariables false
set_option linter.unusedSimpArgs false
section
set_option maxHeartbeats 8000000
set_option maxRecDepth 100000
variable {w0 w w' w'' : World} {X : SL} {K : SK} {s : SS} {vT vS : Value}
theorem take_inv (hK : KOk K) {a : Int} : ∀ (vs : List Int) {s : SS}, SOk K s → TB s → (∀ v ∈ vs, PlOk K.vars.length v) → SOk K (takeS K a vs s).2 ∧ TB (takeS K a vs s).2 := by
 intro vs
 induction vs with
 | nil => intro s hs hT _; exact ⟨hs, hT⟩
 | cons v vs ih =>
  intro s hs hT hv
  have hvp := hv v (by simp)
  have q1 := (keep_ok hK hs hvp (D := subD (s.L v) (bitV a)) sub_sub).1.ok hs
  have q2 := keep_tb hK hs hvp (D := subD (s.L v) (bitV a)) sub_sub hT
  rw [takeS]
  split
  ·simp only []
   split
   ·exact ih q1 q2 (fun u hu => hv u (by simp [hu]))
   ·exact ⟨q1, q2⟩
  ·exact ih hs hT (fun u hu => hv u (by simp [hu]))
theorem diff_inv (hK : KOk K) {vars : List Int} (hv : ∀ v ∈ vars, PlOk K.vars.length v) : ∀ (is : List Nat) {s : SS}, SOk K s → TB s → SOk K (diffF K vars is s).2 ∧ TB (diffF K vars is s).2 := by
 intro is
 induction is with
 | nil => intro s hs hT; exact ⟨hs, hT⟩
 | cons i is ih =>
  intro s hs hT
  have t1 : ∀ (a : Int) {s : SS}, SOk K s → TB s → SOk K (takeS K a (vars.take i) s).2 ∧ TB (takeS K a (vars.take i) s).2 := fun a {s} h1 h2 => take_inv hK _ h1 h2 (fun u hu => hv u (List.mem_of_mem_take hu))
  have t2 : ∀ (a : Int) {s : SS}, SOk K s → TB s → SOk K (takeS K a (vars.drop (i + 1)) s).2 ∧ TB (takeS K a (vars.drop (i + 1)) s).2 := fun a {s} h1 h2 => take_inv hK _ h1 h2 (fun u hu => hv u (List.mem_of_mem_drop hu))
  rw [diffF]
  simp only []
  have a1 := t1 (s.val (vars.getD i 0)) hs hT
  have a2 := t2 ((takeS K (s.val (vars.getD i 0)) (vars.take i) s).2.val (vars.getD i 0)) a1.1 a1.2
  split
  ·split
   ·split
    ·exact ih a2.1 a2.2
    ·exact a2
   ·exact a1
  ·exact ih hs hT
theorem range_drop {n i : Nat} (h : i < n) : (List.range n).drop i = i :: (List.range n).drop (i + 1) := by
 rw [List.drop_eq_getElem_cons (by simpa using h)]
 simp
theorem XRow.tail {g cap : Nat} {l : List Int} {cells : Array Value} (h2 : w.heap[g]? = some (.cells cells 3 (0, 0))) (h3 : ∀ (j : Nat) (x : Int), l[j]? = some x → cells[j]? = some (Value.int .i64 x)) (h4 : g ∉ X.own) {i : Nat} (hi : i < l.length) (hcap : l.length ≤ cap) {n : Nat} (hn : n = l.length - (i + 1)) : XRow X w (.slice (if cap = i + 1 then some ⟨g, 0, none⟩ else some ⟨g, i + 1, none⟩) n (cap - (i + 1))) (l.drop (i + 1)) := by
 subst hn
 have hdl : (l.drop (i + 1)).length = l.length - (i + 1) := by simp
 by_cases c : cap = i + 1
 ·left
  refine ⟨List.eq_nil_of_length_eq_zero (by rw [hdl]; omega), (if cap = i + 1 then some ⟨g, 0, none⟩ else some ⟨g, i + 1, none⟩), cap - (i + 1), ?_⟩
  rw [show l.length - (i + 1) = 0 by omega]
 ·right
  refine ⟨g, i + 1, cap - (i + 1), cells, by rw [if_neg c, hdl], h2, fun j x hx => ?_, h4⟩
  rw [List.getElem?_drop] at hx
  exact h3 _ _ hx
theorem XRow.head {g cap : Nat} {l : List Int} {cells : Array Value} (h2 : w.heap[g]? = some (.cells cells 3 (0, 0))) (h3 : ∀ (j : Nat) (x : Int), l[j]? = some x → cells[j]? = some (Value.int .i64 x)) (h4 : g ∉ X.own) {i : Nat} (hi : i < l.length) : XRow X w (.slice (some ⟨g, 0, none⟩) i cap) (l.take i) := by
 right
 refine ⟨g, 0, cap, cells, by rw [List.length_take, Nat.min_eq_left (by omega)], h2, fun j x hx => ?_, h4⟩
 rw [Nat.zero_add]
 rw [List.getElem?_take] at hx
 split at hx
 ·exact h3 _ _ hx
 ·cases hx
def DfRel (w0 w : World) (X : SL) (K : SK) (l : List Int) (vS : Value) (R : Bool × SS) (vi : Value) (wr : World) : Prop :=
 ∃ (i : Nat) (s : SS) (vT : Value), i ≤ l.length ∧ vi = .int .i64 i ∧ SAt w0 wr X K s vT vS ∧ SOk K s ∧ TB s ∧ FrS X w wr ∧ diffF K l ((List.range l.length).drop i) s = R
theorem sc_drawDiff (h : SAt w0 w X K s vT vS) (hK : KOk K) (hs : SOk K s) (hT : TB s) {g cap : Nat} {l : List Int} {cells : Array Value} (h2 : w.heap[g]? = some (.cells cells 3 (0, 0))) (h3 : ∀ (j : Nat) (x : Int), l[j]? = some x → cells[j]? = some (Value.int .i64 x)) (h4 : g ∉ X.own) (hcap : l.length ≤ cap) (hp : ∀ v ∈ l, PlOk K.vars.length v) (hll : l.length ≤ 3000) : Calls Tryz.prog 67 #[.pointer (some ⟨X.b, 0, none⟩), .slice (some ⟨g, 0, none⟩) l.length cap] w fun e w' => e = .returned (.bool (diffS K l s).1) ∧ (∃ vT', SAt w0 w' X K (diffS K l s).2 vT' vS) ∧ FrS X w w' := by
 obtain ⟨R, hR⟩ : ∃ R, diffS K l s = R := ⟨_, rfl⟩
 rw [hR]
 have HST : Hid (DfRel w0 w X K l vS R (.int .i64 0) w) := ⟨0, s, vT, Nat.zero_le _, rfl, h, hs, hT, FrS.refl X w, hR⟩
 have H2 := hide h2
 have H3 := hide h3
 have H4 := hide h4
 have HP := hide hp
 have HK := hide hK
 clear h hs hT h2 h3 h4 hp hK hR
 go_enter Tryz.func67, Tryz.ntmps67
 go_wp2
 go_loopw [9] (fun vi wr => DfRel w0 w X K l vS R vi wr) (fun vi _ => l.length - (intOf vi).toNat)
 case atStart => exact HST.out
 case round =>
  clear HST
  obtain ⟨i, si, vTi, hi, rfl, hat, hso, htb, hfr, hres⟩ := hrel
  by_cases hlt2 : i < l.length
  ·obtain ⟨v, ha⟩ : ∃ v, l[i]? = some v := ⟨l[i], List.getElem?_eq_getElem hlt2⟩
   have hgd : l.getD i 0 = v := by rw [List.getD_eq_getElem?_getD, ha]; rfl
   have h2r := hfr.block g _ H2.out H4.out (fun _ _ e => by cases e) (fun _ _ e => by cases e)
   have k0 : wr.cell? ⟨g, i, none⟩ = some (.int .i64 v) := cell_of h2r _ _ (H3.out i v ha)
   have hpv := HP.out v (List.mem_of_getElem? ha)
   have hb1 := hpv.1
   have hb2 := hpv.2
   have hlt3 : (i : Int) < l.length := by omega
   have h03 : (0 : Int) ≤ i := by omega
   have hic : (i : Int) ≤ cap := by omega
   have hic2 : (i : Int) + 1 ≤ l.length := by omega
   have hcap3 : (l.length : Int) ≤ cap := by omega
   have hwi : IntKind.i64.wrap ((i : Int) + 1) = (i : Int) + 1 := wrap_s64 (by omega) (by omega)
   have hi01 : (0 : Int) ≤ (i : Int) + 1 := by omega
   have c6 := hat.f6
   have c5 := hat.f5
   obtain ⟨kv, kf, _, _⟩ := hat.valAt hpv
   by_cases cf : si.fixed v = true
   ·rw [cf] at kf
    obtain ⟨a1, a2⟩ := oneV_bd (hso.L_lt HK.out v)
    have HRES : Hid ((let k := takeS K (si.val v) (l.take i) si; if k.1 then (let k2 := takeS K (k.2.val v) (l.drop (i + 1)) k.2; if k2.1 then diffF K l ((List.range l.length).drop (i + 1)) k2.2 else k2) else k) = R) := by
     rw [Hid, ← hres, range_drop hlt2, diffF, hgd]
     simp only []
     rw [if_pos cf]
    have hin := take_inv HK.out (a := si.val v) (l.take i) hso htb (fun u hu => HP.out u (List.mem_of_mem_take hu))
    have K1 := Kept.mk (sc_take (hat.grown (grown_drew' wr none)) HK.out hso htb (a := si.val v) a1 a2 (XRow.head (cap := cap) (w := wr.drew) h2r H3.out H4.out hlt2) (fun u hu => HP.out u (List.mem_of_mem_take hu)) (by have := List.length_take_le i l; omega))
    generalize hk0 : takeS K (si.val v) (l.take i) si = k at *
    have HH2 := hide h2r
    have HFR := hide hfr
    clear hat hso htb hfr hres hk0 h2r
    have HPV := hide hpv
    obtain ⟨z1, z2⟩ := oneV_bd (hin.1.L_lt HK.out v)
    cases hk : k.1 with
    | false =>
     rw [hk] at K1
     have HR2 : Hid (k = R) := by rw [Hid, ← HRES.out]; simp only [hk]; rfl
     have hk1 : R.1 = false := by rw [← HR2.out]; exact hk
     clear hk HRES hin
     go_wp2
     refine wp_region_any (by kernel_rfl) ?_
     try (change wpAny _ _ _ _ _ _ _ (World.drew _))
     refine tkY (i := 0) (v := ?_) 14 rfl rfl (by kernel_rfl) (fun _ _ _ h => h) (Or.inl ⟨by rfl, ?_⟩) ?_
     rotate_left 1
     ·(intro w; go_simp; try with_reducible rfl)
     (try simp only [Act.put, arS, arZ, arN])
     refine tkY (i := 1) (v := ?_) 15 rfl rfl (by kernel_rfl) (fun _ _ _ h => h) (Or.inl ⟨by rfl, ?_⟩) ?_
     rotate_left 1
     ·(intro w; go_simp; try with_reducible rfl)
     (try simp only [Act.put, arS, arZ, arN])
     refine tkY (i := 2) (v := ?_) 16 rfl rfl (by kernel_rfl) (fun _ _ _ h => h) (Or.inl ⟨by rfl, ?_⟩) ?_
     rotate_left 1
     ·(intro w; go_simp; try with_reducible rfl)
     (try simp only [Act.put, arS, arZ, arN])
     refine tkY (i := 4) (v := ?_) 18 rfl rfl (by kernel_rfl) (fun _ _ _ h => h) (Or.inl ⟨by rfl, ?_⟩) ?_
     rotate_left 1
     ·(intro w; go_simp; try with_reducible rfl)
     (try simp only [Act.put, arS, arZ, arN])
     refine wpAny_ready (rs := [3]) (by kernel_rfl) (by simp) ?_
     refine AllReady.cons rfl (fun K hK => ?_) AllReady.nil
     go_simp
     refine hK _ _ ?_
     clear hK K
     refine tkY (i := 5) (v := ?_) 19 rfl rfl (by kernel_rfl) (fun _ _ _ h => h) (Or.inl ⟨by rfl, ?_⟩) ?_
     rotate_left 1
     ·(intro w; go_simp; try with_reducible rfl)
     (try simp only [Act.put, arS, arZ, arN])
     refine wpAny_ready (rs := [6]) (by kernel_rfl) (by simp) ?_
     refine AllReady.cons rfl (fun K hK => ?_) AllReady.nil
     go_simp
     refine hK _ _ ?_
     clear hK K
     refine tkY (i := 7) (v := ?_) 21 rfl rfl (by kernel_rfl) (fun _ _ _ h => h) (Or.inl ⟨by rfl, ?_⟩) ?_
     rotate_left 1
     ·(intro w; go_simp; try with_reducible rfl)
     (try simp only [Act.put, arS, arZ, arN])
     refine tkY (i := 8) (v := ?_) 22 rfl rfl (by kernel_rfl) (fun _ _ _ h => h) (Or.inl ⟨by rfl, ?_⟩) ?_
     rotate_left 1
     ·(intro w; go_simp; try with_reducible rfl)
     (try simp only [Act.put, arS, arZ, arN])
     refine tkY (i := 9) (v := ?_) 23 rfl rfl (by kernel_rfl) (fun _ _ _ h => h) (Or.inl ⟨by rfl, ?_⟩) ?_
     rotate_left 1
     ·(intro w; go_simp; try with_reducible rfl)
     (try simp only [Act.put, arS, arZ, arN])
     refine tkY (i := 10) (v := ?_) 24 rfl rfl (by kernel_rfl) (fun _ _ _ h => h) (Or.inl ⟨by rfl, ?_⟩) ?_
     rotate_left 1
     ·(intro w; go_simp; try with_reducible rfl)
     (try simp only [Act.put, arS, arZ, arN])
     refine tkY (i := 11) (v := ?_) 25 rfl rfl (by kernel_rfl) (fun _ _ _ h => h) (Or.inl ⟨by rfl, ?_⟩) ?_
     rotate_left 1
     ·(intro w; go_simp; try with_reducible rfl)
     (try simp only [Act.put, arS, arZ, arN])
     refine tkY (i := 13) (v := ?_) 27 rfl rfl (by kernel_rfl) (fun _ _ _ h => h) (Or.inl ⟨by rfl, ?_⟩) ?_
     rotate_left 1
     ·(intro w; go_simp; try with_reducible rfl)
     (try simp only [Act.put, arS, arZ, arN])
     refine tkY (i := 16) (v := ?_) 30 rfl rfl (by kernel_rfl) (fun _ _ _ h => h) (Or.inl ⟨by rfl, ?_⟩) ?_
     rotate_left 1
     ·(intro w; go_simp; try with_reducible rfl)
     (try simp only [Act.put, arS, arZ, arN])
     refine tkY (i := 17) (v := ?_) 31 rfl rfl (by kernel_rfl) (fun _ _ _ h => h) (Or.inl ⟨by rfl, ?_⟩) ?_
     rotate_left 1
     ·(intro w; go_simp; try with_reducible rfl)
     (try simp only [Act.put, arS, arZ, arN])
     refine tkY (i := 18) (v := ?_) 32 rfl rfl (by kernel_rfl) (fun _ _ _ h => h) (Or.inl ⟨by rfl, ?_⟩) ?_
     rotate_left 1
     ·(intro w; go_simp; try with_reducible rfl)
     (try simp only [Act.put, arS, arZ, arN])
     refine wpAny_ready (rs := [12]) (by kernel_rfl) (by simp) ?_
     refine AllReady.cons rfl (fun K hK => ?_) AllReady.nil
     go_simp
     refine hK _ _ ?_
     clear hK K
     refine tkY (i := 14) (v := ?_) 28 rfl rfl (by kernel_rfl) (fun _ _ _ h => h) (Or.inl ⟨by rfl, ?_⟩) ?_
     rotate_left 1
     ·(intro w; go_simp; try with_reducible rfl)
     (try simp only [Act.put, arS, arZ, arN])
     refine wpAny_ready (rs := [15]) (by kernel_rfl) (by simp) ?_
     refine AllReady.cons rfl (fun K hK => ?_) AllReady.nil
     go_simp
     refine hK _ _ ?_
     clear hK K
     refine wpAny_ready (rs := [19]) (by kernel_rfl) (by simp) ?_
     refine AllReady.cons rfl (fun K hK => ?_) AllReady.nil
     go_simp
     go_wp2_with ((go_at_call 108; refine K1.get.mono ?_; rintro e w2 ⟨rfl, ⟨vT2, hs2⟩, hf2⟩; have c52 := hs2.f5; have kv2 := (hs2.valAt HPV.out).1))
     refine tkY (i := 20) (v := ?_) 34 rfl rfl (by kernel_rfl) (fun _ _ _ h => h) (Or.inl ⟨by rfl, ?_⟩) ?_
     rotate_left 1
     ·(intro w; go_simp; try with_reducible rfl)
     (try simp only [Act.put, arS, arZ, arN])
     refine tkY (i := 21) (v := undef) 35 rfl rfl (by kernel_rfl) (fun _ _ _ h => h) (Or.inr ⟨by kernel_rfl, rfl⟩) ?_
     (try simp only [Act.put, arS, arZ, arN])
     refine tkY (i := 22) (v := undef) 36 rfl rfl (by kernel_rfl) (fun _ _ _ h => h) (Or.inr ⟨by kernel_rfl, rfl⟩) ?_
     (try simp only [Act.put, arS, arZ, arN])
     refine tkY (i := 23) (v := undef) 37 rfl rfl (by kernel_rfl) (fun _ _ _ h => h) (Or.inr ⟨by kernel_rfl, rfl⟩) ?_
     (try simp only [Act.put, arS, arZ, arN])
     refine tkY (i := 24) (v := undef) 38 rfl rfl (by kernel_rfl) (fun _ _ _ h => h) (Or.inr ⟨by kernel_rfl, rfl⟩) ?_
     (try simp only [Act.put, arS, arZ, arN])
     refine tkY (i := 25) (v := undef) 39 rfl rfl (by kernel_rfl) (fun _ _ _ h => h) (Or.inr ⟨by kernel_rfl, rfl⟩) ?_
     (try simp only [Act.put, arS, arZ, arN])
     refine tkY (i := 26) (v := undef) 40 rfl rfl (by kernel_rfl) (fun _ _ _ h => h) (Or.inr ⟨by kernel_rfl, rfl⟩) ?_
     (try simp only [Act.put, arS, arZ, arN])
     refine tkY (i := 27) (v := undef) 41 rfl rfl (by kernel_rfl) (fun _ _ _ h => h) (Or.inr ⟨by kernel_rfl, rfl⟩) ?_
     (try simp only [Act.put, arS, arZ, arN])
     refine tkY (i := 28) (v := undef) 42 rfl rfl (by kernel_rfl) (fun _ _ _ h => h) (Or.inr ⟨by kernel_rfl, rfl⟩) ?_
     (try simp only [Act.put, arS, arZ, arN])
     refine tkY (i := 29) (v := undef) 43 rfl rfl (by kernel_rfl) (fun _ _ _ h => h) (Or.inr ⟨by kernel_rfl, rfl⟩) ?_
     (try simp only [Act.put, arS, arZ, arN])
     refine tkY (i := 30) (v := undef) 44 rfl rfl (by kernel_rfl) (fun _ _ _ h => h) (Or.inr ⟨by kernel_rfl, rfl⟩) ?_
     (try simp only [Act.put, arS, arZ, arN])
     refine tkY (i := 31) (v := undef) 45 rfl rfl (by kernel_rfl) (fun _ _ _ h => h) (Or.inr ⟨by kernel_rfl, rfl⟩) ?_
     (try simp only [Act.put, arS, arZ, arN])
     refine tkY (i := 32) (v := undef) 46 rfl rfl (by kernel_rfl) (fun _ _ _ h => h) (Or.inr ⟨by kernel_rfl, rfl⟩) ?_
     (try simp only [Act.put, arS, arZ, arN])
     refine tkY (i := 33) (v := undef) 47 rfl rfl (by kernel_rfl) (fun _ _ _ h => h) (Or.inr ⟨by kernel_rfl, rfl⟩) ?_
     (try simp only [Act.put, arS, arZ, arN])
     refine tkY (i := 34) (v := ?_) 48 rfl rfl (by kernel_rfl) (fun _ _ _ h => h) (Or.inl ⟨by rfl, ?_⟩) ?_
     rotate_left 1
     ·(intro w; go_simp; try with_reducible rfl)
     (try simp only [Act.put, arS, arZ, arN])
     refine tkY (i := 35) (v := ?_) 49 rfl rfl (by kernel_rfl) (fun _ _ _ h => h) (Or.inl ⟨by rfl, ?_⟩) ?_
     rotate_left 1
     ·(intro w; go_simp; try with_reducible rfl)
     (try simp only [Act.put, arS, arZ, arN])
     refine tkY (i := 36) (v := ?_) 50 rfl rfl (by kernel_rfl) (fun _ _ _ h => h) (Or.inl ⟨by rfl, ?_⟩) ?_
     rotate_left 1
     ·(intro w; go_simp; try with_reducible rfl)
     (try simp only [Act.put, arS, arZ, arN])
     refine wpAny_done (by kernel_rfl) ?_ _
     go_wp2
     go_ret
     rw [hk1, ← HR2.out]
     exact ⟨rfl, ⟨_, hs2⟩, HFR.out.trans ((FrS.grown (grown_drew' _ _)).trans hf2)⟩
    | true =>
     rw [hk] at K1
     have HR2 : Hid ((let k2 := takeS K (k.2.val v) (l.drop (i + 1)) k.2; if k2.1 then diffF K l ((List.range l.length).drop (i + 1)) k2.2 else k2) = R) := by rw [Hid, ← HRES.out]; simp only [hk, if_true]
     have K2 := Kept.mk (fun {W : World} {vT2 : Value} (q : SAt w0 W X K k.2 vT2 vS) (hb : W.heap[g]? = some (.cells cells 3 (0, 0))) => sc_take q HK.out hin.1 hin.2 (a := k.2.val v) z1 z2 (XRow.tail hb H3.out H4.out hlt2 hcap rfl) (fun u hu => HP.out u (List.mem_of_mem_drop hu)) (by simp; omega))
     obtain ⟨A, hA⟩ : ∃ A, (if cap = i + 1 then some (⟨g, 0, none⟩ : Addr) else some ⟨g, i + 1, none⟩) = A := ⟨_, rfl⟩
     rw [hA] at K2
     have hin2 := take_inv HK.out (a := k.2.val v) (l.drop (i + 1)) hin.1 hin.2 (fun u hu => HP.out u (List.mem_of_mem_drop hu))
     have HI2 := hide hin2
     clear hk HRES hin hin2
     go_wp2
     refine wp_region_any (by kernel_rfl) ?_
     try (change wpAny _ _ _ _ _ _ _ (World.drew _))
     refine tkY (i := 0) (v := ?_) 14 rfl rfl (by kernel_rfl) (fun _ _ _ h => h) (Or.inl ⟨by rfl, ?_⟩) ?_
     rotate_left 1
     ·(intro w; go_simp; try with_reducible rfl)
     (try simp only [Act.put, arS, arZ, arN])
     refine tkY (i := 1) (v := ?_) 15 rfl rfl (by kernel_rfl) (fun _ _ _ h => h) (Or.inl ⟨by rfl, ?_⟩) ?_
     rotate_left 1
     ·(intro w; go_simp; try with_reducible rfl)
     (try simp only [Act.put, arS, arZ, arN])
     refine tkY (i := 2) (v := ?_) 16 rfl rfl (by kernel_rfl) (fun _ _ _ h => h) (Or.inl ⟨by rfl, ?_⟩) ?_
     rotate_left 1
     ·(intro w; go_simp; try with_reducible rfl)
     (try simp only [Act.put, arS, arZ, arN])
     refine tkY (i := 4) (v := ?_) 18 rfl rfl (by kernel_rfl) (fun _ _ _ h => h) (Or.inl ⟨by rfl, ?_⟩) ?_
     rotate_left 1
     ·(intro w; go_simp; try with_reducible rfl)
     (try simp only [Act.put, arS, arZ, arN])
     refine wpAny_ready (rs := [3]) (by kernel_rfl) (by simp) ?_
     refine AllReady.cons rfl (fun K hK => ?_) AllReady.nil
     go_simp
     refine hK _ _ ?_
     clear hK K
     refine tkY (i := 5) (v := ?_) 19 rfl rfl (by kernel_rfl) (fun _ _ _ h => h) (Or.inl ⟨by rfl, ?_⟩) ?_
     rotate_left 1
     ·(intro w; go_simp; try with_reducible rfl)
     (try simp only [Act.put, arS, arZ, arN])
     refine wpAny_ready (rs := [6]) (by kernel_rfl) (by simp) ?_
     refine AllReady.cons rfl (fun K hK => ?_) AllReady.nil
     go_simp
     refine hK _ _ ?_
     clear hK K
     refine tkY (i := 7) (v := ?_) 21 rfl rfl (by kernel_rfl) (fun _ _ _ h => h) (Or.inl ⟨by rfl, ?_⟩) ?_
     rotate_left 1
     ·(intro w; go_simp; try with_reducible rfl)
     (try simp only [Act.put, arS, arZ, arN])
     refine tkY (i := 8) (v := ?_) 22 rfl rfl (by kernel_rfl) (fun _ _ _ h => h) (Or.inl ⟨by rfl, ?_⟩) ?_
     rotate_left 1
     ·(intro w; go_simp; try with_reducible rfl)
     (try simp only [Act.put, arS, arZ, arN])
     refine tkY (i := 9) (v := ?_) 23 rfl rfl (by kernel_rfl) (fun _ _ _ h => h) (Or.inl ⟨by rfl, ?_⟩) ?_
     rotate_left 1
     ·(intro w; go_simp; try with_reducible rfl)
     (try simp only [Act.put, arS, arZ, arN])
     refine tkY (i := 10) (v := ?_) 24 rfl rfl (by kernel_rfl) (fun _ _ _ h => h) (Or.inl ⟨by rfl, ?_⟩) ?_
     rotate_left 1
     ·(intro w; go_simp; try with_reducible rfl)
     (try simp only [Act.put, arS, arZ, arN])
     refine tkY (i := 11) (v := ?_) 25 rfl rfl (by kernel_rfl) (fun _ _ _ h => h) (Or.inl ⟨by rfl, ?_⟩) ?_
     rotate_left 1
     ·(intro w; go_simp; try with_reducible rfl)
     (try simp only [Act.put, arS, arZ, arN])
     refine tkY (i := 13) (v := ?_) 27 rfl rfl (by kernel_rfl) (fun _ _ _ h => h) (Or.inl ⟨by rfl, ?_⟩) ?_
     rotate_left 1
     ·(intro w; go_simp; try with_reducible rfl)
     (try simp only [Act.put, arS, arZ, arN])
     refine tkY (i := 16) (v := ?_) 30 rfl rfl (by kernel_rfl) (fun _ _ _ h => h) (Or.inl ⟨by rfl, ?_⟩) ?_
     rotate_left 1
     ·(intro w; go_simp; try with_reducible rfl)
     (try simp only [Act.put, arS, arZ, arN])
     refine tkY (i := 17) (v := ?_) 31 rfl rfl (by kernel_rfl) (fun _ _ _ h => h) (Or.inl ⟨by rfl, ?_⟩) ?_
     rotate_left 1
     ·(intro w; go_simp; try with_reducible rfl)
     (try simp only [Act.put, arS, arZ, arN])
     refine tkY (i := 18) (v := ?_) 32 rfl rfl (by kernel_rfl) (fun _ _ _ h => h) (Or.inl ⟨by rfl, ?_⟩) ?_
     rotate_left 1
     ·(intro w; go_simp; try with_reducible rfl)
     (try simp only [Act.put, arS, arZ, arN])
     refine wpAny_ready (rs := [12]) (by kernel_rfl) (by simp) ?_
     refine AllReady.cons rfl (fun K hK => ?_) AllReady.nil
     go_simp
     refine hK _ _ ?_
     clear hK K
     refine tkY (i := 14) (v := ?_) 28 rfl rfl (by kernel_rfl) (fun _ _ _ h => h) (Or.inl ⟨by rfl, ?_⟩) ?_
     rotate_left 1
     ·(intro w; go_simp; try with_reducible rfl)
     (try simp only [Act.put, arS, arZ, arN])
     refine wpAny_ready (rs := [15]) (by kernel_rfl) (by simp) ?_
     refine AllReady.cons rfl (fun K hK => ?_) AllReady.nil
     go_simp
     refine hK _ _ ?_
     clear hK K
     refine wpAny_ready (rs := [19]) (by kernel_rfl) (by simp) ?_
     refine AllReady.cons rfl (fun K hK => ?_) AllReady.nil
     go_simp
     go_wp2_with ((go_at_call 108; refine K1.get.mono ?_; rintro e w2 ⟨rfl, ⟨vT2, hs2⟩, hf2⟩; have c52 := hs2.f5; have kv2 := (hs2.valAt HPV.out).1))
     refine tkY (i := 20) (v := ?_) 34 rfl rfl (by kernel_rfl) (fun _ _ _ h => h) (Or.inl ⟨by rfl, ?_⟩) ?_
     rotate_left 1
     ·(intro w; go_simp; try with_reducible rfl)
     (try simp only [Act.put, arS, arZ, arN])
     refine tkY (i := 21) (v := ?_) 35 rfl rfl (by kernel_rfl) (fun _ _ _ h => h) (Or.inl ⟨by rfl, ?_⟩) ?_
     rotate_left 1
     ·(intro w; go_simp; try with_reducible rfl)
     (try simp only [Act.put, arS, arZ, arN])
     refine tkY (i := 22) (v := ?_) 36 rfl rfl (by kernel_rfl) (fun _ _ _ h => h) (Or.inl ⟨by rfl, ?_⟩) ?_
     rotate_left 1
     ·(intro w; go_simp; try with_reducible rfl)
     (try simp only [Act.put, arS, arZ, arN])
     refine tkY (i := 23) (v := ?_) 37 rfl rfl (by kernel_rfl) (fun _ _ _ h => h) (Or.inl ⟨by rfl, ?_⟩) ?_
     rotate_left 1
     ·(intro w; go_simp; try with_reducible rfl)
     (try simp only [Act.put, arS, arZ, arN])
     refine tkY (i := 24) (v := ?_) 38 rfl rfl (by kernel_rfl) (fun _ _ _ h => h) (Or.inl ⟨by rfl, ?_⟩) ?_
     rotate_left 1
     ·(intro w; go_simp; try with_reducible rfl)
     (try simp only [Act.put, arS, arZ, arN])
     refine tkY (i := 26) (v := ?_) 40 rfl rfl (by kernel_rfl) (fun _ _ _ h => h) (Or.inl ⟨by rfl, ?_⟩) ?_
     rotate_left 1
     ·(intro w; go_simp; try with_reducible rfl)
     (try simp only [Act.put, arS, arZ, arN])
     refine tkY (i := 29) (v := ?_) 43 rfl rfl (by kernel_rfl) (fun _ _ _ h => h) (Or.inl ⟨by rfl, ?_⟩) ?_
     rotate_left 1
     ·(intro w; go_simp; try with_reducible rfl)
     (try simp only [Act.put, arS, arZ, arN])
     refine tkY (i := 30) (v := ?_) 44 rfl rfl (by kernel_rfl) (fun _ _ _ h => h) (Or.inl ⟨by rfl, ?_⟩) ?_
     rotate_left 1
     ·(intro w; go_simp; try with_reducible rfl)
     (try simp only [Act.put, arS, arZ, arN])
     refine tkY (i := 31) (v := ?_) 45 rfl rfl (by kernel_rfl) (fun _ _ _ h => h) (Or.inl ⟨by rfl, ?_⟩) ?_
     rotate_left 1
     ·(intro w; go_simp; try with_reducible rfl)
     (try simp only [Act.put, arS, arZ, arN])
     refine tkY (i := 32) (v := ?_) 46 rfl rfl (by kernel_rfl) (fun _ _ _ h => h) (Or.inl ⟨by rfl, ?_⟩) ?_
     rotate_left 1
     ·(intro w; go_simp; try with_reducible rfl)
     (try simp only [Act.put, arS, arZ, arN])
     refine wpAny_ready (rs := [25]) (by kernel_rfl) (by simp) ?_
     refine AllReady.cons rfl (fun K hK => ?_) AllReady.nil
     go_simp
     refine hK _ _ ?_
     clear hK K
     refine tkY (i := 27) (v := ?_) 41 rfl rfl (by kernel_rfl) (fun _ _ _ h => h) (Or.inl ⟨by rfl, ?_⟩) ?_
     rotate_left 1
     ·(intro w; go_simp; try with_reducible rfl)
     (try simp only [Act.put, arS, arZ, arN])
     refine wpAny_ready (rs := [28]) (by kernel_rfl) (by simp) ?_
     refine AllReady.cons rfl (fun K hK => ?_) AllReady.nil
     go_simp
     refine hK _ _ ?_
     clear hK K
     cases hk2 : (takeS K (k.2.val v) (l.drop (i + 1)) k.2).1 with
     | false =>
      have HR3 : Hid (takeS K (k.2.val v) (l.drop (i + 1)) k.2 = R) := by rw [Hid, ← HR2.out]; simp only [hk2]; rfl
      have hk1 : R.1 = false := by rw [← HR3.out]; exact hk2
      rw [hk2] at K2
      clear hk2 HR2
      refine wpAny_ready (rs := [33]) (by kernel_rfl) (by simp) ?_
      refine AllReady.cons rfl (fun K hK => ?_) AllReady.nil
      go_simp
      go_wp2_with ((go_at_call 108; refine (K2.get hs2 (hf2.block g _ HH2.out H4.out (fun _ _ e => by cases e) (fun _ _ e => by cases e))).mono ?_; rintro e w3 ⟨rfl, hs3, hf3⟩))
      refine tkY (i := 34) (v := ?_) 48 rfl rfl (by kernel_rfl) (fun _ _ _ h => h) (Or.inl ⟨by rfl, ?_⟩) ?_
      rotate_left 1
      ·(intro w; go_simp; try with_reducible rfl)
      (try simp only [Act.put, arS, arZ, arN])
      refine tkY (i := 35) (v := ?_) 49 rfl rfl (by kernel_rfl) (fun _ _ _ h => h) (Or.inl ⟨by rfl, ?_⟩) ?_
      rotate_left 1
      ·(intro w; go_simp; try with_reducible rfl)
      (try simp only [Act.put, arS, arZ, arN])
      refine tkY (i := 36) (v := ?_) 50 rfl rfl (by kernel_rfl) (fun _ _ _ h => h) (Or.inl ⟨by rfl, ?_⟩) ?_
      rotate_left 1
      ·(intro w; go_simp; try with_reducible rfl)
      (try simp only [Act.put, arS, arZ, arN])
      refine wpAny_done (by kernel_rfl) ?_ _
      go_wp2
      go_ret
      rw [hk1, ← HR3.out]
      exact ⟨rfl, hs3, HFR.out.trans (((FrS.grown (grown_drew' _ _)).trans hf2).trans hf3)⟩
     | true =>
      have HR3 : Hid (diffF K l ((List.range l.length).drop (i + 1)) (takeS K (k.2.val v) (l.drop (i + 1)) k.2).2 = R) := by rw [Hid, ← HR2.out]; simp only [hk2, if_true]
      rw [hk2] at K2
      clear hk2 HR2
      refine wpAny_ready (rs := [33]) (by kernel_rfl) (by simp) ?_
      refine AllReady.cons rfl (fun K hK => ?_) AllReady.nil
      go_simp
      go_wp2_with ((go_at_call 108; refine (K2.get hs2 (hf2.block g _ HH2.out H4.out (fun _ _ e => by cases e) (fun _ _ e => by cases e))).mono ?_; rintro e w3 ⟨rfl, hs3, hf3⟩))
      refine tkY (i := 34) (v := ?_) 48 rfl rfl (by kernel_rfl) (fun _ _ _ h => h) (Or.inl ⟨by rfl, ?_⟩) ?_
      rotate_left 1
      ·(intro w; go_simp; try with_reducible rfl)
      (try simp only [Act.put, arS, arZ, arN])
      refine tkY (i := 35) (v := ?_) 49 rfl rfl (by kernel_rfl) (fun _ _ _ h => h) (Or.inl ⟨by rfl, ?_⟩) ?_
      rotate_left 1
      ·(intro w; go_simp; try with_reducible rfl)
      (try simp only [Act.put, arS, arZ, arN])
      refine tkY (i := 36) (v := ?_) 50 rfl rfl (by kernel_rfl) (fun _ _ _ h => h) (Or.inl ⟨by rfl, ?_⟩) ?_
      rotate_left 1
      ·(intro w; go_simp; try with_reducible rfl)
      (try simp only [Act.put, arS, arZ, arN])
      refine wpAny_done (by kernel_rfl) ?_ _
      go_wp2
      go_roundw
      case rel =>
       obtain ⟨vT3, hs3⟩ := hs3
       exact ⟨i + 1, _, vT3, by omega, by go_num, hs3, HI2.out.1, HI2.out.2, HFR.out.trans (((FrS.grown (grown_drew' _ _)).trans hf2).trans hf3), HR3.out⟩
      case measure => simp [intOf]; omega
   ·have cf' : si.fixed v = false := by simpa using cf
    rw [cf'] at kf
    have HR2 : Hid (diffF K l ((List.range l.length).drop (i + 1)) si = R) := by
     rw [Hid, ← hres, range_drop hlt2, diffF, hgd]
     simp only []
     rw [if_neg cf]
    have HAT := hide (hat.grown (grown_drew' wr none))
    have HSI : Hid (SOk K si ∧ TB si) := ⟨hso, htb⟩
    have HFR := hide hfr
    clear hat hso htb hfr hres h2r cf cf'
    go_wp2
    refine wp_region_any (by kernel_rfl) ?_
    try (change wpAny _ _ _ _ _ _ _ (World.drew _))
    refine tkY (i := 0) (v := ?_) 14 rfl rfl (by kernel_rfl) (fun _ _ _ h => h) (Or.inl ⟨by rfl, ?_⟩) ?_
    rotate_left 1
    ·(intro w; go_simp; try with_reducible rfl)
    (try simp only [Act.put, arS, arZ, arN])
    refine tkY (i := 1) (v := ?_) 15 rfl rfl (by kernel_rfl) (fun _ _ _ h => h) (Or.inl ⟨by rfl, ?_⟩) ?_
    rotate_left 1
    ·(intro w; go_simp; try with_reducible rfl)
    (try simp only [Act.put, arS, arZ, arN])
    refine tkY (i := 2) (v := ?_) 16 rfl rfl (by kernel_rfl) (fun _ _ _ h => h) (Or.inl ⟨by rfl, ?_⟩) ?_
    rotate_left 1
    ·(intro w; go_simp; try with_reducible rfl)
    (try simp only [Act.put, arS, arZ, arN])
    refine tkY (i := 4) (v := ?_) 18 rfl rfl (by kernel_rfl) (fun _ _ _ h => h) (Or.inl ⟨by rfl, ?_⟩) ?_
    rotate_left 1
    ·(intro w; go_simp; try with_reducible rfl)
    (try simp only [Act.put, arS, arZ, arN])
    refine wpAny_ready (rs := [3]) (by kernel_rfl) (by simp) ?_
    refine AllReady.cons rfl (fun K hK => ?_) AllReady.nil
    go_simp
    refine hK _ _ ?_
    clear hK K
    refine tkY (i := 5) (v := ?_) 19 rfl rfl (by kernel_rfl) (fun _ _ _ h => h) (Or.inl ⟨by rfl, ?_⟩) ?_
    rotate_left 1
    ·(intro w; go_simp; try with_reducible rfl)
    (try simp only [Act.put, arS, arZ, arN])
    refine wpAny_ready (rs := [6]) (by kernel_rfl) (by simp) ?_
    refine AllReady.cons rfl (fun K hK => ?_) AllReady.nil
    go_simp
    refine hK _ _ ?_
    clear hK K
    refine tkY (i := 7) (v := ?_) 21 rfl rfl (by kernel_rfl) (fun _ _ _ h => h) (Or.inl ⟨by rfl, ?_⟩) ?_
    rotate_left 1
    ·(intro w; go_simp; try with_reducible rfl)
    (try simp only [Act.put, arS, arZ, arN])
    refine tkY (i := 8) (v := undef) 22 rfl rfl (by kernel_rfl) (fun _ _ _ h => h) (Or.inr ⟨by kernel_rfl, rfl⟩) ?_
    (try simp only [Act.put, arS, arZ, arN])
    refine tkY (i := 9) (v := undef) 23 rfl rfl (by kernel_rfl) (fun _ _ _ h => h) (Or.inr ⟨by kernel_rfl, rfl⟩) ?_
    (try simp only [Act.put, arS, arZ, arN])
    refine tkY (i := 10) (v := undef) 24 rfl rfl (by kernel_rfl) (fun _ _ _ h => h) (Or.inr ⟨by kernel_rfl, rfl⟩) ?_
    (try simp only [Act.put, arS, arZ, arN])
    refine tkY (i := 11) (v := undef) 25 rfl rfl (by kernel_rfl) (fun _ _ _ h => h) (Or.inr ⟨by kernel_rfl, rfl⟩) ?_
    (try simp only [Act.put, arS, arZ, arN])
    refine tkY (i := 12) (v := undef) 26 rfl rfl (by kernel_rfl) (fun _ _ _ h => h) (Or.inr ⟨by kernel_rfl, rfl⟩) ?_
    (try simp only [Act.put, arS, arZ, arN])
    refine tkY (i := 13) (v := undef) 27 rfl rfl (by kernel_rfl) (fun _ _ _ h => h) (Or.inr ⟨by kernel_rfl, rfl⟩) ?_
    (try simp only [Act.put, arS, arZ, arN])
    refine tkY (i := 14) (v := undef) 28 rfl rfl (by kernel_rfl) (fun _ _ _ h => h) (Or.inr ⟨by kernel_rfl, rfl⟩) ?_
    (try simp only [Act.put, arS, arZ, arN])
    refine tkY (i := 15) (v := undef) 29 rfl rfl (by kernel_rfl) (fun _ _ _ h => h) (Or.inr ⟨by kernel_rfl, rfl⟩) ?_
    (try simp only [Act.put, arS, arZ, arN])
    refine tkY (i := 16) (v := undef) 30 rfl rfl (by kernel_rfl) (fun _ _ _ h => h) (Or.inr ⟨by kernel_rfl, rfl⟩) ?_
    (try simp only [Act.put, arS, arZ, arN])
    refine tkY (i := 17) (v := undef) 31 rfl rfl (by kernel_rfl) (fun _ _ _ h => h) (Or.inr ⟨by kernel_rfl, rfl⟩) ?_
    (try simp only [Act.put, arS, arZ, arN])
    refine tkY (i := 18) (v := undef) 32 rfl rfl (by kernel_rfl) (fun _ _ _ h => h) (Or.inr ⟨by kernel_rfl, rfl⟩) ?_
    (try simp only [Act.put, arS, arZ, arN])
    refine tkY (i := 19) (v := undef) 33 rfl rfl (by kernel_rfl) (fun _ _ _ h => h) (Or.inr ⟨by kernel_rfl, rfl⟩) ?_
    (try simp only [Act.put, arS, arZ, arN])
    refine tkY (i := 20) (v := undef) 34 rfl rfl (by kernel_rfl) (fun _ _ _ h => h) (Or.inr ⟨by kernel_rfl, rfl⟩) ?_
    (try simp only [Act.put, arS, arZ, arN])
    refine tkY (i := 21) (v := undef) 35 rfl rfl (by kernel_rfl) (fun _ _ _ h => h) (Or.inr ⟨by kernel_rfl, rfl⟩) ?_
    (try simp only [Act.put, arS, arZ, arN])
    refine tkY (i := 22) (v := undef) 36 rfl rfl (by kernel_rfl) (fun _ _ _ h => h) (Or.inr ⟨by kernel_rfl, rfl⟩) ?_
    (try simp only [Act.put, arS, arZ, arN])
    refine tkY (i := 23) (v := undef) 37 rfl rfl (by kernel_rfl) (fun _ _ _ h => h) (Or.inr ⟨by kernel_rfl, rfl⟩) ?_
    (try simp only [Act.put, arS, arZ, arN])
    refine tkY (i := 24) (v := undef) 38 rfl rfl (by kernel_rfl) (fun _ _ _ h => h) (Or.inr ⟨by kernel_rfl, rfl⟩) ?_
    (try simp only [Act.put, arS, arZ, arN])
    refine tkY (i := 25) (v := undef) 39 rfl rfl (by kernel_rfl) (fun _ _ _ h => h) (Or.inr ⟨by kernel_rfl, rfl⟩) ?_
    (try simp only [Act.put, arS, arZ, arN])
    refine tkY (i := 26) (v := undef) 40 rfl rfl (by kernel_rfl) (fun _ _ _ h => h) (Or.inr ⟨by kernel_rfl, rfl⟩) ?_
    (try simp only [Act.put, arS, arZ, arN])
    refine tkY (i := 27) (v := undef) 41 rfl rfl (by kernel_rfl) (fun _ _ _ h => h) (Or.inr ⟨by kernel_rfl, rfl⟩) ?_
    (try simp only [Act.put, arS, arZ, arN])
    refine tkY (i := 28) (v := undef) 42 rfl rfl (by kernel_rfl) (fun _ _ _ h => h) (Or.inr ⟨by kernel_rfl, rfl⟩) ?_
    (try simp only [Act.put, arS, arZ, arN])
    refine tkY (i := 29) (v := undef) 43 rfl rfl (by kernel_rfl) (fun _ _ _ h => h) (Or.inr ⟨by kernel_rfl, rfl⟩) ?_
    (try simp only [Act.put, arS, arZ, arN])
    refine tkY (i := 30) (v := undef) 44 rfl rfl (by kernel_rfl) (fun _ _ _ h => h) (Or.inr ⟨by kernel_rfl, rfl⟩) ?_
    (try simp only [Act.put, arS, arZ, arN])
    refine tkY (i := 31) (v := undef) 45 rfl rfl (by kernel_rfl) (fun _ _ _ h => h) (Or.inr ⟨by kernel_rfl, rfl⟩) ?_
    (try simp only [Act.put, arS, arZ, arN])
    refine tkY (i := 32) (v := undef) 46 rfl rfl (by kernel_rfl) (fun _ _ _ h => h) (Or.inr ⟨by kernel_rfl, rfl⟩) ?_
    (try simp only [Act.put, arS, arZ, arN])
    refine tkY (i := 33) (v := undef) 47 rfl rfl (by kernel_rfl) (fun _ _ _ h => h) (Or.inr ⟨by kernel_rfl, rfl⟩) ?_
    (try simp only [Act.put, arS, arZ, arN])
    refine tkY (i := 34) (v := undef) 48 rfl rfl (by kernel_rfl) (fun _ _ _ h => h) (Or.inr ⟨by kernel_rfl, rfl⟩) ?_
    (try simp only [Act.put, arS, arZ, arN])
    refine tkY (i := 35) (v := undef) 49 rfl rfl (by kernel_rfl) (fun _ _ _ h => h) (Or.inr ⟨by kernel_rfl, rfl⟩) ?_
    (try simp only [Act.put, arS, arZ, arN])
    refine tkY (i := 36) (v := ?_) 50 rfl rfl (by kernel_rfl) (fun _ _ _ h => h) (Or.inl ⟨by rfl, ?_⟩) ?_
    rotate_left 1
    ·(intro w; go_simp; try with_reducible rfl)
    (try simp only [Act.put, arS, arZ, arN])
    refine wpAny_done (by kernel_rfl) ?_ _
    go_wp2
    go_roundw
    case rel => exact ⟨i + 1, si, vTi, by omega, by go_num, HAT.out, HSI.out.1, HSI.out.2, HFR.out.trans (FrS.grown (grown_drew' _ _)), HR2.out⟩
    case measure => simp [intOf]; omega
  ·obtain rfl : i = l.length := by omega
   have e : R = (true, si) := by rw [← hres, List.drop_of_length_le (by simp)]; rfl
   subst e
   go_wp2
   go_ret
   exact ⟨rfl, ⟨_, hat⟩, hfr⟩
end
end Go.Proofs.YthpcbbnabnlanabGreatDoor
