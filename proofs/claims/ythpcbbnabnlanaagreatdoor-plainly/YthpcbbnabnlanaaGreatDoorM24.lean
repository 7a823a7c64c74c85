import Derived.Test.YthpcbbnabnlanaaGreatDoorM23
namespace Go.Proofs.YthpcbbnabnlanaaGreatDoor
set_option linter.unusedVariables false
set_option linter.unusedSimpArgs false
section
open Go.RowKit
variable {w0 w w' w'' : World} {X : SL} {K : SK} {s : SS} {vT vS : Value}
theorem chooseF_append (e : SS → Bool × SS) (v : Int) : ∀ (xs ys : List Int) (s : SS),chooseF K e v (xs ++ ys) s = if (chooseF K e v xs s).1 then chooseF K e v ys (chooseF K e v xs s).2 else chooseF K e v xs s
 | [],ys,s => by simp [chooseF]
 | x :: xs,ys,s => by
  rw [List.cons_append,chooseF,chooseF]
  simp only []
  split
  ·split
   ·exact chooseF_append e v xs ys _
   ·rfl
  ·exact chooseF_append e v xs ys _
theorem choose_step (hK : KOk K) {n : Nat} (hN : Node K s) (hop : openN s ≤ n) {v : Int} (hv : PlOk K.vars.length v) (hof : s.fixed v = false) {x : Int} (hx : x ∈ valsD (s.L v)) {si : SS} (h : chooseF K (enterF K n) v [x] s = (true,si)) : Node K si ∧ si.left = s.left ∧ si.trail = s.trail := by
 have hl : v.toNat < s.left.length := by have := hN.ok.ll;have := hv.1;have := hv.2;omega
 have key : ∃ r,chooseF K (enterF K n) v [x] s = r ∧ (r.1 = true → r.2.left = s.left ∧ r.2.trail = s.trail ∧ r.2.marked = s.marked) := by
  refine ⟨_,rfl,fun hr => ?_⟩
  rw [chooseF] at hr ⊢
  simp only [] at hr ⊢
  have hs := hN.ok
  obtain ⟨x1,x2,x3⟩ := (has_vals (hs.L_lt hK v)).1 hx
  have hne : bitV x ≠ s.L v := fun q => by unfold SS.fixed at hof;rw [← q,oneB_bit x1 x2] at hof;cases hof
  have hput := put_ref hK hs hv (D := bitV x) (fun j h => by rw [bitV_bit] at h;rw [← of_decide_eq_true h];exact x3) (bitV_ne x) hne
  have hs1 := hput.ok hs
  have hF1 : FixOk K (putS K v (bitV x) s) := fun i c hc hk => by
   obtain ⟨m1,m2⟩ := hput.mrk i hk
   obtain ⟨s0,a1,a2,a3⟩ := hN.fix i c hc m1
   exact ⟨s0,a1,fun u hu => (a2 u hu).trans (m2 u hu).symm,a3⟩
  obtain ⟨c1,c2,c3,c4⟩ := concS_ok hK hs1 hF1
  have hR : RefL s (concS K (putS K v (bitV x) s)).2 := hput.toL.trans c1
  have hopen : openN (concS K (putS K v (bitV x) s)).2 < n := by
   have h1 := c1.open_le hK hs1
   have h2 : openN (putS K v (bitV x) s) + 1 = openN s := countP_set' (p := fun D => !oneB D) hl (by have : oneB (s.left.getD v.toNat 0) = false := hof;rw [this];rfl) (by rw [oneB_bit x1 x2];rfl)
   omega
  by_cases c : (concS K (putS K v (bitV x) s)).1 = true
  ·rw [if_pos c] at hr ⊢
   obtain ⟨new,o⟩ := enter_ok hK n ⟨c1.ok hs1,c4 c,c3⟩ hopen
   generalize enterF K n (concS K (putS K v (bitV x) s)).2 = g at *
   by_cases cg : g.1 = true
   ·rw [if_pos cg] at hr ⊢
    obtain ⟨t1,t2,t3,t4,t5⟩ := o.tt cg
    rw [chooseF]
    have hback : backS s.trail.length g.2 = { g.2 with trail := s.trail,left := s.left } := by
     obtain ⟨t,a1,a2⟩ := hR.tr
     unfold backS
     have htr : g.2.trail = s.trail ++ t := by rw [t2,a1]
     rw [htr,List.length_append,Nat.add_sub_cancel_left,undo_pop t.length t rfl s.trail g.2 htr,t1,a2]
    rw [hback]
    exact ⟨rfl,rfl,t3.trans (nomark_eq (by rw [hR.ml]) c3 hN.no)⟩
   ·rw [if_neg cg] at hr
    exact absurd hr cg
  ·rw [if_neg c,chooseF,back_ref hR]
   exact ⟨rfl,rfl,nomark_eq (by rw [hR.ml]) c3 hN.no⟩
 obtain ⟨r,hr1,hr2⟩ := key
 rw [h] at hr1
 subst hr1
 obtain ⟨a,b,c⟩ := hr2 rfl
 exact ⟨hN.same a c,a,b⟩
theorem body_facts (hK : KOk K) {n : Nat} (hN : Node K s) (hT : TB s) (hop : openN s ≤ n) {v : Int} (hv : PlOk K.vars.length v) (hof : s.fixed v = false) {x : Int} (hx : x ∈ valsD (s.L v)) : (SOk K (putS K v (bitV x) s) ∧ TB (putS K v (bitV x) s)) ∧ (SOk K (concS K (putS K v (bitV x) s)).2 ∧ TB (concS K (putS K v (bitV x) s)).2) ∧ s.trail.length ≤ (concS K (putS K v (bitV x) s)).2.trail.length ∧ (concS K (putS K v (bitV x) s)).2.sols = s.sols ∧ (concS K (putS K v (bitV x) s)).2.nodes = s.nodes ∧ ((concS K (putS K v (bitV x) s)).1 = true → Node K (concS K (putS K v (bitV x) s)).2 ∧ openN (concS K (putS K v (bitV x) s)).2 < n ∧ ((enterF K n (concS K (putS K v (bitV x) s)).2).1 = true → (enterF K n (concS K (putS K v (bitV x) s)).2).2.left = (concS K (putS K v (bitV x) s)).2.left ∧ (enterF K n (concS K (putS K v (bitV x) s)).2).2.trail = (concS K (putS K v (bitV x) s)).2.trail)) := by
 have hl : v.toNat < s.left.length := by have := hN.ok.ll;have := hv.1;have := hv.2;omega
 have hs := hN.ok
 obtain ⟨x1,x2,x3⟩ := (has_vals (hs.L_lt hK v)).1 hx
 have hne : bitV x ≠ s.L v := fun q => by unfold SS.fixed at hof;rw [← q,oneB_bit x1 x2] at hof;cases hof
 have hsub : ∀ j,(bitV x).testBit j = true → (s.L v).testBit j = true := fun j h => by rw [bitV_bit] at h;rw [← of_decide_eq_true h];exact x3
 have hput := put_ref hK hs hv (D := bitV x) hsub (bitV_ne x) hne
 have hs1 := hput.ok hs
 have hT1 := put_tb hK hs hv hsub hne hT
 have hF1 : FixOk K (putS K v (bitV x) s) := fun i c hc hk => by
  obtain ⟨m1,m2⟩ := hput.mrk i hk
  obtain ⟨s0,a1,a2,a3⟩ := hN.fix i c hc m1
  exact ⟨s0,a1,fun u hu => (a2 u hu).trans (m2 u hu).symm,a3⟩
 obtain ⟨c1,c2,c3,c4⟩ := concS_ok hK hs1 hF1
 have hR : RefL s (concS K (putS K v (bitV x) s)).2 := hput.toL.trans c1
 have hopen : openN (concS K (putS K v (bitV x) s)).2 < n := by
  have h1 := c1.open_le hK hs1
  have h2 : openN (putS K v (bitV x) s) + 1 = openN s := countP_set' (p := fun D => !oneB D) hl (by have : oneB (s.left.getD v.toNat 0) = false := hof;rw [this];rfl) (by rw [oneB_bit x1 x2];rfl)
  omega
 refine ⟨⟨hs1,hT1⟩,conc_inv hK hs1 hT1,?_,hR.sols,hR.nodes,fun c => ⟨⟨c1.ok hs1,c4 c,c3⟩,hopen,fun cg => ?_⟩⟩
 ·obtain ⟨t,a1,_⟩ := hR.tr
  rw [a1,List.length_append];omega
 ·obtain ⟨new,o⟩ := enter_ok hK n ⟨c1.ok hs1,c4 c,c3⟩ hopen
  obtain ⟨t1,t2,_⟩ := o.tt cg
  exact ⟨t1,t2⟩
theorem FrS.others (hf : FrS X w w') (h : SAt w0 w X K s vT vS) : ∀ (k : Nat) (o : Obj),w.heap[k]? = some o → o.isCells = false → w'.heap[k]? = some o := fun k o hk ho => by
 refine hf.block k o hk (fun hm => ?_) (fun _ _ e => by rw [e] at ho;cases ho) (fun _ _ e => by rw [e] at ho;cases ho)
 obtain ⟨c,hc,_⟩ := h.left
 simp only [SL.own,List.mem_cons,List.not_mem_nil,or_false] at hm
 rcases hm with e | e | e | e | e <;> subst e
 ·rw [h.rcd] at hk;cases hk;cases ho
 ·rw [hc] at hk;cases hk;cases ho
 ·rw [h.vals] at hk;cases hk;cases ho
 ·rw [h.fixd] at hk;cases hk;cases ho
 ·rw [h.mark] at hk;cases hk;cases ho
end
section
open Go.RowKit Go.Shelf
variable {w0 w w' w'' : World} {X : SL} {K : SK} {s : SS} {vT vS : Value}
theorem SAt.cells (h : SAt w0 w X K s vT vS) (hg : w0.grownBy w' none) (hk : ∀ (k : Nat) (c : Array Value) (t : TypeId) (f : Nat × Nat),w.heap[k]? = some (.cells c t f) → w'.heap[k]? = some (.cells c t f)) : SAt w0 w' X K s vT vS := by
 have ki : ∀ k cells,w.heap[k]? = some (.cells cells 3 (0,0)) → k ∉ X.own → w'.heap[k]? = some (.cells cells 3 (0,0)) := fun k c q1 _ => hk k _ _ _ q1
 have keep : ∀ {B e z n : Nat} {v : Value} {xs : List Value},w.ownsRow B e z v n xs → w'.ownsRow B e z v n xs := fun {B e z n v xs} ho => by
  refine ⟨ho.1,?_⟩
  rcases ho.2 with q | ⟨g,cap,cur,q1,q2,q3,q4⟩
  ·exact .inl q
  ·exact .inr ⟨g,cap,cur,q1,q2,hk g _ _ _ q3,q4⟩
 have hl : LeftIn w' X K.vars.length s.left := by
  obtain ⟨cells,h1,h2⟩ := h.left
  exact ⟨cells,hk _ _ _ _ h1,h2⟩
 refine ⟨hg,h.low,h.nd,hk _ _ _ _ h.rcd,hl,hk _ _ _ _ h.vals,hk _ _ _ _ h.fixd,hk _ _ _ _ h.mark,keep h.trail,h.tap,?_,h.sap,hk _ _ _ _ h.cvb,h.cvl,fun i v q => (h.cvr i v q).kept ki,hk _ _ _ _ h.usb,h.usl,fun i v q => (h.usr i v q).kept ki,h.cap,h.set0,h.csK,h.db0⟩
 obtain ⟨rows,r1,r2⟩ := h.sols
 exact ⟨rows,keep r1,fun i v q => (r2 i v q).kept ki⟩
theorem turn_cells {B k : Nat} {W W' : World} {row : Option Nat} {c : Array Value} {t : TypeId} {f : Nat × Nat} (h : W.heap[k]? = some (.cells c t f)) (hg : W.grownBy W' row) (hr : ∀ r,row = some r → B ≤ r ∧ ∃ o : Obj,W.heap[r]? = some o ∧ o.isCells = false) : W'.heap[k]? = some (.cells c t f) := by
 refine (hg.block k (some_lt h) (fun e => ?_)).trans h
 obtain ⟨_,o,ho,hc⟩ := hr k e.symm
 rw [h] at ho
 cases ho
 cases hc
theorem SAt.turned (h : SAt w0 w X K s vT vS) {B : Nat} {row : Option Nat} (hg : w.grownBy w' row) (hr : ∀ r,row = some r → B ≤ r ∧ ∃ o : Obj,w.heap[r]? = some o ∧ o.isCells = false) (hB : w0.heap.size ≤ B) : SAt w0 w' X K s vT vS :=
 h.cells (turn_grown h.g0 hg hr hB) (fun k c t f q => turn_cells q hg hr)
theorem FrS.turned (h : FrS X w w') {B : Nat} {row : Option Nat} (hg : w'.grownBy w'' row) (hr : ∀ r,row = some r → B ≤ r ∧ ∃ o : Obj,w'.heap[r]? = some o ∧ o.isCells = false) (hB : w.heap.size ≤ B) : FrS X w w'' := by
 cases row with
 | none => exact h.trans (FrS.grown hg)
 | some r => exact h.fresh hg (Nat.le_trans hB (hr r rfl).1)
def ChI (w0 w : World) (X : SL) (K : SK) (n : Nat) (v : Int) (s : SS) (D : Nat) (pre : List (AlD D)) (W : World) : Prop :=
 ∃ (si : SS) (vT vS : Value),chooseF K (enterF K n) v (pre.map Subtype.val) s = (true,si) ∧ SAt w0 W X K si vT vS ∧ Node K si ∧ si.left = s.left ∧ si.trail = s.trail ∧ si.sols.length ≤ 100000 ∧ 0 ≤ si.nodes ∧ FrS X w W ∧
  W.heap[w.heap.size]? = some (.cells #[.pointer (some ⟨X.b,0,none⟩)] 100 (0,0)) ∧ W.heap[w.heap.size + 1]? = some (.cells #[.int .i64 v] 3 (0,0)) ∧ W.heap[w.heap.size + 2]? = some (.cells #[.bool false] 4 (0,0))
def ChX (w0 w : World) (X : SL) (K : SK) (n : Nat) (v : Int) (s : SS) (D : Nat) (c : Code) (pre : List (AlD D)) (W : World) : Prop :=
 c = .ret ∧ ∃ (si : SS) (vT vS : Value),chooseF K (enterF K n) v (pre.map Subtype.val) s = (false,si) ∧ SAt w0 W X K si vT vS ∧ FrS X w W ∧ W.heap[w.heap.size + 2]? = some (.cells #[.bool false] 4 (0,0))
theorem ChI.from {n : Nat} {v : Int} {D B : Nat} (h0 : w0.heap.size ≤ w.heap.size) (hB : w.heap.size + 3 ≤ B) : OwnFrom B (ChI w0 w X K n v s D) := fun p A B' row hs hg hr => by
 obtain ⟨si,vT,vS,h1,h2,h3,h4,h5,h6,h7,h8,b0,b1,b2⟩ := hs
 exact ⟨si,vT,vS,h1,h2.turned hg hr (by omega),h3,h4,h5,h6,h7,h8.turned hg hr (by omega),turn_cells b0 hg hr,turn_cells b1 hg hr,turn_cells b2 hg hr⟩
theorem ChX.from {n : Nat} {v : Int} {D B : Nat} (h0 : w0.heap.size ≤ w.heap.size) (hB : w.heap.size + 3 ≤ B) (c : Code) : OwnFrom B (ChX w0 w X K n v s D c) := fun p A B' row hs hg hr => by
 obtain ⟨hc,si,vT,vS,h1,h2,h3,b2⟩ := hs
 exact ⟨hc,si,vT,vS,h1,h2.turned hg hr (by omega),h3.turned hg hr (by omega),turn_cells b2 hg hr⟩
theorem ch_more {n : Nat} {v : Int} {D : Nat} {pre : List (AlD D)} {x : AlD D} {si sj : SS} (h1 : chooseF K (enterF K n) v (pre.map Subtype.val) s = (true,si)) (h2 : chooseF K (enterF K n) v [x.1] si = (true,sj)) : chooseF K (enterF K n) v ((pre ++ [x]).map Subtype.val) s = (true,sj) := by
 rw [List.map_append,chooseF_append,h1,if_pos rfl];exact h2
theorem ch_stop {n : Nat} {v : Int} {D : Nat} {pre : List (AlD D)} {x : AlD D} {si sj : SS} (h1 : chooseF K (enterF K n) v (pre.map Subtype.val) s = (true,si)) (h2 : chooseF K (enterF K n) v [x.1] si = (false,sj)) : chooseF K (enterF K n) v ((pre ++ [x]).map Subtype.val) s = (false,sj) := by
 rw [List.map_append,chooseF_append,h1,if_pos rfl];exact h2
theorem ch_pre {n : Nat} {v : Int} {D : Nat} {pre : List (AlD D)} {sj : SS} (hp : pre <+: (valsD D).attach) (h : chooseF K (enterF K n) v (pre.map Subtype.val) s = (false,sj)) : chooseF K (enterF K n) v (valsD D) s = (false,sj) := by
 obtain ⟨t,ht⟩ := hp
 have e : valsD D = pre.map Subtype.val ++ t.map Subtype.val := by rw [← List.map_append,ht,List.attach_map_subtype_val]
 rw [e,chooseF_append,h,if_neg (by simp)]
theorem step_none {n : Nat} {v x : Int} (hc : (concS K (putS K v (bitV x) s)).1 = false) : chooseF K (enterF K n) v [x] s = (true,backS s.trail.length (concS K (putS K v (bitV x) s)).2) := by
 rw [chooseF];simp only [];rw [if_neg (by rw [hc];simp),chooseF]
theorem step_on {n : Nat} {v x : Int} (hc : (concS K (putS K v (bitV x) s)).1 = true) (hg : (enterF K n (concS K (putS K v (bitV x) s)).2).1 = true) : chooseF K (enterF K n) v [x] s = (true,backS s.trail.length (enterF K n (concS K (putS K v (bitV x) s)).2).2) := by
 rw [chooseF];simp only [];rw [if_pos hc,if_pos hg,chooseF]
theorem step_off {n : Nat} {v x : Int} (hc : (concS K (putS K v (bitV x) s)).1 = true) (hg : (enterF K n (concS K (putS K v (bitV x) s)).2).1 = false) : chooseF K (enterF K n) v [x] s = (false,(enterF K n (concS K (putS K v (bitV x) s)).2).2) := by
 rw [chooseF];simp only [];rw [if_pos hc,if_neg (by rw [hg];simp)]
 exact Prod.ext hg rfl
end
section
open Go.RowKit Go.Shelf
variable {w0 w w' w'' : World} {X : SL} {K : SK} {s : SS} {vT vS : Value}
theorem popN_sols : ∀ (n : Nat) (s : SS),(popN n s).sols = s.sols ∧ (popN n s).nodes = s.nodes
 | 0,s => ⟨rfl,rfl⟩
 | n + 1,s => by rw [popN];exact popN_sols n (popS s)
theorem back_sols (k : Nat) (s : SS) : (backS k s).sols = s.sols ∧ (backS k s).nodes = s.nodes := popN_sols _ s
theorem same_facts {s t : SS} (hl : t.left = s.left) (ht : t.trail = s.trail) (hT : TB s) : TB t := by unfold TB at hT ⊢;rw [hl,ht];exact hT
theorem choose_len (hK : KOk K) {n : Nat} (he : ∀ t : SS,Node K t → TB t → openN t < n → t.sols.length ≤ 100000 → (enterF K n t).2.sols.length ≤ 100000) {v : Int} (hv : PlOk K.vars.length v) : ∀ (xs : List Int) {s : SS},Node K s → TB s → openN s ≤ n → s.fixed v = false → (∀ x ∈ xs,x ∈ valsD (s.L v)) → s.sols.length ≤ 100000 → (chooseF K (enterF K n) v xs s).2.sols.length ≤ 100000 := by
 intro xs
 induction xs with
 | nil => intro s _ _ _ _ _ h;exact h
 | cons x xs ih =>
  intro s hN hT hop hof hx hle
  have hxm := hx x (by simp)
  obtain ⟨_,_,_,f4,_,f6⟩ := body_facts hK hN hT hop hv hof hxm
  rw [show x :: xs = [x] ++ xs from rfl,chooseF_append]
  have one : (chooseF K (enterF K n) v [x] s).2.sols.length ≤ 100000 := by
   cases c : (concS K (putS K v (bitV x) s)).1 with
   | false => rw [step_none c,(back_sols _ _).1,f4];exact hle
   | true =>
    obtain ⟨g1,g2,g3⟩ := f6 c
    have hg := he _ g1 (body_facts hK hN hT hop hv hof hxm).2.1.2 g2 (by rw [f4];exact hle)
    cases cg : (enterF K n (concS K (putS K v (bitV x) s)).2).1 with
    | true => rw [step_on c cg,(back_sols _ _).1];exact hg
    | false => rw [step_off c cg];exact hg
  split
  ·rename_i hr
   generalize hq : chooseF K (enterF K n) v [x] s = r at *
   obtain ⟨r1,r2⟩ := r
   simp only [] at hr one ⊢
   subst hr
   obtain ⟨a,b,c⟩ := choose_step hK hN hop hv hof hxm hq
   have hL : ∀ u,r2.L u = s.L u := fun u => by unfold SS.L;rw [b]
   exact ih a (same_facts b c hT) (by unfold openN at hop ⊢;rw [b];exact hop) (by unfold SS.fixed at hof ⊢;rw [hL];exact hof) (fun y hy => by rw [hL];exact hx y (by simp [hy])) one
  ·exact one
theorem enter_len (hK : KOk K) : ∀ (n : Nat) {s : SS},Node K s → TB s → openN s < n → s.sols.length ≤ 100000 → (enterF K n s).2.sols.length ≤ 100000
 | 0,s,_,_,h,_ => by omega
 | n + 1,s,hN,hT,hop,hle => by
  rw [enterF]
  split
  ·exact hle
  ·simp only []
   obtain ⟨t,ht,tl,tt,tm,ts⟩ : ∃ t : SS,({ s with nodes := s.nodes + 1 } : SS) = t ∧ t.left = s.left ∧ t.trail = s.trail ∧ t.marked = s.marked ∧ t.sols = s.sols := ⟨_,rfl,rfl,rfl,rfl,rfl⟩
   rw [ht]
   have hNt : Node K t := hN.same tl tm
   obtain ⟨n1,n2⟩ := next_spec K t
   split
   ·unfold tellS
    split
    ·rw [ts];exact hle
    ·rename_i hc
     simp only [List.length_append,List.length_singleton]
     rw [ts] at hc ⊢
     omega
   ·rename_i hc
    obtain ⟨v1,v2,v3⟩ := n2 (by omega)
    refine choose_len hK (fun u hu hTu hou hlu => enter_len hK n hu hTu hou hlu) ⟨by omega,by rw [← hNt.ok.ll];exact v1⟩ _ hNt (same_facts tl tt hT) (by unfold openN at hop ⊢;rw [tl];omega) v2 (fun y hy => hy) (by rw [ts];exact hle)
theorem enter_nodes (hK : KOk K) {n : Nat} (hN : Node K s) (hop : openN s < n) : s.nodes ≤ (enterF K n s).2.nodes := by
 obtain ⟨new,o⟩ := enter_ok hK n hN hop
 exact o.lo
end
section
set_option maxHeartbeats 8000000
set_option maxRecDepth 100000
open Go.RowKit Go.Shelf
attribute [local go_sem] Oper.semAt_some
attribute [local go_sem ↓] ld_veil st_veil
variable {w0 w w' w'' : World} {X : SL} {K : SK} {s : SS} {vT vS : Value}
theorem dc_All {D : Nat} {c : List Value} (h : DC D c) (w : World) : Calls Tryz.prog 136 #[.agg c.toArray] w fun e w' => e = .returned (.func (.func 178) #[] #[.pointer (some ⟨w.heap.size,0,none⟩)]) ∧ w' = w.alloc (.cells c.toArray 161) := by
 rw [h.is,← dArr_dL];exact dm_All D w
theorem en_of {r : Bool × SS} {b : Bool} {si : SS} (hr : r = (b,si)) (hS : SAt w0 w' X K si vT vS) (hF : FrS X w w') : EnPost w0 w X K r (.returned (.bool b)) w' := by
 subst hr;exact ⟨rfl,⟨_,_,hS⟩,hF⟩
theorem SAt.other (h : SAt w0 w X K s vT vS) {g i : Nat} {c : Array Value} {u : Value} (hb : w.heap[g]? = some (.cells c 4 (0,0))) (hg : g ∉ X.own) (h0 : w0.heap.size ≤ g) : SAt w0 (w.setCell ⟨g,i,none⟩ u) X K s vT vS := by
 have gs := grown_set w g i u
 have far : ∀ {k : Nat} {o : Obj},w.heap[k]? = some o → k ≠ g → (w.setCell ⟨g,i,none⟩ u).heap[k]? = some o := fun {k o} hk hne => (gs.block k (some_lt hk) (fun e => hne (by cases e;rfl))).trans hk
 have typ : ∀ {k : Nat} {c' : Array Value} {t : TypeId} {f : Nat × Nat},w.heap[k]? = some (.cells c' t f) → t ≠ 4 → (w.setCell ⟨g,i,none⟩ u).heap[k]? = some (.cells c' t f) := fun {k c' t f} hk ht => far hk (fun e => by
  subst e;rw [hb] at hk;injection hk with hk;injection hk with _ q;exact ht q.symm)
 have own : ∀ {k : Nat} {o : Obj},w.heap[k]? = some o → k ∈ X.own → (w.setCell ⟨g,i,none⟩ u).heap[k]? = some o := fun {k o} hk hm => far hk (fun e => hg (by rw [← e];exact hm))
 have ki : ∀ k cells,w.heap[k]? = some (.cells cells 3 (0,0)) → k ∉ X.own → (w.setCell ⟨g,i,none⟩ u).heap[k]? = some (.cells cells 3 (0,0)) := fun k c q1 _ => typ q1 (by decide)
 have keep : ∀ {B e z n : Nat} {v : Value} {xs : List Value},w.ownsRow B e z v n xs → e ≠ 4 → (w.setCell ⟨g,i,none⟩ u).ownsRow B e z v n xs := fun {B e z n v xs} ho he => by
  refine ⟨ho.1,?_⟩
  rcases ho.2 with q | ⟨g,cap,cur,q1,q2,q3,q4⟩
  ·exact .inl q
  ·exact .inr ⟨g,cap,cur,q1,q2,typ q3 he,q4⟩
 have hl : LeftIn (w.setCell ⟨g,i,none⟩ u) X K.vars.length s.left := by
  obtain ⟨cells,h1,h2⟩ := h.left
  exact ⟨cells,own h1 own_gl,h2⟩
 refine ⟨grown_new h.g0 h0 gs,h.low,h.nd,own h.rcd own_b,hl,own h.vals own_gv,own h.fixd own_gf,own h.mark own_gm,keep h.trail (by decide),h.tap,?_,h.sap,typ h.cvb (by decide),h.cvl,fun i v q => (h.cvr i v q).kept ki,typ h.usb (by decide),h.usl,fun i v q => (h.usr i v q).kept ki,h.cap,h.set0,h.csK,h.db0⟩
 obtain ⟨rows,r1,r2⟩ := h.sols
 exact ⟨rows,keep r1 (by decide),fun i v q => (r2 i v q).kept ki⟩
theorem choose_walk (h : SAt w0 w X K s vT vS) (hK : KOk K) (hN : Node K s) (hT : TB s) (hle : s.sols.length ≤ 100000) (hn0 : 0 ≤ s.nodes) {n : Nat} (hop : openN s ≤ n) {v : Int} (hv : PlOk K.vars.length v) (hof : s.fixed v = false) (hen : ∀ {W : World} {vT2 vS2 : Value} {t : SS},SAt w0 W X K t vT2 vS2 → Node K t → TB t → openN t < n → t.sols.length ≤ 100000 → 0 ≤ t.nodes → Calls Tryz.prog 51 #[.pointer (some ⟨X.b,0,none⟩)] W (EnPost w0 W X K (enterF K n t))) : Calls Tryz.prog 89 #[.pointer (some ⟨X.b,0,none⟩),.int .i64 v] w (EnPost w0 w X K (chooseF K (enterF K n) v (valsD (s.L v)) s)) := by
 have hD := hN.ok.L_lt hK v
 obtain ⟨d,hd⟩ := dc (s.L v)
 have hdl := hd.len
 have KA := Kept.mk (fun W => dc_All hd W)
 obtain ⟨W1,hW1⟩ : ∃ W1,((w.alloc (.cells #[.pointer (some ⟨X.b,0,none⟩)] 100)).alloc (.cells #[.int .i64 v] 3)).alloc (.cells #[.bool false] 4) = W1 := ⟨_,rfl⟩
 have hsz : W1.heap.size = w.heap.size + 3 := by rw [← hW1];simp
 have g1 : w.grownBy W1 none := by rw [← hW1];exact ((World.grownBy_alloc _ _ _).trans (World.grownBy_alloc _ _ _)).trans (World.grownBy_alloc _ _ _)
 have b0 : W1.heap[w.heap.size]? = some (.cells #[.pointer (some ⟨X.b,0,none⟩)] 100 (0,0)) := by rw [← hW1];exact h3_old w _ _ _
 have b1 : W1.heap[w.heap.size + 1]? = some (.cells #[.int .i64 v] 3 (0,0)) := by rw [← hW1];exact heap_alloc3_mid w _ _ _
 have b2 : W1.heap[w.heap.size + 2]? = some (.cells #[.bool false] 4 (0,0)) := by rw [← hW1];exact h3_new w _ _ _
 have hA1 := h.grown g1
 have c0 := cell_of b0 0 _ rfl
 have c1 := cell_of b1 0 _ rfl
 have c4 := hA1.f4
 have ld1 := ld_range (w := W1.drew) (b := X.gl) (o := v.toNat * 32) (c := d) (by rw [hd.is];exact (hA1.leftAt hv).1) hdl
 have hv1 := hv.1
 have hv2 := hv.2
 have hmx : Tryz.prog.follows .mixedOrders = true := by kernel_rfl
 refine (callsIn_wide (n := 3)).1 ?_
 refine callsIn_of_wp_marks Tryz.func89 rfl trivial ?_ rfl
 simp only [Tryz.ntmps89,List.size_toArray,List.length_cons,List.length_nil,Nat.reduceAdd,Nat.reduceSub,Array.replicate_succ,Array.replicate_zero,List.push_toArray,List.append_toArray,List.nil_append,List.cons_append]
 have HH := hide h
 have HA1 := hide hA1
 have HB : Hid (W1.heap[w.heap.size]? = some (.cells #[.pointer (some ⟨X.b,0,none⟩)] 100 (0,0)) ∧ W1.heap[w.heap.size + 1]? = some (.cells #[.int .i64 v] 3 (0,0)) ∧ W1.heap[w.heap.size + 2]? = some (.cells #[.bool false] 4 (0,0)) ∧ w.grownBy W1 none) := ⟨b0,b1,b2,g1⟩
 have HDI : Hid (d = dL (s.L v)) := hd.is
 clear h hA1 b0 b1 b2 g1 hd
 gi_wp2
 have e1 : w.heap.size + 1 + 1 = w.heap.size + 2 := rfl
 try rw [e1]
 try rw [hW1]
 clear hW1
 refine wpIn_mono ?_ NoPanic.imp
 gi_region_with_o (refine ⟨trivial,(callsIn_wide.2 (KA.get _)).mono ?_⟩;rintro e w1 ⟨rfl,rfl⟩)
 all_goals refine NoPanic.normal ?_
 all_goals gi_wp2
 all_goals
  obtain ⟨b0,b1,b2,g1⟩ := HB.out
  obtain ⟨W2,hW2⟩ : ∃ W2,(W1.alloc (.cells d.toArray 161)).drew = W2 := ⟨_,rfl⟩
  have g2 : W1.grownBy W2 none := by rw [← hW2];exact (World.grownBy_alloc _ _ _).trans (grown_drew' _ _)
  have hsz2 : W2.heap.size = w.heap.size + 4 := by rw [← hW2];show (W1.alloc _).heap.size = _;simp [hsz]
  have b3 : W2.heap[w.heap.size + 3]? = some (.cells (dArr (s.L v)) 161 (0,0)) := by
   rw [← hW2,dArr_dL,← HDI.out,← hsz];exact heap_alloc_new W1 _
  have hA2 := HA1.out.grown g2
  have r0 := (g2.block _ (some_lt b0) (by simp)).trans b0
  have r1 := (g2.block _ (some_lt b1) (by simp)).trans b1
  have r2 := (g2.block _ (some_lt b2) (by simp)).trans b2
  have h0w : w0.heap.size ≤ w.heap.size := HH.out.g0.size
  try rw [hW2]
  clear hW2
  refine wpIn_rangeFunc_ownF (α := AlD (s.L v)) rfl (by decide) (gf := 178) (lb := #[.pointer (some ⟨w.heap.size + 3,0,none⟩)]) rfl trivial (enters_of Tryz.func178 (by kernel_rfl) rfl)
   (dm_all_stops (fun x : AlD (s.L v) => x.1) (valsD (s.L v)).attach (s.L v) (List.attach_map_subtype_val _) _ (w.heap.size + 3) W2 b3 hA2.db) kpDb_t kpDb_b (Below.refl _ _) (fun _ => rfl)
   (ChI w0 w X K n v s (s.L v)) (ChX w0 w X K n v s (s.L v)) (ChI.from h0w (by omega)) (ChX.from h0w (by omega)) ⟨s,vT,vS,by rw [List.map_nil,chooseF],hA2,hN,rfl,rfl,hle,hn0,FrS.grown (g1.trans g2),r0,r1,r2⟩
   (fun x => { tmps := #[.pointer (some ⟨X.b,0,none⟩),.int .i64 v,.pointer (some ⟨w.heap.size,0,none⟩),.pointer (some ⟨w.heap.size + 1,0,none⟩),.pointer (some ⟨w.heap.size + 2,0,none⟩),.int .i64 x.1,undef,.pointer (some ⟨X.b,0,none⟩),.pointer (some ⟨X.b,0,none⟩),.pointer (some ⟨X.b,4,none⟩),.slice (some ⟨X.gl,0,none⟩) K.vars.length K.vars.length,.int .i64 v,.pointer (some ⟨X.gl,v.toNat * 32,none⟩),.agg d.toArray,.func (.func 178) #[] #[.pointer (some ⟨w.heap.size + 3,0,none⟩)],.int .i64 x.1,undef,undef,undef,undef,undef,undef,undef,undef,undef,undef,undef,undef,undef,undef,undef,undef,undef,undef,undef,undef],defers := [] }) ?assign ?body ?done ?stop
  case assign =>
   intro l x W K hK
   gi_wp2
   exact hK
  case body =>
   rintro l pre x W ⟨si,vTi,vSi,e1,hAi,hNi,hli,hti,hlei,hni,hFi,t0,t1,t2⟩ _
   have hLv : ∀ u,si.L u = s.L u := fun u => by unfold SS.L;rw [hli]
   have hxm : x.1 ∈ valsD (si.L v) := by rw [hLv];exact x.2
   have hofi : si.fixed v = false := by unfold SS.fixed at hof ⊢;rw [hLv];exact hof
   have hTi : TB si := same_facts hli hti hT
   have hopi : openN si ≤ n := by unfold openN at hop ⊢;rw [hli];exact hop
   obtain ⟨⟨p1,p2⟩,⟨q1,q2⟩,q3,q4,q5,q6⟩ := body_facts hK hNi hTi hopi hv hofi hxm
   obtain ⟨x1,x2⟩ := valsD_in hD x.2
   obtain ⟨r,hr⟩ := dc (bitV x.1)
   obtain ⟨ta,tc,hta⟩ := own_slice_n hAi.trail
   subst hta
   have KO := Kept.mk (fun W' => dc_Only hr (v := x.1) x1 x2 W')
   have KP := Kept.mk (fun {W' : World} (q : SAt w0 W' X K si (.slice ta si.trail.length tc) vSi) => dc_put hr q hK hNi.ok.ml hv (bitV_lt x2) hTi.le)
   have KC := Kept.mk (fun {W' : World} {vT' : Value} (q : SAt w0 W' X K (putS K v (bitV x.1) si) vT' vSi) => sc_conclude q hK p1 p2)
   have kb0 := cell_of t0 0 (.pointer (some ⟨X.b,0,none⟩)) rfl
   have kb1 := cell_of t1 0 (.int .i64 v) rfl
   have f7 := hAi.f7
   have hNo0 : w.heap.size ∉ X.own := HH.out.new_own (Nat.le_refl _)
   have hNo1 : w.heap.size + 1 ∉ X.own := HH.out.new_own (by omega)
   have hNo2 : w.heap.size + 2 ∉ X.own := HH.out.new_own (by omega)
   have HBX : Hid (∀ W',FrS X W W' → W'.heap[w.heap.size]? = some (.cells #[.pointer (some ⟨X.b,0,none⟩)] 100 (0,0)) ∧ W'.heap[w.heap.size + 1]? = some (.cells #[.int .i64 v] 3 (0,0)) ∧ W'.heap[w.heap.size + 2]? = some (.cells #[.bool false] 4 (0,0)) ∧ W'.cell? ⟨w.heap.size,0,none⟩ = some (.pointer (some ⟨X.b,0,none⟩)) ∧ W'.cell? ⟨w.heap.size + 1,0,none⟩ = some (.int .i64 v)) := fun W' hf => by
    have a0 := hf.block _ _ t0 hNo0 (fun _ _ e => by cases e) (fun _ _ e => by cases e)
    have a1 := hf.block _ _ t1 hNo1 (fun _ _ e => by cases e) (fun _ _ e => by cases e)
    have a2 := hf.block _ _ t2 hNo2 (fun _ _ e => by cases e) (fun _ _ e => by cases e)
    exact ⟨a0,a1,a2,cell_of a0 0 _ rfl,cell_of a1 0 _ rfl⟩
   have HKO : Hid (∀ W',FrS X W W' → KeepsOthers W W') := fun W' hf => ⟨hf.size,hf.others hAi⟩
   have HAI := hide hAi
   have HFI := hide hFi
   have htr : ∀ {t : SS},SOk K t → TB t → ∀ p ∈ t.trail,PlOk K.vars.length p.1 ∧ p.2 < 2 ^ 2001 := fun {t} h1 h2 p hp => by
    obtain ⟨a,b,c⟩ := h2.2 p hp
    exact ⟨⟨a,by rw [← h1.ll];exact b⟩,c⟩
   have HKP : Hid (∀ W',(∃ si vT vS,SAt w0 W' X K si vT vS) → KpDb W W') := fun W' ⟨_,_,_,q⟩ _ => q.db
   cases hc : (concS K (putS K v (bitV x.1) si)).1 with
   | false =>
    have hstep := step_none (n := n) hc
    obtain ⟨z1,z2,z3⟩ := choose_step hK hNi hopi hv hofi hxm hstep
    have HFIN : Hid (∀ (W' : World) (vT' : Value),SAt w0 W' X K (backS si.trail.length (concS K (putS K v (bitV x.1) si)).2) vT' vSi → FrS X W W' → KeepsOthers W W' ∧ KpDb W W' ∧ ChI w0 w X K n v s (s.L v) (pre ++ [x]) W') := fun W' vT' q hf => by
     obtain ⟨a0,a1,a2,_,_⟩ := HBX.out W' hf
     exact ⟨HKO.out W' hf,HKP.out W' ⟨_,_,_,q⟩,_,vT',vSi,ch_more e1 hstep,q,z1,z2.trans hli,z3.trans hti,by rw [(back_sols _ _).1,q4];exact hlei,by rw [(back_sols _ _).2,q5];exact hni,HFI.out.trans hf,a0,a1,a2⟩
    have KT := Kept.mk (fun {W' : World} {vT' : Value} (q : SAt w0 W' X K (concS K (putS K v (bitV x.1) si)).2 vT' vSi) => sc_takeBack q hK.vlen q3 q2.le (htr q1 q2))
    rw [hc] at KC
    generalize concS K (putS K v (bitV x.1) si) = k at *
    clear hc hstep z1 z2 z3 q1 q2 q3 q4 q5 q6 p1 p2 hxm hofi hTi hopi hLv e1 hAi hNi hFi hr t0 t1 t2 hen htr hli hti hlei hni
    gi_wp2
    gi_region_with_o (first | (have hz := hg3;clear hz;refine ⟨trivial,(CallsIn.inRound l (callsIn_wide.2 (KP.get (HAI.out.grown ((grown_drew' _ _).trans hg3))))).mono ?_⟩;rintro e w4 ⟨rfl,⟨vT4,hs4⟩,hf4⟩) | (refine ⟨trivial,(CallsIn.inRound l (callsIn_wide.2 (KO.get _))).mono ?_⟩;rintro e w3 ⟨rfl,hg3⟩;obtain ⟨_,_,_,kb03,kb13⟩ := HBX.out w3 (FrS.grown ((grown_drew' _ _).trans hg3))))
    all_goals
     have hF4 := (FrS.grown ((grown_drew' _ _).trans hg3)).trans hf4
     obtain ⟨_,_,_,kb04,kb14⟩ := HBX.out w4 hF4
     gi_wp2_with (refine ⟨trivial,(CallsIn.inRound l (callsIn_wide.2 (KC.get hs4))).mono ?_⟩;rintro e w5 ⟨rfl,⟨vT5,hs5⟩,hf5⟩;obtain ⟨_,_,_,kb05,kb15⟩ := HBX.out w5 (hF4.trans hf5))
     refine ⟨trivial,?_⟩
     gi_wp2_with (refine ⟨trivial,(CallsIn.inRound l (callsIn_wide.2 (KT.get hs5))).mono ?_⟩;rintro e w6 ⟨rfl,⟨vT6,hs6⟩,hf6⟩)
     exact HFIN.out _ _ hs6 ((hF4.trans hf5).trans hf6)
   | true =>
    obtain ⟨g1,g2,g3⟩ := q6 hc
    have KE : Kept (∀ {W' : World} {vT' : Value},SAt w0 W' X K (concS K (putS K v (bitV x.1) si)).2 vT' vSi → Calls Tryz.prog 51 #[.pointer (some ⟨X.b,0,none⟩)] W' (fun e w' => e = .returned (.bool (enterF K n (concS K (putS K v (bitV x.1) si)).2).1) ∧ (∃ vT' vS',SAt w0 w' X K (enterF K n (concS K (putS K v (bitV x.1) si)).2).2 vT' vS') ∧ FrS X W' w')) := Kept.mk (fun {W' vT'} q => hen q g1 q2 g2 (by rw [q4];exact hlei) (by rw [q5];exact hni))
    have hgl := enter_len hK n g1 q2 g2 (by rw [q4];exact hlei)
    have hgn := enter_nodes hK g1 g2
    rw [q5] at hgn
    rw [hc] at KC
    cases hg : (enterF K n (concS K (putS K v (bitV x.1) si)).2).1 with
    | true =>
     obtain ⟨y1,y2⟩ := g3 hg
     have hstep := step_on (n := n) hc hg
     obtain ⟨z1,z2,z3⟩ := choose_step hK hNi hopi hv hofi hxm hstep
     have HFIN : Hid (∀ (W' : World) (vT' vS' : Value),SAt w0 W' X K (backS si.trail.length (enterF K n (concS K (putS K v (bitV x.1) si)).2).2) vT' vS' → FrS X W W' → KeepsOthers W W' ∧ KpDb W W' ∧ ChI w0 w X K n v s (s.L v) (pre ++ [x]) W') := fun W' vT' vS' q hf => by
      obtain ⟨a0,a1,a2,_,_⟩ := HBX.out W' hf
      exact ⟨HKO.out W' hf,HKP.out W' ⟨_,_,_,q⟩,_,vT',vS',ch_more e1 hstep,q,z1,z2.trans hli,z3.trans hti,by rw [(back_sols _ _).1];exact hgl,by rw [(back_sols _ _).2];omega,HFI.out.trans hf,a0,a1,a2⟩
     have KT := Kept.mk (fun {W' : World} {vT' vS' : Value} (q : SAt w0 W' X K (enterF K n (concS K (putS K v (bitV x.1) si)).2).2 vT' vS') => sc_takeBack q hK.vlen (by rw [y2];exact q3) (by rw [y2];exact q2.le) (by rw [y2];exact htr q1 q2))
     rw [hg] at KE
     generalize enterF K n (concS K (putS K v (bitV x.1) si)).2 = g at *
     generalize concS K (putS K v (bitV x.1) si) = k at *
     clear hc hg hstep z1 z2 z3 y1 y2 g1 g2 g3 hgl hgn q1 q2 q3 q4 q5 q6 p1 p2 hxm hofi hTi hopi hLv e1 hAi hNi hFi hr t0 t1 t2 hen htr hli hti hlei hni
     gi_wp2
     gi_region_with_o (first | (have hz := hg3;clear hz;refine ⟨trivial,(CallsIn.inRound l (callsIn_wide.2 (KP.get (HAI.out.grown ((grown_drew' _ _).trans hg3))))).mono ?_⟩;rintro e w4 ⟨rfl,⟨vT4,hs4⟩,hf4⟩) | (refine ⟨trivial,(CallsIn.inRound l (callsIn_wide.2 (KO.get _))).mono ?_⟩;rintro e w3 ⟨rfl,hg3⟩;obtain ⟨_,_,_,kb03,kb13⟩ := HBX.out w3 (FrS.grown ((grown_drew' _ _).trans hg3))))
     all_goals
      have hF4 := (FrS.grown ((grown_drew' _ _).trans hg3)).trans hf4
      obtain ⟨_,_,_,kb04,kb14⟩ := HBX.out w4 hF4
      gi_wp2_with (first | (have hz := hs6;clear hz;refine ⟨trivial,(CallsIn.inRound l (callsIn_wide.2 (KT.get hs6))).mono ?_⟩;rintro e w7 ⟨rfl,⟨vT7,hs7⟩,hf7⟩) | (have hz := hs5;clear hz;refine ⟨trivial,(CallsIn.inRound l (callsIn_wide.2 (KE.get hs5))).mono ?_⟩;rintro e w6 ⟨rfl,⟨vT6,vS6,hs6⟩,hf6⟩;obtain ⟨_,_,_,kb06,kb16⟩ := HBX.out w6 ((hF4.trans hf5).trans hf6)) | (refine ⟨trivial,(CallsIn.inRound l (callsIn_wide.2 (KC.get hs4))).mono ?_⟩;rintro e w5 ⟨rfl,⟨vT5,hs5⟩,hf5⟩;obtain ⟨_,_,_,kb05,kb15⟩ := HBX.out w5 (hF4.trans hf5)))
      exact HFIN.out _ _ _ hs7 (((hF4.trans hf5).trans hf6).trans hf7)
    | false =>
     have hstep := step_off (n := n) hc hg
     have HFIN : Hid (∀ (W' : World) (vT' vS' : Value),SAt w0 W' X K (enterF K n (concS K (putS K v (bitV x.1) si)).2).2 vT' vS' → FrS X W W' → KeepsOthers W (W'.setCell ⟨w.heap.size + 2,0,none⟩ (.bool false)) ∧ ChX w0 w X K n v s (s.L v) .ret (pre ++ [x]) (W'.setCell ⟨w.heap.size + 2,0,none⟩ (.bool false)) ∧ W'.cell? ⟨w.heap.size + 2,0,none⟩ = some (.bool false) ∧ W'.frozen? ⟨w.heap.size + 2,0,none⟩ = false) := fun W' vT' vS' q hf => by
      obtain ⟨a0,a1,a2,_,_⟩ := HBX.out W' hf
      refine ⟨(HKO.out W' hf).trans (KeepsOthers.setCell _ _ _),⟨rfl,_,vT',vS',ch_stop e1 hstep,q.other a2 hNo2 (by omega),(HFI.out.trans hf).fresh (grown_set W' (w.heap.size + 2) 0 (.bool false)) (by omega),set_at a2 0 _ rfl⟩,cell_of a2 0 _ rfl,frozen_of a2 0⟩
     rw [hg] at KE
     generalize enterF K n (concS K (putS K v (bitV x.1) si)).2 = g at *
     generalize concS K (putS K v (bitV x.1) si) = k at *
     clear hc hg hstep g1 g2 g3 hgl hgn q1 q2 q3 q4 q5 q6 p1 p2 hxm hofi hTi hopi hLv e1 hAi hNi hFi hr t0 t1 t2 hen htr hli hti hlei hni
     gi_wp2
     gi_region_with_o (first | (have hz := hg3;clear hz;refine ⟨trivial,(CallsIn.inRound l (callsIn_wide.2 (KP.get (HAI.out.grown ((grown_drew' _ _).trans hg3))))).mono ?_⟩;rintro e w4 ⟨rfl,⟨vT4,hs4⟩,hf4⟩) | (refine ⟨trivial,(CallsIn.inRound l (callsIn_wide.2 (KO.get _))).mono ?_⟩;rintro e w3 ⟨rfl,hg3⟩;obtain ⟨_,_,_,kb03,kb13⟩ := HBX.out w3 (FrS.grown ((grown_drew' _ _).trans hg3))))
     all_goals
      have hF4 := (FrS.grown ((grown_drew' _ _).trans hg3)).trans hf4
      obtain ⟨_,_,_,kb04,kb14⟩ := HBX.out w4 hF4
      gi_wp2_with (first | (have hz := hs5;clear hz;refine ⟨trivial,(CallsIn.inRound l (callsIn_wide.2 (KE.get hs5))).mono ?_⟩;rintro e w6 ⟨rfl,⟨vT6,vS6,hs6⟩,hf6⟩;obtain ⟨hx1,hx2,kb26,fb26⟩ := HFIN.out w6 _ _ hs6 ((hF4.trans hf5).trans hf6)) | (refine ⟨trivial,(CallsIn.inRound l (callsIn_wide.2 (KC.get hs4))).mono ?_⟩;rintro e w5 ⟨rfl,⟨vT5,hs5⟩,hf5⟩;obtain ⟨_,_,_,kb05,kb15⟩ := HBX.out w5 (hF4.trans hf5)))
      exact ⟨hx1,hx2⟩
  case done =>
   rintro dd ys W hdd rfl ⟨si,vTi,vSi,e1,hAi,hNi,_,_,_,_,hFi,_,_,t2⟩ hKd
   rw [List.attach_map_subtype_val] at e1
   have k2 := cell_of t2 0 _ rfl
   have f2 := frozen_of t2 0
   have hK' := (KeepsOthers.setCell W ⟨w.heap.size + 2,0,none⟩ (.bool true)).same dd _ hKd rfl
   have d2 : (W.setCell ⟨w.heap.size + 2,0,none⟩ (.bool true)).heap[w.heap.size + 2]? = some (.cells #[.bool true] 4 (0,0)) := set_at t2 0 _ rfl
   have n2 := cell_kept (cell_of d2 0 _ rfl) (grownBy_putObj' _ dd (.deferred none)) (fun r e => by cases e;exact ⟨_,hK',rfl⟩)
   have hNo : w.heap.size + 2 ∉ X.own := HH.out.new_own (by omega)
   have hS2 := hAi.other (i := 0) (u := .bool true) t2 hNo (by omega)
   have hS3 := hS2.turned (B := w.heap.size + 4) (grownBy_putObj' _ dd (.deferred none)) (fun r e => by cases e;exact ⟨by omega,_,hK',rfl⟩) (by omega)
   have hF3 := (hFi.fresh (grown_set W (w.heap.size + 2) 0 (.bool true)) (by omega)).turned (B := w.heap.size + 4) (grownBy_putObj' _ dd (.deferred none)) (fun r e => by cases e;exact ⟨by omega,_,hK',rfl⟩) (by omega)
   have N2 := hide n2
   have HKX := hide hK'
   have HS3 := hide hS3
   have HF3 := hide hF3
   have HE1 := hide e1
   clear n2 d2 hK' hS2 hS3 hF3 e1 hAi hNi hFi
   gi_wp2
   have n2 := N2.out
   refine ⟨by simp,.inl ⟨_,_,rfl,run_takeDeferred HKX.out,?_⟩⟩
   refine ⟨.bool true,?_,?_⟩
   ·simp [results,Tryz.f89,go_sem,n2]
   ·exact en_of HE1.out HS3.out HF3.out
  case stop =>
   rintro dd c pre W hdd hpre ⟨rfl,si,vTi,vSi,e1,hAi,hFi,t2⟩ hKd
   have e2 := ch_pre hpre e1
   have k2 := cell_of t2 0 _ rfl
   have n2 := cell_kept k2 (grownBy_putObj' W dd (.deferred none)) (fun r e => by cases e;exact ⟨_,hKd,rfl⟩)
   have hS3 := hAi.turned (B := w.heap.size + 4) (grownBy_putObj' W dd (.deferred none)) (fun r e => by cases e;exact ⟨by omega,_,hKd,rfl⟩) (by omega)
   have hF3 := hFi.turned (B := w.heap.size + 4) (grownBy_putObj' W dd (.deferred none)) (fun r e => by cases e;exact ⟨by omega,_,hKd,rfl⟩) (by omega)
   have HS3 := hide hS3
   have HF3 := hide hF3
   have HE2 := hide e2
   clear e1 e2 hAi hFi hS3 hF3
   gi_wp2
   refine ⟨by simp,.inl ⟨_,_,rfl,run_takeDeferred hKd,?_⟩⟩
   refine ⟨.bool false,?_,?_⟩
   ·simp [results,Tryz.f89,go_sem,n2]
   ·exact en_of HE2.out HS3.out HF3.out
end
section
open Go.RowKit
variable {w0 w w' w'' : World} {X : SL} {K : SK} {s : SS} {vT vS : Value}
theorem sc_enter (hK : KOk K) (hbu : K.budget ≤ 9223372036854775807) : ∀ (n : Nat) {W : World} {vT vS : Value} {t : SS},SAt w0 W X K t vT vS → Node K t → TB t → openN t < n → t.sols.length ≤ 100000 → 0 ≤ t.nodes → Calls Tryz.prog 51 #[.pointer (some ⟨X.b,0,none⟩)] W (EnPost w0 W X K (enterF K n t))
 | 0,W,vT,vS,t,_,_,_,h,_,_ => absurd h (Nat.not_lt_zero _)
 | n + 1,W,vT,vS,t,h,hN,hT,hop,hle,hn0 =>
  enter_walk h hK hN hT hle hn0 hbu (fun {W2 vT2 u v} q hNu hTu us ul un hv h0 => by
   obtain ⟨_,n2⟩ := next_spec K u
   rw [hv] at n2
   obtain ⟨v1,v2,_⟩ := n2 h0
   exact choose_walk q hK hNu hTu (by rw [us];exact hle) (by rw [un];omega) (by unfold openN at hop ⊢;rw [ul];omega) ⟨h0,by rw [← hNu.ok.ll];exact v1⟩ v2 (fun {W3 vT3 vS3 y} a b c d e f => sc_enter hK hbu n a b c d e f))
end
end Go.Proofs.YthpcbbnabnlanaaGreatDoor
