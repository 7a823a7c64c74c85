import Derived.Test.YthpcbbnabnlanaaGreatDoorM18
import Derived.Deep.RegionHeld3
namespace Go.Proofs.YthpcbbnabnlanaaGreatDoor
open Go.RowKit
set_option linter.unusedVariables false
set_option linter.unusedSimpArgs false
section
theorem sub_one {D : Nat} {v : Int} (h : ∀ j,D.testBit j = true → (bitV v).testBit j = true) (h0 : D ≠ 0) : D = bitV v := by
 obtain ⟨p,hp⟩ := Nat.exists_testBit_of_ne_zero h0
 have hp2 := h p hp
 rw [bitV_bit] at hp2
 have e := of_decide_eq_true hp2
 apply Nat.eq_of_testBit_eq
 intro j
 rw [bitV_bit]
 by_cases c : (v + 1000).toNat = j
 ·rw [decide_eq_true c,← c,e];exact hp
 ·rw [decide_eq_false c]
  cases d : D.testBit j with
  | false => rfl
  | true => have := h j d;rw [bitV_bit] at this;exact absurd (of_decide_eq_true this) c
theorem Ref.fixed {K : SK} (hK : KOk K) {s s' : SS} (hs : SOk K s) (h : Ref K s s') {v : Int} (hv : PlOk K.vars.length v) (hf : s.fixed v = true) : s'.L v = s.L v := by
 obtain ⟨a,b,c⟩ := oneB_is (hs.L_lt hK v) hf
 rw [c]
 refine sub_one (fun j hj => ?_) ?_
 ·rw [← c];exact h.sub v.toNat j hj
 ·exact h.ne v.toNat (hs.ne v.toNat (by have := hs.ll;have := hv.1;have := hv.2;omega))
theorem take_ok {K : SK} (hK : KOk K) {a : Int} (ha : -1000 ≤ a) : ∀ (vs : List Int) {s : SS},SOk K s → (∀ v ∈ vs,PlOk K.vars.length v) → Ref K s (takeS K a vs s).2 ∧ Snd (fun x => ∀ v ∈ vs,vAt x v ≠ a) s (takeS K a vs s) := by
 intro vs
 induction vs with
 | nil => intro s hs _;exact ⟨Ref.refl K s,fun x _ hf _ => ⟨rfl,hf⟩⟩
 | cons v vs ih =>
  intro s hs hv
  have hvp := hv v (by simp)
  rw [takeS]
  by_cases c : hasD (s.L v) a = true
  ·rw [if_pos c]
   obtain ⟨k1,k2⟩ := keep_ok hK hs hvp (D := subD (s.L v) (bitV a)) (fun j h => by rw [subD_bit] at h;simp at h;exact h.1)
   have hx2 : ∀ x,(∀ y ∈ x,-1000 ≤ y) → Fits s.left x → (∀ u ∈ v :: vs,vAt x u ≠ a) → hasD (subD (s.L v) (bitV a)) (vAt x v) = true := by
    intro x hx hf hq
    have h1 := hf.at_ (v := v) (by rw [hs.ll];exact hvp)
    have h2 : -1000 ≤ vAt x v := (hf.bd hs hK hx v.toNat).1
    have h3 := bitV_has ha h2
    unfold hasD at *
    rw [subD_bit,h1,h3,decide_eq_false (fun e => hq v (by simp) e.symm)];rfl
   simp only []
   by_cases q : (keepS K v (subD (s.L v) (bitV a)) s).1 = true
   ·rw [if_pos q]
    obtain ⟨m1,m2⟩ := ih (k1.ok hs) (fun u hu => hv u (by simp [hu]))
    refine ⟨k1.trans m1,fun x hx hf hq => ?_⟩
    exact m2 x hx (k2 x hx hf (hx2 x hx hf hq)).2 (fun u hu => hq u (by simp [hu]))
   ·rw [if_neg q]
    exact ⟨k1,fun x hx hf hq => absurd (k2 x hx hf (hx2 x hx hf hq)).1 q⟩
  ·rw [if_neg c]
   obtain ⟨m1,m2⟩ := ih hs (fun u hu => hv u (by simp [hu]))
   exact ⟨m1,fun x hx hf hq => m2 x hx hf (fun u hu => hq u (by simp [hu]))⟩
theorem diff_pairs {x vars : List Int} (h : diffP x vars = true) : ∀ i k,i < k → k < vars.length → vAt x (vars.getD k 0) ≠ vAt x (vars.getD i 0) := by
 intro i k hik hk
 unfold diffP at h
 rw [List.all_eq_true] at h
 have h1 := h k (by simpa using hk)
 unfold newP at h1
 rw [List.all_eq_true] at h1
 have h2 := h1 (vars.getD i 0) (by
  rw [List.mem_take_iff_getElem]
  exact ⟨i,by omega,by rw [List.getD_eq_getElem?_getD,List.getElem?_eq_getElem (by omega)];rfl⟩)
 exact of_decide_eq_true h2
theorem diffF_ok {K : SK} (hK : KOk K) {vars : List Int} (hv : ∀ v ∈ vars,PlOk K.vars.length v) : ∀ (is : List Nat) {s : SS},SOk K s → (∀ i ∈ is,i < vars.length) → Ref K s (diffF K vars is s).2 ∧ Snd (fun x => diffP x vars = true) s (diffF K vars is s) := by
 intro is
 induction is with
 | nil => intro s hs _;exact ⟨Ref.refl K s,fun x _ hf _ => ⟨rfl,hf⟩⟩
 | cons i is ih =>
  intro s hs hi
  have hil := hi i (by simp)
  have hvp := hv _ (getD_mem' hil)
  rw [diffF]
  simp only []
  by_cases c : s.fixed (vars.getD i 0) = true
  ·rw [if_pos c]
   obtain ⟨b1,b2,b3⟩ := oneB_is (hs.L_lt hK (vars.getD i 0)) c
   obtain ⟨k1,k2⟩ := take_ok hK b1 (vars.take i) hs (fun u hu => hv u (List.mem_of_mem_take hu))
   have hx1 : ∀ x,(∀ y ∈ x,-1000 ≤ y) → Fits s.left x → diffP x vars = true → ∀ u ∈ vars.take i,vAt x u ≠ s.val (vars.getD i 0) := by
    intro x hx hf hq u hu
    rw [← hf.one hs hK hx (by rw [hs.ll];exact hvp) c]
    obtain ⟨m,hm,rfl⟩ := List.mem_take_iff_getElem.1 hu
    have := diff_pairs hq m i (by omega) hil
    rw [show vars.getD m 0 = vars[m] by rw [List.getD_eq_getElem?_getD,List.getElem?_eq_getElem (by omega)];rfl] at this
    exact fun e => this e.symm
   have k1' : Ref K s (takeS K (s.val (vars.getD i 0)) (vars.take i) s).2 := k1
   by_cases q : (takeS K (s.val (vars.getD i 0)) (vars.take i) s).1 = true
   ·rw [if_pos q]
    generalize hk : takeS K (s.val (vars.getD i 0)) (vars.take i) s = k at *
    have hval : k.2.val (vars.getD i 0) = s.val (vars.getD i 0) := by
     unfold SS.val;rw [k1'.fixed hK hs hvp c]
    have hs2 := k1'.ok hs
    have hk2 : Snd (fun x => ∀ v ∈ vars.take i,vAt x v ≠ s.val (vars.getD i 0)) s k := by rw [← hk];exact k2
    rw [hval]
    obtain ⟨m1,m2⟩ := take_ok hK b1 (vars.drop (i + 1)) hs2 (fun u hu => hv u (List.mem_of_mem_drop hu))
    have hx3 : ∀ x,(∀ y ∈ x,-1000 ≤ y) → Fits s.left x → diffP x vars = true → ∀ u ∈ vars.drop (i + 1),vAt x u ≠ s.val (vars.getD i 0) := by
     intro x hx hf hq u hu
     rw [← hf.one hs hK hx (by rw [hs.ll];exact hvp) c]
     obtain ⟨m,hm,rfl⟩ := List.mem_iff_getElem.1 hu
     have hm2 : i + 1 + m < vars.length := by simp at hm;omega
     have := diff_pairs hq i (i + 1 + m) (by omega) hm2
     rw [show vars.getD (i + 1 + m) 0 = vars[i + 1 + m] by rw [List.getD_eq_getElem?_getD,List.getElem?_eq_getElem (by omega)];rfl] at this
     rw [List.getElem_drop]
     exact this
    have m1' : Ref K k.2 (takeS K (s.val (vars.getD i 0)) (vars.drop (i + 1)) k.2).2 := m1
    by_cases q2 : (takeS K (s.val (vars.getD i 0)) (vars.drop (i + 1)) k.2).1 = true
    ·rw [if_pos q2]
     obtain ⟨n1,n2⟩ := ih (m1'.ok hs2) (fun j hj => hi j (by simp [hj]))
     refine ⟨(k1'.trans m1').trans n1,fun x hx hf hq => ?_⟩
     have f1 := (hk2 x hx hf (hx1 x hx hf hq)).2
     exact n2 x hx (m2 x hx f1 (hx3 x hx hf hq)).2 hq
    ·rw [if_neg q2]
     refine ⟨k1'.trans m1',fun x hx hf hq => ?_⟩
     have f1 := (hk2 x hx hf (hx1 x hx hf hq)).2
     exact absurd (m2 x hx f1 (hx3 x hx hf hq)).1 q2
   ·rw [if_neg q]
    exact ⟨k1',fun x hx hf hq => absurd (k2 x hx hf (hx1 x hx hf hq)).1 q⟩
  ·rw [if_neg c]
   exact ih hs (fun j hj => hi j (by simp [hj]))
theorem diff_ok {K : SK} (hK : KOk K) {vars : List Int} (hv : ∀ v ∈ vars,PlOk K.vars.length v) {s : SS} (hs : SOk K s) : Ref K s (diffS K vars s).2 ∧ Snd (fun x => diffP x vars = true) s (diffS K vars s) :=
 diffF_ok hK hv _ hs (fun i hi => by simpa using hi)
theorem or_ok {K : SK} (hK : KOk K) {lits : List (Int × Int)} (hl : ∀ p ∈ lits,PlOk K.vars.length p.1 ∧ (p.2 = 0 ∨ p.2 = 1)) {s : SS} (hs : SOk K s) (hm : ∃ l ∈ lits,mayS s l = true) : Ref K s (orS K lits s).2 ∧ Snd (fun x => litP x lits = true) s (orS K lits s) := by
 obtain ⟨f,hf⟩ : ∃ f,lits.find? (mayS s) = some f := by
  obtain ⟨l,h1,h2⟩ := hm
  have := List.find?_isSome.2 ⟨l,h1,h2⟩
  exact Option.isSome_iff_exists.1 this
 have hfm := List.find?_some hf
 have hfl := List.mem_of_find?_eq_some hf
 obtain ⟨hfp,hfv⟩ := hl f hfl
 unfold orS
 rw [hf]
 simp only [Option.getD_some]
 by_cases c : (lits.any fun l => decide (l ≠ f) && mayS s l) = true
 ·rw [if_pos c]
  exact ⟨Ref.refl K s,fun x _ hx _ => ⟨rfl,hx⟩⟩
 ·rw [if_neg c]
  obtain ⟨k1,k2⟩ := keep_ok hK hs hfp (D := bitV f.2) (fun j h => by
   rw [bitV_bit] at h
   rw [← of_decide_eq_true h];exact hfm)
  refine ⟨k1,k2.imp fun x hx hfi hq => ?_⟩
  unfold litP at hq
  rw [List.any_eq_true] at hq
  obtain ⟨p,hp,hpv⟩ := hq
  have hpv := of_decide_eq_true hpv
  have hmp : mayS s p = true := by
   unfold mayS
   rw [← hpv]
   exact hfi.at_ (by rw [hs.ll];exact (hl p hp).1)
  have hpf : p = f := by
   refine Classical.byContradiction fun q => c ?_
   rw [List.any_eq_true]
   exact ⟨p,hp,by rw [decide_eq_true q,hmp];rfl⟩
  subst hpf
  rw [bitV_has (by omega) (by omega)]
  exact decide_eq_true hpv.symm
theorem open_spec (s : SS) (vs : List Int) : 0 ≤ (openS s vs).2 ∧ ((openS s vs).2 = 0 → ∀ v ∈ vs,s.fixed v = true) ∧ (0 < (openS s vs).2 → (openS s vs).1 ∈ vs ∧ s.fixed (openS s vs).1 = false) ∧ ((openS s vs).2 = 1 → ∀ v ∈ vs,v ≠ (openS s vs).1 → s.fixed v = true) := by
 have key : ∀ (vs pre : List Int) (p : Int × Int),(0 ≤ p.2 ∧ (p.2 = 0 → ∀ v ∈ pre,s.fixed v = true) ∧ (0 < p.2 → p.1 ∈ pre ∧ s.fixed p.1 = false) ∧ (p.2 = 1 → ∀ v ∈ pre,v ≠ p.1 → s.fixed v = true)) →
   let q := vs.foldl (fun p v => if s.fixed v then p else (v,p.2 + 1)) p
   (0 ≤ q.2 ∧ (q.2 = 0 → ∀ v ∈ pre ++ vs,s.fixed v = true) ∧ (0 < q.2 → q.1 ∈ pre ++ vs ∧ s.fixed q.1 = false) ∧ (q.2 = 1 → ∀ v ∈ pre ++ vs,v ≠ q.1 → s.fixed v = true)) := by
  intro vs
  induction vs with
  | nil => intro pre p h;simpa using h
  | cons v vs ih =>
   intro pre p h
   have := ih (pre ++ [v]) (if s.fixed v then p else (v,p.2 + 1)) (by
    obtain ⟨h0,h1,h2,h3⟩ := h
    by_cases c : s.fixed v = true
    ·rw [if_pos c]
     refine ⟨h0,fun e u hu => ?_,fun e => ⟨by simp [(h2 e).1],(h2 e).2⟩,fun e u hu hne => ?_⟩
     ·rcases List.mem_append.1 hu with q | q
      ·exact h1 e u q
      ·have : u = v := by simpa using q
       rw [this];exact c
     ·rcases List.mem_append.1 hu with q | q
      ·exact h3 e u q hne
      ·have : u = v := by simpa using q
       rw [this];exact c
    ·rw [if_neg c]
     refine ⟨by simp only [];omega,fun e => by simp only [] at e;omega,fun _ => ⟨by simp,by simpa using c⟩,fun e u hu hne => ?_⟩
     simp only [] at e hne
     rcases List.mem_append.1 hu with q | q
     ·exact h1 (by omega) u q
     ·have : u = v := by simpa using q
      exact absurd this hne)
   rw [List.append_assoc] at this
   exact this
 have := key vs [] (0,0) (by simp)
 simpa [openS] using this
theorem draw_may {K : SK} (hK : KOk K) {s : SS} (hs : SOk K s) {i : Nat} {c : QCon} (hc : K.cons[i]? = some c) (c4 : c.sort = 4) {v : Int} (hraw : v ∈ c.lits.map (·.1)) (oo : s.fixed v = false) : ∃ l ∈ c.lits,mayS s l = true := by
 have hcon := hK.cons c (List.mem_of_getElem? hc)
 obtain ⟨l,hl,hle⟩ := List.mem_map.1 hraw
 refine ⟨l,hl,?_⟩
 obtain ⟨p1,⟨u,p2,p3,p4⟩,p5⟩ := hcon.lits l hl
 have hvp : PlOk K.vars.length v := by rw [← hle];exact p1
 obtain ⟨a,b,t,ht⟩ := two_of (hs.L_lt hK v) (hs.ne v.toNat (by have := hs.ll;have := hvp.1;have := hvp.2;omega)) oo
 have hsort := valsD_sorted (s.L v)
 rw [ht] at hsort
 have hab := (List.pairwise_cons.1 hsort).1 b (by simp)
 have ha := (has_vals (hs.L_lt hK v) (v := a)).1 (by rw [ht];simp)
 have hb := (has_vals (hs.L_lt hK v) (v := b)).1 (by rw [ht];simp)
 rw [hle] at p2
 have s1 := hs.sub v.toNat u p2 _ ha.2.2
 have s2 := hs.sub v.toNat u p2 _ hb.2.2
 have ea : a = 0 := by omega
 have eb : b = 1 := by omega
 unfold mayS
 rw [hle]
 rcases p5 with e | e
 ·rw [e,← ea];exact ha.2.2
 ·rw [e,← eb];exact hb.2.2
theorem draw_ok {K : SK} (hK : KOk K) {s : SS} (hs : SOk K s) {i : Nat} {c : QCon} (hc : K.cons[i]? = some c) : Ref K s (drawS K i s).2 ∧ Snd (fun x => conP x c = true) s (drawS K i s) ∧ ((drawS K i s).1 = true → (∀ v ∈ K.cvs.getD i [],s.fixed v = true) → conP s.vals c = true) := by
 have hmem := List.mem_of_getElem? hc
 have hcon := hK.cons c hmem
 have hcv := hK.cv i c hc
 have hget : K.cons.getD i zeroCon = c := by rw [List.getD_eq_getElem?_getD,hc];rfl
 obtain ⟨o0,o1,o2,o3⟩ := open_spec s (K.cvs.getD i [])
 unfold drawS
 rw [hget]
 simp only []
 generalize hO : openS s (K.cvs.getD i []) = o at *
 by_cases c0 : o.2 = 0
 ·rw [if_pos c0]
  refine ⟨Ref.refl K s,fun x hx hf hq => ⟨?_,hf⟩,fun h _ => h⟩
  simp only []
  rw [← hq]
  refine conP_congr fun v hv => ?_
  have hvp : PlOk s.left.length v := by rw [hs.ll];exact raw_ok hcon v hv
  rw [vals_at hvp]
  exact (hf.one hs hK hx hvp (o1 c0 v ((hcv v).2 hv))).symm
 ·rw [if_neg c0]
  have hpos : 0 < o.2 := by omega
  obtain ⟨ov,oo⟩ := o2 hpos
  have nofix : ¬ (∀ v ∈ K.cvs.getD i [],s.fixed v = true) := fun h => by rw [h o.1 ov] at oo;cases oo
  have hraw := (hcv o.1).1 ov
  have hvp := raw_ok hcon o.1 hraw
  refine ⟨?_,?_,fun _ h => absurd h nofix⟩
  all_goals
   by_cases cw : K.weak = true
   ·rw [if_pos cw]
    first
    |exact Ref.refl K s
    |exact fun x _ hf _ => ⟨rfl,hf⟩
   rw [if_neg cw]
   by_cases c1 : c.sort = 1
   ·rw [if_pos c1]
    by_cases ct : s.fixed c.truth = true
    ·rw [if_pos ct]
     by_cases cm : 1 < o.2
     ·rw [if_pos cm]
      first
      |exact Ref.refl K s
      |exact fun x _ hf _ => ⟨rfl,hf⟩
     ·rw [if_neg cm]
      have h1 : o.2 = 1 := by omega
      have q := sum_ok hK hs hmem (t := decide (s.val c.truth = 1)) hvp (fun p hp hne => o3 h1 p.1 ((hcv p.1).2 (by unfold rawVars;rw [if_pos c1];simp;exact .inr ⟨p.2,hp⟩)) hne)
      first
      |exact q.1
      |exact q.2.imp fun x hx hf hq => by
        have ht := hf.one hs hK hx (v := c.truth) (by rw [hs.ll];exact (hcon.truth c1).1) ct
        unfold conP at hq
        rw [if_pos c1,ht] at hq
        rw [beq_iff_eq] at hq
        rw [hq]
        by_cases z : s.val c.truth = 1 <;> simp [z]
    ·rw [if_neg ct]
     first
     |exact Ref.refl K s
     |exact fun x _ hf _ => ⟨rfl,hf⟩
   rw [if_neg c1]
   by_cases cz : c.sort = 0
   ·rw [if_pos cz]
    by_cases cm : 1 < o.2
    ·rw [if_pos cm]
     first
     |exact Ref.refl K s
     |exact fun x _ hf _ => ⟨rfl,hf⟩
    ·rw [if_neg cm]
     have h1 : o.2 = 1 := by omega
     have q := sum_ok hK hs hmem (t := true) hvp (fun p hp hne => o3 h1 p.1 ((hcv p.1).2 (by unfold rawVars;rw [if_neg c1,if_pos cz];simp;exact ⟨p.2,hp⟩)) hne)
     first
     |exact q.1
     |exact q.2.imp fun x hx hf hq => by
       unfold conP at hq
       rw [if_neg c1,if_pos cz] at hq
       exact hq
   rw [if_neg cz]
   by_cases c2 : c.sort = 2
   ·rw [if_pos c2]
    have q := at_ok hK hs hmem c2
    first
    |exact q.1
    |exact q.2.imp fun x hx hf hq => by
      unfold conP at hq
      rw [if_neg c1,if_neg cz,if_pos c2] at hq
      exact hq
   rw [if_neg c2]
   by_cases c3 : c.sort = 3
   ·rw [if_pos c3]
    have q := diff_ok hK (vars := c.vars) hcon.vars hs
    first
    |exact q.1
    |exact q.2.imp fun x hx hf hq => by
      unfold conP at hq
      rw [if_neg c1,if_neg cz,if_neg c2,if_pos c3] at hq
      exact hq
   rw [if_neg c3]
   by_cases c4 : c.sort = 4
   ·rw [if_pos c4]
    have hm : ∃ l ∈ c.lits,mayS s l = true := by
     unfold rawVars at hraw
     rw [if_neg c1,if_neg cz,if_neg c2,if_neg c3,if_pos c4] at hraw
     exact draw_may hK hs hc c4 hraw oo
    have q := or_ok hK (lits := c.lits) (fun p hp => ⟨(hcon.lits p hp).1,(hcon.lits p hp).2.2⟩) hs hm
    first
    |exact q.1
    |exact q.2.imp fun x hx hf hq => by
      unfold conP at hq
      rw [if_neg c1,if_neg cz,if_neg c2,if_neg c3,if_pos c4] at hq
      exact hq
   exfalso
   rcases hcon.sort with e | e | e | e | e <;> omega
def OnlyV (V : List Int) (s s' : SS) : Prop := ∀ j : Nat,(j : Int) ∉ V → s'.left.getD j 0 = s.left.getD j 0
theorem OnlyV.refl (V : List Int) (s : SS) : OnlyV V s s := fun _ _ => rfl
theorem OnlyV.trans {V : List Int} {a b c : SS} (h : OnlyV V a b) (k : OnlyV V b c) : OnlyV V a c := fun j hj => (k j hj).trans (h j hj)
theorem keep_only {K : SK} {V : List Int} {v : Int} {D : Nat} {s : SS} (hv : v ∈ V) (h0 : 0 ≤ v) : OnlyV V s (keepS K v D s).2 := by
 unfold keepS
 split
 ·exact OnlyV.refl V s
 ·split
  ·exact OnlyV.refl V s
  ·intro j hj
   have : v.toNat ≠ j := fun e => hj (by rw [← e,show ((v.toNat : Nat) : Int) = v by omega];exact hv)
   simp only [putS]
   rw [List.getD_eq_getElem?_getD,List.getElem?_set_ne this,← List.getD_eq_getElem?_getD]
theorem take_only {K : SK} {V : List Int} {a : Int} : ∀ (vs : List Int) {s : SS},(∀ v ∈ vs,v ∈ V ∧ 0 ≤ v) → OnlyV V s (takeS K a vs s).2 := by
 intro vs
 induction vs with
 | nil => intro s _;exact OnlyV.refl V s
 | cons v vs ih =>
  intro s hv
  obtain ⟨h1,h2⟩ := hv v (by simp)
  rw [takeS]
  split
  ·simp only []
   split
   ·exact (keep_only h1 h2).trans (ih (fun u hu => hv u (by simp [hu])))
   ·exact keep_only h1 h2
  ·exact ih (fun u hu => hv u (by simp [hu]))
theorem diff_only {K : SK} {vars : List Int} (hv : ∀ v ∈ vars,0 ≤ v) : ∀ (is : List Nat) {s : SS},OnlyV vars s (diffF K vars is s).2 := by
 intro is
 induction is with
 | nil => intro s;exact OnlyV.refl vars s
 | cons i is ih =>
  intro s
  have h1 : ∀ (a : Int) (s : SS),OnlyV vars s (takeS K a (vars.take i) s).2 := fun a s => take_only _ (fun u hu => ⟨List.mem_of_mem_take hu,hv u (List.mem_of_mem_take hu)⟩)
  have h2 : ∀ (a : Int) (s : SS),OnlyV vars s (takeS K a (vars.drop (i + 1)) s).2 := fun a s => take_only _ (fun u hu => ⟨List.mem_of_mem_drop hu,hv u (List.mem_of_mem_drop hu)⟩)
  rw [diffF]
  simp only []
  split
  ·split
   ·split
    ·exact ((h1 _ _).trans (h2 _ _)).trans ih
    ·exact (h1 _ _).trans (h2 _ _)
   ·exact h1 _ _
  ·exact ih
theorem draw_only {K : SK} (hK : KOk K) {s : SS} (hs : SOk K s) {i : Nat} {c : QCon} (hc : K.cons[i]? = some c) : OnlyV (K.cvs.getD i []) s (drawS K i s).2 := by
 have hmem := List.mem_of_getElem? hc
 have hcon := hK.cons c hmem
 have hcv := hK.cv i c hc
 have hget : K.cons.getD i zeroCon = c := by rw [List.getD_eq_getElem?_getD,hc];rfl
 have hraw : ∀ v,v ∈ rawVars c → v ∈ K.cvs.getD i [] ∧ 0 ≤ v := fun v hv => ⟨(hcv v).2 hv,(raw_ok hcon v hv).1⟩
 obtain ⟨o0,o1,o2,o3⟩ := open_spec s (K.cvs.getD i [])
 unfold drawS
 rw [hget]
 simp only []
 generalize hO : openS s (K.cvs.getD i []) = o at *
 by_cases c0 : o.2 = 0
 ·rw [if_pos c0];exact OnlyV.refl _ s
 rw [if_neg c0]
 obtain ⟨ov,oo⟩ := o2 (by omega)
 have hov := hraw o.1 ((hcv o.1).1 ov)
 by_cases cw : K.weak = true
 ·rw [if_pos cw];exact OnlyV.refl _ s
 rw [if_neg cw]
 by_cases c1 : c.sort = 1
 ·rw [if_pos c1]
  split
  ·split
   ·exact OnlyV.refl _ s
   ·exact keep_only hov.1 hov.2
  ·exact OnlyV.refl _ s
 rw [if_neg c1]
 by_cases cz : c.sort = 0
 ·rw [if_pos cz]
  split
  ·exact OnlyV.refl _ s
  ·exact keep_only hov.1 hov.2
 rw [if_neg cz]
 by_cases c2 : c.sort = 2
 ·rw [if_pos c2]
  have hr : rawVars c = [c.place,c.entry] := by unfold rawVars;rw [if_neg c1,if_neg cz,if_pos c2]
  rw [hr] at hraw
  have p1 := hraw c.place (by simp)
  have p2 := hraw c.entry (by simp)
  unfold atS
  simp only []
  split
  ·exact (keep_only p1.1 p1.2).trans (keep_only p2.1 p2.2)
  ·exact keep_only p1.1 p1.2
 rw [if_neg c2]
 by_cases c3 : c.sort = 3
 ·rw [if_pos c3]
  have hr : rawVars c = c.vars := by unfold rawVars;rw [if_neg c1,if_neg cz,if_neg c2,if_pos c3]
  rw [hr] at hraw
  intro j hj
  exact diff_only (fun v hv => (hraw v hv).2) _ j (fun h => hj (hraw _ h).1)
 rw [if_neg c3]
 by_cases c4 : c.sort = 4
 ·rw [if_pos c4]
  have hr : rawVars c = c.lits.map (·.1) := by unfold rawVars;rw [if_neg c1,if_neg cz,if_neg c2,if_neg c3,if_pos c4]
  rw [hr] at hraw
  have hor := hcv o.1 |>.1 ov
  rw [hr] at hor
  unfold orS
  simp only []
  split
  ·exact OnlyV.refl _ s
  ·cases hf : c.lits.find? (mayS s) with
   | some f =>
    simp only [Option.getD_some]
    have := hraw f.1 (List.mem_map.2 ⟨f,List.mem_of_find?_eq_some hf,rfl⟩)
    exact keep_only this.1 this.2
   | none =>
    exfalso
    obtain ⟨l,hl,hm⟩ := draw_may hK hs hc c4 hor oo
    rw [List.find?_eq_none] at hf
    exact hf l hl hm
 rw [if_neg c4]
 exact OnlyV.refl _ s
end
section
structure RefL (s s' : SS) : Prop where
 ll : s'.left.length = s.left.length
 ml : s'.marked.length = s.marked.length
 sub : ∀ i j,(s'.left.getD i 0).testBit j = true → (s.left.getD i 0).testBit j = true
 ne : ∀ i,s.left.getD i 0 ≠ 0 → s'.left.getD i 0 ≠ 0
 nodes : s'.nodes = s.nodes
 sols : s'.sols = s.sols
 ending : s'.ending = s.ending
 tr : ∃ t,s'.trail = s.trail ++ t ∧ undoL t s'.left = s.left
theorem Ref.toL {K : SK} {s s' : SS} (h : Ref K s s') : RefL s s' := ⟨h.ll,h.ml,h.sub,h.ne,h.nodes,h.sols,h.ending,h.tr⟩
theorem RefL.refl (s : SS) : RefL s s := ⟨rfl,rfl,fun _ _ h => h,fun _ h => h,rfl,rfl,rfl,⟨[],by simp,rfl⟩⟩
theorem RefL.trans {a b c : SS} (h : RefL a b) (k : RefL b c) : RefL a c := by
 refine ⟨k.ll.trans h.ll,k.ml.trans h.ml,fun i j q => h.sub i j (k.sub i j q),fun i q => k.ne i (h.ne i q),k.nodes.trans h.nodes,k.sols.trans h.sols,k.ending.trans h.ending,?_⟩
 obtain ⟨t,t1,t2⟩ := h.tr
 obtain ⟨u,u1,u2⟩ := k.tr
 refine ⟨t ++ u,by rw [u1,t1,List.append_assoc],?_⟩
 unfold undoL at *
 rw [List.foldr_append,u2,t2]
theorem RefL.ok {K : SK} {s s' : SS} (h : RefL s s') (hs : SOk K s) : SOk K s' :=
 ⟨h.ll.trans hs.ll,h.ml.trans hs.ml,fun i hi => h.ne i (hs.ne i (by rw [← h.ll];exact hi)),fun i v hv j hj => hs.sub i v hv j (h.sub i j hj)⟩
theorem refL_unmark (i : Nat) (s : SS) : RefL s (unmark i s) := ⟨rfl,by simp [unmark],fun _ _ h => h,fun _ h => h,rfl,rfl,rfl,⟨[],by simp [unmark],rfl⟩⟩
theorem refL_clear (s : SS) : RefL s (clearS s) := ⟨rfl,by simp [clearS],fun _ _ h => h,fun _ h => h,rfl,rfl,rfl,⟨[],by simp [clearS],rfl⟩⟩
def FixOk (K : SK) (s : SS) : Prop := ∀ i c,K.cons[i]? = some c → s.marked.getD i true = false → ∃ s0,SOk K s0 ∧ (∀ v ∈ K.cvs.getD i [],s0.L v = s.L v) ∧ drawS K i s0 = (true,s0)
theorem FixOk.asked {K : SK} (hK : KOk K) {s : SS} (hs : SOk K s) (h : FixOk K s) {i : Nat} {c : QCon} (hc : K.cons[i]? = some c) (hm : s.marked.getD i true = false) (hf : ∀ v ∈ K.cvs.getD i [],s.fixed v = true) : conP s.vals c = true := by
 obtain ⟨s0,h1,h2,h3⟩ := h i c hc hm
 have hcon := hK.cons c (List.mem_of_getElem? hc)
 have q := (draw_ok hK h1 hc).2.2 (by rw [h3]) (fun v hv => by unfold SS.fixed;rw [h2 v hv];exact hf v hv)
 rw [← q]
 refine conP_congr fun v hv => ?_
 have hvp := raw_ok hcon v hv
 rw [vals_at (by rw [hs.ll];exact hvp),vals_at (by rw [h1.ll];exact hvp)]
 unfold SS.val
 rw [h2 v ((hK.cv i c hc v).2 hv)]
theorem markI_some {m : List Bool} {i : Nat} (h : markI m = some i) : i < m.length ∧ m.getD i false = true := by
 unfold markI at h
 obtain ⟨h1,h2,_⟩ := List.findIdx?_eq_some_iff_getElem.1 h
 refine ⟨h1,?_⟩
 rw [List.getD_eq_getElem?_getD,List.getElem?_eq_getElem h1]
 simpa using h2
theorem markI_none {m : List Bool} (h : markI m = none) (i : Nat) : m.getD i false = false := by
 unfold markI at h
 rw [List.findIdx?_eq_none_iff] at h
 rw [List.getD_eq_getElem?_getD]
 cases e : m[i]? with
 | none => rfl
 | some b => simpa using h b (List.mem_of_getElem? e)
theorem count_set : ∀ {m : List Bool} {i : Nat},m.getD i false = true → (m.set i false).countP id + 1 = m.countP id
 | [],i,h => by simp at h
 | b :: m,0,h => by
  have : b = true := by simpa using h
  subst this
  simp
 | b :: m,i + 1,h => by
  have := count_set (m := m) (i := i) (by simpa using h)
  rw [List.set_cons_succ,List.countP_cons,List.countP_cons]
  omega
theorem mass_lt {A A' m c c' : Nat} (h : A' < A) (hc : c' ≤ m) : A' * (m + 1) + c' < A * (m + 1) + c := by
 have : (A' + 1) * (m + 1) ≤ A * (m + 1) := Nat.mul_le_mul_right _ h
 rw [Nat.add_mul] at this
 omega
theorem mass_draw {K : SK} (hK : KOk K) {s : SS} (hs : SOk K s) {i : Nat} (hi : markI s.marked = some i) : massS (drawS K i (unmark i s)).2 < massS s := by
 obtain ⟨h1,h2⟩ := markI_some hi
 have hu := (refL_unmark i s).ok hs
 have hcc : K.cons[i]? = some (K.cons[i]'(by rw [← hs.ml];exact h1)) := List.getElem?_eq_getElem _
 have q := (draw_ok hK hu hcc).1
 have hc := count_set h2
 unfold massS
 have hml : (drawS K i (unmark i s)).2.marked.length = s.marked.length := by rw [q.ml];simp [unmark]
 rw [hml]
 rcases q.mass with e | e
 ·rw [e]
  simp only [unmark]
  omega
 ·refine mass_lt e ?_
  rw [← hml];exact List.countP_le_length
theorem left_ext {a b : List Nat} (hl : a.length = b.length) (h : ∀ j : Nat,a.getD j 0 = b.getD j 0) : a = b := by
 apply List.ext_getElem hl
 intro j h1 h2
 have := h j
 rw [List.getD_eq_getElem?_getD,List.getD_eq_getElem?_getD,List.getElem?_eq_getElem h1,List.getElem?_eq_getElem h2] at this
 simpa using this
theorem concF_ok {K : SK} (hK : KOk K) : ∀ (n : Nat) {s : SS},SOk K s → FixOk K s → massS s < n → RefL s (concF K n s).2 ∧ Snd (fun x => ∀ c ∈ K.cons,conP x c = true) s (concF K n s) ∧ (∀ i,(concF K n s).2.marked.getD i false = false) ∧ ((concF K n s).1 = true → FixOk K (concF K n s).2)
 | 0,s,_,_,h => by omega
 | n + 1,s,hs,hF,hm => by
  rw [concF]
  cases e : markI s.marked with
  | none => exact ⟨RefL.refl s,fun x _ hf _ => ⟨rfl,hf⟩,markI_none e,fun _ => hF⟩
  | some i =>
   simp only []
   obtain ⟨h1,h2⟩ := markI_some e
   have hu := (refL_unmark i s).ok hs
   have hcc : K.cons[i]? = some (K.cons[i]'(by rw [← hs.ml];exact h1)) := List.getElem?_eq_getElem _
   obtain ⟨q1,q2,q3⟩ := draw_ok hK hu hcc
   have hmass := mass_draw hK hs e
   have r1 := (refL_unmark i s).trans q1.toL
   by_cases c : (drawS K i (unmark i s)).1 = true
   ·rw [if_pos c]
    have hF2 : FixOk K (drawS K i (unmark i s)).2 := by
     intro k ck hk hkm
     obtain ⟨m1,m2⟩ := q1.mrk k hkm
     by_cases hki : k = i
     ·subst hki
      refine ⟨unmark k s,hu,fun v hv => (m2 v hv).symm,?_⟩
      rcases q1.mass with z | z
      ·exact Prod.ext c z
      ·exfalso
       have z2 : (drawS K k (unmark k s)).2.left = (unmark k s).left := by
        refine left_ext q1.ll fun j => ?_
        by_cases hj : (j : Int) ∈ K.cvs.getD k []
        ·exact m2 (j : Int) hj
        ·exact draw_only hK hu hcc j hj
       rw [z2] at z;omega
     ·have m3 : s.marked.getD k true = false := by
       simp only [unmark] at m1
       rw [List.getD_eq_getElem?_getD,List.getElem?_set_ne (fun z => hki z.symm),← List.getD_eq_getElem?_getD] at m1
       exact m1
      obtain ⟨s0,a1,a2,a3⟩ := hF k ck hk m3
      exact ⟨s0,a1,fun v hv => (a2 v hv).trans (m2 v hv).symm,a3⟩
    obtain ⟨w1,w2,w3,w4⟩ := concF_ok hK n (q1.ok hu) hF2 (by omega)
    refine ⟨r1.trans w1,fun x hx hf hq => ?_,w3,w4⟩
    exact w2 x hx (q2 x hx hf (hq _ (List.mem_of_getElem? hcc))).2 hq
   ·rw [if_neg c]
    refine ⟨r1.trans (refL_clear _),fun x hx hf hq => ?_,fun k => ?_,fun h => by cases h⟩
    ·exact absurd (q2 x hx hf (hq _ (List.mem_of_getElem? hcc))).1 c
    ·simp only [clearS]
     rw [List.getD_eq_getElem?_getD,List.getElem?_map]
     cases (drawS K i (unmark i s)).2.marked[k]? <;> rfl
theorem concF_fuel {K : SK} (hK : KOk K) : ∀ (n m : Nat) {s : SS},SOk K s → massS s < n → massS s < m → concF K n s = concF K m s
 | 0,m,s,_,h,_ => by omega
 | n + 1,0,s,_,_,h => by omega
 | n + 1,m + 1,s,hs,h1,h2 => by
  rw [concF,concF]
  cases e : markI s.marked with
  | none => rfl
  | some i =>
   simp only []
   have hmass := mass_draw hK hs e
   have hu := (refL_unmark i s).ok hs
   have hcc : K.cons[i]? = some (K.cons[i]'(by rw [← hs.ml];exact (markI_some e).1)) := List.getElem?_eq_getElem _
   have hs2 := (draw_ok hK hu hcc).1.ok hu
   split
   ·exact concF_fuel hK n m hs2 (by omega) (by omega)
   ·rfl
theorem concS_none {K : SK} {s : SS} (h : markI s.marked = none) : concS K s = (true,s) := by
 unfold concS;rw [concF,h]
theorem concS_some {K : SK} (hK : KOk K) {s : SS} (hs : SOk K s) {i : Nat} (h : markI s.marked = some i) : concS K s = if (drawS K i (unmark i s)).1 then concS K (drawS K i (unmark i s)).2 else (false,clearS (drawS K i (unmark i s)).2) := by
 unfold concS
 rw [concF,h]
 simp only []
 have hmass := mass_draw hK hs h
 have hu := (refL_unmark i s).ok hs
 have hcc : K.cons[i]? = some (K.cons[i]'(by rw [← hs.ml];exact (markI_some h).1)) := List.getElem?_eq_getElem _
 have hs2 := (draw_ok hK hu hcc).1.ok hu
 split
 ·exact concF_fuel hK _ _ hs2 (by omega) (by omega)
 ·rfl
theorem concS_ok {K : SK} (hK : KOk K) {s : SS} (hs : SOk K s) (hF : FixOk K s) : RefL s (concS K s).2 ∧ Snd (fun x => ∀ c ∈ K.cons,conP x c = true) s (concS K s) ∧ (∀ i,(concS K s).2.marked.getD i false = false) ∧ ((concS K s).1 = true → FixOk K (concS K s).2) :=
 concF_ok hK _ hs hF (Nat.lt_succ_self _)
theorem undo_pop : ∀ (n : Nat) (t : List (Int × Nat)),t.length = n → ∀ (a : List (Int × Nat)) (s : SS),s.trail = a ++ t → popN n s = { s with trail := a,left := undoL t s.left }
 | 0,t,h,a,s,e => by
  have : t = [] := List.eq_nil_of_length_eq_zero h
  subst this
  simp at e
  simp [popN,undoL,← e]
 | n + 1,t,h,a,s,e => by
  obtain ⟨t',p,rfl⟩ : ∃ t' p,t = t' ++ [p] := ⟨t.dropLast,t.getLast (by intro q;simp [q] at h),by rw [List.dropLast_concat_getLast]⟩
  rw [popN]
  have hl : s.trail.getLastD (0,0) = p := by rw [e,← List.append_assoc];simp
  have hd : s.trail.dropLast = a ++ t' := by rw [e,← List.append_assoc,List.dropLast_concat]
  rw [undo_pop n t' (by simpa using h) a (popS s) hd]
  unfold popS undoL
  rw [hl,List.foldr_append]
  rfl
theorem back_ref {s s' : SS} (h : RefL s s') : backS s.trail.length s' = { s' with trail := s.trail,left := s.left } := by
 obtain ⟨t,h1,h2⟩ := h.tr
 unfold backS
 rw [h1,List.length_append,Nat.add_sub_cancel_left,undo_pop t.length t rfl s.trail s' h1,h2]
end
section
def AllP (K : SK) (x : List Int) : Prop := ∀ c ∈ K.cons,conP x c = true
structure SolP (K : SK) (left : List Nat) (x : List Int) : Prop where
 low : ∀ y ∈ x,-1000 ≤ y
 fits : Fits left x
 all : AllP K x
structure Node (K : SK) (s : SS) : Prop where
 ok : SOk K s
 fix : FixOk K s
 no : ∀ i,s.marked.getD i false = false
theorem Node.same {K : SK} {s s' : SS} (h : Node K s) (hl : s'.left = s.left) (hm : s'.marked = s.marked) : Node K s' := by
 refine ⟨⟨by rw [hl];exact h.ok.ll,by rw [hm];exact h.ok.ml,by rw [hl];exact h.ok.ne,by rw [hl];exact h.ok.sub⟩,fun i c hc hk => ?_,by rw [hm];exact h.no⟩
 rw [hm] at hk
 obtain ⟨s0,a,b,d⟩ := h.fix i c hc hk
 exact ⟨s0,a,fun v hv => by rw [b v hv];unfold SS.L;rw [hl],d⟩
theorem Node.un {K : SK} {s : SS} (h : Node K s) {i : Nat} (hi : i < s.marked.length) : s.marked.getD i true = false := by
 have := h.no i
 rw [List.getD_eq_getElem?_getD,List.getElem?_eq_getElem hi] at this ⊢
 simpa using this
theorem nomark_eq {a b : List Bool} (hl : a.length = b.length) (ha : ∀ i,a.getD i false = false) (hb : ∀ i,b.getD i false = false) : a = b := by
 apply List.ext_getElem hl
 intro j h1 h2
 have p := ha j
 have q := hb j
 rw [List.getD_eq_getElem?_getD,List.getElem?_eq_getElem h1] at p
 rw [List.getD_eq_getElem?_getD,List.getElem?_eq_getElem h2] at q
 simp at p q
 rw [p,q]
def prodL (l : List Nat) : Nat := l.foldr (fun D p => cntD D * p) 1
theorem cnt_one {v : Int} (h1 : -1000 ≤ v) (h2 : v ≤ 1000) : cntD (bitV v) = 1 := by rw [cntD_vals,valsD_bit h1 h2];rfl
theorem cnt_mono {D E : Nat} (hE : E < 2 ^ 2001) (hs : ∀ j,D.testBit j = true → E.testBit j = true) : cntD D ≤ cntD E := by
 by_cases c : D = E
 ·rw [c];exact Nat.le_refl _
 ·exact Nat.le_of_lt (cnt_lt hE hs c)
theorem prod_mono {f : Nat → Nat} : ∀ {a b : List Nat},a.length = b.length → (∀ i,f (a.getD i 0) ≤ f (b.getD i 0)) → a.foldr (fun D p => f D * p) 1 ≤ b.foldr (fun D p => f D * p) 1
 | [],[],_,_ => Nat.le_refl _
 | x :: a,y :: b,hl,h => by
  have h0 := h 0
  have := prod_mono (f := f) (a := a) (b := b) (by simpa using hl) (fun i => by simpa using h (i + 1))
  exact Nat.mul_le_mul (by simpa using h0) this
 | [],_ :: _,h,_ => by simp at h
 | _ :: _,[],h,_ => by simp at h
theorem prod_set {f : Nat → Nat} : ∀ {l : List Nat} {i : Nat},i < l.length → ∃ M,l.foldr (fun D p => f D * p) 1 = M * f (l.getD i 0) ∧ ∀ D,f D = 1 → (l.set i D).foldr (fun D p => f D * p) 1 = M
 | [],i,h => by simp at h
 | x :: l,0,_ => ⟨l.foldr (fun D p => f D * p) 1,by simp [Nat.mul_comm],fun D h => by simp [h]⟩
 | x :: l,i + 1,h => by
  obtain ⟨M,h1,h2⟩ := prod_set (f := f) (l := l) (i := i) (by simpa using h)
  refine ⟨f x * M,?_,fun D hD => ?_⟩
  ·rw [List.foldr_cons,h1,List.getD_cons_succ,Nat.mul_assoc]
  ·rw [List.set_cons_succ,List.foldr_cons,h2 D hD]
theorem prod_pos {f : Nat → Nat} : ∀ {l : List Nat},(∀ i,i < l.length → 0 < f (l.getD i 0)) → 0 < l.foldr (fun D p => f D * p) 1
 | [],_ => Nat.one_pos
 | x :: l,h => by
  rw [List.foldr_cons]
  exact Nat.mul_pos (by simpa using h 0 (by simp)) (prod_pos fun i hi => by simpa using h (i + 1) (by simpa using hi))
theorem countP_mono' {p : Nat → Bool} : ∀ {a b : List Nat},a.length = b.length → (∀ i,i < a.length → p (a.getD i 0) = true → p (b.getD i 0) = true) → a.countP p ≤ b.countP p
 | [],[],_,_ => Nat.le_refl _
 | x :: a,y :: b,hl,h => by
  have h0 := h 0 (by simp)
  have := countP_mono' (p := p) (a := a) (b := b) (by simpa using hl) (fun i hi => by simpa using h (i + 1) (by simpa using hi))
  rw [List.countP_cons,List.countP_cons]
  simp only [List.getD_cons_zero] at h0
  by_cases c : p x = true
  ·rw [if_pos c,if_pos (h0 c)];omega
  ·rw [if_neg c];omega
 | [],_ :: _,h,_ => by simp at h
 | _ :: _,[],h,_ => by simp at h
theorem countP_set' {p : Nat → Bool} : ∀ {l : List Nat} {i D : Nat},i < l.length → p (l.getD i 0) = true → p D = false → (l.set i D).countP p + 1 = l.countP p
 | [],i,D,h,_,_ => by simp at h
 | x :: l,0,D,_,h,k => by
  have h' : p x = true := by simpa using h
  rw [List.set_cons_zero,List.countP_cons,List.countP_cons,h',k];simp
 | x :: l,i + 1,D,h,hp,k => by
  have := countP_set' (p := p) (l := l) (i := i) (D := D) (by simpa using h) (by simpa using hp) k
  rw [List.set_cons_succ,List.countP_cons,List.countP_cons];omega
theorem RefL.fixed {K : SK} (hK : KOk K) {s s' : SS} (hs : SOk K s) (h : RefL s s') {i : Nat} (hi : i < s.left.length) (hf : oneB (s.left.getD i 0) = true) : s'.left.getD i 0 = s.left.getD i 0 := by
 obtain ⟨a,b,c⟩ := oneB_is (hs.lt hK i) hf
 rw [c]
 refine sub_one (fun j hj => ?_) (h.ne i (hs.ne i hi))
 rw [← c];exact h.sub i j hj
theorem RefL.open_le {K : SK} (hK : KOk K) {s s' : SS} (hs : SOk K s) (h : RefL s s') : openN s' ≤ openN s := by
 refine countP_mono' h.ll fun i hi hp => ?_
 cases c : oneB (s.left.getD i 0) with
 | false => rfl
 | true => rw [h.fixed hK hs (by rw [← h.ll];exact hi) c,c] at hp;exact hp
theorem RefL.prod_le {K : SK} (hK : KOk K) {s s' : SS} (hs : SOk K s) (h : RefL s s') : prodL s'.left ≤ prodL s.left :=
 prod_mono h.ll fun i => cnt_mono (hs.lt hK i) (h.sub i)
def LexLt (a b : List Int) : Prop := ∃ k : Nat,(∀ i,i < k → a.getD i 0 = b.getD i 0) ∧ a.getD k 0 < b.getD k 0
structure Out (K : SK) (s : SS) (P : List Int → Prop) (B : Nat) (r : Bool × SS) (new : List (List Int)) : Prop where
 sols : r.2.sols = s.sols ++ new
 all : ∀ x ∈ new,P x
 nd : new.Nodup
 lex : K.order ≠ 1 → new.Pairwise LexLt
 tt : r.1 = true → r.2.left = s.left ∧ r.2.trail = s.trail ∧ r.2.marked = s.marked ∧ r.2.ending = s.ending ∧ ∀ x,P x → x ∈ new
 ff : r.1 = false → (r.2.ending = 1 ∧ r.2.nodes + 1 ≤ s.nodes + B ∧ K.budget ≤ r.2.nodes) ∨ (r.2.ending = 2 ∧ r.2.sols.length = 100000 ∧ ∃ x,P x ∧ x ∉ new)
 lo : s.nodes ≤ r.2.nodes
 hi : s.nodes ≤ K.budget → r.2.nodes ≤ K.budget
 bd : r.2.nodes ≤ s.nodes + B
theorem choose_ok {K : SK} (hK : KOk K) {e : SS → Bool × SS} {v : Int} (hv : PlOk K.vars.length v) {b N M : Nat} {l0 : List Nat} (hM : ∀ D,cntD D = 1 → prodL (l0.set v.toNat D) ≤ M) (hN : l0.countP (fun D => !oneB D) ≤ N) (hof : oneB (l0.getD v.toNat 0) = false) (hfst : K.order ≠ 1 → ∀ i,i < v.toNat → oneB (l0.getD i 0) = true) (he : ∀ s2 : SS,Node K s2 → openN s2 < N → prodL s2.left ≤ M → ∃ new,Out K s2 (SolP K s2.left) b (e s2) new) : ∀ (xs : List Int) {s : SS},Node K s → s.left = l0 → (∀ x ∈ xs,x ∈ valsD (l0.getD v.toNat 0)) → xs.Pairwise (· < ·) → ∃ new,Out K s (fun x => SolP K l0 x ∧ vAt x v ∈ xs) (xs.length * b) (chooseF K e v xs s) new := by
 intro xs
 induction xs with
 | nil =>
  intro s hn _ _ _
  refine ⟨[],?_⟩
  rw [chooseF]
  exact ⟨by simp,(fun x hx => by cases hx),List.nodup_nil,fun _ => List.Pairwise.nil,(fun _ => ⟨rfl,rfl,rfl,rfl,fun x hx => by have q := hx.2;cases q⟩),(fun h => by cases h),Int.le_refl _,fun h => h,by simp⟩
 | cons x xs ih =>
  intro s hn hsl0 hx hsrt
  subst hsl0
  have hs := hn.ok
  have hl : v.toNat < s.left.length := by have := hs.ll;have := hv.1;have := hv.2;omega
  have hxm := hx x (by simp)
  obtain ⟨x1,x2,x3⟩ := (has_vals (hs.L_lt hK v)).1 hxm
  have hne : bitV x ≠ s.L v := fun q => by
   have q' : bitV x = s.left.getD v.toNat 0 := q
   rw [← q',oneB_bit x1 x2] at hof;cases hof
  have hput := put_ref hK hs hv (D := bitV x) (fun j h => by rw [bitV_bit] at h;rw [← of_decide_eq_true h];exact x3) (bitV_ne x) hne
  have hs1 := hput.ok hs
  have hF1 : FixOk K (putS K v (bitV x) s) := fun i c hc hk => by
   obtain ⟨m1,m2⟩ := hput.mrk i hk
   obtain ⟨s0,a1,a2,a3⟩ := hn.fix i c hc m1
   exact ⟨s0,a1,fun u hu => (a2 u hu).trans (m2 u hu).symm,a3⟩
  obtain ⟨c1,c2,c3,c4⟩ := concS_ok hK hs1 hF1
  have hR : RefL s (concS K (putS K v (bitV x) s)).2 := hput.toL.trans c1
  have hopen : openN (concS K (putS K v (bitV x) s)).2 < N := by
   have h1 := c1.open_le hK hs1
   have h2 : openN (putS K v (bitV x) s) + 1 = openN s := countP_set' (p := fun D => !oneB D) hl (by rw [hof];rfl) (by rw [oneB_bit x1 x2];rfl)
   have h3 : openN s ≤ N := hN
   omega
  have hprod : prodL (concS K (putS K v (bitV x) s)).2.left ≤ M := Nat.le_trans (c1.prod_le hK hs1) (hM (bitV x) (cnt_one x1 x2))
  -- of the rows with this value
  have fit1 : ∀ y,SolP K s.left y → vAt y v = x → Fits (putS K v (bitV x) s).left y := fun y hy hyv => by
   refine ⟨by simp [putS];exact hy.fits.len,fun i hi => ?_⟩
   simp only [putS,getD_set hl]
   split
   ·rename_i q
    have : y.getD i 0 = x := by rw [← q];exact hyv
    rw [this,bitV_has x1 x1];simp
   ·exact hy.fits.has i (by simpa [putS] using hi)
  have back1 : ∀ y,(∀ z ∈ y,-1000 ≤ z) → Fits (concS K (putS K v (bitV x) s)).2.left y → Fits s.left y ∧ vAt y v = x := fun y hlow hy => by
   have f1 : ∀ i,i < s.left.length → hasD (s.left.getD i 0) (y.getD i 0) = true := fun i hi => hR.sub i _ (hy.has i (by rw [hR.ll];exact hi))
   have hyl : y.length = s.left.length := by rw [hy.len,hR.ll]
   refine ⟨⟨hyl,f1⟩,?_⟩
   have q := c1.sub v.toNat _ (hy.has v.toNat (by rw [hR.ll];exact hl))
   simp only [putS,getD_set hl,if_true] at q
   have hyv : -1000 ≤ vAt y v := hlow _ (getD_mem' (by rw [hyl];exact hl))
   have q2 : hasD (bitV x) (vAt y v) = true := q
   rw [bitV_has x1 hyv] at q2
   exact (of_decide_eq_true q2).symm
  rw [chooseF]
  simp only []
  have hxs : ∀ y ∈ xs,y ∈ valsD (s.left.getD v.toNat 0) := fun y hy => hx y (by simp [hy])
  have hsrt2 := (List.pairwise_cons.1 hsrt).2
  have hlt := (List.pairwise_cons.1 hsrt).1
  have onodes : (concS K (putS K v (bitV x) s)).2.nodes = s.nodes := hR.nodes
  have osols : (concS K (putS K v (bitV x) s)).2.sols = s.sols := hR.sols
  have oend : (concS K (putS K v (bitV x) s)).2.ending = s.ending := hR.ending
  have hlen : (x :: xs).length * b = b + xs.length * b := by rw [List.length_cons,Nat.add_mul];omega
  rw [hlen]
  by_cases c : (concS K (putS K v (bitV x) s)).1 = true
  ·rw [if_pos c]
   have hn2 : Node K (concS K (putS K v (bitV x) s)).2 := ⟨c1.ok hs1,c4 c,c3⟩
   obtain ⟨new,o⟩ := he _ hn2 hopen hprod
   have hP : ∀ y,SolP K (concS K (putS K v (bitV x) s)).2.left y ↔ SolP K s.left y ∧ vAt y v = x := fun y => by
    constructor
    ·intro h
     obtain ⟨q1,q2⟩ := back1 y h.low h.fits
     exact ⟨⟨h.low,q1,h.all⟩,q2⟩
    ·rintro ⟨h,hyv⟩
     exact ⟨h.low,(c2 y h.low (fit1 y h hyv) h.all).2,h.all⟩
   generalize hg : e (concS K (putS K v (bitV x) s)).2 = g at *
   have hlo := o.lo
   have hbd := o.bd
   have hhi := o.hi
   rw [onodes] at hlo hbd hhi
   have hsl := o.sols
   rw [osols] at hsl
   by_cases cg : g.1 = true
   ·rw [if_pos cg]
    obtain ⟨t1,t2,t3,t4,t5⟩ := o.tt cg
    have hback : backS s.trail.length g.2 = { g.2 with trail := s.trail,left := s.left } := by
     obtain ⟨t,a1,a2⟩ := hR.tr
     unfold backS
     have htr : g.2.trail = s.trail ++ t := by rw [t2,a1]
     rw [htr,List.length_append,Nat.add_sub_cancel_left,undo_pop t.length t rfl s.trail g.2 htr,t1,a2]
    have hmk : g.2.marked = s.marked := by
     rw [t3]
     exact nomark_eq (by rw [hR.ml]) c3 hn.no
    obtain ⟨s3,hs3,s3l,s3t,s3m,s3n,s3s,s3e⟩ : ∃ s3 : SS,backS s.trail.length g.2 = s3 ∧ s3.left = s.left ∧ s3.trail = s.trail ∧ s3.marked = g.2.marked ∧ s3.nodes = g.2.nodes ∧ s3.sols = g.2.sols ∧ s3.ending = g.2.ending := ⟨_,hback,rfl,rfl,rfl,rfl,rfl,rfl⟩
    rw [hs3]
    have hn3 : Node K s3 := hn.same s3l (s3m.trans hmk)
    obtain ⟨new2,o2⟩ := ih hn3 s3l hxs hsrt2
    have hsl2 := o2.sols
    have hlo2 := o2.lo
    have hbd2 := o2.bd
    have hhi2 := o2.hi
    rw [s3n] at hlo2 hbd2 hhi2
    rw [s3s] at hsl2
    refine ⟨new ++ new2,?_,?_,?_,?_,?_,?_,by omega,fun h => hhi2 (hhi h),by omega⟩
    ·rw [hsl2,hsl,List.append_assoc]
    ·intro y hy
     rcases List.mem_append.1 hy with q | q
     ·obtain ⟨a1,a2⟩ := (hP y).1 (o.all y q)
      exact ⟨a1,by simp [a2]⟩
     ·obtain ⟨a1,a2⟩ := o2.all y q
      exact ⟨a1,by simp [a2]⟩
    ·rw [List.nodup_append]
     refine ⟨o.nd,o2.nd,fun y hy z hz hyz => ?_⟩
     have h1 := ((hP y).1 (o.all y hy)).2
     have h2 := hlt _ (o2.all z hz).2
     rw [hyz] at h1;omega
    ·intro hord
     rw [List.pairwise_append]
     refine ⟨o.lex hord,o2.lex hord,fun y hy z hz => ?_⟩
     obtain ⟨p1,p2⟩ := (hP y).1 (o.all y hy)
     obtain ⟨r1,r2⟩ := o2.all z hz
     refine ⟨v.toNat,fun i hi => ?_,?_⟩
     ·have hi2 : PlOk s.left.length (i : Int) := ⟨by omega,by omega⟩
      have e1 := p1.fits.one hs hK p1.low hi2 (hfst hord i hi)
      have e2 := r1.fits.one hs hK r1.low hi2 (hfst hord i hi)
      exact e1.trans e2.symm
     ·have := hlt _ r2
      have e3 : vAt y v = x := p2
      show vAt y v < vAt z v
      omega
    ·intro h
     obtain ⟨u1,u2,u3,u4,u5⟩ := o2.tt h
     refine ⟨u1.trans s3l,u2.trans s3t,(u3.trans s3m).trans hmk,(u4.trans s3e).trans (t4.trans oend),fun y hy => ?_⟩
     rcases List.mem_cons.1 hy.2 with q | q
     ·exact List.mem_append_left _ (t5 y ((hP y).2 ⟨hy.1,q⟩))
     ·exact List.mem_append_right _ (u5 y ⟨hy.1,q⟩)
    ·intro h
     rcases o2.ff h with ⟨u1,u2,u3⟩ | ⟨u1,u2,y,u3,u4⟩
     ·rw [s3n] at u2
      exact .inl ⟨u1,by omega,u3⟩
     ·refine .inr ⟨u1,u2,y,⟨u3.1,by simp [u3.2]⟩,fun q => ?_⟩
      rcases List.mem_append.1 q with q | q
      ·have h1 := ((hP y).1 (o.all y q)).2
       have h2 := hlt _ u3.2
       omega
      ·exact u4 q
   ·rw [if_neg cg]
    have cg' : g.1 = false := by simpa using cg
    have hb0 : 0 ≤ xs.length * b := Nat.zero_le _
    refine ⟨new,hsl,fun y hy => ?_,o.nd,o.lex,fun h => absurd h cg,fun h => ?_,hlo,hhi,by omega⟩
    ·obtain ⟨a1,a2⟩ := (hP y).1 (o.all y hy)
     exact ⟨a1,by simp [a2]⟩
    ·rcases o.ff h with ⟨u1,u2,u3⟩ | ⟨u1,u2,y,u3,u4⟩
     ·rw [onodes] at u2
      exact .inl ⟨u1,by omega,u3⟩
     ·obtain ⟨a1,a2⟩ := (hP y).1 u3
      exact .inr ⟨u1,u2,y,⟨a1,by simp [a2]⟩,u4⟩
  ·rw [if_neg c]
   have c' : (concS K (putS K v (bitV x) s)).1 = false := by simpa using c
   have hmk : (concS K (putS K v (bitV x) s)).2.marked = s.marked := nomark_eq (by rw [hR.ml]) c3 hn.no
   obtain ⟨s3,hs3,s3l,s3t,s3m,s3n,s3s,s3e⟩ : ∃ s3 : SS,backS s.trail.length (concS K (putS K v (bitV x) s)).2 = s3 ∧ s3.left = s.left ∧ s3.trail = s.trail ∧ s3.marked = (concS K (putS K v (bitV x) s)).2.marked ∧ s3.nodes = s.nodes ∧ s3.sols = s.sols ∧ s3.ending = s.ending := ⟨_,back_ref hR,rfl,rfl,rfl,onodes,osols,oend⟩
   rw [hs3]
   have hn3 : Node K s3 := hn.same s3l (s3m.trans hmk)
   obtain ⟨new2,o2⟩ := ih hn3 s3l hxs hsrt2
   have hsl2 := o2.sols
   have hlo2 := o2.lo
   have hbd2 := o2.bd
   have hhi2 := o2.hi
   rw [s3n] at hlo2 hbd2 hhi2
   rw [s3s] at hsl2
   have none1 : ∀ y,SolP K s.left y → vAt y v ≠ x := fun y hy q => c (c2 y hy.low (fit1 y hy q) hy.all).1
   refine ⟨new2,hsl2,fun y hy => ⟨(o2.all y hy).1,by simp [(o2.all y hy).2]⟩,o2.nd,o2.lex,fun h => ?_,fun h => ?_,hlo2,hhi2,by omega⟩
   ·obtain ⟨u1,u2,u3,u4,u5⟩ := o2.tt h
    refine ⟨u1.trans s3l,u2.trans s3t,(u3.trans s3m).trans hmk,u4.trans s3e,fun y hy => ?_⟩
    rcases List.mem_cons.1 hy.2 with q | q
    ·exact absurd q (none1 y hy.1)
    ·exact u5 y ⟨hy.1,q⟩
   ·rcases o2.ff h with ⟨u1,u2,u3⟩ | ⟨u1,u2,y,u3,u4⟩
    ·rw [s3n] at u2
     exact .inl ⟨u1,by omega,u3⟩
    ·exact .inr ⟨u1,u2,y,⟨u3.1,by simp [u3.2]⟩,u4⟩
end
section
theorem nar_spec : ∀ (l : List Nat) (i : Nat) (r : Int × Int),((narF i l r).1 < 0 → r.1 < 0 ∧ ∀ k,k < l.length → oneB (l.getD k 0) = true) ∧ (0 ≤ (narF i l r).1 → narF i l r = r ∨ ∃ k,k < l.length ∧ (narF i l r).1 = ((i + k : Nat) : Int) ∧ oneB (l.getD k 0) = false)
 | [],i,r => ⟨fun h => ⟨h,fun k hk => by simp at hk⟩,fun _ => .inl rfl⟩
 | D :: l,i,r => by
  rw [narF]
  obtain ⟨h1,h2⟩ := nar_spec l (i + 1) (if oneB D then r else if r.1 < 0 ∨ (cntD D : Int) < r.2 then ((i : Int),(cntD D : Int)) else r)
  by_cases c : oneB D = true
  ·rw [if_pos c] at h1 h2 ⊢
   refine ⟨fun h => ⟨(h1 h).1,fun k hk => ?_⟩,fun h => ?_⟩
   ·cases k with
    | zero => exact c
    | succ k => exact (h1 h).2 k (by simpa using hk)
   ·rcases h2 h with q | ⟨k,a1,a2,a3⟩
    ·exact .inl q
    ·exact .inr ⟨k + 1,by simpa using a1,by rw [a2];congr 1;omega,a3⟩
  ·rw [if_neg c] at h1 h2 ⊢
   have c' : oneB D = false := by simpa using c
   by_cases c2 : r.1 < 0 ∨ (cntD D : Int) < r.2
   ·rw [if_pos c2] at h1 h2 ⊢
    refine ⟨fun h => ?_,fun h => ?_⟩
    ·have := (h1 h).1
     simp only [] at this;omega
    ·rcases h2 h with q | ⟨k,a1,a2,a3⟩
     ·exact .inr ⟨0,by simp,by rw [q];rfl,c'⟩
     ·exact .inr ⟨k + 1,by simpa using a1,by rw [a2];congr 1;omega,a3⟩
   ·rw [if_neg c2] at h1 h2 ⊢
    refine ⟨fun h => ?_,fun h => ?_⟩
    ·have := (h1 h).1;omega
    ·rcases h2 h with q | ⟨k,a1,a2,a3⟩
     ·exact .inl q
     ·exact .inr ⟨k + 1,by simpa using a1,by rw [a2];congr 1;omega,a3⟩
theorem next_spec (K : SK) (s : SS) : (nextS K s < 0 → ∀ i,i < s.left.length → oneB (s.left.getD i 0) = true) ∧ (0 ≤ nextS K s → nextS K s < s.left.length ∧ oneB (s.left.getD (nextS K s).toNat 0) = false ∧ (K.order ≠ 1 → ∀ i,i < (nextS K s).toNat → oneB (s.left.getD i 0) = true)) := by
 unfold nextS
 by_cases c : K.order = 1
 ·rw [if_pos c]
  obtain ⟨h1,h2⟩ := nar_spec s.left 0 (-1,0)
  refine ⟨fun h => (h1 h).2,fun h => ?_⟩
  rcases h2 h with q | ⟨k,a1,a2,a3⟩
  ·rw [q] at h;simp at h
  ·rw [Nat.zero_add] at a2
   rw [a2]
   exact ⟨by omega,by simpa using a3,fun q => absurd c q⟩
 ·rw [if_neg c]
  cases e : s.left.findIdx? (fun D => !oneB D) with
  | none =>
   simp only []
   rw [List.findIdx?_eq_none_iff] at e
   refine ⟨fun _ i hi => ?_,fun h => by omega⟩
   have := e (s.left.getD i 0) (by rw [List.getD_eq_getElem?_getD,List.getElem?_eq_getElem hi];simp)
   simpa using this
  | some i =>
   simp only []
   obtain ⟨h1,h2,h3⟩ := List.findIdx?_eq_some_iff_getElem.1 e
   refine ⟨fun h => by omega,fun _ => ⟨by omega,?_,fun _ k hk => ?_⟩⟩
   ·have : (i : Int).toNat = i := by omega
    rw [this,List.getD_eq_getElem?_getD,List.getElem?_eq_getElem h1]
    simpa using h2
   ·have hk' : k < i := by omega
    have := h3 k hk'
    rw [List.getD_eq_getElem?_getD,List.getElem?_eq_getElem (by omega)]
    simpa using this
theorem openN_zero {s : SS} (h : ∀ i,i < s.left.length → oneB (s.left.getD i 0) = true) : openN s = 0 := by
 unfold openN
 rw [List.countP_eq_zero]
 intro D hD
 obtain ⟨i,hi,rfl⟩ := List.mem_iff_getElem.1 hD
 have := h i hi
 rw [List.getD_eq_getElem?_getD,List.getElem?_eq_getElem hi] at this
 simpa using this
theorem leaf_sol {K : SK} (hK : KOk K) {s : SS} (hn : Node K s) (h : ∀ i,i < s.left.length → oneB (s.left.getD i 0) = true) : ∀ x,SolP K s.left x ↔ x = s.vals := by
 have hs := hn.ok
 have hvl : s.vals.length = s.left.length := by simp [SS.vals]
 have hat : ∀ i,i < s.left.length → s.vals.getD i 0 = oneV (s.left.getD i 0) := fun i hi => by
  unfold SS.vals
  rw [List.getD_eq_getElem?_getD,List.getElem?_map,List.getD_eq_getElem?_getD,List.getElem?_eq_getElem hi];rfl
 intro x
 constructor
 ·intro hx
  apply List.ext_getElem (by rw [hx.fits.len,hvl])
  intro i h1 h2
  have hi : i < s.left.length := by rw [← hx.fits.len];exact h1
  have := hx.fits.one hs hK hx.low (v := (i : Int)) ⟨by omega,by omega⟩ (h i hi)
  have e1 : vAt x (i : Int) = x[i] := by unfold vAt;rw [List.getD_eq_getElem?_getD,Int.toNat_natCast,List.getElem?_eq_getElem h1];rfl
  have e2 := hat i hi
  rw [List.getD_eq_getElem?_getD,List.getElem?_eq_getElem h2] at e2
  rw [← e1,this]
  exact e2.symm
 ·rintro rfl
  have hb : ∀ i,i < s.left.length → -1000 ≤ oneV (s.left.getD i 0) ∧ hasD (s.left.getD i 0) (oneV (s.left.getD i 0)) = true := fun i hi => by
   obtain ⟨a,b,c⟩ := oneB_is (hs.lt hK i) (h i hi)
   refine ⟨a,?_⟩
   rw [one_has (hs.lt hK i) (h i hi) a];simp
  refine ⟨fun y hy => ?_,⟨hvl,fun i hi => by rw [hat i hi];exact (hb i hi).2⟩,fun c hc => ?_⟩
  ·obtain ⟨i,hi,rfl⟩ := List.mem_iff_getElem.1 hy
   have hi2 : i < s.left.length := by rw [← hvl];exact hi
   have e2 := hat i hi2
   rw [List.getD_eq_getElem?_getD,List.getElem?_eq_getElem hi] at e2
   have e3 : s.vals[i] = oneV (s.left.getD i 0) := e2
   rw [e3];exact (hb i hi2).1
  ·obtain ⟨i,hi,rfl⟩ := List.mem_iff_getElem.1 hc
   have hcc : K.cons[i]? = some K.cons[i] := List.getElem?_eq_getElem hi
   refine hn.fix.asked hK hs hcc (hn.un (by rw [hs.ml];exact hi)) (fun v hv => ?_)
   have hvp := raw_ok (hK.cons _ hc) v ((hK.cv i _ hcc v).1 hv)
   exact h v.toNat (by have := hs.ll;have := hvp.1;have := hvp.2;omega)
theorem enter_ok {K : SK} (hK : KOk K) : ∀ (n : Nat) {s : SS},Node K s → openN s < n → ∃ new,Out K s (SolP K s.left) (openN s * prodL s.left + 1) (enterF K n s) new
 | 0,s,_,h => by omega
 | n + 1,s,hn,hop => by
  have hs := hn.ok
  rw [enterF]
  by_cases c : K.budget ≤ s.nodes
  ·rw [if_pos c]
   refine ⟨[],by simp,(fun x hx => by cases hx),List.nodup_nil,fun _ => List.Pairwise.nil,(fun h => by cases h),fun _ => .inl ⟨rfl,?_,c⟩,Int.le_refl _,fun h => h,?_⟩
   ·have : 0 ≤ openN s * prodL s.left := Nat.zero_le _
    simp only [];omega
   ·simp only [];omega
  ·rw [if_neg c]
   simp only []
   obtain ⟨t,ht,tl,tt,tm,tn,ts,te⟩ : ∃ t : SS,({ s with nodes := s.nodes + 1 } : SS) = t ∧ t.left = s.left ∧ t.trail = s.trail ∧ t.marked = s.marked ∧ t.nodes = s.nodes + 1 ∧ t.sols = s.sols ∧ t.ending = s.ending := ⟨_,rfl,rfl,rfl,rfl,rfl,rfl,rfl⟩
   rw [ht]
   have hnt : Node K t := hn.same tl tm
   obtain ⟨n1,n2⟩ := next_spec K t
   generalize hv : nextS K t = v at *
   by_cases cv : v < 0
   ·rw [if_pos cv]
    have hall := n1 cv
    have hleaf := leaf_sol hK hnt hall
    rw [tl] at hleaf hall
    have h0 : openN s = 0 := openN_zero hall
    rw [h0,Nat.zero_mul]
    unfold tellS
    by_cases cs : t.sols.length = 100000
    ·rw [if_pos cs]
     refine ⟨[],by simp [ts],(fun x hx => by cases hx),List.nodup_nil,fun _ => List.Pairwise.nil,(fun h => by cases h),fun _ => .inr ⟨rfl,cs,t.vals,(hleaf _).2 rfl,by simp⟩,?_,fun h => ?_,?_⟩
     ·simp only [];omega
     ·simp only [];omega
     ·simp only [];omega
    ·rw [if_neg cs]
     refine ⟨[t.vals],by simp [ts],fun x hx => (hleaf x).2 (by simpa using hx),by simp,fun _ => List.pairwise_singleton _ _,fun _ => ⟨tl,tt,tm,te,fun x hx => by rw [(hleaf x).1 hx];simp⟩,(fun h => by cases h),?_,fun h => ?_,?_⟩
     ·simp only [];omega
     ·simp only [];omega
     ·simp only [];omega
   ·rw [if_neg cv]
    obtain ⟨v1,v2,v3⟩ := n2 (by omega)
    have hvp : PlOk K.vars.length v := ⟨by omega,by rw [← hnt.ok.ll];exact v1⟩
    have hl : v.toNat < s.left.length := by rw [← tl];omega
    obtain ⟨M,m1,m2⟩ := prod_set (f := cntD) hl
    have hcpos : ∀ i,i < s.left.length → 0 < cntD (s.left.getD i 0) := fun i hi => by
     rw [cntD_vals]
     have h0 := hs.ne i hi
     obtain ⟨p,hp⟩ := Nat.exists_testBit_of_ne_zero h0
     have := bit_lt hp (hs.lt hK i)
     exact List.length_pos_of_mem (valsD_mem.2 ⟨p,hp,rfl,by omega⟩)
    have hMpos : 0 < M := by
     have hp : 0 < prodL s.left := prod_pos hcpos
     have : prodL s.left = M * cntD (s.left.getD v.toNat 0) := m1
     rw [this] at hp
     exact Nat.pos_of_mul_pos_right hp
    rw [tl] at v2 v3
    obtain ⟨new,o⟩ := choose_ok hK hvp (e := enterF K n) (b := (openN s - 1) * M + 1) (N := openN s) (M := M) (l0 := s.left) (fun D hD => Nat.le_of_eq (m2 D hD)) (Nat.le_refl _) v2 v3
     (fun s2 hn2 ho2 hp2 => by
      obtain ⟨new,o⟩ := enter_ok hK n hn2 (by omega)
      have hb : openN s2 * prodL s2.left + 1 ≤ (openN s - 1) * M + 1 := Nat.succ_le_succ (Nat.mul_le_mul (by omega) hp2)
      refine ⟨new,o.sols,o.all,o.nd,o.lex,o.tt,fun h => ?_,o.lo,o.hi,by have := o.bd;omega⟩
      rcases o.ff h with ⟨u1,u2,u3⟩ | u
      ·exact .inl ⟨u1,by omega,u3⟩
      ·exact .inr u)
     (valsD (s.left.getD v.toNat 0)) hnt tl (fun x hx => hx) (valsD_sorted _)
    have hL : t.L v = s.left.getD v.toNat 0 := by unfold SS.L;rw [tl]
    rw [hL]
    have hcnt : (valsD (s.left.getD v.toNat 0)).length = cntD (s.left.getD v.toNat 0) := (cntD_vals _).symm
    rw [hcnt] at o
    have hpos : 0 < openN s := by
     unfold openN
     rw [List.countP_pos_iff]
     exact ⟨s.left.getD v.toNat 0,by rw [List.getD_eq_getElem?_getD,List.getElem?_eq_getElem hl];simp,by rw [v2];rfl⟩
    have hB : 1 + cntD (s.left.getD v.toNat 0) * ((openN s - 1) * M + 1) ≤ openN s * prodL s.left + 1 := by
     have hp : prodL s.left = M * cntD (s.left.getD v.toNat 0) := m1
     rw [hp]
     generalize cntD (s.left.getD v.toNat 0) = d
     obtain ⟨k,hk⟩ : ∃ k,openN s = k + 1 := ⟨openN s - 1,by omega⟩
     rw [hk,Nat.add_sub_cancel,Nat.mul_add,Nat.mul_one,Nat.add_mul,Nat.one_mul]
     have e1 : d * (k * M) = k * (M * d) := by rw [Nat.mul_comm d,Nat.mul_assoc]
     have e2 : d ≤ M * d := Nat.le_mul_of_pos_left d hMpos
     omega
    have hP : ∀ x,(SolP K s.left x ∧ vAt x v ∈ valsD (s.left.getD v.toNat 0)) ↔ SolP K s.left x := fun x => by
     refine ⟨fun h => h.1,fun h => ⟨h,?_⟩⟩
     rw [has_vals (hs.lt hK v.toNat)]
     have hb := h.fits.bd hs hK h.low v.toNat
     exact ⟨hb.1,hb.2,h.fits.has v.toNat hl⟩
    have olo := o.lo
    have obd := o.bd
    have ohi := o.hi
    have osl := o.sols
    rw [tn] at olo obd ohi
    rw [ts] at osl
    refine ⟨new,osl,fun x hx => (o.all x hx).1,o.nd,o.lex,fun h => ?_,fun h => ?_,by omega,fun h => ohi (by omega),by omega⟩
    ·obtain ⟨u1,u2,u3,u4,u5⟩ := o.tt h
     exact ⟨u1.trans tl,u2.trans tt,u3.trans tm,u4.trans te,fun x hx => u5 x ((hP x).2 hx)⟩
    ·rcases o.ff h with ⟨u1,u2,u3⟩ | ⟨u1,u2,y,u3,u4⟩
     ·rw [tn] at u2
      exact .inl ⟨u1,by omega,u3⟩
     ·exact .inr ⟨u1,u2,y,u3.1,u4⟩
end
section
theorem asg_fits : ∀ {vars : List QVar} {x : List Int},(∀ v ∈ vars,-1000 ≤ v.low ∧ v.low ≤ v.high ∧ v.high ≤ 1000) → (asgF vars x = true ↔ (∀ y ∈ x,-1000 ≤ y) ∧ Fits (vars.map fun v => rngD v.low v.high) x)
 | [],[],_ => ⟨fun _ => ⟨(fun y hy => by cases hy),rfl,fun i hi => by simp at hi⟩,fun _ => rfl⟩
 | [],y :: x,_ => ⟨fun h => by simp [asgF] at h,fun h => by have := h.2.len;simp at this⟩
 | v :: vs,[],_ => ⟨fun h => by simp [asgF] at h,fun h => by have := h.2.len;simp at this⟩
 | v :: vs,y :: x,h => by
  have ih := asg_fits (vars := vs) (x := x) (fun u hu => h u (by simp [hu]))
  have hv := h v (by simp)
  have key : -1000 ≤ y → (hasD (rngD v.low v.high) y = true ↔ v.low ≤ y ∧ y ≤ v.high) := fun h1 => by
   unfold hasD
   rw [rngD_bit _ _ hv.1]
   simp only [Bool.and_eq_true,decide_eq_true_eq]
   omega
  rw [asgF]
  unfold inP
  simp only [Bool.and_eq_true,decide_eq_true_eq]
  rw [ih]
  constructor
  ·rintro ⟨⟨h1,h2⟩,h3,h4⟩
   refine ⟨fun z hz => ?_,by simp [h4.len],fun i hi => ?_⟩
   ·rcases List.mem_cons.1 hz with q | q
    ·omega
    ·exact h3 z q
   ·cases i with
    | zero => exact (key (by omega)).2 ⟨h1,h2⟩
    | succ i => exact h4.has i (by simpa using hi)
  ·rintro ⟨h1,h2⟩
   have hy := h1 y (by simp)
   refine ⟨(key hy).1 (h2.has 0 (by simp)),fun z hz => h1 z (by simp [hz]),by simpa using h2.len,fun i hi => h2.has (i + 1) (by simpa using hi)⟩
theorem begin_left (K : SK) (i : Nat) (v : QVar) (h : K.vars[i]? = some v) : (beginS K).left.getD i 0 = rngD v.low v.high := by
 simp only [beginS]
 rw [List.getD_eq_getElem?_getD,List.getElem?_map,h];rfl
theorem begin_ok {K : SK} (hK : KOk K) : SOk K (beginS K) ∧ FixOk K (beginS K) := by
 refine ⟨⟨by simp [beginS],by simp [beginS],fun i hi => ?_,fun i v hv j hj => ?_⟩,fun i c hc hm => ?_⟩
 ·have hi2 : i < K.vars.length := by simpa [beginS] using hi
  have hv : K.vars[i]? = some K.vars[i] := List.getElem?_eq_getElem hi2
  rw [begin_left K i _ hv]
  have hb := hK.vars _ (List.mem_of_getElem? hv)
  intro e
  have : (rngD K.vars[i].low K.vars[i].high).testBit (K.vars[i].low + 1000).toNat = true := by
   rw [rngD_bit _ _ hb.1];simp only [Bool.and_eq_true,decide_eq_true_eq];omega
  rw [e] at this;simp at this
 ·rw [begin_left K i v hv,rngD_bit _ _ (hK.vars _ (List.mem_of_getElem? hv)).1] at hj
  simp only [Bool.and_eq_true,decide_eq_true_eq] at hj
  exact hj
 ·simp only [beginS] at hm
  rw [List.getD_eq_getElem?_getD,List.getElem?_map,hc] at hm
  cases hm
def prodV (vars : List QVar) : Nat := prodL (vars.map fun v => rngD v.low v.high)
theorem openN_le (s : SS) : openN s ≤ s.left.length := List.countP_le_length
structure SolveOk (K : SK) (r : SS) : Prop where
 suits : ∀ x ∈ r.sols,suitsP K.vars K.cons x = true
 nd : r.sols.Nodup
 lex : K.order ≠ 1 → r.sols.Pairwise LexLt
 ends : (r.ending = 0 ∧ ∀ x,suitsP K.vars K.cons x = true → x ∈ r.sols) ∨ (r.ending = 1 ∧ K.budget ≤ r.nodes ∧ r.nodes < K.vars.length * prodV K.vars + 1) ∨ (r.ending = 2 ∧ r.sols.length = 100000 ∧ ∃ x,suitsP K.vars K.cons x = true ∧ x ∉ r.sols)
 lo : 0 ≤ r.nodes
 hi : 0 ≤ K.budget → r.nodes ≤ K.budget
 hn : K.budget < 0 → r.nodes = 0
 bd : r.nodes ≤ K.vars.length * prodV K.vars + 1
theorem sol_suits {K : SK} (hK : KOk K) (x : List Int) : SolP K (beginS K).left x ↔ suitsP K.vars K.cons x = true := by
 unfold suitsP
 rw [Bool.and_eq_true,asg_fits hK.vars,List.all_eq_true]
 exact ⟨fun h => ⟨⟨h.low,h.fits⟩,h.all⟩,fun h => ⟨h.1.1,h.1.2,h.2⟩⟩
theorem solve_ok {K : SK} (hK : KOk K) : SolveOk K (solveS K) := by
 obtain ⟨hs,hF⟩ := begin_ok hK
 obtain ⟨c1,c2,c3,c4⟩ := concS_ok hK hs hF
 have hsol : ∀ x,suitsP K.vars K.cons x = true → (concS K (beginS K)).1 = true ∧ SolP K (concS K (beginS K)).2.left x := fun x hx => by
  have h := (sol_suits hK x).2 hx
  obtain ⟨a,b⟩ := c2 x h.low h.fits h.all
  exact ⟨a,h.low,b,h.all⟩
 have hsol2 : ∀ x,SolP K (concS K (beginS K)).2.left x → suitsP K.vars K.cons x = true := fun x h => by
  refine (sol_suits hK x).1 ⟨h.low,⟨by rw [h.fits.len,c1.ll],fun i hi => c1.sub i _ (h.fits.has i (by rw [c1.ll];exact hi))⟩,h.all⟩
 have n0 : (concS K (beginS K)).2.nodes = 0 := c1.nodes
 have s0 : (concS K (beginS K)).2.sols = [] := c1.sols
 have e0 : (concS K (beginS K)).2.ending = 0 := c1.ending
 unfold solveS
 simp only []
 by_cases c : (concS K (beginS K)).1 = true
 ·rw [if_pos c]
  have hn : Node K (concS K (beginS K)).2 := ⟨c1.ok hs,c4 c,c3⟩
  obtain ⟨new,o⟩ := enter_ok hK _ hn (Nat.lt_succ_self _)
  have hB : openN (concS K (beginS K)).2 * prodL (concS K (beginS K)).2.left + 1 ≤ K.vars.length * prodV K.vars + 1 := by
   refine Nat.succ_le_succ (Nat.mul_le_mul ?_ (c1.prod_le hK hs))
   exact Nat.le_trans (openN_le _) (by rw [(c1.ok hs).ll];exact Nat.le_refl _)
  have hneg : K.budget < 0 → (enterF K (openN (concS K (beginS K)).2 + 1) (concS K (beginS K)).2).2.nodes = 0 := fun h => by
   rw [enterF,if_pos (by omega)];exact n0
  generalize enterF K (openN (concS K (beginS K)).2 + 1) (concS K (beginS K)).2 = r at *
  have osl := o.sols
  have olo := o.lo
  have obd := o.bd
  have ohi := o.hi
  rw [s0,List.nil_append] at osl
  rw [n0] at olo obd ohi
  refine ⟨fun x hx => hsol2 x (o.all x (by rw [← osl];exact hx)),by rw [osl];exact o.nd,fun h => by rw [osl];exact o.lex h,?_,olo,ohi,fun h => ?_,by omega⟩
  ·cases hr : r.1 with
   | true =>
    obtain ⟨u1,u2,u3,u4,u5⟩ := o.tt hr
    exact .inl ⟨u4.trans e0,fun x hx => by rw [osl];exact u5 x (hsol x hx).2⟩
   | false =>
    rcases o.ff hr with ⟨u1,u2,u3⟩ | ⟨u1,u2,y,u3,u4⟩
    ·rw [n0] at u2
     exact .inr (.inl ⟨u1,u3,by omega⟩)
    ·exact .inr (.inr ⟨u1,u2,y,hsol2 y u3,by rw [osl];exact u4⟩)
  ·exact hneg h
 ·rw [if_neg c]
  refine ⟨by rw [s0];exact (fun x hx => by cases hx),by rw [s0];exact List.nodup_nil,fun _ => by rw [s0];exact List.Pairwise.nil,.inl ⟨e0,fun x hx => absurd (hsol x hx).1 c⟩,by omega,by omega,fun _ => n0,?_⟩
  rw [n0]
  have : (0 : Int) ≤ (K.vars.length : Int) * (prodV K.vars : Int) := Int.mul_nonneg (Int.natCast_nonneg _) (Int.natCast_nonneg _)
  omega
end
section
variable {w0 w w' w'' : World}
def dL (D : Nat) : List Value := (dArr D).toList
theorem dArr_dL (D : Nat) : dArr D = (dL D).toArray := by simp [dL]
theorem dL_len (D : Nat) : (dL D).length = 32 := by have := dArr_size D;simpa [dL] using this
theorem dL_one (D : Nat) : ∀ v ∈ dL D,v.oneCell' = true := fun v hv => (Array.all_eq_true_iff_forall_mem.1 (dArr_one D)) v (by simpa [dL] using hv)
def chCell (p : Int × Nat) : List Value := .int .i64 p.1 :: dL p.2
theorem ch_len (p : Int × Nat) : (chCell p).length = 33 := by simp [chCell,dL_len]
theorem ch_one (p : Int × Nat) : ∀ v ∈ chCell p,v.oneCell' = true := fun v hv => by
 rcases List.mem_cons.1 hv with e | e
 ·subst e;rfl
 ·exact dL_one _ v e
structure SL where
 b : Nat
 gl : Nat
 gv : Nat
 gf : Nat
 gm : Nat
 gc : Nat
 gu : Nat
 bc : Nat
 B : Nat
 vV : Value
 vC : Value
 cs : List CRow
 cv : List Value
 us : List Value
def SL.own (X : SL) : List Nat := [X.b,X.gl,X.gv,X.gf,X.gm]
def IRow (X : SL) (w : World) (v : Value) (l : List Int) : Prop := (l = [] ∧ ∃ a c,v = .slice a 0 c) ∨ ∃ (g cap : Nat) (cells : Array Value),v = .slice (some ⟨g,0,none⟩) l.length cap ∧ w.heap[g]? = some (.cells cells 3 (0,0)) ∧ (∀ (j : Nat) (x : Int),l[j]? = some x → cells[j]? = some (Value.int .i64 x)) ∧ g ∉ X.own ∧ l.length ≤ cap
def LeftIn (w : World) (X : SL) (n : Nat) (left : List Nat) : Prop := ∃ cells : Array Value,w.heap[X.gl]? = some (.cells cells 161 (0,0)) ∧ cells.size = n * 32 ∧ left.length = n ∧ ∀ i D,left[i]? = some D → ∀ j v,(dL D)[j]? = some v → cells[i * 32 + j]? = some v
def recCells (X : SL) (K : SK) (s : SS) (vT vS : Value) : Array Value := #[.pointer (some ⟨X.bc,1,none⟩),.int .i64 K.order,.bool K.weak,.int .i64 K.budget,.slice (some ⟨X.gl,0,none⟩) K.vars.length K.vars.length,.slice (some ⟨X.gv,0,none⟩) K.vars.length K.vars.length,.slice (some ⟨X.gf,0,none⟩) K.vars.length K.vars.length,vT,.slice (some ⟨X.gc,0,none⟩) K.cons.length K.cons.length,.slice (some ⟨X.gu,0,none⟩) K.vars.length K.vars.length,.slice (some ⟨X.gm,0,none⟩) K.cons.length K.cons.length,vS,.int .i64 s.ending,.int .i64 s.nodes]
structure SAt (w0 w : World) (X : SL) (K : SK) (s : SS) (vT vS : Value) : Prop where
 g0 : w0.grownBy w none
 low : ∀ k ∈ X.own,w0.heap.size ≤ k
 nd : X.own.Nodup
 rcd : w.heap[X.b]? = some (.cells (recCells X K s vT vS) 106 (0,0))
 left : LeftIn w X K.vars.length s.left
 vals : w.heap[X.gv]? = some (.cells (s.left.map fun D => Value.int .i64 (oneV D)).toArray 3 (0,0))
 fixd : w.heap[X.gf]? = some (.cells (s.left.map fun D => Value.bool (oneB D)).toArray 4 (0,0))
 mark : w.heap[X.gm]? = some (.cells (s.marked.map Value.bool).toArray 4 (0,0))
 trail : w.ownsRow w0.heap.size 250 33 vT s.trail.length (s.trail.flatMap chCell)
 tap : ∀ g,vT.ownBlock = some g → g ∉ X.own
 sols : ∃ rows : List Value,w.ownsRow w0.heap.size 33 1 vS s.sols.length rows ∧ ∀ i v,rows[i]? = some v → IRow X w v (s.sols.getD i [])
 sap : ∀ g,vS.ownBlock = some g → g ∉ X.own ∧ g ≠ X.gc ∧ g ≠ X.gu
 cvb : w.heap[X.gc]? = some (.cells X.cv.toArray 33 (0,0))
 cvl : X.cv.length = K.cons.length
 cvr : ∀ i v,X.cv[i]? = some v → IRow X w v (K.cvs.getD i [])
 usb : w.heap[X.gu]? = some (.cells X.us.toArray 33 (0,0))
 usl : X.us.length = K.vars.length
 usr : ∀ i v,X.us[i]? = some v → IRow X w v (K.users.getD i [])
 cap : X.gc ∉ X.own ∧ X.gu ∉ X.own
 set0 : SetIn w0 X.bc X.B X.vV X.vC K.vars X.cs
 csK : X.cs.map (·.c) = K.cons
 db0 : DbTab w0
structure FrS (X : SL) (w w' : World) : Prop where
 size : w.heap.size ≤ w'.heap.size
 block : ∀ k o,w.heap[k]? = some o → k ∉ X.own → (∀ c f,o ≠ .cells c 250 f) → (∀ c f,o ≠ .cells c 33 f) → w'.heap[k]? = some o
theorem FrS.refl (X : SL) (w : World) : FrS X w w := ⟨Nat.le_refl _,fun _ _ h _ _ _ => h⟩
theorem FrS.trans {X : SL} (h : FrS X w w') (k : FrS X w' w'') : FrS X w w'' := ⟨Nat.le_trans h.size k.size,fun i o q1 q2 q3 q4 => k.block i o (h.block i o q1 q2 q3 q4) q2 q3 q4⟩
theorem some_lt {w : World} {k : Nat} {o : Obj} (h : w.heap[k]? = some o) : k < w.heap.size := (Array.getElem?_eq_some_iff.1 h).1
theorem FrS.grown {X : SL} (hg : w.grownBy w' none) : FrS X w w' := ⟨hg.size,fun k o h _ _ _ => (hg.block k (some_lt h) (by simp)).trans h⟩
theorem FrS.turn {X : SL} {g : Nat} (hg : w.grownBy w' (some g)) (h : g ∈ X.own) : FrS X w w' := ⟨hg.size,fun k o q1 q2 _ _ => (hg.block k (some_lt q1) (fun e => by cases e;exact q2 h)).trans q1⟩
theorem FrS.fresh {X : SL} {g : Nat} (h : FrS X w w') (hg : w'.grownBy w'' (some g)) (hn : w.heap.size ≤ g) : FrS X w w'' := ⟨Nat.le_trans h.size hg.size,fun k o q1 q2 q3 q4 => (hg.block k (Nat.lt_of_lt_of_le (some_lt q1) h.size) (fun e => by cases e;have := some_lt q1;omega)).trans (h.block k o q1 q2 q3 q4)⟩
theorem IRow.kept {X : SL} {v : Value} {l : List Int} (h : IRow X w v l) (hk : ∀ k cells,w.heap[k]? = some (.cells cells 3 (0,0)) → k ∉ X.own → w'.heap[k]? = some (.cells cells 3 (0,0))) : IRow X w' v l := by
 rcases h with h | ⟨g,cap,cells,h1,h2,h3,h4,h5⟩
 ·exact .inl h
 ·exact .inr ⟨g,cap,cells,h1,hk g cells h2 h4,h3,h4,h5⟩
theorem flat_in (l : List Int) : l.flatMap inCell = l.map (Value.int .i64) := by
 induction l with
 | nil => rfl
 | cons x l ih => rw [List.flatMap_cons,ih];rfl
theorem IRow.vals {X : SL} {v : Value} {l : List Int} (h : IRow X w v l) : ValsIn w v l := by
 rcases h with h | ⟨g,cap,cells,h1,h2,h3,h4,h5⟩
 ·exact .inl h
 ·refine .inr ⟨g,cap,h1,fun j u hu => ?_,some_lt h2⟩
  rw [flat_in] at hu
  obtain ⟨x,hx,rfl⟩ : ∃ x,l[j]? = some x ∧ Value.int .i64 x = u := by
   rw [List.getElem?_map] at hu
   cases e : l[j]? with
   | none => rw [e] at hu;cases hu
   | some x => rw [e] at hu;exact ⟨x,rfl,by simpa using hu⟩
  exact cell_of h2 j _ (h3 j x hx)
def Kp (Z : List Nat) (w w' : World) : Prop := ∀ k o,w.heap[k]? = some o → k ∉ Z → w'.heap[k]? = some o
theorem Kp.refl (Z : List Nat) (w : World) : Kp Z w w := fun _ _ h _ => h
theorem Kp.trans {Z : List Nat} (h : Kp Z w w') (k : Kp Z w' w'') : Kp Z w w'' := fun i o h1 h2 => k i o (h i o h1 h2) h2
theorem Kp.grown {Z : List Nat} (h : Kp Z w w') (hg : w'.grownBy w'' none) : Kp Z w w'' := fun k o h1 h2 => (hg.block k (some_lt (h k o h1 h2)) (by simp)).trans (h k o h1 h2)
theorem Kp.turn {Z : List Nat} {g : Nat} (h : Kp Z w w') (hg : w'.grownBy w'' (some g)) (hm : g ∈ Z) : Kp Z w w'' := fun k o h1 h2 => (hg.block k (some_lt (h k o h1 h2)) (fun e => by cases e;exact h2 hm)).trans (h k o h1 h2)
theorem Kp.drew {Z : List Nat} (h : Kp Z w w') : Kp Z w w'.drew := h.grown (grown_drew' _ _)
theorem Kp.alloc {Z : List Nat} (h : Kp Z w w') (o : Obj) : Kp Z w (w'.alloc o) := h.grown (World.grownBy_alloc _ _ _)
theorem Kp.set {Z : List Nat} {g i : Nat} {u : Value} (h : Kp Z w w') (hm : g ∈ Z) : Kp Z w (w'.setCell ⟨g,i,none⟩ u) := h.turn (grown_set _ _ _ _) hm
theorem Kp.fresh {Z : List Nat} {g : Nat} (h : Kp Z w w') (hg : w'.grownBy w'' (some g)) (hn : w.heap.size ≤ g) : Kp Z w w'' := fun k o h1 h2 => (hg.block k (some_lt (h k o h1 h2)) (fun e => by cases e;have := some_lt h1;omega)).trans (h k o h1 h2)
theorem Kp.mono {Z Z' : List Nat} (h : Kp Z w w') (hz : ∀ k,k ∈ Z → k ∈ Z') : Kp Z' w w' := fun k o h1 h2 => h k o h1 (fun q => h2 (hz k q))
theorem Kp.cell {Z : List Nat} {b i : Nat} {u : Value} (h : Kp Z w w') (hc : w.cell? ⟨b,i,none⟩ = some u) (hn : b ∉ Z) : w'.cell? ⟨b,i,none⟩ = some u := by
 have hb := World.block_lt_of_cell? w _ hc
 have hk := h b _ (Array.getElem?_eq_getElem hb) hn
 rw [← hc]
 exact World.cell?_of_block (by rw [hk];exact (Array.getElem?_eq_getElem hb).symm)
theorem Kp.range {Z : List Nat} {b o : Nat} {cs : List Value} (h : Kp Z w w') (hc : w.rangeAt b o cs) (hn : b ∉ Z) : w'.rangeAt b o cs := fun j u hu => h.cell (hc j u hu) hn
theorem Kp.there {Z : List Nat} {b o n : Nat} (h : Kp Z w w') (hc : w.there b o n) (hn : b ∉ Z) : w'.there b o n := fun j hj => by
 obtain ⟨c1,c2⟩ := hc j hj
 obtain ⟨u,hu⟩ := Option.isSome_iff_exists.1 c1
 have hb := World.block_lt_of_cell? w _ hu
 have hk := h b _ (Array.getElem?_eq_getElem hb) hn
 refine ⟨by rw [h.cell hu hn];rfl,?_⟩
 rw [← c2]
 exact World.frozen?_of_block (by rw [hk];exact (Array.getElem?_eq_getElem hb).symm)
theorem SAt.turn {X : SL} {K : SK} {s s' : SS} {vT vS : Value} (h : SAt w0 w X K s vT vS) (hg : w0.grownBy w' none) (hk : ∀ k o,w.heap[k]? = some o → k ∉ X.own → w'.heap[k]? = some o) (hr : w'.heap[X.b]? = some (.cells (recCells X K s' vT vS) 106 (0,0))) (hl : LeftIn w' X K.vars.length s'.left) (hv : w'.heap[X.gv]? = some (.cells (s'.left.map fun D => Value.int .i64 (oneV D)).toArray 3 (0,0))) (hf : w'.heap[X.gf]? = some (.cells (s'.left.map fun D => Value.bool (oneB D)).toArray 4 (0,0))) (hm : w'.heap[X.gm]? = some (.cells (s'.marked.map Value.bool).toArray 4 (0,0))) (ht : s'.trail = s.trail) (hs : s'.sols = s.sols) : SAt w0 w' X K s' vT vS := by
 have ki : ∀ k cells,w.heap[k]? = some (.cells cells 3 (0,0)) → k ∉ X.own → w'.heap[k]? = some (.cells cells 3 (0,0)) := fun k c q1 q2 => hk k _ q1 q2
 have keep : ∀ {B e z n : Nat} {v : Value} {xs : List Value},w.ownsRow B e z v n xs → (∀ g,v.ownBlock = some g → g ∉ X.own) → w'.ownsRow B e z v n xs := fun {B e z n v xs} ho hn => by
  refine ⟨ho.1,?_⟩
  rcases ho.2 with q | ⟨g,cap,cur,q1,q2,q3,q4⟩
  ·exact .inl q
  ·exact .inr ⟨g,cap,cur,q1,q2,hk g _ q3 (hn g (by rw [q1];rfl)),q4⟩
 refine ⟨hg,h.low,h.nd,hr,hl,hv,hf,hm,by rw [ht];exact keep h.trail h.tap,h.tap,?_,h.sap,hk _ _ h.cvb h.cap.1,h.cvl,fun i v q => (h.cvr i v q).kept ki,hk _ _ h.usb h.cap.2,h.usl,fun i v q => (h.usr i v q).kept ki,h.cap,h.set0,h.csK,h.db0⟩
 obtain ⟨rows,r1,r2⟩ := h.sols
 rw [hs]
 exact ⟨rows,keep r1 (fun g q => (h.sap g q).1),fun i v q => (r2 i v q).kept ki⟩
theorem LeftIn.kept {X : SL} {n : Nat} {left : List Nat} (h : LeftIn w X n left) (hk : ∀ o,w.heap[X.gl]? = some o → w'.heap[X.gl]? = some o) : LeftIn w' X n left := by
 obtain ⟨cells,h1,h2⟩ := h
 exact ⟨cells,hk _ h1,h2⟩
theorem SAt.grown {X : SL} {K : SK} {s : SS} {vT vS : Value} (h : SAt w0 w X K s vT vS) (hg : w.grownBy w' none) : SAt w0 w' X K s vT vS := by
 have hk : ∀ k o,w.heap[k]? = some o → w'.heap[k]? = some o := fun k o q => (hg.block k (some_lt q) (by simp)).trans q
 exact h.turn (h.g0.trans hg) (fun k o q _ => hk k o q) (hk _ _ h.rcd) (h.left.kept (hk _)) (hk _ _ h.vals) (hk _ _ h.fixd) (hk _ _ h.mark) rfl rfl
theorem SAt.g0_turn {X : SL} {K : SK} {s : SS} {vT vS : Value} (h : SAt w0 w X K s vT vS) {g : Nat} (hg : w.grownBy w' (some g)) (hm : g ∈ X.own) : w0.grownBy w' none := grown_new h.g0 (h.low g hm) hg
theorem SAt.set {X : SL} {K : SK} {s : SS} {vT vS : Value} (h : SAt w0 w X K s vT vS) : SetIn w X.bc X.B X.vV X.vC K.vars X.cs := h.set0.grown h.g0
theorem SAt.db {X : SL} {K : SK} {s : SS} {vT vS : Value} (h : SAt w0 w X K s vT vS) : DbTab w := db_grown h.db0 h.g0
theorem SAt.ll {X : SL} {K : SK} {s : SS} {vT vS : Value} (h : SAt w0 w X K s vT vS) : s.left.length = K.vars.length := by
 obtain ⟨_,_,_,h1,_⟩ := h.left;exact h1
theorem SAt.f0 {X : SL} {K : SK} {s : SS} {vT vS : Value} (h : SAt w0 w X K s vT vS) : w.cell? ⟨X.b,0,none⟩ = some (.pointer (some ⟨X.bc,1,none⟩)) := cell_of h.rcd 0 _ rfl
theorem SAt.f1 {X : SL} {K : SK} {s : SS} {vT vS : Value} (h : SAt w0 w X K s vT vS) : w.cell? ⟨X.b,1,none⟩ = some (.int .i64 K.order) := cell_of h.rcd 1 _ rfl
theorem SAt.f2 {X : SL} {K : SK} {s : SS} {vT vS : Value} (h : SAt w0 w X K s vT vS) : w.cell? ⟨X.b,2,none⟩ = some (.bool K.weak) := cell_of h.rcd 2 _ rfl
theorem SAt.f3 {X : SL} {K : SK} {s : SS} {vT vS : Value} (h : SAt w0 w X K s vT vS) : w.cell? ⟨X.b,3,none⟩ = some (.int .i64 K.budget) := cell_of h.rcd 3 _ rfl
theorem SAt.f4 {X : SL} {K : SK} {s : SS} {vT vS : Value} (h : SAt w0 w X K s vT vS) : w.cell? ⟨X.b,4,none⟩ = some (.slice (some ⟨X.gl,0,none⟩) K.vars.length K.vars.length) := cell_of h.rcd 4 _ rfl
theorem SAt.f5 {X : SL} {K : SK} {s : SS} {vT vS : Value} (h : SAt w0 w X K s vT vS) : w.cell? ⟨X.b,5,none⟩ = some (.slice (some ⟨X.gv,0,none⟩) K.vars.length K.vars.length) := cell_of h.rcd 5 _ rfl
theorem SAt.f6 {X : SL} {K : SK} {s : SS} {vT vS : Value} (h : SAt w0 w X K s vT vS) : w.cell? ⟨X.b,6,none⟩ = some (.slice (some ⟨X.gf,0,none⟩) K.vars.length K.vars.length) := cell_of h.rcd 6 _ rfl
theorem SAt.f7 {X : SL} {K : SK} {s : SS} {vT vS : Value} (h : SAt w0 w X K s vT vS) : w.cell? ⟨X.b,7,none⟩ = some (vT) := cell_of h.rcd 7 _ rfl
theorem SAt.f8 {X : SL} {K : SK} {s : SS} {vT vS : Value} (h : SAt w0 w X K s vT vS) : w.cell? ⟨X.b,8,none⟩ = some (.slice (some ⟨X.gc,0,none⟩) K.cons.length K.cons.length) := cell_of h.rcd 8 _ rfl
theorem SAt.f9 {X : SL} {K : SK} {s : SS} {vT vS : Value} (h : SAt w0 w X K s vT vS) : w.cell? ⟨X.b,9,none⟩ = some (.slice (some ⟨X.gu,0,none⟩) K.vars.length K.vars.length) := cell_of h.rcd 9 _ rfl
theorem SAt.f10 {X : SL} {K : SK} {s : SS} {vT vS : Value} (h : SAt w0 w X K s vT vS) : w.cell? ⟨X.b,10,none⟩ = some (.slice (some ⟨X.gm,0,none⟩) K.cons.length K.cons.length) := cell_of h.rcd 10 _ rfl
theorem SAt.f11 {X : SL} {K : SK} {s : SS} {vT vS : Value} (h : SAt w0 w X K s vT vS) : w.cell? ⟨X.b,11,none⟩ = some (vS) := cell_of h.rcd 11 _ rfl
theorem SAt.f12 {X : SL} {K : SK} {s : SS} {vT vS : Value} (h : SAt w0 w X K s vT vS) : w.cell? ⟨X.b,12,none⟩ = some (.int .i64 s.ending) := cell_of h.rcd 12 _ rfl
theorem SAt.f13 {X : SL} {K : SK} {s : SS} {vT vS : Value} (h : SAt w0 w X K s vT vS) : w.cell? ⟨X.b,13,none⟩ = some (.int .i64 s.nodes) := cell_of h.rcd 13 _ rfl
theorem SAt.fz {X : SL} {K : SK} {s : SS} {vT vS : Value} (h : SAt w0 w X K s vT vS) (i : Nat) : w.frozen? ⟨X.b,i,none⟩ = false := frozen_of h.rcd i
theorem SAt.lt {X : SL} {K : SK} {s : SS} {vT vS : Value} (h : SAt w0 w X K s vT vS) : X.b < w.heap.size ∧ X.gl < w.heap.size ∧ X.gv < w.heap.size ∧ X.gf < w.heap.size ∧ X.gm < w.heap.size := by
 obtain ⟨c,hc,_⟩ := h.left
 exact ⟨some_lt h.rcd,some_lt hc,some_lt h.vals,some_lt h.fixd,some_lt h.mark⟩
theorem SAt.new_own {X : SL} {K : SK} {s : SS} {vT vS : Value} (h : SAt w0 w X K s vT vS) {k : Nat} (hk : w.heap.size ≤ k) : k ∉ X.own := fun q => by
 obtain ⟨h1,h2,h3,h4,h5⟩ := h.lt
 simp only [SL.own,List.mem_cons,List.not_mem_nil,or_false] at q
 rcases q with e | e | e | e | e <;> omega
theorem SAt.leftAt {X : SL} {K : SK} {s : SS} {vT vS : Value} (h : SAt w0 w X K s vT vS) {v : Int} (hv : PlOk K.vars.length v) : w.rangeAt X.gl (v.toNat * 32) (dL (s.L v)) ∧ w.there X.gl (v.toNat * 32) 32 := by
 have hl := h.ll
 have hi : v.toNat < s.left.length := by have := hv.1;have := hv.2;omega
 obtain ⟨cells,h1,h2,h3,h4⟩ := h.left
 have hD : s.left[v.toNat]? = some (s.L v) := by unfold SS.L;rw [List.getD_eq_getElem?_getD,List.getElem?_eq_getElem hi];rfl
 refine ⟨fun j u hu => cell_of h1 _ _ (h4 _ _ hD j u hu),fun j hj => ⟨?_,frozen_of h1 _⟩⟩
 have : v.toNat * 32 + j < cells.size := by rw [h2];omega
 rw [cell_of h1 _ _ (Array.getElem?_eq_getElem this)];rfl
theorem SAt.valAt {X : SL} {K : SK} {s : SS} {vT vS : Value} (h : SAt w0 w X K s vT vS) {v : Int} (hv : PlOk K.vars.length v) : w.cell? ⟨X.gv,v.toNat,none⟩ = some (.int .i64 (s.val v)) ∧ w.cell? ⟨X.gf,v.toNat,none⟩ = some (.bool (s.fixed v)) ∧ w.frozen? ⟨X.gv,v.toNat,none⟩ = false ∧ w.frozen? ⟨X.gf,v.toNat,none⟩ = false := by
 have hl := h.ll
 have hi : v.toNat < s.left.length := by have := hv.1;have := hv.2;omega
 have hD : s.left[v.toNat]? = some (s.L v) := by unfold SS.L;rw [List.getD_eq_getElem?_getD,List.getElem?_eq_getElem hi];rfl
 refine ⟨cell_of h.vals _ _ ?_,cell_of h.fixd _ _ ?_,frozen_of h.vals _,frozen_of h.fixd _⟩
 ·simp [hD,SS.val]
 ·simp [hD,SS.fixed]
theorem heap_setCells {b : Nat} {t : TypeId} : ∀ (vs : List Value) (o : Nat) (w : World) (cells : Array Value),w.heap[b]? = some (.cells cells t (0,0)) → ∃ cells',(w.setCells b o vs).heap[b]? = some (.cells cells' t (0,0)) ∧ cells'.size = cells.size ∧ (∀ j,j < vs.length → o + j < cells.size → cells'[o + j]? = vs[j]?) ∧ (∀ k,k < o ∨ o + vs.length ≤ k → cells'[k]? = cells[k]?)
 | [],o,w,cells,h => ⟨cells,h,rfl,fun j hj => by simp at hj,fun _ _ => rfl⟩
 | v :: vs,o,w,cells,h => by
  obtain ⟨c,h1,h2,h3,h4⟩ := heap_setCells vs (o + 1) (w.setCell ⟨b,o,none⟩ v) (cells.setIfInBounds o v) (heap_setCell_same w b o cells t v h)
  refine ⟨c,h1,by rw [h2];simp,fun j hj hs => ?_,fun k hk => ?_⟩
  ·cases j with
   | zero =>
    rw [h4 (o + 0) (.inl (by omega))]
    simp at hs ⊢
    simp [hs]
   | succ j =>
    have := h3 j (by simpa using hj) (by simp;omega)
    rw [show o + (j + 1) = o + 1 + j by omega,this];simp
  ·have hk2 : k ≠ o := by simp at hk;omega
   rw [h4 k (by simp at hk;omega),Array.getElem?_setIfInBounds,if_neg (fun e => hk2 e.symm)]
theorem grown_setCells (w : World) (b o : Nat) (vs : List Value) : w.grownBy (w.setCells b o vs) (some b) := by
 induction vs generalizing w o with
 | nil => exact grown_refl w _
 | cons v vs ih => exact (grown_set w b o v).trans (ih _ _)
theorem LeftIn.store {X : SL} {n : Nat} {left : List Nat} (h : LeftIn w X n left) {i : Nat} (hi : i < n) (D : Nat) : LeftIn (w.setCells X.gl (i * 32) (dL D)) X n (left.set i D) := by
 obtain ⟨cells,h1,h2,h3,h4⟩ := h
 obtain ⟨c,c1,c2,c3,c4⟩ := heap_setCells (dL D) (i * 32) w cells h1
 rw [dL_len] at c3 c4
 refine ⟨c,c1,c2.trans h2,by simpa using h3,fun k E hk j v hj => ?_⟩
 have hj2 : j < 32 := by have := (List.getElem?_eq_some_iff.1 hj).1;rw [dL_len] at this;exact this
 rw [List.getElem?_set] at hk
 split at hk
 ·rename_i e
  subst e
  split at hk
  ·have : D = E := by simpa using hk
   subst this
   rw [c3 j hj2 (by rw [h2];omega)];exact hj
  ·cases hk
 ·rename_i e
  rw [c4 (k * 32 + j) (by omega)]
  exact h4 k E hk j v hj
theorem arS {α : Type} (l : List α) (i : Nat) (x : α) : l.toArray.setIfInBounds i x = (l.set i x).toArray := by simp
theorem arZ {α : Type} (a : α) (l : List α) (b : α) : (a :: l).set 0 b = b :: l := rfl
theorem arN {α : Type} (a : α) (l : List α) (n : Nat) (b : α) : (a :: l).set (n + 1) b = a :: l.set n b := rfl
end
section
set_option maxHeartbeats 4000000
set_option maxRecDepth 100000
variable {w0 w w' w'' : World} {X : SL} {K : SK} {s : SS} {vT vS : Value}
theorem dInfo (D : Nat) : (Tryz.prog.info? 161).map (·.size) = some (dL D).length := by rw [dL_len];exact infoDm
theorem dUnder : Tryz.prog.underlying 161 = some (.array 32 159) := by kernel_rfl
theorem nd_ne (h : SAt w0 w X K s vT vS) : X.b ≠ X.gl ∧ X.b ≠ X.gv ∧ X.b ≠ X.gf ∧ X.b ≠ X.gm ∧ X.gl ≠ X.gv ∧ X.gl ≠ X.gf ∧ X.gl ≠ X.gm ∧ X.gv ≠ X.gf ∧ X.gv ≠ X.gm ∧ X.gf ≠ X.gm := by
 have := h.nd
 simp only [SL.own,List.nodup_cons,List.mem_cons,List.not_mem_nil,or_false,not_or,List.nodup_nil,and_true,not_false_eq_true] at this
 obtain ⟨⟨a1,a2,a3,a4⟩,⟨a5,a6,a7⟩,⟨a8,a9⟩,a10⟩ := this
 exact ⟨a1,a2,a3,a4,a5,a6,a7,a8,a9,a10⟩
theorem own_b : X.b ∈ X.own := by simp [SL.own]
theorem own_gl : X.gl ∈ X.own := by simp [SL.own]
theorem own_gv : X.gv ∈ X.own := by simp [SL.own]
theorem own_gf : X.gf ∈ X.own := by simp [SL.own]
theorem own_gm : X.gm ∈ X.own := by simp [SL.own]
theorem SAt.setv (h : SAt w0 w X K s vT vS) {i : Nat} (hi : i < K.vars.length) {D : Nat} {w1 : World} (hg : (w.setCells X.gl (i * 32) (dL D)).grownBy w1 none) : SAt w0 ((w1.setCell ⟨X.gv,i,none⟩ (.int .i64 (oneV D))).setCell ⟨X.gf,i,none⟩ (.bool (oneB D))) X K { s with left := s.left.set i D } vT vS ∧ FrS X w ((w1.setCell ⟨X.gv,i,none⟩ (.int .i64 (oneV D))).setCell ⟨X.gf,i,none⟩ (.bool (oneB D))) := by
 obtain ⟨n1,n2,n3,n4,n5,n6,n7,n8,n9,n10⟩ := nd_ne h
 have gs := grown_setCells w X.gl (i * 32) (dL D)
 have ga := grown_set w1 X.gv i (.int .i64 (oneV D))
 have gb := grown_set (w1.setCell ⟨X.gv,i,none⟩ (.int .i64 (oneV D))) X.gf i (.bool (oneB D))
 have step : ∀ k o,w.heap[k]? = some o → k ≠ X.gl → w1.heap[k]? = some o := fun k o hk hne => by
  have q := (gs.block k (some_lt hk) (fun e => hne (by cases e;rfl))).trans hk
  exact (hg.block k (some_lt q) (by simp)).trans q
 have last : ∀ k o,w1.heap[k]? = some o → k ≠ X.gv → k ≠ X.gf → ((w1.setCell ⟨X.gv,i,none⟩ (.int .i64 (oneV D))).setCell ⟨X.gf,i,none⟩ (.bool (oneB D))).heap[k]? = some o := fun k o hk h1 h2 => by
  rw [gb.block k (by rw [show (w1.setCell ⟨X.gv,i,none⟩ (.int .i64 (oneV D))).heap.size = w1.heap.size by simp];exact some_lt hk) (fun e => h2 (by cases e;rfl)),ga.block k (some_lt hk) (fun e => h1 (by cases e;rfl))];exact hk
 have hfr : FrS X w ((w1.setCell ⟨X.gv,i,none⟩ (.int .i64 (oneV D))).setCell ⟨X.gf,i,none⟩ (.bool (oneB D))) := ((FrS.turn gs own_gl).trans (FrS.grown hg)).trans ((FrS.turn ga own_gv).trans (FrS.turn gb own_gf))
 refine ⟨h.turn ?_ (fun k o hk hn => ?_) (last _ _ (step _ _ h.rcd n1) n2 n3) ?_ ?_ ?_ (last _ _ (step _ _ h.mark n7.symm) n9.symm n10.symm) rfl rfl,hfr⟩
 ·exact grown_new (grown_new ((grown_new h.g0 (h.low _ own_gl) gs).trans hg) (h.low _ own_gv) ga) (h.low _ own_gf) gb
 ·simp only [SL.own,List.mem_cons,List.not_mem_nil,or_false,not_or] at hn
  exact last _ _ (step _ _ hk hn.2.1) hn.2.2.1 hn.2.2.2.1
 ·refine (h.left.store hi D).kept fun o ho => ?_
  exact last _ _ ((hg.block _ (some_lt ho) (by simp)).trans ho) n5 n6
 ·have q := step _ _ h.vals n5.symm
  have q2 := set_at q i (.int .i64 (oneV D)) (cs' := ((s.left.set i D).map fun D => Value.int .i64 (oneV D)).toArray) (by simp [List.map_set])
  exact (gb.block _ (some_lt q2) (fun e => n8 (Option.some.inj e))).trans q2
 ·have q := step _ _ h.fixd n6.symm
  have q1 := (ga.block _ (some_lt q) (fun e => n8 (Option.some.inj e).symm)).trans q
  exact set_at q1 i (.bool (oneB D)) (by simp [List.map_set])
theorem sc_set (h : SAt w0 w X K s vT vS) (hn : K.vars.length ≤ 8) {v : Int} (hv : PlOk K.vars.length v) {D : Nat} (hD : D < 2 ^ 2001) : Calls Tryz.prog 82 #[.pointer (some ⟨X.b,0,none⟩),.int .i64 v,.agg (dL D).toArray] w fun e w' => e = .returned (.tuple #[]) ∧ SAt w0 w' X K (setS v D s) vT vS ∧ FrS X w w' := by
 obtain ⟨n1,n2,n3,n4,n5,n6,n7,n8,n9,n10⟩ := nd_ne h
 obtain ⟨I,hI⟩ : ∃ I : Nat,v = (I : Int) := ⟨v.toNat,by have := hv.1;omega⟩
 subst hI
 have hI2 : I < K.vars.length := by have := hv.2;omega
 have hb1 : (0 : Int) ≤ I := by omega
 have hb2 : (I : Int) < K.vars.length := by omega
 obtain ⟨W,hW⟩ : ∃ W,W = w.alloc (.cells (dL D).toArray 161) := ⟨_,rfl⟩
 have hWB : W.heap[w.heap.size]? = some (.cells (dL D).toArray 161 (0,0)) := by rw [hW];exact heap_alloc_new w _
 have hgW : w.grownBy W none := by rw [hW];exact World.grownBy_alloc _ _ _
 have hA := h.grown hgW
 have hsz : X.gl ≠ w.heap.size := by have := h.lt.2.1;omega
 have r4 := hA.f4
 have r5 := hA.f5
 have r6 := hA.f6
 have rl := (hA.leftAt hv).2
 rw [Int.toNat_natCast] at rl
 have rb : W.rangeAt w.heap.size 0 (dL D) := fun j u hu => by rw [Nat.zero_add];exact cell_of hWB j u (by simpa using hu)
 have hin := dInfo D
 have hun := dUnder
 have hle := dL_len D
 have hon := dL_one D
 have K1 := Kept.mk (fun (W' : World) (hd : DbTab W') => dm_One D hD W' hd)
 rw [dArr_dL] at K1
 have KD : Hid (DbTab (W.drew.setCells X.gl (I * 32) (dL D)).drew) := db_grown hA.db0 (((grown_new hA.g0 (hA.low _ own_gl) ((grown_drew' W (some X.gl)).trans (grown_setCells W.drew X.gl (I * 32) (dL D)))).trans (grown_drew' _ none)))
 have HF : Hid (∀ w1 : World,(W.drew.setCells X.gl (I * 32) (dL D)).grownBy w1 none → SAt w0 ((w1.setCell ⟨X.gv,I,none⟩ (.int .i64 (oneV D))).setCell ⟨X.gf,I,none⟩ (.bool (oneB D))) X K (setS (I : Int) D s) vT vS ∧ FrS X w ((w1.setCell ⟨X.gv,I,none⟩ (.int .i64 (oneV D))).setCell ⟨X.gf,I,none⟩ (.bool (oneB D)))) := fun w1 hg => by
  have q := SAt.setv (hA.grown (grown_drew' W none)) hI2 hg
  refine ⟨q.1,(FrS.grown (hgW.trans (grown_drew' W none))).trans q.2⟩
 have HC : Hid (∀ w1 : World,(W.drew.setCells X.gl (I * 32) (dL D)).grownBy w1 none → (∃ u,w1.cell? ⟨X.gv,I,none⟩ = some u) ∧ (∃ u,w1.cell? ⟨X.gf,I,none⟩ = some u) ∧ w1.frozen? ⟨X.gv,I,none⟩ = false ∧ w1.frozen? ⟨X.gf,I,none⟩ = false) := fun w1 hg => by
  obtain ⟨a1,a2,a3,a4⟩ := hA.valAt hv
  have gg := (grown_drew' W (some X.gl)).trans (grown_setCells W.drew X.gl (I * 32) (dL D))
  have lt := hA.lt
  have q1 := gg.cell a1 (fun e => n5 (Option.some.inj e).symm)
  have q2 := gg.cell a2 (fun e => n6 (Option.some.inj e).symm)
  have z1 := gg.frozen_far ⟨X.gv,I,none⟩ lt.2.2.1 (fun e => n5 (Option.some.inj e).symm)
  have z2 := gg.frozen_far ⟨X.gf,I,none⟩ lt.2.2.2.1 (fun e => n6 (Option.some.inj e).symm)
  have gz := gg.size
  refine ⟨⟨_,hg.cell q1 (by simp)⟩,⟨_,hg.cell q2 (by simp)⟩,?_,?_⟩
  ·exact (hg.frozen_far ⟨X.gv,I,none⟩ (by have := lt.2.2.1;show X.gv < _;omega) (by simp)).trans (z1.trans a3)
  ·exact (hg.frozen_far ⟨X.gf,I,none⟩ (by have := lt.2.2.2.1;show X.gf < _;omega) (by simp)).trans (z2.trans a4)
 have HS1 : Hid (∀ W',Kp [X.gl] W W' → W'.cell? ⟨X.b,4,none⟩ = some (.slice (some ⟨X.gl,0,none⟩) K.vars.length K.vars.length) ∧ W'.rangeAt w.heap.size 0 (dL D)) := fun W' hk =>
  ⟨hk.cell r4 (by simpa using n1),hk.range rb (by simpa using hsz.symm)⟩
 have HS2 : Hid (∀ W',Kp [X.gl,X.gv,X.gf] W W' → W'.cell? ⟨X.b,5,none⟩ = some (.slice (some ⟨X.gv,0,none⟩) K.vars.length K.vars.length) ∧ W'.cell? ⟨X.b,6,none⟩ = some (.slice (some ⟨X.gf,0,none⟩) K.vars.length K.vars.length) ∧ W'.rangeAt w.heap.size 0 (dL D)) := fun W' hk => by
  have l := h.lt
  exact ⟨hk.cell r5 (by simp [n1,n2,n3]),hk.cell r6 (by simp [n1,n2,n3]),hk.range rb (by simp;omega)⟩
 have rlD : W.drew.there X.gl (I * 32) 32 := rl
 have HA := hide hA
 have HH := hide h
 have HGW := hide hgW
 clear h hA hv hgW r4 r5 r6 rb
 clear HH HGW HA hWB
 generalize hcs : dL D = cs at *
 clear hcs
 go_enter Tryz.func82,Tryz.ntmps82
 go_wp2
 rw [← hW]
 clear hW
 go_region_held3 (fun w' => w'.cell? ⟨X.b,4,none⟩ = some (.slice (some ⟨X.gl,0,none⟩) K.vars.length K.vars.length) ∧ w'.rangeAt w.heap.size 0 cs) (first | exact HS1.out _ (Kp.refl _ _).drew | exact HS1.out _ ((Kp.refl _ _).drew.turn (grown_setCells _ _ _ _) (by simp))) (fail)
 go_wp2
 go_region_held3 (fun w' => w'.cell? ⟨X.b,5,none⟩ = some (.slice (some ⟨X.gv,0,none⟩) K.vars.length K.vars.length) ∧ w'.cell? ⟨X.b,6,none⟩ = some (.slice (some ⟨X.gf,0,none⟩) K.vars.length K.vars.length) ∧ w'.rangeAt w.heap.size 0 cs)
  (first | exact HS2.out _ (((Kp.refl _ _).drew.turn (grown_setCells _ _ _ _) (by simp)).drew) | exact HS2.out _ (((Kp.refl _ _).drew.turn (grown_setCells _ _ _ _) (by simp)).drew.grown hg2) | exact HS2.out _ ((((Kp.refl _ _).drew.turn (grown_setCells _ _ _ _) (by simp)).drew.grown hg2).set (by simp)) | exact HS2.out _ (((((Kp.refl _ _).drew.turn (grown_setCells _ _ _ _) (by simp)).drew.grown hg2).set (by simp)).set (by simp)))
  (first | (go_at_call 126;refine (K1.get _ KD.out).mono ?_;rintro e w2 ⟨rfl,hg2⟩;obtain ⟨⟨u1,k1⟩,⟨u2,k2⟩,f1,f2⟩ := HC.out w2 ((grown_drew' _ _).trans hg2)))
 all_goals go_wp2
 all_goals go_end0
 all_goals exact ⟨rfl,HF.out _ ((grown_drew' _ _).trans hg2)⟩
end
end Go.Proofs.YthpcbbnabnlanaaGreatDoor
