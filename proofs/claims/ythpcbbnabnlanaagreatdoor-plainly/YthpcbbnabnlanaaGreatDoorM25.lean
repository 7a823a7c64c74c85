import Derived.Test.YthpcbbnabnlanaaGreatDoorM24
import Derived.Lib.OwnBridge
import Derived.Sort.OwnSortedInts
namespace Go.Proofs.YthpcbbnabnlanaaGreatDoor
open Go.RowKit
set_option linter.unusedVariables false
set_option linter.unusedSimpArgs false
section
variable {w0 w w' w'' : World}
def sortP (l : List Int) : List Int := l.mergeSort fun x y => decide (x ≤ y)
def varsP (c : QCon) : List Int := Lib.compact (sortP (rawVars c))
theorem compactU_mem (d : Array Int) : ∀ (m : Nat),m ≤ d.size → ∀ v,v ∈ Lib.compactUpTo d m ↔ ∃ j,j < m ∧ d[j]! = v
 | 0,_,v => by simp [Lib.compactUpTo]
 | m + 1,h,v => by
  have ih := compactU_mem d m (by omega) v
  rw [Lib.compactUpTo_succ,List.mem_append,ih]
  constructor
  ·rintro (⟨j,h1,h2⟩ | h1)
   ·exact ⟨j,by omega,h2⟩
   ·split at h1
    ·exact ⟨m,by omega,(List.mem_singleton.1 h1).symm⟩
    ·cases h1
  ·rintro ⟨j,h1,h2⟩
   by_cases c : j < m
   ·exact .inl ⟨j,c,h2⟩
   ·have : j = m := by omega
    subst this
    by_cases k : Lib.keeps d j = true
    ·right;rw [if_pos k];simp [h2]
    ·left
     have k2 : ¬ (j = 0 ∨ d[j]! ≠ d[j - 1]!) := by simpa [Lib.keeps] using k
     have k3 : j ≠ 0 := fun e => k2 (.inl e)
     have k4 : d[j]! = d[j - 1]! := Decidable.byContradiction fun e => k2 (.inr e)
     exact ⟨j - 1,by omega,by rw [← k4];exact h2⟩
theorem compact_mem (l : List Int) (v : Int) : v ∈ Lib.compact l ↔ v ∈ l := by
 unfold Lib.compact
 rw [compactU_mem l.toArray l.length (by simp) v]
 constructor
 ·rintro ⟨j,h1,h2⟩
  have : l.toArray[j]! = l[j] := by simp [h1]
  rw [this] at h2
  rw [← h2];exact List.getElem_mem h1
 ·intro h
  obtain ⟨j,h1,h2⟩ := List.getElem_of_mem h
  exact ⟨j,h1,by simp [h1,h2]⟩
theorem sortP_mem (l : List Int) (v : Int) : v ∈ sortP l ↔ v ∈ l := (List.mergeSort_perm l _).mem_iff
theorem sortP_len (l : List Int) : (sortP l).length = l.length := (List.mergeSort_perm l _).length_eq
theorem varsP_mem (c : QCon) (v : Int) : v ∈ varsP c ↔ v ∈ rawVars c := by unfold varsP;rw [compact_mem,sortP_mem]
theorem varsP_len (c : QCon) : (varsP c).length ≤ (rawVars c).length := by
 have := Lib.compact_length_le (sortP (rawVars c))
 rw [sortP_len] at this
 exact this
theorem grown_own {B e z n : Nat} {v : Value} {xs : List Value} (h : w0.grownBy w none) (ho : w.ownsRow B e z v n xs) (hB : w0.heap.size ≤ B) (hg : w.grownBy w' v.ownBlock) : w0.grownBy w' none := by
 cases hv : v.ownBlock with
 | none => rw [hv] at hg;exact h.trans hg
 | some k => rw [hv] at hg;exact grown_new h (Nat.le_trans hB (ho.lt k hv).1) hg
theorem sl_sort {B : Nat} {v : Value} {l : List Int} (ho : w.ownsRow B 3 1 v l.length (l.map (Value.int .i64))) (hne : l ≠ []) (hl : l.length ≤ 1000) : Calls Tryz.prog 127 #[v] w fun e w1 => e = .returned (.tuple #[]) ∧ w1.ownsRow B 3 1 v (sortP l).length ((sortP l).map (Value.int .i64)) ∧ w.grownBy w1 v.ownBlock := by
 have hl0 : 0 < l.length := List.length_pos_iff.2 hne
 obtain ⟨g,cap,rfl,hB,hlt,hc,hm,_,hH⟩ := Lib.holds_of_ownsRow ho (by
  rintro rfl
  rcases ho.2 with ⟨_,q⟩ | ⟨g,cap,cur,q,_⟩
  ·exact hne (List.length_eq_zero_iff.1 q)
  ·cases q)
 refine (Tryz.slices_Sort_int g 0 cap l w hH hlt (by omega)).mono ?_
 rintro e w1 ⟨rfl,n,os,rfl⟩
 refine ⟨rfl,?_,grownBy_sortedI _⟩
 rcases ho.2 with ⟨q,_⟩ | ⟨g',cap',cur,q,q1,q2,q3,q4,q5,q6⟩
 ·cases q
 ·injection q with e1 e2 e3
  injection e1 with e1
  injection e1 with e1
  subst e1 e3
  rw [sortP_len]
  exact ownsRow_sortedI (ss := l) (sortP_len l) hB q2 q3 q4 q5
theorem sl_compact {B : Nat} {v : Value} {l : List Int} (ho : w.ownsRow B 3 1 v l.length (l.map (Value.int .i64))) (hne : l ≠ []) (hl : l.length ≤ 1000) : Calls Tryz.prog 128 #[v] w fun e w1 => ∃ g cap,e = .returned (.slice (some ⟨g,0,none⟩) (Lib.compact l).length cap) ∧ w1.ownsRow B 3 1 (.slice (some ⟨g,0,none⟩) (Lib.compact l).length cap) (Lib.compact l).length ((Lib.compact l).map (Value.int .i64)) ∧ w.grownBy w1 v.ownBlock := by
 obtain ⟨g,cap,rfl,hB,hlt,hc,hm,_,hH⟩ := Lib.holds_of_ownsRow ho (by
  rintro rfl
  rcases ho.2 with ⟨_,q⟩ | ⟨g,cap,cur,q,_⟩
  ·exact hne (List.length_eq_zero_iff.1 q)
  ·cases q)
 refine (Tryz.slices_Compact_int g 0 cap l w hH (by omega) hc).mono ?_
 rintro e w1 ⟨rfl,q,rfl⟩
 have hk := Lib.compact_length_le l
 refine ⟨g,cap,rfl,?_,?_⟩
 ·have r := Lib.ownsRow_putRow (q := q) (k := (Lib.compact l).length) (ys := Lib.compact l ++ List.replicate (l.length - (Lib.compact l).length) 0) ho (by simp;omega) hk
  rw [List.take_left'  rfl] at r
  exact r
 ·have r := grownBy_sortedI (w := w) (g := g) (n := q) (os := #[]) (Lib.compact l ++ List.replicate (l.length - (Lib.compact l).length) 0).toArray
  rw [Sort.grow_empty] at r
  exact r
end
section
set_option maxHeartbeats 4000000
set_option maxRecDepth 100000
variable {w0 w w' w'' : World}
theorem infoI64 : (Tryz.prog.info? 3).map (fun i => (i.zero,i.size,i.bytes)) = some (some (.int .i64 0),1,8) := by kernel_rfl
def VarPost (w : World) (c : QCon) (e : Ending) (w' : World) : Prop := ∃ g cap,e = .returned (.slice (some ⟨g,0,none⟩) (varsP c).length cap) ∧ w'.ownsRow w.heap.size 3 1 (.slice (some ⟨g,0,none⟩) (varsP c).length cap) (varsP c).length ((varsP c).map (Value.int .i64)) ∧ w.grownBy w' none
def VarRel (w : World) (l : List Int) (i : Nat) (v : Value) (wr : World) : Prop := w.grownBy wr none ∧ wr.ownsRow w.heap.size 3 1 v (l.take i).length ((l.take i).map (Value.int .i64))
theorem VarRel.next {l : List Int} {i : Nat} {v v' : Value} {wr w8 w9 : World} {a : Int} (h : VarRel w l i v wr) (ha : l[i]? = some a) (h8 : wr.grownBy w8 none) (ho8 : w8.ownsRow w.heap.size 3 1 v (l.take i).length ((l.take i).map (Value.int .i64))) (hown : w9.ownsRow w.heap.size 3 1 v' ((l.take i).length + 1) ((l.take i).map (Value.int .i64) ++ [.int .i64 a])) (hg : w8.grownBy w9 v.ownBlock) : VarRel w l (i + 1) v' w9 := by
 refine ⟨grown_own (h.1.trans h8) ho8 (Nat.le_refl _) hg,?_⟩
 rw [List.take_add_one,ha]
 simp only [Option.toList_some,List.length_append,List.map_append,List.length_singleton,List.map_cons,List.map_nil]
 exact hown
theorem raw_len {n : Nat} {t : Int → Prop} {c : QCon} (h : ConOk n t c) : (rawVars c).length ≤ 9 := by
 have h1 := h.tlen
 have h2 := h.vlen
 have h3 := h.ilen
 unfold rawVars
 split
 ·simp;omega
 ·split
  ·simp;omega
  ·split
   ·simp
   ·split
    ·omega
    ·split
     ·simp;omega
     ·simp
theorem raw_ne {n : Nat} {t : Int → Prop} {c : QCon} (h : ConOk n t c) : rawVars c ≠ [] := by
 unfold rawVars
 rcases h.sort with e | e | e | e | e
 ·rw [if_neg (by omega),if_pos e]
  intro q
  exact h.tne (.inl e) (by simpa using q)
 ·rw [if_pos e];simp
 ·rw [if_neg (by omega),if_neg (by omega),if_pos e];simp
 ·rw [if_neg (by omega),if_neg (by omega),if_neg (by omega),if_pos e];exact h.vne e
 ·rw [if_neg (by omega),if_neg (by omega),if_neg (by omega),if_neg (by omega),if_pos e]
  intro q
  exact h.ine e (by simpa using q)
theorem vr_lin {b o B n : Nat} {x : CRow} {t : Int → Prop} (h : ConIn w b o B x) (hok : ConOk n t x.c) (h0 : x.c.sort = 0) : Calls Tryz.prog 84 #[.pointer (some ⟨b,o,none⟩)] w (VarPost w x.c) := by
 have k0 : w.cell? ⟨b,o,none⟩ = some (.int .i64 0) := by have q := h.cell 0 _ rfl;rw [h0] at q;exact q
 obtain ⟨gt,ct,hT,_⟩ := RowIn.of_own h.at_.t (by cases e : x.c.terms with | nil => exact absurd e (hok.tne (.inl h0)) | cons _ _ => simp)
 have k2 : w.cell? ⟨b,o + 2,none⟩ = some (.slice (some ⟨gt,0,none⟩) x.c.terms.length ct) := by have q := h.cell 2 _ rfl;rw [hT.is] at q;exact q
 have HRW : Hid (rawVars x.c = x.c.terms.map (·.1)) := by unfold Hid rawVars;rw [if_neg (by omega),if_pos h0]
 have HRA : Hid (∀ i a,x.c.terms[i]? = some a → (rawVars x.c)[i + 0]? = some a.1) := fun i a ha => by rw [HRW.out,Nat.add_zero,List.getElem?_map,ha];rfl
 have HLN : Hid ((rawVars x.c).length = x.c.terms.length + 0) := by rw [Hid,HRW.out];simp
 have HSTART : Hid (VarRel w (rawVars x.c) (0 + 0) (.slice none 0 0) w) := ⟨grown_refl _ _,World.ownsRow_nil _ _ _ _⟩
 have hgt := hT.lt
 have htl := hok.tlen
 have HNE : Hid (rawVars x.c ≠ []) := raw_ne hok
 have HLE : Hid ((rawVars x.c).length ≤ 1000) := Nat.le_trans (raw_len hok) (by omega)
 have HN1 : Hid (sortP (rawVars x.c) ≠ []) := fun e => HNE.out (by have := sortP_len (rawVars x.c);rw [e] at this;exact List.length_eq_zero_iff.1 this.symm)
 have hlt := h.lt
 obtain ⟨i0,hi0,hz0,hz1,hz2⟩ := info_parts infoI64
 have HT := hide hT
 clear h hT hok h0
 go_enter Tryz.func84,Tryz.ntmps84
 go_wp2
 go_loopw [3,34] (fun v vi wr => ∃ (i : Nat) (u : Value),i ≤ (x.c.terms).length ∧ vi = .int .i64 i ∧ u = v ∧ VarRel w (rawVars x.c) (i + 0) u wr) (fun _ vi _ => (x.c.terms).length - (intOf vi).toNat)
 case atStart => exact ⟨0,_,Nat.zero_le _,rfl,rfl,HSTART.out⟩
 case round =>
  obtain ⟨i,u,hi,rfl,rfl,hvr⟩ := hrel
  by_cases hlt2 : i < (x.c.terms).length
  ·obtain ⟨a,ha⟩ : ∃ a,(x.c.terms)[i]? = some a := ⟨_,List.getElem?_eq_getElem hlt2⟩
   have hR := HT.out.kept hvr.1 (by simp)
   have q0 : wr.cell? ⟨gt,i * 2,none⟩ = some (.int .i64 a.1) := hR.at (sz := 2) (fun _ => rfl) ha 0 _ rfl
   have q1 : wr.cell? ⟨gt,i * 2 + 1,none⟩ = some (.int .i64 a.2) := hR.at (sz := 2) (fun _ => rfl) ha 1 _ rfl
   have hRW := hide (HRA.out i a ha)
   obtain ⟨a1,a2⟩ := a
   simp only at *
   have hown := hvr.2
   have hlen : ((rawVars x.c).take (i + 0)).length ≤ 1000 := by have := HLE.out;have := List.length_take_le (i + 0) (rawVars x.c);rw [List.length_take];omega
   have hwr : w.heap.size ≤ wr.heap.size := hvr.1.size
   have hgt' : gt < wr.heap.size := hR.lt
   have hnew : ((wr.alloc (.cells #[.int .i64 a1,.int .i64 a2] 201)).alloc (.cells #[.int .i64 a1] 3)).heap[wr.heap.size + 1]? = some (.cells #[.int .i64 a1] 3 (0,0)) := by
    have q := heap_alloc_new (wr.alloc (.cells #[.int .i64 a1,.int .i64 a2] 201)) (.cells #[.int .i64 a1] 3)
    simpa using q
   have hlt3 : (i : Int) < (x.c.terms).length := by omega
   have h03 : (0 : Int) ≤ i := by omega
   have HVR := hide hvr
   clear hR hvr ha
   obtain ⟨T9,hT9⟩ : ∃ T9,T9 = (rawVars x.c).take (i + 0) := ⟨_,rfl⟩
   rw [← hT9] at hown hlen
   have HT9 := hide hT9
   clear hT9
   go_wp2_with (at_builtin;refine wpList_append_own _ rfl _ _ 33 rfl w.heap.size 3 i0 (.int .i64 0) 1 8 Tryz.underlying33 hi0 hz0 hz1 hz2 rfl (by decide) _ _ _ rfl ((hown.alloc _).alloc _) ⟨wr.heap.size + 1,0,none⟩ 1 1 [.int .i64 a1] rfl rfl (World.news_of_block hnew) (by intro u hu;simp at hu;subst hu;rfl) ?c3 ?c4 ?c5 ?_)
   case c3 => unfold maxLen;omega
   case c4 => omega
   case c5 => simp;omega
   intro v' w9 hown' hgrow _
   have R : VarRel w (rawVars x.c) (i + 0 + 1) v' w9 := by
    rw [HT9.out] at hown hown'
    exact VarRel.next HVR.out hRW.out ((World.grownBy_alloc _ _ _).trans (World.grownBy_alloc _ _ _)) ((hown.alloc _).alloc _) hown' hgrow
   have HR9 := hide R
   clear hown' hgrow hown R
   go_wp2
   go_roundw
   case rel => exact ⟨i + 1,_,by omega,by go_num,rfl,by have q := HR9.out;simpa [Nat.add_right_comm] using q⟩
   case measure => simp [intOf];omega
  ·obtain rfl : i = (x.c.terms).length := by omega
   have hgr := hvr.1
   have hown : wr.ownsRow w.heap.size 3 1 u (rawVars x.c).length ((rawVars x.c).map (Value.int .i64)) := by
    have q := hvr.2
    rw [List.take_of_length_le (by have := HLN.out;omega)] at q
    exact q
   have HOWN := hide hown
   have HGR := hide hgr
   clear hown hgr
   go_wp2_with (first | (go_at_call 128;refine (sl_compact hown1 HN1.out (by rw [sortP_len];exact HLE.out)).mono ?_;rintro e w2 ⟨g,cap,rfl,hown2,hg2⟩) | (go_at_call 127;refine (sl_sort HOWN.out HNE.out HLE.out).mono ?_;rintro e w1 ⟨rfl,hown1,hg1⟩))
   go_ret
   exact ⟨g,cap,rfl,hown2,grown_own (grown_own HGR.out HOWN.out (Nat.le_refl _) hg1) hown1 (Nat.le_refl _) hg2⟩
theorem vr_or {b o B n : Nat} {x : CRow} {t : Int → Prop} (h : ConIn w b o B x) (hok : ConOk n t x.c) (h0 : x.c.sort = 4) : Calls Tryz.prog 84 #[.pointer (some ⟨b,o,none⟩)] w (VarPost w x.c) := by
 have k0 : w.cell? ⟨b,o,none⟩ = some (.int .i64 4) := by have q := h.cell 0 _ rfl;rw [h0] at q;exact q
 obtain ⟨gt,ct,hT,_⟩ := RowIn.of_own h.at_.i (by cases e : x.c.lits with | nil => exact absurd e (hok.ine h0) | cons _ _ => simp)
 have k2 : w.cell? ⟨b,o + 9,none⟩ = some (.slice (some ⟨gt,0,none⟩) x.c.lits.length ct) := by have q := h.cell 9 _ rfl;rw [hT.is] at q;exact q
 have HRW : Hid (rawVars x.c = x.c.lits.map (·.1)) := by unfold Hid rawVars;rw [if_neg (by omega),if_neg (by omega),if_neg (by omega),if_neg (by omega),if_pos h0]
 have HRA : Hid (∀ i a,x.c.lits[i]? = some a → (rawVars x.c)[i + 0]? = some a.1) := fun i a ha => by rw [HRW.out,Nat.add_zero,List.getElem?_map,ha];rfl
 have HLN : Hid ((rawVars x.c).length = x.c.lits.length + 0) := by rw [Hid,HRW.out];simp
 have HSTART : Hid (VarRel w (rawVars x.c) (0 + 0) (.slice none 0 0) w) := ⟨grown_refl _ _,World.ownsRow_nil _ _ _ _⟩
 have hgt := hT.lt
 have htl := hok.ilen
 have HNE : Hid (rawVars x.c ≠ []) := raw_ne hok
 have HLE : Hid ((rawVars x.c).length ≤ 1000) := Nat.le_trans (raw_len hok) (by omega)
 have HN1 : Hid (sortP (rawVars x.c) ≠ []) := fun e => HNE.out (by have := sortP_len (rawVars x.c);rw [e] at this;exact List.length_eq_zero_iff.1 this.symm)
 have hlt := h.lt
 obtain ⟨i0,hi0,hz0,hz1,hz2⟩ := info_parts infoI64
 have HT := hide hT
 clear h hT hok h0
 go_enter Tryz.func84,Tryz.ntmps84
 go_wp2
 go_loopw [3,66] (fun v vi wr => ∃ (i : Nat) (u : Value),i ≤ (x.c.lits).length ∧ vi = .int .i64 i ∧ u = v ∧ VarRel w (rawVars x.c) (i + 0) u wr) (fun _ vi _ => (x.c.lits).length - (intOf vi).toNat)
 case atStart => exact ⟨0,_,Nat.zero_le _,rfl,rfl,HSTART.out⟩
 case round =>
  obtain ⟨i,u,hi,rfl,rfl,hvr⟩ := hrel
  by_cases hlt2 : i < (x.c.lits).length
  ·obtain ⟨a,ha⟩ : ∃ a,(x.c.lits)[i]? = some a := ⟨_,List.getElem?_eq_getElem hlt2⟩
   have hR := HT.out.kept hvr.1 (by simp)
   have q0 : wr.cell? ⟨gt,i * 2,none⟩ = some (.int .i64 a.1) := hR.at (sz := 2) (fun _ => rfl) ha 0 _ rfl
   have q1 : wr.cell? ⟨gt,i * 2 + 1,none⟩ = some (.int .i64 a.2) := hR.at (sz := 2) (fun _ => rfl) ha 1 _ rfl
   have hRW := hide (HRA.out i a ha)
   obtain ⟨a1,a2⟩ := a
   simp only at *
   have hown := hvr.2
   have hlen : ((rawVars x.c).take (i + 0)).length ≤ 1000 := by have := HLE.out;have := List.length_take_le (i + 0) (rawVars x.c);rw [List.length_take];omega
   have hwr : w.heap.size ≤ wr.heap.size := hvr.1.size
   have hgt' : gt < wr.heap.size := hR.lt
   have hnew : ((wr.alloc (.cells #[.int .i64 a1,.int .i64 a2] 203)).alloc (.cells #[.int .i64 a1] 3)).heap[wr.heap.size + 1]? = some (.cells #[.int .i64 a1] 3 (0,0)) := by
    have q := heap_alloc_new (wr.alloc (.cells #[.int .i64 a1,.int .i64 a2] 203)) (.cells #[.int .i64 a1] 3)
    simpa using q
   have hlt3 : (i : Int) < (x.c.lits).length := by omega
   have h03 : (0 : Int) ≤ i := by omega
   have HVR := hide hvr
   clear hR hvr ha
   obtain ⟨T9,hT9⟩ : ∃ T9,T9 = (rawVars x.c).take (i + 0) := ⟨_,rfl⟩
   rw [← hT9] at hown hlen
   have HT9 := hide hT9
   clear hT9
   go_wp2_with (at_builtin;refine wpList_append_own _ rfl _ _ 33 rfl w.heap.size 3 i0 (.int .i64 0) 1 8 Tryz.underlying33 hi0 hz0 hz1 hz2 rfl (by decide) _ _ _ rfl ((hown.alloc _).alloc _) ⟨wr.heap.size + 1,0,none⟩ 1 1 [.int .i64 a1] rfl rfl (World.news_of_block hnew) (by intro u hu;simp at hu;subst hu;rfl) ?c3 ?c4 ?c5 ?_)
   case c3 => unfold maxLen;omega
   case c4 => omega
   case c5 => simp;omega
   intro v' w9 hown' hgrow _
   have R : VarRel w (rawVars x.c) (i + 0 + 1) v' w9 := by
    rw [HT9.out] at hown hown'
    exact VarRel.next HVR.out hRW.out ((World.grownBy_alloc _ _ _).trans (World.grownBy_alloc _ _ _)) ((hown.alloc _).alloc _) hown' hgrow
   have HR9 := hide R
   clear hown' hgrow hown R
   go_wp2
   go_roundw
   case rel => exact ⟨i + 1,_,by omega,by go_num,rfl,by have q := HR9.out;simpa [Nat.add_right_comm] using q⟩
   case measure => simp [intOf];omega
  ·obtain rfl : i = (x.c.lits).length := by omega
   have hgr := hvr.1
   have hown : wr.ownsRow w.heap.size 3 1 u (rawVars x.c).length ((rawVars x.c).map (Value.int .i64)) := by
    have q := hvr.2
    rw [List.take_of_length_le (by have := HLN.out;omega)] at q
    exact q
   have HOWN := hide hown
   have HGR := hide hgr
   clear hown hgr
   go_wp2_with (first | (go_at_call 128;refine (sl_compact hown1 HN1.out (by rw [sortP_len];exact HLE.out)).mono ?_;rintro e w2 ⟨g,cap,rfl,hown2,hg2⟩) | (go_at_call 127;refine (sl_sort HOWN.out HNE.out HLE.out).mono ?_;rintro e w1 ⟨rfl,hown1,hg1⟩))
   go_ret
   exact ⟨g,cap,rfl,hown2,grown_own (grown_own HGR.out HOWN.out (Nat.le_refl _) hg1) hown1 (Nat.le_refl _) hg2⟩
theorem vr_when {b o B n : Nat} {x : CRow} {t : Int → Prop} (h : ConIn w b o B x) (hok : ConOk n t x.c) (h0 : x.c.sort = 1) : Calls Tryz.prog 84 #[.pointer (some ⟨b,o,none⟩)] w (VarPost w x.c) := by
 have k0 : w.cell? ⟨b,o,none⟩ = some (.int .i64 1) := by have q := h.cell 0 _ rfl;rw [h0] at q;exact q
 have k1 : w.cell? ⟨b,o + 1,none⟩ = some (.int .i64 x.c.truth) := h.cell 1 _ rfl
 obtain ⟨gt,ct,hT,_⟩ := RowIn.of_own h.at_.t (by cases e : x.c.terms with | nil => exact absurd e (hok.tne (.inr h0)) | cons _ _ => simp)
 have k2 : w.cell? ⟨b,o + 2,none⟩ = some (.slice (some ⟨gt,0,none⟩) x.c.terms.length ct) := by have q := h.cell 2 _ rfl;rw [hT.is] at q;exact q
 have HRW : Hid (rawVars x.c = x.c.truth :: x.c.terms.map (·.1)) := by unfold Hid rawVars;rw [if_pos h0]
 have HRA : Hid (∀ i a,x.c.terms[i]? = some a → (rawVars x.c)[i + 1]? = some a.1) := fun i a ha => by rw [HRW.out,List.getElem?_cons_succ,List.getElem?_map,ha];rfl
 have HLN : Hid ((rawVars x.c).length = x.c.terms.length + 1) := by rw [Hid,HRW.out];simp
 have hnew0 : (w.alloc (.cells #[.int .i64 x.c.truth] 3)).heap[w.heap.size]? = some (.cells #[.int .i64 x.c.truth] 3 (0,0)) := heap_alloc_new _ _
 have HV0 : Hid (∀ v' w9,w9.ownsRow w.heap.size 3 1 v' (0 + 1) ([] ++ [.int .i64 x.c.truth]) → (w.alloc (.cells #[.int .i64 x.c.truth] 3)).grownBy w9 (Value.slice none 0 0).ownBlock → VarRel w (rawVars x.c) (0 + 1) v' w9) := fun v' w9 q1 q2 => by
  refine VarRel.next (v := .slice none 0 0) (wr := w) ⟨grown_refl _ _,World.ownsRow_nil _ _ _ _⟩ (by rw [HRW.out];rfl) (World.grownBy_alloc _ _ _) (World.ownsRow_nil _ _ _ _) q1 q2
 have HN0 : Hid (∀ W : World,W.ownsRow w.heap.size 3 1 (.slice none 0 0) 0 []) := fun W => World.ownsRow_nil _ _ _ _
 have hgt := hT.lt
 have htl := hok.tlen
 have HNE : Hid (rawVars x.c ≠ []) := raw_ne hok
 have HLE : Hid ((rawVars x.c).length ≤ 1000) := Nat.le_trans (raw_len hok) (by omega)
 have HN1 : Hid (sortP (rawVars x.c) ≠ []) := fun e => HNE.out (by have := sortP_len (rawVars x.c);rw [e] at this;exact List.length_eq_zero_iff.1 this.symm)
 have hlt := h.lt
 obtain ⟨i0,hi0,hz0,hz1,hz2⟩ := info_parts infoI64
 have HT := hide hT
 clear h hT hok h0
 go_enter Tryz.func84,Tryz.ntmps84
 go_wp2_with (at_builtin;refine wpList_append_own _ rfl _ _ 33 rfl w.heap.size 3 i0 (.int .i64 0) 1 8 Tryz.underlying33 hi0 hz0 hz1 hz2 rfl (by decide) _ _ _ rfl (HN0.out _) ⟨w.heap.size,0,none⟩ 1 1 [.int .i64 x.c.truth] rfl rfl (World.news_of_block hnew0) (by intro u hu;simp at hu;subst hu;rfl) ?c3 ?c4 ?c5 ?_)
 case c3 => unfold maxLen;omega
 case c4 => omega
 case c5 => simp
 intro v1 w1 hown1 hgrow1 _
 have HSTART := hide (HV0.out v1 w1 hown1 hgrow1)
 have k2' := HSTART.out.1.cell k2 (by simp)
 have hlt' : b < w1.heap.size := Nat.lt_of_lt_of_le hlt HSTART.out.1.size
 clear hown1 hgrow1
 go_wp2
 go_loopw [3,34] (fun v vi wr => ∃ (i : Nat) (u : Value),i ≤ (x.c.terms).length ∧ vi = .int .i64 i ∧ u = v ∧ VarRel w (rawVars x.c) (i + 1) u wr) (fun _ vi _ => (x.c.terms).length - (intOf vi).toNat)
 case atStart => exact ⟨0,_,Nat.zero_le _,rfl,rfl,HSTART.out⟩
 case round =>
  obtain ⟨i,u,hi,rfl,rfl,hvr⟩ := hrel
  by_cases hlt2 : i < (x.c.terms).length
  ·obtain ⟨a,ha⟩ : ∃ a,(x.c.terms)[i]? = some a := ⟨_,List.getElem?_eq_getElem hlt2⟩
   have hR := HT.out.kept hvr.1 (by simp)
   have q0 : wr.cell? ⟨gt,i * 2,none⟩ = some (.int .i64 a.1) := hR.at (sz := 2) (fun _ => rfl) ha 0 _ rfl
   have q1 : wr.cell? ⟨gt,i * 2 + 1,none⟩ = some (.int .i64 a.2) := hR.at (sz := 2) (fun _ => rfl) ha 1 _ rfl
   have hRW := hide (HRA.out i a ha)
   obtain ⟨a1,a2⟩ := a
   simp only at *
   have hown := hvr.2
   have hlen : ((rawVars x.c).take (i + 1)).length ≤ 1000 := by have := HLE.out;have := List.length_take_le (i + 1) (rawVars x.c);rw [List.length_take];omega
   have hwr : w.heap.size ≤ wr.heap.size := hvr.1.size
   have hgt' : gt < wr.heap.size := hR.lt
   have hnew : ((wr.alloc (.cells #[.int .i64 a1,.int .i64 a2] 201)).alloc (.cells #[.int .i64 a1] 3)).heap[wr.heap.size + 1]? = some (.cells #[.int .i64 a1] 3 (0,0)) := by
    have q := heap_alloc_new (wr.alloc (.cells #[.int .i64 a1,.int .i64 a2] 201)) (.cells #[.int .i64 a1] 3)
    simpa using q
   have hlt3 : (i : Int) < (x.c.terms).length := by omega
   have h03 : (0 : Int) ≤ i := by omega
   have HVR := hide hvr
   clear hR hvr ha
   obtain ⟨T9,hT9⟩ : ∃ T9,T9 = (rawVars x.c).take (i + 1) := ⟨_,rfl⟩
   rw [← hT9] at hown hlen
   have HT9 := hide hT9
   clear hT9
   go_wp2_with (at_builtin;refine wpList_append_own _ rfl _ _ 33 rfl w.heap.size 3 i0 (.int .i64 0) 1 8 Tryz.underlying33 hi0 hz0 hz1 hz2 rfl (by decide) _ _ _ rfl ((hown.alloc _).alloc _) ⟨wr.heap.size + 1,0,none⟩ 1 1 [.int .i64 a1] rfl rfl (World.news_of_block hnew) (by intro u hu;simp at hu;subst hu;rfl) ?c3 ?c4 ?c5 ?_)
   case c3 => unfold maxLen;omega
   case c4 => omega
   case c5 => simp;omega
   intro v' w9 hown' hgrow _
   have R : VarRel w (rawVars x.c) (i + 1 + 1) v' w9 := by
    rw [HT9.out] at hown hown'
    exact VarRel.next HVR.out hRW.out ((World.grownBy_alloc _ _ _).trans (World.grownBy_alloc _ _ _)) ((hown.alloc _).alloc _) hown' hgrow
   have HR9 := hide R
   clear hown' hgrow hown R
   go_wp2
   go_roundw
   case rel => exact ⟨i + 1,_,by omega,by go_num,rfl,by have q := HR9.out;simpa [Nat.add_right_comm] using q⟩
   case measure => simp [intOf];omega
  ·obtain rfl : i = (x.c.terms).length := by omega
   have hgr := hvr.1
   have hown : wr.ownsRow w.heap.size 3 1 u (rawVars x.c).length ((rawVars x.c).map (Value.int .i64)) := by
    have q := hvr.2
    rw [List.take_of_length_le (by have := HLN.out;omega)] at q
    exact q
   have HOWN := hide hown
   have HGR := hide hgr
   clear hown hgr
   go_wp2_with (first | (go_at_call 128;refine (sl_compact hown1 HN1.out (by rw [sortP_len];exact HLE.out)).mono ?_;rintro e w2 ⟨g,cap,rfl,hown2,hg2⟩) | (go_at_call 127;refine (sl_sort HOWN.out HNE.out HLE.out).mono ?_;rintro e w1 ⟨rfl,hown1,hg1⟩))
   go_ret
   exact ⟨g,cap,rfl,hown2,grown_own (grown_own HGR.out HOWN.out (Nat.le_refl _) hg1) hown1 (Nat.le_refl _) hg2⟩
theorem vr_diff {b o B n : Nat} {x : CRow} {t : Int → Prop} (h : ConIn w b o B x) (hok : ConOk n t x.c) (h0 : x.c.sort = 3) : Calls Tryz.prog 84 #[.pointer (some ⟨b,o,none⟩)] w (VarPost w x.c) := by
 have k0 : w.cell? ⟨b,o,none⟩ = some (.int .i64 3) := by have q := h.cell 0 _ rfl;rw [h0] at q;exact q
 obtain ⟨gt,ct,hT,_⟩ := RowIn.of_own h.at_.v (by cases e : x.c.vars with | nil => exact absurd e (hok.vne h0) | cons _ _ => simp)
 have k2 : w.cell? ⟨b,o + 8,none⟩ = some (.slice (some ⟨gt,0,none⟩) x.c.vars.length ct) := by have q := h.cell 8 _ rfl;rw [hT.is] at q;exact q
 have HRW : Hid (rawVars x.c = x.c.vars) := by unfold Hid rawVars;rw [if_neg (by omega),if_neg (by omega),if_neg (by omega),if_pos h0]
 have HNEWS : Hid (∀ j u,(x.c.vars.map (Value.int .i64))[j]? = some u → w.cell? ((⟨gt,0,none⟩ : Addr).add j) = some u) := fun j u hu => by
  have hadd : (⟨gt,0,none⟩ : Addr).add j = ⟨gt,j,none⟩ := by unfold Addr.add;split <;> simp_all
  rw [hadd]
  exact hT.row j u (by rw [flat_in];exact hu)
 have HN0 : Hid (∀ W : World,W.ownsRow w.heap.size 3 1 (.slice none 0 0) 0 []) := fun W => World.ownsRow_nil _ _ _ _
 have hgt := hT.lt
 have htl := hok.vlen
 have HNE : Hid (rawVars x.c ≠ []) := raw_ne hok
 have HLE : Hid ((rawVars x.c).length ≤ 1000) := Nat.le_trans (raw_len hok) (by omega)
 have HN1 : Hid (sortP (rawVars x.c) ≠ []) := fun e => HNE.out (by have := sortP_len (rawVars x.c);rw [e] at this;exact List.length_eq_zero_iff.1 this.symm)
 have hlt := h.lt
 obtain ⟨i0,hi0,hz0,hz1,hz2⟩ := info_parts infoI64
 clear h hT hok h0
 go_enter Tryz.func84,Tryz.ntmps84
 go_wp2_with (at_builtin;refine wpList_append_own _ rfl _ _ 33 rfl w.heap.size 3 i0 (.int .i64 0) 1 8 Tryz.underlying33 hi0 hz0 hz1 hz2 rfl (by decide) _ _ _ rfl (HN0.out _) ⟨gt,0,none⟩ x.c.vars.length ct (x.c.vars.map (Value.int .i64)) rfl (by simp) HNEWS.out (by intro u hu;obtain ⟨y,_,rfl⟩ := List.mem_map.1 hu;rfl) ?c3 ?c4 ?c5 ?_)
 case c3 => unfold maxLen;omega
 case c4 => omega
 case c5 => simp
 intro v1 wr hown1 hgr _
 have hgr : w.grownBy wr none := hgr
 have hown : wr.ownsRow w.heap.size 3 1 v1 (rawVars x.c).length ((rawVars x.c).map (Value.int .i64)) := by
  rw [HRW.out]
  simpa using hown1
 clear hown1
 have HOWN := hide hown
 have HGR := hide hgr
 clear hown hgr
 go_wp2_with (first | (go_at_call 128;refine (sl_compact hown1 HN1.out (by rw [sortP_len];exact HLE.out)).mono ?_;rintro e w2 ⟨g,cap,rfl,hown2,hg2⟩) | (go_at_call 127;refine (sl_sort HOWN.out HNE.out HLE.out).mono ?_;rintro e w1 ⟨rfl,hown1,hg1⟩))
 go_ret
 exact ⟨g,cap,rfl,hown2,grown_own (grown_own HGR.out HOWN.out (Nat.le_refl _) hg1) hown1 (Nat.le_refl _) hg2⟩
theorem vr_at {b o B n : Nat} {x : CRow} {t : Int → Prop} (h : ConIn w b o B x) (hok : ConOk n t x.c) (h0 : x.c.sort = 2) : Calls Tryz.prog 84 #[.pointer (some ⟨b,o,none⟩)] w (VarPost w x.c) := by
 have k0 : w.cell? ⟨b,o,none⟩ = some (.int .i64 2) := by have q := h.cell 0 _ rfl;rw [h0] at q;exact q
 have k6 : w.cell? ⟨b,o + 6,none⟩ = some (.int .i64 x.c.place) := h.cell 6 _ rfl
 have k7 : w.cell? ⟨b,o + 7,none⟩ = some (.int .i64 x.c.entry) := h.cell 7 _ rfl
 have HRW : Hid (rawVars x.c = [x.c.place,x.c.entry]) := by unfold Hid rawVars;rw [if_neg (by omega),if_neg (by omega),if_pos h0]
 have HN0 : Hid (∀ W : World,W.ownsRow w.heap.size 3 1 (.slice none 0 0) 0 []) := fun W => World.ownsRow_nil _ _ _ _
 have HNE : Hid (rawVars x.c ≠ []) := raw_ne hok
 have HLE : Hid ((rawVars x.c).length ≤ 1000) := Nat.le_trans (raw_len hok) (by omega)
 have HN1 : Hid (sortP (rawVars x.c) ≠ []) := fun e => HNE.out (by have := sortP_len (rawVars x.c);rw [e] at this;exact List.length_eq_zero_iff.1 this.symm)
 have hlt := h.lt
 obtain ⟨i0,hi0,hz0,hz1,hz2⟩ := info_parts infoI64
 clear h hok h0
 go_enter Tryz.func84,Tryz.ntmps84
 go_wp2
 go_region_law ((refine step_append_lies _ (by rfl) _ _ 33 (by rfl) w.heap.size 3 i0 (.int .i64 0) 1 8 Tryz.underlying33 hi0 hz0 hz1 hz2 rfl (by decide) (.slice none 0 0) 0 [] (by rfl) (HN0.out _) ⟨w.heap.size,0,none⟩ 2 2 [.int .i64 x.c.place,.int .i64 x.c.entry] (by rfl) rfl (World.news_of_block (cs := #[.int .i64 x.c.place,.int .i64 x.c.entry]) (t := 3) (fr := (0,0)) (heap_alloc_new w.drew _)) (by intro u hu;simp at hu;rcases hu with rfl | rfl <;> rfl) (by decide) (by unfold maxLen;omega) (by omega) (by simp) _ rfl ?_;intro gA capA wA hownA hgrowA hatA hltA))
 all_goals
  have hgr : w.grownBy wA none := ((grown_drew' _ _).trans (World.grownBy_alloc _ _ _)).trans hgrowA
  have hown : wA.ownsRow w.heap.size 3 1 (.slice (some ⟨gA,0,none⟩) 2 capA) (rawVars x.c).length ((rawVars x.c).map (Value.int .i64)) := by
   rw [HRW.out]
   exact hownA
  clear hownA hgrowA
  have HOWN := hide hown
  have HGR := hide hgr
  clear hown hgr
  go_wp2_with (first | (go_at_call 128;refine (sl_compact hown1 HN1.out (by rw [sortP_len];exact HLE.out)).mono ?_;rintro e w2 ⟨g,cap,rfl,hown2,hg2⟩) | (go_at_call 127;refine (sl_sort HOWN.out HNE.out HLE.out).mono ?_;rintro e w1 ⟨rfl,hown1,hg1⟩))
  go_ret
  exact ⟨g,cap,rfl,hown2,grown_own (grown_own HGR.out HOWN.out (Nat.le_refl _) hg1) hown1 (Nat.le_refl _) hg2⟩
theorem pv_Variables {b o B n : Nat} {x : CRow} {t : Int → Prop} (h : ConIn w b o B x) (hok : ConOk n t x.c) : Calls Tryz.prog 84 #[.pointer (some ⟨b,o,none⟩)] w (VarPost w x.c) := by
 rcases hok.sort with e | e | e | e | e
 ·exact vr_lin h hok e
 ·exact vr_when h hok e
 ·exact vr_at h hok e
 ·exact vr_diff h hok e
 ·exact vr_or h hok e
end
end Go.Proofs.YthpcbbnabnlanaaGreatDoor
