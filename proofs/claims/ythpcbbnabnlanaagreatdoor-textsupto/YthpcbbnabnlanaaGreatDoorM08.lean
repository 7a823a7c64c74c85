import Derived.Test.YthpcbbnabnlanaaGreatDoorM07
import Derived.Deep.QuietTactic
import Derived.BigQuiet
import Derived.Deep.RegionHeld3
import Derived.Deep.RegionLaw
import Derived.Deep.DeepMust
import Derived.Deep.LoopGhost
namespace Go.Proofs.YthpcbbnabnlanaaGreatDoor
open Go.RowKit
set_option linter.unusedVariables false
set_option linter.unusedSimpArgs false
section
set_option maxHeartbeats 1000000
theorem tokCells_get (l : List PTok) (i : Nat) (t : PTok) (h : l[i]? = some t) : (tokCells l)[i * 4]? = some (.int .i64 (srt t)) ∧ (tokCells l)[i * 4 + 1]? = some (.string t.s) ∧ (tokCells l)[i * 4 + 2]? = some (.int .i64 (tval t)) ∧ (tokCells l)[i * 4 + 3]? = some (.int .i64 t.line) := by
 induction l generalizing i with
 | nil => simp at h
 | cons a l ih =>
  cases i with
  | zero => simp at h;subst h;simp [tokCells,tokCell]
  | succ i =>
   have e : tokCells (a :: l) = [.int .i64 (srt a),.string a.s,.int .i64 (tval a),.int .i64 a.line] ++ tokCells l := rfl
   have h3 := ih i (by simpa using h)
   have e1 : (i + 1) * 4 = i * 4 + 4 := by omega
   rw [e,e1]
   refine ⟨?_,?_,?_,?_⟩
   ·rw [List.getElem?_append_right (by simp)];simpa using h3.1
   ·rw [List.getElem?_append_right (by simp)];have := h3.2.1;simpa [show i * 4 + 4 + 1 - 4 = i * 4 + 1 by omega] using this
   ·rw [List.getElem?_append_right (by simp)];have := h3.2.2.1;simpa [show i * 4 + 4 + 2 - 4 = i * 4 + 2 by omega] using this
   ·rw [List.getElem?_append_right (by simp)];have := h3.2.2.2;simpa [show i * 4 + 4 + 3 - 4 = i * 4 + 3 by omega] using this
structure Ps (w : World) (bp gt capt : Nat) (toks : List PTok) (st : PSt) : Prop where
 c0 : w.cell? ⟨bp,0,none⟩ = some (.slice (some ⟨gt,0,none⟩) toks.length capt)
 c1 : w.cell? ⟨bp,1,none⟩ = some (.int .i64 st.1)
 c2 : w.cell? ⟨bp,2,none⟩ = some (.int .i64 st.2)
 f1 : w.frozen? ⟨bp,1,none⟩ = false
 f2 : w.frozen? ⟨bp,2,none⟩ = false
 lt : bp < w.heap.size
 row : ∀ j u,(tokCells toks)[j]? = some u → w.cell? ⟨gt,j,none⟩ = some u
 ltg : gt < w.heap.size
 ne : gt ≠ bp
variable {w w' : World} {bp gt capt : Nat} {toks : List PTok} {st : PSt}
theorem Ps.kept (h : Ps w bp gt capt toks st) {row : Option Nat} (hg : w.grownBy w' row) (h1 : row ≠ some bp) (h2 : row ≠ some gt) : Ps w' bp gt capt toks st where
 c0 := hg.cell h.c0 (fun e => h1 e.symm)
 c1 := hg.cell h.c1 (fun e => h1 e.symm)
 c2 := hg.cell h.c2 (fun e => h1 e.symm)
 f1 := (World.frozen?_of_block (a := ⟨bp,1,none⟩) (hg.block bp h.lt (fun e => h1 e.symm))).trans h.f1
 f2 := (World.frozen?_of_block (a := ⟨bp,2,none⟩) (hg.block bp h.lt (fun e => h1 e.symm))).trans h.f2
 lt := Nat.lt_of_lt_of_le h.lt hg.size
 row := fun j u hu => hg.cell (h.row j u hu) (fun e => h2 e.symm)
 ltg := Nat.lt_of_lt_of_le h.ltg hg.size
 ne := h.ne
theorem Ps.alloc (h : Ps w bp gt capt toks st) (o : Obj) : Ps (w.alloc o) bp gt capt toks st := h.kept (World.grownBy_alloc w o none) (by simp) (by simp)
theorem Ps.drew (h : Ps w bp gt capt toks st) : Ps w.drew bp gt capt toks st := h.kept (grown_drew' w none) (by simp) (by simp)
theorem Ps.drewN (h : Ps w bp gt capt toks st) (n : Nat) : Ps (w.drewN n) bp gt capt toks st := h.kept (grown_drewN' w n none) (by simp) (by simp)
theorem cell_set_other (w : World) (b o : Nat) (u : Value) (b' o' : Nat) (h : ¬ (b' = b ∧ o' = o)) : (w.setCell ⟨b,o,none⟩ u).cell? ⟨b',o',none⟩ = w.cell? ⟨b',o',none⟩ := by
 by_cases hb : b' = b
 ·subst hb
  have ho : o' ≠ o := fun e => h ⟨rfl,e⟩
  unfold World.cell? World.setCell
  simp only [Array.getElem?_modify,if_true]
  cases hq : w.heap[b']? with
  | none => simp
  | some ob => cases ob <;> simp [Ne.symm ho]
 ·exact World.cell?_of_block (Below.heap_setCell _ _ _ _ hb)
theorem cell_set_same (w : World) (b o : Nat) (u v : Value) (h : w.cell? ⟨b,o,none⟩ = some v) : (w.setCell ⟨b,o,none⟩ u).cell? ⟨b,o,none⟩ = some u := by
 unfold World.cell? at h ⊢
 unfold World.setCell
 simp only [Array.getElem?_modify,if_true]
 cases hq : w.heap[b]? with
 | none => rw [hq] at h;simp at h
 | some ob =>
  rw [hq] at h
  cases ob with
  | cells c e f =>
   simp only [Option.isSome_none,Bool.false_eq_true,if_false] at h
   have hlt : o < c.size := by
    rcases Nat.lt_or_ge o c.size with q | q
    ·exact q
    ·simp [q] at h
   simp [hlt]
  | _ => simp at h
theorem frozen_set (w : World) (b o : Nat) (u : Value) (b' o' : Nat) : (w.setCell ⟨b,o,none⟩ u).frozen? ⟨b',o',none⟩ = w.frozen? ⟨b',o',none⟩ := by
 by_cases hb : b' = b
 ·subst hb
  unfold World.frozen? World.setCell
  simp only [Array.getElem?_modify,if_true]
  cases hq : w.heap[b']? with
  | none => simp
  | some ob => cases ob <;> simp
 ·exact World.frozen?_of_block (Below.heap_setCell _ _ _ _ hb)
theorem Ps.setI (h : Ps w bp gt capt toks st) (j : Nat) : Ps (w.setCell ⟨bp,1,none⟩ (.int .i64 j)) bp gt capt toks (j,st.2) where
 c0 := (cell_set_other _ _ _ _ _ _ (by simp)).trans h.c0
 c1 := cell_set_same _ _ _ _ _ h.c1
 c2 := (cell_set_other _ _ _ _ _ _ (by simp)).trans h.c2
 f1 := (frozen_set _ _ _ _ _ _).trans h.f1
 f2 := (frozen_set _ _ _ _ _ _).trans h.f2
 lt := Nat.lt_of_lt_of_le h.lt (grown_set _ _ _ _).size
 row := fun j u hu => (cell_set_other _ _ _ _ _ _ (fun e => h.ne e.1)).trans (h.row j u hu)
 ltg := Nat.lt_of_lt_of_le h.ltg (grown_set _ _ _ _).size
 ne := h.ne
theorem Ps.setF (h : Ps w bp gt capt toks st) (l : Int) : Ps (w.setCell ⟨bp,2,none⟩ (.int .i64 l)) bp gt capt toks (st.1,l) where
 c0 := (cell_set_other _ _ _ _ _ _ (by simp)).trans h.c0
 c1 := (cell_set_other _ _ _ _ _ _ (by simp)).trans h.c1
 c2 := cell_set_same _ _ _ _ _ h.c2
 f1 := (frozen_set _ _ _ _ _ _).trans h.f1
 f2 := (frozen_set _ _ _ _ _ _).trans h.f2
 lt := Nat.lt_of_lt_of_le h.lt (grown_set _ _ _ _).size
 row := fun j u hu => (cell_set_other _ _ _ _ _ _ (fun e => h.ne e.1)).trans (h.row j u hu)
 ltg := Nat.lt_of_lt_of_le h.ltg (grown_set _ _ _ _).size
 ne := h.ne
def indexI : List Int → Int → Nat → Int
 | [],_,_ => -1
 | a :: l,x,k => if x == a then (k : Int) else indexI l x (k + 1)
theorem indexI_has (l : List Int) (x : Int) : ∀ k : Nat,(0 ≤ indexI l x k) ↔ l.contains x = true := by
 induction l with
 | nil => intro k;simp [indexI]
 | cons a l ih =>
  intro k
  have e : indexI (a :: l) x k = if x == a then (k : Int) else indexI l x (k + 1) := rfl
  rw [e,List.contains_cons]
  by_cases h : (x == a) = true
  ·rw [if_pos h,h];simp
  ·rw [if_neg h,ih (k + 1)];simp at h;simp [h]
theorem gr_Index (l : List Int) (x : Int) (g cap : Nat) (w : World) (hl : l.length ≤ 100) (hrow : ∀ j a,l[j]? = some a → w.cell? ⟨g,j,none⟩ = some (.int .i64 a)) : Calls Tryz.prog 148 #[.slice (some ⟨g,0,none⟩) l.length cap,.int .i64 x] w fun e w' => e = .returned (.int .i64 (indexI l x 0)) ∧ w' = w := by
 have HR : Hid (∀ j a,l[j]? = some a → w.cell? ⟨g,j,none⟩ = some (.int .i64 a)) := hrow
 clear hrow
 go_enter Tryz.func148,Tryz.ntmps148
 go_wp2
 go_loop [8] (fun v => ∃ k : Nat,k ≤ l.length ∧ v = .int .i64 k ∧ Hid (indexI (l.drop k) x k = indexI l x 0)) (fun v => l.length - (intOf v).toNat)
 case atStart => exact ⟨0,by omega,rfl,rfl⟩
 case round =>
  obtain ⟨k,hk,rfl,hx⟩ := hrel
  by_cases hlt : k < l.length
  ·have hc : w.cell? ⟨g,k,none⟩ = some (.int .i64 l[k]) := HR.out k _ (by simp [hlt])
   have hx2 := hx.out
   rw [List.drop_eq_getElem_cons hlt] at hx2
   simp only [indexI] at hx2
   by_cases e : (x == l[k]) = true
   ·have he : Hid (indexI l x 0 = k) := by rw [← hx2,if_pos e];trivial
    clear hx hx2
    go_wp2
    go_ret
    exact ⟨ret_int he.out.symm,rfl⟩
   ·have e' : (x == l[k]) = false := by simpa using e
    have he : Hid (indexI (l.drop (k + 1)) x (k + 1) = indexI l x 0) := by rw [← hx2,if_neg e];trivial
    clear hx hx2 e
    go_wp2
    go_round
    case rel => exact ⟨k + 1,by omega,by go_num,he⟩
    case measure => simp [intOf];omega
  ·obtain rfl : k = l.length := by omega
   have he : Hid (indexI l x 0 = -1) := by rw [← hx.out,List.drop_of_length_le (Nat.le_refl _)];rfl
   clear hx
   go_wp2
   go_ret
   exact ⟨ret_int he.out.symm,rfl⟩
theorem gr_Contains (l : List Int) (x : Int) (g cap : Nat) (w : World) (hl : l.length ≤ 100) (hrow : ∀ j a,l[j]? = some a → w.cell? ⟨g,j,none⟩ = some (.int .i64 a)) : Calls Tryz.prog 120 #[.slice (some ⟨g,0,none⟩) l.length cap,.int .i64 x] w fun e w' => e = .returned (.bool (l.contains x)) ∧ w' = w := by
 have HR : Hid (∀ j a,l[j]? = some a → w.cell? ⟨g,j,none⟩ = some (.int .i64 a)) := hrow
 have hh := indexI_has l x 0
 clear hrow
 cases hc : l.contains x with
 | true =>
  have h0 : 0 ≤ indexI l x 0 := hh.2 hc
  clear hh hc
  go_enter Tryz.func120,Tryz.ntmps120
  go_wp2_with (go_at_call 148;refine (gr_Index l x g cap _ hl HR.out).mono ?_;rintro e w' ⟨rfl,hww⟩;subst w')
  go_ret
  exact ⟨ret_bool (by simp),rfl⟩
 | false =>
  have h0 : indexI l x 0 < 0 := by
   rcases Int.lt_or_le (indexI l x 0) 0 with q | q
   ·exact q
   ·rw [hh.1 q] at hc;exact absurd hc (by simp)
  clear hh hc
  go_enter Tryz.func120,Tryz.ntmps120
  go_wp2_with (go_at_call 148;refine (gr_Index l x g cap _ hl HR.out).mono ?_;rintro e w' ⟨rfl,hww⟩;subst w')
  go_ret
  exact ⟨ret_bool (by simpa using h0),rfl⟩
end
section
set_option maxHeartbeats 2000000
set_option maxRecDepth 100000
theorem heap_alloc2_old' (w : World) (A B : Obj) (k : Nat) (hk : k = w.heap.size) : ((w.alloc A).alloc B).heap[k]? = some A := by rw [hk];exact heap_alloc2_old w A B
variable {w w' : World} {bp gt capt : Nat} {toks : List PTok} {st : PSt}
theorem Ps.tok (h : Ps w bp gt capt toks st) {i : Nat} (hi : i < toks.length) : w.cell? ⟨gt,i * 4,none⟩ = some (.int .i64 (srt (tkN toks i))) ∧ w.cell? ⟨gt,i * 4 + 1,none⟩ = some (.string (tkN toks i).s) ∧ w.cell? ⟨gt,i * 4 + 2,none⟩ = some (.int .i64 (tval (tkN toks i))) ∧ w.cell? ⟨gt,i * 4 + 3,none⟩ = some (.int .i64 (tkN toks i).line) := by
 obtain ⟨a,b,c,d⟩ := tokCells_get toks i _ (tkN_get hi)
 exact ⟨h.row _ _ a,h.row _ _ b,h.row _ _ c,h.row _ _ d⟩
theorem gr_sees (h : Ps w bp gt capt toks st) (hn : toks.length ≤ 2001) (hi : st.1 < toks.length) (sort : Int) : Calls Tryz.prog 67 #[.pointer (some ⟨bp,0,none⟩),.int .i64 sort] w fun e w' => e = .returned (.bool (pSees toks sort st)) ∧ w.grownBy w' none := by
 obtain ⟨i,fl⟩ := st
 obtain ⟨t0,_,_,_⟩ := h.tok hi
 obtain ⟨c0,c1,c2,_,_,_,_,_,_⟩ := h
 simp only at c1 c2 hi t0
 obtain ⟨S,hS⟩ : ∃ S,S = srt (tkN toks i) := ⟨_,rfl⟩
 rw [← hS] at t0
 have hlt' : (i : Int) < toks.length := by omega
 have h0 : (0 : Int) ≤ (i : Int) := by omega
 by_cases hf : fl = 0
 ·have hb : (fl == 0) = true := by simpa using hf
  have hp : Hid (pSees toks sort (i,fl) = (S == sort)) := by unfold Hid pSees;rw [hS];simp [hf]
  clear hS hf
  go_enter Tryz.func67,Tryz.ntmps67
  go_wp2
  go_quiet (fail)
  go_wp2
  go_ret
  exact ⟨by rw [hp.out];rfl,grown_drewN' _ _ _⟩
 ·have hb : (fl == 0) = false := by simpa using hf
  have hp : Hid (pSees toks sort (i,fl) = false) := by unfold Hid pSees;simp [hf]
  clear hS hf
  go_enter Tryz.func67,Tryz.ntmps67
  go_wp2
  go_quiet (fail)
  go_wp2
  go_ret
  exact ⟨by rw [hp.out];rfl,grown_drewN' _ _ _⟩
def tkV (t : PTok) : Value := .agg #[.int .i64 (srt t),.string t.s,.int .i64 (tval t),.int .i64 t.line]
theorem gr_take (h : Ps w bp gt capt toks st) (hn : toks.length ≤ 2001) (hi : st.1 < toks.length) (sorts : List Int) (g cap : Nat) (hl : sorts.length ≤ 100) (hrow : ∀ j a,sorts[j]? = some a → w.cell? ⟨g,j,none⟩ = some (.int .i64 a)) (hgl : g < w.heap.size) : Calls Tryz.prog 69 #[.pointer (some ⟨bp,0,none⟩),.slice (some ⟨g,0,none⟩) sorts.length cap] w fun e w' => e = .returned (tkV (tkN toks st.1)) ∧ w.grownBy w' (some bp) ∧ Ps w' bp gt capt toks (pTake toks sorts st) := by
 obtain ⟨i,fl⟩ := st
 have HP : Hid (Ps w bp gt capt toks (i,fl)) := h
 obtain ⟨t0,t1,t2,t3⟩ := h.tok hi
 obtain ⟨c0,c1,c2,f1,f2,_,_,_,_⟩ := h
 simp only at c1 c2 hi t0 t1 t2 t3 ⊢
 have HR : Hid (∀ j a,sorts[j]? = some a → w.cell? ⟨g,j,none⟩ = some (.int .i64 a)) := hrow
 clear hrow
 have HT : Hid (pTake toks sorts (i,fl) = if fl = 0 then (if sorts.contains (srt (tkN toks i)) then (i + 1,0) else (i,((tkN toks i).line : Int))) else (i,fl)) := rfl
 obtain ⟨T,hT⟩ : ∃ T,T = tkN toks i := ⟨_,rfl⟩
 rw [← hT] at t0 t1 t2 t3 HT ⊢
 clear hT
 have hlt' : (i : Int) < toks.length := by omega
 have h0 : (0 : Int) ≤ (i : Int) := by omega
 go_enter Tryz.func69,Tryz.ntmps69
 go_wp2
 go_region_held3 (fun w' => w'.cell? ⟨bp,0,none⟩ = some (.slice (some ⟨gt,0,none⟩) toks.length capt) ∧ w'.cell? ⟨bp,1,none⟩ = some (.int .i64 i) ∧ w'.cell? ⟨gt,i * 4,none⟩ = some (.int .i64 (srt T)) ∧ w'.cell? ⟨gt,i * 4 + 1,none⟩ = some (.string T.s) ∧ w'.cell? ⟨gt,i * 4 + 2,none⟩ = some (.int .i64 (tval T)) ∧ w'.cell? ⟨gt,i * 4 + 3,none⟩ = some (.int .i64 T.line)) (go_keep) (fail)
 by_cases hf : fl = 0
 ·subst hf
  by_cases hc : sorts.contains (srt T) = true
  ·have hT : Hid (pTake toks sorts (i,0) = (i + 1,0)) := by rw [Hid,HT.out,if_pos rfl,if_pos hc]
   go_wp2_with (go_at_call 120;refine (gr_Contains sorts (srt T) g cap _ hl (fun j a ha => (((World.grownBy_alloc w _ none).trans (World.grownBy_alloc _ _ none)).trans (grown_drew' _ none)).cell (HR.out j a ha) (by simp))).mono ?_;rw [hc];rintro e w' ⟨rfl,hww⟩;subst w')
   refine bodyPost_ret (results_cell_row rfl _ _ w.heap.size 129 _ _ _ rfl (by exact heap_alloc2_old' _ _ _ _ (by simp)) Tryz.underlying129 rfl (by kernel_rfl)) rfl ?_
   rw [hT.out]
   exact ⟨rfl,(((grown_set w bp 1 _).trans (World.grownBy_alloc _ _ _)).trans (World.grownBy_alloc _ _ _)).trans (grown_drew' _ _),(((HP.out.setI (i + 1)).alloc _).alloc _).drew⟩
  ·have hc' : sorts.contains (srt T) = false := by simpa using hc
   have hT : Hid (pTake toks sorts (i,0) = (i,(T.line : Int))) := by rw [Hid,HT.out,if_pos rfl,if_neg hc]
   go_wp2_with (go_at_call 120;refine (gr_Contains sorts (srt T) g cap _ hl (fun j a ha => (((World.grownBy_alloc w _ none).trans (World.grownBy_alloc _ _ none)).trans (grown_drew' _ none)).cell (HR.out j a ha) (by simp))).mono ?_;rw [hc'];rintro e w' ⟨rfl,hww⟩;subst w')
   refine bodyPost_ret (results_cell_row rfl _ _ w.heap.size 129 _ _ _ rfl (by exact heap_alloc2_old' _ _ _ _ (by simp)) Tryz.underlying129 rfl (by kernel_rfl)) rfl ?_
   rw [hT.out]
   exact ⟨rfl,(((grown_set w bp 2 _).trans (World.grownBy_alloc _ _ _)).trans (World.grownBy_alloc _ _ _)).trans (grown_drew' _ _),(((HP.out.setF _).alloc _).alloc _).drew⟩
 ·have hf' : (fl != 0) = true := by simpa using hf
  have hT : Hid (pTake toks sorts (i,fl) = (i,fl)) := by rw [Hid,HT.out,if_neg hf]
  go_wp2
  refine bodyPost_ret (results_cell_row rfl _ _ w.heap.size 129 _ _ _ rfl (by exact heap_alloc2_old' _ _ _ _ (by simp)) Tryz.underlying129 rfl (by kernel_rfl)) rfl ?_
  rw [hT.out]
  exact ⟨rfl,((World.grownBy_alloc w _ _).trans (World.grownBy_alloc _ _ _)).trans (grown_drew' _ _),((HP.out.alloc _).alloc _).drew⟩
end
section
set_option maxHeartbeats 1000000
set_option maxRecDepth 100000
theorem row_new {w : World} {b : Nat} (l : List Int) {t : TypeId} (h : w.heap[b]? = some (.cells (l.map (fun x => Value.int .i64 x)).toArray t (0,0))) : ∀ j a,l[j]? = some a → w.cell? ⟨b,j,none⟩ = some (.int .i64 a) := by
 intro j a ha
 exact cell_of h j _ (by simp [ha])
theorem box4 {W w' : World} {b : Nat} {t : TypeId} {row : Option Nat} {a0 a1 a2 a3 : Value} (hB : W.heap[b]? = some (.cells #[a0,a1,a2,a3] t (0,0))) (hb : b < W.heap.size) (hg : W.grownBy w' row) (hne : row ≠ some b) : w'.heap[b]? = some (.cells #[a0,a1,a2,a3] t (0,0)) ∧ w'.cell? ⟨b,0,none⟩ = some a0 ∧ w'.cell? ⟨b,1,none⟩ = some a1 ∧ w'.cell? ⟨b,2,none⟩ = some a2 ∧ w'.cell? ⟨b,3,none⟩ = some a3 ∧
   w'.frozen? ⟨b,0,none⟩ = false ∧ w'.frozen? ⟨b,1,none⟩ = false ∧ w'.frozen? ⟨b,2,none⟩ = false ∧ w'.frozen? ⟨b,3,none⟩ = false := by
 have h := (hg.block b hb (fun e => hne e.symm)).trans hB
 exact ⟨h,cell_of h 0 _ rfl,cell_of h 1 _ rfl,cell_of h 2 _ rfl,cell_of h 3 _ rfl,frozen_of h 0,frozen_of h 1,frozen_of h 2,frozen_of h 3⟩
theorem grown_newr {a b c : World} {k : Nat} {r : Option Nat} (h : a.grownBy b r) (hk : a.heap.size ≤ k) (g : b.grownBy c (some k)) : a.grownBy c r :=
 ⟨g.os.trans h.os,g.tape.trans h.tape,g.output.trans h.output,Nat.le_trans h.size g.size,fun i hi hn =>
  (g.block i (Nat.lt_of_lt_of_le hi h.size) (fun e => by injection e with e;omega)).trans (h.block i hi hn)⟩
variable {w w' : World} {bp gt capt : Nat} {toks : List PTok} {st : PSt}
theorem Ps.new (h : Ps w bp gt capt toks st) {w1 w2 : World} (h1 : Ps w1 bp gt capt toks st) {k : Nat} (hk : w.heap.size ≤ k) (g : w1.grownBy w2 (some k)) : Ps w2 bp gt capt toks st := by
 have := h.lt;have := h.ltg
 exact h1.kept g (by simp;omega) (by simp;omega)
theorem Ps.keptN {S : PSt} (h : Ps w bp gt capt toks S) {w1 w2 : World} {st : PSt} (h1 : Ps w1 bp gt capt toks st) {k : Nat} (hk : w.heap.size ≤ k) (g : w1.grownBy w2 (some k)) : Ps w2 bp gt capt toks st := by
 have := h.lt;have := h.ltg
 exact h1.kept g (by simp;omega) (by simp;omega)
theorem gr_name (h : Ps w bp gt capt toks st) (hn : toks.length ≤ 2001) (hi : st.1 < toks.length) : Calls Tryz.prog 114 #[.pointer (some ⟨bp,0,none⟩)] w fun e w' => e = .returned (tkV (tkN toks st.1)) ∧ w.grownBy w' (some bp) ∧ Ps w' bp gt capt toks (pTake toks [2] st) := by
 have HP : Hid (Ps w bp gt capt toks st) := h
 have hlt := h.lt
 obtain ⟨T,hT⟩ : ∃ T,T = tkN toks st.1 := ⟨_,rfl⟩
 have HT : Hid (T = tkN toks st.1) := hT
 rw [← hT]
 clear h hT
 go_enter Tryz.func114,Tryz.ntmps114
 go_wp2_with (go_at_call 69;refine (gr_take ((HP.out.alloc _).alloc _) hn hi [2] (w.heap.size + 1) 1 (by decide) (row_new [2] (heap_alloc2_new w _ _)) (by simp)).mono ?_;rw [← HT.out];unfold tkV;rintro e w1 ⟨rfl,hg,hP1⟩;obtain ⟨hB,c0,c1,c2,c3,f0,f1,f2,f3⟩ := box4 (heap_alloc2_old w _ _) (by simp;omega) hg (by simp;omega))
 refine bodyPost_ret (results_cell_row rfl _ _ w.heap.size 129 _ _ _ rfl (set4 hB _ _ _ _) Tryz.underlying129 rfl (by kernel_rfl)) rfl ?_
 exact ⟨rfl,grown_newr (((World.grownBy_alloc w _ _).trans (World.grownBy_alloc _ _ _)).trans hg) (Nat.le_refl _) (set4_grown w1 _ _ _ _ _),HP.out.keptN hP1 (Nat.le_refl _) (set4_grown w1 _ _ _ _ _)⟩
theorem gr_number (h : Ps w bp gt capt toks st) (hn : toks.length ≤ 2001) (hi : st.1 < toks.length) : Calls Tryz.prog 115 #[.pointer (some ⟨bp,0,none⟩)] w fun e w' => e = .returned (tkV (tkN toks st.1)) ∧ w.grownBy w' (some bp) ∧ Ps w' bp gt capt toks (pTake toks [3] st) := by
 have HP : Hid (Ps w bp gt capt toks st) := h
 have hlt := h.lt
 obtain ⟨T,hT⟩ : ∃ T,T = tkN toks st.1 := ⟨_,rfl⟩
 have HT : Hid (T = tkN toks st.1) := hT
 rw [← hT]
 clear h hT
 go_enter Tryz.func115,Tryz.ntmps115
 go_wp2_with (go_at_call 69;refine (gr_take ((HP.out.alloc _).alloc _) hn hi [3] (w.heap.size + 1) 1 (by decide) (row_new [3] (heap_alloc2_new w _ _)) (by simp)).mono ?_;rw [← HT.out];unfold tkV;rintro e w1 ⟨rfl,hg,hP1⟩;obtain ⟨hB,c0,c1,c2,c3,f0,f1,f2,f3⟩ := box4 (heap_alloc2_old w _ _) (by simp;omega) hg (by simp;omega))
 refine bodyPost_ret (results_cell_row rfl _ _ w.heap.size 129 _ _ _ rfl (set4 hB _ _ _ _) Tryz.underlying129 rfl (by kernel_rfl)) rfl ?_
 exact ⟨rfl,grown_newr (((World.grownBy_alloc w _ _).trans (World.grownBy_alloc _ _ _)).trans hg) (Nat.le_refl _) (set4_grown w1 _ _ _ _ _),HP.out.keptN hP1 (Nat.le_refl _) (set4_grown w1 _ _ _ _ _)⟩
end
section
theorem set_at {w : World} {b : Nat} {cs cs' : Array Value} {t : TypeId} (h : w.heap[b]? = some (.cells cs t (0,0))) (i : Nat) (v : Value) (e : cs.setIfInBounds i v = cs') : (w.setCell ⟨b,i,none⟩ v).heap[b]? = some (.cells cs' t (0,0)) := by
 rw [← e];exact heap_setCell_same w b i cs t v h
theorem set8 {w : World} {b : Nat} {t : TypeId} {a0 a1 a2 a3 a4 a5 a6 a7 : Value} (h : w.heap[b]? = some (.cells #[a0,a1,a2,a3,a4,a5,a6,a7] t (0,0))) (v0 v1 v2 v3 v4 v5 v6 v7 : Value) : ((((((((w.setCell ⟨b,0,none⟩ v0).setCell ⟨b,1,none⟩ v1).setCell ⟨b,2,none⟩ v2).setCell ⟨b,3,none⟩ v3).setCell ⟨b,4,none⟩ v4).setCell ⟨b,5,none⟩ v5).setCell ⟨b,6,none⟩ v6).setCell ⟨b,7,none⟩ v7).heap[b]? = some (.cells #[v0,v1,v2,v3,v4,v5,v6,v7] t (0,0)) := by
 have h1 := set_at h 0 v0 (cs' := #[v0,a1,a2,a3,a4,a5,a6,a7]) rfl
 have h2 := set_at h1 1 v1 (cs' := #[v0,v1,a2,a3,a4,a5,a6,a7]) rfl
 have h3 := set_at h2 2 v2 (cs' := #[v0,v1,v2,a3,a4,a5,a6,a7]) rfl
 have h4 := set_at h3 3 v3 (cs' := #[v0,v1,v2,v3,a4,a5,a6,a7]) rfl
 have h5 := set_at h4 4 v4 (cs' := #[v0,v1,v2,v3,v4,a5,a6,a7]) rfl
 have h6 := set_at h5 5 v5 (cs' := #[v0,v1,v2,v3,v4,v5,a6,a7]) rfl
 have h7 := set_at h6 6 v6 (cs' := #[v0,v1,v2,v3,v4,v5,v6,a7]) rfl
 have h8 := set_at h7 7 v7 (cs' := #[v0,v1,v2,v3,v4,v5,v6,v7]) rfl
 exact h8
theorem set8_grown (w : World) (b : Nat) (v0 v1 v2 v3 v4 v5 v6 v7 : Value) : w.grownBy ((((((((w.setCell ⟨b,0,none⟩ v0).setCell ⟨b,1,none⟩ v1).setCell ⟨b,2,none⟩ v2).setCell ⟨b,3,none⟩ v3).setCell ⟨b,4,none⟩ v4).setCell ⟨b,5,none⟩ v5).setCell ⟨b,6,none⟩ v6).setCell ⟨b,7,none⟩ v7) (some b) :=
 (((((((grown_set w b 0 v0).trans (grown_set _ b 1 v1)).trans (grown_set _ b 2 v2)).trans (grown_set _ b 3 v3)).trans (grown_set _ b 4 v4)).trans (grown_set _ b 5 v5)).trans (grown_set _ b 6 v6)).trans (grown_set _ b 7 v7)
theorem box9 {W w' : World} {b : Nat} {t : TypeId} {row : Option Nat} {a0 a1 a2 a3 a4 a5 a6 a7 a8 : Value} (hB : W.heap[b]? = some (.cells #[a0,a1,a2,a3,a4,a5,a6,a7,a8] t (0,0))) (hb : b < W.heap.size) (hg : W.grownBy w' row) (hne : row ≠ some b) : w'.heap[b]? = some (.cells #[a0,a1,a2,a3,a4,a5,a6,a7,a8] t (0,0)) ∧ w'.cell? ⟨b,0,none⟩ = some a0 ∧ w'.cell? ⟨b,1,none⟩ = some a1 ∧ w'.cell? ⟨b,2,none⟩ = some a2 ∧ w'.cell? ⟨b,3,none⟩ = some a3 ∧ w'.cell? ⟨b,4,none⟩ = some a4 ∧ w'.cell? ⟨b,5,none⟩ = some a5 ∧ w'.cell? ⟨b,6,none⟩ = some a6 ∧ w'.cell? ⟨b,7,none⟩ = some a7 ∧ w'.cell? ⟨b,8,none⟩ = some a8 ∧
   w'.frozen? ⟨b,0,none⟩ = false ∧ w'.frozen? ⟨b,1,none⟩ = false ∧ w'.frozen? ⟨b,2,none⟩ = false ∧ w'.frozen? ⟨b,3,none⟩ = false ∧ w'.frozen? ⟨b,4,none⟩ = false ∧ w'.frozen? ⟨b,5,none⟩ = false ∧ w'.frozen? ⟨b,6,none⟩ = false ∧ w'.frozen? ⟨b,7,none⟩ = false ∧ w'.frozen? ⟨b,8,none⟩ = false := by
 have h := (hg.block b hb (fun e => hne e.symm)).trans hB
 exact ⟨h,cell_of h 0 _ rfl,cell_of h 1 _ rfl,cell_of h 2 _ rfl,cell_of h 3 _ rfl,cell_of h 4 _ rfl,cell_of h 5 _ rfl,cell_of h 6 _ rfl,cell_of h 7 _ rfl,cell_of h 8 _ rfl,frozen_of h 0,frozen_of h 1,frozen_of h 2,frozen_of h 3,frozen_of h 4,frozen_of h 5,frozen_of h 6,frozen_of h 7,frozen_of h 8⟩
theorem set9 {w : World} {b : Nat} {t : TypeId} {a0 a1 a2 a3 a4 a5 a6 a7 a8 : Value} (h : w.heap[b]? = some (.cells #[a0,a1,a2,a3,a4,a5,a6,a7,a8] t (0,0))) (v0 v1 v2 v3 v4 v5 v6 v7 v8 : Value) : (((((((((w.setCell ⟨b,0,none⟩ v0).setCell ⟨b,1,none⟩ v1).setCell ⟨b,2,none⟩ v2).setCell ⟨b,3,none⟩ v3).setCell ⟨b,4,none⟩ v4).setCell ⟨b,5,none⟩ v5).setCell ⟨b,6,none⟩ v6).setCell ⟨b,7,none⟩ v7).setCell ⟨b,8,none⟩ v8).heap[b]? = some (.cells #[v0,v1,v2,v3,v4,v5,v6,v7,v8] t (0,0)) := by
 have h1 := set_at h 0 v0 (cs' := #[v0,a1,a2,a3,a4,a5,a6,a7,a8]) rfl
 have h2 := set_at h1 1 v1 (cs' := #[v0,v1,a2,a3,a4,a5,a6,a7,a8]) rfl
 have h3 := set_at h2 2 v2 (cs' := #[v0,v1,v2,a3,a4,a5,a6,a7,a8]) rfl
 have h4 := set_at h3 3 v3 (cs' := #[v0,v1,v2,v3,a4,a5,a6,a7,a8]) rfl
 have h5 := set_at h4 4 v4 (cs' := #[v0,v1,v2,v3,v4,a5,a6,a7,a8]) rfl
 have h6 := set_at h5 5 v5 (cs' := #[v0,v1,v2,v3,v4,v5,a6,a7,a8]) rfl
 have h7 := set_at h6 6 v6 (cs' := #[v0,v1,v2,v3,v4,v5,v6,a7,a8]) rfl
 have h8 := set_at h7 7 v7 (cs' := #[v0,v1,v2,v3,v4,v5,v6,v7,a8]) rfl
 have h9 := set_at h8 8 v8 (cs' := #[v0,v1,v2,v3,v4,v5,v6,v7,v8]) rfl
 exact h9
theorem set9_grown (w : World) (b : Nat) (v0 v1 v2 v3 v4 v5 v6 v7 v8 : Value) : w.grownBy (((((((((w.setCell ⟨b,0,none⟩ v0).setCell ⟨b,1,none⟩ v1).setCell ⟨b,2,none⟩ v2).setCell ⟨b,3,none⟩ v3).setCell ⟨b,4,none⟩ v4).setCell ⟨b,5,none⟩ v5).setCell ⟨b,6,none⟩ v6).setCell ⟨b,7,none⟩ v7).setCell ⟨b,8,none⟩ v8) (some b) :=
 ((((((((grown_set w b 0 v0).trans (grown_set _ b 1 v1)).trans (grown_set _ b 2 v2)).trans (grown_set _ b 3 v3)).trans (grown_set _ b 4 v4)).trans (grown_set _ b 5 v5)).trans (grown_set _ b 6 v6)).trans (grown_set _ b 7 v7)).trans (grown_set _ b 8 v8)
theorem set16 {w : World} {b : Nat} {t : TypeId} {a0 a1 a2 a3 a4 a5 a6 a7 a8 a9 a10 a11 a12 a13 a14 a15 : Value} (h : w.heap[b]? = some (.cells #[a0,a1,a2,a3,a4,a5,a6,a7,a8,a9,a10,a11,a12,a13,a14,a15] t (0,0))) (v0 v1 v2 v3 v4 v5 v6 v7 v8 v9 v10 v11 v12 v13 v14 v15 : Value) : ((((((((((((((((w.setCell ⟨b,0,none⟩ v0).setCell ⟨b,1,none⟩ v1).setCell ⟨b,2,none⟩ v2).setCell ⟨b,3,none⟩ v3).setCell ⟨b,4,none⟩ v4).setCell ⟨b,5,none⟩ v5).setCell ⟨b,6,none⟩ v6).setCell ⟨b,7,none⟩ v7).setCell ⟨b,8,none⟩ v8).setCell ⟨b,9,none⟩ v9).setCell ⟨b,10,none⟩ v10).setCell ⟨b,11,none⟩ v11).setCell ⟨b,12,none⟩ v12).setCell ⟨b,13,none⟩ v13).setCell ⟨b,14,none⟩ v14).setCell ⟨b,15,none⟩ v15).heap[b]? = some (.cells #[v0,v1,v2,v3,v4,v5,v6,v7,v8,v9,v10,v11,v12,v13,v14,v15] t (0,0)) := by
 have h1 := set_at h 0 v0 (cs' := #[v0,a1,a2,a3,a4,a5,a6,a7,a8,a9,a10,a11,a12,a13,a14,a15]) rfl
 have h2 := set_at h1 1 v1 (cs' := #[v0,v1,a2,a3,a4,a5,a6,a7,a8,a9,a10,a11,a12,a13,a14,a15]) rfl
 have h3 := set_at h2 2 v2 (cs' := #[v0,v1,v2,a3,a4,a5,a6,a7,a8,a9,a10,a11,a12,a13,a14,a15]) rfl
 have h4 := set_at h3 3 v3 (cs' := #[v0,v1,v2,v3,a4,a5,a6,a7,a8,a9,a10,a11,a12,a13,a14,a15]) rfl
 have h5 := set_at h4 4 v4 (cs' := #[v0,v1,v2,v3,v4,a5,a6,a7,a8,a9,a10,a11,a12,a13,a14,a15]) rfl
 have h6 := set_at h5 5 v5 (cs' := #[v0,v1,v2,v3,v4,v5,a6,a7,a8,a9,a10,a11,a12,a13,a14,a15]) rfl
 have h7 := set_at h6 6 v6 (cs' := #[v0,v1,v2,v3,v4,v5,v6,a7,a8,a9,a10,a11,a12,a13,a14,a15]) rfl
 have h8 := set_at h7 7 v7 (cs' := #[v0,v1,v2,v3,v4,v5,v6,v7,a8,a9,a10,a11,a12,a13,a14,a15]) rfl
 have h9 := set_at h8 8 v8 (cs' := #[v0,v1,v2,v3,v4,v5,v6,v7,v8,a9,a10,a11,a12,a13,a14,a15]) rfl
 have h10 := set_at h9 9 v9 (cs' := #[v0,v1,v2,v3,v4,v5,v6,v7,v8,v9,a10,a11,a12,a13,a14,a15]) rfl
 have h11 := set_at h10 10 v10 (cs' := #[v0,v1,v2,v3,v4,v5,v6,v7,v8,v9,v10,a11,a12,a13,a14,a15]) rfl
 have h12 := set_at h11 11 v11 (cs' := #[v0,v1,v2,v3,v4,v5,v6,v7,v8,v9,v10,v11,a12,a13,a14,a15]) rfl
 have h13 := set_at h12 12 v12 (cs' := #[v0,v1,v2,v3,v4,v5,v6,v7,v8,v9,v10,v11,v12,a13,a14,a15]) rfl
 have h14 := set_at h13 13 v13 (cs' := #[v0,v1,v2,v3,v4,v5,v6,v7,v8,v9,v10,v11,v12,v13,a14,a15]) rfl
 have h15 := set_at h14 14 v14 (cs' := #[v0,v1,v2,v3,v4,v5,v6,v7,v8,v9,v10,v11,v12,v13,v14,a15]) rfl
 have h16 := set_at h15 15 v15 (cs' := #[v0,v1,v2,v3,v4,v5,v6,v7,v8,v9,v10,v11,v12,v13,v14,v15]) rfl
 exact h16
theorem set16_grown (w : World) (b : Nat) (v0 v1 v2 v3 v4 v5 v6 v7 v8 v9 v10 v11 v12 v13 v14 v15 : Value) : w.grownBy ((((((((((((((((w.setCell ⟨b,0,none⟩ v0).setCell ⟨b,1,none⟩ v1).setCell ⟨b,2,none⟩ v2).setCell ⟨b,3,none⟩ v3).setCell ⟨b,4,none⟩ v4).setCell ⟨b,5,none⟩ v5).setCell ⟨b,6,none⟩ v6).setCell ⟨b,7,none⟩ v7).setCell ⟨b,8,none⟩ v8).setCell ⟨b,9,none⟩ v9).setCell ⟨b,10,none⟩ v10).setCell ⟨b,11,none⟩ v11).setCell ⟨b,12,none⟩ v12).setCell ⟨b,13,none⟩ v13).setCell ⟨b,14,none⟩ v14).setCell ⟨b,15,none⟩ v15) (some b) :=
 (((((((((((((((grown_set w b 0 v0).trans (grown_set _ b 1 v1)).trans (grown_set _ b 2 v2)).trans (grown_set _ b 3 v3)).trans (grown_set _ b 4 v4)).trans (grown_set _ b 5 v5)).trans (grown_set _ b 6 v6)).trans (grown_set _ b 7 v7)).trans (grown_set _ b 8 v8)).trans (grown_set _ b 9 v9)).trans (grown_set _ b 10 v10)).trans (grown_set _ b 11 v11)).trans (grown_set _ b 12 v12)).trans (grown_set _ b 13 v13)).trans (grown_set _ b 14 v14)).trans (grown_set _ b 15 v15)
theorem cells4 {w' : World} {b : Nat} {t : TypeId} {a0 a1 a2 a3 : Value} (h : w'.heap[b]? = some (.cells #[a0,a1,a2,a3] t (0,0))) : w'.cell? ⟨b,0,none⟩ = some a0 ∧ w'.cell? ⟨b,1,none⟩ = some a1 ∧ w'.cell? ⟨b,2,none⟩ = some a2 ∧ w'.cell? ⟨b,3,none⟩ = some a3 ∧
   w'.frozen? ⟨b,0,none⟩ = false ∧ w'.frozen? ⟨b,1,none⟩ = false ∧ w'.frozen? ⟨b,2,none⟩ = false ∧ w'.frozen? ⟨b,3,none⟩ = false :=
 ⟨cell_of h 0 _ rfl,cell_of h 1 _ rfl,cell_of h 2 _ rfl,cell_of h 3 _ rfl,frozen_of h 0,frozen_of h 1,frozen_of h 2,frozen_of h 3⟩
theorem cells8 {w' : World} {b : Nat} {t : TypeId} {a0 a1 a2 a3 a4 a5 a6 a7 : Value} (h : w'.heap[b]? = some (.cells #[a0,a1,a2,a3,a4,a5,a6,a7] t (0,0))) : w'.cell? ⟨b,0,none⟩ = some a0 ∧ w'.cell? ⟨b,1,none⟩ = some a1 ∧ w'.cell? ⟨b,2,none⟩ = some a2 ∧ w'.cell? ⟨b,3,none⟩ = some a3 ∧ w'.cell? ⟨b,4,none⟩ = some a4 ∧ w'.cell? ⟨b,5,none⟩ = some a5 ∧ w'.cell? ⟨b,6,none⟩ = some a6 ∧ w'.cell? ⟨b,7,none⟩ = some a7 ∧
   w'.frozen? ⟨b,0,none⟩ = false ∧ w'.frozen? ⟨b,1,none⟩ = false ∧ w'.frozen? ⟨b,2,none⟩ = false ∧ w'.frozen? ⟨b,3,none⟩ = false ∧ w'.frozen? ⟨b,4,none⟩ = false ∧ w'.frozen? ⟨b,5,none⟩ = false ∧ w'.frozen? ⟨b,6,none⟩ = false ∧ w'.frozen? ⟨b,7,none⟩ = false :=
 ⟨cell_of h 0 _ rfl,cell_of h 1 _ rfl,cell_of h 2 _ rfl,cell_of h 3 _ rfl,cell_of h 4 _ rfl,cell_of h 5 _ rfl,cell_of h 6 _ rfl,cell_of h 7 _ rfl,frozen_of h 0,frozen_of h 1,frozen_of h 2,frozen_of h 3,frozen_of h 4,frozen_of h 5,frozen_of h 6,frozen_of h 7⟩
theorem cells9 {w' : World} {b : Nat} {t : TypeId} {a0 a1 a2 a3 a4 a5 a6 a7 a8 : Value} (h : w'.heap[b]? = some (.cells #[a0,a1,a2,a3,a4,a5,a6,a7,a8] t (0,0))) : w'.cell? ⟨b,0,none⟩ = some a0 ∧ w'.cell? ⟨b,1,none⟩ = some a1 ∧ w'.cell? ⟨b,2,none⟩ = some a2 ∧ w'.cell? ⟨b,3,none⟩ = some a3 ∧ w'.cell? ⟨b,4,none⟩ = some a4 ∧ w'.cell? ⟨b,5,none⟩ = some a5 ∧ w'.cell? ⟨b,6,none⟩ = some a6 ∧ w'.cell? ⟨b,7,none⟩ = some a7 ∧ w'.cell? ⟨b,8,none⟩ = some a8 ∧
   w'.frozen? ⟨b,0,none⟩ = false ∧ w'.frozen? ⟨b,1,none⟩ = false ∧ w'.frozen? ⟨b,2,none⟩ = false ∧ w'.frozen? ⟨b,3,none⟩ = false ∧ w'.frozen? ⟨b,4,none⟩ = false ∧ w'.frozen? ⟨b,5,none⟩ = false ∧ w'.frozen? ⟨b,6,none⟩ = false ∧ w'.frozen? ⟨b,7,none⟩ = false ∧ w'.frozen? ⟨b,8,none⟩ = false :=
 ⟨cell_of h 0 _ rfl,cell_of h 1 _ rfl,cell_of h 2 _ rfl,cell_of h 3 _ rfl,cell_of h 4 _ rfl,cell_of h 5 _ rfl,cell_of h 6 _ rfl,cell_of h 7 _ rfl,cell_of h 8 _ rfl,frozen_of h 0,frozen_of h 1,frozen_of h 2,frozen_of h 3,frozen_of h 4,frozen_of h 5,frozen_of h 6,frozen_of h 7,frozen_of h 8⟩
theorem cells16 {w' : World} {b : Nat} {t : TypeId} {a0 a1 a2 a3 a4 a5 a6 a7 a8 a9 a10 a11 a12 a13 a14 a15 : Value} (h : w'.heap[b]? = some (.cells #[a0,a1,a2,a3,a4,a5,a6,a7,a8,a9,a10,a11,a12,a13,a14,a15] t (0,0))) : w'.cell? ⟨b,0,none⟩ = some a0 ∧ w'.cell? ⟨b,1,none⟩ = some a1 ∧ w'.cell? ⟨b,2,none⟩ = some a2 ∧ w'.cell? ⟨b,3,none⟩ = some a3 ∧ w'.cell? ⟨b,4,none⟩ = some a4 ∧ w'.cell? ⟨b,5,none⟩ = some a5 ∧ w'.cell? ⟨b,6,none⟩ = some a6 ∧ w'.cell? ⟨b,7,none⟩ = some a7 ∧ w'.cell? ⟨b,8,none⟩ = some a8 ∧ w'.cell? ⟨b,9,none⟩ = some a9 ∧ w'.cell? ⟨b,10,none⟩ = some a10 ∧ w'.cell? ⟨b,11,none⟩ = some a11 ∧ w'.cell? ⟨b,12,none⟩ = some a12 ∧ w'.cell? ⟨b,13,none⟩ = some a13 ∧ w'.cell? ⟨b,14,none⟩ = some a14 ∧ w'.cell? ⟨b,15,none⟩ = some a15 ∧
   w'.frozen? ⟨b,0,none⟩ = false ∧ w'.frozen? ⟨b,1,none⟩ = false ∧ w'.frozen? ⟨b,2,none⟩ = false ∧ w'.frozen? ⟨b,3,none⟩ = false ∧ w'.frozen? ⟨b,4,none⟩ = false ∧ w'.frozen? ⟨b,5,none⟩ = false ∧ w'.frozen? ⟨b,6,none⟩ = false ∧ w'.frozen? ⟨b,7,none⟩ = false ∧ w'.frozen? ⟨b,8,none⟩ = false ∧ w'.frozen? ⟨b,9,none⟩ = false ∧ w'.frozen? ⟨b,10,none⟩ = false ∧ w'.frozen? ⟨b,11,none⟩ = false ∧ w'.frozen? ⟨b,12,none⟩ = false ∧ w'.frozen? ⟨b,13,none⟩ = false ∧ w'.frozen? ⟨b,14,none⟩ = false ∧ w'.frozen? ⟨b,15,none⟩ = false :=
 ⟨cell_of h 0 _ rfl,cell_of h 1 _ rfl,cell_of h 2 _ rfl,cell_of h 3 _ rfl,cell_of h 4 _ rfl,cell_of h 5 _ rfl,cell_of h 6 _ rfl,cell_of h 7 _ rfl,cell_of h 8 _ rfl,cell_of h 9 _ rfl,cell_of h 10 _ rfl,cell_of h 11 _ rfl,cell_of h 12 _ rfl,cell_of h 13 _ rfl,cell_of h 14 _ rfl,cell_of h 15 _ rfl,frozen_of h 0,frozen_of h 1,frozen_of h 2,frozen_of h 3,frozen_of h 4,frozen_of h 5,frozen_of h 6,frozen_of h 7,frozen_of h 8,frozen_of h 9,frozen_of h 10,frozen_of h 11,frozen_of h 12,frozen_of h 13,frozen_of h 14,frozen_of h 15⟩
theorem grown_refl (w : World) (r : Option Nat) : w.grownBy w r := ⟨rfl,rfl,rfl,Nat.le_refl _,fun _ _ _ => rfl⟩
theorem past2 {w w' : World} {o o' : Obj} {b : Nat} {row : Option Nat} {X : Option Obj} (h : w.heap[b]? = X) (hb : b < w.heap.size) (hg : ((w.alloc o).alloc o').grownBy w' row) (hne : row ≠ some b) : w'.heap[b]? = X :=
 (hg.block b (by simp;omega) (fun e => hne e.symm)).trans (((heap_alloc_old _ _ (by simp;omega)).trans (heap_alloc_old _ _ hb)).trans h)
theorem past1 {w w' : World} {o : Obj} {b : Nat} {row : Option Nat} {X : Option Obj} (h : w.heap[b]? = X) (hb : b < w.heap.size) (hg : (w.alloc o).grownBy w' row) (hne : row ≠ some b) : w'.heap[b]? = X :=
 (hg.block b (by simp;omega) (fun e => hne e.symm)).trans ((heap_alloc_old _ _ hb).trans h)
theorem past0 {w w' : World} {b : Nat} {row : Option Nat} {X : Option Obj} (h : w.heap[b]? = X) (hb : b < w.heap.size) (hg : w.grownBy w' row) (hne : row ≠ some b) : w'.heap[b]? = X :=
 (hg.block b hb (fun e => hne e.symm)).trans h
end
section
set_option maxHeartbeats 2000000
set_option maxRecDepth 100000
variable {w w' : World} {bp gt capt : Nat} {toks : List PTok} {st : PSt}
def gtermV (g : GTerm) : Value := .agg #[.bool g.neg,.int .i64 (srt g.first),.string g.first.s,.int .i64 (tval g.first),.int .i64 g.first.line,.int .i64 (srt g.name),.string g.name.s,.int .i64 (tval g.name),.int .i64 g.name.line]
theorem gr_term (h : Ps w bp gt capt toks st) (hE : EndOk toks) (hi : st.1 < toks.length) (neg : Bool) : Calls Tryz.prog 147 #[.pointer (some ⟨bp,0,none⟩),.bool neg] w fun e w' => e = .returned (gtermV (pTerm toks neg st).1) ∧ w.grownBy w' (some bp) ∧ Ps w' bp gt capt toks (pTerm toks neg st).2 := by
 have HP : Hid (Ps w bp gt capt toks st) := h
 have hlt := h.lt
 obtain ⟨T,hT⟩ : ∃ T,T = tkN toks st.1 := ⟨_,rfl⟩
 have HT : Hid (T = tkN toks st.1) := hT
 by_cases h3 : srt T = 3
 ·have c3' : (srt T != 3) = false := by simpa using h3
  have HR : Hid (pTerm toks neg st = (⟨neg,T,tkN toks (pTake toks [21] (pTake toks [3,2] st)).1⟩,pTake toks [2] (pTake toks [21] (pTake toks [3,2] st)))) := by rw [Hid,hT];unfold pTerm;rw [← hT,if_pos h3]
  have hi1 := pTake_lt hE (sorts := [3,2]) rfl hi
  have hi2 := pTake_lt hE (sorts := [21]) rfl hi1
  rw [HR.out]
  clear h hT HR h3
  obtain ⟨U,hU⟩ : ∃ U,U = tkN toks (pTake toks [21] (pTake toks [3,2] st)).1 := ⟨_,rfl⟩
  have HU : Hid (U = tkN toks (pTake toks [21] (pTake toks [3,2] st)).1) := hU
  rw [← hU]
  clear hU
  go_enter Tryz.func147,Tryz.ntmps147
  go_wp2_with (first | (go_at_call 69;refine (gr_take ((hP1.alloc _).alloc _) hE.len hi1 [21] (w1.heap.size + 1) 1 (by decide) (row_new [21] (heap_alloc2_new w1 _ _)) (by simp)).mono ?_;unfold tkV;rintro e w2 ⟨rfl,hg2,hP2⟩;clear c0 c1 c2 c3 c4 c5 c6 c7 c8 f0 f1 f2 f3 f4 f5 f6 f7 f8;have hlt1 := hP1.lt;have hs3 : w1.heap.size < w2.heap.size := (by have := hg2.size;simp at this;omega);have hB2 := past2 hB hs1 hg2 (by simp;omega);have hC2 := past0 (heap_alloc2_old w1 _ _) (by simp;omega) hg2 (by simp;omega);obtain ⟨d0,d1,d2,d3,_,_,_,_⟩ := cells4 hC2) | (go_at_call 69;refine (gr_take ((HP.out.alloc _).alloc _) hE.len hi [3,2] (w.heap.size + 1) 2 (by decide) (row_new [3,2] (heap_alloc2_new w _ _)) (by simp)).mono ?_;rw [← HT.out];unfold tkV;rintro e w1 ⟨rfl,hg1,hP1⟩;obtain ⟨hB,c0,c1,c2,c3,c4,c5,c6,c7,c8,f0,f1,f2,f3,f4,f5,f6,f7,f8⟩ := box9 (heap_alloc2_old w _ _) (by simp;omega) hg1 (by simp;omega);have hs1 : w.heap.size < w1.heap.size := by have := hg1.size;simp at this;omega))
  have hs2 : w.heap.size < w2.heap.size := by omega
  have hlt2 := hP2.lt
  go_region_law (go_simp;go_at_call 114;refine (gr_name hP2.drew hE.len hi2).mono ?_;rw [← HU.out];unfold tkV;rintro e w3 ⟨rfl,hg3,hP3⟩;have hB3 := past0 (w := w2.drew) hB2 hs2 hg3 (by simp;omega);have hC3 := past0 (w := w2.drew) hC2 hs3 hg3 (by simp;omega);clear d0 d1 d2 d3;obtain ⟨d0,d1,d2,d3,_,_,_,_⟩ := cells4 hC3;obtain ⟨c0,c1,c2,c3,c4,c5,c6,c7,c8,f0,f1,f2,f3,f4,f5,f6,f7,f8⟩ := cells9 hB3)
  all_goals go_wp2
  all_goals refine bodyPost_ret (results_cell_row rfl _ _ w.heap.size 219 _ _ _ rfl (set9 hB3 _ _ _ _ _ _ _ _ _) Tryz.underlying219 rfl (by kernel_rfl)) rfl ?_
  all_goals have hg9 := set9_grown w3 w.heap.size (.bool neg) (.int .i64 (srt T)) (.string T.s) (.int .i64 (tval T)) (.int .i64 T.line) (.int .i64 (srt U)) (.string U.s) (.int .i64 (tval U)) (.int .i64 U.line)
  all_goals exact ⟨rfl,grown_newr (((((((World.grownBy_alloc w _ _).trans (World.grownBy_alloc _ _ _)).trans hg1).trans (World.grownBy_alloc _ _ _)).trans (World.grownBy_alloc _ _ _)).trans hg2).trans (grown_drew' _ _) |>.trans hg3) (Nat.le_refl _) hg9,HP.out.keptN hP3 (Nat.le_refl _) hg9⟩
 ·have c3' : (srt T != 3) = true := by simpa using h3
  have HR : Hid (pTerm toks neg st = (⟨neg,T,T⟩,pTake toks [3,2] st)) := by rw [Hid,hT];unfold pTerm;rw [← hT,if_neg h3]
  rw [HR.out]
  clear h hT HR h3
  go_enter Tryz.func147,Tryz.ntmps147
  go_wp2_with (go_at_call 69;refine (gr_take ((HP.out.alloc _).alloc _) hE.len hi [3,2] (w.heap.size + 1) 2 (by decide) (row_new [3,2] (heap_alloc2_new w _ _)) (by simp)).mono ?_;rw [← HT.out];unfold tkV;rintro e w1 ⟨rfl,hg1,hP1⟩;obtain ⟨hB,c0,c1,c2,c3,c4,c5,c6,c7,c8,f0,f1,f2,f3,f4,f5,f6,f7,f8⟩ := box9 (heap_alloc2_old w _ _) (by simp;omega) hg1 (by simp;omega);have hs1 : w.heap.size < w1.heap.size := by have := hg1.size;simp at this;omega)
  refine bodyPost_ret (results_cell_row rfl _ _ w.heap.size 219 _ _ _ rfl ((heap_alloc_old _ _ (by simpa using hs1)).trans (set9 hB _ _ _ _ _ _ _ _ _)) Tryz.underlying219 rfl (by kernel_rfl)) rfl ?_
  have hg9 := set9_grown w1 w.heap.size (.bool neg) (.int .i64 (srt T)) (.string T.s) (.int .i64 (tval T)) (.int .i64 T.line) (.int .i64 (srt T)) (.string T.s) (.int .i64 (tval T)) (.int .i64 T.line)
  exact ⟨rfl,(grown_newr (((World.grownBy_alloc w _ _).trans (World.grownBy_alloc _ _ _)).trans hg1) (Nat.le_refl _) hg9).trans (World.grownBy_alloc _ _ _),(HP.out.keptN hP1 (Nat.le_refl _) hg9).alloc _⟩
end
section
set_option maxHeartbeats 2000000
set_option maxRecDepth 100000
variable {w w' : World} {bp gt capt : Nat} {toks : List PTok} {st : PSt}
def glitV (g : GLit) : Value := .agg #[.int .i64 (srt g.first),.string g.first.s,.int .i64 (tval g.first),.int .i64 g.first.line,.int .i64 (srt g.name),.string g.name.s,.int .i64 (tval g.name),.int .i64 g.name.line]
theorem gr_lit (h : Ps w bp gt capt toks st) (hE : EndOk toks) (hi : st.1 < toks.length) : Calls Tryz.prog 119 #[.pointer (some ⟨bp,0,none⟩)] w fun e w' => e = .returned (glitV (pLit toks st).1) ∧ w.grownBy w' (some bp) ∧ Ps w' bp gt capt toks (pLit toks st).2 := by
 have HP : Hid (Ps w bp gt capt toks st) := h
 have hlt := h.lt
 obtain ⟨T,hT⟩ : ∃ T,T = tkN toks st.1 := ⟨_,rfl⟩
 have HT : Hid (T = tkN toks st.1) := hT
 by_cases h3 : srt T = 22
 ·have c3' : (srt T != 22) = false := by simpa using h3
  have HR : Hid (pLit toks st = (⟨T,tkN toks (pTake toks [22,2] st).1⟩,pTake toks [2] (pTake toks [22,2] st))) := by rw [Hid,hT];unfold pLit;rw [← hT,if_pos h3]
  have hi1 := pTake_lt hE (sorts := [22,2]) rfl hi
  rw [HR.out]
  clear h hT HR h3
  obtain ⟨U,hU⟩ : ∃ U,U = tkN toks (pTake toks [22,2] st).1 := ⟨_,rfl⟩
  have HU : Hid (U = tkN toks (pTake toks [22,2] st).1) := hU
  rw [← hU]
  clear hU
  go_enter Tryz.func119,Tryz.ntmps119
  go_wp2_with (go_at_call 69;refine (gr_take ((HP.out.alloc _).alloc _) hE.len hi [22,2] (w.heap.size + 1) 2 (by decide) (row_new [22,2] (heap_alloc2_new w _ _)) (by simp)).mono ?_;rw [← HT.out];unfold tkV;rintro e w1 ⟨rfl,hg1,hP1⟩;have hs1 : w.heap.size < w1.heap.size := (by have := hg1.size;simp at this;omega);have hB := past0 (heap_alloc2_old w _ _) (by simp;omega) hg1 (by simp;omega))
  have hlt1 := hP1.lt
  go_region_law (go_simp;go_at_call 114;refine (gr_name (hP1.alloc _).drew hE.len hi1).mono ?_;rw [← HU.out];unfold tkV;rintro e w3 ⟨rfl,hg3,hP3⟩;have hg3' := (grown_drew' _ (some bp)).trans hg3;have hB3 := past1 hB hs1 hg3' (by simp;omega);have hC3 := past0 (heap_alloc_new w1 _) (by simp) hg3' (by simp;omega);obtain ⟨d0,d1,d2,d3,_,_,_,_⟩ := cells4 hC3;obtain ⟨c0,c1,c2,c3,c4,c5,c6,c7,f0,f1,f2,f3,f4,f5,f6,f7⟩ := cells8 hB3)
  all_goals go_wp2
  all_goals refine bodyPost_ret (results_cell_row rfl _ _ w.heap.size 194 _ _ _ rfl (set8 hB3 _ _ _ _ _ _ _ _) Tryz.underlying194 rfl (by kernel_rfl)) rfl ?_
  all_goals have hg9 := set8_grown w3 w.heap.size (.int .i64 (srt T)) (.string T.s) (.int .i64 (tval T)) (.int .i64 T.line) (.int .i64 (srt U)) (.string U.s) (.int .i64 (tval U)) (.int .i64 U.line)
  all_goals exact ⟨rfl,grown_newr (((((World.grownBy_alloc w _ _).trans (World.grownBy_alloc _ _ _)).trans hg1).trans (World.grownBy_alloc _ _ _)).trans hg3') (Nat.le_refl _) hg9,HP.out.keptN hP3 (Nat.le_refl _) hg9⟩
 ·have c3' : (srt T != 22) = true := by simpa using h3
  have HR : Hid (pLit toks st = (⟨T,T⟩,pTake toks [22,2] st)) := by rw [Hid,hT];unfold pLit;rw [← hT,if_neg h3]
  rw [HR.out]
  clear h hT HR h3
  go_enter Tryz.func119,Tryz.ntmps119
  go_wp2_with (go_at_call 69;refine (gr_take ((HP.out.alloc _).alloc _) hE.len hi [22,2] (w.heap.size + 1) 2 (by decide) (row_new [22,2] (heap_alloc2_new w _ _)) (by simp)).mono ?_;rw [← HT.out];unfold tkV;rintro e w1 ⟨rfl,hg1,hP1⟩;have hs1 : w.heap.size < w1.heap.size := (by have := hg1.size;simp at this;omega);have hB := past0 (heap_alloc2_old w _ _) (by simp;omega) hg1 (by simp;omega);obtain ⟨c0,c1,c2,c3,c4,c5,c6,c7,f0,f1,f2,f3,f4,f5,f6,f7⟩ := cells8 hB)
  refine bodyPost_ret (results_cell_row rfl _ _ w.heap.size 194 _ _ _ rfl ((heap_alloc_old _ _ (by simpa using hs1)).trans (set8 hB _ _ _ _ _ _ _ _)) Tryz.underlying194 rfl (by kernel_rfl)) rfl ?_
  have hg9 := set8_grown w1 w.heap.size (.int .i64 (srt T)) (.string T.s) (.int .i64 (tval T)) (.int .i64 T.line) (.int .i64 (srt T)) (.string T.s) (.int .i64 (tval T)) (.int .i64 T.line)
  exact ⟨rfl,(grown_newr (((World.grownBy_alloc w _ _).trans (World.grownBy_alloc _ _ _)).trans hg1) (Nat.le_refl _) hg9).trans (World.grownBy_alloc _ _ _),(HP.out.keptN hP1 (Nat.le_refl _) hg9).alloc _⟩
end
section
set_option maxHeartbeats 4000000
set_option maxRecDepth 100000
variable {w w' : World} {bp gt capt : Nat} {toks : List PTok} {st : PSt}
def gtCell (g : GTerm) : List Value := [.bool g.neg,.int .i64 (srt g.first),.string g.first.s,.int .i64 (tval g.first),.int .i64 g.first.line,.int .i64 (srt g.name),.string g.name.s,.int .i64 (tval g.name),.int .i64 g.name.line]
def gtCells (l : List GTerm) : List Value := l.flatMap gtCell
theorem gtCells_snoc (l : List GTerm) (g : GTerm) : gtCells (l ++ [g]) = gtCells l ++ gtCell g := by simp [gtCells]
theorem infoGt : (Tryz.prog.info? 219).map (fun i => (i.zero,i.size,i.bytes)) = some (some (.agg #[.bool false,.int .i64 0,.string .empty,.int .i64 0,.int .i64 0,.int .i64 0,.string .empty,.int .i64 0,.int .i64 0]),9,88) := by kernel_rfl
theorem gt_one (g : GTerm) : ∀ u ∈ gtCell g,u.oneCell' = true := by
 intro u hu;simp [gtCell] at hu;rcases hu with rfl | rfl | rfl | rfl | rfl | rfl | rfl | rfl | rfl <;> rfl
theorem low_ne {w : World} {B b : Nat} {e : TypeId} {s n : Nat} {v : Value} {xs : List Value} (h : w.ownsRow B e s v n xs) (hb : b < B) : v.ownBlock ≠ some b := fun e => by have := (h.lt b e).1;omega
theorem low_ne' {w : World} {B b : Nat} {e : TypeId} {s n : Nat} {v : Value} {xs : List Value} (h : w.ownsRow B e s v n xs) (hb : b < B) : v.ownBlock = none ∨ v.ownBlock ≠ some b := .inr (low_ne h hb)
theorem own_new {w : World} {B b : Nat} {e : TypeId} {s : Nat} {cs : Array Value} (h : w.heap[b]? = some (.cells cs e (0,0))) (hb : B ≤ b) (hs : cs.size = s) : w.ownsRow B e s (.slice (some ⟨b,0,none⟩) 1 1) 1 cs.toList :=
 ⟨by simp [hs],.inr ⟨b,1,cs,rfl,hb,h,Nat.le_refl _,by unfold maxLen;omega,by simp [hs],by rw [← hs,Nat.one_mul];exact List.take_of_length_le (by simp)⟩⟩
def GSumRel (toks : List PTok) (bp gt capt : Nat) (RES : List GTerm × PSt) (w : World) (n : Nat) (v : Value) (wr : World) : Prop :=
 ∃ (acc : List GTerm) (S : PSt) (f : Nat),S.1 < toks.length ∧ n = toks.length - S.1 ∧ toks.length ≤ S.1 + f ∧ Hid (sumF toks f acc S = RES) ∧ acc.length ≤ S.1 + 1 ∧ Ps wr bp gt capt toks S ∧
  wr.ownsRow w.heap.size 219 9 v acc.length (gtCells acc) ∧ w.grownBy wr (some bp)
theorem sumF_more {f : Nat} {acc : List GTerm} {S : PSt} {G : GTerm} {S2 : PSt} (h : (pSees toks 20 S || pSees toks 23 S) = true) (hp : pTerm toks (srt (tkN toks S.1) == 23) (pTake toks [20,23] S) = (G,S2)) : sumF toks (f + 1) acc S = sumF toks f (acc ++ [G]) S2 := by
 simp only [sumF];rw [if_pos h,hp]
theorem sumF_end {f : Nat} {acc : List GTerm} {S : PSt} (h : (pSees toks 20 S || pSees toks 23 S) = false) : sumF toks f acc S = (acc,S) := by
 cases f with
 | zero => rfl
 | succ f => simp only [sumF];rw [h];simp
theorem sees_is {s : Int} {S : PSt} (h : pSees toks s S = true) : S.2 = 0 ∧ srt (tkN toks S.1) = s := by
 unfold pSees at h;simpa using h
theorem sum_step {RES : List GTerm × PSt} {wr w2 w3 : World} {v v' : Value} {o : Obj} {acc : List GTerm} {S S2 : PSt} {G : GTerm} {f : Nat} (h0 : Ps w bp gt capt toks st) (hS2 : S2.1 < toks.length) (hlt : S.1 < S2.1) (hf : toks.length ≤ S.1 + (f + 1)) (hl : Hid (sumF toks f (acc ++ [G]) S2 = RES)) (hacc : acc.length ≤ S.1 + 1) (hP2 : Ps w2 bp gt capt toks S2) (hg : w.grownBy w2 (some bp)) (hown : wr.ownsRow w.heap.size 219 9 v acc.length (gtCells acc)) (hown' : w3.ownsRow w.heap.size 219 9 v' (acc.length + 1) (gtCells acc ++ gtCell G)) (hgrow : (w2.alloc o).grownBy w3 v.ownBlock) : GSumRel toks bp gt capt RES w (toks.length - S2.1) v' w3 := by
 have e : ∀ k,v.ownBlock = some k → w.heap.size ≤ k := fun k hk => (hown.lt k hk).1
 have := h0.lt;have := h0.ltg
 refine ⟨acc ++ [G],S2,f,hS2,rfl,by omega,hl,by simp;omega,?_,by rw [gtCells_snoc];simpa using hown',?_⟩
 ·exact (hP2.alloc o).kept hgrow (fun q => by have := e _ q;omega) (fun q => by have := e _ q;omega)
 ·have g2 := hg.trans (World.grownBy_alloc w2 o (some bp))
  exact ⟨hgrow.os.trans g2.os,hgrow.tape.trans g2.tape,hgrow.output.trans g2.output,Nat.le_trans g2.size hgrow.size,fun i hi hn =>
   (hgrow.block i (Nat.lt_of_lt_of_le hi g2.size) (fun q => by have := e i q.symm;omega)).trans (g2.block i hi hn)⟩
theorem grown_any {a b : World} {r : Option Nat} (h : a.grownBy b none) : a.grownBy b r := ⟨h.os,h.tape,h.output,h.size,fun i hi _ => h.block i hi (by simp)⟩
theorem gr_sum (h : Ps w bp gt capt toks st) (hE : EndOk toks) (hi : st.1 < toks.length) : Calls Tryz.prog 117 #[.pointer (some ⟨bp,0,none⟩)] w fun e w' => ∃ v,e = .returned v ∧ w'.ownsRow w.heap.size 219 9 v (pSum toks st).1.length (gtCells (pSum toks st).1) ∧ w.grownBy w' (some bp) ∧ Ps w' bp gt capt toks (pSum toks st).2 ∧ (pSum toks st).2.1 < toks.length := by
 obtain ⟨i0,hi0,hz0,hz1,hz2⟩ := info_parts infoGt
 have HP : Hid (Ps w bp gt capt toks st) := h
 have hlt0 := h.lt
 have hltg := h.ltg
 have hlen := hE.len
 obtain ⟨RES,hR⟩ : ∃ R,R = pSum toks st := ⟨_,rfl⟩
 obtain ⟨⟨G,S1⟩,hGS⟩ : ∃ x,pTerm toks false st = x := ⟨_,rfl⟩
 have hS1 := pTerm_lt hE false hi
 rw [hGS] at hS1
 have HS : Hid (sumF toks toks.length [G] S1 = RES) := by rw [Hid,hR];unfold pSum;rw [hGS]
 have HG : Hid (pTerm toks false st = (G,S1)) := hGS
 rw [← hR]
 simp only at hS1
 clear h hGS hR
 go_enter Tryz.func117,Tryz.ntmps117
 go_wp2_with (go_at_call 147;refine (gr_term HP.out hE hi false).mono ?_;rw [HG.out];unfold gtermV;rintro e w1 ⟨rfl,hg1,hP1⟩)
 go_loopg [3] (toks.length - S1.1) (fun n v wr => GSumRel toks bp gt capt RES w n v wr)
 case atStart => exact ⟨[G],S1,toks.length,hS1.1,rfl,by omega,HS,by simp,hP1.alloc _,own_new (s := 9) (heap_alloc_new w1 _) hg1.size rfl,hg1.trans (World.grownBy_alloc _ _ _)⟩
 case round =>
  obtain ⟨acc,S,f,hi,rfl,hf,hlex,hacc,hP,hown,hgr⟩ := hrel
  obtain ⟨T,hT⟩ : ∃ T,T = tkN toks S.1 := ⟨_,rfl⟩
  have HT : Hid (T = tkN toks S.1) := hT
  by_cases h20 : pSees toks 20 S = true
  ·obtain ⟨f,rfl⟩ : ∃ g,f = g + 1 := ⟨f - 1,by omega⟩
   have hse := sees_is h20
   have hor : (pSees toks 20 S || pSees toks 23 S) = true := by rw [h20];rfl
   obtain ⟨⟨G,S2⟩,hGS⟩ : ∃ x,pTerm toks (srt (tkN toks S.1) == 23) (pTake toks [20,23] S) = x := ⟨_,rfl⟩
   have hl : Hid (sumF toks f (acc ++ [G]) S2 = RES) := by rw [Hid,← hlex.out];exact (sumF_more hor hGS).symm
   have hpt : pTake toks [20,23] S = (S.1 + 1,0) := pTake_sees hse.1 (by rw [hse.2];rfl)
   have hi1 := pTake_lt hE (sorts := [20,23]) rfl hi
   have hS2 := pTerm_lt hE (srt (tkN toks S.1) == 23) hi1
   rw [hGS] at hS2
   have hS : S.1 < S2.1 := by have := hS2.2;rw [hpt] at this;simp only at this;omega
   have hS2 := hS2.1
   simp only at hS2
   have H20 : Hid (pSees toks 20 S = _) := h20
   have HG : Hid (pTerm toks (srt T == 23) (pTake toks [20,23] S) = (G,S2)) := by rw [hT];exact hGS
   clear hor hse hlex hT hGS hpt
   go_wp2_with (first | (go_at_call 147;refine (gr_term (hP1.alloc _) hE hi1 (srt T == 23)).mono ?_;rw [HG.out];unfold gtermV;rintro e w2 ⟨rfl,hg2,hP2⟩;have hown2 := ((hown1.alloc _).kept hg2 (low_ne' hown hlt0))) | (go_at_call 69;refine (gr_take (hPs.alloc _) hE.len hi [20,23] ws.heap.size 2 (by decide) (row_new [20,23] (heap_alloc_new ws _)) (by simp)).mono ?_;rw [← HT.out];unfold tkV;rintro e w1 ⟨rfl,hg1,hP1⟩;have hown1 := (((hown.kept hgs (own_none _)).alloc _).kept hg1 (low_ne' hown hlt0))) | (go_at_call 67;refine (gr_sees hP hE.len hi 20).mono ?_;rw [H20.out];rintro e ws ⟨rfl,hgs⟩;have hPs := hP.kept hgs (by simp) (by simp)) | (at_builtin;refine wpList_append_own _ rfl _ _ 134 rfl w.heap.size 219 i0 (.agg #[.bool false,.int .i64 0,.string .empty,.int .i64 0,.int .i64 0,.int .i64 0,.string .empty,.int .i64 0,.int .i64 0]) 9 88 Tryz.underlying134 hi0 hz0 hz1 hz2 rfl (by decide) _ _ _ rfl (hown2.alloc _) ⟨w2.heap.size,0,none⟩ 1 1 (gtCell G) rfl rfl (World.news_of_block (heap_alloc_new _ _)) (gt_one G) ?c3 ?c4 ?c5 ?_))
   case c3 => unfold maxLen;omega
   case c4 => omega
   case c5 => have := hgr.size;have := hgs.size;have := hg1.size;have := hg2.size;simp at *;omega
   intro v' w3 hown' hgrow _
   have R := sum_step HP.out hS2 hS hf hl hacc hP2 (((((hgr.trans (grown_any hgs)).trans (World.grownBy_alloc _ _ _)).trans hg1).trans (World.grownBy_alloc _ _ _)).trans hg2) hown hown' hgrow
   clear hown' hgrow hown hown1 hown2
   go_wp2
   go_roundg (toks.length - S2.1)
   case measure => omega
   case rel => exact R
  ·have h20' : pSees toks 20 S = false := by simpa using h20
   by_cases h23 : pSees toks 23 S = true
   ·obtain ⟨f,rfl⟩ : ∃ g,f = g + 1 := ⟨f - 1,by omega⟩
    have hse := sees_is h23
    have hor : (pSees toks 20 S || pSees toks 23 S) = true := by rw [h23,h20'];rfl
    have H23 : Hid (pSees toks 23 S = true) := h23
    obtain ⟨⟨G,S2⟩,hGS⟩ : ∃ x,pTerm toks (srt (tkN toks S.1) == 23) (pTake toks [20,23] S) = x := ⟨_,rfl⟩
    have hl : Hid (sumF toks f (acc ++ [G]) S2 = RES) := by rw [Hid,← hlex.out];exact (sumF_more hor hGS).symm
    have hpt : pTake toks [20,23] S = (S.1 + 1,0) := pTake_sees hse.1 (by rw [hse.2];rfl)
    have hi1 := pTake_lt hE (sorts := [20,23]) rfl hi
    have hS2 := pTerm_lt hE (srt (tkN toks S.1) == 23) hi1
    rw [hGS] at hS2
    have hS : S.1 < S2.1 := by have := hS2.2;rw [hpt] at this;simp only at this;omega
    have hS2 := hS2.1
    simp only at hS2
    have H20 : Hid (pSees toks 20 S = _) := h20'
    have HG : Hid (pTerm toks (srt T == 23) (pTake toks [20,23] S) = (G,S2)) := by rw [hT];exact hGS
    clear hor hse hlex hT hGS hpt
    go_wp2_with (first | (go_at_call 147;refine (gr_term (hP1.alloc _) hE hi1 (srt T == 23)).mono ?_;rw [HG.out];unfold gtermV;rintro e w2 ⟨rfl,hg2,hP2⟩;have hown2 := ((hown1.alloc _).kept hg2 (low_ne' hown hlt0))) | (go_at_call 69;refine (gr_take (hPs.alloc _) hE.len hi [20,23] ws.heap.size 2 (by decide) (row_new [20,23] (heap_alloc_new ws _)) (by simp)).mono ?_;rw [← HT.out];unfold tkV;rintro e w1 ⟨rfl,hg1,hP1⟩;have hown1 := (((hown.kept hgs (own_none _)).alloc _).kept hg1 (low_ne' hown hlt0))) | (go_at_call 67;refine (gr_sees hPs0 hE.len hi 23).mono ?_;rw [H23.out];rintro e ws ⟨rfl,hgs1⟩;have hgs := hgs0.trans hgs1;have hPs := hP.kept hgs (by simp) (by simp)) | (go_at_call 67;refine (gr_sees hP hE.len hi 20).mono ?_;rw [H20.out];rintro e ws0 ⟨rfl,hgs0⟩;have hPs0 := hP.kept hgs0 (by simp) (by simp)) | (at_builtin;refine wpList_append_own _ rfl _ _ 134 rfl w.heap.size 219 i0 (.agg #[.bool false,.int .i64 0,.string .empty,.int .i64 0,.int .i64 0,.int .i64 0,.string .empty,.int .i64 0,.int .i64 0]) 9 88 Tryz.underlying134 hi0 hz0 hz1 hz2 rfl (by decide) _ _ _ rfl (hown2.alloc _) ⟨w2.heap.size,0,none⟩ 1 1 (gtCell G) rfl rfl (World.news_of_block (heap_alloc_new _ _)) (gt_one G) ?c3 ?c4 ?c5 ?_))
    case c3 => unfold maxLen;omega
    case c4 => omega
    case c5 => have := hgr.size;have := hgs.size;have := hg1.size;have := hg2.size;simp at *;omega
    intro v' w3 hown' hgrow _
    have R := sum_step HP.out hS2 hS hf hl hacc hP2 (((((hgr.trans (grown_any hgs)).trans (World.grownBy_alloc _ _ _)).trans hg1).trans (World.grownBy_alloc _ _ _)).trans hg2) hown hown' hgrow
    clear hown' hgrow hown hown1 hown2
    go_wp2
    go_roundg (toks.length - S2.1)
    case measure => omega
    case rel => exact R
   ·have h23' : pSees toks 23 S = false := by simpa using h23
    have hl : Hid (RES = (acc,S)) := by rw [Hid,← hlex.out];exact sumF_end (by rw [h20',h23'];rfl)
    have H20 : Hid (pSees toks 20 S = false) := h20'
    have H23 : Hid (pSees toks 23 S = false) := h23'
    clear h20 h23 h20' h23' hlex hT
    go_wp2_with (first | (go_at_call 67;refine (gr_sees hPs0 hE.len hi 23).mono ?_;rw [H23.out];rintro e ws ⟨rfl,hgs1⟩;have hgs := hgs0.trans hgs1;have hPs := hP.kept hgs (by simp) (by simp)) | (go_at_call 67;refine (gr_sees hP hE.len hi 20).mono ?_;rw [H20.out];rintro e ws0 ⟨rfl,hgs0⟩;have hPs0 := hP.kept hgs0 (by simp) (by simp)))
    go_ret
    rw [hl.out]
    exact ⟨_,rfl,hown.kept hgs (own_none _),hgr.trans (grown_any hgs),hPs,hi⟩
end
section
set_option maxHeartbeats 4000000
set_option maxRecDepth 100000
variable {w w' : World} {bp gt capt : Nat} {toks : List PTok} {st : PSt}
theorem serF_more {α : Type} {one : PSt → α × PSt} {f : Nat} {acc : List α} {S : PSt} {G : α} {S2 : PSt} (h : pSees toks 13 S = true) (hp : one (pTake toks [13] S) = (G,S2)) : serF toks one (f + 1) acc S = serF toks one f (acc ++ [G]) S2 := by
 simp only [serF];rw [if_pos h,hp]
theorem serF_end {α : Type} {one : PSt → α × PSt} {f : Nat} {acc : List α} {S : PSt} (h : pSees toks 13 S = false) : serF toks one f acc S = (acc,S) := by
 cases f with
 | zero => rfl
 | succ f => simp only [serF];rw [h];simp
def SerRel {α : Type} (toks : List PTok) (bp gt capt : Nat) (one : PSt → α × PSt) (cell : α → List Value) (E sz : Nat) (RES : List α × PSt) (w : World) (n : Nat) (v : Value) (wr : World) : Prop :=
 ∃ (acc : List α) (S : PSt) (f : Nat),S.1 < toks.length ∧ n = toks.length - S.1 ∧ toks.length ≤ S.1 + f ∧ Hid (serF toks one f acc S = RES) ∧ acc.length ≤ S.1 + 1 ∧ Ps wr bp gt capt toks S ∧
  wr.ownsRow w.heap.size E sz v acc.length (acc.flatMap cell) ∧ w.grownBy wr (some bp)
theorem ser_step {α : Type} {one : PSt → α × PSt} {cell : α → List Value} {E sz : Nat} {RES : List α × PSt} {wr w2 w3 : World} {v v' : Value} {o : Obj} {acc : List α} {S S2 : PSt} {G : α} {f : Nat} (h0 : Ps w bp gt capt toks st) (hS2 : S2.1 < toks.length) (hlt : S.1 < S2.1) (hf : toks.length ≤ S.1 + (f + 1)) (hl : Hid (serF toks one f (acc ++ [G]) S2 = RES)) (hacc : acc.length ≤ S.1 + 1) (hP2 : Ps w2 bp gt capt toks S2) (hg : w.grownBy w2 (some bp)) (hown : wr.ownsRow w.heap.size E sz v acc.length (acc.flatMap cell)) (hown' : w3.ownsRow w.heap.size E sz v' (acc.length + 1) (acc.flatMap cell ++ cell G)) (hgrow : (w2.alloc o).grownBy w3 v.ownBlock) : SerRel toks bp gt capt one cell E sz RES w (toks.length - S2.1) v' w3 := by
 have e : ∀ k,v.ownBlock = some k → w.heap.size ≤ k := fun k hk => (hown.lt k hk).1
 have := h0.lt;have := h0.ltg
 refine ⟨acc ++ [G],S2,f,hS2,rfl,by omega,hl,by simp;omega,?_,by rw [List.flatMap_append];simpa using hown',?_⟩
 ·exact (hP2.alloc o).kept hgrow (fun q => by have := e _ q;omega) (fun q => by have := e _ q;omega)
 ·have g2 := hg.trans (World.grownBy_alloc w2 o (some bp))
  exact ⟨hgrow.os.trans g2.os,hgrow.tape.trans g2.tape,hgrow.output.trans g2.output,Nat.le_trans g2.size hgrow.size,fun i hi hn =>
   (hgrow.block i (Nat.lt_of_lt_of_le hi g2.size) (fun q => by have := e i q.symm;omega)).trans (g2.block i hi hn)⟩
theorem tkc_one (t : PTok) : ∀ u ∈ tokCell t,u.oneCell' = true := by
 intro u hu;simp [tokCell] at hu;rcases hu with rfl | rfl | rfl | rfl <;> rfl
theorem pTok_lt (hE : EndOk toks) (s : Int) (hs : s ≠ 1) {S : PSt} (hi : S.1 < toks.length) : (pTok toks s S).2.1 < toks.length ∧ S.1 ≤ (pTok toks s S).2.1 :=
 ⟨pTake_lt hE (sorts := [s]) (by simp;exact fun e => hs e.symm) hi,pTake_le⟩
theorem gr_ser_name (h : Ps w bp gt capt toks st) (hE : EndOk toks) (hi : st.1 < toks.length) : Calls Tryz.prog 116 #[.pointer (some ⟨bp,0,none⟩),.func (.func 114) #[.pointer (some ⟨bp,0,none⟩)] #[]] w fun e w' => ∃ v,e = .returned v ∧ w'.ownsRow w.heap.size 129 4 v (pSer toks (pTok toks 2) st).1.length (tokCells (pSer toks (pTok toks 2) st).1) ∧ w.grownBy w' (some bp) ∧ Ps w' bp gt capt toks (pSer toks (pTok toks 2) st).2 ∧ (pSer toks (pTok toks 2) st).2.1 < toks.length := by
 obtain ⟨i0,hi0,hz0,hz1,hz2⟩ := info_parts infoTk
 have HP : Hid (Ps w bp gt capt toks st) := h
 have hlt0 := h.lt
 have hltg := h.ltg
 have hlen := hE.len
 obtain ⟨RES,hR⟩ : ∃ R,R = pSer toks (pTok toks 2) st := ⟨_,rfl⟩
 have hS1 := pTok_lt hE 2 (by decide) hi
 have HS : Hid (serF toks (pTok toks 2) toks.length [tkN toks st.1] (pTake toks [2] st) = RES) := by rw [Hid,hR];rfl
 rw [← hR]
 have hS1 : (pTake toks [2] st).1 < toks.length := hS1.1
 clear h hR
 go_enter Tryz.func116,Tryz.ntmps116
 go_wp2_with (go_at_call 114;refine (gr_name HP.out hE.len hi).mono ?_;unfold tkV;rintro e w1 ⟨rfl,hg1,hP1⟩)
 go_loopg [5] (toks.length - (pTake toks [2] st).1) (fun n v wr => SerRel toks bp gt capt (pTok toks 2) tokCell 129 4 RES w n v wr)
 case atStart => exact ⟨[tkN toks st.1],(pTake toks [2] st),toks.length,hS1,rfl,by omega,HS,by simp,hP1.alloc _,own_new (s := 4) (heap_alloc_new w1 _) hg1.size rfl,hg1.trans (World.grownBy_alloc _ _ _)⟩
 case round =>
  obtain ⟨acc,S,f,hi,rfl,hf,hlex,hacc,hP,hown,hgr⟩ := hrel
  by_cases h13 : pSees toks 13 S = true
  ·obtain ⟨f,rfl⟩ : ∃ g,f = g + 1 := ⟨f - 1,by omega⟩
   have hse := sees_is h13
   obtain ⟨⟨G,S2⟩,hGS⟩ : ∃ x,(pTok toks 2) (pTake toks [13] S) = x := ⟨_,rfl⟩
   have hl : Hid (serF toks (pTok toks 2) f (acc ++ [G]) S2 = RES) := by rw [Hid,← hlex.out];exact (serF_more h13 hGS).symm
   have hpt : pTake toks [13] S = (S.1 + 1,0) := pTake_sees hse.1 (by rw [hse.2];rfl)
   have hi1 := pTake_lt hE (sorts := [13]) rfl hi
   have hS2 := pTok_lt hE 2 (by decide) hi1
   rw [hGS] at hS2
   have hS : S.1 < S2.1 := by have := hS2.2;rw [hpt] at this;simp only at this;omega
   have hS2 := hS2.1
   simp only at hS2
   have H13 : Hid (pSees toks 13 S = true) := h13
   have HC : Hid (∀ W : World,Ps W bp gt capt toks (pTake toks [13] S) → Calls Tryz.prog 114 #[.pointer (some ⟨bp,0,none⟩)] W fun e w' => e = .returned (.agg #[.int .i64 (srt G),.string G.s,.int .i64 (tval G),.int .i64 G.line]) ∧ W.grownBy w' (some bp) ∧ Ps w' bp gt capt toks S2) := fun W hW => by
    have q := gr_name hW hE.len hi1;have e1 : tkN toks (pTake toks [13] S).1 = G := congrArg Prod.fst hGS;have e2 : pTake toks [2] (pTake toks [13] S) = S2 := congrArg Prod.snd hGS;rw [e1,e2] at q;exact q
   clear h13 hse hlex hGS hpt
   go_wp2_with (first | (at_builtin;refine wpList_append_own _ rfl _ _ 85 rfl w.heap.size 129 i0 (.agg #[.int .i64 0,.string .empty,.int .i64 0,.int .i64 0]) 4 40 Tryz.underlying85 hi0 hz0 hz1 hz2 rfl (by decide) _ _ _ rfl (hown2.alloc _) ⟨w2.heap.size,0,none⟩ 1 1 (tokCell G) rfl rfl (World.news_of_block (heap_alloc_new _ _)) (tkc_one G) ?c3 ?c4 ?c5 ?_) | (go_at_call 114;refine (HC.out _ hP1).mono ?_;rintro e w2 ⟨rfl,hg2,hP2⟩;have hown2 := hown1.kept hg2 (low_ne' hown hlt0)) | (go_at_call 69;refine (gr_take (hPs.alloc _) hE.len hi [13] ws.heap.size 1 (by decide) (row_new [13] (heap_alloc_new ws _)) (by simp)).mono ?_;rintro e w1 ⟨rfl,hg1,hP1⟩;have hown1 := (((hown.kept hgs (own_none _)).alloc _).kept hg1 (low_ne' hown hlt0))) | (go_at_call 67;refine (gr_sees hP hE.len hi 13).mono ?_;rw [H13.out];rintro e ws ⟨rfl,hgs⟩;have hPs := hP.kept hgs (by simp) (by simp)))
   case c3 => unfold maxLen;omega
   case c4 => omega
   case c5 => have := hgr.size;have := hgs.size;have := hg1.size;have := hg2.size;simp at *;omega
   intro v' w3 hown' hgrow _
   have R := ser_step HP.out hS2 hS hf hl hacc hP2 ((((hgr.trans (grown_any hgs)).trans (World.grownBy_alloc _ _ _)).trans hg1).trans hg2) hown hown' hgrow
   clear hown' hgrow hown hown1 hown2
   go_wp2
   go_roundg (toks.length - S2.1)
   case measure => omega
   case rel => exact R
  ·have h13' : pSees toks 13 S = false := by simpa using h13
   have hl : Hid (RES = (acc,S)) := by rw [Hid,← hlex.out];exact serF_end h13'
   have H13 : Hid (pSees toks 13 S = false) := h13'
   clear h13 h13' hlex
   go_wp2_with (go_at_call 67;refine (gr_sees hP hE.len hi 13).mono ?_;rw [H13.out];rintro e ws ⟨rfl,hgs⟩;have hPs := hP.kept hgs (by simp) (by simp))
   go_ret
   rw [hl.out]
   exact ⟨_,rfl,hown.kept hgs (own_none _),hgr.trans (grown_any hgs),hPs,hi⟩
theorem gr_ser_number (h : Ps w bp gt capt toks st) (hE : EndOk toks) (hi : st.1 < toks.length) : Calls Tryz.prog 116 #[.pointer (some ⟨bp,0,none⟩),.func (.func 115) #[.pointer (some ⟨bp,0,none⟩)] #[]] w fun e w' => ∃ v,e = .returned v ∧ w'.ownsRow w.heap.size 129 4 v (pSer toks (pTok toks 3) st).1.length (tokCells (pSer toks (pTok toks 3) st).1) ∧ w.grownBy w' (some bp) ∧ Ps w' bp gt capt toks (pSer toks (pTok toks 3) st).2 ∧ (pSer toks (pTok toks 3) st).2.1 < toks.length := by
 obtain ⟨i0,hi0,hz0,hz1,hz2⟩ := info_parts infoTk
 have HP : Hid (Ps w bp gt capt toks st) := h
 have hlt0 := h.lt
 have hltg := h.ltg
 have hlen := hE.len
 obtain ⟨RES,hR⟩ : ∃ R,R = pSer toks (pTok toks 3) st := ⟨_,rfl⟩
 have hS1 := pTok_lt hE 3 (by decide) hi
 have HS : Hid (serF toks (pTok toks 3) toks.length [tkN toks st.1] (pTake toks [3] st) = RES) := by rw [Hid,hR];rfl
 rw [← hR]
 have hS1 : (pTake toks [3] st).1 < toks.length := hS1.1
 clear h hR
 go_enter Tryz.func116,Tryz.ntmps116
 go_wp2_with (go_at_call 115;refine (gr_number HP.out hE.len hi).mono ?_;unfold tkV;rintro e w1 ⟨rfl,hg1,hP1⟩)
 go_loopg [5] (toks.length - (pTake toks [3] st).1) (fun n v wr => SerRel toks bp gt capt (pTok toks 3) tokCell 129 4 RES w n v wr)
 case atStart => exact ⟨[tkN toks st.1],(pTake toks [3] st),toks.length,hS1,rfl,by omega,HS,by simp,hP1.alloc _,own_new (s := 4) (heap_alloc_new w1 _) hg1.size rfl,hg1.trans (World.grownBy_alloc _ _ _)⟩
 case round =>
  obtain ⟨acc,S,f,hi,rfl,hf,hlex,hacc,hP,hown,hgr⟩ := hrel
  by_cases h13 : pSees toks 13 S = true
  ·obtain ⟨f,rfl⟩ : ∃ g,f = g + 1 := ⟨f - 1,by omega⟩
   have hse := sees_is h13
   obtain ⟨⟨G,S2⟩,hGS⟩ : ∃ x,(pTok toks 3) (pTake toks [13] S) = x := ⟨_,rfl⟩
   have hl : Hid (serF toks (pTok toks 3) f (acc ++ [G]) S2 = RES) := by rw [Hid,← hlex.out];exact (serF_more h13 hGS).symm
   have hpt : pTake toks [13] S = (S.1 + 1,0) := pTake_sees hse.1 (by rw [hse.2];rfl)
   have hi1 := pTake_lt hE (sorts := [13]) rfl hi
   have hS2 := pTok_lt hE 3 (by decide) hi1
   rw [hGS] at hS2
   have hS : S.1 < S2.1 := by have := hS2.2;rw [hpt] at this;simp only at this;omega
   have hS2 := hS2.1
   simp only at hS2
   have H13 : Hid (pSees toks 13 S = true) := h13
   have HC : Hid (∀ W : World,Ps W bp gt capt toks (pTake toks [13] S) → Calls Tryz.prog 115 #[.pointer (some ⟨bp,0,none⟩)] W fun e w' => e = .returned (.agg #[.int .i64 (srt G),.string G.s,.int .i64 (tval G),.int .i64 G.line]) ∧ W.grownBy w' (some bp) ∧ Ps w' bp gt capt toks S2) := fun W hW => by
    have q := gr_number hW hE.len hi1;have e1 : tkN toks (pTake toks [13] S).1 = G := congrArg Prod.fst hGS;have e2 : pTake toks [3] (pTake toks [13] S) = S2 := congrArg Prod.snd hGS;rw [e1,e2] at q;exact q
   clear h13 hse hlex hGS hpt
   go_wp2_with (first | (at_builtin;refine wpList_append_own _ rfl _ _ 85 rfl w.heap.size 129 i0 (.agg #[.int .i64 0,.string .empty,.int .i64 0,.int .i64 0]) 4 40 Tryz.underlying85 hi0 hz0 hz1 hz2 rfl (by decide) _ _ _ rfl (hown2.alloc _) ⟨w2.heap.size,0,none⟩ 1 1 (tokCell G) rfl rfl (World.news_of_block (heap_alloc_new _ _)) (tkc_one G) ?c3 ?c4 ?c5 ?_) | (go_at_call 115;refine (HC.out _ hP1).mono ?_;rintro e w2 ⟨rfl,hg2,hP2⟩;have hown2 := hown1.kept hg2 (low_ne' hown hlt0)) | (go_at_call 69;refine (gr_take (hPs.alloc _) hE.len hi [13] ws.heap.size 1 (by decide) (row_new [13] (heap_alloc_new ws _)) (by simp)).mono ?_;rintro e w1 ⟨rfl,hg1,hP1⟩;have hown1 := (((hown.kept hgs (own_none _)).alloc _).kept hg1 (low_ne' hown hlt0))) | (go_at_call 67;refine (gr_sees hP hE.len hi 13).mono ?_;rw [H13.out];rintro e ws ⟨rfl,hgs⟩;have hPs := hP.kept hgs (by simp) (by simp)))
   case c3 => unfold maxLen;omega
   case c4 => omega
   case c5 => have := hgr.size;have := hgs.size;have := hg1.size;have := hg2.size;simp at *;omega
   intro v' w3 hown' hgrow _
   have R := ser_step HP.out hS2 hS hf hl hacc hP2 ((((hgr.trans (grown_any hgs)).trans (World.grownBy_alloc _ _ _)).trans hg1).trans hg2) hown hown' hgrow
   clear hown' hgrow hown hown1 hown2
   go_wp2
   go_roundg (toks.length - S2.1)
   case measure => omega
   case rel => exact R
  ·have h13' : pSees toks 13 S = false := by simpa using h13
   have hl : Hid (RES = (acc,S)) := by rw [Hid,← hlex.out];exact serF_end h13'
   have H13 : Hid (pSees toks 13 S = false) := h13'
   clear h13 h13' hlex
   go_wp2_with (go_at_call 67;refine (gr_sees hP hE.len hi 13).mono ?_;rw [H13.out];rintro e ws ⟨rfl,hgs⟩;have hPs := hP.kept hgs (by simp) (by simp))
   go_ret
   rw [hl.out]
   exact ⟨_,rfl,hown.kept hgs (own_none _),hgr.trans (grown_any hgs),hPs,hi⟩
def glCell (g : GLit) : List Value := [.int .i64 (srt g.first),.string g.first.s,.int .i64 (tval g.first),.int .i64 g.first.line,.int .i64 (srt g.name),.string g.name.s,.int .i64 (tval g.name),.int .i64 g.name.line]
def glCells (l : List GLit) : List Value := l.flatMap glCell
theorem glc_one (g : GLit) : ∀ u ∈ glCell g,u.oneCell' = true := by
 intro u hu;simp [glCell] at hu;rcases hu with rfl | rfl | rfl | rfl | rfl | rfl | rfl | rfl <;> rfl
theorem infoGl : (Tryz.prog.info? 194).map (fun i => (i.zero,i.size,i.bytes)) = some (some (.agg #[.int .i64 0,.string .empty,.int .i64 0,.int .i64 0,.int .i64 0,.string .empty,.int .i64 0,.int .i64 0]),8,80) := by kernel_rfl
theorem gr_ser_lit (h : Ps w bp gt capt toks st) (hE : EndOk toks) (hi : st.1 < toks.length) : Calls Tryz.prog 118 #[.pointer (some ⟨bp,0,none⟩),.func (.func 119) #[.pointer (some ⟨bp,0,none⟩)] #[]] w fun e w' => ∃ v,e = .returned v ∧ w'.ownsRow w.heap.size 194 8 v (pSer toks (pLit toks) st).1.length (glCells (pSer toks (pLit toks) st).1) ∧ w.grownBy w' (some bp) ∧ Ps w' bp gt capt toks (pSer toks (pLit toks) st).2 ∧ (pSer toks (pLit toks) st).2.1 < toks.length := by
 obtain ⟨i0,hi0,hz0,hz1,hz2⟩ := info_parts infoGl
 have HP : Hid (Ps w bp gt capt toks st) := h
 have hlt0 := h.lt
 have hltg := h.ltg
 have hlen := hE.len
 obtain ⟨RES,hR⟩ : ∃ R,R = pSer toks (pLit toks) st := ⟨_,rfl⟩
 have hS1 := pLit_lt hE hi
 obtain ⟨⟨G1,S1⟩,hGS1⟩ : ∃ x,pLit toks st = x := ⟨_,rfl⟩
 have HS : Hid (serF toks (pLit toks) toks.length [G1] S1 = RES) := by rw [Hid,hR];unfold pSer;rw [hGS1]
 have HG1 : Hid (pLit toks st = (G1,S1)) := hGS1
 rw [← hR]
 rw [hGS1] at hS1
 have hS1 : S1.1 < toks.length := hS1.1
 clear h hR hGS1
 go_enter Tryz.func118,Tryz.ntmps118
 go_wp2_with (go_at_call 119;refine (gr_lit HP.out hE hi).mono ?_;rw [HG1.out];unfold glitV;rintro e w1 ⟨rfl,hg1,hP1⟩)
 go_loopg [5] (toks.length - S1.1) (fun n v wr => SerRel toks bp gt capt (pLit toks) glCell 194 8 RES w n v wr)
 case atStart => exact ⟨[G1],S1,toks.length,hS1,rfl,by omega,HS,by simp,hP1.alloc _,own_new (s := 8) (heap_alloc_new w1 _) hg1.size rfl,hg1.trans (World.grownBy_alloc _ _ _)⟩
 case round =>
  obtain ⟨acc,S,f,hi,rfl,hf,hlex,hacc,hP,hown,hgr⟩ := hrel
  by_cases h13 : pSees toks 13 S = true
  ·obtain ⟨f,rfl⟩ : ∃ g,f = g + 1 := ⟨f - 1,by omega⟩
   have hse := sees_is h13
   obtain ⟨⟨G,S2⟩,hGS⟩ : ∃ x,(pLit toks) (pTake toks [13] S) = x := ⟨_,rfl⟩
   have hl : Hid (serF toks (pLit toks) f (acc ++ [G]) S2 = RES) := by rw [Hid,← hlex.out];exact (serF_more h13 hGS).symm
   have hpt : pTake toks [13] S = (S.1 + 1,0) := pTake_sees hse.1 (by rw [hse.2];rfl)
   have hi1 := pTake_lt hE (sorts := [13]) rfl hi
   have hS2 := pLit_lt hE hi1
   rw [hGS] at hS2
   have hS : S.1 < S2.1 := by have := hS2.2;rw [hpt] at this;simp only at this;omega
   have hS2 := hS2.1
   simp only at hS2
   have H13 : Hid (pSees toks 13 S = true) := h13
   have HC : Hid (∀ W : World,Ps W bp gt capt toks (pTake toks [13] S) → Calls Tryz.prog 119 #[.pointer (some ⟨bp,0,none⟩)] W fun e w' => e = .returned (.agg #[.int .i64 (srt G.first),.string G.first.s,.int .i64 (tval G.first),.int .i64 G.first.line,.int .i64 (srt G.name),.string G.name.s,.int .i64 (tval G.name),.int .i64 G.name.line]) ∧ W.grownBy w' (some bp) ∧ Ps w' bp gt capt toks S2) := fun W hW => by
    have q := gr_lit hW hE hi1;rw [hGS] at q;exact q
   clear h13 hse hlex hGS hpt
   go_wp2_with (first | (at_builtin;refine wpList_append_own _ rfl _ _ 135 rfl w.heap.size 194 i0 (.agg #[.int .i64 0,.string .empty,.int .i64 0,.int .i64 0,.int .i64 0,.string .empty,.int .i64 0,.int .i64 0]) 8 80 Tryz.underlying135 hi0 hz0 hz1 hz2 rfl (by decide) _ _ _ rfl (hown2.alloc _) ⟨w2.heap.size,0,none⟩ 1 1 (glCell G) rfl rfl (World.news_of_block (heap_alloc_new _ _)) (glc_one G) ?c3 ?c4 ?c5 ?_) | (go_at_call 119;refine (HC.out _ hP1).mono ?_;rintro e w2 ⟨rfl,hg2,hP2⟩;have hown2 := hown1.kept hg2 (low_ne' hown hlt0)) | (go_at_call 69;refine (gr_take (hPs.alloc _) hE.len hi [13] ws.heap.size 1 (by decide) (row_new [13] (heap_alloc_new ws _)) (by simp)).mono ?_;rintro e w1 ⟨rfl,hg1,hP1⟩;have hown1 := (((hown.kept hgs (own_none _)).alloc _).kept hg1 (low_ne' hown hlt0))) | (go_at_call 67;refine (gr_sees hP hE.len hi 13).mono ?_;rw [H13.out];rintro e ws ⟨rfl,hgs⟩;have hPs := hP.kept hgs (by simp) (by simp)))
   case c3 => unfold maxLen;omega
   case c4 => omega
   case c5 => have := hgr.size;have := hgs.size;have := hg1.size;have := hg2.size;simp at *;omega
   intro v' w3 hown' hgrow _
   have R := ser_step HP.out hS2 hS hf hl hacc hP2 ((((hgr.trans (grown_any hgs)).trans (World.grownBy_alloc _ _ _)).trans hg1).trans hg2) hown hown' hgrow
   clear hown' hgrow hown hown1 hown2
   go_wp2
   go_roundg (toks.length - S2.1)
   case measure => omega
   case rel => exact R
  ·have h13' : pSees toks 13 S = false := by simpa using h13
   have hl : Hid (RES = (acc,S)) := by rw [Hid,← hlex.out];exact serF_end h13'
   have H13 : Hid (pSees toks 13 S = false) := h13'
   clear h13 h13' hlex
   go_wp2_with (go_at_call 67;refine (gr_sees hP hE.len hi 13).mono ?_;rw [H13.out];rintro e ws ⟨rfl,hgs⟩;have hPs := hP.kept hgs (by simp) (by simp))
   go_ret
   rw [hl.out]
   exact ⟨_,rfl,hown.kept hgs (own_none _),hgr.trans (grown_any hgs),hPs,hi⟩
end
end Go.Proofs.YthpcbbnabnlanaaGreatDoor
