import Derived.Test.YthpcbbnabnlanaaGreatDoorM01
import Derived.Test.YthpcbbnabnlanaaGreatDoorM02
import Derived.Test.YthpcbbnabnlanaaGreatDoorM03
import Derived.Deep.AppendLies
import Derived.Deep.QuietTactic
import Derived.BigQuiet
import Derived.Deep.RegionHeld3
import Derived.Deep.DrawnRows
import Derived.Deep.DeepMust
import Derived.Deep.Light
namespace Go.Proofs.YthpcbbnabnlanaaGreatDoor
set_option linter.unusedVariables false
set_option linter.unusedSimpArgs false
section
set_option maxHeartbeats 1000000
set_option maxRecDepth 100000
open Go.RowKit
attribute [local go_sem ↓] Go.wp_at_zero Go.wp_at_succ
structure Wk (w : World) (bw bm : Nat) (i kind line : Int) : Prop where
 c0 : w.cell? ⟨bw,0,none⟩ = some (.pointer (some ⟨bm,0,none⟩))
 c1 : w.cell? ⟨bw,1,none⟩ = some (.int .i64 i)
 c2 : w.cell? ⟨bw,2,none⟩ = some (.int .i64 kind)
 c3 : w.cell? ⟨bw,3,none⟩ = some (.int .i64 line)
 f1 : w.frozen? ⟨bw,1,none⟩ = false
 f2 : w.frozen? ⟨bw,2,none⟩ = false
 f3 : w.frozen? ⟨bw,3,none⟩ = false
 lt : bw < w.heap.size
structure Tk (w : World) (bm gt capt : Nat) (toks : List PTok) : Prop where
 m0 : w.cell? ⟨bm,0,none⟩ = some (.slice (some ⟨gt,0,none⟩) toks.length capt)
 row : ∀ j u,(refCells toks)[j]? = some u → w.cell? ⟨gt,j,none⟩ = some u
 ltm : bm < w.heap.size
 ltg : gt < w.heap.size
theorem Wk.drewN {w : World} {bw bm : Nat} {i k l : Int} (h : Wk w bw bm i k l) (n : Nat) : Wk (w.drewN n) bw bm i k l := ⟨h.c0,h.c1,h.c2,h.c3,h.f1,h.f2,h.f3,h.lt⟩
theorem Wk.drew {w : World} {bw bm : Nat} {i k l : Int} (h : Wk w bw bm i k l) : Wk w.drew bw bm i k l := ⟨h.c0,h.c1,h.c2,h.c3,h.f1,h.f2,h.f3,h.lt⟩
theorem Wk.setI {w : World} {bw bm : Nat} {i k l : Int} (h : Wk w bw bm i k l) (j : Int) : Wk (w.setCell ⟨bw,1,none⟩ (.int .i64 j)) bw bm j k l :=
 ⟨(World.cell?_setCell_other _ _ _ _ (by simp)).trans h.c0,World.cell?_setCell_same _ _ _ h.c1,(World.cell?_setCell_other _ _ _ _ (by simp)).trans h.c2,(World.cell?_setCell_other _ _ _ _ (by simp)).trans h.c3,
  (World.frozen?_setCell _ _ _ _).trans h.f1,(World.frozen?_setCell _ _ _ _).trans h.f2,(World.frozen?_setCell _ _ _ _).trans h.f3,by simpa [World.setCell] using h.lt⟩
theorem Wk.setK {w : World} {bw bm : Nat} {i k l : Int} (h : Wk w bw bm i k l) (j : Int) : Wk (w.setCell ⟨bw,2,none⟩ (.int .i64 j)) bw bm i j l :=
 ⟨(World.cell?_setCell_other _ _ _ _ (by simp)).trans h.c0,(World.cell?_setCell_other _ _ _ _ (by simp)).trans h.c1,World.cell?_setCell_same _ _ _ h.c2,(World.cell?_setCell_other _ _ _ _ (by simp)).trans h.c3,
  (World.frozen?_setCell _ _ _ _).trans h.f1,(World.frozen?_setCell _ _ _ _).trans h.f2,(World.frozen?_setCell _ _ _ _).trans h.f3,by simpa [World.setCell] using h.lt⟩
theorem Wk.setL {w : World} {bw bm : Nat} {i k l : Int} (h : Wk w bw bm i k l) (j : Int) : Wk (w.setCell ⟨bw,3,none⟩ (.int .i64 j)) bw bm i k j :=
 ⟨(World.cell?_setCell_other _ _ _ _ (by simp)).trans h.c0,(World.cell?_setCell_other _ _ _ _ (by simp)).trans h.c1,(World.cell?_setCell_other _ _ _ _ (by simp)).trans h.c2,World.cell?_setCell_same _ _ _ h.c3,
  (World.frozen?_setCell _ _ _ _).trans h.f1,(World.frozen?_setCell _ _ _ _).trans h.f2,(World.frozen?_setCell _ _ _ _).trans h.f3,by simpa [World.setCell] using h.lt⟩
theorem Tk.kept {w w' : World} {bw bm gt capt : Nat} {toks : List PTok} (h : Tk w bm gt capt toks) (hg : w.grownBy w' (some bw)) (h1 : bm ≠ bw) (h2 : gt ≠ bw) : Tk w' bm gt capt toks :=
 ⟨hg.cell h.m0 (by simpa using h1),fun j u hu => hg.cell (h.row j u hu) (by simpa using h2),Nat.lt_of_lt_of_le h.ltm hg.size,Nat.lt_of_lt_of_le h.ltg hg.size⟩
theorem cell_set (W : World) (b o : Nat) (u : Value) (b' o' : Nat) (h : b' ≠ b ∨ o' ≠ o) : (W.setCell ⟨b,o,none⟩ u).cell? ⟨b',o',none⟩ = W.cell? ⟨b',o',none⟩ :=
 World.cell?_setCell_other _ _ _ _ (by
  intro e
  simp only [Addr.mk.injEq] at e
  omega)
def peekS (toks : List PTok) (i : Nat) : ByteArray := ((toks[i]?).map (·.s)).getD ⟨#[]⟩
theorem ref_peek (toks : List PTok) (i : Nat) (kind line : Int) (bw bm gt capt : Nat) (w : World) (hn : toks.length ≤ 2000) (hi : i ≤ 4000) (hW : Wk w bw bm i kind line) (hT : Tk w bm gt capt toks) : Calls Tryz.prog 95 #[.pointer (some ⟨bw,0,none⟩)] w fun e w' => e = .returned (.string (peekS toks i)) ∧ w.grownBy w' (some bw) ∧ Wk w' bw bm i kind line := by
 have HW : Hid (Wk w bw bm i kind line) := hW
 obtain ⟨c0,c1,_,_,_,_,_,_⟩ := hW
 obtain ⟨m0,row,_,_⟩ := hT
 by_cases hlt : i < toks.length
 ·obtain ⟨t,htk⟩ : ∃ t,toks[i]? = some t := ⟨toks[i],by simp [hlt]⟩
  have hc0 : w.cell? ⟨gt,i * 3,none⟩ = some (.string t.s) := row _ _ (refCells_get toks i t htk).1
  have hp : Hid (peekS toks i = t.s) := by unfold Hid peekS;rw [htk];rfl
  have hlt' : (i : Int) < toks.length := by omega
  have h0 : (0 : Int) ≤ (i : Int) := by omega
  clear row htk
  go_enter Tryz.func95,Tryz.ntmps95
  go_wp2
  go_quiet (fail)
  go_wp2
  go_quiet (fail)
  go_wp2
  go_ret
  rw [hp.out]
  exact ⟨rfl,(grown_drewN' _ _ _).trans (grown_drewN' _ _ _),(HW.out.drewN _).drewN _⟩
 ·have hp : Hid (peekS toks i = ⟨#[]⟩) := by unfold Hid peekS;rw [List.getElem?_eq_none (by omega)];rfl
  have hlt' : (toks.length : Int) ≤ (i : Int) := by omega
  clear row
  go_enter Tryz.func95,Tryz.ntmps95
  go_wp2
  go_quiet (fail)
  go_wp2
  go_ret
  rw [hp.out]
  exact ⟨rfl,grown_drewN' _ _ _,HW.out.drewN _⟩
def fKind (wrong : Bool) (k kind : Int) : Int := if wrong && kind == 0 then k else kind
def fLine (wrong : Bool) (kind l line : Int) : Int := if wrong && kind == 0 then l else line
def lineAt (toks : List PTok) (i : Nat) : Int := ((toks[i]?).map fun t => (t.line : Int)).getD 0
theorem ref_fault (toks : List PTok) (i : Nat) (wrong : Bool) (k kind line : Int) (bw bm gt capt : Nat) (w : World) (hn : toks.length ≤ 2000) (hi : i < toks.length) (h1 : bm ≠ bw) (h2 : gt ≠ bw) (hW : Wk w bw bm i kind line) (hT : Tk w bm gt capt toks) : Calls Tryz.prog 96 #[.pointer (some ⟨bw,0,none⟩),.bool wrong,.int .i64 k] w fun e w' => e = .returned (.tuple #[]) ∧ w.grownBy w' (some bw) ∧
   Wk w' bw bm i (fKind wrong k kind) (fLine wrong kind (lineAt toks i) line) := by
 have HW : Hid (Wk w bw bm i kind line) := hW
 obtain ⟨c0,c1,c2,c3,f1,f2,f3,_⟩ := hW
 obtain ⟨m0,row,_,_⟩ := hT
 cases wrong with
 | false =>
  go_enter Tryz.func96,Tryz.ntmps96
  go_wp2
  go_end0
  exact ⟨rfl,⟨rfl,rfl,rfl,Nat.le_refl _,fun _ _ _ => rfl⟩,HW.out⟩
 | true =>
  by_cases hk : (kind == 0) = true
  ·obtain ⟨t,htk⟩ : ∃ t,toks[i]? = some t := ⟨toks[i],by simp [hi]⟩
   have hc2 : w.cell? ⟨gt,i * 3 + 2,none⟩ = some (.int .i64 t.line) := row _ _ (refCells_get toks i t htk).2.2
   have hp : Hid (lineAt toks i = t.line) := by unfold Hid lineAt;rw [htk];rfl
   have hlt' : (i : Int) < toks.length := by omega
   have h0 : (0 : Int) ≤ (i : Int) := by omega
   have e1 : Hid (fKind true k kind = k ∧ fLine true kind (lineAt toks i) line = t.line) := by unfold Hid fKind fLine;rw [hk,hp.out];exact ⟨rfl,rfl⟩
   have hset := fun W o u b' o' h => cell_set W bw o u b' o' h
   clear row htk hp
   go_enter Tryz.func96,Tryz.ntmps96
   go_wp2
   go_region_held3 (fun w' => w'.cell? ⟨bw,0,none⟩ = some (.pointer (some ⟨bm,0,none⟩)) ∧ w'.cell? ⟨bw,1,none⟩ = some (.int .i64 i) ∧ w'.cell? ⟨bm,0,none⟩ = some (.slice (some ⟨gt,0,none⟩) toks.length capt) ∧ w'.cell? ⟨gt,i * 3 + 2,none⟩ = some (.int .i64 t.line)) (go_keep) (fail)
   go_wp2
   go_end0
   rw [e1.out.1,e1.out.2]
   exact ⟨rfl,((grown_set _ _ _ _).trans (grown_set _ _ _ _)).trans (grown_drew' _ _),((HW.out.setK k).setL _).drew⟩
  ·have hk : (kind == 0) = false := by simpa using hk
   have e1 : Hid (fKind true k kind = kind ∧ fLine true kind (lineAt toks i) line = line) := by unfold Hid fKind fLine;rw [hk];exact ⟨rfl,rfl⟩
   go_enter Tryz.func96,Tryz.ntmps96
   go_wp2
   go_end0
   rw [e1.out.1,e1.out.2]
   exact ⟨rfl,⟨rfl,rfl,rfl,Nat.le_refl _,fun _ _ _ => rfl⟩,HW.out⟩
theorem ref_next (toks : List PTok) (i : Nat) (kind line : Int) (bw bm gt capt : Nat) (w : World) (hn : toks.length ≤ 2000) (hi : i < toks.length) (h1 : bm ≠ bw) (h2 : gt ≠ bw) (hW : Wk w bw bm i kind line) (hT : Tk w bm gt capt toks) : Calls Tryz.prog 141 #[.pointer (some ⟨bw,0,none⟩)] w fun e w' => e = .returned (.string (peekS toks i)) ∧ w.grownBy w' (some bw) ∧ Wk w' bw bm ((i + 1 : Nat) : Int) kind line := by
 have HW : Hid (Wk w bw bm i kind line) := hW
 obtain ⟨c0,c1,c2,c3,f1,f2,f3,_⟩ := hW
 obtain ⟨m0,row,_,_⟩ := hT
 obtain ⟨t,htk⟩ : ∃ t,toks[i]? = some t := ⟨toks[i],by simp [hi]⟩
 have hc0 : w.cell? ⟨gt,i * 3,none⟩ = some (.string t.s) := row _ _ (refCells_get toks i t htk).1
 have hp : Hid (peekS toks i = t.s) := by unfold Hid peekS;rw [htk];rfl
 have hlt' : (i : Int) < toks.length := by omega
 have h0 : (0 : Int) ≤ (i : Int) := by omega
 clear row htk
 go_enter Tryz.func141,Tryz.ntmps141
 go_wp2
 go_quiet (fail)
 go_wp2
 go_ret
 rw [hp.out]
 exact ⟨rfl,(grown_drewN' _ _ _).trans (grown_set _ _ _ _),by rw [show (((i + 1 : Nat) : Int)) = (i : Int) + 1 by omega];exact (HW.out.drewN _).setI _⟩
def findName (s : ByteArray) : List ByteArray → Nat → Int
 | [],_ => -1
 | a :: l,k => if a.toList == s.toList then (k : Int) else findName s l (k + 1)
def NamesAt (w : World) (v : Value) (size : Nat) (names : List ByteArray) : Prop :=
 (names = [] ∧ v = .slice none 0 0) ∨ ∃ g cap,v = .slice (some ⟨g,0,none⟩) names.length cap ∧ ∀ k a,names[k]? = some a → w.cell? ⟨g,k * size,none⟩ = some (.string a)
theorem ref_varOf (s : ByteArray) (names : List ByteArray) (vv : Value) (bm : Nat) (w : World) (hl : names.length ≤ 100000) (hm : w.cell? ⟨bm,1,none⟩ = some vv) (hN : NamesAt w vv 3 names) : Calls Tryz.prog 140 #[.pointer (some ⟨bm,0,none⟩),.string s] w fun e w' => e = .returned (.int .i64 (findName s names 0)) ∧ w' = w := by
 have HN : Hid (NamesAt w vv 3 names) := hN
 clear hN
 go_enter Tryz.func140,Tryz.ntmps140
 go_wp2
 go_loop [5] (fun vi => ∃ k : Nat,k ≤ names.length ∧ vi = .int .i64 k ∧ Hid (findName s (names.drop k) k = findName s names 0)) (fun vi => names.length - (intOf vi).toNat)
 case atStart => exact ⟨0,by omega,rfl,rfl⟩
 case round =>
  obtain ⟨k,hk,rfl,hF⟩ := hrel
  by_cases hlt : k < names.length
  ·rcases HN.out with ⟨h,_⟩ | ⟨g,cap,rfl,hrow⟩
   ·rw [h] at hlt;simp at hlt
   obtain ⟨a,hka⟩ : ∃ a,names[k]? = some a := ⟨names[k],by simp [hlt]⟩
   have hc := hrow k a hka
   have hd : names.drop k = a :: names.drop (k + 1) := by
    rw [List.drop_eq_getElem_cons hlt]
    simp [hlt] at hka;rw [hka]
   rw [hd] at hF
   have hlt' : (k : Int) < names.length := by omega
   have h0 : (0 : Int) ≤ (k : Int) := by omega
   by_cases he : (a.toList == s.toList) = true
   ·have hR : Hid (findName s names 0 = (k : Int)) := by unfold Hid;rw [← hF.out];simp [findName,he]
    clear hrow hka hd hF
    go_wp2
    go_ret
    exact ⟨ret_int hR.out.symm,rfl⟩
   ·have he : (a.toList == s.toList) = false := by simpa using he
    have hR : Hid (findName s (names.drop (k + 1)) (k + 1) = findName s names 0) := by unfold Hid;rw [← hF.out];simp [findName,he]
    clear hrow hka hd hF
    go_wp2
    go_round
    case rel => exact ⟨k + 1,by omega,by go_num,hR⟩
    case measure => simp [intOf];omega
  ·have hR : Hid (findName s names 0 = -1) := by
    rw [← hF.out,List.drop_eq_nil_of_le (by omega)];rfl
   have hge : (names.length : Int) ≤ (k : Int) := by omega
   obtain ⟨a0,cap,rfl⟩ : ∃ a cap,vv = Value.slice a names.length cap := by
    rcases HN.out with ⟨h,rfl⟩ | ⟨g,cap,rfl,_⟩
    ·exact ⟨_,_,by rw [h];rfl⟩
    ·exact ⟨_,_,rfl⟩
   clear hF hlt
   go_wp2
   go_ret
   exact ⟨ret_int hR.out.symm,rfl⟩
theorem ref_listOf (s : ByteArray) (names : List ByteArray) (vv : Value) (bm : Nat) (w : World) (hl : names.length ≤ 100000) (hm : w.cell? ⟨bm,2,none⟩ = some vv) (hN : NamesAt w vv 2 names) : Calls Tryz.prog 102 #[.pointer (some ⟨bm,0,none⟩),.string s] w fun e w' => e = .returned (.int .i64 (findName s names 0)) ∧ w' = w := by
 have HN : Hid (NamesAt w vv 2 names) := hN
 clear hN
 go_enter Tryz.func102,Tryz.ntmps102
 go_wp2
 go_loop [5] (fun vi => ∃ k : Nat,k ≤ names.length ∧ vi = .int .i64 k ∧ Hid (findName s (names.drop k) k = findName s names 0)) (fun vi => names.length - (intOf vi).toNat)
 case atStart => exact ⟨0,by omega,rfl,rfl⟩
 case round =>
  obtain ⟨k,hk,rfl,hF⟩ := hrel
  by_cases hlt : k < names.length
  ·rcases HN.out with ⟨h,_⟩ | ⟨g,cap,rfl,hrow⟩
   ·rw [h] at hlt;simp at hlt
   obtain ⟨a,hka⟩ : ∃ a,names[k]? = some a := ⟨names[k],by simp [hlt]⟩
   have hc := hrow k a hka
   have hd : names.drop k = a :: names.drop (k + 1) := by
    rw [List.drop_eq_getElem_cons hlt]
    simp [hlt] at hka;rw [hka]
   rw [hd] at hF
   have hlt' : (k : Int) < names.length := by omega
   have h0 : (0 : Int) ≤ (k : Int) := by omega
   by_cases he : (a.toList == s.toList) = true
   ·have hR : Hid (findName s names 0 = (k : Int)) := by unfold Hid;rw [← hF.out];simp [findName,he]
    clear hrow hka hd hF
    go_wp2
    go_ret
    exact ⟨ret_int hR.out.symm,rfl⟩
   ·have he : (a.toList == s.toList) = false := by simpa using he
    have hR : Hid (findName s (names.drop (k + 1)) (k + 1) = findName s names 0) := by unfold Hid;rw [← hF.out];simp [findName,he]
    clear hrow hka hd hF
    go_wp2
    go_round
    case rel => exact ⟨k + 1,by omega,by go_num,hR⟩
    case measure => simp [intOf];omega
  ·have hR : Hid (findName s names 0 = -1) := by
    rw [← hF.out,List.drop_eq_nil_of_le (by omega)];rfl
   have hge : (names.length : Int) ≤ (k : Int) := by omega
   obtain ⟨a0,cap,rfl⟩ : ∃ a cap,vv = Value.slice a names.length cap := by
    rcases HN.out with ⟨h,rfl⟩ | ⟨g,cap,rfl,_⟩
    ·exact ⟨_,_,by rw [h];rfl⟩
    ·exact ⟨_,_,rfl⟩
   clear hF hlt
   go_wp2
   go_ret
   exact ⟨ret_int hR.out.symm,rfl⟩
end
section
set_option maxHeartbeats 1000000
set_option maxRecDepth 100000
open Go.RowKit
attribute [local go_sem ↓] Go.wp_at_zero Go.wp_at_succ
theorem hide {p : Prop} (h : p) : Hid p := h
theorem unhide {p : Prop} (h : Hid p) : p := h
def outB (n most : Int) : Bool := decide (n < -most) || decide (most < n)
theorem ref_bounded (toks : List PTok) (i : Nat) (most kind line : Int) (bw bm gt capt : Nat) (w : World) (hn : toks.length ≤ 2000) (hi : i < toks.length) (h1 : bm ≠ bw) (h2 : gt ≠ bw) (hm0 : 0 ≤ most) (hm1 : most ≤ 10000000) (hI : IsInt (peekS toks i)) (hW : Wk w bw bm i kind line) (hT : Tk w bm gt capt toks) : Calls Tryz.prog 98 #[.pointer (some ⟨bw,0,none⟩),.int .i64 most] w fun e w' => e = .returned (.int .i64 (intVal (peekS toks i))) ∧ w.grownBy w' (some bw) ∧
   Wk w' bw bm ((i : Int) + 1) (fKind (outB (intVal (peekS toks i)) most) 5 kind) (fLine (outB (intVal (peekS toks i)) most) kind (lineAt toks i) line) := by
 have HW : Hid (Wk w bw bm i kind line) := hW
 have HT : Hid (Tk w bm gt capt toks) := hT
 have HI : Hid (IsInt (peekS toks i)) := hI
 clear hW hT hI
 obtain ⟨s,hs⟩ : ∃ s,peekS toks i = s := ⟨_,rfl⟩
 rw [hs] at HI ⊢
 have HS : Hid (peekS toks i = s) := hs
 obtain ⟨n,hnv⟩ : ∃ n,intVal s = n := ⟨_,rfl⟩
 rw [hnv]
 have HNV : Hid (intVal s = n) := hnv
 clear hs hnv
 by_cases hlo : n < -most
 ·have HB : Hid (outB n most = true) := by unfold Hid outB;simp [hlo]
  have hpk := ref_peek toks i kind line bw bm gt capt w hn (by omega) HW.out HT.out
  rw [HS.out] at hpk
  have hnu := fun w => ref_number s HI.out w
  rw [HNV.out] at hnu
  have HPK := hide hpk
  have HNU := hide hnu
  clear hpk hnu
  go_enter Tryz.func98,Tryz.ntmps98
  go_wp2_with fail
  refine (unhide HPK).mono ?_
  rintro e w1 ⟨rfl,hg1,hW1⟩
  have HW1 : Hid (Wk w1 bw bm i kind line) := hW1
  have HT1 : Hid (Tk w1 bm gt capt toks) := HT.out.kept hg1 h1 h2
  have HG1 : Hid (w.grownBy w1 (some bw)) := hg1
  clear hW1 hg1
  go_wp2_with fail
  refine (unhide HNU _).mono ?_
  rintro e w2 ⟨rfl,hww⟩
  subst w2
  go_wp2_with fail
  refine (ref_fault toks i true 5 kind line bw bm gt capt _ hn hi h1 h2 HW1.out HT1.out).mono ?_
  rintro e w2 ⟨rfl,hg2,hW2⟩
  have HW2 : Hid (Wk w2 bw bm i (fKind true 5 kind) (fLine true kind (lineAt toks i) line)) := hW2
  have HG2 : Hid (w1.grownBy w2 (some bw)) := hg2
  obtain ⟨c0,c1,c2,c3,f1,f2,f3,_⟩ := hW2
  clear hg2
  go_wp2
  go_ret
  refine ⟨rfl,(HG1.out.trans HG2.out).trans (grown_set _ _ _ _),?_⟩
  rw [HB.out]
  exact HW2.out.setI _
 ·by_cases hhi : most < n
  ·have HB : Hid (outB n most = true) := by unfold Hid outB;simp [hhi]
   have hpk := ref_peek toks i kind line bw bm gt capt w hn (by omega) HW.out HT.out
   rw [HS.out] at hpk
   have hnu := fun w => ref_number s HI.out w
   rw [HNV.out] at hnu
   have HPK := hide hpk
   have HNU := hide hnu
   clear hpk hnu
   go_enter Tryz.func98,Tryz.ntmps98
   go_wp2_with fail
   refine (unhide HPK).mono ?_
   rintro e w1 ⟨rfl,hg1,hW1⟩
   have HW1 : Hid (Wk w1 bw bm i kind line) := hW1
   have HT1 : Hid (Tk w1 bm gt capt toks) := HT.out.kept hg1 h1 h2
   have HG1 : Hid (w.grownBy w1 (some bw)) := hg1
   clear hW1 hg1
   go_wp2_with fail
   refine (unhide HNU _).mono ?_
   rintro e w2 ⟨rfl,hww⟩
   subst w2
   go_wp2_with fail
   refine (ref_fault toks i true 5 kind line bw bm gt capt _ hn hi h1 h2 HW1.out HT1.out).mono ?_
   rintro e w2 ⟨rfl,hg2,hW2⟩
   have HW2 : Hid (Wk w2 bw bm i (fKind true 5 kind) (fLine true kind (lineAt toks i) line)) := hW2
   have HG2 : Hid (w1.grownBy w2 (some bw)) := hg2
   obtain ⟨c0,c1,c2,c3,f1,f2,f3,_⟩ := hW2
   clear hg2
   go_wp2
   go_ret
   refine ⟨rfl,(HG1.out.trans HG2.out).trans (grown_set _ _ _ _),?_⟩
   rw [HB.out]
   exact HW2.out.setI _
  ·have HB : Hid (outB n most = false) := by unfold Hid outB;simp;omega
   have hd2 : decide (most < n) = false := by simpa using hhi
   have hd1 : decide (n < -most) = false := by simpa using hlo
   have hpk := ref_peek toks i kind line bw bm gt capt w hn (by omega) HW.out HT.out
   rw [HS.out] at hpk
   have hnu := fun w => ref_number s HI.out w
   rw [HNV.out] at hnu
   have HPK := hide hpk
   have HNU := hide hnu
   clear hpk hnu
   go_enter Tryz.func98,Tryz.ntmps98
   go_wp2_with fail
   refine (unhide HPK).mono ?_
   rintro e w1 ⟨rfl,hg1,hW1⟩
   have HW1 : Hid (Wk w1 bw bm i kind line) := hW1
   have HT1 : Hid (Tk w1 bm gt capt toks) := HT.out.kept hg1 h1 h2
   have HG1 : Hid (w.grownBy w1 (some bw)) := hg1
   clear hW1 hg1
   go_wp2_with fail
   refine (unhide HNU _).mono ?_
   rintro e w2 ⟨rfl,hww⟩
   subst w2
   go_wp2_with fail
   refine (ref_fault toks i false 5 kind line bw bm gt capt _ hn hi h1 h2 HW1.out HT1.out).mono ?_
   rintro e w2 ⟨rfl,hg2,hW2⟩
   have HW2 : Hid (Wk w2 bw bm i (fKind false 5 kind) (fLine false kind (lineAt toks i) line)) := hW2
   have HG2 : Hid (w1.grownBy w2 (some bw)) := hg2
   obtain ⟨c0,c1,c2,c3,f1,f2,f3,_⟩ := hW2
   clear hg2
   go_wp2
   go_ret
   refine ⟨rfl,(HG1.out.trans HG2.out).trans (grown_set _ _ _ _),?_⟩
   rw [HB.out]
   exact HW2.out.setI _
def NotIn (v : Value) (bw : Nat) : Prop := v.ownBlock ≠ some bw
theorem NamesAt.kept {w w' : World} {v : Value} {size bw : Nat} {names : List ByteArray} (h : NamesAt w v size names) (hg : w.grownBy w' (some bw)) (hne : NotIn v bw) : NamesAt w' v size names := by
 rcases h with h | ⟨g,cap,rfl,h⟩
 ·exact .inl h
 ·exact .inr ⟨g,cap,rfl,fun k a ha => hg.cell (h k a ha) (fun e => hne e)⟩
theorem ref_declared (toks : List PTok) (i : Nat) (kind line : Int) (bw bm gt capt : Nat) (vv vl : Value) (names lists : List ByteArray) (w : World) (hn : toks.length ≤ 2000) (hi : i < toks.length) (h1 : bm ≠ bw) (h2 : gt ≠ bw) (hl1 : names.length ≤ 100000) (hl2 : lists.length ≤ 100000) (hM : w.cell? ⟨bm,1,none⟩ = some vv ∧ w.cell? ⟨bm,2,none⟩ = some vl) (hNV : NamesAt w vv 3 names ∧ NamesAt w vl 2 lists) (hNE : NotIn vv bw ∧ NotIn vl bw) (hW : Wk w bw bm i kind line) (hT : Tk w bm gt capt toks) : Calls Tryz.prog 97 #[.pointer (some ⟨bw,0,none⟩)] w fun e w' => e = .returned (.string (peekS toks i)) ∧ w.grownBy w' (some bw) ∧
   Wk w' bw bm ((i : Int) + 1) (fKind (decide (0 ≤ findName (peekS toks i) names 0) || decide (0 ≤ findName (peekS toks i) lists 0)) 4 kind)
    (fLine (decide (0 ≤ findName (peekS toks i) names 0) || decide (0 ≤ findName (peekS toks i) lists 0)) kind (lineAt toks i) line) := by
 have HW : Hid (Wk w bw bm i kind line) := hW
 have HT : Hid (Tk w bm gt capt toks) := hT
 have HM := hide hM
 have HNV := hide hNV
 have HNE := hide hNE
 clear hW hT hM hNV hNE
 obtain ⟨s,hs⟩ : ∃ s,peekS toks i = s := ⟨_,rfl⟩
 rw [hs]
 have HS : Hid (peekS toks i = s) := hs
 obtain ⟨x,hx⟩ : ∃ x,findName s names 0 = x := ⟨_,rfl⟩
 obtain ⟨y,hy⟩ : ∃ y,findName s lists 0 = y := ⟨_,rfl⟩
 rw [hx,hy]
 have HV : Hid (findName s names 0 = x) := hx
 have HL : Hid (findName s lists 0 = y) := hy
 clear hs hx hy
 by_cases hlo : 0 ≤ x
 ·have HB : Hid ((decide (0 ≤ x) || decide (0 ≤ y)) = true) := by unfold Hid;simp [hlo]
  have hpk := ref_peek toks i kind line bw bm gt capt w hn (by omega) HW.out HT.out
  rw [HS.out] at hpk
  have HPK := hide hpk
  clear hpk
  go_enter Tryz.func97,Tryz.ntmps97
  go_wp2_with fail
  refine (unhide HPK).mono ?_
  rintro e w1 ⟨rfl,hg1,hW1⟩
  have HW1 : Hid (Wk w1 bw bm i kind line) := hW1
  have HT1 : Hid (Tk w1 bm gt capt toks) := HT.out.kept hg1 h1 h2
  have HG1 : Hid (w.grownBy w1 (some bw)) := hg1
  have HM1 : Hid (w1.cell? ⟨bm,1,none⟩ = some vv ∧ w1.cell? ⟨bm,2,none⟩ = some vl) := ⟨hg1.cell HM.out.1 (by simpa using h1),hg1.cell HM.out.2 (by simpa using h1)⟩
  have HNV1 : Hid (NamesAt w1 vv 3 names ∧ NamesAt w1 vl 2 lists) := ⟨HNV.out.1.kept hg1 HNE.out.1,HNV.out.2.kept hg1 HNE.out.2⟩
  have c0 := hW1.c0
  clear hW1 hg1
  go_wp2_with fail
  refine (ref_varOf s names vv bm _ hl1 HM1.out.1 HNV1.out.1).mono ?_
  rintro e w2 ⟨rfl,hww⟩
  subst w2
  rw [HV.out]
  go_wp2_with fail
  refine (ref_listOf s lists vl bm _ hl2 HM1.out.2 HNV1.out.2).mono ?_
  rintro e w2 ⟨rfl,hww⟩
  subst w2
  rw [HL.out]
  go_wp2_with fail
  refine (ref_fault toks i true 4 kind line bw bm gt capt _ hn hi h1 h2 HW1.out HT1.out).mono ?_
  rintro e w2 ⟨rfl,hg2,hW2⟩
  have HW2 : Hid (Wk w2 bw bm i (fKind true 4 kind) (fLine true kind (lineAt toks i) line)) := hW2
  have HG2 : Hid (w1.grownBy w2 (some bw)) := hg2
  obtain ⟨d0,d1,d2,d3,f1,f2,f3,_⟩ := hW2
  clear hg2 c0
  go_wp2
  go_ret
  refine ⟨rfl,(HG1.out.trans HG2.out).trans (grown_set _ _ _ _),?_⟩
  rw [HB.out]
  exact HW2.out.setI _
 ·by_cases hhi : 0 ≤ y
  ·have HB : Hid ((decide (0 ≤ x) || decide (0 ≤ y)) = true) := by unfold Hid;simp [hhi]
   have hpk := ref_peek toks i kind line bw bm gt capt w hn (by omega) HW.out HT.out
   rw [HS.out] at hpk
   have HPK := hide hpk
   clear hpk
   go_enter Tryz.func97,Tryz.ntmps97
   go_wp2_with fail
   refine (unhide HPK).mono ?_
   rintro e w1 ⟨rfl,hg1,hW1⟩
   have HW1 : Hid (Wk w1 bw bm i kind line) := hW1
   have HT1 : Hid (Tk w1 bm gt capt toks) := HT.out.kept hg1 h1 h2
   have HG1 : Hid (w.grownBy w1 (some bw)) := hg1
   have HM1 : Hid (w1.cell? ⟨bm,1,none⟩ = some vv ∧ w1.cell? ⟨bm,2,none⟩ = some vl) := ⟨hg1.cell HM.out.1 (by simpa using h1),hg1.cell HM.out.2 (by simpa using h1)⟩
   have HNV1 : Hid (NamesAt w1 vv 3 names ∧ NamesAt w1 vl 2 lists) := ⟨HNV.out.1.kept hg1 HNE.out.1,HNV.out.2.kept hg1 HNE.out.2⟩
   have c0 := hW1.c0
   clear hW1 hg1
   go_wp2_with fail
   refine (ref_varOf s names vv bm _ hl1 HM1.out.1 HNV1.out.1).mono ?_
   rintro e w2 ⟨rfl,hww⟩
   subst w2
   rw [HV.out]
   go_wp2_with fail
   refine (ref_listOf s lists vl bm _ hl2 HM1.out.2 HNV1.out.2).mono ?_
   rintro e w2 ⟨rfl,hww⟩
   subst w2
   rw [HL.out]
   go_wp2_with fail
   refine (ref_fault toks i true 4 kind line bw bm gt capt _ hn hi h1 h2 HW1.out HT1.out).mono ?_
   rintro e w2 ⟨rfl,hg2,hW2⟩
   have HW2 : Hid (Wk w2 bw bm i (fKind true 4 kind) (fLine true kind (lineAt toks i) line)) := hW2
   have HG2 : Hid (w1.grownBy w2 (some bw)) := hg2
   obtain ⟨d0,d1,d2,d3,f1,f2,f3,_⟩ := hW2
   clear hg2 c0
   go_wp2
   go_ret
   refine ⟨rfl,(HG1.out.trans HG2.out).trans (grown_set _ _ _ _),?_⟩
   rw [HB.out]
   exact HW2.out.setI _
  ·have HB : Hid ((decide (0 ≤ x) || decide (0 ≤ y)) = false) := by unfold Hid;simp;omega
   have hd2 : decide (0 ≤ y) = false := by simpa using hhi
   have hd1 : decide (0 ≤ x) = false := by simpa using hlo
   have hpk := ref_peek toks i kind line bw bm gt capt w hn (by omega) HW.out HT.out
   rw [HS.out] at hpk
   have HPK := hide hpk
   clear hpk
   go_enter Tryz.func97,Tryz.ntmps97
   go_wp2_with fail
   refine (unhide HPK).mono ?_
   rintro e w1 ⟨rfl,hg1,hW1⟩
   have HW1 : Hid (Wk w1 bw bm i kind line) := hW1
   have HT1 : Hid (Tk w1 bm gt capt toks) := HT.out.kept hg1 h1 h2
   have HG1 : Hid (w.grownBy w1 (some bw)) := hg1
   have HM1 : Hid (w1.cell? ⟨bm,1,none⟩ = some vv ∧ w1.cell? ⟨bm,2,none⟩ = some vl) := ⟨hg1.cell HM.out.1 (by simpa using h1),hg1.cell HM.out.2 (by simpa using h1)⟩
   have HNV1 : Hid (NamesAt w1 vv 3 names ∧ NamesAt w1 vl 2 lists) := ⟨HNV.out.1.kept hg1 HNE.out.1,HNV.out.2.kept hg1 HNE.out.2⟩
   have c0 := hW1.c0
   clear hW1 hg1
   go_wp2_with fail
   refine (ref_varOf s names vv bm _ hl1 HM1.out.1 HNV1.out.1).mono ?_
   rintro e w2 ⟨rfl,hww⟩
   subst w2
   rw [HV.out]
   go_wp2_with fail
   refine (ref_listOf s lists vl bm _ hl2 HM1.out.2 HNV1.out.2).mono ?_
   rintro e w2 ⟨rfl,hww⟩
   subst w2
   rw [HL.out]
   go_wp2_with fail
   refine (ref_fault toks i false 4 kind line bw bm gt capt _ hn hi h1 h2 HW1.out HT1.out).mono ?_
   rintro e w2 ⟨rfl,hg2,hW2⟩
   have HW2 : Hid (Wk w2 bw bm i (fKind false 4 kind) (fLine false kind (lineAt toks i) line)) := hW2
   have HG2 : Hid (w1.grownBy w2 (some bw)) := hg2
   obtain ⟨d0,d1,d2,d3,f1,f2,f3,_⟩ := hW2
   clear hg2 c0
   go_wp2
   go_ret
   refine ⟨rfl,(HG1.out.trans HG2.out).trans (grown_set _ _ _ _),?_⟩
   rw [HB.out]
   exact HW2.out.setI _
end
section
set_option maxHeartbeats 1000000
set_option maxRecDepth 100000
open Go.RowKit
attribute [local go_sem ↓] Go.wp_at_zero Go.wp_at_succ
structure PVar where
 name : ByteArray
 low : Int
 high : Int
def VarsAt (w : World) (v : Value) (vars : List PVar) : Prop :=
 (vars = [] ∧ v = .slice none 0 0) ∨ ∃ g cap,v = .slice (some ⟨g,0,none⟩) vars.length cap ∧ ∀ k x,vars[k]? = some x →
  w.cell? ⟨g,k * 3,none⟩ = some (.string x.name) ∧ w.cell? ⟨g,k * 3 + 1,none⟩ = some (.int .i64 x.low) ∧ w.cell? ⟨g,k * 3 + 2,none⟩ = some (.int .i64 x.high)
def namesOf (vars : List PVar) : List ByteArray := vars.map (·.name)
theorem VarsAt.names {w : World} {v : Value} {vars : List PVar} (h : VarsAt w v vars) : NamesAt w v 3 (namesOf vars) := by
 rcases h with ⟨rfl,rfl⟩ | ⟨g,cap,rfl,h⟩
 ·exact .inl ⟨rfl,rfl⟩
 ·refine .inr ⟨g,cap,by simp [namesOf],fun k a ha => ?_⟩
  simp only [namesOf,List.getElem?_map,Option.map_eq_some_iff] at ha
  obtain ⟨x,hx,rfl⟩ := ha
  exact (h k x hx).1
theorem VarsAt.kept {w w' : World} {v : Value} {bw : Nat} {vars : List PVar} (h : VarsAt w v vars) (hg : w.grownBy w' (some bw)) (hne : NotIn v bw) : VarsAt w' v vars := by
 rcases h with h | ⟨g,cap,rfl,h⟩
 ·exact .inl h
 ·have hne' : some g ≠ some bw := fun e => hne e
  exact .inr ⟨g,cap,rfl,fun k a ha => ⟨hg.cell (h k a ha).1 hne',hg.cell (h k a ha).2.1 hne',hg.cell (h k a ha).2.2 hne'⟩⟩
theorem Tk.drew {w : World} {bm gt capt : Nat} {toks : List PTok} (h : Tk w bm gt capt toks) : Tk w.drew bm gt capt toks := ⟨h.m0,h.row,h.ltm,h.ltg⟩
theorem findName_bd (s : ByteArray) (l : List ByteArray) (k : Nat) : -1 ≤ findName s l k ∧ findName s l k < k + l.length ∧ (findName s l k = -1 ∨ k ≤ findName s l k) := by
 induction l generalizing k with
 | nil => simp [findName];omega
 | cons a l ih =>
  simp only [findName]
  split
  ·simp;omega
  ·have := ih (k + 1)
   simp;omega
theorem peek_s {toks : List PTok} {i : Nat} {s : ByteArray} (hs : peekS toks i = s) {kind line : Int} {bw bm gt capt : Nat} {w : World} (hn : toks.length ≤ 2000) (hi : i ≤ 4000) (hW : Wk w bw bm i kind line) (hT : Tk w bm gt capt toks) : Calls Tryz.prog 95 #[.pointer (some ⟨bw,0,none⟩)] w fun e w' => e = .returned (.string s) ∧ w.grownBy w' (some bw) ∧ Wk w' bw bm i kind line := by
 rw [← hs];exact ref_peek toks i kind line bw bm gt capt w hn hi hW hT
theorem varOf_x {s : ByteArray} {names : List ByteArray} {x : Int} (hx : findName s names 0 = x) {vv : Value} {bm : Nat} {w : World} (hl : names.length ≤ 100000) (hm : w.cell? ⟨bm,1,none⟩ = some vv) (hN : NamesAt w vv 3 names) : Calls Tryz.prog 140 #[.pointer (some ⟨bm,0,none⟩),.string s] w fun e w' => e = .returned (.int .i64 x) ∧ w' = w := by
 rw [← hx];exact ref_varOf s names vv bm w hl hm hN
def noTruth (vars : List PVar) (x : Int) : Bool := match vars[x.toNat]? with
 | some v => decide (v.low < 0) || decide (1 < v.high)
 | none => false
theorem ref_used_plain (truth : Bool) (toks : List PTok) (i : Nat) (kind line : Int) (bw bm gt capt : Nat) (vv : Value) (names : List ByteArray) (w : World) (hn : toks.length ≤ 2000) (hi : i < toks.length) (h1 : bm ≠ bw) (h2 : gt ≠ bw) (hl : names.length ≤ 100000) (hM : w.cell? ⟨bm,1,none⟩ = some vv) (hNA : NamesAt w vv 3 names) (hNE : NotIn vv bw) (ht : truth = false ∨ findName (peekS toks i) names 0 < 0) (hW : Wk w bw bm i kind line) (hT : Tk w bm gt capt toks) : Calls Tryz.prog 100 #[.pointer (some ⟨bw,0,none⟩),.bool truth] w fun e w' => e = .returned (.int .i64 (findName (peekS toks i) names 0)) ∧ w.grownBy w' (some bw) ∧
   Wk w' bw bm ((i : Int) + 1) (fKind (decide (findName (peekS toks i) names 0 < 0)) 4 kind) (fLine (decide (findName (peekS toks i) names 0 < 0)) kind (lineAt toks i) line) := by
 have HW : Hid (Wk w bw bm i kind line) := hW
 have HT : Hid (Tk w bm gt capt toks) := hT
 have HM := hide hM
 have HNA := hide hNA
 have HNE := hide hNE
 have hi' : i ≤ 4000 := by omega
 have c0 := hW.c0
 obtain ⟨s,hs⟩ : ∃ s,peekS toks i = s := ⟨_,rfl⟩
 rw [hs] at ht ⊢
 have HS : Hid (peekS toks i = s) := hs
 obtain ⟨x,hx⟩ : ∃ x,findName s names 0 = x := ⟨_,rfl⟩
 rw [hx] at ht ⊢
 have HX : Hid (findName s names 0 = x) := hx
 clear hs hx hW hT hM hNA hNE
 by_cases hlo : x < 0
 ·have HB : Hid (decide (x < 0) = true) := by unfold Hid;simp [hlo]
  have hlo' : decide (0 ≤ x) = false := by simp;omega
  clear ht
  go_enter Tryz.func100,Tryz.ntmps100
  go_wp2
  go_region_held3 (fun w' => w'.cell? ⟨bw,0,none⟩ = some (.pointer (some ⟨bm,0,none⟩))) (go_keep)
   (first | (go_at_call 95;refine (peek_s HS.out hn hi' HW.out.drew HT.out.drew).mono ?_;rintro e w1 ⟨rfl,hg1,hW1⟩;have d0 := hW1.c0) | (go_at_call 140;refine (varOf_x HX.out hl (hg1.cell HM.out (by simpa using h1)) (HNA.out.kept ((grown_drew' _ _).trans hg1) HNE.out)).mono ?_;rintro e w2 ⟨rfl,hww⟩;subst w2))
  have HW1 : Hid (Wk w1 bw bm i kind line) := hW1
  have HT1 : Hid (Tk w1 bm gt capt toks) := HT.out.kept ((grown_drew' _ _).trans hg1) h1 h2
  have HG1 : Hid (w.grownBy w1 (some bw)) := (grown_drew' _ _).trans hg1
  have HM1 : Hid (w1.cell? ⟨bm,1,none⟩ = some vv) := hg1.cell HM.out (by simpa using h1)
  clear hW1 hg1 d0
  go_wp2_with fail
  refine (ref_fault toks i true 4 kind line bw bm gt capt _ hn hi h1 h2 HW1.out HT1.out).mono ?_
  rintro e w2 ⟨rfl,hg2,hW2⟩
  have HW2 : Hid (Wk w2 bw bm i (fKind true 4 kind) (fLine true kind (lineAt toks i) line)) := hW2
  have HG2 : Hid (w1.grownBy w2 (some bw)) := hg2
  obtain ⟨q0,q1,q2,q3,f1,f2,f3,_⟩ := hW2
  clear hg2
  go_wp2
  go_ret
  refine ⟨rfl,(HG1.out.trans HG2.out).trans (grown_set _ _ _ _),?_⟩
  rw [HB.out]
  exact HW2.out.setI _
 ·obtain rfl : truth = false := by rcases ht with h | h;exact h;exact absurd h hlo
  have HB : Hid (decide (x < 0) = false) := by unfold Hid;simpa using hlo
  have hlo' : decide (x < 0) = false := by simpa using hlo
  have hlo2 : decide (0 ≤ x) = true := by simp;omega
  clear ht
  go_enter Tryz.func100,Tryz.ntmps100
  go_wp2
  go_region_held3 (fun w' => w'.cell? ⟨bw,0,none⟩ = some (.pointer (some ⟨bm,0,none⟩))) (go_keep)
   (first | (go_at_call 95;refine (peek_s HS.out hn hi' HW.out.drew HT.out.drew).mono ?_;rintro e w1 ⟨rfl,hg1,hW1⟩;have d0 := hW1.c0) | (go_at_call 140;refine (varOf_x HX.out hl (hg1.cell HM.out (by simpa using h1)) (HNA.out.kept ((grown_drew' _ _).trans hg1) HNE.out)).mono ?_;rintro e w2 ⟨rfl,hww⟩;subst w2))
  have HW1 : Hid (Wk w1 bw bm i kind line) := hW1
  have HT1 : Hid (Tk w1 bm gt capt toks) := HT.out.kept ((grown_drew' _ _).trans hg1) h1 h2
  have HG1 : Hid (w.grownBy w1 (some bw)) := (grown_drew' _ _).trans hg1
  have HM1 : Hid (w1.cell? ⟨bm,1,none⟩ = some vv) := hg1.cell HM.out (by simpa using h1)
  clear hW1 hg1 d0
  go_wp2_with fail
  refine (ref_fault toks i false 4 kind line bw bm gt capt _ hn hi h1 h2 HW1.out HT1.out).mono ?_
  rintro e w2 ⟨rfl,hg2,hW2⟩
  have HW2 : Hid (Wk w2 bw bm i (fKind false 4 kind) (fLine false kind (lineAt toks i) line)) := hW2
  have HG2 : Hid (w1.grownBy w2 (some bw)) := hg2
  obtain ⟨q0,q1,q2,q3,f1,f2,f3,_⟩ := hW2
  clear hg2
  go_wp2
  go_ret
  refine ⟨rfl,(HG1.out.trans HG2.out).trans (grown_set _ _ _ _),?_⟩
  rw [HB.out]
  exact HW2.out.setI _
theorem ref_used_truth (toks : List PTok) (i : Nat) (kind line : Int) (bw bm gt capt : Nat) (vv : Value) (vars : List PVar) (w : World) (hn : toks.length ≤ 2000) (hi : i < toks.length) (h1 : bm ≠ bw) (h2 : gt ≠ bw) (hl' : vars.length ≤ 100000) (hM : w.cell? ⟨bm,1,none⟩ = some vv) (hVA : VarsAt w vv vars) (hNE : NotIn vv bw) (ht : 0 ≤ findName (peekS toks i) (namesOf vars) 0) (hW : Wk w bw bm i kind line) (hT : Tk w bm gt capt toks) : Calls Tryz.prog 100 #[.pointer (some ⟨bw,0,none⟩),.bool true] w fun e w' => e = .returned (.int .i64 (findName (peekS toks i) (namesOf vars) 0)) ∧ w.grownBy w' (some bw) ∧
   Wk w' bw bm ((i : Int) + 1) (fKind (noTruth vars (findName (peekS toks i) (namesOf vars) 0)) 7 kind) (fLine (noTruth vars (findName (peekS toks i) (namesOf vars) 0)) kind (lineAt toks i) line) := by
 have HW : Hid (Wk w bw bm i kind line) := hW
 have HT : Hid (Tk w bm gt capt toks) := hT
 have HVA := hide hVA
 have HNA := hide hVA.names
 have HNE := hide hNE
 have hi' : i ≤ 4000 := by omega
 have c0 := hW.c0
 obtain ⟨s,hs⟩ : ∃ s,peekS toks i = s := ⟨_,rfl⟩
 rw [hs] at ht ⊢
 have HS : Hid (peekS toks i = s) := hs
 have hbd := findName_bd s (namesOf vars) 0
 have hnl : (namesOf vars).length = vars.length := by simp [namesOf]
 have hl : (namesOf vars).length ≤ 100000 := by omega
 obtain ⟨X,hX⟩ : ∃ X : Nat,findName s (namesOf vars) 0 = (X : Int) := ⟨(findName s (namesOf vars) 0).toNat,by omega⟩
 rw [hX] at hbd ⊢
 have hXl : X < vars.length := by omega
 have HX : Hid (findName s (namesOf vars) 0 = (X : Int)) := hX
 obtain ⟨v,hv⟩ : ∃ v,vars[X]? = some v := ⟨vars[X],by simp [hXl]⟩
 rcases hVA with ⟨h,_⟩ | ⟨g,cap,rfl,hrow⟩
 ·rw [h] at hXl;simp at hXl
 have HM := hide hM
 have HCV : Hid (w.cell? ⟨g,X * 3 + 1,none⟩ = some (.int .i64 v.low) ∧ w.cell? ⟨g,X * 3 + 2,none⟩ = some (.int .i64 v.high)) := ⟨(hrow X v hv).2.1,(hrow X v hv).2.2⟩
 have HGN : Hid (some g ≠ some bw) := fun e => hNE e
 have hXi : (X : Int) < vars.length := by omega
 have hX0 : (0 : Int) ≤ (X : Int) := by omega
 have hd0 : decide ((X : Int) < 0) = false := by simp
 have hd1 : decide ((0 : Int) ≤ (X : Int)) = true := by simp
 have HNT : Hid (noTruth vars (X : Int) = (decide (v.low < 0) || decide (1 < v.high))) := by
  unfold Hid noTruth;rw [Int.toNat_natCast,hv]
 clear hs hX hW hT hM hNE hrow hv hbd hnl ht
 by_cases hlo : v.low < 0
 ·have HB : Hid (noTruth vars (X : Int) = true) := by unfold Hid;rw [HNT.out];simp [hlo]
  go_enter Tryz.func100,Tryz.ntmps100
  go_wp2
  go_region_held3 (fun w' => w'.cell? ⟨bw,0,none⟩ = some (.pointer (some ⟨bm,0,none⟩))) (go_keep)
   (first | (go_at_call 95;refine (peek_s HS.out hn hi' HW.out.drew HT.out.drew).mono ?_;rintro e w1 ⟨rfl,hg1,hW1⟩;have d0 := hW1.c0) | (go_at_call 140;refine (varOf_x HX.out hl (hg1.cell HM.out (by simpa using h1)) (HNA.out.kept ((grown_drew' _ _).trans hg1) HNE.out)).mono ?_;rintro e w2 ⟨rfl,hww⟩;subst w2))
  have HW1 : Hid (Wk w1 bw bm i kind line) := hW1
  have HT1 : Hid (Tk w1 bm gt capt toks) := HT.out.kept ((grown_drew' _ _).trans hg1) h1 h2
  have HG1 : Hid (w.grownBy w1 (some bw)) := (grown_drew' _ _).trans hg1
  have HM1 : Hid (w1.cell? ⟨bm,1,none⟩ = some (.slice (some ⟨g,0,none⟩) vars.length cap)) := hg1.cell HM.out (by simpa using h1)
  clear hW1 hg1 d0
  go_wp2_with fail
  refine (ref_fault toks i false 4 kind line bw bm gt capt _ hn hi h1 h2 HW1.out HT1.out).mono ?_
  rintro e w2 ⟨rfl,hg2,hW2⟩
  have HW2 : Hid (Wk w2 bw bm i kind line) := hW2
  have HT2 : Hid (Tk w2 bm gt capt toks) := HT1.out.kept hg2 h1 h2
  have HG2 : Hid (w1.grownBy w2 (some bw)) := hg2
  have HVA2 := (HVA.out.kept (HG1.out.trans hg2) HNE.out).names
  have hV2 : w2.cell? ⟨g,X * 3 + 1,none⟩ = some (.int .i64 v.low) ∧ w2.cell? ⟨g,X * 3 + 2,none⟩ = some (.int .i64 v.high) :=
   ⟨hg2.cell (HG1.out.cell HCV.out.1 HGN.out) HGN.out,hg2.cell (HG1.out.cell HCV.out.2 HGN.out) HGN.out⟩
  obtain ⟨hv1,hv2⟩ := hV2
  have hm2 : w2.cell? ⟨bm,1,none⟩ = some (.slice (some ⟨g,0,none⟩) vars.length cap) := hg2.cell HM1.out (by simpa using h1)
  obtain ⟨q0,q1,q2,q3,f1,f2,f3,_⟩ := hW2
  clear hg2 HVA2
  go_wp2_with fail
  refine (ref_fault toks i true 7 kind line bw bm gt capt _ hn hi h1 h2 HW2.out HT2.out).mono ?_
  rintro e w3 ⟨rfl,hg3,hW3⟩
  have HW3 : Hid (Wk w3 bw bm i (fKind true 7 kind) (fLine true kind (lineAt toks i) line)) := hW3
  have HG3 : Hid (w2.grownBy w3 (some bw)) := hg3
  clear q0 q1 q2 q3 f1 f2 f3 hv1 hv2 hm2
  obtain ⟨q0,q1,q2,q3,f1,f2,f3,_⟩ := hW3
  clear hg3
  go_wp2
  go_ret
  refine ⟨rfl,((HG1.out.trans HG2.out).trans HG3.out).trans (grown_set _ _ _ _),?_⟩
  rw [HB.out]
  exact HW3.out.setI _
 ·by_cases hhi : 1 < v.high
  ·have HB : Hid (noTruth vars (X : Int) = true) := by unfold Hid;rw [HNT.out];simp [hhi]
   have hdl : decide (v.low < 0) = false := by simpa using hlo
   have hdh : decide (1 < v.high) = true := by simpa using hhi
   go_enter Tryz.func100,Tryz.ntmps100
   go_wp2
   go_region_held3 (fun w' => w'.cell? ⟨bw,0,none⟩ = some (.pointer (some ⟨bm,0,none⟩))) (go_keep)
    (first | (go_at_call 95;refine (peek_s HS.out hn hi' HW.out.drew HT.out.drew).mono ?_;rintro e w1 ⟨rfl,hg1,hW1⟩;have d0 := hW1.c0) | (go_at_call 140;refine (varOf_x HX.out hl (hg1.cell HM.out (by simpa using h1)) (HNA.out.kept ((grown_drew' _ _).trans hg1) HNE.out)).mono ?_;rintro e w2 ⟨rfl,hww⟩;subst w2))
   have HW1 : Hid (Wk w1 bw bm i kind line) := hW1
   have HT1 : Hid (Tk w1 bm gt capt toks) := HT.out.kept ((grown_drew' _ _).trans hg1) h1 h2
   have HG1 : Hid (w.grownBy w1 (some bw)) := (grown_drew' _ _).trans hg1
   have HM1 : Hid (w1.cell? ⟨bm,1,none⟩ = some (.slice (some ⟨g,0,none⟩) vars.length cap)) := hg1.cell HM.out (by simpa using h1)
   clear hW1 hg1 d0
   go_wp2_with fail
   refine (ref_fault toks i false 4 kind line bw bm gt capt _ hn hi h1 h2 HW1.out HT1.out).mono ?_
   rintro e w2 ⟨rfl,hg2,hW2⟩
   have HW2 : Hid (Wk w2 bw bm i kind line) := hW2
   have HT2 : Hid (Tk w2 bm gt capt toks) := HT1.out.kept hg2 h1 h2
   have HG2 : Hid (w1.grownBy w2 (some bw)) := hg2
   have HVA2 := (HVA.out.kept (HG1.out.trans hg2) HNE.out).names
   have hV2 : w2.cell? ⟨g,X * 3 + 1,none⟩ = some (.int .i64 v.low) ∧ w2.cell? ⟨g,X * 3 + 2,none⟩ = some (.int .i64 v.high) :=
    ⟨hg2.cell (HG1.out.cell HCV.out.1 HGN.out) HGN.out,hg2.cell (HG1.out.cell HCV.out.2 HGN.out) HGN.out⟩
   obtain ⟨hv1,hv2⟩ := hV2
   have hm2 : w2.cell? ⟨bm,1,none⟩ = some (.slice (some ⟨g,0,none⟩) vars.length cap) := hg2.cell HM1.out (by simpa using h1)
   obtain ⟨q0,q1,q2,q3,f1,f2,f3,_⟩ := hW2
   clear hg2 HVA2
   go_wp2_with fail
   refine (ref_fault toks i true 7 kind line bw bm gt capt _ hn hi h1 h2 HW2.out HT2.out).mono ?_
   rintro e w3 ⟨rfl,hg3,hW3⟩
   have HW3 : Hid (Wk w3 bw bm i (fKind true 7 kind) (fLine true kind (lineAt toks i) line)) := hW3
   have HG3 : Hid (w2.grownBy w3 (some bw)) := hg3
   clear q0 q1 q2 q3 f1 f2 f3 hv1 hv2 hm2
   obtain ⟨q0,q1,q2,q3,f1,f2,f3,_⟩ := hW3
   clear hg3
   go_wp2
   go_ret
   refine ⟨rfl,((HG1.out.trans HG2.out).trans HG3.out).trans (grown_set _ _ _ _),?_⟩
   rw [HB.out]
   exact HW3.out.setI _
  ·have HB : Hid (noTruth vars (X : Int) = false) := by unfold Hid;rw [HNT.out];simp;omega
   have hdl : decide (v.low < 0) = false := by simpa using hlo
   have hdh : decide (1 < v.high) = false := by simpa using hhi
   go_enter Tryz.func100,Tryz.ntmps100
   go_wp2
   go_region_held3 (fun w' => w'.cell? ⟨bw,0,none⟩ = some (.pointer (some ⟨bm,0,none⟩))) (go_keep)
    (first | (go_at_call 95;refine (peek_s HS.out hn hi' HW.out.drew HT.out.drew).mono ?_;rintro e w1 ⟨rfl,hg1,hW1⟩;have d0 := hW1.c0) | (go_at_call 140;refine (varOf_x HX.out hl (hg1.cell HM.out (by simpa using h1)) (HNA.out.kept ((grown_drew' _ _).trans hg1) HNE.out)).mono ?_;rintro e w2 ⟨rfl,hww⟩;subst w2))
   have HW1 : Hid (Wk w1 bw bm i kind line) := hW1
   have HT1 : Hid (Tk w1 bm gt capt toks) := HT.out.kept ((grown_drew' _ _).trans hg1) h1 h2
   have HG1 : Hid (w.grownBy w1 (some bw)) := (grown_drew' _ _).trans hg1
   have HM1 : Hid (w1.cell? ⟨bm,1,none⟩ = some (.slice (some ⟨g,0,none⟩) vars.length cap)) := hg1.cell HM.out (by simpa using h1)
   clear hW1 hg1 d0
   go_wp2_with fail
   refine (ref_fault toks i false 4 kind line bw bm gt capt _ hn hi h1 h2 HW1.out HT1.out).mono ?_
   rintro e w2 ⟨rfl,hg2,hW2⟩
   have HW2 : Hid (Wk w2 bw bm i kind line) := hW2
   have HT2 : Hid (Tk w2 bm gt capt toks) := HT1.out.kept hg2 h1 h2
   have HG2 : Hid (w1.grownBy w2 (some bw)) := hg2
   have HVA2 := (HVA.out.kept (HG1.out.trans hg2) HNE.out).names
   have hV2 : w2.cell? ⟨g,X * 3 + 1,none⟩ = some (.int .i64 v.low) ∧ w2.cell? ⟨g,X * 3 + 2,none⟩ = some (.int .i64 v.high) :=
    ⟨hg2.cell (HG1.out.cell HCV.out.1 HGN.out) HGN.out,hg2.cell (HG1.out.cell HCV.out.2 HGN.out) HGN.out⟩
   obtain ⟨hv1,hv2⟩ := hV2
   have hm2 : w2.cell? ⟨bm,1,none⟩ = some (.slice (some ⟨g,0,none⟩) vars.length cap) := hg2.cell HM1.out (by simpa using h1)
   obtain ⟨q0,q1,q2,q3,f1,f2,f3,_⟩ := hW2
   clear hg2 HVA2
   go_wp2_with fail
   refine (ref_fault toks i false 7 kind line bw bm gt capt _ hn hi h1 h2 HW2.out HT2.out).mono ?_
   rintro e w3 ⟨rfl,hg3,hW3⟩
   have HW3 : Hid (Wk w3 bw bm i (fKind false 7 kind) (fLine false kind (lineAt toks i) line)) := hW3
   have HG3 : Hid (w2.grownBy w3 (some bw)) := hg3
   clear q0 q1 q2 q3 f1 f2 f3 hv1 hv2 hm2
   obtain ⟨q0,q1,q2,q3,f1,f2,f3,_⟩ := hW3
   clear hg3
   go_wp2
   go_ret
   refine ⟨rfl,((HG1.out.trans HG2.out).trans HG3.out).trans (grown_set _ _ _ _),?_⟩
   rw [HB.out]
   exact HW3.out.setI _
end
section
open Go.RowKit
structure Ctx (w : World) (bw bm gt capt : Nat) (toks : List PTok) (vv : Value) (vars : List PVar) (i : Nat) (kind line : Int) : Prop where
 wk : Wk w bw bm i kind line
 tk : Tk w bm gt capt toks
 hm : w.cell? ⟨bm,1,none⟩ = some vv
 va : VarsAt w vv vars
 ne : NotIn vv bw
 h1 : bm ≠ bw
 h2 : gt ≠ bw
 hn : toks.length ≤ 2000
 hl : vars.length ≤ 100000
 vlt : ∀ b,vv.ownBlock = some b → b < w.heap.size
structure Far (bw bm gt : Nat) (vv : Value) (q : Nat) : Prop where
 a : q ≠ bw
 b : q ≠ bm
 c : q ≠ gt
 d : vv.ownBlock ≠ some q
variable {w w' : World} {bw bm gt capt : Nat} {toks : List PTok} {vv : Value} {vars : List PVar} {i : Nat} {kind line : Int}
theorem Ctx.far_new (h : Ctx w bw bm gt capt toks vv vars i kind line) {b : Nat} (hb : w.heap.size ≤ b) : Far bw bm gt vv b :=
 ⟨by have := h.wk.lt;omega,by have := h.tk.ltm;omega,by have := h.tk.ltg;omega,fun e => by have := h.vlt b e;omega⟩
theorem Ctx.frame (h : Ctx w bw bm gt capt toks vv vars i kind line) (hs : w.heap.size ≤ w'.heap.size) (hbw : w'.heap[bw]? = w.heap[bw]?) (hbm : w'.heap[bm]? = w.heap[bm]?) (hgt : w'.heap[gt]? = w.heap[gt]?) (hv : ∀ b,vv.ownBlock = some b → w'.heap[b]? = w.heap[b]?) : Ctx w' bw bm gt capt toks vv vars i kind line where
 wk := ⟨(World.cell?_of_block (a := ⟨bw,0,none⟩) hbw).trans h.wk.c0,(World.cell?_of_block (a := ⟨bw,1,none⟩) hbw).trans h.wk.c1,(World.cell?_of_block (a := ⟨bw,2,none⟩) hbw).trans h.wk.c2,(World.cell?_of_block (a := ⟨bw,3,none⟩) hbw).trans h.wk.c3,
  (World.frozen?_of_block (a := ⟨bw,1,none⟩) hbw).trans h.wk.f1,(World.frozen?_of_block (a := ⟨bw,2,none⟩) hbw).trans h.wk.f2,(World.frozen?_of_block (a := ⟨bw,3,none⟩) hbw).trans h.wk.f3,Nat.lt_of_lt_of_le h.wk.lt hs⟩
 tk := ⟨(World.cell?_of_block (a := ⟨bm,0,none⟩) hbm).trans h.tk.m0,fun j u hu => (World.cell?_of_block (a := ⟨gt,j,none⟩) hgt).trans (h.tk.row j u hu),Nat.lt_of_lt_of_le h.tk.ltm hs,Nat.lt_of_lt_of_le h.tk.ltg hs⟩
 hm := (World.cell?_of_block (a := ⟨bm,1,none⟩) hbm).trans h.hm
 va := by
  rcases h.va with x | ⟨g,cap,rfl,hr⟩
  ·exact .inl x
  ·have e := hv g rfl
   exact .inr ⟨g,cap,rfl,fun k a ha => ⟨(World.cell?_of_block (a := ⟨g,k * 3,none⟩) e).trans (hr k a ha).1,(World.cell?_of_block (a := ⟨g,k * 3 + 1,none⟩) e).trans (hr k a ha).2.1,(World.cell?_of_block (a := ⟨g,k * 3 + 2,none⟩) e).trans (hr k a ha).2.2⟩⟩
 ne := h.ne
 h1 := h.h1
 h2 := h.h2
 hn := h.hn
 hl := h.hl
 vlt := fun b hb => Nat.lt_of_lt_of_le (h.vlt b hb) hs
theorem Ctx.grown (h : Ctx w bw bm gt capt toks vv vars i kind line) {row : Option Nat} (hg : w.grownBy w' row) (hr : ∀ b,row = some b → Far bw bm gt vv b) : Ctx w' bw bm gt capt toks vv vars i kind line :=
 h.frame hg.size (hg.block bw h.wk.lt (fun e => (hr bw e.symm).a rfl)) (hg.block bm h.tk.ltm (fun e => (hr bm e.symm).b rfl)) (hg.block gt h.tk.ltg (fun e => (hr gt e.symm).c rfl))
  (fun b hb => hg.block b (h.vlt b hb) (fun e => (hr b e.symm).d hb))
theorem Ctx.alloc (h : Ctx w bw bm gt capt toks vv vars i kind line) (o : Obj) : Ctx (w.alloc o) bw bm gt capt toks vv vars i kind line := h.grown (World.grownBy_alloc w o none) (fun _ e => by cases e)
theorem Ctx.drew (h : Ctx w bw bm gt capt toks vv vars i kind line) : Ctx w.drew bw bm gt capt toks vv vars i kind line := h.grown (grown_drew' w none) (fun _ e => by cases e)
theorem Ctx.drewN (h : Ctx w bw bm gt capt toks vv vars i kind line) (n : Nat) : Ctx (w.drewN n) bw bm gt capt toks vv vars i kind line := h.grown (grown_drewN' w n none) (fun _ e => by cases e)
theorem Ctx.setFar (h : Ctx w bw bm gt capt toks vv vars i kind line) {b : Nat} (hb : Far bw bm gt vv b) (o : Nat) (u : Value) : Ctx (w.setCell ⟨b,o,none⟩ u) bw bm gt capt toks vv vars i kind line :=
 h.grown (grown_set w b o u) (fun _ e => by cases e;exact hb)
theorem Ctx.kept (h : Ctx w bw bm gt capt toks vv vars i kind line) (hg : w.grownBy w' (some bw)) {j : Nat} {k l : Int} (hW : Wk w' bw bm j k l) : Ctx w' bw bm gt capt toks vv vars j k l where
 wk := hW
 tk := h.tk.kept hg h.h1 h.h2
 hm := hg.cell h.hm (by simpa using h.h1)
 va := h.va.kept hg h.ne
 ne := h.ne
 h1 := h.h1
 h2 := h.h2
 hn := h.hn
 hl := h.hl
 vlt := fun b hb => Nat.lt_of_lt_of_le (h.vlt b hb) hg.size
theorem Ctx.setI (h : Ctx w bw bm gt capt toks vv vars i kind line) (j : Nat) : Ctx (w.setCell ⟨bw,1,none⟩ (.int .i64 j)) bw bm gt capt toks vv vars j kind line :=
 h.kept (grown_set _ _ _ _) (h.wk.setI _)
theorem ctx_peek (h : Ctx w bw bm gt capt toks vv vars i kind line) (hi : i ≤ 4000) : Calls Tryz.prog 95 #[.pointer (some ⟨bw,0,none⟩)] w fun e w' => e = .returned (.string (peekS toks i)) ∧ w.grownBy w' (some bw) ∧ Ctx w' bw bm gt capt toks vv vars i kind line :=
 (ref_peek toks i kind line bw bm gt capt w h.hn hi h.wk h.tk).mono fun e w' ⟨h1,h2,h3⟩ => ⟨h1,h2,h.kept h2 h3⟩
theorem ctx_next (h : Ctx w bw bm gt capt toks vv vars i kind line) (hi : i < toks.length) : Calls Tryz.prog 141 #[.pointer (some ⟨bw,0,none⟩)] w fun e w' => e = .returned (.string (peekS toks i)) ∧ w.grownBy w' (some bw) ∧ Ctx w' bw bm gt capt toks vv vars (i + 1) kind line :=
 (ref_next toks i kind line bw bm gt capt w h.hn hi h.h1 h.h2 h.wk h.tk).mono fun e w' ⟨h1,h2,h3⟩ => ⟨h1,h2,h.kept h2 h3⟩
theorem ctx_fault (h : Ctx w bw bm gt capt toks vv vars i kind line) (hi : i < toks.length) (wrong : Bool) (k : Int) : Calls Tryz.prog 96 #[.pointer (some ⟨bw,0,none⟩),.bool wrong,.int .i64 k] w fun e w' => e = .returned (.tuple #[]) ∧ w.grownBy w' (some bw) ∧
   Ctx w' bw bm gt capt toks vv vars i (fKind wrong k kind) (fLine wrong kind (lineAt toks i) line) :=
 (ref_fault toks i wrong k kind line bw bm gt capt w h.hn hi h.h1 h.h2 h.wk h.tk).mono fun e w' ⟨h1,h2,h3⟩ => ⟨h1,h2,h.kept h2 h3⟩
theorem ctx_bounded (h : Ctx w bw bm gt capt toks vv vars i kind line) (hi : i < toks.length) (most : Int) (hm0 : 0 ≤ most) (hm1 : most ≤ 10000000) (hI : IsInt (peekS toks i)) : Calls Tryz.prog 98 #[.pointer (some ⟨bw,0,none⟩),.int .i64 most] w fun e w' => e = .returned (.int .i64 (intVal (peekS toks i))) ∧ w.grownBy w' (some bw) ∧
   Ctx w' bw bm gt capt toks vv vars (i + 1) (fKind (outB (intVal (peekS toks i)) most) 5 kind) (fLine (outB (intVal (peekS toks i)) most) kind (lineAt toks i) line) :=
 (ref_bounded toks i most kind line bw bm gt capt w h.hn hi h.h1 h.h2 hm0 hm1 hI h.wk h.tk).mono fun e w' ⟨h1,h2,h3⟩ => ⟨h1,h2,h.kept h2 h3⟩
def varX (vars : List PVar) (s : ByteArray) : Int := findName s (namesOf vars) 0
theorem ctx_used (h : Ctx w bw bm gt capt toks vv vars i kind line) (hi : i < toks.length) : Calls Tryz.prog 100 #[.pointer (some ⟨bw,0,none⟩),.bool false] w fun e w' => e = .returned (.int .i64 (varX vars (peekS toks i))) ∧ w.grownBy w' (some bw) ∧
   Ctx w' bw bm gt capt toks vv vars (i + 1) (fKind (decide (varX vars (peekS toks i) < 0)) 4 kind) (fLine (decide (varX vars (peekS toks i) < 0)) kind (lineAt toks i) line) :=
 (ref_used_plain false toks i kind line bw bm gt capt vv (namesOf vars) w h.hn hi h.h1 h.h2 (by simp [namesOf];exact h.hl) h.hm h.va.names h.ne (.inl rfl) h.wk h.tk).mono fun e w' ⟨h1,h2,h3⟩ => ⟨h1,h2,h.kept h2 h3⟩
def truthKind (vars : List PVar) (s : ByteArray) (kind : Int) : Int := if varX vars s < 0 then fKind true 4 kind else fKind (noTruth vars (varX vars s)) 7 kind
def truthLine (vars : List PVar) (s : ByteArray) (kind l line : Int) : Int := if varX vars s < 0 then fLine true kind l line else fLine (noTruth vars (varX vars s)) kind l line
theorem ctx_truth (h : Ctx w bw bm gt capt toks vv vars i kind line) (hi : i < toks.length) : Calls Tryz.prog 100 #[.pointer (some ⟨bw,0,none⟩),.bool true] w fun e w' => e = .returned (.int .i64 (varX vars (peekS toks i))) ∧ w.grownBy w' (some bw) ∧
   Ctx w' bw bm gt capt toks vv vars (i + 1) (truthKind vars (peekS toks i) kind) (truthLine vars (peekS toks i) kind (lineAt toks i) line) := by
 unfold truthKind truthLine
 by_cases hx : varX vars (peekS toks i) < 0
 ·rw [if_pos hx,if_pos hx]
  have hd : decide (varX vars (peekS toks i) < 0) = true := by simpa using hx
  refine (ref_used_plain true toks i kind line bw bm gt capt vv (namesOf vars) w h.hn hi h.h1 h.h2 (by simp [namesOf];exact h.hl) h.hm h.va.names h.ne (.inr hx) h.wk h.tk).mono fun e w' ⟨h1,h2,h3⟩ => ⟨h1,h2,?_⟩
  have h4 := h.kept (j := i + 1) h2 h3
  rw [show findName (peekS toks i) (namesOf vars) 0 = varX vars (peekS toks i) from rfl,hd] at h4
  exact h4
 ·rw [if_neg hx,if_neg hx]
  exact (ref_used_truth toks i kind line bw bm gt capt vv vars w h.hn hi h.h1 h.h2 h.hl h.hm h.va h.ne (by show 0 ≤ varX vars (peekS toks i);omega) h.wk h.tk).mono fun e w' ⟨h1,h2,h3⟩ => ⟨h1,h2,h.kept h2 h3⟩
end
section
structure PTerm where
 neg : Bool
 fac : Option PTok
 name : PTok
def TermAt (toks : List PTok) (i : Nat) (t : PTerm) (j : Nat) : Prop :=
 match t.fac with
 | some f => toks[i]? = some f ∧ f.kind = 105 ∧ IsInt f.s ∧ toks[i + 2]? = some t.name ∧ j = i + 3
 | none => toks[i]? = some t.name ∧ t.name.kind ≠ 105 ∧ j = i + 1
def TermsAt (toks : List PTok) : Nat → List PTerm → Nat → Prop
 | i,[],j => i = j
 | i,t :: ts,j => ∃ sg m,toks[i]? = some sg ∧ sg.s.toList = (if t.neg then [45] else [43]) ∧ TermAt toks (i + 1) t m ∧ TermsAt toks m ts j
abbrev FSt := Int × Int
def flt (b : Bool) (k l : Int) (st : FSt) : FSt := (fKind b k st.1,fLine b st.1 l st.2)
def PTerm.head (t : PTerm) : PTok := t.fac.getD t.name
def termSt (vars : List PVar) (k : Nat) (t : PTerm) (st : FSt) : FSt :=
 flt (decide (varX vars t.name.s < 0)) 4 t.name.line
  (match t.fac with
  | some f => flt (outB (intVal f.s) 100) 5 f.line (flt (decide (8 < (k : Int))) 6 f.line st)
  | none => flt (decide (8 < (k : Int))) 6 t.name.line st)
def sgn (b : Bool) : Int := if b then -1 else 1
def termPart (vars : List PVar) (t : PTerm) : Int × Int := (match t.fac with | some f => sgn t.neg * intVal f.s | none => sgn t.neg,varX vars t.name.s)
def termsSt (vars : List PVar) : Nat → List PTerm → FSt → FSt
 | _,[],st => st
 | k,t :: ts,st => termsSt vars (k + 1) ts (termSt vars k t st)
def partCells (l : List (Int × Int)) : List Value := l.flatMap fun p => [.int .i64 p.1,.int .i64 p.2]
theorem partCells_snoc (l : List (Int × Int)) (p : Int × Int) : partCells (l ++ [p]) = partCells l ++ [.int .i64 p.1,.int .i64 p.2] := by simp [partCells]
end
end Go.Proofs.YthpcbbnabnlanaaGreatDoor
