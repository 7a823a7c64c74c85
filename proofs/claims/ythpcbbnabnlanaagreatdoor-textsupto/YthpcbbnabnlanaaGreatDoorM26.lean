import Derived.Test.YthpcbbnabnlanaaGreatDoorM02
import Derived.Test.YthpcbbnabnlanaaGreatDoorM20
import Derived.Test.YthpcbbnabnlanaaGreatDoorM24
import Derived.Deep.OwnRows
namespace Go.Proofs.YthpcbbnabnlanaaGreatDoor
set_option linter.unusedVariables false
set_option linter.unusedSimpArgs false
section
set_option maxHeartbeats 4000000
set_option maxRecDepth 100000
open Go.RowKit
def nmCells (l : List QVar) : List Value := l.map fun v => .string v.name
theorem infoQS : (Tryz.prog.info? 9).map (fun i => (i.zero,i.size,i.bytes)) = some (some (.string .empty),1,16) := by kernel_rfl
theorem nm_take {l : List QVar} {xs : List Value} {i : Nat} {a : QVar} (h1 : xs.length = l.length) (h2 : i < l.length) (ha : l[i]? = some a) (h : xs.take i = nmCells (l.take i)) : (xs.set i (.string a.name)).take (i + 1) = nmCells (l.take (i + 1)) := by
 have e1 : (xs.set i (.string a.name))[i]? = some (.string a.name) := by simp [h1,h2]
 rw [List.take_add_one,e1,List.take_set_of_le (Nat.le_refl i),h,List.take_add_one,ha]
 simp [nmCells]
def NmRel (l : List QVar) (w : World) (vi : Value) (wr : World) : Prop :=
 ∃ i : Nat,i ≤ l.length ∧ vi = .int .i64 i ∧ w.grownBy wr none ∧ ∃ xs,wr.ownsRow w.heap.size 9 1 (.slice (some ⟨w.heap.size,0,none⟩) l.length l.length) l.length xs ∧ xs.take i = nmCells (l.take i)
theorem pn_Names {w : World} {b bc gr cap : Nat} {l : List QVar} (hb : w.cell? ⟨b,1,none⟩ = some (.pointer (some ⟨bc,1,none⟩))) (hr : RowIn w (.slice (some ⟨gr,0,none⟩) l.length cap) gr cap qvCell l) (hv : w.cell? ⟨bc,1,none⟩ = some (.slice (some ⟨gr,0,none⟩) l.length cap)) (hl : l.length ≤ 3000) (hlb : b < w.heap.size) (hlc : bc < w.heap.size) : Calls Tryz.prog 31 #[.pointer (some ⟨b,0,none⟩)] w fun e w' => e = .returned (.slice (some ⟨w.heap.size,0,none⟩) l.length l.length) ∧ w'.ownsRow w.heap.size 9 1 (.slice (some ⟨w.heap.size,0,none⟩) l.length l.length) l.length (nmCells l) ∧ w.grownBy w' none := by
 have hmk := run_make_row' (P := Tryz.prog) 37 9 (.string .empty) 16 Tryz.underlying37 infoQS rfl .i64 .i64 l.length (by omega) (by omega)
 have HRW : Hid (RowIn w (.slice (some ⟨gr,0,none⟩) l.length cap) gr cap qvCell l) := hr
 have hgl := hr.lt
 have b2 : ∀ o,(w.alloc o).cell? ⟨b,1,none⟩ = some (.pointer (some ⟨bc,1,none⟩)) := fun o => (World.grownBy_alloc w o none).cell hb (by simp)
 have v2 : ∀ o,(w.alloc o).cell? ⟨bc,1,none⟩ = some (.slice (some ⟨gr,0,none⟩) l.length cap) := fun o => (World.grownBy_alloc w o none).cell hv (by simp)
 clear hr
 go_enter Tryz.func31,Tryz.ntmps31
 go_wp2
 go_loopw [23] (fun vi wr => NmRel l w vi wr) (fun vi _ => l.length - (intOf vi).toNat)
 case atStart =>
  refine ⟨0,Nat.zero_le _,rfl,World.grownBy_alloc _ _ _,_,⟨?_,.inr ⟨w.heap.size,l.length,_,rfl,Nat.le_refl _,heap_alloc_new w _,Nat.le_refl _,by unfold maxLen;omega,?_,rfl⟩⟩,?_⟩
  ·simp [size_madeCells]
  ·rw [size_madeCells];omega
  ·simp [nmCells]
 case round =>
  obtain ⟨i,hi,rfl,hgr,xs,hown,hxs⟩ := hrel
  by_cases hlt : i < l.length
  ·obtain ⟨a,ha⟩ : ∃ a,l[i]? = some a := ⟨l[i],by simp [hlt]⟩
   have hR := HRW.out.kept hgr (by simp)
   have c0 : wr.cell? ⟨gr,i * 3,none⟩ = some (.string a.name) := hR.at (sz := 3) (fun _ => rfl) ha 0 _ rfl
   have c1 : wr.cell? ⟨gr,i * 3 + 1,none⟩ = some (.int .i64 a.low) := hR.at (sz := 3) (fun _ => rfl) ha 1 _ rfl
   have c2 : wr.cell? ⟨gr,i * 3 + 2,none⟩ = some (.int .i64 a.high) := hR.at (sz := 3) (fun _ => rfl) ha 2 _ rfl
   have hlt3 : (i : Int) < l.length := by omega
   have h03 : (0 : Int) ≤ i := by omega
   have hxl : xs.length = l.length := by simpa using hown.1
   have k1 : wr.cell? ⟨w.heap.size,i,none⟩ = some (xs[i]'(by omega)) := by rw [hown.cellAt i (by omega)];simp [hxl,hlt]
   have k2 := hown.frozenAt i
   have hbl : w.heap.size < wr.heap.size := (hown.lt w.heap.size rfl).2
   have hst := hown.stored i (.string a.name)
   have HN : Hid (∀ o,NmRel l w (.int .i64 ((i : Int) + 1)) ((wr.setCell ⟨w.heap.size,i,none⟩ (.string a.name)).alloc o)) := fun o => by
    refine ⟨i + 1,by omega,by simp,(grown_newr hgr (Nat.le_refl _) hst.2).trans (World.grownBy_alloc _ _ _),xs.set i (.string a.name),hst.1.alloc o,?_⟩
    exact nm_take hxl hlt ha hxs
   clear hst hown hxs
   go_wp2
   go_roundw
   case rel => exact HN.out _
   case measure => simp [intOf];omega
  ·obtain rfl : i = l.length := by omega
   go_wp2
   go_ret
   have hxl : xs.length = l.length := by simpa using hown.1
   rw [List.take_of_length_le (by omega),List.take_of_length_le (Nat.le_refl _)] at hxs
   rw [← hxs]
   exact ⟨rfl,hown,hgr⟩
end
section
set_option maxHeartbeats 4000000
set_option maxRecDepth 100000
open Go.RowKit
theorem pn_Names_nil {w : World} {b bc : Nat} {a : Option Addr} {c : Nat} (hb : w.cell? ⟨b,1,none⟩ = some (.pointer (some ⟨bc,1,none⟩))) (hv : w.cell? ⟨bc,1,none⟩ = some (.slice a 0 c)) (hlb : b < w.heap.size) (hlc : bc < w.heap.size) : Calls Tryz.prog 31 #[.pointer (some ⟨b,0,none⟩)] w fun e w' => e = .returned (.slice (some ⟨w.heap.size,0,none⟩) 0 0) ∧ w' = w.alloc (.cells (madeCells #[.string .empty] 0) 9) := by
 have hmk : ∀ W : World,(Instr.makeSlice 37 (.int .i64 0) (.int .i64 0)).run Tryz.prog W = .ok (.slice (some ⟨W.heap.size,0,none⟩) 0 0) (W.alloc (.cells (madeCells #[.string .empty] 0) 9)) := fun W => run_make_row' (P := Tryz.prog) 37 9 (.string .empty) 16 Tryz.underlying37 infoQS rfl .i64 .i64 0 (by omega) (by omega) W
 have b2 : ∀ o,(w.alloc o).cell? ⟨b,1,none⟩ = some (.pointer (some ⟨bc,1,none⟩)) := fun o => (World.grownBy_alloc w o none).cell hb (by simp)
 have v2 : ∀ o,(w.alloc o).cell? ⟨bc,1,none⟩ = some (.slice a 0 c) := fun o => (World.grownBy_alloc w o none).cell hv (by simp)
 go_enter Tryz.func31,Tryz.ntmps31
 go_wp2
 go_loopg [23] 0 (fun n v wr => v = .int .i64 0 ∧ wr = w.alloc (.cells (madeCells #[.string .empty] 0) 9))
 case atStart => exact ⟨rfl,rfl⟩
 case round =>
  obtain ⟨rfl,rfl⟩ := hrel
  go_wp2
  go_ret
  exact ⟨rfl,rfl⟩
theorem pn_Text {w : World} {b : Nat} {s : ByteArray} (hb : w.cell? ⟨b,0,none⟩ = some (.string s)) : Calls Tryz.prog 30 #[.pointer (some ⟨b,0,none⟩)] w fun e w' => e = .returned (.string s) ∧ w' = w := by
 go_enter Tryz.func30,Tryz.ntmps30
 go_wp2
 go_ret
 exact ⟨rfl,rfl⟩
end
end Go.Proofs.YthpcbbnabnlanaaGreatDoor
