/-
  Whatever the arguments, Plainly answers true, and they read afterwards as before. The listed library tables stand as the program's text lays them.
-/
import Derived.Test.YthpcbbnabnlanaaGreatDoorM14
import Derived.Test.YthpcbbnabnlanaaGreatDoorM29
import Derived.Deep.Slices
import Derived.ChangeSlices
namespace Go.Proofs.YthpcbbnabnlanaaGreatDoor
set_option linter.unusedVariables false
set_option linter.unusedSimpArgs false
section
set_option maxRecDepth 100000
open Go.ChangeShapes Go.WideShapes Go.ChangeAt Go.RowKit Go.Deep
variable {H : Type} {enc : TypeId × Value → H} {W : World}
theorem cells_int1 : Tryz.prog.cellsOf 3 = 1 := by kernel_rfl
theorem cell_below {w : World} {b o : Nat} {v : Value} (h : w.cell? ⟨b,o,none⟩ = some v) : b < w.heap.size := by
 rcases Nat.lt_or_ge b w.heap.size with q | q
 ·exact q
 ·simp [World.cell?,Array.getElem?_eq_none q] at h
theorem add_off (b o j : Nat) : (⟨b,o,none⟩ : Addr).add j = ⟨b,o + j,none⟩ := by unfold Addr.add;split <;> simp_all
theorem open_raw {v : Value} {d : DataW H} {ps : List MemPlace} {b0 : Nat} (hval : Value.okWide Tryz.prog W .any b0 33 v) (h : DataW.Trod enc Tryz.prog W 0 (fun _ => true) true 33 v d ps) : ∃ raw : List Int,RawIn W v raw ∧ ∀ x ∈ raw,-9223372036854775808 ≤ x ∧ x ≤ 9223372036854775807 := by
 obtain ⟨a,len,cap,rfl⟩ := okWide_slice Tryz.underlying33 hval
 obtain ⟨fuel,hf⟩ := h
 rcases open_ints Tryz.underlying33 Tryz.underlying3 cells_int1 hf with ⟨h3,hy⟩ | ⟨a',len',cap',zs,h3,_,hlc,hcm,hzl,hy,hcell,hwf⟩
 ·simp only [Value.cells] at h3
  simp at h3
  obtain ⟨rfl,rfl,rfl⟩ := h3
  exact ⟨[],⟨none,0,rfl,fun j x hx => by simp at hx⟩,fun x hx => by cases hx⟩
 ·simp only [Value.cells] at h3
  simp at h3
  obtain ⟨rfl,rfl,rfl⟩ := h3
  simp only [if_true] at hzl
  have hl : (zs.take len).length = len := by simp;omega
  refine ⟨zs.take len,⟨some a',cap,by rw [hl],fun j x hx => ?_⟩,fun x hx => ?_⟩
  ·have hj : j < zs.length := by
    have := (List.getElem?_eq_some_iff.1 hx).1
    simp at this;omega
   have hx' : zs[j]? = some x := by
    rw [List.getElem?_take] at hx;split at hx
    ·exact hx
    ·cases hx
   have q := hcell j hj
   rw [List.getD_eq_getElem?_getD,hx',Option.getD_some] at q
   obtain ⟨b,o,sp⟩ := a'
   have hsp : sp = none := by simpa [Addr.add] using World.cell?_spot (hcell 0 (by omega))
   subst hsp
   have q' : W.cell? ⟨b,o + j,none⟩ = some (.int .i64 x) := by rw [← add_off];exact q
   exact ⟨b,o,rfl,cell_below q',q'⟩
  ·have := hwf x (List.mem_of_mem_take hx)
   exact wf_i64 this
end
section
set_option maxRecDepth 1000000
open Go.ChangeShapes Go.WideShapes Go.ChangeAt Go.RowKit
theorem plainly_readable : ∀ t ∈ Tryz.f14.params.toList,Tryz.prog.readableRec t = true ∧ t < Tryz.prog.types.size := by
 rw [Tryz.params14]
 intro t ht
 simp only [List.mem_cons,List.not_mem_nil,or_false] at ht
 rcases ht with rfl | rfl | rfl <;> exact ⟨by kernel_rfl,of_decide_eq_true (by kernel_rfl)⟩
theorem plainly_contract (H : Type) (enc : TypeId × Value → H) (W : World) (base : Nat) (args : Array Value) (ds gs : List (DataW H)) (before : List MemPlace) (hval : ∀ (j : Nat) t v,Tryz.f14.params[j]? = some t → args[j]? = some v → Value.okWide Tryz.prog W .any base t v) (hW : DataW.Whole enc Tryz.prog Tryz.f14.params.toList Rows.plainlySpec.vars false W args.toList ds gs before) (hL : laidMet Tryz.prog laidAll W) : Calls Tryz.prog 14 args W fun e W' => ∃ v,e = .returned v ∧ Rows.plainlySpec.post enc Tryz.prog Tryz.f14 false true false false W args v W' := by
 have hW' := hW
 obtain ⟨p,q,hA0,hV,rfl,hfz,hnd⟩ := hW
 have hA : DataW.TrodAll enc Tryz.prog W 0 (fun _ => true) true Tryz.f14.params.toList args.toList ds p := hA0
 rw [Tryz.params14] at hA hval
 obtain ⟨v0,vs0,d0,ds0,p0,q0,hargs,rfl,rfl,h0,r0⟩ := trodAll_cons hA
 obtain ⟨v1,vs1,d1,ds1,p1,q1,rfl,rfl,rfl,h1,r1⟩ := trodAll_cons r0
 obtain ⟨v2,vs2,d2,ds2,p2,q2,rfl,rfl,rfl,h2,r2⟩ := trodAll_cons r1
 obtain ⟨rfl,rfl,rfl⟩ := trodAll_nil r2
 obtain rfl : args = #[v0,v1,v2] := by cases args;simp_all
 obtain ⟨rfl,rfl⟩ := trodVars_none hV
 obtain ⟨n0,rfl,rfl,rfl,b0⟩ := open_int Tryz.underlying3 (hval 0 3 v0 rfl rfl) h0
 obtain ⟨c0,c0'⟩ := wf_i64 b0
 obtain ⟨raw1,hr1,hb1⟩ := open_raw (hval 1 33 v1 rfl rfl) h1
 obtain ⟨n2,rfl,rfl,rfl,b2⟩ := open_int Tryz.underlying3 (hval 2 3 v2 rfl rfl) h2
 obtain ⟨c2,c2'⟩ := wf_i64 b2
 refine (kp_Plainly (w := W) n0 n2 hr1 c0 c0' c2 c2' hb1 (pow_of_laid hL) (db_of_laid hL)).mono ?_
 rintro e W' ⟨rfl,hg⟩
 exact ⟨_,rfl,post_true rfl (by kernel_rfl) plainly_readable hW' rfl hg⟩
theorem plainly_reads (os : Os) {H : Type} (enc : TypeId × Value → H) : ∃ places,DataW.whole enc Tryz.prog ((laidWorld Tryz.prog os).forCall (fun _ _ => 0) ⟨#[],#[.int .i64 0,.slice none 0 0,.int .i64 0],[]⟩).memory Tryz.f14.params.toList Rows.plainlySpec.vars false #[Value.int .i64 0,.slice none 0 0,.int .i64 0].toList 8 = some ([.lit (.int .i64 0),.nil,.lit (.int .i64 0)],[],places) :=
 ⟨[],by kernel_rfl⟩
theorem plainly_lifted (os : Os) (started : os.Started) (H : Type) (enc : TypeId × Value → H) (F : Stop.Interp) : ReturnsInHanded {} Tryz.checked os 14 .any ((OpenSpec.ofChange Rows.plainlySpec).preRow enc Tryz.prog Tryz.f14 Rows.plainlyRow.domain false Rows.plainlyRow.laid) (((OpenSpec.ofChange Rows.plainlySpec).at F).post enc Tryz.prog Tryz.f14 false true false false) := by
 obtain ⟨places,hx⟩ := plainly_reads os enc
 refine returnsInHanded_of_row (C := Tryz.checked) (s := OpenSpec.ofChange Rows.plainlySpec) cd_own started (by kernel_rfl) Tryz.func14
  (witness_row_atRef (enc := enc) (C := Tryz.checked) false (laidWorld Tryz.prog os) #[.int .i64 0,.slice none 0 0,.int .i64 0] rfl (by kernel_rfl) (by kernel_rfl) (by kernel_rfl)
   (OpenSpec.preRow_of_cond 8 hx (by kernel_rfl) (fun k hk => by cases hk) (by kernel_rfl) (laid_met os _))) ?_
 intro W base args ds gs before hval hW _ _ _ hL _ _
 exact plainly_contract H enc W base args ds gs before hval hW hL
theorem plainly_said : Rows.PlainlySaid :=
 OpenClaim.holds_of_cond 14 Tryz.f14 rfl rfl rfl rfl rfl rfl rfl ⟨rfl,rfl,rfl,rfl,rfl⟩ rfl rfl rfl rfl rfl (by kernel_rfl) Tryz.func14 (by kernel_rfl)
  (of_decide_eq_true (by kernel_rfl)) (by unfold Func.isWrapper;first | (rw [if_pos (by decide +kernel)];kernel_rfl) | (rw [if_neg (by decide +kernel)];exact ⟨rfl,rfl⟩))
  (fun os started H enc _ F => by rw [OpenClaim.pre_eq_preRow];exact plainly_lifted os started H enc F)
theorem plainly_plain (f : FuncId) (fn : Func) (hf : Tryz.pinned.checked.prog.funcNamed "assay/assaykeep.Plainly" = some f) (hfn : Tryz.pinned.checked.prog.funcs[f]? = some fn) : true = Tryz.pinned.checked.prog.looks [] ∧ ∀ (j : Nat) t,fn.params[j]? = some t → Tryz.pinned.checked.prog.wantsStandIn t = false := by
 obtain rfl : f = 14 := Option.some.inj ((show Tryz.prog.funcNamed "assay/assaykeep.Plainly" = some 14 by kernel_rfl).symm.trans hf) |>.symm
 obtain rfl : fn = Tryz.f14 := (Option.some.inj (Tryz.func14.symm.trans hfn)).symm
 refine ⟨by kernel_rfl,fun j t ht => ?_⟩
 rw [Tryz.params14] at ht
 have hm := Array.mem_of_getElem? ht
 simp only [List.mem_toArray,List.mem_cons,List.not_mem_nil,or_false] at hm
 rcases hm with rfl | rfl | rfl
 ·exact (show Tryz.prog.wantsStandIn 3 = false by kernel_rfl)
 ·exact (show Tryz.prog.wantsStandIn 33 = false by kernel_rfl)
 ·exact (show Tryz.prog.wantsStandIn 3 = false by kernel_rfl)
theorem plainly_holds : Rows.PlainlyCardSaid :=
 Claim7.holds_tied_plain_at .later [] _ _ _ _ plainly_said (fun _ h => by cases h) (by kernel_rfl) (fun _ h => by cases h) plainly_row_tie rfl ⟨rfl,rfl⟩ (by kernel_rfl) rfl plainly_plain (by kernel_rfl)
end
end Go.Proofs.YthpcbbnabnlanaaGreatDoor
