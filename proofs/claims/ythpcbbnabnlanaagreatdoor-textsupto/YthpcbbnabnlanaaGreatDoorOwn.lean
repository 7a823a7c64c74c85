/-
  For every script whose values and letters are at most 1,048,576 Texts answers true, and the script reads afterwards as before. The listed library tables stand as the program's text lays them.
-/
import Derived.Test.YthpcbbnabnlanaaGreatDoorM28
import Derived.Test.YthpcbbnabnlanaaGreatDoorM29
namespace Go.Proofs.YthpcbbnabnlanaaGreatDoor
set_option linter.unusedVariables false
set_option linter.unusedSimpArgs false
section
set_option maxHeartbeats 1000000
set_option maxRecDepth 1000000
open Go.ChangeShapes Go.WideShapes Go.ChangeAt Go.RowKit
theorem law_Texts (w : World) (v : Value) (ops : List OpV) (hv : ScriptAt w v ops) (ht : PowTab w) (hn : ops.length ≤ 1050000) (hb : ∀ o ∈ ops,(-9223372036854775808 ≤ o.on ∧ o.on ≤ 9223372036854775807) ∧ ∃ vals,ValsOf w o.va o.vn vals ∧ o.vn ≤ 1100000) : Calls Tryz.prog 4 #[v] w fun e w' => e = .returned (.bool true) ∧ w.grownBy w' none := by
 have K := Kept.mk (law_played_mid v ops hv ht hn hb)
 clear hv ht
 go_enter Tryz.func4,Tryz.ntmps4
 go_wp2_with (go_at_call 15;refine K.get.mono ?_;rintro e w1 ⟨rfl,hg⟩)
 go_ret
 exact ⟨rfl,hg⟩
theorem texts_readable : ∀ t ∈ Tryz.f4.params.toList,Tryz.prog.readableRec t = true ∧ t < Tryz.prog.types.size := by
 rw [Tryz.params4]
 intro t ht
 simp only [List.mem_cons,List.not_mem_nil,or_false] at ht
 subst ht
 exact ⟨by kernel_rfl,of_decide_eq_true (by kernel_rfl)⟩
theorem texts_contract (H : Type) (enc : TypeId × Value → H) (W : World) (base : Nat) (args : Array Value) (ds gs : List (DataW H)) (before : List MemPlace) (hval : ∀ (j : Nat) t v,Tryz.f4.params[j]? = some t → args[j]? = some v → Value.okWide Tryz.prog W .any base t v) (hW : DataW.Whole enc Tryz.prog Tryz.f4.params.toList Rows.textsSpec.vars false W args.toList ds gs before) (hL : laidMet Tryz.prog laidAll W) (hk : Rows.uptoSmall H (ds ++ gs) = true) : Calls Tryz.prog 4 args W fun e W' => ∃ v,e = .returned v ∧ Rows.textsSpec.post enc Tryz.prog Tryz.f4 false true false false W args v W' := by
 have hW' := hW
 obtain ⟨p,q,hA0,hV,rfl,hfz,hnd⟩ := hW
 have hA : DataW.TrodAll enc Tryz.prog W 0 (fun _ => true) true Tryz.f4.params.toList args.toList ds p := hA0
 rw [Tryz.params4] at hA hval
 obtain ⟨v0,vs0,d0,ds0,p0,q0,hargs,rfl,rfl,h0,r0⟩ := trodAll_cons hA
 obtain ⟨rfl,rfl,rfl⟩ := trodAll_nil r0
 obtain rfl : args = #[v0] := by cases args;simp_all
 obtain ⟨rfl,rfl⟩ := trodVars_none hV
 obtain ⟨ops,hS,hlen,hops⟩ := open_script (hval 0 22 v0 rfl rfl) h0
 have hbulk : Rows.uptoBulkAll [d0] ≤ 1048576 := of_decide_eq_true (by simpa [Rows.uptoSmall] using hk)
 simp only [Rows.uptoBulkAll] at hbulk
 refine (law_Texts W v0 ops hS (pow_of_laid hL) (by omega) (fun o ho => by obtain ⟨d',h1,h2⟩ := hops o ho;obtain ⟨vals,hv⟩ := h1.vals;exact ⟨h1.on,vals,⟨hv.len,hv.at_⟩,by have := h1.bulk;omega⟩)).mono ?_
 rintro e W' ⟨rfl,hg⟩
 exact ⟨_,rfl,post_true rfl (by kernel_rfl) texts_readable hW' rfl hg⟩
theorem texts_texts (os : Os) {H : Type} (enc : TypeId × Value → H) : ∃ places,DataW.whole enc Tryz.prog ((laidWorld Tryz.prog os).forCall (fun _ _ => 0) ⟨#[],#[.slice none 0 0],[]⟩).memory Tryz.f4.params.toList Rows.textsSpec.vars false #[Value.slice none 0 0].toList 8 = some ([.nil],[],places) :=
 ⟨[],by kernel_rfl⟩
theorem texts_lifted (os : Os) (started : os.Started) (H : Type) (enc : TypeId × Value → H) (F : Stop.Interp) : ReturnsInHanded {} Tryz.checked os 4 .any ((Rows.OpenSpec.upto Rows.textsSpec).preRow enc Tryz.prog Tryz.f4 Rows.textsUptoRow.domain false Rows.textsUptoRow.laid) (((Rows.OpenSpec.upto Rows.textsSpec).at F).post enc Tryz.prog Tryz.f4 false true false false) := by
 obtain ⟨places,hx⟩ := texts_texts os enc
 refine returnsInHanded_of_row (C := Tryz.checked) (s := Rows.OpenSpec.upto Rows.textsSpec) cd_own started (by kernel_rfl) Tryz.func4
  (witness_row_atRef (enc := enc) (C := Tryz.checked) false (laidWorld Tryz.prog os) #[.slice none 0 0] rfl (by kernel_rfl) (by kernel_rfl) (by kernel_rfl)
   (OpenSpec.preRow_of_cond 8 hx (by kernel_rfl) (fun k hk => by cases hk;kernel_rfl) (by kernel_rfl) (laid_met os _))) ?_
 intro W base args ds gs before hval hW _ hcond _ hL _ _
 exact texts_contract H enc W base args ds gs before hval hW hL (hcond _ rfl)
theorem texts_said : Rows.TextsUptoSaid :=
 OpenClaim.holds_of_cond 4 Tryz.f4 rfl rfl rfl rfl rfl rfl rfl ⟨rfl,rfl,rfl,rfl,rfl⟩ rfl rfl rfl rfl rfl (by kernel_rfl) Tryz.func4 (by kernel_rfl)
  (of_decide_eq_true (by kernel_rfl)) (by unfold Func.isWrapper;first | (rw [if_pos (by decide +kernel)];kernel_rfl) | (rw [if_neg (by decide +kernel)];exact ⟨rfl,rfl⟩))
  (fun os started H enc _ F => by rw [OpenClaim.pre_eq_preRow];exact texts_lifted os started H enc F)
theorem texts_plain (f : FuncId) (fn : Func) (hf : Tryz.pinned.checked.prog.funcNamed "assay/assaylaw.Texts" = some f) (hfn : Tryz.pinned.checked.prog.funcs[f]? = some fn) : true = Tryz.pinned.checked.prog.looks [] ∧ ∀ (j : Nat) t,fn.params[j]? = some t → Tryz.pinned.checked.prog.wantsStandIn t = false := by
 obtain rfl : f = 4 := Option.some.inj ((show Tryz.prog.funcNamed "assay/assaylaw.Texts" = some 4 by kernel_rfl).symm.trans hf) |>.symm
 obtain rfl : fn = Tryz.f4 := (Option.some.inj (Tryz.func4.symm.trans hfn)).symm
 refine ⟨by kernel_rfl,fun j t ht => ?_⟩
 rw [Tryz.params4] at ht
 obtain rfl : t = 22 := by simpa using Array.mem_of_getElem? ht
 exact (show Tryz.prog.wantsStandIn 22 = false by kernel_rfl)
theorem texts_upto_holds : Rows.TextsUptoCardSaid :=
 Claim7.holds_tied_plain_at .later [] _ _ _ _ texts_said (fun _ h => by cases h) (by kernel_rfl) (fun _ h => by cases h) textsUpto_row_tie rfl ⟨rfl,rfl⟩ (by kernel_rfl) rfl texts_plain (by kernel_rfl)
end
end Go.Proofs.YthpcbbnabnlanaaGreatDoor
