import Derived.Test.YthpcbbnabnlanaaGreatDoorM11
import Derived.Test.YthpcbbnabnlanaaGreatDoorCards
import Derived.Test.YthpcbbnabnlanaaGreatDoorTie
import Derived.WalkKit
import Derived.ProofKit
import Derived.OpenShut
import Derived.Carry
import Derived.Deep.DeepHandedRow
import Derived.Deep.DeepWitnessRowRef
import Derived.Lib.LaidTab
import Derived.Lib.LaidIn
import Derived.Stop.LaidErr
namespace Go.Proofs.YthpcbbnabnlanaaGreatDoor
set_option linter.unusedVariables false
set_option linter.unusedSimpArgs false
section
set_option maxRecDepth 1000000
open Go.ChangeShapes Go.WideShapes Go.ChangeAt Go.RowKit
theorem cd_own : ownKnob Tryz.prog.godebug = none := by kernel_rfl
theorem cd_laidOut : laidOutB Tryz.prog = true := by kernel_rfl
def d64 : List Int := [0,1,56,2,57,49,28,3,61,58,42,50,38,29,17,4,62,47,59,36,45,43,51,22,53,39,33,30,24,18,12,5,63,55,48,27,60,41,37,16,46,35,44,21,52,32,23,11,54,26,40,15,34,20,31,10,25,14,19,9,13,8,7,6]
def d32 : List Int := [0,1,28,2,29,14,24,3,30,22,20,15,25,17,4,8,31,27,13,23,21,19,16,7,26,12,18,6,11,5,10,9]
def laidAll : List (String × DataW Unit) := [("math/bits.deBruijn32tab",Rows.laid_math_bits_deBruijn32tab),("math/bits.deBruijn64tab",Rows.laid_math_bits_deBruijn64tab),("internal/strconv.uint64pow10",Rows.laid_internal_strconv_uint64pow10),("strconv.ErrRange",Rows.laid_strconv_ErrRange),("strconv.ErrSyntax",Rows.laid_strconv_ErrSyntax)]
theorem gPow : Tryz.prog.globalNamed "internal/strconv.uint64pow10" = some 4 := by kernel_rfl
theorem gPowType : (Tryz.prog.globals[4]?).map (·.type) = some 287 := by kernel_rfl
theorem cellsU64 : Tryz.prog.cellsOf 159 = 1 := by kernel_rfl
theorem cellsPow : Tryz.prog.cellsOf 287 = 20 := by kernel_rfl
theorem pow_of_laid {W : World} (h : laidMet Tryz.prog laidAll W) : PowTab W :=
 Lib.tabIs_of_head (rest := [("strconv.ErrRange",Rows.laid_strconv_ErrRange),("strconv.ErrSyntax",Rows.laid_strconv_ErrSyntax)]) gPow gPowType Tryz.underlying287 Tryz.underlying159 cellsU64 cellsPow (h.tail.tail)
def laidWorld (P : Program) (os : Os) : World :=
 let N := (World.settled P os).heap.size
 let w0 := World.holding P os ⟨#[.cells #[.string ⟨#[118,97,108,117,101,32,111,117,116,32,111,102,32,114,97,110,103,101]⟩] 294,.cells #[.string ⟨#[105,110,118,97,108,105,100,32,115,121,110,116,97,120]⟩] 294],#[],[]⟩
 let put (h : Array Obj) (g : Nat) (cs : Array Value) : Array Obj := h.modify g fun
  | .cells _ t frozen => .cells cs t frozen
  | o => o
 let h0 := put (put w0.heap 2 #[.iface 292 (.pointer (some ⟨N + 1,0,none⟩))]) 3 #[.iface 292 (.pointer (some ⟨N,0,none⟩))]
 let h1 := put (put (put h0 0 (d64.map (Value.int .u8)).toArray) 4 (Lib.pow10Tab.map (Value.int .u64)).toArray) 5 (d32.map (Value.int .u8)).toArray
 { w0 with heap := h1 }
theorem laid_met (os : Os) (args : Array Value) : laidMet Tryz.prog laidAll ((laidWorld Tryz.prog os).forCall (fun _ _ => 0) ⟨#[],args,[]⟩).memory :=
 (LaidIn.of_run [5,0,4,3,(World.settled Tryz.prog default).heap.size,2,(World.settled Tryz.prog default).heap.size + 1] 10 (by kernel_rfl) (by kernel_rfl) (by kernel_rfl) (by kernel_rfl)).met
end
section
open Go.ChangeShapes Go.WideShapes Go.ChangeAt Go.RowKit
variable {H : Type} {enc : TypeId × Value → H} {W W' : World}
theorem kept_grown (hg : W.grownBy W' none) (may : MemPlace → Prop) : W.keptBut W' may := by
 refine ⟨hg.os,hg.output,fun i hi => ?_⟩
 rw [hg.block i hi (by simp)]
 cases h : W.heap[i]? with
 | none => simp
 | some o =>
  cases o with
  | cells c t fr => exact ⟨rfl,rfl,rfl,fun _ _ => rfl⟩
  | map es clock => exact .inr ⟨rfl,rfl⟩
  | _ => rfl
theorem below_of (hg : W.grownBy W' none) : Below W.heap.size W W' := ⟨hg.os,hg.tape,hg.output,hg.size,fun k hk => hg.block k hk (by simp)⟩
theorem args_again (hg : W.grownBy W' none) : ∀ (ts : List TypeId) (vs : List Value) (ds : List (DataW H)) (ps : List MemPlace),(∀ t ∈ ts,Tryz.prog.readableRec t = true ∧ t < Tryz.prog.types.size) → (∀ x ∈ ps,x.block < W.heap.size) → DataW.TrodAll enc Tryz.prog W 0 (fun _ => true) true ts vs ds ps → DataW.TrodAll enc Tryz.prog W' 0 (fun b => decide (b < W.heap.size)) true ts vs ds ps := by
 intro ts
 induction ts with
 | nil =>
  intro vs ds ps _ _ h
  cases vs with
  | nil => cases ds with
   | nil => exact h
   | cons _ _ => exact h.elim
  | cons _ _ => exact h.elim
 | cons t ts ih =>
  intro vs ds ps hr hlt h
  cases vs with
  | nil => exact h.elim
  | cons v vs => cases ds with
   | nil => exact h.elim
   | cons d ds =>
    obtain ⟨p,q,h1,h2,rfl⟩ := h
    exact ⟨p,q,Below.trod cd_laidOut (hr t (by simp)).1 (hr t (by simp)).2 h1 (below_of hg) (fun x hx => hlt x (by simp [hx])),ih vs ds q (fun t' ht' => hr t' (by simp [ht'])) (fun x hx => hlt x (by simp [hx])) h2,rfl⟩
theorem post_true {f : Func} {s : ChangeSpec} {args : Array Value} {ds gs : List (DataW H)} {before : List MemPlace} (hv : s.vars = []) (hrt : f.resultTypes = #[4]) (hread : ∀ t ∈ f.params.toList,Tryz.prog.readableRec t = true ∧ t < Tryz.prog.types.size) (hW : DataW.Whole enc Tryz.prog f.params.toList s.vars false W args.toList ds gs before) (hfn : s.fn H ds = { results := [.lit (.bool true)],args := ds }) (hg : W.grownBy W' none) : s.post enc Tryz.prog f false true false false W args (.bool true) W' := by
 have hlt := hW.lt
 have hW' := hW
 obtain ⟨p,q,hA,hV,rfl,hfz,hnd⟩ := hW
 rw [hv] at hV
 obtain ⟨rfl,rfl⟩ := trodVars_none hV
 have e : s.fn H (ds ++ []) = { results := [.lit (.bool true)],args := ds } := by rw [List.append_nil];exact hfn
 refine ⟨ds,[],p ++ [],[],p,[],hW',?_,?_,?_,kept_grown hg _,fun h => by cases h⟩
 ·rw [hrt,e]
  exact trodAll_cons_mk (shut_bool Tryz.underlying4 _) trodAll_mk0
 ·rw [e]
  exact args_again hg _ _ _ _ hread (fun x hx => hlt x (by simp [hx])) hA
 ·rw [e,hv]
  exact rfl
end
end Go.Proofs.YthpcbbnabnlanaaGreatDoor
