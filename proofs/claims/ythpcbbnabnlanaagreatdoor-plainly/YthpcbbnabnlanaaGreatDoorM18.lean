import Derived.Test.YthpcbbnabnlanaaGreatDoorM17
import Derived.RangeFuncNested
import Derived.RangeFuncBound
import Derived.RangeFuncCalls
import Derived.RangeFuncLeaves
import Derived.Shelf.Abstract
import Derived.Shelf.RegionOpen
import Derived.WalkKit
import Derived.OwnWalkIn
import Derived.TacticsInMore
import Derived.LoopNIn
import Derived.LoopIn
import Derived.ChangeKeysEq
namespace Go.Proofs.YthpcbbnabnlanaaGreatDoor
set_option linter.unusedVariables false
set_option linter.unusedSimpArgs false
section
set_option maxHeartbeats 4000000
set_option maxRecDepth 100000
open Go.RowKit Go.Shelf
attribute [local go_sem] Oper.semAt_some
theorem wpListIn_load_row {F : Fence} {nF : Nat} {P : Program} {ops : Array Oper} {rest : List Oper} {o : Oper} {a : Act} {w : World} {Q : Exit → Act → World → Prop} (hgd : o.guard = none) (ty : TypeId) (x : Operand) (ho : o.op = .load ty x) (g : Nat) (hx : a.eval x = .pointer (some ⟨g,0,none⟩)) (t : TypeId) (cs : Array Value) (fr : Nat × Nat) (d : TypeDesc) (hg : w.heap[g]? = some (.cells cs t fr)) (hu : P.underlying ty = some d) (hd : (match d with | .struct _ | .array _ _ => true | _ => false) = true) (hi : (P.info? ty).map (·.size) = some cs.size) (h : wpListIn F nF P ops Q rest (a.put o.dst (.agg cs)) w) : wpListIn F nF P ops Q (o :: rest) a w := by
 refine wpListIn_plain hgd fun K' hK' => ?_
 unfold Oper.wpIn
 refine ⟨by simp [Oper.about,ho],?_⟩
 rw [Oper.semAt_plain F _ _ (by rw [ho];intro c hc';cases hc')]
 simp [execOp,ho,hx,Instr.loadAt,Instr.sureAddr,run_loadVar_row w g t ty cs fr d hg hu hd hi,Result.andThen]
 exact hK' _ _ h
def KpDb (W W' : World) : Prop := DbTab W → DbTab W'
def ItRel {α : Type} (val : α → Int) (xs : List α) (D : Nat) (J : List α → World → Prop) (va vb vi : Value) (wr : World) : Prop :=
 ∃ (i : Nat) (pre rest : List α),i ≤ 32 ∧ vi = .int .i64 i ∧ xs = pre ++ rest ∧ rest.map val = valsF D (32 - i) i ∧ J pre wr ∧ DbTab wr
def ItRel2 {α : Type} (val : α → Int) (xs : List α) (D i : Nat) (J : List α → World → Prop) (vb : Value) (wr : World) : Prop :=
 ∃ (x : Nat) (pre rest : List α),x < 18446744073709551616 ∧ vb = .int .u64 x ∧ xs = pre ++ rest ∧ rest.map val = valsB i x ++ valsF D (31 - i) (i + 1) ∧ J pre wr ∧ DbTab wr
theorem and_lt {x : Nat} (h : 0 < x) : x &&& (x - 1) < x := by
 have : x &&& (x - 1) ≤ x - 1 := Nat.and_le_right
 omega
theorem dm_all1 {α : Type} (val : α → Int) (xs : List α) (D : Nat) (hxs : xs.map val = valsD D) (n l B : Nat) (J Jx : List α → World → Prop) (hY : ∀ pre x W,J pre W → pre.length < xs.length → YieldAt Fence.wide (n - 1) Tryz.prog l #[.int .i64 (val x)] W fun e W' =>
   (e = .returned (.bool true) ∧ J (pre ++ [x]) W' ∧ KpDb W W') ∨ (e = .returned (.bool false) ∧ Jx (pre ++ [x]) W'))
  (W : World) (hB : W.heap[B]? = some (.cells (dArr D) 161 (0,0))) (hT : DbTab W) (h0 : J [] W) :
  CallsIn Fence.wide n Tryz.prog 178 #[.func (.yield l) #[] #[],.pointer (some ⟨B,0,none⟩)] W fun e W' => (∃ v,e = .returned v) ∧
   ((∃ ys,ys = xs ∧ J ys W') ∨ (∃ pre,pre <+: xs ∧ Jx pre W')) := by
 refine callsIn_of_wp Tryz.func178 rfl trivial ?_ rfl
 simp only [Tryz.ntmps178,List.size_toArray,List.length_cons,List.length_nil,Nat.reduceAdd,Nat.reduceSub,Array.replicate_succ,Array.replicate_zero,List.push_toArray,List.append_toArray,List.nil_append,List.cons_append]
 gi_wp2_with (refine wpListIn_load_row rfl 161 _ rfl B rfl 161 (dArr D) (0,0) _ hB Tryz.underlying161 rfl (dSize D) ?_)
 gi_loopw [3,4,6] (fun va vb vi wr => ItRel val xs D J va vb vi wr) (fun va vb vi _ => 32 - (intOf vi).toNat)
 case atStart => exact ⟨0,[],xs,by omega,rfl,rfl,hxs,h0,hT⟩
 case round =>
  clear hT h0 hB
  obtain ⟨i,pre,rest,hi,rfl,hx,hr,hJ,hT⟩ := hrel
  by_cases hlt : i < 32
  ·have hlt3 : (i : Int) < 32 := by omega
   have h03 : (0 : Int) ≤ i := by omega
   have ha := dm_index D hlt wr
   have HS : Hid (ItRel2 val xs D i J (.int .u64 (wordD D i : Nat)) wr) := by
    refine ⟨_,pre,rest,by have := wordD_lt D i;simpa using this,rfl,hx,?_,hJ,hT⟩
    rw [hr,show 32 - i = (31 - i) + 1 by omega,valsF]
   clear hr hJ hT hx
   gi_wp2
   gi_loopw [4] (fun vb wr => ItRel2 val xs D i J vb wr) (fun vb _ => (intOf vb).toNat)
   case atStart => exact HS.out
   case round =>
    clear HS ha
    obtain ⟨x,pre,rest,hxl,rfl,hx,hr,hJ,hT⟩ := hrel
    by_cases c : x = 0
    ·subst c
     have HN : Hid (∀ va vb,ItRel val xs D J va vb (.int .i64 ((i : Int) + 1)) wr) := fun va vb => by
      refine ⟨i + 1,pre,rest,by omega,by simp,hx,?_,hJ,hT⟩
      rw [hr,valsB_zero,List.nil_append,show 31 - i = 32 - (i + 1) by omega]
     clear hr hx hJ hT
     gi_wp2
     go_roundw
     case rel => exact HN.out _ _
     case measure => simp [intOf];omega
    ·have hp : 0 < x := by omega
     have hz : (((x : Nat) : Int) != 0) = true := by simp;omega
     obtain ⟨y,rest,rfl⟩ : ∃ y r,rest = y :: r := by
      cases rest with
      | nil => rw [valsB_next hp hxl] at hr;simp at hr
      | cons y r => exact ⟨y,r,rfl⟩
     rw [valsB_next hp hxl,List.map_cons,List.cons_append] at hr
     obtain ⟨hv,hr2⟩ := List.cons.inj hr
     have hY1 := hY pre y wr hJ (by rw [hx];simp)
     rw [hv] at hY1
     have K := Kept.mk (bt_tz hT x hp hxl)
     have hk : tzN x < 64 := by obtain ⟨m,e,hm,hk⟩ := tz_is hp hxl;exact hk
     have HB : Hid (bits .and .u64 (x : Int) ((x : Int) - 1) = ((x &&& (x - 1) : Nat) : Int)) := by
      rw [Hid,show ((x : Int) - 1) = ((x - 1 : Nat) : Int) by omega,bits_and_u64_nat _ _ hxl (by omega)]
     have HR := hide hr2
     have HX := hide hx
     clear hr hr2 hx hv c
     generalize tzN x = T at *
     obtain ⟨fn,tmps,assign,body,hy,hR⟩ := hY1
     clear hY
     gi_wp2
     refine ⟨trivial,(fun h => by cases h),(callsIn_wide.2 K.get).mono ?_⟩
     rintro e w1 ⟨rfl,rfl⟩
     clear K
     gi_wp2
     refine ⟨(fun h => by cases h),hR.mono ?_⟩
     rintro e W3 (⟨rfl,hJ3,hk3⟩ | ⟨rfl,hJx3⟩)
     ·gi_wp2
      rw [HB.out]
      go_roundw
      case rel => exact ⟨_,pre ++ [y],rest,Nat.lt_trans (and_lt hp) hxl,rfl,by rw [HX.out];simp,HR.out,hJ3,hk3 hT⟩
      case measure => have := and_lt hp;simp [intOf];omega
     ·gi_wp2
      refine bodyPost_ret (results_none rfl _ _ _) rfl ?_
      exact ⟨⟨_,rfl⟩,.inr ⟨pre ++ [y],⟨rest,by rw [HX.out];simp⟩,hJx3⟩⟩
  ·obtain rfl : i = 32 := by omega
   gi_wp2
   go_end0
   have e : rest = [] := by
    have : rest.map val = [] := hr
    simpa using this
   subst e
   exact ⟨⟨_,rfl⟩,.inl ⟨pre,by rw [hx,List.append_nil],hJ⟩⟩
end
section
set_option maxHeartbeats 1000000
set_option maxRecDepth 100000
open Go.RowKit Go.Shelf
attribute [local go_sem] Oper.semAt_some
theorem valsF_mem {D : Nat} {v : Int} : ∀ {f i : Nat},v ∈ valsF D f i → ∃ p : Nat,D.testBit p = true ∧ v = (p : Int) - 1000 ∧ 64 * i ≤ p ∧ p < 64 * (i + f)
 | 0,i,h => by simp [valsF] at h
 | f + 1,i,h => by
  rw [valsF,List.mem_append] at h
  rcases h with h | h
  ·unfold valsB bitsL at h
   obtain ⟨j,hj,rfl⟩ := List.mem_map.1 h
   obtain ⟨h1,h2⟩ := List.mem_filter.1 hj
   rw [wordD_bit] at h2
   have h3 : j < 64 := by simpa using h1
   refine ⟨64 * i + j,by simpa [h3] using h2,by omega,by omega,by omega⟩
  ·obtain ⟨p,q1,q2,q3,q4⟩ := valsF_mem h
   exact ⟨p,q1,q2,by omega,by omega⟩
theorem valsF_has {D p : Nat} (h : D.testBit p = true) : ∀ {f i : Nat},64 * i ≤ p → p < 64 * (i + f) → ((p : Int) - 1000) ∈ valsF D f i
 | 0,i,h1,h2 => by omega
 | f + 1,i,h1,h2 => by
  rw [valsF,List.mem_append]
  by_cases c : p < 64 * (i + 1)
  ·left
   unfold valsB bitsL
   refine List.mem_map.2 ⟨p - 64 * i,List.mem_filter.2 ⟨by simp;omega,?_⟩,by omega⟩
   rw [wordD_bit,show 64 * i + (p - 64 * i) = p by omega,h]
   simp;omega
  ·right
   exact valsF_has h (by omega) (by omega)
theorem valsD_mem {D : Nat} {v : Int} : v ∈ valsD D ↔ ∃ p : Nat,D.testBit p = true ∧ v = (p : Int) - 1000 ∧ p < 2048 := by
 constructor
 ·intro h
  obtain ⟨p,h1,h2,h3,h4⟩ := valsF_mem h
  exact ⟨p,h1,h2,by omega⟩
 ·rintro ⟨p,h1,rfl,h2⟩
  exact valsF_has h1 (by omega) (by omega)
theorem bit_lt {D p k : Nat} (h : D.testBit p = true) (hD : D < 2 ^ k) : p < k := by
 refine Nat.lt_of_not_le fun c => ?_
 rw [Nat.testBit_lt_two_pow (Nat.lt_of_lt_of_le hD (Nat.pow_le_pow_right (by decide) c))] at h
 cases h
theorem valsD_in {D : Nat} (hD : D < 2 ^ 2001) {v : Int} (h : v ∈ valsD D) : -1000 ≤ v ∧ v ≤ 1000 := by
 obtain ⟨p,h1,rfl,h2⟩ := valsD_mem.1 h
 have := bit_lt h1 hD
 omega
theorem db_kept {w w' : World} (h : DbTab w) (hb : w'.heap[0]? = w.heap[0]?) : DbTab w' := by
 unfold DbTab Lib.TabIs World.var? at *
 rw [gDb] at h ⊢
 simp only [Option.bind_some] at h ⊢
 rw [hb];exact h
theorem db_cells {w : World} (h : DbTab w) : ∃ cs t fr,w.heap[0]? = some (.cells cs t fr) := by
 unfold DbTab Lib.TabIs World.var? at h
 rw [gDb] at h
 simp only [Option.bind_some] at h
 split at h
 ·next cs t fr e => exact ⟨cs,t,fr,e⟩
 ·cases h
theorem db_size {w : World} (h : DbTab w) : 0 < w.heap.size := by
 obtain ⟨cs,t,fr,e⟩ := db_cells h
 exact (Array.getElem?_eq_some_iff.1 e).1
theorem db_grown {w w' : World} (h : DbTab w) (hg : w.grownBy w' none) : DbTab w' := db_kept h (hg.block 0 (db_size h) (by simp))
theorem kpDb_t {A B C : World} (h : KpDb A B) (k : KpDb B C) : KpDb A C := fun q => k (h q)
theorem kpDb_b {w : World} (W : World) (l : Nat) (o o' : Obj) (_ : w.heap.size ≤ l) (h : W.heap[l]? = some o) (hc : o.isCells = false) (_ : o.isWalk = false) : KpDb W (W.putObj l o') := fun q => by
 obtain ⟨cs,t,fr,e⟩ := db_cells q
 have hl : l ≠ 0 := by
  rintro rfl
  rw [e] at h
  cases h
  cases hc
 exact db_kept q ((grownBy_putObj' W l o').block 0 (db_size q) (fun e => hl (by cases e;rfl)))
theorem dm_all_stops {α : Type} (val : α → Int) (xs : List α) (D : Nat) (hxs : xs.map val = valsD D) (n B : Nat) (w : World) (hB : w.heap[B]? = some (.cells (dArr D) 161 (0,0))) (hT : DbTab w) : SeqStopsK Fence.wide n Tryz.prog 178 #[.pointer (some ⟨B,0,none⟩)] (fun x : α => #[Value.int .i64 (val x)]) KpDb (fun ys => ys = xs) (fun pre => pre <+: xs) xs.length w := fun l J Jx W hW _ _ hY h0 => by
 have hB2 : B < w.heap.size := (Array.getElem?_eq_some_iff.1 hB).1
 exact dm_all1 val xs D hxs n l B J Jx hY W ((hW.block B hB2).trans hB) (db_kept hT (hW.block 0 (db_size hT))) h0
theorem dm_All (D : Nat) (w : World) : Calls Tryz.prog 136 #[.agg (dArr D)] w fun e w' => e = .returned (.func (.func 178) #[] #[.pointer (some ⟨w.heap.size,0,none⟩)]) ∧ w' = w.alloc (.cells (dArr D) 161) := by
 go_enter Tryz.func136,Tryz.ntmps136
 go_wp2
 go_ret
 exact ⟨rfl,rfl⟩
end
section
set_option maxRecDepth 100000
open Go.RowKit Go.Shelf
theorem bit_ge {D p k : Nat} (hD : D < 2 ^ k) (h : k ≤ p) : D.testBit p = false := Nat.testBit_lt_two_pow (Nat.lt_of_lt_of_le hD (Nat.pow_le_pow_right (by decide) h))
theorem word_inj {D E : Nat} (hD : D < 2 ^ 2048) (hE : E < 2 ^ 2048) (h : ∀ i,i < 32 → wordD D i = wordD E i) : D = E := by
 apply Nat.eq_of_testBit_eq
 intro p
 by_cases c : p < 2048
 ·have q := congrArg (fun x => Nat.testBit x (p % 64)) (h (p / 64) (by omega))
  simp only [wordD_bit] at q
  rw [show 64 * (p / 64) + p % 64 = p by omega] at q
  have : p % 64 < 64 := by omega
  simpa [this] using q
 ·have a : D.testBit p = false := bit_ge hD (Nat.le_of_not_lt c)
  have b : E.testBit p = false := bit_ge hE (Nat.le_of_not_lt c)
  rw [a,b]
theorem eq_items (d D E : Nat) (w : World) : ∀ is : List Nat,(∀ i ∈ is,i < 32) → ∃ r : Bool,Sem.run Tryz.prog (Op.eqItems (d + 1) 159 1 (dArr D) (dArr E) is) w = .ok r w ∧ (r = true ↔ ∀ i ∈ is,wordD D i = wordD E i)
 | [],_ => ⟨true,by simp [Op.eqItems],by simp⟩
 | i :: is,h => by
  have hi : i < 32 := h i (by simp)
  obtain ⟨r,h1,h2⟩ := eq_items d D E w is (fun j hj => h j (by simp [hj]))
  have a1 : ∀ w : World,Sem.run Tryz.prog (isAgg 159) w = .ok false w := fun w => by kernel_rfl
  have p : ∀ D : Nat,Sem.run Tryz.prog (part 159 (dArr D) (i * 1)) w = .ok (.int .u64 (wordD D i : Nat)) w := fun D => by
   rw [Nat.mul_one];unfold part;simp only [Sem.run_bind,a1,Result.andThen_ok,dArr_at D hi];rfl
  have u : Tryz.prog.underlying 159 = some (.int .u64) := by kernel_rfl
  have q : Sem.run Tryz.prog (Op.equalIn (d + 1) 159 (.int .u64 (wordD D i : Nat)) (.int .u64 (wordD E i : Nat))) w = .ok (((wordD D i : Nat) : Int) == ((wordD E i : Nat) : Int)) w := by
   simp only [Op.equalIn,Sem.run_bind,run_underlying u,Result.andThen_ok]
   simp
  simp only [Op.eqItems,Sem.run_bind,p,q,Result.andThen_ok]
  by_cases c : wordD D i = wordD E i
  ·refine ⟨r,by simpa [c] using h1,?_⟩
   rw [h2];simp [c]
  ·refine ⟨false,?_,by simp [c]⟩
   have c2 : (((wordD D i : Nat) : Int) == ((wordD E i : Nat) : Int)) = false := by simp;omega
   rw [c2];simp
theorem run_eq_dom {D E : Nat} (hD : D < 2 ^ 2048) (hE : E < 2 ^ 2048) (w : World) : Sem.run Tryz.prog (Op.equal 161 (.agg (dArr D)) (.agg (dArr E))) w = .ok (D == E) w := by
 obtain ⟨r,h1,h2⟩ := eq_items 9998 D E w (List.range 32) (fun i hi => by simpa using hi)
 have hr : r = (D == E) := by
  rw [Bool.eq_iff_iff,h2]
  constructor
  ·intro h;simp;exact word_inj hD hE (fun i hi => h i (by simpa using hi))
  ·intro h i _;have : D = E := by simpa using h
   rw [this]
 have u : Tryz.prog.underlying 161 = some (.array 32 159) := by kernel_rfl
 obtain ⟨i0,hi⟩ : ∃ i,Tryz.prog.info? 159 = some i := Option.isSome_iff_exists.1 (by kernel_rfl)
 have hc : Tryz.prog.cellsOf 159 = 1 := by kernel_rfl
 have q := run_equalIn_array w (9998 + 1) (dArr D) (dArr E) u hi
 rw [hc,h1,hr] at q
 exact q
end
section
set_option maxHeartbeats 4000000
set_option maxRecDepth 100000
open Go.RowKit Go.Shelf
attribute [local go_sem] Oper.semAt_some
def oneV (D : Nat) : Int := (valsD D).headD 0
def oneB (D : Nat) : Bool := !(valsD D).isEmpty && (D == 2 ^ (oneV D + 1000).toNat)
theorem below_gr {w w' : World} (h : Below w.heap.size w w') : w.grownBy w' none := ⟨h.os,h.tape,h.output,h.size,fun k hk _ => h.block k hk⟩
theorem grown_below {w w' : World} (h : w.grownBy w' none) : Below w.heap.size w w' := ⟨h.os,h.tape,h.output,h.size,fun k hk => h.block k hk (by simp)⟩
abbrev AlD (D : Nat) : Type := { v : Int // v ∈ valsD D }
def OneI (D : Nat) (w : World) (pre : List (AlD D)) (W : World) : Prop :=
 pre = [] ∧ W.heap[w.heap.size]? = some (.cells (dArr D) 161 (0,0)) ∧ W.heap[w.heap.size + 1]? = some (.cells #[.int .i64 0] 3 (0,0)) ∧ W.heap[w.heap.size + 2]? = some (.cells #[.bool false] 4 (0,0)) ∧ w.grownBy W none
def OneX (D : Nat) (w : World) (c : Code) (pre : List (AlD D)) (W : World) : Prop :=
 c = .ret ∧ (∃ x : AlD D,pre = [x] ∧ W.heap[w.heap.size + 1]? = some (.cells #[.int .i64 x.1] 3 (0,0)) ∧ W.heap[w.heap.size + 2]? = some (.cells #[.bool (D == 2 ^ (x.1 + 1000).toNat)] 4 (0,0))) ∧ w.grownBy W none
theorem turn_block {B k : Nat} {W W' : World} {row : Option Nat} {o : Obj} (h : W.heap[k]? = some o) (hg : W.grownBy W' row) (hr : ∀ r,row = some r → B ≤ r ∧ ∃ o : Obj,W.heap[r]? = some o ∧ o.isCells = false) (hk : k < B) : W'.heap[k]? = some o :=
 (hg.block k (Array.getElem?_eq_some_iff.1 h).1 (fun e => by have := (hr k e.symm).1;omega)).trans h
theorem turn_grown {B : Nat} {w W W' : World} {row : Option Nat} (h : w.grownBy W none) (hg : W.grownBy W' row) (hr : ∀ r,row = some r → B ≤ r ∧ ∃ o : Obj,W.heap[r]? = some o ∧ o.isCells = false) (hk : w.heap.size ≤ B) : w.grownBy W' none :=
 below_gr ((grown_below h).grown hg h.size (fun k e => by have := (hr k e).1;omega))
theorem OneI.from {D B : Nat} {w : World} (hB : w.heap.size + 4 ≤ B) : OwnFrom B (OneI D w) := fun s A B' row hs hg hr =>
 ⟨hs.1,turn_block hs.2.1 hg hr (by omega),turn_block hs.2.2.1 hg hr (by omega),turn_block hs.2.2.2.1 hg hr (by omega),turn_grown hs.2.2.2.2 hg hr (by omega)⟩
theorem OneX.from {D B : Nat} {w : World} (hB : w.heap.size + 4 ≤ B) (c : Code) : OwnFrom B (OneX D w c) := fun s A B' row hs hg hr => by
 obtain ⟨h1,⟨x,h2,h3,h4⟩,h5⟩ := hs
 exact ⟨h1,⟨x,h2,turn_block h3 hg hr (by omega),turn_block h4 hg hr (by omega)⟩,turn_grown h5 hg hr (by omega)⟩
theorem pow_up {a b : Nat} (h : a < b) : (2 : Nat) ^ a < 2 ^ b := Nat.pow_lt_pow_right (by decide) h
theorem pow_small {v : Int} (h : v ≤ 1000) : (2 : Nat) ^ (v + 1000).toNat < 2 ^ 2048 := pow_up (a := (v + 1000).toNat) (b := 2048) (by omega)
theorem pow_wider {D : Nat} (h : D < 2 ^ 2001) : D < 2 ^ 2048 := Nat.lt_trans h (pow_up (a := 2001) (b := 2048) (by omega))
theorem head_of {l t : List Int} {x : Int} (h : x :: t = l) : l.headD 0 = x ∧ l.isEmpty = false := by subst h;exact ⟨rfl,rfl⟩
def ldV (p : Value) : Sem Value := Instr.loadAt 161 p
theorem ldV_veil (p : Value) : Instr.loadAt 161 p = ldV p := rfl
attribute [local go_sem ↓] ldV_veil
theorem dm_One (D : Nat) (hD : D < 2 ^ 2001) (w : World) (hT : DbTab w) : Calls Tryz.prog 126 #[.agg (dArr D)] w fun e w' => e = .returned (.tuple #[.int .i64 (oneV D),.bool (oneB D)]) ∧ w.grownBy w' none := by
 refine (callsIn_wide (n := 3)).1 ?_
 refine callsIn_of_wp_marks Tryz.func126 rfl trivial ?_ rfl
 simp only [Tryz.ntmps126,List.size_toArray,List.length_cons,List.length_nil,Nat.reduceAdd,Nat.reduceSub,Array.replicate_succ,Array.replicate_zero,List.push_toArray,List.append_toArray,List.nil_append,List.cons_append]
 have K := Kept.mk (fun W => dm_All D W)
 gi_wp2_with (first | (refine wpListIn_load_row rfl 161 _ rfl w.heap.size rfl 161 (dArr D) (0,0) _ (h3_old w _ _ _) Tryz.underlying161 rfl (dSize D) ?_) | (refine ⟨trivial,(callsIn_wide.2 (K.get _)).mono ?_⟩;rintro e w1 ⟨rfl,rfl⟩))
 clear K
 obtain ⟨W0,hW0⟩ : ∃ W0,(((w.alloc (.cells (dArr D) 161)).alloc (.cells #[.int .i64 0] 3)).alloc (.cells #[.bool false] 4)).alloc (.cells (dArr D) 161) = W0 := ⟨_,rfl⟩
 have hsz : W0.heap.size = w.heap.size + 4 := by rw [← hW0];simp
 have hB0 : Below w.heap.size w W0 := by rw [← hW0];exact ((((Below.refl _ w).alloc (Nat.le_refl _) _).alloc (by simp) _).alloc (by simp;omega) _).alloc (by simp;omega) _
 have b0 : W0.heap[w.heap.size]? = some (.cells (dArr D) 161 (0,0)) := by rw [← hW0];exact (heap_alloc_old _ _ (by simp;omega)).trans (h3_old w _ _ _)
 have b1 : W0.heap[w.heap.size + 1]? = some (.cells #[.int .i64 0] 3 (0,0)) := by rw [← hW0];exact (heap_alloc_old _ _ (by simp)).trans (heap_alloc3_mid w _ _ _)
 have b2 : W0.heap[w.heap.size + 2]? = some (.cells #[.bool false] 4 (0,0)) := by rw [← hW0];exact (heap_alloc_old _ _ (by simp)).trans (h3_new w _ _ _)
 have b3 : W0.heap[w.heap.size + 3]? = some (.cells (dArr D) 161 (0,0)) := by
  rw [← hW0]
  have q := heap_alloc_new (((w.alloc (.cells (dArr D) 161)).alloc (.cells #[.int .i64 0] 3)).alloc (.cells #[.bool false] 4)) (.cells (dArr D) 161)
  have e : (((w.alloc (.cells (dArr D) 161)).alloc (.cells #[.int .i64 0] 3)).alloc (.cells #[.bool false] 4)).heap.size = w.heap.size + 3 := by simp
  rw [e] at q;exact q
 have hT0 : DbTab W0 := db_kept hT (hB0.block 0 (db_size hT))
 rw [hW0]
 clear hW0
 have e1 : w.heap.size + 1 + 1 = w.heap.size + 2 := rfl
 have e2 : w.heap.size + 1 + 1 + 1 = w.heap.size + 3 := rfl
 rw [e2,e1]
 refine wpIn_rangeFunc_ownF (α := AlD D) rfl (by decide) (gf := 178) (lb := #[.pointer (some ⟨w.heap.size + 3,0,none⟩)]) rfl trivial (enters_of Tryz.func178 (by kernel_rfl) rfl)
  (dm_all_stops (fun x : AlD D => x.1) (valsD D).attach D (List.attach_map_subtype_val _) _ (w.heap.size + 3) W0 b3 hT0) kpDb_t kpDb_b (Below.refl _ _) (fun _ => rfl)
  (OneI D w) (OneX D w) (OneI.from (by omega)) (OneX.from (by omega)) ⟨rfl,b0,b1,b2,below_gr hB0⟩
  (fun x => { tmps := #[.agg (dArr D),.pointer (some ⟨w.heap.size,0,none⟩),.pointer (some ⟨w.heap.size + 1,0,none⟩),.pointer (some ⟨w.heap.size + 2,0,none⟩),.int .i64 x.1,.agg (dArr D),.func (.func 178) #[] #[.pointer (some ⟨w.heap.size + 3,0,none⟩)],.int .i64 x.1,undef,undef,undef,undef,undef],defers := [] }) ?assign ?body ?done ?stop
 case assign =>
  intro l x W K hK
  gi_wp2
  exact hK
 case body =>
  rintro l pre x W ⟨rfl,c0,c1,c2,hg⟩ _
  obtain ⟨x1,x2⟩ := valsD_in hD x.2
  have K := Kept.mk (fun W => dm_Only x.1 x1 x2 W)
  have hE := pow_small x2
  have hD2 := pow_wider hD
  have HE : ∀ W' : World,Sem.run Tryz.prog (Op.equalIn 10000 161 (.agg (dArr D)) (.agg (dArr (2 ^ (x.1 + 1000).toNat)))) W' = .ok (D == 2 ^ (x.1 + 1000).toNat) W' := fun W' => run_eq_dom hD2 hE W'
  have HX : Hid (∀ w1 : World,W.grownBy w1 none → KeepsOthers W ((w1.setCell ⟨w.heap.size + 1,0,none⟩ (.int .i64 x.1)).setCell ⟨w.heap.size + 2,0,none⟩ (.bool (D == 2 ^ (x.1 + 1000).toNat))) ∧ OneX D w .ret [x] ((w1.setCell ⟨w.heap.size + 1,0,none⟩ (.int .i64 x.1)).setCell ⟨w.heap.size + 2,0,none⟩ (.bool (D == 2 ^ (x.1 + 1000).toNat)))) := fun w1 h1 => by
   have d1 := (h1.block _ (Array.getElem?_eq_some_iff.1 c1).1 (by simp)).trans c1
   have d2 := (h1.block _ (Array.getElem?_eq_some_iff.1 c2).1 (by simp)).trans c2
   refine ⟨((KeepsOthers.of_grownBy h1 (fun r o e _ => by cases e)).trans (KeepsOthers.setCell _ _ _)).trans (KeepsOthers.setCell _ _ _),rfl,⟨x,rfl,?_,?_⟩,?_⟩
   ·exact (Below.heap_setCell _ _ _ _ (by show w.heap.size + 1 ≠ w.heap.size + 2;omega)).trans (set_at d1 0 _ rfl)
   ·exact set_at ((Below.heap_setCell _ _ _ _ (by show w.heap.size + 2 ≠ w.heap.size + 1;omega)).trans d2) 0 _ rfl
   ·exact grown_newr (grown_newr (hg.trans h1) (by omega) (grown_set _ _ _ _)) (by omega) (grown_set _ _ _ _)
  have hmx : Tryz.prog.follows .mixedOrders = true := by kernel_rfl
  have HL : Hid (∀ W' : World,W'.heap[w.heap.size]? = some (.cells (dArr D) 161 (0,0)) → Sem.run Tryz.prog (ldV (.pointer (some ⟨w.heap.size,0,none⟩))) W' = .ok (.agg (dArr D)) W') := fun W' h => by
   simp only [ldV,Instr.loadAt,Instr.sureAddr,Sem.run_bind,Sem.run_pure,Result.andThen_ok]
   exact run_loadVar_row W' w.heap.size 161 161 (dArr D) (0,0) _ h Tryz.underlying161 rfl (dSize D)
  have l0 := HL.out W.drew c0
  have C0 := hide c0
  have C1 := hide c1
  have C2 := hide c2
  clear c0 c1 c2 hg hE hD2
  generalize hEE : (2 : Nat) ^ (x.1 + 1000).toNat = E at *
  clear hEE
  gi_wp2
  gi_region_with_o (refine ⟨trivial,(CallsIn.inRound l (callsIn_wide.2 (K.get _))).mono ?_⟩;rintro e w1 ⟨rfl,hg1⟩;have l1 := HL.out w1 ((hg1.block _ (Array.getElem?_eq_some_iff.1 C0.out).1 (by simp)).trans C0.out);have l2 := HL.out (w1.setCell ⟨w.heap.size + 1,0,none⟩ (.int .i64 x.1)) ((Below.heap_setCell _ _ _ _ (by show w.heap.size ≠ w.heap.size + 1;omega)).trans ((hg1.block _ (Array.getElem?_eq_some_iff.1 C0.out).1 (by simp)).trans C0.out));have k1 := cell_of ((hg1.block _ (Array.getElem?_eq_some_iff.1 C1.out).1 (by simp)).trans C1.out) 0 _ rfl;have f1 := frozen_of ((hg1.block _ (Array.getElem?_eq_some_iff.1 C1.out).1 (by simp)).trans C1.out) 0;have k2 := cell_of ((hg1.block _ (Array.getElem?_eq_some_iff.1 C2.out).1 (by simp)).trans C2.out) 0 _ rfl;have f2 := frozen_of ((hg1.block _ (Array.getElem?_eq_some_iff.1 C2.out).1 (by simp)).trans C2.out) 0)
  all_goals gi_wp2
  all_goals exact HX.out _ ((grown_drew' _ _).trans hg1)
 case done =>
  rintro d ys W hd rfl ⟨he,c0,c1,c2,hg⟩ hK
  have k1 := cell_of c1 0 _ rfl
  have f1 := frozen_of c1 0
  have k2 := cell_of c2 0 _ rfl
  have f2 := frozen_of c2 0
  have hv : valsD D = [] := by
   have := congrArg (List.map Subtype.val) he
   rwa [List.attach_map_subtype_val] at this
  have q1 : oneV D = 0 := by unfold oneV;rw [hv];rfl
  have q2 : oneB D = false := by unfold oneB;rw [hv];rfl
  have hK' := ((KeepsOthers.setCell W ⟨w.heap.size + 1,0,none⟩ (.int .i64 0)).trans (KeepsOthers.setCell _ ⟨w.heap.size + 2,0,none⟩ (.bool false))).same d _ hK rfl
  have d1 : ((W.setCell ⟨w.heap.size + 1,0,none⟩ (.int .i64 0)).setCell ⟨w.heap.size + 2,0,none⟩ (.bool false)).heap[w.heap.size + 1]? = some (.cells #[.int .i64 0] 3 (0,0)) :=
   (Below.heap_setCell _ _ _ _ (by show w.heap.size + 1 ≠ w.heap.size + 2;omega)).trans (set_at c1 0 _ rfl)
  have d2 : ((W.setCell ⟨w.heap.size + 1,0,none⟩ (.int .i64 0)).setCell ⟨w.heap.size + 2,0,none⟩ (.bool false)).heap[w.heap.size + 2]? = some (.cells #[.bool false] 4 (0,0)) :=
   set_at ((Below.heap_setCell _ _ _ _ (by show w.heap.size + 2 ≠ w.heap.size + 1;omega)).trans c2) 0 _ rfl
  have n1 := cell_kept (cell_of d1 0 _ rfl) (grownBy_putObj' _ d (.deferred none)) (fun r e => by cases e;exact ⟨_,hK',rfl⟩)
  have n2 := cell_kept (cell_of d2 0 _ rfl) (grownBy_putObj' _ d (.deferred none)) (fun r e => by cases e;exact ⟨_,hK',rfl⟩)
  have hg2 := hide (grown_newr (grown_newr hg (by omega : w.heap.size ≤ w.heap.size + 1) (grown_set W (w.heap.size + 1) 0 (.int .i64 0))) (by omega : w.heap.size ≤ w.heap.size + 2) (grown_set _ (w.heap.size + 2) 0 (.bool false)))
  have N1 := hide n1
  have N2 := hide n2
  have HK := hide hK'
  clear n1 n2 d1 d2 hK'
  gi_wp2
  have n1 := N1.out
  have n2 := N2.out
  refine ⟨by simp,.inl ⟨_,_,rfl,run_takeDeferred HK.out,?_⟩⟩
  refine ⟨.tuple #[.int .i64 0,.bool false],?_,rfl,?_⟩
  ·simp [results,Tryz.f126,go_sem,n1,n2]
  ·exact below_gr ((grown_below hg2.out).trans (belowK_b (w := w) (Nat.le_refl _) _ d _ _ (by omega) HK.out rfl rfl))
 case stop =>
  rintro d c pre W hd hpre ⟨rfl,⟨x,rfl,c1,c2⟩,hg⟩ hK
  obtain ⟨q1,q3⟩ : oneV D = x.1 ∧ (valsD D).isEmpty = false := by
   obtain ⟨t,ht⟩ := hpre
   have := congrArg (List.map Subtype.val) ht
   rw [List.attach_map_subtype_val] at this
   exact head_of this
  have q2 : oneB D = (D == 2 ^ (x.1 + 1000).toNat) := by
   unfold oneB;rw [q1,q3];simp
  have k1 := cell_of c1 0 _ rfl
  have k2 := cell_of c2 0 _ rfl
  have n1 := cell_kept k1 (grownBy_putObj' W d (.deferred none)) (fun r e => by cases e;exact ⟨_,hK,rfl⟩)
  have n2 := cell_kept k2 (grownBy_putObj' W d (.deferred none)) (fun r e => by cases e;exact ⟨_,hK,rfl⟩)
  gi_wp2
  refine ⟨by simp,.inl ⟨_,_,rfl,run_takeDeferred hK,?_⟩⟩
  refine ⟨.tuple #[.int .i64 x.1,.bool (D == 2 ^ (x.1 + 1000).toNat)],?_,rfl,?_⟩
  ·simp [results,Tryz.f126,go_sem,n1,n2]
  ·exact below_gr ((grown_below hg).trans (belowK_b (w := w) (Nat.le_refl _) W d _ _ (by omega) hK rfl rfl))
end
section
set_option maxHeartbeats 1000000
set_option maxRecDepth 100000
open Go.RowKit
variable {w : World}
theorem floor_is {n b : Int} (hb : 0 < b) : n / b = if n.tmod b < 0 then n.tdiv b - 1 else n.tdiv b := by
 have h1 := Int.mul_tdiv_add_tmod n b
 have h5 := Int.tmod_lt_of_pos n hb
 have h6 := Int.lt_tmod_of_pos n hb
 rw [Int.mul_comm] at h1
 by_cases c : n.tmod b < 0
 ·rw [if_pos c]
  refine (Int.ediv_eq_iff_of_pos hb).2 ?_
  rw [Int.sub_mul,Int.one_mul]
  omega
 ·rw [if_neg c]
  refine (Int.ediv_eq_iff_of_pos hb).2 ?_
  omega
theorem tdiv_bound {n b : Int} (hb : 0 < b) (h1 : -100000000000 ≤ n) (h2 : n ≤ 100000000000) : -100000000000 ≤ n.tdiv b ∧ n.tdiv b ≤ 100000000000 := by
 have h : (n.tdiv b).natAbs ≤ n.natAbs := by rw [Int.natAbs_tdiv];exact Nat.div_le_self _ _
 omega
theorem sc_floor (n b : Int) (hb : 0 < b) (hb2 : b ≤ 1000000000) (h1 : -100000000000 ≤ n) (h2 : n ≤ 100000000000) (w : World) : Calls Tryz.prog 216 #[.int .i64 n,.int .i64 b] w fun e w' => e = .returned (.int .i64 (n / b)) ∧ w' = w := by
 have HF := hide (floor_is (n := n) hb)
 obtain ⟨t1,t2⟩ := tdiv_bound hb h1 h2
 have hz : (b == 0) = false := by simp;omega
 have hn : b ≠ 0 := by omega
 go_enter Tryz.func216,Tryz.ntmps216
 go_wp2
 ·go_ret
  have c : n.tmod b < 0 := by assumption
  rw [HF.out,if_pos c];exact ⟨rfl,rfl⟩
 ·go_ret
  have c : ¬ n.tmod b < 0 := by omega
  rw [HF.out,if_neg c];exact ⟨rfl,rfl⟩
end
section
set_option maxHeartbeats 4000000
set_option maxRecDepth 100000
open Go.RowKit
variable {w : World}
def mostD (f n : Int) : Nat :=
 if 0 < f then rngD (-1000) (min (n / f) 1000) else if f < 0 then rngD (max (-(n / -f)) (-1000)) 1000 else if 0 ≤ n then rngD (-1000) 1000 else 0
theorem floor_bound {n b : Int} (hb : 0 < b) (h1 : -100000000000 ≤ n) (h2 : n ≤ 100000000000) : -100000000001 ≤ n / b ∧ n / b ≤ 100000000000 := by
 have := tdiv_bound hb h1 h2
 rw [floor_is hb]
 split <;> omega
theorem most_pos (f n : Int) (g1 : -1000000000 ≤ f) (g2 : f ≤ 1000000000) (h1 : -100000000000 ≤ n) (h2 : n ≤ 100000000000) (w : World) (c : 0 < f) : Calls Tryz.prog 197 #[.int .i64 f,.int .i64 n] w fun e w' => e = .returned (.agg (dArr (mostD f n))) ∧ w.grownBy w' none := by
 obtain ⟨q1,q2⟩ := floor_bound c h1 h2
 have K1 := Kept.mk (fun W => sc_floor n f c g2 h1 h2 W)
 have K2 := Kept.mk (fun W => dm_Between (-1000) (n / f) (by omega) (by omega) (by omega) (by omega) W)
 rw [Int.max_self] at K2
 have e : mostD f n = rngD (-1000) (min (n / f) 1000) := by unfold mostD;rw [if_pos c]
 rw [e]
 clear e
 generalize rngD (-1000) (min (n / f) 1000) = R at *
 generalize n / f = Q at *
 go_enter Tryz.func197,Tryz.ntmps197
 go_wp2_with (first | (refine wpList_store_row rfl 161 _ _ rfl w.heap.size (dArr R) rfl rfl 161 _ B2 (dSize R) (by rw [dArr_size];rfl) (dArr_one R) ?_) | (go_at_call 216;refine (K1.get _).mono ?_;rintro e w1 ⟨rfl,rfl⟩) | (go_at_call 83;refine (K2.get _).mono ?_;rintro e w1 ⟨rfl,hg1⟩;have B2 := (hg1.block w.heap.size (by simp) (by simp)).trans (heap_alloc_new w _)))
 refine bodyPost_ret (results_cell_row rfl _ _ w.heap.size 161 (dArr R) (0,0) _ rfl (setRow_heap _ _ _ _ _ _ B2) Tryz.underlying161 rfl (dSize R)) rfl ?_
 exact ⟨rfl,grown_newr ((World.grownBy_alloc _ _ _).trans hg1) (Nat.le_refl _) (grown_setRow _ _ _)⟩
theorem most_neg (f n : Int) (g1 : -1000000000 ≤ f) (g2 : f ≤ 1000000000) (h1 : -100000000000 ≤ n) (h2 : n ≤ 100000000000) (w : World) (c : ¬ 0 < f) (c2 : f < 0) : Calls Tryz.prog 197 #[.int .i64 f,.int .i64 n] w fun e w' => e = .returned (.agg (dArr (mostD f n))) ∧ w.grownBy w' none := by
 obtain ⟨q1,q2⟩ := floor_bound (b := -f) (by omega) h1 h2
 have K1 := Kept.mk (fun W => sc_floor n (-f) (by omega) (by omega) h1 h2 W)
 have K2 := Kept.mk (fun W => dm_Between (-(n / -f)) 1000 (by omega) (by omega) (by omega) (by omega) W)
 rw [Int.min_self] at K2
 have e : mostD f n = rngD (max (-(n / -f)) (-1000)) 1000 := by unfold mostD;rw [if_neg c,if_pos c2]
 rw [e]
 clear e
 generalize rngD (max (-(n / -f)) (-1000)) 1000 = R at *
 generalize n / -f = Q at *
 go_enter Tryz.func197,Tryz.ntmps197
 go_wp2_with (first | (refine wpList_store_row rfl 161 _ _ rfl w.heap.size (dArr R) rfl rfl 161 _ B2 (dSize R) (by rw [dArr_size];rfl) (dArr_one R) ?_) | (go_at_call 216;refine (K1.get _).mono ?_;rintro e w1 ⟨rfl,rfl⟩) | (go_at_call 83;refine (K2.get _).mono ?_;rintro e w1 ⟨rfl,hg1⟩;have B2 := (hg1.block w.heap.size (by simp) (by simp)).trans (heap_alloc_new w _)))
 refine bodyPost_ret (results_cell_row rfl _ _ w.heap.size 161 (dArr R) (0,0) _ rfl (setRow_heap _ _ _ _ _ _ B2) Tryz.underlying161 rfl (dSize R)) rfl ?_
 exact ⟨rfl,grown_newr ((World.grownBy_alloc _ _ _).trans hg1) (Nat.le_refl _) (grown_setRow _ _ _)⟩
theorem most_all (f n : Int) (g1 : -1000000000 ≤ f) (g2 : f ≤ 1000000000) (h1 : -100000000000 ≤ n) (h2 : n ≤ 100000000000) (w : World) (c : ¬ 0 < f) (c2 : ¬ f < 0) (c3 : 0 ≤ n) : Calls Tryz.prog 197 #[.int .i64 f,.int .i64 n] w fun e w' => e = .returned (.agg (dArr (mostD f n))) ∧ w.grownBy w' none := by
 obtain ⟨R,hR⟩ : ∃ R,R = rngD (-1000) 1000 := ⟨_,rfl⟩
 have K2 : Kept (∀ W : World,Calls Tryz.prog 83 #[.int .i64 (-1000),.int .i64 1000] W fun e w' => e = .returned (.agg (dArr R)) ∧ W.grownBy w' none) := Kept.mk (fun W => by
  have q := dm_Between (-1000) 1000 (by omega) (by omega) (by omega) (by omega) W
  rw [Int.max_self,Int.min_self,← hR] at q
  exact q)
 have e : mostD f n = R := by unfold mostD;rw [if_neg c,if_neg c2,if_pos c3,hR]
 rw [e]
 clear e hR
 go_enter Tryz.func197,Tryz.ntmps197
 go_wp2_with (first | (refine wpList_store_row rfl 161 _ _ rfl w.heap.size (dArr R) rfl rfl 161 _ B2 (dSize R) (by rw [dArr_size];rfl) (dArr_one R) ?_) | (go_at_call 83;refine (K2.get _).mono ?_;rintro e w1 ⟨rfl,hg1⟩;have B2 := (hg1.block w.heap.size (by simp) (by simp)).trans (heap_alloc_new w _)))
 refine bodyPost_ret (results_cell_row rfl _ _ w.heap.size 161 (dArr R) (0,0) _ rfl (setRow_heap _ _ _ _ _ _ B2) Tryz.underlying161 rfl (dSize R)) rfl ?_
 exact ⟨rfl,grown_newr ((World.grownBy_alloc _ _ _).trans hg1) (Nat.le_refl _) (grown_setRow _ _ _)⟩
end
section
set_option maxHeartbeats 4000000
set_option maxRecDepth 100000
open Go.RowKit
variable {w : World}
theorem most_none (f n : Int) (g1 : -1000000000 ≤ f) (g2 : f ≤ 1000000000) (h1 : -100000000000 ≤ n) (h2 : n ≤ 100000000000) (w : World) (c : ¬ 0 < f) (c2 : ¬ f < 0) (c3 : ¬ 0 ≤ n) : Calls Tryz.prog 197 #[.int .i64 f,.int .i64 n] w fun e w' => e = .returned (.agg (dArr (mostD f n))) ∧ w.grownBy w' none := by
 have e : mostD f n = 0 := by unfold mostD;rw [if_neg c,if_neg c2,if_neg c3]
 rw [e]
 clear e
 go_enter Tryz.func197,Tryz.ntmps197
 go_wp2_with (refine wpList_store_row rfl 161 _ _ rfl w.heap.size (dArr 0) rfl (congrArg Value.agg dZero.symm) 161 _ (heap_alloc_new w _) (dSize 0) (by rw [dArr_size];rfl) (dArr_one 0) ?_)
 refine bodyPost_ret (results_cell_row rfl _ _ w.heap.size 161 (dArr 0) (0,0) _ rfl (setRow_heap _ _ _ _ _ _ (heap_alloc_new w _)) Tryz.underlying161 rfl (dSize 0)) rfl ?_
 exact ⟨rfl,grown_newr (World.grownBy_alloc _ _ _) (Nat.le_refl _) (grown_setRow _ _ _)⟩
theorem sc_atMost (f n : Int) (g1 : -1000000000 ≤ f) (g2 : f ≤ 1000000000) (h1 : -100000000000 ≤ n) (h2 : n ≤ 100000000000) (w : World) : Calls Tryz.prog 197 #[.int .i64 f,.int .i64 n] w fun e w' => e = .returned (.agg (dArr (mostD f n))) ∧ w.grownBy w' none := by
 by_cases c : 0 < f
 ·exact most_pos f n g1 g2 h1 h2 w c
 ·by_cases c2 : f < 0
  ·exact most_neg f n g1 g2 h1 h2 w c c2
  ·by_cases c3 : 0 ≤ n
   ·exact most_all f n g1 g2 h1 h2 w c c2 c3
   ·exact most_none f n g1 g2 h1 h2 w c c2 c3
end
section
open Go.RowKit
def setD (f rel n : Int) : Nat := if rel = 2 then mostD f n else mostD f n &&& mostD (-f) (-n)
def suitD (D : Nat) (f rel n : Int) (truth : Bool) : Nat := if truth = decide (rel = 1) then subD D (setD f rel n) else D &&& setD f rel n
def zeroCon : QCon := ⟨0,0,[],0,0,[],0,0,[],[]⟩
structure SK where
 vars : List QVar
 cons : List QCon
 cvs : List (List Int)
 users : List (List Int)
 order : Int
 weak : Bool
 budget : Int
structure SS where
 left : List Nat
 trail : List (Int × Nat)
 marked : List Bool
 nodes : Int
 sols : List (List Int)
 ending : Int
def SS.L (s : SS) (v : Int) : Nat := s.left.getD v.toNat 0
def SS.vals (s : SS) : List Int := s.left.map oneV
def SS.fixed (s : SS) (v : Int) : Bool := oneB (s.L v)
def SS.val (s : SS) (v : Int) : Int := oneV (s.L v)
def markL (us : List Int) (m : List Bool) : List Bool := us.foldl (fun m c => m.set c.toNat true) m
def setS (v : Int) (D : Nat) (s : SS) : SS := { s with left := s.left.set v.toNat D }
def putS (K : SK) (v : Int) (D : Nat) (s : SS) : SS :=
 { s with trail := s.trail ++ [(v,s.L v)],left := s.left.set v.toNat D,marked := markL (K.users.getD v.toNat []) s.marked }
def keepS (K : SK) (v : Int) (D : Nat) (s : SS) : Bool × SS := if D = 0 then (false,s) else if D = s.L v then (true,s) else (true,putS K v D s)
def popS (s : SS) : SS := { s with trail := s.trail.dropLast,left := s.left.set ((s.trail.getLastD (0,0)).1.toNat) (s.trail.getLastD (0,0)).2 }
def popN : Nat → SS → SS
 | 0,s => s
 | n + 1,s => popN n (popS s)
def backS (start : Nat) (s : SS) : SS := popN (s.trail.length - start) s
def splitS (s : SS) (ts : List (Int × Int)) (v : Int) : Int × Int := ts.foldl (fun p t => if t.1 = v then (p.1 + t.2,p.2) else (p.1,p.2 + t.2 * s.val t.1)) (0,0)
def openS (s : SS) (vs : List Int) : Int × Int := vs.foldl (fun p v => if s.fixed v then p else (v,p.2 + 1)) (0,0)
def sumS (K : SK) (c : QCon) (truth : Bool) (v : Int) (s : SS) : Bool × SS :=
 keepS K v (suitD (s.L v) (splitS s c.terms v).1 c.rel (c.num - (splitS s c.terms v).2) truth) s
def bitV (v : Int) : Nat := 2 ^ (v + 1000).toNat
def hasD (D : Nat) (v : Int) : Bool := D.testBit (v + 1000).toNat
def atF (P E : Nat) : Nat → List Int → Nat × Nat → Nat × Nat
 | _,[],r => r
 | i,x :: xs,r => atF P E (i + 1) xs (if hasD P ((i : Int) + 1) && hasD E x then (r.1 ||| bitV ((i : Int) + 1),r.2 ||| bitV x) else r)
def atS (K : SK) (c : QCon) (s : SS) : Bool × SS :=
 let r := atF (s.L c.place) (s.L c.entry) 0 c.list (0,0)
 let k := keepS K c.place r.1 s
 if k.1 then keepS K c.entry (r.2 &&& k.2.L c.entry) k.2 else k
def takeS (K : SK) (x : Int) : List Int → SS → Bool × SS
 | [],s => (true,s)
 | v :: vs,s => if hasD (s.L v) x then (let k := keepS K v (subD (s.L v) (bitV x)) s;if k.1 then takeS K x vs k.2 else k) else takeS K x vs s
def diffF (K : SK) (vars : List Int) : List Nat → SS → Bool × SS
 | [],s => (true,s)
 | i :: is,s =>
  let v := vars.getD i 0
  if s.fixed v then
   let k := takeS K (s.val v) (vars.take i) s
   if k.1 then (let k2 := takeS K (k.2.val v) (vars.drop (i + 1)) k.2;if k2.1 then diffF K vars is k2.2 else k2) else k
  else diffF K vars is s
def diffS (K : SK) (vars : List Int) (s : SS) : Bool × SS := diffF K vars (List.range vars.length) s
def mayS (s : SS) (l : Int × Int) : Bool := hasD (s.L l.1) l.2
def orS (K : SK) (lits : List (Int × Int)) (s : SS) : Bool × SS :=
 let f := (lits.find? (mayS s)).getD (0,0)
 if lits.any (fun l => decide (l ≠ f) && mayS s l) then (true,s) else keepS K f.1 (bitV f.2) s
def drawS (K : SK) (i : Nat) (s : SS) : Bool × SS :=
 let c := K.cons.getD i zeroCon
 let o := openS s (K.cvs.getD i [])
 if o.2 = 0 then (conP s.vals c,s)
 else if K.weak then (true,s)
 else if c.sort = 1 then (if s.fixed c.truth then (if 1 < o.2 then (true,s) else sumS K c (decide (s.val c.truth = 1)) o.1 s) else (true,s))
 else if c.sort = 0 then (if 1 < o.2 then (true,s) else sumS K c true o.1 s)
 else if c.sort = 2 then atS K c s
 else if c.sort = 3 then diffS K c.vars s
 else if c.sort = 4 then orS K c.lits s
 else (true,s)
def markI (m : List Bool) : Option Nat := m.findIdx? id
def unmark (i : Nat) (s : SS) : SS := { s with marked := s.marked.set i false }
def clearS (s : SS) : SS := { s with marked := s.marked.map fun _ => false }
def concF (K : SK) : Nat → SS → Bool × SS
 | 0,s => (true,s)
 | n + 1,s => match markI s.marked with
  | none => (true,s)
  | some i => let k := drawS K i (unmark i s);if k.1 then concF K n k.2 else (false,clearS k.2)
def massS (s : SS) : Nat := (s.left.map cntD).sum * (s.marked.length + 1) + s.marked.countP id
def concS (K : SK) (s : SS) : Bool × SS := concF K (massS s + 1) s
def narF : Nat → List Nat → Int × Int → Int × Int
 | _,[],r => r
 | i,D :: Ds,r => narF (i + 1) Ds (if oneB D then r else if r.1 < 0 ∨ (cntD D : Int) < r.2 then ((i : Int),(cntD D : Int)) else r)
def nextS (K : SK) (s : SS) : Int :=
 if K.order = 1 then (narF 0 s.left (-1,0)).1 else (match s.left.findIdx? (fun D => !oneB D) with | some i => (i : Int) | none => -1)
def tellS (s : SS) : Bool × SS :=
 if s.sols.length = 100000 then (false,{ s with ending := 2 }) else (true,{ s with sols := s.sols ++ [s.vals] })
def chooseF (K : SK) (e : SS → Bool × SS) (v : Int) : List Int → SS → Bool × SS
 | [],s => (true,s)
 | x :: xs,s =>
  let k := concS K (putS K v (bitV x) s)
  if k.1 then (let g := e k.2;if g.1 then chooseF K e v xs (backS s.trail.length g.2) else g)
  else chooseF K e v xs (backS s.trail.length k.2)
def enterF (K : SK) : Nat → SS → Bool × SS
 | 0,s => (true,s)
 | n + 1,s =>
  if K.budget ≤ s.nodes then (false,{ s with ending := 1 })
  else
   let t : SS := { s with nodes := s.nodes + 1 }
   let v := nextS K t
   if v < 0 then tellS t else chooseF K (enterF K n) v (valsD (t.L v)) t
def openN (s : SS) : Nat := s.left.countP fun D => !oneB D
def beginS (K : SK) : SS :=
 { left := K.vars.map fun v => rngD v.low v.high,trail := [],marked := K.cons.map fun _ => true,nodes := 0,sols := [],ending := 0 }
def solveS (K : SK) : SS :=
 let k := concS K (beginS K)
 if k.1 then (enterF K (openN k.2 + 1) k.2).2 else k.2
end
section
open Go.RowKit
theorem valsF_eq (D : Nat) : ∀ f i,valsF D f i = ((List.range' (64 * i) (64 * f)).filter D.testBit).map fun p : Nat => (p : Int) - 1000
 | 0,i => by simp [valsF]
 | f + 1,i => by
  rw [valsF,valsF_eq D f (i + 1),show 64 * (f + 1) = 64 + 64 * f by omega,← List.range'_append_1,List.filter_append,List.map_append,show 64 * i + 64 = 64 * (i + 1) by omega]
  congr 1
  unfold valsB bitsL
  have e : List.range' (64 * i) 64 = (List.range 64).map (64 * i + ·) := by rw [List.range_eq_range',List.map_add_range'];simp
  rw [e,List.filter_map,List.map_map]
  have e2 : (List.range 64).filter (wordD D i).testBit = (List.range 64).filter (D.testBit ∘ (64 * i + ·)) := filter_same fun a ha => by
   have : a < 64 := by simpa using ha
   rw [wordD_bit];simp [this]
  rw [e2]
  apply List.map_congr_left
  intro a _
  simp only [Function.comp]
  omega
theorem valsD_eq (D : Nat) : valsD D = ((List.range 2048).filter D.testBit).map fun p : Nat => (p : Int) - 1000 := by
 unfold valsD;rw [valsF_eq,List.range_eq_range']
theorem addF_eq : ∀ (n x : Nat),addF 1 n x = ((List.range n).filter x.testBit).length
 | 0,x => by simp [addF]
 | n + 1,x => by
  rw [addF,addF_eq n (x / 2 ^ 1),List.range_succ_eq_map,List.filter_cons,List.filter_map,Nat.testBit_zero]
  have e : (List.range n).filter (x.testBit ∘ Nat.succ) = (List.range n).filter (x / 2 ^ 1).testBit := filter_same fun a _ => by
   simp [Nat.testBit_succ]
  rw [e]
  have h2 : x % 2 = 0 ∨ x % 2 = 1 := by omega
  rcases h2 with h | h <;> simp [h] <;> omega
theorem cntUp_eq (D : Nat) : ∀ i,cntUp D i = ((List.range (64 * i)).filter D.testBit).length
 | 0 => by simp [cntUp]
 | i + 1 => by
  rw [cntUp,cntUp_eq D i,show 64 * (i + 1) = 64 * i + 64 by omega,List.range_add,List.filter_append,List.length_append,List.filter_map,List.length_map]
  unfold ones
  rw [addF_eq]
  congr 2
  exact filter_same fun a ha => by
   have : a < 64 := by simpa using ha
   rw [wordD_bit];simp [this]
theorem cntD_eq (D : Nat) : cntD D = ((List.range 2048).filter D.testBit).length := cntUp_eq D 32
theorem cntD_vals (D : Nat) : cntD D = (valsD D).length := by rw [cntD_eq,valsD_eq,List.length_map]
theorem valsD_sorted (D : Nat) : (valsD D).Pairwise (· < ·) := by
 rw [valsD_eq,List.pairwise_map]
 refine List.Pairwise.imp ?_ (List.Pairwise.filter _ List.pairwise_lt_range)
 intro a b h;omega
theorem has_vals {D : Nat} (hD : D < 2 ^ 2001) {v : Int} : v ∈ valsD D ↔ -1000 ≤ v ∧ v ≤ 1000 ∧ hasD D v = true := by
 constructor
 ·intro h
  obtain ⟨p,h1,h2,h3⟩ := valsD_mem.1 h
  obtain ⟨q1,q2⟩ := valsD_in hD h
  refine ⟨q1,q2,?_⟩
  unfold hasD
  rw [show (v + 1000).toNat = p by omega];exact h1
 ·rintro ⟨h1,h2,h3⟩
  exact valsD_mem.2 ⟨(v + 1000).toNat,h3,by omega,by omega⟩
theorem bitV_bit (v : Int) (j : Nat) : (bitV v).testBit j = decide ((v + 1000).toNat = j) := by unfold bitV;exact Nat.testBit_two_pow
theorem bitV_has {v u : Int} (hv : -1000 ≤ v) (hu : -1000 ≤ u) : hasD (bitV v) u = decide (v = u) := by
 unfold hasD
 rw [bitV_bit,decide_eq_decide]
 omega
theorem bitV_ne (v : Int) : bitV v ≠ 0 := by unfold bitV;exact Nat.ne_of_gt (Nat.two_pow_pos _)
theorem bitV_lt {v : Int} (h : v ≤ 1000) : bitV v < 2 ^ 2001 := pow_up (a := (v + 1000).toNat) (b := 2001) (by omega)
theorem sorted_one : ∀ {l : List Int} {v : Int},l.Pairwise (· < ·) → (∀ x,x ∈ l ↔ x = v) → l = [v]
 | [],v,_,h => by have := (h v).2 rfl;cases this
 | [a],v,_,h => by have := (h a).1 (by simp);rw [this]
 | a :: b :: l,v,hp,h => by
  have h1 := (h a).1 (by simp)
  have h2 := (h b).1 (by simp)
  have := (List.pairwise_cons.1 hp).1 b (by simp)
  omega
theorem valsD_bit {v : Int} (h1 : -1000 ≤ v) (h2 : v ≤ 1000) : valsD (bitV v) = [v] := by
 refine sorted_one (valsD_sorted _) (fun x => ?_)
 rw [has_vals (bitV_lt h2)]
 constructor
 ·rintro ⟨a,b,c⟩
  rw [bitV_has h1 a] at c
  have := of_decide_eq_true c
  omega
 ·rintro rfl
  exact ⟨h1,h2,by rw [bitV_has h1 h1];simp⟩
theorem oneV_bit {v : Int} (h1 : -1000 ≤ v) (h2 : v ≤ 1000) : oneV (bitV v) = v := by unfold oneV;rw [valsD_bit h1 h2];rfl
theorem oneB_bit {v : Int} (h1 : -1000 ≤ v) (h2 : v ≤ 1000) : oneB (bitV v) = true := by
 unfold oneB;rw [valsD_bit h1 h2,oneV_bit h1 h2];simp [bitV]
theorem oneB_is {D : Nat} (hD : D < 2 ^ 2001) (h : oneB D = true) : -1000 ≤ oneV D ∧ oneV D ≤ 1000 ∧ D = bitV (oneV D) := by
 unfold oneB at h
 simp only [Bool.and_eq_true,Bool.not_eq_true',beq_iff_eq] at h
 have hm : oneV D ∈ valsD D := by
  unfold oneV
  cases e : valsD D with
  | nil => rw [e] at h;simp at h
  | cons a l => simp
 obtain ⟨a,b⟩ := valsD_in hD hm
 exact ⟨a,b,h.2⟩
theorem one_has {D : Nat} (hD : D < 2 ^ 2001) (h : oneB D = true) {v : Int} (hv : -1000 ≤ v) : hasD D v = decide (v = oneV D) := by
 obtain ⟨a,b,c⟩ := oneB_is hD h
 conv => lhs;rw [c]
 rw [bitV_has a hv,decide_eq_decide]
 exact ⟨fun e => e.symm,fun e => e.symm⟩
theorem two_of {D : Nat} (hD : D < 2 ^ 2001) (h0 : D ≠ 0) (h : oneB D = false) : ∃ a b l,valsD D = a :: b :: l := by
 obtain ⟨p,hp⟩ : ∃ p,D.testBit p = true := by
  rcases Nat.exists_testBit_of_ne_zero h0 with ⟨p,hp⟩
  exact ⟨p,hp⟩
 have hp2 := bit_lt hp hD
 have hm : ((p : Int) - 1000) ∈ valsD D := valsD_mem.2 ⟨p,hp,rfl,by omega⟩
 match e : valsD D with
 | [] => rw [e] at hm;cases hm
 | a :: b :: l => exact ⟨a,b,l,rfl⟩
 | [a] =>
  exfalso
  have ho : oneV D = a := by unfold oneV;rw [e];rfl
  have ha := valsD_in hD (v := a) (by rw [e];simp)
  have hDe : D = bitV a := by
   apply Nat.eq_of_testBit_eq
   intro j
   rw [bitV_bit]
   by_cases c : D.testBit j = true
   ·have hj := bit_lt c hD
    have : ((j : Int) - 1000) ∈ valsD D := valsD_mem.2 ⟨j,c,rfl,by omega⟩
    rw [e] at this
    have : (j : Int) - 1000 = a := by simpa using this
    rw [c,eq_comm,decide_eq_true_iff]
    omega
   ·have c' : D.testBit j = false := by simpa using c
    rw [c',eq_comm,decide_eq_false_iff_not]
    intro q
    have hm2 : a ∈ valsD D := by rw [e];simp
    obtain ⟨p2,a1,a2,a3⟩ := valsD_mem.1 hm2
    have : p2 = j := by omega
    rw [this] at a1;exact c a1
  rw [hDe,oneB_bit ha.1 ha.2] at h
  cases h
theorem count_lt {p q : Nat → Bool} : ∀ {l : List Nat},(∀ a ∈ l,p a = true → q a = true) → (∃ a ∈ l,q a = true ∧ p a = false) → (l.filter p).length < (l.filter q).length
 | [],_,h => by obtain ⟨a,ha,_⟩ := h;cases ha
 | a :: l,h1,h2 => by
  have hle : ∀ {l : List Nat},(∀ a ∈ l,p a = true → q a = true) → (l.filter p).length ≤ (l.filter q).length := by
   intro l
   induction l with
   | nil => intro _;simp
   | cons b l ih =>
    intro h
    have := ih (fun c hc => h c (by simp [hc]))
    rw [List.filter_cons,List.filter_cons]
    by_cases c : p b = true
    ·rw [if_pos c,if_pos (h b (by simp) c)];simp;exact this
    ·rw [if_neg c];split <;> simp <;> omega
  rw [List.filter_cons,List.filter_cons]
  obtain ⟨b,hb,hq,hp⟩ := h2
  rcases List.mem_cons.1 hb with e | e
  ·subst e
   rw [hp,hq]
   have := hle (l := l) (fun c hc => h1 c (by simp [hc]))
   simp;omega
  ·have := count_lt (l := l) (fun c hc => h1 c (by simp [hc])) ⟨b,e,hq,hp⟩
   by_cases c : p a = true
   ·rw [if_pos c,if_pos (h1 a (by simp) c)];simp;exact this
   ·rw [if_neg c];split <;> simp <;> omega
theorem cnt_lt {D E : Nat} (hE : E < 2 ^ 2001) (hs : ∀ j,D.testBit j = true → E.testBit j = true) (hne : D ≠ E) : cntD D < cntD E := by
 rw [cntD_eq,cntD_eq]
 refine count_lt (fun a _ => hs a) ?_
 obtain ⟨j,hj⟩ : ∃ j,D.testBit j ≠ E.testBit j := by
  refine Classical.byContradiction fun h => hne (Nat.eq_of_testBit_eq fun j => ?_)
  exact Classical.byContradiction fun q => h ⟨j,q⟩
 cases d : D.testBit j with
 | true => rw [d,hs j d] at hj;exact absurd rfl hj
 | false =>
  rw [d] at hj
  have he : E.testBit j = true := by cases e : E.testBit j with
   | true => rfl
   | false => rw [e] at hj;exact absurd rfl hj
  exact ⟨j,by simp;have := bit_lt he hE;omega,he,d⟩
theorem lt_of_bits {D k : Nat} (h : ∀ j,D.testBit j = true → j < k) : D < 2 ^ k := by
 refine Nat.lt_pow_two_of_testBit D fun j hj => ?_
 cases e : D.testBit j with
 | false => rfl
 | true => have := h j e;omega
theorem most_has {f n v : Int} (h1 : -1000 ≤ v) (h2 : v ≤ 1000) : hasD (mostD f n) v = decide (f * v ≤ n) := by
 unfold mostD hasD
 by_cases c : 0 < f
 ·rw [if_pos c,rngD_bit _ _ (by omega),Bool.eq_iff_iff]
  have q := Int.le_ediv_iff_mul_le (a := v) (b := n) c
  rw [Int.mul_comm] at q
  simp only [Bool.and_eq_true,decide_eq_true_eq,← q]
  omega
 ·rw [if_neg c]
  by_cases c2 : f < 0
  ·have hf : 0 < -f := by omega
   rw [if_pos c2,rngD_bit _ _ (by omega),Bool.eq_iff_iff]
   have q := Int.le_ediv_iff_mul_le (a := -v) (b := n) hf
   rw [Int.neg_mul_neg,Int.mul_comm] at q
   simp only [Bool.and_eq_true,decide_eq_true_eq,← q]
   omega
  ·rw [if_neg c2]
   have : f = 0 := by omega
   subst this
   rw [Int.zero_mul]
   split
   ·rename_i h
    rw [rngD_bit _ _ (by omega),Bool.eq_iff_iff]
    simp only [Bool.and_eq_true,decide_eq_true_eq]
    omega
   ·rename_i h
    rw [Nat.zero_testBit,eq_comm,decide_eq_false_iff_not];exact h
theorem setD_has {f rel n v : Int} (hr : rel = 0 ∨ rel = 1 ∨ rel = 2) (h1 : -1000 ≤ v) (h2 : v ≤ 1000) : hasD (setD f rel n) v = if rel = 2 then decide (f * v ≤ n) else decide (f * v = n) := by
 unfold setD
 by_cases c : rel = 2
 ·rw [if_pos c,if_pos c];exact most_has h1 h2
 ·rw [if_neg c,if_neg c]
  have e1 := most_has (f := f) (n := n) h1 h2
  have e2 := most_has (f := -f) (n := -n) h1 h2
  unfold hasD at *
  rw [Nat.testBit_and,e1,e2,Bool.eq_iff_iff,Int.neg_mul]
  simp only [Bool.and_eq_true,decide_eq_true_eq]
  omega
theorem suit_has {D : Nat} {f rel n v : Int} {t : Bool} (hr : rel = 0 ∨ rel = 1 ∨ rel = 2) (h1 : -1000 ≤ v) (h2 : v ≤ 1000) : hasD (suitD D f rel n t) v = (hasD D v && (relP rel (f * v) n == t)) := by
 have e := setD_has (f := f) (n := n) hr h1 h2
 unfold suitD
 unfold hasD at *
 rcases hr with rfl | rfl | rfl <;> cases t <;> simp [subD_bit,e,relP,Nat.testBit_and] <;> cases D.testBit (v + 1000).toNat <;> simp <;> (first | done | rw [Bool.eq_iff_iff];simp | skip)
theorem suit_sub {D : Nat} {f rel n : Int} {t : Bool} (j : Nat) (h : (suitD D f rel n t).testBit j = true) : D.testBit j = true := by
 unfold suitD at h
 split at h
 ·rw [subD_bit] at h;simp at h;exact h.1
 ·rw [Nat.testBit_and] at h;simp at h;exact h.1
end
section
open Go.RowKit
def rawVars (c : QCon) : List Int :=
 if c.sort = 1 then c.truth :: c.terms.map (·.1) else if c.sort = 0 then c.terms.map (·.1) else if c.sort = 2 then [c.place,c.entry] else if c.sort = 3 then c.vars else if c.sort = 4 then c.lits.map (·.1) else []
structure KOk (K : SK) : Prop where
 vars : ∀ v ∈ K.vars,-1000 ≤ v.low ∧ v.low ≤ v.high ∧ v.high ≤ 1000
 vlen : K.vars.length ≤ 8
 cons : ∀ c ∈ K.cons,ConOk K.vars.length (TruthAt K.vars) c
 clen : K.cons.length ≤ 16
 cvl : K.cvs.length = K.cons.length
 ul : K.users.length = K.vars.length
 cv : ∀ i c,K.cons[i]? = some c → ∀ v,v ∈ K.cvs.getD i [] ↔ v ∈ rawVars c
 ull : ∀ v : Nat,(K.users.getD v []).length ≤ 3000
 cvn : ∀ i : Nat,(K.cvs.getD i []).length ≤ 3000
 us : ∀ v : Nat,v < K.vars.length → ∀ c : Int,c ∈ K.users.getD v [] ↔ 0 ≤ c ∧ c < K.cons.length ∧ (v : Int) ∈ K.cvs.getD c.toNat []
theorem raw_ok {n : Nat} {t : Int → Prop} {c : QCon} (h : ConOk n t c) : ∀ v ∈ rawVars c,PlOk n v := by
 intro v hv
 unfold rawVars at hv
 split at hv
 ·rename_i e
  rcases List.mem_cons.1 hv with q | q
  ·subst q;exact (h.truth e).1
  ·obtain ⟨p,hp,rfl⟩ := List.mem_map.1 q;exact (h.terms p hp).1
 ·split at hv
  ·obtain ⟨p,hp,rfl⟩ := List.mem_map.1 hv;exact (h.terms p hp).1
  ·split at hv
   ·rename_i e
    simp at hv
    rcases hv with q | q
    ·subst q;exact (h.place e).1
    ·subst q;exact (h.place e).2
   ·split at hv
    ·exact h.vars v hv
    ·split at hv
     ·obtain ⟨p,hp,rfl⟩ := List.mem_map.1 hv;exact (h.lits p hp).1
     ·cases hv
theorem sumP_congr {x y : List Int} {ts : List (Int × Int)} (h : ∀ p ∈ ts,vAt x p.1 = vAt y p.1) : sumP x ts = sumP y ts := by
 unfold sumP
 have : ∀ (ts : List (Int × Int)) (a : Int),(∀ p ∈ ts,vAt x p.1 = vAt y p.1) → ts.foldl (fun s p => s + p.2 * vAt x p.1) a = ts.foldl (fun s p => s + p.2 * vAt y p.1) a := by
  intro ts
  induction ts with
  | nil => intro a _;rfl
  | cons p ts ih => intro a h;rw [List.foldl_cons,List.foldl_cons,h p (by simp)];exact ih _ (fun q hq => h q (by simp [hq]))
 exact this ts 0 h
theorem getD_mem' {l : List Int} {i : Nat} (h : i < l.length) : l.getD i 0 ∈ l := by
 rw [List.getD_eq_getElem?_getD,List.getElem?_eq_getElem h];simp
theorem diffP_congr {x y vars : List Int} (h : ∀ v ∈ vars,vAt x v = vAt y v) : diffP x vars = diffP y vars := by
 unfold diffP newP
 rw [Bool.eq_iff_iff,List.all_eq_true,List.all_eq_true]
 have key : ∀ i ∈ List.range vars.length,((vars.take i).all fun u => decide (vAt x (vars.getD i 0) ≠ vAt x u)) = ((vars.take i).all fun u => decide (vAt y (vars.getD i 0) ≠ vAt y u)) := by
  intro i hi
  have hi' : i < vars.length := by simpa using hi
  rw [Bool.eq_iff_iff,List.all_eq_true,List.all_eq_true]
  have h1 := h _ (getD_mem' hi')
  constructor <;> intro q u hu <;> have h2 := h u (List.mem_of_mem_take hu) <;> have h3 := q u hu
  ·rw [← h1,← h2];exact h3
  ·rw [h1,h2];exact h3
 constructor <;> intro q i hi <;> have := q i hi
 ·rw [← key i hi];exact this
 ·rw [key i hi];exact this
theorem litP_congr {x y : List Int} {lits : List (Int × Int)} (h : ∀ p ∈ lits,vAt x p.1 = vAt y p.1) : litP x lits = litP y lits := by
 unfold litP
 rw [Bool.eq_iff_iff,List.any_eq_true,List.any_eq_true]
 constructor <;> rintro ⟨p,hp,q⟩ <;> refine ⟨p,hp,?_⟩
 ·rw [← h p hp];exact q
 ·rw [h p hp];exact q
theorem conP_congr {x y : List Int} {c : QCon} (h : ∀ v ∈ rawVars c,vAt x v = vAt y v) : conP x c = conP y c := by
 unfold conP rawVars at *
 by_cases c1 : c.sort = 1
 ·rw [if_pos c1] at h
  rw [if_pos c1,if_pos c1,sumP_congr (fun p hp => h p.1 (by simp;exact .inr ⟨p.2,hp⟩)),h c.truth (by simp)]
 ·rw [if_neg c1] at h
  rw [if_neg c1,if_neg c1]
  by_cases c0 : c.sort = 0
  ·rw [if_pos c0] at h
   rw [if_pos c0,if_pos c0,sumP_congr (fun p hp => h p.1 (by simp;exact ⟨p.2,hp⟩))]
  ·rw [if_neg c0] at h
   rw [if_neg c0,if_neg c0]
   by_cases c2 : c.sort = 2
   ·rw [if_pos c2] at h
    rw [if_pos c2,if_pos c2]
    unfold atP
    rw [h c.place (by simp),h c.entry (by simp)]
   ·rw [if_neg c2] at h
    rw [if_neg c2,if_neg c2]
    by_cases c3 : c.sort = 3
    ·rw [if_pos c3] at h
     rw [if_pos c3,if_pos c3];exact diffP_congr h
    ·rw [if_neg c3] at h
     rw [if_neg c3,if_neg c3]
     by_cases c4 : c.sort = 4
     ·rw [if_pos c4] at h
      rw [if_pos c4,if_pos c4];exact litP_congr (fun p hp => h p.1 (by simp;exact ⟨p.2,hp⟩))
     ·rw [if_neg c4,if_neg c4]
structure SOk (K : SK) (s : SS) : Prop where
 ll : s.left.length = K.vars.length
 ml : s.marked.length = K.cons.length
 ne : ∀ i,i < s.left.length → s.left.getD i 0 ≠ 0
 sub : ∀ i v,K.vars[i]? = some v → ∀ j : Nat,(s.left.getD i 0).testBit j = true → v.low + 1000 ≤ (j : Int) ∧ (j : Int) ≤ v.high + 1000
theorem SOk.lt {K : SK} {s : SS} (h : SOk K s) (hK : KOk K) (i : Nat) : s.left.getD i 0 < 2 ^ 2001 := by
 by_cases c : i < s.left.length
 ·refine lt_of_bits (k := 2001) fun j hj => ?_
  have hv : K.vars[i]? = some (K.vars[i]'(by rw [← h.ll];exact c)) := List.getElem?_eq_getElem _
  have q := h.sub i _ hv j hj
  have := hK.vars _ (List.mem_of_getElem? hv)
  omega
 ·rw [List.getD_eq_getElem?_getD,List.getElem?_eq_none (by omega)]
  exact Nat.two_pow_pos 2001
theorem SOk.L_lt {K : SK} {s : SS} (h : SOk K s) (hK : KOk K) (v : Int) : s.L v < 2 ^ 2001 := h.lt hK v.toNat
structure Fits (left : List Nat) (x : List Int) : Prop where
 len : x.length = left.length
 has : ∀ i,i < left.length → hasD (left.getD i 0) (x.getD i 0) = true
theorem Fits.at_ {s : SS} {x : List Int} (h : Fits s.left x) {v : Int} (hv : PlOk s.left.length v) : hasD (s.L v) (vAt x v) = true := by
 have := h.has v.toNat (by have := hv.1;have := hv.2;omega)
 exact this
theorem Fits.bd {K : SK} {s : SS} {x : List Int} (h : Fits s.left x) (hs : SOk K s) (hK : KOk K) (hx : ∀ y ∈ x,-1000 ≤ y) (i : Nat) : -1000 ≤ x.getD i 0 ∧ x.getD i 0 ≤ 1000 := by
 by_cases c : i < x.length
 ·have h1 := h.has i (by rw [← h.len];exact c)
  have h2 := bit_lt h1 (hs.lt hK i)
  have h3 := hx _ (getD_mem' c)
  omega
 ·rw [List.getD_eq_getElem?_getD,List.getElem?_eq_none (by omega)];simp
theorem vals_at {s : SS} {v : Int} (hv : PlOk s.left.length v) : vAt s.vals v = s.val v := by
 have h : v.toNat < s.left.length := by have := hv.1;have := hv.2;omega
 unfold vAt SS.vals SS.val SS.L
 rw [List.getD_eq_getElem?_getD,List.getD_eq_getElem?_getD,List.getElem?_map,List.getElem?_eq_getElem h]
 rfl
theorem Fits.one {K : SK} {s : SS} {x : List Int} (h : Fits s.left x) (hs : SOk K s) (hK : KOk K) (hx : ∀ y ∈ x,-1000 ≤ y) {v : Int} (hv : PlOk s.left.length v) (hf : s.fixed v = true) : vAt x v = s.val v := by
 have h1 := h.at_ hv
 have h2 := (h.bd hs hK hx v.toNat).1
 have := one_has (hs.L_lt hK v) hf (v := vAt x v) h2
 rw [this] at h1
 exact of_decide_eq_true h1
end
section
open Go.RowKit
def undoL (t : List (Int × Nat)) (l : List Nat) : List Nat := t.foldr (fun p l => l.set p.1.toNat p.2) l
structure Ref (K : SK) (s s' : SS) : Prop where
 ll : s'.left.length = s.left.length
 ml : s'.marked.length = s.marked.length
 sub : ∀ i j,(s'.left.getD i 0).testBit j = true → (s.left.getD i 0).testBit j = true
 ne : ∀ i,s.left.getD i 0 ≠ 0 → s'.left.getD i 0 ≠ 0
 nodes : s'.nodes = s.nodes
 sols : s'.sols = s.sols
 ending : s'.ending = s.ending
 tr : ∃ t,s'.trail = s.trail ++ t ∧ undoL t s'.left = s.left
 mrk : ∀ c : Nat,s'.marked.getD c true = false → s.marked.getD c true = false ∧ ∀ v ∈ K.cvs.getD c [],s'.L v = s.L v
 mass : s' = s ∨ (s'.left.map cntD).sum < (s.left.map cntD).sum
theorem Ref.refl (K : SK) (s : SS) : Ref K s s :=
 ⟨rfl,rfl,fun _ _ h => h,fun _ h => h,rfl,rfl,rfl,⟨[],by simp,rfl⟩,fun c h => ⟨h,fun _ _ => rfl⟩,.inl rfl⟩
theorem Ref.trans {K : SK} {a b c : SS} (h : Ref K a b) (k : Ref K b c) : Ref K a c := by
 refine ⟨k.ll.trans h.ll,k.ml.trans h.ml,fun i j q => h.sub i j (k.sub i j q),fun i q => k.ne i (h.ne i q),k.nodes.trans h.nodes,k.sols.trans h.sols,k.ending.trans h.ending,?_,?_,?_⟩
 ·obtain ⟨t,t1,t2⟩ := h.tr
  obtain ⟨u,u1,u2⟩ := k.tr
  refine ⟨t ++ u,by rw [u1,t1,List.append_assoc],?_⟩
  unfold undoL at *
  rw [List.foldr_append,u2,t2]
 ·intro i q
  obtain ⟨k1,k2⟩ := k.mrk i q
  obtain ⟨h1,h2⟩ := h.mrk i k1
  exact ⟨h1,fun v hv => (k2 v hv).trans (h2 v hv)⟩
 ·rcases h.mass with e | e
  ·rcases k.mass with f | f
   ·exact .inl (f.trans e)
   ·subst e;exact .inr f
  ·rcases k.mass with f | f
   ·subst f;exact .inr e
   ·exact .inr (Nat.lt_trans f e)
theorem Ref.ok {K : SK} {s s' : SS} (h : Ref K s s') (hs : SOk K s) : SOk K s' :=
 ⟨h.ll.trans hs.ll,h.ml.trans hs.ml,fun i hi => h.ne i (hs.ne i (by rw [← h.ll];exact hi)),fun i v hv j hj => hs.sub i v hv j (h.sub i j hj)⟩
theorem mark_len (us : List Int) : ∀ m : List Bool,(markL us m).length = m.length := by
 induction us with
 | nil => intro m;rfl
 | cons u us ih => intro m;show (markL us (m.set u.toNat true)).length = _;rw [ih];simp
theorem mark_at {us : List Int} (h0 : ∀ u ∈ us,0 ≤ u) : ∀ (m : List Bool) (c : Nat),(markL us m).getD c true = false → m.getD c true = false ∧ (c : Int) ∉ us := by
 induction us with
 | nil => intro m c h;exact ⟨h,by simp⟩
 | cons u us ih =>
  intro m c h
  obtain ⟨h1,h2⟩ := ih (fun v hv => h0 v (by simp [hv])) (m.set u.toNat true) c h
  rw [List.getD_eq_getElem?_getD,List.getElem?_set] at h1
  have hu := h0 u (by simp)
  split at h1
  ·rename_i e
   split at h1 <;> simp at h1
  ·rename_i e
   refine ⟨by rw [List.getD_eq_getElem?_getD];exact h1,?_⟩
   simp only [List.mem_cons,not_or]
   exact ⟨by omega,h2⟩
theorem getD_set {l : List Nat} {i k D : Nat} (h : i < l.length) : (l.set i D).getD k 0 = if i = k then D else l.getD k 0 := by
 rw [List.getD_eq_getElem?_getD,List.getElem?_set]
 split
 ·rename_i e;subst e;simp
 ·rw [List.getD_eq_getElem?_getD]
theorem sum_set {f : Nat → Nat} : ∀ {l : List Nat} {i D : Nat},i < l.length → f D < f (l.getD i 0) → ((l.set i D).map f).sum < (l.map f).sum
 | [],i,D,h,_ => by simp at h
 | a :: l,0,D,_,h => by simp at h ⊢;exact h
 | a :: l,i + 1,D,h,k => by
  have := sum_set (f := f) (l := l) (i := i) (D := D) (by simpa using h) (by simpa using k)
  rw [List.set_cons_succ,List.map_cons,List.map_cons,List.sum_cons,List.sum_cons]
  omega
theorem put_ref {K : SK} (hK : KOk K) {s : SS} (hs : SOk K s) {v : Int} (hv : PlOk K.vars.length v) {D : Nat} (hsub : ∀ j,D.testBit j = true → (s.L v).testBit j = true) (h0 : D ≠ 0) (hne : D ≠ s.L v) : Ref K s (putS K v D s) := by
 have hl : v.toNat < s.left.length := by have := hs.ll;have := hv.1;have := hv.2;omega
 have hlv : v.toNat < K.vars.length := by have := hs.ll;omega
 refine ⟨by simp [putS],by simp [putS,mark_len],fun i j h => ?_,fun i h => ?_,rfl,rfl,rfl,⟨[(v,s.L v)],rfl,?_⟩,fun c h => ?_,.inr ?_⟩
 ·simp only [putS,getD_set hl] at h
  split at h
  ·rename_i e;subst e;exact hsub j h
  ·exact h
 ·simp only [putS,getD_set hl]
  split
  ·exact h0
  ·exact h
 ·simp only [putS,undoL,List.foldr_cons,List.foldr_nil,List.set_set]
  apply List.ext_getElem?
  intro k
  rw [List.getElem?_set]
  split
  ·rename_i e
   subst e
   rw [List.getElem?_eq_getElem hl]
   simp [SS.L,List.getD_eq_getElem?_getD,List.getElem?_eq_getElem hl]
  ·rfl
 ·have hus := hK.us v.toNat hlv
  obtain ⟨m1,m2⟩ := mark_at (fun u hu => ((hus u).1 hu).1) _ c h
  refine ⟨m1,fun u hu => ?_⟩
  have hc : c < K.cons.length := by
   refine Nat.lt_of_not_le fun q => ?_
   rw [List.getD_eq_getElem?_getD,List.getElem?_eq_none (by rw [hs.ml];exact q)] at m1;cases m1
  have hcc : K.cons[c]? = some (K.cons[c]) := List.getElem?_eq_getElem hc
  have hup := raw_ok (hK.cons _ (List.mem_of_getElem? hcc)) u ((hK.cv c _ hcc u).1 hu)
  have hne2 : v.toNat ≠ u.toNat := by
   intro e
   have e2 : u = v := by have := hup.1;have := hv.1;omega
   subst e2
   refine m2 ((hus c).2 ⟨by omega,by omega,?_⟩)
   rw [show ((u.toNat : Nat) : Int) = u by have := hup.1;omega,show (c : Int).toNat = c by omega]
   exact hu
  simp only [SS.L,putS,getD_set hl,if_neg hne2]
 ·exact sum_set hl (cnt_lt (hs.L_lt hK v) hsub hne)
def Snd (P : List Int → Prop) (s : SS) (r : Bool × SS) : Prop := ∀ x,(∀ y ∈ x,-1000 ≤ y) → Fits s.left x → P x → r.1 = true ∧ Fits r.2.left x
theorem keep_ok {K : SK} (hK : KOk K) {s : SS} (hs : SOk K s) {v : Int} (hv : PlOk K.vars.length v) {D : Nat} (hsub : ∀ j,D.testBit j = true → (s.L v).testBit j = true) : Ref K s (keepS K v D s).2 ∧ Snd (fun x => hasD D (vAt x v) = true) s (keepS K v D s) := by
 have hl : v.toNat < s.left.length := by have := hs.ll;have := hv.1;have := hv.2;omega
 unfold keepS
 by_cases c : D = 0
 ·rw [if_pos c]
  refine ⟨Ref.refl K s,fun x _ _ h => ?_⟩
  rw [c] at h;simp [hasD] at h
 ·rw [if_neg c]
  by_cases c2 : D = s.L v
  ·rw [if_pos c2]
   exact ⟨Ref.refl K s,fun x _ hx _ => ⟨rfl,hx⟩⟩
  ·rw [if_neg c2]
   refine ⟨put_ref hK hs hv hsub c c2,fun x _ hx h => ⟨rfl,?_,fun i hi => ?_⟩⟩
   ·simp [putS];exact hx.len
   ·simp only [putS,getD_set hl]
    split
    ·rename_i e;subst e;exact h
    ·exact hx.has i (by simpa [putS] using hi)
theorem Snd.imp {P Q' : List Int → Prop} {s : SS} {r : Bool × SS} (h : Snd P s r) (hi : ∀ x,(∀ y ∈ x,-1000 ≤ y) → Fits s.left x → Q' x → P x) : Snd Q' s r := fun x hx hf hq => h x hx hf (hi x hx hf hq)
theorem split_sum {s : SS} {x : List Int} {v : Int} {ts : List (Int × Int)} (h : ∀ p ∈ ts,p.1 ≠ v → vAt x p.1 = s.val p.1) : sumP x ts = (splitS s ts v).1 * vAt x v + (splitS s ts v).2 := by
 have : ∀ (ts : List (Int × Int)),(∀ p ∈ ts,p.1 ≠ v → vAt x p.1 = s.val p.1) → ∀ (a : Int) (q : Int × Int),a = q.1 * vAt x v + q.2 →
   ts.foldl (fun s p => s + p.2 * vAt x p.1) a = (ts.foldl (fun p t => if t.1 = v then (p.1 + t.2,p.2) else (p.1,p.2 + t.2 * s.val t.1)) q).1 * vAt x v + (ts.foldl (fun p t => if t.1 = v then (p.1 + t.2,p.2) else (p.1,p.2 + t.2 * s.val t.1)) q).2 := by
  intro ts
  induction ts with
  | nil => intro _ a q e;exact e
  | cons p ts ih =>
   intro h a q e
   rw [List.foldl_cons,List.foldl_cons]
   refine ih (fun p' hp' => h p' (by simp [hp'])) _ _ ?_
   by_cases c : p.1 = v
   ·rw [if_pos c,e,c,Int.add_mul];omega
   ·rw [if_neg c,h p (by simp) c,e];simp only [];omega
 exact this ts h 0 (0,0) (by simp)
theorem relP_shift {r a b c : Int} (hr : r = 0 ∨ r = 1 ∨ r = 2) : relP r (a + b) c = relP r a (c - b) := by
 rcases hr with rfl | rfl | rfl <;> simp [relP,bne] <;> (first | rw [decide_eq_decide] | skip) <;> (first | omega | skip)
 ·rw [Bool.eq_iff_iff];simp;omega
theorem sum_ok {K : SK} (hK : KOk K) {s : SS} (hs : SOk K s) {c : QCon} (hc : c ∈ K.cons) {t : Bool} {v : Int} (hv : PlOk K.vars.length v) (ho : ∀ p ∈ c.terms,p.1 ≠ v → s.fixed p.1 = true) : Ref K s (sumS K c t v s).2 ∧ Snd (fun x => relP c.rel (sumP x c.terms) c.num = t) s (sumS K c t v s) := by
 have hcon := hK.cons c hc
 obtain ⟨h1,h2⟩ := keep_ok hK hs hv (D := suitD (s.L v) (splitS s c.terms v).1 c.rel (c.num - (splitS s c.terms v).2) t) (fun j => suit_sub j)
 refine ⟨h1,h2.imp fun x hx hf hq => ?_⟩
 have hv' : PlOk s.left.length v := by rw [hs.ll];exact hv
 have hb : -1000 ≤ vAt x v ∧ vAt x v ≤ 1000 := hf.bd hs hK hx v.toNat
 rw [suit_has hcon.rel hb.1 hb.2,hf.at_ hv']
 have e : sumP x c.terms = (splitS s c.terms v).1 * vAt x v + (splitS s c.terms v).2 := split_sum fun p hp hne => hf.one hs hK hx (by rw [hs.ll];exact (hcon.terms p hp).1) (ho p hp hne)
 rw [e,relP_shift hcon.rel] at hq
 rw [hq];simp
theorem atF_mono {P E : Nat} : ∀ {l : List Int} {i : Nat} {r : Nat × Nat} (j : Nat),(r.1.testBit j = true → (atF P E i l r).1.testBit j = true) ∧ (r.2.testBit j = true → (atF P E i l r).2.testBit j = true)
 | [],i,r,j => ⟨id,id⟩
 | x :: l,i,r,j => by
  have q := atF_mono (P := P) (E := E) (l := l) (i := i + 1) (r := if hasD P ((i : Int) + 1) && hasD E x then (r.1 ||| bitV ((i : Int) + 1),r.2 ||| bitV x) else r) j
  rw [atF]
  constructor
  ·intro h;refine q.1 ?_;split
   ·rw [Nat.testBit_or,h];rfl
   ·exact h
  ·intro h;refine q.2 ?_;split
   ·rw [Nat.testBit_or,h];rfl
   ·exact h
theorem atF_sub {P E : Nat} : ∀ {l : List Int} {i : Nat} {r : Nat × Nat},(∀ j,r.1.testBit j = true → P.testBit j = true) → (∀ j,r.2.testBit j = true → E.testBit j = true) → (∀ j,(atF P E i l r).1.testBit j = true → P.testBit j = true) ∧ (∀ j,(atF P E i l r).2.testBit j = true → E.testBit j = true)
 | [],i,r,h1,h2 => ⟨h1,h2⟩
 | x :: l,i,r,h1,h2 => by
  rw [atF]
  refine atF_sub (fun j h => ?_) (fun j h => ?_)
  ·split at h
   ·rename_i c
    simp only [Nat.testBit_or,Bool.or_eq_true,Bool.and_eq_true] at h c
    rcases h with h | h
    ·exact h1 j h
    ·rw [bitV_bit] at h;rw [← of_decide_eq_true h];exact c.1
   ·exact h1 j h
  ·split at h
   ·rename_i c
    simp only [Nat.testBit_or,Bool.or_eq_true,Bool.and_eq_true] at h c
    rcases h with h | h
    ·exact h2 j h
    ·rw [bitV_bit] at h;rw [← of_decide_eq_true h];exact c.2
   ·exact h2 j h
theorem bitV_self (r : Nat) (v : Int) : hasD (r ||| bitV v) v = true := by
 unfold hasD
 rw [Nat.testBit_or,bitV_bit,decide_eq_true rfl,Bool.or_true]
theorem atF_has {P E : Nat} {x : Int} (he : hasD E x = true) (l : List Int) : ∀ (i k : Nat) (r : Nat × Nat),l[k]? = some x → hasD P (((i + k : Nat) : Int) + 1) = true → hasD (atF P E i l r).1 (((i + k : Nat) : Int) + 1) = true ∧ hasD (atF P E i l r).2 x = true := by
 induction l with
 | nil => intro i k r h;simp at h
 | cons y l ih =>
  intro i k r h hp
  cases k with
  | zero =>
   have e : y = x := by simpa using h
   subst e
   rw [Nat.add_zero] at hp ⊢
   rw [atF,hp,he]
   exact ⟨(atF_mono _).1 (bitV_self _ _),(atF_mono _).2 (bitV_self _ _)⟩
  | succ k =>
   rw [atF,show i + (k + 1) = i + 1 + k by omega]
   exact ih _ _ _ (by simpa using h) (by rw [show i + 1 + k = i + (k + 1) by omega];exact hp)
theorem at_ok {K : SK} (hK : KOk K) {s : SS} (hs : SOk K s) {c : QCon} (hc : c ∈ K.cons) (h2 : c.sort = 2) : Ref K s (atS K c s).2 ∧ Snd (fun x => atP c x = true) s (atS K c s) := by
 have hcon := hK.cons c hc
 obtain ⟨hp,he⟩ := hcon.place h2
 obtain ⟨u1,u2⟩ := atF_sub (P := s.L c.place) (E := s.L c.entry) (l := c.list) (i := 0) (r := (0,0)) (fun j h => by simp at h) (fun j h => by simp at h)
 obtain ⟨k1,k2⟩ := keep_ok hK hs hp u1
 have hs2 := k1.ok hs
 obtain ⟨m1,m2⟩ := keep_ok hK hs2 he (D := (atF (s.L c.place) (s.L c.entry) 0 c.list (0,0)).2 &&& ((keepS K c.place (atF (s.L c.place) (s.L c.entry) 0 c.list (0,0)).1 s).2).L c.entry) (fun j h => by rw [Nat.testBit_and] at h;simp at h;exact h.2)
 unfold atS
 simp only []
 by_cases q : (keepS K c.place (atF (s.L c.place) (s.L c.entry) 0 c.list (0,0)).1 s).1 = true
 ·rw [if_pos q]
  refine ⟨k1.trans m1,fun x hx hf ha => ?_⟩
  obtain ⟨a1,a2⟩ := hf.at_ (v := c.place) (by rw [hs.ll];exact hp) |> fun a => And.intro a (hf.at_ (v := c.entry) (by rw [hs.ll];exact he))
  have hh : hasD (atF (s.L c.place) (s.L c.entry) 0 c.list (0,0)).1 (vAt x c.place) = true ∧ hasD (atF (s.L c.place) (s.L c.entry) 0 c.list (0,0)).2 (vAt x c.entry) = true := by
   unfold atP at ha
   simp only [Bool.and_eq_true,decide_eq_true_eq] at ha
   obtain ⟨⟨b1,b2⟩,b3⟩ := ha
   obtain ⟨k,hk⟩ : ∃ k : Nat,vAt x c.place = (k : Int) + 1 := ⟨(vAt x c.place - 1).toNat,by omega⟩
   have hkl : k < c.list.length := by omega
   rw [hk] at b3
   rw [show ((k : Int) + 1 - 1).toNat = k by omega] at b3
   have hget : c.list[k]? = some (vAt x c.entry) := by
    rw [List.getD_eq_getElem?_getD,List.getElem?_eq_getElem hkl] at b3
    rw [List.getElem?_eq_getElem hkl];simpa using b3
   have := atF_has (P := s.L c.place) (E := s.L c.entry) a2 c.list 0 k (0,0) hget (by rw [Nat.zero_add,← hk];exact a1)
   rw [Nat.zero_add,← hk] at this
   exact this
  obtain ⟨_,f2⟩ := k2 x hx hf hh.1
  refine m2 x hx f2 ?_
  have g := f2.at_ (v := c.entry) (by rw [hs2.ll];exact he)
  have hh2 := hh.2
  show hasD (_ &&& _) _ = true
  unfold hasD at hh2 g ⊢
  rw [Nat.testBit_and,hh2,g];rfl
 ·rw [if_neg q]
  refine ⟨k1,fun x hx hf ha => ?_⟩
  exfalso
  obtain ⟨a1,a2⟩ := hf.at_ (v := c.place) (by rw [hs.ll];exact hp) |> fun a => And.intro a (hf.at_ (v := c.entry) (by rw [hs.ll];exact he))
  unfold atP at ha
  simp only [Bool.and_eq_true,decide_eq_true_eq] at ha
  obtain ⟨⟨b1,b2⟩,b3⟩ := ha
  obtain ⟨k,hk⟩ : ∃ k : Nat,vAt x c.place = (k : Int) + 1 := ⟨(vAt x c.place - 1).toNat,by omega⟩
  have hkl : k < c.list.length := by omega
  rw [hk] at b3
  rw [show ((k : Int) + 1 - 1).toNat = k by omega] at b3
  have hget : c.list[k]? = some (vAt x c.entry) := by
   rw [List.getD_eq_getElem?_getD,List.getElem?_eq_getElem hkl] at b3
   rw [List.getElem?_eq_getElem hkl];simpa using b3
  have := atF_has (P := s.L c.place) (E := s.L c.entry) a2 c.list 0 k (0,0) hget (by rw [Nat.zero_add,← hk];exact a1)
  rw [Nat.zero_add,← hk] at this
  exact q (k2 x hx hf this.1).1
end
end Go.Proofs.YthpcbbnabnlanaaGreatDoor
