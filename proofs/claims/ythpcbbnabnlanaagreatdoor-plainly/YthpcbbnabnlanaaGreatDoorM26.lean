import Derived.Test.YthpcbbnabnlanaaGreatDoorM16
import Derived.Test.YthpcbbnabnlanaaGreatDoorM17
import Derived.Test.YthpcbbnabnlanaaGreatDoorM25
import Derived.Deep.OwnRows
namespace Go.Proofs.YthpcbbnabnlanaaGreatDoor
open Go.RowKit
set_option linter.unusedVariables false
set_option linter.unusedSimpArgs false
section
def upd {n : Nat} {α : Type} (f : Fin n → α) (j : Fin n) (v : α) : Fin n → α := fun i => if i = j then v else f i
theorem upd_at {n : Nat} {α : Type} (f : Fin n → α) (j : Fin n) (v : α) : upd f j v j = v := by simp [upd]
theorem upd_ne {n : Nat} {α : Type} (f : Fin n → α) {j i : Fin n} (v : α) (h : i ≠ j) : upd f j v i = f i := by simp [upd,h]
structure MadeAt {n : Nat} (w0 W : World) (blk : Fin n → Obj) (f : Fin n → Option Nat) : Prop where
 g : w0.grownBy W none
 at_ : ∀ j k,f j = some k → w0.heap.size ≤ k ∧ W.heap[k]? = some (blk j)
 inj : ∀ i j k,f i = some k → f j = some k → i = j
theorem MadeAt.more {n : Nat} {w0 W : World} {blk : Fin n → Obj} {f : Fin n → Option Nat} (h : MadeAt w0 W blk f) (j : Fin n) : MadeAt w0 (W.alloc (blk j)) blk (upd f j (some W.heap.size)) := by
 refine ⟨h.g.trans (World.grownBy_alloc _ _ _),fun i k hk => ?_,fun i i' k hk hk' => ?_⟩
 ·by_cases e : i = j
  ·subst e
   rw [upd_at] at hk
   cases hk
   exact ⟨h.g.size,heap_alloc_new _ _⟩
  ·rw [upd_ne _ _ e] at hk
   obtain ⟨q1,q2⟩ := h.at_ i k hk
   exact ⟨q1,(heap_alloc_old _ _ (Array.getElem?_eq_some_iff.1 q2).1).trans q2⟩
 ·have lt : ∀ i k,f i = some k → k < W.heap.size := fun i k hk => (Array.getElem?_eq_some_iff.1 (h.at_ i k hk).2).1
  by_cases e : i = j
  ·by_cases e' : i' = j
   ·rw [e,e']
   ·subst e
    rw [upd_at] at hk
    rw [upd_ne _ _ e'] at hk'
    cases hk
    exact absurd (lt _ _ hk') (Nat.lt_irrefl _)
  ·by_cases e' : i' = j
   ·subst e'
    rw [upd_at] at hk'
    rw [upd_ne _ _ e] at hk
    cases hk'
    exact absurd (lt _ _ hk) (Nat.lt_irrefl _)
   ·rw [upd_ne _ _ e] at hk
    rw [upd_ne _ _ e'] at hk'
    exact h.inj i i' k hk hk'
theorem wpAnyH_makes {P : Program} {ops : Array Oper} {Q : Exit → Act → World → Prop} {md : Region.Mode} {S : World → Prop} {n : Nat} (w0 : World) (blk : Fin n → Obj) (at_ : Fin n → Nat) (sl : Fin n → Option Tmp) (nn : Fin n → Nat) (L : (Fin n → Bool) → Array Bool) (A : (Fin n → Option Nat) → Act) (fuel : Nat) (hS : ∀ W,w0.grownBy W none → S W) (hop : ∀ j,∃ o t l c,ops[at_ j]? = some o ∧ o.guard = none ∧ o.dst = sl j ∧ o.op = Op.makeSlice t l c ∧ (∀ f,(A f).eval l = .int .i64 (nn j : Int)) ∧ (∀ f,(A f).eval c = .int .i64 (nn j : Int)) ∧
   ∀ W : World,(Instr.makeSlice t (.int .i64 (nn j : Int)) (.int .i64 (nn j : Int))).run P W = .ok (.slice (some ⟨W.heap.size,0,none⟩) (nn j) (nn j)) (W.alloc (blk j)))
  (hL : ∀ j g,(L g).setIfInBounds (at_ j) true = L (upd g j true))
  (hA : ∀ j f k,(A f).put (sl j) (.slice (some ⟨k,0,none⟩) (nn j) (nn j)) = A (upd f j (some k)))
  (hrd : ∀ g,(∃ j,g j = false) → Region.ready md ops (L g) ≠ [] ∧ ∀ i ∈ Region.ready md ops (L g),∃ j,i = at_ j ∧ g j = false)
  (hend : ∀ f W,(∀ j,f j ≠ none) → MadeAt w0 W blk f → wpAnyH P md ops Q S fuel (L fun _ => true) (A f) W) :
  ∀ (m : Nat) (f : Fin n → Option Nat) (T : List (Fin n)) (W : World),T.length = m → (∀ j,f j = none ↔ j ∈ T) → T.Nodup → MadeAt w0 W blk f → wpAnyH P md ops Q S (fuel + m) (L fun j => (f j).isSome) (A f) W
 | 0,f,T,W,hT,hf,_,hM => by
  have hT0 : T = [] := List.length_eq_zero_iff.1 hT
  subst hT0
  have hsome : ∀ j,f j ≠ none := fun j e => by have := (hf j).1 e;cases this
  have : (fun j => (f j).isSome) = fun _ => true := funext fun j => by
   cases e : f j with
   | none => exact absurd e (hsome j)
   | some k => rfl
  rw [this]
  exact hend f W hsome hM
 | m + 1,f,T,W,hT,hf,hnd,hM => by
  have hex : ∃ j,(fun j => (f j).isSome) j = false := by
   match T,hT with
   | j :: T,_ => exact ⟨j,by simp [(hf j).2 (List.mem_cons_self ..)]⟩
  obtain ⟨hne,hall⟩ := hrd _ hex
  refine wpAnyH_all rfl hne (fun i hi => ?_)
  obtain ⟨j,rfl,hj⟩ := hall i hi
  have hj0 : f j = none := by cases e : f j with | none => rfl | some k => simp [e] at hj
  obtain ⟨o,t,l,c,h1,h2,h3,h4,h5,h6,h7⟩ := hop j
  refine wpOp_step h1 (fun K' hK' => ?_)
  rw [if_pos (by simp [Region.wanted,h2])]
  unfold Oper.wp
  have hrun : (execOp (A f).eval o).run P W = .ok (.value (.slice (some ⟨W.heap.size,0,none⟩) (nn j) (nn j))) (W.alloc (blk j)) := by
   simp [execOp,h4,h5,h6,h7,Result.andThen]
  rw [hrun,Oper.upon_value]
  refine hK' _ _ ?_
  have hM' := hM.more j
  refine ⟨hS _ hM'.g,?_⟩
  rw [hL j,h3,hA j]
  have e1 : upd (fun j => (f j).isSome) j true = fun i => (upd f j (some W.heap.size) i).isSome := funext fun i => by
   by_cases e : i = j
   ·subst e;simp [upd_at]
   ·simp [upd_ne _ _ e]
  rw [e1]
  refine wpAnyH_makes w0 blk at_ sl nn L A fuel hS hop hL hA hrd hend m _ (T.erase j) _ ?_ (fun i => ?_) (hnd.erase j) hM'
  ·rw [List.length_erase_of_mem ((hf j).1 hj0)];omega
  ·by_cases e : i = j
   ·subst e;simp [upd_at,List.Nodup.mem_erase_iff hnd]
   ·rw [upd_ne _ _ e,hf i,List.Nodup.mem_erase_iff hnd]
    exact ⟨fun h => ⟨e,h⟩,fun h => h.2⟩
end
section
variable {w0 w w' w'' : World} {X : SL} {K : SK} {s : SS} {vT vS : Value}
def addU (us : List (List Int)) (c : Int) (vs : List Int) : List (List Int) := vs.foldl (fun us v => us.set v.toNat (us.getD v.toNat [] ++ [c])) us
def usersF (n : Nat) (cvs : List (List Int)) : List (List Int) := cvs.zipIdx.foldl (fun us p => addU us (p.2 : Int) p.1) (List.replicate n [])
theorem addU_nil (us : List (List Int)) (c : Int) : addU us c [] = us := rfl
theorem addU_cons (us : List (List Int)) (c v : Int) (vs : List Int) : addU us c (v :: vs) = addU (us.set v.toNat (us.getD v.toNat [] ++ [c])) c vs := rfl
theorem addU_snoc (us : List (List Int)) (c v : Int) (vs : List Int) : addU us c (vs ++ [v]) = (addU us c vs).set v.toNat ((addU us c vs).getD v.toNat [] ++ [c]) := by
 unfold addU;rw [List.foldl_append];rfl
theorem addU_len (c : Int) : ∀ (vs : List Int) (us : List (List Int)),(addU us c vs).length = us.length
 | [],us => rfl
 | v :: vs,us => by rw [addU_cons,addU_len c vs,List.length_set]
theorem set_getD (us : List (List Int)) (i j : Nat) (x : List Int) (hi : i < us.length) : (us.set i x).getD j [] = if j = i then x else us.getD j [] := by
 simp only [List.getD_eq_getElem?_getD,List.getElem?_set]
 by_cases e : j = i
 ·subst e;simp [hi]
 ·rw [if_neg (fun h => e h.symm),if_neg e]
theorem addU_mem (c : Int) : ∀ (vs : List Int) (us : List (List Int)),(∀ v ∈ vs,0 ≤ v ∧ v.toNat < us.length) → ∀ (j : Nat) (x : Int),x ∈ (addU us c vs).getD j [] ↔ x ∈ us.getD j [] ∨ (x = c ∧ (j : Int) ∈ vs)
 | [],us,_,j,x => by simp [addU_nil]
 | v :: vs,us,h,j,x => by
  obtain ⟨h1,h2⟩ := h v (by simp)
  rw [addU_cons,addU_mem c vs _ (fun u hu => by have := h u (by simp [hu]);rw [List.length_set];exact this),set_getD _ _ _ _ h2]
  by_cases e : j = v.toNat
  ·have : (j : Int) = v := by omega
   rw [if_pos e]
   simp [this,← e]
   intro h _
   exact .inr h
  ·have : (j : Int) ≠ v := by omega
   rw [if_neg e]
   simp [this]
theorem addU_le (c : Int) : ∀ (vs : List Int) (us : List (List Int)) (j : Nat),((addU us c vs).getD j []).length ≤ (us.getD j []).length + vs.length
 | [],us,j => by simp [addU_nil]
 | v :: vs,us,j => by
  have := addU_le c vs (us.set v.toNat (us.getD v.toNat [] ++ [c])) j
  rw [addU_cons]
  have k : ((us.set v.toNat (us.getD v.toNat [] ++ [c])).getD j []).length ≤ (us.getD j []).length + 1 := by
   by_cases hl : v.toNat < us.length
   ·rw [set_getD _ _ _ _ hl]
    split
    ·rename_i e;subst e;simp
    ·omega
   ·rw [List.set_eq_of_length_le (by omega)];omega
  simp only [List.length_cons]
  omega
theorem usersF_snoc (n : Nat) (l : List (List Int)) (x : List Int) : usersF n (l ++ [x]) = addU (usersF n l) l.length x := by
 unfold usersF
 rw [List.zipIdx_append,List.foldl_append]
 simp
theorem usersF_len (n : Nat) (l : List (List Int)) : (usersF n l).length = n := by
 unfold usersF
 suffices h : ∀ (ps : List (List Int × Nat)) (us : List (List Int)),(ps.foldl (fun us p => addU us (p.2 : Int) p.1) us).length = us.length by rw [h];simp
 intro ps
 induction ps with
 | nil => intro us;rfl
 | cons p ps ih => intro us;rw [List.foldl_cons,ih,addU_len]
theorem rev_ind {α : Type} {p : List α → Prop} (h0 : p []) (h1 : ∀ l x,p l → p (l ++ [x])) (l : List α) : p l := by
 have : ∀ r : List α,p r.reverse := fun r => by
  induction r with
  | nil => exact h0
  | cons x r ih => rw [List.reverse_cons];exact h1 _ _ ih
 have q := this l.reverse
 rwa [List.reverse_reverse] at q
theorem usersF_mem (n : Nat) (l : List (List Int)) : (∀ vs ∈ l,∀ v ∈ vs,0 ≤ v ∧ v < n) → ∀ (j : Nat),j < n → ∀ x : Int,x ∈ (usersF n l).getD j [] ↔ 0 ≤ x ∧ x < l.length ∧ (j : Int) ∈ l.getD x.toNat [] := by
 refine rev_ind (p := fun l => (∀ vs ∈ l,∀ v : Int,v ∈ vs → 0 ≤ v ∧ v < (n : Int)) → ∀ (j : Nat),j < n → ∀ x : Int,x ∈ (usersF n l).getD j [] ↔ 0 ≤ x ∧ x < l.length ∧ (j : Int) ∈ l.getD x.toNat []) ?_ ?_ l
 ·intro _ j hj x
  simp [usersF,hj]
 ·intro l vs ih h j hj x
  rw [usersF_snoc,addU_mem _ _ _ (fun v hv => by have := h vs (by simp) v hv;rw [usersF_len];omega),ih (fun u hu => h u (by simp [hu])) j hj x]
  constructor
  ·rintro (⟨h1,h2,h3⟩ | ⟨rfl,h2⟩)
   ·refine ⟨h1,by simp;omega,?_⟩
    rw [List.getD_eq_getElem?_getD,List.getElem?_append_left (by omega),← List.getD_eq_getElem?_getD];exact h3
   ·refine ⟨by omega,by simp;omega,?_⟩
    simp [h2]
  ·rintro ⟨h1,h2,h3⟩
   by_cases e : x < l.length
   ·left
    refine ⟨h1,e,?_⟩
    rw [List.getD_eq_getElem?_getD,List.getElem?_append_left (by omega),← List.getD_eq_getElem?_getD] at h3;exact h3
   ·right
    have e2 : x = l.length := by simp at h2;omega
    subst e2
    refine ⟨rfl,?_⟩
    simpa using h3
theorem usersF_le (n b : Nat) (l : List (List Int)) : (∀ vs ∈ l,vs.length ≤ b) → ∀ j : Nat,((usersF n l).getD j []).length ≤ b * l.length := by
 refine rev_ind (p := fun l => (∀ vs ∈ l,vs.length ≤ b) → ∀ j : Nat,((usersF n l).getD j []).length ≤ b * l.length) ?_ ?_ l
 ·intro _ j
  simp [usersF,List.getElem?_replicate]
  split <;> simp
 ·intro l vs ih h j
  rw [usersF_snoc]
  have h1 := addU_le l.length vs (usersF n l) j
  have h2 := ih (fun u hu => h u (by simp [hu])) j
  have h3 := h vs (by simp)
  rw [List.length_append,List.length_singleton,Nat.mul_add]
  omega
theorem set_take_rep (l : List Nat) (n i : Nat) (h : i < l.length) (hn : n = l.length) (D : Nat) (hD : l[i]? = some D) : (l.take i ++ List.replicate (n - i) 0).set i D = l.take (i + 1) ++ List.replicate (n - (i + 1)) 0 := by
 subst hn
 have e : l.length - i = (l.length - (i + 1)) + 1 := by omega
 rw [e,List.replicate_succ,List.set_append_right _ _ (by simp;omega),List.take_add_one,hD]
 simp [List.length_take,Nat.min_eq_left (Nat.le_of_lt h)]
theorem mark_next (m i : Nat) (h : i < m) : (List.replicate i true ++ List.replicate (m - i) false).set i true = List.replicate (i + 1) true ++ List.replicate (m - (i + 1)) false := by
 have e : m - i = (m - (i + 1)) + 1 := by omega
 rw [e,List.replicate_succ,List.set_append_right _ _ (by simp)]
 simp [List.replicate_succ']
def mkK (vars : List QVar) (cons : List QCon) (order : Int) (weak : Bool) (budget : Int) : SK := ⟨vars,cons,cons.map varsP,usersF vars.length (cons.map varsP),order,weak,budget⟩
theorem cvs_get (cons : List QCon) {i : Nat} {c : QCon} (h : cons[i]? = some c) : (cons.map varsP).getD i [] = varsP c := by
 rw [List.getD_eq_getElem?_getD,List.getElem?_map,h];rfl
theorem mkK_ok {vars : List QVar} {cons : List QCon} {order budget : Int} {weak : Bool} (h1 : ∀ v ∈ vars,-1000 ≤ v.low ∧ v.low ≤ v.high ∧ v.high ≤ 1000) (h2 : vars.length ≤ 8) (h3 : ∀ c ∈ cons,ConOk vars.length (TruthAt vars) c) (h4 : cons.length ≤ 16) : KOk (mkK vars cons order weak budget) := by
 have hle : ∀ vs ∈ cons.map varsP,vs.length ≤ 9 := fun vs hvs => by
  obtain ⟨c,hc,rfl⟩ := List.mem_map.1 hvs
  exact Nat.le_trans (varsP_len c) (raw_len (h3 c hc))
 have hin : ∀ vs ∈ cons.map varsP,∀ v : Int,v ∈ vs → 0 ≤ v ∧ v < (vars.length : Int) := fun vs hvs v hv => by
  obtain ⟨c,hc,rfl⟩ := List.mem_map.1 hvs
  have q := raw_ok (h3 c hc) v ((varsP_mem c v).1 hv)
  exact ⟨q.1,q.2⟩
 refine ⟨h1,h2,h3,h4,by simp [mkK],usersF_len _ _,fun i c hc v => ?_,fun v => ?_,fun i => ?_,fun v hv c => ?_⟩
 ·show v ∈ (cons.map varsP).getD i [] ↔ _
  rw [cvs_get cons hc,varsP_mem]
 ·have := usersF_le vars.length 9 (cons.map varsP) hle v
  rw [List.length_map] at this
  show ((usersF vars.length (cons.map varsP)).getD v []).length ≤ 3000
  omega
 ·show ((cons.map varsP).getD i []).length ≤ 3000
  rw [List.getD_eq_getElem?_getD]
  cases e : (cons.map varsP)[i]? with
  | none => simp
  | some vs => have := hle vs (List.mem_of_getElem? e);simp;omega
 ·have := usersF_mem vars.length (cons.map varsP) hin v hv c
  rw [List.length_map] at this
  exact this
def bgBlk (n m : Nat) : Fin 6 → Obj
 | 0 => .cells (madeCells (dL 0).toArray (n * 32)) 161
 | 1 => .cells (madeCells #[.int .i64 0] n) 3
 | 2 => .cells (madeCells #[.bool false] n) 4
 | 3 => .cells (madeCells #[.slice none 0 0] m) 33
 | 4 => .cells (madeCells #[.slice none 0 0] n) 33
 | 5 => .cells (madeCells #[.bool false] m) 4
def bgX (k : Fin 6 → Nat) (b bc B : Nat) (vV vC : Value) (cs : List CRow) (n m : Nat) : SL := ⟨b,k 0,k 1,k 2,k 5,k 3,k 4,bc,B,vV,vC,cs,List.replicate m (.slice none 0 0),List.replicate n (.slice none 0 0)⟩
def bgK (K : SK) (cvs users : List (List Int)) : SK := { K with cvs := cvs,users := users }
def bgS (K : SK) (i j : Nat) : SS := { left := (K.vars.map fun v => rngD v.low v.high).take i ++ List.replicate (K.vars.length - i) 0,trail := [],marked := List.replicate j true ++ List.replicate (K.cons.length - j) false,nodes := 0,sols := [],ending := 0 }
theorem bgS_end (K : SK) : bgS K K.vars.length K.cons.length = beginS K := by
 unfold bgS beginS
 congr 1
 ·rw [List.take_of_length_le (by simp),Nat.sub_self];simp
 ·rw [Nat.sub_self,List.map_const']
  simp
theorem made_one (z : Value) (n : Nat) : madeCells #[z] n = (List.replicate n z).toArray := by
 apply Array.ext_getElem?
 intro i
 simp only [madeCells,List.getElem?_toArray,List.getElem?_replicate]
 by_cases h : i < n
 ·simp [h,Nat.mod_one]
 ·simp [h]
theorem oneV_zero : oneV 0 = 0 := by decide
theorem oneB_zero : oneB 0 = false := by decide
theorem rep_nil (n i : Nat) : (List.replicate n ([] : List Int)).getD i [] = [] := by
 rw [List.getD_eq_getElem?_getD,List.getElem?_replicate]
 split <;> rfl
theorem rep_at {n i : Nat} {z v : Value} (h : (List.replicate n z)[i]? = some v) : v = z := by
 rw [List.getElem?_replicate] at h
 split at h
 ·cases h;rfl
 ·cases h
theorem sat_begun {k : Fin 6 → Nat} {W : World} {bc B : Nat} {vV vC : Value} {cs : List CRow} (hM : MadeAt w W (bgBlk K.vars.length K.cons.length) (fun j => some (k j))) (hset : SetIn w bc B vV vC K.vars cs) (hcs : cs.map (·.c) = K.cons) (hdb : DbTab w) {X : SL} (hX : X = bgX k W.heap.size bc B vV vC cs K.vars.length K.cons.length) : SAt w (W.alloc (.cells (recCells X K (bgS K 0 0) (.slice none 0 0) (.slice none 0 0)) 106)) X (bgK K [] (List.replicate K.vars.length [])) (bgS K 0 0) (.slice none 0 0) (.slice none 0 0) := by
 subst hX
 have lt : ∀ j,k j < W.heap.size := fun j => some_lt (hM.at_ j _ rfl).2
 have lo : ∀ j,w.heap.size ≤ k j := fun j => (hM.at_ j _ rfl).1
 have ne : ∀ i j,i ≠ j → k i ≠ k j := fun i j h e => h (hM.inj i j (k i) rfl (congrArg some e.symm))
 have at_ : ∀ (o : Obj) j,(W.alloc o).heap[k j]? = some (bgBlk K.vars.length K.cons.length j) := fun o j => (heap_alloc_old _ _ (lt j)).trans (hM.at_ j _ rfl).2
 refine ⟨hM.g.trans (World.grownBy_alloc _ _ _),?_,?_,heap_alloc_new _ _,?_,?_,?_,?_,World.ownsRow_nil _ _ _ _,(fun g e => by cases e),⟨[],World.ownsRow_nil _ _ _ _,fun i v h => by cases h⟩,(fun g e => by cases e),?_,?_,?_,?_,?_,?_,?_,hset,hcs,hdb⟩
 ·intro b hb
  simp only [SL.own,bgX,List.mem_cons,List.not_mem_nil,or_false] at hb
  rcases hb with rfl | rfl | rfl | rfl | rfl
  ·exact hM.g.size
  all_goals exact lo _
 ·have n0 : ∀ j,W.heap.size ≠ k j := fun j e => by have := lt j;omega
  simp only [SL.own,bgX,List.nodup_cons,List.mem_cons,List.not_mem_nil,or_false,not_or,List.nodup_nil,and_true,not_false_eq_true]
  refine ⟨⟨n0 0,n0 1,n0 2,n0 5⟩,⟨ne 0 1 (by decide),ne 0 2 (by decide),ne 0 5 (by decide)⟩,⟨ne 1 2 (by decide),ne 1 5 (by decide)⟩,ne 2 5 (by decide)⟩
 ·refine ⟨_,at_ _ 0,size_madeCells _ _,by simp [bgS,bgK],fun i D hD j v hv => ?_⟩
  have hi : i < K.vars.length ∧ D = 0 := by
   simp only [bgS,List.take_zero,List.nil_append,Nat.sub_zero,List.getElem?_replicate] at hD
   split at hD
   ·rename_i h
    exact ⟨h,by cases hD;rfl⟩
   ·cases hD
  obtain ⟨hi,rfl⟩ := hi
  have hj : j < 32 := by have := (List.getElem?_eq_some_iff.1 hv).1;rw [dL_len] at this;exact this
  have hlt : i * 32 + j < K.vars.length * 32 := by omega
  have hs : (dL 0).toArray.size = 32 := by simp [dL_len]
  have hm : (i * 32 + j) % 32 = j := by omega
  have hjl : j < (dL 0).length := by rw [dL_len];exact hj
  unfold madeCells
  rw [Array.getElem?_map,Array.getElem?_range,if_pos hlt,Option.map_some,hs,hm]
  rw [List.getElem?_eq_getElem hjl] at hv
  rw [← hv]
  simp [hjl]
 ·refine (at_ _ 1).trans ?_
  simp [bgBlk,bgS,made_one,List.map_replicate,oneV_zero]
 ·refine (at_ _ 2).trans ?_
  simp [bgBlk,bgS,made_one,List.map_replicate,oneB_zero]
 ·refine (at_ _ 5).trans ?_
  simp [bgBlk,bgS,made_one,List.map_replicate]
 ·refine (at_ _ 3).trans ?_
  simp [bgBlk,made_one,bgX]
 ·simp [bgX,bgK]
 ·intro i v hv
  have : v = .slice none 0 0 := rep_at hv
  exact .inl ⟨by simp [bgK],none,0,this⟩
 ·refine (at_ _ 4).trans ?_
  simp [bgBlk,made_one,bgX]
 ·simp [bgX,bgK]
 ·intro i v hv
  have : v = .slice none 0 0 := rep_at hv
  exact .inl ⟨rep_nil _ _,none,0,this⟩
 ·have n0 : ∀ j,k j ≠ W.heap.size := fun j e => by have := lt j;omega
  simp only [SL.own,bgX,List.mem_cons,List.not_mem_nil,or_false,not_or]
  exact ⟨⟨n0 3,ne 3 0 (by decide),ne 3 1 (by decide),ne 3 2 (by decide),ne 3 5 (by decide)⟩,⟨n0 4,ne 4 0 (by decide),ne 4 1 (by decide),ne 4 2 (by decide),ne 4 5 (by decide)⟩⟩
theorem SAt.rows (h : SAt w0 w X K s vT vS) (hg : w0.grownBy w' none) (hk : ∀ k o,w.heap[k]? = some o → k ∈ X.own → w'.heap[k]? = some o) {cv us : List Value} {cvs users : List (List Int)} (c1 : w'.heap[X.gc]? = some (.cells cv.toArray 33 (0,0))) (c2 : cv.length = K.cons.length) (c3 : ∀ i v,cv[i]? = some v → IRow X w' v (cvs.getD i [])) (u1 : w'.heap[X.gu]? = some (.cells us.toArray 33 (0,0))) (u2 : us.length = K.vars.length) (u3 : ∀ i v,us[i]? = some v → IRow X w' v (users.getD i [])) (ht : s.trail = []) (hs : s.sols = []) (e1 : vT = .slice none 0 0) (e2 : vS = .slice none 0 0) : SAt w0 w' { X with cv := cv,us := us } (bgK K cvs users) s vT vS := by
 subst e1 e2
 refine ⟨hg,h.low,h.nd,hk _ _ h.rcd own_b,h.left.kept (fun o ho => hk _ _ ho own_gl),hk _ _ h.vals own_gv,hk _ _ h.fixd own_gf,hk _ _ h.mark own_gm,by rw [ht];exact World.ownsRow_nil _ _ _ _,(fun g e => by cases e),by rw [hs];exact ⟨[],World.ownsRow_nil _ _ _ _,fun i v h => by cases h⟩,(fun g e => by cases e),c1,c2,c3,u1,u2,u3,h.cap,h.set0,h.csK,h.db0⟩
structure BgI (w0 w : World) (X : SL) (K : SK) (s : SS) : Prop where
 sat : SAt w0 w X K s (.slice none 0 0) (.slice none 0 0)
 tr : s.trail = []
 so : s.sols = []
 gcu : X.gc ≠ X.gu
 lo : w0.heap.size ≤ X.gc ∧ w0.heap.size ≤ X.gu
 own : ∀ (i : Nat) (v : Value),X.us[i]? = some v → w.ownsRow w0.heap.size 3 1 v (K.users.getD i []).length ((K.users.getD i []).map (Value.int .i64))
 ap : ∀ (i : Nat) (v : Value) (g : Nat),X.us[i]? = some v → v.ownBlock = some g → g ∉ X.own ∧ ∀ u ∈ X.cv,u.ownBlock ≠ some g
 inj : ∀ (i j : Nat) (v u : Value) (g : Nat),X.us[i]? = some v → X.us[j]? = some u → v.ownBlock = some g → u.ownBlock = some g → i = j
 cvo : ∀ u ∈ X.cv,∀ g,u.ownBlock = some g → g < w.heap.size
theorem own_turnI {B n : Nat} {v : Value} {xs : List Value} (h : w.ownsRow B 3 1 v n xs) (hk : ∀ g cur,v.ownBlock = some g → w.heap[g]? = some (.cells cur 3 (0,0)) → w'.heap[g]? = some (.cells cur 3 (0,0))) : w'.ownsRow B 3 1 v n xs := by
 refine ⟨h.1,?_⟩
 rcases h.2 with q | ⟨g,cap,cur,q1,q2,q3,q4⟩
 ·exact .inl q
 ·exact .inr ⟨g,cap,cur,q1,q2,hk g cur (by rw [q1];rfl) q3,q4⟩
theorem own_blkI {B n b : Nat} {e s : Nat} {v : Value} {xs : List Value} (h : w.ownsRow B e s v n xs) (hb : v.ownBlock = some b) : ∃ cur,w.heap[b]? = some (.cells cur e (0,0)) := by
 rcases h.2 with ⟨q,_⟩ | ⟨g,cap,cur,q1,_,q3,_⟩
 ·rw [q] at hb;cases hb
 ·rw [q1] at hb
  have : g = b := by injection hb
  subst this
  exact ⟨cur,q3⟩
theorem BgI.frs {s' : SS} (h : BgI w0 w X K s) (hs : SAt w0 w' X K s' (.slice none 0 0) (.slice none 0 0)) (hf : FrS X w w') (h1 : s'.trail = []) (h2 : s'.sols = []) : BgI w0 w' X K s' :=
 ⟨hs,h1,h2,h.gcu,h.lo,fun i v hv => own_turnI (h.own i v hv) (fun g cur e q => hf.block g _ q (h.ap i v g hv e).1 (fun c f e => by cases e) (fun c f e => by cases e)),h.ap,h.inj,fun u hu g e => Nat.lt_of_lt_of_le (h.cvo u hu g e) hf.size⟩
theorem BgI.grown (h : BgI w0 w X K s) (hg : w.grownBy w' none) : BgI w0 w' X K s := h.frs (h.sat.grown hg) (FrS.grown hg) h.tr h.so
theorem own_irow' {B n : Nat} {v : Value} {l : List Int} (h : w.ownsRow B 3 1 v n (l.map (Value.int .i64))) (hn : n = l.length) (hX : ∀ g,v.ownBlock = some g → g ∉ X.own) : IRow X w v l := by
 subst hn
 rcases h.2 with ⟨q1,q2⟩ | ⟨g,cap,cur,q1,q2,q3,q4,q5,q6,q7⟩
 ·subst q1
  exact .inl ⟨List.length_eq_zero_iff.1 q2,none,0,rfl⟩
 ·refine .inr ⟨g,cap,cur,q1,q3,fun j x hx => ?_,hX g (by rw [q1];rfl),q4⟩
  have hj : j < l.length := (List.getElem?_eq_some_iff.1 hx).1
  have e : (cur.toList.take (l.length * 1))[j]? = some (Value.int .i64 x) := by rw [q7,List.getElem?_map,hx];rfl
  rw [List.getElem?_take,if_pos (by omega)] at e
  simpa using e
theorem IRow.at_ {v : Value} {l : List Int} (h : IRow X w v l) (hk : ∀ g cells,v.ownBlock = some g → w.heap[g]? = some (.cells cells 3 (0,0)) → w'.heap[g]? = some (.cells cells 3 (0,0))) : IRow X w' v l := by
 rcases h with h | ⟨g,cap,cells,h1,h2,h3,h4,h5⟩
 ·exact .inl h
 ·exact .inr ⟨g,cap,cells,h1,hk g cells (by rw [h1];rfl) h2,h3,h4,h5⟩
theorem int_row {k g : Nat} {c c' : Array Value} (h1 : w.heap[k]? = some (.cells c 3 (0,0))) (h2 : w.heap[g]? = some (.cells c' 33 (0,0))) : k ≠ g := fun e => by
 subst e
 rw [h2] at h1
 injection h1 with h1
 injection h1 with _ h1
 exact absurd h1 (by decide)
theorem BgI.vars (h : BgI w0 w X K s) {c : Nat} (hc : K.cvs.length = c) (hl : c < K.cons.length) {l : List Int} {g cap : Nat} (hg : w.grownBy w' none) (ho : w'.ownsRow w.heap.size 3 1 (.slice (some ⟨g,0,none⟩) l.length cap) l.length (l.map (Value.int .i64))) : BgI w0 (w'.setCell ⟨X.gc,c,none⟩ (.slice (some ⟨g,0,none⟩) l.length cap)) { X with cv := X.cv.set c (.slice (some ⟨g,0,none⟩) l.length cap) } (bgK K (K.cvs ++ [l]) K.users) s := by
 obtain ⟨u,hu⟩ : ∃ u : Value,u = .slice (some ⟨g,0,none⟩) l.length cap := ⟨_,rfl⟩
 have hub : u.ownBlock = some g := by rw [hu];rfl
 rw [← hu] at ho ⊢
 have gs := grown_set w' X.gc c u
 have hgb : w.heap.size ≤ g := (ho.lt g hub).1
 obtain ⟨cur,hcur⟩ := own_blkI ho hub
 have hs := h.sat
 have hgX : g ∉ X.own := hs.new_own hgb
 have old : ∀ {k : Nat} {o : Obj},w.heap[k]? = some o → w'.heap[k]? = some o := fun {k o} hk => (hg.block k (some_lt hk) (by simp)).trans hk
 have last : ∀ {k : Nat} {o : Obj},w'.heap[k]? = some o → k ≠ X.gc → (w'.setCell ⟨X.gc,c,none⟩ u).heap[k]? = some o := fun {k o} hk hne => (gs.block k (some_lt hk) (fun e => hne (by cases e;rfl))).trans hk
 have ints : ∀ (k : Nat) (cells : Array Value),w'.heap[k]? = some (.cells cells 3 (0,0)) → (w'.setCell ⟨X.gc,c,none⟩ u).heap[k]? = some (.cells cells 3 (0,0)) := fun k cells hk => last hk (int_row hk (old hs.cvb))
 have ou : (w'.setCell ⟨X.gc,c,none⟩ u).ownsRow w.heap.size 3 1 u l.length (l.map (Value.int .i64)) := own_turnI ho (fun k cur _ q => ints k cur q)
 refine ⟨hs.rows (grown_new (hs.g0.trans hg) h.lo.1 gs) (fun k o hk hm => last (old hk) (fun e => hs.cap.1 (by rw [← e];exact hm))) (set_at (old hs.cvb) c u (by simp)) (by rw [List.length_set];exact hs.cvl) (fun i v hv => ?_) (last (old hs.usb) h.gcu.symm) hs.usl (fun i v hv => (hs.usr i v hv).at_ (fun k cells _ q => ints k cells (old q))) h.tr h.so rfl rfl,h.tr,h.so,h.gcu,h.lo,fun i v hv => own_turnI (h.own i v hv) (fun k cur _ q => ints k cur (old q)),fun i v k hv hk => ⟨(h.ap i v k hv hk).1,fun x hx => ?_⟩,h.inj,fun x hx k hk => ?_⟩
 ·by_cases e : i = c
  ·subst e
   have : v = u := by
    rw [List.getElem?_set_self (by have := hs.cvl;omega)] at hv
    cases hv;rfl
   subst this
   have e2 : (K.cvs ++ [l]).getD i [] = l := by simp [List.getD_eq_getElem?_getD,← hc]
   rw [e2]
   exact own_irow' ou rfl (fun k hk => by rw [hub] at hk;cases hk;exact hgX)
  ·rw [List.getElem?_set_ne (fun q => e q.symm)] at hv
   have e2 : (K.cvs ++ [l]).getD i [] = K.cvs.getD i [] := by
    rw [List.getD_eq_getElem?_getD,List.getD_eq_getElem?_getD]
    rcases Nat.lt_or_ge i K.cvs.length with q | q
    ·rw [List.getElem?_append_left q]
    ·rw [List.getElem?_append_right q,List.getElem?_eq_none (by simp;omega),List.getElem?_eq_none q]
   rw [e2]
   exact (hs.cvr i v hv).at_ (fun k cells _ q => ints k cells (old q))
 ·rcases List.mem_or_eq_of_mem_set hx with q | q
  ·exact (h.ap i v k hv hk).2 x q
  ·subst q
   rw [hub]
   intro e
   cases e
   obtain ⟨c2,hc2⟩ := own_blkI (h.own i v hv) hk
   have := some_lt hc2
   omega
 ·have hle := Nat.le_trans hg.size gs.size
  rcases List.mem_or_eq_of_mem_set hx with q | q
  ·exact Nat.lt_of_lt_of_le (h.cvo x q k hk) hle
  ·subst q
   rw [hub] at hk
   cases hk
   exact some_lt (ints _ _ hcur)
theorem BgI.user (h : BgI w0 w X K s) {i : Nat} {v : Value} (hv : X.us[i]? = some v) (hi : i < K.users.length) {c : Int} {g cap : Nat} (hg : w.grownBy w' v.ownBlock) (hat : v.ownBlock = some g ∨ g = w.heap.size) (ho : w'.ownsRow w0.heap.size 3 1 (.slice (some ⟨g,0,none⟩) ((K.users.getD i []).length + 1) cap) ((K.users.getD i []).length + 1) ((K.users.getD i []).map (Value.int .i64) ++ [.int .i64 c])) : BgI w0 (w'.setCell ⟨X.gu,i,none⟩ (.slice (some ⟨g,0,none⟩) ((K.users.getD i []).length + 1) cap)) { X with us := X.us.set i (.slice (some ⟨g,0,none⟩) ((K.users.getD i []).length + 1) cap) } (bgK K K.cvs (K.users.set i (K.users.getD i [] ++ [c]))) s := by
 obtain ⟨u,hu⟩ : ∃ u : Value,u = .slice (some ⟨g,0,none⟩) ((K.users.getD i []).length + 1) cap := ⟨_,rfl⟩
 have hub : u.ownBlock = some g := by rw [hu];rfl
 rw [← hu] at ho ⊢
 have ho2 : w'.ownsRow w0.heap.size 3 1 u (K.users.getD i [] ++ [c]).length ((K.users.getD i [] ++ [c]).map (Value.int .i64)) := by
  rw [List.length_append,List.map_append];exact ho
 have hs := h.sat
 have gs := grown_set w' X.gu i u
 have hvo := h.own i v hv
 have sub : ∀ {k : Nat},v.ownBlock = some k → k < w.heap.size := fun {k} e => by obtain ⟨c2,hc2⟩ := own_blkI hvo e;exact some_lt hc2
 have old : ∀ {k : Nat} {o : Obj},w.heap[k]? = some o → v.ownBlock ≠ some k → w'.heap[k]? = some o := fun {k o} hk hne => (hg.block k (some_lt hk) (fun e => hne e.symm)).trans hk
 have vno : ∀ {k : Nat} {c2 : Array Value},w.heap[k]? = some (.cells c2 33 (0,0)) → v.ownBlock ≠ some k := fun {k c2} hk e => by
  obtain ⟨c3,hc3⟩ := own_blkI hvo e
  exact int_row hc3 hk rfl
 have gu' := old hs.usb (vno hs.usb)
 have gc' := old hs.cvb (vno hs.cvb)
 have last : ∀ {k : Nat} {o : Obj},w'.heap[k]? = some o → k ≠ X.gu → (w'.setCell ⟨X.gu,i,none⟩ u).heap[k]? = some o := fun {k o} hk hne => (gs.block k (some_lt hk) (fun e => hne (by cases e;rfl))).trans hk
 have ints : ∀ (k : Nat) (cells : Array Value),w'.heap[k]? = some (.cells cells 3 (0,0)) → (w'.setCell ⟨X.gu,i,none⟩ u).heap[k]? = some (.cells cells 3 (0,0)) := fun k cells hk => last hk (int_row hk gu')
 have ou : (w'.setCell ⟨X.gu,i,none⟩ u).ownsRow w0.heap.size 3 1 u (K.users.getD i [] ++ [c]).length ((K.users.getD i [] ++ [c]).map (Value.int .i64)) := own_turnI ho2 (fun k cur _ q => ints k cur q)
 have hgX : g ∉ X.own := by
  rcases hat with e | e
  ·exact (h.ap i v g hv e).1
  ·exact hs.new_own (Nat.le_of_eq e.symm)
 have hil : i < X.us.length := (List.getElem?_eq_some_iff.1 hv).1
 have split : ∀ {j : Nat} {x : Value},(X.us.set i u)[j]? = some x → (j = i ∧ x = u) ∨ (j ≠ i ∧ X.us[j]? = some x) := fun {j x} q => by
  by_cases e : j = i
  ·subst e
   rw [List.getElem?_set_self hil] at q
   cases q
   exact .inl ⟨rfl,rfl⟩
  ·rw [List.getElem?_set_ne (fun q => e q.symm)] at q
   exact .inr ⟨e,q⟩
 have far : ∀ {j : Nat} {x : Value} {k : Nat},j ≠ i → X.us[j]? = some x → x.ownBlock = some k → v.ownBlock ≠ some k := fun {j x k} hj hx hk e => hj (h.inj j i x v k hx hv hk e)
 have getu : ∀ j,(K.users.set i (K.users.getD i [] ++ [c])).getD j [] = if j = i then K.users.getD i [] ++ [c] else K.users.getD j [] := fun j => set_getD _ _ _ _ hi
 refine ⟨hs.rows (grown_new (grown_own hs.g0 hvo (Nat.le_refl _) hg) h.lo.2 gs) (fun k o hk hm => last (old hk (fun e => (h.ap i v k hv e).1 hm)) (fun e => hs.cap.2 (by rw [← e];exact hm))) (last gc' h.gcu) hs.cvl (fun j x hx => ?_) (set_at gu' i u (by simp)) (by rw [List.length_set];exact hs.usl) (fun j x hx => ?_) h.tr h.so rfl rfl,h.tr,h.so,h.gcu,h.lo,fun j x hx => ?_,fun j x k hx hk => ?_,fun j j' x x' k hx hx' hk hk' => ?_,fun x hx k hk => Nat.lt_of_lt_of_le (h.cvo x hx k hk) (Nat.le_trans hg.size gs.size)⟩
 ·exact (hs.cvr j x hx).at_ (fun k cells e q => ints k cells (old q (fun e2 => (h.ap i v k hv e2).2 x (List.mem_of_getElem? hx) e)))
 ·rw [getu]
  rcases split hx with ⟨rfl,rfl⟩ | ⟨hj,hx⟩
  ·rw [if_pos rfl]
   exact own_irow' ou rfl (fun k hk => by rw [hub] at hk;cases hk;exact hgX)
  ·rw [if_neg hj]
   exact (hs.usr j x hx).at_ (fun k cells e q => ints k cells (old q (far hj hx e)))
 ·show World.ownsRow _ _ _ _ _ ((K.users.set i (K.users.getD i [] ++ [c])).getD j []).length (((K.users.set i (K.users.getD i [] ++ [c])).getD j []).map (Value.int .i64))
  rw [getu]
  rcases split hx with ⟨rfl,rfl⟩ | ⟨hj,hx⟩
  ·rw [if_pos rfl]
   exact ou
  ·rw [if_neg hj]
   exact own_turnI (h.own j x hx) (fun k cur e q => ints k cur (old q (far hj hx e)))
 ·rcases split hx with ⟨rfl,rfl⟩ | ⟨hj,hx⟩
  ·rw [hub] at hk
   cases hk
   refine ⟨hgX,fun y hy e => ?_⟩
   rcases hat with q | q
   ·exact (h.ap j v g hv q).2 y hy e
   ·have := h.cvo y hy g e
    omega
  ·exact h.ap j x k hx hk
 ·have blt : ∀ {j : Nat} {x : Value} {k : Nat},X.us[j]? = some x → x.ownBlock = some k → k < w.heap.size := fun {j x k} q1 q2 => by obtain ⟨c2,hc2⟩ := own_blkI (h.own j x q1) q2;exact some_lt hc2
  rcases split hx with ⟨rfl,rfl⟩ | ⟨hj,hx2⟩
  ·rcases split hx' with ⟨rfl,_⟩ | ⟨hj',hx3⟩
   ·rfl
   ·rw [hub] at hk
    cases hk
    rcases hat with q | q
    ·exact absurd q (far hj' hx3 hk')
    ·have := blt hx3 hk'
     omega
  ·rcases split hx' with ⟨rfl,rfl⟩ | ⟨hj',hx3⟩
   ·rw [hub] at hk'
    cases hk'
    rcases hat with q | q
    ·exact absurd q (far hj hx2 hk)
    ·have := blt hx2 hk
     omega
   ·exact h.inj j j' x x' k hx2 hx3 hk hk'
theorem bgi_begun {k : Fin 6 → Nat} {W : World} {bc B : Nat} {vV vC : Value} {cs : List CRow} (hM : MadeAt w W (bgBlk K.vars.length K.cons.length) (fun j => some (k j))) (hset : SetIn w bc B vV vC K.vars cs) (hcs : cs.map (·.c) = K.cons) (hdb : DbTab w) {X : SL} (hX : X = bgX k W.heap.size bc B vV vC cs K.vars.length K.cons.length) : BgI w (W.alloc (.cells (recCells X K (bgS K 0 0) (.slice none 0 0) (.slice none 0 0)) 106)) X (bgK K [] (List.replicate K.vars.length [])) (bgS K 0 0) := by
 have q := sat_begun hM hset hcs hdb hX
 subst hX
 have lo : ∀ j,w.heap.size ≤ k j := fun j => (hM.at_ j _ rfl).1
 have ne : ∀ i j,i ≠ j → k i ≠ k j := fun i j h e => h (hM.inj i j (k i) rfl (congrArg some e.symm))
 have no : ∀ {i : Nat} {v : Value} {g : Nat},(List.replicate K.vars.length (Value.slice none 0 0))[i]? = some v → v.ownBlock ≠ some g := fun {i v g} h e => by rw [rep_at h] at e;cases e
 refine ⟨q,rfl,rfl,ne 3 4 (by decide),⟨lo 3,lo 4⟩,fun i v hv => ?_,fun i v g hv e => absurd e (no hv),fun i j v u g hv _ e _ => absurd e (no hv),fun u hu g e => ?_⟩
 ·show World.ownsRow _ _ _ _ _ ((List.replicate K.vars.length ([] : List Int)).getD i []).length (((List.replicate K.vars.length ([] : List Int)).getD i []).map _)
  rw [rep_nil,rep_at hv]
  exact World.ownsRow_nil _ _ _ _
 ·have : u = .slice none 0 0 := List.eq_of_mem_replicate hu
  rw [this] at e
  cases e
def SL.wi (X : SL) (cv us : List Value) : SL := { X with cv := cv,us := us }
def cvK (K : SK) : List (List Int) := K.cons.map varsP
theorem cvK_get {c : Nat} {q : QCon} (h : K.cons[c]? = some q) : (cvK K)[c]? = some (varsP q) := by unfold cvK;rw [List.getElem?_map,h];rfl
theorem cvK_len : (cvK K).length = K.cons.length := by simp [cvK]
def BgR (w0 : World) (X : SL) (K : SK) (c : Nat) (wr : World) : Prop := ∃ cv us,BgI w0 wr (X.wi cv us) (bgK K ((cvK K).take c) (usersF K.vars.length ((cvK K).take c))) (bgS K K.vars.length c)
def BgM (w0 : World) (X : SL) (K : SK) (c : Nat) (wr : World) : Prop := ∃ cv us,BgI w0 wr (X.wi cv us) (bgK K ((cvK K).take c) (usersF K.vars.length ((cvK K).take c))) (bgS K K.vars.length (c + 1))
def BgU (w0 : World) (X : SL) (K : SK) (c j : Nat) (l : List Int) (vl : Value) (wr : World) : Prop := ∃ cv us,cv[c]? = some vl ∧ BgI w0 wr (X.wi cv us) (bgK K ((cvK K).take (c + 1)) (addU (usersF K.vars.length ((cvK K).take c)) c (l.take j))) (bgS K K.vars.length (c + 1))
theorem bg_mark {c : Nat} (h : BgR w0 X K c w) (hc : c < K.cons.length) : w.cell? ⟨X.b,10,none⟩ = some (.slice (some ⟨X.gm,0,none⟩) K.cons.length K.cons.length) ∧ (∃ u,w.cell? ⟨X.gm,c,none⟩ = some u) ∧ w.frozen? ⟨X.gm,c,none⟩ = false ∧ X.gm < w.heap.size ∧ X.b < w.heap.size ∧ BgM w0 X K c (w.setCell ⟨X.gm,c,none⟩ (.bool true)) := by
 obtain ⟨cv,us,h⟩ := h
 have hs := h.sat
 obtain ⟨m1,m2⟩ := hs.mark1 c true
 have hm : (bgS K K.vars.length c).marked[c]? = some false := by
  simp only [bgS]
  rw [List.getElem?_append_right (by simp),List.getElem?_replicate,if_pos (by simp;omega)]
 obtain ⟨k1,k2⟩ := hs.markAt hm
 have hl := hs.lt
 refine ⟨hs.f10,⟨_,k1⟩,k2,hl.2.2.2.2,hl.1,cv,us,h.frs ?_ m2 rfl rfl⟩
 have e : ({ bgS K K.vars.length c with marked := (bgS K K.vars.length c).marked.set c true } : SS) = bgS K K.vars.length (c + 1) := by
  unfold bgS
  simp only
  rw [mark_next _ _ hc]
 rw [← e]
 exact m1
theorem bg_con {c : Nat} (h : BgM w0 X K c w) {q : QCon} (hq : K.cons[c]? = some q) : w.cell? ⟨X.b,8,none⟩ = some (.slice (some ⟨X.gc,0,none⟩) K.cons.length K.cons.length) ∧ X.gc < w.heap.size ∧ (∃ u,w.cell? ⟨X.gc,c,none⟩ = some u) ∧ w.frozen? ⟨X.gc,c,none⟩ = false ∧ (∃ (x : CRow) (g cap : Nat),x.c = q ∧ X.vC = .slice (some ⟨g,0,none⟩) K.cons.length cap ∧ ConIn w g (c * 10) X.B x ∧ w.cell? ⟨X.bc,2,none⟩ = some X.vC ∧ X.bc < w.heap.size) := by
 obtain ⟨cv,us,h⟩ := h
 have hs := h.sat
 obtain ⟨x,g,cap,e1,e2,e3,e4⟩ := hs.con (i := c) (c := q) hq
 have hc : c < cv.length := by have := hs.cvl;have q1 : cv.length = K.cons.length := this;rw [q1];exact (List.getElem?_eq_some_iff.1 hq).1
 have k : w.cell? ⟨X.gc,c,none⟩ = some cv[c] := cell_of hs.cvb c _ (by show cv.toArray[c]? = _;simp [hc])
 exact ⟨hs.f8,some_lt hs.cvb,⟨_,k⟩,frozen_of hs.cvb c,x,g,cap,e1,e2,e3,hs.set.c2,hs.set.lt⟩
theorem bg_vars {c : Nat} (h : BgM w0 X K c w) {q : QCon} (hq : K.cons[c]? = some q) {g cap : Nat} (hg : w.grownBy w' none) (ho : w'.ownsRow w.heap.size 3 1 (.slice (some ⟨g,0,none⟩) (varsP q).length cap) (varsP q).length ((varsP q).map (Value.int .i64))) : BgU w0 X K c 0 (varsP q) (.slice (some ⟨g,0,none⟩) (varsP q).length cap) (w'.setCell ⟨X.gc,c,none⟩ (.slice (some ⟨g,0,none⟩) (varsP q).length cap)) := by
 obtain ⟨cv,us,h⟩ := h
 have hc : c < K.cons.length := (List.getElem?_eq_some_iff.1 hq).1
 have hl : ((cvK K).take c).length = c := by rw [List.length_take,cvK_len];omega
 have r := h.vars (c := c) hl hc hg ho
 have hcl : c < cv.length := by have q1 : cv.length = K.cons.length := h.sat.cvl;omega
 refine ⟨cv.set c (.slice (some ⟨g,0,none⟩) (varsP q).length cap),us,by rw [List.getElem?_set_self hcl],?_⟩
 have e : (cvK K).take (c + 1) = (cvK K).take c ++ [varsP q] := by rw [List.take_add_one,cvK_get hq];rfl
 rw [e]
 exact r
theorem bg_row {c j : Nat} {l : List Int} {vl : Value} (h : BgU w0 X K c j l vl w) {q : QCon} (hq : K.cons[c]? = some q) (hl : l = varsP q) : w.cell? ⟨X.b,8,none⟩ = some (.slice (some ⟨X.gc,0,none⟩) K.cons.length K.cons.length) ∧ X.gc < w.heap.size ∧ X.b < w.heap.size ∧ w.cell? ⟨X.gc,c,none⟩ = some vl ∧ ∀ g cap,vl = .slice (some ⟨g,0,none⟩) l.length cap → l ≠ [] → g < w.heap.size ∧ ∀ (j : Nat) (y : Int),l[j]? = some y → w.cell? ⟨g,j,none⟩ = some (.int .i64 y) := by
 obtain ⟨cv,us,hv,h⟩ := h
 have hs := h.sat
 have e : ((cvK K).take (c + 1)).getD c [] = l := by
  rw [List.getD_eq_getElem?_getD,List.getElem?_take,if_pos (by omega),cvK_get hq,hl];rfl
 refine ⟨hs.f8,some_lt hs.cvb,hs.lt.1,cell_of hs.cvb c _ (by show cv.toArray[c]? = _;simpa using hv),fun g cap e1 hne => ?_⟩
 have r := hs.cvr c vl hv
 have r : IRow (X.wi cv us) w vl (((cvK K).take (c + 1)).getD c []) := r
 rw [e] at r
 rcases r with ⟨r,_⟩ | ⟨g',cap',cells,r1,r2,r3,r4,r5⟩
 ·exact absurd r hne
 ·rw [e1] at r1
  injection r1 with r1 _ _
  injection r1 with r1
  injection r1 with r1
  subst r1
  exact ⟨some_lt r2,fun j y hy => cell_of r2 j _ (r3 j y hy)⟩
theorem bg_user {c j : Nat} {l : List Int} {vl : Value} (h : BgU w0 X K c j l vl w) {y : Int} (hy : l[j]? = some y) (hp : PlOk K.vars.length y) (hb : ∀ vs ∈ cvK K,vs.length ≤ 9) (hll : l.length ≤ 9) (hcl : c ≤ 16) : w.cell? ⟨X.b,9,none⟩ = some (.slice (some ⟨X.gu,0,none⟩) K.vars.length K.vars.length) ∧ X.gu < w.heap.size ∧ ∃ (a : Option Addr) (n cc : Nat) (xs : List Value),n ≤ 100000 ∧ w.cell? ⟨X.gu,y.toNat,none⟩ = some (.slice a n cc) ∧ w.ownsRow w0.heap.size 3 1 (.slice a n cc) n xs ∧ w0.heap.size ≤ w.heap.size ∧
   ∀ (wA wB : World) (g cap : Nat),w.grownBy wA none → wA.grownBy wB (Value.slice a n cc).ownBlock → ((Value.slice a n cc).ownBlock = some g ∨ g = wA.heap.size) → wB.ownsRow w0.heap.size 3 1 (.slice (some ⟨g,0,none⟩) (n + 1) cap) (n + 1) (xs ++ [.int .i64 c]) →
    wB.cell? ⟨X.gu,y.toNat,none⟩ = some (.slice a n cc) ∧ wB.frozen? ⟨X.gu,y.toNat,none⟩ = false ∧ X.gu < wB.heap.size ∧ wB.cell? ⟨X.b,9,none⟩ = some (.slice (some ⟨X.gu,0,none⟩) K.vars.length K.vars.length) ∧ X.b < wB.heap.size ∧ BgU w0 X K c (j + 1) l vl (wB.setCell ⟨X.gu,y.toNat,none⟩ (.slice (some ⟨g,0,none⟩) (n + 1) cap)) := by
 obtain ⟨cv,us,hv,h⟩ := h
 have hs := h.sat
 have hyl : y.toNat < K.vars.length := by have := hp.1;have := hp.2;omega
 have hul : us.length = K.vars.length := hs.usl
 obtain ⟨u,hu⟩ : ∃ u,us[y.toNat]? = some u := ⟨us[y.toNat]'(by omega),List.getElem?_eq_getElem (by omega)⟩
 have hlen : (addU (usersF K.vars.length ((cvK K).take c)) c (l.take j)).length = K.vars.length := by rw [addU_len,usersF_len]
 have ho := h.own y.toNat u hu
 have hbd : ((addU (usersF K.vars.length ((cvK K).take c)) c (l.take j)).getD y.toNat []).length ≤ 100000 := by
  have q1 := addU_le c (l.take j) (usersF K.vars.length ((cvK K).take c)) y.toNat
  have q2 := usersF_le K.vars.length 9 ((cvK K).take c) (fun vs hvs => hb vs (List.mem_of_mem_take hvs)) y.toNat
  have q3 : (l.take j).length ≤ 9 := by rw [List.length_take];omega
  have q4 : ((cvK K).take c).length ≤ 16 := by rw [List.length_take];omega
  omega
 obtain ⟨a,cc,rfl⟩ := own_slice_n ho
 have kc : w.cell? ⟨X.gu,y.toNat,none⟩ = some _ := cell_of hs.usb y.toNat _ (by show us.toArray[y.toNat]? = _;simpa using hu)
 refine ⟨hs.f9,some_lt hs.usb,a,_,cc,_,hbd,kc,ho,hs.g0.size,fun wA wB g cap hgA hgB hat hown => ?_⟩
 have hA := h.grown hgA
 have hne : ∀ k,(Value.slice a ((addU (usersF K.vars.length ((cvK K).take c)) c (l.take j)).getD y.toNat []).length cc).ownBlock = some k → k ≠ X.gu := fun k e => by
  obtain ⟨c3,hc3⟩ := own_blkI (hA.own y.toNat _ hu) e
  exact int_row hc3 hA.sat.usb
 have gu' : wB.heap[X.gu]? = some (.cells us.toArray 33 (0,0)) := (hgB.block X.gu (some_lt hA.sat.usb) (fun e => hne _ e.symm rfl)).trans hA.sat.usb
 have nb : (Value.slice a ((addU (usersF K.vars.length ((cvK K).take c)) c (l.take j)).getD y.toNat []).length cc).ownBlock ≠ some X.b := fun e => (hA.ap y.toNat _ X.b hu e).1 own_b
 have gb' := (hgB.block X.b (some_lt hA.sat.rcd) (fun e => nb e.symm)).trans hA.sat.rcd
 have hu3 : us.toArray[y.toNat]? = some (Value.slice a ((addU (usersF K.vars.length ((cvK K).take c)) c (l.take j)).getD y.toNat []).length cc) := (List.getElem?_toArray ..).trans hu
 refine ⟨cell_of gu' y.toNat _ hu3,frozen_of gu' _,some_lt gu',cell_of gb' 9 _ rfl,some_lt gb',cv,us.set y.toNat (.slice (some ⟨g,0,none⟩) (((addU (usersF K.vars.length ((cvK K).take c)) c (l.take j)).getD y.toNat []).length + 1) cap),hv,?_⟩
 have r := hA.user hu (by show y.toNat < (addU (usersF K.vars.length ((cvK K).take c)) c (l.take j)).length;omega) hgB hat hown
 have e : l.take (j + 1) = l.take j ++ [y] := by rw [List.take_add_one,hy];rfl
 rw [e,addU_snoc]
 exact r
theorem bg_done {c : Nat} {l : List Int} {vl : Value} (h : BgU w0 X K c l.length l vl w) {q : QCon} (hq : K.cons[c]? = some q) (hl : l = varsP q) : BgR w0 X K (c + 1) w := by
 obtain ⟨cv,us,hv,h⟩ := h
 have hc : c < K.cons.length := (List.getElem?_eq_some_iff.1 hq).1
 refine ⟨cv,us,?_⟩
 have e : (cvK K).take (c + 1) = (cvK K).take c ++ [varsP q] := by rw [List.take_add_one,cvK_get hq];rfl
 have e2 : ((cvK K).take c).length = c := by rw [List.length_take,cvK_len];omega
 have e3 : usersF K.vars.length ((cvK K).take (c + 1)) = addU (usersF K.vars.length ((cvK K).take c)) c (l.take l.length) := by rw [e,usersF_snoc,e2,List.take_length,hl]
 rw [e3]
 exact h
end
section
attribute [local go_sem ↓] ld_veil st_veil
variable {w0 w w' w'' : World} {X : SL} {K : SK} {s : SS} {vT vS : Value}
theorem rngD_lt {lo hi : Int} (h1 : -1000 ≤ lo) (h2 : hi ≤ 1000) : rngD lo hi < 2 ^ 2001 := by
 apply Nat.lt_pow_two_of_testBit
 intro j hj
 rw [rngD_bit _ _ h1]
 simp;omega
theorem dc_Between {lo hi : Int} {r : List Value} (hr : DC (rngD lo hi) r) (h1 : -1000 ≤ lo) (h2 : lo ≤ hi) (h3 : hi ≤ 1000) (w : World) : Calls Tryz.prog 83 #[.int .i64 lo,.int .i64 hi] w fun e w' => e = .returned (.agg r.toArray) ∧ w.grownBy w' none := by
 have q := dm_Between lo hi (by omega) (by omega) (by omega) (by omega) w
 rw [show max lo (-1000) = lo by omega,show min hi 1000 = hi by omega] at q
 rw [hr.is,← dArr_dL];exact q
theorem mk_int (n : Nat) (hn : n ≤ 16) (w : World) : (Instr.makeSlice 33 (.int .i64 (n : Int)) (.int .i64 (n : Int))).run Tryz.prog w = .ok (.slice (some ⟨w.heap.size,0,none⟩) n n) (w.alloc (.cells (madeCells #[.int .i64 0] n) 3)) :=
 run_make_row' 33 3 (.int .i64 0) 8 Tryz.underlying33 infoI64 rfl .i64 .i64 n (by omega) (by omega) w
theorem infoBool : (Tryz.prog.info? 4).map (fun i => (i.zero,i.size,i.bytes)) = some (some (.bool false),1,1) := by kernel_rfl
theorem mk_bool (n : Nat) (hn : n ≤ 16) (w : World) : (Instr.makeSlice 103 (.int .i64 (n : Int)) (.int .i64 (n : Int))).run Tryz.prog w = .ok (.slice (some ⟨w.heap.size,0,none⟩) n n) (w.alloc (.cells (madeCells #[.bool false] n) 4)) :=
 run_make_row' 103 4 (.bool false) 1 (by kernel_rfl) infoBool rfl .i64 .i64 n (by omega) (by omega) w
theorem mk_sl (n : Nat) (hn : n ≤ 16) (w : World) : (Instr.makeSlice 30 (.int .i64 (n : Int)) (.int .i64 (n : Int))).run Tryz.prog w = .ok (.slice (some ⟨w.heap.size,0,none⟩) n n) (w.alloc (.cells (madeCells #[.slice none 0 0] n) 33)) :=
 run_make_row' 30 33 (.slice none 0 0) 24 (by kernel_rfl) infoSl rfl .i64 .i64 n (by omega) (by omega) w
theorem infoDz : (Tryz.prog.info? 161).map (fun i => (i.zero,i.size,i.bytes)) = some (some (.agg (Array.replicate 32 (.int .u64 0))),32,256) := by kernel_rfl
theorem dz_cells : (Value.agg (Array.replicate 32 (.int .u64 0))).cells = (dL 0).toArray := by
 rw [← dArr_dL,dZero]
 kernel_rfl
theorem mk_dom (n : Nat) (hn : n ≤ 8) (w : World) : (Instr.makeSlice 102 (.int .i64 (n : Int)) (.int .i64 (n : Int))).run Tryz.prog w = .ok (.slice (some ⟨w.heap.size,0,none⟩) n n) (w.alloc (.cells (madeCells (dL 0).toArray (n * 32)) 161)) := by
 obtain ⟨i,hi,hzz⟩ := Option.map_eq_some_iff.1 infoDz
 simp only [Prod.mk.injEq] at hzz
 obtain ⟨hz,hs,hb⟩ := hzz
 have hr := run_make (P := Tryz.prog) w 102 161 i (.agg (Array.replicate 32 (.int .u64 0))) (by kernel_rfl) hi hz .i64 .i64 n n (by omega) (Int.le_refl _) (by rw [hb];omega) (by omega)
 rw [dz_cells,hs] at hr
 simpa using hr
theorem fin6 {p : Fin 6 → Prop} (h0 : p 0) (h1 : p 1) (h2 : p 2) (h3 : p 3) (h4 : p 4) (h5 : p 5) : ∀ j,p j
 | 0 => h0
 | 1 => h1
 | 2 => h2
 | 3 => h3
 | 4 => h4
 | 5 => h5
def bgAt : Fin 6 → Nat
 | 0 => 5
 | 1 => 7
 | 2 => 9
 | 3 => 15
 | 4 => 17
 | 5 => 23
def bgSl : Fin 6 → Option Tmp
 | 0 => some 26
 | 1 => some 28
 | 2 => some 30
 | 3 => some 36
 | 4 => some 38
 | 5 => some 44
def bgN (n m : Nat) : Fin 6 → Nat
 | 0 => n
 | 1 => n
 | 2 => n
 | 3 => m
 | 4 => n
 | 5 => m
def bgLb (b0 b1 b2 b3 b4 b5 : Bool) : Array Bool := #[true,true,true,true,true,b0,true,b1,true,b2,true,true,true,true,true,b3,true,b4,true,true,true,true,true,b5,false,false,false]
def bgL (g : Fin 6 → Bool) : Array Bool := bgLb (g 0) (g 1) (g 2) (g 3) (g 4) (g 5)
def bgTodo (b0 b1 b2 b3 b4 b5 : Bool) : List Nat := (if b0 then [] else [5]) ++ ((if b1 then [] else [7]) ++ ((if b2 then [] else [9]) ++ ((if b3 then [] else [15]) ++ ((if b4 then [] else [17]) ++ (if b5 then [] else [23])))))
theorem bg_ready {ops : Array Oper} (h : ∀ b0 b1 b2 b3 b4 b5 : Bool,(b0 && b1 && b2 && b3 && b4 && b5) = false → Region.ready .any ops (bgLb b0 b1 b2 b3 b4 b5) = bgTodo b0 b1 b2 b3 b4 b5) (g : Fin 6 → Bool) (hg : ∃ j,g j = false) : Region.ready .any ops (bgL g) ≠ [] ∧ ∀ i ∈ Region.ready .any ops (bgL g),∃ j,i = bgAt j ∧ g j = false := by
 have hf : (g 0 && g 1 && g 2 && g 3 && g 4 && g 5) = false := by
  obtain ⟨j,hj⟩ := hg
  match j,hj with
  | 0,hj => simp [hj]
  | 1,hj => simp [hj]
  | 2,hj => simp [hj]
  | 3,hj => simp [hj]
  | 4,hj => simp [hj]
  | 5,hj => simp [hj]
 have e : Region.ready .any ops (bgL g) = bgTodo (g 0) (g 1) (g 2) (g 3) (g 4) (g 5) := h _ _ _ _ _ _ hf
 rw [e]
 refine ⟨fun q => ?_,fun i hi => ?_⟩
 ·revert hf q
  cases g 0 <;> cases g 1 <;> cases g 2 <;> cases g 3 <;> cases g 4 <;> cases g 5 <;> decide
 ·unfold bgTodo at hi
  simp only [List.mem_append] at hi
  have one : ∀ (b : Bool) (k : Nat),i ∈ (if b = true then [] else [k]) → i = k ∧ b = false := fun b k hb => by
   cases b with
   | true => simp at hb
   | false => exact ⟨by simpa using hb,rfl⟩
  rcases hi with hi | hi | hi | hi | hi | hi
  ·obtain ⟨a,b⟩ := one _ _ hi;exact ⟨0,a,b⟩
  ·obtain ⟨a,b⟩ := one _ _ hi;exact ⟨1,a,b⟩
  ·obtain ⟨a,b⟩ := one _ _ hi;exact ⟨2,a,b⟩
  ·obtain ⟨a,b⟩ := one _ _ hi;exact ⟨3,a,b⟩
  ·obtain ⟨a,b⟩ := one _ _ hi;exact ⟨4,a,b⟩
  ·obtain ⟨a,b⟩ := one _ _ hi;exact ⟨5,a,b⟩
theorem bgL_set (j : Fin 6) (g : Fin 6 → Bool) : (bgL g).setIfInBounds (bgAt j) true = bgL (upd g j true) := by
 match j with
 | 0 => rfl
 | 1 => rfl
 | 2 => rfl
 | 3 => rfl
 | 4 => rfl
 | 5 => rfl
def bgV (n : Nat) : Option Nat → Value
 | none => undef
 | some k => .slice (some ⟨k,0,none⟩) n n
def bgA (a : Act) (n m : Nat) (f : Fin 6 → Option Nat) : Act :=
 (((((a.put (some 26) (bgV n (f 0))).put (some 28) (bgV n (f 1))).put (some 30) (bgV n (f 2))).put (some 36) (bgV m (f 3))).put (some 38) (bgV n (f 4))).put (some 44) (bgV m (f 5))
theorem makes6 {ops : Array Oper} {Q : Exit → Act → World → Prop} {S : World → Prop} {listed : Array Bool} {a : Act} (w0 : World) (n m : Nat) (hl : bgL (fun _ => false) = listed) (ha : bgA a n m (fun _ => none) = a) (hS : ∀ W,w0.grownBy W none → S W) (hop : ∀ j,∃ o t l c,ops[bgAt j]? = some o ∧ o.guard = none ∧ o.dst = bgSl j ∧ o.op = Op.makeSlice t l c ∧ (∀ f,(bgA a n m f).eval l = .int .i64 (bgN n m j : Int)) ∧ (∀ f,(bgA a n m f).eval c = .int .i64 (bgN n m j : Int)) ∧
   ∀ W : World,(Instr.makeSlice t (.int .i64 (bgN n m j : Int)) (.int .i64 (bgN n m j : Int))).run Tryz.prog W = .ok (.slice (some ⟨W.heap.size,0,none⟩) (bgN n m j) (bgN n m j)) (W.alloc (bgBlk n m j)))
  (hA : ∀ j f k,(bgA a n m f).put (bgSl j) (.slice (some ⟨k,0,none⟩) (bgN n m j) (bgN n m j)) = bgA a n m (upd f j (some k)))
  (hrd : ∀ b0 b1 b2 b3 b4 b5 : Bool,(b0 && b1 && b2 && b3 && b4 && b5) = false → Region.ready .any ops (bgLb b0 b1 b2 b3 b4 b5) = bgTodo b0 b1 b2 b3 b4 b5)
  (hend : ∀ (k : Fin 6 → Nat) W,MadeAt w0 W (bgBlk n m) (fun j => some (k j)) → S W → wpAnyH Tryz.prog .any ops Q S 3 (bgL fun _ => true) (bgA a n m fun j => some (k j)) W) :
  wpAnyH Tryz.prog .any ops Q S 9 listed a w0 := by
 have r := wpAnyH_makes (P := Tryz.prog) (ops := ops) (Q := Q) (md := .any) (S := S) w0 (bgBlk n m) bgAt bgSl (bgN n m) bgL (bgA a n m) 3 hS hop bgL_set hA (bg_ready hrd) (fun f W hf hM => by
  have e : f = fun j => some ((f j).getD 0) := funext fun j => by
   cases q : f j with
   | none => exact absurd q (hf j)
   | some k => rfl
  rw [e] at hM ⊢
  exact hend _ W hM (hS W hM.g)) 6 (fun _ => none) [0,1,2,3,4,5] w0 rfl (fun j => ⟨fun _ => by match j with | 0 | 1 | 2 | 3 | 4 | 5 => decide,fun _ => rfl⟩) (by decide) ⟨grown_refl _ _,fun j k h => (by cases h),fun i j k h => (by cases h)⟩
 rw [ha] at r
 rw [← hl]
 exact r
end
section
set_option maxHeartbeats 8000000
set_option maxRecDepth 100000
attribute [local go_sem ↓] ld_veil st_veil
variable {w0 w w' w'' : World} {X : SL} {K : SK} {s : SS} {vT vS : Value}
theorem BgM.g0 {c : Nat} (h : BgM w0 X K c w) : w0.grownBy w none := by obtain ⟨_,_,h⟩ := h;exact h.sat.g0
theorem BgM.grown {c : Nat} (h : BgM w0 X K c w) (hg : w.grownBy w' none) : BgM w0 X K c w' := by obtain ⟨cv,us,h⟩ := h;exact ⟨cv,us,h.grown hg⟩
theorem BgU.g0 {c j : Nat} {l : List Int} {vl : Value} (h : BgU w0 X K c j l vl w) : w0.grownBy w none := by obtain ⟨_,_,_,h⟩ := h;exact h.sat.g0
theorem BgU.grown {c j : Nat} {l : List Int} {vl : Value} (h : BgU w0 X K c j l vl w) (hg : w.grownBy w' none) : BgU w0 X K c j l vl w' := by obtain ⟨cv,us,hv,h⟩ := h;exact ⟨cv,us,hv,h.grown hg⟩
theorem bg_laid {c : Nat} (h : BgM w0 X K c w) {q : QCon} (hq : K.cons[c]? = some q) {g cap : Nat} (hg : w.grownBy w' none) (ho : w'.ownsRow w.heap.size 3 1 (.slice (some ⟨g,0,none⟩) (varsP q).length cap) (varsP q).length ((varsP q).map (Value.int .i64))) : (∃ u,w'.cell? ⟨X.gc,c,none⟩ = some u) ∧ w'.frozen? ⟨X.gc,c,none⟩ = false ∧ X.gc < w'.heap.size ∧ BgU w0 X K c 0 (varsP q) (.slice (some ⟨g,0,none⟩) (varsP q).length cap) (w'.setCell ⟨X.gc,c,none⟩ (.slice (some ⟨g,0,none⟩) (varsP q).length cap)) := by
 obtain ⟨_,h1,h2,h3,_⟩ := bg_con (h.grown hg) hq
 exact ⟨h2,h3,h1,bg_vars h hq hg ho⟩
theorem sc_begin {bc B : Nat} {vV vC : Value} {cs : List CRow} (hset : SetIn w bc B vV vC K.vars cs) (hcs : cs.map (·.c) = K.cons) (hdb : DbTab w) (hK : KOk K) (hcv : K.cvs = cvK K) (hus : K.users = usersF K.vars.length (cvK K)) : Calls Tryz.prog 49 #[.pointer (some ⟨bc,1,none⟩),.int .i64 K.order,.bool K.weak,.int .i64 K.budget] w fun e w' => ∃ X,e = .returned (.pointer (some ⟨X.b,0,none⟩)) ∧ SAt w w' X K (beginS K) (.slice none 0 0) (.slice none 0 0) := by
 obtain ⟨ra,rc,rfl⟩ := own_slice_n hset.ov
 obtain ⟨ca,cc,hca⟩ := own_slice_n hset.oc
 have hcl : cs.length = K.cons.length := by rw [← hcs,List.length_map]
 rw [hcl] at hca
 subst hca
 have c1 := hset.c1
 have c2 := hset.c2
 have hlt := hset.lt
 have hvl := hK.vlen
 have hcll := hK.clen
 have HSET := hide hset
 have HCS := hide hcs
 have HDB := hide hdb
 have HK := hide hK
 have HCV := hide hcv
 have HUS := hide hus
 clear hset hcs hdb hK hcv hus hcl
 go_enter Tryz.func49,Tryz.ntmps49
 go_wp2
 refine wp_region_held_drew (S := fun w1 => w1.cell? ⟨bc,2,none⟩ = some (.slice ca K.cons.length cc)) (by kernel_rfl) ?_ (fun hHeld => ?_)
 ·exact c2
 apply tqW 0 21 hHeld
 ·(intro w hSw;(try dsimp only at hSw);go_simp;try with_reducible rfl)
 (try simp only [Act.put,arS,arZ,arN])
 apply tqW 1 22 hHeld
 ·(intro w hSw;(try dsimp only at hSw);go_simp;try with_reducible rfl)
 (try simp only [Act.put,arS,arZ,arN])
 apply tqW 2 23 hHeld
 ·(intro w hSw;(try dsimp only at hSw);go_simp;try with_reducible rfl)
 (try simp only [Act.put,arS,arZ,arN])
 apply tqW 3 24 hHeld
 ·(intro w hSw;(try dsimp only at hSw);go_simp;try with_reducible rfl)
 (try simp only [Act.put,arS,arZ,arN])
 apply tqW 4 25 hHeld
 ·(intro w hSw;(try dsimp only at hSw);go_simp;try with_reducible rfl)
 (try simp only [Act.put,arS,arZ,arN])
 apply tqW 6 27 hHeld
 ·(intro w hSw;(try dsimp only at hSw);go_simp;try with_reducible rfl)
 (try simp only [Act.put,arS,arZ,arN])
 apply tqW 8 29 hHeld
 ·(intro w hSw;(try dsimp only at hSw);go_simp;try with_reducible rfl)
 (try simp only [Act.put,arS,arZ,arN])
 apply tqW 10 31 hHeld
 ·(intro w hSw;(try dsimp only at hSw);go_simp;try with_reducible rfl)
 (try simp only [Act.put,arS,arZ,arN])
 apply tqW 11 32 hHeld
 ·(intro w hSw;(try dsimp only at hSw);go_simp;try with_reducible rfl)
 (try simp only [Act.put,arS,arZ,arN])
 apply tqW 12 33 hHeld
 ·(intro w hSw;(try dsimp only at hSw);go_simp;try with_reducible rfl)
 (try simp only [Act.put,arS,arZ,arN])
 apply tqW 13 34 hHeld
 ·(intro w hSw;(try dsimp only at hSw);go_simp;try with_reducible rfl)
 (try simp only [Act.put,arS,arZ,arN])
 apply tqW 14 35 hHeld
 ·(intro w hSw;(try dsimp only at hSw);go_simp;try with_reducible rfl)
 (try simp only [Act.put,arS,arZ,arN])
 apply tqW 16 37 hHeld
 ·(intro w hSw;(try dsimp only at hSw);go_simp;try with_reducible rfl)
 (try simp only [Act.put,arS,arZ,arN])
 apply tqW 18 39 hHeld
 ·(intro w hSw;(try dsimp only at hSw);go_simp;try with_reducible rfl)
 (try simp only [Act.put,arS,arZ,arN])
 apply tqW 19 40 hHeld
 ·(intro w hSw;(try dsimp only at hSw);go_simp;try with_reducible rfl)
 (try simp only [Act.put,arS,arZ,arN])
 apply tqW 20 41 hHeld
 ·(intro w hSw;(try dsimp only at hSw);go_simp;try with_reducible rfl)
 (try simp only [Act.put,arS,arZ,arN])
 apply tqW 21 42 hHeld
 ·(intro w hSw;(try dsimp only at hSw);go_simp;try with_reducible rfl)
 (try simp only [Act.put,arS,arZ,arN])
 apply tqW 22 43 hHeld
 ·(intro w hSw;(try dsimp only at hSw);go_simp;try with_reducible rfl)
 (try simp only [Act.put,arS,arZ,arN])
 have m1 := mk_dom K.vars.length hvl
 have m2 := mk_int K.vars.length (by omega)
 have m3 := mk_bool K.vars.length (by omega)
 have m4 := mk_sl K.cons.length hcll
 have m5 := mk_sl K.vars.length (by omega)
 have m6 := mk_bool K.cons.length hcll
 refine makes6 w.drew K.vars.length K.cons.length (by kernel_rfl) (by kernel_rfl) (fun W hW => hW.cell hHeld (by simp)) ?op ?A ?rd (fun k W hM hHeld => ?_)
 case op =>
  refine fin6 ?_ ?_ ?_ ?_ ?_ ?_
  ·exact ⟨_,_,_,_,rfl,rfl,rfl,rfl,(fun f => by kernel_rfl),(fun f => by kernel_rfl),m1⟩
  ·exact ⟨_,_,_,_,rfl,rfl,rfl,rfl,(fun f => by kernel_rfl),(fun f => by kernel_rfl),m2⟩
  ·exact ⟨_,_,_,_,rfl,rfl,rfl,rfl,(fun f => by kernel_rfl),(fun f => by kernel_rfl),m3⟩
  ·exact ⟨_,_,_,_,rfl,rfl,rfl,rfl,(fun f => by kernel_rfl),(fun f => by kernel_rfl),m4⟩
  ·exact ⟨_,_,_,_,rfl,rfl,rfl,rfl,(fun f => by kernel_rfl),(fun f => by kernel_rfl),m5⟩
  ·exact ⟨_,_,_,_,rfl,rfl,rfl,rfl,(fun f => by kernel_rfl),(fun f => by kernel_rfl),m6⟩
 case A =>
  refine fin6 ?_ ?_ ?_ ?_ ?_ ?_
  all_goals (intro f k;kernel_rfl)
 case rd =>
  intro b0 b1 b2 b3 b4 b5
  cases b0 <;> cases b1 <;> cases b2 <;> cases b3 <;> cases b4 <;> cases b5 <;> first | (intro h;cases h;done) | (intro _;kernel_rfl)
 unfold bgA
 simp only [Act.put,arS,arZ,arN]
 simp only [bgV]
 obtain ⟨X,hX⟩ : ∃ X,X = bgX k W.heap.size bc B (.slice ra K.vars.length rc) (.slice ca K.cons.length cc) cs K.vars.length K.cons.length := ⟨_,rfl⟩
 have HB := hide (bgi_begun (K := K) ⟨(grown_drew' w none).trans hM.g,hM.at_,hM.inj⟩ HSET.out HCS.out HDB.out hX)
 obtain ⟨W1,hW1⟩ : ∃ W1,W1 = W.alloc (.cells (recCells X K (bgS K 0 0) (.slice none 0 0) (.slice none 0 0)) 106) := ⟨_,rfl⟩
 have hXb : W.heap.size = X.b := by rw [hX];rfl
 have hXC : X.vC = .slice ca K.cons.length cc := by rw [hX];rfl
 have hS1 : W1.cell? ⟨bc,2,none⟩ = some (.slice ca K.cons.length cc) := by rw [hW1];exact (World.grownBy_alloc _ _ none).cell hHeld (by simp)
 rw [← hW1] at HB
 rw [hX] at hW1
 have HW1 := hide hW1
 have HXb := hide hXb
 have HS1 := hide hS1
 clear hX hW1 hXb hS1
 apply tqW 24 45 hHeld
 ·(intro w hSw;(try dsimp only at hSw);go_simp;try with_reducible rfl)
 (try simp only [Act.put,arS,arZ,arN])
 refine wpAnyH_ready (rs := [25]) (by kernel_rfl) (by simp) ?_
 refine AllReadyH.cons rfl (fun K9 hK => ?_) AllReadyH.nil
 go_simp
 change K9 _ (W.alloc (.cells (recCells (bgX k W.heap.size bc B (.slice ra K.vars.length rc) (.slice ca K.cons.length cc) cs K.vars.length K.cons.length) K (bgS K 0 0) (.slice none 0 0) (.slice none 0 0)) 106))
 rw [← HW1.out,HXb.out]
 refine hK.out _ _ ?_ (fun hHeld => ?_)
 ·exact HS1.out
 clear hK K9 hM HW1 HXb m1 m2 m3 m4 m5 m6
 (try simp only [Act.put,arS,arZ,arN])
 apply tqW 26 10 hHeld
 ·(intro w hSw;(try dsimp only at hSw);go_simp;try with_reducible rfl)
 (try simp only [Act.put,arS,arZ,arN])
 refine wpAnyH_done (by kernel_rfl) ?_ _
 have c1' := HB.out.sat.g0.cell c1 (by simp)
 have hlt' : bc < W1.heap.size := Nat.lt_of_lt_of_le hlt HB.out.sat.g0.size
 go_wp2
 go_loopw [52] (fun vi wr => ∃ i : Nat,i ≤ K.vars.length ∧ vi = .int .i64 i ∧ BgI w wr X (bgK K [] (List.replicate K.vars.length [])) (bgS K i 0)) (fun vi _ => K.vars.length - (intOf vi).toNat)
 case atStart => exact ⟨0,Nat.zero_le _,rfl,HB.out⟩
 case round =>
  obtain ⟨i,hi,rfl,hB⟩ := hrel
  by_cases hlt2 : i < K.vars.length
  ·obtain ⟨v,hv⟩ : ∃ v,K.vars[i]? = some v := ⟨K.vars[i],List.getElem?_eq_getElem hlt2⟩
   obtain ⟨gr,cr,hRV,_⟩ := RowIn.of_own HSET.out.ov (by omega)
   have er : ra = some ⟨gr,0,none⟩ := by have q := hRV.is;injection q
   subst er
   have hR := hRV.kept hB.sat.g0 (by simp)
   have k0 : wr.cell? ⟨gr,i * 3,none⟩ = some (.string v.name) := hR.at (sz := 3) (fun _ => rfl) hv 0 _ rfl
   have k1 : wr.cell? ⟨gr,i * 3 + 1,none⟩ = some (.int .i64 v.low) := hR.at (sz := 3) (fun _ => rfl) hv 1 _ rfl
   have k2 : wr.cell? ⟨gr,i * 3 + 2,none⟩ = some (.int .i64 v.high) := hR.at (sz := 3) (fun _ => rfl) hv 2 _ rfl
   have hgr : gr < wr.heap.size := hR.lt
   obtain ⟨v1,v2,v3⟩ := HK.out.vars v (List.mem_of_getElem? hv)
   obtain ⟨r,hr⟩ := dc (rngD v.low v.high)
   have KB := Kept.mk (fun W => dc_Between hr v1 v2 v3 W)
   have KS := Kept.mk (fun {W : World} (hg : wr.grownBy W none) => dc_set hr (hB.grown hg).sat hvl (v := (i : Int)) ⟨by omega,by show (i : Int) < (K.vars.length : Int);omega⟩ (rngD_lt v1 v3))
   have HN : Hid (∀ W w',wr.grownBy W none → SAt w w' X (bgK K [] (List.replicate K.vars.length [])) (setS (i : Int) (rngD v.low v.high) (bgS K i 0)) (.slice none 0 0) (.slice none 0 0) → FrS X W w' → BgI w w' X (bgK K [] (List.replicate K.vars.length [])) (bgS K (i + 1) 0)) := fun W w' hg hs hf => by
    have e : setS (i : Int) (rngD v.low v.high) (bgS K i 0) = bgS K (i + 1) 0 := by
     unfold setS bgS
     simp only [Int.toNat_natCast]
     rw [set_take_rep (K.vars.map fun v => rngD v.low v.high) K.vars.length i (by simpa using hlt2) (by simp) (rngD v.low v.high) (by rw [List.getElem?_map,hv];rfl)]
    rw [e] at hs
    exact (hB.grown hg).frs hs hf rfl rfl
   have hlt3 : (i : Int) < K.vars.length := by omega
   have h03 : (0 : Int) ≤ i := by omega
   clear hRV hR hB hv
   go_wp2_with (first | (go_at_call 82;refine (KS.get ((World.grownBy_alloc _ _ _).trans hg2)).mono ?_;rintro e w3 ⟨rfl,hs3,hf3⟩) | (go_at_call 83;refine (KB.get _).mono ?_;rintro e w2 ⟨rfl,hg2⟩))
   go_roundw
   case rel => exact ⟨i + 1,by omega,by go_num,HN.out _ _ ((World.grownBy_alloc _ _ _).trans hg2) hs3 hf3⟩
   case measure => simp [intOf];omega
  ·obtain rfl : i = K.vars.length := by omega
   have hR0 : BgR w X K 0 wr := ⟨X.cv,X.us,hB⟩
   have HR0 := hide hR0
   have c2' := hB.sat.g0.cell c2 (by simp)
   have hlt5 : bc < wr.heap.size := Nat.lt_of_lt_of_le hlt hB.sat.g0.size
   clear hB hR0
   go_wp2
   go_loopw [71] (fun vi wr => ∃ c : Nat,c ≤ K.cons.length ∧ vi = .int .i64 c ∧ BgR w X K c wr) (fun vi _ => K.cons.length - (intOf vi).toNat)
   case atStart => exact ⟨0,Nat.zero_le _,rfl,HR0.out⟩
   case round =>
    obtain ⟨c,hc,rfl,hR⟩ := hrel
    by_cases hlt6 : c < K.cons.length
    ·obtain ⟨q,hq⟩ : ∃ q,K.cons[c]? = some q := ⟨K.cons[c],List.getElem?_eq_getElem hlt6⟩
     obtain ⟨f10,⟨u1,k1⟩,k2,l1,l2,hM⟩ := bg_mark hR hlt6
     have hlt7 : (c : Int) < K.cons.length := by omega
     have h07 : (0 : Int) ≤ c := by omega
     have HM := hide hM
     have HQ := hide hq
     clear hM hq
     go_wp2
     obtain ⟨W2,hW2⟩ : ∃ W2,W2 = wr.setCell ⟨X.gm,c,none⟩ (.bool true) := ⟨_,rfl⟩
     rw [← hW2] at HM ⊢
     clear hW2 f10 k1 k2 l1 l2 hR
     obtain ⟨f8,l3,_,_,x,g,cap,hxc,hvc,hCon,_,_⟩ := bg_con HM.out HQ.out
     have hok := HK.out.cons q (List.mem_of_getElem? HQ.out)
     have hbc := HM.out.g0.cell c2 (by simp)
     have hlb := Nat.lt_of_lt_of_le hlt HM.out.g0.size
     have eca : ca = some ⟨g,0,none⟩ := by rw [hXC] at hvc;injection hvc
     subst eca
     have KV := Kept.mk (fun {W : World} (hg : W2.grownBy W none) => pv_Variables (hCon.grown hg) (by rw [hxc];exact hok))
     rw [hxc] at KV
     have HV : Hid (∀ (W w2 : World) (gv cv : Nat),W2.grownBy W none → W.grownBy w2 none → w2.ownsRow W.heap.size 3 1 (.slice (some ⟨gv,0,none⟩) (varsP q).length cv) (varsP q).length ((varsP q).map (Value.int .i64)) →
       (∃ u,w2.cell? ⟨X.gc,c,none⟩ = some u) ∧ w2.frozen? ⟨X.gc,c,none⟩ = false ∧ X.gc < w2.heap.size ∧ BgU w X K c 0 (varsP q) (.slice (some ⟨gv,0,none⟩) (varsP q).length cv) (w2.setCell ⟨X.gc,c,none⟩ (.slice (some ⟨gv,0,none⟩) (varsP q).length cv))) :=
      fun W w2 gv cv h1 h2 h3 => bg_laid (HM.out.grown h1) HQ.out h2 h3
     have HPL : Hid (∀ y ∈ varsP q,PlOk K.vars.length y) := fun y hy => raw_ok hok y ((varsP_mem q y).1 hy)
     have hll : (varsP q).length ≤ 9 := Nat.le_trans (varsP_len q) (raw_len hok)
     have HCB : Hid (∀ vs ∈ cvK K,vs.length ≤ 9) := fun vs hvs => by
      obtain ⟨c',hc',rfl⟩ := List.mem_map.1 hvs
      exact Nat.le_trans (varsP_len c') (raw_len (HK.out.cons c' hc'))
     have HLQ : Hid (∀ W j vl,BgU w X K c j (varsP q) vl W → W.cell? ⟨X.b,8,none⟩ = some (.slice (some ⟨X.gc,0,none⟩) K.cons.length K.cons.length) ∧ X.gc < W.heap.size ∧ X.b < W.heap.size ∧ W.cell? ⟨X.gc,c,none⟩ = some vl ∧
       ∀ g cap,vl = .slice (some ⟨g,0,none⟩) (varsP q).length cap → varsP q ≠ [] → g < W.heap.size ∧ ∀ (j : Nat) (y : Int),(varsP q)[j]? = some y → W.cell? ⟨g,j,none⟩ = some (.int .i64 y)) := fun W j vl h => bg_row h HQ.out rfl
     have HDN : Hid (∀ W vl,BgU w X K c (varsP q).length (varsP q) vl W → BgR w X K (c + 1) W) := fun W vl h => bg_done h HQ.out rfl
     clear hok hCon hxc hvc
     unfold VarPost at KV
     generalize varsP q = l at *
     refine wp_region_held_drew (S := fun w1 => w1.cell? ⟨X.b,8,none⟩ = some (.slice (some ⟨X.gc,0,none⟩) K.cons.length K.cons.length) ∧ w1.cell? ⟨bc,2,none⟩ = some (.slice (some ⟨g,0,none⟩) K.cons.length cc)) (by kernel_rfl) ?_ (fun hHeld => ?_)
     ·exact ⟨f8,hbc⟩
     apply tqW 0 80 hHeld
     ·(intro w hSw;(try dsimp only at hSw);go_simp;try with_reducible rfl)
     (try simp only [Act.put,arS,arZ,arN])
     apply tqW 1 81 hHeld
     ·(intro w hSw;(try dsimp only at hSw);go_simp;try with_reducible rfl)
     (try simp only [Act.put,arS,arZ,arN])
     apply tqW 2 82 hHeld
     ·(intro w hSw;(try dsimp only at hSw);go_simp;try with_reducible rfl)
     (try simp only [Act.put,arS,arZ,arN])
     apply tqW 3 83 hHeld
     ·(intro w hSw;(try dsimp only at hSw);go_simp;try with_reducible rfl)
     (try simp only [Act.put,arS,arZ,arN])
     apply tqW 4 84 hHeld
     ·(intro w hSw;(try dsimp only at hSw);go_simp;try with_reducible rfl)
     (try simp only [Act.put,arS,arZ,arN])
     apply tqW 5 85 hHeld
     ·(intro w hSw;(try dsimp only at hSw);go_simp;try with_reducible rfl)
     (try simp only [Act.put,arS,arZ,arN])
     apply tqW 6 86 hHeld
     ·(intro w hSw;(try dsimp only at hSw);go_simp;try with_reducible rfl)
     (try simp only [Act.put,arS,arZ,arN])
     apply tqW 7 87 hHeld
     ·(intro w hSw;(try dsimp only at hSw);go_simp;try with_reducible rfl)
     (try simp only [Act.put,arS,arZ,arN])
     apply tqW 8 88 hHeld
     ·(intro w hSw;(try dsimp only at hSw);go_simp;try with_reducible rfl)
     (try simp only [Act.put,arS,arZ,arN])
     apply tqW 9 89 hHeld
     ·(intro w hSw;(try dsimp only at hSw);go_simp;try with_reducible rfl)
     (try simp only [Act.put,arS,arZ,arN])
     apply tqW 10 90 hHeld
     ·(intro w hSw;(try dsimp only at hSw);go_simp;try with_reducible rfl)
     (try simp only [Act.put,arS,arZ,arN])
     refine wpAnyH_ready (rs := [11]) (by kernel_rfl) (by simp) ?_
     refine AllReadyH.cons rfl (fun K hK => ?_) AllReadyH.nil
     go_simp
     go_wp2_with ((go_at_call 84;refine (KV.get (grown_drew' _ _)).mono ?_;rintro e w2 ⟨gv,cv,rfl,hown,hg2⟩;obtain ⟨⟨u2,k3⟩,k4,l4,hU⟩ := HV.out _ _ _ _ (grown_drew' _ _) hg2 hown))
     refine hK.out _ _ ?_ (fun hHeld => ?_)
     ·exact ⟨hg2.cell hHeld.1 (by simp),hg2.cell hHeld.2 (by simp)⟩
     clear hK K
     (try simp only [Act.put,arS,arZ,arN])
     apply tqW 12 92 hHeld
     ·(intro w hSw;(try dsimp only at hSw);go_simp;try with_reducible rfl)
     (try simp only [Act.put,arS,arZ,arN])
     refine wpAnyH_ready (rs := [13]) (by kernel_rfl) (by simp) ?_
     refine AllReadyH.cons rfl (fun K9 hK => ?_) AllReadyH.nil
     have HU := hide hU
     clear hU hown
     go_simp
     refine hK.out _ _ ?_ (fun hHeld => ?_)
     ·exact ⟨(HLQ.out _ _ _ HU.out).1,HU.out.g0.cell c2 (by simp)⟩
     clear hK K9 k3 k4
     (try simp only [Act.put,arS,arZ,arN])
     refine wpAnyH_done (by kernel_rfl) ?_ _
     obtain ⟨W3,hW3⟩ : ∃ W3,W3 = w2.setCell ⟨X.gc,c,none⟩ (.slice (some ⟨gv,0,none⟩) l.length cv) := ⟨_,rfl⟩
     rw [← hW3] at HU ⊢
     obtain ⟨r1,r2,r3,r4,_⟩ := HLQ.out _ _ _ HU.out
     clear hW3 hHeld f8 hbc hg2 l4 l3
     obtain ⟨i0,hi0,hz0,hz1,hz2⟩ := info_parts infoI64
     go_wp2
     go_loopw [101] (fun vi wr => ∃ j : Nat,j ≤ l.length ∧ vi = .int .i64 j ∧ BgU w X K c j l (.slice (some ⟨gv,0,none⟩) l.length cv) wr) (fun vi _ => l.length - (intOf vi).toNat)
     case atStart => exact ⟨0,Nat.zero_le _,rfl,HU.out⟩
     case round =>
      obtain ⟨j,hj,rfl,hU⟩ := hrel
      by_cases hlt8 : j < l.length
      ·obtain ⟨y,hy⟩ : ∃ y,l[j]? = some y := ⟨l[j],List.getElem?_eq_getElem hlt8⟩
       obtain ⟨_,_,l2,_,r5⟩ := HLQ.out _ _ _ hU
       obtain ⟨r6,r7⟩ := r5 gv cv rfl (fun e => by rw [e] at hlt8;simp at hlt8)
       have r8 := r7 j y hy
       have hp := HPL.out y (List.mem_of_getElem? hy)
       obtain ⟨f9,g1,a,n',cc',xs,hn',k1,ho,hsz,hU2⟩ := bg_user hU hy hp HCB.out hll (by omega)
       have hp1 := hp.1
       have hp2 := hp.2
       have hlt9 : (j : Int) < l.length := by omega
       have h09 : (0 : Int) ≤ j := by omega
       have HO : Hid ((wr.drew.alloc (.cells #[.int .i64 (c : Int)] 3)).ownsRow w.heap.size 3 1 (.slice a n' cc') n' xs) := (ho.kept (grown_drew' _ _) (own_none _)).alloc _
       have HU2 := hide (fun (wB : World) (g cap : Nat) => hU2 (wr.drew.alloc (.cells #[.int .i64 (c : Int)] 3)) wB g cap ((grown_drew' _ _).trans (World.grownBy_alloc _ _ _)))
       clear r5 r7 hp hU2 hU hy ho
       go_wp2
       go_region_law ((refine step_append_lies _ (by rfl) _ _ 33 (by rfl) w.heap.size 3 i0 (.int .i64 0) 1 8 Tryz.underlying33 hi0 hz0 hz1 hz2 rfl (by decide) (.slice a n' cc') n' xs (by rfl) HO.out ⟨wr.heap.size,0,none⟩ 1 1 [.int .i64 (c : Int)] (by rfl) rfl (World.news_of_block (cs := #[.int .i64 (c : Int)]) (t := 3) (fr := (0,0)) (heap_alloc_new wr.drew _)) (by intro u hu;simp at hu;subst hu;rfl) (by decide) (by unfold maxLen;omega) (by omega) (by simp;omega) _ rfl ?_;intro gA capA wA hownA hgrowA hatA hltA;obtain ⟨k3,k4,g4,b9,g5,hU3⟩ := HU2.out wA gA capA hgrowA hatA hownA))
       all_goals
        have HU3 := hide hU3
        clear hU3 hownA hgrowA hatA
        go_wp2
        go_roundw
       all_goals first
        |exact ⟨j + 1,by omega,by go_num,HU3.out⟩
        | (simp [intOf];omega)
      ·obtain rfl : j = l.length := by omega
       have HRN := hide (HDN.out _ _ hU)
       clear hU
       go_wp2
       go_roundw
       case rel => exact ⟨c + 1,by omega,by go_num,HRN.out⟩
       case measure => simp [intOf];omega
    ·obtain rfl : c = K.cons.length := by omega
     have HRN := hide hR
     clear hR
     go_wp2
     go_ret
     obtain ⟨cv,us,hI⟩ := HRN.out
     refine ⟨X.wi cv us,rfl,?_⟩
     have hs := hI.sat
     have e1 : bgK K ((cvK K).take K.cons.length) (usersF K.vars.length ((cvK K).take K.cons.length)) = K := by
      rw [List.take_of_length_le (by rw [cvK_len];exact Nat.le_refl _),← HUS.out,← HCV.out];rfl
     rw [e1,bgS_end] at hs
     exact hs
end
section
set_option maxHeartbeats 8000000
set_option maxRecDepth 100000
variable {w0 w w' w'' : World} {X : SL} {K : SK} {s : SS} {vT vS : Value}
def KeepT (w w' : World) : Prop := ∀ (k : Nat) (c : Array Value) (t : TypeId),w.heap[k]? = some (.cells c t (0,0)) → t = 33 ∨ t = 3 → w'.heap[k]? = some (.cells c t (0,0))
def LLT (w : World) (v : Value) (rows : List (List Int)) : Prop := ∀ W,KeepT w W → LL W v rows
theorem LLT.ll {v : Value} {rows : List (List Int)} (h : LLT w v rows) : LL w v rows := h w (fun _ _ _ q _ => q)
theorem LLT.turn {v : Value} {rows : List (List Int)} (h : LLT w v rows) (hk : KeepT w w') : LLT w' v rows := fun W q => h W (fun k c t q1 q2 => q k c t (hk k c t q1 q2) q2)
theorem KeepT.grown (hg : w.grownBy w' none) : KeepT w w' := fun k c t q _ => (hg.block k (some_lt q) (by simp)).trans q
theorem LLT.grown {v : Value} {rows : List (List Int)} (h : LLT w v rows) (hg : w.grownBy w' none) : LLT w' v rows := h.turn (KeepT.grown hg)
theorem sat_LL (h : SAt w0 w X K s vT vS) (hk : KeepT w w') : LL w' vS s.sols := by
 obtain ⟨rows,r1,r2⟩ := h.sols
 have hrl := r1.1
 rcases r1.2 with ⟨q1,q2⟩ | ⟨g,cap,cur,q1,q2,q3,q4,q5,q6,q7⟩
 ·subst q1
  exact .inl ⟨List.length_eq_zero_iff.1 q2,none,0,rfl⟩
 ·have q3' := hk g cur 33 q3 (.inl rfl)
  refine .inr ⟨g,cap,q1,some_lt q3',fun i r hr => ?_,q4⟩
  have hi : i < s.sols.length := (List.getElem?_eq_some_iff.1 hr).1
  obtain ⟨u,hu⟩ : ∃ u,rows[i]? = some u := ⟨rows[i]'(by omega),List.getElem?_eq_getElem (by omega)⟩
  refine ⟨u,cell_of q3' i u ?_,?_⟩
  ·have e : (cur.toList.take (s.sols.length * 1))[i]? = some u := by rw [q7];exact hu
   rw [List.getElem?_take,if_pos (by omega)] at e
   simpa using e
  ·have e := r2 i u hu
   have e2 : s.sols.getD i [] = r := by rw [List.getD_eq_getElem?_getD,hr];rfl
   rw [e2] at e
   exact (e.kept (fun k cells q _ => hk k cells 3 q (.inr rfl))).vals
theorem begin_tb (hK : KOk K) : TB (beginS K) := by
 refine ⟨?_,fun p hp => by cases hp⟩
 have key : ∀ l : List Nat,(l.map cntD).sum ≤ 2048 * l.length := fun l => by
  induction l with
  | nil => simp
  | cons D l ih =>
   have := cntUp_le D 32
   simp only [List.map_cons,List.sum_cons,List.length_cons]
   unfold cntD at *
   omega
 have := key (beginS K).left
 have e : (beginS K).left.length = K.vars.length := by simp [beginS]
 have e2 : (beginS K).trail.length = 0 := rfl
 have := hK.vlen
 omega
theorem set3_keep {b k : Nat} {x y z : Value} {o : Obj} (h : w.heap[k]? = some o) (hne : k ≠ b) : (((w.setCell ⟨b,0,none⟩ x).setCell ⟨b,1,none⟩ y).setCell ⟨b,2,none⟩ z).heap[k]? = some o := by
 have one : ∀ {W : World} {i : Nat} {v : Value},W.heap[k]? = some o → (W.setCell ⟨b,i,none⟩ v).heap[k]? = some o := fun {W i v} q => ((grown_set W b i v).block k (some_lt q) (fun e => hne (by cases e;rfl))).trans q
 exact one (one (one h))
theorem set3_at {b : Nat} {a0 a1 a2 x y z : Value} {t : TypeId} (h : w.heap[b]? = some (.cells #[a0,a1,a2] t (0,0))) : (((w.setCell ⟨b,0,none⟩ x).setCell ⟨b,1,none⟩ y).setCell ⟨b,2,none⟩ z).heap[b]? = some (.cells #[x,y,z] t (0,0)) :=
 set_at (set_at (set_at h 0 x (cs' := #[x,a1,a2]) rfl) 1 y (cs' := #[x,y,a2]) rfl) 2 z rfl
theorem set3_grown {b : Nat} {x y z : Value} (hg : w0.grownBy w none) (hb : w0.heap.size ≤ b) : w0.grownBy (((w.setCell ⟨b,0,none⟩ x).setCell ⟨b,1,none⟩ y).setCell ⟨b,2,none⟩ z) none :=
 grown_new (grown_new (grown_new hg hb (grown_set _ _ _ _)) hb (grown_set _ _ _ _)) hb (grown_set _ _ _ _)
theorem keep3 {b : Nat} {a0 a1 a2 x y z : Value} (hb : w.heap[b]? = some (.cells #[a0,a1,a2] 50 (0,0))) : KeepT w (((w.setCell ⟨b,0,none⟩ x).setCell ⟨b,1,none⟩ y).setCell ⟨b,2,none⟩ z) := fun k c t q ht => set3_keep q (fun e => by
  subst e
  rw [hb] at q
  injection q with q
  injection q with _ q
  subst q
  rcases ht with e | e <;> exact absurd e (by decide))
theorem sat_told (h : SAt w0 w X K s vT vS) {b : Nat} {a0 a1 a2 x y z : Value} (hb : w.heap[b]? = some (.cells #[a0,a1,a2] 50 (0,0))) : LLT (((w.setCell ⟨b,0,none⟩ x).setCell ⟨b,1,none⟩ y).setCell ⟨b,2,none⟩ z) vS s.sols :=
 LLT.turn (fun W hk => sat_LL h hk) (keep3 hb)
theorem sv_Solve {bc B : Nat} {vV vC : Value} {cs : List CRow} (hset : SetIn w bc B vV vC K.vars cs) (hcs : cs.map (·.c) = K.cons) (hdb : DbTab w) (hK : KOk K) (hcv : K.cvs = cvK K) (hus : K.users = usersF K.vars.length (cvK K)) (hbu : K.budget ≤ 9223372036854775807) : Calls Tryz.prog 37 #[.pointer (some ⟨bc,1,none⟩),.int .i64 K.order,.bool K.weak,.int .i64 K.budget] w fun e w' => ∃ vS,e = .returned (.agg #[vS,.int .i64 (solveS K).ending,.int .i64 (solveS K).nodes]) ∧ LLT w' vS (solveS K).sols ∧ w.grownBy w' none := by
 obtain ⟨hs0,hF0⟩ := begin_ok hK
 have hT0 := begin_tb hK
 obtain ⟨c1,c2,c3,c4⟩ := concS_ok hK hs0 hF0
 obtain ⟨hs1,hT1⟩ := conc_inv hK hs0 hT0
 obtain ⟨W0,hW0⟩ : ∃ W0,W0 = w.alloc (.cells #[.slice none 0 0,.int .i64 0,.int .i64 0] 50) := ⟨_,rfl⟩
 have hg0 : w.grownBy W0 none := by rw [hW0];exact World.grownBy_alloc _ _ _
 have KB := Kept.mk (sc_begin (w := W0) (hset.grown hg0) hcs (db_grown hdb hg0) hK hcv hus)
 have KC := Kept.mk (fun {W : World} {X : SL} (h : SAt W0 W X K (beginS K) (.slice none 0 0) (.slice none 0 0)) => sc_conclude h hK hs0 hT0)
 have hbx0 : W0.heap[w.heap.size]? = some (.cells #[.slice none 0 0,.int .i64 0,.int .i64 0] 50 (0,0)) := by rw [hW0];exact heap_alloc_new _ _
 have hsz0 : w.heap.size < W0.heap.size := some_lt hbx0
 have HBX : Hid (∀ W',W0.grownBy W' none → W'.heap[w.heap.size]? = some (.cells #[.slice none 0 0,.int .i64 0,.int .i64 0] 50 (0,0))) := fun W' hg => (hg.block _ hsz0 (by simp)).trans hbx0
 by_cases c : (concS K (beginS K)).1 = true
 ·have hn : Node K (concS K (beginS K)).2 := ⟨c1.ok hs0,c4 c,c3⟩
  have KE := Kept.mk (fun {W : World} {X : SL} {vT vS : Value} (h : SAt W0 W X K (concS K (beginS K)).2 vT vS) => sc_enter hK hbu (openN (concS K (beginS K)).2 + 1) h hn hT1 (Nat.lt_succ_self _) (by rw [c1.sols];exact Nat.zero_le _) (by rw [c1.nodes];exact Int.le_refl _))
  have HE : Hid (solveS K = (enterF K (openN (concS K (beginS K)).2 + 1) (concS K (beginS K)).2).2) := by unfold Hid solveS;simp only [];rw [if_pos c]
  unfold EnPost at KE
  rw [c] at KC
  generalize solveS K = S at *
  generalize enterF K (openN (concS K (beginS K)).2 + 1) (concS K (beginS K)).2 = R at *
  generalize concS K (beginS K) = CS at *
  clear c1 c2 c3 c4 hs1 hT1 hn c hset hcs hdb hcv hus hs0 hF0 hT0 hbx0
  go_enter Tryz.func37,Tryz.ntmps37
  go_wp2_with (first | (go_at_call 51;refine (KE.get hs2).mono ?_;rintro e w3 ⟨rfl,⟨vT3,vS3,hs3⟩,hf3⟩;obtain ⟨sa,sc,hvS⟩ := own_slice_n hs3.sols.choose_spec.1;subst hvS;have f11 := hs3.f11;have f12 := hs3.f12;have f13 := hs3.f13;have bb := HBX.out w3 hs3.g0;have b0 := cell_of bb 0 _ rfl;have b1 := cell_of bb 1 _ rfl;have b2 := cell_of bb 2 _ rfl;have z0 := frozen_of bb 0;have z1 := frozen_of bb 1;have z2 := frozen_of bb 2;have l3 := hs3.lt.1;have l4 := some_lt bb) | (go_at_call 50;refine (KC.get hs1).mono ?_;rintro e w2 ⟨rfl,⟨vT2,hs2⟩,hf2⟩) | (go_at_call 49;rw [← hW0];refine KB.get.mono ?_;rintro e w1 ⟨X,rfl,hs1⟩))
  refine bodyPost_ret (results_cell_row rfl _ _ w.heap.size 50 #[.slice sa R.2.sols.length sc,.int .i64 R.2.ending,.int .i64 R.2.nodes] (0,0) _ rfl (set3_at bb) Tryz.underlying50 rfl (by kernel_rfl)) rfl ?_
  rw [HE.out]
  exact ⟨_,rfl,sat_told hs3 bb,set3_grown (hg0.trans hs3.g0) (Nat.le_refl _)⟩
 ·have c : (concS K (beginS K)).1 = false := by simpa using c
  have HE : Hid (solveS K = (concS K (beginS K)).2) := by unfold Hid solveS;simp only [];rw [if_neg (by rw [c];decide)]
  rw [c] at KC
  generalize solveS K = S at *
  generalize concS K (beginS K) = CS at *
  clear c1 c2 c3 c4 hs1 hT1 c hset hcs hdb hcv hus hs0 hF0 hT0 hbx0
  go_enter Tryz.func37,Tryz.ntmps37
  go_wp2_with (first | (go_at_call 50;refine (KC.get hs1).mono ?_;rintro e w3 ⟨rfl,⟨vT3,hs3⟩,hf3⟩;have f11 := hs3.f11;have f12 := hs3.f12;have f13 := hs3.f13;have bb := HBX.out w3 hs3.g0;have b0 := cell_of bb 0 _ rfl;have b1 := cell_of bb 1 _ rfl;have b2 := cell_of bb 2 _ rfl;have z0 := frozen_of bb 0;have z1 := frozen_of bb 1;have z2 := frozen_of bb 2;have l3 := hs3.lt.1;have l4 := some_lt bb) | (go_at_call 49;rw [← hW0];refine KB.get.mono ?_;rintro e w1 ⟨X,rfl,hs1⟩))
  refine bodyPost_ret (results_cell_row rfl _ _ w.heap.size 50 #[.slice none 0 0,.int .i64 CS.2.ending,.int .i64 CS.2.nodes] (0,0) _ rfl (set3_at bb) Tryz.underlying50 rfl (by kernel_rfl)) rfl ?_
  rw [HE.out]
  exact ⟨_,rfl,sat_told hs3 bb,set3_grown (hg0.trans hs3.g0) (Nat.le_refl _)⟩
end
section
set_option maxHeartbeats 2000000
set_option maxRecDepth 100000
variable {w w' : World}
theorem md_Solve {b : Nat} {V : List QVar} {C : List QCon} {t : List UInt8} (h : MdAt w b V C t) (hM : MdOk V C) (hdb : DbTab w) (order : Int) (weak : Bool) (budget : Int) (hbu : budget ≤ 9223372036854775807) : Calls Tryz.prog 29 #[.pointer (some ⟨b,0,none⟩),.int .i64 order,.bool weak,.int .i64 budget] w fun e w' => ∃ vS,e = .returned (.agg #[vS,.int .i64 (solveS (mkK V C order weak budget)).ending,.int .i64 (solveS (mkK V C order weak budget)).nodes]) ∧ LLT w' vS (solveS (mkK V C order weak budget)).sols ∧ w.grownBy w' none := by
 obtain ⟨bc,B,vV,vC,cs,h1,h2,h3⟩ := h.set
 obtain ⟨W0,hW0⟩ : ∃ W0,W0 = w.alloc (.cells #[.slice none 0 0,.int .i64 0,.int .i64 0] 50) := ⟨_,rfl⟩
 have hg0 : w.grownBy W0 none := by rw [hW0];exact World.grownBy_alloc _ _ _
 have KS := Kept.mk (sv_Solve (w := W0) (K := mkK V C order weak budget) (h2.grown hg0) h3 (db_grown hdb hg0) (mkK_ok hM.vars hM.vlen hM.cons hM.clen) rfl rfl hbu)
 have hbx0 : W0.heap[w.heap.size]? = some (.cells #[.slice none 0 0,.int .i64 0,.int .i64 0] 50 (0,0)) := by rw [hW0];exact heap_alloc_new _ _
 have HBX : Hid (∀ W',W0.grownBy W' none → W'.heap[w.heap.size]? = some (.cells #[.slice none 0 0,.int .i64 0,.int .i64 0] 50 (0,0))) := fun W' hg => (hg.block _ (some_lt hbx0) (by simp)).trans hbx0
 have hlt := h.lt
 generalize hR : solveS (mkK V C order weak budget) = R at *
 have KS' := Kept.mk (show Calls Tryz.prog 37 #[.pointer (some ⟨bc,1,none⟩),.int .i64 order,.bool weak,.int .i64 budget] W0 fun e w' => ∃ vS,e = .returned (.agg #[vS,.int .i64 R.ending,.int .i64 R.nodes]) ∧ LLT w' vS R.sols ∧ W0.grownBy w' none from KS.get)
 clear KS h h2 h3 hbx0 hdb hM hR
 go_enter Tryz.func29,Tryz.ntmps29
 go_wp2_with (go_at_call 37;rw [← hW0];refine KS'.get.mono ?_;rintro e w3 ⟨vS,rfl,hL,hg3⟩;obtain ⟨sa,sc,hvS⟩ := hL.ll.is;subst hvS;have bb := HBX.out w3 hg3;have b0 := cell_of bb 0 _ rfl;have b1 := cell_of bb 1 _ rfl;have b2 := cell_of bb 2 _ rfl;have z0 := frozen_of bb 0;have z1 := frozen_of bb 1;have z2 := frozen_of bb 2;have l4 := some_lt bb)
 refine bodyPost_ret (results_cell_row rfl _ _ w.heap.size 50 #[.slice sa R.sols.length sc,.int .i64 R.ending,.int .i64 R.nodes] (0,0) _ rfl (set3_at bb) Tryz.underlying50 rfl (by kernel_rfl)) rfl ?_
 exact ⟨_,rfl,hL.turn (keep3 bb),set3_grown (hg0.trans hg3) (Nat.le_refl _)⟩
def rngI (lo hi : Int) : List Int := (List.range (hi - lo + 1).toNat).map fun (k : Nat) => lo + (k : Int)
theorem rngI_mem (lo hi x : Int) : x ∈ rngI lo hi ↔ lo ≤ x ∧ x ≤ hi := by
 unfold rngI
 rw [List.mem_map]
 constructor
 ·rintro ⟨k,hk,rfl⟩
  rw [List.mem_range] at hk
  omega
 ·rintro ⟨h1,h2⟩
  exact ⟨(x - lo).toNat,by rw [List.mem_range];omega,by omega⟩
theorem rngI_nodup (lo hi : Int) : (rngI lo hi).Nodup := by
 unfold rngI List.Nodup
 rw [List.pairwise_map]
 exact List.nodup_range.imp (fun h e => h (by omega))
def boxV : List (Int × Int) → List (List Int)
 | [] => [[]]
 | v :: vs => (rngI v.1 v.2).flatMap fun x => (boxV vs).map (x :: ·)
def bdV (vars : List QVar) : List (Int × Int) := vars.map fun v => (v.low,v.high)
theorem box_mem : ∀ (vars : List QVar) (x : List Int),x ∈ boxV (bdV vars) ↔ asgF vars x = true
 | [],x => by
  cases x with
  | nil => simp [boxV,bdV,asgF]
  | cons a x => simp [boxV,bdV,asgF]
 | v :: vs,x => by
  show x ∈ (rngI v.low v.high).flatMap (fun y => (boxV (bdV vs)).map (y :: ·)) ↔ _
  rw [List.mem_flatMap]
  constructor
  ·rintro ⟨y,hy,hx⟩
   obtain ⟨r,hr,rfl⟩ := List.mem_map.1 hx
   have h1 := (rngI_mem _ _ _).1 hy
   have h2 := (box_mem vs r).1 hr
   simp [asgF,inP,h1,h2]
  ·intro h
   cases x with
   | nil => simp [asgF] at h
   | cons y r =>
    simp only [asgF,Bool.and_eq_true,inP,decide_eq_true_eq] at h
    exact ⟨y,(rngI_mem _ _ _).2 h.1,List.mem_map.2 ⟨r,(box_mem vs r).2 h.2,rfl⟩⟩
theorem box_nodup : ∀ vs : List (Int × Int),(boxV vs).Nodup
 | [] => by simp [boxV]
 | v :: vs => by
  have ih := box_nodup vs
  unfold boxV List.Nodup
  rw [List.pairwise_flatMap]
  refine ⟨fun x _ => ?_,(rngI_nodup v.1 v.2).imp (fun {a b} hab r hr s hs e => ?_)⟩
  ·rw [List.pairwise_map]
   exact ih.imp (fun h e => h (by injection e))
  ·obtain ⟨r',_,rfl⟩ := List.mem_map.1 hr
   obtain ⟨s',_,rfl⟩ := List.mem_map.1 hs
   injection e with e1 e2
   exact hab e1
theorem cnt_rng {lo hi : Int} (h1 : -1000 ≤ lo) (h2 : hi ≤ 1000) : cntD (rngD lo hi) = (rngI lo hi).length := by
 rw [cntD_vals]
 refine List.Perm.length_eq ((List.perm_ext_iff_of_nodup ?_ (rngI_nodup lo hi)).2 (fun x => ?_))
 ·rw [valsD_eq]
  unfold List.Nodup
  rw [List.pairwise_map]
  exact (List.nodup_range.filter _).imp (fun h e => h (by omega))
 ·rw [valsD_mem,rngI_mem]
  constructor
  ·rintro ⟨p,hp,rfl,_⟩
   rw [rngD_bit _ _ h1] at hp
   simp at hp
   omega
  ·rintro ⟨q1,q2⟩
   refine ⟨(x + 1000).toNat,?_,by omega,by omega⟩
   rw [rngD_bit _ _ h1]
   simp
   omega
theorem box_len : ∀ vs : List (Int × Int),(boxV vs).length = vs.foldr (fun v p => (rngI v.1 v.2).length * p) 1
 | [] => rfl
 | v :: vs => by
  have ih := box_len vs
  have key : ∀ (l : List Int),(l.flatMap fun x => (boxV vs).map (x :: ·)).length = l.length * (boxV vs).length := fun l => by
   induction l with
   | nil => simp
   | cons x l ih => rw [List.flatMap_cons,List.length_append,ih,List.length_map,List.length_cons,Nat.succ_mul,Nat.add_comm]
  show ((rngI v.1 v.2).flatMap fun x => (boxV vs).map (x :: ·)).length = (rngI v.1 v.2).length * vs.foldr (fun v p => (rngI v.1 v.2).length * p) 1
  rw [key,ih]
theorem prod_box : ∀ {V : List QVar},(∀ v ∈ V,-1000 ≤ v.low ∧ v.low ≤ v.high ∧ v.high ≤ 1000) → prodV V = (boxV (bdV V)).length
 | [],_ => rfl
 | v :: V,h => by
  have ih := prod_box (V := V) (fun u hu => h u (by simp [hu]))
  rw [box_len] at ih ⊢
  have hv := h v (by simp)
  show cntD (rngD v.low v.high) * prodV V = (rngI v.low v.high).length * (bdV V).foldr (fun v p => (rngI v.1 v.2).length * p) 1
  rw [ih,cnt_rng hv.1 hv.2.2]
structure AllOf (V : List QVar) (C : List QCon) (order : Int) (r : SS) : Prop where
 ending : r.ending = 0
 perm : r.sols.Perm ((boxV (bdV V)).filter (suitsP V C))
 lex : order ≠ 1 → r.sols.Pairwise LexLt
theorem solve_all {V : List QVar} {C : List QCon} (hM : MdOk V C) (order : Int) (weak : Bool) (budget : Int) (hb : (V.length * (boxV (bdV V)).length + 1 : Int) ≤ budget) (hbox : (boxV (bdV V)).length < 100000) : AllOf V C order (solveS (mkK V C order weak budget)) ∧ 0 ≤ (solveS (mkK V C order weak budget)).nodes ∧ (solveS (mkK V C order weak budget)).nodes ≤ budget := by
 have s := solve_ok (mkK_ok (order := order) (weak := weak) (budget := budget) hM.vars hM.vlen hM.cons hM.clen)
 generalize solveS (mkK V C order weak budget) = r at *
 have hp : prodV (mkK V C order weak budget).vars = (boxV (bdV V)).length := prod_box hM.vars
 have hb0 : 0 ≤ budget := by
  have : (0 : Int) ≤ (V.length : Int) * ((boxV (bdV V)).length : Int) := Int.mul_nonneg (Int.natCast_nonneg _) (Int.natCast_nonneg _)
  omega
 have hmem : ∀ x ∈ r.sols,x ∈ boxV (bdV V) ∧ suitsP V C x = true := fun x hx => by
  have q : suitsP V C x = true := s.suits x hx
  exact ⟨(box_mem V x).2 (by unfold suitsP at q;simp at q;exact q.1),q⟩
 have hle : r.sols.length ≤ (boxV (bdV V)).length := by
  have q : r.sols.Perm ((boxV (bdV V)).filter (fun x => decide (x ∈ r.sols))) := (List.perm_ext_iff_of_nodup s.nd ((box_nodup _).filter _)).2 (fun x => by
   rw [List.mem_filter]
   exact ⟨fun h => ⟨(hmem x h).1,by simpa using h⟩,fun h => by simpa using h.2⟩)
  rw [q.length_eq]
  exact List.length_filter_le _ _
 refine ⟨?_,s.lo,s.hi hb0⟩
 rcases s.ends with ⟨e1,e2⟩ | ⟨e1,e2,e3⟩ | ⟨e1,e2,_⟩
 ·refine ⟨e1,(List.perm_ext_iff_of_nodup s.nd ((box_nodup _).filter _)).2 (fun x => ?_),s.lex⟩
  rw [List.mem_filter]
  exact ⟨fun h => hmem x h,fun h => e2 x h.2⟩
 ·rw [hp] at e3
  have e3 : r.nodes < (V.length : Int) * ((boxV (bdV V)).length : Int) + 1 := e3
  have e2 : budget ≤ r.nodes := e2
  omega
 ·omega
end
end Go.Proofs.YthpcbbnabnlanaaGreatDoor
