import Derived.Test.YthpcbbnabnlanaaGreatDoorM20
import Derived.Great.BuildSlice
import Derived.Deep.AppendLies
import Derived.Deep.RegionLaw
namespace Go.Proofs.YthpcbbnabnlanaaGreatDoor
open Go.RowKit
set_option linter.unusedVariables false
set_option linter.unusedSimpArgs false
section
attribute [local go_sem ↓] ld_veil st_veil
variable {w0 w w' w'' : World} {X : SL} {K : SK} {s : SS} {vT vS : Value}
theorem fill_list : ∀ (vs : List Value) (o : Nat) (a : Array Value) (k : Nat),o + k + vs.length ≤ a.size → ((vs.toArray.zipIdx k).foldl (fun cs (p : Value × Nat) => cs.setIfInBounds (o + p.2) p.1) a).toList = a.toList.take (o + k) ++ vs ++ a.toList.drop (o + k + vs.length) := by
 intro vs
 induction vs with
 | nil =>
  intro o a k _
  have e : ((#[] : Array Value).zipIdx k) = #[] := rfl
  simp [e]
 | cons v vs ih =>
  intro o a k h
  simp only [List.length_cons] at h
  have e : ((v :: vs).toArray.zipIdx k).toList = (v,k) :: (vs.toArray.zipIdx (k + 1)).toList := by simp
  rw [← Array.foldl_toList,e,List.foldl_cons,Array.foldl_toList,ih o (a.setIfInBounds (o + k) v) (k + 1) (by simp;omega)]
  rw [Array.toList_setIfInBounds]
  have hlen : o + k < a.toList.length := by simp;omega
  rw [show o + (k + 1) = o + k + 1 by omega,List.take_add_one,List.getElem?_set_self hlen,List.take_set_of_le (Nat.le_refl _)]
  rw [List.drop_set_of_lt (by omega)]
  simp only [List.length_cons,Option.toList_some,List.append_assoc,List.cons_append,List.nil_append]
  rw [show o + k + 1 + vs.length = o + k + (vs.length + 1) by omega]
theorem fill_list0 (vs : List Value) (o : Nat) (a : Array Value) (h : o + vs.length ≤ a.size) : ((vs.toArray.zipIdx).foldl (fun cs (p : Value × Nat) => cs.setIfInBounds (o + p.2) p.1) a).toList = a.toList.take o ++ vs ++ a.toList.drop (o + vs.length) := by
 have := fill_list vs o a 0 (by simpa using h)
 simpa using this
theorem ch_built {v : Int} {c : List Value} (hc : c.length = 32) : Tryz.prog.built 250 [(0,.int .i64 v),(1,.agg c.toArray)] = some (Value.int .i64 v :: c).toArray := by
 obtain ⟨Z,hZ,hs⟩ : ∃ Z : Array Value,(∀ parts,Tryz.prog.built 250 parts = Instr.fill (fun i => #[(0,1),(1,32)][i]?) Z parts) ∧ Z.size = 33 := ⟨(Value.int .i64 0 :: List.replicate 32 (Value.int .u64 0)).toArray,fun parts => by kernel_rfl,by simp⟩
 rw [hZ]
 have hca : c.toArray.size = 32 := by rw [List.size_toArray];exact hc
 have e1 : (Value.agg c.toArray).cells = c.toArray := rfl
 have e0 : (Value.int .i64 v).cells = #[Value.int .i64 v] := rfl
 have q1 := fill_list0 c 1 (Z.setIfInBounds 0 (.int .i64 v)) (by simp [hc,hs])
 have q2 : ((c.toArray.zipIdx).foldl (fun cs (p : Value × Nat) => cs.setIfInBounds (1 + p.2) p.1) (Z.setIfInBounds 0 (.int .i64 v))) = (Value.int .i64 v :: c).toArray := by
  apply Array.toList_inj.1
  rw [q1,Array.toList_setIfInBounds]
  have hz : Z.toList.length = 33 := by simpa using hs
  obtain ⟨z,zs,hzs⟩ : ∃ z zs,Z.toList = z :: zs := by
   cases e : Z.toList with
   | nil => rw [e] at hz;cases hz
   | cons z zs => exact ⟨z,zs,rfl⟩
  rw [hzs] at hz ⊢
  have hl : zs.length = 32 := by simpa using hz
  simp [hc,hl]
 have q3 : (#[Value.int .i64 v].zipIdx).foldl (fun cs (p : Value × Nat) => cs.setIfInBounds (0 + p.2) p.1) Z = Z.setIfInBounds 0 (.int .i64 v) := by simp
 unfold Instr.fill
 simp only [e0,List.getElem?_toArray,List.getElem?_cons_zero]
 rw [if_neg (by simp [hs]),q3]
 unfold Instr.fill
 simp only [e1,List.getElem?_cons_succ,List.getElem?_cons_zero]
 rw [if_neg (by simp [hs,hc]),q2]
 rfl
theorem ch_row {C : List Value} (hC : C.length = 33) (w : World) : Sem.run Tryz.prog (Instr.buildSlice 104 1 #[(0,.agg C.toArray)]) w = .ok (.slice (some ⟨w.heap.size,0,none⟩) 1 1) (w.alloc (.cells C.toArray 250)) := by
 obtain ⟨ie,hie⟩ : ∃ i,Tryz.prog.info? 250 = some i := Option.isSome_iff_exists.1 (by kernel_rfl)
 have hsz : (Tryz.prog.info? 250).map (·.size) = some 33 := by kernel_rfl
 have hzz : ((Tryz.prog.info? 250).bind (·.zero)).isSome = true := by kernel_rfl
 rw [hie] at hsz hzz
 simp only [Option.map_some,Option.some.injEq,Option.bind_some] at hsz hzz
 obtain ⟨z,hz⟩ := Option.isSome_iff_exists.1 hzz
 have hu : Tryz.prog.underlying 104 = some (.slice 250) := by kernel_rfl
 refine run_buildSlice w _ _ 1 _ C.toArray ie z hu hie hz (by rw [hsz];omega) (by rw [hsz];omega) ?_
 rw [hsz]
 have e1 : (Value.agg C.toArray).cells = C.toArray := rfl
 generalize hA : (Array.range (1 * 33)).map (z.cells[· % z.cells.size]!) = A
 have hAs : A.size = 33 := by rw [← hA];simp
 have q1 := fill_list0 C 0 A (by simp [hC,hAs])
 have q2 : ((C.toArray.zipIdx).foldl (fun cs (p : Value × Nat) => cs.setIfInBounds (0 + p.2) p.1) A) = C.toArray := by
  apply Array.toList_inj.1
  rw [q1]
  have hl : A.toList.length = 33 := by simpa using hAs
  simp [hC,hAs]
 show Instr.fill _ A [(0,.agg C.toArray)] = _
 unfold Instr.fill
 simp only [e1]
 rw [if_neg (by simp [hAs,hC]),Nat.zero_mul,q2]
 rfl
def bdS (parts : Array (Nat × Value)) : Sem Value := Instr.build 250 parts
def bsS (n : Nat) (parts : Array (Nat × Value)) : Sem Value := Instr.buildSlice 104 n parts
theorem bd_veil (parts : Array (Nat × Value)) : Instr.build 250 parts = bdS parts := rfl
theorem bs_veil (n : Nat) (parts : Array (Nat × Value)) : Instr.buildSlice 104 n parts = bsS n parts := rfl
theorem bd_run {v : Int} {c : List Value} (hc : c.length = 32) (w : World) : Sem.run Tryz.prog (bdS #[(0,.int .i64 v),(1,.agg c.toArray)]) w = .ok (.agg (Value.int .i64 v :: c).toArray) w := run_build w _ _ _ (ch_built hc)
theorem bs_run {C : List Value} (hC : C.length = 33) (w : World) : Sem.run Tryz.prog (bsS 1 #[(0,.agg C.toArray)]) w = .ok (.slice (some ⟨w.heap.size,0,none⟩) 1 1) (w.alloc (.cells C.toArray 250)) := ch_row hC w
theorem own_apart {B B' : Nat} {e e' : TypeId} {z z' n n' : Nat} {v v' : Value} {xs xs' : List Value} (h : w.ownsRow B e z v n xs) (h' : w.ownsRow B' e' z' v' n' xs') (he : e ≠ e') : v.ownBlock = none ∨ v.ownBlock ≠ v'.ownBlock := by
 rcases h.2 with ⟨rfl,_⟩ | ⟨g,cap,cur,rfl,_,h3,_⟩
 ·exact .inl rfl
 ·right
  intro e1
  rcases h'.2 with ⟨rfl,_⟩ | ⟨g',cap',cur',rfl,_,h3',_⟩
  ·cases e1
  ·have : g = g' := Option.some.inj e1
   subst this
   rw [h3] at h3'
   cases h3'
   exact he rfl
theorem SAt.push (h : SAt w0 w X K s vT vS) {wA : World} {g cap : Nat} {p : Int × Nat} (hg : w.grownBy wA vT.ownBlock) (hat : vT.ownBlock = some g ∨ g = w.heap.size) (hown : wA.ownsRow w0.heap.size 250 33 (.slice (some ⟨g,0,none⟩) (s.trail.length + 1) cap) (s.trail.length + 1) (s.trail.flatMap chCell ++ chCell p)) : SAt w0 (wA.setCell ⟨X.b,7,none⟩ (.slice (some ⟨g,0,none⟩) (s.trail.length + 1) cap)) X K { s with trail := s.trail ++ [p] } (.slice (some ⟨g,0,none⟩) (s.trail.length + 1) cap) vS ∧ FrS X w (wA.setCell ⟨X.b,7,none⟩ (.slice (some ⟨g,0,none⟩) (s.trail.length + 1) cap)) := by
 obtain ⟨n1,n2,n3,n4,n5,n6,n7,n8,n9,n10⟩ := nd_ne h
 have hgn : g ∉ X.own := by
  rcases hat with e | e
  ·exact h.tap g e
  ·subst e;exact h.new_own (Nat.le_refl _)
 have gb := grown_set wA X.b 7 (.slice (some ⟨g,0,none⟩) (s.trail.length + 1) cap)
 -- a block of another type than the trail's
 have typ : ∀ {k : Nat} {c : Array Value} {t : TypeId} {f : Nat × Nat},w.heap[k]? = some (.cells c t f) → t ≠ 250 → wA.heap[k]? = some (.cells c t f) := fun {k c t f} hk ht => by
  refine (hg.block k (some_lt hk) (fun e => ht ?_)).trans hk
  rcases h.trail.2 with ⟨q,_⟩ | ⟨g',cap',cur,q1,q2,q3,_⟩
  ·rw [q] at e;cases e
  ·rw [q1] at e
   have : k = g' := by injection e
   subst this
   rw [hk] at q3
   injection q3 with q3
   injection q3
 have last : ∀ {k : Nat} {o : Obj},wA.heap[k]? = some o → k ≠ X.b → (wA.setCell ⟨X.b,7,none⟩ (.slice (some ⟨g,0,none⟩) (s.trail.length + 1) cap)).heap[k]? = some o := fun {k o} hk hne =>
  (gb.block k (some_lt hk) (fun e => hne (by cases e;rfl))).trans hk
 have ki : ∀ k cells,w.heap[k]? = some (.cells cells 3 (0,0)) → k ∉ X.own → (wA.setCell ⟨X.b,7,none⟩ (.slice (some ⟨g,0,none⟩) (s.trail.length + 1) cap)).heap[k]? = some (.cells cells 3 (0,0)) := fun k c hk hn =>
  last (typ hk (by decide)) (fun e => hn (by rw [e];exact own_b))
 refine ⟨⟨?_,h.low,h.nd,?_,?_,last (typ h.vals (by decide)) n2.symm,last (typ h.fixd (by decide)) n3.symm,last (typ h.mark (by decide)) n4.symm,?_,?_,?_,h.sap,last (typ h.cvb (by decide)) (fun e => h.cap.1 (by rw [e];exact own_b)),h.cvl,fun i v q => (h.cvr i v q).kept ki,last (typ h.usb (by decide)) (fun e => h.cap.2 (by rw [e];exact own_b)),h.usl,fun i v q => (h.usr i v q).kept ki,h.cap,h.set0,h.csK,h.db0⟩,?_⟩
 ·refine grown_new (k := X.b) ?_ (h.low _ own_b) gb
  refine ⟨hg.os.trans h.g0.os,hg.tape.trans h.g0.tape,hg.output.trans h.g0.output,Nat.le_trans h.g0.size hg.size,fun k hk _ => ?_⟩
  refine (hg.block k (Nat.lt_of_lt_of_le hk h.g0.size) (fun e => ?_)).trans (h.g0.block k hk (by simp))
  have := (h.trail.lt k e.symm).1
  omega
 ·exact set_at (typ h.rcd (by decide)) 7 _ rfl
 ·refine h.left.kept fun o ho => ?_
  obtain ⟨c,hc,_⟩ := h.left
  rw [hc] at ho
  cases ho
  exact last (typ hc (by decide)) n1.symm
 ·have q : (s.trail ++ [p]).flatMap chCell = s.trail.flatMap chCell ++ chCell p := by simp
  show World.ownsRow _ _ _ _ _ (s.trail ++ [p]).length _
  rw [List.length_append,List.length_singleton,q]
  exact hown.kept gb (.inr (fun e => hgn (by have : g = X.b := (by injection e);rw [this];exact own_b)))
 ·intro k hk
  have : g = k := by injection hk
  rw [← this];exact hgn
 ·obtain ⟨rows,r1,r2⟩ := h.sols
  refine ⟨rows,?_,fun i v q => (r2 i v q).kept ki⟩
  refine (r1.kept hg (own_apart r1 h.trail (by decide))).kept gb ?_
  cases hv : vS.ownBlock with
  | none => exact .inl rfl
  | some k => exact .inr (fun e => (h.sap k hv).1 (by have : k = X.b := (by injection e);rw [this];exact own_b))
 ·refine ⟨Nat.le_trans hg.size gb.size,fun k o q1 q2 q3 _ => ?_⟩
  refine last ((hg.block k (some_lt q1) (fun e => ?_)).trans q1) (fun e => q2 (by rw [e];exact own_b))
  rcases h.trail.2 with ⟨q,_⟩ | ⟨g',cap',cur,t1,t2,t3,_⟩
  ·rw [q] at e;cases e
  ·rw [t1] at e
   have : k = g' := by injection e
   subst this
   rw [q1] at t3
   exact q3 _ _ (by injection t3)
theorem SAt.mark1 (h : SAt w0 w X K s vT vS) (i : Nat) (b : Bool) : SAt w0 (w.setCell ⟨X.gm,i,none⟩ (.bool b)) X K { s with marked := s.marked.set i b } vT vS ∧ FrS X w (w.setCell ⟨X.gm,i,none⟩ (.bool b)) := by
 obtain ⟨n1,n2,n3,n4,n5,n6,n7,n8,n9,n10⟩ := nd_ne h
 have gs := grown_set w X.gm i (.bool b)
 have keep : ∀ {k : Nat} {o : Obj},w.heap[k]? = some o → k ≠ X.gm → (w.setCell ⟨X.gm,i,none⟩ (.bool b)).heap[k]? = some o := fun {k o} hk hne => (gs.block k (some_lt hk) (fun e => hne (by cases e;rfl))).trans hk
 refine ⟨h.turn (h.g0_turn gs own_gm) (fun k o hk hn => keep hk (fun e => hn (by rw [e];exact own_gm))) (keep h.rcd n4) (h.left.kept fun o ho => keep ho n7) (keep h.vals n9) (keep h.fixd n10) ?_ rfl rfl,FrS.turn gs own_gm⟩
 exact set_at h.mark i (.bool b) (by simp [List.map_set])
theorem SAt.markAt (h : SAt w0 w X K s vT vS) {i : Nat} {b : Bool} (hi : s.marked[i]? = some b) : w.cell? ⟨X.gm,i,none⟩ = some (.bool b) ∧ w.frozen? ⟨X.gm,i,none⟩ = false := ⟨cell_of h.mark i _ (by simp [hi]),frozen_of h.mark i⟩
end
section
set_option maxHeartbeats 8000000
set_option maxRecDepth 100000
attribute [local go_sem ↓] ld_veil st_veil bd_veil bs_veil
variable {w0 w w' w'' : World} {X : SL} {K : SK} {s : SS} {vT vS : Value}
theorem infoCh : (Tryz.prog.info? 250).map (fun i => (i.size,i.bytes)) = some (33,264) := by kernel_rfl
theorem zeroCh : ((Tryz.prog.info? 250).bind (·.zero)).map (fun z => z.cells.size) = some 33 := by kernel_rfl
theorem markL_snoc (l : List Int) (c : Int) (m : List Bool) : markL (l ++ [c]) m = (markL l m).set c.toNat true := by simp [markL]
theorem dc_put {D : Nat} {c : List Value} (hc : DC D c) (h : SAt w0 w X K s vT vS) (hK : KOk K) (hml : s.marked.length = K.cons.length) {v : Int} (hv : PlOk K.vars.length v) (hD : D < 2 ^ 2001) (ht : s.trail.length ≤ 1000000) : Calls Tryz.prog 137 #[.pointer (some ⟨X.b,0,none⟩),.int .i64 v,.agg c.toArray] w fun e w' => e = .returned (.tuple #[]) ∧ (∃ vT',SAt w0 w' X K (putS K v D s) vT' vS) ∧ FrS X w w' := by
 obtain ⟨n1,n2,n3,n4,n5,n6,n7,n8,n9,n10⟩ := nd_ne h
 obtain ⟨I,hI⟩ : ∃ I : Nat,v = (I : Int) := ⟨v.toNat,by have := hv.1;omega⟩
 subst hI
 have hn8 := hK.vlen
 have hI2 : I < K.vars.length := by have := hv.2;omega
 have hb1 : (0 : Int) ≤ I := by omega
 have hb2 : (I : Int) < K.vars.length := by omega
 obtain ⟨d,hd⟩ := dc (s.L (I : Int))
 obtain ⟨i0,hi0⟩ : ∃ i,Tryz.prog.info? 250 = some i := Option.isSome_iff_exists.1 (by kernel_rfl)
 have hz := infoCh
 have hzz := zeroCh
 rw [hi0] at hz hzz
 simp only [Option.map_some,Option.some.injEq,Prod.mk.injEq,Option.bind_some] at hz hzz
 obtain ⟨hz1,hz2⟩ := hz
 obtain ⟨z,hz0,hz3⟩ : ∃ z,i0.zero = some z ∧ z.cells.size = 33 := by
  cases e : i0.zero with
  | none => rw [e] at hzz;cases hzz
  | some z => rw [e] at hzz;exact ⟨z,rfl,by simpa using hzz⟩
 obtain ⟨uv,huv⟩ : ∃ uv,X.us[I]? = some uv := ⟨X.us[I]'(by rw [h.usl];exact hI2),List.getElem?_eq_getElem _⟩
 obtain ⟨ua,uc,hua⟩ := (h.usr I uv huv).is
 subst hua
 obtain ⟨l,hl⟩ : ∃ l,l = K.users.getD I [] := ⟨_,rfl⟩
 rw [← hl] at huv
 have hlp : ∀ c ∈ l,0 ≤ c ∧ c < K.cons.length := fun c hc => by
  rw [hl] at hc
  obtain ⟨a,b,_⟩ := (hK.us I hI2 c).1 hc
  exact ⟨a,b⟩
 have HLP := hide hlp
 have HUV := hide huv
 have HL := hide hl
 have hll : l.length ≤ 3000 := by rw [hl];exact hK.ull I
 clear hlp hl huv
 -- the box,and the world behind the draw
 obtain ⟨W,hW⟩ : ∃ W,W = w.alloc (.cells c.toArray 161) := ⟨_,rfl⟩
 have hWB : BoxC W w.heap.size c := by rw [hW];exact BoxC.new w hc.len
 have hgW : w.grownBy W none := by rw [hW];exact World.grownBy_alloc _ _ _
 have hA0 := h.grown hgW
 have hA := hA0.grown (grown_drew' W none)
 have hNo : w.heap.size ∉ X.own := h.new_own (Nat.le_refl _)
 have r7 := hA.f7
 have r4 := hA.f4
 have ld := ld_range (w := W.drew) (b := X.gl) (o := I * 32) (c := d) (by rw [hd.is];have q := (hA.leftAt hv).1;rw [Int.toNat_natCast] at q;exact q) hd.len
 obtain ⟨C,hC⟩ : ∃ C,C = Value.int .i64 (I : Int) :: d := ⟨_,rfl⟩
 have hCl : C.length = 33 := by rw [hC];simp [hd.len]
 have hCp : C = chCell ((I : Int),s.L (I : Int)) := by rw [hC,hd.is];rfl
 have bd : ∀ w,Sem.run Tryz.prog (bdS #[(0,.int .i64 (I : Int)),(1,.agg d.toArray)]) w = .ok (.agg C.toArray) w := fun w => by rw [hC];exact bd_run hd.len w
 have bs : ∀ w,Sem.run Tryz.prog (bsS 1 #[(0,.agg C.toArray)]) w = .ok (.slice (some ⟨w.heap.size,0,none⟩) 1 1) (w.alloc (.cells C.toArray 250)) := fun w => bs_run hCl w
 have hCo : ∀ u ∈ C,u.oneCell' = true := by rw [hCp];exact ch_one _
 have hszW : W.drew.heap.size = W.heap.size := rfl
 have HOWN : Hid ((W.alloc (.cells C.toArray 250)).drew.ownsRow w0.heap.size 250 33 vT s.trail.length (s.trail.flatMap chCell)) := (hA0.trail.alloc _).kept (grown_drew' _ none) (own_none _)
 have HNEWS : Hid (∀ j u,C[j]? = some u → (W.alloc (.cells C.toArray 250)).drew.cell? ((⟨W.heap.size,0,none⟩ : Addr).add j) = some u) := by
  have q := World.news_of_block (cs := C.toArray) (t := 250) (fr := (0,0)) (heap_alloc_new W _)
  exact fun j u hu => q j u (by simpa using hu)
 have hB0 : w0.heap.size ≤ W.heap.size := (h.g0.trans hgW).size
 have r7b := ((hA0.grown (World.grownBy_alloc W (.cells C.toArray 250) none))).f7
 have KEEP : Hid (∀ wA : World,(W.alloc (.cells C.toArray 250)).drew.grownBy wA vT.ownBlock → wA.cell? ⟨X.b,7,none⟩ = some vT ∧ wA.frozen? ⟨X.b,7,none⟩ = false ∧
   ∀ g cap,wA.ownsRow w0.heap.size 250 33 (.slice (some ⟨g,0,none⟩) (s.trail.length + 1) cap) (s.trail.length + 1) (s.trail.flatMap chCell ++ C) → (vT.ownBlock = some g ∨ g = (W.alloc (.cells C.toArray 250)).drew.heap.size) →
    SAt w0 (wA.setCell ⟨X.b,7,none⟩ (.slice (some ⟨g,0,none⟩) (s.trail.length + 1) cap)) X K { s with trail := s.trail ++ [((I : Int),s.L (I : Int))] } (.slice (some ⟨g,0,none⟩) (s.trail.length + 1) cap) vS ∧ FrS X w (wA.setCell ⟨X.b,7,none⟩ (.slice (some ⟨g,0,none⟩) (s.trail.length + 1) cap)) ∧ BoxC (wA.setCell ⟨X.b,7,none⟩ (.slice (some ⟨g,0,none⟩) (s.trail.length + 1) cap)) w.heap.size c) := fun wA hg => by
  have hA2 := (hA0.grown (World.grownBy_alloc W (.cells C.toArray 250) none)).grown (grown_drew' _ none)
  have hne : some X.b ≠ vT.ownBlock := fun e => h.tap X.b e.symm own_b
  refine ⟨hg.cell hA2.f7 hne,(hg.frozen_far ⟨X.b,7,none⟩ hA2.lt.1 hne).trans (hA2.fz 7),fun g cap ho hat => ?_⟩
  obtain ⟨q1,q2⟩ := hA2.push (p := ((I : Int),s.L (I : Int))) hg hat (by rw [← hCp];exact ho)
  have q3 : FrS X W (W.alloc (.cells C.toArray 250)).drew := FrS.grown ((World.grownBy_alloc _ _ _).trans (grown_drew' _ none))
  exact ⟨q1,(FrS.grown hgW).trans (q3.trans q2),hWB.frs (q3.trans q2) hNo⟩
 have K2 := Kept.mk (fun {W' : World} {s' : SS} {vT' : Value} (q : SAt w0 W' X K s' vT' vS) => dc_set hc q hn8 hv hD)
 have hcl := hc.len
 have HK := hide hK
 have HC := hide hc
 clear h hA hA0 hc hd hWB hgW hC hCp hK
 go_enter Tryz.func137,Tryz.ntmps137
 go_wp2
 rw [← hW]
 clear hW
 go_region_law ((refine step_append_lies _ (by rfl) _ _ 104 (by rfl) w0.heap.size 250 i0 z 33 264 Tryz.underlying104 hi0 hz0 hz1 hz2 hz3 (by decide) vT s.trail.length (s.trail.flatMap chCell) (by rfl) HOWN.out ⟨W.heap.size,0,none⟩ 1 1 C (by rfl) hCl HNEWS.out hCo (by decide) (by unfold maxLen;omega) (by omega) (by simp;omega) _ rfl ?_;intro gA capA wA hownA hgrowA hatA hltA;obtain ⟨q1,q2,q3⟩ := KEEP.out wA hgrowA;obtain ⟨x1,x2,x3⟩ := q3 gA capA hownA hatA))
 all_goals
  have HX := hide x1
  have HX2 := hide x2
  have ldb := ld_range x3.range hcl
  clear HOWN HNEWS KEEP hownA hgrowA hatA hltA q1 q2 q3 x1 x2 x3 ld bd bs r7 r4 r7b
  go_wp2_with (first | (go_at_call 82;refine (K2.get HX.out).mono ?_;rintro e w2 ⟨rfl,hs2,hf2⟩;have r9 := hs2.f9;have k9 : w2.cell? ⟨X.gu,I,none⟩ = some (.slice ua l.length uc) := cell_of hs2.usb I _ (by rw [List.getElem?_toArray];exact HUV.out)))
  have HS2 := hide hs2
  have HF2 := hide (HX2.out.trans hf2)
  clear hs2 hf2 HX HX2 r9 k9
  generalize hS2 : setS (I : Int) D { s with trail := s.trail ++ [((I : Int),s.L (I : Int))] } = s2 at *
  have hm2 : s2.marked = s.marked := by rw [← hS2];rfl
  have HFIN : Hid (putS K (I : Int) D s = { s2 with marked := markL l s2.marked }) := by rw [Hid,← hS2,HL.out];rfl
  have HMD := hide hm2
  clear hS2 hm2
  go_loopw [38] (fun vi wr => ∃ i : Nat,i ≤ l.length ∧ vi = .int .i64 i ∧ SAt w0 wr X K { s2 with marked := markL (l.take i) s2.marked } (.slice (some ⟨gA,0,none⟩) (s.trail.length + 1) capA) vS ∧ FrS X w wr) (fun vi _ => l.length - (intOf vi).toNat)
  case atStart => exact ⟨0,Nat.zero_le _,rfl,HS2.out,HF2.out⟩
  case round =>
   obtain ⟨i,hi,rfl,hat,hfr⟩ := hrel
   by_cases hlt2 : i < l.length
   ·obtain ⟨a,ha⟩ : ∃ a,l[i]? = some a := ⟨l[i],List.getElem?_eq_getElem hlt2⟩
    have hro := hat.usr I _ HUV.out
    rw [← HL.out] at hro
    rcases hro with ⟨e0,_⟩ | ⟨g,cap,cells,h1,h2,h3,h4,h5⟩
    ·rw [e0] at hlt2;simp at hlt2
    obtain rfl : ua = some ⟨g,0,none⟩ := by injection h1
    have k0 : wr.cell? ⟨g,i,none⟩ = some (.int .i64 a) := cell_of h2 i _ (h3 i a ha)
    obtain ⟨a1,a2⟩ := HLP.out a (List.mem_of_getElem? ha)
    have hal : a.toNat < (markL (l.take i) s2.marked).length := by rw [mark_len,HMD.out,hml];omega
    obtain ⟨k1,f1⟩ := hat.markAt (List.getElem?_eq_getElem hal)
    have r10 := hat.f10
    have hlt3 : (i : Int) < l.length := by omega
    have h03 : (0 : Int) ≤ i := by omega
    have HN := hide (hat.mark1 a.toNat true)
    have hsn : Hid ({ s2 with marked := markL (l.take (i + 1)) s2.marked } = ({ s2 with marked := (markL (l.take i) s2.marked).set a.toNat true } : SS)) := by
     rw [Hid,List.take_add_one,ha];exact congrArg (fun m => ({ s2 with marked := m } : SS)) (markL_snoc _ _ _)
    have HFR := hide hfr
    clear hat hfr h1 h2 h3 h4 h5 ha
    go_wp2
    go_roundw
    case rel => exact ⟨i + 1,by omega,by go_num,by rw [hsn.out];exact HN.out.1,HFR.out.trans HN.out.2⟩
    case measure => simp [intOf];omega
   ·obtain rfl : i = l.length := by omega
    rw [List.take_of_length_le (Nat.le_refl _)] at hat
    go_wp2
    go_end0
    rw [HFIN.out]
    exact ⟨rfl,⟨_,hat⟩,hfr⟩
end
section
set_option maxHeartbeats 4000000
set_option maxRecDepth 100000
attribute [local go_sem ↓] ld_veil st_veil
variable {w0 w w' w'' : World} {X : SL} {K : SK} {s : SS} {vT vS : Value}
theorem dc_eq {D E : Nat} {c d : List Value} (hc : DC D c) (hd : DC E d) (hD : D < 2 ^ 2001) (hE : E < 2 ^ 2001) (w : World) : Sem.run Tryz.prog (Op.equalIn 10000 161 (.agg c.toArray) (.agg d.toArray)) w = .ok (D == E) w := by
 rw [hc.is,hd.is,← dArr_dL,← dArr_dL]
 exact run_eq_dom (pow_wider hD) (pow_wider hE) w
theorem keep_none {D : Nat} {c : List Value} (hc : DC D c) (h : SAt w0 w X K s vT vS) (hK : KOk K) (hs : SOk K s) {v : Int} (hv : PlOk K.vars.length v) (hD : D < 2 ^ 2001) (h0 : D = 0) : Calls Tryz.prog 167 #[.pointer (some ⟨X.b,0,none⟩),.int .i64 v,.agg c.toArray] w fun e w' => e = .returned (.bool false) ∧ SAt w0 w' X K s vT vS ∧ FrS X w w' := by
 obtain ⟨I,hI⟩ : ∃ I : Nat,v = (I : Int) := ⟨v.toNat,by have := hv.1;omega⟩
 subst hI
 have hb1 : (0 : Int) ≤ I := by omega
 have hb2 : (I : Int) < K.vars.length := by have := hv.2;omega
 obtain ⟨d,hd⟩ := dc (s.L (I : Int))
 have hL := hs.L_lt hK (I : Int)
 have hE0 : ∀ w,Sem.run Tryz.prog (Op.equalIn 10000 161 (.agg c.toArray) (.agg (dL 0).toArray)) w = .ok (D == 0) w := fun w => dc_eq hc ⟨rfl⟩ hD (Nat.two_pow_pos 2001) w
 rw [dZeroL] at hE0
 obtain ⟨W,hW⟩ : ∃ W,W = w.alloc (.cells c.toArray 161) := ⟨_,rfl⟩
 have hWB : BoxC W w.heap.size c := by rw [hW];exact BoxC.new w hc.len
 have hgW : w.grownBy W none := by rw [hW];exact World.grownBy_alloc _ _ _
 have hA0 := h.grown hgW
 have hcl := hc.len
 have ldb := ld_range (BoxC.new w hcl).range hcl
 have e0 : (D == 0) = true := by simpa using h0
 rw [e0] at hE0
 have HA := hide hA0
 have HG := hide hgW
 clear h hA0 hgW hWB hc hd h0 e0 hs hK
 go_enter Tryz.func167,Tryz.ntmps167
 go_wp2
 go_ret
 rw [← hW]
 exact ⟨rfl,HA.out,FrS.grown HG.out⟩
theorem keep_same {D : Nat} {c : List Value} (hc : DC D c) (h : SAt w0 w X K s vT vS) (hK : KOk K) (hs : SOk K s) {v : Int} (hv : PlOk K.vars.length v) (hD : D < 2 ^ 2001) (h0 : D ≠ 0) (h1 : D = s.L v) : Calls Tryz.prog 167 #[.pointer (some ⟨X.b,0,none⟩),.int .i64 v,.agg c.toArray] w fun e w' => e = .returned (.bool true) ∧ SAt w0 w' X K s vT vS ∧ FrS X w w' := by
 obtain ⟨I,hI⟩ : ∃ I : Nat,v = (I : Int) := ⟨v.toNat,by have := hv.1;omega⟩
 subst hI
 have hb1 : (0 : Int) ≤ I := by omega
 have hb2 : (I : Int) < K.vars.length := by have := hv.2;omega
 obtain ⟨d,hd⟩ := dc (s.L (I : Int))
 have hL := hs.L_lt hK (I : Int)
 have hE0 : ∀ w,Sem.run Tryz.prog (Op.equalIn 10000 161 (.agg c.toArray) (.agg (dL 0).toArray)) w = .ok (D == 0) w := fun w => dc_eq hc ⟨rfl⟩ hD (Nat.two_pow_pos 2001) w
 rw [dZeroL] at hE0
 obtain ⟨W,hW⟩ : ∃ W,W = w.alloc (.cells c.toArray 161) := ⟨_,rfl⟩
 have hWB : BoxC W w.heap.size c := by rw [hW];exact BoxC.new w hc.len
 have hgW : w.grownBy W none := by rw [hW];exact World.grownBy_alloc _ _ _
 have hA0 := h.grown hgW
 have hcl := hc.len
 have ldb := ld_range (BoxC.new w hcl).range hcl
 have hE1 : ∀ w,Sem.run Tryz.prog (Op.equalIn 10000 161 (.agg c.toArray) (.agg d.toArray)) w = .ok (D == s.L (I : Int)) w := fun w => dc_eq hc hd hD hL w
 have hdl := hd.len
 have r4 := hA0.f4
 have rc := hWB.range
 have rd : W.rangeAt X.gl (I * 32) d := by rw [hd.is];have q := (hA0.leftAt hv).1;rw [Int.toNat_natCast] at q;exact q
 have hci := hc.info
 have hdi := hd.info
 have hun := dUnder
 have ld1 : Sem.run Tryz.prog (ldS (.pointer (some ⟨w.heap.size,0,none⟩))) W.drew = .ok (.agg c.toArray) W.drew := ld_range (w := W.drew) rc hcl
 have ld2 : Sem.run Tryz.prog (ldS (.pointer (some ⟨X.gl,I * 32,none⟩))) W.drew = .ok (.agg d.toArray) W.drew := ld_range (w := W.drew) rd hdl
 have e0 : (D == 0) = false := by simpa using h0
 have e1 : (D == s.L (I : Int)) = true := by simpa using h1
 rw [e0] at hE0
 rw [e1] at hE1
 have HA := hide hA0
 have HG := hide hgW
 clear h hA0 hgW hWB hc hd h0 e0 h1 e1 hs hK rc rd
 go_enter Tryz.func167,Tryz.ntmps167
 go_wp2
 rw [← hW]
 clear hW
 go_region_with (fail)
 all_goals
  go_wp2
  go_ret
  exact ⟨rfl,HA.out.grown (grown_drew' _ _),FrS.grown (HG.out.trans (grown_drew' _ _))⟩
theorem keep_put {D : Nat} {c : List Value} (hc : DC D c) (h : SAt w0 w X K s vT vS) (hK : KOk K) (hs : SOk K s) {v : Int} (hv : PlOk K.vars.length v) (hD : D < 2 ^ 2001) (h0 : D ≠ 0) (h1 : D ≠ s.L v) (ht : s.trail.length ≤ 1000000) : Calls Tryz.prog 167 #[.pointer (some ⟨X.b,0,none⟩),.int .i64 v,.agg c.toArray] w fun e w' => e = .returned (.bool true) ∧ (∃ vT',SAt w0 w' X K (putS K v D s) vT' vS) ∧ FrS X w w' := by
 obtain ⟨I,hI⟩ : ∃ I : Nat,v = (I : Int) := ⟨v.toNat,by have := hv.1;omega⟩
 subst hI
 have hb1 : (0 : Int) ≤ I := by omega
 have hb2 : (I : Int) < K.vars.length := by have := hv.2;omega
 obtain ⟨d,hd⟩ := dc (s.L (I : Int))
 have hL := hs.L_lt hK (I : Int)
 have hE0 : ∀ w,Sem.run Tryz.prog (Op.equalIn 10000 161 (.agg c.toArray) (.agg (dL 0).toArray)) w = .ok (D == 0) w := fun w => dc_eq hc ⟨rfl⟩ hD (Nat.two_pow_pos 2001) w
 rw [dZeroL] at hE0
 obtain ⟨W,hW⟩ : ∃ W,W = w.alloc (.cells c.toArray 161) := ⟨_,rfl⟩
 have hWB : BoxC W w.heap.size c := by rw [hW];exact BoxC.new w hc.len
 have hgW : w.grownBy W none := by rw [hW];exact World.grownBy_alloc _ _ _
 have hA0 := h.grown hgW
 have hcl := hc.len
 have ldb := ld_range (BoxC.new w hcl).range hcl
 have hE1 : ∀ w,Sem.run Tryz.prog (Op.equalIn 10000 161 (.agg c.toArray) (.agg d.toArray)) w = .ok (D == s.L (I : Int)) w := fun w => dc_eq hc hd hD hL w
 have hdl := hd.len
 have r4 := hA0.f4
 have rc := hWB.range
 have rd : W.rangeAt X.gl (I * 32) d := by rw [hd.is];have q := (hA0.leftAt hv).1;rw [Int.toNat_natCast] at q;exact q
 have hci := hc.info
 have hdi := hd.info
 have hun := dUnder
 have ld1 : Sem.run Tryz.prog (ldS (.pointer (some ⟨w.heap.size,0,none⟩))) W.drew = .ok (.agg c.toArray) W.drew := ld_range (w := W.drew) rc hcl
 have ld2 : Sem.run Tryz.prog (ldS (.pointer (some ⟨X.gl,I * 32,none⟩))) W.drew = .ok (.agg d.toArray) W.drew := ld_range (w := W.drew) rd hdl
 have e0 : (D == 0) = false := by simpa using h0
 have e1 : (D == s.L (I : Int)) = false := by simpa using h1
 rw [e0] at hE0
 rw [e1] at hE1
 have K1 := Kept.mk (fun {W' : World} (q : SAt w0 W' X K s vT vS) => dc_put hc q hK hs.ml hv hD ht)
 have HA := hide hA0
 have HG := hide hgW
 clear h hA0 hgW hWB hc hd h0 e0 h1 e1 hs hK rc rd
 go_enter Tryz.func167,Tryz.ntmps167
 go_wp2
 rw [← hW]
 clear hW
 go_region_with (fail)
 all_goals
  go_wp2_with (first | (go_at_call 137;refine (K1.get (HA.out.grown (grown_drew' _ _))).mono ?_;rintro e w2 ⟨rfl,hs2,hf2⟩))
  go_ret
  exact ⟨rfl,hs2,(FrS.grown (HG.out.trans (grown_drew' _ _))).trans hf2⟩
theorem dc_keep {D : Nat} {c : List Value} (hc : DC D c) (h : SAt w0 w X K s vT vS) (hK : KOk K) (hs : SOk K s) {v : Int} (hv : PlOk K.vars.length v) (hD : D < 2 ^ 2001) (ht : s.trail.length ≤ 1000000) : Calls Tryz.prog 167 #[.pointer (some ⟨X.b,0,none⟩),.int .i64 v,.agg c.toArray] w fun e w' => e = .returned (.bool (keepS K v D s).1) ∧ (∃ vT',SAt w0 w' X K (keepS K v D s).2 vT' vS) ∧ FrS X w w' := by
 unfold keepS
 by_cases h0 : D = 0
 ·rw [if_pos h0]
  refine (keep_none hc h hK hs hv hD h0).mono ?_
  rintro e w' ⟨rfl,h1,h2⟩
  exact ⟨rfl,⟨_,h1⟩,h2⟩
 ·rw [if_neg h0]
  by_cases h1 : D = s.L v
  ·rw [if_pos h1]
   refine (keep_same hc h hK hs hv hD h0 h1).mono ?_
   rintro e w' ⟨rfl,h1,h2⟩
   exact ⟨rfl,⟨_,h1⟩,h2⟩
  ·rw [if_neg h1]
   exact keep_put hc h hK hs hv hD h0 h1 ht
end
section
set_option maxHeartbeats 8000000
set_option maxRecDepth 100000
attribute [local go_sem ↓] ld_veil st_veil
variable {w0 w w' w'' : World} {X : SL} {K : SK} {s : SS} {vT vS : Value}
theorem wpAny_tk {P : Program} {ops : Array Oper} {Q : Exit → Act → World → Prop} {md : Region.Mode} {i : Nat} {oi : Oper} {v : Value} {fuel : Nat} {listed : Array Bool} {a : Act} {w : World} (d : Option Tmp) (hi : ops[i]? = some oi) (hd : oi.dst = d) (hs : Region.noSelect ops = true) (hf : Region.free md ops listed i = true) (hr : (Region.ready md ops listed).contains i = true) (hQ : ∀ c a w,Q (.panic c) (a.put d v) w → Q (.panic c) a w) (hy : Yields P ops oi v a) (h : wpAny P md ops Q fuel (listed.setIfInBounds i true) (a.put d v) w) : wpAny P md ops Q (fuel + 1) listed a w := by
 subst hd
 exact wpAny_take hi hs hf hr hQ hy h
theorem tkY {P : Program} {ops : Array Oper} {Q : Exit → Act → World → Prop} {md : Region.Mode} {i : Nat} {oi : Oper} {v : Value} {fuel : Nat} {listed : Array Bool} {a : Act} {w : World} (d : Nat) (hi : ops[i]? = some oi) (hd : oi.dst = some d) (hc : (Region.noSelect ops && Region.free md ops listed i && (Region.ready md ops listed).contains i) = true) (hQ : ∀ c a w,Q (.panic c) (a.put (some d) v) w → Q (.panic c) a w) (hy : Yields P ops oi v a) (h : wpAny P md ops Q fuel (listed.setIfInBounds i true) (a.put (some d) v) w) : wpAny P md ops Q (fuel + 1) listed a w := by
 simp only [Bool.and_eq_true] at hc
 exact wpAny_tk (some d) hi hd hc.1.1 hc.1.2 hc.2 hQ hy h
theorem tqZ {P : Program} {ops : Array Oper} {Q : Exit → Act → World → Prop} {md : Region.Mode} {oi : Oper} {v : Value} {fuel : Nat} {listed : Array Bool} {a : Act} {w : World} (i d : Nat) (hy : ∀ w,(execOp a.eval oi).run P w = .ok (.value v) w) (h : wpAny P md ops Q fuel (listed.setIfInBounds i true) (a.put (some d) v) w) (hi : ops[i]? = some oi := by rfl) (hd : oi.dst = some d := by rfl) (hg : Region.wanted oi (yielded ops a.tmps) = true := by rfl) (hc : (Region.noSelect ops && Region.free md ops listed i && (Region.ready md ops listed).contains i) = true := by kernel_rfl) (hQ : ∀ c a w,Q (.panic c) (a.put (some d) v) w → Q (.panic c) a w := by exact fun _ _ _ h => h) : wpAny P md ops Q (fuel + 1) listed a w := by
 simp only [Bool.and_eq_true] at hc
 exact wpAny_tk (some d) hi hd hc.1.1 hc.1.2 hc.2 hQ (Or.inl ⟨hg,hy⟩) h
def TB (s : SS) : Prop := s.trail.length + (s.left.map cntD).sum ≤ 1000000 ∧ ∀ p ∈ s.trail,0 ≤ p.1 ∧ p.1 < s.left.length ∧ p.2 < 2 ^ 2001
theorem TB.le (h : TB s) : s.trail.length ≤ 1000000 := by have := h.1;omega
theorem put_tb (hK : KOk K) (hs : SOk K s) {v : Int} (hv : PlOk K.vars.length v) {D : Nat} (hsub : ∀ j,D.testBit j = true → (s.L v).testBit j = true) (hne : D ≠ s.L v) (h : TB s) : TB (putS K v D s) := by
 have hl : v.toNat < s.left.length := by have := hs.ll;have := hv.1;have := hv.2;omega
 have q := sum_set (f := cntD) hl (cnt_lt (hs.L_lt hK v) hsub hne)
 obtain ⟨h1,h2⟩ := h
 refine ⟨?_,fun p hp => ?_⟩
 ·simp only [putS,List.length_append,List.length_singleton]
  omega
 ·simp only [putS,List.length_set]
  rcases List.mem_append.1 hp with e | e
  ·exact h2 p e
  ·have : p = (v,s.L v) := by simpa using e
   subst this
   exact ⟨hv.1,by simp only [];have := hv.1;omega,hs.L_lt hK v⟩
theorem keep_tb (hK : KOk K) (hs : SOk K s) {v : Int} (hv : PlOk K.vars.length v) {D : Nat} (hsub : ∀ j,D.testBit j = true → (s.L v).testBit j = true) (h : TB s) : TB (keepS K v D s).2 := by
 unfold keepS
 split
 ·exact h
 ·split
  ·exact h
  ·rename_i q;exact put_tb hK hs hv hsub q h
def XRow (X : SL) (w : World) (v : Value) (l : List Int) : Prop := (l = [] ∧ ∃ a c,v = .slice a 0 c) ∨ ∃ (g off cap : Nat) (cells : Array Value),v = .slice (some ⟨g,off,none⟩) l.length cap ∧ w.heap[g]? = some (.cells cells 3 (0,0)) ∧ (∀ (j : Nat) (x : Int),l[j]? = some x → cells[off + j]? = some (Value.int .i64 x)) ∧ g ∉ X.own
theorem XRow.kept {v : Value} {l : List Int} (h : XRow X w v l) (hf : FrS X w w') : XRow X w' v l := by
 rcases h with h | ⟨g,off,cap,cells,h1,h2,h3,h4⟩
 ·exact .inl h
 ·exact .inr ⟨g,off,cap,cells,h1,hf.block g _ h2 h4 (fun _ _ e => by cases e) (fun _ _ e => by cases e),h3,h4⟩
theorem XRow.is {v : Value} {l : List Int} (h : XRow X w v l) : ∃ a c,v = .slice a l.length c := by
 rcases h with ⟨rfl,a,c,e⟩ | ⟨g,off,cap,cells,h1,_⟩
 ·exact ⟨a,c,e⟩
 ·exact ⟨_,_,h1⟩
theorem sub_lt {D E : Nat} (hD : D < 2 ^ 2001) : subD D E < 2 ^ 2001 := lt_of_bits (k := 2001) fun j hj => bit_lt (by rw [subD_bit] at hj;simp at hj;exact hj.1) hD
theorem sub_sub {D E : Nat} : ∀ j,(subD D E).testBit j = true → D.testBit j = true := fun j h => by rw [subD_bit] at h;simp at h;exact h.1
def TakeRel (w0 w : World) (X : SL) (K : SK) (a : Int) (l : List Int) (vS : Value) (R : Bool × SS) (vi : Value) (wr : World) : Prop :=
 ∃ (i : Nat) (s : SS) (vT : Value),i ≤ l.length ∧ vi = .int .i64 i ∧ SAt w0 wr X K s vT vS ∧ SOk K s ∧ TB s ∧ FrS X w wr ∧ takeS K a (l.drop i) s = R
theorem sc_take (h : SAt w0 w X K s vT vS) (hK : KOk K) (hs : SOk K s) (hT : TB s) {a : Int} (ha1 : -1000 ≤ a) (ha2 : a ≤ 1000) {vv : Value} {l : List Int} (hl : XRow X w vv l) (hp : ∀ v ∈ l,PlOk K.vars.length v) (hll : l.length ≤ 3000) : Calls Tryz.prog 172 #[.pointer (some ⟨X.b,0,none⟩),.int .i64 a,vv] w fun e w' => e = .returned (.bool (takeS K a l s).1) ∧ (∃ vT',SAt w0 w' X K (takeS K a l s).2 vT' vS) ∧ FrS X w w' := by
 obtain ⟨R,hR⟩ : ∃ R,takeS K a l s = R := ⟨_,rfl⟩
 rw [hR]
 have HST : Hid (TakeRel w0 w X K a l vS R (.int .i64 0) w) := ⟨0,s,vT,Nat.zero_le _,rfl,h,hs,hT,FrS.refl X w,hR⟩
 obtain ⟨va,vc,rfl⟩ := hl.is
 have HL := hide hl
 have HP := hide hp
 have HK := hide hK
 clear h hs hT hl hp hK hR
 go_enter Tryz.func172,Tryz.ntmps172
 go_wp2
 go_loopw [11] (fun vi wr => TakeRel w0 w X K a l vS R vi wr) (fun vi _ => l.length - (intOf vi).toNat)
 case atStart => exact HST.out
 case round =>
  clear HST
  obtain ⟨i,si,vTi,hi,rfl,hat,hso,htb,hfr,hres⟩ := hrel
  by_cases hlt2 : i < l.length
  ·obtain ⟨v,ha⟩ : ∃ v,l[i]? = some v := ⟨l[i],List.getElem?_eq_getElem hlt2⟩
   have hdr : l.drop i = v :: l.drop (i + 1) := by
    rw [List.drop_eq_getElem_cons hlt2]
    congr 1
    rw [List.getElem?_eq_getElem hlt2] at ha
    exact Option.some.inj ha
   rcases HL.out.kept hfr with ⟨e0,_⟩ | ⟨g,off,cap,cells,h1,h2,h3,h4⟩
   ·rw [e0] at hlt2;simp at hlt2
   obtain rfl : va = some ⟨g,off,none⟩ := by injection h1
   have k0 : wr.cell? ⟨g,off + i,none⟩ = some (.int .i64 v) := cell_of h2 _ _ (h3 i v ha)
   have hpv := HP.out v (List.mem_of_getElem? ha)
   have hb1 := hpv.1
   have hb2 := hpv.2
   have hlt3 : (i : Int) < l.length := by omega
   have h03 : (0 : Int) ≤ i := by omega
   obtain ⟨d,hd⟩ := dc (si.L v)
   have hdl := hd.len
   have HW : Hid (∀ w1 : World,wr.grownBy w1 none → w1.cell? ⟨X.b,4,none⟩ = some (.slice (some ⟨X.gl,0,none⟩) K.vars.length K.vars.length) ∧ Sem.run Tryz.prog (ldS (.pointer (some ⟨X.gl,v.toNat * 32,none⟩))) w1 = .ok (.agg d.toArray) w1 ∧ SAt w0 w1 X K si vTi vS) := fun w1 hg => by
    have hA := hat.grown hg
    exact ⟨hA.f4,ld_range (by rw [hd.is];exact (hA.leftAt hpv).1) hd.len,hA⟩
   obtain ⟨c4,_,_⟩ := HW.out wr (grown_refl _ _)
   obtain ⟨_,ld0,_⟩ := HW.out wr.drew (grown_drew' _ _)
   have KH := Kept.mk (fun W => dc_Has hd a ha1 ha2 W)
   by_cases ch : hasD (si.L v) a = true
   ·have HRES : Hid ((let k := keepS K v (subD (si.L v) (bitV a)) si;if k.1 then takeS K a (l.drop (i + 1)) k.2 else k) = R) := by
     rw [Hid,← hres,hdr,takeS,if_pos ch]
    obtain ⟨o,ho⟩ := dc (bitV a)
    obtain ⟨r,hr⟩ := dc (subD (si.L v) (bitV a))
    have KO := Kept.mk (fun W => dc_Only ho ha1 ha2 W)
    have KW := Kept.mk (fun W => dc_Without hd ho hr W)
    have KK := Kept.mk (fun {W' : World} (q : SAt w0 W' X K si vTi vS) => dc_keep hr q HK.out hso hpv (sub_lt (hso.L_lt HK.out v)) htb.le)
    have HSO : Hid (SOk K (keepS K v (subD (si.L v) (bitV a)) si).2 ∧ TB (keepS K v (subD (si.L v) (bitV a)) si).2) :=
     ⟨(keep_ok HK.out hso hpv sub_sub).1.ok hso,keep_tb HK.out hso hpv sub_sub htb⟩
    rw [ch] at KH
    generalize keepS K v (subD (si.L v) (bitV a)) si = k at *
    have HFR := hide hfr
    clear hat hso htb hfr hres h1 h2 h3 h4 ha hdr hd ho hr hpv ch
    cases hk : k.1 with
    | true =>
     rw [hk] at KK
     have HR2 : Hid (takeS K a (l.drop (i + 1)) k.2 = R) := by rw [Hid,← HRES.out];simp only [hk,if_true]
     clear hk HRES
     go_wp2
     refine wp_region_any (by kernel_rfl) ?_
     try (change wpAny _ _ _ _ _ _ _ (World.drew _))
     apply tqZ 0 15
     ·(intro w;go_simp;try with_reducible rfl)
     (try simp only [Act.put,arS,arZ,arN])
     apply tqZ 1 16
     ·(intro w;go_simp;try with_reducible rfl)
     (try simp only [Act.put,arS,arZ,arN])
     apply tqZ 2 17
     ·(intro w;go_simp;try with_reducible rfl)
     (try simp only [Act.put,arS,arZ,arN])
     apply tqZ 4 19
     ·(intro w;go_simp;try with_reducible rfl)
     (try simp only [Act.put,arS,arZ,arN])
     apply tqZ 7 22
     ·(intro w;go_simp;try with_reducible rfl)
     (try simp only [Act.put,arS,arZ,arN])
     refine wpAny_ready (rs := [3]) (by kernel_rfl) (by simp) ?_
     refine AllReady.cons rfl (fun K hK => ?_) AllReady.nil
     go_simp
     refine hK _ _ ?_
     clear hK K
     apply tqZ 5 20
     ·(intro w;go_simp;try with_reducible rfl)
     (try simp only [Act.put,arS,arZ,arN])
     refine wpAny_ready (rs := [6]) (by kernel_rfl) (by simp) ?_
     refine AllReady.cons rfl (fun K hK => ?_) AllReady.nil
     go_simp
     refine hK _ _ ?_
     clear hK K
     refine wpAny_ready (rs := [8]) (by kernel_rfl) (by simp) ?_
     refine AllReady.cons rfl (fun K hK => ?_) AllReady.nil
     go_simp
     go_wp2_with ((go_at_call 169;refine (KH.get _).mono ?_;rintro e w2 ⟨rfl,hg2⟩;have hgH := (grown_drew' wr none).trans hg2;obtain ⟨c42,ld2,_⟩ := HW.out w2 hgH))
     apply tqZ 9 24
     ·(intro w;go_simp;try with_reducible rfl)
     (try simp only [Act.put,arS,arZ,arN])
     apply tqZ 10 25
     ·(intro w;go_simp;try with_reducible rfl)
     (try simp only [Act.put,arS,arZ,arN])
     apply tqZ 11 26
     ·(intro w;go_simp;try with_reducible rfl)
     (try simp only [Act.put,arS,arZ,arN])
     apply tqZ 12 27
     ·(intro w;go_simp;try with_reducible rfl)
     (try simp only [Act.put,arS,arZ,arN])
     apply tqZ 13 28
     ·(intro w;go_simp;try with_reducible rfl)
     (try simp only [Act.put,arS,arZ,arN])
     apply tqZ 14 29
     ·(intro w;go_simp;try with_reducible rfl)
     (try simp only [Act.put,arS,arZ,arN])
     apply tqZ 16 31
     ·(intro w;go_simp;try with_reducible rfl)
     (try simp only [Act.put,arS,arZ,arN])
     apply tqZ 19 34
     ·(intro w;go_simp;try with_reducible rfl)
     (try simp only [Act.put,arS,arZ,arN])
     refine wpAny_ready (rs := [15,20]) (by kernel_rfl) (by simp) ?_
     refine AllReady.cons rfl (fun K hK => ?_) (AllReady.cons rfl (fun K hK => ?_) AllReady.nil)
     ·go_simp
      refine hK _ _ ?_
      clear hK K
      apply tqZ 17 32
      ·(intro w;go_simp;try with_reducible rfl)
      (try simp only [Act.put,arS,arZ,arN])
      refine wpAny_ready (rs := [18,20]) (by kernel_rfl) (by simp) ?_
      refine AllReady.cons rfl (fun K hK => ?_) (AllReady.cons rfl (fun K hK => ?_) AllReady.nil)
      ·go_simp
       refine hK _ _ ?_
       clear hK K
       refine wpAny_ready (rs := [20]) (by kernel_rfl) (by simp) ?_
       refine AllReady.cons rfl (fun K hK => ?_) AllReady.nil
       go_simp
       go_wp2_with ((go_at_call 138;refine (KO.get _).mono ?_;rintro e w3 ⟨rfl,hg3⟩;obtain ⟨c43,ld3,hA2⟩ := HW.out w3 (hgH.trans hg3)))
       refine wpAny_ready (rs := [21]) (by kernel_rfl) (by simp) ?_
       refine AllReady.cons rfl (fun K hK => ?_) AllReady.nil
       go_simp
       go_wp2_with ((go_at_call 198;refine (KW.get _).mono ?_;rintro e w4 ⟨rfl,hg4⟩))
       refine wpAny_ready (rs := [22]) (by kernel_rfl) (by simp) ?_
       refine AllReady.cons rfl (fun K hK => ?_) AllReady.nil
       go_simp
       go_wp2_with ((go_at_call 167;refine (KK.get (hA2.grown hg4)).mono ?_;rintro e w5 ⟨rfl,hs5,hf5⟩))
       apply tqZ 23 38
       ·(intro w;go_simp;try with_reducible rfl)
       (try simp only [Act.put,arS,arZ,arN])
       apply tqZ 24 39
       ·(intro w;go_simp;try with_reducible rfl)
       (try simp only [Act.put,arS,arZ,arN])
       refine wpAny_done (by kernel_rfl) ?_ _
       go_wp2
       go_roundw
       case rel =>
        obtain ⟨vT5,hs5⟩ := hs5
        exact ⟨i + 1,k.2,vT5,by omega,by go_num,hs5,HSO.out.1,HSO.out.2,(HFR.out.trans (FrS.grown ((hgH.trans hg3).trans hg4))).trans hf5,HR2.out⟩
       case measure => simp [intOf];omega
      ·go_simp
       go_wp2_with ((go_at_call 138;refine (KO.get _).mono ?_;rintro e w3 ⟨rfl,hg3⟩;obtain ⟨c43,ld3,hA2⟩ := HW.out w3 (hgH.trans hg3)))
       refine wpAny_ready (rs := [18]) (by kernel_rfl) (by simp) ?_
       refine AllReady.cons rfl (fun K hK => ?_) AllReady.nil
       go_simp
       refine hK _ _ ?_
       clear hK K
       refine wpAny_ready (rs := [21]) (by kernel_rfl) (by simp) ?_
       refine AllReady.cons rfl (fun K hK => ?_) AllReady.nil
       go_simp
       go_wp2_with ((go_at_call 198;refine (KW.get _).mono ?_;rintro e w4 ⟨rfl,hg4⟩))
       refine wpAny_ready (rs := [22]) (by kernel_rfl) (by simp) ?_
       refine AllReady.cons rfl (fun K hK => ?_) AllReady.nil
       go_simp
       go_wp2_with ((go_at_call 167;refine (KK.get (hA2.grown hg4)).mono ?_;rintro e w5 ⟨rfl,hs5,hf5⟩))
       apply tqZ 23 38
       ·(intro w;go_simp;try with_reducible rfl)
       (try simp only [Act.put,arS,arZ,arN])
       apply tqZ 24 39
       ·(intro w;go_simp;try with_reducible rfl)
       (try simp only [Act.put,arS,arZ,arN])
       refine wpAny_done (by kernel_rfl) ?_ _
       go_wp2
       go_roundw
       case rel =>
        obtain ⟨vT5,hs5⟩ := hs5
        exact ⟨i + 1,k.2,vT5,by omega,by go_num,hs5,HSO.out.1,HSO.out.2,(HFR.out.trans (FrS.grown ((hgH.trans hg3).trans hg4))).trans hf5,HR2.out⟩
       case measure => simp [intOf];omega
     ·go_simp
      go_wp2_with ((go_at_call 138;refine (KO.get _).mono ?_;rintro e w3 ⟨rfl,hg3⟩;obtain ⟨c43,ld3,hA2⟩ := HW.out w3 (hgH.trans hg3)))
      refine wpAny_ready (rs := [15]) (by kernel_rfl) (by simp) ?_
      refine AllReady.cons rfl (fun K hK => ?_) AllReady.nil
      go_simp
      refine hK _ _ ?_
      clear hK K
      apply tqZ 17 32
      ·(intro w;go_simp;try with_reducible rfl)
      (try simp only [Act.put,arS,arZ,arN])
      refine wpAny_ready (rs := [18]) (by kernel_rfl) (by simp) ?_
      refine AllReady.cons rfl (fun K hK => ?_) AllReady.nil
      go_simp
      refine hK _ _ ?_
      clear hK K
      refine wpAny_ready (rs := [21]) (by kernel_rfl) (by simp) ?_
      refine AllReady.cons rfl (fun K hK => ?_) AllReady.nil
      go_simp
      go_wp2_with ((go_at_call 198;refine (KW.get _).mono ?_;rintro e w4 ⟨rfl,hg4⟩))
      refine wpAny_ready (rs := [22]) (by kernel_rfl) (by simp) ?_
      refine AllReady.cons rfl (fun K hK => ?_) AllReady.nil
      go_simp
      go_wp2_with ((go_at_call 167;refine (KK.get (hA2.grown hg4)).mono ?_;rintro e w5 ⟨rfl,hs5,hf5⟩))
      apply tqZ 23 38
      ·(intro w;go_simp;try with_reducible rfl)
      (try simp only [Act.put,arS,arZ,arN])
      apply tqZ 24 39
      ·(intro w;go_simp;try with_reducible rfl)
      (try simp only [Act.put,arS,arZ,arN])
      refine wpAny_done (by kernel_rfl) ?_ _
      go_wp2
      go_roundw
      case rel =>
       obtain ⟨vT5,hs5⟩ := hs5
       exact ⟨i + 1,k.2,vT5,by omega,by go_num,hs5,HSO.out.1,HSO.out.2,(HFR.out.trans (FrS.grown ((hgH.trans hg3).trans hg4))).trans hf5,HR2.out⟩
      case measure => simp [intOf];omega
    | false =>
     rw [hk] at KK
     have HR2 : Hid (k = R) := by rw [Hid,← HRES.out];simp only [hk];rfl
     have hk1 : R.1 = false := by rw [← HR2.out];exact hk
     clear hk HRES
     go_wp2
     refine wp_region_any (by kernel_rfl) ?_
     try (change wpAny _ _ _ _ _ _ _ (World.drew _))
     apply tqZ 0 15
     ·(intro w;go_simp;try with_reducible rfl)
     (try simp only [Act.put,arS,arZ,arN])
     apply tqZ 1 16
     ·(intro w;go_simp;try with_reducible rfl)
     (try simp only [Act.put,arS,arZ,arN])
     apply tqZ 2 17
     ·(intro w;go_simp;try with_reducible rfl)
     (try simp only [Act.put,arS,arZ,arN])
     apply tqZ 4 19
     ·(intro w;go_simp;try with_reducible rfl)
     (try simp only [Act.put,arS,arZ,arN])
     apply tqZ 7 22
     ·(intro w;go_simp;try with_reducible rfl)
     (try simp only [Act.put,arS,arZ,arN])
     refine wpAny_ready (rs := [3]) (by kernel_rfl) (by simp) ?_
     refine AllReady.cons rfl (fun K hK => ?_) AllReady.nil
     go_simp
     refine hK _ _ ?_
     clear hK K
     apply tqZ 5 20
     ·(intro w;go_simp;try with_reducible rfl)
     (try simp only [Act.put,arS,arZ,arN])
     refine wpAny_ready (rs := [6]) (by kernel_rfl) (by simp) ?_
     refine AllReady.cons rfl (fun K hK => ?_) AllReady.nil
     go_simp
     refine hK _ _ ?_
     clear hK K
     refine wpAny_ready (rs := [8]) (by kernel_rfl) (by simp) ?_
     refine AllReady.cons rfl (fun K hK => ?_) AllReady.nil
     go_simp
     go_wp2_with ((go_at_call 169;refine (KH.get _).mono ?_;rintro e w2 ⟨rfl,hg2⟩;have hgH := (grown_drew' wr none).trans hg2;obtain ⟨c42,ld2,_⟩ := HW.out w2 hgH))
     apply tqZ 9 24
     ·(intro w;go_simp;try with_reducible rfl)
     (try simp only [Act.put,arS,arZ,arN])
     apply tqZ 10 25
     ·(intro w;go_simp;try with_reducible rfl)
     (try simp only [Act.put,arS,arZ,arN])
     apply tqZ 11 26
     ·(intro w;go_simp;try with_reducible rfl)
     (try simp only [Act.put,arS,arZ,arN])
     apply tqZ 12 27
     ·(intro w;go_simp;try with_reducible rfl)
     (try simp only [Act.put,arS,arZ,arN])
     apply tqZ 13 28
     ·(intro w;go_simp;try with_reducible rfl)
     (try simp only [Act.put,arS,arZ,arN])
     apply tqZ 14 29
     ·(intro w;go_simp;try with_reducible rfl)
     (try simp only [Act.put,arS,arZ,arN])
     apply tqZ 16 31
     ·(intro w;go_simp;try with_reducible rfl)
     (try simp only [Act.put,arS,arZ,arN])
     apply tqZ 19 34
     ·(intro w;go_simp;try with_reducible rfl)
     (try simp only [Act.put,arS,arZ,arN])
     refine wpAny_ready (rs := [15,20]) (by kernel_rfl) (by simp) ?_
     refine AllReady.cons rfl (fun K hK => ?_) (AllReady.cons rfl (fun K hK => ?_) AllReady.nil)
     ·go_simp
      refine hK _ _ ?_
      clear hK K
      apply tqZ 17 32
      ·(intro w;go_simp;try with_reducible rfl)
      (try simp only [Act.put,arS,arZ,arN])
      refine wpAny_ready (rs := [18,20]) (by kernel_rfl) (by simp) ?_
      refine AllReady.cons rfl (fun K hK => ?_) (AllReady.cons rfl (fun K hK => ?_) AllReady.nil)
      ·go_simp
       refine hK _ _ ?_
       clear hK K
       refine wpAny_ready (rs := [20]) (by kernel_rfl) (by simp) ?_
       refine AllReady.cons rfl (fun K hK => ?_) AllReady.nil
       go_simp
       go_wp2_with ((go_at_call 138;refine (KO.get _).mono ?_;rintro e w3 ⟨rfl,hg3⟩;obtain ⟨c43,ld3,hA2⟩ := HW.out w3 (hgH.trans hg3)))
       refine wpAny_ready (rs := [21]) (by kernel_rfl) (by simp) ?_
       refine AllReady.cons rfl (fun K hK => ?_) AllReady.nil
       go_simp
       go_wp2_with ((go_at_call 198;refine (KW.get _).mono ?_;rintro e w4 ⟨rfl,hg4⟩))
       refine wpAny_ready (rs := [22]) (by kernel_rfl) (by simp) ?_
       refine AllReady.cons rfl (fun K hK => ?_) AllReady.nil
       go_simp
       go_wp2_with ((go_at_call 167;refine (KK.get (hA2.grown hg4)).mono ?_;rintro e w5 ⟨rfl,hs5,hf5⟩))
       apply tqZ 23 38
       ·(intro w;go_simp;try with_reducible rfl)
       (try simp only [Act.put,arS,arZ,arN])
       apply tqZ 24 39
       ·(intro w;go_simp;try with_reducible rfl)
       (try simp only [Act.put,arS,arZ,arN])
       refine wpAny_done (by kernel_rfl) ?_ _
       go_wp2
       go_ret
       rw [hk1,← HR2.out]
       exact ⟨rfl,hs5,(HFR.out.trans (FrS.grown ((hgH.trans hg3).trans hg4))).trans hf5⟩
      ·go_simp
       go_wp2_with ((go_at_call 138;refine (KO.get _).mono ?_;rintro e w3 ⟨rfl,hg3⟩;obtain ⟨c43,ld3,hA2⟩ := HW.out w3 (hgH.trans hg3)))
       refine wpAny_ready (rs := [18]) (by kernel_rfl) (by simp) ?_
       refine AllReady.cons rfl (fun K hK => ?_) AllReady.nil
       go_simp
       refine hK _ _ ?_
       clear hK K
       refine wpAny_ready (rs := [21]) (by kernel_rfl) (by simp) ?_
       refine AllReady.cons rfl (fun K hK => ?_) AllReady.nil
       go_simp
       go_wp2_with ((go_at_call 198;refine (KW.get _).mono ?_;rintro e w4 ⟨rfl,hg4⟩))
       refine wpAny_ready (rs := [22]) (by kernel_rfl) (by simp) ?_
       refine AllReady.cons rfl (fun K hK => ?_) AllReady.nil
       go_simp
       go_wp2_with ((go_at_call 167;refine (KK.get (hA2.grown hg4)).mono ?_;rintro e w5 ⟨rfl,hs5,hf5⟩))
       apply tqZ 23 38
       ·(intro w;go_simp;try with_reducible rfl)
       (try simp only [Act.put,arS,arZ,arN])
       apply tqZ 24 39
       ·(intro w;go_simp;try with_reducible rfl)
       (try simp only [Act.put,arS,arZ,arN])
       refine wpAny_done (by kernel_rfl) ?_ _
       go_wp2
       go_ret
       rw [hk1,← HR2.out]
       exact ⟨rfl,hs5,(HFR.out.trans (FrS.grown ((hgH.trans hg3).trans hg4))).trans hf5⟩
     ·go_simp
      go_wp2_with ((go_at_call 138;refine (KO.get _).mono ?_;rintro e w3 ⟨rfl,hg3⟩;obtain ⟨c43,ld3,hA2⟩ := HW.out w3 (hgH.trans hg3)))
      refine wpAny_ready (rs := [15]) (by kernel_rfl) (by simp) ?_
      refine AllReady.cons rfl (fun K hK => ?_) AllReady.nil
      go_simp
      refine hK _ _ ?_
      clear hK K
      apply tqZ 17 32
      ·(intro w;go_simp;try with_reducible rfl)
      (try simp only [Act.put,arS,arZ,arN])
      refine wpAny_ready (rs := [18]) (by kernel_rfl) (by simp) ?_
      refine AllReady.cons rfl (fun K hK => ?_) AllReady.nil
      go_simp
      refine hK _ _ ?_
      clear hK K
      refine wpAny_ready (rs := [21]) (by kernel_rfl) (by simp) ?_
      refine AllReady.cons rfl (fun K hK => ?_) AllReady.nil
      go_simp
      go_wp2_with ((go_at_call 198;refine (KW.get _).mono ?_;rintro e w4 ⟨rfl,hg4⟩))
      refine wpAny_ready (rs := [22]) (by kernel_rfl) (by simp) ?_
      refine AllReady.cons rfl (fun K hK => ?_) AllReady.nil
      go_simp
      go_wp2_with ((go_at_call 167;refine (KK.get (hA2.grown hg4)).mono ?_;rintro e w5 ⟨rfl,hs5,hf5⟩))
      apply tqZ 23 38
      ·(intro w;go_simp;try with_reducible rfl)
      (try simp only [Act.put,arS,arZ,arN])
      apply tqZ 24 39
      ·(intro w;go_simp;try with_reducible rfl)
      (try simp only [Act.put,arS,arZ,arN])
      refine wpAny_done (by kernel_rfl) ?_ _
      go_wp2
      go_ret
      rw [hk1,← HR2.out]
      exact ⟨rfl,hs5,(HFR.out.trans (FrS.grown ((hgH.trans hg3).trans hg4))).trans hf5⟩
   ·have ch' : hasD (si.L v) a = false := by simpa using ch
    have HR2 : Hid (takeS K a (l.drop (i + 1)) si = R) := by
     rw [Hid,← hres,hdr,takeS,if_neg ch]
    rw [ch'] at KH
    have HSI : Hid (SOk K si ∧ TB si) := ⟨hso,htb⟩
    have HFR := hide hfr
    clear hat hso htb hfr hres h1 h2 h3 h4 ha hdr hd hpv ch ch'
    go_wp2
    refine wp_region_any (by kernel_rfl) ?_
    try (change wpAny _ _ _ _ _ _ _ (World.drew _))
    apply tqZ 0 15
    ·(intro w;go_simp;try with_reducible rfl)
    (try simp only [Act.put,arS,arZ,arN])
    apply tqZ 1 16
    ·(intro w;go_simp;try with_reducible rfl)
    (try simp only [Act.put,arS,arZ,arN])
    apply tqZ 2 17
    ·(intro w;go_simp;try with_reducible rfl)
    (try simp only [Act.put,arS,arZ,arN])
    apply tqZ 4 19
    ·(intro w;go_simp;try with_reducible rfl)
    (try simp only [Act.put,arS,arZ,arN])
    apply tqZ 7 22
    ·(intro w;go_simp;try with_reducible rfl)
    (try simp only [Act.put,arS,arZ,arN])
    refine wpAny_ready (rs := [3]) (by kernel_rfl) (by simp) ?_
    refine AllReady.cons rfl (fun K hK => ?_) AllReady.nil
    go_simp
    refine hK _ _ ?_
    clear hK K
    apply tqZ 5 20
    ·(intro w;go_simp;try with_reducible rfl)
    (try simp only [Act.put,arS,arZ,arN])
    refine wpAny_ready (rs := [6]) (by kernel_rfl) (by simp) ?_
    refine AllReady.cons rfl (fun K hK => ?_) AllReady.nil
    go_simp
    refine hK _ _ ?_
    clear hK K
    refine wpAny_ready (rs := [8]) (by kernel_rfl) (by simp) ?_
    refine AllReady.cons rfl (fun K hK => ?_) AllReady.nil
    go_simp
    go_wp2_with ((go_at_call 169;refine (KH.get _).mono ?_;rintro e w2 ⟨rfl,hg2⟩;have hgH := (grown_drew' wr none).trans hg2;obtain ⟨_,_,hA2⟩ := HW.out w2 hgH))
    apply tqZ 9 24
    ·(intro w;go_simp;try with_reducible rfl)
    (try simp only [Act.put,arS,arZ,arN])
    refine tkY (i := 10) (v := undef) 25 rfl rfl (by kernel_rfl) (fun _ _ _ h => h) (Or.inr ⟨by kernel_rfl,rfl⟩) ?_
    (try simp only [Act.put,arS,arZ,arN])
    refine tkY (i := 11) (v := undef) 26 rfl rfl (by kernel_rfl) (fun _ _ _ h => h) (Or.inr ⟨by kernel_rfl,rfl⟩) ?_
    (try simp only [Act.put,arS,arZ,arN])
    refine tkY (i := 12) (v := undef) 27 rfl rfl (by kernel_rfl) (fun _ _ _ h => h) (Or.inr ⟨by kernel_rfl,rfl⟩) ?_
    (try simp only [Act.put,arS,arZ,arN])
    refine tkY (i := 13) (v := undef) 28 rfl rfl (by kernel_rfl) (fun _ _ _ h => h) (Or.inr ⟨by kernel_rfl,rfl⟩) ?_
    (try simp only [Act.put,arS,arZ,arN])
    refine tkY (i := 14) (v := undef) 29 rfl rfl (by kernel_rfl) (fun _ _ _ h => h) (Or.inr ⟨by kernel_rfl,rfl⟩) ?_
    (try simp only [Act.put,arS,arZ,arN])
    refine tkY (i := 15) (v := undef) 30 rfl rfl (by kernel_rfl) (fun _ _ _ h => h) (Or.inr ⟨by kernel_rfl,rfl⟩) ?_
    (try simp only [Act.put,arS,arZ,arN])
    refine tkY (i := 16) (v := undef) 31 rfl rfl (by kernel_rfl) (fun _ _ _ h => h) (Or.inr ⟨by kernel_rfl,rfl⟩) ?_
    (try simp only [Act.put,arS,arZ,arN])
    refine tkY (i := 17) (v := undef) 32 rfl rfl (by kernel_rfl) (fun _ _ _ h => h) (Or.inr ⟨by kernel_rfl,rfl⟩) ?_
    (try simp only [Act.put,arS,arZ,arN])
    refine tkY (i := 18) (v := undef) 33 rfl rfl (by kernel_rfl) (fun _ _ _ h => h) (Or.inr ⟨by kernel_rfl,rfl⟩) ?_
    (try simp only [Act.put,arS,arZ,arN])
    refine tkY (i := 19) (v := undef) 34 rfl rfl (by kernel_rfl) (fun _ _ _ h => h) (Or.inr ⟨by kernel_rfl,rfl⟩) ?_
    (try simp only [Act.put,arS,arZ,arN])
    refine tkY (i := 20) (v := undef) 35 rfl rfl (by kernel_rfl) (fun _ _ _ h => h) (Or.inr ⟨by kernel_rfl,rfl⟩) ?_
    (try simp only [Act.put,arS,arZ,arN])
    refine tkY (i := 21) (v := undef) 36 rfl rfl (by kernel_rfl) (fun _ _ _ h => h) (Or.inr ⟨by kernel_rfl,rfl⟩) ?_
    (try simp only [Act.put,arS,arZ,arN])
    refine tkY (i := 22) (v := undef) 37 rfl rfl (by kernel_rfl) (fun _ _ _ h => h) (Or.inr ⟨by kernel_rfl,rfl⟩) ?_
    (try simp only [Act.put,arS,arZ,arN])
    refine tkY (i := 23) (v := undef) 38 rfl rfl (by kernel_rfl) (fun _ _ _ h => h) (Or.inr ⟨by kernel_rfl,rfl⟩) ?_
    (try simp only [Act.put,arS,arZ,arN])
    apply tqZ 24 39
    ·(intro w;go_simp;try with_reducible rfl)
    (try simp only [Act.put,arS,arZ,arN])
    refine wpAny_done (by kernel_rfl) ?_ _
    go_wp2
    go_roundw
    case rel => exact ⟨i + 1,si,vTi,by omega,by go_num,hA2,HSI.out.1,HSI.out.2,HFR.out.trans (FrS.grown hgH),HR2.out⟩
    case measure => simp [intOf];omega
  ·obtain rfl : i = l.length := by omega
   have e : R = (true,si) := by rw [← hres,List.drop_length];rfl
   subst e
   go_wp2
   go_ret
   exact ⟨rfl,⟨_,hat⟩,hfr⟩
end
section
set_option maxHeartbeats 8000000
set_option maxRecDepth 100000
attribute [local go_sem ↓] ld_veil st_veil
variable {w0 w w' w'' : World} {X : SL} {K : SK} {s : SS} {vT vS : Value}
theorem SAt.con (h : SAt w0 w X K s vT vS) {i : Nat} {c : QCon} (hc : K.cons[i]? = some c) : ∃ (x : CRow) (g cap : Nat),x.c = c ∧ X.vC = .slice (some ⟨g,0,none⟩) K.cons.length cap ∧ ConIn w g (i * 10) X.B x ∧ x ∈ X.cs := by
 have hS := h.set
 have hlen : X.cs.length = K.cons.length := by rw [← h.csK];simp
 have hi : i < X.cs.length := by rw [hlen];exact (List.getElem?_eq_some_iff.1 hc).1
 obtain ⟨g,cap,hR,_⟩ := RowIn.of_own hS.oc (by omega)
 refine ⟨X.cs[i],g,cap,?_,?_,⟨fun k u hu => ?_,hR.lt,hS.at_ _ (List.getElem_mem hi)⟩,List.getElem_mem hi⟩
 ·have : (X.cs.map (·.c))[i]? = some c := by rw [h.csK];exact hc
  rw [List.getElem?_map,List.getElem?_eq_getElem hi] at this
  simpa using this
 ·rw [← hlen];exact hR.is
 ·exact hR.at (sz := 10) (fun _ => rfl) (List.getElem?_eq_getElem hi) k u hu
theorem sc_drawSum (h : SAt w0 w X K s vT vS) (hK : KOk K) (hs : SOk K s) {x : CRow} {g o : Nat} (hx : ConIn w g o X.B x) (hmem : x.c ∈ K.cons) (hso : x.c.sort = 0 ∨ x.c.sort = 1) {v : Int} (hv : PlOk K.vars.length v) (t : Bool) (ht : s.trail.length ≤ 1000000) : Calls Tryz.prog 130 #[.pointer (some ⟨X.b,0,none⟩),.pointer (some ⟨g,o,none⟩),.bool t,.int .i64 v] w fun e w' => e = .returned (.bool (sumS K x.c t v s).1) ∧ (∃ vT',SAt w0 w' X K (sumS K x.c t v s).2 vT' vS) ∧ FrS X w w' := by
 have hcon := hK.cons _ hmem
 obtain ⟨gt,ct,hT,_⟩ := RowIn.of_own hx.at_.t (by cases e : x.c.terms with | nil => exact absurd e (hcon.tne hso) | cons _ _ => simp)
 have k2 : w.cell? ⟨g,o + 2,none⟩ = some (.slice (some ⟨gt,0,none⟩) x.c.terms.length ct) := by have q := hx.cell 2 _ rfl;rw [hT.is] at q;exact q
 have KS := Kept.mk (sc_split h hK.vlen (fun u => hs.L_lt hK u) hT hcon.terms hcon.tlen v)
 rw [hT.is] at KS
 obtain ⟨b1,b2,b3,b4⟩ := splitS_bd (v := v) (fun u => hs.L_lt hK u) x.c.terms (fun p hp => (hcon.terms p hp).2)
 have hn1 := hcon.num.1
 have hn2 := hcon.num.2
 have hl8 := hcon.tlen
 have hrel := hcon.rel
 obtain ⟨d,hd⟩ := dc (s.L v)
 obtain ⟨r,hr⟩ := dc (suitD (s.L v) (splitS s x.c.terms v).1 x.c.rel (x.c.num - (splitS s x.c.terms v).2) t)
 have hrl : suitD (s.L v) (splitS s x.c.terms v).1 x.c.rel (x.c.num - (splitS s x.c.terms v).2) t < 2 ^ 2001 := lt_of_bits (k := 2001) fun j hj => bit_lt (suit_sub j hj) (hs.L_lt hK v)
 have KT := Kept.mk (fun W => dc_suiting hrel hd hr (by omega) (by omega) (by omega) (by omega) W)
 have KK := Kept.mk (fun {W' : World} (q : SAt w0 W' X K s vT vS) => dc_keep hr q hK hs hv hrl ht)
 have HRES : Hid (keepS K v (suitD (s.L v) (splitS s x.c.terms v).1 x.c.rel (x.c.num - (splitS s x.c.terms v).2) t) s = sumS K x.c t v s) := rfl
 obtain ⟨I,hI⟩ : ∃ I : Nat,v = (I : Int) := ⟨v.toNat,by have := hv.1;omega⟩
 have hb1 : (0 : Int) ≤ v := hv.1
 have hb2 : v < K.vars.length := hv.2
 have HW : Hid (∀ w1 : World,w.grownBy w1 none → w1.cell? ⟨X.b,4,none⟩ = some (.slice (some ⟨X.gl,0,none⟩) K.vars.length K.vars.length) ∧ w1.cell? ⟨g,o + 3,none⟩ = some (.int .i64 x.c.rel) ∧ w1.cell? ⟨g,o + 4,none⟩ = some (.int .i64 x.c.num) ∧ Sem.run Tryz.prog (ldS (.pointer (some ⟨X.gl,v.toNat * 32,none⟩))) w1.drew = .ok (.agg d.toArray) w1.drew ∧ SAt w0 w1 X K s vT vS) := fun w1 hg => by
  have hA := h.grown hg
  have hX := hx.grown hg
  exact ⟨hA.f4,hX.cell 3 _ rfl,hX.cell 4 _ rfl,ld_range (w := w1.drew) (by rw [hd.is];exact (hA.leftAt hv).1) hd.len,hA⟩
 generalize hsp : splitS s x.c.terms v = SP at *
 have hw1 : IntKind.i64.wrap (x.c.num - SP.2) = x.c.num - SP.2 := wrap_s64 (by omega) (by omega)
 clear h hx hT hcon hd hr hrl hv hs hK hI hsp
 go_enter Tryz.func130,Tryz.ntmps130
 go_wp2_with (first | (go_at_call 166;refine KS.get.mono ?_;rintro e w1 ⟨rfl,hg1⟩;obtain ⟨c4,y3,y4,ld1,hA1⟩ := HW.out w1 hg1))
 have HA1 := hide hA1
 have HG1 := hide hg1
 clear hA1 hg1 HW KS
 go_region_with (first | (go_at_call 167;refine (KK.get (HA1.out.grown ((grown_drew' _ _).trans hg2))).mono ?_;rintro e w3 ⟨rfl,hs3,hf3⟩) | (go_at_call 168;refine (KT.get _).mono ?_;rintro e w2 ⟨rfl,hg2⟩))
 all_goals
  go_wp2
  go_ret
  rw [← HRES.out]
  exact ⟨rfl,hs3,(FrS.grown ((HG1.out.trans (grown_drew' _ _)).trans hg2)).trans hf3⟩
end
end Go.Proofs.YthpcbbnabnlanaaGreatDoor
