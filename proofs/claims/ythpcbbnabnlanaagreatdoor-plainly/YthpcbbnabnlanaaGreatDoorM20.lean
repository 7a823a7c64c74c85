import Derived.Test.YthpcbbnabnlanaaGreatDoorM19
namespace Go.Proofs.YthpcbbnabnlanaaGreatDoor
open Go.RowKit
set_option linter.unusedVariables false
set_option linter.unusedSimpArgs false
section
set_option maxHeartbeats 4000000
set_option maxRecDepth 100000
variable {w0 w w' w'' : World} {X : SL} {K : SK} {s : SS} {vT vS : Value}
theorem openS_snoc (s : SS) (l : List Int) (v : Int) : openS s (l ++ [v]) = if s.fixed v then openS s l else (v,(openS s l).2 + 1) := by simp [openS]
theorem openS_le (s : SS) (l : List Int) : 0 ≤ (openS s l).2 ∧ (openS s l).2 ≤ l.length := by
 refine ⟨(open_spec s l).1,?_⟩
 have key : ∀ (l : List Int) (p : Int × Int),(l.foldl (fun p v => if s.fixed v then p else (v,p.2 + 1)) p).2 ≤ p.2 + l.length := by
  intro l
  induction l with
  | nil => intro p;simp
  | cons v l ih =>
   intro p
   have := ih (if s.fixed v then p else (v,p.2 + 1))
   rw [List.foldl_cons,List.length_cons]
   by_cases c : s.fixed v = true
   ·rw [if_pos c] at this ⊢;omega
   ·rw [if_neg c] at this ⊢;simp only [] at this;omega
 have := key l (0,0)
 unfold openS
 simpa using this
theorem IRow.is {v : Value} {l : List Int} (h : IRow X w v l) : ∃ a c,v = .slice a l.length c := by
 rcases h with ⟨rfl,a,c,e⟩ | ⟨g,cap,cells,h1,_⟩
 ·exact ⟨a,c,e⟩
 ·exact ⟨_,_,h1⟩
theorem sc_lastOpen (h : SAt w0 w X K s vT vS) (hn : K.vars.length ≤ 8) {vv : Value} {l : List Int} (hl : IRow X w vv l) (hp : ∀ v ∈ l,PlOk K.vars.length v) (hll : l.length ≤ 3000) : Calls Tryz.prog 129 #[.pointer (some ⟨X.b,0,none⟩),vv] w fun e w' => e = .returned (.tuple #[.int .i64 (openS s l).1,.int .i64 (openS s l).2]) ∧ w' = w := by
 obtain ⟨va,vc,rfl⟩ := hl.is
 have r6 := h.f6
 have HH := hide h
 have HL := hide hl
 have HP := hide hp
 have hlt := h.lt.1
 have hlf := h.lt.2.2.2.1
 clear h hl hp
 go_enter Tryz.func129,Tryz.ntmps129
 go_wp2
 go_loopw [4,5,10] (fun vv vo vi wr => ∃ i : Nat,i ≤ l.length ∧ vi = .int .i64 i ∧ vv = .int .i64 (openS s (l.take i)).1 ∧ vo = .int .i64 (openS s (l.take i)).2 ∧ wr = w) (fun _ _ vi _ => l.length - (intOf vi).toNat)
 case atStart => exact ⟨0,Nat.zero_le _,rfl,rfl,rfl,rfl⟩
 case round =>
  obtain ⟨i,hi,rfl,rfl,rfl,hww⟩ := hrel
  subst wr
  by_cases hlt2 : i < l.length
  ·obtain ⟨a,ha⟩ : ∃ a,l[i]? = some a := ⟨l[i],List.getElem?_eq_getElem hlt2⟩
   rcases HL.out with ⟨e0,_⟩ | ⟨g,cap,cells,h1,h2,h3,h4,h5⟩
   ·rw [e0] at hlt2;simp at hlt2
   obtain rfl : va = some ⟨g,0,none⟩ := by injection h1
   have k0 : w.cell? ⟨g,i,none⟩ = some (.int .i64 a) := cell_of h2 i _ (h3 i a ha)
   have hpa := HP.out a (List.mem_of_getElem? ha)
   obtain ⟨_,k1,_,_⟩ := HH.out.valAt hpa
   have hp1 := hpa.1
   have hp2 := hpa.2
   have hlt3 : (i : Int) < l.length := by omega
   have h03 : (0 : Int) ≤ i := by omega
   have hsn : Hid (openS s (l.take (i + 1)) = if s.fixed a then openS s (l.take i) else (a,(openS s (l.take i)).2 + 1)) := by
    rw [Hid,List.take_add_one,ha];exact openS_snoc _ _ _
   obtain ⟨o1,o2⟩ := openS_le s (l.take i)
   have o3 : (openS s (l.take i)).2 ≤ 3000 := by have := List.length_take_le i l;omega
   clear hpa o2 h1 h3 h5 ha
   generalize openS s (l.take i) = O at *
   by_cases cf : s.fixed a = true
   ·rw [cf] at k1
    go_wp2
    go_roundw
    case rel => exact ⟨i + 1,by omega,by go_num,by rw [hsn.out,if_pos cf],by rw [hsn.out,if_pos cf],trivial⟩
    case measure => simp [intOf];omega
   ·have cf' : s.fixed a = false := by simpa using cf
    rw [cf'] at k1
    go_wp2
    go_roundw
    case rel => exact ⟨i + 1,by omega,by go_num,by rw [hsn.out,if_neg cf],by rw [hsn.out,if_neg cf],trivial⟩
    case measure => simp [intOf];omega
  ·obtain rfl : i = l.length := by omega
   go_wp2
   go_ret2
   rw [List.take_of_length_le (Nat.le_refl _)]
   exact ⟨rfl,rfl⟩
theorem splitS_snoc (s : SS) (l : List (Int × Int)) (v : Int) (t : Int × Int) : splitS s (l ++ [t]) v = if t.1 = v then ((splitS s l v).1 + t.2,(splitS s l v).2) else ((splitS s l v).1,(splitS s l v).2 + t.2 * s.val t.1) := by simp [splitS]
theorem oneV_bd {D : Nat} (hD : D < 2 ^ 2001) : -1000 ≤ oneV D ∧ oneV D ≤ 1000 := by
 unfold oneV
 cases e : valsD D with
 | nil => simp
 | cons a l => exact valsD_in hD (by rw [e];simp)
theorem splitS_bd {s : SS} {v : Int} (hs : ∀ u,s.L u < 2 ^ 2001) : ∀ (ts : List (Int × Int)),(∀ p ∈ ts,-100 ≤ p.2 ∧ p.2 ≤ 100) → -100 * (ts.length : Int) ≤ (splitS s ts v).1 ∧ (splitS s ts v).1 ≤ 100 * (ts.length : Int) ∧ -100000 * (ts.length : Int) ≤ (splitS s ts v).2 ∧ (splitS s ts v).2 ≤ 100000 * (ts.length : Int) := by
 intro ts ht
 have key : ∀ (ts : List (Int × Int)),(∀ p ∈ ts,-100 ≤ p.2 ∧ p.2 ≤ 100) → ∀ (q : Int × Int),
   let r := ts.foldl (fun p t => if t.1 = v then (p.1 + t.2,p.2) else (p.1,p.2 + t.2 * s.val t.1)) q
   q.1 - 100 * (ts.length : Int) ≤ r.1 ∧ r.1 ≤ q.1 + 100 * (ts.length : Int) ∧ q.2 - 100000 * (ts.length : Int) ≤ r.2 ∧ r.2 ≤ q.2 + 100000 * (ts.length : Int) := by
  intro ts
  induction ts with
  | nil => intro _ q;simp
  | cons t ts ih =>
   intro ht q
   have h1 := ih (fun p hp => ht p (by simp [hp])) (if t.1 = v then (q.1 + t.2,q.2) else (q.1,q.2 + t.2 * s.val t.1))
   have h2 := ht t (by simp)
   have h3 := oneV_bd (hs t.1)
   have h4 := mul_bd h2.1 h2.2 h3.1 h3.2
   simp only [List.foldl_cons,List.length_cons] at h1 ⊢
   have h5 : t.2 * s.val t.1 = t.2 * oneV (s.L t.1) := rfl
   by_cases c : t.1 = v
   ·rw [if_pos c] at h1 ⊢
    simp only [] at h1
    omega
   ·rw [if_neg c] at h1 ⊢
    simp only [] at h1
    omega
 have := key ts ht (0,0)
 unfold splitS
 simp only [] at this
 omega
theorem sc_split (h : SAt w0 w X K s vT vS) (hn : K.vars.length ≤ 8) (hs : ∀ u,s.L u < 2 ^ 2001) {vt : Value} {gt ct : Nat} {ts : List (Int × Int)} (hT : RowIn w vt gt ct prCell ts) (hok : ∀ p ∈ ts,PlOk K.vars.length p.1 ∧ -100 ≤ p.2 ∧ p.2 ≤ 100) (hl : ts.length ≤ 8) (v : Int) : Calls Tryz.prog 166 #[.pointer (some ⟨X.b,0,none⟩),vt,.int .i64 v] w fun e w' => e = .returned (.tuple #[.int .i64 (splitS s ts v).1,.int .i64 (splitS s ts v).2]) ∧ w.grownBy w' none := by
 have HT := hide hT
 have HH := hide h
 have HOK := hide hok
 have hgt := hT.lt
 obtain rfl := hT.is
 clear hT h hok
 go_enter Tryz.func166,Tryz.ntmps166
 go_wp2
 go_loopw [6,7,12] (fun vf vr vi wr => ∃ i : Nat,i ≤ ts.length ∧ vi = .int .i64 i ∧ vf = .int .i64 (splitS s (ts.take i) v).1 ∧ vr = .int .i64 (splitS s (ts.take i) v).2 ∧ w.grownBy wr none) (fun _ _ vi _ => ts.length - (intOf vi).toNat)
 case atStart => exact ⟨0,Nat.zero_le _,rfl,rfl,rfl,grown_refl _ _⟩
 case round =>
  obtain ⟨i,hi,rfl,rfl,rfl,hgr⟩ := hrel
  by_cases hlt : i < ts.length
  ·obtain ⟨a,ha⟩ : ∃ a,ts[i]? = some a := ⟨ts[i],by simp [hlt]⟩
   obtain ⟨hp,hf1,hf2⟩ := HOK.out a (List.mem_of_getElem? ha)
   have hR := HT.out.kept hgr (by simp)
   have hA := HH.out.grown hgr
   have k0 : wr.cell? ⟨gt,i * 2,none⟩ = some (.int .i64 a.1) := hR.at (sz := 2) (fun _ => rfl) ha 0 _ rfl
   have k1 : wr.cell? ⟨gt,i * 2 + 1,none⟩ = some (.int .i64 a.2) := hR.at (sz := 2) (fun _ => rfl) ha 1 _ rfl
   have k2 := (hA.valAt hp).1
   have r5 := hA.f5
   have hb := splitS_bd (v := v) hs (ts.take i) (fun p hp => (HOK.out p (List.mem_of_mem_take hp)).2)
   have hsn : Hid (splitS s (ts.take (i + 1)) v = if a.1 = v then ((splitS s (ts.take i) v).1 + a.2,(splitS s (ts.take i) v).2) else ((splitS s (ts.take i) v).1,(splitS s (ts.take i) v).2 + a.2 * s.val a.1)) := by
    rw [Hid,List.take_add_one,ha];exact splitS_snoc _ _ _ _
   have hx : -1000 ≤ s.val a.1 ∧ s.val a.1 ≤ 1000 := oneV_bd (hs a.1)
   have hm := mul_bd hf1 hf2 hx.1 hx.2
   have hti : ((ts.take i).length : Int) ≤ 8 := by have := List.length_take_le i ts;omega
   have hp1 := hp.1
   have hp2 := hp.2
   have hlt3 : (i : Int) < ts.length := by omega
   have h03 : (0 : Int) ≤ i := by omega
   have hlb := hA.lt.1
   have hlv := hA.lt.2.2.1
   obtain ⟨a1,a2⟩ := a
   simp only at *
   generalize splitS s (ts.take i) v = O at *
   generalize s.val a1 = Y at *
   have o1 : -800 ≤ O.1 := by omega
   have o2 : O.1 ≤ 800 := by omega
   have o3 : -800000 ≤ O.2 := by omega
   have o4 : O.2 ≤ 800000 := by omega
   have hm1 := hm.1
   have hm2 := hm.2
   have hx1 := hx.1
   have hx2 := hx.2
   have HGR := hide hgr
   clear hR hA hgr hb hti hp ha hm hx
   by_cases cv : a1 = v
   ·have cv' : (a1 == v) = true := by simpa using cv
    go_wp2
    go_roundw
    case rel => exact ⟨i + 1,by omega,by go_num,by rw [hsn.out,if_pos cv],by rw [hsn.out,if_pos cv],HGR.out.trans (World.grownBy_alloc _ _ _)⟩
    case measure => simp [intOf];omega
   ·have cv' : (a1 == v) = false := by simpa using cv
    go_wp2
    go_quiet (fail)
    go_wp2
    go_roundw
    case rel => exact ⟨i + 1,by omega,by go_num,by rw [hsn.out,if_neg cv],by rw [hsn.out,if_neg cv],(HGR.out.trans (World.grownBy_alloc _ _ _)).trans (grown_drewN' _ _ _)⟩
    case measure => simp [intOf];omega
  ·obtain rfl : i = ts.length := by omega
   go_wp2
   go_ret2
   rw [List.take_of_length_le (Nat.le_refl _)]
   exact ⟨rfl,hgr⟩
end
section
variable {w0 w w' w'' : World} {X : SL} {K : SK} {s : SS} {vT vS : Value}
structure DC (D : Nat) (c : List Value) : Prop where
 is : c = dL D
theorem dc (D : Nat) : ∃ c,DC D c := ⟨dL D,⟨rfl⟩⟩
theorem DC.len {D : Nat} {c : List Value} (h : DC D c) : c.length = 32 := by rw [h.is];exact dL_len D
theorem DC.one {D : Nat} {c : List Value} (h : DC D c) : ∀ v ∈ c,v.oneCell' = true := by rw [h.is];exact dL_one D
theorem DC.info {D : Nat} {c : List Value} (h : DC D c) : (Tryz.prog.info? 161).map (·.size) = some c.length := by rw [h.is];exact dInfo D
theorem DC.info' {D : Nat} {c : List Value} (h : DC D c) : (Tryz.prog.info? 161).map (·.size) = some c.toArray.size := by rw [List.size_toArray];exact h.info
theorem DC.one' {D : Nat} {c : List Value} (h : DC D c) : c.toArray.all (·.oneCell') = true := all_oneCell_toArray h.one
theorem dc_Has {D : Nat} {c : List Value} (h : DC D c) (v : Int) (h1 : -1000 ≤ v) (h2 : v ≤ 1000) (w : World) : Calls Tryz.prog 169 #[.agg c.toArray,.int .i64 v] w fun e w' => e = .returned (.bool (hasD D v)) ∧ w.grownBy w' none := by
 rw [h.is,← dArr_dL];exact dm_Has D v h1 h2 w
theorem dc_With {D : Nat} {c r : List Value} {v : Int} (h : DC D c) (hr : DC (D ||| bitV v) r) (h1 : -1000 ≤ v) (h2 : v ≤ 1000) (w : World) : Calls Tryz.prog 170 #[.agg c.toArray,.int .i64 v] w fun e w' => e = .returned (.agg r.toArray) ∧ w.grownBy w' none := by
 rw [h.is,hr.is,← dArr_dL,← dArr_dL];exact dm_With D v h1 h2 w
theorem dc_Only {r : List Value} {v : Int} (hr : DC (bitV v) r) (h1 : -1000 ≤ v) (h2 : v ≤ 1000) (w : World) : Calls Tryz.prog 138 #[.int .i64 v] w fun e w' => e = .returned (.agg r.toArray) ∧ w.grownBy w' none := by
 rw [hr.is,← dArr_dL];exact dm_Only v h1 h2 w
theorem dc_And {D E : Nat} {c d r : List Value} (h : DC D c) (k : DC E d) (hr : DC (D &&& E) r) (w : World) : Calls Tryz.prog 171 #[.agg c.toArray,.agg d.toArray] w fun e w' => e = .returned (.agg r.toArray) ∧ w.grownBy w' none := by
 rw [h.is,k.is,hr.is,← dArr_dL,← dArr_dL,← dArr_dL];exact dm_And D E w
theorem dc_Without {D E : Nat} {c d r : List Value} (h : DC D c) (k : DC E d) (hr : DC (subD D E) r) (w : World) : Calls Tryz.prog 198 #[.agg c.toArray,.agg d.toArray] w fun e w' => e = .returned (.agg r.toArray) ∧ w.grownBy w' none := by
 rw [h.is,k.is,hr.is,← dArr_dL,← dArr_dL,← dArr_dL];exact dm_Without D E w
theorem dc_Count {D : Nat} {c : List Value} (h : DC D c) (w : World) : Calls Tryz.prog 177 #[.agg c.toArray] w fun e w' => e = .returned (.int .i64 (cntD D : Nat)) ∧ w.grownBy w' none := by
 rw [h.is,← dArr_dL];exact dm_Count D w
theorem dc_atMost {f n : Int} {r : List Value} (hr : DC (mostD f n) r) (g1 : -1000000000 ≤ f) (g2 : f ≤ 1000000000) (h1 : -100000000000 ≤ n) (h2 : n ≤ 100000000000) (w : World) : Calls Tryz.prog 197 #[.int .i64 f,.int .i64 n] w fun e w' => e = .returned (.agg r.toArray) ∧ w.grownBy w' none := by
 rw [hr.is,← dArr_dL];exact sc_atMost f n g1 g2 h1 h2 w
theorem dc_set {D : Nat} {c : List Value} (hc : DC D c) (h : SAt w0 w X K s vT vS) (hn : K.vars.length ≤ 8) {v : Int} (hv : PlOk K.vars.length v) (hD : D < 2 ^ 2001) : Calls Tryz.prog 82 #[.pointer (some ⟨X.b,0,none⟩),.int .i64 v,.agg c.toArray] w fun e w' => e = .returned (.tuple #[]) ∧ SAt w0 w' X K (setS v D s) vT vS ∧ FrS X w w' := by
 rw [hc.is];exact sc_set h hn hv hD
structure BoxC (w : World) (b : Nat) (c : List Value) : Prop where
 at_ : w.heap[b]? = some (.cells c.toArray 161 (0,0))
 len : c.length = 32
theorem BoxC.range {b : Nat} {c : List Value} (h : BoxC w b c) : w.rangeAt b 0 c := fun j u hu => by rw [Nat.zero_add];exact cell_of h.at_ j u (by simpa using hu)
theorem BoxC.there {b : Nat} {c : List Value} (h : BoxC w b c) : w.there b 0 32 := fun j hj => by
 refine ⟨?_,frozen_of h.at_ _⟩
 have : j < c.length := by rw [h.len];exact hj
 rw [Nat.zero_add,cell_of h.at_ j (c[j]) (by simp [this])];rfl
theorem BoxC.store {b : Nat} {c r : List Value} (h : BoxC w b c) (hr : r.length = 32) : BoxC (w.setCells b 0 r) b r := by
 obtain ⟨a,h1,h2,h3,h4⟩ := heap_setCells r 0 w _ h.at_
 refine ⟨?_,hr⟩
 rw [h1]
 have : a = r.toArray := by
  apply Array.ext_getElem?
  intro j
  by_cases hj : j < 32
  ·have := h3 j (by omega) (by simp [h.len,hj])
   rw [Nat.zero_add] at this
   rw [this];simp
  ·rw [Array.getElem?_eq_none (by rw [h2];simp [h.len];omega),Array.getElem?_eq_none (by simp [hr];omega)]
 rw [this]
theorem BoxC.kept {b : Nat} {c : List Value} (h : BoxC w b c) (hg : w.grownBy w' none) : BoxC w' b c := ⟨(hg.block b (some_lt h.at_) (by simp)).trans h.at_,h.len⟩
theorem BoxC.far {b g : Nat} {c : List Value} (h : BoxC w b c) (hg : w.grownBy w' (some g)) (hn : b ≠ g) : BoxC w' b c := ⟨(hg.block b (some_lt h.at_) (fun e => hn (Option.some.inj e))).trans h.at_,h.len⟩
theorem BoxC.new (w : World) {c : List Value} (h : c.length = 32) : BoxC (w.alloc (.cells c.toArray 161)) w.heap.size c := ⟨heap_alloc_new w _,h⟩
theorem BoxC.frs {b : Nat} {c : List Value} (h : BoxC w b c) (hf : FrS X w w') (hn : b ∉ X.own) : BoxC w' b c := ⟨hf.block b _ h.at_ hn (fun _ _ e => by cases e) (fun _ _ e => by cases e),h.len⟩
def ldS (p : Value) : Sem Value := Instr.loadAt 161 p
def stS (p v : Value) : Sem Unit := Instr.storeAt 161 p v
theorem ld_veil (p : Value) : Instr.loadAt 161 p = ldS p := rfl
theorem st_veil (p v : Value) : Instr.storeAt 161 p v = stS p v := rfl
theorem ld_range {b o : Nat} {c : List Value} (h : w.rangeAt b o c) (hl : c.length = 32) : Sem.run Tryz.prog (ldS (.pointer (some ⟨b,o,none⟩))) w = .ok (.agg c.toArray) w :=
 run_loadAt_mid w b o 161 c _ h dUnder rfl (by rw [hl];exact infoDm)
theorem st_there {b o : Nat} {c : List Value} (h : w.there b o 32) (hl : c.length = 32) (h1 : ∀ v ∈ c,v.oneCell' = true) : Sem.run Tryz.prog (stS (.pointer (some ⟨b,o,none⟩)) (.agg c.toArray)) w = .ok () (w.setCells b o c) :=
 run_storeAt_mid w b o 161 c.toArray (by rw [List.size_toArray,hl];exact h) (by rw [List.size_toArray,hl];exact infoDm) (all_oneCell_toArray h1)
end
section
set_option maxHeartbeats 4000000
set_option maxRecDepth 100000
variable {w0 w w' w'' : World} {X : SL} {K : SK} {s : SS} {vT vS : Value}
structure SuitB (w : World) (P : Nat) (c m : List Value) (W : World) : Prop where
 g : w.grownBy W none
 b0 : BoxC W w.heap.size c
 b1 : ∃ z,BoxC W (w.heap.size + 1) z
 b2 : BoxC W P m
 hp : w.heap.size + 2 ≤ P
theorem SuitB.kept {P : Nat} {c m : List Value} {W W' : World} (h : SuitB w P c m W) (hg : W.grownBy W' none) : SuitB w P c m W' := by
 obtain ⟨z,hz⟩ := h.b1
 exact ⟨h.g.trans hg,h.b0.kept hg,⟨z,hz.kept hg⟩,h.b2.kept hg,h.hp⟩
theorem SuitB.store {P : Nat} {c m r : List Value} {W : World} (h : SuitB w P c m W) (hr : r.length = 32) : SuitB w P c r (W.setCells P 0 r) := by
 have gs := grown_setCells W P 0 r
 have := h.hp
 obtain ⟨z,hz⟩ := h.b1
 exact ⟨grown_newr h.g (by omega) gs,h.b0.far gs (by omega),⟨z,hz.far gs (by omega)⟩,h.b2.store hr,h.hp⟩
theorem SuitB.done {P : Nat} {c m r : List Value} {W : World} (h : SuitB w P c m W) (hr : r.length = 32) : w.grownBy (W.setCells (w.heap.size + 1) 0 r) none ∧ BoxC (W.setCells (w.heap.size + 1) 0 r) (w.heap.size + 1) r := by
 obtain ⟨z,hz⟩ := h.b1
 exact ⟨grown_newr h.g (by omega) (grown_setCells W (w.heap.size + 1) 0 r),hz.store hr⟩
theorem suit_start {c m z : List Value} {w1 : World} {Z : Array Value} (hc : c.length = 32) (hm : m.length = 32) (hz : Z = z.toArray) (hzl : z.length = 32) (hg : ((w.alloc (.cells c.toArray 161)).alloc (.cells Z 161)).grownBy w1 none) : SuitB w w1.heap.size c m (w1.alloc (.cells m.toArray 161)) := by
 have hs := hg.size
 simp at hs
 subst hz
 have b0 : BoxC ((w.alloc (.cells c.toArray 161)).alloc (.cells z.toArray 161)) w.heap.size c := ⟨(heap_alloc_old _ _ (by simp)).trans (heap_alloc_new w _),hc⟩
 have b1 : BoxC ((w.alloc (.cells c.toArray 161)).alloc (.cells z.toArray 161)) (w.heap.size + 1) z := by
  have q := heap_alloc_new (w.alloc (.cells c.toArray 161)) (.cells z.toArray 161)
  exact ⟨by simpa using q,hzl⟩
 exact ⟨((((World.grownBy_alloc _ _ _).trans (World.grownBy_alloc _ _ _)).trans hg).trans (World.grownBy_alloc _ _ _)),(b0.kept hg).kept (World.grownBy_alloc _ _ _),⟨z,(b1.kept hg).kept (World.grownBy_alloc _ _ _)⟩,BoxC.new w1 hm,by omega⟩
theorem dZeroL : (dL 0).toArray = #[.int .u64 0,.int .u64 0,.int .u64 0,.int .u64 0,.int .u64 0,.int .u64 0,.int .u64 0,.int .u64 0,.int .u64 0,.int .u64 0,.int .u64 0,.int .u64 0,.int .u64 0,.int .u64 0,.int .u64 0,.int .u64 0,.int .u64 0,.int .u64 0,.int .u64 0,.int .u64 0,.int .u64 0,.int .u64 0,.int .u64 0,.int .u64 0,.int .u64 0,.int .u64 0,.int .u64 0,.int .u64 0,.int .u64 0,.int .u64 0,.int .u64 0,.int .u64 0] := by rw [← dArr_dL];exact dZero
theorem suit_le (D : Nat) (f n : Int) (t : Bool) {cD cR : List Value} (hD : DC D cD) (hR : DC (suitD D f 2 n t) cR) (g1 : -1000000000 ≤ f) (g2 : f ≤ 1000000000) (h1 : -100000000000 ≤ n) (h2 : n ≤ 100000000000) (w : World) : Calls Tryz.prog 168 #[.agg cD.toArray,.int .i64 f,.int .i64 2,.int .i64 n,.bool t] w fun e w' => e = .returned (.agg cR.toArray) ∧ w.grownBy w' none := by
 obtain ⟨cM,hM⟩ := dc (mostD f n)
 cases t with
 | true =>
  have HR : suitD D f 2 n true = D &&& mostD f n := by unfold suitD setD;simp
  rw [HR] at hR
  have KT := Kept.mk (fun W => dc_And hD hM hR W)
  clear HR
  have K1 := Kept.mk (fun W => dc_atMost hM g1 g2 h1 h2 W)
  have hMi := hM.info'
  have hMo := hM.one'
  have hMi2 := hM.info
  have hMl := hM.len
  have hMs : cM.toArray.size = 32 := by rw [List.size_toArray];exact hMl
  have hDl := hD.len
  have hDi := hD.info
  have hRi := hR.info'
  have hRo := hR.one'
  have hRl := hR.len
  have hRs : cR.toArray.size = 32 := by rw [List.size_toArray];exact hRl
  have hun := dUnder
  clear hM hD hR
  go_enter Tryz.func168,Tryz.ntmps168
  go_wp2_with (first | (refine wpList_store_mid rfl 161 _ _ rfl (w.heap.size + 1) 0 cR.toArray rfl rfl tb5 hRi hRo ?_) | (go_at_call 171;refine (KT.get _).mono ?_;rintro e w5 ⟨rfl,hg5⟩;have hB5 := HB.out.kept hg5;have tb5 : w5.there (w.heap.size + 1) 0 cR.toArray.size := (by obtain ⟨z,hz⟩ := hB5.b1;rw [hRs];exact hz.there);obtain ⟨q1,q2⟩ := hB5.done hRl) | (refine wpList_load_mid rfl 161 _ rfl w1.heap.size 0 rfl cM _ rm hun rfl hMi2 ?_) | (refine wpList_load_mid rfl 161 _ rfl w.heap.size 0 rfl cD _ rd hun rfl hDi ?_) | (refine wpList_store_new rfl 161 _ _ rfl cM.toArray 161 _ rfl rfl hMi (by rw [hMs];rfl) hMo ?_) | (go_at_call 197;refine (K1.get _).mono ?_;rintro e w1 ⟨rfl,hg1⟩;have HB := hide (suit_start hDl hMl dZeroL.symm (dL_len 0) hg1);have rd := HB.out.b0.range;have rm := HB.out.b2.range))
  refine bodyPost_ret (results_cell_row rfl _ _ (w.heap.size + 1) 161 cR.toArray (0,0) _ rfl q2.at_ hun rfl hRi) rfl ?_
  exact ⟨rfl,q1⟩
 | false =>
  have HR : suitD D f 2 n false = subD D (mostD f n) := by unfold suitD setD;simp
  rw [HR] at hR
  have KT := Kept.mk (fun W => dc_Without hD hM hR W)
  clear HR
  have K1 := Kept.mk (fun W => dc_atMost hM g1 g2 h1 h2 W)
  have hMi := hM.info'
  have hMo := hM.one'
  have hMi2 := hM.info
  have hMl := hM.len
  have hMs : cM.toArray.size = 32 := by rw [List.size_toArray];exact hMl
  have hDl := hD.len
  have hDi := hD.info
  have hRi := hR.info'
  have hRo := hR.one'
  have hRl := hR.len
  have hRs : cR.toArray.size = 32 := by rw [List.size_toArray];exact hRl
  have hun := dUnder
  clear hM hD hR
  go_enter Tryz.func168,Tryz.ntmps168
  go_wp2_with (first | (refine wpList_store_mid rfl 161 _ _ rfl (w.heap.size + 1) 0 cR.toArray rfl rfl tb5 hRi hRo ?_) | (go_at_call 198;refine (KT.get _).mono ?_;rintro e w5 ⟨rfl,hg5⟩;have hB5 := HB.out.kept hg5;have tb5 : w5.there (w.heap.size + 1) 0 cR.toArray.size := (by obtain ⟨z,hz⟩ := hB5.b1;rw [hRs];exact hz.there);obtain ⟨q1,q2⟩ := hB5.done hRl) | (refine wpList_load_mid rfl 161 _ rfl w1.heap.size 0 rfl cM _ rm hun rfl hMi2 ?_) | (refine wpList_load_mid rfl 161 _ rfl w.heap.size 0 rfl cD _ rd hun rfl hDi ?_) | (refine wpList_store_new rfl 161 _ _ rfl cM.toArray 161 _ rfl rfl hMi (by rw [hMs];rfl) hMo ?_) | (go_at_call 197;refine (K1.get _).mono ?_;rintro e w1 ⟨rfl,hg1⟩;have HB := hide (suit_start hDl hMl dZeroL.symm (dL_len 0) hg1);have rd := HB.out.b0.range;have rm := HB.out.b2.range))
  refine bodyPost_ret (results_cell_row rfl _ _ (w.heap.size + 1) 161 cR.toArray (0,0) _ rfl q2.at_ hun rfl hRi) rfl ?_
  exact ⟨rfl,q1⟩
end
section
set_option maxHeartbeats 4000000
set_option maxRecDepth 100000
attribute [local go_sem ↓] ld_veil st_veil
variable {w0 w w' w'' : World} {X : SL} {K : SK} {s : SS} {vT vS : Value}
theorem wrap_s64 {n : Int} (h0 : -9223372036854775808 ≤ n) (h1 : n ≤ 9223372036854775807) : IntKind.i64.wrap n = n := by
 unfold IntKind.wrap
 simp [IntKind.bits,IntKind.signed]
 omega
theorem suit_0t (D : Nat) (f n : Int) {cD cR : List Value} (hD : DC D cD) (hR : DC (suitD D f 0 n true) cR) (g1 : -1000000000 ≤ f) (g2 : f ≤ 1000000000) (h1 : -100000000000 ≤ n) (h2 : n ≤ 100000000000) (w : World) : Calls Tryz.prog 168 #[.agg cD.toArray,.int .i64 f,.int .i64 0,.int .i64 n,.bool true] w fun e w' => e = .returned (.agg cR.toArray) ∧ w.grownBy w' none := by
 have HR : suitD D f 0 n true = D &&& (mostD f n &&& mostD (-f) (-n)) := by unfold suitD setD;simp
 have hw1 : IntKind.i64.wrap (-f) = -f := wrap_s64 (by omega) (by omega)
 have hw2 : IntKind.i64.wrap (-n) = -n := wrap_s64 (by omega) (by omega)
 obtain ⟨cM,hM⟩ := dc (mostD f n)
 obtain ⟨cN,hN⟩ := dc (mostD (-f) (-n))
 obtain ⟨cS,hS⟩ := dc (mostD f n &&& mostD (-f) (-n))
 rw [HR] at hR
 clear HR
 have KT := Kept.mk (fun W => dc_And hD hS hR W)
 have K3 := Kept.mk (fun W => dc_And hM hN hS W)
 have K2 := Kept.mk (fun W => dc_atMost hN (by omega) (by omega) (by omega) (by omega) W)
 have K1 := Kept.mk (fun W => dc_atMost hM g1 g2 h1 h2 W)
 have hMi := hM.info'
 have hMo := hM.one'
 have hMi2 := hM.info
 have hMl := hM.len
 have hMs : cM.toArray.size = 32 := by rw [List.size_toArray];exact hMl
 have hDl := hD.len
 have hDi := hD.info
 have hRi := hR.info'
 have hRo := hR.one'
 have hRl := hR.len
 have hRs : cR.toArray.size = 32 := by rw [List.size_toArray];exact hRl
 have hSi := hS.info'
 have hSi2 := hS.info
 have hSo := hS.one
 have hSl := hS.len
 have hSs : cS.toArray.size = 32 := by rw [List.size_toArray];exact hSl
 have hun := dUnder
 clear hM hD hR hN hS
 go_enter Tryz.func168,Tryz.ntmps168
 go_wp2_with (first | (refine wpList_store_new rfl 161 _ _ rfl cM.toArray 161 _ rfl rfl hMi (by rw [hMs];rfl) hMo ?_) | (go_at_call 197;refine (K1.get _).mono ?_;rintro e w1 ⟨rfl,hg1⟩))
 have HB := hide (suit_start hDl hMl dZeroL.symm (dL_len 0) hg1)
 obtain ⟨P,hP⟩ : ∃ P,P = w1.heap.size := ⟨_,rfl⟩
 rw [← hP] at HB ⊢
 generalize w1.alloc (.cells cM.toArray 161) = W at *
 clear hg1 K1 hP
 have rm0 := ld_range (w := W.drew) HB.out.b2.range hMl
 have HK : Hid (∀ w4 : World,W.drew.grownBy w4 none → Sem.run Tryz.prog (ldS (.pointer (some ⟨P,0,none⟩))) w4 = .ok (.agg cM.toArray) w4 ∧ Sem.run Tryz.prog (stS (.pointer (some ⟨P,0,none⟩)) (.agg cS.toArray)) w4 = .ok () (w4.setCells P 0 cS) ∧ SuitB w P cD cS (w4.setCells P 0 cS)) := fun w4 hg => by
  have q := HB.out.kept ((grown_drew' _ _).trans hg)
  exact ⟨ld_range q.b2.range hMl,st_there q.b2.there hSl hSo,q.store hSl⟩
 go_region_with (first | (go_at_call 171;refine (K3.get _).mono ?_;rintro e w4 ⟨rfl,hg4⟩;obtain ⟨_,tb4,hB4⟩ := HK.out w4 (hg3.trans hg4)) | (go_at_call 197;refine (K2.get _).mono ?_;rintro e w3 ⟨rfl,hg3⟩;have rm3 := (HK.out w3 hg3).1))
 all_goals
  have HB4 := hide hB4
  have rd4 := HB4.out.b0.range
  have rm4 := HB4.out.b2.range
  clear hB4 tb4 hg3 hg4 K2 K3 rm0
  go_wp2_with (first | (refine wpList_store_mid rfl 161 _ _ rfl (w.heap.size + 1) 0 cR.toArray rfl rfl tb5 hRi hRo ?_) | (go_at_call 171;refine (KT.get _).mono ?_;rintro e w5 ⟨rfl,hg5⟩;have hB5 := HB4.out.kept hg5;have tb5 : w5.there (w.heap.size + 1) 0 cR.toArray.size := (by obtain ⟨z,hz⟩ := hB5.b1;rw [hRs];exact hz.there);obtain ⟨q1,q2⟩ := hB5.done hRl) | (refine wpList_load_mid rfl 161 _ rfl P 0 rfl cS _ rm4 hun rfl hSi2 ?_) | (refine wpList_load_mid rfl 161 _ rfl w.heap.size 0 rfl cD _ rd4 hun rfl hDi ?_))
  refine bodyPost_ret (results_cell_row rfl _ _ (w.heap.size + 1) 161 cR.toArray (0,0) _ rfl q2.at_ hun rfl hRi) rfl ?_
  exact ⟨rfl,q1⟩
theorem suit_0f (D : Nat) (f n : Int) {cD cR : List Value} (hD : DC D cD) (hR : DC (suitD D f 0 n false) cR) (g1 : -1000000000 ≤ f) (g2 : f ≤ 1000000000) (h1 : -100000000000 ≤ n) (h2 : n ≤ 100000000000) (w : World) : Calls Tryz.prog 168 #[.agg cD.toArray,.int .i64 f,.int .i64 0,.int .i64 n,.bool false] w fun e w' => e = .returned (.agg cR.toArray) ∧ w.grownBy w' none := by
 have HR : suitD D f 0 n false = subD D (mostD f n &&& mostD (-f) (-n)) := by unfold suitD setD;simp
 have hw1 : IntKind.i64.wrap (-f) = -f := wrap_s64 (by omega) (by omega)
 have hw2 : IntKind.i64.wrap (-n) = -n := wrap_s64 (by omega) (by omega)
 obtain ⟨cM,hM⟩ := dc (mostD f n)
 obtain ⟨cN,hN⟩ := dc (mostD (-f) (-n))
 obtain ⟨cS,hS⟩ := dc (mostD f n &&& mostD (-f) (-n))
 rw [HR] at hR
 clear HR
 have KT := Kept.mk (fun W => dc_Without hD hS hR W)
 have K3 := Kept.mk (fun W => dc_And hM hN hS W)
 have K2 := Kept.mk (fun W => dc_atMost hN (by omega) (by omega) (by omega) (by omega) W)
 have K1 := Kept.mk (fun W => dc_atMost hM g1 g2 h1 h2 W)
 have hMi := hM.info'
 have hMo := hM.one'
 have hMi2 := hM.info
 have hMl := hM.len
 have hMs : cM.toArray.size = 32 := by rw [List.size_toArray];exact hMl
 have hDl := hD.len
 have hDi := hD.info
 have hRi := hR.info'
 have hRo := hR.one'
 have hRl := hR.len
 have hRs : cR.toArray.size = 32 := by rw [List.size_toArray];exact hRl
 have hSi := hS.info'
 have hSi2 := hS.info
 have hSo := hS.one
 have hSl := hS.len
 have hSs : cS.toArray.size = 32 := by rw [List.size_toArray];exact hSl
 have hun := dUnder
 clear hM hD hR hN hS
 go_enter Tryz.func168,Tryz.ntmps168
 go_wp2_with (first | (refine wpList_store_new rfl 161 _ _ rfl cM.toArray 161 _ rfl rfl hMi (by rw [hMs];rfl) hMo ?_) | (go_at_call 197;refine (K1.get _).mono ?_;rintro e w1 ⟨rfl,hg1⟩))
 have HB := hide (suit_start hDl hMl dZeroL.symm (dL_len 0) hg1)
 obtain ⟨P,hP⟩ : ∃ P,P = w1.heap.size := ⟨_,rfl⟩
 rw [← hP] at HB ⊢
 generalize w1.alloc (.cells cM.toArray 161) = W at *
 clear hg1 K1 hP
 have rm0 := ld_range (w := W.drew) HB.out.b2.range hMl
 have HK : Hid (∀ w4 : World,W.drew.grownBy w4 none → Sem.run Tryz.prog (ldS (.pointer (some ⟨P,0,none⟩))) w4 = .ok (.agg cM.toArray) w4 ∧ Sem.run Tryz.prog (stS (.pointer (some ⟨P,0,none⟩)) (.agg cS.toArray)) w4 = .ok () (w4.setCells P 0 cS) ∧ SuitB w P cD cS (w4.setCells P 0 cS)) := fun w4 hg => by
  have q := HB.out.kept ((grown_drew' _ _).trans hg)
  exact ⟨ld_range q.b2.range hMl,st_there q.b2.there hSl hSo,q.store hSl⟩
 go_region_with (first | (go_at_call 171;refine (K3.get _).mono ?_;rintro e w4 ⟨rfl,hg4⟩;obtain ⟨_,tb4,hB4⟩ := HK.out w4 (hg3.trans hg4)) | (go_at_call 197;refine (K2.get _).mono ?_;rintro e w3 ⟨rfl,hg3⟩;have rm3 := (HK.out w3 hg3).1))
 all_goals
  have HB4 := hide hB4
  have rd4 := HB4.out.b0.range
  have rm4 := HB4.out.b2.range
  clear hB4 tb4 hg3 hg4 K2 K3 rm0
  go_wp2_with (first | (refine wpList_store_mid rfl 161 _ _ rfl (w.heap.size + 1) 0 cR.toArray rfl rfl tb5 hRi hRo ?_) | (go_at_call 198;refine (KT.get _).mono ?_;rintro e w5 ⟨rfl,hg5⟩;have hB5 := HB4.out.kept hg5;have tb5 : w5.there (w.heap.size + 1) 0 cR.toArray.size := (by obtain ⟨z,hz⟩ := hB5.b1;rw [hRs];exact hz.there);obtain ⟨q1,q2⟩ := hB5.done hRl) | (refine wpList_load_mid rfl 161 _ rfl P 0 rfl cS _ rm4 hun rfl hSi2 ?_) | (refine wpList_load_mid rfl 161 _ rfl w.heap.size 0 rfl cD _ rd4 hun rfl hDi ?_))
  refine bodyPost_ret (results_cell_row rfl _ _ (w.heap.size + 1) 161 cR.toArray (0,0) _ rfl q2.at_ hun rfl hRi) rfl ?_
  exact ⟨rfl,q1⟩
theorem suit_1t (D : Nat) (f n : Int) {cD cR : List Value} (hD : DC D cD) (hR : DC (suitD D f 1 n true) cR) (g1 : -1000000000 ≤ f) (g2 : f ≤ 1000000000) (h1 : -100000000000 ≤ n) (h2 : n ≤ 100000000000) (w : World) : Calls Tryz.prog 168 #[.agg cD.toArray,.int .i64 f,.int .i64 1,.int .i64 n,.bool true] w fun e w' => e = .returned (.agg cR.toArray) ∧ w.grownBy w' none := by
 have HR : suitD D f 1 n true = subD D (mostD f n &&& mostD (-f) (-n)) := by unfold suitD setD;simp
 have hw1 : IntKind.i64.wrap (-f) = -f := wrap_s64 (by omega) (by omega)
 have hw2 : IntKind.i64.wrap (-n) = -n := wrap_s64 (by omega) (by omega)
 obtain ⟨cM,hM⟩ := dc (mostD f n)
 obtain ⟨cN,hN⟩ := dc (mostD (-f) (-n))
 obtain ⟨cS,hS⟩ := dc (mostD f n &&& mostD (-f) (-n))
 rw [HR] at hR
 clear HR
 have KT := Kept.mk (fun W => dc_Without hD hS hR W)
 have K3 := Kept.mk (fun W => dc_And hM hN hS W)
 have K2 := Kept.mk (fun W => dc_atMost hN (by omega) (by omega) (by omega) (by omega) W)
 have K1 := Kept.mk (fun W => dc_atMost hM g1 g2 h1 h2 W)
 have hMi := hM.info'
 have hMo := hM.one'
 have hMi2 := hM.info
 have hMl := hM.len
 have hMs : cM.toArray.size = 32 := by rw [List.size_toArray];exact hMl
 have hDl := hD.len
 have hDi := hD.info
 have hRi := hR.info'
 have hRo := hR.one'
 have hRl := hR.len
 have hRs : cR.toArray.size = 32 := by rw [List.size_toArray];exact hRl
 have hSi := hS.info'
 have hSi2 := hS.info
 have hSo := hS.one
 have hSl := hS.len
 have hSs : cS.toArray.size = 32 := by rw [List.size_toArray];exact hSl
 have hun := dUnder
 clear hM hD hR hN hS
 go_enter Tryz.func168,Tryz.ntmps168
 go_wp2_with (first | (refine wpList_store_new rfl 161 _ _ rfl cM.toArray 161 _ rfl rfl hMi (by rw [hMs];rfl) hMo ?_) | (go_at_call 197;refine (K1.get _).mono ?_;rintro e w1 ⟨rfl,hg1⟩))
 have HB := hide (suit_start hDl hMl dZeroL.symm (dL_len 0) hg1)
 obtain ⟨P,hP⟩ : ∃ P,P = w1.heap.size := ⟨_,rfl⟩
 rw [← hP] at HB ⊢
 generalize w1.alloc (.cells cM.toArray 161) = W at *
 clear hg1 K1 hP
 have rm0 := ld_range (w := W.drew) HB.out.b2.range hMl
 have HK : Hid (∀ w4 : World,W.drew.grownBy w4 none → Sem.run Tryz.prog (ldS (.pointer (some ⟨P,0,none⟩))) w4 = .ok (.agg cM.toArray) w4 ∧ Sem.run Tryz.prog (stS (.pointer (some ⟨P,0,none⟩)) (.agg cS.toArray)) w4 = .ok () (w4.setCells P 0 cS) ∧ SuitB w P cD cS (w4.setCells P 0 cS)) := fun w4 hg => by
  have q := HB.out.kept ((grown_drew' _ _).trans hg)
  exact ⟨ld_range q.b2.range hMl,st_there q.b2.there hSl hSo,q.store hSl⟩
 go_region_with (first | (go_at_call 171;refine (K3.get _).mono ?_;rintro e w4 ⟨rfl,hg4⟩;obtain ⟨_,tb4,hB4⟩ := HK.out w4 (hg3.trans hg4)) | (go_at_call 197;refine (K2.get _).mono ?_;rintro e w3 ⟨rfl,hg3⟩;have rm3 := (HK.out w3 hg3).1))
 all_goals
  have HB4 := hide hB4
  have rd4 := HB4.out.b0.range
  have rm4 := HB4.out.b2.range
  clear hB4 tb4 hg3 hg4 K2 K3 rm0
  go_wp2_with (first | (refine wpList_store_mid rfl 161 _ _ rfl (w.heap.size + 1) 0 cR.toArray rfl rfl tb5 hRi hRo ?_) | (go_at_call 198;refine (KT.get _).mono ?_;rintro e w5 ⟨rfl,hg5⟩;have hB5 := HB4.out.kept hg5;have tb5 : w5.there (w.heap.size + 1) 0 cR.toArray.size := (by obtain ⟨z,hz⟩ := hB5.b1;rw [hRs];exact hz.there);obtain ⟨q1,q2⟩ := hB5.done hRl) | (refine wpList_load_mid rfl 161 _ rfl P 0 rfl cS _ rm4 hun rfl hSi2 ?_) | (refine wpList_load_mid rfl 161 _ rfl w.heap.size 0 rfl cD _ rd4 hun rfl hDi ?_))
  refine bodyPost_ret (results_cell_row rfl _ _ (w.heap.size + 1) 161 cR.toArray (0,0) _ rfl q2.at_ hun rfl hRi) rfl ?_
  exact ⟨rfl,q1⟩
theorem suit_1f (D : Nat) (f n : Int) {cD cR : List Value} (hD : DC D cD) (hR : DC (suitD D f 1 n false) cR) (g1 : -1000000000 ≤ f) (g2 : f ≤ 1000000000) (h1 : -100000000000 ≤ n) (h2 : n ≤ 100000000000) (w : World) : Calls Tryz.prog 168 #[.agg cD.toArray,.int .i64 f,.int .i64 1,.int .i64 n,.bool false] w fun e w' => e = .returned (.agg cR.toArray) ∧ w.grownBy w' none := by
 have HR : suitD D f 1 n false = D &&& (mostD f n &&& mostD (-f) (-n)) := by unfold suitD setD;simp
 have hw1 : IntKind.i64.wrap (-f) = -f := wrap_s64 (by omega) (by omega)
 have hw2 : IntKind.i64.wrap (-n) = -n := wrap_s64 (by omega) (by omega)
 obtain ⟨cM,hM⟩ := dc (mostD f n)
 obtain ⟨cN,hN⟩ := dc (mostD (-f) (-n))
 obtain ⟨cS,hS⟩ := dc (mostD f n &&& mostD (-f) (-n))
 rw [HR] at hR
 clear HR
 have KT := Kept.mk (fun W => dc_And hD hS hR W)
 have K3 := Kept.mk (fun W => dc_And hM hN hS W)
 have K2 := Kept.mk (fun W => dc_atMost hN (by omega) (by omega) (by omega) (by omega) W)
 have K1 := Kept.mk (fun W => dc_atMost hM g1 g2 h1 h2 W)
 have hMi := hM.info'
 have hMo := hM.one'
 have hMi2 := hM.info
 have hMl := hM.len
 have hMs : cM.toArray.size = 32 := by rw [List.size_toArray];exact hMl
 have hDl := hD.len
 have hDi := hD.info
 have hRi := hR.info'
 have hRo := hR.one'
 have hRl := hR.len
 have hRs : cR.toArray.size = 32 := by rw [List.size_toArray];exact hRl
 have hSi := hS.info'
 have hSi2 := hS.info
 have hSo := hS.one
 have hSl := hS.len
 have hSs : cS.toArray.size = 32 := by rw [List.size_toArray];exact hSl
 have hun := dUnder
 clear hM hD hR hN hS
 go_enter Tryz.func168,Tryz.ntmps168
 go_wp2_with (first | (refine wpList_store_new rfl 161 _ _ rfl cM.toArray 161 _ rfl rfl hMi (by rw [hMs];rfl) hMo ?_) | (go_at_call 197;refine (K1.get _).mono ?_;rintro e w1 ⟨rfl,hg1⟩))
 have HB := hide (suit_start hDl hMl dZeroL.symm (dL_len 0) hg1)
 obtain ⟨P,hP⟩ : ∃ P,P = w1.heap.size := ⟨_,rfl⟩
 rw [← hP] at HB ⊢
 generalize w1.alloc (.cells cM.toArray 161) = W at *
 clear hg1 K1 hP
 have rm0 := ld_range (w := W.drew) HB.out.b2.range hMl
 have HK : Hid (∀ w4 : World,W.drew.grownBy w4 none → Sem.run Tryz.prog (ldS (.pointer (some ⟨P,0,none⟩))) w4 = .ok (.agg cM.toArray) w4 ∧ Sem.run Tryz.prog (stS (.pointer (some ⟨P,0,none⟩)) (.agg cS.toArray)) w4 = .ok () (w4.setCells P 0 cS) ∧ SuitB w P cD cS (w4.setCells P 0 cS)) := fun w4 hg => by
  have q := HB.out.kept ((grown_drew' _ _).trans hg)
  exact ⟨ld_range q.b2.range hMl,st_there q.b2.there hSl hSo,q.store hSl⟩
 go_region_with (first | (go_at_call 171;refine (K3.get _).mono ?_;rintro e w4 ⟨rfl,hg4⟩;obtain ⟨_,tb4,hB4⟩ := HK.out w4 (hg3.trans hg4)) | (go_at_call 197;refine (K2.get _).mono ?_;rintro e w3 ⟨rfl,hg3⟩;have rm3 := (HK.out w3 hg3).1))
 all_goals
  have HB4 := hide hB4
  have rd4 := HB4.out.b0.range
  have rm4 := HB4.out.b2.range
  clear hB4 tb4 hg3 hg4 K2 K3 rm0
  go_wp2_with (first | (refine wpList_store_mid rfl 161 _ _ rfl (w.heap.size + 1) 0 cR.toArray rfl rfl tb5 hRi hRo ?_) | (go_at_call 171;refine (KT.get _).mono ?_;rintro e w5 ⟨rfl,hg5⟩;have hB5 := HB4.out.kept hg5;have tb5 : w5.there (w.heap.size + 1) 0 cR.toArray.size := (by obtain ⟨z,hz⟩ := hB5.b1;rw [hRs];exact hz.there);obtain ⟨q1,q2⟩ := hB5.done hRl) | (refine wpList_load_mid rfl 161 _ rfl P 0 rfl cS _ rm4 hun rfl hSi2 ?_) | (refine wpList_load_mid rfl 161 _ rfl w.heap.size 0 rfl cD _ rd4 hun rfl hDi ?_))
  refine bodyPost_ret (results_cell_row rfl _ _ (w.heap.size + 1) 161 cR.toArray (0,0) _ rfl q2.at_ hun rfl hRi) rfl ?_
  exact ⟨rfl,q1⟩
theorem dc_suiting {D : Nat} {f rel n : Int} {t : Bool} {cD cR : List Value} (hr : rel = 0 ∨ rel = 1 ∨ rel = 2) (hD : DC D cD) (hR : DC (suitD D f rel n t) cR) (g1 : -1000000000 ≤ f) (g2 : f ≤ 1000000000) (h1 : -100000000000 ≤ n) (h2 : n ≤ 100000000000) (w : World) : Calls Tryz.prog 168 #[.agg cD.toArray,.int .i64 f,.int .i64 rel,.int .i64 n,.bool t] w fun e w' => e = .returned (.agg cR.toArray) ∧ w.grownBy w' none := by
 rcases hr with rfl | rfl | rfl
 ·cases t with
  | true => exact suit_0t D f n hD hR g1 g2 h1 h2 w
  | false => exact suit_0f D f n hD hR g1 g2 h1 h2 w
 ·cases t with
  | true => exact suit_1t D f n hD hR g1 g2 h1 h2 w
  | false => exact suit_1f D f n hD hR g1 g2 h1 h2 w
 ·exact suit_le D f n t hD hR g1 g2 h1 h2 w
end
end Go.Proofs.YthpcbbnabnlanaaGreatDoor
