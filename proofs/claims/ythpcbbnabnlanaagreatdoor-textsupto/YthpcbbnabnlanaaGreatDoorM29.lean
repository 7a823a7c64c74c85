import Derived.Test.YthpcbbnabnlanaaGreatDoorM27
import Derived.Laws.CopyOwn
import Derived.Deep.QuietTactic
import Derived.BigQuiet
namespace Go.Proofs.YthpcbbnabnlanaaGreatDoor
open Go.RowKit
set_option linter.unusedVariables false
set_option linter.unusedSimpArgs false
section
set_option maxHeartbeats 8000000
set_option maxRecDepth 100000
variable {w w' w1 : World} {B bw c T : Nat} {V : LV} {D : LD} {K : Keep → Prop}
structure ValsOf (w : World) (va : Option Addr) (vn : Nat) (vals : List Int) : Prop where
 len : vals.length = vn
 at_ : ∀ (j : Nat) (x : Int),vals[j]? = some x → ∃ g off,va = some ⟨g,off,none⟩ ∧ g < w.heap.size ∧ w.cell? ⟨g,off + j,none⟩ = some (.int .i64 x)
theorem ValsOf.grown {va : Option Addr} {vn : Nat} {vals : List Int} (h : ValsOf w va vn vals) (hg : w.grownBy w' none) : ValsOf w' va vn vals := ⟨h.len,fun j x hx => by
 obtain ⟨g,o,e,h1,h2⟩ := h.at_ j x hx
 exact ⟨g,o,e,Nat.lt_of_lt_of_le h1 hg.size,hg.cell h2 (by simp)⟩⟩
theorem ValsOf.vof {va : Option Addr} {vn : Nat} {vals : List Int} (h : ValsOf w va vn vals) : vals = [] ∨ ∃ g o,va = some ⟨g,o,none⟩ ∧ VOf w g o vals := by
 cases hv : vals with
 | nil => exact .inl rfl
 | cons a l =>
  obtain ⟨g,o,e,_,_⟩ := h.at_ 0 a (by rw [hv];rfl)
  refine .inr ⟨g,o,e,fun p hp => ?_⟩
  rw [← hv] at hp ⊢
  obtain ⟨g',o',e',_,q⟩ := h.at_ p.toNat _ (vAt_get hp)
  rw [e] at e'
  cases e'
  exact q
theorem md_SuitsL {b : Nat} {V : List QVar} {C : List QCon} {t : List UInt8} {vv : Value} {vals : List Int} (h : MdAt w b V C t) (hM : MdOk V C) (hV : ValsIn w vv vals) : Calls Tryz.prog 27 #[.pointer (some ⟨b,0,none⟩),vv] w fun e w' => e = .returned (.bool (suitsP V C vals)) ∧ w.grownBy w' none := by
 obtain ⟨bc,B,vV,vC,cs,h1,h2,h3⟩ := h.set
 subst h3
 exact pn_Suits h1 h2 hV hM.vars hM.vlen (fun x hx => hM.cons x.c (List.mem_map.2 ⟨x,hx,rfl⟩)) (by have := hM.clen;simpa using this)
theorem ref_SuitsL {r cv : Nat} {s : ByteArray} {a : Option Addr} {vals : List Int} (h : RefSeen w r s) (hG : GoodS s) (hV : vals = [] ∨ ∃ g o,a = some ⟨g,o,none⟩ ∧ VOf w g o vals) : Calls Tryz.prog 57 #[.pointer (some ⟨r,0,none⟩),.slice a vals.length cv] w fun e w' => e = .returned (.bool (suitsP (varsOf s) (consOf s) vals)) ∧ w.grownBy w' none := by
 obtain ⟨ta,va,la,ra,tc,vc,lc,rc,lists,rules,_,_,hR,hl,hr⟩ := h
 have q := ref_Suits (cv := cv) hR (hG.fit hl hr) hV
 rw [hG.suits hl hr] at q
 exact q
theorem pushAll3 (D : LD) (L : List LP) : pushAll D 3 L = { D with us := D.us ++ L,xs := D.xs ++ L.map (·.mark) } := by
 induction L generalizing D with
 | nil => simp [pushAll]
 | cons x L ih =>
  have e : pushAll D 3 (x :: L) = pushAll ((D.pl 3 x).pk 4 x.mark) 3 L := rfl
  rw [e,ih]
  simp [LD.pl,LD.pk]
theorem LG.oneI {K2 : Keep → Prop} {V2 : LV} {L : List LP} {i : Int} {n : Nat} (h : LG w B bw V D c K T) (hl : LW w' B bw V2 (pushAll D 3 L) (c + 1) K2) (k2 : ∀ x,K x → K2 x) (h1 : ∀ x ∈ L,K2 (lstKeep x) ∧ x.mark = .int .i64 i ∧ x.len ≤ n + 65) (l1 : L.length ≤ 65) (hn : n ≤ 2000000) : LG w' B bw V2 (pushAll D 3 L) (c + 1) K2 (T + 1) := by
 have c1 := pushAll_cnt D (i := 3) (.inr (.inl rfl)) L
 have e := pushAll3 D L
 refine ⟨hl,?_,?_,?_,fun x hx => ?_,fun x hx => ?_,fun x hx => ?_,fun x hx => ?_,?_,fun i hi => ?_,?_⟩
 ·rw [e];exact h.n1
 ·rw [e];simp [h.n2]
 ·rw [e];exact h.n3
 ·rw [e] at hx;exact ⟨k2 _ (h.l1 x hx).1,(h.l1 x hx).2⟩
 ·rw [e] at hx
  rcases List.mem_append.1 hx with hx | hx
  ·obtain ⟨q1,q2,q3⟩ := h.l2 x hx
   exact ⟨k2 _ q1,q2,q3⟩
  ·obtain ⟨q1,q2,q3⟩ := h1 x hx
   exact ⟨q1,by omega,_,q2⟩
 ·rw [e] at hx
  obtain ⟨⟨bs,q1⟩,q2⟩ := h.l3 x hx
  exact ⟨⟨bs,k2 _ q1⟩,q2⟩
 ·rw [e] at hx;exact k2 _ (h.ms x hx)
 ·rw [e];exact h.m20
 ·have := h.bd i hi;have := c1 i hi;omega
 ·have := h.cb;omega
def icells (vals : List Int) : List Value := vals.map (.int .i64)
theorem ic_len (vals : List Int) : (icells vals).length = vals.length := by simp [icells]
theorem ic_get {vals : List Int} {j : Nat} {x : Int} (h : vals[j]? = some x) : (icells vals)[j]? = some (.int .i64 x) := by simp [icells,h]
theorem ic_flat (vals : List Int) : vals.flatMap inCell = icells vals := by
 induction vals with
 | nil => rfl
 | cons a l ih => simp only [List.flatMap_cons,ih];rfl
theorem ic_one (vals : List Int) : ∀ v ∈ icells vals,v.oneCell' = true := by
 intro v hv
 obtain ⟨x,_,rfl⟩ := List.mem_map.1 hv
 rfl
theorem infoI1 : (Tryz.prog.info? 3).map (·.size) = some 1 := by kernel_rfl
theorem su_splice (vals : List Int) : splice (madeCells #[.int .i64 0] (vals.length + 2)).toList 0 (icells vals) = icells vals ++ [.int .i64 0,.int .i64 0] := by
 have e : (madeCells #[.int .i64 0] (vals.length + 2)).toList = List.replicate (vals.length + 2) (.int .i64 0) := by
  simp only [madeCells,List.size_toArray,List.length_singleton,Nat.mod_one]
  simp [List.map_const']
 rw [e]
 unfold splice
 rw [ic_len,List.take_zero,List.nil_append,Nat.zero_add,List.drop_replicate,show vals.length + 2 - vals.length = 2 by omega]
 rfl
theorem su_own {w4 : World} {B g : Nat} {vals : List Int} (hg : w4.heap[g]? = some (.cells (splice (madeCells #[.int .i64 0] (vals.length + 2)).toList 0 (icells vals)).toArray 3 (0,0))) (hB : B ≤ g) (hm : vals.length ≤ 1100000) : w4.ownsRow B 3 1 (.slice (some ⟨g,0,none⟩) (vals.length + 2) (vals.length + 2)) (vals.length + 2) (icells vals ++ [.int .i64 0,.int .i64 0]) := by
 rw [su_splice] at hg
 refine ⟨by simp [ic_len],.inr ⟨g,vals.length + 2,_,rfl,hB,hg,Nat.le_refl _,by unfold maxLen;omega,by simp [ic_len],?_⟩⟩
 rw [List.take_of_length_le (by simp [ic_len])]
structure Su6 (w4 w6 : World) (B g : Nat) (vals : List Int) : Prop where
 own : w6.ownsRow B 3 1 (.slice (some ⟨g,0,none⟩) (vals.length + 2) (vals.length + 2)) (vals.length + 2) (icells vals ++ [.int .i64 77,.int .i64 78])
 gr : w4.grownBy w6 (some g)
theorem su_stores {w4 : World} {B g : Nat} {vals : List Int} (h : w4.ownsRow B 3 1 (.slice (some ⟨g,0,none⟩) (vals.length + 2) (vals.length + 2)) (vals.length + 2) (icells vals ++ [.int .i64 0,.int .i64 0])) : (w4.cell? ⟨g,vals.length,none⟩ = some (.int .i64 0) ∧ w4.frozen? ⟨g,vals.length,none⟩ = false) ∧ ((w4.setCell ⟨g,vals.length,none⟩ (.int .i64 77)).cell? ⟨g,vals.length + 1,none⟩ = some (.int .i64 0) ∧ (w4.setCell ⟨g,vals.length,none⟩ (.int .i64 77)).frozen? ⟨g,vals.length + 1,none⟩ = false) ∧
   Su6 w4 ((w4.setCell ⟨g,vals.length,none⟩ (.int .i64 77)).setCell ⟨g,vals.length + 1,none⟩ (.int .i64 78)) B g vals := by
 obtain ⟨h5,g5⟩ := h.stored vals.length (.int .i64 77)
 obtain ⟨h6,g6⟩ := h5.stored (vals.length + 1) (.int .i64 78)
 have e5 : (icells vals ++ [Value.int .i64 0,.int .i64 0]).set vals.length (.int .i64 77) = icells vals ++ [.int .i64 77,.int .i64 0] := by
  rw [List.set_append_right _ _ (by rw [ic_len];omega),ic_len,Nat.sub_self];rfl
 have e6 : (icells vals ++ [Value.int .i64 77,.int .i64 0]).set (vals.length + 1) (.int .i64 78) = icells vals ++ [.int .i64 77,.int .i64 78] := by
  rw [List.set_append_right _ _ (by rw [ic_len];omega),ic_len,show vals.length + 1 - vals.length = 1 by omega];rfl
 rw [e5] at h5 h6
 rw [e6] at h6
 refine ⟨⟨own_at h ?_,h.frozenAt _⟩,⟨own_at h5 ?_,h5.frozenAt _⟩,h6,g5.trans g6⟩
 ·rw [List.getElem?_append_right (by rw [ic_len];omega),ic_len,Nat.sub_self];rfl
 ·rw [List.getElem?_append_right (by rw [ic_len];omega),ic_len,show vals.length + 1 - vals.length = 1 by omega];rfl
theorem su_back {w W3 w4 w6 : World} {B g : Nat} {vals : List Int} (h : Su6 w4 w6 B g vals) (hb : Below g W3 w4) (h3 : w.grownBy W3 none) (hg : w.heap.size ≤ g) (hs : g < W3.heap.size) : w.grownBy w6 none ∧ (∀ k o,k < g → w6.cell? ⟨k,o,none⟩ = W3.cell? ⟨k,o,none⟩) ∧ g < w6.heap.size := by
 have hs4 := hb.size
 have bl : ∀ k,k < g → w6.heap[k]? = W3.heap[k]? := fun k hk => (h.gr.block k (by omega) (by simp;omega)).trans (hb.block k hk)
 refine ⟨⟨h.gr.os.trans (hb.os.trans h3.os),h.gr.tape.trans (hb.tape.trans h3.tape),h.gr.output.trans (hb.output.trans h3.output),Nat.le_trans h3.size (Nat.le_trans hs4 h.gr.size),fun k hk _ => (bl k (by omega)).trans (h3.block k hk (by simp))⟩,fun k o hk => World.cell?_of_block (a := ⟨k,o,none⟩) (bl k hk),?_⟩
 have := h.gr.size
 omega
def SuR (w6 : World) (n : Nat) (vs vi : Value) (wr : World) : Prop := ∃ i : Nat,i ≤ n ∧ vs = .bool true ∧ vi = .int .i64 i ∧ w6.grownBy wr none
theorem sz1 {w : World} {o : Obj} : (w.alloc o).heap.size = w.heap.size + 1 := by simp
theorem sz2 {w : World} {o o' : Obj} : ((w.alloc o).alloc o').heap.size = w.heap.size + 1 + 1 := by simp
theorem law_suits (h : LG w B bw V D c K T) (hT : T ≤ 1100000) (x : MP) (hx : x ∈ D.ms) (kd on od bu : Int) (tx : ByteArray) (va : Option Addr) (vn vc : Nat) (wk : Bool) (vals : List Int) (hv : ValsOf w va vn vals) (hvn : vn ≤ 1100000) : Calls Tryz.prog 41 #[.pointer (some ⟨bw,0,none⟩),.agg #[.pointer (some ⟨x.b,0,none⟩),.pointer (some ⟨x.r,0,none⟩)],.agg #[.int .i64 kd,.int .i64 on,.string tx,.slice va vn vc,.int .i64 od,.int .i64 bu,.bool wk]] w fun e w' => e = .returned (.bool true) ∧ Stepped w B bw T w' := by
 obtain rfl : vals.length = vn := hv.len
 have HG := hide h
 have HV := hide hv
 have hMod := (h.lw.kp _ (h.ms x hx)).1
 change ModAt w x at hMod
 obtain ⟨b,r,H0,w00,s⟩ := x
 have HM := hide hMod
 have hcb := h.cb
 have hbs := h.lw.hB
 clear h hv hMod
 have hmk := run_make_row' (P := Tryz.prog) 33 3 (.int .i64 0) 8 Tryz.underlying33 infoI9 rfl .i64 .i64 (vals.length + 2) (by omega) (by omega)
 rw [show ((vals.length + 2 : Nat) : Int) = (vals.length : Int) + 2 by omega] at hmk
 obtain ⟨g,hg⟩ : ∃ g,g = w.heap.size + 1 + 1 := ⟨_,rfl⟩
 have HGE := hide hg
 obtain ⟨W3,hW3⟩ : ∃ W,W = ((w.alloc (.cells #[.pointer (some ⟨b,0,none⟩),.pointer (some ⟨r,0,none⟩)] 83)).alloc (.cells #[.int .i64 kd,.int .i64 on,.string tx,.slice va vals.length vc,.int .i64 od,.int .i64 bu,.bool wk] 63)).alloc (.cells (madeCells #[.int .i64 0] (vals.length + 2)) 3) := ⟨_,rfl⟩
 have hg3 : w.grownBy W3 none := by rw [hW3];exact ((World.grownBy_alloc w _ none).trans (World.grownBy_alloc _ _ none)).trans (World.grownBy_alloc _ _ none)
 have b3 : W3.heap[g]? = some (.cells (madeCells #[.int .i64 0] (vals.length + 2)).toList.toArray 3 (0,0)) := by
  rw [Array.toArray_toList,hW3,hg]
  have e := heap_alloc_new ((w.alloc (.cells #[.pointer (some ⟨b,0,none⟩),.pointer (some ⟨r,0,none⟩)] 83)).alloc (.cells #[.int .i64 kd,.int .i64 on,.string tx,.slice va vals.length vc,.int .i64 od,.int .i64 bu,.bool wk] 63)) (.cells (madeCells #[.int .i64 0] (vals.length + 2)) 3)
  rw [sz2] at e
  exact e
 have p3 : W3.cell? ⟨w.heap.size,0,none⟩ = some (.pointer (some ⟨b,0,none⟩)) ∧ W3.cell? ⟨w.heap.size,1,none⟩ = some (.pointer (some ⟨r,0,none⟩)) ∧ W3.cell? ⟨w.heap.size + 1,3,none⟩ = some (.slice va vals.length vc) := by
  rw [hW3]
  have e1 := heap_alloc_new w (.cells #[.pointer (some ⟨b,0,none⟩),.pointer (some ⟨r,0,none⟩)] 83)
  have e2 := heap_alloc_new (w.alloc (.cells #[.pointer (some ⟨b,0,none⟩),.pointer (some ⟨r,0,none⟩)] 83)) (.cells #[.int .i64 kd,.int .i64 on,.string tx,.slice va vals.length vc,.int .i64 od,.int .i64 bu,.bool wk] 63)
  refine ⟨(World.grownBy_alloc _ _ none).cell ((World.grownBy_alloc _ _ none).cell (cell_of e1 0 _ rfl) (by simp)) (by simp),(World.grownBy_alloc _ _ none).cell ((World.grownBy_alloc _ _ none).cell (cell_of e1 1 _ rfl) (by simp)) (by simp),(World.grownBy_alloc _ _ none).cell (by rw [sz1] at e2;exact cell_of e2 3 _ rfl) (by simp)⟩
 have s3 : W3.heap.size = g + 1 := by rw [hW3,hg];simp
 have HS3 := hide s3
 clear s3
 have H3 := hide (And.intro hg3 (And.intro b3 p3))
 have HW3 := hide hW3
 have HVL := hide (show (icells vals).length = Nat.min vals.length (vals.length + 2) by rw [ic_len];exact (Nat.min_eq_left (by omega)).symm)
 have HFIT := hide (show 0 + (icells vals).length ≤ (madeCells #[.int .i64 0] (vals.length + 2)).toList.length by rw [ic_len];have : (madeCells #[.int .i64 0] (vals.length + 2)).toList.length = vals.length + 2 := (by rw [Array.length_toList];exact size_madeCells _ _);omega)
 have HPOS : Hid (0 < (icells vals).length → (some (⟨w.heap.size + 1 + 1,0,none⟩ : Addr)) = some ⟨w.heap.size + 1 + 1,0,none⟩ ∧ ∃ ad,va = some ad ∧ ∀ j v,(icells vals)[j]? = some v → W3.cell? (ad.add j) = some v) := fun h0 => by
  rw [ic_len] at h0
  refine ⟨rfl,?_⟩
  obtain ⟨g',o',e,_,_⟩ := HV.out.at_ 0 (vals[0]) (by simp [h0])
  refine ⟨_,e,fun j v hj => ?_⟩
  simp only [icells,List.getElem?_map,Option.map_eq_some_iff] at hj
  obtain ⟨x,hx',rfl⟩ := hj
  obtain ⟨g2,o2,e2,_,q⟩ := HV.out.at_ j x hx'
  rw [e] at e2
  cases e2
  have hadd : (⟨g',o',none⟩ : Addr).add j = ⟨g',o' + j,none⟩ := by unfold Addr.add;split <;> simp_all
  rw [hadd]
  exact H3.out.1.cell q (by simp)
 clear hg3 b3 p3
 go_enter Tryz.func41,Tryz.ntmps41
 rw [hg] at *
 clear hW3
 go_wp2_with (refine wpList_copy_splice rfl _ _ 33 33 rfl 3 Tryz.underlying33 infoI1 _ _ _ _ _ _ rfl rfl (w.heap.size + 1 + 1) 0 (madeCells #[.int .i64 0] (vals.length + 2)).toList 3 (by rw [← HW3.out];exact H3.out.2.1) (icells vals) HVL.out (by rw [← HW3.out];exact HPOS.out) HFIT.out (ic_one _) (w.heap.size + 1 + 1) W3 (by rw [← HW3.out];exact Below.refl _ _) (Nat.le_refl _) ?_;intro w4 HG4 hB4;have HO4 := hide (su_own (B := B) HG4.out (by omega) hvn);obtain ⟨⟨k1,f1⟩,⟨k2,f2⟩,hS6⟩ := su_stores HO4.out;have HS6 := hide hS6;have HB4 := hide hB4;clear HG4 hB4 hS6 HO4)
 obtain ⟨hg6,hc6,hl6⟩ := su_back HS6.out HB4.out H3.out.1 (by omega) (by rw [HS3.out];omega)
 have q0 := (hc6 w.heap.size 0 (by omega)).trans H3.out.2.2.1
 have q1 := (hc6 w.heap.size 1 (by omega)).trans H3.out.2.2.2.1
 have q2 := (hc6 (w.heap.size + 1) 3 (by omega)).trans H3.out.2.2.2.2
 have own6 := HS6.out.own
 generalize ((w4.setCell ⟨w.heap.size + 1 + 1,vals.length,none⟩ (.int .i64 77)).setCell ⟨w.heap.size + 1 + 1,vals.length + 1,none⟩ (.int .i64 78)) = w6 at *
 have hM : ∀ W,w.grownBy W none → ModAt W ⟨b,r,H0,w00,s⟩ := fun W hg => ((HG.out.grown hg).lw.kp _ (HG.out.ms _ hx)).1
 obtain ⟨R,hR⟩ : ∃ R,suitsP (varsOf s) (consOf s) vals = R := ⟨_,rfl⟩
 have KS := Kept.mk (fun {W : World} (hgW : w6.grownBy W none) => md_SuitsL (vv := .slice (some ⟨w.heap.size + 1 + 1,0,none⟩) vals.length (vals.length + 2)) (vals := vals) ((hM W (hg6.trans hgW)).prog) HM.out.good.md (.inr ⟨_,_,rfl,fun j u hu => hgW.cell (own_at own6 (by
  rw [ic_flat] at hu
  rw [List.getElem?_append_left (List.getElem?_eq_some_iff.1 hu).1];exact hu)) (by simp),Nat.lt_of_lt_of_le hl6 hgW.size⟩))
 have KR := Kept.mk (fun {W : World} (hgW : w.grownBy W none) => ref_SuitsL (cv := vc) (a := va) (vals := vals) ((hM W hgW).ref) HM.out.good ((HV.out.grown hgW).vof))
 simp only at KS KR
 rw [hR] at KS KR
 have HO6 := hide own6
 have HG6 := hide hg6
 have hx' := hide hx
 clear HPOS HFIT HVL H3 HW3 HB4 HS6 hM hc6 hR own6 HM k1 f1 k2 f2 hg6 hx hmk HS3
 have hle2 : (vals.length : Int) ≤ (vals.length : Int) + 2 := by omega
 go_region_law (go_simp;go_at_call 27;refine (KS.get (grown_drew' _ none)).mono ?_;rintro e w7 ⟨rfl,hg7⟩)
 clear hle2 KS
 have hg67 := (grown_drew' w6 none).trans hg7
 have own7 := HO6.out.kept hg67 (own_none _)
 have HG7 := hide (HG6.out.trans hg67)
 have HO7 := hide own7
 have r1 := hg67.cell q1 (by simp)
 have r2 := hg67.cell q2 (by simp)
 have k77 : w7.cell? ⟨w.heap.size + 1 + 1,vals.length,none⟩ = some (.int .i64 77) := own_at own7 (by rw [List.getElem?_append_right (by rw [ic_len];omega),ic_len,Nat.sub_self];rfl)
 have k78 : w7.cell? ⟨w.heap.size + 1 + 1,vals.length + 1,none⟩ = some (.int .i64 78) := own_at own7 (by rw [List.getElem?_append_right (by rw [ic_len];omega),ic_len,show vals.length + 1 - vals.length = 1 by omega];rfl)
 have h0n : (0 : Int) ≤ vals.length := by omega
 clear q0 q1 q2 hg7 HO6 HG6 own7 hg67
 go_wp2
 go_loopw [10,11] (fun vs vi wr => SuR w7 vals.length vs vi wr) (fun _ vi _ => vals.length - (intOf vi).toNat)
 case atStart => exact ⟨0,by omega,rfl,rfl,grown_refl _ _⟩
 case round =>
  clear k77 k78
  obtain ⟨i,hi,rfl,rfl,hgr⟩ := hrel
  have HGR := hide hgr
  have r3 := hgr.cell r2 (by simp)
  have r4 := hgr.cell r1 (by simp)
  by_cases hlt : i < vals.length
  ·have hlt3 : (i : Int) < vals.length := by omega
   have h03 : (0 : Int) ≤ i := by omega
   have hlt5 : (i : Int) < (vals.length : Int) + 2 := by omega
   obtain ⟨x,hx⟩ : ∃ x,vals[i]? = some x := ⟨vals[i],by simp [hlt]⟩
   obtain ⟨gv,ov,rfl,_,c1⟩ := HV.out.at_ i x hx
   have c2 := (HG7.out.trans hgr).cell c1 (by simp)
   have c3 := hgr.cell (own_at HO7.out (u := .int .i64 x) (j := i) (by rw [List.getElem?_append_left (by rw [ic_len];exact hlt)];exact ic_get hx)) (by simp)
   clear hgr hx c1 r1 r2
   go_wp2
   go_quiet (fail)
   go_wp2
   go_roundw
   case rel => exact ⟨i + 1,by omega,rfl,by go_num,HGR.out.trans (grown_drewN' _ _ _)⟩
   case measure => simp [intOf] <;> omega
  ·obtain rfl : i = vals.length := by omega
   have hgw := HG7.out.trans hgr
   have KR2 := Kept.mk (KR.get hgw)
   have HGW := hide hgw
   have own8 := hide (HO7.out.kept hgr (own_none _))
   have hz8 := hgw.size
   have hz9 : w.heap.size + 1 + 1 < wr.heap.size := (own8.out.lt _ rfl).2
   have hcn : Hid (∀ i,i < 7 → D.cnt i ≤ 100000000000) := fun i hi => by have := HG.out.bd i hi;omega
   have hks : Hid (∀ x,K x → ∀ k ∈ x.S,k < w.heap.size) := fun x hx k hk' => ((HG.out.lw.kp x hx).2 k hk').1
   have KI : Kept (∀ {W : World},wr.grownBy W none → Calls Tryz.prog 58 #[.pointer (some ⟨bw,0,none⟩),.slice (some ⟨w.heap.size + 1 + 1,0,none⟩) (vals.length + 2) (vals.length + 2)] W fun e w' => e = .returned (.tuple #[]) ∧ Stepped w B bw T w') := Kept.mk (fun {W} hgW => by
    have hwW := HGW.out.trans hgW
    have hf : Free bw V (w.heap.size + 1 + 1) := free_new HG.out.lw (by omega)
    refine (law_ints (HG.out.lw.grown hwW) (own8.out.kept hgW (own_none _)) hf (fun x hx q => by have := hks.out x hx _ q;omega) (by omega) (by omega) hcn.out).mono ?_
    rintro e w9 ⟨rfl,V9,K9,L9,q9,went9,l9,f9⟩
    exact ⟨rfl,V9,_,_,K9,(HG.out.grown hwW).oneI q9 went9.kk f9 l9 (by omega),((FrB.refl B bw w).grown HG.out.lw.hB hwW (fun k e => by cases e)).trans went9.frb⟩)
   clear hgr KR HO7 HG7 hgw r1 r2
   go_wp2_with (first | (go_at_call 58;refine (KI.get hg8).mono ?_;rintro e w9 ⟨rfl,hst⟩) | (go_at_call 57;refine KR2.get.mono ?_;rintro e w8 ⟨rfl,hg8⟩))
   go_ret
   exact ⟨by simp,hst⟩
end
section
set_option maxHeartbeats 8000000
set_option maxRecDepth 100000
variable {w w' w1 : World} {B bw c T : Nat} {V : LV} {D : LD} {K : Keep → Prop}
theorem ref_TextL {r : Nat} {s : ByteArray} (h : RefSeen w r s) (hG : GoodS s) : Calls Tryz.prog 55 #[.pointer (some ⟨r,0,none⟩)] w fun e w' => e = .returned (.string ⟨(plainT (progToks s)).toArray⟩) ∧ w.grownBy w' none := by
 obtain ⟨ta,va,la,ra,tc,vc,lc,rc,lists,rules,hlt,hT,_⟩ := h
 have hn := lex_len s
 have hz := hG.sz
 have q := ref_Text (P := progToks s) hT (by omega) hlt (fun i t ht => tx_ok hG.sz ht) (tx_end hG.sz)
 rw [tx_plain] at q
 exact q
theorem law_tells_text (h : LG w B bw V D c K T) (x : MP) (hx : x ∈ D.ms) (on od bu : Int) (tx : ByteArray) (va : Option Addr) (vn vc : Nat) (wk : Bool) : Calls Tryz.prog 40 #[.pointer (some ⟨bw,0,none⟩),.agg #[.pointer (some ⟨x.b,0,none⟩),.pointer (some ⟨x.r,0,none⟩)],.agg #[.int .i64 3,.int .i64 on,.string tx,.slice va vn vc,.int .i64 od,.int .i64 bu,.bool wk]] w fun e w' => e = .returned (.bool true) ∧ Stepped w B bw T w' := by
 have hM : ∀ W,w.grownBy W none → ModAt W x := fun W hg => ((h.grown hg).lw.kp _ (h.ms _ hx)).1
 have HG := hide h
 obtain ⟨b,r,H0,w00,s⟩ := x
 have KP := Kept.mk (fun {W : World} (hgW : w.grownBy W none) => pn_Text ((hM W hgW).prog).pl)
 have KR := Kept.mk (fun {W : World} (hgW : w.grownBy W none) => ref_TextL ((hM W hgW).ref) (hM W hgW).good)
 simp only at KP KR
 generalize (⟨(plainT (progToks s)).toArray⟩ : ByteArray) = S at *
 have hg2 : Hid (∀ o o',w.grownBy ((w.alloc o).alloc o') none) := fun o o' => (World.grownBy_alloc w o none).trans (World.grownBy_alloc _ o' none)
 have hss : (S.toList == S.toList) = true := by simp
 clear h hM hx
 go_enter Tryz.func40,Tryz.ntmps40
 go_wp2_with (first | (go_at_call 55;refine (KR.get (hg2.out _ _)).mono ?_;rintro e w2 ⟨rfl,hgw2⟩) | (go_at_call 30;refine (KP.get (hg2.out _ _)).mono ?_;rintro e w1 ⟨rfl,hw1⟩;subst w1))
 go_ret
 exact ⟨by simp,Stepped.same HG.out ((hg2.out _ _).trans hgw2)⟩
theorem law_step_text (h : LG w B bw V D c K T) (hT : T ≤ 1100000) (o : OpV) (hk : o.kd = 3) (hlo : -9223372036854775808 ≤ o.on) (hhi : o.on ≤ 9223372036854775807) {vals : List Int} (hv : ValsOf w o.va o.vn vals) (hvn : o.vn ≤ 1100000) : Calls Tryz.prog 33 #[.pointer (some ⟨bw,0,none⟩),.agg o.cells] w fun e w' => e = .returned (.bool true) ∧ Stepped w B bw T w' := by
 obtain ⟨kd,on,tx,va,vn,vc,od,bu,wk⟩ := o
 unfold OpV.cells
 simp only at hk hlo hhi hv hvn ⊢
 have hBw := h.lw.hB
 have hsl := h.lw.slt
 obtain ⟨ma,mc,em⟩ := own_slice_n (h.lw.own 0 (by omega))
 have m0 : w.cell? ⟨bw,0,none⟩ = some (.slice ma D.ms.length mc) := (cell_of h.lw.blk 0 _ rfl).trans (congrArg some em)
 have m1 : ∀ o,(w.alloc o).cell? ⟨bw,0,none⟩ = some (.slice ma D.ms.length mc) := fun o => (World.grownBy_alloc w o none).cell m0 (by simp)
 have HG := hide h
 subst hk
 by_cases h0 : D.ms.length = 0
 ·rw [h0] at m1
  clear h m0 em h0
  go_enter Tryz.func33,Tryz.ntmps33
  go_wp2
  go_ret
  exact ⟨rfl,Stepped.same HG.out (World.grownBy_alloc _ _ _)⟩
 ·have h20 := h.m20
  have hpb := pickI_bd on (D.ms.length : Int) (by omega)
  obtain ⟨P,hP⟩ : ∃ P : Nat,pickI on (D.ms.length : Int) = P := ⟨(pickI on (D.ms.length : Int)).toNat,by omega⟩
  rw [hP] at hpb
  have hPl : P < D.ms.length := by omega
  obtain ⟨x,hx⟩ : ∃ x,D.ms[P]? = some x := ⟨D.ms[P],by simp [hPl]⟩
  obtain ⟨gm,cm,e1,hc0,_⟩ := h.lw.at (i := 0) (j := P * 2) (by omega) (ms_at hx).1
  obtain ⟨gm',cm',e1',hc1,_⟩ := h.lw.at (i := 0) (j := P * 2 + 1) (by omega) (ms_at hx).2
  rw [e1] at e1'
  injection e1' with q1 q2 q3
  injection q1 with q1
  injection q1 with q1 _ _
  subst q1
  rw [e1] at em
  injection em with q4 q5 q6
  subst q4
  have hgm := (h.lw.ownB (i := 0) (by omega) (by rw [e1];rfl : (V.get 0).ownBlock = some gm)).2
  have hn0 : (((D.ms.length : Nat) : Int) == 0) = false := by simpa using h0
  have KP := Kept.mk (fun W => law_pick on (D.ms.length : Int) W hlo hhi (by omega) (by omega))
  rw [hP] at KP
  have hP0 : (0 : Int) ≤ P := by omega
  have hPl' : (P : Int) < D.ms.length := by omega
  have HX := hide (List.mem_of_getElem? hx)
  clear h e1 hx hP
  have KT := Kept.mk (fun {W : World} (hg : w.grownBy W none) => law_tells_text (HG.out.grown hg) x HX.out on od bu tx va vn vc wk)
  go_enter Tryz.func33,Tryz.ntmps33
  go_wp2
  go_region_held3 (fun w' => w'.cell? ⟨bw,0,none⟩ = some (.slice (some ⟨gm,0,none⟩) D.ms.length mc) ∧ w'.cell? ⟨w.heap.size,1,none⟩ = some (.int .i64 on) ∧ w'.cell? ⟨gm,P * 2,none⟩ = some (.pointer (some ⟨x.b,0,none⟩)) ∧ w'.cell? ⟨gm,P * 2 + 1,none⟩ = some (.pointer (some ⟨x.r,0,none⟩))) (go_keep)
   (first | (go_at_call 39;refine (KP.get _).mono ?_;rintro e w' ⟨rfl,hww⟩;subst w'))
  all_goals go_wp2_with (go_at_call 40;refine (KT.get (((World.grownBy_alloc w _ none).trans (World.grownBy_alloc _ _ none)).trans (grown_drew' _ none))).mono ?_;rintro e w1 ⟨rfl,hS⟩)
  all_goals go_ret
  all_goals exact ⟨rfl,hS.from hBw (((World.grownBy_alloc w _ none).trans (World.grownBy_alloc _ _ none)).trans (grown_drew' _ none))⟩
theorem law_step_suits (h : LG w B bw V D c K T) (hT : T ≤ 1100000) (o : OpV) (hk : o.kd = 4) (hlo : -9223372036854775808 ≤ o.on) (hhi : o.on ≤ 9223372036854775807) {vals : List Int} (hv : ValsOf w o.va o.vn vals) (hvn : o.vn ≤ 1100000) : Calls Tryz.prog 33 #[.pointer (some ⟨bw,0,none⟩),.agg o.cells] w fun e w' => e = .returned (.bool true) ∧ Stepped w B bw T w' := by
 have HVV := hide hv
 obtain ⟨kd,on,tx,va,vn,vc,od,bu,wk⟩ := o
 unfold OpV.cells
 simp only at hk hlo hhi hv hvn ⊢
 have hBw := h.lw.hB
 have hsl := h.lw.slt
 obtain ⟨ma,mc,em⟩ := own_slice_n (h.lw.own 0 (by omega))
 have m0 : w.cell? ⟨bw,0,none⟩ = some (.slice ma D.ms.length mc) := (cell_of h.lw.blk 0 _ rfl).trans (congrArg some em)
 have m1 : ∀ o,(w.alloc o).cell? ⟨bw,0,none⟩ = some (.slice ma D.ms.length mc) := fun o => (World.grownBy_alloc w o none).cell m0 (by simp)
 have HG := hide h
 subst hk
 by_cases h0 : D.ms.length = 0
 ·rw [h0] at m1
  clear h m0 em h0
  go_enter Tryz.func33,Tryz.ntmps33
  go_wp2
  go_ret
  exact ⟨rfl,Stepped.same HG.out (World.grownBy_alloc _ _ _)⟩
 ·have h20 := h.m20
  have hpb := pickI_bd on (D.ms.length : Int) (by omega)
  obtain ⟨P,hP⟩ : ∃ P : Nat,pickI on (D.ms.length : Int) = P := ⟨(pickI on (D.ms.length : Int)).toNat,by omega⟩
  rw [hP] at hpb
  have hPl : P < D.ms.length := by omega
  obtain ⟨x,hx⟩ : ∃ x,D.ms[P]? = some x := ⟨D.ms[P],by simp [hPl]⟩
  obtain ⟨gm,cm,e1,hc0,_⟩ := h.lw.at (i := 0) (j := P * 2) (by omega) (ms_at hx).1
  obtain ⟨gm',cm',e1',hc1,_⟩ := h.lw.at (i := 0) (j := P * 2 + 1) (by omega) (ms_at hx).2
  rw [e1] at e1'
  injection e1' with q1 q2 q3
  injection q1 with q1
  injection q1 with q1 _ _
  subst q1
  rw [e1] at em
  injection em with q4 q5 q6
  subst q4
  have hgm := (h.lw.ownB (i := 0) (by omega) (by rw [e1];rfl : (V.get 0).ownBlock = some gm)).2
  have hn0 : (((D.ms.length : Nat) : Int) == 0) = false := by simpa using h0
  have KP := Kept.mk (fun W => law_pick on (D.ms.length : Int) W hlo hhi (by omega) (by omega))
  rw [hP] at KP
  have hP0 : (0 : Int) ≤ P := by omega
  have hPl' : (P : Int) < D.ms.length := by omega
  have HX := hide (List.mem_of_getElem? hx)
  clear h e1 hx hP
  have KT := Kept.mk (fun {W : World} (hg : w.grownBy W none) => law_suits (HG.out.grown hg) hT x HX.out 4 on od bu tx va vn vc wk vals (HVV.out.grown hg) hvn)
  go_enter Tryz.func33,Tryz.ntmps33
  go_wp2
  go_region_held3 (fun w' => w'.cell? ⟨bw,0,none⟩ = some (.slice (some ⟨gm,0,none⟩) D.ms.length mc) ∧ w'.cell? ⟨w.heap.size,1,none⟩ = some (.int .i64 on) ∧ w'.cell? ⟨gm,P * 2,none⟩ = some (.pointer (some ⟨x.b,0,none⟩)) ∧ w'.cell? ⟨gm,P * 2 + 1,none⟩ = some (.pointer (some ⟨x.r,0,none⟩))) (go_keep)
   (first | (go_at_call 39;refine (KP.get _).mono ?_;rintro e w' ⟨rfl,hww⟩;subst w'))
  all_goals go_wp2_with (go_at_call 41;refine (KT.get (((World.grownBy_alloc w _ none).trans (World.grownBy_alloc _ _ none)).trans (grown_drew' _ none))).mono ?_;rintro e w1 ⟨rfl,hS⟩)
  all_goals go_ret
  all_goals exact ⟨rfl,hS.from hBw (((World.grownBy_alloc w _ none).trans (World.grownBy_alloc _ _ none)).trans (grown_drew' _ none))⟩
theorem law_step_mid (h : LG w B bw V D c K T) (hT : T ≤ 1100000) (ht : PowTab w) (o : OpV) (hk : o.kd ≤ 4) (hlo : -9223372036854775808 ≤ o.on) (hhi : o.on ≤ 9223372036854775807) {vals : List Int} (hv : ValsOf w o.va o.vn vals) (hvn : o.vn ≤ 1100000) : Calls Tryz.prog 33 #[.pointer (some ⟨bw,0,none⟩),.agg o.cells] w fun e w' => e = .returned (.bool true) ∧ Stepped w B bw T w' := by
 by_cases h3 : o.kd = 3
 ·exact law_step_text h hT o h3 hlo hhi hv hvn
 ·by_cases h4 : o.kd = 4
  ·exact law_step_suits h hT o h4 hlo hhi hv hvn
  ·exact law_step_low h hT ht o (by omega) hlo hhi
end
section
set_option maxHeartbeats 8000000
set_option maxRecDepth 100000
variable {w w' w1 : World} {B bw c T : Nat} {V : LV} {D : LD} {K : Keep → Prop}
theorem vals_low {va : Option Addr} {vn : Nat} {vals : List Int} (h : ValsOf w va vn vals) (hb : ∀ k,k < w.heap.size → w'.heap[k]? = w.heap[k]?) : ValsOf w' va vn vals := ⟨h.len,fun j x hx => by
 obtain ⟨g,o,e,h1,h2⟩ := h.at_ j x hx
 have q := (World.cell?_of_block (a := ⟨g,o + j,none⟩) (hb g h1)).trans h2
 exact ⟨g,o,e,cellLt q,q⟩⟩
theorem law_played_mid (v : Value) (ops : List OpV) (hv : ScriptAt w v ops) (ht : PowTab w) (hn : ops.length ≤ 1050000) (hb : ∀ o ∈ ops,(-9223372036854775808 ≤ o.on ∧ o.on ≤ 9223372036854775807) ∧ ∃ vals,ValsOf w o.va o.vn vals ∧ o.vn ≤ 1100000) : Calls Tryz.prog 15 #[v,.int .i64 4] w fun e w' => e = .returned (.bool true) ∧ w.grownBy w' none := by
 obtain ⟨sa,sc,rfl,hsc⟩ : ∃ sa sc,v = .slice sa ops.length sc ∧ ∀ i o,ops[i]? = some o → ∃ g off,sa = some ⟨g,off,none⟩ ∧ g < w.heap.size ∧ ∀ j u,o.cells[j]? = some u → w.cell? ⟨g,off + i * 7 + j,none⟩ = some u := by
  rcases hv with ⟨rfl,a,c,e⟩ | ⟨g,off,cap,e,h1,h2⟩
  ·exact ⟨a,c,e,fun i o ho => by simp at ho⟩
  ·exact ⟨_,cap,e,fun i o ho => ⟨g,off,rfl,h1,h2 i o ho⟩⟩
 have HT := hide ht
 have HS := hide hsc
 have HB := hide hb
 have KB := Kept.mk (law_begins (lg_start w) (tab_kept ht (fun k hk => heap_alloc_old w _ hk)) simpleB)
 unfold simpleB at KB
 clear hv hsc ht hb
 go_enter Tryz.func15,Tryz.ntmps15
 go_wp2_with (go_at_call 32;refine KB.get.mono ?_;rintro e w1 ⟨rfl,V1,D1,c1,K1,hG1,hF1⟩)
 have HST : Hid (PydRel (w.alloc (.cells #[.slice none 0 0,.slice none 0 0,.slice none 0 0,.slice none 0 0,.slice none 0 0,.slice none 0 0,.slice none 0 0,.int .i64 0] 59)) (w.heap.size + 1) w.heap.size ops.length ops.length (.bool true) (.int .i64 0) w1) := ⟨0,V1,D1,c1,K1,by omega,by omega,rfl,rfl,hG1,hF1⟩
 clear hG1 hF1 KB
 go_loopg [6,8] ops.length (fun m vo vi wr => PydRel (w.alloc (.cells #[.slice none 0 0,.slice none 0 0,.slice none 0 0,.slice none 0 0,.slice none 0 0,.slice none 0 0,.slice none 0 0,.int .i64 0] 59)) (w.heap.size + 1) w.heap.size ops.length m vo vi wr)
 case atStart => exact HST.out
 case round =>
  clear HST
  obtain ⟨i,V,D,c,K,hi,rfl,rfl,rfl,hG,hF⟩ := hrel
  by_cases hlt : i < ops.length
  ·have hlt3 : (i : Int) < ops.length := by omega
   have h03 : (0 : Int) ≤ i := by omega
   obtain ⟨o,ho⟩ : ∃ o,ops[i]? = some o := ⟨ops[i],by simp [hlt]⟩
   obtain ⟨g,off,rfl,hgl,hc⟩ := HS.out i o ho
   have hob := HB.out o (List.mem_of_getElem? ho)
   have low := frb_low hF
   obtain ⟨vals,hvl,hvb⟩ := hob.2
   have cell : ∀ j u,o.cells[j]? = some u → wr.cell? ⟨g,off + i * 7 + j,none⟩ = some u := fun j u hu => (World.cell?_of_block (a := ⟨g,off + i * 7 + j,none⟩) (low g hgl)).trans (hc j u hu)
   have k0 : wr.cell? ⟨g,off + i * 7,none⟩ = some (.int .i64 o.kd) := cell 0 _ rfl
   have k1 := cell 1 _ rfl
   have k2 := cell 2 _ rfl
   have k3 := cell 3 _ rfl
   have k4 := cell 4 _ rfl
   have k5 := cell 5 _ rfl
   have k6 := cell 6 _ rfl
   have ht := tab_kept HT.out low
   by_cases hk : o.kd ≤ 4
   ·have KS := Kept.mk (law_step_mid hG (by omega) ht o hk hob.1.1 hob.1.2 (vals_low hvl low) hvb)
    unfold OpV.cells at KS
    have HF := hide hF
    clear hG hF ht low cell hc hvl hvb hob
    go_wp2_with (first | (go_at_call 34;refine (law_still hG2 (by omega)).mono ?_;rintro e w3 ⟨rfl,hG3,hg3⟩) | (go_at_call 33;refine KS.get.mono ?_;rintro e w2 ⟨rfl,V2,D2,c2,K2,hG2,hF2⟩))
    have HR : Hid (PydRel (w.alloc (.cells #[.slice none 0 0,.slice none 0 0,.slice none 0 0,.slice none 0 0,.slice none 0 0,.slice none 0 0,.slice none 0 0,.int .i64 0] 59)) (w.heap.size + 1) w.heap.size ops.length (ops.length - (i + 1)) (.bool true) (.int .i64 ((i : Int) + 1)) w3) := ⟨i + 1,V2,D2,c2,K2,by omega,rfl,rfl,by simp,hG3,(HF.out.trans hF2).grown hG2.lw.hB hg3 (fun k e => by cases e)⟩
    clear hG2 hF2 hG3 hg3
    go_roundg (ops.length - (i + 1))
    case measure => omega
    case rel => exact HR.out
   ·have hk' : (4 : Int) < o.kd := by omega
    have HG := hide (hG.later (T' := 1 + (i + 1)) (by omega))
    have HF := hide hF
    clear hG hF ht low cell hc hvl hvb hob
    go_wp2
    go_roundg (ops.length - (i + 1))
    case measure => omega
    case rel => exact ⟨i + 1,V,D,c,K,by omega,rfl,rfl,by go_num,HG.out,HF.out⟩
  ·obtain rfl : i = ops.length := by omega
   have HF := hide hF
   clear hG hF
   go_wp2
   go_ret
   exact ⟨rfl,frb_grown HF.out⟩
end
end Go.Proofs.YthpcbbnabnlanaaGreatDoor
