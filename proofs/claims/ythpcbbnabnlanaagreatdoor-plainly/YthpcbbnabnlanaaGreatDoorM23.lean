import Derived.Test.YthpcbbnabnlanaaGreatDoorM06
import Derived.Test.YthpcbbnabnlanaaGreatDoorM22
import Derived.Laws.EntriesVeiled
import Derived.BigQuiet
import Derived.Lib.SliceRun
import Derived.BigFrame
import Derived.Deep.LoopGhost
import Derived.Deep.AppendLies
import Derived.Deep.RegionLaw
namespace Go.Proofs.YthpcbbnabnlanaaGreatDoor
open Go.RowKit
set_option linter.unusedVariables false
set_option linter.unusedSimpArgs false
section
set_option maxHeartbeats 8000000
set_option maxRecDepth 100000
variable {w0 w w' w'' : World} {X : SL} {K : SK} {s : SS} {vT vS : Value}
theorem find_ix {p : Int × Int → Bool} {l : List (Int × Int)} (hm : ∃ a ∈ l,p a = true) : ∃ (i : Nat) (f : Int × Int),l[i]? = some f ∧ l.find? p = some f ∧ p f = true ∧ ixI p l = (i : Int) ∧ f ∈ l := by
 obtain ⟨i,hi⟩ : ∃ i,l.findIdx? p = some i := by
  obtain ⟨a,h1,h2⟩ := hm
  cases e : l.findIdx? p with
  | some i => exact ⟨i,rfl⟩
  | none =>
   rw [List.findIdx?_eq_none_iff] at e
   have := e a h1
   rw [h2] at this;cases this
 obtain ⟨h1,h2,h3⟩ := List.findIdx?_eq_some_iff_getElem.1 hi
 refine ⟨i,l[i],List.getElem?_eq_getElem h1,?_,by simpa using h2,by unfold ixI;rw [hi],List.getElem_mem h1⟩
 rw [List.find?_eq_some_iff_getElem]
 exact ⟨by simpa using h2,i,h1,rfl,fun j hj => by simpa using h3 j hj⟩
theorem sc_drawOr (h : SAt w0 w X K s vT vS) (hK : KOk K) (hs : SOk K s) (hT : TB s) {gt ct : Nat} {l : List (Int × Int)} (hR : RowIn w (.slice (some ⟨gt,0,none⟩) l.length ct) gt ct prCell l) (hll : l.length ≤ 3000) (hl : ∀ p ∈ l,PlOk K.vars.length p.1 ∧ (p.2 = 0 ∨ p.2 = 1)) (hm : ∃ a ∈ l,mayS s a = true) : Calls Tryz.prog 133 #[.pointer (some ⟨X.b,0,none⟩),.slice (some ⟨gt,0,none⟩) l.length ct] w fun e w' => e = .returned (.bool (orS K l s).1) ∧ (∃ vT',SAt w0 w' X K (orS K l s).2 vT' vS) ∧ FrS X w w' := by
 obtain ⟨i,f,hf1,hf2,hf3,hf4,hf5⟩ := find_ix hm
 obtain ⟨hfp,hfv⟩ := hl f hf5
 have hil : i < l.length := (List.getElem?_eq_some_iff.1 hf1).1
 have hi1 : (i : Int) < l.length := by omega
 have hi0 : (0 : Int) ≤ i := by omega
 have hgt := hR.lt
 -- the boxes
 obtain ⟨W,hW⟩ : ∃ W,W = (w.alloc (.cells #[.pointer (some ⟨X.b,0,none⟩)] 100)).alloc (.cells #[.func (.func 173) #[] #[.pointer (some ⟨w.heap.size,0,none⟩)]] 245) := ⟨_,rfl⟩
 have gW : w.grownBy W none := by rw [hW];exact (World.grownBy_alloc _ _ _).trans (World.grownBy_alloc _ _ _)
 have hN : W.cell? ⟨w.heap.size,0,none⟩ = some (.pointer (some ⟨X.b,0,none⟩)) := by
  rw [hW];exact cell_of ((heap_alloc_old _ _ (by simp)).trans (heap_alloc_new w _)) 0 _ rfl
 have h5 : W.cell? ⟨w.heap.size + 1,0,none⟩ = some (.func (.func 173) #[] #[.pointer (some ⟨w.heap.size,0,none⟩)]) := by
  rw [hW]
  have q := heap_alloc_new (w.alloc (.cells #[.pointer (some ⟨X.b,0,none⟩)] 100)) (.cells #[.func (.func 173) #[] #[.pointer (some ⟨w.heap.size,0,none⟩)]] 245)
  exact cell_of (by simpa using q) 0 _ rfl
 have KI := Kept.mk (ix_may (p := mayS s) (N := w.heap.size) (hR.kept gW (by simp)) hll (fun a ha W' hg => sc_mayBe ((h.grown gW).grown hg) hK a (hl a ha).1 (hl a ha).2 (hg.cell hN (by simp))))
 rw [hf4] at KI
 have HLT : Hid (∀ w1 : World,W.grownBy w1 none → w1.cell? ⟨gt,i * 2,none⟩ = some (.int .i64 f.1) ∧ w1.cell? ⟨gt,i * 2 + 1,none⟩ = some (.int .i64 f.2)) := fun w1 hg => by
  have q := (hR.kept gW (by simp)).kept hg (by simp)
  exact ⟨q.at (sz := 2) (fun _ => rfl) hf1 0 _ rfl,q.at (sz := 2) (fun _ => rfl) hf1 1 _ rfl⟩
 have KC := Kept.mk (fun (w1 : World) (hg : W.grownBy w1 none) => ct_oth (p := fun a => decide (a ≠ f) && mayS s a) (B6 := w1.heap.size) (B5 := w.heap.size + 1) (w := w1.alloc (.cells #[.int .i64 f.1,.int .i64 f.2] 203)) (((hR.kept gW (by simp)).kept hg (by simp)).kept (World.grownBy_alloc _ _ none) (by simp)) hll (fun a ha W' hg' => by
  have hg2 := (hg.trans (World.grownBy_alloc w1 (.cells #[.int .i64 f.1,.int .i64 f.2] 203) none)).trans hg'
  have hB := (hg'.block w1.heap.size (by simp) (by simp)).trans (heap_alloc_new w1 (.cells #[.int .i64 f.1,.int .i64 f.2] 203))
  exact sc_other ((h.grown gW).grown hg2) hK a f (hl a ha).1 (hl a ha).2 (hg2.cell hN (by simp)) (hg2.cell h5 (by simp)) (cell_of hB 0 _ rfl) (cell_of hB 1 _ rfl)))
 have hget : (l.find? (mayS s)).getD (0,0) = f := by rw [hf2];rfl
 have hmf : ∀ (fn : Fn) (first cap : Array Value) (w : World),(Instr.makeFunc fn first cap).run Tryz.prog w = .ok (.func fn first cap) w := fun fn first cap w => rfl
 by_cases ca : (l.any fun a => decide (a ≠ f) && mayS s a) = true
 ·have HRES : Hid (orS K l s = (true,s)) := by
   rw [Hid];unfold orS;rw [hget];simp only [];rw [if_pos ca]
  rw [ca] at KC
  have HH := hide (h.grown gW)
  have HG := hide gW
  rw [hW] at KC KI HLT
  clear h gW hN h5 hR hl hm hf1 hf2 hf3 hf4 hf5 hget ca hfp hfv hs hK hT
  go_enter Tryz.func133,Tryz.ntmps133
  go_wp2_with (first | (go_at_call 175;refine (KC.get w1 hg1).mono ?_;rintro e w2 ⟨rfl,hg2⟩) | (go_at_call 174;refine KI.get.mono ?_;rintro e w1 ⟨rfl,hg1⟩;obtain ⟨y0,y1⟩ := HLT.out w1 hg1))
  go_ret
  rw [HRES.out]
  have g3 := (hg1.trans (World.grownBy_alloc _ _ _)).trans hg2
  rw [← hW] at g3
  exact ⟨rfl,⟨_,HH.out.grown g3⟩,FrS.grown (HG.out.trans g3)⟩
 ·have ca' : (l.any fun a => decide (a ≠ f) && mayS s a) = false := by simpa using ca
  have HRES : Hid (orS K l s = keepS K f.1 (bitV f.2) s) := by
   rw [Hid];unfold orS;rw [hget];simp only [];rw [if_neg ca]
  rw [ca'] at KC
  obtain ⟨r,hr⟩ := dc (bitV f.2)
  have KO := Kept.mk (fun W => dc_Only hr (v := f.2) (by omega) (by omega) W)
  have KK := Kept.mk (fun {W' : World} (q : SAt w0 W' X K s vT vS) => dc_keep hr q hK hs hfp (bitV_lt (by omega)) hT.le)
  have HS : Hid (∀ (w1 w2 : World),W.grownBy w1 none → (w1.alloc (.cells #[.int .i64 f.1,.int .i64 f.2] 203)).grownBy w2 none → SAt w0 w2 X K s vT vS ∧ w.grownBy w2 none ∧ ∀ W',FrS X w2 W' → (W'.cell? ⟨w.heap.size,0,none⟩ = some (.pointer (some ⟨X.b,0,none⟩)) ∧ W'.cell? ⟨w1.heap.size,0,none⟩ = some (.int .i64 f.1) ∧ W'.cell? ⟨w1.heap.size,1,none⟩ = some (.int .i64 f.2))) := fun w1 w2 hg1 hg2 => by
   have g2 := (hg1.trans (World.grownBy_alloc w1 (.cells #[.int .i64 f.1,.int .i64 f.2] 203) none)).trans hg2
   refine ⟨(h.grown gW).grown g2,gW.trans g2,fun W' hf => ?_⟩
   have hWN : W.heap[w.heap.size]? = some (.cells #[.pointer (some ⟨X.b,0,none⟩)] 100 (0,0)) := by
    rw [hW];exact (heap_alloc_old _ _ (by simp)).trans (heap_alloc_new w _)
   have a1 := (g2.block _ (some_lt hWN) (by simp)).trans hWN
   have a2 := (hg2.block w1.heap.size (by simp) (by simp)).trans (heap_alloc_new w1 (.cells #[.int .i64 f.1,.int .i64 f.2] 203))
   have b1 := hf.block _ _ a1 (h.new_own (Nat.le_refl _)) (fun _ _ e => by cases e) (fun _ _ e => by cases e)
   have b2 := hf.block _ _ a2 (h.new_own (by have := (gW.trans hg1).size;exact this)) (fun _ _ e => by cases e) (fun _ _ e => by cases e)
   exact ⟨cell_of b1 0 _ rfl,cell_of b2 0 _ rfl,cell_of b2 1 _ rfl⟩
  rw [hW] at KC KI HLT HS
  clear h gW hN h5 hR hl hm hf1 hf2 hf3 hf4 hf5 hget ca ca' hfp hfv hs hK hT hr hW
  go_enter Tryz.func133,Tryz.ntmps133
  go_wp2_with (first | (go_at_call 175;refine (KC.get w1 hg1).mono ?_;rintro e w2 ⟨rfl,hg2⟩) | (go_at_call 174;refine KI.get.mono ?_;rintro e w1 ⟨rfl,hg1⟩;obtain ⟨y0,y1⟩ := HLT.out w1 hg1))
  obtain ⟨hA2,g02,hS2⟩ := HS.out w1 w2 hg1 hg2
  have HA2 := hide hA2
  have HS2 := hide hS2
  have HG2 := hide g02
  obtain ⟨B,hB⟩ : ∃ B,B = w1.heap.size := ⟨_,rfl⟩
  rw [← hB] at HS2 ⊢
  clear hA2 hS2 g02 HS KC KI HLT hg1 hg2 y0 y1 hB
  refine wp_region_held_drew (S := (fun W' => W'.cell? ⟨w.heap.size,0,none⟩ = some (.pointer (some ⟨X.b,0,none⟩)) ∧ W'.cell? ⟨B,0,none⟩ = some (.int .i64 f.1) ∧ W'.cell? ⟨B,1,none⟩ = some (.int .i64 f.2))) (by kernel_rfl) ?_ (fun hHeld => ?_)
  ·exact HS2.out _ (FrS.grown (grown_drew' _ _))
  apply tqW 0 17 hHeld
  ·(intro w hSw;(try dsimp only at hSw);go_simp;try with_reducible rfl)
  (try simp only [Act.put,arS,arZ,arN])
  apply tqW 1 18 hHeld
  ·(intro w hSw;(try dsimp only at hSw);go_simp;try with_reducible rfl)
  (try simp only [Act.put,arS,arZ,arN])
  apply tqW 2 19 hHeld
  ·(intro w hSw;(try dsimp only at hSw);go_simp;try with_reducible rfl)
  (try simp only [Act.put,arS,arZ,arN])
  apply tqW 3 20 hHeld
  ·(intro w hSw;(try dsimp only at hSw);go_simp;try with_reducible rfl)
  (try simp only [Act.put,arS,arZ,arN])
  apply tqW 4 21 hHeld
  ·(intro w hSw;(try dsimp only at hSw);go_simp;try with_reducible rfl)
  (try simp only [Act.put,arS,arZ,arN])
  refine wpAnyH_ready (rs := [5]) (by kernel_rfl) (by simp) ?_
  refine AllReadyH.cons rfl (fun K hK => ?_) AllReadyH.nil
  go_simp
  go_wp2_with ((go_at_call 138;refine (KO.get _).mono ?_;rintro e w3 ⟨rfl,hg3⟩))
  refine hK.out _ _ ?_ (fun hHeld => ?_)
  ·exact HS2.out _ (FrS.grown ((grown_drew' _ _).trans hg3))
  clear hK K
  (try simp only [Act.put,arS,arZ,arN])
  refine wpAnyH_ready (rs := [6]) (by kernel_rfl) (by simp) ?_
  refine AllReadyH.cons rfl (fun K hK => ?_) AllReadyH.nil
  go_simp
  go_wp2_with ((go_at_call 167;refine (KK.get (HA2.out.grown ((grown_drew' _ _).trans hg3))).mono ?_;rintro e w4 ⟨rfl,hs4,hf4⟩))
  refine hK.out _ _ ?_ (fun hHeld => ?_)
  ·exact HS2.out _ ((FrS.grown ((grown_drew' _ _).trans hg3)).trans hf4)
  clear hK K
  (try simp only [Act.put,arS,arZ,arN])
  apply tqW 7 4 hHeld
  ·(intro w hSw;(try dsimp only at hSw);go_simp;try with_reducible rfl)
  (try simp only [Act.put,arS,arZ,arN])
  refine wpAnyH_done (by kernel_rfl) ?_ _
  go_wp2
  go_ret
  rw [HRES.out]
  exact ⟨rfl,hs4,(FrS.grown (HG2.out.trans ((grown_drew' _ _).trans hg3))).trans hf4⟩
end
section
set_option maxHeartbeats 4000000
set_option maxRecDepth 100000
variable {w0 w w' w'' : World} {X : SL} {K : SK} {s : SS} {vT vS : Value}
structure DrawAt (w0 w : World) (X : SL) (K : SK) (s : SS) (i g : Nat) (x : CRow) (ca : Option Addr) (cc cap : Nat) : Prop where
 c : K.cons[i]? = some x.c
 con : ConIn w g (i * 10) X.B x
 gx : g < w0.heap.size
 mem : x ∈ X.cs
 f0 : w.cell? ⟨X.b,0,none⟩ = some (.pointer (some ⟨X.bc,1,none⟩))
 c2 : w.cell? ⟨X.bc,2,none⟩ = some (.slice (some ⟨g,0,none⟩) K.cons.length cap)
 cv : w.cell? ⟨X.gc,i,none⟩ = some (.slice ca (K.cvs.getD i []).length cc)
 row : IRow X w (.slice ca (K.cvs.getD i []).length cc) (K.cvs.getD i [])
theorem SAt.draw (h : SAt w0 w X K s vT vS) {i : Nat} (hi : i < K.cons.length) : ∃ (g : Nat) (x : CRow) (ca : Option Addr) (cc cap : Nat),DrawAt w0 w X K s i g x ca cc cap := by
 obtain ⟨x,g,cap,hxc,hvC,hX,hxm⟩ := h.con (List.getElem?_eq_getElem hi)
 obtain ⟨cvv,hcv⟩ : ∃ v,X.cv[i]? = some v := ⟨X.cv[i]'(by rw [h.cvl];exact hi),List.getElem?_eq_getElem _⟩
 have hrow := h.cvr i cvv hcv
 obtain ⟨ca,cc,hca⟩ := hrow.is
 have hgx : g < w0.heap.size := by
  have hlen : X.cs.length = K.cons.length := by rw [← h.csK];simp
  obtain ⟨g',cap',hR,_⟩ := RowIn.of_own h.set0.oc (by omega)
  have q := hR.is
  rw [hvC] at q
  injection q with q1
  injection q1 with q2
  injection q2 with q3
  rw [q3];exact hR.lt
 subst hca
 refine ⟨g,x,ca,cc,cap,by rw [hxc];exact List.getElem?_eq_getElem hi,hX,hgx,hxm,h.f0,by rw [← hvC];exact h.set.c2,cell_of h.cvb i _ (by rw [List.getElem?_toArray];exact hcv),hrow⟩
theorem draw_zero (h : SAt w0 w X K s vT vS) (hK : KOk K) (hs : SOk K s) {i : Nat} (hi : i < K.cons.length) (hz : (openS s (K.cvs.getD i [])).2 = 0) : Calls Tryz.prog 86 #[.pointer (some ⟨X.b,0,none⟩),.int .i64 (i : Int)] w fun e w' => e = .returned (.bool (drawS K i s).1) ∧ (∃ vT',SAt w0 w' X K (drawS K i s).2 vT' vS) ∧ FrS X w w' := by
 obtain ⟨g,x,ca,cc,cap,hD⟩ := h.draw hi
 have hmem := List.mem_of_getElem? hD.c
 have hcon := hK.cons _ hmem
 have hlo := Kept.mk (sc_lastOpen h hK.vlen hD.row (fun v hv => raw_ok hcon v ((hK.cv i _ hD.c v).1 hv)) (hK.cvn i))
 obtain ⟨o0,o1,o2,o3⟩ := open_spec s (K.cvs.getD i [])
 have hget : K.cons.getD i zeroCon = x.c := by rw [List.getD_eq_getElem?_getD,hD.c];rfl
 have f0 := hD.f0
 have c2 := hD.c2
 have f8 := h.f8
 have cv := hD.cv
 have hi1 : (i : Int) < K.cons.length := by omega
 have hi0 : (0 : Int) ≤ i := by omega
 have hbl := h.lt.1
 have hgl := hD.con.lt
 have HRES : Hid (drawS K i s = (conP s.vals x.c,s)) := by rw [Hid];unfold drawS;rw [hget];simp only [];rw [if_pos hz]
 have f5 := h.f5
 have hV : VIn w (.slice (some ⟨X.gv,0,none⟩) K.vars.length K.vars.length) X.gv K.vars.length s.vals := ⟨by rw [show s.vals.length = K.vars.length by rw [← h.ll];simp [SS.vals]],fun j u hu => by
  rw [flat_in] at hu
  refine cell_of h.vals j u ?_
  simp only [SS.vals,List.map_map] at hu
  rw [List.getElem?_toArray]
  exact hu,h.lt.2.2.1⟩
 have hvl : s.vals.length = K.vars.length := by rw [← h.ll];simp [SS.vals]
 have KS := Kept.mk (rl_Suits hD.con hV hcon hvl.symm (fun y hy => by
  obtain ⟨D,hD1,rfl⟩ := List.mem_map.1 hy
  obtain ⟨j,hj,rfl⟩ := List.mem_iff_getElem.1 hD1
  have := hs.lt hK j
  rw [List.getD_eq_getElem?_getD,List.getElem?_eq_getElem hj] at this
  exact oneV_bd this) (by rw [hvl];have := hK.vlen;omega))
 have hO : ((openS s (K.cvs.getD i [])).2 == 0) = true := by simpa using hz
 have HH := hide h
 generalize openS s (K.cvs.getD i []) = O at *
 clear h hK hs hD hcon hV hvl hget hz o0 o1 o2 o3
 go_enter Tryz.func86,Tryz.ntmps86
 go_wp2_with (first | (go_at_call 48;refine KS.get.mono ?_;rintro e w2 ⟨rfl,hg2⟩) | (go_at_call 129;refine hlo.get.mono ?_;rintro e w' ⟨rfl,hww⟩;subst w'))
 go_ret
 rw [HRES.out]
 exact ⟨rfl,⟨_,HH.out.grown hg2⟩,FrS.grown hg2⟩
theorem draw_weak (h : SAt w0 w X K s vT vS) (hK : KOk K) (hs : SOk K s) {i : Nat} (hi : i < K.cons.length) (hz : (openS s (K.cvs.getD i [])).2 ≠ 0) (cw : K.weak = true) : Calls Tryz.prog 86 #[.pointer (some ⟨X.b,0,none⟩),.int .i64 (i : Int)] w fun e w' => e = .returned (.bool (drawS K i s).1) ∧ (∃ vT',SAt w0 w' X K (drawS K i s).2 vT' vS) ∧ FrS X w w' := by
 obtain ⟨g,x,ca,cc,cap,hD⟩ := h.draw hi
 have hmem := List.mem_of_getElem? hD.c
 have hcon := hK.cons _ hmem
 have hlo := Kept.mk (sc_lastOpen h hK.vlen hD.row (fun v hv => raw_ok hcon v ((hK.cv i _ hD.c v).1 hv)) (hK.cvn i))
 obtain ⟨o0,o1,o2,o3⟩ := open_spec s (K.cvs.getD i [])
 have hget : K.cons.getD i zeroCon = x.c := by rw [List.getD_eq_getElem?_getD,hD.c];rfl
 have f0 := hD.f0
 have c2 := hD.c2
 have f8 := h.f8
 have cv := hD.cv
 have hi1 : (i : Int) < K.cons.length := by omega
 have hi0 : (0 : Int) ≤ i := by omega
 have hbl := h.lt.1
 have hgl := hD.con.lt
 have HRES : Hid (drawS K i s = (true,s)) := by rw [Hid];unfold drawS;rw [hget];simp only [];rw [if_neg hz,if_pos cw]
 have f2 := h.f2
 rw [cw] at f2
 have hO : ((openS s (K.cvs.getD i [])).2 == 0) = false := by simpa using hz
 have HH := hide h
 generalize openS s (K.cvs.getD i []) = O at *
 clear h hK hs hD hcon hget hz o0 o1 o2 o3 cw
 go_enter Tryz.func86,Tryz.ntmps86
 go_wp2_with (first | (go_at_call 129;refine hlo.get.mono ?_;rintro e w' ⟨rfl,hww⟩;subst w'))
 go_ret
 rw [HRES.out]
 exact ⟨rfl,⟨_,HH.out⟩,FrS.refl X _⟩
end
section
set_option maxHeartbeats 4000000
set_option maxRecDepth 100000
variable {w0 w w' w'' : World} {X : SL} {K : SK} {s : SS} {vT vS : Value}
theorem SAt.con_row (h : SAt w0 w X K s vT vS) {x : CRow} (hx : x ∈ X.cs) {gt ct : Nat} (hv : x.vv = .slice (some ⟨gt,0,none⟩) x.c.vars.length ct) : ∃ cells : Array Value,w.heap[gt]? = some (.cells cells 3 (0,0)) ∧ (∀ (j : Nat) (y : Int),x.c.vars[j]? = some y → cells[j]? = some (Value.int .i64 y)) ∧ gt ∉ X.own ∧ x.c.vars.length ≤ ct := by
 have q := (h.set0.at_ x hx).v
 rcases q.2 with ⟨e,_⟩ | ⟨g',cap',cur,e,hB,hh,hc,_,hsz,htk⟩
 ·rw [hv] at e;cases e
 ·rw [hv] at e
  injection e with e1 e2 e3
  injection e1 with e1
  injection e1 with e1
  subst e1
  refine ⟨cur,(h.g0.block gt (some_lt hh) (by simp)).trans hh,fun j y hy => ?_,fun hm => ?_,by omega⟩
  ·have hj := (List.getElem?_eq_some_iff.1 hy).1
   have q2 : (x.c.vars.flatMap inCell)[j]? = some (.int .i64 y) := by rw [flat_in,List.getElem?_map,hy];rfl
   rw [← htk,List.getElem?_take_of_lt (by omega)] at q2
   simpa using q2
  ·have := h.low gt hm
   have := some_lt hh
   omega
theorem draw_at (h : SAt w0 w X K s vT vS) (hK : KOk K) (hs : SOk K s) (hT : TB s) {i : Nat} (hi : i < K.cons.length) (hz : (openS s (K.cvs.getD i [])).2 ≠ 0) (cw : K.weak = false) (hso' : (K.cons.getD i zeroCon).sort = 2) : Calls Tryz.prog 86 #[.pointer (some ⟨X.b,0,none⟩),.int .i64 (i : Int)] w fun e w' => e = .returned (.bool (drawS K i s).1) ∧ (∃ vT',SAt w0 w' X K (drawS K i s).2 vT' vS) ∧ FrS X w w' := by
 obtain ⟨g,x,ca,cc,cap,hD⟩ := h.draw hi
 have hmem := List.mem_of_getElem? hD.c
 have hcon := hK.cons _ hmem
 have hlo := Kept.mk (sc_lastOpen h hK.vlen hD.row (fun v hv => raw_ok hcon v ((hK.cv i _ hD.c v).1 hv)) (hK.cvn i))
 obtain ⟨o0,o1,o2,o3⟩ := open_spec s (K.cvs.getD i [])
 have hget : K.cons.getD i zeroCon = x.c := by rw [List.getD_eq_getElem?_getD,hD.c];rfl
 have f0 := hD.f0
 have c2 := hD.c2
 have f8 := h.f8
 have cv := hD.cv
 have hi1 : (i : Int) < K.cons.length := by omega
 have hi0 : (0 : Int) ≤ i := by omega
 have hbl := h.lt.1
 have hgl := hD.con.lt
 rw [hget] at hso'
 have hso := hso'
 have HRES : Hid (drawS K i s = atS K x.c s) := by
  rw [Hid];unfold drawS;rw [hget];simp only [];rw [if_neg hz,if_neg (by rw [cw];decide),if_neg (by omega),if_neg (by omega),if_pos hso']
 have k0 : w.cell? ⟨g,i * 10,none⟩ = some (.int .i64 x.c.sort) := hD.con.cell 0 _ rfl
 have f2 := h.f2
 rw [cw] at f2
 rw [hso] at k0
 generalize hOO : openS s (K.cvs.getD i []) = O at *
 have hO : (O.2 == 0) = false := by simp;omega
 have KD := Kept.mk (sc_drawAt h hK hs hT hD.con hD.gx hmem hso)
 clear h hK hs hT hD hcon hget hz o0 o1 o2 o3 cw hso hso' hOO
 go_enter Tryz.func86,Tryz.ntmps86
 go_wp2_with (first | (go_at_call 131;refine KD.get.mono ?_;rintro e w2 ⟨rfl,hs2,hf2⟩) | (go_at_call 129;refine hlo.get.mono ?_;rintro e w' ⟨rfl,hww⟩;subst w'))
 go_ret
 rw [HRES.out]
 exact ⟨rfl,hs2,hf2⟩
theorem draw_diff (h : SAt w0 w X K s vT vS) (hK : KOk K) (hs : SOk K s) (hT : TB s) {i : Nat} (hi : i < K.cons.length) (hz : (openS s (K.cvs.getD i [])).2 ≠ 0) (cw : K.weak = false) (hso' : (K.cons.getD i zeroCon).sort = 3) : Calls Tryz.prog 86 #[.pointer (some ⟨X.b,0,none⟩),.int .i64 (i : Int)] w fun e w' => e = .returned (.bool (drawS K i s).1) ∧ (∃ vT',SAt w0 w' X K (drawS K i s).2 vT' vS) ∧ FrS X w w' := by
 obtain ⟨g,x,ca,cc,cap,hD⟩ := h.draw hi
 have hmem := List.mem_of_getElem? hD.c
 have hcon := hK.cons _ hmem
 have hlo := Kept.mk (sc_lastOpen h hK.vlen hD.row (fun v hv => raw_ok hcon v ((hK.cv i _ hD.c v).1 hv)) (hK.cvn i))
 obtain ⟨o0,o1,o2,o3⟩ := open_spec s (K.cvs.getD i [])
 have hget : K.cons.getD i zeroCon = x.c := by rw [List.getD_eq_getElem?_getD,hD.c];rfl
 have f0 := hD.f0
 have c2 := hD.c2
 have f8 := h.f8
 have cv := hD.cv
 have hi1 : (i : Int) < K.cons.length := by omega
 have hi0 : (0 : Int) ≤ i := by omega
 have hbl := h.lt.1
 have hgl := hD.con.lt
 rw [hget] at hso'
 have hso := hso'
 have HRES : Hid (drawS K i s = diffS K x.c.vars s) := by
  rw [Hid];unfold drawS;rw [hget];simp only [];rw [if_neg hz,if_neg (by rw [cw];decide),if_neg (by omega),if_neg (by omega),if_neg (by omega),if_pos hso']
 have k0 : w.cell? ⟨g,i * 10,none⟩ = some (.int .i64 x.c.sort) := hD.con.cell 0 _ rfl
 have f2 := h.f2
 rw [cw] at f2
 rw [hso] at k0
 generalize hOO : openS s (K.cvs.getD i []) = O at *
 have hO : (O.2 == 0) = false := by simp;omega
 obtain ⟨gt,ct,hTR,_⟩ := RowIn.of_own hD.con.at_.v (by cases e : x.c.vars with | nil => exact absurd e (hcon.vne hso) | cons _ _ => simp)
 have k8 : w.cell? ⟨g,i * 10 + 8,none⟩ = some (.slice (some ⟨gt,0,none⟩) x.c.vars.length ct) := by have q := hD.con.cell 8 _ rfl;rw [hTR.is] at q;exact q
 obtain ⟨cells,z1,z2,z3,z4⟩ := h.con_row hD.mem hTR.is
 have KD := Kept.mk (sc_drawDiff h hK hs hT z1 z2 z3 z4 hcon.vars (by have := hcon.vlen;omega))
 clear h hK hs hT hD hcon hget hz o0 o1 o2 o3 cw hso hso' hOO
 go_enter Tryz.func86,Tryz.ntmps86
 go_wp2_with (first | (go_at_call 132;refine KD.get.mono ?_;rintro e w2 ⟨rfl,hs2,hf2⟩) | (go_at_call 129;refine hlo.get.mono ?_;rintro e w' ⟨rfl,hww⟩;subst w'))
 go_ret
 rw [HRES.out]
 exact ⟨rfl,hs2,hf2⟩
theorem draw_or (h : SAt w0 w X K s vT vS) (hK : KOk K) (hs : SOk K s) (hT : TB s) {i : Nat} (hi : i < K.cons.length) (hz : (openS s (K.cvs.getD i [])).2 ≠ 0) (cw : K.weak = false) (hso' : (K.cons.getD i zeroCon).sort = 4) : Calls Tryz.prog 86 #[.pointer (some ⟨X.b,0,none⟩),.int .i64 (i : Int)] w fun e w' => e = .returned (.bool (drawS K i s).1) ∧ (∃ vT',SAt w0 w' X K (drawS K i s).2 vT' vS) ∧ FrS X w w' := by
 obtain ⟨g,x,ca,cc,cap,hD⟩ := h.draw hi
 have hmem := List.mem_of_getElem? hD.c
 have hcon := hK.cons _ hmem
 have hlo := Kept.mk (sc_lastOpen h hK.vlen hD.row (fun v hv => raw_ok hcon v ((hK.cv i _ hD.c v).1 hv)) (hK.cvn i))
 obtain ⟨o0,o1,o2,o3⟩ := open_spec s (K.cvs.getD i [])
 have hget : K.cons.getD i zeroCon = x.c := by rw [List.getD_eq_getElem?_getD,hD.c];rfl
 have f0 := hD.f0
 have c2 := hD.c2
 have f8 := h.f8
 have cv := hD.cv
 have hi1 : (i : Int) < K.cons.length := by omega
 have hi0 : (0 : Int) ≤ i := by omega
 have hbl := h.lt.1
 have hgl := hD.con.lt
 rw [hget] at hso'
 have hso := hso'
 have HRES : Hid (drawS K i s = orS K x.c.lits s) := by
  rw [Hid];unfold drawS;rw [hget];simp only [];rw [if_neg hz,if_neg (by rw [cw];decide),if_neg (by omega),if_neg (by omega),if_neg (by omega),if_neg (by omega),if_pos hso']
 have k0 : w.cell? ⟨g,i * 10,none⟩ = some (.int .i64 x.c.sort) := hD.con.cell 0 _ rfl
 have f2 := h.f2
 rw [cw] at f2
 rw [hso] at k0
 generalize hOO : openS s (K.cvs.getD i []) = O at *
 have hO : (O.2 == 0) = false := by simp;omega
 obtain ⟨gt,ct,hTR,_⟩ := RowIn.of_own hD.con.at_.i (by cases e : x.c.lits with | nil => exact absurd e (hcon.ine hso) | cons _ _ => simp)
 have k9 : w.cell? ⟨g,i * 10 + 9,none⟩ = some (.slice (some ⟨gt,0,none⟩) x.c.lits.length ct) := by have q := hD.con.cell 9 _ rfl;rw [hTR.is] at q;exact q
 have hTR2 : RowIn w (.slice (some ⟨gt,0,none⟩) x.c.lits.length ct) gt ct prCell x.c.lits := ⟨rfl,hTR.row,hTR.lt⟩
 obtain ⟨ov,oo⟩ := o2 (by omega)
 have hraw := (hK.cv i _ hD.c O.1).1 ov
 have hm : ∃ a ∈ x.c.lits,mayS s a = true := by
  unfold rawVars at hraw
  rw [if_neg (by omega),if_neg (by omega),if_neg (by omega),if_neg (by omega),if_pos hso] at hraw
  exact draw_may hK hs hD.c hso hraw oo
 have KD := Kept.mk (sc_drawOr h hK hs hT hTR2 (by have := hcon.ilen;omega) (fun p hp => ⟨(hcon.lits p hp).1,(hcon.lits p hp).2.2⟩) hm)
 clear h hK hs hT hD hcon hget hz o0 o1 o2 o3 cw hso hso' hOO
 go_enter Tryz.func86,Tryz.ntmps86
 go_wp2_with (first | (go_at_call 133;refine KD.get.mono ?_;rintro e w2 ⟨rfl,hs2,hf2⟩) | (go_at_call 129;refine hlo.get.mono ?_;rintro e w' ⟨rfl,hww⟩;subst w'))
 go_ret
 rw [HRES.out]
 exact ⟨rfl,hs2,hf2⟩
end
section
set_option maxHeartbeats 4000000
set_option maxRecDepth 100000
variable {w0 w w' w'' : World} {X : SL} {K : SK} {s : SS} {vT vS : Value}
theorem draw_lin (h : SAt w0 w X K s vT vS) (hK : KOk K) (hs : SOk K s) (hT : TB s) {i : Nat} (hi : i < K.cons.length) (hz : (openS s (K.cvs.getD i [])).2 ≠ 0) (cw : K.weak = false) (hso' : (K.cons.getD i zeroCon).sort = 0) : Calls Tryz.prog 86 #[.pointer (some ⟨X.b,0,none⟩),.int .i64 (i : Int)] w fun e w' => e = .returned (.bool (drawS K i s).1) ∧ (∃ vT',SAt w0 w' X K (drawS K i s).2 vT' vS) ∧ FrS X w w' := by
 obtain ⟨g,x,ca,cc,cap,hD⟩ := h.draw hi
 have hmem := List.mem_of_getElem? hD.c
 have hcon := hK.cons _ hmem
 have hlo := Kept.mk (sc_lastOpen h hK.vlen hD.row (fun v hv => raw_ok hcon v ((hK.cv i _ hD.c v).1 hv)) (hK.cvn i))
 obtain ⟨o0,o1,o2,o3⟩ := open_spec s (K.cvs.getD i [])
 have hget : K.cons.getD i zeroCon = x.c := by rw [List.getD_eq_getElem?_getD,hD.c];rfl
 have f0 := hD.f0
 have c2 := hD.c2
 have f8 := h.f8
 have cv := hD.cv
 have hi1 : (i : Int) < K.cons.length := by omega
 have hi0 : (0 : Int) ≤ i := by omega
 have hbl := h.lt.1
 have hgl := hD.con.lt
 rw [hget] at hso'
 have hso := hso'
 by_cases c1 : 1 < (openS s (K.cvs.getD i [])).2
 ·have HRES : Hid (drawS K i s = (true,s)) := by
   rw [Hid];unfold drawS;rw [hget];simp only [];rw [if_neg hz,if_neg (by rw [cw];decide),if_neg (by omega),if_pos hso,if_pos c1]
  have k0 : w.cell? ⟨g,i * 10,none⟩ = some (.int .i64 x.c.sort) := hD.con.cell 0 _ rfl
  have f2 := h.f2
  rw [cw] at f2
  rw [hso] at k0
  generalize hOO : openS s (K.cvs.getD i []) = O at *
  have hO : (O.2 == 0) = false := by simp;omega
  have HH := hide h
  clear h hK hs hT hD hcon hget hz o0 o1 o2 o3 cw hso hso' hOO
  go_enter Tryz.func86,Tryz.ntmps86
  go_wp2_with (first | (go_at_call 129;refine hlo.get.mono ?_;rintro e w' ⟨rfl,hww⟩;subst w'))
  go_ret
  rw [HRES.out]
  exact ⟨rfl,⟨_,HH.out⟩,FrS.refl X _⟩
 ·have HRES : Hid (drawS K i s = sumS K x.c true (openS s (K.cvs.getD i [])).1 s) := by
   rw [Hid];unfold drawS;rw [hget];simp only [];rw [if_neg hz,if_neg (by rw [cw];decide),if_neg (by omega),if_pos hso,if_neg c1]
  have k0 : w.cell? ⟨g,i * 10,none⟩ = some (.int .i64 x.c.sort) := hD.con.cell 0 _ rfl
  have f2 := h.f2
  rw [cw] at f2
  rw [hso] at k0
  generalize hOO : openS s (K.cvs.getD i []) = O at *
  have hO : (O.2 == 0) = false := by simp;omega
  have c1' : decide (1 < O.2) = false := by simpa using c1
  obtain ⟨ov,oo⟩ := o2 (by omega)
  have hv := raw_ok hcon _ ((hK.cv i _ hD.c O.1).1 ov)
  have KD := Kept.mk (sc_drawSum h hK hs hD.con hmem (.inl hso) hv true hT.le)
  clear h hK hs hT hD hcon hget hz o0 o1 o2 o3 cw hso hso' hOO c1 ov oo hv
  go_enter Tryz.func86,Tryz.ntmps86
  go_wp2_with (first | (go_at_call 130;refine KD.get.mono ?_;rintro e w2 ⟨rfl,hs2,hf2⟩) | (go_at_call 129;refine hlo.get.mono ?_;rintro e w' ⟨rfl,hww⟩;subst w'))
  go_ret
  rw [HRES.out]
  exact ⟨rfl,hs2,hf2⟩
theorem draw_when (h : SAt w0 w X K s vT vS) (hK : KOk K) (hs : SOk K s) (hT : TB s) {i : Nat} (hi : i < K.cons.length) (hz : (openS s (K.cvs.getD i [])).2 ≠ 0) (cw : K.weak = false) (hso' : (K.cons.getD i zeroCon).sort = 1) : Calls Tryz.prog 86 #[.pointer (some ⟨X.b,0,none⟩),.int .i64 (i : Int)] w fun e w' => e = .returned (.bool (drawS K i s).1) ∧ (∃ vT',SAt w0 w' X K (drawS K i s).2 vT' vS) ∧ FrS X w w' := by
 obtain ⟨g,x,ca,cc,cap,hD⟩ := h.draw hi
 have hmem := List.mem_of_getElem? hD.c
 have hcon := hK.cons _ hmem
 have hlo := Kept.mk (sc_lastOpen h hK.vlen hD.row (fun v hv => raw_ok hcon v ((hK.cv i _ hD.c v).1 hv)) (hK.cvn i))
 obtain ⟨o0,o1,o2,o3⟩ := open_spec s (K.cvs.getD i [])
 have hget : K.cons.getD i zeroCon = x.c := by rw [List.getD_eq_getElem?_getD,hD.c];rfl
 have f0 := hD.f0
 have c2 := hD.c2
 have f8 := h.f8
 have cv := hD.cv
 have hi1 : (i : Int) < K.cons.length := by omega
 have hi0 : (0 : Int) ≤ i := by omega
 have hbl := h.lt.1
 have hgl := hD.con.lt
 rw [hget] at hso'
 have hso := hso'
 obtain ⟨hpt,_⟩ := hcon.truth hso
 have k1 : w.cell? ⟨g,i * 10 + 1,none⟩ = some (.int .i64 x.c.truth) := hD.con.cell 1 _ rfl
 obtain ⟨kv,kf,_,_⟩ := h.valAt hpt
 have f6 := h.f6
 have f5 := h.f5
 have p1 := hpt.1
 have p2 := hpt.2
 have hgf := h.lt.2.2.2.1
 have hgv := h.lt.2.2.1
 by_cases cf : s.fixed x.c.truth = true
 ·rw [cf] at kf
  by_cases c1 : 1 < (openS s (K.cvs.getD i [])).2
  ·have HRES : Hid (drawS K i s = (true,s)) := by
    rw [Hid];unfold drawS;rw [hget];simp only [];rw [if_neg hz,if_neg (by rw [cw];decide),if_pos hso,if_pos cf,if_pos c1]
   have k0 : w.cell? ⟨g,i * 10,none⟩ = some (.int .i64 x.c.sort) := hD.con.cell 0 _ rfl
   have f2 := h.f2
   rw [cw] at f2
   rw [hso] at k0
   generalize hOO : openS s (K.cvs.getD i []) = O at *
   have hO : (O.2 == 0) = false := by simp;omega
   have HH := hide h
   clear h hK hs hT hD hcon hget hz o0 o1 o2 o3 cw hso hso' hOO cf hpt
   go_enter Tryz.func86,Tryz.ntmps86
   go_wp2_with (first | (go_at_call 129;refine hlo.get.mono ?_;rintro e w' ⟨rfl,hww⟩;subst w'))
   go_quiet (fail)
   go_wp2
   go_quiet (fail)
   go_wp2
   go_ret
   rw [HRES.out]
   exact ⟨rfl,⟨_,HH.out.grown (grown_drewN' _ _ _)⟩,FrS.grown (grown_drewN' _ _ _)⟩
  ·have HRES : Hid (drawS K i s = sumS K x.c (s.val x.c.truth == 1) (openS s (K.cvs.getD i [])).1 s) := by
    rw [Hid];unfold drawS;rw [hget];simp only [];rw [if_neg hz,if_neg (by rw [cw];decide),if_pos hso,if_pos cf,if_neg c1];rfl
   have k0 : w.cell? ⟨g,i * 10,none⟩ = some (.int .i64 x.c.sort) := hD.con.cell 0 _ rfl
   have f2 := h.f2
   rw [cw] at f2
   rw [hso] at k0
   generalize hOO : openS s (K.cvs.getD i []) = O at *
   have hO : (O.2 == 0) = false := by simp;omega
   have c1' : decide (1 < O.2) = false := by simpa using c1
   obtain ⟨ov,oo⟩ := o2 (by omega)
   have hv := raw_ok hcon _ ((hK.cv i _ hD.c O.1).1 ov)
   have KD := Kept.mk (fun {W : World} (hg : w.grownBy W none) => sc_drawSum (h.grown hg) hK hs (hD.con.grown hg) hmem (.inr hso) hv (s.val x.c.truth == 1) hT.le)
   clear h hK hs hT hD hcon hget hz o0 o1 o2 o3 cw hso hso' hOO c1 ov oo hv cf hpt
   go_enter Tryz.func86,Tryz.ntmps86
   go_wp2_with (first | (go_at_call 129;refine hlo.get.mono ?_;rintro e w' ⟨rfl,hww⟩;subst w'))
   go_quiet (fail)
   go_wp2
   go_quiet (fail)
   go_wp2_with (first | (go_at_call 130;refine (KD.get (grown_drewN' _ _ _)).mono ?_;rintro e w2 ⟨rfl,hs2,hf2⟩))
   go_ret
   rw [HRES.out]
   exact ⟨rfl,hs2,(FrS.grown (grown_drewN' _ _ _)).trans hf2⟩
 ·have cf' : s.fixed x.c.truth = false := by simpa using cf
  rw [cf'] at kf
  have HRES : Hid (drawS K i s = (true,s)) := by
   rw [Hid];unfold drawS;rw [hget];simp only [];rw [if_neg hz,if_neg (by rw [cw];decide),if_pos hso,if_neg cf]
  have k0 : w.cell? ⟨g,i * 10,none⟩ = some (.int .i64 x.c.sort) := hD.con.cell 0 _ rfl
  have f2 := h.f2
  rw [cw] at f2
  rw [hso] at k0
  generalize hOO : openS s (K.cvs.getD i []) = O at *
  have hO : (O.2 == 0) = false := by simp;omega
  have HH := hide h
  clear h hK hs hT hD hcon hget hz o0 o1 o2 o3 cw hso hso' hOO cf cf' hpt
  go_enter Tryz.func86,Tryz.ntmps86
  go_wp2_with (first | (go_at_call 129;refine hlo.get.mono ?_;rintro e w' ⟨rfl,hww⟩;subst w'))
  go_quiet (fail)
  go_wp2
  go_ret
  rw [HRES.out]
  exact ⟨rfl,⟨_,HH.out.grown (grown_drewN' _ _ _)⟩,FrS.grown (grown_drewN' _ _ _)⟩
theorem sc_draw (h : SAt w0 w X K s vT vS) (hK : KOk K) (hs : SOk K s) (hT : TB s) {i : Nat} (hi : i < K.cons.length) : Calls Tryz.prog 86 #[.pointer (some ⟨X.b,0,none⟩),.int .i64 (i : Int)] w fun e w' => e = .returned (.bool (drawS K i s).1) ∧ (∃ vT',SAt w0 w' X K (drawS K i s).2 vT' vS) ∧ FrS X w w' := by
 by_cases hz : (openS s (K.cvs.getD i [])).2 = 0
 ·exact draw_zero h hK hs hi hz
 ·cases cw : K.weak with
  | true => exact draw_weak h hK hs hi hz cw
  | false =>
   have hget : K.cons.getD i zeroCon = K.cons[i] := by rw [List.getD_eq_getElem?_getD,List.getElem?_eq_getElem hi];rfl
   rcases (hK.cons _ (List.getElem_mem hi)).sort with e | e | e | e | e
   ·exact draw_lin h hK hs hT hi hz cw (by rw [hget];exact e)
   ·exact draw_when h hK hs hT hi hz cw (by rw [hget];exact e)
   ·exact draw_at h hK hs hT hi hz cw (by rw [hget];exact e)
   ·exact draw_diff h hK hs hT hi hz cw (by rw [hget];exact e)
   ·exact draw_or h hK hs hT hi hz cw (by rw [hget];exact e)
end
section
set_option maxHeartbeats 8000000
set_option maxRecDepth 100000
variable {w0 w w' w'' : World} {X : SL} {K : SK} {s : SS} {vT vS : Value}
def ixB (b : Bool) (l : List Bool) : Int := match l.findIdx? (fun x => x == b) with | some i => (i : Int) | none => -1
theorem ixB_at {b : Bool} {l : List Bool} {i : Nat} (hno : ∀ j x,j < i → l[j]? = some x → (x == b) = false) (ha : l[i]? = some b) : ixB b l = i := by
 have : l.findIdx? (fun x => x == b) = some i := by
  rw [List.findIdx?_eq_some_iff_getElem]
  have hi := (List.getElem?_eq_some_iff.1 ha).1
  refine ⟨hi,?_,fun j hj => ?_⟩
  ·rw [(List.getElem?_eq_some_iff.1 ha).2];simp
  ·have := hno j _ hj (List.getElem?_eq_getElem (by omega))
   simpa using this
 unfold ixB;rw [this]
theorem ixB_none {b : Bool} {l : List Bool} (hno : ∀ j x,j < l.length → l[j]? = some x → (x == b) = false) : ixB b l = -1 := by
 have : l.findIdx? (fun x => x == b) = none := by
  rw [List.findIdx?_eq_none_iff]
  intro x hx
  obtain ⟨j,hj,rfl⟩ := List.mem_iff_getElem.1 hx
  exact hno j _ hj (List.getElem?_eq_getElem hj)
 unfold ixB;rw [this]
theorem bx_Index {g cap : Nat} {l : List Bool} (hg : w.heap[g]? = some (.cells (l.map Value.bool).toArray 4 (0,0))) (b : Bool) (hll : l.length ≤ 3000) : Calls Tryz.prog 85 #[.slice (some ⟨g,0,none⟩) l.length cap,.bool b] w fun e w' => e = .returned (.int .i64 (ixB b l)) ∧ w' = w := by
 have HG := hide hg
 have hlt0 := some_lt hg
 clear hg
 go_enter Tryz.func85,Tryz.ntmps85
 go_wp2
 go_loopw [8] (fun vi wr => ∃ i : Nat,i ≤ l.length ∧ vi = .int .i64 i ∧ (∀ j x,j < i → l[j]? = some x → (x == b) = false) ∧ wr = w) (fun vi _ => l.length - (intOf vi).toNat)
 case atStart => exact ⟨0,Nat.zero_le _,rfl,fun j x hj => absurd hj (Nat.not_lt_zero j),rfl⟩
 case round =>
  obtain ⟨i,hi,rfl,hno,hww⟩ := hrel
  subst wr
  have HNO := hide hno
  clear hno
  by_cases hlt : i < l.length
  ·obtain ⟨a,ha⟩ : ∃ a,l[i]? = some a := ⟨l[i],List.getElem?_eq_getElem hlt⟩
   have k0 : w.cell? ⟨g,i,none⟩ = some (.bool a) := cell_of HG.out i _ (by simp [ha])
   have hlt3 : (i : Int) < l.length := by omega
   have h03 : (0 : Int) ≤ i := by omega
   have HA := hide ha
   clear ha
   by_cases c : a = b
   ·subst c
    have HE : Hid (ixB a l = i) := ixB_at HNO.out HA.out
    go_wp2
    go_ret
    rw [HE.out]
    exact ⟨rfl,rfl⟩
   ·have c' : (b == a) = false := by simp;exact fun e => c e.symm
    have HE : Hid (∀ j x,j < i + 1 → l[j]? = some x → (x == b) = false) := fun j x hj hx => by
     by_cases e : j = i
     ·subst e;rw [HA.out] at hx;cases hx;simpa using c
     ·exact HNO.out j x (by omega) hx
    go_wp2
    go_roundw
    case rel => exact ⟨i + 1,by omega,by go_num,HE.out,by trivial⟩
    case measure => simp [intOf];omega
  ·obtain rfl : i = l.length := by omega
   have HE : Hid (ixB b l = -1) := ixB_none HNO.out
   go_wp2
   go_ret
   rw [HE.out]
   exact ⟨rfl,rfl⟩
theorem ixB_mark (m : List Bool) : ixB true m = match markI m with | some i => (i : Int) | none => -1 := by
 unfold ixB markI
 have : (fun x : Bool => x == true) = id := by funext x;cases x <;> rfl
 rw [this]
theorem SAt.clr (h : SAt w0 w X K s vT vS) (hml : s.marked.length = K.cons.length) : SAt w0 (w.setCells X.gm 0 (List.replicate K.cons.length (.bool false))) X K (clearS s) vT vS ∧ FrS X w (w.setCells X.gm 0 (List.replicate K.cons.length (.bool false))) := by
 obtain ⟨n1,n2,n3,n4,n5,n6,n7,n8,n9,n10⟩ := nd_ne h
 have gs := grown_setCells w X.gm 0 (List.replicate K.cons.length (.bool false))
 have keep : ∀ {k : Nat} {o : Obj},w.heap[k]? = some o → k ≠ X.gm → (w.setCells X.gm 0 (List.replicate K.cons.length (.bool false))).heap[k]? = some o := fun {k o} hk hne => (gs.block k (some_lt hk) (fun e => hne (by cases e;rfl))).trans hk
 refine ⟨h.turn (h.g0_turn gs own_gm) (fun k o hk hn => keep hk (fun e => hn (by rw [e];exact own_gm))) (keep h.rcd n4) (h.left.kept fun o ho => keep ho n7) (keep h.vals n9) (keep h.fixd n10) ?_ rfl rfl,FrS.turn gs own_gm⟩
 obtain ⟨a,h1,h2,h3,h4⟩ := heap_setCells (List.replicate K.cons.length (.bool false)) 0 w _ h.mark
 rw [h1]
 have : a = ((clearS s).marked.map Value.bool).toArray := by
  apply Array.ext_getElem?
  intro j
  by_cases hj : j < K.cons.length
  ·have := h3 j (by simpa using hj) (by simp [hml,hj])
   rw [Nat.zero_add] at this
   rw [this]
   simp [clearS,hml,hj]
  ·rw [Array.getElem?_eq_none (by rw [h2];simp [hml];omega),Array.getElem?_eq_none (by simp [clearS,hml];omega)]
 rw [this]
theorem zeroB (w : World) : (zeroValue 4).run Tryz.prog w = .ok (.bool false) w := by kernel_rfl
def CnRel (w0 w : World) (X : SL) (K : SK) (vS : Value) (R : Bool × SS) (k : Nat) (vc : Value) (wr : World) : Prop :=
 ∃ (s : SS) (vT : Value),massS s < k ∧ vc = .int .i64 (ixB true s.marked) ∧ SAt w0 wr X K s vT vS ∧ SOk K s ∧ TB s ∧ FrS X w wr ∧ concS K s = R
theorem draw_tb (hK : KOk K) (hs : SOk K s) (hT : TB s) {i : Nat} {c : QCon} (hc : K.cons[i]? = some c) : TB (drawS K i s).2 := by
 have hmem := List.mem_of_getElem? hc
 have hcon := hK.cons c hmem
 have hcv := hK.cv i c hc
 have hget : K.cons.getD i zeroCon = c := by rw [List.getD_eq_getElem?_getD,hc];rfl
 obtain ⟨o0,o1,o2,o3⟩ := open_spec s (K.cvs.getD i [])
 unfold drawS
 rw [hget]
 simp only []
 generalize hO : openS s (K.cvs.getD i []) = o at *
 by_cases c0 : o.2 = 0
 ·rw [if_pos c0];exact hT
 rw [if_neg c0]
 obtain ⟨ov,oo⟩ := o2 (by omega)
 have hvp := raw_ok hcon o.1 ((hcv o.1).1 ov)
 have hsum : ∀ t,TB (sumS K c t o.1 s).2 := fun t => keep_tb hK hs hvp (fun j => suit_sub j) hT
 by_cases cw : K.weak = true
 ·rw [if_pos cw];exact hT
 rw [if_neg cw]
 by_cases c1 : c.sort = 1
 ·rw [if_pos c1]
  split
  ·split
   ·exact hT
   ·exact hsum _
  ·exact hT
 rw [if_neg c1]
 by_cases cz : c.sort = 0
 ·rw [if_pos cz]
  split
  ·exact hT
  ·exact hsum _
 rw [if_neg cz]
 by_cases c2 : c.sort = 2
 ·rw [if_pos c2]
  obtain ⟨hp,he⟩ := hcon.place c2
  obtain ⟨u1,u2⟩ := atF_sub (P := s.L c.place) (E := s.L c.entry) (l := c.list) (i := 0) (r := (0,0)) (fun j h => by simp at h) (fun j h => by simp at h)
  have q1 := (keep_ok hK hs hp u1).1.ok hs
  have q2 := keep_tb hK hs hp u1 hT
  unfold atS
  simp only []
  split
  ·exact keep_tb hK q1 he (fun j h => by rw [Nat.testBit_and] at h;simp at h;exact h.2) q2
  ·exact q2
 rw [if_neg c2]
 by_cases c3 : c.sort = 3
 ·rw [if_pos c3];exact (diff_inv hK hcon.vars _ hs hT).2
 rw [if_neg c3]
 by_cases c4 : c.sort = 4
 ·rw [if_pos c4]
  have hor := (hcv o.1).1 ov
  unfold rawVars at hor
  rw [if_neg c1,if_neg cz,if_neg c2,if_neg c3,if_pos c4] at hor
  obtain ⟨l,hl,hm⟩ := draw_may hK hs hc c4 hor oo
  obtain ⟨ii,f,hf1,hf2,hf3,hf4,hf5⟩ := find_ix (p := mayS s) ⟨l,hl,hm⟩
  unfold orS
  rw [hf2]
  simp only [Option.getD_some]
  split
  ·exact hT
  ·exact keep_tb hK hs (hcon.lits f hf5).1 (fun j h => by rw [bitV_bit] at h;rw [← of_decide_eq_true h];exact hf3) hT
 rw [if_neg c4];exact hT
theorem sc_conclude (h : SAt w0 w X K s vT vS) (hK : KOk K) (hs : SOk K s) (hT : TB s) : Calls Tryz.prog 50 #[.pointer (some ⟨X.b,0,none⟩)] w fun e w' => e = .returned (.bool (concS K s).1) ∧ (∃ vT',SAt w0 w' X K (concS K s).2 vT' vS) ∧ FrS X w w' := by
 obtain ⟨R,hR⟩ : ∃ R,concS K s = R := ⟨_,rfl⟩
 rw [hR]
 have HST : Hid (CnRel w0 w X K vS R (massS s + 1) (.int .i64 (ixB true s.marked)) w) := ⟨s,vT,Nat.lt_succ_self _,rfl,h,hs,hT,FrS.refl X w,hR⟩
 have KI0 := Kept.mk (bx_Index (cap := K.cons.length) h.mark true (by rw [hs.ml];have := hK.clen;omega))
 rw [hs.ml] at KI0
 have f10 := h.f10
 have HK := hide hK
 have hm16 := hK.clen
 clear h hs hT hR hK
 go_enter Tryz.func50,Tryz.ntmps50
 go_wp2_with (first | (go_at_call 85;refine KI0.get.mono ?_;rintro e w' ⟨rfl,hww⟩;subst w'))
 clear KI0 f10
 go_loopg [3] (massS s + 1) (fun k vc wr => CnRel w0 w X K vS R k vc wr)
 case atStart => exact HST.out
 case round =>
  clear HST
  obtain ⟨si,vTi,hk,rfl,hat,hso,htb,hfr,hres⟩ := hrel
  rw [ixB_mark]
  have f10 := hat.f10
  cases hm : markI si.marked with
  | none =>
   have e : R = (true,si) := by rw [← hres];exact concS_none hm
   subst e
   have HAT := hide hat
   have HFR := hide hfr
   clear hat hfr hso htb hres hm f10
   simp only []
   go_wp2
   go_ret
   exact ⟨rfl,⟨_,HAT.out⟩,HFR.out⟩
  | some i =>
   simp only []
   obtain ⟨hil,hib⟩ := markI_some hm
   have hi : i < K.cons.length := by rw [← hso.ml];exact hil
   have hmi : si.marked[i]? = some true := by
    rw [List.getD_eq_getElem?_getD,List.getElem?_eq_getElem hil] at hib
    rw [List.getElem?_eq_getElem hil];simpa using hib
   obtain ⟨km,fm⟩ := hat.markAt hmi
   have hi1 : (i : Int) < K.cons.length := by omega
   have hi0 : (0 : Int) ≤ i := by omega
   obtain ⟨hu,hfu⟩ := hat.mark1 i false
   have hsu : SOk K (unmark i si) := (refL_unmark i si).ok hso
   have htu : TB (unmark i si) := htb
   have hcc : K.cons[i]? = some K.cons[i] := List.getElem?_eq_getElem hi
   have KD := Kept.mk (sc_draw (s := unmark i si) hu HK.out hsu htu hi)
   have hres2 := concS_some HK.out hso hm
   rw [hres] at hres2
   have hmass := mass_draw HK.out hso hm
   have hin : SOk K (drawS K i (unmark i si)).2 ∧ TB (drawS K i (unmark i si)).2 := ⟨(draw_ok HK.out hsu hcc).1.ok hsu,draw_tb HK.out hsu htu hcc⟩
   generalize drawS K i (unmark i si) = k at *
   have HIN := hide hin
   have HFR := hide (hfr.trans hfu)
   have HM := hide hmass
   have HKK := hide hk
   cases hk1 : k.1 with
   | true =>
    rw [hk1] at KD
    have HR2 : Hid (concS K k.2 = R) := by rw [Hid,hres2,hk1];rfl
    have KI := Kept.mk (fun {W : World} {vT2 : Value} (q : SAt w0 W X K k.2 vT2 vS) => bx_Index (cap := K.cons.length) q.mark true (by rw [hin.1.ml];omega))
    rw [hin.1.ml] at KI
    clear hat hso htb hfr hres hres2 hm hil hib hmi hu hfu hsu htu hcc hmass hin hk1 hk
    go_wp2_with (first | (go_at_call 85;refine (KI.get hs2).mono ?_;rintro e w' ⟨rfl,hww⟩;subst w') | (go_at_call 86;refine KD.get.mono ?_;rintro e w2 ⟨rfl,⟨vT2,hs2⟩,hf2⟩;have g10 := hs2.f10))
    go_roundg (massS k.2 + 1)
    case rel => exact ⟨k.2,vT2,Nat.lt_succ_self _,rfl,hs2,HIN.out.1,HIN.out.2,HFR.out.trans hf2,HR2.out⟩
    case measure => have := HM.out;have := HKK.out;omega
   | false =>
    rw [hk1] at KD
    have HR2 : Hid (R = (false,clearS k.2)) := by rw [Hid,hres2,hk1];rfl
    have HCL : Hid (∀ {W : World} {vT2 : Value},SAt w0 W X K k.2 vT2 vS → (∀ ty,(Builtin.clear_ #[103] ty #[.slice (some ⟨X.gm,0,none⟩) K.cons.length K.cons.length]).run Tryz.prog W = .ok (.tuple #[]) (W.setCells X.gm 0 (List.replicate K.cons.length (.bool false))))) := fun {W vT2} q ty => by
     refine Lib.run_clear_slice W 103 4 ty (.bool false) Tryz.underlying103 zeroB rfl rfl X.gm 0 K.cons.length K.cons.length (by omega) (fun j hj => ?_) (fun j hj => frozen_of q.mark _)
     rw [Nat.zero_add,cell_of q.mark j (.bool (k.2.marked[j]'(by rw [HIN.out.1.ml];exact hj))) (by simp [HIN.out.1.ml,hj])];rfl
    clear hat hso htb hfr hres hres2 hm hil hib hmi hu hfu hsu htu hcc hmass hin hk1 hk
    go_wp2_with (first | (simp only [hcl]) | (go_at_call 86;refine KD.get.mono ?_;rintro e w2 ⟨rfl,⟨vT2,hs2⟩,hf2⟩;have g10 := hs2.f10;have hcl := HCL.out hs2))
    go_ret
    rw [HR2.out]
    have q := hs2.clr HIN.out.1.ml
    exact ⟨rfl,⟨_,q.1⟩,(HFR.out.trans hf2).trans q.2⟩
end
section
set_option maxHeartbeats 8000000
set_option maxRecDepth 100000
attribute [local go_sem ↓] ld_veil st_veil
variable {w0 w w' w'' : World} {X : SL} {K : SK} {s : SS} {vT vS : Value}
theorem chUnder : ∃ d,Tryz.prog.underlying 250 = some d ∧ d.isRow = true := ⟨_,Tryz.underlying250,rfl⟩
theorem chInfo : (Tryz.prog.info? 250).map (·.size) = some 33 := by kernel_rfl
theorem SAt.pop (h : SAt w0 w X K s vT vS) {g cap n : Nat} (hv : vT = .slice (some ⟨g,0,none⟩) (n + 1) cap) (hn : s.trail.length = n + 1) : SAt w0 (w.setCell ⟨X.b,7,none⟩ (.slice (some ⟨g,0,none⟩) n cap)) X K { s with trail := s.trail.dropLast } (.slice (some ⟨g,0,none⟩) n cap) vS ∧ FrS X w (w.setCell ⟨X.b,7,none⟩ (.slice (some ⟨g,0,none⟩) n cap)) := by
 obtain ⟨n1,n2,n3,n4,n5,n6,n7,n8,n9,n10⟩ := nd_ne h
 have gb := grown_set w X.b 7 (.slice (some ⟨g,0,none⟩) n cap)
 have hgn : g ∉ X.own := h.tap g (by rw [hv];rfl)
 have last : ∀ {k : Nat} {o : Obj},w.heap[k]? = some o → k ≠ X.b → (w.setCell ⟨X.b,7,none⟩ (.slice (some ⟨g,0,none⟩) n cap)).heap[k]? = some o := fun {k o} hk hne =>
  (gb.block k (some_lt hk) (fun e => hne (by cases e;rfl))).trans hk
 have ki : ∀ k cells,w.heap[k]? = some (.cells cells 3 (0,0)) → k ∉ X.own → (w.setCell ⟨X.b,7,none⟩ (.slice (some ⟨g,0,none⟩) n cap)).heap[k]? = some (.cells cells 3 (0,0)) := fun k c hk hn' =>
  last hk (fun e => hn' (by rw [e];exact own_b))
 have hgb : g ≠ X.b := fun e => hgn (by rw [e];exact own_b)
 refine ⟨⟨h.g0_turn gb own_b,h.low,h.nd,set_at h.rcd 7 _ rfl,h.left.kept fun o ho => last ho n1.symm,last h.vals n2.symm,last h.fixd n3.symm,last h.mark n4.symm,?_,?_,?_,h.sap,last h.cvb (fun e => h.cap.1 (by rw [e];exact own_b)),h.cvl,fun i v q => (h.cvr i v q).kept ki,last h.usb (fun e => h.cap.2 (by rw [e];exact own_b)),h.usl,fun i v q => (h.usr i v q).kept ki,h.cap,h.set0,h.csK,h.db0⟩,FrS.turn gb own_b⟩
 ·have hlen : s.trail.dropLast.length = n := by simp [hn]
  show World.ownsRow _ _ _ _ _ s.trail.dropLast.length _
  rw [hlen]
  have hfl : (s.trail.dropLast.flatMap chCell).length = n * 33 := by
   rw [List.length_flatMap]
   have : (s.trail.dropLast.map fun a => (chCell a).length) = List.replicate n 33 := by
    apply List.ext_getElem
    ·simp [hn]
    ·intro i _ _;simp [ch_len]
   rw [this];simp
  refine ⟨hfl,.inr ?_⟩
  rcases h.trail.2 with ⟨e,_⟩ | ⟨g',cap',cur,e,hB,hh,hc,hm,hsz,htk⟩
  ·rw [hv] at e;cases e
  ·rw [hv] at e
   injection e with e1 e2 e3
   injection e1 with e1
   injection e1 with e1
   subst e1 e3
   refine ⟨g,cap,cur,rfl,hB,last hh hgb,by omega,hm,hsz,?_⟩
   have hsp : s.trail = s.trail.dropLast ++ [s.trail.getLast (fun e => by rw [e] at hn;simp at hn)] := (List.dropLast_concat_getLast _).symm
   have h2 : (s.trail.flatMap chCell).take (n * 33) = s.trail.dropLast.flatMap chCell := by
    conv => lhs;rw [hsp]
    rw [List.flatMap_append,List.take_append_of_le_length (by rw [hfl];exact Nat.le_refl _),List.take_of_length_le (by rw [hfl];exact Nat.le_refl _)]
   rw [← h2,← htk,List.take_take,Nat.min_eq_left (by rw [hn];omega)]
 ·intro k hk
  have : g = k := by injection hk
  rw [← this];exact hgn
 ·obtain ⟨rows,r1,r2⟩ := h.sols
  refine ⟨rows,r1.kept gb ?_,fun i v q => (r2 i v q).kept ki⟩
  cases hv' : vS.ownBlock with
  | none => exact .inl rfl
  | some k => exact .inr (fun e => (h.sap k hv').1 (by have : k = X.b := (by injection e);rw [this];exact own_b))
theorem SAt.last (h : SAt w0 w X K s vT vS) {n : Nat} (hn : s.trail.length = n + 1) : ∃ (g cap : Nat) (p : Int × Nat),vT = .slice (some ⟨g,0,none⟩) (n + 1) cap ∧ s.trail[n]? = some p ∧ w.rangeAt g (n * 33) (chCell p) ∧ g ∉ X.own ∧ n + 1 ≤ cap := by
 have hl : n < s.trail.length := by omega
 rcases h.trail.2 with ⟨_,e⟩ | ⟨g,cap,cur,e,hB,hh,hc,hm,hsz,htk⟩
 ·omega
 ·refine ⟨g,cap,s.trail[n],by rw [e,hn],List.getElem?_eq_getElem hl,fun j u hu => ?_,h.tap g (by rw [e];rfl),by omega⟩
  have q := flat_get chCell 33 ch_len s.trail n _ (List.getElem?_eq_getElem hl) j u hu
  have hj : j < 33 := by have := (List.getElem?_eq_some_iff.1 hu).1;rw [ch_len] at this;exact this
  rw [← htk,List.getElem?_take_of_lt (by rw [hn];omega)] at q
  exact cell_of hh _ _ (by simpa using q)
def BkRel (w0 w : World) (X : SL) (K : SK) (vS : Value) (start : Nat) (R : SS) (k : Nat) (wr : World) : Prop :=
 ∃ (s : SS) (vT : Value),s.trail.length < k ∧ s.trail.length ≤ 1000000 ∧ SAt w0 wr X K s vT vS ∧ FrS X w wr ∧ start ≤ s.trail.length ∧ (∀ p ∈ s.trail,PlOk K.vars.length p.1 ∧ p.2 < 2 ^ 2001) ∧ popN (s.trail.length - start) s = R
theorem sc_takeBack (h : SAt w0 w X K s vT vS) (hn8 : K.vars.length ≤ 8) {start : Nat} (hst : start ≤ s.trail.length) (htl : s.trail.length ≤ 1000000) (htr : ∀ p ∈ s.trail,PlOk K.vars.length p.1 ∧ p.2 < 2 ^ 2001) : Calls Tryz.prog 139 #[.pointer (some ⟨X.b,0,none⟩),.int .i64 (start : Int)] w fun e w' => e = .returned (.tuple #[]) ∧ (∃ vT',SAt w0 w' X K (backS start s) vT' vS) ∧ FrS X w w' := by
 obtain ⟨R,hR⟩ : ∃ R,backS start s = R := ⟨_,rfl⟩
 rw [hR]
 have HST : Hid (BkRel w0 w X K vS start R (1000000 + 1) w) := ⟨s,vT,by omega,htl,h,FrS.refl X w,hst,htr,hR⟩
 obtain ⟨du,hdu,hdr⟩ := chUnder
 clear h hR hst htl htr
 go_enter Tryz.func139,Tryz.ntmps139
 go_wp2
 go_loopg [] (1000000 + 1) (fun k wr => BkRel w0 w X K vS start R k wr)
 case atStart => exact HST.out
 case round =>
  clear HST
  obtain ⟨si,vTi,hk,htl,hat,hfr,hsl,htr,hres⟩ := hrel
  have f7 := hat.f7
  by_cases hlt : start < si.trail.length
  ·obtain ⟨n,hn⟩ : ∃ n,si.trail.length = n + 1 := ⟨si.trail.length - 1,by omega⟩
   obtain ⟨g,cap,p,hv,hp,hrg,hgo,hcap⟩ := hat.last hn
   obtain ⟨hpv,hpD⟩ := htr p (List.mem_of_getElem? hp)
   subst hv
   obtain ⟨C,hC⟩ : ∃ C,C = chCell p := ⟨_,rfl⟩
   rw [← hC] at hrg
   have hCl : C.length = 33 := by rw [hC];exact ch_len p
   have hCi : (Tryz.prog.info? 250).map (·.size) = some C.length := by rw [hCl];exact chInfo
   have hCi' : (Tryz.prog.info? 250).map (·.size) = some C.toArray.size := by rw [List.size_toArray,hCl];exact chInfo
   have hCo : C.toArray.all (·.oneCell') = true := all_oneCell_toArray (by rw [hC];exact ch_one p)
   obtain ⟨d,hd⟩ := dc p.2
   have hCd : C = .int .i64 p.1 :: d := by rw [hC,hd.is];rfl
   have hnl : n ≤ 1000000 := by omega
   have hw1 : IntKind.i64.wrap (((n + 1 : Nat) : Int) - 1) = (n : Int) := by rw [wrap_s64 (by omega) (by omega)];omega
   have hw2 : IntKind.i64.wrap ((n : Int) + 1 - 1) = (n : Int) := by rw [wrap_s64 (by omega) (by omega)];omega
   have hw3 : IntKind.i64.wrap (n : Int) = (n : Int) := wrap_s64 (by omega) (by omega)
   have hcmp : (start : Int) < ((n + 1 : Nat) : Int) := by omega
   have hcmp2 : (start : Int) < (n : Int) + 1 := by omega
   have hn0 : (0 : Int) ≤ n := by omega
   have hn1 : (n : Int) < ((n + 1 : Nat) : Int) := by omega
   have hn2 : (n : Int) < (n : Int) + 1 := by omega
   have hn3 : (n : Int) ≤ cap := by omega
   have HS : Hid (∀ W,wr.grownBy W none → W.cell? ⟨X.b,7,none⟩ = some (.slice (some ⟨g,0,none⟩) (n + 1) cap) ∧ W.rangeAt g (n * 33) C) := fun W hg => ⟨(hat.grown hg).f7,fun j u hu => hg.cell (hrg j u hu) (by simp)⟩
   have hlast : si.trail.getLastD (0,0) = p := by
    rw [List.getLastD_eq_getLast?,List.getLast?_eq_getElem?,hn]
    simp only [Nat.add_sub_cancel]
    rw [hp];rfl
   have HRES : Hid (popN (n - start) (popS si) = R) := by
    rw [Hid,← hres,hn,show n + 1 - start = (n - start) + 1 by omega];rfl
   have HPOP : Hid (setS p.1 p.2 { si with trail := si.trail.dropLast } = popS si) := by
    rw [Hid];unfold popS setS;rw [hlast]
   have HTR2 : Hid (∀ q ∈ (popS si).trail,PlOk K.vars.length q.1 ∧ q.2 < 2 ^ 2001) := fun q hq => htr q ((List.dropLast_sublist si.trail).subset hq)
   have HLEN : Hid ((popS si).trail.length = n) := by rw [Hid];unfold popS;simp [hn]
   have HB3 : Hid (∀ Z : Array Value,Z.size = 33 → ((wr.alloc (.cells Z 250)).drew.there wr.heap.size 0 C.toArray.size) ∧ wr.grownBy ((wr.alloc (.cells Z 250)).drew.setCells wr.heap.size 0 C) none ∧ ((wr.alloc (.cells Z 250)).drew.setCells wr.heap.size 0 C).heap[wr.heap.size]? = some (.cells C.toArray 250 (0,0))) := fun Z hZ => by
    have hb : (wr.alloc (.cells Z 250)).drew.heap[wr.heap.size]? = some (.cells Z 250 (0,0)) := heap_alloc_new wr _
    obtain ⟨a,a1,a2,a3,a4⟩ := heap_setCells C 0 _ _ hb
    refine ⟨fun j hj => ⟨?_,frozen_of hb _⟩,grown_newr ((World.grownBy_alloc _ _ _).trans (grown_drew' _ _)) (Nat.le_refl _) (grown_setCells _ _ _ _),?_⟩
    ·have hj2 : j < Z.size := by rw [List.size_toArray,hCl] at hj;omega
     rw [Nat.zero_add,cell_of hb j _ (Array.getElem?_eq_getElem hj2)];rfl
    ·rw [a1]
     have : a = C.toArray := by
      apply Array.ext_getElem?
      intro j
      by_cases hj : j < 33
      ·have := a3 j (by omega) (by omega)
       rw [Nat.zero_add] at this
       rw [this];simp
      ·rw [Array.getElem?_eq_none (by omega),Array.getElem?_eq_none (by simp [hCl];omega)]
     rw [this]
   have HAT := hide hat
   have HFR := hide hfr
   have HN := hide hn
   have HHP := hide hp
   have HTR := hide htr
   have HCD := hide hCd
   clear hat hfr hres hp hrg hn htr hC hCd hlast
   go_wp2
   refine wp_region_held_drew (S := (fun W => W.cell? ⟨X.b,7,none⟩ = some (.slice (some ⟨g,0,none⟩) (n + 1) cap) ∧ W.rangeAt g (n * 33) C)) (by kernel_rfl) ?_ (fun hHeld => ?_)
   ·exact HS.out _ (grown_drew' _ _)
   apply tqW 0 12 hHeld
   ·(intro w hSw;(try dsimp only at hSw);go_simp;try with_reducible rfl)
   (try simp only [Act.put,arS,arZ,arN])
   apply tqW 1 13 hHeld
   ·(intro w hSw;(try dsimp only at hSw);go_simp;try with_reducible rfl)
   (try simp only [Act.put,arS,arZ,arN])
   apply tqW 2 14 hHeld
   ·(intro w hSw;(try dsimp only at hSw);go_simp;try with_reducible rfl)
   (try simp only [Act.put,arS,arZ,arN])
   apply tqW 3 15 hHeld
   ·(intro w hSw;(try dsimp only at hSw);go_simp;try with_reducible rfl)
   (try simp only [Act.put,arS,arZ,arN])
   apply tqW 4 16 hHeld
   ·(intro w hSw;(try dsimp only at hSw);go_simp;try with_reducible rfl)
   (try simp only [Act.put,arS,arZ,arN])
   apply tqW 5 17 hHeld
   ·(intro w hSw;(try dsimp only at hSw);go_simp;try with_reducible rfl)
   (try simp only [Act.put,arS,arZ,arN])
   apply tqW 6 18 hHeld
   ·(intro w hSw;(try dsimp only at hSw);go_simp;try with_reducible rfl)
   (try simp only [Act.put,arS,arZ,arN])
   apply tqW 7 19 hHeld
   ·(intro w hSw;(try dsimp only at hSw);go_simp;try with_reducible rfl)
   (try simp only [Act.put,arS,arZ,arN])
   apply tqW 8 20 hHeld
   ·(intro w hSw;(try dsimp only at hSw);go_simp;try with_reducible rfl)
   (try simp only [Act.put,arS,arZ,arN])
   apply tqW 9 21 hHeld
   ·(intro w hSw;(try dsimp only at hSw);go_simp;try with_reducible rfl)
   (try simp only [Act.put,arS,arZ,arN])
   apply tqW 10 22 hHeld
   ·(intro w hSw;(try dsimp only at hSw);go_simp;try with_reducible rfl)
   (try simp only [Act.put,arS,arZ,arN])
   refine tkH (i := 11) (v := .agg C.toArray) 23 rfl rfl (by kernel_rfl) (fun _ _ _ h => h) (yieldsIf_load_mid (by rfl) _ _ rfl _ _ rfl C _ (fun w hSw => hSw.2) hdu hdr hCi) hHeld ?_
   (try simp only [Act.put,arS,arZ,arN])
   refine wpAnyH_ready (rs := [12]) (by kernel_rfl) (by simp) ?_
   refine AllReadyH.cons rfl (fun K hK => ?_) AllReadyH.nil
   go_simp
   refine hK.out _ _ ?_ (fun hHeld => ?_)
   ·exact HS.out _ ((World.grownBy_alloc _ _ _).trans (grown_drew' _ _))
   clear hK K
   (try simp only [Act.put,arS,arZ,arN])
   refine wpAnyH_ready (rs := [13]) (by kernel_rfl) (by simp) ?_
   refine AllReadyH.cons rfl (fun K hK => ?_) AllReadyH.nil
   rw [if_pos (by rfl)]
   refine wp_store_mid 250 _ _ rfl wr.heap.size 0 C.toArray rfl rfl (HB3.out _ rfl).1 hCi' hCo ?_
   have e3 := (HB3.out _ (rfl : (#[Value.int .i64 0,.int .u64 0,.int .u64 0,.int .u64 0,.int .u64 0,.int .u64 0,.int .u64 0,.int .u64 0,.int .u64 0,.int .u64 0,.int .u64 0,.int .u64 0,.int .u64 0,.int .u64 0,.int .u64 0,.int .u64 0,.int .u64 0,.int .u64 0,.int .u64 0,.int .u64 0,.int .u64 0,.int .u64 0,.int .u64 0,.int .u64 0,.int .u64 0,.int .u64 0,.int .u64 0,.int .u64 0,.int .u64 0,.int .u64 0,.int .u64 0,.int .u64 0,.int .u64 0] : Array Value).size = 33)).2
   refine hK.out _ _ ?_ (fun hHeld => ?_)
   ·exact HS.out _ e3.1
   clear hK K
   (try simp only [Act.put,arS,arZ,arN])
   obtain ⟨g3,b3⟩ := e3
   generalize hW3 : ((wr.alloc (.cells #[Value.int .i64 0,.int .u64 0,.int .u64 0,.int .u64 0,.int .u64 0,.int .u64 0,.int .u64 0,.int .u64 0,.int .u64 0,.int .u64 0,.int .u64 0,.int .u64 0,.int .u64 0,.int .u64 0,.int .u64 0,.int .u64 0,.int .u64 0,.int .u64 0,.int .u64 0,.int .u64 0,.int .u64 0,.int .u64 0,.int .u64 0,.int .u64 0,.int .u64 0,.int .u64 0,.int .u64 0,.int .u64 0,.int .u64 0,.int .u64 0,.int .u64 0,.int .u64 0,.int .u64 0] 250)).drew.setCells wr.heap.size 0 C) = W3 at *
   change wpAnyH _ _ _ _ _ _ _ _ W3
   refine wpAnyH_done (by kernel_rfl) ?_ _
   clear hHeld hW3
   have hA3 := HAT.out.grown g3
   obtain ⟨hP0,hFP⟩ := hA3.pop rfl HN.out
   have hP := hP0.grown (grown_drew' _ none)
   have f73 := hA3.f7
   have z73 := hA3.fz 7
   have hBn : wr.heap.size ∉ X.own := HAT.out.new_own (Nat.le_refl _)
   have hbb : wr.heap.size ≠ X.b := fun e => hBn (by rw [e];exact own_b)
   have b4 : (W3.setCell ⟨X.b,7,none⟩ (.slice (some ⟨g,0,none⟩) n cap)).heap[wr.heap.size]? = some (.cells C.toArray 250 (0,0)) := (Below.heap_setCell W3 _ _ _ hbb).trans b3
   have k30 := cell_of b3 0 (.int .i64 p.1) (by rw [HCD.out];rfl)
   have k40 := cell_of b4 0 (.int .i64 p.1) (by rw [HCD.out];rfl)
   have ld4 := ld_range (w := (W3.setCell ⟨X.b,7,none⟩ (.slice (some ⟨g,0,none⟩) n cap)).drew) (b := wr.heap.size) (o := 1) (c := d) (fun j u hu => cell_of b4 _ _ (by rw [HCD.out];simp [Nat.add_comm 1 j,hu])) hd.len
   have KS := Kept.mk (dc_set hd hP hn8 hpv hpD)
   have HF3 := hide (((FrS.grown g3).trans hFP).trans (FrS.grown (grown_drew' _ none)))
   clear hA3 hP0 hP hFP g3 b3 b4 HAT HS HB3 hHeld
   go_wp2
   refine wp_region_any (by kernel_rfl) ?_
   try (change wpAny _ _ _ _ _ _ _ (World.drew _))
   apply tqZ 0 24
   ·(intro w;go_simp;try with_reducible rfl)
   (try simp only [Act.put,arS,arZ,arN])
   apply tqZ 1 25
   ·(intro w;go_simp;try with_reducible rfl)
   (try simp only [Act.put,arS,arZ,arN])
   apply tqZ 2 26
   ·(intro w;go_simp;try with_reducible rfl)
   (try simp only [Act.put,arS,arZ,arN])
   apply tqZ 3 27
   ·(intro w;go_simp;try with_reducible rfl)
   (try simp only [Act.put,arS,arZ,arN])
   apply tqZ 5 29
   ·(intro w;go_simp;try with_reducible rfl)
   (try simp only [Act.put,arS,arZ,arN])
   apply tqZ 6 30
   ·(intro w;go_simp;try with_reducible rfl)
   (try simp only [Act.put,arS,arZ,arN])
   apply tqZ 7 31
   ·(intro w;go_simp;try with_reducible rfl)
   (try simp only [Act.put,arS,arZ,arN])
   refine wpAny_ready (rs := [4,8]) (by kernel_rfl) (by simp) ?_
   refine AllReady.cons rfl (fun K hK => ?_) (AllReady.cons rfl (fun K hK => ?_) AllReady.nil)
   all_goals
    go_simp
    refine hK _ _ ?_
    clear hK K
   ·refine wpAny_ready (rs := [8]) (by kernel_rfl) (by simp) ?_
    refine AllReady.cons rfl (fun K hK => ?_) AllReady.nil
    go_simp
    refine hK _ _ ?_
    clear hK K
    apply tqZ 9 33
    ·(intro w;go_simp;try with_reducible rfl)
    (try simp only [Act.put,arS,arZ,arN])
    apply tqZ 10 34
    ·(intro w;go_simp;try with_reducible rfl)
    (try simp only [Act.put,arS,arZ,arN])
    apply tqZ 11 35
    ·(intro w;go_simp;try with_reducible rfl)
    (try simp only [Act.put,arS,arZ,arN])
    apply tqZ 12 36
    ·(intro w;go_simp;try with_reducible rfl)
    (try simp only [Act.put,arS,arZ,arN])
    apply tqZ 13 37
    ·(intro w;go_simp;try with_reducible rfl)
    (try simp only [Act.put,arS,arZ,arN])
    refine wpAny_ready (rs := [14]) (by kernel_rfl) (by simp) ?_
    refine AllReady.cons rfl (fun K hK => ?_) AllReady.nil
    go_simp
    refine hK _ _ ?_
    clear hK K
    refine wpAny_done (by kernel_rfl) ?_ _
    go_wp2_with (first | (go_at_call 82;refine KS.get.mono ?_;rintro e w5 ⟨rfl,hs5,hf5⟩))
    rw [HPOP.out] at hs5
    go_roundg (n + 1)
    case rel => exact ⟨popS si,_,by rw [HLEN.out];omega,by rw [HLEN.out];omega,hs5,(HFR.out.trans HF3.out).trans hf5,by rw [HLEN.out];omega,HTR2.out,by rw [HLEN.out];exact HRES.out⟩
    case measure => have := HN.out;omega
   ·apply tqZ 9 33
    ·(intro w;go_simp;try with_reducible rfl)
    (try simp only [Act.put,arS,arZ,arN])
    apply tqZ 10 34
    ·(intro w;go_simp;try with_reducible rfl)
    (try simp only [Act.put,arS,arZ,arN])
    refine wpAny_ready (rs := [4]) (by kernel_rfl) (by simp) ?_
    refine AllReady.cons rfl (fun K hK => ?_) AllReady.nil
    go_simp
    refine hK _ _ ?_
    clear hK K
    apply tqZ 11 35
    ·(intro w;go_simp;try with_reducible rfl)
    (try simp only [Act.put,arS,arZ,arN])
    apply tqZ 12 36
    ·(intro w;go_simp;try with_reducible rfl)
    (try simp only [Act.put,arS,arZ,arN])
    apply tqZ 13 37
    ·(intro w;go_simp;try with_reducible rfl)
    (try simp only [Act.put,arS,arZ,arN])
    refine wpAny_ready (rs := [14]) (by kernel_rfl) (by simp) ?_
    refine AllReady.cons rfl (fun K hK => ?_) AllReady.nil
    go_simp
    refine hK _ _ ?_
    clear hK K
    refine wpAny_done (by kernel_rfl) ?_ _
    go_wp2_with (first | (go_at_call 82;refine KS.get.mono ?_;rintro e w5 ⟨rfl,hs5,hf5⟩))
    rw [HPOP.out] at hs5
    go_roundg (n + 1)
    case rel => exact ⟨popS si,_,by rw [HLEN.out];omega,by rw [HLEN.out];omega,hs5,(HFR.out.trans HF3.out).trans hf5,by rw [HLEN.out];omega,HTR2.out,by rw [HLEN.out];exact HRES.out⟩
    case measure => have := HN.out;omega
  ·have e : R = si := by rw [← hres,show si.trail.length - start = 0 by omega];rfl
   subst e
   obtain ⟨n,hn⟩ : ∃ n,R.trail.length = n := ⟨_,rfl⟩
   obtain ⟨va,vc,hv⟩ := own_slice_n hat.trail
   subst hv
   have hcm : decide ((start : Int) < (R.trail.length : Int)) = false := by simpa using hlt
   have HAT := hide hat
   have HFR := hide hfr
   clear hat hfr hres htr hn
   go_wp2
   go_end0
   exact ⟨rfl,⟨_,HAT.out⟩,HFR.out⟩
end
section
set_option maxHeartbeats 4000000
set_option maxRecDepth 100000
attribute [local go_sem ↓] ld_veil st_veil
variable {w0 w w' w'' : World} {X : SL} {K : SK} {s : SS} {vT vS : Value}
def NrRel (w : World) (left : List Nat) (R : Int × Int) (v3 v4 vi : Value) (wr : World) : Prop :=
 ∃ (i : Nat) (r : Int × Int),i ≤ left.length ∧ vi = .int .i64 i ∧ v3 = .int .i64 r.1 ∧ v4 = .int .i64 r.2 ∧ w.grownBy wr none ∧ narF i (left.drop i) r = R
theorem cnt_small (D : Nat) : cntD D ≤ 2048 := cntUp_le D 32
theorem sc_narrowest (h : SAt w0 w X K s vT vS) (hK : KOk K) : Calls Tryz.prog 134 #[.pointer (some ⟨X.b,0,none⟩)] w fun e w' => e = .returned (.int .i64 (narF 0 s.left (-1,0)).1) ∧ w.grownBy w' none := by
 obtain ⟨R,hR⟩ : ∃ R,narF 0 s.left (-1,0) = R := ⟨_,rfl⟩
 rw [hR]
 have f4 := h.f4
 have hll := h.ll
 have HST : Hid (NrRel w s.left R (.int .i64 (-1)) (.int .i64 0) (.int .i64 0) w) := ⟨0,(-1,0),Nat.zero_le _,rfl,rfl,rfl,grown_refl _ _,hR⟩
 have HLL := hide hll
 have HH := hide h
 have hn8 := hK.vlen
 clear h hR hK hll
 go_enter Tryz.func134,Tryz.ntmps134
 go_wp2
 go_loopw [3,4,13] (fun v3 v4 vi wr => NrRel w s.left R v3 v4 vi wr) (fun _ _ vi _ => K.vars.length - (intOf vi).toNat)
 case atStart => exact HST.out
 case round =>
  clear HST
  obtain ⟨i,r,hi,rfl,rfl,rfl,hgr,hres⟩ := hrel
  rw [HLL.out] at hi
  by_cases hlt : i < K.vars.length
  ·have hA := HH.out.grown hgr
   have hpl : PlOk K.vars.length (i : Int) := ⟨by omega,by omega⟩
   obtain ⟨d,hd⟩ := dc (s.L (i : Int))
   have hdl := hd.len
   have hdi := hd.info'
   have hdo := hd.one'
   have hds : d.toArray.size = 32 := by rw [List.size_toArray];exact hdl
   have ld1 := ld_range (w := wr) (b := X.gl) (o := i * 32) (c := d) (by rw [hd.is];have q := (hA.leftAt hpl).1;rw [Int.toNat_natCast] at q;exact q) hdl
   have hbx := BoxC.new wr hdl
   have ld2 := ld_range hbx.range hdl
   have g1 := World.grownBy_alloc wr (.cells d.toArray 161) none
   have f6 := (hA.grown g1).f6
   have kf := ((hA.grown g1).valAt hpl).2.1
   rw [Int.toNat_natCast] at kf
   have hdr : s.left.drop i = s.L (i : Int) :: s.left.drop (i + 1) := by
    have hl2 : i < s.left.length := by rw [HLL.out];exact hlt
    rw [List.drop_eq_getElem_cons hl2]
    congr 1
    unfold SS.L
    rw [Int.toNat_natCast,List.getD_eq_getElem?_getD,List.getElem?_eq_getElem hl2];rfl
   have KC := Kept.mk (fun W => dc_Count hd W)
   have hcs := cnt_small (s.L (i : Int))
   have h03 : (0 : Int) ≤ i := by omega
   have hlt3 : (i : Int) < K.vars.length := by omega
   rw [hdr,narF] at hres
   have HGR := hide (hgr.trans g1)
   have HRES := hide hres
   have hx1 : s.fixed (i : Int) = oneB (s.L (i : Int)) := rfl
   rw [hx1] at kf
   clear hx1 hgr hres hdr hA hd hbx g1
   generalize s.L (i : Int) = D at *
   have HLI : Hid (i + 1 ≤ s.left.length) := by rw [Hid,HLL.out];omega
   by_cases c1 : oneB D = true
   ·rw [c1] at kf
    have HR2 : Hid (narF (i + 1) (s.left.drop (i + 1)) r = R) := by rw [Hid,← HRES.out,if_pos c1]
    clear c1
    go_wp2_with (first | (refine wpList_store_new rfl 161 _ _ rfl d.toArray 161 _ rfl rfl hdi (by rw [hds];rfl) hdo ?_))
    go_roundw
    case rel => exact ⟨i + 1,r,HLI.out,by go_num,rfl,rfl,HGR.out,HR2.out⟩
    case measure => simp [intOf];omega
   ·have c1' : oneB D = false := by simpa using c1
    rw [c1'] at kf
    generalize hCn : (cntD D : Int) = Cn at *
    by_cases c2 : r.1 < 0
    ·have HR2 : Hid (narF (i + 1) (s.left.drop (i + 1)) ((i : Int),Cn) = R) := by rw [Hid,← HRES.out,if_neg c1,if_pos (.inl c2)]
     clear c1 c1' hCn
     go_wp2_with (first | (refine wpList_store_new rfl 161 _ _ rfl d.toArray 161 _ rfl rfl hdi (by rw [hds];rfl) hdo ?_) | (go_at_call 177;refine (KC.get _).mono ?_;rintro e w2 ⟨rfl,hg2⟩))
     go_roundw
     case rel => exact ⟨i + 1,_,HLI.out,by go_num,rfl,rfl,HGR.out.trans hg2,HR2.out⟩
     case measure => simp [intOf];omega
    ·have c2' : decide (r.1 < 0) = false := by simpa using c2
     by_cases c3 : Cn < r.2
     ·have HR2 : Hid (narF (i + 1) (s.left.drop (i + 1)) ((i : Int),Cn) = R) := by rw [Hid,← HRES.out,if_neg c1,if_pos (.inr c3)]
      clear c1 c1' hCn c2
      go_wp2_with (first | (refine wpList_store_new rfl 161 _ _ rfl d.toArray 161 _ rfl rfl hdi (by rw [hds];rfl) hdo ?_) | (go_at_call 177;refine (KC.get _).mono ?_;rintro e w2 ⟨rfl,hg2⟩))
      go_roundw
      case rel => exact ⟨i + 1,_,HLI.out,by go_num,rfl,rfl,HGR.out.trans hg2,HR2.out⟩
      case measure => simp [intOf];omega
     ·have c3' : decide (Cn < r.2) = false := by simpa using c3
      have HR2 : Hid (narF (i + 1) (s.left.drop (i + 1)) r = R) := by
       rw [Hid,← HRES.out,if_neg c1,if_neg (by simp only [not_or];exact ⟨c2,c3⟩)]
      clear c1 c1' hCn c2 c3
      go_wp2_with (first | (refine wpList_store_new rfl 161 _ _ rfl d.toArray 161 _ rfl rfl hdi (by rw [hds];rfl) hdo ?_) | (go_at_call 177;refine (KC.get _).mono ?_;rintro e w2 ⟨rfl,hg2⟩))
      go_roundw
      case rel => exact ⟨i + 1,r,HLI.out,by go_num,rfl,rfl,HGR.out.trans hg2,HR2.out⟩
      case measure => simp [intOf];omega
  ·obtain rfl : i = K.vars.length := by omega
   rw [List.drop_of_length_le (by rw [HLL.out];exact Nat.le_refl _)] at hres
   have e : r = R := hres
   subst e
   go_wp2
   go_ret
   exact ⟨rfl,hgr⟩
theorem ixB_next (left : List Nat) : ixB false (left.map oneB) = match left.findIdx? (fun D => !oneB D) with | some i => (i : Int) | none => -1 := by
 unfold ixB
 rw [List.findIdx?_map]
 have : ((fun x : Bool => x == false) ∘ oneB) = (fun D => !oneB D) := by funext D;simp [Function.comp]
 rw [this]
 all_goals (cases left.findIdx? (fun D => !oneB D) <;> rfl)
theorem sc_next (h : SAt w0 w X K s vT vS) (hK : KOk K) : Calls Tryz.prog 87 #[.pointer (some ⟨X.b,0,none⟩)] w fun e w' => e = .returned (.int .i64 (nextS K s)) ∧ w.grownBy w' none := by
 have f1 := h.f1
 by_cases c : K.order = 1
 ·have HR : Hid (nextS K s = (narF 0 s.left (-1,0)).1) := by rw [Hid];unfold nextS;rw [if_pos c]
  have KN := Kept.mk (sc_narrowest h hK)
  rw [c] at f1
  clear h hK c
  go_enter Tryz.func87,Tryz.ntmps87
  go_wp2_with (first | (go_at_call 134;refine KN.get.mono ?_;rintro e w2 ⟨rfl,hg2⟩))
  go_ret
  rw [HR.out]
  exact ⟨rfl,hg2⟩
 ·have c' : (K.order == 1) = false := by simpa using c
  have HR : Hid (nextS K s = ixB false (s.left.map oneB)) := by rw [Hid,ixB_next];unfold nextS;rw [if_neg c];cases s.left.findIdx? (fun D => !oneB D) <;> rfl
  have f6 := h.f6
  have hq : w.heap[X.gf]? = some (.cells ((s.left.map oneB).map Value.bool).toArray 4 (0,0)) := by rw [List.map_map];exact h.fixd
  have KN := Kept.mk (bx_Index (cap := K.vars.length) hq false (by rw [List.length_map,h.ll];have := hK.vlen;omega))
  rw [List.length_map,h.ll] at KN
  clear h hK c hq
  go_enter Tryz.func87,Tryz.ntmps87
  go_wp2_with (first | (go_at_call 85;refine KN.get.mono ?_;rintro e w' ⟨rfl,hww⟩;subst w'))
  go_ret
  rw [HR.out]
  exact ⟨rfl,grown_refl _ _⟩
end
section
variable {w0 w w' w'' : World} {X : SL} {K : SK} {s : SS} {vT vS : Value}
theorem infoSl : (Tryz.prog.info? 33).map (fun i => (i.zero,i.size,i.bytes)) = some (some (.slice none 0 0),1,24) := by kernel_rfl
theorem SAt.told (h : SAt w0 w X K s vT vS) {rows : List Value} (hr1 : w.ownsRow w0.heap.size 33 1 vS s.sols.length rows) (hr2 : ∀ i v,rows[i]? = some v → IRow X w v (s.sols.getD i [])) {wA : World} {g cap : Nat} {v' : Value} (hv' : IRow X w v' s.vals) (hg : w.grownBy wA vS.ownBlock) (hat : vS.ownBlock = some g ∨ g = w.heap.size) (hown : wA.ownsRow w0.heap.size 33 1 (.slice (some ⟨g,0,none⟩) (s.sols.length + 1) cap) (s.sols.length + 1) (rows ++ [v'])) : SAt w0 (wA.setCell ⟨X.b,11,none⟩ (.slice (some ⟨g,0,none⟩) (s.sols.length + 1) cap)) X K { s with sols := s.sols ++ [s.vals] } vT (.slice (some ⟨g,0,none⟩) (s.sols.length + 1) cap) ∧ FrS X w (wA.setCell ⟨X.b,11,none⟩ (.slice (some ⟨g,0,none⟩) (s.sols.length + 1) cap)) := by
 obtain ⟨n1,n2,n3,n4,n5,n6,n7,n8,n9,n10⟩ := nd_ne h
 have hgn : g ∉ X.own ∧ g ≠ X.gc ∧ g ≠ X.gu := by
  rcases hat with e | e
  ·exact h.sap g e
  ·subst e
   exact ⟨h.new_own (Nat.le_refl _),fun e => by have := some_lt h.cvb;omega,fun e => by have := some_lt h.usb;omega⟩
 have gb := grown_set wA X.b 11 (.slice (some ⟨g,0,none⟩) (s.sols.length + 1) cap)
 have app : ∀ {k : Nat} {o : Obj},w.heap[k]? = some o → vS.ownBlock ≠ some k → wA.heap[k]? = some o := fun {k o} hk hne => (hg.block k (some_lt hk) (fun e => hne e.symm)).trans hk
 have typ : ∀ {k : Nat} {c : Array Value} {t : TypeId} {f : Nat × Nat},w.heap[k]? = some (.cells c t f) → t ≠ 33 → wA.heap[k]? = some (.cells c t f) := fun {k c t f} hk ht => by
  refine app hk (fun e => ht ?_)
  rcases hr1.2 with ⟨q,_⟩ | ⟨g',cap',cur,q1,q2,q3,_⟩
  ·rw [q] at e;cases e
  ·rw [q1] at e
   have : g' = k := by injection e
   subst this
   rw [hk] at q3
   injection q3 with q3
   injection q3
 have last : ∀ {k : Nat} {o : Obj},wA.heap[k]? = some o → k ≠ X.b → (wA.setCell ⟨X.b,11,none⟩ (.slice (some ⟨g,0,none⟩) (s.sols.length + 1) cap)).heap[k]? = some o := fun {k o} hk hne =>
  (gb.block k (some_lt hk) (fun e => hne (by cases e;rfl))).trans hk
 have ki : ∀ k cells,w.heap[k]? = some (.cells cells 3 (0,0)) → k ∉ X.own → (wA.setCell ⟨X.b,11,none⟩ (.slice (some ⟨g,0,none⟩) (s.sols.length + 1) cap)).heap[k]? = some (.cells cells 3 (0,0)) := fun k c hk hn =>
  last (typ hk (by decide)) (fun e => hn (by rw [e];exact own_b))
 refine ⟨⟨?_,h.low,h.nd,set_at (typ h.rcd (by decide)) 11 _ rfl,?_,last (typ h.vals (by decide)) n2.symm,last (typ h.fixd (by decide)) n3.symm,last (typ h.mark (by decide)) n4.symm,?_,h.tap,?_,?_,last (app h.cvb (fun e => (h.sap _ e).2.1 rfl)) (fun e => h.cap.1 (by rw [e];exact own_b)),h.cvl,fun i v q => (h.cvr i v q).kept ki,last (app h.usb (fun e => (h.sap _ e).2.2 rfl)) (fun e => h.cap.2 (by rw [e];exact own_b)),h.usl,fun i v q => (h.usr i v q).kept ki,h.cap,h.set0,h.csK,h.db0⟩,?_⟩
 ·refine grown_new (k := X.b) ?_ (h.low _ own_b) gb
  refine ⟨hg.os.trans h.g0.os,hg.tape.trans h.g0.tape,hg.output.trans h.g0.output,Nat.le_trans h.g0.size hg.size,fun k hk _ => ?_⟩
  refine (hg.block k (Nat.lt_of_lt_of_le hk h.g0.size) (fun e => ?_)).trans (h.g0.block k hk (by simp))
  have := (hr1.lt k e.symm).1
  omega
 ·refine h.left.kept fun o ho => ?_
  obtain ⟨c,hc,_⟩ := h.left
  rw [hc] at ho
  cases ho
  exact last (typ hc (by decide)) n1.symm
 ·refine (h.trail.kept hg (own_apart h.trail hr1 (by decide))).kept gb ?_
  cases hv : vT.ownBlock with
  | none => exact .inl rfl
  | some k => exact .inr (fun e => h.tap k hv (by have : k = X.b := (by injection e);rw [this];exact own_b))
 ·refine ⟨rows ++ [v'],?_,fun i v q => ?_⟩
  ·show World.ownsRow _ _ _ _ _ (s.sols ++ [s.vals]).length _
   rw [List.length_append,List.length_singleton]
   exact hown.kept gb (.inr (fun e => hgn.1 (by have : g = X.b := (by injection e);rw [this];exact own_b)))
  ·have hrl : rows.length = s.sols.length := by have := hr1.1;omega
   rw [List.getElem?_append] at q
   split at q
   ·rename_i hi
    have hi2 : i < s.sols.length := by omega
    have e : (s.sols ++ [s.vals]).getD i [] = s.sols.getD i [] := by
     rw [List.getD_eq_getElem?_getD,List.getD_eq_getElem?_getD,List.getElem?_append_left hi2]
    rw [e]
    exact (hr2 i v q).kept ki
   ·rename_i hi
    have hi2 : i = s.sols.length := by
     have := (List.getElem?_eq_some_iff.1 q).1
     simp at this;omega
    have e : (s.sols ++ [s.vals]).getD i [] = s.vals := by
     rw [List.getD_eq_getElem?_getD,hi2];simp
    rw [e]
    have : v = v' := by
     rw [hrl,hi2,Nat.sub_self] at q
     simpa using q.symm
    rw [this]
    exact hv'.kept ki
 ·intro k hk
  have : g = k := by injection hk
  rw [← this];exact hgn
 ·refine ⟨Nat.le_trans hg.size gb.size,fun k o q1 q2 _ q4 => ?_⟩
  refine last (app q1 (fun e => ?_)) (fun e => q2 (by rw [e];exact own_b))
  rcases hr1.2 with ⟨q,_⟩ | ⟨g',cap',cur,t1,t2,t3,_⟩
  ·rw [q] at e;cases e
  ·rw [t1] at e
   have : g' = k := by injection e
   subst this
   rw [q1] at t3
   exact q4 _ _ (by injection t3)
theorem SAt.fin (h : SAt w0 w X K s vT vS) (e : Int) : SAt w0 (w.setCell ⟨X.b,12,none⟩ (.int .i64 e)) X K { s with ending := e } vT vS ∧ FrS X w (w.setCell ⟨X.b,12,none⟩ (.int .i64 e)) := by
 obtain ⟨n1,n2,n3,n4,n5,n6,n7,n8,n9,n10⟩ := nd_ne h
 have gs := grown_set w X.b 12 (.int .i64 e)
 have keep : ∀ {k : Nat} {o : Obj},w.heap[k]? = some o → k ≠ X.b → (w.setCell ⟨X.b,12,none⟩ (.int .i64 e)).heap[k]? = some o := fun {k o} hk hne => (gs.block k (some_lt hk) (fun e => hne (by cases e;rfl))).trans hk
 exact ⟨h.turn (h.g0_turn gs own_b) (fun k o hk hn => keep hk (fun e => hn (by rw [e];exact own_b))) (set_at h.rcd 12 _ rfl) (h.left.kept fun o ho => keep ho n1.symm) (keep h.vals n2.symm) (keep h.fixd n3.symm) (keep h.mark n4.symm) rfl rfl,FrS.turn gs own_b⟩
theorem SAt.node (h : SAt w0 w X K s vT vS) (e : Int) : SAt w0 (w.setCell ⟨X.b,13,none⟩ (.int .i64 e)) X K { s with nodes := e } vT vS ∧ FrS X w (w.setCell ⟨X.b,13,none⟩ (.int .i64 e)) := by
 obtain ⟨n1,n2,n3,n4,n5,n6,n7,n8,n9,n10⟩ := nd_ne h
 have gs := grown_set w X.b 13 (.int .i64 e)
 have keep : ∀ {k : Nat} {o : Obj},w.heap[k]? = some o → k ≠ X.b → (w.setCell ⟨X.b,13,none⟩ (.int .i64 e)).heap[k]? = some o := fun {k o} hk hne => (gs.block k (some_lt hk) (fun e => hne (by cases e;rfl))).trans hk
 exact ⟨h.turn (h.g0_turn gs own_b) (fun k o hk hn => keep hk (fun e => hn (by rw [e];exact own_b))) (set_at h.rcd 13 _ rfl) (h.left.kept fun o ho => keep ho n1.symm) (keep h.vals n2.symm) (keep h.fixd n3.symm) (keep h.mark n4.symm) rfl rfl,FrS.turn gs own_b⟩
end
section
set_option maxHeartbeats 8000000
set_option maxRecDepth 100000
variable {w0 w w' w'' : World} {X : SL} {K : SK} {s : SS} {vT vS : Value}
theorem own_irow {v : Value} {n : Nat} {l : List Int} (h : w.ownsRow w'.heap.size 3 1 v n (l.map (Value.int .i64))) (hn : n = l.length) (hv : v ≠ .slice none 0 0) (hX : ∀ k,w'.heap.size ≤ k → k ∉ X.own) : IRow X w v l := by
 subst hn
 rcases h.2 with ⟨e,_⟩ | ⟨g,cap,cur,e,hB,hh,hc,hm,hsz,htk⟩
 ·exact absurd e hv
 ·refine .inr ⟨g,cap,cur,e,hh,fun j x hx => ?_,hX g hB,hc⟩
  have hj := (List.getElem?_eq_some_iff.1 hx).1
  have q : (l.map (Value.int .i64))[j]? = some (.int .i64 x) := by rw [List.getElem?_map,hx];rfl
  rw [← htk,List.getElem?_take_of_lt (by omega)] at q
  simpa using q
theorem tell_full (h : SAt w0 w X K s vT vS) (hc : s.sols.length = 100000) : Calls Tryz.prog 88 #[.pointer (some ⟨X.b,0,none⟩)] w fun e w' => e = .returned (.bool false) ∧ SAt w0 w' X K { s with ending := 2 } vT vS ∧ FrS X w w' := by
 obtain ⟨rows,hr1,hr2⟩ := h.sols
 obtain ⟨va,vc,hv⟩ := own_slice_n hr1
 subst hv
 have f11 := h.f11
 rw [hc] at f11
 have f12 := h.f12
 have z12 := h.fz 12
 have HF := hide (h.fin 2)
 clear h hr1 hr2 hc
 go_enter Tryz.func88,Tryz.ntmps88
 go_wp2
 go_ret
 exact ⟨rfl,HF.out.1,HF.out.2⟩
theorem tell_more (h : SAt w0 w X K s vT vS) (hK : KOk K) (hc : s.sols.length ≠ 100000) (hle : s.sols.length ≤ 100000) : Calls Tryz.prog 88 #[.pointer (some ⟨X.b,0,none⟩)] w fun e w' => e = .returned (.bool true) ∧ (∃ vS',SAt w0 w' X K { s with sols := s.sols ++ [s.vals] } vT vS') ∧ FrS X w w' := by
 obtain ⟨rows,hr1,hr2⟩ := h.sols
 obtain ⟨va,vc,hv⟩ := own_slice_n hr1
 obtain ⟨L,hL⟩ : ∃ L,L = s.sols.length := ⟨_,rfl⟩
 have hvl : s.vals.length = K.vars.length := by rw [← h.ll];simp [SS.vals]
 have f11 := h.f11
 rw [hv,← hL] at f11
 have f5 := h.f5
 have hcmp : ((L : Int) == 100000) = false := by simp;omega
 have hn8 := hK.vlen
 have KC := Kept.mk (Tryz.slices_Clone_int X.gv 0 K.vars.length K.vars.length s.vals w.drew (by omega) (by omega) (fun j hj => by
  rw [Nat.zero_add]
  refine cell_of h.vals j _ ?_
  have hj2 : j < s.left.length := by rw [h.ll,← hvl];exact hj
  have e : s.vals.getD j 0 = oneV (s.left[j]) := by unfold SS.vals;rw [List.getD_eq_getElem?_getD,List.getElem?_map,List.getElem?_eq_getElem hj2];rfl
  rw [e]
  simp [hj2]))
 obtain ⟨i0,hi0⟩ : ∃ i,Tryz.prog.info? 33 = some i := Option.isSome_iff_exists.1 (by kernel_rfl)
 have hz := infoSl
 rw [hi0] at hz
 simp only [Option.map_some,Option.some.injEq,Prod.mk.injEq] at hz
 obtain ⟨hz0,hz1,hz2⟩ := hz
 have HW : Hid (∀ (w1 : World) (a : Option Addr) (c : Nat),w1.ownsRow w.drew.heap.size 3 1 (.slice a K.vars.length c) K.vars.length ((s.vals.take K.vars.length).map (Value.int .i64)) → (Value.slice a K.vars.length c) ≠ .slice none 0 0 → Below w.drew.heap.size w.drew w1 →
   w1.cell? ⟨X.b,11,none⟩ = some (.slice va L vc) ∧ (w1.alloc (.cells #[.slice a K.vars.length c] 33)).cell? ⟨X.b,11,none⟩ = some (.slice va L vc) ∧ (w1.alloc (.cells #[.slice a K.vars.length c] 33)).ownsRow w0.heap.size 33 1 (.slice va L vc) L rows ∧ w0.heap.size ≤ w1.heap.size ∧
   ∀ wA : World,(w1.alloc (.cells #[.slice a K.vars.length c] 33)).grownBy wA (Value.slice va L vc).ownBlock → wA.cell? ⟨X.b,11,none⟩ = some (.slice va L vc) ∧ wA.frozen? ⟨X.b,11,none⟩ = false ∧
    ∀ g cap,wA.ownsRow w0.heap.size 33 1 (.slice (some ⟨g,0,none⟩) (L + 1) cap) (L + 1) (rows ++ [.slice a K.vars.length c]) → ((Value.slice va L vc).ownBlock = some g ∨ g = (w1.alloc (.cells #[.slice a K.vars.length c] 33)).heap.size) →
     SAt w0 (wA.setCell ⟨X.b,11,none⟩ (.slice (some ⟨g,0,none⟩) (L + 1) cap)) X K { s with sols := s.sols ++ [s.vals] } vT (.slice (some ⟨g,0,none⟩) (L + 1) cap) ∧ FrS X w (wA.setCell ⟨X.b,11,none⟩ (.slice (some ⟨g,0,none⟩) (L + 1) cap))) := fun w1 a c ho hne hb => by
  have g1 : w.grownBy w1 none := (grown_drew' w none).trans (below_gr hb)
  have g2 := g1.trans (World.grownBy_alloc w1 (.cells #[.slice a K.vars.length c] 33) none)
  have hA2 := h.grown g2
  have hsub : vS = .slice va L vc := by rw [hL];exact hv
  have hrow : (w1.alloc (.cells #[.slice a K.vars.length c] 33)).ownsRow w0.heap.size 33 1 (.slice va L vc) L rows := by rw [← hsub,hL];exact hr1.kept g2 (own_none _)
  refine ⟨g1.cell f11 (by simp),g2.cell f11 (by simp),hrow,Nat.le_trans h.g0.size g1.size,fun wA hg => ?_⟩
  have hnb : some X.b ≠ (Value.slice va L vc).ownBlock := fun e => (h.sap X.b (by rw [hsub];exact e.symm)).1 own_b
  refine ⟨hg.cell (g2.cell f11 (by simp)) hnb,(hg.frozen_far ⟨X.b,11,none⟩ hA2.lt.1 hnb).trans (hA2.fz 11),fun g cap hown hat => ?_⟩
  have hir : IRow X (w1.alloc (.cells #[.slice a K.vars.length c] 33)) (.slice a K.vars.length c) s.vals := by
   rw [← hvl,List.take_of_length_le (Nat.le_refl _)] at ho
   rw [← hvl] at hne ⊢
   exact (own_irow (w' := w.drew) ho rfl hne (fun k hk => h.new_own hk)).kept (fun k cells hk _ => (heap_alloc_old _ _ (some_lt hk)).trans hk)
  subst hL
  have q := hA2.told (by rw [hsub];exact hrow) (fun i v q => (hr2 i v q).kept (fun k cells hk _ => (g2.block k (some_lt hk) (by simp)).trans hk)) hir (by rw [hsub];exact hg) (by rw [hsub];exact hat) hown
  exact ⟨q.1,(FrS.grown g2).trans q.2⟩
 have hLe : L ≤ 100000 := by omega
 clear h hr1 hr2 hc hle hL hv hvl hK
 go_enter Tryz.func88,Tryz.ntmps88
 go_wp2
 go_region_law (first | (refine step_append_lies _ (by rfl) _ _ 30 (by rfl) w0.heap.size 33 i0 (.slice none 0 0) 1 24 Tryz.underlying30 hi0 hz0 hz1 hz2 rfl (by decide) (.slice va L vc) L rows (by rfl) y3 ⟨w1.heap.size,0,none⟩ 1 1 [.slice ca K.vars.length cc] (by rfl) rfl (World.news_of_block (cs := #[.slice ca K.vars.length cc]) (t := 33) (fr := (0,0)) (heap_alloc_new w1 _)) (by intro u hu;simp at hu;subst hu;rfl) (by decide) (by unfold maxLen;omega) (by omega) (by simp;omega) _ rfl ?_;intro gA capA wA hownA hgrowA hatA hltA;obtain ⟨q1,q2,q3⟩ := y5 wA hgrowA;obtain ⟨x1,x2⟩ := q3 gA capA hownA hatA) | (go_simp;go_at_call 135;refine KC.get.mono ?_;rintro e w1 ⟨v',rfl,ho1,hv1,hb1⟩;obtain ⟨ca,cc,rfl⟩ := own_slice_n ho1;obtain ⟨y1,y2,y3,y4,y5⟩ := HW.out w1 ca cc ho1 hv1 hb1))
 all_goals
  have HX := hide x1
  have HX2 := hide x2
  clear KC HW y1 y2 y3 y4 y5 ho1 hv1 hb1 hownA hgrowA hatA hltA q1 q2 q3 x1 x2
  go_wp2
  go_ret
  exact ⟨rfl,⟨_,HX.out⟩,HX2.out⟩
theorem sc_tell (h : SAt w0 w X K s vT vS) (hK : KOk K) (hle : s.sols.length ≤ 100000) : Calls Tryz.prog 88 #[.pointer (some ⟨X.b,0,none⟩)] w fun e w' => e = .returned (.bool (tellS s).1) ∧ (∃ vS',SAt w0 w' X K (tellS s).2 vT vS') ∧ FrS X w w' := by
 unfold tellS
 by_cases c : s.sols.length = 100000
 ·rw [if_pos c]
  refine (tell_full h c).mono ?_
  rintro e w' ⟨rfl,h1,h2⟩
  exact ⟨rfl,⟨_,h1⟩,h2⟩
 ·rw [if_neg c]
  exact tell_more h hK c hle
end
section
set_option maxHeartbeats 8000000
set_option maxRecDepth 100000
variable {w0 w w' w'' : World} {X : SL} {K : SK} {s : SS} {vT vS : Value}
theorem concF_inv (hK : KOk K) : ∀ (n : Nat) {s : SS},SOk K s → TB s → SOk K (concF K n s).2 ∧ TB (concF K n s).2
 | 0,s,hs,hT => ⟨hs,hT⟩
 | n + 1,s,hs,hT => by
  rw [concF]
  cases e : markI s.marked with
  | none => exact ⟨hs,hT⟩
  | some i =>
   simp only []
   have hu := (refL_unmark i s).ok hs
   have hcc : K.cons[i]? = some (K.cons[i]'(by rw [← hs.ml];exact (markI_some e).1)) := List.getElem?_eq_getElem _
   have h1 := (draw_ok hK hu hcc).1.ok hu
   have h2 : TB (drawS K i (unmark i s)).2 := draw_tb hK hu hT hcc
   split
   ·exact concF_inv hK n h1 h2
   ·exact ⟨(refL_clear _).ok h1,h2⟩
theorem conc_inv (hK : KOk K) (hs : SOk K s) (hT : TB s) : SOk K (concS K s).2 ∧ TB (concS K s).2 := concF_inv hK _ hs hT
def EnPost (w0 w : World) (X : SL) (K : SK) (r : Bool × SS) (e : Ending) (w' : World) : Prop :=
 e = .returned (.bool r.1) ∧ (∃ vT' vS',SAt w0 w' X K r.2 vT' vS') ∧ FrS X w w'
theorem enter_walk (h : SAt w0 w X K s vT vS) (hK : KOk K) (hN : Node K s) (hT : TB s) (hle : s.sols.length ≤ 100000) (hn0 : 0 ≤ s.nodes) (hbu : K.budget ≤ 9223372036854775807) {n : Nat} (hch : ∀ {W : World} {vT2 : Value} {t : SS} {v : Int},SAt w0 W X K t vT2 vS → Node K t → TB t → t.sols = s.sols → t.left = s.left → t.nodes = s.nodes + 1 → nextS K t = v → 0 ≤ v → Calls Tryz.prog 89 #[.pointer (some ⟨X.b,0,none⟩),.int .i64 v] W (EnPost w0 W X K (chooseF K (enterF K n) v (valsD (t.L v)) t))) : Calls Tryz.prog 51 #[.pointer (some ⟨X.b,0,none⟩)] w (EnPost w0 w X K (enterF K (n + 1) s)) := by
 have f13 := h.f13
 have f3 := h.f3
 have z12 := h.fz 12
 have f12 := h.f12
 have z13 := h.fz 13
 have hb := h.lt.1
 by_cases c : K.budget ≤ s.nodes
 ·have HR : Hid (enterF K (n + 1) s = (false,{ s with ending := 1 })) := by rw [Hid,enterF,if_pos c]
  have HF : Hid (∀ m,SAt w0 ((w.setCell ⟨X.b,12,none⟩ (.int .i64 1)).drewN m) X K { s with ending := 1 } vT vS ∧ FrS X w ((w.setCell ⟨X.b,12,none⟩ (.int .i64 1)).drewN m)) := fun m => by
   obtain ⟨q1,q2⟩ := h.fin 1
   exact ⟨q1.grown (grown_drewN' _ _ _),q2.trans (FrS.grown (grown_drewN' _ _ _))⟩
  clear h hK hN hT hch
  go_enter Tryz.func51,Tryz.ntmps51
  go_wp2
  go_quiet (fail)
  go_wp2
  go_ret
  unfold EnPost
  rw [HR.out]
  exact ⟨rfl,⟨_,_,(HF.out _).1⟩,(HF.out _).2⟩
 ·have c' : decide (K.budget ≤ s.nodes) = false := by simpa using c
  obtain ⟨t,ht,tl,tt,tm,tn,ts,te⟩ : ∃ t : SS,({ s with nodes := s.nodes + 1 } : SS) = t ∧ t.left = s.left ∧ t.trail = s.trail ∧ t.marked = s.marked ∧ t.nodes = s.nodes + 1 ∧ t.sols = s.sols ∧ t.ending = s.ending := ⟨_,rfl,rfl,rfl,rfl,rfl,rfl,rfl⟩
  have hNt : Node K t := hN.same tl tm
  have hTt : TB t := by unfold TB at hT ⊢;rw [tl,tt];exact hT
  have hw1 : IntKind.i64.wrap (s.nodes + 1) = s.nodes + 1 := wrap_s64 (by omega) (by omega)
  have HA : Hid (∀ m,SAt w0 ((w.setCell ⟨X.b,13,none⟩ (.int .i64 (s.nodes + 1))).drewN m) X K t vT vS ∧ FrS X w ((w.setCell ⟨X.b,13,none⟩ (.int .i64 (s.nodes + 1))).drewN m)) := fun m => by
   obtain ⟨q1,q2⟩ := h.node (s.nodes + 1)
   rw [ht] at q1
   exact ⟨q1.grown (grown_drewN' _ _ _),q2.trans (FrS.grown (grown_drewN' _ _ _))⟩
  have KN := Kept.mk (fun {W : World} (q : SAt w0 W X K t vT vS) => sc_next q hK)
  have HRES : Hid (enterF K (n + 1) s = (if nextS K t < 0 then tellS t else chooseF K (enterF K n) (nextS K t) (valsD (t.L (nextS K t))) t)) := by
   rw [Hid,enterF,if_neg c];simp only [];rw [ht]
  obtain ⟨v,hv⟩ : ∃ v,nextS K t = v := ⟨_,rfl⟩
  rw [hv] at KN HRES
  by_cases cv : v < 0
  ·have HR2 : Hid (enterF K (n + 1) s = tellS t) := by rw [Hid,HRES.out,if_pos cv]
   have KT := Kept.mk (fun {W : World} (q : SAt w0 W X K t vT vS) => sc_tell q hK (by rw [ts];exact hle))
   clear h hK hN hT hch ht hNt hTt HRES hv c
   go_enter Tryz.func51,Tryz.ntmps51
   go_wp2
   go_quiet (fail)
   go_wp2_with (first | (go_at_call 88;refine (KT.get ((HA.out _).1.grown hg2)).mono ?_;rintro e w3 ⟨rfl,hs3,hf3⟩) | (go_at_call 87;refine (KN.get (HA.out _).1).mono ?_;rintro e w2 ⟨rfl,hg2⟩))
   go_ret
   unfold EnPost
   rw [HR2.out]
   obtain ⟨vS3,hs3⟩ := hs3
   exact ⟨rfl,⟨_,_,hs3⟩,((HA.out _).2.trans (FrS.grown hg2)).trans hf3⟩
  ·have HR2 : Hid (enterF K (n + 1) s = chooseF K (enterF K n) v (valsD (t.L v)) t) := by rw [Hid,HRES.out,if_neg cv]
   have cv' : decide (v < 0) = false := by simpa using cv
   have KT := Kept.mk (fun {W : World} (q : SAt w0 W X K t vT vS) => hch q hNt hTt ts tl tn hv (by omega))
   clear h hK hN hT hch ht hNt hTt HRES hv c cv
   go_enter Tryz.func51,Tryz.ntmps51
   go_wp2
   go_quiet (fail)
   go_wp2_with (first | (go_at_call 89;refine (KT.get ((HA.out _).1.grown hg2)).mono ?_;rintro e w3 ⟨rfl,hs3,hf3⟩) | (go_at_call 87;refine (KN.get (HA.out _).1).mono ?_;rintro e w2 ⟨rfl,hg2⟩))
   go_ret
   unfold EnPost
   rw [HR2.out]
   exact ⟨rfl,hs3,((HA.out _).2.trans (FrS.grown hg2)).trans hf3⟩
end
end Go.Proofs.YthpcbbnabnlanaaGreatDoor
