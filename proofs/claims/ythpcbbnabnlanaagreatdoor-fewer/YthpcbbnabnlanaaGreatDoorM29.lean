import Derived.Test.YthpcbbnabnlanaaGreatDoorM28
namespace Go.Proofs.YthpcbbnabnlanaaGreatDoor
open Go.RowKit
set_option linter.unusedVariables false
set_option linter.unusedSimpArgs false
section
set_option maxHeartbeats 8000000
set_option maxRecDepth 100000
variable {w w' wr : World}
def MF (w : World) (T : List UInt8) (order : Int) (weak : Bool) (rows : List (List Int)) : Prop := ∀ W, w.grownBy W none → Calls Tryz.prog 21 #[.string (bn T)] W fun e w' => ∃ b, e = .returned (.pointer (some ⟨b, 0, none⟩)) ∧ W.grownBy w' none ∧ ∀ W2, w'.grownBy W2 none → Calls Tryz.prog 22 #[.pointer (some ⟨b, 0, none⟩), .int .i64 order, .bool weak] W2 fun e w3 => ∃ vS, e = .returned (.tuple #[vS, .bool true]) ∧ LLT w3 vS rows ∧ W2.grownBy w3 none
def leT (A B D : List UInt8) : List UInt8 := ap (ap (ap (ap (ap (ap [108, 105, 110, 32] A) [32, 45, 32]) B) [32, 60, 61, 32]) D) [59]
theorem leT_is (x y : Nat) (k : Int) : stB (leA x y k) = leT (nmK x) (nmK y) (Lib.itoa k) := by
 simp [leA, leT, stB, AS.pcs, linPc, AT.body, sumPc, bytesP, Pc.bytes, ap, relB]
theorem leT_len {A B D : List UInt8} (h1 : A.length = 2) (h2 : B.length = 2) (h3 : D.length ≤ 14) : (leT A B D).length ≤ 70 := by
 simp [leT, ap]; omega
structure FwF (w : World) (n : Nat) (x y : Nat) (k : Int) (Ls : List (List UInt8)) (T1 T2 : List UInt8) (order : Int) (weak : Bool) (a b d : List (List Int)) : Prop where
 m0 : MF w (mkB n Ls) order weak a
 m1 : MF w (mkB n (T1 :: Ls)) order weak b
 m2 : MF w (mkB n (T2 :: Ls)) order weak d
 sum : b.length + d.length = a.length
 row : ∀ r ∈ a, r.length = n ∧ (∀ v ∈ r, -1 ≤ v ∧ v ≤ 3) ∧ (r ∈ b ↔ vAt r x - vAt r y ≤ k) ∧ (r ∈ d ↔ ¬ vAt r x - vAt r y ≤ k)
 len : a.length ≤ 625
 low : ∀ r, r ∈ b ∨ r ∈ d → r.length = n
theorem pt_mf {n : Nat} (h1 : 1 ≤ n) (hn : n ≤ 4) {L : List AS} (h : ∀ a ∈ L, PtOk n a) (hl : L.length ≤ 16) (ht : PowTab w) (hdb : DbTab w) (order : Int) (weak : Bool) (ho1 : -9223372036854775808 ≤ order) (ho2 : order ≤ 9223372036854775807) : MF w (mkB n (L.map stB)) order weak (solveS (mkK (pV n) (mkC n L) (pickI order 2) weak 1000000)).sols := fun W hW => by
 have tb : ∀ {W : World}, w.grownBy W none → PowTab W := fun {W} hg => tab_kept ht (fun k hk => hg.block k hk (by simp))
 refine (pt_model hn h hl W (tb hW)).mono ?_
 rintro e w' ⟨b, t, rfl, hb, hm, hg⟩
 exact ⟨b, rfl, hg, fun W2 hg2 => pt_found h1 hn h hl (hm.grown hg2) (tb ((hW.trans hg).trans hg2)) (db_grown hdb ((hW.trans hg).trans hg2)) order weak ho1 ho2⟩
attribute [local go_sem] bn_ap bn_mk_ap mk_bn_ap bn_size mk_size ap_len List.length_cons List.length_nil
theorem fw_walk (N c order : Int) (weak : Bool) {vr : Value} {raw : List Int} (hV : RawIn w vr raw) (hN1 : -9223372036854775808 ≤ N) (hN2 : N ≤ 9223372036854775807) (hc1 : -9223372036854775808 ≤ c) (hc2 : c ≤ 9223372036854775807) (hrw : ∀ x ∈ raw, -9223372036854775808 ≤ x ∧ x ≤ 9223372036854775807) (n : Nat) (hn : 1 + pickI N 4 = (n : Int)) (K0 : Int) (hK0 : pickI (c.tdiv 25) 9 = K0) (x y : Nat) (hx : pickI c n = (x : Int)) (hy : pickI (c.tdiv 5) n = (y : Int)) (a b d : List (List Int)) (hF : FwF w n x y (K0 - 4) ((ptL n raw).map stB) (leT (nmK x) (nmK y) (Lib.itoa (K0 - 4))) (leT (nmK y) (nmK x) (Lib.itoa (-(K0 - 4) - 1))) order weak a b d) : Calls Tryz.prog 12 #[.int .i64 N, vr, .int .i64 c, .int .i64 order, .bool weak] w fun e w' => e = .returned (.bool true) ∧ w.grownBy w' none := by
 have KPT := Kept.mk (kp_part (w := w) N hV hN1 hN2 hrw n hn)
 have b4 := pickI_bd N 4 (by decide)
 have hn1 : 1 ≤ n := by omega
 have hn4 : n ≤ 4 := by omega
 obtain ⟨ra, rc, rfl⟩ := hV.is
 have q5 := quo_bd hc1 hc2 (k := 5) (by decide)
 have q25 := quo_bd hc1 hc2 (k := 25) (by decide)
 have KA := Kept.mk (fun W => kp_pick c n W hc1 hc2 (by omega) (by omega))
 have KB := Kept.mk (fun W => kp_pick (c.tdiv 5) n W (by omega) (by omega) (by omega) (by omega))
 have KK := Kept.mk (fun W => kp_pick (c.tdiv 25) 9 W (by omega) (by omega) (by decide) (by decide))
 have bx := pickI_bd c n (by omega)
 have by_ := pickI_bd (c.tdiv 5) n (by omega)
 have bk := pickI_bd (c.tdiv 25) 9 (by decide)
 rw [hx] at KA bx
 rw [hy] at KB by_
 rw [hK0] at KK bk
 have hxn : x < n := by omega
 have hyn : y < n := by omega
 have NA := Kept.mk (fun W => kp_name x W (by omega))
 have NB := Kept.mk (fun W => kp_name y W (by omega))
 have ND1 := Kept.mk (fun W => kp_digits (K0 - 4) W (by omega) (by omega))
 have ND2 := Kept.mk (fun W => kp_digits (-(K0 - 4) - 1) W (by omega) (by omega))
 have la1 : (nmK x).length = 2 := nm2 (by omega)
 have la2 : (nmK y).length = 2 := nm2 (by omega)
 have la3 := itoa_len (m := K0 - 4) (by omega) (by omega)
 have la4 := itoa_len (m := -(K0 - 4) - 1) (by omega) (by omega)
 obtain ⟨hLo, hLl⟩ := ptL_ok hn1 hn4 raw
 have hLb : ∀ t ∈ (ptL n raw).map stB, t.length ≤ 70 := fun t ht => by obtain ⟨q, hq, rfl⟩ := List.mem_map.1 ht; exact (hLo q hq).len
 have hLm : ((ptL n raw).map stB).length ≤ 8 := by rw [List.length_map]; exact hLl
 clear hLo hLl
 have KM0 := Kept.mk (fun {W : World} (hg : w.grownBy W none) => hF.m0 W hg)
 have KM1 := Kept.mk (fun {W : World} (hg : w.grownBy W none) => hF.m1 W hg)
 have KM2 := Kept.mk (fun {W : World} (hg : w.grownBy W none) => hF.m2 W hg)
 have lt1 := leT_len la1 la2 la3
 have lt2 := leT_len la2 la1 la4
 generalize (ptL n raw).map stB = Ls at *
 generalize nmK x = X at *
 generalize nmK y = Y at *
 generalize Lib.itoa (K0 - 4) = D1 at *
 generalize Lib.itoa (-(K0 - 4) - 1) = D2 at *
 have KT0 := Kept.mk (fun {W : World} {v : Value} (hS : SRow W v Ls) => kp_text n hS hn4 (by omega) hLb)
 have KT1 := Kept.mk (fun {W : World} {v : Value} (hS : SRow W v (leT X Y D1 :: Ls)) => kp_text n hS hn4 (by simp; omega) (fun t ht => by rcases List.mem_cons.1 ht with rfl | q; exact lt1; exact hLb t q))
 have KT2 := Kept.mk (fun {W : World} {v : Value} (hS : SRow W v (leT Y X D2 :: Ls)) => kp_text n hS hn4 (by simp; omega) (fun t ht => by rcases List.mem_cons.1 ht with rfl | q; exact lt2; exact hLb t q))
 have hsum : (((b.length : Int) + (d.length : Int)) != (a.length : Int)) = false := by have := hF.sum; simp; omega
 have hal := hF.len
 have hbd : b.length ≤ 625 ∧ d.length ≤ 625 := by have := hF.sum; omega
 obtain ⟨hbl, hdl⟩ := hbd
 have HROW := hide hF.row
 have HLOW := hide hF.low
 obtain ⟨i0, hi0⟩ : ∃ i, Tryz.prog.info? 9 = some i := ⟨_, rfl⟩
 have hz := infoStr
 rw [hi0] at hz
 simp only [Option.map_some, Option.some.injEq, Prod.mk.injEq] at hz
 obtain ⟨hz0, hz1, hz2⟩ := hz
 have KA2 := KA
 have KB2 := KB
 have HLB := hide hLb
 clear hF hV hrw hLb hn hx hy hK0 b4 lt1 lt2
 go_enter Tryz.func12, Tryz.ntmps12
 have hgr : w.grownBy w none := grown_refl _ _
 go_wp2_with (first | (go_at_call 24; refine KPT.get.mono ?_; rintro e w1 ⟨v, rfl, hS, hg1⟩; replace hgr := hgr.trans hg1; obtain ⟨sa, sc, hv⟩ := hS.is; subst hv; clear hg1 KPT) | (go_at_call 16; refine (KA.get _).mono ?_; rintro e w6 ⟨rfl, hww⟩; subst w6; clear KA) | (go_at_call 16; refine (KB.get _).mono ?_; rintro e w6 ⟨rfl, hww⟩; subst w6; clear KB) | (go_at_call 16; refine (KK.get _).mono ?_; rintro e w6 ⟨rfl, hww⟩; subst w6; clear KK) | (go_at_call 19; refine (NA.get _).mono ?_; rintro e w2 ⟨rfl, hg1⟩; replace hgr := hgr.trans hg1; replace hS := hS.grown hg1; clear hg1 NA) | (go_at_call 19; refine (NB.get _).mono ?_; rintro e w3 ⟨rfl, hg1⟩; replace hgr := hgr.trans hg1; replace hS := hS.grown hg1; clear hg1 NB) | (go_at_call 25; refine (KT0.get hS).mono ?_; rintro e w4 ⟨rfl, hg1⟩; replace hgr := hgr.trans hg1; replace hS := hS.grown hg1; clear hg1 KT0) | (go_at_call 21; refine (KM0.get hgr).mono ?_; rintro e wa ⟨q1, rfl, hg1, hfo1⟩; replace hgr := hgr.trans hg1; replace hS := hS.grown hg1; have KF1 := Kept.mk (fun {W2 : World} h => hfo1 W2 h); have hka := grown_refl wa none; clear hg1 hfo1 KM0) | (go_at_call 20; refine (ND1.get _).mono ?_; rintro e wd ⟨rfl, hg1⟩; replace hgr := hgr.trans hg1; replace hka := hka.trans hg1; replace hS := hS.grown hg1; clear hg1 ND1) | (at_builtin; go_loud (refine wpList_append_src rfl _ _ 37 rfl wd.heap.size 9 i0 (.string .empty) 1 16 Tryz.underlying37 hi0 hz0 hz1 hz2 rfl (by decide) _ 1 _ rfl (World.ownsRow_lit wd _ 1 (Nat.le_refl _) (by decide) rfl) _ Ls.length (strV Ls) rfl (hS.grown (World.grownBy_alloc wd _ none)).src (by simp [strV]) (strV_one Ls) (by unfold maxLen; omega) (by omega) (by simp) ?_; intro v1 w7 ho hg7; obtain ⟨oa, oc, hv1⟩ := own_slice_n ho; subst hv1)))
 have gA : wd.grownBy w7 none := grown_new (World.grownBy_alloc wd _ none) (Nat.le_refl _) hg7
 have hS1 : SRow w7 (.slice oa (1 + Ls.length) oc) (leT X Y D1 :: Ls) := own_srow (n := 1 + Ls.length) ho
 replace hgr := hgr.trans gA
 replace hka := hka.trans gA
 replace hS := hS.grown gA
 clear gA ho hg7
 go_wp2_with (first | (go_at_call 20; refine (ND2.get _).mono ?_; rintro e we ⟨rfl, hg1⟩; replace hgr := hgr.trans hg1; replace hka := hka.trans hg1; replace hS := hS.grown hg1; replace hS1 := hS1.grown hg1; clear hg1 ND2) | (at_builtin; go_loud (refine wpList_append_src rfl _ _ 37 rfl we.heap.size 9 i0 (.string .empty) 1 16 Tryz.underlying37 hi0 hz0 hz1 hz2 rfl (by decide) _ 1 _ rfl (World.ownsRow_lit we _ 1 (Nat.le_refl _) (by decide) rfl) _ Ls.length (strV Ls) rfl (hS.grown (World.grownBy_alloc we _ none)).src (by simp [strV]) (strV_one Ls) (by unfold maxLen; omega) (by omega) (by simp) ?_; intro v1 w8 ho hg7; obtain ⟨pa, pc, hv1⟩ := own_slice_n ho; subst hv1; have gA : we.grownBy w8 none := grown_new (World.grownBy_alloc we _ none) (Nat.le_refl _) hg7; have hS2 : SRow w8 (.slice pa (1 + Ls.length) pc) (leT Y X D2 :: Ls) := own_srow (n := 1 + Ls.length) ho; replace hgr := hgr.trans gA; replace hka := hka.trans gA; replace hS1 := hS1.grown gA; clear gA ho hg7 hS)) | (go_at_call 25; refine (KT1.get hS1).mono ?_; rintro e wt ⟨rfl, hg1⟩; replace hgr := hgr.trans hg1; replace hka := hka.trans hg1; replace hS2 := hS2.grown hg1; clear hg1 KT1 hS1) | (go_at_call 21; refine (KM1.get hgr).mono ?_; rintro e wb ⟨q2, rfl, hg1, hfo1⟩; replace hgr := hgr.trans hg1; replace hka := hka.trans hg1; replace hS2 := hS2.grown hg1; have KF2 := Kept.mk (fun {W2 : World} h => hfo1 W2 h); have hkb := grown_refl wb none; clear hg1 hfo1 KM1) | (go_at_call 25; refine (KT2.get hS2).mono ?_; rintro e wt ⟨rfl, hg1⟩; replace hgr := hgr.trans hg1; replace hka := hka.trans hg1; replace hkb := hkb.trans hg1; clear hg1 KT2 hS2) | (go_at_call 21; refine (KM2.get hgr).mono ?_; rintro e wc ⟨q3, rfl, hg1, hfo1⟩; replace hgr := hgr.trans hg1; replace hka := hka.trans hg1; replace hkb := hkb.trans hg1; have KF3 := Kept.mk (fun {W2 : World} h => hfo1 W2 h); have hkc := grown_refl wc none; clear hg1 hfo1 KM2) | (go_at_call 22; refine (KF1.get hka).mono ?_; rintro e w1 ⟨v1, rfl, hL1, hg1⟩; replace hgr := hgr.trans hg1; replace hkb := hkb.trans hg1; replace hkc := hkc.trans hg1; clear hg1 KF1 hka; obtain ⟨la, lc, hv1⟩ := hL1.ll.is; subst hv1) | (go_at_call 22; refine (KF2.get hkb).mono ?_; rintro e w2 ⟨v2, rfl, hL2, hg1⟩; replace hgr := hgr.trans hg1; replace hkc := hkc.trans hg1; replace hL1 := hL1.grown hg1; clear hg1 KF2 hkb; obtain ⟨ya, yc, hv2⟩ := hL2.ll.is; subst hv2) | (go_at_call 22; refine (KF3.get hkc).mono ?_; rintro e w3 ⟨v3, rfl, hL3, hg1⟩; replace hgr := hgr.trans hg1; replace hL1 := hL1.grown hg1; replace hL2 := hL2.grown hg1; clear hg1 KF3 hkc; obtain ⟨za, zc, hv3⟩ := hL3.ll.is; subst hv3))
 have HGR := hide hgr
 have HL1 := hide hL1
 have HL2 := hide hL2
 have HL3 := hide hL3
 clear hgr hL1 hL2 hL3 hsum
 go_loopw [26] (fun vi wr => ∃ i : Nat, i ≤ a.length ∧ vi = .int .i64 i ∧ w3.grownBy wr none) (fun vi _ => a.length - (intOf vi).toNat)
 case atStart => exact ⟨0, Nat.zero_le _, rfl, grown_refl _ _⟩
 case round =>
  obtain ⟨i, hi9, rfl, hg⟩ := hrel
  by_cases hlt : i < a.length
  ·obtain ⟨r, hr⟩ : ∃ r, a[i]? = some r := ⟨a[i], List.getElem?_eq_getElem hlt⟩
   have hrm := List.mem_of_getElem? hr
   obtain ⟨r1, r2, m1, m2⟩ := HROW.out r hrm
   obtain ⟨g, gv, cv, rfl, q1, q2, q3, q4⟩ := HL1.out.ll.row hr (fun e => by rw [e] at r1; simp at r1; omega)
   obtain ⟨g', u, eg, _, qu, hVu⟩ := HL1.out.ll.at_ hr
   have eg' : g = g' := by injection eg with eg; injection eg
   subst eg'
   have eu : u = .slice (some ⟨gv, 0, none⟩) r.length cv := by rw [q2] at qu; exact (Option.some.inj qu).symm
   subst eu
   have KY := Kept.mk (fun {W : World} (hw : w3.grownBy W none) => kp_has (w := W) (HL2.out.ll.grown hw) (hVu.grown hw) (by omega) (fun s hs => by have := HLOW.out s (.inl hs); omega) (by omega))
   have KZ := Kept.mk (fun {W : World} (hw : w3.grownBy W none) => kp_has (w := W) (HL3.out.ll.grown hw) (hVu.grown hw) (by omega) (fun s hs => by have := HLOW.out s (.inr hs); omega) (by omega))
   rw [r1] at KY KZ q2
   have ex : r[x]? = some (vAt r x) := by simp [vAt, r1, hxn]
   have ey : r[y]? = some (vAt r y) := by simp [vAt, r1, hyn]
   have bvx := r2 _ (List.mem_of_getElem? ex)
   have bvy := r2 _ (List.mem_of_getElem? ey)
   have s2 := hg.cell q2 (by simp)
   have s3 : g < wr.heap.size := Nat.lt_of_lt_of_le q1 hg.size
   have s4 : gv < wr.heap.size := Nat.lt_of_lt_of_le q3 hg.size
   have tx := hg.cell (q4 x _ ex) (by simp)
   have ty := hg.cell (q4 y _ ey) (by simp)
   have hlt2 : (i : Int) < a.length := by omega
   have h0i : (0 : Int) ≤ i := by omega
   have HLI : Hid (i + 1 ≤ a.length) := hlt
   have HME : Hid (a.length - (i + 1) < a.length - i) := by rw [Hid]; omega
   have hxi : (x : Int) < n := by omega
   have hyi : (y : Int) < n := by omega
   have hx0 : (0 : Int) ≤ x := by omega
   have hy0 : (0 : Int) ≤ y := by omega
   obtain ⟨D, hD⟩ : ∃ D, D = decide (vAt r x - vAt r y ≤ K0 - 4) := ⟨_, rfl⟩
   have dy : decide (r ∈ b) = D := by rw [hD, decide_eq_decide]; exact m1
   have dz : decide (r ∈ d) = !D := by rw [hD]; by_cases q : vAt r x - vAt r y ≤ K0 - 4 <;> simp [m2, q] <;> omega
   rw [dy] at KY
   rw [dz] at KZ
   have hd2 : decide (vAt r x - vAt r y ≤ K0 - 4) = D := hD.symm
   generalize vAt r x = vx at *
   generalize vAt r y = vy at *
   have hw1 : IntKind.i64.wrap (c.tdiv 5) = c.tdiv 5 := wrap_s64 (by omega) (by omega)
   have hw2 : IntKind.i64.wrap (vx - vy) = vx - vy := wrap_s64 (by omega) (by omega)
   have HG9 := hide hg
   clear hD dy dz m1 m2 hVu qu eg q4 hr hrm r1 r2 ex ey hg q1 q2 q3 hlt
   go_wp2
   refine wp_region_held_drew (S := fun w1 => w1.cell? ⟨g, i, none⟩ = some (.slice (some ⟨gv, 0, none⟩) n cv) ∧ w1.cell? ⟨gv, x, none⟩ = some (.int .i64 vx) ∧ w1.cell? ⟨gv, y, none⟩ = some (.int .i64 vy)) (by kernel_rfl) ?_ (fun hHeld => ?_)
   ·exact ⟨s2, tx, ty⟩
   refine tkH (i := 0) (v := ?_) 153 rfl rfl (by kernel_rfl) (fun _ _ _ h => h) (Or.inl ⟨by rfl, ?_⟩) hHeld ?_
   rotate_left 1
   ·(intro w hSw; (try dsimp only at hSw); go_simp; try with_reducible rfl)
   (try simp only [Act.put, arS, arZ, arN])
   refine tkH (i := 1) (v := ?_) 154 rfl rfl (by kernel_rfl) (fun _ _ _ h => h) (Or.inl ⟨by rfl, ?_⟩) hHeld ?_
   rotate_left 1
   ·(intro w hSw; (try dsimp only at hSw); go_simp; try with_reducible rfl)
   (try simp only [Act.put, arS, arZ, arN])
   refine tkH (i := 2) (v := ?_) 155 rfl rfl (by kernel_rfl) (fun _ _ _ h => h) (Or.inl ⟨by rfl, ?_⟩) hHeld ?_
   rotate_left 1
   ·(intro w hSw; (try dsimp only at hSw); go_simp; try with_reducible rfl)
   (try simp only [Act.put, arS, arZ, arN])
   refine tkH (i := 3) (v := ?_) 156 rfl rfl (by kernel_rfl) (fun _ _ _ h => h) (Or.inl ⟨by rfl, ?_⟩) hHeld ?_
   rotate_left 1
   ·(intro w hSw; (try dsimp only at hSw); go_simp; try with_reducible rfl)
   (try simp only [Act.put, arS, arZ, arN])
   refine tkH (i := 4) (v := ?_) 157 rfl rfl (by kernel_rfl) (fun _ _ _ h => h) (Or.inl ⟨by rfl, ?_⟩) hHeld ?_
   rotate_left 1
   ·(intro w hSw; (try dsimp only at hSw); go_simp; try with_reducible rfl)
   (try simp only [Act.put, arS, arZ, arN])
   refine tkH (i := 5) (v := ?_) 158 rfl rfl (by kernel_rfl) (fun _ _ _ h => h) (Or.inl ⟨by rfl, ?_⟩) hHeld ?_
   rotate_left 1
   ·(intro w hSw; (try dsimp only at hSw); go_simp; try with_reducible rfl)
   (try simp only [Act.put, arS, arZ, arN])
   refine tkH (i := 9) (v := ?_) 162 rfl rfl (by kernel_rfl) (fun _ _ _ h => h) (Or.inl ⟨by rfl, ?_⟩) hHeld ?_
   rotate_left 1
   ·(intro w hSw; (try dsimp only at hSw); go_simp; try with_reducible rfl)
   (try simp only [Act.put, arS, arZ, arN])
   refine tkH (i := 10) (v := ?_) 163 rfl rfl (by kernel_rfl) (fun _ _ _ h => h) (Or.inl ⟨by rfl, ?_⟩) hHeld ?_
   rotate_left 1
   ·(intro w hSw; (try dsimp only at hSw); go_simp; try with_reducible rfl)
   (try simp only [Act.put, arS, arZ, arN])
   refine tkH (i := 11) (v := ?_) 164 rfl rfl (by kernel_rfl) (fun _ _ _ h => h) (Or.inl ⟨by rfl, ?_⟩) hHeld ?_
   rotate_left 1
   ·(intro w hSw; (try dsimp only at hSw); go_simp; try with_reducible rfl)
   (try simp only [Act.put, arS, arZ, arN])
   refine tkH (i := 12) (v := ?_) 165 rfl rfl (by kernel_rfl) (fun _ _ _ h => h) (Or.inl ⟨by rfl, ?_⟩) hHeld ?_
   rotate_left 1
   ·(intro w hSw; (try dsimp only at hSw); go_simp; try with_reducible rfl)
   (try simp only [Act.put, arS, arZ, arN])
   refine tkH (i := 13) (v := ?_) 166 rfl rfl (by kernel_rfl) (fun _ _ _ h => h) (Or.inl ⟨by rfl, ?_⟩) hHeld ?_
   rotate_left 1
   ·(intro w hSw; (try dsimp only at hSw); go_simp; try with_reducible rfl)
   (try simp only [Act.put, arS, arZ, arN])
   refine tkH (i := 14) (v := ?_) 167 rfl rfl (by kernel_rfl) (fun _ _ _ h => h) (Or.inl ⟨by rfl, ?_⟩) hHeld ?_
   rotate_left 1
   ·(intro w hSw; (try dsimp only at hSw); go_simp; try with_reducible rfl)
   (try simp only [Act.put, arS, arZ, arN])
   refine tkH (i := 15) (v := ?_) 168 rfl rfl (by kernel_rfl) (fun _ _ _ h => h) (Or.inl ⟨by rfl, ?_⟩) hHeld ?_
   rotate_left 1
   ·(intro w hSw; (try dsimp only at hSw); go_simp; try with_reducible rfl)
   (try simp only [Act.put, arS, arZ, arN])
   refine tkH (i := 20) (v := ?_) 173 rfl rfl (by kernel_rfl) (fun _ _ _ h => h) (Or.inl ⟨by rfl, ?_⟩) hHeld ?_
   rotate_left 1
   ·(intro w hSw; (try dsimp only at hSw); go_simp; try with_reducible rfl)
   (try simp only [Act.put, arS, arZ, arN])
   refine wpAnyH_ready (rs := [6]) (by kernel_rfl) (by simp) ?_
   refine AllReadyH.cons rfl (fun K hK => ?_) AllReadyH.nil
   go_simp
   go_wp2_with ((go_at_call 16; refine (KA2.get _).mono ?_; rintro e w5 ⟨rfl, hww⟩; subst w5))
   refine hK.out _ _ ?_ (fun hHeld => ?_)
   ·exact hHeld
   clear hK K
   (try simp only [Act.put, arS, arZ, arN])
   refine tkH (i := 7) (v := ?_) 160 rfl rfl (by kernel_rfl) (fun _ _ _ h => h) (Or.inl ⟨by rfl, ?_⟩) hHeld ?_
   rotate_left 1
   ·(intro w hSw; (try dsimp only at hSw); go_simp; try with_reducible rfl)
   (try simp only [Act.put, arS, arZ, arN])
   refine tkH (i := 8) (v := ?_) 161 rfl rfl (by kernel_rfl) (fun _ _ _ h => h) (Or.inl ⟨by rfl, ?_⟩) hHeld ?_
   rotate_left 1
   ·(intro w hSw; (try dsimp only at hSw); go_simp; try with_reducible rfl)
   (try simp only [Act.put, arS, arZ, arN])
   refine wpAnyH_ready (rs := [16]) (by kernel_rfl) (by simp) ?_
   refine AllReadyH.cons rfl (fun K hK => ?_) AllReadyH.nil
   go_simp
   go_wp2_with ((go_at_call 16; refine (KB2.get _).mono ?_; rintro e w5 ⟨rfl, hww⟩; subst w5))
   refine hK.out _ _ ?_ (fun hHeld => ?_)
   ·exact hHeld
   clear hK K
   (try simp only [Act.put, arS, arZ, arN])
   refine tkH (i := 17) (v := ?_) 170 rfl rfl (by kernel_rfl) (fun _ _ _ h => h) (Or.inl ⟨by rfl, ?_⟩) hHeld ?_
   rotate_left 1
   ·(intro w hSw; (try dsimp only at hSw); go_simp; try with_reducible rfl)
   (try simp only [Act.put, arS, arZ, arN])
   refine tkH (i := 18) (v := ?_) 171 rfl rfl (by kernel_rfl) (fun _ _ _ h => h) (Or.inl ⟨by rfl, ?_⟩) hHeld ?_
   rotate_left 1
   ·(intro w hSw; (try dsimp only at hSw); go_simp; try with_reducible rfl)
   (try simp only [Act.put, arS, arZ, arN])
   refine tkH (i := 19) (v := ?_) 172 rfl rfl (by kernel_rfl) (fun _ _ _ h => h) (Or.inl ⟨by rfl, ?_⟩) hHeld ?_
   rotate_left 1
   ·(intro w hSw; (try dsimp only at hSw); go_simp; try with_reducible rfl)
   (try simp only [Act.put, arS, arZ, arN])
   refine tkH (i := 21) (v := ?_) 174 rfl rfl (by kernel_rfl) (fun _ _ _ h => h) (Or.inl ⟨by rfl, ?_⟩) hHeld ?_
   rotate_left 1
   ·(intro w hSw; (try dsimp only at hSw); go_simp; try with_reducible rfl)
   (try simp only [Act.put, arS, arZ, arN])
   refine tkH (i := 22) (v := ?_) 27 rfl rfl (by kernel_rfl) (fun _ _ _ h => h) (Or.inl ⟨by rfl, ?_⟩) hHeld ?_
   rotate_left 1
   ·(intro w hSw; (try dsimp only at hSw); go_simp; try with_reducible rfl)
   (try simp only [Act.put, arS, arZ, arN])
   refine wpAnyH_done (by kernel_rfl) ?_ _
   obtain ⟨u2, _, _⟩ := hHeld
   have u3 : g < wr.drew.heap.size := Nat.lt_of_lt_of_le s3 (grown_drew' wr none).size
   have HQ : Hid (w3.grownBy wr.drew none) := HG9.out.trans (grown_drew' wr none)
   clear HG9 s2 s3 s4 tx ty hw1 hw2 hd2 KA2 KB2
   generalize wr.drew = wq at *
   cases D
   all_goals
    go_wp2_with (first | (go_at_call 23; refine (KY.get HQ.out).mono ?_; rintro e w4 ⟨rfl, hg4⟩; have u2' := hg4.cell u2 (by simp); have u3' := Nat.lt_of_lt_of_le u3 hg4.size; clear KY) | (go_at_call 23; refine (KZ.get (HQ.out.trans hg4)).mono ?_; rintro e w5 ⟨rfl, hg5⟩; clear KZ))
    go_roundw
    case rel => exact ⟨i + 1, HLI.out, by go_num, (HQ.out.trans hg4).trans hg5⟩
    case measure => exact HME.out
  ·obtain rfl : i = a.length := by omega
   go_wp2
   go_ret
   exact ⟨rfl, HGR.out.trans hg⟩
theorem kp_Fewer (N c order : Int) (weak : Bool) {vr : Value} {raw : List Int} (hV : RawIn w vr raw) (hN1 : -9223372036854775808 ≤ N) (hN2 : N ≤ 9223372036854775807) (hc1 : -9223372036854775808 ≤ c) (hc2 : c ≤ 9223372036854775807) (ho1 : -9223372036854775808 ≤ order) (ho2 : order ≤ 9223372036854775807) (hrw : ∀ x ∈ raw, -9223372036854775808 ≤ x ∧ x ≤ 9223372036854775807) (ht : PowTab w) (hdb : DbTab w) : Calls Tryz.prog 12 #[.int .i64 N, vr, .int .i64 c, .int .i64 order, .bool weak] w fun e w' => e = .returned (.bool true) ∧ w.grownBy w' none := by
 have b4 := pickI_bd N 4 (by decide)
 obtain ⟨n, hn⟩ : ∃ n : Nat, 1 + pickI N 4 = (n : Int) := ⟨(1 + pickI N 4).toNat, by omega⟩
 have hn1 : 1 ≤ n := by omega
 have hn4 : n ≤ 4 := by omega
 have bx := pickI_bd c n (by omega)
 have by_ := pickI_bd (c.tdiv 5) n (by omega)
 have bk := pickI_bd (c.tdiv 25) 9 (by decide)
 obtain ⟨x, hx⟩ : ∃ x : Nat, pickI c n = (x : Int) := ⟨(pickI c n).toNat, by omega⟩
 obtain ⟨y, hy⟩ : ∃ y : Nat, pickI (c.tdiv 5) n = (y : Int) := ⟨(pickI (c.tdiv 5) n).toNat, by omega⟩
 have hxn : x < n := by omega
 have hyn : y < n := by omega
 obtain ⟨hLo, hLl⟩ := ptL_ok hn1 hn4 raw
 have o1 : ∀ a ∈ leA x y (pickI (c.tdiv 25) 9 - 4) :: ptL n raw, PtOk n a := fun a ha => by
  rcases List.mem_cons.1 ha with rfl | q
  ·exact leA_ok (by omega) hxn hyn (by omega) (by omega)
  ·exact hLo a q
 have o2 : ∀ a ∈ leA y x (-(pickI (c.tdiv 25) 9 - 4) - 1) :: ptL n raw, PtOk n a := fun a ha => by
  rcases List.mem_cons.1 ha with rfl | q
  ·exact leA_ok (by omega) hyn hxn (by omega) (by omega)
  ·exact hLo a q
 have l1 : ∀ a : AS, (a :: ptL n raw).length ≤ 16 := fun a => by rw [List.length_cons]; omega
 obtain ⟨R0, _, _⟩ := pt_rows hn1 hn4 hLo (by omega) (pickI order 2) weak
 obtain ⟨R1, _, _⟩ := pt_rows hn1 hn4 o1 (l1 _) (pickI order 2) weak
 obtain ⟨R2, _, _⟩ := pt_rows hn1 hn4 o2 (l1 _) (pickI order 2) weak
 obtain ⟨f1, f2⟩ := fw_count hxn hyn R0 R1 R2
 have m0 := pt_mf hn1 hn4 hLo (by omega) ht hdb order weak ho1 ho2
 have m1 := pt_mf hn1 hn4 o1 (l1 _) ht hdb order weak ho1 ho2
 have m2 := pt_mf hn1 hn4 o2 (l1 _) ht hdb order weak ho1 ho2
 rw [List.map_cons, leT_is] at m1 m2
 refine fw_walk N c order weak hV hN1 hN2 hc1 hc2 hrw n hn _ rfl x y hx hy _ _ _ ⟨m0, m1, m2, f1, f2, R0.len hn1 hn4, fun r hr => ?_⟩
 rcases hr with q | q
 ·exact (R1.row q).1
 ·exact (R2.row q).1
end
end Go.Proofs.YthpcbbnabnlanaaGreatDoor
