import Derived.Test.YthpcbbnabnlanaaGreatDoorM21
namespace Go.Proofs.YthpcbbnabnlanaaGreatDoor
open Go.RowKit
set_option linter.unusedVariables false
set_option linter.unusedSimpArgs false
section
set_option maxHeartbeats 8000000
set_option maxRecDepth 100000
attribute [local go_sem ↓] ld_veil st_veil
variable {w0 w w' w'' : World} {X : SL} {K : SK} {s : SS} {vT vS : Value}
theorem wpAnyH_tk {P : Program} {ops : Array Oper} {Q : Exit → Act → World → Prop} {md : Region.Mode} {S : World → Prop} {i : Nat} {oi : Oper} {v : Value} {fuel : Nat} {listed : Array Bool} {a : Act} {w : World} (d : Option Tmp) (hi : ops[i]? = some oi) (hd : oi.dst = d) (hs : Region.noSelect ops = true) (hf : Region.free md ops listed i = true) (hr : (Region.ready md ops listed).contains i = true) (hQ : ∀ c a w,Q (.panic c) (a.put d v) w → Q (.panic c) a w) (hy : YieldsIf P ops S oi v a) (hS : S w) (h : wpAnyH P md ops Q S fuel (listed.setIfInBounds i true) (a.put d v) w) : wpAnyH P md ops Q S (fuel + 1) listed a w := by
 subst hd
 exact wpAnyH_take hi hs hf hr hQ hy hS h
theorem tkH {P : Program} {ops : Array Oper} {Q : Exit → Act → World → Prop} {md : Region.Mode} {S : World → Prop} {i : Nat} {oi : Oper} {v : Value} {fuel : Nat} {listed : Array Bool} {a : Act} {w : World} (d : Nat) (hi : ops[i]? = some oi) (hd : oi.dst = some d) (hc : (Region.noSelect ops && Region.free md ops listed i && (Region.ready md ops listed).contains i) = true) (hQ : ∀ c a w,Q (.panic c) (a.put (some d) v) w → Q (.panic c) a w) (hy : YieldsIf P ops S oi v a) (hS : S w) (h : wpAnyH P md ops Q S fuel (listed.setIfInBounds i true) (a.put (some d) v) w) : wpAnyH P md ops Q S (fuel + 1) listed a w := by
 simp only [Bool.and_eq_true] at hc
 exact wpAnyH_tk (some d) hi hd hc.1.1 hc.1.2 hc.2 hQ hy hS h
theorem tqW {P : Program} {ops : Array Oper} {Q : Exit → Act → World → Prop} {md : Region.Mode} {S : World → Prop} {oi : Oper} {v : Value} {fuel : Nat} {listed : Array Bool} {a : Act} {w : World} (i d : Nat) (hS : S w) (hy : ∀ w,S w → (execOp a.eval oi).run P w = .ok (.value v) w) (h : wpAnyH P md ops Q S fuel (listed.setIfInBounds i true) (a.put (some d) v) w) (hi : ops[i]? = some oi := by rfl) (hd : oi.dst = some d := by rfl) (hg : Region.wanted oi (yielded ops a.tmps) = true := by rfl) (hc : (Region.noSelect ops && Region.free md ops listed i && (Region.ready md ops listed).contains i) = true := by kernel_rfl) (hQ : ∀ c a w,Q (.panic c) (a.put (some d) v) w → Q (.panic c) a w := by exact fun _ _ _ h => h) : wpAnyH P md ops Q S (fuel + 1) listed a w := by
 simp only [Bool.and_eq_true] at hc
 exact wpAnyH_tk (some d) hi hd hc.1.1 hc.1.2 hc.2 hQ (Or.inl ⟨hg,hy⟩) hS h
def AtRel (w : World) (Pl E : Nat) (l : List Int) (R : Nat × Nat) (vi : Value) (wr : World) : Prop :=
 ∃ (i P Q : Nat) (p q : List Value),i ≤ l.length ∧ vi = .int .i64 i ∧ w.grownBy wr none ∧ BoxC wr w.heap.size p ∧ BoxC wr (w.heap.size + 1) q ∧ DC P p ∧ DC Q q ∧ atF Pl E i (l.drop i) (P,Q) = R
theorem at_start {w : World} {Pl E : Nat} {l : List Int} {R : Nat × Nat} {Z Z' : Array Value} (hz : Z = (dL 0).toArray) (hz' : Z' = (dL 0).toArray) (hR : atF Pl E 0 l (0,0) = R) : AtRel w Pl E l R (.int .i64 0) ((w.alloc (.cells Z 161)).alloc (.cells Z' 161)) := by
 subst hz hz'
 refine ⟨0,0,0,dL 0,dL 0,Nat.zero_le _,rfl,(World.grownBy_alloc _ _ _).trans (World.grownBy_alloc _ _ _),⟨(heap_alloc_old _ _ (by simp)).trans (heap_alloc_new w _),dL_len 0⟩,⟨?_,dL_len 0⟩,⟨rfl⟩,⟨rfl⟩,hR⟩
 have q := heap_alloc_new (w.alloc (.cells (dL 0).toArray 161)) (.cells (dL 0).toArray 161)
 simpa using q
theorem sc_drawAt (h : SAt w0 w X K s vT vS) (hK : KOk K) (hs : SOk K s) (hT : TB s) {x : CRow} {g o : Nat} (hx : ConIn w g o X.B x) (hgx : g < w0.heap.size) (hmem : x.c ∈ K.cons) (hso : x.c.sort = 2) : Calls Tryz.prog 131 #[.pointer (some ⟨X.b,0,none⟩),.pointer (some ⟨g,o,none⟩)] w fun e w' => e = .returned (.bool (atS K x.c s).1) ∧ (∃ vT',SAt w0 w' X K (atS K x.c s).2 vT' vS) ∧ FrS X w w' := by
 have hcon := hK.cons _ hmem
 obtain ⟨hpl,hen⟩ := hcon.place hso
 have hll := hcon.llen
 have hlv := hcon.list
 obtain ⟨dP,hdP⟩ := dc (s.L x.c.place)
 obtain ⟨dE,hdE⟩ := dc (s.L x.c.entry)
 obtain ⟨R,hR⟩ : ∃ R,atF (s.L x.c.place) (s.L x.c.entry) 0 x.c.list (0,0) = R := ⟨_,rfl⟩
 obtain ⟨la,lc,hla⟩ := own_slice_n hx.at_.l
 have k5 : w.cell? ⟨g,o + 5,none⟩ = some (.slice la x.c.list.length lc) := by have q := hx.cell 5 _ rfl;rw [hla] at q;exact q
 have hxlt := hx.lt
 have HST := hide (at_start (w := w) dZeroL.symm dZeroL.symm hR)
 have HW : Hid (∀ w1 : World,w.grownBy w1 none → (w1.cell? ⟨X.b,4,none⟩ = some (.slice (some ⟨X.gl,0,none⟩) K.vars.length K.vars.length) ∧ w1.cell? ⟨g,o + 6,none⟩ = some (.int .i64 x.c.place) ∧ w1.cell? ⟨g,o + 7,none⟩ = some (.int .i64 x.c.entry) ∧ w1.rangeAt X.gl (x.c.place.toNat * 32) dP ∧ w1.rangeAt X.gl (x.c.entry.toNat * 32) dE)) := fun w1 hg => by
  have hA := h.grown hg
  have hX := hx.grown hg
  exact ⟨hA.f4,hX.cell 6 _ rfl,hX.cell 7 _ rfl,by rw [hdP.is];exact (hA.leftAt hpl).1,by rw [hdE.is];exact (hA.leftAt hen).1⟩
 have HX := hide hx
 have HLA := hide hla
 have HH := hide h
 have KH1 := Kept.mk (fun (v : Int) (h1 : -1000 ≤ v) (h2 : v ≤ 1000) (W : World) => dc_Has hdP v h1 h2 W)
 have KH2 := Kept.mk (fun (v : Int) (h1 : -1000 ≤ v) (h2 : v ≤ 1000) (W : World) => dc_Has hdE v h1 h2 W)
 have hdPi := hdP.info
 have hdEi := hdE.info
 have hp1 := hpl.1
 have hp2 := hpl.2
 have he1 := hen.1
 have he2 := hen.2
 have HLV := hide hlv
 have HALL : Hid (KOk K ∧ SOk K s ∧ TB s ∧ PlOk K.vars.length x.c.place ∧ PlOk K.vars.length x.c.entry ∧ atF (s.L x.c.place) (s.L x.c.entry) 0 x.c.list (0,0) = R) := ⟨hK,hs,hT,hpl,hen,hR⟩
 clear h hx hla hdP hdE hpl hen hcon hR hlv hs hK hT
 go_enter Tryz.func131,Tryz.ntmps131
 go_wp2
 go_loopw [14] (fun vi wr => AtRel w (s.L x.c.place) (s.L x.c.entry) x.c.list R vi wr) (fun vi _ => x.c.list.length - (intOf vi).toNat)
 case atStart => exact HST.out
 case round =>
  clear HST
  obtain ⟨i,P,Q,p,q,hi,rfl,hgr,hbp,hbq,hcp,hcq,hres⟩ := hrel
  by_cases hlt2 : i < x.c.list.length
  ·obtain ⟨v,ha⟩ : ∃ v,x.c.list[i]? = some v := ⟨x.c.list[i],List.getElem?_eq_getElem hlt2⟩
   obtain ⟨gl,cl,hRL,_⟩ := RowIn.of_own HX.out.at_.l (by omega)
   have el : la = some ⟨gl,0,none⟩ := by
    have q := hRL.is
    rw [HLA.out] at q
    injection q with q1 q2 q3
   subst el
   have k0 : wr.cell? ⟨gl,i,none⟩ = some (.int .i64 v) := by have q := (hRL.kept hgr (by simp)).at (sz := 1) (fun _ => rfl) ha 0 _ rfl;rw [Nat.mul_one] at q;exact q
   obtain ⟨v1,v2⟩ := HLV.out v (List.mem_of_getElem? ha)
   have hdr : x.c.list.drop i = v :: x.c.list.drop (i + 1) := by
    rw [List.drop_eq_getElem_cons hlt2]
    congr 1
    rw [List.getElem?_eq_getElem hlt2] at ha
    exact Option.some.inj ha
   have hlt3 : (i : Int) < x.c.list.length := by omega
   have h03 : (0 : Int) ≤ i := by omega
   have hwi : IntKind.i64.wrap ((i : Int) + 1) = (i : Int) + 1 := wrap_s64 (by omega) (by omega)
   have KA := Kept.mk (fun W => KH1.get ((i : Int) + 1) (by omega) (by omega) W)
   have KB := Kept.mk (fun W => KH2.get v v1 v2 W)
   have HS5 : Hid (∀ w1 : World,wr.grownBy w1 none → (w1.cell? ⟨X.b,4,none⟩ = some (.slice (some ⟨X.gl,0,none⟩) K.vars.length K.vars.length) ∧ w1.cell? ⟨g,o + 6,none⟩ = some (.int .i64 x.c.place) ∧ w1.cell? ⟨g,o + 7,none⟩ = some (.int .i64 x.c.entry) ∧ w1.rangeAt X.gl (x.c.place.toNat * 32) dP ∧ w1.rangeAt X.gl (x.c.entry.toNat * 32) dE)) := fun w1 hg => HW.out w1 (hgr.trans hg)
   have HGR := hide hgr
   have HBP := hide hbp
   have HBQ := hide hbq
   clear hRL ha hgr hbp hbq
   by_cases c1 : hasD (s.L x.c.place) ((i : Int) + 1) = true
   ·rw [c1] at KA
    by_cases c2 : hasD (s.L x.c.entry) v = true
    ·rw [c2] at KB
     obtain ⟨p',hcp'⟩ := dc (P ||| bitV ((i : Int) + 1))
     obtain ⟨q',hcq'⟩ := dc (Q ||| bitV v)
     have hres2 : atF (s.L x.c.place) (s.L x.c.entry) (i + 1) (x.c.list.drop (i + 1)) (P ||| bitV ((i : Int) + 1),Q ||| bitV v) = R := by
      rw [← hres,hdr,atF,c1,c2];rfl
     have KP := Kept.mk (fun W => dc_With hcp hcp' (by omega) (by omega) W)
     have KQ := Kept.mk (fun W => dc_With hcq hcq' v1 v2 W)
     have HRES2 := hide hres2
     have HCP := hide hcp
     have HCQ := hide hcq
     have HCP' := hide hcp'
     have HCQ' := hide hcq'
     have H6 : Hid (∀ w4 : World,wr.grownBy w4 none → Sem.run Tryz.prog (ldS (.pointer (some ⟨w.heap.size,0,none⟩))) w4 = .ok (.agg p.toArray) w4 ∧ Sem.run Tryz.prog (stS (.pointer (some ⟨w.heap.size,0,none⟩)) (.agg p'.toArray)) w4 = .ok () (w4.setCells w.heap.size 0 p')) := fun w4 hg => by
      have b := HBP.out.kept hg
      exact ⟨ld_range b.range b.len,st_there b.there HCP'.out.len HCP'.out.one⟩
     have H7 : Hid (∀ w4 w6 : World,wr.grownBy w4 none → (w4.setCells w.heap.size 0 p').grownBy w6 none → Sem.run Tryz.prog (ldS (.pointer (some ⟨w.heap.size + 1,0,none⟩))) w6 = .ok (.agg q.toArray) w6 ∧ Sem.run Tryz.prog (stS (.pointer (some ⟨w.heap.size + 1,0,none⟩)) (.agg q'.toArray)) w6 = .ok () (w6.setCells (w.heap.size + 1) 0 q') ∧ w.grownBy (w6.setCells (w.heap.size + 1) 0 q') none ∧ BoxC (w6.setCells (w.heap.size + 1) 0 q') w.heap.size p' ∧ BoxC (w6.setCells (w.heap.size + 1) 0 q') (w.heap.size + 1) q') := fun w4 w6 hg hg6 => by
      have gs := grown_setCells w4 w.heap.size 0 p'
      have bp := ((HBP.out.kept hg).store HCP'.out.len).kept hg6
      have bq := ((HBQ.out.kept hg).far gs (by omega)).kept hg6
      have gs2 := grown_setCells w6 (w.heap.size + 1) 0 q'
      exact ⟨ld_range bq.range bq.len,st_there bq.there HCQ'.out.len HCQ'.out.one,grown_newr ((grown_newr (HGR.out.trans hg) (Nat.le_refl _) gs).trans hg6) (by omega) gs2,bp.far gs2 (by omega),bq.store HCQ'.out.len⟩
     clear hres hdr c1 c2 hres2 hcp hcq hcp' hcq'
     go_wp2
     refine wp_region_held_drew (S := (fun w1 => w1.cell? ⟨X.b,4,none⟩ = some (.slice (some ⟨X.gl,0,none⟩) K.vars.length K.vars.length) ∧ w1.cell? ⟨g,o + 6,none⟩ = some (.int .i64 x.c.place) ∧ w1.cell? ⟨g,o + 7,none⟩ = some (.int .i64 x.c.entry) ∧ w1.rangeAt X.gl (x.c.place.toNat * 32) dP ∧ w1.rangeAt X.gl (x.c.entry.toNat * 32) dE)) (by kernel_rfl) ?_ (fun hHeld => ?_)
     ·exact HS5.out _ (grown_drew' _ _)
     apply tqW 0 19 hHeld
     ·(intro w hSw;(try dsimp only at hSw);go_simp;try with_reducible rfl)
     (try simp only [Act.put,arS,arZ,arN])
     apply tqW 1 20 hHeld
     ·(intro w hSw;(try dsimp only at hSw);go_simp;try with_reducible rfl)
     (try simp only [Act.put,arS,arZ,arN])
     apply tqW 2 21 hHeld
     ·(intro w hSw;(try dsimp only at hSw);go_simp;try with_reducible rfl)
     (try simp only [Act.put,arS,arZ,arN])
     apply tqW 3 22 hHeld
     ·(intro w hSw;(try dsimp only at hSw);go_simp;try with_reducible rfl)
     (try simp only [Act.put,arS,arZ,arN])
     apply tqW 4 23 hHeld
     ·(intro w hSw;(try dsimp only at hSw);go_simp;try with_reducible rfl)
     (try simp only [Act.put,arS,arZ,arN])
     apply tqW 5 24 hHeld
     ·(intro w hSw;(try dsimp only at hSw);go_simp;try with_reducible rfl)
     (try simp only [Act.put,arS,arZ,arN])
     apply tqW 6 25 hHeld
     ·(intro w hSw;(try dsimp only at hSw);go_simp;try with_reducible rfl)
     (try simp only [Act.put,arS,arZ,arN])
     apply tqW 7 26 hHeld
     ·(intro w hSw;(try dsimp only at hSw);go_simp;try with_reducible rfl)
     (try simp only [Act.put,arS,arZ,arN])
     apply tqW 8 27 hHeld
     ·(intro w hSw;(try dsimp only at hSw);go_simp;try with_reducible rfl)
     (try simp only [Act.put,arS,arZ,arN])
     refine tkH (i := 9) (v := .agg (dP).toArray) 28 rfl rfl (by kernel_rfl) (fun _ _ _ h => h) (yieldsIf_load_mid (by rfl) _ _ rfl _ _ rfl (dP) _ (fun w hSw => hSw.2.2.2.1) dUnder rfl hdPi) hHeld ?_
     (try simp only [Act.put,arS,arZ,arN])
     apply tqW 10 29 hHeld
     ·(intro w hSw;(try dsimp only at hSw);go_simp;try with_reducible rfl)
     (try simp only [Act.put,arS,arZ,arN])
     apply tqW 11 30 hHeld
     ·(intro w hSw;(try dsimp only at hSw);go_simp;try with_reducible rfl)
     (try simp only [Act.put,arS,arZ,arN])
     refine wpAnyH_ready (rs := [12]) (by kernel_rfl) (by simp) ?_
     refine AllReadyH.cons rfl (fun K hK => ?_) AllReadyH.nil
     go_simp
     go_wp2_with ((go_at_call 169;refine (KA.get _).mono ?_;rintro e w2 ⟨rfl,hg2⟩))
     refine hK.out _ _ ?_ (fun hHeld => ?_)
     ·exact HS5.out _ ((grown_drew' _ _).trans hg2)
     clear hK K
     (try simp only [Act.put,arS,arZ,arN])
     apply tqW 13 32 hHeld
     ·(intro w hSw;(try dsimp only at hSw);go_simp;try with_reducible rfl)
     (try simp only [Act.put,arS,arZ,arN])
     apply tqW 14 33 hHeld
     ·(intro w hSw;(try dsimp only at hSw);go_simp;try with_reducible rfl)
     (try simp only [Act.put,arS,arZ,arN])
     apply tqW 15 34 hHeld
     ·(intro w hSw;(try dsimp only at hSw);go_simp;try with_reducible rfl)
     (try simp only [Act.put,arS,arZ,arN])
     apply tqW 16 35 hHeld
     ·(intro w hSw;(try dsimp only at hSw);go_simp;try with_reducible rfl)
     (try simp only [Act.put,arS,arZ,arN])
     apply tqW 17 36 hHeld
     ·(intro w hSw;(try dsimp only at hSw);go_simp;try with_reducible rfl)
     (try simp only [Act.put,arS,arZ,arN])
     apply tqW 18 37 hHeld
     ·(intro w hSw;(try dsimp only at hSw);go_simp;try with_reducible rfl)
     (try simp only [Act.put,arS,arZ,arN])
     apply tqW 19 38 hHeld
     ·(intro w hSw;(try dsimp only at hSw);go_simp;try with_reducible rfl)
     (try simp only [Act.put,arS,arZ,arN])
     apply tqW 20 39 hHeld
     ·(intro w hSw;(try dsimp only at hSw);go_simp;try with_reducible rfl)
     (try simp only [Act.put,arS,arZ,arN])
     apply tqW 21 40 hHeld
     ·(intro w hSw;(try dsimp only at hSw);go_simp;try with_reducible rfl)
     (try simp only [Act.put,arS,arZ,arN])
     apply tqW 22 41 hHeld
     ·(intro w hSw;(try dsimp only at hSw);go_simp;try with_reducible rfl)
     (try simp only [Act.put,arS,arZ,arN])
     refine tkH (i := 23) (v := .agg (dE).toArray) 42 rfl rfl (by kernel_rfl) (fun _ _ _ h => h) (yieldsIf_load_mid (by rfl) _ _ rfl _ _ rfl (dE) _ (fun w hSw => hSw.2.2.2.2) dUnder rfl hdEi) hHeld ?_
     (try simp only [Act.put,arS,arZ,arN])
     apply tqW 24 43 hHeld
     ·(intro w hSw;(try dsimp only at hSw);go_simp;try with_reducible rfl)
     (try simp only [Act.put,arS,arZ,arN])
     refine wpAnyH_ready (rs := [25]) (by kernel_rfl) (by simp) ?_
     refine AllReadyH.cons rfl (fun K hK => ?_) AllReadyH.nil
     go_simp
     go_wp2_with ((go_at_call 169;refine (KB.get _).mono ?_;rintro e w3 ⟨rfl,hg3⟩))
     refine hK.out _ _ ?_ (fun hHeld => ?_)
     ·exact HS5.out _ (((grown_drew' _ _).trans hg2).trans hg3)
     clear hK K
     (try simp only [Act.put,arS,arZ,arN])
     apply tqW 26 45 hHeld
     ·(intro w hSw;(try dsimp only at hSw);go_simp;try with_reducible rfl)
     (try simp only [Act.put,arS,arZ,arN])
     refine wpAnyH_done (by kernel_rfl) ?_ _
     have hg5 := ((grown_drew' wr none).trans hg2).trans hg3
     obtain ⟨l6,_⟩ := H6.out w3 hg5
     go_wp2_with (first | (have hz := l7;clear hz;go_at_call 170;refine (KQ.get _).mono ?_;rintro e w6 ⟨rfl,hg6⟩;obtain ⟨_,t7,gg,bb1,bb2⟩ := H7.out w4 w6 (hg5.trans hg4) hg6) | (go_at_call 170;refine (KP.get _).mono ?_;rintro e w4 ⟨rfl,hg4⟩;obtain ⟨_,t6⟩ := H6.out w4 (hg5.trans hg4);obtain ⟨l7,_⟩ := H7.out w4 _ (hg5.trans hg4) (grown_refl _ _)))
     go_roundw
     case rel => exact ⟨i + 1,_,_,p',q',by omega,by go_num,gg,bb1,bb2,HCP'.out,HCQ'.out,HRES2.out⟩
     case measure => simp [intOf];omega
    ·have c2' : hasD (s.L x.c.entry) v = false := by simpa using c2
     rw [c2'] at KB
     have HRES2 : Hid (atF (s.L x.c.place) (s.L x.c.entry) (i + 1) (x.c.list.drop (i + 1)) (P,Q) = R) := by
      rw [Hid,← hres,hdr,atF,c1,c2'];rfl
     have HCP := hide hcp
     have HCQ := hide hcq
     clear hres hdr c1 c2 c2' hcp hcq
     go_wp2
     refine wp_region_held_drew (S := (fun w1 => w1.cell? ⟨X.b,4,none⟩ = some (.slice (some ⟨X.gl,0,none⟩) K.vars.length K.vars.length) ∧ w1.cell? ⟨g,o + 6,none⟩ = some (.int .i64 x.c.place) ∧ w1.cell? ⟨g,o + 7,none⟩ = some (.int .i64 x.c.entry) ∧ w1.rangeAt X.gl (x.c.place.toNat * 32) dP ∧ w1.rangeAt X.gl (x.c.entry.toNat * 32) dE)) (by kernel_rfl) ?_ (fun hHeld => ?_)
     ·exact HS5.out _ (grown_drew' _ _)
     apply tqW 0 19 hHeld
     ·(intro w hSw;(try dsimp only at hSw);go_simp;try with_reducible rfl)
     (try simp only [Act.put,arS,arZ,arN])
     apply tqW 1 20 hHeld
     ·(intro w hSw;(try dsimp only at hSw);go_simp;try with_reducible rfl)
     (try simp only [Act.put,arS,arZ,arN])
     apply tqW 2 21 hHeld
     ·(intro w hSw;(try dsimp only at hSw);go_simp;try with_reducible rfl)
     (try simp only [Act.put,arS,arZ,arN])
     apply tqW 3 22 hHeld
     ·(intro w hSw;(try dsimp only at hSw);go_simp;try with_reducible rfl)
     (try simp only [Act.put,arS,arZ,arN])
     apply tqW 4 23 hHeld
     ·(intro w hSw;(try dsimp only at hSw);go_simp;try with_reducible rfl)
     (try simp only [Act.put,arS,arZ,arN])
     apply tqW 5 24 hHeld
     ·(intro w hSw;(try dsimp only at hSw);go_simp;try with_reducible rfl)
     (try simp only [Act.put,arS,arZ,arN])
     apply tqW 6 25 hHeld
     ·(intro w hSw;(try dsimp only at hSw);go_simp;try with_reducible rfl)
     (try simp only [Act.put,arS,arZ,arN])
     apply tqW 7 26 hHeld
     ·(intro w hSw;(try dsimp only at hSw);go_simp;try with_reducible rfl)
     (try simp only [Act.put,arS,arZ,arN])
     apply tqW 8 27 hHeld
     ·(intro w hSw;(try dsimp only at hSw);go_simp;try with_reducible rfl)
     (try simp only [Act.put,arS,arZ,arN])
     refine tkH (i := 9) (v := .agg (dP).toArray) 28 rfl rfl (by kernel_rfl) (fun _ _ _ h => h) (yieldsIf_load_mid (by rfl) _ _ rfl _ _ rfl (dP) _ (fun w hSw => hSw.2.2.2.1) dUnder rfl hdPi) hHeld ?_
     (try simp only [Act.put,arS,arZ,arN])
     apply tqW 10 29 hHeld
     ·(intro w hSw;(try dsimp only at hSw);go_simp;try with_reducible rfl)
     (try simp only [Act.put,arS,arZ,arN])
     apply tqW 11 30 hHeld
     ·(intro w hSw;(try dsimp only at hSw);go_simp;try with_reducible rfl)
     (try simp only [Act.put,arS,arZ,arN])
     refine wpAnyH_ready (rs := [12]) (by kernel_rfl) (by simp) ?_
     refine AllReadyH.cons rfl (fun K hK => ?_) AllReadyH.nil
     go_simp
     go_wp2_with ((go_at_call 169;refine (KA.get _).mono ?_;rintro e w2 ⟨rfl,hg2⟩))
     refine hK.out _ _ ?_ (fun hHeld => ?_)
     ·exact HS5.out _ ((grown_drew' _ _).trans hg2)
     clear hK K
     (try simp only [Act.put,arS,arZ,arN])
     apply tqW 13 32 hHeld
     ·(intro w hSw;(try dsimp only at hSw);go_simp;try with_reducible rfl)
     (try simp only [Act.put,arS,arZ,arN])
     apply tqW 14 33 hHeld
     ·(intro w hSw;(try dsimp only at hSw);go_simp;try with_reducible rfl)
     (try simp only [Act.put,arS,arZ,arN])
     apply tqW 15 34 hHeld
     ·(intro w hSw;(try dsimp only at hSw);go_simp;try with_reducible rfl)
     (try simp only [Act.put,arS,arZ,arN])
     apply tqW 16 35 hHeld
     ·(intro w hSw;(try dsimp only at hSw);go_simp;try with_reducible rfl)
     (try simp only [Act.put,arS,arZ,arN])
     apply tqW 17 36 hHeld
     ·(intro w hSw;(try dsimp only at hSw);go_simp;try with_reducible rfl)
     (try simp only [Act.put,arS,arZ,arN])
     apply tqW 18 37 hHeld
     ·(intro w hSw;(try dsimp only at hSw);go_simp;try with_reducible rfl)
     (try simp only [Act.put,arS,arZ,arN])
     apply tqW 19 38 hHeld
     ·(intro w hSw;(try dsimp only at hSw);go_simp;try with_reducible rfl)
     (try simp only [Act.put,arS,arZ,arN])
     apply tqW 20 39 hHeld
     ·(intro w hSw;(try dsimp only at hSw);go_simp;try with_reducible rfl)
     (try simp only [Act.put,arS,arZ,arN])
     apply tqW 21 40 hHeld
     ·(intro w hSw;(try dsimp only at hSw);go_simp;try with_reducible rfl)
     (try simp only [Act.put,arS,arZ,arN])
     apply tqW 22 41 hHeld
     ·(intro w hSw;(try dsimp only at hSw);go_simp;try with_reducible rfl)
     (try simp only [Act.put,arS,arZ,arN])
     refine tkH (i := 23) (v := .agg (dE).toArray) 42 rfl rfl (by kernel_rfl) (fun _ _ _ h => h) (yieldsIf_load_mid (by rfl) _ _ rfl _ _ rfl (dE) _ (fun w hSw => hSw.2.2.2.2) dUnder rfl hdEi) hHeld ?_
     (try simp only [Act.put,arS,arZ,arN])
     apply tqW 24 43 hHeld
     ·(intro w hSw;(try dsimp only at hSw);go_simp;try with_reducible rfl)
     (try simp only [Act.put,arS,arZ,arN])
     refine wpAnyH_ready (rs := [25]) (by kernel_rfl) (by simp) ?_
     refine AllReadyH.cons rfl (fun K hK => ?_) AllReadyH.nil
     go_simp
     go_wp2_with ((go_at_call 169;refine (KB.get _).mono ?_;rintro e w3 ⟨rfl,hg3⟩))
     refine hK.out _ _ ?_ (fun hHeld => ?_)
     ·exact HS5.out _ (((grown_drew' _ _).trans hg2).trans hg3)
     clear hK K
     (try simp only [Act.put,arS,arZ,arN])
     apply tqW 26 45 hHeld
     ·(intro w hSw;(try dsimp only at hSw);go_simp;try with_reducible rfl)
     (try simp only [Act.put,arS,arZ,arN])
     refine wpAnyH_done (by kernel_rfl) ?_ _
     have hg5 := ((grown_drew' wr none).trans hg2).trans hg3
     go_wp2
     go_roundw
     case rel => exact ⟨i + 1,P,Q,p,q,by omega,by go_num,HGR.out.trans hg5,HBP.out.kept hg5,HBQ.out.kept hg5,HCP.out,HCQ.out,HRES2.out⟩
     case measure => simp [intOf];omega
   ·have c1' : hasD (s.L x.c.place) ((i : Int) + 1) = false := by simpa using c1
    rw [c1'] at KA
    have HRES2 : Hid (atF (s.L x.c.place) (s.L x.c.entry) (i + 1) (x.c.list.drop (i + 1)) (P,Q) = R) := by
     rw [Hid,← hres,hdr,atF,c1'];rfl
    have HCP := hide hcp
    have HCQ := hide hcq
    clear hres hdr c1 c1' hcp hcq
    go_wp2
    refine wp_region_held_drew (S := (fun w1 => w1.cell? ⟨X.b,4,none⟩ = some (.slice (some ⟨X.gl,0,none⟩) K.vars.length K.vars.length) ∧ w1.cell? ⟨g,o + 6,none⟩ = some (.int .i64 x.c.place) ∧ w1.cell? ⟨g,o + 7,none⟩ = some (.int .i64 x.c.entry) ∧ w1.rangeAt X.gl (x.c.place.toNat * 32) dP ∧ w1.rangeAt X.gl (x.c.entry.toNat * 32) dE)) (by kernel_rfl) ?_ (fun hHeld => ?_)
    ·exact HS5.out _ (grown_drew' _ _)
    apply tqW 0 19 hHeld
    ·(intro w hSw;(try dsimp only at hSw);go_simp;try with_reducible rfl)
    (try simp only [Act.put,arS,arZ,arN])
    apply tqW 1 20 hHeld
    ·(intro w hSw;(try dsimp only at hSw);go_simp;try with_reducible rfl)
    (try simp only [Act.put,arS,arZ,arN])
    apply tqW 2 21 hHeld
    ·(intro w hSw;(try dsimp only at hSw);go_simp;try with_reducible rfl)
    (try simp only [Act.put,arS,arZ,arN])
    apply tqW 3 22 hHeld
    ·(intro w hSw;(try dsimp only at hSw);go_simp;try with_reducible rfl)
    (try simp only [Act.put,arS,arZ,arN])
    apply tqW 4 23 hHeld
    ·(intro w hSw;(try dsimp only at hSw);go_simp;try with_reducible rfl)
    (try simp only [Act.put,arS,arZ,arN])
    apply tqW 5 24 hHeld
    ·(intro w hSw;(try dsimp only at hSw);go_simp;try with_reducible rfl)
    (try simp only [Act.put,arS,arZ,arN])
    apply tqW 6 25 hHeld
    ·(intro w hSw;(try dsimp only at hSw);go_simp;try with_reducible rfl)
    (try simp only [Act.put,arS,arZ,arN])
    apply tqW 7 26 hHeld
    ·(intro w hSw;(try dsimp only at hSw);go_simp;try with_reducible rfl)
    (try simp only [Act.put,arS,arZ,arN])
    apply tqW 8 27 hHeld
    ·(intro w hSw;(try dsimp only at hSw);go_simp;try with_reducible rfl)
    (try simp only [Act.put,arS,arZ,arN])
    refine tkH (i := 9) (v := .agg (dP).toArray) 28 rfl rfl (by kernel_rfl) (fun _ _ _ h => h) (yieldsIf_load_mid (by rfl) _ _ rfl _ _ rfl (dP) _ (fun w hSw => hSw.2.2.2.1) dUnder rfl hdPi) hHeld ?_
    (try simp only [Act.put,arS,arZ,arN])
    apply tqW 10 29 hHeld
    ·(intro w hSw;(try dsimp only at hSw);go_simp;try with_reducible rfl)
    (try simp only [Act.put,arS,arZ,arN])
    apply tqW 11 30 hHeld
    ·(intro w hSw;(try dsimp only at hSw);go_simp;try with_reducible rfl)
    (try simp only [Act.put,arS,arZ,arN])
    refine wpAnyH_ready (rs := [12]) (by kernel_rfl) (by simp) ?_
    refine AllReadyH.cons rfl (fun K hK => ?_) AllReadyH.nil
    go_simp
    go_wp2_with ((go_at_call 169;refine (KA.get _).mono ?_;rintro e w2 ⟨rfl,hg2⟩))
    refine hK.out _ _ ?_ (fun hHeld => ?_)
    ·exact HS5.out _ ((grown_drew' _ _).trans hg2)
    clear hK K
    (try simp only [Act.put,arS,arZ,arN])
    apply tqW 13 32 hHeld
    ·(intro w hSw;(try dsimp only at hSw);go_simp;try with_reducible rfl)
    (try simp only [Act.put,arS,arZ,arN])
    refine tkH (i := 14) (v := undef) 33 rfl rfl (by kernel_rfl) (fun _ _ _ h => h) (Or.inr ⟨by kernel_rfl,rfl⟩) hHeld ?_
    (try simp only [Act.put,arS,arZ,arN])
    refine tkH (i := 15) (v := undef) 34 rfl rfl (by kernel_rfl) (fun _ _ _ h => h) (Or.inr ⟨by kernel_rfl,rfl⟩) hHeld ?_
    (try simp only [Act.put,arS,arZ,arN])
    refine tkH (i := 16) (v := undef) 35 rfl rfl (by kernel_rfl) (fun _ _ _ h => h) (Or.inr ⟨by kernel_rfl,rfl⟩) hHeld ?_
    (try simp only [Act.put,arS,arZ,arN])
    refine tkH (i := 17) (v := undef) 36 rfl rfl (by kernel_rfl) (fun _ _ _ h => h) (Or.inr ⟨by kernel_rfl,rfl⟩) hHeld ?_
    (try simp only [Act.put,arS,arZ,arN])
    refine tkH (i := 18) (v := undef) 37 rfl rfl (by kernel_rfl) (fun _ _ _ h => h) (Or.inr ⟨by kernel_rfl,rfl⟩) hHeld ?_
    (try simp only [Act.put,arS,arZ,arN])
    refine tkH (i := 19) (v := undef) 38 rfl rfl (by kernel_rfl) (fun _ _ _ h => h) (Or.inr ⟨by kernel_rfl,rfl⟩) hHeld ?_
    (try simp only [Act.put,arS,arZ,arN])
    refine tkH (i := 20) (v := undef) 39 rfl rfl (by kernel_rfl) (fun _ _ _ h => h) (Or.inr ⟨by kernel_rfl,rfl⟩) hHeld ?_
    (try simp only [Act.put,arS,arZ,arN])
    refine tkH (i := 21) (v := undef) 40 rfl rfl (by kernel_rfl) (fun _ _ _ h => h) (Or.inr ⟨by kernel_rfl,rfl⟩) hHeld ?_
    (try simp only [Act.put,arS,arZ,arN])
    refine tkH (i := 22) (v := undef) 41 rfl rfl (by kernel_rfl) (fun _ _ _ h => h) (Or.inr ⟨by kernel_rfl,rfl⟩) hHeld ?_
    (try simp only [Act.put,arS,arZ,arN])
    refine tkH (i := 23) (v := undef) 42 rfl rfl (by kernel_rfl) (fun _ _ _ h => h) (Or.inr ⟨by kernel_rfl,rfl⟩) hHeld ?_
    (try simp only [Act.put,arS,arZ,arN])
    refine tkH (i := 24) (v := undef) 43 rfl rfl (by kernel_rfl) (fun _ _ _ h => h) (Or.inr ⟨by kernel_rfl,rfl⟩) hHeld ?_
    (try simp only [Act.put,arS,arZ,arN])
    refine tkH (i := 25) (v := undef) 44 rfl rfl (by kernel_rfl) (fun _ _ _ h => h) (Or.inr ⟨by kernel_rfl,rfl⟩) hHeld ?_
    (try simp only [Act.put,arS,arZ,arN])
    apply tqW 26 45 hHeld
    ·(intro w hSw;(try dsimp only at hSw);go_simp;try with_reducible rfl)
    (try simp only [Act.put,arS,arZ,arN])
    refine wpAnyH_done (by kernel_rfl) ?_ _
    have hg5 := (grown_drew' wr none).trans hg2
    go_wp2
    go_roundw
    case rel => exact ⟨i + 1,P,Q,p,q,by omega,by go_num,HGR.out.trans hg5,HBP.out.kept hg5,HBQ.out.kept hg5,HCP.out,HCQ.out,HRES2.out⟩
    case measure => simp [intOf];omega
  ·obtain rfl : i = x.c.list.length := by omega
   rw [List.drop_of_length_le (Nat.le_refl _)] at hres
   have eR : (P,Q) = R := hres
   subst eR
   obtain ⟨hK,hs,hT,hpl,hen,hRR⟩ := HALL.out
   obtain ⟨u1,u2⟩ := atF_sub (P := s.L x.c.place) (E := s.L x.c.entry) (l := x.c.list) (i := 0) (r := (0,0)) (fun j h => by simp at h) (fun j h => by simp at h)
   rw [hRR] at u1 u2
   simp only [] at u1 u2
   have hPl : P < 2 ^ 2001 := lt_of_bits (k := 2001) fun j hj => bit_lt (u1 j hj) (hs.L_lt hK x.c.place)
   have hA := HH.out.grown hgr
   have HA9 := hide (hA.grown (grown_drew' wr none))
   have hNo : w.heap.size ∉ X.own := HH.out.new_own (Nat.le_refl _)
   have hNo1 : w.heap.size + 1 ∉ X.own := HH.out.new_own (Nat.le_succ _)
   have HS9 : Hid (∀ (W' : World) (s' : SS) (vT' : Value),SAt w0 W' X K s' vT' vS → FrS X wr W' → (W'.cell? ⟨X.b,4,none⟩ = some (.slice (some ⟨X.gl,0,none⟩) K.vars.length K.vars.length) ∧ W'.cell? ⟨g,o + 6,none⟩ = some (.int .i64 x.c.place) ∧ W'.cell? ⟨g,o + 7,none⟩ = some (.int .i64 x.c.entry) ∧ W'.rangeAt w.heap.size 0 p ∧ W'.rangeAt (w.heap.size + 1) 0 q)) := fun W' s' vT' hA' hf => by
    have far : ∀ k u,x.cells[k]? = some u → W'.cell? ⟨g,o + k,none⟩ = some u := fun k u hu => by
     rw [← HX.out.cell k u hu]
     exact (World.cell?_of_block (hA'.g0.block g hgx (by simp))).trans (World.cell?_of_block (HH.out.g0.block g hgx (by simp))).symm
    exact ⟨hA'.f4,far 6 _ rfl,far 7 _ rfl,(hbp.frs hf hNo).range,(hbq.frs hf hNo1).range⟩
   have KK1 := Kept.mk (fun {W : World} (q : SAt w0 W X K s vT vS) => dc_keep hcp q hK hs hpl hPl hT.le)
   have hin : SOk K (keepS K x.c.place P s).2 ∧ TB (keepS K x.c.place P s).2 := ⟨(keep_ok hK hs hpl u1).1.ok hs,keep_tb hK hs hpl u1 hT⟩
   have HRES : Hid (atS K x.c s = (if (keepS K x.c.place P s).1 then keepS K x.c.entry (Q &&& (keepS K x.c.place P s).2.L x.c.entry) (keepS K x.c.place P s).2 else keepS K x.c.place P s)) := by
    rw [Hid];unfold atS;rw [hRR]
   have hpi := hcp.info
   have hqi := hcq.info
   generalize hk0 : keepS K x.c.place P s = k at *
   have HGR := hide hgr
   have HCQ := hide hcq
   have HEN := hide hen
   cases hk : k.1 with
   | false =>
    rw [hk] at KK1
    have HR2 : Hid (atS K x.c s = k) := by rw [Hid,HRES.out,hk];rfl
    have hk1 : (atS K x.c s).1 = false := by rw [HR2.out];exact hk
    clear hk hk0 HRES hin hA hgr hbp hbq hcp hcq hres hRR u1 u2 hK hs hT hpl hen HALL hPl
    go_wp2
    refine wp_region_held_drew (S := (fun w1 => w1.cell? ⟨X.b,4,none⟩ = some (.slice (some ⟨X.gl,0,none⟩) K.vars.length K.vars.length) ∧ w1.cell? ⟨g,o + 6,none⟩ = some (.int .i64 x.c.place) ∧ w1.cell? ⟨g,o + 7,none⟩ = some (.int .i64 x.c.entry) ∧ w1.rangeAt w.heap.size 0 p ∧ w1.rangeAt (w.heap.size + 1) 0 q)) (by kernel_rfl) ?_ (fun hHeld => ?_)
    ·exact HS9.out _ _ _ HA9.out (FrS.grown (grown_drew' _ _))
    apply tqW 0 54 hHeld
    ·(intro w hSw;(try dsimp only at hSw);go_simp;try with_reducible rfl)
    (try simp only [Act.put,arS,arZ,arN])
    apply tqW 1 55 hHeld
    ·(intro w hSw;(try dsimp only at hSw);go_simp;try with_reducible rfl)
    (try simp only [Act.put,arS,arZ,arN])
    apply tqW 2 56 hHeld
    ·(intro w hSw;(try dsimp only at hSw);go_simp;try with_reducible rfl)
    (try simp only [Act.put,arS,arZ,arN])
    apply tqW 3 57 hHeld
    ·(intro w hSw;(try dsimp only at hSw);go_simp;try with_reducible rfl)
    (try simp only [Act.put,arS,arZ,arN])
    apply tqW 4 58 hHeld
    ·(intro w hSw;(try dsimp only at hSw);go_simp;try with_reducible rfl)
    (try simp only [Act.put,arS,arZ,arN])
    refine tkH (i := 5) (v := .agg (p).toArray) 59 rfl rfl (by kernel_rfl) (fun _ _ _ h => h) (yieldsIf_load_mid (by rfl) _ _ rfl _ _ rfl (p) _ (fun w hSw => hSw.2.2.2.1) dUnder rfl hpi) hHeld ?_
    (try simp only [Act.put,arS,arZ,arN])
    refine wpAnyH_ready (rs := [6]) (by kernel_rfl) (by simp) ?_
    refine AllReadyH.cons rfl (fun K hK => ?_) AllReadyH.nil
    go_simp
    go_wp2_with ((go_at_call 167;refine (KK1.get HA9.out).mono ?_;rintro e w2 ⟨rfl,⟨vT2,hs2⟩,hf2⟩))
    refine hK.out _ _ ?_ (fun hHeld => ?_)
    ·exact HS9.out _ _ _ hs2 ((FrS.grown (grown_drew' _ _)).trans hf2)
    clear hK K
    (try simp only [Act.put,arS,arZ,arN])
    apply tqW 7 61 hHeld
    ·(intro w hSw;(try dsimp only at hSw);go_simp;try with_reducible rfl)
    (try simp only [Act.put,arS,arZ,arN])
    refine tkH (i := 8) (v := undef) 62 rfl rfl (by kernel_rfl) (fun _ _ _ h => h) (Or.inr ⟨by kernel_rfl,rfl⟩) hHeld ?_
    (try simp only [Act.put,arS,arZ,arN])
    refine tkH (i := 9) (v := undef) 63 rfl rfl (by kernel_rfl) (fun _ _ _ h => h) (Or.inr ⟨by kernel_rfl,rfl⟩) hHeld ?_
    (try simp only [Act.put,arS,arZ,arN])
    refine tkH (i := 10) (v := undef) 64 rfl rfl (by kernel_rfl) (fun _ _ _ h => h) (Or.inr ⟨by kernel_rfl,rfl⟩) hHeld ?_
    (try simp only [Act.put,arS,arZ,arN])
    refine tkH (i := 11) (v := undef) 65 rfl rfl (by kernel_rfl) (fun _ _ _ h => h) (Or.inr ⟨by kernel_rfl,rfl⟩) hHeld ?_
    (try simp only [Act.put,arS,arZ,arN])
    refine tkH (i := 12) (v := undef) 66 rfl rfl (by kernel_rfl) (fun _ _ _ h => h) (Or.inr ⟨by kernel_rfl,rfl⟩) hHeld ?_
    (try simp only [Act.put,arS,arZ,arN])
    refine tkH (i := 13) (v := undef) 67 rfl rfl (by kernel_rfl) (fun _ _ _ h => h) (Or.inr ⟨by kernel_rfl,rfl⟩) hHeld ?_
    (try simp only [Act.put,arS,arZ,arN])
    refine tkH (i := 14) (v := undef) 68 rfl rfl (by kernel_rfl) (fun _ _ _ h => h) (Or.inr ⟨by kernel_rfl,rfl⟩) hHeld ?_
    (try simp only [Act.put,arS,arZ,arN])
    refine tkH (i := 15) (v := undef) 69 rfl rfl (by kernel_rfl) (fun _ _ _ h => h) (Or.inr ⟨by kernel_rfl,rfl⟩) hHeld ?_
    (try simp only [Act.put,arS,arZ,arN])
    refine tkH (i := 16) (v := undef) 70 rfl rfl (by kernel_rfl) (fun _ _ _ h => h) (Or.inr ⟨by kernel_rfl,rfl⟩) hHeld ?_
    (try simp only [Act.put,arS,arZ,arN])
    refine tkH (i := 17) (v := undef) 71 rfl rfl (by kernel_rfl) (fun _ _ _ h => h) (Or.inr ⟨by kernel_rfl,rfl⟩) hHeld ?_
    (try simp only [Act.put,arS,arZ,arN])
    refine tkH (i := 18) (v := undef) 72 rfl rfl (by kernel_rfl) (fun _ _ _ h => h) (Or.inr ⟨by kernel_rfl,rfl⟩) hHeld ?_
    (try simp only [Act.put,arS,arZ,arN])
    refine tkH (i := 19) (v := undef) 73 rfl rfl (by kernel_rfl) (fun _ _ _ h => h) (Or.inr ⟨by kernel_rfl,rfl⟩) hHeld ?_
    (try simp only [Act.put,arS,arZ,arN])
    refine tkH (i := 20) (v := undef) 74 rfl rfl (by kernel_rfl) (fun _ _ _ h => h) (Or.inr ⟨by kernel_rfl,rfl⟩) hHeld ?_
    (try simp only [Act.put,arS,arZ,arN])
    refine tkH (i := 21) (v := undef) 75 rfl rfl (by kernel_rfl) (fun _ _ _ h => h) (Or.inr ⟨by kernel_rfl,rfl⟩) hHeld ?_
    (try simp only [Act.put,arS,arZ,arN])
    refine tkH (i := 22) (v := undef) 76 rfl rfl (by kernel_rfl) (fun _ _ _ h => h) (Or.inr ⟨by kernel_rfl,rfl⟩) hHeld ?_
    (try simp only [Act.put,arS,arZ,arN])
    refine tkH (i := 23) (v := undef) 77 rfl rfl (by kernel_rfl) (fun _ _ _ h => h) (Or.inr ⟨by kernel_rfl,rfl⟩) hHeld ?_
    (try simp only [Act.put,arS,arZ,arN])
    refine tkH (i := 24) (v := undef) 78 rfl rfl (by kernel_rfl) (fun _ _ _ h => h) (Or.inr ⟨by kernel_rfl,rfl⟩) hHeld ?_
    (try simp only [Act.put,arS,arZ,arN])
    refine tkH (i := 25) (v := undef) 79 rfl rfl (by kernel_rfl) (fun _ _ _ h => h) (Or.inr ⟨by kernel_rfl,rfl⟩) hHeld ?_
    (try simp only [Act.put,arS,arZ,arN])
    apply tqW 26 80 hHeld
    ·(intro w hSw;(try dsimp only at hSw);go_simp;try with_reducible rfl)
    (try simp only [Act.put,arS,arZ,arN])
    apply tqW 27 4 hHeld
    ·(intro w hSw;(try dsimp only at hSw);go_simp;try with_reducible rfl)
    (try simp only [Act.put,arS,arZ,arN])
    refine wpAnyH_done (by kernel_rfl) ?_ _
    go_wp2
    go_ret
    rw [hk1,HR2.out]
    exact ⟨rfl,⟨_,hs2⟩,(FrS.grown (HGR.out.trans (grown_drew' _ _))).trans hf2⟩
   | true =>
    rw [hk] at KK1
    have HR2 : Hid (atS K x.c s = keepS K x.c.entry (Q &&& k.2.L x.c.entry) k.2) := by rw [Hid,HRES.out,hk];rfl
    obtain ⟨e2,he2⟩ := dc (k.2.L x.c.entry)
    obtain ⟨r,hr⟩ := dc (Q &&& k.2.L x.c.entry)
    have hrl : Q &&& k.2.L x.c.entry < 2 ^ 2001 := Nat.lt_of_le_of_lt Nat.and_le_right (hin.1.L_lt hK x.c.entry)
    have KAN := Kept.mk (fun W => dc_And hcq he2 hr W)
    have KK2 := Kept.mk (fun {W : World} {vT2 : Value} (q : SAt w0 W X K k.2 vT2 vS) => dc_keep hr q hK hin.1 hen hrl hin.2.le)
    have HLD : Hid (∀ {W : World} {vT2 : Value},SAt w0 W X K k.2 vT2 vS → Sem.run Tryz.prog (ldS (.pointer (some ⟨X.gl,x.c.entry.toNat * 32,none⟩))) W = .ok (.agg e2.toArray) W) := fun {W vT2} q => ld_range (by rw [he2.is];exact (q.leftAt HEN.out).1) he2.len
    clear hk hk0 HRES hin hA hgr hbp hbq hcp hcq hres hRR u1 u2 hK hs hT hpl hen HALL hPl hrl he2 hr
    go_wp2
    refine wp_region_held_drew (S := (fun w1 => w1.cell? ⟨X.b,4,none⟩ = some (.slice (some ⟨X.gl,0,none⟩) K.vars.length K.vars.length) ∧ w1.cell? ⟨g,o + 6,none⟩ = some (.int .i64 x.c.place) ∧ w1.cell? ⟨g,o + 7,none⟩ = some (.int .i64 x.c.entry) ∧ w1.rangeAt w.heap.size 0 p ∧ w1.rangeAt (w.heap.size + 1) 0 q)) (by kernel_rfl) ?_ (fun hHeld => ?_)
    ·exact HS9.out _ _ _ HA9.out (FrS.grown (grown_drew' _ _))
    apply tqW 0 54 hHeld
    ·(intro w hSw;(try dsimp only at hSw);go_simp;try with_reducible rfl)
    (try simp only [Act.put,arS,arZ,arN])
    apply tqW 1 55 hHeld
    ·(intro w hSw;(try dsimp only at hSw);go_simp;try with_reducible rfl)
    (try simp only [Act.put,arS,arZ,arN])
    apply tqW 2 56 hHeld
    ·(intro w hSw;(try dsimp only at hSw);go_simp;try with_reducible rfl)
    (try simp only [Act.put,arS,arZ,arN])
    apply tqW 3 57 hHeld
    ·(intro w hSw;(try dsimp only at hSw);go_simp;try with_reducible rfl)
    (try simp only [Act.put,arS,arZ,arN])
    apply tqW 4 58 hHeld
    ·(intro w hSw;(try dsimp only at hSw);go_simp;try with_reducible rfl)
    (try simp only [Act.put,arS,arZ,arN])
    refine tkH (i := 5) (v := .agg (p).toArray) 59 rfl rfl (by kernel_rfl) (fun _ _ _ h => h) (yieldsIf_load_mid (by rfl) _ _ rfl _ _ rfl (p) _ (fun w hSw => hSw.2.2.2.1) dUnder rfl hpi) hHeld ?_
    (try simp only [Act.put,arS,arZ,arN])
    refine wpAnyH_ready (rs := [6]) (by kernel_rfl) (by simp) ?_
    refine AllReadyH.cons rfl (fun K hK => ?_) AllReadyH.nil
    go_simp
    go_wp2_with ((go_at_call 167;refine (KK1.get HA9.out).mono ?_;rintro e w2 ⟨rfl,⟨vT2,hs2⟩,hf2⟩))
    refine hK.out _ _ ?_ (fun hHeld => ?_)
    ·exact HS9.out _ _ _ hs2 ((FrS.grown (grown_drew' _ _)).trans hf2)
    clear hK K
    (try simp only [Act.put,arS,arZ,arN])
    apply tqW 7 61 hHeld
    ·(intro w hSw;(try dsimp only at hSw);go_simp;try with_reducible rfl)
    (try simp only [Act.put,arS,arZ,arN])
    apply tqW 8 62 hHeld
    ·(intro w hSw;(try dsimp only at hSw);go_simp;try with_reducible rfl)
    (try simp only [Act.put,arS,arZ,arN])
    apply tqW 9 63 hHeld
    ·(intro w hSw;(try dsimp only at hSw);go_simp;try with_reducible rfl)
    (try simp only [Act.put,arS,arZ,arN])
    apply tqW 10 64 hHeld
    ·(intro w hSw;(try dsimp only at hSw);go_simp;try with_reducible rfl)
    (try simp only [Act.put,arS,arZ,arN])
    apply tqW 11 65 hHeld
    ·(intro w hSw;(try dsimp only at hSw);go_simp;try with_reducible rfl)
    (try simp only [Act.put,arS,arZ,arN])
    apply tqW 12 66 hHeld
    ·(intro w hSw;(try dsimp only at hSw);go_simp;try with_reducible rfl)
    (try simp only [Act.put,arS,arZ,arN])
    refine tkH (i := 13) (v := .agg (q).toArray) 67 rfl rfl (by kernel_rfl) (fun _ _ _ h => h) (yieldsIf_load_mid (by rfl) _ _ rfl _ _ rfl (q) _ (fun w hSw => hSw.2.2.2.2) dUnder rfl hqi) hHeld ?_
    (try simp only [Act.put,arS,arZ,arN])
    apply tqW 14 68 hHeld
    ·(intro w hSw;(try dsimp only at hSw);go_simp;try with_reducible rfl)
    (try simp only [Act.put,arS,arZ,arN])
    apply tqW 15 69 hHeld
    ·(intro w hSw;(try dsimp only at hSw);go_simp;try with_reducible rfl)
    (try simp only [Act.put,arS,arZ,arN])
    apply tqW 16 70 hHeld
    ·(intro w hSw;(try dsimp only at hSw);go_simp;try with_reducible rfl)
    (try simp only [Act.put,arS,arZ,arN])
    apply tqW 17 71 hHeld
    ·(intro w hSw;(try dsimp only at hSw);go_simp;try with_reducible rfl)
    (try simp only [Act.put,arS,arZ,arN])
    apply tqW 18 72 hHeld
    ·(intro w hSw;(try dsimp only at hSw);go_simp;try with_reducible rfl)
    (try simp only [Act.put,arS,arZ,arN])
    apply tqW 19 73 hHeld
    ·(intro w hSw;(try dsimp only at hSw);go_simp;try with_reducible rfl)
    (try simp only [Act.put,arS,arZ,arN])
    apply tqW 20 74 hHeld
    ·(intro w hSw;(try dsimp only at hSw);go_simp;try with_reducible rfl)
    (try simp only [Act.put,arS,arZ,arN])
    apply tqW 21 75 hHeld
    ·(intro w hSw;(try dsimp only at hSw);go_simp;try with_reducible rfl)
    (try simp only [Act.put,arS,arZ,arN])
    apply tqW 22 76 hHeld
    ·(intro w hSw;(try dsimp only at hSw);go_simp;try with_reducible rfl)
    (try simp only [Act.put,arS,arZ,arN])
    have ld2 := HLD.out hs2
    refine wpAnyH_ready (rs := [23]) (by kernel_rfl) (by simp) ?_
    refine AllReadyH.cons rfl (fun K hK => ?_) AllReadyH.nil
    go_simp
    refine hK.out _ _ ?_ (fun hHeld => ?_)
    ·exact hHeld
    clear hK K
    (try simp only [Act.put,arS,arZ,arN])
    refine wpAnyH_ready (rs := [24]) (by kernel_rfl) (by simp) ?_
    refine AllReadyH.cons rfl (fun K hK => ?_) AllReadyH.nil
    go_simp
    go_wp2_with ((go_at_call 171;refine (KAN.get _).mono ?_;rintro e w3 ⟨rfl,hg3⟩))
    refine hK.out _ _ ?_ (fun hHeld => ?_)
    ·exact HS9.out _ _ _ (hs2.grown hg3) (((FrS.grown (grown_drew' _ _)).trans hf2).trans (FrS.grown hg3))
    clear hK K
    (try simp only [Act.put,arS,arZ,arN])
    refine wpAnyH_ready (rs := [25]) (by kernel_rfl) (by simp) ?_
    refine AllReadyH.cons rfl (fun K hK => ?_) AllReadyH.nil
    go_simp
    go_wp2_with ((go_at_call 167;refine (KK2.get (hs2.grown hg3)).mono ?_;rintro e w4 ⟨rfl,⟨vT4,hs4⟩,hf4⟩))
    refine hK.out _ _ ?_ (fun hHeld => ?_)
    ·exact HS9.out _ _ _ hs4 ((((FrS.grown (grown_drew' _ _)).trans hf2).trans (FrS.grown hg3)).trans hf4)
    clear hK K
    (try simp only [Act.put,arS,arZ,arN])
    apply tqW 26 80 hHeld
    ·(intro w hSw;(try dsimp only at hSw);go_simp;try with_reducible rfl)
    (try simp only [Act.put,arS,arZ,arN])
    apply tqW 27 4 hHeld
    ·(intro w hSw;(try dsimp only at hSw);go_simp;try with_reducible rfl)
    (try simp only [Act.put,arS,arZ,arN])
    refine wpAnyH_done (by kernel_rfl) ?_ _
    go_wp2
    go_ret
    rw [HR2.out]
    exact ⟨rfl,⟨_,hs4⟩,(FrS.grown (HGR.out.trans (grown_drew' _ _))).trans ((hf2.trans (FrS.grown hg3)).trans hf4)⟩
end
section
set_option maxHeartbeats 4000000
set_option maxRecDepth 100000
attribute [local go_sem ↓] ld_veil st_veil
variable {w0 w w' w'' : World} {X : SL} {K : SK} {s : SS} {vT vS : Value}
def litV (a : Int × Int) : Value := .agg #[.int .i64 a.1,.int .i64 a.2]
theorem sc_mayBe (h : SAt w0 w X K s vT vS) (hK : KOk K) (a : Int × Int) (hv : PlOk K.vars.length a.1) (ha : a.2 = 0 ∨ a.2 = 1) {N : Nat} (hN : w.cell? ⟨N,0,none⟩ = some (.pointer (some ⟨X.b,0,none⟩))) : Calls Tryz.prog 173 #[litV a,.pointer (some ⟨N,0,none⟩)] w fun e w' => e = .returned (.bool (mayS s a)) ∧ w.grownBy w' none := by
 obtain ⟨v,z⟩ := a
 simp only at hv ha
 unfold litV mayS
 simp only []
 obtain ⟨d,hd⟩ := dc (s.L v)
 have KH := Kept.mk (fun W => dc_Has hd z (by omega) (by omega) W)
 have hdi := hd.info
 have hb1 := hv.1
 have hb2 := hv.2
 have hNl := World.block_lt_of_cell? w _ hN
 have HS : Hid (∀ W : World,(w.alloc (.cells #[.int .i64 v,.int .i64 z] 203)).grownBy W none → (W.cell? ⟨N,0,none⟩ = some (.pointer (some ⟨X.b,0,none⟩)) ∧ W.cell? ⟨X.b,4,none⟩ = some (.slice (some ⟨X.gl,0,none⟩) K.vars.length K.vars.length) ∧ W.cell? ⟨w.heap.size,0,none⟩ = some (.int .i64 v) ∧ W.cell? ⟨w.heap.size,1,none⟩ = some (.int .i64 z) ∧ W.rangeAt X.gl (v.toNat * 32) d)) := fun W hg => by
  have g := (World.grownBy_alloc w (.cells #[.int .i64 v,.int .i64 z] 203) none).trans hg
  have hA := h.grown g
  have hB := (hg.block w.heap.size (by simp) (by simp)).trans (heap_alloc_new w _)
  exact ⟨g.cell hN (by simp),hA.f4,cell_of hB 0 _ rfl,cell_of hB 1 _ rfl,by rw [hd.is];exact (hA.leftAt hv).1⟩
 clear h hd hv hN
 go_enter Tryz.func173,Tryz.ntmps173
 go_wp2
 refine wp_region_held_drew (S := (fun W => W.cell? ⟨N,0,none⟩ = some (.pointer (some ⟨X.b,0,none⟩)) ∧ W.cell? ⟨X.b,4,none⟩ = some (.slice (some ⟨X.gl,0,none⟩) K.vars.length K.vars.length) ∧ W.cell? ⟨w.heap.size,0,none⟩ = some (.int .i64 v) ∧ W.cell? ⟨w.heap.size,1,none⟩ = some (.int .i64 z) ∧ W.rangeAt X.gl (v.toNat * 32) d)) (by kernel_rfl) ?_ (fun hHeld => ?_)
 ·exact HS.out _ (grown_drew' _ _)
 apply tqW 0 4 hHeld
 ·(intro w hSw;(try dsimp only at hSw);go_simp;try with_reducible rfl)
 (try simp only [Act.put,arS,arZ,arN])
 apply tqW 1 5 hHeld
 ·(intro w hSw;(try dsimp only at hSw);go_simp;try with_reducible rfl)
 (try simp only [Act.put,arS,arZ,arN])
 apply tqW 2 6 hHeld
 ·(intro w hSw;(try dsimp only at hSw);go_simp;try with_reducible rfl)
 (try simp only [Act.put,arS,arZ,arN])
 apply tqW 3 7 hHeld
 ·(intro w hSw;(try dsimp only at hSw);go_simp;try with_reducible rfl)
 (try simp only [Act.put,arS,arZ,arN])
 apply tqW 4 8 hHeld
 ·(intro w hSw;(try dsimp only at hSw);go_simp;try with_reducible rfl)
 (try simp only [Act.put,arS,arZ,arN])
 apply tqW 5 9 hHeld
 ·(intro w hSw;(try dsimp only at hSw);go_simp;try with_reducible rfl)
 (try simp only [Act.put,arS,arZ,arN])
 apply tqW 6 10 hHeld
 ·(intro w hSw;(try dsimp only at hSw);go_simp;try with_reducible rfl)
 (try simp only [Act.put,arS,arZ,arN])
 refine tkH (i := 7) (v := .agg (d).toArray) 11 rfl rfl (by kernel_rfl) (fun _ _ _ h => h) (yieldsIf_load_mid (by rfl) _ _ rfl _ _ rfl (d) _ (fun w hSw => hSw.2.2.2.2) dUnder rfl hdi) hHeld ?_
 (try simp only [Act.put,arS,arZ,arN])
 apply tqW 8 12 hHeld
 ·(intro w hSw;(try dsimp only at hSw);go_simp;try with_reducible rfl)
 (try simp only [Act.put,arS,arZ,arN])
 apply tqW 9 13 hHeld
 ·(intro w hSw;(try dsimp only at hSw);go_simp;try with_reducible rfl)
 (try simp only [Act.put,arS,arZ,arN])
 refine wpAnyH_ready (rs := [10]) (by kernel_rfl) (by simp) ?_
 refine AllReadyH.cons rfl (fun K hK => ?_) AllReadyH.nil
 go_simp
 go_wp2_with ((go_at_call 169;refine (KH.get _).mono ?_;rintro e w2 ⟨rfl,hg2⟩))
 refine hK.out _ _ ?_ (fun hHeld => ?_)
 ·exact HS.out _ ((grown_drew' _ _).trans hg2)
 clear hK K
 (try simp only [Act.put,arS,arZ,arN])
 apply tqW 11 3 hHeld
 ·(intro w hSw;(try dsimp only at hSw);go_simp;try with_reducible rfl)
 (try simp only [Act.put,arS,arZ,arN])
 refine wpAnyH_done (by kernel_rfl) ?_ _
 go_wp2
 go_ret
 exact ⟨rfl,((World.grownBy_alloc _ _ _).trans (grown_drew' _ _)).trans hg2⟩
def ixI (p : Int × Int → Bool) (l : List (Int × Int)) : Int := match l.findIdx? p with | some i => (i : Int) | none => -1
theorem ix_at {p : Int × Int → Bool} {l : List (Int × Int)} {i : Nat} {a : Int × Int} (hno : ∀ j b,j < i → l[j]? = some b → p b = false) (ha : l[i]? = some a) (hp : p a = true) : ixI p l = i := by
 have : l.findIdx? p = some i := by
  rw [List.findIdx?_eq_some_iff_getElem]
  have hi := (List.getElem?_eq_some_iff.1 ha).1
  refine ⟨hi,?_,fun j hj => ?_⟩
  ·rw [(List.getElem?_eq_some_iff.1 ha).2];exact hp
  ·have := hno j _ hj (List.getElem?_eq_getElem (by omega))
   simpa using this
 unfold ixI;rw [this]
theorem ix_none {p : Int × Int → Bool} {l : List (Int × Int)} (hno : ∀ j b,j < l.length → l[j]? = some b → p b = false) : ixI p l = -1 := by
 have : l.findIdx? p = none := by
  rw [List.findIdx?_eq_none_iff]
  intro x hx
  obtain ⟨j,hj,rfl⟩ := List.mem_iff_getElem.1 hx
  exact hno j _ hj (List.getElem?_eq_getElem hj)
 unfold ixI;rw [this]
theorem ix_may {p : Int × Int → Bool} {gt ct : Nat} {l : List (Int × Int)} (hT : RowIn w (.slice (some ⟨gt,0,none⟩) l.length ct) gt ct prCell l) (hll : l.length ≤ 3000) {N : Nat} (KF : ∀ a ∈ l,∀ W : World,w.grownBy W none → Calls Tryz.prog 173 #[litV a,.pointer (some ⟨N,0,none⟩)] W fun e W' => e = .returned (.bool (p a)) ∧ W.grownBy W' none) : Calls Tryz.prog 174 #[.slice (some ⟨gt,0,none⟩) l.length ct,.func (.func 173) #[] #[.pointer (some ⟨N,0,none⟩)]] w fun e w' => e = .returned (.int .i64 (ixI p l)) ∧ w.grownBy w' none := by
 have HT := hide hT
 have HKF := Kept.mk KF
 have hgt := hT.lt
 clear hT KF
 go_enter Tryz.func174,Tryz.ntmps174
 go_wp2
 go_loopw [8] (fun vi wr => ∃ i : Nat,i ≤ l.length ∧ vi = .int .i64 i ∧ (∀ j b,j < i → l[j]? = some b → p b = false) ∧ w.grownBy wr none) (fun vi _ => l.length - (intOf vi).toNat)
 case atStart => exact ⟨0,Nat.zero_le _,rfl,fun j b hj => absurd hj (Nat.not_lt_zero j),grown_refl _ _⟩
 case round =>
  obtain ⟨i,hi,rfl,hno,hgr⟩ := hrel
  have HNO := hide hno
  clear hno
  by_cases hlt : i < l.length
  ·obtain ⟨a,ha⟩ : ∃ a,l[i]? = some a := ⟨l[i],List.getElem?_eq_getElem hlt⟩
   have hR := HT.out.kept hgr (by simp)
   have k0 : wr.cell? ⟨gt,i * 2,none⟩ = some (.int .i64 a.1) := hR.at (sz := 2) (fun _ => rfl) ha 0 _ rfl
   have k1 : wr.cell? ⟨gt,i * 2 + 1,none⟩ = some (.int .i64 a.2) := hR.at (sz := 2) (fun _ => rfl) ha 1 _ rfl
   have K1 := Kept.mk (HKF.get a (List.mem_of_getElem? ha) wr hgr)
   unfold litV at K1
   have hlt3 : (i : Int) < l.length := by omega
   have h03 : (0 : Int) ≤ i := by omega
   have HGR := hide hgr
   have HA := hide ha
   clear hR hgr ha
   cases hp : p a with
   | true =>
    rw [hp] at K1
    have HE : Hid (ixI p l = i) := ix_at HNO.out HA.out hp
    go_wp2_with (first | (go_at_call 173;refine K1.get.mono ?_;rintro e w1 ⟨rfl,hg1⟩))
    go_ret
    rw [HE.out]
    exact ⟨rfl,HGR.out.trans hg1⟩
   | false =>
    rw [hp] at K1
    have HE : Hid (∀ j b,j < i + 1 → l[j]? = some b → p b = false) := fun j b hj hb => by
     by_cases e : j = i
     ·subst e;rw [HA.out] at hb;cases hb;exact hp
     ·exact HNO.out j b (by omega) hb
    go_wp2_with (first | (go_at_call 173;refine K1.get.mono ?_;rintro e w1 ⟨rfl,hg1⟩))
    go_roundw
    case rel => exact ⟨i + 1,by omega,by go_num,HE.out,HGR.out.trans hg1⟩
    case measure => simp [intOf];omega
  ·obtain rfl : i = l.length := by omega
   have HE : Hid (ixI p l = -1) := ix_none HNO.out
   go_wp2
   go_ret
   rw [HE.out]
   exact ⟨rfl,hgr⟩
theorem ix_oth {p : Int × Int → Bool} {gt ct : Nat} {l : List (Int × Int)} (hT : RowIn w (.slice (some ⟨gt,0,none⟩) l.length ct) gt ct prCell l) (hll : l.length ≤ 3000) {B6 B5 : Nat} (KF : ∀ a ∈ l,∀ W : World,w.grownBy W none → Calls Tryz.prog 176 #[litV a,.pointer (some ⟨B6,0,none⟩),.pointer (some ⟨B5,0,none⟩)] W fun e W' => e = .returned (.bool (p a)) ∧ W.grownBy W' none) : Calls Tryz.prog 174 #[.slice (some ⟨gt,0,none⟩) l.length ct,.func (.func 176) #[] #[.pointer (some ⟨B6,0,none⟩),.pointer (some ⟨B5,0,none⟩)]] w fun e w' => e = .returned (.int .i64 (ixI p l)) ∧ w.grownBy w' none := by
 have HT := hide hT
 have HKF := Kept.mk KF
 have hgt := hT.lt
 clear hT KF
 go_enter Tryz.func174,Tryz.ntmps174
 go_wp2
 go_loopw [8] (fun vi wr => ∃ i : Nat,i ≤ l.length ∧ vi = .int .i64 i ∧ (∀ j b,j < i → l[j]? = some b → p b = false) ∧ w.grownBy wr none) (fun vi _ => l.length - (intOf vi).toNat)
 case atStart => exact ⟨0,Nat.zero_le _,rfl,fun j b hj => absurd hj (Nat.not_lt_zero j),grown_refl _ _⟩
 case round =>
  obtain ⟨i,hi,rfl,hno,hgr⟩ := hrel
  have HNO := hide hno
  clear hno
  by_cases hlt : i < l.length
  ·obtain ⟨a,ha⟩ : ∃ a,l[i]? = some a := ⟨l[i],List.getElem?_eq_getElem hlt⟩
   have hR := HT.out.kept hgr (by simp)
   have k0 : wr.cell? ⟨gt,i * 2,none⟩ = some (.int .i64 a.1) := hR.at (sz := 2) (fun _ => rfl) ha 0 _ rfl
   have k1 : wr.cell? ⟨gt,i * 2 + 1,none⟩ = some (.int .i64 a.2) := hR.at (sz := 2) (fun _ => rfl) ha 1 _ rfl
   have K1 := Kept.mk (HKF.get a (List.mem_of_getElem? ha) wr hgr)
   unfold litV at K1
   have hlt3 : (i : Int) < l.length := by omega
   have h03 : (0 : Int) ≤ i := by omega
   have HGR := hide hgr
   have HA := hide ha
   clear hR hgr ha
   cases hp : p a with
   | true =>
    rw [hp] at K1
    have HE : Hid (ixI p l = i) := ix_at HNO.out HA.out hp
    go_wp2_with (first | (go_at_call 176;refine K1.get.mono ?_;rintro e w1 ⟨rfl,hg1⟩))
    go_ret
    rw [HE.out]
    exact ⟨rfl,HGR.out.trans hg1⟩
   | false =>
    rw [hp] at K1
    have HE : Hid (∀ j b,j < i + 1 → l[j]? = some b → p b = false) := fun j b hj hb => by
     by_cases e : j = i
     ·subst e;rw [HA.out] at hb;cases hb;exact hp
     ·exact HNO.out j b (by omega) hb
    go_wp2_with (first | (go_at_call 176;refine K1.get.mono ?_;rintro e w1 ⟨rfl,hg1⟩))
    go_roundw
    case rel => exact ⟨i + 1,by omega,by go_num,HE.out,HGR.out.trans hg1⟩
    case measure => simp [intOf];omega
  ·obtain rfl : i = l.length := by omega
   have HE : Hid (ixI p l = -1) := ix_none HNO.out
   go_wp2
   go_ret
   rw [HE.out]
   exact ⟨rfl,hgr⟩
theorem ix_any (p : Int × Int → Bool) (l : List (Int × Int)) : decide (0 ≤ ixI p l) = l.any p := by
 unfold ixI
 cases e : l.findIdx? p with
 | none =>
  rw [List.findIdx?_eq_none_iff] at e
  have : l.any p = false := by rw [List.any_eq_false];intro x hx;simp [e x hx]
  rw [this];rfl
 | some i =>
  obtain ⟨h1,h2,_⟩ := List.findIdx?_eq_some_iff_getElem.1 e
  have : l.any p = true := List.any_eq_true.2 ⟨_,List.getElem_mem h1,by simpa using h2⟩
  rw [this]
  simp
theorem sc_other (h : SAt w0 w X K s vT vS) (hK : KOk K) (a f : Int × Int) (hv : PlOk K.vars.length a.1) (ha : a.2 = 0 ∨ a.2 = 1) {N B5 B6 : Nat} (hN : w.cell? ⟨N,0,none⟩ = some (.pointer (some ⟨X.b,0,none⟩))) (h5 : w.cell? ⟨B5,0,none⟩ = some (.func (.func 173) #[] #[.pointer (some ⟨N,0,none⟩)])) (h6 : w.cell? ⟨B6,0,none⟩ = some (.int .i64 f.1)) (h6' : w.cell? ⟨B6,1,none⟩ = some (.int .i64 f.2)) : Calls Tryz.prog 176 #[litV a,.pointer (some ⟨B6,0,none⟩),.pointer (some ⟨B5,0,none⟩)] w fun e w' => e = .returned (.bool (decide (a ≠ f) && mayS s a)) ∧ w.grownBy w' none := by
 obtain ⟨R,hR⟩ : ∃ R,(decide (a ≠ f) && mayS s a) = R := ⟨_,rfl⟩
 rw [hR]
 have HR : Hid ((decide (a ≠ f) && mayS s a) = R) := hR
 have g := World.grownBy_alloc w (.cells #[.int .i64 a.1,.int .i64 a.2] 203) none
 have KM := Kept.mk (sc_mayBe (h.grown g) hK a hv ha (g.cell hN (by simp)))
 have q5 := g.cell h5 (by simp)
 have q6 := g.cell h6 (by simp)
 have q6' := g.cell h6' (by simp)
 have hHB := heap_alloc_new w (.cells #[.int .i64 a.1,.int .i64 a.2] 203)
 have b0 := cell_of hHB 0 _ rfl
 have b1 := cell_of hHB 1 _ rfl
 unfold litV at *
 clear h hv ha hN h5 h6 h6' hR g hHB
 by_cases c1 : a.1 = f.1
 ·by_cases c2 : a.2 = f.2
  ·have hR2 : R = false := by
    rw [← HR.out]
    have : a = f := Prod.ext c1 c2
    simp [this]
   have c1' : (a.1 == f.1) = true := by simpa using c1
   have c2' : (a.2 == f.2) = true := by simpa using c2
   clear c1 c2
   go_enter Tryz.func176,Tryz.ntmps176
   go_wp2
   go_ret
   rw [hR2]
   exact ⟨rfl,World.grownBy_alloc _ _ _⟩
  ·have hR2 : R = mayS s a := by
    rw [← HR.out]
    have : a ≠ f := fun e => c2 (by rw [e])
    simp [this]
   have c1' : (a.1 == f.1) = true := by simpa using c1
   have c2' : (a.2 == f.2) = false := by simpa using c2
   rw [← hR2] at KM
   clear c1 c2 hR2
   go_enter Tryz.func176,Tryz.ntmps176
   go_wp2_with (first | (go_at_call 173;refine KM.get.mono ?_;rintro e w1 ⟨rfl,hg1⟩))
   go_ret
   exact ⟨rfl,(World.grownBy_alloc _ _ _).trans hg1⟩
 ·have hR2 : R = mayS s a := by
   rw [← HR.out]
   have : a ≠ f := fun e => c1 (by rw [e])
   simp [this]
  have c1' : (a.1 == f.1) = false := by simpa using c1
  rw [← hR2] at KM
  clear c1 hR2
  go_enter Tryz.func176,Tryz.ntmps176
  go_wp2_with (first | (go_at_call 173;refine KM.get.mono ?_;rintro e w1 ⟨rfl,hg1⟩))
  go_ret
  exact ⟨rfl,(World.grownBy_alloc _ _ _).trans hg1⟩
theorem ct_oth {p : Int × Int → Bool} {gt ct : Nat} {l : List (Int × Int)} (hT : RowIn w (.slice (some ⟨gt,0,none⟩) l.length ct) gt ct prCell l) (hll : l.length ≤ 3000) {B6 B5 : Nat} (KF : ∀ a ∈ l,∀ W : World,w.grownBy W none → Calls Tryz.prog 176 #[litV a,.pointer (some ⟨B6,0,none⟩),.pointer (some ⟨B5,0,none⟩)] W fun e W' => e = .returned (.bool (p a)) ∧ W.grownBy W' none) : Calls Tryz.prog 175 #[.slice (some ⟨gt,0,none⟩) l.length ct,.func (.func 176) #[] #[.pointer (some ⟨B6,0,none⟩),.pointer (some ⟨B5,0,none⟩)]] w fun e w' => e = .returned (.bool (l.any p)) ∧ w.grownBy w' none := by
 have K1 := Kept.mk (ix_oth hT hll KF)
 have HA := hide (ix_any p l)
 clear hT KF
 generalize l.any p = B at *
 generalize ixI p l = J at *
 go_enter Tryz.func175,Tryz.ntmps175
 go_wp2_with (first | (go_at_call 174;refine K1.get.mono ?_;rintro e w1 ⟨rfl,hg1⟩))
 go_ret
 rw [← HA.out]
 exact ⟨rfl,hg1⟩
end
section
set_option maxHeartbeats 8000000
set_option maxRecDepth 100000
variable {w0 w w' w'' : World} {X : SL} {K : SK} {s : SS} {vT vS : Value}
theorem take_inv (hK : KOk K) {a : Int} : ∀ (vs : List Int) {s : SS},SOk K s → TB s → (∀ v ∈ vs,PlOk K.vars.length v) → SOk K (takeS K a vs s).2 ∧ TB (takeS K a vs s).2 := by
 intro vs
 induction vs with
 | nil => intro s hs hT _;exact ⟨hs,hT⟩
 | cons v vs ih =>
  intro s hs hT hv
  have hvp := hv v (by simp)
  have q1 := (keep_ok hK hs hvp (D := subD (s.L v) (bitV a)) sub_sub).1.ok hs
  have q2 := keep_tb hK hs hvp (D := subD (s.L v) (bitV a)) sub_sub hT
  rw [takeS]
  split
  ·simp only []
   split
   ·exact ih q1 q2 (fun u hu => hv u (by simp [hu]))
   ·exact ⟨q1,q2⟩
  ·exact ih hs hT (fun u hu => hv u (by simp [hu]))
theorem diff_inv (hK : KOk K) {vars : List Int} (hv : ∀ v ∈ vars,PlOk K.vars.length v) : ∀ (is : List Nat) {s : SS},SOk K s → TB s → SOk K (diffF K vars is s).2 ∧ TB (diffF K vars is s).2 := by
 intro is
 induction is with
 | nil => intro s hs hT;exact ⟨hs,hT⟩
 | cons i is ih =>
  intro s hs hT
  have t1 : ∀ (a : Int) {s : SS},SOk K s → TB s → SOk K (takeS K a (vars.take i) s).2 ∧ TB (takeS K a (vars.take i) s).2 := fun a {s} h1 h2 => take_inv hK _ h1 h2 (fun u hu => hv u (List.mem_of_mem_take hu))
  have t2 : ∀ (a : Int) {s : SS},SOk K s → TB s → SOk K (takeS K a (vars.drop (i + 1)) s).2 ∧ TB (takeS K a (vars.drop (i + 1)) s).2 := fun a {s} h1 h2 => take_inv hK _ h1 h2 (fun u hu => hv u (List.mem_of_mem_drop hu))
  rw [diffF]
  simp only []
  have a1 := t1 (s.val (vars.getD i 0)) hs hT
  have a2 := t2 ((takeS K (s.val (vars.getD i 0)) (vars.take i) s).2.val (vars.getD i 0)) a1.1 a1.2
  split
  ·split
   ·split
    ·exact ih a2.1 a2.2
    ·exact a2
   ·exact a1
  ·exact ih hs hT
theorem range_drop {n i : Nat} (h : i < n) : (List.range n).drop i = i :: (List.range n).drop (i + 1) := by
 rw [List.drop_eq_getElem_cons (by simpa using h)]
 simp
theorem XRow.tail {g cap : Nat} {l : List Int} {cells : Array Value} (h2 : w.heap[g]? = some (.cells cells 3 (0,0))) (h3 : ∀ (j : Nat) (x : Int),l[j]? = some x → cells[j]? = some (Value.int .i64 x)) (h4 : g ∉ X.own) {i : Nat} (hi : i < l.length) (hcap : l.length ≤ cap) {n : Nat} (hn : n = l.length - (i + 1)) : XRow X w (.slice (if cap = i + 1 then some ⟨g,0,none⟩ else some ⟨g,i + 1,none⟩) n (cap - (i + 1))) (l.drop (i + 1)) := by
 subst hn
 have hdl : (l.drop (i + 1)).length = l.length - (i + 1) := by simp
 by_cases c : cap = i + 1
 ·left
  refine ⟨List.eq_nil_of_length_eq_zero (by rw [hdl];omega),(if cap = i + 1 then some ⟨g,0,none⟩ else some ⟨g,i + 1,none⟩),cap - (i + 1),?_⟩
  rw [show l.length - (i + 1) = 0 by omega]
 ·right
  refine ⟨g,i + 1,cap - (i + 1),cells,by rw [if_neg c,hdl],h2,fun j x hx => ?_,h4⟩
  rw [List.getElem?_drop] at hx
  exact h3 _ _ hx
theorem XRow.head {g cap : Nat} {l : List Int} {cells : Array Value} (h2 : w.heap[g]? = some (.cells cells 3 (0,0))) (h3 : ∀ (j : Nat) (x : Int),l[j]? = some x → cells[j]? = some (Value.int .i64 x)) (h4 : g ∉ X.own) {i : Nat} (hi : i < l.length) : XRow X w (.slice (some ⟨g,0,none⟩) i cap) (l.take i) := by
 right
 refine ⟨g,0,cap,cells,by rw [List.length_take,Nat.min_eq_left (by omega)],h2,fun j x hx => ?_,h4⟩
 rw [Nat.zero_add]
 rw [List.getElem?_take] at hx
 split at hx
 ·exact h3 _ _ hx
 ·cases hx
def DfRel (w0 w : World) (X : SL) (K : SK) (l : List Int) (vS : Value) (R : Bool × SS) (vi : Value) (wr : World) : Prop :=
 ∃ (i : Nat) (s : SS) (vT : Value),i ≤ l.length ∧ vi = .int .i64 i ∧ SAt w0 wr X K s vT vS ∧ SOk K s ∧ TB s ∧ FrS X w wr ∧ diffF K l ((List.range l.length).drop i) s = R
theorem sc_drawDiff (h : SAt w0 w X K s vT vS) (hK : KOk K) (hs : SOk K s) (hT : TB s) {g cap : Nat} {l : List Int} {cells : Array Value} (h2 : w.heap[g]? = some (.cells cells 3 (0,0))) (h3 : ∀ (j : Nat) (x : Int),l[j]? = some x → cells[j]? = some (Value.int .i64 x)) (h4 : g ∉ X.own) (hcap : l.length ≤ cap) (hp : ∀ v ∈ l,PlOk K.vars.length v) (hll : l.length ≤ 3000) : Calls Tryz.prog 132 #[.pointer (some ⟨X.b,0,none⟩),.slice (some ⟨g,0,none⟩) l.length cap] w fun e w' => e = .returned (.bool (diffS K l s).1) ∧ (∃ vT',SAt w0 w' X K (diffS K l s).2 vT' vS) ∧ FrS X w w' := by
 obtain ⟨R,hR⟩ : ∃ R,diffS K l s = R := ⟨_,rfl⟩
 rw [hR]
 have HST : Hid (DfRel w0 w X K l vS R (.int .i64 0) w) := ⟨0,s,vT,Nat.zero_le _,rfl,h,hs,hT,FrS.refl X w,hR⟩
 have H2 := hide h2
 have H3 := hide h3
 have H4 := hide h4
 have HP := hide hp
 have HK := hide hK
 clear h hs hT h2 h3 h4 hp hK hR
 go_enter Tryz.func132,Tryz.ntmps132
 go_wp2
 go_loopw [9] (fun vi wr => DfRel w0 w X K l vS R vi wr) (fun vi _ => l.length - (intOf vi).toNat)
 case atStart => exact HST.out
 case round =>
  clear HST
  obtain ⟨i,si,vTi,hi,rfl,hat,hso,htb,hfr,hres⟩ := hrel
  by_cases hlt2 : i < l.length
  ·obtain ⟨v,ha⟩ : ∃ v,l[i]? = some v := ⟨l[i],List.getElem?_eq_getElem hlt2⟩
   have hgd : l.getD i 0 = v := by rw [List.getD_eq_getElem?_getD,ha];rfl
   have h2r := hfr.block g _ H2.out H4.out (fun _ _ e => by cases e) (fun _ _ e => by cases e)
   have k0 : wr.cell? ⟨g,i,none⟩ = some (.int .i64 v) := cell_of h2r _ _ (H3.out i v ha)
   have hpv := HP.out v (List.mem_of_getElem? ha)
   have hb1 := hpv.1
   have hb2 := hpv.2
   have hlt3 : (i : Int) < l.length := by omega
   have h03 : (0 : Int) ≤ i := by omega
   have hic : (i : Int) ≤ cap := by omega
   have hic2 : (i : Int) + 1 ≤ l.length := by omega
   have hcap3 : (l.length : Int) ≤ cap := by omega
   have hwi : IntKind.i64.wrap ((i : Int) + 1) = (i : Int) + 1 := wrap_s64 (by omega) (by omega)
   have hi01 : (0 : Int) ≤ (i : Int) + 1 := by omega
   have c6 := hat.f6
   have c5 := hat.f5
   obtain ⟨kv,kf,_,_⟩ := hat.valAt hpv
   by_cases cf : si.fixed v = true
   ·rw [cf] at kf
    obtain ⟨a1,a2⟩ := oneV_bd (hso.L_lt HK.out v)
    have HRES : Hid ((let k := takeS K (si.val v) (l.take i) si;if k.1 then (let k2 := takeS K (k.2.val v) (l.drop (i + 1)) k.2;if k2.1 then diffF K l ((List.range l.length).drop (i + 1)) k2.2 else k2) else k) = R) := by
     rw [Hid,← hres,range_drop hlt2,diffF,hgd]
     simp only []
     rw [if_pos cf]
    have hin := take_inv HK.out (a := si.val v) (l.take i) hso htb (fun u hu => HP.out u (List.mem_of_mem_take hu))
    have K1 := Kept.mk (sc_take (hat.grown (grown_drew' wr none)) HK.out hso htb (a := si.val v) a1 a2 (XRow.head (cap := cap) (w := wr.drew) h2r H3.out H4.out hlt2) (fun u hu => HP.out u (List.mem_of_mem_take hu)) (by have := List.length_take_le i l;omega))
    generalize hk0 : takeS K (si.val v) (l.take i) si = k at *
    have HH2 := hide h2r
    have HFR := hide hfr
    clear hat hso htb hfr hres hk0 h2r
    have HPV := hide hpv
    obtain ⟨z1,z2⟩ := oneV_bd (hin.1.L_lt HK.out v)
    cases hk : k.1 with
    | false =>
     rw [hk] at K1
     have HR2 : Hid (k = R) := by rw [Hid,← HRES.out];simp only [hk];rfl
     have hk1 : R.1 = false := by rw [← HR2.out];exact hk
     clear hk HRES hin
     go_wp2
     refine wp_region_any (by kernel_rfl) ?_
     try (change wpAny _ _ _ _ _ _ _ (World.drew _))
     apply tqZ 0 14
     ·(intro w;go_simp;try with_reducible rfl)
     (try simp only [Act.put,arS,arZ,arN])
     apply tqZ 1 15
     ·(intro w;go_simp;try with_reducible rfl)
     (try simp only [Act.put,arS,arZ,arN])
     apply tqZ 2 16
     ·(intro w;go_simp;try with_reducible rfl)
     (try simp only [Act.put,arS,arZ,arN])
     apply tqZ 4 18
     ·(intro w;go_simp;try with_reducible rfl)
     (try simp only [Act.put,arS,arZ,arN])
     refine wpAny_ready (rs := [3]) (by kernel_rfl) (by simp) ?_
     refine AllReady.cons rfl (fun K hK => ?_) AllReady.nil
     go_simp
     refine hK _ _ ?_
     clear hK K
     apply tqZ 5 19
     ·(intro w;go_simp;try with_reducible rfl)
     (try simp only [Act.put,arS,arZ,arN])
     refine wpAny_ready (rs := [6]) (by kernel_rfl) (by simp) ?_
     refine AllReady.cons rfl (fun K hK => ?_) AllReady.nil
     go_simp
     refine hK _ _ ?_
     clear hK K
     apply tqZ 7 21
     ·(intro w;go_simp;try with_reducible rfl)
     (try simp only [Act.put,arS,arZ,arN])
     apply tqZ 8 22
     ·(intro w;go_simp;try with_reducible rfl)
     (try simp only [Act.put,arS,arZ,arN])
     apply tqZ 9 23
     ·(intro w;go_simp;try with_reducible rfl)
     (try simp only [Act.put,arS,arZ,arN])
     apply tqZ 10 24
     ·(intro w;go_simp;try with_reducible rfl)
     (try simp only [Act.put,arS,arZ,arN])
     apply tqZ 11 25
     ·(intro w;go_simp;try with_reducible rfl)
     (try simp only [Act.put,arS,arZ,arN])
     apply tqZ 13 27
     ·(intro w;go_simp;try with_reducible rfl)
     (try simp only [Act.put,arS,arZ,arN])
     apply tqZ 16 30
     ·(intro w;go_simp;try with_reducible rfl)
     (try simp only [Act.put,arS,arZ,arN])
     apply tqZ 17 31
     ·(intro w;go_simp;try with_reducible rfl)
     (try simp only [Act.put,arS,arZ,arN])
     apply tqZ 18 32
     ·(intro w;go_simp;try with_reducible rfl)
     (try simp only [Act.put,arS,arZ,arN])
     refine wpAny_ready (rs := [12]) (by kernel_rfl) (by simp) ?_
     refine AllReady.cons rfl (fun K hK => ?_) AllReady.nil
     go_simp
     refine hK _ _ ?_
     clear hK K
     apply tqZ 14 28
     ·(intro w;go_simp;try with_reducible rfl)
     (try simp only [Act.put,arS,arZ,arN])
     refine wpAny_ready (rs := [15]) (by kernel_rfl) (by simp) ?_
     refine AllReady.cons rfl (fun K hK => ?_) AllReady.nil
     go_simp
     refine hK _ _ ?_
     clear hK K
     refine wpAny_ready (rs := [19]) (by kernel_rfl) (by simp) ?_
     refine AllReady.cons rfl (fun K hK => ?_) AllReady.nil
     go_simp
     go_wp2_with ((go_at_call 172;refine K1.get.mono ?_;rintro e w2 ⟨rfl,⟨vT2,hs2⟩,hf2⟩;have c52 := hs2.f5;have kv2 := (hs2.valAt HPV.out).1))
     apply tqZ 20 34
     ·(intro w;go_simp;try with_reducible rfl)
     (try simp only [Act.put,arS,arZ,arN])
     refine tkY (i := 21) (v := undef) 35 rfl rfl (by kernel_rfl) (fun _ _ _ h => h) (Or.inr ⟨by kernel_rfl,rfl⟩) ?_
     (try simp only [Act.put,arS,arZ,arN])
     refine tkY (i := 22) (v := undef) 36 rfl rfl (by kernel_rfl) (fun _ _ _ h => h) (Or.inr ⟨by kernel_rfl,rfl⟩) ?_
     (try simp only [Act.put,arS,arZ,arN])
     refine tkY (i := 23) (v := undef) 37 rfl rfl (by kernel_rfl) (fun _ _ _ h => h) (Or.inr ⟨by kernel_rfl,rfl⟩) ?_
     (try simp only [Act.put,arS,arZ,arN])
     refine tkY (i := 24) (v := undef) 38 rfl rfl (by kernel_rfl) (fun _ _ _ h => h) (Or.inr ⟨by kernel_rfl,rfl⟩) ?_
     (try simp only [Act.put,arS,arZ,arN])
     refine tkY (i := 25) (v := undef) 39 rfl rfl (by kernel_rfl) (fun _ _ _ h => h) (Or.inr ⟨by kernel_rfl,rfl⟩) ?_
     (try simp only [Act.put,arS,arZ,arN])
     refine tkY (i := 26) (v := undef) 40 rfl rfl (by kernel_rfl) (fun _ _ _ h => h) (Or.inr ⟨by kernel_rfl,rfl⟩) ?_
     (try simp only [Act.put,arS,arZ,arN])
     refine tkY (i := 27) (v := undef) 41 rfl rfl (by kernel_rfl) (fun _ _ _ h => h) (Or.inr ⟨by kernel_rfl,rfl⟩) ?_
     (try simp only [Act.put,arS,arZ,arN])
     refine tkY (i := 28) (v := undef) 42 rfl rfl (by kernel_rfl) (fun _ _ _ h => h) (Or.inr ⟨by kernel_rfl,rfl⟩) ?_
     (try simp only [Act.put,arS,arZ,arN])
     refine tkY (i := 29) (v := undef) 43 rfl rfl (by kernel_rfl) (fun _ _ _ h => h) (Or.inr ⟨by kernel_rfl,rfl⟩) ?_
     (try simp only [Act.put,arS,arZ,arN])
     refine tkY (i := 30) (v := undef) 44 rfl rfl (by kernel_rfl) (fun _ _ _ h => h) (Or.inr ⟨by kernel_rfl,rfl⟩) ?_
     (try simp only [Act.put,arS,arZ,arN])
     refine tkY (i := 31) (v := undef) 45 rfl rfl (by kernel_rfl) (fun _ _ _ h => h) (Or.inr ⟨by kernel_rfl,rfl⟩) ?_
     (try simp only [Act.put,arS,arZ,arN])
     refine tkY (i := 32) (v := undef) 46 rfl rfl (by kernel_rfl) (fun _ _ _ h => h) (Or.inr ⟨by kernel_rfl,rfl⟩) ?_
     (try simp only [Act.put,arS,arZ,arN])
     refine tkY (i := 33) (v := undef) 47 rfl rfl (by kernel_rfl) (fun _ _ _ h => h) (Or.inr ⟨by kernel_rfl,rfl⟩) ?_
     (try simp only [Act.put,arS,arZ,arN])
     apply tqZ 34 48
     ·(intro w;go_simp;try with_reducible rfl)
     (try simp only [Act.put,arS,arZ,arN])
     apply tqZ 35 49
     ·(intro w;go_simp;try with_reducible rfl)
     (try simp only [Act.put,arS,arZ,arN])
     apply tqZ 36 50
     ·(intro w;go_simp;try with_reducible rfl)
     (try simp only [Act.put,arS,arZ,arN])
     refine wpAny_done (by kernel_rfl) ?_ _
     go_wp2
     go_ret
     rw [hk1,← HR2.out]
     exact ⟨rfl,⟨_,hs2⟩,HFR.out.trans ((FrS.grown (grown_drew' _ _)).trans hf2)⟩
    | true =>
     rw [hk] at K1
     have HR2 : Hid ((let k2 := takeS K (k.2.val v) (l.drop (i + 1)) k.2;if k2.1 then diffF K l ((List.range l.length).drop (i + 1)) k2.2 else k2) = R) := by rw [Hid,← HRES.out];simp only [hk,if_true]
     have K2 := Kept.mk (fun {W : World} {vT2 : Value} (q : SAt w0 W X K k.2 vT2 vS) (hb : W.heap[g]? = some (.cells cells 3 (0,0))) => sc_take q HK.out hin.1 hin.2 (a := k.2.val v) z1 z2 (XRow.tail hb H3.out H4.out hlt2 hcap rfl) (fun u hu => HP.out u (List.mem_of_mem_drop hu)) (by simp;omega))
     obtain ⟨A,hA⟩ : ∃ A,(if cap = i + 1 then some (⟨g,0,none⟩ : Addr) else some ⟨g,i + 1,none⟩) = A := ⟨_,rfl⟩
     rw [hA] at K2
     have hin2 := take_inv HK.out (a := k.2.val v) (l.drop (i + 1)) hin.1 hin.2 (fun u hu => HP.out u (List.mem_of_mem_drop hu))
     have HI2 := hide hin2
     clear hk HRES hin hin2
     go_wp2
     refine wp_region_any (by kernel_rfl) ?_
     try (change wpAny _ _ _ _ _ _ _ (World.drew _))
     apply tqZ 0 14
     ·(intro w;go_simp;try with_reducible rfl)
     (try simp only [Act.put,arS,arZ,arN])
     apply tqZ 1 15
     ·(intro w;go_simp;try with_reducible rfl)
     (try simp only [Act.put,arS,arZ,arN])
     apply tqZ 2 16
     ·(intro w;go_simp;try with_reducible rfl)
     (try simp only [Act.put,arS,arZ,arN])
     apply tqZ 4 18
     ·(intro w;go_simp;try with_reducible rfl)
     (try simp only [Act.put,arS,arZ,arN])
     refine wpAny_ready (rs := [3]) (by kernel_rfl) (by simp) ?_
     refine AllReady.cons rfl (fun K hK => ?_) AllReady.nil
     go_simp
     refine hK _ _ ?_
     clear hK K
     apply tqZ 5 19
     ·(intro w;go_simp;try with_reducible rfl)
     (try simp only [Act.put,arS,arZ,arN])
     refine wpAny_ready (rs := [6]) (by kernel_rfl) (by simp) ?_
     refine AllReady.cons rfl (fun K hK => ?_) AllReady.nil
     go_simp
     refine hK _ _ ?_
     clear hK K
     apply tqZ 7 21
     ·(intro w;go_simp;try with_reducible rfl)
     (try simp only [Act.put,arS,arZ,arN])
     apply tqZ 8 22
     ·(intro w;go_simp;try with_reducible rfl)
     (try simp only [Act.put,arS,arZ,arN])
     apply tqZ 9 23
     ·(intro w;go_simp;try with_reducible rfl)
     (try simp only [Act.put,arS,arZ,arN])
     apply tqZ 10 24
     ·(intro w;go_simp;try with_reducible rfl)
     (try simp only [Act.put,arS,arZ,arN])
     apply tqZ 11 25
     ·(intro w;go_simp;try with_reducible rfl)
     (try simp only [Act.put,arS,arZ,arN])
     apply tqZ 13 27
     ·(intro w;go_simp;try with_reducible rfl)
     (try simp only [Act.put,arS,arZ,arN])
     apply tqZ 16 30
     ·(intro w;go_simp;try with_reducible rfl)
     (try simp only [Act.put,arS,arZ,arN])
     apply tqZ 17 31
     ·(intro w;go_simp;try with_reducible rfl)
     (try simp only [Act.put,arS,arZ,arN])
     apply tqZ 18 32
     ·(intro w;go_simp;try with_reducible rfl)
     (try simp only [Act.put,arS,arZ,arN])
     refine wpAny_ready (rs := [12]) (by kernel_rfl) (by simp) ?_
     refine AllReady.cons rfl (fun K hK => ?_) AllReady.nil
     go_simp
     refine hK _ _ ?_
     clear hK K
     apply tqZ 14 28
     ·(intro w;go_simp;try with_reducible rfl)
     (try simp only [Act.put,arS,arZ,arN])
     refine wpAny_ready (rs := [15]) (by kernel_rfl) (by simp) ?_
     refine AllReady.cons rfl (fun K hK => ?_) AllReady.nil
     go_simp
     refine hK _ _ ?_
     clear hK K
     refine wpAny_ready (rs := [19]) (by kernel_rfl) (by simp) ?_
     refine AllReady.cons rfl (fun K hK => ?_) AllReady.nil
     go_simp
     go_wp2_with ((go_at_call 172;refine K1.get.mono ?_;rintro e w2 ⟨rfl,⟨vT2,hs2⟩,hf2⟩;have c52 := hs2.f5;have kv2 := (hs2.valAt HPV.out).1))
     apply tqZ 20 34
     ·(intro w;go_simp;try with_reducible rfl)
     (try simp only [Act.put,arS,arZ,arN])
     apply tqZ 21 35
     ·(intro w;go_simp;try with_reducible rfl)
     (try simp only [Act.put,arS,arZ,arN])
     apply tqZ 22 36
     ·(intro w;go_simp;try with_reducible rfl)
     (try simp only [Act.put,arS,arZ,arN])
     apply tqZ 23 37
     ·(intro w;go_simp;try with_reducible rfl)
     (try simp only [Act.put,arS,arZ,arN])
     apply tqZ 24 38
     ·(intro w;go_simp;try with_reducible rfl)
     (try simp only [Act.put,arS,arZ,arN])
     apply tqZ 26 40
     ·(intro w;go_simp;try with_reducible rfl)
     (try simp only [Act.put,arS,arZ,arN])
     apply tqZ 29 43
     ·(intro w;go_simp;try with_reducible rfl)
     (try simp only [Act.put,arS,arZ,arN])
     apply tqZ 30 44
     ·(intro w;go_simp;try with_reducible rfl)
     (try simp only [Act.put,arS,arZ,arN])
     apply tqZ 31 45
     ·(intro w;go_simp;try with_reducible rfl)
     (try simp only [Act.put,arS,arZ,arN])
     apply tqZ 32 46
     ·(intro w;go_simp;try with_reducible rfl)
     (try simp only [Act.put,arS,arZ,arN])
     refine wpAny_ready (rs := [25]) (by kernel_rfl) (by simp) ?_
     refine AllReady.cons rfl (fun K hK => ?_) AllReady.nil
     go_simp
     refine hK _ _ ?_
     clear hK K
     apply tqZ 27 41
     ·(intro w;go_simp;try with_reducible rfl)
     (try simp only [Act.put,arS,arZ,arN])
     refine wpAny_ready (rs := [28]) (by kernel_rfl) (by simp) ?_
     refine AllReady.cons rfl (fun K hK => ?_) AllReady.nil
     go_simp
     refine hK _ _ ?_
     clear hK K
     cases hk2 : (takeS K (k.2.val v) (l.drop (i + 1)) k.2).1 with
     | false =>
      have HR3 : Hid (takeS K (k.2.val v) (l.drop (i + 1)) k.2 = R) := by rw [Hid,← HR2.out];simp only [hk2];rfl
      have hk1 : R.1 = false := by rw [← HR3.out];exact hk2
      rw [hk2] at K2
      clear hk2 HR2
      refine wpAny_ready (rs := [33]) (by kernel_rfl) (by simp) ?_
      refine AllReady.cons rfl (fun K hK => ?_) AllReady.nil
      go_simp
      go_wp2_with ((go_at_call 172;refine (K2.get hs2 (hf2.block g _ HH2.out H4.out (fun _ _ e => by cases e) (fun _ _ e => by cases e))).mono ?_;rintro e w3 ⟨rfl,hs3,hf3⟩))
      apply tqZ 34 48
      ·(intro w;go_simp;try with_reducible rfl)
      (try simp only [Act.put,arS,arZ,arN])
      apply tqZ 35 49
      ·(intro w;go_simp;try with_reducible rfl)
      (try simp only [Act.put,arS,arZ,arN])
      apply tqZ 36 50
      ·(intro w;go_simp;try with_reducible rfl)
      (try simp only [Act.put,arS,arZ,arN])
      refine wpAny_done (by kernel_rfl) ?_ _
      go_wp2
      go_ret
      rw [hk1,← HR3.out]
      exact ⟨rfl,hs3,HFR.out.trans (((FrS.grown (grown_drew' _ _)).trans hf2).trans hf3)⟩
     | true =>
      have HR3 : Hid (diffF K l ((List.range l.length).drop (i + 1)) (takeS K (k.2.val v) (l.drop (i + 1)) k.2).2 = R) := by rw [Hid,← HR2.out];simp only [hk2,if_true]
      rw [hk2] at K2
      clear hk2 HR2
      refine wpAny_ready (rs := [33]) (by kernel_rfl) (by simp) ?_
      refine AllReady.cons rfl (fun K hK => ?_) AllReady.nil
      go_simp
      go_wp2_with ((go_at_call 172;refine (K2.get hs2 (hf2.block g _ HH2.out H4.out (fun _ _ e => by cases e) (fun _ _ e => by cases e))).mono ?_;rintro e w3 ⟨rfl,hs3,hf3⟩))
      apply tqZ 34 48
      ·(intro w;go_simp;try with_reducible rfl)
      (try simp only [Act.put,arS,arZ,arN])
      apply tqZ 35 49
      ·(intro w;go_simp;try with_reducible rfl)
      (try simp only [Act.put,arS,arZ,arN])
      apply tqZ 36 50
      ·(intro w;go_simp;try with_reducible rfl)
      (try simp only [Act.put,arS,arZ,arN])
      refine wpAny_done (by kernel_rfl) ?_ _
      go_wp2
      go_roundw
      case rel =>
       obtain ⟨vT3,hs3⟩ := hs3
       exact ⟨i + 1,_,vT3,by omega,by go_num,hs3,HI2.out.1,HI2.out.2,HFR.out.trans (((FrS.grown (grown_drew' _ _)).trans hf2).trans hf3),HR3.out⟩
      case measure => simp [intOf];omega
   ·have cf' : si.fixed v = false := by simpa using cf
    rw [cf'] at kf
    have HR2 : Hid (diffF K l ((List.range l.length).drop (i + 1)) si = R) := by
     rw [Hid,← hres,range_drop hlt2,diffF,hgd]
     simp only []
     rw [if_neg cf]
    have HAT := hide (hat.grown (grown_drew' wr none))
    have HSI : Hid (SOk K si ∧ TB si) := ⟨hso,htb⟩
    have HFR := hide hfr
    clear hat hso htb hfr hres h2r cf cf'
    go_wp2
    refine wp_region_any (by kernel_rfl) ?_
    try (change wpAny _ _ _ _ _ _ _ (World.drew _))
    apply tqZ 0 14
    ·(intro w;go_simp;try with_reducible rfl)
    (try simp only [Act.put,arS,arZ,arN])
    apply tqZ 1 15
    ·(intro w;go_simp;try with_reducible rfl)
    (try simp only [Act.put,arS,arZ,arN])
    apply tqZ 2 16
    ·(intro w;go_simp;try with_reducible rfl)
    (try simp only [Act.put,arS,arZ,arN])
    apply tqZ 4 18
    ·(intro w;go_simp;try with_reducible rfl)
    (try simp only [Act.put,arS,arZ,arN])
    refine wpAny_ready (rs := [3]) (by kernel_rfl) (by simp) ?_
    refine AllReady.cons rfl (fun K hK => ?_) AllReady.nil
    go_simp
    refine hK _ _ ?_
    clear hK K
    apply tqZ 5 19
    ·(intro w;go_simp;try with_reducible rfl)
    (try simp only [Act.put,arS,arZ,arN])
    refine wpAny_ready (rs := [6]) (by kernel_rfl) (by simp) ?_
    refine AllReady.cons rfl (fun K hK => ?_) AllReady.nil
    go_simp
    refine hK _ _ ?_
    clear hK K
    apply tqZ 7 21
    ·(intro w;go_simp;try with_reducible rfl)
    (try simp only [Act.put,arS,arZ,arN])
    refine tkY (i := 8) (v := undef) 22 rfl rfl (by kernel_rfl) (fun _ _ _ h => h) (Or.inr ⟨by kernel_rfl,rfl⟩) ?_
    (try simp only [Act.put,arS,arZ,arN])
    refine tkY (i := 9) (v := undef) 23 rfl rfl (by kernel_rfl) (fun _ _ _ h => h) (Or.inr ⟨by kernel_rfl,rfl⟩) ?_
    (try simp only [Act.put,arS,arZ,arN])
    refine tkY (i := 10) (v := undef) 24 rfl rfl (by kernel_rfl) (fun _ _ _ h => h) (Or.inr ⟨by kernel_rfl,rfl⟩) ?_
    (try simp only [Act.put,arS,arZ,arN])
    refine tkY (i := 11) (v := undef) 25 rfl rfl (by kernel_rfl) (fun _ _ _ h => h) (Or.inr ⟨by kernel_rfl,rfl⟩) ?_
    (try simp only [Act.put,arS,arZ,arN])
    refine tkY (i := 12) (v := undef) 26 rfl rfl (by kernel_rfl) (fun _ _ _ h => h) (Or.inr ⟨by kernel_rfl,rfl⟩) ?_
    (try simp only [Act.put,arS,arZ,arN])
    refine tkY (i := 13) (v := undef) 27 rfl rfl (by kernel_rfl) (fun _ _ _ h => h) (Or.inr ⟨by kernel_rfl,rfl⟩) ?_
    (try simp only [Act.put,arS,arZ,arN])
    refine tkY (i := 14) (v := undef) 28 rfl rfl (by kernel_rfl) (fun _ _ _ h => h) (Or.inr ⟨by kernel_rfl,rfl⟩) ?_
    (try simp only [Act.put,arS,arZ,arN])
    refine tkY (i := 15) (v := undef) 29 rfl rfl (by kernel_rfl) (fun _ _ _ h => h) (Or.inr ⟨by kernel_rfl,rfl⟩) ?_
    (try simp only [Act.put,arS,arZ,arN])
    refine tkY (i := 16) (v := undef) 30 rfl rfl (by kernel_rfl) (fun _ _ _ h => h) (Or.inr ⟨by kernel_rfl,rfl⟩) ?_
    (try simp only [Act.put,arS,arZ,arN])
    refine tkY (i := 17) (v := undef) 31 rfl rfl (by kernel_rfl) (fun _ _ _ h => h) (Or.inr ⟨by kernel_rfl,rfl⟩) ?_
    (try simp only [Act.put,arS,arZ,arN])
    refine tkY (i := 18) (v := undef) 32 rfl rfl (by kernel_rfl) (fun _ _ _ h => h) (Or.inr ⟨by kernel_rfl,rfl⟩) ?_
    (try simp only [Act.put,arS,arZ,arN])
    refine tkY (i := 19) (v := undef) 33 rfl rfl (by kernel_rfl) (fun _ _ _ h => h) (Or.inr ⟨by kernel_rfl,rfl⟩) ?_
    (try simp only [Act.put,arS,arZ,arN])
    refine tkY (i := 20) (v := undef) 34 rfl rfl (by kernel_rfl) (fun _ _ _ h => h) (Or.inr ⟨by kernel_rfl,rfl⟩) ?_
    (try simp only [Act.put,arS,arZ,arN])
    refine tkY (i := 21) (v := undef) 35 rfl rfl (by kernel_rfl) (fun _ _ _ h => h) (Or.inr ⟨by kernel_rfl,rfl⟩) ?_
    (try simp only [Act.put,arS,arZ,arN])
    refine tkY (i := 22) (v := undef) 36 rfl rfl (by kernel_rfl) (fun _ _ _ h => h) (Or.inr ⟨by kernel_rfl,rfl⟩) ?_
    (try simp only [Act.put,arS,arZ,arN])
    refine tkY (i := 23) (v := undef) 37 rfl rfl (by kernel_rfl) (fun _ _ _ h => h) (Or.inr ⟨by kernel_rfl,rfl⟩) ?_
    (try simp only [Act.put,arS,arZ,arN])
    refine tkY (i := 24) (v := undef) 38 rfl rfl (by kernel_rfl) (fun _ _ _ h => h) (Or.inr ⟨by kernel_rfl,rfl⟩) ?_
    (try simp only [Act.put,arS,arZ,arN])
    refine tkY (i := 25) (v := undef) 39 rfl rfl (by kernel_rfl) (fun _ _ _ h => h) (Or.inr ⟨by kernel_rfl,rfl⟩) ?_
    (try simp only [Act.put,arS,arZ,arN])
    refine tkY (i := 26) (v := undef) 40 rfl rfl (by kernel_rfl) (fun _ _ _ h => h) (Or.inr ⟨by kernel_rfl,rfl⟩) ?_
    (try simp only [Act.put,arS,arZ,arN])
    refine tkY (i := 27) (v := undef) 41 rfl rfl (by kernel_rfl) (fun _ _ _ h => h) (Or.inr ⟨by kernel_rfl,rfl⟩) ?_
    (try simp only [Act.put,arS,arZ,arN])
    refine tkY (i := 28) (v := undef) 42 rfl rfl (by kernel_rfl) (fun _ _ _ h => h) (Or.inr ⟨by kernel_rfl,rfl⟩) ?_
    (try simp only [Act.put,arS,arZ,arN])
    refine tkY (i := 29) (v := undef) 43 rfl rfl (by kernel_rfl) (fun _ _ _ h => h) (Or.inr ⟨by kernel_rfl,rfl⟩) ?_
    (try simp only [Act.put,arS,arZ,arN])
    refine tkY (i := 30) (v := undef) 44 rfl rfl (by kernel_rfl) (fun _ _ _ h => h) (Or.inr ⟨by kernel_rfl,rfl⟩) ?_
    (try simp only [Act.put,arS,arZ,arN])
    refine tkY (i := 31) (v := undef) 45 rfl rfl (by kernel_rfl) (fun _ _ _ h => h) (Or.inr ⟨by kernel_rfl,rfl⟩) ?_
    (try simp only [Act.put,arS,arZ,arN])
    refine tkY (i := 32) (v := undef) 46 rfl rfl (by kernel_rfl) (fun _ _ _ h => h) (Or.inr ⟨by kernel_rfl,rfl⟩) ?_
    (try simp only [Act.put,arS,arZ,arN])
    refine tkY (i := 33) (v := undef) 47 rfl rfl (by kernel_rfl) (fun _ _ _ h => h) (Or.inr ⟨by kernel_rfl,rfl⟩) ?_
    (try simp only [Act.put,arS,arZ,arN])
    refine tkY (i := 34) (v := undef) 48 rfl rfl (by kernel_rfl) (fun _ _ _ h => h) (Or.inr ⟨by kernel_rfl,rfl⟩) ?_
    (try simp only [Act.put,arS,arZ,arN])
    refine tkY (i := 35) (v := undef) 49 rfl rfl (by kernel_rfl) (fun _ _ _ h => h) (Or.inr ⟨by kernel_rfl,rfl⟩) ?_
    (try simp only [Act.put,arS,arZ,arN])
    apply tqZ 36 50
    ·(intro w;go_simp;try with_reducible rfl)
    (try simp only [Act.put,arS,arZ,arN])
    refine wpAny_done (by kernel_rfl) ?_ _
    go_wp2
    go_roundw
    case rel => exact ⟨i + 1,si,vTi,by omega,by go_num,HAT.out,HSI.out.1,HSI.out.2,HFR.out.trans (FrS.grown (grown_drew' _ _)),HR2.out⟩
    case measure => simp [intOf];omega
  ·obtain rfl : i = l.length := by omega
   have e : R = (true,si) := by rw [← hres,List.drop_of_length_le (by simp)];rfl
   subst e
   go_wp2
   go_ret
   exact ⟨rfl,⟨_,hat⟩,hfr⟩
end
end Go.Proofs.YthpcbbnabnlanaaGreatDoor
