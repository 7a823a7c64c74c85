import Derived.Test.YthpcbbnabnlanaaGreatDoorM14
import Derived.Test.YthpcbbnabnlanaaGreatDoorM18
import Derived.Deep.DeepMust
namespace Go.Proofs.YthpcbbnabnlanaaGreatDoor
open Go.RowKit
set_option linter.unusedVariables false
set_option linter.unusedSimpArgs false
section
set_option maxHeartbeats 2000000
set_option maxRecDepth 100000
attribute [local go_sem ↓] Go.wp_at_zero Go.wp_at_succ
structure PLit where
 neg : Option PTok
 name : PTok
def LitAt (toks : List PTok) (i : Nat) (l : PLit) (j : Nat) : Prop :=
 match l.neg with
 | some b => toks[i]? = some b ∧ b.s.toList = [33] ∧ toks[i + 1]? = some l.name ∧ j = i + 2
 | none => toks[i]? = some l.name ∧ l.name.s.toList ≠ [33] ∧ j = i + 1
def SerLit (toks : List PTok) : Nat → List PLit → Nat → Prop
 | i,[],j => i = j
 | i,l :: ls,j => (∃ c,toks[i]? = some c ∧ c.s.toList = [44]) ∧ ∃ m,LitAt toks (i + 1) l m ∧ SerLit toks m ls j
def PLit.head (l : PLit) : PTok := l.neg.getD l.name
def litSt (vars : List PVar) (k : Nat) (l : PLit) (st : FSt) : FSt := trSt vars l.name (flt (decide (8 < (k : Int))) 6 l.head.line st)
def litsSt (vars : List PVar) : Nat → List PLit → FSt → FSt
 | _,[],st => st
 | k,n :: ns,st => litsSt vars (k + 1) ns (litSt vars k n st)
def litPart (vars : List PVar) (l : PLit) : Int × Int := (if l.neg.isSome then 1 else 0,varX vars l.name.s)
def orSt (vars : List PVar) (nr : Nat) (kw : PTok) (ls : List PLit) (st : FSt) : FSt := litsSt vars 1 ls (flt (decide (16 ≤ (nr : Int))) 6 kw.line st)
theorem LitAt.lt {toks : List PTok} {i : Nat} {l : PLit} {j : Nat} (h : LitAt toks i l j) : i < j ∧ toks[i]? = some l.head := by
 unfold LitAt at h
 unfold PLit.head
 split at h
 ·rename_i b hb;rw [hb];exact ⟨by omega,h.1⟩
 ·rename_i hb;rw [hb];exact ⟨by omega,h.1⟩
theorem SerLit.le {toks : List PTok} : ∀ {ns : List PLit} {i j : Nat},SerLit toks i ns j → i ≤ j
 | [],i,j,h => by have : i = j := h;omega
 | n :: ns,i,j,h => by
  obtain ⟨m,h1,h2⟩ := h.2
  have := SerLit.le h2
  have := h1.lt.1
  omega
def OrRel (toks : List PTok) (vars : List PVar) (bw bm br : Nat) (B' i j : Nat) (ST : FSt) (PARTS : List (Int × Int)) (C : Nat → Option Value) (w0 : World) (n : Nat) (vk : Value) (wr : World) : Prop :=
 ∃ (k p : Nat) (rem : List PLit) (done : List (Int × Int)) (kd ln : Int) (vL : Value),n = rem.length ∧ vk = .int .i64 k ∧ k ≤ p + 1 ∧ done.length ≤ p ∧ p ≤ j ∧ i ≤ p ∧
  ((k = 1 ∧ ∃ n0 ns m,rem = n0 :: ns ∧ LitAt toks p n0 m ∧ SerLit toks m ns j) ∨ (1 < k ∧ SerLit toks p rem j)) ∧
  Hid (litsSt vars k rem (kd,ln) = ST) ∧ Hid (done ++ rem.map (litPart vars) = PARTS) ∧ B' ≤ wr.heap.size ∧ (wr.cell? ⟨br,2,none⟩ = some (.string ⟨#[]⟩) ∧ wr.cell? ⟨br,3,none⟩ = some (.int .i64 0)) ∧ Rl wr br B' vL done C ∧ But [bw] w0 wr ∧ Wk wr bw bm p kd ln
structure Bp (w : World) (bp : Nat) (a b : Int) : Prop where
 c0 : w.cell? ⟨bp,0,none⟩ = some (.int .i64 a)
 c1 : w.cell? ⟨bp,1,none⟩ = some (.int .i64 b)
 f0 : w.frozen? ⟨bp,0,none⟩ = false
 f1 : w.frozen? ⟨bp,1,none⟩ = false
 lt : bp < w.heap.size
theorem Bp.far {w w' : World} {bp : Nat} {a b : Int} {row : Option Nat} (h : Bp w bp a b) (hg : w.grownBy w' row) (hne : some bp ≠ row) : Bp w' bp a b :=
 ⟨hg.cell h.c0 hne,hg.cell h.c1 hne,(hg.frozen_far ⟨bp,0,none⟩ h.lt hne).trans h.f0,(hg.frozen_far ⟨bp,1,none⟩ h.lt hne).trans h.f1,Nat.lt_of_lt_of_le h.lt hg.size⟩
theorem Bp.set0 {w : World} {bp : Nat} {a b : Int} (h : Bp w bp a b) (x : Int) : Bp (w.setCell ⟨bp,0,none⟩ (.int .i64 x)) bp x b :=
 ⟨World.cell?_setCell_same _ _ _ h.c0,(cell_set _ _ _ _ _ _ (by omega)).trans h.c1,(World.frozen?_setCell _ _ _ _).trans h.f0,(World.frozen?_setCell _ _ _ _).trans h.f1,by simpa [World.setCell] using h.lt⟩
theorem Bp.set1 {w : World} {bp : Nat} {a b : Int} (h : Bp w bp a b) (x : Int) : Bp (w.setCell ⟨bp,1,none⟩ (.int .i64 x)) bp a x :=
 ⟨(cell_set _ _ _ _ _ _ (by omega)).trans h.c0,World.cell?_setCell_same _ _ _ h.c1,(World.frozen?_setCell _ _ _ _).trans h.f0,(World.frozen?_setCell _ _ _ _).trans h.f1,by simpa [World.setCell] using h.lt⟩
theorem bp_new (w : World) (t : TypeId) : Bp (w.alloc (.cells #[.int .i64 0,.int .i64 0] t)) w.heap.size 0 0 := by
 have e1 := heap_alloc_new w (.cells #[.int .i64 0,.int .i64 0] t)
 refine ⟨?_,?_,?_,?_,by simp⟩
 ·simp only [World.cell?,e1];rfl
 ·simp only [World.cell?,e1];rfl
 ·simp only [World.frozen?,e1];rfl
 ·simp only [World.frozen?,e1];rfl
structure Oc (toks : List PTok) (bw bm br B' bp : Nat) (vL : Value) (done : List (Int × Int)) (C : Nat → Option Value) (w0 : World) (a b : Int) (p : Nat) (kd ln : Int) (w : World) : Prop where
 hB : B' ≤ w.heap.size
 h2 : w.cell? ⟨br,2,none⟩ = some (.string ⟨#[]⟩)
 h3 : w.cell? ⟨br,3,none⟩ = some (.int .i64 0)
 rl : Rl w br B' vL done C
 bt : But [bw] w0 w
 wk : Wk w bw bm p kd ln
 bp' : Bp w bp a b
 n1 : bp ≠ bw
 n2 : bp ≠ br
 n3 : vL.ownBlock ≠ some bp
 n4 : br ≠ bw
 n5 : bw < B'
 n6 : w0.heap.size ≤ bp
 n7 : w0.heap.size ≤ B'
 n8 : w0.heap.size ≤ br
section
variable {toks : List PTok} {bw bm br B' bp : Nat} {vL : Value} {done : List (Int × Int)} {C : Nat → Option Value} {w0 : World} {a b : Int} {p : Nat} {kd ln : Int} {w w' : World}
theorem Oc.walk (h : Oc toks bw bm br B' bp vL done C w0 a b p kd ln w) (hg : w.grownBy w' (some bw)) {p' : Nat} {kd' ln' : Int} (hW : Wk w' bw bm p' kd' ln') : Oc toks bw bm br B' bp vL done C w0 a b p' kd' ln' w' :=
 ⟨Nat.le_trans h.hB hg.size,hg.cell h.h2 (by simpa using h.n4),hg.cell h.h3 (by simpa using h.n4),h.rl.grown hg (fun q e => by cases e;exact ⟨fun e => h.n4 e.symm,fun e => by have := (h.rl.own.lt _ e).1;have := h.n5;omega⟩),h.bt.walk hg,hW,h.bp'.far hg (by simpa using h.n1),
  h.n1,h.n2,h.n3,h.n4,h.n5,h.n6,h.n7,h.n8⟩
theorem Oc.setI (h : Oc toks bw bm br B' bp vL done C w0 a b p kd ln w) (p' : Nat) : Oc toks bw bm br B' bp vL done C w0 a b p' kd ln (w.setCell ⟨bw,1,none⟩ (.int .i64 p')) := h.walk (grown_set _ _ _ _) (h.wk.setI _)
theorem Oc.part (h : Oc toks bw bm br B' bp vL done C w0 a b p kd ln w) {a' b' : Int} {o : Nat} {u : Value} (hb : Bp (w.setCell ⟨bp,o,none⟩ u) bp a' b') : Oc toks bw bm br B' bp vL done C w0 a' b' p kd ln (w.setCell ⟨bp,o,none⟩ u) :=
 have hg := grown_set w bp o u
 ⟨Nat.le_trans h.hB hg.size,hg.cell h.h2 (by simpa using fun e : br = bp => h.n2 e.symm),hg.cell h.h3 (by simpa using fun e : br = bp => h.n2 e.symm),h.rl.grown hg (fun q e => by cases e;exact ⟨h.n2,h.n3⟩),h.bt.set (.inr h.n6) _ _,h.wk.far hg (by simpa using fun e : bw = bp => h.n1 e.symm),hb,
  h.n1,h.n2,h.n3,h.n4,h.n5,h.n6,h.n7,h.n8⟩
theorem Oc.push (h : Oc toks bw bm br B' bp vL done C w0 a b p kd ln w) {wA : World} {v' : Value} {o : Obj} (hown : wA.ownsRow B' 183 2 v' (done.length + 1) (partCells done ++ [.int .i64 a,.int .i64 b])) (hg : (w.alloc o).grownBy wA vL.ownBlock) : B' ≤ (wA.setCell ⟨br,1,none⟩ v').heap.size ∧ ((wA.setCell ⟨br,1,none⟩ v').cell? ⟨br,2,none⟩ = some (.string ⟨#[]⟩) ∧ (wA.setCell ⟨br,1,none⟩ v').cell? ⟨br,3,none⟩ = some (.int .i64 0)) ∧ Rl (wA.setCell ⟨br,1,none⟩ v') br B' v' (done ++ [(a,b)]) C ∧
   But [bw] w0 (wA.setCell ⟨br,1,none⟩ v') ∧ Wk (wA.setCell ⟨br,1,none⟩ v') bw bm p kd ln := by
 have g0 : w.grownBy (w.alloc o) none := World.grownBy_alloc w o none
 have n1 : some br ≠ vL.ownBlock := fun e => by have := (h.rl.own.lt _ e.symm).1;have := h.rl.brB;omega
 have nb : some bw ≠ vL.ownBlock := fun e => by have := (h.rl.own.lt _ e.symm).1;have := h.n5;omega
 have hB := h.hB
 have s0 := g0.size
 have s1 := hg.size
 refine ⟨by simp only [World.setCell,Array.size_modify];omega,⟨(cell_set _ _ _ _ _ _ (by omega)).trans (hg.cell (g0.cell h.h2 (by simp)) n1),(cell_set _ _ _ _ _ _ (by omega)).trans (hg.cell (g0.cell h.h3 (by simp)) n1)⟩,h.rl.push hown hg,?_,((h.wk.far g0 (by simp)).far hg nb).far (grown_set wA br 1 v') (by simpa using fun e : bw = br => h.n4 e.symm)⟩
 exact ((h.bt.alloc o).grown hg (fun k e => .inr (by have := (h.rl.own.lt _ e).1;have := h.n7;omega))).set (.inr h.n8) _ _
end
theorem ref_stOr (w0 : World) (bw bm gt capt B : Nat) (toks : List PTok) (vv vl vr : Value) (vars : List PVar) (lists : List PLst) (rules : List PRul) (i j m0 : Nat) (kind line : Int) (kw : PTok) (n0 : PLit) (ns : List PLit) (h : Md w0 bw bm gt capt B toks vv vl vr vars lists rules i kind line) (hk : toks[i]? = some kw) (hks : kw.s = ⟨#[111,114]⟩) (hn0 : LitAt toks (i + 1) n0 m0) (hns : SerLit toks m0 ns j) (hj : j ≤ toks.length) (hend : (peekS toks j).toList ≠ [44]) : Calls Tryz.prog 54 #[.pointer (some ⟨bw,0,none⟩)] w0 fun e w' => e = .returned (.tuple #[]) ∧ ButB B [bw,bm] w0 w' ∧
   ∃ vr' pv,Md w' bw bm gt capt B toks vv vl vr' vars lists (rules ++ [⟨111,(n0 :: ns).map (litPart vars),pv,⟨#[]⟩,0,0,0,0⟩]) j (orSt vars rules.length kw (n0 :: ns) (kind,line)).1 (orSt vars rules.length kw (n0 :: ns) (kind,line)).2 := by
 obtain ⟨ip,hip,hy0,hy1,hy2⟩ := info_parts infoPart
 have hij := hns.le
 have hij2 := hn0.lt.1
 have HSER := hide (And.intro hn0 hns)
 have HEND := hide hend
 clear hn0 hns hend
 obtain ⟨i0,hi0,hz0,hz1,hz2⟩ := info_parts infoRule
 obtain ⟨k1,k2,k3⟩ := at_tok hk
 have hn := h.hn
 have c0 := h.wk.c0
 have H0 := hide h
 have hC0 := h.ctx (by omega)
 have HFB := hide (fun b (hb : w0.heap.size ≤ b) => hC0.far_new hb)
 have hpk := ctx_peek hC0 (by omega)
 rw [k1,hks] at hpk
 have HPK := hide hpk
 have HK2 := hide k2
 clear hpk h hC0 k1 k2 hk hks
 go_enter Tryz.func54,Tryz.ntmps54
 go_wp2_with fail
 refine (unhide HPK).mono ?_
 rintro e w1 ⟨rfl,hg1,hC1⟩
 have HB1 := hide (But.of_grown (S := [bw]) hg1 (fun k e => by cases e;simp))
 have M1 := H0.out.but HB1.out hC1.wk (Nat.le_refl _)
 obtain ⟨ar,capr,hvr⟩ := shape_of M1.orr
 obtain ⟨d0,d1,_,_,e1,_,_,_⟩ := hC1.wk
 have m3 := M1.m3
 have hne := M1.ne1
 rw [hvr] at m3
 have HVR := hide hvr
 have hset := fun W o u b' o' h => cell_set W bw o u b' o' h
 have hf1 := ctx_fault (M1.ctx (by omega)) k3 (decide (16 ≤ (rules.length : Int))) 6
 rw [HK2.out] at hf1
 have HF1 := hide hf1
 clear hg1 hC1 c0 HPK hvr M1 hf1
 go_wp2_with fail
 refine (unhide HF1).mono ?_
 rintro e w2 ⟨rfl,hg2,hC2⟩
 have HB2 := hide (HB1.out.walk hg2)
 have HW2 := hide hC2.wk
 have hlt2 := hC2.wk.lt
 clear d0 d1 e1 m3 HF1 HB1
 obtain ⟨d0,d1,_,_,e1,_,_,_⟩ := hC2.wk
 clear hg2 hC2
 go_wp2_with fail
 have HBa := hide ((HB2.out.set (k := bw) (.inl (by simp)) 1 (.int .i64 ((i : Int) + 1))).alloc (.cells #[.int .u8 (((ByteArray.mk #[111,114])[0].toNat : Int)),.slice none 0 0,.string ⟨#[]⟩,.int .i64 0,.int .i64 0,.int .i64 0,.int .i64 0] 176))
 have HWa := hide ((HW2.out.setI ((i : Int) + 1)).far (World.grownBy_alloc _ (.cells #[.int .u8 (((ByteArray.mk #[111,114])[0].toNat : Int)),.slice none 0 0,.string ⟨#[]⟩,.int .i64 0,.int .i64 0,.int .i64 0,.int .i64 0] 176) none) (by simp))
 have HRa := hide (br_new (w2.setCell ⟨bw,1,none⟩ (.int .i64 ((i : Int) + 1))) (((ByteArray.mk #[111,114])[0].toNat : Int)) 176)
 have hszc : (w2.setCell ⟨bw,1,none⟩ (.int .i64 ((i : Int) + 1))).heap.size = w2.heap.size := by simp [World.setCell]
 rw [hszc] at HRa
 have hge : w0.heap.size ≤ w2.heap.size := HB2.out.size
 have hne2 : (w2.heap.size : Nat) ≠ bw := by omega
 generalize ((w2.setCell ⟨bw,1,none⟩ (.int .i64 ((i : Int) + 1))).alloc (.cells #[.int .u8 (((ByteArray.mk #[111,114])[0].toNat : Int)),.slice none 0 0,.string ⟨#[]⟩,.int .i64 0,.int .i64 0,.int .i64 0,.int .i64 0] 176)) = wa at HBa HWa HRa ⊢
 clear hszc
 generalize w2.heap.size = br at hne2 hge HRa hlt2 ⊢
 clear d0 d1 e1 HW2 HB2
 have HF := hide (HFB.out br hge)
 have HSTART : Hid (OrRel toks vars bw bm br wa.heap.size i j (orSt vars rules.length kw (n0 :: ns) (kind,line)) ((n0 :: ns).map (litPart vars)) (fun q => wa.cell? ⟨br,q,none⟩) w0 (ns.length + 1) (.int .i64 1) wa) :=
  ⟨1,i + 1,n0 :: ns,[],_,_,_,rfl,rfl,by omega,by simp,by omega,by omega,.inl ⟨rfl,n0,ns,m0,rfl,HSER.out.1,HSER.out.2⟩,rfl,rfl,Nat.le_refl _,⟨HRa.out.c2,HRa.out.c3⟩,HRa.out.toRl rfl _ HRa.out.lt,HBa.out,HWa.out⟩
 have hBa : B ≤ wa.heap.size := by have := H0.out.hB;have := HBa.out.size;omega
 have hB0 : w0.heap.size ≤ wa.heap.size := HBa.out.size
 obtain ⟨B',hB'⟩ : ∃ b,wa.heap.size = b := ⟨_,rfl⟩
 obtain ⟨C,hC⟩ : ∃ c : Nat → Option Value,(fun q => wa.cell? ⟨br,q,none⟩) = c := ⟨_,rfl⟩
 rw [hB',hC] at HSTART
 rw [hB'] at hBa hB0
 have HCC := hide hC
 obtain ⟨ST,hSTd⟩ : ∃ s,orSt vars rules.length kw (n0 :: ns) (kind,line) = s := ⟨_,rfl⟩
 obtain ⟨PARTS,hPd⟩ : ∃ s,(n0 :: ns).map (litPart vars) = s := ⟨_,rfl⟩
 rw [hSTd,hPd] at HSTART
 have HRA := hide HRa.out
 have HFIN := hide (And.intro hSTd hPd)
 obtain ⟨N,hN⟩ : ∃ n,ns.length + 1 = n := ⟨_,rfl⟩
 rw [hN] at HSTART
 clear hC hSTd hPd hN HSER HRa HBa HWa hB'
 go_loopg [11] N (fun n vk wr => OrRel toks vars bw bm br B' i j ST PARTS C w0 n vk wr)
 case atStart => exact HSTART
 case round =>
  clear HSTART
  obtain ⟨k,p,rem,done,kd,ln,vL,rfl,rfl,hkp,hdl,hpj,hip0,hcase,hST,hPP,hBr,h23,hRl,hBut,hWk⟩ := hrel
  have HPI := hide hip0
  have H23 := hide h23
  clear h23
  have HBq0 := hide hBut
  have HWq0 := hide hWk
  have HRq0 := hide hRl
  clear hBut hWk hRl
  rcases hcase with ⟨rfl,l,ls',m,rfl,hnp,hser⟩ | ⟨hk1,hser⟩
  ·have hBq : B' ≤ wr.heap.size := hBr
   have HBq := HBq0
   have HWq := HWq0
   have HRq := HRq0
   have HQ23 := H23
   have HNP := hide (And.intro hnp hser)
   clear hnp hser HBq0 HWq0 HRq0
   go_wp2_with fail
   have Mq := H0.out.but (j := p) HBq.out HWq.out (by have := HPI.out;omega)
   obtain ⟨t1,t2,t3⟩ := at_tok HNP.out.1.lt.2
   have hf := ctx_fault (Mq.ctx (by omega)) t3 (false) 6
   rw [t2] at hf
   have HT1 := hide (And.intro t1 t2)
   clear Mq t1 t2
   refine hf.mono ?_
   rintro e wf ⟨rfl,hgf,hCf⟩
   have hbwB : bw < B' := by have := H0.out.hbw;omega
   have hRf := HRq.out.grown hgf (fun b e => by cases e;exact ⟨fun e => hne2 e.symm,fun e => by have := (HRq.out.own.lt _ e).1;omega⟩)
   have hBtf := HBq.out.walk hgf
   have g0 := World.grownBy_alloc wf (.cells #[.int .i64 0,.int .i64 0] 183) none
   have n0 : some br ≠ some bw := by simpa using hne2
   have hszf : w0.heap.size ≤ wf.heap.size := hBtf.size
   have hlf := hCf.wk.lt
   have HO1 : Hid (Oc toks bw bm br B' wf.heap.size vL done C w0 0 0 (p) _ _ (wf.alloc (.cells #[.int .i64 0,.int .i64 0] 183))) :=
    ⟨by have := hgf.size;simp;omega,g0.cell (hgf.cell HQ23.out.1 n0) (by simp),g0.cell (hgf.cell HQ23.out.2 n0) (by simp),hRf.grown g0 (fun b e => by cases e),hBtf.alloc _,hCf.wk.far g0 (by simp),bp_new _ _,
     by omega,by have := hRf.lt;omega,fun e => by have := (hRf.own.lt _ e).2;omega,hne2,hbwB,hszf,hB0,hge⟩
   clear hf hgf hCf hRf hBtf HBq HWq HRq HQ23 hszf hlf
   go_wp2_with fail
   generalize (wf.alloc (.cells #[.int .i64 0,.int .i64 0] 183)) = wg at HO1 ⊢
   generalize wf.heap.size = bp at HO1 ⊢
   clear g0
   have Mg := H0.out.but (j := p) HO1.out.bt HO1.out.wk (by have := HPI.out;omega)
   have hp := ctx_peek (Mg.ctx (by omega)) (by omega)
   rw [HT1.out.1] at hp
   refine hp.mono ?_
   rintro e wh ⟨rfl,hgh,hCh⟩
   have HO2 := hide (HO1.out.walk hgh hCh.wk)
   clear hp hgh hCh Mg HO1
   have hbpw : bp ≠ bw := HO2.out.n1
   obtain ⟨d0,d1,_,_,e1,_,_,_⟩ := HO2.out.wk
   obtain ⟨v0,v1,vf0,vf1,hvl⟩ := HO2.out.bp'
   have hset2 := fun W o u b' o' h => cell_set W bp o u b' o' h
   cases hng : l.neg with
   | some b =>
    have hA := HNP.out.1
    unfold LitAt at hA
    rw [hng] at hA
    simp only at hA
    obtain ⟨a1,a2,a3,a4⟩ := hA
    obtain rfl : m = p + 2 := a4
    have hhd : l.head = b := by unfold PLit.head;rw [hng];rfl
    have hq : (l.head.s.toList == [33]) = true := by rw [hhd];simpa using a2
    have HO3 := hide ((HO2.out.part (HO2.out.bp'.set0 1)).setI (p + 1))
    have HA3 := hide a3
    have HNG := hide hng
    clear a1 a2 a3 hhd hng HO2
    go_wp2_with fail
    rw [show ((p : Int) + 1) = ((p + 1 : Nat) : Int) by omega]
    generalize ((wh.setCell ⟨bp,0,none⟩ (.int .i64 1)).setCell ⟨bw,1,none⟩ (.int .i64 ((p + 1 : Nat) : Int))) = wi at HO3 ⊢
    clear d0 d1 e1 v0 v1 vf0 vf1 hvl hq
    obtain ⟨s1,s2,s3⟩ := at_tok HA3.out
    have Mi := H0.out.but (j := p + 1) HO3.out.bt HO3.out.wk (by have := HPI.out;omega)
    have hu := ctx_truth (Mi.ctx (by omega)) s3
    rw [s1,s2] at hu
    refine hu.mono ?_
    rintro e wk ⟨rfl,hgk,hCk⟩
    have hO4 := HO3.out.walk hgk hCk.wk
    obtain ⟨X,hX⟩ : ∃ x,varX vars l.name.s = x := ⟨_,rfl⟩
    rw [hX]
    have HX := hide hX
    have v0 := hO4.bp'.c0
    have v1 := hO4.bp'.c1
    have vf1 := hO4.bp'.f1
    have r1 := hO4.rl.c1
    have rf1 := hO4.rl.f1
    have hlr := hO4.rl.lt
    have hnbr : br ≠ bp := fun e => hO4.n2 e.symm
    have hnbr2 : bp ≠ br := hO4.n2
    have HO5 := hide (hO4.part (hO4.bp'.set1 X))
    have hszk : (wk.setCell ⟨bp,1,none⟩ (.int .i64 X)).heap.size = wk.heap.size := by simp [World.setCell]
    have HOWN := hide (HO5.out.rl.own.alloc (.cells #[.int .i64 (1),.int .i64 X] 183))
    have HNEWS : Hid (∀ jj u,[Value.int .i64 (1),.int .i64 X][jj]? = some u → ((wk.setCell ⟨bp,1,none⟩ (.int .i64 X)).alloc (.cells #[.int .i64 (1),.int .i64 X] 183)).cell? ((⟨wk.heap.size,0,none⟩ : Addr).add jj) = some u) := by
     have h1 := World.news_of_block (cs := #[.int .i64 (1),.int .i64 X]) (t := 183) (fr := (0,0)) (heap_alloc_new (wk.setCell ⟨bp,1,none⟩ (.int .i64 X)) (.cells #[.int .i64 (1),.int .i64 X] 183))
     rw [hszk] at h1
     exact h1
    have hBk : B' ≤ wk.heap.size := hO4.hB
    have HKP : Hid (∀ wA,((wk.setCell ⟨bp,1,none⟩ (.int .i64 X)).alloc (.cells #[.int .i64 (1),.int .i64 X] 183)).grownBy wA vL.ownBlock → wA.cell? ⟨br,1,none⟩ = some vL ∧ wA.frozen? ⟨br,1,none⟩ = false) := by
     intro wA hg
     have hR := HO5.out.rl
     have g0 := World.grownBy_alloc (wk.setCell ⟨bp,1,none⟩ (.int .i64 X)) (.cells #[.int .i64 (1),.int .i64 X] 183) none
     have n1 : some br ≠ vL.ownBlock := fun e => by have := (hR.own.lt _ e.symm).1;have := hR.brB;omega
     exact ⟨hg.cell (g0.cell hR.c1 (by simp)) n1,(hg.frozen_far ⟨br,1,none⟩ (Nat.lt_of_lt_of_le hR.lt g0.size) n1).trans ((g0.frozen_far ⟨br,1,none⟩ hR.lt (by simp)).trans hR.f1)⟩
    have hdn : done.length ≤ 2000 := by omega
    clear hu hgk hCk hO4 Mi s1 s2 hX HO3
    go_wp2_with (at_builtin;go_must (refine wpList_append_lies _ rfl _ _ 174 rfl B' 183 ip (.agg #[.int .i64 0,.int .i64 0]) 2 16 Tryz.underlying174 hip hy0 hy1 hy2 rfl (by decide) vL done.length (partCells done) rfl HOWN.out ⟨wk.heap.size,0,none⟩ 1 1 [.int .i64 (1),.int .i64 X] rfl rfl HNEWS.out (part_one _ _) (by decide) (by unfold maxLen;omega) (by omega) (by simp;omega) _ rfl ?_))
    intro gA capA wA hownA hgrowA hatA hltA
    obtain ⟨q1,q2⟩ := HKP.out wA hgrowA
    have hP := HO5.out.push hownA hgrowA
    have hle := HNP.out.2.le
    have HREL : Hid (OrRel toks vars bw bm br B' i j ST PARTS C w0 ls'.length (.int .i64 ((1 + 1 : Nat) : Int)) (wA.setCell ⟨br,1,none⟩ (.slice (some ⟨gA,0,none⟩) (done.length + 1) capA))) :=
     ⟨1 + 1,p + 2,ls',done ++ [(1,X)],_,_,_,rfl,rfl,by omega,by simp;omega,hle,by have := HPI.out;omega,.inr ⟨by omega,HNP.out.2⟩,hST.out,by unfold Hid;rw [← hPP.out,← HX.out];simp [litPart,HNG.out],hP.1,hP.2.1,hP.2.2.1,hP.2.2.2.1,hP.2.2.2.2⟩
    clear hP HO5 HOWN HNEWS HKP hownA hgrowA hatA hltA v0 v1 vf1 r1 rf1
    go_wp2
    go_roundg ls'.length
    case measure => simp
    case rel => first | exact HREL | (have h1 := HREL.out;simpa using h1)
   | none =>
    have hA := HNP.out.1
    unfold LitAt at hA
    rw [hng] at hA
    simp only at hA
    obtain ⟨a1,a2,a4⟩ := hA
    obtain rfl : m = p + 1 := a4
    have hhd : l.head = l.name := by unfold PLit.head;rw [hng];rfl
    have hq : (l.head.s.toList == [33]) = false := by rw [hhd];simpa using a2
    have HO3 := HO2
    have HA3 := hide a1
    have HNG := hide hng
    clear a1 a2 hhd hng HO2
    go_wp2_with fail
    generalize wh = wi at HO3 ⊢
    clear d0 d1 e1 v0 v1 vf0 vf1 hvl hq
    obtain ⟨s1,s2,s3⟩ := at_tok HA3.out
    have Mi := H0.out.but (j := p) HO3.out.bt HO3.out.wk (by have := HPI.out;omega)
    have hu := ctx_truth (Mi.ctx (by omega)) s3
    rw [s1,s2] at hu
    refine hu.mono ?_
    rintro e wk ⟨rfl,hgk,hCk⟩
    have hO4 := HO3.out.walk hgk hCk.wk
    obtain ⟨X,hX⟩ : ∃ x,varX vars l.name.s = x := ⟨_,rfl⟩
    rw [hX]
    have HX := hide hX
    have v0 := hO4.bp'.c0
    have v1 := hO4.bp'.c1
    have vf1 := hO4.bp'.f1
    have r1 := hO4.rl.c1
    have rf1 := hO4.rl.f1
    have hlr := hO4.rl.lt
    have hnbr : br ≠ bp := fun e => hO4.n2 e.symm
    have hnbr2 : bp ≠ br := hO4.n2
    have HO5 := hide (hO4.part (hO4.bp'.set1 X))
    have hszk : (wk.setCell ⟨bp,1,none⟩ (.int .i64 X)).heap.size = wk.heap.size := by simp [World.setCell]
    have HOWN := hide (HO5.out.rl.own.alloc (.cells #[.int .i64 (0),.int .i64 X] 183))
    have HNEWS : Hid (∀ jj u,[Value.int .i64 (0),.int .i64 X][jj]? = some u → ((wk.setCell ⟨bp,1,none⟩ (.int .i64 X)).alloc (.cells #[.int .i64 (0),.int .i64 X] 183)).cell? ((⟨wk.heap.size,0,none⟩ : Addr).add jj) = some u) := by
     have h1 := World.news_of_block (cs := #[.int .i64 (0),.int .i64 X]) (t := 183) (fr := (0,0)) (heap_alloc_new (wk.setCell ⟨bp,1,none⟩ (.int .i64 X)) (.cells #[.int .i64 (0),.int .i64 X] 183))
     rw [hszk] at h1
     exact h1
    have hBk : B' ≤ wk.heap.size := hO4.hB
    have HKP : Hid (∀ wA,((wk.setCell ⟨bp,1,none⟩ (.int .i64 X)).alloc (.cells #[.int .i64 (0),.int .i64 X] 183)).grownBy wA vL.ownBlock → wA.cell? ⟨br,1,none⟩ = some vL ∧ wA.frozen? ⟨br,1,none⟩ = false) := by
     intro wA hg
     have hR := HO5.out.rl
     have g0 := World.grownBy_alloc (wk.setCell ⟨bp,1,none⟩ (.int .i64 X)) (.cells #[.int .i64 (0),.int .i64 X] 183) none
     have n1 : some br ≠ vL.ownBlock := fun e => by have := (hR.own.lt _ e.symm).1;have := hR.brB;omega
     exact ⟨hg.cell (g0.cell hR.c1 (by simp)) n1,(hg.frozen_far ⟨br,1,none⟩ (Nat.lt_of_lt_of_le hR.lt g0.size) n1).trans ((g0.frozen_far ⟨br,1,none⟩ hR.lt (by simp)).trans hR.f1)⟩
    have hdn : done.length ≤ 2000 := by omega
    clear hu hgk hCk hO4 Mi s1 s2 hX HO3
    go_wp2_with (at_builtin;go_must (refine wpList_append_lies _ rfl _ _ 174 rfl B' 183 ip (.agg #[.int .i64 0,.int .i64 0]) 2 16 Tryz.underlying174 hip hy0 hy1 hy2 rfl (by decide) vL done.length (partCells done) rfl HOWN.out ⟨wk.heap.size,0,none⟩ 1 1 [.int .i64 (0),.int .i64 X] rfl rfl HNEWS.out (part_one _ _) (by decide) (by unfold maxLen;omega) (by omega) (by simp;omega) _ rfl ?_))
    intro gA capA wA hownA hgrowA hatA hltA
    obtain ⟨q1,q2⟩ := HKP.out wA hgrowA
    have hP := HO5.out.push hownA hgrowA
    have hle := HNP.out.2.le
    have HREL : Hid (OrRel toks vars bw bm br B' i j ST PARTS C w0 ls'.length (.int .i64 ((1 + 1 : Nat) : Int)) (wA.setCell ⟨br,1,none⟩ (.slice (some ⟨gA,0,none⟩) (done.length + 1) capA))) :=
     ⟨1 + 1,p + 1,ls',done ++ [(0,X)],_,_,_,rfl,rfl,by omega,by simp;omega,hle,by have := HPI.out;omega,.inr ⟨by omega,HNP.out.2⟩,hST.out,by unfold Hid;rw [← hPP.out,← HX.out];simp [litPart,HNG.out],hP.1,hP.2.1,hP.2.2.1,hP.2.2.2.1,hP.2.2.2.2⟩
    clear hP HO5 HOWN HNEWS HKP hownA hgrowA hatA hltA v0 v1 vf1 r1 rf1
    go_wp2
    go_roundg ls'.length
    case measure => simp
    case rel => first | exact HREL | (have h1 := HREL.out;simpa using h1)
  ·cases rem with
   | nil =>
    obtain rfl : p = j := hser
    have hk1' : ((k : Int) == 1) = false := by simp;omega
    have Mq := H0.out.but (j := p) HBq0.out HWq0.out (by have := HPI.out;omega)
    have hp := ctx_peek (Mq.ctx (by omega)) (by omega)
    have HP0 := hide hp
    have hnc : ((peekS toks p).toList == [44]) = false := by simpa using HEND.out
    have hbwB : bw < B' := by have := H0.out.hbw;omega
    clear hp Mq
    go_wp2_with fail
    refine (unhide HP0).mono ?_
    rintro e wj ⟨rfl,hgj,hCj⟩
    have HBj := hide (HBq0.out.walk hgj)
    have HWj := hide hCj.wk
    have hRj := HRq0.out.grown hgj (fun b e => by cases e;exact ⟨fun e => hne2 e.symm,fun e => by have := (HRq0.out.own.lt _ e).1;omega⟩)
    have hPS : done = PARTS := by rw [← hPP.out];simp
    have n0 : some br ≠ some bw := by simpa using hne2
    have HRj0 := hide (HRA.out.ofRl (by rw [HCC.out];exact hRj) (hgj.cell H23.out.1 n0) (hgj.cell H23.out.2 n0))
    have HPj0 := hide (hRj.own.mono (base' := B) (by omega))
    obtain ⟨R,hR⟩ : ∃ R : PRul,R = ⟨111,done,vL,⟨#[]⟩,0,0,0,0⟩ := ⟨_,rfl⟩
    have HRj : Hid (Br wj br R) := by rw [hR];exact HRj0.out
    have HPj : Hid (wj.ownsRow B 183 2 R.pv R.parts.length (partCells R.parts)) := by rw [hR];exact HPj0.out
    have HRR := hide (And.intro hR (And.intro hPS hST.out))
    clear hgj hCj hRj hPS HRj0 HPj0 hR HP0 HBq0 HWq0 HRq0 H23
    go_wp2
    have Mj := H0.out.but (j := p) HBj.out HWj.out (by omega)
    obtain ⟨r0,r1,r2,r3,r4,r5,r6,rz,rl⟩ := HRj.out
    have m3 := Mj.m3
    have mf3 := Mj.f3
    have hbl2 := Mj.tk.ltm
    have HMj := hide Mj
    have HOWN := hide (Mj.orr.kept ((World.grownBy_alloc wj (.cells #[.int .u8 R.sort,R.pv,.string R.rel,.int .i64 R.n,.int .i64 R.v,.int .i64 R.w,.int .i64 R.x] 176) none).trans (grown_drew' _ none)) (by cases vr.ownBlock with
     | none => exact .inl rfl
     | some g => exact .inr (by simp)))
    have HNEWS : Hid (∀ jj u,[Value.int .u8 R.sort,R.pv,.string R.rel,.int .i64 R.n,.int .i64 R.v,.int .i64 R.w,.int .i64 R.x][jj]? = some u → (wj.alloc (.cells #[.int .u8 R.sort,R.pv,.string R.rel,.int .i64 R.n,.int .i64 R.v,.int .i64 R.w,.int .i64 R.x] 176)).drew.cell? ((⟨wj.heap.size,0,none⟩ : Addr).add jj) = some u) :=
     World.news_of_block (cs := #[.int .u8 R.sort,R.pv,.string R.rel,.int .i64 R.n,.int .i64 R.v,.int .i64 R.w,.int .i64 R.x]) (t := 176) (fr := (0,0)) (heap_alloc_new wj _)
    have KEEP : Hid (∀ wA,(wj.alloc (.cells #[.int .u8 R.sort,R.pv,.string R.rel,.int .i64 R.n,.int .i64 R.v,.int .i64 R.w,.int .i64 R.x] 176)).drew.grownBy wA vr.ownBlock → wA.frozen? ⟨bm,3,none⟩ = false ∧ wA.cell? ⟨bm,3,none⟩ = some vr) := by
     intro wA hg
     have g0 : wj.grownBy (wj.alloc (.cells #[.int .u8 R.sort,R.pv,.string R.rel,.int .i64 R.n,.int .i64 R.v,.int .i64 R.w,.int .i64 R.x] 176)).drew none := (World.grownBy_alloc wj _ none).trans (grown_drew' _ none)
     have hlow : some bm ≠ vr.ownBlock := fun e => by have := (HMj.out.orr.lt _ e.symm).1;have := HMj.out.hbm;omega
     exact ⟨(hg.frozen_far ⟨bm,3,none⟩ (Nat.lt_of_lt_of_le HMj.out.tk.ltm g0.size) hlow).trans ((g0.frozen_far ⟨bm,3,none⟩ HMj.out.tk.ltm (by simp)).trans HMj.out.f3),hg.cell (g0.cell HMj.out.m3 (by simp)) hlow⟩
    have hBs : B ≤ wj.heap.size := Mj.hB
    have hrn : rules.length ≤ 2000 := by have := H0.out.lr;omega
    have HOC : Hid (R.pv.oneCell' = true) := own_one HPj.out
    clear Mj rz
    go_region_law ((refine step_append_lies _ (by rfl) _ _ 114 (by rfl) B 176 i0 (.agg #[.int .u8 0,.slice none 0 0,.string .empty,.int .i64 0,.int .i64 0,.int .i64 0,.int .i64 0]) 7 80 Tryz.underlying114 hi0 hz0 hz1 hz2 rfl (by decide) vr rules.length (rulCells rules) (by rfl) HOWN.out ⟨wj.heap.size,0,none⟩ 1 1 [.int .u8 R.sort,R.pv,.string R.rel,.int .i64 R.n,.int .i64 R.v,.int .i64 R.w,.int .i64 R.x] (by rfl) rfl HNEWS.out (rul_one HOC.out) (by decide) (by unfold maxLen;omega) (by omega) (by simp;omega) _ rfl ?_;intro gA capA wA hownA hgrowA hatA hltA;obtain ⟨q1,q2⟩ := KEEP.out wA hgrowA))
    all_goals
     have HP := hide (HMj.out.pushRule (x := R) (by have := H0.out.lr;omega) HPj.out hownA hgrowA)
     clear HOWN HNEWS KEEP hownA hgrowA hatA hltA m3 mf3 r0 r1 r2 r3 r4 r5 r6 rl
     go_wp2
     go_end0
     refine ⟨rfl,(HBj.out.toB H0.out.hB (fun k hk => by simp at hk;simp [hk])).trans HP.out.2,?_⟩
     have h1 := HP.out.1;rw [HRR.out.1,HRR.out.2.1,← HFIN.out.2] at h1;rw [HFIN.out.1,← HRR.out.2.2];exact ⟨_,_,h1⟩
   | cons l ls' =>
    obtain ⟨⟨c,hc1,hc2⟩,m,hnp,hser'⟩ := hser
    have hk1' : ((k : Int) == 1) = false := by simp;omega
    have hk1'' : (1 : Int) < (k : Int) := by omega
    have hpl := (at_tok hc1).2.2
    have Mq := H0.out.but (j := p) HBq0.out HWq0.out (by have := HPI.out;omega)
    have hp := ctx_peek (Mq.ctx (by omega)) (by omega)
    rw [(at_tok hc1).1] at hp
    have HP0 := hide hp
    have hnc : (c.s.toList == [44]) = true := by simpa using hc2
    have hbwB0 : bw < B' := by have := H0.out.hbw;omega
    have HNP := hide (And.intro hnp hser')
    clear hp Mq hc1 hc2 hnp hser'
    go_wp2_with fail
    refine (unhide HP0).mono ?_
    rintro e wp ⟨rfl,hgp,hCp⟩
    have n0' : some br ≠ some bw := by simpa using hne2
    have hRp := HRq0.out.grown hgp (fun b e => by cases e;exact ⟨fun e => hne2 e.symm,fun e => by have := (HRq0.out.own.lt _ e).1;omega⟩)
    have HBq := hide ((HBq0.out.walk hgp).set (k := bw) (.inl (by simp)) 1 (.int .i64 ((p : Int) + 1)))
    have HWq := hide (hCp.wk.setI ((p : Int) + 1))
    have HRq := hide (hRp.grown (grown_set wp bw 1 (.int .i64 ((p : Int) + 1))) (fun b e => by cases e;exact ⟨fun e => hne2 e.symm,fun e => by have := (HRq0.out.own.lt _ e).1;omega⟩))
    have HQ23 : Hid ((wp.setCell ⟨bw,1,none⟩ (.int .i64 ((p : Int) + 1))).cell? ⟨br,2,none⟩ = some (.string ⟨#[]⟩) ∧ (wp.setCell ⟨bw,1,none⟩ (.int .i64 ((p : Int) + 1))).cell? ⟨br,3,none⟩ = some (.int .i64 0)) :=
     ⟨(cell_set _ _ _ _ _ _ (.inl hne2)).trans (hgp.cell H23.out.1 n0'),(cell_set _ _ _ _ _ _ (.inl hne2)).trans (hgp.cell H23.out.2 n0')⟩
    have hBq : B' ≤ (wp.setCell ⟨bw,1,none⟩ (.int .i64 ((p : Int) + 1))).heap.size := by have := hgp.size;simp [World.setCell];omega
    obtain ⟨d0,d1,_,_,e1,_,_,_⟩ := hCp.wk
    clear hgp hCp hRp HP0 HBq0 HWq0 HRq0 H23
    go_wp2_with fail
    generalize (wp.setCell ⟨bw,1,none⟩ (.int .i64 ((p : Int) + 1))) = wq at HBq HWq HRq HQ23 hBq ⊢
    clear d0 d1 e1
    have Mq := H0.out.but (j := p + 1) HBq.out HWq.out (by have := HPI.out;omega)
    obtain ⟨t1,t2,t3⟩ := at_tok HNP.out.1.lt.2
    have hf := ctx_fault (Mq.ctx (by omega)) t3 (decide (8 < (k : Int))) 6
    rw [t2] at hf
    have HT1 := hide (And.intro t1 t2)
    clear Mq t1 t2
    refine hf.mono ?_
    rintro e wf ⟨rfl,hgf,hCf⟩
    have hbwB : bw < B' := by have := H0.out.hbw;omega
    have hRf := HRq.out.grown hgf (fun b e => by cases e;exact ⟨fun e => hne2 e.symm,fun e => by have := (HRq.out.own.lt _ e).1;omega⟩)
    have hBtf := HBq.out.walk hgf
    have g0 := World.grownBy_alloc wf (.cells #[.int .i64 0,.int .i64 0] 183) none
    have n0 : some br ≠ some bw := by simpa using hne2
    have hszf : w0.heap.size ≤ wf.heap.size := hBtf.size
    have hlf := hCf.wk.lt
    have HO1 : Hid (Oc toks bw bm br B' wf.heap.size vL done C w0 0 0 (p + 1) _ _ (wf.alloc (.cells #[.int .i64 0,.int .i64 0] 183))) :=
     ⟨by have := hgf.size;simp;omega,g0.cell (hgf.cell HQ23.out.1 n0) (by simp),g0.cell (hgf.cell HQ23.out.2 n0) (by simp),hRf.grown g0 (fun b e => by cases e),hBtf.alloc _,hCf.wk.far g0 (by simp),bp_new _ _,
      by omega,by have := hRf.lt;omega,fun e => by have := (hRf.own.lt _ e).2;omega,hne2,hbwB,hszf,hB0,hge⟩
    clear hf hgf hCf hRf hBtf HBq HWq HRq HQ23 hszf hlf
    go_wp2_with fail
    generalize (wf.alloc (.cells #[.int .i64 0,.int .i64 0] 183)) = wg at HO1 ⊢
    generalize wf.heap.size = bp at HO1 ⊢
    clear g0
    have Mg := H0.out.but (j := p + 1) HO1.out.bt HO1.out.wk (by have := HPI.out;omega)
    have hp := ctx_peek (Mg.ctx (by omega)) (by omega)
    rw [HT1.out.1] at hp
    refine hp.mono ?_
    rintro e wh ⟨rfl,hgh,hCh⟩
    have HO2 := hide (HO1.out.walk hgh hCh.wk)
    clear hp hgh hCh Mg HO1
    have hbpw : bp ≠ bw := HO2.out.n1
    obtain ⟨d0,d1,_,_,e1,_,_,_⟩ := HO2.out.wk
    obtain ⟨v0,v1,vf0,vf1,hvl⟩ := HO2.out.bp'
    have hset2 := fun W o u b' o' h => cell_set W bp o u b' o' h
    cases hng : l.neg with
    | some b =>
     have hA := HNP.out.1
     unfold LitAt at hA
     rw [hng] at hA
     simp only at hA
     obtain ⟨a1,a2,a3,a4⟩ := hA
     obtain rfl : m = p + 1 + 2 := a4
     have hhd : l.head = b := by unfold PLit.head;rw [hng];rfl
     have hq : (l.head.s.toList == [33]) = true := by rw [hhd];simpa using a2
     have HO3 := hide ((HO2.out.part (HO2.out.bp'.set0 1)).setI (p + 1 + 1))
     have HA3 := hide a3
     have HNG := hide hng
     clear a1 a2 a3 hhd hng HO2
     go_wp2_with fail
     rw [show ((p : Int) + 1 + 1) = ((p + 1 + 1 : Nat) : Int) by omega]
     generalize ((wh.setCell ⟨bp,0,none⟩ (.int .i64 1)).setCell ⟨bw,1,none⟩ (.int .i64 ((p + 1 + 1 : Nat) : Int))) = wi at HO3 ⊢
     clear d0 d1 e1 v0 v1 vf0 vf1 hvl hq
     obtain ⟨s1,s2,s3⟩ := at_tok HA3.out
     have Mi := H0.out.but (j := p + 1 + 1) HO3.out.bt HO3.out.wk (by have := HPI.out;omega)
     have hu := ctx_truth (Mi.ctx (by omega)) s3
     rw [s1,s2] at hu
     refine hu.mono ?_
     rintro e wk ⟨rfl,hgk,hCk⟩
     have hO4 := HO3.out.walk hgk hCk.wk
     obtain ⟨X,hX⟩ : ∃ x,varX vars l.name.s = x := ⟨_,rfl⟩
     rw [hX]
     have HX := hide hX
     have v0 := hO4.bp'.c0
     have v1 := hO4.bp'.c1
     have vf1 := hO4.bp'.f1
     have r1 := hO4.rl.c1
     have rf1 := hO4.rl.f1
     have hlr := hO4.rl.lt
     have hnbr : br ≠ bp := fun e => hO4.n2 e.symm
     have hnbr2 : bp ≠ br := hO4.n2
     have HO5 := hide (hO4.part (hO4.bp'.set1 X))
     have hszk : (wk.setCell ⟨bp,1,none⟩ (.int .i64 X)).heap.size = wk.heap.size := by simp [World.setCell]
     have HOWN := hide (HO5.out.rl.own.alloc (.cells #[.int .i64 (1),.int .i64 X] 183))
     have HNEWS : Hid (∀ jj u,[Value.int .i64 (1),.int .i64 X][jj]? = some u → ((wk.setCell ⟨bp,1,none⟩ (.int .i64 X)).alloc (.cells #[.int .i64 (1),.int .i64 X] 183)).cell? ((⟨wk.heap.size,0,none⟩ : Addr).add jj) = some u) := by
      have h1 := World.news_of_block (cs := #[.int .i64 (1),.int .i64 X]) (t := 183) (fr := (0,0)) (heap_alloc_new (wk.setCell ⟨bp,1,none⟩ (.int .i64 X)) (.cells #[.int .i64 (1),.int .i64 X] 183))
      rw [hszk] at h1
      exact h1
     have hBk : B' ≤ wk.heap.size := hO4.hB
     have HKP : Hid (∀ wA,((wk.setCell ⟨bp,1,none⟩ (.int .i64 X)).alloc (.cells #[.int .i64 (1),.int .i64 X] 183)).grownBy wA vL.ownBlock → wA.cell? ⟨br,1,none⟩ = some vL ∧ wA.frozen? ⟨br,1,none⟩ = false) := by
      intro wA hg
      have hR := HO5.out.rl
      have g0 := World.grownBy_alloc (wk.setCell ⟨bp,1,none⟩ (.int .i64 X)) (.cells #[.int .i64 (1),.int .i64 X] 183) none
      have n1 : some br ≠ vL.ownBlock := fun e => by have := (hR.own.lt _ e.symm).1;have := hR.brB;omega
      exact ⟨hg.cell (g0.cell hR.c1 (by simp)) n1,(hg.frozen_far ⟨br,1,none⟩ (Nat.lt_of_lt_of_le hR.lt g0.size) n1).trans ((g0.frozen_far ⟨br,1,none⟩ hR.lt (by simp)).trans hR.f1)⟩
     have hdn : done.length ≤ 2000 := by omega
     clear hu hgk hCk hO4 Mi s1 s2 hX HO3
     go_wp2_with (at_builtin;go_must (refine wpList_append_lies _ rfl _ _ 174 rfl B' 183 ip (.agg #[.int .i64 0,.int .i64 0]) 2 16 Tryz.underlying174 hip hy0 hy1 hy2 rfl (by decide) vL done.length (partCells done) rfl HOWN.out ⟨wk.heap.size,0,none⟩ 1 1 [.int .i64 (1),.int .i64 X] rfl rfl HNEWS.out (part_one _ _) (by decide) (by unfold maxLen;omega) (by omega) (by simp;omega) _ rfl ?_))
     intro gA capA wA hownA hgrowA hatA hltA
     obtain ⟨q1,q2⟩ := HKP.out wA hgrowA
     have hP := HO5.out.push hownA hgrowA
     have hle := HNP.out.2.le
     have HREL : Hid (OrRel toks vars bw bm br B' i j ST PARTS C w0 ls'.length (.int .i64 ((k + 1 : Nat) : Int)) (wA.setCell ⟨br,1,none⟩ (.slice (some ⟨gA,0,none⟩) (done.length + 1) capA))) :=
      ⟨k + 1,p + 1 + 2,ls',done ++ [(1,X)],_,_,_,rfl,rfl,by omega,by simp;omega,hle,by have := HPI.out;omega,.inr ⟨by omega,HNP.out.2⟩,hST.out,by unfold Hid;rw [← hPP.out,← HX.out];simp [litPart,HNG.out],hP.1,hP.2.1,hP.2.2.1,hP.2.2.2.1,hP.2.2.2.2⟩
     clear hP HO5 HOWN HNEWS HKP hownA hgrowA hatA hltA v0 v1 vf1 r1 rf1
     go_wp2
     go_roundg ls'.length
     case measure => simp
     case rel => first | exact HREL | (have h1 := HREL.out;simpa using h1)
    | none =>
     have hA := HNP.out.1
     unfold LitAt at hA
     rw [hng] at hA
     simp only at hA
     obtain ⟨a1,a2,a4⟩ := hA
     obtain rfl : m = p + 1 + 1 := a4
     have hhd : l.head = l.name := by unfold PLit.head;rw [hng];rfl
     have hq : (l.head.s.toList == [33]) = false := by rw [hhd];simpa using a2
     have HO3 := HO2
     have HA3 := hide a1
     have HNG := hide hng
     clear a1 a2 hhd hng HO2
     go_wp2_with fail
     generalize wh = wi at HO3 ⊢
     clear d0 d1 e1 v0 v1 vf0 vf1 hvl hq
     obtain ⟨s1,s2,s3⟩ := at_tok HA3.out
     have Mi := H0.out.but (j := p + 1) HO3.out.bt HO3.out.wk (by have := HPI.out;omega)
     have hu := ctx_truth (Mi.ctx (by omega)) s3
     rw [s1,s2] at hu
     refine hu.mono ?_
     rintro e wk ⟨rfl,hgk,hCk⟩
     have hO4 := HO3.out.walk hgk hCk.wk
     obtain ⟨X,hX⟩ : ∃ x,varX vars l.name.s = x := ⟨_,rfl⟩
     rw [hX]
     have HX := hide hX
     have v0 := hO4.bp'.c0
     have v1 := hO4.bp'.c1
     have vf1 := hO4.bp'.f1
     have r1 := hO4.rl.c1
     have rf1 := hO4.rl.f1
     have hlr := hO4.rl.lt
     have hnbr : br ≠ bp := fun e => hO4.n2 e.symm
     have hnbr2 : bp ≠ br := hO4.n2
     have HO5 := hide (hO4.part (hO4.bp'.set1 X))
     have hszk : (wk.setCell ⟨bp,1,none⟩ (.int .i64 X)).heap.size = wk.heap.size := by simp [World.setCell]
     have HOWN := hide (HO5.out.rl.own.alloc (.cells #[.int .i64 (0),.int .i64 X] 183))
     have HNEWS : Hid (∀ jj u,[Value.int .i64 (0),.int .i64 X][jj]? = some u → ((wk.setCell ⟨bp,1,none⟩ (.int .i64 X)).alloc (.cells #[.int .i64 (0),.int .i64 X] 183)).cell? ((⟨wk.heap.size,0,none⟩ : Addr).add jj) = some u) := by
      have h1 := World.news_of_block (cs := #[.int .i64 (0),.int .i64 X]) (t := 183) (fr := (0,0)) (heap_alloc_new (wk.setCell ⟨bp,1,none⟩ (.int .i64 X)) (.cells #[.int .i64 (0),.int .i64 X] 183))
      rw [hszk] at h1
      exact h1
     have hBk : B' ≤ wk.heap.size := hO4.hB
     have HKP : Hid (∀ wA,((wk.setCell ⟨bp,1,none⟩ (.int .i64 X)).alloc (.cells #[.int .i64 (0),.int .i64 X] 183)).grownBy wA vL.ownBlock → wA.cell? ⟨br,1,none⟩ = some vL ∧ wA.frozen? ⟨br,1,none⟩ = false) := by
      intro wA hg
      have hR := HO5.out.rl
      have g0 := World.grownBy_alloc (wk.setCell ⟨bp,1,none⟩ (.int .i64 X)) (.cells #[.int .i64 (0),.int .i64 X] 183) none
      have n1 : some br ≠ vL.ownBlock := fun e => by have := (hR.own.lt _ e.symm).1;have := hR.brB;omega
      exact ⟨hg.cell (g0.cell hR.c1 (by simp)) n1,(hg.frozen_far ⟨br,1,none⟩ (Nat.lt_of_lt_of_le hR.lt g0.size) n1).trans ((g0.frozen_far ⟨br,1,none⟩ hR.lt (by simp)).trans hR.f1)⟩
     have hdn : done.length ≤ 2000 := by omega
     clear hu hgk hCk hO4 Mi s1 s2 hX HO3
     go_wp2_with (at_builtin;go_must (refine wpList_append_lies _ rfl _ _ 174 rfl B' 183 ip (.agg #[.int .i64 0,.int .i64 0]) 2 16 Tryz.underlying174 hip hy0 hy1 hy2 rfl (by decide) vL done.length (partCells done) rfl HOWN.out ⟨wk.heap.size,0,none⟩ 1 1 [.int .i64 (0),.int .i64 X] rfl rfl HNEWS.out (part_one _ _) (by decide) (by unfold maxLen;omega) (by omega) (by simp;omega) _ rfl ?_))
     intro gA capA wA hownA hgrowA hatA hltA
     obtain ⟨q1,q2⟩ := HKP.out wA hgrowA
     have hP := HO5.out.push hownA hgrowA
     have hle := HNP.out.2.le
     have HREL : Hid (OrRel toks vars bw bm br B' i j ST PARTS C w0 ls'.length (.int .i64 ((k + 1 : Nat) : Int)) (wA.setCell ⟨br,1,none⟩ (.slice (some ⟨gA,0,none⟩) (done.length + 1) capA))) :=
      ⟨k + 1,p + 1 + 1,ls',done ++ [(0,X)],_,_,_,rfl,rfl,by omega,by simp;omega,hle,by have := HPI.out;omega,.inr ⟨by omega,HNP.out.2⟩,hST.out,by unfold Hid;rw [← hPP.out,← HX.out];simp [litPart,HNG.out],hP.1,hP.2.1,hP.2.2.1,hP.2.2.2.1,hP.2.2.2.2⟩
     clear hP HO5 HOWN HNEWS HKP hownA hgrowA hatA hltA v0 v1 vf1 r1 rf1
     go_wp2
     go_roundg ls'.length
     case measure => simp
     case rel => first | exact HREL | (have h1 := HREL.out;simpa using h1)
end
section
set_option maxHeartbeats 2000000
set_option maxRecDepth 100000
attribute [local go_sem ↓] Go.wp_at_zero Go.wp_at_succ
section
variable {w w' w0 : World} {bw bm gt capt B : Nat} {toks : List PTok} {vv vl vr : Value} {vars : List PVar} {lists : List PLst} {rules : List PRul} {i : Nat} {kind line : Int}
theorem Md.pushList (h : Md w bw bm gt capt B toks vv vl vr vars lists rules i kind line) {o : Obj} {wA : World} {v' : Value} {x : PLst} (hi : lists.length + 1 ≤ i) (hp : w.ownsRow B 3 1 x.v x.nums.length (x.nums.map (.int .i64))) (hown : wA.ownsRow B 178 2 v' (lists.length + 1) (lstCells lists ++ [.string x.name,x.v])) (hg : (w.alloc o).drew.grownBy wA vl.ownBlock) : Md (wA.setCell ⟨bm,2,none⟩ v') bw bm gt capt B toks vv v' vr vars (lists ++ [x]) rules i kind line ∧ ButB B [bw,bm] w (wA.setCell ⟨bm,2,none⟩ v') := by
 have g0 : w.grownBy (w.alloc o).drew none := (World.grownBy_alloc w o none).trans (grown_drew' _ none)
 have gs := grown_set wA bm 2 v'
 have hlow : ∀ b,b < B → some b ≠ vl.ownBlock := fun b hb e => by have := (h.ol.lt _ e.symm).1;omega
 have nn : ∀ {v : Value},v.ownBlock = none ∨ v.ownBlock ≠ none := fun {v} => by cases v.ownBlock with
  | none => exact .inl rfl
  | some g => exact .inr (by simp)
 have keep : ∀ {e : TypeId} {s n : Nat} {v : Value} {xs : List Value},w.ownsRow B e s v n xs → e ≠ 178 → (wA.setCell ⟨bm,2,none⟩ v').ownsRow B e s v n xs := fun {e s n v xs} ho he =>
  have h1 := ho.kept g0 nn
  have h2 := h1.kept hg (own_ne ho h.ol he)
  h2.kept gs (own_ne_low h2 h.hbm)
 have cell : ∀ b q u,b < B → b ≠ bm → w.cell? ⟨b,q,none⟩ = some u → (wA.setCell ⟨bm,2,none⟩ v').cell? ⟨b,q,none⟩ = some u := fun b q u hb hn hu =>
  gs.cell (hg.cell (g0.cell hu (by simp)) (hlow b hb)) (by simpa using hn)
 have cellm : ∀ q u,q ≠ 2 → w.cell? ⟨bm,q,none⟩ = some u → (wA.setCell ⟨bm,2,none⟩ v').cell? ⟨bm,q,none⟩ = some u := fun q u hq hu =>
  (cell_set _ _ _ _ _ _ (.inr hq)).trans (hg.cell (g0.cell hu (by simp)) (hlow bm h.hbm))
 have hsz : w.heap.size ≤ wA.heap.size := Nat.le_trans g0.size hg.size
 have frA : ∀ q,wA.frozen? ⟨bm,q,none⟩ = w.frozen? ⟨bm,q,none⟩ := fun q =>
  (hg.frozen_far ⟨bm,q,none⟩ (Nat.lt_of_lt_of_le h.tk.ltm g0.size) (hlow bm h.hbm)).trans (g0.frozen_far ⟨bm,q,none⟩ h.tk.ltm (by simp))
 have fr : ∀ q,(wA.setCell ⟨bm,2,none⟩ v').frozen? ⟨bm,q,none⟩ = w.frozen? ⟨bm,q,none⟩ := fun q => (World.frozen?_setCell _ _ _ _).trans (frA q)
 have hwk : Wk (wA.setCell ⟨bm,2,none⟩ v') bw bm i kind line := by
  have n1 := hlow bw h.hbw
  have n2 : some bw ≠ some bm := by simpa using fun e : bw = bm => h.ne1 e.symm
  have f0 : ∀ q,(wA.setCell ⟨bm,2,none⟩ v').frozen? ⟨bw,q,none⟩ = w.frozen? ⟨bw,q,none⟩ := fun q =>
   (World.frozen?_setCell _ _ _ _).trans ((hg.frozen_far ⟨bw,q,none⟩ (Nat.lt_of_lt_of_le h.wk.lt g0.size) n1).trans (g0.frozen_far ⟨bw,q,none⟩ h.wk.lt (by simp)))
  exact ⟨cell bw 0 _ h.hbw (fun e => h.ne1 e.symm) h.wk.c0,cell bw 1 _ h.hbw (fun e => h.ne1 e.symm) h.wk.c1,cell bw 2 _ h.hbw (fun e => h.ne1 e.symm) h.wk.c2,cell bw 3 _ h.hbw (fun e => h.ne1 e.symm) h.wk.c3,
   (f0 1).trans h.wk.f1,(f0 2).trans h.wk.f2,(f0 3).trans h.wk.f3,by have := h.wk.lt;simp [World.setCell];omega⟩
 have hszs : (wA.setCell ⟨bm,2,none⟩ v').heap.size = wA.heap.size := by simp [World.setCell]
 refine ⟨⟨hwk,⟨cellm 0 _ (by omega) h.tk.m0,fun j u hu => cell gt j u h.hgt h.ne3 (h.tk.row j u hu),by have := h.tk.ltm;omega,by have := h.tk.ltg;omega⟩,cellm 1 _ (by omega) h.m1,?_,cellm 3 _ (by omega) h.m3,(fr 1).trans h.f1,(fr 2).trans h.f2,(fr 3).trans h.f3,keep h.ov (by decide),
  ?_,keep h.orr (by decide),fun l hl => ?_,fun r hr => keep (h.ri r hr) (by decide),h.ne1,h.ne2,h.ne3,h.hbw,h.hbm,h.hgt,by have := h.hB;omega,h.hn,h.lv,by simp;omega,h.lr⟩,?_⟩
 ·exact World.cell?_setCell_same _ _ _ (hg.cell (g0.cell h.m2 (by simp)) (hlow bm h.hbm))
 ·rw [lstCells_snoc,List.length_append]
  exact hown.kept gs (own_ne_low hown h.hbm)
 ·rcases List.mem_append.1 hl with hl | hl
  ·exact keep (h.li l hl) (by decide)
  ·obtain rfl : l = x := by simpa using hl
   exact keep hp (by decide)
 ·refine (((ButB.refl B [bw,bm] w).grown g0 h.hB (fun _ e => by cases e)).grown hg (by have := h.hB;have := g0.size;omega) (fun k e => .inr ((h.ol.lt _ e).1))).grown gs (by have := h.hB;omega) (fun k e => by cases e;exact .inl (by simp))
end
theorem infoList : (Tryz.prog.info? 178).map (fun i => (i.zero,i.size,i.bytes)) = some (some (.agg #[.string .empty,.slice none 0 0]),2,40) := by kernel_rfl
theorem infoInt : (Tryz.prog.info? 3).map (fun i => (i.zero,i.size,i.bytes)) = some (some (.int .i64 0),1,8) := by kernel_rfl
def numSt (k : Nat) (n : PTok) (st : FSt) : FSt := flt (outB (intVal n.s) 1000) 5 n.line (flt (decide (20 < (k : Int))) 6 n.line st)
def numsSt : Nat → List PTok → FSt → FSt
 | _,[],st => st
 | k,n :: ns,st => numsSt (k + 1) ns (numSt k n st)
def listSt (vars : List PVar) (lists : List PLst) (nm : PTok) (ns : List PTok) (st : FSt) : FSt :=
 numsSt 1 ns (flt (decide (0 ≤ varX vars nm.s) || decide (0 ≤ lstX lists nm.s)) 4 nm.line st)
structure Lc (bw bm bl B' : Nat) (vL : Value) (nums : List Int) (w0 : World) (s : ByteArray) (p : Nat) (kd ln : Int) (w : World) : Prop where
 hB : B' ≤ w.heap.size
 c0 : w.cell? ⟨bl,0,none⟩ = some (.string s)
 c1 : w.cell? ⟨bl,1,none⟩ = some vL
 f1 : w.frozen? ⟨bl,1,none⟩ = false
 own : w.ownsRow B' 3 1 vL nums.length (nums.map (.int .i64))
 bt : But [bw] w0 w
 wk : Wk w bw bm p kd ln
 n1 : bl ≠ bw
 n2 : bl < B'
 n3 : bw < B'
 n4 : w0.heap.size ≤ bl
 n5 : w0.heap.size ≤ B'
section
variable {bw bm bl B' : Nat} {vL : Value} {nums : List Int} {w0 : World} {s : ByteArray} {p : Nat} {kd ln : Int} {w w' : World}
theorem Lc.walk (h : Lc bw bm bl B' vL nums w0 s p kd ln w) (hg : w.grownBy w' (some bw)) {p' : Nat} {kd' ln' : Int} (hW : Wk w' bw bm p' kd' ln') : Lc bw bm bl B' vL nums w0 s p' kd' ln' w' :=
 have n0 : some bl ≠ some bw := by simpa using h.n1
 ⟨Nat.le_trans h.hB hg.size,hg.cell h.c0 n0,hg.cell h.c1 n0,(hg.frozen_far ⟨bl,1,none⟩ (by have := h.hB;have := h.n2;show bl < _;omega) n0).trans h.f1,h.own.kept hg (own_ne_low h.own h.n3),h.bt.walk hg,hW,h.n1,h.n2,h.n3,h.n4,h.n5⟩
theorem Lc.setI (h : Lc bw bm bl B' vL nums w0 s p kd ln w) (p' : Nat) : Lc bw bm bl B' vL nums w0 s p' kd ln (w.setCell ⟨bw,1,none⟩ (.int .i64 p')) := h.walk (grown_set _ _ _ _) (h.wk.setI _)
theorem Lc.push (h : Lc bw bm bl B' vL nums w0 s p kd ln w) {wA : World} {v' : Value} {o : Obj} {x : Int} (hown : wA.ownsRow B' 3 1 v' (nums.length + 1) (nums.map (.int .i64) ++ [.int .i64 x])) (hg : (w.alloc o).grownBy wA vL.ownBlock) : Lc bw bm bl B' v' (nums ++ [x]) w0 s p kd ln (wA.setCell ⟨bl,1,none⟩ v') := by
 have g0 : w.grownBy (w.alloc o) none := World.grownBy_alloc w o none
 have gs := grown_set wA bl 1 v'
 have n1 : some bl ≠ vL.ownBlock := fun e => by have := (h.own.lt _ e.symm).1;have := h.n2;omega
 have nb : some bw ≠ vL.ownBlock := fun e => by have := (h.own.lt _ e.symm).1;have := h.n3;omega
 have hB := h.hB
 have s0 := g0.size
 have s1 := hg.size
 have hl : bl < (w.alloc o).heap.size := by have := h.n2;omega
 refine ⟨by have := gs.size;omega,(cell_set _ _ _ _ _ _ (by omega)).trans (hg.cell (g0.cell h.c0 (by simp)) n1),World.cell?_setCell_same _ _ _ (hg.cell (g0.cell h.c1 (by simp)) n1),
  (World.frozen?_setCell _ _ _ _).trans ((hg.frozen_far ⟨bl,1,none⟩ hl n1).trans ((g0.frozen_far ⟨bl,1,none⟩ (by have := h.n2;show bl < _;omega) (by simp)).trans h.f1)),?_,?_,
  ((h.wk.far g0 (by simp)).far hg nb).far gs (by simpa using fun e : bw = bl => h.n1 e.symm),h.n1,h.n2,h.n3,h.n4,h.n5⟩
 ·rw [List.length_append,List.map_append]
  exact hown.kept gs (own_ne_low hown h.n2)
 ·exact ((h.bt.alloc o).grown hg (fun k e => .inr (by have := (h.own.lt _ e).1;have := h.n5;omega))).set (.inr h.n4) _ _
end
def ListRel (toks : List PTok) (bw bm bl : Nat) (B' i j : Nat) (ST : FSt) (NUMS : List Int) (s : ByteArray) (w0 : World) (n : Nat) (vk : Value) (wr : World) : Prop :=
 ∃ (k p : Nat) (rem : List PTok) (done : List Int) (kd ln : Int) (vL : Value),n = rem.length ∧ vk = .int .i64 k ∧ k ≤ p + 1 ∧ done.length ≤ p ∧ p ≤ j ∧ i ≤ p ∧ (∀ t ∈ rem,IsInt t.s) ∧
  ((k = 1 ∧ ∃ n0 ns,rem = n0 :: ns ∧ toks[p + 2]? = some n0 ∧ SerAt toks (p + 3) ns j) ∨ (1 < k ∧ SerAt toks p rem j)) ∧
  Hid (numsSt k rem (kd,ln) = ST) ∧ Hid (done ++ rem.map (fun t => intVal t.s) = NUMS) ∧ Lc bw bm bl B' vL done w0 s p kd ln wr
theorem lst_one {s : ByteArray} {v : Value} (h : v.oneCell' = true) : ∀ u ∈ [Value.string s,v],u.oneCell' = true := by
 intro u hu;simp at hu;rcases hu with rfl | rfl
 ·rfl
 ·exact h
theorem int_one (a : Int) : ∀ u ∈ [Value.int .i64 a],u.oneCell' = true := by
 intro u hu;simp at hu;rcases hu with rfl;rfl
theorem ref_stList (w0 : World) (bw bm gt capt B : Nat) (toks : List PTok) (vv vl vr : Value) (vars : List PVar) (lists : List PLst) (rules : List PRul) (i j : Nat) (kind line : Int) (kw nm n0 : PTok) (ns : List PTok) (h : Md w0 bw bm gt capt B toks vv vl vr vars lists rules i kind line) (hk : toks[i]? = some kw) (hks : kw.s = ⟨#[108,105,115,116]⟩) (hnm : toks[i + 1]? = some nm) (hn0 : toks[i + 4]? = some n0) (hns : SerAt toks (i + 5) ns j) (hint : ∀ t ∈ n0 :: ns,IsInt t.s) (hj : j < toks.length) (hend : (peekS toks j).toList ≠ [44]) : Calls Tryz.prog 54 #[.pointer (some ⟨bw,0,none⟩)] w0 fun e w' => e = .returned (.tuple #[]) ∧ ButB B [bw,bm] w0 w' ∧
   ∃ vl' v,Md w' bw bm gt capt B toks vv vl' vr vars (lists ++ [⟨nm.s,(n0 :: ns).map (fun t => intVal t.s),v⟩]) rules (j + 1) (listSt vars lists nm (n0 :: ns) (kind,line)).1 (listSt vars lists nm (n0 :: ns) (kind,line)).2 := by
 obtain ⟨i0,hi0,hz0,hz1,hz2⟩ := info_parts infoList
 obtain ⟨ip,hip,hy0,hy1,hy2⟩ := info_parts infoInt
 obtain ⟨k1,k2,k3⟩ := at_tok hk
 obtain ⟨n1,n2,n3⟩ := at_tok hnm
 have hij := hns.le
 have hn := h.hn
 have c0 := h.wk.c0
 have H0 := hide h
 have hC0 := h.ctx (by omega)
 have hpk := ctx_peek hC0 (by omega)
 rw [k1,hks] at hpk
 have HPK := hide hpk
 have HKK := hide (And.intro n1 n2)
 have HSER := hide (And.intro hn0 (And.intro hns hint))
 have HEND := hide hend
 clear hpk h hC0 k1 k2 n1 n2 hk hnm hks hn0 hns hint hend
 go_enter Tryz.func54,Tryz.ntmps54
 go_wp2_with fail
 refine (unhide HPK).mono ?_
 rintro e w1 ⟨rfl,hg1,hC1⟩
 have HB1 := hide (But.of_grown (S := [bw]) hg1 (fun k e => by cases e;simp))
 obtain ⟨d0,d1,_,_,e1,_,_,_⟩ := hC1.wk
 have HW1 := hide hC1.wk
 clear hg1 hC1 c0 HPK
 go_wp2_with fail
 have HBa := hide ((HB1.out.set (k := bw) (.inl (by simp)) 1 (.int .i64 ((i : Int) + 1))).alloc (.cells #[.int .u8 ((ByteArray.mk #[108,105,115,116])[0].toNat : Int),.slice none 0 0,.string ⟨#[]⟩,.int .i64 0,.int .i64 0,.int .i64 0,.int .i64 0] 176))
 have HWa := hide (((HW1.out.setI ((i : Int) + 1)).far (World.grownBy_alloc _ (.cells #[.int .u8 ((ByteArray.mk #[108,105,115,116])[0].toNat : Int),.slice none 0 0,.string ⟨#[]⟩,.int .i64 0,.int .i64 0,.int .i64 0,.int .i64 0] 176) none) (by simp)))
 generalize ((w1.setCell ⟨bw,1,none⟩ (.int .i64 ((i : Int) + 1))).alloc (.cells #[.int .u8 ((ByteArray.mk #[108,105,115,116])[0].toNat : Int),.slice none 0 0,.string ⟨#[]⟩,.int .i64 0,.int .i64 0,.int .i64 0,.int .i64 0] 176)) = wa at HBa HWa ⊢
 clear d0 d1 e1 HW1 HB1
 have Ma := H0.out.but (j := i + 1) HBa.out HWa.out (by omega)
 have hd1 := md_declared Ma n3
 rw [HKK.out.1,HKK.out.2] at hd1
 refine hd1.mono ?_
 rintro e wc ⟨rfl,hgc,hWc⟩
 have hBc := HBa.out.walk hgc
 have hltc := hWc.lt
 have hszc := hBc.size
 have g0 := World.grownBy_alloc wc (.cells #[.string nm.s,.slice none 0 0] 178) none
 have e1 := heap_alloc_new wc (.cells #[.string nm.s,.slice none 0 0] 178)
 have hLc : Lc bw bm wc.heap.size (wc.heap.size + 1) (.slice none 0 0) [] w0 nm.s (i + 2) _ _ (wc.alloc (.cells #[.string nm.s,.slice none 0 0] 178)) :=
  ⟨by simp,by simp only [World.cell?,e1];rfl,by simp only [World.cell?,e1];rfl,by simp only [World.frozen?,e1];rfl,World.ownsRow_nil _ _ _ _,hBc.alloc _,hWc.far g0 (by simp),by omega,by omega,by omega,by omega,by omega⟩
 have HSTART : Hid (ListRel toks bw bm wc.heap.size (wc.heap.size + 1) i j (listSt vars lists nm (n0 :: ns) (kind,line)) ((n0 :: ns).map (fun t => intVal t.s)) nm.s w0 (ns.length + 1) (.int .i64 1) (wc.alloc (.cells #[.string nm.s,.slice none 0 0] 178))) :=
  ⟨1,i + 2,n0 :: ns,[],_,_,_,rfl,rfl,by omega,by simp,by omega,by omega,HSER.out.2.2,.inl ⟨rfl,n0,ns,rfl,HSER.out.1,HSER.out.2.1⟩,rfl,rfl,hLc⟩
 have hB0 : B ≤ wc.heap.size + 1 := by have := H0.out.hB;omega
 obtain ⟨ST,hSTd⟩ : ∃ s,listSt vars lists nm (n0 :: ns) (kind,line) = s := ⟨_,rfl⟩
 obtain ⟨NUMS,hPd⟩ : ∃ s,(n0 :: ns).map (fun t => intVal t.s) = s := ⟨_,rfl⟩
 obtain ⟨N,hN⟩ : ∃ n,ns.length + 1 = n := ⟨_,rfl⟩
 obtain ⟨bl,hbl⟩ : ∃ b,wc.heap.size = b := ⟨_,rfl⟩
 obtain ⟨B',hB'⟩ : ∃ b,wc.heap.size + 1 = b := ⟨_,rfl⟩
 rw [hB'] at HSTART hB0
 rw [hSTd,hPd,hN,hbl] at HSTART
 have HFIN := hide (And.intro hSTd hPd)
 clear hLc e1 g0 hBc hWc hgc hd1 Ma HBa HWa hSTd hPd hN hB' HSER hltc hszc
 go_wp2_with fail
 clear hbl
 go_loopg [8] N (fun n vk wr => ListRel toks bw bm bl B' i j ST NUMS nm.s w0 n vk wr)
 case atStart => exact HSTART
 case round =>
  clear HSTART
  obtain ⟨k,p,rem,done,kd,ln,vL,rfl,rfl,hkp,hdl,hpj,hip0,hint,hcase,hST,hPP,hL⟩ := hrel
  have HPI := hide hip0
  have HII := hide hint
  have HL0 := hide hL
  clear hint
  rcases hcase with ⟨rfl,n,ns',rfl,hnp,hser⟩ | ⟨hk1,hser⟩
  ·have HNP := hide (And.intro hnp hser)
   have hpl := hser.le
   obtain ⟨d0,d1,_,_,e1,_,_,_⟩ := hL.wk
   have HO1 := hide ((hL.setI (p + 1)).setI (p + 2))
   clear hnp hser hL HL0
   go_wp2_with fail
   rw [show ((p : Int) + 1 + 1) = ((p + 2 : Nat) : Int) by omega,show ((p : Int) + 1) = ((p + 1 : Nat) : Int) by omega]
   generalize ((wr.setCell ⟨bw,1,none⟩ (.int .i64 ((p + 1 : Nat) : Int))).setCell ⟨bw,1,none⟩ (.int .i64 ((p + 2 : Nat) : Int))) = wq at HO1 ⊢
   clear d0 d1 e1
   have Mq := H0.out.but (j := p + 2) HO1.out.bt HO1.out.wk (by have := HPI.out;omega)
   obtain ⟨t1,t2,t3⟩ := at_tok HNP.out.1
   have hf := ctx_fault (Mq.ctx (by omega)) t3 (false) 6
   rw [t2] at hf
   refine hf.mono ?_
   rintro e wf ⟨rfl,hgf,hCf⟩
   have HO2 := hide (HO1.out.walk hgf hCf.wk)
   have Mf := H0.out.but (j := p + 2) HO2.out.bt HO2.out.wk (by have := HPI.out;omega)
   have hb := ctx_bounded (Mf.ctx (by omega)) t3 1000 (by omega) (by omega) (by rw [t1];exact HII.out n (by simp))
   rw [t1,t2] at hb
   have HBD := hide hb
   clear hf hgf hCf Mq Mf hb HO1 t1 t2
   go_wp2_with fail
   refine (unhide HBD).mono ?_
   rintro e wk ⟨rfl,hgk,hCk⟩
   have hO4 := HO2.out.walk hgk hCk.wk
   obtain ⟨X,hX⟩ : ∃ x,intVal n.s = x := ⟨_,rfl⟩
   rw [hX]
   have HX := hide hX
   have r1 := hO4.c1
   have rf1 := hO4.f1
   have hBk : B' ≤ wk.heap.size := hO4.hB
   have hlb : bl < wk.heap.size := by have := hO4.n2;omega
   have HO5 := hide hO4
   have HOWN := hide (hO4.own.alloc (.cells #[.int .i64 X] 3))
   have HNEWS : Hid (∀ jj u,[Value.int .i64 X][jj]? = some u → (wk.alloc (.cells #[.int .i64 X] 3)).cell? ((⟨wk.heap.size,0,none⟩ : Addr).add jj) = some u) :=
    World.news_of_block (cs := #[.int .i64 X]) (t := 3) (fr := (0,0)) (heap_alloc_new wk (.cells #[.int .i64 X] 3))
   have HKP : Hid (∀ wA,(wk.alloc (.cells #[.int .i64 X] 3)).grownBy wA vL.ownBlock → wA.cell? ⟨bl,1,none⟩ = some vL ∧ wA.frozen? ⟨bl,1,none⟩ = false) := by
    intro wA hg
    have g0 := World.grownBy_alloc wk (.cells #[.int .i64 X] 3) none
    have n1 : some bl ≠ vL.ownBlock := fun e => by have := (HO5.out.own.lt _ e.symm).1;have := HO5.out.n2;omega
    exact ⟨hg.cell (g0.cell HO5.out.c1 (by simp)) n1,(hg.frozen_far ⟨bl,1,none⟩ (Nat.lt_of_lt_of_le hlb g0.size) n1).trans ((g0.frozen_far ⟨bl,1,none⟩ hlb (by simp)).trans HO5.out.f1)⟩
   have hdn : done.length ≤ 2000 := by omega
   clear hgk hCk hO4 hX HO2 HBD
   go_wp2_with (at_builtin;go_must (refine wpList_append_lies _ rfl _ _ 33 rfl B' 3 ip (.int .i64 0) 1 8 Tryz.underlying33 hip hy0 hy1 hy2 rfl (by decide) vL done.length (done.map (.int .i64)) rfl HOWN.out ⟨wk.heap.size,0,none⟩ 1 1 [.int .i64 X] rfl rfl HNEWS.out (int_one _) (by decide) (by unfold maxLen;omega) (by omega) (by simp;omega) _ rfl ?_))
   intro gA capA wA hownA hgrowA hatA hltA
   obtain ⟨q1,q2⟩ := HKP.out wA hgrowA
   have hP := HO5.out.push hownA hgrowA
   have hle := HNP.out.2.le
   have HREL : Hid (ListRel toks bw bm bl B' i j ST NUMS nm.s w0 ns'.length (.int .i64 ((1 + 1 : Nat) : Int)) (wA.setCell ⟨bl,1,none⟩ (.slice (some ⟨gA,0,none⟩) (done.length + 1) capA))) :=
    ⟨1 + 1,p + 2 + 1,ns',done ++ [X],_,_,_,rfl,rfl,by omega,by simp;omega,hle,by have := HPI.out;omega,fun t ht => HII.out t (by simp [ht]),.inr ⟨by omega,HNP.out.2⟩,hST.out,by unfold Hid;rw [← hPP.out,← HX.out];simp,hP⟩
   clear hP HO5 HOWN HNEWS HKP hownA hgrowA hatA hltA r1 rf1
   go_wp2
   go_roundg ns'.length
   case measure => simp
   case rel => first | exact HREL | (have h1 := HREL.out;simpa using h1)
  ·have hk1' : ((k : Int) == 1) = false := by simp;omega
   cases rem with
   | nil =>
    obtain rfl : p = j := hser
    have Mq := H0.out.but (j := p) hL.bt hL.wk (by omega)
    have hp := ctx_peek (Mq.ctx (by omega)) (by omega)
    have HP0 := hide hp
    have hnc : ((peekS toks p).toList == [44]) = false := by simpa using HEND.out
    clear hp Mq
    go_wp2_with fail
    refine (unhide HP0).mono ?_
    rintro e ws ⟨rfl,hgs,hCs⟩
    have hL2 := hL.walk hgs hCs.wk
    obtain ⟨d0,d1,_,_,e1,_,_,_⟩ := hCs.wk
    have HL3 := hide (hL2.setI (p + 1))
    clear hgs hCs hL2 HP0 hL HL0
    go_wp2
    rw [show ((p : Int) + 1) = ((p + 1 : Nat) : Int) by omega]
    generalize (ws.setCell ⟨bw,1,none⟩ (.int .i64 ((p + 1 : Nat) : Int))) = wj at HL3 ⊢
    clear d0 d1 e1
    have Mj := H0.out.but (j := p + 1) HL3.out.bt HL3.out.wk (by omega)
    have HMj := hide Mj
    have m2 := Mj.m2
    have mf2 := Mj.f2
    have hbl2 := Mj.tk.ltm
    have v0 := HL3.out.c0
    have v1 := HL3.out.c1
    have hlb : bl < wj.heap.size := by have := HL3.out.n2;have := HL3.out.hB;omega
    have HPj := hide (HL3.out.own.mono (base' := B) hB0)
    have HOC : Hid (vL.oneCell' = true) := own_one HPj.out
    have HOWN := hide (Mj.ol.kept ((World.grownBy_alloc wj (.cells #[.string nm.s,vL] 178) none).trans (grown_drew' _ none)) (by cases vl.ownBlock with
     | none => exact .inl rfl
     | some g => exact .inr (by simp)))
    have HNEWS : Hid (∀ jj u,[Value.string nm.s,vL][jj]? = some u → (wj.alloc (.cells #[.string nm.s,vL] 178)).drew.cell? ((⟨wj.heap.size,0,none⟩ : Addr).add jj) = some u) :=
     World.news_of_block (cs := #[.string nm.s,vL]) (t := 178) (fr := (0,0)) (heap_alloc_new wj _)
    have KEEP : Hid (∀ wA,(wj.alloc (.cells #[.string nm.s,vL] 178)).drew.grownBy wA vl.ownBlock → wA.frozen? ⟨bm,2,none⟩ = false ∧ wA.cell? ⟨bm,2,none⟩ = some vl) := by
     intro wA hg
     have g0 : wj.grownBy (wj.alloc (.cells #[.string nm.s,vL] 178)).drew none := (World.grownBy_alloc wj _ none).trans (grown_drew' _ none)
     have hlow : some bm ≠ vl.ownBlock := fun e => by have := (HMj.out.ol.lt _ e.symm).1;have := HMj.out.hbm;omega
     exact ⟨(hg.frozen_far ⟨bm,2,none⟩ (Nat.lt_of_lt_of_le HMj.out.tk.ltm g0.size) hlow).trans ((g0.frozen_far ⟨bm,2,none⟩ HMj.out.tk.ltm (by simp)).trans HMj.out.f2),hg.cell (g0.cell HMj.out.m2 (by simp)) hlow⟩
    have hBs : B ≤ wj.heap.size := Mj.hB
    have hln : lists.length ≤ 2000 := by have := H0.out.ll;omega
    have HNN : Hid (done = NUMS) := by unfold Hid;rw [← hPP.out];simp
    clear Mj
    go_region_law ((refine step_append_lies _ (by rfl) _ _ 113 (by rfl) B 178 i0 (.agg #[.string .empty,.slice none 0 0]) 2 40 Tryz.underlying113 hi0 hz0 hz1 hz2 rfl (by decide) vl lists.length (lstCells lists) (by rfl) HOWN.out ⟨wj.heap.size,0,none⟩ 1 1 [.string nm.s,vL] (by rfl) rfl HNEWS.out (lst_one HOC.out) (by decide) (by unfold maxLen;omega) (by omega) (by simp;omega) _ rfl ?_;intro gA capA wA hownA hgrowA hatA hltA;obtain ⟨q1,q2⟩ := KEEP.out wA hgrowA))
    all_goals
     have HP := hide (HMj.out.pushList (x := ⟨nm.s,done,vL⟩) (by have := H0.out.ll;omega) HPj.out hownA hgrowA)
     have HBT := hide HL3.out.bt
     clear HOWN HNEWS KEEP hownA hgrowA hatA hltA m2 mf2 v0 v1 HPj HMj HL3 HOC
     go_wp2
     refine bodyPost_ret (results_none (by first | rfl | kernel_rfl) _ _ _) rfl ?_
     refine ⟨rfl,(HBT.out.toB H0.out.hB (fun k hk => by simp at hk;simp [hk])).trans HP.out.2,?_⟩
     have h1 := HP.out.1
     rw [HNN.out,← HFIN.out.2] at h1
     rw [HFIN.out.1,← hST.out]
     exact ⟨_,_,h1⟩
   | cons n ns' =>
    obtain ⟨⟨c,hc1,hc2⟩,hnp,hser'⟩ := hser
    have hpl := (at_tok hc1).2.2
    have Mq := H0.out.but (j := p) hL.bt hL.wk (by omega)
    have hp := ctx_peek (Mq.ctx (by omega)) (by omega)
    rw [(at_tok hc1).1] at hp
    have HP0 := hide hp
    have hnc : (c.s.toList == [44]) = true := by simpa using hc2
    have HNP := hide (And.intro hnp hser')
    clear hp Mq hc1 hc2 hnp hser'
    go_wp2_with fail
    refine (unhide HP0).mono ?_
    rintro e ws ⟨rfl,hgs,hCs⟩
    have hL2 := hL.walk hgs hCs.wk
    obtain ⟨d0,d1,_,_,e1,_,_,_⟩ := hCs.wk
    have HO1 := hide (hL2.setI (p + 1))
    clear hgs hCs hL2 HP0 hL HL0
    go_wp2_with fail
    rw [show ((p : Int) + 1) = ((p + 1 : Nat) : Int) by omega]
    generalize (ws.setCell ⟨bw,1,none⟩ (.int .i64 ((p + 1 : Nat) : Int))) = wq at HO1 ⊢
    clear d0 d1 e1
    have Mq := H0.out.but (j := p + 1) HO1.out.bt HO1.out.wk (by have := HPI.out;omega)
    obtain ⟨t1,t2,t3⟩ := at_tok HNP.out.1
    have hf := ctx_fault (Mq.ctx (by omega)) t3 (decide (20 < (k : Int))) 6
    rw [t2] at hf
    refine hf.mono ?_
    rintro e wf ⟨rfl,hgf,hCf⟩
    have HO2 := hide (HO1.out.walk hgf hCf.wk)
    have Mf := H0.out.but (j := p + 1) HO2.out.bt HO2.out.wk (by have := HPI.out;omega)
    have hb := ctx_bounded (Mf.ctx (by omega)) t3 1000 (by omega) (by omega) (by rw [t1];exact HII.out n (by simp))
    rw [t1,t2] at hb
    have HBD := hide hb
    clear hf hgf hCf Mq Mf hb HO1 t1 t2
    go_wp2_with fail
    refine (unhide HBD).mono ?_
    rintro e wk ⟨rfl,hgk,hCk⟩
    have hO4 := HO2.out.walk hgk hCk.wk
    obtain ⟨X,hX⟩ : ∃ x,intVal n.s = x := ⟨_,rfl⟩
    rw [hX]
    have HX := hide hX
    have r1 := hO4.c1
    have rf1 := hO4.f1
    have hBk : B' ≤ wk.heap.size := hO4.hB
    have hlb : bl < wk.heap.size := by have := hO4.n2;omega
    have HO5 := hide hO4
    have HOWN := hide (hO4.own.alloc (.cells #[.int .i64 X] 3))
    have HNEWS : Hid (∀ jj u,[Value.int .i64 X][jj]? = some u → (wk.alloc (.cells #[.int .i64 X] 3)).cell? ((⟨wk.heap.size,0,none⟩ : Addr).add jj) = some u) :=
     World.news_of_block (cs := #[.int .i64 X]) (t := 3) (fr := (0,0)) (heap_alloc_new wk (.cells #[.int .i64 X] 3))
    have HKP : Hid (∀ wA,(wk.alloc (.cells #[.int .i64 X] 3)).grownBy wA vL.ownBlock → wA.cell? ⟨bl,1,none⟩ = some vL ∧ wA.frozen? ⟨bl,1,none⟩ = false) := by
     intro wA hg
     have g0 := World.grownBy_alloc wk (.cells #[.int .i64 X] 3) none
     have n1 : some bl ≠ vL.ownBlock := fun e => by have := (HO5.out.own.lt _ e.symm).1;have := HO5.out.n2;omega
     exact ⟨hg.cell (g0.cell HO5.out.c1 (by simp)) n1,(hg.frozen_far ⟨bl,1,none⟩ (Nat.lt_of_lt_of_le hlb g0.size) n1).trans ((g0.frozen_far ⟨bl,1,none⟩ hlb (by simp)).trans HO5.out.f1)⟩
    have hdn : done.length ≤ 2000 := by omega
    clear hgk hCk hO4 hX HO2 HBD
    go_wp2_with (at_builtin;go_must (refine wpList_append_lies _ rfl _ _ 33 rfl B' 3 ip (.int .i64 0) 1 8 Tryz.underlying33 hip hy0 hy1 hy2 rfl (by decide) vL done.length (done.map (.int .i64)) rfl HOWN.out ⟨wk.heap.size,0,none⟩ 1 1 [.int .i64 X] rfl rfl HNEWS.out (int_one _) (by decide) (by unfold maxLen;omega) (by omega) (by simp;omega) _ rfl ?_))
    intro gA capA wA hownA hgrowA hatA hltA
    obtain ⟨q1,q2⟩ := HKP.out wA hgrowA
    have hP := HO5.out.push hownA hgrowA
    have hle := HNP.out.2.le
    have HREL : Hid (ListRel toks bw bm bl B' i j ST NUMS nm.s w0 ns'.length (.int .i64 ((k + 1 : Nat) : Int)) (wA.setCell ⟨bl,1,none⟩ (.slice (some ⟨gA,0,none⟩) (done.length + 1) capA))) :=
     ⟨k + 1,p + 1 + 1,ns',done ++ [X],_,_,_,rfl,rfl,by omega,by simp;omega,hle,by have := HPI.out;omega,fun t ht => HII.out t (by simp [ht]),.inr ⟨by omega,HNP.out.2⟩,hST.out,by unfold Hid;rw [← hPP.out,← HX.out];simp,hP⟩
    clear hP HO5 HOWN HNEWS HKP hownA hgrowA hatA hltA r1 rf1
    go_wp2
    go_roundg ns'.length
    case measure => simp
    case rel => first | exact HREL | (have h1 := HREL.out;simpa using h1)
end
section
structure RSt where
 tag : Nat
 kw : PTok
 a : PTok
 b : PTok
 c : PTok
 ts : List PTerm
 ns : List PTok
 ls : List PLit
def SumAt (toks : List PTok) (i : Nat) (ts : List PTerm) (rel num : PTok) (j : Nat) : Prop :=
 ∃ t r m q,ts = t :: r ∧ TermAt toks i t m ∧ t.neg = false ∧ TermsAt toks m r q ∧ i ≤ q ∧ toks[q]? = some rel ∧ rel.s.toList ≠ [43] ∧ rel.s.toList ≠ [45] ∧ toks[q + 1]? = some num ∧ IsInt num.s ∧ j = q + 2
def StAt (toks : List PTok) (i : Nat) (s : RSt) (j : Nat) : Prop :=
 toks[i]? = some s.kw ∧
 match s.tag with
 | 0 => s.kw.s = ⟨#[118,97,114]⟩ ∧ toks[i + 1]? = some s.a ∧ toks[i + 3]? = some s.b ∧ IsInt s.b.s ∧ toks[i + 5]? = some s.c ∧ IsInt s.c.s ∧ j = i + 6
 | 1 => s.kw.s = ⟨#[108,105,115,116]⟩ ∧ toks[i + 1]? = some s.a ∧ ∃ n0 r q,s.ns = n0 :: r ∧ toks[i + 4]? = some n0 ∧ SerAt toks (i + 5) r q ∧ (∀ t ∈ n0 :: r,IsInt t.s) ∧ q < toks.length ∧ (peekS toks q).toList ≠ [44] ∧ j = q + 1
 | 2 => s.kw.s = ⟨#[108,105,110]⟩ ∧ SumAt toks (i + 1) s.ts s.b s.c j
 | 3 => s.kw.s = ⟨#[119,104,101,110]⟩ ∧ toks[i + 1]? = some s.a ∧ SumAt toks (i + 3) s.ts s.b s.c j
 | 4 => s.kw.s = ⟨#[97,116]⟩ ∧ toks[i + 1]? = some s.a ∧ toks[i + 3]? = some s.b ∧ toks[i + 6]? = some s.c ∧ j = i + 7
 | 5 => s.kw.s = ⟨#[100,105,102,102]⟩ ∧ ∃ n0 r,s.ns = n0 :: r ∧ toks[i + 1]? = some n0 ∧ SerAt toks (i + 2) r j ∧ j ≤ toks.length ∧ (peekS toks j).toList ≠ [44]
 | 6 => s.kw.s = ⟨#[111,114]⟩ ∧ ∃ l0 r m,s.ls = l0 :: r ∧ LitAt toks (i + 1) l0 m ∧ SerLit toks m r j ∧ j ≤ toks.length ∧ (peekS toks j).toList ≠ [44]
 | _ => False
structure SLst where
 name : ByteArray
 nums : List Int
structure SRul where
 sort : Int
 parts : List (Int × Int)
 rel : ByteArray
 n : Int
 v : Int
 w : Int
 x : Int
def PLst.bare (l : PLst) : SLst := ⟨l.name,l.nums⟩
def PRul.bare (r : PRul) : SRul := ⟨r.sort,r.parts,r.rel,r.n,r.v,r.w,r.x⟩
structure SMod where
 vars : List PVar
 lists : List SLst
 rules : List SRul
def slstX (lists : List SLst) (s : ByteArray) : Int := findName s (lists.map (·.name)) 0
theorem lstX_bare (l : List PLst) (s : ByteArray) : lstX l s = slstX (l.map PLst.bare) s := by
 unfold lstX slstX lnames
 simp [PLst.bare,Function.comp_def]
def stSt (M : SMod) (s : RSt) (st : FSt) : FSt :=
 match s.tag with
 | 0 => flt (outB (intVal s.c.s) 1000 || decide (intVal s.c.s < intVal s.b.s)) 5 s.c.line (flt (outB (intVal s.b.s) 1000) 5 s.b.line
   (flt (decide (0 ≤ varX M.vars s.a.s) || decide (0 ≤ slstX M.lists s.a.s)) 4 s.a.line (flt (decide (8 ≤ (M.vars.length : Int))) 6 s.a.line st)))
 | 1 => numsSt 1 s.ns (flt (decide (0 ≤ varX M.vars s.a.s) || decide (0 ≤ slstX M.lists s.a.s)) 4 s.a.line st)
 | 2 => linSt M.vars M.rules.length s.kw s.ts s.c st
 | 3 => whenSt M.vars M.rules.length s.kw s.a s.ts s.c st
 | 4 => flt (decide (varX M.vars s.c.s < 0)) 4 s.c.line (flt (decide (varX M.vars s.b.s < 0)) 4 s.b.line (flt (decide (slstX M.lists s.a.s < 0)) 4 s.a.line (flt (decide (16 ≤ (M.rules.length : Int))) 6 s.kw.line st)))
 | 5 => diffSt M.vars M.rules.length s.kw s.ns st
 | _ => orSt M.vars M.rules.length s.kw s.ls st
def stMod (M : SMod) (s : RSt) : SMod :=
 match s.tag with
 | 0 => { M with vars := M.vars ++ [⟨s.a.s,intVal s.b.s,intVal s.c.s⟩] }
 | 1 => { M with lists := M.lists ++ [⟨s.a.s,s.ns.map fun t => intVal t.s⟩] }
 | 2 => { M with rules := M.rules ++ [⟨105,s.ts.map (termPart M.vars),s.b.s,intVal s.c.s,0,0,0⟩] }
 | 3 => { M with rules := M.rules ++ [⟨119,s.ts.map (termPart M.vars),s.b.s,intVal s.c.s,varX M.vars s.a.s,0,0⟩] }
 | 4 => { M with rules := M.rules ++ [⟨97,[],⟨#[]⟩,0,varX M.vars s.b.s,varX M.vars s.c.s,slstX M.lists s.a.s⟩] }
 | 5 => { M with rules := M.rules ++ [⟨100,s.ns.map (namePart M.vars),⟨#[]⟩,0,0,0,0⟩] }
 | _ => { M with rules := M.rules ++ [⟨111,s.ls.map (litPart M.vars),⟨#[]⟩,0,0,0,0⟩] }
def MdS (w : World) (bw bm gt capt B : Nat) (toks : List PTok) (M : SMod) (i : Nat) (st : FSt) : Prop :=
 ∃ vv vl vr lists rules,Md w bw bm gt capt B toks vv vl vr M.vars lists rules i st.1 st.2 ∧ lists.map PLst.bare = M.lists ∧ rules.map PRul.bare = M.rules
theorem ref_statement (w0 : World) (bw bm gt capt B : Nat) (toks : List PTok) (M : SMod) (i j : Nat) (st : FSt) (s : RSt) (h : MdS w0 bw bm gt capt B toks M i st) (hs : StAt toks i s j) : Calls Tryz.prog 54 #[.pointer (some ⟨bw,0,none⟩)] w0 fun e w' => e = .returned (.tuple #[]) ∧ ButB B [bw,bm] w0 w' ∧ MdS w' bw bm gt capt B toks (stMod M s) j (stSt M s st) := by
 obtain ⟨vv,vl,vr,lists,rules,h,hl,hr⟩ := h
 obtain ⟨vars,L,R⟩ := M
 simp only at h hl hr
 subst hl hr
 obtain ⟨hk,hs⟩ := hs
 obtain ⟨kd,ln⟩ := st
 obtain ⟨tag,kw,a,b,c,ts,ns,ls⟩ := s
 simp only at hk hs
 split at hs
 ·obtain ⟨e1,e2,e3,e4,e5,e6,rfl⟩ := hs
  refine (ref_stVar w0 bw bm gt capt B toks vv vl vr vars lists rules i kd ln kw a b c h hk e1 e2 e3 e4 e5 e6).mono ?_
  rintro e w' ⟨rfl,hb,vv',hM⟩
  exact ⟨rfl,hb,vv',vl,vr,lists,rules,by simpa [stSt,stMod,varSt,lstX_bare] using hM,rfl,rfl⟩
 ·obtain ⟨e1,e2,n0,r,q,rfl,e3,e4,e5,e6,e7,rfl⟩ := hs
  refine (ref_stList w0 bw bm gt capt B toks vv vl vr vars lists rules i q kd ln kw a n0 r h hk e1 e2 e3 e4 e5 e6 e7).mono ?_
  rintro e w' ⟨rfl,hb,vl',v,hM⟩
  exact ⟨rfl,hb,vv,vl',vr,_,rules,by simpa [stSt,stMod,listSt,lstX_bare] using hM,by simp [stMod,PLst.bare],rfl⟩
 ·obtain ⟨e1,t,r,m,q,rfl,f1,f2,f3,f4,f5,f6,f7,f8,f9,rfl⟩ := hs
  refine (ref_stLin w0 bw bm gt capt B toks vv vl vr vars lists rules i m q kd ln kw t r b c h hk e1 (by omega) f1 f2 f3 f5 f6 f7 f8 f9).mono ?_
  rintro e w' ⟨rfl,hb,vr',pv,hM⟩
  exact ⟨rfl,hb,vv,vl,vr',lists,_,by simpa [stSt,stMod] using hM,rfl,by simp [stMod,PRul.bare]⟩
 ·obtain ⟨e1,e2,t,r,m,q,rfl,f1,f2,f3,f4,f5,f6,f7,f8,f9,rfl⟩ := hs
  refine (ref_stWhen w0 bw bm gt capt B toks vv vl vr vars lists rules i m q kd ln kw a t r b c h hk e1 e2 f4 f1 f2 f3 f5 f6 f7 f8 f9).mono ?_
  rintro e w' ⟨rfl,hb,vr',pv,hM⟩
  exact ⟨rfl,hb,vv,vl,vr',lists,_,by simpa [stSt,stMod] using hM,rfl,by simp [stMod,PRul.bare]⟩
 ·obtain ⟨e1,e2,e3,e4,rfl⟩ := hs
  refine (ref_stAt w0 bw bm gt capt B toks vv vl vr vars lists rules i kd ln kw a b c h hk e1 e2 e3 e4).mono ?_
  rintro e w' ⟨rfl,hb,vr',hM⟩
  exact ⟨rfl,hb,vv,vl,vr',lists,_,by simpa [stSt,stMod,atSt,lstX_bare] using hM,rfl,by simp [stMod,PRul.bare]⟩
 ·obtain ⟨e1,n0,r,rfl,e2,e3,e4,e5⟩ := hs
  refine (ref_stDiff w0 bw bm gt capt B toks vv vl vr vars lists rules i j kd ln kw n0 r h hk e1 e2 e3 e4 e5).mono ?_
  rintro e w' ⟨rfl,hb,vr',pv,hM⟩
  exact ⟨rfl,hb,vv,vl,vr',lists,_,by simpa [stSt,stMod] using hM,rfl,by simp [stMod,PRul.bare]⟩
 ·obtain ⟨e1,l0,r,m,rfl,e2,e3,e4,e5⟩ := hs
  refine (ref_stOr w0 bw bm gt capt B toks vv vl vr vars lists rules i j m kd ln kw l0 r h hk e1 e2 e3 e4 e5).mono ?_
  rintro e w' ⟨rfl,hb,vr',pv,hM⟩
  exact ⟨rfl,hb,vv,vl,vr',lists,_,by simpa [stSt,stMod] using hM,rfl,by simp [stMod,PRul.bare]⟩
 ·exact hs.elim
end
end Go.Proofs.YthpcbbnabnlanaaGreatDoor
