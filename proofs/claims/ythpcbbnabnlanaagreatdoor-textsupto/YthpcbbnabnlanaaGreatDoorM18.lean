import Derived.Test.YthpcbbnabnlanaaGreatDoorM14
import Derived.Deep.RegionLaw
import Derived.Deep.Onto
import Derived.Deep.LoopGhost
namespace Go.Proofs.YthpcbbnabnlanaaGreatDoor
open Go.RowKit
set_option linter.unusedVariables false
set_option linter.unusedSimpArgs false
section
set_option maxHeartbeats 2000000
set_option maxRecDepth 100000
attribute [local go_sem ↓] Go.wp_at_zero Go.wp_at_succ
theorem rul_one {R : PRul} (h : R.pv.oneCell' = true) : ∀ u ∈ [Value.int .u8 R.sort,R.pv,.string R.rel,.int .i64 R.n,.int .i64 R.v,.int .i64 R.w,.int .i64 R.x],u.oneCell' = true := by
 intro u hu;simp at hu;rcases hu with rfl | rfl | rfl | rfl | rfl | rfl | rfl <;> first | exact h | rfl
theorem own_one {w : World} {B : Nat} {e : TypeId} {s n : Nat} {v : Value} {xs : List Value} (h : w.ownsRow B e s v n xs) : v.oneCell' = true := by
 obtain ⟨a,cap,rfl⟩ := shape_of h
 rfl
def linSt (vars : List PVar) (nr : Nat) (kw : PTok) (ts : List PTerm) (num : PTok) (st : FSt) : FSt :=
 flt (outB (intVal num.s) 1000000) 5 num.line (termsSt vars 1 ts (flt (decide (16 ≤ (nr : Int))) 6 kw.line st))
theorem ref_stLin (w0 : World) (bw bm gt capt B : Nat) (toks : List PTok) (vv vl vr : Value) (vars : List PVar) (lists : List PLst) (rules : List PRul) (i m q : Nat) (kind line : Int) (kw : PTok) (t : PTerm) (ts : List PTerm) (rel num : PTok) (h : Md w0 bw bm gt capt B toks vv vl vr vars lists rules i kind line) (hk : toks[i]? = some kw) (hks : kw.s = ⟨#[108,105,110]⟩) (hiq : i ≤ q) (ht : TermAt toks (i + 1) t m) (htn : t.neg = false) (hts : TermsAt toks m ts q) (hrel : toks[q]? = some rel) (hr1 : rel.s.toList ≠ [43]) (hr2 : rel.s.toList ≠ [45]) (hnum : toks[q + 1]? = some num) (hni : IsInt num.s) : Calls Tryz.prog 54 #[.pointer (some ⟨bw,0,none⟩)] w0 fun e w' => e = .returned (.tuple #[]) ∧ ButB B [bw,bm] w0 w' ∧
   ∃ vr' pv,Md w' bw bm gt capt B toks vv vl vr' vars lists (rules ++ [⟨105,(t :: ts).map (termPart vars),pv,rel.s,intVal num.s,0,0,0⟩]) (q + 2) (linSt vars rules.length kw (t :: ts) num (kind,line)).1 (linSt vars rules.length kw (t :: ts) num (kind,line)).2 := by
 have HTT := hide (And.intro ht (And.intro htn (And.intro hts (And.intro hrel (And.intro hr1 (And.intro hr2 (And.intro hnum hni)))))))
 have hql := (at_tok hnum).2.2
 clear ht htn hts hrel hr1 hr2 hnum hni
 obtain ⟨i0,hi0,hz0,hz1,hz2⟩ := info_parts infoRule
 obtain ⟨k1,k2,k3⟩ := at_tok hk
 have hn := h.hn
 have c0 := h.wk.c0
 have H0 := hide h
 have hC0 := h.ctx (by omega)
 have HFB := hide (fun b (hb : w0.heap.size ≤ b) => hC0.far_new hb)
 have hpk := ctx_peek hC0 (by omega)
 rw [k1,hks] at hpk
 have HPK := hide hpk
 have HK2 := hide k2
 clear hpk h hC0 k1 k2 hk hks
 go_enter Tryz.func54,Tryz.ntmps54
 go_wp2_with fail
 refine (unhide HPK).mono ?_
 rintro e w1 ⟨rfl,hg1,hC1⟩
 have HB1 := hide (But.of_grown (S := [bw]) hg1 (fun k e => by cases e;simp))
 have M1 := H0.out.but HB1.out hC1.wk (Nat.le_refl _)
 obtain ⟨ar,capr,hvr⟩ := shape_of M1.orr
 obtain ⟨d0,d1,_,_,e1,_,_,_⟩ := hC1.wk
 have m3 := M1.m3
 have hne := M1.ne1
 rw [hvr] at m3
 have HVR := hide hvr
 have hset := fun W o u b' o' h => cell_set W bw o u b' o' h
 have hf1 := ctx_fault (M1.ctx (by omega)) k3 (decide (16 ≤ (rules.length : Int))) 6
 rw [HK2.out] at hf1
 have HF1 := hide hf1
 clear hg1 hC1 c0 HPK hvr M1 hf1
 go_wp2_with fail
 refine (unhide HF1).mono ?_
 rintro e w2 ⟨rfl,hg2,hC2⟩
 have HB2 := hide (HB1.out.walk hg2)
 have HW2 := hide hC2.wk
 have hlt2 := hC2.wk.lt
 clear d0 d1 e1 m3 HF1 HB1
 obtain ⟨d0,d1,_,_,e1,_,_,_⟩ := hC2.wk
 clear hg2 hC2
 go_wp2_with fail
 have HBa := hide ((HB2.out.set (k := bw) (.inl (by simp)) 1 (.int .i64 ((i : Int) + 1))).alloc (.cells #[.int .u8 (105),.slice none 0 0,.string ⟨#[]⟩,.int .i64 0,.int .i64 0,.int .i64 0,.int .i64 0] 176))
 have HWa := hide ((HW2.out.setI ((i : Int) + 1)).far (World.grownBy_alloc _ (.cells #[.int .u8 (105),.slice none 0 0,.string ⟨#[]⟩,.int .i64 0,.int .i64 0,.int .i64 0,.int .i64 0] 176) none) (by simp))
 have HRa := hide (br_new (w2.setCell ⟨bw,1,none⟩ (.int .i64 ((i : Int) + 1))) (105) 176)
 have hszc : (w2.setCell ⟨bw,1,none⟩ (.int .i64 ((i : Int) + 1))).heap.size = w2.heap.size := by simp [World.setCell]
 rw [hszc] at HRa
 have hge : w0.heap.size ≤ w2.heap.size := HB2.out.size
 have hne2 : (w2.heap.size : Nat) ≠ bw := by omega
 generalize ((w2.setCell ⟨bw,1,none⟩ (.int .i64 ((i : Int) + 1))).alloc (.cells #[.int .u8 (105),.slice none 0 0,.string ⟨#[]⟩,.int .i64 0,.int .i64 0,.int .i64 0,.int .i64 0] 176)) = wa at HBa HWa HRa ⊢
 clear hszc
 generalize w2.heap.size = br at hne2 hge HRa hlt2 ⊢
 clear d0 d1 e1 HW2 HB2
 have HF := hide (HFB.out br hge)
 have Ma := H0.out.but (j := i + 1) HBa.out HWa.out (by omega)
 have hs := ref_sum toks vars bw bm gt capt br vv (i + 1) m q t ts rel num _ _ wa (Ma.ctx (by omega)) HF.out HTT.out.1 HTT.out.2.1 HTT.out.2.2.1 HTT.out.2.2.2.1 HTT.out.2.2.2.2.1 HTT.out.2.2.2.2.2.1 HTT.out.2.2.2.2.2.2.1 HTT.out.2.2.2.2.2.2.2 _ (HRa.out.toRl rfl _ HRa.out.lt)
 refine hs.mono ?_
 rintro e wj ⟨rfl,hbj,hCj,vL,hRj,hc2,hc3⟩
 have HBj := hide (HBa.out.sub hbj (fun b hb => by simp at hb;rcases hb with rfl | rfl;exact .inl (by simp);exact .inr hge))
 have HWj := hide hCj.wk
 have HRj0 := hide (HRa.out.ofRl hRj hc2 hc3)
 have HPj0 := hide (hRj.own.mono (base' := B) (by have := Ma.hB;omega))
 obtain ⟨R,hR⟩ : ∃ R : PRul,R = ⟨105,(t :: ts).map (termPart vars),vL,rel.s,intVal num.s,0,0,0⟩ := ⟨_,rfl⟩
 have HRj : Hid (Br wj br R) := by rw [hR];exact HRj0.out
 have HPj : Hid (wj.ownsRow B 183 2 R.pv R.parts.length (partCells R.parts)) := by rw [hR];exact HPj0.out
 have HRR := hide hR
 clear Ma hs hbj hCj hRj hc2 hc3 HRj0 HPj0 hR
 go_wp2
 have Mj := H0.out.but (j := q + 2) HBj.out HWj.out (by omega)
 obtain ⟨r0,r1,r2,r3,r4,r5,r6,rz,rl⟩ := HRj.out
 have m3 := Mj.m3
 have mf3 := Mj.f3
 have hbl2 := Mj.tk.ltm
 have HMj := hide Mj
 have HOWN := hide (Mj.orr.kept ((World.grownBy_alloc wj (.cells #[.int .u8 R.sort,R.pv,.string R.rel,.int .i64 R.n,.int .i64 R.v,.int .i64 R.w,.int .i64 R.x] 176) none).trans (grown_drew' _ none)) (by cases vr.ownBlock with
  | none => exact .inl rfl
  | some g => exact .inr (by simp)))
 have HNEWS : Hid (∀ jj u,[Value.int .u8 R.sort,R.pv,.string R.rel,.int .i64 R.n,.int .i64 R.v,.int .i64 R.w,.int .i64 R.x][jj]? = some u → (wj.alloc (.cells #[.int .u8 R.sort,R.pv,.string R.rel,.int .i64 R.n,.int .i64 R.v,.int .i64 R.w,.int .i64 R.x] 176)).drew.cell? ((⟨wj.heap.size,0,none⟩ : Addr).add jj) = some u) :=
  World.news_of_block (cs := #[.int .u8 R.sort,R.pv,.string R.rel,.int .i64 R.n,.int .i64 R.v,.int .i64 R.w,.int .i64 R.x]) (t := 176) (fr := (0,0)) (heap_alloc_new wj _)
 have KEEP : Hid (∀ wA,(wj.alloc (.cells #[.int .u8 R.sort,R.pv,.string R.rel,.int .i64 R.n,.int .i64 R.v,.int .i64 R.w,.int .i64 R.x] 176)).drew.grownBy wA vr.ownBlock → wA.frozen? ⟨bm,3,none⟩ = false ∧ wA.cell? ⟨bm,3,none⟩ = some vr) := by
  intro wA hg
  have g0 : wj.grownBy (wj.alloc (.cells #[.int .u8 R.sort,R.pv,.string R.rel,.int .i64 R.n,.int .i64 R.v,.int .i64 R.w,.int .i64 R.x] 176)).drew none := (World.grownBy_alloc wj _ none).trans (grown_drew' _ none)
  have hlow : some bm ≠ vr.ownBlock := fun e => by have := (HMj.out.orr.lt _ e.symm).1;have := HMj.out.hbm;omega
  exact ⟨(hg.frozen_far ⟨bm,3,none⟩ (Nat.lt_of_lt_of_le HMj.out.tk.ltm g0.size) hlow).trans ((g0.frozen_far ⟨bm,3,none⟩ HMj.out.tk.ltm (by simp)).trans HMj.out.f3),hg.cell (g0.cell HMj.out.m3 (by simp)) hlow⟩
 have hBs : B ≤ wj.heap.size := Mj.hB
 have hrn : rules.length ≤ 2000 := by have := H0.out.lr;omega
 have HOC : Hid (R.pv.oneCell' = true) := own_one HPj.out
 clear Mj rz
 go_region_law ((refine step_append_lies _ (by rfl) _ _ 114 (by rfl) B 176 i0 (.agg #[.int .u8 0,.slice none 0 0,.string .empty,.int .i64 0,.int .i64 0,.int .i64 0,.int .i64 0]) 7 80 Tryz.underlying114 hi0 hz0 hz1 hz2 rfl (by decide) vr rules.length (rulCells rules) (by rfl) HOWN.out ⟨wj.heap.size,0,none⟩ 1 1 [.int .u8 R.sort,R.pv,.string R.rel,.int .i64 R.n,.int .i64 R.v,.int .i64 R.w,.int .i64 R.x] (by rfl) rfl HNEWS.out (rul_one HOC.out) (by decide) (by unfold maxLen;omega) (by omega) (by simp;omega) _ rfl ?_;intro gA capA wA hownA hgrowA hatA hltA;obtain ⟨q1,q2⟩ := KEEP.out wA hgrowA))
 all_goals
  have HP := hide (HMj.out.pushRule (x := R) (by have := H0.out.lr;omega) HPj.out hownA hgrowA)
  clear HOWN HNEWS KEEP hownA hgrowA hatA hltA m3 mf3 r0 r1 r2 r3 r4 r5 r6 rl
  go_wp2
  go_end0
  refine ⟨rfl,(HBj.out.toB H0.out.hB (fun k hk => by simp at hk;simp [hk])).trans HP.out.2,?_⟩
  have h1 := HP.out.1;rw [HRR.out] at h1;exact ⟨_,_,h1⟩
end
section
set_option maxHeartbeats 2000000
set_option maxRecDepth 100000
attribute [local go_sem ↓] Go.wp_at_zero Go.wp_at_succ
def trSt (vars : List PVar) (t : PTok) (st : FSt) : FSt := (truthKind vars t.s st.1,truthLine vars t.s st.1 t.line st.2)
def whenSt (vars : List PVar) (nr : Nat) (kw nm : PTok) (ts : List PTerm) (num : PTok) (st : FSt) : FSt :=
 flt (outB (intVal num.s) 1000000) 5 num.line (termsSt vars 1 ts (trSt vars nm (flt (decide (16 ≤ (nr : Int))) 6 kw.line st)))
theorem ref_stWhen (w0 : World) (bw bm gt capt B : Nat) (toks : List PTok) (vv vl vr : Value) (vars : List PVar) (lists : List PLst) (rules : List PRul) (i m q : Nat) (kind line : Int) (kw nm : PTok) (t : PTerm) (ts : List PTerm) (rel num : PTok) (h : Md w0 bw bm gt capt B toks vv vl vr vars lists rules i kind line) (hk : toks[i]? = some kw) (hks : kw.s = ⟨#[119,104,101,110]⟩) (hnm : toks[i + 1]? = some nm) (hiq : i + 3 ≤ q) (ht : TermAt toks (i + 3) t m) (htn : t.neg = false) (hts : TermsAt toks m ts q) (hrel : toks[q]? = some rel) (hr1 : rel.s.toList ≠ [43]) (hr2 : rel.s.toList ≠ [45]) (hnum : toks[q + 1]? = some num) (hni : IsInt num.s) : Calls Tryz.prog 54 #[.pointer (some ⟨bw,0,none⟩)] w0 fun e w' => e = .returned (.tuple #[]) ∧ ButB B [bw,bm] w0 w' ∧
   ∃ vr' pv,Md w' bw bm gt capt B toks vv vl vr' vars lists (rules ++ [⟨119,(t :: ts).map (termPart vars),pv,rel.s,intVal num.s,varX vars nm.s,0,0⟩]) (q + 2) (whenSt vars rules.length kw nm (t :: ts) num (kind,line)).1 (whenSt vars rules.length kw nm (t :: ts) num (kind,line)).2 := by
 have HTT := hide (And.intro ht (And.intro htn (And.intro hts (And.intro hrel (And.intro hr1 (And.intro hr2 (And.intro hnum hni)))))))
 have hql := (at_tok hnum).2.2
 obtain ⟨n1,n2,n3⟩ := at_tok hnm
 have HN := hide (And.intro n1 n2)
 clear ht htn hts hrel hr1 hr2 hnum hni hnm n1 n2
 obtain ⟨i0,hi0,hz0,hz1,hz2⟩ := info_parts infoRule
 obtain ⟨k1,k2,k3⟩ := at_tok hk
 have hn := h.hn
 have c0 := h.wk.c0
 have H0 := hide h
 have hC0 := h.ctx (by omega)
 have HFB := hide (fun b (hb : w0.heap.size ≤ b) => hC0.far_new hb)
 have hpk := ctx_peek hC0 (by omega)
 rw [k1,hks] at hpk
 have HPK := hide hpk
 have HK2 := hide k2
 clear hpk h hC0 k1 k2 hk hks
 go_enter Tryz.func54,Tryz.ntmps54
 go_wp2_with fail
 refine (unhide HPK).mono ?_
 rintro e w1 ⟨rfl,hg1,hC1⟩
 have HB1 := hide (But.of_grown (S := [bw]) hg1 (fun k e => by cases e;simp))
 have M1 := H0.out.but HB1.out hC1.wk (Nat.le_refl _)
 obtain ⟨ar,capr,hvr⟩ := shape_of M1.orr
 obtain ⟨d0,d1,_,_,e1,_,_,_⟩ := hC1.wk
 have m3 := M1.m3
 have hne := M1.ne1
 rw [hvr] at m3
 have HVR := hide hvr
 have hset := fun W o u b' o' h => cell_set W bw o u b' o' h
 have hf1 := ctx_fault (M1.ctx (by omega)) k3 (decide (16 ≤ (rules.length : Int))) 6
 rw [HK2.out] at hf1
 have HF1 := hide hf1
 clear hg1 hC1 c0 HPK hvr M1 hf1
 go_wp2_with fail
 refine (unhide HF1).mono ?_
 rintro e w2 ⟨rfl,hg2,hC2⟩
 have HB2 := hide (HB1.out.walk hg2)
 have HW2 := hide hC2.wk
 have hlt2 := hC2.wk.lt
 clear d0 d1 e1 m3 HF1 HB1
 obtain ⟨d0,d1,_,_,e1,_,_,_⟩ := hC2.wk
 clear hg2 hC2
 go_wp2_with fail
 have HBa := hide ((HB2.out.set (k := bw) (.inl (by simp)) 1 (.int .i64 ((i : Int) + 1))).alloc (.cells #[.int .u8 (((ByteArray.mk #[119,104,101,110])[0].toNat : Int)),.slice none 0 0,.string ⟨#[]⟩,.int .i64 0,.int .i64 0,.int .i64 0,.int .i64 0] 176))
 have HWa := hide ((HW2.out.setI ((i : Int) + 1)).far (World.grownBy_alloc _ (.cells #[.int .u8 (((ByteArray.mk #[119,104,101,110])[0].toNat : Int)),.slice none 0 0,.string ⟨#[]⟩,.int .i64 0,.int .i64 0,.int .i64 0,.int .i64 0] 176) none) (by simp))
 have HRa := hide (br_new (w2.setCell ⟨bw,1,none⟩ (.int .i64 ((i : Int) + 1))) (((ByteArray.mk #[119,104,101,110])[0].toNat : Int)) 176)
 have hszc : (w2.setCell ⟨bw,1,none⟩ (.int .i64 ((i : Int) + 1))).heap.size = w2.heap.size := by simp [World.setCell]
 rw [hszc] at HRa
 have hge : w0.heap.size ≤ w2.heap.size := HB2.out.size
 have hne2 : (w2.heap.size : Nat) ≠ bw := by omega
 generalize ((w2.setCell ⟨bw,1,none⟩ (.int .i64 ((i : Int) + 1))).alloc (.cells #[.int .u8 (((ByteArray.mk #[119,104,101,110])[0].toNat : Int)),.slice none 0 0,.string ⟨#[]⟩,.int .i64 0,.int .i64 0,.int .i64 0,.int .i64 0] 176)) = wa at HBa HWa HRa ⊢
 clear hszc
 generalize w2.heap.size = br at hne2 hge HRa hlt2 ⊢
 clear d0 d1 e1 HW2 HB2
 have HF := hide (HFB.out br hge)
 have Ma := H0.out.but (j := i + 1) HBa.out HWa.out (by omega)
 have hu := ctx_truth (Ma.ctx (by omega)) n3
 rw [HN.out.1,HN.out.2] at hu
 refine hu.mono ?_
 rintro e wb ⟨rfl,hgb,hCb⟩
 have HBb := hide (HBa.out.walk hgb)
 have hRb := HRa.out.far hgb (by simpa using hne2)
 have HRb := hide hRb
 have HWb := hide hCb.wk
 obtain ⟨d0,d1,_,_,e1,_,_,_⟩ := hCb.wk
 have r4 := hRb.c4
 have rz := hRb.fz 4
 obtain ⟨X,hX⟩ : ∃ x,varX vars nm.s = x := ⟨_,rfl⟩
 rw [hX]
 have HX := hide hX
 have hset2 := fun W o u b' o' h => cell_set W br o u b' o' h
 clear hCb hgb hu Ma HBa HWa HRa hX hRb
 go_wp2_with fail
 have HBc := hide ((HBb.out.set (k := br) (.inr hge) 4 (.int .i64 X)).set (k := bw) (.inl (by simp)) 1 (.int .i64 ((i : Int) + 1 + 1 + 1)))
 have HWc := hide ((HWb.out.far (grown_set wb br 4 (.int .i64 X)) (by simpa using fun e : bw = br => hne2 e.symm)).setI ((i : Int) + 1 + 1 + 1))
 have HRc := hide ((HRb.out.setV X).far (grown_set _ bw 1 (.int .i64 ((i : Int) + 1 + 1 + 1))) (by simpa using hne2))
 generalize ((wb.setCell ⟨br,4,none⟩ (.int .i64 X)).setCell ⟨bw,1,none⟩ (.int .i64 ((i : Int) + 1 + 1 + 1))) = wc at HBc HWc HRc ⊢
 clear d0 d1 e1 r4 rz HBb HWb HRb
 have Mc := H0.out.but (j := i + 3) HBc.out HWc.out (by omega)
 have hs := ref_sum toks vars bw bm gt capt br vv (i + 3) m q t ts rel num _ _ wc (Mc.ctx (by omega)) HF.out HTT.out.1 HTT.out.2.1 HTT.out.2.2.1 HTT.out.2.2.2.1 HTT.out.2.2.2.2.1 HTT.out.2.2.2.2.2.1 HTT.out.2.2.2.2.2.2.1 HTT.out.2.2.2.2.2.2.2 _ (HRc.out.toRl rfl _ HRc.out.lt)
 refine hs.mono ?_
 rintro e wj ⟨rfl,hbj,hCj,vL,hRj,hc2,hc3⟩
 have HBj := hide (HBc.out.sub hbj (fun b hb => by simp at hb;rcases hb with rfl | rfl;exact .inl (by simp);exact .inr hge))
 have HWj := hide hCj.wk
 have HRj0 := hide (HRc.out.ofRl hRj hc2 hc3)
 have HPj0 := hide (hRj.own.mono (base' := B) (by have := Mc.hB;omega))
 obtain ⟨R,hR⟩ : ∃ R : PRul,R = ⟨119,(t :: ts).map (termPart vars),vL,rel.s,intVal num.s,X,0,0⟩ := ⟨_,rfl⟩
 have HRj : Hid (Br wj br R) := by rw [hR];exact HRj0.out
 have HPj : Hid (wj.ownsRow B 183 2 R.pv R.parts.length (partCells R.parts)) := by rw [hR];exact HPj0.out
 have HRR := hide hR
 clear Mc hs hbj hCj hRj hc2 hc3 HRj0 HPj0 hR
 go_wp2
 have Mj := H0.out.but (j := q + 2) HBj.out HWj.out (by omega)
 obtain ⟨r0,r1,r2,r3,r4,r5,r6,rz,rl⟩ := HRj.out
 have m3 := Mj.m3
 have mf3 := Mj.f3
 have hbl2 := Mj.tk.ltm
 have HMj := hide Mj
 have HOWN := hide (Mj.orr.kept ((World.grownBy_alloc wj (.cells #[.int .u8 R.sort,R.pv,.string R.rel,.int .i64 R.n,.int .i64 R.v,.int .i64 R.w,.int .i64 R.x] 176) none).trans (grown_drew' _ none)) (by cases vr.ownBlock with
  | none => exact .inl rfl
  | some g => exact .inr (by simp)))
 have HNEWS : Hid (∀ jj u,[Value.int .u8 R.sort,R.pv,.string R.rel,.int .i64 R.n,.int .i64 R.v,.int .i64 R.w,.int .i64 R.x][jj]? = some u → (wj.alloc (.cells #[.int .u8 R.sort,R.pv,.string R.rel,.int .i64 R.n,.int .i64 R.v,.int .i64 R.w,.int .i64 R.x] 176)).drew.cell? ((⟨wj.heap.size,0,none⟩ : Addr).add jj) = some u) :=
  World.news_of_block (cs := #[.int .u8 R.sort,R.pv,.string R.rel,.int .i64 R.n,.int .i64 R.v,.int .i64 R.w,.int .i64 R.x]) (t := 176) (fr := (0,0)) (heap_alloc_new wj _)
 have KEEP : Hid (∀ wA,(wj.alloc (.cells #[.int .u8 R.sort,R.pv,.string R.rel,.int .i64 R.n,.int .i64 R.v,.int .i64 R.w,.int .i64 R.x] 176)).drew.grownBy wA vr.ownBlock → wA.frozen? ⟨bm,3,none⟩ = false ∧ wA.cell? ⟨bm,3,none⟩ = some vr) := by
  intro wA hg
  have g0 : wj.grownBy (wj.alloc (.cells #[.int .u8 R.sort,R.pv,.string R.rel,.int .i64 R.n,.int .i64 R.v,.int .i64 R.w,.int .i64 R.x] 176)).drew none := (World.grownBy_alloc wj _ none).trans (grown_drew' _ none)
  have hlow : some bm ≠ vr.ownBlock := fun e => by have := (HMj.out.orr.lt _ e.symm).1;have := HMj.out.hbm;omega
  exact ⟨(hg.frozen_far ⟨bm,3,none⟩ (Nat.lt_of_lt_of_le HMj.out.tk.ltm g0.size) hlow).trans ((g0.frozen_far ⟨bm,3,none⟩ HMj.out.tk.ltm (by simp)).trans HMj.out.f3),hg.cell (g0.cell HMj.out.m3 (by simp)) hlow⟩
 have hBs : B ≤ wj.heap.size := Mj.hB
 have hrn : rules.length ≤ 2000 := by have := H0.out.lr;omega
 have HOC : Hid (R.pv.oneCell' = true) := own_one HPj.out
 clear Mj rz
 go_region_law ((refine step_append_lies _ (by rfl) _ _ 114 (by rfl) B 176 i0 (.agg #[.int .u8 0,.slice none 0 0,.string .empty,.int .i64 0,.int .i64 0,.int .i64 0,.int .i64 0]) 7 80 Tryz.underlying114 hi0 hz0 hz1 hz2 rfl (by decide) vr rules.length (rulCells rules) (by rfl) HOWN.out ⟨wj.heap.size,0,none⟩ 1 1 [.int .u8 R.sort,R.pv,.string R.rel,.int .i64 R.n,.int .i64 R.v,.int .i64 R.w,.int .i64 R.x] (by rfl) rfl HNEWS.out (rul_one HOC.out) (by decide) (by unfold maxLen;omega) (by omega) (by simp;omega) _ rfl ?_;intro gA capA wA hownA hgrowA hatA hltA;obtain ⟨q1,q2⟩ := KEEP.out wA hgrowA))
 all_goals
  have HP := hide (HMj.out.pushRule (x := R) (by have := H0.out.lr;omega) HPj.out hownA hgrowA)
  clear HOWN HNEWS KEEP hownA hgrowA hatA hltA m3 mf3 r0 r1 r2 r3 r4 r5 r6 rl
  go_wp2
  go_end0
  refine ⟨rfl,(HBj.out.toB H0.out.hB (fun k hk => by simp at hk;simp [hk])).trans HP.out.2,?_⟩
  have h1 := HP.out.1;rw [HRR.out,← HX.out] at h1;exact ⟨_,_,h1⟩
end
section
set_option maxHeartbeats 2000000
set_option maxRecDepth 100000
attribute [local go_sem ↓] Go.wp_at_zero Go.wp_at_succ
def atSt (vars : List PVar) (lists : List PLst) (nr : Nat) (kw nl np ne : PTok) (st : FSt) : FSt :=
 flt (decide (varX vars ne.s < 0)) 4 ne.line (flt (decide (varX vars np.s < 0)) 4 np.line (flt (decide (lstX lists nl.s < 0)) 4 nl.line (flt (decide (16 ≤ (nr : Int))) 6 kw.line st)))
theorem ref_stAt (w0 : World) (bw bm gt capt B : Nat) (toks : List PTok) (vv vl vr : Value) (vars : List PVar) (lists : List PLst) (rules : List PRul) (i : Nat) (kind line : Int) (kw nl np ne : PTok) (h : Md w0 bw bm gt capt B toks vv vl vr vars lists rules i kind line) (hk : toks[i]? = some kw) (hks : kw.s = ⟨#[97,116]⟩) (hnl : toks[i + 1]? = some nl) (hnp : toks[i + 3]? = some np) (hne' : toks[i + 6]? = some ne) : Calls Tryz.prog 54 #[.pointer (some ⟨bw,0,none⟩)] w0 fun e w' => e = .returned (.tuple #[]) ∧ ButB B [bw,bm] w0 w' ∧
   ∃ vr',Md w' bw bm gt capt B toks vv vl vr' vars lists (rules ++ [⟨97,[],.slice none 0 0,⟨#[]⟩,0,varX vars np.s,varX vars ne.s,lstX lists nl.s⟩]) (i + 7) (atSt vars lists rules.length kw nl np ne (kind,line)).1 (atSt vars lists rules.length kw nl np ne (kind,line)).2 := by
 obtain ⟨n1,n2,n3⟩ := at_tok hnl
 obtain ⟨p1,p2,p3⟩ := at_tok hnp
 obtain ⟨x1,x2,x3⟩ := at_tok hne'
 have HN := hide (And.intro n1 (And.intro n2 (And.intro p1 (And.intro p2 (And.intro x1 x2)))))
 clear hnl hnp hne' n1 n2 p1 p2 x1 x2
 obtain ⟨i0,hi0,hz0,hz1,hz2⟩ := info_parts infoRule
 obtain ⟨k1,k2,k3⟩ := at_tok hk
 have hn := h.hn
 have c0 := h.wk.c0
 have H0 := hide h
 have hC0 := h.ctx (by omega)
 have HFB := hide (fun b (hb : w0.heap.size ≤ b) => hC0.far_new hb)
 have hpk := ctx_peek hC0 (by omega)
 rw [k1,hks] at hpk
 have HPK := hide hpk
 have HK2 := hide k2
 clear hpk h hC0 k1 k2 hk hks
 go_enter Tryz.func54,Tryz.ntmps54
 go_wp2_with fail
 refine (unhide HPK).mono ?_
 rintro e w1 ⟨rfl,hg1,hC1⟩
 have HB1 := hide (But.of_grown (S := [bw]) hg1 (fun k e => by cases e;simp))
 have M1 := H0.out.but HB1.out hC1.wk (Nat.le_refl _)
 obtain ⟨ar,capr,hvr⟩ := shape_of M1.orr
 obtain ⟨d0,d1,_,_,e1,_,_,_⟩ := hC1.wk
 have m3 := M1.m3
 have hne := M1.ne1
 rw [hvr] at m3
 have HVR := hide hvr
 have hset := fun W o u b' o' h => cell_set W bw o u b' o' h
 have hf1 := ctx_fault (M1.ctx (by omega)) k3 (decide (16 ≤ (rules.length : Int))) 6
 rw [HK2.out] at hf1
 have HF1 := hide hf1
 clear hg1 hC1 c0 HPK hvr M1 hf1
 go_wp2_with fail
 refine (unhide HF1).mono ?_
 rintro e w2 ⟨rfl,hg2,hC2⟩
 have HB2 := hide (HB1.out.walk hg2)
 have HW2 := hide hC2.wk
 have hlt2 := hC2.wk.lt
 clear d0 d1 e1 m3 HF1 HB1
 obtain ⟨d0,d1,_,_,e1,_,_,_⟩ := hC2.wk
 clear hg2 hC2
 go_wp2_with fail
 have HBa := hide ((HB2.out.set (k := bw) (.inl (by simp)) 1 (.int .i64 ((i : Int) + 1))).alloc (.cells #[.int .u8 (((ByteArray.mk #[97,116])[0].toNat : Int)),.slice none 0 0,.string ⟨#[]⟩,.int .i64 0,.int .i64 0,.int .i64 0,.int .i64 0] 176))
 have HWa := hide ((HW2.out.setI ((i : Int) + 1)).far (World.grownBy_alloc _ (.cells #[.int .u8 (((ByteArray.mk #[97,116])[0].toNat : Int)),.slice none 0 0,.string ⟨#[]⟩,.int .i64 0,.int .i64 0,.int .i64 0,.int .i64 0] 176) none) (by simp))
 have HRa := hide (br_new (w2.setCell ⟨bw,1,none⟩ (.int .i64 ((i : Int) + 1))) (((ByteArray.mk #[97,116])[0].toNat : Int)) 176)
 have hszc : (w2.setCell ⟨bw,1,none⟩ (.int .i64 ((i : Int) + 1))).heap.size = w2.heap.size := by simp [World.setCell]
 rw [hszc] at HRa
 have hge : w0.heap.size ≤ w2.heap.size := HB2.out.size
 have hne2 : (w2.heap.size : Nat) ≠ bw := by omega
 generalize ((w2.setCell ⟨bw,1,none⟩ (.int .i64 ((i : Int) + 1))).alloc (.cells #[.int .u8 (((ByteArray.mk #[97,116])[0].toNat : Int)),.slice none 0 0,.string ⟨#[]⟩,.int .i64 0,.int .i64 0,.int .i64 0,.int .i64 0] 176)) = wa at HBa HWa HRa ⊢
 clear hszc
 generalize w2.heap.size = br at hne2 hge HRa hlt2 ⊢
 clear d0 d1 e1 HW2 HB2
 have HF := hide (HFB.out br hge)
 have Ma := H0.out.but (j := i + 1) HBa.out HWa.out (by omega)
 have hp := ctx_peek (Ma.ctx (by omega)) (by omega)
 rw [HN.out.1] at hp
 refine hp.mono ?_
 rintro e wb ⟨rfl,hgb,hCb⟩
 have HBb := hide (HBa.out.walk hgb)
 have hRb := HRa.out.far hgb (by simpa using hne2)
 have HRb := hide hRb
 have HWb := hide hCb.wk
 have Mb := H0.out.but (j := i + 1) HBb.out hCb.wk (by omega)
 have hl := ref_listOf nl.s (lnames lists) vl bm wb (by have := H0.out.ll;simp [lnames];omega) Mb.m2 (own_lists Mb.ol)
 obtain ⟨X,hX⟩ : ∃ x,lstX lists nl.s = x := ⟨_,rfl⟩
 rw [show findName nl.s (lnames lists) 0 = X from hX] at hl
 have HX := hide hX
 have HL := hide hl
 have hf := ctx_fault (((H0.out.but (j := i + 1) (HBb.out.set (k := br) (.inr hge) 6 (.int .i64 X)) (HWb.out.far (grown_set wb br 6 (.int .i64 X)) (by simpa using fun e : bw = br => hne2 e.symm)) (by omega))).ctx (by omega)) n3 (decide (X < 0)) 4
 rw [HN.out.2.1] at hf
 have HFA := hide hf
 have r6 := hRb.c6
 have rz := hRb.fz 6
 clear hCb hgb hp Ma HBa HWa HRa hX hRb hl hf Mb
 go_wp2_with fail
 refine (unhide HL).mono ?_
 rintro e w9 ⟨rfl,hww⟩
 subst w9
 go_wp2_with fail
 refine (unhide HFA).mono ?_
 rintro e wc ⟨rfl,hgc,hCc⟩
 have HBc := hide ((HBb.out.set (k := br) (.inr hge) 6 (.int .i64 X)).walk hgc)
 have hRc := ((HRb.out.setX X).far hgc (by simpa using hne2))
 have HRc := hide hRc
 have HWc := hide hCc.wk
 clear r6 rz HL HFA HBb HRb HWb
 obtain ⟨d0,d1,_,_,e1,_,_,_⟩ := hCc.wk
 clear hCc hgc hRc
 go_wp2_with fail
 have HBd := hide (HBc.out.set (k := bw) (.inl (by simp)) 1 (.int .i64 ((i : Int) + 1 + 2)))
 have HWd := hide (HWc.out.setI ((i : Int) + 1 + 2))
 have HRd := hide (HRc.out.far (grown_set _ bw 1 (.int .i64 ((i : Int) + 1 + 2))) (by simpa using hne2))
 generalize (wc.setCell ⟨bw,1,none⟩ (.int .i64 ((i : Int) + 1 + 2))) = wd at HBd HWd HRd ⊢
 clear d0 d1 e1 HBc HWc HRc
 have Md' := H0.out.but (j := i + 3) HBd.out HWd.out (by omega)
 have hu := ctx_used (Md'.ctx (by omega)) p3
 rw [HN.out.2.2.1,HN.out.2.2.2.1] at hu
 refine hu.mono ?_
 rintro e we ⟨rfl,hge',hCe⟩
 have HBe := hide (HBd.out.walk hge')
 have hRe := HRd.out.far hge' (by simpa using hne2)
 have HRe := hide hRe
 have HWe := hide hCe.wk
 obtain ⟨d0,d1,_,_,e1,_,_,_⟩ := hCe.wk
 have r4 := hRe.c4
 have rz := hRe.fz 4
 obtain ⟨Y,hY⟩ : ∃ x,varX vars np.s = x := ⟨_,rfl⟩
 rw [hY]
 have HY := hide hY
 have hset2 := fun W o u b' o' h => cell_set W br o u b' o' h
 clear hCe hge' hu Md' HBd HWd HRd hY hRe
 go_wp2_with fail
 have HBf := hide ((HBe.out.set (k := br) (.inr hge) 4 (.int .i64 Y)).set (k := bw) (.inl (by simp)) 1 (.int .i64 ((i : Int) + 3 + 1 + 2)))
 have HWf := hide ((HWe.out.far (grown_set we br 4 (.int .i64 Y)) (by simpa using fun e : bw = br => hne2 e.symm)).setI ((i : Int) + 3 + 1 + 2))
 have HRf := hide ((HRe.out.setV Y).far (grown_set _ bw 1 (.int .i64 ((i : Int) + 3 + 1 + 2))) (by simpa using hne2))
 generalize ((we.setCell ⟨br,4,none⟩ (.int .i64 Y)).setCell ⟨bw,1,none⟩ (.int .i64 ((i : Int) + 3 + 1 + 2))) = wf at HBf HWf HRf ⊢
 clear d0 d1 e1 r4 rz HBe HWe HRe
 have Mf := H0.out.but (j := i + 6) HBf.out HWf.out (by omega)
 have hu2 := ctx_used (Mf.ctx (by omega)) x3
 rw [HN.out.2.2.2.2.1,HN.out.2.2.2.2.2] at hu2
 refine hu2.mono ?_
 rintro e wg ⟨rfl,hgg,hCg⟩
 have hRg := HRf.out.far hgg (by simpa using hne2)
 have r5 := hRg.c5
 have rz := hRg.fz 5
 obtain ⟨Z,hZ⟩ : ∃ x,varX vars ne.s = x := ⟨_,rfl⟩
 rw [hZ]
 have HZ := hide hZ
 have HBj := hide ((HBf.out.walk hgg).set (k := br) (.inr hge) 5 (.int .i64 Z))
 have HWj := hide (hCg.wk.far (grown_set wg br 5 (.int .i64 Z)) (by simpa using fun e : bw = br => hne2 e.symm))
 have HRj0 := hide (hRg.setW Z)
 clear hCg hgg hu2 Mf HBf HWf HRf hZ hRg
 go_wp2
 generalize (wg.setCell ⟨br,5,none⟩ (.int .i64 Z)) = wj at HBj HWj HRj0 ⊢
 clear r5 rz
 obtain ⟨R,hR⟩ : ∃ R : PRul,R = ⟨97,[],.slice none 0 0,⟨#[]⟩,0,Y,Z,X⟩ := ⟨_,rfl⟩
 have HRj : Hid (Br wj br R) := by rw [hR];exact HRj0.out
 have HPj : Hid (wj.ownsRow B 183 2 R.pv R.parts.length (partCells R.parts)) := by rw [hR];exact World.ownsRow_nil _ _ _ _
 have HRR := hide hR
 clear HRj0 hR
 have Mj := H0.out.but (j := i + 7) HBj.out HWj.out (by omega)
 obtain ⟨r0,r1,r2,r3,r4,r5,r6,rz,rl⟩ := HRj.out
 have m3 := Mj.m3
 have mf3 := Mj.f3
 have hbl2 := Mj.tk.ltm
 have HMj := hide Mj
 have HOWN := hide (Mj.orr.kept ((World.grownBy_alloc wj (.cells #[.int .u8 R.sort,R.pv,.string R.rel,.int .i64 R.n,.int .i64 R.v,.int .i64 R.w,.int .i64 R.x] 176) none).trans (grown_drew' _ none)) (by cases vr.ownBlock with
  | none => exact .inl rfl
  | some g => exact .inr (by simp)))
 have HNEWS : Hid (∀ jj u,[Value.int .u8 R.sort,R.pv,.string R.rel,.int .i64 R.n,.int .i64 R.v,.int .i64 R.w,.int .i64 R.x][jj]? = some u → (wj.alloc (.cells #[.int .u8 R.sort,R.pv,.string R.rel,.int .i64 R.n,.int .i64 R.v,.int .i64 R.w,.int .i64 R.x] 176)).drew.cell? ((⟨wj.heap.size,0,none⟩ : Addr).add jj) = some u) :=
  World.news_of_block (cs := #[.int .u8 R.sort,R.pv,.string R.rel,.int .i64 R.n,.int .i64 R.v,.int .i64 R.w,.int .i64 R.x]) (t := 176) (fr := (0,0)) (heap_alloc_new wj _)
 have KEEP : Hid (∀ wA,(wj.alloc (.cells #[.int .u8 R.sort,R.pv,.string R.rel,.int .i64 R.n,.int .i64 R.v,.int .i64 R.w,.int .i64 R.x] 176)).drew.grownBy wA vr.ownBlock → wA.frozen? ⟨bm,3,none⟩ = false ∧ wA.cell? ⟨bm,3,none⟩ = some vr) := by
  intro wA hg
  have g0 : wj.grownBy (wj.alloc (.cells #[.int .u8 R.sort,R.pv,.string R.rel,.int .i64 R.n,.int .i64 R.v,.int .i64 R.w,.int .i64 R.x] 176)).drew none := (World.grownBy_alloc wj _ none).trans (grown_drew' _ none)
  have hlow : some bm ≠ vr.ownBlock := fun e => by have := (HMj.out.orr.lt _ e.symm).1;have := HMj.out.hbm;omega
  exact ⟨(hg.frozen_far ⟨bm,3,none⟩ (Nat.lt_of_lt_of_le HMj.out.tk.ltm g0.size) hlow).trans ((g0.frozen_far ⟨bm,3,none⟩ HMj.out.tk.ltm (by simp)).trans HMj.out.f3),hg.cell (g0.cell HMj.out.m3 (by simp)) hlow⟩
 have hBs : B ≤ wj.heap.size := Mj.hB
 have hrn : rules.length ≤ 2000 := by have := H0.out.lr;omega
 have HOC : Hid (R.pv.oneCell' = true) := own_one HPj.out
 clear Mj rz
 go_region_law ((refine step_append_lies _ (by rfl) _ _ 114 (by rfl) B 176 i0 (.agg #[.int .u8 0,.slice none 0 0,.string .empty,.int .i64 0,.int .i64 0,.int .i64 0,.int .i64 0]) 7 80 Tryz.underlying114 hi0 hz0 hz1 hz2 rfl (by decide) vr rules.length (rulCells rules) (by rfl) HOWN.out ⟨wj.heap.size,0,none⟩ 1 1 [.int .u8 R.sort,R.pv,.string R.rel,.int .i64 R.n,.int .i64 R.v,.int .i64 R.w,.int .i64 R.x] (by rfl) rfl HNEWS.out (rul_one HOC.out) (by decide) (by unfold maxLen;omega) (by omega) (by simp;omega) _ rfl ?_;intro gA capA wA hownA hgrowA hatA hltA;obtain ⟨q1,q2⟩ := KEEP.out wA hgrowA))
 all_goals
  have HP := hide (HMj.out.pushRule (x := R) (by have := H0.out.lr;omega) HPj.out hownA hgrowA)
  clear HOWN HNEWS KEEP hownA hgrowA hatA hltA m3 mf3 r0 r1 r2 r3 r4 r5 r6 rl
  go_wp2
  go_end0
  refine ⟨rfl,(HBj.out.toB H0.out.hB (fun k hk => by simp at hk;simp [hk])).trans HP.out.2,?_⟩
  have h1 := HP.out.1;rw [HRR.out,← HX.out,← HY.out,← HZ.out] at h1;exact ⟨_,h1⟩
end
section
set_option maxHeartbeats 2000000
set_option maxRecDepth 100000
attribute [local go_sem ↓] Go.wp_at_zero Go.wp_at_succ
def SerAt (toks : List PTok) : Nat → List PTok → Nat → Prop
 | i,[],j => i = j
 | i,n :: ns,j => (∃ c,toks[i]? = some c ∧ c.s.toList = [44]) ∧ toks[i + 1]? = some n ∧ SerAt toks (i + 2) ns j
def nameSt (vars : List PVar) (k : Nat) (n : PTok) (st : FSt) : FSt := flt (decide (varX vars n.s < 0)) 4 n.line (flt (decide (8 < (k : Int))) 6 n.line st)
def namesSt (vars : List PVar) : Nat → List PTok → FSt → FSt
 | _,[],st => st
 | k,n :: ns,st => namesSt vars (k + 1) ns (nameSt vars k n st)
def namePart (vars : List PVar) (n : PTok) : Int × Int := (0,varX vars n.s)
def diffSt (vars : List PVar) (nr : Nat) (kw : PTok) (ns : List PTok) (st : FSt) : FSt := namesSt vars 1 ns (flt (decide (16 ≤ (nr : Int))) 6 kw.line st)
def DiffRel (toks : List PTok) (vars : List PVar) (bw bm br : Nat) (B' i j : Nat) (ST : FSt) (PARTS : List (Int × Int)) (C : Nat → Option Value) (w0 : World) (n : Nat) (vk : Value) (wr : World) : Prop :=
 ∃ (k p : Nat) (rem : List PTok) (done : List (Int × Int)) (kd ln : Int) (vL : Value),n = rem.length ∧ vk = .int .i64 k ∧ k ≤ p + 1 ∧ done.length ≤ p ∧ p ≤ j ∧ i ≤ p ∧
  ((k = 1 ∧ ∃ n0 ns,rem = n0 :: ns ∧ toks[p]? = some n0 ∧ SerAt toks (p + 1) ns j) ∨ (1 < k ∧ SerAt toks p rem j)) ∧
  Hid (namesSt vars k rem (kd,ln) = ST) ∧ Hid (done ++ rem.map (namePart vars) = PARTS) ∧ B' ≤ wr.heap.size ∧ (wr.cell? ⟨br,2,none⟩ = some (.string ⟨#[]⟩) ∧ wr.cell? ⟨br,3,none⟩ = some (.int .i64 0)) ∧ Rl wr br B' vL done C ∧ But [bw] w0 wr ∧ Wk wr bw bm p kd ln
theorem SerAt.le {toks : List PTok} : ∀ {ns : List PTok} {i j : Nat},SerAt toks i ns j → i ≤ j
 | [],i,j,h => by have : i = j := h;omega
 | n :: ns,i,j,h => by have := SerAt.le h.2.2;omega
theorem Rl.push {wu wA : World} {br B' : Nat} {vL v' : Value} {done : List (Int × Int)} {C : Nat → Option Value} {a X : Int} {o : Obj} (h : Rl wu br B' vL done C) (hown : wA.ownsRow B' 183 2 v' (done.length + 1) (partCells done ++ [.int .i64 a,.int .i64 X])) (hg : (wu.alloc o).grownBy wA vL.ownBlock) : Rl (wA.setCell ⟨br,1,none⟩ v') br B' v' (done ++ [(a,X)]) C := by
 have g0 : wu.grownBy (wu.alloc o) none := World.grownBy_alloc wu o none
 have n1 : some br ≠ vL.ownBlock := fun e => by have := (h.own.lt _ e.symm).1;have := h.brB;omega
 have hl1 : br < (wu.alloc o).heap.size := Nat.lt_of_lt_of_le h.lt g0.size
 have bl : wA.heap[br]? = wu.heap[br]? := (hg.block br hl1 n1).trans (g0.block br h.lt (by simp))
 have rA : ∀ q,wA.cell? ⟨br,q,none⟩ = wu.cell? ⟨br,q,none⟩ := fun q => World.cell?_of_block (a := ⟨br,q,none⟩) bl
 have fA : ∀ q,wA.frozen? ⟨br,q,none⟩ = false := fun q => (World.frozen?_of_block (a := ⟨br,q,none⟩) bl).trans (h.fz q)
 obtain ⟨u2,h2⟩ := h.c2
 obtain ⟨u3,h3⟩ := h.c3
 refine ⟨World.cell?_setCell_same _ _ _ ((rA 1).trans h.c1),(World.frozen?_setCell _ _ _ _).trans (fA 1),⟨u2,(cell_set _ _ _ _ _ _ (by omega)).trans ((rA 2).trans h2)⟩,(World.frozen?_setCell _ _ _ _).trans (fA 2),
  ⟨u3,(cell_set _ _ _ _ _ _ (by omega)).trans ((rA 3).trans h3)⟩,(World.frozen?_setCell _ _ _ _).trans (fA 3),?_,?_,h.brB,fun q a b c => (cell_set _ _ _ _ _ _ (.inr a)).trans ((rA q).trans (h.oth q a b c)),fun q => (World.frozen?_setCell _ _ _ _).trans (fA q)⟩
 ·rw [partCells_snoc,List.length_append]
  exact hown.kept (grown_set wA br 1 v') (by
   cases hv : v'.ownBlock with
   | none => exact .inl rfl
   | some g => exact .inr (fun e => by have := (hown.lt _ hv).1;have := h.brB;cases e;omega))
 ·have := hg.size;have := g0.size;have := h.lt;simp [World.setCell];omega
theorem ref_stDiff (w0 : World) (bw bm gt capt B : Nat) (toks : List PTok) (vv vl vr : Value) (vars : List PVar) (lists : List PLst) (rules : List PRul) (i j : Nat) (kind line : Int) (kw n0 : PTok) (ns : List PTok) (h : Md w0 bw bm gt capt B toks vv vl vr vars lists rules i kind line) (hk : toks[i]? = some kw) (hks : kw.s = ⟨#[100,105,102,102]⟩) (hn0 : toks[i + 1]? = some n0) (hns : SerAt toks (i + 2) ns j) (hj : j ≤ toks.length) (hend : (peekS toks j).toList ≠ [44]) : Calls Tryz.prog 54 #[.pointer (some ⟨bw,0,none⟩)] w0 fun e w' => e = .returned (.tuple #[]) ∧ ButB B [bw,bm] w0 w' ∧
   ∃ vr' pv,Md w' bw bm gt capt B toks vv vl vr' vars lists (rules ++ [⟨100,(n0 :: ns).map (namePart vars),pv,⟨#[]⟩,0,0,0,0⟩]) j (diffSt vars rules.length kw (n0 :: ns) (kind,line)).1 (diffSt vars rules.length kw (n0 :: ns) (kind,line)).2 := by
 obtain ⟨ip,hip,hy0,hy1,hy2⟩ := info_parts infoPart
 have hij := hns.le
 have HSER := hide (And.intro hn0 hns)
 have HEND := hide hend
 clear hn0 hns hend
 obtain ⟨i0,hi0,hz0,hz1,hz2⟩ := info_parts infoRule
 obtain ⟨k1,k2,k3⟩ := at_tok hk
 have hn := h.hn
 have c0 := h.wk.c0
 have H0 := hide h
 have hC0 := h.ctx (by omega)
 have HFB := hide (fun b (hb : w0.heap.size ≤ b) => hC0.far_new hb)
 have hpk := ctx_peek hC0 (by omega)
 rw [k1,hks] at hpk
 have HPK := hide hpk
 have HK2 := hide k2
 clear hpk h hC0 k1 k2 hk hks
 go_enter Tryz.func54,Tryz.ntmps54
 go_wp2_with fail
 refine (unhide HPK).mono ?_
 rintro e w1 ⟨rfl,hg1,hC1⟩
 have HB1 := hide (But.of_grown (S := [bw]) hg1 (fun k e => by cases e;simp))
 have M1 := H0.out.but HB1.out hC1.wk (Nat.le_refl _)
 obtain ⟨ar,capr,hvr⟩ := shape_of M1.orr
 obtain ⟨d0,d1,_,_,e1,_,_,_⟩ := hC1.wk
 have m3 := M1.m3
 have hne := M1.ne1
 rw [hvr] at m3
 have HVR := hide hvr
 have hset := fun W o u b' o' h => cell_set W bw o u b' o' h
 have hf1 := ctx_fault (M1.ctx (by omega)) k3 (decide (16 ≤ (rules.length : Int))) 6
 rw [HK2.out] at hf1
 have HF1 := hide hf1
 clear hg1 hC1 c0 HPK hvr M1 hf1
 go_wp2_with fail
 refine (unhide HF1).mono ?_
 rintro e w2 ⟨rfl,hg2,hC2⟩
 have HB2 := hide (HB1.out.walk hg2)
 have HW2 := hide hC2.wk
 have hlt2 := hC2.wk.lt
 clear d0 d1 e1 m3 HF1 HB1
 obtain ⟨d0,d1,_,_,e1,_,_,_⟩ := hC2.wk
 clear hg2 hC2
 go_wp2_with fail
 have HBa := hide ((HB2.out.set (k := bw) (.inl (by simp)) 1 (.int .i64 ((i : Int) + 1))).alloc (.cells #[.int .u8 (((ByteArray.mk #[100,105,102,102])[0].toNat : Int)),.slice none 0 0,.string ⟨#[]⟩,.int .i64 0,.int .i64 0,.int .i64 0,.int .i64 0] 176))
 have HWa := hide ((HW2.out.setI ((i : Int) + 1)).far (World.grownBy_alloc _ (.cells #[.int .u8 (((ByteArray.mk #[100,105,102,102])[0].toNat : Int)),.slice none 0 0,.string ⟨#[]⟩,.int .i64 0,.int .i64 0,.int .i64 0,.int .i64 0] 176) none) (by simp))
 have HRa := hide (br_new (w2.setCell ⟨bw,1,none⟩ (.int .i64 ((i : Int) + 1))) (((ByteArray.mk #[100,105,102,102])[0].toNat : Int)) 176)
 have hszc : (w2.setCell ⟨bw,1,none⟩ (.int .i64 ((i : Int) + 1))).heap.size = w2.heap.size := by simp [World.setCell]
 rw [hszc] at HRa
 have hge : w0.heap.size ≤ w2.heap.size := HB2.out.size
 have hne2 : (w2.heap.size : Nat) ≠ bw := by omega
 generalize ((w2.setCell ⟨bw,1,none⟩ (.int .i64 ((i : Int) + 1))).alloc (.cells #[.int .u8 (((ByteArray.mk #[100,105,102,102])[0].toNat : Int)),.slice none 0 0,.string ⟨#[]⟩,.int .i64 0,.int .i64 0,.int .i64 0,.int .i64 0] 176)) = wa at HBa HWa HRa ⊢
 clear hszc
 generalize w2.heap.size = br at hne2 hge HRa hlt2 ⊢
 clear d0 d1 e1 HW2 HB2
 have HF := hide (HFB.out br hge)
 have HSTART : Hid (DiffRel toks vars bw bm br wa.heap.size i j (diffSt vars rules.length kw (n0 :: ns) (kind,line)) ((n0 :: ns).map (namePart vars)) (fun q => wa.cell? ⟨br,q,none⟩) w0 (ns.length + 1) (.int .i64 1) wa) :=
  ⟨1,i + 1,n0 :: ns,[],_,_,_,rfl,rfl,by omega,by simp,by omega,by omega,.inl ⟨rfl,n0,ns,rfl,HSER.out.1,HSER.out.2⟩,rfl,rfl,Nat.le_refl _,⟨HRa.out.c2,HRa.out.c3⟩,HRa.out.toRl rfl _ HRa.out.lt,HBa.out,HWa.out⟩
 have hBa : B ≤ wa.heap.size := by have := H0.out.hB;have := HBa.out.size;omega
 have hB0 : w0.heap.size ≤ wa.heap.size := HBa.out.size
 obtain ⟨B',hB'⟩ : ∃ b,wa.heap.size = b := ⟨_,rfl⟩
 obtain ⟨C,hC⟩ : ∃ c : Nat → Option Value,(fun q => wa.cell? ⟨br,q,none⟩) = c := ⟨_,rfl⟩
 rw [hB',hC] at HSTART
 rw [hB'] at hBa hB0
 have HCC := hide hC
 obtain ⟨ST,hSTd⟩ : ∃ s,diffSt vars rules.length kw (n0 :: ns) (kind,line) = s := ⟨_,rfl⟩
 obtain ⟨PARTS,hPd⟩ : ∃ s,(n0 :: ns).map (namePart vars) = s := ⟨_,rfl⟩
 rw [hSTd,hPd] at HSTART
 have HRA := hide HRa.out
 have HFIN := hide (And.intro hSTd hPd)
 obtain ⟨N,hN⟩ : ∃ n,ns.length + 1 = n := ⟨_,rfl⟩
 rw [hN] at HSTART
 clear hC hSTd hPd hN HSER HRa HBa HWa hB'
 go_loopg [10] N (fun n vk wr => DiffRel toks vars bw bm br B' i j ST PARTS C w0 n vk wr)
 case atStart => exact HSTART
 case round =>
  clear HSTART
  obtain ⟨k,p,rem,done,kd,ln,vL,rfl,rfl,hkp,hdl,hpj,hip0,hcase,hST,hPP,hBr,h23,hRl,hBut,hWk⟩ := hrel
  have HPI := hide hip0
  have H23 := hide h23
  clear h23
  have HBq0 := hide hBut
  have HWq0 := hide hWk
  have HRq0 := hide hRl
  clear hBut hWk hRl
  rcases hcase with ⟨rfl,n,ns',rfl,hnp,hser⟩ | ⟨hk1,hser⟩
  ·have hBq : B' ≤ wr.heap.size := hBr
   have HBq := HBq0
   have HWq := HWq0
   have HRq := HRq0
   have HQ23 := H23
   have HNP := hide (And.intro hnp hser)
   clear hnp hser HBq0 HWq0 HRq0
   go_wp2_with fail
   have Mq := H0.out.but (j := p) HBq.out HWq.out (by have := HPI.out;omega)
   obtain ⟨t1,t2,t3⟩ := at_tok HNP.out.1
   have hf := ctx_fault (Mq.ctx (by omega)) t3 (false) 6
   rw [t2] at hf
   have HT1 := hide (And.intro t1 t2)
   clear Mq t1 t2
   refine hf.mono ?_
   rintro e wf ⟨rfl,hgf,hCf⟩
   have hbwB : bw < B' := by have := H0.out.hbw;omega
   have hBf : B' ≤ wf.heap.size := by have := hgf.size;omega
   have hrw : ∀ b,some bw = some b → b ≠ br ∧ vL.ownBlock ≠ some b := fun b e => by cases e;exact ⟨fun e => hne2 e.symm,fun e => by have := (HRq.out.own.lt _ e).1;omega⟩
   have hRf := HRq.out.grown hgf hrw
   have HRf := hide hRf
   have HF23 : Hid (wf.cell? ⟨br,2,none⟩ = some (.string ⟨#[]⟩) ∧ wf.cell? ⟨br,3,none⟩ = some (.int .i64 0)) := ⟨hgf.cell HQ23.out.1 (by simpa using hne2),hgf.cell HQ23.out.2 (by simpa using hne2)⟩
   have HBf := hide (HBq.out.walk hgf)
   have Mf := H0.out.but (j := p) HBf.out hCf.wk (by have := HPI.out;omega)
   have hu := ctx_used ((Mf.ctx (by omega)).drew) t3
   rw [HT1.out.1,HT1.out.2] at hu
   obtain ⟨X,hX⟩ : ∃ x,varX vars n.s = x := ⟨_,rfl⟩
   have HU := hide hu
   have HX := hide hX
   rw [hX] at HU
   have HBD := hide HBf.out.drew
   have r1 := hRf.c1
   have rf1 := hRf.f1
   have hlr := hRf.lt
   have hnbr : br ≠ bw := hne2
   have HRD := hide (hRf.grown (grown_drew' _ none) (fun b e => by cases e))
   clear hf hgf hCf hRf Mf hX hu HBq HWq HRq
   have hdn : done.length ≤ 2000 := by omega
   have HOW : Hid (∀ wu,wf.drew.grownBy wu (some bw) → wu.cell? ⟨br,1,none⟩ = some vL ∧ wu.frozen? ⟨br,1,none⟩ = false ∧ br < wu.heap.size ∧ B' ≤ wu.heap.size ∧ Rl wu br B' vL done C ∧ (wu.alloc (.cells #[.int .i64 0,.int .i64 X] 183)).ownsRow B' 183 2 vL done.length (partCells done)) := by
    intro wu hg
    have hR := HRD.out.grown hg hrw
    refine ⟨hR.c1,hR.f1,hR.lt,?_,hR,hR.own.alloc _⟩
    have h2 := hg.size
    have h3 : wf.drew.heap.size = wf.heap.size := rfl
    omega
   have HKP : Hid (∀ wu wA,Rl wu br B' vL done C → (wu.alloc (.cells #[.int .i64 0,.int .i64 X] 183)).grownBy wA vL.ownBlock → wA.cell? ⟨br,1,none⟩ = some vL ∧ wA.frozen? ⟨br,1,none⟩ = false) := by
    intro wu wA hR hg
    have g0 : wu.grownBy (wu.alloc (.cells #[.int .i64 0,.int .i64 X] 183)) none := World.grownBy_alloc wu _ none
    have n1 : some br ≠ vL.ownBlock := fun e => by have := (hR.own.lt _ e.symm).1;have := hR.brB;omega
    exact ⟨hg.cell (g0.cell hR.c1 (by simp)) n1,(hg.frozen_far ⟨br,1,none⟩ (Nat.lt_of_lt_of_le hR.lt g0.size) n1).trans ((g0.frozen_far ⟨br,1,none⟩ hR.lt (by simp)).trans hR.f1)⟩
   go_wp2
   go_region_law ((first | (refine step_append_lies _ (by rfl) _ _ 174 (by rfl) B' 183 ip (.agg #[.int .i64 0,.int .i64 0]) 2 16 Tryz.underlying174 hip hy0 hy1 hy2 rfl (by decide) vL done.length (partCells done) (by rfl) hOu ⟨wu.heap.size,0,none⟩ 1 1 [.int .i64 0,.int .i64 X] (by rfl) rfl (World.news_of_block (cs := #[.int .i64 0,.int .i64 X]) (t := 183) (fr := (0,0)) (heap_alloc_new wu _)) (part_one _ _) (by decide) (by unfold maxLen;omega) (by omega) (by simp;omega) _ rfl ?_;intro gA capA wA hownA hgrowA hatA hltA;obtain ⟨q1,q2⟩ := HKP.out wu wA hRu hgrowA) | (go_simp;go_at_call 100;refine (unhide HU).mono ?_;rintro e wu ⟨rfl,hgu,hCu⟩;obtain ⟨y1,y2,y3,y4,hRu,hOu⟩ := HOW.out wu hgu)))
   all_goals
    have hRn := hRu.push hownA hgrowA
    have hrow : ∀ b,vL.ownBlock = some b → w0.heap.size ≤ b := fun b e => by have := (hRu.own.lt _ e).1;omega
    have hBn := (((HBD.out.walk hgu).alloc (.cells #[.int .i64 0,.int .i64 X] 183)).grown hgrowA (fun b e => .inr (hrow b e))).set (k := br) (.inr hge) 1 (.slice (some ⟨gA,0,none⟩) (done.length + 1) capA)
    have h23n : (wA.setCell ⟨br,1,none⟩ (.slice (some ⟨gA,0,none⟩) (done.length + 1) capA)).cell? ⟨br,2,none⟩ = some (.string ⟨#[]⟩) ∧ (wA.setCell ⟨br,1,none⟩ (.slice (some ⟨gA,0,none⟩) (done.length + 1) capA)).cell? ⟨br,3,none⟩ = some (.int .i64 0) := by
     have n0 : some br ≠ some bw := by simpa using hnbr
     have n1 : some br ≠ vL.ownBlock := fun e => by have := (hRu.own.lt _ e.symm).1;have := hRu.brB;omega
     have k2 := hgrowA.cell ((World.grownBy_alloc wu (.cells #[.int .i64 0,.int .i64 X] 183) none).cell (hgu.cell (show wf.drew.cell? ⟨br,2,none⟩ = _ from HF23.out.1) n0) (by simp)) n1
     have k3 := hgrowA.cell ((World.grownBy_alloc wu (.cells #[.int .i64 0,.int .i64 X] 183) none).cell (hgu.cell (show wf.drew.cell? ⟨br,3,none⟩ = _ from HF23.out.2) n0) (by simp)) n1
     exact ⟨(cell_set _ _ _ _ _ _ (by omega)).trans k2,(cell_set _ _ _ _ _ _ (by omega)).trans k3⟩
    have hWn := ((hCu.wk.far (World.grownBy_alloc wu (.cells #[.int .i64 0,.int .i64 X] 183) none) (by simp)).far hgrowA (fun e => by have := (hRu.own.lt _ e.symm).1;omega)).far (grown_set wA br 1 (.slice (some ⟨gA,0,none⟩) (done.length + 1) capA)) (by simpa using fun e : bw = br => hne2 e.symm)
    have hBsz : B' ≤ (wA.setCell ⟨br,1,none⟩ (.slice (some ⟨gA,0,none⟩) (done.length + 1) capA)).heap.size := by
     have := hgrowA.size;simp [World.setCell] at this ⊢;omega
    rw [← HX.out] at hWn
    have hle := HNP.out.2.le
    have HREL : Hid (DiffRel toks vars bw bm br B' i j ST PARTS C w0 ns'.length (.int .i64 ((1 + 1 : Nat) : Int)) (wA.setCell ⟨br,1,none⟩ (.slice (some ⟨gA,0,none⟩) (done.length + 1) capA))) :=
     ⟨1 + 1,p + 1,ns',done ++ [(0,X)],_,_,_,rfl,rfl,by omega,by simp;omega,hle,by have := HPI.out;omega,.inr ⟨by omega,HNP.out.2⟩,hST.out,by unfold Hid;rw [← hPP.out,← HX.out];simp [namePart],hBsz,h23n,hRn,hBn,hWn⟩
    clear hRn hBn hWn hBsz h23n hRu hOu hgu hCu hownA hgrowA hatA hltA q1 q2 y1 y2 y3 y4 HU HOW HKP HRD HBD
    go_wp2
    go_roundg ns'.length
    case measure => simp
    case rel => first | exact HREL | (have h1 := HREL.out;simpa using h1)
  ·cases rem with
   | nil =>
    obtain rfl : p = j := hser
    have hk1' : ((k : Int) == 1) = false := by simp;omega
    have Mq := H0.out.but (j := p) HBq0.out HWq0.out (by have := HPI.out;omega)
    have hp := ctx_peek (Mq.ctx (by omega)) (by omega)
    have HP0 := hide hp
    have hnc : ((peekS toks p).toList == [44]) = false := by simpa using HEND.out
    have hbwB : bw < B' := by have := H0.out.hbw;omega
    clear hp Mq
    go_wp2_with fail
    refine (unhide HP0).mono ?_
    rintro e wj ⟨rfl,hgj,hCj⟩
    have HBj := hide (HBq0.out.walk hgj)
    have HWj := hide hCj.wk
    have hRj := HRq0.out.grown hgj (fun b e => by cases e;exact ⟨fun e => hne2 e.symm,fun e => by have := (HRq0.out.own.lt _ e).1;omega⟩)
    have hPS : done = PARTS := by rw [← hPP.out];simp
    have n0 : some br ≠ some bw := by simpa using hne2
    have HRj0 := hide (HRA.out.ofRl (by rw [HCC.out];exact hRj) (hgj.cell H23.out.1 n0) (hgj.cell H23.out.2 n0))
    have HPj0 := hide (hRj.own.mono (base' := B) (by omega))
    obtain ⟨R,hR⟩ : ∃ R : PRul,R = ⟨100,done,vL,⟨#[]⟩,0,0,0,0⟩ := ⟨_,rfl⟩
    have HRj : Hid (Br wj br R) := by rw [hR];exact HRj0.out
    have HPj : Hid (wj.ownsRow B 183 2 R.pv R.parts.length (partCells R.parts)) := by rw [hR];exact HPj0.out
    have HRR := hide (And.intro hR (And.intro hPS hST.out))
    clear hgj hCj hRj hPS HRj0 HPj0 hR HP0 HBq0 HWq0 HRq0 H23
    go_wp2
    have Mj := H0.out.but (j := p) HBj.out HWj.out (by omega)
    obtain ⟨r0,r1,r2,r3,r4,r5,r6,rz,rl⟩ := HRj.out
    have m3 := Mj.m3
    have mf3 := Mj.f3
    have hbl2 := Mj.tk.ltm
    have HMj := hide Mj
    have HOWN := hide (Mj.orr.kept ((World.grownBy_alloc wj (.cells #[.int .u8 R.sort,R.pv,.string R.rel,.int .i64 R.n,.int .i64 R.v,.int .i64 R.w,.int .i64 R.x] 176) none).trans (grown_drew' _ none)) (by cases vr.ownBlock with
     | none => exact .inl rfl
     | some g => exact .inr (by simp)))
    have HNEWS : Hid (∀ jj u,[Value.int .u8 R.sort,R.pv,.string R.rel,.int .i64 R.n,.int .i64 R.v,.int .i64 R.w,.int .i64 R.x][jj]? = some u → (wj.alloc (.cells #[.int .u8 R.sort,R.pv,.string R.rel,.int .i64 R.n,.int .i64 R.v,.int .i64 R.w,.int .i64 R.x] 176)).drew.cell? ((⟨wj.heap.size,0,none⟩ : Addr).add jj) = some u) :=
     World.news_of_block (cs := #[.int .u8 R.sort,R.pv,.string R.rel,.int .i64 R.n,.int .i64 R.v,.int .i64 R.w,.int .i64 R.x]) (t := 176) (fr := (0,0)) (heap_alloc_new wj _)
    have KEEP : Hid (∀ wA,(wj.alloc (.cells #[.int .u8 R.sort,R.pv,.string R.rel,.int .i64 R.n,.int .i64 R.v,.int .i64 R.w,.int .i64 R.x] 176)).drew.grownBy wA vr.ownBlock → wA.frozen? ⟨bm,3,none⟩ = false ∧ wA.cell? ⟨bm,3,none⟩ = some vr) := by
     intro wA hg
     have g0 : wj.grownBy (wj.alloc (.cells #[.int .u8 R.sort,R.pv,.string R.rel,.int .i64 R.n,.int .i64 R.v,.int .i64 R.w,.int .i64 R.x] 176)).drew none := (World.grownBy_alloc wj _ none).trans (grown_drew' _ none)
     have hlow : some bm ≠ vr.ownBlock := fun e => by have := (HMj.out.orr.lt _ e.symm).1;have := HMj.out.hbm;omega
     exact ⟨(hg.frozen_far ⟨bm,3,none⟩ (Nat.lt_of_lt_of_le HMj.out.tk.ltm g0.size) hlow).trans ((g0.frozen_far ⟨bm,3,none⟩ HMj.out.tk.ltm (by simp)).trans HMj.out.f3),hg.cell (g0.cell HMj.out.m3 (by simp)) hlow⟩
    have hBs : B ≤ wj.heap.size := Mj.hB
    have hrn : rules.length ≤ 2000 := by have := H0.out.lr;omega
    have HOC : Hid (R.pv.oneCell' = true) := own_one HPj.out
    clear Mj rz
    go_region_law ((refine step_append_lies _ (by rfl) _ _ 114 (by rfl) B 176 i0 (.agg #[.int .u8 0,.slice none 0 0,.string .empty,.int .i64 0,.int .i64 0,.int .i64 0,.int .i64 0]) 7 80 Tryz.underlying114 hi0 hz0 hz1 hz2 rfl (by decide) vr rules.length (rulCells rules) (by rfl) HOWN.out ⟨wj.heap.size,0,none⟩ 1 1 [.int .u8 R.sort,R.pv,.string R.rel,.int .i64 R.n,.int .i64 R.v,.int .i64 R.w,.int .i64 R.x] (by rfl) rfl HNEWS.out (rul_one HOC.out) (by decide) (by unfold maxLen;omega) (by omega) (by simp;omega) _ rfl ?_;intro gA capA wA hownA hgrowA hatA hltA;obtain ⟨q1,q2⟩ := KEEP.out wA hgrowA))
    all_goals
     have HP := hide (HMj.out.pushRule (x := R) (by have := H0.out.lr;omega) HPj.out hownA hgrowA)
     clear HOWN HNEWS KEEP hownA hgrowA hatA hltA m3 mf3 r0 r1 r2 r3 r4 r5 r6 rl
     go_wp2
     go_end0
     refine ⟨rfl,(HBj.out.toB H0.out.hB (fun k hk => by simp at hk;simp [hk])).trans HP.out.2,?_⟩
     have h1 := HP.out.1;rw [HRR.out.1,HRR.out.2.1,← HFIN.out.2] at h1;rw [HFIN.out.1,← HRR.out.2.2];exact ⟨_,_,h1⟩
   | cons n ns' =>
    obtain ⟨⟨c,hc1,hc2⟩,hnp,hser'⟩ := hser
    have hk1' : ((k : Int) == 1) = false := by simp;omega
    have hk1'' : (1 : Int) < (k : Int) := by omega
    have hpl := (at_tok hc1).2.2
    have Mq := H0.out.but (j := p) HBq0.out HWq0.out (by have := HPI.out;omega)
    have hp := ctx_peek (Mq.ctx (by omega)) (by omega)
    rw [(at_tok hc1).1] at hp
    have HP0 := hide hp
    have hnc : (c.s.toList == [44]) = true := by simpa using hc2
    have hbwB0 : bw < B' := by have := H0.out.hbw;omega
    have HNP := hide (And.intro hnp hser')
    clear hp Mq hc1 hc2 hnp hser'
    go_wp2_with fail
    refine (unhide HP0).mono ?_
    rintro e wp ⟨rfl,hgp,hCp⟩
    have n0' : some br ≠ some bw := by simpa using hne2
    have hRp := HRq0.out.grown hgp (fun b e => by cases e;exact ⟨fun e => hne2 e.symm,fun e => by have := (HRq0.out.own.lt _ e).1;omega⟩)
    have HBq := hide ((HBq0.out.walk hgp).set (k := bw) (.inl (by simp)) 1 (.int .i64 ((p : Int) + 1)))
    have HWq := hide (hCp.wk.setI ((p : Int) + 1))
    have HRq := hide (hRp.grown (grown_set wp bw 1 (.int .i64 ((p : Int) + 1))) (fun b e => by cases e;exact ⟨fun e => hne2 e.symm,fun e => by have := (HRq0.out.own.lt _ e).1;omega⟩))
    have HQ23 : Hid ((wp.setCell ⟨bw,1,none⟩ (.int .i64 ((p : Int) + 1))).cell? ⟨br,2,none⟩ = some (.string ⟨#[]⟩) ∧ (wp.setCell ⟨bw,1,none⟩ (.int .i64 ((p : Int) + 1))).cell? ⟨br,3,none⟩ = some (.int .i64 0)) :=
     ⟨(cell_set _ _ _ _ _ _ (.inl hne2)).trans (hgp.cell H23.out.1 n0'),(cell_set _ _ _ _ _ _ (.inl hne2)).trans (hgp.cell H23.out.2 n0')⟩
    have hBq : B' ≤ (wp.setCell ⟨bw,1,none⟩ (.int .i64 ((p : Int) + 1))).heap.size := by have := hgp.size;simp [World.setCell];omega
    obtain ⟨d0,d1,_,_,e1,_,_,_⟩ := hCp.wk
    clear hgp hCp hRp HP0 HBq0 HWq0 HRq0 H23
    go_wp2_with fail
    generalize (wp.setCell ⟨bw,1,none⟩ (.int .i64 ((p : Int) + 1))) = wq at HBq HWq HRq HQ23 hBq ⊢
    clear d0 d1 e1
    have Mq := H0.out.but (j := p + 1) HBq.out HWq.out (by have := HPI.out;omega)
    obtain ⟨t1,t2,t3⟩ := at_tok HNP.out.1
    have hf := ctx_fault (Mq.ctx (by omega)) t3 (decide (8 < (k : Int))) 6
    rw [t2] at hf
    have HT1 := hide (And.intro t1 t2)
    clear Mq t1 t2
    refine hf.mono ?_
    rintro e wf ⟨rfl,hgf,hCf⟩
    have hbwB : bw < B' := by have := H0.out.hbw;omega
    have hBf : B' ≤ wf.heap.size := by have := hgf.size;omega
    have hrw : ∀ b,some bw = some b → b ≠ br ∧ vL.ownBlock ≠ some b := fun b e => by cases e;exact ⟨fun e => hne2 e.symm,fun e => by have := (HRq.out.own.lt _ e).1;omega⟩
    have hRf := HRq.out.grown hgf hrw
    have HRf := hide hRf
    have HF23 : Hid (wf.cell? ⟨br,2,none⟩ = some (.string ⟨#[]⟩) ∧ wf.cell? ⟨br,3,none⟩ = some (.int .i64 0)) := ⟨hgf.cell HQ23.out.1 (by simpa using hne2),hgf.cell HQ23.out.2 (by simpa using hne2)⟩
    have HBf := hide (HBq.out.walk hgf)
    have Mf := H0.out.but (j := p + 1) HBf.out hCf.wk (by have := HPI.out;omega)
    have hu := ctx_used ((Mf.ctx (by omega)).drew) t3
    rw [HT1.out.1,HT1.out.2] at hu
    obtain ⟨X,hX⟩ : ∃ x,varX vars n.s = x := ⟨_,rfl⟩
    have HU := hide hu
    have HX := hide hX
    rw [hX] at HU
    have HBD := hide HBf.out.drew
    have r1 := hRf.c1
    have rf1 := hRf.f1
    have hlr := hRf.lt
    have hnbr : br ≠ bw := hne2
    have HRD := hide (hRf.grown (grown_drew' _ none) (fun b e => by cases e))
    clear hf hgf hCf hRf Mf hX hu HBq HWq HRq
    have hdn : done.length ≤ 2000 := by omega
    have HOW : Hid (∀ wu,wf.drew.grownBy wu (some bw) → wu.cell? ⟨br,1,none⟩ = some vL ∧ wu.frozen? ⟨br,1,none⟩ = false ∧ br < wu.heap.size ∧ B' ≤ wu.heap.size ∧ Rl wu br B' vL done C ∧ (wu.alloc (.cells #[.int .i64 0,.int .i64 X] 183)).ownsRow B' 183 2 vL done.length (partCells done)) := by
     intro wu hg
     have hR := HRD.out.grown hg hrw
     refine ⟨hR.c1,hR.f1,hR.lt,?_,hR,hR.own.alloc _⟩
     have h2 := hg.size
     have h3 : wf.drew.heap.size = wf.heap.size := rfl
     omega
    have HKP : Hid (∀ wu wA,Rl wu br B' vL done C → (wu.alloc (.cells #[.int .i64 0,.int .i64 X] 183)).grownBy wA vL.ownBlock → wA.cell? ⟨br,1,none⟩ = some vL ∧ wA.frozen? ⟨br,1,none⟩ = false) := by
     intro wu wA hR hg
     have g0 : wu.grownBy (wu.alloc (.cells #[.int .i64 0,.int .i64 X] 183)) none := World.grownBy_alloc wu _ none
     have n1 : some br ≠ vL.ownBlock := fun e => by have := (hR.own.lt _ e.symm).1;have := hR.brB;omega
     exact ⟨hg.cell (g0.cell hR.c1 (by simp)) n1,(hg.frozen_far ⟨br,1,none⟩ (Nat.lt_of_lt_of_le hR.lt g0.size) n1).trans ((g0.frozen_far ⟨br,1,none⟩ hR.lt (by simp)).trans hR.f1)⟩
    go_wp2
    go_region_law ((first | (refine step_append_lies _ (by rfl) _ _ 174 (by rfl) B' 183 ip (.agg #[.int .i64 0,.int .i64 0]) 2 16 Tryz.underlying174 hip hy0 hy1 hy2 rfl (by decide) vL done.length (partCells done) (by rfl) hOu ⟨wu.heap.size,0,none⟩ 1 1 [.int .i64 0,.int .i64 X] (by rfl) rfl (World.news_of_block (cs := #[.int .i64 0,.int .i64 X]) (t := 183) (fr := (0,0)) (heap_alloc_new wu _)) (part_one _ _) (by decide) (by unfold maxLen;omega) (by omega) (by simp;omega) _ rfl ?_;intro gA capA wA hownA hgrowA hatA hltA;obtain ⟨q1,q2⟩ := HKP.out wu wA hRu hgrowA) | (go_simp;go_at_call 100;refine (unhide HU).mono ?_;rintro e wu ⟨rfl,hgu,hCu⟩;obtain ⟨y1,y2,y3,y4,hRu,hOu⟩ := HOW.out wu hgu)))
    all_goals
     have hRn := hRu.push hownA hgrowA
     have hrow : ∀ b,vL.ownBlock = some b → w0.heap.size ≤ b := fun b e => by have := (hRu.own.lt _ e).1;omega
     have hBn := (((HBD.out.walk hgu).alloc (.cells #[.int .i64 0,.int .i64 X] 183)).grown hgrowA (fun b e => .inr (hrow b e))).set (k := br) (.inr hge) 1 (.slice (some ⟨gA,0,none⟩) (done.length + 1) capA)
     have h23n : (wA.setCell ⟨br,1,none⟩ (.slice (some ⟨gA,0,none⟩) (done.length + 1) capA)).cell? ⟨br,2,none⟩ = some (.string ⟨#[]⟩) ∧ (wA.setCell ⟨br,1,none⟩ (.slice (some ⟨gA,0,none⟩) (done.length + 1) capA)).cell? ⟨br,3,none⟩ = some (.int .i64 0) := by
      have n0 : some br ≠ some bw := by simpa using hnbr
      have n1 : some br ≠ vL.ownBlock := fun e => by have := (hRu.own.lt _ e.symm).1;have := hRu.brB;omega
      have k2 := hgrowA.cell ((World.grownBy_alloc wu (.cells #[.int .i64 0,.int .i64 X] 183) none).cell (hgu.cell (show wf.drew.cell? ⟨br,2,none⟩ = _ from HF23.out.1) n0) (by simp)) n1
      have k3 := hgrowA.cell ((World.grownBy_alloc wu (.cells #[.int .i64 0,.int .i64 X] 183) none).cell (hgu.cell (show wf.drew.cell? ⟨br,3,none⟩ = _ from HF23.out.2) n0) (by simp)) n1
      exact ⟨(cell_set _ _ _ _ _ _ (by omega)).trans k2,(cell_set _ _ _ _ _ _ (by omega)).trans k3⟩
     have hWn := ((hCu.wk.far (World.grownBy_alloc wu (.cells #[.int .i64 0,.int .i64 X] 183) none) (by simp)).far hgrowA (fun e => by have := (hRu.own.lt _ e.symm).1;omega)).far (grown_set wA br 1 (.slice (some ⟨gA,0,none⟩) (done.length + 1) capA)) (by simpa using fun e : bw = br => hne2 e.symm)
     have hBsz : B' ≤ (wA.setCell ⟨br,1,none⟩ (.slice (some ⟨gA,0,none⟩) (done.length + 1) capA)).heap.size := by
      have := hgrowA.size;simp [World.setCell] at this ⊢;omega
     rw [← HX.out] at hWn
     have hle := HNP.out.2.le
     have HREL : Hid (DiffRel toks vars bw bm br B' i j ST PARTS C w0 ns'.length (.int .i64 ((k + 1 : Nat) : Int)) (wA.setCell ⟨br,1,none⟩ (.slice (some ⟨gA,0,none⟩) (done.length + 1) capA))) :=
      ⟨k + 1,p + 1 + 1,ns',done ++ [(0,X)],_,_,_,rfl,rfl,by omega,by simp;omega,hle,by have := HPI.out;omega,.inr ⟨by omega,HNP.out.2⟩,hST.out,by unfold Hid;rw [← hPP.out,← HX.out];simp [namePart],hBsz,h23n,hRn,hBn,hWn⟩
     clear hRn hBn hWn hBsz h23n hRu hOu hgu hCu hownA hgrowA hatA hltA q1 q2 y1 y2 y3 y4 HU HOW HKP HRD HBD
     go_wp2
     go_roundg ns'.length
     case measure => simp
     case rel => first | exact HREL | (have h1 := HREL.out;simpa using h1)
end
end Go.Proofs.YthpcbbnabnlanaaGreatDoor
