import Derived.Test.YthpcbbnabnlanaaGreatDoorM09
import Derived.Test.YthpcbbnabnlanaaGreatDoorM10
import Derived.Maps.Own
import Derived.Maps.Views
import Derived.Deep.RegionHeld3
import Derived.BigQuiet
import Derived.Deep.RegionLaw
import Derived.Deep.LoopGhost
import Derived.Lib.ItoaNum
namespace Go.Proofs.YthpcbbnabnlanaaGreatDoor
open Go.RowKit
set_option linter.unusedVariables false
set_option linter.unusedSimpArgs false
section
variable {w : World} {bp gt capt : Nat} {toks : List PTok} {st : PSt}
theorem gr_statement (h : Ps w bp gt capt toks st) (hE : EndOk toks) (hi : st.1 < toks.length) : Calls Tryz.prog 68 #[.pointer (some ⟨bp,0,none⟩)] w (StPost toks st w bp gt capt) := by
 by_cases h4 : srt (tkN toks st.1) = 4
 ·exact gr_st_var h hE hi h4
 by_cases h5 : srt (tkN toks st.1) = 5
 ·exact gr_st_list h hE hi h5
 by_cases h6 : srt (tkN toks st.1) = 6
 ·exact gr_st_lin h hE hi h6
 by_cases h7 : srt (tkN toks st.1) = 7
 ·exact gr_st_when h hE hi h7
 by_cases h8 : srt (tkN toks st.1) = 8
 ·exact gr_st_at h hE hi h8
 by_cases h9 : srt (tkN toks st.1) = 9
 ·exact gr_st_diff h hE hi h9
 by_cases h10 : srt (tkN toks st.1) = 10
 ·exact gr_st_or h hE hi h10
 ·exact gr_st_none h hE hi (by simp [kwSorts,h4,h5,h6,h7,h8,h9,h10])
def parseF (toks : List PTok) : Nat → List GSt → PSt → List GSt × PSt
 | 0,acc,st => (acc,st)
 | f + 1,acc,st => if st.2 = 0 ∧ srt (tkN toks st.1) ≠ 1 then parseF toks f (acc ++ [(pStmt toks st).1]) (pTake toks [11] (pStmt toks st).2) else (acc,st)
def pParse (toks : List PTok) : List GSt × PSt := parseF toks (toks.length + 1) [] (0,0)
def Adv (a b : PSt) : Prop := a.1 ≤ b.1 ∧ (b.2 = 0 → a.2 = 0)
theorem Adv.refl (a : PSt) : Adv a a := ⟨Nat.le_refl _,fun h => h⟩
theorem Adv.trans {a b c : PSt} (h : Adv a b) (k : Adv b c) : Adv a c := ⟨Nat.le_trans h.1 k.1,fun q => h.2 (k.2 q)⟩
theorem adv_take (toks : List PTok) (sorts : List Int) (a : PSt) : Adv a (pTake toks sorts a) := by
 refine ⟨pTake_le,fun h => ?_⟩
 unfold pTake at h
 split at h
 ·assumption
 ·exact h
theorem adv_term (toks : List PTok) (neg : Bool) (a : PSt) : Adv a (pTerm toks neg a).2 := by
 unfold pTerm;split
 ·exact ((adv_take _ _ _).trans (adv_take _ _ _)).trans (adv_take _ _ _)
 ·exact adv_take _ _ _
theorem adv_lit (toks : List PTok) (a : PSt) : Adv a (pLit toks a).2 := by
 unfold pLit;split
 ·exact (adv_take _ _ _).trans (adv_take _ _ _)
 ·exact adv_take _ _ _
theorem adv_sumF (toks : List PTok) (f : Nat) : ∀ (acc : List GTerm) (a : PSt),Adv a (sumF toks f acc a).2 := by
 induction f with
 | zero => intro acc a;exact Adv.refl a
 | succ f ih =>
  intro acc a;simp only [sumF];split
  ·exact ((adv_take _ _ _).trans (adv_term _ _ _)).trans (ih _ _)
  ·exact Adv.refl a
theorem adv_sum (toks : List PTok) (a : PSt) : Adv a (pSum toks a).2 := (adv_term _ _ _).trans (adv_sumF _ _ _ _)
theorem adv_serF {α : Type} (toks : List PTok) (one : PSt → α × PSt) (h : ∀ a,Adv a (one a).2) (f : Nat) : ∀ (acc : List α) (a : PSt),Adv a (serF toks one f acc a).2 := by
 induction f with
 | zero => intro acc a;exact Adv.refl a
 | succ f ih =>
  intro acc a;simp only [serF];split
  ·exact ((adv_take _ _ _).trans (h _)).trans (ih _ _)
  ·exact Adv.refl a
theorem adv_ser {α : Type} (toks : List PTok) (one : PSt → α × PSt) (h : ∀ a,Adv a (one a).2) (a : PSt) : Adv a (pSer toks one a).2 := (h _).trans (adv_serF _ _ h _ _ _)
theorem adv_lin (toks : List PTok) (s : GSt) (a : PSt) : Adv a (pLin toks s a).2 := ((adv_sum _ _).trans (adv_take _ _ _)).trans (adv_take _ _ _)
theorem adv_stmt (toks : List PTok) (a : PSt) : Adv (pTake toks kwSorts a) (pStmt toks a).2 := by
 have T := fun sorts b => adv_take toks sorts b
 have S := fun s b => adv_ser toks (pTok toks s) (fun b => adv_take toks [s] b) b
 unfold pStmt
 simp only
 split
 ·exact ((((T _ _).trans (T _ _)).trans (T _ _)).trans (T _ _)).trans (T _ _)
 ·split
  ·exact ((((T _ _).trans (T _ _)).trans (T _ _)).trans (S _ _)).trans (T _ _)
  ·split
   ·exact ((T _ _).trans (T _ _)).trans (adv_lin _ _ _)
   ·split
    ·exact adv_lin _ _ _
    ·split
     ·exact (((((T _ _).trans (T _ _)).trans (T _ _)).trans (T _ _)).trans (T _ _)).trans (T _ _)
     ·split
      ·exact S _ _
      ·split
       ·exact adv_ser _ _ (adv_lit toks) _
       ·exact Adv.refl _
def parM (toks : List PTok) (S : PSt) : Nat := if S.2 = 0 then toks.length - S.1 + 1 else 0
theorem parM_less {S : PSt} (hL : ∀ i,i < toks.length → 1 ≤ (tkN toks i).line) (hi : S.1 < toks.length) (h0 : S.2 = 0) : parM toks (pTake toks [11] (pStmt toks S).2) < parM toks S := by
 have h1 := (adv_stmt toks S).trans (adv_take toks [11] _)
 unfold parM
 rw [if_pos h0]
 split
 ·rename_i h
  have h2 := h1.2 h
  have h3 : (pTake toks kwSorts S).1 = S.1 + 1 := by
   unfold pTake at h2 ⊢
   rw [if_pos h0] at h2 ⊢
   split
   ·rfl
   ·rename_i hc
    rw [if_neg hc] at h2
    have := hL S.1 hi
    simp only at h2
    omega
  have h4 := h1.1
  omega
 ·omega
structure GRow where
 s : GSt
 vn : Value
 vu : Value
 vt : Value
 vl : Value
def GRow.cells (x : GRow) : List Value := (gsCells x.s x.vn x.vu x.vt x.vl).toList
def GRow.own (w : World) (B : Nat) (x : GRow) : Prop := GsOwn w B x.s x.vn x.vu x.vt x.vl
theorem row_ne {w : World} {B e n s b : Nat} {v : Value} {xs : List Value} {cs : Array Value} {t : TypeId} {fr : Nat × Nat} (h : w.ownsRow B e s v n xs) (hb : w.heap[b]? = some (.cells cs t fr)) (he : e ≠ t) : v.ownBlock ≠ some b := by
 rcases h.2 with ⟨rfl,_⟩ | ⟨g,cap,cur,rfl,_,h3,_⟩
 ·intro e;cases e
 ·intro e1
  have : g = b := Option.some.inj e1
  subst this
  rw [h3] at hb
  cases hb
  exact he rfl
theorem GRow.kept {w w' : World} {B : Nat} {x : GRow} {row : Option Nat} (h : x.own w B) (hg : w.grownBy w' row) (hr : ∀ b,row = some b → b < B ∨ ∃ cs fr,w.heap[b]? = some (.cells cs 137 fr)) : x.own w' B := by
 have key : ∀ {e s n : Nat} {v : Value} {xs : List Value},e ≠ 137 → w.ownsRow B e s v n xs → w'.ownsRow B e s v n xs := fun {e s n v xs} he ho => by
  refine ho.kept hg ?_
  cases row with
  | none => exact own_none v
  | some b =>
   right
   rcases hr b rfl with q | ⟨cs,fr,q⟩
   ·exact low_ne ho q
   ·exact row_ne ho q he
 exact ⟨key (by decide) h.n,key (by decide) h.u,key (by decide) h.t,key (by decide) h.l⟩
theorem gs_one (x : GRow) (hn : x.vn.oneCell' = true) (hu : x.vu.oneCell' = true) (ht : x.vt.oneCell' = true) (hl : x.vl.oneCell' = true) : ∀ u ∈ x.cells,u.oneCell' = true := by
 intro u hu'
 simp only [GRow.cells,gsCells,List.mem_cons,List.not_mem_nil,or_false] at hu'
 rcases hu' with rfl | rfl | rfl | rfl | rfl | rfl | rfl | rfl | rfl | rfl | rfl | rfl | rfl | rfl | rfl | rfl
 all_goals first | rfl | assumption
theorem infoSt : (Tryz.prog.info? 137).map (fun i => (i.zero,i.size,i.bytes)) = some (some (.agg zero16),16,216) := by kernel_rfl
def ParRel (toks : List PTok) (gt capt : Nat) (RES : List GSt × PSt) (w : World) (n : Nat) (v : Value) (wr : World) : Prop :=
 ∃ (acc : List GRow) (S : PSt) (f : Nat),S.1 < toks.length ∧ n = parM toks S ∧ parM toks S ≤ f ∧ Hid (parseF toks f (acc.map (·.s)) S = RES) ∧ acc.length ≤ 3000 - n ∧ n ≤ 2100 ∧ Ps wr w.heap.size gt capt toks S ∧
  wr.ownsRow (w.heap.size + 1) 137 16 v acc.length (acc.flatMap GRow.cells) ∧ (∀ x ∈ acc,x.own wr (w.heap.size + 1)) ∧ w.grownBy wr none
theorem parseF_more {f : Nat} {acc : List GSt} {S : PSt} (h0 : S.2 = 0) (h1 : srt (tkN toks S.1) ≠ 1) : parseF toks (f + 1) acc S = parseF toks f (acc ++ [(pStmt toks S).1]) (pTake toks [11] (pStmt toks S).2) := by
 simp only [parseF];rw [if_pos ⟨h0,h1⟩]
theorem parseF_end {f : Nat} {acc : List GSt} {S : PSt} (h : ¬ (S.2 = 0 ∧ srt (tkN toks S.1) ≠ 1)) : parseF toks f acc S = (acc,S) := by
 cases f with
 | zero => rfl
 | succ f => simp only [parseF];rw [if_neg h]
end
section
set_option maxHeartbeats 4000000
set_option maxRecDepth 100000
variable {w : World} {gt capt : Nat} {toks : List PTok}
theorem par_step {RES : List GSt × PSt} {wr w1 w2 w3 : World} {v v' : Value} {o o' : Obj} {acc : List GRow} {S S2 : PSt} {G : GRow} {f : Nat} (hlg : gt < w.heap.size) (hS3 : (pTake toks [11] S2).1 < toks.length) (hlt : parM toks (pTake toks [11] S2) < parM toks S) (hf : parM toks S ≤ f + 1) (hl : Hid (parseF toks f (acc.map (·.s) ++ [G.s]) (pTake toks [11] S2) = RES)) (hacc : acc.length ≤ 3000 - parM toks S) (hn : parM toks S ≤ 2100) (hgr : w.grownBy wr none) (hlr : w.heap.size < wr.heap.size) (hrows : ∀ x ∈ acc,x.own wr (w.heap.size + 1)) (hown : wr.ownsRow (w.heap.size + 1) 137 16 v acc.length (acc.flatMap GRow.cells)) (hO : G.own w1 (w.heap.size + 1)) (hg1 : wr.grownBy w1 (some w.heap.size)) (hown' : w2.ownsRow (w.heap.size + 1) 137 16 v' (acc.length + 1) (acc.flatMap GRow.cells ++ G.cells)) (hgrow : (w1.alloc o).grownBy w2 v.ownBlock) (hg3 : (w2.alloc o').grownBy w3 (some w.heap.size)) (hP3 : Ps w3 w.heap.size gt capt toks (pTake toks [11] S2)) : ParRel toks gt capt RES w (parM toks (pTake toks [11] S2)) v' w3 := by
 have e : ∀ k,v.ownBlock = some k → w.heap.size + 1 ≤ k := fun k hk => (hown.lt k hk).1
 have ty : ∀ b,v.ownBlock = some b → ∃ cs fr,(w1.alloc o).heap[b]? = some (.cells cs 137 fr) := fun b hb => by
  have h1 := ((hown.kept hg1 (low_ne' hown (by omega))).alloc o)
  rcases h1.2 with ⟨h,_⟩ | ⟨g,cap,cur,h,_,h3,_⟩
  ·rw [h] at hb;cases hb
  ·rw [h] at hb
   have : g = b := Option.some.inj hb
   subst this
   exact ⟨_,_,h3⟩
 have k1 : ∀ x : GRow,x.own w1 (w.heap.size + 1) → x.own w3 (w.heap.size + 1) := fun x hx =>
  GRow.kept (GRow.kept (GRow.kept (GRow.kept hx (World.grownBy_alloc w1 o none) (fun b q => by cases q)) hgrow (fun b q => .inr (ty b q))) (World.grownBy_alloc w2 o' none) (fun b q => by cases q)) hg3 (fun b q => by cases q;exact .inl (by omega))
 refine ⟨acc ++ [G],pTake toks [11] S2,f,hS3,rfl,by omega,by rw [List.map_append];exact hl,by simp;omega,by omega,hP3,?_,?_,?_⟩
 ·rw [List.flatMap_append,List.length_append]
  have h1 := ((hown'.alloc o').kept hg3 (low_ne' hown' (by omega)))
  simpa using h1
 ·intro x hx
  rcases List.mem_append.1 hx with hx | hx
  ·exact k1 x (GRow.kept (hrows x hx) hg1 (fun b q => by cases q;exact .inl (by omega)))
  ·obtain rfl : x = G := by simpa using hx
   exact k1 x hO
 ·have z1 := hgr.size;have z2 := hg1.size;have z3 := hgrow.size;have z4 := hg3.size
  simp at z3 z4
  refine ⟨hg3.os.trans (hgrow.os.trans (hg1.os.trans hgr.os)),hg3.tape.trans (hgrow.tape.trans (hg1.tape.trans hgr.tape)),hg3.output.trans (hgrow.output.trans (hg1.output.trans hgr.output)),by omega,fun i hi hn => ?_⟩
  have a3 := hg3.block i (by simp;omega) (by simp;omega)
  have a2 := hgrow.block i (by simp;omega) (fun q => by have := e i q.symm;omega)
  have a1 := hg1.block i (by omega) (by simp;omega)
  exact (a3.trans (heap_alloc_old _ _ (by omega))).trans ((a2.trans (heap_alloc_old _ _ (by omega))).trans (a1.trans (hgr.block i hi hn)))
theorem gr_Parse (hE : EndOk toks) (hL : ∀ i,i < toks.length → 1 ≤ (tkN toks i).line) (hrow : ∀ j u,(tokCells toks)[j]? = some u → w.cell? ⟨gt,j,none⟩ = some u) (hlg : gt < w.heap.size) : Calls Tryz.prog 44 #[.slice (some ⟨gt,0,none⟩) toks.length capt] w fun e w' => ∃ v,e = .returned (.tuple #[v,.int .i64 (pParse toks).2.2]) ∧
   ((pParse toks).2.2 = 0 → ∃ acc : List GRow,acc.map (·.s) = (pParse toks).1 ∧ w'.ownsRow (w.heap.size + 1) 137 16 v acc.length (acc.flatMap GRow.cells) ∧ ∀ x ∈ acc,x.own w' (w.heap.size + 1)) ∧ w.grownBy w' none := by
 obtain ⟨i0,hi0,hz0,hz1,hz2⟩ := info_parts infoSt
 have hlen := hE.len
 have hpos := hE.pos
 obtain ⟨RES,hR⟩ : ∃ R,R = pParse toks := ⟨_,rfl⟩
 have HS : Hid (parseF toks (toks.length + 1) [] (0,0) = RES) := by rw [Hid,hR];rfl
 have HR : Hid (∀ j u,(tokCells toks)[j]? = some u → w.cell? ⟨gt,j,none⟩ = some u) := hrow
 have HL : Hid (∀ i,i < toks.length → 1 ≤ (tkN toks i).line) := hL
 rw [← hR]
 clear hrow hR hL
 go_enter Tryz.func44,Tryz.ntmps44
 go_wp2
 go_loopg [5] (toks.length + 1) (fun n v wr => ParRel toks gt capt RES w n v wr)
 case atStart =>
  refine ⟨[],(0,0),toks.length + 1,hpos,by simp [parM],by simp [parM],HS,by simp,by omega,?_,World.ownsRow_nil _ _ _ _,(fun x hx => by cases hx),World.grownBy_alloc _ _ _⟩
  have hB := heap_alloc_new w (.cells #[.slice (some ⟨gt,0,none⟩) toks.length capt,.int .i64 0,.int .i64 0] 132)
  exact ⟨cell_of hB 0 _ rfl,cell_of hB 1 _ rfl,cell_of hB 2 _ rfl,frozen_of hB 1,frozen_of hB 2,by simp,fun j u hu => (World.grownBy_alloc w _ none).cell (HR.out j u hu) (by simp),by simp;omega,by omega⟩
 case round =>
  obtain ⟨acc,⟨i,fl⟩,f,hi,rfl,hf,hlex,hacc,hn,hP,hown,hrows,hgr⟩ := hrel
  have HP : Hid (Ps wr w.heap.size gt capt toks (i,fl)) := hP
  have c2 := hP.c2
  have hlr := hP.lt
  simp only at c2 hi
  by_cases h0 : fl = 0
  ·subst h0
   by_cases h1 : srt (tkN toks i) = 1
   ·have hs : Hid (pSees toks 1 (i,0) = true) := by unfold Hid pSees;simp [h1]
    have hl : Hid (RES = (acc.map (·.s),(i,0))) := by rw [Hid,← hlex.out];exact parseF_end (by simp [h1])
    clear hlex h1 hP
    go_wp2_with (go_at_call 67;refine (gr_sees HP.out hlen hi 1).mono ?_;rw [hs.out];rintro e ws ⟨rfl,hgs⟩;have hPs := HP.out.kept hgs (by simp) (by simp);have d2 := hPs.c2)
    go_ret2
    rw [hl.out]
    exact ⟨_,rfl,fun _ => ⟨acc,rfl,hown.kept hgs (own_none _),fun x hx => GRow.kept (hrows x hx) hgs (fun b q => by cases q)⟩,hgr.trans hgs⟩
   ·obtain ⟨f,rfl⟩ : ∃ g,f = g + 1 := ⟨f - 1,by simp [parM] at hf;omega⟩
    have hs : Hid (pSees toks 1 (i,0) = false) := by unfold Hid pSees;simp [h1]
    obtain ⟨⟨G,S2⟩,hGS⟩ : ∃ x,pStmt toks (i,0) = x := ⟨_,rfl⟩
    have hm := parM_less HL.out hi (S := (i,0)) rfl
    have hl : Hid (parseF toks f (acc.map (·.s) ++ [G]) (pTake toks [11] S2) = RES) := by rw [Hid,← hlex.out,parseF_more rfl h1,hGS]
    rw [hGS] at hm
    have HG : Hid (pStmt toks (i,0) = (G,S2)) := hGS
    clear hlex h1 hP hGS
    go_wp2_with (first | (at_builtin;refine wpList_append_own _ rfl _ _ 88 rfl (w.heap.size + 1) 137 i0 (.agg zero16) 16 216 Tryz.underlying88 hi0 hz0 hz1 hz2 rfl (by decide) _ _ _ rfl (hown1.alloc _) ⟨w1.heap.size,0,none⟩ 1 1 (GRow.cells ⟨G,.slice na nm nc,.slice ua um uc,.slice ta tm tc,.slice la lm lc⟩) rfl rfl (World.news_of_block (heap_alloc_new _ _)) (gs_one ⟨G,.slice na nm nc,.slice ua um uc,.slice ta tm tc,.slice la lm lc⟩ rfl rfl rfl rfl) ?c3 ?c4 ?c5 ?_) | (go_at_call 68;refine (gr_statement hPs hE hi).mono ?_;unfold StPost;rw [HG.out];unfold gsCells;rintro e w1 ⟨vn,vu,vt,vl,rfl,hO,hg1,hP1,hi1⟩;obtain ⟨na,nm,nc,rfl⟩ := own_slice hO.n;obtain ⟨ua,um,uc,rfl⟩ := own_slice hO.u;obtain ⟨ta,tm,tc,rfl⟩ := own_slice hO.t;obtain ⟨la,lm,lc,rfl⟩ := own_slice hO.l;have hown1 := (hown.kept hgs (own_none _)).kept hg1 (low_ne' hown (by omega))) | (go_at_call 67;refine (gr_sees HP.out hlen hi 1).mono ?_;rw [hs.out];rintro e ws ⟨rfl,hgs⟩;have hPs := HP.out.kept hgs (by simp) (by simp)))
    case c3 => unfold maxLen;omega
    case c4 => omega
    case c5 => have := hgs.size;have := hg1.size;simp at *;omega
    intro v' w2 hown' hgrow _
    have hP2 := (hP1.alloc _).kept hgrow (low_ne hown (by omega)) (low_ne hown (by omega))
    have hlS : w.heap.size < ws.heap.size := by have := hgs.size;omega
    have HK : Hid (∀ w3 o',(w2.alloc o').grownBy w3 (some w.heap.size) → Ps w3 w.heap.size gt capt toks (pTake toks [11] S2) → ParRel toks gt capt RES w (parM toks (pTake toks [11] S2)) v' w3) := fun w3 o' hg3 hP3 =>
     par_step (G := ⟨G,.slice na nm nc,.slice ua um uc,.slice ta tm tc,.slice la lm lc⟩) hlg (pTake_lt hE rfl hi1) hm hf hl hacc hn (hgr.trans hgs) hlS (fun x hx => GRow.kept (hrows x hx) hgs (fun b q => by cases q)) (hown.kept hgs (own_none _))
      ⟨World.ownsRow.mono hO.n (by omega),World.ownsRow.mono hO.u (by omega),World.ownsRow.mono hO.t (by omega),World.ownsRow.mono hO.l (by omega)⟩ hg1 hown' hgrow hg3 hP3
    clear hown' hgrow hown hown1 hrows hO hgs hg1 hPs hP1
    go_wp2_with (go_at_call 69;refine (gr_take' hE hi1 [11] 1 rfl (by decide) rfl rfl w2 hP2 w2.heap.size rfl rfl).mono ?_;rintro e w3 ⟨rfl,hg3,hP3⟩)
    go_roundg (parM toks (pTake toks [11] S2))
    case measure => exact hm
    case rel => exact HK.out w3 _ hg3 hP3
  ·have hl : Hid (RES = (acc.map (·.s),(i,fl))) := by rw [Hid,← hlex.out];exact parseF_end (by simp [h0])
   have hb : (fl == 0) = false := by simpa using h0
   have hb2 : (fl != 0) = true := by simpa using h0
   clear hlex hP
   go_wp2
   go_quiet (fail)
   go_wp2
   go_ret2
   rw [hl.out]
   exact ⟨_,rfl,fun q => absurd q h0,hgr.trans (grown_drewN' _ _ _)⟩
end
section
def heldV (v : Value) : Option (DataW Value × List MemPlace) := some (.held v,[])
def noThing : Value := .agg #[.int .i64 0,.int .i64 0,.int .i64 0,.int .i64 0,.slice none 0 0]
def MapIs (w : World) (b n : Nat) (f : ByteArray → Value) : Prop :=
 ∃ D : DataW Value,w.ownsMap Tryz.prog 9 heldV b n D ∧ Maps.IsMap D ∧ ∀ s : ByteArray,D.atKey (.string s.data.toList) (.held noThing) = .held (f s)
theorem zeroThing (w : World) : (zeroValue 227).run Tryz.prog w = .ok noThing w := by
 have h : (Tryz.prog.info? 227).map (fun i => i.zero) = some (some noThing) := by kernel_rfl
 cases hq : Tryz.prog.info? 227 with
 | none => rw [hq] at h;cases h
 | some i =>
  rw [hq] at h
  have h2 : i.zero = some noThing := by simpa using h
  simp [zeroValue,typeInfo,hq,h2,Sem.run_bind]
theorem MapIs.look {w : World} {b n : Nat} {f : ByteArray → Value} (h : MapIs w b n f) (s : ByteArray) (hs : s.size ≤ 2000) : (Instr.lookup 140 (.map (some b)) (.string s) false).run Tryz.prog w = .ok (f s) w := by
 obtain ⟨D,ho,_,hf⟩ := h
 obtain ⟨v,ps,hr,hv⟩ := ho.lookup (t := 140) (Maps.string_keyed Tryz.underlying9) Tryz.underlying140 (zeroThing w) (zd := .held noThing) (zp := []) rfl (Go.WideMaps.keyOf_string_mk Tryz.underlying9 (by unfold maxLen;omega) : keyOf Tryz.prog 9 (.string s) = some (.string s.data.toList))
 rw [hf s] at hv
 have : v = f s := by unfold heldV at hv;simp at hv;exact hv.1
 rw [this] at hr
 exact hr
theorem MapIs.kept {w w' : World} {b n : Nat} {f : ByteArray → Value} (h : MapIs w b n f) {row : Option Nat} (hg : w.grownBy w' row) (hne : row ≠ some b) : MapIs w' b n f := by
 obtain ⟨D,ho,hm,hf⟩ := h
 exact ⟨D,ho.kept hg (fun e => hne e.symm),hm,hf⟩
theorem lit_ne {s s' : ByteArray} (e : ¬ s' = s) : Lit.string s'.data.toList ≠ Lit.string s.data.toList := by
 intro q
 have q2 : s'.data.toList = s.data.toList := Lit.string.inj q
 have q3 : s'.data = s.data := Array.toList_inj.1 q2
 exact e (ByteArray.ext q3)
theorem MapIs.put {w : World} {b n : Nat} {f : ByteArray → Value} (h : MapIs w b n f) (s : ByteArray) (hs : s.size ≤ 2000) (hn : n < 5000) (v : Value) : ∃ w',(Instr.mapUpdate 140 (.map (some b)) (.string s) v).run Tryz.prog w = .ok () w' ∧ MapIs w' b (n + 1) (fun s' => if s' = s then v else f s') ∧ w.grownBy w' (some b) := by
 obtain ⟨D,ho,hm,hf⟩ := h
 obtain ⟨w',hr,ho',hg⟩ := ho.update (t := 140) (Maps.string_keyed Tryz.underlying9) Tryz.underlying140 (by unfold maxLen;omega) (Go.WideMaps.keyOf_string_mk Tryz.underlying9 (by unfold maxLen;omega) : keyOf Tryz.prog 9 (.string s) = some (.string s.data.toList)) (val := v) (d := .held v) (ps := []) rfl
 refine ⟨w',hr,⟨_,ho',by obtain ⟨es,rfl⟩ := hm;exact ⟨_,rfl⟩,fun s' => ?_⟩,hg⟩
 show _ = DataW.held (if s' = s then v else f s')
 by_cases e : s' = s
 ·subst e
  rw [if_pos rfl]
  exact Maps.atKey_put_same hm (by simp [WideAt.IsKeyLit]) _ _
 ·rw [if_neg e,Maps.atKey_put_other (lit_ne e),hf s']
structure Ck (w : World) (bc bm n : Nat) (f : ByteArray → Value) (vV vC : Value) (kd ln : Int) : Prop where
 c0 : w.cell? ⟨bc,0,none⟩ = some (.map (some bm))
 c1 : w.cell? ⟨bc,1,none⟩ = some vV
 c2 : w.cell? ⟨bc,2,none⟩ = some vC
 c3 : w.cell? ⟨bc,3,none⟩ = some (.int .i64 kd)
 c4 : w.cell? ⟨bc,4,none⟩ = some (.int .i64 ln)
 f1 : w.frozen? ⟨bc,1,none⟩ = false
 f2 : w.frozen? ⟨bc,2,none⟩ = false
 f3 : w.frozen? ⟨bc,3,none⟩ = false
 f4 : w.frozen? ⟨bc,4,none⟩ = false
 lt : bc < w.heap.size
 mp : MapIs w bm n f
 ltm : bm < w.heap.size
 ne : bm ≠ bc
variable {w w' : World} {bc bm n : Nat} {f : ByteArray → Value} {vV vC : Value} {kd ln : Int}
theorem Ck.kept (h : Ck w bc bm n f vV vC kd ln) {row : Option Nat} (hg : w.grownBy w' row) (h1 : row ≠ some bc) (h2 : row ≠ some bm) : Ck w' bc bm n f vV vC kd ln where
 c0 := hg.cell h.c0 (fun e => h1 e.symm)
 c1 := hg.cell h.c1 (fun e => h1 e.symm)
 c2 := hg.cell h.c2 (fun e => h1 e.symm)
 c3 := hg.cell h.c3 (fun e => h1 e.symm)
 c4 := hg.cell h.c4 (fun e => h1 e.symm)
 f1 := (World.frozen?_of_block (a := ⟨bc,1,none⟩) (hg.block bc h.lt (fun e => h1 e.symm))).trans h.f1
 f2 := (World.frozen?_of_block (a := ⟨bc,2,none⟩) (hg.block bc h.lt (fun e => h1 e.symm))).trans h.f2
 f3 := (World.frozen?_of_block (a := ⟨bc,3,none⟩) (hg.block bc h.lt (fun e => h1 e.symm))).trans h.f3
 f4 := (World.frozen?_of_block (a := ⟨bc,4,none⟩) (hg.block bc h.lt (fun e => h1 e.symm))).trans h.f4
 lt := Nat.lt_of_lt_of_le h.lt hg.size
 mp := h.mp.kept hg h2
 ltm := Nat.lt_of_lt_of_le h.ltm hg.size
 ne := h.ne
theorem Ck.alloc (h : Ck w bc bm n f vV vC kd ln) (o : Obj) : Ck (w.alloc o) bc bm n f vV vC kd ln := h.kept (World.grownBy_alloc w o none) (by simp) (by simp)
theorem Ck.drew (h : Ck w bc bm n f vV vC kd ln) : Ck w.drew bc bm n f vV vC kd ln := h.kept (grown_drew' w none) (by simp) (by simp)
theorem Ck.drewN (h : Ck w bc bm n f vV vC kd ln) (k : Nat) : Ck (w.drewN k) bc bm n f vV vC kd ln := h.kept (grown_drewN' w k none) (by simp) (by simp)
theorem Ck.setFault (h : Ck w bc bm n f vV vC kd ln) (k l : Int) : Ck ((w.setCell ⟨bc,3,none⟩ (.int .i64 k)).setCell ⟨bc,4,none⟩ (.int .i64 l)) bc bm n f vV vC k l := by
 have g := (grown_set w bc 3 (.int .i64 k)).trans (grown_set _ bc 4 (.int .i64 l))
 have d3 : (w.setCell ⟨bc,3,none⟩ (.int .i64 k)).cell? ⟨bc,3,none⟩ = some (.int .i64 k) := cell_set_same _ _ _ _ _ h.c3
 have d4 : (w.setCell ⟨bc,3,none⟩ (.int .i64 k)).cell? ⟨bc,4,none⟩ = some (.int .i64 ln) := (cell_set_other _ _ _ _ _ _ (by simp)).trans h.c4
 exact ⟨(cell_set_other _ _ _ _ _ _ (by simp)).trans ((cell_set_other _ _ _ _ _ _ (by simp)).trans h.c0),(cell_set_other _ _ _ _ _ _ (by simp)).trans ((cell_set_other _ _ _ _ _ _ (by simp)).trans h.c1),(cell_set_other _ _ _ _ _ _ (by simp)).trans ((cell_set_other _ _ _ _ _ _ (by simp)).trans h.c2),
  (cell_set_other _ _ _ _ _ _ (by simp)).trans d3,cell_set_same _ _ _ _ _ d4,(frozen_set _ _ _ _ _ _).trans ((frozen_set _ _ _ _ _ _).trans h.f1),(frozen_set _ _ _ _ _ _).trans ((frozen_set _ _ _ _ _ _).trans h.f2),(frozen_set _ _ _ _ _ _).trans ((frozen_set _ _ _ _ _ _).trans h.f3),(frozen_set _ _ _ _ _ _).trans ((frozen_set _ _ _ _ _ _).trans h.f4),
  Nat.lt_of_lt_of_le h.lt g.size,h.mp.kept g (by simpa using h.ne.symm),Nat.lt_of_lt_of_le h.ltm g.size,h.ne⟩
end
section
set_option maxHeartbeats 1000000
set_option maxRecDepth 100000
variable {w w' : World} {bc bm n : Nat} {f : ByteArray → Value} {vV vC : Value} {st : FSt}
abbrev CkS (w : World) (bc bm n : Nat) (f : ByteArray → Value) (vV vC : Value) (st : FSt) : Prop := Ck w bc bm n f vV vC st.1 st.2
theorem flt_true (k l : Int) (st : FSt) : flt true k l st = if st.1 = 0 then (k,l) else st := by
 obtain ⟨a,b⟩ := st
 unfold flt fKind fLine
 by_cases h : a = 0 <;> simp [h]
theorem flt_false (k l : Int) (st : FSt) : flt false k l st = st := by
 obtain ⟨a,b⟩ := st
 simp [flt,fKind,fLine]
theorem sn_fault (h : CkS w bc bm n f vV vC st) (T : PTok) (k : Int) : Calls Tryz.prog 152 #[.pointer (some ⟨bc,0,none⟩),.int .i64 k,tkV T] w fun e w' => e = .returned (.tuple #[]) ∧ w.grownBy w' (some bc) ∧ CkS w' bc bm n f vV vC (flt true k T.line st) := by
 rw [flt_true]
 obtain ⟨kd,ln⟩ := st
 have HC : Hid (Ck w bc bm n f vV vC kd ln) := h
 have c3 := h.c3
 have c4 := h.c4
 have f3 := h.f3
 have f4 := h.f4
 have hlt := h.lt
 simp only at c3 c4
 unfold tkV
 by_cases h0 : kd = 0
 ·subst h0
  have hset := fun W o u b' o' h => cell_set W bc o u b' o' h
  clear h
  go_enter Tryz.func152,Tryz.ntmps152
  go_wp2
  go_region
  all_goals go_wp2
  all_goals go_end0
  exact ⟨rfl,(((grown_set _ _ _ _).trans (grown_set _ _ _ _)).trans (World.grownBy_alloc _ _ _)).trans (grown_drew' _ _),((HC.out.setFault k T.line).alloc _).drew⟩
 ·have hb : (kd == 0) = false := by simpa using h0
  clear h
  go_enter Tryz.func152,Tryz.ntmps152
  go_wp2
  go_end0
  exact ⟨rfl,World.grownBy_alloc _ _ _,HC.out.alloc _⟩
theorem sn_room (h : CkS w bc bm n f vV vC st) (T : PTok) (k m : Int) : Calls Tryz.prog 149 #[.pointer (some ⟨bc,0,none⟩),tkV T,.int .i64 k,.int .i64 m] w fun e w' => e = .returned (.tuple #[]) ∧ w.grownBy w' (some bc) ∧ CkS w' bc bm n f vV vC (flt (decide (m ≤ k)) 6 T.line st) := by
 have HC : Hid (CkS w bc bm n f vV vC st) := h
 have hlt := h.lt
 by_cases hk : m ≤ k
 ·rw [decide_eq_true hk]
  have HF := Kept.mk (fun o => sn_fault (HC.out.alloc o) T 6)
  unfold tkV at *
  clear h
  go_enter Tryz.func149,Tryz.ntmps149
  go_wp2_with (go_at_call 152;refine (HF.get _).mono ?_;rintro e w1 ⟨rfl,hg1,hC1⟩)
  go_end0
  exact ⟨rfl,(World.grownBy_alloc w _ _).trans hg1,hC1⟩
 ·rw [decide_eq_false hk,flt_false]
  have hk' : k < m := by omega
  unfold tkV at *
  clear h hk
  go_enter Tryz.func149,Tryz.ntmps149
  go_wp2
  go_end0
  exact ⟨rfl,World.grownBy_alloc w _ _,HC.out.alloc _⟩
theorem sn_number (h : CkS w bc bm n f vV vC st) (T : PTok) (m : Int) (hm0 : 0 ≤ m) (hm : m ≤ 10000000) : Calls Tryz.prog 151 #[.pointer (some ⟨bc,0,none⟩),tkV T,.int .i64 m] w fun e w' => e = .returned (.int .i64 (tval T)) ∧ w.grownBy w' (some bc) ∧ CkS w' bc bm n f vV vC (flt (outB (tval T) m) 5 T.line st) := by
 have HC : Hid (CkS w bc bm n f vV vC st) := h
 have hlt := h.lt
 have HF := Kept.mk (fun o => sn_fault (HC.out.alloc o) T 5)
 have hkeep : Hid (∀ w1 (o : Obj),(w.alloc o).grownBy w1 (some bc) → ∀ v,(w.alloc o).cell? ⟨w.heap.size,2,none⟩ = some v → w1.cell? ⟨w.heap.size,2,none⟩ = some v) := fun w1 o hg v hv => hg.cell hv (by simp;omega)
 by_cases h1 : tval T < -m
 ·have e : outB (tval T) m = true := by simp [outB,h1]
  rw [e]
  unfold tkV at *
  clear h e
  go_enter Tryz.func151,Tryz.ntmps151
  go_wp2_with (go_at_call 152;refine (HF.get _).mono ?_;rintro e w1 ⟨rfl,hg1,hC1⟩;have d2 := hkeep.out w1 _ hg1 (.int .i64 (tval T)) (by simp))
  go_ret
  exact ⟨rfl,(World.grownBy_alloc w _ _).trans hg1,hC1⟩
 ·by_cases h2 : m < tval T
  ·have e : outB (tval T) m = true := by simp [outB,h2]
   rw [e]
   have h1' : -m ≤ tval T := by omega
   unfold tkV at *
   clear h e h1
   go_enter Tryz.func151,Tryz.ntmps151
   go_wp2_with (go_at_call 152;refine (HF.get _).mono ?_;rintro e w1 ⟨rfl,hg1,hC1⟩;have d2 := hkeep.out w1 _ hg1 (.int .i64 (tval T)) (by simp))
   go_ret
   exact ⟨rfl,(World.grownBy_alloc w _ _).trans hg1,hC1⟩
  ·have e : outB (tval T) m = false := by simp [outB,h1,h2]
   rw [e,flt_false]
   have h1' : -m ≤ tval T := by omega
   have h2' : tval T ≤ m := by omega
   unfold tkV at *
   clear h e h1 h2
   go_enter Tryz.func151,Tryz.ntmps151
   go_wp2
   go_ret
   exact ⟨rfl,World.grownBy_alloc w _ _,HC.out.alloc _⟩
structure Th where
 so : Int
 pl : Int
 lo : Int
 hi : Int
 v : Value
def thV (t : Th) : Value := .agg #[.int .i64 t.so,.int .i64 t.pl,.int .i64 t.lo,.int .i64 t.hi,t.v]
def noTh : Th := ⟨0,0,0,0,.slice none 0 0⟩
theorem thing_field (a b c d e : Value) (w : World) : (Instr.field 227 (.agg #[a,b,c,d,e]) 0).run Tryz.prog w = .ok a w ∧ (Instr.field 227 (.agg #[a,b,c,d,e]) 1).run Tryz.prog w = .ok b w ∧ (Instr.field 227 (.agg #[a,b,c,d,e]) 4).run Tryz.prog w = .ok e w := by
 refine ⟨?_,?_,?_⟩ <;> kernel_rfl
variable {g : ByteArray → Th}
theorem sn_undeclared (h : CkS w bc bm n (fun s => thV (g s)) vV vC st) (T : PTok) (hs : T.s.size ≤ 2000) : Calls Tryz.prog 150 #[.pointer (some ⟨bc,0,none⟩),tkV T] w fun e w' => e = .returned (.tuple #[]) ∧ w.grownBy w' (some bc) ∧ CkS w' bc bm n (fun s => thV (g s)) vV vC (flt ((g T.s).so != 0) 4 T.line st) := by
 have HC : Hid (CkS w bc bm n (fun s => thV (g s)) vV vC st) := h
 have hlt := h.lt
 have c0 := h.c0
 have HF := Kept.mk (fun o k => sn_fault ((HC.out.alloc o).drewN k) T 4)
 have hlook : ∀ k,(Instr.lookup 140 (.map (some bm)) (.string T.s) false).run Tryz.prog ((w.alloc (.cells #[.int .i64 (srt T),.string T.s,.int .i64 (tval T),.int .i64 T.line] 129)).drewN k) = .ok (.agg #[.int .i64 (g T.s).so,.int .i64 (g T.s).pl,.int .i64 (g T.s).lo,.int .i64 (g T.s).hi,(g T.s).v]) ((w.alloc (.cells #[.int .i64 (srt T),.string T.s,.int .i64 (tval T),.int .i64 T.line] 129)).drewN k) := fun k => ((h.alloc _).drewN k).mp.look T.s hs
 have hfield := fun a b c d e W => (thing_field a b c d e W).1
 by_cases h0 : (g T.s).so = 0
 ·have e : ((g T.s).so != 0) = false := by simpa using h0
  rw [e,flt_false]
  unfold tkV at *
  clear h h0
  go_enter Tryz.func150,Tryz.ntmps150
  go_wp2
  go_quiet (fail)
  go_wp2
  go_end0
  exact ⟨rfl,(World.grownBy_alloc w _ _).trans (grown_drewN' _ _ _),(HC.out.alloc _).drewN _⟩
 ·have e : ((g T.s).so != 0) = true := by simpa using h0
  rw [e]
  unfold tkV at *
  clear h h0
  go_enter Tryz.func150,Tryz.ntmps150
  go_wp2
  go_quiet (fail)
  go_wp2_with (go_at_call 152;refine (HF.get _ _).mono ?_;rintro e w1 ⟨rfl,hg1,hC1⟩)
  go_end0
  exact ⟨rfl,((World.grownBy_alloc w _ _).trans (grown_drewN' _ _ _)).trans hg1,hC1⟩
end
section
set_option maxHeartbeats 2000000
set_option maxRecDepth 100000
variable {w w' : World} {bc bm n : Nat} {g : ByteArray → Th} {vV vC : Value} {st : FSt}
def thFind (g : ByteArray → Th) (s : ByteArray) (sort : Int) : Th := if (g s).so = sort then g s else noTh
theorem set5 {w : World} {b : Nat} {t : TypeId} {a0 a1 a2 a3 a4 : Value} (h : w.heap[b]? = some (.cells #[a0,a1,a2,a3,a4] t (0,0))) (v0 v1 v2 v3 v4 : Value) : (((((w.setCell ⟨b,0,none⟩ v0).setCell ⟨b,1,none⟩ v1).setCell ⟨b,2,none⟩ v2).setCell ⟨b,3,none⟩ v3).setCell ⟨b,4,none⟩ v4).heap[b]? = some (.cells #[v0,v1,v2,v3,v4] t (0,0)) := by
 have h1 := set_at h 0 v0 (cs' := #[v0,a1,a2,a3,a4]) rfl
 have h2 := set_at h1 1 v1 (cs' := #[v0,v1,a2,a3,a4]) rfl
 have h3 := set_at h2 2 v2 (cs' := #[v0,v1,v2,a3,a4]) rfl
 have h4 := set_at h3 3 v3 (cs' := #[v0,v1,v2,v3,a4]) rfl
 exact set_at h4 4 v4 rfl
theorem set5_grown (w : World) (b : Nat) (v0 v1 v2 v3 v4 : Value) : w.grownBy (((((w.setCell ⟨b,0,none⟩ v0).setCell ⟨b,1,none⟩ v1).setCell ⟨b,2,none⟩ v2).setCell ⟨b,3,none⟩ v3).setCell ⟨b,4,none⟩ v4) (some b) :=
 ((((grown_set w b 0 v0).trans (grown_set _ b 1 v1)).trans (grown_set _ b 2 v2)).trans (grown_set _ b 3 v3)).trans (grown_set _ b 4 v4)
theorem heap_alloc3_mid (w : World) (A B C : Obj) : (((w.alloc A).alloc B).alloc C).heap[w.heap.size + 1]? = some B := by
 rw [heap_alloc_old _ _ (by simp)];exact heap_alloc2_new w A B
theorem sn_find (h : CkS w bc bm n (fun s => thV (g s)) vV vC st) (T : PTok) (hs : T.s.size ≤ 2000) (sort : Int) (hv : ∃ a m c,(g T.s).v = .slice a m c) : Calls Tryz.prog 158 #[.pointer (some ⟨bc,0,none⟩),tkV T,.int .i64 sort] w fun e w' => e = .returned (thV (thFind g T.s sort)) ∧ w.grownBy w' (some bc) ∧ CkS w' bc bm n (fun s => thV (g s)) vV vC (flt ((g T.s).so != sort) 4 T.line st) := by
 have HC : Hid (CkS w bc bm n (fun s => thV (g s)) vV vC st) := h
 have hlt := h.lt
 have hltm := h.ltm
 have c0 := h.c0
 obtain ⟨va,vm,vc,hv⟩ := hv
 have hlook : ∀ W,W = (((w.alloc (.cells #[.int .i64 (srt T),.string T.s,.int .i64 (tval T),.int .i64 T.line] 129)).alloc (.cells #[.int .i64 0,.int .i64 0,.int .i64 0,.int .i64 0,.slice none 0 0] 227))).drew ∨ W = ((((w.alloc (.cells #[.int .i64 (srt T),.string T.s,.int .i64 (tval T),.int .i64 T.line] 129)).alloc (.cells #[.int .i64 0,.int .i64 0,.int .i64 0,.int .i64 0,.slice none 0 0] 227))).alloc (.cells #[.int .i64 0,.int .i64 0,.int .i64 0,.int .i64 0,.slice none 0 0] 227)).drew →
   (Instr.lookup 140 (.map (some bm)) (.string T.s) false).run Tryz.prog W = .ok (.agg #[.int .i64 (g T.s).so,.int .i64 (g T.s).pl,.int .i64 (g T.s).lo,.int .i64 (g T.s).hi,.slice va vm vc]) W := fun W hW => by
  have hM : MapIs W bm n (fun s => thV (g s)) := by
   rcases hW with rfl | rfl
   ·exact (((h.alloc _).alloc _).drew).mp
   ·exact ((((h.alloc _).alloc _).alloc _).drew).mp
  have q := hM.look T.s hs
  rw [← hv];exact q
 have hl1 := hlook _ (.inl rfl)
 have hl2 := hlook _ (.inr rfl)
 clear hlook
 have hc2 : ∀ o1 o2,((w.alloc o1).alloc o2).cell? ⟨bc,0,none⟩ = some (.map (some bm)) := fun o1 o2 => ((h.alloc o1).alloc o2).c0
 have hc3 : ∀ o1 o2 o3,(((w.alloc o1).alloc o2).alloc o3).cell? ⟨bc,0,none⟩ = some (.map (some bm)) := fun o1 o2 o3 => (((h.alloc o1).alloc o2).alloc o3).c0
 have hd3 : ∀ o2 o3,(((w.alloc (.cells #[.int .i64 (srt T),.string T.s,.int .i64 (tval T),.int .i64 T.line] 129)).alloc o2).alloc o3).cell? ⟨w.heap.size,1,none⟩ = some (.string T.s) := fun o2 o3 => by
  rw [World.cell?_alloc_past _ _ _ (by simp;omega)]
  exact cell_of (heap_alloc2_old w _ _) 1 _ rfl
 by_cases h0 : (g T.s).so = sort
 ·have e : ((g T.s).so != sort) = false := by simpa using h0
  have hf : thFind g T.s sort = g T.s := if_pos h0
  rw [e,flt_false,hf]
  unfold tkV thV at *
  rw [hv]
  clear h h0 hf
  go_enter Tryz.func158,Tryz.ntmps158
  go_wp2
  go_region
  all_goals go_wp2
  all_goals refine bodyPost_ret (results_cell_row rfl _ _ (w.heap.size + 1) 227 _ _ _ rfl (heap_alloc3_mid w _ _ _) Tryz.underlying227 rfl (by kernel_rfl)) rfl ?_
  all_goals exact ⟨rfl,(((World.grownBy_alloc w _ _).trans (World.grownBy_alloc _ _ _)).trans (World.grownBy_alloc _ _ _)).trans (grown_drew' _ _),(((HC.out.alloc _).alloc _).alloc _).drew⟩
 ·have e : ((g T.s).so != sort) = true := by simpa using h0
  have hf : thFind g T.s sort = noTh := if_neg h0
  rw [e,hf]
  have HF := Kept.mk (fun o1 o2 o3 => sn_fault ((((HC.out.alloc o1).alloc o2).alloc o3).drew) T 4)
  have hk : Hid (∀ w1 (o1 o3 : Obj),(((w.alloc o1).alloc (.cells #[.int .i64 0,.int .i64 0,.int .i64 0,.int .i64 0,.slice none 0 0] 227)).alloc o3).drew.grownBy w1 (some bc) → w1.heap[w.heap.size + 1]? = some (.cells #[.int .i64 0,.int .i64 0,.int .i64 0,.int .i64 0,.slice none 0 0] 227 (0,0))) := fun w1 o1 o3 hg =>
   past0 (heap_alloc3_mid w _ _ _) (by simp) ((grown_drew' _ (some bc)).trans hg) (by simp;omega)
  unfold tkV thV at *
  unfold noTh
  clear h h0 hf
  go_enter Tryz.func158,Tryz.ntmps158
  go_wp2
  go_region
  all_goals go_wp2_with (go_at_call 152;refine (HF.get _ _ _).mono ?_;rintro e w1 ⟨rfl,hg1,hC1⟩;have hB := hk.out w1 _ _ hg1;have b0 := cell_of hB 0 _ rfl;have b1 := cell_of hB 1 _ rfl;have b2 := cell_of hB 2 _ rfl;have b3 := cell_of hB 3 _ rfl;have b4 := cell_of hB 4 _ rfl;have z0 := frozen_of hB 0;have z1 := frozen_of hB 1;have z2 := frozen_of hB 2;have z3 := frozen_of hB 3;have z4 := frozen_of hB 4)
  all_goals refine bodyPost_ret (results_cell_row rfl _ _ (w.heap.size + 1) 227 _ _ _ rfl (set5 hB _ _ _ _ _) Tryz.underlying227 rfl (by kernel_rfl)) rfl ?_
  all_goals have g5 := set5_grown w1 (w.heap.size + 1) (.int .i64 0) (.int .i64 0) (.int .i64 0) (.int .i64 0) (.slice none 0 0)
  all_goals exact ⟨rfl,grown_newr (((((World.grownBy_alloc w _ _).trans (World.grownBy_alloc _ _ _)).trans (World.grownBy_alloc _ _ _)).trans (grown_drew' _ _)).trans hg1) (by omega) g5,hC1.kept g5 (by simp;omega) (by simp;omega)⟩
def ThOk (g : ByteArray → Th) : Prop := ∀ s,∃ a m c,(g s).v = .slice a m c
theorem sn_variable (h : CkS w bc bm n (fun s => thV (g s)) vV vC st) (T : PTok) (hs : T.s.size ≤ 2000) (hv : ThOk g) : Calls Tryz.prog 159 #[.pointer (some ⟨bc,0,none⟩),tkV T] w fun e w' => e = .returned (.int .i64 (thFind g T.s 4).pl) ∧ w.grownBy w' (some bc) ∧ CkS w' bc bm n (fun s => thV (g s)) vV vC (flt ((g T.s).so != 4) 4 T.line st) := by
 have HC : Hid (CkS w bc bm n (fun s => thV (g s)) vV vC st) := h
 have HF := Kept.mk (fun o => sn_find (HC.out.alloc o) T hs 4 (hv T.s))
 have hfield := fun a b c d e W => (thing_field a b c d e W).2.1
 generalize thFind g T.s 4 = F at *
 unfold tkV at *
 clear h hv
 go_enter Tryz.func159,Tryz.ntmps159
 go_wp2_with (go_at_call 158;refine (HF.get _).mono ?_;simp only [show thV F = .agg #[.int .i64 F.so,.int .i64 F.pl,.int .i64 F.lo,.int .i64 F.hi,F.v] from rfl];rintro e w1 ⟨rfl,hg1,hC1⟩)
 go_ret
 exact ⟨rfl,(World.grownBy_alloc w _ _).trans hg1,hC1⟩
end
section
set_option maxHeartbeats 2000000
set_option maxRecDepth 100000
variable {w w' : World} {bc bm n : Nat} {g : ByteArray → Th} {vV vC : Value} {st : FSt}
def noTruthT (t : Th) : Bool := decide (t.lo < 0) || decide (1 < t.hi)
theorem sn_truth (h : CkS w bc bm n (fun s => thV (g s)) vV vC st) (T : PTok) (hs : T.s.size ≤ 2000) (hv : ThOk g) : Calls Tryz.prog 155 #[.pointer (some ⟨bc,0,none⟩),tkV T] w fun e w' => e = .returned (.int .i64 (thFind g T.s 4).pl) ∧ w.grownBy w' (some bc) ∧ CkS w' bc bm n (fun s => thV (g s)) vV vC (flt (noTruthT (thFind g T.s 4)) 7 T.line (flt ((g T.s).so != 4) 4 T.line st)) := by
 have HC : Hid (CkS w bc bm n (fun s => thV (g s)) vV vC st) := h
 have hlt := h.lt
 have HF := Kept.mk (fun o => sn_find (HC.out.alloc o) T hs 4 (hv T.s))
 have hvF : ∃ a m c,(thFind g T.s 4).v = .slice a m c := by
  unfold thFind;split
  ·exact hv _
  ·exact ⟨_,_,_,rfl⟩
 obtain ⟨va,vm,vc,hvF⟩ := hvF
 generalize thFind g T.s 4 = F at *
 generalize flt ((g T.s).so != 4) 4 T.line st = S1 at *
 have HT : Hid (∀ (w1 : World) (o : Obj),CkS w1 bc bm n (fun s => thV (g s)) vV vC S1 → Calls Tryz.prog 152 #[.pointer (some ⟨bc,0,none⟩),.int .i64 7,tkV T] (w1.alloc o) fun e w' => e = .returned (.tuple #[]) ∧ (w1.alloc o).grownBy w' (some bc) ∧ CkS w' bc bm n (fun s => thV (g s)) vV vC (flt true 7 T.line S1)) := fun w1 o hC => sn_fault (hC.alloc o) T 7
 have hk : Hid (∀ (w1 : World) (t : Obj),(w.alloc t).grownBy w1 (some bc) → w.heap.size < w1.heap.size ∧ w1.heap[w.heap.size]? = some t) := fun w1 t hg => ⟨by have := hg.size;simp at this;omega,past0 (heap_alloc_new w t) (by simp) hg (by simp;omega)⟩
 have hk2 : Hid (∀ (w1 w2 : World) (t : Obj),bc < w1.heap.size → (w1.alloc t).grownBy w2 (some bc) → w2.heap[w1.heap.size]? = some t) := fun w1 w2 t hb hg => past0 (heap_alloc_new w1 t) (by simp) hg (by simp;omega)
 unfold tkV at *
 clear h hv
 by_cases h1 : F.lo < 0
 ·have e : noTruthT F = true := by simp [noTruthT,h1]
  rw [e]
  clear e
  go_enter Tryz.func155,Tryz.ntmps155
  go_wp2_with (first | (go_at_call 152;refine (HT.out w1 _ hC1).mono ?_;rintro e w2 ⟨rfl,hg2,hC2⟩;have hC := hk2.out w1 w2 _ hl1 hg2;have d1 := cell_of hC 1 _ rfl) | (go_at_call 158;refine (HF.get _).mono ?_;simp only [show thV F = .agg #[.int .i64 F.so,.int .i64 F.pl,.int .i64 F.lo,.int .i64 F.hi,F.v] from rfl,hvF];rintro e w1 ⟨rfl,hg1,hC1⟩;obtain ⟨hs1,hB1⟩ := hk.out w1 _ hg1;have hl1 := hC1.lt;have a0 := cell_of hB1 0 _ rfl;have a1 := cell_of hB1 1 _ rfl;have a2 := cell_of hB1 2 _ rfl;have a3 := cell_of hB1 3 _ rfl))
  go_ret
  exact ⟨rfl,(((World.grownBy_alloc w _ _).trans hg1).trans (World.grownBy_alloc _ _ _)).trans hg2,hC2⟩
 ·have h1' : 0 ≤ F.lo := by omega
  by_cases h2 : 1 < F.hi
  ·have e : noTruthT F = true := by simp [noTruthT,h2]
   rw [e]
   clear e h1
   go_enter Tryz.func155,Tryz.ntmps155
   go_wp2_with (first | (go_at_call 152;refine (HT.out w1 _ hC1).mono ?_;rintro e w2 ⟨rfl,hg2,hC2⟩;have hC := hk2.out w1 w2 _ hl1 hg2;have d1 := cell_of hC 1 _ rfl) | (go_at_call 158;refine (HF.get _).mono ?_;simp only [show thV F = .agg #[.int .i64 F.so,.int .i64 F.pl,.int .i64 F.lo,.int .i64 F.hi,F.v] from rfl,hvF];rintro e w1 ⟨rfl,hg1,hC1⟩;obtain ⟨hs1,hB1⟩ := hk.out w1 _ hg1;have hl1 := hC1.lt;have a0 := cell_of hB1 0 _ rfl;have a1 := cell_of hB1 1 _ rfl;have a2 := cell_of hB1 2 _ rfl;have a3 := cell_of hB1 3 _ rfl))
   go_ret
   exact ⟨rfl,(((World.grownBy_alloc w _ _).trans hg1).trans (World.grownBy_alloc _ _ _)).trans hg2,hC2⟩
  ·have e : noTruthT F = false := by simp [noTruthT,h1,h2]
   have h2' : F.hi ≤ 1 := by omega
   rw [e,flt_false]
   clear e h1 h2
   go_enter Tryz.func155,Tryz.ntmps155
   go_wp2_with (first | (go_at_call 158;refine (HF.get _).mono ?_;simp only [show thV F = .agg #[.int .i64 F.so,.int .i64 F.pl,.int .i64 F.lo,.int .i64 F.hi,F.v] from rfl,hvF];rintro e w1 ⟨rfl,hg1,hC1⟩))
   go_ret
   exact ⟨rfl,((World.grownBy_alloc w _ _).trans hg1).trans (World.grownBy_alloc _ _ _),hC1.alloc _⟩
def rSort (k : Int) : Int := if k = 7 then 1 else if k = 8 then 2 else if k = 9 then 3 else if k = 10 then 4 else 0
def rRel (k : Int) : Int := if k = 15 then 1 else if k = 16 then 2 else 0
theorem sn_ruleSort (k : Int) (w : World) : Calls Tryz.prog 154 #[.int .i64 k] w fun e w' => e = .returned (.int .i64 (rSort k)) ∧ w' = w := by
 obtain ⟨x,hx⟩ : ∃ x,x = rSort k := ⟨_,rfl⟩
 have hk : Hid (x = rSort k) := hx
 rw [← hx];clear hx
 go_enter Tryz.func154,Tryz.ntmps154
 go_wp2
 all_goals go_ret
 all_goals refine ⟨ret_int ?_,rfl⟩
 all_goals rw [hk.out]
 all_goals clear hk
 all_goals go_light
 all_goals simp_all [rSort]
theorem sn_ruleRel (k : Int) (w : World) : Calls Tryz.prog 157 #[.int .i64 k] w fun e w' => e = .returned (.int .i64 (rRel k)) ∧ w' = w := by
 obtain ⟨x,hx⟩ : ∃ x,x = rRel k := ⟨_,rfl⟩
 have hk : Hid (x = rRel k) := hx
 rw [← hx];clear hx
 go_enter Tryz.func157,Tryz.ntmps157
 go_wp2
 all_goals go_ret
 all_goals refine ⟨ret_int ?_,rfl⟩
 all_goals rw [hk.out]
 all_goals clear hk
 all_goals go_light
 all_goals simp_all [rRel]
end
section
set_option maxHeartbeats 2000000
set_option maxRecDepth 100000
variable {w w' : World} {bc bm n : Nat} {g : ByteArray → Th} {f : ByteArray → Value} {vV vC : Value} {st : FSt}
def TOk (t : PTok) : Prop := t.s.size ≤ 2000 ∧ -9999999999 ≤ tval t ∧ tval t ≤ 9999999999
theorem flat_get {α : Type} (cell : α → List Value) (sz : Nat) (hsz : ∀ a,(cell a).length = sz) (l : List α) : ∀ (i : Nat) (a : α),l[i]? = some a → ∀ (k : Nat) (u : Value),(cell a)[k]? = some u → (l.flatMap cell)[i * sz + k]? = some u := by
 induction l with
 | nil => intro i a h;simp at h
 | cons b l ih =>
  intro i a h k u hk
  rw [List.flatMap_cons]
  cases i with
  | zero =>
   have e : b = a := by simpa using h
   subst e
   rw [Nat.zero_mul,Nat.zero_add,List.getElem?_append_left]
   ·exact hk
   ·exact (List.getElem?_eq_some_iff.1 hk).1
  | succ i =>
   have := ih i a (by simpa using h) k u hk
   rw [List.getElem?_append_right (by rw [hsz];rw [Nat.succ_mul];omega),hsz,show (i + 1) * sz + k - sz = i * sz + k by rw [Nat.succ_mul];omega]
   exact this
structure RowIn {α : Type} (w : World) (v : Value) (gr cap : Nat) (cell : α → List Value) (l : List α) : Prop where
 is : v = .slice (some ⟨gr,0,none⟩) l.length cap
 row : ∀ j u,(l.flatMap cell)[j]? = some u → w.cell? ⟨gr,j,none⟩ = some u
 lt : gr < w.heap.size
theorem RowIn.kept {α : Type} {v : Value} {gr cap : Nat} {cell : α → List Value} {l : List α} (h : RowIn w v gr cap cell l) {r : Option Nat} (hg : w.grownBy w' r) (hne : r ≠ some gr) : RowIn w' v gr cap cell l :=
 ⟨h.is,fun j u hu => hg.cell (h.row j u hu) (fun e => hne e.symm),Nat.lt_of_lt_of_le h.lt hg.size⟩
theorem RowIn.at {α : Type} {v : Value} {gr cap : Nat} {cell : α → List Value} {l : List α} (h : RowIn w v gr cap cell l) {sz : Nat} (hsz : ∀ a,(cell a).length = sz) {i : Nat} {a : α} (ha : l[i]? = some a) (k : Nat) (u : Value) (hk : (cell a)[k]? = some u) : w.cell? ⟨gr,i * sz + k,none⟩ = some u :=
 h.row _ _ (flat_get cell sz hsz l i a ha k u hk)
theorem RowIn.of_own {α : Type} {B e sz : Nat} {v : Value} {cell : α → List Value} {l : List α} (h : w.ownsRow B e sz v l.length (l.flatMap cell)) (hl : 0 < l.length) : ∃ gr cap,RowIn w v gr cap cell l ∧ B ≤ gr := by
 rcases h.2 with ⟨_,h2⟩ | ⟨gr,cap,cur,h1,hB,h3,h4,h5,h6,h7⟩
 ·omega
 ·refine ⟨gr,cap,⟨h1,fun j u hu => ?_,(Array.getElem?_eq_some_iff.1 h3).1⟩,hB⟩
  rw [← h7] at hu
  have hj : j < (cur.toList.take (l.length * sz)).length := (List.getElem?_eq_some_iff.1 hu).1
  rw [List.getElem?_take_of_lt (by simp at hj;omega)] at hu
  exact cell_of h3 j u (by simpa using hu)
def facSt (t : GTerm) (st : FSt) : FSt := if srt t.first = 3 then flt (outB (tval t.first) 100) 5 t.first.line st else st
def facV (t : GTerm) : Int := if t.neg then -(if srt t.first = 3 then tval t.first else 1) else (if srt t.first = 3 then tval t.first else 1)
theorem sn_factor (h : CkS w bc bm n f vV vC st) (t : GTerm) (ht : TOk t.first) : Calls Tryz.prog 184 #[.pointer (some ⟨bc,0,none⟩),gtermV t] w fun e w' => e = .returned (.int .i64 (facV t)) ∧ w.grownBy w' (some bc) ∧ CkS w' bc bm n f vV vC (facSt t st) := by
 have HC : Hid (CkS w bc bm n f vV vC st) := h
 have hlt := h.lt
 obtain ⟨neg,T,N⟩ := t
 have hb1 := ht.2.1
 have hb2 := ht.2.2
 simp only at hb1 hb2
 have HF := Kept.mk (fun o => sn_number (HC.out.alloc o) T 100 (by decide) (by decide))
 have hk : Hid (∀ (w1 : World) (t : Obj),(w.alloc t).grownBy w1 (some bc) → w1.heap[w.heap.size]? = some t) := fun w1 t hg => past0 (heap_alloc_new w t) (by simp) hg (by simp;omega)
 unfold gtermV
 clear h ht
 by_cases h3 : srt T = 3
 ·have e3 : (srt T == 3) = true := by simpa using h3
  have eS : Hid (facSt ⟨neg,T,N⟩ st = flt (outB (tval T) 100) 5 T.line st) := by unfold Hid facSt;simp [h3]
  rw [eS.out]
  unfold tkV at *
  cases neg with
  | true =>
   have eV : facV ⟨true,T,N⟩ = - tval T := by simp [facV,h3]
   rw [eV]
   clear eV h3
   go_enter Tryz.func184,Tryz.ntmps184
   go_wp2_with (go_at_call 151;refine (HF.get _).mono ?_;rintro e w1 ⟨rfl,hg1,hC1⟩;have hB := hk.out w1 _ hg1;have d0 := cell_of hB 0 _ rfl)
   go_ret
   exact ⟨rfl,(World.grownBy_alloc w _ _).trans hg1,hC1⟩
  | false =>
   have eV : facV ⟨false,T,N⟩ = tval T := by simp [facV,h3]
   rw [eV]
   clear eV h3
   go_enter Tryz.func184,Tryz.ntmps184
   go_wp2_with (go_at_call 151;refine (HF.get _).mono ?_;rintro e w1 ⟨rfl,hg1,hC1⟩;have hB := hk.out w1 _ hg1;have d0 := cell_of hB 0 _ rfl)
   go_ret
   exact ⟨rfl,(World.grownBy_alloc w _ _).trans hg1,hC1⟩
 ·have e3 : (srt T == 3) = false := by simpa using h3
  have eS : Hid (facSt ⟨neg,T,N⟩ st = st) := by unfold Hid facSt;simp [h3]
  rw [eS.out]
  cases neg with
  | true =>
   have eV : facV ⟨true,T,N⟩ = -1 := by simp [facV,h3]
   rw [eV]
   clear eV h3
   go_enter Tryz.func184,Tryz.ntmps184
   go_wp2
   go_ret
   exact ⟨rfl,World.grownBy_alloc w _ _,HC.out.alloc _⟩
  | false =>
   have eV : facV ⟨false,T,N⟩ = 1 := by simp [facV,h3]
   rw [eV]
   clear eV h3
   go_enter Tryz.func184,Tryz.ntmps184
   go_wp2
   go_ret
   exact ⟨rfl,World.grownBy_alloc w _ _,HC.out.alloc _⟩
end
section
set_option maxHeartbeats 1000000
set_option maxRecDepth 100000
def jBehind (k : Int) : Bool := k == 18 || k == 22 || k == 17 || k == 11
def jAhead (k : Int) : Bool := k == 11 || k == 13 || k == 12 || k == 19 || k == 18 || k == 17
theorem pl_behind (k : Int) (w : World) : Calls Tryz.prog 72 #[.int .i64 k] w fun e w' => e = .returned (.bool (jBehind k)) ∧ w' = w := by
 obtain ⟨x,hx⟩ : ∃ x,x = jBehind k := ⟨_,rfl⟩
 have hk : Hid (x = jBehind k) := hx
 rw [← hx];clear hx
 go_enter Tryz.func72,Tryz.ntmps72
 go_wp2
 all_goals go_ret
 all_goals refine ⟨ret_bool ?_,rfl⟩
 all_goals rw [hk.out]
 all_goals clear hk
 all_goals go_light
 all_goals simp_all [jBehind]
theorem pl_ahead (k : Int) (w : World) : Calls Tryz.prog 73 #[.int .i64 k] w fun e w' => e = .returned (.bool (jAhead k)) ∧ w' = w := by
 obtain ⟨x,hx⟩ : ∃ x,x = jAhead k := ⟨_,rfl⟩
 have hk : Hid (x = jAhead k) := hx
 rw [← hx];clear hx
 go_enter Tryz.func73,Tryz.ntmps73
 go_wp2
 all_goals go_ret
 all_goals refine ⟨ret_bool ?_,rfl⟩
 all_goals rw [hk.out]
 all_goals clear hk
 all_goals go_light
 all_goals simp_all [jAhead]
def spell (t : PTok) : List UInt8 := if srt t = 3 then Lib.itoa (tval t) else t.s.data.toList
theorem grow_Sort (w : World) (k : Nat) (os : Array Obj) : w.grownBy (Go.Sort.grow (w.drewN k) os) none :=
 ⟨rfl,rfl,rfl,by simp [Go.Sort.grow],fun i hi _ => by
  show (w.heap ++ os)[i]? = w.heap[i]?
  exact Array.getElem?_append_left hi⟩
abbrev PowTab (w : World) : Prop := Lib.TabIs Tryz.prog w "internal/strconv.uint64pow10" .u64 Lib.pow10Tab
theorem tab_kept {w w' : World} (h : PowTab w) (hb : ∀ k,k < w.heap.size → w'.heap[k]? = w.heap[k]?) : PowTab w' := by
 unfold PowTab Lib.TabIs World.var? at *
 cases hg : Tryz.prog.globalNamed "internal/strconv.uint64pow10" with
 | none => rw [hg] at h;cases h
 | some g =>
  rw [hg] at h
  simp only [Option.bind_some] at h ⊢
  have hlt : g < w.heap.size := by
   rcases Nat.lt_or_ge g w.heap.size with q | q
   ·exact q
   ·rw [Array.getElem?_eq_none q] at h;cases h
  rw [hb g hlt];exact h
theorem nd_le : ∀ (k u : Nat),u < 10 ^ (k + 1) → Lib.nDigits u ≤ k + 1
 | 0,u,h => by rw [Lib.nDigits_small (by simpa using h)];exact Nat.le_refl _
 | k + 1,u,h => by
  by_cases q : u < 10
  ·rw [Lib.nDigits_small q];omega
  ·rw [Lib.nDigits_big q]
   have h2 : u < 10 * 10 ^ (k + 1) := by rw [Nat.pow_succ] at h;omega
   have := nd_le k (u / 10) (by omega)
   omega
theorem TOk.lit {t : PTok} (h : TOk t) : (spell t).length ≤ 2000 := by
 unfold spell
 split
 ·have h1 := h.2.1;have h2 := h.2.2
  unfold Lib.itoa
  split
  ·rw [List.length_cons,Lib.decDigits_length]
   have := nd_le 10 (tval t).natAbs (by have : (10 : Nat) ^ (10 + 1) = 100000000000 := (by decide);omega)
   omega
  ·rw [Lib.decDigits_length]
   have := nd_le 10 (tval t).toNat (by have : (10 : Nat) ^ (10 + 1) = 100000000000 := (by decide);omega)
   omega
 ·rw [Array.length_toList];exact h.1
theorem pl_spell (T : PTok) (hT : TOk T) (w : World) (ht : PowTab w) : Calls Tryz.prog 76 #[tkV T] w fun e w' => e = .returned (.string ⟨(spell T).toArray⟩) ∧ w.grownBy w' none := by
 have h1 := hT.2.1
 have h2 := hT.2.2
 by_cases h3 : srt T = 3
 ·have e3 : (srt T == 3) = true := by simpa using h3
  have hs : spell T = Lib.itoa (tval T) := if_pos h3
  rw [hs]
  have K := Kept.mk (fun o => Tryz.strconv_Itoa (tval T) (by omega) (by omega) (w.alloc o) (tab_kept ht (fun k hk => heap_alloc_old w o hk)))
  unfold tkV
  clear h3 hs
  go_enter Tryz.func76,Tryz.ntmps76
  go_wp2_with (go_at_call 125;refine (K.get _).mono ?_;rintro e w1 ⟨rfl,kk,os,hw1⟩;subst w1)
  go_ret
  exact ⟨rfl,(World.grownBy_alloc w _ none).trans (grow_Sort _ _ _)⟩
 ·have e3 : (srt T == 3) = false := by simpa using h3
  have hs : spell T = T.s.data.toList := if_neg h3
  rw [hs]
  unfold tkV
  clear h3 hs
  go_enter Tryz.func76,Tryz.ntmps76
  go_wp2
  go_ret
  exact ⟨rfl,World.grownBy_alloc w _ none⟩
def needless (a b : PTok) : Bool := srt a == 3 && tval a == 1 && srt b == 21
theorem pl_needless (T U : PTok) (gt off len cap : Nat) (hl : 2 ≤ len) (w : World) (c0 : w.cell? ⟨gt,off,none⟩ = some (.int .i64 (srt T))) (c2 : w.cell? ⟨gt,off + 2,none⟩ = some (.int .i64 (tval T))) (d0 : w.cell? ⟨gt,off + 4,none⟩ = some (.int .i64 (srt U))) : Calls Tryz.prog 71 #[.slice (some ⟨gt,off,none⟩) len cap] w fun e w' => e = .returned (.bool (needless T U)) ∧ w' = w := by
 have hl1 : (1 : Int) < len := by omega
 have hl0 : (0 : Int) < len := by omega
 unfold needless
 by_cases h3 : srt T = 3
 ·have e3 : (srt T == 3) = true := by simpa using h3
  rw [e3]
  by_cases h1 : tval T = 1
  ·have e1 : (tval T == 1) = true := by simpa using h1
   rw [e1]
   clear h3 h1
   go_enter Tryz.func71,Tryz.ntmps71
   go_wp2
   go_ret
   exact ⟨rfl,rfl⟩
  ·have e1 : (tval T == 1) = false := by simpa using h1
   rw [e1]
   clear h3 h1
   go_enter Tryz.func71,Tryz.ntmps71
   go_wp2
   go_ret
   exact ⟨rfl,rfl⟩
 ·have e3 : (srt T == 3) = false := by simpa using h3
  rw [e3]
  clear h3
  go_enter Tryz.func71,Tryz.ntmps71
  go_wp2
  go_ret
  exact ⟨rfl,rfl⟩
end
section
variable {w w' : World} {bc bm n : Nat} {g : ByteArray → Th} {f : ByteArray → Value} {vV vC : Value} {st : FSt}
def foldSt {α : Type} (step : Nat → α → FSt → FSt) : Nat → List α → FSt → FSt
 | _,[],st => st
 | k,t :: ts,st => foldSt step (k + 1) ts (step k t st)
def SnRel {α : Type} (l : List α) (step : Nat → α → FSt → FSt) (RES : FSt) (v1 : Value) (gr cap : Nat) (cell : α → List Value) (E sz : Nat) (outc : α → List Value) (w : World) (bc bm n : Nat) (f : ByteArray → Value) (vV vC : Value) (m : Nat) (v vi : Value) (wr : World) : Prop :=
 ∃ (i : Nat) (S : FSt),i ≤ l.length ∧ m = l.length - i ∧ vi = .int .i64 i ∧ Hid (foldSt step i (l.drop i) S = RES) ∧ CkS wr bc bm n f vV vC S ∧ RowIn wr v1 gr cap cell l ∧ wr.ownsRow w.heap.size E sz v i ((l.take i).flatMap outc) ∧ w.grownBy wr (some bc)
theorem sn_step {α : Type} {l : List α} {step : Nat → α → FSt → FSt} {RES : FSt} {v1 : Value} {gr cap : Nat} {cell : α → List Value} {E sz : Nat} {outc : α → List Value} {v v' : Value} {wr w2 w3 : World} {o : Obj} {i : Nat} {S : FSt} {a : α} (h0 : CkS w bc bm n f vV vC st) (hgr : gr < w.heap.size) (hg : w.grownBy w2 (some bc)) (ha : l[i]? = some a) (hl : Hid (foldSt step i (l.drop i) S = RES)) (hC : CkS w2 bc bm n f vV vC (step i a S)) (hR : RowIn w2 v1 gr cap cell l) (hown : wr.ownsRow w.heap.size E sz v i ((l.take i).flatMap outc)) (hown' : w3.ownsRow w.heap.size E sz v' (i + 1) ((l.take i).flatMap outc ++ outc a)) (hgrow : (w2.alloc o).grownBy w3 v.ownBlock) : SnRel l step RES v1 gr cap cell E sz outc w bc bm n f vV vC (l.length - (i + 1)) v' (.int .i64 ((i : Int) + 1)) w3 := by
 have e : ∀ k,v.ownBlock = some k → w.heap.size ≤ k := fun k hk => (hown.lt k hk).1
 have hi : i < l.length := (List.getElem?_eq_some_iff.1 ha).1
 have ha' : l[i] = a := (List.getElem?_eq_some_iff.1 ha).2
 have := h0.lt;have := h0.ltm
 refine ⟨i + 1,step i a S,by omega,rfl,rfl,?_,?_,?_,?_,?_⟩
 ·have q := hl.out
  rw [List.drop_eq_getElem_cons hi,ha'] at q
  exact q
 ·exact (hC.alloc o).kept hgrow (fun q => by have := e _ q;omega) (fun q => by have := e _ q;omega)
 ·exact (hR.kept (World.grownBy_alloc w2 o none) (by simp)).kept hgrow (fun q => by have := e _ q;omega)
 ·rw [List.take_add_one,ha,List.flatMap_append];simpa using hown'
 ·have g2 := hg.trans (World.grownBy_alloc w2 o (some bc))
  exact ⟨hgrow.os.trans g2.os,hgrow.tape.trans g2.tape,hgrow.output.trans g2.output,Nat.le_trans g2.size hgrow.size,fun i hi hn =>
   (hgrow.block i (Nat.lt_of_lt_of_le hi g2.size) (fun q => by have := e i q.symm;omega)).trans (g2.block i hi hn)⟩
theorem sn_past {w1 : World} {wr : World} {t : Obj} (hb : bc < wr.heap.size) (hg : (wr.alloc t).grownBy w1 (some bc)) : wr.heap.size < w1.heap.size ∧ w1.heap[wr.heap.size]? = some t :=
 ⟨by have := hg.size;simp at this;omega,past0 (heap_alloc_new wr t) (by simp) hg (by simp;omega)⟩
def termStP (g : ByteArray → Th) (k : Nat) (t : GTerm) (st : FSt) : FSt := flt ((g t.name.s).so != 4) 4 t.name.line (facSt t (flt (decide ((8 : Int) ≤ k)) 6 t.first.line st))
def termOut (g : ByteArray → Th) (t : GTerm) : List Value := [.int .i64 (thFind g t.name.s 4).pl,.int .i64 (facV t)]
def varStP (g : ByteArray → Th) (k : Nat) (t : PTok) (st : FSt) : FSt := flt ((g t.s).so != 4) 4 t.line (flt (decide ((8 : Int) ≤ k)) 6 t.line st)
def varOut (g : ByteArray → Th) (t : PTok) : List Value := [.int .i64 (thFind g t.s 4).pl]
def litStP (g : ByteArray → Th) (k : Nat) (t : GLit) (st : FSt) : FSt := flt (noTruthT (thFind g t.name.s 4)) 7 t.name.line (flt ((g t.name.s).so != 4) 4 t.name.line (flt (decide ((8 : Int) ≤ k)) 6 t.first.line st))
def litOut (g : ByteArray → Th) (t : GLit) : List Value := [.int .i64 (thFind g t.name.s 4).pl,.int .i64 (if srt t.first = 22 then 0 else 1)]
def numStP (k : Nat) (t : PTok) (st : FSt) : FSt := flt (outB (tval t) 1000) 5 t.line (flt (decide ((20 : Int) ≤ k)) 6 t.line st)
def numOut (t : PTok) : List Value := [.int .i64 (tval t)]
theorem infoRT : (Tryz.prog.info? 201).map (fun i => (i.zero,i.size,i.bytes)) = some (some (.agg #[.int .i64 0,.int .i64 0]),2,16) := by kernel_rfl
theorem infoRL : (Tryz.prog.info? 203).map (fun i => (i.zero,i.size,i.bytes)) = some (some (.agg #[.int .i64 0,.int .i64 0]),2,16) := by kernel_rfl
theorem infoQI : (Tryz.prog.info? 3).map (fun i => (i.zero,i.size,i.bytes)) = some (some (.int .i64 0),1,8) := by kernel_rfl
theorem two_one (a b : Int) : ∀ u ∈ [Value.int .i64 a,.int .i64 b],u.oneCell' = true := by
 intro u hu;simp at hu;rcases hu with rfl | rfl <;> rfl
theorem one_one (a : Int) : ∀ u ∈ [Value.int .i64 a],u.oneCell' = true := by
 intro u hu;simp at hu;rcases hu with rfl;rfl
end
section
set_option maxHeartbeats 4000000
set_option maxRecDepth 100000
variable {w w' : World} {bc bm n : Nat} {g : ByteArray → Th} {f : ByteArray → Value} {vV vC : Value} {st : FSt}
def putTh (g : ByteArray → Th) (s : ByteArray) (t : Th) : ByteArray → Th := fun s' => if s' = s then t else g s'
theorem Ck.put {kd ln : Int} (h : Ck w bc bm n (fun s => thV (g s)) vV vC kd ln) (s : ByteArray) (hs : s.size ≤ 2000) (hn : n < 5000) (t : Th) : ∃ w',(Instr.mapUpdate 140 (.map (some bm)) (.string s) (thV t)).run Tryz.prog w = .ok () w' ∧ w.grownBy w' (some bm) ∧ Ck w' bc bm (n + 1) (fun s' => thV (putTh g s t s')) vV vC kd ln := by
 obtain ⟨w',hr,hm,hg⟩ := h.mp.put s hs hn (thV t)
 refine ⟨w',hr,hg,?_⟩
 have ne : some bm ≠ some bc := by simpa using h.ne
 have e : (fun s' => if s' = s then thV t else thV (g s')) = fun s' => thV (putTh g s t s') := by
  funext s';unfold putTh;split <;> rfl
 rw [e] at hm
 exact ⟨hg.cell h.c0 (fun q => ne q.symm),hg.cell h.c1 (fun q => ne q.symm),hg.cell h.c2 (fun q => ne q.symm),hg.cell h.c3 (fun q => ne q.symm),hg.cell h.c4 (fun q => ne q.symm),
  (World.frozen?_of_block (a := ⟨bc,1,none⟩) (hg.block bc h.lt (fun q => ne q.symm))).trans h.f1,(World.frozen?_of_block (a := ⟨bc,2,none⟩) (hg.block bc h.lt (fun q => ne q.symm))).trans h.f2,(World.frozen?_of_block (a := ⟨bc,3,none⟩) (hg.block bc h.lt (fun q => ne q.symm))).trans h.f3,(World.frozen?_of_block (a := ⟨bc,4,none⟩) (hg.block bc h.lt (fun q => ne q.symm))).trans h.f4,
  Nat.lt_of_lt_of_le h.lt hg.size,hm,Nat.lt_of_lt_of_le h.ltm hg.size,h.ne⟩
theorem But.of {S : List Nat} {a b : World} {r : Nat} (h : a.grownBy b (some r)) (hr : r ∈ S) : But S a b := (But.refl S a).grown h (fun k e => by cases e;exact .inl hr)
theorem sn_list (h : CkS w bc bm n (fun s => thV (g s)) vV vC st) (s : GSt) (vn vt vl v1 : Value) (gr cap : Nat) (hR : RowIn w v1 gr cap tokCell s.numbers) (hgc : gr ≠ bc) (hgm : gr ≠ bm) (hl : s.numbers.length ≤ 3000) (hok : ∀ a ∈ s.numbers,TOk a) (hon : TOk s.name) (hn : n < 5000) (h1n : vn.oneCell' = true) (h1t : vt.oneCell' = true) (h1l : vl.oneCell' = true) : Calls Tryz.prog 122 #[.pointer (some ⟨bc,0,none⟩),.agg (gsCells s vn v1 vt vl)] w fun e w' => e = .returned (.tuple #[]) ∧ ∃ v,w'.ownsRow w.heap.size 3 1 v s.numbers.length (s.numbers.flatMap numOut) ∧ But [bc,bm] w w' ∧
   CkS w' bc bm (n + 1) (fun s' => thV (putTh g s.name.s ⟨5,0,0,0,v⟩ s')) vV vC (foldSt numStP 0 s.numbers (flt ((g s.name.s).so != 0) 4 s.name.line st)) := by
 obtain ⟨i0,hi0,hz0,hz1,hz2⟩ := info_parts infoQI
 have HC : Hid (CkS w bc bm n (fun s => thV (g s)) vV vC st) := h
 have hlt := h.lt
 have hltm := h.ltm
 have hgl := hR.lt
 have HR : Hid (RowIn w v1 gr cap tokCell s.numbers) := hR
 have HOK : Hid (∀ a ∈ s.numbers,TOk a) := hok
 have K1 := Kept.mk (fun {W : World} (hW : CkS W bc bm n (fun s => thV (g s)) vV vC st) => sn_undeclared hW s.name hon.1)
 obtain ⟨kw,N,names,l,terms,rel,lits⟩ := s
 simp only at *
 generalize hS1 : flt ((g N.s).so != 0) 4 N.line st = S1 at *
 obtain ⟨RES,hRES⟩ : ∃ R,R = foldSt numStP 0 l S1 := ⟨_,rfl⟩
 have HS : Hid (foldSt numStP 0 (l.drop 0) S1 = RES) := by rw [Hid,hRES];rfl
 rw [← hRES]
 obtain rfl := hR.is
 have hN := hon.1
 unfold tkV at K1
 unfold gsCells
 simp only
 clear h hR hRES hok hS1 hon
 go_enter Tryz.func122,Tryz.ntmps122
 go_wp2_with (go_at_call 150;refine (K1.get (HC.out.alloc _)).mono ?_;rintro e w1 ⟨rfl,hg1,hC1⟩;obtain ⟨hs1,hB1⟩ := sn_past hlt hg1;have d9 := cell_of hB1 9 _ rfl;have d5 := cell_of hB1 5 _ rfl)
 have HR1 : RowIn w1 _ gr cap tokCell l := (HR.out.kept (World.grownBy_alloc w _ none) (by simp)).kept hg1 (by simp;omega)
 go_loopg [4,14] l.length (fun m v vi wr => SnRel l numStP RES (.slice (some ⟨gr,0,none⟩) l.length cap) gr cap tokCell 3 1 numOut w1 bc bm n (fun s => thV (g s)) vV vC m v vi wr)
 case atStart => exact ⟨0,S1,Nat.zero_le _,rfl,rfl,HS,hC1,HR1,World.ownsRow_nil _ _ _ _,grown_refl _ _⟩
 case round =>
  obtain ⟨i,S,hi,rfl,rfl,hlex,hC,hR,hown,hgr⟩ := hrel
  have hlr := hC.lt
  have hlm := hC.ltm
  have hltb := hC1.lt
  have hglb := HR1.lt
  by_cases hlt2 : i < l.length
  ·obtain ⟨a,ha⟩ : ∃ a,l[i]? = some a := ⟨l[i],by simp [hlt2]⟩
   have hoka := HOK.out a (List.mem_of_getElem? ha)
   have c0 : wr.cell? ⟨gr,i * 4,none⟩ = some (.int .i64 (srt a)) := hR.at (sz := 4) (fun _ => rfl) ha 0 _ rfl
   have c1 : wr.cell? ⟨gr,i * 4 + 1,none⟩ = some (.string a.s) := hR.at (sz := 4) (fun _ => rfl) ha 1 _ rfl
   have c2 : wr.cell? ⟨gr,i * 4 + 2,none⟩ = some (.int .i64 (tval a)) := hR.at (sz := 4) (fun _ => rfl) ha 2 _ rfl
   have c3 : wr.cell? ⟨gr,i * 4 + 3,none⟩ = some (.int .i64 a.line) := hR.at (sz := 4) (fun _ => rfl) ha 3 _ rfl
   have J1 := Kept.mk (fun {W : World} (hW : CkS W bc bm n (fun s => thV (g s)) vV vC S) => sn_room hW a i 20)
   have J2 := Kept.mk (fun {W : World} (hW : CkS W bc bm n (fun s => thV (g s)) vV vC (flt (decide ((20 : Int) ≤ i)) 6 a.line S)) => sn_number hW a 1000 (by decide) (by decide))
   have hlt3 : (i : Int) < l.length := by omega
   have h03 : (0 : Int) ≤ i := by omega
   unfold tkV at J1 J2
   go_wp2_with (first | (at_builtin;refine wpList_append_own _ rfl _ _ 33 rfl w1.heap.size 3 i0 (.int .i64 0) 1 8 Tryz.underlying33 hi0 hz0 hz1 hz2 rfl (by decide) _ _ _ rfl (ho2.alloc _) ⟨w3.heap.size,0,none⟩ 1 1 (numOut a) rfl rfl (World.news_of_block (heap_alloc_new _ _)) (one_one _) ?c3 ?c4 ?c5 ?_) | (go_at_call 151;refine (J2.get hCa).mono ?_;rintro e w3 ⟨rfl,hg3,hCb⟩;have ho2 := ho1.kept hg3 (low_ne' hown hltb)) | (go_at_call 149;refine (J1.get (hC.alloc _)).mono ?_;rintro e w2 ⟨rfl,hg2,hCa⟩;obtain ⟨hs2,hB2⟩ := sn_past hlr hg2;have ho1 := (hown.alloc _).kept hg2 (low_ne' hown hltb);have b0 := cell_of hB2 0 _ rfl;have b1 := cell_of hB2 1 _ rfl;have b2 := cell_of hB2 2 _ rfl;have b3 := cell_of hB2 3 _ rfl))
   case c3 => unfold maxLen;omega
   case c4 => omega
   case c5 => have := hgr.size;have := hg2.size;have := hg3.size;simp at *;omega
   intro v' w9 hown' hgrow _
   have R := sn_step (step := numStP) hC1 hglb (((hgr.trans (World.grownBy_alloc _ _ _)).trans hg2).trans hg3) ha hlex hCb (((hR.kept (World.grownBy_alloc _ _ none) (by simp)).kept hg2 (by simp;omega)).kept hg3 (by simp;omega)) hown hown' hgrow
   clear hown' hgrow hown
   go_wp2
   go_roundg (l.length - (i + 1))
   case measure => omega
   case rel => simpa using R
  ·obtain rfl : i = l.length := by omega
   have hl2 : Hid (RES = S) := by rw [Hid,← hlex.out,List.drop_of_length_le (Nat.le_refl _)];rfl
   rw [List.take_of_length_le (Nat.le_refl _)] at hown
   obtain ⟨va,vm,vc,rfl⟩ := own_slice hown
   have hB9 := past0 hB1 hs1 hgr (by simp;omega)
   have e5 := cell_of hB9 5 _ rfl
   have e0 := hC.c0
   obtain ⟨w9,hrun,hg9,hC9⟩ := hC.drew.put N.s hN hn ⟨5,0,0,0,.slice va vm vc⟩
   unfold thV at hrun
   clear hlex
   go_wp2
   go_region
   all_goals go_wp2
   all_goals go_end0
   all_goals rw [hl2.out]
   all_goals exact ⟨rfl,.slice va vm vc,World.ownsRow.mono (((hown.kept (grown_drew' _ none) (own_none _))).kept hg9 (low_ne' hown (by omega))) (by omega),(((((But.refl _ w).alloc _).grown hg1 (fun k e => by cases e;exact .inl (by simp))).grown hgr (fun k e => by cases e;exact .inl (by simp))).drew).grown hg9 (fun k e => by cases e;exact .inl (by simp)),hC9⟩
end
section
set_option maxHeartbeats 1000000
variable {w w' : World} {bc bm n : Nat} {g : ByteArray → Th} {f : ByteArray → Value} {vV vC : Value} {st : FSt}
theorem sn_Clone (s : ByteArray) (w : World) (hs : s.size ≤ 2000) : Calls Tryz.prog 153 #[.string s] w fun e w' => e = .returned (.string s) ∧ w.grownBy w' none := by
 have K := Kept.mk (Tryz.stringslite_Clone s w (by omega))
 go_enter Tryz.func153,Tryz.ntmps153
 go_wp2_with (go_at_call 183;refine K.get.mono ?_;rintro e w1 ⟨rfl,hb⟩)
 go_ret
 exact ⟨rfl,hb.os,hb.tape,hb.output,hb.size,fun k hk _ => hb.block k hk⟩
structure QVar where
 name : ByteArray
 low : Int
 high : Int
def qvCell (v : QVar) : List Value := [.string v.name,.int .i64 v.low,.int .i64 v.high]
theorem infoRV : (Tryz.prog.info? 78).map (fun i => (i.zero,i.size,i.bytes)) = some (some (.agg #[.string .empty,.int .i64 0,.int .i64 0]),3,32) := by kernel_rfl
theorem qv_one (v : QVar) : ∀ u ∈ qvCell v,u.oneCell' = true := by
 intro u hu;simp [qvCell] at hu;rcases hu with rfl | rfl | rfl <;> rfl
end
section
set_option maxHeartbeats 4000000
set_option maxRecDepth 100000
variable {w w' : World} {bc bm n : Nat} {g : ByteArray → Th} {f : ByteArray → Value} {vV vC : Value} {st : FSt}
theorem Ck.setV {kd ln : Int} {v : Value} (h : Ck w bc bm n f vV vC kd ln) : Ck (w.setCell ⟨bc,1,none⟩ v) bc bm n f v vC kd ln := by
 have gw := grown_set w bc 1 v
 exact ⟨(cell_set_other _ _ _ _ _ _ (by simp)).trans h.c0,cell_set_same _ _ _ _ _ h.c1,(cell_set_other _ _ _ _ _ _ (by simp)).trans h.c2,(cell_set_other _ _ _ _ _ _ (by simp)).trans h.c3,(cell_set_other _ _ _ _ _ _ (by simp)).trans h.c4,
  (frozen_set _ _ _ _ _ _).trans h.f1,(frozen_set _ _ _ _ _ _).trans h.f2,(frozen_set _ _ _ _ _ _).trans h.f3,(frozen_set _ _ _ _ _ _).trans h.f4,Nat.lt_of_lt_of_le h.lt gw.size,h.mp.kept gw (by simpa using h.ne.symm),Nat.lt_of_lt_of_le h.ltm gw.size,h.ne⟩
theorem Ck.setC {kd ln : Int} {v : Value} (h : Ck w bc bm n f vV vC kd ln) : Ck (w.setCell ⟨bc,2,none⟩ v) bc bm n f vV v kd ln := by
 have gw := grown_set w bc 2 v
 exact ⟨(cell_set_other _ _ _ _ _ _ (by simp)).trans h.c0,(cell_set_other _ _ _ _ _ _ (by simp)).trans h.c1,cell_set_same _ _ _ _ _ h.c2,(cell_set_other _ _ _ _ _ _ (by simp)).trans h.c3,(cell_set_other _ _ _ _ _ _ (by simp)).trans h.c4,
  (frozen_set _ _ _ _ _ _).trans h.f1,(frozen_set _ _ _ _ _ _).trans h.f2,(frozen_set _ _ _ _ _ _).trans h.f3,(frozen_set _ _ _ _ _ _).trans h.f4,Nat.lt_of_lt_of_le h.lt gw.size,h.mp.kept gw (by simpa using h.ne.symm),Nat.lt_of_lt_of_le h.ltm gw.size,h.ne⟩
def varDecl (g : ByteArray → Th) (N : Nat) (nm lo hi : PTok) (st : FSt) : FSt :=
 flt (decide (tval hi < tval lo)) 5 hi.line (flt (outB (tval hi) 1000) 5 hi.line (flt (outB (tval lo) 1000) 5 lo.line (flt ((g nm.s).so != 0) 4 nm.line (flt (decide ((8 : Int) ≤ N)) 6 nm.line st))))
theorem sn_var (B : Nat) (vars : List QVar) (va : Option Addr) (vc : Nat) (h : CkS w bc bm n (fun s => thV (g s)) (.slice va vars.length vc) vC st) (kw nm lo hi rel : PTok) (names : List PTok) (terms : List GTerm) (lits : List GLit) (vn vt vl v1 : Value) (gr cap : Nat) (hR : RowIn w v1 gr cap tokCell [lo,hi]) (hgc : gr ≠ bc) (hgm : gr ≠ bm) (hgB : gr < B) (hcB : bc < B) (hmB : bm < B) (hBw : B ≤ w.heap.size) (hoV : w.ownsRow B 78 3 (.slice va vars.length vc) vars.length (vars.flatMap qvCell)) (hN : vars.length ≤ 3000) (hkN : TOk nm) (hkl : TOk lo) (hkh : TOk hi) (hn : n < 5000) (h1n : vn.oneCell' = true) (h1t : vt.oneCell' = true) (h1l : vl.oneCell' = true) : Calls Tryz.prog 121 #[.pointer (some ⟨bc,0,none⟩),.agg (gsCells ⟨kw,nm,names,[lo,hi],terms,rel,lits⟩ vn v1 vt vl)] w fun e w' => e = .returned (.tuple #[]) ∧ ∃ v,w'.ownsRow B 78 3 v (vars.length + 1) (vars.flatMap qvCell ++ qvCell ⟨nm.s,tval lo,tval hi⟩) ∧ But ([bc,bm] ++ (Value.slice va vars.length vc).ownBlock.toList) w w' ∧
   CkS w' bc bm (n + 1) (fun s' => thV (putTh g nm.s ⟨4,vars.length,tval lo,tval hi,.slice none 0 0⟩ s')) v vC (varDecl g vars.length nm lo hi st) := by
 obtain ⟨i0,hi0,hz0,hz1,hz2⟩ := info_parts infoRV
 have HC : Hid (CkS w bc bm n (fun s => thV (g s)) (.slice va vars.length vc) vC st) := h
 have hlt := h.lt
 have hltm := h.ltm
 have hgl := hR.lt
 have hc1 := h.c1
 have hx1 := hkl.2.1;have hx2 := hkl.2.2;have hy1 := hkh.2.1;have hy2 := hkh.2.2
 have R0 : RowIn w v1 gr cap tokCell [lo,hi] := hR
 have o0 := hoV
 have hNs := hkN.1
 have K1 := Kept.mk (fun {W : World} (hW : CkS W bc bm n (fun s => thV (g s)) (.slice va vars.length vc) vC st) => sn_room hW nm vars.length 8)
 generalize hS1 : flt (decide ((8 : Int) ≤ vars.length)) 6 nm.line st = S1 at *
 have K2 := Kept.mk (fun {W : World} (hW : CkS W bc bm n (fun s => thV (g s)) (.slice va vars.length vc) vC S1) => sn_undeclared hW nm hkN.1)
 generalize hS2 : flt ((g nm.s).so != 0) 4 nm.line S1 = S2 at *
 have K3 := Kept.mk (fun {W : World} (hW : CkS W bc bm n (fun s => thV (g s)) (.slice va vars.length vc) vC S2) => sn_number hW lo 1000 (by decide) (by decide))
 generalize hS3 : flt (outB (tval lo) 1000) 5 lo.line S2 = S3 at *
 have K4 := Kept.mk (fun {W : World} (hW : CkS W bc bm n (fun s => thV (g s)) (.slice va vars.length vc) vC S3) => sn_number hW hi 1000 (by decide) (by decide))
 generalize hS4 : flt (outB (tval hi) 1000) 5 hi.line S3 = S4 at *
 have K5 := Kept.mk (fun {W : World} (hW : CkS W bc bm n (fun s => thV (g s)) (.slice va vars.length vc) vC S4) => sn_fault hW hi 5)
 have HRES : Hid (varDecl g vars.length nm lo hi st = flt (decide (tval hi < tval lo)) 5 hi.line S4) := by rw [Hid];unfold varDecl;rw [hS1,hS2,hS3,hS4]
 rw [HRES.out]
 obtain rfl := hR.is
 unfold tkV at K1 K2 K3 K4 K5
 unfold gsCells
 simp only
 clear h hR hS1 hS2 hS3 hS4
 have e20 : ((2 : Nat) : Int) = 2 := rfl
 by_cases hlh : tval hi < tval lo
 ·rw [decide_eq_true hlh]
  go_enter Tryz.func121,Tryz.ntmps121
  go_wp2_with (first | (go_at_call 152;refine (K5.get hC4).mono ?_;rintro e w8 ⟨rfl,hg8,hC8⟩;have hB8 := past0 hB4 hs4 hg8 (by simp;omega);have hs8 : w.heap.size < w8.heap.size := (by have := hg8.size;omega);have o8 := o4.kept hg8 (low_ne' hoV hcB);have a5_8 := cell_of hB8 5 _ rfl;have m8 := hC8.c0) | (go_at_call 151;refine (K4.get hC3).mono ?_;rintro e w4 ⟨rfl,hg4,hC4⟩;have hB4 := past0 hB3 hs3 hg4 (by simp;omega);have hs4 : w.heap.size < w4.heap.size := (by have := hg4.size;omega);have R4 := R3.kept hg4 (by simp;omega);have o4 := o3.kept hg4 (low_ne' hoV hcB);have a9_4 := cell_of hB4 9 _ rfl;have q4_4 := R4.row 4 _ rfl;have q5_4 := R4.row 5 _ rfl;have q6_4 := R4.row 6 _ rfl;have q7_4 := R4.row 7 _ rfl) | (go_at_call 151;refine (K3.get hC2).mono ?_;rintro e w3 ⟨rfl,hg3,hC3⟩;have hB3 := past0 hB2 hs2 hg3 (by simp;omega);have hs3 : w.heap.size < w3.heap.size := (by have := hg3.size;omega);have R3 := R2.kept hg3 (by simp;omega);have o3 := o2.kept hg3 (low_ne' hoV hcB);have a9_3 := cell_of hB3 9 _ rfl;have q4_3 := R3.row 4 _ rfl;have q5_3 := R3.row 5 _ rfl;have q6_3 := R3.row 6 _ rfl;have q7_3 := R3.row 7 _ rfl) | (go_at_call 150;refine (K2.get hC1).mono ?_;rintro e w2 ⟨rfl,hg2,hC2⟩;have hB2 := past0 hB1 hs1 hg2 (by simp;omega);have hs2 : w.heap.size < w2.heap.size := (by have := hg2.size;omega);have R2 := R1.kept hg2 (by simp;omega);have o2 := o1.kept hg2 (low_ne' hoV hcB);have a9_2 := cell_of hB2 9 _ rfl;have q0_2 := R2.row 0 _ rfl;have q1_2 := R2.row 1 _ rfl;have q2_2 := R2.row 2 _ rfl;have q3_2 := R2.row 3 _ rfl) | (go_at_call 149;refine (K1.get (HC.out.alloc _)).mono ?_;rintro e w1 ⟨rfl,hg1,hC1⟩;obtain ⟨hs1,hB1⟩ := sn_past hlt hg1;have R1 := (R0.kept (World.grownBy_alloc w _ none) (by simp)).kept hg1 (by simp;omega);have o1 := (o0.alloc _).kept hg1 (low_ne' hoV hcB);have a4_1 := cell_of hB1 4 _ rfl;have a5_1 := cell_of hB1 5 _ rfl;have a6_1 := cell_of hB1 6 _ rfl;have a7_1 := cell_of hB1 7 _ rfl))
  obtain ⟨w5,hrun,hg5,hC5⟩ := hC8.drew.put nm.s hNs hn ⟨4,vars.length,tval lo,tval hi,.slice none 0 0⟩
  unfold thV at hrun
  have hB5 := past0 (w := w8.drew) hB8 hs8 hg5 (by simp;omega)
  have hs5 : w.heap.size < w5.heap.size := by have := hg5.size;simp at this;omega
  have o5 := (o8.kept (grown_drew' _ none) (own_none _)).kept hg5 (low_ne' hoV hmB)
  have a5_5 := cell_of hB5 5 _ rfl
  go_region
  go_wp2_with (first | (at_builtin;refine wpList_append_own _ rfl _ _ 73 rfl B 78 i0 (.agg #[.string .empty,.int .i64 0,.int .i64 0]) 3 32 Tryz.underlying73 hi0 hz0 hz1 hz2 rfl (by decide) _ _ _ rfl (o6.alloc _) ⟨w6.heap.size,0,none⟩ 1 1 (qvCell ⟨nm.s,tval lo,tval hi⟩) rfl rfl (World.news_of_block (heap_alloc_new _ _)) (qv_one _) ?c3 ?c4 ?c5 ?_) | (go_at_call 153;refine (sn_Clone nm.s w5 hNs).mono ?_;rintro e w6 ⟨rfl,hg6⟩;have hC6 := hC5.kept hg6 (by simp) (by simp);have o6 := o5.kept hg6 (own_none _);have m6 := hC6.c1))
  case c3 => unfold maxLen;omega
  case c4 => omega
  case c5 => have := hg5.size;have := hg6.size;simp at *;omega
  intro v' w7 hown' hgrow _
  have hC7 := (hC6.alloc _).kept hgrow (low_ne hoV hcB) (low_ne hoV hmB)
  have m7 := hC7.c1
  have f7 := hC7.f1
  obtain ⟨xa,xm,xc,rfl⟩ := own_slice hown'
  have HK : Hid (∀ W,W = w7.setCell ⟨bc,1,none⟩ (.slice xa xm xc) → (∃ v,W.ownsRow B 78 3 v (vars.length + 1) (vars.flatMap qvCell ++ qvCell ⟨nm.s,tval lo,tval hi⟩) ∧ But ([bc,bm] ++ (Value.slice va vars.length vc).ownBlock.toList) w W ∧ CkS W bc bm (n + 1) (fun s' => thV (putTh g nm.s ⟨4,vars.length,tval lo,tval hi,.slice none 0 0⟩ s')) v vC (flt true 5 hi.line S4))) := fun W e => by
   subst e
   refine ⟨_,hown'.kept (grown_set _ _ _ _) (low_ne' hown' hcB),?_,hC7.setV⟩
   have q1 := ((((But.refl ([bc,bm] ++ (Value.slice va vars.length vc).ownBlock.toList) w).alloc _).grown hg1 (fun k e => by cases e;exact .inl (by simp))).grown hg2 (fun k e => by cases e;exact .inl (by simp))).grown hg3 (fun k e => by cases e;exact .inl (by simp))
   have q2 := (((q1.grown hg4 (fun k e => by cases e;exact .inl (by simp))).grown hg8 (fun k e => by cases e;exact .inl (by simp))).drew.grown hg5 (fun k e => by cases e;exact .inl (by simp))).grown hg6 (fun k e => by cases e)
   exact ((q2.alloc _).grown hgrow (fun k e => by exact .inl (by simp [e]))).set (.inl (by simp)) _ _
  clear hown' hgrow
  go_wp2
  go_end0
  exact ⟨rfl,HK.out _ rfl⟩
 ·rw [decide_eq_false hlh,flt_false]
  have hlh' : tval lo ≤ tval hi := by omega
  go_enter Tryz.func121,Tryz.ntmps121
  go_wp2_with (first | (go_at_call 151;refine (K4.get hC3).mono ?_;rintro e w4 ⟨rfl,hg4,hC4⟩;have hB4 := past0 hB3 hs3 hg4 (by simp;omega);have hs4 : w.heap.size < w4.heap.size := (by have := hg4.size;omega);have R4 := R3.kept hg4 (by simp;omega);have o4 := o3.kept hg4 (low_ne' hoV hcB);have a5_4 := cell_of hB4 5 _ rfl;have m4 := hC4.c0) | (go_at_call 151;refine (K3.get hC2).mono ?_;rintro e w3 ⟨rfl,hg3,hC3⟩;have hB3 := past0 hB2 hs2 hg3 (by simp;omega);have hs3 : w.heap.size < w3.heap.size := (by have := hg3.size;omega);have R3 := R2.kept hg3 (by simp;omega);have o3 := o2.kept hg3 (low_ne' hoV hcB);have a9_3 := cell_of hB3 9 _ rfl;have q4_3 := R3.row 4 _ rfl;have q5_3 := R3.row 5 _ rfl;have q6_3 := R3.row 6 _ rfl;have q7_3 := R3.row 7 _ rfl) | (go_at_call 150;refine (K2.get hC1).mono ?_;rintro e w2 ⟨rfl,hg2,hC2⟩;have hB2 := past0 hB1 hs1 hg2 (by simp;omega);have hs2 : w.heap.size < w2.heap.size := (by have := hg2.size;omega);have R2 := R1.kept hg2 (by simp;omega);have o2 := o1.kept hg2 (low_ne' hoV hcB);have a9_2 := cell_of hB2 9 _ rfl;have q0_2 := R2.row 0 _ rfl;have q1_2 := R2.row 1 _ rfl;have q2_2 := R2.row 2 _ rfl;have q3_2 := R2.row 3 _ rfl) | (go_at_call 149;refine (K1.get (HC.out.alloc _)).mono ?_;rintro e w1 ⟨rfl,hg1,hC1⟩;obtain ⟨hs1,hB1⟩ := sn_past hlt hg1;have R1 := (R0.kept (World.grownBy_alloc w _ none) (by simp)).kept hg1 (by simp;omega);have o1 := (o0.alloc _).kept hg1 (low_ne' hoV hcB);have a4_1 := cell_of hB1 4 _ rfl;have a5_1 := cell_of hB1 5 _ rfl;have a6_1 := cell_of hB1 6 _ rfl;have a7_1 := cell_of hB1 7 _ rfl))
  obtain ⟨w5,hrun,hg5,hC5⟩ := hC4.drew.put nm.s hNs hn ⟨4,vars.length,tval lo,tval hi,.slice none 0 0⟩
  unfold thV at hrun
  have hB5 := past0 (w := w4.drew) hB4 hs4 hg5 (by simp;omega)
  have hs5 : w.heap.size < w5.heap.size := by have := hg5.size;simp at this;omega
  have o5 := (o4.kept (grown_drew' _ none) (own_none _)).kept hg5 (low_ne' hoV hmB)
  have a5_5 := cell_of hB5 5 _ rfl
  go_region
  go_wp2_with (first | (at_builtin;refine wpList_append_own _ rfl _ _ 73 rfl B 78 i0 (.agg #[.string .empty,.int .i64 0,.int .i64 0]) 3 32 Tryz.underlying73 hi0 hz0 hz1 hz2 rfl (by decide) _ _ _ rfl (o6.alloc _) ⟨w6.heap.size,0,none⟩ 1 1 (qvCell ⟨nm.s,tval lo,tval hi⟩) rfl rfl (World.news_of_block (heap_alloc_new _ _)) (qv_one _) ?c3 ?c4 ?c5 ?_) | (go_at_call 153;refine (sn_Clone nm.s w5 hNs).mono ?_;rintro e w6 ⟨rfl,hg6⟩;have hC6 := hC5.kept hg6 (by simp) (by simp);have o6 := o5.kept hg6 (own_none _);have m6 := hC6.c1))
  case c3 => unfold maxLen;omega
  case c4 => omega
  case c5 => have := hg5.size;have := hg6.size;simp at *;omega
  intro v' w7 hown' hgrow _
  have hC7 := (hC6.alloc _).kept hgrow (low_ne hoV hcB) (low_ne hoV hmB)
  have m7 := hC7.c1
  have f7 := hC7.f1
  obtain ⟨xa,xm,xc,rfl⟩ := own_slice hown'
  have HK : Hid (∀ W,W = w7.setCell ⟨bc,1,none⟩ (.slice xa xm xc) → (∃ v,W.ownsRow B 78 3 v (vars.length + 1) (vars.flatMap qvCell ++ qvCell ⟨nm.s,tval lo,tval hi⟩) ∧ But ([bc,bm] ++ (Value.slice va vars.length vc).ownBlock.toList) w W ∧ CkS W bc bm (n + 1) (fun s' => thV (putTh g nm.s ⟨4,vars.length,tval lo,tval hi,.slice none 0 0⟩ s')) v vC S4)) := fun W e => by
   subst e
   refine ⟨_,hown'.kept (grown_set _ _ _ _) (low_ne' hown' hcB),?_,hC7.setV⟩
   have q1 := ((((But.refl ([bc,bm] ++ (Value.slice va vars.length vc).ownBlock.toList) w).alloc _).grown hg1 (fun k e => by cases e;exact .inl (by simp))).grown hg2 (fun k e => by cases e;exact .inl (by simp))).grown hg3 (fun k e => by cases e;exact .inl (by simp))
   have q2 := (((q1.grown hg4 (fun k e => by cases e;exact .inl (by simp)))).drew.grown hg5 (fun k e => by cases e;exact .inl (by simp))).grown hg6 (fun k e => by cases e)
   exact ((q2.alloc _).grown hgrow (fun k e => by exact .inl (by simp [e]))).set (.inl (by simp)) _ _
  clear hown' hgrow
  go_wp2
  go_end0
  exact ⟨rfl,HK.out _ rfl⟩
end
section
set_option maxHeartbeats 4000000
set_option maxRecDepth 100000
variable {w w' : World} {bc bm n : Nat} {g : ByteArray → Th} {f : ByteArray → Value} {vV vC : Value} {st : FSt}
theorem sn_terms (h : CkS w bc bm n (fun s => thV (g s)) vV vC st) (l : List GTerm) (v1 : Value) (gr cap : Nat) (hR : RowIn w v1 gr cap gtCell l) (hgc : gr ≠ bc) (hl : l.length ≤ 3000) (hok : ∀ a ∈ l,TOk a.first ∧ TOk a.name) (hv : ThOk g) : Calls Tryz.prog 156 #[.pointer (some ⟨bc,0,none⟩),v1] w fun e w' => ∃ v,e = .returned v ∧ w'.ownsRow w.heap.size 201 2 v l.length (l.flatMap (termOut g)) ∧ w.grownBy w' (some bc) ∧ CkS w' bc bm n (fun s => thV (g s)) vV vC (foldSt (termStP g) 0 l st) := by
 obtain ⟨i0,hi0,hz0,hz1,hz2⟩ := info_parts infoRT
 have HC : Hid (CkS w bc bm n (fun s => thV (g s)) vV vC st) := h
 have hlt := h.lt
 have hgl := hR.lt
 have HR : Hid (RowIn w v1 gr cap gtCell l) := hR
 have HOK : Hid (∀ a ∈ l,TOk a.first ∧ TOk a.name) := hok
 have HV : Hid (ThOk g) := hv
 obtain ⟨RES,hRES⟩ : ∃ R,R = foldSt (termStP g) 0 l st := ⟨_,rfl⟩
 have HS : Hid (foldSt (termStP g) 0 (l.drop 0) st = RES) := by rw [Hid,hRES];rfl
 rw [← hRES]
 obtain rfl := hR.is
 clear h hR hRES hok hv
 go_enter Tryz.func156,Tryz.ntmps156
 go_wp2
 go_loopg [5,11] l.length (fun m v vi wr => SnRel l (termStP g) RES (.slice (some ⟨gr,0,none⟩) l.length cap) gr cap gtCell 201 2 (termOut g) w bc bm n (fun s => thV (g s)) vV vC m v vi wr)
 case atStart => exact ⟨0,st,Nat.zero_le _,rfl,rfl,HS,HC.out,HR.out,World.ownsRow_nil _ _ _ _,grown_refl _ _⟩
 case round =>
  obtain ⟨i,S,hi,rfl,rfl,hlex,hC,hR,hown,hgr⟩ := hrel
  have hlr := hC.lt
  have hlm := hC.ltm
  by_cases hlt2 : i < l.length
  ·obtain ⟨a,ha⟩ : ∃ a,l[i]? = some a := ⟨l[i],by simp [hlt2]⟩
   have hoka := HOK.out a (List.mem_of_getElem? ha)
   have c0 : wr.cell? ⟨gr,i * 9,none⟩ = some (.bool a.neg) := hR.at (sz := 9) (fun _ => rfl) ha 0 _ rfl
   have c1 : wr.cell? ⟨gr,i * 9 + 1,none⟩ = some (.int .i64 (srt a.first)) := hR.at (sz := 9) (fun _ => rfl) ha 1 _ rfl
   have c2 : wr.cell? ⟨gr,i * 9 + 2,none⟩ = some (.string a.first.s) := hR.at (sz := 9) (fun _ => rfl) ha 2 _ rfl
   have c3 : wr.cell? ⟨gr,i * 9 + 3,none⟩ = some (.int .i64 (tval a.first)) := hR.at (sz := 9) (fun _ => rfl) ha 3 _ rfl
   have c4 : wr.cell? ⟨gr,i * 9 + 4,none⟩ = some (.int .i64 a.first.line) := hR.at (sz := 9) (fun _ => rfl) ha 4 _ rfl
   have c5 : wr.cell? ⟨gr,i * 9 + 5,none⟩ = some (.int .i64 (srt a.name)) := hR.at (sz := 9) (fun _ => rfl) ha 5 _ rfl
   have c6 : wr.cell? ⟨gr,i * 9 + 6,none⟩ = some (.string a.name.s) := hR.at (sz := 9) (fun _ => rfl) ha 6 _ rfl
   have c7 : wr.cell? ⟨gr,i * 9 + 7,none⟩ = some (.int .i64 (tval a.name)) := hR.at (sz := 9) (fun _ => rfl) ha 7 _ rfl
   have c8 : wr.cell? ⟨gr,i * 9 + 8,none⟩ = some (.int .i64 a.name.line) := hR.at (sz := 9) (fun _ => rfl) ha 8 _ rfl
   have K1 := Kept.mk (fun {W : World} (hW : CkS W bc bm n (fun s => thV (g s)) vV vC S) => sn_room hW a.first i 8)
   have K2 := Kept.mk (fun {W : World} (hW : CkS W bc bm n (fun s => thV (g s)) vV vC (flt (decide ((8 : Int) ≤ i)) 6 a.first.line S)) => sn_factor hW a hoka.1)
   have K3 := Kept.mk (fun {W : World} (hW : CkS W bc bm n (fun s => thV (g s)) vV vC (facSt a (flt (decide ((8 : Int) ≤ i)) 6 a.first.line S))) => sn_variable hW a.name hoka.2.1 HV.out)
   have hlt3 : (i : Int) < l.length := by omega
   have h03 : (0 : Int) ≤ i := by omega
   unfold tkV at K1 K3
   unfold gtermV at K2
   go_wp2_with (first | (at_builtin;refine wpList_append_own _ rfl _ _ 95 rfl w.heap.size 201 i0 (.agg #[.int .i64 0,.int .i64 0]) 2 16 Tryz.underlying95 hi0 hz0 hz1 hz2 rfl (by decide) _ _ _ rfl (ho3.alloc _) ⟨w3.heap.size,0,none⟩ 1 1 (termOut g a) rfl rfl (World.news_of_block (heap_alloc_new _ _)) (two_one _ _) ?c3 ?c4 ?c5 ?_) | (go_at_call 159;refine ((K3).get hC2).mono ?_;rintro e w3 ⟨rfl,hg3,hC3⟩;have hB3 := past0 hB2 hs2 hg3 (by simp;omega);have hs3 : wr.heap.size < w3.heap.size := (by have := hg3.size;omega);have ho3 := ho2.kept hg3 (low_ne' hown hlt)) | (go_at_call 184;refine ((K2).get hC1).mono ?_;rintro e w2 ⟨rfl,hg2,hC2⟩;have hB2 := past0 hB1 hs1 hg2 (by simp;omega);have hs2 : wr.heap.size < w2.heap.size := (by have := hg2.size;omega);have ho2 := ho1.kept hg2 (low_ne' hown hlt);have b5_1 := cell_of hB2 5 _ rfl;have b6_1 := cell_of hB2 6 _ rfl;have b7_1 := cell_of hB2 7 _ rfl;have b8_1 := cell_of hB2 8 _ rfl) | (go_at_call 149;refine ((K1).get (hC.alloc _)).mono ?_;rintro e w1 ⟨rfl,hg1,hC1⟩;obtain ⟨hs1,hB1⟩ := sn_past hlr hg1;have ho1 := (hown.alloc _).kept hg1 (low_ne' hown hlt);have b0_0 := cell_of hB1 0 _ rfl;have b1_0 := cell_of hB1 1 _ rfl;have b2_0 := cell_of hB1 2 _ rfl;have b3_0 := cell_of hB1 3 _ rfl;have b4_0 := cell_of hB1 4 _ rfl;have b5_0 := cell_of hB1 5 _ rfl;have b6_0 := cell_of hB1 6 _ rfl;have b7_0 := cell_of hB1 7 _ rfl;have b8_0 := cell_of hB1 8 _ rfl))
   case c3 => unfold maxLen;omega
   case c4 => omega
   case c5 => have := hgr.size;simp at *;omega
   intro v' w9 hown' hgrow _
   have R := sn_step (step := termStP g) HC.out hgl ((((hgr.trans (World.grownBy_alloc _ _ _)).trans hg1).trans hg2).trans hg3) ha hlex hC3 ((((hR.kept (World.grownBy_alloc _ _ none) (by simp)).kept hg1 (by simp;omega)).kept hg2 (by simp;omega)).kept hg3 (by simp;omega)) hown hown' hgrow
   clear hown' hgrow hown
   go_wp2
   go_roundg (l.length - (i + 1))
   case measure => omega
   case rel => simpa using R
  ·obtain rfl : i = l.length := by omega
   have hl2 : Hid (RES = S) := by rw [Hid,← hlex.out,List.drop_of_length_le (Nat.le_refl _)];rfl
   have hge : (l.length : Int) ≤ (l.length : Int) := by omega
   rw [List.take_of_length_le (Nat.le_refl _)] at hown
   clear hlex
   go_wp2
   go_ret
   rw [hl2.out]
   exact ⟨_,rfl,hown,hgr,hC⟩
end
section
set_option maxHeartbeats 4000000
set_option maxRecDepth 100000
variable {w w' : World} {bc bm n : Nat} {g : ByteArray → Th} {f : ByteArray → Value} {vV vC : Value} {st : FSt}
theorem sn_variables (h : CkS w bc bm n (fun s => thV (g s)) vV vC st) (l : List PTok) (v1 : Value) (gr cap : Nat) (hR : RowIn w v1 gr cap tokCell l) (hgc : gr ≠ bc) (hl : l.length ≤ 3000) (hok : ∀ a ∈ l,TOk a) (hv : ThOk g) : Calls Tryz.prog 160 #[.pointer (some ⟨bc,0,none⟩),v1] w fun e w' => ∃ v,e = .returned v ∧ w'.ownsRow w.heap.size 3 1 v l.length (l.flatMap (varOut g)) ∧ w.grownBy w' (some bc) ∧ CkS w' bc bm n (fun s => thV (g s)) vV vC (foldSt (varStP g) 0 l st) := by
 obtain ⟨i0,hi0,hz0,hz1,hz2⟩ := info_parts infoQI
 have HC : Hid (CkS w bc bm n (fun s => thV (g s)) vV vC st) := h
 have hlt := h.lt
 have hgl := hR.lt
 have HR : Hid (RowIn w v1 gr cap tokCell l) := hR
 have HOK : Hid (∀ a ∈ l,TOk a) := hok
 have HV : Hid (ThOk g) := hv
 obtain ⟨RES,hRES⟩ : ∃ R,R = foldSt (varStP g) 0 l st := ⟨_,rfl⟩
 have HS : Hid (foldSt (varStP g) 0 (l.drop 0) st = RES) := by rw [Hid,hRES];rfl
 rw [← hRES]
 obtain rfl := hR.is
 clear h hR hRES hok hv
 go_enter Tryz.func160,Tryz.ntmps160
 go_wp2
 go_loopg [5,10] l.length (fun m v vi wr => SnRel l (varStP g) RES (.slice (some ⟨gr,0,none⟩) l.length cap) gr cap tokCell 3 1 (varOut g) w bc bm n (fun s => thV (g s)) vV vC m v vi wr)
 case atStart => exact ⟨0,st,Nat.zero_le _,rfl,rfl,HS,HC.out,HR.out,World.ownsRow_nil _ _ _ _,grown_refl _ _⟩
 case round =>
  obtain ⟨i,S,hi,rfl,rfl,hlex,hC,hR,hown,hgr⟩ := hrel
  have hlr := hC.lt
  have hlm := hC.ltm
  by_cases hlt2 : i < l.length
  ·obtain ⟨a,ha⟩ : ∃ a,l[i]? = some a := ⟨l[i],by simp [hlt2]⟩
   have hoka := HOK.out a (List.mem_of_getElem? ha)
   have c0 : wr.cell? ⟨gr,i * 4,none⟩ = some (.int .i64 (srt a)) := hR.at (sz := 4) (fun _ => rfl) ha 0 _ rfl
   have c1 : wr.cell? ⟨gr,i * 4 + 1,none⟩ = some (.string a.s) := hR.at (sz := 4) (fun _ => rfl) ha 1 _ rfl
   have c2 : wr.cell? ⟨gr,i * 4 + 2,none⟩ = some (.int .i64 (tval a)) := hR.at (sz := 4) (fun _ => rfl) ha 2 _ rfl
   have c3 : wr.cell? ⟨gr,i * 4 + 3,none⟩ = some (.int .i64 a.line) := hR.at (sz := 4) (fun _ => rfl) ha 3 _ rfl
   have K1 := Kept.mk (fun {W : World} (hW : CkS W bc bm n (fun s => thV (g s)) vV vC S) => sn_room hW a i 8)
   have K2 := Kept.mk (fun {W : World} (hW : CkS W bc bm n (fun s => thV (g s)) vV vC (flt (decide ((8 : Int) ≤ i)) 6 a.line S)) => sn_variable hW a hoka.1 HV.out)
   have hlt3 : (i : Int) < l.length := by omega
   have h03 : (0 : Int) ≤ i := by omega
   unfold tkV at K1 K2
   go_wp2_with (first | (at_builtin;refine wpList_append_own _ rfl _ _ 33 rfl w.heap.size 3 i0 (.int .i64 0) 1 8 Tryz.underlying33 hi0 hz0 hz1 hz2 rfl (by decide) _ _ _ rfl (ho2.alloc _) ⟨w2.heap.size,0,none⟩ 1 1 (varOut g a) rfl rfl (World.news_of_block (heap_alloc_new _ _)) (one_one _) ?c3 ?c4 ?c5 ?_) | (go_at_call 159;refine ((K2).get hC1).mono ?_;rintro e w2 ⟨rfl,hg2,hC2⟩;have hB2 := past0 hB1 hs1 hg2 (by simp;omega);have hs2 : wr.heap.size < w2.heap.size := (by have := hg2.size;omega);have ho2 := ho1.kept hg2 (low_ne' hown hlt)) | (go_at_call 149;refine ((K1).get (hC.alloc _)).mono ?_;rintro e w1 ⟨rfl,hg1,hC1⟩;obtain ⟨hs1,hB1⟩ := sn_past hlr hg1;have ho1 := (hown.alloc _).kept hg1 (low_ne' hown hlt);have b0_0 := cell_of hB1 0 _ rfl;have b1_0 := cell_of hB1 1 _ rfl;have b2_0 := cell_of hB1 2 _ rfl;have b3_0 := cell_of hB1 3 _ rfl))
   case c3 => unfold maxLen;omega
   case c4 => omega
   case c5 => have := hgr.size;simp at *;omega
   intro v' w9 hown' hgrow _
   have R := sn_step (step := varStP g) HC.out hgl (((hgr.trans (World.grownBy_alloc _ _ _)).trans hg1).trans hg2) ha hlex hC2 (((hR.kept (World.grownBy_alloc _ _ none) (by simp)).kept hg1 (by simp;omega)).kept hg2 (by simp;omega)) hown hown' hgrow
   clear hown' hgrow hown
   go_wp2
   go_roundg (l.length - (i + 1))
   case measure => omega
   case rel => simpa using R
  ·obtain rfl : i = l.length := by omega
   have hl2 : Hid (RES = S) := by rw [Hid,← hlex.out,List.drop_of_length_le (Nat.le_refl _)];rfl
   have hge : (l.length : Int) ≤ (l.length : Int) := by omega
   rw [List.take_of_length_le (Nat.le_refl _)] at hown
   clear hlex
   go_wp2
   go_ret
   rw [hl2.out]
   exact ⟨_,rfl,hown,hgr,hC⟩
end
end Go.Proofs.YthpcbbnabnlanaaGreatDoor
