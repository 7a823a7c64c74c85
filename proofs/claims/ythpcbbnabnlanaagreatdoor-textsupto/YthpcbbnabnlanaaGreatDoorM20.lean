import Derived.Test.YthpcbbnabnlanaaGreatDoorM02
import Derived.Test.YthpcbbnabnlanaaGreatDoorM15
import Derived.Test.YthpcbbnabnlanaaGreatDoorM17
import Derived.Test.YthpcbbnabnlanaaGreatDoorM19
import Derived.Deep.LoopGhost
namespace Go.Proofs.YthpcbbnabnlanaaGreatDoor
open Go.RowKit
set_option linter.unusedVariables false
set_option linter.unusedSimpArgs false
section
set_option maxHeartbeats 2000000
set_option maxRecDepth 100000
theorem tokAt_size (s : ByteArray) (i : Nat) (hi : i < s.size) : (tokAt s i).1 ≤ s.size := by
 have h1 := runTo_size isDigI s (i + 1) (by omega)
 have h2 := runTo_size isAlnI s (i + 1) (by omega)
 have h3 := (sign_size s i hi).1
 unfold tokAt
 repeat' split
 all_goals simp only
 all_goals omega
theorem lexF_len (s : ByteArray) (f : Nat) : ∀ (i line : Nat) (acc : List PTok),acc.length ≤ i → i ≤ s.size → (lexF s f i line acc).2.1.length ≤ s.size := by
 induction f with
 | zero => intro i line acc h1 h2;simp only [lexF];omega
 | succ f ih =>
  intro i line acc h1 h2
  simp only [lexF]
  by_cases hi : i < s.size
  ·rw [if_pos hi]
   split
   ·exact ih _ _ _ (by omega) (by omega)
   ·split
    ·exact ih _ _ _ (by omega) (by omega)
    ·split
     ·exact ih _ _ _ (by have := runTo_le notNl s i;omega) (runTo_size _ _ _ (by omega))
     ·split
      ·simp
      ·rename_i hne
       exact ih _ _ _ (by have := tokAt_end s i hne;simp;omega) (tokAt_size s i hi)
  ·rw [if_neg hi];simp only;omega
theorem lex_len (s : ByteArray) : (lex s).2.1.length ≤ s.size := lexF_len s s.size 0 1 [] (by simp) (by omega)
def formLine (s : ByteArray) (R : Int) : Int := if R < 0 then 1 + (nlTo s s.size : Int) else R
theorem ref_New_long (s : ByteArray) (w : World) (hs : 2000 < s.size) : Calls Tryz.prog 38 #[.string s] w fun e w' => e = .returned (.tuple #[.pointer none,.int .i64 1,.int .i64 0]) ∧ w' = w := by
 have hs' : (2000 : Int) < s.size := by omega
 go_enter Tryz.func38,Tryz.ntmps38
 go_wp2
 go_ret3
 exact ⟨rfl,rfl⟩
theorem ref_New_tok (s : ByteArray) (w : World) (hs : s.size ≤ 2000) (hb : (lex s).1 ≠ 0) : Calls Tryz.prog 38 #[.string s] w fun e w' => e = .returned (.tuple #[.pointer none,.int .i64 2,.int .i64 ((lex s).1 : Int)]) ∧ Below w.heap.size w w' := by
 have hs' : (s.size : Int) ≤ 2000 := by omega
 have hb' : (0 : Int) < ((lex s).1 : Int) := by omega
 have HT := hide (ref_Tokens s w hs)
 generalize (lex s).1 = bad at hb hb' HT ⊢
 go_enter Tryz.func38,Tryz.ntmps38
 go_wp2_with fail
 refine (unhide HT).mono ?_
 rintro e w1 ⟨v,rfl,hown,hbel⟩
 have HB := hide hbel
 clear hown hbel
 go_wp2
 go_ret3
 exact ⟨rfl,HB.out⟩
theorem ref_New_form (s : ByteArray) (w : World) (hs : s.size ≤ 2000) (hb : (lex s).1 = 0) (f : Nat) (hf : f ≤ 1000000) (R : Int) (hR : formF f [yModel] (lex s).2.1 = some R) (hR0 : R ≠ 0) : Calls Tryz.prog 38 #[.string s] w fun e w' => e = .returned (.tuple #[.pointer none,.int .i64 3,.int .i64 (formLine s R)]) ∧ Below w.heap.size w w' := by
 have hs' : (s.size : Int) ≤ 2000 := by omega
 have ht := ref_Tokens s w hs
 rw [hb] at ht
 have HT := hide ht
 have hlen := lex_len s
 have HR := hide hR
 clear ht hb hR
 generalize (lex s).2.1 = toks at *
 have hRb : (R == 0) = false := by simpa using hR0
 go_enter Tryz.func38,Tryz.ntmps38
 go_wp2_with fail
 refine (unhide HT).mono ?_
 rintro e w1 ⟨v,rfl,hown,hbel⟩
 have HB := hide hbel
 have hfm : ∃ gt capt a0,v = .slice a0 toks.length capt ∧ (toks = [] ∨ a0 = some ⟨gt,0,none⟩) ∧ (toks ≠ [] → gt < w1.heap.size) ∧ ∀ j u,(refCells toks)[j]? = some u → w1.cell? ⟨gt,j,none⟩ = some u := by
  rcases own_cells hown with ⟨h1,h2⟩ | ⟨g,cap,h1,h2,h3,h4⟩
  ·have : toks = [] := List.length_eq_zero_iff.1 h1
   exact ⟨0,0,none,by rw [h2,h1],.inl this,fun h => absurd this h,fun j u hu => by rw [this] at hu;simp [refCells] at hu⟩
  ·exact ⟨g,cap,_,h1,.inr rfl,fun _ => h3,h4⟩
 obtain ⟨gt,capt,a0,rfl,f1,f2,f3⟩ := hfm
 have HF := hide (ref_Form toks gt capt a0 f1 w1 (by omega) f2 f3 f hf R HR.out)
 clear hown hbel f1 f2 f3 HT
 go_wp2_with fail
 refine (unhide HF).mono ?_
 rintro e w2 ⟨rfl,hb2⟩
 have HB2 := hide (HB.out.trans (hb2.mono HB.out.size))
 clear hb2 HF HB
 by_cases hneg : R < 0
 ·have HRR : Hid (formLine s R = 1 + (nlTo s s.size : Int)) := by unfold Hid formLine;rw [if_pos hneg]
  go_wp2
  go_loop [7,8] (fun vl vi => ∃ k : Nat,k ≤ s.size ∧ vi = .int .i64 k ∧ vl = .int .i64 (1 + (nlTo s k : Int))) (fun _ vi => s.size - (intOf vi).toNat)
  case atStart => exact ⟨0,by omega,rfl,rfl⟩
  case round =>
   obtain ⟨k,hk,rfl,rfl⟩ := hrel
   have hnl := nlTo_le s k
   by_cases hlt : k < s.size
   ·have hbk := bAt_in hlt
    by_cases h10 : bAt s k = 10
    ·have c10 : ((s[k].toNat : Int) == 10) = true := by rw [← hbk,h10];rfl
     have hn : Hid (nlTo s (k + 1) = nlTo s k + 1) := by unfold Hid;simp [nlTo,h10]
     clear hbk h10
     go_wp2
     go_round
     case rel => exact ⟨k + 1,by omega,by go_num,by rw [hn.out];go_num⟩
     case measure => simp [intOf];omega
    ·have c10 : ((s[k].toNat : Int) == 10) = false := by rw [← hbk];simpa using h10
     have hn : Hid (nlTo s (k + 1) = nlTo s k) := by unfold Hid;simp [nlTo,h10]
     clear hbk h10
     go_wp2
     go_round
     case rel => exact ⟨k + 1,by omega,by go_num,by rw [hn.out]⟩
     case measure => simp [intOf];omega
   ·obtain rfl : k = s.size := by omega
    go_wp2
    go_ret3
    rw [HRR.out]
    exact ⟨rfl,HB2.out⟩
 ·have HRR : Hid (formLine s R = R) := by unfold Hid formLine;rw [if_neg hneg]
  have hneg' : decide (R < 0) = false := by simpa using hneg
  go_wp2
  go_ret3
  rw [HRR.out]
  exact ⟨rfl,HB2.out⟩
def StsAt (toks : List PTok) : Nat → List RSt → Nat → Prop
 | i,[],j => i = j
 | i,s :: ss,j => ∃ m,StAt toks i s m ∧ m < j ∧ StsAt toks (m + 1) ss j
def runS : List RSt → SMod → FSt → SMod × FSt
 | [],M,st => (M,st)
 | s :: ss,M,st => if st.1 = 0 then runS ss (stMod M s) (stSt M s st) else (M,st)
def NewRel (toks : List PTok) (bw bm gt capt B : Nat) (RES : SMod × FSt) (W : World) (n : Nat) (_v : Value) (wr : World) : Prop :=
 ∃ (i : Nat) (ss : List RSt) (M : SMod) (st : FSt),n = ss.length ∧ i ≤ toks.length ∧ MdS wr bw bm gt capt B toks M i st ∧ StsAt toks i ss toks.length ∧ Hid (runS ss M st = RES) ∧ ButB B [bw,bm] W wr
theorem stAt_lt {toks : List PTok} {i j : Nat} {s : RSt} (h : StAt toks i s j) : i < toks.length := (at_tok h.1).2.2
theorem md_new (w : World) (gt capt : Nat) (toks : List PTok) (hn : toks.length ≤ 2000) (hg : gt < w.heap.size) (hrow : ∀ j u,(refCells toks)[j]? = some u → w.cell? ⟨gt,j,none⟩ = some u) : MdS ((w.alloc (.cells #[.slice (some ⟨gt,0,none⟩) toks.length capt,.slice none 0 0,.slice none 0 0,.slice none 0 0] 116)).alloc (.cells #[.pointer (some ⟨w.heap.size,0,none⟩),.int .i64 0,.int .i64 0,.int .i64 0] 118))
   (w.heap.size + 1) w.heap.size gt capt (w.heap.size + 2) toks ⟨[],[],[]⟩ 0 (0,0) := by
 have e1 : ((w.alloc (.cells #[.slice (some ⟨gt,0,none⟩) toks.length capt,.slice none 0 0,.slice none 0 0,.slice none 0 0] 116)).alloc (.cells #[.pointer (some ⟨w.heap.size,0,none⟩),.int .i64 0,.int .i64 0,.int .i64 0] 118)).heap[w.heap.size]? = some (.cells #[.slice (some ⟨gt,0,none⟩) toks.length capt,.slice none 0 0,.slice none 0 0,.slice none 0 0] 116) := by
  show ((w.heap.push _).push _)[w.heap.size]? = _
  rw [Array.getElem?_push,if_neg (by simp),Array.getElem?_push,if_pos rfl]
 have e2 : ((w.alloc (.cells #[.slice (some ⟨gt,0,none⟩) toks.length capt,.slice none 0 0,.slice none 0 0,.slice none 0 0] 116)).alloc (.cells #[.pointer (some ⟨w.heap.size,0,none⟩),.int .i64 0,.int .i64 0,.int .i64 0] 118)).heap[w.heap.size + 1]? = some (.cells #[.pointer (some ⟨w.heap.size,0,none⟩),.int .i64 0,.int .i64 0,.int .i64 0] 118) := by
  show ((w.heap.push _).push _)[w.heap.size + 1]? = _
  rw [Array.getElem?_push,if_pos (by simp)]
 have g0 := (World.grownBy_alloc w (.cells #[.slice (some ⟨gt,0,none⟩) toks.length capt,.slice none 0 0,.slice none 0 0,.slice none 0 0] 116) none).trans (World.grownBy_alloc (w.alloc (.cells #[.slice (some ⟨gt,0,none⟩) toks.length capt,.slice none 0 0,.slice none 0 0,.slice none 0 0] 116)) (.cells #[.pointer (some ⟨w.heap.size,0,none⟩),.int .i64 0,.int .i64 0,.int .i64 0] 118) none)
 generalize ((w.alloc (.cells #[.slice (some ⟨gt,0,none⟩) toks.length capt,.slice none 0 0,.slice none 0 0,.slice none 0 0] 116)).alloc (.cells #[.pointer (some ⟨w.heap.size,0,none⟩),.int .i64 0,.int .i64 0,.int .i64 0] 118)) = W at e1 e2 g0 ⊢
 have hsz : w.heap.size + 1 < W.heap.size := by
  rcases Nat.lt_or_ge (w.heap.size + 1) W.heap.size with h | h
  ·exact h
  ·rw [Array.getElem?_eq_none h] at e2;cases e2
 have cm : ∀ q u,(#[Value.slice (some ⟨gt,0,none⟩) toks.length capt,.slice none 0 0,.slice none 0 0,.slice none 0 0] : Array Value)[q]? = some u → W.cell? ⟨w.heap.size,q,none⟩ = some u := fun q u h => by rw [cell_of_row W w.heap.size q _ _ _ e1];exact h
 have cw : ∀ q u,(#[Value.pointer (some ⟨w.heap.size,0,none⟩),.int .i64 0,.int .i64 0,.int .i64 0] : Array Value)[q]? = some u → W.cell? ⟨w.heap.size + 1,q,none⟩ = some u := fun q u h => by rw [cell_of_row W (w.heap.size + 1) q _ _ _ e2];exact h
 have fm : ∀ q,W.frozen? ⟨w.heap.size,q,none⟩ = false := fun q => by simp only [World.frozen?,e1];simp
 have fw : ∀ q,W.frozen? ⟨w.heap.size + 1,q,none⟩ = false := fun q => by simp only [World.frozen?,e2];simp
 exact ⟨.slice none 0 0,.slice none 0 0,.slice none 0 0,[],[],⟨⟨cw 0 _ rfl,cw 1 _ rfl,cw 2 _ rfl,cw 3 _ rfl,fw 1,fw 2,fw 3,hsz⟩,⟨cm 0 _ rfl,fun j u hu => g0.cell (hrow j u hu) (by simp),by omega,by omega⟩,cm 1 _ rfl,cm 2 _ rfl,cm 3 _ rfl,fm 1,fm 2,fm 3,
  World.ownsRow_nil _ _ _ _,World.ownsRow_nil _ _ _ _,World.ownsRow_nil _ _ _ _,fun l hl => by simp at hl,fun r hr => by simp at hr,by omega,by omega,by omega,by omega,by omega,by omega,by omega,hn,by simp,by simp,by simp⟩,rfl,rfl⟩
theorem ref_New_ok (s : ByteArray) (w : World) (hs : s.size ≤ 2000) (hb : (lex s).1 = 0) (hne : (lex s).2.1 ≠ []) (f : Nat) (hf : f ≤ 1000000) (hR : formF f [yModel] (lex s).2.1 = some 0) (ss : List RSt) (hss : StsAt (lex s).2.1 0 ss (lex s).2.1.length) : Calls Tryz.prog 38 #[.string s] w fun e w' => Below w.heap.size w w' ∧
   (((runS ss ⟨[],[],[]⟩ (0,0)).2.1 ≠ 0 ∧ e = .returned (.tuple #[.pointer none,.int .i64 (runS ss ⟨[],[],[]⟩ (0,0)).2.1,.int .i64 (runS ss ⟨[],[],[]⟩ (0,0)).2.2])) ∨
   ((runS ss ⟨[],[],[]⟩ (0,0)).2.1 = 0 ∧ ∃ bw bm gt capt B i,w.heap.size ≤ bm ∧ w.heap.size ≤ B ∧ w.heap.size ≤ gt ∧ e = .returned (.tuple #[.pointer (some ⟨bm,0,none⟩),.int .i64 0,.int .i64 0]) ∧ MdS w' bw bm gt capt B (lex s).2.1 (runS ss ⟨[],[],[]⟩ (0,0)).1 i (runS ss ⟨[],[],[]⟩ (0,0)).2)) := by
 have hs' : (s.size : Int) ≤ 2000 := by omega
 have ht := ref_Tokens s w hs
 rw [hb] at ht
 have HT := hide ht
 have hlen := lex_len s
 have HR := hide hR
 have HSS := hide hss
 clear ht hb hR hss
 generalize (lex s).2.1 = toks at *
 generalize hRES : runS ss ⟨[],[],[]⟩ (0,0) = RES
 have HRES := hide hRES
 have HNE := hide hne
 clear hRES hne
 go_enter Tryz.func38,Tryz.ntmps38
 go_wp2_with fail
 refine (unhide HT).mono ?_
 rintro e w1 ⟨v,rfl,hown,hbel⟩
 have HB := hide hbel
 obtain ⟨gt,capt,rfl,f1,f3,f4⟩ : ∃ g cap,v = .slice (some ⟨g,0,none⟩) toks.length cap ∧ w.heap.size ≤ g ∧ g < w1.heap.size ∧ ∀ j u,(refCells toks)[j]? = some u → w1.cell? ⟨g,j,none⟩ = some u := by
  rcases own_cells hown with ⟨h1,h2⟩ | h
  ·exact absurd (List.length_eq_zero_iff.1 h1) HNE.out
  ·exact h
 have HF := hide (ref_Form toks gt capt _ (.inr rfl) w1 (by omega) (fun _ => f3) f4 f hf 0 HR.out)
 have HG := hide (And.intro f3 f4)
 have HF1 := hide f1
 clear hown hbel f1 f3 f4 HT
 go_wp2_with fail
 refine (unhide HF).mono ?_
 rintro e w2 ⟨rfl,hb2⟩
 have hM := md_new w2 gt capt toks (by omega) (Nat.lt_of_lt_of_le HG.out.1 hb2.size) (fun j u hu => (hb2.cell HG.out.1).trans (HG.out.2 j u hu))
 have HM := hide hM
 have HB2 := hide (HB.out.trans (hb2.mono HB.out.size))
 clear hb2 HF HB HG hM
 have hbl := (HB2.out.alloc HB2.out.size (.cells #[.slice (some ⟨gt,0,none⟩) toks.length capt,.slice none 0 0,.slice none 0 0,.slice none 0 0] 116)).alloc (by have := HB2.out.size;simp;omega) (.cells #[.pointer (some ⟨w2.heap.size,0,none⟩),.int .i64 0,.int .i64 0,.int .i64 0] 118)
 have HBL := hide hbl
 have hle := HB2.out.size
 clear hbl HB2
 go_wp2_with fail
 generalize ((w2.alloc (.cells #[.slice (some ⟨gt,0,none⟩) toks.length capt,.slice none 0 0,.slice none 0 0,.slice none 0 0] 116)).alloc (.cells #[.pointer (some ⟨w2.heap.size,0,none⟩),.int .i64 0,.int .i64 0,.int .i64 0] 118)) = W at HM HBL ⊢
 generalize w2.heap.size = bm at HM hle ⊢
 have HSTART : Hid (NewRel toks (bm + 1) bm gt capt (bm + 2) RES W ss.length undef W) := ⟨0,ss,_,_,rfl,by omega,HM.out,HSS.out,HRES.out,ButB.refl _ _ _⟩
 clear HM HSS HRES HR
 go_loopg [51] ss.length (fun n v wr => NewRel toks (bm + 1) bm gt capt (bm + 2) RES W n undef wr)
 case atStart => exact HSTART
 case round =>
  clear HSTART
  obtain ⟨i,ss',M,st,rfl,hi,hM,hS,hR,hBB⟩ := hrel
  have HM := hide hM
  have HBB := hide hBB
  obtain ⟨vv,vl,vr,ls,rs,hMd,hx1,hx2⟩ := hM
  obtain ⟨c0,c1,c2,c3,f1,f2,f3,hlt⟩ := hMd.wk
  have hBEL : Hid (Below w.heap.size w wr) := by
   have h1 := HBB.out
   have h2 := HBL.out
   exact ⟨h1.os.trans h2.os,h1.tape.trans h2.tape,h1.output.trans h2.output,Nat.le_trans h2.size h1.size,fun k hk => (h1.block k (by omega) (by simp;omega)).trans (h2.block k hk)⟩
  clear hMd hx1 hx2 hBB
  cases ss' with
  | nil =>
   obtain rfl : i = toks.length := hS
   have HRR : Hid (RES = (M,st)) := hR.out.symm
   clear hR
   by_cases hk : st.1 = 0
   ·have hk' : (st.1 == 0) = true := by simpa using hk
    have hk2 : (st.1 != 0) = false := by simp [hk]
    have HK := hide hk
    clear hk
    go_wp2
    go_ret3
    rw [HRR.out]
    exact ⟨hBEL.out,.inr ⟨HK.out,bm + 1,bm,gt,capt,bm + 2,_,hle,by omega,HF1.out,rfl,HM.out⟩⟩
   ·have hk' : (st.1 == 0) = false := by simpa using hk
    have HK := hide hk
    clear hk
    go_wp2
    go_quiet (fail)
    go_wp2
    go_ret3
    rw [HRR.out]
    exact ⟨below_drewN hBEL.out _,.inl ⟨HK.out,rfl⟩⟩
  | cons t ss2 =>
   obtain ⟨m,hs1,hs2,hs3⟩ := hS
   have hil := stAt_lt hs1
   have hil' : (i : Int) < toks.length := by omega
   by_cases hk : st.1 = 0
   ·have hk' : (st.1 == 0) = true := by simpa using hk
    have HR2 : Hid (runS ss2 (stMod M t) (stSt M t st) = RES) := by
     have := hR.out;unfold runS at this;rw [if_pos hk] at this;exact this
    have HST := hide (ref_statement wr (bm + 1) bm gt capt (bm + 2) toks M i m st t HM.out hs1)
    have HS3 := hide hs3
    clear hR hs1 hs3 hk
    go_wp2_with fail
    refine (unhide HST).mono ?_
    rintro e wa ⟨rfl,hba,hMa⟩
    obtain ⟨vv2,vl2,vr2,ls2,rs2,hMd2,y1,y2⟩ := hMa
    have HMS : Hid (MdS (wa.setCell ⟨bm + 1,1,none⟩ (.int .i64 ((m : Int) + 1))) (bm + 1) bm gt capt (bm + 2) toks (stMod M t) (m + 1) (stSt M t st)) :=
     ⟨vv2,vl2,vr2,ls2,rs2,hMd2.but ((But.refl [bm + 1] wa).set (.inl (by simp)) _ _) (hMd2.wk.setI _) (by omega),y1,y2⟩
    have HBB2 := hide ((HBB.out.trans hba).grown (grown_set wa (bm + 1) 1 (.int .i64 ((m : Int) + 1))) hMd2.hB (fun k e => by cases e;exact .inl (by simp)))
    clear c0 c1 c2 c3 f1 f2 f3
    obtain ⟨c0,c1,c2,c3,f1,f2,f3,_⟩ := hMd2.wk
    clear hba hMd2 y1 y2 HST
    go_wp2
    go_roundg ss2.length
    case measure => simp
    case rel => exact ⟨m + 1,ss2,stMod M t,stSt M t st,rfl,by omega,HMS.out,HS3.out,HR2.out,HBB2.out⟩
   ·have hk' : (st.1 == 0) = false := by simpa using hk
    have HRR : Hid (RES = (M,st)) := by
     have := hR.out;unfold runS at this;rw [if_neg hk] at this;exact this.symm
    clear hR hs1 hs3 hk
    go_wp2
    go_quiet (fail)
    go_wp2
    go_ret3
    rw [HRR.out]
    exact ⟨below_drewN hBEL.out _,.inl ⟨by simpa using hk',rfl⟩⟩
theorem ref_New_empty (s : ByteArray) (w : World) (hs : s.size ≤ 2000) (hb : (lex s).1 = 0) (hne : (lex s).2.1 = []) (f : Nat) (hf : f ≤ 1000000) (hR : formF f [yModel] [] = some 0) : Calls Tryz.prog 38 #[.string s] w fun e w' => Below w.heap.size w w' ∧ ∃ bm,w.heap.size ≤ bm ∧ bm < w'.heap.size ∧ e = .returned (.tuple #[.pointer (some ⟨bm,0,none⟩),.int .i64 0,.int .i64 0]) ∧
   ∃ a0 cap,w'.heap[bm]? = some (.cells #[.slice a0 0 cap,.slice none 0 0,.slice none 0 0,.slice none 0 0] 116) := by
 have hs' : (s.size : Int) ≤ 2000 := by omega
 have ht := ref_Tokens s w hs
 rw [hb,hne] at ht
 have HT := hide ht
 have HR := hide hR
 clear ht hb hR hne
 go_enter Tryz.func38,Tryz.ntmps38
 go_wp2_with fail
 refine (unhide HT).mono ?_
 rintro e w1 ⟨v,rfl,hown,hbel⟩
 have HB := hide hbel
 obtain ⟨a0,cap,rfl⟩ := shape_of hown
 have HF := hide (ref_Form [] 0 cap a0 (.inl rfl) w1 (by simp) (fun h => absurd rfl h) (fun j u hu => by simp [refCells] at hu) f hf 0 HR.out)
 clear hown hbel HT HR
 go_wp2_with fail
 refine (unhide HF).mono ?_
 rintro e w2 ⟨rfl,hb2⟩
 have HB2 := hide (HB.out.trans (hb2.mono HB.out.size))
 have HBL := hide ((HB2.out.alloc HB2.out.size (.cells #[.slice a0 0 cap,.slice none 0 0,.slice none 0 0,.slice none 0 0] 116)).alloc (by have := HB2.out.size;simp;omega) (.cells #[.pointer (some ⟨w2.heap.size,0,none⟩),.int .i64 0,.int .i64 0,.int .i64 0] 118))
 have hle := HB2.out.size
 have e1 : ((w2.alloc (.cells #[.slice a0 0 cap,.slice none 0 0,.slice none 0 0,.slice none 0 0] 116)).alloc (.cells #[.pointer (some ⟨w2.heap.size,0,none⟩),.int .i64 0,.int .i64 0,.int .i64 0] 118)).heap[w2.heap.size]? = some (.cells #[.slice a0 0 cap,.slice none 0 0,.slice none 0 0,.slice none 0 0] 116) := by
  show ((w2.heap.push _).push _)[w2.heap.size]? = _
  rw [Array.getElem?_push,if_neg (by simp),Array.getElem?_push,if_pos rfl]
 have hlt : w2.heap.size < ((w2.alloc (.cells #[.slice a0 0 cap,.slice none 0 0,.slice none 0 0,.slice none 0 0] 116)).alloc (.cells #[.pointer (some ⟨w2.heap.size,0,none⟩),.int .i64 0,.int .i64 0,.int .i64 0] 118)).heap.size := by simp;omega
 have HE := hide (And.intro hlt e1)
 clear hb2 HF HB hlt e1 HB2
 go_wp2_with fail
 go_loopg [51] 0 (fun n v wr => wr = ((w2.alloc (.cells #[.slice a0 0 cap,.slice none 0 0,.slice none 0 0,.slice none 0 0] 116)).alloc (.cells #[.pointer (some ⟨w2.heap.size,0,none⟩),.int .i64 0,.int .i64 0,.int .i64 0] 118)))
 case atStart => rfl
 case round =>
  subst hrel
  go_wp2
  go_ret3
  exact ⟨HBL.out,_,hle,HE.out.1,rfl,a0,cap,HE.out.2⟩
end
end Go.Proofs.YthpcbbnabnlanaaGreatDoor
