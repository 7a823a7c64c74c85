import Derived.Test.YthpcbbnabnlanaaGreatDoorM06
import Derived.Test.YthpcbbnabnlanaaGreatDoorM11
import Derived.Test.YthpcbbnabnlanaaGreatDoorM13
import Derived.Test.YthpcbbnabnlanaaGreatDoorM20
namespace Go.Proofs.YthpcbbnabnlanaaGreatDoor
set_option linter.unusedVariables false
set_option linter.unusedSimpArgs false
section
set_option maxHeartbeats 4000000
set_option maxRecDepth 100000
open Go.RowKit
def plainF (toks : List PTok) : Nat → Nat → Int → List UInt8 → List UInt8
 | 0,_,_,out => out
 | f + 1,i,bf,out =>
  if srt (tkN toks i) = 1 then out
  else if needless (tkN toks i) (tkN toks (i + 1)) then plainF toks f (i + 2) bf out
  else plainF toks f (i + 1) (srt (tkN toks i)) (out ++ (if jBehind bf || jAhead (srt (tkN toks i)) then [] else [32]) ++ spell (tkN toks i) ++ (if srt (tkN toks i) = 11 then [10] else []))
def plainT (toks : List PTok) : List UInt8 := plainF toks toks.length 0 11 []
theorem plainF_end {toks : List PTok} {f i : Nat} {bf : Int} {out : List UInt8} (h : srt (tkN toks i) = 1) : plainF toks f i bf out = out := by
 cases f with
 | zero => rfl
 | succ f => simp only [plainF];rw [if_pos h]
theorem plainF_skip {toks : List PTok} {f i : Nat} {bf : Int} {out : List UInt8} (h : srt (tkN toks i) ≠ 1) (h2 : needless (tkN toks i) (tkN toks (i + 1)) = true) : plainF toks (f + 1) i bf out = plainF toks f (i + 2) bf out := by
 simp only [plainF];rw [if_neg h,if_pos h2]
theorem plainF_step {toks : List PTok} {f i : Nat} {bf : Int} {out : List UInt8} (h : srt (tkN toks i) ≠ 1) (h2 : needless (tkN toks i) (tkN toks (i + 1)) = false) : plainF toks (f + 1) i bf out = plainF toks f (i + 1) (srt (tkN toks i)) (out ++ (if jBehind bf || jAhead (srt (tkN toks i)) then [] else [32]) ++ spell (tkN toks i) ++ (if srt (tkN toks i) = 11 then [10] else [])) := by
 simp only [plainF];rw [if_neg h,h2];simp
theorem KeptBut.low {w wr w' : World} (h : w.grownBy wr none) (k : KeptBut w.heap.size w.heap.size wr w') : w.grownBy w' none :=
 ⟨k.os.trans h.os,k.tape.trans h.tape,k.output.trans h.output,Nat.le_trans h.size k.size,fun i hi hn => (k.block i (Nat.lt_of_lt_of_le hi h.size) (by omega) (.inl hi)).trans (h.block i hi hn)⟩
theorem KeptBut.box {B b c : Nat} {w w' : World} {cs : Array Value} (k : KeptBut B b w w') (h : w.heap[c]? = some (.cells cs 129 (0,0))) (hc : c ≠ b) : w'.heap[c]? = some (.cells cs 129 (0,0)) :=
 (k.block c (Array.getElem?_eq_some_iff.1 h).1 hc (.inr fun cs' fr q => by rw [h] at q;cases q)).trans h
theorem isB_grown {B b : Nat} {bs : List Value} {w w' : World} {r : Option Nat} (h : Lib.IsBuilder 146 5 B b bs w) (hg : w.grownBy w' none) : Lib.IsBuilder 146 5 B b bs w' := by
 have key : ∀ p,Lib.BuilderAt 146 5 B b p bs w → Lib.BuilderAt 146 5 B b p bs w' := fun p hx => by
  obtain ⟨hB,v,hbk,hown,hne⟩ := hx
  exact ⟨hB,v,past0 hbk (Array.getElem?_eq_some_iff.1 hbk).1 hg (by simp),hown.kept hg (own_none _),hne⟩
 rcases h with h | h
 ·exact .inl (key _ h)
 ·exact .inr (key _ h)
def PlRel (toks : List PTok) (RES : List UInt8) (w : World) (vb vi : Value) (wr : World) : Prop :=
 ∃ (i f : Nat) (bf : Int) (out : List UInt8),i < toks.length ∧ vb = .int .i64 bf ∧ vi = .int .i64 i ∧ toks.length ≤ i + f ∧ Hid (plainF toks f i bf out = RES) ∧ out.length ≤ 3000 * i ∧
  Lib.IsBuilder 146 5 w.heap.size w.heap.size (Lib.byteCells out) wr ∧ w.grownBy wr none
theorem pl_Plain {w : World} {gt cap : Nat} {toks : List PTok} (hE : EndOk toks) (hok : ∀ i,i < toks.length → TOk (tkN toks i)) (hcap : toks.length ≤ cap) (hrow : ∀ j u,(tokCells toks)[j]? = some u → w.cell? ⟨gt,j,none⟩ = some u) (hlg : gt < w.heap.size) (ht : PowTab w) : Calls Tryz.prog 46 #[.slice (some ⟨gt,0,none⟩) toks.length cap] w fun e w' => e = .returned (.string ⟨(plainT toks).toArray⟩) ∧ w.grownBy w' none := by
 have hlen := hE.len
 have hpos := hE.pos
 obtain ⟨RES,hR⟩ : ∃ R,R = plainT toks := ⟨_,rfl⟩
 have HS : Hid (plainF toks toks.length 0 11 [] = RES) := by rw [Hid,hR];rfl
 have HR : Hid (∀ j u,(tokCells toks)[j]? = some u → w.cell? ⟨gt,j,none⟩ = some u) := hrow
 have HK : Hid (∀ i,i < toks.length → TOk (tkN toks i)) := hok
 have HT : Hid (PowTab w) := ht
 have HL : Hid (srt (tkN toks (toks.length - 1)) = 1) := hE.last
 rw [← hR]
 clear hrow hR hok ht
 go_enter Tryz.func46,Tryz.ntmps46
 go_wp2
 go_loopw [4,5] (fun vb vi wr => PlRel toks RES w vb vi wr) (fun _ vi _ => toks.length - (intOf vi).toNat)
 case atStart => exact ⟨0,toks.length,11,[],hpos,rfl,rfl,by omega,HS,by simp,.inl ⟨Nat.le_refl _,.slice none 0 0,heap_alloc_new w _,World.ownsRow_nil _ _ _ _,by simp [Value.ownBlock]⟩,World.grownBy_alloc _ _ _⟩
 case round =>
  obtain ⟨i,f,bf,out,hi,rfl,rfl,hf,hlex,hout,hB,hgr⟩ := hrel
  obtain ⟨T,hT⟩ : ∃ T,T = tkN toks i := ⟨_,rfl⟩
  obtain ⟨q0,q1,q2,q3⟩ := tokCells_get toks i _ (tkN_get hi)
  rw [← hT] at q0 q1 q2 q3
  have cc : ∀ j u,(tokCells toks)[j]? = some u → wr.cell? ⟨gt,j,none⟩ = some u := fun j u hu => hgr.cell (HR.out j u hu) (by simp)
  have c0 := cc _ _ q0
  have c1 := cc _ _ q1
  have c2 := cc _ _ q2
  have c3 := cc _ _ q3
  have hlt3 : (i : Int) < toks.length := by omega
  have h03 : (0 : Int) ≤ i := by omega
  clear q0 q1 q2 q3
  by_cases h1 : srt T = 1
  ·have e1 : (srt T != 1) = false := by simpa using h1
   have hl : Hid (RES = out) := by rw [Hid,← hlex.out];exact plainF_end (by rw [← hT];exact h1)
   have K := Kept.mk (Tryz.Builder_String_any w.heap.size w.heap.size out wr hB hgr.size)
   clear hlex h1 cc hT
   go_wp2_with (go_at_call 77;refine K.get.mono ?_;rintro e w1 ⟨rfl,hb1⟩)
   go_ret
   rw [hl.out]
   exact ⟨rfl,hb1.os.trans hgr.os,hb1.tape.trans hgr.tape,hb1.output.trans hgr.output,Nat.le_trans hgr.size hb1.size,fun k hk hn => (hb1.block k hk).trans (hgr.block k hk hn)⟩
  ·have e1 : (srt T != 1) = true := by simpa using h1
   have hi2 : i + 1 < toks.length := by
    rcases Nat.lt_or_ge (i + 1) toks.length with q | q
    ·exact q
    ·have e : i = toks.length - 1 := by omega
     rw [e] at hT;rw [hT] at h1;exact absurd HL.out h1
   obtain ⟨U,hU⟩ : ∃ U,U = tkN toks (i + 1) := ⟨_,rfl⟩
   have d0 : wr.cell? ⟨gt,i * 4 + 4,none⟩ = some (.int .i64 (srt U)) := by
    have := cc _ _ (tokCells_get toks (i + 1) _ (tkN_get hi2)).1
    rw [← hU,show (i + 1) * 4 = i * 4 + 4 by omega] at this;exact this
   have K1 := Kept.mk (fun len cp (hl : 2 ≤ len) => pl_needless T U gt (i * 4) len cp hl wr c0 c2 d0)
   obtain ⟨f,rfl⟩ : ∃ g,f = g + 1 := ⟨f - 1,by omega⟩
   have hci : ¬ cap = i := by omega
   by_cases hnd : needless T U = true
   ·have hU1 : srt U ≠ 1 := by
     intro q;unfold needless at hnd;rw [q] at hnd;simp at hnd
    have hi3 : i + 2 < toks.length := by
     rcases Nat.lt_or_ge (i + 2) toks.length with q | q
     ·exact q
     ·have e : i + 1 = toks.length - 1 := by omega
      rw [e] at hU;rw [hU] at hU1;exact absurd HL.out hU1
    have hl : Hid (plainF toks f (i + 2) bf out = RES) := by rw [Hid,← hlex.out];exact (plainF_skip (by rw [← hT];exact h1) (by rw [← hT,← hU];exact hnd)).symm
    rw [hnd] at K1
    clear cc hT hU h1 hnd hU1 hlex
    go_wp2_with (go_at_call 71;refine (K1.get _ _ (by omega)).mono ?_;rintro e w' ⟨rfl,hww⟩;subst w')
    go_roundw
    case rel => exact ⟨i + 2,f,bf,out,hi3,rfl,by go_num,by omega,hl,by omega,hB,hgr⟩
    case measure => simp [intOf];omega
   ·have hnd' : needless T U = false := by simpa using hnd
    rw [hnd'] at K1
    have hl := plainF_step (f := f) (bf := bf) (out := out) (by rw [← hT];exact h1) (by rw [← hT,← hU];exact hnd')
    rw [hlex.out,← hT] at hl
    have hTO := HK.out i hi
    rw [← hT] at hTO
    have HSL : Hid ((spell T).length ≤ 2000) := hTO.lit
    obtain ⟨SP,hSP⟩ : ∃ s : ByteArray,s = ⟨(spell T).toArray⟩ := ⟨_,rfl⟩
    have HSP : Hid (∀ W,PowTab W → Calls Tryz.prog 76 #[.agg #[.int .i64 (srt T),.string T.s,.int .i64 (tval T),.int .i64 T.line]] W fun e w' => e = .returned (.string SP) ∧ W.grownBy w' none) := fun W hW => by rw [hSP];exact pl_spell T hTO W hW
    have HSC : Hid (Lib.strCells SP = Lib.byteCells (spell T)) := by rw [hSP];simp [Hid,Lib.strCells,Lib.byteCells]
    have hsz : SP.size ≤ 2000 := by have := HSL.out;rw [hSP];show (spell T).toArray.size ≤ 2000;simpa using this
    have hbl : w.heap.size < wr.heap.size := by
     rcases hB with q | q
     ·exact q.lt
     ·exact q.lt
    have hcb : wr.heap.size ≠ w.heap.size := by omega
    have hB0 := isB_grown (r := none) hB (World.grownBy_alloc wr (.cells #[.int .i64 (srt T),.string T.s,.int .i64 (tval T),.int .i64 T.line] 129) none)
    have hg0 := hgr.trans (World.grownBy_alloc wr (.cells #[.int .i64 (srt T),.string T.s,.int .i64 (tval T),.int .i64 T.line] 129) none)
    have hx0 := heap_alloc_new wr (.cells #[.int .i64 (srt T),.string T.s,.int .i64 (tval T),.int .i64 T.line] 129)
    have x0_0 := cell_of hx0 0 _ rfl
    clear cc hT hU h1 hnd hnd' hlex hTO hSP hB
    by_cases hjb : jBehind bf = true
    ·have HJB : Hid (jBehind bf = true) := hjb
     clear hjb
     by_cases h11 : srt T = 11
     ·have e11 : (srt T == 11) = true := by simpa using h11
      have hl : Hid (plainF toks f (i + 1) (srt T) (out ++ [] ++ spell T ++ [10]) = RES) := by rw [Hid,hl];simp only [HJB.out];simp [h11]
      clear h11
      go_wp2_with (first | (go_at_call 74;refine (bl_byte w.heap.size w.heap.size _ 10 _ hB2 (by simp [Lib.byteCells,Lib.strCells_length];omega) hg2.size).mono ?_;rintro e w3 ⟨rfl,hB3,hk3⟩;have hg3 := hk3.low hg2;have hx3 := hk3.box hx2 hcb;have x0_3 := cell_of hx3 0 _ rfl) | (go_at_call 75;refine (bl_str w.heap.size w.heap.size _ SP _ hB1 (by simp [Lib.byteCells];omega) (by omega) hg1.size).mono ?_;rintro e w2 ⟨rfl,hB2,hk2⟩;have hg2 := hk2.low hg1;have hx2 := hk2.box hx1 hcb;have x0_2 := cell_of hx2 0 _ rfl) | (go_at_call 76;refine (HSP.out _ (tab_kept HT.out (fun k hk => hg0.block k hk (by simp)))).mono ?_;rintro e w1 ⟨rfl,hq1⟩;have hg1 := hg0.trans hq1;have hx1 := past0 hx0 (Array.getElem?_eq_some_iff.1 hx0).1 hq1 (by simp);have hB1 := isB_grown (r := none) hB0 hq1) | (go_at_call 72;refine (pl_behind _ _).mono ?_;rw [HJB.out];rintro e w' ⟨rfl,hww⟩;subst w') | (go_at_call 71;refine (K1.get _ _ (by omega)).mono ?_;rintro e w' ⟨rfl,hww⟩;subst w'))
      go_roundw
      case rel =>
       refine ⟨i + 1,f,srt T,(out ++ [] ++ spell T ++ [10]),hi2,rfl,by go_num,by omega,hl,?_,?_,hg3⟩
       ·have := HSL.out;simp;omega
       ·have e := hB3
        have es : Lib.strCells SP = Lib.byteCells (spell T) := HSC.out
        rw [es] at e
        simpa [Lib.byteCells] using e
      case measure => simp [intOf];omega
     ·have e11 : (srt T == 11) = false := by simpa using h11
      have hl : Hid (plainF toks f (i + 1) (srt T) (out ++ [] ++ spell T ++ []) = RES) := by rw [Hid,hl];simp only [HJB.out];simp [h11]
      clear h11
      go_wp2_with (first | (go_at_call 75;refine (bl_str w.heap.size w.heap.size _ SP _ hB1 (by simp [Lib.byteCells];omega) (by omega) hg1.size).mono ?_;rintro e w2 ⟨rfl,hB2,hk2⟩;have hg2 := hk2.low hg1;have hx2 := hk2.box hx1 hcb;have x0_2 := cell_of hx2 0 _ rfl) | (go_at_call 76;refine (HSP.out _ (tab_kept HT.out (fun k hk => hg0.block k hk (by simp)))).mono ?_;rintro e w1 ⟨rfl,hq1⟩;have hg1 := hg0.trans hq1;have hx1 := past0 hx0 (Array.getElem?_eq_some_iff.1 hx0).1 hq1 (by simp);have hB1 := isB_grown (r := none) hB0 hq1) | (go_at_call 72;refine (pl_behind _ _).mono ?_;rw [HJB.out];rintro e w' ⟨rfl,hww⟩;subst w') | (go_at_call 71;refine (K1.get _ _ (by omega)).mono ?_;rintro e w' ⟨rfl,hww⟩;subst w'))
      go_roundw
      case rel =>
       refine ⟨i + 1,f,srt T,(out ++ [] ++ spell T ++ []),hi2,rfl,by go_num,by omega,hl,?_,?_,hg2⟩
       ·have := HSL.out;simp;omega
       ·have e := hB2
        have es : Lib.strCells SP = Lib.byteCells (spell T) := HSC.out
        rw [es] at e
        simpa [Lib.byteCells] using e
      case measure => simp [intOf];omega
    ·have HJB : Hid (jBehind bf = false) := by rw [Hid];simpa using hjb
     clear hjb
     by_cases hja : jAhead (srt T) = true
     ·have HJA : Hid (jAhead (srt T) = true) := hja
      clear hja
      by_cases h11 : srt T = 11
      ·have e11 : (srt T == 11) = true := by simpa using h11
       have hl : Hid (plainF toks f (i + 1) (srt T) (out ++ [] ++ spell T ++ [10]) = RES) := by rw [Hid,hl];simp only [HJB.out,HJA.out];simp [h11]
       clear h11
       go_wp2_with (first | (go_at_call 74;refine (bl_byte w.heap.size w.heap.size _ 10 _ hB2 (by simp [Lib.byteCells,Lib.strCells_length];omega) hg2.size).mono ?_;rintro e w3 ⟨rfl,hB3,hk3⟩;have hg3 := hk3.low hg2;have hx3 := hk3.box hx2 hcb;have x0_3 := cell_of hx3 0 _ rfl) | (go_at_call 75;refine (bl_str w.heap.size w.heap.size _ SP _ hB1 (by simp [Lib.byteCells];omega) (by omega) hg1.size).mono ?_;rintro e w2 ⟨rfl,hB2,hk2⟩;have hg2 := hk2.low hg1;have hx2 := hk2.box hx1 hcb;have x0_2 := cell_of hx2 0 _ rfl) | (go_at_call 76;refine (HSP.out _ (tab_kept HT.out (fun k hk => hg0.block k hk (by simp)))).mono ?_;rintro e w1 ⟨rfl,hq1⟩;have hg1 := hg0.trans hq1;have hx1 := past0 hx0 (Array.getElem?_eq_some_iff.1 hx0).1 hq1 (by simp);have hB1 := isB_grown (r := none) hB0 hq1) | (go_at_call 73;refine (pl_ahead _ _).mono ?_;rw [HJA.out];rintro e w' ⟨rfl,hww⟩;subst w') | (go_at_call 72;refine (pl_behind _ _).mono ?_;rw [HJB.out];rintro e w' ⟨rfl,hww⟩;subst w') | (go_at_call 71;refine (K1.get _ _ (by omega)).mono ?_;rintro e w' ⟨rfl,hww⟩;subst w'))
       go_roundw
       case rel =>
        refine ⟨i + 1,f,srt T,(out ++ [] ++ spell T ++ [10]),hi2,rfl,by go_num,by omega,hl,?_,?_,hg3⟩
        ·have := HSL.out;simp;omega
        ·have e := hB3
         have es : Lib.strCells SP = Lib.byteCells (spell T) := HSC.out
         rw [es] at e
         simpa [Lib.byteCells] using e
       case measure => simp [intOf];omega
      ·have e11 : (srt T == 11) = false := by simpa using h11
       have hl : Hid (plainF toks f (i + 1) (srt T) (out ++ [] ++ spell T ++ []) = RES) := by rw [Hid,hl];simp only [HJB.out,HJA.out];simp [h11]
       clear h11
       go_wp2_with (first | (go_at_call 75;refine (bl_str w.heap.size w.heap.size _ SP _ hB1 (by simp [Lib.byteCells];omega) (by omega) hg1.size).mono ?_;rintro e w2 ⟨rfl,hB2,hk2⟩;have hg2 := hk2.low hg1;have hx2 := hk2.box hx1 hcb;have x0_2 := cell_of hx2 0 _ rfl) | (go_at_call 76;refine (HSP.out _ (tab_kept HT.out (fun k hk => hg0.block k hk (by simp)))).mono ?_;rintro e w1 ⟨rfl,hq1⟩;have hg1 := hg0.trans hq1;have hx1 := past0 hx0 (Array.getElem?_eq_some_iff.1 hx0).1 hq1 (by simp);have hB1 := isB_grown (r := none) hB0 hq1) | (go_at_call 73;refine (pl_ahead _ _).mono ?_;rw [HJA.out];rintro e w' ⟨rfl,hww⟩;subst w') | (go_at_call 72;refine (pl_behind _ _).mono ?_;rw [HJB.out];rintro e w' ⟨rfl,hww⟩;subst w') | (go_at_call 71;refine (K1.get _ _ (by omega)).mono ?_;rintro e w' ⟨rfl,hww⟩;subst w'))
       go_roundw
       case rel =>
        refine ⟨i + 1,f,srt T,(out ++ [] ++ spell T ++ []),hi2,rfl,by go_num,by omega,hl,?_,?_,hg2⟩
        ·have := HSL.out;simp;omega
        ·have e := hB2
         have es : Lib.strCells SP = Lib.byteCells (spell T) := HSC.out
         rw [es] at e
         simpa [Lib.byteCells] using e
       case measure => simp [intOf];omega
     ·have HJA : Hid (jAhead (srt T) = false) := by rw [Hid];simpa using hja
      clear hja
      by_cases h11 : srt T = 11
      ·have e11 : (srt T == 11) = true := by simpa using h11
       have hl : Hid (plainF toks f (i + 1) (srt T) (out ++ [32] ++ spell T ++ [10]) = RES) := by rw [Hid,hl];simp only [HJB.out,HJA.out];simp [h11]
       clear h11
       go_wp2_with (first | (go_at_call 74;refine (bl_byte w.heap.size w.heap.size _ 10 _ hB3 (by simp [Lib.byteCells,Lib.strCells_length];omega) hg3.size).mono ?_;rintro e w4 ⟨rfl,hB4,hk4⟩;have hg4 := hk4.low hg3;have hx4 := hk4.box hx3 hcb;have x0_4 := cell_of hx4 0 _ rfl) | (go_at_call 75;refine (bl_str w.heap.size w.heap.size _ SP _ hB2 (by simp [Lib.byteCells];omega) (by omega) hg2.size).mono ?_;rintro e w3 ⟨rfl,hB3,hk3⟩;have hg3 := hk3.low hg2;have hx3 := hk3.box hx2 hcb;have x0_3 := cell_of hx3 0 _ rfl) | (go_at_call 76;refine (HSP.out _ (tab_kept HT.out (fun k hk => hg1.block k hk (by simp)))).mono ?_;rintro e w2 ⟨rfl,hq2⟩;have hg2 := hg1.trans hq2;have hx2 := past0 hx1 (Array.getElem?_eq_some_iff.1 hx1).1 hq2 (by simp);have hB2 := isB_grown (r := none) hB1 hq2) | (go_at_call 74;refine (bl_byte w.heap.size w.heap.size (Lib.byteCells out) 32 _ hB0 (by simp [Lib.byteCells];omega) hg0.size).mono ?_;rintro e w1 ⟨rfl,hB1,hk1⟩;have hg1 := hk1.low hg0;have hx1 := hk1.box hx0 hcb;have x0_1 := cell_of hx1 0 _ rfl;have x1_1 := cell_of hx1 1 _ rfl;have x2_1 := cell_of hx1 2 _ rfl;have x3_1 := cell_of hx1 3 _ rfl) | (go_at_call 73;refine (pl_ahead _ _).mono ?_;rw [HJA.out];rintro e w' ⟨rfl,hww⟩;subst w') | (go_at_call 72;refine (pl_behind _ _).mono ?_;rw [HJB.out];rintro e w' ⟨rfl,hww⟩;subst w') | (go_at_call 71;refine (K1.get _ _ (by omega)).mono ?_;rintro e w' ⟨rfl,hww⟩;subst w'))
       go_roundw
       case rel =>
        refine ⟨i + 1,f,srt T,(out ++ [32] ++ spell T ++ [10]),hi2,rfl,by go_num,by omega,hl,?_,?_,hg4⟩
        ·have := HSL.out;simp;omega
        ·have e := hB4
         have es : Lib.strCells SP = Lib.byteCells (spell T) := HSC.out
         rw [es] at e
         simpa [Lib.byteCells] using e
       case measure => simp [intOf];omega
      ·have e11 : (srt T == 11) = false := by simpa using h11
       have hl : Hid (plainF toks f (i + 1) (srt T) (out ++ [32] ++ spell T ++ []) = RES) := by rw [Hid,hl];simp only [HJB.out,HJA.out];simp [h11]
       clear h11
       go_wp2_with (first | (go_at_call 75;refine (bl_str w.heap.size w.heap.size _ SP _ hB2 (by simp [Lib.byteCells];omega) (by omega) hg2.size).mono ?_;rintro e w3 ⟨rfl,hB3,hk3⟩;have hg3 := hk3.low hg2;have hx3 := hk3.box hx2 hcb;have x0_3 := cell_of hx3 0 _ rfl) | (go_at_call 76;refine (HSP.out _ (tab_kept HT.out (fun k hk => hg1.block k hk (by simp)))).mono ?_;rintro e w2 ⟨rfl,hq2⟩;have hg2 := hg1.trans hq2;have hx2 := past0 hx1 (Array.getElem?_eq_some_iff.1 hx1).1 hq2 (by simp);have hB2 := isB_grown (r := none) hB1 hq2) | (go_at_call 74;refine (bl_byte w.heap.size w.heap.size (Lib.byteCells out) 32 _ hB0 (by simp [Lib.byteCells];omega) hg0.size).mono ?_;rintro e w1 ⟨rfl,hB1,hk1⟩;have hg1 := hk1.low hg0;have hx1 := hk1.box hx0 hcb;have x0_1 := cell_of hx1 0 _ rfl;have x1_1 := cell_of hx1 1 _ rfl;have x2_1 := cell_of hx1 2 _ rfl;have x3_1 := cell_of hx1 3 _ rfl) | (go_at_call 73;refine (pl_ahead _ _).mono ?_;rw [HJA.out];rintro e w' ⟨rfl,hww⟩;subst w') | (go_at_call 72;refine (pl_behind _ _).mono ?_;rw [HJB.out];rintro e w' ⟨rfl,hww⟩;subst w') | (go_at_call 71;refine (K1.get _ _ (by omega)).mono ?_;rintro e w' ⟨rfl,hww⟩;subst w'))
       go_roundw
       case rel =>
        refine ⟨i + 1,f,srt T,(out ++ [32] ++ spell T ++ []),hi2,rfl,by go_num,by omega,hl,?_,?_,hg3⟩
        ·have := HSL.out;simp;omega
        ·have e := hB3
         have es : Lib.strCells SP = Lib.byteCells (spell T) := HSC.out
         rw [es] at e
         simpa [Lib.byteCells] using e
       case measure => simp [intOf];omega
end
section
variable {toks : List PTok}
theorem zero_ok : TOk zeroTok := ⟨by show ByteArray.empty.size ≤ 2000;decide,by simp [tval,zeroTok],by simp [tval,zeroTok]⟩
theorem sumF_mem (h : ∀ i,TOk (tkN toks i)) (f : Nat) : ∀ (acc : List GTerm) (S : PSt),(∀ a ∈ acc,TOk a.first ∧ TOk a.name) → ∀ a ∈ (sumF toks f acc S).1,TOk a.first ∧ TOk a.name := by
 induction f with
 | zero => intro acc S ha;exact ha
 | succ f ih =>
  intro acc S ha
  simp only [sumF]
  split
  ·refine ih _ _ (fun a hm => ?_)
   rcases List.mem_append.1 hm with hm | hm
   ·exact ha a hm
   ·obtain rfl : a = _ := by simpa using hm
    unfold pTerm;split
    ·exact ⟨h _,h _⟩
    ·exact ⟨h _,h _⟩
  ·exact ha
theorem pSum_mem (h : ∀ i,TOk (tkN toks i)) (S : PSt) : ∀ a ∈ (pSum toks S).1,TOk a.first ∧ TOk a.name := by
 refine sumF_mem h _ _ _ (fun a hm => ?_)
 obtain rfl : a = _ := by simpa using hm
 unfold pTerm;split
 ·exact ⟨h _,h _⟩
 ·exact ⟨h _,h _⟩
theorem sumF_len (f : Nat) : ∀ (acc : List GTerm) (S : PSt),acc.length ≤ (sumF toks f acc S).1.length ∧ (sumF toks f acc S).1.length ≤ acc.length + f := by
 induction f with
 | zero => intro acc S;simp [sumF]
 | succ f ih =>
  intro acc S
  simp only [sumF]
  split
  ·have := ih (acc ++ [(pTerm toks (srt (tkN toks S.1) == 23) (pTake toks [20,23] S)).1]) (pTerm toks (srt (tkN toks S.1) == 23) (pTake toks [20,23] S)).2
   simp at this;omega
  ·simp
theorem serF_mem {α : Type} {one : PSt → α × PSt} {P : α → Prop} (h : ∀ S,P (one S).1) (f : Nat) : ∀ (acc : List α) (S : PSt),(∀ a ∈ acc,P a) → ∀ a ∈ (serF toks one f acc S).1,P a := by
 induction f with
 | zero => intro acc S ha;exact ha
 | succ f ih =>
  intro acc S ha
  simp only [serF]
  split
  ·refine ih _ _ (fun a hm => ?_)
   rcases List.mem_append.1 hm with hm | hm
   ·exact ha a hm
   ·obtain rfl : a = _ := by simpa using hm
    exact h _
  ·exact ha
theorem pSer_mem {α : Type} {one : PSt → α × PSt} {P : α → Prop} (h : ∀ S,P (one S).1) (S : PSt) : ∀ a ∈ (pSer toks one S).1,P a :=
 serF_mem h _ _ _ (fun a hm => by obtain rfl : a = _ := (by simpa using hm);exact h _)
theorem serF_len {α : Type} {one : PSt → α × PSt} (f : Nat) : ∀ (acc : List α) (S : PSt),acc.length ≤ (serF toks one f acc S).1.length ∧ (serF toks one f acc S).1.length ≤ acc.length + f := by
 induction f with
 | zero => intro acc S;simp [serF]
 | succ f ih =>
  intro acc S
  simp only [serF]
  split
  ·have := ih (acc ++ [(one (pTake toks [13] S)).1]) (one (pTake toks [13] S)).2
   simp at this;omega
  ·simp
theorem pSer_len {α : Type} {one : PSt → α × PSt} (S : PSt) : 1 ≤ (pSer toks one S).1.length ∧ (pSer toks one S).1.length ≤ 1 + toks.length := by
 have := serF_len (toks := toks) (one := one) toks.length [(one S).1] (one S).2
 unfold pSer;simpa using this
theorem pSum_len (S : PSt) : 1 ≤ (pSum toks S).1.length ∧ (pSum toks S).1.length ≤ 1 + toks.length := by
 have := sumF_len (toks := toks) toks.length [(pTerm toks false S).1] (pTerm toks false S).2
 unfold pSum;simpa using this
theorem ne_of_len {α : Type} {l : List α} (h : 1 ≤ l.length) : l ≠ [] := by intro e;rw [e] at h;simp at h
theorem pLit_ok (h : ∀ i,TOk (tkN toks i)) (S : PSt) : TOk (pLit toks S).1.first ∧ TOk (pLit toks S).1.name := by
 unfold pLit;split
 ·exact ⟨h _,h _⟩
 ·exact ⟨h _,h _⟩
theorem stmt_ok (hlen : toks.length ≤ 2001) (h : ∀ i,TOk (tkN toks i)) (S : PSt) (hk : kwSorts.contains (srt (tkN toks S.1)) = true) : StOk (pStmt toks S).1 := by
 have hkw : srt (tkN toks S.1) = 4 ∨ srt (tkN toks S.1) = 5 ∨ srt (tkN toks S.1) = 6 ∨ srt (tkN toks S.1) = 7 ∨ srt (tkN toks S.1) = 8 ∨ srt (tkN toks S.1) = 9 ∨ srt (tkN toks S.1) = 10 := by
  simpa [kwSorts] using hk
 have nl : ∀ {P : PTok → Prop},∀ a ∈ ([] : List PTok),P a := fun a ha => by simp at ha
 have nt : ∀ a ∈ ([] : List GTerm),TOk a.first ∧ TOk a.name := fun a ha => by simp at ha
 have nli : ∀ a ∈ ([] : List GLit),TOk a.first ∧ TOk a.name := fun a ha => by simp at ha
 unfold pStmt
 simp only
 generalize hkd : srt (tkN toks S.1) = k at *
 rcases hkw with rfl | rfl | rfl | rfl | rfl | rfl | rfl
 ·rw [if_pos rfl]
  exact ⟨h _,fun a ha => by simp at ha;rcases ha with rfl | rfl <;> exact h _,nl,nt,nli,by simp,by simp,by simp,by simp,fun _ => ⟨_,_,rfl⟩,fun q => by simp [hkd] at q,fun q => by simp [hkd] at q,fun q => by simp [hkd] at q,fun q => by simp [hkd] at q,fun q => by simp [hkd] at q,by simp [hkd]⟩
 ·rw [if_neg (by decide),if_pos rfl]
  have hl := pSer_len (toks := toks) (one := pTok toks 3) (pTake toks [18] (pTake toks [14] (pTake toks [2] (pTake toks kwSorts S))))
  exact ⟨h _,pSer_mem (P := TOk) (fun S => h _) _,nl,nt,nli,(by show (pSer toks (pTok toks 3) _).1.length ≤ 3000;omega),by simp,by simp,by simp,fun q => by simp [hkd] at q,fun _ => ne_of_len hl.1,fun q => by simp [hkd] at q,fun q => by simp [hkd] at q,fun q => by simp [hkd] at q,fun q => by simp [hkd] at q,by simp [hkd]⟩
 ·rw [if_neg (by decide),if_neg (by decide),if_neg (by decide),if_pos rfl]
  have hl := pSum_len (toks := toks) (pTake toks kwSorts S)
  exact ⟨zero_ok,fun a ha => by simp [pLin] at ha;rw [ha];exact h _,nl,pSum_mem h _,nli,by simp [pLin],by simp [pLin],(by show (pSum toks _).1.length ≤ 3000;omega),by simp [pLin],fun q => by simp [pLin,hkd] at q,fun q => by simp [pLin,hkd] at q,fun _ => ⟨ne_of_len hl.1,_,rfl⟩,fun q => by simp [pLin,hkd] at q,fun q => by simp [pLin,hkd] at q,fun q => by simp [pLin,hkd] at q,by simp [pLin,hkd]⟩
 ·rw [if_neg (by decide),if_neg (by decide),if_pos rfl]
  have hl := pSum_len (toks := toks) (pTake toks [12] (pTake toks [2] (pTake toks kwSorts S)))
  exact ⟨h _,fun a ha => by simp [pLin] at ha;rw [ha];exact h _,nl,pSum_mem h _,nli,by simp [pLin],by simp [pLin],(by show (pSum toks _).1.length ≤ 3000;omega),by simp [pLin],fun q => by simp [pLin,hkd] at q,fun q => by simp [pLin,hkd] at q,fun _ => ⟨ne_of_len hl.1,_,rfl⟩,fun q => by simp [pLin,hkd] at q,fun q => by simp [pLin,hkd] at q,fun q => by simp [pLin,hkd] at q,by simp [pLin,hkd]⟩
 ·rw [if_neg (by decide),if_neg (by decide),if_neg (by decide),if_neg (by decide),if_pos rfl]
  exact ⟨h _,nl,fun a ha => by simp at ha;rcases ha with rfl | rfl <;> exact h _,nt,nli,by simp,by simp,by simp,by simp,fun q => by simp [hkd] at q,fun q => by simp [hkd] at q,fun q => by simp [hkd] at q,fun _ => ⟨_,_,rfl⟩,fun q => by simp [hkd] at q,fun q => by simp [hkd] at q,by simp [hkd]⟩
 ·rw [if_neg (by decide),if_neg (by decide),if_neg (by decide),if_neg (by decide),if_neg (by decide),if_pos rfl]
  have hl := pSer_len (toks := toks) (one := pTok toks 2) (pTake toks kwSorts S)
  exact ⟨zero_ok,nl,pSer_mem (P := TOk) (fun S => h _) _,nt,nli,by simp,(by show (pSer toks (pTok toks 2) _).1.length ≤ 3000;omega),by simp,by simp,fun q => by simp [hkd] at q,fun q => by simp [hkd] at q,fun q => by simp [hkd] at q,fun q => by simp [hkd] at q,fun _ => ne_of_len hl.1,fun q => by simp [hkd] at q,by simp [hkd]⟩
 ·rw [if_neg (by decide),if_neg (by decide),if_neg (by decide),if_neg (by decide),if_neg (by decide),if_neg (by decide),if_pos rfl]
  have hl := pSer_len (toks := toks) (one := pLit toks) (pTake toks kwSorts S)
  exact ⟨zero_ok,nl,nl,nt,pSer_mem (P := fun a : GLit => TOk a.first ∧ TOk a.name) (pLit_ok h) _,by simp,by simp,by simp,(by show (pSer toks (pLit toks) _).1.length ≤ 3000;omega),fun q => by simp [hkd] at q,fun q => by simp [hkd] at q,fun q => by simp [hkd] at q,fun q => by simp [hkd] at q,fun q => by simp [hkd] at q,fun _ => ne_of_len hl.1,by simp [hkd]⟩
end
section
variable {toks : List PTok}
theorem lexF_line1 (s : ByteArray) (f : Nat) : ∀ (i line : Nat) (acc : List PTok),line ≤ (lexF s f i line acc).2.2 := by
 induction f with
 | zero => intro i line acc;simp [lexF]
 | succ f ih =>
  intro i line acc
  simp only [lexF]
  split
  ·split
   ·have := ih (i + 1) (line + 1) acc;omega
   ·split
    ·exact ih _ _ _
    ·split
     ·exact ih _ _ _
     ·split
      ·simp
      ·exact ih _ _ _
  ·simp
theorem prog_line (s : ByteArray) (i : Nat) (hi : i < (progToks s).length) : 1 ≤ (tkN (progToks s) i).line := by
 have key : ∀ t ∈ progToks s,1 ≤ t.line := fun t ht => by
  rcases List.mem_append.1 ht with ht | ht
  ·exact lex_line s t ht
  ·obtain rfl : t = endTok (lex s).2.2 := by simpa using ht
   exact lexF_line1 s s.size 0 1 []
 unfold tkN
 rw [List.getD_eq_getElem?_getD,List.getElem?_eq_getElem hi]
 exact key _ (List.getElem_mem hi)
theorem pStmt_lt (hE : EndOk toks) {S : PSt} (hi : S.1 < toks.length) : (pStmt toks S).2.1 < toks.length := by
 have T : ∀ {sorts : List Int} {S : PSt},sorts.contains 1 = false → S.1 < toks.length → (pTake toks sorts S).1 < toks.length := fun hs h => pTake_lt hE hs h
 have h1 := T (sorts := kwSorts) rfl hi
 have h2 := T (sorts := [2]) rfl h1
 have h3 := T (sorts := [12]) rfl h2
 have L : ∀ (s : GSt) {S : PSt},S.1 < toks.length → (pLin toks s S).2.1 < toks.length := fun s S h => T rfl (T rfl (pSum_lt hE h))
 unfold pStmt
 simp only
 split
 ·exact T rfl (T rfl (T rfl h3))
 ·split
  ·exact T rfl (pSer_lt hE (fun S h => T rfl h) (T rfl (T rfl h2)))
  ·split
   ·exact L _ h3
   ·split
    ·exact L _ h1
    ·split
     ·exact T rfl (T rfl (T rfl (T rfl (T rfl h2))))
     ·split
      ·exact pSer_lt hE (fun S h => T rfl h) h1
      ·split
       ·exact pSer_lt hE (fun S h => (pLit_lt hE h).1) h1
       ·exact h1
theorem adv_parseF (f : Nat) : ∀ (acc : List GSt) (S : PSt),Adv S (parseF toks f acc S).2 := by
 induction f with
 | zero => intro acc S;exact Adv.refl S
 | succ f ih =>
  intro acc S
  simp only [parseF]
  split
  ·exact (((adv_take toks kwSorts S).trans (adv_stmt toks S)).trans (adv_take toks [11] _)).trans (ih _ _)
  ·exact Adv.refl S
theorem kw_taken (hL : ∀ i,i < toks.length → 1 ≤ (tkN toks i).line) {S : PSt} (hi : S.1 < toks.length) (h0 : S.2 = 0) (h : (pTake toks kwSorts S).2 = 0) : kwSorts.contains (srt (tkN toks S.1)) = true := by
 unfold pTake at h
 rw [if_pos h0] at h
 by_cases c : kwSorts.contains (srt (tkN toks S.1)) = true
 ·exact c
 ·rw [if_neg c] at h
  have := hL S.1 hi
  simp only at h
  omega
theorem parseF_ok (hE : EndOk toks) (hL : ∀ i,i < toks.length → 1 ≤ (tkN toks i).line) (hT : ∀ i,TOk (tkN toks i)) (f : Nat) : ∀ (acc : List GSt) (S : PSt),S.1 < toks.length → (∀ s ∈ acc,StOk s) → (parseF toks f acc S).2.2 = 0 → ∀ s ∈ (parseF toks f acc S).1,StOk s := by
 induction f with
 | zero => intro acc S _ ha _;exact ha
 | succ f ih =>
  intro acc S hi ha hz
  simp only [parseF] at hz ⊢
  by_cases c : S.2 = 0 ∧ srt (tkN toks S.1) ≠ 1
  ·rw [if_pos c] at hz ⊢
   have hz1 := (adv_parseF f (acc ++ [(pStmt toks S).1]) (pTake toks [11] (pStmt toks S).2)).2 hz
   have hz2 := ((adv_stmt toks S).trans (adv_take toks [11] _)).2 hz1
   refine ih _ _ (pTake_lt hE rfl (pStmt_lt hE hi)) (fun s hs => ?_) hz
   rcases List.mem_append.1 hs with hs | hs
   ·exact ha s hs
   ·obtain rfl : s = (pStmt toks S).1 := by simpa using hs
    exact stmt_ok hE.len hT S (kw_taken hL hi c.1 hz2)
  ·rw [if_neg c];exact ha
theorem parseF_len (f : Nat) : ∀ (acc : List GSt) (S : PSt),(parseF toks f acc S).1.length ≤ acc.length + f := by
 induction f with
 | zero => intro acc S;simp [parseF]
 | succ f ih =>
  intro acc S
  simp only [parseF]
  split
  ·have := ih (acc ++ [(pStmt toks S).1]) (pTake toks [11] (pStmt toks S).2);simp at this;omega
  ·simp
theorem parse_ok (s : ByteArray) (hs : s.size ≤ 2000) (h : (pParse (progToks s)).2.2 = 0) : (∀ x ∈ (pParse (progToks s)).1,StOk x) ∧ (pParse (progToks s)).1.length ≤ 2500 := by
 have hE := prog_end s hs
 refine ⟨parseF_ok hE (prog_line s) (tok_ok s hs) _ [] (0,0) hE.pos (fun x hx => by simp at hx) h,?_⟩
 have := parseF_len (toks := progToks s) ((progToks s).length + 1) [] (0,0)
 have := hE.len
 unfold pParse
 simp at *;omega
end
section
def LKind (t : PTok) : Prop :=
 (t.kind = 105 ∧ IsInt1 t.s) ∨ (t.kind = 107 ∧ isKw t.s = true) ∨ (t.kind = 110 ∧ isKw t.s = false ∧ isLetI (bAt t.s 0) = true) ∨ (t.kind = 115 ∧ sgSort t.s ≠ 0)
theorem tok_kind0 (u : ByteArray) (hu : 0 < u.size) (h0 : (tokAt u 0).1 ≠ 0) (line : Nat) : LKind ⟨u.extract 0 (tokAt u 0).1,(tokAt u 0).2,line⟩ := by
 have hsz := tokAtSize u 0 hu
 have r1 := runTo_le isDigI u (0 + 1)
 have r2 := runTo_le isAlnI u (0 + 1)
 unfold tokAt at h0 hsz ⊢
 by_cases hn : isNum u 0 = true
 ·rw [if_pos hn] at h0 hsz ⊢
  by_cases hl : 10 < runTo isDigI u (0 + 1) - 0
  ·rw [if_pos hl] at h0;exact absurd rfl h0
  ·rw [if_neg hl] at hsz ⊢
   exact .inl ⟨rfl,int_ext u _ hsz (by omega) hn rfl⟩
 ·rw [if_neg hn] at h0 hsz ⊢
  by_cases hl : isLetI (bAt u 0) = true
  ·rw [if_pos hl] at h0 hsz ⊢
   by_cases hb : 8 < runTo isAlnI u (0 + 1) - 0
   ·rw [if_pos hb] at h0;exact absurd rfl h0
   ·rw [if_neg hb] at hsz ⊢
    simp only at hsz ⊢
    have e : bAt (u.extract 0 (runTo isAlnI u (0 + 1))) 0 = bAt u 0 := by
     have := bAt_ext u 0 (runTo isAlnI u (0 + 1)) 0 (by omega) hsz
     simpa using this
    by_cases hk : isKw (u.extract 0 (runTo isAlnI u (0 + 1))) = true
    ·rw [if_pos hk];exact .inr (.inl ⟨rfl,hk⟩)
    ·rw [if_neg hk];exact .inr (.inr (.inl ⟨rfl,by simpa using hk,by show isLetI (bAt (u.extract 0 (runTo isAlnI u (0 + 1))) 0) = true;rw [e];exact hl⟩))
  ·rw [if_neg hl] at h0 ⊢
   by_cases hz : signLen u 0 = 0
   ·rw [if_pos hz] at h0;exact absurd rfl h0
   ·rw [if_neg hz]
    refine .inr (.inr (.inr ⟨rfl,?_⟩))
    show sgSort (u.extract 0 (0 + signLen u 0)) ≠ 0
    rw [Nat.zero_add]
    exact sgSort_ne u hu hz
theorem tok_kind (s : ByteArray) (i : Nat) (hi : i < s.size) (h0 : (tokAt s i).1 ≠ 0) (line : Nat) : LKind ⟨s.extract i (tokAt s i).1,(tokAt s i).2,line⟩ := by
 obtain ⟨e1,e2,e3⟩ := tokAt_drop s i hi
 have hd : (tokAt (s.extract i s.size) 0).1 ≠ 0 := fun e => h0 (e2 e)
 have hz : (s.extract i s.size).size = s.size - i := size_ext s i _ (by omega) (Nat.le_refl _)
 have hsz := tokAtSize s i hi
 have h := tok_kind0 (s.extract i s.size) (by omega) hd line
 rw [ext_ext s i _ (by omega) (by rw [← e3 hd];exact hsz),← e3 hd,← e1] at h
 exact h
theorem lexF_kind (s : ByteArray) (f : Nat) : ∀ (i line : Nat) (acc : List PTok),(∀ t ∈ acc,LKind t) → ∀ t ∈ (lexF s f i line acc).2.1,LKind t := by
 induction f with
 | zero => intro i line acc h;exact h
 | succ f ih =>
  intro i line acc h
  simp only [lexF]
  by_cases hi : i < s.size
  ·rw [if_pos hi]
   split
   ·exact ih _ _ _ h
   ·split
    ·exact ih _ _ _ h
    ·split
     ·exact ih _ _ _ h
     ·split
      ·intro t ht;simp at ht
      ·rename_i hne
       refine ih _ _ _ (fun t ht => ?_)
       rcases List.mem_append.1 ht with ht | ht
       ·exact h t ht
       ·obtain rfl : t = ⟨s.extract i (tokAt s i).1,(tokAt s i).2,line⟩ := by simpa using ht
        exact tok_kind s i hi hne line
  ·rw [if_neg hi];exact h
theorem lex_kind (s : ByteArray) : ∀ t ∈ (lex s).2.1,LKind t := lexF_kind s s.size 0 1 [] (fun t ht => by simp at ht)
def sortBytes (k : Int) : List UInt8 :=
 if k = 4 then kVar else if k = 5 then kList else if k = 6 then kLin else if k = 7 then kWhen else if k = 8 then kAt else if k = 9 then kDiff else if k = 10 then kOr
 else if k = 11 then gSemi else if k = 12 then gColon else if k = 13 then gComma else if k = 14 then gEq else if k = 15 then gNe else if k = 16 then gLe else if k = 17 then gDots
 else if k = 18 then gOpen else if k = 19 then gClose else if k = 20 then gPlus else if k = 21 then gStar else if k = 22 then gNot else gMinus
structure SrtOk (t : PTok) : Prop where
 int : t.kind = 105 ↔ srt t = 3
 nam : t.kind = 110 ↔ srt t = 2
 kwd : t.kind = 107 ↔ 4 ≤ srt t ∧ srt t ≤ 10
 eof : t.kind = 101 ↔ srt t = 1
 byt : ∀ k : Int,4 ≤ k → k ≤ 23 → (t.s.toList = sortBytes k ↔ srt t = k)
theorem head_of (s : ByteArray) (c : Int) (h : bAt s 0 = c) (hc : c < 256) : ∃ b l,s.toList = b :: l ∧ (b.toNat : Int) = c := by
 rw [ByteArray.toList_eq]
 rw [bAt_list] at h
 cases hl : s.data.toList with
 | nil => rw [hl] at h;simp at h;omega
 | cons b l => rw [hl] at h;simp at h;exact ⟨b,l,rfl,h⟩
theorem kwSort_of (s : ByteArray) (h : isKw s = true) : 4 ≤ kwSort s ∧ kwSort s ≤ 10 ∧ s.toList = sortBytes (kwSort s) := by
 unfold isKw at h
 unfold kwSort
 repeat' split
 all_goals simp_all [sortBytes,kVar,kList,kLin,kWhen,kAt,kDiff,kOr]
theorem kwSort_no (s : ByteArray) (h : isKw s = false) : kwSort s = 2 := by
 unfold isKw at h
 unfold kwSort
 repeat' split
 all_goals simp_all
theorem sgSort_of (s : ByteArray) (h : sgSort s ≠ 0) : 11 ≤ sgSort s ∧ sgSort s ≤ 23 ∧ s.toList = sortBytes (sgSort s) := by
 by_cases c0 : sgSort s = 0
 ·exact absurd c0 h
 clear h
 revert c0
 unfold sgSort
 by_cases c1 : (s.toList == [59]) = true
 ·simp only [c1,if_true];intro _;exact ⟨by decide,by decide,by rw [eq_of_beq c1];rfl⟩
 rw [if_neg c1]
 by_cases c2 : (s.toList == [58]) = true
 ·simp only [c2,if_true];intro _;exact ⟨by decide,by decide,by rw [eq_of_beq c2];rfl⟩
 rw [if_neg c2]
 by_cases c3 : (s.toList == [44]) = true
 ·simp only [c3,if_true];intro _;exact ⟨by decide,by decide,by rw [eq_of_beq c3];rfl⟩
 rw [if_neg c3]
 by_cases c4 : (s.toList == [61]) = true
 ·simp only [c4,if_true];intro _;exact ⟨by decide,by decide,by rw [eq_of_beq c4];rfl⟩
 rw [if_neg c4]
 by_cases c5 : (s.toList == [33,61]) = true
 ·simp only [c5,if_true];intro _;exact ⟨by decide,by decide,by rw [eq_of_beq c5];rfl⟩
 rw [if_neg c5]
 by_cases c6 : (s.toList == [60,61]) = true
 ·simp only [c6,if_true];intro _;exact ⟨by decide,by decide,by rw [eq_of_beq c6];rfl⟩
 rw [if_neg c6]
 by_cases c7 : (s.toList == [46,46]) = true
 ·simp only [c7,if_true];intro _;exact ⟨by decide,by decide,by rw [eq_of_beq c7];rfl⟩
 rw [if_neg c7]
 by_cases c8 : (s.toList == [91]) = true
 ·simp only [c8,if_true];intro _;exact ⟨by decide,by decide,by rw [eq_of_beq c8];rfl⟩
 rw [if_neg c8]
 by_cases c9 : (s.toList == [93]) = true
 ·simp only [c9,if_true];intro _;exact ⟨by decide,by decide,by rw [eq_of_beq c9];rfl⟩
 rw [if_neg c9]
 by_cases c10 : (s.toList == [43]) = true
 ·simp only [c10,if_true];intro _;exact ⟨by decide,by decide,by rw [eq_of_beq c10];rfl⟩
 rw [if_neg c10]
 by_cases c11 : (s.toList == [42]) = true
 ·simp only [c11,if_true];intro _;exact ⟨by decide,by decide,by rw [eq_of_beq c11];rfl⟩
 rw [if_neg c11]
 by_cases c12 : (s.toList == [33]) = true
 ·simp only [c12,if_true];intro _;exact ⟨by decide,by decide,by rw [eq_of_beq c12];rfl⟩
 rw [if_neg c12]
 by_cases c13 : (s.toList == [45]) = true
 ·simp only [c13,if_true];intro _;exact ⟨by decide,by decide,by rw [eq_of_beq c13];rfl⟩
 rw [if_neg c13]
 intro h;exact absurd rfl h
theorem cases20 {p : Int → Prop} (h4 : p 4) (h5 : p 5) (h6 : p 6) (h7 : p 7) (h8 : p 8) (h9 : p 9) (h10 : p 10) (h11 : p 11) (h12 : p 12) (h13 : p 13) (h14 : p 14) (h15 : p 15) (h16 : p 16) (h17 : p 17) (h18 : p 18) (h19 : p 19) (h20 : p 20) (h21 : p 21) (h22 : p 22) (h23 : p 23) : ∀ k : Int,4 ≤ k → k ≤ 23 → p k := by
 intro k h1 h2
 have : k = 4 ∨ k = 5 ∨ k = 6 ∨ k = 7 ∨ k = 8 ∨ k = 9 ∨ k = 10 ∨ k = 11 ∨ k = 12 ∨ k = 13 ∨ k = 14 ∨ k = 15 ∨ k = 16 ∨ k = 17 ∨ k = 18 ∨ k = 19 ∨ k = 20 ∨ k = 21 ∨ k = 22 ∨ k = 23 := by omega
 rcases this with rfl | rfl | rfl | rfl | rfl | rfl | rfl | rfl | rfl | rfl | rfl | rfl | rfl | rfl | rfl | rfl | rfl | rfl | rfl | rfl <;> assumption
def hdN (l : List UInt8) : Nat := match l with | [] => 0 | b :: _ => b.toNat
theorem sb_head : ∀ k : Int,4 ≤ k → k ≤ 23 → (k ≤ 10 ∧ 97 ≤ hdN (sortBytes k)) ∨ (11 ≤ k ∧ hdN (sortBytes k) < 97 ∧ (hdN (sortBytes k) < 48 ∨ 57 < hdN (sortBytes k)) ∧ (hdN (sortBytes k) = 45 → (sortBytes k).length = 1)) := by
 refine cases20 ?_ ?_ ?_ ?_ ?_ ?_ ?_ ?_ ?_ ?_ ?_ ?_ ?_ ?_ ?_ ?_ ?_ ?_ ?_ ?_ <;> decide
theorem sb_inj : ∀ k : Int,4 ≤ k → k ≤ 23 → ∀ j : Int,4 ≤ j → j ≤ 23 → sortBytes k = sortBytes j → k = j := by
 refine cases20 ?_ ?_ ?_ ?_ ?_ ?_ ?_ ?_ ?_ ?_ ?_ ?_ ?_ ?_ ?_ ?_ ?_ ?_ ?_ ?_ <;> refine cases20 ?_ ?_ ?_ ?_ ?_ ?_ ?_ ?_ ?_ ?_ ?_ ?_ ?_ ?_ ?_ ?_ ?_ ?_ ?_ ?_ <;> decide
theorem len_list (s : ByteArray) : s.toList.length = s.size := by rw [ByteArray.toList_eq,Array.length_toList];rfl
theorem kw_sb (s : ByteArray) (k : Int) (h1 : 4 ≤ k) (h2 : k ≤ 10) (h : s.toList = sortBytes k) : isKw s = true := by
 unfold isKw
 rw [h]
 have : k = 4 ∨ k = 5 ∨ k = 6 ∨ k = 7 ∨ k = 8 ∨ k = 9 ∨ k = 10 := by omega
 rcases this with rfl | rfl | rfl | rfl | rfl | rfl | rfl <;> decide
theorem lk_srt {t : PTok} (h : LKind t) : SrtOk t := by
 rcases h with ⟨hk,h⟩ | ⟨hk,h⟩ | ⟨hk,h,h'⟩ | ⟨hk,h⟩
 ·have e : srt t = 3 := by simp [srt,hk]
  refine ⟨by simp [hk,e],by simp [hk,e],by simp [hk,e],by simp [hk,e],fun k h1 h2 => ⟨fun hb => ?_,fun q => by omega⟩⟩
  exfalso
  have hh := sb_head k h1 h2
  rw [← hb] at hh
  obtain ⟨b,l,hl,hbc⟩ := head_of t.s (bAt t.s 0) rfl (bAt_lt h.2.1)
  rw [hl] at hh
  simp only [hdN] at hh
  have hlen := len_list t.s
  rw [hl] at hlen
  simp at hlen
  rcases h.1 with q | ⟨q,q2⟩
  ·simp [isDigI] at q;simp only [List.length_cons] at hh;omega
  ·simp only [List.length_cons] at hh;omega
 ·obtain ⟨a1,a2,a3⟩ := kwSort_of t.s h
  have e : srt t = kwSort t.s := by simp [srt,hk]
  refine ⟨by simp [hk];omega,by simp [hk];omega,by simp [hk];omega,by simp [hk];omega,fun k h1 h2 => ⟨fun hb => ?_,fun q => ?_⟩⟩
  ·rw [e];exact sb_inj _ (by omega) (by omega) k h1 h2 (a3.symm.trans hb)
  ·rw [← q,e];exact a3
 ·have e : srt t = 2 := by simp [srt,hk,kwSort_no t.s h]
  refine ⟨by simp [hk,e],by simp [hk,e],by simp [hk,e],by simp [hk,e],fun k h1 h2 => ⟨fun hb => ?_,fun q => by omega⟩⟩
  exfalso
  have hh := sb_head k h1 h2
  rcases hh with ⟨q,_⟩ | ⟨q,q2,_⟩
  ·rw [kw_sb t.s k h1 q hb] at h;cases h
  ·rw [← hb] at q2
   have hlt : bAt t.s 0 < 256 := by simp [isLetI] at h';omega
   obtain ⟨b,l,hl,hbc⟩ := head_of t.s (bAt t.s 0) rfl hlt
   rw [hl] at q2
   simp only [hdN] at q2
   simp [isLetI] at h';omega
 ·obtain ⟨a1,a2,a3⟩ := sgSort_of t.s h
  have e : srt t = sgSort t.s := by simp [srt,hk]
  refine ⟨by simp [hk];omega,by simp [hk];omega,by simp [hk];omega,by simp [hk];omega,fun k h1 h2 => ⟨fun hb => ?_,fun q => ?_⟩⟩
  ·rw [e];exact sb_inj _ (by omega) (by omega) k h1 h2 (a3.symm.trans hb)
  ·rw [← q,e];exact a3
theorem srt_eof : SrtOk eofTok := by
 have e : srt eofTok = 1 := by simp [srt,eofTok]
 have hn : eofTok.s.toList = [] := empty_toList
 refine ⟨by rw [e];simp [eofTok],by rw [e];simp [eofTok],by rw [e];simp [eofTok],by rw [e];simp [eofTok],fun k h1 h2 => ⟨fun hb => ?_,fun q => by omega⟩⟩
 exfalso
 have hh := sb_head k h1 h2
 rw [← hb,hn] at hh
 revert k
 refine cases20 ?_ ?_ ?_ ?_ ?_ ?_ ?_ ?_ ?_ ?_ ?_ ?_ ?_ ?_ ?_ ?_ ?_ ?_ ?_ ?_ <;> (intro hb _;rw [hn] at hb;revert hb;decide)
end
section
variable {T : List PTok} {L : Nat}
structure Cut (T : List PTok) (L : Nat) : Prop where
 kind : ∀ t ∈ T,LKind t
 line : ∀ t ∈ T,1 ≤ t.line
 last : 1 ≤ L
def pt (T : List PTok) (L : Nat) : List PTok := T ++ [endTok L]
def lineR (t : PTok) : Int := if t.kind = 101 then -1 else (t.line : Int)
def flN (L : Nat) (R : Int) : Int := if R < 0 then (L : Int) else R
theorem pt_lt {i : Nat} (h : i < T.length) : tkN (pt T L) i = T[i] := by
 unfold tkN pt;simp [List.getD_eq_getElem?_getD,List.getElem?_append_left h,h]
theorem pt_end : tkN (pt T L) T.length = endTok L := by
 unfold tkN pt;simp [List.getD_eq_getElem?_getD]
theorem hand_lt {i : Nat} (h : i < T.length) : hand (T.drop i) = T[i] := by
 unfold hand;rw [List.drop_eq_getElem_cons h];rfl
theorem hand_end : hand (T.drop T.length) = eofTok := by
 unfold hand;simp
theorem at_hand (hC : Cut T L) {i : Nat} (hi : i ≤ T.length) : SrtOk (hand (T.drop i)) ∧ srt (hand (T.drop i)) = srt (tkN (pt T L) i) ∧ lineR (hand (T.drop i)) ≠ 0 ∧ flN L (lineR (hand (T.drop i))) = ((tkN (pt T L) i).line : Int) ∧ 1 ≤ (tkN (pt T L) i).line := by
 rcases Nat.lt_or_ge i T.length with h | h
 ·rw [hand_lt h,pt_lt h]
  have hk := lk_srt (hC.kind _ (List.getElem_mem h))
  have hl := hC.line _ (List.getElem_mem h)
  have hne : T[i].kind ≠ 101 := by
   intro e
   rcases hC.kind _ (List.getElem_mem h) with q | q | q | q <;> omega
  refine ⟨hk,rfl,?_,?_,hl⟩
  ·unfold lineR;rw [if_neg hne];omega
  ·unfold lineR flN;rw [if_neg hne,if_neg (by omega)]
 ·obtain rfl : i = T.length := by omega
  rw [hand_end,pt_end]
  refine ⟨srt_eof,?_,?_,?_,hC.last⟩
  ·rw [srt_end];simp [srt,eofTok]
  ·unfold lineR eofTok;simp
  ·unfold lineR eofTok flN endTok;simp
def sym (k : Int) : List UInt8 := if k = 2 then yNAME else if k = 3 then yINT else sortBytes k
theorem cases22 {p : Int → Prop} (h2 : p 2) (h3 : p 3) (h : ∀ k : Int,4 ≤ k → k ≤ 23 → p k) : ∀ k : Int,2 ≤ k → k ≤ 23 → p k := by
 intro k a b
 rcases (by omega : k = 2 ∨ k = 3 ∨ 4 ≤ k) with rfl | rfl | c
 ·exact h2
 ·exact h3
 ·exact h k c b
theorem sym_none (kd : Int) (ts : List UInt8) : ∀ k : Int,2 ≤ k → k ≤ 23 → becomes (sym k) kd ts = none := by
 refine cases22 ?_ ?_ (cases20 ?_ ?_ ?_ ?_ ?_ ?_ ?_ ?_ ?_ ?_ ?_ ?_ ?_ ?_ ?_ ?_ ?_ ?_ ?_ ?_) <;>
  (unfold becomes;rw [if_neg (by decide),if_neg (by decide),if_neg (by decide),if_neg (by decide),if_neg (by decide),if_neg (by decide),if_neg (by decide),if_neg (by decide),if_neg (by decide),if_neg (by decide)])
theorem sb_int : ∀ k : Int,4 ≤ k → k ≤ 23 → sortBytes k ≠ yINT := by
 refine cases20 ?_ ?_ ?_ ?_ ?_ ?_ ?_ ?_ ?_ ?_ ?_ ?_ ?_ ?_ ?_ ?_ ?_ ?_ ?_ ?_ <;> decide
theorem sb_nam : ∀ k : Int,4 ≤ k → k ≤ 23 → sortBytes k ≠ yNAME := by
 refine cases20 ?_ ?_ ?_ ?_ ?_ ?_ ?_ ?_ ?_ ?_ ?_ ?_ ?_ ?_ ?_ ?_ ?_ ?_ ?_ ?_ <;> decide
theorem sym_fits {t : PTok} (h : SrtOk t) : ∀ k : Int,2 ≤ k → k ≤ 23 → fits (sym k) t = decide (srt t = k) := by
 refine cases22 ?_ ?_ ?_
 ·unfold fits;rw [if_neg (by decide),if_pos (by decide)];exact decide_eq_decide.2 h.nam
 ·unfold fits;rw [if_pos (by decide)];exact decide_eq_decide.2 h.int
 ·intro k a b
  have e : sym k = sortBytes k := by unfold sym;rw [if_neg (by omega),if_neg (by omega)]
  have n1 : sortBytes k ≠ yINT := sb_int k a b
  have n2 : sortBytes k ≠ yNAME := sb_nam k a b
  have hb := h.byt k a b
  unfold fits
  rw [e,if_neg n1,if_neg n2]
  by_cases c : srt t = k
  ·have hk : t.kind ≠ 101 := fun q => by have := h.eof.1 q;omega
   rw [decide_eq_true c,hb.2 c];simpa using hk
  ·have : ¬ sortBytes k = t.s.toList := fun q => c (hb.1 q.symm)
   rw [decide_eq_false c];simp [this]
def Run (T : List PTok) (k : Nat) (want : List (List UInt8)) (i j : Nat) : Prop := ∀ f rest,formF (f + k) (want ++ rest) (T.drop i) = formF f rest (T.drop j)
def Bad (T : List PTok) (k : Nat) (want : List (List UInt8)) (i : Nat) (R : Int) : Prop := ∀ f rest,formF (f + k) (want ++ rest) (T.drop i) = some R
def Sim (T : List PTok) (L : Nat) (d D : Int) (want : List (List UInt8)) (i : Nat) (S : PSt) : Prop :=
 (S.2 = 0 ∧ i ≤ S.1 ∧ S.1 ≤ T.length ∧ ∃ k : Nat,(k : Int) ≤ 50 * ((S.1 : Int) - i) + d ∧ Run T k want i S.1) ∨
 (S.2 ≠ 0 ∧ ∃ (k : Nat) (R : Int),(k : Int) ≤ 50 * ((T.length : Int) - i) + D ∧ R ≠ 0 ∧ flN L R = S.2 ∧ Bad T k want i R)
theorem Sim.seq {d1 d2 D1 D2 d D : Int} {a b : List (List UInt8)} {i : Nat} {S S' : PSt} (h1 : Sim T L d1 D1 a i S) (h2 : S.2 = 0 → S.1 ≤ T.length → Sim T L d2 D2 b S.1 S') (h3 : S.2 ≠ 0 → S' = S) (hd : d1 + d2 ≤ d) (hD1 : D1 ≤ D) (hD2 : d1 + D2 ≤ D) : Sim T L d D (a ++ b) i S' := by
 rcases h1 with ⟨e,hi,hn,k,hk,hr⟩ | ⟨e,k,R,hk,hR,hf,hb⟩
 ·rcases h2 e hn with ⟨e',hi',hn',k',hk',hr'⟩ | ⟨e',k',R,hk',hR,hf,hb⟩
  ·refine .inl ⟨e',by omega,hn',k' + k,by omega,fun f rest => ?_⟩
   rw [← Nat.add_assoc,List.append_assoc,hr,hr']
  ·refine .inr ⟨e',k' + k,R,by omega,hR,hf,fun f rest => ?_⟩
   rw [← Nat.add_assoc,List.append_assoc,hr,hb]
 ·rw [h3 e]
  refine .inr ⟨e,k,R,by omega,hR,hf,fun f rest => ?_⟩
  rw [List.append_assoc,hb]
theorem Sim.le {d D d' D' : Int} {a : List (List UInt8)} {i : Nat} {S : PSt} (h : Sim T L d D a i S) (hd : d ≤ d') (hD : D ≤ D') : Sim T L d' D' a i S := by
 rcases h with ⟨e,hi,hn,k,hk,hr⟩ | ⟨e,k,R,hk,hR,hf,hb⟩
 ·exact .inl ⟨e,hi,hn,k,by omega,hr⟩
 ·exact .inr ⟨e,k,R,by omega,hR,hf,hb⟩
theorem Sim.expand {d D d' D' : Int} {y : List UInt8} {next : List (List UInt8)} {i : Nat} {S : PSt} (hb : becomes y (hand (T.drop i)).kind (hand (T.drop i)).s.toList = some next) (h : Sim T L d D next i S) (hd : d + 1 ≤ d') (hD : D + 1 ≤ D') : Sim T L d' D' [y] i S := by
 have key : ∀ f rest,formF (f + 1) ([y] ++ rest) (T.drop i) = formF f (next ++ rest) (T.drop i) := fun f rest => formF_some hb
 rcases h with ⟨e,hi,hn,k,hk,hr⟩ | ⟨e,k,R,hk,hR,hf,hb⟩
 ·exact .inl ⟨e,hi,hn,k + 1,by omega,fun f rest => by rw [← Nat.add_assoc,key,hr]⟩
 ·exact .inr ⟨e,k + 1,R,by omega,hR,hf,fun f rest => by rw [← Nat.add_assoc,key,hb]⟩
theorem sim_nil {S : PSt} (h0 : S.2 = 0) (hi : S.1 ≤ T.length) : Sim T L 0 0 [] S.1 S := .inl ⟨h0,Nat.le_refl _,hi,0,by omega,fun f rest => rfl⟩
theorem sim_take (hC : Cut T L) (k : Int) (h2 : 2 ≤ k) (h23 : k ≤ 23) (sorts : List Int) {S : PSt} (hs : sorts.contains (srt (tkN (pt T L) S.1)) = decide (srt (tkN (pt T L) S.1) = k)) (h0 : S.2 = 0) (hi : S.1 ≤ T.length) : Sim T L (-49) 1 [sym k] S.1 (pTake (pt T L) sorts S) := by
 obtain ⟨ho,hso,hl0,hfl,hl1⟩ := at_hand hC hi
 have hn := sym_none (hand (T.drop S.1)).kind (hand (T.drop S.1)).s.toList k h2 h23
 have hf := sym_fits ho k h2 h23
 rw [hso,← hs] at hf
 unfold pTake
 rw [if_pos h0]
 by_cases c : sorts.contains (srt (tkN (pt T L) S.1)) = true
 ·rw [if_pos c]
  rw [c] at hf
  have hlt : S.1 < T.length := by
   rcases Nat.lt_or_ge S.1 T.length with q | q
   ·exact q
   ·have e : S.1 = T.length := by omega
    rw [c,e,pt_end,srt_end] at hs
    have := of_decide_eq_true hs.symm
    omega
  refine .inl ⟨rfl,Nat.le_succ _,hlt,1,by simp;omega,fun f rest => ?_⟩
  show formF (f + 1) (sym k :: rest) _ = _
  rw [formF_take hn hf,List.tail_drop]
 ·rw [if_neg c]
  rw [Bool.eq_false_iff.2 c] at hf
  refine .inr ⟨by simp only;omega,1,lineR (hand (T.drop S.1)),by omega,hl0,hfl,fun f rest => ?_⟩
  show formF (f + 1) (sym k :: rest) _ = _
  rw [formF_bad hn hf];rfl
theorem sim_one (hC : Cut T L) (k : Int) (h2 : 2 ≤ k) (h23 : k ≤ 23) {S : PSt} (h0 : S.2 = 0) (hi : S.1 ≤ T.length) : Sim T L (-49) 1 [sym k] S.1 (pTake (pt T L) [k] S) :=
 sim_take hC k h2 h23 [k] (by simp) h0 hi
theorem take_stuck {toks : List PTok} {sorts : List Int} {S : PSt} (h : S.2 ≠ 0) : pTake toks sorts S = S := by unfold pTake;rw [if_neg h]
theorem term_stuck {toks : List PTok} {neg : Bool} {S : PSt} (h : S.2 ≠ 0) : (pTerm toks neg S).2 = S := by
 unfold pTerm;split
 ·simp only [take_stuck h]
 ·simp only [take_stuck h]
theorem lit_stuck {toks : List PTok} {S : PSt} (h : S.2 ≠ 0) : (pLit toks S).2 = S := by
 unfold pLit;split
 ·simp only [take_stuck h]
 ·simp only [take_stuck h]
theorem sees_stuck {toks : List PTok} {k : Int} {S : PSt} (h : S.2 ≠ 0) : pSees toks k S = false := by unfold pSees;simp [h]
theorem sumF_stuck {toks : List PTok} {f : Nat} {acc : List GTerm} {S : PSt} (h : S.2 ≠ 0) : sumF toks f acc S = (acc,S) := by
 cases f with
 | zero => rfl
 | succ f => simp [sumF,sees_stuck h]
theorem serF_stuck {α : Type} {toks : List PTok} {one : PSt → α × PSt} {f : Nat} {acc : List α} {S : PSt} (h : S.2 ≠ 0) : serF toks one f acc S = (acc,S) := by
 cases f with
 | zero => rfl
 | succ f => simp [serF,sees_stuck h]
theorem sum_stuck {toks : List PTok} {S : PSt} (h : S.2 ≠ 0) : (pSum toks S).2 = S := by
 unfold pSum;rw [sumF_stuck (by rw [term_stuck h];exact h),term_stuck h]
theorem ser_stuck {α : Type} {toks : List PTok} {one : PSt → α × PSt} (hone : ∀ S : PSt,S.2 ≠ 0 → (one S).2 = S) {S : PSt} (h : S.2 ≠ 0) : (pSer toks one S).2 = S := by
 unfold pSer;rw [serF_stuck (by rw [hone S h];exact h),hone S h]
end
section
variable {T : List PTok} {L : Nat}
theorem sim_term (hC : Cut T L) (neg : Bool) {S : PSt} (h0 : S.2 = 0) (hi : S.1 ≤ T.length) : Sim T L (-48) 2 [yTerm] S.1 (pTerm (pt T L) neg S).2 := by
 obtain ⟨ho,hso,-⟩ := at_hand hC hi
 unfold pTerm
 by_cases c : srt (tkN (pt T L) S.1) = 3
 ·rw [if_pos c]
  have hk : (hand (T.drop S.1)).kind = 105 := ho.int.2 (hso.trans c)
  refine Sim.expand (next := [yINT,gStar,yNAME]) (by rw [hk];rfl) (d := -49) (D := 1) ?_ (by decide) (by decide)
  refine Sim.seq (a := [yINT]) (b := [gStar,yNAME]) (sim_take hC 3 (by decide) (by decide) [3,2] (by rw [c];rfl) h0 hi) (fun e hn => ?_) (fun e => by simp only [take_stuck e]) (d2 := -98) (D2 := 1) (by decide) (by decide) (by decide)
  exact Sim.seq (a := [gStar]) (b := [yNAME]) (sim_one hC 21 (by decide) (by decide) e hn) (fun e hn => sim_one hC 2 (by decide) (by decide) e hn) (fun e => take_stuck e) (by decide) (by decide) (by decide)
 ·rw [if_neg c]
  have hk : ¬ (hand (T.drop S.1)).kind = 105 := fun q => c (hso.symm.trans (ho.int.1 q))
  refine Sim.expand (next := [yNAME]) (by unfold becomes;rw [if_neg (by decide),if_neg (by decide),if_neg (by decide),if_neg (by decide),if_neg (by decide),if_neg (by decide),if_neg (by decide),if_neg (by decide),if_pos rfl,if_neg hk]) (d := -49) (D := 1) ?_ (by decide) (by decide)
  exact sim_take hC 2 (by decide) (by decide) [3,2] (by simp [c]) h0 hi
theorem sim_lit (hC : Cut T L) {S : PSt} (h0 : S.2 = 0) (hi : S.1 ≤ T.length) : Sim T L (-48) 2 [yLit] S.1 (pLit (pt T L) S).2 := by
 obtain ⟨ho,hso,-⟩ := at_hand hC hi
 have hb := ho.byt 22 (by decide) (by decide)
 rw [hso] at hb
 unfold pLit
 by_cases c : srt (tkN (pt T L) S.1) = 22
 ·rw [if_pos c]
  have hts : (hand (T.drop S.1)).s.toList = gNot := hb.2 c
  refine Sim.expand (next := [gNot,yNAME]) (by rw [hts];rfl) (d := -49) (D := 1) ?_ (by decide) (by decide)
  exact Sim.seq (a := [gNot]) (b := [yNAME]) (sim_take hC 22 (by decide) (by decide) [22,2] (by rw [c];rfl) h0 hi) (fun e hn => sim_one hC 2 (by decide) (by decide) e hn) (fun e => take_stuck e) (by decide) (by decide) (by decide)
 ·rw [if_neg c]
  have hts : ¬ (hand (T.drop S.1)).s.toList = gNot := fun q => c (hb.1 q)
  refine Sim.expand (next := [yNAME]) (by unfold becomes;rw [if_neg (by decide),if_neg (by decide),if_neg (by decide),if_neg (by decide),if_neg (by decide),if_pos rfl,if_neg hts]) (d := -49) (D := 1) ?_ (by decide) (by decide)
  exact sim_take hC 2 (by decide) (by decide) [22,2] (by simp [c]) h0 hi
theorem sim_rel (hC : Cut T L) {S : PSt} (h0 : S.2 = 0) (hi : S.1 ≤ T.length) : Sim T L (-48) 2 [yRel] S.1 (pTake (pt T L) [14,15,16] S) := by
 obtain ⟨ho,hso,-⟩ := at_hand hC hi
 have b15 := ho.byt 15 (by decide) (by decide)
 have b16 := ho.byt 16 (by decide) (by decide)
 rw [hso] at b15 b16
 by_cases c : srt (tkN (pt T L) S.1) = 15
 ·have hts : (hand (T.drop S.1)).s.toList = gNe := b15.2 c
  exact Sim.expand (next := [gNe]) (by rw [hts];rfl) (sim_take hC 15 (by decide) (by decide) [14,15,16] (by rw [c];rfl) h0 hi) (by decide) (by decide)
 by_cases c' : srt (tkN (pt T L) S.1) = 16
 ·have hts : (hand (T.drop S.1)).s.toList = gLe := b16.2 c'
  exact Sim.expand (next := [gLe]) (by rw [hts];rfl) (sim_take hC 16 (by decide) (by decide) [14,15,16] (by rw [c'];rfl) h0 hi) (by decide) (by decide)
 have hts : ¬ ((hand (T.drop S.1)).s.toList = gNe ∨ (hand (T.drop S.1)).s.toList = gLe) := fun q => by
  rcases q with q | q
  ·exact c (b15.1 q)
  ·exact c' (b16.1 q)
 refine Sim.expand (next := [gEq]) (by unfold becomes;rw [if_neg (by decide),if_neg (by decide),if_neg (by decide),if_neg (by decide),if_neg (by decide),if_neg (by decide),if_neg (by decide),if_neg (by decide),if_neg (by decide),if_pos rfl,if_neg hts]) (d := -49) (D := 1) ?_ (by decide) (by decide)
 exact sim_take hC 14 (by decide) (by decide) [14,15,16] (by simp [c,c']) h0 hi
theorem sim_terms (hC : Cut T L) (f : Nat) : ∀ (acc : List GTerm) (S : PSt),S.2 = 0 → S.1 ≤ T.length → T.length - S.1 < f → Sim T L (-47) 3 [yTerms] S.1 (pTake (pt T L) [14,15,16] (sumF (pt T L) f acc S).2) := by
 induction f with
 | zero => intro acc S _ _ h;omega
 | succ f ih =>
  intro acc S h0 hi hf
  obtain ⟨ho,hso,-⟩ := at_hand hC hi
  have b20 := ho.byt 20 (by decide) (by decide)
  have b23 := ho.byt 23 (by decide) (by decide)
  rw [hso] at b20 b23
  simp only [sumF]
  by_cases c : srt (tkN (pt T L) S.1) = 20 ∨ srt (tkN (pt T L) S.1) = 23
  ·rw [if_pos (by unfold pSees;rcases c with c | c <;> simp [h0,c])]
   obtain ⟨k,hk2,hk23,hks,hts⟩ : ∃ k : Int,2 ≤ k ∧ k ≤ 23 ∧ srt (tkN (pt T L) S.1) = k ∧ (k = 20 ∨ k = 23) ∧ (hand (T.drop S.1)).s.toList = sym k := by
    rcases c with c | c
    ·exact ⟨20,by decide,by decide,c,.inl rfl,b20.2 c⟩
    ·exact ⟨23,by decide,by decide,c,.inr rfl,b23.2 c⟩
   have hbec : becomes yTerms (hand (T.drop S.1)).kind (hand (T.drop S.1)).s.toList = some [sym k,yTerm,yTerms] := by
    rw [hts.2]
    rcases hts.1 with rfl | rfl <;> rfl
   refine Sim.expand (next := [sym k,yTerm,yTerms]) hbec (d := -100) (D := 1) ?_ (by decide) (by decide)
   have s1 := sim_take hC k hk2 hk23 [20,23] (S := S) (by rw [hks];rcases hts.1 with rfl | rfl <;> rfl) h0 hi
   refine Sim.seq (a := [sym k]) (b := [yTerm,yTerms]) s1 (fun e hn => ?_) (fun e => ?_) (d2 := -95) (D2 := 2) (by decide) (by decide) (by decide)
   ·have s2 := sim_term hC (srt (tkN (pt T L) S.1) == 23) e hn
    refine Sim.seq (a := [yTerm]) (b := [yTerms]) s2 (fun e' hn' => ?_) (fun e' => ?_) (d2 := -47) (D2 := 3) (by decide) (by decide) (by decide)
    ·refine ih _ _ e' hn' ?_
     have q1 := (adv_term (pt T L) (srt (tkN (pt T L) S.1) == 23) (pTake (pt T L) [20,23] S)).1
     have q2 : (pTake (pt T L) [20,23] S).1 = S.1 + 1 := by
      rw [pTake_sees h0 (by rcases c with c | c <;> rw [c] <;> rfl)]
     omega
    ·rw [sumF_stuck e',take_stuck e']
   ·rw [term_stuck e,sumF_stuck e,take_stuck e]
  ·rw [if_neg (by unfold pSees;simp only [h0];simpa using c)]
   have hts : ¬ ((hand (T.drop S.1)).s.toList = gPlus ∨ (hand (T.drop S.1)).s.toList = gMinus) := fun q => c (q.imp b20.1 b23.1)
   exact Sim.expand (next := [yRel]) (by unfold becomes;rw [if_neg (by decide),if_neg (by decide),if_neg (by decide),if_neg (by decide),if_neg (by decide),if_neg (by decide),if_neg (by decide),if_pos rfl,if_neg hts]) (sim_rel hC h0 hi) (by decide) (by decide)
theorem pt_len : (pt T L).length = T.length + 1 := by simp [pt]
theorem sim_sum (hC : Cut T L) {S : PSt} (h0 : S.2 = 0) (hi : S.1 ≤ T.length) : Sim T L (-90) 3 [ySum] S.1 (pTake (pt T L) [14,15,16] (pSum (pt T L) S).2) := by
 refine Sim.expand (next := [yTerm,yTerms]) rfl (d := -95) (D := 2) ?_ (by decide) (by decide)
 refine Sim.seq (a := [yTerm]) (b := [yTerms]) (sim_term hC false h0 hi) (fun e hn => ?_) (fun e => ?_) (d2 := -47) (D2 := 3) (by decide) (by decide) (by decide)
 ·exact sim_terms hC _ _ _ e hn (by rw [pt_len];omega)
 ·unfold pSum;rw [sumF_stuck e,take_stuck e]
theorem sim_serF {α : Type} (hC : Cut T L) (X Ys : List UInt8) (one : PSt → α × PSt) (hY : ∀ kd ts,becomes Ys kd ts = some (if ts = gComma then [gComma,X,Ys] else [])) (hone : ∀ S : PSt,S.2 = 0 → S.1 ≤ T.length → Sim T L (-48) 2 [X] S.1 (one S).2) (hst : ∀ S : PSt,S.2 ≠ 0 → (one S).2 = S) (hadv : ∀ S : PSt,S.1 ≤ (one S).2.1) (f : Nat) : ∀ (acc : List α) (S : PSt),S.2 = 0 → S.1 ≤ T.length → T.length - S.1 < f → Sim T L 1 3 [Ys] S.1 (serF (pt T L) one f acc S).2 := by
 induction f with
 | zero => intro acc S _ _ h;omega
 | succ f ih =>
  intro acc S h0 hi hf
  obtain ⟨ho,hso,-⟩ := at_hand hC hi
  have b13 := ho.byt 13 (by decide) (by decide)
  rw [hso] at b13
  simp only [serF]
  by_cases c : srt (tkN (pt T L) S.1) = 13
  ·rw [if_pos (by unfold pSees;simp [h0,c])]
   have hts : (hand (T.drop S.1)).s.toList = gComma := b13.2 c
   refine Sim.expand (next := [gComma,X,Ys]) (by rw [hY,if_pos hts]) (d := -90) (D := 1) ?_ (by decide) (by decide)
   refine Sim.seq (a := [gComma]) (b := [X,Ys]) (sim_one hC 13 (by decide) (by decide) h0 hi) (fun e hn => ?_) (fun e => ?_) (d2 := -47) (D2 := 3) (by decide) (by decide) (by decide)
   ·refine Sim.seq (a := [X]) (b := [Ys]) (hone _ e hn) (fun e' hn' => ?_) (fun e' => ?_) (d2 := 1) (D2 := 3) (by decide) (by decide) (by decide)
    ·refine ih _ _ e' hn' ?_
     have q1 := hadv (pTake (pt T L) [13] S)
     have q2 : (pTake (pt T L) [13] S).1 = S.1 + 1 := by rw [pTake_sees h0 (by rw [c];rfl)]
     omega
    ·rw [serF_stuck e']
   ·rw [hst _ e,serF_stuck e]
  ·rw [if_neg (by unfold pSees;simp only [h0];simpa using c)]
   have hts : ¬ (hand (T.drop S.1)).s.toList = gComma := fun q => c (b13.1 q)
   exact Sim.expand (next := []) (by rw [hY,if_neg hts]) (sim_nil h0 hi) (by decide) (by decide)
theorem sim_ser {α : Type} (hC : Cut T L) (X Ys : List UInt8) (one : PSt → α × PSt) (hY : ∀ kd ts,becomes Ys kd ts = some (if ts = gComma then [gComma,X,Ys] else [])) (hone : ∀ S : PSt,S.2 = 0 → S.1 ≤ T.length → Sim T L (-48) 2 [X] S.1 (one S).2) (hst : ∀ S : PSt,S.2 ≠ 0 → (one S).2 = S) (hadv : ∀ S : PSt,S.1 ≤ (one S).2.1) {S : PSt} (h0 : S.2 = 0) (hi : S.1 ≤ T.length) : Sim T L (-47) 2 [X,Ys] S.1 (pSer (pt T L) one S).2 := by
 refine Sim.seq (a := [X]) (b := [Ys]) (hone S h0 hi) (fun e hn => ?_) (fun e => ?_) (d2 := 1) (D2 := 3) (by decide) (by decide) (by decide)
 ·exact sim_serF hC X Ys one hY hone hst hadv _ _ _ e hn (by rw [pt_len];omega)
 ·rw [pSer,serF_stuck e]
end
section
variable {T : List PTok} {L : Nat}
theorem sim_kw (hC : Cut T L) (k : Int) (h4 : 4 ≤ k) (h10 : k ≤ 10) {S : PSt} (h0 : S.2 = 0) (hi : S.1 ≤ T.length) (hk : srt (tkN (pt T L) S.1) = k) : Sim T L (-49) 1 [sym k] S.1 (pTake (pt T L) kwSorts S) := by
 refine sim_take hC k (by omega) (by omega) kwSorts ?_ h0 hi
 rw [hk]
 have : k = 4 ∨ k = 5 ∨ k = 6 ∨ k = 7 ∨ k = 8 ∨ k = 9 ∨ k = 10 := by omega
 rcases this with rfl | rfl | rfl | rfl | rfl | rfl | rfl <;> rfl
theorem becInts (kd : Int) (ts : List UInt8) : becomes yInts kd ts = some (if ts = gComma then [gComma,yINT,yInts] else []) := rfl
theorem becNames (kd : Int) (ts : List UInt8) : becomes yNames kd ts = some (if ts = gComma then [gComma,yNAME,yNames] else []) := rfl
theorem becLits (kd : Int) (ts : List UInt8) : becomes yLits kd ts = some (if ts = gComma then [gComma,yLit,yLits] else []) := rfl
theorem sim_lin (hC : Cut T L) (s : GSt) {S : PSt} (h0 : S.2 = 0) (hi : S.1 ≤ T.length) : Sim T L (-90) 3 [ySum,yINT] S.1 (pLin (pt T L) s S).2 := by
 unfold pLin
 exact Sim.seq (a := [ySum]) (b := [yINT]) (sim_sum hC h0 hi) (fun e hn => sim_one hC 3 (by decide) (by decide) e hn) (fun e => take_stuck e) (by decide) (by decide) (by decide)
theorem lin_stuck {toks : List PTok} {s : GSt} {S : PSt} (h : S.2 ≠ 0) : (pLin toks s S).2 = S := by
 unfold pLin;simp only [sum_stuck h,take_stuck h]
theorem sim_stmt (hC : Cut T L) {S : PSt} (h0 : S.2 = 0) (hi : S.1 ≤ T.length) (hk4 : 4 ≤ srt (tkN (pt T L) S.1)) (hk10 : srt (tkN (pt T L) S.1) ≤ 10) : Sim T L (-48) 2 [yStatement] S.1 (pStmt (pt T L) S).2 := by
 obtain ⟨ho,hso,-⟩ := at_hand hC hi
 obtain ⟨k,hk⟩ : ∃ k,srt (tkN (pt T L) S.1) = k := ⟨_,rfl⟩
 have hb := (ho.byt k (by omega) (by omega)).2 (hso.trans hk)
 have s1 := sim_kw hC k (by omega) (by omega) h0 hi hk
 have one : ∀ (j : Int) (a : 2 ≤ j) (b : j ≤ 23) {S : PSt} (e : S.2 = 0) (hn : S.1 ≤ T.length),Sim T L (-49) 1 [sym j] S.1 (pTake (pt T L) [j] S) := fun j a b {S} e hn => sim_one hC j a b e hn
 have hcs : k = 4 ∨ k = 5 ∨ k = 6 ∨ k = 7 ∨ k = 8 ∨ k = 9 ∨ k = 10 := by omega
 unfold pStmt
 simp only
 rw [hk]
 rcases hcs with rfl | rfl | rfl | rfl | rfl | rfl | rfl
 ·rw [if_pos rfl]
  refine Sim.expand (next := [kVar,yNAME,gColon,yINT,gDots,yINT]) (by rw [hb];rfl) (d := -49) (D := 1) ?_ (by decide) (by decide)
  refine Sim.seq (a := [kVar]) (b := [yNAME,gColon,yINT,gDots,yINT]) s1 (fun e hn => ?_) (fun e => by simp only [take_stuck e]) (d2 := -49) (D2 := 1) (by decide) (by decide) (by decide)
  refine Sim.seq (a := [yNAME]) (b := [gColon,yINT,gDots,yINT]) (one 2 (by decide) (by decide) e hn) (fun e hn => ?_) (fun e => by simp only [take_stuck e]) (d2 := -49) (D2 := 1) (by decide) (by decide) (by decide)
  refine Sim.seq (a := [gColon]) (b := [yINT,gDots,yINT]) (one 12 (by decide) (by decide) e hn) (fun e hn => ?_) (fun e => by simp only [take_stuck e]) (d2 := -49) (D2 := 1) (by decide) (by decide) (by decide)
  refine Sim.seq (a := [yINT]) (b := [gDots,yINT]) (one 3 (by decide) (by decide) e hn) (fun e hn => ?_) (fun e => by simp only [take_stuck e]) (d2 := -49) (D2 := 1) (by decide) (by decide) (by decide)
  exact Sim.seq (a := [gDots]) (b := [yINT]) (one 17 (by decide) (by decide) e hn) (fun e hn => one 3 (by decide) (by decide) e hn) (fun e => take_stuck e) (by decide) (by decide) (by decide)
 ·rw [if_neg (by decide),if_pos rfl]
  refine Sim.expand (next := [kList,yNAME,gEq,gOpen,yINT,yInts,gClose]) (by rw [hb];rfl) (d := -49) (D := 1) ?_ (by decide) (by decide)
  have st : ∀ {S : PSt},S.2 ≠ 0 → (pSer (pt T L) (pTok (pt T L) 3) S).2 = S := fun h => ser_stuck (fun S h => take_stuck h) h
  refine Sim.seq (a := [kList]) (b := [yNAME,gEq,gOpen,yINT,yInts,gClose]) s1 (fun e hn => ?_) (fun e => by simp only [take_stuck e,st e]) (d2 := -49) (D2 := 1) (by decide) (by decide) (by decide)
  refine Sim.seq (a := [yNAME]) (b := [gEq,gOpen,yINT,yInts,gClose]) (one 2 (by decide) (by decide) e hn) (fun e hn => ?_) (fun e => by simp only [take_stuck e,st e]) (d2 := -49) (D2 := 1) (by decide) (by decide) (by decide)
  refine Sim.seq (a := [gEq]) (b := [gOpen,yINT,yInts,gClose]) (one 14 (by decide) (by decide) e hn) (fun e hn => ?_) (fun e => by simp only [take_stuck e,st e]) (d2 := -49) (D2 := 1) (by decide) (by decide) (by decide)
  refine Sim.seq (a := [gOpen]) (b := [yINT,yInts,gClose]) (one 18 (by decide) (by decide) e hn) (fun e hn => ?_) (fun e => by simp only [take_stuck e,st e]) (d2 := -49) (D2 := 2) (by decide) (by decide) (by decide)
  exact Sim.seq (a := [yINT,yInts]) (b := [gClose]) (sim_ser hC yINT yInts (pTok (pt T L) 3) becInts (fun S e hn => (one 3 (by decide) (by decide) e hn).le (by decide) (by decide)) (fun S h => take_stuck h) (fun S => pTake_le) e hn) (fun e hn => one 19 (by decide) (by decide) e hn) (fun e => take_stuck e) (by decide) (by decide) (by decide)
 ·rw [if_neg (by decide),if_neg (by decide),if_neg (by decide),if_pos rfl]
  refine Sim.expand (next := [kLin,ySum,yINT]) (by rw [hb];rfl) (d := -49) (D := 1) ?_ (by decide) (by decide)
  exact Sim.seq (a := [kLin]) (b := [ySum,yINT]) s1 (fun e hn => sim_lin hC _ e hn) (fun e => lin_stuck e) (by decide) (by decide) (by decide)
 ·rw [if_neg (by decide),if_neg (by decide),if_pos rfl]
  refine Sim.expand (next := [kWhen,yNAME,gColon,ySum,yINT]) (by rw [hb];rfl) (d := -49) (D := 1) ?_ (by decide) (by decide)
  refine Sim.seq (a := [kWhen]) (b := [yNAME,gColon,ySum,yINT]) s1 (fun e hn => ?_) (fun e => by simp only [take_stuck e,lin_stuck e]) (d2 := -49) (D2 := 1) (by decide) (by decide) (by decide)
  refine Sim.seq (a := [yNAME]) (b := [gColon,ySum,yINT]) (one 2 (by decide) (by decide) e hn) (fun e hn => ?_) (fun e => by simp only [take_stuck e,lin_stuck e]) (d2 := -49) (D2 := 1) (by decide) (by decide) (by decide)
  exact Sim.seq (a := [gColon]) (b := [ySum,yINT]) (one 12 (by decide) (by decide) e hn) (fun e hn => sim_lin hC _ e hn) (fun e => lin_stuck e) (by decide) (by decide) (by decide)
 ·rw [if_neg (by decide),if_neg (by decide),if_neg (by decide),if_neg (by decide),if_pos rfl]
  refine Sim.expand (next := [kAt,yNAME,gOpen,yNAME,gClose,gEq,yNAME]) (by rw [hb];rfl) (d := -49) (D := 1) ?_ (by decide) (by decide)
  refine Sim.seq (a := [kAt]) (b := [yNAME,gOpen,yNAME,gClose,gEq,yNAME]) s1 (fun e hn => ?_) (fun e => by simp only [take_stuck e]) (d2 := -49) (D2 := 1) (by decide) (by decide) (by decide)
  refine Sim.seq (a := [yNAME]) (b := [gOpen,yNAME,gClose,gEq,yNAME]) (one 2 (by decide) (by decide) e hn) (fun e hn => ?_) (fun e => by simp only [take_stuck e]) (d2 := -49) (D2 := 1) (by decide) (by decide) (by decide)
  refine Sim.seq (a := [gOpen]) (b := [yNAME,gClose,gEq,yNAME]) (one 18 (by decide) (by decide) e hn) (fun e hn => ?_) (fun e => by simp only [take_stuck e]) (d2 := -49) (D2 := 1) (by decide) (by decide) (by decide)
  refine Sim.seq (a := [yNAME]) (b := [gClose,gEq,yNAME]) (one 2 (by decide) (by decide) e hn) (fun e hn => ?_) (fun e => by simp only [take_stuck e]) (d2 := -49) (D2 := 1) (by decide) (by decide) (by decide)
  refine Sim.seq (a := [gClose]) (b := [gEq,yNAME]) (one 19 (by decide) (by decide) e hn) (fun e hn => ?_) (fun e => by simp only [take_stuck e]) (d2 := -49) (D2 := 1) (by decide) (by decide) (by decide)
  exact Sim.seq (a := [gEq]) (b := [yNAME]) (one 14 (by decide) (by decide) e hn) (fun e hn => one 2 (by decide) (by decide) e hn) (fun e => take_stuck e) (by decide) (by decide) (by decide)
 ·rw [if_neg (by decide),if_neg (by decide),if_neg (by decide),if_neg (by decide),if_neg (by decide),if_pos rfl]
  refine Sim.expand (next := [kDiff,yNAME,yNames]) (by rw [hb];rfl) (d := -49) (D := 1) ?_ (by decide) (by decide)
  exact Sim.seq (a := [kDiff]) (b := [yNAME,yNames]) s1 (fun e hn => sim_ser hC yNAME yNames (pTok (pt T L) 2) becNames (fun S e hn => (one 2 (by decide) (by decide) e hn).le (by decide) (by decide)) (fun S h => take_stuck h) (fun S => pTake_le) e hn) (fun e => ser_stuck (fun S h => take_stuck h) e) (by decide) (by decide) (by decide)
 ·rw [if_neg (by decide),if_neg (by decide),if_neg (by decide),if_neg (by decide),if_neg (by decide),if_neg (by decide),if_pos rfl]
  refine Sim.expand (next := [kOr,yLit,yLits]) (by rw [hb];rfl) (d := -49) (D := 1) ?_ (by decide) (by decide)
  exact Sim.seq (a := [kOr]) (b := [yLit,yLits]) s1 (fun e hn => sim_ser hC yLit yLits (pLit (pt T L)) becLits (fun S e hn => sim_lit hC e hn) (fun S h => lit_stuck h) (fun S => (adv_lit _ S).1) e hn) (fun e => ser_stuck (fun S h => lit_stuck h) e) (by decide) (by decide) (by decide)
theorem parseF_stuck {toks : List PTok} {f : Nat} {acc : List GSt} {S : PSt} (h : S.2 ≠ 0) : parseF toks f acc S = (acc,S) := parseF_end (fun q => h q.1)
def FormEnd (L : Nat) (R : Int) (S : PSt) : Prop := (S.2 = 0 ∧ R = 0) ∨ (S.2 ≠ 0 ∧ R ≠ 0 ∧ flN L R = S.2)
theorem sim_model (hC : Cut T L) (f : Nat) : ∀ (acc : List GSt) (S : PSt),S.2 = 0 → S.1 ≤ T.length → T.length - S.1 < f → ∃ (k : Nat) (R : Int),(k : Int) ≤ 50 * ((T.length : Int) - S.1) + 10 ∧ formF k [yModel] (T.drop S.1) = some R ∧ FormEnd L R (parseF (pt T L) f acc S).2 := by
 induction f with
 | zero => intro acc S _ _ h;omega
 | succ f ih =>
  intro acc S h0 hi hf
  obtain ⟨ho,hso,hl0,hfl,hl1⟩ := at_hand hC hi
  by_cases ck : 4 ≤ srt (tkN (pt T L) S.1) ∧ srt (tkN (pt T L) S.1) ≤ 10
  ·have hkd : (hand (T.drop S.1)).kind = 107 := ho.kwd.2 (by rw [hso];exact ck)
   have hbec : becomes yModel (hand (T.drop S.1)).kind (hand (T.drop S.1)).s.toList = some [yStatement,gSemi,yModel] := by rw [hkd];rfl
   rw [parseF_more h0 (by omega)]
   have hs : Sim T L (-97) 2 [yStatement,gSemi] S.1 (pTake (pt T L) [11] (pStmt (pt T L) S).2) :=
    Sim.seq (a := [yStatement]) (b := [gSemi]) (sim_stmt hC h0 hi ck.1 ck.2) (fun e hn => sim_one hC 11 (by decide) (by decide) e hn) (fun e => take_stuck e) (by decide) (by decide) (by decide)
   rcases hs with ⟨e,hi',hn,k,hk,hr⟩ | ⟨e,k,R,hk,hR,hfR,hb⟩
   ·have hadv : S.1 < (pTake (pt T L) [11] (pStmt (pt T L) S).2).1 := by
     have := (adv_stmt (pt T L) S).trans (adv_take (pt T L) [11] _)
     have h1 := this.1
     have h2 : (pTake (pt T L) kwSorts S).1 = S.1 + 1 := by
      rw [pTake_sees h0]
      obtain ⟨j,hj⟩ : ∃ j,srt (tkN (pt T L) S.1) = j := ⟨_,rfl⟩
      rw [hj] at ck ⊢
      have : j = 4 ∨ j = 5 ∨ j = 6 ∨ j = 7 ∨ j = 8 ∨ j = 9 ∨ j = 10 := by omega
      rcases this with rfl | rfl | rfl | rfl | rfl | rfl | rfl <;> rfl
     omega
    obtain ⟨k',R,hk',hR,hE⟩ := ih (acc ++ [(pStmt (pt T L) S).1]) _ e hn (by omega)
    refine ⟨k' + k + 1,R,by omega,?_,hE⟩
    rw [formF_some hbec]
    have := hr k' [yModel]
    rw [show [yStatement,gSemi,yModel] ++ [] = [yStatement,gSemi] ++ [yModel] from rfl,this,hR]
   ·rw [parseF_stuck e]
    refine ⟨k + 1,R,by omega,?_,.inr ⟨e,hR,hfR⟩⟩
    rw [formF_some hbec]
    have := hb 0 [yModel]
    rw [Nat.zero_add] at this
    exact this
  ·have hkd : ¬ (hand (T.drop S.1)).kind = 107 := fun q => ck (by have := ho.kwd.1 q;rwa [hso] at this)
   have hbec : becomes yModel (hand (T.drop S.1)).kind (hand (T.drop S.1)).s.toList = some [] := by unfold becomes;rw [if_pos rfl,if_neg hkd]
   rcases Nat.lt_or_ge S.1 T.length with hlt | hge
   ·have hne : srt (tkN (pt T L) S.1) ≠ 1 := by
     intro q
     have := ho.eof.2 (hso.trans q)
     rw [hand_lt hlt] at this
     rcases hC.kind _ (List.getElem_mem hlt) with q | q | q | q <;> omega
    rw [parseF_more h0 hne]
    have hns : kwSorts.contains (srt (tkN (pt T L) S.1)) = false := by
     obtain ⟨j,hj⟩ : ∃ j,srt (tkN (pt T L) S.1) = j := ⟨_,rfl⟩
     rw [hj] at ck ⊢
     have e : j ≠ 4 ∧ j ≠ 5 ∧ j ≠ 6 ∧ j ≠ 7 ∧ j ≠ 8 ∧ j ≠ 9 ∧ j ≠ 10 := by omega
     simp [kwSorts,e.1,e.2.1,e.2.2.1,e.2.2.2.1,e.2.2.2.2.1,e.2.2.2.2.2.1,e.2.2.2.2.2.2]
    have hst : (pStmt (pt T L) S).2 = (S.1,((tkN (pt T L) S.1).line : Int)) := by
     have ht : pTake (pt T L) kwSorts S = (S.1,((tkN (pt T L) S.1).line : Int)) := by
      unfold pTake;rw [if_pos h0,hns];simp
     unfold pStmt
     simp only
     rw [if_neg (by omega),if_neg (by omega),if_neg (by omega),if_neg (by omega),if_neg (by omega),if_neg (by omega),if_neg (by omega),ht]
    have hs2 : (pStmt (pt T L) S).2.2 ≠ 0 := by rw [hst];simp only;omega
    rw [take_stuck hs2,parseF_stuck hs2]
    refine ⟨2,T[S.1].line,by omega,?_,.inr ⟨hs2,?_,?_⟩⟩
    ·rw [formF_some hbec,List.drop_eq_getElem_cons hlt];rfl
    ·have := hC.line _ (List.getElem_mem hlt);omega
    ·rw [hst,pt_lt hlt];unfold flN;rw [if_neg (by omega)]
   ·have e : S.1 = T.length := by omega
    rw [parseF_end (fun q => q.2 (by rw [e,pt_end,srt_end]))]
    refine ⟨2,0,by omega,?_,.inl ⟨h0,rfl⟩⟩
    rw [formF_some hbec,e,List.drop_length];rfl
theorem form_parse (hC : Cut T L) (hn : T.length ≤ 2000) : ∃ (k : Nat) (R : Int),k ≤ 1000000 ∧ formF k [yModel] T = some R ∧ FormEnd L R (pParse (pt T L)).2 := by
 obtain ⟨k,R,hk,hR,hE⟩ := sim_model hC ((pt T L).length + 1) [] (0,0) rfl (Nat.zero_le _) (by rw [pt_len];omega)
 exact ⟨k,R,by simp only at hk;omega,hR,hE⟩
end
section
variable {T : List PTok} {L : Nat}
def gP (g : GTerm) : PTerm := ⟨g.neg,if srt g.first = 3 then some g.first else none,g.name⟩
def gL (g : GLit) : PLit := ⟨if srt g.first = 22 then some g.first else none,g.name⟩
def gS (g : GSt) : RSt where
 tag := (srt g.kw - 4).toNat
 kw := g.kw
 a := g.name
 b := if srt g.kw = 4 then g.numbers.getD 0 zeroTok else if srt g.kw = 8 then g.names.getD 0 zeroTok else g.rel
 c := if srt g.kw = 4 then g.numbers.getD 1 zeroTok else if srt g.kw = 8 then g.names.getD 1 zeroTok else g.numbers.getD 0 zeroTok
 ts := g.terms.map gP
 ns := if srt g.kw = 5 then g.numbers else g.names
 ls := g.lits.map gL
structure GOk (g : GSt) : Prop where
 k4 : 4 ≤ srt g.kw
 k10 : srt g.kw ≤ 10
 n4 : srt g.kw = 4 → ∃ lo hi,g.numbers = [lo,hi] ∧ lo.kind = 105 ∧ hi.kind = 105
 n5 : srt g.kw = 5 → ∀ t ∈ g.numbers,t.kind = 105
 n6 : srt g.kw = 6 ∨ srt g.kw = 7 → ∃ M,g.numbers = [M] ∧ M.kind = 105
 n8 : srt g.kw = 8 → ∃ P Q,g.names = [P,Q]
 tm : ∀ t ∈ g.terms,srt t.first ≠ 3 → t.first = t.name
 lt : ∀ l ∈ g.lits,srt l.first ≠ 22 → l.first = l.name
 rl : srt g.kw = 6 ∨ srt g.kw = 7 → SrtOk g.rel ∧ (srt g.rel = 14 ∨ srt g.rel = 15 ∨ srt g.rel = 16)
structure Cut2 (T : List PTok) (L : Nat) : Prop extends Cut T L where
 ints : ∀ t ∈ T,t.kind = 105 → IsInt t.s
theorem took (hC : Cut2 T L) {S : PSt} (hi : S.1 ≤ T.length) {sorts : List Int} (hs : sorts.contains 1 = false) (h : (pTake (pt T L) sorts S).2 = 0) : S.2 = 0 ∧ S.1 < T.length ∧ sorts.contains (srt (tkN (pt T L) S.1)) = true ∧ pTake (pt T L) sorts S = (S.1 + 1,0) ∧ T[S.1]? = some (tkN (pt T L) S.1) ∧ SrtOk (tkN (pt T L) S.1) := by
 obtain ⟨ho,hso,hl0,hfl,hl1⟩ := at_hand hC.toCut hi
 unfold pTake at h ⊢
 by_cases c0 : S.2 = 0
 ·rw [if_pos c0] at h ⊢
  by_cases c : sorts.contains (srt (tkN (pt T L) S.1)) = true
  ·rw [if_pos c]
   have hlt : S.1 < T.length := by
    rcases Nat.lt_or_ge S.1 T.length with q | q
    ·exact q
    ·have e : S.1 = T.length := by omega
     rw [e,pt_end,srt_end,hs] at c;cases c
   refine ⟨c0,hlt,c,rfl,?_,?_⟩
   ·rw [pt_lt hlt];exact List.getElem?_eq_getElem hlt
   ·rw [pt_lt hlt,← hand_lt hlt];exact ho
  ·rw [if_neg c] at h;simp only at h;omega
 ·rw [if_neg c0] at h;exact absurd h c0
theorem took1 (hC : Cut2 T L) {S : PSt} (hi : S.1 ≤ T.length) (k : Int) (hk : 2 ≤ k) (h : (pTake (pt T L) [k] S).2 = 0) : S.2 = 0 ∧ S.1 < T.length ∧ srt (tkN (pt T L) S.1) = k ∧ pTake (pt T L) [k] S = (S.1 + 1,0) ∧ T[S.1]? = some (tkN (pt T L) S.1) ∧ SrtOk (tkN (pt T L) S.1) := by
 obtain ⟨a,b,c,d⟩ := took hC hi (sorts := [k]) (by simp;omega) h
 exact ⟨a,b,by simpa using c,d⟩
theorem isInt_at (hC : Cut2 T L) {i : Nat} {t : PTok} (h : T[i]? = some t) (hk : t.kind = 105) : IsInt t.s := hC.ints t (List.mem_of_getElem? h) hk
theorem took_term (hC : Cut2 T L) {neg : Bool} {S : PSt} (hi : S.1 ≤ T.length) (h : (pTerm (pt T L) neg S).2.2 = 0) : S.2 = 0 ∧ TermAt T S.1 (gP (pTerm (pt T L) neg S).1) (pTerm (pt T L) neg S).2.1 ∧ S.1 < (pTerm (pt T L) neg S).2.1 ∧ (pTerm (pt T L) neg S).2.1 ≤ T.length ∧ (pTerm (pt T L) neg S).1.neg = neg ∧ (srt (pTerm (pt T L) neg S).1.first ≠ 3 → (pTerm (pt T L) neg S).1.first = (pTerm (pt T L) neg S).1.name) := by
 unfold pTerm at h ⊢
 by_cases c : srt (tkN (pt T L) S.1) = 3
 ·rw [if_pos c] at h ⊢
  simp only at h ⊢
  have a2 := (adv_take (pt T L) [2] (pTake (pt T L) [21] (pTake (pt T L) [3,2] S))).2 h
  have a1 := (adv_take (pt T L) [21] (pTake (pt T L) [3,2] S)).2 a2
  obtain ⟨b0,b1,b2,b3,b4,b5⟩ := took hC hi (sorts := [3,2]) rfl a1
  rw [b3] at a2 h ⊢
  obtain ⟨c0,c1,c2,c3,c4,c5⟩ := took1 hC (S := (S.1 + 1,0)) (by show S.1 + 1 ≤ _;omega) 21 (by decide) a2
  rw [c3] at h ⊢
  obtain ⟨d0,d1,d2,d3,d4,d5⟩ := took1 hC (S := (S.1 + 1 + 1,0)) (by show S.1 + 1 + 1 ≤ _;exact c1) 2 (by decide) h
  rw [d3]
  refine ⟨b0,?_,by simp only;omega,d1,by trivial,fun q => absurd c q⟩
  have hk : (tkN (pt T L) S.1).kind = 105 := b5.int.2 c
  unfold TermAt gP
  simp only [c,if_true]
  exact ⟨b4,hk,isInt_at hC b4 hk,d4,by trivial⟩
 ·rw [if_neg c] at h ⊢
  simp only at h ⊢
  obtain ⟨b0,b1,b2,b3,b4,b5⟩ := took hC hi (sorts := [3,2]) rfl h
  rw [b3]
  refine ⟨b0,?_,by simp only;omega,b1,by trivial,fun _ => by trivial⟩
  have hk : ¬ (tkN (pt T L) S.1).kind = 105 := fun q => c (b5.int.1 q)
  unfold TermAt gP
  simp only [c,if_false]
  exact ⟨b4,hk,by trivial⟩
theorem took_lit (hC : Cut2 T L) {S : PSt} (hi : S.1 ≤ T.length) (h : (pLit (pt T L) S).2.2 = 0) : S.2 = 0 ∧ LitAt T S.1 (gL (pLit (pt T L) S).1) (pLit (pt T L) S).2.1 ∧ S.1 < (pLit (pt T L) S).2.1 ∧ (pLit (pt T L) S).2.1 ≤ T.length ∧ (srt (pLit (pt T L) S).1.first ≠ 22 → (pLit (pt T L) S).1.first = (pLit (pt T L) S).1.name) := by
 unfold pLit at h ⊢
 by_cases c : srt (tkN (pt T L) S.1) = 22
 ·rw [if_pos c] at h ⊢
  simp only at h ⊢
  have a1 := (adv_take (pt T L) [2] (pTake (pt T L) [22,2] S)).2 h
  obtain ⟨b0,b1,b2,b3,b4,b5⟩ := took hC hi (sorts := [22,2]) rfl a1
  rw [b3] at h ⊢
  obtain ⟨d0,d1,d2,d3,d4,d5⟩ := took1 hC (S := (S.1 + 1,0)) (by show S.1 + 1 ≤ _;omega) 2 (by decide) h
  rw [d3]
  refine ⟨b0,?_,by simp only;omega,d1,fun q => absurd c q⟩
  unfold LitAt gL
  simp only [c,if_true]
  exact ⟨b4,(b5.byt 22 (by decide) (by decide)).2 c,d4,by trivial⟩
 ·rw [if_neg c] at h ⊢
  simp only at h ⊢
  obtain ⟨b0,b1,b2,b3,b4,b5⟩ := took hC hi (sorts := [22,2]) rfl h
  rw [b3]
  refine ⟨b0,?_,by simp only;omega,b1,fun _ => by trivial⟩
  unfold LitAt gL
  simp only [c,if_false]
  exact ⟨b4,fun q => c ((b5.byt 22 (by decide) (by decide)).1 q),by trivial⟩
theorem not_sees {S : PSt} {k : Int} (h0 : S.2 = 0) (h : ¬ pSees (pt T L) k S = true) : srt (tkN (pt T L) S.1) ≠ k := by
 unfold pSees at h;simp [h0] at h;exact h
theorem took_sumF (hC : Cut2 T L) (f : Nat) : ∀ (acc : List GTerm) (S : PSt),S.1 ≤ T.length → T.length - S.1 < f → (sumF (pt T L) f acc S).2.2 = 0 → ∃ r,(sumF (pt T L) f acc S).1 = acc ++ r ∧ S.2 = 0 ∧ TermsAt T S.1 (r.map gP) (sumF (pt T L) f acc S).2.1 ∧ S.1 ≤ (sumF (pt T L) f acc S).2.1 ∧ (sumF (pt T L) f acc S).2.1 ≤ T.length ∧
   srt (tkN (pt T L) (sumF (pt T L) f acc S).2.1) ≠ 20 ∧ srt (tkN (pt T L) (sumF (pt T L) f acc S).2.1) ≠ 23 ∧ ∀ t ∈ r,srt t.first ≠ 3 → t.first = t.name := by
 induction f with
 | zero => intro acc S _ h;omega
 | succ f ih =>
  intro acc S hi hf h
  simp only [sumF] at h ⊢
  by_cases c : (pSees (pt T L) 20 S || pSees (pt T L) 23 S) = true
  ·rw [if_pos c] at h ⊢
   have hz1 := (adv_sumF (pt T L) f (acc ++ [(pTerm (pt T L) (srt (tkN (pt T L) S.1) == 23) (pTake (pt T L) [20,23] S)).1]) _).2 h
   have hz2 := (adv_term (pt T L) (srt (tkN (pt T L) S.1) == 23) (pTake (pt T L) [20,23] S)).2 hz1
   obtain ⟨b0,b1,b2,b3,b4,b5⟩ := took hC hi (sorts := [20,23]) rfl hz2
   rw [b3] at h hz1 ⊢
   obtain ⟨t0,t1,t2,t3,t4,t5⟩ := took_term hC (S := (S.1 + 1,0)) (by show S.1 + 1 ≤ _;omega) hz1
   simp only at t2
   obtain ⟨r,e1,e2,e3,e4,e5,e6,e7,e8⟩ := ih (acc ++ [(pTerm (pt T L) (srt (tkN (pt T L) S.1) == 23) (S.1 + 1,0)).1]) _ t3 (by omega) h
   refine ⟨(pTerm (pt T L) (srt (tkN (pt T L) S.1) == 23) (S.1 + 1,0)).1 :: r,by rw [e1,List.append_assoc];rfl,b0,?_,by omega,e5,e6,e7,?_⟩
   ·rw [List.map_cons]
    refine ⟨tkN (pt T L) S.1,_,b4,?_,t1,e3⟩
    show _ = if (pTerm (pt T L) (srt (tkN (pt T L) S.1) == 23) (S.1 + 1,0)).1.neg then [45] else [43]
    rw [t4]
    by_cases q : srt (tkN (pt T L) S.1) = 23
    ·rw [q];exact (b5.byt 23 (by decide) (by decide)).2 q
    ·have q' : srt (tkN (pt T L) S.1) = 20 := by
      have : srt (tkN (pt T L) S.1) = 20 ∨ srt (tkN (pt T L) S.1) = 23 := by simpa using b2
      rcases this with q' | q'
      ·exact q'
      ·exact absurd q' q
     rw [q'];exact (b5.byt 20 (by decide) (by decide)).2 q'
   ·intro t ht
    rcases List.mem_cons.1 ht with rfl | ht
    ·exact t5
    ·exact e8 t ht
  ·rw [if_neg c] at h ⊢
   have h20 : ¬ pSees (pt T L) 20 S = true := fun q => c (by rw [q];rfl)
   have h23 : ¬ pSees (pt T L) 23 S = true := fun q => c (by rw [q];simp)
   exact ⟨[],by simp,h,rfl,Nat.le_refl _,hi,not_sees h h20,not_sees h h23,fun t ht => by simp at ht⟩
theorem took_lin (hC : Cut2 T L) {g : GSt} {S : PSt} (hi : S.1 ≤ T.length) (h : (pLin (pt T L) g S).2.2 = 0) : S.2 = 0 ∧ ∃ num,(pLin (pt T L) g S).1.numbers = [num] ∧ num.kind = 105 ∧ SumAt T S.1 ((pLin (pt T L) g S).1.terms.map gP) (pLin (pt T L) g S).1.rel num (pLin (pt T L) g S).2.1 ∧ S.1 < (pLin (pt T L) g S).2.1 ∧ (pLin (pt T L) g S).2.1 ≤ T.length ∧ (∀ t ∈ (pLin (pt T L) g S).1.terms,srt t.first ≠ 3 → t.first = t.name) ∧ SrtOk (pLin (pt T L) g S).1.rel ∧ (srt (pLin (pt T L) g S).1.rel = 14 ∨ srt (pLin (pt T L) g S).1.rel = 15 ∨ srt (pLin (pt T L) g S).1.rel = 16) := by
 unfold pLin at h ⊢
 simp only at h ⊢
 have a2 := (adv_take (pt T L) [3] (pTake (pt T L) [14,15,16] (pSum (pt T L) S).2)).2 h
 have a1 := (adv_take (pt T L) [14,15,16] (pSum (pt T L) S).2).2 a2
 have a0 : (pTerm (pt T L) false S).2.2 = 0 := (adv_sumF (pt T L) _ _ _).2 a1
 obtain ⟨t0,t1,t2,t3,t4,t5⟩ := took_term hC hi a0
 obtain ⟨r,e1,e2,e3,e4,e5,e6,e7,e8⟩ := took_sumF hC (pt T L).length [(pTerm (pt T L) false S).1] _ t3 (by rw [pt_len];omega) a1
 change (pSum (pt T L) S).1 = _ at e1
 change (pTerm (pt T L) false S).2.1 ≤ (pSum (pt T L) S).2.1 at e4
 change (pSum (pt T L) S).2.1 ≤ _ at e5
 change srt (tkN (pt T L) (pSum (pt T L) S).2.1) ≠ 20 at e6
 change srt (tkN (pt T L) (pSum (pt T L) S).2.1) ≠ 23 at e7
 change TermsAt T _ _ (pSum (pt T L) S).2.1 at e3
 obtain ⟨b0,b1,b2,b3,b4,b5⟩ := took hC e5 (sorts := [14,15,16]) rfl a2
 rw [b3] at h ⊢
 obtain ⟨c0,c1,c2,c3,c4,c5⟩ := took1 hC (S := ((pSum (pt T L) S).2.1 + 1,0)) (by show _ + 1 ≤ _;omega) 3 (by decide) h
 rw [c3]
 simp only at c4 c5 c2
 have hk := c5.int.2 c2
 refine ⟨t0,_,rfl,hk,?_,by simp only;omega,c1,?_,b5,by simpa using b2⟩
 ·refine ⟨gP (pTerm (pt T L) false S).1,r.map gP,_,(pSum (pt T L) S).2.1,by rw [e1];rfl,t1,t4,e3,by omega,b4,?_,?_,c4,isInt_at hC c4 hk,rfl⟩
  ·exact fun q => e6 ((b5.byt 20 (by decide) (by decide)).1 q)
  ·exact fun q => e7 ((b5.byt 23 (by decide) (by decide)).1 q)
 ·intro t ht
  rw [e1] at ht
  rcases List.mem_append.1 ht with ht | ht
  ·obtain rfl : t = _ := by simpa using ht
   exact t5
  ·exact e8 t ht
def GSer {α : Type} (T : List PTok) (At : Nat → α → Nat → Prop) : Nat → List α → Nat → Prop
 | i,[],j => i = j
 | i,a :: l,j => (∃ c,T[i]? = some c ∧ c.s.toList = [44]) ∧ ∃ m,At (i + 1) a m ∧ GSer T At m l j
theorem took_serF {α : Type} (hC : Cut2 T L) (one : PSt → α × PSt) (At : Nat → α → Nat → Prop) (Q : α → Prop) (hadv : ∀ S,Adv S (one S).2) (hone : ∀ S : PSt,S.1 ≤ T.length → (one S).2.2 = 0 → S.2 = 0 ∧ At S.1 (one S).1 (one S).2.1 ∧ S.1 < (one S).2.1 ∧ (one S).2.1 ≤ T.length ∧ Q (one S).1) (f : Nat) : ∀ (acc : List α) (S : PSt),S.1 ≤ T.length → T.length - S.1 < f → (serF (pt T L) one f acc S).2.2 = 0 → ∃ r,(serF (pt T L) one f acc S).1 = acc ++ r ∧ S.2 = 0 ∧ GSer T At S.1 r (serF (pt T L) one f acc S).2.1 ∧ S.1 ≤ (serF (pt T L) one f acc S).2.1 ∧ (serF (pt T L) one f acc S).2.1 ≤ T.length ∧
   srt (tkN (pt T L) (serF (pt T L) one f acc S).2.1) ≠ 13 ∧ ∀ t ∈ r,Q t := by
 induction f with
 | zero => intro acc S _ h;omega
 | succ f ih =>
  intro acc S hi hf h
  simp only [serF] at h ⊢
  by_cases c : pSees (pt T L) 13 S = true
  ·rw [if_pos c] at h ⊢
   have hz1 := (adv_serF (pt T L) one hadv f (acc ++ [(one (pTake (pt T L) [13] S)).1]) _).2 h
   have hz2 := (hadv (pTake (pt T L) [13] S)).2 hz1
   obtain ⟨b0,b1,b2,b3,b4,b5⟩ := took1 hC hi 13 (by decide) hz2
   rw [b3] at h hz1 ⊢
   obtain ⟨t0,t1,t2,t3,t4⟩ := hone (S.1 + 1,0) (by show S.1 + 1 ≤ _;omega) hz1
   simp only at t2
   obtain ⟨r,e1,e2,e3,e4,e5,e6,e7⟩ := ih (acc ++ [(one (S.1 + 1,0)).1]) _ t3 (by omega) h
   refine ⟨(one (S.1 + 1,0)).1 :: r,by rw [e1,List.append_assoc];rfl,b0,⟨⟨_,b4,(b5.byt 13 (by decide) (by decide)).2 b2⟩,_,t1,e3⟩,by omega,e5,e6,?_⟩
   intro t ht
   rcases List.mem_cons.1 ht with rfl | ht
   ·exact t4
   ·exact e7 t ht
  ·rw [if_neg c] at h ⊢
   exact ⟨[],by simp,h,rfl,Nat.le_refl _,hi,not_sees h c,fun t ht => by simp at ht⟩
theorem took_ser {α : Type} (hC : Cut2 T L) (one : PSt → α × PSt) (At : Nat → α → Nat → Prop) (Q : α → Prop) (hadv : ∀ S,Adv S (one S).2) (hone : ∀ S : PSt,S.1 ≤ T.length → (one S).2.2 = 0 → S.2 = 0 ∧ At S.1 (one S).1 (one S).2.1 ∧ S.1 < (one S).2.1 ∧ (one S).2.1 ≤ T.length ∧ Q (one S).1) {S : PSt} (hi : S.1 ≤ T.length) (h : (pSer (pt T L) one S).2.2 = 0) : ∃ a r m,(pSer (pt T L) one S).1 = a :: r ∧ S.2 = 0 ∧ At S.1 a m ∧ GSer T At m r (pSer (pt T L) one S).2.1 ∧ S.1 < (pSer (pt T L) one S).2.1 ∧ (pSer (pt T L) one S).2.1 ≤ T.length ∧ srt (tkN (pt T L) (pSer (pt T L) one S).2.1) ≠ 13 ∧ ∀ t ∈ a :: r,Q t := by
 unfold pSer at h ⊢
 have hz := (adv_serF (pt T L) one hadv (pt T L).length [(one S).1] _).2 h
 obtain ⟨t0,t1,t2,t3,t4⟩ := hone S hi hz
 obtain ⟨r,e1,e2,e3,e4,e5,e6,e7⟩ := took_serF hC one At Q hadv hone (pt T L).length [(one S).1] _ t3 (by rw [pt_len];omega) h
 refine ⟨(one S).1,r,_,by rw [e1];rfl,t0,t1,e3,by omega,e5,e6,?_⟩
 intro t ht
 rcases List.mem_cons.1 ht with rfl | ht
 ·exact t4
 ·exact e7 t ht
def TokAt1 (T : List PTok) (i : Nat) (t : PTok) (j : Nat) : Prop := T[i]? = some t ∧ j = i + 1
theorem ser_toks {i j : Nat} {l : List PTok} (h : GSer T (TokAt1 T) i l j) : SerAt T i l j := by
 induction l generalizing i with
 | nil => exact h
 | cons a l ih =>
  obtain ⟨h1,m,⟨h2,rfl⟩,h3⟩ := h
  exact ⟨h1,h2,ih h3⟩
theorem ser_lits {i j : Nat} {l : List GLit} (h : GSer T (fun i a j => LitAt T i (gL a) j) i l j) : SerLit T i (l.map gL) j := by
 induction l generalizing i with
 | nil => exact h
 | cons a l ih =>
  obtain ⟨h1,m,h2,h3⟩ := h
  exact ⟨h1,m,h2,ih h3⟩
theorem took_tok (hC : Cut2 T L) (k : Int) (hk : 2 ≤ k) (S : PSt) (hi : S.1 ≤ T.length) (h : (pTok (pt T L) k S).2.2 = 0) : S.2 = 0 ∧ TokAt1 T S.1 (pTok (pt T L) k S).1 (pTok (pt T L) k S).2.1 ∧ S.1 < (pTok (pt T L) k S).2.1 ∧ (pTok (pt T L) k S).2.1 ≤ T.length ∧ (SrtOk (pTok (pt T L) k S).1 ∧ srt (pTok (pt T L) k S).1 = k) := by
 obtain ⟨a,b,c,d,e,f⟩ := took1 hC hi k hk h
 unfold pTok
 rw [d]
 exact ⟨a,⟨e,rfl⟩,by simp only;omega,b,f,c⟩
theorem peek_no (hC : Cut2 T L) {j : Nat} (hj : j ≤ T.length) (h : srt (tkN (pt T L) j) ≠ 13) : (peekS T j).toList ≠ [44] := by
 unfold peekS
 rcases Nat.lt_or_ge j T.length with q | q
 ·rw [List.getElem?_eq_getElem q]
  have ho := lk_srt (hC.kind _ (List.getElem_mem q))
  rw [pt_lt q] at h
  exact fun e => h ((ho.byt 13 (by decide) (by decide)).1 e)
 ·rw [List.getElem?_eq_none q]
  show ByteArray.toList ⟨#[]⟩ ≠ [44]
  rw [show (⟨#[]⟩ : ByteArray) = ByteArray.empty from rfl,empty_toList];decide
end
end Go.Proofs.YthpcbbnabnlanaaGreatDoor
