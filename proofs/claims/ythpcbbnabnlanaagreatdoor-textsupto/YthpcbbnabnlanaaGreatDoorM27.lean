import Derived.Test.YthpcbbnabnlanaaGreatDoorM02
import Derived.Test.YthpcbbnabnlanaaGreatDoorM22
import Derived.Test.YthpcbbnabnlanaaGreatDoorM25
import Derived.Test.YthpcbbnabnlanaaGreatDoorM26
import Derived.Deep.OwnRows
import Derived.Deep.RegionLaw
import Derived.Deep.Cut
import Derived.Deep.RegionHeld3
import Derived.Deep.LoopGhost
import Derived.Deep.AppendLies
namespace Go.Proofs.YthpcbbnabnlanaaGreatDoor
open Go.RowKit
set_option linter.unusedVariables false
set_option linter.unusedSimpArgs false
section
set_option maxHeartbeats 4000000
set_option maxRecDepth 100000
variable {w w' w1 : World} {B bw c : Nat} {V : LV} {D : LD} {K : Keep → Prop}
theorem infoSl : (Tryz.prog.info? 37).map (fun i => (i.zero,i.size,i.bytes)) = some (some (.slice none 0 0),1,24) := by kernel_rfl
theorem infoSt9 : (Tryz.prog.info? 9).map (fun i => (i.zero,i.size,i.bytes)) = some (some (.string .empty),1,16) := by kernel_rfl
theorem sl_one (a : Option Addr) (n c : Nat) : ∀ u ∈ [Value.slice a n c],u.oneCell' = true := by
 intro u hu;simp only [List.mem_cons,List.not_mem_nil,or_false] at hu;subst hu;rfl
theorem st_one (s : ByteArray) : ∀ u ∈ [Value.string s],u.oneCell' = true := by
 intro u hu;simp only [List.mem_cons,List.not_mem_nil,or_false] at hu;subst hu;rfl
theorem grown_below {w w' : World} (h : Below w.heap.size w w') : w.grownBy w' none := ⟨h.os,h.tape,h.output,h.size,fun k hk _ => h.block k hk⟩
def TxA (w : World) (B bw g cap n c : Nat) (V : LV) (D : LD) (K : Keep → Prop) (e : TypeId) (mark : Value) (vi : Value) (wr : World) : Prop :=
 ∃ (i : Nat) (xs : List Value),i ≤ n ∧ vi = .int .i64 i ∧ xs.take i = List.replicate i mark ∧ wr.ownsRow B e 1 (.slice (some ⟨g,0,none⟩) n cap) n xs ∧ LW wr B bw V D c K ∧ (∀ k,k < w.heap.size → Free bw V k → k ≠ g → wr.heap[k]? = w.heap[k]?) ∧ FrB B bw w wr
def TxB (w : World) (B bw g n c : Nat) (V : LV) (D : LD) (K : Keep → Prop) (ri : Nat) (e : TypeId) (mark : Value) (vl vi : Value) (wr : World) : Prop :=
 ∃ (i gi cap : Nat) (V1 : LV) (D1 : LD) (L : List LP),i ≤ 65 ∧ vi = .int .i64 i ∧ vl = .slice (some ⟨gi,0,none⟩) (n + i) cap ∧ L.length ≤ i ∧ Tx w wr B bw g c V D K ri e V1 D1 L gi cap (n + i) mark
theorem take_set {xs : List Value} {i n : Nat} {mark : Value} (hl : xs.length = n) (hi : i < n) (h : xs.take i = List.replicate i mark) : (xs.set i mark).take (i + 1) = List.replicate (i + 1) mark := by
 have e1 : (xs.set i mark)[i]? = some mark := by simp [hl,hi]
 rw [List.take_add_one,e1,List.take_set_of_le (Nat.le_refl i),h,List.replicate_succ']
 simp
theorem TxA.step {g cap n i : Nat} {e : TypeId} {mark : Value} {xs : List Value} {wr : World} (hi : i < n) (hxs : xs.take i = List.replicate i mark) (hown : wr.ownsRow B e 1 (.slice (some ⟨g,0,none⟩) n cap) n xs) (hlw : LW wr B bw V D c K) (hb : ∀ k,k < w.heap.size → Free bw V k → k ≠ g → wr.heap[k]? = w.heap[k]?) (hfr : FrB B bw w wr) (hf : Free bw V g) (hk : ∀ x,K x → g ∉ x.S) (hB : B ≤ g) : TxA w B bw g cap n c V D K e mark (.int .i64 ((i : Int) + 1)) (wr.setCell ⟨g,i,none⟩ mark) := by
 have hl : xs.length = n := by simpa using hown.1
 have hst := hown.stored i mark
 have hg := grown_set wr g i mark
 refine ⟨i + 1,xs.set i mark,by omega,by simp,take_set hl hi hxs,hst.1,hlw.frame (S := [g]) (But.of_grown hg (fun k e => by cases e;simp)) (fun k hk' => ?_),fun k h1 h2 h3 => ?_,hfr.grown hlw.hB hg (fun k e => by cases e;exact .inr hB)⟩
 ·simp only [List.mem_cons,List.not_mem_nil,or_false] at hk';subst hk';exact ⟨hf,hk⟩
 ·exact (hg.block k (Nat.lt_of_lt_of_le h1 hfr.size) (fun e => h3 (Option.some.inj e))).trans (hb k h1 h2 h3)
theorem TxA.last {g cap n : Nat} {e : TypeId} {mark : Value} {xs : List Value} {wr : World} (ri : Nat) (hxs : xs.take n = List.replicate n mark) (hown : wr.ownsRow B e 1 (.slice (some ⟨g,0,none⟩) n cap) n xs) (hlw : LW wr B bw V D c K) (hb : ∀ k,k < w.heap.size → Free bw V k → k ≠ g → wr.heap[k]? = w.heap[k]?) (hfr : FrB B bw w wr) (hf : Free bw V g) (hk : ∀ x,K x → g ∉ x.S) : TxB w B bw g n c V D K ri e mark (.slice (some ⟨g,0,none⟩) n cap) (.int .i64 0) wr := by
 have hl : xs.length = n := by simpa using hown.1
 rw [List.take_of_length_le (by omega)] at hxs
 subst hxs
 exact ⟨0,g,cap,V,D,[],by omega,rfl,rfl,by simp,hlw,rfl,hown,.inl rfl,hf,hk,fun x hx => by simp at hx,fun k _ f => f,hb,hfr⟩
theorem law_texts (h : LW w B bw V D c K) {g n cap : Nat} {xs : List Value} (hl : w.ownsRow B 9 1 (.slice (some ⟨g,0,none⟩) n cap) n xs) (hf : Free bw V g) (hk : ∀ x,K x → g ∉ x.S) (hn : n ≤ 2000000) (hc : c ≤ 100000000000) (hcn : ∀ i,i < 7 → D.cnt i ≤ 100000000000) : Calls Tryz.prog 56 #[.pointer (some ⟨bw,0,none⟩),.slice (some ⟨g,0,none⟩) n cap] w fun e w' => e = .returned (.tuple #[]) ∧ ∃ V' K' L t,LW w' B bw V' (pushAll D 1 L) (c + 1) K' ∧ Went w w' B bw g V V' K K' ∧ L.length ≤ 65 ∧ ∀ x ∈ L,K' (lstKeep x) ∧ x.mark = .string t ∧ x.len ≤ n + 65 := by
 obtain ⟨i1,hi1,hy0,hy1,hy2⟩ := info_parts infoSl
 obtain ⟨i2,hi2,hz0,hz1,hz2⟩ := info_parts infoSt9
 have hBg : B ≤ g := (hl.lt g rfl).1
 have hgl : g < w.heap.size := (hl.lt g rfl).2
 have hBw := h.hB
 have hbl := h.slt
 have hgw : g ≠ bw := hf.1
 have HKS := hide (fun x hx k hk => ((h.kp x hx).2 k hk).1 : ∀ x,K x → ∀ k ∈ x.S,k < w.heap.size)
 have HF := hide hf
 have HK := hide hk
 have c7 : w.cell? ⟨bw,7,none⟩ = some (.int .i64 c) := cell_of h.blk 7 _ rfl
 have f7 : w.frozen? ⟨bw,7,none⟩ = false := frozen_of h.blk 7
 have hcnt := h.count (c + 1)
 have ec : ((c + 1 : Nat) : Int) = (c : Int) + 1 := by omega
 rw [ec] at hcnt
 have HC := hide hcnt
 have c8 : (w.setCell ⟨bw,7,none⟩ (.int .i64 ((c : Int) + 1))).cell? ⟨bw,7,none⟩ = some (.int .i64 ((c : Int) + 1)) := by
  have := cell_of hcnt.blk 7 (.int .i64 ((c + 1 : Nat) : Int)) rfl;rw [ec] at this;exact this
 have HL := hide (hl.kept (grown_set w bw 7 (.int .i64 ((c : Int) + 1))) (.inr (fun e => hgw (by simpa [Value.ownBlock] using e))))
 have KW := Kept.mk (fun W => law_word ((c : Int) + 1) W (by omega) (by omega))
 have hcn1 := hcn 1 (by omega)
 have hcn2 := hcn 2 (by omega)
 clear h hl hcnt hf hk ec hcn
 go_enter Tryz.func56,Tryz.ntmps56
 go_wp2_with (go_at_call 104;refine (KW.get _).mono ?_;rintro e w1 ⟨t,rfl,ht,hb⟩)
 have hg1 := grown_below hb
 have HA : Hid (TxA w B bw g cap n (c + 1) V D K 9 (.string t) (.int .i64 0) w1) := by
  refine ⟨0,_,by omega,rfl,by simp,HL.out.kept hg1 (own_none _),HC.out.grown hg1,fun k h1 h2 h3 => ?_,((FrB.refl B bw w).grown hBw (grown_set w bw 7 _) (fun k e => by cases e;exact .inl rfl)).grown HC.out.hB hg1 (fun k e => by cases e)⟩
  exact (hg1.block k (Nat.lt_of_lt_of_le h1 (grown_set w bw 7 _).size) (by simp)).trans ((grown_set w bw 7 _).block k h1 (fun e => h2.1 (Option.some.inj e)))
 clear HL HC hb hg1 c7 f7 c8
 go_loopw [5] (fun vi wr => TxA w B bw g cap n (c + 1) V D K 9 (.string t) vi wr) (fun vi _ => n - (intOf vi).toNat)
 case atStart => exact HA.out
 case round =>
  clear HA
  obtain ⟨i,xs,hi,rfl,hxs,hown,hlw,hwb,hfr⟩ := hrel
  have hxl : xs.length = n := by simpa using hown.1
  by_cases hlt : i < n
  ·have hlt3 : (i : Int) < n := by omega
   have h03 : (0 : Int) ≤ i := by omega
   have k1 : wr.cell? ⟨g,i,none⟩ = some (xs[i]'(by omega)) := by rw [hown.cellAt i (by omega)];simp [hxl,hlt]
   have k2 := hown.frozenAt i
   have HN := hide (TxA.step hlt hxs hown hlw hwb hfr HF.out HK.out hBg)
   clear hown hxs hlw hwb hfr
   go_wp2
   go_roundw
   case rel => exact HN.out
   case measure => simp [intOf];omega
  ·obtain rfl : n = i := by omega
   have HB := hide (TxA.last 1 hxs hown hlw hwb hfr HF.out HK.out)
   clear hown hxs hlw hwb hfr
   go_wp2
   go_loopw [1,6] (fun vl vi wr => TxB w B bw g n (c + 1) V D K 1 9 (.string t) vl vi wr) (fun _ vi _ => 65 - (intOf vi).toNat)
   case atStart => exact HB.out
   case round =>
    clear HB
    obtain ⟨i,gi,cap',V1,D1,L,hi,rfl,rfl,hLl,hT⟩ := hrel
    by_cases h65 : i ≤ 64
    ·have h65' : (i : Int) ≤ 64 := by omega
     by_cases h3 : i < 3
     ·have h3' : (i : Int) < 3 := by omega
      obtain ⟨na,nc,en⟩ := own_slice_n (hT.lw.own 1 (by omega))
      obtain ⟨ka,kc,ek⟩ := own_slice_n (hT.lw.own 2 (by omega))
      have o1 : wr.ownsRow B 37 1 (.slice na (D1.cnt 1) nc) (D1.cnt 1) (D1.cells 1) := by rw [← en];exact hT.lw.own 1 (by omega)
      have m1 : wr.cell? ⟨bw,1,none⟩ = some (.slice na (D1.cnt 1) nc) := by rw [← en];exact cell_of hT.lw.blk 1 _ rfl
      have hc1 : D1.cnt 1 ≤ D.cnt 1 + L.length := by rw [hT.d];exact pushAll_cnt D (.inl rfl) L 1 (by omega)
      have hc2 : D1.cnt 2 ≤ D.cnt 2 + L.length := by rw [hT.d];exact pushAll_cnt D (.inl rfl) L 2 (by omega)
      have HT := hide hT
      have HEN := hide en
      have HEK := hide ek
      have hsz := hT.lw.hB
      have hsl := hT.lw.slt
      clear hT en ek
      go_wp2_with (at_builtin;refine wpList_append_two rfl _ _ 56 rfl B 37 i1 (.slice none 0 0) 1 24 Tryz.underlying56 hi1 hy0 hy1 hy2 rfl (by decide) _ _ _ rfl (o1.alloc _) ⟨wr.heap.size,0,none⟩ 1 1 [.slice (some ⟨gi,0,none⟩) (n + i) cap'] rfl rfl (World.news_of_block (heap_alloc_new _ _)) (sl_one _ _ _) ?c3 ?c4 ?c5 ?_)
      case c3 => unfold maxLen;omega
      case c4 => omega
      case c5 => simp;omega
      intro v1 w2 ho1 hg1
      have ga1 := hg1
      rw [← HEN.out] at ga1
      have l1 := (HT.out.lw.alloc _).push (D' := D1.pl 1 ⟨gi,n + i,cap',.string t⟩) (i := 1) (by omega) ho1 ga1 (fun j hj => pl_cnt _ _ (.inl rfl) hj) (fun j hj => pl_cells _ _ (.inl rfl) hj)
      obtain ⟨xa,xm,xc,rfl⟩ := own_slice ho1
      have f2 : w2.frozen? ⟨bw,1,none⟩ = false := frozen_of ((hg1.by.block bw (by simp;omega) (fun e => by have := (o1.lt bw e.symm).1;have := HT.out.lw.lt;omega)).trans (heap_alloc_old wr _ hsl |>.trans HT.out.lw.blk)) 1
      have m2 : w2.cell? ⟨bw,1,none⟩ = some (.slice na (D1.cnt 1) nc) := hg1.by.cell ((World.grownBy_alloc wr _ none).cell m1 (by simp)) (fun e => by have := (o1.lt bw e.symm).1;have := HT.out.lw.lt;omega)
      have o2 : (w2.setCell ⟨bw,1,none⟩ (.slice xa xm xc)).ownsRow B 9 1 (.slice ka (D1.cnt 2) kc) (D1.cnt 2) (D1.cells 2) := by rw [← HEK.out];exact l1.own 2 (by omega)
      have m3 : (w2.setCell ⟨bw,1,none⟩ (.slice xa xm xc)).cell? ⟨bw,2,none⟩ = some (.slice ka (D1.cnt 2) kc) := by rw [← HEK.out];exact cell_of l1.blk 2 _ rfl
      have hzA : (w2.setCell ⟨bw,1,none⟩ (.slice xa xm xc)).heap.size = w2.heap.size := by simp [World.setCell]
      have N2 : ∀ j u,[Value.string t][j]? = some u → ((w2.setCell ⟨bw,1,none⟩ (.slice xa xm xc)).alloc (.cells #[.string t] 9)).cell? ((⟨w2.heap.size,0,none⟩ : Addr).add j) = some u := by rw [← hzA];exact World.news_of_block (heap_alloc_new _ _)
      have hsz2 := l1.hB
      have hsl2 := l1.slt
      have HL1 := hide l1
      have HO1 := hide ho1
      have HG1 := hide hg1
      clear l1 ho1 hg1 o1 m1 ga1
      go_wp2_with (at_builtin;refine wpList_append_two rfl _ _ 37 rfl B 9 i2 (.string .empty) 1 16 Tryz.underlying37 hi2 hz0 hz1 hz2 rfl (by decide) _ _ _ rfl (o2.alloc _) ⟨w2.heap.size,0,none⟩ 1 1 [.string t] rfl rfl N2 (st_one _) ?c3 ?c4 ?c5 ?_)
      case c3 => unfold maxLen;omega
      case c4 => omega
      case c5 => simp;omega
      intro v3 w3 ho3 hg3
      have ga := HG1.out
      rw [← HEN.out] at ga
      have gb := hg3
      rw [← HEK.out] at gb
      obtain ⟨V2,D2,hT2⟩ := HT.out.push (.inl rfl) HO1.out (World.grownBy_alloc _ _ _) ga ho3 (World.grownBy_alloc _ _ _) gb
      obtain ⟨ya,ym,yc,rfl⟩ := own_slice ho3
      have f4 : w3.frozen? ⟨bw,2,none⟩ = false := frozen_of ((hg3.by.block bw (by simp;omega) (fun e => by have := (o2.lt bw e.symm).1;have := HL1.out.lt;omega)).trans (heap_alloc_old _ _ hsl2 |>.trans HL1.out.blk)) 2
      have m4 : w3.cell? ⟨bw,2,none⟩ = some (.slice ka (D1.cnt 2) kc) := hg3.by.cell ((World.grownBy_alloc _ _ none).cell m3 (by simp)) (fun e => by have := (o2.lt bw e.symm).1;have := HL1.out.lt;omega)
      have o5 := hT2.own
      have HT2 := hide hT2
      have hzB : (w3.setCell ⟨bw,2,none⟩ (.slice ya ym yc)).heap.size = w3.heap.size := by simp [World.setCell]
      have hsz5 : B ≤ w3.heap.size := by rw [← hzB];exact hT2.lw.hB
      have N3 : ∀ j u,[Value.string t][j]? = some u → ((w3.setCell ⟨bw,2,none⟩ (.slice ya ym yc)).alloc (.cells #[.string t] 9)).cell? ((⟨w3.heap.size,0,none⟩ : Addr).add j) = some u := by rw [← hzB];exact World.news_of_block (heap_alloc_new _ _)
      clear ga gb hzA N2 hT2 ho3 hg3 o2 m3 HL1 HO1 HG1 HT HEN HEK m2 f2
      go_wp2_with (at_builtin;refine wpList_append_two rfl _ _ 37 rfl B 9 i2 (.string .empty) 1 16 Tryz.underlying37 hi2 hz0 hz1 hz2 rfl (by decide) _ _ _ rfl (o5.alloc _) ⟨w3.heap.size,0,none⟩ 1 1 [.string t] rfl rfl N3 (st_one _) ?c3 ?c4 ?c5 ?_)
      case c3 => unfold maxLen;omega
      case c4 => omega
      case c5 => simp;omega
      intro v5 w5 ho5 hg5
      obtain ⟨gi',cap2,rfl,hT3⟩ := HT2.out.app hBg hBw ho5 (World.grownBy_alloc _ _ _) hg5 HKS.out
      have HT3 := hide hT3
      clear hT3 ho5 hg5 HT2 o5 m4 f4
      go_wp2
      go_roundw
      case rel => exact ⟨i + 1,gi',cap2,V2,D2,_,by omega,by go_num,rfl,by simp;omega,HT3.out⟩
      case measure => simp [intOf];omega
     ·have h3' : decide ((i : Int) < 3) = false := by simp;omega
      by_cases h64 : i = 64
      ·have h64' : ((i : Int) == 64) = true := by simp;omega
       clear h64
       obtain ⟨na,nc,en⟩ := own_slice_n (hT.lw.own 1 (by omega))
       obtain ⟨ka,kc,ek⟩ := own_slice_n (hT.lw.own 2 (by omega))
       have o1 : wr.ownsRow B 37 1 (.slice na (D1.cnt 1) nc) (D1.cnt 1) (D1.cells 1) := by rw [← en];exact hT.lw.own 1 (by omega)
       have m1 : wr.cell? ⟨bw,1,none⟩ = some (.slice na (D1.cnt 1) nc) := by rw [← en];exact cell_of hT.lw.blk 1 _ rfl
       have hc1 : D1.cnt 1 ≤ D.cnt 1 + L.length := by rw [hT.d];exact pushAll_cnt D (.inl rfl) L 1 (by omega)
       have hc2 : D1.cnt 2 ≤ D.cnt 2 + L.length := by rw [hT.d];exact pushAll_cnt D (.inl rfl) L 2 (by omega)
       have HT := hide hT
       have HEN := hide en
       have HEK := hide ek
       have hsz := hT.lw.hB
       have hsl := hT.lw.slt
       clear hT en ek
       go_wp2_with (at_builtin;refine wpList_append_two rfl _ _ 56 rfl B 37 i1 (.slice none 0 0) 1 24 Tryz.underlying56 hi1 hy0 hy1 hy2 rfl (by decide) _ _ _ rfl (o1.alloc _) ⟨wr.heap.size,0,none⟩ 1 1 [.slice (some ⟨gi,0,none⟩) (n + i) cap'] rfl rfl (World.news_of_block (heap_alloc_new _ _)) (sl_one _ _ _) ?c3 ?c4 ?c5 ?_)
       case c3 => unfold maxLen;omega
       case c4 => omega
       case c5 => simp;omega
       intro v1 w2 ho1 hg1
       have ga1 := hg1
       rw [← HEN.out] at ga1
       have l1 := (HT.out.lw.alloc _).push (D' := D1.pl 1 ⟨gi,n + i,cap',.string t⟩) (i := 1) (by omega) ho1 ga1 (fun j hj => pl_cnt _ _ (.inl rfl) hj) (fun j hj => pl_cells _ _ (.inl rfl) hj)
       obtain ⟨xa,xm,xc,rfl⟩ := own_slice ho1
       have f2 : w2.frozen? ⟨bw,1,none⟩ = false := frozen_of ((hg1.by.block bw (by simp;omega) (fun e => by have := (o1.lt bw e.symm).1;have := HT.out.lw.lt;omega)).trans (heap_alloc_old wr _ hsl |>.trans HT.out.lw.blk)) 1
       have m2 : w2.cell? ⟨bw,1,none⟩ = some (.slice na (D1.cnt 1) nc) := hg1.by.cell ((World.grownBy_alloc wr _ none).cell m1 (by simp)) (fun e => by have := (o1.lt bw e.symm).1;have := HT.out.lw.lt;omega)
       have o2 : (w2.setCell ⟨bw,1,none⟩ (.slice xa xm xc)).ownsRow B 9 1 (.slice ka (D1.cnt 2) kc) (D1.cnt 2) (D1.cells 2) := by rw [← HEK.out];exact l1.own 2 (by omega)
       have m3 : (w2.setCell ⟨bw,1,none⟩ (.slice xa xm xc)).cell? ⟨bw,2,none⟩ = some (.slice ka (D1.cnt 2) kc) := by rw [← HEK.out];exact cell_of l1.blk 2 _ rfl
       have hzA : (w2.setCell ⟨bw,1,none⟩ (.slice xa xm xc)).heap.size = w2.heap.size := by simp [World.setCell]
       have N2 : ∀ j u,[Value.string t][j]? = some u → ((w2.setCell ⟨bw,1,none⟩ (.slice xa xm xc)).alloc (.cells #[.string t] 9)).cell? ((⟨w2.heap.size,0,none⟩ : Addr).add j) = some u := by rw [← hzA];exact World.news_of_block (heap_alloc_new _ _)
       have hsz2 := l1.hB
       have hsl2 := l1.slt
       have HL1 := hide l1
       have HO1 := hide ho1
       have HG1 := hide hg1
       clear l1 ho1 hg1 o1 m1 ga1
       go_wp2_with (at_builtin;refine wpList_append_two rfl _ _ 37 rfl B 9 i2 (.string .empty) 1 16 Tryz.underlying37 hi2 hz0 hz1 hz2 rfl (by decide) _ _ _ rfl (o2.alloc _) ⟨w2.heap.size,0,none⟩ 1 1 [.string t] rfl rfl N2 (st_one _) ?c3 ?c4 ?c5 ?_)
       case c3 => unfold maxLen;omega
       case c4 => omega
       case c5 => simp;omega
       intro v3 w3 ho3 hg3
       have ga := HG1.out
       rw [← HEN.out] at ga
       have gb := hg3
       rw [← HEK.out] at gb
       obtain ⟨V2,D2,hT2⟩ := HT.out.push (.inl rfl) HO1.out (World.grownBy_alloc _ _ _) ga ho3 (World.grownBy_alloc _ _ _) gb
       obtain ⟨ya,ym,yc,rfl⟩ := own_slice ho3
       have f4 : w3.frozen? ⟨bw,2,none⟩ = false := frozen_of ((hg3.by.block bw (by simp;omega) (fun e => by have := (o2.lt bw e.symm).1;have := HL1.out.lt;omega)).trans (heap_alloc_old _ _ hsl2 |>.trans HL1.out.blk)) 2
       have m4 : w3.cell? ⟨bw,2,none⟩ = some (.slice ka (D1.cnt 2) kc) := hg3.by.cell ((World.grownBy_alloc _ _ none).cell m3 (by simp)) (fun e => by have := (o2.lt bw e.symm).1;have := HL1.out.lt;omega)
       have o5 := hT2.own
       have HT2 := hide hT2
       have hzB : (w3.setCell ⟨bw,2,none⟩ (.slice ya ym yc)).heap.size = w3.heap.size := by simp [World.setCell]
       have hsz5 : B ≤ w3.heap.size := by rw [← hzB];exact hT2.lw.hB
       have N3 : ∀ j u,[Value.string t][j]? = some u → ((w3.setCell ⟨bw,2,none⟩ (.slice ya ym yc)).alloc (.cells #[.string t] 9)).cell? ((⟨w3.heap.size,0,none⟩ : Addr).add j) = some u := by rw [← hzB];exact World.news_of_block (heap_alloc_new _ _)
       clear ga gb hzA N2 hT2 ho3 hg3 o2 m3 HL1 HO1 HG1 HT HEN HEK m2 f2
       go_wp2_with (at_builtin;refine wpList_append_two rfl _ _ 37 rfl B 9 i2 (.string .empty) 1 16 Tryz.underlying37 hi2 hz0 hz1 hz2 rfl (by decide) _ _ _ rfl (o5.alloc _) ⟨w3.heap.size,0,none⟩ 1 1 [.string t] rfl rfl N3 (st_one _) ?c3 ?c4 ?c5 ?_)
       case c3 => unfold maxLen;omega
       case c4 => omega
       case c5 => simp;omega
       intro v5 w5 ho5 hg5
       obtain ⟨gi',cap2,rfl,hT3⟩ := HT2.out.app hBg hBw ho5 (World.grownBy_alloc _ _ _) hg5 HKS.out
       have HT3 := hide hT3
       clear hT3 ho5 hg5 HT2 o5 m4 f4
       go_wp2
       go_roundw
       case rel => exact ⟨i + 1,gi',cap2,V2,D2,_,by omega,by go_num,rfl,by simp;omega,HT3.out⟩
       case measure => simp [intOf];omega
      ·have h64' : ((i : Int) == 64) = false := by simp;omega
       have o5 := hT.own
       have hsz5 := hT.lw.hB
       have HT2 := hide hT
       clear hT
       go_wp2_with (at_builtin;refine wpList_append_two rfl _ _ 37 rfl B 9 i2 (.string .empty) 1 16 Tryz.underlying37 hi2 hz0 hz1 hz2 rfl (by decide) _ _ _ rfl (o5.alloc _) ⟨wr.heap.size,0,none⟩ 1 1 [.string t] rfl rfl (World.news_of_block (heap_alloc_new _ _)) (st_one _) ?c3 ?c4 ?c5 ?_)
       case c3 => unfold maxLen;omega
       case c4 => omega
       case c5 => simp;omega
       intro v5 w5 ho5 hg5
       obtain ⟨gi',cap2,rfl,hT3⟩ := HT2.out.app hBg hBw ho5 (World.grownBy_alloc _ _ _) hg5 HKS.out
       have HT3 := hide hT3
       clear hT3 ho5 hg5 HT2 o5
       go_wp2
       go_roundw
       case rel => exact ⟨i + 1,gi',cap2,V1,D1,_,by omega,by go_num,rfl,by omega,HT3.out⟩
       case measure => simp [intOf];omega
    ·obtain rfl : i = 65 := by omega
     obtain ⟨K',q1,q2,q3⟩ := hT.done
     have hd := hT.d
     subst hd
     have HQ := hide (And.intro q1 (And.intro q2 q3))
     clear q1 q2 q3 hT
     go_wp2
     go_end0
     exact ⟨rfl,V1,K',L,t,HQ.out.1,HQ.out.2.1,by omega,HQ.out.2.2⟩
end
section
abbrev PFault (s : ByteArray) (kd ln : Int) : Prop := ∀ W : World,Calls Tryz.prog 35 #[.string s] W fun e w' => e = .returned (.tuple #[.pointer none,.int .i64 kd,.int .i64 ln]) ∧ W.grownBy w' none
abbrev RFault (s : ByteArray) (kd ln : Int) : Prop := ∀ W : World,Calls Tryz.prog 38 #[.string s] W fun e w' => e = .returned (.tuple #[.pointer none,.int .i64 kd,.int .i64 ln]) ∧ W.grownBy w' none
abbrev PModel (s : ByteArray) : Prop := ∀ W : World,PowTab W → Calls Tryz.prog 35 #[.string s] W fun e w' => ∃ b,e = .returned (.tuple #[.pointer (some ⟨b,0,none⟩),.int .i64 0,.int .i64 0]) ∧ W.heap.size ≤ b ∧ b < w'.heap.size ∧ (∀ w,Seg w' W.heap.size w → MdAt w b (varsOf s) (consOf s) (plainT (progToks s))) ∧ W.grownBy w' none
abbrev RModel (s : ByteArray) : Prop := ∀ W : World,Calls Tryz.prog 38 #[.string s] W fun e w' => ∃ r,e = .returned (.tuple #[.pointer (some ⟨r,0,none⟩),.int .i64 0,.int .i64 0]) ∧ (∀ w,Seg w' W.heap.size w → RefSeen w r s) ∧ W.grownBy w' none
theorem bel_grown {w w' : World} (h : Below w.heap.size w w') : w.grownBy w' none := ⟨h.os,h.tape,h.output,h.size,fun k hk _ => h.block k hk⟩
theorem pmodel (s : ByteArray) (h : GoodS s) : PModel s := fun W hW => (pn_ok s W hW h.sz h.lx h.fm h.sn).mono fun e w' ⟨b,e1,hb,hM,hg⟩ =>
 ⟨b,e1,hb,by obtain ⟨_,_,_,_,_,_,_,_,_,h3,_⟩ := hM;exact h3,fun w hS => hM.seg hb h.q hS,hg⟩
theorem own_at0 {w : World} {B e sz n H : Nat} {v : Value} {xs : List Value} (h : w.ownsRow B e sz v n xs) (hH : H ≤ B) : ∃ a c,v = .slice a n c ∧ ∀ j u,xs[j]? = some u → ∃ g,a = some ⟨g,0,none⟩ ∧ H ≤ g ∧ w.cell? ⟨g,j,none⟩ = some u := by
 rcases own_cells h with ⟨h1,h2⟩ | ⟨g,cap,h1,h2,_,h3⟩
 ·refine ⟨none,0,by rw [h2,h1],fun j u hu => ?_⟩
  have := h.1
  rw [h1] at this
  have : xs = [] := List.length_eq_zero_iff.1 (by omega)
  rw [this] at hu;simp at hu
 ·exact ⟨_,cap,h1,fun j u hu => ⟨g,rfl,by omega,h3 j u hu⟩⟩
theorem rul_get (R : List PRul) {j : Nat} {r : PRul} (h : R[j]? = some r) : ∀ k u,[Value.int .u8 r.sort,r.pv,.string r.rel,.int .i64 r.n,.int .i64 r.v,.int .i64 r.w,.int .i64 r.x][k]? = some u → (rulCells R)[j * 7 + k]? = some u :=
 fun k u hk => flat_get _ 7 (fun _ => rfl) R j r h k u hk
theorem part_get (l : List (Int × Int)) {j : Nat} {p : Int × Int} (h : l[j]? = some p) : (partCells l)[j * 2]? = some (.int .i64 p.1) ∧ (partCells l)[j * 2 + 1]? = some (.int .i64 p.2) := by
 have q := fun k u hk => flat_get (fun p : Int × Int => [Value.int .i64 p.1,.int .i64 p.2]) 2 (fun _ => rfl) l j p h k u hk
 exact ⟨q 0 _ rfl,q 1 _ rfl⟩
theorem Md.seen {s : ByteArray} {w0 w : World} {H bw bm gt capt B : Nat} {vv vl vr : Value} {lists : List PLst} {rules : List PRul} {i : Nat} {kd ln : Int} (h : Md w0 bw bm gt capt B (lex s).2.1 vv vl vr (modOf s).vars lists rules i kd ln) (hB : H ≤ B) (hbm : H ≤ bm) (hgt : H ≤ gt) (hl : lists.map PLst.bare = (modOf s).lists) (hr : rules.map PRul.bare = (modOf s).rules) (hS : Seg w0 H w) : RefSeen w bm s := by
 obtain ⟨va,vc,ev,qv⟩ := own_at0 h.ov hB
 obtain ⟨la,lc,el,ql⟩ := own_at0 h.ol hB
 obtain ⟨ra,rc,er,qr⟩ := own_at0 h.orr hB
 have m1 := h.m1
 have m2 := h.m2
 have m3 := h.m3
 rw [ev] at m1
 rw [el] at m2
 rw [er] at m3
 refine ⟨some ⟨gt,0,none⟩,va,la,ra,capt,vc,lc,rc,lists,rules,Nat.lt_of_lt_of_le h.tk.ltm hS.size,⟨hS.cell hbm h.tk.m0,fun i t ht => ⟨gt,rfl,?_⟩⟩,⟨hS.cell hbm m1,hS.cell hbm m2,hS.cell hbm m3,fun j x hx => ?_,fun j l hl' => ?_,fun j r hr' => ?_⟩,hl,hr⟩
 ·obtain ⟨c1,c2,c3⟩ := refCells_get _ i t ht
  exact ⟨hS.cell hgt (h.tk.row _ _ c1),hS.cell hgt (h.tk.row _ _ c2),hS.cell hgt (h.tk.row _ _ c3)⟩
 ·obtain ⟨c1,c2,c3⟩ := varCells_get _ j x hx
  obtain ⟨g,e,hg,d1⟩ := qv _ _ c1
  obtain ⟨g2,e2,_,d2⟩ := qv _ _ c2
  obtain ⟨g3,e3,_,d3⟩ := qv _ _ c3
  rw [e] at e2 e3
  cases e2;cases e3
  exact ⟨g,e,hS.cell hg d1,hS.cell hg d2,hS.cell hg d3⟩
 ·obtain ⟨g,e,hg,d⟩ := ql _ _ (lstCells_get _ j l hl').2
  obtain ⟨na,nc,en,qn⟩ := own_at0 (h.li l (List.mem_of_getElem? hl')) hB
  rw [en] at d
  refine ⟨g,na,nc,e,hS.cell hg d,fun k x hx => ?_⟩
  obtain ⟨g2,e2,hg2,d2⟩ := qn k (.int .i64 x) (by rw [List.getElem?_map,hx];rfl)
  exact ⟨g2,e2,hS.cell hg2 d2⟩
 ·have rg := rul_get rules hr'
  obtain ⟨g,e,hg,d0⟩ := qr _ _ (rg 0 _ rfl)
  have all : ∀ k u,[Value.int .u8 r.sort,r.pv,.string r.rel,.int .i64 r.n,.int .i64 r.v,.int .i64 r.w,.int .i64 r.x][k]? = some u → w.cell? ⟨g,j * 7 + k,none⟩ = some u := fun k u hk => by
   obtain ⟨g2,e2,hg2,d⟩ := qr _ _ (rg k u hk)
   rw [e] at e2
   cases e2
   exact hS.cell hg d
  obtain ⟨pa,pc,ep,qp⟩ := own_at0 (h.ri r (List.mem_of_getElem? hr')) hB
  have a1 := all 1 _ rfl
  rw [ep] at a1
  refine ⟨g,pa,pc,e,⟨all 0 _ rfl,a1,all 2 _ rfl,all 3 _ rfl,all 4 _ rfl,all 5 _ rfl,all 6 _ rfl,fun k p hp => ?_⟩⟩
  obtain ⟨c1,c2⟩ := part_get _ hp
  obtain ⟨g2,e2,hg2,d1⟩ := qp _ _ c1
  obtain ⟨g3,e3,_,d2⟩ := qp _ _ c2
  rw [e2] at e3
  cases e3
  exact ⟨g2,e2,hS.cell hg2 d1,hS.cell hg2 d2⟩
theorem rmodel (s : ByteArray) (h : GoodS s) : RModel s := by
 obtain ⟨hs,hl,hp,hq⟩ := h
 obtain ⟨⟨f,hf,hF⟩,hS,hR,hI⟩ := form_ok s hs hl hp
 intro W
 by_cases hne : (lex s).2.1 = []
 ·rw [hne] at hF
  have hgs : gsOf s = [] := by
   rw [hne] at hS
   cases hg : gsOf s with
   | nil => rfl
   | cons a l =>
    rw [hg] at hS
    obtain ⟨m,h1,_⟩ := hS
    have := stAt_lt h1
    simp at this
  have hm : modOf s = ⟨[],[],[]⟩ := by unfold modOf;rw [hgs];rfl
  refine (ref_New_empty s W hs hl hne f hf hF).mono ?_
  rintro e w' ⟨hb,bm,h1,h2,rfl,a0,cap,h3⟩
  refine ⟨bm,rfl,fun w hS' => ?_,bel_grown hb⟩
  unfold RefSeen
  rw [hm,hne]
  exact ⟨a0,none,none,none,cap,0,0,0,[],[],Nat.lt_of_lt_of_le h2 hS'.size,⟨hS'.cell h1 (cell_of h3 0 _ rfl),fun i t ht => by simp at ht⟩,⟨hS'.cell h1 (cell_of h3 1 _ rfl),hS'.cell h1 (cell_of h3 2 _ rfl),hS'.cell h1 (cell_of h3 3 _ rfl),(fun j x hx => (by simp at hx)),(fun j x hx => (by simp at hx)),(fun j x hx => (by simp at hx))⟩,rfl,rfl⟩
 ·refine (ref_New_ok s W hs hl hne f hf hF _ hS).mono ?_
  rintro e w' ⟨hb,⟨hbad,_⟩ | ⟨_,bw,bm,gt,capt,B,i,h1,h2,h3,rfl,hM⟩⟩
  ·rw [hR] at hbad;exact absurd hq hbad
  ·obtain ⟨vv,vl,vr,lists,rules,hMd,hll,hrr⟩ := hM
   exact ⟨bm,rfl,fun w hS' => hMd.seen (by omega) (by omega) (by omega) hll hrr hS',bel_grown hb⟩
theorem both_new (s : ByteArray) : (∃ kd ln : Int,PFault s kd ln ∧ RFault s kd ln) ∨ (GoodS s ∧ PModel s ∧ RModel s) := by
 by_cases hs : s.size ≤ 2000
 ·by_cases hl : (lex s).1 = 0
  ·by_cases hp : (pParse (progToks s)).2.2 = 0
   ·by_cases hq : (runQ (gsOf s) q0).st.1 = 0
    ·have hG : GoodS s := ⟨hs,hl,hp,hq⟩
     exact .inr ⟨hG,pmodel s hG,rmodel s hG⟩
    ·refine .inl ⟨_,_,fun W => pn_sense s W hs hl hp hq,fun W => ?_⟩
     obtain ⟨⟨f,hf,hF⟩,hS,hR,hI⟩ := form_ok s hs hl hp
     have hne : (lex s).2.1 ≠ [] := fun hne => by
      rw [hne] at hS
      cases hg : gsOf s with
      | nil => rw [hg] at hq;exact hq rfl
      | cons a l =>
       rw [hg] at hS
       obtain ⟨m,h1,_⟩ := hS
       have := stAt_lt h1
       simp at this
     refine (ref_New_ok s W hs hl hne f hf hF _ hS).mono ?_
     rintro e w' ⟨hb,⟨_,rfl⟩ | ⟨hbad,_⟩⟩
     ·rw [hR];exact ⟨rfl,bel_grown hb⟩
     ·rw [hR] at hbad;exact absurd hbad hq
   ·obtain ⟨k,R,hk,hR,hR0,hln⟩ := form_bad s hs hl hp
    refine .inl ⟨3,_,fun W => pn_form s W hs hl hp,fun W => (ref_New_form s W hs hl k hk R hR hR0).mono ?_⟩
    rintro e w' ⟨rfl,hb⟩
    rw [hln];exact ⟨rfl,bel_grown hb⟩
  ·refine .inl ⟨2,(lex s).1,fun W => pn_tok s W hs hl,fun W => (ref_New_tok s W hs hl).mono ?_⟩
   rintro e w' ⟨rfl,hb⟩
   exact ⟨rfl,bel_grown hb⟩
 ·refine .inl ⟨1,0,fun W => (pn_long s W (by omega)).mono ?_,fun W => (ref_New_long s W (by omega)).mono ?_⟩
  ·rintro e w' ⟨rfl,rfl⟩;exact ⟨rfl,grown_refl _ _⟩
  ·rintro e w' ⟨rfl,rfl⟩;exact ⟨rfl,grown_refl _ _⟩
end
section
set_option maxHeartbeats 4000000
set_option maxRecDepth 100000
variable {w w' w1 : World} {B bw c T : Nat} {V : LV} {D : LD} {K : Keep → Prop}
theorem infoMo : (Tryz.prog.info? 83).map (fun i => (i.zero,i.size,i.bytes)) = some (some (.agg #[.pointer none,.pointer none]),2,16) := by kernel_rfl
theorem mo_one (a b : Option Addr) : ∀ u ∈ [Value.pointer a,.pointer b],u.oneCell' = true := by
 intro u hu;simp only [List.mem_cons,List.not_mem_nil,or_false] at hu;rcases hu with rfl | rfl <;> rfl
def Stepped (w : World) (B bw T : Nat) (w' : World) : Prop := ∃ V' D' c' K',LG w' B bw V' D' c' K' (T + 1) ∧ FrB B bw w w'
theorem Stepped.same (h : LG w B bw V D c K T) (hg : w.grownBy w' none) : Stepped w B bw T w' :=
 ⟨V,D,c,K,⟨h.lw.grown hg,h.n1,h.n2,h.n3,h.l1,h.l2,h.l3,h.ms,h.m20,fun i hi => by have := h.bd i hi;omega,by have := h.cb;omega⟩,(FrB.refl B bw w).grown h.lw.hB hg (fun k e => by cases e)⟩
theorem LG.more {o : Obj} {v' : Value} (x : MP) (h : LG w B bw V D c K T) (hM : ModAt w x) (hx : ∀ k ∈ x.blocks,k < w.heap.size ∧ Free bw V k) (h20 : D.ms.length < 20) (hown : w1.ownsRow B 83 2 v' (D.ms.length + 1) (D.ms.flatMap mpCells ++ mpCells x)) (hg : Grew (w.alloc o) V.m v' w1) : Stepped w B bw T (w1.setCell ⟨bw,0,none⟩ v') := by
 have l0 := h.lw.keep (fun y => K y ∨ y = modKeep x) (fun y hy => by
  rcases hy with hy | rfl
  ·exact .inl hy
  ·exact .inr ⟨hM,hx⟩)
 have l1 := l0.alloc o
 have l2 := l1.push (D' := { D with ms := D.ms ++ [x] }) (i := 0) (by omega) hown hg
  (fun j hj => by rcases seven hj with rfl | rfl | rfl | rfl | rfl | rfl | rfl <;> simp [LD.cnt])
  (fun j hj => by rcases seven hj with rfl | rfl | rfl | rfl | rfl | rfl | rfl <;> simp [LD.cells])
 refine ⟨_,_,c,_,⟨l2,h.n1,h.n2,h.n3,fun y hy => ⟨.inl (h.l1 y hy).1,(h.l1 y hy).2⟩,fun y hy => ⟨.inl (h.l2 y hy).1,(h.l2 y hy).2⟩,fun y hy => ?_,fun y hy => ?_,?_,fun i hi => ?_,?_⟩,push_frb ((FrB.refl B bw w).grown h.lw.hB (World.grownBy_alloc w o none) (fun k e => by cases e)) l1 (by omega) hg⟩
 ·obtain ⟨⟨bs,q⟩,r⟩ := h.l3 y hy
  exact ⟨⟨bs,.inl q⟩,r⟩
 ·rcases List.mem_append.1 hy with q | q
  ·exact .inl (h.ms y q)
  ·simp only [List.mem_cons,List.not_mem_nil,or_false] at q
   exact .inr (by rw [q])
 ·simp;omega
 ·have hb := h.bd i hi
  rcases seven hi with rfl | rfl | rfl | rfl | rfl | rfl | rfl <;> simp [LD.cnt] at hb ⊢ <;> omega
 ·have := h.cb;omega
theorem law_begins (h : LG w B bw V D c K T) (ht : PowTab w) (s : ByteArray) : Calls Tryz.prog 32 #[.pointer (some ⟨bw,0,none⟩),.string s] w fun e w' => e = .returned (.bool true) ∧ Stepped w B bw T w' := by
 obtain ⟨i1,hi1,hy0,hy1,hy2⟩ := info_parts infoMo
 have HT := hide ht
 rcases both_new s with ⟨kd,ln,hP,hR⟩ | ⟨hll,hP,hR⟩
 ·have KP := Kept.mk hP
  have KR := Kept.mk hR
  have HG := hide h
  have e1 : (kd != kd) = false := by simp
  have e2 : (ln != ln) = false := by simp
  clear h hP hR ht
  go_enter Tryz.func32,Tryz.ntmps32
  go_wp2_with (first | (go_at_call 38;refine (KR.get _).mono ?_;rintro e w2 ⟨rfl,hg2⟩) | (go_at_call 35;refine (KP.get _).mono ?_;rintro e w1 ⟨rfl,hg1⟩))
  go_ret
  exact ⟨rfl,Stepped.same HG.out (hg1.trans hg2)⟩
 ·have KP := Kept.mk (hP w ht)
  have KR := Kept.mk hR
  have HG := hide h
  obtain ⟨ma,mc,em⟩ := own_slice_n (h.lw.own 0 (by omega))
  have hsl := h.lw.slt
  have hBs := h.lw.hB
  have hltB := h.lw.lt
  have h20 := h.m20
  have m0 : w.cell? ⟨bw,0,none⟩ = some (.slice ma D.ms.length mc) := (cell_of h.lw.blk 0 _ rfl).trans (congrArg some em)
  have o0 : w.ownsRow B 83 2 (.slice ma D.ms.length mc) D.ms.length (D.ms.flatMap mpCells) := em ▸ h.lw.own 0 (by omega)
  have f0 := frozen_of h.lw.blk 0
  have HEM := hide em
  have HB := hide h.lw.blk
  clear h hP hR ht em
  by_cases hc : D.ms.length < 20
  ·have hc' : (D.ms.length : Int) < 20 := by omega
   go_enter Tryz.func32,Tryz.ntmps32
   go_wp2_with (first | (at_builtin;refine wpList_append_two rfl _ _ 55 rfl B 83 i1 (.agg #[.pointer none,.pointer none]) 2 16 Tryz.underlying55 hi1 hy0 hy1 hy2 rfl (by decide) _ _ _ rfl (o2.alloc _) ⟨w2.heap.size,0,none⟩ 1 1 [.pointer (some ⟨b,0,none⟩),.pointer (some ⟨r,0,none⟩)] rfl rfl (World.news_of_block (heap_alloc_new _ _)) (mo_one _ _) ?c3 ?c4 ?c5 ?_) | (go_at_call 38;refine (KR.get _).mono ?_;rintro e w2 ⟨r,rfl,hRA,hg2⟩;have hg12 := hg1.trans hg2;have m2 := hg12.cell m0 (by simp);have o2 := o0.kept hg12 (own_none _)) | (go_at_call 35;refine KP.get.mono ?_;rintro e w1 ⟨b,rfl,hb1,hb2,hPA,hg1⟩))
   case c3 => unfold maxLen;omega
   case c4 => omega
   case c5 => have := hg12.size;simp;omega
   intro v' w3 ho3 hg3
   have G2 := HG.out.grown hg12
   have hst := G2.more ⟨b,r,w.heap.size,w2,s⟩ ⟨Seg.self _ _,fun W hS => hPA W (hS.low hg2),fun W hS => hRA W (hS.up hg1.size),hll,by have := hg2.size;show w.heap.size < w2.heap.size;omega⟩ (fun k hk => by
     have q : w.heap.size ≤ k ∧ k < w2.heap.size := by
      have q : k ∈ List.range' w.heap.size (w2.heap.size - w.heap.size) := hk
      rw [List.mem_range'_1] at q
      have := hg12.size
      omega
     refine ⟨q.2,by omega,fun i hi e => ?_⟩
     have := (HG.out.lw.ownB hi e).2
     omega) hc ho3 (by rw [show V.m = _ from HEM.out];exact hg3)
   obtain ⟨xa,xm,xc,rfl⟩ := own_slice ho3
   have hblk3 := (hg3.by.block bw (by have := hg12.size;simp;omega) (fun e => by have := (o2.lt _ e.symm).1;omega)).trans ((heap_alloc_old w2 _ (by have := hg12.size;omega)).trans ((hg12.block bw hsl (by simp)).trans HB.out))
   have f3 := frozen_of hblk3 0
   have m3 := cell_of hblk3 0 _ rfl
   have HST := hide hst
   have HF := hide ((FrB.refl B bw w).grown hBs hg12 (fun k e => by cases e))
   clear hst ho3 hg3 o2 m2 o0 hblk3 G2
   go_wp2
   go_ret
   obtain ⟨V',D',c',K',q1,q2⟩ := HST.out
   exact ⟨rfl,V',D',c',K',q1,HF.out.trans q2⟩
  ·have hc' : decide ((D.ms.length : Int) < 20) = false := by simp;omega
   go_enter Tryz.func32,Tryz.ntmps32
   go_wp2_with (first | (go_at_call 38;refine (KR.get _).mono ?_;rintro e w2 ⟨r,rfl,hRA,hg2⟩;have hg12 := hg1.trans hg2;have m2 := hg12.cell m0 (by simp)) | (go_at_call 35;refine KP.get.mono ?_;rintro e w1 ⟨b,rfl,hb1,hb2,hPA,hg1⟩))
   go_ret
   exact ⟨rfl,Stepped.same HG.out hg12⟩
end
section
set_option maxHeartbeats 8000000
set_option maxRecDepth 100000
variable {w w' w1 : World} {B bw c T : Nat} {V : LV} {D : LD} {K : Keep → Prop}
theorem own_base {w : World} {B B' e s n : Nat} {v : Value} {xs : List Value} (h : w.ownsRow B' e s v n xs) (hB : B ≤ B') : w.ownsRow B e s v n xs := by
 refine ⟨h.1,?_⟩
 rcases h.2 with q | ⟨g,cap,cur,h1,h2,h3⟩
 ·exact .inl q
 ·exact .inr ⟨g,cap,cur,h1,by omega,h3⟩
theorem pn_Names_any {b : Nat} {V : List QVar} {C : List QCon} {t : List UInt8} (h : MdAt w b V C t) (hl : V.length ≤ 2500) : Calls Tryz.prog 31 #[.pointer (some ⟨b,0,none⟩)] w fun e w' => e = .returned (.slice (some ⟨w.heap.size,0,none⟩) V.length V.length) ∧ w'.ownsRow w.heap.size 9 1 (.slice (some ⟨w.heap.size,0,none⟩) V.length V.length) V.length (nmCells V) ∧ w.grownBy w' none := by
 obtain ⟨bc,B,vV,vC,cs,h1,h2,_⟩ := h.set
 have hc := h2.lt
 have h3 := h2.c1
 rcases own_cells h2.ov with ⟨e1,e2⟩ | ⟨gr,cap,e1,_,hg,e4⟩
 ·obtain rfl : V = [] := List.length_eq_zero_iff.1 e1
  rw [e2] at h3
  refine (pn_Names_nil h1 h3 h.lt hc).mono ?_
  rintro e w' ⟨rfl,rfl⟩
  refine ⟨rfl,⟨rfl,.inr ⟨w.heap.size,0,_,rfl,Nat.le_refl _,heap_alloc_new w _,Nat.le_refl _,by unfold maxLen;omega,?_,rfl⟩⟩,World.grownBy_alloc _ _ _⟩
  rw [size_madeCells]
 ·rw [e1] at h3
  exact pn_Names h1 ⟨rfl,e4,hg⟩ h3 (by omega) h.lt hc
theorem pn_Names_ex {W : World} {b : Nat} {V : List QVar} {C : List QCon} {t : List UInt8} (h : MdAt w b V C t) (hl : V.length ≤ 2500) (hg : w.grownBy W none) (hB : B ≤ w.heap.size) : Calls Tryz.prog 31 #[.pointer (some ⟨b,0,none⟩)] W fun e w' => ∃ g,e = .returned (.slice (some ⟨g,0,none⟩) V.length V.length) ∧ W.heap.size ≤ g ∧ g < w'.heap.size ∧ w'.ownsRow B 9 1 (.slice (some ⟨g,0,none⟩) V.length V.length) V.length (nmCells V) ∧ W.grownBy w' none := by
 refine (pn_Names_any (w := W) (h.grown hg) hl).mono ?_
 rintro e w' ⟨rfl,ho,hg'⟩
 exact ⟨_,rfl,Nat.le_refl _,(ho.lt _ rfl).2,own_base ho (Nat.le_trans hB hg.size),hg'⟩
theorem pushAll1 (D : LD) (L : List LP) : pushAll D 1 L = { D with ns := D.ns ++ L,ks := D.ks ++ L.map (·.mark) } := by
 induction L generalizing D with
 | nil => simp [pushAll]
 | cons x L ih =>
  have e : pushAll D 1 (x :: L) = pushAll ((D.pl 1 x).pk 2 x.mark) 1 L := rfl
  rw [e,ih]
  simp [LD.pl,LD.pk]
theorem LG.two {K1 K2 : Keep → Prop} {V2 : LV} {L1 L2 : List LP} {t1 t2 : ByteArray} {n : Nat} (h : LG w B bw V D c K T) (hl : LW w' B bw V2 (pushAll (pushAll D 1 L1) 1 L2) (c + 1 + 1) K2) (k1 : ∀ x,K x → K1 x) (k2 : ∀ x,K1 x → K2 x) (h1 : ∀ x ∈ L1,K1 (lstKeep x) ∧ x.mark = .string t1 ∧ x.len ≤ n + 65) (h2 : ∀ x ∈ L2,K2 (lstKeep x) ∧ x.mark = .string t2 ∧ x.len ≤ n + 65) (l1 : L1.length ≤ 65) (l2 : L2.length ≤ 65) (hn : n ≤ 2500) : LG w' B bw V2 (pushAll (pushAll D 1 L1) 1 L2) (c + 1 + 1) K2 (T + 1) := by
 have c1 := pushAll_cnt D (i := 1) (.inl rfl) L1
 have c2 := pushAll_cnt (pushAll D 1 L1) (i := 1) (.inl rfl) L2
 have e : pushAll (pushAll D 1 L1) 1 L2 = { D with ns := D.ns ++ L1 ++ L2,ks := D.ks ++ L1.map (·.mark) ++ L2.map (·.mark) } := by rw [pushAll1,pushAll1]
 refine ⟨hl,?_,?_,?_,fun x hx => ?_,fun x hx => ?_,fun x hx => ?_,fun x hx => ?_,?_,fun i hi => ?_,?_⟩
 ·rw [e];simp [h.n1]
 ·rw [e];exact h.n2
 ·rw [e];exact h.n3
 ·rw [e] at hx
  rcases List.mem_append.1 hx with hx | hx
  ·rcases List.mem_append.1 hx with hx | hx
   ·obtain ⟨q1,q2,q3⟩ := h.l1 x hx
    exact ⟨k2 _ (k1 _ q1),q2,q3⟩
   ·obtain ⟨q1,q2,q3⟩ := h1 x hx
    exact ⟨k2 _ q1,by omega,_,q2⟩
  ·obtain ⟨q1,q2,q3⟩ := h2 x hx
   exact ⟨q1,by omega,_,q2⟩
 ·rw [e] at hx;exact ⟨k2 _ (k1 _ (h.l2 x hx).1),(h.l2 x hx).2⟩
 ·rw [e] at hx
  obtain ⟨⟨bs,q1⟩,q2⟩ := h.l3 x hx
  exact ⟨⟨bs,k2 _ (k1 _ q1)⟩,q2⟩
 ·rw [e] at hx;exact k2 _ (k1 _ (h.ms x hx))
 ·rw [e];exact h.m20
 ·have := h.bd i hi;have := c1 i hi;have := c2 i hi;omega
 ·have := h.cb;omega
def TeRel (w2 : World) (n : Nat) (vo vi : Value) (wr : World) : Prop := ∃ i : Nat,i ≤ n ∧ vo = .bool true ∧ vi = .int .i64 i ∧ w2.grownBy wr none
theorem nm_get {l : List QVar} {i : Nat} {a : QVar} (ha : l[i]? = some a) : (nmCells l)[i]? = some (.string a.name) := by simp [nmCells,ha]
theorem own_at {w : World} {B e g n cap j : Nat} {xs : List Value} {u : Value} (h : w.ownsRow B e 1 (.slice (some ⟨g,0,none⟩) n cap) n xs) (hu : xs[j]? = some u) : w.cell? ⟨g,j,none⟩ = some u := by
 have q := h.cells (g := g) rfl j u hu
 have hadd : (⟨g,0,none⟩ : Addr).add j = ⟨g,j,none⟩ := by unfold Addr.add;split <;> simp_all
 rw [hadd] at q;exact q
theorem free_new {w : World} (h : LW w B bw V D c K) {k : Nat} (hk : w.heap.size ≤ k) : Free bw V k :=
 ⟨by have := h.slt;omega,fun i hi e => by have := (h.ownB hi e).2;omega⟩
theorem law_tells_names (h : LG w B bw V D c K T) (hT : T ≤ 1100000) (x : MP) (hx : x ∈ D.ms) (kd on od bu : Int) (tx : ByteArray) (va : Option Addr) (vn vc : Nat) (wk : Bool) (hk : kd ≠ 3) : Calls Tryz.prog 40 #[.pointer (some ⟨bw,0,none⟩),.agg #[.pointer (some ⟨x.b,0,none⟩),.pointer (some ⟨x.r,0,none⟩)],.agg #[.int .i64 kd,.int .i64 on,.string tx,.slice va vn vc,.int .i64 od,.int .i64 bu,.bool wk]] w fun e w' => e = .returned (.bool true) ∧ Stepped w B bw T w' := by
 have hkb : (kd == 3) = false := by simpa using hk
 have hMod := (h.lw.kp _ (h.ms x hx)).1
 have hbd := h.bd
 have hcb := h.cb
 have HG := hide h
 obtain ⟨b,r,H0,w0,s⟩ := x
 have hP := hMod.prog
 have hll : (varsOf s).length ≤ 2500 := by have := hMod.good.md.vlen;simp only at this;omega
 obtain ⟨ta,va',la,ra',tc,vc',lc,rc',lists,rules,hlr,_,hRM,_,_⟩ := hMod.ref
 have ev : (modOf s).vars = (varsOf s).map qP := hMod.good.vars
 simp only at hP hRM hlr
 rw [ev] at hRM
 generalize varsOf s = l at *
 have hr1 : w.cell? ⟨r,1,none⟩ = some (.slice va' l.length vc') := by have := hRM.m1;rwa [List.length_map] at this
 have hra : ∀ (k : Nat) (a : QVar),l[k]? = some a → ∃ gv,va' = some ⟨gv,0,none⟩ ∧ w.cell? ⟨gv,k * 3,none⟩ = some (.string a.name) := fun k a ha => by
  obtain ⟨g,e,c1,_⟩ := hRM.v k (qP a) (by rw [List.getElem?_map,ha];rfl)
  exact ⟨g,e,c1⟩
 have KN := Kept.mk (fun {W : World} (hg : w.grownBy W none) => pn_Names_ex (B := B) hP hll hg h.lw.hB)
 have HRA := hide hra
 have hBw := h.lw.hB
 have hcn : Hid (∀ i,i < 7 → D.cnt i ≤ 100000000000) := fun i hi => by have := h.bd i hi;omega
 have hks : Hid (∀ x,K x → ∀ k ∈ x.S,k < w.heap.size) := fun x hx k hk' => ((h.lw.kp x hx).2 k hk').1
 clear h hMod hP hk hbd hra hRM ev
 go_enter Tryz.func40,Tryz.ntmps40
 go_wp2_with (first | (go_at_call 31;refine (KN.get hh1).mono ?_;rintro e w2 ⟨g2,rfl,hs2,hl2,o2,hg2⟩;have hh2 := hh1.trans hg2;have y1 := hg2.cell x1 (by simp);have r2 := hh2.cell hr1 (by simp)) | (go_at_call 31;refine (KN.get ((World.grownBy_alloc w _ none).trans (World.grownBy_alloc _ _ none))).mono ?_;rintro e w1 ⟨g1,rfl,hs1,hl1,o1,hg1⟩;have hh1 := ((World.grownBy_alloc w _ none).trans (World.grownBy_alloc _ _ none)).trans hg1;have x0 := hg1.cell (cell_of (heap_alloc2_old w _ _) 0 _ rfl) (by simp);have x1 := hg1.cell (cell_of (heap_alloc2_old w _ _) 1 _ rfl) (by simp)))
 have HO1 := hide (o1.kept hg2 (own_none _))
 have HO2 := hide o2
 have HH2 := hide hh2
 have hz1 : w.heap.size ≤ g1 := by have := hs1;simp at this;omega
 have hz2 : g1 < g2 := by omega
 have hz3 := hh2.size
 clear o1 o2 hg1 hg2 hh1 hh2 x0 x1
 go_loopw [11,12] (fun vo vi wr => TeRel w2 l.length vo vi wr) (fun _ vi _ => l.length - (intOf vi).toNat)
 case atStart => exact ⟨0,by omega,rfl,rfl,grown_refl _ _⟩
 case round =>
  obtain ⟨i,hi,rfl,rfl,hgr⟩ := hrel
  by_cases hlt : i < l.length
  ·obtain ⟨a,ha⟩ : ∃ a,l[i]? = some a := ⟨l[i],by simp [hlt]⟩
   obtain ⟨gv,hra,hq⟩ := HRA.out i a ha
   subst hra
   have k1 := hgr.cell y1 (by simp)
   have k2 := hgr.cell r2 (by simp)
   have k3 := (HH2.out.trans hgr).cell hq (by simp)
   have k4 := hgr.cell (own_at HO1.out (nm_get ha)) (by simp)
   have k5 := hgr.cell (own_at HO2.out (nm_get ha)) (by simp)
   have hlt3 : (i : Int) < l.length := by omega
   have h03 : (0 : Int) ≤ i := by omega
   have HGR := hide hgr
   clear hgr
   go_wp2
   go_quiet (fail)
   go_wp2
   go_roundw
   case rel => exact ⟨i + 1,by omega,rfl,by go_num,HGR.out.trans (grown_drewN' _ _ _)⟩
   case measure => simp [intOf];omega
  ·obtain rfl : i = l.length := by omega
   have hhr := HH2.out.trans hgr
   have G3 := HG.out.lw.grown hhr
   have o1r := HO1.out.kept hgr (own_none _)
   have o2r := HO2.out.kept hgr (own_none _)
   have K1 := Kept.mk (law_texts G3 o1r (free_new HG.out.lw hz1) (fun x hx q => by have := hks.out x hx _ q;omega) (by omega) (by omega) hcn.out)
   have HF2 := hide (free_new HG.out.lw (by omega) : Free bw V g2)
   have hsr : g2 < wr.heap.size := by have := hgr.size;omega
   have HO2R := hide o2r
   have HHR := hide hhr
   have hzr := hhr.size
   clear G3 o1r o2r hhr hgr HO1 HO2 HH2
   go_wp2_with (first | (go_at_call 56;refine (law_texts q4 o24 f24 n24 (by omega) (by omega) c24).mono ?_;rintro e w5 ⟨rfl,V5,K5,L2,t2,q5,went5,l25,f25⟩) | (go_at_call 56;refine K1.get.mono ?_;rintro e w4 ⟨rfl,V4,K4,L1,t1,q4,went4,l14,f14⟩;have o24 := own_turn HO2R.out (fun k e => (went4.bl k (by have : g2 = k := Option.some.inj e;omega) (by have : g2 = k := Option.some.inj e;rw [← this];exact HF2.out) (by have : g2 = k := Option.some.inj e;omega)));have f24 := went4.fr g2 hsr HF2.out;have n24 : ∀ x,K4 x → g2 ∉ x.S := (fun x hx q => by rcases went4.kn x hx with e | e;(have := hks.out x e _ q;omega);(have := e _ q;omega));have c24 : ∀ i,i < 7 → (pushAll D 1 L1).cnt i ≤ 100000000000 := (fun i hi => by have := pushAll_cnt D (i := 1) (.inl rfl) L1 i hi;have := HG.out.bd i hi;omega)))
   go_ret
   exact ⟨rfl,V5,_,_,K5,HG.out.two q5 went4.kk went5.kk f14 f25 l14 l25 hll,(((FrB.refl B bw w).grown hBw HHR.out (fun k e => by cases e)).trans went4.frb).trans went5.frb⟩
end
section
set_option maxHeartbeats 8000000
set_option maxRecDepth 100000
variable {w w' w1 : World} {B bw c T : Nat} {V : LV} {D : LD} {K : Keep → Prop}
structure OpV where
 kd : Int
 on : Int
 tx : ByteArray
 va : Option Addr
 vn : Nat
 vc : Nat
 od : Int
 bu : Int
 wk : Bool
def OpV.cells (o : OpV) : Array Value := #[.int .i64 o.kd,.int .i64 o.on,.string o.tx,.slice o.va o.vn o.vc,.int .i64 o.od,.int .i64 o.bu,.bool o.wk]
theorem Stepped.from (hB : B ≤ w.heap.size) (hg : w.grownBy w1 none) (h : Stepped w1 B bw T w') : Stepped w B bw T w' := by
 obtain ⟨V',D',c',K',h1,h2⟩ := h
 exact ⟨V',D',c',K',h1,((FrB.refl B bw w).grown hB hg (fun k e => by cases e)).trans h2⟩
theorem ms_at {ms : List MP} {i : Nat} {x : MP} (h : ms[i]? = some x) : (ms.flatMap mpCells)[i * 2]? = some (.pointer (some ⟨x.b,0,none⟩)) ∧ (ms.flatMap mpCells)[i * 2 + 1]? = some (.pointer (some ⟨x.r,0,none⟩)) := by
 have q := fun k u hk => flat_get mpCells 2 (fun _ => rfl) ms i x h k u hk
 exact ⟨q 0 _ rfl,q 1 _ rfl⟩
theorem law_step_low (h : LG w B bw V D c K T) (hT : T ≤ 1100000) (ht : PowTab w) (o : OpV) (hk : o.kd ≤ 2) (hlo : -9223372036854775808 ≤ o.on) (hhi : o.on ≤ 9223372036854775807) : Calls Tryz.prog 33 #[.pointer (some ⟨bw,0,none⟩),.agg o.cells] w fun e w' => e = .returned (.bool true) ∧ Stepped w B bw T w' := by
 obtain ⟨kd,on,tx,va,vn,vc,od,bu,wk⟩ := o
 unfold OpV.cells
 simp only at hk hlo hhi ⊢
 have hBw := h.lw.hB
 have hsl := h.lw.slt
 by_cases h1 : kd = 1
 ·subst h1
  have KB := Kept.mk (fun o => law_begins (h.grown (World.grownBy_alloc w o none)) (tab_kept ht (fun k hk => heap_alloc_old w o hk)) tx)
  clear h ht hk
  go_enter Tryz.func33,Tryz.ntmps33
  go_wp2_with (go_at_call 32;refine (KB.get _).mono ?_;rintro e w1 ⟨rfl,hS⟩)
  go_ret
  exact ⟨rfl,hS.from hBw (World.grownBy_alloc _ _ _)⟩
 ·have h1' : (kd == 1) = false := by simpa using h1
  obtain ⟨ma,mc,em⟩ := own_slice_n (h.lw.own 0 (by omega))
  have m0 : w.cell? ⟨bw,0,none⟩ = some (.slice ma D.ms.length mc) := (cell_of h.lw.blk 0 _ rfl).trans (congrArg some em)
  have m1 : ∀ o,(w.alloc o).cell? ⟨bw,0,none⟩ = some (.slice ma D.ms.length mc) := fun o => (World.grownBy_alloc w o none).cell m0 (by simp)
  have HG := hide h
  by_cases h0 : D.ms.length = 0
  ·rw [h0] at m1
   clear h ht m0 em h0
   go_enter Tryz.func33,Tryz.ntmps33
   go_wp2
   go_ret
   exact ⟨rfl,Stepped.same HG.out (World.grownBy_alloc _ _ _)⟩
  ·have h20 := h.m20
   have hpb := pickI_bd on (D.ms.length : Int) (by omega)
   obtain ⟨P,hP⟩ : ∃ P : Nat,pickI on (D.ms.length : Int) = P := ⟨(pickI on (D.ms.length : Int)).toNat,by omega⟩
   rw [hP] at hpb
   have hPl : P < D.ms.length := by omega
   obtain ⟨x,hx⟩ : ∃ x,D.ms[P]? = some x := ⟨D.ms[P],by simp [hPl]⟩
   obtain ⟨gm,cm,e1,hc0,_⟩ := h.lw.at (i := 0) (j := P * 2) (by omega) (ms_at hx).1
   obtain ⟨gm',cm',e1',hc1,_⟩ := h.lw.at (i := 0) (j := P * 2 + 1) (by omega) (ms_at hx).2
   rw [e1] at e1'
   injection e1' with q1 q2 q3
   injection q1 with q1
   injection q1 with q1 _ _
   subst q1
   rw [e1] at em
   injection em with q4 q5 q6
   subst q4
   have hgm := (h.lw.ownB (i := 0) (by omega) (by rw [e1];rfl : (V.get 0).ownBlock = some gm)).2
   have hn0 : (((D.ms.length : Nat) : Int) == 0) = false := by simpa using h0
   have KP := Kept.mk (fun W => law_pick on (D.ms.length : Int) W hlo hhi (by omega) (by omega))
   rw [hP] at KP
   have hP0 : (0 : Int) ≤ P := by omega
   have hPl' : (P : Int) < D.ms.length := by omega
   have HX := hide (List.mem_of_getElem? hx)
   clear h ht e1 hx hP
   by_cases h2 : kd = 2
   ·subst h2
    have KT := Kept.mk (fun {W : World} (hg : w.grownBy W none) => law_tells_names (HG.out.grown hg) hT x HX.out 2 on od bu tx va vn vc wk (by decide))
    go_enter Tryz.func33,Tryz.ntmps33
    go_wp2
    go_region_held3 (fun w' => w'.cell? ⟨bw,0,none⟩ = some (.slice (some ⟨gm,0,none⟩) D.ms.length mc) ∧ w'.cell? ⟨w.heap.size,1,none⟩ = some (.int .i64 on) ∧ w'.cell? ⟨gm,P * 2,none⟩ = some (.pointer (some ⟨x.b,0,none⟩)) ∧ w'.cell? ⟨gm,P * 2 + 1,none⟩ = some (.pointer (some ⟨x.r,0,none⟩))) (go_keep)
     (first | (go_at_call 39;refine (KP.get _).mono ?_;rintro e w' ⟨rfl,hww⟩;subst w'))
    all_goals go_wp2_with (go_at_call 40;refine (KT.get (((World.grownBy_alloc w _ none).trans (World.grownBy_alloc _ _ none)).trans (grown_drew' _ none))).mono ?_;rintro e w1 ⟨rfl,hS⟩)
    all_goals go_ret
    all_goals exact ⟨rfl,hS.from hBw (((World.grownBy_alloc w _ none).trans (World.grownBy_alloc _ _ none)).trans (grown_drew' _ none))⟩
   ·have h2' : (kd == 2) = false := by simpa using h2
    have h3' : (kd == 3) = false := by simp;omega
    have h4' : (kd == 4) = false := by simp;omega
    have h5' : (kd == 5) = false := by simp;omega
    go_enter Tryz.func33,Tryz.ntmps33
    go_wp2
    go_region_held3 (fun w' => w'.cell? ⟨bw,0,none⟩ = some (.slice (some ⟨gm,0,none⟩) D.ms.length mc) ∧ w'.cell? ⟨w.heap.size,1,none⟩ = some (.int .i64 on) ∧ w'.cell? ⟨gm,P * 2,none⟩ = some (.pointer (some ⟨x.b,0,none⟩)) ∧ w'.cell? ⟨gm,P * 2 + 1,none⟩ = some (.pointer (some ⟨x.r,0,none⟩))) (go_keep)
     (first | (go_at_call 39;refine (KP.get _).mono ?_;rintro e w' ⟨rfl,hww⟩;subst w'))
    all_goals go_wp2
    all_goals go_ret
    all_goals exact ⟨rfl,Stepped.same HG.out (((World.grownBy_alloc w _ none).trans (World.grownBy_alloc _ _ none)).trans (grown_drew' _ none))⟩
end
section
variable {w w' w1 : World} {B bw c T : Nat} {V : LV} {D : LD} {K : Keep → Prop}
def ScriptAt (w : World) (v : Value) (ops : List OpV) : Prop :=
 (ops = [] ∧ ∃ a c,v = .slice a 0 c) ∨ ∃ g off cap,v = .slice (some ⟨g,off,none⟩) ops.length cap ∧ g < w.heap.size ∧ ∀ i o,ops[i]? = some o → ∀ j u,o.cells[j]? = some u → w.cell? ⟨g,off + i * 7 + j,none⟩ = some u
theorem LG.later {T' : Nat} (h : LG w B bw V D c K T) (hT : T ≤ T') : LG w B bw V D c K T' :=
 ⟨h.lw,h.n1,h.n2,h.n3,h.l1,h.l2,h.l3,h.ms,h.m20,fun i hi => by have := h.bd i hi;omega,by have := h.cb;omega⟩
def V0 : LV := ⟨.slice none 0 0,.slice none 0 0,.slice none 0 0,.slice none 0 0,.slice none 0 0,.slice none 0 0,.slice none 0 0⟩
def D0 : LD := ⟨[],[],[],[],[],[],[]⟩
theorem lg_start (w : World) : LG (w.alloc (.cells #[.slice none 0 0,.slice none 0 0,.slice none 0 0,.slice none 0 0,.slice none 0 0,.slice none 0 0,.slice none 0 0,.int .i64 0] 59)) (w.heap.size + 1) w.heap.size V0 D0 0 (fun _ => False) 0 := by
 refine ⟨⟨heap_alloc_new w _,by omega,by simp,fun i hi => ?_,fun i j hi hj hne k => ?_,fun x hx => hx.elim⟩,rfl,rfl,rfl,fun x hx => by simp [D0] at hx,fun x hx => by simp [D0] at hx,fun x hx => by simp [D0] at hx,fun x hx => by simp [D0] at hx,by simp [D0],fun i hi => ?_,by omega⟩
 ·rcases seven hi with rfl | rfl | rfl | rfl | rfl | rfl | rfl <;> exact World.ownsRow_nil _ _ _ _
 ·rcases seven hi with rfl | rfl | rfl | rfl | rfl | rfl | rfl <;> intro e <;> cases e
 ·rcases seven hi with rfl | rfl | rfl | rfl | rfl | rfl | rfl <;> simp [D0,LD.cnt]
def PydRel (w0 : World) (B bw n : Nat) (m : Nat) (vo vi : Value) (wr : World) : Prop :=
 ∃ (i : Nat) (V : LV) (D : LD) (c : Nat) (K : Keep → Prop),i ≤ n ∧ m = n - i ∧ vo = .bool true ∧ vi = .int .i64 i ∧ LG wr B bw V D c K (1 + i) ∧ FrB B bw w0 wr
theorem frb_low {o : Obj} (h : FrB (w.heap.size + 1) w.heap.size (w.alloc o) w') : ∀ k,k < w.heap.size → w'.heap[k]? = w.heap[k]? := fun k hk => (h.block k (by omega) (by omega)).trans (heap_alloc_old w o hk)
theorem frb_grown {o : Obj} (h : FrB (w.heap.size + 1) w.heap.size (w.alloc o) w') : w.grownBy w' none := ⟨h.os,h.tape,h.output,by have := h.size;simp at this;omega,fun k hk _ => frb_low h k hk⟩
def simpleB : ByteArray := ⟨#[118,97,114,32,97,58,32,48,46,46,50,59,32,108,105,110,32,97,32,33,61,32,49,59]⟩
end
section
set_option maxHeartbeats 4000000
set_option maxRecDepth 100000
variable {w w' w1 : World} {B bw c : Nat} {V : LV} {D : LD} {K : Keep → Prop}
theorem infoIl : (Tryz.prog.info? 33).map (fun i => (i.zero,i.size,i.bytes)) = some (some (.slice none 0 0),1,24) := by kernel_rfl
theorem infoI9 : (Tryz.prog.info? 3).map (fun i => (i.zero,i.size,i.bytes)) = some (some (.int .i64 0),1,8) := by kernel_rfl
theorem it_one (x : Int) : ∀ u ∈ [Value.int .i64 x],u.oneCell' = true := by
 intro u hu;simp only [List.mem_cons,List.not_mem_nil,or_false] at hu;subst hu;rfl
theorem wrap_neg (c : Nat) (hc : c ≤ 100000000000) : IntKind.i64.wrap (-((c : Int) + 1)) = -((c : Int) + 1) := by
 rw [IntKind.wrap_i64];omega
theorem step_append_two {w : World} {ops : Array Oper} {o : Oper} {a : Act} {K : Act → World → Prop} {Q : Exit → Act → World → Prop} {E : Prop} (hgd : o.guard = none) (s x : Operand) (t : TypeId) (ho : o.op = .call { callee := .builtin .append,args := #[s,x],argTypes := #[t,t] })
  (base : Nat) (e : TypeId) (i : TypeInfo) (z : Value) (size bytes : Nat) (ht : Tryz.prog.underlying t = some (.slice e)) (hi : Tryz.prog.info? e = some i) (hz : i.zero = some z)
  (hsize : i.size = size) (hby : i.bytes = bytes) (hzs : z.cells.size = size) (hsz : 0 < size) (v : Value) (n : Nat) (xs : List Value) (hs : a.eval s = v) (hown : w.ownsRow base e size v n xs)
  (ad : Addr) (m c : Nat) (news : List Value) (hx : a.eval x = .slice (some ad) m c) (hl : news.length = m * size) (hnews : ∀ j u,news[j]? = some u → w.cell? (ad.add j) = some u) (h1 : ∀ u ∈ news,u.oneCell' = true)
  (h63 : n + m ≤ maxLen) (hbytes : (n + m) * bytes ≤ 140737488355328) (hbase : base ≤ w.heap.size)
  (h : ∀ v' w',w'.ownsRow base e size v' (n + m) (xs ++ news) → Grew w v v' w' → K (a.put o.dst v') w') :
  if Region.wanted o (yielded ops a.tmps) = true then Oper.wp Tryz.prog o a w K Q else E := by
 have hw : Region.wanted o (yielded ops a.tmps) = true := by simp [Region.wanted,hgd]
 rw [if_pos hw]
 obtain ⟨v',w',hr,h2,h3⟩ := run_append_two w base t o.type e i z size bytes ht hi hz hsize hby hzs hsz v n xs hown ad m c news hl hnews h1 h63 hbytes hbase
 unfold Oper.wp execOp
 simp only [ho,resolve,invoke,builtin,Sem.run_bind,Sem.run_pure,Result.andThen_ok,List.map_toArray,List.map_cons,List.map_nil,hs,hx,hr]
 exact h v' w' h2 h3
theorem law_ints (h : LW w B bw V D c K) {g n cap : Nat} {xs : List Value} (hl : w.ownsRow B 3 1 (.slice (some ⟨g,0,none⟩) n cap) n xs) (hf : Free bw V g) (hk : ∀ x,K x → g ∉ x.S) (hn : n ≤ 2000000) (hc : c ≤ 100000000000) (hcn : ∀ i,i < 7 → D.cnt i ≤ 100000000000) : Calls Tryz.prog 58 #[.pointer (some ⟨bw,0,none⟩),.slice (some ⟨g,0,none⟩) n cap] w fun e w' => e = .returned (.tuple #[]) ∧ ∃ V' K' L,LW w' B bw V' (pushAll D 3 L) (c + 1) K' ∧ Went w w' B bw g V V' K K' ∧ L.length ≤ 65 ∧ ∀ x ∈ L,K' (lstKeep x) ∧ x.mark = .int .i64 (-((c : Int) + 1)) ∧ x.len ≤ n + 65 := by
 obtain ⟨i1,hi1,hy0,hy1,hy2⟩ := info_parts infoIl
 obtain ⟨i2,hi2,hz0,hz1,hz2⟩ := info_parts infoI9
 have hBg : B ≤ g := (hl.lt g rfl).1
 have hgl : g < w.heap.size := (hl.lt g rfl).2
 have hBw := h.hB
 have hbl := h.slt
 have hgw : g ≠ bw := hf.1
 have HKS := hide (fun x hx k hk => ((h.kp x hx).2 k hk).1 : ∀ x,K x → ∀ k ∈ x.S,k < w.heap.size)
 have HF := hide hf
 have HK := hide hk
 have c7 : w.cell? ⟨bw,7,none⟩ = some (.int .i64 c) := cell_of h.blk 7 _ rfl
 have f7 : w.frozen? ⟨bw,7,none⟩ = false := frozen_of h.blk 7
 have hcnt := h.count (c + 1)
 have ec : ((c + 1 : Nat) : Int) = (c : Int) + 1 := by omega
 rw [ec] at hcnt
 have HC := hide hcnt
 have c8 : (w.setCell ⟨bw,7,none⟩ (.int .i64 ((c : Int) + 1))).cell? ⟨bw,7,none⟩ = some (.int .i64 ((c : Int) + 1)) := by
  have := cell_of hcnt.blk 7 (.int .i64 ((c + 1 : Nat) : Int)) rfl;rw [ec] at this;exact this
 have HL := hide (hl.kept (grown_set w bw 7 (.int .i64 ((c : Int) + 1))) (.inr (fun e => hgw (by simpa [Value.ownBlock] using e))))
 have hcn1 := hcn 3 (by omega)
 have hcn2 := hcn 4 (by omega)
 clear h hl hcnt hf hk hcn
 go_enter Tryz.func58,Tryz.ntmps58
 go_wp2
 have HA : Hid (TxA w B bw g cap n (c + 1) V D K 3 (.int .i64 (-((c : Int) + 1))) (.int .i64 0) (w.setCell ⟨bw,7,none⟩ (.int .i64 ((c : Int) + 1)))) := by
  refine ⟨0,_,by omega,rfl,by simp,HL.out,by rw [← ec] at HC ⊢;exact HC.out,fun k h1 h2 h3 => ?_,(FrB.refl B bw w).grown hBw (grown_set w bw 7 _) (fun k e => by cases e;exact .inl rfl)⟩
  exact (grown_set w bw 7 _).block k h1 (fun e => h2.1 (Option.some.inj e))
 generalize (w.setCell ⟨bw,7,none⟩ (.int .i64 ((c : Int) + 1))) = w1 at *
 clear HL HC c7 f7 c8
 go_loopw [4] (fun vi wr => TxA w B bw g cap n (c + 1) V D K 3 (.int .i64 (-((c : Int) + 1))) vi wr) (fun vi _ => n - (intOf vi).toNat)
 case atStart => exact HA.out
 case round =>
  clear HA
  obtain ⟨i,xs,hi,rfl,hxs,hown,hlw,hwb,hfr⟩ := hrel
  have hxl : xs.length = n := by simpa using hown.1
  by_cases hlt : i < n
  ·have hlt3 : (i : Int) < n := by omega
   have h03 : (0 : Int) ≤ i := by omega
   have k1 : wr.cell? ⟨g,i,none⟩ = some (xs[i]'(by omega)) := by rw [hown.cellAt i (by omega)];simp [hxl,hlt]
   have k2 := hown.frozenAt i
   have k7 : wr.cell? ⟨bw,7,none⟩ = some (.int .i64 ((c : Int) + 1)) := by have q := cell_of hlw.blk 7 (.int .i64 ((c + 1 : Nat) : Int)) rfl;rw [ec] at q;exact q
   have HN := hide (TxA.step hlt hxs hown hlw hwb hfr HF.out HK.out hBg)
   clear hown hxs hlw hwb hfr
   go_wp2
   go_roundw
   case rel => exact HN.out
   case measure => simp [intOf];omega
  ·obtain rfl : n = i := by omega
   have HB := hide (TxA.last 3 hxs hown hlw hwb hfr HF.out HK.out)
   clear hown hxs hlw hwb hfr
   go_wp2
   go_loopw [1,5] (fun vl vi wr => TxB w B bw g n (c + 1) V D K 3 3 (.int .i64 (-((c : Int) + 1))) vl vi wr) (fun _ vi _ => 65 - (intOf vi).toNat)
   case atStart => exact HB.out
   case round =>
    clear HB
    obtain ⟨i,gi,cap',V1,D1,L,hi,rfl,rfl,hLl,hT⟩ := hrel
    have k7 : wr.cell? ⟨bw,7,none⟩ = some (.int .i64 ((c : Int) + 1)) := by have q := cell_of hT.lw.blk 7 (.int .i64 ((c + 1 : Nat) : Int)) rfl;rw [ec] at q;exact q
    by_cases h65 : i ≤ 64
    ·have h65' : (i : Int) ≤ 64 := by omega
     by_cases h3 : i < 3
     ·have h3' : (i : Int) < 3 := by omega
      obtain ⟨na,nc,en⟩ := own_slice_n (hT.lw.own 3 (by omega))
      obtain ⟨ka,kc,ek⟩ := own_slice_n (hT.lw.own 4 (by omega))
      have o1 : wr.ownsRow B 33 1 (.slice na (D1.cnt 3) nc) (D1.cnt 3) (D1.cells 3) := by rw [← en];exact hT.lw.own 3 (by omega)
      have m1 : wr.cell? ⟨bw,3,none⟩ = some (.slice na (D1.cnt 3) nc) := by rw [← en];exact cell_of hT.lw.blk 3 _ rfl
      have hc1 : D1.cnt 3 ≤ D.cnt 3 + L.length := by rw [hT.d];exact pushAll_cnt D (.inr (.inl rfl)) L 3 (by omega)
      have hc2 : D1.cnt 4 ≤ D.cnt 4 + L.length := by rw [hT.d];exact pushAll_cnt D (.inr (.inl rfl)) L 4 (by omega)
      have HT := hide hT
      have HEN := hide en
      have HEK := hide ek
      have hsz := hT.lw.hB
      have hsl := hT.lw.slt
      clear hT en ek
      go_wp2_with (at_builtin;refine wpList_append_two rfl _ _ 30 rfl B 33 i1 (.slice none 0 0) 1 24 Tryz.underlying30 hi1 hy0 hy1 hy2 rfl (by decide) _ _ _ rfl (o1.alloc _) ⟨wr.heap.size,0,none⟩ 1 1 [.slice (some ⟨gi,0,none⟩) (n + i) cap'] rfl rfl (World.news_of_block (heap_alloc_new _ _)) (sl_one _ _ _) ?c3 ?c4 ?c5 ?_)
      case c3 => unfold maxLen;omega
      case c4 => omega
      case c5 => simp;omega
      intro v1 w2 ho1 hg1
      have ga1 := hg1
      rw [← HEN.out] at ga1
      have l1 := (HT.out.lw.alloc _).push (D' := D1.pl 3 ⟨gi,n + i,cap',.int .i64 (-((c : Int) + 1))⟩) (i := 3) (by omega) ho1 ga1 (fun j hj => pl_cnt _ _ (.inr (.inl rfl)) hj) (fun j hj => pl_cells _ _ (.inr (.inl rfl)) hj)
      obtain ⟨xa,xm,xc,rfl⟩ := own_slice ho1
      have f2 : w2.frozen? ⟨bw,3,none⟩ = false := frozen_of ((hg1.by.block bw (by simp;omega) (fun e => by have := (o1.lt bw e.symm).1;have := HT.out.lw.lt;omega)).trans (heap_alloc_old wr _ hsl |>.trans HT.out.lw.blk)) 3
      have m2 : w2.cell? ⟨bw,3,none⟩ = some (.slice na (D1.cnt 3) nc) := hg1.by.cell ((World.grownBy_alloc wr _ none).cell m1 (by simp)) (fun e => by have := (o1.lt bw e.symm).1;have := HT.out.lw.lt;omega)
      have o2 : (w2.setCell ⟨bw,3,none⟩ (.slice xa xm xc)).ownsRow B 3 1 (.slice ka (D1.cnt 4) kc) (D1.cnt 4) (D1.cells 4) := by rw [← HEK.out];exact l1.own 4 (by omega)
      have m3 : (w2.setCell ⟨bw,3,none⟩ (.slice xa xm xc)).cell? ⟨bw,4,none⟩ = some (.slice ka (D1.cnt 4) kc) := by rw [← HEK.out];exact cell_of l1.blk 4 _ rfl
      have hzA : (w2.setCell ⟨bw,3,none⟩ (.slice xa xm xc)).heap.size = w2.heap.size := by simp [World.setCell]
      have N2 : ∀ j u,[Value.int .i64 (-((c : Int) + 1))][j]? = some u → ((w2.setCell ⟨bw,3,none⟩ (.slice xa xm xc)).alloc (.cells #[.int .i64 (-((c : Int) + 1))] 3)).cell? ((⟨w2.heap.size,0,none⟩ : Addr).add j) = some u := by rw [← hzA];exact World.news_of_block (heap_alloc_new _ _)
      have hsz2 := l1.hB
      have hsl2 := l1.slt
      have HL1 := hide l1
      have HO1 := hide ho1
      have HG1 := hide hg1
      clear l1 ho1 hg1 o1 m1 ga1
      have k72 : (w2.setCell ⟨bw,3,none⟩ (.slice xa xm xc)).cell? ⟨bw,7,none⟩ = some (.int .i64 ((c : Int) + 1)) := by have q := cell_of HL1.out.blk 7 (.int .i64 ((c + 1 : Nat) : Int)) rfl;rw [ec] at q;exact q
      have o2d := (o2.alloc (.cells #[.int .i64 (-((c : Int) + 1))] 3)).kept (grown_drew' _ none) (own_none _)
      have N2d : ∀ j u,[Value.int .i64 (-((c : Int) + 1))][j]? = some u → ((w2.setCell ⟨bw,3,none⟩ (.slice xa xm xc)).alloc (.cells #[.int .i64 (-((c : Int) + 1))] 3)).drew.cell? ((⟨w2.heap.size,0,none⟩ : Addr).add j) = some u := by rw [← hzA];exact World.news_of_block (w := (w2.setCell ⟨bw,3,none⟩ (.slice xa xm xc)).alloc (.cells #[.int .i64 (-((c : Int) + 1))] 3)) (heap_alloc_new _ _)
      have hg0 : (w2.setCell ⟨bw,3,none⟩ (.slice xa xm xc)).grownBy ((w2.setCell ⟨bw,3,none⟩ (.slice xa xm xc)).alloc (.cells #[.int .i64 (-((c : Int) + 1))] 3)).drew none := (World.grownBy_alloc _ _ none).trans (grown_drew' _ none)
      have HG0 := hide hg0
      have hszd : B ≤ ((w2.setCell ⟨bw,3,none⟩ (.slice xa xm xc)).alloc (.cells #[.int .i64 (-((c : Int) + 1))] 3)).drew.heap.size := Nat.le_trans hsz2 hg0.size
      have HF4 : Hid (∀ (v3 : Value) (w3 : World),Grew ((w2.setCell ⟨bw,3,none⟩ (.slice xa xm xc)).alloc (.cells #[.int .i64 (-((c : Int) + 1))] 3)).drew (.slice ka (D1.cnt 4) kc) v3 w3 → w3.frozen? ⟨bw,4,none⟩ = false ∧ w3.cell? ⟨bw,4,none⟩ = some (.slice ka (D1.cnt 4) kc)) := fun v3 w3 hg3 => by
       have hne : some bw ≠ (Value.slice ka (D1.cnt 4) kc).ownBlock := fun e => by have := (o2.lt bw e.symm).1;have := HL1.out.lt;omega
       have hbk := (hg3.by.block bw (Nat.lt_of_lt_of_le hsl2 HG0.out.size) hne).trans ((HG0.out.block bw hsl2 (by simp)).trans HL1.out.blk)
       exact ⟨frozen_of hbk 4,hg3.by.cell (HG0.out.cell m3 (by simp)) hne⟩
      have hwr : IntKind.i64.wrap (-((c : Int) + 1)) = (-((c : Int) + 1)) := wrap_neg c hc
      have HWR := hide hwr
      have m3d : ∀ o,((w2.setCell ⟨bw,3,none⟩ (.slice xa xm xc)).alloc o).drew.cell? ⟨bw,4,none⟩ = some (.slice ka (D1.cnt 4) kc) := fun o => ((World.grownBy_alloc _ o none).trans (grown_drew' _ none)).cell m3 (by simp)
      clear hg0 hwr
      clear N2
      go_wp2
      go_region_law (refine step_append_two (by rfl) _ _ 33 (by rfl) B 3 i2 (.int .i64 0) 1 8 Tryz.underlying33 hi2 hz0 hz1 hz2 rfl (by decide) (.slice ka (D1.cnt 4) kc) (D1.cnt 4) (D1.cells 4) (by rfl) (by rw [HWR.out];exact o2d) ⟨w2.heap.size,0,none⟩ 1 1 [.int .i64 (-((c : Int) + 1))] (by rfl) rfl (by rw [HWR.out];exact N2d) (it_one _) (by unfold maxLen;omega) (by omega) (by rw [HWR.out];exact hszd) ?_;intro v3 w3 ho3 hg3;rw [HWR.out] at hg3;have fm4 := HF4.out v3 w3 hg3;have f4 := fm4.1;have m4 := fm4.2;obtain ⟨ya,ym,yc,rfl⟩ := own_slice ho3)
      all_goals
       have ga := HG1.out
       rw [← HEN.out] at ga
       have gb := hg3
       rw [← HEK.out] at gb
       obtain ⟨V2,D2,hT2⟩ := HT.out.push (.inr (.inl rfl)) HO1.out (World.grownBy_alloc _ _ _) ga ho3 HG0.out gb
       have o5 := hT2.own
       have HT2 := hide hT2
       have hzB : (w3.setCell ⟨bw,4,none⟩ (.slice ya ym yc)).heap.size = w3.heap.size := by simp [World.setCell]
       have hsz5 : B ≤ w3.heap.size := by rw [← hzB];exact hT2.lw.hB
       have N3 : ∀ j u,[Value.int .i64 (-((c : Int) + 1))][j]? = some u → ((w3.setCell ⟨bw,4,none⟩ (.slice ya ym yc)).alloc (.cells #[.int .i64 (-((c : Int) + 1))] 3)).cell? ((⟨w3.heap.size,0,none⟩ : Addr).add j) = some u := by rw [← hzB];exact World.news_of_block (heap_alloc_new _ _)
       have k73 : (w3.setCell ⟨bw,4,none⟩ (.slice ya ym yc)).cell? ⟨bw,7,none⟩ = some (.int .i64 ((c : Int) + 1)) := by have q := cell_of HT2.out.lw.blk 7 (.int .i64 ((c + 1 : Nat) : Int)) rfl;rw [ec] at q;exact q
       clear ga gb hzA hT2 ho3 hg3 o2 m3 HL1 HO1 HG1 HT HEN HEK m2 f2 k72 m3d o2d N2d hszd HF4 HG0 HWR fm4
       go_wp2_with (at_builtin;refine wpList_append_two rfl _ _ 33 rfl B 3 i2 (.int .i64 0) 1 8 Tryz.underlying33 hi2 hz0 hz1 hz2 rfl (by decide) _ _ _ rfl (o5.alloc _) ⟨w3.heap.size,0,none⟩ 1 1 [.int .i64 (-((c : Int) + 1))] rfl rfl N3 (it_one _) ?c3 ?c4 ?c5 ?_)
       case c3 => unfold maxLen;omega
       case c4 => omega
       case c5 => simp;omega
       intro v5 w5 ho5 hg5
       obtain ⟨gi',cap2,rfl,hT3⟩ := HT2.out.app hBg hBw ho5 (World.grownBy_alloc _ _ _) hg5 HKS.out
       have HT3 := hide hT3
       clear hT3 ho5 hg5 HT2 o5 m4 f4
       go_wp2
       go_roundw
       case rel => exact ⟨i + 1,gi',cap2,V2,D2,_,by omega,by go_num,rfl,by simp;omega,HT3.out⟩
       case measure => simp [intOf];omega
     ·have h3' : decide ((i : Int) < 3) = false := by simp;omega
      by_cases h64 : i = 64
      ·have h64' : ((i : Int) == 64) = true := by simp;omega
       clear h64
       obtain ⟨na,nc,en⟩ := own_slice_n (hT.lw.own 3 (by omega))
       obtain ⟨ka,kc,ek⟩ := own_slice_n (hT.lw.own 4 (by omega))
       have o1 : wr.ownsRow B 33 1 (.slice na (D1.cnt 3) nc) (D1.cnt 3) (D1.cells 3) := by rw [← en];exact hT.lw.own 3 (by omega)
       have m1 : wr.cell? ⟨bw,3,none⟩ = some (.slice na (D1.cnt 3) nc) := by rw [← en];exact cell_of hT.lw.blk 3 _ rfl
       have hc1 : D1.cnt 3 ≤ D.cnt 3 + L.length := by rw [hT.d];exact pushAll_cnt D (.inr (.inl rfl)) L 3 (by omega)
       have hc2 : D1.cnt 4 ≤ D.cnt 4 + L.length := by rw [hT.d];exact pushAll_cnt D (.inr (.inl rfl)) L 4 (by omega)
       have HT := hide hT
       have HEN := hide en
       have HEK := hide ek
       have hsz := hT.lw.hB
       have hsl := hT.lw.slt
       clear hT en ek
       go_wp2_with (at_builtin;refine wpList_append_two rfl _ _ 30 rfl B 33 i1 (.slice none 0 0) 1 24 Tryz.underlying30 hi1 hy0 hy1 hy2 rfl (by decide) _ _ _ rfl (o1.alloc _) ⟨wr.heap.size,0,none⟩ 1 1 [.slice (some ⟨gi,0,none⟩) (n + i) cap'] rfl rfl (World.news_of_block (heap_alloc_new _ _)) (sl_one _ _ _) ?c3 ?c4 ?c5 ?_)
       case c3 => unfold maxLen;omega
       case c4 => omega
       case c5 => simp;omega
       intro v1 w2 ho1 hg1
       have ga1 := hg1
       rw [← HEN.out] at ga1
       have l1 := (HT.out.lw.alloc _).push (D' := D1.pl 3 ⟨gi,n + i,cap',.int .i64 (-((c : Int) + 1))⟩) (i := 3) (by omega) ho1 ga1 (fun j hj => pl_cnt _ _ (.inr (.inl rfl)) hj) (fun j hj => pl_cells _ _ (.inr (.inl rfl)) hj)
       obtain ⟨xa,xm,xc,rfl⟩ := own_slice ho1
       have f2 : w2.frozen? ⟨bw,3,none⟩ = false := frozen_of ((hg1.by.block bw (by simp;omega) (fun e => by have := (o1.lt bw e.symm).1;have := HT.out.lw.lt;omega)).trans (heap_alloc_old wr _ hsl |>.trans HT.out.lw.blk)) 3
       have m2 : w2.cell? ⟨bw,3,none⟩ = some (.slice na (D1.cnt 3) nc) := hg1.by.cell ((World.grownBy_alloc wr _ none).cell m1 (by simp)) (fun e => by have := (o1.lt bw e.symm).1;have := HT.out.lw.lt;omega)
       have o2 : (w2.setCell ⟨bw,3,none⟩ (.slice xa xm xc)).ownsRow B 3 1 (.slice ka (D1.cnt 4) kc) (D1.cnt 4) (D1.cells 4) := by rw [← HEK.out];exact l1.own 4 (by omega)
       have m3 : (w2.setCell ⟨bw,3,none⟩ (.slice xa xm xc)).cell? ⟨bw,4,none⟩ = some (.slice ka (D1.cnt 4) kc) := by rw [← HEK.out];exact cell_of l1.blk 4 _ rfl
       have hzA : (w2.setCell ⟨bw,3,none⟩ (.slice xa xm xc)).heap.size = w2.heap.size := by simp [World.setCell]
       have N2 : ∀ j u,[Value.int .i64 (-((c : Int) + 1))][j]? = some u → ((w2.setCell ⟨bw,3,none⟩ (.slice xa xm xc)).alloc (.cells #[.int .i64 (-((c : Int) + 1))] 3)).cell? ((⟨w2.heap.size,0,none⟩ : Addr).add j) = some u := by rw [← hzA];exact World.news_of_block (heap_alloc_new _ _)
       have hsz2 := l1.hB
       have hsl2 := l1.slt
       have HL1 := hide l1
       have HO1 := hide ho1
       have HG1 := hide hg1
       clear l1 ho1 hg1 o1 m1 ga1
       have k72 : (w2.setCell ⟨bw,3,none⟩ (.slice xa xm xc)).cell? ⟨bw,7,none⟩ = some (.int .i64 ((c : Int) + 1)) := by have q := cell_of HL1.out.blk 7 (.int .i64 ((c + 1 : Nat) : Int)) rfl;rw [ec] at q;exact q
       have o2d := (o2.alloc (.cells #[.int .i64 (-((c : Int) + 1))] 3)).kept (grown_drew' _ none) (own_none _)
       have N2d : ∀ j u,[Value.int .i64 (-((c : Int) + 1))][j]? = some u → ((w2.setCell ⟨bw,3,none⟩ (.slice xa xm xc)).alloc (.cells #[.int .i64 (-((c : Int) + 1))] 3)).drew.cell? ((⟨w2.heap.size,0,none⟩ : Addr).add j) = some u := by rw [← hzA];exact World.news_of_block (w := (w2.setCell ⟨bw,3,none⟩ (.slice xa xm xc)).alloc (.cells #[.int .i64 (-((c : Int) + 1))] 3)) (heap_alloc_new _ _)
       have hg0 : (w2.setCell ⟨bw,3,none⟩ (.slice xa xm xc)).grownBy ((w2.setCell ⟨bw,3,none⟩ (.slice xa xm xc)).alloc (.cells #[.int .i64 (-((c : Int) + 1))] 3)).drew none := (World.grownBy_alloc _ _ none).trans (grown_drew' _ none)
       have HG0 := hide hg0
       have hszd : B ≤ ((w2.setCell ⟨bw,3,none⟩ (.slice xa xm xc)).alloc (.cells #[.int .i64 (-((c : Int) + 1))] 3)).drew.heap.size := Nat.le_trans hsz2 hg0.size
       have HF4 : Hid (∀ (v3 : Value) (w3 : World),Grew ((w2.setCell ⟨bw,3,none⟩ (.slice xa xm xc)).alloc (.cells #[.int .i64 (-((c : Int) + 1))] 3)).drew (.slice ka (D1.cnt 4) kc) v3 w3 → w3.frozen? ⟨bw,4,none⟩ = false ∧ w3.cell? ⟨bw,4,none⟩ = some (.slice ka (D1.cnt 4) kc)) := fun v3 w3 hg3 => by
        have hne : some bw ≠ (Value.slice ka (D1.cnt 4) kc).ownBlock := fun e => by have := (o2.lt bw e.symm).1;have := HL1.out.lt;omega
        have hbk := (hg3.by.block bw (Nat.lt_of_lt_of_le hsl2 HG0.out.size) hne).trans ((HG0.out.block bw hsl2 (by simp)).trans HL1.out.blk)
        exact ⟨frozen_of hbk 4,hg3.by.cell (HG0.out.cell m3 (by simp)) hne⟩
       have hwr : IntKind.i64.wrap (-((c : Int) + 1)) = (-((c : Int) + 1)) := wrap_neg c hc
       have HWR := hide hwr
       have m3d : ∀ o,((w2.setCell ⟨bw,3,none⟩ (.slice xa xm xc)).alloc o).drew.cell? ⟨bw,4,none⟩ = some (.slice ka (D1.cnt 4) kc) := fun o => ((World.grownBy_alloc _ o none).trans (grown_drew' _ none)).cell m3 (by simp)
       clear hg0 hwr
       clear N2
       go_wp2
       go_region_law (refine step_append_two (by rfl) _ _ 33 (by rfl) B 3 i2 (.int .i64 0) 1 8 Tryz.underlying33 hi2 hz0 hz1 hz2 rfl (by decide) (.slice ka (D1.cnt 4) kc) (D1.cnt 4) (D1.cells 4) (by rfl) (by rw [HWR.out];exact o2d) ⟨w2.heap.size,0,none⟩ 1 1 [.int .i64 (-((c : Int) + 1))] (by rfl) rfl (by rw [HWR.out];exact N2d) (it_one _) (by unfold maxLen;omega) (by omega) (by rw [HWR.out];exact hszd) ?_;intro v3 w3 ho3 hg3;rw [HWR.out] at hg3;have fm4 := HF4.out v3 w3 hg3;have f4 := fm4.1;have m4 := fm4.2;obtain ⟨ya,ym,yc,rfl⟩ := own_slice ho3)
       all_goals
        have ga := HG1.out
        rw [← HEN.out] at ga
        have gb := hg3
        rw [← HEK.out] at gb
        obtain ⟨V2,D2,hT2⟩ := HT.out.push (.inr (.inl rfl)) HO1.out (World.grownBy_alloc _ _ _) ga ho3 HG0.out gb
        have o5 := hT2.own
        have HT2 := hide hT2
        have hzB : (w3.setCell ⟨bw,4,none⟩ (.slice ya ym yc)).heap.size = w3.heap.size := by simp [World.setCell]
        have hsz5 : B ≤ w3.heap.size := by rw [← hzB];exact hT2.lw.hB
        have N3 : ∀ j u,[Value.int .i64 (-((c : Int) + 1))][j]? = some u → ((w3.setCell ⟨bw,4,none⟩ (.slice ya ym yc)).alloc (.cells #[.int .i64 (-((c : Int) + 1))] 3)).cell? ((⟨w3.heap.size,0,none⟩ : Addr).add j) = some u := by rw [← hzB];exact World.news_of_block (heap_alloc_new _ _)
        have k73 : (w3.setCell ⟨bw,4,none⟩ (.slice ya ym yc)).cell? ⟨bw,7,none⟩ = some (.int .i64 ((c : Int) + 1)) := by have q := cell_of HT2.out.lw.blk 7 (.int .i64 ((c + 1 : Nat) : Int)) rfl;rw [ec] at q;exact q
        clear ga gb hzA hT2 ho3 hg3 o2 m3 HL1 HO1 HG1 HT HEN HEK m2 f2 k72 m3d o2d N2d hszd HF4 HG0 HWR fm4
        go_wp2_with (at_builtin;refine wpList_append_two rfl _ _ 33 rfl B 3 i2 (.int .i64 0) 1 8 Tryz.underlying33 hi2 hz0 hz1 hz2 rfl (by decide) _ _ _ rfl (o5.alloc _) ⟨w3.heap.size,0,none⟩ 1 1 [.int .i64 (-((c : Int) + 1))] rfl rfl N3 (it_one _) ?c3 ?c4 ?c5 ?_)
        case c3 => unfold maxLen;omega
        case c4 => omega
        case c5 => simp;omega
        intro v5 w5 ho5 hg5
        obtain ⟨gi',cap2,rfl,hT3⟩ := HT2.out.app hBg hBw ho5 (World.grownBy_alloc _ _ _) hg5 HKS.out
        have HT3 := hide hT3
        clear hT3 ho5 hg5 HT2 o5 m4 f4
        go_wp2
        go_roundw
        case rel => exact ⟨i + 1,gi',cap2,V2,D2,_,by omega,by go_num,rfl,by simp;omega,HT3.out⟩
        case measure => simp [intOf];omega
      ·have h64' : ((i : Int) == 64) = false := by simp;omega
       have o5 := hT.own
       have hsz5 := hT.lw.hB
       have HT2 := hide hT
       clear hT
       go_wp2_with (at_builtin;refine wpList_append_two rfl _ _ 33 rfl B 3 i2 (.int .i64 0) 1 8 Tryz.underlying33 hi2 hz0 hz1 hz2 rfl (by decide) _ _ _ rfl (o5.alloc _) ⟨wr.heap.size,0,none⟩ 1 1 [.int .i64 (-((c : Int) + 1))] rfl rfl (World.news_of_block (heap_alloc_new _ _)) (it_one _) ?c3 ?c4 ?c5 ?_)
       case c3 => unfold maxLen;omega
       case c4 => omega
       case c5 => simp;omega
       intro v5 w5 ho5 hg5
       obtain ⟨gi',cap2,rfl,hT3⟩ := HT2.out.app hBg hBw ho5 (World.grownBy_alloc _ _ _) hg5 HKS.out
       have HT3 := hide hT3
       clear hT3 ho5 hg5 HT2 o5
       go_wp2
       go_roundw
       case rel => exact ⟨i + 1,gi',cap2,V1,D1,_,by omega,by go_num,rfl,by omega,HT3.out⟩
       case measure => simp [intOf];omega
    ·obtain rfl : i = 65 := by omega
     obtain ⟨K',q1,q2,q3⟩ := hT.done
     have hd := hT.d
     subst hd
     have HQ := hide (And.intro q1 (And.intro q2 q3))
     clear q1 q2 q3 hT
     go_wp2
     go_end0
     exact ⟨rfl,V1,K',L,HQ.out.1,HQ.out.2.1,by omega,HQ.out.2.2⟩
end
end Go.Proofs.YthpcbbnabnlanaaGreatDoor
