import Derived.Test.YthpcbbnabnlanaaGreatDoorM01
import Derived.Test.YthpcbbnabnlanaaGreatDoorM10
import Derived.Test.YthpcbbnabnlanaaGreatDoorM16
import Derived.Deep.LoopGhost
import Derived.Deep.QuietTactic
import Derived.BigQuiet
import Derived.Deep.DeepMust
import Derived.Deep.RegionHeld3
import Derived.Deep.DrawnRows
import Derived.Deep.Light
namespace Go.Proofs.YthpcbbnabnlanaaGreatDoor
open Go.RowKit
set_option linter.unusedVariables false
set_option linter.unusedSimpArgs false
section
set_option maxHeartbeats 2000000
set_option maxRecDepth 100000
attribute [local go_sem ↓] Go.wp_at_zero Go.wp_at_succ
theorem hidF {p : Prop} (h : p) : Hid p := h
theorem bcell {W w1 : World} (hb : Below W.heap.size W w1) : (∀ b o,b < W.heap.size → w1.cell? ⟨b,o,none⟩ = W.cell? ⟨b,o,none⟩) ∧ (∀ b o,b < W.heap.size → w1.frozen? ⟨b,o,none⟩ = W.frozen? ⟨b,o,none⟩) :=
 ⟨fun b o h => hb.cell (p := ⟨b,o,none⟩) h,fun b o h => hb.frozen (p := ⟨b,o,none⟩) h⟩
def RowAt (w : World) (v : Value) (n : Nat) (cs : List Value) : Prop :=
 (n = 0 ∧ v = .slice none 0 0) ∨ ∃ g off cap,v = .slice (some ⟨g,off,none⟩) n cap ∧ n ≤ cap ∧ g < w.heap.size ∧ ∀ j u,cs[j]? = some u → w.cell? ⟨g,off + j,none⟩ = some u
theorem RowAt.of_own {w : World} {base n : Nat} {e : TypeId} {v : Value} {xs : List Value} (h : w.ownsRow base e 1 v n xs) : RowAt w v n xs := by
 have hc := @World.ownsRow.cells w base e 1 v n xs h
 rcases h.2 with ⟨h1,h2⟩ | ⟨g,cap,cur,rfl,h2,h3,h4,_⟩
 ·exact .inl ⟨h2,h1⟩
 ·refine .inr ⟨g,0,cap,rfl,h4,?_,fun j u hu => ?_⟩
  ·rcases Nat.lt_or_ge g w.heap.size with hl | hl
   ·exact hl
   ·rw [Array.getElem?_eq_none hl] at h3;cases h3
  ·have hadd : (⟨g,0,none⟩ : Addr).add j = ⟨g,0 + j,none⟩ := by unfold Addr.add;split <;> simp_all
   rw [← hadd];exact hc rfl j u hu
theorem strCells_append (a b : List (List UInt8)) : strCells (a ++ b) = strCells a ++ strCells b := by simp [strCells]
theorem strCells_length (a : List (List UInt8)) : (strCells a).length = a.length := by simp [strCells]
theorem strCells_one (a : List (List UInt8)) : ∀ u ∈ strCells a,u.oneCell' = true := by
 intro u hu
 simp only [strCells,List.mem_map] at hu
 obtain ⟨x,_,rfl⟩ := hu
 rfl
def ShortO (o : Option (List (List UInt8))) : Prop := ∀ l,o = some l → l.length ≤ 7
theorem shortO_ite {c : Prop} [Decidable c] {a b : Option (List (List UInt8))} (ha : ShortO a) (hb : ShortO b) : ShortO (if c then a else b) := by split <;> assumption
theorem shortO_some {l : List (List UInt8)} (h : l.length ≤ 7) : ShortO (some l) := fun _ e => by cases e;exact h
theorem shortO_none : ShortO none := fun _ e => by cases e
theorem short_ite {c : Prop} [Decidable c] {a b : List (List UInt8)} (ha : a.length ≤ 7) (hb : b.length ≤ 7) : (if c then a else b).length ≤ 7 := by split <;> assumption
theorem becomes_short (y ts : List UInt8) (k : Int) : ShortO (becomes y k ts) := by
 exact shortO_ite (shortO_some (short_ite (by simp) (by simp))) (shortO_ite (shortO_some (short_ite (by simp) (short_ite (by simp) (short_ite (by simp) (short_ite (by simp) (short_ite (by simp) (short_ite (by simp) (by simp)))))))) (shortO_ite (shortO_some (short_ite (by simp) (by simp))) (shortO_ite (shortO_some (short_ite (by simp) (by simp))) (shortO_ite (shortO_some (short_ite (by simp) (by simp))) (shortO_ite (shortO_some (short_ite (by simp) (by simp))) (shortO_ite (shortO_some (by simp)) (shortO_ite (shortO_some (short_ite (by simp) (by simp))) (shortO_ite (shortO_some (short_ite (by simp) (by simp))) (shortO_ite (shortO_some (short_ite (by simp) (by simp))) shortO_none)))))))))
theorem becomes_len {y ts : List UInt8} {k : Int} {l : List (List UInt8)} (h : becomes y k ts = some l) : l.length ≤ 7 := becomes_short y ts k l h
theorem news_rest {wr w2 w3 : World} {o : Obj} {g off : Nat} {cs : List Value} (hcs : ∀ j u,cs[j]? = some u → wr.cell? ⟨g,off + 1 + j,none⟩ = some u) (hg : g < wr.heap.size) (hbel : Below (wr.alloc o).drew.heap.size (wr.alloc o).drew w2) (hgrow : w2.grownBy w3 none) : ∀ j u,cs[j]? = some u → w3.cell? ((⟨g,off + 1,none⟩ : Addr).add j) = some u := by
 intro j u hu
 have hs := hbel.size
 have hadd : (⟨g,off + 1,none⟩ : Addr).add j = ⟨g,off + 1 + j,none⟩ := by unfold Addr.add;split <;> simp_all
 have e1 : (wr.alloc o).drew.heap.size = wr.heap.size + 1 := by simp
 rw [hadd,hgrow.cell_far ⟨g,off + 1 + j,none⟩ (by show g < _;omega) (by simp),hbel.cell (p := ⟨g,off + 1 + j,none⟩) (by show g < _;omega)]
 have e2 : (wr.alloc o).drew.cell? ⟨g,off + 1 + j,none⟩ = wr.cell? ⟨g,off + 1 + j,none⟩ := World.cell?_of_block (by show (wr.alloc o).heap[g]? = _;exact Below.heap_alloc _ _ _ hg)
 rw [e2];exact hcs j u hu
theorem tail_off {g off cap : Nat} {rest : List (List UInt8)} {w : World} (hcap : rest.length + 1 ≤ cap) (h : ∀ j u,(strCells rest)[j]? = some u → w.cell? ((⟨g,off + 1,none⟩ : Addr).add j) = some u) : ∃ o1,(if cap = 1 then some (⟨g,off,none⟩ : Addr) else some ⟨g,off + 1,none⟩) = some ⟨g,o1,none⟩ ∧ ∀ j u,(strCells rest)[j]? = some u → w.cell? ((⟨g,o1,none⟩ : Addr).add j) = some u := by
 by_cases hc : cap = 1
 ·have hr : rest = [] := List.length_eq_zero_iff.1 (by omega)
  subst hr
  exact ⟨off,by rw [if_pos hc],fun j u hu => by simp [strCells] at hu⟩
 ·exact ⟨off + 1,by rw [if_neg hc],h⟩
theorem form_below {w wr w2 w3 w4 : World} {o : Obj} {v : Value} {e : TypeId} {n : Nat} {xs : List Value} (hb : Below w.heap.size w wr) (hbel : Below (wr.alloc o).drew.heap.size (wr.alloc o).drew w2) (hgrow3 : w2.grownBy w3 none) (hown : w3.ownsRow w.heap.size e 1 v n xs) (hgrow4 : w3.grownBy w4 v.ownBlock) : Below w.heap.size w w4 := by
 have e1 : (wr.alloc o).drew.heap.size = wr.heap.size + 1 := by simp
 have hs1 := hb.size
 have hs2 := hbel.size
 have h1 : Below w.heap.size w w2 := ((hb.alloc hb.size o).drew).trans (hbel.mono (by omega))
 have h2 := h1.grown hgrow3 (by omega) (fun k hk => by cases hk)
 exact h2.grown hgrow4 h2.size (fun k hk => (hown.lt k hk).1)
theorem form_below2 {w wr w2 : World} {o : Obj} (hb : Below w.heap.size w wr) (hbel : Below (wr.alloc o).drew.heap.size (wr.alloc o).drew w2) : Below w.heap.size w w2 := by
 have e1 : (wr.alloc o).drew.heap.size = wr.heap.size + 1 := by simp
 have hs1 := hb.size
 exact ((hb.alloc hb.size o).drew).trans (hbel.mono (by omega))
theorem row_rest {wr w2 : World} {o : Obj} {g off : Nat} {cs : List Value} (hcs : ∀ j u,cs[j]? = some u → wr.cell? ⟨g,off + 1 + j,none⟩ = some u) (hg : g < wr.heap.size) (hbel : Below (wr.alloc o).drew.heap.size (wr.alloc o).drew w2) : ∀ j u,cs[j]? = some u → w2.cell? ⟨g,off + 1 + j,none⟩ = some u := by
 intro j u hu
 have e1 : (wr.alloc o).drew.heap.size = wr.heap.size + 1 := by simp
 rw [hbel.cell (p := ⟨g,off + 1 + j,none⟩) (by show g < _;omega)]
 have e2 : (wr.alloc o).drew.cell? ⟨g,off + 1 + j,none⟩ = wr.cell? ⟨g,off + 1 + j,none⟩ := World.cell?_of_block (by show (wr.alloc o).heap[g]? = _;exact Below.heap_alloc _ _ _ hg)
 rw [e2];exact hcs j u hu
theorem fits_i {y : List UInt8} {t : PTok} {b : Bool} (h : (y == [73,78,84]) = true) (hk : (t.kind == 105) = b) : fits y t = b := by
 have h' : y = yINT := by simpa [yINT] using h
 unfold fits;rw [if_pos h',← hk];rfl
theorem fits_n {y : List UInt8} {t : PTok} {b : Bool} (h : (y == [73,78,84]) = false) (h2 : (y == [78,65,77,69]) = true) (hk : (t.kind == 110) = b) : fits y t = b := by
 have h' : ¬ y = yINT := by simpa [yINT] using h
 have h2' : y = yNAME := by simpa [yNAME] using h2
 unfold fits;rw [if_neg h',if_pos h2',← hk];rfl
theorem fits_o {y : List UInt8} {t : PTok} (h : (y == [73,78,84]) = false) (h2 : (y == [78,65,77,69]) = false) : fits y t = (y == t.s.toList && t.kind != 101) := by
 have h' : ¬ y = yINT := by simpa [yINT] using h
 have h2' : ¬ y = yNAME := by simpa [yNAME] using h2
 unfold fits;rw [if_neg h',if_neg h2']
theorem fits_oy {y : List UInt8} {t : PTok} (h : (y == [73,78,84]) = false) (h2 : (y == [78,65,77,69]) = false) (e1 : (y == t.s.toList) = true) (e2 : (t.kind != 101) = true) : fits y t = true := by
 rw [fits_o h h2,e1,e2];rfl
theorem fits_on {y : List UInt8} {t : PTok} (h : (y == [73,78,84]) = false) (h2 : (y == [78,65,77,69]) = false) (e1 : (y == t.s.toList) = true) (e2 : (t.kind != 101) = false) : fits y t = false := by
 rw [fits_o h h2,e1,e2];rfl
theorem fits_oo {y : List UInt8} {t : PTok} (h : (y == [73,78,84]) = false) (h2 : (y == [78,65,77,69]) = false) (e1 : (y == t.s.toList) = false) : fits y t = false := by
 rw [fits_o h h2,e1];rfl
theorem stop_y {k a b : Int} (h : (k == 101) = true) : (if k = 101 then a else b) = a := if_pos (by simpa using h)
theorem stop_n {k a b : Int} (h : (k == 101) = false) : (if k = 101 then a else b) = b := if_neg (by simpa using h)
theorem fits_kind {y : List UInt8} {t : PTok} (h : fits y t = true) : t.kind ≠ 101 := by
 intro e
 unfold fits at h
 rw [e] at h
 split at h
 ·simp at h
 ·split at h
  ·simp at h
  ·simp at h
theorem fits_eof (y : List UInt8) : fits y eofTok = false := by
 cases h : fits y eofTok with
 | false => rfl
 | true => exact absurd rfl (fits_kind h)
theorem tail_off2 {g off cap : Nat} {rest : List (List UInt8)} {w : World} (hcap : rest.length + 1 ≤ cap) (h : ∀ j u,(strCells rest)[j]? = some u → w.cell? ⟨g,off + 1 + j,none⟩ = some u) : ∃ o1,(if cap = 1 then some (⟨g,off,none⟩ : Addr) else some ⟨g,off + 1,none⟩) = some ⟨g,o1,none⟩ ∧ ∀ j u,(strCells rest)[j]? = some u → w.cell? ⟨g,o1 + j,none⟩ = some u := by
 by_cases hc : cap = 1
 ·have hr : rest = [] := List.length_eq_zero_iff.1 (by omega)
  subst hr
  exact ⟨off,by rw [if_pos hc],fun j u hu => by simp [strCells] at hu⟩
 ·exact ⟨off + 1,by rw [if_neg hc],h⟩
theorem infoStr : (Tryz.prog.info? 9).map (fun i => (i.zero,i.size,i.bytes)) = some (some (.string .empty),1,16) := by kernel_rfl
def FormRel (toks : List PTok) (R : Int) (f : Nat) (w : World) (k : Nat) (vw vi : Value) (wr : World) : Prop :=
 ∃ (i : Nat) (want : List (List UInt8)),i ≤ toks.length ∧ vi = .int .i64 i ∧ Hid (formF k want (toks.drop i) = some R) ∧ RowAt wr vw want.length (strCells want) ∧ want.length + 7 * k ≤ 7 * f + 1 ∧ Below w.heap.size w wr
theorem ref_Form (toks : List PTok) (gt capt : Nat) (a0 : Option Addr) (ha : toks = [] ∨ a0 = some ⟨gt,0,none⟩) (w : World) (hn : toks.length ≤ 2000) (hgt0 : toks ≠ [] → gt < w.heap.size) (ht : ∀ j u,(refCells toks)[j]? = some u → w.cell? ⟨gt,j,none⟩ = some u) (f : Nat) (hf : f ≤ 1000000) (R : Int) (hR : formF f [yModel] toks = some R) : Calls Tryz.prog 53 #[.slice a0 toks.length capt] w fun e w' => e = .returned (.int .i64 R) ∧ Below w.heap.size w w' := by
 obtain ⟨i0,hi0,hz0,hz1,hz2⟩ := info_parts infoStr
 have HGT := hidF hgt0
 have HA := hidF ha
 clear hgt0 ha
 have HR : Hid (formF f [yModel] toks = some R) := hR
 clear hR
 have HT : Hid (∀ j u,(refCells toks)[j]? = some u → w.cell? ⟨gt,j,none⟩ = some u) := ht
 clear ht
 go_enter Tryz.func53,Tryz.ntmps53
 go_wp2
 go_loopg [3,4] f (fun k vw vi wr => FormRel toks R f w k vw vi wr)
 case atStart => exact ⟨0,[yModel],by omega,rfl,HR,RowAt.of_own (own_lit (base := w.heap.size) #[.string (bs yModel)] (Nat.le_refl _) (by unfold maxLen;simp)),by simp;omega,(Below.refl _ _).alloc (Nat.le_refl _) _⟩
 case round =>
  obtain ⟨i,want,hi,rfl,hF,hrow,hwl,hb⟩ := hrel
  obtain ⟨k,rfl⟩ : ∃ k,gk = k + 1 := by
   cases gk with
   | zero => cases hF.out
   | succ k => exact ⟨k,rfl⟩
  cases want with
  | nil =>
   have hlen : ∃ a cap,u3 = Value.slice a 0 cap := by
    rcases hrow with ⟨_,h⟩ | ⟨g,off,cap,h,_⟩
    ·exact ⟨_,_,h⟩
    ·exact ⟨_,_,h⟩
   obtain ⟨aw,cap,rfl⟩ := hlen
   have hR := hF.out
   rw [formF_nil] at hR
   clear hrow hF
   by_cases hlt : i < toks.length
   ·obtain rfl : a0 = some ⟨gt,0,none⟩ := by
     rcases HA.out with h | h
     ·rw [h] at hlt;simp at hlt
     ·exact h
    have hgt : gt < w.heap.size := HGT.out (fun e => by rw [e] at hlt;simp at hlt)
    have hgt' : gt < wr.heap.size := by have := hb.size;omega
    obtain ⟨t,htk⟩ : ∃ t,toks[i]? = some t := ⟨toks[i],by simp [hlt]⟩
    have hc3 := refCells_get toks i t htk
    have hc2 : wr.cell? ⟨gt,i * 3 + 2,none⟩ = some (.int .i64 t.line) := (hb.cell hgt).trans (HT.out _ _ hc3.2.2)
    have hd : toks.drop i = t :: toks.drop (i + 1) := by
     rw [List.drop_eq_getElem_cons hlt]
     simp [hlt] at htk;rw [htk]
    rw [hd] at hR
    have HRR : Hid (R = t.line) := (Option.some.inj hR).symm
    clear hd hR hc3 htk
    go_wp2
    go_ret
    exact ⟨ret_int HRR.out.symm,hb⟩
   ·rw [List.drop_eq_nil_of_le (by omega)] at hR
    have HRR : Hid (R = 0) := (Option.some.inj hR).symm
    have hge : (toks.length : Int) ≤ (i : Int) := by omega
    clear hR hlt
    go_wp2
    go_ret
    exact ⟨ret_int HRR.out.symm,hb⟩
  | cons y rest =>
   rcases hrow with ⟨h0,_⟩ | ⟨g,off,cap,rfl,hcap,hg,hcs⟩
   ·simp at h0
   have hg2 : g < wr.heap.size + 1 := by omega
   have hw0 : wr.cell? ⟨g,off,none⟩ = some (.string (bs y)) := hcs 0 _ rfl
   have HCS : Hid (∀ j u,(strCells rest)[j]? = some u → wr.cell? ⟨g,off + 1 + j,none⟩ = some u) := fun j u hu => by
    have := hcs (j + 1) u (by simpa [strCells] using hu)
    rw [show off + 1 + j = off + (j + 1) by omega];exact this
   clear hcs
   by_cases hlt : i < toks.length
   ·obtain rfl : a0 = some ⟨gt,0,none⟩ := by
     rcases HA.out with h | h
     ·rw [h] at hlt;simp at hlt
     ·exact h
    have hgt : gt < w.heap.size := HGT.out (fun e => by rw [e] at hlt;simp at hlt)
    have hgt' : gt < wr.heap.size := by have := hb.size;omega
    obtain ⟨t,htk⟩ : ∃ t,toks[i]? = some t := ⟨toks[i],by simp [hlt]⟩
    have hc3 := refCells_get toks i t htk
    have hc0 : wr.cell? ⟨gt,i * 3,none⟩ = some (.string t.s) := (hb.cell hgt).trans (HT.out _ _ hc3.1)
    have hc1 : wr.cell? ⟨gt,i * 3 + 1,none⟩ = some (.int .u8 t.kind) := (hb.cell hgt).trans (HT.out _ _ hc3.2.1)
    have hc2 : wr.cell? ⟨gt,i * 3 + 2,none⟩ = some (.int .i64 t.line) := (hb.cell hgt).trans (HT.out _ _ hc3.2.2)
    have HH : Hid (hand (toks.drop i) = t) := by
     unfold Hid hand
     rw [List.headD_eq_head?_getD,List.head?_drop,htk];rfl
    have HL : Hid (t.kind ≠ 101 → i < toks.length) := fun _ => hlt
    clear hc3 htk
    go_wp2
    cases hbc : becomes y t.kind t.s.toList with
    | some next =>
     have hnl := becomes_len hbc
     have HO : Hid (becomes (bs y).toList t.kind t.s.toList = some next) := by unfold Hid;rw [bs_toList];exact hbc
     have HF : Hid (formF k (next ++ rest) (toks.drop i) = some R) := by
      rw [← hF.out];exact (formF_some (by rw [HH.out];exact hbc)).symm
     clear hbc hF
     go_region_held3 (fun w' => w'.cell? ⟨g,off,none⟩ = some (.string (bs y)) ∧ w'.cell? ⟨wr.heap.size,0,none⟩ = some (.string t.s) ∧ w'.cell? ⟨wr.heap.size,1,none⟩ = some (.int .u8 t.kind) ∧ w'.cell? ⟨wr.heap.size,2,none⟩ = some (.int .i64 t.line)) (go_keep)
      (first | (go_at_call 94;refine (ref_becomes_some _ _ _ _ _ _ HO.out).mono ?_;rintro e w2 ⟨gn,rfl,hown2,hbel2⟩;obtain ⟨hcl,hfz⟩ := bcell hbel2))
     have hsz2 : wr.heap.size + 1 ≤ w2.heap.size := by have := hbel2.size;simpa using this
     have hbw := hb.size
     go_wp2_with (at_builtin;refine wpList_append_own _ rfl _ _ 37 rfl w.heap.size 9 i0 (.string .empty) 1 16 Tryz.underlying37 hi0 hz0 hz1 hz2 rfl (by decide) _ _ _ rfl (World.ownsRow_nil _ _ _ _) ⟨gn,0,none⟩ next.length next.length (strCells next) rfl (by rw [strCells_length];omega) (hown2.cells rfl) (strCells_one _) (by unfold maxLen;omega) (by omega) (by omega) ?_)
     intro v3 w3 hown3 hgrow3 _
     have hown3 : w3.ownsRow w.heap.size 9 1 v3 next.length (strCells next) := by simpa using hown3
     have hnews := news_rest HCS.out hg hbel2 hgrow3
     obtain ⟨o1,ho1,hnews1⟩ := tail_off (by simpa using hcap) hnews
     have HNEWS : Hid (∀ j u,(strCells rest)[j]? = some u → w3.cell? ((⟨g,o1,none⟩ : Addr).add j) = some u) := hnews1
     have hsz3 := hgrow3.size
     have HB : Hid (∀ w4,w3.grownBy w4 v3.ownBlock → Below w.heap.size w w4) := fun w4 h4 => form_below hb hbel2 hgrow3 hown3 h4
     clear hnews1 hnews hcl hfz hown2 hbel2 hgrow3 hc0 hc1 hc2 hw0 HCS HO
     have hrl : rest.length ≤ 7000001 := by simp at hwl;omega
     go_wp2_with (at_builtin;go_must (refine wpList_append_own _ rfl _ _ 37 rfl w.heap.size 9 i0 (.string .empty) 1 16 Tryz.underlying37 hi0 hz0 hz1 hz2 rfl (by decide) v3 next.length (strCells next) rfl hown3 ⟨g,o1,none⟩ rest.length (cap - 1) (strCells rest) rfl (by rw [strCells_length];omega) HNEWS.out (strCells_one _) (by unfold maxLen;omega) (by omega) (by omega) ?_))
     intro v4 w4 hown4 hgrow4 _
     have R4 : FormRel toks R f w k v4 (.int .i64 i) w4 := ⟨i,next ++ rest,hi,rfl,HF,by rw [strCells_append,List.length_append];exact RowAt.of_own hown4,by simp at hwl ⊢;omega,HB.out w4 hgrow4⟩
     clear hown4 hgrow4 hown3 HB HNEWS HF
     go_wp2
     go_roundg k
     case measure => omega
     case rel => exact R4
    | none =>
     have HO : Hid (becomes (bs y).toList t.kind t.s.toList = none) := by unfold Hid;rw [bs_toList];exact hbc
     have HB0 : Hid (becomes y (hand (toks.drop i)).kind (hand (toks.drop i)).s.toList = none) := by unfold Hid;rw [HH.out];exact hbc
     have hyl : (bs y).toList = y := bs_toList y
     clear hbc
     go_region_held3 (fun w' => w'.cell? ⟨g,off,none⟩ = some (.string (bs y)) ∧ w'.cell? ⟨wr.heap.size,0,none⟩ = some (.string t.s) ∧ w'.cell? ⟨wr.heap.size,1,none⟩ = some (.int .u8 t.kind) ∧ w'.cell? ⟨wr.heap.size,2,none⟩ = some (.int .i64 t.line)) (go_keep)
      (first | (go_at_call 94;refine (ref_becomes_none _ _ _ _ _ HO.out).mono ?_;rintro e w2 ⟨rfl,hbel2⟩;obtain ⟨hcl,hfz⟩ := bcell hbel2))
     have hHeld : w2.cell? ⟨g,off,none⟩ = some (.string (bs y)) ∧ w2.cell? ⟨wr.heap.size,0,none⟩ = some (.string t.s) ∧ w2.cell? ⟨wr.heap.size,1,none⟩ = some (.int .u8 t.kind) ∧ w2.cell? ⟨wr.heap.size,2,none⟩ = some (.int .i64 t.line) := by assumption
     obtain ⟨hk0,hk1,hk2,hk3⟩ := hHeld
     have hsz2 : wr.heap.size + 1 ≤ w2.heap.size := by have := hbel2.size;simpa using this
     have hB2 : Hid (Below w.heap.size w w2) := form_below2 hb hbel2
     have HR2 := row_rest HCS.out hg hbel2
     have HR2' : Hid (∀ j u,(strCells rest)[j]? = some u → w2.cell? ⟨g,off + 1 + j,none⟩ = some u) := HR2
     clear hcl hfz hbel2 hc0 hc1 hc2 hw0 HCS HO HR2
     have HL2 := HL
     by_cases e1 : (y == t.s.toList) = true
     ·by_cases e2 : (t.kind != 101) = true
      ·go_wp2
       go_region_held3 (fun w' => w'.cell? ⟨g,off,none⟩ = some (.string (bs y)) ∧ w'.cell? ⟨wr.heap.size,0,none⟩ = some (.string t.s) ∧ w'.cell? ⟨wr.heap.size,1,none⟩ = some (.int .u8 t.kind)) (go_keep) (fail)
       by_cases eI : (y == [73,78,84]) = true
       ·have eN : (y == [78,65,77,69]) = false := by simp only [beq_iff_eq] at eI;rw [eI];rfl
        by_cases ek : (t.kind == 105) = true
        ·have hfit : fits y t = true := fits_i eI ek
         have hlt' : i < toks.length := HL.out (fits_kind hfit)
         have HF : Hid (formF k rest (toks.drop (i + 1)) = some R) := by
          have := hF.out
          rw [formF_take HB0.out (by rw [HH.out];exact hfit)] at this
          show formF k rest _ = some R
          simpa [List.tail_drop] using this
         obtain ⟨o1,ho1,hro⟩ := tail_off2 (by simpa using hcap) HR2'.out
         have HRO : Hid (∀ j u,(strCells rest)[j]? = some u → w2.cell? ⟨g,o1 + j,none⟩ = some u) := hro
         clear hro hF HB0 hfit
         go_wp2
         go_roundg k
         case measure => omega
         case rel => exact ⟨i + 1,rest,by omega,by go_num,HF,.inr ⟨g,o1,cap - 1,rfl,by simp at hcap;omega,by show g < w2.heap.size;omega,HRO.out⟩,by simp at hwl ⊢;omega,by first | exact hB2.out.drew | exact below_drewN hB2.out _⟩
        ·have ek : (t.kind == 105) = false := by simpa using ek
         have hfit : fits y t = false := fits_i eI ek
         have HRR : Hid (R = if t.kind = 101 then (-1 : Int) else (t.line : Int)) := by
          have := hF.out
          rw [formF_bad HB0.out (by rw [HH.out];exact hfit),HH.out] at this
          exact (Option.some.inj this).symm
         clear hF HB0 hfit
         by_cases e101 : (t.kind == 101) = true
         ·go_wp2
          go_ret
          exact ⟨ret_int (HRR.out.trans (stop_y e101)).symm,by first | exact hB2.out.drew | exact below_drewN hB2.out _⟩
         ·have e101 : (t.kind == 101) = false := by simpa using e101
          go_wp2
          go_ret
          exact ⟨ret_int (HRR.out.trans (stop_n e101)).symm,by first | exact hB2.out.drew | exact below_drewN hB2.out _⟩
       ·have eI : (y == [73,78,84]) = false := by simpa using eI
        by_cases eN : (y == [78,65,77,69]) = true
        ·by_cases ek : (t.kind == 110) = true
         ·have hfit : fits y t = true := fits_n eI eN ek
          have hlt' : i < toks.length := HL.out (fits_kind hfit)
          have HF : Hid (formF k rest (toks.drop (i + 1)) = some R) := by
           have := hF.out
           rw [formF_take HB0.out (by rw [HH.out];exact hfit)] at this
           show formF k rest _ = some R
           simpa [List.tail_drop] using this
          obtain ⟨o1,ho1,hro⟩ := tail_off2 (by simpa using hcap) HR2'.out
          have HRO : Hid (∀ j u,(strCells rest)[j]? = some u → w2.cell? ⟨g,o1 + j,none⟩ = some u) := hro
          clear hro hF HB0 hfit
          go_wp2
          go_roundg k
          case measure => omega
          case rel => exact ⟨i + 1,rest,by omega,by go_num,HF,.inr ⟨g,o1,cap - 1,rfl,by simp at hcap;omega,by show g < w2.heap.size;omega,HRO.out⟩,by simp at hwl ⊢;omega,by first | exact hB2.out.drew | exact below_drewN hB2.out _⟩
         ·have ek : (t.kind == 110) = false := by simpa using ek
          have hfit : fits y t = false := fits_n eI eN ek
          have HRR : Hid (R = if t.kind = 101 then (-1 : Int) else (t.line : Int)) := by
           have := hF.out
           rw [formF_bad HB0.out (by rw [HH.out];exact hfit),HH.out] at this
           exact (Option.some.inj this).symm
          clear hF HB0 hfit
          by_cases e101 : (t.kind == 101) = true
          ·go_wp2
           go_ret
           exact ⟨ret_int (HRR.out.trans (stop_y e101)).symm,by first | exact hB2.out.drew | exact below_drewN hB2.out _⟩
          ·have e101 : (t.kind == 101) = false := by simpa using e101
           go_wp2
           go_ret
           exact ⟨ret_int (HRR.out.trans (stop_n e101)).symm,by first | exact hB2.out.drew | exact below_drewN hB2.out _⟩
        ·have eN : (y == [78,65,77,69]) = false := by simpa using eN
         have hfit : fits y t = true := fits_oy eI eN e1 e2
         have hlt' : i < toks.length := HL.out (fits_kind hfit)
         have HF : Hid (formF k rest (toks.drop (i + 1)) = some R) := by
          have := hF.out
          rw [formF_take HB0.out (by rw [HH.out];exact hfit)] at this
          show formF k rest _ = some R
          simpa [List.tail_drop] using this
         obtain ⟨o1,ho1,hro⟩ := tail_off2 (by simpa using hcap) HR2'.out
         have HRO : Hid (∀ j u,(strCells rest)[j]? = some u → w2.cell? ⟨g,o1 + j,none⟩ = some u) := hro
         clear hro hF HB0 hfit
         go_wp2
         go_roundg k
         case measure => omega
         case rel => exact ⟨i + 1,rest,by omega,by go_num,HF,.inr ⟨g,o1,cap - 1,rfl,by simp at hcap;omega,by show g < w2.heap.size;omega,HRO.out⟩,by simp at hwl ⊢;omega,by first | exact hB2.out.drew | exact below_drewN hB2.out _⟩
      ·have e2 : (t.kind != 101) = false := by simpa using e2
       go_wp2
       go_region_held3 (fun w' => w'.cell? ⟨g,off,none⟩ = some (.string (bs y)) ∧ w'.cell? ⟨wr.heap.size,0,none⟩ = some (.string t.s) ∧ w'.cell? ⟨wr.heap.size,1,none⟩ = some (.int .u8 t.kind)) (go_keep) (fail)
       by_cases eI : (y == [73,78,84]) = true
       ·have eN : (y == [78,65,77,69]) = false := by simp only [beq_iff_eq] at eI;rw [eI];rfl
        by_cases ek : (t.kind == 105) = true
        ·have hfit : fits y t = true := fits_i eI ek
         have hlt' : i < toks.length := HL.out (fits_kind hfit)
         have HF : Hid (formF k rest (toks.drop (i + 1)) = some R) := by
          have := hF.out
          rw [formF_take HB0.out (by rw [HH.out];exact hfit)] at this
          show formF k rest _ = some R
          simpa [List.tail_drop] using this
         obtain ⟨o1,ho1,hro⟩ := tail_off2 (by simpa using hcap) HR2'.out
         have HRO : Hid (∀ j u,(strCells rest)[j]? = some u → w2.cell? ⟨g,o1 + j,none⟩ = some u) := hro
         clear hro hF HB0 hfit
         go_wp2
         go_roundg k
         case measure => omega
         case rel => exact ⟨i + 1,rest,by omega,by go_num,HF,.inr ⟨g,o1,cap - 1,rfl,by simp at hcap;omega,by show g < w2.heap.size;omega,HRO.out⟩,by simp at hwl ⊢;omega,by first | exact hB2.out.drew | exact below_drewN hB2.out _⟩
        ·have ek : (t.kind == 105) = false := by simpa using ek
         have hfit : fits y t = false := fits_i eI ek
         have HRR : Hid (R = if t.kind = 101 then (-1 : Int) else (t.line : Int)) := by
          have := hF.out
          rw [formF_bad HB0.out (by rw [HH.out];exact hfit),HH.out] at this
          exact (Option.some.inj this).symm
         clear hF HB0 hfit
         by_cases e101 : (t.kind == 101) = true
         ·go_wp2
          go_ret
          exact ⟨ret_int (HRR.out.trans (stop_y e101)).symm,by first | exact hB2.out.drew | exact below_drewN hB2.out _⟩
         ·have e101 : (t.kind == 101) = false := by simpa using e101
          go_wp2
          go_ret
          exact ⟨ret_int (HRR.out.trans (stop_n e101)).symm,by first | exact hB2.out.drew | exact below_drewN hB2.out _⟩
       ·have eI : (y == [73,78,84]) = false := by simpa using eI
        by_cases eN : (y == [78,65,77,69]) = true
        ·by_cases ek : (t.kind == 110) = true
         ·have hfit : fits y t = true := fits_n eI eN ek
          have hlt' : i < toks.length := HL.out (fits_kind hfit)
          have HF : Hid (formF k rest (toks.drop (i + 1)) = some R) := by
           have := hF.out
           rw [formF_take HB0.out (by rw [HH.out];exact hfit)] at this
           show formF k rest _ = some R
           simpa [List.tail_drop] using this
          obtain ⟨o1,ho1,hro⟩ := tail_off2 (by simpa using hcap) HR2'.out
          have HRO : Hid (∀ j u,(strCells rest)[j]? = some u → w2.cell? ⟨g,o1 + j,none⟩ = some u) := hro
          clear hro hF HB0 hfit
          go_wp2
          go_roundg k
          case measure => omega
          case rel => exact ⟨i + 1,rest,by omega,by go_num,HF,.inr ⟨g,o1,cap - 1,rfl,by simp at hcap;omega,by show g < w2.heap.size;omega,HRO.out⟩,by simp at hwl ⊢;omega,by first | exact hB2.out.drew | exact below_drewN hB2.out _⟩
         ·have ek : (t.kind == 110) = false := by simpa using ek
          have hfit : fits y t = false := fits_n eI eN ek
          have HRR : Hid (R = if t.kind = 101 then (-1 : Int) else (t.line : Int)) := by
           have := hF.out
           rw [formF_bad HB0.out (by rw [HH.out];exact hfit),HH.out] at this
           exact (Option.some.inj this).symm
          clear hF HB0 hfit
          by_cases e101 : (t.kind == 101) = true
          ·go_wp2
           go_ret
           exact ⟨ret_int (HRR.out.trans (stop_y e101)).symm,by first | exact hB2.out.drew | exact below_drewN hB2.out _⟩
          ·have e101 : (t.kind == 101) = false := by simpa using e101
           go_wp2
           go_ret
           exact ⟨ret_int (HRR.out.trans (stop_n e101)).symm,by first | exact hB2.out.drew | exact below_drewN hB2.out _⟩
        ·have eN : (y == [78,65,77,69]) = false := by simpa using eN
         have hfit : fits y t = false := fits_on eI eN e1 e2
         have HRR : Hid (R = if t.kind = 101 then (-1 : Int) else (t.line : Int)) := by
          have := hF.out
          rw [formF_bad HB0.out (by rw [HH.out];exact hfit),HH.out] at this
          exact (Option.some.inj this).symm
         clear hF HB0 hfit
         by_cases e101 : (t.kind == 101) = true
         ·go_wp2
          go_ret
          exact ⟨ret_int (HRR.out.trans (stop_y e101)).symm,by first | exact hB2.out.drew | exact below_drewN hB2.out _⟩
         ·have e101 : (t.kind == 101) = false := by simpa using e101
          go_wp2
          go_ret
          exact ⟨ret_int (HRR.out.trans (stop_n e101)).symm,by first | exact hB2.out.drew | exact below_drewN hB2.out _⟩
     ·have e1 : (y == t.s.toList) = false := by simpa using e1
      go_wp2
      go_quiet (fail)
      by_cases eI : (y == [73,78,84]) = true
      ·have eN : (y == [78,65,77,69]) = false := by simp only [beq_iff_eq] at eI;rw [eI];rfl
       by_cases ek : (t.kind == 105) = true
       ·have hfit : fits y t = true := fits_i eI ek
        have hlt' : i < toks.length := HL.out (fits_kind hfit)
        have HF : Hid (formF k rest (toks.drop (i + 1)) = some R) := by
         have := hF.out
         rw [formF_take HB0.out (by rw [HH.out];exact hfit)] at this
         show formF k rest _ = some R
         simpa [List.tail_drop] using this
        obtain ⟨o1,ho1,hro⟩ := tail_off2 (by simpa using hcap) HR2'.out
        have HRO : Hid (∀ j u,(strCells rest)[j]? = some u → w2.cell? ⟨g,o1 + j,none⟩ = some u) := hro
        clear hro hF HB0 hfit
        go_wp2
        go_roundg k
        case measure => omega
        case rel => exact ⟨i + 1,rest,by omega,by go_num,HF,.inr ⟨g,o1,cap - 1,rfl,by simp at hcap;omega,by show g < w2.heap.size;omega,HRO.out⟩,by simp at hwl ⊢;omega,by first | exact hB2.out.drew | exact below_drewN hB2.out _⟩
       ·have ek : (t.kind == 105) = false := by simpa using ek
        have hfit : fits y t = false := fits_i eI ek
        have HRR : Hid (R = if t.kind = 101 then (-1 : Int) else (t.line : Int)) := by
         have := hF.out
         rw [formF_bad HB0.out (by rw [HH.out];exact hfit),HH.out] at this
         exact (Option.some.inj this).symm
        clear hF HB0 hfit
        by_cases e101 : (t.kind == 101) = true
        ·go_wp2
         go_ret
         exact ⟨ret_int (HRR.out.trans (stop_y e101)).symm,by first | exact hB2.out.drew | exact below_drewN hB2.out _⟩
        ·have e101 : (t.kind == 101) = false := by simpa using e101
         go_wp2
         go_ret
         exact ⟨ret_int (HRR.out.trans (stop_n e101)).symm,by first | exact hB2.out.drew | exact below_drewN hB2.out _⟩
      ·have eI : (y == [73,78,84]) = false := by simpa using eI
       by_cases eN : (y == [78,65,77,69]) = true
       ·by_cases ek : (t.kind == 110) = true
        ·have hfit : fits y t = true := fits_n eI eN ek
         have hlt' : i < toks.length := HL.out (fits_kind hfit)
         have HF : Hid (formF k rest (toks.drop (i + 1)) = some R) := by
          have := hF.out
          rw [formF_take HB0.out (by rw [HH.out];exact hfit)] at this
          show formF k rest _ = some R
          simpa [List.tail_drop] using this
         obtain ⟨o1,ho1,hro⟩ := tail_off2 (by simpa using hcap) HR2'.out
         have HRO : Hid (∀ j u,(strCells rest)[j]? = some u → w2.cell? ⟨g,o1 + j,none⟩ = some u) := hro
         clear hro hF HB0 hfit
         go_wp2
         go_roundg k
         case measure => omega
         case rel => exact ⟨i + 1,rest,by omega,by go_num,HF,.inr ⟨g,o1,cap - 1,rfl,by simp at hcap;omega,by show g < w2.heap.size;omega,HRO.out⟩,by simp at hwl ⊢;omega,by first | exact hB2.out.drew | exact below_drewN hB2.out _⟩
        ·have ek : (t.kind == 110) = false := by simpa using ek
         have hfit : fits y t = false := fits_n eI eN ek
         have HRR : Hid (R = if t.kind = 101 then (-1 : Int) else (t.line : Int)) := by
          have := hF.out
          rw [formF_bad HB0.out (by rw [HH.out];exact hfit),HH.out] at this
          exact (Option.some.inj this).symm
         clear hF HB0 hfit
         by_cases e101 : (t.kind == 101) = true
         ·go_wp2
          go_ret
          exact ⟨ret_int (HRR.out.trans (stop_y e101)).symm,by first | exact hB2.out.drew | exact below_drewN hB2.out _⟩
         ·have e101 : (t.kind == 101) = false := by simpa using e101
          go_wp2
          go_ret
          exact ⟨ret_int (HRR.out.trans (stop_n e101)).symm,by first | exact hB2.out.drew | exact below_drewN hB2.out _⟩
       ·have eN : (y == [78,65,77,69]) = false := by simpa using eN
        have hfit : fits y t = false := fits_oo eI eN e1
        have HRR : Hid (R = if t.kind = 101 then (-1 : Int) else (t.line : Int)) := by
         have := hF.out
         rw [formF_bad HB0.out (by rw [HH.out];exact hfit),HH.out] at this
         exact (Option.some.inj this).symm
        clear hF HB0 hfit
        by_cases e101 : (t.kind == 101) = true
        ·go_wp2
         go_ret
         exact ⟨ret_int (HRR.out.trans (stop_y e101)).symm,by first | exact hB2.out.drew | exact below_drewN hB2.out _⟩
        ·have e101 : (t.kind == 101) = false := by simpa using e101
         go_wp2
         go_ret
         exact ⟨ret_int (HRR.out.trans (stop_n e101)).symm,by first | exact hB2.out.drew | exact below_drewN hB2.out _⟩
   ·obtain ⟨t,rfl⟩ : ∃ t,t = eofTok := ⟨_,rfl⟩
    have HH : Hid (hand (toks.drop i) = eofTok) := by
     unfold Hid hand
     rw [List.drop_eq_nil_of_le (by omega)];rfl
    have HL : Hid (eofTok.kind ≠ 101 → i < toks.length) := fun h => absurd rfl h
    go_wp2
    cases hbc : becomes y (101 : Int) (ByteArray.mk #[]).toList with
    | some next =>
     have hnl := becomes_len hbc
     have HO : Hid (becomes (bs y).toList (101 : Int) (ByteArray.mk #[]).toList = some next) := by unfold Hid;rw [bs_toList];exact hbc
     have HF : Hid (formF k (next ++ rest) (toks.drop i) = some R) := by
      rw [← hF.out];exact (formF_some (by rw [HH.out];exact hbc)).symm
     clear hbc hF
     go_region_held3 (fun w' => w'.cell? ⟨g,off,none⟩ = some (.string (bs y)) ∧ w'.cell? ⟨wr.heap.size,0,none⟩ = some (.string (ByteArray.mk #[])) ∧ w'.cell? ⟨wr.heap.size,1,none⟩ = some (.int .u8 (101 : Int)) ∧ w'.cell? ⟨wr.heap.size,2,none⟩ = some (.int .i64 (0 : Int))) (go_keep)
      (first | (go_at_call 94;refine (ref_becomes_some _ _ _ _ _ _ HO.out).mono ?_;rintro e w2 ⟨gn,rfl,hown2,hbel2⟩;obtain ⟨hcl,hfz⟩ := bcell hbel2))
     have hsz2 : wr.heap.size + 1 ≤ w2.heap.size := by have := hbel2.size;simpa using this
     have hbw := hb.size
     go_wp2_with (at_builtin;refine wpList_append_own _ rfl _ _ 37 rfl w.heap.size 9 i0 (.string .empty) 1 16 Tryz.underlying37 hi0 hz0 hz1 hz2 rfl (by decide) _ _ _ rfl (World.ownsRow_nil _ _ _ _) ⟨gn,0,none⟩ next.length next.length (strCells next) rfl (by rw [strCells_length];omega) (hown2.cells rfl) (strCells_one _) (by unfold maxLen;omega) (by omega) (by omega) ?_)
     intro v3 w3 hown3 hgrow3 _
     have hown3 : w3.ownsRow w.heap.size 9 1 v3 next.length (strCells next) := by simpa using hown3
     have hnews := news_rest HCS.out hg hbel2 hgrow3
     obtain ⟨o1,ho1,hnews1⟩ := tail_off (by simpa using hcap) hnews
     have HNEWS : Hid (∀ j u,(strCells rest)[j]? = some u → w3.cell? ((⟨g,o1,none⟩ : Addr).add j) = some u) := hnews1
     have hsz3 := hgrow3.size
     have HB : Hid (∀ w4,w3.grownBy w4 v3.ownBlock → Below w.heap.size w w4) := fun w4 h4 => form_below hb hbel2 hgrow3 hown3 h4
     clear hnews1 hnews hcl hfz hown2 hbel2 hgrow3 hw0 HCS HO
     have hrl : rest.length ≤ 7000001 := by simp at hwl;omega
     go_wp2_with (at_builtin;go_must (refine wpList_append_own _ rfl _ _ 37 rfl w.heap.size 9 i0 (.string .empty) 1 16 Tryz.underlying37 hi0 hz0 hz1 hz2 rfl (by decide) v3 next.length (strCells next) rfl hown3 ⟨g,o1,none⟩ rest.length (cap - 1) (strCells rest) rfl (by rw [strCells_length];omega) HNEWS.out (strCells_one _) (by unfold maxLen;omega) (by omega) (by omega) ?_))
     intro v4 w4 hown4 hgrow4 _
     have R4 : FormRel toks R f w k v4 (.int .i64 i) w4 := ⟨i,next ++ rest,hi,rfl,HF,by rw [strCells_append,List.length_append];exact RowAt.of_own hown4,by simp at hwl ⊢;omega,HB.out w4 hgrow4⟩
     clear hown4 hgrow4 hown3 HB HNEWS HF
     go_wp2
     go_roundg k
     case measure => omega
     case rel => exact R4
    | none =>
     have HO : Hid (becomes (bs y).toList (101 : Int) (ByteArray.mk #[]).toList = none) := by unfold Hid;rw [bs_toList];exact hbc
     have HB0 : Hid (becomes y (hand (toks.drop i)).kind (hand (toks.drop i)).s.toList = none) := by unfold Hid;rw [HH.out];exact hbc
     have hyl : (bs y).toList = y := bs_toList y
     clear hbc
     go_region_held3 (fun w' => w'.cell? ⟨g,off,none⟩ = some (.string (bs y)) ∧ w'.cell? ⟨wr.heap.size,0,none⟩ = some (.string (ByteArray.mk #[])) ∧ w'.cell? ⟨wr.heap.size,1,none⟩ = some (.int .u8 (101 : Int)) ∧ w'.cell? ⟨wr.heap.size,2,none⟩ = some (.int .i64 (0 : Int))) (go_keep)
      (first | (go_at_call 94;refine (ref_becomes_none _ _ _ _ _ HO.out).mono ?_;rintro e w2 ⟨rfl,hbel2⟩;obtain ⟨hcl,hfz⟩ := bcell hbel2))
     have hHeld : w2.cell? ⟨g,off,none⟩ = some (.string (bs y)) ∧ w2.cell? ⟨wr.heap.size,0,none⟩ = some (.string (ByteArray.mk #[])) ∧ w2.cell? ⟨wr.heap.size,1,none⟩ = some (.int .u8 (101 : Int)) ∧ w2.cell? ⟨wr.heap.size,2,none⟩ = some (.int .i64 (0 : Int)) := by assumption
     obtain ⟨hk0,hk1,hk2,hk3⟩ := hHeld
     have hsz2 : wr.heap.size + 1 ≤ w2.heap.size := by have := hbel2.size;simpa using this
     have hB2 : Hid (Below w.heap.size w w2) := form_below2 hb hbel2
     have HR2 := row_rest HCS.out hg hbel2
     have HR2' : Hid (∀ j u,(strCells rest)[j]? = some u → w2.cell? ⟨g,off + 1 + j,none⟩ = some u) := HR2
     clear hcl hfz hbel2 hw0 HCS HO HR2
     by_cases e1 : (y == []) = true
     ·have hfit : fits y eofTok = false := fits_eof y
      have HRR : Hid (R = -1) := by
       have := hF.out
       rw [formF_bad HB0.out (by rw [HH.out];exact hfit),HH.out] at this
       exact (Option.some.inj this).symm
      clear hF HB0 hfit
      go_wp2
      go_quiet (fail)
      go_wp2
      all_goals go_ret
      all_goals exact ⟨ret_int HRR.out.symm,by first | exact hB2.out.drew | exact below_drewN hB2.out _⟩
     ·have e1 : (y == []) = false := by simpa using e1
      have hfit : fits y eofTok = false := fits_eof y
      have HRR : Hid (R = -1) := by
       have := hF.out
       rw [formF_bad HB0.out (by rw [HH.out];exact hfit),HH.out] at this
       exact (Option.some.inj this).symm
      clear hF HB0 hfit
      go_wp2
      go_quiet (fail)
      go_wp2
      all_goals go_ret
      all_goals exact ⟨ret_int HRR.out.symm,by first | exact hB2.out.drew | exact below_drewN hB2.out _⟩
end
end Go.Proofs.YthpcbbnabnlanaaGreatDoor
