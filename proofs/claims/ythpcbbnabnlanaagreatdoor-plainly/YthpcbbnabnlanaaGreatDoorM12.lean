import Derived.Test.YthpcbbnabnlanaaGreatDoorM11
import Derived.Deep.AppendLies
namespace Go.Proofs.YthpcbbnabnlanaaGreatDoor
set_option linter.unusedVariables false
set_option linter.unusedSimpArgs false
section
set_option maxHeartbeats 4000000
set_option maxRecDepth 100000
open Go.RowKit
variable {w w' : World} {bc bm n : Nat} {g : ByteArray → Th} {f : ByteArray → Value} {vV vC : Value} {st : FSt}
theorem sn_lits (h : CkS w bc bm n (fun s => thV (g s)) vV vC st) (l : List GLit) (v1 : Value) (gr cap : Nat) (hR : RowIn w v1 gr cap glCell l) (hgc : gr ≠ bc) (hl : l.length ≤ 3000) (hok : ∀ a ∈ l,TOk a.first ∧ TOk a.name) (hv : ThOk g) : Calls Tryz.prog 161 #[.pointer (some ⟨bc,0,none⟩),v1] w fun e w' => ∃ v,e = .returned v ∧ w'.ownsRow w.heap.size 203 2 v l.length (l.flatMap (litOut g)) ∧ w.grownBy w' (some bc) ∧ CkS w' bc bm n (fun s => thV (g s)) vV vC (foldSt (litStP g) 0 l st) := by
 obtain ⟨i0,hi0,hz0,hz1,hz2⟩ := info_parts infoRL
 have HC : Hid (CkS w bc bm n (fun s => thV (g s)) vV vC st) := h
 have hlt := h.lt
 have hgl := hR.lt
 have HR : Hid (RowIn w v1 gr cap glCell l) := hR
 have HOK : Hid (∀ a ∈ l,TOk a.first ∧ TOk a.name) := hok
 have HV : Hid (ThOk g) := hv
 obtain ⟨RES,hRES⟩ : ∃ R,R = foldSt (litStP g) 0 l st := ⟨_,rfl⟩
 have HS : Hid (foldSt (litStP g) 0 (l.drop 0) st = RES) := by rw [Hid,hRES];rfl
 rw [← hRES]
 obtain rfl := hR.is
 clear h hR hRES hok hv
 go_enter Tryz.func161,Tryz.ntmps161
 go_wp2
 go_loopg [5,11] l.length (fun m v vi wr => SnRel l (litStP g) RES (.slice (some ⟨gr,0,none⟩) l.length cap) gr cap glCell 203 2 (litOut g) w bc bm n (fun s => thV (g s)) vV vC m v vi wr)
 case atStart => exact ⟨0,st,Nat.zero_le _,rfl,rfl,HS,HC.out,HR.out,World.ownsRow_nil _ _ _ _,grown_refl _ _⟩
 case round =>
  obtain ⟨i,S,hi,rfl,rfl,hlex,hC,hR,hown,hgr⟩ := hrel
  have hlr := hC.lt
  have hlm := hC.ltm
  by_cases hlt2 : i < l.length
  ·obtain ⟨a,ha⟩ : ∃ a,l[i]? = some a := ⟨l[i],by simp [hlt2]⟩
   have hoka := HOK.out a (List.mem_of_getElem? ha)
   have c0 : wr.cell? ⟨gr,i * 8,none⟩ = some (.int .i64 (srt a.first)) := hR.at (sz := 8) (fun _ => rfl) ha 0 _ rfl
   have c1 : wr.cell? ⟨gr,i * 8 + 1,none⟩ = some (.string a.first.s) := hR.at (sz := 8) (fun _ => rfl) ha 1 _ rfl
   have c2 : wr.cell? ⟨gr,i * 8 + 2,none⟩ = some (.int .i64 (tval a.first)) := hR.at (sz := 8) (fun _ => rfl) ha 2 _ rfl
   have c3 : wr.cell? ⟨gr,i * 8 + 3,none⟩ = some (.int .i64 a.first.line) := hR.at (sz := 8) (fun _ => rfl) ha 3 _ rfl
   have c4 : wr.cell? ⟨gr,i * 8 + 4,none⟩ = some (.int .i64 (srt a.name)) := hR.at (sz := 8) (fun _ => rfl) ha 4 _ rfl
   have c5 : wr.cell? ⟨gr,i * 8 + 5,none⟩ = some (.string a.name.s) := hR.at (sz := 8) (fun _ => rfl) ha 5 _ rfl
   have c6 : wr.cell? ⟨gr,i * 8 + 6,none⟩ = some (.int .i64 (tval a.name)) := hR.at (sz := 8) (fun _ => rfl) ha 6 _ rfl
   have c7 : wr.cell? ⟨gr,i * 8 + 7,none⟩ = some (.int .i64 a.name.line) := hR.at (sz := 8) (fun _ => rfl) ha 7 _ rfl
   have K1 := Kept.mk (fun {W : World} (hW : CkS W bc bm n (fun s => thV (g s)) vV vC S) => sn_room hW a.first i 8)
   have K2 := Kept.mk (fun {W : World} (hW : CkS W bc bm n (fun s => thV (g s)) vV vC (flt (decide ((8 : Int) ≤ i)) 6 a.first.line S)) => sn_truth hW a.name hoka.2.1 HV.out)
   have hlt3 : (i : Int) < l.length := by omega
   have h03 : (0 : Int) ≤ i := by omega
   unfold tkV at K1 K2
   skip
   by_cases hq : srt a.first = 22
   ·have hq2 : (srt a.first == 22) = true := by simpa using hq
    have hO : Hid (litOut g a = [.int .i64 (thFind g a.name.s 4).pl,.int .i64 0]) := by simp [Hid,litOut,hq]
    clear hq
    go_wp2_with (first | (at_builtin;refine wpList_append_own _ rfl _ _ 97 rfl w.heap.size 203 i0 (.agg #[.int .i64 0,.int .i64 0]) 2 16 Tryz.underlying97 hi0 hz0 hz1 hz2 rfl (by decide) _ _ _ rfl (ho2.alloc _) ⟨w2.heap.size,0,none⟩ 1 1 [.int .i64 (thFind g a.name.s 4).pl,.int .i64 0] rfl rfl (World.news_of_block (heap_alloc_new _ _)) (two_one _ _) ?c3 ?c4 ?c5 ?_) | (go_at_call 155;refine ((K2).get hC1).mono ?_;rintro e w2 ⟨rfl,hg2,hC2⟩;have hB2 := past0 hB1 hs1 hg2 (by simp;omega);have hs2 : wr.heap.size < w2.heap.size := (by have := hg2.size;omega);have ho2 := ho1.kept hg2 (low_ne' hown hlt)) | (go_at_call 149;refine ((K1).get (hC.alloc _)).mono ?_;rintro e w1 ⟨rfl,hg1,hC1⟩;obtain ⟨hs1,hB1⟩ := sn_past hlr hg1;have ho1 := (hown.alloc _).kept hg1 (low_ne' hown hlt);have b0_0 := cell_of hB1 0 _ rfl;have b1_0 := cell_of hB1 1 _ rfl;have b2_0 := cell_of hB1 2 _ rfl;have b3_0 := cell_of hB1 3 _ rfl;have b4_0 := cell_of hB1 4 _ rfl;have b5_0 := cell_of hB1 5 _ rfl;have b6_0 := cell_of hB1 6 _ rfl;have b7_0 := cell_of hB1 7 _ rfl))
    case c3 => unfold maxLen;omega
    case c4 => omega
    case c5 => have := hgr.size;simp at *;omega
    intro v' w9 hown' hgrow _
    have hown' : w9.ownsRow w.heap.size 203 2 v' (i + 1) ((l.take i).flatMap (litOut g) ++ litOut g a) := by rw [hO.out];exact hown'
    have R := sn_step (step := litStP g) HC.out hgl (((hgr.trans (World.grownBy_alloc _ _ _)).trans hg1).trans hg2) ha hlex hC2 (((hR.kept (World.grownBy_alloc _ _ none) (by simp)).kept hg1 (by simp;omega)).kept hg2 (by simp;omega)) hown hown' hgrow
    clear hown' hgrow hown
    go_wp2
    go_roundg (l.length - (i + 1))
    case measure => omega
    case rel => simpa using R
   ·have hq2 : (srt a.first == 22) = false := by simpa using hq
    have hO : Hid (litOut g a = [.int .i64 (thFind g a.name.s 4).pl,.int .i64 1]) := by simp [Hid,litOut,hq]
    clear hq
    go_wp2_with (first | (at_builtin;refine wpList_append_own _ rfl _ _ 97 rfl w.heap.size 203 i0 (.agg #[.int .i64 0,.int .i64 0]) 2 16 Tryz.underlying97 hi0 hz0 hz1 hz2 rfl (by decide) _ _ _ rfl (ho2.alloc _) ⟨w2.heap.size,0,none⟩ 1 1 [.int .i64 (thFind g a.name.s 4).pl,.int .i64 1] rfl rfl (World.news_of_block (heap_alloc_new _ _)) (two_one _ _) ?c3 ?c4 ?c5 ?_) | (go_at_call 155;refine ((K2).get hC1).mono ?_;rintro e w2 ⟨rfl,hg2,hC2⟩;have hB2 := past0 hB1 hs1 hg2 (by simp;omega);have hs2 : wr.heap.size < w2.heap.size := (by have := hg2.size;omega);have ho2 := ho1.kept hg2 (low_ne' hown hlt)) | (go_at_call 149;refine ((K1).get (hC.alloc _)).mono ?_;rintro e w1 ⟨rfl,hg1,hC1⟩;obtain ⟨hs1,hB1⟩ := sn_past hlr hg1;have ho1 := (hown.alloc _).kept hg1 (low_ne' hown hlt);have b0_0 := cell_of hB1 0 _ rfl;have b1_0 := cell_of hB1 1 _ rfl;have b2_0 := cell_of hB1 2 _ rfl;have b3_0 := cell_of hB1 3 _ rfl;have b4_0 := cell_of hB1 4 _ rfl;have b5_0 := cell_of hB1 5 _ rfl;have b6_0 := cell_of hB1 6 _ rfl;have b7_0 := cell_of hB1 7 _ rfl))
    case c3 => unfold maxLen;omega
    case c4 => omega
    case c5 => have := hgr.size;simp at *;omega
    intro v' w9 hown' hgrow _
    have hown' : w9.ownsRow w.heap.size 203 2 v' (i + 1) ((l.take i).flatMap (litOut g) ++ litOut g a) := by rw [hO.out];exact hown'
    have R := sn_step (step := litStP g) HC.out hgl (((hgr.trans (World.grownBy_alloc _ _ _)).trans hg1).trans hg2) ha hlex hC2 (((hR.kept (World.grownBy_alloc _ _ none) (by simp)).kept hg1 (by simp;omega)).kept hg2 (by simp;omega)) hown hown' hgrow
    clear hown' hgrow hown
    go_wp2
    go_roundg (l.length - (i + 1))
    case measure => omega
    case rel => simpa using R
  ·obtain rfl : i = l.length := by omega
   have hl2 : Hid (RES = S) := by rw [Hid,← hlex.out,List.drop_of_length_le (Nat.le_refl _)];rfl
   have hge : (l.length : Int) ≤ (l.length : Int) := by omega
   rw [List.take_of_length_le (Nat.le_refl _)] at hown
   clear hlex
   go_wp2
   go_ret
   rw [hl2.out]
   exact ⟨_,rfl,hown,hgr,hC⟩
end
section
open Go.RowKit
variable {w W W' : World} {bc bm n br : Nat} {g : ByteArray → Th} {vV vC : Value} {S S' : FSt} {A cs cs' : Array Value} {B : Nat}
structure ORow where
 e : TypeId
 s : Nat
 v : Value
 n : Nat
 xs : List Value
variable {R : List ORow}
structure AC (w W : World) (bc bm n br : Nat) (g : ByteArray → Th) (vV vC : Value) (A cs : Array Value) (S : FSt) (B : Nat) (R : List ORow) : Prop where
 ck : CkS W bc bm n (fun s => thV (g s)) vV vC S
 hA : W.heap[w.heap.size]? = some (.cells A 137 (0,0))
 hS : W.heap[br]? = some (.cells cs 99 (0,0))
 lt : br < W.heap.size
 lo : w.heap.size < br
 gr : w.grownBy W (some bc)
 lp : bc < w.heap.size
 lm : bm < w.heap.size
 hb : bc < B
 rw : ∀ r ∈ R,r.e ≠ 99 ∧ W.ownsRow B r.e r.s r.v r.n r.xs
theorem AC.call0 (h : AC w W bc bm n br g vV vC A cs S B R) (hg : W.grownBy W' (some bc)) (hC : CkS W' bc bm n (fun s => thV (g s)) vV vC S') : AC w W' bc bm n br g vV vC A cs S' B R :=
 have h1 := h.lo;have h2 := h.lp;have h3 := h.lt
 ⟨hC,past0 h.hA (by omega) hg (by simp;omega),past0 h.hS h.lt hg (by simp;omega),Nat.lt_of_lt_of_le h.lt hg.size,h.lo,h.gr.trans hg,h.lp,h.lm,h.hb,fun r hr => ⟨(h.rw r hr).1,(h.rw r hr).2.kept hg (low_ne' (h.rw r hr).2 h.hb)⟩⟩
theorem AC.sf (h : AC w W bc bm n br g vV vC A cs S B R) (i : Nat) (v : Value) (e : cs.setIfInBounds i v = cs') : AC w (W.setCell ⟨br,i,none⟩ v) bc bm n br g vV vC A cs' S B R :=
 have h1 := h.lo;have h2 := h.lp;have h3 := h.lt;have h4 := h.lm
 ⟨h.ck.kept (grown_set W br i v) (by simp;omega) (by simp;omega),(Below.heap_setCell _ _ _ _ (by show w.heap.size ≠ br;omega)).trans h.hA,set_at h.hS i v e,by have := (grown_set W br i v).size;omega,h.lo,grown_newr h.gr (by omega) (grown_set W br i v),h.lp,h.lm,h.hb,fun r hr => ⟨(h.rw r hr).1,(h.rw r hr).2.kept (grown_set W br i v) (.inr (row_ne (h.rw r hr).2 h.hS (h.rw r hr).1))⟩⟩
theorem AC.add (h : AC w W bc bm n br g vV vC A cs S B R) (r : ORow) (he : r.e ≠ 99) (ho : W.ownsRow B r.e r.s r.v r.n r.xs) : AC w W bc bm n br g vV vC A cs S B (r :: R) :=
 ⟨h.ck,h.hA,h.hS,h.lt,h.lo,h.gr,h.lp,h.lm,h.hb,fun q hq => by
  rcases List.mem_cons.1 hq with e | e
  ·subst e;exact ⟨he,ho⟩
  ·exact h.rw q e⟩
theorem ac_start {w1 : World} (hlp : bc < w.heap.size) (hlm : bm < w.heap.size) (hb : bc < B) (hR : ∀ r ∈ R,r.e ≠ 99 ∧ w.ownsRow B r.e r.s r.v r.n r.xs) (hg : (w.alloc (.cells A 137)).drew.grownBy w1 (some bc)) (hC : CkS w1 bc bm n (fun s => thV (g s)) vV vC S) (cs : Array Value) : AC w (w1.alloc (.cells cs 99)) bc bm n w1.heap.size g vV vC A cs S B R := by
 have hz := hg.size
 have hg' := (grown_drew' (w.alloc (.cells A 137)) (some bc)).trans hg
 simp at hz
 have hA := past0 (heap_alloc_new w _) (by simp) hg' (by simp;omega)
 exact ⟨hC.alloc _,(heap_alloc_old _ _ (by omega)).trans hA,heap_alloc_new _ _,by simp,by omega,((World.grownBy_alloc w _ _).trans hg').trans (World.grownBy_alloc _ _ _),hlp,hlm,hb,
  fun r hr => ⟨(hR r hr).1,((((hR r hr).2.alloc _).kept hg' (low_ne' (hR r hr).2 hb))).alloc _⟩⟩
structure QCon where
 sort : Int
 truth : Int
 terms : List (Int × Int)
 rel : Int
 num : Int
 list : List Int
 place : Int
 entry : Int
 vars : List Int
 lits : List (Int × Int)
structure CRow where
 c : QCon
 vt : Value
 vl : Value
 vv : Value
 vi : Value
def CRow.cells (x : CRow) : List Value := [.int .i64 x.c.sort,.int .i64 x.c.truth,x.vt,.int .i64 x.c.rel,.int .i64 x.c.num,x.vl,.int .i64 x.c.place,.int .i64 x.c.entry,x.vv,x.vi]
def prCell (p : Int × Int) : List Value := [.int .i64 p.1,.int .i64 p.2]
def inCell (i : Int) : List Value := [.int .i64 i]
structure CAt (w : World) (B : Nat) (x : CRow) : Prop where
 t : w.ownsRow B 201 2 x.vt x.c.terms.length (x.c.terms.flatMap prCell)
 l : w.ownsRow B 3 1 x.vl x.c.list.length (x.c.list.flatMap inCell)
 v : w.ownsRow B 3 1 x.vv x.c.vars.length (x.c.vars.flatMap inCell)
 i : w.ownsRow B 203 2 x.vi x.c.lits.length (x.c.lits.flatMap prCell)
theorem own_map {α β : Type} {w : World} {B B' e s : Nat} {v : Value} {l : List α} (f : α → β) {cell : β → List Value} {out : α → List Value} (he : ∀ a,out a = cell (f a)) (h : w.ownsRow B' e s v l.length (l.flatMap out)) (hB : B ≤ B') : w.ownsRow B e s v (l.map f).length ((l.map f).flatMap cell) := by
 have e1 : (l.map f).flatMap cell = l.flatMap out := by
  rw [List.flatMap_map]
  exact congrArg (fun k => List.flatMap k l) (funext fun a => (he a).symm)
 rw [e1,List.length_map]
 refine ⟨h.1,?_⟩
 rcases h.2 with q | ⟨g,cap,cur,h1,h2,h3⟩
 ·exact .inl q
 ·exact .inr ⟨g,cap,cur,h1,Nat.le_trans hB h2,h3⟩
theorem CAt.but {w w' : World} {B : Nat} {x : CRow} {S : List Nat} (h : CAt w B x) (hb : But S w w') (hS : ∀ k,k ∈ S → k < B ∨ ∃ c e,w.heap[k]? = some (.cells c e (0,0)) ∧ (e = 99 ∨ e = 78)) : CAt w' B x := by
 have key : ∀ {e s n : Nat} {v : Value} {xs : List Value},w.ownsRow B e s v n xs → e ≠ 99 → e ≠ 78 → w'.ownsRow B e s v n xs := fun {e s n v xs} ho h1 h2 => by
  refine ⟨ho.1,?_⟩
  rcases ho.2 with q | ⟨g,cap,cur,q1,q2,q3,q4⟩
  ·exact .inl q
  ·refine .inr ⟨g,cap,cur,q1,q2,?_,q4⟩
   rw [hb.block g (Array.getElem?_eq_some_iff.1 q3).1 (fun hg => ?_)]
   ·exact q3
   ·rcases hS g hg with q | ⟨c,e',q,r⟩
    ·omega
    ·rw [q3] at q
     injection q with q
     injection q with _ q _
     subst q
     rcases r with r | r
     ·exact h1 r
     ·exact h2 r
 exact ⟨key h.t (by decide) (by decide),key h.l (by decide) (by decide),key h.v (by decide) (by decide),key h.i (by decide) (by decide)⟩
theorem infoCo : (Tryz.prog.info? 99).map (fun i => (i.zero,i.size,i.bytes)) = some (some (.agg #[.int .i64 0,.int .i64 0,.slice none 0 0,.int .i64 0,.int .i64 0,.slice none 0 0,.int .i64 0,.int .i64 0,.slice none 0 0,.slice none 0 0]),10,144) := by kernel_rfl
theorem con_one (a b : Int) (v1 : Option Addr) (m1 c1 : Nat) (c d : Int) (v2 : Option Addr) (m2 c2 : Nat) (e f : Int) (v3 : Option Addr) (m3 c3 : Nat) (v4 : Option Addr) (m4 c4 : Nat) : ∀ u ∈ [Value.int .i64 a,.int .i64 b,.slice v1 m1 c1,.int .i64 c,.int .i64 d,.slice v2 m2 c2,.int .i64 e,.int .i64 f,.slice v3 m3 c3,.slice v4 m4 c4],u.oneCell' = true := by
 intro u hu
 simp only [List.mem_cons,List.not_mem_nil,or_false] at hu
 rcases hu with rfl | rfl | rfl | rfl | rfl | rfl | rfl | rfl | rfl | rfl <;> rfl
def ConPost (w : World) (bc bm n B m : Nat) (g : ByteArray → Th) (vV vC : Value) (S : FSt) (xs : List Value) (C : QCon) (e : Ending) (w' : World) : Prop :=
 e = .returned (.tuple #[]) ∧ ∃ v x,x.c = C ∧ CAt w' B x ∧ w'.ownsRow B 99 10 v (m + 1) (xs ++ x.cells) ∧ But ([bc] ++ vC.ownBlock.toList) w w' ∧ CkS w' bc bm n (fun s => thV (g s)) vV v S
theorem con_end {wj wA : World} {m : Nat} {o : Obj} {v : Value} {xs : List Value} (h : AC w wj bc bm n br g vV vC A cs S B R) (hcB : bc < B) (hmB : bm < B) (hoC : w.ownsRow B 99 10 vC m xs) (x : CRow) (hx : CAt wj B x) (hown : wA.ownsRow B 99 10 v (m + 1) (xs ++ x.cells)) (hg : (wj.alloc o).drew.grownBy wA vC.ownBlock) : ConPost w bc bm n B m g vV vC S xs x.c (.returned (.tuple #[])) (wA.setCell ⟨bc,2,none⟩ v) := by
 have hC : CkS wA bc bm n (fun s => thV (g s)) vV vC S := ((h.ck.alloc o).drew).kept hg (low_ne hoC hcB) (low_ne hoC hmB)
 have hoj := hoC.kept h.gr (low_ne' hoC hcB)
 have b1 : But ([bc] ++ vC.ownBlock.toList) wj (wA.setCell ⟨bc,2,none⟩ v) := ((((But.refl _ wj).alloc o).drew).grown hg (fun k e => .inl (by simp [e]))).set (.inl (by simp)) _ _
 refine ⟨rfl,v,x,rfl,hx.but b1 (fun k hk => ?_),hown.kept (grown_set _ _ _ _) (low_ne' hown hcB),?_,hC.setC⟩
 ·rcases List.mem_append.1 hk with q | q
  ·simp at q;exact .inl (by omega)
  ·have q' : vC.ownBlock = some k := by simpa using q
   rcases hoj.2 with ⟨e,_⟩ | ⟨g',cap,cur,e,_,e3,_⟩
   ·rw [e] at q';cases q'
   ·rw [e] at q'
    have : g' = k := Option.some.inj q'
    subst this
    exact .inr ⟨cur,_,e3,.inl rfl⟩
 ·have q := (((But.of (S := [bc] ++ vC.ownBlock.toList) h.gr (by simp)).alloc o).drew).grown hg (fun k e => by exact .inl (by simp [e]))
  exact q.set (.inl (by simp)) _ _
end
section
set_option maxHeartbeats 8000000
set_option maxRecDepth 100000
open Go.RowKit
variable {w : World} {bc bm n : Nat} {g : ByteArray → Th} {vV vC : Value} {st : FSt}
theorem sn_con_diff (B m : Nat) (xs : List Value) (ca : Option Addr) (cc : Nat) (h : CkS w bc bm n (fun s => thV (g s)) vV (.slice ca m cc) st) (hoC : w.ownsRow B 99 10 (.slice ca m cc) m xs) (hcB : bc < B) (hmB : bm < B) (hBw : B ≤ w.heap.size) (hm : m ≤ 3000) (hv : ThOk g) (kw nm rel : PTok) (l numbers : List PTok) (terms : List GTerm) (lits : List GLit) (v1 vu vt vl : Value) (gr cap : Nat) (hR : RowIn w v1 gr cap tokCell l) (hgc : gr ≠ bc) (hl : l.length ≤ 3000) (hok : ∀ a ∈ l,TOk a) (hk : rSort (srt kw) = 3) : Calls Tryz.prog 123 #[.pointer (some ⟨bc,0,none⟩),.agg (gsCells ⟨kw,nm,l,numbers,terms,rel,lits⟩ v1 vu vt vl)] w (ConPost w bc bm n B m g vV (.slice ca m cc) (foldSt (varStP g) 0 l (flt (decide ((16 : Int) ≤ m)) 6 kw.line st)) xs ⟨3,0,[],0,0,[],0,0,l.map (fun t => (thFind g t.s 4).pl),[]⟩) := by
 obtain ⟨i0,hi0,hz0,hz1,hz2⟩ := info_parts infoCo
 have HC : Hid (CkS w bc bm n (fun s => thV (g s)) vV (.slice ca m cc) st) := h
 have hlt := h.lt
 have hltm := h.ltm
 have hc2 := h.c2
 have HRS : Hid (rSort (srt kw) = 3) := hk
 obtain ⟨vC,hvC⟩ : ∃ v,v = Value.slice ca m cc := ⟨_,rfl⟩
 have K1 := Kept.mk (fun {W : World} (hW : CkS W bc bm n (fun s => thV (g s)) vV (.slice ca m cc) st) => sn_room hW kw m 16)
 generalize hS1 : flt (decide ((16 : Int) ≤ m)) 6 kw.line st = S1 at *
 have K2 := Kept.mk (fun {W : World} (hW : CkS W bc bm n (fun s => thV (g s)) vV (.slice ca m cc) S1) (hRW : RowIn W v1 gr cap tokCell l) => sn_variables hW l v1 gr cap hRW hgc hl hok hv)
 generalize hS2 : foldSt (varStP g) 0 l S1 = S2 at *
 unfold tkV at K1
 unfold gsCells
 simp only
 clear h hk 
 go_enter Tryz.func123,Tryz.ntmps123
 go_wp2
 go_region_law (go_simp;go_at_call 149;refine (K1.get (HC.out.alloc _).drew).mono ?_;rintro e w1 ⟨rfl,hg1,hC1⟩;have x1 := ac_start hlt hltm hcB (R := []) (fun r hr => by cases hr) hg1 hC1 #[.int .i64 3,.int .i64 0,.slice none 0 0,.int .i64 0,.int .i64 0,.slice none 0 0,.int .i64 0,.int .i64 0,.slice none 0 0,.slice none 0 0];have hs1 : w.heap.size < w1.heap.size := x1.lo;have hn1 : w.heap.size ≠ w1.heap.size := (by omega);have hn2 : w1.heap.size ≠ w.heap.size := (by omega);have hB1 := past0 (heap_alloc_new w _) (by simp) ((grown_drew' _ (some bc)).trans hg1) (by simp;omega);have a8_1 := cell_of hB1 8 _ rfl;have a0_1 := cell_of hB1 0 _ rfl)
 all_goals
  go_wp2_with (first | (go_at_call 160;refine (K2.get x1.ck (hR.kept x1.gr (by simpa using Ne.symm hgc))).mono ?_;rintro e w2 ⟨v2,rfl,hown2,hg2,hC2⟩;obtain ⟨va2,vm2,vc2,rfl⟩ := own_slice hown2;have x2 := (x1.call0 hg2 hC2).add ⟨3,1,.slice va2 vm2 vc2,(l.map (fun t : PTok => (thFind g t.s 4).pl)).length,(l.map (fun t : PTok => (thFind g t.s 4).pl)).flatMap inCell⟩ (by show 3 ≠ 99;decide) (own_map (fun t : PTok => (thFind g t.s 4).pl) (fun _ => rfl) hown2 (by have := x1.gr.size;omega));have r8_2 := cell_of x2.hS 8 _ rfl;have z8_2 := frozen_of x2.hS 8;have y2_8 := x2.sf (cs' := #[.int .i64 3,.int .i64 0,.slice none 0 0,.int .i64 0,.int .i64 0,.slice none 0 0,.int .i64 0,.int .i64 0,.slice va2 vm2 vc2,.slice none 0 0]) 8 (.slice va2 vm2 vc2) rfl) | (go_at_call 154;refine (sn_ruleSort _ _).mono ?_;rw [HRS.out];rintro e w' ⟨rfl,hww⟩;subst w'))
  have xE := y2_8
  generalize (w2.setCell ⟨w1.heap.size,8,none⟩ (.slice va2 vm2 vc2)) = wj at xE ⊢
  have m2 := xE.ck.c2
  have mf := xE.ck.f2
  have mlt := xE.ck.lt
  have c0 := cell_of xE.hS 0 _ rfl
  have c1 := cell_of xE.hS 1 _ rfl
  have c2 := cell_of xE.hS 2 _ rfl
  have c3 := cell_of xE.hS 3 _ rfl
  have c4 := cell_of xE.hS 4 _ rfl
  have c5 := cell_of xE.hS 5 _ rfl
  have c6 := cell_of xE.hS 6 _ rfl
  have c7 := cell_of xE.hS 7 _ rfl
  have c8 := cell_of xE.hS 8 _ rfl
  have c9 := cell_of xE.hS 9 _ rfl
  have blt := xE.lt
  have hoj := hoC.kept xE.gr (low_ne' hoC hcB)
  have HOWN := Kept.mk ((hoj.kept ((World.grownBy_alloc wj (.cells #[.int .i64 3,.int .i64 0,.slice none 0 0,.int .i64 0,.int .i64 0,.slice none 0 0,.int .i64 0,.int .i64 0,.slice va2 vm2 vc2,.slice none 0 0] 99) none).trans (grown_drew' _ none)) (own_none _)))
  have HNEWS := Kept.mk (World.news_of_block (w := (wj.alloc (.cells #[.int .i64 3,.int .i64 0,.slice none 0 0,.int .i64 0,.int .i64 0,.slice none 0 0,.int .i64 0,.int .i64 0,.slice va2 vm2 vc2,.slice none 0 0] 99)).drew) (cs := #[.int .i64 3,.int .i64 0,.slice none 0 0,.int .i64 0,.int .i64 0,.slice none 0 0,.int .i64 0,.int .i64 0,.slice va2 vm2 vc2,.slice none 0 0]) (t := 99) (fr := (0,0)) (heap_alloc_new wj _))
  have KEEP : Hid (∀ wA,(wj.alloc (.cells #[.int .i64 3,.int .i64 0,.slice none 0 0,.int .i64 0,.int .i64 0,.slice none 0 0,.int .i64 0,.int .i64 0,.slice va2 vm2 vc2,.slice none 0 0] 99)).drew.grownBy wA (Value.slice ca m cc).ownBlock → wA.frozen? ⟨bc,2,none⟩ = false ∧ wA.cell? ⟨bc,2,none⟩ = some (.slice ca m cc)) := fun wA hg => by
   have q := ((xE.ck.alloc _).drew).kept hg (low_ne hoC hcB) (low_ne hoC hmB)
   exact ⟨q.f2,q.c2⟩
  have hBj : B ≤ wj.heap.size := by have := xE.gr.size;omega
  go_region_law ((refine step_append_lies _ (by rfl) _ _ 74 (by rfl) B 99 i0 (.agg #[.int .i64 0,.int .i64 0,.slice none 0 0,.int .i64 0,.int .i64 0,.slice none 0 0,.int .i64 0,.int .i64 0,.slice none 0 0,.slice none 0 0]) 10 144 Tryz.underlying74 hi0 hz0 hz1 hz2 rfl (by decide) (.slice ca m cc) m xs (by rfl) HOWN.get ⟨wj.heap.size,0,none⟩ 1 1 [.int .i64 3,.int .i64 0,.slice none 0 0,.int .i64 0,.int .i64 0,.slice none 0 0,.int .i64 0,.int .i64 0,.slice va2 vm2 vc2,.slice none 0 0] (by rfl) rfl HNEWS.get (con_one _ _ _ _ _ _ _ _ _ _ _ _ _ _ _ _ _ _) (by decide) (by unfold maxLen;omega) (by omega) (by simp;omega) _ rfl ?_;intro gA capA wA hownA hgrowA hatA hltA;obtain ⟨q1,q2⟩ := KEEP.out wA hgrowA))
  all_goals have R := con_end xE hcB hmB hoC ⟨⟨3,0,[],0,0,[],0,0,l.map (fun t => (thFind g t.s 4).pl),[]⟩,.slice none 0 0,.slice none 0 0,.slice va2 vm2 vc2,.slice none 0 0⟩ ⟨World.ownsRow_nil _ _ _ _,World.ownsRow_nil _ _ _ _,(xE.rw _ (List.mem_cons_self ..)).2,World.ownsRow_nil _ _ _ _⟩ hownA hgrowA
  all_goals clear HOWN HNEWS KEEP hownA hgrowA hatA hltA
  all_goals go_wp2
  all_goals go_end0
  all_goals exact R
end
section
set_option maxHeartbeats 8000000
set_option maxRecDepth 100000
open Go.RowKit
variable {w : World} {bc bm n : Nat} {g : ByteArray → Th} {vV vC : Value} {st : FSt}
theorem sn_con_or (B m : Nat) (xs : List Value) (ca : Option Addr) (cc : Nat) (h : CkS w bc bm n (fun s => thV (g s)) vV (.slice ca m cc) st) (hoC : w.ownsRow B 99 10 (.slice ca m cc) m xs) (hcB : bc < B) (hmB : bm < B) (hBw : B ≤ w.heap.size) (hm : m ≤ 3000) (hv : ThOk g) (kw nm rel : PTok) (names numbers : List PTok) (terms : List GTerm) (l : List GLit) (vn vu vt v1 : Value) (gr cap : Nat) (hR : RowIn w v1 gr cap glCell l) (hgc : gr ≠ bc) (hl : l.length ≤ 3000) (hok : ∀ a ∈ l,TOk a.first ∧ TOk a.name) (hk : rSort (srt kw) = 4) : Calls Tryz.prog 123 #[.pointer (some ⟨bc,0,none⟩),.agg (gsCells ⟨kw,nm,names,numbers,terms,rel,l⟩ vn vu vt v1)] w (ConPost w bc bm n B m g vV (.slice ca m cc) (foldSt (litStP g) 0 l (flt (decide ((16 : Int) ≤ m)) 6 kw.line st)) xs ⟨4,0,[],0,0,[],0,0,[],l.map (fun t => ((thFind g t.name.s 4).pl,if srt t.first = 22 then 0 else 1))⟩) := by
 obtain ⟨i0,hi0,hz0,hz1,hz2⟩ := info_parts infoCo
 have HC : Hid (CkS w bc bm n (fun s => thV (g s)) vV (.slice ca m cc) st) := h
 have hlt := h.lt
 have hltm := h.ltm
 have hc2 := h.c2
 have HRS : Hid (rSort (srt kw) = 4) := hk
 obtain ⟨vC,hvC⟩ : ∃ v,v = Value.slice ca m cc := ⟨_,rfl⟩
 have K1 := Kept.mk (fun {W : World} (hW : CkS W bc bm n (fun s => thV (g s)) vV (.slice ca m cc) st) => sn_room hW kw m 16)
 generalize hS1 : flt (decide ((16 : Int) ≤ m)) 6 kw.line st = S1 at *
 have K2 := Kept.mk (fun {W : World} (hW : CkS W bc bm n (fun s => thV (g s)) vV (.slice ca m cc) S1) (hRW : RowIn W v1 gr cap glCell l) => sn_lits hW l v1 gr cap hRW hgc hl hok hv)
 generalize hS2 : foldSt (litStP g) 0 l S1 = S2 at *
 unfold tkV at K1
 unfold gsCells
 simp only
 clear h hk 
 go_enter Tryz.func123,Tryz.ntmps123
 go_wp2
 go_region_law (go_simp;go_at_call 149;refine (K1.get (HC.out.alloc _).drew).mono ?_;rintro e w1 ⟨rfl,hg1,hC1⟩;have x1 := ac_start hlt hltm hcB (R := []) (fun r hr => by cases hr) hg1 hC1 #[.int .i64 4,.int .i64 0,.slice none 0 0,.int .i64 0,.int .i64 0,.slice none 0 0,.int .i64 0,.int .i64 0,.slice none 0 0,.slice none 0 0];have hs1 : w.heap.size < w1.heap.size := x1.lo;have hn1 : w.heap.size ≠ w1.heap.size := (by omega);have hn2 : w1.heap.size ≠ w.heap.size := (by omega);have hB1 := past0 (heap_alloc_new w _) (by simp) ((grown_drew' _ (some bc)).trans hg1) (by simp;omega);have a15_1 := cell_of hB1 15 _ rfl;have a0_1 := cell_of hB1 0 _ rfl)
 all_goals
  go_wp2_with (first | (go_at_call 161;refine (K2.get x1.ck (hR.kept x1.gr (by simpa using Ne.symm hgc))).mono ?_;rintro e w2 ⟨v2,rfl,hown2,hg2,hC2⟩;obtain ⟨va2,vm2,vc2,rfl⟩ := own_slice hown2;have x2 := (x1.call0 hg2 hC2).add ⟨203,2,.slice va2 vm2 vc2,(l.map (fun t : GLit => ((thFind g t.name.s 4).pl,if srt t.first = 22 then 0 else 1))).length,(l.map (fun t : GLit => ((thFind g t.name.s 4).pl,if srt t.first = 22 then 0 else 1))).flatMap prCell⟩ (by show 203 ≠ 99;decide) (own_map (fun t : GLit => ((thFind g t.name.s 4).pl,if srt t.first = 22 then 0 else 1)) (fun _ => rfl) hown2 (by have := x1.gr.size;omega));have r9_2 := cell_of x2.hS 9 _ rfl;have z9_2 := frozen_of x2.hS 9;have y2_9 := x2.sf (cs' := #[.int .i64 4,.int .i64 0,.slice none 0 0,.int .i64 0,.int .i64 0,.slice none 0 0,.int .i64 0,.int .i64 0,.slice none 0 0,.slice va2 vm2 vc2]) 9 (.slice va2 vm2 vc2) rfl) | (go_at_call 154;refine (sn_ruleSort _ _).mono ?_;rw [HRS.out];rintro e w' ⟨rfl,hww⟩;subst w'))
  have xE := y2_9
  generalize (w2.setCell ⟨w1.heap.size,9,none⟩ (.slice va2 vm2 vc2)) = wj at xE ⊢
  have m2 := xE.ck.c2
  have mf := xE.ck.f2
  have mlt := xE.ck.lt
  have c0 := cell_of xE.hS 0 _ rfl
  have c1 := cell_of xE.hS 1 _ rfl
  have c2 := cell_of xE.hS 2 _ rfl
  have c3 := cell_of xE.hS 3 _ rfl
  have c4 := cell_of xE.hS 4 _ rfl
  have c5 := cell_of xE.hS 5 _ rfl
  have c6 := cell_of xE.hS 6 _ rfl
  have c7 := cell_of xE.hS 7 _ rfl
  have c8 := cell_of xE.hS 8 _ rfl
  have c9 := cell_of xE.hS 9 _ rfl
  have blt := xE.lt
  have hoj := hoC.kept xE.gr (low_ne' hoC hcB)
  have HOWN := Kept.mk ((hoj.kept ((World.grownBy_alloc wj (.cells #[.int .i64 4,.int .i64 0,.slice none 0 0,.int .i64 0,.int .i64 0,.slice none 0 0,.int .i64 0,.int .i64 0,.slice none 0 0,.slice va2 vm2 vc2] 99) none).trans (grown_drew' _ none)) (own_none _)))
  have HNEWS := Kept.mk (World.news_of_block (w := (wj.alloc (.cells #[.int .i64 4,.int .i64 0,.slice none 0 0,.int .i64 0,.int .i64 0,.slice none 0 0,.int .i64 0,.int .i64 0,.slice none 0 0,.slice va2 vm2 vc2] 99)).drew) (cs := #[.int .i64 4,.int .i64 0,.slice none 0 0,.int .i64 0,.int .i64 0,.slice none 0 0,.int .i64 0,.int .i64 0,.slice none 0 0,.slice va2 vm2 vc2]) (t := 99) (fr := (0,0)) (heap_alloc_new wj _))
  have KEEP : Hid (∀ wA,(wj.alloc (.cells #[.int .i64 4,.int .i64 0,.slice none 0 0,.int .i64 0,.int .i64 0,.slice none 0 0,.int .i64 0,.int .i64 0,.slice none 0 0,.slice va2 vm2 vc2] 99)).drew.grownBy wA (Value.slice ca m cc).ownBlock → wA.frozen? ⟨bc,2,none⟩ = false ∧ wA.cell? ⟨bc,2,none⟩ = some (.slice ca m cc)) := fun wA hg => by
   have q := ((xE.ck.alloc _).drew).kept hg (low_ne hoC hcB) (low_ne hoC hmB)
   exact ⟨q.f2,q.c2⟩
  have hBj : B ≤ wj.heap.size := by have := xE.gr.size;omega
  go_region_law ((refine step_append_lies _ (by rfl) _ _ 74 (by rfl) B 99 i0 (.agg #[.int .i64 0,.int .i64 0,.slice none 0 0,.int .i64 0,.int .i64 0,.slice none 0 0,.int .i64 0,.int .i64 0,.slice none 0 0,.slice none 0 0]) 10 144 Tryz.underlying74 hi0 hz0 hz1 hz2 rfl (by decide) (.slice ca m cc) m xs (by rfl) HOWN.get ⟨wj.heap.size,0,none⟩ 1 1 [.int .i64 4,.int .i64 0,.slice none 0 0,.int .i64 0,.int .i64 0,.slice none 0 0,.int .i64 0,.int .i64 0,.slice none 0 0,.slice va2 vm2 vc2] (by rfl) rfl HNEWS.get (con_one _ _ _ _ _ _ _ _ _ _ _ _ _ _ _ _ _ _) (by decide) (by unfold maxLen;omega) (by omega) (by simp;omega) _ rfl ?_;intro gA capA wA hownA hgrowA hatA hltA;obtain ⟨q1,q2⟩ := KEEP.out wA hgrowA))
  all_goals have R := con_end xE hcB hmB hoC ⟨⟨4,0,[],0,0,[],0,0,[],l.map (fun t => ((thFind g t.name.s 4).pl,if srt t.first = 22 then 0 else 1))⟩,.slice none 0 0,.slice none 0 0,.slice none 0 0,.slice va2 vm2 vc2⟩ ⟨World.ownsRow_nil _ _ _ _,World.ownsRow_nil _ _ _ _,World.ownsRow_nil _ _ _ _,(xE.rw _ (List.mem_cons_self ..)).2⟩ hownA hgrowA
  all_goals clear HOWN HNEWS KEEP hownA hgrowA hatA hltA
  all_goals go_wp2
  all_goals go_end0
  all_goals exact R
end
section
set_option maxHeartbeats 8000000
set_option maxRecDepth 100000
open Go.RowKit
variable {w : World} {bc bm n : Nat} {g : ByteArray → Th} {vV vC : Value} {st : FSt}
theorem sn_con_lin (B m : Nat) (xs : List Value) (ca : Option Addr) (cc : Nat) (h : CkS w bc bm n (fun s => thV (g s)) vV (.slice ca m cc) st) (hoC : w.ownsRow B 99 10 (.slice ca m cc) m xs) (hcB : bc < B) (hmB : bm < B) (hBw : B ≤ w.heap.size) (hm : m ≤ 3000) (hv : ThOk g) (kw nm rel M : PTok) (names : List PTok) (l : List GTerm) (lits : List GLit) (vn vu v1 vl : Value) (gr cap gru capu : Nat) (hR : RowIn w v1 gr cap gtCell l) (hgc : gr ≠ bc) (hU : RowIn w vu gru capu tokCell [M]) (hgu : gru ≠ bc) (hl : l.length ≤ 3000) (hok : ∀ a ∈ l,TOk a.first ∧ TOk a.name) (hkN : TOk nm) (hkM : TOk M) (hk : rSort (srt kw) = 0) : Calls Tryz.prog 123 #[.pointer (some ⟨bc,0,none⟩),.agg (gsCells ⟨kw,nm,names,[M],l,rel,lits⟩ vn vu v1 vl)] w (ConPost w bc bm n B m g vV (.slice ca m cc) (flt (outB (tval M) 1000000) 5 M.line (foldSt (termStP g) 0 l (flt (decide ((16 : Int) ≤ m)) 6 kw.line st))) xs ⟨0,0,l.map (fun t => ((thFind g t.name.s 4).pl,facV t)),rRel (srt rel),tval M,[],0,0,[],[]⟩) := by
 obtain ⟨i0,hi0,hz0,hz1,hz2⟩ := info_parts infoCo
 have HC : Hid (CkS w bc bm n (fun s => thV (g s)) vV (.slice ca m cc) st) := h
 have hlt := h.lt
 have hltm := h.ltm
 have hc2 := h.c2
 have HRS : Hid (rSort (srt kw) = 0) := hk
 obtain ⟨vC,hvC⟩ : ∃ v,v = Value.slice ca m cc := ⟨_,rfl⟩
 have hy1 := hkM.2.1;have hy2 := hkM.2.2
 obtain rfl := hU.is
 have K1 := Kept.mk (fun {W : World} (hW : CkS W bc bm n (fun s => thV (g s)) vV (.slice ca m cc) st) => sn_room hW kw m 16)
 generalize hS1 : flt (decide ((16 : Int) ≤ m)) 6 kw.line st = S1 at *
 have K2 := Kept.mk (fun {W : World} (hW : CkS W bc bm n (fun s => thV (g s)) vV (.slice ca m cc) S1) (hRW : RowIn W v1 gr cap gtCell l) => sn_terms hW l v1 gr cap hRW hgc hl hok hv)
 generalize hS2 : foldSt (termStP g) 0 l S1 = S2 at *
 have K3 := Kept.mk (fun {W : World} (hW : CkS W bc bm n (fun s => thV (g s)) vV (.slice ca m cc) S2) => sn_number hW M 1000000 (by decide) (by decide))
 generalize hS3 : flt (outB (tval M) 1000000) 5 M.line S2 = S3 at *
 unfold tkV at K1 K3
 unfold gsCells
 simp only
 clear h hk 
 go_enter Tryz.func123,Tryz.ntmps123
 go_wp2
 go_region_law (go_simp;go_at_call 149;refine (K1.get (HC.out.alloc _).drew).mono ?_;rintro e w1 ⟨rfl,hg1,hC1⟩;have x1 := ac_start hlt hltm hcB (R := []) (fun r hr => by cases hr) hg1 hC1 #[.int .i64 0,.int .i64 0,.slice none 0 0,.int .i64 0,.int .i64 0,.slice none 0 0,.int .i64 0,.int .i64 0,.slice none 0 0,.slice none 0 0];have hs1 : w.heap.size < w1.heap.size := x1.lo;have hn1 : w.heap.size ≠ w1.heap.size := (by omega);have hn2 : w1.heap.size ≠ w.heap.size := (by omega);have hB1 := past0 (heap_alloc_new w _) (by simp) ((grown_drew' _ (some bc)).trans hg1) (by simp;omega);have a0_1 := cell_of hB1 0 _ rfl;have a10_1 := cell_of hB1 10 _ rfl)
 all_goals
  go_wp2_with (first | (go_at_call 157;refine (sn_ruleRel _ _).mono ?_;rintro e w' ⟨rfl,hww⟩;subst w') | (go_at_call 151;refine (K3.get y2_3.ck).mono ?_;rintro e w3 ⟨rfl,hg3,hC3⟩;have x3 := (y2_3.call0 hg3 hC3);have r4_3 := cell_of x3.hS 4 _ rfl;have z4_3 := frozen_of x3.hS 4;have y3_4 := x3.sf (cs' := #[.int .i64 0,.int .i64 0,.slice va2 vm2 vc2,.int .i64 (rRel (srt rel)),.int .i64 (tval M),.slice none 0 0,.int .i64 0,.int .i64 0,.slice none 0 0,.slice none 0 0]) 4 (.int .i64 (tval M)) rfl) | (go_at_call 156;refine (K2.get x1.ck (hR.kept x1.gr (by simpa using Ne.symm hgc))).mono ?_;rintro e w2 ⟨v2,rfl,hown2,hg2,hC2⟩;obtain ⟨va2,vm2,vc2,rfl⟩ := own_slice hown2;have x2 := (x1.call0 hg2 hC2).add ⟨201,2,.slice va2 vm2 vc2,(l.map (fun t : GTerm => ((thFind g t.name.s 4).pl,facV t))).length,(l.map (fun t : GTerm => ((thFind g t.name.s 4).pl,facV t))).flatMap prCell⟩ (by show 201 ≠ 99;decide) (own_map (fun t : GTerm => ((thFind g t.name.s 4).pl,facV t)) (fun _ => rfl) hown2 (by have := x1.gr.size;omega));have a9_2 := cell_of x2.hA 9 _ rfl;have a11_2 := cell_of x2.hA 11 _ rfl;have r2_2 := cell_of x2.hS 2 _ rfl;have z2_2 := frozen_of x2.hS 2;have r3_2 := cell_of x2.hS 3 _ rfl;have z3_2 := frozen_of x2.hS 3;have y2_2 := x2.sf (cs' := #[.int .i64 0,.int .i64 0,.slice va2 vm2 vc2,.int .i64 0,.int .i64 0,.slice none 0 0,.int .i64 0,.int .i64 0,.slice none 0 0,.slice none 0 0]) 2 (.slice va2 vm2 vc2) rfl;have y2_3 := y2_2.sf (cs' := #[.int .i64 0,.int .i64 0,.slice va2 vm2 vc2,.int .i64 (rRel (srt rel)),.int .i64 0,.slice none 0 0,.int .i64 0,.int .i64 0,.slice none 0 0,.slice none 0 0]) 3 (.int .i64 (rRel (srt rel))) rfl;have q0_2 := (hU.kept x2.gr (by simpa using Ne.symm hgu)).row 0 _ rfl;have q1_2 := (hU.kept x2.gr (by simpa using Ne.symm hgu)).row 1 _ rfl;have q2_2 := (hU.kept x2.gr (by simpa using Ne.symm hgu)).row 2 _ rfl;have q3_2 := (hU.kept x2.gr (by simpa using Ne.symm hgu)).row 3 _ rfl;have hu2 : gru ≠ w1.heap.size := (by have := hU.lt;omega)) | (go_at_call 154;refine (sn_ruleSort _ _).mono ?_;rw [HRS.out];rintro e w' ⟨rfl,hww⟩;subst w'))
  have xE := y3_4
  generalize (w3.setCell ⟨w1.heap.size,4,none⟩ (.int .i64 (tval M))) = wj at xE ⊢
  have m2 := xE.ck.c2
  have mf := xE.ck.f2
  have mlt := xE.ck.lt
  have c0 := cell_of xE.hS 0 _ rfl
  have c1 := cell_of xE.hS 1 _ rfl
  have c2 := cell_of xE.hS 2 _ rfl
  have c3 := cell_of xE.hS 3 _ rfl
  have c4 := cell_of xE.hS 4 _ rfl
  have c5 := cell_of xE.hS 5 _ rfl
  have c6 := cell_of xE.hS 6 _ rfl
  have c7 := cell_of xE.hS 7 _ rfl
  have c8 := cell_of xE.hS 8 _ rfl
  have c9 := cell_of xE.hS 9 _ rfl
  have blt := xE.lt
  have hoj := hoC.kept xE.gr (low_ne' hoC hcB)
  have HOWN := Kept.mk ((hoj.kept ((World.grownBy_alloc wj (.cells #[.int .i64 0,.int .i64 0,.slice va2 vm2 vc2,.int .i64 (rRel (srt rel)),.int .i64 (tval M),.slice none 0 0,.int .i64 0,.int .i64 0,.slice none 0 0,.slice none 0 0] 99) none).trans (grown_drew' _ none)) (own_none _)))
  have HNEWS := Kept.mk (World.news_of_block (w := (wj.alloc (.cells #[.int .i64 0,.int .i64 0,.slice va2 vm2 vc2,.int .i64 (rRel (srt rel)),.int .i64 (tval M),.slice none 0 0,.int .i64 0,.int .i64 0,.slice none 0 0,.slice none 0 0] 99)).drew) (cs := #[.int .i64 0,.int .i64 0,.slice va2 vm2 vc2,.int .i64 (rRel (srt rel)),.int .i64 (tval M),.slice none 0 0,.int .i64 0,.int .i64 0,.slice none 0 0,.slice none 0 0]) (t := 99) (fr := (0,0)) (heap_alloc_new wj _))
  have KEEP : Hid (∀ wA,(wj.alloc (.cells #[.int .i64 0,.int .i64 0,.slice va2 vm2 vc2,.int .i64 (rRel (srt rel)),.int .i64 (tval M),.slice none 0 0,.int .i64 0,.int .i64 0,.slice none 0 0,.slice none 0 0] 99)).drew.grownBy wA (Value.slice ca m cc).ownBlock → wA.frozen? ⟨bc,2,none⟩ = false ∧ wA.cell? ⟨bc,2,none⟩ = some (.slice ca m cc)) := fun wA hg => by
   have q := ((xE.ck.alloc _).drew).kept hg (low_ne hoC hcB) (low_ne hoC hmB)
   exact ⟨q.f2,q.c2⟩
  have hBj : B ≤ wj.heap.size := by have := xE.gr.size;omega
  go_region_law ((refine step_append_lies _ (by rfl) _ _ 74 (by rfl) B 99 i0 (.agg #[.int .i64 0,.int .i64 0,.slice none 0 0,.int .i64 0,.int .i64 0,.slice none 0 0,.int .i64 0,.int .i64 0,.slice none 0 0,.slice none 0 0]) 10 144 Tryz.underlying74 hi0 hz0 hz1 hz2 rfl (by decide) (.slice ca m cc) m xs (by rfl) HOWN.get ⟨wj.heap.size,0,none⟩ 1 1 [.int .i64 0,.int .i64 0,.slice va2 vm2 vc2,.int .i64 (rRel (srt rel)),.int .i64 (tval M),.slice none 0 0,.int .i64 0,.int .i64 0,.slice none 0 0,.slice none 0 0] (by rfl) rfl HNEWS.get (con_one _ _ _ _ _ _ _ _ _ _ _ _ _ _ _ _ _ _) (by decide) (by unfold maxLen;omega) (by omega) (by simp;omega) _ rfl ?_;intro gA capA wA hownA hgrowA hatA hltA;obtain ⟨q1,q2⟩ := KEEP.out wA hgrowA))
  all_goals have R := con_end xE hcB hmB hoC ⟨⟨0,0,l.map (fun t => ((thFind g t.name.s 4).pl,facV t)),rRel (srt rel),tval M,[],0,0,[],[]⟩,.slice va2 vm2 vc2,.slice none 0 0,.slice none 0 0,.slice none 0 0⟩ ⟨(xE.rw _ (List.mem_cons_self ..)).2,World.ownsRow_nil _ _ _ _,World.ownsRow_nil _ _ _ _,World.ownsRow_nil _ _ _ _⟩ hownA hgrowA
  all_goals clear HOWN HNEWS KEEP hownA hgrowA hatA hltA
  all_goals go_wp2
  all_goals go_end0
  all_goals exact R
end
section
set_option maxHeartbeats 8000000
set_option maxRecDepth 100000
open Go.RowKit
variable {w : World} {bc bm n : Nat} {g : ByteArray → Th} {vV vC : Value} {st : FSt}
theorem sn_con_when (B m : Nat) (xs : List Value) (ca : Option Addr) (cc : Nat) (h : CkS w bc bm n (fun s => thV (g s)) vV (.slice ca m cc) st) (hoC : w.ownsRow B 99 10 (.slice ca m cc) m xs) (hcB : bc < B) (hmB : bm < B) (hBw : B ≤ w.heap.size) (hm : m ≤ 3000) (hv : ThOk g) (kw nm rel M : PTok) (names : List PTok) (l : List GTerm) (lits : List GLit) (vn vu v1 vl : Value) (gr cap gru capu : Nat) (hR : RowIn w v1 gr cap gtCell l) (hgc : gr ≠ bc) (hU : RowIn w vu gru capu tokCell [M]) (hgu : gru ≠ bc) (hl : l.length ≤ 3000) (hok : ∀ a ∈ l,TOk a.first ∧ TOk a.name) (hkN : TOk nm) (hkM : TOk M) (hk : rSort (srt kw) = 1) : Calls Tryz.prog 123 #[.pointer (some ⟨bc,0,none⟩),.agg (gsCells ⟨kw,nm,names,[M],l,rel,lits⟩ vn vu v1 vl)] w (ConPost w bc bm n B m g vV (.slice ca m cc) (flt (outB (tval M) 1000000) 5 M.line (foldSt (termStP g) 0 l (flt (noTruthT (thFind g nm.s 4)) 7 nm.line (flt ((g nm.s).so != 4) 4 nm.line (flt (decide ((16 : Int) ≤ m)) 6 kw.line st))))) xs ⟨1,(thFind g nm.s 4).pl,l.map (fun t => ((thFind g t.name.s 4).pl,facV t)),rRel (srt rel),tval M,[],0,0,[],[]⟩) := by
 obtain ⟨i0,hi0,hz0,hz1,hz2⟩ := info_parts infoCo
 have HC : Hid (CkS w bc bm n (fun s => thV (g s)) vV (.slice ca m cc) st) := h
 have hlt := h.lt
 have hltm := h.ltm
 have hc2 := h.c2
 have HRS : Hid (rSort (srt kw) = 1) := hk
 obtain ⟨vC,hvC⟩ : ∃ v,v = Value.slice ca m cc := ⟨_,rfl⟩
 have hy1 := hkM.2.1;have hy2 := hkM.2.2
 obtain rfl := hU.is
 have K1 := Kept.mk (fun {W : World} (hW : CkS W bc bm n (fun s => thV (g s)) vV (.slice ca m cc) st) => sn_room hW kw m 16)
 generalize hS1 : flt (decide ((16 : Int) ≤ m)) 6 kw.line st = S1 at *
 have K2 := Kept.mk (fun {W : World} (hW : CkS W bc bm n (fun s => thV (g s)) vV (.slice ca m cc) S1) => sn_truth hW nm hkN.1 hv)
 generalize hS2 : flt (noTruthT (thFind g nm.s 4)) 7 nm.line (flt ((g nm.s).so != 4) 4 nm.line S1) = S2 at *
 have K3 := Kept.mk (fun {W : World} (hW : CkS W bc bm n (fun s => thV (g s)) vV (.slice ca m cc) S2) (hRW : RowIn W v1 gr cap gtCell l) => sn_terms hW l v1 gr cap hRW hgc hl hok hv)
 generalize hS3 : foldSt (termStP g) 0 l S2 = S3 at *
 have K4 := Kept.mk (fun {W : World} (hW : CkS W bc bm n (fun s => thV (g s)) vV (.slice ca m cc) S3) => sn_number hW M 1000000 (by decide) (by decide))
 generalize hS4 : flt (outB (tval M) 1000000) 5 M.line S3 = S4 at *
 unfold tkV at K1 K2 K4
 unfold gsCells
 simp only
 clear h hk 
 go_enter Tryz.func123,Tryz.ntmps123
 go_wp2
 go_region_law (go_simp;go_at_call 149;refine (K1.get (HC.out.alloc _).drew).mono ?_;rintro e w1 ⟨rfl,hg1,hC1⟩;have x1 := ac_start hlt hltm hcB (R := []) (fun r hr => by cases hr) hg1 hC1 #[.int .i64 1,.int .i64 0,.slice none 0 0,.int .i64 0,.int .i64 0,.slice none 0 0,.int .i64 0,.int .i64 0,.slice none 0 0,.slice none 0 0];have hs1 : w.heap.size < w1.heap.size := x1.lo;have hn1 : w.heap.size ≠ w1.heap.size := (by omega);have hn2 : w1.heap.size ≠ w.heap.size := (by omega);have hB1 := past0 (heap_alloc_new w _) (by simp) ((grown_drew' _ (some bc)).trans hg1) (by simp;omega);have a0_1 := cell_of hB1 0 _ rfl;have a4_1 := cell_of hB1 4 _ rfl;have a5_1 := cell_of hB1 5 _ rfl;have a6_1 := cell_of hB1 6 _ rfl;have a7_1 := cell_of hB1 7 _ rfl)
 all_goals
  go_wp2_with (first | (go_at_call 157;refine (sn_ruleRel _ _).mono ?_;rintro e w' ⟨rfl,hww⟩;subst w') | (go_at_call 151;refine (K4.get y3_3.ck).mono ?_;rintro e w4 ⟨rfl,hg4,hC4⟩;have x4 := (y3_3.call0 hg4 hC4);have r4_4 := cell_of x4.hS 4 _ rfl;have z4_4 := frozen_of x4.hS 4;have y4_4 := x4.sf (cs' := #[.int .i64 1,.int .i64 (thFind g nm.s 4).pl,.slice va3 vm3 vc3,.int .i64 (rRel (srt rel)),.int .i64 (tval M),.slice none 0 0,.int .i64 0,.int .i64 0,.slice none 0 0,.slice none 0 0]) 4 (.int .i64 (tval M)) rfl) | (go_at_call 156;refine (K3.get y2_1.ck (hR.kept y2_1.gr (by simpa using Ne.symm hgc))).mono ?_;rintro e w3 ⟨v3,rfl,hown3,hg3,hC3⟩;obtain ⟨va3,vm3,vc3,rfl⟩ := own_slice hown3;have x3 := (y2_1.call0 hg3 hC3).add ⟨201,2,.slice va3 vm3 vc3,(l.map (fun t : GTerm => ((thFind g t.name.s 4).pl,facV t))).length,(l.map (fun t : GTerm => ((thFind g t.name.s 4).pl,facV t))).flatMap prCell⟩ (by show 201 ≠ 99;decide) (own_map (fun t : GTerm => ((thFind g t.name.s 4).pl,facV t)) (fun _ => rfl) hown3 (by have := y2_1.gr.size;omega));have a9_3 := cell_of x3.hA 9 _ rfl;have a11_3 := cell_of x3.hA 11 _ rfl;have r2_3 := cell_of x3.hS 2 _ rfl;have z2_3 := frozen_of x3.hS 2;have r3_3 := cell_of x3.hS 3 _ rfl;have z3_3 := frozen_of x3.hS 3;have y3_2 := x3.sf (cs' := #[.int .i64 1,.int .i64 (thFind g nm.s 4).pl,.slice va3 vm3 vc3,.int .i64 0,.int .i64 0,.slice none 0 0,.int .i64 0,.int .i64 0,.slice none 0 0,.slice none 0 0]) 2 (.slice va3 vm3 vc3) rfl;have y3_3 := y3_2.sf (cs' := #[.int .i64 1,.int .i64 (thFind g nm.s 4).pl,.slice va3 vm3 vc3,.int .i64 (rRel (srt rel)),.int .i64 0,.slice none 0 0,.int .i64 0,.int .i64 0,.slice none 0 0,.slice none 0 0]) 3 (.int .i64 (rRel (srt rel))) rfl;have q0_3 := (hU.kept x3.gr (by simpa using Ne.symm hgu)).row 0 _ rfl;have q1_3 := (hU.kept x3.gr (by simpa using Ne.symm hgu)).row 1 _ rfl;have q2_3 := (hU.kept x3.gr (by simpa using Ne.symm hgu)).row 2 _ rfl;have q3_3 := (hU.kept x3.gr (by simpa using Ne.symm hgu)).row 3 _ rfl;have hu3 : gru ≠ w1.heap.size := (by have := hU.lt;omega)) | (go_at_call 155;refine (K2.get x1.ck).mono ?_;rintro e w2 ⟨rfl,hg2,hC2⟩;have x2 := (x1.call0 hg2 hC2);have a10_2 := cell_of x2.hA 10 _ rfl;have r1_2 := cell_of x2.hS 1 _ rfl;have z1_2 := frozen_of x2.hS 1;have y2_1 := x2.sf (cs' := #[.int .i64 1,.int .i64 (thFind g nm.s 4).pl,.slice none 0 0,.int .i64 0,.int .i64 0,.slice none 0 0,.int .i64 0,.int .i64 0,.slice none 0 0,.slice none 0 0]) 1 (.int .i64 (thFind g nm.s 4).pl) rfl) | (go_at_call 154;refine (sn_ruleSort _ _).mono ?_;rw [HRS.out];rintro e w' ⟨rfl,hww⟩;subst w'))
  have xE := y4_4
  generalize (w4.setCell ⟨w1.heap.size,4,none⟩ (.int .i64 (tval M))) = wj at xE ⊢
  have m2 := xE.ck.c2
  have mf := xE.ck.f2
  have mlt := xE.ck.lt
  have c0 := cell_of xE.hS 0 _ rfl
  have c1 := cell_of xE.hS 1 _ rfl
  have c2 := cell_of xE.hS 2 _ rfl
  have c3 := cell_of xE.hS 3 _ rfl
  have c4 := cell_of xE.hS 4 _ rfl
  have c5 := cell_of xE.hS 5 _ rfl
  have c6 := cell_of xE.hS 6 _ rfl
  have c7 := cell_of xE.hS 7 _ rfl
  have c8 := cell_of xE.hS 8 _ rfl
  have c9 := cell_of xE.hS 9 _ rfl
  have blt := xE.lt
  have hoj := hoC.kept xE.gr (low_ne' hoC hcB)
  have HOWN := Kept.mk ((hoj.kept ((World.grownBy_alloc wj (.cells #[.int .i64 1,.int .i64 (thFind g nm.s 4).pl,.slice va3 vm3 vc3,.int .i64 (rRel (srt rel)),.int .i64 (tval M),.slice none 0 0,.int .i64 0,.int .i64 0,.slice none 0 0,.slice none 0 0] 99) none).trans (grown_drew' _ none)) (own_none _)))
  have HNEWS := Kept.mk (World.news_of_block (w := (wj.alloc (.cells #[.int .i64 1,.int .i64 (thFind g nm.s 4).pl,.slice va3 vm3 vc3,.int .i64 (rRel (srt rel)),.int .i64 (tval M),.slice none 0 0,.int .i64 0,.int .i64 0,.slice none 0 0,.slice none 0 0] 99)).drew) (cs := #[.int .i64 1,.int .i64 (thFind g nm.s 4).pl,.slice va3 vm3 vc3,.int .i64 (rRel (srt rel)),.int .i64 (tval M),.slice none 0 0,.int .i64 0,.int .i64 0,.slice none 0 0,.slice none 0 0]) (t := 99) (fr := (0,0)) (heap_alloc_new wj _))
  have KEEP : Hid (∀ wA,(wj.alloc (.cells #[.int .i64 1,.int .i64 (thFind g nm.s 4).pl,.slice va3 vm3 vc3,.int .i64 (rRel (srt rel)),.int .i64 (tval M),.slice none 0 0,.int .i64 0,.int .i64 0,.slice none 0 0,.slice none 0 0] 99)).drew.grownBy wA (Value.slice ca m cc).ownBlock → wA.frozen? ⟨bc,2,none⟩ = false ∧ wA.cell? ⟨bc,2,none⟩ = some (.slice ca m cc)) := fun wA hg => by
   have q := ((xE.ck.alloc _).drew).kept hg (low_ne hoC hcB) (low_ne hoC hmB)
   exact ⟨q.f2,q.c2⟩
  have hBj : B ≤ wj.heap.size := by have := xE.gr.size;omega
  go_region_law ((refine step_append_lies _ (by rfl) _ _ 74 (by rfl) B 99 i0 (.agg #[.int .i64 0,.int .i64 0,.slice none 0 0,.int .i64 0,.int .i64 0,.slice none 0 0,.int .i64 0,.int .i64 0,.slice none 0 0,.slice none 0 0]) 10 144 Tryz.underlying74 hi0 hz0 hz1 hz2 rfl (by decide) (.slice ca m cc) m xs (by rfl) HOWN.get ⟨wj.heap.size,0,none⟩ 1 1 [.int .i64 1,.int .i64 (thFind g nm.s 4).pl,.slice va3 vm3 vc3,.int .i64 (rRel (srt rel)),.int .i64 (tval M),.slice none 0 0,.int .i64 0,.int .i64 0,.slice none 0 0,.slice none 0 0] (by rfl) rfl HNEWS.get (con_one _ _ _ _ _ _ _ _ _ _ _ _ _ _ _ _ _ _) (by decide) (by unfold maxLen;omega) (by omega) (by simp;omega) _ rfl ?_;intro gA capA wA hownA hgrowA hatA hltA;obtain ⟨q1,q2⟩ := KEEP.out wA hgrowA))
  all_goals have R := con_end xE hcB hmB hoC ⟨⟨1,(thFind g nm.s 4).pl,l.map (fun t => ((thFind g t.name.s 4).pl,facV t)),rRel (srt rel),tval M,[],0,0,[],[]⟩,.slice va3 vm3 vc3,.slice none 0 0,.slice none 0 0,.slice none 0 0⟩ ⟨(xE.rw _ (List.mem_cons_self ..)).2,World.ownsRow_nil _ _ _ _,World.ownsRow_nil _ _ _ _,World.ownsRow_nil _ _ _ _⟩ hownA hgrowA
  all_goals clear HOWN HNEWS KEEP hownA hgrowA hatA hltA
  all_goals go_wp2
  all_goals go_end0
  all_goals exact R
end
section
set_option maxHeartbeats 8000000
set_option maxRecDepth 100000
open Go.RowKit
variable {w : World} {bc bm n : Nat} {g : ByteArray → Th} {vV vC : Value} {st : FSt}
theorem sn_con_at (B m : Nat) (xs : List Value) (ca : Option Addr) (cc : Nat) (h : CkS w bc bm n (fun s => thV (g s)) vV (.slice ca m cc) st) (hoC : w.ownsRow B 99 10 (.slice ca m cc) m xs) (hcB : bc < B) (hmB : bm < B) (hBw : B ≤ w.heap.size) (hm : m ≤ 3000) (hv : ThOk g) (kw nm rel P Q : PTok) (ln : List Int) (hln : w.ownsRow B 3 1 (thFind g nm.s 5).v ln.length (ln.flatMap inCell)) (numbers : List PTok) (terms : List GTerm) (lits : List GLit) (v1 vu vt vl : Value) (gr cap : Nat) (hR : RowIn w v1 gr cap tokCell [P,Q]) (hgc : gr ≠ bc) (hkN : TOk nm) (hkP : TOk P) (hkQ : TOk Q) (hk : rSort (srt kw) = 2) : Calls Tryz.prog 123 #[.pointer (some ⟨bc,0,none⟩),.agg (gsCells ⟨kw,nm,[P,Q],numbers,terms,rel,lits⟩ v1 vu vt vl)] w (ConPost w bc bm n B m g vV (.slice ca m cc) (flt ((g Q.s).so != 4) 4 Q.line (flt ((g P.s).so != 4) 4 P.line (flt ((g nm.s).so != 5) 4 nm.line (flt (decide ((16 : Int) ≤ m)) 6 kw.line st)))) xs ⟨2,0,[],0,0,ln,(thFind g P.s 4).pl,(thFind g Q.s 4).pl,[],[]⟩) := by
 obtain ⟨i0,hi0,hz0,hz1,hz2⟩ := info_parts infoCo
 have HC : Hid (CkS w bc bm n (fun s => thV (g s)) vV (.slice ca m cc) st) := h
 have hlt := h.lt
 have hltm := h.ltm
 have hc2 := h.c2
 have HRS : Hid (rSort (srt kw) = 2) := hk
 obtain ⟨vC,hvC⟩ : ∃ v,v = Value.slice ca m cc := ⟨_,rfl⟩
 have hfield := fun a b c d e W => (thing_field a b c d e W).2.2
 have hvF : ∃ a m c,(thFind g nm.s 5).v = .slice a m c := by
  unfold thFind;split
  ·exact hv _
  ·exact ⟨_,_,_,rfl⟩
 obtain ⟨fa,fm,fc,hvF⟩ := hvF
 obtain ⟨Fn,hFn⟩ : ∃ F,F = thFind g nm.s 5 := ⟨_,rfl⟩
 rw [← hFn] at hvF hln
 rw [hvF] at hln
 have HLN : Hid (∀ r ∈ [(⟨3,1,.slice fa fm fc,ln.length,ln.flatMap inCell⟩ : ORow)],r.e ≠ 99 ∧ w.ownsRow B r.e r.s r.v r.n r.xs) := fun r hr => by
  simp only [List.mem_cons,List.not_mem_nil,or_false] at hr;subst hr;exact ⟨by show 3 ≠ 99;decide,hln⟩
 clear hln
 obtain rfl := hR.is
 have K1 := Kept.mk (fun {W : World} (hW : CkS W bc bm n (fun s => thV (g s)) vV (.slice ca m cc) st) => sn_room hW kw m 16)
 generalize hS1 : flt (decide ((16 : Int) ≤ m)) 6 kw.line st = S1 at *
 have K2 := Kept.mk (fun {W : World} (hW : CkS W bc bm n (fun s => thV (g s)) vV (.slice ca m cc) S1) => sn_find hW nm hkN.1 5 (hv nm.s))
 rw [← hFn] at K2
 generalize hS2 : flt ((g nm.s).so != 5) 4 nm.line S1 = S2 at *
 have K3 := Kept.mk (fun {W : World} (hW : CkS W bc bm n (fun s => thV (g s)) vV (.slice ca m cc) S2) => sn_variable hW P hkP.1 hv)
 generalize hS3 : flt ((g P.s).so != 4) 4 P.line S2 = S3 at *
 have K4 := Kept.mk (fun {W : World} (hW : CkS W bc bm n (fun s => thV (g s)) vV (.slice ca m cc) S3) => sn_variable hW Q hkQ.1 hv)
 generalize hS4 : flt ((g Q.s).so != 4) 4 Q.line S3 = S4 at *
 unfold tkV at K1 K2 K3 K4
 unfold gsCells
 simp only
 clear h hk 
 go_enter Tryz.func123,Tryz.ntmps123
 go_wp2
 go_region_law (go_simp;go_at_call 149;refine (K1.get (HC.out.alloc _).drew).mono ?_;rintro e w1 ⟨rfl,hg1,hC1⟩;have x1 := ac_start hlt hltm hcB (R := [⟨3,1,.slice fa fm fc,ln.length,ln.flatMap inCell⟩]) HLN.out hg1 hC1 #[.int .i64 2,.int .i64 0,.slice none 0 0,.int .i64 0,.int .i64 0,.slice none 0 0,.int .i64 0,.int .i64 0,.slice none 0 0,.slice none 0 0];have hs1 : w.heap.size < w1.heap.size := x1.lo;have hn1 : w.heap.size ≠ w1.heap.size := (by omega);have hn2 : w1.heap.size ≠ w.heap.size := (by omega);have hB1 := past0 (heap_alloc_new w _) (by simp) ((grown_drew' _ (some bc)).trans hg1) (by simp;omega);have a0_1 := cell_of hB1 0 _ rfl;have a4_1 := cell_of hB1 4 _ rfl;have a5_1 := cell_of hB1 5 _ rfl;have a6_1 := cell_of hB1 6 _ rfl;have a7_1 := cell_of hB1 7 _ rfl)
 all_goals
  go_wp2_with (first | (go_at_call 159;refine (K4.get y3_6.ck).mono ?_;rintro e w4 ⟨rfl,hg4,hC4⟩;have x4 := (y3_6.call0 hg4 hC4);have r7_4 := cell_of x4.hS 7 _ rfl;have z7_4 := frozen_of x4.hS 7;have y4_7 := x4.sf (cs' := #[.int .i64 2,.int .i64 0,.slice none 0 0,.int .i64 0,.int .i64 0,.slice fa fm fc,.int .i64 (thFind g P.s 4).pl,.int .i64 (thFind g Q.s 4).pl,.slice none 0 0,.slice none 0 0]) 7 (.int .i64 (thFind g Q.s 4).pl) rfl) | (go_at_call 159;refine (K3.get y2_5.ck).mono ?_;rintro e w3 ⟨rfl,hg3,hC3⟩;have x3 := (y2_5.call0 hg3 hC3);have a8_3 := cell_of x3.hA 8 _ rfl;have r6_3 := cell_of x3.hS 6 _ rfl;have z6_3 := frozen_of x3.hS 6;have y3_6 := x3.sf (cs' := #[.int .i64 2,.int .i64 0,.slice none 0 0,.int .i64 0,.int .i64 0,.slice fa fm fc,.int .i64 (thFind g P.s 4).pl,.int .i64 0,.slice none 0 0,.slice none 0 0]) 6 (.int .i64 (thFind g P.s 4).pl) rfl;have q4_3 := (hR.kept x3.gr (by simpa using Ne.symm hgc)).row 4 _ rfl;have q5_3 := (hR.kept x3.gr (by simpa using Ne.symm hgc)).row 5 _ rfl;have q6_3 := (hR.kept x3.gr (by simpa using Ne.symm hgc)).row 6 _ rfl;have q7_3 := (hR.kept x3.gr (by simpa using Ne.symm hgc)).row 7 _ rfl) | (go_at_call 158;refine (K2.get x1.ck).mono ?_;simp only [show thV Fn = .agg #[.int .i64 Fn.so,.int .i64 Fn.pl,.int .i64 Fn.lo,.int .i64 Fn.hi,Fn.v] from rfl,hvF];rintro e w2 ⟨rfl,hg2,hC2⟩;have x2 := (x1.call0 hg2 hC2);have a8_2 := cell_of x2.hA 8 _ rfl;have r5_2 := cell_of x2.hS 5 _ rfl;have z5_2 := frozen_of x2.hS 5;have y2_5 := x2.sf (cs' := #[.int .i64 2,.int .i64 0,.slice none 0 0,.int .i64 0,.int .i64 0,.slice fa fm fc,.int .i64 0,.int .i64 0,.slice none 0 0,.slice none 0 0]) 5 (.slice fa fm fc) rfl;have q0_2 := (hR.kept x2.gr (by simpa using Ne.symm hgc)).row 0 _ rfl;have q1_2 := (hR.kept x2.gr (by simpa using Ne.symm hgc)).row 1 _ rfl;have q2_2 := (hR.kept x2.gr (by simpa using Ne.symm hgc)).row 2 _ rfl;have q3_2 := (hR.kept x2.gr (by simpa using Ne.symm hgc)).row 3 _ rfl;have q4_2 := (hR.kept x2.gr (by simpa using Ne.symm hgc)).row 4 _ rfl;have q5_2 := (hR.kept x2.gr (by simpa using Ne.symm hgc)).row 5 _ rfl;have q6_2 := (hR.kept x2.gr (by simpa using Ne.symm hgc)).row 6 _ rfl;have q7_2 := (hR.kept x2.gr (by simpa using Ne.symm hgc)).row 7 _ rfl;have hu2 : gr ≠ w1.heap.size := (by have := hR.lt;omega)) | (go_at_call 154;refine (sn_ruleSort _ _).mono ?_;rw [HRS.out];rintro e w' ⟨rfl,hww⟩;subst w'))
  have xE := y4_7
  generalize (w4.setCell ⟨w1.heap.size,7,none⟩ (.int .i64 (thFind g Q.s 4).pl)) = wj at xE ⊢
  have m2 := xE.ck.c2
  have mf := xE.ck.f2
  have mlt := xE.ck.lt
  have c0 := cell_of xE.hS 0 _ rfl
  have c1 := cell_of xE.hS 1 _ rfl
  have c2 := cell_of xE.hS 2 _ rfl
  have c3 := cell_of xE.hS 3 _ rfl
  have c4 := cell_of xE.hS 4 _ rfl
  have c5 := cell_of xE.hS 5 _ rfl
  have c6 := cell_of xE.hS 6 _ rfl
  have c7 := cell_of xE.hS 7 _ rfl
  have c8 := cell_of xE.hS 8 _ rfl
  have c9 := cell_of xE.hS 9 _ rfl
  have blt := xE.lt
  have hoj := hoC.kept xE.gr (low_ne' hoC hcB)
  have HOWN := Kept.mk ((hoj.kept ((World.grownBy_alloc wj (.cells #[.int .i64 2,.int .i64 0,.slice none 0 0,.int .i64 0,.int .i64 0,.slice fa fm fc,.int .i64 (thFind g P.s 4).pl,.int .i64 (thFind g Q.s 4).pl,.slice none 0 0,.slice none 0 0] 99) none).trans (grown_drew' _ none)) (own_none _)))
  have HNEWS := Kept.mk (World.news_of_block (w := (wj.alloc (.cells #[.int .i64 2,.int .i64 0,.slice none 0 0,.int .i64 0,.int .i64 0,.slice fa fm fc,.int .i64 (thFind g P.s 4).pl,.int .i64 (thFind g Q.s 4).pl,.slice none 0 0,.slice none 0 0] 99)).drew) (cs := #[.int .i64 2,.int .i64 0,.slice none 0 0,.int .i64 0,.int .i64 0,.slice fa fm fc,.int .i64 (thFind g P.s 4).pl,.int .i64 (thFind g Q.s 4).pl,.slice none 0 0,.slice none 0 0]) (t := 99) (fr := (0,0)) (heap_alloc_new wj _))
  have KEEP : Hid (∀ wA,(wj.alloc (.cells #[.int .i64 2,.int .i64 0,.slice none 0 0,.int .i64 0,.int .i64 0,.slice fa fm fc,.int .i64 (thFind g P.s 4).pl,.int .i64 (thFind g Q.s 4).pl,.slice none 0 0,.slice none 0 0] 99)).drew.grownBy wA (Value.slice ca m cc).ownBlock → wA.frozen? ⟨bc,2,none⟩ = false ∧ wA.cell? ⟨bc,2,none⟩ = some (.slice ca m cc)) := fun wA hg => by
   have q := ((xE.ck.alloc _).drew).kept hg (low_ne hoC hcB) (low_ne hoC hmB)
   exact ⟨q.f2,q.c2⟩
  have hBj : B ≤ wj.heap.size := by have := xE.gr.size;omega
  go_region_law ((refine step_append_lies _ (by rfl) _ _ 74 (by rfl) B 99 i0 (.agg #[.int .i64 0,.int .i64 0,.slice none 0 0,.int .i64 0,.int .i64 0,.slice none 0 0,.int .i64 0,.int .i64 0,.slice none 0 0,.slice none 0 0]) 10 144 Tryz.underlying74 hi0 hz0 hz1 hz2 rfl (by decide) (.slice ca m cc) m xs (by rfl) HOWN.get ⟨wj.heap.size,0,none⟩ 1 1 [.int .i64 2,.int .i64 0,.slice none 0 0,.int .i64 0,.int .i64 0,.slice fa fm fc,.int .i64 (thFind g P.s 4).pl,.int .i64 (thFind g Q.s 4).pl,.slice none 0 0,.slice none 0 0] (by rfl) rfl HNEWS.get (con_one _ _ _ _ _ _ _ _ _ _ _ _ _ _ _ _ _ _) (by decide) (by unfold maxLen;omega) (by omega) (by simp;omega) _ rfl ?_;intro gA capA wA hownA hgrowA hatA hltA;obtain ⟨q1,q2⟩ := KEEP.out wA hgrowA))
  all_goals have R := con_end xE hcB hmB hoC ⟨⟨2,0,[],0,0,ln,(thFind g P.s 4).pl,(thFind g Q.s 4).pl,[],[]⟩,.slice none 0 0,.slice fa fm fc,.slice none 0 0,.slice none 0 0⟩ ⟨World.ownsRow_nil _ _ _ _,(xE.rw _ (List.mem_cons_self ..)).2,World.ownsRow_nil _ _ _ _,World.ownsRow_nil _ _ _ _⟩ hownA hgrowA
  all_goals clear HOWN HNEWS KEEP hownA hgrowA hatA hltA
  all_goals go_wp2
  all_goals go_end0
  all_goals exact R
end
section
set_option maxHeartbeats 4000000
set_option maxRecDepth 100000
open Go.RowKit
variable {w : World} {bc : Nat}
theorem sn_statement (P : Ending → World → Prop) (HE : ∀ e w',P e w' → e = .returned (.tuple #[])) (s : GSt) (na : Option Addr) (nm nc : Nat) (ua : Option Addr) (um uc : Nat) (ta : Option Addr) (tm tc : Nat) (la : Option Addr) (lm lc : Nat) (h4 : srt s.kw = 4 → Calls Tryz.prog 121 #[.pointer (some ⟨bc,0,none⟩),.agg (gsCells s (.slice na nm nc) (.slice ua um uc) (.slice ta tm tc) (.slice la lm lc))] (w.alloc (.cells (gsCells s (.slice na nm nc) (.slice ua um uc) (.slice ta tm tc) (.slice la lm lc)) 137)) P) (h5 : srt s.kw = 5 → Calls Tryz.prog 122 #[.pointer (some ⟨bc,0,none⟩),.agg (gsCells s (.slice na nm nc) (.slice ua um uc) (.slice ta tm tc) (.slice la lm lc))] (w.alloc (.cells (gsCells s (.slice na nm nc) (.slice ua um uc) (.slice ta tm tc) (.slice la lm lc)) 137)) P) (h6 : srt s.kw ≠ 4 → srt s.kw ≠ 5 → Calls Tryz.prog 123 #[.pointer (some ⟨bc,0,none⟩),.agg (gsCells s (.slice na nm nc) (.slice ua um uc) (.slice ta tm tc) (.slice la lm lc))] (w.alloc (.cells (gsCells s (.slice na nm nc) (.slice ua um uc) (.slice ta tm tc) (.slice la lm lc)) 137)) P) : Calls Tryz.prog 70 #[.pointer (some ⟨bc,0,none⟩),.agg (gsCells s (.slice na nm nc) (.slice ua um uc) (.slice ta tm tc) (.slice la lm lc))] w P := by
 have HE' := Kept.mk HE
 by_cases c4 : srt s.kw = 4
 ·have K := Kept.mk (h4 c4)
  have e4 : (srt s.kw == 4) = true := by simpa using c4
  unfold gsCells at *
  clear h4 h5 h6 c4 HE
  go_enter Tryz.func70,Tryz.ntmps70
  go_wp2_with (go_at_call 121;refine K.get.mono ?_;intro e w1 hP;have hq := HE'.get e w1 hP;subst hq)
  go_end0
  exact hP
 ·have e4 : (srt s.kw == 4) = false := by simpa using c4
  by_cases c5 : srt s.kw = 5
  ·have K := Kept.mk (h5 c5)
   have e5 : (srt s.kw == 5) = true := by simpa using c5
   unfold gsCells at *
   clear h4 h5 h6 c4 c5 HE
   go_enter Tryz.func70,Tryz.ntmps70
   go_wp2_with (go_at_call 122;refine K.get.mono ?_;intro e w1 hP;have hq := HE'.get e w1 hP;subst hq)
   go_end0
   exact hP
  ·have K := Kept.mk (h6 c4 c5)
   have e5 : (srt s.kw == 5) = false := by simpa using c5
   unfold gsCells at *
   clear h4 h5 h6 c4 c5 HE
   go_enter Tryz.func70,Tryz.ntmps70
   go_wp2_with (go_at_call 123;refine K.get.mono ?_;intro e w1 hP;have hq := HE'.get e w1 hP;subst hq)
   go_end0
   exact hP
end
section
open Go.RowKit
structure QSt where
 g : ByteArray → Th
 vars : List QVar
 m : Nat
 st : FSt
 cons : List QCon
 ls : ByteArray → List Int
def eraseV (g : ByteArray → Th) : ByteArray → Th := fun s => { g s with v := .slice none 0 0 }
def truthSt (g : ByteArray → Th) (t : PTok) (st : FSt) : FSt := flt (noTruthT (thFind g t.s 4)) 7 t.line (flt ((g t.s).so != 4) 4 t.line st)
def qLinSt (g : ByteArray → Th) (s : GSt) (st : FSt) : FSt := match s.numbers with
 | [M] => flt (outB (tval M) 1000000) 5 M.line (foldSt (termStP g) 0 s.terms st)
 | _ => st
def conSt (g : ByteArray → Th) (s : GSt) (st : FSt) : FSt :=
 if srt s.kw = 7 then qLinSt g s (truthSt g s.name st)
 else if srt s.kw = 8 then (match s.names with
  | [P,Q] => flt ((g Q.s).so != 4) 4 Q.line (flt ((g P.s).so != 4) 4 P.line (flt ((g s.name.s).so != 5) 4 s.name.line st))
  | _ => st)
 else if srt s.kw = 9 then foldSt (varStP g) 0 s.names st
 else if srt s.kw = 10 then foldSt (litStP g) 0 s.lits st
 else qLinSt g s st
def putLs (ls : ByteArray → List Int) (s : ByteArray) (l : List Int) : ByteArray → List Int := fun s' => if s' = s then l else ls s'
def noCon : QCon := ⟨0,0,[],0,0,[],0,0,[],[]⟩
def conOf (g : ByteArray → Th) (ls : ByteArray → List Int) (s : GSt) : QCon :=
 if srt s.kw = 7 then (match s.numbers with
  | [M] => ⟨1,(thFind g s.name.s 4).pl,s.terms.map (fun t => ((thFind g t.name.s 4).pl,facV t)),rRel (srt s.rel),tval M,[],0,0,[],[]⟩
  | _ => noCon)
 else if srt s.kw = 8 then (match s.names with
  | [P,Q] => ⟨2,0,[],0,0,if (g s.name.s).so = 5 then ls s.name.s else [],(thFind g P.s 4).pl,(thFind g Q.s 4).pl,[],[]⟩
  | _ => noCon)
 else if srt s.kw = 9 then ⟨3,0,[],0,0,[],0,0,s.names.map (fun t => (thFind g t.s 4).pl),[]⟩
 else if srt s.kw = 10 then ⟨4,0,[],0,0,[],0,0,[],s.lits.map (fun t => ((thFind g t.name.s 4).pl,if srt t.first = 22 then 0 else 1))⟩
 else (match s.numbers with
  | [M] => ⟨0,0,s.terms.map (fun t => ((thFind g t.name.s 4).pl,facV t)),rRel (srt s.rel),tval M,[],0,0,[],[]⟩
  | _ => noCon)
def qStep (s : GSt) (q : QSt) : QSt :=
 if srt s.kw = 4 then (match s.numbers with
  | [lo,hi] => ⟨putTh q.g s.name.s ⟨4,q.vars.length,tval lo,tval hi,.slice none 0 0⟩,q.vars ++ [⟨s.name.s,tval lo,tval hi⟩],q.m,varDecl q.g q.vars.length s.name lo hi q.st,q.cons,putLs q.ls s.name.s []⟩
  | _ => q)
 else if srt s.kw = 5 then ⟨putTh q.g s.name.s ⟨5,0,0,0,.slice none 0 0⟩,q.vars,q.m,foldSt numStP 0 s.numbers (flt ((q.g s.name.s).so != 0) 4 s.name.line q.st),q.cons,putLs q.ls s.name.s (s.numbers.map tval)⟩
 else ⟨q.g,q.vars,q.m + 1,conSt q.g s (flt (decide ((16 : Int) ≤ q.m)) 6 s.kw.line q.st),q.cons ++ [conOf q.g q.ls s],q.ls⟩
def runQ : List GSt → QSt → QSt
 | [],q => q
 | s :: ss,q => if (qStep s q).st.1 = 0 then runQ ss (qStep s q) else qStep s q
def q0 : QSt := ⟨fun _ => noTh,[],0,(0,0),[],fun _ => []⟩
theorem er_find (g : ByteArray → Th) (s : ByteArray) (k : Int) : noTruthT (thFind (eraseV g) s k) = noTruthT (thFind g s k) := by
 unfold thFind eraseV noTruthT;simp only;split <;> rfl
theorem er_lit (g : ByteArray → Th) : litStP (eraseV g) = litStP g := by
 funext k t st;unfold litStP;rw [er_find];rfl
theorem er_put (g : ByteArray → Th) (s : ByteArray) (t : Th) : eraseV (putTh g s t) = putTh (eraseV g) s { t with v := .slice none 0 0 } := by
 funext s';unfold eraseV putTh;split <;> rfl
theorem er_con (g : ByteArray → Th) (s : GSt) (st : FSt) : conSt (eraseV g) s st = conSt g s st := by
 unfold conSt truthSt
 rw [er_find,er_lit]
 rfl
theorem er_pl (g : ByteArray → Th) (s : ByteArray) (k : Int) : (thFind (eraseV g) s k).pl = (thFind g s k).pl := by
 unfold thFind eraseV;simp only;split <;> rfl
theorem er_conOf (g : ByteArray → Th) (ls : ByteArray → List Int) (s : GSt) : conOf (eraseV g) ls s = conOf g ls s := by
 unfold conOf
 simp only [er_pl]
 rfl
structure StOk (s : GSt) : Prop where
 nm : TOk s.name
 nums : ∀ a ∈ s.numbers,TOk a
 names : ∀ a ∈ s.names,TOk a
 terms : ∀ a ∈ s.terms,TOk a.first ∧ TOk a.name
 lits : ∀ a ∈ s.lits,TOk a.first ∧ TOk a.name
 l1 : s.numbers.length ≤ 3000
 l2 : s.names.length ≤ 3000
 l3 : s.terms.length ≤ 3000
 l4 : s.lits.length ≤ 3000
 s4 : srt s.kw = 4 → ∃ lo hi,s.numbers = [lo,hi]
 s5 : srt s.kw = 5 → s.numbers ≠ []
 s6 : srt s.kw = 6 ∨ srt s.kw = 7 → s.terms ≠ [] ∧ ∃ M,s.numbers = [M]
 s8 : srt s.kw = 8 → ∃ P Q,s.names = [P,Q]
 s9 : srt s.kw = 9 → s.names ≠ []
 s10 : srt s.kw = 10 → s.lits ≠ []
 kwd : srt s.kw = 4 ∨ srt s.kw = 5 ∨ srt s.kw = 6 ∨ srt s.kw = 7 ∨ srt s.kw = 8 ∨ srt s.kw = 9 ∨ srt s.kw = 10
def RIn {α : Type} (w : World) (B bc bm : Nat) (v : Value) (cell : α → List Value) (l : List α) : Prop :=
 (∃ a m c,v = .slice a m c) ∧ (l ≠ [] → ∃ gr cap,RowIn w v gr cap cell l ∧ gr < B ∧ gr ≠ bc ∧ gr ≠ bm)
structure GIn (w : World) (B bc bm : Nat) (x : GRow) : Prop where
 n : RIn w B bc bm x.vn tokCell x.s.names
 u : RIn w B bc bm x.vu tokCell x.s.numbers
 t : RIn w B bc bm x.vt gtCell x.s.terms
 l : RIn w B bc bm x.vl glCell x.s.lits
structure Fr (B bc bm : Nat) (w w' : World) : Prop where
 os : w'.os = w.os
 tape : w'.tape = w.tape
 output : w'.output = w.output
 size : w.heap.size ≤ w'.heap.size
 block : ∀ i,i < B → i ≠ bc → i ≠ bm → w'.heap[i]? = w.heap[i]?
theorem Fr.trans {B bc bm : Nat} {a b c : World} (h : Fr B bc bm a b) (k : Fr B bc bm b c) : Fr B bc bm a c :=
 ⟨k.os.trans h.os,k.tape.trans h.tape,k.output.trans h.output,Nat.le_trans h.size k.size,fun i h1 h2 h3 => (k.block i h1 h2 h3).trans (h.block i h1 h2 h3)⟩
theorem Fr.alloc {B bc bm : Nat} {a b : World} (h : Fr B bc bm a b) (hB : B ≤ b.heap.size) (o : Obj) : Fr B bc bm a (b.alloc o) :=
 ⟨h.os,h.tape,h.output,by have := h.size;simp;omega,fun i h1 h2 h3 => (heap_alloc_old b o (by omega)).trans (h.block i h1 h2 h3)⟩
theorem Fr.refl (B bc bm : Nat) (w : World) : Fr B bc bm w w := ⟨rfl,rfl,rfl,Nat.le_refl _,fun _ _ _ _ => rfl⟩
theorem Fr.of_but {B bc bm : Nat} {S : List Nat} {a b : World} (h : But S a b) (hB : B ≤ a.heap.size) (hS : ∀ k ∈ S,k = bc ∨ k = bm ∨ B ≤ k) : Fr B bc bm a b :=
 ⟨h.os,h.tape,h.output,h.size,fun i h1 h2 h3 => h.block i (by omega) (fun q => by rcases hS i q with e | e | e;exact h2 e;exact h3 e;omega)⟩
theorem RIn.fr {α : Type} {w w' : World} {B bc bm : Nat} {v : Value} {cell : α → List Value} {l : List α} (h : RIn w B bc bm v cell l) (hf : Fr B bc bm w w') : RIn w' B bc bm v cell l :=
 ⟨h.1,fun hl => by
  obtain ⟨gr,cap,hr,h1,h2,h3⟩ := h.2 hl
  exact ⟨gr,cap,⟨hr.is,fun j u hu => (World.cell?_of_block (a := ⟨gr,j,none⟩) (hf.block gr h1 h2 h3)).trans (hr.row j u hu),Nat.lt_of_lt_of_le hr.lt hf.size⟩,h1,h2,h3⟩⟩
theorem GIn.fr {w w' : World} {B bc bm : Nat} {x : GRow} (h : GIn w B bc bm x) (hf : Fr B bc bm w w') : GIn w' B bc bm x := ⟨h.n.fr hf,h.u.fr hf,h.t.fr hf,h.l.fr hf⟩
structure SenC (w : World) (B : Nat) (g : ByteArray → Th) (cons : List QCon) (ls : ByteArray → List Int) (cs : List CRow) : Prop where
 row : cs.map (·.c) = cons
 at_ : ∀ x ∈ cs,CAt w B x
 ls : ∀ s,w.ownsRow B 3 1 (g s).v (ls s).length ((ls s).flatMap inCell)
theorem SenC.but {w w' : World} {B : Nat} {g : ByteArray → Th} {cons : List QCon} {ls : ByteArray → List Int} {cs : List CRow} {S : List Nat} (h : SenC w B g cons ls cs) (hb : But S w w') (hS : ∀ k,k ∈ S → k < B ∨ ∃ c e,w.heap[k]? = some (.cells c e (0,0)) ∧ (e = 99 ∨ e = 78)) : SenC w' B g cons ls cs :=
 ⟨h.row,fun x hx => (h.at_ x hx).but hb hS,fun s => (CAt.but (x := ⟨⟨0,0,[],0,0,ls s,0,0,[],[]⟩,.slice none 0 0,(g s).v,.slice none 0 0,.slice none 0 0⟩) ⟨World.ownsRow_nil _ _ _ _,h.ls s,World.ownsRow_nil _ _ _ _,World.ownsRow_nil _ _ _ _⟩ hb hS).l⟩
theorem SenC.grown {w w' : World} {B : Nat} {g : ByteArray → Th} {cons : List QCon} {ls : ByteArray → List Int} {cs : List CRow} (h : SenC w B g cons ls cs) (hg : w.grownBy w' none) : SenC w' B g cons ls cs :=
 h.but (S := []) ((But.refl [] w).grown hg (fun k e => by cases e)) (fun k hk => by cases hk)
theorem SenC.alloc {w : World} {B : Nat} {g : ByteArray → Th} {cons : List QCon} {ls : ByteArray → List Int} {cs : List CRow} (h : SenC w B g cons ls cs) (o : Obj) : SenC (w.alloc o) B g cons ls cs := h.grown (World.grownBy_alloc w o none)
def Sen (w : World) (bc bm B k : Nat) (q : QSt) : Prop :=
 ∃ (n : Nat) (g : ByteArray → Th) (vV vC : Value) (cs : List CRow),CkS w bc bm n (fun s => thV (g s)) vV vC q.st ∧ eraseV g = q.g ∧ ThOk g ∧ w.ownsRow B 78 3 vV q.vars.length (q.vars.flatMap qvCell) ∧ w.ownsRow B 99 10 vC q.m (cs.flatMap CRow.cells) ∧ SenC w B g q.cons q.ls cs ∧
  n ≤ k ∧ q.vars.length ≤ k ∧ q.m ≤ k ∧ bc < B ∧ bm < B ∧ B ≤ w.heap.size
theorem own_slice_n {w : World} {B n s : Nat} {e : TypeId} {v : Value} {xs : List Value} (h : w.ownsRow B e s v n xs) : ∃ a c,v = .slice a n c := by
 rcases h.2 with ⟨h,h0⟩ | ⟨g,cap,cur,h,_⟩
 ·exact ⟨none,0,by rw [h,h0]⟩
 ·exact ⟨_,_,h⟩
theorem ThOk.put {g : ByteArray → Th} (h : ThOk g) (s : ByteArray) (t : Th) (ht : ∃ a m c,t.v = .slice a m c) : ThOk (putTh g s t) := fun s' => by
 unfold putTh;split
 ·exact ht
 ·exact h s'
end
section
def progToks (s : ByteArray) : List PTok := (lex s).2.1 ++ [endTok (lex s).2.2]
theorem srt_end (l : Nat) : srt (endTok l) = 1 := by simp [srt,endTok]
theorem lexFLen (s : ByteArray) (f : Nat) : ∀ (i line : Nat) (acc : List PTok),(lexF s f i line acc).2.1.length ≤ acc.length + f := by
 induction f with
 | zero => intro i line acc;simp [lexF]
 | succ f ih =>
  intro i line acc
  simp only [lexF]
  split
  ·split
   ·have := ih (i + 1) (line + 1) acc;omega
   ·split
    ·have := ih (i + 1) line acc;omega
    ·split
     ·have := ih (runTo notNl s i) line acc;omega
     ·split
      ·simp
      ·have := ih (tokAt s i).1 line (acc ++ [⟨s.extract i (tokAt s i).1,(tokAt s i).2,line⟩]);simp at this;omega
  ·simp
theorem prog_len (s : ByteArray) (hs : s.size ≤ 2000) : (progToks s).length ≤ 2001 := by
 have := lexFLen s s.size 0 1 []
 unfold progToks
 show ((lexF s s.size 0 1 []).2.1 ++ _).length ≤ 2001
 simp at this ⊢;omega
theorem tkN_last (l : List PTok) (t : PTok) : tkN (l ++ [t]) ((l ++ [t]).length - 1) = t := by
 unfold tkN;simp
theorem prog_end (s : ByteArray) (hs : s.size ≤ 2000) : EndOk (progToks s) :=
 ⟨by simp [progToks],by unfold progToks;rw [tkN_last];exact srt_end _,prog_len s hs⟩
theorem lexF_size (s : ByteArray) (f : Nat) : ∀ (i line : Nat) (acc : List PTok),(∀ t ∈ acc,t.s.size ≤ s.size) → ∀ t ∈ (lexF s f i line acc).2.1,t.s.size ≤ s.size := by
 induction f with
 | zero => intro i line acc h;exact h
 | succ f ih =>
  intro i line acc h
  simp only [lexF]
  split
  ·rename_i hi
   split
   ·exact ih _ _ _ h
   ·split
    ·exact ih _ _ _ h
    ·split
     ·exact ih _ _ _ h
     ·split
      ·intro t ht;simp at ht
      ·rename_i hne
       refine ih _ _ _ (fun t ht => ?_)
       rcases List.mem_append.1 ht with ht | ht
       ·exact h t ht
       ·obtain rfl : t = ⟨s.extract i (tokAt s i).1,(tokAt s i).2,line⟩ := by simpa using ht
        have h1 := tokAtSize s i hi
        have h2 := tokAt_end s i hne
        show (s.extract i (tokAt s i).1).size ≤ s.size
        rw [size_ext s i _ (by omega) h1];omega
  ·exact h
theorem tval_bd {t : PTok} (h : t.kind = 105 → IsInt t.s) : -9999999999 ≤ tval t ∧ tval t ≤ 9999999999 := by
 unfold tval
 split
 ·rename_i hk
  have := numTo_lt t.s (h hk) t.s.size (Nat.le_refl _)
  unfold intVal
  split <;> omega
 ·omega
theorem tok_ok (s : ByteArray) (hs : s.size ≤ 2000) (i : Nat) : TOk (tkN (progToks s) i) := by
 have key : ∀ t ∈ progToks s,TOk t := fun t ht => by
  rcases List.mem_append.1 ht with ht | ht
  ·refine ⟨?_,tval_bd (lex_int s t ht)⟩
   have := lexF_size s s.size 0 1 [] (fun t ht => by simp at ht) t ht
   omega
  ·obtain rfl : t = endTok (lex s).2.2 := by simpa using ht
   exact ⟨by show ByteArray.empty.size ≤ 2000;decide,by simp [tval,endTok],by simp [tval,endTok]⟩
 unfold tkN
 rcases Nat.lt_or_ge i (progToks s).length with h | h
 ·rw [List.getD_eq_getElem?_getD,List.getElem?_eq_getElem h]
  exact key _ (List.getElem_mem h)
 ·rw [List.getD_eq_getElem?_getD,List.getElem?_eq_none h]
  exact ⟨by show ByteArray.empty.size ≤ 2000;decide,by simp [tval,zeroTok],by simp [tval,zeroTok]⟩
end
section
variable {toks : List PTok}
theorem zero_ok : TOk zeroTok := ⟨by show ByteArray.empty.size ≤ 2000;decide,by simp [tval,zeroTok],by simp [tval,zeroTok]⟩
theorem sumF_mem (h : ∀ i,TOk (tkN toks i)) (f : Nat) : ∀ (acc : List GTerm) (S : PSt),(∀ a ∈ acc,TOk a.first ∧ TOk a.name) → ∀ a ∈ (sumF toks f acc S).1,TOk a.first ∧ TOk a.name := by
 induction f with
 | zero => intro acc S ha;exact ha
 | succ f ih =>
  intro acc S ha
  simp only [sumF]
  split
  ·refine ih _ _ (fun a hm => ?_)
   rcases List.mem_append.1 hm with hm | hm
   ·exact ha a hm
   ·obtain rfl : a = _ := by simpa using hm
    unfold pTerm;split
    ·exact ⟨h _,h _⟩
    ·exact ⟨h _,h _⟩
  ·exact ha
theorem pSum_mem (h : ∀ i,TOk (tkN toks i)) (S : PSt) : ∀ a ∈ (pSum toks S).1,TOk a.first ∧ TOk a.name := by
 refine sumF_mem h _ _ _ (fun a hm => ?_)
 obtain rfl : a = _ := by simpa using hm
 unfold pTerm;split
 ·exact ⟨h _,h _⟩
 ·exact ⟨h _,h _⟩
theorem sumF_len (f : Nat) : ∀ (acc : List GTerm) (S : PSt),acc.length ≤ (sumF toks f acc S).1.length ∧ (sumF toks f acc S).1.length ≤ acc.length + f := by
 induction f with
 | zero => intro acc S;simp [sumF]
 | succ f ih =>
  intro acc S
  simp only [sumF]
  split
  ·have := ih (acc ++ [(pTerm toks (srt (tkN toks S.1) == 23) (pTake toks [20,23] S)).1]) (pTerm toks (srt (tkN toks S.1) == 23) (pTake toks [20,23] S)).2
   simp at this;omega
  ·simp
theorem serF_mem {α : Type} {one : PSt → α × PSt} {P : α → Prop} (h : ∀ S,P (one S).1) (f : Nat) : ∀ (acc : List α) (S : PSt),(∀ a ∈ acc,P a) → ∀ a ∈ (serF toks one f acc S).1,P a := by
 induction f with
 | zero => intro acc S ha;exact ha
 | succ f ih =>
  intro acc S ha
  simp only [serF]
  split
  ·refine ih _ _ (fun a hm => ?_)
   rcases List.mem_append.1 hm with hm | hm
   ·exact ha a hm
   ·obtain rfl : a = _ := by simpa using hm
    exact h _
  ·exact ha
theorem pSer_mem {α : Type} {one : PSt → α × PSt} {P : α → Prop} (h : ∀ S,P (one S).1) (S : PSt) : ∀ a ∈ (pSer toks one S).1,P a :=
 serF_mem h _ _ _ (fun a hm => by obtain rfl : a = _ := (by simpa using hm);exact h _)
theorem serF_len {α : Type} {one : PSt → α × PSt} (f : Nat) : ∀ (acc : List α) (S : PSt),acc.length ≤ (serF toks one f acc S).1.length ∧ (serF toks one f acc S).1.length ≤ acc.length + f := by
 induction f with
 | zero => intro acc S;simp [serF]
 | succ f ih =>
  intro acc S
  simp only [serF]
  split
  ·have := ih (acc ++ [(one (pTake toks [13] S)).1]) (one (pTake toks [13] S)).2
   simp at this;omega
  ·simp
theorem pSer_len {α : Type} {one : PSt → α × PSt} (S : PSt) : 1 ≤ (pSer toks one S).1.length ∧ (pSer toks one S).1.length ≤ 1 + toks.length := by
 have := serF_len (toks := toks) (one := one) toks.length [(one S).1] (one S).2
 unfold pSer;simpa using this
theorem pSum_len (S : PSt) : 1 ≤ (pSum toks S).1.length ∧ (pSum toks S).1.length ≤ 1 + toks.length := by
 have := sumF_len (toks := toks) toks.length [(pTerm toks false S).1] (pTerm toks false S).2
 unfold pSum;simpa using this
theorem ne_of_len {α : Type} {l : List α} (h : 1 ≤ l.length) : l ≠ [] := by intro e;rw [e] at h;simp at h
theorem pLit_ok (h : ∀ i,TOk (tkN toks i)) (S : PSt) : TOk (pLit toks S).1.first ∧ TOk (pLit toks S).1.name := by
 unfold pLit;split
 ·exact ⟨h _,h _⟩
 ·exact ⟨h _,h _⟩
theorem stmt_ok (hlen : toks.length ≤ 2001) (h : ∀ i,TOk (tkN toks i)) (S : PSt) (hk : kwSorts.contains (srt (tkN toks S.1)) = true) : StOk (pStmt toks S).1 := by
 have hkw : srt (tkN toks S.1) = 4 ∨ srt (tkN toks S.1) = 5 ∨ srt (tkN toks S.1) = 6 ∨ srt (tkN toks S.1) = 7 ∨ srt (tkN toks S.1) = 8 ∨ srt (tkN toks S.1) = 9 ∨ srt (tkN toks S.1) = 10 := by
  simpa [kwSorts] using hk
 have nl : ∀ {P : PTok → Prop},∀ a ∈ ([] : List PTok),P a := fun a ha => by simp at ha
 have nt : ∀ a ∈ ([] : List GTerm),TOk a.first ∧ TOk a.name := fun a ha => by simp at ha
 have nli : ∀ a ∈ ([] : List GLit),TOk a.first ∧ TOk a.name := fun a ha => by simp at ha
 unfold pStmt
 simp only
 generalize hkd : srt (tkN toks S.1) = k at *
 rcases hkw with rfl | rfl | rfl | rfl | rfl | rfl | rfl
 ·rw [if_pos rfl]
  exact ⟨h _,fun a ha => by simp at ha;rcases ha with rfl | rfl <;> exact h _,nl,nt,nli,by simp,by simp,by simp,by simp,fun _ => ⟨_,_,rfl⟩,fun q => by simp [hkd] at q,fun q => by simp [hkd] at q,fun q => by simp [hkd] at q,fun q => by simp [hkd] at q,fun q => by simp [hkd] at q,by simp [hkd]⟩
 ·rw [if_neg (by decide),if_pos rfl]
  have hl := pSer_len (toks := toks) (one := pTok toks 3) (pTake toks [18] (pTake toks [14] (pTake toks [2] (pTake toks kwSorts S))))
  exact ⟨h _,pSer_mem (P := TOk) (fun S => h _) _,nl,nt,nli,(by show (pSer toks (pTok toks 3) _).1.length ≤ 3000;omega),by simp,by simp,by simp,fun q => by simp [hkd] at q,fun _ => ne_of_len hl.1,fun q => by simp [hkd] at q,fun q => by simp [hkd] at q,fun q => by simp [hkd] at q,fun q => by simp [hkd] at q,by simp [hkd]⟩
 ·rw [if_neg (by decide),if_neg (by decide),if_neg (by decide),if_pos rfl]
  have hl := pSum_len (toks := toks) (pTake toks kwSorts S)
  exact ⟨zero_ok,fun a ha => by simp [pLin] at ha;rw [ha];exact h _,nl,pSum_mem h _,nli,by simp [pLin],by simp [pLin],(by show (pSum toks _).1.length ≤ 3000;omega),by simp [pLin],fun q => by simp [pLin,hkd] at q,fun q => by simp [pLin,hkd] at q,fun _ => ⟨ne_of_len hl.1,_,rfl⟩,fun q => by simp [pLin,hkd] at q,fun q => by simp [pLin,hkd] at q,fun q => by simp [pLin,hkd] at q,by simp [pLin,hkd]⟩
 ·rw [if_neg (by decide),if_neg (by decide),if_pos rfl]
  have hl := pSum_len (toks := toks) (pTake toks [12] (pTake toks [2] (pTake toks kwSorts S)))
  exact ⟨h _,fun a ha => by simp [pLin] at ha;rw [ha];exact h _,nl,pSum_mem h _,nli,by simp [pLin],by simp [pLin],(by show (pSum toks _).1.length ≤ 3000;omega),by simp [pLin],fun q => by simp [pLin,hkd] at q,fun q => by simp [pLin,hkd] at q,fun _ => ⟨ne_of_len hl.1,_,rfl⟩,fun q => by simp [pLin,hkd] at q,fun q => by simp [pLin,hkd] at q,fun q => by simp [pLin,hkd] at q,by simp [pLin,hkd]⟩
 ·rw [if_neg (by decide),if_neg (by decide),if_neg (by decide),if_neg (by decide),if_pos rfl]
  exact ⟨h _,nl,fun a ha => by simp at ha;rcases ha with rfl | rfl <;> exact h _,nt,nli,by simp,by simp,by simp,by simp,fun q => by simp [hkd] at q,fun q => by simp [hkd] at q,fun q => by simp [hkd] at q,fun _ => ⟨_,_,rfl⟩,fun q => by simp [hkd] at q,fun q => by simp [hkd] at q,by simp [hkd]⟩
 ·rw [if_neg (by decide),if_neg (by decide),if_neg (by decide),if_neg (by decide),if_neg (by decide),if_pos rfl]
  have hl := pSer_len (toks := toks) (one := pTok toks 2) (pTake toks kwSorts S)
  exact ⟨zero_ok,nl,pSer_mem (P := TOk) (fun S => h _) _,nt,nli,by simp,(by show (pSer toks (pTok toks 2) _).1.length ≤ 3000;omega),by simp,by simp,fun q => by simp [hkd] at q,fun q => by simp [hkd] at q,fun q => by simp [hkd] at q,fun q => by simp [hkd] at q,fun _ => ne_of_len hl.1,fun q => by simp [hkd] at q,by simp [hkd]⟩
 ·rw [if_neg (by decide),if_neg (by decide),if_neg (by decide),if_neg (by decide),if_neg (by decide),if_neg (by decide),if_pos rfl]
  have hl := pSer_len (toks := toks) (one := pLit toks) (pTake toks kwSorts S)
  exact ⟨zero_ok,nl,nl,nt,pSer_mem (P := fun a : GLit => TOk a.first ∧ TOk a.name) (pLit_ok h) _,by simp,by simp,by simp,(by show (pSer toks (pLit toks) _).1.length ≤ 3000;omega),fun q => by simp [hkd] at q,fun q => by simp [hkd] at q,fun q => by simp [hkd] at q,fun q => by simp [hkd] at q,fun q => by simp [hkd] at q,fun _ => ne_of_len hl.1,by simp [hkd]⟩
end
section
variable {toks : List PTok}
theorem lexF_line1 (s : ByteArray) (f : Nat) : ∀ (i line : Nat) (acc : List PTok),line ≤ (lexF s f i line acc).2.2 := by
 induction f with
 | zero => intro i line acc;simp [lexF]
 | succ f ih =>
  intro i line acc
  simp only [lexF]
  split
  ·split
   ·have := ih (i + 1) (line + 1) acc;omega
   ·split
    ·exact ih _ _ _
    ·split
     ·exact ih _ _ _
     ·split
      ·simp
      ·exact ih _ _ _
  ·simp
theorem prog_line (s : ByteArray) (i : Nat) (hi : i < (progToks s).length) : 1 ≤ (tkN (progToks s) i).line := by
 have key : ∀ t ∈ progToks s,1 ≤ t.line := fun t ht => by
  rcases List.mem_append.1 ht with ht | ht
  ·exact lex_line s t ht
  ·obtain rfl : t = endTok (lex s).2.2 := by simpa using ht
   exact lexF_line1 s s.size 0 1 []
 unfold tkN
 rw [List.getD_eq_getElem?_getD,List.getElem?_eq_getElem hi]
 exact key _ (List.getElem_mem hi)
theorem pStmt_lt (hE : EndOk toks) {S : PSt} (hi : S.1 < toks.length) : (pStmt toks S).2.1 < toks.length := by
 have T : ∀ {sorts : List Int} {S : PSt},sorts.contains 1 = false → S.1 < toks.length → (pTake toks sorts S).1 < toks.length := fun hs h => pTake_lt hE hs h
 have h1 := T (sorts := kwSorts) rfl hi
 have h2 := T (sorts := [2]) rfl h1
 have h3 := T (sorts := [12]) rfl h2
 have L : ∀ (s : GSt) {S : PSt},S.1 < toks.length → (pLin toks s S).2.1 < toks.length := fun s S h => T rfl (T rfl (pSum_lt hE h))
 unfold pStmt
 simp only
 split
 ·exact T rfl (T rfl (T rfl h3))
 ·split
  ·exact T rfl (pSer_lt hE (fun S h => T rfl h) (T rfl (T rfl h2)))
  ·split
   ·exact L _ h3
   ·split
    ·exact L _ h1
    ·split
     ·exact T rfl (T rfl (T rfl (T rfl (T rfl h2))))
     ·split
      ·exact pSer_lt hE (fun S h => T rfl h) h1
      ·split
       ·exact pSer_lt hE (fun S h => (pLit_lt hE h).1) h1
       ·exact h1
theorem adv_parseF (f : Nat) : ∀ (acc : List GSt) (S : PSt),Adv S (parseF toks f acc S).2 := by
 induction f with
 | zero => intro acc S;exact Adv.refl S
 | succ f ih =>
  intro acc S
  simp only [parseF]
  split
  ·exact (((adv_take toks kwSorts S).trans (adv_stmt toks S)).trans (adv_take toks [11] _)).trans (ih _ _)
  ·exact Adv.refl S
theorem kw_taken (hL : ∀ i,i < toks.length → 1 ≤ (tkN toks i).line) {S : PSt} (hi : S.1 < toks.length) (h0 : S.2 = 0) (h : (pTake toks kwSorts S).2 = 0) : kwSorts.contains (srt (tkN toks S.1)) = true := by
 unfold pTake at h
 rw [if_pos h0] at h
 by_cases c : kwSorts.contains (srt (tkN toks S.1)) = true
 ·exact c
 ·rw [if_neg c] at h
  have := hL S.1 hi
  simp only at h
  omega
theorem parseF_ok (hE : EndOk toks) (hL : ∀ i,i < toks.length → 1 ≤ (tkN toks i).line) (hT : ∀ i,TOk (tkN toks i)) (f : Nat) : ∀ (acc : List GSt) (S : PSt),S.1 < toks.length → (∀ s ∈ acc,StOk s) → (parseF toks f acc S).2.2 = 0 → ∀ s ∈ (parseF toks f acc S).1,StOk s := by
 induction f with
 | zero => intro acc S _ ha _;exact ha
 | succ f ih =>
  intro acc S hi ha hz
  simp only [parseF] at hz ⊢
  by_cases c : S.2 = 0 ∧ srt (tkN toks S.1) ≠ 1
  ·rw [if_pos c] at hz ⊢
   have hz1 := (adv_parseF f (acc ++ [(pStmt toks S).1]) (pTake toks [11] (pStmt toks S).2)).2 hz
   have hz2 := ((adv_stmt toks S).trans (adv_take toks [11] _)).2 hz1
   refine ih _ _ (pTake_lt hE rfl (pStmt_lt hE hi)) (fun s hs => ?_) hz
   rcases List.mem_append.1 hs with hs | hs
   ·exact ha s hs
   ·obtain rfl : s = (pStmt toks S).1 := by simpa using hs
    exact stmt_ok hE.len hT S (kw_taken hL hi c.1 hz2)
  ·rw [if_neg c];exact ha
theorem parseF_len (f : Nat) : ∀ (acc : List GSt) (S : PSt),(parseF toks f acc S).1.length ≤ acc.length + f := by
 induction f with
 | zero => intro acc S;simp [parseF]
 | succ f ih =>
  intro acc S
  simp only [parseF]
  split
  ·have := ih (acc ++ [(pStmt toks S).1]) (pTake toks [11] (pStmt toks S).2);simp at this;omega
  ·simp
theorem parse_ok (s : ByteArray) (hs : s.size ≤ 2000) (h : (pParse (progToks s)).2.2 = 0) : (∀ x ∈ (pParse (progToks s)).1,StOk x) ∧ (pParse (progToks s)).1.length ≤ 2500 := by
 have hE := prog_end s hs
 refine ⟨parseF_ok hE (prog_line s) (tok_ok s hs) _ [] (0,0) hE.pos (fun x hx => by simp at hx) h,?_⟩
 have := parseF_len (toks := progToks s) ((progToks s).length + 1) [] (0,0)
 have := hE.len
 unfold pParse
 simp at *;omega
end
end Go.Proofs.YthpcbbnabnlanaaGreatDoor
