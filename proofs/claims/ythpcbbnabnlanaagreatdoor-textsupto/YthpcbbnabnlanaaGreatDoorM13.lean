import Derived.Test.YthpcbbnabnlanaaGreatDoorM11
import Derived.Deep.AppendLies
namespace Go.Proofs.YthpcbbnabnlanaaGreatDoor
set_option linter.unusedVariables false
set_option linter.unusedSimpArgs false
section
set_option maxHeartbeats 4000000
set_option maxRecDepth 100000
open Go.RowKit
variable {w w' : World} {bc bm n : Nat} {g : ByteArray → Th} {f : ByteArray → Value} {vV vC : Value} {st : FSt}
theorem sn_lits (h : CkS w bc bm n (fun s => thV (g s)) vV vC st) (l : List GLit) (v1 : Value) (gr cap : Nat) (hR : RowIn w v1 gr cap glCell l) (hgc : gr ≠ bc) (hl : l.length ≤ 3000) (hok : ∀ a ∈ l,TOk a.first ∧ TOk a.name) (hv : ThOk g) : Calls Tryz.prog 161 #[.pointer (some ⟨bc,0,none⟩),v1] w fun e w' => ∃ v,e = .returned v ∧ w'.ownsRow w.heap.size 203 2 v l.length (l.flatMap (litOut g)) ∧ w.grownBy w' (some bc) ∧ CkS w' bc bm n (fun s => thV (g s)) vV vC (foldSt (litStP g) 0 l st) := by
 obtain ⟨i0,hi0,hz0,hz1,hz2⟩ := info_parts infoRL
 have HC : Hid (CkS w bc bm n (fun s => thV (g s)) vV vC st) := h
 have hlt := h.lt
 have hgl := hR.lt
 have HR : Hid (RowIn w v1 gr cap glCell l) := hR
 have HOK : Hid (∀ a ∈ l,TOk a.first ∧ TOk a.name) := hok
 have HV : Hid (ThOk g) := hv
 obtain ⟨RES,hRES⟩ : ∃ R,R = foldSt (litStP g) 0 l st := ⟨_,rfl⟩
 have HS : Hid (foldSt (litStP g) 0 (l.drop 0) st = RES) := by rw [Hid,hRES];rfl
 rw [← hRES]
 obtain rfl := hR.is
 clear h hR hRES hok hv
 go_enter Tryz.func161,Tryz.ntmps161
 go_wp2
 go_loopg [5,11] l.length (fun m v vi wr => SnRel l (litStP g) RES (.slice (some ⟨gr,0,none⟩) l.length cap) gr cap glCell 203 2 (litOut g) w bc bm n (fun s => thV (g s)) vV vC m v vi wr)
 case atStart => exact ⟨0,st,Nat.zero_le _,rfl,rfl,HS,HC.out,HR.out,World.ownsRow_nil _ _ _ _,grown_refl _ _⟩
 case round =>
  obtain ⟨i,S,hi,rfl,rfl,hlex,hC,hR,hown,hgr⟩ := hrel
  have hlr := hC.lt
  have hlm := hC.ltm
  by_cases hlt2 : i < l.length
  ·obtain ⟨a,ha⟩ : ∃ a,l[i]? = some a := ⟨l[i],by simp [hlt2]⟩
   have hoka := HOK.out a (List.mem_of_getElem? ha)
   have c0 : wr.cell? ⟨gr,i * 8,none⟩ = some (.int .i64 (srt a.first)) := hR.at (sz := 8) (fun _ => rfl) ha 0 _ rfl
   have c1 : wr.cell? ⟨gr,i * 8 + 1,none⟩ = some (.string a.first.s) := hR.at (sz := 8) (fun _ => rfl) ha 1 _ rfl
   have c2 : wr.cell? ⟨gr,i * 8 + 2,none⟩ = some (.int .i64 (tval a.first)) := hR.at (sz := 8) (fun _ => rfl) ha 2 _ rfl
   have c3 : wr.cell? ⟨gr,i * 8 + 3,none⟩ = some (.int .i64 a.first.line) := hR.at (sz := 8) (fun _ => rfl) ha 3 _ rfl
   have c4 : wr.cell? ⟨gr,i * 8 + 4,none⟩ = some (.int .i64 (srt a.name)) := hR.at (sz := 8) (fun _ => rfl) ha 4 _ rfl
   have c5 : wr.cell? ⟨gr,i * 8 + 5,none⟩ = some (.string a.name.s) := hR.at (sz := 8) (fun _ => rfl) ha 5 _ rfl
   have c6 : wr.cell? ⟨gr,i * 8 + 6,none⟩ = some (.int .i64 (tval a.name)) := hR.at (sz := 8) (fun _ => rfl) ha 6 _ rfl
   have c7 : wr.cell? ⟨gr,i * 8 + 7,none⟩ = some (.int .i64 a.name.line) := hR.at (sz := 8) (fun _ => rfl) ha 7 _ rfl
   have K1 := Kept.mk (fun {W : World} (hW : CkS W bc bm n (fun s => thV (g s)) vV vC S) => sn_room hW a.first i 8)
   have K2 := Kept.mk (fun {W : World} (hW : CkS W bc bm n (fun s => thV (g s)) vV vC (flt (decide ((8 : Int) ≤ i)) 6 a.first.line S)) => sn_truth hW a.name hoka.2.1 HV.out)
   have hlt3 : (i : Int) < l.length := by omega
   have h03 : (0 : Int) ≤ i := by omega
   unfold tkV at K1 K2
   skip
   by_cases hq : srt a.first = 22
   ·have hq2 : (srt a.first == 22) = true := by simpa using hq
    have hO : Hid (litOut g a = [.int .i64 (thFind g a.name.s 4).pl,.int .i64 0]) := by simp [Hid,litOut,hq]
    clear hq
    go_wp2_with (first | (at_builtin;refine wpList_append_own _ rfl _ _ 97 rfl w.heap.size 203 i0 (.agg #[.int .i64 0,.int .i64 0]) 2 16 Tryz.underlying97 hi0 hz0 hz1 hz2 rfl (by decide) _ _ _ rfl (ho2.alloc _) ⟨w2.heap.size,0,none⟩ 1 1 [.int .i64 (thFind g a.name.s 4).pl,.int .i64 0] rfl rfl (World.news_of_block (heap_alloc_new _ _)) (two_one _ _) ?c3 ?c4 ?c5 ?_) | (go_at_call 155;refine ((K2).get hC1).mono ?_;rintro e w2 ⟨rfl,hg2,hC2⟩;have hB2 := past0 hB1 hs1 hg2 (by simp;omega);have hs2 : wr.heap.size < w2.heap.size := (by have := hg2.size;omega);have ho2 := ho1.kept hg2 (low_ne' hown hlt)) | (go_at_call 149;refine ((K1).get (hC.alloc _)).mono ?_;rintro e w1 ⟨rfl,hg1,hC1⟩;obtain ⟨hs1,hB1⟩ := sn_past hlr hg1;have ho1 := (hown.alloc _).kept hg1 (low_ne' hown hlt);have b0_0 := cell_of hB1 0 _ rfl;have b1_0 := cell_of hB1 1 _ rfl;have b2_0 := cell_of hB1 2 _ rfl;have b3_0 := cell_of hB1 3 _ rfl;have b4_0 := cell_of hB1 4 _ rfl;have b5_0 := cell_of hB1 5 _ rfl;have b6_0 := cell_of hB1 6 _ rfl;have b7_0 := cell_of hB1 7 _ rfl))
    case c3 => unfold maxLen;omega
    case c4 => omega
    case c5 => have := hgr.size;simp at *;omega
    intro v' w9 hown' hgrow _
    have hown' : w9.ownsRow w.heap.size 203 2 v' (i + 1) ((l.take i).flatMap (litOut g) ++ litOut g a) := by rw [hO.out];exact hown'
    have R := sn_step (step := litStP g) HC.out hgl (((hgr.trans (World.grownBy_alloc _ _ _)).trans hg1).trans hg2) ha hlex hC2 (((hR.kept (World.grownBy_alloc _ _ none) (by simp)).kept hg1 (by simp;omega)).kept hg2 (by simp;omega)) hown hown' hgrow
    clear hown' hgrow hown
    go_wp2
    go_roundg (l.length - (i + 1))
    case measure => omega
    case rel => simpa using R
   ·have hq2 : (srt a.first == 22) = false := by simpa using hq
    have hO : Hid (litOut g a = [.int .i64 (thFind g a.name.s 4).pl,.int .i64 1]) := by simp [Hid,litOut,hq]
    clear hq
    go_wp2_with (first | (at_builtin;refine wpList_append_own _ rfl _ _ 97 rfl w.heap.size 203 i0 (.agg #[.int .i64 0,.int .i64 0]) 2 16 Tryz.underlying97 hi0 hz0 hz1 hz2 rfl (by decide) _ _ _ rfl (ho2.alloc _) ⟨w2.heap.size,0,none⟩ 1 1 [.int .i64 (thFind g a.name.s 4).pl,.int .i64 1] rfl rfl (World.news_of_block (heap_alloc_new _ _)) (two_one _ _) ?c3 ?c4 ?c5 ?_) | (go_at_call 155;refine ((K2).get hC1).mono ?_;rintro e w2 ⟨rfl,hg2,hC2⟩;have hB2 := past0 hB1 hs1 hg2 (by simp;omega);have hs2 : wr.heap.size < w2.heap.size := (by have := hg2.size;omega);have ho2 := ho1.kept hg2 (low_ne' hown hlt)) | (go_at_call 149;refine ((K1).get (hC.alloc _)).mono ?_;rintro e w1 ⟨rfl,hg1,hC1⟩;obtain ⟨hs1,hB1⟩ := sn_past hlr hg1;have ho1 := (hown.alloc _).kept hg1 (low_ne' hown hlt);have b0_0 := cell_of hB1 0 _ rfl;have b1_0 := cell_of hB1 1 _ rfl;have b2_0 := cell_of hB1 2 _ rfl;have b3_0 := cell_of hB1 3 _ rfl;have b4_0 := cell_of hB1 4 _ rfl;have b5_0 := cell_of hB1 5 _ rfl;have b6_0 := cell_of hB1 6 _ rfl;have b7_0 := cell_of hB1 7 _ rfl))
    case c3 => unfold maxLen;omega
    case c4 => omega
    case c5 => have := hgr.size;simp at *;omega
    intro v' w9 hown' hgrow _
    have hown' : w9.ownsRow w.heap.size 203 2 v' (i + 1) ((l.take i).flatMap (litOut g) ++ litOut g a) := by rw [hO.out];exact hown'
    have R := sn_step (step := litStP g) HC.out hgl (((hgr.trans (World.grownBy_alloc _ _ _)).trans hg1).trans hg2) ha hlex hC2 (((hR.kept (World.grownBy_alloc _ _ none) (by simp)).kept hg1 (by simp;omega)).kept hg2 (by simp;omega)) hown hown' hgrow
    clear hown' hgrow hown
    go_wp2
    go_roundg (l.length - (i + 1))
    case measure => omega
    case rel => simpa using R
  ·obtain rfl : i = l.length := by omega
   have hl2 : Hid (RES = S) := by rw [Hid,← hlex.out,List.drop_of_length_le (Nat.le_refl _)];rfl
   have hge : (l.length : Int) ≤ (l.length : Int) := by omega
   rw [List.take_of_length_le (Nat.le_refl _)] at hown
   clear hlex
   go_wp2
   go_ret
   rw [hl2.out]
   exact ⟨_,rfl,hown,hgr,hC⟩
end
section
open Go.RowKit
variable {w W W' : World} {bc bm n br : Nat} {g : ByteArray → Th} {vV vC : Value} {S S' : FSt} {A cs cs' : Array Value} {B : Nat}
structure ORow where
 e : TypeId
 s : Nat
 v : Value
 n : Nat
 xs : List Value
variable {R : List ORow}
structure AC (w W : World) (bc bm n br : Nat) (g : ByteArray → Th) (vV vC : Value) (A cs : Array Value) (S : FSt) (B : Nat) (R : List ORow) : Prop where
 ck : CkS W bc bm n (fun s => thV (g s)) vV vC S
 hA : W.heap[w.heap.size]? = some (.cells A 137 (0,0))
 hS : W.heap[br]? = some (.cells cs 99 (0,0))
 lt : br < W.heap.size
 lo : w.heap.size < br
 gr : w.grownBy W (some bc)
 lp : bc < w.heap.size
 lm : bm < w.heap.size
 hb : bc < B
 rw : ∀ r ∈ R,r.e ≠ 99 ∧ W.ownsRow B r.e r.s r.v r.n r.xs
theorem AC.call0 (h : AC w W bc bm n br g vV vC A cs S B R) (hg : W.grownBy W' (some bc)) (hC : CkS W' bc bm n (fun s => thV (g s)) vV vC S') : AC w W' bc bm n br g vV vC A cs S' B R :=
 have h1 := h.lo;have h2 := h.lp;have h3 := h.lt
 ⟨hC,past0 h.hA (by omega) hg (by simp;omega),past0 h.hS h.lt hg (by simp;omega),Nat.lt_of_lt_of_le h.lt hg.size,h.lo,h.gr.trans hg,h.lp,h.lm,h.hb,fun r hr => ⟨(h.rw r hr).1,(h.rw r hr).2.kept hg (low_ne' (h.rw r hr).2 h.hb)⟩⟩
theorem AC.sf (h : AC w W bc bm n br g vV vC A cs S B R) (i : Nat) (v : Value) (e : cs.setIfInBounds i v = cs') : AC w (W.setCell ⟨br,i,none⟩ v) bc bm n br g vV vC A cs' S B R :=
 have h1 := h.lo;have h2 := h.lp;have h3 := h.lt;have h4 := h.lm
 ⟨h.ck.kept (grown_set W br i v) (by simp;omega) (by simp;omega),(Below.heap_setCell _ _ _ _ (by show w.heap.size ≠ br;omega)).trans h.hA,set_at h.hS i v e,by have := (grown_set W br i v).size;omega,h.lo,grown_newr h.gr (by omega) (grown_set W br i v),h.lp,h.lm,h.hb,fun r hr => ⟨(h.rw r hr).1,(h.rw r hr).2.kept (grown_set W br i v) (.inr (row_ne (h.rw r hr).2 h.hS (h.rw r hr).1))⟩⟩
theorem AC.add (h : AC w W bc bm n br g vV vC A cs S B R) (r : ORow) (he : r.e ≠ 99) (ho : W.ownsRow B r.e r.s r.v r.n r.xs) : AC w W bc bm n br g vV vC A cs S B (r :: R) :=
 ⟨h.ck,h.hA,h.hS,h.lt,h.lo,h.gr,h.lp,h.lm,h.hb,fun q hq => by
  rcases List.mem_cons.1 hq with e | e
  ·subst e;exact ⟨he,ho⟩
  ·exact h.rw q e⟩
theorem ac_start {w1 : World} (hlp : bc < w.heap.size) (hlm : bm < w.heap.size) (hb : bc < B) (hR : ∀ r ∈ R,r.e ≠ 99 ∧ w.ownsRow B r.e r.s r.v r.n r.xs) (hg : (w.alloc (.cells A 137)).drew.grownBy w1 (some bc)) (hC : CkS w1 bc bm n (fun s => thV (g s)) vV vC S) (cs : Array Value) : AC w (w1.alloc (.cells cs 99)) bc bm n w1.heap.size g vV vC A cs S B R := by
 have hz := hg.size
 have hg' := (grown_drew' (w.alloc (.cells A 137)) (some bc)).trans hg
 simp at hz
 have hA := past0 (heap_alloc_new w _) (by simp) hg' (by simp;omega)
 exact ⟨hC.alloc _,(heap_alloc_old _ _ (by omega)).trans hA,heap_alloc_new _ _,by simp,by omega,((World.grownBy_alloc w _ _).trans hg').trans (World.grownBy_alloc _ _ _),hlp,hlm,hb,
  fun r hr => ⟨(hR r hr).1,((((hR r hr).2.alloc _).kept hg' (low_ne' (hR r hr).2 hb))).alloc _⟩⟩
structure QCon where
 sort : Int
 truth : Int
 terms : List (Int × Int)
 rel : Int
 num : Int
 list : List Int
 place : Int
 entry : Int
 vars : List Int
 lits : List (Int × Int)
structure CRow where
 c : QCon
 vt : Value
 vl : Value
 vv : Value
 vi : Value
def CRow.cells (x : CRow) : List Value := [.int .i64 x.c.sort,.int .i64 x.c.truth,x.vt,.int .i64 x.c.rel,.int .i64 x.c.num,x.vl,.int .i64 x.c.place,.int .i64 x.c.entry,x.vv,x.vi]
def prCell (p : Int × Int) : List Value := [.int .i64 p.1,.int .i64 p.2]
def inCell (i : Int) : List Value := [.int .i64 i]
structure CAt (w : World) (B : Nat) (x : CRow) : Prop where
 t : w.ownsRow B 201 2 x.vt x.c.terms.length (x.c.terms.flatMap prCell)
 l : w.ownsRow B 3 1 x.vl x.c.list.length (x.c.list.flatMap inCell)
 v : w.ownsRow B 3 1 x.vv x.c.vars.length (x.c.vars.flatMap inCell)
 i : w.ownsRow B 203 2 x.vi x.c.lits.length (x.c.lits.flatMap prCell)
theorem own_map {α β : Type} {w : World} {B B' e s : Nat} {v : Value} {l : List α} (f : α → β) {cell : β → List Value} {out : α → List Value} (he : ∀ a,out a = cell (f a)) (h : w.ownsRow B' e s v l.length (l.flatMap out)) (hB : B ≤ B') : w.ownsRow B e s v (l.map f).length ((l.map f).flatMap cell) := by
 have e1 : (l.map f).flatMap cell = l.flatMap out := by
  rw [List.flatMap_map]
  exact congrArg (fun k => List.flatMap k l) (funext fun a => (he a).symm)
 rw [e1,List.length_map]
 refine ⟨h.1,?_⟩
 rcases h.2 with q | ⟨g,cap,cur,h1,h2,h3⟩
 ·exact .inl q
 ·exact .inr ⟨g,cap,cur,h1,Nat.le_trans hB h2,h3⟩
theorem CAt.but {w w' : World} {B : Nat} {x : CRow} {S : List Nat} (h : CAt w B x) (hb : But S w w') (hS : ∀ k,k ∈ S → k < B ∨ ∃ c e,w.heap[k]? = some (.cells c e (0,0)) ∧ (e = 99 ∨ e = 78)) : CAt w' B x := by
 have key : ∀ {e s n : Nat} {v : Value} {xs : List Value},w.ownsRow B e s v n xs → e ≠ 99 → e ≠ 78 → w'.ownsRow B e s v n xs := fun {e s n v xs} ho h1 h2 => by
  refine ⟨ho.1,?_⟩
  rcases ho.2 with q | ⟨g,cap,cur,q1,q2,q3,q4⟩
  ·exact .inl q
  ·refine .inr ⟨g,cap,cur,q1,q2,?_,q4⟩
   rw [hb.block g (Array.getElem?_eq_some_iff.1 q3).1 (fun hg => ?_)]
   ·exact q3
   ·rcases hS g hg with q | ⟨c,e',q,r⟩
    ·omega
    ·rw [q3] at q
     injection q with q
     injection q with _ q _
     subst q
     rcases r with r | r
     ·exact h1 r
     ·exact h2 r
 exact ⟨key h.t (by decide) (by decide),key h.l (by decide) (by decide),key h.v (by decide) (by decide),key h.i (by decide) (by decide)⟩
theorem infoCo : (Tryz.prog.info? 99).map (fun i => (i.zero,i.size,i.bytes)) = some (some (.agg #[.int .i64 0,.int .i64 0,.slice none 0 0,.int .i64 0,.int .i64 0,.slice none 0 0,.int .i64 0,.int .i64 0,.slice none 0 0,.slice none 0 0]),10,144) := by kernel_rfl
theorem con_one (a b : Int) (v1 : Option Addr) (m1 c1 : Nat) (c d : Int) (v2 : Option Addr) (m2 c2 : Nat) (e f : Int) (v3 : Option Addr) (m3 c3 : Nat) (v4 : Option Addr) (m4 c4 : Nat) : ∀ u ∈ [Value.int .i64 a,.int .i64 b,.slice v1 m1 c1,.int .i64 c,.int .i64 d,.slice v2 m2 c2,.int .i64 e,.int .i64 f,.slice v3 m3 c3,.slice v4 m4 c4],u.oneCell' = true := by
 intro u hu
 simp only [List.mem_cons,List.not_mem_nil,or_false] at hu
 rcases hu with rfl | rfl | rfl | rfl | rfl | rfl | rfl | rfl | rfl | rfl <;> rfl
def ConPost (w : World) (bc bm n B m : Nat) (g : ByteArray → Th) (vV vC : Value) (S : FSt) (xs : List Value) (C : QCon) (e : Ending) (w' : World) : Prop :=
 e = .returned (.tuple #[]) ∧ ∃ v x,x.c = C ∧ CAt w' B x ∧ w'.ownsRow B 99 10 v (m + 1) (xs ++ x.cells) ∧ But ([bc] ++ vC.ownBlock.toList) w w' ∧ CkS w' bc bm n (fun s => thV (g s)) vV v S
theorem con_end {wj wA : World} {m : Nat} {o : Obj} {v : Value} {xs : List Value} (h : AC w wj bc bm n br g vV vC A cs S B R) (hcB : bc < B) (hmB : bm < B) (hoC : w.ownsRow B 99 10 vC m xs) (x : CRow) (hx : CAt wj B x) (hown : wA.ownsRow B 99 10 v (m + 1) (xs ++ x.cells)) (hg : (wj.alloc o).drew.grownBy wA vC.ownBlock) : ConPost w bc bm n B m g vV vC S xs x.c (.returned (.tuple #[])) (wA.setCell ⟨bc,2,none⟩ v) := by
 have hC : CkS wA bc bm n (fun s => thV (g s)) vV vC S := ((h.ck.alloc o).drew).kept hg (low_ne hoC hcB) (low_ne hoC hmB)
 have hoj := hoC.kept h.gr (low_ne' hoC hcB)
 have b1 : But ([bc] ++ vC.ownBlock.toList) wj (wA.setCell ⟨bc,2,none⟩ v) := ((((But.refl _ wj).alloc o).drew).grown hg (fun k e => .inl (by simp [e]))).set (.inl (by simp)) _ _
 refine ⟨rfl,v,x,rfl,hx.but b1 (fun k hk => ?_),hown.kept (grown_set _ _ _ _) (low_ne' hown hcB),?_,hC.setC⟩
 ·rcases List.mem_append.1 hk with q | q
  ·simp at q;exact .inl (by omega)
  ·have q' : vC.ownBlock = some k := by simpa using q
   rcases hoj.2 with ⟨e,_⟩ | ⟨g',cap,cur,e,_,e3,_⟩
   ·rw [e] at q';cases q'
   ·rw [e] at q'
    have : g' = k := Option.some.inj q'
    subst this
    exact .inr ⟨cur,_,e3,.inl rfl⟩
 ·have q := (((But.of (S := [bc] ++ vC.ownBlock.toList) h.gr (by simp)).alloc o).drew).grown hg (fun k e => by exact .inl (by simp [e]))
  exact q.set (.inl (by simp)) _ _
end
section
set_option maxHeartbeats 8000000
set_option maxRecDepth 100000
open Go.RowKit
variable {w : World} {bc bm n : Nat} {g : ByteArray → Th} {vV vC : Value} {st : FSt}
theorem sn_con_diff (B m : Nat) (xs : List Value) (ca : Option Addr) (cc : Nat) (h : CkS w bc bm n (fun s => thV (g s)) vV (.slice ca m cc) st) (hoC : w.ownsRow B 99 10 (.slice ca m cc) m xs) (hcB : bc < B) (hmB : bm < B) (hBw : B ≤ w.heap.size) (hm : m ≤ 3000) (hv : ThOk g) (kw nm rel : PTok) (l numbers : List PTok) (terms : List GTerm) (lits : List GLit) (v1 vu vt vl : Value) (gr cap : Nat) (hR : RowIn w v1 gr cap tokCell l) (hgc : gr ≠ bc) (hl : l.length ≤ 3000) (hok : ∀ a ∈ l,TOk a) (hk : rSort (srt kw) = 3) : Calls Tryz.prog 123 #[.pointer (some ⟨bc,0,none⟩),.agg (gsCells ⟨kw,nm,l,numbers,terms,rel,lits⟩ v1 vu vt vl)] w (ConPost w bc bm n B m g vV (.slice ca m cc) (foldSt (varStP g) 0 l (flt (decide ((16 : Int) ≤ m)) 6 kw.line st)) xs ⟨3,0,[],0,0,[],0,0,l.map (fun t => (thFind g t.s 4).pl),[]⟩) := by
 obtain ⟨i0,hi0,hz0,hz1,hz2⟩ := info_parts infoCo
 have HC : Hid (CkS w bc bm n (fun s => thV (g s)) vV (.slice ca m cc) st) := h
 have hlt := h.lt
 have hltm := h.ltm
 have hc2 := h.c2
 have HRS : Hid (rSort (srt kw) = 3) := hk
 obtain ⟨vC,hvC⟩ : ∃ v,v = Value.slice ca m cc := ⟨_,rfl⟩
 have K1 := Kept.mk (fun {W : World} (hW : CkS W bc bm n (fun s => thV (g s)) vV (.slice ca m cc) st) => sn_room hW kw m 16)
 generalize hS1 : flt (decide ((16 : Int) ≤ m)) 6 kw.line st = S1 at *
 have K2 := Kept.mk (fun {W : World} (hW : CkS W bc bm n (fun s => thV (g s)) vV (.slice ca m cc) S1) (hRW : RowIn W v1 gr cap tokCell l) => sn_variables hW l v1 gr cap hRW hgc hl hok hv)
 generalize hS2 : foldSt (varStP g) 0 l S1 = S2 at *
 unfold tkV at K1
 unfold gsCells
 simp only
 clear h hk 
 go_enter Tryz.func123,Tryz.ntmps123
 go_wp2
 go_region_law (go_simp;go_at_call 149;refine (K1.get (HC.out.alloc _).drew).mono ?_;rintro e w1 ⟨rfl,hg1,hC1⟩;have x1 := ac_start hlt hltm hcB (R := []) (fun r hr => by cases hr) hg1 hC1 #[.int .i64 3,.int .i64 0,.slice none 0 0,.int .i64 0,.int .i64 0,.slice none 0 0,.int .i64 0,.int .i64 0,.slice none 0 0,.slice none 0 0];have hs1 : w.heap.size < w1.heap.size := x1.lo;have hn1 : w.heap.size ≠ w1.heap.size := (by omega);have hn2 : w1.heap.size ≠ w.heap.size := (by omega);have hB1 := past0 (heap_alloc_new w _) (by simp) ((grown_drew' _ (some bc)).trans hg1) (by simp;omega);have a8_1 := cell_of hB1 8 _ rfl;have a0_1 := cell_of hB1 0 _ rfl)
 all_goals
  go_wp2_with (first | (go_at_call 160;refine (K2.get x1.ck (hR.kept x1.gr (by simpa using Ne.symm hgc))).mono ?_;rintro e w2 ⟨v2,rfl,hown2,hg2,hC2⟩;obtain ⟨va2,vm2,vc2,rfl⟩ := own_slice hown2;have x2 := (x1.call0 hg2 hC2).add ⟨3,1,.slice va2 vm2 vc2,(l.map (fun t : PTok => (thFind g t.s 4).pl)).length,(l.map (fun t : PTok => (thFind g t.s 4).pl)).flatMap inCell⟩ (by show 3 ≠ 99;decide) (own_map (fun t : PTok => (thFind g t.s 4).pl) (fun _ => rfl) hown2 (by have := x1.gr.size;omega));have r8_2 := cell_of x2.hS 8 _ rfl;have z8_2 := frozen_of x2.hS 8;have y2_8 := x2.sf (cs' := #[.int .i64 3,.int .i64 0,.slice none 0 0,.int .i64 0,.int .i64 0,.slice none 0 0,.int .i64 0,.int .i64 0,.slice va2 vm2 vc2,.slice none 0 0]) 8 (.slice va2 vm2 vc2) rfl) | (go_at_call 154;refine (sn_ruleSort _ _).mono ?_;rw [HRS.out];rintro e w' ⟨rfl,hww⟩;subst w'))
  have xE := y2_8
  generalize (w2.setCell ⟨w1.heap.size,8,none⟩ (.slice va2 vm2 vc2)) = wj at xE ⊢
  have m2 := xE.ck.c2
  have mf := xE.ck.f2
  have mlt := xE.ck.lt
  have c0 := cell_of xE.hS 0 _ rfl
  have c1 := cell_of xE.hS 1 _ rfl
  have c2 := cell_of xE.hS 2 _ rfl
  have c3 := cell_of xE.hS 3 _ rfl
  have c4 := cell_of xE.hS 4 _ rfl
  have c5 := cell_of xE.hS 5 _ rfl
  have c6 := cell_of xE.hS 6 _ rfl
  have c7 := cell_of xE.hS 7 _ rfl
  have c8 := cell_of xE.hS 8 _ rfl
  have c9 := cell_of xE.hS 9 _ rfl
  have blt := xE.lt
  have hoj := hoC.kept xE.gr (low_ne' hoC hcB)
  have HOWN := Kept.mk ((hoj.kept ((World.grownBy_alloc wj (.cells #[.int .i64 3,.int .i64 0,.slice none 0 0,.int .i64 0,.int .i64 0,.slice none 0 0,.int .i64 0,.int .i64 0,.slice va2 vm2 vc2,.slice none 0 0] 99) none).trans (grown_drew' _ none)) (own_none _)))
  have HNEWS := Kept.mk (World.news_of_block (w := (wj.alloc (.cells #[.int .i64 3,.int .i64 0,.slice none 0 0,.int .i64 0,.int .i64 0,.slice none 0 0,.int .i64 0,.int .i64 0,.slice va2 vm2 vc2,.slice none 0 0] 99)).drew) (cs := #[.int .i64 3,.int .i64 0,.slice none 0 0,.int .i64 0,.int .i64 0,.slice none 0 0,.int .i64 0,.int .i64 0,.slice va2 vm2 vc2,.slice none 0 0]) (t := 99) (fr := (0,0)) (heap_alloc_new wj _))
  have KEEP : Hid (∀ wA,(wj.alloc (.cells #[.int .i64 3,.int .i64 0,.slice none 0 0,.int .i64 0,.int .i64 0,.slice none 0 0,.int .i64 0,.int .i64 0,.slice va2 vm2 vc2,.slice none 0 0] 99)).drew.grownBy wA (Value.slice ca m cc).ownBlock → wA.frozen? ⟨bc,2,none⟩ = false ∧ wA.cell? ⟨bc,2,none⟩ = some (.slice ca m cc)) := fun wA hg => by
   have q := ((xE.ck.alloc _).drew).kept hg (low_ne hoC hcB) (low_ne hoC hmB)
   exact ⟨q.f2,q.c2⟩
  have hBj : B ≤ wj.heap.size := by have := xE.gr.size;omega
  go_region_law ((refine step_append_lies _ (by rfl) _ _ 74 (by rfl) B 99 i0 (.agg #[.int .i64 0,.int .i64 0,.slice none 0 0,.int .i64 0,.int .i64 0,.slice none 0 0,.int .i64 0,.int .i64 0,.slice none 0 0,.slice none 0 0]) 10 144 Tryz.underlying74 hi0 hz0 hz1 hz2 rfl (by decide) (.slice ca m cc) m xs (by rfl) HOWN.get ⟨wj.heap.size,0,none⟩ 1 1 [.int .i64 3,.int .i64 0,.slice none 0 0,.int .i64 0,.int .i64 0,.slice none 0 0,.int .i64 0,.int .i64 0,.slice va2 vm2 vc2,.slice none 0 0] (by rfl) rfl HNEWS.get (con_one _ _ _ _ _ _ _ _ _ _ _ _ _ _ _ _ _ _) (by decide) (by unfold maxLen;omega) (by omega) (by simp;omega) _ rfl ?_;intro gA capA wA hownA hgrowA hatA hltA;obtain ⟨q1,q2⟩ := KEEP.out wA hgrowA))
  all_goals have R := con_end xE hcB hmB hoC ⟨⟨3,0,[],0,0,[],0,0,l.map (fun t => (thFind g t.s 4).pl),[]⟩,.slice none 0 0,.slice none 0 0,.slice va2 vm2 vc2,.slice none 0 0⟩ ⟨World.ownsRow_nil _ _ _ _,World.ownsRow_nil _ _ _ _,(xE.rw _ (List.mem_cons_self ..)).2,World.ownsRow_nil _ _ _ _⟩ hownA hgrowA
  all_goals clear HOWN HNEWS KEEP hownA hgrowA hatA hltA
  all_goals go_wp2
  all_goals go_end0
  all_goals exact R
end
section
set_option maxHeartbeats 8000000
set_option maxRecDepth 100000
open Go.RowKit
variable {w : World} {bc bm n : Nat} {g : ByteArray → Th} {vV vC : Value} {st : FSt}
theorem sn_con_or (B m : Nat) (xs : List Value) (ca : Option Addr) (cc : Nat) (h : CkS w bc bm n (fun s => thV (g s)) vV (.slice ca m cc) st) (hoC : w.ownsRow B 99 10 (.slice ca m cc) m xs) (hcB : bc < B) (hmB : bm < B) (hBw : B ≤ w.heap.size) (hm : m ≤ 3000) (hv : ThOk g) (kw nm rel : PTok) (names numbers : List PTok) (terms : List GTerm) (l : List GLit) (vn vu vt v1 : Value) (gr cap : Nat) (hR : RowIn w v1 gr cap glCell l) (hgc : gr ≠ bc) (hl : l.length ≤ 3000) (hok : ∀ a ∈ l,TOk a.first ∧ TOk a.name) (hk : rSort (srt kw) = 4) : Calls Tryz.prog 123 #[.pointer (some ⟨bc,0,none⟩),.agg (gsCells ⟨kw,nm,names,numbers,terms,rel,l⟩ vn vu vt v1)] w (ConPost w bc bm n B m g vV (.slice ca m cc) (foldSt (litStP g) 0 l (flt (decide ((16 : Int) ≤ m)) 6 kw.line st)) xs ⟨4,0,[],0,0,[],0,0,[],l.map (fun t => ((thFind g t.name.s 4).pl,if srt t.first = 22 then 0 else 1))⟩) := by
 obtain ⟨i0,hi0,hz0,hz1,hz2⟩ := info_parts infoCo
 have HC : Hid (CkS w bc bm n (fun s => thV (g s)) vV (.slice ca m cc) st) := h
 have hlt := h.lt
 have hltm := h.ltm
 have hc2 := h.c2
 have HRS : Hid (rSort (srt kw) = 4) := hk
 obtain ⟨vC,hvC⟩ : ∃ v,v = Value.slice ca m cc := ⟨_,rfl⟩
 have K1 := Kept.mk (fun {W : World} (hW : CkS W bc bm n (fun s => thV (g s)) vV (.slice ca m cc) st) => sn_room hW kw m 16)
 generalize hS1 : flt (decide ((16 : Int) ≤ m)) 6 kw.line st = S1 at *
 have K2 := Kept.mk (fun {W : World} (hW : CkS W bc bm n (fun s => thV (g s)) vV (.slice ca m cc) S1) (hRW : RowIn W v1 gr cap glCell l) => sn_lits hW l v1 gr cap hRW hgc hl hok hv)
 generalize hS2 : foldSt (litStP g) 0 l S1 = S2 at *
 unfold tkV at K1
 unfold gsCells
 simp only
 clear h hk 
 go_enter Tryz.func123,Tryz.ntmps123
 go_wp2
 go_region_law (go_simp;go_at_call 149;refine (K1.get (HC.out.alloc _).drew).mono ?_;rintro e w1 ⟨rfl,hg1,hC1⟩;have x1 := ac_start hlt hltm hcB (R := []) (fun r hr => by cases hr) hg1 hC1 #[.int .i64 4,.int .i64 0,.slice none 0 0,.int .i64 0,.int .i64 0,.slice none 0 0,.int .i64 0,.int .i64 0,.slice none 0 0,.slice none 0 0];have hs1 : w.heap.size < w1.heap.size := x1.lo;have hn1 : w.heap.size ≠ w1.heap.size := (by omega);have hn2 : w1.heap.size ≠ w.heap.size := (by omega);have hB1 := past0 (heap_alloc_new w _) (by simp) ((grown_drew' _ (some bc)).trans hg1) (by simp;omega);have a15_1 := cell_of hB1 15 _ rfl;have a0_1 := cell_of hB1 0 _ rfl)
 all_goals
  go_wp2_with (first | (go_at_call 161;refine (K2.get x1.ck (hR.kept x1.gr (by simpa using Ne.symm hgc))).mono ?_;rintro e w2 ⟨v2,rfl,hown2,hg2,hC2⟩;obtain ⟨va2,vm2,vc2,rfl⟩ := own_slice hown2;have x2 := (x1.call0 hg2 hC2).add ⟨203,2,.slice va2 vm2 vc2,(l.map (fun t : GLit => ((thFind g t.name.s 4).pl,if srt t.first = 22 then 0 else 1))).length,(l.map (fun t : GLit => ((thFind g t.name.s 4).pl,if srt t.first = 22 then 0 else 1))).flatMap prCell⟩ (by show 203 ≠ 99;decide) (own_map (fun t : GLit => ((thFind g t.name.s 4).pl,if srt t.first = 22 then 0 else 1)) (fun _ => rfl) hown2 (by have := x1.gr.size;omega));have r9_2 := cell_of x2.hS 9 _ rfl;have z9_2 := frozen_of x2.hS 9;have y2_9 := x2.sf (cs' := #[.int .i64 4,.int .i64 0,.slice none 0 0,.int .i64 0,.int .i64 0,.slice none 0 0,.int .i64 0,.int .i64 0,.slice none 0 0,.slice va2 vm2 vc2]) 9 (.slice va2 vm2 vc2) rfl) | (go_at_call 154;refine (sn_ruleSort _ _).mono ?_;rw [HRS.out];rintro e w' ⟨rfl,hww⟩;subst w'))
  have xE := y2_9
  generalize (w2.setCell ⟨w1.heap.size,9,none⟩ (.slice va2 vm2 vc2)) = wj at xE ⊢
  have m2 := xE.ck.c2
  have mf := xE.ck.f2
  have mlt := xE.ck.lt
  have c0 := cell_of xE.hS 0 _ rfl
  have c1 := cell_of xE.hS 1 _ rfl
  have c2 := cell_of xE.hS 2 _ rfl
  have c3 := cell_of xE.hS 3 _ rfl
  have c4 := cell_of xE.hS 4 _ rfl
  have c5 := cell_of xE.hS 5 _ rfl
  have c6 := cell_of xE.hS 6 _ rfl
  have c7 := cell_of xE.hS 7 _ rfl
  have c8 := cell_of xE.hS 8 _ rfl
  have c9 := cell_of xE.hS 9 _ rfl
  have blt := xE.lt
  have hoj := hoC.kept xE.gr (low_ne' hoC hcB)
  have HOWN := Kept.mk ((hoj.kept ((World.grownBy_alloc wj (.cells #[.int .i64 4,.int .i64 0,.slice none 0 0,.int .i64 0,.int .i64 0,.slice none 0 0,.int .i64 0,.int .i64 0,.slice none 0 0,.slice va2 vm2 vc2] 99) none).trans (grown_drew' _ none)) (own_none _)))
  have HNEWS := Kept.mk (World.news_of_block (w := (wj.alloc (.cells #[.int .i64 4,.int .i64 0,.slice none 0 0,.int .i64 0,.int .i64 0,.slice none 0 0,.int .i64 0,.int .i64 0,.slice none 0 0,.slice va2 vm2 vc2] 99)).drew) (cs := #[.int .i64 4,.int .i64 0,.slice none 0 0,.int .i64 0,.int .i64 0,.slice none 0 0,.int .i64 0,.int .i64 0,.slice none 0 0,.slice va2 vm2 vc2]) (t := 99) (fr := (0,0)) (heap_alloc_new wj _))
  have KEEP : Hid (∀ wA,(wj.alloc (.cells #[.int .i64 4,.int .i64 0,.slice none 0 0,.int .i64 0,.int .i64 0,.slice none 0 0,.int .i64 0,.int .i64 0,.slice none 0 0,.slice va2 vm2 vc2] 99)).drew.grownBy wA (Value.slice ca m cc).ownBlock → wA.frozen? ⟨bc,2,none⟩ = false ∧ wA.cell? ⟨bc,2,none⟩ = some (.slice ca m cc)) := fun wA hg => by
   have q := ((xE.ck.alloc _).drew).kept hg (low_ne hoC hcB) (low_ne hoC hmB)
   exact ⟨q.f2,q.c2⟩
  have hBj : B ≤ wj.heap.size := by have := xE.gr.size;omega
  go_region_law ((refine step_append_lies _ (by rfl) _ _ 74 (by rfl) B 99 i0 (.agg #[.int .i64 0,.int .i64 0,.slice none 0 0,.int .i64 0,.int .i64 0,.slice none 0 0,.int .i64 0,.int .i64 0,.slice none 0 0,.slice none 0 0]) 10 144 Tryz.underlying74 hi0 hz0 hz1 hz2 rfl (by decide) (.slice ca m cc) m xs (by rfl) HOWN.get ⟨wj.heap.size,0,none⟩ 1 1 [.int .i64 4,.int .i64 0,.slice none 0 0,.int .i64 0,.int .i64 0,.slice none 0 0,.int .i64 0,.int .i64 0,.slice none 0 0,.slice va2 vm2 vc2] (by rfl) rfl HNEWS.get (con_one _ _ _ _ _ _ _ _ _ _ _ _ _ _ _ _ _ _) (by decide) (by unfold maxLen;omega) (by omega) (by simp;omega) _ rfl ?_;intro gA capA wA hownA hgrowA hatA hltA;obtain ⟨q1,q2⟩ := KEEP.out wA hgrowA))
  all_goals have R := con_end xE hcB hmB hoC ⟨⟨4,0,[],0,0,[],0,0,[],l.map (fun t => ((thFind g t.name.s 4).pl,if srt t.first = 22 then 0 else 1))⟩,.slice none 0 0,.slice none 0 0,.slice none 0 0,.slice va2 vm2 vc2⟩ ⟨World.ownsRow_nil _ _ _ _,World.ownsRow_nil _ _ _ _,World.ownsRow_nil _ _ _ _,(xE.rw _ (List.mem_cons_self ..)).2⟩ hownA hgrowA
  all_goals clear HOWN HNEWS KEEP hownA hgrowA hatA hltA
  all_goals go_wp2
  all_goals go_end0
  all_goals exact R
end
section
set_option maxHeartbeats 8000000
set_option maxRecDepth 100000
open Go.RowKit
variable {w : World} {bc bm n : Nat} {g : ByteArray → Th} {vV vC : Value} {st : FSt}
theorem sn_con_lin (B m : Nat) (xs : List Value) (ca : Option Addr) (cc : Nat) (h : CkS w bc bm n (fun s => thV (g s)) vV (.slice ca m cc) st) (hoC : w.ownsRow B 99 10 (.slice ca m cc) m xs) (hcB : bc < B) (hmB : bm < B) (hBw : B ≤ w.heap.size) (hm : m ≤ 3000) (hv : ThOk g) (kw nm rel M : PTok) (names : List PTok) (l : List GTerm) (lits : List GLit) (vn vu v1 vl : Value) (gr cap gru capu : Nat) (hR : RowIn w v1 gr cap gtCell l) (hgc : gr ≠ bc) (hU : RowIn w vu gru capu tokCell [M]) (hgu : gru ≠ bc) (hl : l.length ≤ 3000) (hok : ∀ a ∈ l,TOk a.first ∧ TOk a.name) (hkN : TOk nm) (hkM : TOk M) (hk : rSort (srt kw) = 0) : Calls Tryz.prog 123 #[.pointer (some ⟨bc,0,none⟩),.agg (gsCells ⟨kw,nm,names,[M],l,rel,lits⟩ vn vu v1 vl)] w (ConPost w bc bm n B m g vV (.slice ca m cc) (flt (outB (tval M) 1000000) 5 M.line (foldSt (termStP g) 0 l (flt (decide ((16 : Int) ≤ m)) 6 kw.line st))) xs ⟨0,0,l.map (fun t => ((thFind g t.name.s 4).pl,facV t)),rRel (srt rel),tval M,[],0,0,[],[]⟩) := by
 obtain ⟨i0,hi0,hz0,hz1,hz2⟩ := info_parts infoCo
 have HC : Hid (CkS w bc bm n (fun s => thV (g s)) vV (.slice ca m cc) st) := h
 have hlt := h.lt
 have hltm := h.ltm
 have hc2 := h.c2
 have HRS : Hid (rSort (srt kw) = 0) := hk
 obtain ⟨vC,hvC⟩ : ∃ v,v = Value.slice ca m cc := ⟨_,rfl⟩
 have hy1 := hkM.2.1;have hy2 := hkM.2.2
 obtain rfl := hU.is
 have K1 := Kept.mk (fun {W : World} (hW : CkS W bc bm n (fun s => thV (g s)) vV (.slice ca m cc) st) => sn_room hW kw m 16)
 generalize hS1 : flt (decide ((16 : Int) ≤ m)) 6 kw.line st = S1 at *
 have K2 := Kept.mk (fun {W : World} (hW : CkS W bc bm n (fun s => thV (g s)) vV (.slice ca m cc) S1) (hRW : RowIn W v1 gr cap gtCell l) => sn_terms hW l v1 gr cap hRW hgc hl hok hv)
 generalize hS2 : foldSt (termStP g) 0 l S1 = S2 at *
 have K3 := Kept.mk (fun {W : World} (hW : CkS W bc bm n (fun s => thV (g s)) vV (.slice ca m cc) S2) => sn_number hW M 1000000 (by decide) (by decide))
 generalize hS3 : flt (outB (tval M) 1000000) 5 M.line S2 = S3 at *
 unfold tkV at K1 K3
 unfold gsCells
 simp only
 clear h hk 
 go_enter Tryz.func123,Tryz.ntmps123
 go_wp2
 go_region_law (go_simp;go_at_call 149;refine (K1.get (HC.out.alloc _).drew).mono ?_;rintro e w1 ⟨rfl,hg1,hC1⟩;have x1 := ac_start hlt hltm hcB (R := []) (fun r hr => by cases hr) hg1 hC1 #[.int .i64 0,.int .i64 0,.slice none 0 0,.int .i64 0,.int .i64 0,.slice none 0 0,.int .i64 0,.int .i64 0,.slice none 0 0,.slice none 0 0];have hs1 : w.heap.size < w1.heap.size := x1.lo;have hn1 : w.heap.size ≠ w1.heap.size := (by omega);have hn2 : w1.heap.size ≠ w.heap.size := (by omega);have hB1 := past0 (heap_alloc_new w _) (by simp) ((grown_drew' _ (some bc)).trans hg1) (by simp;omega);have a0_1 := cell_of hB1 0 _ rfl;have a10_1 := cell_of hB1 10 _ rfl)
 all_goals
  go_wp2_with (first | (go_at_call 157;refine (sn_ruleRel _ _).mono ?_;rintro e w' ⟨rfl,hww⟩;subst w') | (go_at_call 151;refine (K3.get y2_3.ck).mono ?_;rintro e w3 ⟨rfl,hg3,hC3⟩;have x3 := (y2_3.call0 hg3 hC3);have r4_3 := cell_of x3.hS 4 _ rfl;have z4_3 := frozen_of x3.hS 4;have y3_4 := x3.sf (cs' := #[.int .i64 0,.int .i64 0,.slice va2 vm2 vc2,.int .i64 (rRel (srt rel)),.int .i64 (tval M),.slice none 0 0,.int .i64 0,.int .i64 0,.slice none 0 0,.slice none 0 0]) 4 (.int .i64 (tval M)) rfl) | (go_at_call 156;refine (K2.get x1.ck (hR.kept x1.gr (by simpa using Ne.symm hgc))).mono ?_;rintro e w2 ⟨v2,rfl,hown2,hg2,hC2⟩;obtain ⟨va2,vm2,vc2,rfl⟩ := own_slice hown2;have x2 := (x1.call0 hg2 hC2).add ⟨201,2,.slice va2 vm2 vc2,(l.map (fun t : GTerm => ((thFind g t.name.s 4).pl,facV t))).length,(l.map (fun t : GTerm => ((thFind g t.name.s 4).pl,facV t))).flatMap prCell⟩ (by show 201 ≠ 99;decide) (own_map (fun t : GTerm => ((thFind g t.name.s 4).pl,facV t)) (fun _ => rfl) hown2 (by have := x1.gr.size;omega));have a9_2 := cell_of x2.hA 9 _ rfl;have a11_2 := cell_of x2.hA 11 _ rfl;have r2_2 := cell_of x2.hS 2 _ rfl;have z2_2 := frozen_of x2.hS 2;have r3_2 := cell_of x2.hS 3 _ rfl;have z3_2 := frozen_of x2.hS 3;have y2_2 := x2.sf (cs' := #[.int .i64 0,.int .i64 0,.slice va2 vm2 vc2,.int .i64 0,.int .i64 0,.slice none 0 0,.int .i64 0,.int .i64 0,.slice none 0 0,.slice none 0 0]) 2 (.slice va2 vm2 vc2) rfl;have y2_3 := y2_2.sf (cs' := #[.int .i64 0,.int .i64 0,.slice va2 vm2 vc2,.int .i64 (rRel (srt rel)),.int .i64 0,.slice none 0 0,.int .i64 0,.int .i64 0,.slice none 0 0,.slice none 0 0]) 3 (.int .i64 (rRel (srt rel))) rfl;have q0_2 := (hU.kept x2.gr (by simpa using Ne.symm hgu)).row 0 _ rfl;have q1_2 := (hU.kept x2.gr (by simpa using Ne.symm hgu)).row 1 _ rfl;have q2_2 := (hU.kept x2.gr (by simpa using Ne.symm hgu)).row 2 _ rfl;have q3_2 := (hU.kept x2.gr (by simpa using Ne.symm hgu)).row 3 _ rfl;have hu2 : gru ≠ w1.heap.size := (by have := hU.lt;omega)) | (go_at_call 154;refine (sn_ruleSort _ _).mono ?_;rw [HRS.out];rintro e w' ⟨rfl,hww⟩;subst w'))
  have xE := y3_4
  generalize (w3.setCell ⟨w1.heap.size,4,none⟩ (.int .i64 (tval M))) = wj at xE ⊢
  have m2 := xE.ck.c2
  have mf := xE.ck.f2
  have mlt := xE.ck.lt
  have c0 := cell_of xE.hS 0 _ rfl
  have c1 := cell_of xE.hS 1 _ rfl
  have c2 := cell_of xE.hS 2 _ rfl
  have c3 := cell_of xE.hS 3 _ rfl
  have c4 := cell_of xE.hS 4 _ rfl
  have c5 := cell_of xE.hS 5 _ rfl
  have c6 := cell_of xE.hS 6 _ rfl
  have c7 := cell_of xE.hS 7 _ rfl
  have c8 := cell_of xE.hS 8 _ rfl
  have c9 := cell_of xE.hS 9 _ rfl
  have blt := xE.lt
  have hoj := hoC.kept xE.gr (low_ne' hoC hcB)
  have HOWN := Kept.mk ((hoj.kept ((World.grownBy_alloc wj (.cells #[.int .i64 0,.int .i64 0,.slice va2 vm2 vc2,.int .i64 (rRel (srt rel)),.int .i64 (tval M),.slice none 0 0,.int .i64 0,.int .i64 0,.slice none 0 0,.slice none 0 0] 99) none).trans (grown_drew' _ none)) (own_none _)))
  have HNEWS := Kept.mk (World.news_of_block (w := (wj.alloc (.cells #[.int .i64 0,.int .i64 0,.slice va2 vm2 vc2,.int .i64 (rRel (srt rel)),.int .i64 (tval M),.slice none 0 0,.int .i64 0,.int .i64 0,.slice none 0 0,.slice none 0 0] 99)).drew) (cs := #[.int .i64 0,.int .i64 0,.slice va2 vm2 vc2,.int .i64 (rRel (srt rel)),.int .i64 (tval M),.slice none 0 0,.int .i64 0,.int .i64 0,.slice none 0 0,.slice none 0 0]) (t := 99) (fr := (0,0)) (heap_alloc_new wj _))
  have KEEP : Hid (∀ wA,(wj.alloc (.cells #[.int .i64 0,.int .i64 0,.slice va2 vm2 vc2,.int .i64 (rRel (srt rel)),.int .i64 (tval M),.slice none 0 0,.int .i64 0,.int .i64 0,.slice none 0 0,.slice none 0 0] 99)).drew.grownBy wA (Value.slice ca m cc).ownBlock → wA.frozen? ⟨bc,2,none⟩ = false ∧ wA.cell? ⟨bc,2,none⟩ = some (.slice ca m cc)) := fun wA hg => by
   have q := ((xE.ck.alloc _).drew).kept hg (low_ne hoC hcB) (low_ne hoC hmB)
   exact ⟨q.f2,q.c2⟩
  have hBj : B ≤ wj.heap.size := by have := xE.gr.size;omega
  go_region_law ((refine step_append_lies _ (by rfl) _ _ 74 (by rfl) B 99 i0 (.agg #[.int .i64 0,.int .i64 0,.slice none 0 0,.int .i64 0,.int .i64 0,.slice none 0 0,.int .i64 0,.int .i64 0,.slice none 0 0,.slice none 0 0]) 10 144 Tryz.underlying74 hi0 hz0 hz1 hz2 rfl (by decide) (.slice ca m cc) m xs (by rfl) HOWN.get ⟨wj.heap.size,0,none⟩ 1 1 [.int .i64 0,.int .i64 0,.slice va2 vm2 vc2,.int .i64 (rRel (srt rel)),.int .i64 (tval M),.slice none 0 0,.int .i64 0,.int .i64 0,.slice none 0 0,.slice none 0 0] (by rfl) rfl HNEWS.get (con_one _ _ _ _ _ _ _ _ _ _ _ _ _ _ _ _ _ _) (by decide) (by unfold maxLen;omega) (by omega) (by simp;omega) _ rfl ?_;intro gA capA wA hownA hgrowA hatA hltA;obtain ⟨q1,q2⟩ := KEEP.out wA hgrowA))
  all_goals have R := con_end xE hcB hmB hoC ⟨⟨0,0,l.map (fun t => ((thFind g t.name.s 4).pl,facV t)),rRel (srt rel),tval M,[],0,0,[],[]⟩,.slice va2 vm2 vc2,.slice none 0 0,.slice none 0 0,.slice none 0 0⟩ ⟨(xE.rw _ (List.mem_cons_self ..)).2,World.ownsRow_nil _ _ _ _,World.ownsRow_nil _ _ _ _,World.ownsRow_nil _ _ _ _⟩ hownA hgrowA
  all_goals clear HOWN HNEWS KEEP hownA hgrowA hatA hltA
  all_goals go_wp2
  all_goals go_end0
  all_goals exact R
end
section
set_option maxHeartbeats 8000000
set_option maxRecDepth 100000
open Go.RowKit
variable {w : World} {bc bm n : Nat} {g : ByteArray → Th} {vV vC : Value} {st : FSt}
theorem sn_con_when (B m : Nat) (xs : List Value) (ca : Option Addr) (cc : Nat) (h : CkS w bc bm n (fun s => thV (g s)) vV (.slice ca m cc) st) (hoC : w.ownsRow B 99 10 (.slice ca m cc) m xs) (hcB : bc < B) (hmB : bm < B) (hBw : B ≤ w.heap.size) (hm : m ≤ 3000) (hv : ThOk g) (kw nm rel M : PTok) (names : List PTok) (l : List GTerm) (lits : List GLit) (vn vu v1 vl : Value) (gr cap gru capu : Nat) (hR : RowIn w v1 gr cap gtCell l) (hgc : gr ≠ bc) (hU : RowIn w vu gru capu tokCell [M]) (hgu : gru ≠ bc) (hl : l.length ≤ 3000) (hok : ∀ a ∈ l,TOk a.first ∧ TOk a.name) (hkN : TOk nm) (hkM : TOk M) (hk : rSort (srt kw) = 1) : Calls Tryz.prog 123 #[.pointer (some ⟨bc,0,none⟩),.agg (gsCells ⟨kw,nm,names,[M],l,rel,lits⟩ vn vu v1 vl)] w (ConPost w bc bm n B m g vV (.slice ca m cc) (flt (outB (tval M) 1000000) 5 M.line (foldSt (termStP g) 0 l (flt (noTruthT (thFind g nm.s 4)) 7 nm.line (flt ((g nm.s).so != 4) 4 nm.line (flt (decide ((16 : Int) ≤ m)) 6 kw.line st))))) xs ⟨1,(thFind g nm.s 4).pl,l.map (fun t => ((thFind g t.name.s 4).pl,facV t)),rRel (srt rel),tval M,[],0,0,[],[]⟩) := by
 obtain ⟨i0,hi0,hz0,hz1,hz2⟩ := info_parts infoCo
 have HC : Hid (CkS w bc bm n (fun s => thV (g s)) vV (.slice ca m cc) st) := h
 have hlt := h.lt
 have hltm := h.ltm
 have hc2 := h.c2
 have HRS : Hid (rSort (srt kw) = 1) := hk
 obtain ⟨vC,hvC⟩ : ∃ v,v = Value.slice ca m cc := ⟨_,rfl⟩
 have hy1 := hkM.2.1;have hy2 := hkM.2.2
 obtain rfl := hU.is
 have K1 := Kept.mk (fun {W : World} (hW : CkS W bc bm n (fun s => thV (g s)) vV (.slice ca m cc) st) => sn_room hW kw m 16)
 generalize hS1 : flt (decide ((16 : Int) ≤ m)) 6 kw.line st = S1 at *
 have K2 := Kept.mk (fun {W : World} (hW : CkS W bc bm n (fun s => thV (g s)) vV (.slice ca m cc) S1) => sn_truth hW nm hkN.1 hv)
 generalize hS2 : flt (noTruthT (thFind g nm.s 4)) 7 nm.line (flt ((g nm.s).so != 4) 4 nm.line S1) = S2 at *
 have K3 := Kept.mk (fun {W : World} (hW : CkS W bc bm n (fun s => thV (g s)) vV (.slice ca m cc) S2) (hRW : RowIn W v1 gr cap gtCell l) => sn_terms hW l v1 gr cap hRW hgc hl hok hv)
 generalize hS3 : foldSt (termStP g) 0 l S2 = S3 at *
 have K4 := Kept.mk (fun {W : World} (hW : CkS W bc bm n (fun s => thV (g s)) vV (.slice ca m cc) S3) => sn_number hW M 1000000 (by decide) (by decide))
 generalize hS4 : flt (outB (tval M) 1000000) 5 M.line S3 = S4 at *
 unfold tkV at K1 K2 K4
 unfold gsCells
 simp only
 clear h hk 
 go_enter Tryz.func123,Tryz.ntmps123
 go_wp2
 go_region_law (go_simp;go_at_call 149;refine (K1.get (HC.out.alloc _).drew).mono ?_;rintro e w1 ⟨rfl,hg1,hC1⟩;have x1 := ac_start hlt hltm hcB (R := []) (fun r hr => by cases hr) hg1 hC1 #[.int .i64 1,.int .i64 0,.slice none 0 0,.int .i64 0,.int .i64 0,.slice none 0 0,.int .i64 0,.int .i64 0,.slice none 0 0,.slice none 0 0];have hs1 : w.heap.size < w1.heap.size := x1.lo;have hn1 : w.heap.size ≠ w1.heap.size := (by omega);have hn2 : w1.heap.size ≠ w.heap.size := (by omega);have hB1 := past0 (heap_alloc_new w _) (by simp) ((grown_drew' _ (some bc)).trans hg1) (by simp;omega);have a0_1 := cell_of hB1 0 _ rfl;have a4_1 := cell_of hB1 4 _ rfl;have a5_1 := cell_of hB1 5 _ rfl;have a6_1 := cell_of hB1 6 _ rfl;have a7_1 := cell_of hB1 7 _ rfl)
 all_goals
  go_wp2_with (first | (go_at_call 157;refine (sn_ruleRel _ _).mono ?_;rintro e w' ⟨rfl,hww⟩;subst w') | (go_at_call 151;refine (K4.get y3_3.ck).mono ?_;rintro e w4 ⟨rfl,hg4,hC4⟩;have x4 := (y3_3.call0 hg4 hC4);have r4_4 := cell_of x4.hS 4 _ rfl;have z4_4 := frozen_of x4.hS 4;have y4_4 := x4.sf (cs' := #[.int .i64 1,.int .i64 (thFind g nm.s 4).pl,.slice va3 vm3 vc3,.int .i64 (rRel (srt rel)),.int .i64 (tval M),.slice none 0 0,.int .i64 0,.int .i64 0,.slice none 0 0,.slice none 0 0]) 4 (.int .i64 (tval M)) rfl) | (go_at_call 156;refine (K3.get y2_1.ck (hR.kept y2_1.gr (by simpa using Ne.symm hgc))).mono ?_;rintro e w3 ⟨v3,rfl,hown3,hg3,hC3⟩;obtain ⟨va3,vm3,vc3,rfl⟩ := own_slice hown3;have x3 := (y2_1.call0 hg3 hC3).add ⟨201,2,.slice va3 vm3 vc3,(l.map (fun t : GTerm => ((thFind g t.name.s 4).pl,facV t))).length,(l.map (fun t : GTerm => ((thFind g t.name.s 4).pl,facV t))).flatMap prCell⟩ (by show 201 ≠ 99;decide) (own_map (fun t : GTerm => ((thFind g t.name.s 4).pl,facV t)) (fun _ => rfl) hown3 (by have := y2_1.gr.size;omega));have a9_3 := cell_of x3.hA 9 _ rfl;have a11_3 := cell_of x3.hA 11 _ rfl;have r2_3 := cell_of x3.hS 2 _ rfl;have z2_3 := frozen_of x3.hS 2;have r3_3 := cell_of x3.hS 3 _ rfl;have z3_3 := frozen_of x3.hS 3;have y3_2 := x3.sf (cs' := #[.int .i64 1,.int .i64 (thFind g nm.s 4).pl,.slice va3 vm3 vc3,.int .i64 0,.int .i64 0,.slice none 0 0,.int .i64 0,.int .i64 0,.slice none 0 0,.slice none 0 0]) 2 (.slice va3 vm3 vc3) rfl;have y3_3 := y3_2.sf (cs' := #[.int .i64 1,.int .i64 (thFind g nm.s 4).pl,.slice va3 vm3 vc3,.int .i64 (rRel (srt rel)),.int .i64 0,.slice none 0 0,.int .i64 0,.int .i64 0,.slice none 0 0,.slice none 0 0]) 3 (.int .i64 (rRel (srt rel))) rfl;have q0_3 := (hU.kept x3.gr (by simpa using Ne.symm hgu)).row 0 _ rfl;have q1_3 := (hU.kept x3.gr (by simpa using Ne.symm hgu)).row 1 _ rfl;have q2_3 := (hU.kept x3.gr (by simpa using Ne.symm hgu)).row 2 _ rfl;have q3_3 := (hU.kept x3.gr (by simpa using Ne.symm hgu)).row 3 _ rfl;have hu3 : gru ≠ w1.heap.size := (by have := hU.lt;omega)) | (go_at_call 155;refine (K2.get x1.ck).mono ?_;rintro e w2 ⟨rfl,hg2,hC2⟩;have x2 := (x1.call0 hg2 hC2);have a10_2 := cell_of x2.hA 10 _ rfl;have r1_2 := cell_of x2.hS 1 _ rfl;have z1_2 := frozen_of x2.hS 1;have y2_1 := x2.sf (cs' := #[.int .i64 1,.int .i64 (thFind g nm.s 4).pl,.slice none 0 0,.int .i64 0,.int .i64 0,.slice none 0 0,.int .i64 0,.int .i64 0,.slice none 0 0,.slice none 0 0]) 1 (.int .i64 (thFind g nm.s 4).pl) rfl) | (go_at_call 154;refine (sn_ruleSort _ _).mono ?_;rw [HRS.out];rintro e w' ⟨rfl,hww⟩;subst w'))
  have xE := y4_4
  generalize (w4.setCell ⟨w1.heap.size,4,none⟩ (.int .i64 (tval M))) = wj at xE ⊢
  have m2 := xE.ck.c2
  have mf := xE.ck.f2
  have mlt := xE.ck.lt
  have c0 := cell_of xE.hS 0 _ rfl
  have c1 := cell_of xE.hS 1 _ rfl
  have c2 := cell_of xE.hS 2 _ rfl
  have c3 := cell_of xE.hS 3 _ rfl
  have c4 := cell_of xE.hS 4 _ rfl
  have c5 := cell_of xE.hS 5 _ rfl
  have c6 := cell_of xE.hS 6 _ rfl
  have c7 := cell_of xE.hS 7 _ rfl
  have c8 := cell_of xE.hS 8 _ rfl
  have c9 := cell_of xE.hS 9 _ rfl
  have blt := xE.lt
  have hoj := hoC.kept xE.gr (low_ne' hoC hcB)
  have HOWN := Kept.mk ((hoj.kept ((World.grownBy_alloc wj (.cells #[.int .i64 1,.int .i64 (thFind g nm.s 4).pl,.slice va3 vm3 vc3,.int .i64 (rRel (srt rel)),.int .i64 (tval M),.slice none 0 0,.int .i64 0,.int .i64 0,.slice none 0 0,.slice none 0 0] 99) none).trans (grown_drew' _ none)) (own_none _)))
  have HNEWS := Kept.mk (World.news_of_block (w := (wj.alloc (.cells #[.int .i64 1,.int .i64 (thFind g nm.s 4).pl,.slice va3 vm3 vc3,.int .i64 (rRel (srt rel)),.int .i64 (tval M),.slice none 0 0,.int .i64 0,.int .i64 0,.slice none 0 0,.slice none 0 0] 99)).drew) (cs := #[.int .i64 1,.int .i64 (thFind g nm.s 4).pl,.slice va3 vm3 vc3,.int .i64 (rRel (srt rel)),.int .i64 (tval M),.slice none 0 0,.int .i64 0,.int .i64 0,.slice none 0 0,.slice none 0 0]) (t := 99) (fr := (0,0)) (heap_alloc_new wj _))
  have KEEP : Hid (∀ wA,(wj.alloc (.cells #[.int .i64 1,.int .i64 (thFind g nm.s 4).pl,.slice va3 vm3 vc3,.int .i64 (rRel (srt rel)),.int .i64 (tval M),.slice none 0 0,.int .i64 0,.int .i64 0,.slice none 0 0,.slice none 0 0] 99)).drew.grownBy wA (Value.slice ca m cc).ownBlock → wA.frozen? ⟨bc,2,none⟩ = false ∧ wA.cell? ⟨bc,2,none⟩ = some (.slice ca m cc)) := fun wA hg => by
   have q := ((xE.ck.alloc _).drew).kept hg (low_ne hoC hcB) (low_ne hoC hmB)
   exact ⟨q.f2,q.c2⟩
  have hBj : B ≤ wj.heap.size := by have := xE.gr.size;omega
  go_region_law ((refine step_append_lies _ (by rfl) _ _ 74 (by rfl) B 99 i0 (.agg #[.int .i64 0,.int .i64 0,.slice none 0 0,.int .i64 0,.int .i64 0,.slice none 0 0,.int .i64 0,.int .i64 0,.slice none 0 0,.slice none 0 0]) 10 144 Tryz.underlying74 hi0 hz0 hz1 hz2 rfl (by decide) (.slice ca m cc) m xs (by rfl) HOWN.get ⟨wj.heap.size,0,none⟩ 1 1 [.int .i64 1,.int .i64 (thFind g nm.s 4).pl,.slice va3 vm3 vc3,.int .i64 (rRel (srt rel)),.int .i64 (tval M),.slice none 0 0,.int .i64 0,.int .i64 0,.slice none 0 0,.slice none 0 0] (by rfl) rfl HNEWS.get (con_one _ _ _ _ _ _ _ _ _ _ _ _ _ _ _ _ _ _) (by decide) (by unfold maxLen;omega) (by omega) (by simp;omega) _ rfl ?_;intro gA capA wA hownA hgrowA hatA hltA;obtain ⟨q1,q2⟩ := KEEP.out wA hgrowA))
  all_goals have R := con_end xE hcB hmB hoC ⟨⟨1,(thFind g nm.s 4).pl,l.map (fun t => ((thFind g t.name.s 4).pl,facV t)),rRel (srt rel),tval M,[],0,0,[],[]⟩,.slice va3 vm3 vc3,.slice none 0 0,.slice none 0 0,.slice none 0 0⟩ ⟨(xE.rw _ (List.mem_cons_self ..)).2,World.ownsRow_nil _ _ _ _,World.ownsRow_nil _ _ _ _,World.ownsRow_nil _ _ _ _⟩ hownA hgrowA
  all_goals clear HOWN HNEWS KEEP hownA hgrowA hatA hltA
  all_goals go_wp2
  all_goals go_end0
  all_goals exact R
end
section
set_option maxHeartbeats 8000000
set_option maxRecDepth 100000
open Go.RowKit
variable {w : World} {bc bm n : Nat} {g : ByteArray → Th} {vV vC : Value} {st : FSt}
theorem sn_con_at (B m : Nat) (xs : List Value) (ca : Option Addr) (cc : Nat) (h : CkS w bc bm n (fun s => thV (g s)) vV (.slice ca m cc) st) (hoC : w.ownsRow B 99 10 (.slice ca m cc) m xs) (hcB : bc < B) (hmB : bm < B) (hBw : B ≤ w.heap.size) (hm : m ≤ 3000) (hv : ThOk g) (kw nm rel P Q : PTok) (ln : List Int) (hln : w.ownsRow B 3 1 (thFind g nm.s 5).v ln.length (ln.flatMap inCell)) (numbers : List PTok) (terms : List GTerm) (lits : List GLit) (v1 vu vt vl : Value) (gr cap : Nat) (hR : RowIn w v1 gr cap tokCell [P,Q]) (hgc : gr ≠ bc) (hkN : TOk nm) (hkP : TOk P) (hkQ : TOk Q) (hk : rSort (srt kw) = 2) : Calls Tryz.prog 123 #[.pointer (some ⟨bc,0,none⟩),.agg (gsCells ⟨kw,nm,[P,Q],numbers,terms,rel,lits⟩ v1 vu vt vl)] w (ConPost w bc bm n B m g vV (.slice ca m cc) (flt ((g Q.s).so != 4) 4 Q.line (flt ((g P.s).so != 4) 4 P.line (flt ((g nm.s).so != 5) 4 nm.line (flt (decide ((16 : Int) ≤ m)) 6 kw.line st)))) xs ⟨2,0,[],0,0,ln,(thFind g P.s 4).pl,(thFind g Q.s 4).pl,[],[]⟩) := by
 obtain ⟨i0,hi0,hz0,hz1,hz2⟩ := info_parts infoCo
 have HC : Hid (CkS w bc bm n (fun s => thV (g s)) vV (.slice ca m cc) st) := h
 have hlt := h.lt
 have hltm := h.ltm
 have hc2 := h.c2
 have HRS : Hid (rSort (srt kw) = 2) := hk
 obtain ⟨vC,hvC⟩ : ∃ v,v = Value.slice ca m cc := ⟨_,rfl⟩
 have hfield := fun a b c d e W => (thing_field a b c d e W).2.2
 have hvF : ∃ a m c,(thFind g nm.s 5).v = .slice a m c := by
  unfold thFind;split
  ·exact hv _
  ·exact ⟨_,_,_,rfl⟩
 obtain ⟨fa,fm,fc,hvF⟩ := hvF
 obtain ⟨Fn,hFn⟩ : ∃ F,F = thFind g nm.s 5 := ⟨_,rfl⟩
 rw [← hFn] at hvF hln
 rw [hvF] at hln
 have HLN : Hid (∀ r ∈ [(⟨3,1,.slice fa fm fc,ln.length,ln.flatMap inCell⟩ : ORow)],r.e ≠ 99 ∧ w.ownsRow B r.e r.s r.v r.n r.xs) := fun r hr => by
  simp only [List.mem_cons,List.not_mem_nil,or_false] at hr;subst hr;exact ⟨by show 3 ≠ 99;decide,hln⟩
 clear hln
 obtain rfl := hR.is
 have K1 := Kept.mk (fun {W : World} (hW : CkS W bc bm n (fun s => thV (g s)) vV (.slice ca m cc) st) => sn_room hW kw m 16)
 generalize hS1 : flt (decide ((16 : Int) ≤ m)) 6 kw.line st = S1 at *
 have K2 := Kept.mk (fun {W : World} (hW : CkS W bc bm n (fun s => thV (g s)) vV (.slice ca m cc) S1) => sn_find hW nm hkN.1 5 (hv nm.s))
 rw [← hFn] at K2
 generalize hS2 : flt ((g nm.s).so != 5) 4 nm.line S1 = S2 at *
 have K3 := Kept.mk (fun {W : World} (hW : CkS W bc bm n (fun s => thV (g s)) vV (.slice ca m cc) S2) => sn_variable hW P hkP.1 hv)
 generalize hS3 : flt ((g P.s).so != 4) 4 P.line S2 = S3 at *
 have K4 := Kept.mk (fun {W : World} (hW : CkS W bc bm n (fun s => thV (g s)) vV (.slice ca m cc) S3) => sn_variable hW Q hkQ.1 hv)
 generalize hS4 : flt ((g Q.s).so != 4) 4 Q.line S3 = S4 at *
 unfold tkV at K1 K2 K3 K4
 unfold gsCells
 simp only
 clear h hk 
 go_enter Tryz.func123,Tryz.ntmps123
 go_wp2
 go_region_law (go_simp;go_at_call 149;refine (K1.get (HC.out.alloc _).drew).mono ?_;rintro e w1 ⟨rfl,hg1,hC1⟩;have x1 := ac_start hlt hltm hcB (R := [⟨3,1,.slice fa fm fc,ln.length,ln.flatMap inCell⟩]) HLN.out hg1 hC1 #[.int .i64 2,.int .i64 0,.slice none 0 0,.int .i64 0,.int .i64 0,.slice none 0 0,.int .i64 0,.int .i64 0,.slice none 0 0,.slice none 0 0];have hs1 : w.heap.size < w1.heap.size := x1.lo;have hn1 : w.heap.size ≠ w1.heap.size := (by omega);have hn2 : w1.heap.size ≠ w.heap.size := (by omega);have hB1 := past0 (heap_alloc_new w _) (by simp) ((grown_drew' _ (some bc)).trans hg1) (by simp;omega);have a0_1 := cell_of hB1 0 _ rfl;have a4_1 := cell_of hB1 4 _ rfl;have a5_1 := cell_of hB1 5 _ rfl;have a6_1 := cell_of hB1 6 _ rfl;have a7_1 := cell_of hB1 7 _ rfl)
 all_goals
  go_wp2_with (first | (go_at_call 159;refine (K4.get y3_6.ck).mono ?_;rintro e w4 ⟨rfl,hg4,hC4⟩;have x4 := (y3_6.call0 hg4 hC4);have r7_4 := cell_of x4.hS 7 _ rfl;have z7_4 := frozen_of x4.hS 7;have y4_7 := x4.sf (cs' := #[.int .i64 2,.int .i64 0,.slice none 0 0,.int .i64 0,.int .i64 0,.slice fa fm fc,.int .i64 (thFind g P.s 4).pl,.int .i64 (thFind g Q.s 4).pl,.slice none 0 0,.slice none 0 0]) 7 (.int .i64 (thFind g Q.s 4).pl) rfl) | (go_at_call 159;refine (K3.get y2_5.ck).mono ?_;rintro e w3 ⟨rfl,hg3,hC3⟩;have x3 := (y2_5.call0 hg3 hC3);have a8_3 := cell_of x3.hA 8 _ rfl;have r6_3 := cell_of x3.hS 6 _ rfl;have z6_3 := frozen_of x3.hS 6;have y3_6 := x3.sf (cs' := #[.int .i64 2,.int .i64 0,.slice none 0 0,.int .i64 0,.int .i64 0,.slice fa fm fc,.int .i64 (thFind g P.s 4).pl,.int .i64 0,.slice none 0 0,.slice none 0 0]) 6 (.int .i64 (thFind g P.s 4).pl) rfl;have q4_3 := (hR.kept x3.gr (by simpa using Ne.symm hgc)).row 4 _ rfl;have q5_3 := (hR.kept x3.gr (by simpa using Ne.symm hgc)).row 5 _ rfl;have q6_3 := (hR.kept x3.gr (by simpa using Ne.symm hgc)).row 6 _ rfl;have q7_3 := (hR.kept x3.gr (by simpa using Ne.symm hgc)).row 7 _ rfl) | (go_at_call 158;refine (K2.get x1.ck).mono ?_;simp only [show thV Fn = .agg #[.int .i64 Fn.so,.int .i64 Fn.pl,.int .i64 Fn.lo,.int .i64 Fn.hi,Fn.v] from rfl,hvF];rintro e w2 ⟨rfl,hg2,hC2⟩;have x2 := (x1.call0 hg2 hC2);have a8_2 := cell_of x2.hA 8 _ rfl;have r5_2 := cell_of x2.hS 5 _ rfl;have z5_2 := frozen_of x2.hS 5;have y2_5 := x2.sf (cs' := #[.int .i64 2,.int .i64 0,.slice none 0 0,.int .i64 0,.int .i64 0,.slice fa fm fc,.int .i64 0,.int .i64 0,.slice none 0 0,.slice none 0 0]) 5 (.slice fa fm fc) rfl;have q0_2 := (hR.kept x2.gr (by simpa using Ne.symm hgc)).row 0 _ rfl;have q1_2 := (hR.kept x2.gr (by simpa using Ne.symm hgc)).row 1 _ rfl;have q2_2 := (hR.kept x2.gr (by simpa using Ne.symm hgc)).row 2 _ rfl;have q3_2 := (hR.kept x2.gr (by simpa using Ne.symm hgc)).row 3 _ rfl;have q4_2 := (hR.kept x2.gr (by simpa using Ne.symm hgc)).row 4 _ rfl;have q5_2 := (hR.kept x2.gr (by simpa using Ne.symm hgc)).row 5 _ rfl;have q6_2 := (hR.kept x2.gr (by simpa using Ne.symm hgc)).row 6 _ rfl;have q7_2 := (hR.kept x2.gr (by simpa using Ne.symm hgc)).row 7 _ rfl;have hu2 : gr ≠ w1.heap.size := (by have := hR.lt;omega)) | (go_at_call 154;refine (sn_ruleSort _ _).mono ?_;rw [HRS.out];rintro e w' ⟨rfl,hww⟩;subst w'))
  have xE := y4_7
  generalize (w4.setCell ⟨w1.heap.size,7,none⟩ (.int .i64 (thFind g Q.s 4).pl)) = wj at xE ⊢
  have m2 := xE.ck.c2
  have mf := xE.ck.f2
  have mlt := xE.ck.lt
  have c0 := cell_of xE.hS 0 _ rfl
  have c1 := cell_of xE.hS 1 _ rfl
  have c2 := cell_of xE.hS 2 _ rfl
  have c3 := cell_of xE.hS 3 _ rfl
  have c4 := cell_of xE.hS 4 _ rfl
  have c5 := cell_of xE.hS 5 _ rfl
  have c6 := cell_of xE.hS 6 _ rfl
  have c7 := cell_of xE.hS 7 _ rfl
  have c8 := cell_of xE.hS 8 _ rfl
  have c9 := cell_of xE.hS 9 _ rfl
  have blt := xE.lt
  have hoj := hoC.kept xE.gr (low_ne' hoC hcB)
  have HOWN := Kept.mk ((hoj.kept ((World.grownBy_alloc wj (.cells #[.int .i64 2,.int .i64 0,.slice none 0 0,.int .i64 0,.int .i64 0,.slice fa fm fc,.int .i64 (thFind g P.s 4).pl,.int .i64 (thFind g Q.s 4).pl,.slice none 0 0,.slice none 0 0] 99) none).trans (grown_drew' _ none)) (own_none _)))
  have HNEWS := Kept.mk (World.news_of_block (w := (wj.alloc (.cells #[.int .i64 2,.int .i64 0,.slice none 0 0,.int .i64 0,.int .i64 0,.slice fa fm fc,.int .i64 (thFind g P.s 4).pl,.int .i64 (thFind g Q.s 4).pl,.slice none 0 0,.slice none 0 0] 99)).drew) (cs := #[.int .i64 2,.int .i64 0,.slice none 0 0,.int .i64 0,.int .i64 0,.slice fa fm fc,.int .i64 (thFind g P.s 4).pl,.int .i64 (thFind g Q.s 4).pl,.slice none 0 0,.slice none 0 0]) (t := 99) (fr := (0,0)) (heap_alloc_new wj _))
  have KEEP : Hid (∀ wA,(wj.alloc (.cells #[.int .i64 2,.int .i64 0,.slice none 0 0,.int .i64 0,.int .i64 0,.slice fa fm fc,.int .i64 (thFind g P.s 4).pl,.int .i64 (thFind g Q.s 4).pl,.slice none 0 0,.slice none 0 0] 99)).drew.grownBy wA (Value.slice ca m cc).ownBlock → wA.frozen? ⟨bc,2,none⟩ = false ∧ wA.cell? ⟨bc,2,none⟩ = some (.slice ca m cc)) := fun wA hg => by
   have q := ((xE.ck.alloc _).drew).kept hg (low_ne hoC hcB) (low_ne hoC hmB)
   exact ⟨q.f2,q.c2⟩
  have hBj : B ≤ wj.heap.size := by have := xE.gr.size;omega
  go_region_law ((refine step_append_lies _ (by rfl) _ _ 74 (by rfl) B 99 i0 (.agg #[.int .i64 0,.int .i64 0,.slice none 0 0,.int .i64 0,.int .i64 0,.slice none 0 0,.int .i64 0,.int .i64 0,.slice none 0 0,.slice none 0 0]) 10 144 Tryz.underlying74 hi0 hz0 hz1 hz2 rfl (by decide) (.slice ca m cc) m xs (by rfl) HOWN.get ⟨wj.heap.size,0,none⟩ 1 1 [.int .i64 2,.int .i64 0,.slice none 0 0,.int .i64 0,.int .i64 0,.slice fa fm fc,.int .i64 (thFind g P.s 4).pl,.int .i64 (thFind g Q.s 4).pl,.slice none 0 0,.slice none 0 0] (by rfl) rfl HNEWS.get (con_one _ _ _ _ _ _ _ _ _ _ _ _ _ _ _ _ _ _) (by decide) (by unfold maxLen;omega) (by omega) (by simp;omega) _ rfl ?_;intro gA capA wA hownA hgrowA hatA hltA;obtain ⟨q1,q2⟩ := KEEP.out wA hgrowA))
  all_goals have R := con_end xE hcB hmB hoC ⟨⟨2,0,[],0,0,ln,(thFind g P.s 4).pl,(thFind g Q.s 4).pl,[],[]⟩,.slice none 0 0,.slice fa fm fc,.slice none 0 0,.slice none 0 0⟩ ⟨World.ownsRow_nil _ _ _ _,(xE.rw _ (List.mem_cons_self ..)).2,World.ownsRow_nil _ _ _ _,World.ownsRow_nil _ _ _ _⟩ hownA hgrowA
  all_goals clear HOWN HNEWS KEEP hownA hgrowA hatA hltA
  all_goals go_wp2
  all_goals go_end0
  all_goals exact R
end
section
set_option maxHeartbeats 4000000
set_option maxRecDepth 100000
open Go.RowKit
variable {w : World} {bc : Nat}
theorem sn_statement (P : Ending → World → Prop) (HE : ∀ e w',P e w' → e = .returned (.tuple #[])) (s : GSt) (na : Option Addr) (nm nc : Nat) (ua : Option Addr) (um uc : Nat) (ta : Option Addr) (tm tc : Nat) (la : Option Addr) (lm lc : Nat) (h4 : srt s.kw = 4 → Calls Tryz.prog 121 #[.pointer (some ⟨bc,0,none⟩),.agg (gsCells s (.slice na nm nc) (.slice ua um uc) (.slice ta tm tc) (.slice la lm lc))] (w.alloc (.cells (gsCells s (.slice na nm nc) (.slice ua um uc) (.slice ta tm tc) (.slice la lm lc)) 137)) P) (h5 : srt s.kw = 5 → Calls Tryz.prog 122 #[.pointer (some ⟨bc,0,none⟩),.agg (gsCells s (.slice na nm nc) (.slice ua um uc) (.slice ta tm tc) (.slice la lm lc))] (w.alloc (.cells (gsCells s (.slice na nm nc) (.slice ua um uc) (.slice ta tm tc) (.slice la lm lc)) 137)) P) (h6 : srt s.kw ≠ 4 → srt s.kw ≠ 5 → Calls Tryz.prog 123 #[.pointer (some ⟨bc,0,none⟩),.agg (gsCells s (.slice na nm nc) (.slice ua um uc) (.slice ta tm tc) (.slice la lm lc))] (w.alloc (.cells (gsCells s (.slice na nm nc) (.slice ua um uc) (.slice ta tm tc) (.slice la lm lc)) 137)) P) : Calls Tryz.prog 70 #[.pointer (some ⟨bc,0,none⟩),.agg (gsCells s (.slice na nm nc) (.slice ua um uc) (.slice ta tm tc) (.slice la lm lc))] w P := by
 have HE' := Kept.mk HE
 by_cases c4 : srt s.kw = 4
 ·have K := Kept.mk (h4 c4)
  have e4 : (srt s.kw == 4) = true := by simpa using c4
  unfold gsCells at *
  clear h4 h5 h6 c4 HE
  go_enter Tryz.func70,Tryz.ntmps70
  go_wp2_with (go_at_call 121;refine K.get.mono ?_;intro e w1 hP;have hq := HE'.get e w1 hP;subst hq)
  go_end0
  exact hP
 ·have e4 : (srt s.kw == 4) = false := by simpa using c4
  by_cases c5 : srt s.kw = 5
  ·have K := Kept.mk (h5 c5)
   have e5 : (srt s.kw == 5) = true := by simpa using c5
   unfold gsCells at *
   clear h4 h5 h6 c4 c5 HE
   go_enter Tryz.func70,Tryz.ntmps70
   go_wp2_with (go_at_call 122;refine K.get.mono ?_;intro e w1 hP;have hq := HE'.get e w1 hP;subst hq)
   go_end0
   exact hP
  ·have K := Kept.mk (h6 c4 c5)
   have e5 : (srt s.kw == 5) = false := by simpa using c5
   unfold gsCells at *
   clear h4 h5 h6 c4 c5 HE
   go_enter Tryz.func70,Tryz.ntmps70
   go_wp2_with (go_at_call 123;refine K.get.mono ?_;intro e w1 hP;have hq := HE'.get e w1 hP;subst hq)
   go_end0
   exact hP
end
section
open Go.RowKit
structure QSt where
 g : ByteArray → Th
 vars : List QVar
 m : Nat
 st : FSt
 cons : List QCon
 ls : ByteArray → List Int
def eraseV (g : ByteArray → Th) : ByteArray → Th := fun s => { g s with v := .slice none 0 0 }
def truthSt (g : ByteArray → Th) (t : PTok) (st : FSt) : FSt := flt (noTruthT (thFind g t.s 4)) 7 t.line (flt ((g t.s).so != 4) 4 t.line st)
def qLinSt (g : ByteArray → Th) (s : GSt) (st : FSt) : FSt := match s.numbers with
 | [M] => flt (outB (tval M) 1000000) 5 M.line (foldSt (termStP g) 0 s.terms st)
 | _ => st
def conSt (g : ByteArray → Th) (s : GSt) (st : FSt) : FSt :=
 if srt s.kw = 7 then qLinSt g s (truthSt g s.name st)
 else if srt s.kw = 8 then (match s.names with
  | [P,Q] => flt ((g Q.s).so != 4) 4 Q.line (flt ((g P.s).so != 4) 4 P.line (flt ((g s.name.s).so != 5) 4 s.name.line st))
  | _ => st)
 else if srt s.kw = 9 then foldSt (varStP g) 0 s.names st
 else if srt s.kw = 10 then foldSt (litStP g) 0 s.lits st
 else qLinSt g s st
def putLs (ls : ByteArray → List Int) (s : ByteArray) (l : List Int) : ByteArray → List Int := fun s' => if s' = s then l else ls s'
def noCon : QCon := ⟨0,0,[],0,0,[],0,0,[],[]⟩
def conOf (g : ByteArray → Th) (ls : ByteArray → List Int) (s : GSt) : QCon :=
 if srt s.kw = 7 then (match s.numbers with
  | [M] => ⟨1,(thFind g s.name.s 4).pl,s.terms.map (fun t => ((thFind g t.name.s 4).pl,facV t)),rRel (srt s.rel),tval M,[],0,0,[],[]⟩
  | _ => noCon)
 else if srt s.kw = 8 then (match s.names with
  | [P,Q] => ⟨2,0,[],0,0,if (g s.name.s).so = 5 then ls s.name.s else [],(thFind g P.s 4).pl,(thFind g Q.s 4).pl,[],[]⟩
  | _ => noCon)
 else if srt s.kw = 9 then ⟨3,0,[],0,0,[],0,0,s.names.map (fun t => (thFind g t.s 4).pl),[]⟩
 else if srt s.kw = 10 then ⟨4,0,[],0,0,[],0,0,[],s.lits.map (fun t => ((thFind g t.name.s 4).pl,if srt t.first = 22 then 0 else 1))⟩
 else (match s.numbers with
  | [M] => ⟨0,0,s.terms.map (fun t => ((thFind g t.name.s 4).pl,facV t)),rRel (srt s.rel),tval M,[],0,0,[],[]⟩
  | _ => noCon)
def qStep (s : GSt) (q : QSt) : QSt :=
 if srt s.kw = 4 then (match s.numbers with
  | [lo,hi] => ⟨putTh q.g s.name.s ⟨4,q.vars.length,tval lo,tval hi,.slice none 0 0⟩,q.vars ++ [⟨s.name.s,tval lo,tval hi⟩],q.m,varDecl q.g q.vars.length s.name lo hi q.st,q.cons,putLs q.ls s.name.s []⟩
  | _ => q)
 else if srt s.kw = 5 then ⟨putTh q.g s.name.s ⟨5,0,0,0,.slice none 0 0⟩,q.vars,q.m,foldSt numStP 0 s.numbers (flt ((q.g s.name.s).so != 0) 4 s.name.line q.st),q.cons,putLs q.ls s.name.s (s.numbers.map tval)⟩
 else ⟨q.g,q.vars,q.m + 1,conSt q.g s (flt (decide ((16 : Int) ≤ q.m)) 6 s.kw.line q.st),q.cons ++ [conOf q.g q.ls s],q.ls⟩
def runQ : List GSt → QSt → QSt
 | [],q => q
 | s :: ss,q => if (qStep s q).st.1 = 0 then runQ ss (qStep s q) else qStep s q
def q0 : QSt := ⟨fun _ => noTh,[],0,(0,0),[],fun _ => []⟩
theorem er_find (g : ByteArray → Th) (s : ByteArray) (k : Int) : noTruthT (thFind (eraseV g) s k) = noTruthT (thFind g s k) := by
 unfold thFind eraseV noTruthT;simp only;split <;> rfl
theorem er_lit (g : ByteArray → Th) : litStP (eraseV g) = litStP g := by
 funext k t st;unfold litStP;rw [er_find];rfl
theorem er_put (g : ByteArray → Th) (s : ByteArray) (t : Th) : eraseV (putTh g s t) = putTh (eraseV g) s { t with v := .slice none 0 0 } := by
 funext s';unfold eraseV putTh;split <;> rfl
theorem er_con (g : ByteArray → Th) (s : GSt) (st : FSt) : conSt (eraseV g) s st = conSt g s st := by
 unfold conSt truthSt
 rw [er_find,er_lit]
 rfl
theorem er_pl (g : ByteArray → Th) (s : ByteArray) (k : Int) : (thFind (eraseV g) s k).pl = (thFind g s k).pl := by
 unfold thFind eraseV;simp only;split <;> rfl
theorem er_conOf (g : ByteArray → Th) (ls : ByteArray → List Int) (s : GSt) : conOf (eraseV g) ls s = conOf g ls s := by
 unfold conOf
 simp only [er_pl]
 rfl
structure StOk (s : GSt) : Prop where
 nm : TOk s.name
 nums : ∀ a ∈ s.numbers,TOk a
 names : ∀ a ∈ s.names,TOk a
 terms : ∀ a ∈ s.terms,TOk a.first ∧ TOk a.name
 lits : ∀ a ∈ s.lits,TOk a.first ∧ TOk a.name
 l1 : s.numbers.length ≤ 3000
 l2 : s.names.length ≤ 3000
 l3 : s.terms.length ≤ 3000
 l4 : s.lits.length ≤ 3000
 s4 : srt s.kw = 4 → ∃ lo hi,s.numbers = [lo,hi]
 s5 : srt s.kw = 5 → s.numbers ≠ []
 s6 : srt s.kw = 6 ∨ srt s.kw = 7 → s.terms ≠ [] ∧ ∃ M,s.numbers = [M]
 s8 : srt s.kw = 8 → ∃ P Q,s.names = [P,Q]
 s9 : srt s.kw = 9 → s.names ≠ []
 s10 : srt s.kw = 10 → s.lits ≠ []
 kwd : srt s.kw = 4 ∨ srt s.kw = 5 ∨ srt s.kw = 6 ∨ srt s.kw = 7 ∨ srt s.kw = 8 ∨ srt s.kw = 9 ∨ srt s.kw = 10
def RIn {α : Type} (w : World) (B bc bm : Nat) (v : Value) (cell : α → List Value) (l : List α) : Prop :=
 (∃ a m c,v = .slice a m c) ∧ (l ≠ [] → ∃ gr cap,RowIn w v gr cap cell l ∧ gr < B ∧ gr ≠ bc ∧ gr ≠ bm)
structure GIn (w : World) (B bc bm : Nat) (x : GRow) : Prop where
 n : RIn w B bc bm x.vn tokCell x.s.names
 u : RIn w B bc bm x.vu tokCell x.s.numbers
 t : RIn w B bc bm x.vt gtCell x.s.terms
 l : RIn w B bc bm x.vl glCell x.s.lits
structure Fr (B bc bm : Nat) (w w' : World) : Prop where
 os : w'.os = w.os
 tape : w'.tape = w.tape
 output : w'.output = w.output
 size : w.heap.size ≤ w'.heap.size
 block : ∀ i,i < B → i ≠ bc → i ≠ bm → w'.heap[i]? = w.heap[i]?
theorem Fr.trans {B bc bm : Nat} {a b c : World} (h : Fr B bc bm a b) (k : Fr B bc bm b c) : Fr B bc bm a c :=
 ⟨k.os.trans h.os,k.tape.trans h.tape,k.output.trans h.output,Nat.le_trans h.size k.size,fun i h1 h2 h3 => (k.block i h1 h2 h3).trans (h.block i h1 h2 h3)⟩
theorem Fr.alloc {B bc bm : Nat} {a b : World} (h : Fr B bc bm a b) (hB : B ≤ b.heap.size) (o : Obj) : Fr B bc bm a (b.alloc o) :=
 ⟨h.os,h.tape,h.output,by have := h.size;simp;omega,fun i h1 h2 h3 => (heap_alloc_old b o (by omega)).trans (h.block i h1 h2 h3)⟩
theorem Fr.refl (B bc bm : Nat) (w : World) : Fr B bc bm w w := ⟨rfl,rfl,rfl,Nat.le_refl _,fun _ _ _ _ => rfl⟩
theorem Fr.of_but {B bc bm : Nat} {S : List Nat} {a b : World} (h : But S a b) (hB : B ≤ a.heap.size) (hS : ∀ k ∈ S,k = bc ∨ k = bm ∨ B ≤ k) : Fr B bc bm a b :=
 ⟨h.os,h.tape,h.output,h.size,fun i h1 h2 h3 => h.block i (by omega) (fun q => by rcases hS i q with e | e | e;exact h2 e;exact h3 e;omega)⟩
theorem RIn.fr {α : Type} {w w' : World} {B bc bm : Nat} {v : Value} {cell : α → List Value} {l : List α} (h : RIn w B bc bm v cell l) (hf : Fr B bc bm w w') : RIn w' B bc bm v cell l :=
 ⟨h.1,fun hl => by
  obtain ⟨gr,cap,hr,h1,h2,h3⟩ := h.2 hl
  exact ⟨gr,cap,⟨hr.is,fun j u hu => (World.cell?_of_block (a := ⟨gr,j,none⟩) (hf.block gr h1 h2 h3)).trans (hr.row j u hu),Nat.lt_of_lt_of_le hr.lt hf.size⟩,h1,h2,h3⟩⟩
theorem GIn.fr {w w' : World} {B bc bm : Nat} {x : GRow} (h : GIn w B bc bm x) (hf : Fr B bc bm w w') : GIn w' B bc bm x := ⟨h.n.fr hf,h.u.fr hf,h.t.fr hf,h.l.fr hf⟩
structure SenC (w : World) (B : Nat) (g : ByteArray → Th) (cons : List QCon) (ls : ByteArray → List Int) (cs : List CRow) : Prop where
 row : cs.map (·.c) = cons
 at_ : ∀ x ∈ cs,CAt w B x
 ls : ∀ s,w.ownsRow B 3 1 (g s).v (ls s).length ((ls s).flatMap inCell)
theorem SenC.but {w w' : World} {B : Nat} {g : ByteArray → Th} {cons : List QCon} {ls : ByteArray → List Int} {cs : List CRow} {S : List Nat} (h : SenC w B g cons ls cs) (hb : But S w w') (hS : ∀ k,k ∈ S → k < B ∨ ∃ c e,w.heap[k]? = some (.cells c e (0,0)) ∧ (e = 99 ∨ e = 78)) : SenC w' B g cons ls cs :=
 ⟨h.row,fun x hx => (h.at_ x hx).but hb hS,fun s => (CAt.but (x := ⟨⟨0,0,[],0,0,ls s,0,0,[],[]⟩,.slice none 0 0,(g s).v,.slice none 0 0,.slice none 0 0⟩) ⟨World.ownsRow_nil _ _ _ _,h.ls s,World.ownsRow_nil _ _ _ _,World.ownsRow_nil _ _ _ _⟩ hb hS).l⟩
theorem SenC.grown {w w' : World} {B : Nat} {g : ByteArray → Th} {cons : List QCon} {ls : ByteArray → List Int} {cs : List CRow} (h : SenC w B g cons ls cs) (hg : w.grownBy w' none) : SenC w' B g cons ls cs :=
 h.but (S := []) ((But.refl [] w).grown hg (fun k e => by cases e)) (fun k hk => by cases hk)
theorem SenC.alloc {w : World} {B : Nat} {g : ByteArray → Th} {cons : List QCon} {ls : ByteArray → List Int} {cs : List CRow} (h : SenC w B g cons ls cs) (o : Obj) : SenC (w.alloc o) B g cons ls cs := h.grown (World.grownBy_alloc w o none)
def Sen (w : World) (bc bm B k : Nat) (q : QSt) : Prop :=
 ∃ (n : Nat) (g : ByteArray → Th) (vV vC : Value) (cs : List CRow),CkS w bc bm n (fun s => thV (g s)) vV vC q.st ∧ eraseV g = q.g ∧ ThOk g ∧ w.ownsRow B 78 3 vV q.vars.length (q.vars.flatMap qvCell) ∧ w.ownsRow B 99 10 vC q.m (cs.flatMap CRow.cells) ∧ SenC w B g q.cons q.ls cs ∧
  n ≤ k ∧ q.vars.length ≤ k ∧ q.m ≤ k ∧ bc < B ∧ bm < B ∧ B ≤ w.heap.size
theorem own_slice_n {w : World} {B n s : Nat} {e : TypeId} {v : Value} {xs : List Value} (h : w.ownsRow B e s v n xs) : ∃ a c,v = .slice a n c := by
 rcases h.2 with ⟨h,h0⟩ | ⟨g,cap,cur,h,_⟩
 ·exact ⟨none,0,by rw [h,h0]⟩
 ·exact ⟨_,_,h⟩
theorem ThOk.put {g : ByteArray → Th} (h : ThOk g) (s : ByteArray) (t : Th) (ht : ∃ a m c,t.v = .slice a m c) : ThOk (putTh g s t) := fun s' => by
 unfold putTh;split
 ·exact ht
 ·exact h s'
end
section
set_option maxHeartbeats 4000000
open Go.RowKit
theorem own_blk {w : World} {B e s n b : Nat} {v : Value} {xs : List Value} (h : w.ownsRow B e s v n xs) (hb : v.ownBlock = some b) : ∃ cur,w.heap[b]? = some (.cells cur e (0,0)) := by
 rcases h.2 with ⟨h,_⟩ | ⟨g,cap,cur,h,_,h3,_⟩
 ·rw [h] at hb;cases hb
 ·rw [h] at hb
  have : g = b := Option.some.inj hb
  subst this
  exact ⟨cur,h3⟩
theorem ownBut {w w' : World} {B e s n : Nat} {v : Value} {xs : List Value} {S : List Nat} (h : w.ownsRow B e s v n xs) (hb : But S w w') (hn : ∀ b,v.ownBlock = some b → b ∉ S) : w'.ownsRow B e s v n xs := by
 refine ⟨h.1,?_⟩
 rcases h.2 with h2 | ⟨g,cap,cur,h1,hB,h3,h4⟩
 ·exact .inl h2
 ·refine .inr ⟨g,cap,cur,h1,hB,?_,h4⟩
  rw [hb.block g (Array.getElem?_eq_some_iff.1 h3).1 (hn g (by rw [h1];rfl))]
  exact h3
theorem out_of {w : World} {B e e' s s' n n' bc bm : Nat} {v v' : Value} {xs xs' : List Value} (h : w.ownsRow B e s v n xs) (h' : w.ownsRow B e' s' v' n' xs') (he : e ≠ e') (hc : bc < B) (hm : bm < B) (b : Nat) (hb : v.ownBlock = some b) : b ∉ [bc,bm] ++ v'.ownBlock.toList := by
 have hB := (h.lt b hb).1
 obtain ⟨cur,h3⟩ := own_blk h hb
 intro q
 rcases List.mem_append.1 q with q | q
 ·simp at q;omega
 ·have q2 : v'.ownBlock = some b := by simpa using q
  obtain ⟨cur',h3'⟩ := own_blk h' q2
  rw [h3] at h3'
  cases h3'
  exact he rfl
theorem out_of1 {w : World} {B e s n bc bm : Nat} {v : Value} {xs : List Value} (h : w.ownsRow B e s v n xs) (hc : bc < B) (hm : bm < B) (b : Nat) (hb : v.ownBlock = some b) : b ∉ [bc,bm] := by
 have hB := (h.lt b hb).1
 intro q;simp at q;omega
theorem in_B {w : World} {B e s n bc bm : Nat} {v : Value} {xs : List Value} (h : w.ownsRow B e s v n xs) : ∀ k ∈ [bc,bm] ++ v.ownBlock.toList,k = bc ∨ k = bm ∨ B ≤ k := by
 intro k hk
 rcases List.mem_append.1 hk with q | q
 ·simp at q;rcases q with q | q
  ·exact .inl q
  ·exact .inr (.inl q)
 ·exact .inr (.inr ((h.lt k (by simpa using q)).1))
theorem in_ty {w : World} {B e s n bc bm : Nat} {v : Value} {xs : List Value} (h : w.ownsRow B e s v n xs) (he : e = 99 ∨ e = 78) (hc : bc < B) (hm : bm < B) : ∀ k,k ∈ [bc,bm] ++ v.ownBlock.toList → k < B ∨ ∃ c e,w.heap[k]? = some (.cells c e (0,0)) ∧ (e = 99 ∨ e = 78) := by
 intro k hk
 rcases List.mem_append.1 hk with q | q
 ·simp at q;exact .inl (by omega)
 ·obtain ⟨cur,h3⟩ := own_blk h (by simpa using q)
  exact .inr ⟨cur,e,h3,he⟩
theorem ConPost.done {w W : World} {bc bm n B m k : Nat} {g : ByteArray → Th} {vV vC : Value} {vars : List QVar} {S : FSt} {cs : List CRow} {cons : List QCon} {ls : ByteArray → List Int} {C : QCon} {e : Ending} {w' : World} (hf : Fr B bc bm w W) (h : ConPost W bc bm n B m g vV vC S (cs.flatMap CRow.cells) C e w') (hv : ThOk g) (hoV : W.ownsRow B 78 3 vV vars.length (vars.flatMap qvCell)) (hoC : W.ownsRow B 99 10 vC m (cs.flatMap CRow.cells)) (hD : SenC W B g cons ls cs) (h1 : n ≤ k) (h2 : vars.length ≤ k) (h3 : m ≤ k) (hc : bc < B) (hm : bm < B) (hB : B ≤ W.heap.size) : e = .returned (.tuple #[]) ∧ Sen w' bc bm B (k + 1) ⟨eraseV g,vars,m + 1,S,cons ++ [C],ls⟩ ∧ Fr B bc bm w w' := by
 obtain ⟨rfl,v,x,rfl,hx,hown,hbut,hC⟩ := h
 have hbut' : But ([bc,bm] ++ vC.ownBlock.toList) W w' := hbut.mono (fun k hk => by
  rcases List.mem_append.1 hk with q | q
  ·simp only [List.mem_cons,List.not_mem_nil,or_false] at q
   exact List.mem_append.2 (.inl (by simp [q]))
  ·exact List.mem_append.2 (.inr q))
 have fr := Fr.of_but (bc := bc) (bm := bm) hbut' hB (in_B hoC)
 have hD' := hD.but hbut' (in_ty hoC (.inl rfl) hc hm)
 refine ⟨rfl,⟨n,g,vV,v,cs ++ [x],hC,rfl,hv,ownBut hoV hbut' (out_of hoV hoC (by decide) hc hm),?_,⟨by rw [List.map_append,hD'.row];rfl,fun y hy => ?_,hD'.ls⟩,by omega,by simp only;omega,by simp only;omega,hc,hm,?_⟩,hf.trans fr⟩
 ·rw [List.flatMap_append];simpa using hown
 ·rcases List.mem_append.1 hy with q | q
  ·exact hD'.at_ y q
  ·simp only [List.mem_cons,List.not_mem_nil,or_false] at q;subst q;exact hx
 ·have := fr.size;omega
theorem find_ls {w : World} {B : Nat} {g : ByteArray → Th} {cons : List QCon} {ls : ByteArray → List Int} {cs : List CRow} (h : SenC w B g cons ls cs) (s : ByteArray) : w.ownsRow B 3 1 (thFind g s 5).v (if (g s).so = 5 then ls s else []).length ((if (g s).so = 5 then ls s else []).flatMap inCell) := by
 unfold thFind
 split
 ·exact h.ls s
 ·exact World.ownsRow_nil _ _ _ _
theorem SenC.put {w : World} {B : Nat} {g : ByteArray → Th} {cons : List QCon} {ls : ByteArray → List Int} {cs : List CRow} (h : SenC w B g cons ls cs) (s : ByteArray) {t : Th} {l : List Int} (hl : w.ownsRow B 3 1 t.v l.length (l.flatMap inCell)) : SenC w B (putTh g s t) cons (putLs ls s l) cs :=
 ⟨h.row,h.at_,fun s' => by
  unfold putTh putLs
  split
  ·exact hl
  ·exact h.ls s'⟩
theorem sn_one {w : World} {bc bm B k : Nat} {q : QSt} (h : Sen w bc bm B k q) (hk : k ≤ 2500) (x : GRow) (hx : GIn w B bc bm x) (ho : StOk x.s) : Calls Tryz.prog 70 #[.pointer (some ⟨bc,0,none⟩),.agg (gsCells x.s x.vn x.vu x.vt x.vl)] w fun e w' => e = .returned (.tuple #[]) ∧ Sen w' bc bm B (k + 1) (qStep x.s q) ∧ Fr B bc bm w w' := by
 obtain ⟨n,g,vV,vC,cs,hC,eg,hv,hoV,hoC,hD,b1,b2,b3,hc,hm,hB⟩ := h
 obtain ⟨qg,vars,m,st,cons,ls⟩ := q
 obtain ⟨⟨kw,nm,names,numbers,terms,rel,lits⟩,vn,vu,vt,vl⟩ := x
 obtain ⟨iN,iU,iT,iL⟩ := hx
 obtain ⟨okN,okU,okn,okT,okL,l1,l2,l3,l4,s4,s5,s6,s8,s9,s10,kwd⟩ := ho
 simp only at *
 subst eg
 obtain ⟨na,nm',nc,rfl⟩ := iN.1
 obtain ⟨ua,um,uc,rfl⟩ := iU.1
 obtain ⟨ta,tm,tc,rfl⟩ := iT.1
 obtain ⟨la,lm,lc,rfl⟩ := iL.1
 have hfr : ∀ o,Fr B bc bm w (w.alloc o) := fun o => (Fr.refl B bc bm w).alloc hB o
 have hB' : ∀ o,B ≤ (w.alloc o).heap.size := fun o => by simp;omega
 refine sn_statement _ (fun e w' hP => hP.1) ⟨kw,nm,names,numbers,terms,rel,lits⟩ na nm' nc ua um uc ta tm tc la lm lc ?_ ?_ ?_
 ·intro h4
  simp only at h4
  obtain ⟨lo,hi,rfl⟩ := s4 h4
  obtain ⟨gr,cap,hR,g1,g2,g3⟩ := iU.2 (by simp)
  obtain ⟨va,vc,rfl⟩ := own_slice_n hoV
  refine (sn_var B vars va vc (hC.alloc _) kw nm lo hi rel names terms lits _ _ _ _ gr cap (hR.kept (World.grownBy_alloc w _ none) (by simp)) g2 g3 g1 hc hm (hB' _) (hoV.alloc _) (by omega) okN (okU lo (by simp)) (okU hi (by simp)) (by omega) rfl rfl rfl).mono ?_
  rintro e w' ⟨rfl,v,hoV',hbut,hC'⟩
  have fr := Fr.of_but (bc := bc) (bm := bm) hbut (hB' _) (in_B hoV)
  have eq : qStep ⟨kw,nm,names,[lo,hi],terms,rel,lits⟩ ⟨eraseV g,vars,m,st,cons,ls⟩ = ⟨eraseV (putTh g nm.s ⟨4,vars.length,tval lo,tval hi,.slice none 0 0⟩),vars ++ [⟨nm.s,tval lo,tval hi⟩],m,varDecl g vars.length nm lo hi st,cons,putLs ls nm.s []⟩ := by
   unfold qStep;rw [if_pos h4,er_put];rfl
  rw [eq]
  refine ⟨rfl,⟨n + 1,_,v,vC,cs,hC',rfl,hv.put _ _ ⟨_,_,_,rfl⟩,?_,ownBut (hoC.alloc _) hbut (out_of hoC hoV (by decide) hc hm),((hD.alloc _).but hbut (in_ty (hoV.alloc _) (.inr rfl) hc hm)).put nm.s (World.ownsRow_nil _ _ _ _),by omega,by simp;omega,by simp only;omega,hc,hm,?_⟩,(hfr _).trans fr⟩
  ·rw [List.flatMap_append];simpa using hoV'
  ·have := fr.size;have := hB' (.cells (gsCells ⟨kw,nm,names,[lo,hi],terms,rel,lits⟩ (.slice na nm' nc) (.slice ua um uc) (.slice ta tm tc) (.slice la lm lc)) 137);omega
 ·intro h5
  simp only at h5
  obtain ⟨gr,cap,hR,g1,g2,g3⟩ := iU.2 (s5 h5)
  refine (sn_list (hC.alloc _) ⟨kw,nm,names,numbers,terms,rel,lits⟩ _ _ _ _ gr cap (hR.kept (World.grownBy_alloc w _ none) (by simp)) g2 g3 l1 okU okN (by omega) rfl rfl rfl).mono ?_
  rintro e w' ⟨rfl,v,hov,hbut,hC'⟩
  have fr := Fr.of_but (bc := bc) (bm := bm) hbut (hB' _) (fun k hk => by simp at hk;rcases hk with e | e;exact .inl e;exact .inr (.inl e))
  have eq : qStep ⟨kw,nm,names,numbers,terms,rel,lits⟩ ⟨eraseV g,vars,m,st,cons,ls⟩ = ⟨eraseV (putTh g nm.s ⟨5,0,0,0,v⟩),vars,m,foldSt numStP 0 numbers (flt ((g nm.s).so != 0) 4 nm.line st),cons,putLs ls nm.s (numbers.map tval)⟩ := by
   unfold qStep;rw [if_neg (by simp only;omega),if_pos h5,er_put];rfl
  rw [eq]
  refine ⟨rfl,⟨n + 1,_,vV,vC,cs,hC',rfl,hv.put _ _ (own_slice hov),ownBut (hoV.alloc _) hbut (out_of1 hoV hc hm),ownBut (hoC.alloc _) hbut (out_of1 hoC hc hm),((hD.alloc _).but hbut (fun k hk => .inl (by simp at hk;omega))).put nm.s (own_map tval (fun _ => rfl) hov (hB' _)),by omega,by simp only;omega,by simp only;omega,hc,hm,?_⟩,(hfr _).trans fr⟩
  have := fr.size;have := hB' (.cells (gsCells ⟨kw,nm,names,numbers,terms,rel,lits⟩ (.slice na nm' nc) (.slice ua um uc) (.slice ta tm tc) (.slice la lm lc)) 137);omega
 ·intro n4 n5
  simp only at n4 n5
  obtain ⟨ca,cc,rfl⟩ := own_slice_n hoC
  have eq : qStep ⟨kw,nm,names,numbers,terms,rel,lits⟩ ⟨eraseV g,vars,m,st,cons,ls⟩ = ⟨eraseV g,vars,m + 1,conSt g ⟨kw,nm,names,numbers,terms,rel,lits⟩ (flt (decide ((16 : Int) ≤ m)) 6 kw.line st),cons ++ [conOf g ls ⟨kw,nm,names,numbers,terms,rel,lits⟩],ls⟩ := by
   unfold qStep;rw [if_neg n4,if_neg n5,er_con,er_conOf]
  rw [eq]
  have done := fun {S : FSt} {C : QCon} {e : Ending} {w' : World} {o : Obj} (hp : ConPost (w.alloc o) bc bm n B m g vV (.slice ca m cc) S (cs.flatMap CRow.cells) C e w') => ConPost.done (hfr o) hp hv (hoV.alloc o) (hoC.alloc o) (hD.alloc o) b1 b2 b3 hc hm (hB' o)
  have rk : ∀ {α : Type} {v : Value} {gr cap : Nat} {cell : α → List Value} {l : List α} {o : Obj},RowIn w v gr cap cell l → RowIn (w.alloc o) v gr cap cell l := fun {α v gr cap cell l o} hr => hr.kept (World.grownBy_alloc w o none) (by simp)
  rcases kwd with e | e | e | e | e | e | e
  ·exact absurd e n4
  ·exact absurd e n5
  ·obtain ⟨hT,M,rfl⟩ := s6 (.inl e)
   obtain ⟨gr,cap,hR,g1,g2,g3⟩ := iT.2 hT
   obtain ⟨gu,cu,hU,u1,u2,u3⟩ := iU.2 (by simp)
   refine (sn_con_lin B m _ ca cc (hC.alloc _) (hoC.alloc _) hc hm (hB' _) (by omega) hv kw nm rel M names terms lits _ _ _ _ gr cap gu cu (rk hR) g2 (rk hU) u2 l3 okT okN (okU M (by simp)) (by simp [rSort,e])).mono ?_
   intro e' w' hp
   have q := done hp
   have e2 : conSt g ⟨kw,nm,names,[M],terms,rel,lits⟩ (flt (decide ((16 : Int) ≤ m)) 6 kw.line st) = flt (outB (tval M) 1000000) 5 M.line (foldSt (termStP g) 0 terms (flt (decide ((16 : Int) ≤ m)) 6 kw.line st)) := by simp [conSt,qLinSt,e]
   have e3 : conOf g ls ⟨kw,nm,names,[M],terms,rel,lits⟩ = ⟨0,0,terms.map (fun t => ((thFind g t.name.s 4).pl,facV t)),rRel (srt rel),tval M,[],0,0,[],[]⟩ := by simp [conOf,e]
   rw [e2,e3]
   exact q
  ·obtain ⟨hT,M,rfl⟩ := s6 (.inr e)
   obtain ⟨gr,cap,hR,g1,g2,g3⟩ := iT.2 hT
   obtain ⟨gu,cu,hU,u1,u2,u3⟩ := iU.2 (by simp)
   refine (sn_con_when B m _ ca cc (hC.alloc _) (hoC.alloc _) hc hm (hB' _) (by omega) hv kw nm rel M names terms lits _ _ _ _ gr cap gu cu (rk hR) g2 (rk hU) u2 l3 okT okN (okU M (by simp)) (by simp [rSort,e])).mono ?_
   intro e' w' hp
   have q := done hp
   have e2 : conSt g ⟨kw,nm,names,[M],terms,rel,lits⟩ (flt (decide ((16 : Int) ≤ m)) 6 kw.line st) = flt (outB (tval M) 1000000) 5 M.line (foldSt (termStP g) 0 terms (flt (noTruthT (thFind g nm.s 4)) 7 nm.line (flt ((g nm.s).so != 4) 4 nm.line (flt (decide ((16 : Int) ≤ m)) 6 kw.line st)))) := by simp [conSt,qLinSt,truthSt,e]
   have e3 : conOf g ls ⟨kw,nm,names,[M],terms,rel,lits⟩ = ⟨1,(thFind g nm.s 4).pl,terms.map (fun t => ((thFind g t.name.s 4).pl,facV t)),rRel (srt rel),tval M,[],0,0,[],[]⟩ := by simp [conOf,e]
   rw [e2,e3]
   exact q
  ·obtain ⟨P,Q,rfl⟩ := s8 e
   obtain ⟨gr,cap,hR,g1,g2,g3⟩ := iN.2 (by simp)
   refine (sn_con_at B m _ ca cc (hC.alloc _) (hoC.alloc _) hc hm (hB' _) (by omega) hv kw nm rel P Q _ (find_ls (hD.alloc _) nm.s) numbers terms lits _ _ _ _ gr cap (rk hR) g2 okN (okn P (by simp)) (okn Q (by simp)) (by simp [rSort,e])).mono ?_
   intro e' w' hp
   have q := done hp
   have e2 : conSt g ⟨kw,nm,[P,Q],numbers,terms,rel,lits⟩ (flt (decide ((16 : Int) ≤ m)) 6 kw.line st) = flt ((g Q.s).so != 4) 4 Q.line (flt ((g P.s).so != 4) 4 P.line (flt ((g nm.s).so != 5) 4 nm.line (flt (decide ((16 : Int) ≤ m)) 6 kw.line st))) := by simp [conSt,e]
   have e3 : conOf g ls ⟨kw,nm,[P,Q],numbers,terms,rel,lits⟩ = ⟨2,0,[],0,0,if (g nm.s).so = 5 then ls nm.s else [],(thFind g P.s 4).pl,(thFind g Q.s 4).pl,[],[]⟩ := by simp [conOf,e]
   rw [e2,e3]
   exact q
  ·obtain ⟨gr,cap,hR,g1,g2,g3⟩ := iN.2 (s9 e)
   refine (sn_con_diff B m _ ca cc (hC.alloc _) (hoC.alloc _) hc hm (hB' _) (by omega) hv kw nm rel names numbers terms lits _ _ _ _ gr cap (rk hR) g2 l2 okn (by simp [rSort,e])).mono ?_
   intro e' w' hp
   have q := done hp
   have e2 : conSt g ⟨kw,nm,names,numbers,terms,rel,lits⟩ (flt (decide ((16 : Int) ≤ m)) 6 kw.line st) = foldSt (varStP g) 0 names (flt (decide ((16 : Int) ≤ m)) 6 kw.line st) := by simp [conSt,e]
   have e3 : conOf g ls ⟨kw,nm,names,numbers,terms,rel,lits⟩ = ⟨3,0,[],0,0,[],0,0,names.map (fun t => (thFind g t.s 4).pl),[]⟩ := by simp [conOf,e]
   rw [e2,e3]
   exact q
  ·obtain ⟨gr,cap,hR,g1,g2,g3⟩ := iL.2 (s10 e)
   refine (sn_con_or B m _ ca cc (hC.alloc _) (hoC.alloc _) hc hm (hB' _) (by omega) hv kw nm rel names numbers terms lits _ _ _ _ gr cap (rk hR) g2 l4 okL (by simp [rSort,e])).mono ?_
   intro e' w' hp
   have q := done hp
   have e2 : conSt g ⟨kw,nm,names,numbers,terms,rel,lits⟩ (flt (decide ((16 : Int) ≤ m)) 6 kw.line st) = foldSt (litStP g) 0 lits (flt (decide ((16 : Int) ≤ m)) 6 kw.line st) := by simp [conSt,e]
   have e3 : conOf g ls ⟨kw,nm,names,numbers,terms,rel,lits⟩ = ⟨4,0,[],0,0,[],0,0,[],lits.map (fun t => ((thFind g t.name.s 4).pl,if srt t.first = 22 then 0 else 1))⟩ := by simp [conOf,e]
   rw [e2,e3]
   exact q
end
section
def progToks (s : ByteArray) : List PTok := (lex s).2.1 ++ [endTok (lex s).2.2]
theorem srt_end (l : Nat) : srt (endTok l) = 1 := by simp [srt,endTok]
theorem lexFLen (s : ByteArray) (f : Nat) : ∀ (i line : Nat) (acc : List PTok),(lexF s f i line acc).2.1.length ≤ acc.length + f := by
 induction f with
 | zero => intro i line acc;simp [lexF]
 | succ f ih =>
  intro i line acc
  simp only [lexF]
  split
  ·split
   ·have := ih (i + 1) (line + 1) acc;omega
   ·split
    ·have := ih (i + 1) line acc;omega
    ·split
     ·have := ih (runTo notNl s i) line acc;omega
     ·split
      ·simp
      ·have := ih (tokAt s i).1 line (acc ++ [⟨s.extract i (tokAt s i).1,(tokAt s i).2,line⟩]);simp at this;omega
  ·simp
theorem prog_len (s : ByteArray) (hs : s.size ≤ 2000) : (progToks s).length ≤ 2001 := by
 have := lexFLen s s.size 0 1 []
 unfold progToks
 show ((lexF s s.size 0 1 []).2.1 ++ _).length ≤ 2001
 simp at this ⊢;omega
theorem tkN_last (l : List PTok) (t : PTok) : tkN (l ++ [t]) ((l ++ [t]).length - 1) = t := by
 unfold tkN;simp
theorem prog_end (s : ByteArray) (hs : s.size ≤ 2000) : EndOk (progToks s) :=
 ⟨by simp [progToks],by unfold progToks;rw [tkN_last];exact srt_end _,prog_len s hs⟩
theorem lexF_size (s : ByteArray) (f : Nat) : ∀ (i line : Nat) (acc : List PTok),(∀ t ∈ acc,t.s.size ≤ s.size) → ∀ t ∈ (lexF s f i line acc).2.1,t.s.size ≤ s.size := by
 induction f with
 | zero => intro i line acc h;exact h
 | succ f ih =>
  intro i line acc h
  simp only [lexF]
  split
  ·rename_i hi
   split
   ·exact ih _ _ _ h
   ·split
    ·exact ih _ _ _ h
    ·split
     ·exact ih _ _ _ h
     ·split
      ·intro t ht;simp at ht
      ·rename_i hne
       refine ih _ _ _ (fun t ht => ?_)
       rcases List.mem_append.1 ht with ht | ht
       ·exact h t ht
       ·obtain rfl : t = ⟨s.extract i (tokAt s i).1,(tokAt s i).2,line⟩ := by simpa using ht
        have h1 := tokAtSize s i hi
        have h2 := tokAt_end s i hne
        show (s.extract i (tokAt s i).1).size ≤ s.size
        rw [size_ext s i _ (by omega) h1];omega
  ·exact h
theorem tval_bd {t : PTok} (h : t.kind = 105 → IsInt t.s) : -9999999999 ≤ tval t ∧ tval t ≤ 9999999999 := by
 unfold tval
 split
 ·rename_i hk
  have := numTo_lt t.s (h hk) t.s.size (Nat.le_refl _)
  unfold intVal
  split <;> omega
 ·omega
theorem tok_ok (s : ByteArray) (hs : s.size ≤ 2000) (i : Nat) : TOk (tkN (progToks s) i) := by
 have key : ∀ t ∈ progToks s,TOk t := fun t ht => by
  rcases List.mem_append.1 ht with ht | ht
  ·refine ⟨?_,tval_bd (lex_int s t ht)⟩
   have := lexF_size s s.size 0 1 [] (fun t ht => by simp at ht) t ht
   omega
  ·obtain rfl : t = endTok (lex s).2.2 := by simpa using ht
   exact ⟨by show ByteArray.empty.size ≤ 2000;decide,by simp [tval,endTok],by simp [tval,endTok]⟩
 unfold tkN
 rcases Nat.lt_or_ge i (progToks s).length with h | h
 ·rw [List.getD_eq_getElem?_getD,List.getElem?_eq_getElem h]
  exact key _ (List.getElem_mem h)
 ·rw [List.getD_eq_getElem?_getD,List.getElem?_eq_none h]
  exact ⟨by show ByteArray.empty.size ≤ 2000;decide,by simp [tval,zeroTok],by simp [tval,zeroTok]⟩
end
end Go.Proofs.YthpcbbnabnlanaaGreatDoor
