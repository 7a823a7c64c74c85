import Derived.Test.YthpcbbnabnlanaaGreatDoorM07
import Derived.Test.YthpcbbnabnlanaaGreatDoorM08
import Derived.Deep.Onto
namespace Go.Proofs.YthpcbbnabnlanaaGreatDoor
open Go.RowKit
set_option linter.unusedVariables false
set_option linter.unusedSimpArgs false
section
theorem serF_lt {α : Type} {toks : List PTok} (hO : EndOk toks) {one : PSt → α × PSt} (hE : ∀ S : PSt,S.1 < toks.length → (one S).2.1 < toks.length) (f : Nat) : ∀ (acc : List α) (S : PSt),S.1 < toks.length → (serF toks one f acc S).2.1 < toks.length := by
 induction f with
 | zero => intro acc S h;exact h
 | succ f ih =>
  intro acc S h
  simp only [serF]
  split
  ·exact ih _ _ (hE _ (pTake_lt hO rfl h))
  ·exact h
theorem pSer_lt {α : Type} {toks : List PTok} (hO : EndOk toks) {one : PSt → α × PSt} (hE : ∀ S : PSt,S.1 < toks.length → (one S).2.1 < toks.length) {st : PSt} (h : st.1 < toks.length) : (pSer toks one st).2.1 < toks.length := serF_lt hO hE _ _ _ (hE _ h)
theorem sumF_lt {toks : List PTok} (hE : EndOk toks) (f : Nat) : ∀ (acc : List GTerm) (S : PSt),S.1 < toks.length → (sumF toks f acc S).2.1 < toks.length := by
 induction f with
 | zero => intro acc S h;exact h
 | succ f ih =>
  intro acc S h
  simp only [sumF]
  split
  ·exact ih _ _ (pTerm_lt hE _ (pTake_lt hE rfl h)).1
  ·exact h
theorem pSum_lt {toks : List PTok} (hE : EndOk toks) {st : PSt} (h : st.1 < toks.length) : (pSum toks st).2.1 < toks.length := sumF_lt hE _ _ _ (pTerm_lt hE _ h).1
def Kept (p : Prop) : Prop := ∀ _ : Unit,p
theorem Kept.mk {p : Prop} (h : p) : Kept p := fun _ => h
theorem Kept.get {p : Prop} (h : Kept p) : p := h ()
structure GSt where
 kw : PTok
 name : PTok := zeroTok
 names : List PTok := []
 numbers : List PTok := []
 terms : List GTerm := []
 rel : PTok := zeroTok
 lits : List GLit := []
def kwSorts : List Int := [4,5,6,7,8,9,10]
def pLin (toks : List PTok) (s : GSt) (st : PSt) : GSt × PSt :=
 ({ s with terms := (pSum toks st).1,rel := tkN toks (pSum toks st).2.1,numbers := [tkN toks (pTake toks [14,15,16] (pSum toks st).2).1] },pTake toks [3] (pTake toks [14,15,16] (pSum toks st).2))
def pStmt (toks : List PTok) (st : PSt) : GSt × PSt :=
 let kw := tkN toks st.1
 let s1 := pTake toks kwSorts st
 let nm := tkN toks s1.1
 let s2 := pTake toks [2] s1
 let s3 := pTake toks [12] s2
 if srt kw = 4 then
  let s4 := pTake toks [3] s3
  let s5 := pTake toks [17] s4
  ({ kw := kw,name := nm,numbers := [tkN toks s3.1,tkN toks s5.1] },pTake toks [3] s5)
 else if srt kw = 5 then
  let r := pSer toks (pTok toks 3) (pTake toks [18] (pTake toks [14] s2))
  ({ kw := kw,name := nm,numbers := r.1 },pTake toks [19] r.2)
 else if srt kw = 7 then pLin toks { kw := kw,name := nm } s3
 else if srt kw = 6 then pLin toks { kw := kw } s1
 else if srt kw = 8 then
  let t3 := pTake toks [18] s2
  let t4 := pTake toks [2] t3
  let t5 := pTake toks [14] (pTake toks [19] t4)
  ({ kw := kw,name := nm,names := [tkN toks t3.1,tkN toks t5.1] },pTake toks [2] t5)
 else if srt kw = 9 then ({ kw := kw,names := (pSer toks (pTok toks 2) s1).1 },(pSer toks (pTok toks 2) s1).2)
 else if srt kw = 10 then ({ kw := kw,lits := (pSer toks (pLit toks) s1).1 },(pSer toks (pLit toks) s1).2)
 else ({ kw := kw },s1)
def gsCells (s : GSt) (vn vu vt vl : Value) : Array Value :=
 #[.int .i64 (srt s.kw),.string s.kw.s,.int .i64 (tval s.kw),.int .i64 s.kw.line,.int .i64 (srt s.name),.string s.name.s,.int .i64 (tval s.name),.int .i64 s.name.line,vn,vu,vt,
  .int .i64 (srt s.rel),.string s.rel.s,.int .i64 (tval s.rel),.int .i64 s.rel.line,vl]
theorem empty_toList : ByteArray.empty.toList = [] := by
 have h := Lib.extract_toList ByteArray.empty 0 0
 have e : ByteArray.empty.extract 0 0 = ByteArray.empty := by decide
 rw [e] at h;rw [h];rfl
theorem srt_zero : srt zeroTok = 0 := by
 unfold srt zeroTok sgSort
 simp only [empty_toList]
 rfl
theorem tval_zero : tval zeroTok = 0 := by simp [tval,zeroTok]
structure GsOwn (w : World) (B : Nat) (s : GSt) (vn vu vt vl : Value) : Prop where
 n : w.ownsRow B 129 4 vn s.names.length (tokCells s.names)
 u : w.ownsRow B 129 4 vu s.numbers.length (tokCells s.numbers)
 t : w.ownsRow B 219 9 vt s.terms.length (gtCells s.terms)
 l : w.ownsRow B 194 8 vl s.lits.length (glCells s.lits)
abbrev zero16 : Array Value := #[.int .i64 0,.string .empty,.int .i64 0,.int .i64 0,.int .i64 0,.string .empty,.int .i64 0,.int .i64 0,.slice none 0 0,.slice none 0 0,.slice none 0 0,.int .i64 0,.string .empty,.int .i64 0,.int .i64 0,.slice none 0 0]
structure SB (w W : World) (bp b3 : Nat) (cs : Array Value) : Prop where
 hA : W.heap[w.heap.size]? = some (.cells zero16 137 (0,0))
 hS : W.heap[b3]? = some (.cells cs 137 (0,0))
 lt : b3 < W.heap.size
 lo : w.heap.size < b3
 gr : w.grownBy W (some bp)
 lp : bp < w.heap.size
variable {w W W' : World} {bp gt capt b3 : Nat} {toks : List PTok} {st : PSt} {cs cs' : Array Value}
theorem SB.call0 (h : SB w W bp b3 cs) (hg : W.grownBy W' (some bp)) : SB w W' bp b3 cs :=
 have h1 := h.lo;have h2 := h.lp;have h3 := h.lt
 ⟨past0 h.hA (by omega) hg (by simp;omega),past0 h.hS h.lt hg (by simp;omega),Nat.lt_of_lt_of_le h.lt hg.size,h.lo,h.gr.trans hg,h.lp⟩
theorem SB.alloc (h : SB w W bp b3 cs) (o : Obj) : SB w (W.alloc o) bp b3 cs := h.call0 (World.grownBy_alloc _ _ _)
theorem SB.drew (h : SB w W bp b3 cs) : SB w W.drew bp b3 cs := h.call0 (grown_drew' _ _)
theorem SB.call (h : SB w W bp b3 cs) {o : Obj} (hg : (W.alloc o).grownBy W' (some bp)) : SB w W' bp b3 cs := (h.alloc o).call0 hg
theorem SB.sf (h : SB w W bp b3 cs) (i : Nat) (v : Value) (e : cs.setIfInBounds i v = cs') : SB w (W.setCell ⟨b3,i,none⟩ v) bp b3 cs' :=
 have h1 := h.lo;have h2 := h.lp;have h3 := h.lt
 ⟨(Below.heap_setCell _ _ _ _ (by show w.heap.size ≠ b3;omega)).trans h.hA,set_at h.hS i v e,by have := (grown_set W b3 i v).size;omega,h.lo,grown_newr h.gr (by omega) (grown_set W b3 i v),h.lp⟩
theorem SB.set4 (h : SB w W bp b3 cs) (k : Nat) (v0 v1 v2 v3 : Value) (e : (((cs.setIfInBounds k v0).setIfInBounds (k + 1) v1).setIfInBounds (k + 2) v2).setIfInBounds (k + 3) v3 = cs') : SB w ((((W.setCell ⟨b3,k,none⟩ v0).setCell ⟨b3,k + 1,none⟩ v1).setCell ⟨b3,k + 2,none⟩ v2).setCell ⟨b3,k + 3,none⟩ v3) bp b3 cs' :=
 (((h.sf k v0 rfl).sf (k + 1) v1 rfl).sf (k + 2) v2 rfl).sf (k + 3) v3 e
theorem Ps.sf (h : Ps W bp gt capt toks st) (hb : bp < b3) (hg : gt < b3) (i : Nat) (v : Value) : Ps (W.setCell ⟨b3,i,none⟩ v) bp gt capt toks st := h.kept (grown_set W b3 i v) (by simp;omega) (by simp;omega)
theorem Ps.sf4 (h : Ps W bp gt capt toks st) (hb : bp < b3) (hg : gt < b3) (k : Nat) (v0 v1 v2 v3 : Value) : Ps ((((W.setCell ⟨b3,k,none⟩ v0).setCell ⟨b3,k + 1,none⟩ v1).setCell ⟨b3,k + 2,none⟩ v2).setCell ⟨b3,k + 3,none⟩ v3) bp gt capt toks st :=
 (((h.sf hb hg k v0).sf hb hg (k + 1) v1).sf hb hg (k + 2) v2).sf hb hg (k + 3) v3
theorem sb_start {w1 : World} {o : Obj} (hlp : bp < w.heap.size) (hg : ((w.alloc (.cells zero16 137)).alloc o).grownBy w1 (some bp)) (cs : Array Value) : SB w (w1.alloc (.cells cs 137)) bp w1.heap.size cs := by
 have hz := hg.size
 simp at hz
 have hA := past0 (heap_alloc2_old w _ _) (by simp;omega) hg (by simp;omega)
 exact ⟨(heap_alloc_old _ _ (by omega)).trans hA,heap_alloc_new _ _,by simp,by omega,(((World.grownBy_alloc w _ _).trans (World.grownBy_alloc _ _ _)).trans hg).trans (World.grownBy_alloc _ _ _),hlp⟩
theorem own_slice {w : World} {B n s : Nat} {e : TypeId} {v : Value} {xs : List Value} (h : w.ownsRow B e s v n xs) : ∃ a m c,v = .slice a m c := by
 rcases h.2 with ⟨h,_⟩ | ⟨g,cap,cur,h,_⟩
 ·exact ⟨_,_,_,h⟩
 ·exact ⟨_,_,_,h⟩
theorem st_end' (hA : W.heap[w.heap.size]? = some (.cells zero16 137 (0,0))) (gr : w.grownBy W (some bp)) (hlp : bp < w.heap.size) (hlg : gt < w.heap.size) (v0 v1 v2 v3 v4 v5 v6 v7 v8 v9 v10 v11 v12 v13 v14 v15 : Value) : ((((((((((((((((W.setCell ⟨w.heap.size,0,none⟩ v0).setCell ⟨w.heap.size,1,none⟩ v1).setCell ⟨w.heap.size,2,none⟩ v2).setCell ⟨w.heap.size,3,none⟩ v3).setCell ⟨w.heap.size,4,none⟩ v4).setCell ⟨w.heap.size,5,none⟩ v5).setCell ⟨w.heap.size,6,none⟩ v6).setCell ⟨w.heap.size,7,none⟩ v7).setCell ⟨w.heap.size,8,none⟩ v8).setCell ⟨w.heap.size,9,none⟩ v9).setCell ⟨w.heap.size,10,none⟩ v10).setCell ⟨w.heap.size,11,none⟩ v11).setCell ⟨w.heap.size,12,none⟩ v12).setCell ⟨w.heap.size,13,none⟩ v13).setCell ⟨w.heap.size,14,none⟩ v14).setCell ⟨w.heap.size,15,none⟩ v15).heap[w.heap.size]? = some (.cells #[v0,v1,v2,v3,v4,v5,v6,v7,v8,v9,v10,v11,v12,v13,v14,v15] 137 (0,0)) ∧ w.grownBy ((((((((((((((((W.setCell ⟨w.heap.size,0,none⟩ v0).setCell ⟨w.heap.size,1,none⟩ v1).setCell ⟨w.heap.size,2,none⟩ v2).setCell ⟨w.heap.size,3,none⟩ v3).setCell ⟨w.heap.size,4,none⟩ v4).setCell ⟨w.heap.size,5,none⟩ v5).setCell ⟨w.heap.size,6,none⟩ v6).setCell ⟨w.heap.size,7,none⟩ v7).setCell ⟨w.heap.size,8,none⟩ v8).setCell ⟨w.heap.size,9,none⟩ v9).setCell ⟨w.heap.size,10,none⟩ v10).setCell ⟨w.heap.size,11,none⟩ v11).setCell ⟨w.heap.size,12,none⟩ v12).setCell ⟨w.heap.size,13,none⟩ v13).setCell ⟨w.heap.size,14,none⟩ v14).setCell ⟨w.heap.size,15,none⟩ v15) (some bp) ∧ (∀ S,Ps W bp gt capt toks S → Ps ((((((((((((((((W.setCell ⟨w.heap.size,0,none⟩ v0).setCell ⟨w.heap.size,1,none⟩ v1).setCell ⟨w.heap.size,2,none⟩ v2).setCell ⟨w.heap.size,3,none⟩ v3).setCell ⟨w.heap.size,4,none⟩ v4).setCell ⟨w.heap.size,5,none⟩ v5).setCell ⟨w.heap.size,6,none⟩ v6).setCell ⟨w.heap.size,7,none⟩ v7).setCell ⟨w.heap.size,8,none⟩ v8).setCell ⟨w.heap.size,9,none⟩ v9).setCell ⟨w.heap.size,10,none⟩ v10).setCell ⟨w.heap.size,11,none⟩ v11).setCell ⟨w.heap.size,12,none⟩ v12).setCell ⟨w.heap.size,13,none⟩ v13).setCell ⟨w.heap.size,14,none⟩ v14).setCell ⟨w.heap.size,15,none⟩ v15) bp gt capt toks S) ∧
   (∀ B e sz v n xs,w.heap.size < B → W.ownsRow B e sz v n xs → ((((((((((((((((W.setCell ⟨w.heap.size,0,none⟩ v0).setCell ⟨w.heap.size,1,none⟩ v1).setCell ⟨w.heap.size,2,none⟩ v2).setCell ⟨w.heap.size,3,none⟩ v3).setCell ⟨w.heap.size,4,none⟩ v4).setCell ⟨w.heap.size,5,none⟩ v5).setCell ⟨w.heap.size,6,none⟩ v6).setCell ⟨w.heap.size,7,none⟩ v7).setCell ⟨w.heap.size,8,none⟩ v8).setCell ⟨w.heap.size,9,none⟩ v9).setCell ⟨w.heap.size,10,none⟩ v10).setCell ⟨w.heap.size,11,none⟩ v11).setCell ⟨w.heap.size,12,none⟩ v12).setCell ⟨w.heap.size,13,none⟩ v13).setCell ⟨w.heap.size,14,none⟩ v14).setCell ⟨w.heap.size,15,none⟩ v15).ownsRow w.heap.size e sz v n xs) := by
 have hg := set16_grown W w.heap.size v0 v1 v2 v3 v4 v5 v6 v7 v8 v9 v10 v11 v12 v13 v14 v15
 refine ⟨set16 hA v0 v1 v2 v3 v4 v5 v6 v7 v8 v9 v10 v11 v12 v13 v14 v15,grown_newr gr (Nat.le_refl _) hg,fun S hS => hS.kept hg (by simp;omega) (by simp;omega),fun B e sz v n xs hB h => ?_⟩
 exact World.ownsRow.mono (h.kept hg (low_ne' h hB)) (by omega)
theorem st_end (s : SB w W bp b3 cs) (hlg : gt < w.heap.size) (v0 v1 v2 v3 v4 v5 v6 v7 v8 v9 v10 v11 v12 v13 v14 v15 : Value) : ((((((((((((((((W.setCell ⟨w.heap.size,0,none⟩ v0).setCell ⟨w.heap.size,1,none⟩ v1).setCell ⟨w.heap.size,2,none⟩ v2).setCell ⟨w.heap.size,3,none⟩ v3).setCell ⟨w.heap.size,4,none⟩ v4).setCell ⟨w.heap.size,5,none⟩ v5).setCell ⟨w.heap.size,6,none⟩ v6).setCell ⟨w.heap.size,7,none⟩ v7).setCell ⟨w.heap.size,8,none⟩ v8).setCell ⟨w.heap.size,9,none⟩ v9).setCell ⟨w.heap.size,10,none⟩ v10).setCell ⟨w.heap.size,11,none⟩ v11).setCell ⟨w.heap.size,12,none⟩ v12).setCell ⟨w.heap.size,13,none⟩ v13).setCell ⟨w.heap.size,14,none⟩ v14).setCell ⟨w.heap.size,15,none⟩ v15).heap[w.heap.size]? = some (.cells #[v0,v1,v2,v3,v4,v5,v6,v7,v8,v9,v10,v11,v12,v13,v14,v15] 137 (0,0)) ∧ w.grownBy ((((((((((((((((W.setCell ⟨w.heap.size,0,none⟩ v0).setCell ⟨w.heap.size,1,none⟩ v1).setCell ⟨w.heap.size,2,none⟩ v2).setCell ⟨w.heap.size,3,none⟩ v3).setCell ⟨w.heap.size,4,none⟩ v4).setCell ⟨w.heap.size,5,none⟩ v5).setCell ⟨w.heap.size,6,none⟩ v6).setCell ⟨w.heap.size,7,none⟩ v7).setCell ⟨w.heap.size,8,none⟩ v8).setCell ⟨w.heap.size,9,none⟩ v9).setCell ⟨w.heap.size,10,none⟩ v10).setCell ⟨w.heap.size,11,none⟩ v11).setCell ⟨w.heap.size,12,none⟩ v12).setCell ⟨w.heap.size,13,none⟩ v13).setCell ⟨w.heap.size,14,none⟩ v14).setCell ⟨w.heap.size,15,none⟩ v15) (some bp) ∧ (∀ S,Ps W bp gt capt toks S → Ps ((((((((((((((((W.setCell ⟨w.heap.size,0,none⟩ v0).setCell ⟨w.heap.size,1,none⟩ v1).setCell ⟨w.heap.size,2,none⟩ v2).setCell ⟨w.heap.size,3,none⟩ v3).setCell ⟨w.heap.size,4,none⟩ v4).setCell ⟨w.heap.size,5,none⟩ v5).setCell ⟨w.heap.size,6,none⟩ v6).setCell ⟨w.heap.size,7,none⟩ v7).setCell ⟨w.heap.size,8,none⟩ v8).setCell ⟨w.heap.size,9,none⟩ v9).setCell ⟨w.heap.size,10,none⟩ v10).setCell ⟨w.heap.size,11,none⟩ v11).setCell ⟨w.heap.size,12,none⟩ v12).setCell ⟨w.heap.size,13,none⟩ v13).setCell ⟨w.heap.size,14,none⟩ v14).setCell ⟨w.heap.size,15,none⟩ v15) bp gt capt toks S) ∧
   (∀ B e sz v n xs,w.heap.size < B → W.ownsRow B e sz v n xs → ((((((((((((((((W.setCell ⟨w.heap.size,0,none⟩ v0).setCell ⟨w.heap.size,1,none⟩ v1).setCell ⟨w.heap.size,2,none⟩ v2).setCell ⟨w.heap.size,3,none⟩ v3).setCell ⟨w.heap.size,4,none⟩ v4).setCell ⟨w.heap.size,5,none⟩ v5).setCell ⟨w.heap.size,6,none⟩ v6).setCell ⟨w.heap.size,7,none⟩ v7).setCell ⟨w.heap.size,8,none⟩ v8).setCell ⟨w.heap.size,9,none⟩ v9).setCell ⟨w.heap.size,10,none⟩ v10).setCell ⟨w.heap.size,11,none⟩ v11).setCell ⟨w.heap.size,12,none⟩ v12).setCell ⟨w.heap.size,13,none⟩ v13).setCell ⟨w.heap.size,14,none⟩ v14).setCell ⟨w.heap.size,15,none⟩ v15).ownsRow w.heap.size e sz v n xs) := st_end' s.hA s.gr s.lp hlg v0 v1 v2 v3 v4 v5 v6 v7 v8 v9 v10 v11 v12 v13 v14 v15
theorem own_far {e : TypeId} {B sz n : Nat} {v : Value} {xs : List Value} (h : W.ownsRow B e sz v n xs) (hB : b3 < B) (i : Nat) (u : Value) : (W.setCell ⟨b3,i,none⟩ u).ownsRow B e sz v n xs := h.kept (grown_set W b3 i u) (low_ne' h hB)
theorem gr_name' {N : PTok} {S' : PSt} (hE : EndOk toks) (hi : st.1 < toks.length) (h1 : N = tkN toks st.1) (h2 : S' = pTake toks [2] st) (W : World) (h : Ps W bp gt capt toks st) : Calls Tryz.prog 114 #[.pointer (some ⟨bp,0,none⟩)] W fun e w' => e = .returned (.agg #[.int .i64 (srt N),.string N.s,.int .i64 (tval N),.int .i64 N.line]) ∧ W.grownBy w' (some bp) ∧ Ps w' bp gt capt toks S' := by
 subst h1 h2;exact gr_name h hE.len hi
theorem gr_number' {N : PTok} {S' : PSt} (hE : EndOk toks) (hi : st.1 < toks.length) (h1 : N = tkN toks st.1) (h2 : S' = pTake toks [3] st) (W : World) (h : Ps W bp gt capt toks st) : Calls Tryz.prog 115 #[.pointer (some ⟨bp,0,none⟩)] W fun e w' => e = .returned (.agg #[.int .i64 (srt N),.string N.s,.int .i64 (tval N),.int .i64 N.line]) ∧ W.grownBy w' (some bp) ∧ Ps w' bp gt capt toks S' := by
 subst h1 h2;exact gr_number h hE.len hi
theorem gr_take' {N : PTok} {S' : PSt} {o : Obj} (hE : EndOk toks) (hi : st.1 < toks.length) (sorts : List Int) (n : Nat) (hn : n = sorts.length) (hl : sorts.length ≤ 100) (h1 : N = tkN toks st.1) (h2 : S' = pTake toks sorts st) (W : World) (h : Ps W bp gt capt toks st) (g : Nat) (hgW : g = W.heap.size) (ho : o = .cells (sorts.map (fun x => Value.int .i64 x)).toArray 127 (0,0)) : Calls Tryz.prog 69 #[.pointer (some ⟨bp,0,none⟩),.slice (some ⟨g,0,none⟩) n n] (W.alloc o) fun e w' => e = .returned (.agg #[.int .i64 (srt N),.string N.s,.int .i64 (tval N),.int .i64 N.line]) ∧ (W.alloc o).grownBy w' (some bp) ∧ Ps w' bp gt capt toks S' := by
 subst h1 h2 ho hn hgW;exact gr_take (h.alloc _) hE.len hi sorts _ _ hl (row_new sorts (heap_alloc_new W _)) (by simp)
def StPost (toks : List PTok) (st : PSt) (w : World) (bp gt capt : Nat) (e : Ending) (w' : World) : Prop :=
 ∃ vn vu vt vl,e = .returned (.agg (gsCells (pStmt toks st).1 vn vu vt vl)) ∧ GsOwn w' w.heap.size (pStmt toks st).1 vn vu vt vl ∧ w.grownBy w' (some bp) ∧ Ps w' bp gt capt toks (pStmt toks st).2 ∧ (pStmt toks st).2.1 < toks.length
end
section
set_option maxHeartbeats 2000000
set_option maxRecDepth 100000
structure KeptBut (B b : Nat) (w w' : World) : Prop where
 os : w'.os = w.os
 tape : w'.tape = w.tape
 output : w'.output = w.output
 size : w.heap.size ≤ w'.heap.size
 block : ∀ k,k < w.heap.size → k ≠ b → (k < B ∨ ∀ cs fr,w.heap[k]? ≠ some (.cells cs 5 fr)) → w'.heap[k]? = w.heap[k]?
theorem kept_step {w w1 w2 : World} {B b n : Nat} {v u : Value} {xs : List Value} (hown : w1.ownsRow B 5 1 v n xs) (h1 : w.grownBy w1 (some b)) (h2 : w1.grownBy w2 v.ownBlock) : KeptBut B b w (w2.setCell ⟨b,1,none⟩ u) :=
 ⟨h2.os.trans h1.os,h2.tape.trans h1.tape,h2.output.trans h1.output,Nat.le_trans (Nat.le_trans h1.size h2.size) (grown_set w2 b 1 u).size,fun k hk hb hn => by
  have e1 := h1.block k hk (by simpa using hb)
  have e2 : w2.heap[k]? = w1.heap[k]? := h2.block k (Nat.lt_of_lt_of_le hk h1.size) (fun q => by
   rcases hown.2 with ⟨hv,_⟩ | ⟨g,cap,cur,hv,hBg,h3,_⟩
   ·rw [hv] at q;cases q
   ·rw [hv] at q
    have : k = g := Option.some.inj q
    subst this
    rcases hn with hn | hn
    ·omega
    ·exact hn cur _ (e1.symm.trans h3))
  exact ((grown_set w2 b 1 u).block k (Nat.lt_of_lt_of_le (Nat.lt_of_lt_of_le hk h1.size) h2.size) (by simpa using hb)).trans (e2.trans e1)⟩
theorem b5 {b : Nat} {p v : Value} {w : World} (hbk : w.heap[b]? = some (.cells #[p,v] 146 (0,0))) : b < w.heap.size ∧ w.cell? ⟨b,0,none⟩ = some p ∧ w.cell? ⟨b,1,none⟩ = some v ∧ w.frozen? ⟨b,1,none⟩ = false :=
 ⟨(Array.getElem?_eq_some_iff.1 hbk).1,cell_of hbk 0 _ rfl,cell_of hbk 1 _ rfl,frozen_of hbk 1⟩
theorem bl_byte (B b : Nat) (bs : List Value) (c : Int) (w : World) (h : Lib.IsBuilder 146 5 B b bs w) (hl : bs.length ≤ 1000000000) (hBw : B ≤ w.heap.size) : Calls Tryz.prog 74 #[.pointer (some ⟨b,0,none⟩),.int .u8 c] w fun e w' => e = .returned .nilIface ∧ Lib.IsBuilder 146 5 B b (bs ++ [.int .u8 c]) w' ∧ KeptBut B b w w' := by
 obtain ⟨i0,hi,hz0,hz1,hz2⟩ := info_parts infoB8
 have K := Kept.mk (bl_check B b bs w h)
 clear h
 go_enter Tryz.func74,Tryz.ntmps74
 go_wp2_with (first | (at_builtin;refine wpList_append_own _ rfl _ _ 65 rfl B 5 i0 (.int .u8 0) 1 1 Tryz.underlying65 hi hz0 hz1 hz2 rfl (by decide) _ _ _ rfl (hown.alloc _) ⟨w1.heap.size,0,none⟩ 1 1 [.int .u8 c] rfl rfl (World.news_of_block (heap_alloc_new _ _)) (by intro u hu;simp at hu;subst hu;rfl) ?c3 ?c4 ?c5 ?_) | (go_at_call 124;refine K.get.mono ?_;rintro e w1 ⟨rfl,⟨hB,v,hbk,hown,hne⟩,hb1⟩;obtain ⟨hlb,d0,d1,f1⟩ := b5 hbk))
 case c3 => unfold maxLen;omega
 case c4 => omega
 case c5 => have := hb1.size;simp;omega
 intro v' w2 hown' hgrow _
 have hbk2 := past1 hbk hlb hgrow hne
 obtain ⟨_,e0,e1,e2⟩ := b5 hbk2
 obtain ⟨xa,xm,xc,rfl⟩ := own_slice hown'
 have HK : Hid (Lib.IsBuilder 146 5 B b (bs ++ [.int .u8 c]) (w2.setCell ⟨b,1,none⟩ (.slice xa xm xc)) ∧ KeptBut B b w (w2.setCell ⟨b,1,none⟩ (.slice xa xm xc))) :=
  ⟨.inr (Lib.BuilderAt.put hB hbk2 (by simpa using hown') (by decide)),kept_step (hown.alloc _) (hb1.trans (World.grownBy_alloc _ _ _)) hgrow⟩
 clear hown' hgrow hown
 go_wp2
 go_ret
 exact ⟨rfl,HK.out⟩
theorem bl_str (B b : Nat) (bs : List Value) (s : ByteArray) (w : World) (h : Lib.IsBuilder 146 5 B b bs w) (hl : bs.length ≤ 1000000000) (hs : s.size ≤ 1000000) (hBw : B ≤ w.heap.size) : Calls Tryz.prog 75 #[.pointer (some ⟨b,0,none⟩),.string s] w fun e w' => e = .returned (.tuple #[.int .i64 s.size,.nilIface]) ∧ Lib.IsBuilder 146 5 B b (bs ++ Lib.strCells s) w' ∧ KeptBut B b w w' := by
 obtain ⟨i0,hi,hz0,hz1,hz2⟩ := info_parts infoB8
 have K := Kept.mk (bl_check B b bs w h)
 clear h
 go_enter Tryz.func75,Tryz.ntmps75
 go_wp2_with (first | (at_builtin;refine Lib.wpList_append_own_string _ rfl _ _ 65 9 rfl B 5 i0 Tryz.underlying65 Tryz.underlying9 hi hz0 hz1 hz2 _ _ _ rfl hown s rfl ?c3 ?c4 ?c5 ?_) | (go_at_call 124;refine K.get.mono ?_;rintro e w1 ⟨rfl,⟨hB,v,hbk,hown,hne⟩,hb1⟩;obtain ⟨hlb,d0,d1,f1⟩ := b5 hbk))
 case c3 => unfold maxLen;omega
 case c4 => omega
 case c5 => have := hb1.size;omega
 intro v' w2 hown' hgrow _
 have hbk2 := past0 hbk hlb hgrow hne
 obtain ⟨_,e0,e1,e2⟩ := b5 hbk2
 obtain ⟨xa,xm,xc,rfl⟩ := own_slice hown'
 have HK : Hid (Lib.IsBuilder 146 5 B b (bs ++ Lib.strCells s) (w2.setCell ⟨b,1,none⟩ (.slice xa xm xc)) ∧ KeptBut B b w (w2.setCell ⟨b,1,none⟩ (.slice xa xm xc))) :=
  ⟨.inr (Lib.BuilderAt.put hB hbk2 (by simpa [Lib.strCells_length] using hown') (by decide)),kept_step hown hb1 hgrow⟩
 clear hown' hgrow hown
 go_wp2
 go_ret2
 exact ⟨rfl,HK.out⟩
end
section
theorem own_newN {w : World} {B b : Nat} {e : TypeId} {s n : Nat} {cs : Array Value} (h : w.heap[b]? = some (.cells cs e (0,0))) (hb : B ≤ b) (hs : cs.size = n * s) (hn : n ≤ 1000) : w.ownsRow B e s (.slice (some ⟨b,0,none⟩) n n) n cs.toList :=
 ⟨by simp [hs],.inr ⟨b,n,cs,rfl,hb,h,Nat.le_refl _,by unfold maxLen;omega,hs,by rw [← hs];exact List.take_of_length_le (by simp)⟩⟩
end
section
set_option maxHeartbeats 8000000
set_option maxRecDepth 100000
variable {w : World} {bp gt capt : Nat} {toks : List PTok} {st : PSt}
theorem gr_st_var (h : Ps w bp gt capt toks st) (hE : EndOk toks) (hi : st.1 < toks.length) (hk : srt (tkN toks st.1) = 4) : Calls Tryz.prog 68 #[.pointer (some ⟨bp,0,none⟩)] w (StPost toks st w bp gt capt) := by
 have HP : Hid (Ps w bp gt capt toks st) := h
 have hlp := h.lt
 have hlg := h.ltg
 have hlen := hE.len
 obtain ⟨T,hT⟩ : ∃ T,T = tkN toks st.1 := ⟨_,rfl⟩
 rw [← hT] at hk
 obtain ⟨S1,hS1⟩ : ∃ S,S = pTake toks kwSorts st := ⟨_,rfl⟩
 have hi1 : S1.1 < toks.length := by rw [hS1];exact pTake_lt hE rfl hi
 have HC1 := Kept.mk (gr_take' hE hi kwSorts 7 rfl (by decide) hT hS1 (o := .cells #[.int .i64 4,.int .i64 5,.int .i64 6,.int .i64 7,.int .i64 8,.int .i64 9,.int .i64 10] 127) (w.alloc (.cells zero16 137)) (HP.out.alloc _) (w.heap.size + 1) (by simp) rfl)
 have e4 : (srt T == 4) = true := by rw [hk];rfl
 have e5 : (srt T == 5) = false := by rw [hk];rfl
 have e7 : (srt T == 7) = false := by rw [hk];rfl
 have e6 : (srt T == 6) = false := by rw [hk];rfl
 have e8 : (srt T == 8) = false := by rw [hk];rfl
 have e9 : (srt T == 9) = false := by rw [hk];rfl
 have e10 : (srt T == 10) = false := by rw [hk];rfl
 obtain ⟨N,hN⟩ : ∃ N,N = tkN toks S1.1 := ⟨_,rfl⟩
 obtain ⟨S2,hS2⟩ : ∃ S,S = pTake toks [2] S1 := ⟨_,rfl⟩
 have hi2 : S2.1 < toks.length := by rw [hS2];exact pTake_lt hE rfl hi1
 have HC2 : Hid (∀ W : World,Ps W bp gt capt toks S1 → Calls Tryz.prog 114 #[.pointer (some ⟨bp,0,none⟩)] W fun e w' => e = .returned (.agg #[.int .i64 (srt N),.string N.s,.int .i64 (tval N),.int .i64 N.line]) ∧ W.grownBy w' (some bp) ∧ Ps w' bp gt capt toks S2) := fun W hW => gr_name' hE hi1 hN hS2 W hW
 obtain ⟨S3,hS3⟩ : ∃ S,S = pTake toks [12] S2 := ⟨_,rfl⟩
 have hi3 : S3.1 < toks.length := by rw [hS3];exact pTake_lt hE rfl hi2
 have HC3 : Hid (∀ (W : World) (g : Nat),Ps W bp gt capt toks S2 → g = W.heap.size → Calls Tryz.prog 69 #[.pointer (some ⟨bp,0,none⟩),.slice (some ⟨g,0,none⟩) 1 1] (W.alloc (.cells #[.int .i64 12] 127)) fun e w' => ∃ N : PTok,N = tkN toks S2.1 ∧ e = .returned (.agg #[.int .i64 (srt N),.string N.s,.int .i64 (tval N),.int .i64 N.line]) ∧ (W.alloc (.cells #[.int .i64 12] 127)).grownBy w' (some bp) ∧ Ps w' bp gt capt toks S3) := fun W g hW hg => (gr_take' hE hi2 [12] 1 rfl (by decide) rfl hS3 W hW g hg rfl).mono fun e w' hx => ⟨_,rfl,hx⟩
 obtain ⟨L,hL⟩ : ∃ N,N = tkN toks S3.1 := ⟨_,rfl⟩
 obtain ⟨S4,hS4⟩ : ∃ S,S = pTake toks [3] S3 := ⟨_,rfl⟩
 have hi4 : S4.1 < toks.length := by rw [hS4];exact pTake_lt hE rfl hi3
 have HC4 : Hid (∀ W : World,Ps W bp gt capt toks S3 → Calls Tryz.prog 115 #[.pointer (some ⟨bp,0,none⟩)] W fun e w' => e = .returned (.agg #[.int .i64 (srt L),.string L.s,.int .i64 (tval L),.int .i64 L.line]) ∧ W.grownBy w' (some bp) ∧ Ps w' bp gt capt toks S4) := fun W hW => gr_number' hE hi3 hL hS4 W hW
 obtain ⟨S5,hS5⟩ : ∃ S,S = pTake toks [17] S4 := ⟨_,rfl⟩
 have hi5 : S5.1 < toks.length := by rw [hS5];exact pTake_lt hE rfl hi4
 have HC5 : Hid (∀ (W : World) (g : Nat),Ps W bp gt capt toks S4 → g = W.heap.size → Calls Tryz.prog 69 #[.pointer (some ⟨bp,0,none⟩),.slice (some ⟨g,0,none⟩) 1 1] (W.alloc (.cells #[.int .i64 17] 127)) fun e w' => ∃ N : PTok,N = tkN toks S4.1 ∧ e = .returned (.agg #[.int .i64 (srt N),.string N.s,.int .i64 (tval N),.int .i64 N.line]) ∧ (W.alloc (.cells #[.int .i64 17] 127)).grownBy w' (some bp) ∧ Ps w' bp gt capt toks S5) := fun W g hW hg => (gr_take' hE hi4 [17] 1 rfl (by decide) rfl hS5 W hW g hg rfl).mono fun e w' hx => ⟨_,rfl,hx⟩
 obtain ⟨M,hM⟩ : ∃ N,N = tkN toks S5.1 := ⟨_,rfl⟩
 obtain ⟨S6,hS6⟩ : ∃ S,S = pTake toks [3] S5 := ⟨_,rfl⟩
 have hi6 : S6.1 < toks.length := by rw [hS6];exact pTake_lt hE rfl hi5
 have HC6 : Hid (∀ W : World,Ps W bp gt capt toks S5 → Calls Tryz.prog 115 #[.pointer (some ⟨bp,0,none⟩)] W fun e w' => e = .returned (.agg #[.int .i64 (srt M),.string M.s,.int .i64 (tval M),.int .i64 M.line]) ∧ W.grownBy w' (some bp) ∧ Ps w' bp gt capt toks S6) := fun W hW => gr_number' hE hi5 hM hS6 W hW
 have HRes : Hid (pStmt toks st = ({ kw := T,name := N,numbers := [L,M] },S6)) := by
  rw [Hid];rw [hS6,hM,hS5,hS4,hL,hS3,hS2,hN,hS1,hT];unfold pStmt;simp [← hT,hk]
 have HX : Hid (∀ e w',(∃ vn vu vt vl,e = .returned (.agg (gsCells ({ kw := T,name := N,numbers := [L,M] }) vn vu vt vl)) ∧ GsOwn w' w.heap.size ({ kw := T,name := N,numbers := [L,M] }) vn vu vt vl ∧ w.grownBy w' (some bp) ∧ Ps w' bp gt capt toks S6 ∧ (S6).1 < toks.length) → StPost toks st w bp gt capt e w') := fun e w' hx => by unfold StPost;rw [HRes.out];exact hx
 clear h hk HRes hT hS1 hN hS2 hS3 hL hS4 hS5 hM hS6
 go_enter Tryz.func68,Tryz.ntmps68
 go_wp2_with (first | (go_at_call 69;refine (HC5.out _ _ (hP4.alloc _) (by first | rfl | (simp;done) | simp [World.setCell])).mono ?_;rintro e w5 ⟨X5,_,rfl,hg5,hP5⟩;have s5 := (s4.alloc _).call hg5;have hl5 := s5.lt;have hp4 := hP4.lt;have hv5 : w4.heap.size < w5.heap.size := (by have := hg5.size;simp at this;omega);have hB5 := past0 (heap_alloc2_old w4 _ _) (by simp;omega) hg5 (by simp;omega);obtain ⟨d0,d1,d2,d3,_,_,_,_⟩ := cells4 hB5) | (go_at_call 115;refine (HC4.out _ hP3).mono ?_;rintro e w4 ⟨rfl,hg4,hP4⟩;have s4 := s3.call0 hg4;have hl4 := s4.lt) | (go_at_call 69;refine (HC3.out _ _ (hP2.sf4 hbb hgb 4 (.int .i64 (srt N)) (.string N.s) (.int .i64 (tval N)) (.int .i64 N.line)) (by first | rfl | (simp;done) | simp [World.setCell])).mono ?_;rintro e w3 ⟨X3,_,rfl,hg3,hP3⟩;have s3 := t2.call hg3;have hl3 := s3.lt) | (go_at_call 114;refine (HC2.out _ (hP1.alloc _)).mono ?_;rintro e w2 ⟨rfl,hg2,hP2⟩;have s2 := s1.call0 hg2;have c4_2 := cell_of s2.hS 4 _ rfl;have f4_2 := frozen_of s2.hS 4;have c5_2 := cell_of s2.hS 5 _ rfl;have f5_2 := frozen_of s2.hS 5;have c6_2 := cell_of s2.hS 6 _ rfl;have f6_2 := frozen_of s2.hS 6;have c7_2 := cell_of s2.hS 7 _ rfl;have f7_2 := frozen_of s2.hS 7;have t2 := s2.set4 (cs' := #[.int .i64 (srt T),.string T.s,.int .i64 (tval T),.int .i64 T.line,.int .i64 (srt N),.string N.s,.int .i64 (tval N),.int .i64 N.line,.slice none 0 0,.slice none 0 0,.slice none 0 0,.int .i64 0,.string .empty,.int .i64 0,.int .i64 0,.slice none 0 0]) 4 (.int .i64 (srt N)) (.string N.s) (.int .i64 (tval N)) (.int .i64 N.line) rfl;have hl2 := t2.lt) | (go_at_call 69;refine HC1.get.mono ?_;rintro e w1 ⟨rfl,hg1,hP1⟩;have s1 := sb_start hlp hg1 #[.int .i64 (srt T),.string T.s,.int .i64 (tval T),.int .i64 T.line,.int .i64 0,.string .empty,.int .i64 0,.int .i64 0,.slice none 0 0,.slice none 0 0,.slice none 0 0,.int .i64 0,.string .empty,.int .i64 0,.int .i64 0,.slice none 0 0];have hbb : bp < w1.heap.size := (by have := s1.lo;omega);have hgb : gt < w1.heap.size := (by have := s1.lo;omega)))
 have hp5 := hP5.lt
 go_region_law (go_simp;go_at_call 115;refine (HC6.out _ hP5.drew).mono ?_;rintro e w6 ⟨rfl,hg6,hP6⟩;have s6 := s5.drew.call0 hg6;have hB6 := past0 (w := w5.drew) hB5 hv5 hg6 (by simp;omega);clear d0 d1 d2 d3;obtain ⟨d0,d1,d2,d3,_,_,_,_⟩ := cells4 hB6;have f9_6 := frozen_of s6.hS 9;obtain ⟨a0,a1,a2,a3,a4,a5,a6,a7,a8,a9,a10,a11,a12,a13,a14,a15,z0,z1,z2,z3,z4,z5,z6,z7,z8,z9,z10,z11,z12,z13,z14,z15⟩ := cells16 s6.hA;obtain ⟨c0,c1,c2,c3,c4,c5,c6,c7,c8,c9,c10,c11,c12,c13,c14,c15,_,_,_,_,_,_,_,_,_,_,_,_,_,_,_,_⟩ := cells16 s6.hS;have hq0 := s6.lt;have hq1 := s6.lo;have hq4 : w.heap.size < w6.heap.size := (by omega);have hq2 : w.heap.size ≠ w1.heap.size := (by omega);have hq3 : w1.heap.size ≠ w.heap.size := (by omega))
 all_goals go_wp2
 all_goals have tE := s6.sf (cs' := #[.int .i64 (srt T),.string T.s,.int .i64 (tval T),.int .i64 T.line,.int .i64 (srt N),.string N.s,.int .i64 (tval N),.int .i64 N.line,.slice none 0 0,.slice (some ⟨w6.heap.size,0,none⟩) 2 2,.slice none 0 0,.int .i64 0,.string .empty,.int .i64 0,.int .i64 0,.slice none 0 0]) 9 (.slice (some ⟨w6.heap.size,0,none⟩) 2 2) rfl
 all_goals obtain ⟨hF,hgF,hPF,hoF⟩ := st_end (gt := gt) (capt := capt) (toks := toks) tE hlg (.int .i64 (srt T)) (.string T.s) (.int .i64 (tval T)) (.int .i64 T.line) (.int .i64 (srt N)) (.string N.s) (.int .i64 (tval N)) (.int .i64 N.line) (.slice none 0 0) (.slice (some ⟨w6.heap.size,0,none⟩) 2 2) (.slice none 0 0) (.int .i64 0) (.string .empty) (.int .i64 0) (.int .i64 0) (.slice none 0 0)
 all_goals refine bodyPost_ret (results_cell_row rfl _ _ w.heap.size 137 _ _ _ rfl ((heap_alloc_old _ _ (by have := hgF.size;simp [World.setCell];omega)).trans hF) Tryz.underlying137 rfl (by kernel_rfl)) rfl ?_
 all_goals exact HX.out _ _ ⟨.slice none 0 0,.slice (some ⟨w6.heap.size,0,none⟩) 2 2,.slice none 0 0,.slice none 0 0,by simp only [gsCells,srt_zero,tval_zero];rfl,⟨World.ownsRow_nil _ _ _ _,by have q := own_newN (B := w.heap.size) (s := 4) (n := 2) (e := 129) (cs := #[.int .i64 (srt L),.string L.s,.int .i64 (tval L),.int .i64 L.line,.int .i64 (srt M),.string M.s,.int .i64 (tval M),.int .i64 M.line]) (heap_alloc_new _ _) (Nat.le_trans hgF.size (Nat.le_refl _)) rfl (by decide);simpa [World.setCell,tokCells,tokCell] using q,World.ownsRow_nil _ _ _ _,World.ownsRow_nil _ _ _ _⟩,hgF.trans (World.grownBy_alloc _ _ _),(hPF _ (hP6.sf hbb hgb 9 (.slice (some ⟨w6.heap.size,0,none⟩) 2 2))).alloc _,hi6⟩
end
section
set_option maxHeartbeats 8000000
set_option maxRecDepth 100000
variable {w : World} {bp gt capt : Nat} {toks : List PTok} {st : PSt}
theorem gr_st_list (h : Ps w bp gt capt toks st) (hE : EndOk toks) (hi : st.1 < toks.length) (hk : srt (tkN toks st.1) = 5) : Calls Tryz.prog 68 #[.pointer (some ⟨bp,0,none⟩)] w (StPost toks st w bp gt capt) := by
 have HP : Hid (Ps w bp gt capt toks st) := h
 have hlp := h.lt
 have hlg := h.ltg
 have hlen := hE.len
 obtain ⟨T,hT⟩ : ∃ T,T = tkN toks st.1 := ⟨_,rfl⟩
 rw [← hT] at hk
 obtain ⟨S1,hS1⟩ : ∃ S,S = pTake toks kwSorts st := ⟨_,rfl⟩
 have hi1 : S1.1 < toks.length := by rw [hS1];exact pTake_lt hE rfl hi
 have HC1 := Kept.mk (gr_take' hE hi kwSorts 7 rfl (by decide) hT hS1 (o := .cells #[.int .i64 4,.int .i64 5,.int .i64 6,.int .i64 7,.int .i64 8,.int .i64 9,.int .i64 10] 127) (w.alloc (.cells zero16 137)) (HP.out.alloc _) (w.heap.size + 1) (by simp) rfl)
 have e4 : (srt T == 4) = false := by rw [hk];rfl
 have e5 : (srt T == 5) = true := by rw [hk];rfl
 have e7 : (srt T == 7) = false := by rw [hk];rfl
 have e6 : (srt T == 6) = false := by rw [hk];rfl
 have e8 : (srt T == 8) = false := by rw [hk];rfl
 have e9 : (srt T == 9) = false := by rw [hk];rfl
 have e10 : (srt T == 10) = false := by rw [hk];rfl
 obtain ⟨N,hN⟩ : ∃ N,N = tkN toks S1.1 := ⟨_,rfl⟩
 obtain ⟨S2,hS2⟩ : ∃ S,S = pTake toks [2] S1 := ⟨_,rfl⟩
 have hi2 : S2.1 < toks.length := by rw [hS2];exact pTake_lt hE rfl hi1
 have HC2 : Hid (∀ W : World,Ps W bp gt capt toks S1 → Calls Tryz.prog 114 #[.pointer (some ⟨bp,0,none⟩)] W fun e w' => e = .returned (.agg #[.int .i64 (srt N),.string N.s,.int .i64 (tval N),.int .i64 N.line]) ∧ W.grownBy w' (some bp) ∧ Ps w' bp gt capt toks S2) := fun W hW => gr_name' hE hi1 hN hS2 W hW
 obtain ⟨S3,hS3⟩ : ∃ S,S = pTake toks [14] S2 := ⟨_,rfl⟩
 have hi3 : S3.1 < toks.length := by rw [hS3];exact pTake_lt hE rfl hi2
 have HC3 : Hid (∀ (W : World) (g : Nat),Ps W bp gt capt toks S2 → g = W.heap.size → Calls Tryz.prog 69 #[.pointer (some ⟨bp,0,none⟩),.slice (some ⟨g,0,none⟩) 1 1] (W.alloc (.cells #[.int .i64 14] 127)) fun e w' => ∃ N : PTok,N = tkN toks S2.1 ∧ e = .returned (.agg #[.int .i64 (srt N),.string N.s,.int .i64 (tval N),.int .i64 N.line]) ∧ (W.alloc (.cells #[.int .i64 14] 127)).grownBy w' (some bp) ∧ Ps w' bp gt capt toks S3) := fun W g hW hg => (gr_take' hE hi2 [14] 1 rfl (by decide) rfl hS3 W hW g hg rfl).mono fun e w' hx => ⟨_,rfl,hx⟩
 obtain ⟨S4,hS4⟩ : ∃ S,S = pTake toks [18] S3 := ⟨_,rfl⟩
 have hi4 : S4.1 < toks.length := by rw [hS4];exact pTake_lt hE rfl hi3
 have HC4 : Hid (∀ (W : World) (g : Nat),Ps W bp gt capt toks S3 → g = W.heap.size → Calls Tryz.prog 69 #[.pointer (some ⟨bp,0,none⟩),.slice (some ⟨g,0,none⟩) 1 1] (W.alloc (.cells #[.int .i64 18] 127)) fun e w' => ∃ N : PTok,N = tkN toks S3.1 ∧ e = .returned (.agg #[.int .i64 (srt N),.string N.s,.int .i64 (tval N),.int .i64 N.line]) ∧ (W.alloc (.cells #[.int .i64 18] 127)).grownBy w' (some bp) ∧ Ps w' bp gt capt toks S4) := fun W g hW hg => (gr_take' hE hi3 [18] 1 rfl (by decide) rfl hS4 W hW g hg rfl).mono fun e w' hx => ⟨_,rfl,hx⟩
 obtain ⟨R5,hR5⟩ : ∃ R,R = pSer toks (pTok toks 3) S4 := ⟨_,rfl⟩
 have hi5 : R5.2.1 < toks.length := by rw [hR5];exact pSer_lt hE (fun S h => (pTok_lt hE 3 (by decide) h).1) hi4
 have HC5 : Hid (∀ W : World,Ps W bp gt capt toks S4 → Calls Tryz.prog 116 #[.pointer (some ⟨bp,0,none⟩),.func (.func 115) #[.pointer (some ⟨bp,0,none⟩)] #[]] W fun e w' => ∃ v,e = .returned v ∧ w'.ownsRow W.heap.size 129 4 v R5.1.length (tokCells R5.1) ∧ W.grownBy w' (some bp) ∧ Ps w' bp gt capt toks R5.2 ∧ R5.2.1 < toks.length) := fun W hW => by rw [hR5];exact gr_ser_number hW hE hi4
 obtain ⟨S6,hS6⟩ : ∃ S,S = pTake toks [19] R5.2 := ⟨_,rfl⟩
 have hi6 : S6.1 < toks.length := by rw [hS6];exact pTake_lt hE rfl hi5
 have HC6 : Hid (∀ (W : World) (g : Nat),Ps W bp gt capt toks R5.2 → g = W.heap.size → Calls Tryz.prog 69 #[.pointer (some ⟨bp,0,none⟩),.slice (some ⟨g,0,none⟩) 1 1] (W.alloc (.cells #[.int .i64 19] 127)) fun e w' => ∃ N : PTok,N = tkN toks R5.2.1 ∧ e = .returned (.agg #[.int .i64 (srt N),.string N.s,.int .i64 (tval N),.int .i64 N.line]) ∧ (W.alloc (.cells #[.int .i64 19] 127)).grownBy w' (some bp) ∧ Ps w' bp gt capt toks S6) := fun W g hW hg => (gr_take' hE hi5 [19] 1 rfl (by decide) rfl hS6 W hW g hg rfl).mono fun e w' hx => ⟨_,rfl,hx⟩
 have HRes : Hid (pStmt toks st = ({ kw := T,name := N,numbers := R5.1 },S6)) := by
  rw [Hid];rw [hS6,hR5,hS4,hS3,hS2,hN,hS1,hT];unfold pStmt;simp [← hT,hk]
 have HX : Hid (∀ e w',(∃ vn vu vt vl,e = .returned (.agg (gsCells ({ kw := T,name := N,numbers := R5.1 }) vn vu vt vl)) ∧ GsOwn w' w.heap.size ({ kw := T,name := N,numbers := R5.1 }) vn vu vt vl ∧ w.grownBy w' (some bp) ∧ Ps w' bp gt capt toks S6 ∧ (S6).1 < toks.length) → StPost toks st w bp gt capt e w') := fun e w' hx => by unfold StPost;rw [HRes.out];exact hx
 clear h hk HRes hT hS1 hN hS2 hS3 hS4 hR5 hS6
 go_enter Tryz.func68,Tryz.ntmps68
 go_wp2_with (first | (go_at_call 69;refine (HC6.out _ _ (hP5.sf hbb hgb 9 (.slice va5 vm5 vc5)) (by first | rfl | (simp;done) | simp [World.setCell])).mono ?_;rintro e w6 ⟨X6,_,rfl,hg6,hP6⟩;have s6 := t5.call hg6;have hl6 := s6.lt;have o5_6 := ((own5.alloc _).kept hg6 (low_ne' own5 (by have := s1.lp;have := s1.lo;first | omega | (simp;omega))));obtain ⟨a0,a1,a2,a3,a4,a5,a6,a7,a8,a9,a10,a11,a12,a13,a14,a15,z0,z1,z2,z3,z4,z5,z6,z7,z8,z9,z10,z11,z12,z13,z14,z15⟩ := cells16 s6.hA;obtain ⟨c0,c1,c2,c3,c4,c5,c6,c7,c8,c9,c10,c11,c12,c13,c14,c15,_,_,_,_,_,_,_,_,_,_,_,_,_,_,_,_⟩ := cells16 s6.hS;have hq0 := s6.lt;have hq1 := s6.lo;have hq4 : w.heap.size < w6.heap.size := (by omega);have hq2 : w.heap.size ≠ w1.heap.size := (by omega);have hq3 : w1.heap.size ≠ w.heap.size := (by omega)) | (go_at_call 116;refine (HC5.out _ hP4).mono ?_;rintro e w5 ⟨v5,rfl,hown5,hg5,hP5,_⟩;obtain ⟨va5,vm5,vc5,rfl⟩ := own_slice hown5;have s5 := s4.call0 hg5;have hb5 : w1.heap.size < _ := s4.lt;have c9_5 := cell_of s5.hS 9 _ rfl;have f9_5 := frozen_of s5.hS 9;have t5 := s5.sf (cs' := #[.int .i64 (srt T),.string T.s,.int .i64 (tval T),.int .i64 T.line,.int .i64 (srt N),.string N.s,.int .i64 (tval N),.int .i64 N.line,.slice none 0 0,.slice va5 vm5 vc5,.slice none 0 0,.int .i64 0,.string .empty,.int .i64 0,.int .i64 0,.slice none 0 0]) 9 (.slice va5 vm5 vc5) rfl;have hl5 := t5.lt;have own5 := own_far hown5 hb5 9 (.slice va5 vm5 vc5)) | (go_at_call 69;refine (HC4.out _ _ hP3 (by first | rfl | (simp;done) | simp [World.setCell])).mono ?_;rintro e w4 ⟨X4,_,rfl,hg4,hP4⟩;have s4 := s3.call hg4;have hl4 := s4.lt) | (go_at_call 69;refine (HC3.out _ _ (hP2.sf4 hbb hgb 4 (.int .i64 (srt N)) (.string N.s) (.int .i64 (tval N)) (.int .i64 N.line)) (by first | rfl | (simp;done) | simp [World.setCell])).mono ?_;rintro e w3 ⟨X3,_,rfl,hg3,hP3⟩;have s3 := t2.call hg3;have hl3 := s3.lt) | (go_at_call 114;refine (HC2.out _ (hP1.alloc _)).mono ?_;rintro e w2 ⟨rfl,hg2,hP2⟩;have s2 := s1.call0 hg2;have c4_2 := cell_of s2.hS 4 _ rfl;have f4_2 := frozen_of s2.hS 4;have c5_2 := cell_of s2.hS 5 _ rfl;have f5_2 := frozen_of s2.hS 5;have c6_2 := cell_of s2.hS 6 _ rfl;have f6_2 := frozen_of s2.hS 6;have c7_2 := cell_of s2.hS 7 _ rfl;have f7_2 := frozen_of s2.hS 7;have t2 := s2.set4 (cs' := #[.int .i64 (srt T),.string T.s,.int .i64 (tval T),.int .i64 T.line,.int .i64 (srt N),.string N.s,.int .i64 (tval N),.int .i64 N.line,.slice none 0 0,.slice none 0 0,.slice none 0 0,.int .i64 0,.string .empty,.int .i64 0,.int .i64 0,.slice none 0 0]) 4 (.int .i64 (srt N)) (.string N.s) (.int .i64 (tval N)) (.int .i64 N.line) rfl;have hl2 := t2.lt) | (go_at_call 69;refine HC1.get.mono ?_;rintro e w1 ⟨rfl,hg1,hP1⟩;have s1 := sb_start hlp hg1 #[.int .i64 (srt T),.string T.s,.int .i64 (tval T),.int .i64 T.line,.int .i64 0,.string .empty,.int .i64 0,.int .i64 0,.slice none 0 0,.slice none 0 0,.slice none 0 0,.int .i64 0,.string .empty,.int .i64 0,.int .i64 0,.slice none 0 0];have hbb : bp < w1.heap.size := (by have := s1.lo;omega);have hgb : gt < w1.heap.size := (by have := s1.lo;omega)))
 obtain ⟨hF,hgF,hPF,hoF⟩ := st_end (gt := gt) (capt := capt) (toks := toks) s6 hlg (.int .i64 (srt T)) (.string T.s) (.int .i64 (tval T)) (.int .i64 T.line) (.int .i64 (srt N)) (.string N.s) (.int .i64 (tval N)) (.int .i64 N.line) (.slice none 0 0) (.slice va5 vm5 vc5) (.slice none 0 0) (.int .i64 0) (.string .empty) (.int .i64 0) (.int .i64 0) (.slice none 0 0)
 refine bodyPost_ret (results_cell_row rfl _ _ w.heap.size 137 _ _ _ rfl hF Tryz.underlying137 rfl (by kernel_rfl)) rfl ?_
 exact HX.out _ _ ⟨.slice none 0 0,.slice va5 vm5 vc5,.slice none 0 0,.slice none 0 0,by simp only [gsCells,srt_zero,tval_zero];rfl,⟨World.ownsRow_nil _ _ _ _,hoF _ _ _ _ _ _ (by have := s1.lo;have := hb5;first | omega | (simp at *;omega)) o5_6,World.ownsRow_nil _ _ _ _,World.ownsRow_nil _ _ _ _⟩,hgF,hPF _ hP6,hi6⟩
end
section
set_option maxHeartbeats 8000000
set_option maxRecDepth 100000
variable {w : World} {bp gt capt : Nat} {toks : List PTok} {st : PSt}
theorem gr_st_lin (h : Ps w bp gt capt toks st) (hE : EndOk toks) (hi : st.1 < toks.length) (hk : srt (tkN toks st.1) = 6) : Calls Tryz.prog 68 #[.pointer (some ⟨bp,0,none⟩)] w (StPost toks st w bp gt capt) := by
 have HP : Hid (Ps w bp gt capt toks st) := h
 have hlp := h.lt
 have hlg := h.ltg
 have hlen := hE.len
 obtain ⟨T,hT⟩ : ∃ T,T = tkN toks st.1 := ⟨_,rfl⟩
 rw [← hT] at hk
 obtain ⟨S1,hS1⟩ : ∃ S,S = pTake toks kwSorts st := ⟨_,rfl⟩
 have hi1 : S1.1 < toks.length := by rw [hS1];exact pTake_lt hE rfl hi
 have HC1 := Kept.mk (gr_take' hE hi kwSorts 7 rfl (by decide) hT hS1 (o := .cells #[.int .i64 4,.int .i64 5,.int .i64 6,.int .i64 7,.int .i64 8,.int .i64 9,.int .i64 10] 127) (w.alloc (.cells zero16 137)) (HP.out.alloc _) (w.heap.size + 1) (by simp) rfl)
 have e4 : (srt T == 4) = false := by rw [hk];rfl
 have e5 : (srt T == 5) = false := by rw [hk];rfl
 have e7 : (srt T == 7) = false := by rw [hk];rfl
 have e6 : (srt T == 6) = true := by rw [hk];rfl
 have e8 : (srt T == 8) = false := by rw [hk];rfl
 have e9 : (srt T == 9) = false := by rw [hk];rfl
 have e10 : (srt T == 10) = false := by rw [hk];rfl
 obtain ⟨R2,hR2⟩ : ∃ R,R = pSum toks S1 := ⟨_,rfl⟩
 have hi2 : R2.2.1 < toks.length := by rw [hR2];exact pSum_lt hE hi1
 have HC2 : Hid (∀ W : World,Ps W bp gt capt toks S1 → Calls Tryz.prog 117 #[.pointer (some ⟨bp,0,none⟩)] W fun e w' => ∃ v,e = .returned v ∧ w'.ownsRow W.heap.size 219 9 v R2.1.length (gtCells R2.1) ∧ W.grownBy w' (some bp) ∧ Ps w' bp gt capt toks R2.2 ∧ R2.2.1 < toks.length) := fun W hW => by rw [hR2];exact gr_sum hW hE hi1
 obtain ⟨Q,hQ⟩ : ∃ N,N = tkN toks R2.2.1 := ⟨_,rfl⟩
 obtain ⟨S3,hS3⟩ : ∃ S,S = pTake toks [14,15,16] R2.2 := ⟨_,rfl⟩
 have hi3 : S3.1 < toks.length := by rw [hS3];exact pTake_lt hE rfl hi2
 have HC3 : Hid (∀ (W : World) (g : Nat),Ps W bp gt capt toks R2.2 → g = W.heap.size → Calls Tryz.prog 69 #[.pointer (some ⟨bp,0,none⟩),.slice (some ⟨g,0,none⟩) 3 3] (W.alloc (.cells #[.int .i64 14,.int .i64 15,.int .i64 16] 127)) fun e w' => ∃ N : PTok,N = tkN toks R2.2.1 ∧ e = .returned (.agg #[.int .i64 (srt N),.string N.s,.int .i64 (tval N),.int .i64 N.line]) ∧ (W.alloc (.cells #[.int .i64 14,.int .i64 15,.int .i64 16] 127)).grownBy w' (some bp) ∧ Ps w' bp gt capt toks S3) := fun W g hW hg => (gr_take' hE hi2 [14,15,16] 3 rfl (by decide) rfl hS3 W hW g hg rfl).mono fun e w' hx => ⟨_,rfl,hx⟩
 have hQK : Hid (Q = tkN toks R2.2.1) := hQ
 obtain ⟨M,hM⟩ : ∃ N,N = tkN toks S3.1 := ⟨_,rfl⟩
 obtain ⟨S4,hS4⟩ : ∃ S,S = pTake toks [3] S3 := ⟨_,rfl⟩
 have hi4 : S4.1 < toks.length := by rw [hS4];exact pTake_lt hE rfl hi3
 have HC4 : Hid (∀ W : World,Ps W bp gt capt toks S3 → Calls Tryz.prog 115 #[.pointer (some ⟨bp,0,none⟩)] W fun e w' => e = .returned (.agg #[.int .i64 (srt M),.string M.s,.int .i64 (tval M),.int .i64 M.line]) ∧ W.grownBy w' (some bp) ∧ Ps w' bp gt capt toks S4) := fun W hW => gr_number' hE hi3 hM hS4 W hW
 have HRes : Hid (pStmt toks st = ({ kw := T,terms := R2.1,rel := Q,numbers := [M] },S4)) := by
  rw [Hid];rw [hS4,hM,hS3,hQ,hR2,hS1,hT];unfold pStmt;simp [← hT,hk,pLin]
 have HX : Hid (∀ e w',(∃ vn vu vt vl,e = .returned (.agg (gsCells ({ kw := T,terms := R2.1,rel := Q,numbers := [M] }) vn vu vt vl)) ∧ GsOwn w' w.heap.size ({ kw := T,terms := R2.1,rel := Q,numbers := [M] }) vn vu vt vl ∧ w.grownBy w' (some bp) ∧ Ps w' bp gt capt toks S4 ∧ (S4).1 < toks.length) → StPost toks st w bp gt capt e w') := fun e w' hx => by unfold StPost;rw [HRes.out];exact hx
 clear h hk HRes hT hS1 hR2 hQ hS3 hM hS4
 go_enter Tryz.func68,Tryz.ntmps68
 go_wp2_with (first | (go_at_call 115;refine (HC4.out _ (hP3.sf4 hbb hgb 11 (.int .i64 (srt Q)) (.string Q.s) (.int .i64 (tval Q)) (.int .i64 Q.line))).mono ?_;rintro e w4 ⟨rfl,hg4,hP4⟩;have s4 := t3.call0 hg4;have f9_4 := frozen_of s4.hS 9;obtain ⟨a0,a1,a2,a3,a4,a5,a6,a7,a8,a9,a10,a11,a12,a13,a14,a15,z0,z1,z2,z3,z4,z5,z6,z7,z8,z9,z10,z11,z12,z13,z14,z15⟩ := cells16 s4.hA;obtain ⟨c0,c1,c2,c3,c4,c5,c6,c7,c8,c9,c10,c11,c12,c13,c14,c15,_,_,_,_,_,_,_,_,_,_,_,_,_,_,_,_⟩ := cells16 s4.hS;have hq0 := s4.lt;have hq1 := s4.lo;have hq4 : w.heap.size < w4.heap.size := (by omega);have hq2 : w.heap.size ≠ w1.heap.size := (by omega);have hq3 : w1.heap.size ≠ w.heap.size := (by omega);have o2_4 := (o2_3.kept hg4 (low_ne' o2_3 (by have := s1.lp;have := s1.lo;first | omega | (simp;omega))))) | (go_at_call 69;refine (HC3.out _ _ (hP2.sf hbb hgb 10 (.slice va2 vm2 vc2)) (by first | rfl | (simp;done) | simp [World.setCell])).mono ?_;rw [← hQK.out];rintro e w3 ⟨X3,hX3,rfl,hg3,hP3⟩;subst X3;have s3 := t2.call hg3;have c11_3 := cell_of s3.hS 11 _ rfl;have f11_3 := frozen_of s3.hS 11;have c12_3 := cell_of s3.hS 12 _ rfl;have f12_3 := frozen_of s3.hS 12;have c13_3 := cell_of s3.hS 13 _ rfl;have f13_3 := frozen_of s3.hS 13;have c14_3 := cell_of s3.hS 14 _ rfl;have f14_3 := frozen_of s3.hS 14;have t3 := s3.set4 (cs' := #[.int .i64 (srt T),.string T.s,.int .i64 (tval T),.int .i64 T.line,.int .i64 0,.string .empty,.int .i64 0,.int .i64 0,.slice none 0 0,.slice none 0 0,.slice va2 vm2 vc2,.int .i64 (srt Q),.string Q.s,.int .i64 (tval Q),.int .i64 Q.line,.slice none 0 0]) 11 (.int .i64 (srt Q)) (.string Q.s) (.int .i64 (tval Q)) (.int .i64 Q.line) rfl;have hl3 := t3.lt;have o2_3 := (own_far (own_far (own_far (own_far ((own2.alloc _).kept hg3 (low_ne' own2 (by have := s1.lp;have := s1.lo;first | omega | (simp;omega)))) hb2 11 (.int .i64 (srt Q))) hb2 12 (.string Q.s)) hb2 13 (.int .i64 (tval Q))) hb2 14 (.int .i64 Q.line))) | (go_at_call 117;refine (HC2.out _ (hP1.alloc _)).mono ?_;rintro e w2 ⟨v2,rfl,hown2,hg2,hP2,_⟩;obtain ⟨va2,vm2,vc2,rfl⟩ := own_slice hown2;have s2 := s1.call0 hg2;have hb2 : w1.heap.size < _ := s1.lt;have c10_2 := cell_of s2.hS 10 _ rfl;have f10_2 := frozen_of s2.hS 10;have t2 := s2.sf (cs' := #[.int .i64 (srt T),.string T.s,.int .i64 (tval T),.int .i64 T.line,.int .i64 0,.string .empty,.int .i64 0,.int .i64 0,.slice none 0 0,.slice none 0 0,.slice va2 vm2 vc2,.int .i64 0,.string .empty,.int .i64 0,.int .i64 0,.slice none 0 0]) 10 (.slice va2 vm2 vc2) rfl;have hl2 := t2.lt;have own2 := own_far hown2 hb2 10 (.slice va2 vm2 vc2)) | (go_at_call 69;refine HC1.get.mono ?_;rintro e w1 ⟨rfl,hg1,hP1⟩;have s1 := sb_start hlp hg1 #[.int .i64 (srt T),.string T.s,.int .i64 (tval T),.int .i64 T.line,.int .i64 0,.string .empty,.int .i64 0,.int .i64 0,.slice none 0 0,.slice none 0 0,.slice none 0 0,.int .i64 0,.string .empty,.int .i64 0,.int .i64 0,.slice none 0 0];have hbb : bp < w1.heap.size := (by have := s1.lo;omega);have hgb : gt < w1.heap.size := (by have := s1.lo;omega)))
 have tE := s4.sf (cs' := #[.int .i64 (srt T),.string T.s,.int .i64 (tval T),.int .i64 T.line,.int .i64 0,.string .empty,.int .i64 0,.int .i64 0,.slice none 0 0,.slice (some ⟨w4.heap.size,0,none⟩) 1 1,.slice va2 vm2 vc2,.int .i64 (srt Q),.string Q.s,.int .i64 (tval Q),.int .i64 Q.line,.slice none 0 0]) 9 (.slice (some ⟨w4.heap.size,0,none⟩) 1 1) rfl
 obtain ⟨hF,hgF,hPF,hoF⟩ := st_end (gt := gt) (capt := capt) (toks := toks) tE hlg (.int .i64 (srt T)) (.string T.s) (.int .i64 (tval T)) (.int .i64 T.line) (.int .i64 0) (.string .empty) (.int .i64 0) (.int .i64 0) (.slice none 0 0) (.slice (some ⟨w4.heap.size,0,none⟩) 1 1) (.slice va2 vm2 vc2) (.int .i64 (srt Q)) (.string Q.s) (.int .i64 (tval Q)) (.int .i64 Q.line) (.slice none 0 0)
 refine bodyPost_ret (results_cell_row rfl _ _ w.heap.size 137 _ _ _ rfl ((heap_alloc_old _ _ (by have := hgF.size;simp [World.setCell];omega)).trans hF) Tryz.underlying137 rfl (by kernel_rfl)) rfl ?_
 exact HX.out _ _ ⟨.slice none 0 0,.slice (some ⟨w4.heap.size,0,none⟩) 1 1,.slice va2 vm2 vc2,.slice none 0 0,by simp only [gsCells,srt_zero,tval_zero];rfl,⟨World.ownsRow_nil _ _ _ _,by have q := own_new (B := w.heap.size) (s := 4) (e := 129) (cs := #[.int .i64 (srt M),.string M.s,.int .i64 (tval M),.int .i64 M.line]) (heap_alloc_new _ _) (Nat.le_trans hgF.size (Nat.le_refl _)) rfl;simpa [World.setCell,tokCells,tokCell] using q,World.ownsRow.alloc (hoF _ _ _ _ _ _ (by have := s1.lo;have := hb2;first | omega | (simp at *;omega)) (own_far o2_4 hb2 9 (.slice (some ⟨w4.heap.size,0,none⟩) 1 1))) _,World.ownsRow_nil _ _ _ _⟩,hgF.trans (World.grownBy_alloc _ _ _),(hPF _ (hP4.sf hbb hgb 9 (.slice (some ⟨w4.heap.size,0,none⟩) 1 1))).alloc _,hi4⟩
end
section
set_option maxHeartbeats 8000000
set_option maxRecDepth 100000
variable {w : World} {bp gt capt : Nat} {toks : List PTok} {st : PSt}
theorem gr_st_when (h : Ps w bp gt capt toks st) (hE : EndOk toks) (hi : st.1 < toks.length) (hk : srt (tkN toks st.1) = 7) : Calls Tryz.prog 68 #[.pointer (some ⟨bp,0,none⟩)] w (StPost toks st w bp gt capt) := by
 have HP : Hid (Ps w bp gt capt toks st) := h
 have hlp := h.lt
 have hlg := h.ltg
 have hlen := hE.len
 obtain ⟨T,hT⟩ : ∃ T,T = tkN toks st.1 := ⟨_,rfl⟩
 rw [← hT] at hk
 obtain ⟨S1,hS1⟩ : ∃ S,S = pTake toks kwSorts st := ⟨_,rfl⟩
 have hi1 : S1.1 < toks.length := by rw [hS1];exact pTake_lt hE rfl hi
 have HC1 := Kept.mk (gr_take' hE hi kwSorts 7 rfl (by decide) hT hS1 (o := .cells #[.int .i64 4,.int .i64 5,.int .i64 6,.int .i64 7,.int .i64 8,.int .i64 9,.int .i64 10] 127) (w.alloc (.cells zero16 137)) (HP.out.alloc _) (w.heap.size + 1) (by simp) rfl)
 have e4 : (srt T == 4) = false := by rw [hk];rfl
 have e5 : (srt T == 5) = false := by rw [hk];rfl
 have e7 : (srt T == 7) = true := by rw [hk];rfl
 have e6 : (srt T == 6) = false := by rw [hk];rfl
 have e8 : (srt T == 8) = false := by rw [hk];rfl
 have e9 : (srt T == 9) = false := by rw [hk];rfl
 have e10 : (srt T == 10) = false := by rw [hk];rfl
 obtain ⟨N,hN⟩ : ∃ N,N = tkN toks S1.1 := ⟨_,rfl⟩
 obtain ⟨S2,hS2⟩ : ∃ S,S = pTake toks [2] S1 := ⟨_,rfl⟩
 have hi2 : S2.1 < toks.length := by rw [hS2];exact pTake_lt hE rfl hi1
 have HC2 : Hid (∀ W : World,Ps W bp gt capt toks S1 → Calls Tryz.prog 114 #[.pointer (some ⟨bp,0,none⟩)] W fun e w' => e = .returned (.agg #[.int .i64 (srt N),.string N.s,.int .i64 (tval N),.int .i64 N.line]) ∧ W.grownBy w' (some bp) ∧ Ps w' bp gt capt toks S2) := fun W hW => gr_name' hE hi1 hN hS2 W hW
 obtain ⟨S3,hS3⟩ : ∃ S,S = pTake toks [12] S2 := ⟨_,rfl⟩
 have hi3 : S3.1 < toks.length := by rw [hS3];exact pTake_lt hE rfl hi2
 have HC3 : Hid (∀ (W : World) (g : Nat),Ps W bp gt capt toks S2 → g = W.heap.size → Calls Tryz.prog 69 #[.pointer (some ⟨bp,0,none⟩),.slice (some ⟨g,0,none⟩) 1 1] (W.alloc (.cells #[.int .i64 12] 127)) fun e w' => ∃ N : PTok,N = tkN toks S2.1 ∧ e = .returned (.agg #[.int .i64 (srt N),.string N.s,.int .i64 (tval N),.int .i64 N.line]) ∧ (W.alloc (.cells #[.int .i64 12] 127)).grownBy w' (some bp) ∧ Ps w' bp gt capt toks S3) := fun W g hW hg => (gr_take' hE hi2 [12] 1 rfl (by decide) rfl hS3 W hW g hg rfl).mono fun e w' hx => ⟨_,rfl,hx⟩
 obtain ⟨R4,hR4⟩ : ∃ R,R = pSum toks S3 := ⟨_,rfl⟩
 have hi4 : R4.2.1 < toks.length := by rw [hR4];exact pSum_lt hE hi3
 have HC4 : Hid (∀ W : World,Ps W bp gt capt toks S3 → Calls Tryz.prog 117 #[.pointer (some ⟨bp,0,none⟩)] W fun e w' => ∃ v,e = .returned v ∧ w'.ownsRow W.heap.size 219 9 v R4.1.length (gtCells R4.1) ∧ W.grownBy w' (some bp) ∧ Ps w' bp gt capt toks R4.2 ∧ R4.2.1 < toks.length) := fun W hW => by rw [hR4];exact gr_sum hW hE hi3
 obtain ⟨Q,hQ⟩ : ∃ N,N = tkN toks R4.2.1 := ⟨_,rfl⟩
 obtain ⟨S5,hS5⟩ : ∃ S,S = pTake toks [14,15,16] R4.2 := ⟨_,rfl⟩
 have hi5 : S5.1 < toks.length := by rw [hS5];exact pTake_lt hE rfl hi4
 have HC5 : Hid (∀ (W : World) (g : Nat),Ps W bp gt capt toks R4.2 → g = W.heap.size → Calls Tryz.prog 69 #[.pointer (some ⟨bp,0,none⟩),.slice (some ⟨g,0,none⟩) 3 3] (W.alloc (.cells #[.int .i64 14,.int .i64 15,.int .i64 16] 127)) fun e w' => ∃ N : PTok,N = tkN toks R4.2.1 ∧ e = .returned (.agg #[.int .i64 (srt N),.string N.s,.int .i64 (tval N),.int .i64 N.line]) ∧ (W.alloc (.cells #[.int .i64 14,.int .i64 15,.int .i64 16] 127)).grownBy w' (some bp) ∧ Ps w' bp gt capt toks S5) := fun W g hW hg => (gr_take' hE hi4 [14,15,16] 3 rfl (by decide) rfl hS5 W hW g hg rfl).mono fun e w' hx => ⟨_,rfl,hx⟩
 have hQK : Hid (Q = tkN toks R4.2.1) := hQ
 obtain ⟨M,hM⟩ : ∃ N,N = tkN toks S5.1 := ⟨_,rfl⟩
 obtain ⟨S6,hS6⟩ : ∃ S,S = pTake toks [3] S5 := ⟨_,rfl⟩
 have hi6 : S6.1 < toks.length := by rw [hS6];exact pTake_lt hE rfl hi5
 have HC6 : Hid (∀ W : World,Ps W bp gt capt toks S5 → Calls Tryz.prog 115 #[.pointer (some ⟨bp,0,none⟩)] W fun e w' => e = .returned (.agg #[.int .i64 (srt M),.string M.s,.int .i64 (tval M),.int .i64 M.line]) ∧ W.grownBy w' (some bp) ∧ Ps w' bp gt capt toks S6) := fun W hW => gr_number' hE hi5 hM hS6 W hW
 have HRes : Hid (pStmt toks st = ({ kw := T,name := N,terms := R4.1,rel := Q,numbers := [M] },S6)) := by
  rw [Hid];rw [hS6,hM,hS5,hQ,hR4,hS3,hS2,hN,hS1,hT];unfold pStmt;simp [← hT,hk,pLin]
 have HX : Hid (∀ e w',(∃ vn vu vt vl,e = .returned (.agg (gsCells ({ kw := T,name := N,terms := R4.1,rel := Q,numbers := [M] }) vn vu vt vl)) ∧ GsOwn w' w.heap.size ({ kw := T,name := N,terms := R4.1,rel := Q,numbers := [M] }) vn vu vt vl ∧ w.grownBy w' (some bp) ∧ Ps w' bp gt capt toks S6 ∧ (S6).1 < toks.length) → StPost toks st w bp gt capt e w') := fun e w' hx => by unfold StPost;rw [HRes.out];exact hx
 clear h hk HRes hT hS1 hN hS2 hS3 hR4 hQ hS5 hM hS6
 go_enter Tryz.func68,Tryz.ntmps68
 go_wp2_with (first | (go_at_call 115;refine (HC6.out _ (hP5.sf4 hbb hgb 11 (.int .i64 (srt Q)) (.string Q.s) (.int .i64 (tval Q)) (.int .i64 Q.line))).mono ?_;rintro e w6 ⟨rfl,hg6,hP6⟩;have s6 := t5.call0 hg6;have f9_6 := frozen_of s6.hS 9;obtain ⟨a0,a1,a2,a3,a4,a5,a6,a7,a8,a9,a10,a11,a12,a13,a14,a15,z0,z1,z2,z3,z4,z5,z6,z7,z8,z9,z10,z11,z12,z13,z14,z15⟩ := cells16 s6.hA;obtain ⟨c0,c1,c2,c3,c4,c5,c6,c7,c8,c9,c10,c11,c12,c13,c14,c15,_,_,_,_,_,_,_,_,_,_,_,_,_,_,_,_⟩ := cells16 s6.hS;have hq0 := s6.lt;have hq1 := s6.lo;have hq4 : w.heap.size < w6.heap.size := (by omega);have hq2 : w.heap.size ≠ w1.heap.size := (by omega);have hq3 : w1.heap.size ≠ w.heap.size := (by omega);have o4_6 := (o4_5.kept hg6 (low_ne' o4_5 (by have := s1.lp;have := s1.lo;first | omega | (simp;omega))))) | (go_at_call 69;refine (HC5.out _ _ (hP4.sf hbb hgb 10 (.slice va4 vm4 vc4)) (by first | rfl | (simp;done) | simp [World.setCell])).mono ?_;rw [← hQK.out];rintro e w5 ⟨X5,hX5,rfl,hg5,hP5⟩;subst X5;have s5 := t4.call hg5;have c11_5 := cell_of s5.hS 11 _ rfl;have f11_5 := frozen_of s5.hS 11;have c12_5 := cell_of s5.hS 12 _ rfl;have f12_5 := frozen_of s5.hS 12;have c13_5 := cell_of s5.hS 13 _ rfl;have f13_5 := frozen_of s5.hS 13;have c14_5 := cell_of s5.hS 14 _ rfl;have f14_5 := frozen_of s5.hS 14;have t5 := s5.set4 (cs' := #[.int .i64 (srt T),.string T.s,.int .i64 (tval T),.int .i64 T.line,.int .i64 (srt N),.string N.s,.int .i64 (tval N),.int .i64 N.line,.slice none 0 0,.slice none 0 0,.slice va4 vm4 vc4,.int .i64 (srt Q),.string Q.s,.int .i64 (tval Q),.int .i64 Q.line,.slice none 0 0]) 11 (.int .i64 (srt Q)) (.string Q.s) (.int .i64 (tval Q)) (.int .i64 Q.line) rfl;have hl5 := t5.lt;have o4_5 := (own_far (own_far (own_far (own_far ((own4.alloc _).kept hg5 (low_ne' own4 (by have := s1.lp;have := s1.lo;first | omega | (simp;omega)))) hb4 11 (.int .i64 (srt Q))) hb4 12 (.string Q.s)) hb4 13 (.int .i64 (tval Q))) hb4 14 (.int .i64 Q.line))) | (go_at_call 117;refine (HC4.out _ hP3).mono ?_;rintro e w4 ⟨v4,rfl,hown4,hg4,hP4,_⟩;obtain ⟨va4,vm4,vc4,rfl⟩ := own_slice hown4;have s4 := s3.call0 hg4;have hb4 : w1.heap.size < _ := s3.lt;have c10_4 := cell_of s4.hS 10 _ rfl;have f10_4 := frozen_of s4.hS 10;have t4 := s4.sf (cs' := #[.int .i64 (srt T),.string T.s,.int .i64 (tval T),.int .i64 T.line,.int .i64 (srt N),.string N.s,.int .i64 (tval N),.int .i64 N.line,.slice none 0 0,.slice none 0 0,.slice va4 vm4 vc4,.int .i64 0,.string .empty,.int .i64 0,.int .i64 0,.slice none 0 0]) 10 (.slice va4 vm4 vc4) rfl;have hl4 := t4.lt;have own4 := own_far hown4 hb4 10 (.slice va4 vm4 vc4)) | (go_at_call 69;refine (HC3.out _ _ (hP2.sf4 hbb hgb 4 (.int .i64 (srt N)) (.string N.s) (.int .i64 (tval N)) (.int .i64 N.line)) (by first | rfl | (simp;done) | simp [World.setCell])).mono ?_;rintro e w3 ⟨X3,_,rfl,hg3,hP3⟩;have s3 := t2.call hg3;have hl3 := s3.lt) | (go_at_call 114;refine (HC2.out _ (hP1.alloc _)).mono ?_;rintro e w2 ⟨rfl,hg2,hP2⟩;have s2 := s1.call0 hg2;have c4_2 := cell_of s2.hS 4 _ rfl;have f4_2 := frozen_of s2.hS 4;have c5_2 := cell_of s2.hS 5 _ rfl;have f5_2 := frozen_of s2.hS 5;have c6_2 := cell_of s2.hS 6 _ rfl;have f6_2 := frozen_of s2.hS 6;have c7_2 := cell_of s2.hS 7 _ rfl;have f7_2 := frozen_of s2.hS 7;have t2 := s2.set4 (cs' := #[.int .i64 (srt T),.string T.s,.int .i64 (tval T),.int .i64 T.line,.int .i64 (srt N),.string N.s,.int .i64 (tval N),.int .i64 N.line,.slice none 0 0,.slice none 0 0,.slice none 0 0,.int .i64 0,.string .empty,.int .i64 0,.int .i64 0,.slice none 0 0]) 4 (.int .i64 (srt N)) (.string N.s) (.int .i64 (tval N)) (.int .i64 N.line) rfl;have hl2 := t2.lt) | (go_at_call 69;refine HC1.get.mono ?_;rintro e w1 ⟨rfl,hg1,hP1⟩;have s1 := sb_start hlp hg1 #[.int .i64 (srt T),.string T.s,.int .i64 (tval T),.int .i64 T.line,.int .i64 0,.string .empty,.int .i64 0,.int .i64 0,.slice none 0 0,.slice none 0 0,.slice none 0 0,.int .i64 0,.string .empty,.int .i64 0,.int .i64 0,.slice none 0 0];have hbb : bp < w1.heap.size := (by have := s1.lo;omega);have hgb : gt < w1.heap.size := (by have := s1.lo;omega)))
 have tE := s6.sf (cs' := #[.int .i64 (srt T),.string T.s,.int .i64 (tval T),.int .i64 T.line,.int .i64 (srt N),.string N.s,.int .i64 (tval N),.int .i64 N.line,.slice none 0 0,.slice (some ⟨w6.heap.size,0,none⟩) 1 1,.slice va4 vm4 vc4,.int .i64 (srt Q),.string Q.s,.int .i64 (tval Q),.int .i64 Q.line,.slice none 0 0]) 9 (.slice (some ⟨w6.heap.size,0,none⟩) 1 1) rfl
 obtain ⟨hF,hgF,hPF,hoF⟩ := st_end (gt := gt) (capt := capt) (toks := toks) tE hlg (.int .i64 (srt T)) (.string T.s) (.int .i64 (tval T)) (.int .i64 T.line) (.int .i64 (srt N)) (.string N.s) (.int .i64 (tval N)) (.int .i64 N.line) (.slice none 0 0) (.slice (some ⟨w6.heap.size,0,none⟩) 1 1) (.slice va4 vm4 vc4) (.int .i64 (srt Q)) (.string Q.s) (.int .i64 (tval Q)) (.int .i64 Q.line) (.slice none 0 0)
 refine bodyPost_ret (results_cell_row rfl _ _ w.heap.size 137 _ _ _ rfl ((heap_alloc_old _ _ (by have := hgF.size;simp [World.setCell];omega)).trans hF) Tryz.underlying137 rfl (by kernel_rfl)) rfl ?_
 exact HX.out _ _ ⟨.slice none 0 0,.slice (some ⟨w6.heap.size,0,none⟩) 1 1,.slice va4 vm4 vc4,.slice none 0 0,rfl,⟨World.ownsRow_nil _ _ _ _,by have q := own_new (B := w.heap.size) (s := 4) (e := 129) (cs := #[.int .i64 (srt M),.string M.s,.int .i64 (tval M),.int .i64 M.line]) (heap_alloc_new _ _) (Nat.le_trans hgF.size (Nat.le_refl _)) rfl;simpa [World.setCell,tokCells,tokCell] using q,World.ownsRow.alloc (hoF _ _ _ _ _ _ (by have := s1.lo;have := hb4;first | omega | (simp at *;omega)) (own_far o4_6 hb4 9 (.slice (some ⟨w6.heap.size,0,none⟩) 1 1))) _,World.ownsRow_nil _ _ _ _⟩,hgF.trans (World.grownBy_alloc _ _ _),(hPF _ (hP6.sf hbb hgb 9 (.slice (some ⟨w6.heap.size,0,none⟩) 1 1))).alloc _,hi6⟩
end
section
set_option maxHeartbeats 8000000
set_option maxRecDepth 100000
variable {w : World} {bp gt capt : Nat} {toks : List PTok} {st : PSt}
theorem gr_st_at (h : Ps w bp gt capt toks st) (hE : EndOk toks) (hi : st.1 < toks.length) (hk : srt (tkN toks st.1) = 8) : Calls Tryz.prog 68 #[.pointer (some ⟨bp,0,none⟩)] w (StPost toks st w bp gt capt) := by
 have HP : Hid (Ps w bp gt capt toks st) := h
 have hlp := h.lt
 have hlg := h.ltg
 have hlen := hE.len
 obtain ⟨T,hT⟩ : ∃ T,T = tkN toks st.1 := ⟨_,rfl⟩
 rw [← hT] at hk
 obtain ⟨S1,hS1⟩ : ∃ S,S = pTake toks kwSorts st := ⟨_,rfl⟩
 have hi1 : S1.1 < toks.length := by rw [hS1];exact pTake_lt hE rfl hi
 have HC1 := Kept.mk (gr_take' hE hi kwSorts 7 rfl (by decide) hT hS1 (o := .cells #[.int .i64 4,.int .i64 5,.int .i64 6,.int .i64 7,.int .i64 8,.int .i64 9,.int .i64 10] 127) (w.alloc (.cells zero16 137)) (HP.out.alloc _) (w.heap.size + 1) (by simp) rfl)
 have e4 : (srt T == 4) = false := by rw [hk];rfl
 have e5 : (srt T == 5) = false := by rw [hk];rfl
 have e7 : (srt T == 7) = false := by rw [hk];rfl
 have e6 : (srt T == 6) = false := by rw [hk];rfl
 have e8 : (srt T == 8) = true := by rw [hk];rfl
 have e9 : (srt T == 9) = false := by rw [hk];rfl
 have e10 : (srt T == 10) = false := by rw [hk];rfl
 obtain ⟨N,hN⟩ : ∃ N,N = tkN toks S1.1 := ⟨_,rfl⟩
 obtain ⟨S2,hS2⟩ : ∃ S,S = pTake toks [2] S1 := ⟨_,rfl⟩
 have hi2 : S2.1 < toks.length := by rw [hS2];exact pTake_lt hE rfl hi1
 have HC2 : Hid (∀ W : World,Ps W bp gt capt toks S1 → Calls Tryz.prog 114 #[.pointer (some ⟨bp,0,none⟩)] W fun e w' => e = .returned (.agg #[.int .i64 (srt N),.string N.s,.int .i64 (tval N),.int .i64 N.line]) ∧ W.grownBy w' (some bp) ∧ Ps w' bp gt capt toks S2) := fun W hW => gr_name' hE hi1 hN hS2 W hW
 obtain ⟨S3,hS3⟩ : ∃ S,S = pTake toks [18] S2 := ⟨_,rfl⟩
 have hi3 : S3.1 < toks.length := by rw [hS3];exact pTake_lt hE rfl hi2
 have HC3 : Hid (∀ (W : World) (g : Nat),Ps W bp gt capt toks S2 → g = W.heap.size → Calls Tryz.prog 69 #[.pointer (some ⟨bp,0,none⟩),.slice (some ⟨g,0,none⟩) 1 1] (W.alloc (.cells #[.int .i64 18] 127)) fun e w' => ∃ N : PTok,N = tkN toks S2.1 ∧ e = .returned (.agg #[.int .i64 (srt N),.string N.s,.int .i64 (tval N),.int .i64 N.line]) ∧ (W.alloc (.cells #[.int .i64 18] 127)).grownBy w' (some bp) ∧ Ps w' bp gt capt toks S3) := fun W g hW hg => (gr_take' hE hi2 [18] 1 rfl (by decide) rfl hS3 W hW g hg rfl).mono fun e w' hx => ⟨_,rfl,hx⟩
 obtain ⟨L,hL⟩ : ∃ N,N = tkN toks S3.1 := ⟨_,rfl⟩
 obtain ⟨S4,hS4⟩ : ∃ S,S = pTake toks [2] S3 := ⟨_,rfl⟩
 have hi4 : S4.1 < toks.length := by rw [hS4];exact pTake_lt hE rfl hi3
 have HC4 : Hid (∀ W : World,Ps W bp gt capt toks S3 → Calls Tryz.prog 114 #[.pointer (some ⟨bp,0,none⟩)] W fun e w' => e = .returned (.agg #[.int .i64 (srt L),.string L.s,.int .i64 (tval L),.int .i64 L.line]) ∧ W.grownBy w' (some bp) ∧ Ps w' bp gt capt toks S4) := fun W hW => gr_name' hE hi3 hL hS4 W hW
 obtain ⟨S5,hS5⟩ : ∃ S,S = pTake toks [19] S4 := ⟨_,rfl⟩
 have hi5 : S5.1 < toks.length := by rw [hS5];exact pTake_lt hE rfl hi4
 have HC5 : Hid (∀ (W : World) (g : Nat),Ps W bp gt capt toks S4 → g = W.heap.size → Calls Tryz.prog 69 #[.pointer (some ⟨bp,0,none⟩),.slice (some ⟨g,0,none⟩) 1 1] (W.alloc (.cells #[.int .i64 19] 127)) fun e w' => ∃ N : PTok,N = tkN toks S4.1 ∧ e = .returned (.agg #[.int .i64 (srt N),.string N.s,.int .i64 (tval N),.int .i64 N.line]) ∧ (W.alloc (.cells #[.int .i64 19] 127)).grownBy w' (some bp) ∧ Ps w' bp gt capt toks S5) := fun W g hW hg => (gr_take' hE hi4 [19] 1 rfl (by decide) rfl hS5 W hW g hg rfl).mono fun e w' hx => ⟨_,rfl,hx⟩
 obtain ⟨S6,hS6⟩ : ∃ S,S = pTake toks [14] S5 := ⟨_,rfl⟩
 have hi6 : S6.1 < toks.length := by rw [hS6];exact pTake_lt hE rfl hi5
 have HC6 : Hid (∀ (W : World) (g : Nat),Ps W bp gt capt toks S5 → g = W.heap.size → Calls Tryz.prog 69 #[.pointer (some ⟨bp,0,none⟩),.slice (some ⟨g,0,none⟩) 1 1] (W.alloc (.cells #[.int .i64 14] 127)) fun e w' => ∃ N : PTok,N = tkN toks S5.1 ∧ e = .returned (.agg #[.int .i64 (srt N),.string N.s,.int .i64 (tval N),.int .i64 N.line]) ∧ (W.alloc (.cells #[.int .i64 14] 127)).grownBy w' (some bp) ∧ Ps w' bp gt capt toks S6) := fun W g hW hg => (gr_take' hE hi5 [14] 1 rfl (by decide) rfl hS6 W hW g hg rfl).mono fun e w' hx => ⟨_,rfl,hx⟩
 obtain ⟨M,hM⟩ : ∃ N,N = tkN toks S6.1 := ⟨_,rfl⟩
 obtain ⟨S7,hS7⟩ : ∃ S,S = pTake toks [2] S6 := ⟨_,rfl⟩
 have hi7 : S7.1 < toks.length := by rw [hS7];exact pTake_lt hE rfl hi6
 have HC7 : Hid (∀ W : World,Ps W bp gt capt toks S6 → Calls Tryz.prog 114 #[.pointer (some ⟨bp,0,none⟩)] W fun e w' => e = .returned (.agg #[.int .i64 (srt M),.string M.s,.int .i64 (tval M),.int .i64 M.line]) ∧ W.grownBy w' (some bp) ∧ Ps w' bp gt capt toks S7) := fun W hW => gr_name' hE hi6 hM hS7 W hW
 have HRes : Hid (pStmt toks st = ({ kw := T,name := N,names := [L,M] },S7)) := by
  rw [Hid];rw [hS7,hM,hS6,hS5,hS4,hL,hS3,hS2,hN,hS1,hT];unfold pStmt;simp [← hT,hk]
 have HX : Hid (∀ e w',(∃ vn vu vt vl,e = .returned (.agg (gsCells ({ kw := T,name := N,names := [L,M] }) vn vu vt vl)) ∧ GsOwn w' w.heap.size ({ kw := T,name := N,names := [L,M] }) vn vu vt vl ∧ w.grownBy w' (some bp) ∧ Ps w' bp gt capt toks S7 ∧ (S7).1 < toks.length) → StPost toks st w bp gt capt e w') := fun e w' hx => by unfold StPost;rw [HRes.out];exact hx
 clear h hk HRes hT hS1 hN hS2 hS3 hL hS4 hS5 hS6 hM hS7
 go_enter Tryz.func68,Tryz.ntmps68
 go_wp2_with (first | (go_at_call 69;refine (HC6.out _ _ hP5 (by first | rfl | (simp;done) | simp [World.setCell])).mono ?_;rintro e w6 ⟨X6,_,rfl,hg6,hP6⟩;have s6 := s5.call hg6;have hl6 := s6.lt;clear d0 d1 d2 d3;have hp5 := hP5.lt;have hv6 : w4.heap.size < w6.heap.size := (by have := hg6.size;simp at this;omega);have hB6 := past1 hB5 hv5 hg6 (by simp;omega);obtain ⟨d0,d1,d2,d3,_,_,_,_⟩ := cells4 hB6) | (go_at_call 69;refine (HC5.out _ _ (hP4.alloc _) (by first | rfl | (simp;done) | simp [World.setCell])).mono ?_;rintro e w5 ⟨X5,_,rfl,hg5,hP5⟩;have s5 := (s4.alloc _).call hg5;have hl5 := s5.lt;have hp4 := hP4.lt;have hv5 : w4.heap.size < w5.heap.size := (by have := hg5.size;simp at this;omega);have hB5 := past0 (heap_alloc2_old w4 _ _) (by simp;omega) hg5 (by simp;omega);obtain ⟨d0,d1,d2,d3,_,_,_,_⟩ := cells4 hB5) | (go_at_call 114;refine (HC4.out _ hP3).mono ?_;rintro e w4 ⟨rfl,hg4,hP4⟩;have s4 := s3.call0 hg4;have hl4 := s4.lt) | (go_at_call 69;refine (HC3.out _ _ (hP2.sf4 hbb hgb 4 (.int .i64 (srt N)) (.string N.s) (.int .i64 (tval N)) (.int .i64 N.line)) (by first | rfl | (simp;done) | simp [World.setCell])).mono ?_;rintro e w3 ⟨X3,_,rfl,hg3,hP3⟩;have s3 := t2.call hg3;have hl3 := s3.lt) | (go_at_call 114;refine (HC2.out _ (hP1.alloc _)).mono ?_;rintro e w2 ⟨rfl,hg2,hP2⟩;have s2 := s1.call0 hg2;have c4_2 := cell_of s2.hS 4 _ rfl;have f4_2 := frozen_of s2.hS 4;have c5_2 := cell_of s2.hS 5 _ rfl;have f5_2 := frozen_of s2.hS 5;have c6_2 := cell_of s2.hS 6 _ rfl;have f6_2 := frozen_of s2.hS 6;have c7_2 := cell_of s2.hS 7 _ rfl;have f7_2 := frozen_of s2.hS 7;have t2 := s2.set4 (cs' := #[.int .i64 (srt T),.string T.s,.int .i64 (tval T),.int .i64 T.line,.int .i64 (srt N),.string N.s,.int .i64 (tval N),.int .i64 N.line,.slice none 0 0,.slice none 0 0,.slice none 0 0,.int .i64 0,.string .empty,.int .i64 0,.int .i64 0,.slice none 0 0]) 4 (.int .i64 (srt N)) (.string N.s) (.int .i64 (tval N)) (.int .i64 N.line) rfl;have hl2 := t2.lt) | (go_at_call 69;refine HC1.get.mono ?_;rintro e w1 ⟨rfl,hg1,hP1⟩;have s1 := sb_start hlp hg1 #[.int .i64 (srt T),.string T.s,.int .i64 (tval T),.int .i64 T.line,.int .i64 0,.string .empty,.int .i64 0,.int .i64 0,.slice none 0 0,.slice none 0 0,.slice none 0 0,.int .i64 0,.string .empty,.int .i64 0,.int .i64 0,.slice none 0 0];have hbb : bp < w1.heap.size := (by have := s1.lo;omega);have hgb : gt < w1.heap.size := (by have := s1.lo;omega)))
 have hp6 := hP6.lt
 go_region_law (go_simp;go_at_call 114;refine (HC7.out _ hP6.drew).mono ?_;rintro e w7 ⟨rfl,hg7,hP7⟩;have s7 := s6.drew.call0 hg7;have hB7 := past0 (w := w6.drew) hB6 hv6 hg7 (by simp;omega);clear d0 d1 d2 d3;obtain ⟨d0,d1,d2,d3,_,_,_,_⟩ := cells4 hB7;have f8_7 := frozen_of s7.hS 8;obtain ⟨a0,a1,a2,a3,a4,a5,a6,a7,a8,a9,a10,a11,a12,a13,a14,a15,z0,z1,z2,z3,z4,z5,z6,z7,z8,z9,z10,z11,z12,z13,z14,z15⟩ := cells16 s7.hA;obtain ⟨c0,c1,c2,c3,c4,c5,c6,c7,c8,c9,c10,c11,c12,c13,c14,c15,_,_,_,_,_,_,_,_,_,_,_,_,_,_,_,_⟩ := cells16 s7.hS;have hq0 := s7.lt;have hq1 := s7.lo;have hq4 : w.heap.size < w7.heap.size := (by omega);have hq2 : w.heap.size ≠ w1.heap.size := (by omega);have hq3 : w1.heap.size ≠ w.heap.size := (by omega))
 all_goals go_wp2
 all_goals have tE := s7.sf (cs' := #[.int .i64 (srt T),.string T.s,.int .i64 (tval T),.int .i64 T.line,.int .i64 (srt N),.string N.s,.int .i64 (tval N),.int .i64 N.line,.slice (some ⟨w7.heap.size,0,none⟩) 2 2,.slice none 0 0,.slice none 0 0,.int .i64 0,.string .empty,.int .i64 0,.int .i64 0,.slice none 0 0]) 8 (.slice (some ⟨w7.heap.size,0,none⟩) 2 2) rfl
 all_goals obtain ⟨hF,hgF,hPF,hoF⟩ := st_end (gt := gt) (capt := capt) (toks := toks) tE hlg (.int .i64 (srt T)) (.string T.s) (.int .i64 (tval T)) (.int .i64 T.line) (.int .i64 (srt N)) (.string N.s) (.int .i64 (tval N)) (.int .i64 N.line) (.slice (some ⟨w7.heap.size,0,none⟩) 2 2) (.slice none 0 0) (.slice none 0 0) (.int .i64 0) (.string .empty) (.int .i64 0) (.int .i64 0) (.slice none 0 0)
 all_goals refine bodyPost_ret (results_cell_row rfl _ _ w.heap.size 137 _ _ _ rfl ((heap_alloc_old _ _ (by have := hgF.size;simp [World.setCell];omega)).trans hF) Tryz.underlying137 rfl (by kernel_rfl)) rfl ?_
 all_goals exact HX.out _ _ ⟨.slice (some ⟨w7.heap.size,0,none⟩) 2 2,.slice none 0 0,.slice none 0 0,.slice none 0 0,by simp only [gsCells,srt_zero,tval_zero];rfl,⟨by have q := own_newN (B := w.heap.size) (s := 4) (n := 2) (e := 129) (cs := #[.int .i64 (srt L),.string L.s,.int .i64 (tval L),.int .i64 L.line,.int .i64 (srt M),.string M.s,.int .i64 (tval M),.int .i64 M.line]) (heap_alloc_new _ _) (Nat.le_trans hgF.size (Nat.le_refl _)) rfl (by decide);simpa [World.setCell,tokCells,tokCell] using q,World.ownsRow_nil _ _ _ _,World.ownsRow_nil _ _ _ _,World.ownsRow_nil _ _ _ _⟩,hgF.trans (World.grownBy_alloc _ _ _),(hPF _ (hP7.sf hbb hgb 8 (.slice (some ⟨w7.heap.size,0,none⟩) 2 2))).alloc _,hi7⟩
end
section
set_option maxHeartbeats 4000000
set_option maxRecDepth 100000
variable {w : World} {bp gt capt : Nat} {toks : List PTok} {st : PSt}
theorem gr_st_diff (h : Ps w bp gt capt toks st) (hE : EndOk toks) (hi : st.1 < toks.length) (hk : srt (tkN toks st.1) = 9) : Calls Tryz.prog 68 #[.pointer (some ⟨bp,0,none⟩)] w (StPost toks st w bp gt capt) := by
 have HP : Hid (Ps w bp gt capt toks st) := h
 have hlp := h.lt
 have hlg := h.ltg
 have hlen := hE.len
 obtain ⟨T,hT⟩ : ∃ T,T = tkN toks st.1 := ⟨_,rfl⟩
 rw [← hT] at hk
 obtain ⟨S1,hS1⟩ : ∃ S,S = pTake toks kwSorts st := ⟨_,rfl⟩
 have hi1 : S1.1 < toks.length := by rw [hS1];exact pTake_lt hE rfl hi
 have HC1 := Kept.mk (gr_take' hE hi kwSorts 7 rfl (by decide) hT hS1 (o := .cells #[.int .i64 4,.int .i64 5,.int .i64 6,.int .i64 7,.int .i64 8,.int .i64 9,.int .i64 10] 127) (w.alloc (.cells zero16 137)) (HP.out.alloc _) (w.heap.size + 1) (by simp) rfl)
 have e4 : (srt T == 4) = false := by rw [hk];rfl
 have e5 : (srt T == 5) = false := by rw [hk];rfl
 have e7 : (srt T == 7) = false := by rw [hk];rfl
 have e6 : (srt T == 6) = false := by rw [hk];rfl
 have e8 : (srt T == 8) = false := by rw [hk];rfl
 have e9 : (srt T == 9) = true := by rw [hk];rfl
 have e10 : (srt T == 10) = false := by rw [hk];rfl
 obtain ⟨R,hR⟩ : ∃ R,R = pSer toks (pTok toks 2) S1 := ⟨_,rfl⟩
 have HRes : Hid (pStmt toks st = ({ kw := T,names := R.1 },R.2)) := by
  rw [Hid,hR,hS1,hT];unfold pStmt;simp [← hT,hk]
 have HC2 : Hid (∀ W : World,Ps W bp gt capt toks S1 → Calls Tryz.prog 116 #[.pointer (some ⟨bp,0,none⟩),.func (.func 114) #[.pointer (some ⟨bp,0,none⟩)] #[]] W fun e w' => ∃ v,e = .returned v ∧ w'.ownsRow W.heap.size 129 4 v R.1.length (tokCells R.1) ∧ W.grownBy w' (some bp) ∧ Ps w' bp gt capt toks R.2 ∧ R.2.1 < toks.length) := fun W hW => by
  rw [hR];exact gr_ser_name hW hE hi1
 have HX : Hid (∀ e w',(∃ vn vu vt vl,e = .returned (.agg (gsCells { kw := T,names := R.1 } vn vu vt vl)) ∧ GsOwn w' w.heap.size { kw := T,names := R.1 } vn vu vt vl ∧ w.grownBy w' (some bp) ∧ Ps w' bp gt capt toks R.2 ∧ R.2.1 < toks.length) → StPost toks st w bp gt capt e w') := fun e w' hx => by unfold StPost;rw [HRes.out];exact hx
 clear h hk hT hS1 hR HRes
 go_enter Tryz.func68,Tryz.ntmps68
 go_wp2_with (first | (go_at_call 116;refine (HC2.out _ (hP1.alloc _)).mono ?_;rintro e w2 ⟨v,rfl,hown,hg2,hP2,hi2⟩;obtain ⟨va,vm,vc,rfl⟩ := own_slice hown;have s2 := s1.call0 hg2;have hb0 := s2.lt;have hb1 := s2.lo;have hb2 : w.heap.size < w2.heap.size := (by omega);have hb3 : w.heap.size ≠ w1.heap.size := (by omega);have hb4 : w1.heap.size ≠ w.heap.size := (by omega);obtain ⟨c0,c1,c2,c3,c4,c5,c6,c7,c8,c9,c10,c11,c12,c13,c14,c15,_,_,_,_,_,_,_,_,f8,_,_,_,_,_,_,_⟩ := cells16 s2.hS;obtain ⟨a0,a1,a2,a3,a4,a5,a6,a7,a8,a9,a10,a11,a12,a13,a14,a15,z0,z1,z2,z3,z4,z5,z6,z7,z8,z9,z10,z11,z12,z13,z14,z15⟩ := cells16 s2.hA) | (go_at_call 69;refine HC1.get.mono ?_;rintro e w1 ⟨rfl,hg1,hP1⟩;have s1 := sb_start hlp hg1 #[.int .i64 (srt T),.string T.s,.int .i64 (tval T),.int .i64 T.line,.int .i64 0,.string .empty,.int .i64 0,.int .i64 0,.slice none 0 0,.slice none 0 0,.slice none 0 0,.int .i64 0,.string .empty,.int .i64 0,.int .i64 0,.slice none 0 0]))
 have s3 := s2.sf (cs' := #[.int .i64 (srt T),.string T.s,.int .i64 (tval T),.int .i64 T.line,.int .i64 0,.string .empty,.int .i64 0,.int .i64 0,.slice va vm vc,.slice none 0 0,.slice none 0 0,.int .i64 0,.string .empty,.int .i64 0,.int .i64 0,.slice none 0 0]) 8 (.slice va vm vc) rfl
 obtain ⟨hF,hgF,hPF,hoF⟩ := st_end (gt := gt) (capt := capt) (toks := toks) s3 hlg (.int .i64 (srt T)) (.string T.s) (.int .i64 (tval T)) (.int .i64 T.line) (.int .i64 0) (.string .empty) (.int .i64 0) (.int .i64 0) (.slice va vm vc) (.slice none 0 0) (.slice none 0 0) (.int .i64 0) (.string .empty) (.int .i64 0) (.int .i64 0) (.slice none 0 0)
 refine bodyPost_ret (results_cell_row rfl _ _ w.heap.size 137 _ _ _ rfl hF Tryz.underlying137 rfl (by kernel_rfl)) rfl ?_
 refine HX.out _ _ ⟨.slice va vm vc,.slice none 0 0,.slice none 0 0,.slice none 0 0,by simp only [gsCells,srt_zero,tval_zero];rfl,⟨hoF _ _ _ _ _ _ (by simp;omega) (own_far hown (by simp) _ _),World.ownsRow_nil _ _ _ _,World.ownsRow_nil _ _ _ _,World.ownsRow_nil _ _ _ _⟩,hgF,hPF _ (hP2.sf (by omega) (by omega) _ _),hi2⟩
end
section
set_option maxHeartbeats 8000000
set_option maxRecDepth 100000
variable {w : World} {bp gt capt : Nat} {toks : List PTok} {st : PSt}
theorem gr_st_or (h : Ps w bp gt capt toks st) (hE : EndOk toks) (hi : st.1 < toks.length) (hk : srt (tkN toks st.1) = 10) : Calls Tryz.prog 68 #[.pointer (some ⟨bp,0,none⟩)] w (StPost toks st w bp gt capt) := by
 have HP : Hid (Ps w bp gt capt toks st) := h
 have hlp := h.lt
 have hlg := h.ltg
 have hlen := hE.len
 obtain ⟨T,hT⟩ : ∃ T,T = tkN toks st.1 := ⟨_,rfl⟩
 rw [← hT] at hk
 obtain ⟨S1,hS1⟩ : ∃ S,S = pTake toks kwSorts st := ⟨_,rfl⟩
 have hi1 : S1.1 < toks.length := by rw [hS1];exact pTake_lt hE rfl hi
 have HC1 := Kept.mk (gr_take' hE hi kwSorts 7 rfl (by decide) hT hS1 (o := .cells #[.int .i64 4,.int .i64 5,.int .i64 6,.int .i64 7,.int .i64 8,.int .i64 9,.int .i64 10] 127) (w.alloc (.cells zero16 137)) (HP.out.alloc _) (w.heap.size + 1) (by simp) rfl)
 have e4 : (srt T == 4) = false := by rw [hk];rfl
 have e5 : (srt T == 5) = false := by rw [hk];rfl
 have e7 : (srt T == 7) = false := by rw [hk];rfl
 have e6 : (srt T == 6) = false := by rw [hk];rfl
 have e8 : (srt T == 8) = false := by rw [hk];rfl
 have e9 : (srt T == 9) = false := by rw [hk];rfl
 have e10 : (srt T == 10) = true := by rw [hk];rfl
 obtain ⟨R2,hR2⟩ : ∃ R,R = pSer toks (pLit toks) S1 := ⟨_,rfl⟩
 have hi2 : R2.2.1 < toks.length := by rw [hR2];exact pSer_lt hE (fun S h => (pLit_lt hE h).1) hi1
 have HC2 : Hid (∀ W : World,Ps W bp gt capt toks S1 → Calls Tryz.prog 118 #[.pointer (some ⟨bp,0,none⟩),.func (.func 119) #[.pointer (some ⟨bp,0,none⟩)] #[]] W fun e w' => ∃ v,e = .returned v ∧ w'.ownsRow W.heap.size 194 8 v R2.1.length (glCells R2.1) ∧ W.grownBy w' (some bp) ∧ Ps w' bp gt capt toks R2.2 ∧ R2.2.1 < toks.length) := fun W hW => by rw [hR2];exact gr_ser_lit hW hE hi1
 have HRes : Hid (pStmt toks st = ({ kw := T,lits := R2.1 },R2.2)) := by
  rw [Hid];rw [hR2,hS1,hT];unfold pStmt;simp [← hT,hk]
 have HX : Hid (∀ e w',(∃ vn vu vt vl,e = .returned (.agg (gsCells ({ kw := T,lits := R2.1 }) vn vu vt vl)) ∧ GsOwn w' w.heap.size ({ kw := T,lits := R2.1 }) vn vu vt vl ∧ w.grownBy w' (some bp) ∧ Ps w' bp gt capt toks R2.2 ∧ (R2.2).1 < toks.length) → StPost toks st w bp gt capt e w') := fun e w' hx => by unfold StPost;rw [HRes.out];exact hx
 clear h hk HRes hT hS1 hR2
 go_enter Tryz.func68,Tryz.ntmps68
 go_wp2_with (first | (go_at_call 118;refine (HC2.out _ (hP1.alloc _)).mono ?_;rintro e w2 ⟨v2,rfl,hown2,hg2,hP2,_⟩;obtain ⟨va2,vm2,vc2,rfl⟩ := own_slice hown2;have s2 := s1.call0 hg2;have hb2 : w1.heap.size < _ := s1.lt;have c15_2 := cell_of s2.hS 15 _ rfl;have f15_2 := frozen_of s2.hS 15;have t2 := s2.sf (cs' := #[.int .i64 (srt T),.string T.s,.int .i64 (tval T),.int .i64 T.line,.int .i64 0,.string .empty,.int .i64 0,.int .i64 0,.slice none 0 0,.slice none 0 0,.slice none 0 0,.int .i64 0,.string .empty,.int .i64 0,.int .i64 0,.slice va2 vm2 vc2]) 15 (.slice va2 vm2 vc2) rfl;have hl2 := t2.lt;have own2 := own_far hown2 hb2 15 (.slice va2 vm2 vc2);obtain ⟨a0,a1,a2,a3,a4,a5,a6,a7,a8,a9,a10,a11,a12,a13,a14,a15,z0,z1,z2,z3,z4,z5,z6,z7,z8,z9,z10,z11,z12,z13,z14,z15⟩ := cells16 s2.hA;obtain ⟨c0,c1,c2,c3,c4,c5,c6,c7,c8,c9,c10,c11,c12,c13,c14,c15,_,_,_,_,_,_,_,_,_,_,_,_,_,_,_,_⟩ := cells16 s2.hS;have hq0 := s2.lt;have hq1 := s2.lo;have hq4 : w.heap.size < w2.heap.size := (by omega);have hq2 : w.heap.size ≠ w1.heap.size := (by omega);have hq3 : w1.heap.size ≠ w.heap.size := (by omega)) | (go_at_call 69;refine HC1.get.mono ?_;rintro e w1 ⟨rfl,hg1,hP1⟩;have s1 := sb_start hlp hg1 #[.int .i64 (srt T),.string T.s,.int .i64 (tval T),.int .i64 T.line,.int .i64 0,.string .empty,.int .i64 0,.int .i64 0,.slice none 0 0,.slice none 0 0,.slice none 0 0,.int .i64 0,.string .empty,.int .i64 0,.int .i64 0,.slice none 0 0];have hbb : bp < w1.heap.size := (by have := s1.lo;omega);have hgb : gt < w1.heap.size := (by have := s1.lo;omega)))
 obtain ⟨hF,hgF,hPF,hoF⟩ := st_end (gt := gt) (capt := capt) (toks := toks) t2 hlg (.int .i64 (srt T)) (.string T.s) (.int .i64 (tval T)) (.int .i64 T.line) (.int .i64 0) (.string .empty) (.int .i64 0) (.int .i64 0) (.slice none 0 0) (.slice none 0 0) (.slice none 0 0) (.int .i64 0) (.string .empty) (.int .i64 0) (.int .i64 0) (.slice va2 vm2 vc2)
 refine bodyPost_ret (results_cell_row rfl _ _ w.heap.size 137 _ _ _ rfl hF Tryz.underlying137 rfl (by kernel_rfl)) rfl ?_
 exact HX.out _ _ ⟨.slice none 0 0,.slice none 0 0,.slice none 0 0,.slice va2 vm2 vc2,by simp only [gsCells,srt_zero,tval_zero];rfl,⟨World.ownsRow_nil _ _ _ _,World.ownsRow_nil _ _ _ _,World.ownsRow_nil _ _ _ _,hoF _ _ _ _ _ _ (by have := s1.lo;have := hb2;first | omega | (simp at *;omega)) own2⟩,hgF,hPF _ (hP2.sf hbb hgb 15 (.slice va2 vm2 vc2)),hi2⟩
end
section
set_option maxHeartbeats 8000000
set_option maxRecDepth 100000
variable {w : World} {bp gt capt : Nat} {toks : List PTok} {st : PSt}
theorem gr_st_none (h : Ps w bp gt capt toks st) (hE : EndOk toks) (hi : st.1 < toks.length) (hk : kwSorts.contains (srt (tkN toks st.1)) = false) : Calls Tryz.prog 68 #[.pointer (some ⟨bp,0,none⟩)] w (StPost toks st w bp gt capt) := by
 have HP : Hid (Ps w bp gt capt toks st) := h
 have hlp := h.lt
 have hlg := h.ltg
 have hlen := hE.len
 obtain ⟨T,hT⟩ : ∃ T,T = tkN toks st.1 := ⟨_,rfl⟩
 rw [← hT] at hk
 obtain ⟨S1,hS1⟩ : ∃ S,S = pTake toks kwSorts st := ⟨_,rfl⟩
 have hi1 : S1.1 < toks.length := by rw [hS1];exact pTake_lt hE rfl hi
 have HC1 := Kept.mk (gr_take' hE hi kwSorts 7 rfl (by decide) hT hS1 (o := .cells #[.int .i64 4,.int .i64 5,.int .i64 6,.int .i64 7,.int .i64 8,.int .i64 9,.int .i64 10] 127) (w.alloc (.cells zero16 137)) (HP.out.alloc _) (w.heap.size + 1) (by simp) rfl)
 simp only [kwSorts,List.contains_cons,List.contains_nil,Bool.or_false,Bool.or_eq_false_iff] at hk
 have e4 : (srt T == 4) = false := by first | exact hk.1 | exact hk.2.1 | exact hk.2.2.1 | exact hk.2.2.2.1 | exact hk.2.2.2.2.1 | exact hk.2.2.2.2.2.1 | exact hk.2.2.2.2.2.2
 have e5 : (srt T == 5) = false := by first | exact hk.1 | exact hk.2.1 | exact hk.2.2.1 | exact hk.2.2.2.1 | exact hk.2.2.2.2.1 | exact hk.2.2.2.2.2.1 | exact hk.2.2.2.2.2.2
 have e7 : (srt T == 7) = false := by first | exact hk.1 | exact hk.2.1 | exact hk.2.2.1 | exact hk.2.2.2.1 | exact hk.2.2.2.2.1 | exact hk.2.2.2.2.2.1 | exact hk.2.2.2.2.2.2
 have e6 : (srt T == 6) = false := by first | exact hk.1 | exact hk.2.1 | exact hk.2.2.1 | exact hk.2.2.2.1 | exact hk.2.2.2.2.1 | exact hk.2.2.2.2.2.1 | exact hk.2.2.2.2.2.2
 have e8 : (srt T == 8) = false := by first | exact hk.1 | exact hk.2.1 | exact hk.2.2.1 | exact hk.2.2.2.1 | exact hk.2.2.2.2.1 | exact hk.2.2.2.2.2.1 | exact hk.2.2.2.2.2.2
 have e9 : (srt T == 9) = false := by first | exact hk.1 | exact hk.2.1 | exact hk.2.2.1 | exact hk.2.2.2.1 | exact hk.2.2.2.2.1 | exact hk.2.2.2.2.2.1 | exact hk.2.2.2.2.2.2
 have e10 : (srt T == 10) = false := by first | exact hk.1 | exact hk.2.1 | exact hk.2.2.1 | exact hk.2.2.2.1 | exact hk.2.2.2.2.1 | exact hk.2.2.2.2.2.1 | exact hk.2.2.2.2.2.2
 have HRes : Hid (pStmt toks st = ({ kw := T },S1)) := by
  rw [Hid];have d4 := hk.1;have d5 := hk.2.1;have d6 := hk.2.2.1;have d7 := hk.2.2.2.1;have d8 := hk.2.2.2.2.1;have d9 := hk.2.2.2.2.2.1;have d10 := hk.2.2.2.2.2.2;simp only [beq_eq_false_iff_ne,ne_eq] at d4 d5 d6 d7 d8 d9 d10;rw [hS1,hT];unfold pStmt;simp [← hT,d4,d5,d6,d7,d8,d9,d10]
 have HX : Hid (∀ e w',(∃ vn vu vt vl,e = .returned (.agg (gsCells ({ kw := T }) vn vu vt vl)) ∧ GsOwn w' w.heap.size ({ kw := T }) vn vu vt vl ∧ w.grownBy w' (some bp) ∧ Ps w' bp gt capt toks S1 ∧ (S1).1 < toks.length) → StPost toks st w bp gt capt e w') := fun e w' hx => by unfold StPost;rw [HRes.out];exact hx
 clear h hk HRes hT hS1
 go_enter Tryz.func68,Tryz.ntmps68
 go_wp2_with (first | (go_at_call 69;refine HC1.get.mono ?_;rintro e w1 ⟨rfl,hg1,hP1⟩;have s1 := sb_start hlp hg1 #[.int .i64 (srt T),.string T.s,.int .i64 (tval T),.int .i64 T.line,.int .i64 0,.string .empty,.int .i64 0,.int .i64 0,.slice none 0 0,.slice none 0 0,.slice none 0 0,.int .i64 0,.string .empty,.int .i64 0,.int .i64 0,.slice none 0 0];have hbb : bp < w1.heap.size := (by have := s1.lo;omega);have hgb : gt < w1.heap.size := (by have := s1.lo;omega);have hA1 := past0 (heap_alloc2_old w _ _) (by simp;omega) hg1 (by simp;omega);obtain ⟨a0,a1,a2,a3,a4,a5,a6,a7,a8,a9,a10,a11,a12,a13,a14,a15,z0,z1,z2,z3,z4,z5,z6,z7,z8,z9,z10,z11,z12,z13,z14,z15⟩ := cells16 hA1;have hq4 : w.heap.size < w1.heap.size := s1.lo))
 obtain ⟨hF,hgF,hPF,hoF⟩ := st_end' (gt := gt) (capt := capt) (toks := toks) hA1 (((World.grownBy_alloc w _ _).trans (World.grownBy_alloc _ _ _)).trans hg1) hlp hlg (.int .i64 (srt T)) (.string T.s) (.int .i64 (tval T)) (.int .i64 T.line) (.int .i64 0) (.string .empty) (.int .i64 0) (.int .i64 0) (.slice none 0 0) (.slice none 0 0) (.slice none 0 0) (.int .i64 0) (.string .empty) (.int .i64 0) (.int .i64 0) (.slice none 0 0)
 refine bodyPost_ret (results_cell_row rfl _ _ w.heap.size 137 _ _ _ rfl ((heap_alloc_old _ _ (by have := hgF.size;simp [World.setCell];omega)).trans hF) Tryz.underlying137 rfl (by kernel_rfl)) rfl ?_
 exact HX.out _ _ ⟨.slice none 0 0,.slice none 0 0,.slice none 0 0,.slice none 0 0,by simp only [gsCells,srt_zero,tval_zero];rfl,⟨World.ownsRow_nil _ _ _ _,World.ownsRow_nil _ _ _ _,World.ownsRow_nil _ _ _ _,World.ownsRow_nil _ _ _ _⟩,hgF.trans (World.grownBy_alloc _ _ _),(hPF _ hP1).alloc _,hi1⟩
end
end Go.Proofs.YthpcbbnabnlanaaGreatDoor
