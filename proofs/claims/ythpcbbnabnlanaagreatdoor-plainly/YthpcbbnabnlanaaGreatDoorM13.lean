import Derived.Test.YthpcbbnabnlanaaGreatDoorM12
import Derived.Deep.RegionHeld3
import Derived.Deep.MidRow
import Derived.Laws.Tables
import Derived.Laws.Bits64b
import Derived.Lib.LaidTab
namespace Go.Proofs.YthpcbbnabnlanaaGreatDoor
set_option linter.unusedVariables false
set_option linter.unusedSimpArgs false
section
def PlOk (n : Nat) (p : Int) : Prop := 0 ≤ p ∧ p < n
structure ConOk (n : Nat) (t : Int → Prop) (c : QCon) : Prop where
 sort : c.sort = 0 ∨ c.sort = 1 ∨ c.sort = 2 ∨ c.sort = 3 ∨ c.sort = 4
 truth : c.sort = 1 → PlOk n c.truth ∧ t c.truth
 terms : ∀ p ∈ c.terms,PlOk n p.1 ∧ -100 ≤ p.2 ∧ p.2 ≤ 100
 tlen : c.terms.length ≤ 8
 tne : c.sort = 0 ∨ c.sort = 1 → c.terms ≠ []
 rel : c.rel = 0 ∨ c.rel = 1 ∨ c.rel = 2
 num : -1000000 ≤ c.num ∧ c.num ≤ 1000000
 llen : c.list.length ≤ 20
 list : ∀ x ∈ c.list,-1000 ≤ x ∧ x ≤ 1000
 place : c.sort = 2 → PlOk n c.place ∧ PlOk n c.entry
 vars : ∀ x ∈ c.vars,PlOk n x
 vlen : c.vars.length ≤ 8
 vne : c.sort = 3 → c.vars ≠ []
 lits : ∀ p ∈ c.lits,PlOk n p.1 ∧ t p.1 ∧ (p.2 = 0 ∨ p.2 = 1)
 ilen : c.lits.length ≤ 8
 ine : c.sort = 4 → c.lits ≠ []
def TruthAt (vars : List QVar) (p : Int) : Prop := ∃ v,vars[p.toNat]? = some v ∧ 0 ≤ v.low ∧ v.high ≤ 1
structure QOk (q : QSt) : Prop where
 pl : ∀ s,(q.g s).so = 4 → 0 ≤ (q.g s).pl ∧ ∃ v,q.vars[(q.g s).pl.toNat]? = some v ∧ v.low = (q.g s).lo ∧ v.high = (q.g s).hi
 vars : ∀ v ∈ q.vars,-1000 ≤ v.low ∧ v.low ≤ v.high ∧ v.high ≤ 1000
 vlen : q.vars.length ≤ 8
 cons : ∀ c ∈ q.cons,ConOk q.vars.length (TruthAt q.vars) c
 clen : q.cons.length ≤ 16
 m : q.m = q.cons.length
 ls : ∀ s,(q.ls s).length ≤ 20 ∧ ∀ x ∈ q.ls s,-1000 ≤ x ∧ x ≤ 1000
theorem ConOk.more {n n' : Nat} {t t' : Int → Prop} {c : QCon} (h : ConOk n t c) (hn : n ≤ n') (ht : ∀ p,t p → t' p) : ConOk n' t' c :=
 have k : ∀ p,PlOk n p → PlOk n' p := fun p hp => ⟨hp.1,by have := hp.2;omega⟩
 ⟨h.sort,fun e => ⟨k _ (h.truth e).1,ht _ (h.truth e).2⟩,fun p hp => ⟨k _ (h.terms p hp).1,(h.terms p hp).2⟩,h.tlen,h.tne,h.rel,h.num,h.llen,h.list,fun e => ⟨k _ (h.place e).1,k _ (h.place e).2⟩,fun x hx => k _ (h.vars x hx),h.vlen,h.vne,fun p hp => ⟨k _ (h.lits p hp).1,ht _ (h.lits p hp).2.1,(h.lits p hp).2.2⟩,h.ilen,h.ine⟩
theorem fltz {b : Bool} {k l : Int} {st : FSt} (hk : k ≠ 0) (h : (flt b k l st).1 = 0) : b = false ∧ st.1 = 0 := by
 cases b with
 | false => exact ⟨rfl,by rw [flt_false] at h;exact h⟩
 | true =>
  rw [flt_true] at h
  split at h
  ·exact absurd h hk
  ·exact absurd h ‹_›
theorem fold_zero {α : Type} {step : Nat → α → FSt → FSt} (hs : ∀ k a st,(step k a st).1 = 0 → st.1 = 0) : ∀ (l : List α) (k : Nat) (st : FSt),(foldSt step k l st).1 = 0 → st.1 = 0 ∧ ∀ i a,l[i]? = some a → ∃ st',(step (k + i) a st').1 = 0 := by
 intro l
 induction l with
 | nil => intro k st h;exact ⟨h,fun i a ha => by simp at ha⟩
 | cons x l ih =>
  intro k st h
  obtain ⟨h1,h2⟩ := ih (k + 1) (step k x st) h
  refine ⟨hs _ _ _ h1,fun i a ha => ?_⟩
  cases i with
  | zero => simp at ha;subst ha;exact ⟨st,h1⟩
  | succ i =>
   obtain ⟨st',h3⟩ := h2 i a (by simpa using ha)
   exact ⟨st',by rw [show k + (i + 1) = k + 1 + i by omega];exact h3⟩
theorem fold_len {α : Type} {step : Nat → α → FSt → FSt} {n : Nat} (hs : ∀ k a st,(step k a st).1 = 0 → st.1 = 0) (hn : ∀ k a st,(step k a st).1 = 0 → k < n) {l : List α} {st : FSt} (h : (foldSt step 0 l st).1 = 0) : l.length ≤ n := by
 cases hl : l.length with
 | zero => omega
 | succ m =>
  obtain ⟨a,ha⟩ : ∃ a,l[m]? = some a := ⟨l[m]'(by omega),by simp [hl]⟩
  obtain ⟨st',h'⟩ := (fold_zero hs l 0 st h).2 m a ha
  have := hn _ _ _ h'
  omega
theorem bne4 {x : Int} (h : (x != 4) = false) : x = 4 := by simpa using h
theorem find_is {g : ByteArray → Th} {s : ByteArray} {k : Int} (h : (g s).so = k) : thFind g s k = g s := by unfold thFind;rw [if_pos h]
theorem out_no {x m : Int} (h : outB x m = false) : -m ≤ x ∧ x ≤ m := by
 unfold outB at h
 simp at h
 omega
theorem term_zero {g : ByteArray → Th} {k : Nat} {t : GTerm} {st : FSt} (h : (termStP g k t st).1 = 0) : st.1 = 0 ∧ (g t.name.s).so = 4 ∧ k < 8 ∧ -100 ≤ facV t ∧ facV t ≤ 100 := by
 unfold termStP at h
 obtain ⟨h1,h2⟩ := fltz (by decide) h
 have hso := bne4 h1
 by_cases c : srt t.first = 3
 ·unfold facSt at h2
  rw [if_pos c] at h2
  obtain ⟨h3,h4⟩ := fltz (by decide) h2
  obtain ⟨h5,h6⟩ := fltz (by decide) h4
  have h7 := out_no h3
  have h8 : ¬ (8 : Int) ≤ k := of_decide_eq_false h5
  refine ⟨h6,hso,by omega,?_⟩
  unfold facV
  rw [if_pos c]
  split <;> omega
 ·unfold facSt at h2
  rw [if_neg c] at h2
  obtain ⟨h5,h6⟩ := fltz (by decide) h2
  have h8 : ¬ (8 : Int) ≤ k := of_decide_eq_false h5
  refine ⟨h6,hso,by omega,?_⟩
  unfold facV
  rw [if_neg c]
  split <;> omega
theorem var_zero {g : ByteArray → Th} {k : Nat} {t : PTok} {st : FSt} (h : (varStP g k t st).1 = 0) : st.1 = 0 ∧ (g t.s).so = 4 ∧ k < 8 := by
 unfold varStP at h
 obtain ⟨h1,h2⟩ := fltz (by decide) h
 obtain ⟨h5,h6⟩ := fltz (by decide) h2
 have h8 : ¬ (8 : Int) ≤ k := of_decide_eq_false h5
 exact ⟨h6,bne4 h1,by omega⟩
theorem truth_no {t : Th} (h : noTruthT t = false) : 0 ≤ t.lo ∧ t.hi ≤ 1 := by
 unfold noTruthT at h
 simp at h
 omega
theorem lit_zero {g : ByteArray → Th} {k : Nat} {t : GLit} {st : FSt} (h : (litStP g k t st).1 = 0) : st.1 = 0 ∧ (g t.name.s).so = 4 ∧ k < 8 ∧ 0 ≤ (g t.name.s).lo ∧ (g t.name.s).hi ≤ 1 := by
 unfold litStP at h
 obtain ⟨h0,h⟩ := fltz (by decide) h
 obtain ⟨h1,h2⟩ := fltz (by decide) h
 obtain ⟨h5,h6⟩ := fltz (by decide) h2
 have h8 : ¬ (8 : Int) ≤ k := of_decide_eq_false h5
 have hso := bne4 h1
 rw [find_is hso] at h0
 exact ⟨h6,hso,by omega,truth_no h0⟩
theorem num_zero {k : Nat} {t : PTok} {st : FSt} (h : (numStP k t st).1 = 0) : st.1 = 0 ∧ k < 20 ∧ -1000 ≤ tval t ∧ tval t ≤ 1000 := by
 unfold numStP at h
 obtain ⟨h1,h2⟩ := fltz (by decide) h
 obtain ⟨h5,h6⟩ := fltz (by decide) h2
 have h8 : ¬ (20 : Int) ≤ k := of_decide_eq_false h5
 exact ⟨h6,by omega,out_no h1⟩
section
variable {q : QSt}
theorem QOk.pl4 (h : QOk q) {s : ByteArray} (hs : (q.g s).so = 4) : PlOk q.vars.length (thFind q.g s 4).pl := by
 rw [find_is hs]
 obtain ⟨h0,v,hv,_⟩ := h.pl s hs
 have := (List.getElem?_eq_some_iff.1 hv).1
 exact ⟨h0,by omega⟩
theorem QOk.tr4 (h : QOk q) {s : ByteArray} (hs : (q.g s).so = 4) (hl : 0 ≤ (q.g s).lo) (hh : (q.g s).hi ≤ 1) : TruthAt q.vars (thFind q.g s 4).pl := by
 rw [find_is hs]
 obtain ⟨h0,v,hv,e1,e2⟩ := h.pl s hs
 exact ⟨v,hv,by omega,by omega⟩
theorem rRel_ok (k : Int) : rRel k = 0 ∨ rRel k = 1 ∨ rRel k = 2 := by
 unfold rRel
 split
 ·exact .inr (.inl rfl)
 ·split
  ·exact .inr (.inr rfl)
  ·exact .inl rfl
theorem terms_ok (h : QOk q) {ts : List GTerm} {st : FSt} (hz : (foldSt (termStP q.g) 0 ts st).1 = 0) : st.1 = 0 ∧ (ts.map (fun t => ((thFind q.g t.name.s 4).pl,facV t))).length ≤ 8 ∧ ∀ p ∈ ts.map (fun t => ((thFind q.g t.name.s 4).pl,facV t)),PlOk q.vars.length p.1 ∧ -100 ≤ p.2 ∧ p.2 ≤ 100 := by
 have h1 := fold_zero (fun k a st h => (term_zero h).1) ts 0 st hz
 refine ⟨h1.1,by rw [List.length_map];exact fold_len (fun k a st h => (term_zero h).1) (fun k a st h => (term_zero h).2.2.1) hz,fun p hp => ?_⟩
 obtain ⟨t,ht,rfl⟩ := List.mem_map.1 hp
 obtain ⟨i,hi,he⟩ := List.getElem_of_mem ht
 obtain ⟨st',h2⟩ := h1.2 i t (by rw [List.getElem?_eq_getElem hi,he])
 obtain ⟨_,h3,_,h4⟩ := term_zero h2
 exact ⟨h.pl4 h3,h4⟩
theorem con_ok (h : QOk q) {s : GSt} (ho : StOk s) (hk : srt s.kw ≠ 4) (hk5 : srt s.kw ≠ 5) {st : FSt} (hz : (conSt q.g s st).1 = 0) : st.1 = 0 ∧ ConOk q.vars.length (TruthAt q.vars) (conOf q.g q.ls s) := by
 obtain ⟨kw,nm,names,numbers,terms,rel,lits⟩ := s
 simp only at hk hk5
 have kwd := ho.kwd
 simp only at kwd
 have lin : ∀ (sort truth : Int) (M : PTok),(sort = 0 ∨ sort = 1) → (sort = 1 → PlOk q.vars.length truth ∧ TruthAt q.vars truth) → terms ≠ [] → ∀ st : FSt,(flt (outB (tval M) 1000000) 5 M.line (foldSt (termStP q.g) 0 terms st)).1 = 0 →
   st.1 = 0 ∧ ConOk q.vars.length (TruthAt q.vars) ⟨sort,truth,terms.map (fun t => ((thFind q.g t.name.s 4).pl,facV t)),rRel (srt rel),tval M,[],0,0,[],[]⟩ := fun sort truth M hs ht hne st hz => by
  obtain ⟨h1,h2⟩ := fltz (by decide) hz
  obtain ⟨h3,h4,h5⟩ := terms_ok h h2
  refine ⟨h3,⟨by simp only;omega,ht,h5,h4,fun _ => by simpa using hne,rRel_ok _,out_no h1,by simp,(fun x hx => (by cases hx)),(fun e => (by simp only at e;omega)),(fun x hx => (by cases hx)),by simp,(fun e => (by simp only at e;omega)),(fun x hx => (by cases hx)),by simp,fun e => by simp only at e;omega⟩⟩
 rcases kwd with e | e | e | e | e | e | e
 ·exact absurd e hk
 ·exact absurd e hk5
 ·obtain ⟨hT,M,hM⟩ := ho.s6 (.inl e)
  simp only at hM hT
  subst hM
  have e1 : conOf q.g q.ls ⟨kw,nm,names,[M],terms,rel,lits⟩ = ⟨0,0,terms.map (fun t => ((thFind q.g t.name.s 4).pl,facV t)),rRel (srt rel),tval M,[],0,0,[],[]⟩ := by simp [conOf,e]
  rw [e1]
  simp [conSt,qLinSt,e] at hz
  exact lin 0 0 M (.inl rfl) (fun e => by cases e) hT st hz
 ·obtain ⟨hT,M,hM⟩ := ho.s6 (.inr e)
  simp only at hM hT
  subst hM
  have e1 : conOf q.g q.ls ⟨kw,nm,names,[M],terms,rel,lits⟩ = ⟨1,(thFind q.g nm.s 4).pl,terms.map (fun t => ((thFind q.g t.name.s 4).pl,facV t)),rRel (srt rel),tval M,[],0,0,[],[]⟩ := by simp [conOf,e]
  rw [e1]
  have hz' : (flt (outB (tval M) 1000000) 5 M.line (foldSt (termStP q.g) 0 terms (truthSt q.g nm st))).1 = 0 := by simpa [conSt,qLinSt,e] using hz
  have h0 : (truthSt q.g nm st).1 = 0 := (terms_ok h (fltz (by decide) hz').2).1
  unfold truthSt at h0
  obtain ⟨h1,h2⟩ := fltz (by decide) h0
  obtain ⟨h3,h4⟩ := fltz (by decide) h2
  have hso := bne4 h3
  rw [find_is hso] at h1
  have h5 := truth_no h1
  exact ⟨h4,(lin 1 _ M (.inr rfl) (fun _ => ⟨h.pl4 hso,h.tr4 hso h5.1 h5.2⟩) hT _ hz').2⟩
 ·obtain ⟨P,Q,hPQ⟩ := ho.s8 e
  simp only at hPQ
  subst hPQ
  have e1 : conOf q.g q.ls ⟨kw,nm,[P,Q],numbers,terms,rel,lits⟩ = ⟨2,0,[],0,0,if (q.g nm.s).so = 5 then q.ls nm.s else [],(thFind q.g P.s 4).pl,(thFind q.g Q.s 4).pl,[],[]⟩ := by simp [conOf,e]
  rw [e1]
  have hz' : (flt ((q.g Q.s).so != 4) 4 Q.line (flt ((q.g P.s).so != 4) 4 P.line (flt ((q.g nm.s).so != 5) 4 nm.line st))).1 = 0 := by simpa [conSt,e] using hz
  obtain ⟨h1,h2⟩ := fltz (by decide) hz'
  obtain ⟨h3,h4⟩ := fltz (by decide) h2
  obtain ⟨h5,h6⟩ := fltz (by decide) h4
  refine ⟨h6,⟨by simp,(fun e => (by cases e)),(fun x hx => (by cases hx)),by simp,(fun e => (by simp at e)),.inl rfl,by simp,?_,?_,fun _ => ⟨h.pl4 (bne4 h3),h.pl4 (bne4 h1)⟩,(fun x hx => (by cases hx)),by simp,(fun e => (by cases e)),(fun x hx => (by cases hx)),by simp,fun e => by cases e⟩⟩
  ·show (if (q.g nm.s).so = 5 then q.ls nm.s else []).length ≤ 20
   split
   ·exact (h.ls nm.s).1
   ·simp
  ·intro x hx
   change x ∈ (if (q.g nm.s).so = 5 then q.ls nm.s else []) at hx
   split at hx
   ·exact (h.ls nm.s).2 x hx
   ·cases hx
 ·have e1 : conOf q.g q.ls ⟨kw,nm,names,numbers,terms,rel,lits⟩ = ⟨3,0,[],0,0,[],0,0,names.map (fun t => (thFind q.g t.s 4).pl),[]⟩ := by simp [conOf,e]
  rw [e1]
  have hz' : (foldSt (varStP q.g) 0 names st).1 = 0 := by simpa [conSt,e] using hz
  have h1 := fold_zero (fun k a st h => (var_zero h).1) names 0 st hz'
  have hne := ho.s9 e
  simp only at hne
  refine ⟨h1.1,⟨by simp,(fun e => (by cases e)),(fun x hx => (by cases hx)),by simp,(fun e => (by simp at e)),.inl rfl,by simp,by simp,(fun x hx => (by cases hx)),(fun e => (by cases e)),fun x hx => ?_,?_,fun _ => by simpa using hne,(fun x hx => (by cases hx)),by simp,fun e => by cases e⟩⟩
  ·obtain ⟨t,ht,rfl⟩ := List.mem_map.1 hx
   obtain ⟨i,hi,he⟩ := List.getElem_of_mem ht
   obtain ⟨st',h2⟩ := h1.2 i t (by rw [List.getElem?_eq_getElem hi,he])
   exact h.pl4 (var_zero h2).2.1
  ·show (names.map _).length ≤ 8
   rw [List.length_map];exact fold_len (fun k a st h => (var_zero h).1) (fun k a st h => (var_zero h).2.2) hz'
 ·have e1 : conOf q.g q.ls ⟨kw,nm,names,numbers,terms,rel,lits⟩ = ⟨4,0,[],0,0,[],0,0,[],lits.map (fun t => ((thFind q.g t.name.s 4).pl,if srt t.first = 22 then 0 else 1))⟩ := by simp [conOf,e]
  rw [e1]
  have hz' : (foldSt (litStP q.g) 0 lits st).1 = 0 := by simpa [conSt,e] using hz
  have h1 := fold_zero (fun k a st h => (lit_zero h).1) lits 0 st hz'
  have hne := ho.s10 e
  simp only at hne
  refine ⟨h1.1,⟨by simp,(fun e => (by cases e)),(fun x hx => (by cases hx)),by simp,(fun e => (by simp at e)),.inl rfl,by simp,by simp,(fun x hx => (by cases hx)),(fun e => (by cases e)),(fun x hx => (by cases hx)),by simp,(fun e => (by cases e)),fun x hx => ?_,?_,fun _ => by simpa using hne⟩⟩
  ·obtain ⟨t,ht,rfl⟩ := List.mem_map.1 hx
   obtain ⟨i,hi,he⟩ := List.getElem_of_mem ht
   obtain ⟨st',h2⟩ := h1.2 i t (by rw [List.getElem?_eq_getElem hi,he])
   obtain ⟨_,h3,_,h4,h5⟩ := lit_zero h2
   exact ⟨h.pl4 h3,h.tr4 h3 h4 h5,by simp only;split <;> simp⟩
  ·show (lits.map _).length ≤ 8
   rw [List.length_map];exact fold_len (fun k a st h => (lit_zero h).1) (fun k a st h => (lit_zero h).2.2.1) hz'
theorem step_ok (h : QOk q) {s : GSt} (ho : StOk s) (hz : (qStep s q).st.1 = 0) : QOk (qStep s q) := by
 by_cases c4 : srt s.kw = 4
 ·obtain ⟨lo,hi,hn⟩ := ho.s4 c4
  have e1 : qStep s q = ⟨putTh q.g s.name.s ⟨4,q.vars.length,tval lo,tval hi,.slice none 0 0⟩,q.vars ++ [⟨s.name.s,tval lo,tval hi⟩],q.m,varDecl q.g q.vars.length s.name lo hi q.st,q.cons,putLs q.ls s.name.s []⟩ := by
   unfold qStep;rw [if_pos c4,hn]
  rw [e1] at hz ⊢
  have hz' : (varDecl q.g q.vars.length s.name lo hi q.st).1 = 0 := hz
  unfold varDecl at hz'
  obtain ⟨h1,hz'⟩ := fltz (by decide) hz'
  obtain ⟨h2,hz'⟩ := fltz (by decide) hz'
  obtain ⟨h3,hz'⟩ := fltz (by decide) hz'
  obtain ⟨h4,hz'⟩ := fltz (by decide) hz'
  obtain ⟨h5,hz'⟩ := fltz (by decide) hz'
  have g1 : ¬ tval hi < tval lo := of_decide_eq_false h1
  have g2 := out_no h2
  have g3 := out_no h3
  have g5 : ¬ (8 : Int) ≤ q.vars.length := of_decide_eq_false h5
  refine ⟨fun s' hs' => ?_,fun v hv => ?_,by simp;omega,fun c hc => (h.cons c hc).more (by simp) (fun p hp => ?_),h.clen,h.m,fun s' => ?_⟩
  ·simp only [putTh] at hs' ⊢
   split at hs'
   ·rename_i e
    rw [if_pos e]
    exact ⟨by simp,⟨s.name.s,tval lo,tval hi⟩,by simp,rfl,rfl⟩
   ·rename_i e
    rw [if_neg e]
    obtain ⟨k1,v,k2,k3⟩ := h.pl s' hs'
    exact ⟨k1,v,by rw [List.getElem?_append_left (List.getElem?_eq_some_iff.1 k2).1];exact k2,k3⟩
  ·rcases List.mem_append.1 hv with q' | q'
   ·exact h.vars v q'
   ·simp only [List.mem_cons,List.not_mem_nil,or_false] at q';subst q'
    exact ⟨g3.1,by simp only;omega,g2.2⟩
  ·obtain ⟨v,k1,k2⟩ := hp
   exact ⟨v,by rw [List.getElem?_append_left (List.getElem?_eq_some_iff.1 k1).1];exact k1,k2⟩
  ·simp only [putLs]
   split
   ·exact ⟨by simp,fun x hx => by cases hx⟩
   ·exact h.ls s'
 ·by_cases c5 : srt s.kw = 5
  ·have e1 : qStep s q = ⟨putTh q.g s.name.s ⟨5,0,0,0,.slice none 0 0⟩,q.vars,q.m,foldSt numStP 0 s.numbers (flt ((q.g s.name.s).so != 0) 4 s.name.line q.st),q.cons,putLs q.ls s.name.s (s.numbers.map tval)⟩ := by
    unfold qStep;rw [if_neg c4,if_pos c5]
   rw [e1] at hz ⊢
   have hz' : (foldSt numStP 0 s.numbers (flt ((q.g s.name.s).so != 0) 4 s.name.line q.st)).1 = 0 := hz
   have h1 := fold_zero (fun k a st h => (num_zero h).1) s.numbers 0 _ hz'
   refine ⟨fun s' hs' => ?_,h.vars,h.vlen,h.cons,h.clen,h.m,fun s' => ?_⟩
   ·simp only [putTh] at hs' ⊢
    split at hs'
    ·simp at hs'
    ·rename_i e
     rw [if_neg e];exact h.pl s' hs'
   ·simp only [putLs]
    split
    ·refine ⟨by rw [List.length_map];exact fold_len (fun k a st h => (num_zero h).1) (fun k a st h => (num_zero h).2.1) hz',fun x hx => ?_⟩
     obtain ⟨t,ht,rfl⟩ := List.mem_map.1 hx
     obtain ⟨i,hi,he⟩ := List.getElem_of_mem ht
     obtain ⟨st',h2⟩ := h1.2 i t (by rw [List.getElem?_eq_getElem hi,he])
     exact (num_zero h2).2.2
    ·exact h.ls s'
  ·have e1 : qStep s q = ⟨q.g,q.vars,q.m + 1,conSt q.g s (flt (decide ((16 : Int) ≤ q.m)) 6 s.kw.line q.st),q.cons ++ [conOf q.g q.ls s],q.ls⟩ := by
    unfold qStep;rw [if_neg c4,if_neg c5]
   rw [e1] at hz ⊢
   obtain ⟨h1,h2⟩ := con_ok h ho c4 c5 hz
   obtain ⟨h3,h4⟩ := fltz (by decide) h1
   have g3 : ¬ (16 : Int) ≤ q.m := of_decide_eq_false h3
   have hm := h.m
   refine ⟨h.pl,h.vars,h.vlen,fun c hc => ?_,by simp;omega,by simp [hm],h.ls⟩
   rcases List.mem_append.1 hc with q' | q'
   ·exact h.cons c q'
   ·simp only [List.mem_cons,List.not_mem_nil,or_false] at q';subst q';exact h2
end
theorem q0_ok : QOk q0 := ⟨(fun s hs => (by simp [q0,noTh] at hs)),(fun v hv => (by cases hv)),by simp [q0],(fun c hc => (by cases hc)),by simp [q0],rfl,fun s => ⟨by simp [q0],fun x hx => by cases hx⟩⟩
theorem run_ok (gs : List GSt) : ∀ q : QSt,QOk q → (∀ g ∈ gs,StOk g) → (runQ gs q).st.1 = 0 → QOk (runQ gs q) := by
 induction gs with
 | nil => intro q h _ _;exact h
 | cons g gs ih =>
  intro q h hg hz
  simp only [runQ] at hz ⊢
  by_cases c : (qStep g q).st.1 = 0
  ·rw [if_pos c] at hz ⊢
   exact ih _ (step_ok h (hg g (by simp)) c) (fun a ha => hg a (by simp [ha])) hz
  ·rw [if_neg c] at hz
   exact absurd hz c
theorem text_ok (s : ByteArray) (hs : s.size ≤ 2000) (hp : (pParse (progToks s)).2.2 = 0) (hq : (runQ (pParse (progToks s)).1 q0).st.1 = 0) : QOk (runQ (pParse (progToks s)).1 q0) :=
 run_ok _ q0 q0_ok (fun g hg => (parse_ok s hs hp).1 g hg) hq
end
section
set_option maxHeartbeats 4000000
set_option maxRecDepth 100000
open Go.RowKit
variable {w : World}
def vAt (vals : List Int) (p : Int) : Int := vals.getD p.toNat 0
def relP (r a b : Int) : Bool := if r = 0 then decide (a = b) else if r = 1 then a != b else if r = 2 then decide (a ≤ b) else false
def sumP (vals : List Int) (ts : List (Int × Int)) : Int := ts.foldl (fun s p => s + p.2 * vAt vals p.1) 0
def newP (vals : List Int) (vars : List Int) (i : Nat) : Bool := (vars.take i).all fun u => decide (vAt vals (vars.getD i 0) ≠ vAt vals u)
def diffP (vals : List Int) (vars : List Int) : Bool := (List.range vars.length).all fun i => newP vals vars i
def litP (vals : List Int) (lits : List (Int × Int)) : Bool := lits.any fun p => decide (vAt vals p.1 = p.2)
theorem vAt_get {vals : List Int} {p : Int} (h : PlOk vals.length p) : vals[p.toNat]? = some (vAt vals p) := by
 obtain ⟨h1,h2⟩ := h
 have : p.toNat < vals.length := by omega
 simp [vAt,this]
abbrev VIn (w : World) (v : Value) (g cap : Nat) (vals : List Int) : Prop := RowIn w v g cap inCell vals
theorem VIn.at_ {v : Value} {g cap : Nat} {vals : List Int} (h : VIn w v g cap vals) {p : Int} (hp : PlOk vals.length p) : w.cell? ⟨g,p.toNat,none⟩ = some (.int .i64 (vAt vals p)) := by
 have q := h.at (sz := 1) (fun _ => rfl) (vAt_get hp) 0 _ rfl
 rw [Nat.mul_one] at q
 exact q
theorem vAt_bd {vals : List Int} (h : ∀ x ∈ vals,-1000 ≤ x ∧ x ≤ 1000) (p : Int) : -1000 ≤ vAt vals p ∧ vAt vals p ≤ 1000 := by
 unfold vAt
 rw [List.getD_eq_getElem?_getD]
 cases e : vals[p.toNat]? with
 | none => simp
 | some x => exact h x (List.mem_of_getElem? e)
theorem mul_bd {a b : Int} (h1 : -100 ≤ a) (h2 : a ≤ 100) (h3 : -1000 ≤ b) (h4 : b ≤ 1000) : -100000 ≤ a * b ∧ a * b ≤ 100000 := by
 constructor
 ·rcases Int.le_total 0 a with c | c
  ·have := Int.mul_le_mul_of_nonneg_left h3 c;omega
  ·have := Int.mul_le_mul_of_nonpos_left c h4;omega
 ·rcases Int.le_total 0 a with c | c
  ·have := Int.mul_le_mul_of_nonneg_left h4 c;omega
  ·have := Int.mul_le_mul_of_nonpos_left c h3;omega
theorem sumP_snoc (vals : List Int) (ts : List (Int × Int)) (p : Int × Int) : sumP vals (ts ++ [p]) = sumP vals ts + p.2 * vAt vals p.1 := by simp [sumP]
theorem sumP_bd {vals : List Int} (hv : ∀ x ∈ vals,-1000 ≤ x ∧ x ≤ 1000) (ts : List (Int × Int)) (ht : ∀ p ∈ ts,-100 ≤ p.2 ∧ p.2 ≤ 100) : -100000 * (ts.length : Int) ≤ sumP vals ts ∧ sumP vals ts ≤ 100000 * (ts.length : Int) := by
 have key : ∀ (ts : List (Int × Int)),(∀ p ∈ ts,-100 ≤ p.2 ∧ p.2 ≤ 100) → ∀ acc : Int,acc - 100000 * (ts.length : Int) ≤ ts.foldl (fun s p => s + p.2 * vAt vals p.1) acc ∧ ts.foldl (fun s p => s + p.2 * vAt vals p.1) acc ≤ acc + 100000 * (ts.length : Int) := by
  intro ts
  induction ts with
  | nil => intro _ acc;simp
  | cons p ts ih =>
   intro ht acc
   have h1 := ih (fun q hq => ht q (by simp [hq])) (acc + p.2 * vAt vals p.1)
   have h2 := ht p (by simp)
   have h3 := vAt_bd hv p.1
   have h4 := mul_bd h2.1 h2.2 h3.1 h3.2
   simp only [List.foldl_cons,List.length_cons]
   omega
 have := key ts ht 0
 unfold sumP
 omega
theorem rl_holds (r a b : Int) (w : World) : Calls Tryz.prog 78 #[.int .i64 r,.int .i64 a,.int .i64 b] w fun e w' => e = .returned (.bool (relP r a b)) ∧ w' = w := by
 obtain ⟨R,hR⟩ : ∃ R,R = relP r a b := ⟨_,rfl⟩
 rw [← hR]
 have HR : Hid (R = relP r a b) := hR
 clear hR
 by_cases h0 : r = 0
 ·have h0' : (r == 0) = true := by simpa using h0
  have HE : Hid (relP r a b = decide (a = b)) := by unfold Hid relP;rw [if_pos h0]
  clear h0
  go_enter Tryz.func78,Tryz.ntmps78
  go_wp2
  all_goals go_ret
  all_goals (refine ⟨?_,rfl⟩;rw [HR.out,HE.out];first | rfl | simp_all)
 ·have h0' : (r == 0) = false := by simpa using h0
  by_cases h1 : r = 1
  ·have h1' : (r == 1) = true := by simpa using h1
   have HE : Hid (relP r a b = (a != b)) := by unfold Hid relP;rw [if_neg h0,if_pos h1]
   clear h0 h1
   go_enter Tryz.func78,Tryz.ntmps78
   go_wp2
   all_goals go_ret
   all_goals (refine ⟨?_,rfl⟩;rw [HR.out,HE.out];first | rfl | simp_all)
  ·have h1' : (r == 1) = false := by simpa using h1
   by_cases h2 : r = 2
   ·have h2' : (r == 2) = true := by simpa using h2
    have HE : Hid (relP r a b = decide (a ≤ b)) := by unfold Hid relP;rw [if_neg h0,if_neg h1,if_pos h2]
    clear h0 h1 h2
    go_enter Tryz.func78,Tryz.ntmps78
    go_wp2
    all_goals go_ret
    all_goals (refine ⟨?_,rfl⟩;rw [HR.out,HE.out];first | rfl | simp_all)
   ·have h2' : (r == 2) = false := by simpa using h2
    have HE : Hid (relP r a b = false) := by unfold Hid relP;rw [if_neg h0,if_neg h1,if_neg h2]
    clear h0 h1 h2
    go_enter Tryz.func78,Tryz.ntmps78
    go_wp2
    go_ret
    exact ⟨by rw [HR.out,HE.out];rfl,rfl⟩
theorem rl_sum {vt vv : Value} {gt ct gv cv : Nat} {ts : List (Int × Int)} {vals : List Int} (hT : RowIn w vt gt ct prCell ts) (hV : VIn w vv gv cv vals) (hok : ∀ p ∈ ts,PlOk vals.length p.1 ∧ -100 ≤ p.2 ∧ p.2 ≤ 100) (hvl : ∀ x ∈ vals,-1000 ≤ x ∧ x ≤ 1000) (hl : ts.length ≤ 8) (hvn : vals.length ≤ 1000) : Calls Tryz.prog 79 #[vt,vv] w fun e w' => e = .returned (.int .i64 (sumP vals ts)) ∧ w.grownBy w' none := by
 have HT := hide hT
 have HV := hide hV
 have HOK := hide hok
 have hgt := hT.lt
 have hgv := hV.lt
 obtain rfl := hT.is
 obtain rfl := hV.is
 clear hT hV hok
 go_enter Tryz.func79,Tryz.ntmps79
 go_wp2
 go_loopw [5,10] (fun vs vi wr => ∃ i : Nat,i ≤ ts.length ∧ vi = .int .i64 i ∧ vs = .int .i64 (sumP vals (ts.take i)) ∧ w.grownBy wr none) (fun _ vi _ => ts.length - (intOf vi).toNat)
 case atStart => exact ⟨0,Nat.zero_le _,rfl,rfl,grown_refl _ _⟩
 case round =>
  obtain ⟨i,hi,rfl,rfl,hgr⟩ := hrel
  by_cases hlt : i < ts.length
  ·obtain ⟨a,ha⟩ : ∃ a,ts[i]? = some a := ⟨ts[i],by simp [hlt]⟩
   obtain ⟨hp,hf1,hf2⟩ := HOK.out a (List.mem_of_getElem? ha)
   have hR := HT.out.kept hgr (by simp)
   have hW := HV.out.kept hgr (by simp)
   have k0 : wr.cell? ⟨gt,i * 2,none⟩ = some (.int .i64 a.1) := hR.at (sz := 2) (fun _ => rfl) ha 0 _ rfl
   have k1 : wr.cell? ⟨gt,i * 2 + 1,none⟩ = some (.int .i64 a.2) := hR.at (sz := 2) (fun _ => rfl) ha 1 _ rfl
   have k2 := VIn.at_ hW hp
   have hx := vAt_bd hvl a.1
   have hs := sumP_bd hvl (ts.take i) (fun p hp => (HOK.out p (List.mem_of_mem_take hp)).2)
   have hsn : Hid (sumP vals (ts.take (i + 1)) = sumP vals (ts.take i) + a.2 * vAt vals a.1) := by
    rw [Hid,List.take_add_one,ha];exact sumP_snoc _ _ _
   have hm := mul_bd hf1 hf2 hx.1 hx.2
   have hti : ((ts.take i).length : Int) ≤ 8 := by have := List.length_take_le i ts;omega
   have hp1 := hp.1
   have hp2 := hp.2
   have hlt3 : (i : Int) < ts.length := by omega
   have h03 : (0 : Int) ≤ i := by omega
   obtain ⟨a1,a2⟩ := a
   simp only at *
   generalize vAt vals a1 = X at *
   generalize sumP vals (ts.take i) = S at *
   have hs1 : -800000 ≤ S := by omega
   have hs2 : S ≤ 800000 := by omega
   have hgv' : gv < wr.heap.size := hW.lt
   have hm1 := hm.1
   have hm2 := hm.2
   have hx1 := hx.1
   have hx2 := hx.2
   have HGR := hide hgr
   clear hR hW hgr hs hti hp ha hm hx
   go_wp2
   go_quiet (fail)
   go_wp2
   go_roundw
   case rel => exact ⟨i + 1,by omega,by go_num,by rw [hsn.out],(HGR.out.trans (World.grownBy_alloc _ _ _)).trans (grown_drewN' _ _ _)⟩
   case measure => simp [intOf];omega
  ·obtain rfl : i = ts.length := by omega
   go_wp2
   go_ret
   rw [List.take_of_length_le (Nat.le_refl _)]
   exact ⟨rfl,hgr⟩
end
section
set_option maxHeartbeats 4000000
set_option maxRecDepth 100000
open Go.RowKit
variable {w : World}
theorem rl_some {vt vv : Value} {gt ct gv cv : Nat} {ts : List (Int × Int)} {vals : List Int} (hT : RowIn w vt gt ct prCell ts) (hV : VIn w vv gv cv vals) (hok : ∀ p ∈ ts,PlOk vals.length p.1) (hl : ts.length ≤ 3000) (hvn : vals.length ≤ 1000) : Calls Tryz.prog 81 #[vt,vv] w fun e w' => e = .returned (.bool (litP vals ts)) ∧ w.grownBy w' none := by
 have HT := hide hT
 have HV := hide hV
 have HOK := hide hok
 have hgt := hT.lt
 have hgv := hV.lt
 obtain ⟨R,hR⟩ : ∃ R,R = litP vals ts := ⟨_,rfl⟩
 have HR : Hid (R = litP vals ts) := hR
 rw [← hR]
 obtain rfl := hT.is
 obtain rfl := hV.is
 clear hT hV hok hR
 go_enter Tryz.func81,Tryz.ntmps81
 go_wp2
 go_loopw [9] (fun vi wr => ∃ i : Nat,i ≤ ts.length ∧ vi = .int .i64 i ∧ litP vals (ts.take i) = false ∧ w.grownBy wr none) (fun vi _ => ts.length - (intOf vi).toNat)
 case atStart => exact ⟨0,Nat.zero_le _,rfl,rfl,grown_refl _ _⟩
 case round =>
  obtain ⟨i,hi,rfl,hno,hgr⟩ := hrel
  have HNO := hide hno
  clear hno
  by_cases hlt : i < ts.length
  ·obtain ⟨a,ha⟩ : ∃ a,ts[i]? = some a := ⟨ts[i],by simp [hlt]⟩
   have hp := HOK.out a (List.mem_of_getElem? ha)
   have hR := HT.out.kept hgr (by simp)
   have hW := HV.out.kept hgr (by simp)
   have k0 : wr.cell? ⟨gt,i * 2,none⟩ = some (.int .i64 a.1) := hR.at (sz := 2) (fun _ => rfl) ha 0 _ rfl
   have k1 : wr.cell? ⟨gt,i * 2 + 1,none⟩ = some (.int .i64 a.2) := hR.at (sz := 2) (fun _ => rfl) ha 1 _ rfl
   have k2 := VIn.at_ hW hp
   have hgv' : gv < wr.heap.size := hW.lt
   have hp1 := hp.1
   have hp2 := hp.2
   have hlt3 : (i : Int) < ts.length := by omega
   have h03 : (0 : Int) ≤ i := by omega
   have HA := hide ha
   have HGR := hide hgr
   by_cases hc : vAt vals a.1 = a.2
   ·have hc' : (vAt vals a.1 == a.2) = true := by simpa using hc
    have HE : Hid (R = true) := by
     rw [Hid,HR.out]
     exact List.any_eq_true.2 ⟨a,List.mem_of_getElem? ha,by simpa using hc⟩
    obtain ⟨a1,a2⟩ := a
    simp only at *
    generalize vAt vals a1 = X at *
    clear hR hW hgr hp ha hc
    go_wp2
    go_quiet (fail)
    go_wp2
    go_ret
    rw [HE.out]
    exact ⟨rfl,(HGR.out.trans (World.grownBy_alloc _ _ _)).trans (grown_drewN' _ _ _)⟩
   ·have hc' : (vAt vals a.1 == a.2) = false := by simpa using hc
    have HE : Hid (litP vals (ts.take (i + 1)) = false) := by
     rw [Hid,List.take_add_one,ha]
     unfold litP
     rw [List.any_append]
     have h1 : ((ts.take i).any fun p => decide (vAt vals p.1 = p.2)) = false := HNO.out
     simp [h1,hc]
    obtain ⟨a1,a2⟩ := a
    simp only at *
    generalize vAt vals a1 = X at *
    clear hR hW hgr hp ha hc
    go_wp2
    go_quiet (fail)
    go_wp2
    go_roundw
    case rel => exact ⟨i + 1,by omega,by go_num,HE.out,(HGR.out.trans (World.grownBy_alloc _ _ _)).trans (grown_drewN' _ _ _)⟩
    case measure => simp [intOf];omega
  ·obtain rfl : i = ts.length := by omega
   have HE : Hid (R = false) := by
    have q := HNO.out
    rw [List.take_of_length_le (Nat.le_refl _)] at q
    rw [Hid,HR.out,q]
   go_wp2
   go_ret
   rw [HE.out]
   exact ⟨rfl,hgr⟩
theorem newP_snoc {vals vars : List Int} {i j : Nat} {u : Int} (hu : vars[j]? = some u) (v : Int) : ((vars.take (j + 1)).all fun u => decide (v ≠ vAt vals u)) = (((vars.take j).all fun u => decide (v ≠ vAt vals u)) && decide (v ≠ vAt vals u)) := by
 rw [List.take_add_one,hu,List.all_append];simp
theorem rl_diff {vt vv : Value} {gt ct gv cv : Nat} {vars : List Int} {vals : List Int} (hT : RowIn w vt gt ct inCell vars) (hcap : vars.length ≤ ct) (hV : VIn w vv gv cv vals) (hok : ∀ p ∈ vars,PlOk vals.length p) (hl : vars.length ≤ 3000) (hvn : vals.length ≤ 1000) : Calls Tryz.prog 80 #[vt,vv] w fun e w' => e = .returned (.bool (diffP vals vars)) ∧ w.grownBy w' none := by
 have HT := hide hT
 have HV := hide hV
 have HOK := hide hok
 have hgt := hT.lt
 have hgv := hV.lt
 obtain ⟨R,hR⟩ : ∃ R,R = diffP vals vars := ⟨_,rfl⟩
 have HR : Hid (R = diffP vals vars) := hR
 rw [← hR]
 obtain rfl := hT.is
 obtain rfl := hV.is
 clear hT hV hok hR
 go_enter Tryz.func80,Tryz.ntmps80
 go_wp2
 go_loopw [11] (fun vi wr => ∃ i : Nat,i ≤ vars.length ∧ vi = .int .i64 i ∧ ((List.range i).all fun i => newP vals vars i) = true ∧ w.grownBy wr none) (fun vi _ => vars.length - (intOf vi).toNat)
 case atStart => exact ⟨0,Nat.zero_le _,rfl,rfl,grown_refl _ _⟩
 case round =>
  obtain ⟨i,hi,rfl,hno,hgr⟩ := hrel
  have HNO := hide hno
  clear hno
  by_cases hlt : i < vars.length
  ·obtain ⟨a,ha⟩ : ∃ a,vars[i]? = some a := ⟨vars[i],by simp [hlt]⟩
   have k0 : wr.cell? ⟨gt,i,none⟩ = some (.int .i64 a) := by have q := (HT.out.kept hgr (by simp)).at (sz := 1) (fun _ => rfl) ha 0 _ rfl;rw [Nat.mul_one] at q;exact q
   have hp := HOK.out a (List.mem_of_getElem? ha)
   have hlt3 : (i : Int) < vars.length := by omega
   have hic : (i : Int) ≤ ct := by omega
   have h03 : (0 : Int) ≤ i := by omega
   have hga : vars.getD i 0 = a := by simp [List.getD_eq_getElem?_getD,ha]
   have HS : Hid (∃ j : Nat,j ≤ i ∧ (Value.int .i64 0) = .int .i64 j ∧ ((vars.take j).all fun u => decide (vAt vals a ≠ vAt vals u)) = true ∧ w.grownBy wr none) := ⟨0,Nat.zero_le _,rfl,rfl,hgr⟩
   have HA := hide ha
   have HGA := hide hga
   clear hgr ha hga
   go_wp2
   go_loopw [20] (fun vi wr => ∃ j : Nat,j ≤ i ∧ vi = .int .i64 j ∧ ((vars.take j).all fun u => decide (vAt vals a ≠ vAt vals u)) = true ∧ w.grownBy wr none) (fun vi _ => i - (intOf vi).toNat)
   case atStart => exact HS.out
   case round =>
    clear HS k0
    obtain ⟨j,hj,rfl,hal,hgr⟩ := hrel
    have HAL := hide hal
    have HGR := hide hgr
    clear hal
    by_cases hlt2 : j < i
    ·obtain ⟨u,hu⟩ : ∃ u,vars[j]? = some u := ⟨vars[j]'(by omega),List.getElem?_eq_getElem (by omega)⟩
     have hpu := HOK.out u (List.mem_of_getElem? hu)
     have hW := HV.out.kept hgr (by simp)
     have k0 : wr.cell? ⟨gt,j,none⟩ = some (.int .i64 u) := by have q := (HT.out.kept hgr (by simp)).at (sz := 1) (fun _ => rfl) hu 0 _ rfl;rw [Nat.mul_one] at q;exact q
     have k1 := VIn.at_ hW hp
     have k2 := VIn.at_ hW hpu
     have hp1 := hp.1
     have hp2 := hp.2
     have hq1 := hpu.1
     have hq2 := hpu.2
     have hlt4 : (j : Int) < i := by omega
     have h0j : (0 : Int) ≤ j := by omega
     have HSN := hide (newP_snoc (vals := vals) (i := i) hu (vAt vals a))
     by_cases hc : vAt vals a = vAt vals u
     ·have HE : Hid (R = false) := by
       rw [Hid,HR.out]
       unfold diffP
       rw [List.all_eq_false]
       refine ⟨i,List.mem_range.2 hlt,?_⟩
       unfold newP
       rw [HGA.out]
       rw [List.all_eq_true]
       intro hall
       have q := hall u (List.mem_take_iff_getElem.2 ⟨j,by omega,by rw [(List.getElem?_eq_some_iff.1 hu).2]⟩)
       simp [hc] at q
      have hc' : (vAt vals a == vAt vals u) = true := by simpa using hc
      clear hW hgr hc hu hp hpu
      go_wp2
      go_quiet (fail)
      go_wp2
      go_ret
      rw [HE.out]
      exact ⟨rfl,HGR.out.trans (grown_drewN' _ _ _)⟩
     ·have hc' : (vAt vals a == vAt vals u) = false := by simpa using hc
      have HE : Hid (((vars.take (j + 1)).all fun u => decide (vAt vals a ≠ vAt vals u)) = true) := by
       rw [Hid,HSN.out,HAL.out];simpa using hc
      have HGR2 := HGR
      clear hW hgr hc hu hp hpu HSN
      go_wp2
      go_quiet (fail)
      go_wp2
      go_roundw
      case rel => exact ⟨j + 1,by omega,by go_num,HE.out,HGR.out.trans (grown_drewN' _ _ _)⟩
      case measure => simp [intOf];omega
    ·obtain rfl : j = i := by omega
     have HE : Hid (((List.range (j + 1)).all fun i => newP vals vars i) = true) := by
      rw [Hid,List.range_succ,List.all_append,HNO.out]
      have q : newP vals vars j = true := by unfold newP;rw [HGA.out];exact HAL.out
      simp [q]
     clear hgr
     go_wp2
     go_roundw
     case rel => exact ⟨j + 1,by omega,by go_num,HE.out,HGR.out⟩
     case measure => simp [intOf];omega
  ·obtain rfl : i = vars.length := by omega
   have HE : Hid (R = true) := by rw [Hid,HR.out];exact HNO.out
   go_wp2
   go_ret
   rw [HE.out]
   exact ⟨rfl,hgr⟩
end
section
set_option maxHeartbeats 8000000
set_option maxRecDepth 100000
open Go.RowKit
variable {w : World}
def atP (c : QCon) (vals : List Int) : Bool := decide (1 ≤ vAt vals c.place) && decide (vAt vals c.place ≤ c.list.length) && decide (c.list.getD (vAt vals c.place - 1).toNat 0 = vAt vals c.entry)
def conP (vals : List Int) (c : QCon) : Bool :=
 if c.sort = 1 then relP c.rel (sumP vals c.terms) c.num == (vAt vals c.truth == 1)
 else if c.sort = 0 then relP c.rel (sumP vals c.terms) c.num
 else if c.sort = 2 then atP c vals
 else if c.sort = 3 then diffP vals c.vars
 else if c.sort = 4 then litP vals c.lits
 else false
structure ConIn (w : World) (b o B : Nat) (x : CRow) : Prop where
 cell : ∀ k u,x.cells[k]? = some u → w.cell? ⟨b,o + k,none⟩ = some u
 lt : b < w.heap.size
 at_ : CAt w B x
theorem ConIn.grown {w' : World} {b o B : Nat} {x : CRow} (h : ConIn w b o B x) (hg : w.grownBy w' none) : ConIn w' b o B x :=
 ⟨fun k u hu => hg.cell (h.cell k u hu) (by simp),Nat.lt_of_lt_of_le h.lt hg.size,h.at_.but ((But.refl [] w).grown hg (fun k e => by cases e)) (fun k hk => by cases hk)⟩
theorem own_cap {w : World} {B e s n g cap : Nat} {xs : List Value} (h : w.ownsRow B e s (.slice (some ⟨g,0,none⟩) n cap) n xs) : n ≤ cap := by
 rcases h.2 with ⟨e,_⟩ | ⟨g',cap',cur,e,_,_,hc,_⟩
 ·cases e
 ·injection e with e1 e2 e3
  omega
theorem rl_lin {b o B gv cv n : Nat} {x : CRow} {vv : Value} {vals : List Int} {t : Int → Prop} (h : ConIn w b o B x) (hV : VIn w vv gv cv vals) (hok : ConOk n t x.c) (hn : n = vals.length) (hvl : ∀ y ∈ vals,-1000 ≤ y ∧ y ≤ 1000) (hvn : vals.length ≤ 1000) (h0 : x.c.sort = 0) : Calls Tryz.prog 48 #[.pointer (some ⟨b,o,none⟩),vv] w fun e w' => e = .returned (.bool (conP vals x.c)) ∧ w.grownBy w' none := by
 subst hn
 have hs : x.c.sort = 0 ∨ x.c.sort = 1 := .inl h0
 have k0 : w.cell? ⟨b,o,none⟩ = some (.int .i64 0) := by have q := h.cell 0 _ rfl;rw [h0] at q;exact q
 obtain ⟨gt,ct,hT,_⟩ := RowIn.of_own h.at_.t (by cases e : x.c.terms with | nil => exact absurd e (hok.tne hs) | cons _ _ => simp)
 have k2 : w.cell? ⟨b,o + 2,none⟩ = some (.slice (some ⟨gt,0,none⟩) x.c.terms.length ct) := by have q := h.cell 2 _ rfl;rw [hT.is] at q;exact q
 have k3 : w.cell? ⟨b,o + 3,none⟩ = some (.int .i64 x.c.rel) := h.cell 3 _ rfl
 have k4 : w.cell? ⟨b,o + 4,none⟩ = some (.int .i64 x.c.num) := h.cell 4 _ rfl
 have hTV := hT.is
 have KS := Kept.mk (fun {W : World} (hg : w.grownBy W none) => rl_sum (hT.kept hg (by simp)) (hV.kept hg (by simp)) hok.terms hvl hok.tlen hvn)
 rw [hTV] at KS
 have HS3 := fun (W : World) (hg : w.grownBy W none) => And.intro (hg.cell k2 (by simp)) (And.intro (hg.cell k3 (by simp)) (hg.cell k4 (by simp)))
 have HR : Hid (conP vals x.c = relP x.c.rel (sumP vals x.c.terms) x.c.num) := by
  rw [Hid];unfold conP;rw [if_neg (by omega),if_pos h0]
 have hlt := h.lt
 obtain rfl := hV.is
 clear hs h hV hok hvl hT hTV h0
 go_enter Tryz.func48,Tryz.ntmps48
 go_wp2
 go_region_held3 (fun w' => w'.cell? ⟨b,o + 2,none⟩ = some (.slice (some ⟨gt,0,none⟩) x.c.terms.length ct) ∧ w'.cell? ⟨b,o + 3,none⟩ = some (.int .i64 x.c.rel) ∧ w'.cell? ⟨b,o + 4,none⟩ = some (.int .i64 x.c.num)) (go_keep)
  (first | (go_at_call 79;refine (KS.get (grown_drew' w none)).mono ?_;rintro e w1 ⟨rfl,hg1⟩;obtain ⟨q2,q3,q4⟩ := HS3 w1 ((grown_drew' w none).trans hg1)) | (go_at_call 78;refine (rl_holds _ _ _ _).mono ?_;rintro e w' ⟨rfl,hww⟩;subst w'))
 go_wp2
 go_ret
 rw [HR.out]
 exact ⟨rfl,(grown_drew' w none).trans hg1⟩
theorem rl_when {b o B gv cv n : Nat} {x : CRow} {vv : Value} {vals : List Int} {t : Int → Prop} (h : ConIn w b o B x) (hV : VIn w vv gv cv vals) (hok : ConOk n t x.c) (hn : n = vals.length) (hvl : ∀ y ∈ vals,-1000 ≤ y ∧ y ≤ 1000) (hvn : vals.length ≤ 1000) (h0 : x.c.sort = 1) : Calls Tryz.prog 48 #[.pointer (some ⟨b,o,none⟩),vv] w fun e w' => e = .returned (.bool (conP vals x.c)) ∧ w.grownBy w' none := by
 subst hn
 have hs : x.c.sort = 0 ∨ x.c.sort = 1 := .inr h0
 have k0 : w.cell? ⟨b,o,none⟩ = some (.int .i64 1) := by have q := h.cell 0 _ rfl;rw [h0] at q;exact q
 have k1 : w.cell? ⟨b,o + 1,none⟩ = some (.int .i64 x.c.truth) := h.cell 1 _ rfl
 have ht := (hok.truth h0).1
 have k5 := VIn.at_ hV ht
 have ht1 := ht.1
 have ht2 := ht.2
 obtain ⟨gt,ct,hT,_⟩ := RowIn.of_own h.at_.t (by cases e : x.c.terms with | nil => exact absurd e (hok.tne hs) | cons _ _ => simp)
 have k2 : w.cell? ⟨b,o + 2,none⟩ = some (.slice (some ⟨gt,0,none⟩) x.c.terms.length ct) := by have q := h.cell 2 _ rfl;rw [hT.is] at q;exact q
 have k3 : w.cell? ⟨b,o + 3,none⟩ = some (.int .i64 x.c.rel) := h.cell 3 _ rfl
 have k4 : w.cell? ⟨b,o + 4,none⟩ = some (.int .i64 x.c.num) := h.cell 4 _ rfl
 have hTV := hT.is
 have KS := Kept.mk (fun {W : World} (hg : w.grownBy W none) => rl_sum (hT.kept hg (by simp)) (hV.kept hg (by simp)) hok.terms hvl hok.tlen hvn)
 rw [hTV] at KS
 have HS3 := fun (W : World) (hg : w.grownBy W none) => And.intro (hg.cell k2 (by simp)) (And.intro (hg.cell k3 (by simp)) (hg.cell k4 (by simp)))
 have HR : Hid (conP vals x.c = (relP x.c.rel (sumP vals x.c.terms) x.c.num == (vAt vals x.c.truth == 1))) := by
  rw [Hid];unfold conP;rw [if_pos h0]
 have hlt := h.lt
 obtain rfl := hV.is
 clear hs h hV hok hvl hT hTV h0 ht
 go_enter Tryz.func48,Tryz.ntmps48
 go_wp2
 go_region_held3 (fun w' => w'.cell? ⟨b,o + 2,none⟩ = some (.slice (some ⟨gt,0,none⟩) x.c.terms.length ct) ∧ w'.cell? ⟨b,o + 3,none⟩ = some (.int .i64 x.c.rel) ∧ w'.cell? ⟨b,o + 4,none⟩ = some (.int .i64 x.c.num)) (go_keep)
  (first | (go_at_call 79;refine (KS.get (grown_drew' w none)).mono ?_;rintro e w1 ⟨rfl,hg1⟩;obtain ⟨q2,q3,q4⟩ := HS3 w1 ((grown_drew' w none).trans hg1)) | (go_at_call 78;refine (rl_holds _ _ _ _).mono ?_;rintro e w' ⟨rfl,hww⟩;subst w'))
 go_wp2
 go_ret
 rw [HR.out]
 exact ⟨rfl,(grown_drew' w none).trans hg1⟩
theorem rl_diffs {b o B gv cv n : Nat} {x : CRow} {vv : Value} {vals : List Int} {t : Int → Prop} (h : ConIn w b o B x) (hV : VIn w vv gv cv vals) (hok : ConOk n t x.c) (hn : n = vals.length) (hvn : vals.length ≤ 1000) (h0 : x.c.sort = 3) : Calls Tryz.prog 48 #[.pointer (some ⟨b,o,none⟩),vv] w fun e w' => e = .returned (.bool (conP vals x.c)) ∧ w.grownBy w' none := by
 subst hn
 have k0 : w.cell? ⟨b,o,none⟩ = some (.int .i64 3) := by have q := h.cell 0 _ rfl;rw [h0] at q;exact q
 obtain ⟨gt,ct,hT,_⟩ := RowIn.of_own h.at_.v (by cases e : x.c.vars with | nil => exact absurd e (hok.vne h0) | cons _ _ => simp)
 have k8 : w.cell? ⟨b,o + 8,none⟩ = some (.slice (some ⟨gt,0,none⟩) x.c.vars.length ct) := by have q := h.cell 8 _ rfl;rw [hT.is] at q;exact q
 have hTV := hT.is
 have hcap := h.at_.v
 rw [hTV] at hcap
 have KS := Kept.mk (rl_diff hT (own_cap hcap) hV hok.vars (by have := hok.vlen;omega) hvn)
 rw [hTV] at KS
 have HR : Hid (conP vals x.c = diffP vals x.c.vars) := by
  rw [Hid];unfold conP;rw [if_neg (by omega),if_neg (by omega),if_neg (by omega),if_pos h0]
 have hlt := h.lt
 obtain rfl := hV.is
 clear h hV hok hT hTV h0 hcap
 go_enter Tryz.func48,Tryz.ntmps48
 go_wp2_with (go_at_call 80;refine KS.get.mono ?_;rintro e w1 ⟨rfl,hg1⟩)
 go_ret
 rw [HR.out]
 exact ⟨rfl,hg1⟩
theorem rl_ors {b o B gv cv n : Nat} {x : CRow} {vv : Value} {vals : List Int} {t : Int → Prop} (h : ConIn w b o B x) (hV : VIn w vv gv cv vals) (hok : ConOk n t x.c) (hn : n = vals.length) (hvn : vals.length ≤ 1000) (h0 : x.c.sort = 4) : Calls Tryz.prog 48 #[.pointer (some ⟨b,o,none⟩),vv] w fun e w' => e = .returned (.bool (conP vals x.c)) ∧ w.grownBy w' none := by
 subst hn
 have k0 : w.cell? ⟨b,o,none⟩ = some (.int .i64 4) := by have q := h.cell 0 _ rfl;rw [h0] at q;exact q
 obtain ⟨gt,ct,hT,_⟩ := RowIn.of_own h.at_.i (by cases e : x.c.lits with | nil => exact absurd e (hok.ine h0) | cons _ _ => simp)
 have k9 : w.cell? ⟨b,o + 9,none⟩ = some (.slice (some ⟨gt,0,none⟩) x.c.lits.length ct) := by have q := h.cell 9 _ rfl;rw [hT.is] at q;exact q
 have hTV := hT.is
 have KS := Kept.mk (rl_some hT hV (fun p hp => (hok.lits p hp).1) (by have := hok.ilen;omega) hvn)
 rw [hTV] at KS
 have HR : Hid (conP vals x.c = litP vals x.c.lits) := by
  rw [Hid];unfold conP;rw [if_neg (by omega),if_neg (by omega),if_neg (by omega),if_neg (by omega),if_pos h0]
 have hlt := h.lt
 obtain rfl := hV.is
 clear h hV hok hT hTV h0
 go_enter Tryz.func48,Tryz.ntmps48
 go_wp2_with (go_at_call 81;refine KS.get.mono ?_;rintro e w1 ⟨rfl,hg1⟩)
 go_ret
 rw [HR.out]
 exact ⟨rfl,hg1⟩
theorem rl_at {b o B gv cv n : Nat} {x : CRow} {vv : Value} {vals : List Int} {t : Int → Prop} (h : ConIn w b o B x) (hV : VIn w vv gv cv vals) (hok : ConOk n t x.c) (hn : n = vals.length) (hvl : ∀ y ∈ vals,-1000 ≤ y ∧ y ≤ 1000) (hvn : vals.length ≤ 1000) (h0 : x.c.sort = 2) : Calls Tryz.prog 48 #[.pointer (some ⟨b,o,none⟩),vv] w fun e w' => e = .returned (.bool (conP vals x.c)) ∧ w.grownBy w' none := by
 subst hn
 have k0 : w.cell? ⟨b,o,none⟩ = some (.int .i64 2) := by have q := h.cell 0 _ rfl;rw [h0] at q;exact q
 have k6 : w.cell? ⟨b,o + 6,none⟩ = some (.int .i64 x.c.place) := h.cell 6 _ rfl
 have k7 : w.cell? ⟨b,o + 7,none⟩ = some (.int .i64 x.c.entry) := h.cell 7 _ rfl
 obtain ⟨hp,he⟩ := hok.place h0
 have v1 := VIn.at_ hV hp
 have v2 := VIn.at_ hV he
 have hp1 := hp.1
 have hp2 := hp.2
 have he1 := he.1
 have he2 := he.2
 have hb := vAt_bd hvl x.c.place
 have hb1 := hb.1
 have hb2 := hb.2
 have hll := hok.llen
 obtain ⟨la,lc,hla⟩ := own_slice_n h.at_.l
 have k5 : w.cell? ⟨b,o + 5,none⟩ = some (.slice la x.c.list.length lc) := by have q := h.cell 5 _ rfl;rw [hla] at q;exact q
 have HR : Hid (conP vals x.c = atP x.c vals) := by
  rw [Hid];unfold conP;rw [if_neg (by omega),if_neg (by omega),if_pos h0]
 have hlt := h.lt
 have HL := hide h.at_.l
 have HLA := hide hla
 obtain rfl := hV.is
 clear h hV hok hvl h0 hp he hb hla
 by_cases c1 : 1 ≤ vAt vals x.c.place
 ·by_cases c2 : vAt vals x.c.place ≤ x.c.list.length
  ·obtain ⟨I,hI⟩ : ∃ I : Nat,vAt vals x.c.place = (I : Int) + 1 := ⟨(vAt vals x.c.place - 1).toNat,by omega⟩
   have hIl : I < x.c.list.length := by omega
   obtain ⟨y,hy⟩ : ∃ y,x.c.list[I]? = some y := ⟨x.c.list[I],List.getElem?_eq_getElem hIl⟩
   obtain ⟨gl,cl,hRL,_⟩ := RowIn.of_own HL.out (by omega)
   have el : la = some ⟨gl,0,none⟩ := by
    have q := hRL.is
    rw [HLA.out] at q
    injection q with q1 q2 q3
   subst el
   have kl : w.cell? ⟨gl,I,none⟩ = some (.int .i64 y) := by have q := hRL.at (sz := 1) (fun _ => rfl) hy 0 _ rfl;rw [Nat.mul_one] at q;exact q
   have HA : Hid (atP x.c vals = (y == vAt vals x.c.entry)) := by
    have e1 : (vAt vals x.c.place - 1).toNat = I := by omega
    rw [Hid];unfold atP
    rw [decide_eq_true c1,decide_eq_true c2,e1,List.getD_eq_getElem?_getD,hy]
    rfl
   have c1' : (1 : Int) ≤ (I : Int) + 1 := by omega
   have c2' : (I : Int) + 1 ≤ x.c.list.length := by omega
   have hI0 : (0 : Int) ≤ I := by omega
   have hI1 : (I : Int) < x.c.list.length := by omega
   have eI : (I : Int) + 1 - 1 = I := by omega
   rw [hI] at v1
   clear hRL hy c1 c2 hb1 hb2 HL
   generalize vAt vals x.c.place = PV at *
   clear hI
   go_enter Tryz.func48,Tryz.ntmps48
   go_wp2
   go_quiet (fail)
   go_wp2
   go_ret
   rw [HR.out,HA.out]
   exact ⟨rfl,grown_drewN' _ _ _⟩
  ·have c2' : decide (vAt vals x.c.place ≤ (x.c.list.length : Int)) = false := by simpa using c2
   have HA : Hid (atP x.c vals = false) := by rw [Hid];unfold atP;simp [c2]
   generalize vAt vals x.c.place = PV at *
   clear c2
   go_enter Tryz.func48,Tryz.ntmps48
   go_wp2
   go_quiet (fail)
   go_wp2
   go_ret
   rw [HR.out,HA.out]
   exact ⟨rfl,grown_drewN' _ _ _⟩
 ·have c1' : decide ((1 : Int) ≤ vAt vals x.c.place) = false := by simpa using c1
  have HA : Hid (atP x.c vals = false) := by rw [Hid];unfold atP;simp [c1]
  generalize vAt vals x.c.place = PV at *
  clear c1
  go_enter Tryz.func48,Tryz.ntmps48
  go_wp2
  go_quiet (fail)
  go_wp2
  go_ret
  rw [HR.out,HA.out]
  exact ⟨rfl,grown_drewN' _ _ _⟩
theorem rl_Suits {b o B gv cv n : Nat} {x : CRow} {vv : Value} {vals : List Int} {t : Int → Prop} (h : ConIn w b o B x) (hV : VIn w vv gv cv vals) (hok : ConOk n t x.c) (hn : n = vals.length) (hvl : ∀ y ∈ vals,-1000 ≤ y ∧ y ≤ 1000) (hvn : vals.length ≤ 1000) : Calls Tryz.prog 48 #[.pointer (some ⟨b,o,none⟩),vv] w fun e w' => e = .returned (.bool (conP vals x.c)) ∧ w.grownBy w' none := by
 rcases hok.sort with e | e | e | e | e
 ·exact rl_lin h hV hok hn hvl hvn e
 ·exact rl_when h hV hok hn hvl hvn e
 ·exact rl_at h hV hok hn hvl hvn e
 ·exact rl_diffs h hV hok hn hvn e
 ·exact rl_ors h hV hok hn hvn e
end
section
open Go.RowKit
variable {w w' : World}
def inP (v : QVar) (x : Int) : Bool := decide (v.low ≤ x) && decide (x ≤ v.high)
def asgF : List QVar → List Int → Bool
 | [],[] => true
 | v :: vs,x :: xs => inP v x && asgF vs xs
 | _,_ => false
def suitsP (vars : List QVar) (cons : List QCon) (vals : List Int) : Bool := asgF vars vals && cons.all (conP vals)
structure SetIn (w : World) (bc B : Nat) (vV vC : Value) (vars : List QVar) (cs : List CRow) : Prop where
 c1 : w.cell? ⟨bc,1,none⟩ = some vV
 c2 : w.cell? ⟨bc,2,none⟩ = some vC
 lt : bc < w.heap.size
 ov : w.ownsRow B 78 3 vV vars.length (vars.flatMap qvCell)
 oc : w.ownsRow B 99 10 vC cs.length (cs.flatMap CRow.cells)
 at_ : ∀ x ∈ cs,CAt w B x
theorem SetIn.grown {bc B : Nat} {vV vC : Value} {vars : List QVar} {cs : List CRow} (h : SetIn w bc B vV vC vars cs) (hg : w.grownBy w' none) : SetIn w' bc B vV vC vars cs :=
 ⟨hg.cell h.c1 (by simp),hg.cell h.c2 (by simp),Nat.lt_of_lt_of_le h.lt hg.size,h.ov.kept hg (own_none _),h.oc.kept hg (own_none _),fun x hx => (h.at_ x hx).but ((But.refl [] w).grown hg (fun k e => by cases e)) (fun k hk => by cases hk)⟩
def ValsIn (w : World) (v : Value) (vals : List Int) : Prop := (vals = [] ∧ ∃ a c,v = .slice a 0 c) ∨ ∃ g cap,VIn w v g cap vals
theorem ValsIn.grown {v : Value} {vals : List Int} (h : ValsIn w v vals) (hg : w.grownBy w' none) : ValsIn w' v vals := by
 rcases h with h | ⟨g,cap,h⟩
 ·exact .inl h
 ·exact .inr ⟨g,cap,h.kept hg (by simp)⟩
theorem ValsIn.is {v : Value} {vals : List Int} (h : ValsIn w v vals) : ∃ a c,v = .slice a vals.length c := by
 rcases h with ⟨rfl,a,c,e⟩ | ⟨g,cap,h⟩
 ·exact ⟨a,c,e⟩
 ·exact ⟨_,_,h.is⟩
end
section
open Go.RowKit
theorem setRow_new (w : World) (old cells : Array Value) (t : TypeId) : (w.alloc (.cells old t)).setRow w.heap.size cells = w.alloc (.cells cells t) := by
 have hz : (w.alloc (.cells old t)).heap = w.heap.push (.cells old t) := rfl
 have hn : (w.alloc (.cells cells t)).heap = w.heap.push (.cells cells t) := rfl
 have hh : ((w.alloc (.cells old t)).setRow w.heap.size cells).heap = (w.alloc (.cells cells t)).heap := by
  unfold World.setRow
  rw [hn]
  simp only [hz]
  apply Array.ext
  ·simp
  ·intro i h1 h2
   rw [Array.getElem_modify]
   simp only [Array.size_push] at h2
   by_cases e : w.heap.size = i
   ·subst e;simp
   ·rw [if_neg e,Array.getElem_push_lt (by omega),Array.getElem_push_lt (by omega)]
 generalize hA : (w.alloc (.cells old t)).setRow w.heap.size cells = A at hh ⊢
 have e1 : A.tape = w.tape := by rw [← hA];rfl
 have e2 : A.drawn = w.drawn := by rw [← hA];rfl
 have e3 : A.os = w.os := by rw [← hA];rfl
 have e4 : A.output = w.output := by rw [← hA];rfl
 cases A
 simp only at hh e1 e2 e3 e4
 subst hh e1 e2 e3 e4
 rfl
theorem wpList_store_new {ops : Array Oper} {rest : List Oper} {o : Oper} {a : Act} {w : World} {Q : Exit → Act → World → Prop} (hgd : o.guard = none) (ty : TypeId) (x y : Operand) (ho : o.op = .store ty x y) (cells : Array Value) (t : TypeId) (old : Array Value) (hx : a.eval x = .pointer (some ⟨w.heap.size,0,none⟩)) (hy : a.eval y = .agg cells) (hi : (Tryz.prog.info? ty).map (·.size) = some cells.size) (hold : old.size = cells.size) (h1 : cells.all (·.oneCell') = true) (h : wpList Tryz.prog ops Q rest (a.put o.dst undef) (w.alloc (.cells cells t))) : wpList Tryz.prog ops Q (o :: rest) a (w.alloc (.cells old t)) := by
 refine wpList_store_row hgd ty x y ho w.heap.size cells hx hy t old (heap_alloc_new w _) hi hold h1 ?_
 rw [setRow_new];exact h
end
section
set_option maxHeartbeats 2000000
set_option maxRecDepth 100000
open Go.RowKit
variable {w : World}
theorem wrap_u64 {n : Int} (h0 : 0 ≤ n) (h1 : n < 18446744073709551616) : IntKind.u64.wrap n = n := by
 unfold IntKind.wrap
 simp [IntKind.bits,IntKind.signed]
 omega
theorem wrap_pow {k : Int} (h : k < 64) (h0 : 0 ≤ k) : IntKind.u64.wrap ((2 : Int) ^ k.toNat) = (2 : Int) ^ k.toNat := by
 have h1 : k.toNat < 64 := by omega
 have h2 : (2 : Nat) ^ k.toNat < 18446744073709551616 := Nat.pow_lt_pow_right (n := 64) (by decide) h1
 have h3 : ((2 : Int) ^ k.toNat) = ((2 ^ k.toNat : Nat) : Int) := by simp
 rw [h3]
 have h4 : (0 : Int) ≤ ((2 ^ k.toNat : Nat) : Int) := Int.natCast_nonneg _
 have h5 : ((2 ^ k.toNat : Nat) : Int) < 18446744073709551616 := Int.ofNat_lt.2 h2
 exact wrap_u64 h4 h5
theorem dm_bit (v : Int) (h1 : -1000 ≤ v) (h2 : v ≤ 1000) (w : World) : Calls Tryz.prog 199 #[.int .i64 v] w fun e w' => e = .returned (.tuple #[.int .i64 ((v + 1000) / 64),.int .u64 ((2 : Int) ^ ((v + 1000) % 64).toNat)]) ∧ w.grownBy w' none := by
 have h0 : (0 : Int) ≤ v + 1000 := by omega
 have hm : (0 : Int) ≤ (v + 1000) % 64 := by omega
 have hm2 : (v + 1000) % 64 < 64 := by omega
 go_enter Tryz.func199,Tryz.ntmps199
 go_wp2
 go_quiet (fail)
 go_wp2
 go_ret2
 rw [wrap_pow hm2 hm]
 exact ⟨rfl,grown_drewN' _ _ _⟩
theorem and_pow_ne (x k : Nat) : (x &&& 2 ^ k ≠ 0) ↔ x.testBit k = true := by
 constructor
 ·intro h
  cases e : x.testBit k with
  | true => rfl
  | false =>
   refine absurd (Nat.eq_of_testBit_eq fun j => ?_) h
   rw [Nat.testBit_and,Nat.testBit_two_pow,Nat.zero_testBit]
   by_cases c : k = j
   ·subst c;simp [e]
   ·simp [c]
 ·intro h e
  have q : (x &&& 2 ^ k).testBit k = true := by rw [Nat.testBit_and,Nat.testBit_two_pow];simp [h]
  rw [e] at q;simp at q
def wordD (D i : Nat) : Nat := (D >>> (64 * i)) % 2 ^ 64
def dArr (D : Nat) : Array Value := ((List.range 32).map fun i => Value.int .u64 (wordD D i : Nat)).toArray
theorem dArr_size (D : Nat) : (dArr D).size = 32 := by simp [dArr]
theorem dArr_at (D : Nat) {i : Nat} (h : i < 32) : (dArr D)[i]? = some (.int .u64 (wordD D i : Nat)) := by
 simp [dArr,h]
theorem wordD_lt (D i : Nat) : wordD D i < 2 ^ 64 := Nat.mod_lt _ (by decide)
theorem wordD_bit (D i j : Nat) : (wordD D i).testBit j = (decide (j < 64) && D.testBit (64 * i + j)) := by
 unfold wordD
 rw [Nat.testBit_mod_two_pow,Nat.testBit_shiftRight]
theorem dm_Has (D : Nat) (v : Int) (h1 : -1000 ≤ v) (h2 : v ≤ 1000) (w : World) : Calls Tryz.prog 169 #[.agg (dArr D),.int .i64 v] w fun e w' => e = .returned (.bool (D.testBit (v + 1000).toNat)) ∧ w.grownBy w' none := by
 have K := Kept.mk (dm_bit v h1 h2)
 obtain ⟨P,hP⟩ : ∃ P : Nat,v + 1000 = P := ⟨(v + 1000).toNat,by omega⟩
 have hP2 : P ≤ 2000 := by omega
 have e1 : (v + 1000) / 64 = ((P / 64 : Nat) : Int) := by omega
 have e2 : ((v + 1000) % 64).toNat = P % 64 := by omega
 have e3 : (v + 1000).toNat = P := by omega
 rw [e1,e2] at K
 rw [e3]
 have hq : P / 64 < 32 := by omega
 have hq1 : ((P / 64 : Nat) : Int) < 32 := by omega
 have hq0 : (0 : Int) ≤ ((P / 64 : Nat) : Int) := by omega
 have ha := dArr_at D hq
 have hs := dArr_size D
 have hw := wordD_lt D (P / 64)
 have hg : ∀ w1,(w.alloc (.cells (dArr D) 161)).grownBy w1 none → w1.cell? ⟨w.heap.size,P / 64,none⟩ = some (.int .u64 (wordD D (P / 64) : Nat)) := fun w1 hg => hg.cell (cell_of (heap_alloc_new w _) (P / 64) _ ha) (by simp)
 have HG := hide hg
 have HE : Hid ((bits BinOp.and IntKind.u64 ((wordD D (P / 64) : Nat) : Int) ((2 : Int) ^ (P % 64)) != 0) = D.testBit P) := by
  have h3 : ((2 : Int) ^ (P % 64)) = ((2 ^ (P % 64) : Nat) : Int) := by simp
  have h4 : (2 : Nat) ^ (P % 64) < 18446744073709551616 := Nat.pow_lt_pow_right (n := 64) (by decide) (by omega)
  rw [Hid,h3,bits_and_u64_nat _ _ (by simpa using hw) h4]
  have h5 : (wordD D (P / 64) &&& 2 ^ (P % 64) ≠ 0) ↔ (wordD D (P / 64)).testBit (P % 64) = true := by
   exact and_pow_ne _ _
  have h6 : (wordD D (P / 64)).testBit (P % 64) = D.testBit P := by
   rw [wordD_bit,decide_eq_true (by omega),Bool.true_and,show 64 * (P / 64) + P % 64 = P by omega]
  rw [← h6,Bool.eq_iff_iff,← h5]
  simp
 clear hP e1 e2 e3 hg
 generalize P / 64 = Q at *
 go_enter Tryz.func169,Tryz.ntmps169
 go_wp2_with (go_at_call 199;refine (K.get _).mono ?_;rintro e w1 ⟨rfl,hg1⟩;have k1 := HG.out w1 hg1)
 go_ret
 rw [HE.out]
 exact ⟨rfl,(World.grownBy_alloc _ _ _).trans hg1⟩
end
section
set_option maxHeartbeats 4000000
set_option maxRecDepth 100000
open Go.RowKit
variable {w : World}
theorem infoDm : (Tryz.prog.info? 161).map (·.size) = some 32 := by kernel_rfl
theorem dArr_one (D : Nat) : (dArr D).all (·.oneCell') = true := by
 unfold dArr
 simp [Value.oneCell']
theorem wordD_or (D P i : Nat) (hi : i < 32) : wordD (D ||| 2 ^ P) i = if i = P / 64 then wordD D i ||| 2 ^ (P % 64) else wordD D i := by
 apply Nat.eq_of_testBit_eq
 intro j
 rw [wordD_bit,Nat.testBit_or,Nat.testBit_two_pow]
 split
 ·rename_i e
  rw [Nat.testBit_or,wordD_bit,Nat.testBit_two_pow]
  by_cases c : j < 64
  ·simp only [c,decide_true,Bool.true_and]
   congr 1
   rw [decide_eq_decide]
   omega
  ·have : ¬ P % 64 = j := by omega
   simp [c,this]
 ·rename_i e
  rw [wordD_bit]
  by_cases c : j < 64
  ·have : ¬ P = 64 * i + j := by omega
   simp [c,this]
  ·simp [c]
theorem dArr_ext {A : Array Value} {D : Nat} (hs : A.size = 32) (h : ∀ i,i < 32 → A[i]? = some (.int .u64 (wordD D i : Nat))) : A = dArr D := by
 apply Array.ext_getElem?
 intro i
 by_cases hi : i < 32
 ·rw [h i hi,dArr_at D hi]
 ·rw [Array.getElem?_eq_none (by omega),Array.getElem?_eq_none (by rw [dArr_size];omega)]
theorem dArr_set (D P : Nat) (hP : P < 2048) : (dArr D).setIfInBounds (P / 64) (.int .u64 ((wordD D (P / 64) ||| 2 ^ (P % 64) : Nat) : Int)) = dArr (D ||| 2 ^ P) := by
 refine dArr_ext (by rw [Array.size_setIfInBounds,dArr_size]) (fun i hi => ?_)
 rw [Array.getElem?_setIfInBounds,wordD_or D P i hi]
 by_cases c : P / 64 = i
 ·subst c
  rw [if_pos rfl,if_pos (by rw [dArr_size];exact hi),if_pos rfl]
 ·rw [if_neg c,if_neg (fun q => c q.symm),dArr_at D hi]
theorem grown_setRow (w : World) (g : Nat) (cs : Array Value) : w.grownBy (w.setRow g cs) (some g) :=
 ⟨rfl,rfl,rfl,by simp [World.setRow],fun k _ hne => by
  have : g ≠ k := fun e => hne (by rw [e])
  simp [World.setRow,Array.getElem?_modify,this]⟩
theorem dSize (D : Nat) : (Tryz.prog.info? 161).map (·.size) = some (dArr D).size := by rw [dArr_size];exact infoDm
theorem dm_With (D : Nat) (v : Int) (h1 : -1000 ≤ v) (h2 : v ≤ 1000) (w : World) : Calls Tryz.prog 170 #[.agg (dArr D),.int .i64 v] w fun e w' => e = .returned (.agg (dArr (D ||| 2 ^ (v + 1000).toNat))) ∧ w.grownBy w' none := by
 have K := Kept.mk (dm_bit v h1 h2)
 obtain ⟨P,hP⟩ : ∃ P : Nat,v + 1000 = P := ⟨(v + 1000).toNat,by omega⟩
 have hP2 : P ≤ 2000 := by omega
 have e1 : (v + 1000) / 64 = ((P / 64 : Nat) : Int) := by omega
 have e2 : ((v + 1000) % 64).toNat = P % 64 := by omega
 have e3 : (v + 1000).toNat = P := by omega
 rw [e1,e2] at K
 rw [e3]
 have hq : P / 64 < 32 := by omega
 have hq1 : ((P / 64 : Nat) : Int) < 32 := by omega
 have hq0 : (0 : Int) ≤ ((P / 64 : Nat) : Int) := by omega
 have ha := dArr_at D hq
 have hs := dArr_size D
 have hw := wordD_lt D (P / 64)
 have HSET := hide (dArr_set D P (by omega))
 have HE : Hid (bits BinOp.or IntKind.u64 ((wordD D (P / 64) : Nat) : Int) ((2 : Int) ^ (P % 64)) = ((wordD D (P / 64) ||| 2 ^ (P % 64) : Nat) : Int)) := by
  have h3 : ((2 : Int) ^ (P % 64)) = ((2 ^ (P % 64) : Nat) : Int) := by simp
  have h4 : (2 : Nat) ^ (P % 64) < 18446744073709551616 := Nat.pow_lt_pow_right (n := 64) (by decide) (by omega)
  rw [Hid,h3,bits_or_u64_nat _ _ (by simpa using hw) h4]
 have HG : Hid (∀ (o : Obj) w1,((w.alloc (.cells (dArr D) 161)).alloc o).grownBy w1 none → w1.heap[w.heap.size]? = some (.cells (dArr D) 161 (0,0))) := fun o w1 hg => past0 (heap_alloc2_old w _ _) (by simp;omega) hg (by simp)
 have HG2 : Hid (∀ (cs : Array Value) w1,((w.alloc (.cells (dArr D) 161)).alloc (.cells cs 161)).grownBy w1 none → w1.heap[w.heap.size + 1]? = some (.cells cs 161 (0,0))) := fun cs w1 hg => past0 (heap_alloc2_new w _ _) (by simp) hg (by simp)
 generalize hD : D ||| 2 ^ P = E at HSET ⊢
 clear hP e1 e2 e3 hD
 go_enter Tryz.func170,Tryz.ntmps170
 go_wp2_with (first | (refine wpList_store_row rfl 161 _ _ rfl (w.heap.size + 1) (dArr E) rfl rfl 161 _ b4 (dSize E) (by rw [dArr_size];rfl) (dArr_one E) ?_) | (refine wpList_load_row rfl 161 _ rfl w.heap.size rfl 161 (dArr E) (0,0) _ b3 Tryz.underlying161 rfl (dSize E) ?_) | (go_at_call 199;refine (K.get _).mono ?_;rintro e w1 ⟨rfl,hg1⟩;have b1 := HG.out _ w1 hg1;have b2 := HG2.out _ w1 hg1;have k1 := cell_of b1 (P / 64) _ ha;have f1 := frozen_of b1 (P / 64);have b3 : (w1.setCell ⟨w.heap.size,P / 64,none⟩ (.int .u64 (bits BinOp.or IntKind.u64 ((wordD D (P / 64) : Nat) : Int) ((2 : Int) ^ (P % 64))))).heap[w.heap.size]? = some (.cells (dArr E) 161 (0,0)) := set_at b1 (P / 64) _ (by rw [HE.out];exact HSET.out);have b4 := (Below.heap_setCell w1 ⟨w.heap.size,P / 64,none⟩ (.int .u64 (bits BinOp.or IntKind.u64 ((wordD D (P / 64) : Nat) : Int) ((2 : Int) ^ (P % 64)))) (w.heap.size + 1) (by show w.heap.size + 1 ≠ w.heap.size;omega)).trans b2))
 refine bodyPost_ret (results_cell_row rfl _ _ (w.heap.size + 1) 161 (dArr E) (0,0) _ rfl (setRow_heap _ _ _ _ _ _ b4) Tryz.underlying161 rfl (dSize E)) rfl ?_
 exact ⟨rfl,grown_newr (grown_newr (((World.grownBy_alloc _ _ _).trans (World.grownBy_alloc _ _ _)).trans hg1) (Nat.le_refl _) (grown_set _ _ _ _)) (by omega) (grown_setRow _ _ _)⟩
theorem dZero : dArr 0 = #[.int .u64 0,.int .u64 0,.int .u64 0,.int .u64 0,.int .u64 0,.int .u64 0,.int .u64 0,.int .u64 0,.int .u64 0,.int .u64 0,.int .u64 0,.int .u64 0,.int .u64 0,.int .u64 0,.int .u64 0,.int .u64 0,.int .u64 0,.int .u64 0,.int .u64 0,.int .u64 0,.int .u64 0,.int .u64 0,.int .u64 0,.int .u64 0,.int .u64 0,.int .u64 0,.int .u64 0,.int .u64 0,.int .u64 0,.int .u64 0,.int .u64 0,.int .u64 0] := by
 refine (dArr_ext rfl (fun i hi => ?_)).symm
 have hw : wordD 0 i = 0 := by unfold wordD;simp
 rw [hw]
 have : i = 0 ∨ i = 1 ∨ i = 2 ∨ i = 3 ∨ i = 4 ∨ i = 5 ∨ i = 6 ∨ i = 7 ∨ i = 8 ∨ i = 9 ∨ i = 10 ∨ i = 11 ∨ i = 12 ∨ i = 13 ∨ i = 14 ∨ i = 15 ∨ i = 16 ∨ i = 17 ∨ i = 18 ∨ i = 19 ∨ i = 20 ∨ i = 21 ∨ i = 22 ∨ i = 23 ∨ i = 24 ∨ i = 25 ∨ i = 26 ∨ i = 27 ∨ i = 28 ∨ i = 29 ∨ i = 30 ∨ i = 31 := by omega
 rcases this with rfl | rfl | rfl | rfl | rfl | rfl | rfl | rfl | rfl | rfl | rfl | rfl | rfl | rfl | rfl | rfl | rfl | rfl | rfl | rfl | rfl | rfl | rfl | rfl | rfl | rfl | rfl | rfl | rfl | rfl | rfl | rfl <;> rfl
theorem dm_Only (v : Int) (h1 : -1000 ≤ v) (h2 : v ≤ 1000) (w : World) : Calls Tryz.prog 138 #[.int .i64 v] w fun e w' => e = .returned (.agg (dArr (2 ^ (v + 1000).toNat))) ∧ w.grownBy w' none := by
 have K := Kept.mk (fun W => dm_With 0 v h1 h2 W)
 rw [Nat.zero_or,dZero] at K
 generalize (2 : Nat) ^ (v + 1000).toNat = E at *
 have HG2 : Hid (∀ (cs : Array Value) w1,(w.alloc (.cells cs 161)).grownBy w1 none → w1.heap[w.heap.size]? = some (.cells cs 161 (0,0))) := fun cs w1 hg => past0 (heap_alloc_new w _) (by simp) hg (by simp)
 go_enter Tryz.func138,Tryz.ntmps138
 go_wp2_with (first | (refine wpList_store_row rfl 161 _ _ rfl w.heap.size (dArr E) rfl rfl 161 _ b2 (dSize E) (by rw [dArr_size];rfl) (dArr_one E) ?_) | (go_at_call 170;refine (K.get _).mono ?_;rintro e w1 ⟨rfl,hg1⟩;have b2 := HG2.out _ w1 hg1))
 refine bodyPost_ret (results_cell_row rfl _ _ w.heap.size 161 (dArr E) (0,0) _ rfl (setRow_heap _ _ _ _ _ _ b2) Tryz.underlying161 rfl (dSize E)) rfl ?_
 exact ⟨rfl,grown_newr ((World.grownBy_alloc _ _ _).trans hg1) (Nat.le_refl _) (grown_setRow _ _ _)⟩
end
section
set_option maxHeartbeats 4000000
set_option maxRecDepth 100000
open Go.RowKit
variable {w : World}
def subD (D E : Nat) : Nat := D ^^^ (D &&& E)
theorem subD_bit (D E j : Nat) : (subD D E).testBit j = (D.testBit j && !E.testBit j) := by
 unfold subD
 rw [Nat.testBit_xor,Nat.testBit_and]
 cases D.testBit j <;> cases E.testBit j <;> rfl
theorem wordD_and (D E i : Nat) : wordD (D &&& E) i = wordD D i &&& wordD E i := by
 apply Nat.eq_of_testBit_eq
 intro j
 rw [Nat.testBit_and,wordD_bit,wordD_bit,wordD_bit,Nat.testBit_and]
 by_cases c : j < 64 <;> simp [c]
theorem bits_andNot_u64_nat (a b : Nat) (ha : a < 18446744073709551616) (hb : b < 18446744073709551616) : bits .andNot .u64 (a : Int) (b : Int) = ((a ^^^ (a &&& b) : Nat) : Int) := by
 have h1 : (BitVec.ofInt 64 (a : Int)).toNat = a := by
  rw [BitVec.ofInt_natCast,BitVec.toNat_ofNat];exact Nat.mod_eq_of_lt (by omega)
 have h2 : (BitVec.ofInt 64 (b : Int)).toNat = b := by
  rw [BitVec.ofInt_natCast,BitVec.toNat_ofNat];exact Nat.mod_eq_of_lt (by omega)
 have hx : a ^^^ (a &&& b) < 2 ^ 64 := Nat.xor_lt_two_pow (by omega) (Nat.and_lt_two_pow _ (by omega))
 show IntKind.u64.wrap ((BitVec.ofInt 64 (a : Int) &&& ~~~ BitVec.ofInt 64 (b : Int)).toNat : Int) = _
 have e : (BitVec.ofInt 64 (a : Int) &&& ~~~ BitVec.ofInt 64 (b : Int)).toNat = a ^^^ (a &&& b) := by
  apply Nat.eq_of_testBit_eq
  intro j
  rw [BitVec.testBit_toNat,BitVec.getLsbD_and,BitVec.getLsbD_not,← BitVec.testBit_toNat,← BitVec.testBit_toNat,h1,h2,Nat.testBit_xor,Nat.testBit_and]
  by_cases c : j < 64
  ·simp only [c,decide_true,Bool.true_and]
   cases a.testBit j <;> cases b.testBit j <;> rfl
  ·have q : a.testBit j = false := Nat.testBit_lt_two_pow (Nat.lt_of_lt_of_le (by omega : a < 2 ^ 64) (Nat.pow_le_pow_right (by decide) (by omega)))
   simp [q]
 rw [e,IntKind.wrap_u64]
 omega
theorem wordD_sub (D E i : Nat) : wordD (subD D E) i = wordD D i ^^^ (wordD D i &&& wordD E i) := by
 apply Nat.eq_of_testBit_eq
 intro j
 rw [Nat.testBit_xor,Nat.testBit_and,wordD_bit,wordD_bit,wordD_bit,subD_bit]
 by_cases c : j < 64
 ·simp only [c,decide_true,Bool.true_and]
  cases D.testBit (64 * i + j) <;> cases E.testBit (64 * i + j) <;> rfl
 ·simp [c]
theorem h3_old (w : World) (a b c : Obj) : (((w.alloc a).alloc b).alloc c).heap[w.heap.size]? = some a := (heap_alloc_old _ c (by simp;omega)).trans (heap_alloc2_old w a b)
theorem h3_new (w : World) (a b c : Obj) : (((w.alloc a).alloc b).alloc c).heap[w.heap.size + 2]? = some c := by
 have h := heap_alloc_new ((w.alloc a).alloc b) c
 have e : ((w.alloc a).alloc b).heap.size = w.heap.size + 2 := by simp
 rw [e] at h;exact h
def DmRel (w : World) (D E R : Nat) (Z : Array Value) (vi : Value) (wr : World) : Prop :=
 ∃ (i : Nat) (A : Array Value),i ≤ 32 ∧ vi = .int .i64 i ∧ A.size = 32 ∧ (∀ j,j < 32 → A[j]? = some (.int .u64 ((if j < i then wordD R j else wordD D j : Nat) : Int))) ∧ wr.heap[w.heap.size]? = some (.cells A 161 (0,0)) ∧
  wr.heap[w.heap.size + 1]? = some (.cells (dArr E) 161 (0,0)) ∧ wr.heap[w.heap.size + 2]? = some (.cells Z 161 (0,0)) ∧ w.grownBy wr none
theorem DmRel.step {D E R i : Nat} {Z A : Array Value} {wr : World} (hi : i < 32) (hA : A.size = 32) (hw : ∀ j,j < 32 → A[j]? = some (.int .u64 ((if j < i then wordD R j else wordD D j : Nat) : Int))) (b0 : wr.heap[w.heap.size]? = some (.cells A 161 (0,0))) (b1 : wr.heap[w.heap.size + 1]? = some (.cells (dArr E) 161 (0,0))) (b2 : wr.heap[w.heap.size + 2]? = some (.cells Z 161 (0,0))) (hg : w.grownBy wr none) : DmRel w D E R Z (.int .i64 ((i : Int) + 1)) (wr.setCell ⟨w.heap.size,i,none⟩ (.int .u64 (wordD R i : Nat))) := by
 refine ⟨i + 1,A.setIfInBounds i (.int .u64 (wordD R i : Nat)),by omega,by simp,by rw [Array.size_setIfInBounds,hA],fun j hj => ?_,set_at b0 i _ rfl,(Below.heap_setCell _ _ _ _ (by show w.heap.size + 1 ≠ w.heap.size;omega)).trans b1,(Below.heap_setCell _ _ _ _ (by show w.heap.size + 2 ≠ w.heap.size;omega)).trans b2,grown_newr hg (Nat.le_refl _) (grown_set _ _ _ _)⟩
 rw [Array.getElem?_setIfInBounds]
 by_cases c : i = j
 ·subst c
  rw [if_pos rfl,if_pos (by omega),if_pos (by omega)]
 ·rw [if_neg c,hw j hj]
  by_cases c2 : j < i
  ·rw [if_pos c2,if_pos (by omega)]
  ·rw [if_neg c2,if_neg (by omega)]
theorem DmRel.grown {D E R : Nat} {Z : Array Value} {vi : Value} {wr wr' : World} (h : DmRel w D E R Z vi wr) (hg : wr.grownBy wr' none) : DmRel w D E R Z vi wr' := by
 obtain ⟨i,A,h1,h2,h3,h4,h5,h6,h7,h8⟩ := h
 exact ⟨i,A,h1,h2,h3,h4,(hg.block _ (Array.getElem?_eq_some_iff.1 h5).1 (by simp)).trans h5,(hg.block _ (Array.getElem?_eq_some_iff.1 h6).1 (by simp)).trans h6,(hg.block _ (Array.getElem?_eq_some_iff.1 h7).1 (by simp)).trans h7,h8.trans hg⟩
theorem dm_And (D E : Nat) (w : World) : Calls Tryz.prog 171 #[.agg (dArr D),.agg (dArr E)] w fun e w' => e = .returned (.agg (dArr (D &&& E))) ∧ w.grownBy w' none := by
 obtain ⟨R,hR⟩ : ∃ R,R = D &&& E := ⟨_,rfl⟩
 have HW : Hid (∀ i,bits BinOp.and IntKind.u64 ((wordD D i : Nat) : Int) ((wordD E i : Nat) : Int) = ((wordD R i : Nat) : Int)) := fun i => by
  rw [hR,wordD_and,bits_and_u64_nat _ _ (by have := wordD_lt D i;simpa using this) (by have := wordD_lt E i;simpa using this)]
 rw [← hR]
 clear hR
 have hsD := dArr_size D
 have hsE := dArr_size E
 have HST : Hid (∀ cs : Array Value,DmRel w D E R cs (.int .i64 0) (((w.alloc (.cells (dArr D) 161)).alloc (.cells (dArr E) 161)).alloc (.cells cs 161))) := fun cs =>
  ⟨0,dArr D,by omega,rfl,hsD,fun j hj => by rw [dArr_at D hj];simp,h3_old w _ _ _,heap_alloc3_mid w _ _ _,h3_new w _ _ _,((World.grownBy_alloc _ _ _).trans (World.grownBy_alloc _ _ _)).trans (World.grownBy_alloc _ _ _)⟩
 go_enter Tryz.func171,Tryz.ntmps171
 go_wp2
 rw [← dZero]
 go_loopw [6] (fun vi wr => DmRel w D E R (dArr 0) vi wr) (fun vi _ => 32 - (intOf vi).toNat)
 case atStart => exact HST.out _
 case round =>
  clear HST
  obtain ⟨i,A,hi,rfl,hA,hw,b0,b1,b2,hgr⟩ := hrel
  by_cases hlt : i < 32
  ·have hlt3 : (i : Int) < 32 := by omega
   have h03 : (0 : Int) ≤ i := by omega
   have k0 : wr.cell? ⟨w.heap.size,i,none⟩ = some (.int .u64 (wordD D i : Nat)) := by
    have q := hw i hlt;rw [if_neg (by omega)] at q;exact cell_of b0 i _ q
   have f0 := frozen_of b0 i
   have k1 := cell_of b1 i _ (dArr_at E hlt)
   have HN := hide (DmRel.step hlt hA hw b0 b1 b2 hgr)
   rw [← HW.out i] at HN
   clear b0 b1 b2 hw hgr
   go_wp2
   go_region
   all_goals go_wp2
   all_goals go_roundw
   all_goals first | (case rel => exact HN.out.grown (grown_drew' _ _)) | (case measure => simp [intOf];omega)
  ·obtain rfl : i = 32 := by omega
   have eA : A = dArr R := dArr_ext hA (fun j hj => by have q := hw j hj;rw [if_pos hj] at q;exact q)
   subst eA
   clear hw hA
   go_wp2_with (first | (refine wpList_store_row rfl 161 _ _ rfl (w.heap.size + 2) (dArr R) rfl rfl 161 _ b2 (dSize R) (by rw [dArr_size,dArr_size]) (dArr_one R) ?_) | (refine wpList_load_row rfl 161 _ rfl w.heap.size rfl 161 (dArr R) (0,0) _ b0 Tryz.underlying161 rfl (dSize R) ?_))
   refine bodyPost_ret (results_cell_row rfl _ _ (w.heap.size + 2) 161 (dArr R) (0,0) _ rfl (setRow_heap _ _ _ _ _ _ b2) Tryz.underlying161 rfl (dSize R)) rfl ?_
   exact ⟨rfl,grown_newr hgr (by omega) (grown_setRow _ _ _)⟩
theorem dm_Without (D E : Nat) (w : World) : Calls Tryz.prog 198 #[.agg (dArr D),.agg (dArr E)] w fun e w' => e = .returned (.agg (dArr (subD D E))) ∧ w.grownBy w' none := by
 obtain ⟨R,hR⟩ : ∃ R,R = subD D E := ⟨_,rfl⟩
 have HW : Hid (∀ i,bits BinOp.andNot IntKind.u64 ((wordD D i : Nat) : Int) ((wordD E i : Nat) : Int) = ((wordD R i : Nat) : Int)) := fun i => by
  rw [hR,wordD_sub,bits_andNot_u64_nat _ _ (by have := wordD_lt D i;simpa using this) (by have := wordD_lt E i;simpa using this)]
 rw [← hR]
 clear hR
 have hsD := dArr_size D
 have hsE := dArr_size E
 have HST : Hid (∀ cs : Array Value,DmRel w D E R cs (.int .i64 0) (((w.alloc (.cells (dArr D) 161)).alloc (.cells (dArr E) 161)).alloc (.cells cs 161))) := fun cs =>
  ⟨0,dArr D,by omega,rfl,hsD,fun j hj => by rw [dArr_at D hj];simp,h3_old w _ _ _,heap_alloc3_mid w _ _ _,h3_new w _ _ _,((World.grownBy_alloc _ _ _).trans (World.grownBy_alloc _ _ _)).trans (World.grownBy_alloc _ _ _)⟩
 go_enter Tryz.func198,Tryz.ntmps198
 go_wp2
 rw [← dZero]
 go_loopw [6] (fun vi wr => DmRel w D E R (dArr 0) vi wr) (fun vi _ => 32 - (intOf vi).toNat)
 case atStart => exact HST.out _
 case round =>
  clear HST
  obtain ⟨i,A,hi,rfl,hA,hw,b0,b1,b2,hgr⟩ := hrel
  by_cases hlt : i < 32
  ·have hlt3 : (i : Int) < 32 := by omega
   have h03 : (0 : Int) ≤ i := by omega
   have k0 : wr.cell? ⟨w.heap.size,i,none⟩ = some (.int .u64 (wordD D i : Nat)) := by
    have q := hw i hlt;rw [if_neg (by omega)] at q;exact cell_of b0 i _ q
   have f0 := frozen_of b0 i
   have k1 := cell_of b1 i _ (dArr_at E hlt)
   have HN := hide (DmRel.step hlt hA hw b0 b1 b2 hgr)
   rw [← HW.out i] at HN
   clear b0 b1 b2 hw hgr
   go_wp2
   go_region
   all_goals go_wp2
   all_goals go_roundw
   all_goals first | (case rel => exact HN.out.grown (grown_drew' _ _)) | (case measure => simp [intOf];omega)
  ·obtain rfl : i = 32 := by omega
   have eA : A = dArr R := dArr_ext hA (fun j hj => by have q := hw j hj;rw [if_pos hj] at q;exact q)
   subst eA
   clear hw hA
   go_wp2_with (first | (refine wpList_store_row rfl 161 _ _ rfl (w.heap.size + 2) (dArr R) rfl rfl 161 _ b2 (dSize R) (by rw [dArr_size,dArr_size]) (dArr_one R) ?_) | (refine wpList_load_row rfl 161 _ rfl w.heap.size rfl 161 (dArr R) (0,0) _ b0 Tryz.underlying161 rfl (dSize R) ?_))
   refine bodyPost_ret (results_cell_row rfl _ _ (w.heap.size + 2) 161 (dArr R) (0,0) _ rfl (setRow_heap _ _ _ _ _ _ b2) Tryz.underlying161 rfl (dSize R)) rfl ?_
   exact ⟨rfl,grown_newr hgr (by omega) (grown_setRow _ _ _)⟩
end
section
set_option maxHeartbeats 4000000
set_option maxRecDepth 100000
open Go.RowKit
variable {w : World}
def rngD (lo hi : Int) : Nat := if lo ≤ hi then (2 ^ (hi - lo + 1).toNat - 1) <<< (lo + 1000).toNat else 0
theorem rngD_bit (lo hi : Int) (h1 : -1000 ≤ lo) (j : Nat) : (rngD lo hi).testBit j = (decide (lo + 1000 ≤ j) && decide ((j : Int) ≤ hi + 1000)) := by
 unfold rngD
 split
 ·rename_i h
  rw [Nat.testBit_shiftLeft,Nat.testBit_two_pow_sub_one,Bool.eq_iff_iff]
  simp only [Bool.and_eq_true,decide_eq_true_eq,ge_iff_le]
  omega
 ·rename_i h
  rw [Nat.zero_testBit,Bool.eq_iff_iff]
  simp only [Bool.and_eq_true,decide_eq_true_eq,Bool.false_eq_true,false_iff]
  omega
theorem wordD_rng {lo hi : Int} (h1 : -1000 ≤ lo) (h2 : hi ≤ 1000) (i : Nat) {F T : Nat} (hF : (F : Int) = max (lo - (64 * i - 1000)) 0) (hT : (T : Int) = min (hi - (64 * i - 1000)) 63) (hFT : F ≤ T) : wordD (rngD lo hi) i = (2 ^ (T - F + 1) - 1) <<< F := by
 apply Nat.eq_of_testBit_eq
 intro j
 rw [wordD_bit,rngD_bit lo hi h1,Nat.testBit_shiftLeft,Nat.testBit_two_pow_sub_one,Bool.eq_iff_iff]
 simp only [Bool.and_eq_true,decide_eq_true_eq,ge_iff_le]
 omega
theorem wordD_rng0 {lo hi : Int} (h1 : -1000 ≤ lo) (i : Nat) (h : min (hi - (64 * i - 1000)) 63 < max (lo - (64 * i - 1000)) 0) : wordD (rngD lo hi) i = 0 := by
 apply Nat.eq_of_testBit_eq
 intro j
 rw [wordD_bit,rngD_bit lo hi h1,Nat.zero_testBit,Bool.eq_iff_iff]
 simp only [Bool.and_eq_true,decide_eq_true_eq,Bool.false_eq_true,iff_false]
 omega
theorem div_pow_ones {n k : Nat} (h : k ≤ n) : (2 ^ n - 1) / 2 ^ k = 2 ^ (n - k) - 1 := by
 rw [← Nat.shiftRight_eq_div_pow]
 apply Nat.eq_of_testBit_eq
 intro j
 rw [Nat.testBit_shiftRight,Nat.testBit_two_pow_sub_one,Nat.testBit_two_pow_sub_one,decide_eq_decide]
 omega
theorem bt_word {F T K : Nat} (h : F ≤ T) (hT : T ≤ 63) (hK : K = 63 - T + F) : IntKind.u64.wrap ((18446744073709551615 : Int) / 2 ^ K * 2 ^ F) = (((2 ^ (T - F + 1) - 1) <<< F : Nat) : Int) := by
 have e1 : ((18446744073709551615 : Int) / 2 ^ K * 2 ^ F) = ((((2 ^ 64 - 1) / 2 ^ K * 2 ^ F : Nat)) : Int) := by
  rw [Int.natCast_mul,Int.natCast_ediv,Int.natCast_pow,Int.natCast_pow]
  rfl
 rw [e1,div_pow_ones (by omega),Nat.shiftLeft_eq,show 64 - K = T - F + 1 by omega]
 have h2 : (2 ^ (T - F + 1) - 1) * 2 ^ F < 18446744073709551616 := by
  have h3 : (2 ^ (T - F + 1) - 1) * 2 ^ F < 2 ^ (T - F + 1) * 2 ^ F := Nat.mul_lt_mul_of_pos_right (Nat.sub_lt (Nat.two_pow_pos _) (by decide)) (Nat.two_pow_pos _)
  rw [← Nat.pow_add] at h3
  exact Nat.lt_of_lt_of_le h3 (Nat.pow_le_pow_right (n := 2) (j := 64) (by decide) (by omega))
 exact wrap_u64 (Int.natCast_nonneg _) (Int.ofNat_lt.2 h2)
def BtRel (w : World) (R : Nat) (Z : Array Value) (vi : Value) (wr : World) : Prop :=
 ∃ (i : Nat) (A : Array Value),i ≤ 32 ∧ vi = .int .i64 i ∧ A.size = 32 ∧ (∀ j,j < 32 → A[j]? = some (.int .u64 ((if j < i then wordD R j else 0 : Nat) : Int))) ∧ wr.heap[w.heap.size + 1]? = some (.cells A 161 (0,0)) ∧ wr.heap[w.heap.size]? = some (.cells Z 161 (0,0)) ∧ w.grownBy wr none
theorem BtRel.step {R i : Nat} {Z A : Array Value} {wr : World} (hi : i < 32) (hA : A.size = 32) (hw : ∀ j,j < 32 → A[j]? = some (.int .u64 ((if j < i then wordD R j else 0 : Nat) : Int))) (b0 : wr.heap[w.heap.size + 1]? = some (.cells A 161 (0,0))) (b2 : wr.heap[w.heap.size]? = some (.cells Z 161 (0,0))) (hg : w.grownBy wr none) : BtRel w R Z (.int .i64 ((i : Int) + 1)) (wr.setCell ⟨w.heap.size + 1,i,none⟩ (.int .u64 (wordD R i : Nat))) := by
 refine ⟨i + 1,A.setIfInBounds i (.int .u64 (wordD R i : Nat)),by omega,by simp,by rw [Array.size_setIfInBounds,hA],fun j hj => ?_,set_at b0 i _ rfl,(Below.heap_setCell _ _ _ _ (by show w.heap.size ≠ w.heap.size + 1;omega)).trans b2,grown_newr hg (by omega) (grown_set _ _ _ _)⟩
 rw [Array.getElem?_setIfInBounds]
 by_cases c : i = j
 ·subst c
  rw [if_pos rfl,if_pos (by omega),if_pos (by omega)]
 ·rw [if_neg c,hw j hj]
  by_cases c2 : j < i
  ·rw [if_pos c2,if_pos (by omega)]
  ·rw [if_neg c2,if_neg (by omega)]
theorem BtRel.skip {R i : Nat} {Z A : Array Value} {wr : World} (hi : i < 32) (hA : A.size = 32) (hw : ∀ j,j < 32 → A[j]? = some (.int .u64 ((if j < i then wordD R j else 0 : Nat) : Int))) (b0 : wr.heap[w.heap.size + 1]? = some (.cells A 161 (0,0))) (b2 : wr.heap[w.heap.size]? = some (.cells Z 161 (0,0))) (hg : w.grownBy wr none) (h0 : wordD R i = 0) : BtRel w R Z (.int .i64 ((i : Int) + 1)) wr := by
 refine ⟨i + 1,A,by omega,by simp,hA,fun j hj => ?_,b0,b2,hg⟩
 rw [hw j hj]
 by_cases c : j < i
 ·rw [if_pos c,if_pos (by omega)]
 ·by_cases c2 : j = i
  ·subst c2;rw [if_neg c,if_pos (by omega),h0]
  ·rw [if_neg c,if_neg (by omega)]
theorem dm_Between (lo hi : Int) (h1 : -1000000000000 ≤ lo) (h2 : lo ≤ 1000000000000) (h3 : -1000000000000 ≤ hi) (h4 : hi ≤ 1000000000000) (w : World) : Calls Tryz.prog 83 #[.int .i64 lo,.int .i64 hi] w fun e w' => e = .returned (.agg (dArr (rngD (max lo (-1000)) (min hi 1000)))) ∧ w.grownBy w' none := by
 have g1 : -1000 ≤ max lo (-1000) := by omega
 have g2 : max lo (-1000) ≤ 1000000000000 := by omega
 have g3 : min hi 1000 ≤ 1000 := by omega
 have g4 : -1000000000000 ≤ min hi 1000 := by omega
 obtain ⟨R,hR⟩ : ∃ R,R = rngD (max lo (-1000)) (min hi 1000) := ⟨_,rfl⟩
 have HR : Hid (R = rngD (max lo (-1000)) (min hi 1000)) := hR
 rw [← hR]
 clear hR
 have HST : Hid (∀ cs : Array Value,cs = dArr 0 → BtRel w R cs (.int .i64 0) ((w.alloc (.cells cs 161)).alloc (.cells cs 161))) := fun cs hcs =>
  ⟨0,cs,by omega,rfl,by rw [hcs];exact dArr_size 0,fun j hj => by rw [hcs,dArr_at 0 hj];simp [wordD],heap_alloc2_new w _ _,heap_alloc2_old w _ _,(World.grownBy_alloc _ _ _).trans (World.grownBy_alloc _ _ _)⟩
 go_enter Tryz.func83,Tryz.ntmps83
 go_wp2
 rw [← dZero]
 generalize max lo (-1000) = LO at *
 generalize min hi 1000 = HI at *
 go_loopw [14] (fun vi wr => BtRel w R (dArr 0) vi wr) (fun vi _ => 32 - (intOf vi).toNat)
 case atStart => exact HST.out _ rfl
 case round =>
  clear HST
  obtain ⟨i,A,hi',rfl,hA,hw,b0,b2,hgr⟩ := hrel
  by_cases hlt : i < 32
  ·have hlt3 : (i : Int) < 32 := by omega
   have h03 : (0 : Int) ≤ i := by omega
   by_cases hc : max (LO - ((i : Int) * 64 - 1000)) 0 ≤ min (HI - ((i : Int) * 64 - 1000)) 63
   ·have HW : Hid (wordD R i = (2 ^ ((min (HI - ((i : Int) * 64 - 1000)) 63).toNat - (max (LO - ((i : Int) * 64 - 1000)) 0).toNat + 1) - 1) <<< (max (LO - ((i : Int) * 64 - 1000)) 0).toNat) := by
     rw [Hid,HR.out]
     exact wordD_rng g1 g3 i (by omega) (by omega) (by omega)
    have HN := hide (BtRel.step hlt hA hw b0 b2 hgr)
    have k0 := cell_of b0 i _ (hw i hlt)
    have f0 := frozen_of b0 i
    have hF0 : 0 ≤ max (LO - ((i : Int) * 64 - 1000)) 0 := by omega
    have hT0 : min (HI - ((i : Int) * 64 - 1000)) 63 ≤ 63 := by omega
    clear b0 b2 hw hgr
    have HB : Hid (IntKind.u64.wrap (18446744073709551615 / 2 ^ (63 - min (HI - ((i : Int) * 64 - 1000)) 63 + max (LO - ((i : Int) * 64 - 1000)) 0).toNat * 2 ^ (max (LO - ((i : Int) * 64 - 1000)) 0).toNat) = ((wordD R i : Nat) : Int)) := by
     rw [Hid,HW.out]
     exact bt_word (by omega) (by omega) (by omega)
    go_wp2
    go_roundw
    case rel => rw [HB.out];exact HN.out
    case measure => simp [intOf];omega
   ·have hc' : decide (max (LO - ((i : Int) * 64 - 1000)) 0 ≤ min (HI - ((i : Int) * 64 - 1000)) 63) = false := by simpa using hc
    have HN := hide (BtRel.skip hlt hA hw b0 b2 hgr (by rw [HR.out];exact wordD_rng0 g1 i (by omega)))
    clear b0 b2 hw hgr hc
    go_wp2
    go_roundw
    case rel => exact HN.out
    case measure => simp [intOf];omega
  ·obtain rfl : i = 32 := by omega
   have eA : A = dArr R := dArr_ext hA (fun j hj => by have q := hw j hj;rw [if_pos hj] at q;exact q)
   subst eA
   clear hw hA
   go_wp2_with (first | (refine wpList_store_row rfl 161 _ _ rfl w.heap.size (dArr R) rfl rfl 161 _ b2 (dSize R) (by rw [dArr_size,dArr_size]) (dArr_one R) ?_) | (refine wpList_load_row rfl 161 _ rfl (w.heap.size + 1) rfl 161 (dArr R) (0,0) _ b0 Tryz.underlying161 rfl (dSize R) ?_))
   refine bodyPost_ret (results_cell_row rfl _ _ w.heap.size 161 (dArr R) (0,0) _ rfl (setRow_heap _ _ _ _ _ _ b2) Tryz.underlying161 rfl (dSize R)) rfl ?_
   exact ⟨rfl,grown_newr hgr (Nat.le_refl _) (grown_setRow _ _ _)⟩
end
section
set_option maxHeartbeats 4000000
set_option maxRecDepth 100000
open Go.RowKit
variable {w : World}
def tzF : Nat → Nat → Nat
 | 0,_ => 0
 | f + 1,x => if x % 2 = 1 then 0 else tzF f (x / 2) + 1
def tzN (x : Nat) : Nat := tzF 64 x
theorem tzF_is : ∀ (f x : Nat),0 < x → x < 2 ^ f → ∃ m,x = 2 ^ tzF f x * m ∧ m % 2 = 1 ∧ tzF f x < f
 | 0,x,h0,h1 => by simp at h1;omega
 | f + 1,x,h0,h1 => by
  unfold tzF
  by_cases c : x % 2 = 1
  ·rw [if_pos c];exact ⟨x,by simp,c,by omega⟩
  ·rw [if_neg c]
   obtain ⟨m,e,hm,hf⟩ := tzF_is f (x / 2) (by omega) (by rw [Nat.pow_succ] at h1;omega)
   refine ⟨m,?_,hm,by omega⟩
   have h2 : x = 2 * (x / 2) := by omega
   generalize hk : tzF f (x / 2) = k at e hf
   rw [Nat.pow_succ]
   generalize 2 ^ k = q at e
   have e2 : q * 2 * m = 2 * (q * m) := by rw [Nat.mul_comm q 2,Nat.mul_assoc]
   omega
theorem tz_is {x : Nat} (h0 : 0 < x) (h1 : x < 2 ^ 64) : ∃ m,x = 2 ^ tzN x * m ∧ m % 2 = 1 ∧ tzN x < 64 := tzF_is 64 x h0 h1
theorem pred_bit {x k m : Nat} (e : x = 2 ^ k * m) (hm : m % 2 = 1) (i : Nat) : (x - 1).testBit i = if i < k then true else if i = k then false else x.testBit i := by
 have hp := Nat.two_pow_pos k
 have e1 : x - 1 = 2 ^ k * (m - 1) + (2 ^ k - 1) := by
  have : m = (m - 1) + 1 := by omega
  rw [e]
  conv => lhs;rw [this,Nat.mul_add]
  omega
 have e0 : x = 2 ^ k * m + 0 := by omega
 rw [e1,Nat.testBit_two_pow_mul_add _ (by omega)]
 by_cases c : i < k
 ·rw [if_pos c,if_pos c,Nat.testBit_two_pow_sub_one];simp [c]
 ·rw [if_neg c,if_neg c]
  by_cases c2 : i = k
  ·subst c2
   rw [if_pos rfl]
   simp [Nat.testBit_zero];omega
  ·rw [if_neg c2,e0,Nat.testBit_two_pow_mul_add _ hp,if_neg c]
   obtain ⟨j,hj⟩ : ∃ j,i - k = j + 1 := ⟨i - k - 1,by omega⟩
   rw [hj,Nat.testBit_succ,Nat.testBit_succ]
   congr 1
   omega
theorem low_bit {x k m : Nat} (e : x = 2 ^ k * m) (hm : m % 2 = 1) (i : Nat) (hi : i ≤ k) : x.testBit i = decide (i = k) := by
 have e0 : x = 2 ^ k * m + 0 := by omega
 rw [e0,Nat.testBit_two_pow_mul_add _ (Nat.two_pow_pos k)]
 by_cases c : i < k
 ·rw [if_pos c];simp;omega
 ·have : i = k := by omega
  subst this
  simp [Nat.testBit_zero,hm]
theorem and_neg {x : Nat} (h0 : 0 < x) (h1 : x < 2 ^ 64) : x &&& (2 ^ 64 - x) = 2 ^ tzN x := by
 obtain ⟨m,e,hm,hk⟩ := tz_is h0 h1
 apply Nat.eq_of_testBit_eq
 intro i
 have e2 : 2 ^ 64 - x = 2 ^ 64 - ((x - 1) + 1) := by omega
 rw [Nat.testBit_and,e2,Nat.testBit_two_pow_sub_succ (by omega),Nat.testBit_two_pow,pred_bit e hm i]
 by_cases c : i < tzN x
 ·have := low_bit e hm i (by omega)
  rw [this]
  have c3 : ¬ i = tzN x := by omega
  have c4 : ¬ tzN x = i := by omega
  simp [c3,c4]
 ·rw [if_neg c]
  by_cases c2 : i = tzN x
  ·have := low_bit e hm i (by omega)
   rw [if_pos c2,this]
   simp [c2,hk]
  ·rw [if_neg c2]
   have c4 : ¬ tzN x = i := by omega
   simp [c4]
   intro h _
   exact h
theorem and_pred_bit {x : Nat} (h0 : 0 < x) (h1 : x < 2 ^ 64) (i : Nat) : (x &&& (x - 1)).testBit i = (x.testBit i && decide (i ≠ tzN x)) := by
 obtain ⟨m,e,hm,hk⟩ := tz_is h0 h1
 rw [Nat.testBit_and,pred_bit e hm i]
 by_cases c : i < tzN x
 ·have := low_bit e hm i (by omega)
  have c3 : ¬ i = tzN x := by omega
  rw [if_pos c,this];simp [c3]
 ·rw [if_neg c]
  by_cases c2 : i = tzN x
  ·rw [if_pos c2];simp [c2]
  ·rw [if_neg c2];simp [c2]
def dbTab : List Int := [0,1,56,2,57,49,28,3,61,58,42,50,38,29,17,4,62,47,59,36,45,43,51,22,53,39,33,30,24,18,12,5,63,55,48,27,60,41,37,16,46,35,44,21,52,32,23,11,54,26,40,15,34,20,31,10,25,14,19,9,13,8,7,6]
theorem db_at : ∀ k : Nat,k < 64 → dbTab.getD ((2 ^ k * 285870213051353865 % 18446744073709551616) / 288230376151711744) 0 = (k : Int) ∧ (2 ^ k * 285870213051353865 % 18446744073709551616) / 288230376151711744 < 64 := by decide
abbrev DbTab (w : World) : Prop := Lib.TabIs Tryz.prog w "math/bits.deBruijn64tab" .u8 dbTab
theorem gDb : Tryz.prog.globalNamed "math/bits.deBruijn64tab" = some 0 := by kernel_rfl
theorem db_cell {w : World} (h : DbTab w) {k : Nat} (hk : k < 64) : w.cell? ⟨0,(2 ^ k * 285870213051353865 % 18446744073709551616) / 288230376151711744,none⟩ = some (.int .u8 k) := by
 obtain ⟨h1,h2⟩ := db_at k hk
 have hl : dbTab.length = 64 := by decide
 have q := h.cell gDb ((2 ^ k * 285870213051353865 % 18446744073709551616) / 288230376151711744) (by rw [hl];exact h2)
 rw [h1] at q
 exact q
theorem db_place {w : World} (ht : DbTab w) {x : Nat} (h0 : 0 < x) (h1 : x < 18446744073709551616) : ∃ j : Nat,j < 64 ∧ IntKind.u64.wrap (bits .and .u64 (x : Int) (IntKind.u64.wrap (-(x : Int))) * 285870213051353865) / 288230376151711744 = (j : Int) ∧ w.cell? ⟨0,j,none⟩ = some (.int .u8 (tzN x : Nat)) := by
 have hk : tzN x < 64 := by obtain ⟨m,e,hm,hk⟩ := tz_is h0 h1;exact hk
 refine ⟨_,(db_at _ hk).2,?_,db_cell ht hk⟩
 have e1 : IntKind.u64.wrap (-(x : Int)) = ((18446744073709551616 - x : Nat) : Int) := by
  rw [IntKind.wrap_u64];omega
 rw [e1,bits_and_u64_nat _ _ h1 (by omega),IntKind.wrap_u64]
 have e2 := and_neg h0 h1
 have e3 : (2 : Nat) ^ 64 = 18446744073709551616 := rfl
 rw [e3] at e2
 rw [e2]
 omega
theorem bt_tz {w : World} (ht : DbTab w) (x : Nat) (h0 : 0 < x) (h1 : x < 18446744073709551616) : Calls Tryz.prog 179 #[.int .u64 (x : Int)] w fun e w' => e = .returned (.int .i64 (tzN x : Nat)) ∧ w' = w := by
 have hk : tzN x < 64 := by obtain ⟨m,e,hm,hk⟩ := tz_is h0 h1;exact hk
 obtain ⟨j,hj,hA,k0⟩ := db_place ht h0 h1
 have hz : (((x : Nat) : Int) == 0) = false := by simp;omega
 generalize tzN x = T at *
 have hw : IntKind.i64.wrap ((T : Nat) : Int) = ((T : Nat) : Int) := by
  clear hA k0
  simp only [IntKind.wrap,IntKind.bits,IntKind.signed]
  simp
  omega
 go_enter Tryz.func179,Tryz.ntmps179
 go_wp2
 go_ret
 exact ⟨rfl,rfl⟩
end
end Go.Proofs.YthpcbbnabnlanaaGreatDoor
