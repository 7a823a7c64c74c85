import Derived.Test.YthpcbbnabnlanaaGreatDoorM16
import Derived.Test.YthpcbbnabnlanaaGreatDoorM17
namespace Go.Proofs.YthpcbbnabnlanaaGreatDoor
open Go.RowKit
set_option linter.unusedVariables false
set_option linter.unusedSimpArgs false
section
def pcS : Pc → Int
 | ⟨.inl _⟩ => 0
 | ⟨.inr (.inl t)⟩ => srt (mkTok t (if kwL t then 107 else 110) 0)
 | ⟨.inr (.inr (.inl n))⟩ => 3
 | ⟨.inr (.inr (.inr t))⟩ => srt (mkTok t 115 0)
def plL : Int → List PTok → List UInt8
 | _,[] => []
 | bf,t :: r => if srt t = 1 then [] else ((if jBehind bf || jAhead (srt t) then [] else [32]) ++ (spell t ++ (if srt t = 11 then [10] else []))) ++ plL (srt t) r
def noNeed : List PTok → Prop
 | [] => True
 | t :: r => needless t (r.headD zeroTok) = false ∧ noNeed r
structure FS where
 k : Int
 sp : Bool
 one : Bool
def isOne : Pc → Bool
 | ⟨.inr (.inr (.inl n))⟩ => n == 1
 | _ => false
def fmStep (s : FS) : Pc → Option FS
 | ⟨.inl true⟩ => if s.sp = true ∨ s.k = -11 then none else some ⟨s.k,true,s.one⟩
 | ⟨.inl false⟩ => if s.k = -11 ∧ s.sp = false then some ⟨11,false,false⟩ else none
 | ⟨.inr x⟩ => if s.k ≠ -11 ∧ (jBehind s.k || jAhead (pcS ⟨.inr x⟩)) = !s.sp ∧ ¬ (s.one = true ∧ pcS ⟨.inr x⟩ = 21) then some ⟨if pcS ⟨.inr x⟩ = 11 then -11 else pcS ⟨.inr x⟩,false,isOne ⟨.inr x⟩⟩ else none
def fmS : FS → List Pc → Option FS
 | s,[] => some s
 | s,p :: r => (fmStep s p).bind fun s' => fmS s' r
def FS.io (s : FS) (out rest : List UInt8) : Prop := if s.k = -11 then 10 :: out = rest else if s.sp = true then out = 32 :: rest else out = rest
def FS.bf (s : FS) : Int := if s.k = -11 then 11 else s.k
def pcTok (line : Nat) : Pc → PTok
 | ⟨.inl _⟩ => zeroTok
 | ⟨.inr (.inl t)⟩ => mkTok t (if kwL t then 107 else 110) line
 | ⟨.inr (.inr (.inl n))⟩ => mkTok (Lib.itoa n) 105 line
 | ⟨.inr (.inr (.inr t))⟩ => mkTok t 115 line
theorem pcTok_srt (line : Nat) (x : List UInt8 ⊕ (Int ⊕ List UInt8)) : srt (pcTok line ⟨.inr x⟩) = pcS ⟨.inr x⟩ := by
 rcases x with t | n | t
 ·rfl
 ·rfl
 ·rfl
theorem pcTok_toks (line : Nat) (x : List UInt8 ⊕ (Int ⊕ List UInt8)) (r : List Pc) : toksP line (⟨.inr x⟩ :: r) = pcTok line ⟨.inr x⟩ :: toksP line r := by
 rcases x with t | n | t
 ·rfl
 ·rfl
 ·rfl
def tokOk (x : List UInt8 ⊕ (Int ⊕ List UInt8)) : Prop := (pcS ⟨.inr x⟩ ≠ 1 ∧ pcS ⟨.inr x⟩ ≠ -11) ∧ ∀ line,spell (pcTok line ⟨.inr x⟩) = Pc.bytes ⟨.inr x⟩
theorem plain_fm : ∀ {P : List Pc} {s : FS} {line : Nat} {e : PTok},(∀ x,(⟨.inr x⟩ : Pc) ∈ P → tokOk x) → srt e = 1 → (∃ s',fmS s P = some s' ∧ s'.k = 11 ∧ s'.sp = false) → s.io (plL s.bf (toksP line P ++ [e])) (bytesP P)
 | [],s,line,e,hp,he,⟨s',h,hk,hs⟩ => by
  have h : some s = some s' := h
  injection h with h
  subst h
  unfold FS.io
  rw [hk,if_neg (by decide),hs,if_neg (by decide)]
  show plL s.bf [e] = []
  simp [plL,he]
 | ⟨.inl true⟩ :: r,s,line,e,hp,he,⟨s',h,hk,hs⟩ => by
  have h : (if s.sp = true ∨ s.k = -11 then none else some (⟨s.k,true,s.one⟩ : FS)).bind (fun s' => fmS s' r) = some s' := h
  by_cases c : s.sp = true ∨ s.k = -11
  ·rw [if_pos c] at h;cases h
  rw [if_neg c] at h
  have ih := plain_fm (P := r) (s := ⟨s.k,true,s.one⟩) (line := line) (e := e) (fun x hx => hp x (by simp [hx])) he ⟨s',h,hk,hs⟩
  have ck : ¬ s.k = -11 := fun q => c (.inr q)
  have cs : ¬ s.sp = true := fun q => c (.inl q)
  unfold FS.io FS.bf at ih ⊢
  simp only [if_neg ck,if_neg cs,if_true] at ih ⊢
  rw [bytesP_cons]
  exact ih
 | ⟨.inl false⟩ :: r,s,line,e,hp,he,⟨s',h,hk,hs⟩ => by
  have h : (if s.k = -11 ∧ s.sp = false then some (⟨11,false,false⟩ : FS) else none).bind (fun s' => fmS s' r) = some s' := h
  by_cases c : s.k = -11 ∧ s.sp = false
  ·rw [if_pos c] at h
   have ih := plain_fm (P := r) (s := ⟨11,false,false⟩) (line := line + 1) (e := e) (fun x hx => hp x (by simp [hx])) he ⟨s',h,hk,hs⟩
   unfold FS.io FS.bf at ih ⊢
   rw [if_pos c.1,if_pos c.1]
   rw [bytesP_cons]
   show 10 :: plL 11 (toksP (line + 1) r ++ [e]) = 10 :: bytesP r
   congr 1
  ·rw [if_neg c] at h;cases h
 | ⟨.inr x⟩ :: r,s,line,e,hp,he,⟨s',h,hk,hs⟩ => by
  have h : (if s.k ≠ -11 ∧ (jBehind s.k || jAhead (pcS ⟨.inr x⟩)) = !s.sp ∧ ¬ (s.one = true ∧ pcS ⟨.inr x⟩ = 21) then some (⟨if pcS ⟨.inr x⟩ = 11 then -11 else pcS ⟨.inr x⟩,false,isOne ⟨.inr x⟩⟩ : FS) else none).bind (fun s' => fmS s' r) = some s' := h
  by_cases c : s.k ≠ -11 ∧ (jBehind s.k || jAhead (pcS ⟨.inr x⟩)) = !s.sp ∧ ¬ (s.one = true ∧ pcS ⟨.inr x⟩ = 21)
  ·rw [if_pos c] at h
   obtain ⟨c1,c2,c3⟩ := c
   have ih := plain_fm (P := r) (s := ⟨if pcS ⟨.inr x⟩ = 11 then -11 else pcS ⟨.inr x⟩,false,isOne ⟨.inr x⟩⟩) (line := line) (e := e) (fun y hy => hp y (by simp [hy])) he ⟨s',h,hk,hs⟩
   obtain ⟨⟨t1,t3⟩,t2⟩ := hp x (by simp)
   have hS := pcTok_srt line x
   have e1 : plL s.bf (toksP line (⟨.inr x⟩ :: r) ++ [e]) = ((if s.sp = true then [32] else []) ++ (Pc.bytes ⟨.inr x⟩ ++ (if pcS ⟨.inr x⟩ = 11 then [10] else []))) ++ plL (pcS ⟨.inr x⟩) (toksP line r ++ [e]) := by
    rw [pcTok_toks]
    show (if srt (pcTok line ⟨.inr x⟩) = 1 then [] else ((if jBehind s.bf || jAhead (srt (pcTok line ⟨.inr x⟩)) then [] else [32]) ++ (spell (pcTok line ⟨.inr x⟩) ++ (if srt (pcTok line ⟨.inr x⟩) = 11 then [10] else []))) ++ plL (srt (pcTok line ⟨.inr x⟩)) (toksP line r ++ [e])) = _
    rw [hS,if_neg t1,t2 line]
    have hb : s.bf = s.k := by unfold FS.bf;rw [if_neg c1]
    rw [hb,c2]
    cases s.sp <;> simp
   rw [e1,bytesP_cons]
   unfold FS.io at ih ⊢
   rw [if_neg c1]
   by_cases q : pcS ⟨.inr x⟩ = 11
   ·simp only [q,if_true] at ih ⊢
    have ih : 10 :: plL 11 (toksP line r ++ [e]) = bytesP r := ih
    rw [← ih]
    cases s.sp <;> simp
   ·have hbf : FS.bf ⟨if pcS ⟨.inr x⟩ = 11 then -11 else pcS ⟨.inr x⟩,false,isOne ⟨.inr x⟩⟩ = pcS ⟨.inr x⟩ := by
     unfold FS.bf
     simp only [if_neg q,if_neg t3]
    rw [hbf] at ih
    simp only [if_neg q,if_neg t3,Bool.false_eq_true,if_false] at ih ⊢
    rw [← ih]
    cases s.sp <;> simp
  ·rw [if_neg c] at h;cases h
theorem head_no {e : PTok} (he : srt e = 1) : ∀ {P : List Pc} {s : FS} {line : Nat},fmS s P ≠ none → s.one = true → s.k = 3 → srt ((toksP line P ++ [e]).headD zeroTok) ≠ 21
 | [],s,line,_,_,_ => by show srt e ≠ 21;rw [he];decide
 | ⟨.inl true⟩ :: r,s,line,h,ho,hk => by
  have h : (if s.sp = true ∨ s.k = -11 then none else some (⟨s.k,true,s.one⟩ : FS)).bind (fun s' => fmS s' r) ≠ none := h
  by_cases c : s.sp = true ∨ s.k = -11
  ·rw [if_pos c] at h;exact absurd rfl h
  rw [if_neg c] at h
  exact head_no he (P := r) (s := ⟨s.k,true,s.one⟩) (line := line) h ho hk
 | ⟨.inl false⟩ :: r,s,line,h,ho,hk => by
  have h : (if s.k = -11 ∧ s.sp = false then some (⟨11,false,false⟩ : FS) else none).bind (fun s' => fmS s' r) ≠ none := h
  rw [if_neg (fun q => absurd (hk.symm.trans q.1) (by decide))] at h
  exact absurd rfl h
 | ⟨.inr x⟩ :: r,s,line,h,ho,hk => by
  have h : (if s.k ≠ -11 ∧ (jBehind s.k || jAhead (pcS ⟨.inr x⟩)) = !s.sp ∧ ¬ (s.one = true ∧ pcS ⟨.inr x⟩ = 21) then some (⟨if pcS ⟨.inr x⟩ = 11 then -11 else pcS ⟨.inr x⟩,false,isOne ⟨.inr x⟩⟩ : FS) else none).bind (fun s' => fmS s' r) ≠ none := h
  by_cases c : s.k ≠ -11 ∧ (jBehind s.k || jAhead (pcS ⟨.inr x⟩)) = !s.sp ∧ ¬ (s.one = true ∧ pcS ⟨.inr x⟩ = 21)
  ·rw [pcTok_toks]
   show srt (pcTok line ⟨.inr x⟩) ≠ 21
   rw [pcTok_srt]
   exact fun q => c.2.2 ⟨ho,q⟩
  ·rw [if_neg c] at h;exact absurd rfl h
theorem noNeed_fm {e : PTok} (he : srt e = 1) : ∀ {P : List Pc} {s : FS} {line : Nat},fmS s P ≠ none → noNeed (toksP line P ++ [e])
 | [],s,line,_ => by
  refine ⟨?_,trivial⟩
  show needless e zeroTok = false
  unfold needless
  rw [he];rfl
 | ⟨.inl true⟩ :: r,s,line,h => by
  have h : (if s.sp = true ∨ s.k = -11 then none else some (⟨s.k,true,s.one⟩ : FS)).bind (fun s' => fmS s' r) ≠ none := h
  by_cases c : s.sp = true ∨ s.k = -11
  ·rw [if_pos c] at h;exact absurd rfl h
  rw [if_neg c] at h
  exact noNeed_fm he (P := r) (line := line) h
 | ⟨.inl false⟩ :: r,s,line,h => by
  have h : (if s.k = -11 ∧ s.sp = false then some (⟨11,false,false⟩ : FS) else none).bind (fun s' => fmS s' r) ≠ none := h
  by_cases c : s.k = -11 ∧ s.sp = false
  ·rw [if_pos c] at h;exact noNeed_fm he (P := r) (line := line + 1) h
  ·rw [if_neg c] at h;exact absurd rfl h
 | ⟨.inr x⟩ :: r,s,line,h => by
  have h : (if s.k ≠ -11 ∧ (jBehind s.k || jAhead (pcS ⟨.inr x⟩)) = !s.sp ∧ ¬ (s.one = true ∧ pcS ⟨.inr x⟩ = 21) then some (⟨if pcS ⟨.inr x⟩ = 11 then -11 else pcS ⟨.inr x⟩,false,isOne ⟨.inr x⟩⟩ : FS) else none).bind (fun s' => fmS s' r) ≠ none := h
  by_cases c : s.k ≠ -11 ∧ (jBehind s.k || jAhead (pcS ⟨.inr x⟩)) = !s.sp ∧ ¬ (s.one = true ∧ pcS ⟨.inr x⟩ = 21)
  ·rw [if_pos c] at h
   rw [pcTok_toks]
   refine ⟨?_,noNeed_fm he (P := r) (line := line) h⟩
   show needless (pcTok line ⟨.inr x⟩) ((toksP line r ++ [e]).headD zeroTok) = false
   unfold needless
   rw [pcTok_srt]
   cases o : isOne ⟨.inr x⟩ with
   | false =>
    rcases x with t | n | t
    ·have : tval (pcTok line ⟨.inr (.inl t)⟩) = 0 := by show tval (mkTok t (if kwL t then 107 else 110) line) = 0;unfold tval mkTok;cases kwL t <;> rfl
     rw [this];simp
    ·have e1 : tval (pcTok line ⟨.inr (.inr (.inl n))⟩) = n := tval_I n line
     have o : (n == 1) = false := o
     rw [e1,o];simp
    ·have : tval (pcTok line ⟨.inr (.inr (.inr t))⟩) = 0 := rfl
     rw [this];simp
   | true =>
    rcases x with t | n | t
    ·cases o
    ·have q := head_no he (P := r) (s := ⟨if pcS ⟨.inr (.inr (.inl n))⟩ = 11 then -11 else pcS ⟨.inr (.inr (.inl n))⟩,false,isOne ⟨.inr (.inr (.inl n))⟩⟩) (line := line) h o rfl
     have : (srt ((toksP line r ++ [e]).headD zeroTok) == 21) = false := by rw [beq_eq_false_iff_ne];exact q
     rw [this,Bool.and_false]
    ·cases o
  ·rw [if_neg c] at h;exact absurd rfl h
theorem kw_rng (s : ByteArray) : kwSort s = 2 ∨ (4 ≤ kwSort s ∧ kwSort s ≤ 10) := by
 unfold kwSort
 generalize s.toList = l
 repeat' split
 all_goals omega
theorem sg_rng (s : ByteArray) : sgSort s = 0 ∨ (11 ≤ sgSort s ∧ sgSort s ≤ 23) := by
 unfold sgSort
 generalize s.toList = l
 repeat' split
 all_goals omega
theorem tok_okW {t : List UInt8} : tokOk (.inl t) := by
 have key : ∀ line,srt (mkTok t (if kwL t then 107 else 110) line) = kwSort ⟨t.toArray⟩ := fun line => by cases kwL t <;> rfl
 have r := kw_rng ⟨t.toArray⟩
 refine ⟨?_,fun line => ?_⟩
 ·show srt (mkTok t (if kwL t then 107 else 110) 0) ≠ 1 ∧ srt (mkTok t (if kwL t then 107 else 110) 0) ≠ -11
  rw [key];omega
 ·show spell (mkTok t (if kwL t then 107 else 110) line) = t
  unfold spell
  rw [if_neg (by rw [key];omega)]
  rfl
theorem tok_okN {n : Int} : tokOk (.inr (.inl n)) := by
 refine ⟨⟨by show (3 : Int) ≠ 1;decide,by show (3 : Int) ≠ -11;decide⟩,fun line => ?_⟩
 show spell (mkTok (Lib.itoa n) 105 line) = Lib.itoa n
 unfold spell
 have : srt (mkTok (Lib.itoa n) 105 line) = 3 := rfl
 rw [if_pos this]
 have : tval (mkTok (Lib.itoa n) 105 line) = n := tval_I n line
 rw [this]
theorem tok_okS {t : List UInt8} : tokOk (.inr (.inr t)) := by
 have key : ∀ line,srt (mkTok t 115 line) = sgSort ⟨t.toArray⟩ := fun line => rfl
 have r := sg_rng ⟨t.toArray⟩
 refine ⟨?_,fun line => ?_⟩
 ·show srt (mkTok t 115 0) ≠ 1 ∧ srt (mkTok t 115 0) ≠ -11
  rw [key];omega
 ·show spell (mkTok t 115 line) = t
  unfold spell
  rw [if_neg (by rw [key];omega)]
  rfl
theorem tok_ok_all (x : List UInt8 ⊕ (Int ⊕ List UInt8)) : tokOk x := by
 rcases x with t | n | t
 ·exact tok_okW
 ·exact tok_okN
 ·exact tok_okS
theorem fm_cons {s s' : FS} {p : Pc} (r : List Pc) (h : fmStep s p = some s') : fmS s (p :: r) = fmS s' r := by
 show (fmStep s p).bind (fun s' => fmS s' r) = _
 rw [h];rfl
theorem fB {k : Int} {o : Bool} (hk : k ≠ -11) : fmStep ⟨k,false,o⟩ .sp = some ⟨k,true,o⟩ := by
 show (if (false : Bool) = true ∨ k = -11 then none else some (⟨k,true,o⟩ : FS)) = _
 rw [if_neg (fun q => by rcases q with q | q;cases q;exact hk q)]
theorem fX {x : List UInt8 ⊕ (Int ⊕ List UInt8)} {k k' : Int} {sp o : Bool} (hs : pcS ⟨.inr x⟩ = k') (hk : k ≠ -11) (h21 : k' ≠ 21 ∨ o = false) (h11 : k' ≠ 11) (hg : (jBehind k || jAhead k') = !sp) : fmStep ⟨k,sp,o⟩ ⟨.inr x⟩ = some ⟨k',false,isOne ⟨.inr x⟩⟩ := by
 show (if k ≠ -11 ∧ (jBehind k || jAhead (pcS ⟨.inr x⟩)) = !sp ∧ ¬ (o = true ∧ pcS ⟨.inr x⟩ = 21) then some (⟨if pcS ⟨.inr x⟩ = 11 then -11 else pcS ⟨.inr x⟩,false,isOne ⟨.inr x⟩⟩ : FS) else none) = _
 rw [hs,if_pos ⟨hk,hg,fun q => by rcases h21 with z | z;exact z q.2;rw [z] at q;cases q.1⟩,if_neg h11]
theorem pcS_name {n : List UInt8} (h : kwL n = false) : pcS (.word n) = 2 := by
 show srt (mkTok n (if kwL n then 107 else 110) 0) = 2
 rw [h]
 exact srt_N h 0
theorem fW {n : List UInt8} {k : Int} {sp o : Bool} (hn : kwL n = false) (hk : k ≠ -11) (hg : jBehind k = !sp) : fmStep ⟨k,sp,o⟩ (.word n) = some ⟨2,false,false⟩ :=
 fX (pcS_name hn) hk (.inl (by decide)) (by decide) (by rw [show jAhead 2 = false from rfl,Bool.or_false];exact hg)
theorem fN {m k : Int} {sp o : Bool} (hk : k ≠ -11) (hg : jBehind k = !sp) : fmStep ⟨k,sp,o⟩ (.num m) = some ⟨3,false,m == 1⟩ :=
 fX (k' := 3) rfl hk (.inl (by decide)) (by decide) (by rw [show jAhead 3 = false from rfl,Bool.or_false];exact hg)
theorem fG {t : List UInt8} {k k' : Int} {sp o : Bool} (hs : pcS (.sg t) = k') (hk : k ≠ -11) (h21 : k' ≠ 21 ∨ o = false) (h11 : k' ≠ 11) (hg : (jBehind k || jAhead k') = !sp) : fmStep ⟨k,sp,o⟩ (.sg t) = some ⟨k',false,false⟩ := fX hs hk h21 h11 hg
theorem pcS_kw : pcS (.word [118,97,114]) = 4 ∧ pcS (.word [108,105,110]) = 6 ∧ pcS (.word [119,104,101,110]) = 7 ∧ pcS (.word [97,116]) = 8 ∧ pcS (.word [100,105,102,102]) = 9 ∧ pcS (.word [111,114]) = 10 := ⟨srt_W _ 0,srt_W _ 0,srt_W _ 0,srt_W _ 0,srt_W _ 0,srt_W _ 0⟩
theorem fK {t : List UInt8} {k' : Int} {o : Bool} (hs : pcS (.word t) = k') (h21 : k' ≠ 21) (h11 : k' ≠ 11) : fmStep ⟨11,false,o⟩ (.word t) = some ⟨k',false,false⟩ := fX hs (by decide) (.inl h21) h11 (by rw [show jBehind 11 = true from rfl];rfl)
theorem pcS_sg : pcS (.sg [58]) = 12 ∧ pcS (.sg [44]) = 13 ∧ pcS (.sg [61]) = 14 ∧ pcS (.sg [33,61]) = 15 ∧ pcS (.sg [60,61]) = 16 ∧ pcS (.sg [46,46]) = 17 ∧ pcS (.sg [91]) = 18 ∧ pcS (.sg [93]) = 19 ∧ pcS (.sg [43]) = 20 ∧ pcS (.sg [42]) = 21 ∧ pcS (.sg [33]) = 22 ∧ pcS (.sg [45]) = 23 ∧ pcS (.sg [59]) = 11 :=
 ⟨srt_S _ 0,srt_S _ 0,srt_S _ 0,srt_S _ 0,srt_S _ 0,srt_S _ 0,srt_S _ 0,srt_S _ 0,srt_S _ 0,srt_S _ 0,srt_S _ 0,srt_S _ 0,srt_S _ 0⟩
def AT.pl (t : AT) : Prop := kwL t.n = false ∧ t.f ≠ some 1
theorem fm_body {t : AT} (h : t.pl) {k : Int} {o : Bool} {sp : Bool} (hk : k ≠ -11) (hg : jBehind k = !sp) (R : List Pc) : fmS ⟨k,sp,o⟩ (t.body ++ R) = fmS ⟨2,false,false⟩ R := by
 unfold AT.body
 cases e : t.f with
 | none => exact fm_cons R (fW h.1 hk hg)
 | some f =>
  have hf : (f == 1) = false := by rw [beq_eq_false_iff_ne];intro q;subst q;exact h.2 e
  show fmS ⟨k,sp,o⟩ (.num f :: .sp :: .sg [42] :: .sp :: .word t.n :: R) = _
  rw [fm_cons _ (fN hk hg),fm_cons _ (fB (by decide)),fm_cons _ (fG pcS_sg.2.2.2.2.2.2.2.2.2.1 (by decide) (.inr hf) (by decide) rfl),fm_cons _ (fB (by decide)),fm_cons _ (fW h.1 (by decide) rfl)]
theorem fm_sum : ∀ {ts : List AT},(∀ t ∈ ts,t.pl) → ∀ R,fmS ⟨2,false,false⟩ (sumPc ts ++ R) = fmS ⟨2,false,false⟩ R
 | [],_,R => rfl
 | t :: ts,h,R => by
  show fmS ⟨2,false,false⟩ (.sp :: .sg (if t.neg then [45] else [43]) :: .sp :: ((t.body ++ sumPc ts) ++ R)) = _
  rw [List.append_assoc,fm_cons _ (fB (by decide))]
  cases t.neg with
  | true => rw [fm_cons _ (fG (t := if true then [45] else [43]) pcS_sg.2.2.2.2.2.2.2.2.2.2.2.1 (by decide) (.inl (by decide)) (by decide) rfl),fm_cons _ (fB (by decide)),fm_body (h t (by simp)) (by decide) rfl,fm_sum (fun u hu => h u (by simp [hu]))]
  | false => rw [fm_cons _ (fG (t := if false then [45] else [43]) pcS_sg.2.2.2.2.2.2.2.2.1 (by decide) (.inl (by decide)) (by decide) rfl),fm_cons _ (fB (by decide)),fm_body (h t (by simp)) (by decide) rfl,fm_sum (fun u hu => h u (by simp [hu]))]
theorem fm_lin {t : AT} {ts : List AT} {rel : Nat} {m : Int} (h : t.pl) (hs : ∀ u ∈ ts,u.pl) {k : Int} {o : Bool} (hk : k ≠ -11) (hg : jBehind k = false) (R : List Pc) : fmS ⟨k,true,o⟩ (linPc t ts rel m ++ R) = fmS ⟨3,false,m == 1⟩ R := by
 unfold linPc
 rw [List.append_assoc,fm_body (sp := true) h hk hg,List.append_assoc,fm_sum hs]
 show fmS ⟨2,false,false⟩ (.sp :: .sg (relB rel) :: .sp :: .num m :: R) = _
 rw [fm_cons _ (fB (by decide))]
 match rel with
 | 0 => rw [fm_cons _ (fG (t := relB 0) pcS_sg.2.2.1 (by decide) (.inl (by decide)) (by decide) rfl),fm_cons _ (fB (by decide)),fm_cons _ (fN (by decide) rfl)]
 | 1 => rw [fm_cons _ (fG (t := relB 1) pcS_sg.2.2.2.1 (by decide) (.inl (by decide)) (by decide) rfl),fm_cons _ (fB (by decide)),fm_cons _ (fN (by decide) rfl)]
 | n + 2 => rw [fm_cons _ (fG (t := relB (n + 2)) pcS_sg.2.2.2.2.1 (by decide) (.inl (by decide)) (by decide) rfl),fm_cons _ (fB (by decide)),fm_cons _ (fN (by decide) rfl)]
theorem fm_ser {α : Type} {f : α → List Pc} {rs : List α} (h : ∀ a ∈ rs,∀ R,fmS ⟨13,true,false⟩ (f a ++ R) = fmS ⟨2,false,false⟩ R) (R : List Pc) : fmS ⟨2,false,false⟩ (serPc f rs ++ R) = fmS ⟨2,false,false⟩ R := by
 induction rs with
 | nil => rfl
 | cons a rs ih =>
  show fmS ⟨2,false,false⟩ (.sg [44] :: .sp :: ((f a ++ serPc f rs) ++ R)) = _
  rw [List.append_assoc,fm_cons _ (fG pcS_sg.2.1 (by decide) (.inl (by decide)) (by decide) rfl),fm_cons _ (fB (by decide)),h a (by simp),ih (fun b hb => h b (by simp [hb]))]
theorem fm_lit {a : Bool × List UInt8} (h : kwL a.2 = false) {k : Int} (hk : k ≠ -11) (hg : jBehind k = false) (R : List Pc) : fmS ⟨k,true,false⟩ (litPc a ++ R) = fmS ⟨2,false,false⟩ R := by
 unfold litPc
 cases a.1 with
 | true => exact fm_cons R (fW h hk hg)
 | false =>
  show fmS ⟨k,true,false⟩ (.sg [33] :: .word a.2 :: R) = _
  rw [fm_cons _ (fG pcS_sg.2.2.2.2.2.2.2.2.2.2.1 hk (.inl (by decide)) (by decide) (by rw [hg];rfl)),fm_cons _ (fW h (by decide) rfl)]
def AS.pl : AS → Prop
 | ⟨.inl (n,_,_)⟩ => kwL n = false
 | ⟨.inr (.inl _)⟩ => False
 | ⟨.inr (.inr (.inl (t,ts,_,_)))⟩ => t.pl ∧ ∀ u ∈ ts,u.pl
 | ⟨.inr (.inr (.inr (.inl (b,t,ts,_,_))))⟩ => kwL b = false ∧ t.pl ∧ ∀ u ∈ ts,u.pl
 | ⟨.inr (.inr (.inr (.inr (.inl (l,k,v)))))⟩ => kwL l = false ∧ kwL k = false ∧ kwL v = false
 | ⟨.inr (.inr (.inr (.inr (.inr (.inl (a,rs))))))⟩ => kwL a = false ∧ ∀ n ∈ rs,kwL n = false
 | ⟨.inr (.inr (.inr (.inr (.inr (.inr (a,rs))))))⟩ => kwL a.2 = false ∧ ∀ p ∈ rs,kwL p.2 = false
theorem fm_stmt {a : AS} (h : a.pl) (o : Bool) (R : List Pc) : ∃ k o',k ≠ -11 ∧ fmS ⟨11,false,o⟩ (a.pcs ++ R) = fmS ⟨k,false,o'⟩ R := by
 rcases a with ⟨⟨n,lo,hi⟩ | ⟨n,a,rs⟩ | ⟨t,ts,rel,m⟩ | ⟨b,t,ts,rel,m⟩ | ⟨l,k,v⟩ | ⟨a,rs⟩ | ⟨a,rs⟩⟩
 ·have h : kwL n = false := h
  refine ⟨3,hi == 1,by decide,?_⟩
  show fmS ⟨11,false,o⟩ (.word [118,97,114] :: .sp :: .word n :: .sg [58] :: .sp :: .num lo :: .sg [46,46] :: .num hi :: R) = _
  rw [fm_cons _ (fK pcS_kw.1 (by decide) (by decide)),fm_cons _ (fB (by decide)),fm_cons _ (fW h (by decide) rfl),fm_cons _ (fG pcS_sg.1 (by decide) (.inl (by decide)) (by decide) rfl),fm_cons _ (fB (by decide)),fm_cons _ (fN (by decide) rfl),fm_cons _ (fG pcS_sg.2.2.2.2.2.1 (by decide) (.inl (by decide)) (by decide) rfl),fm_cons _ (fN (by decide) rfl)]
 ·exact h.elim
 ·refine ⟨3,m == 1,by decide,?_⟩
  show fmS ⟨11,false,o⟩ (.word [108,105,110] :: .sp :: (linPc t ts rel m ++ R)) = _
  rw [fm_cons _ (fK pcS_kw.2.1 (by decide) (by decide)),fm_cons _ (fB (by decide)),fm_lin h.1 h.2 (by decide) rfl]
 ·obtain ⟨h1,h2,h3⟩ := h
  refine ⟨3,m == 1,by decide,?_⟩
  show fmS ⟨11,false,o⟩ (.word [119,104,101,110] :: .sp :: .word b :: .sg [58] :: .sp :: (linPc t ts rel m ++ R)) = _
  rw [fm_cons _ (fK pcS_kw.2.2.1 (by decide) (by decide)),fm_cons _ (fB (by decide)),fm_cons _ (fW h1 (by decide) rfl),fm_cons _ (fG pcS_sg.1 (by decide) (.inl (by decide)) (by decide) rfl),fm_cons _ (fB (by decide)),fm_lin h2 h3 (by decide) rfl]
 ·obtain ⟨h1,h2,h3⟩ := h
  refine ⟨2,false,by decide,?_⟩
  show fmS ⟨11,false,o⟩ (.word [97,116] :: .sp :: .word l :: .sg [91] :: .word k :: .sg [93] :: .sp :: .sg [61] :: .sp :: .word v :: R) = _
  rw [fm_cons _ (fK pcS_kw.2.2.2.1 (by decide) (by decide)),fm_cons _ (fB (by decide)),fm_cons _ (fW h1 (by decide) rfl),fm_cons _ (fG pcS_sg.2.2.2.2.2.2.1 (by decide) (.inl (by decide)) (by decide) rfl),fm_cons _ (fW h2 (by decide) rfl),fm_cons _ (fG pcS_sg.2.2.2.2.2.2.2.1 (by decide) (.inl (by decide)) (by decide) rfl),fm_cons _ (fB (by decide)),fm_cons _ (fG pcS_sg.2.2.1 (by decide) (.inl (by decide)) (by decide) rfl),fm_cons _ (fB (by decide)),fm_cons _ (fW h3 (by decide) rfl)]
 ·obtain ⟨h1,h2⟩ := h
  refine ⟨2,false,by decide,?_⟩
  show fmS ⟨11,false,o⟩ (.word [100,105,102,102] :: .sp :: .word a :: (serPc (fun n => [.word n]) rs ++ R)) = _
  rw [fm_cons _ (fK pcS_kw.2.2.2.2.1 (by decide) (by decide)),fm_cons _ (fB (by decide)),fm_cons _ (fW h1 (by decide) rfl),fm_ser (fun n hn R => fm_cons R (fW (h2 n hn) (by decide) rfl))]
 ·obtain ⟨h1,h2⟩ := h
  refine ⟨2,false,by decide,?_⟩
  show fmS ⟨11,false,o⟩ (.word [111,114] :: .sp :: ((litPc a ++ serPc litPc rs) ++ R)) = _
  rw [fm_cons _ (fK pcS_kw.2.2.2.2.2 (by decide) (by decide)),fm_cons _ (fB (by decide)),List.append_assoc,fm_lit h1 (by decide) rfl,fm_ser (fun p hp R => fm_lit (h2 p hp) (by decide) rfl R)]
theorem fm_text : ∀ {A : List (AS × List Pc)},(∀ p ∈ A,p.1.pl ∧ p.2 = [.nl]) → ∀ o,fmS ⟨11,false,o⟩ (textPc A) ≠ none ∧ ∃ s',fmS ⟨11,false,o⟩ (textPc A) = some s' ∧ s'.k = 11 ∧ s'.sp = false
 | [],_,o => ⟨fun q => (by cases q),_,rfl,rfl,rfl⟩
 | (a,b) :: r,h,o => by
  obtain ⟨h1,h2⟩ := h (a,b) (by simp)
  have h2 : b = [.nl] := h2
  subst h2
  obtain ⟨k,o',hk,e⟩ := fm_stmt h1 o (.sg [59] :: .nl :: textPc r)
  have e2 : fmS ⟨k,false,o'⟩ (.sg [59] :: .nl :: textPc r) = fmS ⟨11,false,false⟩ (textPc r) := by
   have q : fmStep ⟨k,false,o'⟩ (.sg [59]) = some ⟨-11,false,false⟩ := by
    show (if k ≠ -11 ∧ (jBehind k || jAhead (pcS (.sg [59]))) = !false ∧ ¬ (o' = true ∧ pcS (.sg [59]) = 21) then some (⟨if pcS (.sg [59]) = 11 then -11 else pcS (.sg [59]),false,isOne (.sg [59])⟩ : FS) else none) = _
    rw [pcS_sg.2.2.2.2.2.2.2.2.2.2.2.2,if_pos ⟨hk,by rw [show jAhead 11 = true from rfl,Bool.or_true];rfl,fun q => absurd q.2 (by decide)⟩]
    rfl
   rw [fm_cons _ q]
   exact fm_cons _ rfl
  show fmS ⟨11,false,o⟩ (a.pcs ++ (.sg [59] :: ([.nl] ++ textPc r))) ≠ none ∧ ∃ s',fmS ⟨11,false,o⟩ (a.pcs ++ (.sg [59] :: ([.nl] ++ textPc r))) = some s' ∧ s'.k = 11 ∧ s'.sp = false
  rw [show (Pc.sg [59] :: ([Pc.nl] ++ textPc r)) = .sg [59] :: .nl :: textPc r from rfl,e,e2]
  exact fm_text (A := r) (fun p hp => h p (by simp [hp])) false
theorem plL_text {A : List (AS × List Pc)} (h : ∀ p ∈ A,p.1.pl ∧ p.2 = [.nl]) {e : PTok} (he : srt e = 1) (line : Nat) : plL 11 (toksP line (textPc A) ++ [e]) = bytesP (textPc A) ∧ noNeed (toksP line (textPc A) ++ [e]) := by
 obtain ⟨h1,h2⟩ := fm_text h false
 refine ⟨?_,noNeed_fm he h1⟩
 have q := plain_fm (P := textPc A) (s := ⟨11,false,false⟩) (line := line) (e := e) (fun x _ => tok_ok_all x) he h2
 exact q
end
section
theorem tkN_drop (toks : List PTok) (i : Nat) : (toks.drop i).headD zeroTok = tkN toks i := by
 unfold tkN
 rw [List.getD_eq_getElem?_getD,List.headD_eq_head?_getD,List.head?_drop]
theorem plainF_L {toks : List PTok} : ∀ (f i : Nat) (bf : Int) (out : List UInt8),toks.length ≤ i + f → noNeed (toks.drop i) → (∃ j,i ≤ j ∧ j < toks.length ∧ srt (tkN toks j) = 1) → plainF toks f i bf out = out ++ plL bf (toks.drop i)
 | 0,i,bf,out,hf,_,⟨j,h1,h2,_⟩ => by omega
 | f + 1,i,bf,out,hf,hn,⟨j,h1,h2,h3⟩ => by
  have hi : i < toks.length := by omega
  have ht : toks[i] = tkN toks i := by unfold tkN;rw [List.getD_eq_getElem?_getD,List.getElem?_eq_getElem hi];rfl
  have hd : toks.drop i = tkN toks i :: toks.drop (i + 1) := by rw [List.drop_eq_getElem_cons hi,ht]
  rw [hd] at hn ⊢
  obtain ⟨n1,n2⟩ := hn
  rw [tkN_drop] at n1
  by_cases c : srt (tkN toks i) = 1
  ·rw [plainF_end c]
   simp [plL,c]
  ·rw [plainF_step c n1]
   have hj : i + 1 ≤ j := by
    rcases Nat.eq_or_lt_of_le h1 with q | q
    ·subst q;exact absurd h3 c
    ·exact q
   rw [plainF_L f (i + 1) _ _ (by omega) n2 ⟨j,hj,h2,h3⟩]
   simp only [plL,if_neg c,List.append_assoc]
theorem plainT_L {l : List PTok} {e : PTok} (hn : noNeed (l ++ [e])) (he : srt e = 1) : plainT (l ++ [e]) = plL 11 (l ++ [e]) := by
 unfold plainT
 rw [plainF_L _ 0 11 [] (by omega) hn ⟨l.length,Nat.zero_le _,by simp,by unfold tkN;rw [List.getD_eq_getElem?_getD,List.getElem?_append_right (Nat.le_refl _)];simpa using he⟩]
 rfl
def unl (t : PTok) : PTok := ⟨t.s,t.kind,0⟩
theorem plL_unl : ∀ (l : List PTok) (bf : Int),plL bf (l.map unl) = plL bf l
 | [],bf => rfl
 | t :: r,bf => by
  have ih := plL_unl r (srt t)
  show (if srt t = 1 then [] else ((if jBehind bf || jAhead (srt t) then [] else [32]) ++ (spell t ++ (if srt t = 11 then [10] else []))) ++ plL (srt t) (r.map unl)) = _
  rw [ih]
  rfl
theorem noNeed_unl : ∀ (l : List PTok),noNeed (l.map unl) ↔ noNeed l
 | [] => Iff.rfl
 | t :: r => by
  have e : needless (unl t) ((r.map unl).headD zeroTok) = needless t (r.headD zeroTok) := by cases r <;> rfl
  simp only [List.map_cons,noNeed,e,noNeed_unl r]
theorem toksP_unl : ∀ (P : List Pc) (a b : Nat),(toksP a P).map unl = (toksP b P).map unl
 | [],a,b => rfl
 | ⟨.inl true⟩ :: r,a,b => toksP_unl r a b
 | ⟨.inl false⟩ :: r,a,b => toksP_unl r (a + 1) (b + 1)
 | ⟨.inr (.inl t)⟩ :: r,a,b => congrArg (List.cons _) (toksP_unl r a b)
 | ⟨.inr (.inr (.inl t))⟩ :: r,a,b => congrArg (List.cons _) (toksP_unl r a b)
 | ⟨.inr (.inr (.inr t))⟩ :: r,a,b => congrArg (List.cons _) (toksP_unl r a b)
theorem thA_unl (b : Bool) : ∀ (A : List (AS × List Pc)) (l m : Nat),(toksP l (textPc (thA b A))).map unl = (toksP m (textPc A)).map unl
 | [],l,m => rfl
 | (a,c) :: r,l,m => by
  show (toksP l (a.pcs ++ (.sg [59] :: ((if b then .nl :: c else c) ++ textPc (thA b r))))).map unl = (toksP m (a.pcs ++ (.sg [59] :: (c ++ textPc r)))).map unl
  rw [toksP_app,toksP_app,List.map_append,List.map_append,toksP_unl a.pcs l m]
  congr 1
  show unl (mkTok [59] 115 _) :: (toksP _ ((if b then .nl :: c else c) ++ textPc (thA b r))).map unl = unl (mkTok [59] 115 _) :: (toksP _ (c ++ textPc r)).map unl
  congr 1
  have key : ∀ k,(toksP k (if b then Pc.nl :: c else c)).map unl = (toksP (m + nlsP a.pcs) c).map unl := fun k => by
   cases b with
   | true => exact toksP_unl c (k + 1) _
   | false => exact toksP_unl c k _
  rw [toksP_app,toksP_app,List.map_append,List.map_append,key,thA_unl b r _ (m + nlsP a.pcs + nlsP c)]
theorem plainT_of {A : List (AS × List Pc)} (h : ∀ p ∈ A,p.1.pl ∧ p.2 = [.nl]) {l : List PTok} {e : PTok} (he : srt e = 1) (hl : l.map unl = (toksP 1 (textPc A)).map unl) : plainT (l ++ [e]) = srcA A := by
 obtain ⟨h1,h2⟩ := plL_text h (e := unl e) he 1
 have e1 : (l ++ [e]).map unl = (toksP 1 (textPc A) ++ [unl e]).map unl := by rw [List.map_append,List.map_append,hl];rfl
 have n1 : noNeed (l ++ [e]) := by
  rw [← noNeed_unl,e1,noNeed_unl];exact h2
 rw [plainT_L n1 he,← plL_unl,e1,plL_unl,h1]
 rfl
theorem plain_src {A : List (AS × List Pc)} (ok : textOk A) (h : ∀ p ∈ A,p.1.pl ∧ p.2 = [.nl]) : plainT (progToks (bn (srcA A))) = srcA A := by
 unfold progToks
 rw [src_lex ok]
 exact plainT_of h rfl rfl
def thkT (a b : Bool) (s : List UInt8) : List UInt8 := 37 :: 32 :: 97 :: 32 :: 109 :: 111 :: 100 :: 101 :: 108 :: 10 :: thk a b s
theorem thk_lex (a b : Bool) {A : List (AS × List Pc)} (ok : textOk A) : lex (bn (thkT a b (srcA A))) = (0,toksP 2 (textPc (thA b A)),2 + nlsT b (textPc A)) := by
 rw [lex_L]
 show lexT (thkT a b (srcA A)) 1 [] = _
 unfold thkT
 rw [lexT_head]
 have q := lexT_thk a b (textPc A) 2 [] (textPc_ok ok)
 rw [toksT_text b A 2 (fun p hp => (ok p hp).2)] at q
 exact q
theorem plain_thk (a b : Bool) {A : List (AS × List Pc)} (ok : textOk A) (h : ∀ p ∈ A,p.1.pl ∧ p.2 = [.nl]) : plainT (progToks (bn (thkT a b (srcA A)))) = srcA A := by
 unfold progToks
 rw [thk_lex a b ok]
 exact plainT_of h rfl (thA_unl b A 2 1)
end
end Go.Proofs.YthpcbbnabnlanaaGreatDoor
