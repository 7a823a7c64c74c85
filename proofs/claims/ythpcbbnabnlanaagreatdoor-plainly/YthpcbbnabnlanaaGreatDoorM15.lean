import Derived.Test.YthpcbbnabnlanaaGreatDoorM01
import Derived.Lib.ItoaNum
namespace Go.Proofs.YthpcbbnabnlanaaGreatDoor
set_option linter.unusedVariables false
set_option linter.unusedSimpArgs false
section
structure Pc where
 s : Bool ⊕ (List UInt8 ⊕ (Int ⊕ List UInt8))
abbrev Pc.sp : Pc := ⟨.inl true⟩
abbrev Pc.nl : Pc := ⟨.inl false⟩
abbrev Pc.word (t : List UInt8) : Pc := ⟨.inr (.inl t)⟩
abbrev Pc.num (n : Int) : Pc := ⟨.inr (.inr (.inl n))⟩
abbrev Pc.sg (t : List UInt8) : Pc := ⟨.inr (.inr (.inr t))⟩
def Pc.bytes : Pc → List UInt8
 | ⟨.inl true⟩ => [32]
 | ⟨.inl false⟩ => [10]
 | ⟨.inr (.inl t)⟩ => t
 | ⟨.inr (.inr (.inl n))⟩ => Lib.itoa n
 | ⟨.inr (.inr (.inr t))⟩ => t
def bytesP (P : List Pc) : List UInt8 := P.flatMap Pc.bytes
def toksP : Nat → List Pc → List PTok
 | _,[] => []
 | line,⟨.inl true⟩ :: r => toksP line r
 | line,⟨.inl false⟩ :: r => toksP (line + 1) r
 | line,⟨.inr (.inl t)⟩ :: r => mkTok t (if kwL t then 107 else 110) line :: toksP line r
 | line,⟨.inr (.inr (.inl n))⟩ :: r => mkTok (Lib.itoa n) 105 line :: toksP line r
 | line,⟨.inr (.inr (.inr t))⟩ :: r => mkTok t 115 line :: toksP line r
def nlsP : List Pc → Nat
 | [] => 0
 | ⟨.inl false⟩ :: r => nlsP r + 1
 | _ :: r => nlsP r
def wordOk (t : List UInt8) : Bool := isLetI (hdB t) && t.all (fun c => isAlnI (c.toNat : Int)) && decide (t.length ≤ 8)
def sgOk (t : List UInt8) : Bool := t == [33,61] || t == [60,61] || t == [46,46] || t == [59] || t == [58] || t == [44] || t == [61] || t == [91] || t == [93] || t == [43] || t == [42] || t == [33] || t == [45]
def apart : List Pc → Bool
 | ⟨.inr (.inl _)⟩ :: _ => false
 | ⟨.inr (.inr (.inl _))⟩ :: _ => false
 | ⟨.inr (.inr (.inr t))⟩ :: _ => sgOk t
 | _ => true
def sgNext (t : List UInt8) (r : List Pc) : Bool :=
 if t == [45] then (match r with | ⟨.inl true⟩ :: _ => true | _ => false)
 else if t == [33] then (match r with | ⟨.inr (.inl t)⟩ :: _ => wordOk t | ⟨.inl true⟩ :: _ => true | _ => false) else true
def okP : List Pc → Prop
 | [] => True
 | ⟨.inr (.inl t)⟩ :: r => wordOk t = true ∧ apart r = true ∧ okP r
 | ⟨.inr (.inr (.inl n))⟩ :: r => (-100000000 ≤ n ∧ n ≤ 100000000) ∧ apart r = true ∧ okP r
 | ⟨.inr (.inr (.inr t))⟩ :: r => sgOk t = true ∧ sgNext t r = true ∧ okP r
 | _ :: r => okP r
theorem bytesP_cons (p : Pc) (r : List Pc) : bytesP (p :: r) = p.bytes ++ bytesP r := by simp [bytesP]
theorem bytesP_app (P R : List Pc) : bytesP (P ++ R) = bytesP P ++ bytesP R := by simp [bytesP]
theorem toksP_app (R : List Pc) : ∀ (P : List Pc) (line : Nat),toksP line (P ++ R) = toksP line P ++ toksP (line + nlsP P) R
 | [],line => rfl
 | ⟨.inl true⟩ :: r,line => toksP_app R r line
 | ⟨.inl false⟩ :: r,line => by
  show toksP (line + 1) (r ++ R) = toksP (line + 1) r ++ toksP (line + (nlsP r + 1)) R
  rw [toksP_app R r (line + 1),Nat.add_assoc,Nat.add_comm 1]
 | ⟨.inr (.inl t)⟩ :: r,line => by
  show _ :: toksP line (r ++ R) = _ :: toksP line r ++ toksP (line + nlsP r) R
  rw [toksP_app R r line];rfl
 | ⟨.inr (.inr (.inl t))⟩ :: r,line => by
  show _ :: toksP line (r ++ R) = _ :: toksP line r ++ toksP (line + nlsP r) R
  rw [toksP_app R r line];rfl
 | ⟨.inr (.inr (.inr t))⟩ :: r,line => by
  show _ :: toksP line (r ++ R) = _ :: toksP line r ++ toksP (line + nlsP r) R
  rw [toksP_app R r line];rfl
theorem sg_cases {t : List UInt8} (h : sgOk t = true) : t = [33,61] ∨ t = [60,61] ∨ t = [46,46] ∨ t = [59] ∨ t = [58] ∨ t = [44] ∨ t = [61] ∨ t = [91] ∨ t = [93] ∨ t = [43] ∨ t = [42] ∨ t = [33] ∨ t = [45] := by
 simp only [sgOk,Bool.or_eq_true,beq_iff_eq] at h
 rcases h with (((((((((((h | h) | h) | h) | h) | h) | h) | h) | h) | h) | h) | h) | h <;> simp [h]
theorem apart_hd {r : List Pc} (h : apart r = true) : isAlnI (hdB (bytesP r)) = false ∧ isDigI (hdB (bytesP r)) = false := by
 match r,h with
 | [],_ => exact ⟨rfl,rfl⟩
 | ⟨.inl true⟩ :: r,_ => rw [bytesP_cons];exact ⟨rfl,rfl⟩
 | ⟨.inl false⟩ :: r,_ => rw [bytesP_cons];exact ⟨rfl,rfl⟩
 | ⟨.inr (.inr (.inr t))⟩ :: r,h =>
  rw [bytesP_cons]
  rcases sg_cases h with e | e | e | e | e | e | e | e | e | e | e | e | e <;> (subst e;exact ⟨rfl,rfl⟩)
theorem runL_app {p : Int → Bool} {t l : List UInt8} (ht : ∀ c ∈ t,p (c.toNat : Int) = true) (hl : p (hdB l) = false) : runL p (t ++ l) = t.length := by
 have h0 : (l.takeWhile fun c => p (c.toNat : Int)) = [] := by
  cases l with
  | nil => rfl
  | cons c l =>
   have : p (c.toNat : Int) = false := hl
   simp [this]
 unfold runL
 rw [List.takeWhile_append_of_pos ht,h0,List.append_nil]
theorem tok_word {t l : List UInt8} (h : wordOk t = true) (hl : isAlnI (hdB l) = false) : tokL (t ++ l) = (t.length,if kwL t then 107 else 110) := by
 simp only [wordOk,Bool.and_eq_true,List.all_eq_true,decide_eq_true_eq] at h
 obtain ⟨⟨h1,h2⟩,h3⟩ := h
 obtain ⟨c,u,rfl⟩ : ∃ c u,t = c :: u := by
  cases t with
  | nil => cases h1
  | cons c u => exact ⟨c,u,rfl⟩
 have hh : hdB (c :: u ++ l) = (c.toNat : Int) := rfl
 have h1 : isLetI (c.toNat : Int) = true := h1
 have hr : runL isAlnI (c :: u ++ l).tail = u.length := runL_app (fun x hx => h2 x (by simp [hx])) hl
 have hn : numL (c :: u ++ l) = false := by
  unfold numL
  rw [hh]
  simp only [isLetI,Bool.and_eq_true,decide_eq_true_eq] at h1
  have d : isDigI (c.toNat : Int) = false := by unfold isDigI;simp;omega
  have e : ((c.toNat : Int) == 45) = false := by simp;omega
  rw [d,e];rfl
 have hlen : ¬ 8 < 1 + u.length := by simp at h3;omega
 have htk : (c :: u ++ l).take (1 + u.length) = c :: u := by rw [Nat.add_comm];exact List.take_left (l₁ := c :: u)
 unfold tokL
 rw [hn,hh,h1,hr,if_neg (by simp),if_pos rfl,if_neg hlen,htk]
 simp [Nat.add_comm]
theorem dec_dig (u : Nat) : ∀ c ∈ Lib.decDigits u,isDigI (c.toNat : Int) = true := by
 induction u using Nat.strongRecOn with
 | _ u ih =>
  have one : ∀ v : Nat,v < 10 → isDigI ((UInt8.ofNat (48 + v)).toNat : Int) = true := fun v hv => by
   have : (UInt8.ofNat (48 + v)).toNat = 48 + v := by rw [UInt8.toNat_ofNat'];omega
   rw [this];unfold isDigI;simp;omega
  intro c hc
  rw [Lib.decDigits] at hc
  split at hc
  ·rename_i h
   rw [List.mem_singleton.1 hc];exact one u h
  ·rcases List.mem_append.1 hc with q | q
   ·exact ih (u / 10) (by omega) c q
   ·rw [List.mem_singleton.1 q];exact one _ (Nat.mod_lt _ (by decide))
theorem dec_ne (u : Nat) : Lib.decDigits u ≠ [] := by
 rw [Lib.decDigits];split
 ·simp
 ·simp
theorem dec_len : ∀ (k u : Nat),u < 10 ^ (k + 1) → (Lib.decDigits u).length ≤ k + 1
 | 0,u,h => by rw [Lib.decDigits,dif_pos (by simpa using h)];simp
 | k + 1,u,h => by
  rw [Lib.decDigits];split
  ·simp
  ·rw [List.length_append]
   have := dec_len k (u / 10) (by rw [Nat.pow_succ] at h;omega)
   simp;omega
theorem tok_num {n : Int} {l : List UInt8} (h1 : -100000000 ≤ n) (h2 : n ≤ 100000000) (hl : isDigI (hdB l) = false) : tokL (Lib.itoa n ++ l) = ((Lib.itoa n).length,105) := by
 have key : ∀ (c : UInt8) (u : List UInt8),(isDigI (c.toNat : Int) = true ∨ (c = 45 ∧ u ≠ [])) → (∀ x ∈ u,isDigI (x.toNat : Int) = true) → u.length ≤ 9 → tokL (c :: u ++ l) = ((c :: u).length,105) := fun c u hc hu hlen => by
  have hr : runL isDigI (c :: u ++ l).tail = u.length := runL_app hu hl
  have hn : numL (c :: u ++ l) = true := by
   unfold numL
   rcases hc with e | ⟨rfl,e⟩
   ·have : isDigI (hdB (c :: u ++ l)) = true := e
    rw [this];rfl
   ·obtain ⟨d,u,rfl⟩ : ∃ d v,u = d :: v := by cases u with | nil => exact absurd rfl e | cons d v => exact ⟨d,v,rfl⟩
    have : isDigI (hdB ((45 :: (d :: u) ++ l : List UInt8)).tail) = true := hu d (by simp)
    rw [this];rfl
  unfold tokL
  rw [hn,hr,if_pos rfl,if_neg (by omega)]
  simp [Nat.add_comm]
 unfold Lib.itoa
 split
 ·exact key 45 _ (.inr ⟨rfl,dec_ne _⟩) (dec_dig _) (dec_len 8 _ (by omega))
 ·have hd := dec_dig n.toNat
  have hlen := dec_len 8 n.toNat (by omega)
  have hne := dec_ne n.toNat
  cases e : Lib.decDigits n.toNat with
  | nil => exact absurd e hne
  | cons c u =>
   rw [e] at hd hlen
   exact key c u (.inl (hd c (by simp))) (fun x hx => hd x (by simp [hx])) (by simp at hlen;omega)
theorem tok_sg {t : List UInt8} {r : List Pc} (h : sgOk t = true) (hn : sgNext t r = true) : tokL (t ++ bytesP r) = (t.length,115) := by
 rcases sg_cases h with e | e | e | e | e | e | e | e | e | e | e | e | e
 all_goals subst e
 all_goals first | rfl | skip
 ·match r,hn with
  | ⟨.inl true⟩ :: r,_ => rw [bytesP_cons];rfl
  | ⟨.inr (.inl t)⟩ :: r,hn =>
   have hw : wordOk t = true := hn
   simp only [wordOk,Bool.and_eq_true] at hw
   rw [bytesP_cons]
   cases t with
   | nil => exact absurd hw.1.1 (by decide)
   | cons c u =>
    have h1 : isLetI (c.toNat : Int) = true := hw.1.1
    simp only [isLetI,Bool.and_eq_true,decide_eq_true_eq] at h1
    have e : ((c.toNat : Int) == 61) = false := by simp;omega
    have e2 : twoI 33 (c.toNat : Int) = false := by unfold twoI;rw [e];rfl
    have e3 : sgL (33 :: c :: (u ++ bytesP r)) = 1 := by
     have : twoI (hdB (33 :: c :: (u ++ bytesP r))) (hdB (33 :: c :: (u ++ bytesP r)).tail) = false := e2
     unfold sgL
     rw [this]
     rfl
    have e4 : numL (33 :: c :: (u ++ bytesP r)) = false := rfl
    have e5 : isLetI (hdB (33 :: c :: (u ++ bytesP r))) = false := rfl
    show tokL (33 :: c :: (u ++ bytesP r)) = _
    unfold tokL
    rw [e4,e5,e3]
    rfl
 ·match r,hn with
  | ⟨.inl true⟩ :: r,_ => rw [bytesP_cons];rfl
theorem lexT_P : ∀ (P : List Pc) (line : Nat) (acc : List PTok),okP P → lexT (bytesP P) line acc = (0,acc ++ toksP line P,line + nlsP P)
 | [],line,acc,_ => by simp [bytesP,toksP,nlsP,lexT_nil]
 | ⟨.inl true⟩ :: r,line,acc,h => by
  rw [bytesP_cons]
  exact (lexT_sp _ line acc).trans (lexT_P r line acc h)
 | ⟨.inl false⟩ :: r,line,acc,h => by
  rw [bytesP_cons]
  refine (lexT_nl _ line acc).trans ((lexT_P r (line + 1) acc h).trans ?_)
  simp only [toksP,nlsP]
  rw [Nat.add_assoc,Nat.add_comm 1]
 | ⟨.inr (.inl t)⟩ :: r,line,acc,h => by
  obtain ⟨h1,h2,h3⟩ := h
  have hw := h1
  simp only [wordOk,Bool.and_eq_true] at hw
  have hh : hdB t ≠ 10 ∧ hdB t ≠ 32 ∧ hdB t ≠ 9 ∧ hdB t ≠ 37 := by
   have q := hw.1.1
   simp only [isLetI,Bool.and_eq_true,decide_eq_true_eq] at q
   refine ⟨?_,?_,?_,?_⟩ <;> omega
  rw [bytesP_cons]
  refine (lexT_tok line acc ?_ hh (tok_word h1 (apart_hd h2).1)).trans ((lexT_P r line _ h3).trans ?_)
  ·rintro rfl;exact absurd hw.1.1 (by decide)
  ·simp [toksP,nlsP,List.append_assoc]
 | ⟨.inr (.inr (.inl n))⟩ :: r,line,acc,h => by
  obtain ⟨⟨h1,h1'⟩,h2,h3⟩ := h
  rw [bytesP_cons]
  have hx : Lib.itoa n ≠ [] ∧ (isDigI (hdB (Lib.itoa n)) = true ∨ hdB (Lib.itoa n) = 45) := by
   unfold Lib.itoa
   split
   ·exact ⟨by simp,.inr rfl⟩
   ·refine ⟨dec_ne _,.inl ?_⟩
    have hd := dec_dig n.toNat
    cases e : Lib.decDigits n.toNat with
    | nil => exact absurd e (dec_ne _)
    | cons c u => rw [e] at hd;exact hd c (by simp)
  have hh : hdB (Lib.itoa n) ≠ 10 ∧ hdB (Lib.itoa n) ≠ 32 ∧ hdB (Lib.itoa n) ≠ 9 ∧ hdB (Lib.itoa n) ≠ 37 := by
   rcases hx.2 with q | q
   ·simp only [isDigI,Bool.and_eq_true,decide_eq_true_eq] at q
    refine ⟨?_,?_,?_,?_⟩ <;> omega
   ·rw [q];decide
  refine (lexT_tok line acc hx.1 hh (tok_num h1 h1' (apart_hd h2).2)).trans ((lexT_P r line _ h3).trans ?_)
  simp [toksP,nlsP,List.append_assoc]
 | ⟨.inr (.inr (.inr t))⟩ :: r,line,acc,h => by
  obtain ⟨h1,h2,h3⟩ := h
  rw [bytesP_cons]
  have hx : t ≠ [] ∧ hdB t ≠ 10 ∧ hdB t ≠ 32 ∧ hdB t ≠ 9 ∧ hdB t ≠ 37 := by
   rcases sg_cases h1 with e | e | e | e | e | e | e | e | e | e | e | e | e <;> (subst e;decide)
  refine (lexT_tok line acc hx.1 hx.2 (tok_sg h1 h2)).trans ((lexT_P r line _ h3).trans ?_)
  simp [toksP,nlsP,List.append_assoc]
theorem lex_P {s : ByteArray} {P : List Pc} (h : okP P) (hs : s.data.toList = bytesP P) : lex s = (0,toksP 1 P,1 + nlsP P) := by
 rw [lex_L,hs]
 have := lexT_P P 1 [] h
 simpa [lexT] using this
end
end Go.Proofs.YthpcbbnabnlanaaGreatDoor
