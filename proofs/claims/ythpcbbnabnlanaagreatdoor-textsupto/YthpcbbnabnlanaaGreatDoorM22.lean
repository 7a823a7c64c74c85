import Derived.Test.YthpcbbnabnlanaaGreatDoorM21
import Derived.Deep.RegionHeld3
namespace Go.Proofs.YthpcbbnabnlanaaGreatDoor
set_option linter.unusedVariables false
set_option linter.unusedSimpArgs false
section
variable {T : List PTok} {L : Nat}
theorem kw_bytes {t : PTok} (h : SrtOk t) (k : Int) (h4 : 4 ≤ k) (h23 : k ≤ 23) (hk : srt t = k) : t.s = bs (sortBytes k) := bs_of _ _ ((h.byt k h4 h23).2 hk)
theorem took_stmt (hC : Cut2 T L) {S : PSt} (hi : S.1 ≤ T.length) (h : (pStmt (pt T L) S).2.2 = 0) : S.2 = 0 ∧ StAt T S.1 (gS (pStmt (pt T L) S).1) (pStmt (pt T L) S).2.1 ∧ S.1 < (pStmt (pt T L) S).2.1 ∧ (pStmt (pt T L) S).2.1 ≤ T.length ∧ GOk (pStmt (pt T L) S).1 := by
 have hz := (adv_stmt (pt T L) S).2 h
 obtain ⟨b0,b1,b2,b3,b4,b5⟩ := took hC hi (sorts := kwSorts) rfl hz
 have A := fun sorts S => adv_take (pt T L) sorts S
 have nt : ∀ t ∈ ([] : List GTerm),srt t.first ≠ 3 → t.first = t.name := fun a ha => by simp at ha
 have nl : ∀ t ∈ ([] : List GLit),srt t.first ≠ 22 → t.first = t.name := fun a ha => by simp at ha
 obtain ⟨k,hk⟩ : ∃ k,srt (tkN (pt T L) S.1) = k := ⟨_,rfl⟩
 have hcs : k = 4 ∨ k = 5 ∨ k = 6 ∨ k = 7 ∨ k = 8 ∨ k = 9 ∨ k = 10 := by rw [hk] at b2;simpa [kwSorts] using b2
 have hkb := fun h4 h23 => kw_bytes b5 k h4 h23 hk
 unfold pStmt at h ⊢
 simp only [hk,b3] at h ⊢
 rcases hcs with rfl | rfl | rfl | rfl | rfl | rfl | rfl
 ·simp only [if_true] at h ⊢
  have a5 := (A _ _).2 h
  have a4 := (A _ _).2 a5
  have a3 := (A _ _).2 a4
  have a2 := (A _ _).2 a3
  obtain ⟨-,c1,c2,c3,c4,c5⟩ := took1 hC (S := (S.1 + 1,0)) (by show S.1 + 1 ≤ _;omega) 2 (by decide) a2
  rw [c3] at a3 a4 a5 h ⊢
  obtain ⟨-,d1,d2,d3,d4,d5⟩ := took1 hC (S := (S.1 + 1 + 1,0)) c1 12 (by decide) a3
  rw [d3] at a4 a5 h ⊢
  obtain ⟨-,e1,e2,e3,e4,e5⟩ := took1 hC (S := (S.1 + 1 + 1 + 1,0)) d1 3 (by decide) a4
  rw [e3] at a5 h ⊢
  obtain ⟨-,f1,f2,f3,f4,f5⟩ := took1 hC (S := (S.1 + 1 + 1 + 1 + 1,0)) e1 17 (by decide) a5
  rw [f3] at h ⊢
  obtain ⟨-,g1,g2,g3,g4,g5⟩ := took1 hC (S := (S.1 + 1 + 1 + 1 + 1 + 1,0)) f1 3 (by decide) h
  rw [g3]
  have he := e5.int.2 e2
  have hg := g5.int.2 g2
  refine ⟨b0,⟨b4,?_⟩,by simp only;omega,g1,⟨by simp [hk],by simp [hk],fun _ => ⟨_,_,rfl,he,hg⟩,fun q => by simp [hk] at q,fun q => by simp [hk] at q,fun q => by simp [hk] at q,nt,nl,fun q => by simp [hk] at q⟩⟩
  simp only [gS,hk]
  exact ⟨hkb (by decide) (by decide),c4,e4,isInt_at hC e4 he,g4,isInt_at hC g4 hg,by trivial⟩
 ·simp only [show ¬ (5 : Int) = 4 by decide,if_false,if_true] at h ⊢
  have a5 := (A _ _).2 h
  have a4 := (adv_ser (pt T L) (pTok (pt T L) 3) (fun b => adv_take _ [3] b) _).2 a5
  have a3 := (A _ _).2 a4
  have a2 := (A _ _).2 a3
  obtain ⟨-,c1,c2,c3,c4,c5⟩ := took1 hC (S := (S.1 + 1,0)) (by show S.1 + 1 ≤ _;omega) 2 (by decide) a2
  rw [c3] at a3 a4 a5 h ⊢
  obtain ⟨-,d1,d2,d3,d4,d5⟩ := took1 hC (S := (S.1 + 1 + 1,0)) c1 14 (by decide) a3
  rw [d3] at a4 a5 h ⊢
  obtain ⟨-,e1,e2,e3,e4,e5⟩ := took1 hC (S := (S.1 + 1 + 1 + 1,0)) d1 18 (by decide) a4
  rw [e3] at a5 h ⊢
  obtain ⟨n0,r,m,r1,r2,⟨r3,rm⟩,r4,r5,r6,r7,r8⟩ := took_ser hC (pTok (pt T L) 3) (TokAt1 T) (fun t => SrtOk t ∧ srt t = 3) (fun S => adv_take _ [3] S) (took_tok hC 3 (by decide)) (S := (S.1 + 1 + 1 + 1 + 1,0)) e1 a5
  obtain ⟨-,f1,f2,f3,f4,f5⟩ := took1 hC r6 19 (by decide) h
  rw [f3]
  simp only at r5 rm
  have hI : ∀ t ∈ n0 :: r,t.kind = 105 := fun t ht => (r8 t ht).1.int.2 (r8 t ht).2
  have hmem : ∀ t ∈ n0 :: r,t ∈ T := by
   intro t ht
   have key : ∀ (l : List PTok) (i j : Nat),GSer T (TokAt1 T) i l j → ∀ t ∈ l,t ∈ T := by
    intro l
    induction l with
    | nil => intro i j _ t ht;simp at ht
    | cons a l ih =>
     rintro i j ⟨_,m,⟨q1,_⟩,q2⟩ t ht
     rcases List.mem_cons.1 ht with rfl | ht
     ·exact List.mem_of_getElem? q1
     ·exact ih _ _ q2 t ht
   rcases List.mem_cons.1 ht with rfl | ht
   ·exact List.mem_of_getElem? r3
   ·exact key _ _ _ r4 t ht
  refine ⟨b0,⟨b4,?_⟩,by simp only;omega,f1,⟨by simp [hk],by simp [hk],fun q => by simp [hk] at q,fun _ => by rw [r1];exact hI,fun q => by simp [hk] at q,fun q => by simp [hk] at q,nt,nl,fun q => by simp [hk] at q⟩⟩
  simp only [gS,hk]
  refine ⟨hkb (by decide) (by decide),c4,n0,r,_,?_,r3,by rw [rm] at r4;exact ser_toks r4,fun t ht => hC.ints t (hmem t ht) (hI t ht),f1,peek_no hC r6 r7,by trivial⟩
  simpa using r1
 ·simp only [show ¬ (6 : Int) = 4 by decide,show ¬ (6 : Int) = 5 by decide,show ¬ (6 : Int) = 7 by decide,if_false,if_true] at h ⊢
  obtain ⟨-,num,n1,n2,n3,n4,n5,n6,n7⟩ := took_lin hC (S := (S.1 + 1,0)) (by show S.1 + 1 ≤ _;omega) h
  have hk' : srt (pLin (pt T L) { kw := tkN (pt T L) S.1 } (S.1 + 1,0)).1.kw = 6 := hk
  simp only at n4
  refine ⟨b0,⟨b4,?_⟩,by omega,n5,⟨by rw [hk'];decide,by rw [hk'];decide,fun q => by rw [hk'] at q;simp at q,fun q => by rw [hk'] at q;simp at q,fun _ => ⟨num,n1,n2⟩,fun q => by rw [hk'] at q;simp at q,n6,nl,fun _ => n7⟩⟩
  simp only [gS,hk',n1]
  exact ⟨hkb (by decide) (by decide),n3⟩
 ·simp only [show ¬ (7 : Int) = 4 by decide,show ¬ (7 : Int) = 5 by decide,if_false,if_true] at h ⊢
  have a3 := (adv_lin (pt T L) _ _).2 h
  have a2 := (A _ _).2 a3
  obtain ⟨-,c1,c2,c3,c4,c5⟩ := took1 hC (S := (S.1 + 1,0)) (by show S.1 + 1 ≤ _;omega) 2 (by decide) a2
  rw [c3] at a3 h ⊢
  obtain ⟨-,d1,d2,d3,d4,d5⟩ := took1 hC (S := (S.1 + 1 + 1,0)) c1 12 (by decide) a3
  rw [d3] at h ⊢
  obtain ⟨-,num,n1,n2,n3,n4,n5,n6,n7⟩ := took_lin hC (S := (S.1 + 1 + 1 + 1,0)) d1 h
  have hk' : srt (pLin (pt T L) { kw := tkN (pt T L) S.1,name := tkN (pt T L) (S.1 + 1) } (S.1 + 1 + 1 + 1,0)).1.kw = 7 := hk
  simp only at n4
  refine ⟨b0,⟨b4,?_⟩,by simp only;omega,n5,⟨by rw [hk'];decide,by rw [hk'];decide,fun q => by rw [hk'] at q;simp at q,fun q => by rw [hk'] at q;simp at q,fun _ => ⟨num,n1,n2⟩,fun q => by rw [hk'] at q;simp at q,n6,nl,fun _ => n7⟩⟩
  simp only [gS,hk',n1]
  exact ⟨hkb (by decide) (by decide),c4,n3⟩
 ·simp only [show ¬ (8 : Int) = 4 by decide,show ¬ (8 : Int) = 5 by decide,show ¬ (8 : Int) = 7 by decide,show ¬ (8 : Int) = 6 by decide,if_false,if_true] at h ⊢
  have a6 := (A _ _).2 h
  have a5 := (A _ _).2 a6
  have a4 := (A _ _).2 a5
  have a3 := (A _ _).2 a4
  have a2 := (A _ _).2 a3
  obtain ⟨-,c1,c2,c3,c4,c5⟩ := took1 hC (S := (S.1 + 1,0)) (by show S.1 + 1 ≤ _;omega) 2 (by decide) a2
  rw [c3] at a3 a4 a5 a6 h ⊢
  obtain ⟨-,d1,d2,d3,d4,d5⟩ := took1 hC (S := (S.1 + 1 + 1,0)) c1 18 (by decide) a3
  rw [d3] at a4 a5 a6 h ⊢
  obtain ⟨-,e1,e2,e3,e4,e5⟩ := took1 hC (S := (S.1 + 1 + 1 + 1,0)) d1 2 (by decide) a4
  rw [e3] at a5 a6 h ⊢
  obtain ⟨-,f1,f2,f3,f4,f5⟩ := took1 hC (S := (S.1 + 1 + 1 + 1 + 1,0)) e1 19 (by decide) a5
  rw [f3] at a6 h ⊢
  obtain ⟨-,g1,g2,g3,g4,g5⟩ := took1 hC (S := (S.1 + 1 + 1 + 1 + 1 + 1,0)) f1 14 (by decide) a6
  rw [g3] at h ⊢
  obtain ⟨-,i1,i2,i3,i4,i5⟩ := took1 hC (S := (S.1 + 1 + 1 + 1 + 1 + 1 + 1,0)) g1 2 (by decide) h
  rw [i3]
  refine ⟨b0,⟨b4,?_⟩,by simp only;omega,i1,⟨by simp [hk],by simp [hk],fun q => by simp [hk] at q,fun q => by simp [hk] at q,fun q => by simp [hk] at q,fun _ => ⟨_,_,rfl⟩,nt,nl,fun q => by simp [hk] at q⟩⟩
  simp only [gS,hk]
  exact ⟨hkb (by decide) (by decide),c4,e4,i4,by trivial⟩
 ·simp only [show ¬ (9 : Int) = 4 by decide,show ¬ (9 : Int) = 5 by decide,show ¬ (9 : Int) = 7 by decide,show ¬ (9 : Int) = 6 by decide,show ¬ (9 : Int) = 8 by decide,if_false,if_true] at h ⊢
  obtain ⟨n0,r,m,r1,r2,⟨r3,rm⟩,r4,r5,r6,r7,r8⟩ := took_ser hC (pTok (pt T L) 2) (TokAt1 T) (fun t => SrtOk t ∧ srt t = 2) (fun S => adv_take _ [2] S) (took_tok hC 2 (by decide)) (S := (S.1 + 1,0)) (by show S.1 + 1 ≤ _;omega) h
  simp only at r5 rm
  refine ⟨b0,⟨b4,?_⟩,by omega,r6,⟨by simp [hk],by simp [hk],fun q => by simp [hk] at q,fun q => by simp [hk] at q,fun q => by simp [hk] at q,fun q => by simp [hk] at q,nt,nl,fun q => by simp [hk] at q⟩⟩
  simp only [gS,hk]
  exact ⟨hkb (by decide) (by decide),n0,r,by simpa using r1,r3,by rw [rm] at r4;exact ser_toks r4,r6,peek_no hC r6 r7⟩
 ·simp only [show ¬ (10 : Int) = 4 by decide,show ¬ (10 : Int) = 5 by decide,show ¬ (10 : Int) = 7 by decide,show ¬ (10 : Int) = 6 by decide,show ¬ (10 : Int) = 8 by decide,show ¬ (10 : Int) = 9 by decide,if_false,if_true] at h ⊢
  obtain ⟨l0,r,m,r1,r2,r3,r4,r5,r6,r7,r8⟩ := took_ser hC (pLit (pt T L)) (fun i a j => LitAt T i (gL a) j) (fun l => srt l.first ≠ 22 → l.first = l.name) (adv_lit _) (fun S hi h => took_lit hC hi h) (S := (S.1 + 1,0)) (by show S.1 + 1 ≤ _;omega) h
  simp only at r5
  refine ⟨b0,⟨b4,?_⟩,by omega,r6,⟨by simp [hk],by simp [hk],fun q => by simp [hk] at q,fun q => by simp [hk] at q,fun q => by simp [hk] at q,fun q => by simp [hk] at q,nt,by rw [r1];exact r8,fun q => by simp [hk] at q⟩⟩
  simp only [gS,hk]
  exact ⟨hkb (by decide) (by decide),gL l0,r.map gL,m,by rw [r1];rfl,r3,ser_lits r4,r6,peek_no hC r6 r7⟩
theorem took_parse (hC : Cut2 T L) (f : Nat) : ∀ (acc : List GSt) (S : PSt),S.1 ≤ T.length → T.length - S.1 < f → (parseF (pt T L) f acc S).2.2 = 0 → ∃ r,(parseF (pt T L) f acc S).1 = acc ++ r ∧ StsAt T S.1 (r.map gS) T.length ∧ ∀ g ∈ r,GOk g := by
 induction f with
 | zero => intro acc S _ h;omega
 | succ f ih =>
  intro acc S hi hf h
  by_cases c : S.2 = 0 ∧ srt (tkN (pt T L) S.1) ≠ 1
  ·rw [parseF_more c.1 c.2] at h ⊢
   have hz1 := (adv_parseF (toks := pt T L) f (acc ++ [(pStmt (pt T L) S).1]) _).2 h
   have hz2 := (adv_take (pt T L) [11] (pStmt (pt T L) S).2).2 hz1
   obtain ⟨s0,s1,s2,s3,s4⟩ := took_stmt hC hi hz2
   obtain ⟨b0,b1,b2,b3,b4,b5⟩ := took1 hC s3 11 (by decide) hz1
   rw [b3] at h ⊢
   obtain ⟨r,e1,e2,e3⟩ := ih (acc ++ [(pStmt (pt T L) S).1]) ((pStmt (pt T L) S).2.1 + 1,0) b1 (by show T.length - ((pStmt (pt T L) S).2.1 + 1) < f;omega) h
   refine ⟨(pStmt (pt T L) S).1 :: r,by rw [e1,List.append_assoc];rfl,⟨_,s1,b1,e2⟩,fun g hg => ?_⟩
   rcases List.mem_cons.1 hg with rfl | hg
   ·exact s4
   ·exact e3 g hg
  ·rw [parseF_end c] at h ⊢
   have hs : srt (tkN (pt T L) S.1) = 1 := by
    by_cases q : srt (tkN (pt T L) S.1) = 1
    ·exact q
    ·exact absurd ⟨h,q⟩ c
   have he : S.1 = T.length := by
    rcases Nat.lt_or_ge S.1 T.length with q | q
    ·exfalso
     have ho := lk_srt (hC.kind _ (List.getElem_mem q))
     rw [pt_lt q] at hs
     have := ho.eof.2 hs
     rcases hC.kind _ (List.getElem_mem q) with q | q | q | q <;> omega
    ·omega
   exact ⟨[],by simp,he,fun g hg => by simp at hg⟩
theorem parse_at (hC : Cut2 T L) (h : (pParse (pt T L)).2.2 = 0) : StsAt T 0 ((pParse (pt T L)).1.map gS) T.length ∧ ∀ g ∈ (pParse (pt T L)).1,GOk g := by
 obtain ⟨r,e1,e2,e3⟩ := took_parse hC ((pt T L).length + 1) [] (0,0) (Nat.zero_le _) (by rw [pt_len];omega) h
 have e : (pParse (pt T L)).1 = r := e1
 rw [e];exact ⟨e2,e3⟩
end
section
theorem bytes_eq {a b : ByteArray} : a.toList = b.toList ↔ a = b := ⟨fun h => (bs_of a _ h).trans (bs_of b _ rfl).symm,fun h => by rw [h]⟩
theorem flt_or (a b : Bool) (k l : Int) (st : FSt) (hk : k ≠ 0) : flt (a || b) k l st = flt b k l (flt a k l st) := by
 obtain ⟨x,y⟩ := st
 unfold flt fKind fLine
 cases a <;> cases b <;> by_cases h : x = 0 <;> simp [h,hk]
theorem flt_zero {b : Bool} {k l : Int} {st : FSt} (hk : k ≠ 0) (h : (flt b k l st).1 = 0) : b = false ∧ st.1 = 0 := by
 obtain ⟨x,y⟩ := st
 unfold flt fKind fLine at h
 cases b
 ·simpa using h
 ·by_cases q : x = 0
  ·simp [q] at h;exact absurd h hk
  ·simp [q] at h
theorem flt_mono {b : Bool} {k l : Int} {st : FSt} (h : st.1 ≠ 0) : (flt b k l st).1 ≠ 0 := by
 obtain ⟨x,y⟩ := st
 simp only at h
 unfold flt fKind;simp [h]
theorem fold_mono {α : Type} {step : Nat → α → FSt → FSt} (hs : ∀ k a st,st.1 ≠ 0 → (step k a st).1 ≠ 0) : ∀ (l : List α) (k : Nat) (st : FSt),st.1 ≠ 0 → (foldSt step k l st).1 ≠ 0 := by
 intro l
 induction l with
 | nil => intro k st h;exact h
 | cons a l ih => intro k st h;exact ih _ _ (hs k a st h)
theorem findName_snoc (s a : ByteArray) (l : List ByteArray) : ∀ k : Nat,findName s (l ++ [a]) k = if 0 ≤ findName s l k then findName s l k else if a = s then ((k + l.length : Nat) : Int) else -1 := by
 induction l with
 | nil =>
  intro k
  simp only [List.nil_append,findName]
  by_cases h : a = s
  ·subst h;simp
  ·have : ¬ a.toList = s.toList := fun q => h (bytes_eq.1 q)
   simp [h,this]
 | cons b l ih =>
  intro k
  simp only [List.cons_append,findName]
  split
  ·simp
  ·rw [ih (k + 1)]
   simp only [List.length_cons]
   split
   ·rfl
   ·split
    ·congr 1;omega
    ·rfl
def qP (v : QVar) : PVar := ⟨v.name,v.low,v.high⟩
structure Inv (M : SMod) (q : QSt) : Prop where
 vars : q.vars.map qP = M.vars
 m : q.m = M.rules.length
 so : ∀ s,(q.g s).so = if 0 ≤ varX M.vars s then 4 else if 0 ≤ slstX M.lists s then 5 else 0
 pl : ∀ s,0 ≤ varX M.vars s → (q.g s).pl = varX M.vars s ∧ ∃ v,M.vars[(varX M.vars s).toNat]? = some v ∧ (q.g s).lo = v.low ∧ (q.g s).hi = v.high
 apart : ∀ s,0 ≤ varX M.vars s → slstX M.lists s < 0
variable {M : SMod} {q : QSt}
theorem Inv.so4 (h : Inv M q) (s : ByteArray) : ((q.g s).so != 4) = decide (varX M.vars s < 0) := by
 rw [h.so s]
 by_cases c : 0 ≤ varX M.vars s
 ·rw [if_pos c];simp;exact c
 ·rw [if_neg c,decide_eq_true (by omega)];split <;> decide
theorem Inv.so0 (h : Inv M q) (s : ByteArray) : ((q.g s).so != 0) = (decide (0 ≤ varX M.vars s) || decide (0 ≤ slstX M.lists s)) := by
 rw [h.so s]
 by_cases c : 0 ≤ varX M.vars s
 ·rw [if_pos c,decide_eq_true c];rfl
 ·rw [if_neg c,decide_eq_false c]
  by_cases c' : 0 ≤ slstX M.lists s
  ·rw [if_pos c',decide_eq_true c'];rfl
  ·rw [if_neg c',decide_eq_false c'];rfl
theorem Inv.so5 (h : Inv M q) (s : ByteArray) : ((q.g s).so != 5) = decide (slstX M.lists s < 0) := by
 rw [h.so s]
 by_cases c : 0 ≤ varX M.vars s
 ·rw [if_pos c,decide_eq_true (h.apart s c)];rfl
 ·rw [if_neg c]
  by_cases c' : 0 ≤ slstX M.lists s
  ·rw [if_pos c',decide_eq_false (by omega)];rfl
  ·rw [if_neg c',decide_eq_true (by omega)];rfl
theorem Inv.truth (h : Inv M q) (t : PTok) (st : FSt) : trSt M.vars t st = truthSt q.g t st := by
 unfold trSt truthKind truthLine truthSt
 rw [h.so4 t.s]
 have hs := h.so t.s
 by_cases c : 0 ≤ varX M.vars t.s
 ·rw [if_neg (by omega),if_neg (by omega),decide_eq_false (by omega),flt_false]
  rw [if_pos c] at hs
  obtain ⟨-,v,hv,h1,h2⟩ := h.pl t.s c
  have e : noTruthT (thFind q.g t.s 4) = noTruth M.vars (varX M.vars t.s) := by
   unfold thFind noTruthT noTruth
   rw [if_pos hs,hv,h1,h2]
  rw [e];rfl
 ·rw [if_pos (by omega),if_pos (by omega),decide_eq_true (by omega)]
  have e : noTruthT (thFind q.g t.s 4) = false := by
   unfold thFind
   rw [if_neg]
   ·rfl
   ·rw [hs,if_neg c];split <;> decide
  rw [e,flt_false];rfl
theorem tval_int {t : PTok} (h : t.kind = 105) : tval t = intVal t.s := by unfold tval;rw [if_pos h]
theorem kwSort_bd (s : ByteArray) : kwSort s = 2 ∨ 4 ≤ kwSort s := by
 unfold kwSort
 repeat' split
 all_goals decide
theorem srt_int {t : PTok} (h : srt t = 3) : t.kind = 105 := by
 unfold srt at h
 by_cases c : t.kind = 105
 ·exact c
 ·rw [if_neg c] at h
  by_cases c2 : t.kind = 115
  ·rw [if_pos c2] at h
   by_cases z : sgSort t.s = 0
   ·omega
   ·have := sgSort_of t.s z;omega
  ·rw [if_neg c2] at h
   split at h
   ·omega
   ·have := kwSort_bd t.s;omega
theorem lt_shift (n k : Nat) : decide ((n : Int) < ((k + 1 : Nat) : Int)) = decide ((n : Int) ≤ (k : Int)) := decide_eq_decide.2 (by omega)
theorem terms_alike (h : Inv M q) : ∀ (ts : List GTerm) (k : Nat) (st : FSt),(∀ t ∈ ts,srt t.first ≠ 3 → t.first = t.name) → termsSt M.vars (k + 1) (ts.map gP) st = foldSt (termStP q.g) k ts st := by
 intro ts
 induction ts with
 | nil => intro k st _;rfl
 | cons t ts ih =>
  intro k st ht
  simp only [List.map_cons,termsSt,foldSt]
  rw [ih (k + 1) _ (fun a ha => ht a (by simp [ha]))]
  congr 1
  unfold termSt termStP facSt gP
  simp only
  rw [h.so4]
  have e8 : decide ((8 : Int) < ((k + 1 : Nat) : Int)) = decide ((8 : Int) ≤ (k : Int)) := lt_shift 8 k
  by_cases c : srt t.first = 3
  ·simp only [c,if_true]
   rw [tval_int (srt_int c),e8]
  ·simp only [c,if_false]
   rw [e8,ht t (by simp) c]
theorem names_alike (h : Inv M q) : ∀ (ts : List PTok) (k : Nat) (st : FSt),namesSt M.vars (k + 1) ts st = foldSt (varStP q.g) k ts st := by
 intro ts
 induction ts with
 | nil => intro k st;rfl
 | cons t ts ih =>
  intro k st
  simp only [namesSt,foldSt]
  rw [ih (k + 1) _]
  congr 1
  unfold nameSt varStP
  rw [h.so4,show decide ((8 : Int) < ((k + 1 : Nat) : Int)) = decide ((8 : Int) ≤ (k : Int)) from lt_shift 8 k]
theorem lits_alike (h : Inv M q) : ∀ (ts : List GLit) (k : Nat) (st : FSt),(∀ t ∈ ts,srt t.first ≠ 22 → t.first = t.name) → litsSt M.vars (k + 1) (ts.map gL) st = foldSt (litStP q.g) k ts st := by
 intro ts
 induction ts with
 | nil => intro k st _;rfl
 | cons t ts ih =>
  intro k st ht
  simp only [List.map_cons,litsSt,foldSt]
  rw [ih (k + 1) _ (fun a ha => ht a (by simp [ha]))]
  congr 1
  unfold litSt
  rw [h.truth]
  have e8 : decide ((8 : Int) < ((k + 1 : Nat) : Int)) = decide ((8 : Int) ≤ (k : Int)) := lt_shift 8 k
  have eh : (gL t).head = t.first := by
   unfold PLit.head gL
   by_cases c : srt t.first = 22
   ·simp [c]
   ·simp [c];exact (ht t (by simp) c).symm
  rw [e8,eh]
  rfl
theorem nums_alike : ∀ (ts : List PTok) (k : Nat) (st : FSt),(∀ t ∈ ts,t.kind = 105) → numsSt (k + 1) ts st = foldSt numStP k ts st := by
 intro ts
 induction ts with
 | nil => intro k st _;rfl
 | cons t ts ih =>
  intro k st ht
  simp only [numsSt,foldSt]
  rw [ih (k + 1) _ (fun a ha => ht a (by simp [ha]))]
  congr 1
  unfold numSt numStP
  rw [tval_int (ht t (by simp)),show decide ((20 : Int) < ((k + 1 : Nat) : Int)) = decide ((20 : Int) ≤ (k : Int)) from lt_shift 20 k]
theorem step_alike (h : Inv M q) {g : GSt} (hg : GOk g) : stSt M (gS g) q.st = (qStep g q).st := by
 obtain ⟨k,hk⟩ : ∃ k,srt g.kw = k := ⟨_,rfl⟩
 have h4 := hg.k4
 have h10 := hg.k10
 have hcs : k = 4 ∨ k = 5 ∨ k = 6 ∨ k = 7 ∨ k = 8 ∨ k = 9 ∨ k = 10 := by omega
 rcases hcs with rfl | rfl | rfl | rfl | rfl | rfl | rfl
 ·obtain ⟨lo,hi,e,k1,k2⟩ := hg.n4 hk
  unfold qStep stSt gS
  simp only [hk,e,if_true,List.getD_cons_zero,List.getD_cons_succ]
  unfold varDecl
  rw [h.so0,tval_int k1,tval_int k2,← h.vars,List.length_map]
  exact flt_or _ _ _ _ _ (by decide)
 ·unfold qStep stSt gS
  simp only [hk,if_true,show ¬ (5 : Int) = 4 by decide,if_false]
  rw [h.so0]
  exact nums_alike _ 0 _ (hg.n5 hk)
 ·obtain ⟨N,e,k1⟩ := hg.n6 (.inl hk)
  unfold qStep stSt gS conSt qLinSt
  simp only [hk,e,show ¬ (6 : Int) = 4 by decide,show ¬ (6 : Int) = 5 by decide,show ¬ (6 : Int) = 7 by decide,show ¬ (6 : Int) = 8 by decide,show ¬ (6 : Int) = 9 by decide,show ¬ (6 : Int) = 10 by decide,if_false,List.getD_cons_zero]
  rw [tval_int k1,← terms_alike h _ 0 _ hg.tm,h.m]
  rfl
 ·obtain ⟨N,e,k1⟩ := hg.n6 (.inr hk)
  unfold qStep stSt gS conSt qLinSt
  simp only [hk,e,show ¬ (7 : Int) = 4 by decide,show ¬ (7 : Int) = 5 by decide,show ¬ (7 : Int) = 8 by decide,if_false,if_true,List.getD_cons_zero]
  rw [tval_int k1,← terms_alike h _ 0 _ hg.tm,h.m,← h.truth]
  rfl
 ·obtain ⟨A,B,e⟩ := hg.n8 hk
  unfold qStep stSt gS conSt
  simp only [hk,e,show ¬ (8 : Int) = 4 by decide,show ¬ (8 : Int) = 5 by decide,show ¬ (8 : Int) = 7 by decide,if_false,if_true,List.getD_cons_zero,List.getD_cons_succ]
  rw [h.so4,h.so4,h.so5,h.m]
  rfl
 ·unfold qStep stSt gS conSt
  simp only [hk,show ¬ (9 : Int) = 4 by decide,show ¬ (9 : Int) = 5 by decide,show ¬ (9 : Int) = 7 by decide,show ¬ (9 : Int) = 8 by decide,if_false,if_true]
  rw [← names_alike h,h.m]
  rfl
 ·unfold qStep stSt gS conSt
  simp only [hk,show ¬ (10 : Int) = 4 by decide,show ¬ (10 : Int) = 5 by decide,show ¬ (10 : Int) = 7 by decide,show ¬ (10 : Int) = 8 by decide,show ¬ (10 : Int) = 9 by decide,if_false,if_true]
  rw [← lits_alike h _ 0 _ hg.lt,h.m]
  rfl
end
section
variable {M : SMod} {q : QSt}
theorem varX_snoc (vars : List PVar) (v : PVar) (s : ByteArray) : varX (vars ++ [v]) s = if 0 ≤ varX vars s then varX vars s else if v.name = s then (vars.length : Int) else -1 := by
 unfold varX namesOf
 rw [List.map_append,List.map_cons,List.map_nil,findName_snoc]
 simp
theorem slstX_snoc (lists : List SLst) (v : SLst) (s : ByteArray) : slstX (lists ++ [v]) s = if 0 ≤ slstX lists s then slstX lists s else if v.name = s then (lists.length : Int) else -1 := by
 unfold slstX
 rw [List.map_append,List.map_cons,List.map_nil,findName_snoc]
 simp
theorem num_mono (k : Nat) (t : PTok) (st : FSt) (h : st.1 ≠ 0) : (numStP k t st).1 ≠ 0 := flt_mono (flt_mono h)
theorem step_inv (h : Inv M q) {g : GSt} (hg : GOk g) (h0 : (qStep g q).st.1 = 0) : Inv (stMod M (gS g)) (qStep g q) := by
 obtain ⟨k,hk⟩ : ∃ k,srt g.kw = k := ⟨_,rfl⟩
 have h4 := hg.k4
 have h10 := hg.k10
 have hcs : k = 4 ∨ k = 5 ∨ k = 6 ∨ k = 7 ∨ k = 8 ∨ k = 9 ∨ k = 10 := by omega
 have con : ∀ r : SRul,∀ st : FSt,∀ c l,Inv { M with rules := M.rules ++ [r] } ⟨q.g,q.vars,q.m + 1,st,c,l⟩ := fun r st c l => ⟨h.vars,by simp [h.m],h.so,h.pl,h.apart⟩
 rcases hcs with rfl | rfl | rfl | rfl | rfl | rfl | rfl
 ·obtain ⟨lo,hi,e,k1,k2⟩ := hg.n4 hk
  unfold qStep at h0 ⊢
  unfold stMod gS
  simp only [hk,e,if_true,List.getD_cons_zero,List.getD_cons_succ] at h0 ⊢
  unfold varDecl at h0
  have f1 := flt_zero (by decide) h0
  have f2 := flt_zero (by decide) f1.2
  have f3 := flt_zero (by decide) f2.2
  have f4 := flt_zero (by decide) f3.2
  have hd := f4.1
  rw [h.so0] at hd
  simp only [Bool.or_eq_false_iff,decide_eq_false_iff_not] at hd
  have hlen : M.vars.length = q.vars.length := by rw [← h.vars,List.length_map]
  refine ⟨?_,h.m,fun s => ?_,fun s hs => ?_,fun s hs => ?_⟩
  ·show (q.vars ++ [_]).map qP = _
   rw [List.map_append,h.vars,tval_int k1,tval_int k2];rfl
  ·show (putTh q.g g.name.s _ s).so = if 0 ≤ varX (M.vars ++ [_]) s then 4 else if 0 ≤ slstX M.lists s then 5 else 0
   rw [varX_snoc]
   unfold putTh
   by_cases c : s = g.name.s
   ·rw [if_pos c,c,if_neg hd.1,if_pos rfl,if_pos (by omega)]
   ·rw [if_neg c,h.so s]
    by_cases c' : 0 ≤ varX M.vars s
    ·simp [c']
    ·have : ¬ g.name.s = s := fun q => c q.symm
     simp [c',this]
  ·change 0 ≤ varX (M.vars ++ [_]) s at hs
   show (putTh q.g g.name.s _ s).pl = varX (M.vars ++ [_]) s ∧ ∃ v,(M.vars ++ [_])[(varX (M.vars ++ [_]) s).toNat]? = some v ∧ (putTh q.g g.name.s _ s).lo = v.low ∧ (putTh q.g g.name.s _ s).hi = v.high
   rw [varX_snoc] at hs ⊢
   unfold putTh
   by_cases c : s = g.name.s
   ·rw [if_pos c]
    rw [c,if_neg hd.1,if_pos rfl] at hs ⊢
    refine ⟨by simp only;omega,⟨g.name.s,intVal lo.s,intVal hi.s⟩,?_,tval_int k1,tval_int k2⟩
    rw [Int.toNat_natCast,List.getElem?_append_right (Nat.le_refl _)];simp
   ·rw [if_neg c]
    have hne : ¬ g.name.s = s := fun q => c q.symm
    by_cases c' : 0 ≤ varX M.vars s
    ·rw [if_pos c'] at hs ⊢
     obtain ⟨p1,v,p2,p3,p4⟩ := h.pl s c'
     refine ⟨p1,v,?_,p3,p4⟩
     have hlt : (varX M.vars s).toNat < M.vars.length := (List.getElem?_eq_some_iff.1 p2).1
     rw [List.getElem?_append_left hlt,p2]
    ·rw [if_neg c',if_neg hne] at hs;omega
  ·change 0 ≤ varX (M.vars ++ [_]) s at hs
   show slstX M.lists s < 0
   rw [varX_snoc] at hs
   by_cases c' : 0 ≤ varX M.vars s
   ·exact h.apart s c'
   ·rw [if_neg c'] at hs
    by_cases c : g.name.s = s
    ·rw [← c];omega
    ·rw [if_neg c] at hs;omega
 ·unfold qStep at h0 ⊢
  unfold stMod gS
  simp only [hk,if_true,show ¬ (5 : Int) = 4 by decide,if_false] at h0 ⊢
  have f1 : (flt ((q.g g.name.s).so != 0) 4 (↑g.name.line) q.st).1 = 0 := by
   by_cases c : (flt ((q.g g.name.s).so != 0) 4 (↑g.name.line) q.st).1 = 0
   ·exact c
   ·exact absurd h0 (fold_mono num_mono _ 0 _ c)
  have hd := (flt_zero (by decide) f1).1
  rw [h.so0] at hd
  simp only [Bool.or_eq_false_iff,decide_eq_false_iff_not] at hd
  refine ⟨h.vars,h.m,fun s => ?_,fun s hs => ?_,fun s hs => ?_⟩
  ·show (putTh q.g g.name.s _ s).so = if 0 ≤ varX M.vars s then 4 else if 0 ≤ slstX (M.lists ++ [_]) s then 5 else 0
   rw [slstX_snoc]
   unfold putTh
   by_cases c : s = g.name.s
   ·rw [if_pos c,c,if_neg hd.1,if_neg hd.2,if_pos rfl,if_pos (by omega)]
   ·rw [if_neg c,h.so s]
    by_cases c' : 0 ≤ slstX M.lists s
    ·simp [c']
    ·have : ¬ g.name.s = s := fun q => c q.symm
     simp [c',this]
  ·change 0 ≤ varX M.vars s at hs
   have c : ¬ s = g.name.s := fun e => hd.1 (by rw [← e];exact hs)
   show (putTh q.g g.name.s _ s).pl = varX M.vars s ∧ ∃ v,M.vars[(varX M.vars s).toNat]? = some v ∧ (putTh q.g g.name.s _ s).lo = v.low ∧ (putTh q.g g.name.s _ s).hi = v.high
   unfold putTh
   rw [if_neg c]
   exact h.pl s hs
  ·change 0 ≤ varX M.vars s at hs
   show slstX (M.lists ++ [_]) s < 0
   have c : ¬ g.name.s = s := fun e => hd.1 (by rw [e];exact hs)
   have := h.apart s hs
   rw [slstX_snoc,if_neg (by omega),if_neg c];omega
 ·unfold qStep stMod gS;simp only [hk,show ¬ (6 : Int) = 4 by decide,show ¬ (6 : Int) = 5 by decide,if_false];exact con _ _ _ _
 ·unfold qStep stMod gS;simp only [hk,show ¬ (7 : Int) = 4 by decide,show ¬ (7 : Int) = 5 by decide,if_false];exact con _ _ _ _
 ·unfold qStep stMod gS;simp only [hk,show ¬ (8 : Int) = 4 by decide,show ¬ (8 : Int) = 5 by decide,if_false];exact con _ _ _ _
 ·unfold qStep stMod gS;simp only [hk,show ¬ (9 : Int) = 4 by decide,show ¬ (9 : Int) = 5 by decide,if_false];exact con _ _ _ _
 ·unfold qStep stMod gS;simp only [hk,show ¬ (10 : Int) = 4 by decide,show ¬ (10 : Int) = 5 by decide,if_false];exact con _ _ _ _
theorem runS_stop (ss : List RSt) (M : SMod) (st : FSt) (h : st.1 ≠ 0) : runS ss M st = (M,st) := by
 cases ss with
 | nil => rfl
 | cons s ss => simp only [runS];rw [if_neg h]
theorem run_alike (gs : List GSt) : ∀ {M : SMod} {q : QSt},Inv M q → q.st.1 = 0 → (∀ g ∈ gs,GOk g) → (runS (gs.map gS) M q.st).2 = (runQ gs q).st ∧ ((runQ gs q).st.1 = 0 → Inv (runS (gs.map gS) M q.st).1 (runQ gs q)) := by
 induction gs with
 | nil => intro M q h _ _;exact ⟨rfl,fun _ => h⟩
 | cons g gs ih =>
  intro M q h h0 hg
  have ha := step_alike h (hg g (by simp))
  simp only [List.map_cons,runS,runQ]
  rw [if_pos h0,ha]
  by_cases c : (qStep g q).st.1 = 0
  ·rw [if_pos c]
   exact ih (step_inv h (hg g (by simp)) c) c (fun a ha => hg a (by simp [ha]))
  ·rw [if_neg c,runS_stop _ _ _ c]
   exact ⟨rfl,fun q => absurd q c⟩
theorem inv0 : Inv ⟨[],[],[]⟩ q0 := ⟨rfl,rfl,fun s => rfl,fun s h => by simp [varX,namesOf,findName] at h,fun s h => by simp [varX,namesOf,findName] at h⟩
theorem cut_of (s : ByteArray) : Cut2 (lex s).2.1 (lex s).2.2 := ⟨⟨lex_kind s,lex_line s,lexF_line1 s s.size 0 1 []⟩,lex_int s⟩
theorem line_of (s : ByteArray) (hl : (lex s).1 = 0) (R : Int) : formLine s R = flN (lex s).2.2 R := by
 have h := lexF_last s s.size 0 1 [] (by omega) (by omega) (by simp [nlTo]) hl (by omega) (fun k hk => tokAtSize s k hk)
 have e : (lex s).2.2 = 1 + nlTo s s.size := h
 unfold formLine flN
 rw [e];simp
def gsOf (s : ByteArray) : List GSt := (pParse (progToks s)).1
def modOf (s : ByteArray) : SMod := (runS ((gsOf s).map gS) ⟨[],[],[]⟩ (0,0)).1
theorem form_bad (s : ByteArray) (hs : s.size ≤ 2000) (hl : (lex s).1 = 0) (h : (pParse (progToks s)).2.2 ≠ 0) : ∃ k R,k ≤ 1000000 ∧ formF k [yModel] (lex s).2.1 = some R ∧ R ≠ 0 ∧ formLine s R = (pParse (progToks s)).2.2 := by
 have hn := lex_len s
 obtain ⟨k,R,hk,hR,hE⟩ := form_parse (cut_of s).toCut (by omega)
 rcases hE with ⟨e,_⟩ | ⟨e,hr,hf⟩
 ·exact absurd e h
 ·exact ⟨k,R,hk,hR,hr,(line_of s hl R).trans hf⟩
theorem form_ok (s : ByteArray) (hs : s.size ≤ 2000) (hl : (lex s).1 = 0) (h : (pParse (progToks s)).2.2 = 0) : (∃ k,k ≤ 1000000 ∧ formF k [yModel] (lex s).2.1 = some 0) ∧ StsAt (lex s).2.1 0 ((gsOf s).map gS) (lex s).2.1.length ∧ (runS ((gsOf s).map gS) ⟨[],[],[]⟩ (0,0)).2 = (runQ (gsOf s) q0).st ∧ ((runQ (gsOf s) q0).st.1 = 0 → Inv (modOf s) (runQ (gsOf s) q0)) := by
 have hn := lex_len s
 obtain ⟨k,R,hk,hR,hE⟩ := form_parse (cut_of s).toCut (by omega)
 obtain ⟨h1,h2⟩ := parse_at (cut_of s) h
 obtain ⟨h3,h4⟩ := run_alike (gsOf s) inv0 rfl h2
 rcases hE with ⟨e,rfl⟩ | ⟨e,hr,hf⟩
 ·exact ⟨⟨k,hk,hR⟩,h1,h3,h4⟩
 ·exact absurd h e
end
section
def PlOk (n : Nat) (p : Int) : Prop := 0 ≤ p ∧ p < n
structure ConOk (n : Nat) (t : Int → Prop) (c : QCon) : Prop where
 sort : c.sort = 0 ∨ c.sort = 1 ∨ c.sort = 2 ∨ c.sort = 3 ∨ c.sort = 4
 truth : c.sort = 1 → PlOk n c.truth ∧ t c.truth
 terms : ∀ p ∈ c.terms,PlOk n p.1 ∧ -100 ≤ p.2 ∧ p.2 ≤ 100
 tlen : c.terms.length ≤ 8
 tne : c.sort = 0 ∨ c.sort = 1 → c.terms ≠ []
 rel : c.rel = 0 ∨ c.rel = 1 ∨ c.rel = 2
 num : -1000000 ≤ c.num ∧ c.num ≤ 1000000
 llen : c.list.length ≤ 20
 list : ∀ x ∈ c.list,-1000 ≤ x ∧ x ≤ 1000
 place : c.sort = 2 → PlOk n c.place ∧ PlOk n c.entry
 vars : ∀ x ∈ c.vars,PlOk n x
 vlen : c.vars.length ≤ 8
 vne : c.sort = 3 → c.vars ≠ []
 lits : ∀ p ∈ c.lits,PlOk n p.1 ∧ t p.1 ∧ (p.2 = 0 ∨ p.2 = 1)
 ilen : c.lits.length ≤ 8
 ine : c.sort = 4 → c.lits ≠ []
def TruthAt (vars : List QVar) (p : Int) : Prop := ∃ v,vars[p.toNat]? = some v ∧ 0 ≤ v.low ∧ v.high ≤ 1
structure QOk (q : QSt) : Prop where
 pl : ∀ s,(q.g s).so = 4 → 0 ≤ (q.g s).pl ∧ ∃ v,q.vars[(q.g s).pl.toNat]? = some v ∧ v.low = (q.g s).lo ∧ v.high = (q.g s).hi
 vars : ∀ v ∈ q.vars,-1000 ≤ v.low ∧ v.low ≤ v.high ∧ v.high ≤ 1000
 vlen : q.vars.length ≤ 8
 cons : ∀ c ∈ q.cons,ConOk q.vars.length (TruthAt q.vars) c
 clen : q.cons.length ≤ 16
 m : q.m = q.cons.length
 ls : ∀ s,(q.ls s).length ≤ 20 ∧ ∀ x ∈ q.ls s,-1000 ≤ x ∧ x ≤ 1000
theorem ConOk.more {n n' : Nat} {t t' : Int → Prop} {c : QCon} (h : ConOk n t c) (hn : n ≤ n') (ht : ∀ p,t p → t' p) : ConOk n' t' c :=
 have k : ∀ p,PlOk n p → PlOk n' p := fun p hp => ⟨hp.1,by have := hp.2;omega⟩
 ⟨h.sort,fun e => ⟨k _ (h.truth e).1,ht _ (h.truth e).2⟩,fun p hp => ⟨k _ (h.terms p hp).1,(h.terms p hp).2⟩,h.tlen,h.tne,h.rel,h.num,h.llen,h.list,fun e => ⟨k _ (h.place e).1,k _ (h.place e).2⟩,fun x hx => k _ (h.vars x hx),h.vlen,h.vne,fun p hp => ⟨k _ (h.lits p hp).1,ht _ (h.lits p hp).2.1,(h.lits p hp).2.2⟩,h.ilen,h.ine⟩
theorem fltz {b : Bool} {k l : Int} {st : FSt} (hk : k ≠ 0) (h : (flt b k l st).1 = 0) : b = false ∧ st.1 = 0 := by
 cases b with
 | false => exact ⟨rfl,by rw [flt_false] at h;exact h⟩
 | true =>
  rw [flt_true] at h
  split at h
  ·exact absurd h hk
  ·exact absurd h ‹_›
theorem fold_zero {α : Type} {step : Nat → α → FSt → FSt} (hs : ∀ k a st,(step k a st).1 = 0 → st.1 = 0) : ∀ (l : List α) (k : Nat) (st : FSt),(foldSt step k l st).1 = 0 → st.1 = 0 ∧ ∀ i a,l[i]? = some a → ∃ st',(step (k + i) a st').1 = 0 := by
 intro l
 induction l with
 | nil => intro k st h;exact ⟨h,fun i a ha => by simp at ha⟩
 | cons x l ih =>
  intro k st h
  obtain ⟨h1,h2⟩ := ih (k + 1) (step k x st) h
  refine ⟨hs _ _ _ h1,fun i a ha => ?_⟩
  cases i with
  | zero => simp at ha;subst ha;exact ⟨st,h1⟩
  | succ i =>
   obtain ⟨st',h3⟩ := h2 i a (by simpa using ha)
   exact ⟨st',by rw [show k + (i + 1) = k + 1 + i by omega];exact h3⟩
theorem fold_len {α : Type} {step : Nat → α → FSt → FSt} {n : Nat} (hs : ∀ k a st,(step k a st).1 = 0 → st.1 = 0) (hn : ∀ k a st,(step k a st).1 = 0 → k < n) {l : List α} {st : FSt} (h : (foldSt step 0 l st).1 = 0) : l.length ≤ n := by
 cases hl : l.length with
 | zero => omega
 | succ m =>
  obtain ⟨a,ha⟩ : ∃ a,l[m]? = some a := ⟨l[m]'(by omega),by simp [hl]⟩
  obtain ⟨st',h'⟩ := (fold_zero hs l 0 st h).2 m a ha
  have := hn _ _ _ h'
  omega
theorem bne4 {x : Int} (h : (x != 4) = false) : x = 4 := by simpa using h
theorem find_is {g : ByteArray → Th} {s : ByteArray} {k : Int} (h : (g s).so = k) : thFind g s k = g s := by unfold thFind;rw [if_pos h]
theorem out_no {x m : Int} (h : outB x m = false) : -m ≤ x ∧ x ≤ m := by
 unfold outB at h
 simp at h
 omega
theorem term_zero {g : ByteArray → Th} {k : Nat} {t : GTerm} {st : FSt} (h : (termStP g k t st).1 = 0) : st.1 = 0 ∧ (g t.name.s).so = 4 ∧ k < 8 ∧ -100 ≤ facV t ∧ facV t ≤ 100 := by
 unfold termStP at h
 obtain ⟨h1,h2⟩ := fltz (by decide) h
 have hso := bne4 h1
 by_cases c : srt t.first = 3
 ·unfold facSt at h2
  rw [if_pos c] at h2
  obtain ⟨h3,h4⟩ := fltz (by decide) h2
  obtain ⟨h5,h6⟩ := fltz (by decide) h4
  have h7 := out_no h3
  have h8 : ¬ (8 : Int) ≤ k := of_decide_eq_false h5
  refine ⟨h6,hso,by omega,?_⟩
  unfold facV
  rw [if_pos c]
  split <;> omega
 ·unfold facSt at h2
  rw [if_neg c] at h2
  obtain ⟨h5,h6⟩ := fltz (by decide) h2
  have h8 : ¬ (8 : Int) ≤ k := of_decide_eq_false h5
  refine ⟨h6,hso,by omega,?_⟩
  unfold facV
  rw [if_neg c]
  split <;> omega
theorem var_zero {g : ByteArray → Th} {k : Nat} {t : PTok} {st : FSt} (h : (varStP g k t st).1 = 0) : st.1 = 0 ∧ (g t.s).so = 4 ∧ k < 8 := by
 unfold varStP at h
 obtain ⟨h1,h2⟩ := fltz (by decide) h
 obtain ⟨h5,h6⟩ := fltz (by decide) h2
 have h8 : ¬ (8 : Int) ≤ k := of_decide_eq_false h5
 exact ⟨h6,bne4 h1,by omega⟩
theorem truth_no {t : Th} (h : noTruthT t = false) : 0 ≤ t.lo ∧ t.hi ≤ 1 := by
 unfold noTruthT at h
 simp at h
 omega
theorem lit_zero {g : ByteArray → Th} {k : Nat} {t : GLit} {st : FSt} (h : (litStP g k t st).1 = 0) : st.1 = 0 ∧ (g t.name.s).so = 4 ∧ k < 8 ∧ 0 ≤ (g t.name.s).lo ∧ (g t.name.s).hi ≤ 1 := by
 unfold litStP at h
 obtain ⟨h0,h⟩ := fltz (by decide) h
 obtain ⟨h1,h2⟩ := fltz (by decide) h
 obtain ⟨h5,h6⟩ := fltz (by decide) h2
 have h8 : ¬ (8 : Int) ≤ k := of_decide_eq_false h5
 have hso := bne4 h1
 rw [find_is hso] at h0
 exact ⟨h6,hso,by omega,truth_no h0⟩
theorem num_zero {k : Nat} {t : PTok} {st : FSt} (h : (numStP k t st).1 = 0) : st.1 = 0 ∧ k < 20 ∧ -1000 ≤ tval t ∧ tval t ≤ 1000 := by
 unfold numStP at h
 obtain ⟨h1,h2⟩ := fltz (by decide) h
 obtain ⟨h5,h6⟩ := fltz (by decide) h2
 have h8 : ¬ (20 : Int) ≤ k := of_decide_eq_false h5
 exact ⟨h6,by omega,out_no h1⟩
section
variable {q : QSt}
theorem QOk.pl4 (h : QOk q) {s : ByteArray} (hs : (q.g s).so = 4) : PlOk q.vars.length (thFind q.g s 4).pl := by
 rw [find_is hs]
 obtain ⟨h0,v,hv,_⟩ := h.pl s hs
 have := (List.getElem?_eq_some_iff.1 hv).1
 exact ⟨h0,by omega⟩
theorem QOk.tr4 (h : QOk q) {s : ByteArray} (hs : (q.g s).so = 4) (hl : 0 ≤ (q.g s).lo) (hh : (q.g s).hi ≤ 1) : TruthAt q.vars (thFind q.g s 4).pl := by
 rw [find_is hs]
 obtain ⟨h0,v,hv,e1,e2⟩ := h.pl s hs
 exact ⟨v,hv,by omega,by omega⟩
theorem rRel_ok (k : Int) : rRel k = 0 ∨ rRel k = 1 ∨ rRel k = 2 := by
 unfold rRel
 split
 ·exact .inr (.inl rfl)
 ·split
  ·exact .inr (.inr rfl)
  ·exact .inl rfl
theorem terms_ok (h : QOk q) {ts : List GTerm} {st : FSt} (hz : (foldSt (termStP q.g) 0 ts st).1 = 0) : st.1 = 0 ∧ (ts.map (fun t => ((thFind q.g t.name.s 4).pl,facV t))).length ≤ 8 ∧ ∀ p ∈ ts.map (fun t => ((thFind q.g t.name.s 4).pl,facV t)),PlOk q.vars.length p.1 ∧ -100 ≤ p.2 ∧ p.2 ≤ 100 := by
 have h1 := fold_zero (fun k a st h => (term_zero h).1) ts 0 st hz
 refine ⟨h1.1,by rw [List.length_map];exact fold_len (fun k a st h => (term_zero h).1) (fun k a st h => (term_zero h).2.2.1) hz,fun p hp => ?_⟩
 obtain ⟨t,ht,rfl⟩ := List.mem_map.1 hp
 obtain ⟨i,hi,he⟩ := List.getElem_of_mem ht
 obtain ⟨st',h2⟩ := h1.2 i t (by rw [List.getElem?_eq_getElem hi,he])
 obtain ⟨_,h3,_,h4⟩ := term_zero h2
 exact ⟨h.pl4 h3,h4⟩
theorem con_ok (h : QOk q) {s : GSt} (ho : StOk s) (hk : srt s.kw ≠ 4) (hk5 : srt s.kw ≠ 5) {st : FSt} (hz : (conSt q.g s st).1 = 0) : st.1 = 0 ∧ ConOk q.vars.length (TruthAt q.vars) (conOf q.g q.ls s) := by
 obtain ⟨kw,nm,names,numbers,terms,rel,lits⟩ := s
 simp only at hk hk5
 have kwd := ho.kwd
 simp only at kwd
 have lin : ∀ (sort truth : Int) (M : PTok),(sort = 0 ∨ sort = 1) → (sort = 1 → PlOk q.vars.length truth ∧ TruthAt q.vars truth) → terms ≠ [] → ∀ st : FSt,(flt (outB (tval M) 1000000) 5 M.line (foldSt (termStP q.g) 0 terms st)).1 = 0 →
   st.1 = 0 ∧ ConOk q.vars.length (TruthAt q.vars) ⟨sort,truth,terms.map (fun t => ((thFind q.g t.name.s 4).pl,facV t)),rRel (srt rel),tval M,[],0,0,[],[]⟩ := fun sort truth M hs ht hne st hz => by
  obtain ⟨h1,h2⟩ := fltz (by decide) hz
  obtain ⟨h3,h4,h5⟩ := terms_ok h h2
  refine ⟨h3,⟨by simp only;omega,ht,h5,h4,fun _ => by simpa using hne,rRel_ok _,out_no h1,by simp,(fun x hx => (by cases hx)),(fun e => (by simp only at e;omega)),(fun x hx => (by cases hx)),by simp,(fun e => (by simp only at e;omega)),(fun x hx => (by cases hx)),by simp,fun e => by simp only at e;omega⟩⟩
 rcases kwd with e | e | e | e | e | e | e
 ·exact absurd e hk
 ·exact absurd e hk5
 ·obtain ⟨hT,M,hM⟩ := ho.s6 (.inl e)
  simp only at hM hT
  subst hM
  have e1 : conOf q.g q.ls ⟨kw,nm,names,[M],terms,rel,lits⟩ = ⟨0,0,terms.map (fun t => ((thFind q.g t.name.s 4).pl,facV t)),rRel (srt rel),tval M,[],0,0,[],[]⟩ := by simp [conOf,e]
  rw [e1]
  simp [conSt,qLinSt,e] at hz
  exact lin 0 0 M (.inl rfl) (fun e => by cases e) hT st hz
 ·obtain ⟨hT,M,hM⟩ := ho.s6 (.inr e)
  simp only at hM hT
  subst hM
  have e1 : conOf q.g q.ls ⟨kw,nm,names,[M],terms,rel,lits⟩ = ⟨1,(thFind q.g nm.s 4).pl,terms.map (fun t => ((thFind q.g t.name.s 4).pl,facV t)),rRel (srt rel),tval M,[],0,0,[],[]⟩ := by simp [conOf,e]
  rw [e1]
  have hz' : (flt (outB (tval M) 1000000) 5 M.line (foldSt (termStP q.g) 0 terms (truthSt q.g nm st))).1 = 0 := by simpa [conSt,qLinSt,e] using hz
  have h0 : (truthSt q.g nm st).1 = 0 := (terms_ok h (fltz (by decide) hz').2).1
  unfold truthSt at h0
  obtain ⟨h1,h2⟩ := fltz (by decide) h0
  obtain ⟨h3,h4⟩ := fltz (by decide) h2
  have hso := bne4 h3
  rw [find_is hso] at h1
  have h5 := truth_no h1
  exact ⟨h4,(lin 1 _ M (.inr rfl) (fun _ => ⟨h.pl4 hso,h.tr4 hso h5.1 h5.2⟩) hT _ hz').2⟩
 ·obtain ⟨P,Q,hPQ⟩ := ho.s8 e
  simp only at hPQ
  subst hPQ
  have e1 : conOf q.g q.ls ⟨kw,nm,[P,Q],numbers,terms,rel,lits⟩ = ⟨2,0,[],0,0,if (q.g nm.s).so = 5 then q.ls nm.s else [],(thFind q.g P.s 4).pl,(thFind q.g Q.s 4).pl,[],[]⟩ := by simp [conOf,e]
  rw [e1]
  have hz' : (flt ((q.g Q.s).so != 4) 4 Q.line (flt ((q.g P.s).so != 4) 4 P.line (flt ((q.g nm.s).so != 5) 4 nm.line st))).1 = 0 := by simpa [conSt,e] using hz
  obtain ⟨h1,h2⟩ := fltz (by decide) hz'
  obtain ⟨h3,h4⟩ := fltz (by decide) h2
  obtain ⟨h5,h6⟩ := fltz (by decide) h4
  refine ⟨h6,⟨by simp,(fun e => (by cases e)),(fun x hx => (by cases hx)),by simp,(fun e => (by simp at e)),.inl rfl,by simp,?_,?_,fun _ => ⟨h.pl4 (bne4 h3),h.pl4 (bne4 h1)⟩,(fun x hx => (by cases hx)),by simp,(fun e => (by cases e)),(fun x hx => (by cases hx)),by simp,fun e => by cases e⟩⟩
  ·show (if (q.g nm.s).so = 5 then q.ls nm.s else []).length ≤ 20
   split
   ·exact (h.ls nm.s).1
   ·simp
  ·intro x hx
   change x ∈ (if (q.g nm.s).so = 5 then q.ls nm.s else []) at hx
   split at hx
   ·exact (h.ls nm.s).2 x hx
   ·cases hx
 ·have e1 : conOf q.g q.ls ⟨kw,nm,names,numbers,terms,rel,lits⟩ = ⟨3,0,[],0,0,[],0,0,names.map (fun t => (thFind q.g t.s 4).pl),[]⟩ := by simp [conOf,e]
  rw [e1]
  have hz' : (foldSt (varStP q.g) 0 names st).1 = 0 := by simpa [conSt,e] using hz
  have h1 := fold_zero (fun k a st h => (var_zero h).1) names 0 st hz'
  have hne := ho.s9 e
  simp only at hne
  refine ⟨h1.1,⟨by simp,(fun e => (by cases e)),(fun x hx => (by cases hx)),by simp,(fun e => (by simp at e)),.inl rfl,by simp,by simp,(fun x hx => (by cases hx)),(fun e => (by cases e)),fun x hx => ?_,?_,fun _ => by simpa using hne,(fun x hx => (by cases hx)),by simp,fun e => by cases e⟩⟩
  ·obtain ⟨t,ht,rfl⟩ := List.mem_map.1 hx
   obtain ⟨i,hi,he⟩ := List.getElem_of_mem ht
   obtain ⟨st',h2⟩ := h1.2 i t (by rw [List.getElem?_eq_getElem hi,he])
   exact h.pl4 (var_zero h2).2.1
  ·show (names.map _).length ≤ 8
   rw [List.length_map];exact fold_len (fun k a st h => (var_zero h).1) (fun k a st h => (var_zero h).2.2) hz'
 ·have e1 : conOf q.g q.ls ⟨kw,nm,names,numbers,terms,rel,lits⟩ = ⟨4,0,[],0,0,[],0,0,[],lits.map (fun t => ((thFind q.g t.name.s 4).pl,if srt t.first = 22 then 0 else 1))⟩ := by simp [conOf,e]
  rw [e1]
  have hz' : (foldSt (litStP q.g) 0 lits st).1 = 0 := by simpa [conSt,e] using hz
  have h1 := fold_zero (fun k a st h => (lit_zero h).1) lits 0 st hz'
  have hne := ho.s10 e
  simp only at hne
  refine ⟨h1.1,⟨by simp,(fun e => (by cases e)),(fun x hx => (by cases hx)),by simp,(fun e => (by simp at e)),.inl rfl,by simp,by simp,(fun x hx => (by cases hx)),(fun e => (by cases e)),(fun x hx => (by cases hx)),by simp,(fun e => (by cases e)),fun x hx => ?_,?_,fun _ => by simpa using hne⟩⟩
  ·obtain ⟨t,ht,rfl⟩ := List.mem_map.1 hx
   obtain ⟨i,hi,he⟩ := List.getElem_of_mem ht
   obtain ⟨st',h2⟩ := h1.2 i t (by rw [List.getElem?_eq_getElem hi,he])
   obtain ⟨_,h3,_,h4,h5⟩ := lit_zero h2
   exact ⟨h.pl4 h3,h.tr4 h3 h4 h5,by simp only;split <;> simp⟩
  ·show (lits.map _).length ≤ 8
   rw [List.length_map];exact fold_len (fun k a st h => (lit_zero h).1) (fun k a st h => (lit_zero h).2.2.1) hz'
theorem step_ok (h : QOk q) {s : GSt} (ho : StOk s) (hz : (qStep s q).st.1 = 0) : QOk (qStep s q) := by
 by_cases c4 : srt s.kw = 4
 ·obtain ⟨lo,hi,hn⟩ := ho.s4 c4
  have e1 : qStep s q = ⟨putTh q.g s.name.s ⟨4,q.vars.length,tval lo,tval hi,.slice none 0 0⟩,q.vars ++ [⟨s.name.s,tval lo,tval hi⟩],q.m,varDecl q.g q.vars.length s.name lo hi q.st,q.cons,putLs q.ls s.name.s []⟩ := by
   unfold qStep;rw [if_pos c4,hn]
  rw [e1] at hz ⊢
  have hz' : (varDecl q.g q.vars.length s.name lo hi q.st).1 = 0 := hz
  unfold varDecl at hz'
  obtain ⟨h1,hz'⟩ := fltz (by decide) hz'
  obtain ⟨h2,hz'⟩ := fltz (by decide) hz'
  obtain ⟨h3,hz'⟩ := fltz (by decide) hz'
  obtain ⟨h4,hz'⟩ := fltz (by decide) hz'
  obtain ⟨h5,hz'⟩ := fltz (by decide) hz'
  have g1 : ¬ tval hi < tval lo := of_decide_eq_false h1
  have g2 := out_no h2
  have g3 := out_no h3
  have g5 : ¬ (8 : Int) ≤ q.vars.length := of_decide_eq_false h5
  refine ⟨fun s' hs' => ?_,fun v hv => ?_,by simp;omega,fun c hc => (h.cons c hc).more (by simp) (fun p hp => ?_),h.clen,h.m,fun s' => ?_⟩
  ·simp only [putTh] at hs' ⊢
   split at hs'
   ·rename_i e
    rw [if_pos e]
    exact ⟨by simp,⟨s.name.s,tval lo,tval hi⟩,by simp,rfl,rfl⟩
   ·rename_i e
    rw [if_neg e]
    obtain ⟨k1,v,k2,k3⟩ := h.pl s' hs'
    exact ⟨k1,v,by rw [List.getElem?_append_left (List.getElem?_eq_some_iff.1 k2).1];exact k2,k3⟩
  ·rcases List.mem_append.1 hv with q' | q'
   ·exact h.vars v q'
   ·simp only [List.mem_cons,List.not_mem_nil,or_false] at q';subst q'
    exact ⟨g3.1,by simp only;omega,g2.2⟩
  ·obtain ⟨v,k1,k2⟩ := hp
   exact ⟨v,by rw [List.getElem?_append_left (List.getElem?_eq_some_iff.1 k1).1];exact k1,k2⟩
  ·simp only [putLs]
   split
   ·exact ⟨by simp,fun x hx => by cases hx⟩
   ·exact h.ls s'
 ·by_cases c5 : srt s.kw = 5
  ·have e1 : qStep s q = ⟨putTh q.g s.name.s ⟨5,0,0,0,.slice none 0 0⟩,q.vars,q.m,foldSt numStP 0 s.numbers (flt ((q.g s.name.s).so != 0) 4 s.name.line q.st),q.cons,putLs q.ls s.name.s (s.numbers.map tval)⟩ := by
    unfold qStep;rw [if_neg c4,if_pos c5]
   rw [e1] at hz ⊢
   have hz' : (foldSt numStP 0 s.numbers (flt ((q.g s.name.s).so != 0) 4 s.name.line q.st)).1 = 0 := hz
   have h1 := fold_zero (fun k a st h => (num_zero h).1) s.numbers 0 _ hz'
   refine ⟨fun s' hs' => ?_,h.vars,h.vlen,h.cons,h.clen,h.m,fun s' => ?_⟩
   ·simp only [putTh] at hs' ⊢
    split at hs'
    ·simp at hs'
    ·rename_i e
     rw [if_neg e];exact h.pl s' hs'
   ·simp only [putLs]
    split
    ·refine ⟨by rw [List.length_map];exact fold_len (fun k a st h => (num_zero h).1) (fun k a st h => (num_zero h).2.1) hz',fun x hx => ?_⟩
     obtain ⟨t,ht,rfl⟩ := List.mem_map.1 hx
     obtain ⟨i,hi,he⟩ := List.getElem_of_mem ht
     obtain ⟨st',h2⟩ := h1.2 i t (by rw [List.getElem?_eq_getElem hi,he])
     exact (num_zero h2).2.2
    ·exact h.ls s'
  ·have e1 : qStep s q = ⟨q.g,q.vars,q.m + 1,conSt q.g s (flt (decide ((16 : Int) ≤ q.m)) 6 s.kw.line q.st),q.cons ++ [conOf q.g q.ls s],q.ls⟩ := by
    unfold qStep;rw [if_neg c4,if_neg c5]
   rw [e1] at hz ⊢
   obtain ⟨h1,h2⟩ := con_ok h ho c4 c5 hz
   obtain ⟨h3,h4⟩ := fltz (by decide) h1
   have g3 : ¬ (16 : Int) ≤ q.m := of_decide_eq_false h3
   have hm := h.m
   refine ⟨h.pl,h.vars,h.vlen,fun c hc => ?_,by simp;omega,by simp [hm],h.ls⟩
   rcases List.mem_append.1 hc with q' | q'
   ·exact h.cons c q'
   ·simp only [List.mem_cons,List.not_mem_nil,or_false] at q';subst q';exact h2
end
theorem q0_ok : QOk q0 := ⟨(fun s hs => (by simp [q0,noTh] at hs)),(fun v hv => (by cases hv)),by simp [q0],(fun c hc => (by cases hc)),by simp [q0],rfl,fun s => ⟨by simp [q0],fun x hx => by cases hx⟩⟩
theorem run_ok (gs : List GSt) : ∀ q : QSt,QOk q → (∀ g ∈ gs,StOk g) → (runQ gs q).st.1 = 0 → QOk (runQ gs q) := by
 induction gs with
 | nil => intro q h _ _;exact h
 | cons g gs ih =>
  intro q h hg hz
  simp only [runQ] at hz ⊢
  by_cases c : (qStep g q).st.1 = 0
  ·rw [if_pos c] at hz ⊢
   exact ih _ (step_ok h (hg g (by simp)) c) (fun a ha => hg a (by simp [ha])) hz
  ·rw [if_neg c] at hz
   exact absurd hz c
theorem text_ok (s : ByteArray) (hs : s.size ≤ 2000) (hp : (pParse (progToks s)).2.2 = 0) (hq : (runQ (pParse (progToks s)).1 q0).st.1 = 0) : QOk (runQ (pParse (progToks s)).1 q0) :=
 run_ok _ q0 q0_ok (fun g hg => (parse_ok s hs hp).1 g hg) hq
end
section
variable {M : SMod} {q : QSt}
def relOf (b : ByteArray) : Int := if b.toList = [61] then 0 else if b.toList = [33,61] then 1 else 2
def swp (p : Int × Int) : Int × Int := (p.2,p.1)
def ruleC (L : List SLst) (r : SRul) : QCon :=
 if r.sort = 105 then ⟨0,0,r.parts.map swp,relOf r.rel,r.n,[],0,0,[],[]⟩
 else if r.sort = 119 then ⟨1,r.v,r.parts.map swp,relOf r.rel,r.n,[],0,0,[],[]⟩
 else if r.sort = 97 then ⟨2,0,[],0,0,((L[r.x.toNat]?).map (·.nums)).getD [],r.v,r.w,[],[]⟩
 else if r.sort = 100 then ⟨3,0,[],0,0,[],0,0,r.parts.map (·.2),[]⟩
 else ⟨4,0,[],0,0,[],0,0,[],r.parts.map fun p => (p.2,1 - p.1)⟩
structure RulOk (L : List SLst) (r : SRul) : Prop where
 sort : r.sort = 105 ∨ r.sort = 119 ∨ r.sort = 97 ∨ r.sort = 100 ∨ r.sort = 111
 x : r.sort = 97 → 0 ≤ r.x ∧ r.x.toNat < L.length
 lit : r.sort = 111 → ∀ p ∈ r.parts,p.1 = 0 ∨ p.1 = 1
structure Inv2 (M : SMod) (q : QSt) : Prop where
 ls : ∀ s,0 ≤ slstX M.lists s → ∃ l,M.lists[(slstX M.lists s).toNat]? = some l ∧ q.ls s = l.nums
 cons : q.cons = M.rules.map (ruleC M.lists)
 rul : ∀ r ∈ M.rules,RulOk M.lists r
 lb : ∀ l ∈ M.lists,l.nums.length ≤ 20
theorem ruleC_more {L : List SLst} {r : SRul} (h : RulOk L r) (x : SLst) : ruleC (L ++ [x]) r = ruleC L r := by
 unfold ruleC
 by_cases c : r.sort = 97
 ·rw [List.getElem?_append_left (h.x c).2]
 ·simp only [c,if_false]
theorem RulOk.more {L : List SLst} {r : SRul} (h : RulOk L r) (x : SLst) : RulOk (L ++ [x]) r := ⟨h.sort,fun c => ⟨(h.x c).1,by have := (h.x c).2;simp;omega⟩,h.lit⟩
theorem Inv.pl4 (h : Inv M q) {s : ByteArray} (hs : (q.g s).so = 4) : (thFind q.g s 4).pl = varX M.vars s := by
 rw [find_is hs]
 have h1 := h.so s
 rw [hs] at h1
 by_cases c : 0 ≤ varX M.vars s
 ·exact (h.pl s c).1
 ·rw [if_neg c] at h1;split at h1 <;> omega
theorem Inv.so5' (h : Inv M q) {s : ByteArray} (hs : (q.g s).so = 5) : 0 ≤ slstX M.lists s := by
 have h1 := h.so s
 rw [hs] at h1
 by_cases c : 0 ≤ varX M.vars s
 ·rw [if_pos c] at h1;omega
 ·rw [if_neg c] at h1
  by_cases c' : 0 ≤ slstX M.lists s
  ·exact c'
  ·rw [if_neg c'] at h1;omega
theorem fac_alike (vars : List PVar) (t : GTerm) : (termPart vars (gP t)).1 = facV t := by
 unfold termPart gP facV sgn
 by_cases c : srt t.first = 3
 ·simp only [c,if_true]
  rw [tval_int (srt_int c)]
  split <;> simp
 ·simp only [c,if_false]
theorem rel_alike {t : PTok} (h : SrtOk t) (hk : srt t = 14 ∨ srt t = 15 ∨ srt t = 16) : relOf t.s = rRel (srt t) := by
 have e14 : t.s.toList = [61] ↔ srt t = 14 := h.byt 14 (by decide) (by decide)
 have e15 : t.s.toList = [33,61] ↔ srt t = 15 := h.byt 15 (by decide) (by decide)
 unfold relOf rRel
 rcases hk with e | e | e
 ·rw [if_pos (e14.2 e),e];rfl
 ·rw [if_neg (fun c => by have := e14.1 c;omega),if_pos (e15.2 e),e];rfl
 ·rw [if_neg (fun c => by have := e14.1 c;omega),if_neg (fun c => by have := e15.1 c;omega),e];rfl
theorem terms_same (h : Inv M q) {ts : List GTerm} {st : FSt} (hz : (foldSt (termStP q.g) 0 ts st).1 = 0) : ((ts.map gP).map (termPart M.vars)).map swp = ts.map (fun t => ((thFind q.g t.name.s 4).pl,facV t)) := by
 have h1 := fold_zero (fun k a st h => (term_zero h).1) ts 0 st hz
 rw [List.map_map,List.map_map]
 refine List.map_congr_left fun t ht => ?_
 obtain ⟨i,hi,he⟩ := List.getElem_of_mem ht
 obtain ⟨st',h2⟩ := h1.2 i t (by rw [List.getElem?_eq_getElem hi,he])
 have e := h.pl4 (term_zero h2).2.1
 show ((termPart M.vars (gP t)).2,(termPart M.vars (gP t)).1) = _
 rw [fac_alike,e];rfl
theorem con_same (h : Inv M q) (h2 : Inv2 M q) {g : GSt} (hg : GOk g) (hk4 : srt g.kw ≠ 4) (hk5 : srt g.kw ≠ 5) {st : FSt} (hz : (conSt q.g g st).1 = 0) : ∃ r,stMod M (gS g) = { M with rules := M.rules ++ [r] } ∧ ruleC M.lists r = conOf q.g q.ls g ∧ RulOk M.lists r := by
 have k4 := hg.k4
 have k10 := hg.k10
 obtain ⟨k,hk⟩ : ∃ k,srt g.kw = k := ⟨_,rfl⟩
 rw [hk] at hk4 hk5
 have hcs : k = 6 ∨ k = 7 ∨ k = 8 ∨ k = 9 ∨ k = 10 := by omega
 rcases hcs with rfl | rfl | rfl | rfl | rfl
 ·obtain ⟨N,hN,hNk⟩ := hg.n6 (.inl hk)
  obtain ⟨hr1,hr2⟩ := hg.rl (.inl hk)
  have hz' : (flt (outB (tval N) 1000000) 5 N.line (foldSt (termStP q.g) 0 g.terms st)).1 = 0 := by simpa [conSt,qLinSt,hk,hN] using hz
  have ht := terms_same h (fltz (by decide) hz').2
  refine ⟨_,by unfold stMod gS;simp only [hk];rfl,?_,.inl rfl,(fun e => (by cases e)),fun e => by cases e⟩
  unfold ruleC conOf
  simp only [hk,hN,if_true,show ¬ (6 : Int) = 7 by decide,show ¬ (6 : Int) = 8 by decide,show ¬ (6 : Int) = 9 by decide,show ¬ (6 : Int) = 10 by decide,show ¬ (6 : Int) = 4 by decide,if_false]
  rw [ht,rel_alike hr1 hr2]
  simp [tval_int hNk]
 ·obtain ⟨N,hN,hNk⟩ := hg.n6 (.inr hk)
  obtain ⟨hr1,hr2⟩ := hg.rl (.inr hk)
  have hz' : (flt (outB (tval N) 1000000) 5 N.line (foldSt (termStP q.g) 0 g.terms (truthSt q.g g.name st))).1 = 0 := by simpa [conSt,qLinSt,hk,hN] using hz
  have hzf := (fltz (by decide) hz').2
  have ht := terms_same h hzf
  have h0 := (fold_zero (fun k a st h => (term_zero h).1) g.terms 0 _ hzf).1
  unfold truthSt at h0
  have hso := bne4 (fltz (by decide) (fltz (by decide) h0).2).1
  refine ⟨_,by unfold stMod gS;simp only [hk];rfl,?_,.inr (.inl rfl),(fun e => (by cases e)),fun e => by cases e⟩
  unfold ruleC conOf
  simp only [hk,hN,if_true,show ¬ (119 : Int) = 105 by decide,show ¬ (7 : Int) = 8 by decide,show ¬ (7 : Int) = 4 by decide,if_false]
  rw [ht,rel_alike hr1 hr2,h.pl4 hso]
  simp [tval_int hNk]
 ·obtain ⟨P,Q,hPQ⟩ := hg.n8 hk
  have hz' : (flt ((q.g Q.s).so != 4) 4 Q.line (flt ((q.g P.s).so != 4) 4 P.line (flt ((q.g g.name.s).so != 5) 4 g.name.line st))).1 = 0 := by simpa [conSt,hk,hPQ] using hz
  obtain ⟨h1,hz'⟩ := fltz (by decide) hz'
  obtain ⟨h3,hz'⟩ := fltz (by decide) hz'
  obtain ⟨h5,hz'⟩ := fltz (by decide) hz'
  have e5 : (q.g g.name.s).so = 5 := by simpa using h5
  have hx := h.so5' e5
  obtain ⟨l,hl,hls⟩ := h2.ls _ hx
  have hlt := (List.getElem?_eq_some_iff.1 hl).1
  refine ⟨⟨97,[],⟨#[]⟩,0,varX M.vars P.s,varX M.vars Q.s,slstX M.lists g.name.s⟩,by unfold stMod gS;simp [hk,hPQ],?_,.inr (.inr (.inl rfl)),(fun _ => ⟨hx,hlt⟩),fun e => by cases e⟩
  unfold ruleC conOf
  simp only [hk,hPQ,if_true,show ¬ (97 : Int) = 105 by decide,show ¬ (97 : Int) = 119 by decide,show ¬ (8 : Int) = 7 by decide,if_false,hl,e5,hls,h.pl4 (bne4 h3),h.pl4 (bne4 h1),Option.map_some,Option.getD_some]
 ·have hz' : (foldSt (varStP q.g) 0 g.names st).1 = 0 := by simpa [conSt,hk] using hz
  have h1 := fold_zero (fun k a st h => (var_zero h).1) g.names 0 st hz'
  refine ⟨_,by unfold stMod gS;simp only [hk];rfl,?_,.inr (.inr (.inr (.inl rfl))),(fun e => (by cases e)),fun e => by cases e⟩
  unfold ruleC conOf
  simp only [hk,show ¬ (100 : Int) = 105 by decide,show ¬ (100 : Int) = 119 by decide,show ¬ (100 : Int) = 97 by decide,show ¬ (9 : Int) = 7 by decide,show ¬ (9 : Int) = 8 by decide,show ¬ (9 : Int) = 5 by decide,if_true,if_false]
  congr 1
  rw [List.map_map]
  refine List.map_congr_left fun t ht => ?_
  obtain ⟨i,hi,he⟩ := List.getElem_of_mem ht
  obtain ⟨st',h2'⟩ := h1.2 i t (by rw [List.getElem?_eq_getElem hi,he])
  exact (h.pl4 (var_zero h2').2.1).symm
 ·have hz' : (foldSt (litStP q.g) 0 g.lits st).1 = 0 := by simpa [conSt,hk] using hz
  have h1 := fold_zero (fun k a st h => (lit_zero h).1) g.lits 0 st hz'
  refine ⟨_,by unfold stMod gS;simp only [hk];rfl,?_,.inr (.inr (.inr (.inr rfl))),(fun e => (by cases e)),fun _ p hp => ?_⟩
  ·unfold ruleC conOf
   simp only [hk,show ¬ (111 : Int) = 105 by decide,show ¬ (111 : Int) = 119 by decide,show ¬ (111 : Int) = 97 by decide,show ¬ (111 : Int) = 100 by decide,show ¬ (10 : Int) = 7 by decide,show ¬ (10 : Int) = 8 by decide,show ¬ (10 : Int) = 9 by decide,if_true,if_false]
   congr 1
   rw [List.map_map,List.map_map]
   refine List.map_congr_left fun t ht => ?_
   obtain ⟨i,hi,he⟩ := List.getElem_of_mem ht
   obtain ⟨st',h2'⟩ := h1.2 i t (by rw [List.getElem?_eq_getElem hi,he])
   have e := h.pl4 (lit_zero h2').2.1
   show ((litPart M.vars (gL t)).2,1 - (litPart M.vars (gL t)).1) = _
   rw [e]
   unfold litPart gL
   by_cases c : srt t.first = 22
   ·simp [c]
   ·simp [c]
  ·simp only [List.map_map] at hp
   obtain ⟨t,ht,rfl⟩ := List.mem_map.1 hp
   show (litPart M.vars (gL t)).1 = 0 ∨ (litPart M.vars (gL t)).1 = 1
   unfold litPart
   simp only
   split
   ·exact .inr rfl
   ·exact .inl rfl
theorem step_same (h : Inv M q) (h2 : Inv2 M q) {g : GSt} (hg : GOk g) (hz : (qStep g q).st.1 = 0) : Inv2 (stMod M (gS g)) (qStep g q) := by
 by_cases c4 : srt g.kw = 4
 ·obtain ⟨lo,hi,e,k1,k2⟩ := hg.n4 c4
  unfold qStep at hz ⊢
  unfold stMod gS
  simp only [c4,e,if_true,List.getD_cons_zero,List.getD_cons_succ] at hz ⊢
  unfold varDecl at hz
  have hd := (flt_zero (by decide) (flt_zero (by decide) (flt_zero (by decide) (flt_zero (by decide) hz).2).2).2).1
  rw [h.so0] at hd
  simp only [Bool.or_eq_false_iff,decide_eq_false_iff_not] at hd
  refine ⟨fun s hs => ?_,h2.cons,h2.rul,h2.lb⟩
  change 0 ≤ slstX M.lists s at hs
  obtain ⟨l,e1,e2⟩ := h2.ls s hs
  refine ⟨l,e1,?_⟩
  show putLs q.ls g.name.s [] s = _
  unfold putLs
  rw [if_neg (fun c => hd.2 (by rw [← c];exact hs))]
  exact e2
 ·by_cases c5 : srt g.kw = 5
  ·unfold qStep at hz ⊢
   unfold stMod gS
   simp only [c5,show ¬ (5 : Int) = 4 by decide,if_false,if_true] at hz ⊢
   have h1 := fold_zero (fun k a st h => (num_zero h).1) g.numbers 0 _ hz
   have hd := (fltz (by decide) h1.1).1
   rw [h.so0] at hd
   simp only [Bool.or_eq_false_iff,decide_eq_false_iff_not] at hd
   have en : g.numbers.map tval = g.numbers.map fun t => intVal t.s := List.map_congr_left fun t ht => tval_int (hg.n5 c5 t ht)
   refine ⟨fun s hs => ?_,?_,fun r hr => (h2.rul r hr).more _,fun l hl => ?_⟩
   ·change 0 ≤ slstX (M.lists ++ [_]) s at hs
    show ∃ l,(M.lists ++ [_])[(slstX (M.lists ++ [_]) s).toNat]? = some l ∧ putLs q.ls g.name.s (g.numbers.map tval) s = l.nums
    rw [slstX_snoc] at hs ⊢
    unfold putLs
    by_cases c : s = g.name.s
    ·rw [if_pos c]
     rw [c,if_neg hd.2,if_pos rfl] at hs ⊢
     exact ⟨⟨g.name.s,g.numbers.map fun t => intVal t.s⟩,by simp,en⟩
    ·rw [if_neg c]
     have c' : ¬ g.name.s = s := fun q => c q.symm
     by_cases c2 : 0 ≤ slstX M.lists s
     ·rw [if_pos c2] at hs ⊢
      obtain ⟨l,e1,e2⟩ := h2.ls s c2
      exact ⟨l,by rw [List.getElem?_append_left (List.getElem?_eq_some_iff.1 e1).1];exact e1,e2⟩
     ·rw [if_neg c2,if_neg c'] at hs;omega
   ·show q.cons = M.rules.map (ruleC (M.lists ++ [_]))
    rw [h2.cons]
    exact List.map_congr_left fun r hr => (ruleC_more (h2.rul r hr) _).symm
   ·rcases List.mem_append.1 hl with q | q
    ·exact h2.lb l q
    ·obtain rfl : l = _ := by simpa using q
     simp only [List.length_map]
     exact fold_len (fun k a st h => (num_zero h).1) (fun k a st h => (num_zero h).2.1) hz
  ·have e1 : qStep g q = ⟨q.g,q.vars,q.m + 1,conSt q.g g (flt (decide ((16 : Int) ≤ q.m)) 6 g.kw.line q.st),q.cons ++ [conOf q.g q.ls g],q.ls⟩ := by
    unfold qStep;rw [if_neg c4,if_neg c5]
   rw [e1] at hz ⊢
   obtain ⟨r,r1,r2,r3⟩ := con_same h h2 hg c4 c5 hz
   rw [r1]
   refine ⟨h2.ls,?_,fun a ha => ?_,h2.lb⟩
   ·show q.cons ++ [_] = (M.rules ++ [r]).map (ruleC M.lists)
    rw [List.map_append,← h2.cons,← r2];rfl
   ·rcases List.mem_append.1 ha with ha | ha
    ·exact h2.rul a ha
    ·obtain rfl : a = r := by simpa using ha
     exact r3
theorem run_same (gs : List GSt) : ∀ {M : SMod} {q : QSt},Inv M q → Inv2 M q → q.st.1 = 0 → (∀ g ∈ gs,GOk g) → (runQ gs q).st.1 = 0 → Inv2 (runS (gs.map gS) M q.st).1 (runQ gs q) := by
 induction gs with
 | nil => intro M q _ h _ _ _;exact h
 | cons g gs ih =>
  intro M q h h2 h0 hg hz
  have ha := step_alike h (hg g (by simp))
  simp only [List.map_cons,runS,runQ] at hz ⊢
  rw [if_pos h0,ha]
  by_cases c : (qStep g q).st.1 = 0
  ·rw [if_pos c] at hz ⊢
   exact ih (step_inv h (hg g (by simp)) c) (step_same h h2 (hg g (by simp)) c) c (fun a ha => hg a (by simp [ha])) hz
  ·rw [if_neg c] at hz
   exact absurd hz c
theorem inv20 : Inv2 ⟨[],[],[]⟩ q0 := ⟨fun s h => by simp [slstX,findName] at h,rfl,(fun r hr => (by cases hr)),fun l hl => by cases hl⟩
theorem rules_same (s : ByteArray) (h : (pParse (progToks s)).2.2 = 0) (hq : (runQ (gsOf s) q0).st.1 = 0) : Inv2 (modOf s) (runQ (gsOf s) q0) :=
 run_same (gsOf s) inv0 inv20 rfl (parse_at (cut_of s) h).2 hq
end
section
set_option maxHeartbeats 4000000
set_option maxRecDepth 100000
open Go.RowKit
variable {w : World}
def vAt (vals : List Int) (p : Int) : Int := vals.getD p.toNat 0
def relP (r a b : Int) : Bool := if r = 0 then decide (a = b) else if r = 1 then a != b else if r = 2 then decide (a ≤ b) else false
def sumP (vals : List Int) (ts : List (Int × Int)) : Int := ts.foldl (fun s p => s + p.2 * vAt vals p.1) 0
def newP (vals : List Int) (vars : List Int) (i : Nat) : Bool := (vars.take i).all fun u => decide (vAt vals (vars.getD i 0) ≠ vAt vals u)
def diffP (vals : List Int) (vars : List Int) : Bool := (List.range vars.length).all fun i => newP vals vars i
def litP (vals : List Int) (lits : List (Int × Int)) : Bool := lits.any fun p => decide (vAt vals p.1 = p.2)
theorem vAt_get {vals : List Int} {p : Int} (h : PlOk vals.length p) : vals[p.toNat]? = some (vAt vals p) := by
 obtain ⟨h1,h2⟩ := h
 have : p.toNat < vals.length := by omega
 simp [vAt,this]
abbrev VIn (w : World) (v : Value) (g cap : Nat) (vals : List Int) : Prop := RowIn w v g cap inCell vals
theorem VIn.at_ {v : Value} {g cap : Nat} {vals : List Int} (h : VIn w v g cap vals) {p : Int} (hp : PlOk vals.length p) : w.cell? ⟨g,p.toNat,none⟩ = some (.int .i64 (vAt vals p)) := by
 have q := h.at (sz := 1) (fun _ => rfl) (vAt_get hp) 0 _ rfl
 rw [Nat.mul_one] at q
 exact q
theorem vAt_bd {vals : List Int} (h : ∀ x ∈ vals,-1000 ≤ x ∧ x ≤ 1000) (p : Int) : -1000 ≤ vAt vals p ∧ vAt vals p ≤ 1000 := by
 unfold vAt
 rw [List.getD_eq_getElem?_getD]
 cases e : vals[p.toNat]? with
 | none => simp
 | some x => exact h x (List.mem_of_getElem? e)
theorem mul_bd {a b : Int} (h1 : -100 ≤ a) (h2 : a ≤ 100) (h3 : -1000 ≤ b) (h4 : b ≤ 1000) : -100000 ≤ a * b ∧ a * b ≤ 100000 := by
 constructor
 ·rcases Int.le_total 0 a with c | c
  ·have := Int.mul_le_mul_of_nonneg_left h3 c;omega
  ·have := Int.mul_le_mul_of_nonpos_left c h4;omega
 ·rcases Int.le_total 0 a with c | c
  ·have := Int.mul_le_mul_of_nonneg_left h4 c;omega
  ·have := Int.mul_le_mul_of_nonpos_left c h3;omega
theorem sumP_snoc (vals : List Int) (ts : List (Int × Int)) (p : Int × Int) : sumP vals (ts ++ [p]) = sumP vals ts + p.2 * vAt vals p.1 := by simp [sumP]
theorem sumP_bd {vals : List Int} (hv : ∀ x ∈ vals,-1000 ≤ x ∧ x ≤ 1000) (ts : List (Int × Int)) (ht : ∀ p ∈ ts,-100 ≤ p.2 ∧ p.2 ≤ 100) : -100000 * (ts.length : Int) ≤ sumP vals ts ∧ sumP vals ts ≤ 100000 * (ts.length : Int) := by
 have key : ∀ (ts : List (Int × Int)),(∀ p ∈ ts,-100 ≤ p.2 ∧ p.2 ≤ 100) → ∀ acc : Int,acc - 100000 * (ts.length : Int) ≤ ts.foldl (fun s p => s + p.2 * vAt vals p.1) acc ∧ ts.foldl (fun s p => s + p.2 * vAt vals p.1) acc ≤ acc + 100000 * (ts.length : Int) := by
  intro ts
  induction ts with
  | nil => intro _ acc;simp
  | cons p ts ih =>
   intro ht acc
   have h1 := ih (fun q hq => ht q (by simp [hq])) (acc + p.2 * vAt vals p.1)
   have h2 := ht p (by simp)
   have h3 := vAt_bd hv p.1
   have h4 := mul_bd h2.1 h2.2 h3.1 h3.2
   simp only [List.foldl_cons,List.length_cons]
   omega
 have := key ts ht 0
 unfold sumP
 omega
theorem rl_holds (r a b : Int) (w : World) : Calls Tryz.prog 78 #[.int .i64 r,.int .i64 a,.int .i64 b] w fun e w' => e = .returned (.bool (relP r a b)) ∧ w' = w := by
 obtain ⟨R,hR⟩ : ∃ R,R = relP r a b := ⟨_,rfl⟩
 rw [← hR]
 have HR : Hid (R = relP r a b) := hR
 clear hR
 by_cases h0 : r = 0
 ·have h0' : (r == 0) = true := by simpa using h0
  have HE : Hid (relP r a b = decide (a = b)) := by unfold Hid relP;rw [if_pos h0]
  clear h0
  go_enter Tryz.func78,Tryz.ntmps78
  go_wp2
  all_goals go_ret
  all_goals (refine ⟨?_,rfl⟩;rw [HR.out,HE.out];first | rfl | simp_all)
 ·have h0' : (r == 0) = false := by simpa using h0
  by_cases h1 : r = 1
  ·have h1' : (r == 1) = true := by simpa using h1
   have HE : Hid (relP r a b = (a != b)) := by unfold Hid relP;rw [if_neg h0,if_pos h1]
   clear h0 h1
   go_enter Tryz.func78,Tryz.ntmps78
   go_wp2
   all_goals go_ret
   all_goals (refine ⟨?_,rfl⟩;rw [HR.out,HE.out];first | rfl | simp_all)
  ·have h1' : (r == 1) = false := by simpa using h1
   by_cases h2 : r = 2
   ·have h2' : (r == 2) = true := by simpa using h2
    have HE : Hid (relP r a b = decide (a ≤ b)) := by unfold Hid relP;rw [if_neg h0,if_neg h1,if_pos h2]
    clear h0 h1 h2
    go_enter Tryz.func78,Tryz.ntmps78
    go_wp2
    all_goals go_ret
    all_goals (refine ⟨?_,rfl⟩;rw [HR.out,HE.out];first | rfl | simp_all)
   ·have h2' : (r == 2) = false := by simpa using h2
    have HE : Hid (relP r a b = false) := by unfold Hid relP;rw [if_neg h0,if_neg h1,if_neg h2]
    clear h0 h1 h2
    go_enter Tryz.func78,Tryz.ntmps78
    go_wp2
    go_ret
    exact ⟨by rw [HR.out,HE.out];rfl,rfl⟩
theorem rl_sum {vt vv : Value} {gt ct gv cv : Nat} {ts : List (Int × Int)} {vals : List Int} (hT : RowIn w vt gt ct prCell ts) (hV : VIn w vv gv cv vals) (hok : ∀ p ∈ ts,PlOk vals.length p.1 ∧ -100 ≤ p.2 ∧ p.2 ≤ 100) (hvl : ∀ x ∈ vals,-1000 ≤ x ∧ x ≤ 1000) (hl : ts.length ≤ 8) (hvn : vals.length ≤ 1000) : Calls Tryz.prog 79 #[vt,vv] w fun e w' => e = .returned (.int .i64 (sumP vals ts)) ∧ w.grownBy w' none := by
 have HT := hide hT
 have HV := hide hV
 have HOK := hide hok
 have hgt := hT.lt
 have hgv := hV.lt
 obtain rfl := hT.is
 obtain rfl := hV.is
 clear hT hV hok
 go_enter Tryz.func79,Tryz.ntmps79
 go_wp2
 go_loopw [5,10] (fun vs vi wr => ∃ i : Nat,i ≤ ts.length ∧ vi = .int .i64 i ∧ vs = .int .i64 (sumP vals (ts.take i)) ∧ w.grownBy wr none) (fun _ vi _ => ts.length - (intOf vi).toNat)
 case atStart => exact ⟨0,Nat.zero_le _,rfl,rfl,grown_refl _ _⟩
 case round =>
  obtain ⟨i,hi,rfl,rfl,hgr⟩ := hrel
  by_cases hlt : i < ts.length
  ·obtain ⟨a,ha⟩ : ∃ a,ts[i]? = some a := ⟨ts[i],by simp [hlt]⟩
   obtain ⟨hp,hf1,hf2⟩ := HOK.out a (List.mem_of_getElem? ha)
   have hR := HT.out.kept hgr (by simp)
   have hW := HV.out.kept hgr (by simp)
   have k0 : wr.cell? ⟨gt,i * 2,none⟩ = some (.int .i64 a.1) := hR.at (sz := 2) (fun _ => rfl) ha 0 _ rfl
   have k1 : wr.cell? ⟨gt,i * 2 + 1,none⟩ = some (.int .i64 a.2) := hR.at (sz := 2) (fun _ => rfl) ha 1 _ rfl
   have k2 := VIn.at_ hW hp
   have hx := vAt_bd hvl a.1
   have hs := sumP_bd hvl (ts.take i) (fun p hp => (HOK.out p (List.mem_of_mem_take hp)).2)
   have hsn : Hid (sumP vals (ts.take (i + 1)) = sumP vals (ts.take i) + a.2 * vAt vals a.1) := by
    rw [Hid,List.take_add_one,ha];exact sumP_snoc _ _ _
   have hm := mul_bd hf1 hf2 hx.1 hx.2
   have hti : ((ts.take i).length : Int) ≤ 8 := by have := List.length_take_le i ts;omega
   have hp1 := hp.1
   have hp2 := hp.2
   have hlt3 : (i : Int) < ts.length := by omega
   have h03 : (0 : Int) ≤ i := by omega
   obtain ⟨a1,a2⟩ := a
   simp only at *
   generalize vAt vals a1 = X at *
   generalize sumP vals (ts.take i) = S at *
   have hs1 : -800000 ≤ S := by omega
   have hs2 : S ≤ 800000 := by omega
   have hgv' : gv < wr.heap.size := hW.lt
   have hm1 := hm.1
   have hm2 := hm.2
   have hx1 := hx.1
   have hx2 := hx.2
   have HGR := hide hgr
   clear hR hW hgr hs hti hp ha hm hx
   go_wp2
   go_quiet (fail)
   go_wp2
   go_roundw
   case rel => exact ⟨i + 1,by omega,by go_num,by rw [hsn.out],(HGR.out.trans (World.grownBy_alloc _ _ _)).trans (grown_drewN' _ _ _)⟩
   case measure => simp [intOf];omega
  ·obtain rfl : i = ts.length := by omega
   go_wp2
   go_ret
   rw [List.take_of_length_le (Nat.le_refl _)]
   exact ⟨rfl,hgr⟩
end
section
set_option maxHeartbeats 4000000
set_option maxRecDepth 100000
open Go.RowKit
variable {w : World}
theorem rl_some {vt vv : Value} {gt ct gv cv : Nat} {ts : List (Int × Int)} {vals : List Int} (hT : RowIn w vt gt ct prCell ts) (hV : VIn w vv gv cv vals) (hok : ∀ p ∈ ts,PlOk vals.length p.1) (hl : ts.length ≤ 3000) (hvn : vals.length ≤ 1000) : Calls Tryz.prog 81 #[vt,vv] w fun e w' => e = .returned (.bool (litP vals ts)) ∧ w.grownBy w' none := by
 have HT := hide hT
 have HV := hide hV
 have HOK := hide hok
 have hgt := hT.lt
 have hgv := hV.lt
 obtain ⟨R,hR⟩ : ∃ R,R = litP vals ts := ⟨_,rfl⟩
 have HR : Hid (R = litP vals ts) := hR
 rw [← hR]
 obtain rfl := hT.is
 obtain rfl := hV.is
 clear hT hV hok hR
 go_enter Tryz.func81,Tryz.ntmps81
 go_wp2
 go_loopw [9] (fun vi wr => ∃ i : Nat,i ≤ ts.length ∧ vi = .int .i64 i ∧ litP vals (ts.take i) = false ∧ w.grownBy wr none) (fun vi _ => ts.length - (intOf vi).toNat)
 case atStart => exact ⟨0,Nat.zero_le _,rfl,rfl,grown_refl _ _⟩
 case round =>
  obtain ⟨i,hi,rfl,hno,hgr⟩ := hrel
  have HNO := hide hno
  clear hno
  by_cases hlt : i < ts.length
  ·obtain ⟨a,ha⟩ : ∃ a,ts[i]? = some a := ⟨ts[i],by simp [hlt]⟩
   have hp := HOK.out a (List.mem_of_getElem? ha)
   have hR := HT.out.kept hgr (by simp)
   have hW := HV.out.kept hgr (by simp)
   have k0 : wr.cell? ⟨gt,i * 2,none⟩ = some (.int .i64 a.1) := hR.at (sz := 2) (fun _ => rfl) ha 0 _ rfl
   have k1 : wr.cell? ⟨gt,i * 2 + 1,none⟩ = some (.int .i64 a.2) := hR.at (sz := 2) (fun _ => rfl) ha 1 _ rfl
   have k2 := VIn.at_ hW hp
   have hgv' : gv < wr.heap.size := hW.lt
   have hp1 := hp.1
   have hp2 := hp.2
   have hlt3 : (i : Int) < ts.length := by omega
   have h03 : (0 : Int) ≤ i := by omega
   have HA := hide ha
   have HGR := hide hgr
   by_cases hc : vAt vals a.1 = a.2
   ·have hc' : (vAt vals a.1 == a.2) = true := by simpa using hc
    have HE : Hid (R = true) := by
     rw [Hid,HR.out]
     exact List.any_eq_true.2 ⟨a,List.mem_of_getElem? ha,by simpa using hc⟩
    obtain ⟨a1,a2⟩ := a
    simp only at *
    generalize vAt vals a1 = X at *
    clear hR hW hgr hp ha hc
    go_wp2
    go_quiet (fail)
    go_wp2
    go_ret
    rw [HE.out]
    exact ⟨rfl,(HGR.out.trans (World.grownBy_alloc _ _ _)).trans (grown_drewN' _ _ _)⟩
   ·have hc' : (vAt vals a.1 == a.2) = false := by simpa using hc
    have HE : Hid (litP vals (ts.take (i + 1)) = false) := by
     rw [Hid,List.take_add_one,ha]
     unfold litP
     rw [List.any_append]
     have h1 : ((ts.take i).any fun p => decide (vAt vals p.1 = p.2)) = false := HNO.out
     simp [h1,hc]
    obtain ⟨a1,a2⟩ := a
    simp only at *
    generalize vAt vals a1 = X at *
    clear hR hW hgr hp ha hc
    go_wp2
    go_quiet (fail)
    go_wp2
    go_roundw
    case rel => exact ⟨i + 1,by omega,by go_num,HE.out,(HGR.out.trans (World.grownBy_alloc _ _ _)).trans (grown_drewN' _ _ _)⟩
    case measure => simp [intOf];omega
  ·obtain rfl : i = ts.length := by omega
   have HE : Hid (R = false) := by
    have q := HNO.out
    rw [List.take_of_length_le (Nat.le_refl _)] at q
    rw [Hid,HR.out,q]
   go_wp2
   go_ret
   rw [HE.out]
   exact ⟨rfl,hgr⟩
theorem newP_snoc {vals vars : List Int} {i j : Nat} {u : Int} (hu : vars[j]? = some u) (v : Int) : ((vars.take (j + 1)).all fun u => decide (v ≠ vAt vals u)) = (((vars.take j).all fun u => decide (v ≠ vAt vals u)) && decide (v ≠ vAt vals u)) := by
 rw [List.take_add_one,hu,List.all_append];simp
theorem rl_diff {vt vv : Value} {gt ct gv cv : Nat} {vars : List Int} {vals : List Int} (hT : RowIn w vt gt ct inCell vars) (hcap : vars.length ≤ ct) (hV : VIn w vv gv cv vals) (hok : ∀ p ∈ vars,PlOk vals.length p) (hl : vars.length ≤ 3000) (hvn : vals.length ≤ 1000) : Calls Tryz.prog 80 #[vt,vv] w fun e w' => e = .returned (.bool (diffP vals vars)) ∧ w.grownBy w' none := by
 have HT := hide hT
 have HV := hide hV
 have HOK := hide hok
 have hgt := hT.lt
 have hgv := hV.lt
 obtain ⟨R,hR⟩ : ∃ R,R = diffP vals vars := ⟨_,rfl⟩
 have HR : Hid (R = diffP vals vars) := hR
 rw [← hR]
 obtain rfl := hT.is
 obtain rfl := hV.is
 clear hT hV hok hR
 go_enter Tryz.func80,Tryz.ntmps80
 go_wp2
 go_loopw [11] (fun vi wr => ∃ i : Nat,i ≤ vars.length ∧ vi = .int .i64 i ∧ ((List.range i).all fun i => newP vals vars i) = true ∧ w.grownBy wr none) (fun vi _ => vars.length - (intOf vi).toNat)
 case atStart => exact ⟨0,Nat.zero_le _,rfl,rfl,grown_refl _ _⟩
 case round =>
  obtain ⟨i,hi,rfl,hno,hgr⟩ := hrel
  have HNO := hide hno
  clear hno
  by_cases hlt : i < vars.length
  ·obtain ⟨a,ha⟩ : ∃ a,vars[i]? = some a := ⟨vars[i],by simp [hlt]⟩
   have k0 : wr.cell? ⟨gt,i,none⟩ = some (.int .i64 a) := by have q := (HT.out.kept hgr (by simp)).at (sz := 1) (fun _ => rfl) ha 0 _ rfl;rw [Nat.mul_one] at q;exact q
   have hp := HOK.out a (List.mem_of_getElem? ha)
   have hlt3 : (i : Int) < vars.length := by omega
   have hic : (i : Int) ≤ ct := by omega
   have h03 : (0 : Int) ≤ i := by omega
   have hga : vars.getD i 0 = a := by simp [List.getD_eq_getElem?_getD,ha]
   have HS : Hid (∃ j : Nat,j ≤ i ∧ (Value.int .i64 0) = .int .i64 j ∧ ((vars.take j).all fun u => decide (vAt vals a ≠ vAt vals u)) = true ∧ w.grownBy wr none) := ⟨0,Nat.zero_le _,rfl,rfl,hgr⟩
   have HA := hide ha
   have HGA := hide hga
   clear hgr ha hga
   go_wp2
   go_loopw [20] (fun vi wr => ∃ j : Nat,j ≤ i ∧ vi = .int .i64 j ∧ ((vars.take j).all fun u => decide (vAt vals a ≠ vAt vals u)) = true ∧ w.grownBy wr none) (fun vi _ => i - (intOf vi).toNat)
   case atStart => exact HS.out
   case round =>
    clear HS k0
    obtain ⟨j,hj,rfl,hal,hgr⟩ := hrel
    have HAL := hide hal
    have HGR := hide hgr
    clear hal
    by_cases hlt2 : j < i
    ·obtain ⟨u,hu⟩ : ∃ u,vars[j]? = some u := ⟨vars[j]'(by omega),List.getElem?_eq_getElem (by omega)⟩
     have hpu := HOK.out u (List.mem_of_getElem? hu)
     have hW := HV.out.kept hgr (by simp)
     have k0 : wr.cell? ⟨gt,j,none⟩ = some (.int .i64 u) := by have q := (HT.out.kept hgr (by simp)).at (sz := 1) (fun _ => rfl) hu 0 _ rfl;rw [Nat.mul_one] at q;exact q
     have k1 := VIn.at_ hW hp
     have k2 := VIn.at_ hW hpu
     have hp1 := hp.1
     have hp2 := hp.2
     have hq1 := hpu.1
     have hq2 := hpu.2
     have hlt4 : (j : Int) < i := by omega
     have h0j : (0 : Int) ≤ j := by omega
     have HSN := hide (newP_snoc (vals := vals) (i := i) hu (vAt vals a))
     by_cases hc : vAt vals a = vAt vals u
     ·have HE : Hid (R = false) := by
       rw [Hid,HR.out]
       unfold diffP
       rw [List.all_eq_false]
       refine ⟨i,List.mem_range.2 hlt,?_⟩
       unfold newP
       rw [HGA.out]
       rw [List.all_eq_true]
       intro hall
       have q := hall u (List.mem_take_iff_getElem.2 ⟨j,by omega,by rw [(List.getElem?_eq_some_iff.1 hu).2]⟩)
       simp [hc] at q
      have hc' : (vAt vals a == vAt vals u) = true := by simpa using hc
      clear hW hgr hc hu hp hpu
      go_wp2
      go_quiet (fail)
      go_wp2
      go_ret
      rw [HE.out]
      exact ⟨rfl,HGR.out.trans (grown_drewN' _ _ _)⟩
     ·have hc' : (vAt vals a == vAt vals u) = false := by simpa using hc
      have HE : Hid (((vars.take (j + 1)).all fun u => decide (vAt vals a ≠ vAt vals u)) = true) := by
       rw [Hid,HSN.out,HAL.out];simpa using hc
      have HGR2 := HGR
      clear hW hgr hc hu hp hpu HSN
      go_wp2
      go_quiet (fail)
      go_wp2
      go_roundw
      case rel => exact ⟨j + 1,by omega,by go_num,HE.out,HGR.out.trans (grown_drewN' _ _ _)⟩
      case measure => simp [intOf];omega
    ·obtain rfl : j = i := by omega
     have HE : Hid (((List.range (j + 1)).all fun i => newP vals vars i) = true) := by
      rw [Hid,List.range_succ,List.all_append,HNO.out]
      have q : newP vals vars j = true := by unfold newP;rw [HGA.out];exact HAL.out
      simp [q]
     clear hgr
     go_wp2
     go_roundw
     case rel => exact ⟨j + 1,by omega,by go_num,HE.out,HGR.out⟩
     case measure => simp [intOf];omega
  ·obtain rfl : i = vars.length := by omega
   have HE : Hid (R = true) := by rw [Hid,HR.out];exact HNO.out
   go_wp2
   go_ret
   rw [HE.out]
   exact ⟨rfl,hgr⟩
end
section
set_option maxHeartbeats 8000000
set_option maxRecDepth 100000
open Go.RowKit
variable {w : World}
def atP (c : QCon) (vals : List Int) : Bool := decide (1 ≤ vAt vals c.place) && decide (vAt vals c.place ≤ c.list.length) && decide (c.list.getD (vAt vals c.place - 1).toNat 0 = vAt vals c.entry)
def conP (vals : List Int) (c : QCon) : Bool :=
 if c.sort = 1 then relP c.rel (sumP vals c.terms) c.num == (vAt vals c.truth == 1)
 else if c.sort = 0 then relP c.rel (sumP vals c.terms) c.num
 else if c.sort = 2 then atP c vals
 else if c.sort = 3 then diffP vals c.vars
 else if c.sort = 4 then litP vals c.lits
 else false
structure ConIn (w : World) (b o B : Nat) (x : CRow) : Prop where
 cell : ∀ k u,x.cells[k]? = some u → w.cell? ⟨b,o + k,none⟩ = some u
 lt : b < w.heap.size
 at_ : CAt w B x
theorem ConIn.grown {w' : World} {b o B : Nat} {x : CRow} (h : ConIn w b o B x) (hg : w.grownBy w' none) : ConIn w' b o B x :=
 ⟨fun k u hu => hg.cell (h.cell k u hu) (by simp),Nat.lt_of_lt_of_le h.lt hg.size,h.at_.but ((But.refl [] w).grown hg (fun k e => by cases e)) (fun k hk => by cases hk)⟩
theorem own_cap {w : World} {B e s n g cap : Nat} {xs : List Value} (h : w.ownsRow B e s (.slice (some ⟨g,0,none⟩) n cap) n xs) : n ≤ cap := by
 rcases h.2 with ⟨e,_⟩ | ⟨g',cap',cur,e,_,_,hc,_⟩
 ·cases e
 ·injection e with e1 e2 e3
  omega
theorem rl_lin {b o B gv cv n : Nat} {x : CRow} {vv : Value} {vals : List Int} {t : Int → Prop} (h : ConIn w b o B x) (hV : VIn w vv gv cv vals) (hok : ConOk n t x.c) (hn : n = vals.length) (hvl : ∀ y ∈ vals,-1000 ≤ y ∧ y ≤ 1000) (hvn : vals.length ≤ 1000) (h0 : x.c.sort = 0) : Calls Tryz.prog 48 #[.pointer (some ⟨b,o,none⟩),vv] w fun e w' => e = .returned (.bool (conP vals x.c)) ∧ w.grownBy w' none := by
 subst hn
 have hs : x.c.sort = 0 ∨ x.c.sort = 1 := .inl h0
 have k0 : w.cell? ⟨b,o,none⟩ = some (.int .i64 0) := by have q := h.cell 0 _ rfl;rw [h0] at q;exact q
 obtain ⟨gt,ct,hT,_⟩ := RowIn.of_own h.at_.t (by cases e : x.c.terms with | nil => exact absurd e (hok.tne hs) | cons _ _ => simp)
 have k2 : w.cell? ⟨b,o + 2,none⟩ = some (.slice (some ⟨gt,0,none⟩) x.c.terms.length ct) := by have q := h.cell 2 _ rfl;rw [hT.is] at q;exact q
 have k3 : w.cell? ⟨b,o + 3,none⟩ = some (.int .i64 x.c.rel) := h.cell 3 _ rfl
 have k4 : w.cell? ⟨b,o + 4,none⟩ = some (.int .i64 x.c.num) := h.cell 4 _ rfl
 have hTV := hT.is
 have KS := Kept.mk (fun {W : World} (hg : w.grownBy W none) => rl_sum (hT.kept hg (by simp)) (hV.kept hg (by simp)) hok.terms hvl hok.tlen hvn)
 rw [hTV] at KS
 have HS3 := fun (W : World) (hg : w.grownBy W none) => And.intro (hg.cell k2 (by simp)) (And.intro (hg.cell k3 (by simp)) (hg.cell k4 (by simp)))
 have HR : Hid (conP vals x.c = relP x.c.rel (sumP vals x.c.terms) x.c.num) := by
  rw [Hid];unfold conP;rw [if_neg (by omega),if_pos h0]
 have hlt := h.lt
 obtain rfl := hV.is
 clear hs h hV hok hvl hT hTV h0
 go_enter Tryz.func48,Tryz.ntmps48
 go_wp2
 go_region_held3 (fun w' => w'.cell? ⟨b,o + 2,none⟩ = some (.slice (some ⟨gt,0,none⟩) x.c.terms.length ct) ∧ w'.cell? ⟨b,o + 3,none⟩ = some (.int .i64 x.c.rel) ∧ w'.cell? ⟨b,o + 4,none⟩ = some (.int .i64 x.c.num)) (go_keep)
  (first | (go_at_call 79;refine (KS.get (grown_drew' w none)).mono ?_;rintro e w1 ⟨rfl,hg1⟩;obtain ⟨q2,q3,q4⟩ := HS3 w1 ((grown_drew' w none).trans hg1)) | (go_at_call 78;refine (rl_holds _ _ _ _).mono ?_;rintro e w' ⟨rfl,hww⟩;subst w'))
 go_wp2
 go_ret
 rw [HR.out]
 exact ⟨rfl,(grown_drew' w none).trans hg1⟩
theorem rl_when {b o B gv cv n : Nat} {x : CRow} {vv : Value} {vals : List Int} {t : Int → Prop} (h : ConIn w b o B x) (hV : VIn w vv gv cv vals) (hok : ConOk n t x.c) (hn : n = vals.length) (hvl : ∀ y ∈ vals,-1000 ≤ y ∧ y ≤ 1000) (hvn : vals.length ≤ 1000) (h0 : x.c.sort = 1) : Calls Tryz.prog 48 #[.pointer (some ⟨b,o,none⟩),vv] w fun e w' => e = .returned (.bool (conP vals x.c)) ∧ w.grownBy w' none := by
 subst hn
 have hs : x.c.sort = 0 ∨ x.c.sort = 1 := .inr h0
 have k0 : w.cell? ⟨b,o,none⟩ = some (.int .i64 1) := by have q := h.cell 0 _ rfl;rw [h0] at q;exact q
 have k1 : w.cell? ⟨b,o + 1,none⟩ = some (.int .i64 x.c.truth) := h.cell 1 _ rfl
 have ht := (hok.truth h0).1
 have k5 := VIn.at_ hV ht
 have ht1 := ht.1
 have ht2 := ht.2
 obtain ⟨gt,ct,hT,_⟩ := RowIn.of_own h.at_.t (by cases e : x.c.terms with | nil => exact absurd e (hok.tne hs) | cons _ _ => simp)
 have k2 : w.cell? ⟨b,o + 2,none⟩ = some (.slice (some ⟨gt,0,none⟩) x.c.terms.length ct) := by have q := h.cell 2 _ rfl;rw [hT.is] at q;exact q
 have k3 : w.cell? ⟨b,o + 3,none⟩ = some (.int .i64 x.c.rel) := h.cell 3 _ rfl
 have k4 : w.cell? ⟨b,o + 4,none⟩ = some (.int .i64 x.c.num) := h.cell 4 _ rfl
 have hTV := hT.is
 have KS := Kept.mk (fun {W : World} (hg : w.grownBy W none) => rl_sum (hT.kept hg (by simp)) (hV.kept hg (by simp)) hok.terms hvl hok.tlen hvn)
 rw [hTV] at KS
 have HS3 := fun (W : World) (hg : w.grownBy W none) => And.intro (hg.cell k2 (by simp)) (And.intro (hg.cell k3 (by simp)) (hg.cell k4 (by simp)))
 have HR : Hid (conP vals x.c = (relP x.c.rel (sumP vals x.c.terms) x.c.num == (vAt vals x.c.truth == 1))) := by
  rw [Hid];unfold conP;rw [if_pos h0]
 have hlt := h.lt
 obtain rfl := hV.is
 clear hs h hV hok hvl hT hTV h0 ht
 go_enter Tryz.func48,Tryz.ntmps48
 go_wp2
 go_region_held3 (fun w' => w'.cell? ⟨b,o + 2,none⟩ = some (.slice (some ⟨gt,0,none⟩) x.c.terms.length ct) ∧ w'.cell? ⟨b,o + 3,none⟩ = some (.int .i64 x.c.rel) ∧ w'.cell? ⟨b,o + 4,none⟩ = some (.int .i64 x.c.num)) (go_keep)
  (first | (go_at_call 79;refine (KS.get (grown_drew' w none)).mono ?_;rintro e w1 ⟨rfl,hg1⟩;obtain ⟨q2,q3,q4⟩ := HS3 w1 ((grown_drew' w none).trans hg1)) | (go_at_call 78;refine (rl_holds _ _ _ _).mono ?_;rintro e w' ⟨rfl,hww⟩;subst w'))
 go_wp2
 go_ret
 rw [HR.out]
 exact ⟨rfl,(grown_drew' w none).trans hg1⟩
theorem rl_diffs {b o B gv cv n : Nat} {x : CRow} {vv : Value} {vals : List Int} {t : Int → Prop} (h : ConIn w b o B x) (hV : VIn w vv gv cv vals) (hok : ConOk n t x.c) (hn : n = vals.length) (hvn : vals.length ≤ 1000) (h0 : x.c.sort = 3) : Calls Tryz.prog 48 #[.pointer (some ⟨b,o,none⟩),vv] w fun e w' => e = .returned (.bool (conP vals x.c)) ∧ w.grownBy w' none := by
 subst hn
 have k0 : w.cell? ⟨b,o,none⟩ = some (.int .i64 3) := by have q := h.cell 0 _ rfl;rw [h0] at q;exact q
 obtain ⟨gt,ct,hT,_⟩ := RowIn.of_own h.at_.v (by cases e : x.c.vars with | nil => exact absurd e (hok.vne h0) | cons _ _ => simp)
 have k8 : w.cell? ⟨b,o + 8,none⟩ = some (.slice (some ⟨gt,0,none⟩) x.c.vars.length ct) := by have q := h.cell 8 _ rfl;rw [hT.is] at q;exact q
 have hTV := hT.is
 have hcap := h.at_.v
 rw [hTV] at hcap
 have KS := Kept.mk (rl_diff hT (own_cap hcap) hV hok.vars (by have := hok.vlen;omega) hvn)
 rw [hTV] at KS
 have HR : Hid (conP vals x.c = diffP vals x.c.vars) := by
  rw [Hid];unfold conP;rw [if_neg (by omega),if_neg (by omega),if_neg (by omega),if_pos h0]
 have hlt := h.lt
 obtain rfl := hV.is
 clear h hV hok hT hTV h0 hcap
 go_enter Tryz.func48,Tryz.ntmps48
 go_wp2_with (go_at_call 80;refine KS.get.mono ?_;rintro e w1 ⟨rfl,hg1⟩)
 go_ret
 rw [HR.out]
 exact ⟨rfl,hg1⟩
theorem rl_ors {b o B gv cv n : Nat} {x : CRow} {vv : Value} {vals : List Int} {t : Int → Prop} (h : ConIn w b o B x) (hV : VIn w vv gv cv vals) (hok : ConOk n t x.c) (hn : n = vals.length) (hvn : vals.length ≤ 1000) (h0 : x.c.sort = 4) : Calls Tryz.prog 48 #[.pointer (some ⟨b,o,none⟩),vv] w fun e w' => e = .returned (.bool (conP vals x.c)) ∧ w.grownBy w' none := by
 subst hn
 have k0 : w.cell? ⟨b,o,none⟩ = some (.int .i64 4) := by have q := h.cell 0 _ rfl;rw [h0] at q;exact q
 obtain ⟨gt,ct,hT,_⟩ := RowIn.of_own h.at_.i (by cases e : x.c.lits with | nil => exact absurd e (hok.ine h0) | cons _ _ => simp)
 have k9 : w.cell? ⟨b,o + 9,none⟩ = some (.slice (some ⟨gt,0,none⟩) x.c.lits.length ct) := by have q := h.cell 9 _ rfl;rw [hT.is] at q;exact q
 have hTV := hT.is
 have KS := Kept.mk (rl_some hT hV (fun p hp => (hok.lits p hp).1) (by have := hok.ilen;omega) hvn)
 rw [hTV] at KS
 have HR : Hid (conP vals x.c = litP vals x.c.lits) := by
  rw [Hid];unfold conP;rw [if_neg (by omega),if_neg (by omega),if_neg (by omega),if_neg (by omega),if_pos h0]
 have hlt := h.lt
 obtain rfl := hV.is
 clear h hV hok hT hTV h0
 go_enter Tryz.func48,Tryz.ntmps48
 go_wp2_with (go_at_call 81;refine KS.get.mono ?_;rintro e w1 ⟨rfl,hg1⟩)
 go_ret
 rw [HR.out]
 exact ⟨rfl,hg1⟩
theorem rl_at {b o B gv cv n : Nat} {x : CRow} {vv : Value} {vals : List Int} {t : Int → Prop} (h : ConIn w b o B x) (hV : VIn w vv gv cv vals) (hok : ConOk n t x.c) (hn : n = vals.length) (hvl : ∀ y ∈ vals,-1000 ≤ y ∧ y ≤ 1000) (hvn : vals.length ≤ 1000) (h0 : x.c.sort = 2) : Calls Tryz.prog 48 #[.pointer (some ⟨b,o,none⟩),vv] w fun e w' => e = .returned (.bool (conP vals x.c)) ∧ w.grownBy w' none := by
 subst hn
 have k0 : w.cell? ⟨b,o,none⟩ = some (.int .i64 2) := by have q := h.cell 0 _ rfl;rw [h0] at q;exact q
 have k6 : w.cell? ⟨b,o + 6,none⟩ = some (.int .i64 x.c.place) := h.cell 6 _ rfl
 have k7 : w.cell? ⟨b,o + 7,none⟩ = some (.int .i64 x.c.entry) := h.cell 7 _ rfl
 obtain ⟨hp,he⟩ := hok.place h0
 have v1 := VIn.at_ hV hp
 have v2 := VIn.at_ hV he
 have hp1 := hp.1
 have hp2 := hp.2
 have he1 := he.1
 have he2 := he.2
 have hb := vAt_bd hvl x.c.place
 have hb1 := hb.1
 have hb2 := hb.2
 have hll := hok.llen
 obtain ⟨la,lc,hla⟩ := own_slice_n h.at_.l
 have k5 : w.cell? ⟨b,o + 5,none⟩ = some (.slice la x.c.list.length lc) := by have q := h.cell 5 _ rfl;rw [hla] at q;exact q
 have HR : Hid (conP vals x.c = atP x.c vals) := by
  rw [Hid];unfold conP;rw [if_neg (by omega),if_neg (by omega),if_pos h0]
 have hlt := h.lt
 have HL := hide h.at_.l
 have HLA := hide hla
 obtain rfl := hV.is
 clear h hV hok hvl h0 hp he hb hla
 by_cases c1 : 1 ≤ vAt vals x.c.place
 ·by_cases c2 : vAt vals x.c.place ≤ x.c.list.length
  ·obtain ⟨I,hI⟩ : ∃ I : Nat,vAt vals x.c.place = (I : Int) + 1 := ⟨(vAt vals x.c.place - 1).toNat,by omega⟩
   have hIl : I < x.c.list.length := by omega
   obtain ⟨y,hy⟩ : ∃ y,x.c.list[I]? = some y := ⟨x.c.list[I],List.getElem?_eq_getElem hIl⟩
   obtain ⟨gl,cl,hRL,_⟩ := RowIn.of_own HL.out (by omega)
   have el : la = some ⟨gl,0,none⟩ := by
    have q := hRL.is
    rw [HLA.out] at q
    injection q with q1 q2 q3
   subst el
   have kl : w.cell? ⟨gl,I,none⟩ = some (.int .i64 y) := by have q := hRL.at (sz := 1) (fun _ => rfl) hy 0 _ rfl;rw [Nat.mul_one] at q;exact q
   have HA : Hid (atP x.c vals = (y == vAt vals x.c.entry)) := by
    have e1 : (vAt vals x.c.place - 1).toNat = I := by omega
    rw [Hid];unfold atP
    rw [decide_eq_true c1,decide_eq_true c2,e1,List.getD_eq_getElem?_getD,hy]
    rfl
   have c1' : (1 : Int) ≤ (I : Int) + 1 := by omega
   have c2' : (I : Int) + 1 ≤ x.c.list.length := by omega
   have hI0 : (0 : Int) ≤ I := by omega
   have hI1 : (I : Int) < x.c.list.length := by omega
   have eI : (I : Int) + 1 - 1 = I := by omega
   rw [hI] at v1
   clear hRL hy c1 c2 hb1 hb2 HL
   generalize vAt vals x.c.place = PV at *
   clear hI
   go_enter Tryz.func48,Tryz.ntmps48
   go_wp2
   go_quiet (fail)
   go_wp2
   go_ret
   rw [HR.out,HA.out]
   exact ⟨rfl,grown_drewN' _ _ _⟩
  ·have c2' : decide (vAt vals x.c.place ≤ (x.c.list.length : Int)) = false := by simpa using c2
   have HA : Hid (atP x.c vals = false) := by rw [Hid];unfold atP;simp [c2]
   generalize vAt vals x.c.place = PV at *
   clear c2
   go_enter Tryz.func48,Tryz.ntmps48
   go_wp2
   go_quiet (fail)
   go_wp2
   go_ret
   rw [HR.out,HA.out]
   exact ⟨rfl,grown_drewN' _ _ _⟩
 ·have c1' : decide ((1 : Int) ≤ vAt vals x.c.place) = false := by simpa using c1
  have HA : Hid (atP x.c vals = false) := by rw [Hid];unfold atP;simp [c1]
  generalize vAt vals x.c.place = PV at *
  clear c1
  go_enter Tryz.func48,Tryz.ntmps48
  go_wp2
  go_quiet (fail)
  go_wp2
  go_ret
  rw [HR.out,HA.out]
  exact ⟨rfl,grown_drewN' _ _ _⟩
theorem rl_Suits {b o B gv cv n : Nat} {x : CRow} {vv : Value} {vals : List Int} {t : Int → Prop} (h : ConIn w b o B x) (hV : VIn w vv gv cv vals) (hok : ConOk n t x.c) (hn : n = vals.length) (hvl : ∀ y ∈ vals,-1000 ≤ y ∧ y ≤ 1000) (hvn : vals.length ≤ 1000) : Calls Tryz.prog 48 #[.pointer (some ⟨b,o,none⟩),vv] w fun e w' => e = .returned (.bool (conP vals x.c)) ∧ w.grownBy w' none := by
 rcases hok.sort with e | e | e | e | e
 ·exact rl_lin h hV hok hn hvl hvn e
 ·exact rl_when h hV hok hn hvl hvn e
 ·exact rl_at h hV hok hn hvl hvn e
 ·exact rl_diffs h hV hok hn hvn e
 ·exact rl_ors h hV hok hn hvn e
end
end Go.Proofs.YthpcbbnabnlanaaGreatDoor
