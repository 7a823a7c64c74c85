import Derived.Test.YthpcbbnabnlanaaGreatDoorM02
import Derived.Test.YthpcbbnabnlanaaGreatDoorM11
import Derived.Test.YthpcbbnabnlanaaGreatDoorM12
import Derived.Test.YthpcbbnabnlanaaGreatDoorM13
import Derived.Test.YthpcbbnabnlanaaGreatDoorM15
namespace Go.Proofs.YthpcbbnabnlanaaGreatDoor
set_option linter.unusedVariables false
set_option linter.unusedSimpArgs false
section
variable {toks T : List PTok} {i : Nat}
def Ahead (toks : List PTok) (i : Nat) (T : List PTok) : Prop := toks.drop i = T
theorem Ahead.tk {t : PTok} (h : Ahead toks i (t :: T)) : tkN toks i = t := by
 unfold tkN
 have : toks[i]? = some t := by
  have q := congrArg (fun l => l[0]?) h
  simpa using q
 rw [List.getD_eq_getElem?_getD,this];rfl
theorem Ahead.next {t : PTok} (h : Ahead toks i (t :: T)) : Ahead toks (i + 1) T := by
 unfold Ahead at *
 rw [← List.tail_drop,h];rfl
theorem Ahead.app {A : List PTok} (h : Ahead toks i (A ++ T)) : Ahead toks (i + A.length) T := by
 unfold Ahead at *
 rw [← List.drop_drop,h,List.drop_left]
theorem Ahead.take {t : PTok} (h : Ahead toks i (t :: T)) {sorts : List Int} (hs : sorts.contains (srt t) = true) : pTake toks sorts (i,0) = (i + 1,0) := by
 unfold pTake
 simp only [h.tk,hs,if_true]
theorem Ahead.sees {t : PTok} (h : Ahead toks i (t :: T)) (k : Int) : pSees toks k (i,0) = (srt t == k) := by
 unfold pSees
 simp only [h.tk]
 rfl
def TmIs (L : List PTok) (neg : Bool) (t : GTerm) : Prop := (∃ nm,L = [nm] ∧ srt nm = 2 ∧ t = ⟨neg,nm,nm⟩) ∨ ∃ m st nm,L = [m,st,nm] ∧ srt m = 3 ∧ srt st = 21 ∧ srt nm = 2 ∧ t = ⟨neg,m,nm⟩
theorem TmIs.run {L : List PTok} {neg : Bool} {t : GTerm} (h : TmIs L neg t) (ha : Ahead toks i (L ++ T)) : pTerm toks neg (i,0) = (t,(i + L.length,0)) := by
 rcases h with ⟨nm,rfl,h1,rfl⟩ | ⟨m,st,nm,rfl,h1,h2,h3,rfl⟩
 ·unfold pTerm
  have e := ha.tk
  simp only [e,h1]
  rw [if_neg (by decide),ha.take (by simp [h1])]
  rfl
 ·unfold pTerm
  have e := ha.tk
  have a1 := ha.next
  have a2 := a1.next
  simp only [e,h1,if_true,ha.take (sorts := [3,2]) (by simp [h1]),a1.take (sorts := [21]) (by simp [h2]),a2.take (sorts := [2]) (by simp [h3]),a2.tk]
  rfl
def SumIs : List PTok → List GTerm → Prop
 | R,[] => R = []
 | R,t :: ts => ∃ (op : PTok) (L R' : List PTok),R = op :: (L ++ R') ∧ (srt op = 20 ∨ srt op = 23) ∧ TmIs L (srt op == 23) t ∧ SumIs R' ts
theorem SumIs.nil : SumIs [] [] := rfl
theorem SumIs.cons {op : PTok} {L R : List PTok} {t : GTerm} {ts : List GTerm} (h1 : srt op = 20 ∨ srt op = 23) (h2 : TmIs L (srt op == 23) t) (h3 : SumIs R ts) : SumIs (op :: (L ++ R)) (t :: ts) := ⟨op,L,R,rfl,h1,h2,h3⟩
theorem SumIs.len : ∀ {ts : List GTerm} {R : List PTok},SumIs R ts → ts.length ≤ R.length
 | [],R,h => by simp
 | t :: ts,R,h => by
  obtain ⟨op,L,R',rfl,_,_,h3⟩ := h
  have := SumIs.len h3
  simp;omega
theorem SumIs.run : ∀ {ts : List GTerm} {R : List PTok},SumIs R ts → ∀ (f i : Nat) (acc : List GTerm) (x : PTok) (T : List PTok),ts.length ≤ f → Ahead toks i (R ++ x :: T) → srt x ≠ 20 → srt x ≠ 23 → sumF toks f acc (i,0) = (acc ++ ts,(i + R.length,0))
 | [],R,h => by
  intro f i acc x T hf ha h1 h2
  have h : R = [] := h
  subst h
  cases f with
  | zero => simp [sumF]
  | succ f =>
   simp only [sumF]
   rw [Ahead.sees ha,Ahead.sees ha,if_neg (by simp [h1,h2])]
   simp
 | t :: ts,R,h => by
  intro f i acc x T hf ha h1 h2
  obtain ⟨op,L,R,rfl,hop,ht,hs⟩ := h
  cases f with
  | zero => simp at hf
  | succ f =>
   have ha' : Ahead toks i (op :: (L ++ (R ++ x :: T))) := by simpa [List.append_assoc] using ha
   simp only [sumF]
   rw [Ahead.sees ha',Ahead.sees ha',if_pos (by rcases hop with e | e <;> simp [e]),ha'.take (by rcases hop with e | e <;> simp [e]),ha'.tk,ht.run ha'.next,SumIs.run hs f _ _ x T (by simpa using hf) ha'.next.app h1 h2]
   simp [Nat.add_assoc,Nat.add_comm,Nat.add_left_comm]
theorem sum_run {L R : List PTok} {t : GTerm} {ts : List GTerm} {x : PTok} (ht : TmIs L false t) (hs : SumIs R ts) (ha : Ahead toks i (L ++ (R ++ x :: T))) (h1 : srt x ≠ 20) (h2 : srt x ≠ 23) : pSum toks (i,0) = (t :: ts,(i + L.length + R.length,0)) := by
 unfold pSum
 have hl : ts.length ≤ toks.length := by
  have q := congrArg List.length ha
  have := hs.len
  simp at q;omega
 rw [ht.run ha,hs.run _ _ _ x T hl ha.app h1 h2]
 rfl
def SerIs {α : Type} (E : List PTok → α → Prop) : List PTok → List α → Prop
 | R,[] => R = []
 | R,a :: rs => ∃ (c : PTok) (L R' : List PTok),R = c :: (L ++ R') ∧ srt c = 13 ∧ E L a ∧ SerIs E R' rs
theorem SerIs.nil {α : Type} {E : List PTok → α → Prop} : SerIs E [] [] := rfl
theorem SerIs.cons {α : Type} {E : List PTok → α → Prop} {c : PTok} {L R : List PTok} {a : α} {rs : List α} (h1 : srt c = 13) (h2 : E L a) (h3 : SerIs E R rs) : SerIs E (c :: (L ++ R)) (a :: rs) := ⟨c,L,R,rfl,h1,h2,h3⟩
theorem SerIs.len {α : Type} {E : List PTok → α → Prop} : ∀ {rs : List α} {R : List PTok},SerIs E R rs → rs.length ≤ R.length
 | [],R,h => by simp
 | a :: rs,R,h => by
  obtain ⟨c,L,R',rfl,_,_,h3⟩ := h
  have := SerIs.len h3
  simp;omega
theorem SerIs.run {α : Type} {E : List PTok → α → Prop} {one : PSt → α × PSt} (hone : ∀ L a i T,E L a → Ahead toks i (L ++ T) → one (i,0) = (a,(i + L.length,0))) : ∀ {rs : List α} {R : List PTok},SerIs E R rs → ∀ (f i : Nat) (acc : List α) (x : PTok) (T : List PTok),rs.length ≤ f → Ahead toks i (R ++ x :: T) → srt x ≠ 13 → serF toks one f acc (i,0) = (acc ++ rs,(i + R.length,0))
 | [],R,h => by
  intro f i acc x T hf ha h1
  have h : R = [] := h
  subst h
  cases f with
  | zero => simp [serF]
  | succ f =>
   simp only [serF]
   rw [Ahead.sees ha,if_neg (by simp [h1])]
   simp
 | a :: rs,R,h => by
  intro f i acc x T hf ha h1
  obtain ⟨c,L,R,rfl,hc,he,hs⟩ := h
  cases f with
  | zero => simp at hf
  | succ f =>
   have ha' : Ahead toks i (c :: (L ++ (R ++ x :: T))) := by simpa [List.append_assoc] using ha
   simp only [serF]
   rw [Ahead.sees ha',if_pos (by simp [hc]),ha'.take (by simp [hc]),hone L a _ _ he ha'.next,SerIs.run hone hs f _ _ x T (by simpa using hf) ha'.next.app h1]
   simp [Nat.add_assoc,Nat.add_comm,Nat.add_left_comm]
theorem ser_run {α : Type} {E : List PTok → α → Prop} {one : PSt → α × PSt} (hone : ∀ L a i T,E L a → Ahead toks i (L ++ T) → one (i,0) = (a,(i + L.length,0))) {L R : List PTok} {a : α} {rs : List α} {x : PTok} (he : E L a) (hs : SerIs E R rs) (ha : Ahead toks i (L ++ (R ++ x :: T))) (h1 : srt x ≠ 13) : pSer toks one (i,0) = (a :: rs,(i + L.length + R.length,0)) := by
 unfold pSer
 have hl : rs.length ≤ toks.length := by
  have q := congrArg List.length ha
  have := hs.len
  simp at q;omega
 rw [hone L a _ _ he ha,hs.run hone _ _ _ x T hl ha.app h1]
 rfl
def TkIs (s : Int) (L : List PTok) (t : PTok) : Prop := L = [t] ∧ srt t = s
theorem TkIs.run {s : Int} : ∀ L a i T,TkIs s L a → Ahead toks i (L ++ T) → pTok toks s (i,0) = (a,(i + L.length,0)) := by
 rintro L a i T ⟨rfl,h⟩ ha
 unfold pTok
 rw [Ahead.tk ha,Ahead.take ha (by simp [h])]
 rfl
def LtIs (L : List PTok) (t : GLit) : Prop := (∃ nm,L = [nm] ∧ srt nm = 2 ∧ t = ⟨nm,nm⟩) ∨ ∃ b nm,L = [b,nm] ∧ srt b = 22 ∧ srt nm = 2 ∧ t = ⟨b,nm⟩
theorem LtIs.run : ∀ L a i T,LtIs L a → Ahead toks i (L ++ T) → pLit toks (i,0) = (a,(i + L.length,0)) := by
 rintro L a i T (⟨nm,rfl,h1,rfl⟩ | ⟨b,nm,rfl,h1,h2,rfl⟩) ha
 ·unfold pLit
  have e := Ahead.tk ha
  simp only [e,h1]
  rw [if_neg (by decide),Ahead.take ha (by simp [h1])]
  rfl
 ·unfold pLit
  have e := Ahead.tk ha
  have a1 := Ahead.next ha
  simp only [e,h1,if_true,Ahead.take ha (sorts := [22,2]) (by simp [h1]),a1.take (sorts := [2]) (by simp [h2]),a1.tk]
  rfl
def StVar (L : List PTok) (g : GSt) : Prop := ∃ kw nm c lo d hi : PTok,L = [kw,nm,c,lo,d,hi] ∧ g = { kw := kw,name := nm,numbers := [lo,hi] } ∧ srt kw = 4 ∧ srt nm = 2 ∧ srt c = 12 ∧ srt lo = 3 ∧ srt d = 17 ∧ srt hi = 3
def StList (L : List PTok) (g : GSt) : Prop := ∃ (kw nm e o c : PTok) (L1 R : List PTok) (a : PTok) (rs : List PTok),L = kw :: nm :: e :: o :: (L1 ++ (R ++ [c])) ∧ g = { kw := kw,name := nm,numbers := a :: rs } ∧ srt kw = 5 ∧ srt nm = 2 ∧ srt e = 14 ∧ srt o = 18 ∧ TkIs 3 L1 a ∧ SerIs (TkIs 3) R rs ∧ srt c = 19
def StLin (L : List PTok) (g : GSt) : Prop := ∃ (kw rel m : PTok) (L1 R : List PTok) (t : GTerm) (ts : List GTerm),L = kw :: (L1 ++ (R ++ [rel,m])) ∧ g = { kw := kw,terms := t :: ts,rel := rel,numbers := [m] } ∧ srt kw = 6 ∧ TmIs L1 false t ∧ SumIs R ts ∧ (srt rel = 14 ∨ srt rel = 15 ∨ srt rel = 16) ∧ srt m = 3
def StWhen (L : List PTok) (g : GSt) : Prop := ∃ (kw nm c rel m : PTok) (L1 R : List PTok) (t : GTerm) (ts : List GTerm),L = kw :: nm :: c :: (L1 ++ (R ++ [rel,m])) ∧ g = { kw := kw,name := nm,terms := t :: ts,rel := rel,numbers := [m] } ∧ srt kw = 7 ∧ srt nm = 2 ∧ srt c = 12 ∧ TmIs L1 false t ∧ SumIs R ts ∧ (srt rel = 14 ∨ srt rel = 15 ∨ srt rel = 16) ∧ srt m = 3
def StAt (L : List PTok) (g : GSt) : Prop := ∃ kw nm o p c e v : PTok,L = [kw,nm,o,p,c,e,v] ∧ g = { kw := kw,name := nm,names := [p,v] } ∧ srt kw = 8 ∧ srt nm = 2 ∧ srt o = 18 ∧ srt p = 2 ∧ srt c = 19 ∧ srt e = 14 ∧ srt v = 2
def StDiff (L : List PTok) (g : GSt) : Prop := ∃ (kw : PTok) (L1 R : List PTok) (a : PTok) (rs : List PTok),L = kw :: (L1 ++ R) ∧ g = { kw := kw,names := a :: rs } ∧ srt kw = 9 ∧ TkIs 2 L1 a ∧ SerIs (TkIs 2) R rs
def StOr (L : List PTok) (g : GSt) : Prop := ∃ (kw : PTok) (L1 R : List PTok) (a : GLit) (rs : List GLit),L = kw :: (L1 ++ R) ∧ g = { kw := kw,lits := a :: rs } ∧ srt kw = 10 ∧ LtIs L1 a ∧ SerIs LtIs R rs
def StIs (L : List PTok) (g : GSt) : Prop := StVar L g ∨ StList L g ∨ StLin L g ∨ StWhen L g ∨ StAt L g ∨ StDiff L g ∨ StOr L g
theorem StIs.var {kw nm c lo d hi : PTok} (h1 : srt kw = 4) (h2 : srt nm = 2) (h3 : srt c = 12) (h4 : srt lo = 3) (h5 : srt d = 17) (h6 : srt hi = 3) : StIs [kw,nm,c,lo,d,hi] { kw := kw,name := nm,numbers := [lo,hi] } := .inl ⟨_,_,_,_,_,_,rfl,rfl,h1,h2,h3,h4,h5,h6⟩
theorem StIs.list {kw nm e o c : PTok} {L R : List PTok} {a : PTok} {rs : List PTok} (h1 : srt kw = 5) (h2 : srt nm = 2) (h3 : srt e = 14) (h4 : srt o = 18) (h5 : TkIs 3 L a) (h6 : SerIs (TkIs 3) R rs) (h7 : srt c = 19) : StIs (kw :: nm :: e :: o :: (L ++ (R ++ [c]))) { kw := kw,name := nm,numbers := a :: rs } := .inr (.inl ⟨_,_,_,_,_,_,_,_,_,rfl,rfl,h1,h2,h3,h4,h5,h6,h7⟩)
theorem StIs.lin {kw rel m : PTok} {L R : List PTok} {t : GTerm} {ts : List GTerm} (h1 : srt kw = 6) (h2 : TmIs L false t) (h3 : SumIs R ts) (h4 : srt rel = 14 ∨ srt rel = 15 ∨ srt rel = 16) (h5 : srt m = 3) : StIs (kw :: (L ++ (R ++ [rel,m]))) { kw := kw,terms := t :: ts,rel := rel,numbers := [m] } := .inr (.inr (.inl ⟨_,_,_,_,_,_,_,rfl,rfl,h1,h2,h3,h4,h5⟩))
theorem StIs.when {kw nm c rel m : PTok} {L R : List PTok} {t : GTerm} {ts : List GTerm} (h1 : srt kw = 7) (h2 : srt nm = 2) (h3 : srt c = 12) (h4 : TmIs L false t) (h5 : SumIs R ts) (h6 : srt rel = 14 ∨ srt rel = 15 ∨ srt rel = 16) (h7 : srt m = 3) : StIs (kw :: nm :: c :: (L ++ (R ++ [rel,m]))) { kw := kw,name := nm,terms := t :: ts,rel := rel,numbers := [m] } := .inr (.inr (.inr (.inl ⟨_,_,_,_,_,_,_,_,_,rfl,rfl,h1,h2,h3,h4,h5,h6,h7⟩)))
theorem StIs.at_ {kw nm o p c e v : PTok} (h1 : srt kw = 8) (h2 : srt nm = 2) (h3 : srt o = 18) (h4 : srt p = 2) (h5 : srt c = 19) (h6 : srt e = 14) (h7 : srt v = 2) : StIs [kw,nm,o,p,c,e,v] { kw := kw,name := nm,names := [p,v] } := .inr (.inr (.inr (.inr (.inl ⟨_,_,_,_,_,_,_,rfl,rfl,h1,h2,h3,h4,h5,h6,h7⟩))))
theorem StIs.diff {kw : PTok} {L R : List PTok} {a : PTok} {rs : List PTok} (h1 : srt kw = 9) (h2 : TkIs 2 L a) (h3 : SerIs (TkIs 2) R rs) : StIs (kw :: (L ++ R)) { kw := kw,names := a :: rs } := .inr (.inr (.inr (.inr (.inr (.inl ⟨_,_,_,_,_,rfl,rfl,h1,h2,h3⟩)))))
theorem StIs.or {kw : PTok} {L R : List PTok} {a : GLit} {rs : List GLit} (h1 : srt kw = 10) (h2 : LtIs L a) (h3 : SerIs LtIs R rs) : StIs (kw :: (L ++ R)) { kw := kw,lits := a :: rs } := .inr (.inr (.inr (.inr (.inr (.inr ⟨_,_,_,_,_,rfl,rfl,h1,h2,h3⟩)))))
theorem lin_run {s : GSt} {rel m : PTok} {L R : List PTok} {t : GTerm} {ts : List GTerm} (ht : TmIs L false t) (hs : SumIs R ts) (hr : srt rel = 14 ∨ srt rel = 15 ∨ srt rel = 16) (hm : srt m = 3) (ha : Ahead toks i (L ++ (R ++ rel :: m :: T))) : pLin toks s (i,0) = ({ s with terms := t :: ts,rel := rel,numbers := [m] },(i + L.length + R.length + 2,0)) := by
 have h1 : srt rel ≠ 20 := by rcases hr with e | e | e <;> rw [e] <;> decide
 have h2 : srt rel ≠ 23 := by rcases hr with e | e | e <;> rw [e] <;> decide
 have h3 : ([14,15,16] : List Int).contains (srt rel) = true := by rcases hr with e | e | e <;> rw [e] <;> decide
 have a1 := ha.app.app
 have a2 := a1.next
 unfold pLin
 simp only [sum_run ht hs ha h1 h2,a1.take h3,a1.tk,a2.tk,a2.take (sorts := [3]) (by simp [hm])]
theorem StIs.run {L : List PTok} {g : GSt} (h : StIs L g) {x : PTok} (ha : Ahead toks i (L ++ x :: T)) (hx : srt x = 11) : pStmt toks (i,0) = (g,(i + L.length,0)) := by
 rcases h with ⟨kw,nm,c,lo,d,hi,rfl,rfl,h1,h2,h3,h4,h5,h6⟩ | ⟨kw,nm,e,o,c,L,R,a,rs,rfl,rfl,h1,h2,h3,h4,h5,h6,h7⟩ | ⟨kw,rel,m,L,R,t,ts,rfl,rfl,h1,h2,h3,h4,h5⟩ | ⟨kw,nm,c,rel,m,L,R,t,ts,rfl,rfl,h1,h2,h3,h4,h5,h6,h7⟩ | ⟨kw,nm,o,p,c,e,v,rfl,rfl,h1,h2,h3,h4,h5,h6,h7⟩ | ⟨kw,L,R,a,rs,rfl,rfl,h1,h2,h3⟩ | ⟨kw,L,R,a,rs,rfl,rfl,h1,h2,h3⟩
 ·
  have a1 := Ahead.next ha
  have a2 := a1.next
  have a3 := a2.next
  have a4 := a3.next
  have a5 := a4.next
  unfold pStmt
  simp only [Ahead.tk ha,h1,Ahead.take ha (sorts := kwSorts) (by rw [h1];decide),a1.tk,a1.take (sorts := [2]) (by simp [h2]),a2.take (sorts := [12]) (by simp [h3]),a3.tk,a3.take (sorts := [3]) (by simp [h4]),a4.take (sorts := [17]) (by simp [h5]),a5.tk,a5.take (sorts := [3]) (by simp [h6]),if_true]
  rfl
 ·
  have ha : Ahead toks i (kw :: nm :: e :: o :: (L ++ (R ++ c :: x :: T))) := by simpa [List.append_assoc] using ha
  have a1 := ha.next
  have a2 := a1.next
  have a3 := a2.next
  have a4 := a3.next
  have r := ser_run (TkIs.run (s := 3)) h5 h6 a4 (by rw [h7];decide)
  unfold pStmt
  simp only [ha.tk,h1,ha.take (sorts := kwSorts) (by rw [h1];decide),a1.tk,a1.take (sorts := [2]) (by simp [h2]),a2.take (sorts := [14]) (by simp [h3]),a3.take (sorts := [18]) (by simp [h4]),r,a4.app.app.take (sorts := [19]) (by simp [h7])]
  simp [Nat.add_assoc,Nat.add_comm,Nat.add_left_comm]
 ·
  have ha : Ahead toks i (kw :: (L ++ (R ++ rel :: m :: x :: T))) := by simpa [List.append_assoc] using ha
  unfold pStmt
  simp only [ha.tk,h1,ha.take (sorts := kwSorts) (by rw [h1];decide),lin_run h2 h3 h4 h5 ha.next]
  simp [Nat.add_assoc,Nat.add_comm,Nat.add_left_comm]
 ·
  have ha : Ahead toks i (kw :: nm :: c :: (L ++ (R ++ rel :: m :: x :: T))) := by simpa [List.append_assoc] using ha
  have a1 := ha.next
  have a2 := a1.next
  unfold pStmt
  simp only [ha.tk,h1,ha.take (sorts := kwSorts) (by rw [h1];decide),a1.tk,a1.take (sorts := [2]) (by simp [h2]),a2.take (sorts := [12]) (by simp [h3]),lin_run h4 h5 h6 h7 a2.next]
  simp [Nat.add_assoc,Nat.add_comm,Nat.add_left_comm]
 ·
  have a1 := Ahead.next ha
  have a2 := a1.next
  have a3 := a2.next
  have a4 := a3.next
  have a5 := a4.next
  have a6 := a5.next
  unfold pStmt
  simp only [Ahead.tk ha,h1,Ahead.take ha (sorts := kwSorts) (by rw [h1];decide),a1.tk,a1.take (sorts := [2]) (by simp [h2]),a2.take (sorts := [18]) (by simp [h3]),a3.tk,a3.take (sorts := [2]) (by simp [h4]),a4.take (sorts := [19]) (by simp [h5]),a5.take (sorts := [14]) (by simp [h6]),a6.tk,a6.take (sorts := [2]) (by simp [h7])]
  rfl
 ·
  have ha : Ahead toks i (kw :: (L ++ (R ++ x :: T))) := by simpa [List.append_assoc] using ha
  have r := ser_run (TkIs.run (s := 2)) h2 h3 ha.next (by rw [hx];decide)
  unfold pStmt
  simp only [ha.tk,h1,ha.take (sorts := kwSorts) (by rw [h1];decide),r]
  simp [Nat.add_assoc,Nat.add_comm,Nat.add_left_comm]
 ·
  have ha : Ahead toks i (kw :: (L ++ (R ++ x :: T))) := by simpa [List.append_assoc] using ha
  have r := ser_run LtIs.run h2 h3 ha.next (by rw [hx];decide)
  unfold pStmt
  simp only [ha.tk,h1,ha.take (sorts := kwSorts) (by rw [h1];decide),r]
  simp [Nat.add_assoc,Nat.add_comm,Nat.add_left_comm]
theorem StIs.kw {L : List PTok} {g : GSt} (h : StIs L g) : ∃ k R,L = k :: R ∧ srt k ≠ 1 := by
 rcases h with ⟨kw,nm,c,lo,d,hi,rfl,rfl,h1,_⟩ | ⟨kw,nm,e,o,c,L,R,a,rs,rfl,rfl,h1,_⟩ | ⟨kw,rel,m,L,R,t,ts,rfl,rfl,h1,_⟩ | ⟨kw,nm,c,rel,m,L,R,t,ts,rfl,rfl,h1,_⟩ | ⟨kw,nm,o,p,c,e,v,rfl,rfl,h1,_⟩ | ⟨kw,L,R,a,rs,rfl,rfl,h1,_⟩ | ⟨kw,L,R,a,rs,rfl,rfl,h1,_⟩
 all_goals exact ⟨_,_,rfl,by rw [h1];decide⟩
def PrIs : List PTok → List GSt → Prop
 | R,[] => R = []
 | R,g :: gs => ∃ (L R' : List PTok) (x : PTok),R = L ++ x :: R' ∧ StIs L g ∧ srt x = 11 ∧ PrIs R' gs
theorem PrIs.nil : PrIs [] [] := rfl
theorem PrIs.cons {L R : List PTok} {x : PTok} {g : GSt} {gs : List GSt} (h1 : StIs L g) (h2 : srt x = 11) (h3 : PrIs R gs) : PrIs (L ++ x :: R) (g :: gs) := ⟨L,R,x,rfl,h1,h2,h3⟩
theorem PrIs.len : ∀ {gs : List GSt} {R : List PTok},PrIs R gs → gs.length ≤ R.length
 | [],R,h => by simp
 | g :: gs,R,h => by
  obtain ⟨L,R',x,rfl,_,_,h3⟩ := h
  have := PrIs.len h3
  simp;omega
theorem PrIs.run : ∀ {gs : List GSt} {R : List PTok},PrIs R gs → ∀ (f i : Nat) (acc : List GSt) (x : PTok),gs.length < f → Ahead toks i (R ++ [x]) → srt x = 1 → parseF toks f acc (i,0) = (acc ++ gs,(i + R.length,0))
 | [],R,h => by
  intro f i acc x hf ha hx
  have h : R = [] := h
  subst h
  cases f with
  | zero => simp at hf
  | succ f =>
   simp only [parseF]
   rw [if_neg (by rw [Ahead.tk ha];exact fun q => q.2 hx)]
   simp
 | g :: gs,R,h => by
  intro f i acc x hf ha hx
  obtain ⟨L,R,y,rfl,h1,h2,h3⟩ := h
  cases f with
  | zero => simp at hf
  | succ f =>
   have ha : Ahead toks i (L ++ y :: (R ++ [x])) := by simpa [List.append_assoc] using ha
   obtain ⟨k,L',rfl,hk⟩ := h1.kw
   have e : tkN toks i = k := Ahead.tk ha
   simp only [parseF]
   rw [if_pos ⟨trivial,by rw [e];exact hk⟩,h1.run ha h2,ha.app.take (by simp [h2]),PrIs.run h3 f _ _ x (by simpa using hf) ha.app.next hx]
   simp [Nat.add_assoc,Nat.add_comm,Nat.add_left_comm]
theorem parse_run {R : List PTok} {gs : List GSt} (h : PrIs R gs) {x : PTok} (hx : srt x = 1) : pParse (R ++ [x]) = (gs,(R.length,0)) := by
 unfold pParse
 have := h.len
 rw [h.run (toks := R ++ [x]) _ 0 [] x (by simp;omega) (by simp [Ahead]) hx]
 simp
end
section
def bn (t : List UInt8) : ByteArray := ⟨t.toArray⟩
theorem bn_data (t : List UInt8) : (bn t).data.toList = t := rfl
theorem bn_inj {a b : List UInt8} : bn a = bn b ↔ a = b := ⟨fun h => by have := congrArg (fun s => s.data.toList) h;simpa [bn] using this,fun h => by rw [h]⟩
def tkN' (t : List UInt8) (line : Nat) : PTok := mkTok t 110 line
def tkI (m : Int) (line : Nat) : PTok := mkTok (Lib.itoa m) 105 line
def tkS (t : List UInt8) (line : Nat) : PTok := mkTok t 115 line
def tkW (t : List UInt8) (line : Nat) : PTok := mkTok t 107 line
theorem srt_N {t : List UInt8} (h : kwL t = false) (line : Nat) : srt (tkN' t line) = 2 := by
 unfold srt tkN' mkTok kwSort
 simp only [ba_toList]
 simp only [kwL,Bool.or_eq_false_iff] at h
 obtain ⟨⟨⟨⟨⟨⟨h1,h2⟩,h3⟩,h4⟩,h5⟩,h6⟩,h7⟩ := h
 simp [h1,h2,h3,h4,h5,h6,h7]
theorem srt_I (m : Int) (line : Nat) : srt (tkI m line) = 3 := rfl
theorem srt_S (t : List UInt8) (line : Nat) : srt (tkS t line) = (if t == [59] then 11 else if t == [58] then 12 else if t == [44] then 13 else if t == [61] then 14 else if t == [33,61] then 15
 else if t == [60,61] then 16 else if t == [46,46] then 17 else if t == [91] then 18 else if t == [93] then 19 else if t == [43] then 20
 else if t == [42] then 21 else if t == [33] then 22 else if t == [45] then 23 else 0) := by
 unfold srt tkS mkTok sgSort
 simp only [ba_toList]
 rfl
theorem srt_W (t : List UInt8) (line : Nat) : srt (tkW t line) = (if t == [118,97,114] then 4 else if t == [108,105,115,116] then 5 else if t == [108,105,110] then 6 else if t == [119,104,101,110] then 7
 else if t == [97,116] then 8 else if t == [100,105,102,102] then 9 else if t == [111,114] then 10 else 2) := by
 unfold srt tkW mkTok kwSort
 simp only [ba_toList]
 rfl
theorem numTo_app (a b : List UInt8) : ∀ i,i ≤ a.length → numTo (bn (a ++ b)) i = numTo (bn a) i
 | 0,_ => rfl
 | i + 1,h => by
  have e : bAt (bn (a ++ b)) i = bAt (bn a) i := by
   rw [bAt_hd,bAt_hd,bn_data,bn_data,List.drop_append_of_le_length (by omega),List.drop_eq_getElem_cons (by omega)]
   rfl
  simp only [numTo]
  rw [e,numTo_app a b i (by omega)]
theorem bn_size (t : List UInt8) : (bn t).size = t.length := by rw [ba_len,bn_data]
theorem numTo_dec (u : Nat) : numTo (bn (Lib.decDigits u)) (Lib.decDigits u).length = u := by
 induction u using Nat.strongRecOn with
 | _ u ih =>
  have one : ∀ v : Nat,v < 10 → ((UInt8.ofNat (48 + v)).toNat : Int) = 48 + v := fun v hv => by
   have : (UInt8.ofNat (48 + v)).toNat = 48 + v := by rw [UInt8.toNat_ofNat'];omega
   rw [this];omega
  by_cases h : u < 10
  ·rw [Lib.decDigits_one h]
   show numTo (bn [UInt8.ofNat (48 + u)]) 1 = u
   have e : bAt (bn [UInt8.ofNat (48 + u)]) 0 = 48 + u := by rw [bAt_hd,bn_data];exact one u h
   simp only [numTo,e]
   rw [if_neg (by omega)];omega
  ·rw [Lib.decDigits,dif_neg h,List.length_append]
   have e : bAt (bn (Lib.decDigits (u / 10) ++ [UInt8.ofNat (48 + u % 10)])) (Lib.decDigits (u / 10)).length = 48 + (u % 10 : Nat) := by
    rw [bAt_hd,bn_data,List.drop_left];exact one _ (Nat.mod_lt _ (by decide))
   simp only [List.length_singleton,numTo,e]
   rw [if_neg (by omega),numTo_app _ _ _ (Nat.le_refl _),ih (u / 10) (by omega)]
   omega
theorem numTo_neg (b : List UInt8) : ∀ i,i ≤ b.length → numTo (bn (45 :: b)) (i + 1) = numTo (bn b) i
 | 0,_ => rfl
 | i + 1,h => by
  have e : bAt (bn (45 :: b)) (i + 1) = bAt (bn b) i := by rw [bAt_hd,bAt_hd,bn_data,bn_data];rfl
  have ih := numTo_neg b i (by omega)
  rw [numTo,e,ih,numTo]
theorem tval_I (m : Int) (line : Nat) : tval (tkI m line) = m := by
 show intVal (bn (Lib.itoa m)) = m
 unfold intVal
 rw [bn_size]
 unfold Lib.itoa
 split
 ·rename_i h
  rw [if_pos (by rw [bAt_hd,bn_data];rfl)]
  show - numTo (bn (45 :: Lib.decDigits m.natAbs)) ((Lib.decDigits m.natAbs).length + 1) = m
  rw [numTo_neg _ _ (Nat.le_refl _),numTo_dec];omega
 ·rename_i h
  have hd : bAt (bn (Lib.decDigits m.toNat)) 0 ≠ 45 := by
   rw [bAt_hd,bn_data]
   have q := dec_dig m.toNat
   cases e : Lib.decDigits m.toNat with
   | nil => decide
   | cons c u =>
    rw [e] at q
    have := q c (by simp)
    simp only [isDigI,Bool.and_eq_true,decide_eq_true_eq] at this
    show (c.toNat : Int) ≠ 45
    omega
  rw [if_neg hd,numTo_dec];omega
structure AT where
 neg : Bool
 f : Option Int
 n : List UInt8
structure AS where
 s : (List UInt8 × Int × Int) ⊕ ((List UInt8 × Int × List Int) ⊕ ((AT × List AT × Nat × Int) ⊕ ((List UInt8 × AT × List AT × Nat × Int) ⊕ ((List UInt8 × List UInt8 × List UInt8) ⊕ ((List UInt8 × List (List UInt8)) ⊕ ((Bool × List UInt8) × List (Bool × List UInt8)))))))
abbrev AS.var (n : List UInt8) (lo hi : Int) : AS := ⟨.inl (n,lo,hi)⟩
abbrev AS.list (n : List UInt8) (a : Int) (rs : List Int) : AS := ⟨.inr (.inl (n,a,rs))⟩
abbrev AS.lin (t : AT) (ts : List AT) (rel : Nat) (m : Int) : AS := ⟨.inr (.inr (.inl (t,ts,rel,m)))⟩
abbrev AS.when (b : List UInt8) (t : AT) (ts : List AT) (rel : Nat) (m : Int) : AS := ⟨.inr (.inr (.inr (.inl (b,t,ts,rel,m))))⟩
abbrev AS.at_ (l k v : List UInt8) : AS := ⟨.inr (.inr (.inr (.inr (.inl (l,k,v)))))⟩
abbrev AS.diff (a : List UInt8) (rs : List (List UInt8)) : AS := ⟨.inr (.inr (.inr (.inr (.inr (.inl (a,rs))))))⟩
abbrev AS.or (a : Bool × List UInt8) (rs : List (Bool × List UInt8)) : AS := ⟨.inr (.inr (.inr (.inr (.inr (.inr (a,rs))))))⟩
def relB : Nat → List UInt8
 | 0 => [61]
 | 1 => [33,61]
 | _ => [60,61]
def AT.body (t : AT) : List Pc := match t.f with
 | none => [.word t.n]
 | some f => [.num f,.sp,.sg [42],.sp,.word t.n]
def sumPc : List AT → List Pc
 | [] => []
 | t :: ts => .sp :: .sg (if t.neg then [45] else [43]) :: .sp :: (t.body ++ sumPc ts)
def linPc (t : AT) (ts : List AT) (rel : Nat) (m : Int) : List Pc := t.body ++ (sumPc ts ++ [.sp,.sg (relB rel),.sp,.num m])
def litPc (a : Bool × List UInt8) : List Pc := if a.1 then [.word a.2] else [.sg [33],.word a.2]
def serPc {α : Type} (f : α → List Pc) : List α → List Pc
 | [] => []
 | a :: rs => .sg [44] :: .sp :: (f a ++ serPc f rs)
def AS.pcs : AS → List Pc
 | ⟨.inl (n,lo,hi)⟩ => [.word [118,97,114],.sp,.word n,.sg [58],.sp,.num lo,.sg [46,46],.num hi]
 | ⟨.inr (.inl (n,a,rs))⟩ => .word [108,105,115,116] :: .sp :: .word n :: .sp :: .sg [61] :: .sp :: .sg [91] :: .num a :: (serPc (fun m => [.num m]) rs ++ [.sg [93]])
 | ⟨.inr (.inr (.inl (t,ts,rel,m)))⟩ => .word [108,105,110] :: .sp :: linPc t ts rel m
 | ⟨.inr (.inr (.inr (.inl (b,t,ts,rel,m))))⟩ => .word [119,104,101,110] :: .sp :: .word b :: .sg [58] :: .sp :: linPc t ts rel m
 | ⟨.inr (.inr (.inr (.inr (.inl (l,k,v)))))⟩ => [.word [97,116],.sp,.word l,.sg [91],.word k,.sg [93],.sp,.sg [61],.sp,.word v]
 | ⟨.inr (.inr (.inr (.inr (.inr (.inl (a,rs))))))⟩ => .word [100,105,102,102] :: .sp :: .word a :: serPc (fun n => [.word n]) rs
 | ⟨.inr (.inr (.inr (.inr (.inr (.inr (a,rs))))))⟩ => .word [111,114] :: .sp :: (litPc a ++ serPc litPc rs)
def nmOk (t : List UInt8) : Prop := wordOk t = true ∧ kwL t = false
def numOk (m : Int) : Prop := -100000000 ≤ m ∧ m ≤ 100000000
def AT.ok (t : AT) : Prop := nmOk t.n ∧ ∀ f,t.f = some f → numOk f
def AS.ok : AS → Prop
 | ⟨.inl (n,lo,hi)⟩ => nmOk n ∧ numOk lo ∧ numOk hi
 | ⟨.inr (.inl (n,a,rs))⟩ => nmOk n ∧ numOk a ∧ ∀ m ∈ rs,numOk m
 | ⟨.inr (.inr (.inl (t,ts,rel,m)))⟩ => t.ok ∧ (∀ u ∈ ts,u.ok) ∧ numOk m ∧ t.neg = false
 | ⟨.inr (.inr (.inr (.inl (b,t,ts,rel,m))))⟩ => nmOk b ∧ t.ok ∧ (∀ u ∈ ts,u.ok) ∧ numOk m ∧ t.neg = false
 | ⟨.inr (.inr (.inr (.inr (.inl (l,k,v)))))⟩ => nmOk l ∧ nmOk k ∧ nmOk v
 | ⟨.inr (.inr (.inr (.inr (.inr (.inl (a,rs))))))⟩ => nmOk a ∧ ∀ n ∈ rs,nmOk n
 | ⟨.inr (.inr (.inr (.inr (.inr (.inr (a,rs))))))⟩ => nmOk a.2 ∧ ∀ p ∈ rs,nmOk p.2
theorem body_ok {t : AT} (h : t.ok) {R : List Pc} (ha : apart R = true) (hR : okP R) : okP (t.body ++ R) := by
 obtain ⟨h1,h2⟩ := h
 unfold AT.body
 cases e : t.f with
 | none => exact ⟨h1.1,ha,hR⟩
 | some f => exact ⟨h2 f e,rfl,rfl,rfl,h1.1,ha,hR⟩
theorem sumPc_ok {R : List Pc} (ha : apart R = true) (hR : okP R) : ∀ {ts : List AT},(∀ u ∈ ts,u.ok) → okP (sumPc ts ++ R) ∧ apart (sumPc ts ++ R) = true
 | [],_ => ⟨hR,ha⟩
 | t :: ts,h => by
  obtain ⟨q1,q2⟩ := sumPc_ok ha hR (ts := ts) (fun u hu => h u (by simp [hu]))
  have q := body_ok (h t (by simp)) q2 q1
  refine ⟨?_,rfl⟩
  show okP (.sp :: .sg (if t.neg then [45] else [43]) :: .sp :: ((t.body ++ sumPc ts) ++ R))
  rw [List.append_assoc]
  refine ⟨?_,?_,q⟩
  ·cases t.neg <;> rfl
  ·cases t.neg <;> rfl
theorem rel_ok (rel : Nat) : sgOk (relB rel) = true ∧ ∀ R,sgNext (relB rel) R = true := by
 unfold relB
 split <;> exact ⟨rfl,fun R => rfl⟩
theorem lin_ok {t : AT} {ts : List AT} {rel : Nat} {m : Int} (h1 : t.ok) (h2 : ∀ u ∈ ts,u.ok) (h3 : numOk m) {R : List Pc} (ha : apart R = true) (hR : okP R) : okP (linPc t ts rel m ++ R) := by
 unfold linPc
 rw [List.append_assoc,List.append_assoc]
 have q : okP ([.sp,.sg (relB rel),.sp,.num m] ++ R) := ⟨(rel_ok rel).1,(rel_ok rel).2 _,h3,ha,hR⟩
 obtain ⟨q1,q2⟩ := sumPc_ok (ts := ts) (R := [.sp,.sg (relB rel),.sp,.num m] ++ R) rfl q h2
 exact body_ok h1 q2 q1
theorem ser_ok {α : Type} {f : α → List Pc} {R : List Pc} (ha : apart R = true) (hR : okP R) : ∀ {rs : List α},(∀ a ∈ rs,∀ R,apart R = true → okP R → okP (f a ++ R)) → okP (serPc f rs ++ R) ∧ apart (serPc f rs ++ R) = true
 | [],_ => ⟨hR,ha⟩
 | a :: rs,h => by
  obtain ⟨q1,q2⟩ := ser_ok ha hR (rs := rs) (fun u hu => h u (by simp [hu]))
  refine ⟨?_,rfl⟩
  show okP (.sg [44] :: .sp :: ((f a ++ serPc f rs) ++ R))
  rw [List.append_assoc]
  exact ⟨rfl,rfl,h a (by simp) _ q2 q1⟩
theorem lit_ok {a : Bool × List UInt8} (h : nmOk a.2) {R : List Pc} (ha : apart R = true) (hR : okP R) : okP (litPc a ++ R) := by
 unfold litPc
 split
 ·exact ⟨h.1,ha,hR⟩
 ·exact ⟨rfl,h.1,h.1,ha,hR⟩
theorem AS.pcs_ok {a : AS} (h : a.ok) {R : List Pc} (ha : apart R = true) (hR : okP R) : okP (a.pcs ++ R) := by
 rcases a with ⟨⟨n,lo,hi⟩ | ⟨n,a,rs⟩ | ⟨t,ts,rel,m⟩ | ⟨b,t,ts,rel,m⟩ | ⟨l,k,v⟩ | ⟨a,rs⟩ | ⟨a,rs⟩⟩
 ·exact ⟨rfl,rfl,h.1.1,rfl,rfl,rfl,h.2.1,rfl,rfl,rfl,h.2.2,ha,hR⟩
 ·
  obtain ⟨q1,q2⟩ := ser_ok (f := fun m => [Pc.num m]) (rs := rs) (R := .sg [93] :: R) rfl ⟨rfl,rfl,hR⟩ (fun m hm R h1 h2 => ⟨h.2.2 m hm,h1,h2⟩)
  show okP (.word [108,105,115,116] :: .sp :: .word n :: .sp :: .sg [61] :: .sp :: .sg [91] :: .num a :: ((serPc (fun m => [.num m]) rs ++ [.sg [93]]) ++ R))
  rw [List.append_assoc]
  exact ⟨rfl,rfl,h.1.1,rfl,rfl,rfl,rfl,rfl,h.2.1,q2,q1⟩
 ·exact ⟨rfl,rfl,lin_ok h.1 h.2.1 h.2.2.1 ha hR⟩
 ·exact ⟨rfl,rfl,h.1.1,rfl,rfl,rfl,lin_ok h.2.1 h.2.2.1 h.2.2.2.1 ha hR⟩
 ·exact ⟨rfl,rfl,h.1.1,rfl,rfl,rfl,h.2.1.1,rfl,rfl,rfl,rfl,rfl,h.2.2.1,ha,hR⟩
 ·
  obtain ⟨q1,q2⟩ := ser_ok (f := fun n => [Pc.word n]) (rs := rs) ha hR (fun m hm R h1 h2 => ⟨(h.2 m hm).1,h1,h2⟩)
  exact ⟨rfl,rfl,h.1.1,q2,q1⟩
 ·
  obtain ⟨q1,q2⟩ := ser_ok (f := litPc) (rs := rs) ha hR (fun m hm R h1 h2 => lit_ok (h.2 m hm) h1 h2)
  show okP (.word [111,114] :: .sp :: ((litPc a ++ serPc litPc rs) ++ R))
  rw [List.append_assoc]
  exact ⟨rfl,rfl,lit_ok h.1 q2 q1⟩
def AT.gt (line : Nat) (t : AT) : GTerm := ⟨t.neg,match t.f with | none => tkN' t.n line | some f => tkI f line,tkN' t.n line⟩
def litG (line : Nat) (a : Bool × List UInt8) : GLit := if a.1 then ⟨tkN' a.2 line,tkN' a.2 line⟩ else ⟨tkS [33] line,tkN' a.2 line⟩
def AS.gst (line : Nat) : AS → GSt
 | ⟨.inl (n,lo,hi)⟩ => { kw := tkW [118,97,114] line,name := tkN' n line,numbers := [tkI lo line,tkI hi line] }
 | ⟨.inr (.inl (n,a,rs))⟩ => { kw := tkW [108,105,115,116] line,name := tkN' n line,numbers := tkI a line :: rs.map (tkI · line) }
 | ⟨.inr (.inr (.inl (t,ts,rel,m)))⟩ => { kw := tkW [108,105,110] line,terms := t.gt line :: ts.map (AT.gt line),rel := tkS (relB rel) line,numbers := [tkI m line] }
 | ⟨.inr (.inr (.inr (.inl (b,t,ts,rel,m))))⟩ => { kw := tkW [119,104,101,110] line,name := tkN' b line,terms := t.gt line :: ts.map (AT.gt line),rel := tkS (relB rel) line,numbers := [tkI m line] }
 | ⟨.inr (.inr (.inr (.inr (.inl (l,k,v)))))⟩ => { kw := tkW [97,116] line,name := tkN' l line,names := [tkN' k line,tkN' v line] }
 | ⟨.inr (.inr (.inr (.inr (.inr (.inl (a,rs))))))⟩ => { kw := tkW [100,105,102,102] line,names := tkN' a line :: rs.map (tkN' · line) }
 | ⟨.inr (.inr (.inr (.inr (.inr (.inr (a,rs))))))⟩ => { kw := tkW [111,114] line,lits := litG line a :: rs.map (litG line) }
theorem word_N {n : List UInt8} (h : nmOk n) (line : Nat) (r : List Pc) : toksP line (.word n :: r) = tkN' n line :: toksP line r := by
 show mkTok n (if kwL n then 107 else 110) line :: _ = _
 rw [h.2];rfl
def noNl : List Pc → Bool
 | [] => true
 | ⟨.inl false⟩ :: _ => false
 | _ :: r => noNl r
theorem noNl_app : ∀ (P R : List Pc),noNl (P ++ R) = (noNl P && noNl R)
 | [],R => rfl
 | ⟨.inl false⟩ :: r,R => rfl
 | ⟨.inl true⟩ :: r,R => noNl_app r R
 | ⟨.inr (.inl _)⟩ :: r,R => noNl_app r R
 | ⟨.inr (.inr (.inl _))⟩ :: r,R => noNl_app r R
 | ⟨.inr (.inr (.inr _))⟩ :: r,R => noNl_app r R
theorem nls_of : ∀ {P : List Pc},noNl P = true → nlsP P = 0
 | [],_ => rfl
 | ⟨.inl true⟩ :: r,h => nls_of (P := r) h
 | ⟨.inr (.inl _)⟩ :: r,h => nls_of (P := r) h
 | ⟨.inr (.inr (.inl _))⟩ :: r,h => nls_of (P := r) h
 | ⟨.inr (.inr (.inr _))⟩ :: r,h => nls_of (P := r) h
theorem body_nl (t : AT) : noNl t.body = true := by unfold AT.body;split <;> rfl
theorem sum_nl : ∀ ts : List AT,noNl (sumPc ts) = true
 | [] => rfl
 | t :: ts => by show noNl (t.body ++ sumPc ts) = true;rw [noNl_app,body_nl,sum_nl ts];rfl
theorem lin_nl (t : AT) (ts : List AT) (rel : Nat) (m : Int) : noNl (linPc t ts rel m) = true := by unfold linPc;rw [noNl_app,noNl_app,body_nl,sum_nl];rfl
theorem ser_nl {α : Type} {f : α → List Pc} (h : ∀ a,noNl (f a) = true) : ∀ rs : List α,noNl (serPc f rs) = true
 | [] => rfl
 | a :: rs => by show noNl (f a ++ serPc f rs) = true;rw [noNl_app,h,ser_nl h rs];rfl
theorem lit_nl (a : Bool × List UInt8) : noNl (litPc a) = true := by unfold litPc;split <;> rfl
theorem AS.nl (a : AS) : noNl a.pcs = true := by
 rcases a with ⟨⟨n,lo,hi⟩ | ⟨n,a,rs⟩ | ⟨t,ts,rel,m⟩ | ⟨b,t,ts,rel,m⟩ | ⟨l,k,v⟩ | ⟨a,rs⟩ | ⟨a,rs⟩⟩
 ·rfl
 ·show noNl (serPc (fun m => [.num m]) rs ++ [.sg [93]]) = true;rw [noNl_app,ser_nl (fun _ => rfl)];rfl
 ·exact lin_nl t ts rel m
 ·exact lin_nl t ts rel m
 ·rfl
 ·exact ser_nl (fun _ => rfl) rs
 ·show noNl (litPc a ++ serPc litPc rs) = true;rw [noNl_app,lit_nl,ser_nl lit_nl];rfl
theorem toks_app {P R : List Pc} (line : Nat) (h : noNl P = true) : toksP line (P ++ R) = toksP line P ++ toksP line R := by rw [toksP_app,nls_of h,Nat.add_zero]
theorem body_is {t : AT} (h : t.ok) (line : Nat) : TmIs (toksP line t.body) t.neg (t.gt line) := by
 obtain ⟨h1,h2⟩ := h
 unfold AT.body AT.gt
 cases e : t.f with
 | none => exact .inl ⟨tkN' t.n line,word_N h1 line [],srt_N h1.2 line,rfl⟩
 | some f => exact .inr ⟨tkI f line,tkS [42] line,tkN' t.n line,by show tkI f line :: tkS [42] line :: toksP line [.word t.n] = _;rw [word_N h1];rfl,srt_I f line,by rw [srt_S];rfl,srt_N h1.2 line,rfl⟩
theorem sum_is (line : Nat) : ∀ {ts : List AT},(∀ u ∈ ts,u.ok) → SumIs (toksP line (sumPc ts)) (ts.map (AT.gt line))
 | [],_ => .nil
 | t :: ts,h => by
  have q := body_is (h t (by simp)) line
  show SumIs (tkS (if t.neg then [45] else [43]) line :: toksP line (t.body ++ sumPc ts)) _
  rw [toks_app line (body_nl t)]
  have e : (srt (tkS (if t.neg then [45] else [43]) line) == 23) = t.neg := by rw [srt_S];cases t.neg <;> rfl
  refine .cons ?_ (by rw [e];exact q) (sum_is line (fun u hu => h u (by simp [hu])))
  rw [srt_S];cases t.neg
  ·exact .inl rfl
  ·exact .inr rfl
theorem rel_is (rel line : Nat) : srt (tkS (relB rel) line) = 14 ∨ srt (tkS (relB rel) line) = 15 ∨ srt (tkS (relB rel) line) = 16 := by
 rw [srt_S]
 unfold relB
 split
 ·exact .inl rfl
 ·exact .inr (.inl rfl)
 ·exact .inr (.inr rfl)
theorem lin_toks (line : Nat) (t : AT) (ts : List AT) (rel : Nat) (m : Int) : toksP line (linPc t ts rel m) = toksP line t.body ++ (toksP line (sumPc ts) ++ [tkS (relB rel) line,tkI m line]) := by
 unfold linPc
 rw [toks_app line (body_nl t),toks_app line (sum_nl ts)]
 rfl
theorem ser_is {α β : Type} {f : α → List Pc} {E : List PTok → β → Prop} {g : α → β} (line : Nat) (hf : ∀ a,noNl (f a) = true) : ∀ {rs : List α},(∀ a ∈ rs,E (toksP line (f a)) (g a)) → SerIs E (toksP line (serPc f rs)) (rs.map g)
 | [],_ => .nil
 | a :: rs,h => by
  show SerIs E (tkS [44] line :: toksP line (f a ++ serPc f rs)) _
  rw [toks_app line (hf a)]
  exact .cons (by rw [srt_S];rfl) (h a (by simp)) (ser_is line hf (fun u hu => h u (by simp [hu])))
theorem lit_is {a : Bool × List UInt8} (h : nmOk a.2) (line : Nat) : LtIs (toksP line (litPc a)) (litG line a) := by
 unfold litPc litG
 cases a.1 with
 | true => exact .inl ⟨tkN' a.2 line,word_N h line [],srt_N h.2 line,rfl⟩
 | false => exact .inr ⟨tkS [33] line,tkN' a.2 line,by show tkS [33] line :: toksP line [.word a.2] = _;rw [word_N h];rfl,by rw [srt_S];rfl,srt_N h.2 line,rfl⟩
theorem AS.is {a : AS} (h : a.ok) (line : Nat) : StIs (toksP line a.pcs) (a.gst line) := by
 rcases a with ⟨⟨n,lo,hi⟩ | ⟨n,a,rs⟩ | ⟨t,ts,rel,m⟩ | ⟨b,t,ts,rel,m⟩ | ⟨l,k,v⟩ | ⟨a,rs⟩ | ⟨a,rs⟩⟩
 ·
  have e : toksP line (AS.pcs (.var n lo hi)) = [tkW [118,97,114] line,tkN' n line,tkS [58] line,tkI lo line,tkS [46,46] line,tkI hi line] := by
   show tkW [118,97,114] line :: toksP line (.word n :: _) = _
   rw [word_N h.1];rfl
  rw [e]
  exact .var (by rw [srt_W];rfl) (srt_N h.1.2 line) (by rw [srt_S];rfl) rfl (by rw [srt_S];rfl) rfl
 ·
  have e : toksP line (AS.pcs (.list n a rs)) = tkW [108,105,115,116] line :: tkN' n line :: tkS [61] line :: tkS [91] line :: ([tkI a line] ++ (toksP line (serPc (fun m => [.num m]) rs) ++ [tkS [93] line])) := by
   show tkW [108,105,115,116] line :: toksP line (.word n :: _) = _
   rw [word_N h.1]
   show _ :: _ :: _ :: _ :: _ :: toksP line (serPc (fun m => [.num m]) rs ++ [.sg [93]]) = _
   rw [toks_app line (ser_nl (fun _ => rfl) rs)];rfl
  rw [e]
  exact .list (by rw [srt_W];rfl) (srt_N h.1.2 line) (by rw [srt_S];rfl) (by rw [srt_S];rfl) ⟨rfl,rfl⟩ (ser_is line (fun _ => rfl) (fun m hm => ⟨rfl,rfl⟩)) (by rw [srt_S];rfl)
 ·
  have e : toksP line (AS.pcs (.lin t ts rel m)) = tkW [108,105,110] line :: toksP line (linPc t ts rel m) := rfl
  rw [e,lin_toks]
  have q := body_is h.1 line
  rw [h.2.2.2] at q
  exact .lin (by rw [srt_W];rfl) q (sum_is line h.2.1) (rel_is rel line) rfl
 ·
  have e : toksP line (AS.pcs (.when b t ts rel m)) = tkW [119,104,101,110] line :: tkN' b line :: tkS [58] line :: toksP line (linPc t ts rel m) := by
   show tkW [119,104,101,110] line :: toksP line (.word b :: _) = _
   rw [word_N h.1];rfl
  rw [e,lin_toks]
  have q := body_is h.2.1 line
  rw [h.2.2.2.2] at q
  exact .when (by rw [srt_W];rfl) (srt_N h.1.2 line) (by rw [srt_S];rfl) q (sum_is line h.2.2.1) (rel_is rel line) rfl
 ·
  have e : toksP line (AS.pcs (.at_ l k v)) = [tkW [97,116] line,tkN' l line,tkS [91] line,tkN' k line,tkS [93] line,tkS [61] line,tkN' v line] := by
   show tkW [97,116] line :: toksP line (.word l :: .sg [91] :: .word k :: _) = _
   rw [word_N h.1]
   show _ :: _ :: _ :: toksP line (.word k :: _) = _
   rw [word_N h.2.1]
   show _ :: _ :: _ :: _ :: _ :: _ :: toksP line [.word v] = _
   rw [word_N h.2.2];rfl
  rw [e]
  exact .at_ (by rw [srt_W];rfl) (srt_N h.1.2 line) (by rw [srt_S];rfl) (srt_N h.2.1.2 line) (by rw [srt_S];rfl) (by rw [srt_S];rfl) (srt_N h.2.2.2 line)
 ·
  have e : toksP line (AS.pcs (.diff a rs)) = tkW [100,105,102,102] line :: ([tkN' a line] ++ toksP line (serPc (fun n => [.word n]) rs)) := by
   show tkW [100,105,102,102] line :: toksP line (.word a :: _) = _
   rw [word_N h.1];rfl
  rw [e]
  exact .diff (by rw [srt_W];rfl) ⟨rfl,srt_N h.1.2 line⟩ (ser_is line (fun _ => rfl) (fun n hn => ⟨word_N (h.2 n hn) line [],srt_N (h.2 n hn).2 line⟩))
 ·
  have e : toksP line (AS.pcs (.or a rs)) = tkW [111,114] line :: (toksP line (litPc a) ++ toksP line (serPc litPc rs)) := by
   show tkW [111,114] line :: toksP line (litPc a ++ _) = _
   rw [toks_app line (lit_nl a)]
  rw [e]
  exact .or (by rw [srt_W];rfl) (lit_is h.1 line) (ser_is line lit_nl (fun p hp => lit_is (h.2 p hp) line))
def blank : List Pc → Bool
 | [] => true
 | ⟨.inl true⟩ :: r => blank r
 | ⟨.inl false⟩ :: r => blank r
 | _ => false
def textPc : List (AS × List Pc) → List Pc
 | [] => []
 | (a,b) :: r => a.pcs ++ (.sg [59] :: (b ++ textPc r))
def gsts : Nat → List (AS × List Pc) → List GSt
 | _,[] => []
 | line,(a,b) :: r => a.gst line :: gsts (line + nlsP b) r
theorem blank_ok : ∀ {b R : List Pc},blank b = true → okP R → okP (b ++ R)
 | [],R,_,h => h
 | ⟨.inl true⟩ :: r,R,hb,h => blank_ok (b := r) hb h
 | ⟨.inl false⟩ :: r,R,hb,h => blank_ok (b := r) hb h
theorem blank_toks : ∀ {b : List Pc} (line : Nat),blank b = true → toksP line b = []
 | [],_,_ => rfl
 | ⟨.inl true⟩ :: r,line,hb => blank_toks (b := r) line hb
 | ⟨.inl false⟩ :: r,line,hb => blank_toks (b := r) (line + 1) hb
def textOk (A : List (AS × List Pc)) : Prop := ∀ p ∈ A,p.1.ok ∧ blank p.2 = true
theorem textPc_ok : ∀ {A : List (AS × List Pc)},textOk A → okP (textPc A)
 | [],_ => trivial
 | (a,b) :: r,h => by
  obtain ⟨h1,h2⟩ := h (a,b) (by simp)
  exact AS.pcs_ok h1 rfl ⟨rfl,rfl,blank_ok h2 (textPc_ok (fun p hp => h p (by simp [hp])))⟩
theorem text_is : ∀ {A : List (AS × List Pc)} (line : Nat),textOk A → PrIs (toksP line (textPc A)) (gsts line A)
 | [],_,_ => .nil
 | (a,b) :: r,line,h => by
  obtain ⟨h1,h2⟩ := h (a,b) (by simp)
  have e : toksP line (textPc ((a,b) :: r)) = toksP line a.pcs ++ tkS [59] line :: toksP (line + nlsP b) (textPc r) := by
   show toksP line (a.pcs ++ (.sg [59] :: (b ++ textPc r))) = _
   rw [toks_app line a.nl]
   show _ ++ tkS [59] line :: toksP line (b ++ textPc r) = _
   rw [toksP_app,blank_toks line h2];rfl
  rw [e]
  exact .cons (AS.is h1 line) (by rw [srt_S];rfl) (text_is (line + nlsP b) (fun p hp => h p (by simp [hp])))
end
section
structure Env where
 V : List (List UInt8 × Int × Int)
 L : List (List UInt8 × List Int)
 C : List QCon
def Env.ix (E : Env) (n : List UInt8) : Nat := E.V.findIdx (fun p => p.1 == n)
def Env.inV (E : Env) (n : List UInt8) : Prop := ∃ p ∈ E.V,p.1 = n
def Env.tru (E : Env) (n : List UInt8) : Prop := ∃ p ∈ E.V,p.1 = n ∧ 0 ≤ p.2.1 ∧ p.2.2 ≤ 1
def Env.new (E : Env) (n : List UInt8) : Prop := (∀ p ∈ E.V,p.1 ≠ n) ∧ ∀ p ∈ E.L,p.1 ≠ n
def Env.lst (E : Env) (n : List UInt8) : List Int := ((E.L.find? (fun p => p.1 == n)).map (·.2)).getD []
def AT.fac (t : AT) : Int := if t.neg then -(t.f.getD 1) else t.f.getD 1
def relI : Nat → Int
 | 0 => 0
 | 1 => 1
 | _ => 2
def qv (p : List UInt8 × Int × Int) : QVar := ⟨bn p.1,p.2.1,p.2.2⟩
def Env.terms (E : Env) (ts : List AT) : List (Int × Int) := ts.map fun t => ((E.ix t.n : Int),t.fac)
def AS.con (E : Env) : AS → QCon
 | ⟨.inr (.inr (.inr (.inl (b,t,ts,rel,m))))⟩ => ⟨1,E.ix b,E.terms (t :: ts),relI rel,m,[],0,0,[],[]⟩
 | ⟨.inr (.inr (.inr (.inr (.inl (l,k,v)))))⟩ => ⟨2,0,[],0,0,E.lst l,E.ix k,E.ix v,[],[]⟩
 | ⟨.inr (.inr (.inr (.inr (.inr (.inl (a,rs))))))⟩ => ⟨3,0,[],0,0,[],0,0,(a :: rs).map (fun n => (E.ix n : Int)),[]⟩
 | ⟨.inr (.inr (.inr (.inr (.inr (.inr (a,rs))))))⟩ => ⟨4,0,[],0,0,[],0,0,[],(a :: rs).map (fun p => ((E.ix p.2 : Int),if p.1 then 1 else 0))⟩
 | ⟨.inr (.inr (.inl (t,ts,rel,m)))⟩ => ⟨0,0,E.terms (t :: ts),relI rel,m,[],0,0,[],[]⟩
 | _ => noCon
def AS.step (E : Env) : AS → Env
 | ⟨.inl (n,lo,hi)⟩ => ⟨E.V ++ [(n,lo,hi)],E.L,E.C⟩
 | ⟨.inr (.inl (n,a,rs))⟩ => ⟨E.V,E.L ++ [(n,a :: rs)],E.C⟩
 | a => ⟨E.V,E.L,E.C ++ [a.con E]⟩
def sumFine (E : Env) (ts : List AT) (m : Int) : Prop := ts.length ≤ 8 ∧ (∀ t ∈ ts,E.inV t.n ∧ ∀ f,t.f = some f → -100 ≤ f ∧ f ≤ 100) ∧ -1000000 ≤ m ∧ m ≤ 1000000
def AS.fine (E : Env) : AS → Prop
 | ⟨.inl (n,lo,hi)⟩ => E.new n ∧ E.V.length < 8 ∧ -1000 ≤ lo ∧ lo ≤ hi ∧ hi ≤ 1000
 | ⟨.inr (.inl (n,a,rs))⟩ => E.new n ∧ (a :: rs).length ≤ 20 ∧ ∀ x ∈ a :: rs,-1000 ≤ x ∧ x ≤ 1000
 | ⟨.inr (.inr (.inl (t,ts,rel,m)))⟩ => E.C.length < 16 ∧ sumFine E (t :: ts) m
 | ⟨.inr (.inr (.inr (.inl (b,t,ts,rel,m))))⟩ => E.C.length < 16 ∧ E.tru b ∧ sumFine E (t :: ts) m
 | ⟨.inr (.inr (.inr (.inr (.inl (l,k,v)))))⟩ => E.C.length < 16 ∧ (∃ p ∈ E.L,p.1 = l) ∧ E.inV k ∧ E.inV v
 | ⟨.inr (.inr (.inr (.inr (.inr (.inl (a,rs))))))⟩ => E.C.length < 16 ∧ (a :: rs).length ≤ 8 ∧ ∀ n ∈ a :: rs,E.inV n
 | ⟨.inr (.inr (.inr (.inr (.inr (.inr (a,rs))))))⟩ => E.C.length < 16 ∧ (a :: rs).length ≤ 8 ∧ ∀ p ∈ a :: rs,E.tru p.2
structure QIs (q : QSt) (E : Env) : Prop where
 st : q.st = (0,0)
 m : q.m = E.C.length
 cons : q.cons = E.C
 vars : q.vars = E.V.map qv
 nm : ∀ p ∈ E.V,(q.g (bn p.1)).so = 4 ∧ (q.g (bn p.1)).pl = (E.ix p.1 : Int) ∧ (q.g (bn p.1)).lo = p.2.1 ∧ (q.g (bn p.1)).hi = p.2.2
 ls : ∀ p ∈ E.L,(q.g (bn p.1)).so = 5 ∧ q.ls (bn p.1) = E.lst p.1
 new : ∀ s,E.new s → (q.g (bn s)).so = 0
theorem q0_is : QIs q0 ⟨[],[],[]⟩ := ⟨rfl,rfl,rfl,rfl,(fun p hp => by cases hp),(fun p hp => by cases hp),fun s _ => rfl⟩
theorem flt_no (k l : Int) (st : FSt) : flt false k l st = st := by simp [flt,fKind,fLine]
theorem fold_id {α : Type} {step : Nat → α → FSt → FSt} {st : FSt} : ∀ {l : List α} (k : Nat),(∀ (i : Nat) t,l[i]? = some t → step (k + i) t st = st) → foldSt step k l st = st
 | [],_,_ => rfl
 | t :: l,k,h => by
  have h0 : step k t st = st := h 0 t rfl
  simp only [foldSt]
  rw [h0]
  exact fold_id (k + 1) (fun i u hu => by have := h (i + 1) u (by simpa using hu);rw [Nat.add_right_comm,Nat.add_assoc];exact this)
theorem QIs.so4 {q : QSt} {E : Env} (h : QIs q E) {n : List UInt8} (hn : E.inV n) : (q.g (bn n)).so = 4 ∧ (thFind q.g (bn n) 4).pl = (E.ix n : Int) := by
 obtain ⟨p,hp,rfl⟩ := hn
 obtain ⟨h1,h2,_⟩ := h.nm p hp
 exact ⟨h1,by unfold thFind;rw [if_pos h1];exact h2⟩
theorem gt_name (line : Nat) (t : AT) : (t.gt line).name.s = bn t.n := rfl
theorem gt_fac (line : Nat) (t : AT) : facV (t.gt line) = t.fac := by
 unfold facV AT.fac AT.gt
 cases e : t.f with
 | none =>
  have : srt (tkN' t.n line) ≠ 3 := by
   unfold srt tkN' mkTok kwSort
   simp only
   rw [if_neg (by decide),if_neg (by decide),if_neg (by decide)]
   repeat' split
   all_goals decide
  simp only [this,if_false]
  rfl
 | some f => simp only [srt_I,if_true,tval_I];rfl
theorem gt_facSt {t : AT} (h : ∀ f,t.f = some f → -100 ≤ f ∧ f ≤ 100) (line : Nat) (st : FSt) : facSt (t.gt line) st = st := by
 unfold facSt
 split
 ·rename_i hs
  cases e : t.f with
  | none =>
   exfalso
   have e2 : (t.gt line).first = tkN' t.n line := by unfold AT.gt;rw [e]
   rw [e2] at hs
   have : srt (tkN' t.n line) ≠ 3 := by
    unfold srt tkN' mkTok kwSort
    simp only
    rw [if_neg (by decide),if_neg (by decide),if_neg (by decide)]
    repeat' split
    all_goals decide
   exact this hs
  | some f =>
   have e2 : (t.gt line).first = tkI f line := by unfold AT.gt;rw [e]
   rw [e2,tval_I]
   have := h f e
   have : outB f 100 = false := by unfold outB;simp;omega
   rw [this,flt_no]
 ·rfl
theorem sum_st {q : QSt} {E : Env} (h : QIs q E) {ts : List AT} {m : Int} (hs : sumFine E ts m) (line : Nat) (st : FSt) : flt (outB (tval (tkI m line)) 1000000) 5 (tkI m line).line (foldSt (termStP q.g) 0 (ts.map (AT.gt line)) st) = st := by
 have e : foldSt (termStP q.g) 0 (ts.map (AT.gt line)) st = st := by
  refine fold_id 0 (fun i g hg => ?_)
  rw [List.getElem?_map] at hg
  obtain ⟨t,ht,rfl⟩ := Option.map_eq_some_iff.1 hg
  obtain ⟨h1,h2⟩ := hs.2.1 t (List.mem_of_getElem? ht)
  have hi : i < ts.length := (List.getElem?_eq_some_iff.1 ht).1
  have := hs.1
  unfold termStP
  have a1 : decide ((8 : Int) ≤ ((0 + i : Nat) : Int)) = false := by simp;omega
  rw [a1,flt_no,gt_facSt h2,gt_name,(h.so4 h1).1]
  exact flt_no _ _ _
 have e2 : outB m 1000000 = false := by have := hs.2.2;unfold outB;simp;omega
 rw [e,tval_I,e2,flt_no]
theorem terms_is {q : QSt} {E : Env} (h : QIs q E) {ts : List AT} {m : Int} (hs : sumFine E ts m) (line : Nat) : (ts.map (AT.gt line)).map (fun t => ((thFind q.g t.name.s 4).pl,facV t)) = E.terms ts := by
 rw [List.map_map]
 unfold Env.terms
 refine List.map_congr_left (fun t ht => ?_)
 show ((thFind q.g (bn t.n) 4).pl,facV (t.gt line)) = _
 rw [(h.so4 (hs.2.1 t ht).1).2,gt_fac]
theorem rel_rel (rel line : Nat) : rRel (srt (tkS (relB rel) line)) = relI rel := by
 rw [srt_S]
 match rel with
 | 0 => rfl
 | 1 => rfl
 | n + 2 => rfl
theorem QIs.tru {q : QSt} {E : Env} (h : QIs q E) {n : List UInt8} (hn : E.tru n) : E.inV n ∧ (∃ p ∈ E.V,p.1 = n ∧ noTruthT (thFind q.g (bn n) 4) = false) := by
 obtain ⟨p,hp,rfl,h1,h2⟩ := hn
 obtain ⟨k1,k2,k3,k4⟩ := h.nm p hp
 refine ⟨⟨p,hp,rfl⟩,p,hp,rfl,?_⟩
 unfold noTruthT thFind
 rw [if_pos k1,k3,k4]
 simp;omega
theorem QIs.con {q : QSt} {E : Env} (h : QIs q E) {g : GSt} {c : QCon} (hk : srt g.kw ≠ 4 ∧ srt g.kw ≠ 5) (hm : E.C.length < 16) (hst : ∀ st,conSt q.g g st = st) (hc : conOf q.g q.ls g = c) : QIs (qStep g q) ⟨E.V,E.L,E.C ++ [c]⟩ := by
 have e : qStep g q = ⟨q.g,q.vars,q.m + 1,(0,0),q.cons ++ [c],q.ls⟩ := by
  unfold qStep
  rw [if_neg hk.1,if_neg hk.2,hst,hc]
  have : decide ((16 : Int) ≤ (q.m : Int)) = false := by rw [h.m];simp;omega
  rw [this,flt_no,h.st]
 rw [e]
 exact ⟨rfl,by show q.m + 1 = _;rw [h.m];simp,by show q.cons ++ [c] = _;rw [h.cons],h.vars,h.nm,h.ls,h.new⟩
theorem ix_old {E : Env} {n : List UInt8} (h : E.inV n) (x : List UInt8 × Int × Int) (L : List (List UInt8 × List Int)) (C : List QCon) : (Env.mk (E.V ++ [x]) L C).ix n = E.ix n := by
 unfold Env.ix
 show (E.V ++ [x]).findIdx _ = _
 rw [List.findIdx_append,if_pos]
 rw [List.findIdx_lt_length]
 obtain ⟨p,hp,rfl⟩ := h
 exact ⟨p,hp,by simp⟩
theorem ix_new {E : Env} {n : List UInt8} (h : ∀ p ∈ E.V,p.1 ≠ n) (lo hi : Int) (L : List (List UInt8 × List Int)) (C : List QCon) : (Env.mk (E.V ++ [(n,lo,hi)]) L C).ix n = E.V.length := by
 unfold Env.ix
 show (E.V ++ [(n,lo,hi)]).findIdx _ = _
 rw [List.findIdx_append]
 have e : E.V.findIdx (fun p => p.1 == n) = E.V.length := List.findIdx_eq_length.2 (fun p hp => by simpa using h p hp)
 rw [e,if_neg (Nat.lt_irrefl _)]
 simp [List.findIdx_cons]
theorem put_at (g : ByteArray → Th) (s : ByteArray) (t : Th) : putTh g s t s = t := by simp [putTh]
theorem put_ne (g : ByteArray → Th) {s s' : ByteArray} (t : Th) (h : s' ≠ s) : putTh g s t s' = g s' := by simp [putTh,h]
theorem AS.run {q : QSt} {E : Env} (h : QIs q E) {a : AS} (hf : a.fine E) (line : Nat) : QIs (qStep (a.gst line) q) (a.step E) := by
 rcases a with ⟨⟨n,lo,hi⟩ | ⟨n,a,rs⟩ | ⟨t,ts,rel,m⟩ | ⟨b,t,ts,rel,m⟩ | ⟨l,kk,v⟩ | ⟨a,rs⟩ | ⟨a,rs⟩⟩
 ·
  obtain ⟨⟨n1,n2⟩,h2,h3,h4,h5⟩ := hf
  have e : qStep (AS.gst line (.var n lo hi)) q = ⟨putTh q.g (bn n) ⟨4,q.vars.length,lo,hi,.slice none 0 0⟩,q.vars ++ [⟨bn n,lo,hi⟩],q.m,(0,0),q.cons,putLs q.ls (bn n) []⟩ := by
   unfold qStep
   have k : srt (AS.gst line (.var n lo hi)).kw = 4 := by show srt (tkW _ line) = 4;rw [srt_W];rfl
   rw [if_pos k]
   show QSt.mk (putTh q.g (bn n) ⟨4,q.vars.length,tval (tkI lo line),tval (tkI hi line),.slice none 0 0⟩) (q.vars ++ [⟨bn n,tval (tkI lo line),tval (tkI hi line)⟩]) q.m (varDecl q.g q.vars.length (tkN' n line) (tkI lo line) (tkI hi line) q.st) q.cons (putLs q.ls (bn n) []) = _
   have f1 : decide ((8 : Int) ≤ (q.vars.length : Int)) = false := by rw [h.vars];simp;omega
   have f2 : (((q.g (bn n)).so != 0) : Bool) = false := by rw [h.new n ⟨n1,n2⟩];rfl
   have f3 : outB lo 1000 = false := by unfold outB;simp;omega
   have f4 : outB hi 1000 = false := by unfold outB;simp;omega
   have f5 : decide (hi < lo) = false := by simp;omega
   unfold varDecl
   have f2' : (((q.g (tkN' n line).s).so != 0) : Bool) = false := f2
   simp only [tval_I,f1,f2',f3,f4,f5,flt_no,h.st]
  rw [e]
  have hne : ∀ p ∈ E.V,bn p.1 ≠ bn n := fun p hp e => n1 p hp (bn_inj.1 e)
  refine ⟨rfl,h.m,h.cons,?_,fun p hp => ?_,fun p hp => ?_,fun s hs => ?_⟩
  ·show q.vars ++ [⟨bn n,lo,hi⟩] = (E.V ++ [(n,lo,hi)]).map qv
   rw [h.vars,List.map_append];rfl
  ·have hp : p ∈ E.V ++ [(n,lo,hi)] := hp
   rcases List.mem_append.1 hp with hp | hp
   ·obtain ⟨k1,k2,k3,k4⟩ := h.nm p hp
    show (putTh q.g (bn n) _ (bn p.1)).so = 4 ∧ (putTh q.g (bn n) _ (bn p.1)).pl = ((Env.mk (E.V ++ [(n,lo,hi)]) E.L E.C).ix p.1 : Int) ∧ (putTh q.g (bn n) _ (bn p.1)).lo = _ ∧ (putTh q.g (bn n) _ (bn p.1)).hi = _
    rw [put_ne _ _ (hne p hp),ix_old ⟨p,hp,rfl⟩]
    exact ⟨k1,k2,k3,k4⟩
   ·have : p = (n,lo,hi) := by simpa using hp
    subst this
    show (putTh q.g (bn n) _ (bn n)).so = 4 ∧ (putTh q.g (bn n) _ (bn n)).pl = ((Env.mk (E.V ++ [(n,lo,hi)]) E.L E.C).ix n : Int) ∧ (putTh q.g (bn n) _ (bn n)).lo = lo ∧ (putTh q.g (bn n) _ (bn n)).hi = hi
    rw [put_at,ix_new n1]
    exact ⟨rfl,by show (q.vars.length : Int) = _;rw [h.vars];simp,rfl,rfl⟩
  ·have hp : p ∈ E.L := hp
   have e1 : bn p.1 ≠ bn n := fun e => n2 p hp (bn_inj.1 e)
   obtain ⟨k1,k2⟩ := h.ls p hp
   show (putTh q.g (bn n) _ (bn p.1)).so = 5 ∧ putLs q.ls (bn n) [] (bn p.1) = E.lst p.1
   rw [put_ne _ _ e1]
   exact ⟨k1,by unfold putLs;rw [if_neg e1];exact k2⟩
  ·obtain ⟨s1,s2⟩ := hs
   have e1 : bn s ≠ bn n := fun e => s1 (n,lo,hi) (by show (n,lo,hi) ∈ E.V ++ [(n,lo,hi)];simp) (bn_inj.1 e).symm
   show (putTh q.g (bn n) _ (bn s)).so = 0
   rw [put_ne _ _ e1]
   exact h.new s ⟨fun p hp => s1 p (by show p ∈ E.V ++ [(n,lo,hi)];simp [hp]),s2⟩
 ·
  obtain ⟨⟨n1,n2⟩,h2,h3⟩ := hf
  have e : qStep (AS.gst line (.list n a rs)) q = ⟨putTh q.g (bn n) ⟨5,0,0,0,.slice none 0 0⟩,q.vars,q.m,(0,0),q.cons,putLs q.ls (bn n) (a :: rs)⟩ := by
   unfold qStep
   have k : srt (AS.gst line (.list n a rs)).kw = 5 := by show srt (tkW _ line) = 5;rw [srt_W];rfl
   rw [if_neg (by rw [k];decide),if_pos k]
   have f2 : (((q.g (bn n)).so != 0) : Bool) = false := by rw [h.new n ⟨n1,n2⟩];rfl
   have f3 : foldSt numStP 0 ((a :: rs).map (tkI · line)) q.st = q.st := by
    refine fold_id 0 (fun i g hg => ?_)
    rw [List.getElem?_map] at hg
    obtain ⟨x,hx,rfl⟩ := Option.map_eq_some_iff.1 hg
    have hi : i < (a :: rs).length := (List.getElem?_eq_some_iff.1 hx).1
    have b := h3 x (List.mem_of_getElem? hx)
    unfold numStP
    have a1 : decide ((20 : Int) ≤ ((0 + i : Nat) : Int)) = false := by simp only [decide_eq_false_iff_not];omega
    have a2 : outB x 1000 = false := by unfold outB;simp;omega
    rw [a1,flt_no,tval_I,a2,flt_no]
   have f4 : ((a :: rs).map (tkI · line)).map tval = a :: rs := by
    rw [List.map_map]
    have : (tval ∘ fun x => tkI x line) = id := funext fun x => tval_I x line
    rw [this,List.map_id]
   show QSt.mk (putTh q.g (bn n) ⟨5,0,0,0,.slice none 0 0⟩) q.vars q.m (foldSt numStP 0 ((a :: rs).map (tkI · line)) (flt ((q.g (bn n)).so != 0) 4 (tkN' n line).line q.st)) q.cons (putLs q.ls (bn n) (((a :: rs).map (tkI · line)).map tval)) = _
   rw [f2,flt_no,f3,f4,h.st]
  rw [e]
  have hne : ∀ p ∈ E.V,bn p.1 ≠ bn n := fun p hp e => n1 p hp (bn_inj.1 e)
  have lst_old : ∀ p ∈ E.L,(Env.mk E.V (E.L ++ [(n,a :: rs)]) E.C).lst p.1 = E.lst p.1 := fun p hp => by
   unfold Env.lst
   show (((E.L ++ [(n,a :: rs)]).find? _).map _).getD [] = _
   rw [List.find?_append]
   have : (E.L.find? (fun q => q.1 == p.1)).isSome = true := by
    rw [List.find?_isSome];exact ⟨p,hp,by simp⟩
   obtain ⟨r,hr⟩ := Option.isSome_iff_exists.1 this
   rw [hr];rfl
  have lst_new : (Env.mk E.V (E.L ++ [(n,a :: rs)]) E.C).lst n = a :: rs := by
   unfold Env.lst
   show (((E.L ++ [(n,a :: rs)]).find? _).map _).getD [] = _
   rw [List.find?_append]
   have : E.L.find? (fun q => q.1 == n) = none := List.find?_eq_none.2 (fun p hp => by simpa using n2 p hp)
   rw [this];simp
  refine ⟨rfl,h.m,h.cons,h.vars,fun p hp => ?_,fun p hp => ?_,fun s hs => ?_⟩
  ·have hp : p ∈ E.V := hp
   show (putTh q.g (bn n) _ (bn p.1)).so = 4 ∧ (putTh q.g (bn n) _ (bn p.1)).pl = _ ∧ (putTh q.g (bn n) _ (bn p.1)).lo = _ ∧ (putTh q.g (bn n) _ (bn p.1)).hi = _
   rw [put_ne _ _ (hne p hp)]
   exact h.nm p hp
  ·have hp : p ∈ E.L ++ [(n,a :: rs)] := hp
   show (putTh q.g (bn n) _ (bn p.1)).so = 5 ∧ putLs q.ls (bn n) (a :: rs) (bn p.1) = (Env.mk E.V (E.L ++ [(n,a :: rs)]) E.C).lst p.1
   rcases List.mem_append.1 hp with hp | hp
   ·have e1 : bn p.1 ≠ bn n := fun e => n2 p hp (bn_inj.1 e)
    rw [put_ne _ _ e1,lst_old p hp]
    obtain ⟨k1,k2⟩ := h.ls p hp
    exact ⟨k1,by unfold putLs;rw [if_neg e1];exact k2⟩
   ·have : p = (n,a :: rs) := by simpa using hp
    subst this
    rw [put_at,lst_new]
    exact ⟨rfl,by unfold putLs;rw [if_pos rfl]⟩
  ·obtain ⟨s1,s2⟩ := hs
   have e1 : bn s ≠ bn n := fun e => s2 (n,a :: rs) (by show (n,a :: rs) ∈ E.L ++ [(n,a :: rs)];simp) (bn_inj.1 e).symm
   show (putTh q.g (bn n) _ (bn s)).so = 0
   rw [put_ne _ _ e1]
   exact h.new s ⟨s1,fun p hp => s2 p (by show p ∈ E.L ++ [(n,a :: rs)];simp [hp])⟩
 ·
  obtain ⟨h1,h2⟩ := hf
  have k : srt (AS.gst line (.lin t ts rel m)).kw = 6 := by show srt (tkW _ line) = 6;rw [srt_W];rfl
  refine h.con (by rw [k];decide) h1 (fun st => ?_) ?_
  ·unfold conSt
   rw [if_neg (by rw [k];decide),if_neg (by rw [k];decide),if_neg (by rw [k];decide),if_neg (by rw [k];decide)]
   exact sum_st h h2 line st
  ·unfold conOf
   rw [if_neg (by rw [k];decide),if_neg (by rw [k];decide),if_neg (by rw [k];decide),if_neg (by rw [k];decide)]
   show QCon.mk 0 0 (((t :: ts).map (AT.gt line)).map (fun t => ((thFind q.g t.name.s 4).pl,facV t))) (rRel (srt (tkS (relB rel) line))) (tval (tkI m line)) [] 0 0 [] [] = _
   rw [terms_is h h2,rel_rel,tval_I];rfl
 ·
  obtain ⟨h1,h3,h2⟩ := hf
  have k : srt (AS.gst line (.when b t ts rel m)).kw = 7 := by show srt (tkW _ line) = 7;rw [srt_W];rfl
  obtain ⟨t1,p,_,_,t2⟩ := h.tru h3
  refine h.con (by rw [k];decide) h1 (fun st => ?_) ?_
  ·unfold conSt
   rw [if_pos k]
   have e : truthSt q.g (tkN' b line) st = st := by
    unfold truthSt
    show flt (noTruthT (thFind q.g (bn b) 4)) 7 _ (flt ((q.g (bn b)).so != 4) 4 _ st) = st
    rw [t2,(h.so4 t1).1,flt_no]
    exact flt_no _ _ _
   show qLinSt q.g _ (truthSt q.g (tkN' b line) st) = st
   rw [e]
   exact sum_st h h2 line st
  ·unfold conOf
   rw [if_pos k]
   show QCon.mk 1 (thFind q.g (bn b) 4).pl (((t :: ts).map (AT.gt line)).map (fun t => ((thFind q.g t.name.s 4).pl,facV t))) (rRel (srt (tkS (relB rel) line))) (tval (tkI m line)) [] 0 0 [] [] = _
   rw [terms_is h h2,rel_rel,tval_I,(h.so4 t1).2];rfl
 ·
  obtain ⟨h1,⟨p,hp,rfl⟩,h3,h4⟩ := hf
  obtain ⟨l1,l2⟩ := h.ls p hp
  have k : srt (AS.gst line (.at_ p.1 kk v)).kw = 8 := by show srt (tkW _ line) = 8;rw [srt_W];rfl
  refine h.con (by rw [k];decide) h1 (fun st => ?_) ?_
  ·unfold conSt
   rw [if_neg (by rw [k];decide),if_pos k]
   show flt ((q.g (bn v)).so != 4) 4 _ (flt ((q.g (bn kk)).so != 4) 4 _ (flt ((q.g (bn p.1)).so != 5) 4 _ st)) = st
   rw [(h.so4 h3).1,(h.so4 h4).1,l1]
   exact (flt_no _ _ _).trans ((flt_no _ _ _).trans (flt_no _ _ _))
  ·unfold conOf
   rw [if_neg (by rw [k];decide),if_pos k]
   show QCon.mk 2 0 [] 0 0 (if (q.g (bn p.1)).so = 5 then q.ls (bn p.1) else []) (thFind q.g (bn kk) 4).pl (thFind q.g (bn v) 4).pl [] [] = _
   rw [if_pos l1,l2,(h.so4 h3).2,(h.so4 h4).2];rfl
 ·
  obtain ⟨h1,h2,h3⟩ := hf
  have k : srt (AS.gst line (.diff a rs)).kw = 9 := by show srt (tkW _ line) = 9;rw [srt_W];rfl
  refine h.con (by rw [k];decide) h1 (fun st => ?_) ?_
  ·unfold conSt
   rw [if_neg (by rw [k];decide),if_neg (by rw [k];decide),if_pos k]
   show foldSt (varStP q.g) 0 ((a :: rs).map (tkN' · line)) st = st
   refine fold_id 0 (fun i g hg => ?_)
   rw [List.getElem?_map] at hg
   obtain ⟨x,hx,rfl⟩ := Option.map_eq_some_iff.1 hg
   have hi : i < (a :: rs).length := (List.getElem?_eq_some_iff.1 hx).1
   unfold varStP
   have a1 : decide ((8 : Int) ≤ ((0 + i : Nat) : Int)) = false := by simp only [decide_eq_false_iff_not];omega
   show flt ((q.g (bn x)).so != 4) 4 _ (flt (decide ((8 : Int) ≤ ((0 + i : Nat) : Int))) 6 _ st) = st
   rw [a1,flt_no,(h.so4 (h3 x (List.mem_of_getElem? hx))).1]
   exact flt_no _ _ _
  ·unfold conOf
   rw [if_neg (by rw [k];decide),if_neg (by rw [k];decide),if_pos k]
   show QCon.mk 3 0 [] 0 0 [] 0 0 (((a :: rs).map (tkN' · line)).map (fun t => (thFind q.g t.s 4).pl)) [] = _
   have e : ((a :: rs).map (tkN' · line)).map (fun t => (thFind q.g t.s 4).pl) = (a :: rs).map (fun n => (E.ix n : Int)) := by
    rw [List.map_map]
    exact List.map_congr_left (fun n hn => (h.so4 (h3 n hn)).2)
   rw [e];rfl
 ·
  obtain ⟨h1,h2,h3⟩ := hf
  have k : srt (AS.gst line (.or a rs)).kw = 10 := by show srt (tkW _ line) = 10;rw [srt_W];rfl
  have nmL : ∀ p : Bool × List UInt8,(litG line p).name.s = bn p.2 := fun p => by unfold litG;split <;> rfl
  refine h.con (by rw [k];decide) h1 (fun st => ?_) ?_
  ·unfold conSt
   rw [if_neg (by rw [k];decide),if_neg (by rw [k];decide),if_neg (by rw [k];decide),if_pos k]
   show foldSt (litStP q.g) 0 ((a :: rs).map (litG line)) st = st
   refine fold_id 0 (fun i g hg => ?_)
   rw [List.getElem?_map] at hg
   obtain ⟨x,hx,rfl⟩ := Option.map_eq_some_iff.1 hg
   have hi : i < (a :: rs).length := (List.getElem?_eq_some_iff.1 hx).1
   obtain ⟨t1,p,_,_,t2⟩ := h.tru (h3 x (List.mem_of_getElem? hx))
   unfold litStP
   have a1 : decide ((8 : Int) ≤ ((0 + i : Nat) : Int)) = false := by simp only [decide_eq_false_iff_not];omega
   rw [a1,flt_no,nmL,t2,(h.so4 t1).1,flt_no]
   exact flt_no _ _ _
  ·unfold conOf
   rw [if_neg (by rw [k];decide),if_neg (by rw [k];decide),if_neg (by rw [k];decide),if_pos k]
   show QCon.mk 4 0 [] 0 0 [] 0 0 [] (((a :: rs).map (litG line)).map (fun t => ((thFind q.g t.name.s 4).pl,if srt t.first = 22 then 0 else 1))) = _
   have e : ((a :: rs).map (litG line)).map (fun t => ((thFind q.g t.name.s 4).pl,if srt t.first = 22 then (0 : Int) else 1)) = (a :: rs).map (fun p => ((E.ix p.2 : Int),if p.1 then 1 else 0)) := by
    rw [List.map_map]
    refine List.map_congr_left (fun p hp => ?_)
    obtain ⟨t1,_⟩ := h.tru (h3 p hp)
    show ((thFind q.g (litG line p).name.s 4).pl,if srt (litG line p).first = 22 then (0 : Int) else 1) = _
    rw [nmL,(h.so4 t1).2]
    unfold litG
    cases p.1 with
    | true =>
     have : srt (tkN' p.2 line) ≠ 22 := by
      unfold srt tkN' mkTok kwSort
      simp only
      rw [if_neg (by decide),if_neg (by decide),if_neg (by decide)]
      repeat' split
      all_goals decide
     simp [this]
    | false =>
     have : srt (tkS [33] line) = 22 := by rw [srt_S];rfl
     simp [this]
   rw [e];rfl
def allFine : Env → List (AS × List Pc) → Prop
 | _,[] => True
 | E,(a,_) :: r => a.fine E ∧ allFine (a.step E) r
def envOf (E : Env) (A : List (AS × List Pc)) : Env := A.foldl (fun E p => p.1.step E) E
theorem run_is : ∀ {A : List (AS × List Pc)} {q : QSt} {E : Env} (line : Nat),QIs q E → allFine E A → QIs (runQ (gsts line A) q) (envOf E A)
 | [],q,E,_,h,_ => h
 | (a,b) :: r,q,E,line,h,hf => by
  have q1 := AS.run h hf.1 line
  show QIs (runQ (a.gst line :: gsts (line + nlsP b) r) q) _
  simp only [runQ]
  rw [if_pos (by rw [q1.st])]
  exact run_is (line + nlsP b) q1 hf.2
theorem allFine_app : ∀ {A B : List (AS × List Pc)} {E : Env},allFine E A → allFine (envOf E A) B → allFine E (A ++ B)
 | [],B,E,_,h => h
 | (a,b) :: r,B,E,h,k => ⟨h.1,allFine_app (A := r) h.2 k⟩
theorem envOf_app (E : Env) (A B : List (AS × List Pc)) : envOf E (A ++ B) = envOf (envOf E A) B := by simp [envOf]
end
section
set_option maxHeartbeats 1000000
set_option maxRecDepth 100000
open Go.RowKit
theorem bn_app (a b : List UInt8) : bn a ++ bn b = bn (a ++ b) := by
 apply ByteArray.ext
 rw [ByteArray.data_append]
 apply Array.toList_inj.1
 rw [Array.toList_append]
 rfl
theorem kp_pick (c n : Int) (w : World) (hlo : -9223372036854775808 ≤ c) (hhi : c ≤ 9223372036854775807) (hn : 0 < n) (hn2 : n ≤ 9223372036854775807) : Calls Tryz.prog 16 #[.int .i64 c,.int .i64 n] w fun e w' => e = .returned (.int .i64 (pickI c n)) ∧ w' = w := by
 have hn0 : (n == 0) = false := by simp;omega
 by_cases hc : c < 0
 ·have HP : Hid (pickI c n = (-(c + 1)).tmod n) := by unfold Hid pickI;rw [if_pos hc]
  go_enter Tryz.func16,Tryz.ntmps16
  go_wp2
  all_goals go_ret
  all_goals refine ⟨ret_int ?_,rfl⟩
  all_goals rw [HP.out]
  exact (Int.neg_tmod ..).symm
 ·have HP : Hid (pickI c n = c.tmod n) := by unfold Hid pickI;rw [if_neg hc]
  go_enter Tryz.func16,Tryz.ntmps16
  go_wp2
  all_goals go_ret
  all_goals refine ⟨ret_int ?_,rfl⟩
  all_goals rw [HP.out]
  exact (Int.tmod_eq_emod_of_nonneg ‹_›).symm
def dg8 (k : Nat) : UInt8 := UInt8.ofNat (48 + k)
def ahead (m : Nat) : List UInt8 := if m = 0 then [] else Lib.decDigits m
theorem dec_ahead (n : Nat) : Lib.decDigits n = ahead (n / 10) ++ [dg8 (n % 10)] := by
 unfold ahead
 by_cases h : n < 10
 ·rw [Lib.decDigits_one h,if_pos (by omega),Nat.mod_eq_of_lt h];rfl
 ·rw [Lib.decDigits,dif_neg h,if_neg (by omega)];rfl
theorem ahead_step {m : Nat} (h : m ≠ 0) : ahead m = ahead (m / 10) ++ [dg8 (m % 10)] := by
 rw [← dec_ahead];unfold ahead;rw [if_neg h]
theorem dig_one (m : Nat) : strOfNums [48 + (m : Int) % 10] = bn [dg8 (m % 10)] := by
 have e : (48 + (m : Int) % 10) = ((48 + m % 10 : Nat) : Int) := by omega
 rw [e]
 apply ByteArray.ext
 apply Array.toList_inj.1
 rfl
theorem kp_digits_pos (n : Nat) (w : World) (h1 : n ≤ 1000000000000) : Calls Tryz.prog 20 #[.int .i64 (n : Int)] w fun e w' => e = .returned (.string (bn (Lib.decDigits n))) ∧ w.grownBy w' none := by
 have hcv : ∀ (wr : World) (m : Nat),(convert 65 9 (Value.slice (some ⟨wr.heap.size,0,none⟩) 1 1)).run Tryz.prog (wr.alloc (.cells #[.int .u8 (48 + (m : Int) % 10)] 5)) = .ok (.string (bn [dg8 (m % 10)])) (wr.alloc (.cells #[.int .u8 (48 + (m : Int) % 10)] 5)) := fun wr m => by
  rw [← dig_one]
  exact run_convert_bytes_arg _ 65 5 Tryz.underlying65 Tryz.underlying5 wr.heap.size 0 1 1 [48 + (m : Int) % 10] rfl (fun i hi => by
     obtain rfl : i = 0 := by omega
     simp) 9 Tryz.underlying9
 have hcv0 := hcv w n
 have HCV := hide hcv
 have hn0 : (0 : Int) ≤ n := by omega
 have hn1 : (n : Int) ≤ 1000000000000 := by omega
 have HS : Hid (ahead (n / 10) ++ [dg8 (n % 10)] = Lib.decDigits n) := (dec_ahead n).symm
 have hDl : (Lib.decDigits n).length ≤ 13 := dec_len 12 n (by omega)
 generalize Lib.decDigits n = D at *
 clear hcv
 go_enter Tryz.func20,Tryz.ntmps20
 go_wp2
 go_loopw [0,3] (fun vm vt wr => ∃ (m : Nat) (t : List UInt8),m ≤ 1000000000000 ∧ vm = .int .i64 m ∧ vt = .string (bn t) ∧ ahead m ++ t = D ∧ w.grownBy wr none) (fun vm _ _ => (intOf vm).toNat)
 case atStart => exact ⟨n / 10,[dg8 (n % 10)],by omega,by go_num,rfl,HS.out,World.grownBy_alloc _ _ _⟩
 case round =>
  obtain ⟨m,t,hm,rfl,rfl,hD,hg⟩ := hrel
  by_cases h0 : m = 0
  ·have hle : (m : Int) ≤ 0 := by omega
   have HD : Hid (t = D) := by rw [Hid,← hD,h0];rfl
   clear hD h0
   go_wp2
   go_ret
   exact ⟨by rw [HD.out];rfl,hg⟩
  ·have hcv1 := HCV.out wr m
   have hpos : (0 : Int) < m := by omega
   have hm2 : (m : Int) ≤ 1000000000000 := by omega
   have HD : Hid (ahead (m / 10) ++ (dg8 (m % 10) :: t) = D) := by rw [Hid,← hD,ahead_step h0,List.append_assoc];rfl
   have HB : Hid (bn [dg8 (m % 10)] ++ bn t = bn (dg8 (m % 10) :: t)) := bn_app _ _
   have hs1 : (bn [dg8 (m % 10)]).size = 1 := rfl
   have hs2 : (bn t).size ≤ 13 := by rw [bn_size];have q := congrArg List.length hD;rw [List.length_append] at q;omega
   clear hD h0
   go_wp2
   go_roundw
   case rel => exact ⟨m / 10,dg8 (m % 10) :: t,by omega,by go_num,by rw [← HB.out],HD.out,hg.trans (World.grownBy_alloc _ _ _)⟩
   case measure => simp [intOf];omega
theorem bn_mk (a : List UInt8) (xs : Array UInt8) : bn a ++ ⟨xs⟩ = bn (a ++ xs.toList) := bn_app a xs.toList
theorem mk_bn (a : List UInt8) (xs : Array UInt8) : (⟨xs⟩ : ByteArray) ++ bn a = bn (xs.toList ++ a) := bn_app xs.toList a
theorem mk_size (xs : Array UInt8) : (ByteArray.mk xs).size = xs.size := rfl
theorem itoa_len {m : Int} (h1 : -1000000000000 ≤ m) (h2 : m ≤ 1000000000000) : (Lib.itoa m).length ≤ 14 := by
 unfold Lib.itoa
 split
 ·have := dec_len 12 m.natAbs (by omega)
  simp;omega
 ·have := dec_len 12 m.toNat (by omega)
  omega
theorem itoa_neg {m : Int} (h : m < 0) : Lib.itoa m = 45 :: Lib.decDigits m.natAbs := by unfold Lib.itoa;rw [if_pos h]
theorem itoa_pos {m : Int} (h : ¬ m < 0) : Lib.itoa m = Lib.decDigits m.toNat := by unfold Lib.itoa;rw [if_neg h]
attribute [local go_sem] bn_app bn_mk mk_bn bn_size mk_size List.length_append List.length_cons List.length_nil
theorem kp_digits (m : Int) (w : World) (h1 : -1000000000 ≤ m) (h2 : m ≤ 1000000000) : Calls Tryz.prog 20 #[.int .i64 m] w fun e w' => e = .returned (.string (bn (Lib.itoa m))) ∧ w.grownBy w' none := by
 by_cases h : m < 0
 ·rw [itoa_neg h]
  obtain ⟨k,hk⟩ : ∃ k : Nat,-m = (k : Int) := ⟨m.natAbs,by omega⟩
  have ek : m.natAbs = k := by omega
  rw [ek]
  have K := Kept.mk (fun W => kp_digits_pos k W (by omega))
  have hl := dec_len 12 k (by omega)
  generalize Lib.decDigits k = D at *
  clear ek
  go_enter Tryz.func20,Tryz.ntmps20
  go_wp2_with (go_at_call 20;refine (K.get _).mono ?_;rintro e w1 ⟨rfl,hg⟩)
  go_ret
  exact ⟨rfl,hg⟩
 ·rw [itoa_pos h]
  have q := kp_digits_pos m.toNat w (by omega)
  have e : ((m.toNat : Nat) : Int) = m := by omega
  rw [e] at q
  exact q
def nmK (k : Nat) : List UInt8 := 120 :: Lib.itoa (k : Int)
theorem kp_name (k : Nat) (w : World) (h1 : k ≤ 1000) : Calls Tryz.prog 19 #[.int .i64 (k : Int)] w fun e w' => e = .returned (.string (bn (nmK k))) ∧ w.grownBy w' none := by
 have K := Kept.mk (fun W => kp_digits (k : Int) W (by omega) (by omega))
 have hl : (Lib.itoa (k : Int)).length ≤ 14 := itoa_len (by omega) (by omega)
 have HN : Hid (nmK k = 120 :: Lib.itoa (k : Int)) := rfl
 generalize nmK k = N at *
 generalize Lib.itoa (k : Int) = D at *
 go_enter Tryz.func19,Tryz.ntmps19
 go_wp2_with (go_at_call 20;refine (K.get _).mono ?_;rintro e w1 ⟨rfl,hg⟩)
 go_ret
 exact ⟨by rw [HN.out];rfl,hg⟩
def varsA (lo hi : Int) : Nat → List (AS × List Pc)
 | 0 => []
 | k + 1 => varsA lo hi k ++ [(.var (nmK k) lo hi,[.nl])]
def varB (k : Nat) (lo hi : Int) : List UInt8 := [118,97,114,32] ++ (nmK k ++ ([58,32] ++ (Lib.itoa lo ++ ([46,46] ++ (Lib.itoa hi ++ [59,10])))))
def varsB (lo hi : Int) : Nat → List UInt8
 | 0 => []
 | k + 1 => varsB lo hi k ++ varB k lo hi
theorem nmK_len {k : Nat} (h : k ≤ 1000) : (nmK k).length ≤ 15 := by
 have := itoa_len (m := (k : Int)) (by omega) (by omega)
 simp [nmK];omega
theorem varB_len {k : Nat} {lo hi : Int} (hk : k ≤ 1000) (h1 : (Lib.itoa lo).length ≤ 14) (h2 : (Lib.itoa hi).length ≤ 14) : (varB k lo hi).length ≤ 60 := by
 have := nmK_len hk
 simp [varB];omega
theorem varsB_len {lo hi : Int} (h1 : (Lib.itoa lo).length ≤ 14) (h2 : (Lib.itoa hi).length ≤ 14) : ∀ {k : Nat},k ≤ 1000 → (varsB lo hi k).length ≤ 60 * k
 | 0,_ => Nat.le_refl _
 | k + 1,h => by
  have := varsB_len h1 h2 (k := k) (by omega)
  have := varB_len (k := k) (by omega) h1 h2
  simp only [varsB,List.length_append]
  omega
theorem kp_vars (n : Nat) (lo hi : Int) (w : World) (hn : n ≤ 100) (h1 : -1000000 ≤ lo) (h2 : lo ≤ 1000000) (h3 : -1000000 ≤ hi) (h4 : hi ≤ 1000000) : Calls Tryz.prog 17 #[.int .i64 (n : Int),.int .i64 lo,.int .i64 hi] w fun e w' => e = .returned (.string (bn (varsB lo hi n))) ∧ w.grownBy w' none := by
 have KN := Kept.mk (fun {k : Nat} (hk : k ≤ 100) W => kp_name k W (by omega))
 have KL := Kept.mk (fun W => kp_digits lo W (by omega) (by omega))
 have KH := Kept.mk (fun W => kp_digits hi W (by omega) (by omega))
 have l1 : (Lib.itoa lo).length ≤ 14 := itoa_len (by omega) (by omega)
 have l2 : (Lib.itoa hi).length ≤ 14 := itoa_len (by omega) (by omega)
 have HLB : Hid (∀ k,k ≤ 100 → (varsB lo hi k).length ≤ 60 * k) := fun k hk => varsB_len l1 l2 (by omega)
 have HNL : Hid (∀ k,k ≤ 100 → (nmK k).length ≤ 15) := fun k hk => nmK_len (by omega)
 go_enter Tryz.func17,Tryz.ntmps17
 go_wp2
 go_loopw [7,8] (fun vs vk wr => ∃ k : Nat,k ≤ n ∧ vk = .int .i64 k ∧ vs = .string (bn (varsB lo hi k)) ∧ w.grownBy wr none) (fun _ vk _ => n - (intOf vk).toNat)
 case atStart => exact ⟨0,Nat.zero_le _,rfl,rfl,grown_refl _ _⟩
 case round =>
  obtain ⟨k,hk,rfl,rfl,hg⟩ := hrel
  by_cases hlt : k < n
  ·have hlt2 : (k : Int) < n := by omega
   have lb := HLB.out k (by omega)
   have ln := HNL.out k (by omega)
   have HE : Hid (varsB lo hi (k + 1) = varsB lo hi k ++ varB k lo hi) := rfl
   have HV : Hid (varB k lo hi = [118,97,114,32] ++ (nmK k ++ ([58,32] ++ (Lib.itoa lo ++ ([46,46] ++ (Lib.itoa hi ++ [59,10])))))) := rfl
   have KNk := Kept.mk (fun W => KN.get (k := k) (by omega) W)
   generalize varsB lo hi k = B at *
   generalize nmK k = N at *
   go_wp2_with (first | (go_at_call 19;refine (KNk.get _).mono ?_;rintro e w1 ⟨rfl,hg1⟩) | (go_at_call 20;have hz := hg2;refine (KH.get _).mono ?_;rintro e w3 ⟨rfl,hg3⟩) | (go_at_call 20;refine (KL.get _).mono ?_;rintro e w2 ⟨rfl,hg2⟩))
   go_roundw
   case rel => exact ⟨k + 1,by omega,by go_num,by rw [HE.out,HV.out];simp [List.append_assoc],((hg.trans hg1).trans hg2).trans hg3⟩
   case measure => simp [intOf];omega
  ·obtain rfl : k = n := by omega
   go_wp2
   go_ret
   exact ⟨rfl,hg⟩
end
section
set_option maxHeartbeats 2000000
set_option maxRecDepth 100000
open Go.RowKit
variable {w w' : World}
attribute [local go_sem] bn_app bn_mk mk_bn bn_size mk_size List.length_append List.length_cons List.length_nil
theorem kp_sameRow {va vb : Value} {x y : List Int} (ha : ValsIn w va x) (hb : ValsIn w vb y) (hx : x.length ≤ 100000) (hy : y.length ≤ 100000) : Calls Tryz.prog 28 #[va,vb] w fun e w' => e = .returned (.bool (decide (x = y))) ∧ w.grownBy w' none := by
 obtain ⟨aa,ac,rfl⟩ := ha.is
 obtain ⟨ba,bc,rfl⟩ := hb.is
 obtain ⟨R,hR⟩ : ∃ R,R = decide (x = y) := ⟨_,rfl⟩
 have HR : Hid (R = decide (x = y)) := hR
 rw [← hR]
 clear hR
 have HA := hide ha
 have HB := hide hb
 clear ha hb
 by_cases hl : x.length = y.length
 ·have hl' : ((x.length : Int) != (y.length : Int)) = false := by simp [hl]
  go_enter Tryz.func28,Tryz.ntmps28
  go_wp2
  go_loopw [5] (fun vi wr => ∃ i : Nat,i ≤ x.length ∧ vi = .int .i64 i ∧ (∀ j,j < i → x[j]? = y[j]?) ∧ w.grownBy wr none) (fun vi _ => x.length - (intOf vi).toNat)
  case atStart => exact ⟨0,Nat.zero_le _,rfl,fun j hj => by omega,grown_refl _ _⟩
  case round =>
   obtain ⟨i,hi,rfl,hall,hgr⟩ := hrel
   have HALL := hide hall
   clear hall
   by_cases hlt2 : i < x.length
   ·obtain ⟨u,hu⟩ : ∃ u,x[i]? = some u := ⟨x[i],List.getElem?_eq_getElem hlt2⟩
    obtain ⟨v,hv⟩ : ∃ v,y[i]? = some v := ⟨y[i]'(by omega),List.getElem?_eq_getElem (by omega)⟩
    rcases HA.out with ⟨rfl,_⟩ | ⟨ga,ca,hVA⟩
    ·simp at hlt2
    rcases HB.out with ⟨rfl,_⟩ | ⟨gb,cb,hVB⟩
    ·simp at hv
    have ea : aa = some ⟨ga,0,none⟩ := by have q := hVA.is;injection q
    have eb : ba = some ⟨gb,0,none⟩ := by have q := hVB.is;injection q
    subst ea eb
    have k1 : wr.cell? ⟨ga,i,none⟩ = some (.int .i64 u) := by have q := (hVA.kept hgr (by simp)).at (sz := 1) (fun _ => rfl) hu 0 _ rfl;rw [Nat.mul_one] at q;exact q
    have k2 : wr.cell? ⟨gb,i,none⟩ = some (.int .i64 v) := by have q := (hVB.kept hgr (by simp)).at (sz := 1) (fun _ => rfl) hv 0 _ rfl;rw [Nat.mul_one] at q;exact q
    have hlt3 : (i : Int) < x.length := by omega
    have hlt4 : (i : Int) < y.length := by omega
    have h03 : (0 : Int) ≤ i := by omega
    have HGR := hide hgr
    have HUV := hide (And.intro hu hv)
    clear hVA hVB hgr hu hv
    by_cases huv : u = v
    ·have huv' : (u != v) = false := by simp [huv]
     have HE := hide huv
     clear huv
     go_wp2
     go_quiet (fail)
     go_wp2
     go_roundw
     case rel => exact ⟨i + 1,by omega,by go_num,fun j hj => by
      by_cases e : j = i
      ·subst e;rw [HUV.out.1,HUV.out.2,HE.out]
      ·exact HALL.out j (by omega),HGR.out.trans (grown_drewN' _ _ _)⟩
     case measure => simp [intOf];omega
    ·have huv' : (u != v) = true := by simpa using huv
     have HE := hide huv
     clear huv
     go_wp2
     go_quiet (fail)
     go_wp2
     go_ret
     refine ⟨?_,HGR.out.trans (grown_drewN' _ _ _)⟩
     have : R = false := by
      rw [HR.out]
      simp only [decide_eq_false_iff_not]
      rintro rfl
      have q := HUV.out.1.symm.trans HUV.out.2
      exact HE.out (Option.some.inj q)
     rw [this];rfl
   ·obtain rfl : i = x.length := by omega
    go_wp2
    go_ret
    refine ⟨?_,hgr⟩
    have : R = true := by
     rw [HR.out]
     simp only [decide_eq_true_eq]
     apply List.ext_getElem?
     intro j
     by_cases hj : j < x.length
     ·exact HALL.out j hj
     ·rw [List.getElem?_eq_none (by omega),List.getElem?_eq_none (by omega)]
    rw [this];rfl
 ·have hl' : ((x.length : Int) != (y.length : Int)) = true := by simp;omega
  have HL := hide hl
  clear hl
  go_enter Tryz.func28,Tryz.ntmps28
  go_wp2
  go_ret
  refine ⟨?_,grown_refl _ _⟩
  have : R = false := by
   rw [HR.out]
   simp only [decide_eq_false_iff_not]
   rintro rfl
   exact HL.out rfl
  rw [this];rfl
def LL (w : World) (v : Value) (rows : List (List Int)) : Prop := (rows = [] ∧ ∃ a c,v = .slice a 0 c) ∨ ∃ g cap,v = .slice (some ⟨g,0,none⟩) rows.length cap ∧ g < w.heap.size ∧ (∀ (i : Nat) r,rows[i]? = some r → ∃ u,w.cell? ⟨g,i,none⟩ = some u ∧ ValsIn w u r) ∧ rows.length ≤ cap
theorem LL.is {v : Value} {rows : List (List Int)} (h : LL w v rows) : ∃ a c,v = .slice a rows.length c := by
 rcases h with ⟨rfl,a,c,e⟩ | ⟨g,cap,e,_⟩
 ·exact ⟨a,c,e⟩
 ·exact ⟨_,_,e⟩
theorem LL.grown {v : Value} {rows : List (List Int)} (h : LL w v rows) (hg : w.grownBy w' none) : LL w' v rows := by
 rcases h with h | ⟨g,cap,e,h1,h2,h3⟩
 ·exact .inl h
 ·refine .inr ⟨g,cap,e,Nat.lt_of_lt_of_le h1 hg.size,fun i r hr => ?_,h3⟩
  obtain ⟨u,q1,q2⟩ := h2 i r hr
  exact ⟨u,hg.cell q1 (by simp),q2.grown hg⟩
theorem LL.at_ {a : Option Addr} {n c : Nat} {rows : List (List Int)} (h : LL w (.slice a n c) rows) {i : Nat} {r : List Int} (hr : rows[i]? = some r) : ∃ g u,a = some ⟨g,0,none⟩ ∧ g < w.heap.size ∧ w.cell? ⟨g,i,none⟩ = some u ∧ ValsIn w u r := by
 rcases h with ⟨rfl,_⟩ | ⟨g,cap,e,h1,h2,_⟩
 ·cases hr
 ·obtain ⟨u,q1,q2⟩ := h2 i r hr
  injection e with e
  exact ⟨g,u,e,h1,q1,q2⟩
theorem LL.cap {a : Option Addr} {n c : Nat} {rows : List (List Int)} (h : LL w (.slice a n c) rows) : rows.length ≤ c ∨ rows = [] := by
 rcases h with ⟨h,_⟩ | ⟨g,cap,e,_,_,h3⟩
 ·exact .inr h
 ·injection e with _ _ e3
  exact .inl (by rw [e3];exact h3)
theorem kp_has {vl vr : Value} {rows : List (List Int)} {r : List Int} (hl : LL w vl rows) (hr : ValsIn w vr r) (hn : rows.length ≤ 1000000) (hb : ∀ x ∈ rows,x.length ≤ 100000) (hrl : r.length ≤ 100000) : Calls Tryz.prog 23 #[vl,vr] w fun e w' => e = .returned (.bool (decide (r ∈ rows))) ∧ w.grownBy w' none := by
 obtain ⟨la,lc,rfl⟩ := hl.is
 obtain ⟨R,hR⟩ : ∃ R,R = decide (r ∈ rows) := ⟨_,rfl⟩
 have HR : Hid (R = decide (r ∈ rows)) := hR
 rw [← hR]
 clear hR
 have KS := Kept.mk (fun {W : World} {u : Value} {x : List Int} (hg : w.grownBy W none) (hx : ValsIn W u x) (hxm : x ∈ rows) => kp_sameRow hx (hr.grown hg) (hb x hxm) hrl)
 have HL := hide hl
 clear hl hr hb
 go_enter Tryz.func23,Tryz.ntmps23
 go_wp2
 go_loopw [5] (fun vi wr => ∃ i : Nat,i ≤ rows.length ∧ vi = .int .i64 i ∧ (∀ x ∈ rows.take i,x ≠ r) ∧ w.grownBy wr none) (fun vi _ => rows.length - (intOf vi).toNat)
 case atStart => exact ⟨0,Nat.zero_le _,rfl,fun x hx => by simp at hx,grown_refl _ _⟩
 case round =>
  obtain ⟨i,hi,rfl,hall,hgr⟩ := hrel
  have HALL := hide hall
  clear hall
  by_cases hlt2 : i < rows.length
  ·obtain ⟨x,hx⟩ : ∃ x,rows[i]? = some x := ⟨rows[i],List.getElem?_eq_getElem hlt2⟩
   obtain ⟨g,u,rfl,hg1,k1,k2⟩ := (HL.out.grown hgr).at_ hx
   have KX := Kept.mk (fun {W : World} (hg : wr.grownBy W none) => KS.get (hgr.trans hg) (k2.grown hg) (List.mem_of_getElem? hx))
   have hlt3 : (i : Int) < rows.length := by omega
   have h03 : (0 : Int) ≤ i := by omega
   have HGR := hide hgr
   have HX := hide hx
   obtain ⟨ua,uc,hu⟩ := k2.is
   subst hu
   clear hgr hx k2
   by_cases e : x = r
   ·have HE := hide e
    have hd : decide (x = r) = true := by simpa using e
    rw [hd] at KX
    clear e hd
    go_wp2_with (go_at_call 28;refine (KX.get (grown_refl _ _)).mono ?_;rintro e w1 ⟨rfl,hg2⟩)
    go_ret
    refine ⟨?_,HGR.out.trans hg2⟩
    have : R = true := by
     rw [HR.out]
     simp only [decide_eq_true_eq]
     rw [← HE.out]
     exact List.mem_of_getElem? HX.out
    rw [this];rfl
   ·have HE := hide e
    have hd : decide (x = r) = false := by simpa using e
    rw [hd] at KX
    clear e hd
    go_wp2_with (go_at_call 28;refine (KX.get (grown_refl _ _)).mono ?_;rintro e w1 ⟨rfl,hg2⟩)
    go_roundw
    case rel => exact ⟨i + 1,by omega,by go_num,fun y hy => by
     rw [List.take_add_one,HX.out] at hy
     rcases List.mem_append.1 hy with q | q
     ·exact HALL.out y q
     ·have : y = x := by simpa using q
      rw [this];exact HE.out,HGR.out.trans hg2⟩
    case measure => simp [intOf];omega
  ·obtain rfl : i = rows.length := by omega
   go_wp2
   go_ret
   refine ⟨?_,hgr⟩
   have : R = false := by
    rw [HR.out]
    simp only [decide_eq_false_iff_not]
    intro q
    exact HALL.out r (by rw [List.take_length];exact q) rfl
   rw [this];rfl
theorem kp_alike {va vb : Value} {a b : List (List Int)} (ha : LL w va a) (hb : LL w vb b) (hl : a.length = b.length) (hin : ∀ x ∈ a,x ∈ b) (hn : a.length ≤ 1000000) (hab : ∀ x ∈ a,x.length ≤ 100000) (hbb : ∀ x ∈ b,x.length ≤ 100000) : Calls Tryz.prog 26 #[va,vb] w fun e w' => e = .returned (.bool true) ∧ w.grownBy w' none := by
 obtain ⟨aa,ac,rfl⟩ := ha.is
 obtain ⟨ba,bc,rfl⟩ := hb.is
 have KS := Kept.mk (fun {W : World} {u : Value} {x : List Int} (hg : w.grownBy W none) (hx : ValsIn W u x) (hxm : x ∈ a) => kp_has (hb.grown hg) hx (by omega) hbb (hab x hxm))
 have HIN := hide hin
 have HA := hide ha
 have hl' : ((a.length : Int) != (b.length : Int)) = false := by simp [hl]
 clear ha hb hin hab hbb hl
 go_enter Tryz.func26,Tryz.ntmps26
 go_wp2
 go_loopw [5] (fun vi wr => ∃ i : Nat,i ≤ a.length ∧ vi = .int .i64 i ∧ w.grownBy wr none) (fun vi _ => a.length - (intOf vi).toNat)
 case atStart => exact ⟨0,Nat.zero_le _,rfl,grown_refl _ _⟩
 case round =>
  obtain ⟨i,hi,rfl,hgr⟩ := hrel
  by_cases hlt2 : i < a.length
  ·obtain ⟨x,hx⟩ : ∃ x,a[i]? = some x := ⟨a[i],List.getElem?_eq_getElem hlt2⟩
   have hxm := List.mem_of_getElem? hx
   obtain ⟨g,u,rfl,hg1,k1,k2⟩ := (HA.out.grown hgr).at_ hx
   have KX := Kept.mk (fun {W : World} (hg : wr.grownBy W none) => KS.get (hgr.trans hg) (k2.grown hg) hxm)
   have hd : decide (x ∈ b) = true := by simpa using HIN.out x hxm
   rw [hd] at KX
   have hlt3 : (i : Int) < a.length := by omega
   have h03 : (0 : Int) ≤ i := by omega
   have HGR := hide hgr
   obtain ⟨ua,uc,hu⟩ := k2.is
   subst hu
   clear hgr hx k2 hxm hd
   go_wp2_with (go_at_call 23;refine (KX.get (grown_refl _ _)).mono ?_;rintro e w1 ⟨rfl,hg2⟩)
   go_roundw
   case rel => exact ⟨i + 1,by omega,by go_num,HGR.out.trans hg2⟩
   case measure => simp [intOf];omega
  ·obtain rfl : i = a.length := by omega
   go_wp2
   go_ret
   exact ⟨rfl,hgr⟩
end
end Go.Proofs.YthpcbbnabnlanaaGreatDoor
