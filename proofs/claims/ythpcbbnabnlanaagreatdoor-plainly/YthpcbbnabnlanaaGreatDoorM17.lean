import Derived.Test.YthpcbbnabnlanaaGreatDoorM06
import Derived.Test.YthpcbbnabnlanaaGreatDoorM11
import Derived.Test.YthpcbbnabnlanaaGreatDoorM12
import Derived.Test.YthpcbbnabnlanaaGreatDoorM13
import Derived.Test.YthpcbbnabnlanaaGreatDoorM16
import Derived.Deep.LoopGhost
namespace Go.Proofs.YthpcbbnabnlanaaGreatDoor
set_option linter.unusedVariables false
set_option linter.unusedSimpArgs false
section
set_option maxHeartbeats 4000000
open Go.RowKit
theorem own_blk {w : World} {B e s n b : Nat} {v : Value} {xs : List Value} (h : w.ownsRow B e s v n xs) (hb : v.ownBlock = some b) : ∃ cur,w.heap[b]? = some (.cells cur e (0,0)) := by
 rcases h.2 with ⟨h,_⟩ | ⟨g,cap,cur,h,_,h3,_⟩
 ·rw [h] at hb;cases hb
 ·rw [h] at hb
  have : g = b := Option.some.inj hb
  subst this
  exact ⟨cur,h3⟩
theorem ownBut {w w' : World} {B e s n : Nat} {v : Value} {xs : List Value} {S : List Nat} (h : w.ownsRow B e s v n xs) (hb : But S w w') (hn : ∀ b,v.ownBlock = some b → b ∉ S) : w'.ownsRow B e s v n xs := by
 refine ⟨h.1,?_⟩
 rcases h.2 with h2 | ⟨g,cap,cur,h1,hB,h3,h4⟩
 ·exact .inl h2
 ·refine .inr ⟨g,cap,cur,h1,hB,?_,h4⟩
  rw [hb.block g (Array.getElem?_eq_some_iff.1 h3).1 (hn g (by rw [h1];rfl))]
  exact h3
theorem out_of {w : World} {B e e' s s' n n' bc bm : Nat} {v v' : Value} {xs xs' : List Value} (h : w.ownsRow B e s v n xs) (h' : w.ownsRow B e' s' v' n' xs') (he : e ≠ e') (hc : bc < B) (hm : bm < B) (b : Nat) (hb : v.ownBlock = some b) : b ∉ [bc,bm] ++ v'.ownBlock.toList := by
 have hB := (h.lt b hb).1
 obtain ⟨cur,h3⟩ := own_blk h hb
 intro q
 rcases List.mem_append.1 q with q | q
 ·simp at q;omega
 ·have q2 : v'.ownBlock = some b := by simpa using q
  obtain ⟨cur',h3'⟩ := own_blk h' q2
  rw [h3] at h3'
  cases h3'
  exact he rfl
theorem out_of1 {w : World} {B e s n bc bm : Nat} {v : Value} {xs : List Value} (h : w.ownsRow B e s v n xs) (hc : bc < B) (hm : bm < B) (b : Nat) (hb : v.ownBlock = some b) : b ∉ [bc,bm] := by
 have hB := (h.lt b hb).1
 intro q;simp at q;omega
theorem in_B {w : World} {B e s n bc bm : Nat} {v : Value} {xs : List Value} (h : w.ownsRow B e s v n xs) : ∀ k ∈ [bc,bm] ++ v.ownBlock.toList,k = bc ∨ k = bm ∨ B ≤ k := by
 intro k hk
 rcases List.mem_append.1 hk with q | q
 ·simp at q;rcases q with q | q
  ·exact .inl q
  ·exact .inr (.inl q)
 ·exact .inr (.inr ((h.lt k (by simpa using q)).1))
theorem in_ty {w : World} {B e s n bc bm : Nat} {v : Value} {xs : List Value} (h : w.ownsRow B e s v n xs) (he : e = 99 ∨ e = 78) (hc : bc < B) (hm : bm < B) : ∀ k,k ∈ [bc,bm] ++ v.ownBlock.toList → k < B ∨ ∃ c e,w.heap[k]? = some (.cells c e (0,0)) ∧ (e = 99 ∨ e = 78) := by
 intro k hk
 rcases List.mem_append.1 hk with q | q
 ·simp at q;exact .inl (by omega)
 ·obtain ⟨cur,h3⟩ := own_blk h (by simpa using q)
  exact .inr ⟨cur,e,h3,he⟩
theorem ConPost.done {w W : World} {bc bm n B m k : Nat} {g : ByteArray → Th} {vV vC : Value} {vars : List QVar} {S : FSt} {cs : List CRow} {cons : List QCon} {ls : ByteArray → List Int} {C : QCon} {e : Ending} {w' : World} (hf : Fr B bc bm w W) (h : ConPost W bc bm n B m g vV vC S (cs.flatMap CRow.cells) C e w') (hv : ThOk g) (hoV : W.ownsRow B 78 3 vV vars.length (vars.flatMap qvCell)) (hoC : W.ownsRow B 99 10 vC m (cs.flatMap CRow.cells)) (hD : SenC W B g cons ls cs) (h1 : n ≤ k) (h2 : vars.length ≤ k) (h3 : m ≤ k) (hc : bc < B) (hm : bm < B) (hB : B ≤ W.heap.size) : e = .returned (.tuple #[]) ∧ Sen w' bc bm B (k + 1) ⟨eraseV g,vars,m + 1,S,cons ++ [C],ls⟩ ∧ Fr B bc bm w w' := by
 obtain ⟨rfl,v,x,rfl,hx,hown,hbut,hC⟩ := h
 have hbut' : But ([bc,bm] ++ vC.ownBlock.toList) W w' := hbut.mono (fun k hk => by
  rcases List.mem_append.1 hk with q | q
  ·simp only [List.mem_cons,List.not_mem_nil,or_false] at q
   exact List.mem_append.2 (.inl (by simp [q]))
  ·exact List.mem_append.2 (.inr q))
 have fr := Fr.of_but (bc := bc) (bm := bm) hbut' hB (in_B hoC)
 have hD' := hD.but hbut' (in_ty hoC (.inl rfl) hc hm)
 refine ⟨rfl,⟨n,g,vV,v,cs ++ [x],hC,rfl,hv,ownBut hoV hbut' (out_of hoV hoC (by decide) hc hm),?_,⟨by rw [List.map_append,hD'.row];rfl,fun y hy => ?_,hD'.ls⟩,by omega,by simp only;omega,by simp only;omega,hc,hm,?_⟩,hf.trans fr⟩
 ·rw [List.flatMap_append];simpa using hown
 ·rcases List.mem_append.1 hy with q | q
  ·exact hD'.at_ y q
  ·simp only [List.mem_cons,List.not_mem_nil,or_false] at q;subst q;exact hx
 ·have := fr.size;omega
theorem find_ls {w : World} {B : Nat} {g : ByteArray → Th} {cons : List QCon} {ls : ByteArray → List Int} {cs : List CRow} (h : SenC w B g cons ls cs) (s : ByteArray) : w.ownsRow B 3 1 (thFind g s 5).v (if (g s).so = 5 then ls s else []).length ((if (g s).so = 5 then ls s else []).flatMap inCell) := by
 unfold thFind
 split
 ·exact h.ls s
 ·exact World.ownsRow_nil _ _ _ _
theorem SenC.put {w : World} {B : Nat} {g : ByteArray → Th} {cons : List QCon} {ls : ByteArray → List Int} {cs : List CRow} (h : SenC w B g cons ls cs) (s : ByteArray) {t : Th} {l : List Int} (hl : w.ownsRow B 3 1 t.v l.length (l.flatMap inCell)) : SenC w B (putTh g s t) cons (putLs ls s l) cs :=
 ⟨h.row,h.at_,fun s' => by
  unfold putTh putLs
  split
  ·exact hl
  ·exact h.ls s'⟩
theorem sn_one {w : World} {bc bm B k : Nat} {q : QSt} (h : Sen w bc bm B k q) (hk : k ≤ 2500) (x : GRow) (hx : GIn w B bc bm x) (ho : StOk x.s) : Calls Tryz.prog 70 #[.pointer (some ⟨bc,0,none⟩),.agg (gsCells x.s x.vn x.vu x.vt x.vl)] w fun e w' => e = .returned (.tuple #[]) ∧ Sen w' bc bm B (k + 1) (qStep x.s q) ∧ Fr B bc bm w w' := by
 obtain ⟨n,g,vV,vC,cs,hC,eg,hv,hoV,hoC,hD,b1,b2,b3,hc,hm,hB⟩ := h
 obtain ⟨qg,vars,m,st,cons,ls⟩ := q
 obtain ⟨⟨kw,nm,names,numbers,terms,rel,lits⟩,vn,vu,vt,vl⟩ := x
 obtain ⟨iN,iU,iT,iL⟩ := hx
 obtain ⟨okN,okU,okn,okT,okL,l1,l2,l3,l4,s4,s5,s6,s8,s9,s10,kwd⟩ := ho
 simp only at *
 subst eg
 obtain ⟨na,nm',nc,rfl⟩ := iN.1
 obtain ⟨ua,um,uc,rfl⟩ := iU.1
 obtain ⟨ta,tm,tc,rfl⟩ := iT.1
 obtain ⟨la,lm,lc,rfl⟩ := iL.1
 have hfr : ∀ o,Fr B bc bm w (w.alloc o) := fun o => (Fr.refl B bc bm w).alloc hB o
 have hB' : ∀ o,B ≤ (w.alloc o).heap.size := fun o => by simp;omega
 refine sn_statement _ (fun e w' hP => hP.1) ⟨kw,nm,names,numbers,terms,rel,lits⟩ na nm' nc ua um uc ta tm tc la lm lc ?_ ?_ ?_
 ·intro h4
  simp only at h4
  obtain ⟨lo,hi,rfl⟩ := s4 h4
  obtain ⟨gr,cap,hR,g1,g2,g3⟩ := iU.2 (by simp)
  obtain ⟨va,vc,rfl⟩ := own_slice_n hoV
  refine (sn_var B vars va vc (hC.alloc _) kw nm lo hi rel names terms lits _ _ _ _ gr cap (hR.kept (World.grownBy_alloc w _ none) (by simp)) g2 g3 g1 hc hm (hB' _) (hoV.alloc _) (by omega) okN (okU lo (by simp)) (okU hi (by simp)) (by omega) rfl rfl rfl).mono ?_
  rintro e w' ⟨rfl,v,hoV',hbut,hC'⟩
  have fr := Fr.of_but (bc := bc) (bm := bm) hbut (hB' _) (in_B hoV)
  have eq : qStep ⟨kw,nm,names,[lo,hi],terms,rel,lits⟩ ⟨eraseV g,vars,m,st,cons,ls⟩ = ⟨eraseV (putTh g nm.s ⟨4,vars.length,tval lo,tval hi,.slice none 0 0⟩),vars ++ [⟨nm.s,tval lo,tval hi⟩],m,varDecl g vars.length nm lo hi st,cons,putLs ls nm.s []⟩ := by
   unfold qStep;rw [if_pos h4,er_put];rfl
  rw [eq]
  refine ⟨rfl,⟨n + 1,_,v,vC,cs,hC',rfl,hv.put _ _ ⟨_,_,_,rfl⟩,?_,ownBut (hoC.alloc _) hbut (out_of hoC hoV (by decide) hc hm),((hD.alloc _).but hbut (in_ty (hoV.alloc _) (.inr rfl) hc hm)).put nm.s (World.ownsRow_nil _ _ _ _),by omega,by simp;omega,by simp only;omega,hc,hm,?_⟩,(hfr _).trans fr⟩
  ·rw [List.flatMap_append];simpa using hoV'
  ·have := fr.size;have := hB' (.cells (gsCells ⟨kw,nm,names,[lo,hi],terms,rel,lits⟩ (.slice na nm' nc) (.slice ua um uc) (.slice ta tm tc) (.slice la lm lc)) 137);omega
 ·intro h5
  simp only at h5
  obtain ⟨gr,cap,hR,g1,g2,g3⟩ := iU.2 (s5 h5)
  refine (sn_list (hC.alloc _) ⟨kw,nm,names,numbers,terms,rel,lits⟩ _ _ _ _ gr cap (hR.kept (World.grownBy_alloc w _ none) (by simp)) g2 g3 l1 okU okN (by omega) rfl rfl rfl).mono ?_
  rintro e w' ⟨rfl,v,hov,hbut,hC'⟩
  have fr := Fr.of_but (bc := bc) (bm := bm) hbut (hB' _) (fun k hk => by simp at hk;rcases hk with e | e;exact .inl e;exact .inr (.inl e))
  have eq : qStep ⟨kw,nm,names,numbers,terms,rel,lits⟩ ⟨eraseV g,vars,m,st,cons,ls⟩ = ⟨eraseV (putTh g nm.s ⟨5,0,0,0,v⟩),vars,m,foldSt numStP 0 numbers (flt ((g nm.s).so != 0) 4 nm.line st),cons,putLs ls nm.s (numbers.map tval)⟩ := by
   unfold qStep;rw [if_neg (by simp only;omega),if_pos h5,er_put];rfl
  rw [eq]
  refine ⟨rfl,⟨n + 1,_,vV,vC,cs,hC',rfl,hv.put _ _ (own_slice hov),ownBut (hoV.alloc _) hbut (out_of1 hoV hc hm),ownBut (hoC.alloc _) hbut (out_of1 hoC hc hm),((hD.alloc _).but hbut (fun k hk => .inl (by simp at hk;omega))).put nm.s (own_map tval (fun _ => rfl) hov (hB' _)),by omega,by simp only;omega,by simp only;omega,hc,hm,?_⟩,(hfr _).trans fr⟩
  have := fr.size;have := hB' (.cells (gsCells ⟨kw,nm,names,numbers,terms,rel,lits⟩ (.slice na nm' nc) (.slice ua um uc) (.slice ta tm tc) (.slice la lm lc)) 137);omega
 ·intro n4 n5
  simp only at n4 n5
  obtain ⟨ca,cc,rfl⟩ := own_slice_n hoC
  have eq : qStep ⟨kw,nm,names,numbers,terms,rel,lits⟩ ⟨eraseV g,vars,m,st,cons,ls⟩ = ⟨eraseV g,vars,m + 1,conSt g ⟨kw,nm,names,numbers,terms,rel,lits⟩ (flt (decide ((16 : Int) ≤ m)) 6 kw.line st),cons ++ [conOf g ls ⟨kw,nm,names,numbers,terms,rel,lits⟩],ls⟩ := by
   unfold qStep;rw [if_neg n4,if_neg n5,er_con,er_conOf]
  rw [eq]
  have done := fun {S : FSt} {C : QCon} {e : Ending} {w' : World} {o : Obj} (hp : ConPost (w.alloc o) bc bm n B m g vV (.slice ca m cc) S (cs.flatMap CRow.cells) C e w') => ConPost.done (hfr o) hp hv (hoV.alloc o) (hoC.alloc o) (hD.alloc o) b1 b2 b3 hc hm (hB' o)
  have rk : ∀ {α : Type} {v : Value} {gr cap : Nat} {cell : α → List Value} {l : List α} {o : Obj},RowIn w v gr cap cell l → RowIn (w.alloc o) v gr cap cell l := fun {α v gr cap cell l o} hr => hr.kept (World.grownBy_alloc w o none) (by simp)
  rcases kwd with e | e | e | e | e | e | e
  ·exact absurd e n4
  ·exact absurd e n5
  ·obtain ⟨hT,M,rfl⟩ := s6 (.inl e)
   obtain ⟨gr,cap,hR,g1,g2,g3⟩ := iT.2 hT
   obtain ⟨gu,cu,hU,u1,u2,u3⟩ := iU.2 (by simp)
   refine (sn_con_lin B m _ ca cc (hC.alloc _) (hoC.alloc _) hc hm (hB' _) (by omega) hv kw nm rel M names terms lits _ _ _ _ gr cap gu cu (rk hR) g2 (rk hU) u2 l3 okT okN (okU M (by simp)) (by simp [rSort,e])).mono ?_
   intro e' w' hp
   have q := done hp
   have e2 : conSt g ⟨kw,nm,names,[M],terms,rel,lits⟩ (flt (decide ((16 : Int) ≤ m)) 6 kw.line st) = flt (outB (tval M) 1000000) 5 M.line (foldSt (termStP g) 0 terms (flt (decide ((16 : Int) ≤ m)) 6 kw.line st)) := by simp [conSt,qLinSt,e]
   have e3 : conOf g ls ⟨kw,nm,names,[M],terms,rel,lits⟩ = ⟨0,0,terms.map (fun t => ((thFind g t.name.s 4).pl,facV t)),rRel (srt rel),tval M,[],0,0,[],[]⟩ := by simp [conOf,e]
   rw [e2,e3]
   exact q
  ·obtain ⟨hT,M,rfl⟩ := s6 (.inr e)
   obtain ⟨gr,cap,hR,g1,g2,g3⟩ := iT.2 hT
   obtain ⟨gu,cu,hU,u1,u2,u3⟩ := iU.2 (by simp)
   refine (sn_con_when B m _ ca cc (hC.alloc _) (hoC.alloc _) hc hm (hB' _) (by omega) hv kw nm rel M names terms lits _ _ _ _ gr cap gu cu (rk hR) g2 (rk hU) u2 l3 okT okN (okU M (by simp)) (by simp [rSort,e])).mono ?_
   intro e' w' hp
   have q := done hp
   have e2 : conSt g ⟨kw,nm,names,[M],terms,rel,lits⟩ (flt (decide ((16 : Int) ≤ m)) 6 kw.line st) = flt (outB (tval M) 1000000) 5 M.line (foldSt (termStP g) 0 terms (flt (noTruthT (thFind g nm.s 4)) 7 nm.line (flt ((g nm.s).so != 4) 4 nm.line (flt (decide ((16 : Int) ≤ m)) 6 kw.line st)))) := by simp [conSt,qLinSt,truthSt,e]
   have e3 : conOf g ls ⟨kw,nm,names,[M],terms,rel,lits⟩ = ⟨1,(thFind g nm.s 4).pl,terms.map (fun t => ((thFind g t.name.s 4).pl,facV t)),rRel (srt rel),tval M,[],0,0,[],[]⟩ := by simp [conOf,e]
   rw [e2,e3]
   exact q
  ·obtain ⟨P,Q,rfl⟩ := s8 e
   obtain ⟨gr,cap,hR,g1,g2,g3⟩ := iN.2 (by simp)
   refine (sn_con_at B m _ ca cc (hC.alloc _) (hoC.alloc _) hc hm (hB' _) (by omega) hv kw nm rel P Q _ (find_ls (hD.alloc _) nm.s) numbers terms lits _ _ _ _ gr cap (rk hR) g2 okN (okn P (by simp)) (okn Q (by simp)) (by simp [rSort,e])).mono ?_
   intro e' w' hp
   have q := done hp
   have e2 : conSt g ⟨kw,nm,[P,Q],numbers,terms,rel,lits⟩ (flt (decide ((16 : Int) ≤ m)) 6 kw.line st) = flt ((g Q.s).so != 4) 4 Q.line (flt ((g P.s).so != 4) 4 P.line (flt ((g nm.s).so != 5) 4 nm.line (flt (decide ((16 : Int) ≤ m)) 6 kw.line st))) := by simp [conSt,e]
   have e3 : conOf g ls ⟨kw,nm,[P,Q],numbers,terms,rel,lits⟩ = ⟨2,0,[],0,0,if (g nm.s).so = 5 then ls nm.s else [],(thFind g P.s 4).pl,(thFind g Q.s 4).pl,[],[]⟩ := by simp [conOf,e]
   rw [e2,e3]
   exact q
  ·obtain ⟨gr,cap,hR,g1,g2,g3⟩ := iN.2 (s9 e)
   refine (sn_con_diff B m _ ca cc (hC.alloc _) (hoC.alloc _) hc hm (hB' _) (by omega) hv kw nm rel names numbers terms lits _ _ _ _ gr cap (rk hR) g2 l2 okn (by simp [rSort,e])).mono ?_
   intro e' w' hp
   have q := done hp
   have e2 : conSt g ⟨kw,nm,names,numbers,terms,rel,lits⟩ (flt (decide ((16 : Int) ≤ m)) 6 kw.line st) = foldSt (varStP g) 0 names (flt (decide ((16 : Int) ≤ m)) 6 kw.line st) := by simp [conSt,e]
   have e3 : conOf g ls ⟨kw,nm,names,numbers,terms,rel,lits⟩ = ⟨3,0,[],0,0,[],0,0,names.map (fun t => (thFind g t.s 4).pl),[]⟩ := by simp [conOf,e]
   rw [e2,e3]
   exact q
  ·obtain ⟨gr,cap,hR,g1,g2,g3⟩ := iL.2 (s10 e)
   refine (sn_con_or B m _ ca cc (hC.alloc _) (hoC.alloc _) hc hm (hB' _) (by omega) hv kw nm rel names numbers terms lits _ _ _ _ gr cap (rk hR) g2 l4 okL (by simp [rSort,e])).mono ?_
   intro e' w' hp
   have q := done hp
   have e2 : conSt g ⟨kw,nm,names,numbers,terms,rel,lits⟩ (flt (decide ((16 : Int) ≤ m)) 6 kw.line st) = foldSt (litStP g) 0 lits (flt (decide ((16 : Int) ≤ m)) 6 kw.line st) := by simp [conSt,e]
   have e3 : conOf g ls ⟨kw,nm,names,numbers,terms,rel,lits⟩ = ⟨4,0,[],0,0,[],0,0,[],lits.map (fun t => ((thFind g t.name.s 4).pl,if srt t.first = 22 then 0 else 1))⟩ := by simp [conOf,e]
   rw [e2,e3]
   exact q
end
section
set_option maxHeartbeats 4000000
set_option maxRecDepth 100000
open Go.RowKit
variable {w : World}
def CheckRel (l : List GRow) (gr cap : Nat) (RES : QSt) (w : World) (m : Nat) (vi : Value) (wr : World) : Prop :=
 ∃ (i : Nat) (q : QSt),i ≤ l.length ∧ m = l.length - i ∧ vi = .int .i64 i ∧ q.st.1 = 0 ∧ Hid (runQ ((l.drop i).map (·.s)) q = RES) ∧ Sen wr (w.heap.size + 1) w.heap.size (w.heap.size + 2) i q ∧
  RowIn wr (.slice (some ⟨gr,0,none⟩) l.length cap) gr cap GRow.cells l ∧ (∀ x ∈ l,GIn wr (w.heap.size + 2) (w.heap.size + 1) w.heap.size x) ∧ w.grownBy wr none
theorem cell_len (x : GRow) : x.cells.length = 16 := rfl
theorem Fr.grown {B bc bm : Nat} {a b c : World} (h : a.grownBy b none) (hc : a.heap.size ≤ bc) (hm : a.heap.size ≤ bm) (hB : a.heap.size ≤ B) (k : Fr B bc bm b c) : a.grownBy c none :=
 ⟨k.os.trans h.os,k.tape.trans h.tape,k.output.trans h.output,Nat.le_trans h.size k.size,fun i hi hn => (k.block i (by omega) (by omega) (by omega)).trans (h.block i hi hn)⟩
theorem Sen.alloc {bc bm B k : Nat} {q : QSt} (h : Sen w bc bm B k q) (o : Obj) : Sen (w.alloc o) bc bm B k q := by
 obtain ⟨n,g,vV,vC,cs,hC,eg,hv,hoV,hoC,hD,b1,b2,b3,hc,hm,hB⟩ := h
 exact ⟨n,g,vV,vC,cs,hC.alloc o,eg,hv,hoV.alloc o,hoC.alloc o,hD.alloc o,b1,b2,b3,hc,hm,by simp;omega⟩
theorem Sen.size {bc bm B k : Nat} {q : QSt} (h : Sen w bc bm B k q) : B ≤ w.heap.size := by
 obtain ⟨n,g,vV,vC,cs,hC,eg,hv,hoV,hoC,hD,b1,b2,b3,hc,hm,hB⟩ := h
 exact hB
theorem Sen.cells {bc bm B k : Nat} {q : QSt} (h : Sen w bc bm B k q) : w.cell? ⟨bc,3,none⟩ = some (.int .i64 q.st.1) ∧ w.cell? ⟨bc,4,none⟩ = some (.int .i64 q.st.2) := by
 obtain ⟨n,g,vV,vC,cs,hC,eg,hv,hoV,hoC,hD,b1,b2,b3,hc,hm,hB⟩ := h
 exact ⟨hC.c3,hC.c4⟩
theorem sen_start (w : World) : Sen ((w.alloc (.map #[] 0)).alloc (.cells #[.map (some w.heap.size),.slice none 0 0,.slice none 0 0,.int .i64 0,.int .i64 0] 142)) (w.heap.size + 1) w.heap.size (w.heap.size + 2) 0 q0 := by
 have hB := heap_alloc2_new w (.map #[] 0) (.cells #[.map (some w.heap.size),.slice none 0 0,.slice none 0 0,.int .i64 0,.int .i64 0] 142)
 refine ⟨0,fun _ => noTh,.slice none 0 0,.slice none 0 0,[],⟨cell_of hB 0 _ rfl,cell_of hB 1 _ rfl,cell_of hB 2 _ rfl,cell_of hB 3 _ rfl,cell_of hB 4 _ rfl,frozen_of hB 1,frozen_of hB 2,frozen_of hB 3,frozen_of hB 4,by simp,?_,by simp;omega,by omega⟩,rfl,fun s => ⟨_,_,_,rfl⟩,World.ownsRow_nil _ _ _ _,World.ownsRow_nil _ _ _ _,⟨rfl,(fun x hx => (by cases hx)),fun s => World.ownsRow_nil _ _ _ _⟩,Nat.le_refl _,Nat.le_refl _,Nat.le_refl _,by omega,by omega,by simp⟩
 exact ⟨.map [],(World.ownsMap_made w Tryz.prog 9 heldV).alloc _,⟨[],rfl⟩,fun s => rfl⟩
theorem rin_start {α : Type} {v : Value} {cell : α → List Value} {l : List α} {o o' : Obj} (h : RIn w w.heap.size w.heap.size w.heap.size v cell l) : RIn ((w.alloc o).alloc o') (w.heap.size + 2) (w.heap.size + 1) w.heap.size v cell l :=
 ⟨h.1,fun hl => by
  obtain ⟨gr,cap,hr,h1,h2,h3⟩ := h.2 hl
  exact ⟨gr,cap,(hr.kept (World.grownBy_alloc w o none) (by simp)).kept (World.grownBy_alloc _ o' none) (by simp),by omega,by omega,by omega⟩⟩
theorem gin_start {x : GRow} {o o' : Obj} (h : GIn w w.heap.size w.heap.size w.heap.size x) : GIn ((w.alloc o).alloc o') (w.heap.size + 2) (w.heap.size + 1) w.heap.size x := ⟨rin_start h.n,rin_start h.u,rin_start h.t,rin_start h.l⟩
theorem sn_Check (l : List GRow) (v1 : Value) (gr cap : Nat) (hR : RowIn w v1 gr cap GRow.cells l) (hl : l.length ≤ 2500) (hin : ∀ x ∈ l,GIn w w.heap.size w.heap.size w.heap.size x) (hok : ∀ x ∈ l,StOk x.s) : Calls Tryz.prog 45 #[v1] w fun e w' =>
   (((runQ (l.map (·.s)) q0).st.1 ≠ 0 ∧ e = .returned (.tuple #[.pointer none,.int .i64 (runQ (l.map (·.s)) q0).st.1,.int .i64 (runQ (l.map (·.s)) q0).st.2])) ∨
   ((runQ (l.map (·.s)) q0).st.1 = 0 ∧ e = .returned (.tuple #[.pointer (some ⟨w.heap.size + 1,1,none⟩),.int .i64 0,.int .i64 0]) ∧ Sen w' (w.heap.size + 1) w.heap.size (w.heap.size + 2) l.length (runQ (l.map (·.s)) q0))) ∧ w.grownBy w' none := by
 have HR : Hid (RowIn w v1 gr cap GRow.cells l) := hR
 have HIN : Hid (∀ x ∈ l,GIn w w.heap.size w.heap.size w.heap.size x) := hin
 have HOK : Hid (∀ x ∈ l,StOk x.s) := hok
 have hgl := hR.lt
 obtain ⟨RES,hRES⟩ : ∃ R,R = runQ (l.map (·.s)) q0 := ⟨_,rfl⟩
 have HS : Hid (runQ ((l.drop 0).map (·.s)) q0 = RES) := by rw [Hid,hRES];rfl
 rw [← hRES]
 obtain rfl := hR.is
 clear hR hin hok hRES
 have hmk : (Instr.makeMap 140 none).run Tryz.prog w = .ok (.map (some w.heap.size)) (w.alloc (.map #[] 0)) := rfl
 go_enter Tryz.func45,Tryz.ntmps45
 go_wp2
 go_loopg [12] l.length (fun m vi wr => CheckRel l gr cap RES w m vi wr)
 case atStart => exact ⟨0,q0,Nat.zero_le _,rfl,rfl,rfl,HS,sen_start w,(HR.out.kept (World.grownBy_alloc w _ none) (by simp)).kept (World.grownBy_alloc _ _ none) (by simp),fun x hx => gin_start (HIN.out x hx),(World.grownBy_alloc _ _ _).trans (World.grownBy_alloc _ _ _)⟩
 case round =>
  obtain ⟨i,q,hi,rfl,rfl,hq0,hlex,hS,hR,hin,hgr⟩ := hrel
  by_cases hlt : i < l.length
  ·obtain ⟨x,ha⟩ : ∃ a,l[i]? = some a := ⟨l[i],by simp [hlt]⟩
   have hmem := List.mem_of_getElem? ha
   have hx := hin x hmem
   obtain ⟨na,nm,nc,en⟩ := hx.n.1
   obtain ⟨ua,um,uc,eu⟩ := hx.u.1
   obtain ⟨ta,tm,tc,et⟩ := hx.t.1
   obtain ⟨la,lm,lc,el⟩ := hx.l.1
   have c0 : wr.cell? ⟨gr,i * 16,none⟩ = some (.int .i64 (srt x.s.kw)) := hR.at (sz := 16) cell_len ha 0 _ rfl
   have c1 : wr.cell? ⟨gr,i * 16 + 1,none⟩ = some (.string x.s.kw.s) := hR.at (sz := 16) cell_len ha 1 _ rfl
   have c2 : wr.cell? ⟨gr,i * 16 + 2,none⟩ = some (.int .i64 (tval x.s.kw)) := hR.at (sz := 16) cell_len ha 2 _ rfl
   have c3 : wr.cell? ⟨gr,i * 16 + 3,none⟩ = some (.int .i64 x.s.kw.line) := hR.at (sz := 16) cell_len ha 3 _ rfl
   have c4 : wr.cell? ⟨gr,i * 16 + 4,none⟩ = some (.int .i64 (srt x.s.name)) := hR.at (sz := 16) cell_len ha 4 _ rfl
   have c5 : wr.cell? ⟨gr,i * 16 + 5,none⟩ = some (.string x.s.name.s) := hR.at (sz := 16) cell_len ha 5 _ rfl
   have c6 : wr.cell? ⟨gr,i * 16 + 6,none⟩ = some (.int .i64 (tval x.s.name)) := hR.at (sz := 16) cell_len ha 6 _ rfl
   have c7 : wr.cell? ⟨gr,i * 16 + 7,none⟩ = some (.int .i64 x.s.name.line) := hR.at (sz := 16) cell_len ha 7 _ rfl
   have c8 : wr.cell? ⟨gr,i * 16 + 8,none⟩ = some (.slice na nm nc) := by rw [← en];exact hR.at (sz := 16) cell_len ha 8 _ rfl
   have c9 : wr.cell? ⟨gr,i * 16 + 9,none⟩ = some (.slice ua um uc) := by rw [← eu];exact hR.at (sz := 16) cell_len ha 9 _ rfl
   have c10 : wr.cell? ⟨gr,i * 16 + 10,none⟩ = some (.slice ta tm tc) := by rw [← et];exact hR.at (sz := 16) cell_len ha 10 _ rfl
   have c11 : wr.cell? ⟨gr,i * 16 + 11,none⟩ = some (.int .i64 (srt x.s.rel)) := hR.at (sz := 16) cell_len ha 11 _ rfl
   have c12 : wr.cell? ⟨gr,i * 16 + 12,none⟩ = some (.string x.s.rel.s) := hR.at (sz := 16) cell_len ha 12 _ rfl
   have c13 : wr.cell? ⟨gr,i * 16 + 13,none⟩ = some (.int .i64 (tval x.s.rel)) := hR.at (sz := 16) cell_len ha 13 _ rfl
   have c14 : wr.cell? ⟨gr,i * 16 + 14,none⟩ = some (.int .i64 x.s.rel.line) := hR.at (sz := 16) cell_len ha 14 _ rfl
   have c15 : wr.cell? ⟨gr,i * 16 + 15,none⟩ = some (.slice la lm lc) := by rw [← el];exact hR.at (sz := 16) cell_len ha 15 _ rfl
   have hBw : w.heap.size + 2 ≤ wr.heap.size := hS.size
   have K := Kept.mk (fun o => sn_one (hS.alloc o) (by omega) x (hx.fr ((Fr.refl _ _ _ wr).alloc hBw o)) (HOK.out x hmem))
   rw [en,eu,et,el] at K
   have hlt3 : (i : Int) < l.length := by omega
   have h03 : (0 : Int) ≤ i := by omega
   have hstep : Hid (runQ ((l.drop i).map (·.s)) q = if (qStep x.s q).st.1 = 0 then runQ ((l.drop (i + 1)).map (·.s)) (qStep x.s q) else qStep x.s q) := by
    have hx' : l[i] = x := (List.getElem?_eq_some_iff.1 ha).2
    rw [Hid,List.drop_eq_getElem_cons hlt,hx'];rfl
   have hnext : Hid (∀ (w1 : World) (o : Obj),Fr (w.heap.size + 2) (w.heap.size + 1) w.heap.size (wr.alloc o) w1 → RowIn w1 (.slice (some ⟨gr,0,none⟩) l.length cap) gr cap GRow.cells l ∧ (∀ x ∈ l,GIn w1 (w.heap.size + 2) (w.heap.size + 1) w.heap.size x) ∧ w.grownBy w1 none) := fun w1 o hf => by
    have f2 := ((Fr.refl (w.heap.size + 2) (w.heap.size + 1) w.heap.size wr).alloc hBw o).trans hf
    refine ⟨⟨hR.is,fun j u hu => (World.cell?_of_block (a := ⟨gr,j,none⟩) (f2.block gr (by omega) (by omega) (by omega))).trans (hR.row j u hu),Nat.lt_of_lt_of_le hR.lt f2.size⟩,fun x hx => (hin x hx).fr f2,f2.grown hgr (by omega) (by omega) (by omega)⟩
   generalize qStep x.s q = q' at *
   unfold gsCells at K
   by_cases hz : q'.st.1 = 0
   ·have hl : Hid (runQ ((l.drop (i + 1)).map (·.s)) q' = RES) := by rw [Hid,← hlex.out,hstep.out,if_pos hz]
    go_wp2_with (go_at_call 70;refine (K.get _).mono ?_;rintro e w1 ⟨rfl,hS1,hF1⟩;obtain ⟨k3,k4⟩ := hS1.cells;rw [hz] at k3)
    go_roundg (l.length - (i + 1))
    case measure => omega
    case rel =>
     obtain ⟨r1,r2,r3⟩ := hnext.out w1 _ hF1
     exact ⟨i + 1,q',by omega,rfl,by go_num,hz,hl,hS1,r1,r2,r3⟩
   ·have hl : Hid (RES = q') := by rw [Hid,← hlex.out,hstep.out,if_neg hz]
    have hzb : (q'.st.1 != 0) = true := by simpa using hz
    go_wp2_with (go_at_call 70;refine (K.get _).mono ?_;rintro e w1 ⟨rfl,hS1,hF1⟩;obtain ⟨k3,k4⟩ := hS1.cells)
    go_quiet (fail)
    go_wp2
    go_ret3
    rw [hl.out]
    obtain ⟨r1,r2,r3⟩ := hnext.out w1 _ hF1
    exact ⟨.inl ⟨hz,rfl⟩,r3.trans (grown_drewN' _ _ _)⟩
  ·obtain rfl : i = l.length := by omega
   have hl2 : Hid (RES = q) := by rw [Hid,← hlex.out,List.drop_of_length_le (Nat.le_refl _)];rfl
   clear hlex
   go_wp2
   go_ret3
   rw [hl2.out]
   exact ⟨.inr ⟨hq0,rfl,hS⟩,hgr⟩
end
section
set_option maxHeartbeats 4000000
set_option maxRecDepth 100000
open Go.RowKit
def plainF (toks : List PTok) : Nat → Nat → Int → List UInt8 → List UInt8
 | 0,_,_,out => out
 | f + 1,i,bf,out =>
  if srt (tkN toks i) = 1 then out
  else if needless (tkN toks i) (tkN toks (i + 1)) then plainF toks f (i + 2) bf out
  else plainF toks f (i + 1) (srt (tkN toks i)) (out ++ (if jBehind bf || jAhead (srt (tkN toks i)) then [] else [32]) ++ spell (tkN toks i) ++ (if srt (tkN toks i) = 11 then [10] else []))
def plainT (toks : List PTok) : List UInt8 := plainF toks toks.length 0 11 []
theorem plainF_end {toks : List PTok} {f i : Nat} {bf : Int} {out : List UInt8} (h : srt (tkN toks i) = 1) : plainF toks f i bf out = out := by
 cases f with
 | zero => rfl
 | succ f => simp only [plainF];rw [if_pos h]
theorem plainF_skip {toks : List PTok} {f i : Nat} {bf : Int} {out : List UInt8} (h : srt (tkN toks i) ≠ 1) (h2 : needless (tkN toks i) (tkN toks (i + 1)) = true) : plainF toks (f + 1) i bf out = plainF toks f (i + 2) bf out := by
 simp only [plainF];rw [if_neg h,if_pos h2]
theorem plainF_step {toks : List PTok} {f i : Nat} {bf : Int} {out : List UInt8} (h : srt (tkN toks i) ≠ 1) (h2 : needless (tkN toks i) (tkN toks (i + 1)) = false) : plainF toks (f + 1) i bf out = plainF toks f (i + 1) (srt (tkN toks i)) (out ++ (if jBehind bf || jAhead (srt (tkN toks i)) then [] else [32]) ++ spell (tkN toks i) ++ (if srt (tkN toks i) = 11 then [10] else [])) := by
 simp only [plainF];rw [if_neg h,h2];simp
theorem KeptBut.low {w wr w' : World} (h : w.grownBy wr none) (k : KeptBut w.heap.size w.heap.size wr w') : w.grownBy w' none :=
 ⟨k.os.trans h.os,k.tape.trans h.tape,k.output.trans h.output,Nat.le_trans h.size k.size,fun i hi hn => (k.block i (Nat.lt_of_lt_of_le hi h.size) (by omega) (.inl hi)).trans (h.block i hi hn)⟩
theorem KeptBut.box {B b c : Nat} {w w' : World} {cs : Array Value} (k : KeptBut B b w w') (h : w.heap[c]? = some (.cells cs 129 (0,0))) (hc : c ≠ b) : w'.heap[c]? = some (.cells cs 129 (0,0)) :=
 (k.block c (Array.getElem?_eq_some_iff.1 h).1 hc (.inr fun cs' fr q => by rw [h] at q;cases q)).trans h
theorem isB_grown {B b : Nat} {bs : List Value} {w w' : World} {r : Option Nat} (h : Lib.IsBuilder 146 5 B b bs w) (hg : w.grownBy w' none) : Lib.IsBuilder 146 5 B b bs w' := by
 have key : ∀ p,Lib.BuilderAt 146 5 B b p bs w → Lib.BuilderAt 146 5 B b p bs w' := fun p hx => by
  obtain ⟨hB,v,hbk,hown,hne⟩ := hx
  exact ⟨hB,v,past0 hbk (Array.getElem?_eq_some_iff.1 hbk).1 hg (by simp),hown.kept hg (own_none _),hne⟩
 rcases h with h | h
 ·exact .inl (key _ h)
 ·exact .inr (key _ h)
def PlRel (toks : List PTok) (RES : List UInt8) (w : World) (vb vi : Value) (wr : World) : Prop :=
 ∃ (i f : Nat) (bf : Int) (out : List UInt8),i < toks.length ∧ vb = .int .i64 bf ∧ vi = .int .i64 i ∧ toks.length ≤ i + f ∧ Hid (plainF toks f i bf out = RES) ∧ out.length ≤ 3000 * i ∧
  Lib.IsBuilder 146 5 w.heap.size w.heap.size (Lib.byteCells out) wr ∧ w.grownBy wr none
theorem pl_Plain {w : World} {gt cap : Nat} {toks : List PTok} (hE : EndOk toks) (hok : ∀ i,i < toks.length → TOk (tkN toks i)) (hcap : toks.length ≤ cap) (hrow : ∀ j u,(tokCells toks)[j]? = some u → w.cell? ⟨gt,j,none⟩ = some u) (hlg : gt < w.heap.size) (ht : PowTab w) : Calls Tryz.prog 46 #[.slice (some ⟨gt,0,none⟩) toks.length cap] w fun e w' => e = .returned (.string ⟨(plainT toks).toArray⟩) ∧ w.grownBy w' none := by
 have hlen := hE.len
 have hpos := hE.pos
 obtain ⟨RES,hR⟩ : ∃ R,R = plainT toks := ⟨_,rfl⟩
 have HS : Hid (plainF toks toks.length 0 11 [] = RES) := by rw [Hid,hR];rfl
 have HR : Hid (∀ j u,(tokCells toks)[j]? = some u → w.cell? ⟨gt,j,none⟩ = some u) := hrow
 have HK : Hid (∀ i,i < toks.length → TOk (tkN toks i)) := hok
 have HT : Hid (PowTab w) := ht
 have HL : Hid (srt (tkN toks (toks.length - 1)) = 1) := hE.last
 rw [← hR]
 clear hrow hR hok ht
 go_enter Tryz.func46,Tryz.ntmps46
 go_wp2
 go_loopw [4,5] (fun vb vi wr => PlRel toks RES w vb vi wr) (fun _ vi _ => toks.length - (intOf vi).toNat)
 case atStart => exact ⟨0,toks.length,11,[],hpos,rfl,rfl,by omega,HS,by simp,.inl ⟨Nat.le_refl _,.slice none 0 0,heap_alloc_new w _,World.ownsRow_nil _ _ _ _,by simp [Value.ownBlock]⟩,World.grownBy_alloc _ _ _⟩
 case round =>
  obtain ⟨i,f,bf,out,hi,rfl,rfl,hf,hlex,hout,hB,hgr⟩ := hrel
  obtain ⟨T,hT⟩ : ∃ T,T = tkN toks i := ⟨_,rfl⟩
  obtain ⟨q0,q1,q2,q3⟩ := tokCells_get toks i _ (tkN_get hi)
  rw [← hT] at q0 q1 q2 q3
  have cc : ∀ j u,(tokCells toks)[j]? = some u → wr.cell? ⟨gt,j,none⟩ = some u := fun j u hu => hgr.cell (HR.out j u hu) (by simp)
  have c0 := cc _ _ q0
  have c1 := cc _ _ q1
  have c2 := cc _ _ q2
  have c3 := cc _ _ q3
  have hlt3 : (i : Int) < toks.length := by omega
  have h03 : (0 : Int) ≤ i := by omega
  clear q0 q1 q2 q3
  by_cases h1 : srt T = 1
  ·have e1 : (srt T != 1) = false := by simpa using h1
   have hl : Hid (RES = out) := by rw [Hid,← hlex.out];exact plainF_end (by rw [← hT];exact h1)
   have K := Kept.mk (Tryz.Builder_String_any w.heap.size w.heap.size out wr hB hgr.size)
   clear hlex h1 cc hT
   go_wp2_with (go_at_call 77;refine K.get.mono ?_;rintro e w1 ⟨rfl,hb1⟩)
   go_ret
   rw [hl.out]
   exact ⟨rfl,hb1.os.trans hgr.os,hb1.tape.trans hgr.tape,hb1.output.trans hgr.output,Nat.le_trans hgr.size hb1.size,fun k hk hn => (hb1.block k hk).trans (hgr.block k hk hn)⟩
  ·have e1 : (srt T != 1) = true := by simpa using h1
   have hi2 : i + 1 < toks.length := by
    rcases Nat.lt_or_ge (i + 1) toks.length with q | q
    ·exact q
    ·have e : i = toks.length - 1 := by omega
     rw [e] at hT;rw [hT] at h1;exact absurd HL.out h1
   obtain ⟨U,hU⟩ : ∃ U,U = tkN toks (i + 1) := ⟨_,rfl⟩
   have d0 : wr.cell? ⟨gt,i * 4 + 4,none⟩ = some (.int .i64 (srt U)) := by
    have := cc _ _ (tokCells_get toks (i + 1) _ (tkN_get hi2)).1
    rw [← hU,show (i + 1) * 4 = i * 4 + 4 by omega] at this;exact this
   have K1 := Kept.mk (fun len cp (hl : 2 ≤ len) => pl_needless T U gt (i * 4) len cp hl wr c0 c2 d0)
   obtain ⟨f,rfl⟩ : ∃ g,f = g + 1 := ⟨f - 1,by omega⟩
   have hci : ¬ cap = i := by omega
   by_cases hnd : needless T U = true
   ·have hU1 : srt U ≠ 1 := by
     intro q;unfold needless at hnd;rw [q] at hnd;simp at hnd
    have hi3 : i + 2 < toks.length := by
     rcases Nat.lt_or_ge (i + 2) toks.length with q | q
     ·exact q
     ·have e : i + 1 = toks.length - 1 := by omega
      rw [e] at hU;rw [hU] at hU1;exact absurd HL.out hU1
    have hl : Hid (plainF toks f (i + 2) bf out = RES) := by rw [Hid,← hlex.out];exact (plainF_skip (by rw [← hT];exact h1) (by rw [← hT,← hU];exact hnd)).symm
    rw [hnd] at K1
    clear cc hT hU h1 hnd hU1 hlex
    go_wp2_with (go_at_call 71;refine (K1.get _ _ (by omega)).mono ?_;rintro e w' ⟨rfl,hww⟩;subst w')
    go_roundw
    case rel => exact ⟨i + 2,f,bf,out,hi3,rfl,by go_num,by omega,hl,by omega,hB,hgr⟩
    case measure => simp [intOf];omega
   ·have hnd' : needless T U = false := by simpa using hnd
    rw [hnd'] at K1
    have hl := plainF_step (f := f) (bf := bf) (out := out) (by rw [← hT];exact h1) (by rw [← hT,← hU];exact hnd')
    rw [hlex.out,← hT] at hl
    have hTO := HK.out i hi
    rw [← hT] at hTO
    have HSL : Hid ((spell T).length ≤ 2000) := hTO.lit
    obtain ⟨SP,hSP⟩ : ∃ s : ByteArray,s = ⟨(spell T).toArray⟩ := ⟨_,rfl⟩
    have HSP : Hid (∀ W,PowTab W → Calls Tryz.prog 76 #[.agg #[.int .i64 (srt T),.string T.s,.int .i64 (tval T),.int .i64 T.line]] W fun e w' => e = .returned (.string SP) ∧ W.grownBy w' none) := fun W hW => by rw [hSP];exact pl_spell T hTO W hW
    have HSC : Hid (Lib.strCells SP = Lib.byteCells (spell T)) := by rw [hSP];simp [Hid,Lib.strCells,Lib.byteCells]
    have hsz : SP.size ≤ 2000 := by have := HSL.out;rw [hSP];show (spell T).toArray.size ≤ 2000;simpa using this
    have hbl : w.heap.size < wr.heap.size := by
     rcases hB with q | q
     ·exact q.lt
     ·exact q.lt
    have hcb : wr.heap.size ≠ w.heap.size := by omega
    have hB0 := isB_grown (r := none) hB (World.grownBy_alloc wr (.cells #[.int .i64 (srt T),.string T.s,.int .i64 (tval T),.int .i64 T.line] 129) none)
    have hg0 := hgr.trans (World.grownBy_alloc wr (.cells #[.int .i64 (srt T),.string T.s,.int .i64 (tval T),.int .i64 T.line] 129) none)
    have hx0 := heap_alloc_new wr (.cells #[.int .i64 (srt T),.string T.s,.int .i64 (tval T),.int .i64 T.line] 129)
    have x0_0 := cell_of hx0 0 _ rfl
    clear cc hT hU h1 hnd hnd' hlex hTO hSP hB
    by_cases hjb : jBehind bf = true
    ·have HJB : Hid (jBehind bf = true) := hjb
     clear hjb
     by_cases h11 : srt T = 11
     ·have e11 : (srt T == 11) = true := by simpa using h11
      have hl : Hid (plainF toks f (i + 1) (srt T) (out ++ [] ++ spell T ++ [10]) = RES) := by rw [Hid,hl];simp only [HJB.out];simp [h11]
      clear h11
      go_wp2_with (first | (go_at_call 74;refine (bl_byte w.heap.size w.heap.size _ 10 _ hB2 (by simp [Lib.byteCells,Lib.strCells_length];omega) hg2.size).mono ?_;rintro e w3 ⟨rfl,hB3,hk3⟩;have hg3 := hk3.low hg2;have hx3 := hk3.box hx2 hcb;have x0_3 := cell_of hx3 0 _ rfl) | (go_at_call 75;refine (bl_str w.heap.size w.heap.size _ SP _ hB1 (by simp [Lib.byteCells];omega) (by omega) hg1.size).mono ?_;rintro e w2 ⟨rfl,hB2,hk2⟩;have hg2 := hk2.low hg1;have hx2 := hk2.box hx1 hcb;have x0_2 := cell_of hx2 0 _ rfl) | (go_at_call 76;refine (HSP.out _ (tab_kept HT.out (fun k hk => hg0.block k hk (by simp)))).mono ?_;rintro e w1 ⟨rfl,hq1⟩;have hg1 := hg0.trans hq1;have hx1 := past0 hx0 (Array.getElem?_eq_some_iff.1 hx0).1 hq1 (by simp);have hB1 := isB_grown (r := none) hB0 hq1) | (go_at_call 72;refine (pl_behind _ _).mono ?_;rw [HJB.out];rintro e w' ⟨rfl,hww⟩;subst w') | (go_at_call 71;refine (K1.get _ _ (by omega)).mono ?_;rintro e w' ⟨rfl,hww⟩;subst w'))
      go_roundw
      case rel =>
       refine ⟨i + 1,f,srt T,(out ++ [] ++ spell T ++ [10]),hi2,rfl,by go_num,by omega,hl,?_,?_,hg3⟩
       ·have := HSL.out;simp;omega
       ·have e := hB3
        have es : Lib.strCells SP = Lib.byteCells (spell T) := HSC.out
        rw [es] at e
        simpa [Lib.byteCells] using e
      case measure => simp [intOf];omega
     ·have e11 : (srt T == 11) = false := by simpa using h11
      have hl : Hid (plainF toks f (i + 1) (srt T) (out ++ [] ++ spell T ++ []) = RES) := by rw [Hid,hl];simp only [HJB.out];simp [h11]
      clear h11
      go_wp2_with (first | (go_at_call 75;refine (bl_str w.heap.size w.heap.size _ SP _ hB1 (by simp [Lib.byteCells];omega) (by omega) hg1.size).mono ?_;rintro e w2 ⟨rfl,hB2,hk2⟩;have hg2 := hk2.low hg1;have hx2 := hk2.box hx1 hcb;have x0_2 := cell_of hx2 0 _ rfl) | (go_at_call 76;refine (HSP.out _ (tab_kept HT.out (fun k hk => hg0.block k hk (by simp)))).mono ?_;rintro e w1 ⟨rfl,hq1⟩;have hg1 := hg0.trans hq1;have hx1 := past0 hx0 (Array.getElem?_eq_some_iff.1 hx0).1 hq1 (by simp);have hB1 := isB_grown (r := none) hB0 hq1) | (go_at_call 72;refine (pl_behind _ _).mono ?_;rw [HJB.out];rintro e w' ⟨rfl,hww⟩;subst w') | (go_at_call 71;refine (K1.get _ _ (by omega)).mono ?_;rintro e w' ⟨rfl,hww⟩;subst w'))
      go_roundw
      case rel =>
       refine ⟨i + 1,f,srt T,(out ++ [] ++ spell T ++ []),hi2,rfl,by go_num,by omega,hl,?_,?_,hg2⟩
       ·have := HSL.out;simp;omega
       ·have e := hB2
        have es : Lib.strCells SP = Lib.byteCells (spell T) := HSC.out
        rw [es] at e
        simpa [Lib.byteCells] using e
      case measure => simp [intOf];omega
    ·have HJB : Hid (jBehind bf = false) := by rw [Hid];simpa using hjb
     clear hjb
     by_cases hja : jAhead (srt T) = true
     ·have HJA : Hid (jAhead (srt T) = true) := hja
      clear hja
      by_cases h11 : srt T = 11
      ·have e11 : (srt T == 11) = true := by simpa using h11
       have hl : Hid (plainF toks f (i + 1) (srt T) (out ++ [] ++ spell T ++ [10]) = RES) := by rw [Hid,hl];simp only [HJB.out,HJA.out];simp [h11]
       clear h11
       go_wp2_with (first | (go_at_call 74;refine (bl_byte w.heap.size w.heap.size _ 10 _ hB2 (by simp [Lib.byteCells,Lib.strCells_length];omega) hg2.size).mono ?_;rintro e w3 ⟨rfl,hB3,hk3⟩;have hg3 := hk3.low hg2;have hx3 := hk3.box hx2 hcb;have x0_3 := cell_of hx3 0 _ rfl) | (go_at_call 75;refine (bl_str w.heap.size w.heap.size _ SP _ hB1 (by simp [Lib.byteCells];omega) (by omega) hg1.size).mono ?_;rintro e w2 ⟨rfl,hB2,hk2⟩;have hg2 := hk2.low hg1;have hx2 := hk2.box hx1 hcb;have x0_2 := cell_of hx2 0 _ rfl) | (go_at_call 76;refine (HSP.out _ (tab_kept HT.out (fun k hk => hg0.block k hk (by simp)))).mono ?_;rintro e w1 ⟨rfl,hq1⟩;have hg1 := hg0.trans hq1;have hx1 := past0 hx0 (Array.getElem?_eq_some_iff.1 hx0).1 hq1 (by simp);have hB1 := isB_grown (r := none) hB0 hq1) | (go_at_call 73;refine (pl_ahead _ _).mono ?_;rw [HJA.out];rintro e w' ⟨rfl,hww⟩;subst w') | (go_at_call 72;refine (pl_behind _ _).mono ?_;rw [HJB.out];rintro e w' ⟨rfl,hww⟩;subst w') | (go_at_call 71;refine (K1.get _ _ (by omega)).mono ?_;rintro e w' ⟨rfl,hww⟩;subst w'))
       go_roundw
       case rel =>
        refine ⟨i + 1,f,srt T,(out ++ [] ++ spell T ++ [10]),hi2,rfl,by go_num,by omega,hl,?_,?_,hg3⟩
        ·have := HSL.out;simp;omega
        ·have e := hB3
         have es : Lib.strCells SP = Lib.byteCells (spell T) := HSC.out
         rw [es] at e
         simpa [Lib.byteCells] using e
       case measure => simp [intOf];omega
      ·have e11 : (srt T == 11) = false := by simpa using h11
       have hl : Hid (plainF toks f (i + 1) (srt T) (out ++ [] ++ spell T ++ []) = RES) := by rw [Hid,hl];simp only [HJB.out,HJA.out];simp [h11]
       clear h11
       go_wp2_with (first | (go_at_call 75;refine (bl_str w.heap.size w.heap.size _ SP _ hB1 (by simp [Lib.byteCells];omega) (by omega) hg1.size).mono ?_;rintro e w2 ⟨rfl,hB2,hk2⟩;have hg2 := hk2.low hg1;have hx2 := hk2.box hx1 hcb;have x0_2 := cell_of hx2 0 _ rfl) | (go_at_call 76;refine (HSP.out _ (tab_kept HT.out (fun k hk => hg0.block k hk (by simp)))).mono ?_;rintro e w1 ⟨rfl,hq1⟩;have hg1 := hg0.trans hq1;have hx1 := past0 hx0 (Array.getElem?_eq_some_iff.1 hx0).1 hq1 (by simp);have hB1 := isB_grown (r := none) hB0 hq1) | (go_at_call 73;refine (pl_ahead _ _).mono ?_;rw [HJA.out];rintro e w' ⟨rfl,hww⟩;subst w') | (go_at_call 72;refine (pl_behind _ _).mono ?_;rw [HJB.out];rintro e w' ⟨rfl,hww⟩;subst w') | (go_at_call 71;refine (K1.get _ _ (by omega)).mono ?_;rintro e w' ⟨rfl,hww⟩;subst w'))
       go_roundw
       case rel =>
        refine ⟨i + 1,f,srt T,(out ++ [] ++ spell T ++ []),hi2,rfl,by go_num,by omega,hl,?_,?_,hg2⟩
        ·have := HSL.out;simp;omega
        ·have e := hB2
         have es : Lib.strCells SP = Lib.byteCells (spell T) := HSC.out
         rw [es] at e
         simpa [Lib.byteCells] using e
       case measure => simp [intOf];omega
     ·have HJA : Hid (jAhead (srt T) = false) := by rw [Hid];simpa using hja
      clear hja
      by_cases h11 : srt T = 11
      ·have e11 : (srt T == 11) = true := by simpa using h11
       have hl : Hid (plainF toks f (i + 1) (srt T) (out ++ [32] ++ spell T ++ [10]) = RES) := by rw [Hid,hl];simp only [HJB.out,HJA.out];simp [h11]
       clear h11
       go_wp2_with (first | (go_at_call 74;refine (bl_byte w.heap.size w.heap.size _ 10 _ hB3 (by simp [Lib.byteCells,Lib.strCells_length];omega) hg3.size).mono ?_;rintro e w4 ⟨rfl,hB4,hk4⟩;have hg4 := hk4.low hg3;have hx4 := hk4.box hx3 hcb;have x0_4 := cell_of hx4 0 _ rfl) | (go_at_call 75;refine (bl_str w.heap.size w.heap.size _ SP _ hB2 (by simp [Lib.byteCells];omega) (by omega) hg2.size).mono ?_;rintro e w3 ⟨rfl,hB3,hk3⟩;have hg3 := hk3.low hg2;have hx3 := hk3.box hx2 hcb;have x0_3 := cell_of hx3 0 _ rfl) | (go_at_call 76;refine (HSP.out _ (tab_kept HT.out (fun k hk => hg1.block k hk (by simp)))).mono ?_;rintro e w2 ⟨rfl,hq2⟩;have hg2 := hg1.trans hq2;have hx2 := past0 hx1 (Array.getElem?_eq_some_iff.1 hx1).1 hq2 (by simp);have hB2 := isB_grown (r := none) hB1 hq2) | (go_at_call 74;refine (bl_byte w.heap.size w.heap.size (Lib.byteCells out) 32 _ hB0 (by simp [Lib.byteCells];omega) hg0.size).mono ?_;rintro e w1 ⟨rfl,hB1,hk1⟩;have hg1 := hk1.low hg0;have hx1 := hk1.box hx0 hcb;have x0_1 := cell_of hx1 0 _ rfl;have x1_1 := cell_of hx1 1 _ rfl;have x2_1 := cell_of hx1 2 _ rfl;have x3_1 := cell_of hx1 3 _ rfl) | (go_at_call 73;refine (pl_ahead _ _).mono ?_;rw [HJA.out];rintro e w' ⟨rfl,hww⟩;subst w') | (go_at_call 72;refine (pl_behind _ _).mono ?_;rw [HJB.out];rintro e w' ⟨rfl,hww⟩;subst w') | (go_at_call 71;refine (K1.get _ _ (by omega)).mono ?_;rintro e w' ⟨rfl,hww⟩;subst w'))
       go_roundw
       case rel =>
        refine ⟨i + 1,f,srt T,(out ++ [32] ++ spell T ++ [10]),hi2,rfl,by go_num,by omega,hl,?_,?_,hg4⟩
        ·have := HSL.out;simp;omega
        ·have e := hB4
         have es : Lib.strCells SP = Lib.byteCells (spell T) := HSC.out
         rw [es] at e
         simpa [Lib.byteCells] using e
       case measure => simp [intOf];omega
      ·have e11 : (srt T == 11) = false := by simpa using h11
       have hl : Hid (plainF toks f (i + 1) (srt T) (out ++ [32] ++ spell T ++ []) = RES) := by rw [Hid,hl];simp only [HJB.out,HJA.out];simp [h11]
       clear h11
       go_wp2_with (first | (go_at_call 75;refine (bl_str w.heap.size w.heap.size _ SP _ hB2 (by simp [Lib.byteCells];omega) (by omega) hg2.size).mono ?_;rintro e w3 ⟨rfl,hB3,hk3⟩;have hg3 := hk3.low hg2;have hx3 := hk3.box hx2 hcb;have x0_3 := cell_of hx3 0 _ rfl) | (go_at_call 76;refine (HSP.out _ (tab_kept HT.out (fun k hk => hg1.block k hk (by simp)))).mono ?_;rintro e w2 ⟨rfl,hq2⟩;have hg2 := hg1.trans hq2;have hx2 := past0 hx1 (Array.getElem?_eq_some_iff.1 hx1).1 hq2 (by simp);have hB2 := isB_grown (r := none) hB1 hq2) | (go_at_call 74;refine (bl_byte w.heap.size w.heap.size (Lib.byteCells out) 32 _ hB0 (by simp [Lib.byteCells];omega) hg0.size).mono ?_;rintro e w1 ⟨rfl,hB1,hk1⟩;have hg1 := hk1.low hg0;have hx1 := hk1.box hx0 hcb;have x0_1 := cell_of hx1 0 _ rfl;have x1_1 := cell_of hx1 1 _ rfl;have x2_1 := cell_of hx1 2 _ rfl;have x3_1 := cell_of hx1 3 _ rfl) | (go_at_call 73;refine (pl_ahead _ _).mono ?_;rw [HJA.out];rintro e w' ⟨rfl,hww⟩;subst w') | (go_at_call 72;refine (pl_behind _ _).mono ?_;rw [HJB.out];rintro e w' ⟨rfl,hww⟩;subst w') | (go_at_call 71;refine (K1.get _ _ (by omega)).mono ?_;rintro e w' ⟨rfl,hww⟩;subst w'))
       go_roundw
       case rel =>
        refine ⟨i + 1,f,srt T,(out ++ [32] ++ spell T ++ []),hi2,rfl,by go_num,by omega,hl,?_,?_,hg3⟩
        ·have := HSL.out;simp;omega
        ·have e := hB3
         have es : Lib.strCells SP = Lib.byteCells (spell T) := HSC.out
         rw [es] at e
         simpa [Lib.byteCells] using e
       case measure => simp [intOf];omega
end
section
set_option maxHeartbeats 2000000
set_option maxRecDepth 100000
open Go.RowKit
theorem Sen.grown {w w' : World} {bc bm B k : Nat} {q : QSt} (h : Sen w bc bm B k q) (hg : w.grownBy w' none) : Sen w' bc bm B k q := by
 obtain ⟨n,g,vV,vC,cs,hC,eg,hv,hoV,hoC,hD,b1,b2,b3,hc,hm,hB⟩ := h
 exact ⟨n,g,vV,vC,cs,hC.kept hg (by simp) (by simp),eg,hv,hoV.kept hg (own_none _),hoC.kept hg (own_none _),hD.grown hg,b1,b2,b3,hc,hm,Nat.le_trans hB hg.size⟩
theorem sn_Check_nil (w : World) (a : Option Addr) (c : Nat) : Calls Tryz.prog 45 #[.slice a 0 c] w fun e w' => e = .returned (.tuple #[.pointer (some ⟨w.heap.size + 1,1,none⟩),.int .i64 0,.int .i64 0]) ∧ Sen w' (w.heap.size + 1) w.heap.size (w.heap.size + 2) 0 q0 ∧ w.grownBy w' none := by
 have hmk : (Instr.makeMap 140 none).run Tryz.prog w = .ok (.map (some w.heap.size)) (w.alloc (.map #[] 0)) := rfl
 go_enter Tryz.func45,Tryz.ntmps45
 go_wp2
 go_loopg [12] 0 (fun n v wr => v = .int .i64 0 ∧ wr = (w.alloc (.map #[] 0)).alloc (.cells #[.map (some w.heap.size),.slice none 0 0,.slice none 0 0,.int .i64 0,.int .i64 0] 142))
 case atStart => exact ⟨rfl,rfl⟩
 case round =>
  obtain ⟨rfl,rfl⟩ := hrel
  go_wp2
  go_ret3
  exact ⟨rfl,sen_start w,(World.grownBy_alloc _ _ _).trans (World.grownBy_alloc _ _ _)⟩
theorem tok_row {w : World} {B : Nat} {v : Value} {toks : List PTok} (h : w.ownsRow B 129 4 v toks.length (tokCells toks)) (hp : 0 < toks.length) : ∃ gt cap,v = .slice (some ⟨gt,0,none⟩) toks.length cap ∧ toks.length ≤ cap ∧ gt < w.heap.size ∧ ∀ j u,(tokCells toks)[j]? = some u → w.cell? ⟨gt,j,none⟩ = some u := by
 obtain ⟨gr,cap,hr,_⟩ := RowIn.of_own (cell := tokCell) (l := toks) h hp
 rcases h.2 with ⟨_,h0⟩ | ⟨g,cap',cur,hv,_,_,hc,_⟩
 ·omega
 ·have e := hr.is
  rw [hv] at e
  injection e with e1 e2 e3
  exact ⟨gr,cap,hr.is,by omega,hr.lt,hr.row⟩
theorem rin_own {α : Type} {w : World} {B e sz : Nat} {v : Value} {cell : α → List Value} {l : List α} (h : w.ownsRow B e sz v l.length (l.flatMap cell)) : RIn w w.heap.size w.heap.size w.heap.size v cell l :=
 ⟨own_slice h,fun hl => by
  obtain ⟨gr,cap,hr,_⟩ := RowIn.of_own h (by cases l with | nil => exact absurd rfl hl | cons _ _ => simp)
  exact ⟨gr,cap,hr,hr.lt,by have := hr.lt;omega,by have := hr.lt;omega⟩⟩
theorem gin_own {w : World} {B : Nat} {x : GRow} (h : x.own w B) : GIn w w.heap.size w.heap.size w.heap.size x := ⟨rin_own h.n,rin_own h.u,rin_own h.t,rin_own h.l⟩
def MdlIs (w : World) (H b : Nat) (s : ByteArray) : Prop :=
 ∃ bc bm B k,H ≤ bc ∧ H ≤ B ∧ k ≤ 2500 ∧ w.cell? ⟨b,0,none⟩ = some (.string ⟨(plainT (progToks s)).toArray⟩) ∧ w.cell? ⟨b,1,none⟩ = some (.pointer (some ⟨bc,1,none⟩)) ∧ b < w.heap.size ∧ Sen w bc bm B k (runQ (pParse (progToks s)).1 q0)
theorem below_grown {w w' : World} (h : Below w.heap.size w w') : w.grownBy w' none := ⟨h.os,h.tape,h.output,h.size,fun k hk _ => h.block k hk⟩
end
section
open Go.RowKit
theorem rd_ok (s : ByteArray) (w : World) (hs : s.size ≤ 2000) (hl : (lex s).1 = 0) : Calls Tryz.prog 43 #[.string s] w fun e w' => ∃ gt cap,e = .returned (.tuple #[.slice (some ⟨gt,0,none⟩) (progToks s).length cap,.int .i64 0]) ∧ (progToks s).length ≤ cap ∧ gt < w'.heap.size ∧ (∀ j u,(tokCells (progToks s))[j]? = some u → w'.cell? ⟨gt,j,none⟩ = some u) ∧ w.grownBy w' none := by
 refine (tk_Read s w hs).mono ?_
 rintro e w' ⟨v,rfl,ho,hb⟩
 have h := ho hl
 have hlen : (progToks s).length = (lex s).2.1.length + 1 := by simp [progToks]
 rw [← hlen] at h
 obtain ⟨gt,cap,rfl,h1,h2,h3⟩ := tok_row (toks := progToks s) h (by omega)
 rw [hl]
 exact ⟨gt,cap,rfl,h1,h2,h3,below_grown hb⟩
theorem ck_any (s : ByteArray) (hs : s.size ≤ 2000) (hp : (pParse (progToks s)).2.2 = 0) (w : World) (v : Value) (B : Nat) (acc : List GRow) (ha : acc.map (·.s) = (pParse (progToks s)).1) (ho : w.ownsRow B 137 16 v acc.length (acc.flatMap GRow.cells)) (hx : ∀ x ∈ acc,x.own w B) : Calls Tryz.prog 45 #[v] w fun e w' =>
   (((runQ (pParse (progToks s)).1 q0).st.1 ≠ 0 ∧ e = .returned (.tuple #[.pointer none,.int .i64 (runQ (pParse (progToks s)).1 q0).st.1,.int .i64 (runQ (pParse (progToks s)).1 q0).st.2])) ∨
   ((runQ (pParse (progToks s)).1 q0).st.1 = 0 ∧ ∃ bc bm B' k,(w.heap.size ≤ bc ∧ w.heap.size ≤ B' ∧ k ≤ 2500) ∧ e = .returned (.tuple #[.pointer (some ⟨bc,1,none⟩),.int .i64 0,.int .i64 0]) ∧ Sen w' bc bm B' k (runQ (pParse (progToks s)).1 q0))) ∧ w.grownBy w' none := by
 obtain ⟨hok,hln⟩ := parse_ok s hs hp
 have hll : acc.length ≤ 2500 := by have := congrArg List.length ha;simp at this;omega
 by_cases h0 : acc.length = 0
 ·obtain rfl : acc = [] := List.length_eq_zero_iff.1 h0
  obtain ⟨a,c,rfl⟩ := own_slice_n ho
  rw [← ha]
  refine (sn_Check_nil w a c).mono ?_
  rintro e w' ⟨rfl,hS,hg⟩
  exact ⟨.inr ⟨rfl,_,_,_,_,⟨Nat.le_succ _,Nat.le_add_right _ 2,Nat.zero_le _⟩,rfl,hS⟩,hg⟩
 ·obtain ⟨gr,cap,hr,_⟩ := RowIn.of_own (cell := GRow.cells) (l := acc) ho (by omega)
  have q := sn_Check (w := w) acc v gr cap hr hll (fun x hm => gin_own (hx x hm)) (fun x hm => hok x.s (by rw [← ha];exact List.mem_map_of_mem hm))
  rw [ha] at q
  refine q.mono ?_
  rintro e w' ⟨h | ⟨h1,h2,h3⟩,hg⟩
  ·exact ⟨.inl h,hg⟩
  ·exact ⟨.inr ⟨h1,_,_,_,_,⟨Nat.le_succ _,Nat.le_add_right _ 2,hll⟩,h2,h3⟩,hg⟩
end
section
set_option maxHeartbeats 4000000
set_option maxRecDepth 100000
open Go.RowKit
theorem pn_ok (s : ByteArray) (w : World) (ht : PowTab w) (hs : s.size ≤ 2000) (hl : (lex s).1 = 0) (hp : (pParse (progToks s)).2.2 = 0) (hq : (runQ (pParse (progToks s)).1 q0).st.1 = 0) : Calls Tryz.prog 35 #[.string s] w fun e w' => ∃ b,e = .returned (.tuple #[.pointer (some ⟨b,0,none⟩),.int .i64 0,.int .i64 0]) ∧ w.heap.size ≤ b ∧ MdlIs w' w.heap.size b s ∧ w.grownBy w' none := by
 have hs' : (s.size : Int) ≤ 2000 := by omega
 have K := Kept.mk (rd_ok s w hs hl)
 have K2 := Kept.mk (fun {w1 : World} {gt cap : Nat} (hrow : ∀ j u,(tokCells (progToks s))[j]? = some u → w1.cell? ⟨gt,j,none⟩ = some u) (hlg : gt < w1.heap.size) => gr_Parse (w := w1) (gt := gt) (capt := cap) (prog_end s hs) (prog_line s) hrow hlg)
 have K3 := Kept.mk (fun {w2 : World} {v2 : Value} {B : Nat} {acc : List GRow} ha ho hx => ck_any s hs hp w2 v2 B acc ha ho hx)
 rw [hp] at K2
 have HQ : Hid ((runQ (pParse (progToks s)).1 q0).st.1 = 0) := hq
 have K4 := Kept.mk (fun {W : World} {gt cap : Nat} (hcap : (progToks s).length ≤ cap) (hrow : ∀ j u,(tokCells (progToks s))[j]? = some u → W.cell? ⟨gt,j,none⟩ = some u) (hlg : gt < W.heap.size) (hW : PowTab W) => pl_Plain (w := W) (gt := gt) (cap := cap) (toks := progToks s) (prog_end s hs) (fun i _ => tok_ok s hs i) hcap hrow hlg hW)
 have HT : Hid (PowTab w) := ht
 clear hp hl hq ht
 go_enter Tryz.func35,Tryz.ntmps35
 go_wp2_with (first | (go_at_call 46;refine (K4.get hcap (fun j u hu => (hg2.trans hg3).cell (hrow j u hu) (by simp)) (Nat.lt_of_lt_of_le hlg (hg2.trans hg3).size) (tab_kept HT.out (fun k hk => ((hg1.trans hg2).trans hg3).block k hk (by simp)))).mono ?_;rintro e w4 ⟨rfl,hg4⟩) | (go_at_call 45;refine (K3.get ha ho hx).mono ?_;rintro e w3 ⟨⟨hbad,_⟩ | ⟨_,bc,bm,B',k,hbnd,rfl,hS⟩,hg3⟩;(exact absurd HQ.out hbad)) | (go_at_call 44;refine (K2.get hrow hlg).mono ?_;rintro e w2 ⟨v2,rfl,hrest,hg2⟩;obtain ⟨acc,ha,ho,hx⟩ := hrest (by trivial)) | (go_at_call 43;refine K.get.mono ?_;rintro e w1 ⟨gt,cap,rfl,hcap,hlg,hrow,hg1⟩))
 go_ret3
 have hB := heap_alloc_new w4 (.cells #[.string ⟨(plainT (progToks s)).toArray⟩,.pointer (some ⟨bc,1,none⟩)] 71)
 have hall := ((hg1.trans hg2).trans hg3).trans hg4
 exact ⟨w4.heap.size,rfl,hall.size,⟨bc,bm,B',k,Nat.le_trans (hg1.trans hg2).size hbnd.1,Nat.le_trans (hg1.trans hg2).size hbnd.2.1,hbnd.2.2,cell_of hB 0 _ rfl,cell_of hB 1 _ rfl,by simp,(hS.grown hg4).alloc _⟩,hall.trans (World.grownBy_alloc _ _ _)⟩
end
section
set_option maxHeartbeats 2000000
set_option maxRecDepth 100000
open Go.RowKit
variable {w w' : World}
def E0 : Env := ⟨[],[],[]⟩
def srcA (A : List (AS × List Pc)) : List UInt8 := bytesP (textPc A)
theorem src_lex {A : List (AS × List Pc)} (h : textOk A) : lex (bn (srcA A)) = (0,toksP 1 (textPc A),1 + nlsP (textPc A)) := lex_P (textPc_ok h) rfl
theorem src_parse {A : List (AS × List Pc)} (h : textOk A) : ∃ n,pParse (progToks (bn (srcA A))) = (gsts 1 A,(n,0)) := by
 unfold progToks
 rw [src_lex h]
 exact ⟨_,parse_run (text_is 1 h) rfl⟩
theorem src_run {A : List (AS × List Pc)} (h : textOk A) (hf : allFine E0 A) : QIs (runQ (pParse (progToks (bn (srcA A)))).1 q0) (envOf E0 A) := by
 obtain ⟨n,e⟩ := src_parse h
 rw [e]
 exact run_is 1 q0_is hf
structure MdAt (w : World) (b : Nat) (V : List QVar) (C : List QCon) (t : List UInt8) : Prop where
 pl : w.cell? ⟨b,0,none⟩ = some (.string ⟨t.toArray⟩)
 lt : b < w.heap.size
 set : ∃ (bc B : Nat) (vV vC : Value) (cs : List CRow),w.cell? ⟨b,1,none⟩ = some (.pointer (some ⟨bc,1,none⟩)) ∧ SetIn w bc B vV vC V cs ∧ cs.map (·.c) = C
theorem MdAt.grown {b : Nat} {V : List QVar} {C : List QCon} {t : List UInt8} (h : MdAt w b V C t) (hg : w.grownBy w' none) : MdAt w' b V C t := by
 obtain ⟨bc,B,vV,vC,cs,h1,h2,h3⟩ := h.set
 exact ⟨hg.cell h.pl (by simp),Nat.lt_of_lt_of_le h.lt hg.size,bc,B,vV,vC,cs,hg.cell h1 (by simp),h2.grown hg,h3⟩
theorem MdlIs.md {H b : Nat} {s : ByteArray} (h : MdlIs w H b s) (hq : QOk (runQ (pParse (progToks s)).1 q0)) : MdAt w b (runQ (pParse (progToks s)).1 q0).vars (runQ (pParse (progToks s)).1 q0).cons (plainT (progToks s)) := by
 obtain ⟨bc,bm,B,k,_,_,_,h1,h2,h3,n,g,vV,vC,cs,hc,_,_,hv,ho,hs,_⟩ := h
 refine ⟨h1,h3,bc,B,vV,vC,cs,h2,⟨hc.c1,hc.c2,hc.lt,hv,?_,hs.at_⟩,hs.row⟩
 have e : (runQ (pParse (progToks s)).1 q0).m = cs.length := by rw [hq.m,← hs.row,List.length_map]
 rw [e] at ho
 exact ho
structure MdOk (V : List QVar) (C : List QCon) : Prop where
 vars : ∀ v ∈ V,-1000 ≤ v.low ∧ v.low ≤ v.high ∧ v.high ≤ 1000
 vlen : V.length ≤ 8
 cons : ∀ c ∈ C,ConOk V.length (TruthAt V) c
 clen : C.length ≤ 16
theorem src_ok {A : List (AS × List Pc)} (h : textOk A) (hf : allFine E0 A) (hs : (srcA A).length ≤ 2000) : MdOk ((envOf E0 A).V.map qv) (envOf E0 A).C := by
 have r := src_run h hf
 obtain ⟨n,e⟩ := src_parse h
 have q := text_ok (bn (srcA A)) (by rw [bn_size];exact hs) (by rw [e]) (by rw [r.st])
 have hv := q.vars
 have hl := q.vlen
 have hc := q.cons
 have hcl := q.clen
 rw [r.vars] at hv hl hc
 rw [r.cons] at hc hcl
 exact ⟨hv,hl,hc,hcl⟩
theorem kp_model (A : List (AS × List Pc)) (h : textOk A) (hf : allFine E0 A) (hs : (srcA A).length ≤ 2000) (w : World) (ht : PowTab w) : Calls Tryz.prog 21 #[.string (bn (srcA A))] w fun e w' => ∃ b,e = .returned (.pointer (some ⟨b,0,none⟩)) ∧ w.heap.size ≤ b ∧ MdAt w' b ((envOf E0 A).V.map qv) (envOf E0 A).C (plainT (progToks (bn (srcA A)))) ∧ w.grownBy w' none := by
 have r := src_run h hf
 obtain ⟨n,e⟩ := src_parse h
 have hz : (bn (srcA A)).size ≤ 2000 := by rw [bn_size];exact hs
 have hp : (pParse (progToks (bn (srcA A)))).2.2 = 0 := by rw [e]
 have hq : (runQ (pParse (progToks (bn (srcA A)))).1 q0).st.1 = 0 := by rw [r.st]
 have K := Kept.mk (pn_ok (bn (srcA A)) w ht hz (by rw [src_lex h]) hp hq)
 have HM : Hid (∀ (w' : World) b,MdlIs w' w.heap.size b (bn (srcA A)) → MdAt w' b ((envOf E0 A).V.map qv) (envOf E0 A).C (plainT (progToks (bn (srcA A))))) := fun w' b hm => by
  have q := hm.md (text_ok (bn (srcA A)) hz hp hq)
  rw [r.vars,r.cons] at q
  exact q
 generalize bn (srcA A) = S at *
 clear r e hz hp hq ht h hf hs
 go_enter Tryz.func21,Tryz.ntmps21
 go_wp2_with (go_at_call 35;refine K.get.mono ?_;rintro e w1 ⟨b,rfl,hb,hm,hg⟩)
 go_ret
 exact ⟨b,rfl,hb,HM.out _ _ hm,hg⟩
end
section
set_option maxHeartbeats 4000000
set_option maxRecDepth 100000
open Go.RowKit
variable {w : World}
theorem and_parts (p a b c d : Nat) (ha : a < 2 ^ p) (hc : c < 2 ^ p) : (2 ^ p * b + a) &&& (2 ^ p * d + c) = 2 ^ p * (b &&& d) + (a &&& c) := by
 apply Nat.eq_of_testBit_eq
 intro i
 have h : a &&& c < 2 ^ p := Nat.lt_of_le_of_lt Nat.and_le_left ha
 rw [Nat.testBit_and,Nat.testBit_two_pow_mul_add _ ha,Nat.testBit_two_pow_mul_add _ hc,Nat.testBit_two_pow_mul_add _ h]
 by_cases q : i < p
 ·simp [q]
 ·simp [q]
def mskF (k : Nat) : Nat → Nat
 | 0 => 0
 | n + 1 => 2 ^ (2 * k) * mskF k n + (2 ^ k - 1)
def addF (k : Nat) : Nat → Nat → Nat
 | 0,_ => 0
 | n + 1,x => x % 2 ^ k + addF k n (x / 2 ^ k)
def BndF (k b : Nat) : Nat → Nat → Prop
 | 0,x => x = 0
 | n + 1,x => x % 2 ^ k ≤ b ∧ BndF k b n (x / 2 ^ k)
def pairF (k : Nat) : Nat → Nat → Nat
 | 0,_ => 0
 | n + 1,x => 2 ^ (2 * k) * pairF k n (x / 2 ^ k / 2 ^ k) + (x % 2 ^ k + x / 2 ^ k % 2 ^ k)
theorem pow2k (k : Nat) : (2 : Nat) ^ (2 * k) = 2 ^ k * 2 ^ k := by rw [Nat.two_mul,Nat.pow_add]
theorem and_msk (k : Nat) : ∀ (n x : Nat),x &&& mskF k (n + 1) = 2 ^ (2 * k) * (x / 2 ^ (2 * k) &&& mskF k n) + x % 2 ^ k := by
 intro n x
 have hp := Nat.two_pow_pos (2 * k)
 have hk := Nat.two_pow_pos k
 have h1 : (2 : Nat) ^ k ≤ 2 ^ (2 * k) := Nat.pow_le_pow_right (by omega) (by omega)
 conv => lhs;rw [← Nat.div_add_mod x (2 ^ (2 * k))]
 rw [mskF,and_parts _ _ _ _ _ (Nat.mod_lt _ hp) (by omega),Nat.and_two_pow_sub_one_eq_mod,Nat.mod_mod_of_dvd]
 exact Nat.pow_dvd_pow 2 (by omega)
theorem pair_is (k : Nat) : ∀ (n x : Nat),(x / 2 ^ k &&& mskF k n) + (x &&& mskF k n) = pairF k n x
 | 0,x => by simp [mskF,pairF]
 | n + 1,x => by
  rw [and_msk,and_msk,pairF,← pair_is k n (x / 2 ^ k / 2 ^ k),pow2k,Nat.div_div_eq_div_mul x (2 ^ k) (2 ^ k),Nat.div_div_eq_div_mul x (2 ^ k) (2 ^ k * 2 ^ k)]
  have e : x / (2 ^ k * (2 ^ k * 2 ^ k)) = x / (2 ^ k * 2 ^ k) / 2 ^ k := by rw [Nat.div_div_eq_div_mul,Nat.mul_assoc]
  rw [e,Nat.mul_add]
  omega
theorem pair_sum (k b : Nat) (hb : b + b < 2 ^ (2 * k)) : ∀ (n x : Nat),BndF k b (2 * n) x → addF (2 * k) n (pairF k n x) = addF k (2 * n) x ∧ BndF (2 * k) (b + b) n (pairF k n x)
 | 0,x,_ => ⟨rfl,rfl⟩
 | n + 1,x,h => by
  have e : 2 * (n + 1) = 2 * n + 1 + 1 := by omega
  rw [e] at h ⊢
  obtain ⟨h1,h2,h3⟩ := h
  obtain ⟨q1,q2⟩ := pair_sum k b hb n _ h3
  have hp := Nat.two_pow_pos (2 * k)
  have m1 : pairF k (n + 1) x % 2 ^ (2 * k) = x % 2 ^ k + x / 2 ^ k % 2 ^ k := by
   rw [pairF,Nat.mul_add_mod,Nat.mod_eq_of_lt (a := x % 2 ^ k + x / 2 ^ k % 2 ^ k) (by omega)]
  have m2 : pairF k (n + 1) x / 2 ^ (2 * k) = pairF k n (x / 2 ^ k / 2 ^ k) := by
   rw [pairF,Nat.mul_add_div hp,Nat.div_eq_of_lt (a := x % 2 ^ k + x / 2 ^ k % 2 ^ k) (by omega)];omega
  refine ⟨?_,?_,?_⟩
  ·rw [addF,m1,m2,q1,addF,addF];omega
  ·rw [m1];omega
  ·rw [m2];exact q2
theorem bnd_bits : ∀ (n x : Nat),x < 2 ^ n → BndF 1 1 n x
 | 0,x,h => by simp at h;exact h
 | n + 1,x,h => ⟨by omega,bnd_bits n _ (by rw [Nat.pow_succ] at h;omega)⟩
def ones (x : Nat) : Nat := addF 1 64 x
theorem pair_late (k b : Nat) (hb : b + b < 2 ^ k) : ∀ (n x : Nat),BndF k b (2 * n) x → (x / 2 ^ k + x) &&& mskF k n = pairF k n x
 | 0,x,_ => by simp [mskF,pairF]
 | n + 1,x,h => by
  have e : 2 * (n + 1) = 2 * n + 1 + 1 := by omega
  rw [e] at h
  obtain ⟨h1,h2,h3⟩ := h
  have hk := Nat.two_pow_pos k
  have hx : x / 2 ^ k / 2 ^ k % 2 ^ k ≤ b := by
   cases n with
   | zero => have : x / 2 ^ k / 2 ^ k = 0 := h3;rw [this];simp
   | succ m =>
    have e2 : 2 * (m + 1) = 2 * m + 1 + 1 := by omega
    rw [e2] at h3
    exact h3.1
  rw [and_msk,pairF,← pair_late k b hb n _ h3]
  have a1 : (x / 2 ^ k + x) % 2 ^ k = x % 2 ^ k + x / 2 ^ k % 2 ^ k := by
   rw [Nat.add_mod,Nat.mod_eq_of_lt (a := x / 2 ^ k % 2 ^ k + x % 2 ^ k) (by omega)];omega
  have a2 : (x / 2 ^ k + x) / 2 ^ (2 * k) = x / 2 ^ k / 2 ^ k / 2 ^ k + x / 2 ^ k / 2 ^ k := by
   rw [pow2k,← Nat.div_div_eq_div_mul]
   have b1 : (x / 2 ^ k + x) / 2 ^ k = x / 2 ^ k / 2 ^ k + x / 2 ^ k := by
    rw [Nat.add_div hk,if_neg (by omega)];omega
   rw [b1,Nat.add_div hk,if_neg (by omega)];omega
  rw [a1,a2]
theorem byte_div (d0 d1 d2 z : Nat) (h0 : d0 ≤ 8) (h1 : d1 ≤ 8) (h2 : d2 ≤ 8) : (65536 * z + (d0 + d1 + 256 * (d1 + d2))) / 65536 = z := by omega
theorem last_lin (d0 d1 d2 d3 d4 d5 d6 d7 y y1 y2 y3 y4 y5 y6 : Nat) (h0 : d0 ≤ 8) (h1 : d1 ≤ 8) (h2 : d2 ≤ 8) (h3 : d3 ≤ 8) (h4 : d4 ≤ 8) (h5 : d5 ≤ 8) (h6 : d6 ≤ 8) (h7 : d7 ≤ 8) (e0 : y = 256 * y1 + d0) (e1 : y1 = 256 * y2 + d1) (e2 : y2 = 256 * y3 + d2) (e3 : y3 = 256 * y4 + d3) (e4 : y4 = 256 * y5 + d4) (e5 : y5 = 256 * y6 + d5) (e6 : y6 = 256 * d7 + d6) : y < 578721382704613385 ∧ (((y + y1) + (y + y1) / 65536) + ((y + y1) + (y + y1) / 65536) / 4294967296) % 128 = d0 + d1 + d2 + d3 + d4 + d5 + d6 + d7 := by
 have c1 : (y + y1) / 65536 = y2 + y3 := by
  have : y + y1 = 65536 * (y2 + y3) + (d0 + d1 + 256 * (d1 + d2)) := by clear e3 e4 e5 e6;omega
  rw [this]
  exact byte_div _ _ _ _ h0 h1 h2
 have c2 : (y + y1 + (y2 + y3)) / 4294967296 = y4 + y5 + y6 + d7 := by
  have : y + y1 + (y2 + y3) = 4294967296 * (y4 + y5 + y6 + d7) + (d0 + d1 + d2 + d3 + 256 * (d1 + d2 + d3 + d4) + 65536 * (d2 + d3 + d4 + d5) + 16777216 * (d3 + d4 + d5 + d6)) := by omega
  rw [this]
  clear this c1 e0 e1 e2 e3 e4 e5 e6
  omega
 rw [c1,c2]
 clear c1 c2
 have c3 : y + y1 + (y2 + y3) + (y4 + y5 + y6 + d7) = 128 * (2 * (y1 + y2 + y3 + y4 + y5 + y6 + d7)) + (d0 + d1 + d2 + d3 + d4 + d5 + d6 + d7) := by omega
 refine ⟨by omega,?_⟩
 rw [c3]
 clear c3 e0 e1 e2 e3 e4 e5 e6
 omega
theorem last_three (y : Nat) (h : BndF 8 8 8 y) : y < 578721382704613385 ∧ (((y + y / 256) + (y + y / 256) / 65536) + ((y + y / 256) + (y + y / 256) / 65536) / 4294967296) % 128 = addF 8 8 y := by
 obtain ⟨h0,h1,h2,h3,h4,h5,h6,h7,h8⟩ := h
 have hs : addF 8 8 y = y % 256 + (y / 256 % 256 + (y / 256 / 256 % 256 + (y / 256 / 256 / 256 % 256 + (y / 256 / 256 / 256 / 256 % 256 + (y / 256 / 256 / 256 / 256 / 256 % 256 + (y / 256 / 256 / 256 / 256 / 256 / 256 % 256 + (y / 256 / 256 / 256 / 256 / 256 / 256 / 256 % 256 + 0))))))) := rfl
 rw [hs]
 have h8' : y / 256 / 256 / 256 / 256 / 256 / 256 / 256 / 256 = 0 := h8
 have q := last_lin (y % 256) (y / 256 % 256) (y / 256 / 256 % 256) (y / 256 / 256 / 256 % 256) (y / 256 / 256 / 256 / 256 % 256) (y / 256 / 256 / 256 / 256 / 256 % 256) (y / 256 / 256 / 256 / 256 / 256 / 256 % 256) (y / 256 / 256 / 256 / 256 / 256 / 256 / 256 % 256)
  y (y / 256) (y / 256 / 256) (y / 256 / 256 / 256) (y / 256 / 256 / 256 / 256) (y / 256 / 256 / 256 / 256 / 256) (y / 256 / 256 / 256 / 256 / 256 / 256) h0 h1 h2 h3 h4 h5 h6 h7
  (Nat.div_add_mod _ _).symm (Nat.div_add_mod _ _).symm (Nat.div_add_mod _ _).symm (Nat.div_add_mod _ _).symm (Nat.div_add_mod _ _).symm (Nat.div_add_mod _ _).symm
  (by
   have r := (Nat.div_add_mod (y / 256 / 256 / 256 / 256 / 256 / 256) 256).symm
   have r2 := Nat.div_add_mod (y / 256 / 256 / 256 / 256 / 256 / 256 / 256) 256
   rw [h8',Nat.mul_zero,Nat.zero_add] at r2
   rw [r2]
   exact r)
 refine ⟨q.1,q.2.trans ?_⟩
 simp only [Nat.add_assoc,Nat.add_zero]
theorem bnd_top : ∀ (n x : Nat),BndF 4 4 n x → 15 * x + 4 ≤ 4 * 16 ^ n
 | 0,x,h => by have : x = 0 := h;subst this;decide
 | n + 1,x,h => by
  have q := bnd_top n _ h.2
  have h1 : x % 16 ≤ 4 := h.1
  have e : x / 2 ^ 4 = x / 16 := rfl
  rw [e] at q
  rw [Nat.pow_succ]
  generalize (16 : Nat) ^ n = r at *
  omega
theorem bnd_le (k b n x : Nat) (h : BndF k b n x) : x < 2 ^ (k * n) := by
 induction n generalizing x with
 | zero => have : x = 0 := h;subst this;simp
 | succ n ih =>
  have q := ih _ h.2
  rw [Nat.mul_succ,Nat.pow_add]
  exact (Nat.div_lt_iff_lt_mul (Nat.two_pow_pos k)).1 q
theorem ones_steps {x : Nat} (h1 : x < 18446744073709551616) : ∃ y1 y2 y3 y4 y5 y6 : Nat,IntKind.u64.wrap (bits .and .u64 ((x : Int) / 2) 6148914691236517205 + bits .and .u64 (x : Int) 6148914691236517205) = (y1 : Int) ∧ IntKind.u64.wrap (bits .and .u64 ((y1 : Int) / 4) 3689348814741910323 + bits .and .u64 (y1 : Int) 3689348814741910323) = (y2 : Int) ∧ bits .and .u64 (IntKind.u64.wrap ((y2 : Int) / 16 + (y2 : Int))) 1085102592571150095 = (y3 : Int) ∧ IntKind.u64.wrap ((y3 : Int) + (y3 : Int) / 256) = (y4 : Int) ∧ IntKind.u64.wrap ((y4 : Int) + (y4 : Int) / 65536) = (y5 : Int) ∧ IntKind.u64.wrap ((y5 : Int) + (y5 : Int) / 4294967296) = (y6 : Int) ∧ y6 < 9223372036854775808 ∧ y6 % 128 = ones x := by
 have b0 : BndF 1 1 (2 * 32) x := bnd_bits 64 x h1
 obtain ⟨s1,b1⟩ := pair_sum 1 1 (by decide) 32 x b0
 obtain ⟨s2,b2⟩ := pair_sum 2 2 (by decide) 16 _ b1
 obtain ⟨s3,b3⟩ := pair_sum 4 4 (by decide) 8 _ b2
 have m1 : mskF 1 32 = 6148914691236517205 := by decide
 have m2 : mskF 2 16 = 3689348814741910323 := by decide
 have m4 : mskF 4 8 = 1085102592571150095 := by decide
 have p1 := pair_is 1 32 x
 have l1 := bnd_le _ _ _ _ b1
 generalize pairF 1 32 x = y1 at *
 have p2 := pair_is 2 16 y1
 have l2 := bnd_le _ _ _ _ b2
 generalize pairF 2 16 y1 = y2 at *
 have p3 := pair_late 4 4 (by decide) 8 y2 b2
 generalize pairF 4 8 y2 = y3 at *
 obtain ⟨t1,t2⟩ := last_three y3 b3
 have t3 := bnd_top _ _ b2
 have e3 : (16 : Nat) ^ (2 * 8) = 18446744073709551616 := by decide
 rw [e3] at t3
 have e1 : (2 : Nat) ^ (2 * 1 * 32) = 18446744073709551616 := by decide
 have e2 : (2 : Nat) ^ (2 * 2 * 16) = 18446744073709551616 := by decide
 rw [m1] at p1
 rw [m2] at p2
 rw [m4] at p3
 rw [e1] at l1
 rw [e2] at l2
 clear b0 b1 b2 b3 m1 m2 m4 e1 e2 e3
 have f2 : ∀ z : Nat,((z : Int) / 2) = ((z / 2 ^ 1 : Nat) : Int) := fun z => by omega
 have f4 : ∀ z : Nat,((z : Int) / 4) = ((z / 2 ^ 2 : Nat) : Int) := fun z => by omega
 have f16 : ∀ z : Nat,((z : Int) / 16) = ((z / 2 ^ 4 : Nat) : Int) := fun z => by omega
 have band : ∀ a b : Nat,a < 18446744073709551616 → b < 18446744073709551616 → bits .and .u64 (a : Int) (b : Int) = ((a &&& b : Nat) : Int) := bits_and_u64_nat
 refine ⟨y1,y2,y3,y3 + y3 / 256,(y3 + y3 / 256) + (y3 + y3 / 256) / 65536,_,?_,?_,?_,?_,?_,?_,?_,t2.trans (s3.trans (s2.trans s1))⟩
 ·have g1 := band (x / 2 ^ 1) 6148914691236517205 (by omega) (by omega)
  have g2 := band x 6148914691236517205 (by omega) (by omega)
  rw [f2]
  refine (congrArg _ (congr (congrArg _ g1) g2)).trans ?_
  rw [IntKind.wrap_u64]
  omega
 ·have g1 := band (y1 / 2 ^ 2) 3689348814741910323 (by omega) (by omega)
  have g2 := band y1 3689348814741910323 (by omega) (by omega)
  rw [f4]
  refine (congrArg _ (congr (congrArg _ g1) g2)).trans ?_
  rw [IntKind.wrap_u64]
  omega
 ·have l3 : y2 / 2 ^ 4 + y2 < 18446744073709551616 := by clear t2 p1 p2 p3 f2 f4 f16 s1 s2 s3;omega
  have g1 := band (y2 / 2 ^ 4 + y2) 1085102592571150095 l3 (by omega)
  have g2 : IntKind.u64.wrap ((y2 : Int) / 16 + (y2 : Int)) = ((y2 / 2 ^ 4 + y2 : Nat) : Int) := by
   rw [f16,IntKind.wrap_u64];omega
  rw [g2]
  refine g1.trans ?_
  rw [p3]
 ·rw [IntKind.wrap_u64];omega
 ·rw [IntKind.wrap_u64];omega
 ·rw [IntKind.wrap_u64];omega
 ·omega
theorem and_127 {y : Nat} (h : y < 9223372036854775808) : bits .and .i64 (y : Int) 127 = ((y % 128 : Nat) : Int) := by
 have h1 : (BitVec.ofInt 64 (y : Int)).toNat = y := by
  rw [BitVec.ofInt_natCast,BitVec.toNat_ofNat];exact Nat.mod_eq_of_lt (by omega)
 have h2 : (BitVec.ofInt 64 (127 : Int)).toNat = 127 := by decide
 show IntKind.i64.wrap ((BitVec.ofInt 64 (y : Int) &&& BitVec.ofInt 64 (127 : Int)).toNat : Int) = _
 rw [BitVec.toNat_and,h1,h2,show (127 : Nat) = 2 ^ 7 - 1 from rfl,Nat.and_two_pow_sub_one_eq_mod]
 simp only [IntKind.wrap,IntKind.bits,IntKind.signed]
 simp
 omega
theorem bt_ones {w : World} (x : Nat) (h1 : x < 18446744073709551616) : Calls Tryz.prog 200 #[.int .u64 (x : Int)] w fun e w' => e = .returned (.int .i64 (ones x : Nat)) ∧ w' = w := by
 obtain ⟨y1,y2,y3,y4,y5,y6,a1,a2,a3,a4,a5,a6,a7,a8⟩ := ones_steps h1
 have hw : IntKind.i64.wrap ((y6 : Nat) : Int) = ((y6 : Nat) : Int) := by
  clear a1 a2 a3 a4 a5 a6
  simp only [IntKind.wrap,IntKind.bits,IntKind.signed]
  simp
  omega
 rw [← a8]
 clear a8
 go_enter Tryz.func200,Tryz.ntmps200
 go_wp2
 go_ret
 have hb := and_127 a7
 rw [hb]
 exact ⟨rfl,rfl⟩
end
section
set_option maxHeartbeats 4000000
set_option maxRecDepth 100000
open Go.RowKit
variable {w : World}
theorem ones_le (x : Nat) : ones x ≤ 64 := by
 have h : ∀ n y,addF 1 n y ≤ n := by
  intro n
  induction n with
  | zero => intro y;exact Nat.le_refl 0
  | succ n ih => intro y;have := ih (y / 2 ^ 1);rw [addF];omega
 exact h 64 x
def cntUp (D : Nat) : Nat → Nat
 | 0 => 0
 | i + 1 => cntUp D i + ones (wordD D i)
theorem cntUp_le (D : Nat) : ∀ i,cntUp D i ≤ 64 * i
 | 0 => Nat.le_refl 0
 | i + 1 => by have := cntUp_le D i;have := ones_le (wordD D i);rw [cntUp];omega
def cntD (D : Nat) : Nat := cntUp D 32
theorem dm_index (D : Nat) {i : Nat} (h : i < 32) (w : World) : Sem.run Tryz.prog (Instr.index 161 (.agg (dArr D)) (.int .i64 (i : Int))) w = .ok (.int .u64 (wordD D i : Nat)) w := by
 have h1 : ∀ w : World,Sem.run Tryz.prog (isAgg 159) w = .ok false w := fun w => by kernel_rfl
 have h2 : ∀ w : World,Sem.run Tryz.prog (sizeOf 159) w = .ok 1 w := fun w => by kernel_rfl
 have h3 := dArr_at D h
 have h4 : (0 : Int) ≤ i ∧ (i : Int) < 32 := by omega
 have h5 : Tryz.prog.underlying 161 = some (.array 32 159) := by kernel_rfl
 simp [Instr.index,run_underlying h5,asIntOf,h4,h1,h2,h3,part,Sem.run_bind,go_sem]
 intro h6;omega
def CtRel (D : Nat) (w : World) (vc vw vi : Value) (wr : World) : Prop :=
 ∃ i : Nat,i ≤ 32 ∧ vi = .int .i64 i ∧ vc = .int .i64 (cntUp D i : Nat) ∧ w.grownBy wr none
theorem dm_Count (D : Nat) (w : World) : Calls Tryz.prog 177 #[.agg (dArr D)] w fun e w' => e = .returned (.int .i64 (cntD D : Nat)) ∧ w.grownBy w' none := by
 have hs := dArr_size D
 have K : ∀ i w,Kept (Calls Tryz.prog 200 #[.int .u64 ((wordD D i : Nat) : Int)] w fun e w' => e = .returned (.int .i64 (ones (wordD D i) : Nat)) ∧ w' = w) := fun i w => Kept.mk (bt_ones (wordD D i) (by have := wordD_lt D i;simpa using this))
 go_enter Tryz.func177,Tryz.ntmps177
 go_wp2_with (refine wpList_load_row rfl 161 _ rfl w.heap.size rfl 161 (dArr D) (0,0) _ (heap_alloc_new w _) Tryz.underlying161 rfl (dSize D) ?_)
 go_loopw [3,5,7] (fun vc vw vi wr => CtRel D w vc vw vi wr) (fun vc vw vi _ => 32 - (intOf vi).toNat)
 case atStart => exact ⟨0,by omega,rfl,rfl,World.grownBy_alloc _ _ _⟩
 case round =>
  obtain ⟨i,hi,rfl,rfl,hgr⟩ := hrel
  by_cases hlt : i < 32
  ·have hlt3 : (i : Int) < 32 := by omega
   have h03 : (0 : Int) ≤ i := by omega
   have ha := dm_index D hlt wr
   have K1 := K i
   have hc := cntUp_le D i
   have ho := ones_le (wordD D i)
   have HE : Hid (((cntUp D i : Nat) : Int) + ((ones (wordD D i) : Nat) : Int) = ((cntUp D (i + 1) : Nat) : Int)) := by rw [Hid,cntUp];omega
   generalize ones (wordD D i) = O at *
   generalize cntUp D i = C at *
   go_wp2_with (go_at_call 200;refine (K1 _).get.mono ?_;rintro e w1 ⟨rfl,rfl⟩)
   go_roundw
   case rel => exact ⟨i + 1,by omega,by simp,by rw [HE.out],hgr⟩
   case measure => simp [intOf];omega
  ·obtain rfl : i = 32 := by omega
   go_wp2
   go_ret
   exact ⟨rfl,hgr⟩
end
section
open Go.RowKit
variable {w : World}
def bitsL (x : Nat) : List Nat := (List.range 64).filter x.testBit
theorem filter_none {α : Type} {p : α → Bool} : ∀ {l : List α},(∀ a ∈ l,p a = false) → l.filter p = []
 | [],_ => rfl
 | a :: l,h => by rw [List.filter_cons,h a (by simp),filter_none (fun b hb => h b (by simp [hb]))];rfl
theorem filter_same {α : Type} {p q : α → Bool} : ∀ {l : List α},(∀ a ∈ l,p a = q a) → l.filter p = l.filter q
 | [],_ => rfl
 | a :: l,h => by rw [List.filter_cons,List.filter_cons,h a (by simp),filter_same (fun b hb => h b (by simp [hb]))]
theorem range_at {n k : Nat} (h : k < n) : List.range n = List.range k ++ k :: List.range' (k + 1) (n - k - 1) := by
 rw [List.range_eq_range',List.range_eq_range']
 have e : n = k + (n - k - 1 + 1) := by omega
 conv => lhs;rw [e]
 rw [← List.range'_append_1 (s := 0),List.range'_succ]
 simp
theorem bitsL_zero : bitsL 0 = [] := filter_none fun a _ => Nat.zero_testBit a
theorem bitsL_next {x : Nat} (h0 : 0 < x) (h1 : x < 2 ^ 64) : bitsL x = tzN x :: bitsL (x &&& (x - 1)) := by
 obtain ⟨m,e,hm,hk⟩ := tz_is h0 h1
 unfold bitsL
 rw [range_at hk,List.filter_append,List.filter_append,List.filter_cons,List.filter_cons]
 have a1 : (List.range (tzN x)).filter x.testBit = [] := filter_none fun a ha => by
  have h2 : a < tzN x := by simpa using ha
  rw [low_bit e hm a (by omega)]
  simp;omega
 have a2 : (List.range (tzN x)).filter (x &&& (x - 1)).testBit = [] := filter_none fun a ha => by
  have h2 : a < tzN x := by simpa using ha
  rw [and_pred_bit h0 h1,low_bit e hm a (by omega)]
  simp
 have b1 : x.testBit (tzN x) = true := by rw [low_bit e hm _ (Nat.le_refl _)];simp
 have b2 : (x &&& (x - 1)).testBit (tzN x) = false := by rw [and_pred_bit h0 h1];simp
 have c1 : (List.range' (tzN x + 1) (64 - tzN x - 1)).filter x.testBit = (List.range' (tzN x + 1) (64 - tzN x - 1)).filter (x &&& (x - 1)).testBit := filter_same fun a ha => by
  have h2 : tzN x + 1 ≤ a := (List.mem_range'_1.1 ha).1
  rw [and_pred_bit h0 h1]
  have h3 : a ≠ tzN x := by omega
  simp [h3]
 rw [a1,a2,b1,b2,c1]
 rfl
def valsB (i x : Nat) : List Int := (bitsL x).map fun j : Nat => ((i : Int) * 64 + (j : Int)) - 1000
def valsF (D : Nat) : Nat → Nat → List Int
 | 0,_ => []
 | f + 1,i => valsB i (wordD D i) ++ valsF D f (i + 1)
def valsD (D : Nat) : List Int := valsF D 32 0
theorem valsB_next {i x : Nat} (h0 : 0 < x) (h1 : x < 2 ^ 64) : valsB i x = ((i : Int) * 64 + ((tzN x : Nat) : Int) - 1000) :: valsB i (x &&& (x - 1)) := by
 unfold valsB;rw [bitsL_next h0 h1];rfl
theorem valsB_zero (i : Nat) : valsB i 0 = [] := by unfold valsB;rw [bitsL_zero];rfl
end
section
def thkC (a b : Bool) (c : UInt8) : List UInt8 := if c = 32 ∧ a then [32,32,9] else if c = 59 ∧ b then [59,32,37,32,115,111,59,32,105,116,32,105,115,10] else [c]
def thk (a b : Bool) (s : List UInt8) : List UInt8 := s.flatMap (thkC a b)
def toksT (b : Bool) : Nat → List Pc → List PTok
 | _,[] => []
 | line,⟨.inl true⟩ :: r => toksT b line r
 | line,⟨.inl false⟩ :: r => toksT b (line + 1) r
 | line,⟨.inr (.inl t)⟩ :: r => mkTok t (if kwL t then 107 else 110) line :: toksT b line r
 | line,⟨.inr (.inr (.inl n))⟩ :: r => mkTok (Lib.itoa n) 105 line :: toksT b line r
 | line,⟨.inr (.inr (.inr t))⟩ :: r => mkTok t 115 line :: toksT b (if t = [59] ∧ b then line + 1 else line) r
def nlsT (b : Bool) : List Pc → Nat
 | [] => 0
 | ⟨.inl false⟩ :: r => nlsT b r + 1
 | ⟨.inr (.inr (.inr t))⟩ :: r => nlsT b r + (if t = [59] ∧ b then 1 else 0)
 | _ :: r => nlsT b r
theorem thk_app (a b : Bool) (s t : List UInt8) : thk a b (s ++ t) = thk a b s ++ thk a b t := by simp [thk]
theorem thk_keep {a b : Bool} : ∀ {t : List UInt8},(∀ c ∈ t,c ≠ 32 ∧ c ≠ 59) → thk a b t = t
 | [],_ => rfl
 | c :: t,h => by
  have hc := h c (by simp)
  have e : thkC a b c = [c] := by unfold thkC;rw [if_neg (fun q => hc.1 q.1),if_neg (fun q => hc.2 q.1)]
  show thkC a b c ++ thk a b t = c :: t
  rw [e,thk_keep (fun x hx => h x (by simp [hx]))]
  rfl
theorem thk_hd (a b : Bool) (s : List UInt8) : hdB (thk a b s) = hdB s := by
 cases s with
 | nil => rfl
 | cons c s =>
  show hdB (thkC a b c ++ thk a b s) = hdB (c :: s)
  unfold thkC
  split
  ·rename_i h;rw [h.1];rfl
  ·split
   ·rename_i h;rw [h.1];rfl
   ·rfl
theorem lexT_rem (l : List UInt8) (line : Nat) (acc : List PTok) : lexT (37 :: 32 :: 115 :: 111 :: 59 :: 32 :: 105 :: 116 :: 32 :: 105 :: 115 :: 10 :: l) line acc = lexT l (line + 1) acc := by
 have e : lexT (37 :: 32 :: 115 :: 111 :: 59 :: 32 :: 105 :: 116 :: 32 :: 105 :: 115 :: 10 :: l) line acc = lexL (l.length + 11) (10 :: l) line acc := rfl
 rw [e,lexL_fuel (l.length + 11) (l.length + 1) (10 :: l) line acc (by simp) (by simp)]
 exact lexT_nl l line acc
theorem lexT_head (l : List UInt8) (line : Nat) (acc : List PTok) : lexT (37 :: 32 :: 97 :: 32 :: 109 :: 111 :: 100 :: 101 :: 108 :: 10 :: l) line acc = lexT l (line + 1) acc := by
 have e : lexT (37 :: 32 :: 97 :: 32 :: 109 :: 111 :: 100 :: 101 :: 108 :: 10 :: l) line acc = lexL (l.length + 9) (10 :: l) line acc := rfl
 rw [e,lexL_fuel (l.length + 9) (l.length + 1) (10 :: l) line acc (by simp) (by simp)]
 exact lexT_nl l line acc
theorem tok_sgL {t l : List UInt8} (h : sgOk t = true) (hn : t = [33] → isLetI (hdB l) = true ∨ hdB l = 32) (hm : t = [45] → hdB l = 32) : tokL (t ++ l) = (t.length,115) := by
 have is32 : ∀ {l : List UInt8},hdB l = 32 → ∃ u,l = 32 :: u := fun {l} q => by
  cases l with
  | nil => exact absurd q (by decide)
  | cons c u =>
   have q : (c.toNat : Int) = 32 := q
   have : c = 32 := UInt8.toNat_inj.1 (by show c.toNat = 32;omega)
   exact ⟨u,by rw [this]⟩
 rcases sg_cases h with e | e | e | e | e | e | e | e | e | e | e | e | e
 all_goals subst e
 all_goals first | rfl | skip
 ·rcases hn rfl with q | q
  ·cases l with
   | nil => exact absurd q (by decide)
   | cons c u =>
    have h1 : isLetI (c.toNat : Int) = true := q
    simp only [isLetI,Bool.and_eq_true,decide_eq_true_eq] at h1
    have e : ((c.toNat : Int) == 61) = false := by simp;omega
    have e2 : twoI 33 (c.toNat : Int) = false := by unfold twoI;rw [e];rfl
    have e3 : sgL (33 :: c :: u) = 1 := by
     have : twoI (hdB (33 :: c :: u)) (hdB (33 :: c :: u).tail) = false := e2
     unfold sgL
     rw [this]
     rfl
    have e4 : numL (33 :: c :: u) = false := rfl
    have e5 : isLetI (hdB (33 :: c :: u)) = false := rfl
    show tokL (33 :: c :: u) = _
    unfold tokL
    rw [e4,e5,e3]
    rfl
  ·obtain ⟨u,rfl⟩ := is32 q
   rfl
 ·obtain ⟨u,rfl⟩ := is32 (hm rfl)
  rfl
theorem sg_hd {t : List UInt8} {r : List Pc} (hn : sgNext t r = true) : (t = [33] → isLetI (hdB (bytesP r)) = true ∨ hdB (bytesP r) = 32) ∧ (t = [45] → hdB (bytesP r) = 32) := by
 constructor
 ·intro e
  subst e
  match r,hn with
  | ⟨.inl true⟩ :: r,_ => rw [bytesP_cons];exact .inr rfl
  | ⟨.inr (.inl t)⟩ :: r,hn =>
   have hw : wordOk t = true := hn
   simp only [wordOk,Bool.and_eq_true] at hw
   rw [bytesP_cons]
   cases t with
   | nil => exact absurd hw.1.1 (by decide)
   | cons c u => exact .inl hw.1.1
 ·intro e
  subst e
  match r,hn with
  | ⟨.inl true⟩ :: r,_ => rw [bytesP_cons];rfl
theorem word_plain {t : List UInt8} (h : wordOk t = true) : ∀ c ∈ t,c ≠ 32 ∧ c ≠ 59 := fun c hc => by
 simp only [wordOk,Bool.and_eq_true,List.all_eq_true] at h
 have q := h.1.2 c hc
 constructor
 ·rintro rfl;exact absurd q (by decide)
 ·rintro rfl;exact absurd q (by decide)
theorem num_plain (n : Int) : ∀ c ∈ Lib.itoa n,c ≠ 32 ∧ c ≠ 59 := fun c hc => by
 have key : ∀ u : Nat,c ∈ Lib.decDigits u → c ≠ 32 ∧ c ≠ 59 := fun u hu => by
  have q := dec_dig u c hu
  constructor
  ·rintro rfl;exact absurd q (by decide)
  ·rintro rfl;exact absurd q (by decide)
 unfold Lib.itoa at hc
 split at hc
 ·rcases List.mem_cons.1 hc with rfl | q
  ·exact ⟨by decide,by decide⟩
  ·exact key _ q
 ·exact key _ hc
theorem lexT_thk (a b : Bool) : ∀ (P : List Pc) (line : Nat) (acc : List PTok),okP P → lexT (thk a b (bytesP P)) line acc = (0,acc ++ toksT b line P,line + nlsT b P)
 | [],line,acc,_ => by simp [bytesP,toksT,nlsT,thk,lexT_nil]
 | ⟨.inl true⟩ :: r,line,acc,h => by
  rw [bytesP_cons,thk_app]
  have e : thk a b (Pc.bytes ⟨.inl true⟩) = if a then [32,32,9] else [32] := by cases a <;> rfl
  rw [e]
  cases a with
  | true => exact (lexT_sp _ line acc).trans ((lexT_sp _ line acc).trans ((lexT_tab _ line acc).trans (lexT_thk true b r line acc h)))
  | false => exact (lexT_sp _ line acc).trans (lexT_thk false b r line acc h)
 | ⟨.inl false⟩ :: r,line,acc,h => by
  rw [bytesP_cons,thk_app]
  have e : thk a b (Pc.bytes ⟨.inl false⟩) = [10] := by cases a <;> cases b <;> rfl
  rw [e]
  refine (lexT_nl _ line acc).trans ((lexT_thk a b r (line + 1) acc h).trans ?_)
  simp only [toksT,nlsT]
  rw [Nat.add_assoc,Nat.add_comm 1]
 | ⟨.inr (.inl t)⟩ :: r,line,acc,h => by
  obtain ⟨h1,h2,h3⟩ := h
  have hw := h1
  simp only [wordOk,Bool.and_eq_true] at hw
  have hh : hdB t ≠ 10 ∧ hdB t ≠ 32 ∧ hdB t ≠ 9 ∧ hdB t ≠ 37 := by
   have q := hw.1.1
   simp only [isLetI,Bool.and_eq_true,decide_eq_true_eq] at q
   refine ⟨?_,?_,?_,?_⟩ <;> omega
  rw [bytesP_cons,thk_app,show Pc.bytes ⟨.inr (.inl t)⟩ = t from rfl,thk_keep (word_plain h1)]
  refine (lexT_tok line acc ?_ hh (tok_word h1 (by rw [thk_hd];exact (apart_hd h2).1))).trans ((lexT_thk a b r line _ h3).trans ?_)
  ·rintro rfl;exact absurd hw.1.1 (by decide)
  ·simp [toksT,nlsT,List.append_assoc]
 | ⟨.inr (.inr (.inl n))⟩ :: r,line,acc,h => by
  obtain ⟨⟨h1,h1'⟩,h2,h3⟩ := h
  rw [bytesP_cons,thk_app,show Pc.bytes ⟨.inr (.inr (.inl n))⟩ = Lib.itoa n from rfl,thk_keep (num_plain n)]
  have hx : Lib.itoa n ≠ [] ∧ (isDigI (hdB (Lib.itoa n)) = true ∨ hdB (Lib.itoa n) = 45) := by
   unfold Lib.itoa
   split
   ·exact ⟨by simp,.inr rfl⟩
   ·refine ⟨dec_ne _,.inl ?_⟩
    have hd := dec_dig n.toNat
    cases e : Lib.decDigits n.toNat with
    | nil => exact absurd e (dec_ne _)
    | cons c u => rw [e] at hd;exact hd c (by simp)
  have hh : hdB (Lib.itoa n) ≠ 10 ∧ hdB (Lib.itoa n) ≠ 32 ∧ hdB (Lib.itoa n) ≠ 9 ∧ hdB (Lib.itoa n) ≠ 37 := by
   rcases hx.2 with q | q
   ·simp only [isDigI,Bool.and_eq_true,decide_eq_true_eq] at q
    refine ⟨?_,?_,?_,?_⟩ <;> omega
   ·rw [q];decide
  refine (lexT_tok line acc hx.1 hh (tok_num h1 h1' (by rw [thk_hd];exact (apart_hd h2).2))).trans ((lexT_thk a b r line _ h3).trans ?_)
  simp [toksT,nlsT,List.append_assoc]
 | ⟨.inr (.inr (.inr t))⟩ :: r,line,acc,h => by
  obtain ⟨h1,h2,h3⟩ := h
  obtain ⟨s1,s2⟩ := sg_hd h2
  have hx : t ≠ [] ∧ hdB t ≠ 10 ∧ hdB t ≠ 32 ∧ hdB t ≠ 9 ∧ hdB t ≠ 37 := by
   rcases sg_cases h1 with e | e | e | e | e | e | e | e | e | e | e | e | e <;> (subst e;decide)
  rw [bytesP_cons,thk_app,show Pc.bytes ⟨.inr (.inr (.inr t))⟩ = t from rfl]
  by_cases c : t = [59] ∧ b
  ·obtain ⟨rfl,cb⟩ := c
   subst cb
   have e : thk a true [59] = [59] ++ (32 :: [37,32,115,111,59,32,105,116,32,105,115,10]) := by cases a <;> rfl
   rw [e,List.append_assoc]
   refine (lexT_tok line acc hx.1 hx.2 (tok_sgL h1 (fun q => by cases q) (fun q => by cases q))).trans ((lexT_sp _ line _).trans ((lexT_rem _ line _).trans ((lexT_thk a true r (line + 1) _ h3).trans ?_)))
   simp [toksT,nlsT,List.append_assoc]
   omega
  ·have e : thk a b t = t := by
    rcases sg_cases h1 with q | q | q | q | q | q | q | q | q | q | q | q | q
    all_goals subst q
    all_goals first | (exact thk_keep (by decide)) | skip
    cases b with
    | false => cases a <;> rfl
    | true => exact absurd ⟨rfl,rfl⟩ c
   rw [e]
   refine (lexT_tok line acc hx.1 hx.2 (tok_sgL h1 (fun q => by rw [thk_hd];exact s1 q) (fun q => by rw [thk_hd];exact s2 q))).trans ((lexT_thk a b r line _ h3).trans ?_)
   simp [toksT,nlsT,c,List.append_assoc]
def noSm : List Pc → Bool
 | [] => true
 | ⟨.inr (.inr (.inr t))⟩ :: r => decide (t ≠ [59]) && noSm r
 | _ :: r => noSm r
theorem noSm_app : ∀ (P R : List Pc),noSm (P ++ R) = (noSm P && noSm R)
 | [],R => rfl
 | ⟨.inl true⟩ :: r,R => noSm_app r R
 | ⟨.inl false⟩ :: r,R => noSm_app r R
 | ⟨.inr (.inl _)⟩ :: r,R => noSm_app r R
 | ⟨.inr (.inr (.inl _))⟩ :: r,R => noSm_app r R
 | ⟨.inr (.inr (.inr t))⟩ :: r,R => by
  show (decide (t ≠ [59]) && noSm (r ++ R)) = ((decide (t ≠ [59]) && noSm r) && noSm R)
  rw [noSm_app r R,Bool.and_assoc]
theorem toksT_of {b : Bool} : ∀ {P : List Pc} (line : Nat),noSm P = true → toksT b line P = toksP line P ∧ nlsT b P = nlsP P
 | [],line,_ => ⟨rfl,rfl⟩
 | ⟨.inl true⟩ :: r,line,h => toksT_of (P := r) line h
 | ⟨.inl false⟩ :: r,line,h => by
  obtain ⟨h1,h2⟩ := toksT_of (b := b) (P := r) (line + 1) h
  exact ⟨h1,congrArg (· + 1) h2⟩
 | ⟨.inr (.inl t)⟩ :: r,line,h => by
  obtain ⟨h1,h2⟩ := toksT_of (b := b) (P := r) line h
  exact ⟨congrArg (List.cons _) h1,h2⟩
 | ⟨.inr (.inr (.inl t))⟩ :: r,line,h => by
  obtain ⟨h1,h2⟩ := toksT_of (b := b) (P := r) line h
  exact ⟨congrArg (List.cons _) h1,h2⟩
 | ⟨.inr (.inr (.inr t))⟩ :: r,line,h => by
  have h : (decide (t ≠ [59]) && noSm r) = true := h
  rw [Bool.and_eq_true,decide_eq_true_eq] at h
  have c : ¬ (t = [59] ∧ b = true) := fun q => h.1 q.1
  obtain ⟨h1,h2⟩ := toksT_of (b := b) (P := r) line h.2
  constructor
  ·show mkTok t 115 line :: toksT b (if t = [59] ∧ b = true then line + 1 else line) r = mkTok t 115 line :: toksP line r
   rw [if_neg c,h1]
  ·show nlsT b r + (if t = [59] ∧ b = true then 1 else 0) = nlsP r
   rw [if_neg c,h2,Nat.add_zero]
theorem toksT_app {b : Bool} (R : List Pc) : ∀ (P : List Pc) (line : Nat),toksT b line (P ++ R) = toksT b line P ++ toksT b (line + nlsT b P) R
 | [],line => rfl
 | ⟨.inl true⟩ :: r,line => toksT_app R r line
 | ⟨.inl false⟩ :: r,line => by
  show toksT b (line + 1) (r ++ R) = toksT b (line + 1) r ++ toksT b (line + (nlsT b r + 1)) R
  rw [toksT_app R r (line + 1),Nat.add_assoc,Nat.add_comm 1]
 | ⟨.inr (.inl t)⟩ :: r,line => by
  show _ :: toksT b line (r ++ R) = _ :: toksT b line r ++ toksT b (line + nlsT b r) R
  rw [toksT_app R r line];rfl
 | ⟨.inr (.inr (.inl t))⟩ :: r,line => by
  show _ :: toksT b line (r ++ R) = _ :: toksT b line r ++ toksT b (line + nlsT b r) R
  rw [toksT_app R r line];rfl
 | ⟨.inr (.inr (.inr t))⟩ :: r,line => by
  show mkTok t 115 line :: toksT b (if t = [59] ∧ b = true then line + 1 else line) (r ++ R) = mkTok t 115 line :: toksT b (if t = [59] ∧ b = true then line + 1 else line) r ++ toksT b (line + (nlsT b r + (if t = [59] ∧ b = true then 1 else 0))) R
  rw [toksT_app R r]
  by_cases c : t = [59] ∧ b = true
  ·rw [if_pos c,if_pos c,show line + 1 + nlsT b r = line + (nlsT b r + 1) from by omega];rfl
  ·rw [if_neg c,if_neg c,Nat.add_zero];rfl
theorem body_sm (t : AT) : noSm t.body = true := by unfold AT.body;split <;> rfl
theorem sum_sm : ∀ ts : List AT,noSm (sumPc ts) = true
 | [] => rfl
 | t :: ts => by
  show (decide ((if t.neg then [45] else [43]) ≠ [59]) && noSm (t.body ++ sumPc ts)) = true
  rw [noSm_app,body_sm,sum_sm ts]
  cases t.neg <;> rfl
theorem rel_sm (rel : Nat) (m : Int) : noSm [.sp,.sg (relB rel),.sp,.num m] = true := by
 match rel with
 | 0 => rfl
 | 1 => rfl
 | _ + 2 => rfl
theorem lin_sm (t : AT) (ts : List AT) (rel : Nat) (m : Int) : noSm (linPc t ts rel m) = true := by unfold linPc;rw [noSm_app,noSm_app,body_sm,sum_sm,rel_sm];rfl
theorem ser_sm {α : Type} {f : α → List Pc} (h : ∀ a,noSm (f a) = true) : ∀ rs : List α,noSm (serPc f rs) = true
 | [] => rfl
 | a :: rs => by show noSm (f a ++ serPc f rs) = true;rw [noSm_app,h,ser_sm h rs];rfl
theorem lit_sm (a : Bool × List UInt8) : noSm (litPc a) = true := by unfold litPc;split <;> rfl
theorem AS.sm (a : AS) : noSm a.pcs = true := by
 rcases a with ⟨⟨n,lo,hi⟩ | ⟨n,a,rs⟩ | ⟨t,ts,rel,m⟩ | ⟨b,t,ts,rel,m⟩ | ⟨l,k,v⟩ | ⟨a,rs⟩ | ⟨a,rs⟩⟩
 ·rfl
 ·show noSm (serPc (fun m => [.num m]) rs ++ [.sg [93]]) = true;rw [noSm_app,ser_sm (fun _ => rfl)];rfl
 ·exact lin_sm t ts rel m
 ·exact lin_sm t ts rel m
 ·rfl
 ·exact ser_sm (fun _ => rfl) rs
 ·show noSm (litPc a ++ serPc litPc rs) = true;rw [noSm_app,lit_sm,ser_sm lit_sm];rfl
theorem blank_sm : ∀ {b : List Pc},blank b = true → noSm b = true
 | [],_ => rfl
 | ⟨.inl true⟩ :: r,h => blank_sm (b := r) h
 | ⟨.inl false⟩ :: r,h => blank_sm (b := r) h
def thA (b : Bool) (A : List (AS × List Pc)) : List (AS × List Pc) := A.map fun p => (p.1,if b then .nl :: p.2 else p.2)
theorem toksT_text (b : Bool) : ∀ (A : List (AS × List Pc)) (line : Nat),(∀ p ∈ A,blank p.2 = true) → toksT b line (textPc A) = toksP line (textPc (thA b A))
 | [],line,_ => rfl
 | (a,c) :: r,line,h => by
  have hc := h (a,c) (by simp)
  show toksT b line (a.pcs ++ (.sg [59] :: (c ++ textPc r))) = toksP line (a.pcs ++ (.sg [59] :: ((if b then .nl :: c else c) ++ textPc (thA b r))))
  obtain ⟨h1,h2⟩ := toksT_of (b := b) line (AS.sm a)
  rw [toksT_app,h1,h2,toksP_app]
  congr 1
  generalize line + nlsP a.pcs = ln
  show mkTok [59] 115 ln :: toksT b (if ([59] : List UInt8) = [59] ∧ b = true then ln + 1 else ln) (c ++ textPc r) = mkTok [59] 115 ln :: toksP ln ((if b then .nl :: c else c) ++ textPc (thA b r))
  congr 1
  have ih := fun l => toksT_text b r l (fun p hp => h p (by simp [hp]))
  obtain ⟨k1,k2⟩ := toksT_of (b := b) (P := c) (if ([59] : List UInt8) = [59] ∧ b = true then ln + 1 else ln) (blank_sm hc)
  rw [toksT_app,k1,k2,ih]
  cases b with
  | true =>
   show toksP (ln + 1) c ++ toksP (ln + 1 + nlsP c) (textPc (thA true r)) = toksP (ln + 1) (c ++ textPc (thA true r))
   rw [toksP_app]
  | false =>
   show toksP ln c ++ toksP (ln + nlsP c) (textPc (thA false r)) = toksP ln (c ++ textPc (thA false r))
   rw [toksP_app]
end
end Go.Proofs.YthpcbbnabnlanaaGreatDoor
