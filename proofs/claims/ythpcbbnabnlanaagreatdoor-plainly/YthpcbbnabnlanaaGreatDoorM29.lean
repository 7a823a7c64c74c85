import Derived.Test.YthpcbbnabnlanaaGreatDoorM26
import Derived.Test.YthpcbbnabnlanaaGreatDoorM27
import Derived.Test.YthpcbbnabnlanaaGreatDoorM28
import Derived.Laws.OwnMore
namespace Go.Proofs.YthpcbbnabnlanaaGreatDoor
set_option linter.unusedVariables false
set_option linter.unusedSimpArgs false
section
set_option maxHeartbeats 4000000
set_option maxRecDepth 100000
open Go.RowKit
variable {w w' : World}
def A45 : List (AS × List Pc) := [(.var [120] 4 5,[])]
theorem itoa_dig {k : Nat} (h : k < 10) : Lib.itoa (k : Int) = [UInt8.ofNat (48 + k)] := by
 unfold Lib.itoa
 rw [if_neg (by omega)]
 exact Lib.decDigits_one h
theorem A45_src : bn (srcA A45) = ⟨#[118,97,114,32,120,58,32,52,46,46,53,59]⟩ := by
 have e4 : Lib.itoa 4 = [52] := itoa_dig (k := 4) (by decide)
 have e5 : Lib.itoa 5 = [53] := itoa_dig (k := 5) (by decide)
 show bn ([118,97,114] ++ ([32] ++ ([120] ++ ([58] ++ ([32] ++ (Lib.itoa 4 ++ ([46,46] ++ (Lib.itoa 5 ++ ([59] ++ []))))))))) = _
 rw [e4,e5]
 rfl
theorem A45_ok : textOk A45 := fun p hp => by
 have : p = (.var [120] 4 5,[]) := by simpa [A45] using hp
 subst this
 exact ⟨⟨⟨rfl,rfl⟩,⟨by decide,by decide⟩,⟨by decide,by decide⟩⟩,rfl⟩
theorem A45_fine : allFine E0 A45 := ⟨⟨⟨(fun p hp => by cases hp),(fun p hp => by cases hp)⟩,by decide,by decide,by decide,by decide⟩,trivial⟩
theorem lex_two {l : List (List Int)} {a b : List Int} (h : l.Perm [a,b]) (hp : l.Pairwise LexLt) (hn : ¬ LexLt b a) : l = [a,b] := by
 have hl := h.length_eq
 match l,hl with
 | [x,y],_ =>
  have hx : x ∈ [a,b] := h.mem_iff.1 (by simp)
  have hy : y ∈ [a,b] := h.mem_iff.1 (by simp)
  have hlt : LexLt x y := by simpa using hp
  have ha : a ∈ [x,y] := h.mem_iff.2 (by simp)
  have hb : b ∈ [x,y] := h.mem_iff.2 (by simp)
  simp only [List.mem_cons,List.not_mem_nil,or_false] at hx hy ha hb
  rcases hx with rfl | rfl
  ·rcases hy with rfl | rfl
   ·rcases hb with rfl | rfl <;> rfl
   ·rfl
  ·rcases hy with rfl | rfl
   ·exact absurd hlt hn
   ·rcases ha with rfl | rfl <;> rfl
theorem found_two {weak : Bool} : (solveS (mkK [⟨bn [120],4,5⟩] [] 0 weak 10)).sols = [[4],[5]] := by
 have hM : MdOk [⟨bn [120],4,5⟩] [] := by
  have q := src_ok A45_ok A45_fine (by have e := congrArg ByteArray.size A45_src;rw [bn_size] at e;rw [e];decide)
  exact q
 obtain ⟨h1,_,_⟩ := solve_all hM 0 weak 10 (by decide) (by decide)
 have e : (boxV (bdV [⟨bn [120],4,5⟩])).filter (suitsP [⟨bn [120],4,5⟩] []) = [[4],[5]] := by decide
 have hp := h1.perm
 rw [e] at hp
 refine lex_two hp (h1.lex (by decide)) ?_
 rintro ⟨k,h1,h2⟩
 match k with
 | 0 => exact absurd h2 (by decide)
 | k + 1 => simp at h2
theorem ValsIn.cells {u : Value} {r : List Int} (h : ValsIn w u r) (hne : r ≠ []) : ∃ gv cv,u = .slice (some ⟨gv,0,none⟩) r.length cv ∧ gv < w.heap.size ∧ ∀ (j : Nat) (x : Int),r[j]? = some x → w.cell? ⟨gv,j,none⟩ = some (.int .i64 x) := by
 rcases h with ⟨e,_⟩ | ⟨gv,cv,hR⟩
 ·exact absurd e hne
 ·refine ⟨gv,cv,hR.is,hR.lt,fun j x hx => ?_⟩
  have q := hR.at (sz := 1) (fun _ => rfl) hx 0 _ rfl
  rw [Nat.mul_one] at q
  exact q
theorem LL.row {a : Option Addr} {n c : Nat} {rows : List (List Int)} (h : LL w (.slice a n c) rows) {i : Nat} {r : List Int} (hr : rows[i]? = some r) (hne : r ≠ []) : ∃ g gv cv,a = some ⟨g,0,none⟩ ∧ g < w.heap.size ∧ w.cell? ⟨g,i,none⟩ = some (.slice (some ⟨gv,0,none⟩) r.length cv) ∧ gv < w.heap.size ∧ ∀ (j : Nat) (x : Int),r[j]? = some x → w.cell? ⟨gv,j,none⟩ = some (.int .i64 x) := by
 obtain ⟨g,u,e,h1,h2,h3⟩ := h.at_ hr
 obtain ⟨gv,cv,rfl,h4,h5⟩ := h3.cells hne
 exact ⟨g,gv,cv,e,h1,h2,h4,h5⟩
theorem kp_found {b : Nat} {V : List QVar} {C : List QCon} {t : List UInt8} (h : MdAt w b V C t) (hM : MdOk V C) (ht : PowTab w) (hdb : DbTab w) (order : Int) (weak : Bool) (ho1 : -9223372036854775808 ≤ order) (ho2 : order ≤ 9223372036854775807) (hb : (V.length * (boxV (bdV V)).length + 1 : Int) ≤ 1000000) (hbox : (boxV (bdV V)).length < 100000) : Calls Tryz.prog 22 #[.pointer (some ⟨b,0,none⟩),.int .i64 order,.bool weak] w fun e w' => ∃ vS,e = .returned (.tuple #[vS,.bool true]) ∧ LLT w' vS (solveS (mkK V C (pickI order 2) weak 1000000)).sols ∧ w.grownBy w' none := by
 have hlen : (srcA A45).length ≤ 2000 := by have e := congrArg ByteArray.size A45_src;rw [bn_size] at e;rw [e];decide
 have KM := Kept.mk (kp_model A45 A45_ok A45_fine hlen w ht)
 rw [A45_src] at KM
 have hM0 := src_ok A45_ok A45_fine hlen
 have KQ := Kept.mk (fun {W : World} {b0 : Nat} {t0 : List UInt8} (hg : w.grownBy W none) (hm : MdAt W b0 ((envOf E0 A45).V.map qv) (envOf E0 A45).C t0) => md_Solve hm hM0 (db_grown hdb hg) 0 weak 10 (by decide))
 have KR := Kept.mk (fun {W : World} (hg : w.grownBy W none) => md_Solve (h.grown hg) hM (db_grown hdb hg) (pickI order 2) weak 1000000 (by decide))
 have KP := Kept.mk (fun W => kp_pick order 2 W ho1 ho2 (by decide) (by decide))
 have hf2 := found_two (weak := weak)
 have e2 : (envOf E0 A45).V.map qv = [⟨bn [120],4,5⟩] := rfl
 have e3 : (envOf E0 A45).C = [] := rfl
 rw [e2,e3] at KQ
 rw [e2,e3] at KM
 obtain ⟨hA,hn0,hn1⟩ := solve_all hM (pickI order 2) weak 1000000 hb hbox
 have hend := hA.ending
 rw [hend] at KR
 generalize solveS (mkK V C (pickI order 2) weak 1000000) = R at *
 generalize hQ : solveS (mkK [⟨bn [120],4,5⟩] [] 0 weak 10) = Q at *
 have hrow : Q.sols.length = 2 := by rw [hf2];rfl
 have HROW : Hid (Q.sols[0]? = some [4]) := by rw [Hid,hf2];rfl
 generalize pickI order 2 = PO at *
 clear h hM ht hdb hA hend hf2 hM0 hlen hQ e2 e3
 go_enter Tryz.func22,Tryz.ntmps22
 go_wp2_with (first | (go_at_call 21;refine KM.get.mono ?_;rintro e w1 ⟨b0,rfl,hb0,hm1,hg1⟩) | (go_at_call 29;refine (KQ.get hg1 hm1).mono ?_;rintro e w2 ⟨vQ,rfl,hL2,hg2⟩;obtain ⟨qa,qc,hvQ⟩ := hL2.ll.is;subst hvQ;obtain ⟨g,gv,cv,rfl,q1,q2,q3,q4⟩ := hL2.ll.row HROW.out (by simp);have q5 := q4 0 4 rfl;clear q4 hL2))
 have hgA := ((hg1.trans hg2).trans (World.grownBy_alloc w2 (.cells #[.slice (some ⟨g,0,none⟩) 2 qc,.int .i64 Q.ending,.int .i64 Q.nodes] 50) none))
 generalize w2.alloc (.cells #[.slice (some ⟨g,0,none⟩) 2 qc,.int .i64 Q.ending,.int .i64 Q.nodes] 50) = W5 at *
 clear q1 q2 q3 q5 KQ KM hg1 hg2 hm1
 go_wp2_with (first | (go_at_call 16;refine (KP.get _).mono ?_;rintro e w6 ⟨rfl,rfl⟩) | (go_at_call 29;refine (KR.get hgA).mono ?_;rintro e w4 ⟨vR,rfl,hL4,hg4⟩;obtain ⟨ra,rc,hvR⟩ := hL4.ll.is;subst hvR))
 go_quiet (fail)
 go_wp2
 go_ret2
 exact ⟨_,rfl,(hL4.grown (World.grownBy_alloc _ _ _)).grown (grown_drewN' _ _ _),((hgA.trans hg4).trans (World.grownBy_alloc _ _ _)).trans (grown_drewN' _ _ _)⟩
end
section
open Go.RowKit
theorem textPc_app : ∀ A B : List (AS × List Pc),textPc (A ++ B) = textPc A ++ textPc B
 | [],B => rfl
 | (a,b) :: r,B => by
  show a.pcs ++ (.sg [59] :: (b ++ textPc (r ++ B))) = (a.pcs ++ (.sg [59] :: (b ++ textPc r))) ++ textPc B
  rw [textPc_app r B]
  simp [List.append_assoc]
theorem srcA_app (A B : List (AS × List Pc)) : srcA (A ++ B) = srcA A ++ srcA B := by unfold srcA;rw [textPc_app,bytesP_app]
theorem srcA_cons (a : AS) (b : List Pc) (B : List (AS × List Pc)) : srcA ((a,b) :: B) = srcA [(a,b)] ++ srcA B := srcA_app [(a,b)] B
theorem srcA_one (a : AS) (b : List Pc) : srcA [(a,b)] = bytesP a.pcs ++ (59 :: bytesP b) := by
 show bytesP (a.pcs ++ (.sg [59] :: (b ++ []))) = _
 rw [List.append_nil,bytesP_app,bytesP_cons]
 rfl
theorem textOk_app {A B : List (AS × List Pc)} (h : textOk A) (k : textOk B) : textOk (A ++ B) := fun p hp => by
 rcases List.mem_append.1 hp with q | q
 ·exact h p q
 ·exact k p q
theorem dec_inj {u v : Nat} (h : Lib.decDigits u = Lib.decDigits v) : u = v := by
 have h1 := numTo_dec u
 have h2 := numTo_dec v
 rw [h,h2] at h1
 omega
theorem itoa_nat (k : Nat) : Lib.itoa (k : Int) = Lib.decDigits k := by
 unfold Lib.itoa
 rw [if_neg (by omega)]
 rfl
theorem nmK_inj {j k : Nat} (h : nmK j = nmK k) : j = k := by
 unfold nmK at h
 rw [itoa_nat,itoa_nat] at h
 injection h with _ h
 exact dec_inj h
theorem nmK_dig {k : Nat} (h : k < 10) : nmK k = [120,UInt8.ofNat (48 + k)] := by unfold nmK;rw [itoa_dig h]
theorem nmK_ok {k : Nat} (h : k < 10) : nmOk (nmK k) := by
 rw [nmK_dig h]
 have : k = 0 ∨ k = 1 ∨ k = 2 ∨ k = 3 ∨ k = 4 ∨ k = 5 ∨ k = 6 ∨ k = 7 ∨ k = 8 ∨ k = 9 := by omega
 rcases this with rfl | rfl | rfl | rfl | rfl | rfl | rfl | rfl | rfl | rfl <;> exact ⟨rfl,rfl⟩
def VN (n : Nat) (lo hi : Int) : List (List UInt8 × Int × Int) := (List.range n).map fun k => (nmK k,lo,hi)
theorem VN_succ (n : Nat) (lo hi : Int) : VN (n + 1) lo hi = VN n lo hi ++ [(nmK n,lo,hi)] := by simp [VN,List.range_succ]
theorem VN_len (n : Nat) (lo hi : Int) : (VN n lo hi).length = n := by simp [VN]
theorem VN_mem {n : Nat} {lo hi : Int} {p : List UInt8 × Int × Int} (h : p ∈ VN n lo hi) : ∃ k,k < n ∧ p = (nmK k,lo,hi) := by
 obtain ⟨k,hk,rfl⟩ := List.mem_map.1 h
 exact ⟨k,List.mem_range.1 hk,rfl⟩
theorem VN_in {n k : Nat} {lo hi : Int} (h : k < n) : (nmK k,lo,hi) ∈ VN n lo hi := List.mem_map.2 ⟨k,List.mem_range.2 h,rfl⟩
theorem inV_nm {n k : Nat} {lo hi : Int} {L : List (List UInt8 × List Int)} {C : List QCon} (h : k < n) : (Env.mk (VN n lo hi) L C).inV (nmK k) := ⟨_,VN_in h,rfl⟩
theorem varsA_env (lo hi : Int) : ∀ n : Nat,envOf E0 (varsA lo hi n) = ⟨VN n lo hi,[],[]⟩
 | 0 => rfl
 | n + 1 => by
  show envOf E0 (varsA lo hi n ++ [(.var (nmK n) lo hi,[.nl])]) = _
  rw [envOf_app,varsA_env lo hi n,VN_succ]
  rfl
theorem varsA_fine {lo hi : Int} (h1 : -1000 ≤ lo) (h2 : lo ≤ hi) (h3 : hi ≤ 1000) : ∀ n : Nat,n ≤ 8 → allFine E0 (varsA lo hi n)
 | 0,_ => trivial
 | n + 1,h => by
  refine allFine_app (varsA_fine h1 h2 h3 n (by omega)) ?_
  rw [varsA_env]
  refine ⟨⟨⟨fun p hp e => ?_,fun p hp => by cases hp⟩,?_,h1,h2,h3⟩,trivial⟩
  ·obtain ⟨j,hj,rfl⟩ := VN_mem hp
   have := nmK_inj e
   omega
  ·show (VN n lo hi).length < 8
   rw [VN_len];omega
theorem varsA_ok {lo hi : Int} (h1 : -1000 ≤ lo) (h2 : lo ≤ hi) (h3 : hi ≤ 1000) : ∀ n : Nat,n ≤ 8 → textOk (varsA lo hi n)
 | 0,_ => fun p hp => by cases hp
 | n + 1,h => by
  refine textOk_app (varsA_ok h1 h2 h3 n (by omega)) (fun p hp => ?_)
  have : p = (.var (nmK n) lo hi,[.nl]) := by simpa using hp
  subst this
  exact ⟨⟨nmK_ok (by omega),⟨by omega,by omega⟩,⟨by omega,by omega⟩⟩,rfl⟩
theorem varsA_src (lo hi : Int) : ∀ n : Nat,srcA (varsA lo hi n) = varsB lo hi n
 | 0 => rfl
 | n + 1 => by
  show srcA (varsA lo hi n ++ [(.var (nmK n) lo hi,[.nl])]) = varsB lo hi n ++ varB n lo hi
  rw [srcA_app,varsA_src lo hi n,srcA_one]
  congr 1
  simp [bytesP,AS.pcs,Pc.bytes,varB]
end
section
open Go.RowKit
abbrev EN (n : Nat) (C : List QCon) : Env := ⟨VN n (-1) 3,[],C⟩
def stB (a : AS) : List UInt8 := bytesP a.pcs ++ [59]
structure PtOk (n : Nat) (a : AS) : Prop where
 ok : a.ok
 fine : ∀ C : List QCon,C.length < 16 → a.fine (EN n C)
 step : ∀ C : List QCon,a.step (EN n C) = EN n (C ++ [a.con (EN n [])])
 len : (stB a).length ≤ 70
def rowsA (L : List AS) : List (AS × List Pc) := L.map fun a => (a,[.nl])
def mkA (n : Nat) (L : List AS) : List (AS × List Pc) := varsA (-1) 3 n ++ rowsA L
def linesB (L : List (List UInt8)) : List UInt8 := L.flatMap fun t => t ++ [10]
def mkB (n : Nat) (L : List (List UInt8)) : List UInt8 := varsB (-1) 3 n ++ linesB L
theorem rowsA_src : ∀ L : List AS,srcA (rowsA L) = linesB (L.map stB)
 | [] => rfl
 | a :: L => by
  show srcA ((a,[.nl]) :: rowsA L) = (stB a ++ [10]) ++ linesB (L.map stB)
  rw [srcA_cons,rowsA_src L,srcA_one]
  simp [stB,bytesP,Pc.bytes]
theorem mkA_src (n : Nat) (L : List AS) : srcA (mkA n L) = mkB n (L.map stB) := by unfold mkA mkB;rw [srcA_app,varsA_src,rowsA_src]
theorem linesB_len : ∀ {L : List (List UInt8)},(∀ t ∈ L,t.length ≤ 70) → (linesB L).length ≤ 71 * L.length
 | [],_ => Nat.le_refl _
 | t :: L,h => by
  have h1 := h t (by simp)
  have h2 := linesB_len (L := L) (fun u hu => h u (by simp [hu]))
  show ((t ++ [10]) ++ linesB L).length ≤ _
  simp only [List.length_append,List.length_cons,List.length_nil]
  omega
theorem mkA_ok {n : Nat} (hn : n ≤ 8) {L : List AS} (h : ∀ a ∈ L,PtOk n a) : textOk (mkA n L) := textOk_app (varsA_ok (by omega) (by omega) (by omega) n hn) (fun p hp => by
 obtain ⟨a,ha,rfl⟩ := List.mem_map.1 hp
 exact ⟨(h a ha).ok,rfl⟩)
theorem rowsA_env {n : Nat} : ∀ {L : List AS} {C : List QCon},(∀ a ∈ L,PtOk n a) → envOf (EN n C) (rowsA L) = EN n (C ++ L.map (AS.con (EN n [])))
 | [],C,_ => by simp [rowsA,envOf]
 | a :: L,C,h => by
  show envOf (a.step (EN n C)) (rowsA L) = _
  rw [(h a (by simp)).step,rowsA_env (fun u hu => h u (by simp [hu]))]
  simp [List.append_assoc]
theorem rowsA_fine {n : Nat} : ∀ {L : List AS} {C : List QCon},(∀ a ∈ L,PtOk n a) → C.length + L.length ≤ 16 → allFine (EN n C) (rowsA L)
 | [],C,_,_ => trivial
 | a :: L,C,h,hl => by
  have hl' : C.length + (L.length + 1) ≤ 16 := by simpa using hl
  refine ⟨(h a (by simp)).fine C (by omega),?_⟩
  show allFine (a.step (EN n C)) (rowsA L)
  rw [(h a (by simp)).step]
  exact rowsA_fine (fun u hu => h u (by simp [hu])) (by simp;omega)
def mkC (n : Nat) (L : List AS) : List QCon := L.map (AS.con (EN n []))
theorem mkA_env {n : Nat} {L : List AS} (h : ∀ a ∈ L,PtOk n a) : envOf E0 (mkA n L) = EN n (mkC n L) := by
 unfold mkA
 rw [envOf_app,varsA_env]
 have q := rowsA_env (C := []) h
 rw [List.nil_append] at q
 exact q
theorem mkA_fine {n : Nat} (hn : n ≤ 8) {L : List AS} (h : ∀ a ∈ L,PtOk n a) (hl : L.length ≤ 16) : allFine E0 (mkA n L) := by
 refine allFine_app (varsA_fine (by omega) (by omega) (by omega) n hn) ?_
 rw [varsA_env]
 exact rowsA_fine (C := []) h (by simp;omega)
theorem mkA_len {n : Nat} (hn : n ≤ 4) {L : List AS} (h : ∀ a ∈ L,PtOk n a) (hl : L.length ≤ 16) : (srcA (mkA n L)).length ≤ 1400 := by
 rw [mkA_src]
 have h1 := varsB_len (lo := -1) (hi := 3) (itoa_len (by omega) (by omega)) (itoa_len (by omega) (by omega)) (k := n) (by omega)
 have h2 := linesB_len (L := L.map stB) (fun t ht => by obtain ⟨a,ha,rfl⟩ := List.mem_map.1 ht;exact (h a ha).len)
 rw [List.length_map] at h2
 unfold mkB
 rw [List.length_append]
 omega
def pV (n : Nat) : List QVar := (VN n (-1) 3).map qv
theorem pV_len (n : Nat) : (pV n).length = n := by unfold pV;rw [List.length_map,VN_len]
theorem mk_md {n : Nat} (hn : n ≤ 4) {L : List AS} (h : ∀ a ∈ L,PtOk n a) (hl : L.length ≤ 16) : MdOk (pV n) (mkC n L) := by
 have q := src_ok (mkA_ok (by omega) h) (mkA_fine (by omega) h hl) (by have := mkA_len hn h hl;omega)
 rw [mkA_env h] at q
 exact q
theorem p_box {n : Nat} (h1 : 1 ≤ n) (hn : n ≤ 4) : (n * (boxV (bdV (pV n))).length + 1 : Int) ≤ 1000000 ∧ (boxV (bdV (pV n))).length ≤ 625 := by
 rw [box_len]
 have : n = 1 ∨ n = 2 ∨ n = 3 ∨ n = 4 := by omega
 rcases this with rfl | rfl | rfl | rfl <;> decide
theorem pV_all {n : Nat} : ∀ v ∈ pV n,v.low = -1 ∧ v.high = 3 := fun v hv => by
 obtain ⟨p,hp,rfl⟩ := List.mem_map.1 hv
 obtain ⟨k,_,rfl⟩ := VN_mem hp
 exact ⟨rfl,rfl⟩
def ptX (n : Nat) (c : Int) : Nat := (pickI c n).toNat
def ptY (n : Nat) (c : Int) : Nat := (pickI (c.tdiv 7) n).toNat
def ptZ (n : Nat) (c : Int) : Nat := (pickI (c.tdiv 7 + 1) n).toNat
def ptK (c : Int) : Int := pickI (c.tdiv 49) 9 - 3
def ptR (c : Int) : Nat := (pickI (c.tdiv 11) 3).toNat
def ptS (c : Int) : Nat := (pickI c 5).toNat
def ptA (n : Nat) (c : Int) : AS :=
 if ptS c = 0 then .lin ⟨false,none,nmK (ptX n c)⟩ [⟨false,some 2,nmK (ptY n c)⟩] (ptR c) (ptK c)
 else if ptS c = 1 then .lin ⟨false,none,nmK (ptX n c)⟩ [⟨true,none,nmK (ptY n c)⟩] 1 (ptK c)
 else if ptS c = 2 then .diff (nmK (ptX n c)) [nmK (ptZ n c)]
 else if ptS c = 3 then .lin ⟨false,some (-3),nmK (ptX n c)⟩ [] 2 (ptK c)
 else .lin ⟨false,none,nmK (ptY n c)⟩ [] (ptR c) (ptK c)
theorem nm2 {k : Nat} (h : k < 10) : (nmK k).length = 2 := by rw [nmK_dig h];rfl
theorem relB_len (r : Nat) : (relB r).length ≤ 2 := by unfold relB;split <;> decide
theorem lin_pt {n : Nat} {t : AT} {ts : List AT} {rel : Nat} {m : Int} (hn : n ≤ 8) (h0 : t.neg = false) (hl : ts.length ≤ 1) (h : ∀ u ∈ t :: ts,(∃ k,k < n ∧ u.n = nmK k) ∧ ∀ f,u.f = some f → -9 ≤ f ∧ f ≤ 9) (m1 : -100 ≤ m) (m2 : m ≤ 100) : PtOk n (.lin t ts rel m) := by
 have okU : ∀ u ∈ t :: ts,u.ok := fun u hu => by
  obtain ⟨⟨k,hk,e⟩,hf⟩ := h u hu
  exact ⟨by rw [e];exact nmK_ok (by omega),fun f q => ⟨by have := hf f q;omega,by have := hf f q;omega⟩⟩
 refine ⟨⟨okU t (by simp),fun u hu => okU u (by simp [hu]),⟨by omega,by omega⟩,h0⟩,fun C hC => ⟨hC,by simp;omega,fun u hu => ?_,by omega,by omega⟩,fun C => rfl,?_⟩
 ·obtain ⟨⟨k,hk,e⟩,hf⟩ := h u hu
  exact ⟨by rw [e];exact inV_nm hk,fun f q => by have := hf f q;omega⟩
 ·have bl : ∀ u ∈ t :: ts,(bytesP u.body).length ≤ 19 := fun u hu => by
   obtain ⟨⟨k,hk,e⟩,hf⟩ := h u hu
   have e2 := nm2 (k := k) (by omega)
   unfold AT.body
   cases q : u.f with
   | none => simp [bytesP,Pc.bytes,e,e2]
   | some f =>
    have := itoa_len (m := f) (by have := hf f q;omega) (by have := hf f q;omega)
    simp [bytesP,Pc.bytes,e,e2];omega
  have b1 := bl t (by simp)
  have r1 := relB_len rel
  have i1 := itoa_len (m := m) (by omega) (by omega)
  have sl : (bytesP (sumPc ts)).length ≤ 22 := by
   match ts,hl,bl with
   | [],_,_ => simp [sumPc,bytesP]
   | [u],_,bl =>
    have b2 := bl u (by simp)
    show (bytesP (.sp :: .sg (if u.neg then [45] else [43]) :: .sp :: (u.body ++ []))).length ≤ 22
    rw [List.append_nil]
    cases u.neg <;> simp [bytesP_cons,Pc.bytes] <;> omega
   | _ :: _ :: _,hl,_ => simp at hl
  show (bytesP (.word [108,105,110] :: .sp :: linPc t ts rel m) ++ [59]).length ≤ 70
  unfold linPc
  rw [bytesP_cons,bytesP_cons,bytesP_app,bytesP_app]
  generalize bytesP t.body = X at *
  generalize bytesP (sumPc ts) = Y at *
  simp [bytesP,Pc.bytes]
  omega
theorem diff_pt {n x z : Nat} (hn : n ≤ 8) (hx : x < n) (hz : z < n) : PtOk n (.diff (nmK x) [nmK z]) := by
 refine ⟨⟨nmK_ok (by omega),fun m hm => ?_⟩,fun C hC => ⟨hC,by simp,fun m hm => ?_⟩,fun C => rfl,?_⟩
 ·obtain rfl : m = nmK z := by simpa using hm
  exact nmK_ok (by omega)
 ·have : m = nmK x ∨ m = nmK z := by simpa using hm
  rcases this with rfl | rfl
  ·exact inV_nm hx
  ·exact inV_nm hz
 ·have h1 := nm2 (k := x) (by omega)
  have h2 := nm2 (k := z) (by omega)
  simp [stB,AS.pcs,serPc,bytesP,Pc.bytes,h1,h2]
theorem pick_lt {c : Int} {n : Nat} (hn : 1 ≤ n) : (pickI c n).toNat < n := by
 have := pickI_bd c n (by omega)
 omega
theorem ptA_ok {n : Nat} (h1 : 1 ≤ n) (hn : n ≤ 4) (c : Int) : PtOk n (ptA n c) := by
 have hx : ptX n c < n := pick_lt h1
 have hy : ptY n c < n := pick_lt h1
 have hz : ptZ n c < n := pick_lt h1
 have hk := pickI_bd (c.tdiv 49) 9 (by decide)
 have k1 : -100 ≤ ptK c := by unfold ptK;omega
 have k2 : ptK c ≤ 100 := by unfold ptK;omega
 unfold ptA
 split
 ·refine lin_pt (by omega) rfl (by simp) (fun u hu => ?_) k1 k2
  have : u = ⟨false,none,nmK (ptX n c)⟩ ∨ u = ⟨false,some 2,nmK (ptY n c)⟩ := by simpa using hu
  rcases this with rfl | rfl
  ·exact ⟨⟨_,hx,rfl⟩,fun f hf => by cases hf⟩
  ·exact ⟨⟨_,hy,rfl⟩,fun f hf => by cases hf;omega⟩
 split
 ·refine lin_pt (by omega) rfl (by simp) (fun u hu => ?_) k1 k2
  have : u = ⟨false,none,nmK (ptX n c)⟩ ∨ u = ⟨true,none,nmK (ptY n c)⟩ := by simpa using hu
  rcases this with rfl | rfl
  ·exact ⟨⟨_,hx,rfl⟩,fun f hf => by cases hf⟩
  ·exact ⟨⟨_,hy,rfl⟩,fun f hf => by cases hf⟩
 split
 ·exact diff_pt (by omega) hx hz
 split
 ·refine lin_pt (by omega) rfl (by simp) (fun u hu => ?_) k1 k2
  obtain rfl : u = ⟨false,some (-3),nmK (ptX n c)⟩ := by simpa using hu
  exact ⟨⟨_,hx,rfl⟩,fun f hf => by cases hf;omega⟩
 ·refine lin_pt (by omega) rfl (by simp) (fun u hu => ?_) k1 k2
  obtain rfl : u = ⟨false,none,nmK (ptY n c)⟩ := by simpa using hu
  exact ⟨⟨_,hy,rfl⟩,fun f hf => by cases hf⟩
def ptL (n : Nat) (raw : List Int) : List AS := (raw.take 8).map (ptA n)
theorem ptL_ok {n : Nat} (h1 : 1 ≤ n) (hn : n ≤ 4) (raw : List Int) : (∀ a ∈ ptL n raw,PtOk n a) ∧ (ptL n raw).length ≤ 8 := by
 refine ⟨fun a ha => ?_,by simp [ptL,List.length_take];omega⟩
 obtain ⟨c,_,rfl⟩ := List.mem_map.1 ha
 exact ptA_ok h1 hn c
end
section
open Go.RowKit
variable {w w' : World}
def ap (a b : List UInt8) : List UInt8 := a ++ b
theorem ap_len (a b : List UInt8) : (ap a b).length = a.length + b.length := List.length_append
theorem bn_ap (a b : List UInt8) : bn a ++ bn b = bn (ap a b) := bn_app a b
theorem bn_mk_ap (a : List UInt8) (xs : Array UInt8) : bn a ++ ⟨xs⟩ = bn (ap a xs.toList) := bn_app a xs.toList
theorem mk_bn_ap (a : List UInt8) (xs : Array UInt8) : (⟨xs⟩ : ByteArray) ++ bn a = bn (ap xs.toList a) := bn_app xs.toList a
attribute [local go_sem] bn_ap bn_mk_ap mk_bn_ap bn_size mk_size ap_len List.length_cons List.length_nil
end
section
set_option maxHeartbeats 2000000
set_option maxRecDepth 100000
open Go.RowKit
variable {w w' wr : World}
def SRow (w : World) (v : Value) (L : List (List UInt8)) : Prop := (L = [] ∧ v = .slice none 0 0) ∨ ∃ g cap,v = .slice (some ⟨g,0,none⟩) L.length cap ∧ g < w.heap.size ∧ (∀ (i : Nat) t,L[i]? = some t → w.cell? ⟨g,i,none⟩ = some (.string (bn t))) ∧ L.length ≤ cap
theorem SRow.is {v : Value} {L : List (List UInt8)} (h : SRow w v L) : ∃ a c,v = .slice a L.length c := by
 rcases h with ⟨rfl,e⟩ | ⟨g,cap,e,_⟩
 ·exact ⟨_,_,e⟩
 ·exact ⟨_,_,e⟩
theorem SRow.grown {v : Value} {L : List (List UInt8)} (h : SRow w v L) (hg : w.grownBy w' none) : SRow w' v L := by
 rcases h with h | ⟨g,cap,e,h1,h2,h3⟩
 ·exact .inl h
 ·exact .inr ⟨g,cap,e,Nat.lt_of_lt_of_le h1 hg.size,fun i t ht => hg.cell (h2 i t ht) (by simp),h3⟩
theorem SRow.at_ {a : Option Addr} {n c : Nat} {L : List (List UInt8)} (h : SRow w (.slice a n c) L) {i : Nat} {t : List UInt8} (ht : L[i]? = some t) : ∃ g,a = some ⟨g,0,none⟩ ∧ g < w.heap.size ∧ w.cell? ⟨g,i,none⟩ = some (.string (bn t)) ∧ L.length ≤ c := by
 rcases h with ⟨rfl,_⟩ | ⟨g,cap,e,h1,h2,h3⟩
 ·simp at ht
 ·injection e with e1 e2 e3
  subst e1 e3
  exact ⟨g,rfl,h1,h2 i t ht,h3⟩
def strV (L : List (List UInt8)) : List Value := L.map fun t => .string (bn t)
theorem add_at (g j : Nat) : (⟨g,0,none⟩ : Addr).add j = ⟨g,j,none⟩ := by unfold Addr.add;split <;> simp_all
theorem own_srow {B n : Nat} {v : Value} {L : List (List UInt8)} (h : w.ownsRow B 9 1 v n (strV L)) : SRow w v L := by
 have hl : L.length = n := by have := h.1;simpa [strV] using this
 subst hl
 rcases h.2 with ⟨q1,q2⟩ | ⟨g,cap,cur,q1,q2,q3,q4,q5,q6,q7⟩
 ·exact .inl ⟨List.length_eq_zero_iff.1 q2,q1⟩
 ·refine .inr ⟨g,cap,q1,some_lt q3,fun i t ht => ?_,q4⟩
  have q := h.cells (g := g) (by rw [q1];rfl) i (.string (bn t)) (by unfold strV;rw [List.getElem?_map,ht];rfl)
  rw [add_at] at q
  exact q
theorem own_gr {e s n : Nat} {v : Value} {xs : List Value} (hg : w.grownBy wr none) (ho : wr.ownsRow w.heap.size e s v n xs) (h : wr.grownBy w' v.ownBlock) : w.grownBy w' none := by
 rcases ho.2 with ⟨rfl,_⟩ | ⟨g,cap,cur,rfl,hB,_⟩
 ·exact hg.trans h
 ·exact grown_new hg hB h
def Src (w : World) (vx : Value) (m : Nat) (news : List Value) : Prop := (vx = .slice none 0 0 ∧ m = 0 ∧ news = []) ∨ ∃ ad c,vx = .slice (some ad) m c ∧ ∀ j u,news[j]? = some u → w.cell? (ad.add j) = some u
theorem wpList_append_src {w : World} {ops : Array Oper} {rest : List Oper} {o : Oper} {a : Act} {Q : Exit → Act → World → Prop} (hgd : o.guard = none) (s x : Operand) (t : TypeId) (ho : o.op = .call { callee := .builtin .append,args := #[s,x],argTypes := #[t,t] })
  (base : Nat) (e : TypeId) (i : TypeInfo) (z : Value) (size bytes : Nat) (ht : Tryz.prog.underlying t = some (.slice e)) (hi : Tryz.prog.info? e = some i) (hz : i.zero = some z)
  (hsize : i.size = size) (hby : i.bytes = bytes) (hzs : z.cells.size = size) (hsz : 0 < size) (v : Value) (n : Nat) (xs : List Value) (hs : a.eval s = v) (hown : w.ownsRow base e size v n xs)
  (vx : Value) (m : Nat) (news : List Value) (hx : a.eval x = vx) (hsrc : Src w vx m news) (hl : news.length = m * size) (h1 : ∀ u ∈ news,u.oneCell' = true)
  (h63 : n + m ≤ maxLen) (hbytes : (n + m) * bytes ≤ 140737488355328) (hbase : base ≤ w.heap.size)
  (h : ∀ v' w',w'.ownsRow base e size v' (n + m) (xs ++ news) → w.grownBy w' v.ownBlock → wpList Tryz.prog ops Q rest (a.put o.dst v') w') :
  wpList Tryz.prog ops Q (o :: rest) a w := by
 refine wpList_plain hgd fun K hK => ?_
 have key : ∃ v' w',(Builtin.append_ #[t,t] o.type #[v,vx]).run Tryz.prog w = .ok v' w' ∧ w'.ownsRow base e size v' (n + m) (xs ++ news) ∧ w.grownBy w' v.ownBlock := by
  rcases hsrc with ⟨rfl,rfl,rfl⟩ | ⟨ad,c,rfl,hn⟩
  ·exact ⟨v,w,run_append_owned_none (P := Tryz.prog) (w := w) base t o.type e i size ht hi v n xs hown,by rw [List.append_nil];exact hown,grown_refl _ _⟩
  ·obtain ⟨v',w',hr,h2,h3,_⟩ := run_append_own_at (P := Tryz.prog) w base t o.type e i z size bytes ht hi hz hsize hby hzs hsz v n xs hown ad m c news hl hn h1 h63 hbytes hbase
   exact ⟨v',w',hr,h2,h3⟩
 obtain ⟨v',w',hr,h2,h3⟩ := key
 unfold Oper.wp execOp
 simp only [ho,resolve,invoke,builtin,Sem.run_bind,Sem.run_pure,Result.andThen_ok,List.map_toArray,List.map_cons,List.map_nil,hs,hx,hr]
 exact hK _ _ (h v' w' h2 h3)
theorem linesB_snoc (L : List (List UInt8)) (t : List UInt8) : linesB (L ++ [t]) = linesB L ++ (t ++ [10]) := by simp [linesB]
attribute [local go_sem] bn_ap bn_mk_ap mk_bn_ap bn_size mk_size ap_len List.length_cons List.length_nil
theorem kp_text (n : Nat) {v : Value} {L : List (List UInt8)} (hS : SRow w v L) (hn : n ≤ 4) (hl : L.length ≤ 16) (hb : ∀ t ∈ L,t.length ≤ 70) : Calls Tryz.prog 25 #[.int .i64 (n : Int),v] w fun e w' => e = .returned (.string (bn (mkB n L))) ∧ w.grownBy w' none := by
 obtain ⟨a,c,rfl⟩ := hS.is
 have KV := Kept.mk (fun W => kp_vars n (-1) 3 W (by omega) (by omega) (by omega) (by omega) (by omega))
 have hvb := varsB_len (lo := -1) (hi := 3) (itoa_len (by omega) (by omega)) (itoa_len (by omega) (by omega)) (k := n) (by omega)
 have HS := hide hS
 have HB : Hid (∀ i,i ≤ L.length → (linesB (L.take i)).length ≤ 71 * 16) := fun i hi => by
  have := linesB_len (L := L.take i) (fun t ht => hb t (List.mem_of_mem_take ht))
  rw [List.length_take] at this
  omega
 have HT : Hid (∀ (i : Nat) (t : List UInt8),L[i]? = some t → t.length ≤ 70) := fun i t ht => hb t (List.mem_of_getElem? ht)
 have HM : Hid (mkB n L = varsB (-1) 3 n ++ linesB L) := rfl
 generalize mkB n L = M at *
 generalize varsB (-1) 3 n = VB at *
 clear hS hb
 go_enter Tryz.func25,Tryz.ntmps25
 go_wp2_with (go_at_call 17;refine (KV.get _).mono ?_;rintro e w1 ⟨rfl,hg1⟩)
 go_loopw [5,6] (fun vs vi wr => ∃ i : Nat,i ≤ L.length ∧ vi = .int .i64 i ∧ vs = .string (bn (VB ++ linesB (L.take i))) ∧ w.grownBy wr none) (fun _ vi _ => L.length - (intOf vi).toNat)
 case atStart => exact ⟨0,Nat.zero_le _,rfl,by simp [linesB],hg1⟩
 case round =>
  obtain ⟨i,hi,rfl,rfl,hg⟩ := hrel
  by_cases hlt : i < L.length
  ·obtain ⟨t,ht⟩ : ∃ t,L[i]? = some t := ⟨L[i],List.getElem?_eq_getElem hlt⟩
   obtain ⟨g,rfl,q1,q2,q3⟩ := HS.out.at_ ht
   have q2' := hg.cell q2 (by simp)
   have q1' : g < wr.heap.size := Nat.lt_of_lt_of_le q1 hg.size
   have lb := HB.out i hi
   have lt := HT.out i t ht
   have hlt2 : (i : Int) < L.length := by omega
   have h02 : (0 : Int) ≤ i := by omega
   have HE : Hid (VB ++ linesB (L.take (i + 1)) = ap (ap (VB ++ linesB (L.take i)) t) [10]) := by
    rw [Hid,List.take_add_one,ht]
    show VB ++ linesB (L.take i ++ [t]) = _
    rw [linesB_snoc]
    simp [ap,List.append_assoc]
   have lq : (VB ++ linesB (L.take i)).length ≤ 1400 := by rw [List.length_append];omega
   have HI : Hid (i + 1 ≤ L.length ∧ L.length - (i + 1) < L.length - i) := ⟨hlt,by omega⟩
   have HGR := hide hg
   generalize VB ++ linesB (L.take i) = B at *
   clear ht q1 q2 hg hlt q3
   go_wp2
   go_roundw
   case rel => exact ⟨i + 1,HI.out.1,by go_num,by rw [HE.out],HGR.out⟩
   case measure => simp [intOf];omega
  ·obtain rfl : i = L.length := by omega
   rw [List.take_of_length_le (Nat.le_refl _),← HM.out]
   go_wp2
   go_ret
   exact ⟨rfl,hg⟩
end
section
set_option maxHeartbeats 8000000
set_option maxRecDepth 100000
open Go.RowKit
variable {w w' wr : World}
def RawIn (w : World) (v : Value) (raw : List Int) : Prop := ∃ a c,v = .slice a raw.length c ∧ ∀ j x,raw[j]? = some x → ∃ g off,a = some ⟨g,off,none⟩ ∧ g < w.heap.size ∧ w.cell? ⟨g,off + j,none⟩ = some (.int .i64 x)
theorem RawIn.is {v : Value} {raw : List Int} (h : RawIn w v raw) : ∃ a c,v = .slice a raw.length c := by
 obtain ⟨a,c,e,_⟩ := h
 exact ⟨a,c,e⟩
theorem RawIn.at_ {a : Option Addr} {n c : Nat} {raw : List Int} (h : RawIn w (.slice a n c) raw) {j : Nat} {x : Int} (hx : raw[j]? = some x) : ∃ g off,a = some ⟨g,off,none⟩ ∧ g < w.heap.size ∧ w.cell? ⟨g,off + j,none⟩ = some (.int .i64 x) := by
 obtain ⟨a',c',e,k⟩ := h
 injection e with e1 _ _
 subst e1
 exact k j x hx
theorem infoStr : (Tryz.prog.info? 9).map (fun i => (i.zero,i.size,i.bytes)) = some (some (.string .empty),1,16) := by kernel_rfl
def ptT (s : Nat) (A B Z R K : List UInt8) : List UInt8 :=
 if s = 0 then ap (ap (ap (ap (ap (ap (ap (ap [108,105,110,32] A) [32,43,32,50,32,42,32]) B) [32]) R) [32]) K) [59]
 else if s = 1 then ap (ap (ap (ap (ap (ap [108,105,110,32] A) [32,45,32]) B) [32,33,61,32]) K) [59]
 else if s = 2 then ap (ap (ap (ap [100,105,102,102,32] A) [44,32]) Z) [59]
 else if s = 3 then ap (ap (ap (ap [108,105,110,32,45,51,32,42,32] A) [32,60,61,32]) K) [59]
 else ap (ap (ap (ap (ap (ap [108,105,110,32] B) [32]) R) [32]) K) [59]
theorem ptT_is (n : Nat) (c : Int) : stB (ptA n c) = ptT (ptS c) (nmK (ptX n c)) (nmK (ptY n c)) (nmK (ptZ n c)) (relB (ptR c)) (Lib.itoa (ptK c)) := by
 have e2 : Lib.itoa 2 = [50] := itoa_dig (k := 2) (by decide)
 have e3 : Lib.itoa (-3) = [45,51] := by rw [itoa_neg (by decide)];show 45 :: Lib.decDigits 3 = _;rw [Lib.decDigits_one (by decide)];rfl
 unfold ptA ptT
 split
 ·simp [stB,AS.pcs,linPc,AT.body,sumPc,bytesP,Pc.bytes,ap,e2]
 split
 ·simp [stB,AS.pcs,linPc,AT.body,sumPc,bytesP,Pc.bytes,ap,relB]
 split
 ·simp [stB,AS.pcs,serPc,bytesP,Pc.bytes,ap]
 split
 ·simp [stB,AS.pcs,linPc,AT.body,sumPc,bytesP,Pc.bytes,ap,relB,e3]
 ·simp [stB,AS.pcs,linPc,AT.body,sumPc,bytesP,Pc.bytes,ap]
theorem ptL_take {n : Nat} {raw : List Int} {i : Nat} {c : Int} (h : raw[i]? = some c) (h8 : i < 8) : ((ptL n raw).map stB).take (i + 1) = ((ptL n raw).map stB).take i ++ [stB (ptA n c)] := by
 have e : ((ptL n raw).map stB)[i]? = some (stB (ptA n c)) := by
  unfold ptL
  rw [List.getElem?_map,List.getElem?_map,List.getElem?_take,if_pos h8,h]
  rfl
 rw [List.take_add_one,e]
 rfl
theorem quo_bd {c k : Int} (h1 : -9223372036854775808 ≤ c) (h2 : c ≤ 9223372036854775807) (hk : 2 ≤ k) : -4611686018427387904 ≤ c.tdiv k ∧ c.tdiv k ≤ 4611686018427387904 := by
 have h3 : (c.tdiv k).natAbs ≤ c.natAbs / 2 := by rw [Int.natAbs_tdiv];exact Nat.div_le_div_left (by omega) (by decide)
 omega
theorem rel_at (W : World) {rel : Nat} (h : rel < 3) : (W.alloc (.cells #[.string ⟨#[61]⟩,.string ⟨#[33,61]⟩,.string ⟨#[60,61]⟩] 9)).cell? ⟨W.heap.size,rel,none⟩ = some (.string (bn (relB rel))) := by
 refine cell_of (heap_alloc_new W _) rel _ ?_
 have : rel = 0 ∨ rel = 1 ∨ rel = 2 := by omega
 rcases this with rfl | rfl | rfl <;> rfl
theorem st_one' (t : List UInt8) : ∀ u ∈ [Value.string (bn t)],u.oneCell' = true := fun u hu => by
 obtain rfl : u = .string (bn t) := by simpa using hu
 rfl
theorem nat_of {a : Int} {k : Nat} (h : 0 ≤ a) (e : a.toNat = k) : a = (k : Int) := by omega
attribute [local go_sem] bn_ap bn_mk_ap mk_bn_ap bn_size mk_size ap_len List.length_cons List.length_nil
theorem kp_part (N : Int) {vr : Value} {raw : List Int} (hV : RawIn w vr raw) (hN1 : -9223372036854775808 ≤ N) (hN2 : N ≤ 9223372036854775807) (hrw : ∀ x ∈ raw,-9223372036854775808 ≤ x ∧ x ≤ 9223372036854775807) (n : Nat) (hn : 1 + pickI N 4 = (n : Int)) : Calls Tryz.prog 24 #[.int .i64 N,vr] w fun e w' => ∃ v,e = .returned (.tuple #[v,.int .i64 (n : Int)]) ∧ SRow w' v ((ptL n raw).map stB) ∧ w.grownBy w' none := by
 have KP := Kept.mk (fun W => kp_pick N 4 W hN1 hN2 (by decide) (by decide))
 obtain ⟨p1,p2⟩ := pickI_bd N 4 (by decide)
 have hn1 : 1 ≤ n := by omega
 have hn4 : n ≤ 4 := by omega
 generalize pickI N 4 = PN at *
 obtain ⟨ra,rc,rfl⟩ := hV.is
 have HV := hide hV
 have HR := hide hrw
 obtain ⟨Ls,hLs⟩ : ∃ Ls,Ls = (ptL n raw).map stB := ⟨_,rfl⟩
 have HLS := hide hLs
 rw [← hLs]
 have hLl : Ls.length = min 8 raw.length := by rw [hLs];simp [ptL,List.length_take]
 obtain ⟨hl8,hlr,hlo⟩ : Ls.length ≤ 8 ∧ Ls.length ≤ raw.length ∧ (raw.length ≤ Ls.length ∨ 8 ≤ Ls.length) := by omega
 have HLO := hide hlo
 clear hV hrw hLs hLl hlo
 obtain ⟨i0,hi0⟩ : ∃ i,Tryz.prog.info? 9 = some i := ⟨_,rfl⟩
 have hz := infoStr
 rw [hi0] at hz
 simp only [Option.map_some,Option.some.injEq,Prod.mk.injEq] at hz
 obtain ⟨hz0,hz1,hz2⟩ := hz
 go_enter Tryz.func24,Tryz.ntmps24
 go_wp2_with (go_at_call 16;refine (KP.get _).mono ?_;rintro e w6 ⟨rfl,hww⟩;subst w6;clear KP)
 go_loopw [6,7] (fun vl vi wr => ∃ i : Nat,i ≤ Ls.length ∧ vi = .int .i64 i ∧ wr.ownsRow w.heap.size 9 1 vl i (strV (Ls.take i)) ∧ w.grownBy wr none) (fun _ vi _ => Ls.length - (intOf vi).toNat)
 case atStart => exact ⟨0,Nat.zero_le _,rfl,⟨rfl,.inl ⟨rfl,rfl⟩⟩,grown_refl _ _⟩
 case round =>
  obtain ⟨i,hi,rfl,hown,hg⟩ := hrel
  obtain ⟨la,lc,rfl⟩ := own_slice_n hown
  by_cases hlt : i < Ls.length
  ·obtain ⟨c,hc⟩ : ∃ c,raw[i]? = some c := ⟨raw[i]'(by omega),List.getElem?_eq_getElem (by omega)⟩
   obtain ⟨c1,c2⟩ := HR.out c (List.mem_of_getElem? hc)
   obtain ⟨g,off,rfl,k0,k1'⟩ := HV.out.at_ hc
   have k1 := hg.cell k1' (by simp)
   have k2 : g < wr.heap.size := Nat.lt_of_lt_of_le k0 hg.size
   have hr1 : (i : Int) < raw.length := by omega
   have hr2 : (i : Int) < 8 := by omega
   have h0i : (0 : Int) ≤ i := by omega
   have HE : Hid (Ls.take (i + 1) = Ls.take i ++ [ptT (ptS c) (nmK (ptX n c)) (nmK (ptY n c)) (nmK (ptZ n c)) (relB (ptR c)) (Lib.itoa (ptK c))]) := by rw [Hid,← ptT_is,HLS.out];exact ptL_take hc (by omega)
   have q7 := quo_bd c1 c2 (k := 7) (by decide)
   have q49 := quo_bd c1 c2 (k := 49) (by decide)
   have q11 := quo_bd c1 c2 (k := 11) (by decide)
   have KA := Kept.mk (fun W => kp_pick c n W c1 c2 (by omega) (by omega))
   have KB := Kept.mk (fun W => kp_pick (c.tdiv 7) n W (by omega) (by omega) (by omega) (by omega))
   have KZ := Kept.mk (fun W => kp_pick (c.tdiv 7 + 1) n W (by omega) (by omega) (by omega) (by omega))
   have KK := Kept.mk (fun W => kp_pick (c.tdiv 49) 9 W (by omega) (by omega) (by decide) (by decide))
   have KR := Kept.mk (fun W => kp_pick (c.tdiv 11) 3 W (by omega) (by omega) (by decide) (by decide))
   have KS := Kept.mk (fun W => kp_pick c 5 W c1 c2 (by decide) (by decide))
   have bx := pickI_bd c n (by omega)
   have by_ := pickI_bd (c.tdiv 7) n (by omega)
   have bz := pickI_bd (c.tdiv 7 + 1) n (by omega)
   have bk := pickI_bd (c.tdiv 49) 9 (by decide)
   have br := pickI_bd (c.tdiv 11) 3 (by decide)
   have bs := pickI_bd c 5 (by decide)
   have ek : ptK c = pickI (c.tdiv 49) 9 - 3 := rfl
   rw [ek] at HE
   clear ek
   rw [nat_of (k := ptX n c) bx.1 rfl] at KA bx
   rw [nat_of (k := ptY n c) by_.1 rfl] at KB by_
   rw [nat_of (k := ptZ n c) bz.1 rfl] at KZ bz
   rw [nat_of (k := ptR c) br.1 rfl] at KR br
   rw [nat_of (k := ptS c) bs.1 rfl] at KS bs
   generalize pickI (c.tdiv 49) 9 = K0 at *
   generalize ptX n c = x at *
   generalize ptY n c = y at *
   generalize ptZ n c = z at *
   generalize ptR c = rel at *
   generalize ptS c = s at *
   have NA := Kept.mk (fun W => kp_name x W (by omega))
   have NB := Kept.mk (fun W => kp_name y W (by omega))
   have NZ := Kept.mk (fun W => kp_name z W (by omega))
   have ND := Kept.mk (fun W => kp_digits (K0 - 3) W (by omega) (by omega))
   have la1 : (nmK x).length = 2 := nm2 (by omega)
   have la2 : (nmK y).length = 2 := nm2 (by omega)
   have la3 : (nmK z).length = 2 := nm2 (by omega)
   have la4 := itoa_len (m := K0 - 3) (by omega) (by omega)
   have la5 := relB_len rel
   have HRT : Hid (∀ W : World,(W.alloc (.cells #[.string ⟨#[61]⟩,.string ⟨#[33,61]⟩,.string ⟨#[60,61]⟩] 9)).cell? ⟨W.heap.size,rel,none⟩ = some (.string (bn (relB rel)))) := fun W => rel_at W (by omega)
   have hrl : rel < 3 := by omega
   generalize nmK x = A at *
   generalize nmK y = B at *
   generalize nmK z = Z at *
   generalize relB rel = R at *
   generalize Lib.itoa (K0 - 3) = D at *
   have hs5 : s = 0 ∨ s = 1 ∨ s = 2 ∨ s = 3 ∨ s = 4 := by omega
   have hgr := grown_refl wr none
   have HOWN := hide hown
   have HG := hide hg
   have HI : Hid (i + 1 ≤ Ls.length ∧ Ls.length - (i + 1) < Ls.length - i) := ⟨hlt,by omega⟩
   have hwr : w.heap.size ≤ wr.heap.size := hg.size
   clear hown hg hc k0 k1' hlt hi bx by_ bz br bs
   rcases hs5 with rfl | rfl | rfl | rfl | rfl
   ·have HE2 : Hid (strV (Ls.take (i + 1)) = strV (Ls.take i) ++ [.string (bn (ap (ap (ap (ap (ap (ap (ap (ap [108,105,110,32] A) [32,43,32,50,32,42,32]) B) [32]) R) [32]) D) [59]))]) := by rw [Hid,HE.out];simp [strV,ptT]
    clear HE
    go_wp2_with (first | (at_builtin;go_loud (refine wpList_append_src rfl _ _ 37 rfl w.heap.size 9 i0 (.string .empty) 1 16 Tryz.underlying37 hi0 hz0 hz1 hz2 rfl (by decide) _ _ _ rfl ((HOWN.out.kept hgr (own_none _)).alloc _) _ 1 [.string (bn (ap (ap (ap (ap (ap (ap (ap (ap [108,105,110,32] A) [32,43,32,50,32,42,32]) B) [32]) R) [32]) D) [59]))] rfl (Or.inr ⟨_,_,rfl,World.news_of_block (heap_alloc_new _ _)⟩) rfl (st_one' _) ?c3 ?c4 ?c5 ?_)) | (go_at_call 16;refine (KA.get _).mono ?_;rintro e w6 ⟨rfl,hww⟩;subst w6;clear KA) | (go_at_call 16;refine (KB.get _).mono ?_;rintro e w6 ⟨rfl,hww⟩;subst w6;clear KB) | (go_at_call 16;refine (KK.get _).mono ?_;rintro e w6 ⟨rfl,hww⟩;subst w6;clear KK) | (go_at_call 16;refine (KR.get _).mono ?_;rintro e w6 ⟨rfl,hww⟩;subst w6;clear KR;have hrt := HRT.out w3;replace hgr := hgr.trans (World.grownBy_alloc w3 (.cells #[.string ⟨#[61]⟩,.string ⟨#[33,61]⟩,.string ⟨#[60,61]⟩] 9) none)) | (go_at_call 16;refine (KS.get _).mono ?_;rintro e w8 ⟨rfl,hww⟩;rw [← hww] at hgr;clear hww hrt KS) | (go_at_call 16;refine (KZ.get _).mono ?_;rintro e w6 ⟨rfl,hww⟩;subst w6;clear KZ) | (go_at_call 19;refine (NA.get _).mono ?_;rintro e w1 ⟨rfl,hg1⟩;replace hgr := hgr.trans hg1;clear hg1 NA) | (go_at_call 19;refine (NB.get _).mono ?_;rintro e w2 ⟨rfl,hg1⟩;replace hgr := hgr.trans hg1;clear hg1 NB) | (go_at_call 19;refine (NZ.get _).mono ?_;rintro e w5 ⟨rfl,hg1⟩;replace hgr := hgr.trans hg1;clear hg1 NZ) | (go_at_call 20;refine (ND.get _).mono ?_;rintro e w3 ⟨rfl,hg1⟩;replace hgr := hgr.trans hg1;clear hg1 ND))
    case c3 => unfold maxLen;omega
    case c4 => omega
    case c5 => have q := hgr.size;simp at q ⊢;omega
    intro v' w7 ho hg7
    obtain ⟨oa,oc,rfl⟩ := own_slice_n ho
    rw [← HE2.out] at ho
    have HN : Hid (w7.ownsRow w.heap.size 9 1 (.slice oa (i + 1) oc) (i + 1) (strV (Ls.take (i + 1))) ∧ w.grownBy w7 none) := ⟨ho,own_gr ((HG.out.trans hgr).trans (World.grownBy_alloc _ _ _)) ((HOWN.out.kept hgr (own_none _)).alloc _) hg7⟩
    clear ho hg7 hgr HOWN HG HE2
    go_wp2
    go_roundw
    case rel => exact ⟨i + 1,HI.out.1,by go_num,HN.out.1,HN.out.2⟩
    case measure => simp [intOf];have := HI.out.2;omega
   ·have HE2 : Hid (strV (Ls.take (i + 1)) = strV (Ls.take i) ++ [.string (bn (ap (ap (ap (ap (ap (ap [108,105,110,32] A) [32,45,32]) B) [32,33,61,32]) D) [59]))]) := by rw [Hid,HE.out];simp [strV,ptT]
    clear HE
    go_wp2_with (first | (at_builtin;go_loud (refine wpList_append_src rfl _ _ 37 rfl w.heap.size 9 i0 (.string .empty) 1 16 Tryz.underlying37 hi0 hz0 hz1 hz2 rfl (by decide) _ _ _ rfl ((HOWN.out.kept hgr (own_none _)).alloc _) _ 1 [.string (bn (ap (ap (ap (ap (ap (ap [108,105,110,32] A) [32,45,32]) B) [32,33,61,32]) D) [59]))] rfl (Or.inr ⟨_,_,rfl,World.news_of_block (heap_alloc_new _ _)⟩) rfl (st_one' _) ?c3 ?c4 ?c5 ?_)) | (go_at_call 16;refine (KA.get _).mono ?_;rintro e w6 ⟨rfl,hww⟩;subst w6;clear KA) | (go_at_call 16;refine (KB.get _).mono ?_;rintro e w6 ⟨rfl,hww⟩;subst w6;clear KB) | (go_at_call 16;refine (KK.get _).mono ?_;rintro e w6 ⟨rfl,hww⟩;subst w6;clear KK) | (go_at_call 16;refine (KR.get _).mono ?_;rintro e w6 ⟨rfl,hww⟩;subst w6;clear KR;have hrt := HRT.out w3;replace hgr := hgr.trans (World.grownBy_alloc w3 (.cells #[.string ⟨#[61]⟩,.string ⟨#[33,61]⟩,.string ⟨#[60,61]⟩] 9) none)) | (go_at_call 16;refine (KS.get _).mono ?_;rintro e w8 ⟨rfl,hww⟩;rw [← hww] at hgr;clear hww hrt KS) | (go_at_call 16;refine (KZ.get _).mono ?_;rintro e w6 ⟨rfl,hww⟩;subst w6;clear KZ) | (go_at_call 19;refine (NA.get _).mono ?_;rintro e w1 ⟨rfl,hg1⟩;replace hgr := hgr.trans hg1;clear hg1 NA) | (go_at_call 19;refine (NB.get _).mono ?_;rintro e w2 ⟨rfl,hg1⟩;replace hgr := hgr.trans hg1;clear hg1 NB) | (go_at_call 19;refine (NZ.get _).mono ?_;rintro e w5 ⟨rfl,hg1⟩;replace hgr := hgr.trans hg1;clear hg1 NZ) | (go_at_call 20;refine (ND.get _).mono ?_;rintro e w3 ⟨rfl,hg1⟩;replace hgr := hgr.trans hg1;clear hg1 ND))
    case c3 => unfold maxLen;omega
    case c4 => omega
    case c5 => have q := hgr.size;simp at q ⊢;omega
    intro v' w7 ho hg7
    obtain ⟨oa,oc,rfl⟩ := own_slice_n ho
    rw [← HE2.out] at ho
    have HN : Hid (w7.ownsRow w.heap.size 9 1 (.slice oa (i + 1) oc) (i + 1) (strV (Ls.take (i + 1))) ∧ w.grownBy w7 none) := ⟨ho,own_gr ((HG.out.trans hgr).trans (World.grownBy_alloc _ _ _)) ((HOWN.out.kept hgr (own_none _)).alloc _) hg7⟩
    clear ho hg7 hgr HOWN HG HE2
    go_wp2
    go_roundw
    case rel => exact ⟨i + 1,HI.out.1,by go_num,HN.out.1,HN.out.2⟩
    case measure => simp [intOf];have := HI.out.2;omega
   ·have HE2 : Hid (strV (Ls.take (i + 1)) = strV (Ls.take i) ++ [.string (bn (ap (ap (ap (ap [100,105,102,102,32] A) [44,32]) Z) [59]))]) := by rw [Hid,HE.out];simp [strV,ptT]
    clear HE
    go_wp2_with (first | (at_builtin;go_loud (refine wpList_append_src rfl _ _ 37 rfl w.heap.size 9 i0 (.string .empty) 1 16 Tryz.underlying37 hi0 hz0 hz1 hz2 rfl (by decide) _ _ _ rfl ((HOWN.out.kept hgr (own_none _)).alloc _) _ 1 [.string (bn (ap (ap (ap (ap [100,105,102,102,32] A) [44,32]) Z) [59]))] rfl (Or.inr ⟨_,_,rfl,World.news_of_block (heap_alloc_new _ _)⟩) rfl (st_one' _) ?c3 ?c4 ?c5 ?_)) | (go_at_call 16;refine (KA.get _).mono ?_;rintro e w6 ⟨rfl,hww⟩;subst w6;clear KA) | (go_at_call 16;refine (KB.get _).mono ?_;rintro e w6 ⟨rfl,hww⟩;subst w6;clear KB) | (go_at_call 16;refine (KK.get _).mono ?_;rintro e w6 ⟨rfl,hww⟩;subst w6;clear KK) | (go_at_call 16;refine (KR.get _).mono ?_;rintro e w6 ⟨rfl,hww⟩;subst w6;clear KR;have hrt := HRT.out w3;replace hgr := hgr.trans (World.grownBy_alloc w3 (.cells #[.string ⟨#[61]⟩,.string ⟨#[33,61]⟩,.string ⟨#[60,61]⟩] 9) none)) | (go_at_call 16;refine (KS.get _).mono ?_;rintro e w8 ⟨rfl,hww⟩;rw [← hww] at hgr;clear hww hrt KS) | (go_at_call 16;refine (KZ.get _).mono ?_;rintro e w6 ⟨rfl,hww⟩;subst w6;clear KZ) | (go_at_call 19;refine (NA.get _).mono ?_;rintro e w1 ⟨rfl,hg1⟩;replace hgr := hgr.trans hg1;clear hg1 NA) | (go_at_call 19;refine (NB.get _).mono ?_;rintro e w2 ⟨rfl,hg1⟩;replace hgr := hgr.trans hg1;clear hg1 NB) | (go_at_call 19;refine (NZ.get _).mono ?_;rintro e w5 ⟨rfl,hg1⟩;replace hgr := hgr.trans hg1;clear hg1 NZ) | (go_at_call 20;refine (ND.get _).mono ?_;rintro e w3 ⟨rfl,hg1⟩;replace hgr := hgr.trans hg1;clear hg1 ND))
    case c3 => unfold maxLen;omega
    case c4 => omega
    case c5 => have q := hgr.size;simp at q ⊢;omega
    intro v' w7 ho hg7
    obtain ⟨oa,oc,rfl⟩ := own_slice_n ho
    rw [← HE2.out] at ho
    have HN : Hid (w7.ownsRow w.heap.size 9 1 (.slice oa (i + 1) oc) (i + 1) (strV (Ls.take (i + 1))) ∧ w.grownBy w7 none) := ⟨ho,own_gr ((HG.out.trans hgr).trans (World.grownBy_alloc _ _ _)) ((HOWN.out.kept hgr (own_none _)).alloc _) hg7⟩
    clear ho hg7 hgr HOWN HG HE2
    go_wp2
    go_roundw
    case rel => exact ⟨i + 1,HI.out.1,by go_num,HN.out.1,HN.out.2⟩
    case measure => simp [intOf];have := HI.out.2;omega
   ·have HE2 : Hid (strV (Ls.take (i + 1)) = strV (Ls.take i) ++ [.string (bn (ap (ap (ap (ap [108,105,110,32,45,51,32,42,32] A) [32,60,61,32]) D) [59]))]) := by rw [Hid,HE.out];simp [strV,ptT]
    clear HE
    go_wp2_with (first | (at_builtin;go_loud (refine wpList_append_src rfl _ _ 37 rfl w.heap.size 9 i0 (.string .empty) 1 16 Tryz.underlying37 hi0 hz0 hz1 hz2 rfl (by decide) _ _ _ rfl ((HOWN.out.kept hgr (own_none _)).alloc _) _ 1 [.string (bn (ap (ap (ap (ap [108,105,110,32,45,51,32,42,32] A) [32,60,61,32]) D) [59]))] rfl (Or.inr ⟨_,_,rfl,World.news_of_block (heap_alloc_new _ _)⟩) rfl (st_one' _) ?c3 ?c4 ?c5 ?_)) | (go_at_call 16;refine (KA.get _).mono ?_;rintro e w6 ⟨rfl,hww⟩;subst w6;clear KA) | (go_at_call 16;refine (KB.get _).mono ?_;rintro e w6 ⟨rfl,hww⟩;subst w6;clear KB) | (go_at_call 16;refine (KK.get _).mono ?_;rintro e w6 ⟨rfl,hww⟩;subst w6;clear KK) | (go_at_call 16;refine (KR.get _).mono ?_;rintro e w6 ⟨rfl,hww⟩;subst w6;clear KR;have hrt := HRT.out w3;replace hgr := hgr.trans (World.grownBy_alloc w3 (.cells #[.string ⟨#[61]⟩,.string ⟨#[33,61]⟩,.string ⟨#[60,61]⟩] 9) none)) | (go_at_call 16;refine (KS.get _).mono ?_;rintro e w8 ⟨rfl,hww⟩;rw [← hww] at hgr;clear hww hrt KS) | (go_at_call 16;refine (KZ.get _).mono ?_;rintro e w6 ⟨rfl,hww⟩;subst w6;clear KZ) | (go_at_call 19;refine (NA.get _).mono ?_;rintro e w1 ⟨rfl,hg1⟩;replace hgr := hgr.trans hg1;clear hg1 NA) | (go_at_call 19;refine (NB.get _).mono ?_;rintro e w2 ⟨rfl,hg1⟩;replace hgr := hgr.trans hg1;clear hg1 NB) | (go_at_call 19;refine (NZ.get _).mono ?_;rintro e w5 ⟨rfl,hg1⟩;replace hgr := hgr.trans hg1;clear hg1 NZ) | (go_at_call 20;refine (ND.get _).mono ?_;rintro e w3 ⟨rfl,hg1⟩;replace hgr := hgr.trans hg1;clear hg1 ND))
    case c3 => unfold maxLen;omega
    case c4 => omega
    case c5 => have q := hgr.size;simp at q ⊢;omega
    intro v' w7 ho hg7
    obtain ⟨oa,oc,rfl⟩ := own_slice_n ho
    rw [← HE2.out] at ho
    have HN : Hid (w7.ownsRow w.heap.size 9 1 (.slice oa (i + 1) oc) (i + 1) (strV (Ls.take (i + 1))) ∧ w.grownBy w7 none) := ⟨ho,own_gr ((HG.out.trans hgr).trans (World.grownBy_alloc _ _ _)) ((HOWN.out.kept hgr (own_none _)).alloc _) hg7⟩
    clear ho hg7 hgr HOWN HG HE2
    go_wp2
    go_roundw
    case rel => exact ⟨i + 1,HI.out.1,by go_num,HN.out.1,HN.out.2⟩
    case measure => simp [intOf];have := HI.out.2;omega
   ·have HE2 : Hid (strV (Ls.take (i + 1)) = strV (Ls.take i) ++ [.string (bn (ap (ap (ap (ap (ap (ap [108,105,110,32] B) [32]) R) [32]) D) [59]))]) := by rw [Hid,HE.out];simp [strV,ptT]
    clear HE
    go_wp2_with (first | (at_builtin;go_loud (refine wpList_append_src rfl _ _ 37 rfl w.heap.size 9 i0 (.string .empty) 1 16 Tryz.underlying37 hi0 hz0 hz1 hz2 rfl (by decide) _ _ _ rfl ((HOWN.out.kept hgr (own_none _)).alloc _) _ 1 [.string (bn (ap (ap (ap (ap (ap (ap [108,105,110,32] B) [32]) R) [32]) D) [59]))] rfl (Or.inr ⟨_,_,rfl,World.news_of_block (heap_alloc_new _ _)⟩) rfl (st_one' _) ?c3 ?c4 ?c5 ?_)) | (go_at_call 16;refine (KA.get _).mono ?_;rintro e w6 ⟨rfl,hww⟩;subst w6;clear KA) | (go_at_call 16;refine (KB.get _).mono ?_;rintro e w6 ⟨rfl,hww⟩;subst w6;clear KB) | (go_at_call 16;refine (KK.get _).mono ?_;rintro e w6 ⟨rfl,hww⟩;subst w6;clear KK) | (go_at_call 16;refine (KR.get _).mono ?_;rintro e w6 ⟨rfl,hww⟩;subst w6;clear KR;have hrt := HRT.out w3;replace hgr := hgr.trans (World.grownBy_alloc w3 (.cells #[.string ⟨#[61]⟩,.string ⟨#[33,61]⟩,.string ⟨#[60,61]⟩] 9) none)) | (go_at_call 16;refine (KS.get _).mono ?_;rintro e w8 ⟨rfl,hww⟩;rw [← hww] at hgr;clear hww hrt KS) | (go_at_call 16;refine (KZ.get _).mono ?_;rintro e w6 ⟨rfl,hww⟩;subst w6;clear KZ) | (go_at_call 19;refine (NA.get _).mono ?_;rintro e w1 ⟨rfl,hg1⟩;replace hgr := hgr.trans hg1;clear hg1 NA) | (go_at_call 19;refine (NB.get _).mono ?_;rintro e w2 ⟨rfl,hg1⟩;replace hgr := hgr.trans hg1;clear hg1 NB) | (go_at_call 19;refine (NZ.get _).mono ?_;rintro e w5 ⟨rfl,hg1⟩;replace hgr := hgr.trans hg1;clear hg1 NZ) | (go_at_call 20;refine (ND.get _).mono ?_;rintro e w3 ⟨rfl,hg1⟩;replace hgr := hgr.trans hg1;clear hg1 ND))
    case c3 => unfold maxLen;omega
    case c4 => omega
    case c5 => have q := hgr.size;simp at q ⊢;omega
    intro v' w7 ho hg7
    obtain ⟨oa,oc,rfl⟩ := own_slice_n ho
    rw [← HE2.out] at ho
    have HN : Hid (w7.ownsRow w.heap.size 9 1 (.slice oa (i + 1) oc) (i + 1) (strV (Ls.take (i + 1))) ∧ w.grownBy w7 none) := ⟨ho,own_gr ((HG.out.trans hgr).trans (World.grownBy_alloc _ _ _)) ((HOWN.out.kept hgr (own_none _)).alloc _) hg7⟩
    clear ho hg7 hgr HOWN HG HE2
    go_wp2
    go_roundw
    case rel => exact ⟨i + 1,HI.out.1,by go_num,HN.out.1,HN.out.2⟩
    case measure => simp [intOf];have := HI.out.2;omega
  ·obtain rfl : i = Ls.length := by omega
   rw [List.take_of_length_le (Nat.le_refl _)] at hown
   have HS := hide (own_srow hown)
   clear hown
   by_cases h8 : Ls.length < raw.length
   ·have hr1 : (Ls.length : Int) < raw.length := by omega
    have hr2 : (8 : Int) ≤ Ls.length := by have := HLO.out;omega
    go_wp2
    go_ret2
    exact ⟨_,rfl,HS.out,hg⟩
   ·have hr1 : (raw.length : Int) ≤ Ls.length := by omega
    go_wp2
    go_ret2
    exact ⟨_,rfl,HS.out,hg⟩
end
section
open Go.RowKit
theorem asg_all {lo hi : Int} : ∀ {vars : List QVar} {x : List Int},(∀ v ∈ vars,v.low = lo ∧ v.high = hi) → (asgF vars x = true ↔ x.length = vars.length ∧ ∀ a ∈ x,lo ≤ a ∧ a ≤ hi)
 | [],[],_ => by simp [asgF]
 | [],a :: x,_ => by simp [asgF]
 | v :: vs,[],_ => by simp [asgF]
 | v :: vs,a :: x,h => by
  obtain ⟨h1,h2⟩ := h v (by simp)
  have ih := asg_all (vars := vs) (x := x) (fun u hu => h u (by simp [hu]))
  simp only [asgF,inP,Bool.and_eq_true,decide_eq_true_eq,ih,h1,h2,List.length_cons,List.mem_cons]
  constructor
  ·rintro ⟨q1,q2,q3⟩
   exact ⟨by omega,fun b hb => by rcases hb with rfl | hb;exact q1;exact q3 b hb⟩
  ·rintro ⟨q1,q2⟩
   exact ⟨q2 a (.inl rfl),by omega,fun b hb => q2 b (.inr hb)⟩
end
section
open Go.RowKit
variable {w w' wr : World}
abbrev PRows (n : Nat) (L : List AS) (a : List (List Int)) : Prop := a.Perm ((boxV (bdV (pV n))).filter (suitsP (pV n) (mkC n L)))
theorem PRows.row {n : Nat} {L : List AS} {a : List (List Int)} (h : PRows n L a) {r : List Int} (hr : r ∈ a) : r.length = n ∧ (∀ v ∈ r,-1 ≤ v ∧ v ≤ 3) ∧ suitsP (pV n) (mkC n L) r = true := by
 have q := (List.mem_filter.1 (h.mem_iff.1 hr))
 have e := (asg_all pV_all).1 ((box_mem _ _).1 q.1)
 rw [pV_len] at e
 exact ⟨e.1,e.2,q.2⟩
theorem PRows.len {n : Nat} (h1 : 1 ≤ n) (hn : n ≤ 4) {L : List AS} {a : List (List Int)} (h : PRows n L a) : a.length ≤ 625 := by
 rw [h.length_eq]
 exact Nat.le_trans (List.length_filter_le _ _) (p_box h1 hn).2
theorem pt_found {n : Nat} (h1 : 1 ≤ n) (hn : n ≤ 4) {L : List AS} (h : ∀ a ∈ L,PtOk n a) (hl : L.length ≤ 16) {b : Nat} {t : List UInt8} (hm : MdAt w b (pV n) (mkC n L) t) (ht : PowTab w) (hdb : DbTab w) (order : Int) (weak : Bool) (ho1 : -9223372036854775808 ≤ order) (ho2 : order ≤ 9223372036854775807) : Calls Tryz.prog 22 #[.pointer (some ⟨b,0,none⟩),.int .i64 order,.bool weak] w fun e w3 => ∃ vS,e = .returned (.tuple #[vS,.bool true]) ∧ LLT w3 vS (solveS (mkK (pV n) (mkC n L) (pickI order 2) weak 1000000)).sols ∧ w.grownBy w3 none := by
 have q := p_box h1 hn
 exact kp_found hm (mk_md hn h hl) ht hdb order weak ho1 ho2 (by rw [pV_len];exact q.1) (by have := q.2;omega)
theorem pt_rows {n : Nat} (h1 : 1 ≤ n) (hn : n ≤ 4) {L : List AS} (h : ∀ a ∈ L,PtOk n a) (hl : L.length ≤ 16) (order : Int) (weak : Bool) : PRows n L (solveS (mkK (pV n) (mkC n L) order weak 1000000)).sols ∧ (order ≠ 1 → (solveS (mkK (pV n) (mkC n L) order weak 1000000)).sols.Pairwise LexLt) ∧ (solveS (mkK (pV n) (mkC n L) order weak 1000000)).ending = 0 := by
 have q := p_box h1 hn
 obtain ⟨A,_,_⟩ := solve_all (mk_md hn h hl) order weak 1000000 (by rw [pV_len];exact q.1) (by have := q.2;omega)
 exact ⟨A.perm,A.lex,A.ending⟩
end
section
set_option maxHeartbeats 2000000
set_option maxRecDepth 100000
open Go.RowKit
variable {w w' : World}
theorem nmK_kw {k : Nat} (h : k < 10) : kwL (nmK k) = false := (nmK_ok h).2
theorem ptA_pl {n : Nat} (h1 : 1 ≤ n) (hn : n ≤ 4) (c : Int) : (ptA n c).pl := by
 have hx : ptX n c < n := pick_lt h1
 have hy : ptY n c < n := pick_lt h1
 have hz : ptZ n c < n := pick_lt h1
 have kx := nmK_kw (k := ptX n c) (by omega)
 have ky := nmK_kw (k := ptY n c) (by omega)
 have kz := nmK_kw (k := ptZ n c) (by omega)
 unfold ptA
 split
 ·refine ⟨⟨kx,by simp⟩,fun u hu => ?_⟩
  obtain rfl : u = ⟨false,some 2,nmK (ptY n c)⟩ := by simpa using hu
  exact ⟨ky,by simp⟩
 split
 ·refine ⟨⟨kx,by simp⟩,fun u hu => ?_⟩
  obtain rfl : u = ⟨true,none,nmK (ptY n c)⟩ := by simpa using hu
  exact ⟨ky,by simp⟩
 split
 ·refine ⟨kx,fun u hu => ?_⟩
  obtain rfl : u = nmK (ptZ n c) := by simpa using hu
  exact kz
 split
 ·exact ⟨⟨kx,by simp⟩,fun u hu => by cases hu⟩
 ·exact ⟨⟨ky,by simp⟩,fun u hu => by cases hu⟩
theorem varsA_pl (lo hi : Int) : ∀ {n : Nat},n ≤ 9 → ∀ p ∈ varsA lo hi n,p.1.pl ∧ p.2 = [.nl]
 | 0,_,p,hp => by cases hp
 | n + 1,h,p,hp => by
  rcases List.mem_append.1 hp with q | q
  ·exact varsA_pl lo hi (by omega) p q
  ·obtain rfl : p = (.var (nmK n) lo hi,[.nl]) := by simpa using q
   exact ⟨nmK_kw (by omega),rfl⟩
theorem mkA_pl {n : Nat} (h1 : 1 ≤ n) (hn : n ≤ 4) (raw : List Int) : ∀ p ∈ mkA n (ptL n raw),p.1.pl ∧ p.2 = [.nl] := fun p hp => by
 rcases List.mem_append.1 hp with q | q
 ·exact varsA_pl _ _ (by omega) p q
 ·obtain ⟨a,ha,rfl⟩ := List.mem_map.1 q
  obtain ⟨c,_,rfl⟩ := List.mem_map.1 ha
  exact ⟨ptA_pl h1 hn c,rfl⟩
theorem thA_env (b : Bool) : ∀ (A : List (AS × List Pc)) (E : Env),envOf E (thA b A) = envOf E A
 | [],E => rfl
 | (a,c) :: r,E => thA_env b r (a.step E)
theorem thA_fine (b : Bool) : ∀ {A : List (AS × List Pc)} {E : Env},allFine E A → allFine E (thA b A)
 | [],E,_ => trivial
 | (a,c) :: r,E,h => ⟨h.1,thA_fine b (A := r) h.2⟩
theorem thA_ok (b : Bool) {A : List (AS × List Pc)} (h : textOk A) : textOk (thA b A) := fun p hp => by
 obtain ⟨q,hq,rfl⟩ := List.mem_map.1 hp
 refine ⟨(h q hq).1,?_⟩
 cases b with
 | true => exact (h q hq).2
 | false => exact (h q hq).2
theorem kp_modelG {s : List UInt8} {A : List (AS × List Pc)} {l0 ln : Nat} (hx : lex (bn s) = (0,toksP l0 (textPc A),ln)) (h : textOk A) (hf : allFine E0 A) (hs : s.length ≤ 2000) (w : World) (ht : PowTab w) : Calls Tryz.prog 21 #[.string (bn s)] w fun e w' => ∃ b,e = .returned (.pointer (some ⟨b,0,none⟩)) ∧ w.heap.size ≤ b ∧ MdAt w' b ((envOf E0 A).V.map qv) (envOf E0 A).C (plainT (progToks (bn s))) ∧ w.grownBy w' none := by
 obtain ⟨n,e⟩ : ∃ n,pParse (progToks (bn s)) = (gsts l0 A,(n,0)) := by
  unfold progToks
  rw [hx]
  exact ⟨_,parse_run (text_is l0 h) rfl⟩
 have r : QIs (runQ (pParse (progToks (bn s))).1 q0) (envOf E0 A) := by rw [e];exact run_is l0 q0_is hf
 have hz : (bn s).size ≤ 2000 := by rw [bn_size];exact hs
 have hp : (pParse (progToks (bn s))).2.2 = 0 := by rw [e]
 have hq : (runQ (pParse (progToks (bn s))).1 q0).st.1 = 0 := by rw [r.st]
 have K := Kept.mk (pn_ok (bn s) w ht hz (by rw [hx]) hp hq)
 have HM : Hid (∀ (w' : World) b,MdlIs w' w.heap.size b (bn s) → MdAt w' b ((envOf E0 A).V.map qv) (envOf E0 A).C (plainT (progToks (bn s)))) := fun w' b hm => by
  have q := hm.md (text_ok (bn s) hz hp hq)
  rw [r.vars,r.cons] at q
  exact q
 generalize bn s = S at *
 clear r e hz hp hq ht h hf hs hx
 go_enter Tryz.func21,Tryz.ntmps21
 go_wp2_with (go_at_call 35;refine K.get.mono ?_;rintro e w1 ⟨b,rfl,hb,hm,hg⟩)
 go_ret
 exact ⟨b,rfl,hb,HM.out _ _ hm,hg⟩
theorem pl_model {n : Nat} (h1 : 1 ≤ n) (hn : n ≤ 4) (raw : List Int) (W : World) (ht : PowTab W) : Calls Tryz.prog 21 #[.string (bn (mkB n ((ptL n raw).map stB)))] W fun e w' => ∃ b,e = .returned (.pointer (some ⟨b,0,none⟩)) ∧ W.heap.size ≤ b ∧ MdAt w' b (pV n) (mkC n (ptL n raw)) (mkB n ((ptL n raw).map stB)) ∧ W.grownBy w' none := by
 obtain ⟨h,hl⟩ := ptL_ok h1 hn raw
 have q := kp_model (mkA n (ptL n raw)) (mkA_ok (by omega) h) (mkA_fine (by omega) h (by omega)) (by have := mkA_len hn h (by omega);omega) W ht
 rw [plain_src (mkA_ok (by omega) h) (mkA_pl h1 hn raw),mkA_src,mkA_env h] at q
 exact q
theorem th_model (a b : Bool) {n : Nat} (h1 : 1 ≤ n) (hn : n ≤ 4) (raw : List Int) (hs : (thkT a b (mkB n ((ptL n raw).map stB))).length ≤ 2000) (W : World) (ht : PowTab W) : Calls Tryz.prog 21 #[.string (bn (thkT a b (mkB n ((ptL n raw).map stB))))] W fun e w' => ∃ b,e = .returned (.pointer (some ⟨b,0,none⟩)) ∧ W.heap.size ≤ b ∧ MdAt w' b (pV n) (mkC n (ptL n raw)) (mkB n ((ptL n raw).map stB)) ∧ W.grownBy w' none := by
 obtain ⟨h,hl⟩ := ptL_ok h1 hn raw
 have ok := mkA_ok (n := n) (L := ptL n raw) (by omega) h
 rw [← mkA_src] at hs
 have q := kp_modelG (thk_lex a b ok) (thA_ok b ok) (thA_fine b (mkA_fine (by omega) h (by omega))) hs W ht
 rw [plain_thk a b ok (mkA_pl h1 hn raw),thA_env,mkA_src,mkA_env h] at q
 exact q
theorem md_Text {b : Nat} {V : List QVar} {C : List QCon} {t : List UInt8} (h : MdAt w b V C t) : Calls Tryz.prog 30 #[.pointer (some ⟨b,0,none⟩)] w fun e w' => e = .returned (.string (bn t)) ∧ w' = w := pn_Text h.pl
theorem pV_names (n : Nat) : nmCells (pV n) = strV ((List.range n).map nmK) := by
 unfold nmCells pV VN strV
 rw [List.map_map,List.map_map,List.map_map]
 rfl
theorem md_Names {b n : Nat} {C : List QCon} {t : List UInt8} (h : MdAt w b (pV n) C t) (h1 : 1 ≤ n) (hn : n ≤ 4) : Calls Tryz.prog 31 #[.pointer (some ⟨b,0,none⟩)] w fun e w' => ∃ v,e = .returned v ∧ SRow w' v ((List.range n).map nmK) ∧ w.grownBy w' none := by
 obtain ⟨bc,B,vV,vC,cs,q1,q2,q3⟩ := h.set
 obtain ⟨gr,cap,hr,_⟩ := RowIn.of_own q2.ov (by rw [pV_len];omega)
 have hv := q2.c1
 have e : vV = .slice (some ⟨gr,0,none⟩) (pV n).length cap := hr.is
 subst e
 refine (pn_Names q1 hr hv (by rw [pV_len];omega) h.lt q2.lt).mono ?_
 rintro e w' ⟨rfl,ho,hg⟩
 refine ⟨_,rfl,?_,hg⟩
 rw [pV_names] at ho
 have hl : ((List.range n).map nmK).length = (pV n).length := by rw [pV_len];simp
 refine .inr ⟨w.heap.size,(pV n).length,by rw [hl],?_,fun i t ht => ?_,by rw [hl];exact Nat.le_refl _⟩
 ·rcases ho.2 with ⟨z,_⟩ | ⟨g,c,cur,z,_,z3,_⟩
  ·cases z
  ·injection z with z _ _
   injection z with z
   injection z with z
   rw [z];exact some_lt z3
 ·have q := ho.cells (g := w.heap.size) rfl i (.string (bn t)) (by unfold strV;rw [List.getElem?_map,ht];rfl)
  rw [add_at] at q
  exact q
end
section
set_option maxHeartbeats 8000000
set_option maxRecDepth 100000
open Go.RowKit
variable {w w' wr : World}
theorem bn_at {S : List UInt8} {i : Nat} {c : UInt8} (h : S[i]? = some c) (hi : i < (bn S).size) : (bn S)[i]'hi = c := by
 have hl := (List.getElem?_eq_some_iff.1 h).1
 show S.toArray[i] = c
 rw [List.getElem_toArray]
 exact (List.getElem?_eq_some_iff.1 h).2
theorem bn_ext {S : List UInt8} {i : Nat} {c : UInt8} (h : S[i]? = some c) : (bn S).extract i (i + 1) = bn [c] := by
 apply ByteArray.ext
 apply Array.toList_inj.1
 rw [ext_data]
 show (S.drop i).take (i + 1 - i) = [c]
 have hl := (List.getElem?_eq_some_iff.1 h).1
 rw [List.drop_eq_getElem_cons hl,show i + 1 - i = 1 from by omega]
 simp [(List.getElem?_eq_some_iff.1 h).2]
theorem thkT_next (a b : Bool) {S : List UInt8} {i : Nat} {c : UInt8} (h : S[i]? = some c) : thkT a b (S.take (i + 1)) = ap (thkT a b (S.take i)) (thkC a b c) := by
 rw [List.take_add_one,h]
 unfold thkT ap
 rw [thk_app]
 simp [thk]
theorem thkT_len (a b : Bool) (s : List UInt8) : (thkT a b s).length ≤ 10 + 14 * s.length := by
 have key : ∀ s : List UInt8,(thk a b s).length ≤ 14 * s.length := fun s => by
  induction s with
  | nil => simp [thk]
  | cons c s ih =>
   show (thkC a b c ++ thk a b s).length ≤ _
   have : (thkC a b c).length ≤ 14 := by unfold thkC;split <;> (try split) <;> simp
   rw [List.length_append,List.length_cons];omega
 have := key s
 simp [thkT];omega
structure PnM (W2 : World) (q n : Nat) (S : List UInt8) (A B : List (List Int)) : Prop where
 tx : Calls Tryz.prog 30 #[.pointer (some ⟨q,0,none⟩)] W2 fun e w' => e = .returned (.string (bn S)) ∧ w' = W2
 fo : Calls Tryz.prog 22 #[.pointer (some ⟨q,0,none⟩),.int .i64 0,.bool false] W2 fun e w3 => ∃ vS,e = .returned (.tuple #[vS,.bool true]) ∧ LLT w3 vS A ∧ W2.grownBy w3 none
 fw : Calls Tryz.prog 22 #[.pointer (some ⟨q,0,none⟩),.int .i64 0,.bool true] W2 fun e w3 => ∃ vS,e = .returned (.tuple #[vS,.bool true]) ∧ LLT w3 vS B ∧ W2.grownBy w3 none
 nm : Calls Tryz.prog 31 #[.pointer (some ⟨q,0,none⟩)] W2 fun e w3 => ∃ v,e = .returned v ∧ SRow w3 v ((List.range n).map nmK) ∧ W2.grownBy w3 none
structure PnF (w : World) (n : Nat) (S : List UInt8) (a b : Bool) (A B : List (List Int)) : Prop where
 m0 : ∀ W,w.grownBy W none → Calls Tryz.prog 21 #[.string (bn S)] W fun e w' => ∃ q,e = .returned (.pointer (some ⟨q,0,none⟩)) ∧ W.grownBy w' none ∧ ∀ W2,w'.grownBy W2 none → PnM W2 q n S A B
 m1 : (thkT a b S).length ≤ 2000 → ∀ W,w.grownBy W none → Calls Tryz.prog 21 #[.string (bn (thkT a b S))] W fun e w' => ∃ q,e = .returned (.pointer (some ⟨q,0,none⟩)) ∧ W.grownBy w' none ∧ ∀ W2,w'.grownBy W2 none → PnM W2 q n S A B
 len : A.length = B.length ∧ A.length ≤ 625
 mem : ∀ x ∈ A,x ∈ B
 row : (∀ x ∈ A,x.length = n) ∧ ∀ x ∈ B,x.length = n
 sl : S.length ≤ 1000
attribute [local go_sem] bn_ap bn_mk_ap mk_bn_ap bn_size mk_size ap_len List.length_cons List.length_nil
theorem pn_walk (N odd : Int) {vr : Value} {raw : List Int} (hV : RawIn w vr raw) (hN1 : -9223372036854775808 ≤ N) (hN2 : N ≤ 9223372036854775807) (hd1 : -9223372036854775808 ≤ odd) (hd2 : odd ≤ 9223372036854775807) (hrw : ∀ x ∈ raw,-9223372036854775808 ≤ x ∧ x ≤ 9223372036854775807) (n : Nat) (hn : 1 + pickI N 4 = (n : Int)) (A B : List (List Int)) (hF : PnF w n (mkB n ((ptL n raw).map stB)) (decide (0 < pickI odd 3)) (decide (0 < pickI odd 2)) A B) : Calls Tryz.prog 14 #[.int .i64 N,vr,.int .i64 odd] w fun e w' => e = .returned (.bool true) ∧ w.grownBy w' none := by
 have KPT := Kept.mk (kp_part (w := w) N hV hN1 hN2 hrw n hn)
 have b4 := pickI_bd N 4 (by decide)
 have hn1 : 1 ≤ n := by omega
 have hn4 : n ≤ 4 := by omega
 obtain ⟨ra,rc,rfl⟩ := hV.is
 obtain ⟨hLo,hLl⟩ := ptL_ok hn1 hn4 raw
 have hLb : ∀ t ∈ (ptL n raw).map stB,t.length ≤ 70 := fun t ht => by obtain ⟨q,hq,rfl⟩ := List.mem_map.1 ht;exact (hLo q hq).len
 have hLm : ((ptL n raw).map stB).length ≤ 8 := by rw [List.length_map];exact hLl
 clear hLo hLl
 generalize (ptL n raw).map stB = Ls at *
 have KT0 := Kept.mk (fun {W : World} {v : Value} (hS : SRow W v Ls) => kp_text n hS hn4 (by omega) hLb)
 have KP3 := Kept.mk (fun W => kp_pick odd 3 W hd1 hd2 (by decide) (by decide))
 have KP2 := Kept.mk (fun W => kp_pick odd 2 W hd1 hd2 (by decide) (by decide))
 have p3 := pickI_bd odd 3 (by decide)
 have p2 := pickI_bd odd 2 (by decide)
 generalize pickI odd 3 = P3 at *
 generalize pickI odd 2 = P2 at *
 have sl := hF.sl
 have HTL : Hid (∀ i,(thkT (decide (0 < P3)) (decide (0 < P2)) ((mkB n Ls).take i)).length ≤ 20000) := fun i => by
  have q1 := thkT_len (decide (0 < P3)) (decide (0 < P2)) ((mkB n Ls).take i)
  have q2 : ((mkB n Ls).take i).length ≤ (mkB n Ls).length := by rw [List.length_take];omega
  omega
 generalize mkB n Ls = S at *
 have HF := hide hF
 clear hV hrw hLb hn b4 hF
 go_enter Tryz.func14,Tryz.ntmps14
 have hgr : w.grownBy w none := grown_refl _ _
 go_wp2_with (first | (go_at_call 24;refine KPT.get.mono ?_;rintro e w1 ⟨v,rfl,hS,hg1⟩;replace hgr := hgr.trans hg1;obtain ⟨sa,sc,hv⟩ := hS.is;subst hv;clear hg1 KPT) | (go_at_call 25;refine (KT0.get hS).mono ?_;rintro e w4 ⟨rfl,hg1⟩;replace hgr := hgr.trans hg1;clear hg1 KT0 hS))
 have HGR := hide hgr
 clear hgr
 go_loopw [9,10] (fun vt vi wr => ∃ i : Nat,i ≤ S.length ∧ vi = .int .i64 i ∧ vt = .string (bn (thkT (decide (0 < P3)) (decide (0 < P2)) (S.take i))) ∧ wr = w4) (fun _ vi _ => S.length - (intOf vi).toNat)
 case atStart => exact ⟨0,Nat.zero_le _,rfl,rfl,rfl⟩
 case round =>
  obtain ⟨i,hi9,rfl,rfl,rfl⟩ := hrel
  by_cases hlt : i < S.length
  ·have tl : (thkT (decide (0 < P3)) (decide (0 < P2)) (S.take i)).length ≤ 20000 := HTL.out i
   obtain ⟨c,hc⟩ : ∃ c,S[i]? = some c := ⟨S[i],List.getElem?_eq_getElem hlt⟩
   have hbi : (bn S)[i]'(by rw [bn_size];exact hlt) = c := bn_at hc _
   have hex : (bn S).extract i (i + 1) = bn [c] := bn_ext hc
   have HTK := hide (thkT_next (decide (0 < P3)) (decide (0 < P2)) hc)
   generalize thkT (decide (0 < P3)) (decide (0 < P2)) (S.take i) = T at *
   have hlt2 : (i : Int) < S.length := by omega
   have h0i : (0 : Int) ≤ i := by omega
   have HLI : Hid (i + 1 ≤ S.length) := hlt
   have HME : Hid (S.length - (i + 1) < S.length - i) := by rw [Hid];omega
   clear hc hi9
   by_cases c1 : c = 32
   ·subst c1
    by_cases q : 0 < P3
    ·have e3 : thkC (decide (0 < P3)) (decide (0 < P2)) 32 = [32,32,9] := by rw [decide_eq_true q];rfl
     rw [e3] at HTK
     clear e3
     go_wp2_with (go_at_call 16;refine (KP3.get _).mono ?_;rintro e w6 ⟨rfl,hww⟩;subst w6)
     go_roundw
     case rel => exact ⟨i + 1,HLI.out,by go_num,by (rw [HTK.out];try simp only [ap,List.append_assoc,List.cons_append,List.nil_append]),by first | trivial | rfl⟩
     case measure => exact HME.out
    ·have q : P3 ≤ 0 := by omega
     have e3 : thkC (decide (0 < P3)) (decide (0 < P2)) 32 = [32] := by rw [decide_eq_false (by omega : ¬ 0 < P3)];cases decide (0 < P2) <;> rfl
     rw [e3] at HTK
     clear e3
     go_wp2_with (go_at_call 16;refine (KP3.get _).mono ?_;rintro e w6 ⟨rfl,hww⟩;subst w6)
     go_roundw
     case rel => exact ⟨i + 1,HLI.out,by go_num,by (rw [HTK.out];try simp only [ap,List.append_assoc,List.cons_append,List.nil_append]),by first | trivial | rfl⟩
     case measure => exact HME.out
   by_cases c2 : c = 59
   ·subst c2
    by_cases q : 0 < P2
    ·have e3 : thkC (decide (0 < P3)) (decide (0 < P2)) 59 = [59,32,37,32,115,111,59,32,105,116,32,105,115,10] := by rw [decide_eq_true q];cases decide (0 < P3) <;> rfl
     rw [e3] at HTK
     clear e3
     go_wp2_with (go_at_call 16;refine (KP2.get _).mono ?_;rintro e w6 ⟨rfl,hww⟩;subst w6)
     go_roundw
     case rel => exact ⟨i + 1,HLI.out,by go_num,by (rw [HTK.out];try simp only [ap,List.append_assoc,List.cons_append,List.nil_append]),by first | trivial | rfl⟩
     case measure => exact HME.out
    ·have q : P2 ≤ 0 := by omega
     have e3 : thkC (decide (0 < P3)) (decide (0 < P2)) 59 = [59] := by rw [decide_eq_false (by omega : ¬ 0 < P2)];cases decide (0 < P3) <;> rfl
     rw [e3] at HTK
     clear e3
     go_wp2_with (go_at_call 16;refine (KP2.get _).mono ?_;rintro e w6 ⟨rfl,hww⟩;subst w6)
     go_roundw
     case rel => exact ⟨i + 1,HLI.out,by go_num,by (rw [HTK.out];try simp only [ap,List.append_assoc,List.cons_append,List.nil_append]),by first | trivial | rfl⟩
     case measure => exact HME.out
   ·have n1 : ((c.toNat : Int) == 32) = false := by rw [beq_eq_false_iff_ne];intro z;exact c1 (UInt8.toNat_inj.1 (by show c.toNat = 32;omega))
    have n2 : ((c.toNat : Int) == 59) = false := by rw [beq_eq_false_iff_ne];intro z;exact c2 (UInt8.toNat_inj.1 (by show c.toNat = 59;omega))
    have m1 : (c.toNat : Int) ≠ 32 := by simpa using n1
    have m2 : (c.toNat : Int) ≠ 59 := by simpa using n2
    have e3 : thkC (decide (0 < P3)) (decide (0 < P2)) c = [c] := by unfold thkC;rw [if_neg (fun z => c1 z.1),if_neg (fun z => c2 z.1)]
    rw [e3] at HTK
    clear c1 c2 e3
    go_wp2_with (go_at_call 16;refine (KP2.get _).mono ?_;rintro e w6 ⟨rfl,hww⟩;subst w6)
    go_roundw
    case rel => exact ⟨i + 1,HLI.out,by go_num,by (rw [HTK.out];try simp only [ap,List.append_assoc,List.cons_append,List.nil_append]),by first | trivial | rfl⟩
    case measure => exact HME.out
  ·obtain rfl : i = S.length := by omega
   rw [List.take_length]
   have tl := HTL.out S.length
   rw [List.take_length] at tl
   have hgr := HGR.out
   have KA := Kept.mk (fun {W : World} (hg : w.grownBy W none) => HF.out.m0 W hg)
   have KC := KA
   have M1 := HF.out.m1
   have HLN := hide HF.out.len
   have HMM := hide HF.out.mem
   have HRW := hide HF.out.row
   generalize thkT (decide (0 < P3)) (decide (0 < P2)) S = T at *
   clear HTL HF hi9 hlt
   by_cases q : T.length ≤ 2000
   ·have q0 : (T.length : Int) ≤ 2000 := by omega
    have KB := Kept.mk (fun {W : World} (hg : w.grownBy W none) => M1 q W hg)
    clear M1
    go_wp2_with (first | (go_at_call 21;refine (KA.get hgr).mono ?_;rintro e wa ⟨q1,rfl,hg1,hs1⟩;replace hgr := hgr.trans hg1;have hk1 := grown_refl wa none;have T1 := Kept.mk (fun {W2 : World} h => (hs1 W2 h).tx);have F1 := Kept.mk (fun {W2 : World} h => (hs1 W2 h).fo);have N1 := Kept.mk (fun {W2 : World} h => (hs1 W2 h).nm);clear hg1 hs1 KA) | (go_at_call 21;refine (KB.get hgr).mono ?_;rintro e wb ⟨q2,rfl,hg1,hs1⟩;replace hgr := hgr.trans hg1;replace hk1 := hk1.trans hg1;have hk2 := grown_refl wb none;have T2 := Kept.mk (fun {W2 : World} h => (hs1 W2 h).tx);have F2 := Kept.mk (fun {W2 : World} h => (hs1 W2 h).fw);clear hg1 hs1 KB) | (go_at_call 30;refine (T1.get hk1).mono ?_;rintro e w6 ⟨rfl,hww⟩;subst w6;clear T1) | (go_at_call 21;refine (KC.get hgr).mono ?_;rintro e wc ⟨q3,rfl,hg1,hs1⟩;replace hgr := hgr.trans hg1;replace hk1 := hk1.trans hg1;replace hk2 := hk2.trans hg1;have hk3 := grown_refl wc none;have T3 := Kept.mk (fun {W2 : World} h => (hs1 W2 h).tx);have F3 := Kept.mk (fun {W2 : World} h => (hs1 W2 h).fo);have N3 := Kept.mk (fun {W2 : World} h => (hs1 W2 h).nm);clear hg1 hs1 KC) | (go_at_call 30;refine (T2.get hk2).mono ?_;rintro e w6 ⟨rfl,hww⟩;subst w6;clear T2) | (go_at_call 30;refine (T3.get hk3).mono ?_;rintro e w6 ⟨rfl,hww⟩;subst w6;clear T3))
    have R1 : ∀ x ∈ A,x.length ≤ 100000 := fun x hx => by have := HRW.out.1 x hx;omega
    have R2 : ∀ x ∈ B,x.length ≤ 100000 := fun x hx => by have := HRW.out.2 x hx;omega
    have HR1 := hide R1
    have HR2 := hide R2
    have l6 : A.length ≤ 1000000 := by have := HLN.out.2;omega
    clear R1 R2
    go_wp2_with (first | (go_at_call 22;refine (F1.get hk1).mono ?_;clear F1;rintro e w3 ⟨vA,rfl,hA,hg1⟩;replace hgr := hgr.trans hg1;replace hk1 := hk1.trans hg1;replace hk2 := hk2.trans hg1;replace hk3 := hk3.trans hg1;obtain ⟨xa,xc,hv1⟩ := hA.ll.is;subst hv1;clear hg1) | (go_at_call 22;refine (F3.get hk3).mono ?_;clear F3;rintro e w3 ⟨vB,rfl,hB,hg1⟩;replace hgr := hgr.trans hg1;replace hk1 := hk1.trans hg1;replace hk2 := hk2.trans hg1;replace hk3 := hk3.trans hg1;replace hA := hA.grown hg1;obtain ⟨ya,yc,hv1⟩ := hB.ll.is;subst hv1;clear hg1) | (go_at_call 22;refine (F2.get hk2).mono ?_;clear F2 hk2;rintro e w3 ⟨vC,rfl,hC,hg1⟩;replace hgr := hgr.trans hg1;replace hk1 := hk1.trans hg1;replace hk3 := hk3.trans hg1;replace hA := hA.grown hg1;replace hB := hB.grown hg1;obtain ⟨za,zc,hv1⟩ := hC.ll.is;subst hv1;clear hg1) | (go_at_call 26;refine (kp_alike hA.ll hB.ll rfl (fun x hx => hx) l6 HR1.out HR1.out).mono ?_;rintro e w8 ⟨rfl,hg1⟩;replace hgr := hgr.trans hg1;replace hk1 := hk1.trans hg1;replace hk3 := hk3.trans hg1;replace hA := hA.grown hg1;replace hC := hC.grown hg1;clear hg1 hB) | (go_at_call 26;refine (kp_alike hA.ll hC.ll HLN.out.1 HMM.out l6 HR1.out HR2.out).mono ?_;rintro e w8 ⟨rfl,hg1⟩;replace hgr := hgr.trans hg1;replace hk1 := hk1.trans hg1;replace hk3 := hk3.trans hg1;clear hg1 hA hC) | (go_at_call 31;refine (N1.get hk1).mono ?_;clear N1 hk1;rintro e w9 ⟨v,rfl,hU,hg1⟩;replace hgr := hgr.trans hg1;replace hk3 := hk3.trans hg1;obtain ⟨ua,uc,hv⟩ := hU.is;rw [List.length_map,List.length_range] at hv;subst hv;clear hg1) | (go_at_call 31;refine (N3.get hk3).mono ?_;clear N3 hk3;rintro e w10 ⟨v,rfl,hX,hg1⟩;replace hgr := hgr.trans hg1;replace hU := hU.grown hg1;obtain ⟨va,vc,hv⟩ := hX.is;rw [List.length_map,List.length_range] at hv;subst hv;clear hg1))
    have HU := hide hU
    have HX := hide hX
    have HG := hide hgr
    clear hU hX hgr
    go_loopw [25] (fun vi wr => ∃ i : Nat,i ≤ n ∧ vi = .int .i64 i ∧ w10.grownBy wr none) (fun vi _ => n - (intOf vi).toNat)
    case atStart => exact ⟨0,Nat.zero_le _,rfl,grown_refl _ _⟩
    case round =>
     obtain ⟨i,hi9,rfl,hg⟩ := hrel
     by_cases hlt : i < n
     ·have ht : ((List.range n).map nmK)[i]? = some (nmK i) := by rw [List.getElem?_map,List.getElem?_range hlt];rfl
      obtain ⟨g1,ea1,l1,c1,k1⟩ := (HU.out.grown hg).at_ ht
      obtain ⟨g2,ea2,l2,c2,k2⟩ := (HX.out.grown hg).at_ ht
      subst ea1 ea2
      have KN := Kept.mk (fun W => kp_name i W (by omega))
      have l3 := nmK_len (k := i) (by omega)
      have hlt2 : (i : Int) < n := by omega
      have h0i : (0 : Int) ≤ i := by omega
      have HLI : Hid (i + 1 ≤ n) := hlt
      have HME : Hid (n - (i + 1) < n - i) := by rw [Hid];omega
      have HG9 := hide hg
      generalize nmK i = NK at *
      clear ht hg k1 k2 hi9
      go_wp2
      refine wp_region_held_drew (S := fun w1 => w1.cell? ⟨g1,i,none⟩ = some (.string (bn NK)) ∧ w1.cell? ⟨g2,i,none⟩ = some (.string (bn NK))) (by kernel_rfl) ?_ (fun hHeld => ?_)
      ·exact ⟨c1,c2⟩
      apply tqW 0 142 hHeld
      ·(intro w hSw;(try dsimp only at hSw);go_simp;try with_reducible rfl)
      (try simp only [Act.put,arS,arZ,arN])
      apply tqW 1 143 hHeld
      ·(intro w hSw;(try dsimp only at hSw);go_simp;try with_reducible rfl)
      (try simp only [Act.put,arS,arZ,arN])
      apply tqW 2 144 hHeld
      ·(intro w hSw;(try dsimp only at hSw);go_simp;try with_reducible rfl)
      (try simp only [Act.put,arS,arZ,arN])
      apply tqW 3 145 hHeld
      ·(intro w hSw;(try dsimp only at hSw);go_simp;try with_reducible rfl)
      (try simp only [Act.put,arS,arZ,arN])
      apply tqW 4 146 hHeld
      ·(intro w hSw;(try dsimp only at hSw);go_simp;try with_reducible rfl)
      (try simp only [Act.put,arS,arZ,arN])
      refine wpAnyH_ready (rs := [5]) (by kernel_rfl) (by simp) ?_
      refine AllReadyH.cons rfl (fun K hK => ?_) AllReadyH.nil
      go_simp
      go_wp2_with ((go_at_call 19;refine (KN.get _).mono ?_;rintro e w5 ⟨rfl,hg5⟩))
      refine hK.out _ _ ?_ (fun hHeld => ?_)
      ·exact ⟨hg5.cell hHeld.1 (by simp),hg5.cell hHeld.2 (by simp)⟩
      clear hK K
      (try simp only [Act.put,arS,arZ,arN])
      apply tqW 6 148 hHeld
      ·(intro w hSw;(try dsimp only at hSw);go_simp;try with_reducible rfl)
      (try simp only [Act.put,arS,arZ,arN])
      apply tqW 7 149 hHeld
      ·(intro w hSw;(try dsimp only at hSw);go_simp;try with_reducible rfl)
      (try simp only [Act.put,arS,arZ,arN])
      apply tqW 8 150 hHeld
      ·(intro w hSw;(try dsimp only at hSw);go_simp;try with_reducible rfl)
      (try simp only [Act.put,arS,arZ,arN])
      apply tqW 9 151 hHeld
      ·(intro w hSw;(try dsimp only at hSw);go_simp;try with_reducible rfl)
      (try simp only [Act.put,arS,arZ,arN])
      apply tqW 10 152 hHeld
      ·(intro w hSw;(try dsimp only at hSw);go_simp;try with_reducible rfl)
      (try simp only [Act.put,arS,arZ,arN])
      apply tqW 11 153 hHeld
      ·(intro w hSw;(try dsimp only at hSw);go_simp;try with_reducible rfl)
      (try simp only [Act.put,arS,arZ,arN])
      apply tqW 12 154 hHeld
      ·(intro w hSw;(try dsimp only at hSw);go_simp;try with_reducible rfl)
      (try simp only [Act.put,arS,arZ,arN])
      apply tqW 13 155 hHeld
      ·(intro w hSw;(try dsimp only at hSw);go_simp;try with_reducible rfl)
      (try simp only [Act.put,arS,arZ,arN])
      apply tqW 14 156 hHeld
      ·(intro w hSw;(try dsimp only at hSw);go_simp;try with_reducible rfl)
      (try simp only [Act.put,arS,arZ,arN])
      apply tqW 15 157 hHeld
      ·(intro w hSw;(try dsimp only at hSw);go_simp;try with_reducible rfl)
      (try simp only [Act.put,arS,arZ,arN])
      apply tqW 16 158 hHeld
      ·(intro w hSw;(try dsimp only at hSw);go_simp;try with_reducible rfl)
      (try simp only [Act.put,arS,arZ,arN])
      apply tqW 17 159 hHeld
      ·(intro w hSw;(try dsimp only at hSw);go_simp;try with_reducible rfl)
      (try simp only [Act.put,arS,arZ,arN])
      refine wpAnyH_done (by kernel_rfl) ?_ _
      go_wp2
      go_roundw
      case rel => exact ⟨i + 1,HLI.out,by go_num,(HG9.out.trans (grown_drew' _ _)).trans hg5⟩
      case measure => exact HME.out
     ·obtain rfl : n = i := by omega
      go_wp2
      go_ret
      exact ⟨rfl,HG.out.trans hg⟩
   ·have q0 : (2000 : Int) < T.length := by omega
    have KB := KA
    clear M1
    go_wp2_with (first | (go_at_call 21;refine (KA.get hgr).mono ?_;rintro e wa ⟨q1,rfl,hg1,hs1⟩;replace hgr := hgr.trans hg1;have hk1 := grown_refl wa none;have T1 := Kept.mk (fun {W2 : World} h => (hs1 W2 h).tx);have F1 := Kept.mk (fun {W2 : World} h => (hs1 W2 h).fo);have N1 := Kept.mk (fun {W2 : World} h => (hs1 W2 h).nm);clear hg1 hs1 KA) | (go_at_call 21;refine (KB.get hgr).mono ?_;rintro e wb ⟨q2,rfl,hg1,hs1⟩;replace hgr := hgr.trans hg1;replace hk1 := hk1.trans hg1;have hk2 := grown_refl wb none;have T2 := Kept.mk (fun {W2 : World} h => (hs1 W2 h).tx);have F2 := Kept.mk (fun {W2 : World} h => (hs1 W2 h).fw);clear hg1 hs1 KB) | (go_at_call 30;refine (T1.get hk1).mono ?_;rintro e w6 ⟨rfl,hww⟩;subst w6;clear T1) | (go_at_call 21;refine (KC.get hgr).mono ?_;rintro e wc ⟨q3,rfl,hg1,hs1⟩;replace hgr := hgr.trans hg1;replace hk1 := hk1.trans hg1;replace hk2 := hk2.trans hg1;have hk3 := grown_refl wc none;have T3 := Kept.mk (fun {W2 : World} h => (hs1 W2 h).tx);have F3 := Kept.mk (fun {W2 : World} h => (hs1 W2 h).fo);have N3 := Kept.mk (fun {W2 : World} h => (hs1 W2 h).nm);clear hg1 hs1 KC) | (go_at_call 30;refine (T2.get hk2).mono ?_;rintro e w6 ⟨rfl,hww⟩;subst w6;clear T2) | (go_at_call 30;refine (T3.get hk3).mono ?_;rintro e w6 ⟨rfl,hww⟩;subst w6;clear T3))
    have R1 : ∀ x ∈ A,x.length ≤ 100000 := fun x hx => by have := HRW.out.1 x hx;omega
    have R2 : ∀ x ∈ B,x.length ≤ 100000 := fun x hx => by have := HRW.out.2 x hx;omega
    have HR1 := hide R1
    have HR2 := hide R2
    have l6 : A.length ≤ 1000000 := by have := HLN.out.2;omega
    clear R1 R2
    go_wp2_with (first | (go_at_call 22;refine (F1.get hk1).mono ?_;clear F1;rintro e w3 ⟨vA,rfl,hA,hg1⟩;replace hgr := hgr.trans hg1;replace hk1 := hk1.trans hg1;replace hk2 := hk2.trans hg1;replace hk3 := hk3.trans hg1;obtain ⟨xa,xc,hv1⟩ := hA.ll.is;subst hv1;clear hg1) | (go_at_call 22;refine (F3.get hk3).mono ?_;clear F3;rintro e w3 ⟨vB,rfl,hB,hg1⟩;replace hgr := hgr.trans hg1;replace hk1 := hk1.trans hg1;replace hk2 := hk2.trans hg1;replace hk3 := hk3.trans hg1;replace hA := hA.grown hg1;obtain ⟨ya,yc,hv1⟩ := hB.ll.is;subst hv1;clear hg1) | (go_at_call 22;refine (F2.get hk2).mono ?_;clear F2 hk2;rintro e w3 ⟨vC,rfl,hC,hg1⟩;replace hgr := hgr.trans hg1;replace hk1 := hk1.trans hg1;replace hk3 := hk3.trans hg1;replace hA := hA.grown hg1;replace hB := hB.grown hg1;obtain ⟨za,zc,hv1⟩ := hC.ll.is;subst hv1;clear hg1) | (go_at_call 26;refine (kp_alike hA.ll hB.ll rfl (fun x hx => hx) l6 HR1.out HR1.out).mono ?_;rintro e w8 ⟨rfl,hg1⟩;replace hgr := hgr.trans hg1;replace hk1 := hk1.trans hg1;replace hk3 := hk3.trans hg1;replace hA := hA.grown hg1;replace hC := hC.grown hg1;clear hg1 hB) | (go_at_call 26;refine (kp_alike hA.ll hC.ll HLN.out.1 HMM.out l6 HR1.out HR2.out).mono ?_;rintro e w8 ⟨rfl,hg1⟩;replace hgr := hgr.trans hg1;replace hk1 := hk1.trans hg1;replace hk3 := hk3.trans hg1;clear hg1 hA hC) | (go_at_call 31;refine (N1.get hk1).mono ?_;clear N1 hk1;rintro e w9 ⟨v,rfl,hU,hg1⟩;replace hgr := hgr.trans hg1;replace hk3 := hk3.trans hg1;obtain ⟨ua,uc,hv⟩ := hU.is;rw [List.length_map,List.length_range] at hv;subst hv;clear hg1) | (go_at_call 31;refine (N3.get hk3).mono ?_;clear N3 hk3;rintro e w10 ⟨v,rfl,hX,hg1⟩;replace hgr := hgr.trans hg1;replace hU := hU.grown hg1;obtain ⟨va,vc,hv⟩ := hX.is;rw [List.length_map,List.length_range] at hv;subst hv;clear hg1))
    have HU := hide hU
    have HX := hide hX
    have HG := hide hgr
    clear hU hX hgr
    go_loopw [25] (fun vi wr => ∃ i : Nat,i ≤ n ∧ vi = .int .i64 i ∧ w10.grownBy wr none) (fun vi _ => n - (intOf vi).toNat)
    case atStart => exact ⟨0,Nat.zero_le _,rfl,grown_refl _ _⟩
    case round =>
     obtain ⟨i,hi9,rfl,hg⟩ := hrel
     by_cases hlt : i < n
     ·have ht : ((List.range n).map nmK)[i]? = some (nmK i) := by rw [List.getElem?_map,List.getElem?_range hlt];rfl
      obtain ⟨g1,ea1,l1,c1,k1⟩ := (HU.out.grown hg).at_ ht
      obtain ⟨g2,ea2,l2,c2,k2⟩ := (HX.out.grown hg).at_ ht
      subst ea1 ea2
      have KN := Kept.mk (fun W => kp_name i W (by omega))
      have l3 := nmK_len (k := i) (by omega)
      have hlt2 : (i : Int) < n := by omega
      have h0i : (0 : Int) ≤ i := by omega
      have HLI : Hid (i + 1 ≤ n) := hlt
      have HME : Hid (n - (i + 1) < n - i) := by rw [Hid];omega
      have HG9 := hide hg
      generalize nmK i = NK at *
      clear ht hg k1 k2 hi9
      go_wp2
      refine wp_region_held_drew (S := fun w1 => w1.cell? ⟨g1,i,none⟩ = some (.string (bn NK)) ∧ w1.cell? ⟨g2,i,none⟩ = some (.string (bn NK))) (by kernel_rfl) ?_ (fun hHeld => ?_)
      ·exact ⟨c1,c2⟩
      apply tqW 0 142 hHeld
      ·(intro w hSw;(try dsimp only at hSw);go_simp;try with_reducible rfl)
      (try simp only [Act.put,arS,arZ,arN])
      apply tqW 1 143 hHeld
      ·(intro w hSw;(try dsimp only at hSw);go_simp;try with_reducible rfl)
      (try simp only [Act.put,arS,arZ,arN])
      apply tqW 2 144 hHeld
      ·(intro w hSw;(try dsimp only at hSw);go_simp;try with_reducible rfl)
      (try simp only [Act.put,arS,arZ,arN])
      apply tqW 3 145 hHeld
      ·(intro w hSw;(try dsimp only at hSw);go_simp;try with_reducible rfl)
      (try simp only [Act.put,arS,arZ,arN])
      apply tqW 4 146 hHeld
      ·(intro w hSw;(try dsimp only at hSw);go_simp;try with_reducible rfl)
      (try simp only [Act.put,arS,arZ,arN])
      refine wpAnyH_ready (rs := [5]) (by kernel_rfl) (by simp) ?_
      refine AllReadyH.cons rfl (fun K hK => ?_) AllReadyH.nil
      go_simp
      go_wp2_with ((go_at_call 19;refine (KN.get _).mono ?_;rintro e w5 ⟨rfl,hg5⟩))
      refine hK.out _ _ ?_ (fun hHeld => ?_)
      ·exact ⟨hg5.cell hHeld.1 (by simp),hg5.cell hHeld.2 (by simp)⟩
      clear hK K
      (try simp only [Act.put,arS,arZ,arN])
      apply tqW 6 148 hHeld
      ·(intro w hSw;(try dsimp only at hSw);go_simp;try with_reducible rfl)
      (try simp only [Act.put,arS,arZ,arN])
      apply tqW 7 149 hHeld
      ·(intro w hSw;(try dsimp only at hSw);go_simp;try with_reducible rfl)
      (try simp only [Act.put,arS,arZ,arN])
      apply tqW 8 150 hHeld
      ·(intro w hSw;(try dsimp only at hSw);go_simp;try with_reducible rfl)
      (try simp only [Act.put,arS,arZ,arN])
      apply tqW 9 151 hHeld
      ·(intro w hSw;(try dsimp only at hSw);go_simp;try with_reducible rfl)
      (try simp only [Act.put,arS,arZ,arN])
      apply tqW 10 152 hHeld
      ·(intro w hSw;(try dsimp only at hSw);go_simp;try with_reducible rfl)
      (try simp only [Act.put,arS,arZ,arN])
      apply tqW 11 153 hHeld
      ·(intro w hSw;(try dsimp only at hSw);go_simp;try with_reducible rfl)
      (try simp only [Act.put,arS,arZ,arN])
      apply tqW 12 154 hHeld
      ·(intro w hSw;(try dsimp only at hSw);go_simp;try with_reducible rfl)
      (try simp only [Act.put,arS,arZ,arN])
      apply tqW 13 155 hHeld
      ·(intro w hSw;(try dsimp only at hSw);go_simp;try with_reducible rfl)
      (try simp only [Act.put,arS,arZ,arN])
      apply tqW 14 156 hHeld
      ·(intro w hSw;(try dsimp only at hSw);go_simp;try with_reducible rfl)
      (try simp only [Act.put,arS,arZ,arN])
      apply tqW 15 157 hHeld
      ·(intro w hSw;(try dsimp only at hSw);go_simp;try with_reducible rfl)
      (try simp only [Act.put,arS,arZ,arN])
      apply tqW 16 158 hHeld
      ·(intro w hSw;(try dsimp only at hSw);go_simp;try with_reducible rfl)
      (try simp only [Act.put,arS,arZ,arN])
      apply tqW 17 159 hHeld
      ·(intro w hSw;(try dsimp only at hSw);go_simp;try with_reducible rfl)
      (try simp only [Act.put,arS,arZ,arN])
      refine wpAnyH_done (by kernel_rfl) ?_ _
      go_wp2
      go_roundw
      case rel => exact ⟨i + 1,HLI.out,by go_num,(HG9.out.trans (grown_drew' _ _)).trans hg5⟩
      case measure => exact HME.out
     ·obtain rfl : n = i := by omega
      go_wp2
      go_ret
      exact ⟨rfl,HG.out.trans hg⟩
theorem kp_Plainly (N odd : Int) {vr : Value} {raw : List Int} (hV : RawIn w vr raw) (hN1 : -9223372036854775808 ≤ N) (hN2 : N ≤ 9223372036854775807) (hd1 : -9223372036854775808 ≤ odd) (hd2 : odd ≤ 9223372036854775807) (hrw : ∀ x ∈ raw,-9223372036854775808 ≤ x ∧ x ≤ 9223372036854775807) (ht : PowTab w) (hdb : DbTab w) : Calls Tryz.prog 14 #[.int .i64 N,vr,.int .i64 odd] w fun e w' => e = .returned (.bool true) ∧ w.grownBy w' none := by
 have b4 := pickI_bd N 4 (by decide)
 obtain ⟨n,hn⟩ : ∃ n : Nat,1 + pickI N 4 = (n : Int) := ⟨(1 + pickI N 4).toNat,by omega⟩
 have hn1 : 1 ≤ n := by omega
 have hn4 : n ≤ 4 := by omega
 obtain ⟨hLo,hLl⟩ := ptL_ok hn1 hn4 raw
 have tb : ∀ {W : World},w.grownBy W none → PowTab W := fun {W} hg => tab_kept ht (fun k hk => hg.block k hk (by simp))
 have e0 : pickI 0 2 = 0 := by decide
 obtain ⟨R1,_,_⟩ := pt_rows hn1 hn4 hLo (by omega) 0 false
 obtain ⟨R2,_,_⟩ := pt_rows hn1 hn4 hLo (by omega) 0 true
 have hP : (solveS (mkK (pV n) (mkC n (ptL n raw)) 0 false 1000000)).sols.Perm (solveS (mkK (pV n) (mkC n (ptL n raw)) 0 true 1000000)).sols := List.Perm.trans R1 (List.Perm.symm R2)
 have key : ∀ {W W2 : World} {q : Nat},w.grownBy W2 none → MdAt W2 q (pV n) (mkC n (ptL n raw)) (mkB n ((ptL n raw).map stB)) → PnM W2 q n (mkB n ((ptL n raw).map stB)) (solveS (mkK (pV n) (mkC n (ptL n raw)) 0 false 1000000)).sols (solveS (mkK (pV n) (mkC n (ptL n raw)) 0 true 1000000)).sols := fun {W W2 q} hg hm => by
  have F1 := pt_found hn1 hn4 hLo (by omega) hm (tb hg) (db_grown hdb hg) 0 false (by decide) (by decide)
  have F2 := pt_found hn1 hn4 hLo (by omega) hm (tb hg) (db_grown hdb hg) 0 true (by decide) (by decide)
  rw [e0] at F1 F2
  exact ⟨md_Text hm,F1,F2,md_Names hm hn1 hn4⟩
 have ln : (mkB n ((ptL n raw).map stB)).length ≤ 1000 := by
  have q1 := varsB_len (lo := -1) (hi := 3) (itoa_len (by omega) (by omega)) (itoa_len (by omega) (by omega)) (k := n) (by omega)
  have q2 := linesB_len (L := (ptL n raw).map stB) (fun t h => by obtain ⟨z,hz,rfl⟩ := List.mem_map.1 h;exact (hLo z hz).len)
  rw [List.length_map] at q2
  unfold mkB
  rw [List.length_append];omega
 refine pn_walk N odd hV hN1 hN2 hd1 hd2 hrw n hn _ _ ⟨fun W hW => ?_,fun hT W hW => ?_,⟨hP.length_eq,R1.len hn1 hn4⟩,fun x hx => hP.mem_iff.1 hx,⟨fun x hx => (R1.row hx).1,fun x hx => (R2.row hx).1⟩,ln⟩
 ·refine (pl_model hn1 hn4 raw W (tb hW)).mono ?_
  rintro e w' ⟨b,rfl,hb,hm,hg⟩
  exact ⟨b,rfl,hg,fun W2 hg2 => key (W := W2) ((hW.trans hg).trans hg2) (hm.grown hg2)⟩
 ·refine (th_model _ _ hn1 hn4 raw hT W (tb hW)).mono ?_
  rintro e w' ⟨b,rfl,hb,hm,hg⟩
  exact ⟨b,rfl,hg,fun W2 hg2 => key (W := W2) ((hW.trans hg).trans hg2) (hm.grown hg2)⟩
end
end Go.Proofs.YthpcbbnabnlanaaGreatDoor
