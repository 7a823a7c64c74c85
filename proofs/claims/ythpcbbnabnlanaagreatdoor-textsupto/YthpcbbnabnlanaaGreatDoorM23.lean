import Derived.Test.YthpcbbnabnlanaaGreatDoorM02
import Derived.Test.YthpcbbnabnlanaaGreatDoorM07
import Derived.Test.YthpcbbnabnlanaaGreatDoorM09
import Derived.Test.YthpcbbnabnlanaaGreatDoorM10
import Derived.Test.YthpcbbnabnlanaaGreatDoorM21
import Derived.Test.YthpcbbnabnlanaaGreatDoorM14
import Derived.Test.YthpcbbnabnlanaaGreatDoorM19
import Derived.Test.YthpcbbnabnlanaaGreatDoorM22
import Derived.Deep.QuietTactic
import Derived.BigQuiet
import Derived.Lib.ItoaNum
namespace Go.Proofs.YthpcbbnabnlanaaGreatDoor
open Go.RowKit
set_option linter.unusedVariables false
set_option linter.unusedSimpArgs false
section
set_option maxHeartbeats 8000000
set_option maxRecDepth 100000
variable {w w' : World}
def inP (v : QVar) (x : Int) : Bool := decide (v.low ≤ x) && decide (x ≤ v.high)
def asgF : List QVar → List Int → Bool
 | [],[] => true
 | v :: vs,x :: xs => inP v x && asgF vs xs
 | _,_ => false
def suitsP (vars : List QVar) (cons : List QCon) (vals : List Int) : Bool := asgF vars vals && cons.all (conP vals)
structure SetIn (w : World) (bc B : Nat) (vV vC : Value) (vars : List QVar) (cs : List CRow) : Prop where
 c1 : w.cell? ⟨bc,1,none⟩ = some vV
 c2 : w.cell? ⟨bc,2,none⟩ = some vC
 lt : bc < w.heap.size
 ov : w.ownsRow B 78 3 vV vars.length (vars.flatMap qvCell)
 oc : w.ownsRow B 99 10 vC cs.length (cs.flatMap CRow.cells)
 at_ : ∀ x ∈ cs,CAt w B x
theorem SetIn.grown {bc B : Nat} {vV vC : Value} {vars : List QVar} {cs : List CRow} (h : SetIn w bc B vV vC vars cs) (hg : w.grownBy w' none) : SetIn w' bc B vV vC vars cs :=
 ⟨hg.cell h.c1 (by simp),hg.cell h.c2 (by simp),Nat.lt_of_lt_of_le h.lt hg.size,h.ov.kept hg (own_none _),h.oc.kept hg (own_none _),fun x hx => (h.at_ x hx).but ((But.refl [] w).grown hg (fun k e => by cases e)) (fun k hk => by cases hk)⟩
def ValsIn (w : World) (v : Value) (vals : List Int) : Prop := (vals = [] ∧ ∃ a c,v = .slice a 0 c) ∨ ∃ g cap,VIn w v g cap vals
theorem ValsIn.grown {v : Value} {vals : List Int} (h : ValsIn w v vals) (hg : w.grownBy w' none) : ValsIn w' v vals := by
 rcases h with h | ⟨g,cap,h⟩
 ·exact .inl h
 ·exact .inr ⟨g,cap,h.kept hg (by simp)⟩
theorem ValsIn.is {v : Value} {vals : List Int} (h : ValsIn w v vals) : ∃ a c,v = .slice a vals.length c := by
 rcases h with ⟨rfl,a,c,e⟩ | ⟨g,cap,h⟩
 ·exact ⟨a,c,e⟩
 ·exact ⟨_,_,h.is⟩
theorem asg_len : ∀ {vars : List QVar} {vals : List Int},asgF vars vals = true → vals.length = vars.length
 | [],[],_ => rfl
 | v :: vs,x :: xs,h => by simp [asgF] at h;have := asg_len h.2;simp [this]
 | [],_ :: _,h => by simp [asgF] at h
 | _ :: _,[],h => by simp [asgF] at h
theorem asg_ne : ∀ {vars : List QVar} {vals : List Int},vals.length ≠ vars.length → asgF vars vals = false := fun {vars vals} h => by
 cases e : asgF vars vals with
 | false => rfl
 | true => exact absurd (asg_len e) h
theorem asg_at : ∀ {vars : List QVar} {vals : List Int},vals.length = vars.length → (asgF vars vals = true ↔ ∀ (i : Nat) v x,vars[i]? = some v → vals[i]? = some x → inP v x = true)
 | [],[],_ => by simp [asgF]
 | v :: vs,x :: xs,h => by
  have ih := asg_at (vars := vs) (vals := xs) (by simpa using h)
  simp only [asgF,Bool.and_eq_true,ih]
  constructor
  ·rintro ⟨h1,h2⟩ i v' x' hv hx
   cases i with
   | zero => simp at hv hx;subst hv hx;exact h1
   | succ i => exact h2 i v' x' (by simpa using hv) (by simpa using hx)
  ·intro hall
   exact ⟨hall 0 v x rfl rfl,fun i v' x' hv hx => hall (i + 1) v' x' (by simpa using hv) (by simpa using hx)⟩
 | [],_ :: _,h => by simp at h
 | _ :: _,[],h => by simp at h
theorem rl_isAssignment {bc B : Nat} {vV vC vv : Value} {vars : List QVar} {cs : List CRow} {vals : List Int} (h : SetIn w bc B vV vC vars cs) (hV : ValsIn w vv vals) (hl : vars.length ≤ 3000) : Calls Tryz.prog 47 #[.pointer (some ⟨bc,1,none⟩),vv] w fun e w' => e = .returned (.bool (asgF vars vals)) ∧ w.grownBy w' none := by
 obtain ⟨R,hR⟩ : ∃ R,R = asgF vars vals := ⟨_,rfl⟩
 have HR : Hid (R = asgF vars vals) := hR
 rw [← hR]
 clear hR
 obtain ⟨va,vc,rfl⟩ := hV.is
 obtain ⟨ra,rc,hra⟩ := own_slice_n h.ov
 have c1 := h.c1
 rw [hra] at c1
 have HRA := hide hra
 have HS := hide h
 have HV := hide hV
 have hlt := h.lt
 clear h hV hra
 by_cases hn : vals.length = vars.length
 ·have hn' : ((vals.length : Int) != (vars.length : Int)) = false := by simp [hn]
  have HAT := hide (asg_at hn)
  go_enter Tryz.func47,Tryz.ntmps47
  go_wp2
  go_loopw [20] (fun vi wr => ∃ i : Nat,i ≤ vars.length ∧ vi = .int .i64 i ∧ (∀ (j : Nat) v x,j < i → vars[j]? = some v → vals[j]? = some x → inP v x = true) ∧ w.grownBy wr none) (fun vi _ => vars.length - (intOf vi).toNat)
  case atStart => exact ⟨0,Nat.zero_le _,rfl,fun j v x hj => by omega,grown_refl _ _⟩
  case round =>
   obtain ⟨i,hi,rfl,hall,hgr⟩ := hrel
   have HALL := hide hall
   clear hall
   by_cases hlt2 : i < vars.length
   ·obtain ⟨v,hv⟩ : ∃ v,vars[i]? = some v := ⟨vars[i],List.getElem?_eq_getElem hlt2⟩
    obtain ⟨x,hx⟩ : ∃ x,vals[i]? = some x := ⟨vals[i]'(by omega),List.getElem?_eq_getElem (by omega)⟩
    obtain ⟨gr,cr,hRV,_⟩ := RowIn.of_own HS.out.ov (by omega)
    have er : ra = some ⟨gr,0,none⟩ := by
     have q := hRV.is
     rw [HRA.out] at q
     injection q with q1 q2 q3
    subst er
    rcases HV.out with ⟨rfl,_⟩ | ⟨gv,cv,hVV⟩
    ·simp at hx
    have ev : va = some ⟨gv,0,none⟩ := by
     have q := hVV.is
     injection q with q1 q2 q3
    subst ev
    have hR := hRV.kept hgr (by simp)
    have k0 : wr.cell? ⟨gr,i * 3,none⟩ = some (.string v.name) := hR.at (sz := 3) (fun _ => rfl) hv 0 _ rfl
    have k1 : wr.cell? ⟨gr,i * 3 + 1,none⟩ = some (.int .i64 v.low) := hR.at (sz := 3) (fun _ => rfl) hv 1 _ rfl
    have k2 : wr.cell? ⟨gr,i * 3 + 2,none⟩ = some (.int .i64 v.high) := hR.at (sz := 3) (fun _ => rfl) hv 2 _ rfl
    have k3 : wr.cell? ⟨gv,i,none⟩ = some (.int .i64 x) := by have q := (hVV.kept hgr (by simp)).at (sz := 1) (fun _ => rfl) hx 0 _ rfl;rw [Nat.mul_one] at q;exact q
    have hgv : gv < wr.heap.size := Nat.lt_of_lt_of_le hVV.lt hgr.size
    have hlt3 : (i : Int) < vars.length := by omega
    have hlt4 : (i : Int) < vals.length := by omega
    have h03 : (0 : Int) ≤ i := by omega
    have HGR := hide hgr
    have HVX := hide (And.intro hv hx)
    clear hRV hVV hR hgr hv hx
    by_cases c1 : x < v.low
    ·have HE : Hid (R = false) := by
      rw [Hid,HR.out]
      cases e : asgF vars vals with
      | false => rfl
      | true =>
       have q := HAT.out.1 e i v x HVX.out.1 HVX.out.2
       simp [inP] at q;omega
     go_wp2
     go_quiet (fail)
     go_wp2
     go_ret
     rw [HE.out]
     exact ⟨rfl,(HGR.out.trans (World.grownBy_alloc _ _ _)).trans (grown_drewN' _ _ _)⟩
    ·have c1' : decide (x < v.low) = false := by simpa using c1
     by_cases c2 : v.high < x
     ·have HE : Hid (R = false) := by
       rw [Hid,HR.out]
       cases e : asgF vars vals with
       | false => rfl
       | true =>
        have q := HAT.out.1 e i v x HVX.out.1 HVX.out.2
        simp [inP] at q;omega
      clear c1
      go_wp2
      go_quiet (fail)
      go_wp2
      go_ret
      rw [HE.out]
      exact ⟨rfl,(HGR.out.trans (World.grownBy_alloc _ _ _)).trans (grown_drewN' _ _ _)⟩
     ·have c2' : decide (v.high < x) = false := by simpa using c2
      have HE : Hid (∀ (j : Nat) v x,j < i + 1 → vars[j]? = some v → vals[j]? = some x → inP v x = true) := fun j v' x' hj hv hx => by
       by_cases e : j = i
       ·subst e
        rw [HVX.out.1] at hv;rw [HVX.out.2] at hx
        injection hv with hv;injection hx with hx;subst hv hx
        simp [inP];omega
       ·exact HALL.out j v' x' (by omega) hv hx
      clear c1 c2
      go_wp2
      go_quiet (fail)
      go_wp2
      go_roundw
      case rel => exact ⟨i + 1,by omega,by go_num,HE.out,(HGR.out.trans (World.grownBy_alloc _ _ _)).trans (grown_drewN' _ _ _)⟩
      case measure => simp [intOf];omega
   ·obtain rfl : i = vars.length := by omega
    have HE : Hid (R = true) := by
     rw [Hid,HR.out]
     exact HAT.out.2 (fun j v x hv hx => HALL.out j v x (List.getElem?_eq_some_iff.1 hv).1 hv hx)
    go_wp2
    go_ret
    rw [HE.out]
    exact ⟨rfl,hgr⟩
 ·have hn' : ((vals.length : Int) != (vars.length : Int)) = true := by simp;omega
  have HE : Hid (R = false) := by rw [Hid,HR.out];exact asg_ne hn
  go_enter Tryz.func47,Tryz.ntmps47
  go_wp2
  go_ret
  rw [HE.out]
  exact ⟨rfl,grown_refl _ _⟩
end
section
set_option maxHeartbeats 4000000
set_option maxRecDepth 100000
variable {w w' : World}
def VOf (w : World) (g o : Nat) (vals : List Int) : Prop := ∀ p,PlOk vals.length p → w.cell? ⟨g,o + p.toNat,none⟩ = some (.int .i64 (vAt vals p))
theorem VOf.grown {g o : Nat} {vals : List Int} (h : VOf w g o vals) (hg : w.grownBy w' none) : VOf w' g o vals := fun p hp => hg.cell (h p hp) (by simp)
structure RulIn (w : World) (b o : Nat) (r : PRul) (a : Option Addr) (c : Nat) : Prop where
 k0 : w.cell? ⟨b,o,none⟩ = some (.int .u8 r.sort)
 k1 : w.cell? ⟨b,o + 1,none⟩ = some (.slice a r.parts.length c)
 k2 : w.cell? ⟨b,o + 2,none⟩ = some (.string r.rel)
 k3 : w.cell? ⟨b,o + 3,none⟩ = some (.int .i64 r.n)
 k4 : w.cell? ⟨b,o + 4,none⟩ = some (.int .i64 r.v)
 k5 : w.cell? ⟨b,o + 5,none⟩ = some (.int .i64 r.w)
 k6 : w.cell? ⟨b,o + 6,none⟩ = some (.int .i64 r.x)
 pt : ∀ j p,r.parts[j]? = some p → ∃ g,a = some ⟨g,0,none⟩ ∧ w.cell? ⟨g,j * 2,none⟩ = some (.int .i64 p.1) ∧ w.cell? ⟨g,j * 2 + 1,none⟩ = some (.int .i64 p.2)
theorem RulIn.grown {b o c : Nat} {r : PRul} {a : Option Addr} (h : RulIn w b o r a c) (hg : w.grownBy w' none) : RulIn w' b o r a c :=
 have k : ∀ {x u},w.cell? x = some u → w'.cell? x = some u := fun e => hg.cell e (by simp)
 ⟨k h.k0,k h.k1,k h.k2,k h.k3,k h.k4,k h.k5,k h.k6,fun j p hp => by obtain ⟨g,e,h1,h2⟩ := h.pt j p hp;exact ⟨g,e,k h1,k h2⟩⟩
def smR (vals : List Int) (r : PRul) (i : Nat) : Int := sumP vals ((r.parts.take i).map swp)
theorem rel0 {b : ByteArray} {x y : Int} (h : b.toList = [61]) : relP (relOf b) x y = (x == y) := by unfold relOf relP;rw [if_pos h];rfl
theorem rel1 {b : ByteArray} {x y : Int} (h0 : ¬ b.toList = [61]) (h : b.toList = [33,61]) : relP (relOf b) x y = (x != y) := by unfold relOf relP;rw [if_neg h0,if_pos h];rfl
theorem rel2 {b : ByteArray} {x y : Int} (h0 : ¬ b.toList = [61]) (h : ¬ b.toList = [33,61]) : relP (relOf b) x y = decide (x ≤ y) := by unfold relOf relP;rw [if_neg h0,if_neg h];rfl
theorem ref_holds {b o c gv ov cv : Nat} {r : PRul} {a : Option Addr} {vals : List Int} (h : RulIn w b o r a c) (hV : VOf w gv ov vals) (hok : ∀ p ∈ r.parts,PlOk vals.length p.2 ∧ -100 ≤ p.1 ∧ p.1 ≤ 100) (hvl : ∀ x ∈ vals,-1000 ≤ x ∧ x ≤ 1000) (hl : r.parts.length ≤ 8) (hvn : vals.length ≤ 1000) : Calls Tryz.prog 142 #[.pointer (some ⟨b,o,none⟩),.slice (some ⟨gv,ov,none⟩) vals.length cv] w fun e w' => e = .returned (.bool (relP (relOf r.rel) (sumP vals (r.parts.map swp)) r.n)) ∧ w.grownBy w' none := by
 obtain ⟨R,hR⟩ : ∃ R,R = relP (relOf r.rel) (sumP vals (r.parts.map swp)) r.n := ⟨_,rfl⟩
 rw [← hR]
 have HR := hide hR
 have HH := hide h
 have HV := hide hV
 have HOK := hide hok
 clear h hV hok hR
 go_enter Tryz.func142,Tryz.ntmps142
 go_wp2
 go_loopw [5,6] (fun vs vi wr => ∃ i : Nat,i ≤ r.parts.length ∧ vi = .int .i64 i ∧ vs = .int .i64 (smR vals r i) ∧ w.grownBy wr none) (fun _ vi _ => r.parts.length - (intOf vi).toNat)
 case atStart => exact ⟨0,Nat.zero_le _,rfl,rfl,grown_refl _ _⟩
 case round =>
  obtain ⟨i,hi,rfl,rfl,hgr⟩ := hrel
  have hI := HH.out.grown hgr
  have q1 := hI.k1
  have HGR := hide hgr
  by_cases hlt : i < r.parts.length
  ·obtain ⟨p,hp⟩ : ∃ p,r.parts[i]? = some p := ⟨r.parts[i],by simp [hlt]⟩
   obtain ⟨hpl,hf1,hf2⟩ := HOK.out p (List.mem_of_getElem? hp)
   obtain ⟨g,rfl,c1,c2⟩ := hI.pt i p hp
   have c3 := HV.out.grown hgr p.2 hpl
   have hx := vAt_bd hvl p.2
   have hs := sumP_bd hvl ((r.parts.take i).map swp) (fun q hq => by
    obtain ⟨q0,hq0,rfl⟩ := List.mem_map.1 hq
    exact (HOK.out q0 (List.mem_of_mem_take hq0)).2)
   have hsn : Hid (smR vals r (i + 1) = smR vals r i + p.1 * vAt vals p.2) := by
    unfold Hid smR
    rw [List.take_add_one,hp,List.map_append];exact sumP_snoc _ _ _
   have hm := mul_bd hf1 hf2 hx.1 hx.2
   have hti : (((r.parts.take i).map swp).length : Int) ≤ 8 := by rw [List.length_map];have := List.length_take_le i r.parts;omega
   have hp1 := hpl.1
   have hp2 := hpl.2
   have hlt3 : (i : Int) < r.parts.length := by omega
   have h03 : (0 : Int) ≤ i := by omega
   obtain ⟨a1,a2⟩ := p
   change -100000 * _ ≤ smR vals r i ∧ smR vals r i ≤ _ at hs
   simp only at *
   generalize vAt vals a2 = X at *
   generalize smR vals r i = S at *
   have hs1 : -800000 ≤ S := by omega
   have hs2 : S ≤ 800000 := by omega
   have hm1 := hm.1
   have hm2 := hm.2
   have hx1 := hx.1
   have hx2 := hx.2
   clear hI hgr hs hti hpl hp hm hx
   go_wp2
   go_quiet (fail)
   go_wp2
   go_roundw
   case rel => exact ⟨i + 1,by omega,by go_num,by rw [hsn.out],HGR.out.trans (grown_drewN' _ _ _)⟩
   case measure => simp [intOf] <;> omega
  ·obtain rfl : i = r.parts.length := by omega
   have q2 := hI.k2
   have q3 := hI.k3
   have eS : smR vals r r.parts.length = sumP vals (r.parts.map swp) := by unfold smR;rw [List.take_of_length_le (Nat.le_refl _)]
   rw [← eS] at HR
   generalize smR vals r r.parts.length = S at *
   clear hI hgr eS
   by_cases h0 : r.rel.toList = [61]
   ·have HE := hide (HR.out.trans (rel0 (x := S) (y := r.n) h0))
    go_wp2
    go_ret
    exact ⟨by rw [HE.out];rfl,HGR.out⟩
   ·by_cases h1 : r.rel.toList = [33,61]
    ·have HE := hide (HR.out.trans (rel1 (x := S) (y := r.n) h0 h1))
     go_wp2
     go_ret
     exact ⟨by rw [HE.out];rfl,HGR.out⟩
    ·have HE := hide (HR.out.trans (rel2 (x := S) (y := r.n) h0 h1))
     have h0' : (r.rel.toList == [61]) = false := by rw [beq_eq_false_iff_ne];exact h0
     have h1' : (r.rel.toList == [33,61]) = false := by rw [beq_eq_false_iff_ne];exact h1
     clear h0 h1
     go_wp2
     go_ret
     exact ⟨by rw [HE.out];rfl,HGR.out⟩
end
section
set_option maxHeartbeats 4000000
set_option maxRecDepth 100000
variable {w w' : World}
def LstIn (w : World) (la : Option Addr) (L : List PLst) : Prop := ∀ j l,L[j]? = some l → ∃ gl na nc,la = some ⟨gl,0,none⟩ ∧ w.cell? ⟨gl,j * 2 + 1,none⟩ = some (.slice na l.nums.length nc) ∧ ∀ k x,l.nums[k]? = some x → ∃ g,na = some ⟨g,0,none⟩ ∧ w.cell? ⟨g,k,none⟩ = some (.int .i64 x)
theorem LstIn.grown {la : Option Addr} {L : List PLst} (h : LstIn w la L) (hg : w.grownBy w' none) : LstIn w' la L := fun j l hl => by
 obtain ⟨gl,na,nc,h1,h2,h3⟩ := h j l hl
 exact ⟨gl,na,nc,h1,hg.cell h2 (by simp),fun k x hx => by obtain ⟨g,e,q⟩ := h3 k x hx;exact ⟨g,e,hg.cell q (by simp)⟩⟩
structure RulFit (n : Nat) (vals : List Int) (r : PRul) : Prop where
 lin : r.sort = 105 ∨ r.sort = 119 → (∀ p ∈ r.parts,PlOk n p.2 ∧ -100 ≤ p.1 ∧ p.1 ≤ 100) ∧ r.parts.length ≤ 8
 wh : r.sort = 119 → PlOk n r.v
 at_ : r.sort = 97 → PlOk n r.v ∧ PlOk n r.w
 dif : r.sort = 100 → (∀ p ∈ r.parts,PlOk n p.2) ∧ r.parts.length ≤ 8
 ors : r.sort = 111 → (∀ p ∈ r.parts,PlOk n p.2 ∧ (p.1 = 0 ∨ p.1 = 1) ∧ (vAt vals p.2 = 0 ∨ vAt vals p.2 = 1)) ∧ r.parts.length ≤ 8
section
variable {b o c bm lc gv ov cv : Nat} {r : PRul} {a la : Option Addr} {L : List PLst} {vals : List Int}
structure SuIn (w : World) (b o c bm lc gv ov : Nat) (r : PRul) (a la : Option Addr) (L : List PLst) (vals : List Int) : Prop where
 h : RulIn w b o r a c
 m2 : w.cell? ⟨bm,2,none⟩ = some (.slice la L.length lc)
 ll : LstIn w la L
 v : VOf w gv ov vals
 fit : RulFit vals.length vals r
 ok : RulOk (L.map PLst.bare) r.bare
 vb : ∀ x ∈ vals,-1000 ≤ x ∧ x ≤ 1000
 vn : vals.length ≤ 1000
 lb : ∀ l ∈ L,l.nums.length ≤ 20
 ln : L.length ≤ 4000
abbrev SuitsR (w : World) (b o bm gv ov cv : Nat) (r : PRul) (L : List PLst) (vals : List Int) : Prop :=
 Calls Tryz.prog 105 #[.pointer (some ⟨bm,0,none⟩),.pointer (some ⟨b,o,none⟩),.slice (some ⟨gv,ov,none⟩) vals.length cv] w fun e w' => e = .returned (.bool (conP vals (ruleC (L.map PLst.bare) r.bare))) ∧ w.grownBy w' none
theorem ref_lin (h : SuIn w b o c bm lc gv ov r a la L vals) (hs : r.sort = 105) : SuitsR w b o bm gv ov cv r L vals := by
 have k0 := h.h.k0
 rw [hs] at k0
 have KH := Kept.mk (ref_holds (cv := cv) h.h h.v (h.fit.lin (.inl hs)).1 h.vb (h.fit.lin (.inl hs)).2 h.vn)
 have HE : Hid (conP vals (ruleC (L.map PLst.bare) r.bare) = relP (relOf r.rel) (sumP vals (r.parts.map swp)) r.n) := by
  unfold Hid ruleC conP PRul.bare
  simp [hs]
 unfold SuitsR
 rw [HE.out]
 clear h HE
 go_enter Tryz.func105,Tryz.ntmps105
 go_wp2_with (go_at_call 142;refine KH.get.mono ?_;rintro e w1 ⟨rfl,hg⟩)
 go_ret
 exact ⟨rfl,hg⟩
theorem ref_when (h : SuIn w b o c bm lc gv ov r a la L vals) (hs : r.sort = 119) : SuitsR w b o bm gv ov cv r L vals := by
 have k0 := h.h.k0
 rw [hs] at k0
 have KH := Kept.mk (ref_holds (cv := cv) h.h h.v (h.fit.lin (.inr hs)).1 h.vb (h.fit.lin (.inr hs)).2 h.vn)
 have HE : Hid (conP vals (ruleC (L.map PLst.bare) r.bare) = ((vAt vals r.v == 1) == relP (relOf r.rel) (sumP vals (r.parts.map swp)) r.n)) := by
  unfold Hid ruleC conP PRul.bare
  simp [hs]
  rw [Bool.beq_comm]
 unfold SuitsR
 rw [HE.out]
 have hp := h.fit.wh hs
 have hp1 := hp.1
 have hp2 := hp.2
 have hvn := h.vn
 have v0 := h.v r.v hp
 have q4 := h.h.k4
 obtain ⟨R,hR⟩ : ∃ R,relP (relOf r.rel) (sumP vals (r.parts.map swp)) r.n = R := ⟨_,rfl⟩
 rw [hR] at KH ⊢
 generalize vAt vals r.v = X at *
 clear h HE hR hp
 go_enter Tryz.func105,Tryz.ntmps105
 go_wp2_with (go_at_call 142;refine KH.get.mono ?_;rintro e w1 ⟨rfl,hg⟩;have v1 := hg.cell v0 (by simp);have q5 := hg.cell q4 (by simp))
 all_goals go_ret
 all_goals exact ⟨by simp_all,hg⟩
theorem ref_at (h : SuIn w b o c bm lc gv ov r a la L vals) (hs : r.sort = 97) : SuitsR w b o bm gv ov cv r L vals := by
 have k0 := h.h.k0
 rw [hs] at k0
 obtain ⟨hp,he⟩ := h.fit.at_ hs
 obtain ⟨x0,xl⟩ := h.ok.x hs
 change 0 ≤ r.x at x0
 change r.x.toNat < (L.map PLst.bare).length at xl
 rw [List.length_map] at xl
 obtain ⟨l,hl⟩ : ∃ l,L[r.x.toNat]? = some l := ⟨L[r.x.toNat],by simp [xl]⟩
 obtain ⟨gl,na,nc,rfl,c1,c2⟩ := h.ll _ l hl
 obtain ⟨J,hJ⟩ : ∃ J : Nat,r.x = J := ⟨r.x.toNat,by omega⟩
 have hll := h.lb l (List.mem_of_getElem? hl)
 have HE : Hid (conP vals (ruleC (L.map PLst.bare) r.bare) = (decide (1 ≤ vAt vals r.v) && decide (vAt vals r.v ≤ l.nums.length) && decide (l.nums.getD (vAt vals r.v - 1).toNat 0 = vAt vals r.w))) := by
  unfold Hid ruleC conP PRul.bare atP
  simp [hs,hl,PLst.bare]
 unfold SuitsR
 rw [HE.out]
 have hp1 := hp.1
 have hp2 := hp.2
 have he1 := he.1
 have he2 := he.2
 have hvn := h.vn
 have hln := h.ln
 have v1 := h.v r.v hp
 have v2 := h.v r.w he
 have q4 := h.h.k4
 have q5 := h.h.k5
 have q6 := h.h.k6
 have m2 := h.m2
 have hb := vAt_bd h.vb r.v
 have hb1 := hb.1
 have hb2 := hb.2
 rw [hJ] at q6 hl c1 xl
 simp only [Int.toNat_natCast] at hl c1 xl
 have hJ0 : (0 : Int) ≤ J := by omega
 have hJl : (J : Int) < L.length := by omega
 have HC2 := hide c2
 generalize vAt vals r.v = PV at *
 generalize vAt vals r.w = PW at *
 clear h HE hp he hb hl x0 hJ c2
 by_cases c1' : 1 ≤ PV
 ·by_cases c2' : PV ≤ l.nums.length
  ·obtain ⟨I,hI⟩ : ∃ I : Nat,PV = (I : Int) + 1 := ⟨(PV - 1).toNat,by omega⟩
   have hIl : I < l.nums.length := by omega
   obtain ⟨y,hy⟩ : ∃ y,l.nums[I]? = some y := ⟨l.nums[I],List.getElem?_eq_getElem hIl⟩
   obtain ⟨g,rfl,kl⟩ := HC2.out I y hy
   have HA : Hid ((decide (1 ≤ PV) && decide (PV ≤ l.nums.length) && decide (l.nums.getD (PV - 1).toNat 0 = PW)) = (y == PW)) := by
    rw [Hid,decide_eq_true c1',decide_eq_true c2',show (PV - 1).toNat = I by omega,List.getD_eq_getElem?_getD,hy];rfl
   rw [HA.out]
   subst hI
   have c1'' : (1 : Int) ≤ (I : Int) + 1 := by omega
   have c2'' : (I : Int) + 1 ≤ l.nums.length := by omega
   have hI0 : (0 : Int) ≤ I := by omega
   have hI1 : (I : Int) < l.nums.length := by omega
   have eI : (I : Int) + 1 - 1 = I := by omega
   clear hy c1' c2' hb1 hb2 HA HC2
   go_enter Tryz.func105,Tryz.ntmps105
   go_wp2
   go_quiet (fail)
   go_wp2
   go_quiet (fail)
   go_wp2
   go_ret
   exact ⟨rfl,(grown_drewN' _ _ _).trans (grown_drewN' _ _ _)⟩
  ·have c2f : decide (PV ≤ (l.nums.length : Int)) = false := by simpa using c2'
   have HA : Hid ((decide (1 ≤ PV) && decide (PV ≤ l.nums.length) && decide (l.nums.getD (PV - 1).toNat 0 = PW)) = false) := by rw [Hid];simp [c2']
   rw [HA.out]
   clear c2'
   go_enter Tryz.func105,Tryz.ntmps105
   go_wp2
   go_quiet (fail)
   go_wp2
   go_quiet (fail)
   go_wp2
   go_ret
   exact ⟨rfl,(grown_drewN' _ _ _).trans (grown_drewN' _ _ _)⟩
 ·have c1f : decide ((1 : Int) ≤ PV) = false := by simpa using c1'
  have HA : Hid ((decide (1 ≤ PV) && decide (PV ≤ l.nums.length) && decide (l.nums.getD (PV - 1).toNat 0 = PW)) = false) := by rw [Hid];simp [c1']
  rw [HA.out]
  clear c1'
  go_enter Tryz.func105,Tryz.ntmps105
  go_wp2
  go_quiet (fail)
  go_wp2
  go_quiet (fail)
  go_wp2
  go_ret
  exact ⟨rfl,(grown_drewN' _ _ _).trans (grown_drewN' _ _ _)⟩
end
end
section
set_option maxHeartbeats 4000000
set_option maxRecDepth 100000
variable {w w' : World}
section
variable {b o c bm lc gv ov cv : Nat} {r : PRul} {a la : Option Addr} {L : List PLst} {vals : List Int}
theorem part_pl {p : Int × Int} {r : PRul} {i : Nat} (h : r.parts[i]? = some p) : (r.parts.map (·.2))[i]? = some p.2 := by rw [List.getElem?_map,h];rfl
theorem ref_diff (h : SuIn w b o c bm lc gv ov r a la L vals) (hs : r.sort = 100) : SuitsR w b o bm gv ov cv r L vals := by
 have k0 := h.h.k0
 rw [hs] at k0
 have HE : Hid (conP vals (ruleC (L.map PLst.bare) r.bare) = diffP vals (r.parts.map (·.2))) := by
  unfold Hid ruleC conP PRul.bare
  simp [hs]
 unfold SuitsR
 rw [HE.out]
 have HOK := hide (h.fit.dif hs).1
 have hl := (h.fit.dif hs).2
 have hvn := h.vn
 have HH := hide h.h
 have HV := hide h.v
 obtain ⟨vars,hvars⟩ : ∃ l : List Int,l = r.parts.map (·.2) := ⟨_,rfl⟩
 have hvl : vars.length = r.parts.length := by rw [hvars,List.length_map]
 have HP : Hid (∀ (i : Nat) (p : Int × Int),r.parts[i]? = some p → vars[i]? = some p.2) := fun i p hp => by rw [hvars];exact part_pl hp
 rw [← hvars]
 obtain ⟨R,hR⟩ : ∃ R,R = diffP vals vars := ⟨_,rfl⟩
 have HR := hide hR
 rw [← hR]
 clear h HE hR hvars
 go_enter Tryz.func105,Tryz.ntmps105
 go_wp2
 go_loopw [10] (fun vi wr => ∃ i : Nat,i ≤ r.parts.length ∧ vi = .int .i64 i ∧ ((List.range i).all fun i => newP vals vars i) = true ∧ w.grownBy wr none) (fun vi _ => r.parts.length - (intOf vi).toNat)
 case atStart => exact ⟨0,Nat.zero_le _,rfl,rfl,grown_refl _ _⟩
 case round =>
  obtain ⟨i,hi,rfl,hno,hgr⟩ := hrel
  have HNO := hide hno
  have q1 := (HH.out.grown hgr).k1
  clear hno
  by_cases hlt : i < r.parts.length
  ·obtain ⟨p,hp⟩ : ∃ p,r.parts[i]? = some p := ⟨r.parts[i],by simp [hlt]⟩
   have hpl := HOK.out p (List.mem_of_getElem? hp)
   have hlt3 : (i : Int) < r.parts.length := by omega
   have h03 : (0 : Int) ≤ i := by omega
   have HGA := hide (show vars.getD i 0 = p.2 by simp [List.getD_eq_getElem?_getD,HP.out i p hp])
   have HS : Hid (∃ j : Nat,j ≤ i ∧ (Value.int .i64 0) = .int .i64 j ∧ ((vars.take j).all fun u => decide (vAt vals p.2 ≠ vAt vals u)) = true ∧ w.grownBy wr none) := ⟨0,Nat.zero_le _,rfl,rfl,hgr⟩
   have HA := hide hp
   clear hgr hp
   go_wp2
   go_loopw [11] (fun vi wr => ∃ j : Nat,j ≤ i ∧ vi = .int .i64 j ∧ ((vars.take j).all fun u => decide (vAt vals p.2 ≠ vAt vals u)) = true ∧ w.grownBy wr none) (fun vi _ => i - (intOf vi).toNat)
   case atStart => exact HS.out
   case round =>
    clear HS q1
    obtain ⟨j,hj,rfl,hal,hgr⟩ := hrel
    have HAL := hide hal
    have HGR := hide hgr
    clear hal
    have hI := HH.out.grown hgr
    have q1 := hI.k1
    by_cases hlt2 : j < i
    ·obtain ⟨u,hu⟩ : ∃ u,r.parts[j]? = some u := ⟨r.parts[j]'(by omega),List.getElem?_eq_getElem (by omega)⟩
     have hpu := HOK.out u (List.mem_of_getElem? hu)
     obtain ⟨g,rfl,c1,c2⟩ := hI.pt i p HA.out
     obtain ⟨g',eg,d1,d2⟩ := hI.pt j u hu
     injection eg with eg
     injection eg with eg _ _
     subst eg
     have k1 := HV.out.grown hgr p.2 hpl
     have k2 := HV.out.grown hgr u.2 hpu
     have hp1 := hpl.1
     have hp2 := hpl.2
     have hq1 := hpu.1
     have hq2 := hpu.2
     have hlt4 : (j : Int) < i := by omega
     have hlt5 : (j : Int) < r.parts.length := by omega
     have h0j : (0 : Int) ≤ j := by omega
     have huv := HP.out j u hu
     have HSN := hide (newP_snoc (vals := vals) (i := i) huv (vAt vals p.2))
     by_cases hc : vAt vals p.2 = vAt vals u.2
     ·have HX : Hid (R = false) := by
       rw [Hid,HR.out]
       unfold diffP
       rw [List.all_eq_false]
       refine ⟨i,List.mem_range.2 (by omega),?_⟩
       unfold newP
       rw [HGA.out]
       rw [List.all_eq_true]
       intro hall
       have q := hall u.2 (List.mem_take_iff_getElem.2 ⟨j,by omega,by rw [(List.getElem?_eq_some_iff.1 huv).2]⟩)
       simp [hc] at q
      have hc' : (vAt vals p.2 == vAt vals u.2) = true := by simpa using hc
      obtain ⟨p0,pv⟩ := p
      obtain ⟨u0,uv⟩ := u
      simp only at *
      generalize vAt vals pv = X at *
      generalize vAt vals uv = Y at *
      clear hgr hc hu hpl hpu HSN hI huv
      go_wp2
      go_quiet (fail)
      go_wp2
      go_ret
      rw [HX.out]
      exact ⟨rfl,HGR.out.trans (grown_drewN' _ _ _)⟩
     ·have hc' : (vAt vals p.2 == vAt vals u.2) = false := by simpa using hc
      have HX : Hid (((vars.take (j + 1)).all fun u => decide (vAt vals p.2 ≠ vAt vals u)) = true) := by
       rw [Hid,HSN.out,HAL.out];simpa using hc
      clear HAL
      clear hgr hc hu hpu HSN hI huv
      go_wp2
      go_quiet (fail)
      go_wp2
      go_roundw
      case rel => exact ⟨j + 1,by omega,by go_num,HX.out,HGR.out.trans (grown_drewN' _ _ _)⟩
      case measure => simp [intOf] <;> omega
    ·obtain rfl : j = i := by omega
     have HX : Hid (((List.range (j + 1)).all fun i => newP vals vars i) = true) := by
      rw [Hid,List.range_succ,List.all_append,HNO.out]
      have q : newP vals vars j = true := by unfold newP;rw [HGA.out];exact HAL.out
      simp [q]
     clear hgr hI
     go_wp2
     go_roundw
     case rel => exact ⟨j + 1,by omega,by go_num,HX.out,HGR.out⟩
     case measure => simp [intOf] <;> omega
  ·obtain rfl : i = r.parts.length := by omega
   have HX : Hid (R = true) := by rw [Hid,HR.out];unfold diffP;rw [hvl];exact HNO.out
   go_wp2
   go_ret
   rw [HX.out]
   exact ⟨rfl,hgr⟩
def lt1 (p : Int × Int) : Int × Int := (p.2,1 - p.1)
theorem ref_or (h : SuIn w b o c bm lc gv ov r a la L vals) (hs : r.sort = 111) : SuitsR w b o bm gv ov cv r L vals := by
 have k0 := h.h.k0
 rw [hs] at k0
 have HE : Hid (conP vals (ruleC (L.map PLst.bare) r.bare) = litP vals (r.parts.map lt1)) := by
  unfold Hid ruleC conP PRul.bare
  simp [hs];rfl
 unfold SuitsR
 rw [HE.out]
 have HOK := hide (h.fit.ors hs).1
 have hl := (h.fit.ors hs).2
 have hvn := h.vn
 have HH := hide h.h
 have HV := hide h.v
 obtain ⟨R,hR⟩ : ∃ R,R = litP vals (r.parts.map lt1) := ⟨_,rfl⟩
 have HR := hide hR
 rw [← hR]
 clear h HE hR
 go_enter Tryz.func105,Tryz.ntmps105
 go_wp2
 go_loopw [12] (fun vi wr => ∃ i : Nat,i ≤ r.parts.length ∧ vi = .int .i64 i ∧ litP vals ((r.parts.take i).map lt1) = false ∧ w.grownBy wr none) (fun vi _ => r.parts.length - (intOf vi).toNat)
 case atStart => exact ⟨0,Nat.zero_le _,rfl,rfl,grown_refl _ _⟩
 case round =>
  obtain ⟨i,hi,rfl,hno,hgr⟩ := hrel
  have HNO := hide hno
  clear hno
  have hI := HH.out.grown hgr
  have q1 := hI.k1
  have HGR := hide hgr
  by_cases hlt : i < r.parts.length
  ·obtain ⟨p,hp⟩ : ∃ p,r.parts[i]? = some p := ⟨r.parts[i],by simp [hlt]⟩
   obtain ⟨hpl,hf,hv⟩ := HOK.out p (List.mem_of_getElem? hp)
   obtain ⟨g,rfl,c1,c2⟩ := hI.pt i p hp
   have k2 := HV.out.grown hgr p.2 hpl
   have hp1 := hpl.1
   have hp2 := hpl.2
   have hlt3 : (i : Int) < r.parts.length := by omega
   have h03 : (0 : Int) ≤ i := by omega
   by_cases hc : vAt vals p.2 = p.1
   ·have hc' : (vAt vals p.2 != p.1) = false := by simpa using hc
    have HX : Hid (litP vals ((r.parts.take (i + 1)).map lt1) = false) := by
     rw [Hid,List.take_add_one,hp,List.map_append]
     unfold litP
     rw [List.any_append]
     have h1 : (((r.parts.take i).map lt1).any fun p => decide (vAt vals p.1 = p.2)) = false := HNO.out
     rw [h1]
     simp [lt1];omega
    obtain ⟨p0,pv⟩ := p
    simp only at *
    generalize vAt vals pv = X at *
    clear hgr hc hpl hf hv hI hp HNO
    go_wp2
    go_quiet (fail)
    go_wp2
    go_roundw
    case rel => exact ⟨i + 1,by omega,by go_num,HX.out,HGR.out.trans (grown_drewN' _ _ _)⟩
    case measure => simp [intOf] <;> omega
   ·have hc' : (vAt vals p.2 != p.1) = true := by simpa using hc
    have HX : Hid (R = true) := by
     rw [Hid,HR.out]
     have e : vAt vals p.2 = 1 - p.1 := by rcases hf with q | q <;> rcases hv with q' | q' <;> omega
     exact List.any_eq_true.2 ⟨lt1 p,List.mem_map.2 ⟨p,List.mem_of_getElem? hp,rfl⟩,decide_eq_true e⟩
    obtain ⟨p0,pv⟩ := p
    simp only at *
    generalize vAt vals pv = X at *
    clear hgr hc hpl hf hv hI hp HNO
    go_wp2
    go_quiet (fail)
    go_wp2
    go_ret
    rw [HX.out]
    exact ⟨rfl,HGR.out.trans (grown_drewN' _ _ _)⟩
  ·obtain rfl : i = r.parts.length := by omega
   have HX : Hid (R = false) := by
    have q := HNO.out
    rw [List.take_of_length_le (Nat.le_refl _)] at q
    rw [Hid,HR.out,q]
   clear hgr hI
   go_wp2
   go_ret
   rw [HX.out]
   exact ⟨rfl,HGR.out⟩
theorem ref_suit (h : SuIn w b o c bm lc gv ov r a la L vals) : SuitsR w b o bm gv ov cv r L vals := by
 rcases h.ok.sort with e | e | e | e | e
 ·exact ref_lin h e
 ·exact ref_when h e
 ·exact ref_at h e
 ·exact ref_diff h e
 ·exact ref_or h e
end
end
section
set_option maxHeartbeats 4000000
set_option maxRecDepth 100000
variable {w w' : World}
structure RMd (w : World) (bm : Nat) (va la ra : Option Addr) (vc lc rc : Nat) (vars : List PVar) (L : List PLst) (R : List PRul) : Prop where
 m1 : w.cell? ⟨bm,1,none⟩ = some (.slice va vars.length vc)
 m2 : w.cell? ⟨bm,2,none⟩ = some (.slice la L.length lc)
 m3 : w.cell? ⟨bm,3,none⟩ = some (.slice ra R.length rc)
 v : ∀ (j : Nat) (x : PVar),vars[j]? = some x → ∃ g,va = some ⟨g,0,none⟩ ∧ w.cell? ⟨g,j * 3,none⟩ = some (.string x.name) ∧ w.cell? ⟨g,j * 3 + 1,none⟩ = some (.int .i64 x.low) ∧ w.cell? ⟨g,j * 3 + 2,none⟩ = some (.int .i64 x.high)
 l : LstIn w la L
 r : ∀ (j : Nat) (x : PRul),R[j]? = some x → ∃ g a c,ra = some ⟨g,0,none⟩ ∧ RulIn w g (j * 7) x a c
theorem RMd.grown {bm vc lc rc : Nat} {va la ra : Option Addr} {vars : List PVar} {L : List PLst} {R : List PRul} (h : RMd w bm va la ra vc lc rc vars L R) (hg : w.grownBy w' none) : RMd w' bm va la ra vc lc rc vars L R :=
 have k : ∀ {x u},w.cell? x = some u → w'.cell? x = some u := fun e => hg.cell e (by simp)
 ⟨k h.m1,k h.m2,k h.m3,fun j x hx => by obtain ⟨g,e,h1,h2,h3⟩ := h.v j x hx;exact ⟨g,e,k h1,k h2,k h3⟩,h.l.grown hg,fun j x hx => by obtain ⟨g,a,c,e,h1⟩ := h.r j x hx;exact ⟨g,a,c,e,h1.grown hg⟩⟩
def inQ (v : PVar) (x : Int) : Bool := decide (v.low ≤ x) && decide (x ≤ v.high)
def asgQ : List PVar → List Int → Bool
 | [],[] => true
 | v :: vs,x :: xs => inQ v x && asgQ vs xs
 | _,_ => false
def suitsQ (vars : List PVar) (L : List PLst) (R : List PRul) (vals : List Int) : Bool := asgQ vars vals && R.all fun r => conP vals (ruleC (L.map PLst.bare) r.bare)
theorem asgQ_ne : ∀ {vars : List PVar} {vals : List Int},vals.length ≠ vars.length → asgQ vars vals = false
 | [],[],h => absurd rfl h
 | v :: vs,x :: xs,h => by simp only [asgQ];rw [asgQ_ne (by simp at h;omega)];simp
 | [],_ :: _,_ => rfl
 | _ :: _,[],_ => rfl
theorem asgQ_at : ∀ {vars : List PVar} {vals : List Int},vals.length = vars.length → (asgQ vars vals = true ↔ ∀ (i : Nat) v x,vars[i]? = some v → vals[i]? = some x → inQ v x = true)
 | [],[],_ => by simp [asgQ]
 | v :: vs,x :: xs,h => by
  simp only [asgQ,Bool.and_eq_true]
  rw [asgQ_at (by simp at h;omega)]
  constructor
  ·rintro ⟨h1,h2⟩ i v' x' hv hx
   cases i with
   | zero => simp at hv hx;subst hv hx;exact h1
   | succ i => exact h2 i v' x' (by simpa using hv) (by simpa using hx)
  ·intro h
   exact ⟨h 0 v x rfl rfl,fun i v' x' hv hx => h (i + 1) v' x' (by simpa using hv) (by simpa using hx)⟩
 | [],_ :: _,h => by simp at h
 | _ :: _,[],h => by simp at h
structure SuFit (vars : List PVar) (L : List PLst) (R : List PRul) : Prop where
 vl : vars.length ≤ 8
 vb : ∀ v ∈ vars,-1000 ≤ v.low ∧ v.high ≤ 1000
 ln : L.length ≤ 4000
 lb : ∀ l ∈ L,l.nums.length ≤ 20
 rn : R.length ≤ 16
 ok : ∀ r ∈ R,RulOk (L.map PLst.bare) r.bare ∧ (∀ vals,asgQ vars vals = true → RulFit vals.length vals r) ∧ 0 < vars.length
theorem ref_Suits {bm vc lc rc : Nat} {va la ra : Option Addr} {vars : List PVar} {L : List PLst} {R : List PRul} {vals : List Int} {a : Option Addr} {cv : Nat} (h : RMd w bm va la ra vc lc rc vars L R) (hf : SuFit vars L R) (hV : vals = [] ∨ ∃ g o,a = some ⟨g,o,none⟩ ∧ VOf w g o vals) : Calls Tryz.prog 57 #[.pointer (some ⟨bm,0,none⟩),.slice a vals.length cv] w fun e w' => e = .returned (.bool (suitsQ vars L R vals)) ∧ w.grownBy w' none := by
 obtain ⟨RES,hRES⟩ : ∃ R',R' = suitsQ vars L R vals := ⟨_,rfl⟩
 rw [← hRES]
 have HR := hide hRES
 have HH := hide h
 have HF := hide hf
 have m1 := h.m1
 have hvl := hf.vl
 have hrn := hf.rn
 clear hRES h hf
 by_cases hlen : vals.length = vars.length
 ·have hV2 : ∀ x,vals[0]? = some x → ∃ g o,a = some ⟨g,o,none⟩ ∧ VOf w g o vals := fun x hx => by
   rcases hV with e | e
   ·rw [e] at hx;simp at hx
   ·exact e
  have HV := hide hV2
  clear hV hV2
  have hne : (((vals.length : Nat) : Int) != vars.length) = false := by simp [hlen]
  have HLEN := hide hlen
  have hv8 : vals.length ≤ 8 := by omega
  clear hlen
  go_enter Tryz.func57,Tryz.ntmps57
  go_wp2
  go_loopw [5] (fun vi wr => ∃ i : Nat,i ≤ vals.length ∧ vi = .int .i64 i ∧ (∀ (j : Nat) v x,j < i → vars[j]? = some v → vals[j]? = some x → inQ v x = true) ∧ w.grownBy wr none) (fun vi _ => vals.length - (intOf vi).toNat)
  case atStart => exact ⟨0,Nat.zero_le _,rfl,fun j _ _ h => absurd h (by omega),grown_refl _ _⟩
  case round =>
   clear m1
   obtain ⟨i,hi,rfl,hall,hgr⟩ := hrel
   have hM := HH.out.grown hgr
   have HGR := hide hgr
   have m1 := hM.m1
   have m3 := hM.m3
   by_cases hlt : i < vals.length
   ·obtain ⟨x,hx⟩ : ∃ x,vals[i]? = some x := ⟨vals[i],by simp [hlt]⟩
    obtain ⟨v,hv⟩ : ∃ v,vars[i]? = some v := ⟨vars[i]'(by have := HLEN.out;omega),List.getElem?_eq_getElem (by have := HLEN.out;omega)⟩
    obtain ⟨g,o,rfl,hVV⟩ := HV.out (vals[0]'(by omega)) (List.getElem?_eq_getElem (by omega))
    have k1 : wr.cell? ⟨g,o + i,none⟩ = some (.int .i64 x) := by
     have q := hVV.grown hgr (i : Int) ⟨by omega,by omega⟩
     have e : vAt vals (i : Int) = x := by simp [vAt,List.getD_eq_getElem?_getD,hx]
     rw [e] at q;exact q
    obtain ⟨gV,rfl,c1,c2,c3⟩ := hM.v i v hv
    have hlt3 : (i : Int) < vals.length := by omega
    have hlt4 : (i : Int) < vars.length := by have := HLEN.out;omega
    have h03 : (0 : Int) ≤ i := by omega
    have HALL := hide hall
    have hHV := hide (And.intro hv hx)
    by_cases d1 : x < v.low
    ·have HX : Hid (RES = false) := by
      rw [Hid,HR.out];unfold suitsQ
      have : asgQ vars vals = false := by
       cases q : asgQ vars vals with
       | false => rfl
       | true => have := (asgQ_at HLEN.out).1 q i v x hv hx;simp [inQ] at this;omega
      rw [this];rfl
     have d1' : decide (x < v.low) = true := by simpa using d1
     clear hgr hM hall hv hx m3 d1 hVV
     go_wp2
     go_quiet (fail)
     go_wp2
     go_ret
     exact ⟨by rw [HX.out];rfl,HGR.out.trans (grown_drewN' _ _ _)⟩
    ·have d1' : decide (x < v.low) = false := by simpa using d1
     by_cases d2 : v.high < x
     ·have HX : Hid (RES = false) := by
       rw [Hid,HR.out];unfold suitsQ
       have : asgQ vars vals = false := by
        cases q : asgQ vars vals with
        | false => rfl
        | true => have := (asgQ_at HLEN.out).1 q i v x hv hx;simp [inQ] at this;omega
       rw [this];rfl
      have d2' : decide (v.high < x) = true := by simpa using d2
      clear hgr hM hall hv hx m3 d1 d2 hVV
      go_wp2
      go_quiet (fail)
      go_wp2
      go_ret
      exact ⟨by rw [HX.out];rfl,HGR.out.trans (grown_drewN' _ _ _)⟩
     ·have d2' : decide (v.high < x) = false := by simpa using d2
      have HI := hide (show inQ v x = true by simp [inQ];omega)
      have HALL2 : Hid (∀ (j : Nat) v x,j < i + 1 → vars[j]? = some v → vals[j]? = some x → inQ v x = true) := fun j v' x' hj hv' hx' => by
       rcases Nat.lt_or_ge j i with q | q
       ·exact HALL.out j v' x' q hv' hx'
       ·obtain rfl : j = i := by omega
        obtain ⟨e1,e2⟩ := hHV.out
        rw [e1] at hv'
        rw [e2] at hx'
        cases hv'
        cases hx'
        exact HI.out
      clear hgr hM hall hv hx m3 d1 d2 hVV
      go_wp2
      go_quiet (fail)
      go_wp2
      go_roundw
      case rel => exact ⟨i + 1,by omega,by go_num,HALL2.out,HGR.out.trans (grown_drewN' _ _ _)⟩
      case measure => simp [intOf] <;> omega
   ·obtain rfl : i = vals.length := by omega
    have hA : asgQ vars vals = true := (asgQ_at HLEN.out).2 (fun j v x hv hx => hall j v x (by have := (List.getElem?_eq_some_iff.1 hx).1;omega) hv hx)
    have HA := hide hA
    have HX : Hid (RES = R.all fun r => conP vals (ruleC (L.map PLst.bare) r.bare)) := by rw [Hid,HR.out];unfold suitsQ;rw [hA];rfl
    have HVB : Hid (∀ x ∈ vals,-1000 ≤ x ∧ x ≤ 1000) := fun x hx => by
     obtain ⟨k,hk,e⟩ := List.getElem_of_mem hx
     have hx' : vals[k]? = some x := by rw [List.getElem?_eq_getElem hk,e]
     obtain ⟨v,hv⟩ : ∃ v,vars[k]? = some v := ⟨vars[k]'(by have := HLEN.out;omega),List.getElem?_eq_getElem (by have := HLEN.out;omega)⟩
     have q := (asgQ_at HLEN.out).1 hA k v x hv hx'
     have := HF.out.vb v (List.mem_of_getElem? hv)
     simp [inQ] at q;omega
    have HS : Hid (∃ j : Nat,j ≤ R.length ∧ (Value.int .i64 0) = .int .i64 j ∧ ((R.take j).all fun r => conP vals (ruleC (L.map PLst.bare) r.bare)) = true ∧ w.grownBy wr none) := ⟨0,Nat.zero_le _,rfl,rfl,hgr⟩
    clear hall hgr hM hA
    go_wp2
    go_loopw [6] (fun vi wr => ∃ j : Nat,j ≤ R.length ∧ vi = .int .i64 j ∧ ((R.take j).all fun r => conP vals (ruleC (L.map PLst.bare) r.bare)) = true ∧ w.grownBy wr none) (fun vi _ => R.length - (intOf vi).toNat)
    case atStart => exact HS.out
    case round =>
     clear HS m1 m3 HGR
     obtain ⟨j,hj,rfl,hal,hgr⟩ := hrel
     have hM := HH.out.grown hgr
     have m3 := hM.m3
     have HGR := hide hgr
     have HAL := hide hal
     by_cases hlt : j < R.length
     ·obtain ⟨r,hr⟩ : ∃ r,R[j]? = some r := ⟨R[j],by simp [hlt]⟩
      obtain ⟨o1,o2,o3⟩ := HF.out.ok r (List.mem_of_getElem? hr)
      obtain ⟨g,o,rfl,hVV⟩ := HV.out (vals[0]'(by have := HLEN.out;omega)) (List.getElem?_eq_getElem (by have := HLEN.out;omega))
      obtain ⟨gr,ra',rc',rfl,hRI⟩ := hM.r j r hr
      have KS := Kept.mk (ref_suit (cv := cv) (b := gr) (bm := bm) ⟨hRI,hM.m2,hM.l,hVV.grown hgr,o2 vals HA.out,o1,HVB.out,by omega,HF.out.lb,HF.out.ln⟩)
      have hlt3 : (j : Int) < R.length := by omega
      have h03 : (0 : Int) ≤ j := by omega
      have HT := hide (show ((R.take (j + 1)).all fun r => conP vals (ruleC (L.map PLst.bare) r.bare)) = (((R.take j).all fun r => conP vals (ruleC (L.map PLst.bare) r.bare)) && conP vals (ruleC (L.map PLst.bare) r.bare)) by rw [List.take_add_one,hr,List.all_append];simp)
      have HRM := hide (List.mem_of_getElem? hr)
      unfold SuitsR at KS
      obtain ⟨B,hB⟩ : ∃ B,conP vals (ruleC (L.map PLst.bare) r.bare) = B := ⟨_,rfl⟩
      rw [hB] at KS
      have HB := hide hB
      clear hal hgr hM hr o1 o2 o3 hVV hRI hB
      cases B with
      | true =>
       go_wp2_with (go_at_call 105;refine KS.get.mono ?_;rintro e w1 ⟨rfl,hg1⟩)
       go_roundw
       case rel => exact ⟨j + 1,by omega,by go_num,by rw [HT.out,HAL.out,HB.out];rfl,HGR.out.trans hg1⟩
       case measure => simp [intOf] <;> omega
      | false =>
       go_wp2_with (go_at_call 105;refine KS.get.mono ?_;rintro e w1 ⟨rfl,hg1⟩)
       go_ret
       refine ⟨?_,HGR.out.trans hg1⟩
       have e : RES = false := by
        rw [HX.out,List.all_eq_false]
        exact ⟨r,HRM.out,by rw [HB.out];simp⟩
       rw [e];rfl
     ·obtain rfl : j = R.length := by omega
      have e : Hid (RES = true) := by
       have q := HAL.out
       rw [List.take_of_length_le (Nat.le_refl _)] at q
       rw [Hid,HX.out,q]
      clear hal hgr hM
      go_wp2
      go_ret
      exact ⟨by rw [e.out];rfl,HGR.out⟩
 ·have hne : (((vals.length : Nat) : Int) != vars.length) = true := by simp;omega
  have HX : Hid (RES = false) := by rw [Hid,HR.out];unfold suitsQ;rw [asgQ_ne hlen];rfl
  clear hV
  go_enter Tryz.func57,Tryz.ntmps57
  go_wp2
  go_ret
  exact ⟨by rw [HX.out];rfl,grown_refl _ _⟩
end
section
set_option maxHeartbeats 2000000
set_option maxRecDepth 100000
def zB (c : Int) : Bool := c == 45 || c == 48
def zU (c : UInt8) : Bool := c == 45 || c == 48
theorem zU_at {s : ByteArray} {i : Nat} (h : i < s.size) : zU (s[i]) = zB (bAt s i) := by
 rw [bAt_in h]
 unfold zU zB
 have e : ∀ k : UInt8,(s[i] == k) = ((s[i].toNat : Int) == (k.toNat : Int)) := fun k => by
  rw [Bool.eq_iff_iff,beq_iff_eq,beq_iff_eq,← UInt8.toNat_inj];omega
 rw [e 45,e 48];rfl
theorem dec_snoc {n d : Nat} (hn : n ≠ 0) (hd : d < 10) : Lib.decDigits (10 * n + d) = Lib.decDigits n ++ [UInt8.ofNat (48 + d)] := by
 rw [Lib.decDigits,dif_neg (by omega),show (10 * n + d) / 10 = n by omega,show (10 * n + d) % 10 = d by omega]
theorem dec_nil (n : Nat) : (Lib.decDigits n).isEmpty = false := by
 rw [Lib.decDigits];split <;> simp
theorem numTo_left (s : ByteArray) (h : IsInt1 s) : ∀ i,i ≤ s.size → 0 ≤ numTo s i ∧ (s.data.toList.take i).dropWhile zU = if numTo s i = 0 then [] else Lib.decDigits (numTo s i).toNat := by
 have hl : s.data.toList.length = s.size := by rw [Array.length_toList];rfl
 intro i
 induction i with
 | zero => intro _;simp [numTo]
 | succ i ih =>
  intro hi
  obtain ⟨p1,p2⟩ := ih (by omega)
  have hz := zU_at (s := s) (i := i) (by omega)
  have hb := bAt_in (s := s) (i := i) (by omega)
  have e0 : s.data.toList[i]? = some s[i] := by rw [List.getElem?_eq_getElem (by omega)];rfl
  rw [List.take_add_one,e0,List.dropWhile_append,p2]
  simp only [Option.toList]
  by_cases c45 : bAt s i = 45
  ·have i0 : i = 0 := by
    cases i with
    | zero => rfl
    | succ i =>
     have := h.2.2 (i + 1) (by omega) (by omega)
     rw [c45] at this;cases this
   subst i0
   have z1 : zU s[0] = true := by rw [hz,c45];rfl
   have en : numTo s (0 + 1) = 0 := by simp [numTo,c45]
   rw [en]
   simp [numTo,z1]
  ·have hd : isDigI (bAt s i) = true := by
    cases i with
    | zero => exact h.1.elim id (fun q => absurd q.1 c45)
    | succ i => exact h.2.2 (i + 1) (by omega) (by omega)
   simp only [isDigI,Bool.and_eq_true,decide_eq_true_eq] at hd
   have en : numTo s (i + 1) = 10 * numTo s i + (bAt s i - 48) := by simp only [numTo];rw [if_neg c45]
   rw [en]
   refine ⟨by omega,?_⟩
   by_cases c0 : numTo s i = 0
   ·rw [if_pos c0,c0]
    simp only [List.isEmpty_nil,if_true]
    by_cases c48 : bAt s i = 48
    ·have z1 : zU s[i] = true := by rw [hz,c48];rfl
     simp [c48,z1]
    ·have z1 : zU s[i] = false := by rw [hz];simp [zB,c45,c48]
     rw [if_neg (by omega)]
     simp only [List.dropWhile_cons,z1,Bool.false_eq_true,if_false]
     rw [Lib.decDigits_one (by omega)]
     congr 1
     apply UInt8.toNat_inj.1
     rw [UInt8.toNat_ofNat_of_lt' (by show _ < 256;omega)]
     omega
   ·have hne : ¬ (10 * numTo s i + (bAt s i - 48) = 0) := by omega
    rw [if_neg c0,if_neg hne,dec_nil]
    simp only [Bool.false_eq_true,if_false]
    have e1 : (10 * numTo s i + (bAt s i - 48)).toNat = 10 * (numTo s i).toNat + (bAt s i - 48).toNat := by omega
    rw [e1,dec_snoc (by omega) (by omega)]
    congr 2
    apply UInt8.toNat_inj.1
    rw [UInt8.toNat_ofNat_of_lt' (by show _ < 256;omega)]
    omega
theorem drop_left (s : ByteArray) : ∀ i,i < s.size → (∀ j,j < i → zB (bAt s j) = true) → zB (bAt s i) = false → s.data.toList.dropWhile zU = s.data.toList.drop i := by
 have hl : s.data.toList.length = s.size := by rw [Array.length_toList];rfl
 intro i hi hj hn
 have key : ∀ k,k ≤ i → s.data.toList.dropWhile zU = (s.data.toList.drop k).dropWhile zU := by
  intro k
  induction k with
  | zero => intro _;rfl
  | succ k ih =>
   intro hk
   rw [ih (by omega),List.drop_eq_getElem_cons (by omega)]
   have e0 : s.data.toList[k] = s[k] := rfl
   rw [e0,List.dropWhile_cons,if_pos (by rw [zU_at (by omega)];exact hj k (by omega))]
 rw [key i (Nat.le_refl _),List.drop_eq_getElem_cons (by omega)]
 have e0 : s.data.toList[i] = s[i] := rfl
 rw [e0,List.dropWhile_cons,zU_at hi,hn];rfl
theorem num_left (s : ByteArray) (h : IsInt1 s) : 0 ≤ numTo s s.size ∧ s.data.toList.dropWhile zU = if numTo s s.size = 0 then [] else Lib.decDigits (numTo s s.size).toNat := by
 have hl : s.data.toList.length = s.size := by rw [Array.length_toList];rfl
 have q := numTo_left s h s.size (Nat.le_refl _)
 rwa [List.take_of_length_le (by omega)] at q
theorem bs_ext (s : ByteArray) (i : Nat) : s.extract i s.size = ⟨(s.data.toList.drop i).toArray⟩ := by
 have e := Lib.extract_data s i s.size
 have hl : s.data.toList.length = s.size := by rw [Array.length_toList];rfl
 rw [List.take_of_length_le (by rw [List.length_drop];omega)] at e
 have : (s.extract i s.size) = ⟨(s.extract i s.size).data⟩ := rfl
 rw [this,← Array.toArray_toList (xs := (s.extract i s.size).data),e]
theorem drop_all : ∀ {l : List UInt8},(∀ x ∈ l,zU x = true) → l.dropWhile zU = []
 | [],_ => rfl
 | a :: l,h => by rw [List.dropWhile_cons,if_pos (h a (by simp))];exact drop_all (fun x hx => h x (by simp [hx]))
theorem ba_app (a b : List UInt8) : (⟨a.toArray⟩ : ByteArray) ++ ⟨b.toArray⟩ = ⟨(a ++ b).toArray⟩ := by
 apply ByteArray.ext
 rw [ByteArray.data_append];simp
theorem itoa0 : Lib.itoa 0 = [48] := Lib.decDigits_one (i := 0) (by decide)
def PlI (s : ByteArray) (vi : Value) : Prop := ∃ i : Nat,i ≤ s.size ∧ vi = .int .i64 i ∧ ∀ j,j < i → zB (bAt s j) = true
theorem ref_plain (s : ByteArray) (h : IsInt1 s) (hz : s.size ≤ 10) (w : World) : Calls Tryz.prog 103 #[.string s] w fun e w' => e = .returned (.string ⟨(Lib.itoa (intVal s)).toArray⟩) ∧ w' = w := by
 have hI : IsInt s := ⟨h.2.1,hz,fun i hi => by
  cases i with
  | zero => exact h.1.imp id (·.1)
  | succ i => exact .inl (h.2.2 (i + 1) (by omega) hi)⟩
 have KN := Kept.mk (fun W => ref_number s hI W)
 obtain ⟨p1,p2⟩ := num_left s h
 obtain ⟨n,hn⟩ : ∃ n,intVal s = n := ⟨_,rfl⟩
 have hn' := hn
 unfold intVal at hn'
 have HE : Hid (n ≠ 0 → ∀ i : Nat,i < s.size → (∀ j,j < i → zB (bAt s j) = true) → zB (bAt s i) = false → Lib.itoa n = (if n < 0 then [45] else []) ++ s.data.toList.drop i) := fun hn0 i hi h1 h2 => by
  have hne : numTo s s.size ≠ 0 := by intro q;rw [q] at hn';simp at hn';omega
  rw [← drop_left s i hi h1 h2,p2,if_neg hne]
  unfold Lib.itoa
  by_cases c : bAt s 0 = 45
  ·rw [if_pos c] at hn'
   have c1 : n < 0 := by omega
   simp only [c1,if_true]
   rw [show n.natAbs = (numTo s s.size).toNat by omega];rfl
  ·rw [if_neg c] at hn'
   have c1 : ¬ n < 0 := by omega
   simp only [c1,if_false]
   rw [show n.toNat = (numTo s s.size).toNat by omega];rfl
 have HX : Hid (n ≠ 0 → ∃ i,i < s.size ∧ zB (bAt s i) = false) := fun hn0 => by
  by_cases c : ∃ i,i < s.size ∧ zB (bAt s i) = false
  ·exact c
  ·exfalso
   have all : ∀ x ∈ s.data.toList,zU x = true := fun x hx => by
    obtain ⟨i,hi,he⟩ := List.getElem_of_mem hx
    have hi' : i < s.size := by rw [Array.length_toList] at hi;exact hi
    have e0 : s.data.toList[i] = s[i] := rfl
    rw [← he,e0,zU_at hi']
    cases q : zB (bAt s i) with
    | true => rfl
    | false => exact absurd ⟨i,hi',q⟩ c
   have hne : numTo s s.size ≠ 0 := by intro q;rw [q] at hn';simp at hn';omega
   rw [if_neg hne] at p2
   have e1 : s.data.toList.dropWhile zU = [] := drop_all all
   rw [e1] at p2
   have := dec_nil (numTo s s.size).toNat
   rw [← p2] at this;cases this
 rw [hn] at KN ⊢
 clear h hI p1 p2 hn hn'
 by_cases h0 : n = 0
 ·subst h0
  go_enter Tryz.func103,Tryz.ntmps103
  go_wp2_with (go_at_call 99;refine (KN.get _).mono ?_;rintro e w1 ⟨rfl,rfl⟩)
  go_ret
  exact ⟨by rw [itoa0];rfl,rfl⟩
 ·have h0' : (n == 0) = false := by simpa using h0
  have HE' := hide (HE.out h0)
  obtain ⟨K,hK,hKz⟩ := HX.out h0
  have HKz := hide hKz
  clear HE HX hKz
  by_cases hneg : n < 0
  ·simp only [hneg,if_true] at HE'
   clear h0
   go_enter Tryz.func103,Tryz.ntmps103
   go_wp2_with (go_at_call 99;refine (KN.get _).mono ?_;rintro e w1 ⟨rfl,rfl⟩)
   go_loop [5] (fun vi => PlI s vi) (fun vi => s.size - (intOf vi).toNat)
   case atStart => exact ⟨0,by omega,rfl,fun j hj => by omega⟩
   case round =>
    obtain ⟨i,hi,rfl,hj⟩ := hrel
    have hlt : i < s.size := by
     rcases Nat.lt_or_ge K i with q | q
     ·have := hj K q;rw [HKz.out] at this;cases this
     ·omega
    have hbin := bAt_in hlt
    by_cases c45 : bAt s i = 45
    ·have e45 : ((s[i].toNat : Int) == 45) = true := by rw [← hbin,c45];rfl
     have HJ : Hid (∀ j,j < i + 1 → zB (bAt s j) = true) := fun j hj' => by
      rcases Nat.lt_or_ge j i with q | q
      ·exact hj j q
      ·obtain rfl : j = i := by omega
       rw [c45];rfl
     clear hbin c45 hj
     go_wp2
     go_round
     case rel => exact ⟨i + 1,by omega,by go_num,HJ.out⟩
     case measure => simp [intOf];omega
    ·have e45 : ((s[i].toNat : Int) == 45) = false := by rw [← hbin];simpa using c45
     by_cases c48 : bAt s i = 48
     ·have e48 : ((s[i].toNat : Int) == 48) = true := by rw [← hbin,c48];rfl
      have HJ : Hid (∀ j,j < i + 1 → zB (bAt s j) = true) := fun j hj' => by
       rcases Nat.lt_or_ge j i with q | q
       ·exact hj j q
       ·obtain rfl : j = i := by omega
        rw [c48];rfl
      clear hbin c45 c48 hj
      go_wp2
      go_round
      case rel => exact ⟨i + 1,by omega,by go_num,HJ.out⟩
      case measure => simp [intOf];omega
     ·have e48 : ((s[i].toNat : Int) == 48) = false := by rw [← hbin];simpa using c48
      have HR := hide (HE'.out i hlt hj (by simp [zB,c45,c48]))
      have HB := hide (bs_ext s i)
      clear hbin c45 c48 hj HE'
      go_wp2
      go_ret
      refine ⟨?_,rfl⟩
      rw [HR.out]
      refine congrArg (fun x => Ending.returned (.string x)) ?_
      show (⟨([45] : List UInt8).toArray⟩ : ByteArray) ++ s.extract i s.size = _
      rw [HB.out,ba_app]
  ·simp only [hneg,if_false] at HE'
   clear h0
   go_enter Tryz.func103,Tryz.ntmps103
   go_wp2_with (go_at_call 99;refine (KN.get _).mono ?_;rintro e w1 ⟨rfl,rfl⟩)
   go_loop [5] (fun vi => PlI s vi) (fun vi => s.size - (intOf vi).toNat)
   case atStart => exact ⟨0,by omega,rfl,fun j hj => by omega⟩
   case round =>
    obtain ⟨i,hi,rfl,hj⟩ := hrel
    have hlt : i < s.size := by
     rcases Nat.lt_or_ge K i with q | q
     ·have := hj K q;rw [HKz.out] at this;cases this
     ·omega
    have hbin := bAt_in hlt
    by_cases c45 : bAt s i = 45
    ·have e45 : ((s[i].toNat : Int) == 45) = true := by rw [← hbin,c45];rfl
     have HJ : Hid (∀ j,j < i + 1 → zB (bAt s j) = true) := fun j hj' => by
      rcases Nat.lt_or_ge j i with q | q
      ·exact hj j q
      ·obtain rfl : j = i := by omega
       rw [c45];rfl
     clear hbin c45 hj
     go_wp2
     go_round
     case rel => exact ⟨i + 1,by omega,by go_num,HJ.out⟩
     case measure => simp [intOf];omega
    ·have e45 : ((s[i].toNat : Int) == 45) = false := by rw [← hbin];simpa using c45
     by_cases c48 : bAt s i = 48
     ·have e48 : ((s[i].toNat : Int) == 48) = true := by rw [← hbin,c48];rfl
      have HJ : Hid (∀ j,j < i + 1 → zB (bAt s j) = true) := fun j hj' => by
       rcases Nat.lt_or_ge j i with q | q
       ·exact hj j q
       ·obtain rfl : j = i := by omega
        rw [c48];rfl
      clear hbin c45 c48 hj
      go_wp2
      go_round
      case rel => exact ⟨i + 1,by omega,by go_num,HJ.out⟩
      case measure => simp [intOf];omega
     ·have e48 : ((s[i].toNat : Int) == 48) = false := by rw [← hbin];simpa using c48
      have HR := hide (HE'.out i hlt hj (by simp [zB,c45,c48]))
      have HB := hide (bs_ext s i)
      clear hbin c45 c48 hj HE'
      go_wp2
      go_ret
      refine ⟨?_,rfl⟩
      rw [HR.out]
      refine congrArg (fun x => Ending.returned (.string x)) ?_
      show (⟨([] : List UInt8).toArray⟩ : ByteArray) ++ s.extract i s.size = _
      rw [HB.out,ba_app]
end
section
set_option maxHeartbeats 4000000
set_option maxRecDepth 100000
structure TxOk (t : PTok) : Prop where
 n1 : srt t ≠ 1
 len : (spell t).length ≤ 2000
 int : t.kind = 105 ↔ srt t = 3
 one : t.kind = 105 → IsInt1 t.s ∧ t.s.size ≤ 10
 b : ∀ k l,(k,l) ∈ [((11 : Int),([59] : List UInt8)),(13,[44]),(12,[58]),(19,[93]),(18,[91]),(17,[46,46]),(22,[33]),(21,[42])] → (t.s.toList = l ↔ srt t = k)
def TkA (w : World) (bm : Nat) (a : Option Addr) (cap : Nat) (T : List PTok) : Prop := w.cell? ⟨bm,0,none⟩ = some (.slice a T.length cap) ∧ ∀ i t,T[i]? = some t → ∃ gt,a = some ⟨gt,0,none⟩ ∧ w.cell? ⟨gt,i * 3,none⟩ = some (.string t.s) ∧ w.cell? ⟨gt,i * 3 + 1,none⟩ = some (.int .u8 t.kind) ∧ w.cell? ⟨gt,i * 3 + 2,none⟩ = some (.int .i64 t.line)
def glu (bf : Int) : Bool := bf == 18 || bf == 22 || bf == 17
def TxR (P : List PTok) (RES : List UInt8) (n : Nat) (w : World) (vo vf vg vi : Value) (wr : World) : Prop := ∃ (i fu : Nat) (out : List UInt8) (bf : Int) (f g : Bool),i ≤ n ∧ out.length ≤ 3000 * i ∧ vo = .string ⟨out.toArray⟩ ∧ vf = .bool f ∧ vg = .bool g ∧ f = (bf == 11) ∧ g = glu bf ∧ vi = .int .i64 i ∧ w.grownBy wr none ∧ n - i < fu ∧ plainF P fu i bf out = RES
theorem ba_self (s : ByteArray) : (⟨s.data.toList.toArray⟩ : ByteArray) = s := by rw [Array.toArray_toList]
theorem TxR.next {P : List PTok} {RES out : List UInt8} {n i fu : Nat} {bf : Int} {w wr : World} {t : PTok} {X : ByteArray} {f g : Bool} (hL : (spell t).length ≤ 2000) (hO : out.length ≤ 3000 * i) (hlt : i < n) (hP : tkN P i = t) (h1 : srt t ≠ 1) (h2 : needless t (tkN P (i + 1)) = false) (hf : n - i < fu) (hR : plainF P fu i bf out = RES) (hg : w.grownBy wr none) (hX : X = ⟨(out ++ (if jBehind bf || jAhead (srt t) then [] else [32]) ++ spell t ++ (if srt t = 11 then [10] else [])).toArray⟩) (hf1 : f = (srt t == 11)) (hg1 : g = glu (srt t)) : TxR P RES n w (.string X) (.bool f) (.bool g) (.int .i64 ((i : Int) + 1)) wr := by
 obtain ⟨fu,rfl⟩ : ∃ k,fu = k + 1 := ⟨fu - 1,by omega⟩
 rw [plainF_step (by rw [hP];exact h1) (by rw [hP];exact h2),hP] at hR
 refine ⟨i + 1,fu,_,_,f,g,by omega,?_,by rw [hX],rfl,rfl,hf1,hg1,by simp,hg,by omega,hR⟩
 simp only [List.length_append]
 have e1 : (if (jBehind bf || jAhead (srt t)) = true then [] else ([32] : List UInt8)).length ≤ 1 := by split <;> simp
 have e2 : (if srt t = 11 then ([10] : List UInt8) else []).length ≤ 1 := by split <;> simp
 omega
theorem TxR.skip {P : List PTok} {RES out : List UInt8} {n i fu : Nat} {bf : Int} {w wr : World} {t : PTok} {f g : Bool} (hO : out.length ≤ 3000 * i) (hf1 : f = (bf == 11)) (hg1 : g = glu bf) (hlt : i + 1 < n) (hP : tkN P i = t) (h1 : srt t ≠ 1) (h2 : needless t (tkN P (i + 1)) = true) (hf : n - i < fu) (hR : plainF P fu i bf out = RES) (hg : w.grownBy wr none) : TxR P RES n w (.string ⟨out.toArray⟩) (.bool f) (.bool g) (.int .i64 ((i : Int) + 1 + 1)) wr := by
 obtain ⟨fu,rfl⟩ : ∃ k,fu = k + 1 := ⟨fu - 1,by omega⟩
 rw [plainF_skip (by rw [hP];exact h1) (by rw [hP];exact h2)] at hR
 exact ⟨i + 2,fu,out,bf,f,g,by omega,by omega,rfl,rfl,rfl,hf1,hg1,by simp;omega,hg,by omega,hR⟩
theorem dec_digs (u : Nat) : ∀ c ∈ Lib.decDigits u,48 ≤ c.toNat ∧ c.toNat ≤ 57 := by
 induction u using Nat.strongRecOn with
 | _ u ih =>
  intro c hc
  rw [Lib.decDigits] at hc
  have key : ∀ d,d < 10 → c = UInt8.ofNat (48 + d) → 48 ≤ c.toNat ∧ c.toNat ≤ 57 := fun d hd e => by
   subst e
   rw [UInt8.toNat_ofNat_of_lt' (by show _ < 256;omega)];omega
  split at hc
  ·simp only [List.mem_cons,List.not_mem_nil,or_false] at hc
   exact key u (by omega) hc
  ·rcases List.mem_append.1 hc with q | q
   ·exact ih (u / 10) (by omega) c q
   ·simp only [List.mem_cons,List.not_mem_nil,or_false] at q
    exact key (u % 10) (by omega) q
theorem itoa_chars (n : Int) : ∀ c ∈ Lib.itoa n,c.toNat = 45 ∨ (48 ≤ c.toNat ∧ c.toNat ≤ 57) := by
 intro c hc
 unfold Lib.itoa at hc
 split at hc
 ·rcases List.mem_cons.1 hc with q | q
  ·left;rw [q];rfl
  ·exact .inr (dec_digs _ c q)
 ·exact .inr (dec_digs _ c hc)
theorem itoa_no (n : Int) (c : UInt8) (l : List UInt8) (h : c.toNat ≠ 45 ∧ (c.toNat < 48 ∨ 57 < c.toNat)) : ¬ Lib.itoa n = c :: l := fun e => by
 have := itoa_chars n c (by rw [e];simp)
 omega
theorem itoa_one (n : Int) : Lib.itoa n = [49] ↔ n = 1 := by
 constructor
 ·intro e
  unfold Lib.itoa at e
  split at e
  ·injection e with e1 _;cases e1
  ·rw [Lib.decDigits] at e
   split at e
   ·rename_i h
    injection e with e1 _
    have := congrArg UInt8.toNat e1
    rw [UInt8.toNat_ofNat_of_lt' (by show _ < 256;omega)] at this
    have h49 : (49 : UInt8).toNat = 49 := rfl
    omega
   ·have := congrArg List.length e
    have hd := dec_nil (n.toNat / 10)
    cases hq : Lib.decDigits (n.toNat / 10) with
    | nil => rw [hq] at hd;cases hd
    | cons a l => rw [hq] at this;simp at this
 ·rintro rfl;exact Lib.decDigits_one (i := 1) (by decide)
theorem ba_list (l : List UInt8) : (⟨l.toArray⟩ : ByteArray).toList = l := by rw [ByteArray.toList_eq]
theorem jb_is (bf : Int) : jBehind bf = (bf == 11 || glu bf) := by unfold jBehind glu;simp only [Bool.or_comm,Bool.or_left_comm]
theorem ref_Text {w : World} {bm cap : Nat} {a : Option Addr} {T P : List PTok} (h : TkA w bm a cap T) (hn : T.length ≤ 2000) (hlt : bm < w.heap.size) (hP : ∀ i t,T[i]? = some t → tkN P i = t ∧ TxOk t) (hE : srt (tkN P T.length) = 1) : Calls Tryz.prog 55 #[.pointer (some ⟨bm,0,none⟩)] w fun e w' => e = .returned (.string ⟨(plainF P (T.length + 1) 0 11 []).toArray⟩) ∧ w.grownBy w' none := by
 obtain ⟨h0,hc⟩ := h
 obtain ⟨RES,hRES⟩ : ∃ r,plainF P (T.length + 1) 0 11 [] = r := ⟨_,rfl⟩
 rw [hRES]
 have HC := hide hc
 have HPP := hide hP
 have HEE := hide hE
 have HRES := hide hRES
 clear hc hP hE hRES
 go_enter Tryz.func55,Tryz.ntmps55
 go_wp2
 go_loopw [3,4,5,6] (fun vo vf vg vi wr => TxR P RES T.length w vo vf vg vi wr) (fun _ _ _ vi _ => T.length - (intOf vi).toNat)
 case atStart => exact ⟨0,T.length + 1,[],11,true,false,by omega,by simp,rfl,rfl,rfl,rfl,rfl,rfl,grown_refl _ _,by omega,HRES.out⟩
 case round =>
  clear HRES
  obtain ⟨i,fu,out,bf,f,g,hi,hob,rfl,rfl,rfl,hf,hg,rfl,hgr,hfu,hrr⟩ := hrel
  have k0 := hgr.cell h0 (by simp)
  have k0a : ∀ o,(wr.alloc o).cell? ⟨bm,0,none⟩ = some (.slice a T.length cap) := fun o => (World.grownBy_alloc wr o none).cell k0 (by simp)
  have HFG := hide (And.intro hf hg)
  have HGR := hide hgr
  have HFU := hide hfu
  have HRR := hide hrr
  clear hf hg hfu hrr
  by_cases hlt2 : i < T.length
  ·obtain ⟨t,ht⟩ : ∃ t,T[i]? = some t := ⟨T[i],by simp [hlt2]⟩
   obtain ⟨gt,ha,c1,c2,c3⟩ := HC.out i t ht
   obtain ⟨hPi,hTi⟩ := HPP.out i t ht
   subst ha
   have k1 := hgr.cell c1 (by simp)
   have k2 := hgr.cell c2 (by simp)
   have k3 := hgr.cell c3 (by simp)
   have hlt3 : (i : Int) < T.length := by omega
   have h03 : (0 : Int) ≤ i := by omega
   have HP := hide hPi
   have HT := hide hTi
   by_cases hk : t.kind = 105
   ·have hkb : (t.kind == 105) = true := by simpa using hk
    have hs3 : srt t = 3 := hTi.int.1 hk
    obtain ⟨S,hS⟩ : ∃ S : ByteArray,S = ⟨(Lib.itoa (intVal t.s)).toArray⟩ := ⟨_,rfl⟩
    have KP := Kept.mk (fun W => ref_plain t.s (hTi.one hk).1 (hTi.one hk).2 W)
    rw [← hS] at KP
    have ev : tval t = intVal t.s := by unfold tval;rw [if_pos hk]
    have HSP := hide (show S = ⟨(spell t).toArray⟩ by rw [hS];unfold spell;rw [if_pos hs3,ev])
    have hSz : S.size ≤ 2000 := by have := hTi.len;rw [HSP.out];exact this
    have eS : S.toList = Lib.itoa (intVal t.s) := by rw [hS,ba_list]
    have b1 : (S.toList == [59]) = false := by rw [eS,beq_eq_false_iff_ne];exact itoa_no _ _ _ (by decide)
    have b2 : (S.toList == [44]) = false := by rw [eS,beq_eq_false_iff_ne];exact itoa_no _ _ _ (by decide)
    have b3 : (S.toList == [58]) = false := by rw [eS,beq_eq_false_iff_ne];exact itoa_no _ _ _ (by decide)
    have b4 : (S.toList == [93]) = false := by rw [eS,beq_eq_false_iff_ne];exact itoa_no _ _ _ (by decide)
    have b5 : (S.toList == [91]) = false := by rw [eS,beq_eq_false_iff_ne];exact itoa_no _ _ _ (by decide)
    have b6 : (S.toList == [46,46]) = false := by rw [eS,beq_eq_false_iff_ne];exact itoa_no _ _ _ (by decide)
    have b7 : (S.toList == [33]) = false := by rw [eS,beq_eq_false_iff_ne];exact itoa_no _ _ _ (by decide)
    have h11 : ¬ srt t = 11 := by omega
    have h13 : ¬ srt t = 13 := by omega
    have h12 : ¬ srt t = 12 := by omega
    have h19 : ¬ srt t = 19 := by omega
    have h18 : ¬ srt t = 18 := by omega
    have h17 : ¬ srt t = 17 := by omega
    have hc : ¬ srt t = 22 := by omega
    by_cases h1 : intVal t.s = 1
    ·have b0 : S.toList = [49] := by rw [eS];exact (itoa_one _).2 h1
     by_cases hlt4 : i + 1 < T.length
     ·have hlt5 : (i : Int) + 1 < T.length := by omega
      obtain ⟨t',ht'⟩ : ∃ t',T[i + 1]? = some t' := ⟨T[i + 1],by simp [hlt4]⟩
      obtain ⟨gt',ha',d1,_⟩ := HC.out (i + 1) t' ht'
      obtain ⟨hPi',hTi'⟩ := HPP.out (i + 1) t' ht'
      injection ha' with ha'
      injection ha' with ha' _ _
      subst ha'
      have k4 := hgr.cell d1 (by simp)
      have k5 : ∀ o,(wr.alloc o).cell? ⟨gt,(i + 1) * 3,none⟩ = some (.string t'.s) := fun o => (World.grownBy_alloc wr o none).cell k4 (by simp)
      by_cases h21 : srt t' = 21
      ·have b8 : (t'.s.toList == [42]) = true := by rw [beq_iff_eq];exact (hTi'.b 21 [42] (by simp)).2 h21
       have HN := hide (show needless t (tkN P (i + 1)) = true by rw [hPi'];simp [needless,hs3,ev,h1,h21])
       clear hk hgr c1 c2 c3 hPi hTi ht hs3 hS ev eS h11 h13 h12 h19 h18 h17 hc h1 d1 hPi' hTi' ht' h21 b1 b2 b3 b4 b5 b6 b7 h0
       go_wp2_with (go_at_call 103;refine (KP.get _).mono ?_;rintro e w1 ⟨rfl,hw1⟩;subst w1)
       go_roundw
       case rel => exact TxR.skip hob HFG.out.1 HFG.out.2 hlt4 HP.out HT.out.n1 HN.out HFU.out HRR.out (HGR.out.trans (World.grownBy_alloc _ _ _))
       case measure => simp [intOf] <;> omega
      ·have b8 : (t'.s.toList == [42]) = false := by rw [beq_eq_false_iff_ne];exact fun q => h21 ((hTi'.b 21 [42] (by simp)).1 q)
       have HN := hide (show needless t (tkN P (i + 1)) = false by rw [hPi'];simp [needless,h21])
       clear hk hgr c1 c2 c3 hPi hTi ht hs3 hS ev eS h1 d1 hPi' hTi' ht' h21
       have HA := hide (show jAhead (srt t) = false by simp [jAhead,h11,h13,h12,h19,h18,h17])
       have HNL := hide (show (if srt t = 11 then [10] else []) = ([] : List UInt8) by rw [if_neg h11])
       have HF1 := hide (show false = (srt t == 11) by simp [h11])
       have HG1 := hide (show false = glu (srt t) by simp [glu,h18,h17,hc])
       clear h11 h13 h12 h19 h18 h17 hc
       cases f with
       | true =>
        have HJ := hide (show jBehind bf = true by rw [jb_is,← HFG.out.1];rfl)
        clear h0
        go_wp2_with (go_at_call 103;refine (KP.get _).mono ?_;rintro e w1 ⟨rfl,hw1⟩;subst w1)
        go_roundw
        case rel => exact TxR.next HT.out.len hob hlt2 HP.out HT.out.n1 HN.out HFU.out HRR.out (HGR.out.trans (World.grownBy_alloc _ _ _)) (by simp only [HJ.out,HA.out,HNL.out,HSP.out,ba_app,Bool.or_true,Bool.or_false,if_true,Bool.false_eq_true,if_false,List.append_nil,List.append_assoc]) HF1.out HG1.out
        case measure => simp [intOf] <;> omega
       | false =>
        cases g with
        | true =>
         have HJ := hide (show jBehind bf = true by rw [jb_is,← HFG.out.1,← HFG.out.2];rfl)
         clear h0
         go_wp2_with (go_at_call 103;refine (KP.get _).mono ?_;rintro e w1 ⟨rfl,hw1⟩;subst w1)
         go_roundw
         case rel => exact TxR.next HT.out.len hob hlt2 HP.out HT.out.n1 HN.out HFU.out HRR.out (HGR.out.trans (World.grownBy_alloc _ _ _)) (by simp only [HJ.out,HA.out,HNL.out,HSP.out,ba_app,Bool.or_true,Bool.or_false,if_true,Bool.false_eq_true,if_false,List.append_nil,List.append_assoc]) HF1.out HG1.out
         case measure => simp [intOf] <;> omega
        | false =>
         have HJ := hide (show jBehind bf = false by rw [jb_is,← HFG.out.1,← HFG.out.2];rfl)
         clear h0
         go_wp2_with (go_at_call 103;refine (KP.get _).mono ?_;rintro e w1 ⟨rfl,hw1⟩;subst w1)
         go_roundw
         case rel => exact TxR.next HT.out.len hob hlt2 HP.out HT.out.n1 HN.out HFU.out HRR.out (HGR.out.trans (World.grownBy_alloc _ _ _)) (by simp only [HJ.out,HA.out,HNL.out,HSP.out,ba_app,Bool.or_true,Bool.or_false,if_true,Bool.false_eq_true,if_false,List.append_nil,List.append_assoc]) HF1.out HG1.out
         case measure => simp [intOf] <;> omega
     ·have hlt5 : ¬ ((i : Int) + 1 < T.length) := by omega
      have hEn : tkN P (i + 1) = tkN P T.length := by rw [show i + 1 = T.length by omega]
      have HN := hide (show needless t (tkN P (i + 1)) = false by rw [hEn];simp [needless,HEE.out])
      clear hk hgr c1 c2 c3 hPi hTi ht hs3 hS ev eS h1 hEn hlt4
      have HA := hide (show jAhead (srt t) = false by simp [jAhead,h11,h13,h12,h19,h18,h17])
      have HNL := hide (show (if srt t = 11 then [10] else []) = ([] : List UInt8) by rw [if_neg h11])
      have HF1 := hide (show false = (srt t == 11) by simp [h11])
      have HG1 := hide (show false = glu (srt t) by simp [glu,h18,h17,hc])
      clear h11 h13 h12 h19 h18 h17 hc
      cases f with
      | true =>
       have HJ := hide (show jBehind bf = true by rw [jb_is,← HFG.out.1];rfl)
       clear h0
       go_wp2_with (go_at_call 103;refine (KP.get _).mono ?_;rintro e w1 ⟨rfl,hw1⟩;subst w1)
       go_roundw
       case rel => exact TxR.next HT.out.len hob hlt2 HP.out HT.out.n1 HN.out HFU.out HRR.out (HGR.out.trans (World.grownBy_alloc _ _ _)) (by simp only [HJ.out,HA.out,HNL.out,HSP.out,ba_app,Bool.or_true,Bool.or_false,if_true,Bool.false_eq_true,if_false,List.append_nil,List.append_assoc]) HF1.out HG1.out
       case measure => simp [intOf] <;> omega
      | false =>
       cases g with
       | true =>
        have HJ := hide (show jBehind bf = true by rw [jb_is,← HFG.out.1,← HFG.out.2];rfl)
        clear h0
        go_wp2_with (go_at_call 103;refine (KP.get _).mono ?_;rintro e w1 ⟨rfl,hw1⟩;subst w1)
        go_roundw
        case rel => exact TxR.next HT.out.len hob hlt2 HP.out HT.out.n1 HN.out HFU.out HRR.out (HGR.out.trans (World.grownBy_alloc _ _ _)) (by simp only [HJ.out,HA.out,HNL.out,HSP.out,ba_app,Bool.or_true,Bool.or_false,if_true,Bool.false_eq_true,if_false,List.append_nil,List.append_assoc]) HF1.out HG1.out
        case measure => simp [intOf] <;> omega
       | false =>
        have HJ := hide (show jBehind bf = false by rw [jb_is,← HFG.out.1,← HFG.out.2];rfl)
        clear h0
        go_wp2_with (go_at_call 103;refine (KP.get _).mono ?_;rintro e w1 ⟨rfl,hw1⟩;subst w1)
        go_roundw
        case rel => exact TxR.next HT.out.len hob hlt2 HP.out HT.out.n1 HN.out HFU.out HRR.out (HGR.out.trans (World.grownBy_alloc _ _ _)) (by simp only [HJ.out,HA.out,HNL.out,HSP.out,ba_app,Bool.or_true,Bool.or_false,if_true,Bool.false_eq_true,if_false,List.append_nil,List.append_assoc]) HF1.out HG1.out
        case measure => simp [intOf] <;> omega
    ·have b0 : (S.toList == [49]) = false := by rw [eS,beq_eq_false_iff_ne];exact fun q => h1 ((itoa_one _).1 q)
     have HN := hide (show needless t (tkN P (i + 1)) = false by simp [needless,ev,h1])
     clear hk hgr c1 c2 c3 hPi hTi ht hs3 hS ev eS h1
     have HA := hide (show jAhead (srt t) = false by simp [jAhead,h11,h13,h12,h19,h18,h17])
     have HNL := hide (show (if srt t = 11 then [10] else []) = ([] : List UInt8) by rw [if_neg h11])
     have HF1 := hide (show false = (srt t == 11) by simp [h11])
     have HG1 := hide (show false = glu (srt t) by simp [glu,h18,h17,hc])
     clear h11 h13 h12 h19 h18 h17 hc
     cases f with
     | true =>
      have HJ := hide (show jBehind bf = true by rw [jb_is,← HFG.out.1];rfl)
      clear h0
      go_wp2_with (go_at_call 103;refine (KP.get _).mono ?_;rintro e w1 ⟨rfl,hw1⟩;subst w1)
      go_roundw
      case rel => exact TxR.next HT.out.len hob hlt2 HP.out HT.out.n1 HN.out HFU.out HRR.out (HGR.out.trans (World.grownBy_alloc _ _ _)) (by simp only [HJ.out,HA.out,HNL.out,HSP.out,ba_app,Bool.or_true,Bool.or_false,if_true,Bool.false_eq_true,if_false,List.append_nil,List.append_assoc]) HF1.out HG1.out
      case measure => simp [intOf] <;> omega
     | false =>
      cases g with
      | true =>
       have HJ := hide (show jBehind bf = true by rw [jb_is,← HFG.out.1,← HFG.out.2];rfl)
       clear h0
       go_wp2_with (go_at_call 103;refine (KP.get _).mono ?_;rintro e w1 ⟨rfl,hw1⟩;subst w1)
       go_roundw
       case rel => exact TxR.next HT.out.len hob hlt2 HP.out HT.out.n1 HN.out HFU.out HRR.out (HGR.out.trans (World.grownBy_alloc _ _ _)) (by simp only [HJ.out,HA.out,HNL.out,HSP.out,ba_app,Bool.or_true,Bool.or_false,if_true,Bool.false_eq_true,if_false,List.append_nil,List.append_assoc]) HF1.out HG1.out
       case measure => simp [intOf] <;> omega
      | false =>
       have HJ := hide (show jBehind bf = false by rw [jb_is,← HFG.out.1,← HFG.out.2];rfl)
       clear h0
       go_wp2_with (go_at_call 103;refine (KP.get _).mono ?_;rintro e w1 ⟨rfl,hw1⟩;subst w1)
       go_roundw
       case rel => exact TxR.next HT.out.len hob hlt2 HP.out HT.out.n1 HN.out HFU.out HRR.out (HGR.out.trans (World.grownBy_alloc _ _ _)) (by simp only [HJ.out,HA.out,HNL.out,HSP.out,ba_app,Bool.or_true,Bool.or_false,if_true,Bool.false_eq_true,if_false,List.append_nil,List.append_assoc]) HF1.out HG1.out
       case measure => simp [intOf] <;> omega
   ·have hkb : (t.kind == 105) = false := by simpa using hk
    have hs3 : ¬ srt t = 3 := fun q => hk (hTi.int.2 q)
    have HN := hide (show needless t (tkN P (i + 1)) = false by simp [needless,hs3])
    have HSP := hide (show t.s = ⟨(spell t).toArray⟩ by unfold spell;rw [if_neg hs3,ba_self])
    have hSz : t.s.size ≤ 2000 := by have := hTi.len;rw [HSP.out];exact this
    clear hk hgr c1 c2 c3 hPi hTi ht hs3
    by_cases hc : srt t = 11
    ·have hk0 : t.s.toList = [59] := (HT.out.b 11 [59] (by simp)).2 hc
     have HA := hide (show jAhead (srt t) = true by rw [hc];rfl)
     have HNL := hide (show (if srt t = 11 then [10] else []) = ([10] : List UInt8) by rw [hc];rfl)
     have HF1 := hide (show true = (srt t == 11) by rw [hc];rfl)
     have HG1 := hide (show false = glu (srt t) by rw [hc];rfl)
     clear hc
     cases f with
     | true =>
      have HJ := hide (show jBehind bf = true by rw [jb_is,← HFG.out.1];rfl)
      clear h0
      go_wp2
      go_roundw
      case rel => exact TxR.next HT.out.len hob hlt2 HP.out HT.out.n1 HN.out HFU.out HRR.out (HGR.out.trans (World.grownBy_alloc _ _ _)) (by simp only [HJ.out,HA.out,HNL.out,HSP.out,ba_app,Bool.or_true,Bool.or_false,if_true,Bool.false_eq_true,if_false,List.append_nil,List.append_assoc]) HF1.out HG1.out
      case measure => simp [intOf] <;> omega
     | false =>
      cases g with
      | true =>
       have HJ := hide (show jBehind bf = true by rw [jb_is,← HFG.out.1,← HFG.out.2];rfl)
       clear h0
       go_wp2
       go_roundw
       case rel => exact TxR.next HT.out.len hob hlt2 HP.out HT.out.n1 HN.out HFU.out HRR.out (HGR.out.trans (World.grownBy_alloc _ _ _)) (by simp only [HJ.out,HA.out,HNL.out,HSP.out,ba_app,Bool.or_true,Bool.or_false,if_true,Bool.false_eq_true,if_false,List.append_nil,List.append_assoc]) HF1.out HG1.out
       case measure => simp [intOf] <;> omega
      | false =>
       have HJ := hide (show jBehind bf = false by rw [jb_is,← HFG.out.1,← HFG.out.2];rfl)
       clear h0
       go_wp2
       go_roundw
       case rel => exact TxR.next HT.out.len hob hlt2 HP.out HT.out.n1 HN.out HFU.out HRR.out (HGR.out.trans (World.grownBy_alloc _ _ _)) (by simp only [HJ.out,HA.out,HNL.out,HSP.out,ba_app,Bool.or_true,Bool.or_false,if_true,Bool.false_eq_true,if_false,List.append_nil,List.append_assoc]) HF1.out HG1.out
       case measure => simp [intOf] <;> omega
    have b1 : (t.s.toList == [59]) = false := by rw [beq_eq_false_iff_ne];exact fun q => hc ((HT.out.b 11 [59] (by simp)).1 q)
    have h11 := hc
    clear hc
    by_cases hc : srt t = 13
    ·have hk0 : t.s.toList = [44] := (HT.out.b 13 [44] (by simp)).2 hc
     have HA := hide (show jAhead (srt t) = true by rw [hc];rfl)
     have HNL := hide (show (if srt t = 11 then [10] else []) = ([] : List UInt8) by rw [hc];rfl)
     have HF1 := hide (show false = (srt t == 11) by rw [hc];rfl)
     have HG1 := hide (show false = glu (srt t) by rw [hc];rfl)
     clear hc
     cases f with
     | true =>
      have HJ := hide (show jBehind bf = true by rw [jb_is,← HFG.out.1];rfl)
      clear h0
      go_wp2
      go_roundw
      case rel => exact TxR.next HT.out.len hob hlt2 HP.out HT.out.n1 HN.out HFU.out HRR.out (HGR.out.trans (World.grownBy_alloc _ _ _)) (by simp only [HJ.out,HA.out,HNL.out,HSP.out,ba_app,Bool.or_true,Bool.or_false,if_true,Bool.false_eq_true,if_false,List.append_nil,List.append_assoc]) HF1.out HG1.out
      case measure => simp [intOf] <;> omega
     | false =>
      cases g with
      | true =>
       have HJ := hide (show jBehind bf = true by rw [jb_is,← HFG.out.1,← HFG.out.2];rfl)
       clear h0
       go_wp2
       go_roundw
       case rel => exact TxR.next HT.out.len hob hlt2 HP.out HT.out.n1 HN.out HFU.out HRR.out (HGR.out.trans (World.grownBy_alloc _ _ _)) (by simp only [HJ.out,HA.out,HNL.out,HSP.out,ba_app,Bool.or_true,Bool.or_false,if_true,Bool.false_eq_true,if_false,List.append_nil,List.append_assoc]) HF1.out HG1.out
       case measure => simp [intOf] <;> omega
      | false =>
       have HJ := hide (show jBehind bf = false by rw [jb_is,← HFG.out.1,← HFG.out.2];rfl)
       clear h0
       go_wp2
       go_roundw
       case rel => exact TxR.next HT.out.len hob hlt2 HP.out HT.out.n1 HN.out HFU.out HRR.out (HGR.out.trans (World.grownBy_alloc _ _ _)) (by simp only [HJ.out,HA.out,HNL.out,HSP.out,ba_app,Bool.or_true,Bool.or_false,if_true,Bool.false_eq_true,if_false,List.append_nil,List.append_assoc]) HF1.out HG1.out
       case measure => simp [intOf] <;> omega
    have b2 : (t.s.toList == [44]) = false := by rw [beq_eq_false_iff_ne];exact fun q => hc ((HT.out.b 13 [44] (by simp)).1 q)
    have h13 := hc
    clear hc
    by_cases hc : srt t = 12
    ·have hk0 : t.s.toList = [58] := (HT.out.b 12 [58] (by simp)).2 hc
     have HA := hide (show jAhead (srt t) = true by rw [hc];rfl)
     have HNL := hide (show (if srt t = 11 then [10] else []) = ([] : List UInt8) by rw [hc];rfl)
     have HF1 := hide (show false = (srt t == 11) by rw [hc];rfl)
     have HG1 := hide (show false = glu (srt t) by rw [hc];rfl)
     clear hc
     cases f with
     | true =>
      have HJ := hide (show jBehind bf = true by rw [jb_is,← HFG.out.1];rfl)
      clear h0
      go_wp2
      go_roundw
      case rel => exact TxR.next HT.out.len hob hlt2 HP.out HT.out.n1 HN.out HFU.out HRR.out (HGR.out.trans (World.grownBy_alloc _ _ _)) (by simp only [HJ.out,HA.out,HNL.out,HSP.out,ba_app,Bool.or_true,Bool.or_false,if_true,Bool.false_eq_true,if_false,List.append_nil,List.append_assoc]) HF1.out HG1.out
      case measure => simp [intOf] <;> omega
     | false =>
      cases g with
      | true =>
       have HJ := hide (show jBehind bf = true by rw [jb_is,← HFG.out.1,← HFG.out.2];rfl)
       clear h0
       go_wp2
       go_roundw
       case rel => exact TxR.next HT.out.len hob hlt2 HP.out HT.out.n1 HN.out HFU.out HRR.out (HGR.out.trans (World.grownBy_alloc _ _ _)) (by simp only [HJ.out,HA.out,HNL.out,HSP.out,ba_app,Bool.or_true,Bool.or_false,if_true,Bool.false_eq_true,if_false,List.append_nil,List.append_assoc]) HF1.out HG1.out
       case measure => simp [intOf] <;> omega
      | false =>
       have HJ := hide (show jBehind bf = false by rw [jb_is,← HFG.out.1,← HFG.out.2];rfl)
       clear h0
       go_wp2
       go_roundw
       case rel => exact TxR.next HT.out.len hob hlt2 HP.out HT.out.n1 HN.out HFU.out HRR.out (HGR.out.trans (World.grownBy_alloc _ _ _)) (by simp only [HJ.out,HA.out,HNL.out,HSP.out,ba_app,Bool.or_true,Bool.or_false,if_true,Bool.false_eq_true,if_false,List.append_nil,List.append_assoc]) HF1.out HG1.out
       case measure => simp [intOf] <;> omega
    have b3 : (t.s.toList == [58]) = false := by rw [beq_eq_false_iff_ne];exact fun q => hc ((HT.out.b 12 [58] (by simp)).1 q)
    have h12 := hc
    clear hc
    by_cases hc : srt t = 19
    ·have hk0 : t.s.toList = [93] := (HT.out.b 19 [93] (by simp)).2 hc
     have HA := hide (show jAhead (srt t) = true by rw [hc];rfl)
     have HNL := hide (show (if srt t = 11 then [10] else []) = ([] : List UInt8) by rw [hc];rfl)
     have HF1 := hide (show false = (srt t == 11) by rw [hc];rfl)
     have HG1 := hide (show false = glu (srt t) by rw [hc];rfl)
     clear hc
     cases f with
     | true =>
      have HJ := hide (show jBehind bf = true by rw [jb_is,← HFG.out.1];rfl)
      clear h0
      go_wp2
      go_roundw
      case rel => exact TxR.next HT.out.len hob hlt2 HP.out HT.out.n1 HN.out HFU.out HRR.out (HGR.out.trans (World.grownBy_alloc _ _ _)) (by simp only [HJ.out,HA.out,HNL.out,HSP.out,ba_app,Bool.or_true,Bool.or_false,if_true,Bool.false_eq_true,if_false,List.append_nil,List.append_assoc]) HF1.out HG1.out
      case measure => simp [intOf] <;> omega
     | false =>
      cases g with
      | true =>
       have HJ := hide (show jBehind bf = true by rw [jb_is,← HFG.out.1,← HFG.out.2];rfl)
       clear h0
       go_wp2
       go_roundw
       case rel => exact TxR.next HT.out.len hob hlt2 HP.out HT.out.n1 HN.out HFU.out HRR.out (HGR.out.trans (World.grownBy_alloc _ _ _)) (by simp only [HJ.out,HA.out,HNL.out,HSP.out,ba_app,Bool.or_true,Bool.or_false,if_true,Bool.false_eq_true,if_false,List.append_nil,List.append_assoc]) HF1.out HG1.out
       case measure => simp [intOf] <;> omega
      | false =>
       have HJ := hide (show jBehind bf = false by rw [jb_is,← HFG.out.1,← HFG.out.2];rfl)
       clear h0
       go_wp2
       go_roundw
       case rel => exact TxR.next HT.out.len hob hlt2 HP.out HT.out.n1 HN.out HFU.out HRR.out (HGR.out.trans (World.grownBy_alloc _ _ _)) (by simp only [HJ.out,HA.out,HNL.out,HSP.out,ba_app,Bool.or_true,Bool.or_false,if_true,Bool.false_eq_true,if_false,List.append_nil,List.append_assoc]) HF1.out HG1.out
       case measure => simp [intOf] <;> omega
    have b4 : (t.s.toList == [93]) = false := by rw [beq_eq_false_iff_ne];exact fun q => hc ((HT.out.b 19 [93] (by simp)).1 q)
    have h19 := hc
    clear hc
    by_cases hc : srt t = 18
    ·have hk0 : t.s.toList = [91] := (HT.out.b 18 [91] (by simp)).2 hc
     have HA := hide (show jAhead (srt t) = true by rw [hc];rfl)
     have HNL := hide (show (if srt t = 11 then [10] else []) = ([] : List UInt8) by rw [hc];rfl)
     have HF1 := hide (show false = (srt t == 11) by rw [hc];rfl)
     have HG1 := hide (show true = glu (srt t) by rw [hc];rfl)
     clear hc
     cases f with
     | true =>
      have HJ := hide (show jBehind bf = true by rw [jb_is,← HFG.out.1];rfl)
      clear h0
      go_wp2
      go_roundw
      case rel => exact TxR.next HT.out.len hob hlt2 HP.out HT.out.n1 HN.out HFU.out HRR.out (HGR.out.trans (World.grownBy_alloc _ _ _)) (by simp only [HJ.out,HA.out,HNL.out,HSP.out,ba_app,Bool.or_true,Bool.or_false,if_true,Bool.false_eq_true,if_false,List.append_nil,List.append_assoc]) HF1.out HG1.out
      case measure => simp [intOf] <;> omega
     | false =>
      cases g with
      | true =>
       have HJ := hide (show jBehind bf = true by rw [jb_is,← HFG.out.1,← HFG.out.2];rfl)
       clear h0
       go_wp2
       go_roundw
       case rel => exact TxR.next HT.out.len hob hlt2 HP.out HT.out.n1 HN.out HFU.out HRR.out (HGR.out.trans (World.grownBy_alloc _ _ _)) (by simp only [HJ.out,HA.out,HNL.out,HSP.out,ba_app,Bool.or_true,Bool.or_false,if_true,Bool.false_eq_true,if_false,List.append_nil,List.append_assoc]) HF1.out HG1.out
       case measure => simp [intOf] <;> omega
      | false =>
       have HJ := hide (show jBehind bf = false by rw [jb_is,← HFG.out.1,← HFG.out.2];rfl)
       clear h0
       go_wp2
       go_roundw
       case rel => exact TxR.next HT.out.len hob hlt2 HP.out HT.out.n1 HN.out HFU.out HRR.out (HGR.out.trans (World.grownBy_alloc _ _ _)) (by simp only [HJ.out,HA.out,HNL.out,HSP.out,ba_app,Bool.or_true,Bool.or_false,if_true,Bool.false_eq_true,if_false,List.append_nil,List.append_assoc]) HF1.out HG1.out
       case measure => simp [intOf] <;> omega
    have b5 : (t.s.toList == [91]) = false := by rw [beq_eq_false_iff_ne];exact fun q => hc ((HT.out.b 18 [91] (by simp)).1 q)
    have h18 := hc
    clear hc
    by_cases hc : srt t = 17
    ·have hk0 : t.s.toList = [46,46] := (HT.out.b 17 [46,46] (by simp)).2 hc
     have HA := hide (show jAhead (srt t) = true by rw [hc];rfl)
     have HNL := hide (show (if srt t = 11 then [10] else []) = ([] : List UInt8) by rw [hc];rfl)
     have HF1 := hide (show false = (srt t == 11) by rw [hc];rfl)
     have HG1 := hide (show true = glu (srt t) by rw [hc];rfl)
     clear hc
     cases f with
     | true =>
      have HJ := hide (show jBehind bf = true by rw [jb_is,← HFG.out.1];rfl)
      clear h0
      go_wp2
      go_roundw
      case rel => exact TxR.next HT.out.len hob hlt2 HP.out HT.out.n1 HN.out HFU.out HRR.out (HGR.out.trans (World.grownBy_alloc _ _ _)) (by simp only [HJ.out,HA.out,HNL.out,HSP.out,ba_app,Bool.or_true,Bool.or_false,if_true,Bool.false_eq_true,if_false,List.append_nil,List.append_assoc]) HF1.out HG1.out
      case measure => simp [intOf] <;> omega
     | false =>
      cases g with
      | true =>
       have HJ := hide (show jBehind bf = true by rw [jb_is,← HFG.out.1,← HFG.out.2];rfl)
       clear h0
       go_wp2
       go_roundw
       case rel => exact TxR.next HT.out.len hob hlt2 HP.out HT.out.n1 HN.out HFU.out HRR.out (HGR.out.trans (World.grownBy_alloc _ _ _)) (by simp only [HJ.out,HA.out,HNL.out,HSP.out,ba_app,Bool.or_true,Bool.or_false,if_true,Bool.false_eq_true,if_false,List.append_nil,List.append_assoc]) HF1.out HG1.out
       case measure => simp [intOf] <;> omega
      | false =>
       have HJ := hide (show jBehind bf = false by rw [jb_is,← HFG.out.1,← HFG.out.2];rfl)
       clear h0
       go_wp2
       go_roundw
       case rel => exact TxR.next HT.out.len hob hlt2 HP.out HT.out.n1 HN.out HFU.out HRR.out (HGR.out.trans (World.grownBy_alloc _ _ _)) (by simp only [HJ.out,HA.out,HNL.out,HSP.out,ba_app,Bool.or_true,Bool.or_false,if_true,Bool.false_eq_true,if_false,List.append_nil,List.append_assoc]) HF1.out HG1.out
       case measure => simp [intOf] <;> omega
    have b6 : (t.s.toList == [46,46]) = false := by rw [beq_eq_false_iff_ne];exact fun q => hc ((HT.out.b 17 [46,46] (by simp)).1 q)
    have h17 := hc
    clear hc
    by_cases hc : srt t = 22
    ·have hk0 : t.s.toList = [33] := (HT.out.b 22 [33] (by simp)).2 hc
     have HA := hide (show jAhead (srt t) = false by rw [hc];rfl)
     have HNL := hide (show (if srt t = 11 then [10] else []) = ([] : List UInt8) by rw [hc];rfl)
     have HF1 := hide (show false = (srt t == 11) by rw [hc];rfl)
     have HG1 := hide (show true = glu (srt t) by rw [hc];rfl)
     clear hc
     cases f with
     | true =>
      have HJ := hide (show jBehind bf = true by rw [jb_is,← HFG.out.1];rfl)
      clear h0
      go_wp2
      go_roundw
      case rel => exact TxR.next HT.out.len hob hlt2 HP.out HT.out.n1 HN.out HFU.out HRR.out (HGR.out.trans (World.grownBy_alloc _ _ _)) (by simp only [HJ.out,HA.out,HNL.out,HSP.out,ba_app,Bool.or_true,Bool.or_false,if_true,Bool.false_eq_true,if_false,List.append_nil,List.append_assoc]) HF1.out HG1.out
      case measure => simp [intOf] <;> omega
     | false =>
      cases g with
      | true =>
       have HJ := hide (show jBehind bf = true by rw [jb_is,← HFG.out.1,← HFG.out.2];rfl)
       clear h0
       go_wp2
       go_roundw
       case rel => exact TxR.next HT.out.len hob hlt2 HP.out HT.out.n1 HN.out HFU.out HRR.out (HGR.out.trans (World.grownBy_alloc _ _ _)) (by simp only [HJ.out,HA.out,HNL.out,HSP.out,ba_app,Bool.or_true,Bool.or_false,if_true,Bool.false_eq_true,if_false,List.append_nil,List.append_assoc]) HF1.out HG1.out
       case measure => simp [intOf] <;> omega
      | false =>
       have HJ := hide (show jBehind bf = false by rw [jb_is,← HFG.out.1,← HFG.out.2];rfl)
       clear h0
       go_wp2
       go_roundw
       case rel => exact TxR.next HT.out.len hob hlt2 HP.out HT.out.n1 HN.out HFU.out HRR.out (HGR.out.trans (World.grownBy_alloc _ _ _)) (by simp only [HJ.out,HA.out,HNL.out,HSP.out,ba_app,Bool.or_true,Bool.or_false,if_true,Bool.false_eq_true,if_false,List.append_nil,List.append_assoc]) HF1.out HG1.out
       case measure => simp [intOf] <;> omega
    have b7 : (t.s.toList == [33]) = false := by rw [beq_eq_false_iff_ne];exact fun q => hc ((HT.out.b 22 [33] (by simp)).1 q)
    have HA := hide (show jAhead (srt t) = false by simp [jAhead,h11,h13,h12,h19,h18,h17])
    have HNL := hide (show (if srt t = 11 then [10] else []) = ([] : List UInt8) by rw [if_neg h11])
    have HF1 := hide (show false = (srt t == 11) by simp [h11])
    have HG1 := hide (show false = glu (srt t) by simp [glu,h18,h17,hc])
    clear h11 h13 h12 h19 h18 h17 hc
    cases f with
    | true =>
     have HJ := hide (show jBehind bf = true by rw [jb_is,← HFG.out.1];rfl)
     clear h0
     go_wp2
     go_roundw
     case rel => exact TxR.next HT.out.len hob hlt2 HP.out HT.out.n1 HN.out HFU.out HRR.out (HGR.out.trans (World.grownBy_alloc _ _ _)) (by simp only [HJ.out,HA.out,HNL.out,HSP.out,ba_app,Bool.or_true,Bool.or_false,if_true,Bool.false_eq_true,if_false,List.append_nil,List.append_assoc]) HF1.out HG1.out
     case measure => simp [intOf] <;> omega
    | false =>
     cases g with
     | true =>
      have HJ := hide (show jBehind bf = true by rw [jb_is,← HFG.out.1,← HFG.out.2];rfl)
      clear h0
      go_wp2
      go_roundw
      case rel => exact TxR.next HT.out.len hob hlt2 HP.out HT.out.n1 HN.out HFU.out HRR.out (HGR.out.trans (World.grownBy_alloc _ _ _)) (by simp only [HJ.out,HA.out,HNL.out,HSP.out,ba_app,Bool.or_true,Bool.or_false,if_true,Bool.false_eq_true,if_false,List.append_nil,List.append_assoc]) HF1.out HG1.out
      case measure => simp [intOf] <;> omega
     | false =>
      have HJ := hide (show jBehind bf = false by rw [jb_is,← HFG.out.1,← HFG.out.2];rfl)
      clear h0
      go_wp2
      go_roundw
      case rel => exact TxR.next HT.out.len hob hlt2 HP.out HT.out.n1 HN.out HFU.out HRR.out (HGR.out.trans (World.grownBy_alloc _ _ _)) (by simp only [HJ.out,HA.out,HNL.out,HSP.out,ba_app,Bool.or_true,Bool.or_false,if_true,Bool.false_eq_true,if_false,List.append_nil,List.append_assoc]) HF1.out HG1.out
      case measure => simp [intOf] <;> omega
  ·obtain rfl : i = T.length := by omega
   have HRX := hide (show out = RES by rw [← HRR.out,plainF_end HEE.out])
   clear hgr HC HPP
   go_wp2
   go_ret
   exact ⟨by rw [← HRX.out];rfl,HGR.out⟩
end
end Go.Proofs.YthpcbbnabnlanaaGreatDoor
