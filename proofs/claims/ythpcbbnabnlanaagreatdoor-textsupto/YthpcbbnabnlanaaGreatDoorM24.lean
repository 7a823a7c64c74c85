import Derived.Test.YthpcbbnabnlanaaGreatDoorM13
import Derived.Test.YthpcbbnabnlanaaGreatDoorM21
import Derived.Test.YthpcbbnabnlanaaGreatDoorM22
import Derived.Test.YthpcbbnabnlanaaGreatDoorM23
import Derived.Deep.MidRow
import Derived.Laws.Tables
import Derived.Deep.LoopGhost
namespace Go.Proofs.YthpcbbnabnlanaaGreatDoor
set_option linter.unusedVariables false
set_option linter.unusedSimpArgs false
section
open Go.RowKit
theorem setRow_new (w : World) (old cells : Array Value) (t : TypeId) : (w.alloc (.cells old t)).setRow w.heap.size cells = w.alloc (.cells cells t) := by
 have hz : (w.alloc (.cells old t)).heap = w.heap.push (.cells old t) := rfl
 have hn : (w.alloc (.cells cells t)).heap = w.heap.push (.cells cells t) := rfl
 have hh : ((w.alloc (.cells old t)).setRow w.heap.size cells).heap = (w.alloc (.cells cells t)).heap := by
  unfold World.setRow
  rw [hn]
  simp only [hz]
  apply Array.ext
  ·simp
  ·intro i h1 h2
   rw [Array.getElem_modify]
   simp only [Array.size_push] at h2
   by_cases e : w.heap.size = i
   ·subst e;simp
   ·rw [if_neg e,Array.getElem_push_lt (by omega),Array.getElem_push_lt (by omega)]
 generalize hA : (w.alloc (.cells old t)).setRow w.heap.size cells = A at hh ⊢
 have e1 : A.tape = w.tape := by rw [← hA];rfl
 have e2 : A.drawn = w.drawn := by rw [← hA];rfl
 have e3 : A.os = w.os := by rw [← hA];rfl
 have e4 : A.output = w.output := by rw [← hA];rfl
 cases A
 simp only at hh e1 e2 e3 e4
 subst hh e1 e2 e3 e4
 rfl
theorem wpList_store_new {ops : Array Oper} {rest : List Oper} {o : Oper} {a : Act} {w : World} {Q : Exit → Act → World → Prop} (hgd : o.guard = none) (ty : TypeId) (x y : Operand) (ho : o.op = .store ty x y) (cells : Array Value) (t : TypeId) (old : Array Value) (hx : a.eval x = .pointer (some ⟨w.heap.size,0,none⟩)) (hy : a.eval y = .agg cells) (hi : (Tryz.prog.info? ty).map (·.size) = some cells.size) (hold : old.size = cells.size) (h1 : cells.all (·.oneCell') = true) (h : wpList Tryz.prog ops Q rest (a.put o.dst undef) (w.alloc (.cells cells t))) : wpList Tryz.prog ops Q (o :: rest) a (w.alloc (.cells old t)) := by
 refine wpList_store_row hgd ty x y ho w.heap.size cells hx hy t old (heap_alloc_new w _) hi hold h1 ?_
 rw [setRow_new];exact h
theorem infoCn : (Tryz.prog.info? 99).map (·.size) = some 10 := by kernel_rfl
end
section
set_option maxHeartbeats 8000000
set_option maxRecDepth 100000
open Go.RowKit
variable {w w' : World}
theorem conBox {B : Nat} {x : CRow} (h : CAt w B x) : ConIn (w.alloc (.cells x.cells.toArray 99)) w.heap.size 0 B x := by
 have hB := heap_alloc_new w (.cells x.cells.toArray 99)
 refine ⟨fun k u hu => ?_,by simp,h.but ((But.refl [] w).alloc _) (fun k hk => by cases hk)⟩
 rw [Nat.zero_add]
 exact cell_of hB k u (by simpa using hu)
theorem cr_len (x : CRow) : x.cells.length = 10 := rfl
theorem asg_bd : ∀ {vars : List QVar} {vals : List Int},asgF vars vals = true → (∀ v ∈ vars,-1000 ≤ v.low ∧ v.low ≤ v.high ∧ v.high ≤ 1000) → ∀ x ∈ vals,-1000 ≤ x ∧ x ≤ 1000
 | [],[],_,_ => fun x hx => by cases hx
 | v :: vs,x :: xs,h,hv => fun y hy => by
  simp [asgF,inP] at h
  rcases List.mem_cons.1 hy with e | e
  ·subst e;have := hv v (by simp);omega
  ·exact asg_bd h.2 (fun u hu => hv u (by simp [hu])) y e
 | [],_ :: _,h,_ => by simp [asgF] at h
 | _ :: _,[],h,_ => by simp [asgF] at h
theorem con_pos {n : Nat} {t : Int → Prop} {c : QCon} (h : ConOk n t c) : 0 < n := by
 rcases h.sort with e | e | e | e | e
 ·cases hc : c.terms with
  | nil => exact absurd hc (h.tne (.inl e))
  | cons p _ => have q := (h.terms p (by simp [hc])).1;have := q.1;have := q.2;omega
 ·have q := (h.truth e).1;have := q.1;have := q.2;omega
 ·have q := (h.place e).1;have := q.1;have := q.2;omega
 ·cases hc : c.vars with
  | nil => exact absurd hc (h.vne e)
  | cons p _ => have q := h.vars p (by simp [hc]);have := q.1;have := q.2;omega
 ·cases hc : c.lits with
  | nil => exact absurd hc (h.ine e)
  | cons p _ => have q := (h.lits p (by simp [hc])).1;have := q.1;have := q.2;omega
theorem rl_Set {bc B : Nat} {vV vC vv : Value} {vars : List QVar} {cs : List CRow} {vals : List Int} (h : SetIn w bc B vV vC vars cs) (hV : ValsIn w vv vals) (hvs : ∀ v ∈ vars,-1000 ≤ v.low ∧ v.low ≤ v.high ∧ v.high ≤ 1000) (hvl : vars.length ≤ 8) (hcs : ∀ x ∈ cs,ConOk vars.length (TruthAt vars) x.c) (hcl : cs.length ≤ 16) : Calls Tryz.prog 36 #[.pointer (some ⟨bc,1,none⟩),vv] w fun e w' => e = .returned (.bool (suitsP vars (cs.map (·.c)) vals)) ∧ w.grownBy w' none := by
 obtain ⟨R,hR⟩ : ∃ R,R = suitsP vars (cs.map (·.c)) vals := ⟨_,rfl⟩
 have HR : Hid (R = suitsP vars (cs.map (·.c)) vals) := hR
 rw [← hR]
 clear hR
 obtain ⟨va,vc,rfl⟩ := hV.is
 have KA := Kept.mk (rl_isAssignment h hV (by omega))
 by_cases ha : asgF vars vals = true
 ·have HLEN := hide (asg_len ha)
  have HBD := hide (asg_bd ha hvs)
  rw [ha] at KA
  obtain ⟨ca,cc,hca⟩ := own_slice_n h.oc
  have c2 := h.c2
  rw [hca] at c2
  have HCA := hide hca
  have HS := hide h
  have HV := hide hV
  have HCS := hide hcs
  have HA := hide ha
  have hlt := h.lt
  clear h hV hca hcs ha hvs
  go_enter Tryz.func36,Tryz.ntmps36
  go_wp2_with (go_at_call 47;refine KA.get.mono ?_;rintro e w1 ⟨rfl,hg1⟩;have c2' := hg1.cell c2 (by simp))
  have HST : Hid (∃ i : Nat,i ≤ cs.length ∧ (Value.int .i64 0) = .int .i64 i ∧ ((cs.take i).all fun x => conP vals x.c) = true ∧ w.grownBy w1 none) := ⟨0,Nat.zero_le _,rfl,rfl,hg1⟩
  clear hg1 c2'
  go_loopw [16] (fun vi wr => ∃ i : Nat,i ≤ cs.length ∧ vi = .int .i64 i ∧ ((cs.take i).all fun x => conP vals x.c) = true ∧ w.grownBy wr none) (fun vi _ => cs.length - (intOf vi).toNat)
  case atStart => exact HST.out
  case round =>
   clear HST
   obtain ⟨i,hi,rfl,hall,hgr⟩ := hrel
   have HALL := hide hall
   clear hall
   by_cases hlt2 : i < cs.length
   ·obtain ⟨x,hx⟩ : ∃ x,cs[i]? = some x := ⟨cs[i],List.getElem?_eq_getElem hlt2⟩
    have hmem := List.mem_of_getElem? hx
    have hcon := HCS.out x hmem
    have hpos := con_pos hcon
    obtain ⟨gc,cr,hRC,_⟩ := RowIn.of_own HS.out.oc (by omega)
    have er : ca = some ⟨gc,0,none⟩ := by
     have q := hRC.is
     rw [HCA.out] at q
     injection q with q1 q2 q3
    subst er
    rcases HV.out with ⟨e0,_⟩ | ⟨gv,cv,hVV⟩
    ·have hlen := HLEN.out;rw [e0] at hlen;simp at hlen;omega
    have hSr := HS.out.grown hgr
    have hat := hSr.at_ x hmem
    have hR := hRC.kept hgr (by simp)
    have KS := Kept.mk (fun (W : World) (q : ConIn W wr.heap.size 0 B x) (hg : w.grownBy W none) => rl_Suits q (hVV.kept hg (by simp)) hcon HLEN.out.symm HBD.out (by have := HLEN.out;omega))
    have HBX := hide (conBox hat)
    have cells : ∀ k u,x.cells[k]? = some u → wr.cell? ⟨gc,i * 10 + k,none⟩ = some u := fun k u hu => hR.at (sz := 10) cr_len hx k u hu
    have HSN : Hid ((cs.take (i + 1)).all (fun x => conP vals x.c) = conP vals x.c) := by
     rw [Hid,List.take_add_one,hx,List.all_append,HALL.out];simp
    have HXM := hide hx
    obtain ⟨ta,tm,tc,et⟩ := own_slice hat.t
    obtain ⟨la,lm,lc,el⟩ := own_slice hat.l
    obtain ⟨pa,pm,pc,ep⟩ := own_slice hat.v
    obtain ⟨ia,im,ic,ei⟩ := own_slice hat.i
    have HRG : Hid (wr.rangeAt gc (i * 10) [.int .i64 x.c.sort,.int .i64 x.c.truth,.slice ta tm tc,.int .i64 x.c.rel,.int .i64 x.c.num,.slice la lm lc,.int .i64 x.c.place,.int .i64 x.c.entry,.slice pa pm pc,.slice ia im ic]) := fun j u hu => by
     refine cells j u ?_
     unfold CRow.cells;rw [et,el,ep,ei];exact hu
    have eb : x.cells.toArray = #[.int .i64 x.c.sort,.int .i64 x.c.truth,.slice ta tm tc,.int .i64 x.c.rel,.int .i64 x.c.num,.slice la lm lc,.int .i64 x.c.place,.int .i64 x.c.entry,.slice pa pm pc,.slice ia im ic] := by
     unfold CRow.cells;rw [et,el,ep,ei]
    rw [eb] at HBX
    have hlt3 : (i : Int) < cs.length := by omega
    have h03 : (0 : Int) ≤ i := by omega
    have HGR := hide hgr
    clear hRC hVV hSr hat hR cells hx hgr et el ep ei eb hcon hmem
    by_cases hc : conP vals x.c = true
    ·rw [hc] at KS
     have HE : Hid ((cs.take (i + 1)).all (fun x => conP vals x.c) = true) := by rw [Hid,HSN.out];exact hc
     clear hc
     go_wp2_with (first | (go_at_call 48;refine (KS.get _ HBX.out (HGR.out.trans (World.grownBy_alloc _ _ _))).mono ?_;rintro e w2 ⟨rfl,hg2⟩) | (refine wpList_store_new rfl 99 _ _ rfl #[.int .i64 x.c.sort,.int .i64 x.c.truth,.slice ta tm tc,.int .i64 x.c.rel,.int .i64 x.c.num,.slice la lm lc,.int .i64 x.c.place,.int .i64 x.c.entry,.slice pa pm pc,.slice ia im ic] 99 _ rfl rfl infoCn rfl rfl ?_) | (refine wpList_load_mid rfl 99 _ rfl gc (i * 10) rfl [.int .i64 x.c.sort,.int .i64 x.c.truth,.slice ta tm tc,.int .i64 x.c.rel,.int .i64 x.c.num,.slice la lm lc,.int .i64 x.c.place,.int .i64 x.c.entry,.slice pa pm pc,.slice ia im ic] _ HRG.out Tryz.underlying99 rfl infoCn ?_))
     go_roundw
     case rel => exact ⟨i + 1,by omega,by go_num,HE.out,(HGR.out.trans (World.grownBy_alloc _ _ _)).trans hg2⟩
     case measure => simp [intOf];omega
    ·have hc' : conP vals x.c = false := by simpa using hc
     rw [hc'] at KS
     have HE : Hid (R = false) := by
      rw [Hid,HR.out]
      unfold suitsP
      have : (cs.map (·.c)).all (conP vals) = false := by
       rw [List.all_eq_false]
       exact ⟨x.c,List.mem_map.2 ⟨x,List.mem_of_getElem? HXM.out,rfl⟩,hc⟩
      rw [this];simp
     clear hc hc'
     go_wp2_with (first | (go_at_call 48;refine (KS.get _ HBX.out (HGR.out.trans (World.grownBy_alloc _ _ _))).mono ?_;rintro e w2 ⟨rfl,hg2⟩) | (refine wpList_store_new rfl 99 _ _ rfl #[.int .i64 x.c.sort,.int .i64 x.c.truth,.slice ta tm tc,.int .i64 x.c.rel,.int .i64 x.c.num,.slice la lm lc,.int .i64 x.c.place,.int .i64 x.c.entry,.slice pa pm pc,.slice ia im ic] 99 _ rfl rfl infoCn rfl rfl ?_) | (refine wpList_load_mid rfl 99 _ rfl gc (i * 10) rfl [.int .i64 x.c.sort,.int .i64 x.c.truth,.slice ta tm tc,.int .i64 x.c.rel,.int .i64 x.c.num,.slice la lm lc,.int .i64 x.c.place,.int .i64 x.c.entry,.slice pa pm pc,.slice ia im ic] _ HRG.out Tryz.underlying99 rfl infoCn ?_))
     go_ret
     rw [HE.out]
     exact ⟨rfl,(HGR.out.trans (World.grownBy_alloc _ _ _)).trans hg2⟩
   ·obtain rfl : i = cs.length := by omega
    have HE : Hid (R = true) := by
     rw [Hid,HR.out]
     unfold suitsP
     have q := HALL.out
     rw [List.take_of_length_le (Nat.le_refl _)] at q
     rw [HA.out]
     simp only [List.all_map,Bool.true_and]
     exact q
    go_wp2
    go_ret
    rw [HE.out]
    exact ⟨rfl,hgr⟩
 ·have ha' : asgF vars vals = false := by simpa using ha
  rw [ha'] at KA
  have HE : Hid (R = false) := by rw [Hid,HR.out];unfold suitsP;rw [ha'];rfl
  clear h hV hvs hcs ha ha'
  go_enter Tryz.func36,Tryz.ntmps36
  go_wp2_with (go_at_call 47;refine KA.get.mono ?_;rintro e w1 ⟨rfl,hg1⟩)
  go_ret
  rw [HE.out]
  exact ⟨rfl,hg1⟩
theorem pn_Suits {b bc B : Nat} {vV vC vv : Value} {vars : List QVar} {cs : List CRow} {vals : List Int} (hb : w.cell? ⟨b,1,none⟩ = some (.pointer (some ⟨bc,1,none⟩))) (h : SetIn w bc B vV vC vars cs) (hV : ValsIn w vv vals) (hvs : ∀ v ∈ vars,-1000 ≤ v.low ∧ v.low ≤ v.high ∧ v.high ≤ 1000) (hvl : vars.length ≤ 8) (hcs : ∀ x ∈ cs,ConOk vars.length (TruthAt vars) x.c) (hcl : cs.length ≤ 16) : Calls Tryz.prog 27 #[.pointer (some ⟨b,0,none⟩),vv] w fun e w' => e = .returned (.bool (suitsP vars (cs.map (·.c)) vals)) ∧ w.grownBy w' none := by
 have K := Kept.mk (rl_Set h hV hvs hvl hcs hcl)
 obtain ⟨va,vc,rfl⟩ := hV.is
 clear h hV hvs hcs
 go_enter Tryz.func27,Tryz.ntmps27
 go_wp2_with (go_at_call 36;refine K.get.mono ?_;rintro e w1 ⟨rfl,hg1⟩)
 go_ret
 exact ⟨rfl,hg1⟩
end
section
set_option maxHeartbeats 4000000
set_option maxRecDepth 100000
open Go.RowKit
variable {w : World}
def CheckRel (l : List GRow) (gr cap : Nat) (RES : QSt) (w : World) (m : Nat) (vi : Value) (wr : World) : Prop :=
 ∃ (i : Nat) (q : QSt),i ≤ l.length ∧ m = l.length - i ∧ vi = .int .i64 i ∧ q.st.1 = 0 ∧ Hid (runQ ((l.drop i).map (·.s)) q = RES) ∧ Sen wr (w.heap.size + 1) w.heap.size (w.heap.size + 2) i q ∧
  RowIn wr (.slice (some ⟨gr,0,none⟩) l.length cap) gr cap GRow.cells l ∧ (∀ x ∈ l,GIn wr (w.heap.size + 2) (w.heap.size + 1) w.heap.size x) ∧ w.grownBy wr none
theorem cell_len (x : GRow) : x.cells.length = 16 := rfl
theorem Fr.grown {B bc bm : Nat} {a b c : World} (h : a.grownBy b none) (hc : a.heap.size ≤ bc) (hm : a.heap.size ≤ bm) (hB : a.heap.size ≤ B) (k : Fr B bc bm b c) : a.grownBy c none :=
 ⟨k.os.trans h.os,k.tape.trans h.tape,k.output.trans h.output,Nat.le_trans h.size k.size,fun i hi hn => (k.block i (by omega) (by omega) (by omega)).trans (h.block i hi hn)⟩
theorem Sen.alloc {bc bm B k : Nat} {q : QSt} (h : Sen w bc bm B k q) (o : Obj) : Sen (w.alloc o) bc bm B k q := by
 obtain ⟨n,g,vV,vC,cs,hC,eg,hv,hoV,hoC,hD,b1,b2,b3,hc,hm,hB⟩ := h
 exact ⟨n,g,vV,vC,cs,hC.alloc o,eg,hv,hoV.alloc o,hoC.alloc o,hD.alloc o,b1,b2,b3,hc,hm,by simp;omega⟩
theorem Sen.size {bc bm B k : Nat} {q : QSt} (h : Sen w bc bm B k q) : B ≤ w.heap.size := by
 obtain ⟨n,g,vV,vC,cs,hC,eg,hv,hoV,hoC,hD,b1,b2,b3,hc,hm,hB⟩ := h
 exact hB
theorem Sen.cells {bc bm B k : Nat} {q : QSt} (h : Sen w bc bm B k q) : w.cell? ⟨bc,3,none⟩ = some (.int .i64 q.st.1) ∧ w.cell? ⟨bc,4,none⟩ = some (.int .i64 q.st.2) := by
 obtain ⟨n,g,vV,vC,cs,hC,eg,hv,hoV,hoC,hD,b1,b2,b3,hc,hm,hB⟩ := h
 exact ⟨hC.c3,hC.c4⟩
theorem sen_start (w : World) : Sen ((w.alloc (.map #[] 0)).alloc (.cells #[.map (some w.heap.size),.slice none 0 0,.slice none 0 0,.int .i64 0,.int .i64 0] 142)) (w.heap.size + 1) w.heap.size (w.heap.size + 2) 0 q0 := by
 have hB := heap_alloc2_new w (.map #[] 0) (.cells #[.map (some w.heap.size),.slice none 0 0,.slice none 0 0,.int .i64 0,.int .i64 0] 142)
 refine ⟨0,fun _ => noTh,.slice none 0 0,.slice none 0 0,[],⟨cell_of hB 0 _ rfl,cell_of hB 1 _ rfl,cell_of hB 2 _ rfl,cell_of hB 3 _ rfl,cell_of hB 4 _ rfl,frozen_of hB 1,frozen_of hB 2,frozen_of hB 3,frozen_of hB 4,by simp,?_,by simp;omega,by omega⟩,rfl,fun s => ⟨_,_,_,rfl⟩,World.ownsRow_nil _ _ _ _,World.ownsRow_nil _ _ _ _,⟨rfl,(fun x hx => (by cases hx)),fun s => World.ownsRow_nil _ _ _ _⟩,Nat.le_refl _,Nat.le_refl _,Nat.le_refl _,by omega,by omega,by simp⟩
 exact ⟨.map [],(World.ownsMap_made w Tryz.prog 9 heldV).alloc _,⟨[],rfl⟩,fun s => rfl⟩
theorem rin_start {α : Type} {v : Value} {cell : α → List Value} {l : List α} {o o' : Obj} (h : RIn w w.heap.size w.heap.size w.heap.size v cell l) : RIn ((w.alloc o).alloc o') (w.heap.size + 2) (w.heap.size + 1) w.heap.size v cell l :=
 ⟨h.1,fun hl => by
  obtain ⟨gr,cap,hr,h1,h2,h3⟩ := h.2 hl
  exact ⟨gr,cap,(hr.kept (World.grownBy_alloc w o none) (by simp)).kept (World.grownBy_alloc _ o' none) (by simp),by omega,by omega,by omega⟩⟩
theorem gin_start {x : GRow} {o o' : Obj} (h : GIn w w.heap.size w.heap.size w.heap.size x) : GIn ((w.alloc o).alloc o') (w.heap.size + 2) (w.heap.size + 1) w.heap.size x := ⟨rin_start h.n,rin_start h.u,rin_start h.t,rin_start h.l⟩
theorem sn_Check (l : List GRow) (v1 : Value) (gr cap : Nat) (hR : RowIn w v1 gr cap GRow.cells l) (hl : l.length ≤ 2500) (hin : ∀ x ∈ l,GIn w w.heap.size w.heap.size w.heap.size x) (hok : ∀ x ∈ l,StOk x.s) : Calls Tryz.prog 45 #[v1] w fun e w' =>
   (((runQ (l.map (·.s)) q0).st.1 ≠ 0 ∧ e = .returned (.tuple #[.pointer none,.int .i64 (runQ (l.map (·.s)) q0).st.1,.int .i64 (runQ (l.map (·.s)) q0).st.2])) ∨
   ((runQ (l.map (·.s)) q0).st.1 = 0 ∧ e = .returned (.tuple #[.pointer (some ⟨w.heap.size + 1,1,none⟩),.int .i64 0,.int .i64 0]) ∧ Sen w' (w.heap.size + 1) w.heap.size (w.heap.size + 2) l.length (runQ (l.map (·.s)) q0))) ∧ w.grownBy w' none := by
 have HR : Hid (RowIn w v1 gr cap GRow.cells l) := hR
 have HIN : Hid (∀ x ∈ l,GIn w w.heap.size w.heap.size w.heap.size x) := hin
 have HOK : Hid (∀ x ∈ l,StOk x.s) := hok
 have hgl := hR.lt
 obtain ⟨RES,hRES⟩ : ∃ R,R = runQ (l.map (·.s)) q0 := ⟨_,rfl⟩
 have HS : Hid (runQ ((l.drop 0).map (·.s)) q0 = RES) := by rw [Hid,hRES];rfl
 rw [← hRES]
 obtain rfl := hR.is
 clear hR hin hok hRES
 have hmk : (Instr.makeMap 140 none).run Tryz.prog w = .ok (.map (some w.heap.size)) (w.alloc (.map #[] 0)) := rfl
 go_enter Tryz.func45,Tryz.ntmps45
 go_wp2
 go_loopg [12] l.length (fun m vi wr => CheckRel l gr cap RES w m vi wr)
 case atStart => exact ⟨0,q0,Nat.zero_le _,rfl,rfl,rfl,HS,sen_start w,(HR.out.kept (World.grownBy_alloc w _ none) (by simp)).kept (World.grownBy_alloc _ _ none) (by simp),fun x hx => gin_start (HIN.out x hx),(World.grownBy_alloc _ _ _).trans (World.grownBy_alloc _ _ _)⟩
 case round =>
  obtain ⟨i,q,hi,rfl,rfl,hq0,hlex,hS,hR,hin,hgr⟩ := hrel
  by_cases hlt : i < l.length
  ·obtain ⟨x,ha⟩ : ∃ a,l[i]? = some a := ⟨l[i],by simp [hlt]⟩
   have hmem := List.mem_of_getElem? ha
   have hx := hin x hmem
   obtain ⟨na,nm,nc,en⟩ := hx.n.1
   obtain ⟨ua,um,uc,eu⟩ := hx.u.1
   obtain ⟨ta,tm,tc,et⟩ := hx.t.1
   obtain ⟨la,lm,lc,el⟩ := hx.l.1
   have c0 : wr.cell? ⟨gr,i * 16,none⟩ = some (.int .i64 (srt x.s.kw)) := hR.at (sz := 16) cell_len ha 0 _ rfl
   have c1 : wr.cell? ⟨gr,i * 16 + 1,none⟩ = some (.string x.s.kw.s) := hR.at (sz := 16) cell_len ha 1 _ rfl
   have c2 : wr.cell? ⟨gr,i * 16 + 2,none⟩ = some (.int .i64 (tval x.s.kw)) := hR.at (sz := 16) cell_len ha 2 _ rfl
   have c3 : wr.cell? ⟨gr,i * 16 + 3,none⟩ = some (.int .i64 x.s.kw.line) := hR.at (sz := 16) cell_len ha 3 _ rfl
   have c4 : wr.cell? ⟨gr,i * 16 + 4,none⟩ = some (.int .i64 (srt x.s.name)) := hR.at (sz := 16) cell_len ha 4 _ rfl
   have c5 : wr.cell? ⟨gr,i * 16 + 5,none⟩ = some (.string x.s.name.s) := hR.at (sz := 16) cell_len ha 5 _ rfl
   have c6 : wr.cell? ⟨gr,i * 16 + 6,none⟩ = some (.int .i64 (tval x.s.name)) := hR.at (sz := 16) cell_len ha 6 _ rfl
   have c7 : wr.cell? ⟨gr,i * 16 + 7,none⟩ = some (.int .i64 x.s.name.line) := hR.at (sz := 16) cell_len ha 7 _ rfl
   have c8 : wr.cell? ⟨gr,i * 16 + 8,none⟩ = some (.slice na nm nc) := by rw [← en];exact hR.at (sz := 16) cell_len ha 8 _ rfl
   have c9 : wr.cell? ⟨gr,i * 16 + 9,none⟩ = some (.slice ua um uc) := by rw [← eu];exact hR.at (sz := 16) cell_len ha 9 _ rfl
   have c10 : wr.cell? ⟨gr,i * 16 + 10,none⟩ = some (.slice ta tm tc) := by rw [← et];exact hR.at (sz := 16) cell_len ha 10 _ rfl
   have c11 : wr.cell? ⟨gr,i * 16 + 11,none⟩ = some (.int .i64 (srt x.s.rel)) := hR.at (sz := 16) cell_len ha 11 _ rfl
   have c12 : wr.cell? ⟨gr,i * 16 + 12,none⟩ = some (.string x.s.rel.s) := hR.at (sz := 16) cell_len ha 12 _ rfl
   have c13 : wr.cell? ⟨gr,i * 16 + 13,none⟩ = some (.int .i64 (tval x.s.rel)) := hR.at (sz := 16) cell_len ha 13 _ rfl
   have c14 : wr.cell? ⟨gr,i * 16 + 14,none⟩ = some (.int .i64 x.s.rel.line) := hR.at (sz := 16) cell_len ha 14 _ rfl
   have c15 : wr.cell? ⟨gr,i * 16 + 15,none⟩ = some (.slice la lm lc) := by rw [← el];exact hR.at (sz := 16) cell_len ha 15 _ rfl
   have hBw : w.heap.size + 2 ≤ wr.heap.size := hS.size
   have K := Kept.mk (fun o => sn_one (hS.alloc o) (by omega) x (hx.fr ((Fr.refl _ _ _ wr).alloc hBw o)) (HOK.out x hmem))
   rw [en,eu,et,el] at K
   have hlt3 : (i : Int) < l.length := by omega
   have h03 : (0 : Int) ≤ i := by omega
   have hstep : Hid (runQ ((l.drop i).map (·.s)) q = if (qStep x.s q).st.1 = 0 then runQ ((l.drop (i + 1)).map (·.s)) (qStep x.s q) else qStep x.s q) := by
    have hx' : l[i] = x := (List.getElem?_eq_some_iff.1 ha).2
    rw [Hid,List.drop_eq_getElem_cons hlt,hx'];rfl
   have hnext : Hid (∀ (w1 : World) (o : Obj),Fr (w.heap.size + 2) (w.heap.size + 1) w.heap.size (wr.alloc o) w1 → RowIn w1 (.slice (some ⟨gr,0,none⟩) l.length cap) gr cap GRow.cells l ∧ (∀ x ∈ l,GIn w1 (w.heap.size + 2) (w.heap.size + 1) w.heap.size x) ∧ w.grownBy w1 none) := fun w1 o hf => by
    have f2 := ((Fr.refl (w.heap.size + 2) (w.heap.size + 1) w.heap.size wr).alloc hBw o).trans hf
    refine ⟨⟨hR.is,fun j u hu => (World.cell?_of_block (a := ⟨gr,j,none⟩) (f2.block gr (by omega) (by omega) (by omega))).trans (hR.row j u hu),Nat.lt_of_lt_of_le hR.lt f2.size⟩,fun x hx => (hin x hx).fr f2,f2.grown hgr (by omega) (by omega) (by omega)⟩
   generalize qStep x.s q = q' at *
   unfold gsCells at K
   by_cases hz : q'.st.1 = 0
   ·have hl : Hid (runQ ((l.drop (i + 1)).map (·.s)) q' = RES) := by rw [Hid,← hlex.out,hstep.out,if_pos hz]
    go_wp2_with (go_at_call 70;refine (K.get _).mono ?_;rintro e w1 ⟨rfl,hS1,hF1⟩;obtain ⟨k3,k4⟩ := hS1.cells;rw [hz] at k3)
    go_roundg (l.length - (i + 1))
    case measure => omega
    case rel =>
     obtain ⟨r1,r2,r3⟩ := hnext.out w1 _ hF1
     exact ⟨i + 1,q',by omega,rfl,by go_num,hz,hl,hS1,r1,r2,r3⟩
   ·have hl : Hid (RES = q') := by rw [Hid,← hlex.out,hstep.out,if_neg hz]
    have hzb : (q'.st.1 != 0) = true := by simpa using hz
    go_wp2_with (go_at_call 70;refine (K.get _).mono ?_;rintro e w1 ⟨rfl,hS1,hF1⟩;obtain ⟨k3,k4⟩ := hS1.cells)
    go_quiet (fail)
    go_wp2
    go_ret3
    rw [hl.out]
    obtain ⟨r1,r2,r3⟩ := hnext.out w1 _ hF1
    exact ⟨.inl ⟨hz,rfl⟩,r3.trans (grown_drewN' _ _ _)⟩
  ·obtain rfl : i = l.length := by omega
   have hl2 : Hid (RES = q) := by rw [Hid,← hlex.out,List.drop_of_length_le (Nat.le_refl _)];rfl
   clear hlex
   go_wp2
   go_ret3
   rw [hl2.out]
   exact ⟨.inr ⟨hq0,rfl,hS⟩,hgr⟩
end
section
set_option maxHeartbeats 2000000
set_option maxRecDepth 100000
open Go.RowKit
theorem Sen.grown {w w' : World} {bc bm B k : Nat} {q : QSt} (h : Sen w bc bm B k q) (hg : w.grownBy w' none) : Sen w' bc bm B k q := by
 obtain ⟨n,g,vV,vC,cs,hC,eg,hv,hoV,hoC,hD,b1,b2,b3,hc,hm,hB⟩ := h
 exact ⟨n,g,vV,vC,cs,hC.kept hg (by simp) (by simp),eg,hv,hoV.kept hg (own_none _),hoC.kept hg (own_none _),hD.grown hg,b1,b2,b3,hc,hm,Nat.le_trans hB hg.size⟩
theorem sn_Check_nil (w : World) (a : Option Addr) (c : Nat) : Calls Tryz.prog 45 #[.slice a 0 c] w fun e w' => e = .returned (.tuple #[.pointer (some ⟨w.heap.size + 1,1,none⟩),.int .i64 0,.int .i64 0]) ∧ Sen w' (w.heap.size + 1) w.heap.size (w.heap.size + 2) 0 q0 ∧ w.grownBy w' none := by
 have hmk : (Instr.makeMap 140 none).run Tryz.prog w = .ok (.map (some w.heap.size)) (w.alloc (.map #[] 0)) := rfl
 go_enter Tryz.func45,Tryz.ntmps45
 go_wp2
 go_loopg [12] 0 (fun n v wr => v = .int .i64 0 ∧ wr = (w.alloc (.map #[] 0)).alloc (.cells #[.map (some w.heap.size),.slice none 0 0,.slice none 0 0,.int .i64 0,.int .i64 0] 142))
 case atStart => exact ⟨rfl,rfl⟩
 case round =>
  obtain ⟨rfl,rfl⟩ := hrel
  go_wp2
  go_ret3
  exact ⟨rfl,sen_start w,(World.grownBy_alloc _ _ _).trans (World.grownBy_alloc _ _ _)⟩
theorem tok_row {w : World} {B : Nat} {v : Value} {toks : List PTok} (h : w.ownsRow B 129 4 v toks.length (tokCells toks)) (hp : 0 < toks.length) : ∃ gt cap,v = .slice (some ⟨gt,0,none⟩) toks.length cap ∧ toks.length ≤ cap ∧ gt < w.heap.size ∧ ∀ j u,(tokCells toks)[j]? = some u → w.cell? ⟨gt,j,none⟩ = some u := by
 obtain ⟨gr,cap,hr,_⟩ := RowIn.of_own (cell := tokCell) (l := toks) h hp
 rcases h.2 with ⟨_,h0⟩ | ⟨g,cap',cur,hv,_,_,hc,_⟩
 ·omega
 ·have e := hr.is
  rw [hv] at e
  injection e with e1 e2 e3
  exact ⟨gr,cap,hr.is,by omega,hr.lt,hr.row⟩
theorem rin_own {α : Type} {w : World} {B e sz : Nat} {v : Value} {cell : α → List Value} {l : List α} (h : w.ownsRow B e sz v l.length (l.flatMap cell)) : RIn w w.heap.size w.heap.size w.heap.size v cell l :=
 ⟨own_slice h,fun hl => by
  obtain ⟨gr,cap,hr,_⟩ := RowIn.of_own h (by cases l with | nil => exact absurd rfl hl | cons _ _ => simp)
  exact ⟨gr,cap,hr,hr.lt,by have := hr.lt;omega,by have := hr.lt;omega⟩⟩
theorem gin_own {w : World} {B : Nat} {x : GRow} (h : x.own w B) : GIn w w.heap.size w.heap.size w.heap.size x := ⟨rin_own h.n,rin_own h.u,rin_own h.t,rin_own h.l⟩
def MdlIs (w : World) (H b : Nat) (s : ByteArray) : Prop :=
 ∃ bc bm B k,H ≤ bc ∧ H ≤ B ∧ k ≤ 2500 ∧ w.cell? ⟨b,0,none⟩ = some (.string ⟨(plainT (progToks s)).toArray⟩) ∧ w.cell? ⟨b,1,none⟩ = some (.pointer (some ⟨bc,1,none⟩)) ∧ b < w.heap.size ∧ Sen w bc bm B k (runQ (pParse (progToks s)).1 q0)
theorem pn_long (s : ByteArray) (w : World) (hs : 2000 < s.size) : Calls Tryz.prog 35 #[.string s] w fun e w' => e = .returned (.tuple #[.pointer none,.int .i64 1,.int .i64 0]) ∧ w' = w := by
 have hs' : (2000 : Int) < s.size := by omega
 go_enter Tryz.func35,Tryz.ntmps35
 go_wp2
 go_ret3
 exact ⟨rfl,rfl⟩
theorem below_grown {w w' : World} (h : Below w.heap.size w w') : w.grownBy w' none := ⟨h.os,h.tape,h.output,h.size,fun k hk _ => h.block k hk⟩
theorem pn_tok (s : ByteArray) (w : World) (hs : s.size ≤ 2000) (hl : (lex s).1 ≠ 0) : Calls Tryz.prog 35 #[.string s] w fun e w' => e = .returned (.tuple #[.pointer none,.int .i64 2,.int .i64 (lex s).1]) ∧ w.grownBy w' none := by
 have hs' : (s.size : Int) ≤ 2000 := by omega
 have K := Kept.mk (tk_Read s w hs)
 have hz : (((lex s).1 : Int) != 0) = true := by simpa using hl
 generalize (lex s).1 = L at *
 clear hl
 go_enter Tryz.func35,Tryz.ntmps35
 go_wp2_with (go_at_call 43;refine K.get.mono ?_;rintro e w1 ⟨v,rfl,_,hb⟩)
 go_ret3
 exact ⟨rfl,below_grown hb⟩
end
section
set_option maxHeartbeats 4000000
set_option maxRecDepth 100000
open Go.RowKit
theorem rd_ok (s : ByteArray) (w : World) (hs : s.size ≤ 2000) (hl : (lex s).1 = 0) : Calls Tryz.prog 43 #[.string s] w fun e w' => ∃ gt cap,e = .returned (.tuple #[.slice (some ⟨gt,0,none⟩) (progToks s).length cap,.int .i64 0]) ∧ (progToks s).length ≤ cap ∧ gt < w'.heap.size ∧ (∀ j u,(tokCells (progToks s))[j]? = some u → w'.cell? ⟨gt,j,none⟩ = some u) ∧ w.grownBy w' none := by
 refine (tk_Read s w hs).mono ?_
 rintro e w' ⟨v,rfl,ho,hb⟩
 have h := ho hl
 have hlen : (progToks s).length = (lex s).2.1.length + 1 := by simp [progToks]
 rw [← hlen] at h
 obtain ⟨gt,cap,rfl,h1,h2,h3⟩ := tok_row (toks := progToks s) h (by omega)
 rw [hl]
 exact ⟨gt,cap,rfl,h1,h2,h3,below_grown hb⟩
theorem pn_form (s : ByteArray) (w : World) (hs : s.size ≤ 2000) (hl : (lex s).1 = 0) (hp : (pParse (progToks s)).2.2 ≠ 0) : Calls Tryz.prog 35 #[.string s] w fun e w' => e = .returned (.tuple #[.pointer none,.int .i64 3,.int .i64 (pParse (progToks s)).2.2]) ∧ w.grownBy w' none := by
 have hs' : (s.size : Int) ≤ 2000 := by omega
 have K := Kept.mk (rd_ok s w hs hl)
 have K2 := Kept.mk (fun {w1 : World} {gt cap : Nat} (hrow : ∀ j u,(tokCells (progToks s))[j]? = some u → w1.cell? ⟨gt,j,none⟩ = some u) (hlg : gt < w1.heap.size) => gr_Parse (w := w1) (gt := gt) (capt := cap) (prog_end s hs) (prog_line s) hrow hlg)
 have hz : ((pParse (progToks s)).2.2 != 0) = true := by simpa using hp
 generalize (pParse (progToks s)).2.2 = L at *
 clear hp hl
 go_enter Tryz.func35,Tryz.ntmps35
 go_wp2_with (first | (go_at_call 44;refine (K2.get hrow hlg).mono ?_;rintro e w2 ⟨v2,rfl,_,hg2⟩) | (go_at_call 43;refine K.get.mono ?_;rintro e w1 ⟨gt,cap,rfl,hcap,hlg,hrow,hg1⟩))
 go_ret3
 exact ⟨rfl,hg1.trans hg2⟩
theorem ck_any (s : ByteArray) (hs : s.size ≤ 2000) (hp : (pParse (progToks s)).2.2 = 0) (w : World) (v : Value) (B : Nat) (acc : List GRow) (ha : acc.map (·.s) = (pParse (progToks s)).1) (ho : w.ownsRow B 137 16 v acc.length (acc.flatMap GRow.cells)) (hx : ∀ x ∈ acc,x.own w B) : Calls Tryz.prog 45 #[v] w fun e w' =>
   (((runQ (pParse (progToks s)).1 q0).st.1 ≠ 0 ∧ e = .returned (.tuple #[.pointer none,.int .i64 (runQ (pParse (progToks s)).1 q0).st.1,.int .i64 (runQ (pParse (progToks s)).1 q0).st.2])) ∨
   ((runQ (pParse (progToks s)).1 q0).st.1 = 0 ∧ ∃ bc bm B' k,(w.heap.size ≤ bc ∧ w.heap.size ≤ B' ∧ k ≤ 2500) ∧ e = .returned (.tuple #[.pointer (some ⟨bc,1,none⟩),.int .i64 0,.int .i64 0]) ∧ Sen w' bc bm B' k (runQ (pParse (progToks s)).1 q0))) ∧ w.grownBy w' none := by
 obtain ⟨hok,hln⟩ := parse_ok s hs hp
 have hll : acc.length ≤ 2500 := by have := congrArg List.length ha;simp at this;omega
 by_cases h0 : acc.length = 0
 ·obtain rfl : acc = [] := List.length_eq_zero_iff.1 h0
  obtain ⟨a,c,rfl⟩ := own_slice_n ho
  rw [← ha]
  refine (sn_Check_nil w a c).mono ?_
  rintro e w' ⟨rfl,hS,hg⟩
  exact ⟨.inr ⟨rfl,_,_,_,_,⟨Nat.le_succ _,Nat.le_add_right _ 2,Nat.zero_le _⟩,rfl,hS⟩,hg⟩
 ·obtain ⟨gr,cap,hr,_⟩ := RowIn.of_own (cell := GRow.cells) (l := acc) ho (by omega)
  have q := sn_Check (w := w) acc v gr cap hr hll (fun x hm => gin_own (hx x hm)) (fun x hm => hok x.s (by rw [← ha];exact List.mem_map_of_mem hm))
  rw [ha] at q
  refine q.mono ?_
  rintro e w' ⟨h | ⟨h1,h2,h3⟩,hg⟩
  ·exact ⟨.inl h,hg⟩
  ·exact ⟨.inr ⟨h1,_,_,_,_,⟨Nat.le_succ _,Nat.le_add_right _ 2,hll⟩,h2,h3⟩,hg⟩
end
section
set_option maxHeartbeats 4000000
set_option maxRecDepth 100000
open Go.RowKit
theorem pn_sense (s : ByteArray) (w : World) (hs : s.size ≤ 2000) (hl : (lex s).1 = 0) (hp : (pParse (progToks s)).2.2 = 0) (hq : (runQ (pParse (progToks s)).1 q0).st.1 ≠ 0) : Calls Tryz.prog 35 #[.string s] w fun e w' => e = .returned (.tuple #[.pointer none,.int .i64 (runQ (pParse (progToks s)).1 q0).st.1,.int .i64 (runQ (pParse (progToks s)).1 q0).st.2]) ∧ w.grownBy w' none := by
 have hs' : (s.size : Int) ≤ 2000 := by omega
 have K := Kept.mk (rd_ok s w hs hl)
 have K2 := Kept.mk (fun {w1 : World} {gt cap : Nat} (hrow : ∀ j u,(tokCells (progToks s))[j]? = some u → w1.cell? ⟨gt,j,none⟩ = some u) (hlg : gt < w1.heap.size) => gr_Parse (w := w1) (gt := gt) (capt := cap) (prog_end s hs) (prog_line s) hrow hlg)
 have K3 := Kept.mk (fun {w2 : World} {v2 : Value} {B : Nat} {acc : List GRow} ha ho hx => ck_any s hs hp w2 v2 B acc ha ho hx)
 rw [hp] at K2
 have hz : ((runQ (pParse (progToks s)).1 q0).st.1 != 0) = true := by simpa using hq
 generalize runQ (pParse (progToks s)).1 q0 = Q at *
 have HQ : Hid (Q.st.1 ≠ 0) := hq
 clear hp hl hq
 go_enter Tryz.func35,Tryz.ntmps35
 go_wp2_with (first | (go_at_call 45;refine (K3.get ha ho hx).mono ?_;rintro e w3 ⟨⟨_,rfl⟩ | ⟨hbad,_⟩,hg3⟩;rotate_left;(exact absurd hbad HQ.out)) | (go_at_call 44;refine (K2.get hrow hlg).mono ?_;rintro e w2 ⟨v2,rfl,hrest,hg2⟩;obtain ⟨acc,ha,ho,hx⟩ := hrest (by trivial)) | (go_at_call 43;refine K.get.mono ?_;rintro e w1 ⟨gt,cap,rfl,hcap,hlg,hrow,hg1⟩))
 go_ret3
 exact ⟨rfl,(hg1.trans hg2).trans hg3⟩
theorem pn_ok (s : ByteArray) (w : World) (ht : PowTab w) (hs : s.size ≤ 2000) (hl : (lex s).1 = 0) (hp : (pParse (progToks s)).2.2 = 0) (hq : (runQ (pParse (progToks s)).1 q0).st.1 = 0) : Calls Tryz.prog 35 #[.string s] w fun e w' => ∃ b,e = .returned (.tuple #[.pointer (some ⟨b,0,none⟩),.int .i64 0,.int .i64 0]) ∧ w.heap.size ≤ b ∧ MdlIs w' w.heap.size b s ∧ w.grownBy w' none := by
 have hs' : (s.size : Int) ≤ 2000 := by omega
 have K := Kept.mk (rd_ok s w hs hl)
 have K2 := Kept.mk (fun {w1 : World} {gt cap : Nat} (hrow : ∀ j u,(tokCells (progToks s))[j]? = some u → w1.cell? ⟨gt,j,none⟩ = some u) (hlg : gt < w1.heap.size) => gr_Parse (w := w1) (gt := gt) (capt := cap) (prog_end s hs) (prog_line s) hrow hlg)
 have K3 := Kept.mk (fun {w2 : World} {v2 : Value} {B : Nat} {acc : List GRow} ha ho hx => ck_any s hs hp w2 v2 B acc ha ho hx)
 rw [hp] at K2
 have HQ : Hid ((runQ (pParse (progToks s)).1 q0).st.1 = 0) := hq
 have K4 := Kept.mk (fun {W : World} {gt cap : Nat} (hcap : (progToks s).length ≤ cap) (hrow : ∀ j u,(tokCells (progToks s))[j]? = some u → W.cell? ⟨gt,j,none⟩ = some u) (hlg : gt < W.heap.size) (hW : PowTab W) => pl_Plain (w := W) (gt := gt) (cap := cap) (toks := progToks s) (prog_end s hs) (fun i _ => tok_ok s hs i) hcap hrow hlg hW)
 have HT : Hid (PowTab w) := ht
 clear hp hl hq ht
 go_enter Tryz.func35,Tryz.ntmps35
 go_wp2_with (first | (go_at_call 46;refine (K4.get hcap (fun j u hu => (hg2.trans hg3).cell (hrow j u hu) (by simp)) (Nat.lt_of_lt_of_le hlg (hg2.trans hg3).size) (tab_kept HT.out (fun k hk => ((hg1.trans hg2).trans hg3).block k hk (by simp)))).mono ?_;rintro e w4 ⟨rfl,hg4⟩) | (go_at_call 45;refine (K3.get ha ho hx).mono ?_;rintro e w3 ⟨⟨hbad,_⟩ | ⟨_,bc,bm,B',k,hbnd,rfl,hS⟩,hg3⟩;(exact absurd HQ.out hbad)) | (go_at_call 44;refine (K2.get hrow hlg).mono ?_;rintro e w2 ⟨v2,rfl,hrest,hg2⟩;obtain ⟨acc,ha,ho,hx⟩ := hrest (by trivial)) | (go_at_call 43;refine K.get.mono ?_;rintro e w1 ⟨gt,cap,rfl,hcap,hlg,hrow,hg1⟩))
 go_ret3
 have hB := heap_alloc_new w4 (.cells #[.string ⟨(plainT (progToks s)).toArray⟩,.pointer (some ⟨bc,1,none⟩)] 71)
 have hall := ((hg1.trans hg2).trans hg3).trans hg4
 exact ⟨w4.heap.size,rfl,hall.size,⟨bc,bm,B',k,Nat.le_trans (hg1.trans hg2).size hbnd.1,Nat.le_trans (hg1.trans hg2).size hbnd.2.1,hbnd.2.2,cell_of hB 0 _ rfl,cell_of hB 1 _ rfl,by simp,(hS.grown hg4).alloc _⟩,hall.trans (World.grownBy_alloc _ _ _)⟩
end
section
open Go.RowKit
variable {w w' : World}
structure MdAt (w : World) (b : Nat) (V : List QVar) (C : List QCon) (t : List UInt8) : Prop where
 pl : w.cell? ⟨b,0,none⟩ = some (.string ⟨t.toArray⟩)
 lt : b < w.heap.size
 set : ∃ (bc B : Nat) (vV vC : Value) (cs : List CRow),w.cell? ⟨b,1,none⟩ = some (.pointer (some ⟨bc,1,none⟩)) ∧ SetIn w bc B vV vC V cs ∧ cs.map (·.c) = C
theorem MdAt.grown {b : Nat} {V : List QVar} {C : List QCon} {t : List UInt8} (h : MdAt w b V C t) (hg : w.grownBy w' none) : MdAt w' b V C t := by
 obtain ⟨bc,B,vV,vC,cs,h1,h2,h3⟩ := h.set
 exact ⟨hg.cell h.pl (by simp),Nat.lt_of_lt_of_le h.lt hg.size,bc,B,vV,vC,cs,hg.cell h1 (by simp),h2.grown hg,h3⟩
theorem MdlIs.md {H b : Nat} {s : ByteArray} (h : MdlIs w H b s) (hq : QOk (runQ (pParse (progToks s)).1 q0)) : MdAt w b (runQ (pParse (progToks s)).1 q0).vars (runQ (pParse (progToks s)).1 q0).cons (plainT (progToks s)) := by
 obtain ⟨bc,bm,B,k,_,_,_,h1,h2,h3,n,g,vV,vC,cs,hc,_,_,hv,ho,hs,_⟩ := h
 refine ⟨h1,h3,bc,B,vV,vC,cs,h2,⟨hc.c1,hc.c2,hc.lt,hv,?_,hs.at_⟩,hs.row⟩
 have e : (runQ (pParse (progToks s)).1 q0).m = cs.length := by rw [hq.m,← hs.row,List.length_map]
 rw [e] at ho
 exact ho
structure MdOk (V : List QVar) (C : List QCon) : Prop where
 vars : ∀ v ∈ V,-1000 ≤ v.low ∧ v.low ≤ v.high ∧ v.high ≤ 1000
 vlen : V.length ≤ 8
 cons : ∀ c ∈ C,ConOk V.length (TruthAt V) c
 clen : C.length ≤ 16
end
section
def varsOf (s : ByteArray) : List QVar := (runQ (gsOf s) q0).vars
def consOf (s : ByteArray) : List QCon := (runQ (gsOf s) q0).cons
structure GoodS (s : ByteArray) : Prop where
 sz : s.size ≤ 2000
 lx : (lex s).1 = 0
 fm : (pParse (progToks s)).2.2 = 0
 sn : (runQ (gsOf s) q0).st.1 = 0
variable {s : ByteArray}
theorem GoodS.q (h : GoodS s) : QOk (runQ (gsOf s) q0) := text_ok s h.sz h.fm h.sn
theorem GoodS.md (h : GoodS s) : MdOk (varsOf s) (consOf s) := ⟨h.q.vars,h.q.vlen,h.q.cons,h.q.clen⟩
theorem GoodS.inv (h : GoodS s) : Inv (modOf s) (runQ (gsOf s) q0) := (form_ok s h.sz h.lx h.fm).2.2.2 h.sn
theorem GoodS.vars (h : GoodS s) : (modOf s).vars = (varsOf s).map qP := h.inv.vars.symm
theorem GoodS.inv2 (h : GoodS s) : Inv2 (modOf s) (runQ (gsOf s) q0) := rules_same s h.fm h.sn
theorem stMod_lists (M : SMod) (r : RSt) : (stMod M r).lists.length ≤ M.lists.length + 1 := by
 unfold stMod
 split <;> simp
theorem runS_lists (ss : List RSt) : ∀ (M : SMod) (st : FSt),(runS ss M st).1.lists.length ≤ M.lists.length + ss.length := by
 induction ss with
 | nil => intro M st;simp [runS]
 | cons r ss ih =>
  intro M st
  simp only [runS,List.length_cons]
  split
  ·have h1 := ih (stMod M r) (stSt M r st)
   have h2 := stMod_lists M r
   omega
  ·simp only;omega
theorem GoodS.llen (h : GoodS s) : (modOf s).lists.length ≤ 2500 := by
 have h1 := runS_lists ((gsOf s).map gS) ⟨[],[],[]⟩ (0,0)
 have h2 := (parse_ok s h.sz h.fm).2
 unfold modOf
 rw [List.length_map] at h1
 unfold gsOf at *
 simp only [List.length_nil] at h1
 omega
theorem asg_alike : ∀ (V : List QVar) (vals : List Int),asgQ (V.map qP) vals = asgF V vals
 | [],[] => rfl
 | [],_ :: _ => rfl
 | _ :: _,[] => rfl
 | v :: V,x :: xs => by simp only [List.map_cons,asgQ,asgF];rw [asg_alike V xs];rfl
theorem truth_at {V : List QVar} {vals : List Int} {p : Int} (ha : asgF V vals = true) (ht : TruthAt V p) (hp : PlOk V.length p) : vAt vals p = 0 ∨ vAt vals p = 1 := by
 obtain ⟨v,hv,h1,h2⟩ := ht
 have hl := asg_len ha
 have hx := vAt_get (vals := vals) (p := p) ⟨hp.1,by rw [hl];exact hp.2⟩
 have q := (asg_at hl).1 ha _ v _ hv hx
 simp [inP] at q
 omega
theorem GoodS.fit (h : GoodS s) {lists : List PLst} {rules : List PRul} (hl : lists.map PLst.bare = (modOf s).lists) (hr : rules.map PRul.bare = (modOf s).rules) : SuFit (modOf s).vars lists rules := by
 have q := h.q
 have i2 := h.inv2
 have ev := h.vars
 have hmem : ∀ r ∈ rules,ruleC (lists.map PLst.bare) r.bare ∈ (runQ (gsOf s) q0).cons := fun r hr' => by
  rw [i2.cons,← hr,hl]
  exact List.mem_map.2 ⟨r.bare,List.mem_map.2 ⟨r,hr',rfl⟩,rfl⟩
 refine ⟨by rw [ev,List.length_map];exact q.vlen,fun v hv => ?_,?_,fun l hl' => ?_,?_,fun r hr' => ⟨?_,fun vals ha => ?_,?_⟩⟩
 ·rw [ev] at hv
  obtain ⟨a,ha,rfl⟩ := List.mem_map.1 hv
  have := q.vars a ha
  exact ⟨this.1,this.2.2⟩
 ·have := h.llen
  rw [← hl,List.length_map] at this
  omega
 ·exact i2.lb l.bare (by rw [← hl];exact List.mem_map.2 ⟨l,hl',rfl⟩)
 ·have := q.clen
  rw [i2.cons,← hr] at this
  simpa using this
 ·have := i2.rul r.bare (by rw [← hr];exact List.mem_map.2 ⟨r,hr',rfl⟩)
  rw [hl];exact this
 ·rw [ev,asg_alike] at ha
  have hc := q.cons _ (hmem r hr')
  have hlen : vals.length = (varsOf s).length := asg_len ha
  change ConOk (varsOf s).length (TruthAt (varsOf s)) _ at hc
  rw [← hlen] at hc
  refine ⟨fun e => ?_,fun e => ?_,fun e => ?_,fun e => ?_,fun e => ?_⟩
  ·have ht : (ruleC (lists.map PLst.bare) r.bare).terms = r.parts.map swp := by
    rcases e with e | e
    ·unfold ruleC PRul.bare;simp [e]
    ·unfold ruleC PRul.bare;simp [e]
   refine ⟨fun p hp => ?_,?_⟩
   ·exact hc.terms (swp p) (by rw [ht];exact List.mem_map.2 ⟨p,hp,rfl⟩)
   ·have := hc.tlen
    rw [ht,List.length_map] at this
    exact this
  ·have e1 : (ruleC (lists.map PLst.bare) r.bare).sort = 1 := by unfold ruleC PRul.bare;simp [e]
   have e2 : (ruleC (lists.map PLst.bare) r.bare).truth = r.v := by unfold ruleC PRul.bare;simp [e]
   rw [← e2];exact (hc.truth e1).1
  ·have e1 : (ruleC (lists.map PLst.bare) r.bare).sort = 2 := by unfold ruleC PRul.bare;simp [e]
   have e2 : (ruleC (lists.map PLst.bare) r.bare).place = r.v := by unfold ruleC PRul.bare;simp [e]
   have e3 : (ruleC (lists.map PLst.bare) r.bare).entry = r.w := by unfold ruleC PRul.bare;simp [e]
   rw [← e2,← e3];exact hc.place e1
  ·have ht : (ruleC (lists.map PLst.bare) r.bare).vars = r.parts.map (·.2) := by unfold ruleC PRul.bare;simp [e]
   refine ⟨fun p hp => ?_,?_⟩
   ·exact hc.vars p.2 (by rw [ht];exact List.mem_map.2 ⟨p,hp,rfl⟩)
   ·have := hc.vlen
    rw [ht,List.length_map] at this
    exact this
  ·have ht : (ruleC (lists.map PLst.bare) r.bare).lits = r.parts.map fun p => (p.2,1 - p.1) := by unfold ruleC PRul.bare;simp [e]
   refine ⟨fun p hp => ?_,?_⟩
   ·obtain ⟨h1,h2,h3⟩ := hc.lits (p.2,1 - p.1) (by rw [ht];exact List.mem_map.2 ⟨p,hp,rfl⟩)
    simp only at h1 h2 h3
    exact ⟨h1,by omega,truth_at ha h2 (by rw [hlen] at h1;exact h1)⟩
   ·have := hc.ilen
    rw [ht,List.length_map] at this
    exact this
 ·have := con_pos (q.cons _ (hmem r hr'))
  rw [ev,List.length_map];exact this
theorem GoodS.suits (h : GoodS s) {lists : List PLst} {rules : List PRul} (hl : lists.map PLst.bare = (modOf s).lists) (hr : rules.map PRul.bare = (modOf s).rules) (vals : List Int) : suitsQ (modOf s).vars lists rules vals = suitsP (varsOf s) (consOf s) vals := by
 unfold suitsQ suitsP consOf
 rw [h.vars,asg_alike,h.inv2.cons,← hr,hl,List.map_map,List.all_map]
 rfl
theorem tx_ok (hs : s.size ≤ 2000) {i : Nat} {t : PTok} (ht : (lex s).2.1[i]? = some t) : tkN (progToks s) i = t ∧ TxOk t := by
 have hm := List.mem_of_getElem? ht
 have hlt := (List.getElem?_eq_some_iff.1 ht).1
 have e : tkN (progToks s) i = t := by
  unfold tkN progToks
  rw [List.getD_eq_getElem?_getD,List.getElem?_append_left hlt,ht];rfl
 have hk := lex_kind s t hm
 have ho := lk_srt hk
 have hT := tok_ok s hs i
 rw [e] at hT
 refine ⟨e,fun q => ?_,hT.lit,ho.int,fun q => ?_,fun k l hkl => ?_⟩
 ·have := ho.eof.2 q
  rcases hk with h | h | h | h <;> omega
 ·refine ⟨?_,(lex_int s t hm q).2.1⟩
  rcases hk with h | h | h | h
  ·exact h.2
  all_goals omega
 ·simp only [List.mem_cons,Prod.mk.injEq,List.not_mem_nil,or_false] at hkl
  rcases hkl with ⟨rfl,rfl⟩ | ⟨rfl,rfl⟩ | ⟨rfl,rfl⟩ | ⟨rfl,rfl⟩ | ⟨rfl,rfl⟩ | ⟨rfl,rfl⟩ | ⟨rfl,rfl⟩ | ⟨rfl,rfl⟩
  ·exact ho.byt 11 (by decide) (by decide)
  ·exact ho.byt 13 (by decide) (by decide)
  ·exact ho.byt 12 (by decide) (by decide)
  ·exact ho.byt 19 (by decide) (by decide)
  ·exact ho.byt 18 (by decide) (by decide)
  ·exact ho.byt 17 (by decide) (by decide)
  ·exact ho.byt 22 (by decide) (by decide)
  ·exact ho.byt 21 (by decide) (by decide)
theorem tx_end (hs : s.size ≤ 2000) : srt (tkN (progToks s) (lex s).2.1.length) = 1 := by
 have := (prog_end s hs).2
 unfold progToks
 rw [show tkN ((lex s).2.1 ++ [endTok (lex s).2.2]) (lex s).2.1.length = endTok (lex s).2.2 by unfold tkN;simp [List.getD_eq_getElem?_getD]]
 exact srt_end _
theorem tx_plain : plainF (progToks s) ((lex s).2.1.length + 1) 0 11 [] = plainT (progToks s) := by
 unfold plainT
 rw [show (progToks s).length = (lex s).2.1.length + 1 by simp [progToks]]
end
end Go.Proofs.YthpcbbnabnlanaaGreatDoor
