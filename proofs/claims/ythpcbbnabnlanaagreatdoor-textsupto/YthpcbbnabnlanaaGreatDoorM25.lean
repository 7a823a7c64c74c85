import Derived.Test.YthpcbbnabnlanaaGreatDoorM13
import Derived.Test.YthpcbbnabnlanaaGreatDoorM21
import Derived.Test.YthpcbbnabnlanaaGreatDoorM14
import Derived.Test.YthpcbbnabnlanaaGreatDoorM24
import Derived.Deep.DeepAppendRoom
import Derived.Deep.QuietTactic
import Derived.BigQuiet
namespace Go.Proofs.YthpcbbnabnlanaaGreatDoor
open Go.RowKit
set_option linter.unusedVariables false
set_option linter.unusedSimpArgs false
section
def Grew (w : World) (v v' : Value) (w' : World) : Prop := (v'.ownBlock = v.ownBlock ∧ w.grownBy w' v.ownBlock) ∨ (v'.ownBlock = some w.heap.size ∧ w.grownBy w' none)
theorem run_append_two (w : World) (base : Nat) (t ty e : TypeId) (i : TypeInfo) (z : Value) (size bytes : Nat) (ht : Tryz.prog.underlying t = some (.slice e)) (hi : Tryz.prog.info? e = some i) (hz : i.zero = some z) (hsize : i.size = size) (hby : i.bytes = bytes) (hzs : z.cells.size = size) (hsz : 0 < size) (v : Value) (n : Nat) (xs : List Value) (hown : w.ownsRow base e size v n xs) (a : Addr) (m c : Nat) (news : List Value) (hl : news.length = m * size) (hnews : ∀ j u,news[j]? = some u → w.cell? (a.add j) = some u) (h1 : ∀ u ∈ news,u.oneCell' = true) (h63 : n + m ≤ maxLen) (hbytes : (n + m) * bytes ≤ 140737488355328) (hbase : base ≤ w.heap.size) : ∃ v' w',(Builtin.append_ #[t,t] ty #[v,.slice (some a) m c]).run Tryz.prog w = .ok v' w' ∧ w'.ownsRow base e size v' (n + m) (xs ++ news) ∧
   ((v'.ownBlock = v.ownBlock ∧ w.grownBy w' v.ownBlock) ∨ (v'.ownBlock = some w.heap.size ∧ w.grownBy w' none)) := by
 obtain ⟨v',w',hr,h2,h3,h4,h5⟩ := run_append_own_at (P := Tryz.prog) w base t ty e i z size bytes ht hi hz hsize hby hzs hsz v n xs hown a m c news hl hnews h1 h63 hbytes hbase
 refine ⟨v',w',hr,h2,?_⟩
 rcases hown.2 with ⟨rfl,rfl⟩ | ⟨g,cap,cur,rfl,hb,hg,hnc,hcm,hcs,htake⟩
 ·rcases h5 with h5 | h5
  ·exact .inl ⟨h5,h3⟩
  ·exact .inr ⟨h5,h3⟩
 ·by_cases hroom : n + m ≤ cap
  ·obtain ⟨w2,hr2,_,hg2⟩ := run_append_own_spare (P := Tryz.prog) w base t ty e i size ht hi hsize g n cap xs hown a m c news hl hnews h1 hroom
   rw [hr2] at hr
   injection hr with e1 e2
   subst e1 e2
   exact .inl ⟨rfl,hg2⟩
  ·have hsmall : n + m ≤ 9223372036854775807 := by simp only [maxLen] at h63;omega
   have hold : ∀ j u,xs[j]? = some u → w.cell? ((⟨g,0,none⟩ : Addr).add j) = some u := hown.cells (g := g) rfl
   subst hsize hby
   have hr2 := run_append_grow (P := Tryz.prog) w t ty e i z ht hi hz ⟨g,0,none⟩ n cap xs hown.1 hold a m c news hl hnews (by omega) (by omega) (growslice_fits (by omega) hbytes)
   rw [hr2] at hr
   injection hr with e1 e2
   subst e1 e2
   exact .inr ⟨rfl,(grown_drew' w none).trans (World.grownBy_alloc _ _ _)⟩
theorem wpList_append_two {w : World} {ops : Array Oper} {rest : List Oper} {o : Oper} {a : Act} {Q : Exit → Act → World → Prop} (hgd : o.guard = none) (s x : Operand) (t : TypeId) (ho : o.op = .call { callee := .builtin .append,args := #[s,x],argTypes := #[t,t] })
  (base : Nat) (e : TypeId) (i : TypeInfo) (z : Value) (size bytes : Nat) (ht : Tryz.prog.underlying t = some (.slice e)) (hi : Tryz.prog.info? e = some i) (hz : i.zero = some z)
  (hsize : i.size = size) (hby : i.bytes = bytes) (hzs : z.cells.size = size) (hsz : 0 < size) (v : Value) (n : Nat) (xs : List Value) (hs : a.eval s = v) (hown : w.ownsRow base e size v n xs)
  (ad : Addr) (m c : Nat) (news : List Value) (hx : a.eval x = .slice (some ad) m c) (hl : news.length = m * size) (hnews : ∀ j u,news[j]? = some u → w.cell? (ad.add j) = some u) (h1 : ∀ u ∈ news,u.oneCell' = true)
  (h63 : n + m ≤ maxLen) (hbytes : (n + m) * bytes ≤ 140737488355328) (hbase : base ≤ w.heap.size)
  (h : ∀ v' w',w'.ownsRow base e size v' (n + m) (xs ++ news) → Grew w v v' w' → wpList Tryz.prog ops Q rest (a.put o.dst v') w') :
  wpList Tryz.prog ops Q (o :: rest) a w := by
 refine wpList_plain hgd fun K hK => ?_
 obtain ⟨v',w',hr,h2,h3⟩ := run_append_two w base t o.type e i z size bytes ht hi hz hsize hby hzs hsz v n xs hown ad m c news hl hnews h1 h63 hbytes hbase
 unfold Oper.wp execOp
 simp only [ho,resolve,invoke,builtin,Sem.run_bind,Sem.run_pure,Result.andThen_ok,List.map_toArray,List.map_cons,List.map_nil,hs,hx,hr]
 exact hK _ _ (h v' w' h2 h3)
structure Keep where
 S : List Nat
 P : World → Prop
 ok : ∀ w w' : World,(∀ k ∈ S,w'.heap[k]? = w.heap[k]?) → P w → P w'
structure LP where
 g : Nat
 len : Nat
 cap : Nat
 mark : Value
def LP.v (x : LP) : Value := .slice (some ⟨x.g,0,none⟩) x.len x.cap
def ListAt (w : World) (x : LP) : Prop := ∀ j,j < x.len → w.cell? ⟨x.g,j,none⟩ = some x.mark
def lstKeep (x : LP) : Keep := ⟨[x.g],fun w => ListAt w x,fun w w' h q j hj => (World.cell?_of_block (a := ⟨x.g,j,none⟩) (h x.g (by simp))).trans (q j hj)⟩
structure Seg (w0 : World) (H : Nat) (w : World) : Prop where
 size : w0.heap.size ≤ w.heap.size
 blk : ∀ k,H ≤ k → k < w0.heap.size → w.heap[k]? = w0.heap[k]?
theorem cellLt {w : World} {g o : Nat} {u : Value} (h : w.cell? ⟨g,o,none⟩ = some u) : g < w.heap.size := by
 rcases Nat.lt_or_ge g w.heap.size with q | q
 ·exact q
 ·simp [World.cell?,Array.getElem?_eq_none q] at h
section
variable {w0 w1 w w' : World} {H : Nat}
theorem Seg.cell (h : Seg w0 H w) {g o : Nat} {u : Value} (hg : H ≤ g) (hu : w0.cell? ⟨g,o,none⟩ = some u) : w.cell? ⟨g,o,none⟩ = some u :=
 (World.cell?_of_block (a := ⟨g,o,none⟩) (h.blk g hg (cellLt hu))).trans hu
theorem Seg.own (h : Seg w0 H w) {B e s n : Nat} {v : Value} {xs : List Value} (hB : H ≤ B) (ho : w0.ownsRow B e s v n xs) : w.ownsRow B e s v n xs := by
 refine ⟨ho.1,?_⟩
 rcases ho.2 with q | ⟨g,cap,cur,h1,h2,h3,h4⟩
 ·exact .inl q
 ·exact .inr ⟨g,cap,cur,h1,h2,by rw [h.blk g (by omega) (ho.lt g (by rw [h1];rfl)).2];exact h3,h4⟩
theorem Seg.low (h : Seg w1 H w) (hg : w0.grownBy w1 none) : Seg w0 H w := ⟨Nat.le_trans hg.size h.size,fun k h1 h2 => (h.blk k h1 (Nat.lt_of_lt_of_le h2 hg.size)).trans (hg.block k h2 (by simp))⟩
theorem Seg.up (h : Seg w0 H w) {H' : Nat} (hH : H ≤ H') : Seg w0 H' w := ⟨h.size,fun k h1 h2 => h.blk k (by omega) h2⟩
theorem Seg.self (w : World) (H : Nat) : Seg w H w := ⟨Nat.le_refl _,fun _ _ _ => rfl⟩
theorem MdlIs.seg {b : Nat} {s : ByteArray} (h : MdlIs w0 H b s) (hb : H ≤ b) (hq : QOk (runQ (gsOf s) q0)) (hS : Seg w0 H w) : MdAt w b (varsOf s) (consOf s) (plainT (progToks s)) := by
 obtain ⟨bc,bm,B,k,hbc,hB,_,h1,h2,h3,n,g,vV,vC,cs,hc,_,_,hv,ho,hs,_⟩ := h
 refine ⟨hS.cell hb h1,Nat.lt_of_lt_of_le h3 hS.size,bc,B,vV,vC,cs,hS.cell hb h2,⟨hS.cell hbc hc.c1,hS.cell hbc hc.c2,Nat.lt_of_lt_of_le hc.lt hS.size,hS.own hB hv,?_,fun x hx => ?_⟩,hs.row⟩
 ·have hm := hq.m
  unfold gsOf at hm
  have e : (runQ (pParse (progToks s)).1 q0).m = cs.length := by rw [hm,← hs.row,List.length_map]
  rw [e] at ho
  exact hS.own hB ho
 ·have q := hs.at_ x hx
  exact ⟨hS.own hB q.t,hS.own hB q.l,hS.own hB q.v,hS.own hB q.i⟩
end
def RefSeen (w : World) (r : Nat) (s : ByteArray) : Prop := ∃ (ta va la ra : Option Addr) (tc vc lc rc : Nat) (lists : List PLst) (rules : List PRul),r < w.heap.size ∧ TkA w r ta tc (lex s).2.1 ∧ RMd w r va la ra vc lc rc (modOf s).vars lists rules ∧ lists.map PLst.bare = (modOf s).lists ∧ rules.map PRul.bare = (modOf s).rules
structure MP where
 b : Nat
 r : Nat
 H : Nat
 w0 : World
 s : ByteArray
def MP.blocks (x : MP) : List Nat := List.range' x.H (x.w0.heap.size - x.H)
theorem MP.mem {x : MP} {k : Nat} (h1 : x.H ≤ k) (h2 : k < x.w0.heap.size) : k ∈ x.blocks := by unfold MP.blocks;rw [List.mem_range'_1];omega
structure ModAt (w : World) (x : MP) : Prop where
 seg : Seg x.w0 x.H w
 p : ∀ w,Seg x.w0 x.H w → MdAt w x.b (varsOf x.s) (consOf x.s) (plainT (progToks x.s))
 r : ∀ w,Seg x.w0 x.H w → RefSeen w x.r x.s
 good : GoodS x.s
 lt : x.H < x.w0.heap.size
theorem ModAt.turn {w w' : World} {x : MP} (h : ∀ k ∈ x.blocks,w'.heap[k]? = w.heap[k]?) (q : ModAt w x) : ModAt w' x := by
 have hb : ∀ k,x.H ≤ k → k < x.w0.heap.size → w'.heap[k]? = x.w0.heap[k]? := fun k h1 h2 => (h k (MP.mem h1 h2)).trans (q.seg.blk k h1 h2)
 have hl := q.lt
 refine ⟨⟨?_,hb⟩,q.p,q.r,q.good,hl⟩
 have e := hb (x.w0.heap.size - 1) (by omega) (by omega)
 rcases Nat.lt_or_ge (x.w0.heap.size - 1) w'.heap.size with c | c
 ·omega
 ·rw [Array.getElem?_eq_none c,Array.getElem?_eq_getElem (by omega)] at e;cases e
theorem ModAt.prog {w : World} {x : MP} (q : ModAt w x) : MdAt w x.b (varsOf x.s) (consOf x.s) (plainT (progToks x.s)) := q.p w q.seg
theorem ModAt.ref {w : World} {x : MP} (q : ModAt w x) : RefSeen w x.r x.s := q.r w q.seg
def modKeep (x : MP) : Keep := ⟨x.blocks,fun w => ModAt w x,fun _ _ h q => q.turn h⟩
def mpCells (x : MP) : List Value := [.pointer (some ⟨x.b,0,none⟩),.pointer (some ⟨x.r,0,none⟩)]
structure LV where
 m : Value
 n : Value
 k : Value
 u : Value
 x : Value
 r : Value
 y : Value
def LV.get (V : LV) : Nat → Value
 | 0 => V.m
 | 1 => V.n
 | 2 => V.k
 | 3 => V.u
 | 4 => V.x
 | 5 => V.r
 | _ => V.y
def LV.put (V : LV) (i : Nat) (v : Value) : LV := match i with
 | 0 => { V with m := v }
 | 1 => { V with n := v }
 | 2 => { V with k := v }
 | 3 => { V with u := v }
 | 4 => { V with x := v }
 | 5 => { V with r := v }
 | _ => { V with y := v }
def lwCells (V : LV) (c : Nat) : Array Value := #[V.m,V.n,V.k,V.u,V.x,V.r,V.y,.int .i64 c]
theorem seven {i : Nat} (hi : i < 7) : i = 0 ∨ i = 1 ∨ i = 2 ∨ i = 3 ∨ i = 4 ∨ i = 5 ∨ i = 6 := by omega
theorem LV.get_put (V : LV) (i j : Nat) (v : Value) (hi : i < 7) (hj : j < 7) : (V.put i v).get j = if j = i then v else V.get j := by
 rcases seven hi with rfl | rfl | rfl | rfl | rfl | rfl | rfl <;> rcases seven hj with rfl | rfl | rfl | rfl | rfl | rfl | rfl <;> rfl
theorem lw_set (V : LV) (c i : Nat) (v : Value) (hi : i < 7) : (lwCells V c).setIfInBounds i v = lwCells (V.put i v) c := by
 rcases seven hi with rfl | rfl | rfl | rfl | rfl | rfl | rfl <;> rfl
structure LD where
 ms : List MP
 ns : List LP
 ks : List Value
 us : List LP
 xs : List Value
 rs : List LP
 ys : List Value
def LD.cells (D : LD) : Nat → List Value
 | 0 => D.ms.flatMap mpCells
 | 1 => D.ns.map LP.v
 | 2 => D.ks
 | 3 => D.us.map LP.v
 | 4 => D.xs
 | 5 => D.rs.map LP.v
 | _ => D.ys
def LD.cnt (D : LD) : Nat → Nat
 | 0 => D.ms.length
 | 1 => D.ns.length
 | 2 => D.ks.length
 | 3 => D.us.length
 | 4 => D.xs.length
 | 5 => D.rs.length
 | _ => D.ys.length
def ety : Nat → TypeId
 | 0 => 83
 | 1 => 37
 | 2 => 9
 | 3 => 33
 | 4 => 3
 | 5 => 30
 | _ => 3
def esz : Nat → Nat
 | 0 => 2
 | _ => 1
def Free (bw : Nat) (V : LV) (k : Nat) : Prop := k ≠ bw ∧ ∀ i,i < 7 → (V.get i).ownBlock ≠ some k
structure LW (w : World) (B bw : Nat) (V : LV) (D : LD) (c : Nat) (K : Keep → Prop) : Prop where
 blk : w.heap[bw]? = some (.cells (lwCells V c) 59 (0,0))
 lt : bw < B
 hB : B ≤ w.heap.size
 own : ∀ i,i < 7 → w.ownsRow B (ety i) (esz i) (V.get i) (D.cnt i) (D.cells i)
 ap : ∀ i j,i < 7 → j < 7 → i ≠ j → ∀ k,(V.get i).ownBlock = some k → (V.get j).ownBlock ≠ some k
 kp : ∀ x,K x → x.P w ∧ ∀ k ∈ x.S,k < w.heap.size ∧ Free bw V k
variable {w w' w1 : World} {B bw c : Nat} {V : LV} {D : LD} {K : Keep → Prop}
theorem LW.slt (h : LW w B bw V D c K) : bw < w.heap.size := Nat.lt_of_lt_of_le h.lt h.hB
theorem LW.ownB (h : LW w B bw V D c K) {i k : Nat} (hi : i < 7) (e : (V.get i).ownBlock = some k) : B ≤ k ∧ k < w.heap.size := (h.own i hi).lt k e
theorem LW.frame {S : List Nat} (h : LW w B bw V D c K) (hb : But S w w') (hS : ∀ k ∈ S,Free bw V k ∧ ∀ x,K x → k ∉ x.S) : LW w' B bw V D c K where
 blk := (hb.block bw h.slt (fun e => (hS bw e).1.1 rfl)).trans h.blk
 lt := h.lt
 hB := Nat.le_trans h.hB hb.size
 own := fun i hi => ownBut (h.own i hi) hb (fun k e q => (hS k q).1.2 i hi e)
 ap := h.ap
 kp := fun x hx => ⟨x.ok w w' (fun k hk => hb.block k ((h.kp x hx).2 k hk).1 (fun q => (hS k q).2 x hx hk)) (h.kp x hx).1,fun k hk => ⟨Nat.lt_of_lt_of_le ((h.kp x hx).2 k hk).1 hb.size,((h.kp x hx).2 k hk).2⟩⟩
theorem LW.grown (h : LW w B bw V D c K) (hg : w.grownBy w' none) : LW w' B bw V D c K :=
 h.frame (S := []) (But.of_grown hg (fun k e => by cases e)) (fun k hk => by simp at hk)
theorem LW.alloc (h : LW w B bw V D c K) (o : Obj) : LW (w.alloc o) B bw V D c K := h.grown (World.grownBy_alloc _ _ _)
theorem LW.drew (h : LW w B bw V D c K) : LW w.drew B bw V D c K := h.grown (grown_drew' _ _)
theorem LW.keep (h : LW w B bw V D c K) (K' : Keep → Prop) (hK : ∀ x,K' x → K x ∨ (x.P w ∧ ∀ k ∈ x.S,k < w.heap.size ∧ Free bw V k)) : LW w B bw V D c K' :=
 ⟨h.blk,h.lt,h.hB,h.own,h.ap,fun x hx => (hK x hx).elim (h.kp x) id⟩
theorem LW.count (h : LW w B bw V D c K) (c' : Nat) : LW (w.setCell ⟨bw,7,none⟩ (.int .i64 c')) B bw V D c' K where
 blk := set_at h.blk 7 _ rfl
 lt := h.lt
 hB := Nat.le_trans h.hB (grown_set w bw 7 _).size
 own := fun i hi => (h.own i hi).kept (grown_set w bw 7 _) (.inr (fun e => by have := (h.ownB hi e).1;have := h.lt;omega))
 ap := h.ap
 kp := fun x hx => ⟨x.ok _ _ (fun k hk => (grown_set w bw 7 (.int .i64 c')).block k ((h.kp x hx).2 k hk).1 (fun e => ((h.kp x hx).2 k hk).2.1 (Option.some.inj e))) (h.kp x hx).1,fun k hk => ⟨Nat.lt_of_lt_of_le ((h.kp x hx).2 k hk).1 (grown_set w bw 7 _).size,((h.kp x hx).2 k hk).2⟩⟩
theorem Grew.by {v v' : Value} (h : Grew w v v' w') : w.grownBy w' v.ownBlock := by
 rcases h with ⟨_,h⟩ | ⟨_,h⟩
 ·exact h
 ·exact ⟨h.os,h.tape,h.output,h.size,fun k hk _ => h.block k hk (by simp)⟩
theorem Grew.blk {v v' : Value} (h : Grew w v v' w') {k : Nat} (e : v'.ownBlock = some k) : v.ownBlock = some k ∨ k = w.heap.size := by
 rcases h with ⟨h,_⟩ | ⟨h,_⟩
 ·exact .inl (h ▸ e)
 ·rw [h] at e;exact .inr (Option.some.inj e).symm
theorem LW.push {i n' : Nat} {v' : Value} {xs' : List Value} {D' : LD} (h : LW w B bw V D c K) (hi : i < 7) (hown : w1.ownsRow B (ety i) (esz i) v' n' xs') (hg : Grew w (V.get i) v' w1) (hn : ∀ j,j < 7 → D'.cnt j = if j = i then n' else D.cnt j) (hc : ∀ j,j < 7 → D'.cells j = if j = i then xs' else D.cells j) : LW (w1.setCell ⟨bw,i,none⟩ v') B bw (V.put i v') D' c K := by
 have g1 := hg.by
 have hbw : (V.get i).ownBlock ≠ some bw := fun e => by have := (h.ownB hi e).1;have := h.lt;omega
 have gs := grown_set w1 bw i v'
 have old : ∀ k,k < w.heap.size → k ≠ bw → (V.get i).ownBlock ≠ some k → (w1.setCell ⟨bw,i,none⟩ v').heap[k]? = w.heap[k]? := fun k hk h1 h2 =>
  (gs.block k (Nat.lt_of_lt_of_le hk g1.size) (fun e => h1 (Option.some.inj e))).trans (g1.block k hk (fun e => h2 e.symm))
 have fr : ∀ k,k < w.heap.size → Free bw V k → Free bw (V.put i v') k := fun k hk f => by
  refine ⟨f.1,fun j hj => ?_⟩
  rw [V.get_put i j v' hi hj]
  split
  ·intro e
   rcases hg.blk e with q | q
   ·exact f.2 i hi q
   ·omega
  ·exact f.2 j hj
 refine ⟨?_,h.lt,Nat.le_trans h.hB (Nat.le_trans g1.size gs.size),fun j hj => ?_,fun j j' hj hj' hne k => ?_,fun x hx => ?_⟩
 ·exact set_at ((g1.block bw h.slt (fun e => hbw e.symm)).trans h.blk) i v' (lw_set V c i v' hi)
 ·rw [V.get_put i j v' hi hj,hn j hj,hc j hj]
  by_cases e : j = i
  ·subst e
   rw [if_pos rfl,if_pos rfl,if_pos rfl]
   exact hown.kept gs (.inr (fun e => by have := (hown.lt _ e).1;have := h.lt;omega))
  ·rw [if_neg e,if_neg e,if_neg e]
   have q1 : (V.get j).ownBlock = none ∨ (V.get j).ownBlock ≠ (V.get i).ownBlock := by
    cases hq : (V.get j).ownBlock with
    | none => exact .inl rfl
    | some k => exact .inr (fun q => h.ap j i hj hi e k hq q.symm)
   exact ((h.own j hj).kept g1 q1).kept gs (.inr (fun e => by have := (h.ownB hj e).1;have := h.lt;omega))
 ·rw [V.get_put i j v' hi hj,V.get_put i j' v' hi hj']
  intro e1
  by_cases c1 : j = i
  ·subst c1
   rw [if_pos rfl] at e1
   rw [if_neg (fun q => hne q.symm)]
   intro e2
   rcases hg.blk e1 with q | q
   ·exact h.ap j j' hj hj' hne k q e2
   ·have := (h.ownB hj' e2).2;omega
  ·rw [if_neg c1] at e1
   by_cases c2 : j' = i
   ·subst c2
    rw [if_pos rfl]
    intro e2
    rcases hg.blk e2 with q | q
    ·exact h.ap j j' hj hj' hne k e1 q
    ·have := (h.ownB hj e1).2;omega
   ·rw [if_neg c2]
    exact h.ap j j' hj hj' hne k e1
 ·have hk := (h.kp x hx).2
  exact ⟨x.ok _ _ (fun k q => old k (hk k q).1 (hk k q).2.1 ((hk k q).2.2 i hi)) (h.kp x hx).1,fun k q => ⟨Nat.lt_of_lt_of_le (hk k q).1 (Nat.le_trans g1.size gs.size),fr k (hk k q).1 (hk k q).2⟩⟩
structure FrB (B bw : Nat) (w w' : World) : Prop where
 os : w'.os = w.os
 tape : w'.tape = w.tape
 output : w'.output = w.output
 size : w.heap.size ≤ w'.heap.size
 block : ∀ i,i < B → i ≠ bw → w'.heap[i]? = w.heap[i]?
theorem FrB.refl (B bw : Nat) (w : World) : FrB B bw w w := ⟨rfl,rfl,rfl,Nat.le_refl _,fun _ _ _ => rfl⟩
theorem FrB.trans (h : FrB B bw w w1) (k : FrB B bw w1 w') : FrB B bw w w' := ⟨k.os.trans h.os,k.tape.trans h.tape,k.output.trans h.output,Nat.le_trans h.size k.size,fun i h1 h2 => (k.block i h1 h2).trans (h.block i h1 h2)⟩
theorem FrB.grown {row : Option Nat} (h : FrB B bw w w1) (hB : B ≤ w1.heap.size) (hg : w1.grownBy w' row) (hr : ∀ k,row = some k → k = bw ∨ B ≤ k) : FrB B bw w w' :=
 ⟨hg.os.trans h.os,hg.tape.trans h.tape,hg.output.trans h.output,Nat.le_trans h.size hg.size,fun i h1 h2 => (hg.block i (by omega) (fun e => by rcases hr i e.symm with q | q;exact h2 q;omega)).trans (h.block i h1 h2)⟩
end
section
variable {w w' w1 wr wB : World} {B bw c : Nat} {V V1 : LV} {D D1 : LD} {K : Keep → Prop}
def LD.pl (D : LD) (i : Nat) (x : LP) : LD := match i with
 | 1 => { D with ns := D.ns ++ [x] }
 | 3 => { D with us := D.us ++ [x] }
 | _ => { D with rs := D.rs ++ [x] }
def LD.pk (D : LD) (i : Nat) (v : Value) : LD := match i with
 | 2 => { D with ks := D.ks ++ [v] }
 | 4 => { D with xs := D.xs ++ [v] }
 | _ => { D with ys := D.ys ++ [v] }
theorem pl_cnt (D : LD) (x : LP) {i j : Nat} (hi : i = 1 ∨ i = 3 ∨ i = 5) (hj : j < 7) : (D.pl i x).cnt j = if j = i then D.cnt i + 1 else D.cnt j := by
 rcases hi with rfl | rfl | rfl <;> rcases seven hj with rfl | rfl | rfl | rfl | rfl | rfl | rfl <;> simp [LD.pl,LD.cnt]
theorem pl_cells (D : LD) (x : LP) {i j : Nat} (hi : i = 1 ∨ i = 3 ∨ i = 5) (hj : j < 7) : (D.pl i x).cells j = if j = i then D.cells i ++ [x.v] else D.cells j := by
 rcases hi with rfl | rfl | rfl <;> rcases seven hj with rfl | rfl | rfl | rfl | rfl | rfl | rfl <;> simp [LD.pl,LD.cells]
theorem pk_cnt (D : LD) (v : Value) {i j : Nat} (hi : i = 2 ∨ i = 4 ∨ i = 6) (hj : j < 7) : (D.pk i v).cnt j = if j = i then D.cnt i + 1 else D.cnt j := by
 rcases hi with rfl | rfl | rfl <;> rcases seven hj with rfl | rfl | rfl | rfl | rfl | rfl | rfl <;> simp [LD.pk,LD.cnt]
theorem pk_cells (D : LD) (v : Value) {i j : Nat} (hi : i = 2 ∨ i = 4 ∨ i = 6) (hj : j < 7) : (D.pk i v).cells j = if j = i then D.cells i ++ [v] else D.cells j := by
 rcases hi with rfl | rfl | rfl <;> rcases seven hj with rfl | rfl | rfl | rfl | rfl | rfl | rfl <;> simp [LD.pk,LD.cells]
def pushAll (D : LD) (i : Nat) (L : List LP) : LD := L.foldl (fun D x => (D.pl i x).pk (i + 1) x.mark) D
theorem pushAll_snoc (D : LD) (i : Nat) (L : List LP) (x : LP) : pushAll D i (L ++ [x]) = ((pushAll D i L).pl i x).pk (i + 1) x.mark := by simp [pushAll]
theorem pushAll_cnt (D : LD) {i : Nat} (hi : i = 1 ∨ i = 3 ∨ i = 5) (L : List LP) : ∀ j,j < 7 → (pushAll D i L).cnt j ≤ D.cnt j + L.length := by
 induction L generalizing D with
 | nil => intro j hj;simp [pushAll]
 | cons x L ih =>
  intro j hj
  have h := ih ((D.pl i x).pk (i + 1) x.mark) j hj
  have e : pushAll D i (x :: L) = pushAll ((D.pl i x).pk (i + 1) x.mark) i L := rfl
  rw [e]
  rw [pk_cnt _ _ (by omega) hj,pl_cnt _ _ hi (by omega : i + 1 < 7),pl_cnt _ _ hi hj] at h
  simp only [List.length_cons]
  split at h
  ·rename_i hji
   subst hji
   have : ¬ (i + 1 = i) := by omega
   simp only [this,if_false] at h;omega
  ·split at h
   ·rename_i hji;subst hji;omega
   ·omega
structure Went (w w' : World) (B bw g : Nat) (V V' : LV) (K K' : Keep → Prop) : Prop where
 fr : ∀ k,k < w.heap.size → Free bw V k → Free bw V' k
 bl : ∀ k,k < w.heap.size → Free bw V k → k ≠ g → w'.heap[k]? = w.heap[k]?
 frb : FrB B bw w w'
 kk : ∀ x,K x → K' x
 kn : ∀ x,K' x → K x ∨ ∀ k ∈ x.S,k = g ∨ w.heap.size ≤ k
theorem push_old {i : Nat} {v' : Value} (h : LW w B bw V D c K) (hi : i < 7) (hg : Grew w (V.get i) v' w1) : ∀ k,k < w.heap.size → Free bw V k → (w1.setCell ⟨bw,i,none⟩ v').heap[k]? = w.heap[k]? ∧ Free bw (V.put i v') k := fun k hk f => by
 have g1 := hg.by
 refine ⟨((grown_set w1 bw i v').block k (Nat.lt_of_lt_of_le hk g1.size) (fun e => f.1 (Option.some.inj e))).trans (g1.block k hk (fun e => f.2 i hi e.symm)),f.1,fun j hj => ?_⟩
 rw [V.get_put i j v' hi hj]
 split
 ·intro e
  rcases hg.blk e with q | q
  ·exact f.2 i hi q
  ·omega
 ·exact f.2 j hj
theorem push_frb {i : Nat} {v' : Value} {w0 : World} (hf : FrB B bw w0 w) (h : LW w B bw V D c K) (hi : i < 7) (hg : Grew w (V.get i) v' w1) : FrB B bw w0 (w1.setCell ⟨bw,i,none⟩ v') :=
 (hf.grown h.hB hg.by (fun k e => .inr (h.ownB hi e).1)).grown (Nat.le_trans h.hB hg.by.size) (grown_set w1 bw i v') (fun k e => by cases e;exact .inl rfl)
theorem own_turn {B e s n : Nat} {v : Value} {xs : List Value} (h : w.ownsRow B e s v n xs) (hb : ∀ k,v.ownBlock = some k → w'.heap[k]? = w.heap[k]?) : w'.ownsRow B e s v n xs := by
 refine ⟨h.1,?_⟩
 rcases h.2 with q | ⟨g,cap,cur,h1,h2,h3,h4⟩
 ·exact .inl q
 ·exact .inr ⟨g,cap,cur,h1,h2,by rw [hb g (by rw [h1];rfl)];exact h3,h4⟩
theorem list_turn {x : LP} (h : ListAt w x) (hb : w'.heap[x.g]? = w.heap[x.g]?) : ListAt w' x := fun j hj => (World.cell?_of_block (a := ⟨x.g,j,none⟩) hb).trans (h j hj)
theorem own_repl {B e gi m cap : Nat} {mark : Value} (h : w.ownsRow B e 1 (.slice (some ⟨gi,0,none⟩) m cap) m (List.replicate m mark)) : ListAt w ⟨gi,m,cap,mark⟩ := fun j hj => by
 change j < m at hj
 have q := h.cells (g := gi) rfl j mark (by simp [hj])
 have hadd : (⟨gi,0,none⟩ : Addr).add j = ⟨gi,j,none⟩ := by unfold Addr.add;split <;> simp_all
 rw [hadd] at q;exact q
structure Tx (w wr : World) (B bw g c : Nat) (V : LV) (D : LD) (K : Keep → Prop) (ri : Nat) (e : TypeId) (V1 : LV) (D1 : LD) (L : List LP) (gi cap m : Nat) (mark : Value) : Prop where
 lw : LW wr B bw V1 D1 c K
 d : D1 = pushAll D ri L
 own : wr.ownsRow B e 1 (.slice (some ⟨gi,0,none⟩) m cap) m (List.replicate m mark)
 new : gi = g ∨ w.heap.size ≤ gi
 free : Free bw V1 gi
 nk : ∀ x,K x → gi ∉ x.S
 lst : ∀ x ∈ L,x.mark = mark ∧ x.len ≤ m ∧ (x.g = g ∨ w.heap.size ≤ x.g) ∧ x.g < wr.heap.size ∧ Free bw V1 x.g ∧ ListAt wr x
 wf : ∀ k,k < w.heap.size → Free bw V k → Free bw V1 k
 wb : ∀ k,k < w.heap.size → Free bw V k → k ≠ g → wr.heap[k]? = w.heap[k]?
 frb : FrB B bw w wr
variable {g ri gi cap m : Nat} {e : TypeId} {L : List LP} {mark : Value}
theorem Tx.grown (h : Tx w wr B bw g c V D K ri e V1 D1 L gi cap m mark) (hg : wr.grownBy w' none) : Tx w w' B bw g c V D K ri e V1 D1 L gi cap m mark where
 lw := h.lw.grown hg
 d := h.d
 own := h.own.kept hg (own_none _)
 new := h.new
 free := h.free
 nk := h.nk
 lst := fun x hx => by
  obtain ⟨h1,h2,h3,h4,h5,h6⟩ := h.lst x hx
  exact ⟨h1,h2,h3,Nat.lt_of_lt_of_le h4 hg.size,h5,list_turn h6 (hg.block _ h4 (by simp))⟩
 wf := h.wf
 wb := fun k hk f hne => (hg.block k (Nat.lt_of_lt_of_le hk h.frb.size) (by simp)).trans (h.wb k hk f hne)
 frb := h.frb.grown h.lw.hB hg (fun k e => by cases e)
theorem Tx.push {W1 W2 w2 : World} {va vb : Value} (h : Tx w wr B bw g c V D K ri e V1 D1 L gi cap m mark) (hri : ri = 1 ∨ ri = 3 ∨ ri = 5) (ha : w1.ownsRow B (ety ri) (esz ri) va (D1.cnt ri + 1) (D1.cells ri ++ [.slice (some ⟨gi,0,none⟩) m cap])) (hW1 : wr.grownBy W1 none) (ga : Grew W1 (V1.get ri) va w1) (hb : w2.ownsRow B (ety (ri + 1)) (esz (ri + 1)) vb (D1.cnt (ri + 1) + 1) (D1.cells (ri + 1) ++ [mark])) (hW2 : (w1.setCell ⟨bw,ri,none⟩ va).grownBy W2 none) (gb : Grew W2 (V1.get (ri + 1)) vb w2) : ∃ V2 D2,Tx w (w2.setCell ⟨bw,ri + 1,none⟩ vb) B bw g c V D K ri e V2 D2 (L ++ [⟨gi,m,cap,mark⟩]) gi cap m mark := by
 have hi7 : ri < 7 := by omega
 have hj7 : ri + 1 < 7 := by omega
 have h0 := h.grown hW1
 have l1 := h0.lw.push (D' := D1.pl ri ⟨gi,m,cap,mark⟩) hi7 ha ga (fun j hj => pl_cnt _ _ hri hj) (fun j hj => pl_cells _ _ hri hj)
 have e1 : (V1.put ri va).get (ri + 1) = V1.get (ri + 1) := by rw [V1.get_put ri (ri + 1) va hi7 hj7,if_neg (by omega)]
 have l1' := l1.grown hW2
 have gb' : Grew W2 ((V1.put ri va).get (ri + 1)) vb w2 := by rw [e1];exact gb
 have c1 : (D1.pl ri ⟨gi,m,cap,mark⟩).cnt (ri + 1) = D1.cnt (ri + 1) := by rw [pl_cnt _ _ hri hj7,if_neg (by omega)]
 have c2 : (D1.pl ri ⟨gi,m,cap,mark⟩).cells (ri + 1) = D1.cells (ri + 1) := by rw [pl_cells _ _ hri hj7,if_neg (by omega)]
 have l2 := l1'.push (D' := (D1.pl ri ⟨gi,m,cap,mark⟩).pk (ri + 1) mark) hj7 hb gb' (fun j hj => by rw [pk_cnt _ _ (by omega) hj,c1]) (fun j hj => by rw [pk_cells _ _ (by omega) hj,c2])
 have p1 := push_old h0.lw hi7 ga
 have p2 := push_old l1' hj7 gb'
 have z0 : wr.heap.size ≤ W1.heap.size := hW1.size
 have z1 := Nat.le_trans z0 (Nat.le_trans ga.by.size (grown_set w1 bw ri va).size)
 have z2 := Nat.le_trans z1 hW2.size
 have z3 := Nat.le_trans z2 (Nat.le_trans gb.by.size (grown_set w2 bw (ri + 1) vb).size)
 have old : ∀ k,k < wr.heap.size → Free bw V1 k → (w2.setCell ⟨bw,ri + 1,none⟩ vb).heap[k]? = wr.heap[k]? ∧ Free bw ((V1.put ri va).put (ri + 1) vb) k := fun k hk f => by
  obtain ⟨q1,q2⟩ := p1 k (by omega) f
  obtain ⟨q3,q4⟩ := p2 k (by omega) q2
  exact ⟨q3.trans ((hW2.block k (by omega) (by simp)).trans (q1.trans (hW1.block k hk (by simp)))),q4⟩
 have gl : gi < wr.heap.size := (h.own.lt gi rfl).2
 refine ⟨_,_,l2,by rw [h.d,pushAll_snoc],own_turn h.own (fun k e => ?_),h.new,(old gi gl h.free).2,h.nk,fun x hx => ?_,fun k hk f => ?_,fun k hk f hne => ?_,?_⟩
 ·have : gi = k := Option.some.inj e
  subst this;exact (old gi gl h.free).1
 ·rcases List.mem_append.1 hx with hx | hx
  ·obtain ⟨h1,h2,h3,h4,h5,h6⟩ := h.lst x hx
   exact ⟨h1,h2,h3,Nat.lt_of_lt_of_le h4 z3,(old _ h4 h5).2,list_turn h6 (old _ h4 h5).1⟩
  ·simp only [List.mem_cons,List.not_mem_nil,or_false] at hx
   subst hx
   exact ⟨rfl,Nat.le_refl _,h.new,Nat.lt_of_lt_of_le gl z3,(old _ gl h.free).2,list_turn (own_repl h.own) (old _ gl h.free).1⟩
 ·exact (old k (Nat.lt_of_lt_of_le hk h.frb.size) (h.wf k hk f)).2
 ·exact (old k (Nat.lt_of_lt_of_le hk h.frb.size) (h.wf k hk f)).1.trans (h.wb k hk f hne)
 ·exact push_frb ((push_frb h0.frb h0.lw hi7 ga).grown l1.hB hW2 (fun k e => by cases e)) l1' hj7 gb'
theorem Tx.app {W : World} {v' : Value} (h : Tx w wr B bw g c V D K ri e V1 D1 L gi cap m mark) (hB : B ≤ g) (hwB : B ≤ w.heap.size) (ho : w1.ownsRow B e 1 v' (m + 1) (List.replicate m mark ++ [mark])) (hW : wr.grownBy W none) (hg : Grew W (.slice (some ⟨gi,0,none⟩) m cap) v' w1) (hks : ∀ x,K x → ∀ k ∈ x.S,k < w.heap.size) : ∃ gi' cap',v' = .slice (some ⟨gi',0,none⟩) (m + 1) cap' ∧ Tx w w1 B bw g c V D K ri e V1 D1 L gi' cap' (m + 1) mark := by
 have h0 := h.grown hW
 have hWs := hW.size
 have gl : gi < wr.heap.size := (h.own.lt gi rfl).2
 have er : List.replicate m mark ++ [mark] = List.replicate (m + 1) mark := by rw [List.replicate_succ']
 rw [er] at ho
 obtain ⟨gi',cap',rfl⟩ : ∃ gi' cap',v' = .slice (some ⟨gi',0,none⟩) (m + 1) cap' := by
  rcases ho.2 with ⟨_,h2⟩ | ⟨g2,c2,_,h2,_⟩
  ·omega
  ·exact ⟨g2,c2,h2⟩
 have gl0 : gi < W.heap.size := by omega
 have gn : gi' = gi ∨ gi' = W.heap.size := by
  rcases hg.blk (k := gi') rfl with q | q
  ·exact .inl (Option.some.inj q).symm
  ·exact .inr q
 have gb := hg.by
 have zw := h.frb.size
 have old : ∀ k,k < W.heap.size → k ≠ gi → w1.heap[k]? = W.heap[k]? := fun k hk hne => gb.block k hk (fun q => hne (Option.some.inj q))
 have hge : gi = g ∨ w.heap.size ≤ gi := h.new
 have hbu : But [gi] W w1 := But.of_grown gb (fun k e => by have : gi = k := Option.some.inj e;simp [this])
 have lw := h0.lw.frame hbu (fun k hk => by
  simp only [List.mem_cons,List.not_mem_nil,or_false] at hk;subst hk
  exact ⟨h0.free,h0.nk⟩)
 have gf : Free bw V1 gi' := by
  rcases gn with rfl | q
  ·exact h.free
  ·refine ⟨fun e => ?_,fun i hi e => ?_⟩
   ·have := h.lw.slt;omega
   ·have := (h.lw.ownB hi e).2;omega
 have gl' : gi' < w1.heap.size := (ho.lt gi' rfl).2
 refine ⟨gi',cap',rfl,lw,h.d,ho,?_,gf,fun x hx q => ?_,fun x hx => ?_,h.wf,fun k hk f hne => ?_,?_⟩
 ·rcases gn with rfl | q
  ·exact h.new
  ·exact .inr (by omega)
 ·rcases gn with rfl | q'
  ·exact h.nk x hx q
  ·have := hks x hx _ q;omega
 ·obtain ⟨h1,h2,h3,h4,h5,h6⟩ := h0.lst x hx
  refine ⟨h1,by omega,h3,Nat.lt_of_lt_of_le h4 gb.size,h5,?_⟩
  by_cases c1 : x.g = gi
  ·rcases hg with ⟨e1,_⟩ | ⟨_,e2⟩
   ·have e1 : gi' = gi := Option.some.inj e1
    intro j hj
    have q := own_repl ho j (by show j < m + 1;omega)
    simp only at q
    rw [c1,h1,← e1];exact q
   ·exact list_turn h6 (e2.block _ h4 (by simp))
  ·exact list_turn h6 (old _ h4 c1)
 ·have hk' : k < W.heap.size := by omega
  have hne' : k ≠ gi := by rcases hge with q | q <;> omega
  exact (old k hk' hne').trans (h0.wb k hk f hne)
 ·refine h0.frb.grown h0.lw.hB gb (fun k e => ?_)
  have : gi = k := Option.some.inj e
  exact .inr (by rcases hge with q | q <;> omega)
theorem Tx.done (h : Tx w wr B bw g c V D K ri e V1 D1 L gi cap m mark) : ∃ K',LW wr B bw V1 D1 c K' ∧ Went w wr B bw g V V1 K K' ∧ ∀ x ∈ L,K' (lstKeep x) ∧ x.mark = mark ∧ x.len ≤ m := by
 refine ⟨fun x => K x ∨ ∃ y ∈ L,x = lstKeep y,h.lw.keep _ (fun x hx => ?_),⟨h.wf,h.wb,h.frb,fun x hx => .inl hx,fun x hx => ?_⟩,fun x hx => ⟨.inr ⟨x,hx,rfl⟩,(h.lst x hx).1,(h.lst x hx).2.1⟩⟩
 ·rcases hx with hx | ⟨y,hy,rfl⟩
  ·exact .inl hx
  ·obtain ⟨h1,h2,h3,h4,h5,h6⟩ := h.lst y hy
   refine .inr ⟨h6,fun k hk => ?_⟩
   have : k = y.g := by simpa [lstKeep] using hk
   subst this
   exact ⟨h4,h5⟩
 ·rcases hx with hx | ⟨y,hy,rfl⟩
  ·exact .inl hx
  ·refine .inr (fun k hk => ?_)
   have : k = y.g := by simpa [lstKeep] using hk
   subst this
   exact (h.lst y hy).2.2.1
end
section
set_option maxHeartbeats 4000000
set_option maxRecDepth 100000
variable {w w' w1 : World} {B bw c : Nat} {V : LV} {D : LD} {K : Keep → Prop}
def RowsAt (w : World) (x : LP) (bs : List Nat) : Prop := ∀ j,j < x.len → ∃ b o c,b ∈ bs ∧ w.cell? ⟨x.g,j,none⟩ = some (.slice (some ⟨b,o,none⟩) 1 c) ∧ w.cell? ⟨b,o,none⟩ = some x.mark
def rowKeep (x : LP) (bs : List Nat) : Keep := ⟨x.g :: bs,fun w => RowsAt w x bs,fun w w' h q j hj => by
 obtain ⟨b,o,c,h1,h2,h3⟩ := q j hj
 exact ⟨b,o,c,h1,(World.cell?_of_block (a := ⟨x.g,j,none⟩) (h x.g (by simp))).trans h2,(World.cell?_of_block (a := ⟨b,o,none⟩) (h b (by simp [h1]))).trans h3⟩⟩
theorem LW.at (h : LW w B bw V D c K) {i j : Nat} (hi : i < 7) {v : Value} (hv : (D.cells i)[j]? = some v) : ∃ g cap,V.get i = .slice (some ⟨g,0,none⟩) (D.cnt i) cap ∧ w.cell? ⟨g,j,none⟩ = some v ∧ g < w.heap.size := by
 rcases own_cells (h.own i hi) with ⟨h1,h2⟩ | ⟨g,cap,h1,_,hl,h2⟩
 ·have := (h.own i hi).1
  rw [h1] at this
  have : D.cells i = [] := List.length_eq_zero_iff.1 (by omega)
  rw [this] at hv;simp at hv
 ·exact ⟨g,cap,h1,h2 j v hv,hl⟩
structure LG (w : World) (B bw : Nat) (V : LV) (D : LD) (c : Nat) (K : Keep → Prop) (T : Nat) : Prop where
 lw : LW w B bw V D c K
 n1 : D.ks = D.ns.map (·.mark)
 n2 : D.xs = D.us.map (·.mark)
 n3 : D.ys = D.rs.map (·.mark)
 l1 : ∀ x ∈ D.ns,K (lstKeep x) ∧ x.len ≤ 3000000 ∧ ∃ s,x.mark = .string s
 l2 : ∀ x ∈ D.us,K (lstKeep x) ∧ x.len ≤ 3000000 ∧ ∃ i,x.mark = .int .i64 i
 l3 : ∀ x ∈ D.rs,(∃ bs,K (rowKeep x bs)) ∧ x.len ≤ 3000000 ∧ ∃ i,x.mark = .int .i64 i
 ms : ∀ x ∈ D.ms,K (modKeep x)
 m20 : D.ms.length ≤ 20
 bd : ∀ i,i < 7 → D.cnt i ≤ 50000 * T + 20
 cb : c ≤ 50000 * T
theorem LG.grown {T : Nat} (h : LG w B bw V D c K T) (hg : w.grownBy w' none) : LG w' B bw V D c K T :=
 ⟨h.lw.grown hg,h.n1,h.n2,h.n3,h.l1,h.l2,h.l3,h.ms,h.m20,h.bd,h.cb⟩
theorem LG.names {T i : Nat} {x : LP} (h : LG w B bw V D c K T) (hx : D.ns[i]? = some x) : ∃ gn cn gk ck s,w.cell? ⟨bw,1,none⟩ = some (.slice (some ⟨gn,0,none⟩) D.ns.length cn) ∧ w.cell? ⟨gn,i,none⟩ = some (.slice (some ⟨x.g,0,none⟩) x.len x.cap) ∧ w.cell? ⟨bw,2,none⟩ = some (.slice (some ⟨gk,0,none⟩) D.ns.length ck) ∧ w.cell? ⟨gk,i,none⟩ = some (.string s) ∧ x.len ≤ 3000000 ∧ ∀ j,j < x.len → w.cell? ⟨x.g,j,none⟩ = some (.string s) := by
 obtain ⟨hk,hl,s,hs⟩ := h.l1 x (List.mem_of_getElem? hx)
 obtain ⟨gn,cn,e1,e2,_⟩ := h.lw.at (i := 1) (j := i) (v := x.v) (by omega) (by simp [LD.cells,hx])
 obtain ⟨gk,ck,e3,e4,_⟩ := h.lw.at (i := 2) (j := i) (v := .string s) (by omega) (by simp [LD.cells,h.n1,hx,hs])
 have q1 : w.cell? ⟨bw,1,none⟩ = some V.n := cell_of h.lw.blk 1 _ rfl
 have q2 : w.cell? ⟨bw,2,none⟩ = some V.k := cell_of h.lw.blk 2 _ rfl
 have c2 : D.cnt 2 = D.ns.length := by simp [LD.cnt,h.n1]
 rw [c2] at e3
 exact ⟨gn,cn,gk,ck,s,q1.trans (congrArg some e1),e2,q2.trans (congrArg some e3),e4,hl,fun j hj => by rw [← hs];exact (h.lw.kp _ hk).1 j hj⟩
theorem LG.nums {T i : Nat} {x : LP} (h : LG w B bw V D c K T) (hx : D.us[i]? = some x) : ∃ gn cn gk ck s,w.cell? ⟨bw,3,none⟩ = some (.slice (some ⟨gn,0,none⟩) D.us.length cn) ∧ w.cell? ⟨gn,i,none⟩ = some (.slice (some ⟨x.g,0,none⟩) x.len x.cap) ∧ w.cell? ⟨bw,4,none⟩ = some (.slice (some ⟨gk,0,none⟩) D.us.length ck) ∧ w.cell? ⟨gk,i,none⟩ = some (.int .i64 s) ∧ x.len ≤ 3000000 ∧ ∀ j,j < x.len → w.cell? ⟨x.g,j,none⟩ = some (.int .i64 s) := by
 obtain ⟨hk,hl,s,hs⟩ := h.l2 x (List.mem_of_getElem? hx)
 obtain ⟨gn,cn,e1,e2,_⟩ := h.lw.at (i := 3) (j := i) (v := x.v) (by omega) (by simp [LD.cells,hx])
 obtain ⟨gk,ck,e3,e4,_⟩ := h.lw.at (i := 4) (j := i) (v := .int .i64 s) (by omega) (by simp [LD.cells,h.n2,hx,hs])
 have q1 : w.cell? ⟨bw,3,none⟩ = some V.u := cell_of h.lw.blk 3 _ rfl
 have q2 : w.cell? ⟨bw,4,none⟩ = some V.x := cell_of h.lw.blk 4 _ rfl
 have c2 : D.cnt 4 = D.us.length := by simp [LD.cnt,h.n2]
 rw [c2] at e3
 exact ⟨gn,cn,gk,ck,s,q1.trans (congrArg some e1),e2,q2.trans (congrArg some e3),e4,hl,fun j hj => by rw [← hs];exact (h.lw.kp _ hk).1 j hj⟩
theorem LG.rows {T i : Nat} {x : LP} (h : LG w B bw V D c K T) (hx : D.rs[i]? = some x) : ∃ gn cn gk ck s,w.cell? ⟨bw,5,none⟩ = some (.slice (some ⟨gn,0,none⟩) D.rs.length cn) ∧ w.cell? ⟨gn,i,none⟩ = some (.slice (some ⟨x.g,0,none⟩) x.len x.cap) ∧ w.cell? ⟨bw,6,none⟩ = some (.slice (some ⟨gk,0,none⟩) D.rs.length ck) ∧ w.cell? ⟨gk,i,none⟩ = some (.int .i64 s) ∧ x.len ≤ 3000000 ∧ ∀ j,j < x.len → ∃ b o c,w.cell? ⟨x.g,j,none⟩ = some (.slice (some ⟨b,o,none⟩) 1 c) ∧ w.cell? ⟨b,o,none⟩ = some (.int .i64 s) := by
 obtain ⟨⟨bs,hk⟩,hl,s,hs⟩ := h.l3 x (List.mem_of_getElem? hx)
 obtain ⟨gn,cn,e1,e2,_⟩ := h.lw.at (i := 5) (j := i) (v := x.v) (by omega) (by simp [LD.cells,hx])
 obtain ⟨gk,ck,e3,e4,_⟩ := h.lw.at (i := 6) (j := i) (v := .int .i64 s) (by omega) (by simp [LD.cells,h.n3,hx,hs])
 have q1 : w.cell? ⟨bw,5,none⟩ = some V.r := cell_of h.lw.blk 5 _ rfl
 have q2 : w.cell? ⟨bw,6,none⟩ = some V.y := cell_of h.lw.blk 6 _ rfl
 have c2 : D.cnt 6 = D.rs.length := by simp [LD.cnt,h.n3]
 rw [c2] at e3
 exact ⟨gn,cn,gk,ck,s,q1.trans (congrArg some e1),e2,q2.trans (congrArg some e3),e4,hl,fun j hj => by
  obtain ⟨b,o,c,_,h2,h3⟩ := (h.lw.kp _ hk).1 j hj
  exact ⟨b,o,c,h2,by rw [← hs];exact h3⟩⟩
theorem LG.lens {T : Nat} (h : LG w B bw V D c K T) : (∃ a k,w.cell? ⟨bw,1,none⟩ = some (.slice a D.ns.length k)) ∧ (∃ a k,w.cell? ⟨bw,3,none⟩ = some (.slice a D.us.length k)) ∧ (∃ a k,w.cell? ⟨bw,5,none⟩ = some (.slice a D.rs.length k)) := by
 have q1 : w.cell? ⟨bw,1,none⟩ = some V.n := cell_of h.lw.blk 1 _ rfl
 have q2 : w.cell? ⟨bw,3,none⟩ = some V.u := cell_of h.lw.blk 3 _ rfl
 have q3 : w.cell? ⟨bw,5,none⟩ = some V.r := cell_of h.lw.blk 5 _ rfl
 obtain ⟨a1,k1,e1⟩ := own_slice_n (h.lw.own 1 (by omega))
 obtain ⟨a2,k2,e2⟩ := own_slice_n (h.lw.own 3 (by omega))
 obtain ⟨a3,k3,e3⟩ := own_slice_n (h.lw.own 5 (by omega))
 exact ⟨⟨a1,k1,q1.trans (congrArg some e1)⟩,⟨a2,k2,q2.trans (congrArg some e2)⟩,⟨a3,k3,q3.trans (congrArg some e3)⟩⟩
def StRel (w : World) (B bw : Nat) (V : LV) (D : LD) (c : Nat) (K : Keep → Prop) (T n : Nat) (vi : Value) (wr : World) : Prop :=
 ∃ i : Nat,i ≤ n ∧ vi = .int .i64 i ∧ LG wr B bw V D c K T ∧ w.grownBy wr none
theorem law_still {T : Nat} (h : LG w B bw V D c K T) (hT : T ≤ 2000000) : Calls Tryz.prog 34 #[.pointer (some ⟨bw,0,none⟩)] w fun e w' => e = .returned (.bool true) ∧ LG w' B bw V D c K T ∧ w.grownBy w' none := by
 have b1 : D.ns.length ≤ 50000 * T + 20 := h.bd 1 (by omega)
 have b3 : D.us.length ≤ 50000 * T + 20 := h.bd 3 (by omega)
 have b5 : D.rs.length ≤ 50000 * T + 20 := h.bd 5 (by omega)
 have HS := hide (⟨0,by omega,rfl,h,grown_refl w none⟩ : StRel w B bw V D c K T D.ns.length (.int .i64 0) w)
 clear h
 go_enter Tryz.func34,Tryz.ntmps34
 go_wp2
 go_loopw [3] (fun vi wr => StRel w B bw V D c K T D.ns.length vi wr) (fun vi _ => D.ns.length - (intOf vi).toNat)
 case atStart => exact HS.out
 case round =>
  clear HS
  obtain ⟨i,hi,rfl,hG,hgr⟩ := hrel
  obtain ⟨⟨a1,k1,q1⟩,_,_⟩ := hG.lens
  by_cases hlt : i < D.ns.length
  ·have hlt3 : (i : Int) < D.ns.length := by omega
   obtain ⟨x,hx⟩ : ∃ x,D.ns[i]? = some x := ⟨D.ns[i],by simp [hlt]⟩
   obtain ⟨gn,cn,gk,ck,s,m1,m2,m3,m4,hl,m5⟩ := hG.names hx
   have HS := hide (⟨0,by omega,rfl,hG,hgr⟩ : StRel w B bw V D c K T x.len (.int .i64 0) wr)
   clear hG hgr m1 m2 m3 m4 m5
   go_wp2
   go_loopw [4] (fun vi wr => StRel w B bw V D c K T x.len vi wr) (fun vi _ => x.len - (intOf vi).toNat)
   case atStart => exact HS.out
   case round =>
    clear HS q1
    obtain ⟨j,hj,rfl,hG,hgr⟩ := hrel
    obtain ⟨gn,cn,gk,ck,s,m1,m2,m3,m4,hl,m5⟩ := hG.names hx
    by_cases hlt2 : j < x.len
    ·have hlt4 : (j : Int) < x.len := by omega
     have h0i : (0 : Int) ≤ i := by omega
     have h0j : (0 : Int) ≤ j := by omega
     have m6 := m5 j hlt2
     have HG := hide hG
     have HGR := hide hgr
     clear hG hgr m5
     go_wp2
     go_quiet (fail)
     go_wp2
     go_roundw
     case rel => exact ⟨j + 1,by omega,by go_num,HG.out.grown (grown_drewN' _ _ _),HGR.out.trans (grown_drewN' _ _ _)⟩
     case measure => simp [intOf];omega
    ·obtain rfl : j = x.len := by omega
     have HG := hide hG
     have HGR := hide hgr
     clear hG hgr m5
     go_wp2
     go_roundw
     case rel => exact ⟨i + 1,by omega,by go_num,HG.out,HGR.out⟩
     case measure => simp [intOf];omega
  ·obtain rfl : i = D.ns.length := by omega
   have HS := hide (⟨0,by omega,rfl,hG,hgr⟩ : StRel w B bw V D c K T D.us.length (.int .i64 0) wr)
   clear hG hgr
   go_wp2
   go_loopw [5] (fun vi wr => StRel w B bw V D c K T D.us.length vi wr) (fun vi _ => D.us.length - (intOf vi).toNat)
   case atStart => exact HS.out
   case round =>
    clear HS
    obtain ⟨i,hi,rfl,hG,hgr⟩ := hrel
    obtain ⟨_,⟨a1,k1,q1⟩,_⟩ := hG.lens
    by_cases hlt : i < D.us.length
    ·have hlt3 : (i : Int) < D.us.length := by omega
     obtain ⟨x,hx⟩ : ∃ x,D.us[i]? = some x := ⟨D.us[i],by simp [hlt]⟩
     obtain ⟨gn,cn,gk,ck,s,m1,m2,m3,m4,hl,m5⟩ := hG.nums hx
     have HS := hide (⟨0,by omega,rfl,hG,hgr⟩ : StRel w B bw V D c K T x.len (.int .i64 0) wr)
     clear hG hgr m1 m2 m3 m4 m5
     go_wp2
     go_loopw [6] (fun vi wr => StRel w B bw V D c K T x.len vi wr) (fun vi _ => x.len - (intOf vi).toNat)
     case atStart => exact HS.out
     case round =>
      clear HS q1
      obtain ⟨j,hj,rfl,hG,hgr⟩ := hrel
      obtain ⟨gn,cn,gk,ck,s,m1,m2,m3,m4,hl,m5⟩ := hG.nums hx
      by_cases hlt2 : j < x.len
      ·have hlt4 : (j : Int) < x.len := by omega
       have h0i : (0 : Int) ≤ i := by omega
       have h0j : (0 : Int) ≤ j := by omega
       have m6 := m5 j hlt2
       have hss : (s != s) = false := by simp
       have HG := hide hG
       have HGR := hide hgr
       clear hG hgr m5
       go_wp2
       go_quiet (fail)
       go_wp2
       go_roundw
       case rel => exact ⟨j + 1,by omega,by go_num,HG.out.grown (grown_drewN' _ _ _),HGR.out.trans (grown_drewN' _ _ _)⟩
       case measure => simp [intOf];omega
      ·obtain rfl : j = x.len := by omega
       have HG := hide hG
       have HGR := hide hgr
       clear hG hgr m5
       go_wp2
       go_roundw
       case rel => exact ⟨i + 1,by omega,by go_num,HG.out,HGR.out⟩
       case measure => simp [intOf];omega
    ·obtain rfl : i = D.us.length := by omega
     have HS := hide (⟨0,by omega,rfl,hG,hgr⟩ : StRel w B bw V D c K T D.rs.length (.int .i64 0) wr)
     clear hG hgr
     go_wp2
     go_loopw [7] (fun vi wr => StRel w B bw V D c K T D.rs.length vi wr) (fun vi _ => D.rs.length - (intOf vi).toNat)
     case atStart => exact HS.out
     case round =>
      clear HS
      obtain ⟨i,hi,rfl,hG,hgr⟩ := hrel
      obtain ⟨_,_,⟨a1,k1,q1⟩⟩ := hG.lens
      by_cases hlt : i < D.rs.length
      ·have hlt3 : (i : Int) < D.rs.length := by omega
       obtain ⟨x,hx⟩ : ∃ x,D.rs[i]? = some x := ⟨D.rs[i],by simp [hlt]⟩
       obtain ⟨gn,cn,gk,ck,s,m1,m2,m3,m4,hl,m5⟩ := hG.rows hx
       have HS := hide (⟨0,by omega,rfl,hG,hgr⟩ : StRel w B bw V D c K T x.len (.int .i64 0) wr)
       clear hG hgr m1 m2 m3 m4 m5
       go_wp2
       go_loopw [8] (fun vi wr => StRel w B bw V D c K T x.len vi wr) (fun vi _ => x.len - (intOf vi).toNat)
       case atStart => exact HS.out
       case round =>
        clear HS q1
        obtain ⟨j,hj,rfl,hG,hgr⟩ := hrel
        obtain ⟨gn,cn,gk,ck,s,m1,m2,m3,m4,hl,m5⟩ := hG.rows hx
        by_cases hlt2 : j < x.len
        ·have hlt4 : (j : Int) < x.len := by omega
         have h0i : (0 : Int) ≤ i := by omega
         have h0j : (0 : Int) ≤ j := by omega
         obtain ⟨b,o,c',m6,m7⟩ := m5 j hlt2
         have hss : (s != s) = false := by simp
         have hnn : (0 : Int) < ((1 : Nat) : Int) := by omega
         have HG := hide hG
         have HGR := hide hgr
         clear hG hgr m5
         go_wp2
         go_quiet (fail)
         go_wp2
         go_roundw
         case rel => exact ⟨j + 1,by omega,by go_num,HG.out.grown (grown_drewN' _ _ _),HGR.out.trans (grown_drewN' _ _ _)⟩
         case measure => simp [intOf];omega
        ·obtain rfl : j = x.len := by omega
         have HG := hide hG
         have HGR := hide hgr
         clear hG hgr m5
         go_wp2
         go_roundw
         case rel => exact ⟨i + 1,by omega,by go_num,HG.out,HGR.out⟩
         case measure => simp [intOf];omega
      ·obtain rfl : i = D.rs.length := by omega
       have HG := hide hG
       have HGR := hide hgr
       clear hG hgr
       go_wp2
       go_ret
       exact ⟨rfl,HG.out,HGR.out⟩
end
end Go.Proofs.YthpcbbnabnlanaaGreatDoor
