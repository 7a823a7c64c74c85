import Derived.Test.YthpcbbnabnlanaaGreatDoorM01
import Derived.Test.YthpcbbnabnlanaaGreatDoorM02
import Derived.Test.YthpcbbnabnlanaaGreatDoorM03
import Derived.Deep.AppendLies
import Derived.Deep.QuietTactic
import Derived.BigQuiet
import Derived.Deep.RegionHeld3
import Derived.Deep.DrawnRows
import Derived.Deep.DeepMust
import Derived.Deep.Light
namespace Go.Proofs.YthpcbbnabnlanaaGreatDoor
set_option linter.unusedVariables false
set_option linter.unusedSimpArgs false
section
open Go.RowKit
attribute [local go_sem ↓] Go.wp_at_zero Go.wp_at_succ
theorem cell_set (W : World) (b o : Nat) (u : Value) (b' o' : Nat) (h : b' ≠ b ∨ o' ≠ o) : (W.setCell ⟨b,o,none⟩ u).cell? ⟨b',o',none⟩ = W.cell? ⟨b',o',none⟩ :=
 World.cell?_setCell_other _ _ _ _ (by
  intro e
  simp only [Addr.mk.injEq] at e
  omega)
def fKind (wrong : Bool) (k kind : Int) : Int := if wrong && kind == 0 then k else kind
def fLine (wrong : Bool) (kind l line : Int) : Int := if wrong && kind == 0 then l else line
end
section
open Go.RowKit
attribute [local go_sem ↓] Go.wp_at_zero Go.wp_at_succ
theorem hide {p : Prop} (h : p) : Hid p := h
def outB (n most : Int) : Bool := decide (n < -most) || decide (most < n)
end
section
abbrev FSt := Int × Int
def flt (b : Bool) (k l : Int) (st : FSt) : FSt := (fKind b k st.1,fLine b st.1 l st.2)
end
end Go.Proofs.YthpcbbnabnlanaaGreatDoor
