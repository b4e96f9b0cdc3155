/- Contracts: Valid of the reference. -/
import Derived.Test.YteblnmhaohbkkaaGreatDoorQLeV
import Derived.BigQuiet
import Derived.Lib.QuietBelow
namespace Go.Proofs.YteblnmhaohbkkaaGreatDoor
set_option linter.unusedVariables false
set_option linter.unusedSimpArgs false
namespace Le
open Go.RowKit Go.Sort
theorem grow_cellG (w : World) (d : Nat) (os : Array Obj) (b o : Nat) (h : b < w.heap.size) : (grow (redrawn w d) os).cell? ⟨b, o, none⟩ = w.cell? ⟨b, o, none⟩ :=
  (below_regrown w d os).cell (p := ⟨b, o, none⟩) h
theorem rsite_yes {n : Int} (h : 0 ≤ n ∧ n < 64) (w : World) : Calls Tryz.prog 48 #[.int .i64 n] w fun e w' => e = .returned (.bool true) ∧ Below w.heap.size w w' := by
  have t1 : decide (0 ≤ n) = true := decide_eq_true h.1
  have t2 : decide (n < 64) = true := decide_eq_true h.2
  clear h
  go_enter Tryz.func48, Tryz.ntmps48
  go_wp2
  go_ret
  exact ⟨rfl, Below.refl _ _⟩
theorem rsite_no {n : Int} (h : ¬ (0 ≤ n ∧ n < 64)) (w : World) : Calls Tryz.prog 48 #[.int .i64 n] w fun e w' => e = .returned (.bool false) ∧ Below w.heap.size w w' := by
  by_cases h1 : 0 ≤ n
  · have t1 : decide (0 ≤ n) = true := decide_eq_true h1
    have t2 : decide (n < 64) = false := decide_eq_false (fun q => h ⟨h1, q⟩)
    clear h h1
    go_enter Tryz.func48, Tryz.ntmps48
    go_wp2
    go_ret
    exact ⟨rfl, Below.refl _ _⟩
  · have t1 : decide (0 ≤ n) = false := decide_eq_false h1
    clear h h1
    go_enter Tryz.func48, Tryz.ntmps48
    go_wp2
    go_ret
    exact ⟨rfl, Below.refl _ _⟩
end Le
end Go.Proofs.YteblnmhaohbkkaaGreatDoor
