import Derived.Test.YteblnmhaohbkkaaDoorRLeN
import Derived.Lib.QuietBelow
import Derived.OpenShut
import Derived.Deep.RegionWith
import Derived.StillTailTactics
import Derived.Lib.MinMax
namespace Go.Proofs.YteblnmhaohbkkaaDoor
set_option linter.unusedVariables false
set_option linter.unusedSimpArgs false
set_option linter.unusedSectionVars false
namespace Le
open Go.RowKit Go.Sort
def least (n d : Int) : Int := if 0 < n then ((n - 1) * 1000000 + (1000000 + d) - 1) / (1000000 + d) else 0
def great (n d : Int) : Int := (n + 1) * 1000000 / (1000000 - d)
def rdHi (hi d n : Int) : Int := min 1099511627776 (hi + (n + 1) * 1000000 / (1000000 - d))
def rdLo (lo d n : Int) : Int := min 1099511627776 (lo + least n d)
def UntilIs (l hi d t u : Int) : Prop :=
  (u = -1 ∧ ∀ x, l ≤ x → x ≤ 2199023255552 → t ≤ rdHi hi d (x - l)) ∨
  (l ≤ u ∧ u ≤ 2199023255552 ∧ rdHi hi d (u - l) < t ∧ (u < 2199023255552 → t ≤ rdHi hi d (u + 1 - l)))
abbrev clk (l lo hi d : Int) : Value := .agg #[.int .i64 l, .int .i64 lo, .int .i64 hi, .int .i64 d]
theorem ret_int {k : IntKind} {a b : Int} (h : a = b) : Ending.returned (.int k a) = .returned (.int k b) := by rw [h]
def readB (l : Int) : Bool := decide (0 ≤ l ∧ l ≤ 2199023255552)
def chkB (l lo hi d : Int) : Bool := decide (0 ≤ l ∧ l ≤ 2199023255552 ∧ 0 ≤ lo ∧ lo ≤ hi ∧ hi ≤ 1099511627776 ∧ 0 ≤ d ∧ d ≤ 100000)
theorem check_no (l lo hi d : Int) (w : World) (h : chkB l lo hi d = false) :
    Calls Tryd.prog 48 #[clk l lo hi d] w fun e w' => e = .returned (.int .i64 1) ∧ Below w.heap.size w w' := by
  have H := Lib.hid h; clear h
  go_enter Tryd.func48, Tryd.ntmps48
  go_wp2
  all_goals
    go_ret
    first
    | exact ⟨rfl, by (repeat' (first | (with_reducible exact Below.refl _ _) | (with_reducible assumption) | (with_reducible refine Below.alloc ?_ ?_ _) | (with_reducible refine Below.drew ?_) | (with_reducible refine below_dn ?_) | (with_reducible refine Below.setCell ?_ ?_ _) | (with_reducible exact Nat.le_refl _) | omega | (simp only [World.size_alloc, World.size_setCell, World.size_drew]; omega) | (simp; omega) | (simp; done)))⟩
    | (exfalso; have h := H.out; simp only [chkB, decide_eq_false_iff_not] at h; omega)
def OkClk (l lo hi d : Int) : Prop := 0 ≤ l ∧ l ≤ 2199023255552 ∧ 0 ≤ lo ∧ lo ≤ hi ∧ hi ≤ 1099511627776 ∧ 0 ≤ d ∧ d ≤ 100000
structure Cap (k m : Nat) (l lo hi d t : Int) (W : World) : Prop where
  c0 : W.cell? ⟨k, 0, none⟩ = some (.int .i64 l)
  c1 : W.cell? ⟨k, 1, none⟩ = some (.int .i64 lo)
  c2 : W.cell? ⟨k, 2, none⟩ = some (.int .i64 hi)
  c3 : W.cell? ⟨k, 3, none⟩ = some (.int .i64 d)
  c4 : W.cell? ⟨m, 0, none⟩ = some (.int .i64 t)
theorem keep {W W' : World} {b o : Nat} {v : Value} (h : W.cell? ⟨b, o, none⟩ = some v) (hb : Below W.heap.size W W') : W'.cell? ⟨b, o, none⟩ = some v := by
  rw [hb.cell (p := ⟨b, o, none⟩) (block_lt_of_cell h)]; exact h
theorem Cap.mono {k m : Nat} {l lo hi d t : Int} {W W' : World} (h : Cap k m l lo hi d t W) (hb : Below W.heap.size W W') : Cap k m l lo hi d t W' :=
  ⟨keep h.c0 hb, keep h.c1 hb, keep h.c2 hb, keep h.c3 hb, keep h.c4 hb⟩
noncomputable def untilF (l hi d t : Int) : Int := Classical.epsilon (UntilIs l hi d t)
end Le
end Go.Proofs.YteblnmhaohbkkaaDoor
