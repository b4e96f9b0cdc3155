import Derived.Test.YtnojnfmhinjcpaaC
namespace Go.Proofs.Ytnojnfmhinjcpaa
set_option linter.unusedVariables false
set_option linter.unusedSimpArgs false
open Go.RowKit
theorem new_yes (l lo hi d : Int) (w : World) (h : 0 ≤ l ∧ l ≤ 2199023255552 ∧ 0 ≤ lo ∧ lo ≤ hi ∧ hi ≤ 1099511627776 ∧ 0 ≤ d ∧ d ≤ 100000) :
    Calls Try.prog 23 #[.int .i64 l, per lo hi, .int .i64 d] w fun e w' => e = .returned (.tuple #[clk l lo hi d, .int .i64 0]) ∧ Below w.heap.size w w' := by
  obtain ⟨h1, h2, h3, h4, h5, h6, h7⟩ := h
  go_enter Try.func23, Try.ntmps23
  go_wp2
  refine bodyPost_ret (by simp [results, Try.results23, go_sem]; try rfl) rfl ?_
  exact ⟨rfl, by (repeat' (first | (with_reducible exact Below.refl _ _) | (with_reducible assumption) | (with_reducible refine Below.alloc ?_ ?_ _) | (with_reducible refine Below.drew ?_) | (with_reducible refine below_dn ?_) | (with_reducible refine Below.setCell ?_ ?_ _) | (with_reducible exact Nat.le_refl _) | omega | (simp only [World.size_alloc, World.size_setCell, World.size_drew]; omega) | (simp; omega) | (simp; done)))⟩
theorem new_no (l lo hi d : Int) (w : World) (h : chkB l lo hi d = false) :
    Calls Try.prog 23 #[.int .i64 l, per lo hi, .int .i64 d] w fun e w' => e = .returned (.tuple #[clk 0 0 0 0, .int .i64 1]) ∧ Below w.heap.size w w' := by
  have H := Lib.hid h; clear h
  go_enter Try.func23, Try.ntmps23
  go_wp2
  all_goals
    refine bodyPost_ret (by simp [results, Try.results23, go_sem]; try rfl) rfl ?_
    first
    | exact ⟨rfl, by (repeat' (first | (with_reducible exact Below.refl _ _) | (with_reducible assumption) | (with_reducible refine Below.alloc ?_ ?_ _) | (with_reducible refine Below.drew ?_) | (with_reducible refine below_dn ?_) | (with_reducible refine Below.setCell ?_ ?_ _) | (with_reducible exact Nat.le_refl _) | omega | (simp only [World.size_alloc, World.size_setCell, World.size_drew]; omega) | (simp; omega) | (simp; done)))⟩
    | (exfalso; have h := H.out; simp only [chkB, decide_eq_false_iff_not] at h; omega)
end Go.Proofs.Ytnojnfmhinjcpaa
