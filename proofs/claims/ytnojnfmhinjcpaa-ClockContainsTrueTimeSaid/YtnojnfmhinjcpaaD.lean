import Derived.Test.YtnojnfmhinjcpaaC
namespace Go.Proofs.Ytnojnfmhinjcpaa
set_option linter.unusedVariables false
set_option linter.unusedSimpArgs false
open Go.RowKit
def OkClk (l lo hi d : Int) : Prop := 0 ≤ l ∧ l ≤ 2199023255552 ∧ 0 ≤ lo ∧ lo ≤ hi ∧ hi ≤ 1099511627776 ∧ 0 ≤ d ∧ d ≤ 100000
theorem read_pos (l lo hi d x : Int) (w : World) (h : OkClk l lo hi d) (hx : x ≤ 2199023255552) (hn : l < x) :
    Calls Try.prog 26 #[clk l lo hi d, .int .i64 x] w fun e w' => e = .returned (.tuple #[per (min 1099511627776 (lo + ((x - l - 1) * 1000000 + (1000000 + d) - 1) / (1000000 + d))) (min 1099511627776 (hi + (x - l + 1) * 1000000 / (1000000 - d))), .int .i64 0]) ∧ Below w.heap.size w w' := by
  obtain ⟨h1, h2, h3, h4, h5, h6, h7⟩ := h
  obtain ⟨k1, k2, -, -⟩ := quo_bd (x := (x - l - 1) * 1000000 + (1000000 + d) - 1) (f := 1000000 + d) (by omega) (by omega)
  obtain ⟨g1, g2, -, -⟩ := quo_bd (x := (x - l + 1) * 1000000) (f := 1000000 - d) (by omega) (by omega)
  go_enter Try.func26, Try.ntmps26
  go_wp2
  go_quiet (fail)
  go_wp2
  refine bodyPost_ret (by simp [results, Try.results26, go_sem]; try rfl) rfl ?_
  exact ⟨rfl, by first | ((repeat' (first | (with_reducible exact Below.refl _ _) | (with_reducible assumption) | (with_reducible refine Below.alloc ?_ ?_ _) | (with_reducible refine Below.drew ?_) | (with_reducible refine below_dn ?_) | (with_reducible refine Below.setCell ?_ ?_ _) | (with_reducible exact Nat.le_refl _) | omega | (simp only [World.size_alloc, World.size_setCell, World.size_drew]; omega) | (simp; omega) | (simp; done))); done) | (refine below_dn ?_; (repeat' (first | (with_reducible exact Below.refl _ _) | (with_reducible assumption) | (with_reducible refine Below.alloc ?_ ?_ _) | (with_reducible refine Below.drew ?_) | (with_reducible refine below_dn ?_) | (with_reducible refine Below.setCell ?_ ?_ _) | (with_reducible exact Nat.le_refl _) | omega | (simp only [World.size_alloc, World.size_setCell, World.size_drew]; omega) | (simp; omega) | (simp; done))); done) | ((repeat' (first | (with_reducible exact Below.refl _ _) | (with_reducible assumption) | (with_reducible refine Below.alloc ?_ ?_ _) | (with_reducible refine Below.drew ?_) | (with_reducible refine below_dn ?_) | (with_reducible refine Below.setCell ?_ ?_ _) | (with_reducible exact Nat.le_refl _) | omega | (simp only [World.size_alloc, World.size_setCell, World.size_drew]; omega) | (simp; omega) | (simp; done))); refine below_dn ?_; (repeat' (first | (with_reducible exact Below.refl _ _) | (with_reducible assumption) | (with_reducible refine Below.alloc ?_ ?_ _) | (with_reducible refine Below.drew ?_) | (with_reducible refine below_dn ?_) | (with_reducible refine Below.setCell ?_ ?_ _) | (with_reducible exact Nat.le_refl _) | omega | (simp only [World.size_alloc, World.size_setCell, World.size_drew]; omega) | (simp; omega) | (simp; done))); done)⟩
theorem read_zero (l lo hi d : Int) (w : World) (h : OkClk l lo hi d) :
    Calls Try.prog 26 #[clk l lo hi d, .int .i64 l] w fun e w' => e = .returned (.tuple #[per lo (min 1099511627776 (hi + 1000000 / (1000000 - d))), .int .i64 0]) ∧ Below w.heap.size w w' := by
  obtain ⟨h1, h2, h3, h4, h5, h6, h7⟩ := h
  obtain ⟨g1, g2, -, -⟩ := quo_bd (x := 1000000) (f := 1000000 - d) (by omega) (by omega)
  go_enter Try.func26, Try.ntmps26
  go_wp2
  go_quiet (fail)
  go_wp2
  refine bodyPost_ret (by simp [results, Try.results26, go_sem]; try rfl) rfl ?_
  refine ⟨?_, by first | ((repeat' (first | (with_reducible exact Below.refl _ _) | (with_reducible assumption) | (with_reducible refine Below.alloc ?_ ?_ _) | (with_reducible refine Below.drew ?_) | (with_reducible refine below_dn ?_) | (with_reducible refine Below.setCell ?_ ?_ _) | (with_reducible exact Nat.le_refl _) | omega | (simp only [World.size_alloc, World.size_setCell, World.size_drew]; omega) | (simp; omega) | (simp; done))); done) | (refine below_dn ?_; (repeat' (first | (with_reducible exact Below.refl _ _) | (with_reducible assumption) | (with_reducible refine Below.alloc ?_ ?_ _) | (with_reducible refine Below.drew ?_) | (with_reducible refine below_dn ?_) | (with_reducible refine Below.setCell ?_ ?_ _) | (with_reducible exact Nat.le_refl _) | omega | (simp only [World.size_alloc, World.size_setCell, World.size_drew]; omega) | (simp; omega) | (simp; done))); done) | ((repeat' (first | (with_reducible exact Below.refl _ _) | (with_reducible assumption) | (with_reducible refine Below.alloc ?_ ?_ _) | (with_reducible refine Below.drew ?_) | (with_reducible refine below_dn ?_) | (with_reducible refine Below.setCell ?_ ?_ _) | (with_reducible exact Nat.le_refl _) | omega | (simp only [World.size_alloc, World.size_setCell, World.size_drew]; omega) | (simp; omega) | (simp; done))); refine below_dn ?_; (repeat' (first | (with_reducible exact Below.refl _ _) | (with_reducible assumption) | (with_reducible refine Below.alloc ?_ ?_ _) | (with_reducible refine Below.drew ?_) | (with_reducible refine below_dn ?_) | (with_reducible refine Below.setCell ?_ ?_ _) | (with_reducible exact Nat.le_refl _) | omega | (simp only [World.size_alloc, World.size_setCell, World.size_drew]; omega) | (simp; omega) | (simp; done))); done)⟩
  rw [show min 1099511627776 lo = lo by omega]
theorem read_time (l lo hi d x : Int) (w : World) (h : OkClk l lo hi d) (hx : 0 ≤ x) (hx2 : x ≤ 2199023255552) (hn : x < l) :
    Calls Try.prog 26 #[clk l lo hi d, .int .i64 x] w fun e w' => e = .returned (.tuple #[per 0 0, .int .i64 9]) ∧ Below w.heap.size w w' := by
  obtain ⟨h1, h2, h3, h4, h5, h6, h7⟩ := h
  go_enter Try.func26, Try.ntmps26
  go_wp2
  refine bodyPost_ret (by simp [results, Try.results26, go_sem]; try rfl) rfl ?_
  exact ⟨rfl, by (repeat' (first | (with_reducible exact Below.refl _ _) | (with_reducible assumption) | (with_reducible refine Below.alloc ?_ ?_ _) | (with_reducible refine Below.drew ?_) | (with_reducible refine below_dn ?_) | (with_reducible refine Below.setCell ?_ ?_ _) | (with_reducible exact Nat.le_refl _) | omega | (simp only [World.size_alloc, World.size_setCell, World.size_drew]; omega) | (simp; omega) | (simp; done)))⟩
theorem read_arg (l lo hi d x : Int) (w : World) (h : OkClk l lo hi d) (hx : x < 0 ∨ 2199023255552 < x) :
    Calls Try.prog 26 #[clk l lo hi d, .int .i64 x] w fun e w' => e = .returned (.tuple #[per 0 0, .int .i64 1]) ∧ Below w.heap.size w w' := by
  obtain ⟨h1, h2, h3, h4, h5, h6, h7⟩ := h
  rcases hx with hx | hx
  · go_enter Try.func26, Try.ntmps26
    go_wp2
    refine bodyPost_ret (by simp [results, Try.results26, go_sem]; try rfl) rfl ?_
    exact ⟨rfl, by (repeat' (first | (with_reducible exact Below.refl _ _) | (with_reducible assumption) | (with_reducible refine Below.alloc ?_ ?_ _) | (with_reducible refine Below.drew ?_) | (with_reducible refine below_dn ?_) | (with_reducible refine Below.setCell ?_ ?_ _) | (with_reducible exact Nat.le_refl _) | omega | (simp only [World.size_alloc, World.size_setCell, World.size_drew]; omega) | (simp; omega) | (simp; done)))⟩
  · have hd : decide (x ≤ 2199023255552) = false := by simp; omega
    go_enter Try.func26, Try.ntmps26
    go_wp2
    refine bodyPost_ret (by simp [results, Try.results26, go_sem]; try rfl) rfl ?_
    exact ⟨rfl, by (repeat' (first | (with_reducible exact Below.refl _ _) | (with_reducible assumption) | (with_reducible refine Below.alloc ?_ ?_ _) | (with_reducible refine Below.drew ?_) | (with_reducible refine below_dn ?_) | (with_reducible refine Below.setCell ?_ ?_ _) | (with_reducible exact Nat.le_refl _) | omega | (simp only [World.size_alloc, World.size_setCell, World.size_drew]; omega) | (simp; omega) | (simp; done)))⟩
theorem read_ok (l lo hi d x : Int) (w : World) (h : OkClk l lo hi d) (hx : x ≤ 2199023255552) (hn : l ≤ x) :
    Calls Try.prog 26 #[clk l lo hi d, .int .i64 x] w fun e w' => e = .returned (.tuple #[per (rdLo lo d (x - l)) (rdHi hi d (x - l)), .int .i64 0]) ∧ Below w.heap.size w w' := by
  by_cases c : l = x
  · subst c
    have := read_zero l lo hi d w h
    have e1 : rdLo lo d (l - l) = lo := by obtain ⟨h1, h2, h3, h4, h5, h6, h7⟩ := h; unfold rdLo least; rw [if_neg (by omega)]; omega
    have e2 : rdHi hi d (l - l) = min 1099511627776 (hi + 1000000 / (1000000 - d)) := by unfold rdHi; rw [Int.sub_self]; rfl
    rw [e1, e2]; exact this
  · have := read_pos l lo hi d x w h hx (by omega)
    have e1 : rdLo lo d (x - l) = min 1099511627776 (lo + ((x - l - 1) * 1000000 + (1000000 + d) - 1) / (1000000 + d)) := by unfold rdLo least; rw [if_pos (by omega)]
    rw [e1]; exact this
end Go.Proofs.Ytnojnfmhinjcpaa
