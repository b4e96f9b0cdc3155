import Derived.Test.YtnojnfmhinjcpaaC
namespace Go.Proofs.Ytnojnfmhinjcpaa
set_option linter.unusedVariables false
set_option linter.unusedSimpArgs false
open Go.RowKit
abbrev rdd (lo hi e : Int) : Value := .agg #[.int .i64 lo, .int .i64 hi, .int .i64 e]
theorem ret_rdd {a b c d e : Int} (h1 : a = c) (h2 : b = d) : Ending.returned (rdd a b e) = .returned (rdd c d e) := by rw [h1, h2]
theorem readref_time (l lo hi d x : Int) (w : World) (h1 : 0 ≤ l) (h2 : l ≤ 2199023255552) (hx : 0 ≤ x) (hx2 : x ≤ 2199023255552) (hn : x < l) :
    Calls Try.prog 27 #[clk l lo hi d, .int .i64 x] w fun e w' => e = .returned (rdd 0 0 9) ∧ Below w.heap.size w w' := by
  go_enter Try.func27, Try.ntmps27
  go_wp2
  refine bodyPost_ret (by simp [results, Try.results27, go_sem]; try rfl) rfl ?_
  exact ⟨rfl, by (repeat' (first | (with_reducible exact Below.refl _ _) | (with_reducible assumption) | (with_reducible refine Below.alloc ?_ ?_ _) | (with_reducible refine Below.drew ?_) | (with_reducible refine below_dn ?_) | (with_reducible refine Below.setCell ?_ ?_ _) | (with_reducible exact Nat.le_refl _) | omega | (simp only [World.size_alloc, World.size_setCell, World.size_drew]; omega) | (simp; omega) | (simp; done)))⟩
theorem readref_arg (l lo hi d x : Int) (w : World) (hx : x < 0 ∨ 2199023255552 < x) :
    Calls Try.prog 27 #[clk l lo hi d, .int .i64 x] w fun e w' => e = .returned (rdd 0 0 1) ∧ Below w.heap.size w w' := by
  rcases hx with hx | hx
  all_goals
    go_enter Try.func27, Try.ntmps27
    go_wp2
    refine bodyPost_ret (by simp [results, Try.results27, go_sem]; try rfl) rfl ?_
    exact ⟨rfl, by (repeat' (first | (with_reducible exact Below.refl _ _) | (with_reducible assumption) | (with_reducible refine Below.alloc ?_ ?_ _) | (with_reducible refine Below.drew ?_) | (with_reducible refine below_dn ?_) | (with_reducible refine Below.setCell ?_ ?_ _) | (with_reducible exact Nat.le_refl _) | omega | (simp only [World.size_alloc, World.size_setCell, World.size_drew]; omega) | (simp; omega) | (simp; done)))⟩
theorem readref_zero (l lo hi d : Int) (w : World) (h1 : 0 ≤ l) (h2 : l ≤ 2199023255552) (h3 : 0 ≤ lo) (h4 : lo ≤ hi) (h5 : hi ≤ 1099511627776) (h6 : 0 ≤ d) (h7 : d ≤ 100000) :
    Calls Try.prog 27 #[clk l lo hi d, .int .i64 l] w fun e w' => e = .returned (rdd lo (min 1099511627776 (hi + 1000000 / (1000000 - d))) 0) ∧ Below w.heap.size w w' := by
  obtain ⟨g1, g2, -, -⟩ := quo_bd (x := 1000000) (f := 1000000 - d) (by omega) (by omega)
  go_enter Try.func27, Try.ntmps27
  go_wp2
  refine wp_region_still_tail 14 (by kernel_rfl) (by kernel_rfl) ?_
  simp only [List.take_succ_cons, List.take_zero, List.drop_succ_cons, List.drop_zero]
  show wpStill _ _ (World.drew _) _ _ _
  repeat still_step
  still_call (clip_s _ _)
  repeat still_step
  still_call (clip_s _ _)
  repeat still_step
  refine wpStill_nil ?_
  show wpList _ _ _ _ _ (World.drew _)
  go_wp2
  refine bodyPost_ret (by simp [results, Try.results27, go_sem]; try rfl) rfl ?_
  exact ⟨ret_rdd (by unfold clipF; omega) (by unfold clipF; omega), by (repeat' (first | (with_reducible exact Below.refl _ _) | (with_reducible assumption) | (with_reducible refine Below.alloc ?_ ?_ _) | (with_reducible refine Below.drew ?_) | (with_reducible refine below_dn ?_) | (with_reducible refine Below.setCell ?_ ?_ _) | (with_reducible exact Nat.le_refl _) | omega | (simp only [World.size_alloc, World.size_setCell, World.size_drew]; omega) | (simp; omega) | (simp; done)))⟩
theorem readref_pos (l lo hi d x : Int) (w : World) (h1 : 0 ≤ l) (h2 : l ≤ 2199023255552) (h3 : 0 ≤ lo) (h4 : lo ≤ hi) (h5 : hi ≤ 1099511627776) (h6 : 0 ≤ d) (h7 : d ≤ 100000) (hx : x ≤ 2199023255552) (hn : l < x) :
    Calls Try.prog 27 #[clk l lo hi d, .int .i64 x] w fun e w' => e = .returned (rdd (min 1099511627776 (lo + ((x - l - 1) * 1000000 + (1000000 + d) - 1) / (1000000 + d))) (min 1099511627776 (hi + (x - l + 1) * 1000000 / (1000000 - d))) 0) ∧ Below w.heap.size w w' := by
  obtain ⟨g1, g2, -, -⟩ := quo_bd (x := (x - l + 1) * 1000000) (f := 1000000 - d) (by omega) (by omega)
  obtain ⟨k1, k2, k3, k4⟩ := quo_bd (x := (x - l - 1) * 1000000) (f := 1000000 + d) (by omega) (by omega)
  obtain ⟨u1, u2, -, -⟩ := quo_bd (x := (x - l - 1) * 1000000 + (1000000 + d) - 1) (f := 1000000 + d) (by omega) (by omega)
  by_cases hc : (x - l - 1) * 1000000 / (1000000 + d) * (1000000 + d) < (x - l - 1) * 1000000
  · have hup := ceil_up (by omega) hc
    have Hup := Lib.hid hup; clear hup
    go_enter Try.func27, Try.ntmps27
    go_wp2
    refine wp_region_still_tail 14 (by kernel_rfl) (by kernel_rfl) ?_
    simp only [List.take_succ_cons, List.take_zero, List.drop_succ_cons, List.drop_zero]
    show wpStill _ _ (World.drew _) _ _ _
    repeat still_step
    still_call (clip_s _ _)
    repeat still_step
    still_call (clip_s _ _)
    repeat still_step
    refine wpStill_nil ?_
    show wpList _ _ _ _ _ (World.drew _)
    go_wp2
    refine bodyPost_ret (by simp [results, Try.results27, go_sem]; try rfl) rfl ?_
    exact ⟨ret_rdd (by have := Hup.out; unfold clipF; omega) (by unfold clipF; omega), by (repeat' (first | (with_reducible exact Below.refl _ _) | (with_reducible assumption) | (with_reducible refine Below.alloc ?_ ?_ _) | (with_reducible refine Below.drew ?_) | (with_reducible refine below_dn ?_) | (with_reducible refine Below.setCell ?_ ?_ _) | (with_reducible exact Nat.le_refl _) | omega | (simp only [World.size_alloc, World.size_setCell, World.size_drew]; omega) | (simp; omega) | (simp; done)))⟩
  · have hup := ceil_same (by omega) hc
    have Hup := Lib.hid hup; clear hup
    go_enter Try.func27, Try.ntmps27
    go_wp2
    refine wp_region_still_tail 14 (by kernel_rfl) (by kernel_rfl) ?_
    simp only [List.take_succ_cons, List.take_zero, List.drop_succ_cons, List.drop_zero]
    show wpStill _ _ (World.drew _) _ _ _
    repeat still_step
    still_call (clip_s _ _)
    repeat still_step
    still_call (clip_s _ _)
    repeat still_step
    refine wpStill_nil ?_
    show wpList _ _ _ _ _ (World.drew _)
    go_wp2
    refine bodyPost_ret (by simp [results, Try.results27, go_sem]; try rfl) rfl ?_
    exact ⟨ret_rdd (by have := Hup.out; unfold clipF; omega) (by unfold clipF; omega), by (repeat' (first | (with_reducible exact Below.refl _ _) | (with_reducible assumption) | (with_reducible refine Below.alloc ?_ ?_ _) | (with_reducible refine Below.drew ?_) | (with_reducible refine below_dn ?_) | (with_reducible refine Below.setCell ?_ ?_ _) | (with_reducible exact Nat.le_refl _) | omega | (simp only [World.size_alloc, World.size_setCell, World.size_drew]; omega) | (simp; omega) | (simp; done)))⟩
theorem readref_ok (l lo hi d x : Int) (w : World) (h1 : 0 ≤ l) (h2 : l ≤ 2199023255552) (h3 : 0 ≤ lo) (h4 : lo ≤ hi) (h5 : hi ≤ 1099511627776) (h6 : 0 ≤ d) (h7 : d ≤ 100000) (hx : x ≤ 2199023255552) (hn : l ≤ x) :
    Calls Try.prog 27 #[clk l lo hi d, .int .i64 x] w fun e w' => e = .returned (rdd (rdLo lo d (x - l)) (rdHi hi d (x - l)) 0) ∧ Below w.heap.size w w' := by
  by_cases c : l = x
  · subst c
    have := readref_zero l lo hi d w h1 h2 h3 h4 h5 h6 h7
    have e1 : rdLo lo d (l - l) = lo := by unfold rdLo least; rw [if_neg (by omega)]; omega
    have e2 : rdHi hi d (l - l) = min 1099511627776 (hi + 1000000 / (1000000 - d)) := by unfold rdHi; rw [Int.sub_self]; rfl
    rw [e1, e2]; exact this
  · have := readref_pos l lo hi d x w h1 h2 h3 h4 h5 h6 h7 hx (by omega)
    have e1 : rdLo lo d (x - l) = min 1099511627776 (lo + ((x - l - 1) * 1000000 + (1000000 + d) - 1) / (1000000 + d)) := by unfold rdLo least; rw [if_pos (by omega)]
    rw [e1]; exact this
end Go.Proofs.Ytnojnfmhinjcpaa
