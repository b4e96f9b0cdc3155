/- Contracts: shares in memory, levels. -/
import Derived.Test.YtjmegfejnocegaaBI
import Derived.Test.YtjmegfejnocegaaBR
import Derived.Test.YtjmegfejnocegaaM
namespace Go.Proofs.Ytjmegfejnocegaa
set_option linter.unusedVariables false
set_option linter.unusedSimpArgs false
open Go.RowKit
def encS (s : Sh) : List Value := [.int .i64 s.1, .int .i64 s.2]
abbrev ShA := RowsA 2 encS
theorem ShA.at_ {W : World} {a : Option Addr} {l : List Sh} (h : ShA W a l) {k : Nat} (hk : k < l.length) :
    ∃ b off, a = some ⟨b, off, none⟩ ∧ W.cell? ⟨b, off + k * 2, none⟩ = some (.int .i64 (l.getD k (0, 0)).1) ∧ W.cell? ⟨b, off + k * 2 + 1, none⟩ = some (.int .i64 (l.getD k (0, 0)).2) := by
  rw [getD_at (0, 0) hk]
  obtain ⟨b, off, e, h1⟩ := h k _ (List.getElem?_eq_getElem hk)
  exact ⟨b, off, e, h1 0 _ rfl, h1 1 _ rfl⟩
theorem isWeight_any (n : Int) (w : World) : Calls Try.prog 32 #[.int .i64 n] w fun e w' => e = .returned (.bool (decide (1 ≤ n ∧ n ≤ 1048576))) ∧ w = w' := by
  go_enter Try.func32, Try.ntmps32
  go_wp2
  all_goals
    go_ret
    exact ⟨ret_bool (by first | (apply decide_eq_decide.mpr; omega) | (symm; apply decide_eq_true; omega) | (symm; apply decide_eq_false; omega) | (simp; omega)), rfl⟩
theorem isVolume_any (n : Int) (w : World) : Calls Try.prog 33 #[.int .i64 n] w fun e w' => e = .returned (.bool (decide (0 ≤ n ∧ n ≤ 1099511627776))) ∧ w = w' := by
  go_enter Try.func33, Try.ntmps33
  go_wp2
  all_goals
    go_ret
    exact ⟨ret_bool (by first | (apply decide_eq_decide.mpr; omega) | (symm; apply decide_eq_true; omega) | (symm; apply decide_eq_false; omega) | (simp; omega)), rfl⟩
theorem capacity_any (n : Int) (w : World) : Calls Try.prog 12 #[.int .i64 n] w fun e w' => e = .returned (.bool (decide (0 ≤ n ∧ n ≤ 1099511627776))) ∧ w = w' := by
  go_enter Try.func12, Try.ntmps12
  go_wp2
  all_goals
    go_ret
    exact ⟨ret_bool (by first | (apply decide_eq_decide.mpr; omega) | (symm; apply decide_eq_true; omega) | (symm; apply decide_eq_false; omega) | (simp; omega)), rfl⟩
set_option maxHeartbeats 400000 in
theorem at_any (n : Int) (s : Sh) (w : World) (hs : okS s) (h0 : 0 ≤ n) (h1 : n ≤ 1099511627777) :
    Calls Try.prog 36 #[.int .i64 n, .agg #[.int .i64 s.1, .int .i64 s.2]] w fun e w' => e = .returned (.int .i64 (atL n s)) ∧ Below w.heap.size w w' := by
  obtain ⟨p0, p1⟩ := prod_bd n s hs h0 h1
  have HS := Lib.hid (show atL n s = min (n * s.1) s.2 from rfl)
  obtain ⟨s1, s2, s3, s4⟩ := hs
  obtain ⟨x, y⟩ := s
  simp only at *
  obtain ⟨Q, hQ⟩ : ∃ Q, n * x = Q := ⟨_, rfl⟩
  rw [hQ] at p0 p1 HS
  have wQ : IntKind.i64.wrap Q = Q := by rw [IntKind.wrap_i64]; omega
  go_enter Try.func36, Try.ntmps36
  go_wp2
  all_goals
    go_ret
    exact ⟨ret_int (by first | exact HS.out.symm | (rw [HS.out]; omega)), by (repeat' (first | (with_reducible exact Below.refl _ _) | (with_reducible assumption) | (with_reducible refine Below.alloc ?_ ?_ _) | (with_reducible refine Below.drew ?_) | (with_reducible refine below_dn ?_) | (with_reducible refine Below.setCell ?_ ?_ _) | (with_reducible exact Nat.le_refl _) | omega | (simp only [World.size_alloc, World.size_setCell, World.size_drew]; omega) | (simp; omega) | (simp; done)))⟩
set_option maxHeartbeats 400000 in
theorem atref_any (n : Int) (s : Sh) (w : World) (hs : okS s) (h0 : 0 ≤ n) (h1 : n ≤ 1099511627777) :
    Calls Try.prog 38 #[.agg #[.int .i64 s.1, .int .i64 s.2], .int .i64 n] w fun e w' => e = .returned (.int .i64 (atL n s)) ∧ Below w.heap.size w w' := by
  obtain ⟨p0, p1⟩ := prod_bd n s hs h0 h1
  have HS := Lib.hid (show atL n s = min (n * s.1) s.2 from rfl)
  obtain ⟨s1, s2, s3, s4⟩ := hs
  obtain ⟨x, y⟩ := s
  simp only at *
  obtain ⟨Q, hQ⟩ : ∃ Q, n * x = Q := ⟨_, rfl⟩
  rw [hQ] at p0 p1 HS
  have hQ' : x * n = Q := by rw [Int.mul_comm]; exact hQ
  have wQ : IntKind.i64.wrap Q = Q := by rw [IntKind.wrap_i64]; omega
  go_enter Try.func38, Try.ntmps38
  go_wp2
  all_goals
    go_ret
    exact ⟨ret_int (by first | exact HS.out.symm | (rw [HS.out]; omega)), by (repeat' (first | (with_reducible exact Below.refl _ _) | (with_reducible assumption) | (with_reducible refine Below.alloc ?_ ?_ _) | (with_reducible refine Below.drew ?_) | (with_reducible refine below_dn ?_) | (with_reducible refine Below.setCell ?_ ?_ _) | (with_reducible exact Nat.le_refl _) | omega | (simp only [World.size_alloc, World.size_setCell, World.size_drew]; omega) | (simp; omega) | (simp; done)))⟩
end Go.Proofs.Ytjmegfejnocegaa
