import Derived.Test.YtcgdhankllphgaaRW
namespace Go.Proofs.Ytcgdhankllphgaa
set_option linter.unusedVariables false
set_option linter.unusedSimpArgs false
set_option linter.unusedSectionVars false
open Go.RowKit
abbrev per (lo hi : Int) : Value := .agg #[.int .i64 lo, .int .i64 hi]
def perB (lo hi : Int) : Bool := decide (0 ≤ lo ∧ lo ≤ hi ∧ hi ≤ 1099511627776)
theorem perB_yes {a b : Int} (h : perB a b = true) : 0 ≤ a ∧ a ≤ b ∧ b ≤ 1099511627776 := by simpa [perB] using h
theorem cvalid_any (lo hi : Int) (w : World) :
    Calls Try.prog 49 #[per lo hi] w fun e w' => e = .returned (.bool (perB lo hi)) ∧ Below w.heap.size w w' := by
  go_enter Try.func49, Try.ntmps49
  go_wp2
  all_goals
    go_ret
    exact ⟨ret_bool (by unfold perB; first | (apply decide_eq_decide.mpr; omega) | (symm; apply decide_eq_true; omega) | (symm; apply decide_eq_false; omega)), by (repeat' (first | (with_reducible exact Below.refl _ _) | (with_reducible assumption) | (with_reducible refine Below.alloc ?_ ?_ _) | (with_reducible refine Below.drew ?_) | (with_reducible refine below_dn ?_) | (with_reducible refine Below.setCell ?_ ?_ _) | (with_reducible exact Nat.le_refl _) | omega | (simp only [World.size_alloc, World.size_setCell, World.size_drew]; omega) | (simp; omega) | (simp; done)))⟩
theorem cfrom_any (lo hi t : Int) (w : World) :
    Calls Try.prog 72 #[per lo hi, .int .i64 t] w fun e w' => e = .returned (.bool (decide (t ≤ lo))) ∧ Below w.heap.size w w' := by
  go_enter Try.func72, Try.ntmps72
  go_wp2
  go_ret
  exact ⟨rfl, by (repeat' (first | (with_reducible exact Below.refl _ _) | (with_reducible assumption) | (with_reducible refine Below.alloc ?_ ?_ _) | (with_reducible refine Below.drew ?_) | (with_reducible refine below_dn ?_) | (with_reducible refine Below.setCell ?_ ?_ _) | (with_reducible exact Nat.le_refl _) | omega | (simp only [World.size_alloc, World.size_setCell, World.size_drew]; omega) | (simp; omega) | (simp; done)))⟩
theorem mul_bd3 {a b A B : Int} (h0 : 0 ≤ a) (h1 : a ≤ A) (h2 : 0 ≤ b) (h3 : b ≤ B) : 0 ≤ a * b ∧ a * b ≤ A * B :=
  ⟨Int.mul_nonneg h0 h2, Int.mul_le_mul h1 h3 h2 (by omega)⟩
theorem over_any (wi len lo hi : Int) (w : World) (h1 : winOk wi) (h2 : 1 ≤ len ∧ len ≤ 3600000) :
    Calls Try.prog 52 #[.int .i64 wi, .int .i64 len, per lo hi] w fun e w' => e = .returned (.bool (decide ((wi + 1) * len ≤ lo))) ∧ Below w.heap.size w w' := by
  obtain ⟨g1, g2⟩ := h1
  obtain ⟨m1, m2⟩ := mul_bd3 (a := wi + 1) (b := len) (A := 1099511627777) (B := 3600000) (by omega) (by omega) (by omega) h2.2
  have w1 : IntKind.i64.wrap (wi + 1) = wi + 1 := by rw [IntKind.wrap_i64]; omega
  have w2 : IntKind.i64.wrap ((wi + 1) * len) = (wi + 1) * len := by rw [IntKind.wrap_i64]; omega
  have F := Lib.hid (fun (t : Int) (X : World) => cfrom_any lo hi t X)
  obtain ⟨T, hT⟩ : ∃ T, (wi + 1) * len = T := ⟨_, rfl⟩
  rw [hT] at w2 ⊢
  obtain ⟨S, hS⟩ : ∃ S, wi + 1 = S := ⟨_, rfl⟩
  rw [hS] at w1 hT
  clear m1 m2 g1 g2 h2
  go_enter Try.func52, Try.ntmps52
  go_wp2_with fail
  try rw [hS, w1]
  try rw [hT, w2]
  refine (F.out _ _).mono ?_
  rintro e w5 ⟨rfl, hb⟩
  have B := Lib.hid (show Below w.heap.size w w5 from ((show Below w.heap.size w _ by (repeat' (first | (with_reducible exact Below.refl _ _) | (with_reducible assumption) | (with_reducible refine Below.alloc ?_ ?_ _) | (with_reducible refine Below.drew ?_) | (with_reducible refine below_dn ?_) | (with_reducible refine Below.setCell ?_ ?_ _) | (with_reducible exact Nat.le_refl _) | omega | (simp only [World.size_alloc, World.size_setCell, World.size_drew]; omega) | (simp; omega) | (simp; done)))).trans (hb.mono (by first | ((repeat' (first | (with_reducible exact Below.refl _ _) | (with_reducible assumption) | (with_reducible refine Below.alloc ?_ ?_ _) | (with_reducible refine Below.drew ?_) | (with_reducible refine below_dn ?_) | (with_reducible refine Below.setCell ?_ ?_ _) | (with_reducible exact Nat.le_refl _) | omega | (simp only [World.size_alloc, World.size_setCell, World.size_drew]; omega) | (simp; omega) | (simp; done))); done) | (simp only [World.size_alloc]; omega) | exact Nat.le_refl _))))
  clear hb
  go_wp2
  go_ret
  exact ⟨rfl, B.out⟩
end Go.Proofs.Ytcgdhankllphgaa
