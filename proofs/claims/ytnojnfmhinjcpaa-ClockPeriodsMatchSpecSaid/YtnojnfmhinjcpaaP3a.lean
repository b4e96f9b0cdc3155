import Derived.Test.YtnojnfmhinjcpaaN
namespace Go.Proofs.Ytnojnfmhinjcpaa
set_option linter.unusedVariables false
set_option linter.unusedSimpArgs false
open Go.RowKit Go.Sort
theorem meet_both (a b c d : Int) : ∃ p q r, (∀ W : World, Calls Try.prog 13 #[per a b, per c d] W fun e w' => e = .returned (.tuple #[per p q, .bool r]) ∧ Below W.heap.size W w') ∧ (∀ W : World, Calls Try.prog 14 #[per a b, per c d] W fun e w' => e = .returned (met p q r) ∧ Below W.heap.size W w') := by
  by_cases h : min b d < max a c
  · exact ⟨_, _, _, fun W => meet_no a b c d W h, fun W => meetref_no a b c d W h⟩
  · exact ⟨_, _, _, fun W => meet_yes a b c d W (by omega), fun W => meetref_yes a b c d W (by omega)⟩
theorem hull_both (a b c d : Int) : ∃ p q, (∀ W : World, Calls Try.prog 15 #[per a b, per c d] W fun e w' => e = .returned (per p q) ∧ Below W.heap.size W w') ∧ (∀ W : World, Calls Try.prog 16 #[per a b, per c d] W fun e w' => e = .returned (per p q) ∧ Below W.heap.size W w') :=
  ⟨_, _, fun W => hull_any a b c d W, fun W => hull_ref a b c d W⟩
theorem widen_both (a b n : Int) (h : validB a b = true) (k : 0 ≤ n ∧ n ≤ 1099511627776) : ∃ p q, (∀ W : World, Calls Try.prog 17 #[per a b, .int .i64 n] W fun e w' => e = .returned (per p q) ∧ Below W.heap.size W w') ∧ (∀ W : World, Calls Try.prog 18 #[per a b, .int .i64 n] W fun e w' => e = .returned (per p q) ∧ Below W.heap.size W w') := by
  have h : 0 ≤ a ∧ a ≤ b ∧ b ≤ 1099511627776 := by simpa [validB] using h
  exact ⟨_, _, fun W => widen_any a b n W h k, fun W => widen_ref' a b n W h k⟩
set_option maxHeartbeats 1000000 in
theorem periods_one (a b c d n t : Int) (w : World) (hs : ∀ W, Sane W) (h : validB a b = false) :
    Calls Try.prog 3 #[per a b, per c d, .int .i64 n, .int .i64 t] w fun e w' => e = .returned (.bool true) ∧ Below w.heap.size w w' := by
  have HS := Lib.hid hs; clear hs
  have H := Lib.hid h; clear h
  obtain ⟨v, hv⟩ : ∃ z, validB c d = z := ⟨_, rfl⟩
  have V := Lib.hid hv; clear hv
  go_enter Try.func3, Try.ntmps3
  go_wp2_with fail
  refine (valid_ref _ _ _).mono ?_
  rintro e w1 ⟨rfl, hb1⟩
  rw [H.out]
  have B1 : Below w.heap.size w w1 := bt (by (repeat' (first | (with_reducible exact Below.refl _ _) | (with_reducible assumption) | (with_reducible refine Below.alloc ?_ ?_ _) | (with_reducible refine Below.drew ?_) | (with_reducible refine below_dn ?_) | (with_reducible refine Below.setCell ?_ ?_ _) | (with_reducible exact Nat.le_refl _) | omega | (simp only [World.size_alloc, World.size_setCell, World.size_drew]; omega) | (simp; omega) | (simp; done)))) hb1
  have s1 : w.heap.size ≤ w1.heap.size := B1.size
  have z1_p : w.heap.size < w1.heap.size := by (have := hb1.size; (try simp at this); omega)
  have x1_p : w.heap.size ≤ w1.heap.size := Nat.le_of_lt z1_p
  have d1_p_0 : w1.cell? ⟨w.heap.size, 0, none⟩ = some (.int .i64 a) := keep (by go_cell) hb1
  have d1_p_1 : w1.cell? ⟨w.heap.size, 1, none⟩ = some (.int .i64 b) := keep (by go_cell) hb1
  have z1_q : w.heap.size + 1 < w1.heap.size := by (have := hb1.size; (try simp at this); omega)
  have x1_q : w.heap.size + 1 ≤ w1.heap.size := Nat.le_of_lt z1_q
  have d1_q_0 : w1.cell? ⟨w.heap.size + 1, 0, none⟩ = some (.int .i64 c) := keep (by go_cell) hb1
  have d1_q_1 : w1.cell? ⟨w.heap.size + 1, 1, none⟩ = some (.int .i64 d) := keep (by go_cell) hb1
  clear hb1
  go_wp2_with fail
  refine (valid_ref _ _ _).mono ?_
  rintro e w2 ⟨rfl, hb2⟩
  rw [V.out]
  have B2 : Below w.heap.size w w2 := bt (by (repeat' (first | (with_reducible exact Below.refl _ _) | (with_reducible assumption) | (with_reducible refine Below.alloc ?_ ?_ _) | (with_reducible refine Below.drew ?_) | (with_reducible refine below_dn ?_) | (with_reducible refine Below.setCell ?_ ?_ _) | (with_reducible exact Nat.le_refl _) | omega | (simp only [World.size_alloc, World.size_setCell, World.size_drew]; omega) | (simp; omega) | (simp; done)))) hb2
  have s2 : w.heap.size ≤ w2.heap.size := B2.size
  have z2_p : w.heap.size < w2.heap.size := by (have := hb2.size; (try simp at this); omega)
  have x2_p : w.heap.size ≤ w2.heap.size := Nat.le_of_lt z2_p
  have d2_p_0 : w2.cell? ⟨w.heap.size, 0, none⟩ = some (.int .i64 a) := keep (by go_cell) hb2
  have d2_p_1 : w2.cell? ⟨w.heap.size, 1, none⟩ = some (.int .i64 b) := keep (by go_cell) hb2
  have z2_q : w.heap.size + 1 < w2.heap.size := by (have := hb2.size; (try simp at this); omega)
  have x2_q : w.heap.size + 1 ≤ w2.heap.size := Nat.le_of_lt z2_q
  have d2_q_0 : w2.cell? ⟨w.heap.size + 1, 0, none⟩ = some (.int .i64 c) := keep (by go_cell) hb2
  have d2_q_1 : w2.cell? ⟨w.heap.size + 1, 1, none⟩ = some (.int .i64 d) := keep (by go_cell) hb2
  clear hb2 d1_p_0 d1_p_1 d1_q_0 d1_q_1
  go_wp2_with fail
  refine (valid_any _ _ _).mono ?_
  rintro e w3 ⟨rfl, hb3⟩
  rw [H.out]
  have B3 : Below w.heap.size w w3 := bt (by (repeat' (first | (with_reducible exact Below.refl _ _) | (with_reducible assumption) | (with_reducible refine Below.alloc ?_ ?_ _) | (with_reducible refine Below.drew ?_) | (with_reducible refine below_dn ?_) | (with_reducible refine Below.setCell ?_ ?_ _) | (with_reducible exact Nat.le_refl _) | omega | (simp only [World.size_alloc, World.size_setCell, World.size_drew]; omega) | (simp; omega) | (simp; done)))) hb3
  have s3 : w.heap.size ≤ w3.heap.size := B3.size
  have z3_p : w.heap.size < w3.heap.size := by (have := hb3.size; (try simp at this); omega)
  have x3_p : w.heap.size ≤ w3.heap.size := Nat.le_of_lt z3_p
  have d3_p_0 : w3.cell? ⟨w.heap.size, 0, none⟩ = some (.int .i64 a) := keep (by go_cell) hb3
  have d3_p_1 : w3.cell? ⟨w.heap.size, 1, none⟩ = some (.int .i64 b) := keep (by go_cell) hb3
  have z3_q : w.heap.size + 1 < w3.heap.size := by (have := hb3.size; (try simp at this); omega)
  have x3_q : w.heap.size + 1 ≤ w3.heap.size := Nat.le_of_lt z3_q
  have d3_q_0 : w3.cell? ⟨w.heap.size + 1, 0, none⟩ = some (.int .i64 c) := keep (by go_cell) hb3
  have d3_q_1 : w3.cell? ⟨w.heap.size + 1, 1, none⟩ = some (.int .i64 d) := keep (by go_cell) hb3
  clear hb3 d2_p_0 d2_p_1 d2_q_0 d2_q_1
  go_wp2_with fail
  refine (valid_any _ _ _).mono ?_
  rintro e w4 ⟨rfl, hb4⟩
  rw [V.out]
  have B4 : Below w.heap.size w w4 := bt (by (repeat' (first | (with_reducible exact Below.refl _ _) | (with_reducible assumption) | (with_reducible refine Below.alloc ?_ ?_ _) | (with_reducible refine Below.drew ?_) | (with_reducible refine below_dn ?_) | (with_reducible refine Below.setCell ?_ ?_ _) | (with_reducible exact Nat.le_refl _) | omega | (simp only [World.size_alloc, World.size_setCell, World.size_drew]; omega) | (simp; omega) | (simp; done)))) hb4
  have s4 : w.heap.size ≤ w4.heap.size := B4.size
  have z4_p : w.heap.size < w4.heap.size := by (have := hb4.size; (try simp at this); omega)
  have x4_p : w.heap.size ≤ w4.heap.size := Nat.le_of_lt z4_p
  have d4_p_0 : w4.cell? ⟨w.heap.size, 0, none⟩ = some (.int .i64 a) := keep (by go_cell) hb4
  have d4_p_1 : w4.cell? ⟨w.heap.size, 1, none⟩ = some (.int .i64 b) := keep (by go_cell) hb4
  have z4_q : w.heap.size + 1 < w4.heap.size := by (have := hb4.size; (try simp at this); omega)
  have x4_q : w.heap.size + 1 ≤ w4.heap.size := Nat.le_of_lt z4_q
  have d4_q_0 : w4.cell? ⟨w.heap.size + 1, 0, none⟩ = some (.int .i64 c) := keep (by go_cell) hb4
  have d4_q_1 : w4.cell? ⟨w.heap.size + 1, 1, none⟩ = some (.int .i64 d) := keep (by go_cell) hb4
  clear hb4 d3_p_0 d3_p_1 d3_q_0 d3_q_1
  cases v
  all_goals
    go_wp2_with fail
    refine (HS.out _).mono ?_
    rintro e w5 ⟨rfl, hb5⟩
    have B5 : Below w.heap.size w w5 := bt (by (repeat' (first | (with_reducible exact Below.refl _ _) | (with_reducible assumption) | (with_reducible refine Below.alloc ?_ ?_ _) | (with_reducible refine Below.drew ?_) | (with_reducible refine below_dn ?_) | (with_reducible refine Below.setCell ?_ ?_ _) | (with_reducible exact Nat.le_refl _) | omega | (simp only [World.size_alloc, World.size_setCell, World.size_drew]; omega) | (simp; omega) | (simp; done)))) hb5
    have s5 : w.heap.size ≤ w5.heap.size := B5.size
    have z5_p : w.heap.size < w5.heap.size := by (have := hb5.size; (try simp at this); omega)
    have x5_p : w.heap.size ≤ w5.heap.size := Nat.le_of_lt z5_p
    have d5_p_0 : w5.cell? ⟨w.heap.size, 0, none⟩ = some (.int .i64 a) := keep (by go_cell) hb5
    have d5_p_1 : w5.cell? ⟨w.heap.size, 1, none⟩ = some (.int .i64 b) := keep (by go_cell) hb5
    have z5_q : w.heap.size + 1 < w5.heap.size := by (have := hb5.size; (try simp at this); omega)
    have x5_q : w.heap.size + 1 ≤ w5.heap.size := Nat.le_of_lt z5_q
    have d5_q_0 : w5.cell? ⟨w.heap.size + 1, 0, none⟩ = some (.int .i64 c) := keep (by go_cell) hb5
    have d5_q_1 : w5.cell? ⟨w.heap.size + 1, 1, none⟩ = some (.int .i64 d) := keep (by go_cell) hb5
    clear hb5 d4_p_0 d4_p_1 d4_q_0 d4_q_1
    go_wp2
    all_goals
      go_ret
      exact ⟨ret_bool (by first | rfl | (apply decide_eq_true; omega) | (simp; omega)), by (repeat' (first | (with_reducible exact Below.refl _ _) | (with_reducible assumption) | (with_reducible refine Below.alloc ?_ ?_ _) | (with_reducible refine Below.drew ?_) | (with_reducible refine below_dn ?_) | (with_reducible refine Below.setCell ?_ ?_ _) | (with_reducible exact Nat.le_refl _) | omega | (simp only [World.size_alloc, World.size_setCell, World.size_drew]; omega) | (simp; omega) | (simp; done)))⟩
set_option maxHeartbeats 1000000 in
theorem periods_two (a b c d n t : Int) (w : World) (hs : ∀ W, Sane W) (h : validB a b = true) (k : validB c d = false) :
    Calls Try.prog 3 #[per a b, per c d, .int .i64 n, .int .i64 t] w fun e w' => e = .returned (.bool true) ∧ Below w.heap.size w w' := by
  have HS := Lib.hid hs; clear hs
  have H := Lib.hid h; clear h
  have V := Lib.hid k; clear k
  go_enter Try.func3, Try.ntmps3
  go_wp2_with fail
  refine (valid_ref _ _ _).mono ?_
  rintro e w1 ⟨rfl, hb1⟩
  rw [H.out]
  have B1 : Below w.heap.size w w1 := bt (by (repeat' (first | (with_reducible exact Below.refl _ _) | (with_reducible assumption) | (with_reducible refine Below.alloc ?_ ?_ _) | (with_reducible refine Below.drew ?_) | (with_reducible refine below_dn ?_) | (with_reducible refine Below.setCell ?_ ?_ _) | (with_reducible exact Nat.le_refl _) | omega | (simp only [World.size_alloc, World.size_setCell, World.size_drew]; omega) | (simp; omega) | (simp; done)))) hb1
  have s1 : w.heap.size ≤ w1.heap.size := B1.size
  have z1_p : w.heap.size < w1.heap.size := by (have := hb1.size; (try simp at this); omega)
  have x1_p : w.heap.size ≤ w1.heap.size := Nat.le_of_lt z1_p
  have d1_p_0 : w1.cell? ⟨w.heap.size, 0, none⟩ = some (.int .i64 a) := keep (by go_cell) hb1
  have d1_p_1 : w1.cell? ⟨w.heap.size, 1, none⟩ = some (.int .i64 b) := keep (by go_cell) hb1
  have z1_q : w.heap.size + 1 < w1.heap.size := by (have := hb1.size; (try simp at this); omega)
  have x1_q : w.heap.size + 1 ≤ w1.heap.size := Nat.le_of_lt z1_q
  have d1_q_0 : w1.cell? ⟨w.heap.size + 1, 0, none⟩ = some (.int .i64 c) := keep (by go_cell) hb1
  have d1_q_1 : w1.cell? ⟨w.heap.size + 1, 1, none⟩ = some (.int .i64 d) := keep (by go_cell) hb1
  clear hb1
  go_wp2_with fail
  refine (valid_ref _ _ _).mono ?_
  rintro e w2 ⟨rfl, hb2⟩
  rw [V.out]
  have B2 : Below w.heap.size w w2 := bt (by (repeat' (first | (with_reducible exact Below.refl _ _) | (with_reducible assumption) | (with_reducible refine Below.alloc ?_ ?_ _) | (with_reducible refine Below.drew ?_) | (with_reducible refine below_dn ?_) | (with_reducible refine Below.setCell ?_ ?_ _) | (with_reducible exact Nat.le_refl _) | omega | (simp only [World.size_alloc, World.size_setCell, World.size_drew]; omega) | (simp; omega) | (simp; done)))) hb2
  have s2 : w.heap.size ≤ w2.heap.size := B2.size
  have z2_p : w.heap.size < w2.heap.size := by (have := hb2.size; (try simp at this); omega)
  have x2_p : w.heap.size ≤ w2.heap.size := Nat.le_of_lt z2_p
  have d2_p_0 : w2.cell? ⟨w.heap.size, 0, none⟩ = some (.int .i64 a) := keep (by go_cell) hb2
  have d2_p_1 : w2.cell? ⟨w.heap.size, 1, none⟩ = some (.int .i64 b) := keep (by go_cell) hb2
  have z2_q : w.heap.size + 1 < w2.heap.size := by (have := hb2.size; (try simp at this); omega)
  have x2_q : w.heap.size + 1 ≤ w2.heap.size := Nat.le_of_lt z2_q
  have d2_q_0 : w2.cell? ⟨w.heap.size + 1, 0, none⟩ = some (.int .i64 c) := keep (by go_cell) hb2
  have d2_q_1 : w2.cell? ⟨w.heap.size + 1, 1, none⟩ = some (.int .i64 d) := keep (by go_cell) hb2
  clear hb2 d1_p_0 d1_p_1 d1_q_0 d1_q_1
  go_wp2_with fail
  refine (valid_any _ _ _).mono ?_
  rintro e w3 ⟨rfl, hb3⟩
  rw [H.out]
  have B3 : Below w.heap.size w w3 := bt (by (repeat' (first | (with_reducible exact Below.refl _ _) | (with_reducible assumption) | (with_reducible refine Below.alloc ?_ ?_ _) | (with_reducible refine Below.drew ?_) | (with_reducible refine below_dn ?_) | (with_reducible refine Below.setCell ?_ ?_ _) | (with_reducible exact Nat.le_refl _) | omega | (simp only [World.size_alloc, World.size_setCell, World.size_drew]; omega) | (simp; omega) | (simp; done)))) hb3
  have s3 : w.heap.size ≤ w3.heap.size := B3.size
  have z3_p : w.heap.size < w3.heap.size := by (have := hb3.size; (try simp at this); omega)
  have x3_p : w.heap.size ≤ w3.heap.size := Nat.le_of_lt z3_p
  have d3_p_0 : w3.cell? ⟨w.heap.size, 0, none⟩ = some (.int .i64 a) := keep (by go_cell) hb3
  have d3_p_1 : w3.cell? ⟨w.heap.size, 1, none⟩ = some (.int .i64 b) := keep (by go_cell) hb3
  have z3_q : w.heap.size + 1 < w3.heap.size := by (have := hb3.size; (try simp at this); omega)
  have x3_q : w.heap.size + 1 ≤ w3.heap.size := Nat.le_of_lt z3_q
  have d3_q_0 : w3.cell? ⟨w.heap.size + 1, 0, none⟩ = some (.int .i64 c) := keep (by go_cell) hb3
  have d3_q_1 : w3.cell? ⟨w.heap.size + 1, 1, none⟩ = some (.int .i64 d) := keep (by go_cell) hb3
  clear hb3 d2_p_0 d2_p_1 d2_q_0 d2_q_1
  go_wp2_with fail
  refine (valid_any _ _ _).mono ?_
  rintro e w4 ⟨rfl, hb4⟩
  rw [V.out]
  have B4 : Below w.heap.size w w4 := bt (by (repeat' (first | (with_reducible exact Below.refl _ _) | (with_reducible assumption) | (with_reducible refine Below.alloc ?_ ?_ _) | (with_reducible refine Below.drew ?_) | (with_reducible refine below_dn ?_) | (with_reducible refine Below.setCell ?_ ?_ _) | (with_reducible exact Nat.le_refl _) | omega | (simp only [World.size_alloc, World.size_setCell, World.size_drew]; omega) | (simp; omega) | (simp; done)))) hb4
  have s4 : w.heap.size ≤ w4.heap.size := B4.size
  have z4_p : w.heap.size < w4.heap.size := by (have := hb4.size; (try simp at this); omega)
  have x4_p : w.heap.size ≤ w4.heap.size := Nat.le_of_lt z4_p
  have d4_p_0 : w4.cell? ⟨w.heap.size, 0, none⟩ = some (.int .i64 a) := keep (by go_cell) hb4
  have d4_p_1 : w4.cell? ⟨w.heap.size, 1, none⟩ = some (.int .i64 b) := keep (by go_cell) hb4
  have z4_q : w.heap.size + 1 < w4.heap.size := by (have := hb4.size; (try simp at this); omega)
  have x4_q : w.heap.size + 1 ≤ w4.heap.size := Nat.le_of_lt z4_q
  have d4_q_0 : w4.cell? ⟨w.heap.size + 1, 0, none⟩ = some (.int .i64 c) := keep (by go_cell) hb4
  have d4_q_1 : w4.cell? ⟨w.heap.size + 1, 1, none⟩ = some (.int .i64 d) := keep (by go_cell) hb4
  clear hb4 d3_p_0 d3_p_1 d3_q_0 d3_q_1
  go_wp2_with fail
  refine (HS.out _).mono ?_
  rintro e w5 ⟨rfl, hb5⟩
  have B5 : Below w.heap.size w w5 := bt (by (repeat' (first | (with_reducible exact Below.refl _ _) | (with_reducible assumption) | (with_reducible refine Below.alloc ?_ ?_ _) | (with_reducible refine Below.drew ?_) | (with_reducible refine below_dn ?_) | (with_reducible refine Below.setCell ?_ ?_ _) | (with_reducible exact Nat.le_refl _) | omega | (simp only [World.size_alloc, World.size_setCell, World.size_drew]; omega) | (simp; omega) | (simp; done)))) hb5
  have s5 : w.heap.size ≤ w5.heap.size := B5.size
  have z5_p : w.heap.size < w5.heap.size := by (have := hb5.size; (try simp at this); omega)
  have x5_p : w.heap.size ≤ w5.heap.size := Nat.le_of_lt z5_p
  have d5_p_0 : w5.cell? ⟨w.heap.size, 0, none⟩ = some (.int .i64 a) := keep (by go_cell) hb5
  have d5_p_1 : w5.cell? ⟨w.heap.size, 1, none⟩ = some (.int .i64 b) := keep (by go_cell) hb5
  have z5_q : w.heap.size + 1 < w5.heap.size := by (have := hb5.size; (try simp at this); omega)
  have x5_q : w.heap.size + 1 ≤ w5.heap.size := Nat.le_of_lt z5_q
  have d5_q_0 : w5.cell? ⟨w.heap.size + 1, 0, none⟩ = some (.int .i64 c) := keep (by go_cell) hb5
  have d5_q_1 : w5.cell? ⟨w.heap.size + 1, 1, none⟩ = some (.int .i64 d) := keep (by go_cell) hb5
  clear hb5 d4_p_0 d4_p_1 d4_q_0 d4_q_1
  go_wp2
  all_goals
    go_ret
    exact ⟨ret_bool (by first | rfl | (apply decide_eq_true; omega) | (simp; omega)), by (repeat' (first | (with_reducible exact Below.refl _ _) | (with_reducible assumption) | (with_reducible refine Below.alloc ?_ ?_ _) | (with_reducible refine Below.drew ?_) | (with_reducible refine below_dn ?_) | (with_reducible refine Below.setCell ?_ ?_ _) | (with_reducible exact Nat.le_refl _) | omega | (simp only [World.size_alloc, World.size_setCell, World.size_drew]; omega) | (simp; omega) | (simp; done)))⟩
end Go.Proofs.Ytnojnfmhinjcpaa
