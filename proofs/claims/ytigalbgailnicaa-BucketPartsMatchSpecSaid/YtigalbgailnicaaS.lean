/- The examples of the documentation. -/
import Derived.Test.YtigalbgailnicaaX
import Derived.Test.YtigalbgailnicaaY
namespace Go.Proofs.Ytigalbgailnicaa
set_option linter.unusedVariables false
set_option linter.unusedSimpArgs false
open Go.RowKit
theorem s1 (W : World) : Calls Try.prog 9 #[.int .i64 10, .int .i64 3, .int .i64 2, .int .i64 100] W fun e w' => e = .returned (.tuple #[bk 10 3 2 20 100, .int .i64 0]) ∧ Below W.heap.size W w' := by
  have h := new_ok 10 3 2 100 W (by unfold OkB; omega)
  rwa [show (10 * 2 : Int) = 20 by decide +kernel] at h
theorem s2 (W : World) : Calls Try.prog 11 #[bk 10 3 2 20 100, .int .i64 100, .int .i64 10] W fun e w' => e = .returned (.tuple #[bk 10 3 2 0 100, .int .i64 0]) ∧ Below W.heap.size W w' := by
  have h := take_ok 10 3 2 20 100 100 10 W (by unfold OkB; omega) (by omega) (by omega) (by omega) (by omega) (by decide +kernel)
  rwa [show lvl 10 3 2 20 100 100 - 10 * 2 = 0 by decide +kernel] at h
theorem s3 (W : World) : Calls Try.prog 10 #[bk 10 3 2 0 100, .int .i64 101] W fun e w' => e = .returned (.tuple #[bk 10 3 2 3 101, .int .i64 0]) ∧ Below W.heap.size W w' := by
  have h := refill_ok 10 3 2 0 100 101 W (by unfold OkB; omega) (by omega) (by omega)
  rwa [show lvl 10 3 2 0 100 101 = 3 by decide +kernel] at h
theorem s4 (W : World) : Calls Try.prog 10 #[bk 10 3 2 0 100, .int .i64 102] W fun e w' => e = .returned (.tuple #[bk 10 3 2 6 102, .int .i64 0]) ∧ Below W.heap.size W w' := by
  have h := refill_ok 10 3 2 0 100 102 W (by unfold OkB; omega) (by omega) (by omega)
  rwa [show lvl 10 3 2 0 100 102 = 6 by decide +kernel] at h
theorem s5 (W : World) : Calls Try.prog 11 #[bk 10 3 2 3 101, .int .i64 101, .int .i64 2] W fun e w' => e = .returned (.tuple #[bk 0 0 0 0 0, .int .i64 4]) ∧ Below W.heap.size W w' := by
  have h := take_state 10 3 2 3 101 101 2 W (by unfold OkB; omega) (by omega) (by omega) (by omega) (by omega) (by decide +kernel)
  exact h
theorem s6 (W : World) : Calls Try.prog 12 #[bk 10 3 2 0 100, .int .i64 2] W fun e w' => e = .returned (.tuple #[.int .i64 102, .int .i64 0]) ∧ Below W.heap.size W w' := by
  have h := wait_at 10 3 2 0 100 2 W (by unfold OkB; omega) (by omega) (by omega) (by omega) (by omega) (by omega) (by decide +kernel)
  rwa [show (100 + (2 * 2 - 0 + 3 - 1) / 3 : Int) = 102 by decide +kernel] at h
theorem s7 (W : World) : Calls Try.prog 12 #[bk 10 3 2 0 100, .int .i64 11] W fun e w' => e = .returned (.tuple #[.int .i64 0, .int .i64 2]) ∧ Below W.heap.size W w' := by
  have h := wait_limit 10 3 2 0 100 11 W (by unfold OkB; omega) (by omega) (by omega) (by omega)
  exact h
theorem s8 (W : World) : Calls Try.prog 13 #[bk 10 3 2 20 100, .int .i64 100, .int .i64 103] W fun e w' => e = .returned (.tuple #[.int .i64 13, .int .i64 0]) ∧ Below W.heap.size W w' := by
  have h := most_ok 10 3 2 20 100 100 103 W (by unfold OkB; omega) (by omega) (by omega) (by omega) (by omega)
  rwa [show (lvl 10 3 2 20 100 100 + 3 * (103 - 1 - 100)) / 2 = 13 by decide +kernel] at h
theorem s9 (W : World) : Calls Try.prog 13 #[bk 10 3 2 20 100, .int .i64 100, .int .i64 100] W fun e w' => e = .returned (.tuple #[.int .i64 0, .int .i64 0]) ∧ Below W.heap.size W w' := by
  have h := most_same 10 3 2 20 100 100 100 W (by unfold OkB; omega) (by omega) (by omega) rfl
  exact h
theorem t1 (W : World) : Calls Try.prog 22 #[bk 10 3 2 3 101] W fun e w' => e = .returned (.int .i64 1) ∧ Below W.heap.size W w' := by
  have h := tokens_ok 10 3 2 3 101 W (by unfold OkB; omega)
  rwa [show (3 / 2 : Int) = 1 by decide +kernel] at h
theorem t2 (W : World) : Calls Try.prog 22 #[bk 10 3 2 6 102] W fun e w' => e = .returned (.int .i64 3) ∧ Below W.heap.size W w' := by
  have h := tokens_ok 10 3 2 6 102 W (by unfold OkB; omega)
  rwa [show (6 / 2 : Int) = 3 by decide +kernel] at h
def Sane (W : World) : Prop := Calls Try.prog 19 #[] W fun e w' => e = .returned (.bool true) ∧ Below W.heap.size W w'
set_option maxHeartbeats 4000000 in
set_option maxRecDepth 100000 in
theorem sane (w : World) : Sane w := by
  unfold Sane
  go_enter Try.func19, Try.ntmps19
  go_wp2_with fail
  refine (s1 _).mono ?_
  rintro e w1 ⟨rfl, hb1⟩
  have B1 : Below w.heap.size w w1 := bt (by (repeat' (first | (with_reducible exact Below.refl _ _) | (with_reducible assumption) | (with_reducible refine Below.alloc ?_ ?_ _) | (with_reducible refine Below.drew ?_) | (with_reducible refine below_dn ?_) | (with_reducible refine Below.setCell ?_ ?_ _) | (with_reducible exact Nat.le_refl _) | omega | (simp only [World.size_alloc, World.size_setCell, World.size_drew]; omega) | (simp; omega) | (simp; done)))) hb1
  have s1 : w.heap.size ≤ w1.heap.size := B1.size
  clear hb1
  go_wp2_with fail
  refine (s2 _).mono ?_
  rintro e w2 ⟨rfl, hb2⟩
  have B2 : Below w.heap.size w w2 := bt (by (repeat' (first | (with_reducible exact Below.refl _ _) | (with_reducible assumption) | (with_reducible refine Below.alloc ?_ ?_ _) | (with_reducible refine Below.drew ?_) | (with_reducible refine below_dn ?_) | (with_reducible refine Below.setCell ?_ ?_ _) | (with_reducible exact Nat.le_refl _) | omega | (simp only [World.size_alloc, World.size_setCell, World.size_drew]; omega) | (simp; omega) | (simp; done)))) hb2
  have s2 : w.heap.size ≤ w2.heap.size := B2.size
  have z2_b : w1.heap.size < w2.heap.size := by (have := hb2.size; (try simp at this); omega)
  have x2_b : w1.heap.size ≤ w2.heap.size := Nat.le_of_lt z2_b
  have d2_b_0 : w2.cell? ⟨w1.heap.size, 0, none⟩ = some (.int .i64 10) := keep (by go_cell) hb2
  have d2_b_1 : w2.cell? ⟨w1.heap.size, 1, none⟩ = some (.int .i64 3) := keep (by go_cell) hb2
  have d2_b_2 : w2.cell? ⟨w1.heap.size, 2, none⟩ = some (.int .i64 2) := keep (by go_cell) hb2
  have d2_b_3 : w2.cell? ⟨w1.heap.size, 3, none⟩ = some (.int .i64 20) := keep (by go_cell) hb2
  have d2_b_4 : w2.cell? ⟨w1.heap.size, 4, none⟩ = some (.int .i64 100) := keep (by go_cell) hb2
  clear hb2
  go_wp2_with fail
  refine (s3 _).mono ?_
  rintro e w3 ⟨rfl, hb3⟩
  have B3 : Below w.heap.size w w3 := bt (by (repeat' (first | (with_reducible exact Below.refl _ _) | (with_reducible assumption) | (with_reducible refine Below.alloc ?_ ?_ _) | (with_reducible refine Below.drew ?_) | (with_reducible refine below_dn ?_) | (with_reducible refine Below.setCell ?_ ?_ _) | (with_reducible exact Nat.le_refl _) | omega | (simp only [World.size_alloc, World.size_setCell, World.size_drew]; omega) | (simp; omega) | (simp; done)))) hb3
  have s3 : w.heap.size ≤ w3.heap.size := B3.size
  have z3_b : w1.heap.size < w3.heap.size := by (have := hb3.size; (try simp at this); omega)
  have x3_b : w1.heap.size ≤ w3.heap.size := Nat.le_of_lt z3_b
  have d3_b_0 : w3.cell? ⟨w1.heap.size, 0, none⟩ = some (.int .i64 10) := keep (by go_cell) hb3
  have d3_b_1 : w3.cell? ⟨w1.heap.size, 1, none⟩ = some (.int .i64 3) := keep (by go_cell) hb3
  have d3_b_2 : w3.cell? ⟨w1.heap.size, 2, none⟩ = some (.int .i64 2) := keep (by go_cell) hb3
  have d3_b_3 : w3.cell? ⟨w1.heap.size, 3, none⟩ = some (.int .i64 20) := keep (by go_cell) hb3
  have d3_b_4 : w3.cell? ⟨w1.heap.size, 4, none⟩ = some (.int .i64 100) := keep (by go_cell) hb3
  have z3_c : w2.heap.size < w3.heap.size := by (have := hb3.size; (try simp at this); omega)
  have x3_c : w2.heap.size ≤ w3.heap.size := Nat.le_of_lt z3_c
  have d3_c_0 : w3.cell? ⟨w2.heap.size, 0, none⟩ = some (.int .i64 10) := keep (by go_cell) hb3
  have d3_c_1 : w3.cell? ⟨w2.heap.size, 1, none⟩ = some (.int .i64 3) := keep (by go_cell) hb3
  have d3_c_2 : w3.cell? ⟨w2.heap.size, 2, none⟩ = some (.int .i64 2) := keep (by go_cell) hb3
  have d3_c_3 : w3.cell? ⟨w2.heap.size, 3, none⟩ = some (.int .i64 0) := keep (by go_cell) hb3
  have d3_c_4 : w3.cell? ⟨w2.heap.size, 4, none⟩ = some (.int .i64 100) := keep (by go_cell) hb3
  clear hb3 d2_b_0 d2_b_1 d2_b_2 d2_b_3 d2_b_4
  go_wp2_with fail
  refine (s4 _).mono ?_
  rintro e w4 ⟨rfl, hb4⟩
  have B4 : Below w.heap.size w w4 := bt (by (repeat' (first | (with_reducible exact Below.refl _ _) | (with_reducible assumption) | (with_reducible refine Below.alloc ?_ ?_ _) | (with_reducible refine Below.drew ?_) | (with_reducible refine below_dn ?_) | (with_reducible refine Below.setCell ?_ ?_ _) | (with_reducible exact Nat.le_refl _) | omega | (simp only [World.size_alloc, World.size_setCell, World.size_drew]; omega) | (simp; omega) | (simp; done)))) hb4
  have s4 : w.heap.size ≤ w4.heap.size := B4.size
  have z4_b : w1.heap.size < w4.heap.size := by (have := hb4.size; (try simp at this); omega)
  have x4_b : w1.heap.size ≤ w4.heap.size := Nat.le_of_lt z4_b
  have d4_b_0 : w4.cell? ⟨w1.heap.size, 0, none⟩ = some (.int .i64 10) := keep (by go_cell) hb4
  have d4_b_1 : w4.cell? ⟨w1.heap.size, 1, none⟩ = some (.int .i64 3) := keep (by go_cell) hb4
  have d4_b_2 : w4.cell? ⟨w1.heap.size, 2, none⟩ = some (.int .i64 2) := keep (by go_cell) hb4
  have d4_b_3 : w4.cell? ⟨w1.heap.size, 3, none⟩ = some (.int .i64 20) := keep (by go_cell) hb4
  have d4_b_4 : w4.cell? ⟨w1.heap.size, 4, none⟩ = some (.int .i64 100) := keep (by go_cell) hb4
  have z4_c : w2.heap.size < w4.heap.size := by (have := hb4.size; (try simp at this); omega)
  have x4_c : w2.heap.size ≤ w4.heap.size := Nat.le_of_lt z4_c
  have d4_c_0 : w4.cell? ⟨w2.heap.size, 0, none⟩ = some (.int .i64 10) := keep (by go_cell) hb4
  have d4_c_1 : w4.cell? ⟨w2.heap.size, 1, none⟩ = some (.int .i64 3) := keep (by go_cell) hb4
  have d4_c_2 : w4.cell? ⟨w2.heap.size, 2, none⟩ = some (.int .i64 2) := keep (by go_cell) hb4
  have d4_c_3 : w4.cell? ⟨w2.heap.size, 3, none⟩ = some (.int .i64 0) := keep (by go_cell) hb4
  have d4_c_4 : w4.cell? ⟨w2.heap.size, 4, none⟩ = some (.int .i64 100) := keep (by go_cell) hb4
  have z4_d : w3.heap.size < w4.heap.size := by (have := hb4.size; (try simp at this); omega)
  have x4_d : w3.heap.size ≤ w4.heap.size := Nat.le_of_lt z4_d
  have d4_d_0 : w4.cell? ⟨w3.heap.size, 0, none⟩ = some (.int .i64 10) := keep (by go_cell) hb4
  have d4_d_1 : w4.cell? ⟨w3.heap.size, 1, none⟩ = some (.int .i64 3) := keep (by go_cell) hb4
  have d4_d_2 : w4.cell? ⟨w3.heap.size, 2, none⟩ = some (.int .i64 2) := keep (by go_cell) hb4
  have d4_d_3 : w4.cell? ⟨w3.heap.size, 3, none⟩ = some (.int .i64 3) := keep (by go_cell) hb4
  have d4_d_4 : w4.cell? ⟨w3.heap.size, 4, none⟩ = some (.int .i64 101) := keep (by go_cell) hb4
  clear hb4 d3_b_0 d3_b_1 d3_b_2 d3_b_3 d3_b_4 d3_c_0 d3_c_1 d3_c_2 d3_c_3 d3_c_4
  go_wp2_with fail
  refine (s5 _).mono ?_
  rintro e w5 ⟨rfl, hb5⟩
  have B5 : Below w.heap.size w w5 := bt (by (repeat' (first | (with_reducible exact Below.refl _ _) | (with_reducible assumption) | (with_reducible refine Below.alloc ?_ ?_ _) | (with_reducible refine Below.drew ?_) | (with_reducible refine below_dn ?_) | (with_reducible refine Below.setCell ?_ ?_ _) | (with_reducible exact Nat.le_refl _) | omega | (simp only [World.size_alloc, World.size_setCell, World.size_drew]; omega) | (simp; omega) | (simp; done)))) hb5
  have s5 : w.heap.size ≤ w5.heap.size := B5.size
  have z5_b : w1.heap.size < w5.heap.size := by (have := hb5.size; (try simp at this); omega)
  have x5_b : w1.heap.size ≤ w5.heap.size := Nat.le_of_lt z5_b
  have d5_b_0 : w5.cell? ⟨w1.heap.size, 0, none⟩ = some (.int .i64 10) := keep (by go_cell) hb5
  have d5_b_1 : w5.cell? ⟨w1.heap.size, 1, none⟩ = some (.int .i64 3) := keep (by go_cell) hb5
  have d5_b_2 : w5.cell? ⟨w1.heap.size, 2, none⟩ = some (.int .i64 2) := keep (by go_cell) hb5
  have d5_b_3 : w5.cell? ⟨w1.heap.size, 3, none⟩ = some (.int .i64 20) := keep (by go_cell) hb5
  have d5_b_4 : w5.cell? ⟨w1.heap.size, 4, none⟩ = some (.int .i64 100) := keep (by go_cell) hb5
  have z5_c : w2.heap.size < w5.heap.size := by (have := hb5.size; (try simp at this); omega)
  have x5_c : w2.heap.size ≤ w5.heap.size := Nat.le_of_lt z5_c
  have d5_c_0 : w5.cell? ⟨w2.heap.size, 0, none⟩ = some (.int .i64 10) := keep (by go_cell) hb5
  have d5_c_1 : w5.cell? ⟨w2.heap.size, 1, none⟩ = some (.int .i64 3) := keep (by go_cell) hb5
  have d5_c_2 : w5.cell? ⟨w2.heap.size, 2, none⟩ = some (.int .i64 2) := keep (by go_cell) hb5
  have d5_c_3 : w5.cell? ⟨w2.heap.size, 3, none⟩ = some (.int .i64 0) := keep (by go_cell) hb5
  have d5_c_4 : w5.cell? ⟨w2.heap.size, 4, none⟩ = some (.int .i64 100) := keep (by go_cell) hb5
  have z5_d : w3.heap.size < w5.heap.size := by (have := hb5.size; (try simp at this); omega)
  have x5_d : w3.heap.size ≤ w5.heap.size := Nat.le_of_lt z5_d
  have d5_d_0 : w5.cell? ⟨w3.heap.size, 0, none⟩ = some (.int .i64 10) := keep (by go_cell) hb5
  have d5_d_1 : w5.cell? ⟨w3.heap.size, 1, none⟩ = some (.int .i64 3) := keep (by go_cell) hb5
  have d5_d_2 : w5.cell? ⟨w3.heap.size, 2, none⟩ = some (.int .i64 2) := keep (by go_cell) hb5
  have d5_d_3 : w5.cell? ⟨w3.heap.size, 3, none⟩ = some (.int .i64 3) := keep (by go_cell) hb5
  have d5_d_4 : w5.cell? ⟨w3.heap.size, 4, none⟩ = some (.int .i64 101) := keep (by go_cell) hb5
  have z5_x : w4.heap.size < w5.heap.size := by (have := hb5.size; (try simp at this); omega)
  have x5_x : w4.heap.size ≤ w5.heap.size := Nat.le_of_lt z5_x
  have d5_x_0 : w5.cell? ⟨w4.heap.size, 0, none⟩ = some (.int .i64 10) := keep (by go_cell) hb5
  have d5_x_1 : w5.cell? ⟨w4.heap.size, 1, none⟩ = some (.int .i64 3) := keep (by go_cell) hb5
  have d5_x_2 : w5.cell? ⟨w4.heap.size, 2, none⟩ = some (.int .i64 2) := keep (by go_cell) hb5
  have d5_x_3 : w5.cell? ⟨w4.heap.size, 3, none⟩ = some (.int .i64 6) := keep (by go_cell) hb5
  have d5_x_4 : w5.cell? ⟨w4.heap.size, 4, none⟩ = some (.int .i64 102) := keep (by go_cell) hb5
  clear hb5 d4_b_0 d4_b_1 d4_b_2 d4_b_3 d4_b_4 d4_c_0 d4_c_1 d4_c_2 d4_c_3 d4_c_4 d4_d_0 d4_d_1 d4_d_2 d4_d_3 d4_d_4
  go_wp2_with fail
  refine (s6 _).mono ?_
  rintro e w6 ⟨rfl, hb6⟩
  have B6 : Below w.heap.size w w6 := bt (by (repeat' (first | (with_reducible exact Below.refl _ _) | (with_reducible assumption) | (with_reducible refine Below.alloc ?_ ?_ _) | (with_reducible refine Below.drew ?_) | (with_reducible refine below_dn ?_) | (with_reducible refine Below.setCell ?_ ?_ _) | (with_reducible exact Nat.le_refl _) | omega | (simp only [World.size_alloc, World.size_setCell, World.size_drew]; omega) | (simp; omega) | (simp; done)))) hb6
  have s6 : w.heap.size ≤ w6.heap.size := B6.size
  have z6_b : w1.heap.size < w6.heap.size := by (have := hb6.size; (try simp at this); omega)
  have x6_b : w1.heap.size ≤ w6.heap.size := Nat.le_of_lt z6_b
  have d6_b_0 : w6.cell? ⟨w1.heap.size, 0, none⟩ = some (.int .i64 10) := keep (by go_cell) hb6
  have d6_b_1 : w6.cell? ⟨w1.heap.size, 1, none⟩ = some (.int .i64 3) := keep (by go_cell) hb6
  have d6_b_2 : w6.cell? ⟨w1.heap.size, 2, none⟩ = some (.int .i64 2) := keep (by go_cell) hb6
  have d6_b_3 : w6.cell? ⟨w1.heap.size, 3, none⟩ = some (.int .i64 20) := keep (by go_cell) hb6
  have d6_b_4 : w6.cell? ⟨w1.heap.size, 4, none⟩ = some (.int .i64 100) := keep (by go_cell) hb6
  have z6_c : w2.heap.size < w6.heap.size := by (have := hb6.size; (try simp at this); omega)
  have x6_c : w2.heap.size ≤ w6.heap.size := Nat.le_of_lt z6_c
  have d6_c_0 : w6.cell? ⟨w2.heap.size, 0, none⟩ = some (.int .i64 10) := keep (by go_cell) hb6
  have d6_c_1 : w6.cell? ⟨w2.heap.size, 1, none⟩ = some (.int .i64 3) := keep (by go_cell) hb6
  have d6_c_2 : w6.cell? ⟨w2.heap.size, 2, none⟩ = some (.int .i64 2) := keep (by go_cell) hb6
  have d6_c_3 : w6.cell? ⟨w2.heap.size, 3, none⟩ = some (.int .i64 0) := keep (by go_cell) hb6
  have d6_c_4 : w6.cell? ⟨w2.heap.size, 4, none⟩ = some (.int .i64 100) := keep (by go_cell) hb6
  have z6_d : w3.heap.size < w6.heap.size := by (have := hb6.size; (try simp at this); omega)
  have x6_d : w3.heap.size ≤ w6.heap.size := Nat.le_of_lt z6_d
  have d6_d_0 : w6.cell? ⟨w3.heap.size, 0, none⟩ = some (.int .i64 10) := keep (by go_cell) hb6
  have d6_d_1 : w6.cell? ⟨w3.heap.size, 1, none⟩ = some (.int .i64 3) := keep (by go_cell) hb6
  have d6_d_2 : w6.cell? ⟨w3.heap.size, 2, none⟩ = some (.int .i64 2) := keep (by go_cell) hb6
  have d6_d_3 : w6.cell? ⟨w3.heap.size, 3, none⟩ = some (.int .i64 3) := keep (by go_cell) hb6
  have d6_d_4 : w6.cell? ⟨w3.heap.size, 4, none⟩ = some (.int .i64 101) := keep (by go_cell) hb6
  have z6_x : w4.heap.size < w6.heap.size := by (have := hb6.size; (try simp at this); omega)
  have x6_x : w4.heap.size ≤ w6.heap.size := Nat.le_of_lt z6_x
  have d6_x_0 : w6.cell? ⟨w4.heap.size, 0, none⟩ = some (.int .i64 10) := keep (by go_cell) hb6
  have d6_x_1 : w6.cell? ⟨w4.heap.size, 1, none⟩ = some (.int .i64 3) := keep (by go_cell) hb6
  have d6_x_2 : w6.cell? ⟨w4.heap.size, 2, none⟩ = some (.int .i64 2) := keep (by go_cell) hb6
  have d6_x_3 : w6.cell? ⟨w4.heap.size, 3, none⟩ = some (.int .i64 6) := keep (by go_cell) hb6
  have d6_x_4 : w6.cell? ⟨w4.heap.size, 4, none⟩ = some (.int .i64 102) := keep (by go_cell) hb6
  clear hb6 d5_b_0 d5_b_1 d5_b_2 d5_b_3 d5_b_4 d5_c_0 d5_c_1 d5_c_2 d5_c_3 d5_c_4 d5_d_0 d5_d_1 d5_d_2 d5_d_3 d5_d_4 d5_x_0 d5_x_1 d5_x_2 d5_x_3 d5_x_4
  go_wp2_with fail
  refine (s7 _).mono ?_
  rintro e w7 ⟨rfl, hb7⟩
  have B7 : Below w.heap.size w w7 := bt (by (repeat' (first | (with_reducible exact Below.refl _ _) | (with_reducible assumption) | (with_reducible refine Below.alloc ?_ ?_ _) | (with_reducible refine Below.drew ?_) | (with_reducible refine below_dn ?_) | (with_reducible refine Below.setCell ?_ ?_ _) | (with_reducible exact Nat.le_refl _) | omega | (simp only [World.size_alloc, World.size_setCell, World.size_drew]; omega) | (simp; omega) | (simp; done)))) hb7
  have s7 : w.heap.size ≤ w7.heap.size := B7.size
  have z7_b : w1.heap.size < w7.heap.size := by (have := hb7.size; (try simp at this); omega)
  have x7_b : w1.heap.size ≤ w7.heap.size := Nat.le_of_lt z7_b
  have d7_b_0 : w7.cell? ⟨w1.heap.size, 0, none⟩ = some (.int .i64 10) := keep (by go_cell) hb7
  have d7_b_1 : w7.cell? ⟨w1.heap.size, 1, none⟩ = some (.int .i64 3) := keep (by go_cell) hb7
  have d7_b_2 : w7.cell? ⟨w1.heap.size, 2, none⟩ = some (.int .i64 2) := keep (by go_cell) hb7
  have d7_b_3 : w7.cell? ⟨w1.heap.size, 3, none⟩ = some (.int .i64 20) := keep (by go_cell) hb7
  have d7_b_4 : w7.cell? ⟨w1.heap.size, 4, none⟩ = some (.int .i64 100) := keep (by go_cell) hb7
  have z7_c : w2.heap.size < w7.heap.size := by (have := hb7.size; (try simp at this); omega)
  have x7_c : w2.heap.size ≤ w7.heap.size := Nat.le_of_lt z7_c
  have d7_c_0 : w7.cell? ⟨w2.heap.size, 0, none⟩ = some (.int .i64 10) := keep (by go_cell) hb7
  have d7_c_1 : w7.cell? ⟨w2.heap.size, 1, none⟩ = some (.int .i64 3) := keep (by go_cell) hb7
  have d7_c_2 : w7.cell? ⟨w2.heap.size, 2, none⟩ = some (.int .i64 2) := keep (by go_cell) hb7
  have d7_c_3 : w7.cell? ⟨w2.heap.size, 3, none⟩ = some (.int .i64 0) := keep (by go_cell) hb7
  have d7_c_4 : w7.cell? ⟨w2.heap.size, 4, none⟩ = some (.int .i64 100) := keep (by go_cell) hb7
  have z7_d : w3.heap.size < w7.heap.size := by (have := hb7.size; (try simp at this); omega)
  have x7_d : w3.heap.size ≤ w7.heap.size := Nat.le_of_lt z7_d
  have d7_d_0 : w7.cell? ⟨w3.heap.size, 0, none⟩ = some (.int .i64 10) := keep (by go_cell) hb7
  have d7_d_1 : w7.cell? ⟨w3.heap.size, 1, none⟩ = some (.int .i64 3) := keep (by go_cell) hb7
  have d7_d_2 : w7.cell? ⟨w3.heap.size, 2, none⟩ = some (.int .i64 2) := keep (by go_cell) hb7
  have d7_d_3 : w7.cell? ⟨w3.heap.size, 3, none⟩ = some (.int .i64 3) := keep (by go_cell) hb7
  have d7_d_4 : w7.cell? ⟨w3.heap.size, 4, none⟩ = some (.int .i64 101) := keep (by go_cell) hb7
  have z7_x : w4.heap.size < w7.heap.size := by (have := hb7.size; (try simp at this); omega)
  have x7_x : w4.heap.size ≤ w7.heap.size := Nat.le_of_lt z7_x
  have d7_x_0 : w7.cell? ⟨w4.heap.size, 0, none⟩ = some (.int .i64 10) := keep (by go_cell) hb7
  have d7_x_1 : w7.cell? ⟨w4.heap.size, 1, none⟩ = some (.int .i64 3) := keep (by go_cell) hb7
  have d7_x_2 : w7.cell? ⟨w4.heap.size, 2, none⟩ = some (.int .i64 2) := keep (by go_cell) hb7
  have d7_x_3 : w7.cell? ⟨w4.heap.size, 3, none⟩ = some (.int .i64 6) := keep (by go_cell) hb7
  have d7_x_4 : w7.cell? ⟨w4.heap.size, 4, none⟩ = some (.int .i64 102) := keep (by go_cell) hb7
  clear hb7 d6_b_0 d6_b_1 d6_b_2 d6_b_3 d6_b_4 d6_c_0 d6_c_1 d6_c_2 d6_c_3 d6_c_4 d6_d_0 d6_d_1 d6_d_2 d6_d_3 d6_d_4 d6_x_0 d6_x_1 d6_x_2 d6_x_3 d6_x_4
  go_wp2_with fail
  refine (s8 _).mono ?_
  rintro e w8 ⟨rfl, hb8⟩
  have B8 : Below w.heap.size w w8 := bt (by (repeat' (first | (with_reducible exact Below.refl _ _) | (with_reducible assumption) | (with_reducible refine Below.alloc ?_ ?_ _) | (with_reducible refine Below.drew ?_) | (with_reducible refine below_dn ?_) | (with_reducible refine Below.setCell ?_ ?_ _) | (with_reducible exact Nat.le_refl _) | omega | (simp only [World.size_alloc, World.size_setCell, World.size_drew]; omega) | (simp; omega) | (simp; done)))) hb8
  have s8 : w.heap.size ≤ w8.heap.size := B8.size
  have z8_b : w1.heap.size < w8.heap.size := by (have := hb8.size; (try simp at this); omega)
  have x8_b : w1.heap.size ≤ w8.heap.size := Nat.le_of_lt z8_b
  have d8_b_0 : w8.cell? ⟨w1.heap.size, 0, none⟩ = some (.int .i64 10) := keep (by go_cell) hb8
  have d8_b_1 : w8.cell? ⟨w1.heap.size, 1, none⟩ = some (.int .i64 3) := keep (by go_cell) hb8
  have d8_b_2 : w8.cell? ⟨w1.heap.size, 2, none⟩ = some (.int .i64 2) := keep (by go_cell) hb8
  have d8_b_3 : w8.cell? ⟨w1.heap.size, 3, none⟩ = some (.int .i64 20) := keep (by go_cell) hb8
  have d8_b_4 : w8.cell? ⟨w1.heap.size, 4, none⟩ = some (.int .i64 100) := keep (by go_cell) hb8
  have z8_c : w2.heap.size < w8.heap.size := by (have := hb8.size; (try simp at this); omega)
  have x8_c : w2.heap.size ≤ w8.heap.size := Nat.le_of_lt z8_c
  have d8_c_0 : w8.cell? ⟨w2.heap.size, 0, none⟩ = some (.int .i64 10) := keep (by go_cell) hb8
  have d8_c_1 : w8.cell? ⟨w2.heap.size, 1, none⟩ = some (.int .i64 3) := keep (by go_cell) hb8
  have d8_c_2 : w8.cell? ⟨w2.heap.size, 2, none⟩ = some (.int .i64 2) := keep (by go_cell) hb8
  have d8_c_3 : w8.cell? ⟨w2.heap.size, 3, none⟩ = some (.int .i64 0) := keep (by go_cell) hb8
  have d8_c_4 : w8.cell? ⟨w2.heap.size, 4, none⟩ = some (.int .i64 100) := keep (by go_cell) hb8
  have z8_d : w3.heap.size < w8.heap.size := by (have := hb8.size; (try simp at this); omega)
  have x8_d : w3.heap.size ≤ w8.heap.size := Nat.le_of_lt z8_d
  have d8_d_0 : w8.cell? ⟨w3.heap.size, 0, none⟩ = some (.int .i64 10) := keep (by go_cell) hb8
  have d8_d_1 : w8.cell? ⟨w3.heap.size, 1, none⟩ = some (.int .i64 3) := keep (by go_cell) hb8
  have d8_d_2 : w8.cell? ⟨w3.heap.size, 2, none⟩ = some (.int .i64 2) := keep (by go_cell) hb8
  have d8_d_3 : w8.cell? ⟨w3.heap.size, 3, none⟩ = some (.int .i64 3) := keep (by go_cell) hb8
  have d8_d_4 : w8.cell? ⟨w3.heap.size, 4, none⟩ = some (.int .i64 101) := keep (by go_cell) hb8
  have z8_x : w4.heap.size < w8.heap.size := by (have := hb8.size; (try simp at this); omega)
  have x8_x : w4.heap.size ≤ w8.heap.size := Nat.le_of_lt z8_x
  have d8_x_0 : w8.cell? ⟨w4.heap.size, 0, none⟩ = some (.int .i64 10) := keep (by go_cell) hb8
  have d8_x_1 : w8.cell? ⟨w4.heap.size, 1, none⟩ = some (.int .i64 3) := keep (by go_cell) hb8
  have d8_x_2 : w8.cell? ⟨w4.heap.size, 2, none⟩ = some (.int .i64 2) := keep (by go_cell) hb8
  have d8_x_3 : w8.cell? ⟨w4.heap.size, 3, none⟩ = some (.int .i64 6) := keep (by go_cell) hb8
  have d8_x_4 : w8.cell? ⟨w4.heap.size, 4, none⟩ = some (.int .i64 102) := keep (by go_cell) hb8
  clear hb8 d7_b_0 d7_b_1 d7_b_2 d7_b_3 d7_b_4 d7_c_0 d7_c_1 d7_c_2 d7_c_3 d7_c_4 d7_d_0 d7_d_1 d7_d_2 d7_d_3 d7_d_4 d7_x_0 d7_x_1 d7_x_2 d7_x_3 d7_x_4
  go_wp2_with fail
  refine (s9 _).mono ?_
  rintro e w9 ⟨rfl, hb9⟩
  have B9 : Below w.heap.size w w9 := bt (by (repeat' (first | (with_reducible exact Below.refl _ _) | (with_reducible assumption) | (with_reducible refine Below.alloc ?_ ?_ _) | (with_reducible refine Below.drew ?_) | (with_reducible refine below_dn ?_) | (with_reducible refine Below.setCell ?_ ?_ _) | (with_reducible exact Nat.le_refl _) | omega | (simp only [World.size_alloc, World.size_setCell, World.size_drew]; omega) | (simp; omega) | (simp; done)))) hb9
  have s9 : w.heap.size ≤ w9.heap.size := B9.size
  have z9_b : w1.heap.size < w9.heap.size := by (have := hb9.size; (try simp at this); omega)
  have x9_b : w1.heap.size ≤ w9.heap.size := Nat.le_of_lt z9_b
  have d9_b_0 : w9.cell? ⟨w1.heap.size, 0, none⟩ = some (.int .i64 10) := keep (by go_cell) hb9
  have d9_b_1 : w9.cell? ⟨w1.heap.size, 1, none⟩ = some (.int .i64 3) := keep (by go_cell) hb9
  have d9_b_2 : w9.cell? ⟨w1.heap.size, 2, none⟩ = some (.int .i64 2) := keep (by go_cell) hb9
  have d9_b_3 : w9.cell? ⟨w1.heap.size, 3, none⟩ = some (.int .i64 20) := keep (by go_cell) hb9
  have d9_b_4 : w9.cell? ⟨w1.heap.size, 4, none⟩ = some (.int .i64 100) := keep (by go_cell) hb9
  have z9_c : w2.heap.size < w9.heap.size := by (have := hb9.size; (try simp at this); omega)
  have x9_c : w2.heap.size ≤ w9.heap.size := Nat.le_of_lt z9_c
  have d9_c_0 : w9.cell? ⟨w2.heap.size, 0, none⟩ = some (.int .i64 10) := keep (by go_cell) hb9
  have d9_c_1 : w9.cell? ⟨w2.heap.size, 1, none⟩ = some (.int .i64 3) := keep (by go_cell) hb9
  have d9_c_2 : w9.cell? ⟨w2.heap.size, 2, none⟩ = some (.int .i64 2) := keep (by go_cell) hb9
  have d9_c_3 : w9.cell? ⟨w2.heap.size, 3, none⟩ = some (.int .i64 0) := keep (by go_cell) hb9
  have d9_c_4 : w9.cell? ⟨w2.heap.size, 4, none⟩ = some (.int .i64 100) := keep (by go_cell) hb9
  have z9_d : w3.heap.size < w9.heap.size := by (have := hb9.size; (try simp at this); omega)
  have x9_d : w3.heap.size ≤ w9.heap.size := Nat.le_of_lt z9_d
  have d9_d_0 : w9.cell? ⟨w3.heap.size, 0, none⟩ = some (.int .i64 10) := keep (by go_cell) hb9
  have d9_d_1 : w9.cell? ⟨w3.heap.size, 1, none⟩ = some (.int .i64 3) := keep (by go_cell) hb9
  have d9_d_2 : w9.cell? ⟨w3.heap.size, 2, none⟩ = some (.int .i64 2) := keep (by go_cell) hb9
  have d9_d_3 : w9.cell? ⟨w3.heap.size, 3, none⟩ = some (.int .i64 3) := keep (by go_cell) hb9
  have d9_d_4 : w9.cell? ⟨w3.heap.size, 4, none⟩ = some (.int .i64 101) := keep (by go_cell) hb9
  have z9_x : w4.heap.size < w9.heap.size := by (have := hb9.size; (try simp at this); omega)
  have x9_x : w4.heap.size ≤ w9.heap.size := Nat.le_of_lt z9_x
  have d9_x_0 : w9.cell? ⟨w4.heap.size, 0, none⟩ = some (.int .i64 10) := keep (by go_cell) hb9
  have d9_x_1 : w9.cell? ⟨w4.heap.size, 1, none⟩ = some (.int .i64 3) := keep (by go_cell) hb9
  have d9_x_2 : w9.cell? ⟨w4.heap.size, 2, none⟩ = some (.int .i64 2) := keep (by go_cell) hb9
  have d9_x_3 : w9.cell? ⟨w4.heap.size, 3, none⟩ = some (.int .i64 6) := keep (by go_cell) hb9
  have d9_x_4 : w9.cell? ⟨w4.heap.size, 4, none⟩ = some (.int .i64 102) := keep (by go_cell) hb9
  clear hb9 d8_b_0 d8_b_1 d8_b_2 d8_b_3 d8_b_4 d8_c_0 d8_c_1 d8_c_2 d8_c_3 d8_c_4 d8_d_0 d8_d_1 d8_d_2 d8_d_3 d8_d_4 d8_x_0 d8_x_1 d8_x_2 d8_x_3 d8_x_4
  go_wp2_with fail
  refine (split_sample _ _ _ (by go_cell) (by go_cell) (by go_cell) (by go_cell)).mono ?_
  rintro e w10 ⟨g, rfl, k1, k2, hb10⟩
  have B10 : Below w.heap.size w w10 := bt (by (repeat' (first | (with_reducible exact Below.refl _ _) | (with_reducible assumption) | (with_reducible refine Below.alloc ?_ ?_ _) | (with_reducible refine Below.drew ?_) | (with_reducible refine below_dn ?_) | (with_reducible refine Below.setCell ?_ ?_ _) | (with_reducible exact Nat.le_refl _) | omega | (simp only [World.size_alloc, World.size_setCell, World.size_drew]; omega) | (simp; omega) | (simp; done)))) hb10
  have s10 : w.heap.size ≤ w10.heap.size := B10.size
  have z10_c : w2.heap.size < w10.heap.size := by (have := hb10.size; (try simp at this); omega)
  have x10_c : w2.heap.size ≤ w10.heap.size := Nat.le_of_lt z10_c
  have d10_c_0 : w10.cell? ⟨w2.heap.size, 0, none⟩ = some (.int .i64 10) := keep (by go_cell) hb10
  have d10_c_1 : w10.cell? ⟨w2.heap.size, 1, none⟩ = some (.int .i64 3) := keep (by go_cell) hb10
  have d10_c_2 : w10.cell? ⟨w2.heap.size, 2, none⟩ = some (.int .i64 2) := keep (by go_cell) hb10
  have d10_c_3 : w10.cell? ⟨w2.heap.size, 3, none⟩ = some (.int .i64 0) := keep (by go_cell) hb10
  have d10_c_4 : w10.cell? ⟨w2.heap.size, 4, none⟩ = some (.int .i64 100) := keep (by go_cell) hb10
  have z10_d : w3.heap.size < w10.heap.size := by (have := hb10.size; (try simp at this); omega)
  have x10_d : w3.heap.size ≤ w10.heap.size := Nat.le_of_lt z10_d
  have d10_d_0 : w10.cell? ⟨w3.heap.size, 0, none⟩ = some (.int .i64 10) := keep (by go_cell) hb10
  have d10_d_1 : w10.cell? ⟨w3.heap.size, 1, none⟩ = some (.int .i64 3) := keep (by go_cell) hb10
  have d10_d_2 : w10.cell? ⟨w3.heap.size, 2, none⟩ = some (.int .i64 2) := keep (by go_cell) hb10
  have d10_d_3 : w10.cell? ⟨w3.heap.size, 3, none⟩ = some (.int .i64 3) := keep (by go_cell) hb10
  have d10_d_4 : w10.cell? ⟨w3.heap.size, 4, none⟩ = some (.int .i64 101) := keep (by go_cell) hb10
  have z10_x : w4.heap.size < w10.heap.size := by (have := hb10.size; (try simp at this); omega)
  have x10_x : w4.heap.size ≤ w10.heap.size := Nat.le_of_lt z10_x
  have d10_x_0 : w10.cell? ⟨w4.heap.size, 0, none⟩ = some (.int .i64 10) := keep (by go_cell) hb10
  have d10_x_1 : w10.cell? ⟨w4.heap.size, 1, none⟩ = some (.int .i64 3) := keep (by go_cell) hb10
  have d10_x_2 : w10.cell? ⟨w4.heap.size, 2, none⟩ = some (.int .i64 2) := keep (by go_cell) hb10
  have d10_x_3 : w10.cell? ⟨w4.heap.size, 3, none⟩ = some (.int .i64 6) := keep (by go_cell) hb10
  have d10_x_4 : w10.cell? ⟨w4.heap.size, 4, none⟩ = some (.int .i64 102) := keep (by go_cell) hb10
  have z10_b : w1.heap.size < w10.heap.size := by (have := hb10.size; (try simp at this); omega)
  have x10_b : w1.heap.size ≤ w10.heap.size := Nat.le_of_lt z10_b
  have d10_b_0 : w10.cell? ⟨w1.heap.size, 0, none⟩ = some (.int .i64 10) := keep (by go_cell) hb10
  have d10_b_1 : w10.cell? ⟨w1.heap.size, 1, none⟩ = some (.int .i64 3) := keep (by go_cell) hb10
  have d10_b_2 : w10.cell? ⟨w1.heap.size, 2, none⟩ = some (.int .i64 2) := keep (by go_cell) hb10
  have d10_b_3 : w10.cell? ⟨w1.heap.size, 3, none⟩ = some (.int .i64 20) := keep (by go_cell) hb10
  have d10_b_4 : w10.cell? ⟨w1.heap.size, 4, none⟩ = some (.int .i64 100) := keep (by go_cell) hb10
  clear hb10 d9_b_0 d9_b_1 d9_b_2 d9_b_3 d9_b_4 d9_c_0 d9_c_1 d9_c_2 d9_c_3 d9_c_4 d9_d_0 d9_d_1 d9_d_2 d9_d_3 d9_d_4 d9_x_0 d9_x_1 d9_x_2 d9_x_3 d9_x_4
  have zg := block_lt_of_cell k1
  simp only at zg
  go_wp2_with fail
  refine (t1 _).mono ?_
  rintro e w11 ⟨rfl, hb11⟩
  have k3 := keep k1 hb11
  have k4 := keep k2 hb11
  have zg2 := Nat.lt_of_lt_of_le zg hb11.size
  clear k1 k2
  have B11 : Below w.heap.size w w11 := bt (by (repeat' (first | (with_reducible exact Below.refl _ _) | (with_reducible assumption) | (with_reducible refine Below.alloc ?_ ?_ _) | (with_reducible refine Below.drew ?_) | (with_reducible refine below_dn ?_) | (with_reducible refine Below.setCell ?_ ?_ _) | (with_reducible exact Nat.le_refl _) | omega | (simp only [World.size_alloc, World.size_setCell, World.size_drew]; omega) | (simp; omega) | (simp; done)))) hb11
  have s11 : w.heap.size ≤ w11.heap.size := B11.size
  have z11_c : w2.heap.size < w11.heap.size := by (have := hb11.size; (try simp at this); omega)
  have x11_c : w2.heap.size ≤ w11.heap.size := Nat.le_of_lt z11_c
  have d11_c_0 : w11.cell? ⟨w2.heap.size, 0, none⟩ = some (.int .i64 10) := keep (by go_cell) hb11
  have d11_c_1 : w11.cell? ⟨w2.heap.size, 1, none⟩ = some (.int .i64 3) := keep (by go_cell) hb11
  have d11_c_2 : w11.cell? ⟨w2.heap.size, 2, none⟩ = some (.int .i64 2) := keep (by go_cell) hb11
  have d11_c_3 : w11.cell? ⟨w2.heap.size, 3, none⟩ = some (.int .i64 0) := keep (by go_cell) hb11
  have d11_c_4 : w11.cell? ⟨w2.heap.size, 4, none⟩ = some (.int .i64 100) := keep (by go_cell) hb11
  have z11_d : w3.heap.size < w11.heap.size := by (have := hb11.size; (try simp at this); omega)
  have x11_d : w3.heap.size ≤ w11.heap.size := Nat.le_of_lt z11_d
  have d11_d_0 : w11.cell? ⟨w3.heap.size, 0, none⟩ = some (.int .i64 10) := keep (by go_cell) hb11
  have d11_d_1 : w11.cell? ⟨w3.heap.size, 1, none⟩ = some (.int .i64 3) := keep (by go_cell) hb11
  have d11_d_2 : w11.cell? ⟨w3.heap.size, 2, none⟩ = some (.int .i64 2) := keep (by go_cell) hb11
  have d11_d_3 : w11.cell? ⟨w3.heap.size, 3, none⟩ = some (.int .i64 3) := keep (by go_cell) hb11
  have d11_d_4 : w11.cell? ⟨w3.heap.size, 4, none⟩ = some (.int .i64 101) := keep (by go_cell) hb11
  have z11_x : w4.heap.size < w11.heap.size := by (have := hb11.size; (try simp at this); omega)
  have x11_x : w4.heap.size ≤ w11.heap.size := Nat.le_of_lt z11_x
  have d11_x_0 : w11.cell? ⟨w4.heap.size, 0, none⟩ = some (.int .i64 10) := keep (by go_cell) hb11
  have d11_x_1 : w11.cell? ⟨w4.heap.size, 1, none⟩ = some (.int .i64 3) := keep (by go_cell) hb11
  have d11_x_2 : w11.cell? ⟨w4.heap.size, 2, none⟩ = some (.int .i64 2) := keep (by go_cell) hb11
  have d11_x_3 : w11.cell? ⟨w4.heap.size, 3, none⟩ = some (.int .i64 6) := keep (by go_cell) hb11
  have d11_x_4 : w11.cell? ⟨w4.heap.size, 4, none⟩ = some (.int .i64 102) := keep (by go_cell) hb11
  have z11_b : w1.heap.size < w11.heap.size := by (have := hb11.size; (try simp at this); omega)
  have x11_b : w1.heap.size ≤ w11.heap.size := Nat.le_of_lt z11_b
  have d11_b_0 : w11.cell? ⟨w1.heap.size, 0, none⟩ = some (.int .i64 10) := keep (by go_cell) hb11
  have d11_b_1 : w11.cell? ⟨w1.heap.size, 1, none⟩ = some (.int .i64 3) := keep (by go_cell) hb11
  have d11_b_2 : w11.cell? ⟨w1.heap.size, 2, none⟩ = some (.int .i64 2) := keep (by go_cell) hb11
  have d11_b_3 : w11.cell? ⟨w1.heap.size, 3, none⟩ = some (.int .i64 20) := keep (by go_cell) hb11
  have d11_b_4 : w11.cell? ⟨w1.heap.size, 4, none⟩ = some (.int .i64 100) := keep (by go_cell) hb11
  clear hb11 d10_c_0 d10_c_1 d10_c_2 d10_c_3 d10_c_4 d10_d_0 d10_d_1 d10_d_2 d10_d_3 d10_d_4 d10_x_0 d10_x_1 d10_x_2 d10_x_3 d10_x_4 d10_b_0 d10_b_1 d10_b_2 d10_b_3 d10_b_4
  go_wp2_with fail
  refine (t2 _).mono ?_
  rintro e w12 ⟨rfl, hb12⟩
  have k5 := keep k3 hb12
  have k6 := keep k4 hb12
  have zg3 := Nat.lt_of_lt_of_le zg2 hb12.size
  clear k3 k4
  have B12 : Below w.heap.size w w12 := bt (by (repeat' (first | (with_reducible exact Below.refl _ _) | (with_reducible assumption) | (with_reducible refine Below.alloc ?_ ?_ _) | (with_reducible refine Below.drew ?_) | (with_reducible refine below_dn ?_) | (with_reducible refine Below.setCell ?_ ?_ _) | (with_reducible exact Nat.le_refl _) | omega | (simp only [World.size_alloc, World.size_setCell, World.size_drew]; omega) | (simp; omega) | (simp; done)))) hb12
  have s12 : w.heap.size ≤ w12.heap.size := B12.size
  have z12_c : w2.heap.size < w12.heap.size := by (have := hb12.size; (try simp at this); omega)
  have x12_c : w2.heap.size ≤ w12.heap.size := Nat.le_of_lt z12_c
  have d12_c_0 : w12.cell? ⟨w2.heap.size, 0, none⟩ = some (.int .i64 10) := keep (by go_cell) hb12
  have d12_c_1 : w12.cell? ⟨w2.heap.size, 1, none⟩ = some (.int .i64 3) := keep (by go_cell) hb12
  have d12_c_2 : w12.cell? ⟨w2.heap.size, 2, none⟩ = some (.int .i64 2) := keep (by go_cell) hb12
  have d12_c_3 : w12.cell? ⟨w2.heap.size, 3, none⟩ = some (.int .i64 0) := keep (by go_cell) hb12
  have d12_c_4 : w12.cell? ⟨w2.heap.size, 4, none⟩ = some (.int .i64 100) := keep (by go_cell) hb12
  have z12_d : w3.heap.size < w12.heap.size := by (have := hb12.size; (try simp at this); omega)
  have x12_d : w3.heap.size ≤ w12.heap.size := Nat.le_of_lt z12_d
  have d12_d_0 : w12.cell? ⟨w3.heap.size, 0, none⟩ = some (.int .i64 10) := keep (by go_cell) hb12
  have d12_d_1 : w12.cell? ⟨w3.heap.size, 1, none⟩ = some (.int .i64 3) := keep (by go_cell) hb12
  have d12_d_2 : w12.cell? ⟨w3.heap.size, 2, none⟩ = some (.int .i64 2) := keep (by go_cell) hb12
  have d12_d_3 : w12.cell? ⟨w3.heap.size, 3, none⟩ = some (.int .i64 3) := keep (by go_cell) hb12
  have d12_d_4 : w12.cell? ⟨w3.heap.size, 4, none⟩ = some (.int .i64 101) := keep (by go_cell) hb12
  have z12_x : w4.heap.size < w12.heap.size := by (have := hb12.size; (try simp at this); omega)
  have x12_x : w4.heap.size ≤ w12.heap.size := Nat.le_of_lt z12_x
  have d12_x_0 : w12.cell? ⟨w4.heap.size, 0, none⟩ = some (.int .i64 10) := keep (by go_cell) hb12
  have d12_x_1 : w12.cell? ⟨w4.heap.size, 1, none⟩ = some (.int .i64 3) := keep (by go_cell) hb12
  have d12_x_2 : w12.cell? ⟨w4.heap.size, 2, none⟩ = some (.int .i64 2) := keep (by go_cell) hb12
  have d12_x_3 : w12.cell? ⟨w4.heap.size, 3, none⟩ = some (.int .i64 6) := keep (by go_cell) hb12
  have d12_x_4 : w12.cell? ⟨w4.heap.size, 4, none⟩ = some (.int .i64 102) := keep (by go_cell) hb12
  have z12_b : w1.heap.size < w12.heap.size := by (have := hb12.size; (try simp at this); omega)
  have x12_b : w1.heap.size ≤ w12.heap.size := Nat.le_of_lt z12_b
  have d12_b_0 : w12.cell? ⟨w1.heap.size, 0, none⟩ = some (.int .i64 10) := keep (by go_cell) hb12
  have d12_b_1 : w12.cell? ⟨w1.heap.size, 1, none⟩ = some (.int .i64 3) := keep (by go_cell) hb12
  have d12_b_2 : w12.cell? ⟨w1.heap.size, 2, none⟩ = some (.int .i64 2) := keep (by go_cell) hb12
  have d12_b_3 : w12.cell? ⟨w1.heap.size, 3, none⟩ = some (.int .i64 20) := keep (by go_cell) hb12
  have d12_b_4 : w12.cell? ⟨w1.heap.size, 4, none⟩ = some (.int .i64 100) := keep (by go_cell) hb12
  clear hb12 d11_c_0 d11_c_1 d11_c_2 d11_c_3 d11_c_4 d11_d_0 d11_d_1 d11_d_2 d11_d_3 d11_d_4 d11_x_0 d11_x_1 d11_x_2 d11_x_3 d11_x_4 d11_b_0 d11_b_1 d11_b_2 d11_b_3 d11_b_4
  go_wp2
  go_ret
  exact ⟨rfl, by (repeat' (first | (with_reducible exact Below.refl _ _) | (with_reducible assumption) | (with_reducible refine Below.alloc ?_ ?_ _) | (with_reducible refine Below.drew ?_) | (with_reducible refine below_dn ?_) | (with_reducible refine Below.setCell ?_ ?_ _) | (with_reducible exact Nat.le_refl _) | omega | (simp only [World.size_alloc, World.size_setCell, World.size_drew]; omega) | (simp; omega) | (simp; done)))⟩
theorem sane' (W : World) : Calls Try.prog 19 #[] W fun e w' => e = .returned (.bool true) ∧ Below W.heap.size W w' := sane W
end Go.Proofs.Ytigalbgailnicaa
